/-
  Own texts for a law: Shp7 ShpL Shp8 Fi0 Fi1 Fi2 Fi3 SpI1 SpI2 Fi4 Fi5 Shp9
-/
import Derived.Test.YtpipjiinmhopmaaGreatMA06
import Derived.Ground.SlgnProg
import Derived.Shelf.SortG.Plain
import Derived.Shelf.SortG.SortNone
import Derived.Shelf.SlicesG.CompactI
import Derived.Test.YtpipjiinmhopmaaGreatProg
import Derived.Lib.RowBridge
import Derived.Sort.OwnSortedInts
namespace Go.Proofs.YtpipjiinmhopmaaGreat
open Go.RowKit Go.Shelf
set_option linter.all false
set_option maxRecDepth 100000
set_option maxHeartbeats 16000000
namespace Ln
theorem qU {x:Ln}(h:counts x=true)(hk:x.k=7):x.l.length<=3:=by unfold counts at h;rw[ax (by omega),ax (by omega),ay hk]at h;simp at h;exact h.2
theorem Bw {x:Ln}(h:counts x=true):(rd x).length<=1000:=by unfold rd;split;{simp};split;{simp};split;{simp};split;{have:=qU h (by assumption);omega};simp
theorem Ik {x:Ln}(h:¬(1<=x.k/\x.k<=11)):right x=false:=by unfold right;rw[decide_eq_false h];rfl
theorem Ju {x:Ln}(h1:1<=x.k)(h2:x.k<=11):right x=(kW (cn x) x&&(counts x&&((told x).all bx&&place 300 x))):=by unfold right;rw[decide_eq_true ⟨h1,h2⟩];rfl
end Ln
theorem Mo {x:Ln}(h:¬(1<=x.k/\x.k<=11))(sv:Value):dK x sv= .nilIface:=by unfold dK;repeat(rw[ax (by omega)])
theorem rP (x:Ln)(la:Option Addr)(ln lc:Nat)(w:World)(hs:IL w la ln x.l):Calls Tryz.prog 84 #[.agg #[.int .i64 x.k, .int .i64 x.d, .int .i64 x.a, .int .i64 x.b, .int .i64 x.n, .slice la ln lc]] w fun e w'=>e= .returned (if Ln.right x=true then dK x (.slice la ln lc)else .nilIface)/\Below w.heap.size w w':=by have hB:=aA w (.cells #[.int .i64 x.k, .int .i64 x.d, .int .i64 x.a, .int .i64 x.b, .int .i64 x.n, .slice la ln lc] 67);have hA1:gP (w.alloc (.cells #[.int .i64 x.k, .int .i64 x.d, .int .i64 x.a, .int .i64 x.b, .int .i64 x.n, .slice la ln lc] 67)) w.heap.size 67 [.int .i64 x.k, .int .i64 x.d, .int .i64 x.a, .int .i64 x.b, .int .i64 x.n, .slice la ln lc]:=heap_alloc_last w _;have hs1:=hs.kept hB;obtain⟨W1,hW1⟩:∃X,w.alloc (.cells #[.int .i64 x.k, .int .i64 x.d, .int .i64 x.a, .int .i64 x.b, .int .i64 x.n, .slice la ln lc] 67)=X:=⟨_,rfl⟩;rw[hW1]at hA1 hs1 hB;have hcon:=zM x la ln lc W1;have hl:=hs.1;clear hs;have c0:=hA1.cell (j:=0) rfl;have c1:=hA1.cell (j:=1) rfl;have c2:=hA1.cell (j:=2) rfl;have c3:=hA1.cell (j:=3) rfl;have c4:=hA1.cell (j:=4) rfl;have c5:=hA1.cell (j:=5) rfl;by_cases hk:1<=x.k/\x.k<=11;rotate_left;{rw[Mo hk]at hcon;rw[Ln.Ik hk];have HN:Hid (∀v:Value,(if false=true then v else Value.nilIface)= .nilIface):=fun v=>rfl;clear hk hl hs1;go_enter Tryz.func84,Tryz.ntmps84;go_wp2_with fail;refine hcon.mono ?_;rintro e w2 ⟨rfl,hB2⟩;dsimp only;have hB3:=hB.trans (hB2.mono hB.size);clear hcon hB hB2 c0 c1 c2 c3 c4 c5 hA1;have hne:=bW.any w2;go_wp2;refine aS (by kernel_rfl) (by kernel_rfl) ?_;(repeat(go_big_quiet_step (fail)));refine wpQuiet_nil ?_;rintro _ ⟨pw,rfl⟩;have hB4:=hB3.trans (pw.h.mono hB3.size);generalize pw.to=w7 at*;go_wp2;go_ret;exact⟨rfl,hB4⟩};have hcnt:=vY x hk.1 hk.2 la ln lc hl;have QA:=fun(W:World) (hW:IL W la ln x.l) (h3:x.k=7->ln<=3) (hr:(Ln.rd x).length<=1000)=>yH x hk.1 hk.2 la ln lc W hW h3 hr;have QB:=oM x hk.1 hk.2 la ln lc 300 (by omega) (by omega);rw[Ln.Ju hk.1 hk.2];obtain⟨T,u,f,pa,pn,pc,esh,hcm,UC,hil⟩:=Ew x hk.1 hk.2 la ln lc;have hsame:=fun(W:World) (hW:IL W la ln x.l)=>vR (Ln.cn x) x pa la pn pc ln lc W (hil W hW) hW;rw[esh]at hcon ⊢;have hnil:=Iu T u;simp only[esh]at hcnt QA QB;have HRD:=fun h=>Ln.Bw (x:=x) h;have HC3:Ln.counts x=true->x.k=7->ln<=3:=fun h h7=>by{have:=Ln.qU h h7;omega};generalize Ln.kW (Ln.cn x) x=S at hsame ⊢;generalize(Ln.told x).all Ln.bx=B at QA ⊢;generalize Ln.place 300 x=PL at QB ⊢;generalize Ln.counts x=CT at hcnt HRD HC3 ⊢;clear hl hk;have hcases:S=false\/(S=true/\CT=false)\/(S=true/\CT=true/\B=false)\/(S=true/\CT=true/\B=true/\PL=false)\/(S=true/\CT=true/\B=true/\PL=true):=by{cases S<;>cases CT<;>cases B<;>cases PL<;>simp};rcases hcases with rfl|⟨rfl,rfl⟩|⟨rfl,rfl,rfl⟩|⟨rfl,rfl,rfl,rfl⟩|⟨rfl,rfl,rfl,rfl⟩;all_goals go_enter Tryz.func84,Tryz.ntmps84;go_wp2_with fail;refine hcon.mono ?_;rintro e w2 ⟨rfl,hB2⟩;dsimp only;have hB3:=hB.trans (hB2.mono hB.size);have hA2:=hA1.kept hB2;have hs2:Hid (∀p:bW w2,IL p.to la ln x.l):=fun p=>(hs1.kept hB2).kept p.h;have e0:∀p:bW w2,p.to.cell? ⟨w.heap.size,0,none⟩=some (.int .i64 x.k):=fun p=>(hA2.kept p.h).cell (j:=0) rfl;have e1:∀p:bW w2,p.to.cell? ⟨w.heap.size,1,none⟩=some (.int .i64 x.d):=fun p=>(hA2.kept p.h).cell (j:=1) rfl;have e2:∀p:bW w2,p.to.cell? ⟨w.heap.size,2,none⟩=some (.int .i64 x.a):=fun p=>(hA2.kept p.h).cell (j:=2) rfl;have e3:∀p:bW w2,p.to.cell? ⟨w.heap.size,3,none⟩=some (.int .i64 x.b):=fun p=>(hA2.kept p.h).cell (j:=3) rfl;have e4:∀p:bW w2,p.to.cell? ⟨w.heap.size,4,none⟩=some (.int .i64 x.n):=fun p=>(hA2.kept p.h).cell (j:=4) rfl;have e5:∀p:bW w2,p.to.cell? ⟨w.heap.size,5,none⟩=some (.slice la ln lc):=fun p=>(hA2.kept p.h).cell (j:=5) rfl;clear hcon hB hB2 c0 c1 c2 c3 c4 c5 hA1 hA2 hs1;have hne:=bW.any w2;go_wp2;refine aS (by kernel_rfl) (by kernel_rfl) ?_;(repeat(go_big_quiet_step (fail)));go_big_quiet_want;refine yK f (.tmp 9) _ _ rfl T u _ rfl hcm (fun W hW=>by obtain⟨p,rfl⟩:=hW;exact eP (UC _)) ?_;go_big_quiet_on;go_simp;(repeat(go_big_quiet_step (first|exact eP (hsame _ (hs2.out _))|exact eP (hcnt _)|exact eP (QA _ (hs2.out _) (HC3 trivial) (HRD trivial))|exact eP (QB _))));refine wpQuiet_nil ?_;intro pw;have hB4:=hB3.trans (pw.h.mono hB3.size);clear hs2 e0 e1 e2 e3 e4 e5;generalize pw.to=w7 at*;go_wp2;go_ret;exact⟨rfl,hB4⟩
def RF (x:Ln)(sv:Value):Value:=if Ln.ok x=true then dK x sv else .nilIface
theorem p8 (x:Ln)(la:Option Addr)(ln lc:Nat)(w:World)(hs:IL w la ln x.l):Calls Tryz.prog 84 #[.agg #[.int .i64 x.k, .int .i64 x.d, .int .i64 x.a, .int .i64 x.b, .int .i64 x.n, .slice la ln lc]] w fun e w'=>e= .returned (RF x (.slice la ln lc))/\Below w.heap.size w w':=by have h:=rP x la ln lc w hs;rw[Ln.Bi]at h;exact h
theorem Ji {x:Ln}(h:Ln.ok x=true)(sv:Value):RF x sv=dK x sv:=by unfold RF;rw[ay h]
theorem Ph {x:Ln}(h:Ln.ok x=false)(sv:Value):RF x sv= .nilIface:=by unfold RF;rw[ax (by rw[h];decide)]
theorem Gr {x:Ln}(h:Ln.ok x=true)(la:Option Addr)(ln lc:Nat):∃T u,RF x (.slice la ln lc)= .iface T u:=by have hk:=Ln.dC h;obtain⟨T,u,f,pa,pn,pc,esh,-⟩:=Ew x hk.1 hk.2 la ln lc;exact⟨T,u,by rw[Ji h,esh]⟩
section
open Go.Shelf
def Gp:Go.Shelf.Ren:=⟨fun|53=>136|64=>142|63=>141|78=>152|79=>153|70=>143|71=>144|72=>145|73=>146|74=>147|75=>148|59=>149|76=>150|77=>151|88=>154|89=>155|90=>156|91=>157|92=>158|68=>159|96=>160|n=>n,fun|22=>26|23=>2|3=>3|51=>108|0=>0|67=>218|69=>119|4=>4|61=>210|60=>209|44=>215|5=>5|9=>9|75=>220|79=>224|83=>226|84=>227|n=>n,fun|n=>n⟩
theorem SH:Go.Proofs.SlLaysN.n53 Tryz.prog Gp:={
 mixed:=by kernel_rfl
 f53:=⟨Tryz.f136.name,by decide,Tryz.func136.trans (congrArg some (by kernel_rfl))⟩
 f59:=⟨Tryz.f149.name,by decide,Tryz.func149.trans (congrArg some (by kernel_rfl))⟩
 f63:=⟨Tryz.f141.name,by decide,Tryz.func141.trans (congrArg some (by kernel_rfl))⟩
 f64:=Tryz.func142.trans (congrArg some (by kernel_rfl))
 f68:=⟨Tryz.f159.name,by decide,Tryz.func159.trans (congrArg some (by kernel_rfl))⟩
 f70:=⟨Tryz.f143.name,by decide,Tryz.func143.trans (congrArg some (by kernel_rfl))⟩
 f71:=⟨Tryz.f144.name,by decide,Tryz.func144.trans (congrArg some (by kernel_rfl))⟩
 f72:=⟨Tryz.f145.name,by decide,Tryz.func145.trans (congrArg some (by kernel_rfl))⟩
 f73:=⟨Tryz.f146.name,by decide,Tryz.func146.trans (congrArg some (by kernel_rfl))⟩
 f74:=⟨Tryz.f147.name,by decide,Tryz.func147.trans (congrArg some (by kernel_rfl))⟩
 f75:=⟨Tryz.f148.name,by decide,Tryz.func148.trans (congrArg some (by kernel_rfl))⟩
 f76:=⟨Tryz.f150.name,by decide,Tryz.func150.trans (congrArg some (by kernel_rfl))⟩
 f77:=⟨Tryz.f151.name,by decide,Tryz.func151.trans (congrArg some (by kernel_rfl))⟩
 f78:=Tryz.func152.trans (congrArg some (by kernel_rfl))
 f79:=Tryz.func153.trans (congrArg some (by kernel_rfl))
 f88:=⟨Tryz.f154.name,by decide,Tryz.func154.trans (congrArg some (by kernel_rfl))⟩
 f89:=Tryz.func155.trans (congrArg some (by kernel_rfl))
 f90:=Tryz.func156.trans (congrArg some (by kernel_rfl))
 f91:=⟨Tryz.f157.name,by decide,Tryz.func157.trans (congrArg some (by kernel_rfl))⟩
 f92:=⟨Tryz.f158.name,by decide,Tryz.func158.trans (congrArg some (by kernel_rfl))⟩
 f96:=⟨Tryz.f160.name,by decide,Tryz.func160.trans (congrArg some (by kernel_rfl))⟩
 t0:=Tryz.underlying0
 a0:=Tryz.isAgg0
 z0:=Tryz.sizeOf0
 v0:=Tryz.zeroValue0
 t3:=Tryz.underlying3
 a3:=Tryz.isAgg3
 z3:=Tryz.sizeOf3
 v3:=Tryz.zeroValue3
 t4:=Tryz.underlying4
 a4:=Tryz.isAgg4
 z4:=Tryz.sizeOf4
 v4:=Tryz.zeroValue4
 t5:=Tryz.underlying5
 a5:=Tryz.isAgg5
 z5:=Tryz.sizeOf5
 v5:=Tryz.zeroValue5
 t9:=Tryz.underlying9
 a9:=Tryz.isAgg9
 z9:=Tryz.sizeOf9
 v9:=Tryz.zeroValue9
 t22:=Tryz.underlying26
 a22:=Tryz.isAgg26
 z22:=Tryz.sizeOf26
 v22:=Tryz.zeroValue26
 t23:=Tryz.underlying2
 a23:=Tryz.isAgg2
 z23:=Tryz.sizeOf2
 v23:=Tryz.zeroValue2
 t44:=Tryz.underlying215
 a44:=Tryz.isAgg215
 z44:=Tryz.sizeOf215
 v44:=Tryz.zeroValue215
 t51:=Tryz.underlying108
 a51:=Tryz.isAgg108
 z51:=Tryz.sizeOf108
 v51:=Tryz.zeroValue108
 t60:=Tryz.underlying209
 a60:=Tryz.isAgg209
 z60:=Tryz.sizeOf209
 v60:=Tryz.zeroValue209
 t61:=Tryz.underlying210
 a61:=Tryz.isAgg210
 z61:=Tryz.sizeOf210
 v61:=Tryz.zeroValue210
 t67:=Tryz.underlying218
 a67:=Tryz.isAgg218
 z67:=Tryz.sizeOf218
 v67:=Tryz.zeroValue218
 t69:=Tryz.underlying119
 a69:=Tryz.isAgg119
 z69:=Tryz.sizeOf119
 v69:=Tryz.zeroValue119
 t75:=Tryz.underlying220
 a75:=Tryz.isAgg220
 z75:=Tryz.sizeOf220
 v75:=Tryz.zeroValue220
 t79:=Tryz.underlying224
 a79:=Tryz.isAgg224
 z79:=Tryz.sizeOf224
 v79:=Tryz.zeroValue224
 t83:=Tryz.underlying226
 a83:=Tryz.isAgg226
 z83:=Tryz.sizeOf226
 v83:=Tryz.zeroValue226
 t84:=Tryz.underlying227
 a84:=Tryz.isAgg227
 z84:=Tryz.sizeOf227
 v84:=Tryz.zeroValue227}
def Gw:Go.Shelf.Ren:=⟨fun|43=>137|n=>n,fun|22=>26|23=>2|3=>3|4=>4|0=>0|n=>n,fun|n=>n⟩
theorem Tc:Go.Proofs.SlLaysN.n43 Tryz.prog Gw:={
 mixed:=by kernel_rfl
 f43:=⟨Tryz.f137.name,by decide,Tryz.func137.trans (congrArg some (by kernel_rfl))⟩
 t0:=Tryz.underlying0
 a0:=Tryz.isAgg0
 z0:=Tryz.sizeOf0
 v0:=Tryz.zeroValue0
 t3:=Tryz.underlying3
 a3:=Tryz.isAgg3
 z3:=Tryz.sizeOf3
 v3:=Tryz.zeroValue3
 t4:=Tryz.underlying4
 a4:=Tryz.isAgg4
 z4:=Tryz.sizeOf4
 v4:=Tryz.zeroValue4
 t22:=Tryz.underlying26
 a22:=Tryz.isAgg26
 z22:=Tryz.sizeOf26
 v22:=Tryz.zeroValue26
 t23:=Tryz.underlying2
 a23:=Tryz.isAgg2
 z23:=Tryz.sizeOf2
 v23:=Tryz.zeroValue2
 i23:=by kernel_rfl}
end
namespace Ln
theorem ms2 (a b:Int):[a,b].mergeSort (fun x y=>decide (x<=y))=if a<=b then[a,b]else[b,a]:=by simp[List.mergeSort,List.MergeSort.Internal.splitInTwo,List.merge]
theorem ms3 (a b c:Int):[a,b,c].mergeSort (fun x y=>decide (x<=y))=if a<=b then(if b<=c then[a,b,c]else if a<=c then[a,c,b]else[c,a,b])else(if a<=c then[b,a,c]else if b<=c then[b,c,a]else[c,b,a]):=by simp[List.mergeSort,List.MergeSort.Internal.splitInTwo];by_cases h1:a<=b<;>by_cases h2:b<=c<;>by_cases h3:a<=c<;>simp[h1,h2,h3]<;>omega
theorem Zi (a b:Int):Go.Lib.compact [a,b]=if b=a then[a]else[a,b]:=by by_cases h:b=a;{simp[Go.Lib.compact,Go.Lib.compactUpTo,Go.Lib.keeps,List.range,List.range.loop,h]};simp[Go.Lib.compact,Go.Lib.compactUpTo,Go.Lib.keeps,List.range,List.range.loop,h]
theorem cp3 (a b c:Int):Go.Lib.compact [a,b,c]=if b=a then(if c=b then[a]else[a,c])else(if c=b then[a,b]else[a,b,c]):=by by_cases h:b=a;{subst h;by_cases h2:c=b;{subst h2;simp[Go.Lib.compact,Go.Lib.compactUpTo,Go.Lib.keeps,List.range,List.range.loop]};simp[Go.Lib.compact,Go.Lib.compactUpTo,Go.Lib.keeps,List.range,List.range.loop,h2,List.filter]};by_cases h2:c=b;{subst h2;simp[Go.Lib.compact,Go.Lib.compactUpTo,Go.Lib.keeps,List.range,List.range.loop,h,List.filter]};simp[Go.Lib.compact,Go.Lib.compactUpTo,Go.Lib.keeps,List.range,List.range.loop,h,h2,List.filter]
theorem sp2 (a b:Int):Go.Lib.compact ([a,b].mergeSort (fun x y=>decide (x<=y)))=put [a] b:=by rw[ms2];by_cases h1:a<=b;{rw[ay h1,Zi];by_cases h2:b=a;{subst h2;simp[put]};have:a<b:=by{omega};simp[put,h2,this]};rw[ax h1,Zi];have h2:¬a=b:=by{omega};have h3:¬a<b:=by{omega};simp[put,h2,h3]
theorem aab (a b:Int):Go.Lib.compact ([b,a].mergeSort (fun x y=>decide (x<=y)))=put [a] b:=by rw[ms2];by_cases h1:b<=a;{rw[ay h1,Zi];by_cases h2:a=b;{subst h2;simp[put]};have:¬a<b:=by{omega};simp[put,h2,this]};rw[ax h1,Zi];have h2:¬b=a:=by{omega};have h3:a<b:=by{omega};simp[put,h2,h3]
theorem sp3 (a b c:Int):Go.Lib.compact ([a,b,c].mergeSort (fun x y=>decide (x<=y)))=put (put [a] b) c:=by
 rw[ms3]
 rcases Int.lt_trichotomy a b with h1|h1|h1<;>rcases Int.lt_trichotomy b c with h2|h2|h2<;>rcases Int.lt_trichotomy a c with h3|h3|h3
 all_goals
  first
  |(exfalso;omega)
  | (simp only[put]
     repeat(first|rw[ay (by omega)]|rw[ax (by omega)]|simp only[put])
     rw[cp3]
     repeat(first|rw[ay (by omega)]|rw[ax (by omega)])
     try(first|rfl|(simp<;>omega)))
theorem Si {x:Ln}(h:ok x=true):Go.Lib.compact ((rd x).mergeSort (fun x y=>decide (x<=y)))=us x:=by have h3:=o9 h;have hk:=dC h;obtain⟨k,d,a,b,n,l⟩:=x;have one:∀y:Int,Go.Lib.compact ([y].mergeSort (fun x y=>decide (x<=y)))=[y]:=fun y=>by{simp[Go.Lib.compact,Go.Lib.compactUpTo,Go.Lib.keeps,List.range,List.range.loop]};have none:Go.Lib.compact (([]:List Int).mergeSort (fun x y=>decide (x<=y)))=[]:=by{simp[Go.Lib.compact,Go.Lib.compactUpTo]};have hl:k≠7->l=[]:=fun h7=>by{unfold ok at h;simp[h7]at h;exact h.1};rcases kinds hk.1 hk.2 with e|e|e|e|e|e|e|e|e|e|e<;>simp only at e<;>subst e;{rw[hl (by decide)];exact none};{exact one a};{exact sp2 a b};{exact one a};{rw[hl (by decide)];exact none};{exact one a};{show Go.Lib.compact (l.mergeSort _)=ek l;simp only at h3;rcases l with _|⟨p,_|⟨q,_|⟨r,_|⟨s,l⟩⟩⟩⟩;{exact none};{exact one p};{exact sp2 p q};{exact sp3 p q r};simp at h3};{exact one a};{exact aab a b};{exact one a};rw[hl (by decide)];exact none
end Ln
theorem OG.holds {W:World}{n₀ g n c:Nat}{xs:List Int}(h:OG W n₀ g n c xs):Go.Sort.Holds (Value.int .i64) W g 0 xs.toArray:=by obtain⟨hl,-,hr⟩:=h;rcases hr with⟨e,-⟩|⟨g',cap,cur,e,hb,hc,hn,hm,hsz,ht⟩;{cases e};cases e;refine holds_of_blockI hc ?_;rw[hl];rw[Nat.mul_one]at ht;exact ht
theorem OG.put {W:World}{n₀ g n c q:Nat}{xs ys:List Int}{os:Array Obj}(h:OG W n₀ g n c xs)(hl:ys.length=xs.length):OG (Go.Sort.grow (Go.Sort.putRow (Value.int .i64) (Go.Sort.ahead W q) g 0 ys.toArray) os) n₀ g n c ys:=by obtain⟨h1,-,hr⟩:=h;rcases hr with⟨e,-⟩|⟨g',cap,cur,e,hb,hc,hn,hm,hsz,ht⟩;{cases e};cases e;refine⟨by omega,?_⟩;have:=ownsRow_sortedI (n:=q) (os:=os) hl hb hc (by omega) hm hsz;rw[h1]at this;exact this
theorem OG.cut {W:World}{n₀ g n c:Nat}{xs zs:List Int}(h:OG W n₀ g n c (xs++zs)):OG W n₀ g xs.length c xs:=by obtain⟨h1,-,hr⟩:=h;rcases hr with⟨e,-⟩|⟨g',cap,cur,e,hb,hc,hn,hm,hsz,ht⟩;{cases e};cases e;rw[List.length_append]at h1;refine⟨rfl,by simp, .inr ⟨g,c,cur,rfl,hb,hc,by omega,hm,hsz,?_⟩⟩;rw[Nat.mul_one]at ht ⊢;have:=congrArg (List.take xs.length) ht;rw[List.take_take,Nat.min_eq_left (by omega),List.map_append,List.take_left' (by simp)]at this;exact this
theorem Af (n₀ g n c:Nat)(xs:List Int)(w:World)(ho:OG w n₀ g n c xs)(hn:n₀<=w.heap.size)(hsh:n<=1000):Calls Tryz.prog 136 #[.slice (some ⟨g,0,none⟩) n c] w fun e w'=>e= .returned (.tuple #[])/\OG w' n₀ g n c (xs.mergeSort fun x y=>decide (x<=y))/\w.grownBy w' (some g):=by have hcap:=ho.cap;have h:=AnyG.slices_Sort_int SH g 0 c xs w ho.holds ho.lt.2 (by have:=ho.1;omega);rw[ho.1]at h;refine h.mono ?_;rintro e w' ⟨rfl,q,os,rfl⟩;exact⟨rfl,ho.put (List.length_mergeSort _),grownBy_sortedI _⟩
theorem uV (n₀ g n c:Nat)(xs:List Int)(w:World)(ho:OG w n₀ g n c xs)(hn:n₀<=w.heap.size):Calls Tryz.prog 137 #[.slice (some ⟨g,0,none⟩) n c] w fun e w'=>∃m,e= .returned (.slice (some ⟨g,0,none⟩) m c)/\OG w' n₀ g m c (Go.Lib.compact xs)/\w.grownBy w' (some g):=by have hcap:=ho.cap;have h:=AnyG.slices_Compact_int Tc g 0 c xs w ho.holds (by have:=ho.1;unfold maxLen at hcap;omega) (by have:=ho.1;omega);rw[ho.1]at h;refine h.mono ?_;rintro e w' ⟨rfl,q,rfl⟩;have hle:=Go.Lib.compact_length_le xs;have hp:=ho.put (q:=q) (os:=#[]) (ys:=Go.Lib.compact xs++List.replicate (n-(Go.Lib.compact xs).length) 0) (by have:=ho.1;simp;omega);rw[Go.Sort.grow_empty]at hp;have hg:=grownBy_sortedI (w:=w) (g:=g) (n:=q) (os:=#[]) (Go.Lib.compact xs++List.replicate (n-(Go.Lib.compact xs).length) 0).toArray;rw[Go.Sort.grow_empty]at hg;exact⟨_,rfl,hp.cut,hg⟩
theorem jm (n₀ g n c:Nat)(xs:List Int)(w:World)(ho:OG w n₀ g n c xs)(hn:n₀<=w.heap.size)(hsh:n<=1000):Calls Tryz.prog 125 #[.slice (some ⟨g,0,none⟩) n c] w fun e w'=>∃m,e= .returned (.slice (some ⟨g,0,none⟩) m c)/\OG w' n₀ g m c (Ln.ek xs)/\w.grownBy w' (some g):=by have hcon:=Af n₀ g n c xs w ho hn hsh;have HP:=ae (Fl.xO xs);clear ho;go_enter Tryz.func125,Tryz.ntmps125;go_wp2_with fail;refine hcon.mono ?_;rintro e w4 ⟨rfl,nN,hgr⟩;dsimp only;have pG:=uV n₀ g n c _ w4 nN (Nat.le_trans hn hgr.size);rw[HP.out]at pG;clear hcon nN HP;go_wp2_with fail;refine pG.mono ?_;rintro e w5 ⟨m5,rfl,nQ,hgr5⟩;dsimp only;have HF:=ae (ak nQ (hgr.trans hgr5));clear pG nQ hgr5 hgr;go_wp2;go_ret;exact⟨m5,rfl,HF.out.1,HF.out.2⟩
theorem Zk (n:Int)(h0:0<=n)(h1:n<2 ^ 40):IntKind.u64.wrap n=n:=by rw[IntKind.wrap_u64];omega
theorem AY {n m:Nat}(hn:n<2 ^ 40)(hm:m<2 ^ 40):bits .or .u64 n m=((n|||m:Nat):Int):=(bits_nat .u64 40 (by decide) Zk n m hn hm).2
theorem Pn {n m:Nat}(hn:n<2 ^ 40)(hm:m<2 ^ 40):bits .and .u64 n m=((n&&& m:Nat):Int):=(bits_nat .u64 40 (by decide) Zk n m hn hm).1
theorem Nq {n m:Nat}(hn:n<2 ^ 40)(hm:m<2 ^ 40):bits .andNot .u64 n m=((Fl.an n m:Nat):Int):=by have hx:Fl.an n m<2 ^ 40:=Fl.xS hn;have e:(BitVec.ofInt 64 (n:Int)&&& ~~~BitVec.ofInt 64 (m:Int)).toNat=Fl.an n m:=by{rw[BitVec.toNat_and,BitVec.toNat_not,BitVec.ofInt_natCast,BitVec.ofInt_natCast,BitVec.toNat_ofNat,BitVec.toNat_ofNat,Nat.mod_eq_of_lt (by omega),Nat.mod_eq_of_lt (by omega)];refine Nat.eq_of_testBit_eq fun k=>?_;rw[Nat.testBit_and,Fl.pY,Nat.sub_sub,Nat.add_comm,Nat.testBit_two_pow_sub_succ (by omega)];by_cases h:k<64;{simp[h]};rw[Nat.testBit_lt_two_pow (aj hn (Nat.pow_le_pow_right (by decide) (by omega)))];rfl};show IntKind.u64.wrap ((BitVec.ofInt 64 (n:Int)&&& ~~~BitVec.ofInt 64 (m:Int)).toNat:Int)=_;rw[e];exact Zk _ (by omega) (by omega)
theorem NF {j:Nat}(hj:j<=39):IntKind.u64.wrap ((2:Int) ^ j)=((2 ^ j:Nat):Int)/\(2:Nat) ^ j<2 ^ 40:=by have h:(2:Nat) ^ j<2 ^ 40:=Nat.pow_lt_pow_right (by decide) (by omega);refine⟨?_,h⟩;have e:(2:Int) ^ j=((2 ^ j:Nat):Int):=by{simp};rw[e];generalize(2:Nat) ^ j=m at h ⊢;exact Zk _ (by omega) (by omega)
theorem O8 {n j:Nat}(hn:n<2 ^ 40)(hj:j<=39):bits .or .u64 (n:Int) (IntKind.u64.wrap (2 ^ j))=((n|||2 ^ j:Nat):Int):=by rw[(NF hj).1,AY hn (NF hj).2]
theorem jD (la:Option Addr)(ln lc:Nat)(xs:List Int)(hx:∀y∈xs,0<=y/\y<=39)(hlen:ln<=1000000)(w:World)(hs:IL w la ln xs):Calls Tryz.prog 109 #[.slice la ln lc] w fun e w'=>e= .returned (.int .u64 ((Fl.mk xs:Nat):Int))/\w'=w:=by have HL:=ae hs.1;have HX:=ae hx;have Cr:(ln:Int)<=1000000:=by{omega};go_enter Tryz.func109,Tryz.ntmps109;go_wp2;go_loopg [3,8] ln (fun gk vx vi wr=>∃(k q:Nat),gk=ln-k/\k<=ln/\vx= .int .u64 (q:Int)/\vi= .int .i64 (k:Int)/\Hid (q=Fl.mk (xs.take k))/\w=wr);(case atStart=>exact⟨0,0,rfl,by omega,rfl,rfl,(by show _=_;simp[Fl.mk]),rfl⟩);case round=>obtain⟨k,q,nP,hk,rfl,rfl,HQ,bq⟩:=hrel;subst bq;by_cases hlt:k<ln;{have bN:(k:Int)<(ln:Int):=by{omega};have hkl:k<xs.length:=by{rw[HL.out];exact hlt};obtain⟨-,-,h0|⟨lb,lo,rfl,hlb,hcc⟩⟩:=hs;{omega};have hc:=hcc k hlt;have hy:=HX.out (xs.getD k 0) (by rw[ah,ai hkl];exact List.getElem_mem hkl);have HS:=ae (Fl.zu hkl);rw[←HQ.out]at HS;have MM:Hid (q<2 ^ 40):=by{show _<_;rw[HQ.out];exact Fl.Aj fun y hy=>HX.out y (List.mem_of_mem_take hy)};obtain⟨y,JN⟩:∃y,xs.getD k 0=y:=⟨_,rfl⟩;rw[JN]at hc hy HS;clear JN hkl hx hcc;obtain⟨j,rfl⟩:=Int.eq_ofNat_of_zero_le hy.1;rw[az]at HS;have hj:(j:Int)<=39:=hy.2;have hor:bits .or .u64 (q:Int) (IntKind.u64.wrap (2 ^ j))=((q|||2 ^ j:Nat):Int):=O8 MM.out (by omega);clear hy;go_wp2;go_roundg (ln-(k+1));(case measure=>omega);case rel=>exact⟨k+1,q|||2 ^ j,rfl,hlt,rfl,by simp,(by show _=_;rw[HS.out]),rfl⟩};have hke:k=ln:=by{omega};have HE:Hid (q=Fl.mk xs):=by{show _=_;rw[HQ.out,hke,←HL.out,List.take_length]};have bN:¬(k:Int)<(ln:Int):=by{omega};clear HQ hke;go_wp2;go_ret;exact⟨by rw[←HE.out]<;>rfl,rfl⟩
theorem Lr (m k:Nat):(m&&& Fl.mk [(k:Int)]=0↔m.testBit k=false):=by have e:Fl.mk [(k:Int)]=2 ^ k:=by{simp[Fl.mk]};rw[e];constructor;{intro h;have h2:=congrArg (fun n=>n.testBit k) h;simp only[Nat.testBit_and,Nat.testBit_two_pow_self,Nat.zero_testBit,Bool.and_true]at h2;exact h2};intro h;refine Nat.eq_of_testBit_eq fun j=>?_;rw[Nat.testBit_and,Nat.testBit_two_pow,Nat.zero_testBit];by_cases hj:k=j;{subst hj;rw[h];rfl};simp[hj]
theorem uf (m:Nat) (hm:m<2 ^ 40) (w:World):Calls Tryz.prog 91 #[.int .u64 (m:Int)] w fun e w'=>∃g n c,e= .returned (.slice (some ⟨g,0,none⟩) n c)/\OG w' w.heap.size g n c (Fl.nX m)/\Below w.heap.size w w':=by
 have ho:=OG.empty w w.heap.size (Nat.le_refl _)
 have hB:=aA w (.cells #[] 2)
 go_enter Tryz.func91,Tryz.ntmps91
 go_wp2
 go_loopg [3,6] 40 (fun gk vo vi wr=>∃(k g n c:Nat),gk=40-k/\k<=40/\vo= .slice (some ⟨g,0,none⟩) n c/\vi= .int .i64 (k:Int)/\OG wr w.heap.size g n c (Fl.zo m k)/\Below w.heap.size w wr)
 case atStart=>exact⟨0,_,0,0,rfl,by omega,rfl,rfl,ho,hB⟩
 case round=>
  obtain⟨k,g,n,c,nP,hk,rfl,rfl,hor,hBr⟩:=hrel
  clear ho hB
  have bq:=hBr.size
  have HO:=ae (ak hor hBr)
  clear hor hBr
  by_cases hlt:k<40
  · have bN:(k:Int)<40:=by omega
    have hlen:=Fl.sF m k
    have hnk:n<=k:=by rw[HO.out.1.1]at hlen;exact hlen
    have hal:=aA wr (.cells #[.int .i64 (k:Int)] 2)
    have hcon:=jD (some ⟨wr.heap.size,0,none⟩) 1 1 [(k:Int)] (fun y hy=>by rw[List.mem_singleton]at hy;omega) (by omega) (wr.alloc (.cells #[.int .i64 (k:Int)] 2)) (OI.il (OG.one wr wr.heap.size (Nat.le_refl _) (k:Int)).oi).2
    have hp:Fl.mk [(k:Int)]<2 ^ 40:=Fl.Aj fun y hy=>by rw[List.mem_singleton]at hy;omega
    have hAnd:=Pn hm hp
    have hbit:=Lr m k
    generalize Fl.mk [(k:Int)]=P at hcon hAnd hbit
    generalize m&&& P=z at hAnd hbit
    have HR:=ae (HO.out.1.kept hal)
    have HB:=ae (HO.out.2.trans (hal.mono bq))
    have hg:=HO.out.1.lt
    clear hlen hp
    rcases hb:m.testBit k with _|_
    · have hz:=hbit.2 hb;subst hz;have agb:bits .and .u64 (m:Int) (P:Int)=0:=hAnd;have HE:Hid (Fl.zo m (k+1)=Fl.zo m k):=by{show _=_;rw[Fl.zo,ax (by rw[hb];decide)]};clear hb hbit hAnd hal;go_wp2_with(go_at_call 109;refine hcon.mono ?_;rintro e w4 ⟨rfl,hw4⟩;subst w4;dsimp only);go_roundg (40-(k+1));(case measure=>omega);case rel=>exact⟨k+1,g,n,c,rfl,hlt,rfl,by simp,by rw[HE.out];exact HR.out,HB.out⟩
    · have hz:¬(z:Int)=0:=by intro h;have:=hbit.1 (by omega);rw[hb]at this;cases this
      have HE:Hid (Fl.zo m (k+1)=Fl.zo m k++[(k:Int)]):=by show _=_;rw[Fl.zo,ay hb]
      clear hb hbit hal
      have zR:=aA (wr.alloc (.cells #[.int .i64 (k:Int)] 2)) (.cells #[.int .i64 (k:Int)] 2)
      have HR2:=ae (HR.out.kept zR)
      have HB2:=ae (HB.out.trans (zR.mono HB.out.size))
      have HC:Hid (∀j,j<1->((wr.alloc (.cells #[.int .i64 (k:Int)] 2)).alloc (.cells #[.int .i64 (k:Int)] 2)).cell? ⟨wr.heap.size+1,0+j,none⟩=some (.int .i64 (([(k:Int)]:List Int).getD j 0))):=fun j hj=>by obtain rfl:j=0:=by{omega};simp
      clear zR
      go_wp2_with(first
        |(go_at_call 109;refine hcon.mono ?_;rintro e w4 ⟨rfl,hw4⟩;subst w4;dsimp only)
        |(at_builtin;refine dB _ rfl _ _ rfl w.heap.size _ _ _ _ rfl HR2.out (wr.heap.size+1) 0 1 1 [(k:Int)] (by simp[Act.eval]) rfl HC.out (by omega) (by simp;omega) ?_;intro g4 c4 N4 w4 Ob nN gY;have HF:=ae (ak nN (aC HB2.out gY (by omega)));clear nN gY))
      go_roundg (40-(k+1))
      case measure=>omega
      case rel=>exact⟨k+1,g4,N4,c4,rfl,hlt,rfl,by simp,by rw[HE.out];exact HF.out.1,HF.out.2⟩
  · have hke:k=40:=by{omega};subst hke;go_wp2;go_ret;exact⟨g,n,c,rfl,HO.out.1,HO.out.2⟩
namespace Fl
def raw (x:Ln)(i:Nat):List Int:=(if Ln.iU x=true then[x.n]else[])++(if Ln.behind x=true then[(i:Int)+1]else[])
theorem P9 (x:Ln)(i:Nat):Ln.ek (raw x i)=nx x i:=by obtain⟨k,d,a,b,n,l⟩:=x;unfold raw nx Ln.iU Ln.behind;by_cases h5:k=5;{subst h5;rfl};by_cases h6:k=6;{subst h6;show Ln.ek [n,(i:Int)+1]=Ln.put [(i:Int)+1] n;refine oI (mV _) (o8 (List.pairwise_singleton _ _)) fun z=>?_;rw[gX,jf];simp};by_cases h10:k=10\/k=11;{have e1:decide (k=5\/k=6)=false:=decide_eq_false (by omega);have e2:decide (k=5\/k=10\/k=11)=true:=decide_eq_true (by omega);simp only[e1,e2];rw[ax h5,ax h6,ay h10];rfl};have e1:decide (k=5\/k=6)=false:=decide_eq_false (by omega);have e2:decide (k=5\/k=10\/k=11)=false:=decide_eq_false (by omega);simp only[e1,e2];rw[ax h5,ax h6,ax h10];rfl
end Fl
theorem o6 (W:World)(y:Int):Hid (∀j,j<1->(W.alloc (.cells #[.int .i64 y] 2)).cell? ⟨W.heap.size,0+j,none⟩=some (.int .i64 (([y]:List Int).getD j 0))):=fun j hj=>by
 obtain rfl:j=0:=by omega
 exact(OG.one W W.heap.size (Nat.le_refl _) y).cell (j:=0) (by omega)
theorem zk (x:Ln)(h1:1<=x.k)(h2:x.k<=11)(la:Option Addr)(ln lc:Nat)(p:Nat)(hp:p<=1000)(w:World):Calls Tryz.prog 108 #[dK x (.slice la ln lc), .int .i64 (p:Int)] w fun e w'=>∃g m c,e= .returned (.slice (some ⟨g,0,none⟩) m c)/\OG w' w.heap.size g m c (Fl.nx x p)/\Below w.heap.size w w':=by have hpt:=fun W=>lI x h1 h2 la ln lc W;have hcb:=fun W=>jS x h1 h2 la ln lc W;have HN:=ae (Fl.P9 x p);generalize dK x (.slice la ln lc)=sv at hpt hcb ⊢;unfold Fl.raw at HN;generalize Fl.nx x p=N at HN ⊢;have ML:(p:Int)<=1000:=by{omega};have ho:=OG.empty w w.heap.size (Nat.le_refl _);have hB:=aA w (.cells #[] 2);have HO:=ae (ak ho hB);have hp0:=hpt (w.alloc (.cells #[] 2));obtain⟨W1,hW1⟩:∃W1,w.alloc (.cells #[] 2)=W1:=⟨_,rfl⟩;rw[hW1]at HO hp0;have hs1:w.heap.size<W1.heap.size:=by{rw[←hW1];simp};clear ho hB hpt h1 h2;generalize x.n=n at hp0 HN;rcases hg:Ln.iU x with _|_;{rw[hg]at hp0 HN;rcases hb:Ln.behind x with _|_;{rw[hb]at HN;clear hg;go_enter Tryz.func108,Tryz.ntmps108;go_wp2_with fail;refine hp0.mono ?_;rintro e w2 ⟨rfl,hB2⟩;dsimp only;have iZ:Hid (OG w2 w.heap.size w.heap.size 0 0 []/\Below w.heap.size w w2):=⟨HO.out.1.kept hB2,HO.out.2.trans (hB2.mono HO.out.2.size)⟩;clear hp0 HO hB2;have jE:=hcb w2;rw[hb]at jE;clear hb;go_wp2_with fail;refine jE.mono ?_;rintro e w4 ⟨rfl,hB4⟩;dsimp only;have ky:=ae (ak (iZ.out.1.kept hB4) (iZ.out.2.trans (hB4.mono iZ.out.2.size)));clear jE hB4;have hcon:=jm w.heap.size w.heap.size 0 0 _ w4 ky.out.1 ky.out.2.size (by omega);go_wp2_with fail;refine hcon.mono ?_;rintro e w6 ⟨m6,rfl,xZ,mq⟩;dsimp only;have HF:Hid (OG w6 w.heap.size w.heap.size m6 _ N/\Below w.heap.size w w6):=⟨by rw[←HN.out];exact xZ,aC ky.out.2 mq (Nat.le_refl _)⟩;clear hcon xZ mq;go_wp2;go_ret;exact⟨w.heap.size,m6,_,rfl,HF.out.1,HF.out.2⟩};rw[hb]at HN;clear hg;go_enter Tryz.func108,Tryz.ntmps108;go_wp2_with fail;refine hp0.mono ?_;rintro e w2 ⟨rfl,hB2⟩;dsimp only;have iZ:Hid (OG w2 w.heap.size w.heap.size 0 0 []/\Below w.heap.size w w2):=⟨HO.out.1.kept hB2,HO.out.2.trans (hB2.mono HO.out.2.size)⟩;clear hp0 HO hB2;have jE:=hcb w2;rw[hb]at jE;clear hb;go_wp2_with fail;refine jE.mono ?_;rintro e w4 ⟨rfl,hB4⟩;dsimp only;have ky:=ae (ak (iZ.out.1.kept hB4) (iZ.out.2.trans (hB4.mono iZ.out.2.size)));clear jE hB4;have vC:=aA w4 (.cells #[.int .i64 ((p:Int)+1)] 2);have DR:=ae (ak (ky.out.1.kept vC) (ky.out.2.trans (vC.mono ky.out.2.size)));have JV:=o6 w4 ((p:Int)+1);have abq:=ky.out.2.size;clear vC;go_wp2_with(at_builtin;refine dB _ rfl _ _ rfl w.heap.size _ _ _ _ rfl DR.out.1 w4.heap.size 0 1 1 [(p:Int)+1] rfl rfl JV.out (by omega) (by simp;omega) ?_;intro g5 c5 N5 w5 Oy nQ hgr5;have QC:=ae (ak nQ (aC DR.out.2 hgr5 (Nat.le_refl _)));have hg5:=nQ.lt;clear nQ hgr5 DR JV;have QD:=Oy.out;clear Oy;subst QD;have hcon:=jm w.heap.size g5 _ c5 _ w5 QC.out.1 QC.out.2.size (by omega));refine hcon.mono ?_;rintro e w6 ⟨m6,rfl,xZ,mq⟩;dsimp only;have HF:Hid (OG w6 w.heap.size g5 m6 _ N/\Below w.heap.size w w6):=⟨by rw[←HN.out];exact xZ,aC QC.out.2 mq (hg5.1)⟩;clear hcon xZ mq;go_wp2;go_ret;exact⟨g5,m6,_,rfl,HF.out.1,HF.out.2⟩};rw[hg]at hp0 HN;rcases hb:Ln.behind x with _|_;{rw[hb]at HN;clear hg;go_enter Tryz.func108,Tryz.ntmps108;go_wp2_with fail;refine hp0.mono ?_;rintro e w2 ⟨rfl,hB2⟩;dsimp only;have iZ:Hid (OG w2 w.heap.size w.heap.size 0 0 []/\Below w.heap.size w w2):=⟨HO.out.1.kept hB2,HO.out.2.trans (hB2.mono HO.out.2.size)⟩;clear hp0 HO hB2;have vD:=aA w2 (.cells #[.int .i64 (n)] 2);have DT:=ae (ak (iZ.out.1.kept vD) (iZ.out.2.trans (vD.mono iZ.out.2.size)));have JW:=o6 w2 (n);have abr:=iZ.out.2.size;clear vD;go_wp2_with(at_builtin;refine dB _ rfl _ _ rfl w.heap.size _ _ _ _ rfl DT.out.1 w2.heap.size 0 1 1 [n] rfl rfl JW.out (by omega) (by simp;omega) ?_;intro g3 c3 N3 w3 GJ ho3 wI;have rZ:=ae (ak ho3 (aC DT.out.2 wI (Nat.le_refl _)));have hg3:=ho3.lt;have jE:=hcb w3;rw[hb]at jE;clear ho3 wI hb DT JW;have QE:=GJ.out;clear GJ;subst QE);refine jE.mono ?_;rintro e w4 ⟨rfl,hB4⟩;dsimp only;have ky:=ae (ak (rZ.out.1.kept hB4) (rZ.out.2.trans (hB4.mono rZ.out.2.size)));clear jE hB4;have hcon:=jm w.heap.size g3 (0+1) c3 _ w4 ky.out.1 ky.out.2.size (by omega);go_wp2_with fail;refine hcon.mono ?_;rintro e w6 ⟨m6,rfl,xZ,mq⟩;dsimp only;have HF:Hid (OG w6 w.heap.size g3 m6 _ N/\Below w.heap.size w w6):=⟨by rw[←HN.out];exact xZ,aC ky.out.2 mq (hg3.1)⟩;clear hcon xZ mq;go_wp2;go_ret;exact⟨g3,m6,_,rfl,HF.out.1,HF.out.2⟩};rw[hb]at HN;clear hg;go_enter Tryz.func108,Tryz.ntmps108;go_wp2_with fail;refine hp0.mono ?_;rintro e w2 ⟨rfl,hB2⟩;dsimp only;have iZ:Hid (OG w2 w.heap.size w.heap.size 0 0 []/\Below w.heap.size w w2):=⟨HO.out.1.kept hB2,HO.out.2.trans (hB2.mono HO.out.2.size)⟩;clear hp0 HO hB2;have vD:=aA w2 (.cells #[.int .i64 (n)] 2);have DT:=ae (ak (iZ.out.1.kept vD) (iZ.out.2.trans (vD.mono iZ.out.2.size)));have JW:=o6 w2 (n);have abr:=iZ.out.2.size;clear vD;go_wp2_with(at_builtin;refine dB _ rfl _ _ rfl w.heap.size _ _ _ _ rfl DT.out.1 w2.heap.size 0 1 1 [n] rfl rfl JW.out (by omega) (by simp;omega) ?_;intro g3 c3 N3 w3 GJ ho3 wI;have rZ:=ae (ak ho3 (aC DT.out.2 wI (Nat.le_refl _)));have hg3:=ho3.lt;have jE:=hcb w3;rw[hb]at jE;clear ho3 wI hb DT JW;have QE:=GJ.out;clear GJ;subst QE);refine jE.mono ?_;rintro e w4 ⟨rfl,hB4⟩;dsimp only;have ky:=ae (ak (rZ.out.1.kept hB4) (rZ.out.2.trans (hB4.mono rZ.out.2.size)));clear jE hB4;have vC:=aA w4 (.cells #[.int .i64 ((p:Int)+1)] 2);have DR:=ae (ak (ky.out.1.kept vC) (ky.out.2.trans (vC.mono ky.out.2.size)));have JV:=o6 w4 ((p:Int)+1);have abq:=ky.out.2.size;clear vC;go_wp2_with(at_builtin;refine dB _ rfl _ _ rfl w.heap.size _ _ _ _ rfl DR.out.1 w4.heap.size 0 1 1 [(p:Int)+1] rfl rfl JV.out (by omega) (by simp;omega) ?_;intro g5 c5 N5 w5 Oy nQ hgr5;have QC:=ae (ak nQ (aC DR.out.2 hgr5 (hg3.1)));have hg5:=nQ.lt;clear nQ hgr5 DR JV;have QD:=Oy.out;clear Oy;subst QD;have hcon:=jm w.heap.size g5 _ c5 _ w5 QC.out.1 QC.out.2.size (by omega));refine hcon.mono ?_;rintro e w6 ⟨m6,rfl,xZ,mq⟩;dsimp only;have HF:Hid (OG w6 w.heap.size g5 m6 _ N/\Below w.heap.size w w6):=⟨by rw[←HN.out];exact xZ,aC QC.out.2 mq (hg5.1)⟩;clear hcon xZ mq;go_wp2;go_ret;exact⟨g5,m6,_,rfl,HF.out.1,HF.out.2⟩
namespace Fl
theorem NZ {x:Ln}(h:Ln.ok x=true):Ln.us x=Ln.ek (Ln.rd x):=by rw[←Ln.Si h,xO]
theorem Tg {x:Ln}(h:Ln.ok x=true):um x=mk (Ln.rd x):=Mv fun y=>by rw[NZ h,gX]
theorem SB {x:Ln}(h:Ln.ok x=true):∀y∈Ln.rd x,0<=y/\y<=39:=fun y hy=>Ln.H9 h y (by rw[NZ h,gX];exact hy)
theorem Pv {x:Ln}(h:Ln.ok x=true)(hw:Ln.Cm x=true):sm x=mk [x.d]/\0<=x.d/\x.d<=39:=by have h1:=Ln.Ez h;have e:Ln.st x=x.d:=by{unfold Ln.Cm at hw;simp only[decide_eq_true_eq]at hw;unfold Ln.st;rw[ay hw]};have hd:0<=x.d:=by{have hk:=Ln.dC h;obtain⟨k,d,a,b,n,l⟩:=x;unfold Ln.Cm at hw;simp only[decide_eq_true_eq]at hw;unfold Ln.ok at h;rw[au]at h;have h4:=h.2;simp only at hw h4 ⊢;rcases hw with rfl|rfl|rfl|rfl|rfl|rfl<;>simp[Ln.asks,Ln.bx,Wd.cK]at h4<;>omega};unfold sm;rw[e,ay hd];exact⟨by simp[mk],hd,by rw[e]at h1;exact h1.2⟩
theorem PH {x:Ln}(hw:Ln.Cm x=false):sm x=0:=by have e:Ln.st x=-1:=by{unfold Ln.Cm at hw;simp only[decide_eq_false_iff_not]at hw;unfold Ln.st;rw[ax hw]};unfold sm;rw[e];rfl
end Fl
theorem P8 (x:World)(b:Nat)(v0 v1 v2 v3:Value):x.grownBy ((((x.setCell ⟨b,0,none⟩ v0).setCell ⟨b,1,none⟩ v1).setCell ⟨b,2,none⟩ v2).setCell ⟨b,3,none⟩ v3) (some b):=
 (((aB x ⟨b,0,none⟩ v0).trans (aB _ ⟨b,1,none⟩ v1)).trans (aB _ ⟨b,2,none⟩ v2)).trans (aB _ ⟨b,3,none⟩ v3)
theorem uM (x:Ln)(hok:Ln.ok x=true)(la:Option Addr)(ln lc:Nat)(p:Nat)(hp:p<=1000)(w:World)(hs:IL w la ln x.l):Calls Tryz.prog 88 #[dK x (.slice la ln lc), .int .i64 (p:Int)] w fun e w'=>∃g m c,e= .returned (.agg #[.slice (some ⟨g,0,none⟩) m c, .int .u64 ((Fl.um x:Nat):Int), .int .u64 ((Fl.sm x:Nat):Int), .int .u64 0])/\OG w' w.heap.size g m c (Fl.nx x p)/\Below w.heap.size w w':=by have hk:=Ln.dC hok;have h3:=Ln.o9 hok;have hl3:x.k=7->ln<=3:=fun _=>by{have:=hs.1;omega};have hrl:(Ln.rd x).length<=1000:=by{have h:=hok;rw[←Ln.Bi]at h;unfold Ln.right at h;simp only[au]at h;exact Ln.Bw h.2.2.1};have hnx:=fun W=>zk x hk.1 hk.2 la ln lc p hp W;have hrd:=fun W (h:IL W la ln x.l)=>lV x hk.1 hk.2 la ln lc W h hl3;have hbw:=fun W=>kV x hk.1 hk.2 la ln lc W;have HUM:=ae (Fl.Tg hok);have HRI:=ae (Fl.SB hok);have Od:Hid (∀h:Ln.Cm x=true,Fl.sm x=Fl.mk [x.d]/\0<=x.d/\x.d<=39):=fun h=>Fl.Pv hok h;have HSN:Hid (∀h:Ln.Cm x=false,Fl.sm x=0):=fun h=>Fl.PH h;generalize dK x (.slice la ln lc)=sv at hnx hrd hbw ⊢;generalize Fl.nx x p=N at hnx ⊢;generalize Ln.rd x=R at hrd HUM HRI hrl;generalize Fl.um x=U at HUM ⊢;have hB1:=aA w (.cells #[.slice none 0 0, .int .u64 0, .int .u64 0, .int .u64 0] 122);have hA1:gP (w.alloc (.cells #[.slice none 0 0, .int .u64 0, .int .u64 0, .int .u64 0] 122)) w.heap.size 122 [.slice none 0 0, .int .u64 0, .int .u64 0, .int .u64 0]:=heap_alloc_last w _;obtain⟨W1,hW1⟩:∃X,w.alloc (.cells #[.slice none 0 0, .int .u64 0, .int .u64 0, .int .u64 0] 122)=X:=⟨_,rfl⟩;rw[hW1]at hB1 hA1;have hs1:=hs.kept hB1;have hnx1:=hnx W1;clear hs hnx hok hk h3;go_enter Tryz.func88,Tryz.ntmps88;go_wp2_with fail;refine hnx1.mono ?_;rintro e w2 ⟨gn,mn,cn,rfl,hon,hB2⟩;dsimp only;have UD:=hrd w2 (hs1.kept hB2);have hgn:w.heap.size<gn:=by{have:=hon.lt;have:w.heap.size<W1.heap.size:=by{(rw[←hW1];simp)};omega};have hgn2:=hon.lt.2;have HN:=ae (ak (hon.mono hB1.size) (ak (hB1.trans (hB2.mono hB1.size)) (hA1.kept hB2)));clear hnx1 hon hB2 hs1 hA1 hrd;go_wp2_with fail;refine UD.mono ?_;rintro e w3 ⟨gr,mr,cr,rfl,hor,hB3⟩;dsimp only;have hbs:=jD (some ⟨gr,0,none⟩) mr cr R HRI.out (by have:=hor.1;omega) w3 (OI.il hor.oi).2;rw[←HUM.out]at hbs;have aiA:=aj hgn2 hB3.size;have RZ:=ae (ak (HN.out.1.kept hB3) (ak (HN.out.2.1.trans (hB3.mono HN.out.2.1.size)) (HN.out.2.2.kept hB3)));clear UD hor hB3 HN;go_wp2_with fail;refine hbs.mono ?_;rintro e w4 ⟨rfl,hw4⟩;subst w4;dsimp only;clear hbs;have pM:=aA w3 (.cells #[.slice (some ⟨gn,0,none⟩) mn cn, .int .u64 (U:Int), .int .u64 0, .int .u64 0] 122);have hA4:gP (w3.alloc (.cells #[.slice (some ⟨gn,0,none⟩) mn cn, .int .u64 (U:Int), .int .u64 0, .int .u64 0] 122)) w3.heap.size 122 [.slice (some ⟨gn,0,none⟩) mn cn, .int .u64 (U:Int), .int .u64 0, .int .u64 0]:=heap_alloc_last w3 _;have QF:=hbw (w3.alloc (.cells #[.slice (some ⟨gn,0,none⟩) mn cn, .int .u64 (U:Int), .int .u64 0, .int .u64 0] 122));have R3:=ae (ak (RZ.out.1.kept pM) (ak (RZ.out.2.1.trans (pM.mono RZ.out.2.1.size)) (ak (RZ.out.2.2.kept pM) hA4)));have MC:w.heap.size<w3.heap.size:=RZ.out.2.2.lt;clear pM hA4 RZ hbw;go_wp2_with fail;refine QF.mono ?_;rintro e w5 ⟨rfl,bE⟩;dsimp only;have zW:=ae (ak (R3.out.1.kept bE) (ak (R3.out.2.1.trans (bE.mono R3.out.2.1.size)) (ak (R3.out.2.2.1.kept bE) (R3.out.2.2.2.kept bE))));clear QF bE R3;have hsz5:w3.heap.size<w5.heap.size:=zW.out.2.2.2.lt;have hne:¬w.heap.size=w3.heap.size:=by{omega};have hne2:¬w3.heap.size=w.heap.size:=by{omega};have hA:=zW.out.2.2.1;have hD:=zW.out.2.2.2;have a0:=hA.cell (j:=0) rfl;have a1:=hA.cell (j:=1) rfl;have a2:=hA.cell (j:=2) rfl;have a3:=hA.cell (j:=3) rfl;have d0:=hD.cell (j:=0) rfl;have d1:=hD.cell (j:=1) rfl;have d2:=hD.cell (j:=2) rfl;have d3:=hD.cell (j:=3) rfl;have fa:=hA.frozen;have fd:=hD.frozen;rcases hw:Ln.Cm x with _|_;{have HS:=ae (HSN.out hw);have KC:=P8 w5 w.heap.size (.slice (some ⟨gn,0,none⟩) mn cn) (.int .u64 (U:Int)) (.int .u64 0) (.int .u64 0);have HF:=ae (ak (zW.out.1.bT KC (by omega)) (aC zW.out.2.1 KC (Nat.le_refl _)));clear hA hD KC;go_wp2;(try simp only[Exit.inBlock,Exit.then]);refine bodyPost_ret (v:= .agg #[.slice (some ⟨gn,0,none⟩) mn cn, .int .u64 (U:Int), .int .u64 0, .int .u64 0]) ?_ rfl ⟨gn,mn,cn,by rw[HS.out];rfl,HF.out.1,HF.out.2⟩;rw[aD rfl];go_simp};have HS:=ae (Od.out hw);have hal:=aA w5 (.cells #[.int .i64 x.d] 2);have hbs:=jD (some ⟨w5.heap.size,0,none⟩) 1 1 [x.d] (fun y hy=>by rw[List.mem_singleton]at hy;rw[hy];exact HS.out.2) (by omega) (w5.alloc (.cells #[.int .i64 x.d] 2)) (OI.il (OG.one w5 w5.heap.size (Nat.le_refl _) x.d).oi).2;rw[←HS.out.1]at hbs;obtain⟨SM,hSM⟩:∃SM,Fl.sm x=SM:=⟨_,rfl⟩;rw[hSM]at hbs;have HM:=ae hSM;clear hSM;have hSa:=aB w5 ⟨w3.heap.size,2,none⟩ (.int .u64 (SM:Int));have HN7:=ae (ak (zW.out.1.bT hSa (by dsimp only;omega)) (aC zW.out.2.1 hSa (by dsimp only;omega)));have KC:=P8 (w5.setCell ⟨w3.heap.size,2,none⟩ (.int .u64 (SM:Int))) w.heap.size (.slice (some ⟨gn,0,none⟩) mn cn) (.int .u64 (U:Int)) (.int .u64 (SM:Int)) (.int .u64 0);have dL:=aC HN7.out.2 KC (Nat.le_refl _);have QG:=aA (((((w5.setCell ⟨w3.heap.size,2,none⟩ (.int .u64 (SM:Int))).setCell ⟨w.heap.size,0,none⟩ (.slice (some ⟨gn,0,none⟩) mn cn)).setCell ⟨w.heap.size,1,none⟩ (.int .u64 (U:Int))).setCell ⟨w.heap.size,2,none⟩ (.int .u64 (SM:Int))).setCell ⟨w.heap.size,3,none⟩ (.int .u64 0)) (.cells #[.int .i64 x.d] 2);have HF:=ae (ak ((HN7.out.1.bT KC (by omega)).kept QG) (dL.trans (QG.mono dL.size)));have aiB:w.heap.size<w5.heap.size:=by{omega};have aiC:¬w.heap.size=w5.heap.size:=by{omega};have aiD:¬w3.heap.size=w5.heap.size:=by{omega};clear QG dL;clear hA hD KC hSa hal;go_wp2_with(go_at_call 109;refine hbs.mono ?_;rintro e w6 ⟨rfl,hw6⟩;subst w6;dsimp only);(try simp only[Exit.inBlock,Exit.then]);refine bodyPost_ret (v:= .agg #[.slice (some ⟨gn,0,none⟩) mn cn, .int .u64 (U:Int), .int .u64 (SM:Int), .int .u64 0]) ?_ rfl ⟨gn,mn,cn,by rw[HM.out],HF.out.1,HF.out.2⟩;rw[aD rfl];go_simp
abbrev Wv:=Value×Nat×Nat×Nat
def NW:Wv:=(.slice none 0 0,0,0,0)
def o5 (xs:List Wv):List Value:=xs.flatMap fun x=>[x.1, .int .u64 (x.2.1:Int), .int .u64 (x.2.2.1:Int), .int .u64 (x.2.2.2:Int)]
theorem qF (x:Wv)(xs:List Wv):o5 (x::xs)=x.1:: .int .u64 (x.2.1:Int):: .int .u64 (x.2.2.1:Int):: .int .u64 (x.2.2.2:Int)::o5 xs:=rfl
theorem AL (xs ys:List Wv):o5 (xs++ys)=o5 xs++o5 ys:=by simp[o5]
theorem BI:∀(xs:List Wv)(j:Nat),j<xs.length->(o5 xs)[j*4]?=some (xs.getD j NW).1/\(o5 xs)[j*4+1]?=some (.int .u64 ((xs.getD j NW).2.1:Int))/\(o5 xs)[j*4+2]?=some (.int .u64 ((xs.getD j NW).2.2.1:Int))/\(o5 xs)[j*4+3]?=some (.int .u64 ((xs.getD j NW).2.2.2:Int))
 |[],j,h=>by simp at h
 |x::xs,0,_=>⟨rfl,rfl,rfl,rfl⟩
 | x::xs,j+1,h=>by
   have ih:=BI xs j (by simp at h;omega)
   rw[qF,show(j+1)*4=j*4+1+1+1+1 by omega]
   refine⟨by simpa using ih.1,?_,?_,?_⟩
   · rw[show j*4+1+1+1+1+1=(j*4+1)+1+1+1+1 by omega];simpa using ih.2.1
   · rw[show j*4+1+1+1+1+2=(j*4+2)+1+1+1+1 by omega];simpa using ih.2.2.1
   · rw[show j*4+1+1+1+1+3=(j*4+3)+1+1+1+1 by omega];simpa using ih.2.2.2
theorem xQ:∀(xs:List Wv)(k:Nat)(y:Nat),k<xs.length->o5 (xs.set k ((xs.getD k NW).1,(xs.getD k NW).2.1,(xs.getD k NW).2.2.1,y))=(o5 xs).set (k*4+3) (.int .u64 (y:Int))
 |[],k,y,h=>by simp at h
 |x::xs,0,y,h=>rfl
 | x::xs,k+1,y,h=>by
   have ih:=xQ xs k y (by simp at h;omega)
   rw[List.set_cons_succ,qF,qF,show(k+1)*4+3=(k*4+3)+1+1+1+1 by omega]
   simp only[List.set_cons_succ,List.getD_cons_succ]
   rw[ih]
def FR (ls:List Ln)(W:World)(n₀ g k c:Nat)(f:List Nat):Prop:=
 ∃ vs:List Wv,vs.length=k/\W.ownsRow n₀ 122 4 (.slice (some ⟨g,0,none⟩) k c) k (o5 vs)/\
   ∀j,j<k->∃gn n c',vs.getD j NW=(.slice (some ⟨gn,0,none⟩) n c',Fl.um (ls.getD j .z),Fl.sm (ls.getD j .z),f.getD j 0)/\OG W n₀ gn n c' (Fl.nx (ls.getD j .z) j)/\gn≠g
theorem FR.lt {ls:List Ln}{W:World}{n₀ g k c:Nat}{f:List Nat}(h:FR ls W n₀ g k c f):n₀<=g/\g<W.heap.size:=by obtain⟨vs,-,h,-⟩:=h;exact World.ownsRow.lt h g rfl
theorem FR.cap {ls:List Ln}{W:World}{n₀ g k c:Nat}{f:List Nat}(h:FR ls W n₀ g k c f):k<=c/\c<=maxLen:=by obtain⟨vs,-,h,-⟩:=h;rcases h.2 with⟨e,-⟩|⟨g',cap,cur,e,hb,hc,hn,hm,-⟩;{cases e};cases e;exact⟨hn,hm⟩
theorem FR.kept {ls:List Ln}{W W':World}{n₀ g k c:Nat}{f:List Nat}(h:FR ls W n₀ g k c f)(hB:Below W.heap.size W W'):FR ls W' n₀ g k c f:=by
 obtain⟨vs,h1,h2,h3⟩:=h
 exact⟨vs,h1,aI h2 hB,fun j hj=>by
  obtain⟨gn,n,c',e,ho,hne⟩:=h3 j hj
  exact⟨gn,n,c',e,ho.kept hB,hne⟩⟩
theorem FR.cells {ls:List Ln}{W:World}{n₀ g k c:Nat}{f:List Nat}(h:FR ls W n₀ g k c f){j:Nat}(hj:j<k):∃gn n c',W.cell? ⟨g,j*4,none⟩=some (.slice (some ⟨gn,0,none⟩) n c')/\W.cell? ⟨g,j*4+1,none⟩=some (.int .u64 (Fl.um (ls.getD j .z):Int))/\W.cell? ⟨g,j*4+2,none⟩=some (.int .u64 (Fl.sm (ls.getD j .z):Int))/\W.cell? ⟨g,j*4+3,none⟩=some (.int .u64 (f.getD j 0:Int))/\OG W n₀ gn n c' (Fl.nx (ls.getD j .z) j)/\gn≠g:=by obtain⟨vs,h1,h2,h3⟩:=h;obtain⟨gn,n,c',e,ho,hne⟩:=h3 j hj;obtain⟨e0,e1,e2,e3⟩:=BI vs j (by omega);rw[e]at e0 e1 e2 e3;refine⟨gn,n,c',?_,?_,?_,?_,ho,hne⟩;{have:=World.ownsRow.cellAt h2 (j*4) (by omega);rwa [e0]at this};{have:=World.ownsRow.cellAt h2 (j*4+1) (by omega);rwa [e1]at this};{have:=World.ownsRow.cellAt h2 (j*4+2) (by omega);rwa [e2]at this};have:=World.ownsRow.cellAt h2 (j*4+3) (by omega);rwa [e3]at this
theorem FR.frozen {ls:List Ln}{W:World}{n₀ g k c:Nat}{f:List Nat}(h:FR ls W n₀ g k c f)(j:Nat):W.frozen? ⟨g,j,none⟩=false:=by obtain⟨vs,h1,h2,h3⟩:=h;exact World.ownsRow.frozenAt h2 j
theorem FR.set {ls:List Ln}{W:World}{n₀ g k c:Nat}{f:List Nat}(h:FR ls W n₀ g k c f){j:Nat}(hj:j<k)(hf:f.length=k)(x:Nat):FR ls (W.setCell ⟨g,j*4+3,none⟩ (.int .u64 (x:Int))) n₀ g k c (f.set j x):=by obtain⟨vs,h1,h2,h3⟩:=h;have hst:=(World.ownsRow.stored h2 (j*4+3) (.int .u64 (x:Int))).1;rw[←xQ vs j x (by omega)]at hst;refine⟨_,by rw[List.length_set];exact h1,hst,fun i hi=>?_⟩;obtain⟨gn,n,c',e,ho,hne⟩:=h3 i hi;refine⟨gn,n,c',?_,ho.bT (aB W ⟨g,j*4+3,none⟩ _) hne,hne⟩;rw[Fl.lT];by_cases hij:j=i;{subst hij;rw[ay ⟨rfl,by omega⟩,ah,List.getElem?_set_self (by omega),Option.getD_some,e]};rw[ax (fun h=>hij h.1),ah,List.getElem?_set_ne hij,←ah,e]
theorem jV (ls:List Ln)(hok:Ln.isOk ls=true)(p:Nat)(hp:p<ls.length)(f:List Nat)(hf:∀i,f.getD i 0<2 ^ 40)(n₀ g c:Nat)(w:World)(h:FR ls w n₀ g ls.length c f):Calls Tryz.prog 90 #[.slice (some ⟨g,0,none⟩) ls.length c, .int .i64 (p:Int)] w fun e w'=>e= .returned (.int .u64 ((Fl.ou ls f p:Nat):Int))/\w'=w:=by have hlen:=Ln.eH hok;have Cr:(ls.length:Int)<=300:=by{omega};have ML:(p:Int)<(ls.length:Int):=by{omega};have hcap:=h.cap;have HN:=ae (Fl.NR hok hp);have HR:Hid (Fl.ou ls f p=Fl.js f (Fl.nx (ls.getD p .z) p)):=rfl;obtain⟨R,hR⟩:∃R,Fl.ou ls f p=R:=⟨_,rfl⟩;rw[hR]at HR ⊢;have HH:=ae h;have HF:=ae hf;obtain⟨gn,mn,cn,d0,d1,d2,d3,hon,hne⟩:=h.cells hp;generalize Fl.nx (ls.getD p .z) p=N at HN HR hon;have Cs:=ae hon.1;have hcn:=hon.cap;have hgn:=hon.lt;have HC:Hid (∀j,j<mn->w.cell? ⟨gn,j,none⟩=some (.int .i64 (N.getD j 0))):=fun j hj=>hon.cell hj;have hmx:mn<=9223372036854775807:=by{unfold maxLen at hcn;omega};have hlt:=h.lt;clear hon h hR hf hlen d1 d2 d3;generalize hL:ls.length=L at Cr ML hcap HN HH hp;clear hL;go_enter Tryz.func90,Tryz.ntmps90;go_wp2;go_loopg [5,14] mn (fun gk vx vi wr=>∃(k q:Nat),gk=mn-k/\k<=mn/\vx= .int .u64 (q:Int)/\vi= .int .i64 (k:Int)/\Hid (q=Fl.js f (N.take k))/\w=wr);(case atStart=>exact⟨0,0,rfl,by omega,rfl,rfl,(by show _=_;simp[Fl.js]),rfl⟩);case round=>obtain⟨k,q,nP,hk,rfl,rfl,HQ,bq⟩:=hrel;subst bq;by_cases hlt2:k<mn;{have bN:(k:Int)<(mn:Int):=by{omega};have hkl:k<N.length:=by{rw[Cs.out];exact hlt2};have hc:=HC.out k hlt2;have hj:=HN.out (N.getD k 0) (by rw[ah,ai hkl];exact List.getElem_mem hkl);have HS:=ae (Fl.EG (f:=f) hkl);rw[←HQ.out]at HS;have MM:Hid (q<2 ^ 40):=by{show _<_;rw[HQ.out];exact Fl.uR HF.out _};obtain⟨y,hy⟩:∃y,N.getD k 0=y:=⟨_,rfl⟩;rw[hy]at hc hj HS;clear hy hkl;obtain⟨j,rfl⟩:=Int.eq_ofNat_of_zero_le hj.1;rw[az]at HS;have hjl:j<L:=by{omega};have MJ:(j:Int)<(L:Int):=hj.2;obtain⟨_,_,_,-,-,-,hi,-,-⟩:=HH.out.cells hjl;have HZ:=ae (HF.out j);obtain⟨z,hz⟩:∃z,f.getD j 0=z:=⟨_,rfl⟩;rw[hz]at hi HS HZ;have hor:bits .or .u64 (q:Int) (z:Int)=((q|||z:Nat):Int):=AY MM.out HZ.out;clear hz hj;go_wp2;go_roundg (mn-(k+1));(case measure=>omega);case rel=>exact⟨k+1,q|||z,rfl,hlt2,rfl,by simp,(by show _=_;rw[HS.out]),rfl⟩};have hke:k=mn:=by{omega};have HE:Hid (q=R):=by{show _=_;rw[HQ.out,HR.out,hke,←Cs.out,List.take_length]};clear HQ;have bN:¬(k:Int)<(mn:Int):=by{omega};clear hke;go_wp2;go_ret;exact⟨by rw[←HE.out]<;>rfl,rfl⟩
theorem AJ {l:List Int}{k:Nat}(h:k<l.length):l.getD k 0∈l:=by rw[ah,ai h];exact List.getElem_mem h
theorem F5 (ls:List Ln)(hok:Ln.isOk ls=true)(p:Nat)(hp:p<ls.length)(n₀ gf c g:Nat)(w:World)(hf:FR ls w n₀ gf ls.length c (Fl.live ls))(hs:SA w g (Sp.rows ls p)):Calls Tryz.prog 58 #[.pointer (some ⟨g,0,none⟩), .slice (some ⟨gf,0,none⟩) ls.length c, .int .i64 (p:Int), .bool (decide ((ls.getD p .z).k=7))] w fun e w'=>e= .returned (.tuple #[])/\SA w' g (Sp.rows ls (p+1))/\w.grownBy w' (some g):=by have hI:=Fl.yw hok;have hlen:=Ln.eH hok;have Cr:(ls.length:Int)<=300:=by{omega};have ML:(p:Int)<(ls.length:Int):=by{omega};have hcap:=hf.cap;have hcon:=fun n=>jV ls hok p hp (Fl.live ls) hI.lt n₀ gf c (w.drewN n) (hf.kept (bC w n));have uY:=Ln.iq hok hp;have hou:Fl.ou ls (Fl.live ls) p<2 ^ 40:=Fl.uR hI.lt _;have hsm:=Fl.Ny uY;have hin:=hI.lt p;have QH:=AY hin hou;have hor2:=AY (Nat.or_lt_two_pow hin hou) hsm;have hM:=Nat.or_lt_two_pow (Nat.or_lt_two_pow hin hou) hsm;have han:=Nq hou hsm;have hA:=Fl.xS (b:=Fl.sm (ls.getD p .z)) hou;have HST:=ae (Sp.FP hok hp);have HV:=ae (Sp.zH ls p);have Oz:Hid (Sp.more ls p (Sp.rows ls p)=(Fl.nX (((Fl.live ls).getD p 0|||Fl.ou ls (Fl.live ls) p)|||Fl.sm (ls.getD p .z))).foldl (Sp.on (Sp.rc (p:Int))) (Sp.rows ls p)):=rfl;have Ct:Hid (∀l,Sp.jl ls p l=if(ls.getD p .z).k=7 then(Fl.nX (Fl.an (Fl.ou ls (Fl.live ls) p) (Fl.sm (ls.getD p .z)))).foldl (Sp.on Sp.xd) l else l):=fun _=>rfl;obtain⟨gn,mn,cn,d0,d1,d2,d3,-,-⟩:=hf.cells hp;have HS:=ae hs;have hgl:=hs.lt;have aiE:=hf.lt;have hmx:ls.length<=9223372036854775807:=by{omega};generalize(Fl.live ls).getD p 0=Z at d3 hin QH hor2 hM Oz;generalize Fl.sm (ls.getD p .z)=S at d2 hsm hor2 hM han hA Oz Ct;generalize Fl.ou ls (Fl.live ls) p=O at hcon hou QH hor2 hM han hA Oz Ct;generalize Z|||O=X at QH hor2 hM Oz;generalize X|||S=M at hor2 hM Oz;generalize Fl.an O S=A at han hA Ct;obtain⟨q,hq⟩:∃q,decide ((ls.getD p .z).k=7)=q:=⟨_,rfl⟩;have hCQ:∀l,Sp.jl ls p l=if q=true then(Fl.nX A).foldl (Sp.on Sp.xd) l else l:=fun l=>by{rw[Ct.out l,←hq];simp only[decide_eq_true_eq]};rw[hq];generalize Sp.rows ls p=l0 at HST HV HS Oz hs;obtain⟨l1,hl1⟩:∃l1,Sp.more ls p l0=l1:=⟨_,rfl⟩;rw[hl1]at HST Oz;obtain⟨l2,hl2⟩:∃l2,Sp.rows ls (p+1)=l2:=⟨_,rfl⟩;rw[hl2]at HST ⊢;have UE:=ae (hCQ l1);rw[←HST.out]at UE;generalize hL:ls.length=L at Cr ML hcap hp hcon hmx;have RU:Hid ((Fl.nX M).length<=40):=Fl.sF M 40;have HBI:=ae (Sp.yJ M);have abx:Hid ((Fl.nX A).length<=40):=Fl.sF A 40;have aby:=ae (Sp.yJ A);have HVM:Hid (Sp.Vs l0):=HV;have hcb:=fun W=>uf M hM W;have BR:=fun W=>uf A hA W;clear uY hok hlen hI hou hsm hin hM hA hl1 hl2 hq hCQ hL hf hs Ct HST HV hp;go_enter Tryz.func58,Tryz.ntmps58;go_wp2;go_quiet ((go_at_call 90;exact Calls.quiet_of_same (hcon _)));go_wp2_with fail;refine(hcb _).mono ?_;rintro e w2 ⟨gb,nb,cb,rfl,BU,hB2⟩;dsimp only;have hB3:=dh hB2;have JX:OG w2 w.heap.size gb nb cb (Fl.nX M):=BU;have hgb:=JX.lt;have hgw:=hB3.size;have hne:gb≠g:=by{omega};have HL:=ae JX.1;have HX:=ae (ak JX (ak (HS.out.kept hB3) hB3));have hnb:nb<=40:=by{rw[←HL.out];exact RU.out};have aiG:(nb:Int)<=40:=by{omega};have hcapb:=JX.cap;clear BU hB2 hB3 JX hcon hcb d0 d1 d2 d3;go_wp2;go_loopg [33] nb (fun gk vi wr=>∃(k:Nat),gk=nb-k/\k<=nb/\vi= .int .i64 (k:Int)/\OG wr w.heap.size gb nb cb (Fl.nX M)/\SA wr g (((Fl.nX M).take k).foldl (Sp.on (Sp.rc (p:Int))) l0)/\w.grownBy wr (some g));(case atStart=>exact⟨0,rfl,by omega,rfl,HX.out.1,HX.out.2.1,nZ HX.out.2.2 (by exact⟨rfl,rfl,rfl,Nat.le_refl _,fun _ _ _=>rfl⟩)⟩);case round=>obtain⟨k,nP,hk,rfl,BU,hs,hG⟩:=hrel;clear HX;by_cases hlt:k<nb;{have bN:(k:Int)<(nb:Int):=by{omega};have hc:=BU.cell hlt;have hkl:k<(Fl.nX M).length:=by{rw[HL.out];exact hlt};have hy:=HBI.out ((Fl.nX M).getD k 0) (AJ hkl);have HT:=ae (Sp.wT (Sp.rc (p:Int)) hkl l0);have hv:=Sp.Vs.fold (Sp.aav (p:Int)) (Sp.aaA (by omega)) ((Fl.nX M).take k) l0 (fun b hb=>HBI.out b (List.mem_of_mem_take hb)) HVM.out;generalize(Fl.nX M).getD k 0=y at hc hy HT;generalize((Fl.nX M).take k).foldl (Sp.on (Sp.rc (p:Int))) l0=lk at hs HT hv;obtain⟨j,rfl⟩:=Int.eq_ofNat_of_zero_le hy.1;have hrc:=Db lk hv j (by omega) (p:Int) g wr hs;have HO:=ae (ak BU hG);have hgr:=hs.lt;have hbr:=BU.lt;clear BU hs hG hv hy hkl;go_wp2_with(go_at_call 92;refine hrc.mono ?_;rintro e w4 ⟨rfl,hs4,hg4⟩;dsimp only;have HF:=ae (ak (HO.out.1.bT hg4 hne) (ak hs4 (HO.out.2.trans hg4)));clear hs4 hg4);go_roundg (nb-(k+1));(case measure=>omega);case rel=>exact⟨k+1,rfl,hlt,by simp,HF.out.1,by rw[HT.out];exact HF.out.2.1,HF.out.2.2⟩};have hke:k=nb:=by{omega};have HE:Hid (SA wr g l1/\w.grownBy wr (some g)):=by{refine⟨?_,hG⟩;rw[Oz.out];rw[hke,←HL.out,List.take_length]at hs;exact hs};have bN:¬(k:Int)<(nb:Int):=by{omega};clear BU hs hG hke;cases q;{have HQ:Hid (l2=l1):=by{show _=_;rw[UE.out,ax (by decide)]};clear UE;go_wp2;refine bodyPost_ret (results_none rfl _ _ _) rfl ⟨rfl,?_,HE.out.2⟩;rw[HQ.out];exact HE.out.1};have HQ:Hid (l2=(Fl.nX A).foldl (Sp.on Sp.xd) l1):=by{show _=_;rw[UE.out,ay rfl]};clear UE;go_wp2_with fail;refine(BR _).mono ?_;rintro e w3 ⟨gd,nd,cd,rfl,hod,hB3⟩;dsimp only;have JY:OG w3 wr.heap.size gd nd cd (Fl.nX A):=hod;have hgd:=JY.lt;have hgr:=HE.out.1.lt;have hne2:gd≠g:=by{omega};have HL2:=ae JY.1;have HX:=ae (ak JY (ak (HE.out.1.kept hB3) (HE.out.2.trans (show wr.grownBy w3 (some g)from⟨hB3.os,hB3.tape,hB3.output,hB3.size,fun x hx _=>hB3.block x hx⟩))));have hnd:nd<=40:=by{rw[←HL2.out];exact abx.out};have aiH:(nd:Int)<=40:=by{omega};have agi:=JY.cap;have HG0:=HX.out.2.1.lt;clear hod hB3 JY BR;go_wp2;go_loopg [49] nd (fun gk vi wr=>∃(k:Nat),gk=nd-k/\k<=nd/\vi= .int .i64 (k:Int)/\OG wr w.heap.size gd nd cd (Fl.nX A)/\SA wr g (((Fl.nX A).take k).foldl (Sp.on Sp.xd) l1)/\w.grownBy wr (some g));(case atStart=>exact⟨0,rfl,by omega,rfl,HX.out.1.mono HE.out.2.size,HX.out.2.1,HX.out.2.2⟩);case round=>obtain⟨i,hgi,hi,rfl,BU,hs,hG⟩:=hrel;clear HX;by_cases hlt2:i<nd;{have UF:(i:Int)<(nd:Int):=by{omega};have hc:=BU.cell hlt2;have hkl:i<(Fl.nX A).length:=by{rw[HL2.out];exact hlt2};have hy:=aby.out ((Fl.nX A).getD i 0) (AJ hkl);have HT:=ae (Sp.wT Sp.xd hkl l1);generalize(Fl.nX A).getD i 0=y at hc hy HT;generalize((Fl.nX A).take i).foldl (Sp.on Sp.xd) l1=lk at hs HT;obtain⟨j,rfl⟩:=Int.eq_ofNat_of_zero_le hy.1;have hj:j<40:=by{omega};have MJ:(j:Int)<40:=by{omega};obtain⟨e0,e1,e2,e3⟩:=hs.cell hj;have hgs:=hs.lt;have hfz:=hs.frozen;have hgx:=aB wr ⟨g,j*4+3,none⟩ (.bool true);have HF:=ae (ak (BU.bT hgx hne2) (ak (hs.cr hj) (hG.trans hgx)));have Qv:Hid (Sp.on Sp.xd lk (j:Int)=lk.set j (Sp.xd (lk.getD j .z))):=rfl;generalize lk.getD j .z=s at e0 e1 e2 e3 HF Qv;have hbr:=BU.lt;clear BU hs hG hy hkl hgx;go_wp2;go_roundg (nd-(i+1));(case measure=>omega);case rel=>exact⟨i+1,rfl,hlt2,by simp,HF.out.1,by rw[HT.out,Qv.out];exact HF.out.2.1,HF.out.2.2⟩};have hie:i=nd:=by{omega};have HZ:Hid (SA wr g l2/\w.grownBy wr (some g)):=by{refine⟨?_,hG⟩;rw[HQ.out];rw[hie,←HL2.out,List.take_length]at hs;exact hs};have UF:¬(i:Int)<(nd:Int):=by{omega};clear BU hs hG hie;go_wp2;refine bodyPost_end (results_none rfl _ _ _) rfl ⟨rfl,HZ.out.1,HZ.out.2⟩
theorem oJ {W W1:World}(hB:Below W.drew.drew.heap.size W.drew.drew W1):Below W.heap.size W W1:=⟨hB.os,hB.tape,hB.output,hB.size,fun k hk=>hB.block k hk⟩
theorem uq (l:List Sp.S)(hv:Sp.Vs l)(g:Nat)(w:World)(hs:SA w g l):Calls Tryz.prog 59 #[.pointer (some ⟨g,0,none⟩)] w fun e w'=>∃g' n c,e= .returned (.slice (some ⟨g',0,none⟩) n c)/\SG w' w.heap.size g' n c (Sp.bg l 40)/\Below w.heap.size w w':=by have HO:=ae (ak (SG.empty w w.heap.size (Nat.le_refl _)) (aA w (.cells #[] 39)));have HV:=ae hv;have HS:=ae hs;have hg0:=hs.lt;clear hs hv;go_enter Tryz.func59,Tryz.ntmps59;go_wp2;go_loopg [3,9] 40 (fun gk vo vi wr=>∃(k g' n c:Nat),gk=40-k/\k<=40/\vo= .slice (some ⟨g',0,none⟩) n c/\vi= .int .i64 (k:Int)/\SG wr w.heap.size g' n c (Sp.bg l k)/\Below w.heap.size w wr);(case atStart=>exact⟨0,_,0,0,rfl,by omega,rfl,rfl,HO.out.1,HO.out.2⟩);case round=>obtain⟨k,g',n,c,nP,hk,rfl,rfl,hor,hB⟩:=hrel;clear HO;have HH:=ae (ak hor hB);by_cases hlt:k<40;{have bN:(k:Int)<40:=by{omega};have hs:=HS.out.kept hB;have hgl:=hs.lt;have hfz:=hs.frozen;have bq:=hB.size;obtain⟨d0,d1,d2,d3⟩:=hs.cell hlt;have hbx:=HV.out.bx k hlt;have hun:=HV.out.un k hlt;have ik:Hid (Sp.bg l (k+1)=if 0<=(l.getD k .z).f then Sp.bg l k++[l.getD k .z]else Sp.bg l k):=rfl;have hnl:=Sp.IK l k;rw[hor.1]at hnl;have HSS:=ae hs;generalize l.getD k .z=s at d0 d1 d2 d3 hbx hun ik;obtain⟨sb,sf,st,sc⟩:=s;dsimp only at hbx hun d0 d1 d2 d3;subst hbx;clear hor hB hs;by_cases hf:sf<0;{have h2:=hun hf;injection h2 with _ h3 h4 h5;subst h3 h4 h5;have QI:Hid (Sp.bg l (k+1)=Sp.bg l k):=by{show _=_;rw[ik.out,ax (show¬(0:Int)<=-1 by decide)]};clear hun hf ik;have hal:=aA wr (.cells #[.int .i64 (k:Int), .int .i64 (-1), .int .i64 (-1), .bool false] 39);have HK:=ae (ak (HH.out.1.kept hal) (HH.out.2.trans (hal.mono bq)));clear hal;go_wp2_with fail;go_region;go_wp2_with fail;go_region_with (go_at_call 60;refine(eT _ _).mono ?_;rintro e w4 ⟨rfl,hB4⟩;unfold Ns;have bE:=oJ hB4;have hlz:=bE.size;have e0:=bE.cell (p:=⟨wr.heap.size,0,none⟩) (by simp);have e1:=bE.cell (p:=⟨wr.heap.size,1,none⟩) (by simp);have e2:=bE.cell (p:=⟨wr.heap.size,2,none⟩) (by simp);have e3:=bE.cell (p:=⟨wr.heap.size,3,none⟩) (by simp);simp at e0 e1 e2 e3 hlz;have R4:=ae (ak (HK.out.1.kept bE) (HK.out.2.trans (bE.mono HK.out.2.size)));clear hB4 bE);all_goals go_wp2;go_roundg (40-(k+1));(case measure=>omega);case rel=>exact⟨k+1,g',n,c,rfl,hlt,rfl,by simp,by rw[QI.out];exact R4.out.1,R4.out.2⟩};have QI:Hid (Sp.bg l (k+1)=Sp.bg l k++[⟨(k:Int),sf,st,sc⟩]):=by{show _=_;rw[ik.out,ay (show(0:Int)<=sf by omega)]};have hq:¬sf=-1:=by{omega};clear hun hf ik;have hal:=aA wr (.cells #[.int .i64 (k:Int), .int .i64 sf, .int .i64 st, .bool sc] 39);have HK:=ae (ak (HH.out.1.kept hal) (HH.out.2.trans (hal.mono bq)));clear hal;go_wp2_with fail;go_region;go_wp2_with fail;go_region_with (go_at_call 60;refine(eT _ _).mono ?_;rintro e w4 ⟨rfl,hB4⟩;unfold Ns;have bE:=oJ hB4;have hlz:=bE.size;have e0:=bE.cell (p:=⟨wr.heap.size,0,none⟩) (by simp);have e1:=bE.cell (p:=⟨wr.heap.size,1,none⟩) (by simp);have e2:=bE.cell (p:=⟨wr.heap.size,2,none⟩) (by simp);have e3:=bE.cell (p:=⟨wr.heap.size,3,none⟩) (by simp);simp at e0 e1 e2 e3 hlz;have R4:=ae (ak (HK.out.1.kept bE) (HK.out.2.trans (bE.mono HK.out.2.size)));clear hB4 bE);all_goals have hal:=aA w4 (.cells #[.int .i64 (k:Int), .int .i64 sf, .int .i64 st, .bool sc] 39);have ZE:=ae (ak (R4.out.1.kept hal) (R4.out.2.trans (hal.mono R4.out.2.size)));have QJ:=ae (nS w4 (.int .i64 (k:Int)) (.int .i64 sf) (.int .i64 st) (.bool sc) 39);have Cv:=ZE.out.2.size;clear hal;go_wp2_with(at_builtin;refine Be _ rfl _ _ rfl w.heap.size _ _ _ _ rfl ZE.out.1 w4.heap.size ⟨(k:Int),sf,st,sc⟩ rfl QJ.out (by omega) Cv ?_;intro g6 c6 N6 w6 hN6 xZ mq;have HF:=ae (ak xZ (aC ZE.out.2 mq ZE.out.1.lt.1));clear xZ mq);go_roundg (40-(k+1));(case measure=>omega);case rel=>exact⟨k+1,g6,N6,c6,rfl,hlt,rfl,by simp,by rw[QI.out];exact HF.out.1,HF.out.2⟩};have hke:k=40:=by{omega};subst hke;go_wp2;go_ret;exact⟨g',n,c,rfl,HH.out.1,HH.out.2⟩
namespace Fl
theorem Al {f:List Nat}{p:Nat}{x:Nat}(h:f.getD p 0=x):f.set p x=f:=by by_cases hp:p<f.length;{rw[ah,ai hp]at h;simp only[Option.getD_some]at h;rw[←h];exact List.set_getElem_self hp};exact List.set_eq_of_length_le (by omega)
end Fl
theorem rR (ls:List Ln)(hok:Ln.isOk ls=true)(p:Nat)(hp:p<ls.length)(f:List Nat)(hI:Fl.In ls f)(n₀ g c:Nat)(w:World)(h:FR ls w n₀ g ls.length c f):Calls Tryz.prog 112 #[.slice (some ⟨g,0,none⟩) ls.length c, .int .i64 (p:Int)] w fun e w'=>e= .returned (.bool (decide (Fl.iL ls f p≠f.getD p 0)))/\FR ls w' n₀ g ls.length c (f.set p (Fl.iL ls f p))/\w.grownBy w' (some g):=by have hlen:=Ln.eH hok;have Cr:(ls.length:Int)<=300:=by{omega};have ML:(p:Int)<(ls.length:Int):=by{omega};have hcap:=h.cap;have hcon:=fun n=>jV ls hok p hp f hI.lt n₀ g c (w.drewN n) (h.kept (bC w n));have HST:Hid (Fl.iL ls f p=Fl.um (ls.getD p .z)|||Fl.an (Fl.ou ls f p) (Fl.sm (ls.getD p .z))):=rfl;have uY:=Ln.iq hok hp;have hou:Fl.ou ls f p<2 ^ 40:=Fl.uR hI.lt _;have hum:=Fl.Np uY;have hsm:=Fl.Ny uY;have hal:=Nq hou hsm;have hor:=AY hum (Fl.xS (b:=Fl.sm (ls.getD p .z)) hou);rw[←HST.out]at hor;obtain⟨gn,mn,cn,d0,d1,d2,d3,-,-⟩:=h.cells hp;have hfz:=h.frozen;have hlt:=h.lt;have HH:=ae h;have HL:=ae hI.len;generalize Fl.um (ls.getD p .z)=U at hor d1;generalize Fl.sm (ls.getD p .z)=S at hal hor d2;generalize Fl.ou ls f p=O at hal hor hcon;generalize Fl.an O S=A at hal hor;obtain⟨T,hT⟩:∃T,Fl.iL ls f p=T:=⟨_,rfl⟩;rw[hT]at hor ⊢;obtain⟨z,hz⟩:∃z,f.getD p 0=z:=⟨_,rfl⟩;rw[hz]at d3 ⊢;have HZ:=ae hz;generalize hL:ls.length=L at Cr ML hcap HL HH hp hcon ⊢;clear hok hlen hI uY hou hum hsm h hT hz hL HST;by_cases e:T=z;{have hd:decide (T≠z)=false:=by{simp[e]};rw[hd];subst e;have hq:((T:Int)==(T:Int))=true:=by{simp};clear hd;go_enter Tryz.func112,Tryz.ntmps112;go_wp2;go_quiet ((go_at_call 90;exact Calls.quiet_of_same (hcon _)));have HF:Hid (FR ls (w.drewN nq) n₀ g L c (f.set p T)/\w.grownBy (w.drewN nq) (some g)):=⟨by rw[Fl.Al HZ.out];exact HH.out.kept (bC w nq),⟨rfl,rfl,rfl,Nat.le_refl _,fun _ _ _=>rfl⟩⟩;go_wp2;go_ret;exact⟨rfl,HF.out.1,HF.out.2⟩};have hd:decide (T≠z)=true:=by{simp[e]};rw[hd];have hq:((T:Int)==(z:Int))=false:=by{simp;omega};clear hd;go_enter Tryz.func112,Tryz.ntmps112;go_wp2;go_quiet ((go_at_call 90;exact Calls.quiet_of_same (hcon _)));have HF:Hid (FR ls ((w.drewN nq).setCell ⟨g,p*4+3,none⟩ (.int .u64 (T:Int))) n₀ g L c (f.set p T)/\w.grownBy ((w.drewN nq).setCell ⟨g,p*4+3,none⟩ (.int .u64 (T:Int))) (some g)):=⟨(HH.out.kept (bC w nq)).set hp HL.out T,(show w.grownBy (w.drewN nq) (some g)from⟨rfl,rfl,rfl,Nat.le_refl _,fun _ _ _=>rfl⟩).trans (aB _ ⟨g,p*4+3,none⟩ _)⟩;go_wp2;go_ret;exact⟨rfl,HF.out.1,HF.out.2⟩
namespace Fl
def lD (ls:List Ln)(f:List Nat)(p s:Nat):Prop:=∀t,t<s->iL ls f ((p+t)%ls.length)=f.getD ((p+t)%ls.length) 0
theorem lD.more {ls:List Ln}{f:List Nat}{p s:Nat}(h:lD ls f (p+1) s)(hp:p<ls.length)(he:iL ls f p=f.getD p 0):lD ls f p (s+1):=fun t ht=>by
 rcases t with _|t
 · rw[Nat.add_zero,Nat.mod_eq_of_lt hp]
   exact he
 · rw[show p+(t+1)=p+1+t by omega]
   exact h t (by omega)
theorem lD.fix {ls:List Ln}{f:List Nat}{p:Nat}(h:lD ls f p ls.length)(hp:p<ls.length):Fix ls f:=fun i hi=>by
 by_cases hpi:p<=i
 · have:=h (i-p) (by omega)
   rwa [show p+(i-p)=i by omega,Nat.mod_eq_of_lt hi]at this
 · have:=h (i+ls.length-p) (by omega)
   rwa [show p+(i+ls.length-p)=i+ls.length by omega,Nat.add_mod_right,Nat.mod_eq_of_lt hi]at this
theorem lD.turn {ls:List Ln}{f:List Nat}{s:Nat}(h:lD ls f 0 s):lD ls f ls.length s:=fun t ht=>by
 have:=h t ht
 rw[Nat.zero_add]at this
 rw[Nat.add_mod_left]
 exact this
end Fl
theorem pQ (ls:List Ln)(hok:Ln.isOk ls=true)(f0:List Nat)(hI:Fl.In ls f0)(hS:Fl.Sound ls f0)(n₀ g c:Nat)(w:World)(h:FR ls w n₀ g ls.length c f0):Calls Tryz.prog 89 #[.slice (some ⟨g,0,none⟩) ls.length c] w fun e w'=>e= .returned (.tuple #[])/\FR ls w' n₀ g ls.length c (Fl.live ls)/\w.grownBy w' (some g):=by have hlen:=Ln.eH hok;have hcap:=h.cap;have hlt:=h.lt;obtain⟨M,hM⟩:∃M,∀f,Fl.In ls f->f.sum<=M:=⟨_,fun f h=>h.sum⟩;have HM:=ae hM;have gN:=ae hok;have HI:=ae (ak hI hS);have HH:=ae h;have hcon:=fun p hp f hI W h=>rR ls hok p hp f hI n₀ g c W h;obtain⟨L,hL⟩:∃L,ls.length=L:=⟨_,rfl⟩;have HL:=ae hL;rw[hL]at hlen hcap HH hcon ⊢;have Cr:(L:Int)<=300:=by{omega};have hl1:(1:Int)<=(L:Int):=by{omega};clear hM hok hI hS h hL;go_enter Tryz.func89,Tryz.ntmps89;go_wp2;go_step3;go_wp2;go_step3;go_wp2;go_loopg [2] (M-f0.sum) (fun gk vs wr=>∃(s:Nat)(f:List Nat),vs= .int .i64 (s:Int)/\gk=M-f.sum/\s<L/\Hid (Fl.In ls f/\Fl.Sound ls f)/\Hid (Fl.lD ls f L s)/\FR ls wr n₀ g L c f/\w.grownBy wr (some g));(case atStart=>exact⟨0,f0,rfl,rfl,by omega,HI,(fun t ht=>by omega),HH.out,World.grownBy.refl _ _⟩);case round=>obtain⟨s0,f,rfl,nP,hs0,HIf,HSt,hfr,hgr⟩:=hrel;have HFG:=ae (ak hfr hgr);clear hfr hgr;go_wp2;go_loopg [2,3] L (fun gj vs va wx=>∃(s:Nat)(f':List Nat),vs= .int .i64 (s:Int)/\va= .int .i64 ((gj:Int)-1)/\gj<=L/\s<L/\Hid (Fl.In ls f'/\Fl.Sound ls f')/\Hid (Fl.lD ls f' gj s)/\Hid (f.sum<f'.sum\/f'=f/\s=s0+(L-gj))/\FR ls wx n₀ g L c f'/\w.grownBy wx (some g));(case atStart=>exact⟨s0,f,rfl,rfl,Nat.le_refl _,hs0,HIf,HSt, .inr ⟨rfl,by omega⟩,HFG.out.1,HFG.out.2⟩);case round=>obtain⟨s,f',rfl,rfl,hgj,hs,vN,HS',HD',hfr,hgr⟩:=hrel;rcases gk with _|p;{have hN:¬((0:Nat):Int)-1≥0:=by{omega};have Ha:=ae (ak hfr hgr);clear hfr hgr;go_wp2;have UG:Hid (f.sum<f'.sum):=by{rcases HD'.out with h|⟨-,h⟩;{exact h};exact absurd hs (by omega)};go_roundg (M-f'.sum);(case measure=>have h1:=HM.out _ vN.out.1;have h2:=UG.out;omega);case rel=>refine⟨s,f',rfl,rfl,hs,vN,?_,Ha.out.1,Ha.out.2⟩;have:=HS'.out.turn;rw[HL.out]at this;exact this};have hp:p<L:=by{omega};have hY:((p:Int)≥0):=by{omega};have e5:(((p+1:Nat):Int)-1)=(p:Int):=by{omega};rw[e5];have hc:=hcon p hp f' vN.out.1 wr hfr;have HGR:=ae hgr;have aiK:=hfr.lt;clear hfr hgr e5;by_cases hst:Fl.iL ls f' p=f'.getD p 0;{have hd:decide (Fl.iL ls f' p≠f'.getD p 0)=false:=decide_eq_false fun h=>h hst;rw[hd,Fl.Al hst.symm]at hc;have HM':Hid (Fl.lD ls f' p (s+1)):=HS'.out.more (by rw[HL.out];exact hp) hst;clear hd hst;by_cases hsl:s+1=L;{have hq:((s:Int)+1==(L:Int))=true:=by{simp;omega};have HE:Hid (f'=Fl.live ls):=by{have h1:=HM'.out;rw[hsl,←HL.out]at h1;exact Fl.Aw gN.out vN.out.1 vN.out.2 (h1.fix (by rw[HL.out];exact hp))};clear hsl;go_wp2_with(go_at_call 112;refine hc.mono ?_;rintro e w4 ⟨rfl,BV,gY⟩;dsimp only;have HF:=ae (ak BV (HGR.out.trans gY));clear BV gY);rw[Exit.noGoto_normal];(try simp only[Exit.inBlock,Exit.then]);refine bodyPost_end (results_none rfl _ _ _) rfl ⟨rfl,?_,HF.out.2⟩;rw[←HE.out];exact HF.out.1};have hq:((s:Int)+1==(L:Int))=false:=by{simp;omega};go_wp2_with(go_at_call 112;refine hc.mono ?_;rintro e w4 ⟨rfl,BV,gY⟩;dsimp only;have HF:=ae (ak BV (HGR.out.trans gY));clear BV gY);go_roundg p;(case measure=>omega);case rel=>refine⟨s+1,f',by simp,rfl,by omega,by omega,vN,HM',?_,HF.out.1,HF.out.2⟩;rcases HD'.out with h|⟨h,h2⟩;{exact .inl h};exact .inr ⟨h,by omega⟩};have hd:decide (Fl.iL ls f' p≠f'.getD p 0)=true:=decide_eq_true hst;rw[hd]at hc;have MN:=ae hst;clear hd hst;go_wp2_with(go_at_call 112;refine hc.mono ?_;rintro e w4 ⟨rfl,BV,gY⟩;dsimp only;have HF:=ae (ak BV (HGR.out.trans gY));clear BV gY);go_roundg p;(case measure=>omega);case rel=>have hpl:p<ls.length:=by{rw[HL.out];exact hp};refine⟨0,f'.set p (Fl.iL ls f' p),rfl,rfl,by omega,by omega,⟨vN.out.1.set gN.out hpl,vN.out.2.set gN.out hpl⟩,(fun t ht=>by omega), .inl ?_,HF.out.1,HF.out.2⟩;have h1:=vN.out.1.more hpl MN.out;rcases HD'.out with h|⟨h,h2⟩;{exact Nat.lt_trans h h1};rw[h]at h1 ⊢;exact h1
def SR (w W:World)(n₀ g k c:Nat)(xs:List Ln):Prop:=
 ∃eF:List Value,eF.length=k/\W.ownsRow n₀ 111 1 (.slice (some ⟨g,0,none⟩) k c) k eF/\∀j,j<k->∃la ln lc,eF.getD j undef=dK (xs.getD j .z) (.slice la ln lc)/\IL w la ln (xs.getD j .z).l
theorem uK:(Tryz.prog.info? 111).map (fun i=>(i.zero,i.size,i.bytes))=some (some .nilIface,1,16):=by kernel_rfl
theorem SR.lt {w W:World}{n₀ g k c:Nat}{xs:List Ln}(h:SR w W n₀ g k c xs):n₀<=g/\g<W.heap.size:=by obtain⟨eF,-,h,-⟩:=h;exact World.ownsRow.lt h g rfl
theorem SR.kept {w W W':World}{n₀ g k c:Nat}{xs:List Ln}(h:SR w W n₀ g k c xs)(hB:Below W.heap.size W W'):SR w W' n₀ g k c xs:=by obtain⟨eF,h1,h2,h3⟩:=h;exact⟨eF,h1,aI h2 hB,h3⟩
theorem SR.cell {w W:World}{n₀ g k c:Nat}{xs:List Ln}(h:SR w W n₀ g k c xs){j:Nat}(hj:j<k):∃la ln lc,W.cell? ⟨g,j,none⟩=some (dK (xs.getD j .z) (.slice la ln lc))/\IL w la ln (xs.getD j .z).l:=by obtain⟨eF,h1,h2,h3⟩:=h;obtain⟨la,ln,lc,e,hi⟩:=h3 j hj;refine⟨la,ln,lc,?_,hi⟩;have:=World.ownsRow.cellAt h2 j (by omega);rw[←e];rw[ah,ai (by omega)];rw[this];simp
theorem SR.cut {w W:World}{n₀ g k c m:Nat}{xs:List Ln}(h:SR w W n₀ g k c (xs.take m))(hk:k<=m):SR w W n₀ g k c xs:=by obtain⟨eF,h1,h2,h3⟩:=h;refine⟨eF,h1,h2,fun j hj=>?_⟩;obtain⟨la,ln,lc,e,hi⟩:=h3 j hj;have e2:(xs.take m).getD j .z=xs.getD j .z:=by{rw[ah,ah,List.getElem?_take_of_lt (by omega)]};rw[e2]at e hi;exact⟨la,ln,lc,e,hi⟩
theorem Gn {ops:Array Oper}{rest:List Oper}{o:Oper}{a:Act}{Q:Exit->Act->World->Prop}(W w:World)(hgd:o.guard=none)(s x:Operand)(ho:o.op= .call {callee:= .builtin .append,args:=#[s,x],argTypes:=#[73,73]})(n₀ g k c:Nat)(xs:List Ln)(hs:a.eval s= .slice (some ⟨g,0,none⟩) k c)(hown:SR w W n₀ g k c xs)(hxl:xs.length=k)(sb:Nat)(hx:a.eval x= .slice (some ⟨sb,0,none⟩) 1 1)(y:Ln)(la:Option Addr)(ln lc:Nat)(T:TypeId)(u:Value)(hv:dK y (.slice la ln lc)= .iface T u)(hcell:W.cell? ⟨sb,0,none⟩=some (.iface T u))(hil:IL w la ln y.l)(hsz:k<=1000000)(hbase:n₀<=W.heap.size)(h:∀g' c' N W',Hid (N=k+1)->SR w W' n₀ g' N c' (xs++[y])->W.grownBy W' (some g)->wpList Tryz.prog ops Q rest (a.put o.dst (.slice (some ⟨g',0,none⟩) N c')) W'):wpList Tryz.prog ops Q (o::rest) a W:=by obtain⟨i0,hi,hz0,hz1,hz2⟩:=info_parts uK;obtain⟨eF,h1,h2,h3⟩:=hown;refine wpList_append_own W hgd s x 73 ho n₀ 111 i0 .nilIface 1 16 Tryz.underlying73 hi hz0 hz1 hz2 rfl (by decide) _ k eF hs h2 ⟨sb,0,none⟩ 1 1 [.iface T u] hx rfl (fun j u' hu=>?_) (fun u' hu=>?_) (by simp only[maxLen];omega) (by omega) hbase (fun v' W' hown' hgrow hnn=>?_);{rcases j with _|j;{simp only[List.getElem?_cons_zero,af]at hu;rw[←hu];(have hadd:(⟨sb,0,none⟩:Addr).add 0=⟨sb,0,none⟩:=by unfold Addr.add;split<;>simp_all);rw[hadd];exact hcell};simp at hu};{rw[List.mem_singleton]at hu;rw[hu];rfl};rcases hown'.2 with⟨rfl,h0⟩|⟨g',cap',cur,rfl,r⟩;{exact absurd (hnn.1 rfl).1 (fun e=>by cases e)};refine h g' cap' (k+1) W' rfl ⟨eF++[.iface T u],by simp[h1],hown',fun j hj=>?_⟩ hgrow;by_cases hjk:j<k;{obtain⟨la',ln',QK,e,hi'⟩:=h3 j hjk;refine⟨la',ln',QK,?_,?_⟩;{rw[ah,List.getElem?_append_left (by omega),←ah,e,ah,ah,List.getElem?_append_left (by omega)]};rw[ah,List.getElem?_append_left (by omega),←ah];exact hi'};have e:j=k:=by{omega};subst e;have e1:(eF++[Value.iface T u]).getD j undef= .iface T u:=by{rw[ah,List.getElem?_append_right (by omega),h1];simp};have e2:(xs++[y]).getD j .z=y:=by{rw[ah,List.getElem?_append_right (by omega),hxl];simp};rw[e1,e2];exact⟨la,ln,lc,hv.symm,hil⟩
namespace Ln
theorem GD {ls:List Ln}{i:Nat}(hi:i<ls.length):ls.take i++[ls.getD i z]=ls.take (i+1):=by rw[List.take_add_one,ai hi,ah,ai hi];simp
theorem C8 {x:Ln}{m:Nat}(h:ok x=true):gT m x=place m x:=by unfold gT;rw[h,Bool.true_and];have hk:=dC h;obtain⟨k,d,a,b,n,l⟩:=x;rcases kinds hk.1 hk.2 with e|e|e|e|e|e|e|e|e|e|e<;>simp only at e<;>subst e;(case inr.inr.inr.inr.inl=>have h0:0<=n:=by{unfold ok at h;simp[asks,Wd.cK]at h;omega};rw[Bool.eq_iff_iff];simp[place,iU,Wd.cK];omega);(case inr.inr.inr.inr.inr.inl=>have h0:0<=n:=by{unfold ok at h;simp[asks,Wd.cK]at h;omega};rw[Bool.eq_iff_iff];simp[place,iU,Wd.cK];omega);all_goals simp[place,iU]
theorem Bq (ls:List Ln):jw ls= !behind (ls.getD (ls.length-1) z):=by unfold jw behind;generalize(ls.getD (ls.length-1) z).k=k;by_cases h5:k=5<;>by_cases h10:k=10<;>by_cases h11:k=11<;>simp[h5,h10,h11]
theorem KT {ls:List Ln}(h:1<=ls.length/\ls.length<=300):isOk ls=(ls.all (gT ls.length)&&jw ls):=by unfold isOk;rw[decide_eq_true h,Bool.true_and]
end Ln
theorem jG (a:Option Addr)(len cap:Nat)(ls:List Ln)(w:World)(hs:LL w a len ls):Calls Tryz.prog 54 #[.slice a len cap] w fun e w'=>(Ln.isOk ls=false/\e= .returned (.tuple #[.slice none 0 0, .bool false])\/Ln.isOk ls=true/\∃g c,e= .returned (.tuple #[.slice (some ⟨g,0,none⟩) len c, .bool true])/\SR w w' w.heap.size g len c ls)/\Below w.heap.size w w':=by
 have hl:=hs.1
 have hm:=hs.2.1
 unfold maxLen at hm
 have hcon:=dU (len:Int) 1 300 w
 by_cases hin:1<=len/\len<=300
 rotate_left
 · have e:Wd.cK (len:Int) 1 300=false:=by{unfold Wd.cK;simp;omega};have HN:Hid (Ln.isOk ls=false):=Ln.yQ (by omega);rw[e]at hcon;clear e hs hl hin;go_enter Tryz.func54,Tryz.ntmps54;go_wp2_with(go_at_call 83;refine hcon.mono ?_;rintro e w' ⟨rfl,bq⟩;subst w';dsimp only);go_ret2;exact⟨.inl ⟨HN.out,rfl⟩,Below.refl _ _⟩
 have e:Wd.cK (len:Int) 1 300=true:=by unfold Wd.cK;simp;omega
 rw[e]at hcon
 clear e
 have Zo:(1:Int)<=(len:Int):=by omega
 have h2Z:(len:Int)<=300:=by omega
 obtain⟨i0,hi,hz0,hz1,hz2⟩:=info_parts uK
 obtain⟨wm,hmk,hown,hgrow⟩:=run_make_own (P:=Tryz.prog) w w.heap.size 73 111 i0 _ 1 Tryz.underlying73 hi hz0 hz1 .i64 .i64 len (by rw[hz2];omega) (by simp only[maxLen];omega) (Nat.le_refl _)
 have HB0:=ae (l6 hgrow)
 have DU:Hid (SR w wm w.heap.size w.heap.size 0 len (ls.take 0)):=⟨[],rfl,hown,fun j hj=>by omega⟩
 have HL:=ae hl
 obtain⟨R,hR⟩:∃R,Ln.isOk ls=R:=⟨_,rfl⟩
 have HR:Hid (R=(ls.all (Ln.gT len)&&Ln.jw ls)):=by show _=_;rw[←hR,Ln.KT (by omega),hl]
 rw[hR]
 obtain⟨-,-,h0|⟨b,off,rfl,hb,hx⟩⟩:=hs
 · omega
 have HX:Hid (∀j,j<len->LC w b (off+j*6) (ls.getD j .z)):=hx
 clear hx hR hown hgrow hl hin
 go_enter Tryz.func54,Tryz.ntmps54
 go_wp2_with(go_at_call 83;refine hcon.mono ?_;rintro e w' ⟨rfl,bq⟩;subst w';dsimp only)
 go_loopw [5,18] (fun vs vi wr=>∃k g c:Nat,vs= .slice (some ⟨g,0,none⟩) k c/\vi= .int .i64 k/\k<=len/\Hid ((ls.take k).all (Ln.gT len)=true)/\SR w wr w.heap.size g k c (ls.take k)/\Below w.heap.size w wr) (fun _ i _=>len-(intOf i).toNat)
 case atStart=>exact⟨0,_,len,rfl,rfl,Nat.zero_le _,(by show _=_;simp),DU.out,HB0.out⟩
 case round=>
  obtain⟨k,g,c,rfl,rfl,hk,HA,mZ,hB⟩:=hrel
  clear hcon hmk DU HB0
  by_cases hlt:k<len
  · have bN:(k:Int)<(len:Int):=by omega
    have hb':b<wr.heap.size:=aj hb hB.size
    have ZF:=HX.out k hlt
    have hc:=ZF.kept hb hB
    have mZ:=ae mZ
    obtain⟨x,kZ⟩:∃x,ls.getD k .z=x:=⟨_,rfl⟩
    rw[kZ]at hc ZF
    have ZG:=ae kZ
    clear kZ
    obtain⟨c0,c1,c2,c3,c4,la,ln,lc,c5,hil⟩:=hc
    have HIL:Hid (IL w la ln x.l):=by obtain⟨-,-,-,-,-,la',ln',QK,c5',abB⟩:=ZF;have e:=(hB.cell (p:=⟨b,off+k*6+5,none⟩) hb).trans c5';rw[c5]at e;cases e;exact abB
    have hB1:=aA wr (.cells #[.int .i64 x.k, .int .i64 x.d, .int .i64 x.a, .int .i64 x.b, .int .i64 x.n, .slice la ln lc] 67)
    have hcon:=p8 x la ln lc _ (hil.kept hB1)
    have hB2:=hB.trans (hB1.mono hB.size)
    clear hil ZF
    rcases hok:Ln.ok x with _|_
    · rw[Ph hok]at hcon;have HF:Hid (R=false):=by{show _=_;rw[HR.out,Ln.oK (by rw[HL.out];exact hlt) (by rw[ZG.out];simp[Ln.gT,hok])];rfl};go_wp2_with fail;refine hcon.mono ?_;rintro e w2 ⟨rfl,hB3⟩;dsimp only;have hB4:=hB2.trans (hB3.mono hB2.size);clear hcon c0 c1 c2 c3 c4 c5 hB1 hB2 hB3;go_wp2;go_ret2;exact⟨.inl ⟨HF.out,rfl⟩,hB4⟩
    · have hkk:=Ln.dC hok
      have hpl:=oM x hkk.1 hkk.2 la ln lc (len:Int) (by omega) (by omega)
      obtain⟨T,u,esv⟩:=Gr hok la ln lc
      have esh:dK x (.slice la ln lc)= .iface T u:=by rw[←Ji hok,esv]
      have HSH:=ae esh
      rw[esv]at hcon
      simp only[esh]at hpl
      have hnil:=Iu T u
      have HO:=ae (Ln.C8 (m:=len) hok)
      obtain⟨PL,R5⟩:∃PL,Ln.place len x=PL:=⟨_,rfl⟩
      simp only[R5]at hpl
      rw[R5]at HO
      clear hok esv esh R5 hkk
      cases PL with
      |false=>
       have HF:Hid (R=false):=by show _=_;rw[HR.out,Ln.oK (by rw[HL.out];exact hlt) (by rw[ZG.out];exact HO.out)];rfl
       go_wp2_with fail
       refine hcon.mono ?_
       rintro e w2 ⟨rfl,hB3⟩
       dsimp only
       have hB4:=hB2.trans (hB3.mono hB2.size)
       have bF:=hpl w2
       clear hcon c0 c1 c2 c3 c4 c5 hB1 hB2 hB3 hpl
       go_wp2_with(go_at_call 85;refine bF.mono ?_;rintro e w3 ⟨rfl,bE⟩;dsimp only;have bG:=hB4.trans (bE.mono hB4.size);clear hB4 bE)
       go_ret2
       exact⟨.inl ⟨HF.out,rfl⟩,bG⟩
      |true=>
       have HF:Hid ((ls.take (k+1)).all (Ln.gT len)=true):=by show _=_;rw[Ln.uk HA.out (by rw[HL.out];exact hlt),ZG.out];exact HO.out
       go_wp2_with fail
       refine hcon.mono ?_
       rintro e w2 ⟨rfl,hB3⟩
       dsimp only
       have hB4:=hB2.trans (hB3.mono hB2.size)
       have DV:=hB1.trans (hB3.mono hB1.size)
       have bF:=hpl w2
       clear hcon c0 c1 c2 c3 c4 c5 hB1 hB2 hB3 hpl
       have ZH:Hid ((ls.take k).length=k):=by show _=_;rw[List.length_take,HL.out];omega
       have HTM:=ae (Ln.GD (ls:=ls) (i:=k) (by rw[HL.out];exact hlt))
       rw[ZG.out]at HTM
       have hg0:=mZ.out.lt
       go_wp2_with(first
         |(go_at_call 85;refine bF.mono ?_;rintro e w3 ⟨rfl,bE⟩;dsimp only;have bG:=hB4.trans (bE.mono hB4.size);have UH:=DV.trans (bE.mono DV.size);have Zz:=ae (aA w3 (.cells #[.iface T u] 111));have ME:=ae (bG.trans (Zz.out.mono bG.size));have Uo:=ae ((mZ.out.kept UH).kept Zz.out);have hc3:Hid ((w3.alloc (.cells #[.iface T u] 111)).cell? ⟨w3.heap.size,0,none⟩=some (.iface T u)):=(by show _=_;rw[World.cell?_alloc_at _ _ _ _ (by simp)];rfl);have MC:=bG.size;clear hB4 bE DV UH)
         |(at_builtin;refine Gn _ w rfl _ _ rfl w.heap.size g k c (ls.take k) rfl Uo.out ZH.out w3.heap.size rfl x la ln lc T u HSH.out hc3.out HIL.out (by omega) (by simp;omega) ?_;intro g1 c1 N1 w4 hN1 ho1 iD;have Ha:=ae (ak ho1 (aC ME.out iD hg0.1));clear ho1 iD))
       rw[HTM.out]at Ha
       have hN:=hN1.out
       clear hN1
       subst hN
       go_roundw
       case rel=>exact⟨k+1,g1,c1,rfl,by simp,hlt,HF,Ha.out.1,Ha.out.2⟩
       case measure=>simp[intOf];omega
  · have hke:k=len:=by{omega};have UI:Hid (R= !Ln.behind (ls.getD (len-1) .z)):=by{show _=_;have:=HA.out;rw[hke,←HL.out,List.take_length]at this;rw[HR.out,←HL.out,this,Bool.true_and,Ln.Bq]};have bN:¬(k:Int)<(len:Int):=by{omega};have MV:Hid (Ln.ok (ls.getD (len-1) .z)=true):=by{show _=_;have h2:=HA.out;rw[hke,←HL.out,List.take_length,List.all_eq_true]at h2;have h3:=h2 (ls.getD (len-1) .z) (by rw[ah,ai (by rw[HL.out];omega)];exact List.getElem_mem _);unfold Ln.gT at h3;rw[au]at h3;exact h3.1};rw[hke]at mZ;have JZ:=mZ.cut (Nat.le_refl _);obtain⟨la,ln,lc,hc,hil⟩:=JZ.cell (j:=len-1) (by omega);have HSR:=ae JZ;obtain⟨x,kZ⟩:∃x,ls.getD (len-1) .z=x:=⟨_,rfl⟩;rw[kZ]at hc hil UI MV;have hkk:=Ln.dC MV.out;have hcon:=jS x hkk.1 hkk.2 la ln lc wr;have hg:=JZ.lt;subst hke;have hwZ:(k:Int)-1=((k-1:Nat):Int):=by{omega};generalize dK x (.slice la ln lc)=sv at hc hcon;rcases ZI:Ln.behind x with _|_;{rw[ZI]at hcon UI;clear ZI hkk hil kZ mZ JZ HA MV;go_wp2_with(go_at_call 86;refine hcon.mono ?_;rintro e w5 ⟨rfl,bE⟩;dsimp only);go_ret2;exact⟨.inr ⟨UI.out,g,c,rfl,HSR.out.kept bE⟩,hB.trans (bE.mono hB.size)⟩};rw[ZI]at hcon UI;clear ZI hkk hil kZ mZ JZ HA MV;go_wp2_with(go_at_call 86;refine hcon.mono ?_;rintro e w5 ⟨rfl,bE⟩;dsimp only);go_ret2;exact⟨.inl ⟨UI.out,rfl⟩,hB.trans (bE.mono hB.size)⟩
end Go.Proofs.YtpipjiinmhopmaaGreat
