/-
  Own texts for a law: Shp7 Shp8 Shp9 Shp10
-/
import Derived.Test.YtfmighcopilghaaGreatKL26
import Derived.Lib.SlicesCompact
import Derived.Lib.RowBridge
import Derived.Sort.OwnSortedInts
namespace Go.Proofs.YtfmighcopilghaaGreat
open Go.RowKit Go.Shelf
set_option linter.all false
set_option maxRecDepth 100000
set_option maxHeartbeats 16000000
namespace Ln
theorem ko {x:Ln}(h:counts x=true)(hk:x.k=7):x.l.length<=3:=by unfold counts at h;rw[ax (by omega),ax (by omega),ay hk]at h;simp at h;exact h.2
theorem lV {x:Ln}(h:counts x=true):(rd x).length<=1000:=by unfold rd;split;{simp};split;{simp};split;{simp};split;{have:=ko h (by assumption);omega};simp
theorem xg {x:Ln}(h:¬(1<=x.k/\x.k<=11)):right x=false:=by unfold right;rw[decide_eq_false h];rfl
theorem xh {x:Ln}(h1:1<=x.k)(h2:x.k<=11):right x=(ig (cn x) x&&(counts x&&((told x).all bx&&place 300 x))):=by unfold right;rw[decide_eq_true ⟨h1,h2⟩];rfl
end Ln
theorem yZ {x:Ln}(h:¬(1<=x.k/\x.k<=11))(sv:Value):bg x sv= .nilIface:=by unfold bg;repeat(rw[ax (by omega)])
theorem kG (x:Ln)(la:Option Addr)(ln lc:Nat)(w:World)(hs:IL w la ln x.l):Calls Tryz.prog 25 #[.agg #[.int .i64 x.k, .int .i64 x.d, .int .i64 x.a, .int .i64 x.b, .int .i64 x.n, .slice la ln lc]] w fun e w'=>e= .returned (if Ln.right x=true then bg x (.slice la ln lc)else .nilIface)/\Below w.heap.size w w':=by have hB:=aA w (.cells #[.int .i64 x.k, .int .i64 x.d, .int .i64 x.a, .int .i64 x.b, .int .i64 x.n, .slice la ln lc] 29);have hA1:iw (w.alloc (.cells #[.int .i64 x.k, .int .i64 x.d, .int .i64 x.a, .int .i64 x.b, .int .i64 x.n, .slice la ln lc] 29)) w.heap.size 29 [.int .i64 x.k, .int .i64 x.d, .int .i64 x.a, .int .i64 x.b, .int .i64 x.n, .slice la ln lc]:=heap_alloc_last w _;have hs1:=hs.kept hB;obtain⟨W1,hW1⟩:∃X,w.alloc (.cells #[.int .i64 x.k, .int .i64 x.d, .int .i64 x.a, .int .i64 x.b, .int .i64 x.n, .slice la ln lc] 29)=X:=⟨_,rfl⟩;rw[hW1]at hA1 hs1 hB;have hcon:=o7 x la ln lc W1;have hl:=hs.1;clear hs;have c0:=hA1.cell (j:=0) rfl;have c1:=hA1.cell (j:=1) rfl;have c2:=hA1.cell (j:=2) rfl;have c3:=hA1.cell (j:=3) rfl;have c4:=hA1.cell (j:=4) rfl;have c5:=hA1.cell (j:=5) rfl;by_cases hk:1<=x.k/\x.k<=11;rotate_left;{rw[yZ hk]at hcon;rw[Ln.xg hk];have HN:Hid (∀v:Value,(if false=true then v else Value.nilIface)= .nilIface):=fun v=>rfl;clear hk hl hs1;go_enter Tryz.func25,Tryz.ntmps25;go_wp2_with fail;refine hcon.mono ?_;rintro e w2 ⟨rfl,hB2⟩;dsimp only;have hB3:=hB.trans (hB2.mono hB.size);clear hcon hB hB2 c0 c1 c2 c3 c4 c5 hA1;have hne:=dC.any w2;go_wp2;refine bn (by kernel_rfl) (by kernel_rfl) ?_;(repeat(go_big_quiet_step (fail)));refine wpQuiet_nil ?_;rintro _ ⟨pw,rfl⟩;have hB4:=hB3.trans (pw.h.mono hB3.size);generalize pw.to=w7 at*;go_wp2;go_ret;exact⟨rfl,hB4⟩};have hcnt:=mI x hk.1 hk.2 la ln lc hl;have BJ:=fun(W:World) (hW:IL W la ln x.l) (h3:x.k=7->ln<=3) (hr:(Ln.rd x).length<=1000)=>oL x hk.1 hk.2 la ln lc W hW h3 hr;have BK:=jF x hk.1 hk.2 la ln lc 300 (by omega) (by omega);rw[Ln.xh hk.1 hk.2];obtain⟨T,u,f,pa,pn,pc,esh,hcm,IX,hil⟩:=uC x hk.1 hk.2 la ln lc;have hsame:=fun(W:World) (hW:IL W la ln x.l)=>mJ (Ln.cn x) x pa la pn pc ln lc W (hil W hW) hW;rw[esh]at hcon ⊢;have hnil:=xM T u;simp only[esh]at hcnt BJ BK;have Rb:=fun h=>Ln.lV (x:=x) h;have Rc:Ln.counts x=true->x.k=7->ln<=3:=fun h h7=>by{have:=Ln.ko h h7;omega};generalize Ln.ig (Ln.cn x) x=S at hsame ⊢;generalize(Ln.told x).all Ln.bx=B at BJ ⊢;generalize Ln.place 300 x=PL at BK ⊢;generalize Ln.counts x=CT at hcnt Rb Rc ⊢;clear hl hk;have hcases:S=false\/(S=true/\CT=false)\/(S=true/\CT=true/\B=false)\/(S=true/\CT=true/\B=true/\PL=false)\/(S=true/\CT=true/\B=true/\PL=true):=by{cases S<;>cases CT<;>cases B<;>cases PL<;>simp};rcases hcases with rfl|⟨rfl,rfl⟩|⟨rfl,rfl,rfl⟩|⟨rfl,rfl,rfl,rfl⟩|⟨rfl,rfl,rfl,rfl⟩;all_goals go_enter Tryz.func25,Tryz.ntmps25;go_wp2_with fail;refine hcon.mono ?_;rintro e w2 ⟨rfl,hB2⟩;dsimp only;have hB3:=hB.trans (hB2.mono hB.size);have hA2:=hA1.kept hB2;have hs2:Hid (∀p:dC w2,IL p.to la ln x.l):=fun p=>(hs1.kept hB2).kept p.h;have e0:∀p:dC w2,p.to.cell? ⟨w.heap.size,0,none⟩=some (.int .i64 x.k):=fun p=>(hA2.kept p.h).cell (j:=0) rfl;have e1:∀p:dC w2,p.to.cell? ⟨w.heap.size,1,none⟩=some (.int .i64 x.d):=fun p=>(hA2.kept p.h).cell (j:=1) rfl;have e2:∀p:dC w2,p.to.cell? ⟨w.heap.size,2,none⟩=some (.int .i64 x.a):=fun p=>(hA2.kept p.h).cell (j:=2) rfl;have e3:∀p:dC w2,p.to.cell? ⟨w.heap.size,3,none⟩=some (.int .i64 x.b):=fun p=>(hA2.kept p.h).cell (j:=3) rfl;have e4:∀p:dC w2,p.to.cell? ⟨w.heap.size,4,none⟩=some (.int .i64 x.n):=fun p=>(hA2.kept p.h).cell (j:=4) rfl;have e5:∀p:dC w2,p.to.cell? ⟨w.heap.size,5,none⟩=some (.slice la ln lc):=fun p=>(hA2.kept p.h).cell (j:=5) rfl;clear hcon hB hB2 c0 c1 c2 c3 c4 c5 hA1 hA2 hs1;have hne:=dC.any w2;go_wp2;refine bn (by kernel_rfl) (by kernel_rfl) ?_;(repeat(go_big_quiet_step (fail)));go_big_quiet_want;refine oK f (.tmp 9) _ _ rfl T u _ rfl hcm (fun W hW=>by obtain⟨p,rfl⟩:=hW;exact gP (IX _)) ?_;go_big_quiet_on;go_simp;(repeat(go_big_quiet_step (first|exact gP (hsame _ (hs2.out _))|exact gP (hcnt _)|exact gP (BJ _ (hs2.out _) (Rc trivial) (Rb trivial))|exact gP (BK _))));refine wpQuiet_nil ?_;intro pw;have hB4:=hB3.trans (pw.h.mono hB3.size);clear hs2 e0 e1 e2 e3 e4 e5;generalize pw.to=w7 at*;go_wp2;go_ret;exact⟨rfl,hB4⟩
def zR (x:Ln)(sv:Value):Value:=if Ln.ok x=true then bg x sv else .nilIface
theorem dG (x:Ln)(la:Option Addr)(ln lc:Nat)(w:World)(hs:IL w la ln x.l):Calls Tryz.prog 25 #[.agg #[.int .i64 x.k, .int .i64 x.d, .int .i64 x.a, .int .i64 x.b, .int .i64 x.n, .slice la ln lc]] w fun e w'=>e= .returned (zR x (.slice la ln lc))/\Below w.heap.size w w':=by have h:=kG x la ln lc w hs;rw[Ln.jC]at h;exact h
theorem oO {x:Ln}(h:Ln.ok x=true)(sv:Value):zR x sv=bg x sv:=by unfold zR;rw[ay h]
theorem om {x:Ln}(h:Ln.ok x=false)(sv:Value):zR x sv= .nilIface:=by unfold zR;rw[ax (by rw[h];decide)]
theorem nJ {x:Ln}(h:Ln.ok x=true)(la:Option Addr)(ln lc:Nat):∃T u,zR x (.slice la ln lc)= .iface T u:=by have hk:=Ln.bK h;obtain⟨T,u,f,pa,pn,pc,esh,-⟩:=uC x hk.1 hk.2 la ln lc;exact⟨T,u,by rw[oO h,esh]⟩
theorem zb (u:TypeId)(v:Value)(w:World):(binOp .neq 41 (.iface u v) .nilIface).run Tryz.prog w= .ok (.bool true) w:=by kernel_rfl
theorem wY (w:World):(binOp .neq 41 .nilIface .nilIface).run Tryz.prog w= .ok (.bool false) w:=by kernel_rfl
theorem qg (x:Ln)(la:Option Addr)(ln lc:Nat)(w:World)(hs:IL w la ln x.l):Calls Tryz.prog 12 #[.agg #[.int .i64 x.k, .int .i64 x.d, .int .i64 x.a, .int .i64 x.b, .int .i64 x.n, .slice la ln lc]] w fun e w'=>e= .returned (.bool (Ln.ok x))/\Below w.heap.size w w':=by have hB:=aA w (.cells #[.int .i64 x.k, .int .i64 x.d, .int .i64 x.a, .int .i64 x.b, .int .i64 x.n, .slice la ln lc] 29);have hcon:=dG x la ln lc _ (hs.kept hB);clear hs;rcases hok:Ln.ok x with _|_;{rw[om hok]at hcon;have hnn:=wY;clear hok;go_enter Tryz.func12,Tryz.ntmps12;go_wp2_with fail;refine hcon.mono ?_;rintro e w2 ⟨rfl,hB2⟩;dsimp only;go_wp2;go_ret;exact⟨rfl,hB.trans (hB2.mono hB.size)⟩};obtain⟨T,u,e⟩:=nJ hok la ln lc;rw[e]at hcon;have hnn:=zb T u;clear hok e;go_enter Tryz.func12,Tryz.ntmps12;go_wp2_with fail;refine hcon.mono ?_;rintro e w2 ⟨rfl,hB2⟩;dsimp only;go_wp2;go_ret;exact⟨rfl,hB.trans (hB2.mono hB.size)⟩
theorem qZ (w:World):Calls Tryz.prog 34 #[.nilIface] w fun e w'=>e= .returned (.tuple #[.int .i64 0, .bool false])/\w'=w:=by have q1:=JM w;have q2:=Dm w;have q3:=Dw w;have q4:=Cv w;have q7:=Cr w;have q8:=Dn w;go_enter Tryz.func34,Tryz.ntmps34;go_wp2;go_ret2;exact⟨rfl,rfl⟩
theorem sD (w:World):Calls Tryz.prog 24 #[.nilIface] w fun e w'=>∃g m c,e= .returned (.slice (some ⟨g,0,none⟩) m c)/\OG w' w.heap.size g m c []/\Below w.heap.size w w':=by have q2:=Dm w;have q3:=Dw w;have q4:=Cv w;have q6:=JX w;have q7:=Cr w;have q8:=Dn w;have q9:=JH w;have rz:=CG w;have ho:=OG.Df w w.heap.size (Nat.le_refl _);have hB2:=aA w (.cells #[] 2);go_enter Tryz.func24,Tryz.ntmps24;go_wp2;go_ret;exact⟨_,_,_,rfl,ho,hB2⟩
theorem ny (x:Ln)(la:Option Addr)(ln lc:Nat)(w:World)(hs:IL w la ln x.l):Calls Tryz.prog 16 #[.agg #[.int .i64 x.k, .int .i64 x.d, .int .i64 x.a, .int .i64 x.b, .int .i64 x.n, .slice la ln lc]] w fun e w'=>e= .returned (.int .i64 (Ln.jE x))/\Below w.heap.size w w':=by have hB:=aA w (.cells #[.int .i64 x.k, .int .i64 x.d, .int .i64 x.a, .int .i64 x.b, .int .i64 x.n, .slice la ln lc] 29);have hcon:=dG x la ln lc _ (hs.kept hB);clear hs;rcases hok:Ln.ok x with _|_;{have e:Ln.jE x=-1:=by{unfold Ln.jE;rw[ax (by rw[hok];decide)]};rw[e];rw[om hok]at hcon;clear hok e;go_enter Tryz.func16,Tryz.ntmps16;go_wp2_with fail;refine hcon.mono ?_;rintro e w2 ⟨rfl,hB2⟩;dsimp only;have aV:=qZ w2;have hB3:=hB.trans (hB2.mono hB.size);clear hcon hB hB2;go_wp2_with fail;refine aV.mono ?_;rintro e w3 ⟨rfl,aQ⟩;subst w3;dsimp only;go_wp2;go_ret;exact⟨rfl,hB3⟩};have hk:=Ln.bK hok;have aV:=ic x hk.1 hk.2 la ln lc;rw[oO hok]at hcon;obtain⟨sv,Ar⟩:∃sv,bg x (.slice la ln lc)=sv:=⟨_,rfl⟩;rw[Ar]at hcon;simp only[Ar]at aV;have HS:Hid (Ln.jE x=if Ln.wI x=true then x.d else -1):=by{show _=_;unfold Ln.jE Ln.st Ln.wI;rw[ay hok];simp};obtain⟨R,hR⟩:∃R,Ln.jE x=R:=⟨_,rfl⟩;rw[hR]at HS ⊢;rcases hw:Ln.wI x with _|_;{have HR:Hid (R=-1):=by{show _=_;rw[HS.out,hw];rfl};simp only[hw]at aV;clear hok Ar hR hw HS hk;go_enter Tryz.func16,Tryz.ntmps16;go_wp2_with fail;refine hcon.mono ?_;rintro e w2 ⟨rfl,hB2⟩;dsimp only;have dL:=aV w2;have hB3:=hB.trans (hB2.mono hB.size);clear hcon hB hB2 aV;go_wp2_with fail;refine dL.mono ?_;rintro e w3 ⟨rfl,hB4⟩;dsimp only;have dw:=hB3.trans (hB4.mono hB3.size);clear dL hB3 hB4;go_wp2;go_ret;exact⟨by rw[HR.out]<;>rfl,dw⟩};have HR:Hid (R=x.d):=by{show _=_;rw[HS.out,hw];rfl};simp only[hw]at aV;clear hok Ar hR hw HS hk;go_enter Tryz.func16,Tryz.ntmps16;go_wp2_with fail;refine hcon.mono ?_;rintro e w2 ⟨rfl,hB2⟩;dsimp only;have dL:=aV w2;have hB3:=hB.trans (hB2.mono hB.size);clear hcon hB hB2 aV;go_wp2_with fail;refine dL.mono ?_;rintro e w3 ⟨rfl,hB4⟩;dsimp only;have dw:=hB3.trans (hB4.mono hB3.size);clear dL hB3 hB4;go_wp2;go_ret;exact⟨by rw[HR.out]<;>rfl,dw⟩
namespace Ln
theorem Pq (a b:Int):[a,b].mergeSort (fun x y=>decide (x<=y))=if a<=b then[a,b]else[b,a]:=by simp[List.mergeSort,List.MergeSort.Internal.splitInTwo,List.merge]
theorem RN (a b c:Int):[a,b,c].mergeSort (fun x y=>decide (x<=y))=if a<=b then(if b<=c then[a,b,c]else if a<=c then[a,c,b]else[c,a,b])else(if a<=c then[b,a,c]else if b<=c then[b,c,a]else[c,b,a]):=by simp[List.mergeSort,List.MergeSort.Internal.splitInTwo];by_cases h1:a<=b<;>by_cases h2:b<=c<;>by_cases h3:a<=c<;>simp[h1,h2,h3]<;>omega
theorem I9 (a b:Int):Go.Lib.compact [a,b]=if b=a then[a]else[a,b]:=by by_cases h:b=a;{simp[Go.Lib.compact,Go.Lib.compactUpTo,Go.Lib.keeps,List.range,List.range.loop,h]};simp[Go.Lib.compact,Go.Lib.compactUpTo,Go.Lib.keeps,List.range,List.range.loop,h]
theorem RH (a b c:Int):Go.Lib.compact [a,b,c]=if b=a then(if c=b then[a]else[a,c])else(if c=b then[a,b]else[a,b,c]):=by by_cases h:b=a;{subst h;by_cases h2:c=b;{subst h2;simp[Go.Lib.compact,Go.Lib.compactUpTo,Go.Lib.keeps,List.range,List.range.loop]};simp[Go.Lib.compact,Go.Lib.compactUpTo,Go.Lib.keeps,List.range,List.range.loop,h2,List.filter]};by_cases h2:c=b;{subst h2;simp[Go.Lib.compact,Go.Lib.compactUpTo,Go.Lib.keeps,List.range,List.range.loop,h,List.filter]};simp[Go.Lib.compact,Go.Lib.compactUpTo,Go.Lib.keeps,List.range,List.range.loop,h,h2,List.filter]
theorem Pp (a b:Int):Go.Lib.compact ([a,b].mergeSort (fun x y=>decide (x<=y)))=put [a] b:=by rw[Pq];by_cases h1:a<=b;{rw[ay h1,I9];by_cases h2:b=a;{subst h2;simp[put]};have:a<b:=by{omega};simp[put,h2,this]};rw[ax h1,I9];have h2:¬a=b:=by{omega};have h3:¬a<b:=by{omega};simp[put,h2,h3]
theorem JQ (a b:Int):Go.Lib.compact ([b,a].mergeSort (fun x y=>decide (x<=y)))=put [a] b:=by rw[Pq];by_cases h1:b<=a;{rw[ay h1,I9];by_cases h2:a=b;{subst h2;simp[put]};have:¬a<b:=by{omega};simp[put,h2,this]};rw[ax h1,I9];have h2:¬b=a:=by{omega};have h3:a<b:=by{omega};simp[put,h2,h3]
theorem Ry (a b c:Int):Go.Lib.compact ([a,b,c].mergeSort (fun x y=>decide (x<=y)))=put (put [a] b) c:=by
 rw[RN]
 rcases Int.lt_trichotomy a b with h1|h1|h1<;>rcases Int.lt_trichotomy b c with h2|h2|h2<;>rcases Int.lt_trichotomy a c with h3|h3|h3
 all_goals
  first
  |(exfalso;omega)
  | (simp only[put]
     repeat(first|rw[ay (by omega)]|rw[ax (by omega)]|simp only[put])
     rw[RH]
     repeat(first|rw[ay (by omega)]|rw[ax (by omega)])
     try(first|rfl|(simp<;>omega)))
theorem Du {x:Ln}(h:ok x=true):Go.Lib.compact ((rd x).mergeSort (fun x y=>decide (x<=y)))=us x:=by have h3:=iD h;have hk:=bK h;obtain⟨k,d,a,b,n,l⟩:=x;have one:∀y:Int,Go.Lib.compact ([y].mergeSort (fun x y=>decide (x<=y)))=[y]:=fun y=>by{simp[Go.Lib.compact,Go.Lib.compactUpTo,Go.Lib.keeps,List.range,List.range.loop]};have none:Go.Lib.compact (([]:List Int).mergeSort (fun x y=>decide (x<=y)))=[]:=by{simp[Go.Lib.compact,Go.Lib.compactUpTo]};have hl:k≠7->l=[]:=fun h7=>by{unfold ok at h;simp[h7]at h;exact h.1};rcases kinds hk.1 hk.2 with e|e|e|e|e|e|e|e|e|e|e<;>simp only at e<;>subst e;{rw[hl (by decide)];exact none};{exact one a};{exact Pp a b};{exact one a};{rw[hl (by decide)];exact none};{exact one a};{show Go.Lib.compact (l.mergeSort _)=fI l;simp only at h3;rcases l with _|⟨p,_|⟨q,_|⟨r,_|⟨s,l⟩⟩⟩⟩;{exact none};{exact one p};{exact Pp p q};{exact Ry p q r};simp at h3};{exact one a};{exact JQ a b};{exact one a};rw[hl (by decide)];exact none
end Ln
theorem OG.holds {W:World}{n₀ g n c:Nat}{xs:List Int}(h:OG W n₀ g n c xs):Go.Sort.Holds (Value.int .i64) W g 0 xs.toArray:=by obtain⟨hl,-,hr⟩:=h;rcases hr with⟨e,-⟩|⟨g',cap,cur,e,hb,hc,hn,hm,hsz,ht⟩;{cases e};cases e;refine holds_of_blockI hc ?_;rw[hl];rw[Nat.mul_one]at ht;exact ht
theorem OG.put {W:World}{n₀ g n c q:Nat}{xs ys:List Int}{os:Array Obj}(h:OG W n₀ g n c xs)(hl:ys.length=xs.length):OG (Go.Sort.grow (Go.Sort.putRow (Value.int .i64) (Go.Sort.ahead W q) g 0 ys.toArray) os) n₀ g n c ys:=by obtain⟨h1,-,hr⟩:=h;rcases hr with⟨e,-⟩|⟨g',cap,cur,e,hb,hc,hn,hm,hsz,ht⟩;{cases e};cases e;refine⟨by omega,?_⟩;have:=ownsRow_sortedI (n:=q) (os:=os) hl hb hc (by omega) hm hsz;rw[h1]at this;exact this
theorem OG.cut {W:World}{n₀ g n c:Nat}{xs zs:List Int}(h:OG W n₀ g n c (xs++zs)):OG W n₀ g xs.length c xs:=by obtain⟨h1,-,hr⟩:=h;rcases hr with⟨e,-⟩|⟨g',cap,cur,e,hb,hc,hn,hm,hsz,ht⟩;{cases e};cases e;rw[List.length_append]at h1;refine⟨rfl,by simp, .inr ⟨g,c,cur,rfl,hb,hc,by omega,hm,hsz,?_⟩⟩;rw[Nat.mul_one]at ht ⊢;have:=congrArg (List.take xs.length) ht;rw[List.take_take,Nat.min_eq_left (by omega),List.map_append,List.take_left' (by simp)]at this;exact this
theorem qP (n₀ g n c:Nat)(xs:List Int)(w:World)(ho:OG w n₀ g n c xs)(hn:n₀<=w.heap.size)(hsh:n<=1000):Calls Tryz.prog 26 #[.slice (some ⟨g,0,none⟩) n c] w fun e w'=>e= .returned (.tuple #[])/\OG w' n₀ g n c (xs.mergeSort fun x y=>decide (x<=y))/\w.grownBy w' (some g):=by have hcap:=ho.cap;have h:=AnyG.slices_Sort_int Dx g 0 c xs w ho.holds ho.lt.2 (by have:=ho.1;omega);rw[ho.1]at h;refine h.mono ?_;rintro e w' ⟨rfl,q,os,rfl⟩;exact⟨rfl,ho.put (List.length_mergeSort _),grownBy_sortedI _⟩
theorem lK (n₀ g n c:Nat)(xs:List Int)(w:World)(ho:OG w n₀ g n c xs)(hn:n₀<=w.heap.size):Calls Tryz.prog 27 #[.slice (some ⟨g,0,none⟩) n c] w fun e w'=>∃m,e= .returned (.slice (some ⟨g,0,none⟩) m c)/\OG w' n₀ g m c (Go.Lib.compact xs)/\w.grownBy w' (some g):=by have hcap:=ho.cap;have h:=AnyG.slices_Compact_int CQ g 0 c xs w ho.holds (by have:=ho.1;unfold maxLen at hcap;omega) (by have:=ho.1;omega);rw[ho.1]at h;refine h.mono ?_;rintro e w' ⟨rfl,q,rfl⟩;have hle:=Go.Lib.compact_length_le xs;have hp:=ho.put (q:=q) (os:=#[]) (ys:=Go.Lib.compact xs++List.replicate (n-(Go.Lib.compact xs).length) 0) (by have:=ho.1;simp;omega);rw[Go.Sort.grow_empty]at hp;have hg:=grownBy_sortedI (w:=w) (g:=g) (n:=q) (os:=#[]) (Go.Lib.compact xs++List.replicate (n-(Go.Lib.compact xs).length) 0).toArray;rw[Go.Sort.grow_empty]at hg;exact⟨_,rfl,hp.cut,hg⟩
theorem nH (x:Ln)(la:Option Addr)(ln lc:Nat)(w:World)(hs:IL w la ln x.l):Calls Tryz.prog 8 #[.agg #[.int .i64 x.k, .int .i64 x.d, .int .i64 x.a, .int .i64 x.b, .int .i64 x.n, .slice la ln lc]] w fun e w'=>∃g m c,e= .returned (.slice (some ⟨g,0,none⟩) m c)/\OG w' w.heap.size g m c (Ln.jh x)/\Below w.heap.size w w':=by have hB:=aA w (.cells #[.int .i64 x.k, .int .i64 x.d, .int .i64 x.a, .int .i64 x.b, .int .i64 x.n, .slice la ln lc] 29);have hcon:=dG x la ln lc _ (hs.kept hB);have hread:∀W,Below w.heap.size w W->Calls Tryz.prog 24 #[zR x (.slice la ln lc)] W fun e w'=>∃g m c,e= .returned (.slice (some ⟨g,0,none⟩) m c)/\OG w' W.heap.size g m c (if Ln.ok x=true then Ln.rd x else[])/\Below W.heap.size W w':=fun W hW=>by{rcases hok:Ln.ok x with _|_;{rw[om hok];exact sD W};rw[oO hok];have hk:=Ln.bK hok;have h3:=Ln.iD hok;exact iA x hk.1 hk.2 la ln lc W (hs.kept hW) (fun _=>by have:=hs.1;omega)};have HU:Hid (Go.Lib.compact ((if Ln.ok x=true then Ln.rd x else[]).mergeSort (fun x y=>decide (x<=y)))=Ln.jh x):=by{show _=_;rcases hok:Ln.ok x with _|_;{unfold Ln.jh;rw[hok];simp[Go.Lib.compact,Go.Lib.compactUpTo]};unfold Ln.jh;rw[ay rfl,Ln.Du hok,ay hok]};have Au:Hid ((if Ln.ok x=true then Ln.rd x else[]).length<=1000):=by{show _<=_;split;{have h:=by{assumption};rw[←Ln.jC]at h;unfold Ln.right at h;simp only[au]at h;exact Ln.lV h.2.2.1};simp};generalize(if Ln.ok x=true then Ln.rd x else[])=T9 at hread HU Au;generalize Ln.jh x=us at HU ⊢;generalize zR x (.slice la ln lc)=sv at hcon hread;clear hs;go_enter Tryz.func8,Tryz.ntmps8;go_wp2_with fail;refine hcon.mono ?_;rintro e w2 ⟨rfl,hB2⟩;dsimp only;have hB3:=hB.trans (hB2.mono hB.size);have aV:=hread w2 hB3;clear hcon hB hB2 hread;go_wp2_with fail;refine aV.mono ?_;rintro e w3 ⟨g,m,c,rfl,ho,hB4⟩;dsimp only;have dL:=qP w2.heap.size g m c T9 w3 ho hB4.size (by have:=ho.1;have:=Au.out;omega);have hg:=ho.lt;have dw:=hB3.trans (hB4.mono hB3.size);have hs2:=hB3.size;clear aV ho hB3;go_wp2_with fail;refine dL.mono ?_;rintro e w4 ⟨rfl,D7,hgr⟩;dsimp only;have bA:=bF dw hgr (by omega);have jL:=lK w2.heap.size g m c _ w4 D7 (Nat.le_trans hB4.size hgr.size);rw[HU.out]at jL;clear dL D7 dw hgr hB4;go_wp2_with fail;refine jL.mono ?_;rintro e w5 ⟨m5,rfl,Re,hgr5⟩;dsimp only;have HF:=ae (ak (Re.mono hs2) (bF bA hgr5 (by omega)));clear jL Re hgr5 bA hs2 hg HU;go_wp2;go_ret;exact⟨g,m5,c,rfl,HF.out.1,HF.out.2⟩
def SR (w W:World)(n₀ g k c:Nat)(xs:List Ln):Prop:=
 ∃dZ:List Value,dZ.length=k/\W.ownsRow n₀ 41 1 (.slice (some ⟨g,0,none⟩) k c) k dZ/\∀j,j<k->∃la ln lc,dZ.getD j undef=bg (xs.getD j .z) (.slice la ln lc)/\IL w la ln (xs.getD j .z).l
theorem lY:(Tryz.prog.info? 41).map (fun i=>(i.zero,i.size,i.bytes))=some (some .nilIface,1,16):=by kernel_rfl
theorem SR.lt {w W:World}{n₀ g k c:Nat}{xs:List Ln}(h:SR w W n₀ g k c xs):n₀<=g/\g<W.heap.size:=by obtain⟨dZ,-,h,-⟩:=h;exact World.ownsRow.lt h g rfl
theorem SR.kept {w W W':World}{n₀ g k c:Nat}{xs:List Ln}(h:SR w W n₀ g k c xs)(hB:Below W.heap.size W W'):SR w W' n₀ g k c xs:=by obtain⟨dZ,h1,h2,h3⟩:=h;exact⟨dZ,h1,aM h2 hB,h3⟩
theorem SR.cell {w W:World}{n₀ g k c:Nat}{xs:List Ln}(h:SR w W n₀ g k c xs){j:Nat}(hj:j<k):∃la ln lc,W.cell? ⟨g,j,none⟩=some (bg (xs.getD j .z) (.slice la ln lc))/\IL w la ln (xs.getD j .z).l:=by obtain⟨dZ,h1,h2,h3⟩:=h;obtain⟨la,ln,lc,e,hi⟩:=h3 j hj;refine⟨la,ln,lc,?_,hi⟩;have:=World.ownsRow.cellAt h2 j (by omega);rw[←e];rw[ah,ai (by omega)];rw[this];simp
theorem SR.cut {w W:World}{n₀ g k c m:Nat}{xs:List Ln}(h:SR w W n₀ g k c (xs.take m))(hk:k<=m):SR w W n₀ g k c xs:=by obtain⟨dZ,h1,h2,h3⟩:=h;refine⟨dZ,h1,h2,fun j hj=>?_⟩;obtain⟨la,ln,lc,e,hi⟩:=h3 j hj;have e2:(xs.take m).getD j .z=xs.getD j .z:=by{rw[ah,ah,List.getElem?_take_of_lt (by omega)]};rw[e2]at e hi;exact⟨la,ln,lc,e,hi⟩
theorem vH {ops:Array Oper}{rest:List Oper}{o:Oper}{a:Act}{Q:Exit->Act->World->Prop}(W w:World)(hgd:o.guard=none)(s x:Operand)(ho:o.op= .call {callee:= .builtin .append,args:=#[s,x],argTypes:=#[37,37]})(n₀ g k c:Nat)(xs:List Ln)(hs:a.eval s= .slice (some ⟨g,0,none⟩) k c)(hown:SR w W n₀ g k c xs)(hxl:xs.length=k)(sb:Nat)(hx:a.eval x= .slice (some ⟨sb,0,none⟩) 1 1)(y:Ln)(la:Option Addr)(ln lc:Nat)(T:TypeId)(u:Value)(hv:bg y (.slice la ln lc)= .iface T u)(hcell:W.cell? ⟨sb,0,none⟩=some (.iface T u))(hil:IL w la ln y.l)(hsz:k<=1000000)(hbase:n₀<=W.heap.size)(h:∀g' c' N W',Hid (N=k+1)->SR w W' n₀ g' N c' (xs++[y])->W.grownBy W' (some g)->wpList Tryz.prog ops Q rest (a.put o.dst (.slice (some ⟨g',0,none⟩) N c')) W'):wpList Tryz.prog ops Q (o::rest) a W:=by obtain⟨i0,hi,hz0,hz1,hz2⟩:=info_parts lY;obtain⟨dZ,h1,h2,h3⟩:=hown;refine wpList_append_own W hgd s x 37 ho n₀ 41 i0 .nilIface 1 16 Tryz.underlying37 hi hz0 hz1 hz2 rfl (by decide) _ k dZ hs h2 ⟨sb,0,none⟩ 1 1 [.iface T u] hx rfl (fun j u' hu=>?_) (fun u' hu=>?_) (by simp only[maxLen];omega) (by omega) hbase (fun v' W' hown' hgrow hnn=>?_);{rcases j with _|j;{simp only[List.getElem?_cons_zero,af]at hu;rw[←hu];(have hadd:(⟨sb,0,none⟩:Addr).add 0=⟨sb,0,none⟩:=by unfold Addr.add;split<;>simp_all);rw[hadd];exact hcell};simp at hu};{rw[List.mem_singleton]at hu;rw[hu];rfl};rcases hown'.2 with⟨rfl,h0⟩|⟨g',cap',cur,rfl,r⟩;{exact absurd (hnn.1 rfl).1 (fun e=>by cases e)};refine h g' cap' (k+1) W' rfl ⟨dZ++[.iface T u],by simp[h1],hown',fun j hj=>?_⟩ hgrow;by_cases hjk:j<k;{obtain⟨la',IY,Cb,e,hi'⟩:=h3 j hjk;refine⟨la',IY,Cb,?_,?_⟩;{rw[ah,List.getElem?_append_left (by omega),←ah,e,ah,ah,List.getElem?_append_left (by omega)]};rw[ah,List.getElem?_append_left (by omega),←ah];exact hi'};have e:j=k:=by{omega};subst e;have e1:(dZ++[Value.iface T u]).getD j undef= .iface T u:=by{rw[ah,List.getElem?_append_right (by omega),h1];simp};have e2:(xs++[y]).getD j .z=y:=by{rw[ah,List.getElem?_append_right (by omega),hxl];simp};rw[e1,e2];exact⟨la,ln,lc,hv.symm,hil⟩
namespace Ln
theorem vM {ls:List Ln}{i:Nat}(hi:i<ls.length):ls.take i++[ls.getD i z]=ls.take (i+1):=by rw[List.take_add_one,ai hi,ah,ai hi];simp
theorem sW {x:Ln}{m:Nat}(h:ok x=true):fK m x=place m x:=by unfold fK;rw[h,Bool.true_and];have hk:=bK h;obtain⟨k,d,a,b,n,l⟩:=x;rcases kinds hk.1 hk.2 with e|e|e|e|e|e|e|e|e|e|e<;>simp only at e<;>subst e;(case inr.inr.inr.inr.inl=>have h0:0<=n:=by{unfold ok at h;simp[asks,Wd.cz]at h;omega};rw[Bool.eq_iff_iff];simp[place,iq,Wd.cz];omega);(case inr.inr.inr.inr.inr.inl=>have h0:0<=n:=by{unfold ok at h;simp[asks,Wd.cz]at h;omega};rw[Bool.eq_iff_iff];simp[place,iq,Wd.cz];omega);all_goals simp[place,iq]
theorem qD (ls:List Ln):iC ls= !behind (ls.getD (ls.length-1) z):=by unfold iC behind;generalize(ls.getD (ls.length-1) z).k=k;by_cases h5:k=5<;>by_cases h10:k=10<;>by_cases h11:k=11<;>simp[h5,h10,h11]
theorem yU {ls:List Ln}(h:1<=ls.length/\ls.length<=300):isOk ls=(ls.all (fK ls.length)&&iC ls):=by unfold isOk;rw[decide_eq_true h,Bool.true_and]
end Ln
theorem gI (a:Option Addr)(len cap:Nat)(ls:List Ln)(w:World)(hs:LL w a len ls):Calls Tryz.prog 20 #[.slice a len cap] w fun e w'=>(Ln.isOk ls=false/\e= .returned (.tuple #[.slice none 0 0, .bool false])\/Ln.isOk ls=true/\∃g c,e= .returned (.tuple #[.slice (some ⟨g,0,none⟩) len c, .bool true])/\SR w w' w.heap.size g len c ls)/\Below w.heap.size w w':=by
 have hl:=hs.1
 have hm:=hs.2.1
 unfold maxLen at hm
 have hcon:=bJ (len:Int) 1 300 w
 by_cases hin:1<=len/\len<=300
 rotate_left
 · have e:Wd.cz (len:Int) 1 300=false:=by{unfold Wd.cz;simp;omega};have HN:Hid (Ln.isOk ls=false):=Ln.pM (by omega);rw[e]at hcon;clear e hs hl hin;go_enter Tryz.func20,Tryz.ntmps20;go_wp2_with(go_at_call 36;refine hcon.mono ?_;rintro e w' ⟨rfl,aQ⟩;subst w';dsimp only);go_ret2;exact⟨.inl ⟨HN.out,rfl⟩,Below.refl _ _⟩
 have e:Wd.cz (len:Int) 1 300=true:=by unfold Wd.cz;simp;omega
 rw[e]at hcon
 clear e
 have Kr:(1:Int)<=(len:Int):=by omega
 have PR:(len:Int)<=300:=by omega
 obtain⟨i0,hi,hz0,hz1,hz2⟩:=info_parts lY
 obtain⟨wm,hmk,hown,hgrow⟩:=run_make_own (P:=Tryz.prog) w w.heap.size 37 41 i0 _ 1 Tryz.underlying37 hi hz0 hz1 .i64 .i64 len (by rw[hz2];omega) (by simp only[maxLen];omega) (Nat.le_refl _)
 have HB0:=ae (lW hgrow)
 have wK:Hid (SR w wm w.heap.size w.heap.size 0 len (ls.take 0)):=⟨[],rfl,hown,fun j hj=>by omega⟩
 have HL:=ae hl
 obtain⟨R,hR⟩:∃R,Ln.isOk ls=R:=⟨_,rfl⟩
 have HR:Hid (R=(ls.all (Ln.fK len)&&Ln.iC ls)):=by show _=_;rw[←hR,Ln.yU (by omega),hl]
 rw[hR]
 obtain⟨-,-,h0|⟨b,off,rfl,hb,hx⟩⟩:=hs
 · omega
 have HX:Hid (∀j,j<len->LC w b (off+j*6) (ls.getD j .z)):=hx
 clear hx hR hown hgrow hl hin
 go_enter Tryz.func20,Tryz.ntmps20
 go_wp2_with(go_at_call 36;refine hcon.mono ?_;rintro e w' ⟨rfl,aQ⟩;subst w';dsimp only)
 go_loopw [5,18] (fun vs vi wr=>∃k g c:Nat,vs= .slice (some ⟨g,0,none⟩) k c/\vi= .int .i64 k/\k<=len/\Hid ((ls.take k).all (Ln.fK len)=true)/\SR w wr w.heap.size g k c (ls.take k)/\Below w.heap.size w wr) (fun _ i _=>len-(intOf i).toNat)
 case atStart=>exact⟨0,_,len,rfl,rfl,Nat.zero_le _,(by show _=_;simp),wK.out,HB0.out⟩
 case round=>
  obtain⟨k,g,c,rfl,rfl,hk,HA,kD,hB⟩:=hrel
  clear hcon hmk wK HB0
  by_cases hlt:k<len
  · have dF:(k:Int)<(len:Int):=by omega
    have hb':b<wr.heap.size:=aj hb hB.size
    have JA:=HX.out k hlt
    have hc:=JA.kept hb hB
    have kD:=ae kD
    obtain⟨x,eX⟩:∃x,ls.getD k .z=x:=⟨_,rfl⟩
    rw[eX]at hc JA
    have yI:=ae eX
    clear eX
    obtain⟨c0,c1,c2,c3,c4,la,ln,lc,c5,hil⟩:=hc
    have Ua:Hid (IL w la ln x.l):=by obtain⟨-,-,-,-,-,la',IY,Cb,Ub,Pd⟩:=JA;have e:=(hB.cell (p:=⟨b,off+k*6+5,none⟩) hb).trans Ub;rw[c5]at e;cases e;exact Pd
    have hB1:=aA wr (.cells #[.int .i64 x.k, .int .i64 x.d, .int .i64 x.a, .int .i64 x.b, .int .i64 x.n, .slice la ln lc] 29)
    have hcon:=dG x la ln lc _ (hil.kept hB1)
    have hB2:=hB.trans (hB1.mono hB.size)
    clear hil JA
    rcases hok:Ln.ok x with _|_
    · rw[om hok]at hcon;have HF:Hid (R=false):=by{show _=_;rw[HR.out,Ln.jA (by rw[HL.out];exact hlt) (by rw[yI.out];simp[Ln.fK,hok])];rfl};go_wp2_with fail;refine hcon.mono ?_;rintro e w2 ⟨rfl,hB3⟩;dsimp only;have hB4:=hB2.trans (hB3.mono hB2.size);clear hcon c0 c1 c2 c3 c4 c5 hB1 hB2 hB3;go_wp2;go_ret2;exact⟨.inl ⟨HF.out,rfl⟩,hB4⟩
    · have hkk:=Ln.bK hok
      have hpl:=jF x hkk.1 hkk.2 la ln lc (len:Int) (by omega) (by omega)
      obtain⟨T,u,Ar⟩:=nJ hok la ln lc
      have esh:bg x (.slice la ln lc)= .iface T u:=by rw[←oO hok,Ar]
      have Uc:=ae esh
      rw[Ar]at hcon
      simp only[esh]at hpl
      have hnil:=xM T u
      have HO:=ae (Ln.sW (m:=len) hok)
      obtain⟨PL,Pe⟩:∃PL,Ln.place len x=PL:=⟨_,rfl⟩
      simp only[Pe]at hpl
      rw[Pe]at HO
      clear hok Ar esh Pe hkk
      cases PL with
      |false=>
       have HF:Hid (R=false):=by show _=_;rw[HR.out,Ln.jA (by rw[HL.out];exact hlt) (by rw[yI.out];exact HO.out)];rfl
       go_wp2_with fail
       refine hcon.mono ?_
       rintro e w2 ⟨rfl,hB3⟩
       dsimp only
       have hB4:=hB2.trans (hB3.mono hB2.size)
       have aV:=hpl w2
       clear hcon c0 c1 c2 c3 c4 c5 hB1 hB2 hB3 hpl
       go_wp2_with(go_at_call 37;refine aV.mono ?_;rintro e w3 ⟨rfl,dw⟩;dsimp only;have bA:=hB4.trans (dw.mono hB4.size);clear hB4 dw)
       go_ret2
       exact⟨.inl ⟨HF.out,rfl⟩,bA⟩
      |true=>
       have HF:Hid ((ls.take (k+1)).all (Ln.fK len)=true):=by show _=_;rw[Ln.l6 HA.out (by rw[HL.out];exact hlt),yI.out];exact HO.out
       go_wp2_with fail
       refine hcon.mono ?_
       rintro e w2 ⟨rfl,hB3⟩
       dsimp only
       have hB4:=hB2.trans (hB3.mono hB2.size)
       have uh:=hB1.trans (hB3.mono hB1.size)
       have aV:=hpl w2
       clear hcon c0 c1 c2 c3 c4 c5 hB1 hB2 hB3 hpl
       have Ud:Hid ((ls.take k).length=k):=by show _=_;rw[List.length_take,HL.out];omega
       have Rf:=ae (Ln.vM (ls:=ls) (i:=k) (by rw[HL.out];exact hlt))
       rw[yI.out]at Rf
       have hg0:=kD.out.lt
       go_wp2_with(first
         |(go_at_call 37;refine aV.mono ?_;rintro e w3 ⟨rfl,dw⟩;dsimp only;have bA:=hB4.trans (dw.mono hB4.size);have IZ:=uh.trans (dw.mono uh.size);have Rh:=ae (aA w3 (.cells #[.iface T u] 41));have KF:=ae (bA.trans (Rh.out.mono bA.size));have Ue:=ae ((kD.out.kept IZ).kept Rh.out);have hc3:Hid ((w3.alloc (.cells #[.iface T u] 41)).cell? ⟨w3.heap.size,0,none⟩=some (.iface T u)):=(by show _=_;rw[World.cell?_alloc_at _ _ _ _ (by simp)];rfl);have D6:=bA.size;clear hB4 dw uh IZ)
         |(at_builtin;refine vH _ w rfl _ _ rfl w.heap.size g k c (ls.take k) rfl Ue.out Ud.out w3.heap.size rfl x la ln lc T u Uc.out hc3.out Ua.out (by omega) (by simp;omega) ?_;intro g1 c1 N1 w4 hN1 ho1 jI;have Pf:=ae (ak ho1 (bF KF.out jI hg0.1));clear ho1 jI))
       rw[Rf.out]at Pf
       have hN:=hN1.out
       clear hN1
       subst hN
       go_roundw
       case rel=>exact⟨k+1,g1,c1,rfl,by simp,hlt,HF,Pf.out.1,Pf.out.2⟩
       case measure=>simp[intOf];omega
  · have hke:k=len:=by{omega};have Au:Hid (R= !Ln.behind (ls.getD (len-1) .z)):=by{show _=_;have:=HA.out;rw[hke,←HL.out,List.take_length]at this;rw[HR.out,←HL.out,this,Bool.true_and,Ln.qD]};have dF:¬(k:Int)<(len:Int):=by{omega};have zM:Hid (Ln.ok (ls.getD (len-1) .z)=true):=by{show _=_;have h2:=HA.out;rw[hke,←HL.out,List.take_length,List.all_eq_true]at h2;have h3:=h2 (ls.getD (len-1) .z) (by rw[ah,ai (by rw[HL.out];omega)];exact List.getElem_mem _);unfold Ln.fK at h3;rw[au]at h3;exact h3.1};rw[hke]at kD;have yK:=kD.cut (Nat.le_refl _);obtain⟨la,ln,lc,hc,hil⟩:=yK.cell (j:=len-1) (by omega);have Pg:=ae yK;obtain⟨x,eX⟩:∃x,ls.getD (len-1) .z=x:=⟨_,rfl⟩;rw[eX]at hc hil Au zM;have hkk:=Ln.bK zM.out;have hcon:=jQ x hkk.1 hkk.2 la ln lc wr;have hg:=yK.lt;subst hke;have Vh:(k:Int)-1=((k-1:Nat):Int):=by{omega};generalize bg x (.slice la ln lc)=sv at hc hcon;rcases JB:Ln.behind x with _|_;{rw[JB]at hcon Au;clear JB hkk hil eX kD yK HA zM;go_wp2_with(go_at_call 38;refine hcon.mono ?_;rintro e w5 ⟨rfl,dw⟩;dsimp only);go_ret2;exact⟨.inr ⟨Au.out,g,c,rfl,Pg.out.kept dw⟩,hB.trans (dw.mono hB.size)⟩};rw[JB]at hcon Au;clear JB hkk hil eX kD yK HA zM;go_wp2_with(go_at_call 38;refine hcon.mono ?_;rintro e w5 ⟨rfl,dw⟩;dsimp only);go_ret2;exact⟨.inl ⟨Au.out,rfl⟩,hB.trans (dw.mono hB.size)⟩
namespace Ln
theorem kL {z n:Int}:∀{xs:List Int},z∈put xs n↔z=n\/z∈xs
 |[]=>by simp[put]
 | x ::r=>by
   unfold put
   split
   · rw[List.mem_cons,kL,List.mem_cons]
     constructor
     · rintro(h|h|h)
       · exact .inr (.inl h)
       · exact .inl h
       · exact .inr (.inr h)
     · rintro(h|h|h)
       · exact .inr (.inl h)
       · exact .inl h
       · exact .inr (.inr h)
   · split
     · have e:x=n:=by assumption
       rw[List.mem_cons,e]
       constructor
       · exact fun h=> .inr h
       · rintro(h|h)
         · exact .inl h
         · exact h
     · exact List.mem_cons
theorem xG {z:Int}(l:List Int):∀(acc:List Int),z∈l.foldl put acc↔z∈l\/z∈acc:=by
 induction l with
 |nil=>intro acc;simp
 |cons x r ih=>
  intro acc
  rw[List.foldl_cons,ih,kL,List.mem_cons]
  constructor
  · rintro(h|h|h);{exact .inl (.inr h)};{exact .inl (.inl h)};exact .inr h
  · rintro((h|h)|h);{exact .inr (.inl h)};{exact .inl h};exact .inr (.inr h)
theorem wU {x:Ln}(h:ok x=true)(z:Int):z∈us x↔z∈rd x:=by have hk:=bK h;obtain⟨k,d,a,b,n,l⟩:=x;have hl:k≠7->l=[]:=fun h7=>by{unfold ok at h;simp[h7]at h;exact h.1};rcases kinds hk.1 hk.2 with e|e|e|e|e|e|e|e|e|e|e<;>simp only at e<;>subst e;{rw[hl (by decide)];exact Iff.rfl};{exact Iff.rfl};{show z∈put [a] b↔z∈[a,b];rw[kL];simp only[List.mem_cons,List.not_mem_nil,or_false];exact or_comm};{exact Iff.rfl};{rw[hl (by decide)];exact Iff.rfl};{exact Iff.rfl};{show z∈fI l↔z∈l;unfold fI;rw[xG];simp};{exact Iff.rfl};{show z∈put [a] b↔z∈[b,a];rw[kL];simp only[List.mem_cons,List.not_mem_nil,or_false]};{exact Iff.rfl};rw[hl (by decide)];exact Iff.rfl
def fm (n:Int)(l:List Int):Int:=l.foldl (fun n y=>mx n (y+1)) n
theorem uF (l:List Int):∀n,n<=fm n l/\(∀y∈l,y+1<=fm n l)/\(fm n l=n\/∃y∈l,fm n l=y+1):=by
 induction l with
 |nil=>intro n;exact⟨Int.le_refl _,by simp, .inl rfl⟩
 |cons x r ih=>
  intro n
  obtain⟨h1,h2,h3⟩:=ih (mx n (x+1))
  have e:fm n (x::r)=fm (mx n (x+1)) r:=rfl
  rw[e]
  have hm:n<=mx n (x+1)/\x+1<=mx n (x+1)/\(mx n (x+1)=n\/mx n (x+1)=x+1):=by unfold mx;split<;>omega
  refine⟨by omega,fun y hy=>?_,?_⟩
  · rcases List.mem_cons.1 hy with rfl|hy;{omega};exact h2 y hy
  · rcases h3 with h3|⟨y,hy,h3⟩;{rcases hm.2.2 with h4|h4;{exact .inl (by omega)};exact .inr ⟨x,by simp,by omega⟩};exact .inr ⟨y,by simp[hy],h3⟩
theorem uq {l l':List Int}(h:∀y,y∈l↔y∈l')(n:Int):fm n l=fm n l':=by obtain⟨a1,a2,a3⟩:=uF l n;obtain⟨b1,b2,b3⟩:=uF l' n;have h1:fm n l<=fm n l':=by{rcases a3 with a3|⟨y,hy,a3⟩;{omega};have:=b2 y ((h y).1 hy);omega};have h2:fm n l'<=fm n l:=by{rcases b3 with b3|⟨y,hy,b3⟩;{omega};have:=a2 y ((h y).2 hy);omega};omega
theorem vC {x:Ln}{n:Int}(hn:0<=n)(h:ok x=true):most n x=fm n (told x):=by have e:most n x=fm n (st x::us x):=rfl;rw[e];rcases hw:wI x with _|_;{have hs:st x=-1:=by{unfold wI at hw;simp only[decide_eq_false_iff_not]at hw;unfold st;rw[ax hw]};have e2:fm n (st x::us x)=fm n (us x):=by{show fm (mx n (st x+1)) (us x)=_;rw[hs,show mx n (-1+1)=n by unfold mx;split<;>omega]};rw[e2];refine uq (fun y=>?_) n;rw[wU h,told,hw];simp};have hs:st x=x.d:=by{unfold wI at hw;simp only[decide_eq_true_eq]at hw;unfold st;rw[ay hw]};refine uq (fun y=>?_) n;rw[List.mem_cons,wU h,told,hw,hs];simp only[if_true,List.mem_append,List.mem_singleton];exact or_comm
theorem yQ (l:List Int)(n:Int){i:Nat}(hi:i<l.length):fm n (l.take (i+1))=mx (fm n (l.take i)) (l.getD i 0+1):=gW l n hi
theorem zh {x:Ln}(h:ok x=true):∀y∈told x,0<=y/\y<=39:=by rw[←jC]at h;unfold right at h;simp only[au,List.all_eq_true]at h;exact fun y hy=>tX.1 (h.2.2.2.1 y hy)
end Ln
theorem oh (a:Option Addr)(len cap:Nat)(ls:List Ln)(w:World)(hs:LL w a len ls):Calls Tryz.prog 10 #[.slice a len cap] w fun e w'=>e= .returned (.bool (Ln.isOk ls))/\Below w.heap.size w w':=by have hcon:=gI a len cap ls w hs;clear hs;go_enter Tryz.func10,Tryz.ntmps10;go_wp2_with fail;refine hcon.mono ?_;rintro e w2 ⟨⟨hR,rfl⟩|⟨hR,g,c,rfl,kD⟩,hB⟩;{dsimp only;replace hR:=ae hR;clear hcon;go_wp2;go_ret;exact⟨by rw[hR.out]<;>rfl,hB⟩};dsimp only;replace hR:=ae hR;clear hcon kD;go_wp2;go_ret;exact⟨by rw[hR.out]<;>rfl,hB⟩
theorem tQ (a:Option Addr)(len cap:Nat)(ls:List Ln)(w:World)(hs:LL w a len ls):Calls Tryz.prog 6 #[.slice a len cap] w fun e w'=>e= .returned (.int .i64 (Ln.boxes ls))/\Below w.heap.size w w':=by have hcon:=gI a len cap ls w hs;have hl:=hs.1;clear hs;rcases hok:Ln.isOk ls with _|_;{have e:Ln.boxes ls=0:=by{unfold Ln.boxes;rw[ax (by rw[hok];decide)]};rw[e];go_enter Tryz.func6,Tryz.ntmps6;go_wp2_with fail;refine hcon.mono ?_;rintro e w2 ⟨⟨hR,rfl⟩|⟨hR,g,c,rfl,kD⟩,hB⟩;{dsimp only;clear hcon hok e hR hl;go_wp2;go_loopw [5,17] (fun vn vi wr=>vn= .int .i64 0/\vi= .int .i64 0/\wr=w2) (fun _ _ _=>0);(case atStart=>exact⟨rfl,rfl,rfl⟩);case round=>obtain⟨rfl,rfl,rfl⟩:=hrel;go_wp2;go_ret;exact⟨rfl,hB⟩};rw[hok]at hR;cases hR};have hlen:=Ln.lq hok;obtain⟨R,hR⟩:∃R,Ln.boxes ls=R:=⟨_,rfl⟩;rw[hR];have HR:Hid (R=Ln.bu ls):=by{show _=_;rw[←hR];unfold Ln.boxes;rw[ay hok]};have HL:=ae hl;have yu:Hid (∀i,i<len->Ln.ok (ls.getD i .z)=true):=fun i hi=>Ln.iW hok (by omega);have HM:Hid (∀i,0<=Ln.bu (ls.take i)/\Ln.bu (ls.take i)<=40):=fun i=>Ln.jk fun x hx=>by{have hx2:=List.mem_of_mem_take hx;obtain⟨j,hj,rfl⟩:=List.getElem_of_mem hx2;have:=Ln.iW hok hj;rwa [ah,ai hj]at this};have Q9:(len:Int)<=300:=by{omega};have Ri:=ae hok;clear hR hok hl hlen;go_enter Tryz.func6,Tryz.ntmps6;go_wp2_with fail;refine hcon.mono ?_;rintro e w2 ⟨⟨hR,rfl⟩|⟨hR,g,c,rfl,kD⟩,hB2⟩;{have:=Ri.out;rw[hR]at this;cases this};dsimp only;clear hcon hR Ri;have Pg:=ae kD;have hg:=kD.lt;clear kD;go_wp2;go_loopw [5,17] (fun vn vi wr=>∃(k:Nat)(n:Int),vn= .int .i64 n/\vi= .int .i64 k/\k<=len/\Hid (n=Ln.bu (ls.take k))/\Below w2.heap.size w2 wr) (fun _ i _=>len-(intOf i).toNat);(case atStart=>exact⟨0,0,rfl,rfl,Nat.zero_le _,(by show _=_;simp[Ln.bu]),Below.refl _ _⟩);case round=>obtain⟨k,n,rfl,rfl,hk,HN,hB⟩:=hrel;by_cases hlt:k<len;{have dF:(k:Int)<(len:Int):=by{omega};have hok:=yu.out k hlt;have p8:=HM.out k;rw[←HN.out]at p8;obtain⟨la,ln,lc,hc,hil⟩:=Pg.out.cell hlt;have hc2:=(hB.cell (p:=⟨g,k,none⟩) hg.2).trans hc;obtain⟨x,eX⟩:∃x,ls.getD k .z=x:=⟨_,rfl⟩;rw[eX]at hc2 hok hil;have yI:=ae eX;have hkk:=Ln.bK hok;have h3:=Ln.iD hok;have rQ:=hil.kept (hB2.trans (hB.mono hB2.size));have hrs:(Ln.rd x).length<=1000:=by{have h:=hok;rw[←Ln.jC]at h;unfold Ln.right at h;simp only[au]at h;exact Ln.lV h.2.2.1};have hcon:=iM x hkk.1 hkk.2 la ln lc wr rQ (fun _=>by have:=hil.1;omega) hrs;have Uf:=ae (Ln.zh hok);have Ug:=ae (Ln.vC (n:=n) p8.1 hok);generalize bg x (.slice la ln lc)=sv at hcon hc2;clear eX hc hil rQ hkk h3 hrs;go_wp2_with fail;refine hcon.mono ?_;rintro e w5 ⟨g5,m,c5,rfl,hog,dw⟩;dsimp only;have bA:=hB.trans (dw.mono hB.size);have HL2:=ae hog.1;have Ra:m<=9223372036854775807:=by{have:=hog.cap;unfold maxLen at this;omega};have HC:Hid (∀j,j<m->w5.cell? ⟨g5,j,none⟩=some (.int .i64 ((Ln.told x).getD j 0))):=fun j hj=>hog.cell hj;have hg5:=hog.lt;clear hcon hog hB dw hc2;go_wp2;go_loopw [5,24] (fun vn vi wq=>∃(j:Nat)(q:Int),vn= .int .i64 q/\vi= .int .i64 j/\j<=m/\Hid (q=Ln.fm n ((Ln.told x).take j))/\(0<=q/\q<=40)/\w5=wq) (fun _ i _=>m-(intOf i).toNat);(case atStart=>exact⟨0,n,rfl,rfl,Nat.zero_le _,(by show _=_;simp[Ln.fm]),p8,rfl⟩);case round=>obtain⟨j,q,rfl,rfl,hj,HQ,hq,aQ⟩:=hrel;subst aQ;by_cases hjm:j<m;{have yP:(j:Int)<(m:Int):=by{omega};have hc:=HC.out j hjm;have hy:0<=(Ln.told x).getD j 0/\(Ln.told x).getD j 0<=39:=by{refine Uf.out _ ?_;have hjl:j<(Ln.told x).length:=by{rw[HL2.out];exact hjm};rw[ah,ai hjl];exact List.getElem_mem hjl};have nU:=ae (Ln.yQ (Ln.told x) n (i:=j) (by rw[HL2.out];exact hjm));rw[←HQ.out]at nU;obtain⟨y,uI⟩:∃y,(Ln.told x).getD j 0=y:=⟨_,rfl⟩;rw[uI]at hc hy nU;have kK:=Ln.j5 hq (show 0<=y+1/\y+1<=40 by omega);clear uI;(have Uh:Hid (max q (y+1)=Ln.mx q (y+1)):=by show _=_;unfold Ln.mx;split<;>omega);go_wp2;go_roundw;(case rel=>exact⟨j+1,Ln.mx q (y+1),by rw[Uh.out],by simp,hjm,(by show _=_;rw[nU.out]),kK,by simp⟩);case measure=>simp[intOf];omega};have yJ:j=m:=by{omega};have BI:Hid (q=Ln.bu (ls.take (k+1))):=by{show _=_;rw[Ln.fe (by rw[HL.out];exact hlt),yI.out,HQ.out,yJ,←HL2.out,List.take_length,←HN.out,Ug.out]};have yP:¬(j:Int)<(m:Int):=by{omega};clear HQ yJ HC;go_wp2;go_roundw;(case rel=>exact⟨k+1,q,rfl,by simp,hlt,BI,bA⟩);case measure=>simp[intOf];omega};have hke:k=len:=by{omega};have HF:Hid (n=R):=by{show _=_;rw[HN.out,HR.out,hke,←HL.out,List.take_length]};clear HN;have dF:¬(k:Int)<(len:Int):=by{omega};clear hke;go_wp2;go_ret;exact⟨by rw[←HF.out]<;>rfl,hB2.trans (hB.mono hB2.size)⟩
end Go.Proofs.YtfmighcopilghaaGreat
