/-
  Own texts for a law: Lin2 Lin3 Hs0 LinP Fl0 Fl1 Fl2 LvX Sp0 Hm0 Hm1 Sp1
-/
import Derived.Test.YthamlonlgnjljaaGreatNC03
import Derived.Lib.SlicesCompact
namespace Go.Proofs.YthamlonlgnjljaaGreat
open Go.RowKit Go.Shelf
set_option linter.all false
set_option maxRecDepth 100000
set_option maxHeartbeats 16000000
def LC (w:World)(b o:Nat)(x:Ln):Prop:=
 w.cell? ⟨b,o,none⟩=some (.int .i64 x.k)/\w.cell? ⟨b,o+1,none⟩=some (.int .i64 x.d)/\w.cell? ⟨b,o+2,none⟩=some (.int .i64 x.a)/\w.cell? ⟨b,o+3,none⟩=some (.int .i64 x.b)/\w.cell? ⟨b,o+4,none⟩=some (.int .i64 x.n)/\
   ∃la ln lc,w.cell? ⟨b,o+5,none⟩=some (.slice la ln lc)/\IL w la ln x.l
theorem LC.kept {w w':World}{b o:Nat}{x:Ln}(h:LC w b o x)(hb:b<w.heap.size)(hB:Below w.heap.size w w'):LC w' b o x:=by obtain⟨c0,c1,c2,c3,c4,la,ln,lc,c5,hi⟩:=h;exact⟨(hB.cell (p:=⟨b,o,none⟩) hb).trans c0,(hB.cell (p:=⟨b,o+1,none⟩) hb).trans c1,(hB.cell (p:=⟨b,o+2,none⟩) hb).trans c2,(hB.cell (p:=⟨b,o+3,none⟩) hb).trans c3,(hB.cell (p:=⟨b,o+4,none⟩) hb).trans c4,la,ln,lc,(hB.cell (p:=⟨b,o+5,none⟩) hb).trans c5,hi.kept hB⟩
def LL (w:World)(a:Option Addr)(len:Nat)(ls:List Ln):Prop:=
 ls.length=len/\len<=maxLen/\(len=0\/∃b off,a=some ⟨b,off,none⟩/\b<w.heap.size/\∀j,j<len->LC w b (off+j*6) (ls.getD j .z))
theorem LL.kept {w w':World}{a:Option Addr}{len:Nat}{ls:List Ln}(h:LL w a len ls)(hB:Below w.heap.size w w'):LL w' a len ls:=by obtain⟨h1,h2,h3|⟨b,off,rfl,hb,hx⟩⟩:=h;{exact⟨h1,h2, .inl h3⟩};exact⟨h1,h2, .inr ⟨b,off,rfl,aj hb hB.size,fun j hj=>(hx j hj).kept hb hB⟩⟩
namespace Ln
theorem rD {m:Nat}{ls:List Ln}{i:Nat}(h:(ls.take i).all (gJ m)=true)(hi:i<ls.length):(ls.take (i+1)).all (gJ m)=gJ m (ls.getD i z):=by rw[List.take_add_one,ai hi,List.all_append,h,ah,ai hi];simp
theorem ni {m:Nat}{ls:List Ln}{i:Nat}(hi:i<ls.length)(h:gJ m (ls.getD i z)=false):ls.all (gJ m)=false:=by rw[List.all_eq_false];refine⟨ls.getD i z,?_,by rw[h];decide⟩;rw[ah,ai hi];exact List.getElem_mem hi
theorem wY {ls:List Ln}(h:ls.length<1\/300<ls.length):isOk ls=false:=by unfold isOk;rw[decide_eq_false (by omega)];rfl
end Ln
theorem jO (a:Option Addr)(len cap:Nat)(ls:List Ln)(w:World)(hs:LL w a len ls):Calls Tryz.prog 15 #[.slice a len cap] w fun e w'=>e= .returned (.bool (Ln.isOk ls))/\Below w.heap.size w w':=by have hl:=hs.1;have hm:=hs.2.1;unfold maxLen at hm;by_cases h1:len<1;{rw[Ln.wY (.inl (by omega))];have Wq:(len:Int)<1:=by{omega};clear hs hl;go_enter Tryz.func15,Tryz.ntmps15;go_wp2;go_ret;exact⟨rfl,Below.refl _ _⟩};by_cases h2:300<len;{rw[Ln.wY (.inr (by omega))];have Wq:¬(len:Int)<1:=by{omega};have h2Z:(300:Int)<(len:Int):=by{omega};clear hs hl;go_enter Tryz.func15,Tryz.ntmps15;go_wp2;go_ret;exact⟨rfl,Below.refl _ _⟩};have Wq:¬(len:Int)<1:=by{omega};have h2Z:¬(300:Int)<(len:Int):=by{omega};obtain⟨R,hR⟩:∃R,Ln.isOk ls=R:=⟨_,rfl⟩;rw[hR];have HR:Hid (R=(ls.all (Ln.gJ len)&&Ln.jH ls)):=by{show _=_;rw[←hR];unfold Ln.isOk;rw[decide_eq_true (by omega),Bool.true_and,hl]};have HL:=ae hl;obtain⟨-,-,h0|⟨b,off,rfl,hb,hx⟩⟩:=hs;{omega};clear hR hl;go_enter Tryz.func15,Tryz.ntmps15;go_wp2;go_loopw [4] (fun i wr=>∃k:Nat,i= .int .i64 k/\k<=len/\Hid ((ls.take k).all (Ln.gJ len)=true)/\Below w.heap.size w wr) (fun i _=>len-(intOf i).toNat);(case atStart=>exact⟨0,rfl,Nat.zero_le _,(by show _=_;simp),Below.refl _ _⟩);case round=>obtain⟨i,rfl,hi,HA,hB⟩:=hrel;by_cases hlt:i<len;{have bE:(i:Int)<(len:Int):=by{omega};have hb':b<wr.heap.size:=aj hb hB.size;have hc:=(hx i hlt).kept hb hB;obtain⟨⟨k,d,aa,bb,n,l⟩,jX⟩:∃x,ls.getD i .z=x:=⟨_,rfl⟩;rw[jX]at hc;have HX:=ae jX;obtain⟨c0,c1,c2,c3,c4,la,ln,lc,c5,hil⟩:=id hc;have hcon:=yD ⟨k,d,aa,bb,n,l⟩ la ln lc wr hil;simp only at c0 c1 c2 c3 c4 hil hcon;rcases hok:Ln.ok ⟨k,d,aa,bb,n,l⟩with _|_;{rw[hok]at hcon;have HF:Hid (R=false):=by{show _=_;rw[HR.out,Ln.ni (by rw[HL.out];exact hlt) (by rw[HX.out];simp[Ln.gJ,hok])];rfl};clear hx jX hc;go_wp2_with(go_at_call 38;refine hcon.mono ?_;rintro e w2 ⟨rfl,hB2⟩;dsimp only);go_ret;exact⟨by rw[HF.out]<;>rfl,hB.trans (hB2.mono hB.size)⟩};rw[hok]at hcon;have hq:(k=5\/k=6)\/((k==5)=false/\(k==6)=false):=by{by_cases e:k=5;{exact .inl (.inl e)};by_cases e2:k=6;{exact .inl (.inr e2)};exact .inr ⟨by simpa using e,by simpa using e2⟩};rcases hq with hq|⟨q5,q6⟩;{by_cases hn:(len:Int)<=n;{have HF:Hid (R=false):=by{show _=_;rw[HR.out,Ln.ni (by rw[HL.out];exact hlt) (by rw[HX.out];rcases hq with rfl|rfl<;>simp[Ln.gJ,hok,hn])];rfl};clear hx jX HX;rcases hq with rfl|rfl;all_goals go_wp2_with(go_at_call 38;refine hcon.mono ?_;rintro e w2 ⟨rfl,hB2⟩;dsimp only;have e0:=(hB2.cell (p:=⟨b,off+i*6,none⟩) hb').trans c0;have e4:=(hB2.cell (p:=⟨b,off+i*6+4,none⟩) hb').trans c4);go_ret;exact⟨by rw[HF.out]<;>rfl,hB.trans (hB2.mono hB.size)⟩};have HA2:Hid ((ls.take (i+1)).all (Ln.gJ len)=true):=by{show _=_;rw[Ln.rD HA.out (by rw[HL.out];exact hlt),HX.out];simp[Ln.gJ,hok,hn]};clear hx jX HX;rcases hq with rfl|rfl;all_goals go_wp2_with(go_at_call 38;refine hcon.mono ?_;rintro e w2 ⟨rfl,hB2⟩;dsimp only;have e0:=(hB2.cell (p:=⟨b,off+i*6,none⟩) hb').trans c0;have e4:=(hB2.cell (p:=⟨b,off+i*6+4,none⟩) hb').trans c4);go_roundw;(case rel=>exact⟨i+1,by simp,hlt,HA2,hB.trans (hB2.mono hB.size)⟩);case measure=>simp[intOf];omega};have HA2:Hid ((ls.take (i+1)).all (Ln.gJ len)=true):=by{show _=_;rw[Ln.rD HA.out (by rw[HL.out];exact hlt),HX.out];have e5:k≠5:=by{simpa using q5};have e6:k≠6:=by{simpa using q6};simp[Ln.gJ,hok,e5,e6]};clear hx jX HX;go_wp2_with(go_at_call 38;refine hcon.mono ?_;rintro e w2 ⟨rfl,hB2⟩;dsimp only;have e0:=(hB2.cell (p:=⟨b,off+i*6,none⟩) hb').trans c0);go_roundw;(case rel=>exact⟨i+1,by simp,hlt,HA2,hB.trans (hB2.mono hB.size)⟩);case measure=>simp[intOf];omega};have hie:i=len:=by{omega};have HR2:Hid (R=Ln.jH ls):=by{show _=_;have:=HA.out;rw[hie,←HL.out,List.take_length]at this;rw[HR.out,←HL.out,this,Bool.true_and]};subst hie;have hc:=(hx (i-1) (by omega)).kept hb hB;have hb':b<wr.heap.size:=aj hb hB.size;obtain⟨⟨k,d,aa,bb,n,l⟩,jX⟩:∃x,ls.getD (i-1) .z=x:=⟨_,rfl⟩;rw[jX]at hc;obtain⟨c0,-⟩:=hc;simp only at c0;have HK:Hid (R=(decide (k=5)||decide (k=10)||decide (k=11))):=by{show _=_;rw[HR2.out];unfold Ln.jH;rw[HL.out,jX]};clear hx jX HR HR2 HA;have hi1:0<i:=by{omega};have hiw:(i:Int)-1=((i-1:Nat):Int):=by{omega};have hqq:k=5\/k=10\/k=11\/((k==5)=false/\(k==10)=false/\(k==11)=false):=by{by_cases e:k=5;{exact .inl e};by_cases e2:k=10;{exact .inr (.inl e2)};by_cases e3:k=11;{exact .inr (.inr (.inl e3))};exact .inr (.inr (.inr ⟨by simpa using e,by simpa using e2,by simpa using e3⟩))};rcases hqq with rfl|rfl|rfl|⟨q5,zO,Ea⟩;{have HF:Hid (R=true):=by{show _=_;rw[HK.out];rfl};go_wp2;go_ret;exact⟨by rw[HF.out]<;>rfl,hB⟩};{have HF:Hid (R=true):=by{show _=_;rw[HK.out];rfl};go_wp2;go_ret;exact⟨by rw[HF.out]<;>rfl,hB⟩};{have HF:Hid (R=true):=by{show _=_;rw[HK.out];rfl};go_wp2;go_ret;exact⟨by rw[HF.out]<;>rfl,hB⟩};have HF:Hid (R=false):=by{show _=_;have e5:k≠5:=by{simpa using q5};have e6:k≠10:=by{simpa using zO};have e7:k≠11:=by{simpa using Ea};rw[HK.out];simp[e5,e6,e7]};go_wp2;go_ret;exact⟨by rw[HF.out]<;>rfl,hB⟩
def OG (W:World)(n₀ g n c:Nat)(xs:List Int):Prop:=xs.length=n/\W.ownsRow n₀ 2 1 (.slice (some ⟨g,0,none⟩) n c) n (xs.map iv)
theorem OG.oi {W:World}{n₀ g n c:Nat}{xs:List Int}(h:OG W n₀ g n c xs):OI W n₀ (.slice (some ⟨g,0,none⟩) n c) xs:=by unfold OI;rw[h.1];exact h.2
theorem OG.lt {W:World}{n₀ g n c:Nat}{xs:List Int}(h:OG W n₀ g n c xs):n₀<=g/\g<W.heap.size:=World.ownsRow.lt h.2 g rfl
theorem OG.cap {W:World}{n₀ g n c:Nat}{xs:List Int}(h:OG W n₀ g n c xs):n<=c/\c<=maxLen:=by rcases h.2.2 with⟨e,-⟩|⟨g',cap,cur,e,hb,hc,hn,hm,-⟩;{cases e};cases e;exact⟨hn,hm⟩
theorem OG.cell {W:World}{n₀ g n c:Nat}{xs:List Int}(h:OG W n₀ g n c xs){j:Nat}(hj:j<n):W.cell? ⟨g,j,none⟩=some (.int .i64 (xs.getD j 0)):=by have hi:=(OI.il h.oi).2;obtain⟨-,-,h0|⟨b,o,e,hb,hx⟩⟩:=hi;{omega};simp only[af,Addr.mk.injEq,and_true]at e;obtain⟨rfl,rfl⟩:=e;have:=hx j hj;rwa [Nat.zero_add]at this
theorem OG.kept {W W':World}{n₀ g n c:Nat}{xs:List Int}(h:OG W n₀ g n c xs)(hB:Below W.heap.size W W'):OG W' n₀ g n c xs:=⟨h.1,aH h.2 hB⟩
theorem OG.bS {W W':World}{n₀ g n c b:Nat}{xs:List Int}(h:OG W n₀ g n c xs)(hg:W.grownBy W' (some b))(hne:g≠b):OG W' n₀ g n c xs:=by refine⟨h.1,World.ownsRow.kept h.2 hg (.inr ?_)⟩;simp only[Value.ownBlock,ne_eq,af];omega
theorem OG.mono {W:World}{n₀ n₁ g n c:Nat}{xs:List Int}(h:OG W n₁ g n c xs)(hn:n₀<=n₁):OG W n₀ g n c xs:=by have:=OI.mono h.oi hn;unfold OI at this;rw[h.1]at this;exact⟨h.1,this⟩
theorem OG.empty (W:World)(n₀:Nat)(hn:n₀<=W.heap.size):OG (W.alloc (.cells #[] 2)) n₀ W.heap.size 0 0 []:=⟨rfl,by simpa[OI]using OI.mono (OI.empty W) hn⟩
theorem OG.one (W:World)(n₀:Nat)(hn:n₀<=W.heap.size)(y:Int):OG (W.alloc (.cells #[.int .i64 y] 2)) n₀ W.heap.size 1 1 [y]:=
 ⟨rfl,rfl, .inr ⟨W.heap.size,1,#[.int .i64 y],rfl,hn,World.alloc_heap_new W _,Nat.le_refl _,by simp[maxLen],rfl,rfl⟩⟩
theorem bZ {ops:Array Oper}{rest:List Oper}{o:Oper}{a:Act}{Q:Exit->Act->World->Prop}(W:World)(hgd:o.guard=none)(s x:Operand)(ho:o.op= .call {callee:= .builtin .append,args:=#[s,x],argTypes:=#[26,26]})(n₀ g n c:Nat)(xs:List Int)(hs:a.eval s= .slice (some ⟨g,0,none⟩) n c)(hown:OG W n₀ g n c xs)(sb so m sc:Nat)(ys:List Int)(hx:a.eval x= .slice (some ⟨sb,so,none⟩) m sc)(hym:ys.length=m)(hy:∀j,j<m->W.cell? ⟨sb,so+j,none⟩=some (.int .i64 (ys.getD j 0)))(hsz:n+m<=1048576)(hbase:n₀<=W.heap.size)(h:∀g' c' N W',Hid (N=n+m)->OG W' n₀ g' N c' (xs++ys)->W.grownBy W' (some g)->wpList Tryz.prog ops Q rest (a.put o.dst (.slice (some ⟨g',0,none⟩) N c')) W'):wpList Tryz.prog ops Q (o::rest) a W:=by obtain⟨i0,hi,hz0,hz1,hz2⟩:=info_parts bU;refine wpList_append_own W hgd s x 26 ho n₀ 2 i0 (.int .i64 0) 1 8 Tryz.underlying26 hi hz0 hz1 hz2 rfl (by decide) _ n (xs.map iv) hs hown.2 ⟨sb,so,none⟩ m sc (ys.map iv) hx (by rw[List.length_map,hym,Nat.mul_one]) (fun j u hu=>?_) FU (by simp only[maxLen];omega) (by omega) hbase (fun v' W' hown' hgrow hnn=>?_);{have hj:j<m:=by{have:=(List.getElem?_eq_some_iff.1 hu).1;rwa [List.length_map,hym]at this};rw[vN (by rw[hym];exact hj)]at hu;cases hu;(have hadd:(⟨sb,so,none⟩:Addr).add j=⟨sb,so+j,none⟩:=by unfold Addr.add;split<;>simp_all);rw[hadd];exact hy j hj};rcases hown'.2 with⟨rfl,h0⟩|⟨g',cap',cur,rfl,r⟩;{exact absurd (hnn.1 rfl).1 (fun e=>by cases e)};refine h g' cap' (n+m) W' rfl ⟨by rw[List.length_append,hown.1,hym],?_⟩ hgrow;rw[List.map_append];exact hown'
theorem mE (n₀ g m c:Nat)(xs:List Int)(n:Int)(hm:m<=1000)(w:World)(hn:n₀<=w.heap.size)(ho:OG w n₀ g m c xs):Calls Tryz.prog 105 #[.slice (some ⟨g,0,none⟩) m c, .int .i64 n] w fun e w'=>∃g' m' c',e= .returned (.slice (some ⟨g',0,none⟩) m' c')/\OG w' n₀ g' m' c' (Ln.put xs n)/\Below w.heap.size w w':=by
 have hcap:=ho.cap
 have DK:=ho.lt
 have HX:=ae ho.1
 have HC:Hid (∀j,j<m->w.cell? ⟨g,j,none⟩=some (.int .i64 (xs.getD j 0))):=fun j hj=>ho.cell hj
 have HO:=ae ho
 clear ho
 go_enter Tryz.func105,Tryz.ntmps105
 go_wp2
 go_loopw [5] (fun i wr=>∃k:Nat,i= .int .i64 k/\k<=m/\Hid (∀j,j<k->xs.getD j 0<n)/\w=wr) (fun i _=>m-(intOf i).toNat)
 case atStart=>exact⟨0,rfl,Nat.zero_le _,(fun j hj=>by omega),rfl⟩
 case round=>
  obtain⟨k,rfl,hk,HL,aZ⟩:=hrel
  subst aZ
  have fin:Hid (∀(hge:k<m->n<=xs.getD k 0),Ln.put xs n=if k<m/\xs.getD k 0=n then xs else xs.take k++(n::xs.drop k)):=fun hge=>by have:=Ln.EH n xs k (by rw[HX.out];exact hk) HL.out (fun h=>hge (by rw[HX.out]at h;exact h));rw[HX.out]at this;exact this
  have IX:(k:Int)<=(m:Int):=by omega
  have hkc:(k:Int)<=(c:Int):=by omega
  have adP:(m:Int)<=(c:Int):=by omega
  have hqq:(k<m/\xs.getD k 0<n)\/(k<m/\xs.getD k 0=n)\/(k<m->n<=xs.getD k 0)/\¬(k<m/\xs.getD k 0=n):=by by_cases h1:k<m;{by_cases h2:xs.getD k 0<n;{exact .inl ⟨h1,h2⟩};by_cases h3:xs.getD k 0=n;{exact .inr (.inl ⟨h1,h3⟩)};exact .inr (.inr ⟨fun _=>by omega,fun h=>h3 h.2⟩)};exact .inr (.inr ⟨fun h=>absurd h h1,fun h=>h1 h.1⟩)
  rcases hqq with⟨hlt,hy⟩|⟨hlt,hy⟩|⟨hge,hno⟩
  · have bE:(k:Int)<(m:Int):=by{omega};have HL2:Hid (∀j,j<k+1->xs.getD j 0<n):=fun j hj=>by{by_cases e:j<k;{exact HL.out j e};obtain rfl:j=k:=by{omega};exact hy};have hc:=HC.out k hlt;obtain⟨y,Gd⟩:∃y,xs.getD k 0=y:=⟨_,rfl⟩;rw[Gd]at hc hy;clear Gd;go_wp2;go_roundw;(case rel=>exact⟨k+1,by simp,hlt,HL2,by simp⟩);case measure=>simp[intOf];omega
  · have bE:(k:Int)<(m:Int):=by{omega};have hc:=HC.out k hlt;have HP:Hid (Ln.put xs n=xs):=by{show _=_;rw[fin.out (fun _=>by omega),ay ⟨hlt,hy⟩]};rw[hy]at hc;clear hy fin HL;have hnn:¬(n<n):=by{omega};have hqn:(n==n)=true:=by{simp};go_wp2;go_ret;exact⟨g,m,c,rfl,by rw[HP.out];exact HO.out,Below.refl _ _⟩
  · have HP:Hid (Ln.put xs n=xs.take k++(n::xs.drop k)):=by show _=_;rw[fin.out hge,ax hno]
    clear fin HL
    have hB1:=aA w (.cells #[] 2)
    have xz:=ae (OG.empty w w.heap.size (Nat.le_refl _))
    have HB1:=ae hB1
    have hc1:Hid (∀j,j<m-k->(w.alloc (.cells #[] 2)).cell? ⟨g,k+j,none⟩=some (.int .i64 ((xs.drop k).getD j 0))):=fun j hj=>by rw[(hB1.cell (p:=⟨g,k+j,none⟩) DK.2).trans (HC.out (k+j) (by omega)),ah,ah,List.getElem?_drop]
    have hct:Hid (∀j,j<k->xs.getD j 0=(xs.take k).getD j 0):=fun j hj=>by rw[ah,ah,List.getElem?_take_of_lt hj]
    have HD:Hid ((xs.drop k).length=m-k/\(xs.take k).length=k):=⟨by rw[List.length_drop,HX.out],by rw[List.length_take,HX.out];omega⟩
    clear hB1
    have Ph:(¬(k:Int)<(m:Int)/\c<=k)\/(¬(k:Int)<(m:Int)/\¬(k=c))\/((k:Int)<(m:Int)/\∃y,w.cell? ⟨g,k,none⟩=some (.int .i64 y)/\¬(y<n)/\(y==n)=false):=by by_cases hlt:k<m;{refine .inr (.inr ⟨by omega,xs.getD k 0,HC.out k hlt,?_,?_⟩);{have:=hge hlt;omega};have:¬(xs.getD k 0=n):=fun e=>hno ⟨hlt,e⟩;simpa using this};by_cases hkc:c<=k;{exact .inl ⟨by omega,hkc⟩};exact .inr (.inl ⟨by omega,by omega⟩)
    clear hge hno
    rcases Ph with⟨hlt,hck⟩|⟨hlt,hne⟩|⟨hlt,y,hc,hyn,hyq⟩
    all_goals
     go_wp2_with(first
       |(at_builtin;refine bZ _ rfl _ _ rfl w.heap.size _ _ _ [] rfl xz.out g k (m-k) (c-k) (xs.drop k) rfl HD.out.1 hc1.out (by omega) (by simp) ?_;intro g1 c1 N1 w1 hN1 ho1 nH;have hB2:=aB HB1.out nH (Nat.le_refl _);have hal:=aA w1 (.cells #[] 2);have HB3:=ae (hB2.trans (hal.mono hB2.size));have HE2:=ae (OG.empty w1 w1.heap.size (Nat.le_refl _));have HR1:=ae (ho1.kept hal);have hsz1:=hB2.size;have hg1:=ho1.lt;have hc2:Hid (∀j,j<k->(w1.alloc (.cells #[] 2)).cell? ⟨g,0+j,none⟩=some (.int .i64 ((xs.take k).getD j 0))):=(fun j hj=>by rw[Nat.zero_add,(HB3.out.cell (p:=⟨g,j,none⟩) DK.2).trans (HC.out j (by omega)),hct.out j hj]);clear hB2 hal ho1 nH)
       |(at_builtin;refine bZ _ rfl _ _ rfl w.heap.size _ _ _ [] rfl xz.out g _ _ _ _ rfl HD.out.1 (fun j hj=>absurd hj (by omega)) (by omega) (by simp) ?_;intro g1 c1 N1 w1 hN1 ho1 nH;have hB2:=aB HB1.out nH (Nat.le_refl _);have hal:=aA w1 (.cells #[] 2);have HB3:=ae (hB2.trans (hal.mono hB2.size));have HE2:=ae (OG.empty w1 w1.heap.size (Nat.le_refl _));have HR1:=ae (ho1.kept hal);have hsz1:=hB2.size;have hg1:=ho1.lt;have hc2:Hid (∀j,j<k->(w1.alloc (.cells #[] 2)).cell? ⟨g,0+j,none⟩=some (.int .i64 ((xs.take k).getD j 0))):=(fun j hj=>by rw[Nat.zero_add,(HB3.out.cell (p:=⟨g,j,none⟩) DK.2).trans (HC.out j (by omega)),hct.out j hj]);clear hB2 hal ho1 nH)
       |(at_builtin;refine bZ _ rfl _ _ rfl w1.heap.size _ _ _ [] rfl HE2.out g 0 _ _ (xs.take _) rfl HD.out.2 hc2.out (by omega) (by simp) ?_;intro g2 c2 N2 w2 G5 ho2 DL;have hB4:=aB HB3.out DL hsz1;have hal:=aA w2 (.cells #[.int .i64 n] 2);have AU:=ae (hB4.trans (hal.mono hB4.size));have HR2:=ae ((HR1.out.bS DL (by omega)).kept hal);have iA:=ae (ho2.kept hal);have hg2:=ho2.lt;have hc3:Hid (∀j,j<1->(w2.alloc (.cells #[.int .i64 n] 2)).cell? ⟨w2.heap.size,0+j,none⟩=some (.int .i64 (([n]:List Int).getD j 0))):=(fun j hj=>by obtain rfl:j=0:=(by omega);exact(OG.one w2 w2.heap.size (Nat.le_refl _) n).cell (j:=0) (by omega));clear hB4 hal ho2 DL HB3 HE2 HR1 hc2)
       |(at_builtin;refine bZ _ rfl _ _ rfl w1.heap.size _ _ _ _ rfl iA.out w2.heap.size 0 1 1 [n] rfl rfl hc3.out (by have:=G5.out;omega) (by simp;omega) ?_;intro g3 c3 N3 w3 DN ho3 uf;have zP:=ae (aB AU.out uf (by omega));have HR3:=ae (HR2.out.bS uf (by omega));have pY:=ae ho3;have IY:=uf.size;have hg3:=ho3.lt;have hc4:Hid (∀j,j<N1->w3.cell? ⟨g1,0+j,none⟩=some (.int .i64 (([]++xs.drop k).getD j 0))):=(fun j hj=>by rw[Nat.zero_add];exact HR3.out.cell hj);clear ho3 uf HR2 iA hc3)
       |(at_builtin;refine bZ _ rfl _ _ rfl w1.heap.size _ _ _ _ rfl pY.out g1 0 N1 c1 ([]++xs.drop k) rfl HR3.out.1 hc4.out (by have:=G5.out;have:=DN.out;have:=hN1.out;omega) (by simp at IY;omega) ?_;intro g4 c4 N4 w4 J4 pu gy;have IZ:=ae (aB zP.out gy (by omega));have jD:=ae pu;clear pu gy zP HR3 pY hc4))
     go_ret
     exact⟨g4,N4,c4,rfl,by rw[HP.out];simpa using jD.out.mono (by omega),IZ.out⟩
theorem Al:(Tryz.prog.info? 3).map (fun i=>(i.zero,i.size,i.bytes))=some (some (.int .i64 0),1,8):=by kernel_rfl
def iC (W:World)(n₀ g n c:Nat)(xs:List Int):Prop:=xs.length=n/\W.ownsRow n₀ 3 1 (.slice (some ⟨g,0,none⟩) n c) n (xs.map iv)
theorem iC.lt {W:World}{n₀ g n c:Nat}{xs:List Int}(h:iC W n₀ g n c xs):n₀<=g/\g<W.heap.size:=World.ownsRow.lt h.2 g rfl
theorem iC.cap {W:World}{n₀ g n c:Nat}{xs:List Int}(h:iC W n₀ g n c xs):n<=c/\c<=maxLen:=by rcases h.2.2 with⟨e,-⟩|⟨g',cap,cur,e,hb,hc,hn,hm,-⟩;{cases e};cases e;exact⟨hn,hm⟩
theorem iC.cell {W:World}{n₀ g n c:Nat}{xs:List Int}(h:iC W n₀ g n c xs){j:Nat}(hj:j<n):W.cell? ⟨g,j,none⟩=some (.int .i64 (xs.getD j 0)):=by have hc:=World.ownsRow.cells h.2 (g:=g) rfl;(have hadd:(⟨g,0,none⟩:Addr).add j=⟨g,j,none⟩:=by unfold Addr.add;split<;>simp_all);rw[←hadd];refine hc j _ ?_;rw[vN (by rw[h.1];exact hj)];rfl
theorem iC.frozen {W:World}{n₀ g n c:Nat}{xs:List Int}(h:iC W n₀ g n c xs)(j:Nat):W.frozen? ⟨g,j,none⟩=false:=World.ownsRow.frozenAt h.2 j
theorem iC.kept {W W':World}{n₀ g n c:Nat}{xs:List Int}(h:iC W n₀ g n c xs)(hB:Below W.heap.size W W'):iC W' n₀ g n c xs:=⟨h.1,aH h.2 hB⟩
theorem iC.bS {W W':World}{n₀ g n c b:Nat}{xs:List Int}(h:iC W n₀ g n c xs)(hg:W.grownBy W' (some b))(hne:g≠b):iC W' n₀ g n c xs:=by refine⟨h.1,World.ownsRow.kept h.2 hg (.inr ?_)⟩;simp only[Value.ownBlock,ne_eq,af];omega
theorem iC.mono {W:World}{n₀ n₁ g n c:Nat}{xs:List Int}(h:iC W n₁ g n c xs)(hn:n₀<=n₁):iC W n₀ g n c xs:=by refine⟨h.1,h.2.1,?_⟩;rcases h.2.2 with⟨e,-⟩|⟨g',cap,cur,e,hb,r⟩;{cases e};exact .inr ⟨g',cap,cur,e,by omega,r⟩
theorem iC.empty (W:World)(n₀:Nat)(hn:n₀<=W.heap.size):iC (W.alloc (.cells #[] 3)) n₀ W.heap.size 0 0 []:=
 ⟨rfl,rfl, .inr ⟨W.heap.size,0,#[],rfl,hn,World.alloc_heap_new W _,Nat.le_refl _,by simp[maxLen],rfl,rfl⟩⟩
theorem iC.one (W:World)(n₀:Nat)(hn:n₀<=W.heap.size)(y:Int):iC (W.alloc (.cells #[.int .i64 y] 3)) n₀ W.heap.size 1 1 [y]:=
 ⟨rfl,rfl, .inr ⟨W.heap.size,1,#[.int .i64 y],rfl,hn,World.alloc_heap_new W _,Nat.le_refl _,by simp[maxLen],rfl,rfl⟩⟩
theorem iC.VU (W:World)(n₀:Nat)(hn:n₀<=W.heap.size)(a b x y z:Int):iC (W.alloc (.cells #[.int .i64 a, .int .i64 b, .int .i64 x, .int .i64 y, .int .i64 z] 3)) n₀ W.heap.size 5 5 [a,b,x,y,z]:=
 ⟨rfl,rfl, .inr ⟨W.heap.size,5,#[.int .i64 a, .int .i64 b, .int .i64 x, .int .i64 y, .int .i64 z],rfl,hn,World.alloc_heap_new W _,Nat.le_refl _,by simp[maxLen],rfl,rfl⟩⟩
theorem iC.set {W:World}{n₀ g n c:Nat}{xs:List Int}(h:iC W n₀ g n c xs)(j:Nat)(x:Int):iC (W.setCell ⟨g,j,none⟩ (.int .i64 x)) n₀ g n c (xs.set j x):=by have hst:=(World.ownsRow.stored h.2 j (.int .i64 x)).1;refine⟨by rw[List.length_set];exact h.1,?_⟩;have e:(xs.set j x).map iv=(xs.map iv).set j (.int .i64 x):=by{rw[List.map_set];rfl};rw[e];exact hst
theorem dY {ops:Array Oper}{rest:List Oper}{o:Oper}{a:Act}{Q:Exit->Act->World->Prop}(W:World)(hgd:o.guard=none)(s x:Operand)(ho:o.op= .call {callee:= .builtin .append,args:=#[s,x],argTypes:=#[129,129]})(n₀ g n c:Nat)(xs:List Int)(hs:a.eval s= .slice (some ⟨g,0,none⟩) n c)(hown:iC W n₀ g n c xs)(sb so m sc:Nat)(ys:List Int)(hx:a.eval x= .slice (some ⟨sb,so,none⟩) m sc)(hym:ys.length=m)(hy:∀j,j<m->W.cell? ⟨sb,so+j,none⟩=some (.int .i64 (ys.getD j 0)))(hsz:n+m<=1048576)(hbase:n₀<=W.heap.size)(h:∀g' c' N W',Hid (N=n+m)->iC W' n₀ g' N c' (xs++ys)->W.grownBy W' (some g)->wpList Tryz.prog ops Q rest (a.put o.dst (.slice (some ⟨g',0,none⟩) N c')) W'):wpList Tryz.prog ops Q (o::rest) a W:=by obtain⟨i0,hi,hz0,hz1,hz2⟩:=info_parts Al;refine wpList_append_own W hgd s x 129 ho n₀ 3 i0 (.int .i64 0) 1 8 Tryz.underlying129 hi hz0 hz1 hz2 rfl (by decide) _ n (xs.map iv) hs hown.2 ⟨sb,so,none⟩ m sc (ys.map iv) hx (by rw[List.length_map,hym,Nat.mul_one]) (fun j u hu=>?_) FU (by simp only[maxLen];omega) (by omega) hbase (fun v' W' hown' hgrow hnn=>?_);{have hj:j<m:=by{have:=(List.getElem?_eq_some_iff.1 hu).1;rwa [List.length_map,hym]at this};rw[vN (by rw[hym];exact hj)]at hu;cases hu;(have hadd:(⟨sb,so,none⟩:Addr).add j=⟨sb,so+j,none⟩:=by unfold Addr.add;split<;>simp_all);rw[hadd];exact hy j hj};rcases hown'.2 with⟨rfl,h0⟩|⟨g',cap',cur,rfl,r⟩;{exact absurd (hnn.1 rfl).1 (fun e=>by cases e)};refine h g' cap' (n+m) W' rfl ⟨by rw[List.length_append,hown.1,hym],?_⟩ hgrow;rw[List.map_append];exact hown'
section
open Go.RowKit
namespace Ln
theorem sj {x:Ln}(h:ok x=true):x.l.length<=3:=by unfold ok at h;simp only[au,Bool.not_eq_true',Bool.and_eq_false_iff,decide_eq_false_iff_not,Decidable.not_not]at h;obtain⟨h1|h1,h2⟩:=h;{rw[h1]at h2;simp[asks]at h2;exact h2.2.1};omega
theorem wH {z n:Int}:∀{xs:List Int},z∈put xs n->z=n\/z∈xs
 |[],h=> .inl (by simpa[put]using h)
 | x ::r,h=>by
   unfold put at h
   split at h
   · rcases List.mem_cons.1 h with h|h
     · exact .inr (by simp[h])
     · rcases wH h with h|h
       · exact .inl h
       · exact .inr (by simp[h])
   · split at h
     · exact .inr h
     · rcases List.mem_cons.1 h with h|h
       · exact .inl h
       · exact .inr h
theorem FE {z:Int}(l:List Int):∀(acc:List Int),z∈l.foldl put acc->z∈l\/z∈acc:=by
 induction l with
 |nil=>intro acc h;exact .inr h
 |cons x r ih=>
  intro acc h
  rcases ih _ h with h|h
  · exact .inl (by simp[h])
  · rcases wH h with h|h;{exact .inl (by simp[h])};exact .inr h
theorem EB {b:Int}:bx b=true↔0<=b/\b<=39:=by unfold bx Wd.bW;simp
theorem dw {x:Ln}(h:ok x=true):1<=x.k/\x.k<=11:=by obtain⟨k,d,a,b,n,l⟩:=x;unfold ok at h;rw[au]at h;have h2:=h.2;unfold asks at h2;simp only at h2 ⊢;(repeat' split at h2);all_goals first|omega|(simp at h2)
theorem Fx {x:Ln}(h:ok x=true):∀y∈us x,0<=y/\y<=39:=by obtain⟨hk1,hk2⟩:=dw h;obtain⟨k,d,a,b,n,l⟩:=x;simp only at hk1 hk2;have hk:k=1\/k=2\/k=3\/k=4\/k=5\/k=6\/k=7\/k=8\/k=9\/k=10\/k=11:=by{omega};unfold ok at h;rw[au]at h;obtain⟨h1,h⟩:=h;intro y hy;rcases hk with rfl|rfl|rfl|rfl|rfl|rfl|rfl|rfl|rfl|rfl|rfl;(all_goals(simp[asks,q0,EB]at h;simp[us]at hy));(case inl|inr.inr.inr.inr.inl|inr.inr.inr.inr.inr.inr.inr.inr.inr.inr=>have hl:l=[]:=by{simpa using h1};subst hl;simp[dV]at hy);(case inr.inl|inr.inr.inr.inl|inr.inr.inr.inr.inr.inl|inr.inr.inr.inr.inr.inr.inr.inl|inr.inr.inr.inr.inr.inr.inr.inr.inr.inl=>subst hy;omega);(case inr.inr.inl|inr.inr.inr.inr.inr.inr.inr.inr.inl=>rcases wH hy with h|h;{subst h;omega};rw[List.mem_singleton]at h;subst h;omega);rcases FE l [] hy with h3|h3;{exact h.1 y h3};cases h3
theorem Bu {x:Ln}(h:ok x=true):-1<=st x/\st x<=39:=by obtain⟨hk1,hk2⟩:=dw h;obtain⟨k,d,a,b,n,l⟩:=x;simp only at hk1 hk2;have hk:k=1\/k=2\/k=3\/k=4\/k=5\/k=6\/k=7\/k=8\/k=9\/k=10\/k=11:=by{omega};unfold ok at h;rw[au]at h;obtain⟨h1,h⟩:=h;rcases hk with rfl|rfl|rfl|rfl|rfl|rfl|rfl|rfl|rfl|rfl|rfl;all_goals(simp[asks,q0,EB]at h;simp[st]<;>omega)
theorem jE {ls:List Ln}(h:isOk ls=true){i:Nat}(hi:i<ls.length):ok (ls.getD i z)=true:=by unfold isOk at h;simp only[au,List.all_eq_true]at h;have:=h.2.1 (ls.getD i z) (by rw[ah,ai hi];exact List.getElem_mem hi);unfold gJ at this;simp only[au]at this;exact this.1
theorem fD {ls:List Ln}(h:isOk ls=true):1<=ls.length/\ls.length<=300:=by unfold isOk at h;simp only[au,decide_eq_true_eq]at h;exact h.1
end Ln
namespace Ln
def cn (x:Ln):Ln:=
 if x.k=1 then⟨1,x.d,0,0,x.n,[]⟩
 else if x.k=2 then⟨2,x.d,x.a,0,0,[]⟩
 else if x.k=3 then⟨3,x.d,x.a,x.b,x.n,[]⟩
 else if x.k=4 then⟨4,x.d,x.a,0,0,[]⟩
 else if x.k=5 then⟨5,0,0,0,x.n,[]⟩
 else if x.k=6 then⟨6,0,x.a,0,x.n,[]⟩
 else if x.k=7 then⟨7,x.d,0,0,x.n,x.l⟩
 else if x.k=8 then⟨8,x.d,x.a,0,x.n,[]⟩
 else if x.k=9 then⟨9,0,x.a,x.b,x.n,[]⟩
 else if x.k=10 then⟨10,0,x.a,0,0,[]⟩
 else if x.k=11 then⟨11,0,0,0,0,[]⟩
 else z
def jT (p q:Ln):Bool:=decide (p.k=q.k)&&(decide (p.d=q.d)&&(decide (p.a=q.a)&&(decide (p.b=q.b)&&(decide (p.n=q.n)&&decide (p.l=q.l)))))
def rd (x:Ln):List Int:=
 if x.k=2\/x.k=4\/x.k=6\/x.k=8\/x.k=10 then[x.a]else if x.k=3 then[x.a,x.b]else if x.k=9 then[x.b,x.a]else if x.k=7 then x.l else[]
def zL (x:Ln):Bool:=decide (x.k=1\/x.k=2\/x.k=3\/x.k=4\/x.k=7\/x.k=8)
def told (x:Ln):List Int:=rd x++(if zL x=true then[x.d]else[])
def counts (x:Ln):Bool:=if x.k=1 then Wd.ok x.n else if x.k=3 then Wd.bW x.n 1 12 else if x.k=7 then Wd.bW x.n 0 3&&decide (x.l.length<=3)else if x.k=8\/x.k=9 then Wd.bW x.n 0 255 else true
def gX (x:Ln):Bool:=decide (x.k=5\/x.k=6)
def place (m:Int)(x:Ln):Bool:= !gX x||Wd.bW x.n 0 (m-1)
def behind (x:Ln):Bool:= !decide (x.k=5\/x.k=10\/x.k=11)
theorem kinds {k:Int}(h1:1<=k)(h2:k<=11):k=1\/k=2\/k=3\/k=4\/k=5\/k=6\/k=7\/k=8\/k=9\/k=10\/k=11:=by omega
def right (x:Ln):Bool:=decide (1<=x.k/\x.k<=11)&&(jT (cn x) x&&(counts x&&((told x).all bx&&place 300 x)))
theorem zh (x:Ln):right x=ok x:=by obtain⟨k,d,a,b,n,l⟩:=x;by_cases hk:1<=k/\k<=11;{rw[Bool.eq_iff_iff];have hq:∀y:Int,((0:Int)=y)↔(y=0):=fun y=>⟨Eq.symm,Eq.symm⟩;rcases kinds hk.1 hk.2 with rfl|rfl|rfl|rfl|rfl|rfl|rfl|rfl|rfl|rfl|rfl;all_goals simp only[right,ok,asks,jT,cn,counts,told,rd,zL,place,gX,q0];simp[hq,and_assoc,and_comm,and_left_comm]};have h1:right ⟨k,d,a,b,n,l⟩=false:=by{unfold right;rw[decide_eq_false hk];rfl};rw[h1];symm;rw[Bool.eq_false_iff];intro h;have:=dw h;simp only at this;omega
end Ln
end
section
open Go.RowKit
namespace Fl
def nx (x:Ln)(i:Nat):List Int:=
 if x.k=5 then[x.n]else if x.k=6 then Ln.put [(i:Int)+1] x.n else if x.k=10\/x.k=11 then[]else[(i:Int)+1]
def has (ls:List Ln)(p:Int):Bool:=Ln.isOk ls&&decide (0<=p/\p<(ls.length:Int))
def le (a b:Nat):Prop:=a|||b=b
theorem le_iff {a b:Nat}:le a b↔∀k,a.testBit k=true->b.testBit k=true:=by unfold le;constructor;{intro h k hk;rw[←h,Nat.testBit_or,hk];rfl};intro h;refine Nat.eq_of_testBit_eq fun k=>?_;rw[Nat.testBit_or];rcases e:a.testBit k with _|_;{rfl};rw[h k e];rfl
theorem le_refl (a:Nat):le a a:=le_iff.2 fun _ h=>h
theorem le_trans {a b c:Nat}(h:le a b)(h':le b c):le a c:=le_iff.2 fun k hk=>le_iff.1 h' k (le_iff.1 h k hk)
theorem Ig {a b:Nat}(h:le a b)(h':le b a):a=b:=by unfold le at h h';rw[←h,Nat.or_comm,h']
theorem Jy {a b:Nat}(h:le a b):a<=b:=by rw[←h];exact Nat.left_le_or
def an (a b:Nat):Nat:=a ^^^ (a&&& b)
theorem nQ (a b k:Nat):(an a b).testBit k=(a.testBit k&& !b.testBit k):=by unfold an;rw[Nat.testBit_xor,Nat.testBit_and];cases a.testBit k<;>cases b.testBit k<;>rfl
theorem or_mono {a b c d:Nat}(h:le a b)(h':le c d):le (a|||c) (b|||d):=le_iff.2 fun k=>by
 rw[Nat.testBit_or,Nat.testBit_or,Bool.or_eq_true,Bool.or_eq_true]
 exact fun h2=>h2.imp (le_iff.1 h k) (le_iff.1 h' k)
theorem H5 {a b:Nat}(c:Nat)(h:le a b):le (an a c) (an b c):=le_iff.2 fun k=>by
 rw[nQ,nQ,au,au]
 exact fun h2=>⟨le_iff.1 h k h2.1,h2.2⟩
def mk (l:List Int):Nat:=l.foldl (fun m b=>m|||2 ^ b.toNat) 0
theorem Fa (l:List Int):∀(m k:Nat),(l.foldl (fun m b=>m|||2 ^ b.toNat) m).testBit k=(m.testBit k||l.any fun b=>decide (b.toNat=k)):=by
 induction l with
 |nil=>intro m k;simp
 |cons y r ih=>
  intro m k
  rw[List.foldl_cons,ih,Nat.testBit_or,Nat.testBit_two_pow,List.any_cons,Bool.or_assoc]
theorem FH (l:List Int)(k:Nat):(mk l).testBit k=l.any fun b=>decide (b.toNat=k):=by unfold mk;rw[Fa];simp
theorem Hr {l l':List Int}(h:∀y,y∈l↔y∈l'):mk l=mk l':=Nat.eq_of_testBit_eq fun k=>by
 rw[FH,FH,Bool.eq_iff_iff,List.any_eq_true,List.any_eq_true]
 exact⟨fun⟨y,hy,e⟩=>⟨y,(h y).1 hy,e⟩,fun⟨y,hy,e⟩=>⟨y,(h y).2 hy,e⟩⟩
theorem Ib (l:List Int):∀m,m<2 ^ 40->(∀y∈l,0<=y/\y<=39)->l.foldl (fun m b=>m|||2 ^ b.toNat) m<2 ^ 40:=by
 induction l with
 |nil=>intro m hm _;exact hm
 |cons y r ih=>
  intro m hm h
  have hy:=h y (by simp)
  exact ih _ (Nat.or_lt_two_pow hm (Nat.pow_lt_pow_right (by decide) (by omega))) fun z hz=>h z (by simp[hz])
theorem xO {l:List Int}(h:∀y∈l,0<=y/\y<=39):mk l<2 ^ 40:=Ib l 0 (by decide) h
theorem IE (l:List Int)(y:Int):mk (l++[y])=mk l|||2 ^ y.toNat:=by simp[mk]
theorem vK {l:List Int}{i:Nat}(hi:i<l.length):mk (l.take (i+1))=mk (l.take i)|||2 ^ (l.getD i 0).toNat:=by rw[List.take_add_one,ai hi,ah,ai hi];simp only[Option.toList_some,Option.getD_some];exact IE _ _
def js (f:List Nat)(l:List Int):Nat:=l.foldl (fun m j=>m|||f.getD j.toNat 0) 0
def ou (ls:List Ln)(f:List Nat)(i:Nat):Nat:=js f (nx (ls.getD i .z) i)
def um (x:Ln):Nat:=mk (Ln.us x)
def sm (x:Ln):Nat:=if 0<=Ln.st x then 2 ^ (Ln.st x).toNat else 0
def ic (ls:List Ln)(f:List Nat)(i:Nat):Nat:=um (ls.getD i .z)|||an (ou ls f i) (sm (ls.getD i .z))
theorem jsf (f:List Nat)(l:List Int):∀(m k:Nat),(l.foldl (fun m j=>m|||f.getD j.toNat 0) m).testBit k=(m.testBit k||l.any fun j=>(f.getD j.toNat 0).testBit k):=by
 induction l with
 |nil=>intro m k;simp
 |cons y r ih=>
  intro m k
  rw[List.foldl_cons,ih,Nat.testBit_or,List.any_cons,Bool.or_assoc]
theorem FW (f:List Nat)(l:List Int)(k:Nat):(js f l).testBit k=l.any fun j=>(f.getD j.toNat 0).testBit k:=by unfold js;rw[jsf];simp
theorem BQ {f:List Nat}{l:List Int}{i:Nat}(hi:i<l.length):js f (l.take (i+1))=js f (l.take i)|||f.getD (l.getD i 0).toNat 0:=by rw[List.take_add_one,ai hi,ah (l:=l),ai hi];simp only[js,Option.toList_some,Option.getD_some,List.foldl_append,List.foldl_cons,List.foldl_nil]
theorem qJ {f:List Nat}(hf:∀i,f.getD i 0<2 ^ 40)(l:List Int):js f l<2 ^ 40:=by
 suffices H:∀(l:List Int) m,m<2 ^ 40->l.foldl (fun m j=>m|||f.getD j.toNat 0) m<2 ^ 40 from H l 0 (by decide)
 intro l
 induction l with
 |nil=>intro m h;exact h
 |cons y r ih=>intro m h;exact ih _ (Nat.or_lt_two_pow h (hf _))
theorem Ie {f g:List Nat}(h:∀i,le (f.getD i 0) (g.getD i 0))(l:List Int):le (js f l) (js g l):=le_iff.2 fun k=>by
 rw[FW,FW,List.any_eq_true,List.any_eq_true]
 exact fun⟨y,hy,e⟩=>⟨y,hy,le_iff.1 (h _) k e⟩
theorem kC {ls:List Ln}{f g:List Nat}(h:∀i,le (f.getD i 0) (g.getD i 0))(i:Nat):le (ic ls f i) (ic ls g i):=
 or_mono (le_refl _) (H5 _ (Ie h _))
theorem uX {a b:Nat}(h:a<2 ^ 40):an a b<2 ^ 40:=Nat.xor_lt_two_pow h (Nat.lt_of_le_of_lt Nat.and_le_left h)
theorem JF {x:Ln}(h:Ln.ok x=true):um x<2 ^ 40:=xO (Ln.Fx h)
theorem JR {x:Ln}(h:Ln.ok x=true):sm x<2 ^ 40:=by have:=Ln.Bu h;unfold sm;split;{exact Nat.pow_lt_pow_right (by decide) (by omega)};decide
structure In (ls:List Ln)(f:List Nat):Prop where
 len:f.length=ls.length
 lt:∀i,f.getD i 0<2 ^ 40
 up:∀i,i<ls.length->le (f.getD i 0) (ic ls f i)
theorem EI {ls:List Ln}{f:List Nat}(hok:Ln.isOk ls=true)(hf:∀i,f.getD i 0<2 ^ 40){i:Nat}(hi:i<ls.length):ic ls f i<2 ^ 40:=
 Nat.or_lt_two_pow (JF (Ln.jE hok hi)) (uX (qJ hf _))
theorem ku (f:List Nat)(i j x:Nat):(f.set i x).getD j 0=if i=j/\i<f.length then x else f.getD j 0:=by rw[ah,ah,List.getElem?_set];by_cases h:i=j;{subst h;by_cases h2:i<f.length;{simp[h2]};simp[h2]};simp[h]
theorem Bn (x:Nat):∀(f:List Nat)(i:Nat),i<f.length->(f.set i x).sum+f.getD i 0=f.sum+x
 |[],i,h=>by simp at h
 |y::r,0,h=>by simp only[List.set_cons_zero,List.sum_cons,List.getD_cons_zero];omega
 | y::r,i+1,h=>by
   have:=Bn x r i (by simpa using h)
   simp only[List.set_cons_succ,List.sum_cons,List.getD_cons_succ]
   omega
theorem Aa (m:Nat):∀(f:List Nat),(∀i,f.getD i 0<m)->f.sum<=f.length*m
 |[],_=>by simp
 | y::r,h=>by
   have h1:=h 0
   have h2:=Aa m r fun i=>h (i+1)
   simp only[List.getD_cons_zero]at h1
   simp only[List.sum_cons,List.length_cons,Nat.succ_mul]
   omega
theorem In.set {ls:List Ln}{f:List Nat}(hok:Ln.isOk ls=true)(h:In ls f){i:Nat}(hi:i<ls.length):In ls (f.set i (ic ls f i)):=by have hle:∀j,le (f.getD j 0) ((f.set i (ic ls f i)).getD j 0):=fun j=>by{rw[ku];split;{rename_i e;rw[←e.1];exact h.up i hi};exact le_refl _};refine⟨by rw[List.length_set];exact h.len,fun j=>?_,fun j hj=>?_⟩;{rw[ku];split;{exact EI hok h.lt hi};exact h.lt j};rw[ku];split;{rename_i e;rw[←e.1];exact kC hle i};exact le_trans (h.up j hj) (kC hle j)
theorem In.sum {ls:List Ln}{f:List Nat}(h:In ls f):f.sum<=ls.length*2 ^ 40:=by have:=Aa (2 ^ 40) f h.lt;rwa [h.len]at this
theorem In.more {ls:List Ln}{f:List Nat}(h:In ls f){i:Nat}(hi:i<ls.length)(hne:ic ls f i≠f.getD i 0):f.sum<(f.set i (ic ls f i)).sum:=by have h1:=Bn (ic ls f i) f i (by rw[h.len];exact hi);have h2:=Jy (h.up i hi);omega
def zK (ls:List Ln)(f:List Nat):List Nat:=(List.range ls.length).map (ic ls f)
theorem rU (ls:List Ln)(f:List Nat){i:Nat}(hi:i<ls.length):(zK ls f).getD i 0=ic ls f i:=by unfold zK;rw[ah,List.getElem?_map,List.getElem?_range hi];rfl
theorem BN (ls:List Ln)(f:List Nat){i:Nat}(hi:¬i<ls.length):(zK ls f).getD i 0=0:=by unfold zK;rw[ah,List.getElem?_eq_none (by simp;omega)];rfl
def it (ls:List Ln):Nat->List Nat
 |0=>List.replicate ls.length 0
 |k+1=>zK ls (it ls k)
def VK (n:Nat):Nat:=n*2 ^ 40
theorem KM (n:Nat):VK n=n*2 ^ 40:=rfl
def live (ls:List Ln):List Nat:=it ls (VK ls.length)
theorem wE (ls:List Ln):live ls=it ls (VK ls.length):=by unfold live;rfl
def Fix (ls:List Ln)(f:List Nat):Prop:=∀i,i<ls.length->ic ls f i=f.getD i 0
theorem In.zero (ls:List Ln):In ls (List.replicate ls.length 0):=by have e:∀i,(List.replicate ls.length 0).getD i 0=0:=fun i=>by{rw[ah,List.getElem?_replicate];split<;>rfl};refine⟨by simp,fun i=>by rw[e];decide,fun i _=>by rw[e];exact le_iff.2 fun k hk=>by simp at hk⟩
theorem In.out {ls:List Ln}{f:List Nat}(h:In ls f){i:Nat}(hi:¬i<ls.length):f.getD i 0=0:=by rw[ah,List.getElem?_eq_none (by rw[h.len];omega)];rfl
theorem In.zK {ls:List Ln}{f:List Nat}(hok:Ln.isOk ls=true)(h:In ls f):In ls (zK ls f)/\∀i,le (f.getD i 0) ((Fl.zK ls f).getD i 0):=by have hle:∀j,le (f.getD j 0) ((Fl.zK ls f).getD j 0):=fun j=>by{by_cases hj:j<ls.length;{rw[rU _ _ hj];exact h.up j hj};rw[h.out hj];exact le_iff.2 fun k hk=>by simp at hk};refine⟨⟨by simp[Fl.zK],fun j=>?_,fun j hj=>?_⟩,hle⟩;{by_cases hj:j<ls.length;{rw[rU _ _ hj];exact EI hok h.lt hj};rw[BN _ _ hj];decide};rw[rU _ _ hj];exact kC hle j
theorem In.it {ls:List Ln}(hok:Ln.isOk ls=true):∀k,In ls (it ls k)
 |0=>In.zero ls
 |k+1=>((In.it hok k).zK hok).1
theorem Fs:∀(f g:List Nat),f.length=g.length->(∀i,f.getD i 0<=g.getD i 0)->f≠g->f.sum<g.sum
 |[],[],_,_,h=>absurd rfl h
 |[],y::r,h,_,_=>by simp at h
 |y::r,[],h,_,_=>by simp at h
 | y ::r,z::s,hl,h,hne=>by
   have h0:y<=z:=h 0
   have hr:∀i,r.getD i 0<=s.getD i 0:=fun i=>h (i+1)
   have hl2:r.length=s.length:=by simpa using hl
   simp only[List.sum_cons]
   by_cases e:r=s
   · subst e
     have:y≠z:=fun e=>hne (by rw[e])
     omega
   · have:=Fs r s hl2 hr e
     omega
theorem qo (ls:List Ln)(k:Nat):it ls (k+1)=zK ls (it ls k):=rfl
theorem BX {ls:List Ln}(hok:Ln.isOk ls=true)(k:Nat):it ls (k+1)=it ls k\/(it ls k).sum<(it ls (k+1)).sum:=by by_cases e:it ls (k+1)=it ls k;{exact .inl e};right;have h0:=In.it hok k;have h1:=h0.zK hok;rw[qo]at e ⊢;exact Fs _ _ (by rw[h0.len,h1.1.len]) (fun i=>Jy (h1.2 i)) (fun h=>e h.symm)
theorem KE {ls:List Ln}(hok:Ln.isOk ls=true)(k:Nat):it ls (k+1)=it ls k\/k<(it ls (k+1)).sum:=by
 induction k with
 |zero=>
  rcases BX hok 0 with h|h
  · exact .inl h
  · exact .inr (by omega)
 |succ k ih=>
  rcases BX hok (k+1)with h|h
  · exact .inl h
  · rcases ih with h3|h3;{exact .inl (by rw[qo,h3,←qo,h3])};exact .inr (by omega)
theorem wP {ls:List Ln}(hok:Ln.isOk ls=true):In ls (live ls):=by rw[wE];exact In.it hok _
theorem KJ {ls:List Ln}(hok:Ln.isOk ls=true){n:Nat}(hn:n=ls.length*2 ^ 40):zK ls (it ls n)=it ls n:=by rcases KE hok n with h|h;{exact(qo ls n).symm.trans h};have h2:=(In.it hok (n+1)).sum;omega
theorem FK {ls:List Ln}(hok:Ln.isOk ls=true):zK ls (live ls)=live ls:=by rw[wE];exact KJ hok (KM _)
theorem FP {ls:List Ln}(hok:Ln.isOk ls=true):Fix ls (live ls):=fun i hi=>by
 have:=rU ls (live ls) hi
 rw[FK hok]at this
 exact this.symm
theorem JY {ls:List Ln}{f:List Nat}(hf:Fix ls f):∀k i,le ((it ls k).getD i 0) (f.getD i 0)
 | 0,i=>by
   have e:(it ls 0).getD i 0=0:=by
     show(List.replicate ls.length 0).getD i 0=0
     rw[ah,List.getElem?_replicate]
     split<;>rfl
   rw[e]
   exact le_iff.2 fun k hk=>by simp at hk
 | k +1,i=>by
   show le ((zK ls (it ls k)).getD i 0) _
   by_cases hi:i<ls.length
   · rw[rU _ _ hi,←hf i hi]
     exact kC (JY hf k) i
   · rw[BN _ _ hi]
     exact le_iff.2 fun k hk=>by simp at hk
def Sound (ls:List Ln)(f:List Nat):Prop:=∀i,le (f.getD i 0) ((live ls).getD i 0)
theorem Sound.zero (ls:List Ln):Sound ls (List.replicate ls.length 0):=fun i=>by
 have e:(List.replicate ls.length 0).getD i 0=0:=by
   rw[ah,List.getElem?_replicate]
   split<;>rfl
 rw[e]
 exact le_iff.2 fun k hk=>by simp at hk
theorem Sound.set {ls:List Ln}{f:List Nat}(hok:Ln.isOk ls=true)(h:Sound ls f){i:Nat}(hi:i<ls.length):Sound ls (f.set i (ic ls f i)):=fun j=>by
 rw[ku]
 split
 · rename_i e
   rw[←e.1,←FP hok i hi]
   exact kC h i
 · exact h j
theorem Hq {ls:List Ln}{f:List Nat}(hf:Fix ls f)(i:Nat):le ((live ls).getD i 0) (f.getD i 0):=by rw[wE];exact JY hf _ i
theorem O9:∀(f g:List Nat),f.length=g.length->(∀i,f.getD i 0=g.getD i 0)->f=g
 |[],[],_,_=>rfl
 |[],y::r,h,_=>by simp at h
 |y::r,[],h,_=>by simp at h
 | y::r,z::s,hl,h=>by
   have h0:y=z:=h 0
   rw[h0,O9 r s (by simpa using hl) fun i=>h (i+1)]
theorem yS {ls:List Ln}{f:List Nat}(hok:Ln.isOk ls=true)(h:In ls f)(hs:Sound ls f)(hf:Fix ls f):f=live ls:=
 O9 f (live ls) (h.len.trans (wP hok).len.symm) fun i=>Ig (hs i) (Hq hf i)
def vH (m:Nat):Nat->List Int
 |0=>[]
 |k+1=>if m.testBit k=true then vH m k++[(k:Int)]else vH m k
def mg (m:Nat):List Int:=vH m 40
theorem qw (m:Nat):∀k,(vH m k).length<=k
 |0=>by simp[vH]
 | k+1=>by
   have:=qw m k
   unfold vH
   split
   · simp;omega
   · omega
theorem qj (m:Nat)(y:Int):∀k,y∈vH m k↔0<=y/\y<(k:Int)/\m.testBit y.toNat=true
 |0=>by simp[vH];omega
 | k + 1 =>by
   have ih:=qj m y k
   unfold vH
   by_cases h:m.testBit k=true
   · rw[ay h,List.mem_append,List.mem_singleton,ih]
     constructor
     · rintro(⟨h1,h2,h3⟩|rfl)
       · exact⟨h1,by omega,h3⟩
       · exact⟨by omega,by omega,by simpa using h⟩
     · rintro⟨h1,h2,h3⟩
       by_cases e:y=(k:Int)
       · exact .inr e
       · exact .inl ⟨h1,by omega,h3⟩
   · rw[ax h,ih]
     constructor
     · rintro⟨h1,h2,h3⟩
       exact⟨h1,by omega,h3⟩
     · rintro⟨h1,h2,h3⟩
       by_cases e:y=(k:Int)
       · subst e
         exact absurd (by simpa using h3) h
       · exact⟨h1,by omega,h3⟩
end Fl
end
section
open Go.RowKit
namespace Fl
theorem iT {z n:Int}:∀{xs:List Int},z∈Ln.put xs n↔z=n\/z∈xs
 |[]=>by simp[Ln.put]
 | x ::r=>by
   unfold Ln.put
   split
   · rw[List.mem_cons,iT,List.mem_cons]
     exact⟨fun h=>by rcases h with h|h|h<;>simp[h],fun h=>by rcases h with h|h|h<;>simp[h]⟩
   · split
     · rename_i e
       rw[List.mem_cons,e]
       exact⟨fun h=> .inr h,fun h=>by rcases h with h|h<;>simp[h]⟩
     · exact List.mem_cons
theorem FC {z:Int}(l:List Int):∀acc:List Int,z∈l.foldl Ln.put acc↔z∈l\/z∈acc:=by
 induction l with
 |nil=>intro acc;simp
 |cons x r ih=>
  intro acc
  rw[List.foldl_cons,ih,iT,List.mem_cons]
  exact⟨fun h=>by rcases h with h|h|h<;>simp[h],fun h=>by rcases h with(h|h)|h<;>simp[h]⟩
theorem fZ {z:Int}(l:List Int):z∈Ln.dV l↔z∈l:=by unfold Ln.dV;rw[FC];simp
def wV (l:List Int):Prop:=l.Pairwise (·<·)
theorem mM {n:Int}:∀{xs:List Int},wV xs->wV (Ln.put xs n)
 |[],_=>by simp[Ln.put,wV]
 | x ::r,h=>by
   have h1:=List.pairwise_cons.1 h
   unfold Ln.put
   split
   · rename_i hx
     refine List.pairwise_cons.2 ⟨fun y hy=>?_,mM h1.2⟩
     rcases iT.1 hy with e|e
     · omega
     · exact h1.1 y e
   · split
     · exact h
     · refine List.pairwise_cons.2 ⟨fun y hy=>?_,h⟩
       rcases List.mem_cons.1 hy with e|e
       · omega
       · have:=h1.1 y e
         omega
theorem CF (l:List Int):∀acc,wV acc->wV (l.foldl Ln.put acc):=by
 induction l with
 |nil=>intro acc h;exact h
 |cons x r ih=>intro acc h;exact ih _ (mM h)
theorem lm (l:List Int):wV (Ln.dV l):=CF l [] List.Pairwise.nil
theorem mO:∀{xs ys:List Int},wV xs->wV ys->(∀z,z∈xs↔z∈ys)->xs=ys
 |[],[],_,_,_=>rfl
 |[],y::s,_,_,h=>absurd ((h y).2 (by simp)) (by simp)
 |x::r,[],_,_,h=>absurd ((h x).1 (by simp)) (by simp)
 | x ::r,y::s,hx,hy,h=>by
   have h1:=List.pairwise_cons.1 hx
   have h2:=List.pairwise_cons.1 hy
   have e:x=y:=by
     rcases List.mem_cons.1 ((h x).1 (by simp))with e|e
     · exact e
     · rcases List.mem_cons.1 ((h y).2 (by simp))with e2|e2
       · exact e2.symm
       · have a:=h2.1 x e
         have b:=h1.1 y e2
         omega
   subst e
   have e2:r=s:=mO h1.2 h2.2 fun z=>by
     constructor
     · intro hz
       rcases List.mem_cons.1 ((h z).1 (by simp[hz]))with e|e
       · have:=h1.1 z hz
         omega
       · exact e
     · intro hz
       rcases List.mem_cons.1 ((h z).2 (by simp[hz]))with e|e
       · have:=h2.1 z hz
         omega
       · exact e
   rw[e2]
theorem BK {n:Int}:∀{xs:List Int},(∀y∈xs,y<n)->Ln.put xs n=xs++[n]
 |[],_=>rfl
 | x::r,h=>by
   unfold Ln.put
   rw[ay (h x (by simp)),BK fun y hy=>h y (by simp[hy])]
   rfl
theorem KP {n:Int}{xs:List Int}(h:wV xs)(hn:n∈xs):Ln.put xs n=xs:=
 mO (mM h) h fun z=>by
   rw[iT]
   exact⟨fun h=>h.elim (fun e=>e▸hn) id, .inr⟩
theorem Cx {l l':List Int}(h:∀z,z∈l↔z∈l'):Ln.dV l=Ln.dV l':=
 mO (lm l) (lm l') fun z=>by rw[fZ,fZ];exact h z
theorem nE (l:List Int)(k:Nat):l.toArray[k]! =l.getD k 0:=by by_cases h:k<l.length;{rw[getElem!_pos l.toArray k (by simpa using h),ah,ai h];rfl};rw[getElem!_neg l.toArray k (by simpa using h),ah,List.getElem?_eq_none (by omega)];rfl
theorem qD {l:List Int}{k:Nat}(h:k<l.length):l.getD k 0∈l:=by rw[ah,ai h];exact List.getElem_mem h
theorem nW {l:List Int}{k:Nat}(hk:k<l.length):Ln.dV (l.take (k+1))=Ln.put (Ln.dV (l.take k)) (l.getD k 0):=by rw[List.take_add_one,ai hk,ah,ai hk];simp only[Option.toList_some,Option.getD_some,Ln.nX]
theorem uI (l:List Int)(hs:l.Pairwise (·<=·)):∀m,m<=l.length->Go.Lib.compactUpTo l.toArray m=Ln.dV (l.take m)
 |0,_=>by simp[Go.Lib.compactUpTo,Ln.dV]
 | m + 1,hm=>by
   have hle:∀i j,i<j->j<l.length->l.getD i 0<=l.getD j 0:=fun i j hij hj=>by
     have:=List.pairwise_iff_getElem.1 hs i j (by omega) hj hij
     rw[ah,ah,ai (show i<l.length by omega),ai hj]
     exact this
   rw[Go.Lib.compactUpTo_succ,uI l hs m (by omega),nW (by omega),nE]
   have hmem:∀y,y∈Ln.dV (l.take m)->∃i,i<m/\l.getD i 0=y:=fun y hy=>by
     rw[fZ]at hy
     obtain⟨i,hi,e⟩:=List.getElem_of_mem hy
     rw[List.length_take]at hi
     refine⟨i,by omega,?_⟩
     rw[←e,List.getElem_take,ah,ai (show i<l.length by omega)]
     rfl
   by_cases hk:m=0\/l.getD m 0≠l.getD (m-1) 0
   · have e:Go.Lib.keeps l.toArray m=true:=by
       unfold Go.Lib.keeps
       rw[nE,nE]
       exact decide_eq_true hk
     rw[e,ay rfl,BK]
     intro y hy
     obtain⟨i,hi,rfl⟩:=hmem y hy
     have h1:=hle i m hi (by omega)
     rcases hk with hk|hk
     · omega
     · by_cases e2:i=m-1
       · subst e2
         omega
       · have h2:=hle i (m-1) (by omega) (by omega)
         have h3:=hle (m-1) m (by omega) (by omega)
         omega
   · have e:Go.Lib.keeps l.toArray m=false:=by
       unfold Go.Lib.keeps
       rw[nE,nE]
       exact decide_eq_false hk
     rw[e,KP (lm _)]
     · simp
     · rw[fZ]
       have h1:l.getD m 0=l.getD (m-1) 0:=Classical.byContradiction fun h=>hk (.inr h)
       have h2:m≠0:=fun h=>hk (.inl h)
       rw[h1]
       have h3:m-1<(l.take m).length:=by rw[List.length_take];omega
       have h4:=qD h3
       rwa [ah,List.getElem?_take_of_lt (by omega),←ah]at h4
theorem uY (l:List Int):Go.Lib.compact (l.mergeSort fun x y=>decide (x<=y))=Ln.dV l:=by have hs:(l.mergeSort fun x y=>decide (x<=y)).Pairwise (·<=·):=by{have:=List.pairwise_mergeSort (le:=fun x y:Int=>decide (x<=y)) (fun a b c h1 h2=>by simp at h1 h2 ⊢;omega) (fun a b=>by simp;omega) l;exact this.imp (fun h=>by simpa using h)};unfold Go.Lib.compact;rw[uI _ hs _ (Nat.le_refl _),List.take_length];exact Cx fun z=>List.mem_mergeSort
end Fl
end
section
open Go.RowKit
namespace Fl
theorem Ht {ls:List Ln}(hok:Ln.isOk ls=true){p:Nat}(hp:p<ls.length):Ln.gJ ls.length (ls.getD p .z)=true:=by unfold Ln.isOk at hok;simp only[au,List.all_eq_true]at hok;refine hok.2.1 _ ?_;rw[ah,ai hp];exact List.getElem_mem hp
theorem Im {ls:List Ln}(hok:Ln.isOk ls=true){p:Nat}(hp:p<ls.length)(hk:(ls.getD p .z).k=5\/(ls.getD p .z).k=6):0<=(ls.getD p .z).n/\(ls.getD p .z).n<(ls.length:Int):=by have h:=Ht hok hp;generalize ls.getD p .z=x at h hk ⊢;obtain⟨k,d,a,b,n,l⟩:=x;unfold Ln.gJ at h;simp only[au,Bool.not_eq_true',Bool.and_eq_false_iff,Bool.or_eq_false_iff,decide_eq_false_iff_not]at h;obtain⟨h1,h2⟩:=h;simp only at hk ⊢;have h3:n<(ls.length:Int):=by{rcases h2 with h2|h2;{exact absurd hk (by omega)};omega};refine⟨?_,h3⟩;unfold Ln.ok at h1;rw[au]at h1;have h4:=h1.2;rcases hk with rfl|rfl;{simp[Ln.asks,Wd.bW]at h4;omega};simp[Ln.asks,Wd.bW]at h4;omega
theorem IQ {ls:List Ln}(hok:Ln.isOk ls=true){p:Nat}(hp:p<ls.length)(h5:¬(ls.getD p .z).k=5)(h10:¬((ls.getD p .z).k=10\/(ls.getD p .z).k=11)):p+1<ls.length:=by refine Classical.byContradiction fun h=>?_;have e:p=ls.length-1:=by{omega};unfold Ln.isOk at hok;simp only[au]at hok;have h2:=hok.2.2;unfold Ln.jH at h2;rw[←e]at h2;simp only[Bool.or_eq_true,decide_eq_true_eq]at h2;omega
theorem KZ {y a n:Int}:y∈Ln.put [a] n↔y=a\/y=n:=by unfold Ln.put;split;{simp[Ln.put]};split;{rename_i e;simp[e]};simp;exact or_comm
theorem Jz {ls:List Ln}(hok:Ln.isOk ls=true){p:Nat}(hp:p<ls.length):∀j∈nx (ls.getD p .z) p,0<=j/\j<(ls.length:Int):=by intro j hj;have h1:=Im hok hp;have h2:=IQ hok hp;generalize ls.getD p .z=x at hj h1 h2;unfold nx at hj;split at hj;{rename_i h5;rw[List.mem_singleton]at hj;rw[hj];exact h1 (.inl h5)};rename_i h5;split at hj;{rename_i h6;rcases KZ.1 hj with e|e;{have:=h2 h5 (by omega);omega};rw[e];exact h1 (.inr h6)};split at hj;{simp at hj};rename_i h10;rw[List.mem_singleton]at hj;have:=h2 h5 h10;omega
end Fl
end
section
open Go.RowKit
namespace Fl
def hs (l:List Int)(n:Int):Bool:=l.any fun y=>decide (y=n)
theorem qC {l:List Int}{n:Int}:hs l n=true↔n∈l:=by unfold hs;rw[List.any_eq_true];simp
theorem KQ (m:Nat){b:Nat}(hb:b<40):hs (mg m) (b:Int)=m.testBit b:=by rw[Bool.eq_iff_iff,qC];unfold mg;rw[qj];simp;omega
theorem EP {x:Ln}(hok:Ln.ok x=true)(b:Nat):(sm x).testBit b=decide (Ln.st x=(b:Int)):=by have h:=Ln.Bu hok;unfold sm;split;{rw[Nat.testBit_two_pow];rw[Bool.eq_iff_iff];simp;omega};rw[Nat.zero_testBit];symm;rw[decide_eq_false_iff_not];omega
end Fl
end
section
open Go.RowKit
namespace Sp
structure S where
 b:Int
 f:Int
 t:Int
 c:Bool
def S.z:S:=⟨0,0,0,false⟩
def ha (ls:List Ln)(b i:Nat):Bool:=((Fl.live ls).getD i 0|||Fl.ou ls (Fl.live ls) i).testBit b||decide (Ln.st (ls.getD i .z)=(b:Int))
def cr (ls:List Ln)(b i:Nat):Bool:=decide ((ls.getD i .z).k=7)&&(decide (Ln.st (ls.getD i .z)≠(b:Int))&&(Fl.ou ls (Fl.live ls) i).testBit b)
def ic (ls:List Ln)(b i:Nat)(s:S):S:=if ha ls b i=true then⟨s.b,if s.f<0 then(i:Int)else s.f,(i:Int),s.c||cr ls b i⟩else s
def row (ls:List Ln)(b:Nat):Nat->S
 |0=>⟨(b:Int),-1,0,false⟩
 |i+1=>ic ls b i (row ls b i)
def out (ls:List Ln):Nat->List S
 |0=>[]
 |b+1=>if 0<=(row ls b ls.length).f then out ls b++[row ls b ls.length]else out ls b
def df (ls:List Ln):List S:=if Ln.isOk ls=true then out ls 40 else[]
def bH (x y:S):Bool:=decide (x.f<=y.t)&&(decide (y.f<=x.t)&&(decide (x.f<=x.t)&&decide (y.f<=y.t)))
theorem meet_comm (x y:S):bH x y=bH y x:=by unfold bH;rw[Bool.eq_iff_iff];simp only[au,decide_eq_true_eq];constructor;{rintro⟨h1,h2,h3,h4⟩;exact⟨h2,h1,h4,h3⟩};rintro⟨h1,h2,h3,h4⟩;exact⟨h2,h1,h4,h3⟩
def cnt (l:List S)(i:Int):Nat:=l.countP fun s=>decide (s.f<=i)&&decide (i<=s.t)
def pr (l:List S):Nat->Nat
 |0=>0
 |i+1=>max (pr l i) (cnt l (i:Int))
theorem EJ {ls:List Ln}{b i:Nat}(h:cr ls b i=true):ha ls b i=true:=by unfold cr at h;unfold ha;simp only[au]at h;rw[Nat.testBit_or,h.2.2];simp
structure Told (ls:List Ln)(b k:Nat)(s:S):Prop where
 bx:s.b=(b:Int)
 iP:s.c=(List.range k).any fun i=>cr ls b i
 at_:(s.f=-1/\s.t=0/\∀i,i<k->ha ls b i=false)\/(∃f t:Nat,s.f=(f:Int)/\s.t=(t:Int)/\f<=t/\t<k/\ha ls b f=true/\ha ls b t=true/\∀i,i<k->ha ls b i=true->f<=i/\i<=t)
theorem je (ls:List Ln)(b:Nat):∀k,Told ls b k (row ls b k)
 |0=>⟨rfl,rfl, .inl ⟨rfl,rfl,fun i h=>absurd h (by omega)⟩⟩
 | k + 1 =>by
   have ih:=je ls b k
   show Told ls b (k+1) (ic ls b k (row ls b k))
   unfold ic
   rcases h:ha ls b k with _|_
   · rw[ax (by simp)]
     refine⟨ih.bx,?_,?_⟩
     · rw[ih.iP,List.range_succ,List.any_append]
       have:cr ls b k=false:=by
         rcases e:cr ls b k with _|_
         · rfl
         · rw[EJ e]at h;exact absurd h (by simp)
       simp[this]
     · rcases ih.at_ with⟨h1,h2,h3⟩|⟨f,t,h1,h2,h3,h4,h5,h6,h7⟩
       · exact .inl ⟨h1,h2,fun i hi=>by
           by_cases e:i=k
           · rw[e];exact h
           · exact h3 i (by omega)⟩
       · exact .inr ⟨f,t,h1,h2,h3,by omega,h5,h6,fun i hi hb=>by
           by_cases e:i=k
           · rw[e,h]at hb;exact absurd hb (by simp)
           · exact h7 i (by omega) hb⟩
   · rw[ay rfl]
     refine⟨ih.bx,?_,?_⟩
     · rw[List.range_succ,List.any_append,←ih.iP]
       simp
     · rcases ih.at_ with⟨h1,h2,h3⟩|⟨f,t,h1,h2,h3,h4,h5,h6,h7⟩
       · refine .inr ⟨k,k,?_,rfl,Nat.le_refl _,by omega,h,h,fun i hi hb=>?_⟩
         · show(if(row ls b k).f<0 then(k:Int)else(row ls b k).f)=(k:Int)
           rw[ay (by omega)]
         · by_cases e:i=k
           · omega
           · rw[h3 i (by omega)]at hb;exact absurd hb (by simp)
       · refine .inr ⟨f,k,?_,rfl,by omega,by omega,h5,h,fun i hi hb=>?_⟩
         · show(if(row ls b k).f<0 then(k:Int)else(row ls b k).f)=(f:Int)
           rw[ax (by omega),h1]
         · by_cases e:i=k
           · omega
           · have:=h7 i (by omega) hb
             omega
theorem qp {ls:List Ln}{s:S}:∀{m:Nat},s∈out ls m->∃b,b<m/\s=row ls b ls.length/\0<=s.f
 |0,h=>by simp[out]at h
 | m + 1,h=>by
   unfold out at h
   split at h
   · rename_i hf
     rcases List.mem_append.1 h with h|h
     · obtain⟨b,h1,h2⟩:=qp h
       exact⟨b,by omega,h2⟩
     · have e:s=row ls m ls.length:=by simpa using h
       exact⟨m,by omega,e,by rw[e];exact hf⟩
   · obtain⟨b,h1,h2⟩:=qp h
     exact⟨b,by omega,h2⟩
theorem vJ (ls:List Ln):∀m,(out ls m).length<=m
 |0=>by simp[out]
 | m+1=>by
   have:=vJ ls m
   unfold out
   split
   · rw[List.length_append];simp;omega
   · omega
theorem yE (ls:List Ln):∀m,(out ls m).Pairwise fun x y=>x.b<y.b
 |0=>by simp[out]
 | m +1=>by
   have ih:=yE ls m
   unfold out
   split
   · rw[List.pairwise_append]
     refine⟨ih,by simp,fun x hx y hy=>?_⟩
     obtain⟨b,h1,h2,-⟩:=qp hx
     have e:y=row ls m ls.length:=by simpa using hy
     rw[e,h2,(je ls b _).bx,(je ls m _).bx]
     omega
   · exact ih
structure Is (ls:List Ln)(s:S)(b f t:Nat):Prop where
 b40:b<40
 bx:s.b=(b:Int)
 fr:s.f=(f:Int)
 to:s.t=(t:Int)
 le:f<=t
 lt:t<ls.length
 hf:ha ls b f=true
 ht:ha ls b t=true
 all:∀i,i<ls.length->ha ls b i=true->f<=i/\i<=t
 iP:s.c=(List.range ls.length).any fun i=>cr ls b i
theorem Cb {ls:List Ln}{s:S}(h:s∈out ls 40):∃b f t,Is ls s b f t:=by obtain⟨b,h1,rfl,h2⟩:=qp h;have hT:=je ls b ls.length;rcases hT.at_ with⟨h3,-⟩|⟨f,t,e1,e2,h3,h4,h5,h6,h7⟩;{omega};exact⟨b,f,t,h1,hT.bx,e1,e2,h3,h4,h5,h6,h7,hT.iP⟩
end Sp
end
section
open Go.RowKit
set_option linter.unusedSimpArgs false
namespace Hm
open Sp
theorem jN {o:List Nat}{j:Nat}(h:j<o.length):o.getD j 0=o[j]:=by rw[ah,ai h];rfl
def pos (l:List S)(f:Int):List Nat->Nat
 |[]=>0
 |k::r=>if(l.getD k .z).f<=f then pos l f r+1 else 0
def ins (l:List S)(o:List Nat)(i:Nat):List Nat:=o.take (pos l (l.getD i .z).f o)++i::o.drop (pos l (l.getD i .z).f o)
def ord (l:List S):Nat->List Nat
 |0=>[]
 |i+1=>ins l (ord l i) i
theorem wL (l:List S)(f:Int):∀o,pos l f o<=o.length
 |[]=>Nat.le_refl _
 | k::r=>by
   have:=wL l f r
   unfold pos
   split
   · simp only[List.length_cons];omega
   · omega
theorem Ab {l:List S}{f:Int}:∀{o:List Nat}{j:Nat},j<pos l f o->(l.getD (o.getD j 0) .z).f<=f
 |[],j,h=>by unfold pos at h;omega
 | k ::r,j,h=>by
   unfold pos at h
   split at h
   · rename_i hk
     cases j with
     |zero=>exact hk
     |succ j=>exact Ab (o:=r) (by omega)
   · omega
theorem pos_at {l:List S}{f:Int}:∀{o:List Nat},pos l f o<o.length->¬(l.getD (o.getD (pos l f o) 0) .z).f<=f
 |[],h=>by simp at h
 | k ::r,h=>by
   unfold pos at h ⊢
   split
   · rename_i hk
     rw[ay hk]at h
     exact pos_at (o:=r) (by simpa using h)
   · rename_i hk
     exact hk
theorem Ij {l:List S}{o:List Nat}{i k:Nat}:k∈ins l o i↔k=i\/k∈o:=by unfold ins;generalize pos l (l.getD i .z).f o=p;rw[List.mem_append,List.mem_cons];(conv=>rhs;rw[←List.take_append_drop p o,List.mem_append]);constructor;{rintro(h|h|h);{exact .inr (.inl h)};{exact .inl h};exact .inr (.inr h)};rintro(h|h|h);{exact .inr (.inl h)};{exact .inl h};exact .inr (.inr h)
theorem fP {l:List S}{k:Nat}:∀{m:Nat},k∈ord l m↔k<m
 |0=>by simp[ord]
 | m+1=>by
   show k∈ins l (ord l m) m↔_
   rw[Ij,fP]
   omega
theorem IB (l:List S)(o:List Nat)(i:Nat):(ins l o i).length=o.length+1:=by have:=wL l (l.getD i .z).f o;unfold ins;rw[List.length_append,List.length_take,List.length_cons,List.length_drop];omega
theorem dC (l:List S):∀m,(ord l m).length=m
 |0=>rfl
 | m+1=>by
   show(ins l (ord l m) m).length=_
   rw[IB,dC]
def GY (l:List S)(a b:Nat):Prop:=(l.getD a .z).f<(l.getD b .z).f\/(l.getD a .z).f=(l.getD b .z).f/\a<b
theorem rF (l:List S):∀m,(ord l m).Pairwise (GY l)
 |0=>List.Pairwise.nil
 | m + 1=>by
   have ih:=rF l m
   show(ins l (ord l m) m).Pairwise (GY l)
   have hlt:∀k∈ord l m,k<m:=fun k h=>fP.1 h
   unfold ins
   generalize ho:ord l m=o at ih hlt
   have hp:=wL l (l.getD m .z).f o
   have h1:=@Ab l (l.getD m .z).f o
   have h2:=@pos_at l (l.getD m .z).f o
   generalize hpp:pos l (l.getD m .z).f o=p at hp h1 h2
   have ha:∀x∈o.take p,GY l x m:=by
     intro x hx
     obtain⟨j,hj,e⟩:=List.getElem_of_mem hx
     rw[List.length_take]at hj
     rw[List.getElem_take]at e
     have h3:=h1 (j:=j) (by omega)
     rw[jN (show j<o.length by omega),e]at h3
     have h4:=hlt x (List.mem_of_mem_take hx)
     unfold GY
     omega
   have hd:∀x∈o.drop p,(l.getD m .z).f<(l.getD x .z).f:=by
     intro x hx
     obtain⟨j,hj,e⟩:=List.getElem_of_mem hx
     rw[List.length_drop]at hj
     rw[List.getElem_drop]at e
     have h3:=h2 (by omega)
     rw[jN (show p<o.length by omega)]at h3
     by_cases hj0:j=0
     · subst hj0
       simp only[Nat.add_zero]at e
       rw[e]at h3
       omega
     · have h4:=List.pairwise_iff_getElem.1 ih p (p+j) (by omega) (by omega) (by omega)
       rw[e]at h4
       unfold GY at h4
       omega
   rw[List.pairwise_append]
   refine⟨ih.sublist (List.take_sublist _ _),List.pairwise_cons.2 ⟨fun x hx=> .inl (hd x hx),ih.sublist (List.drop_sublist _ _)⟩,fun a ha' b hb=>?_⟩
   rcases List.mem_cons.1 hb with rfl|hb
   · exact ha a ha'
   · have h5:=ha a ha'
     have h6:=hd b hb
     unfold GY at h5 ⊢
     omega
end Hm
end
section
open Go.RowKit
set_option linter.unusedSimpArgs false
namespace Hm
open Sp
def hold (l:List S)(h:List Int)(i:Nat)(sh:Int):Nat->Int
 |0=>-1
 |m+1=>if h.getD m 0=sh/\bH (l.getD m .z) (l.getD i .z)=true then(m:Int)else hold l h i sh m
def late (l:List S)(k j:Nat):Bool:=decide ((l.getD j .z).t<(l.getD k .z).t)||(decide ((l.getD k .z).t=(l.getD j .z).t)&&decide ((l.getD j .z).b<(l.getD k .z).b))
def go (l:List S)(h:List Int)(i:Nat):Nat->Int->Nat->Option Int×Nat
 |0,sh,last=>(none,last)
 |n+1,sh,last=>if hold l h i sh l.length<0 then(some sh,last)else go l h i n (sh+1) (if late l (hold l h i sh l.length).toNat last=true then(hold l h i sh l.length).toNat else last)
def put (l:List S)(h:List Int)(i:Nat):List Int:=
 if(l.getD i .z).c=true then h.set i (-2)
 else match go l h i 5 0 i with
   |(some sh,_)=>h.set i sh
   |(none,last)=>if last≠i then(h.set i (h.getD last 0)).set last (-2)else h.set i (-2)
def run (l:List S):Nat->List Int
 |0=>List.replicate l.length (-1)
 |n+1=>put l (run l n) ((ord l l.length).getD n 0)
theorem qg {l:List S}{h:List Int}{i:Nat}{sh:Int}:∀{m:Nat},hold l h i sh m<0->∀k,k<m->h.getD k 0=sh->bH (l.getD k .z) (l.getD i .z)=false
 |0,_,k,hk,_=>absurd hk (by omega)
 | m + 1,hn,k,hk,e=>by
   unfold hold at hn
   split at hn
   · omega
   · rename_i hx
     by_cases hkm:k=m
     · subst hkm
       rcases hb:bH (l.getD k .z) (l.getD i .z)with _|_
       · rfl
       · exact absurd ⟨e,hb⟩ hx
     · exact qg hn k (by omega) e
theorem kD {l:List S}{h:List Int}{i:Nat}{sh:Int}:∀{m:Nat},¬hold l h i sh m<0->(hold l h i sh m).toNat<m/\h.getD (hold l h i sh m).toNat 0=sh/\bH (l.getD (hold l h i sh m).toNat .z) (l.getD i .z)=true
 |0,hn=>by unfold hold at hn;exact absurd (by decide) hn
 | m +1,hn=>by
   unfold hold at hn ⊢
   split
   · rename_i hx
     rw[az]
     exact⟨by omega,hx.1,hx.2⟩
   · rename_i hx
     rw[ax hx]at hn
     obtain⟨h1,h2,h3⟩:=kD hn
     exact⟨by omega,h2,h3⟩
theorem lu {l:List S}{h:List Int}{i:Nat}{x:Int}{z:Nat}:∀{n:Nat}{sh:Int}{last:Nat},go l h i n sh last=(some x,z)->sh<=x/\x<sh+n/\hold l h i x l.length<0
 |0,sh,last,hg=>by simp[go]at hg
 | n +1,sh,last,hg=>by
   unfold go at hg
   split at hg
   · rename_i hx
     simp only[Prod.mk.injEq,af]at hg
     obtain⟨rfl,-⟩:=hg
     exact⟨by omega,by omega,hx⟩
   · obtain⟨h1,h2,h3⟩:=lu hg
     exact⟨by omega,by omega,h3⟩
theorem nA {l:List S}{h:List Int}{i:Nat}{z:Nat}:∀{n:Nat}{sh:Int}{last:Nat},go l h i n sh last=(none,z)->(∀y,sh<=y->y<sh+n->¬hold l h i y l.length<0)/\(z=last\/∃y,sh<=y/\y<sh+n/\z=(hold l h i y l.length).toNat)
 | 0,sh,last,hg=>by
   simp only[go,Prod.mk.injEq,true_and]at hg
   exact⟨fun y h1 h2=>by omega, .inl hg.symm⟩
 | n + 1,sh,last,hg=>by
   unfold go at hg
   split at hg
   · simp at hg
   · rename_i hx
     obtain⟨h1,h2⟩:=nA hg
     refine⟨fun y hy1 hy2=>?_,?_⟩
     · by_cases e:y=sh
       · rw[e];exact hx
       · exact h1 y (by omega) (by omega)
     · rcases h2 with rfl|⟨y,h3,h4,h5⟩
       · split
         · exact .inr ⟨sh,by omega,by omega,rfl⟩
         · exact .inl rfl
       · exact .inr ⟨y,by omega,by omega,h5⟩
def dn (l:List S)(n k:Nat):Prop:=∃j,j<n/\j<l.length/\(ord l l.length).getD j 0=k
theorem kT {l:List S}{n k:Nat}(h:dn l n k):k<l.length:=by obtain⟨j,h1,h2,rfl⟩:=h;rw[jN (by rw[dC];exact h2)];exact fP.1 (List.getElem_mem _)
theorem Bi {l:List S}{j n:Nat}(h:j<n)(hn:n<l.length):GY l ((ord l l.length).getD j 0) ((ord l l.length).getD n 0):=by rw[jN (by rw[dC];omega),jN (by rw[dC];exact hn)];exact List.pairwise_iff_getElem.1 (rF l l.length) j n _ _ h
theorem zU {l:List S}{n:Nat}(hn:n<l.length):¬dn l n ((ord l l.length).getD n 0):=by rintro⟨j,h1,h2,e⟩;have:=Bi h1 hn;rw[e]at this;unfold GY at this;omega
theorem Ak {l:List S}{n k:Nat}(hn:n<l.length)(h:dn l n k):(l.getD k .z).f<=(l.getD ((ord l l.length).getD n 0) .z).f:=by obtain⟨j,h1,h2,rfl⟩:=h;have:=Bi h1 hn;unfold GY at this;omega
theorem Bp {l:List S}{n k:Nat}(hn:n<l.length):dn l (n+1) k↔dn l n k\/k=(ord l l.length).getD n 0:=by constructor;{rintro⟨j,h1,h2,e⟩;by_cases hj:j=n;{subst hj;exact .inr e.symm};exact .inl ⟨j,by omega,h2,e⟩};rintro(⟨j,h1,h2,e⟩|rfl);{exact⟨j,by omega,h2,e⟩};exact⟨n,by omega,hn,rfl⟩
theorem FQ {l:List S}{k:Nat}(hk:k<l.length):dn l l.length k:=by obtain⟨j,hj,e⟩:=List.getElem_of_mem ((fP (l:=l)).2 hk);rw[dC]at hj;exact⟨j,hj,hj,by rw[jN (by rw[dC];exact hj)];exact e⟩
structure Inv (l:List S)(n:Nat)(h:List Int):Prop where
 len:h.length=l.length
 un:∀k,k<l.length->¬dn l n k->h.getD k 0=-1
 val:∀k,dn l n k->h.getD k 0=-2\/0<=h.getD k 0/\h.getD k 0<=4/\(l.getD k .z).c=false
 apart:∀j k,j<l.length->k<l.length->j≠k->h.getD j 0=h.getD k 0->0<=h.getD j 0->bH (l.getD j .z) (l.getD k .z)=false
theorem bQ (h:List Int)(i k:Nat)(x:Int)(hi:i<h.length):(h.set i x).getD k 0=if i=k then x else h.getD k 0:=by rw[ah,List.getElem?_set];by_cases e:i=k;{rw[ay e,ay hi,ay e];rfl};rw[ax e,ax e,←ah]
theorem Df {x y z:S}(h1:bH x z=true)(h2:bH y z=true)(hx:x.f<=z.f)(hy:y.f<=z.f):bH x y=true:=by unfold bH at h1 h2 ⊢;simp only[au,decide_eq_true_eq]at h1 h2 ⊢;omega
theorem Inv.zero (l:List S):Inv l 0 (run l 0):=by have e:∀k,k<l.length->(run l 0).getD k 0=-1:=fun k hk=>by{show(List.replicate l.length (-1:Int)).getD k 0=-1;rw[ah,List.getElem?_replicate,ay hk];rfl};refine⟨by simp[run],fun k hk _=>e k hk,?_,fun j k hj hk _ _ h0=>?_⟩;{rintro k ⟨j,h1,-⟩;omega};rw[e j hj]at h0;omega
theorem Inv.next {l:List S}{n:Nat}{h:List Int}(hI:Inv l n h)(hn:n<l.length):Inv l (n+1) (put l h ((ord l l.length).getD n 0)):=by have hnew:=zU hn;have hbef:=fun k hk=>Ak (k:=k) hn hk;have hsucc:=fun k=>Bp (k:=k) hn;have hil:(ord l l.length).getD n 0<l.length:=kT ⟨n,Nat.lt_succ_self n,hn,rfl⟩;generalize(ord l l.length).getD n 0=i at hnew hbef hsucc hil;have hih:i<h.length:=by{rw[hI.len];exact hil};have hi1:=hI.un i hil hnew;have hdn:∀k,k<l.length->0<=h.getD k 0->dn l n k:=fun k hk h0=>by{refine Classical.byContradiction fun hc=>?_;have:=hI.un k hk hc;omega};have dR:Inv l (n+1) (h.set i (-2)):=by{refine⟨by rw[List.length_set];exact hI.len,fun k hk hc=>?_,fun k hk=>?_,fun j k hj hk hne e h0=>?_⟩;{have h1:¬dn l n k:=fun h=>hc ((hsucc k).2 (.inl h));have h2:i≠k:=fun h=>hc ((hsucc k).2 (.inr h.symm));rw[bQ h i k _ hih,ax h2];exact hI.un k hk h1};{rw[bQ h i k _ hih];split;{exact .inl rfl};rename_i hik;rcases(hsucc k).1 hk with h1|h1;{exact hI.val k h1};exact absurd h1.symm hik};rw[bQ h i _ _ hih]at e h0;rw[bQ h i _ _ hih]at e;split at h0;{omega};rename_i hij;rw[ax hij]at e;split at e;{omega};exact hI.apart j k hj hk hne e h0};unfold put;split;{exact dR};rename_i hc;have hcf:(l.getD i .z).c=false:=by{simpa using hc};split;{rename_i sh z hg;obtain⟨h1,h2,h3⟩:=lu hg;have hno:=qg h3;refine⟨by rw[List.length_set];exact hI.len,fun k hk hcc=>?_,fun k hk=>?_,fun j k hj hk hne e h0=>?_⟩;{have h4:¬dn l n k:=fun h=>hcc ((hsucc k).2 (.inl h));have h5:i≠k:=fun h=>hcc ((hsucc k).2 (.inr h.symm));rw[bQ h i k _ hih,ax h5];exact hI.un k hk h4};{rw[bQ h i k _ hih];split;{rename_i hik;subst hik;exact .inr ⟨h1,by omega,hcf⟩};rename_i hik;rcases(hsucc k).1 hk with h4|h4;{exact hI.val k h4};exact absurd h4.symm hik};rw[bQ h i _ _ hih]at e h0;rw[bQ h i _ _ hih]at e;by_cases hij:i=j;{subst hij;rw[ay rfl,ax hne]at e;rw[meet_comm];exact hno k hk e.symm};rw[ax hij]at e h0;by_cases hik:i=k;{subst hik;rw[ay rfl]at e;exact hno j hj e};rw[ax hik]at e;exact hI.apart j k hj hk hne e h0};rename_i z hg;obtain⟨h1,h2⟩:=nA hg;split;{rename_i hzi;rcases h2 with rfl|⟨y,hy1,hy2,rfl⟩;{exact absurd rfl hzi};obtain⟨hz1,hz2,hz3⟩:=kD (h1 y hy1 hy2);generalize(hold l h i y l.length).toNat=z at hz1 hz2 hz3 hzi;rw[hz2];have hs:∀k,((h.set i y).set z (-2)).getD k 0=if z=k then -2 else if i=k then y else h.getD k 0:=fun k=>by{rw[bQ _ z k _ (by rw[List.length_set,hI.len];exact hz1),bQ h i k _ hih]};have hzd:=hdn z hz1 (by omega);refine⟨by rw[List.length_set,List.length_set];exact hI.len,fun k hk hcc=>?_,fun k hk=>?_,fun j k hj hk hne e h0=>?_⟩;{have h4:¬dn l n k:=fun h=>hcc ((hsucc k).2 (.inl h));have h5:i≠k:=fun h=>hcc ((hsucc k).2 (.inr h.symm));have h6:z≠k:=fun e=>h4 (e▸hzd);rw[hs,ax h6,ax h5];exact hI.un k hk h4};{rw[hs];split;{exact .inl rfl};split;{rename_i hik;subst hik;exact .inr ⟨by omega,by omega,hcf⟩};rename_i hik;rcases(hsucc k).1 hk with h4|h4;{exact hI.val k h4};exact absurd h4.symm hik};rw[hs]at e h0;rw[hs]at e;have key:∀k,k<l.length->k≠z->h.getD k 0=y->bH (l.getD k .z) (l.getD i .z)=false:=by{intro k hk hkz hky;rcases hm:bH (l.getD k .z) (l.getD i .z)with _|_;{rfl};exfalso;have h7:=Df hm hz3 (hbef k (hdn k hk (by omega))) (hbef z hzd);have h8:=hI.apart k z hk hz1 hkz (by rw[hky,hz2]) (by omega);rw[h7]at h8;cases h8};by_cases hzj:z=j;{rw[ay hzj]at h0;omega};rw[ax hzj]at e h0;by_cases I1:z=k;{rw[ay I1]at e;rw[e]at h0;omega};rw[ax I1]at e;by_cases hij:i=j;{subst hij;rw[ay rfl,ax hne]at e;rw[meet_comm];exact key k hk (fun h=>I1 h.symm) e.symm};rw[ax hij]at e h0;by_cases hik:i=k;{subst hik;rw[ay rfl]at e;exact key j hj (fun h=>hzj h.symm) e};rw[ax hik]at e;exact hI.apart j k hj hk hne e h0};exact dR
theorem Inv.run (l:List S):∀n,n<=l.length->Inv l n (Hm.run l n)
 |0,_=>Inv.zero l
 |n+1,h=>(Inv.run l n (by omega)).next (by omega)
end Hm
end
def aW (l:List Sp.S):List Value:=l.flatMap fun s=>[.int .i64 s.b, .int .i64 s.f, .int .i64 s.t, .bool s.c]
theorem ik (s:Sp.S)(l:List Sp.S):aW (s::l)= .int .i64 s.b:: .int .i64 s.f:: .int .i64 s.t:: .bool s.c::aW l:=rfl
theorem jI (l m:List Sp.S):aW (l++m)=aW l++aW m:=by simp[aW]
theorem gP (l:List Sp.S):(aW l).length=l.length*4:=by
 induction l with
 |nil=>rfl
 |cons s l ih=>rw[ik];simp only[List.length_cons,ih];omega
theorem fK:∀(l:List Sp.S)(j:Nat),j<l.length->(aW l)[j*4]?=some (.int .i64 (l.getD j .z).b)/\(aW l)[j*4+1]?=some (.int .i64 (l.getD j .z).f)/\(aW l)[j*4+2]?=some (.int .i64 (l.getD j .z).t)/\(aW l)[j*4+3]?=some (.bool (l.getD j .z).c)
 |[],j,h=>by simp at h
 |s::l,0,h=>⟨rfl,rfl,rfl,rfl⟩
 | s::l,j+1,h=>by
   have ih:=fK l j (by simpa using h)
   have e:(s::l).getD (j+1) .z=l.getD j .z:=rfl
   rw[e,ik]
   refine⟨?_,?_,?_,?_⟩
   · rw[show(j+1)*4=j*4+1+1+1+1 by omega];simp only[List.getElem?_cons_succ];exact ih.1
   · rw[show(j+1)*4+1=j*4+1+1+1+1+1 by omega];simp only[List.getElem?_cons_succ];exact ih.2.1
   · rw[show(j+1)*4+2=j*4+2+1+1+1+1 by omega];simp only[List.getElem?_cons_succ];exact ih.2.2.1
   · rw[show(j+1)*4+3=j*4+3+1+1+1+1 by omega];simp only[List.getElem?_cons_succ];exact ih.2.2.2
def SG (W:World)(n₀ g n c:Nat)(l:List Sp.S):Prop:=l.length=n/\W.ownsRow n₀ 45 4 (.slice (some ⟨g,0,none⟩) n c) n (aW l)
theorem SG.lt {W:World}{n₀ g n c:Nat}{l:List Sp.S}(h:SG W n₀ g n c l):n₀<=g/\g<W.heap.size:=World.ownsRow.lt h.2 g rfl
theorem SG.cap {W:World}{n₀ g n c:Nat}{l:List Sp.S}(h:SG W n₀ g n c l):n<=c/\c<=maxLen:=by rcases h.2.2 with⟨e,-⟩|⟨g',cap,cur,e,hb,hc,hn,hm,-⟩;{cases e};cases e;exact⟨hn,hm⟩
theorem SG.cell {W:World}{n₀ g n c:Nat}{l:List Sp.S}(h:SG W n₀ g n c l){j:Nat}(hj:j<n):W.cell? ⟨g,j*4,none⟩=some (.int .i64 (l.getD j .z).b)/\W.cell? ⟨g,j*4+1,none⟩=some (.int .i64 (l.getD j .z).f)/\W.cell? ⟨g,j*4+2,none⟩=some (.int .i64 (l.getD j .z).t)/\W.cell? ⟨g,j*4+3,none⟩=some (.bool (l.getD j .z).c):=by have hc:=World.ownsRow.cells h.2 (g:=g) rfl;(have hadd:∀k,(⟨g,0,none⟩:Addr).add k=⟨g,k,none⟩:=fun k=>by unfold Addr.add;split<;>simp_all);obtain⟨h0,h1,h2,h3⟩:=fK l j (by rw[h.1];exact hj);refine⟨?_,?_,?_,?_⟩;{rw[←hadd];exact hc _ _ h0};{rw[←hadd];exact hc _ _ h1};{rw[←hadd];exact hc _ _ h2};rw[←hadd];exact hc _ _ h3
theorem SG.kept {W W':World}{n₀ g n c:Nat}{l:List Sp.S}(h:SG W n₀ g n c l)(hB:Below W.heap.size W W'):SG W' n₀ g n c l:=⟨h.1,aH h.2 hB⟩
theorem SG.bS {W W':World}{n₀ g n c b:Nat}{l:List Sp.S}(h:SG W n₀ g n c l)(hg:W.grownBy W' (some b))(hne:g≠b):SG W' n₀ g n c l:=by refine⟨h.1,World.ownsRow.kept h.2 hg (.inr ?_)⟩;simp only[Value.ownBlock,ne_eq,af];omega
theorem SG.mono {W:World}{n₀ n₁ g n c:Nat}{l:List Sp.S}(h:SG W n₁ g n c l)(hn:n₀<=n₁):SG W n₀ g n c l:=by refine⟨h.1,h.2.1,?_⟩;rcases h.2.2 with⟨e,-⟩|⟨g',cap,cur,e,hb,r⟩;{cases e};exact .inr ⟨g',cap,cur,e,by omega,r⟩
theorem SG.empty (W:World)(n₀:Nat)(hn:n₀<=W.heap.size):SG (W.alloc (.cells #[] 45)) n₀ W.heap.size 0 0 []:=
 ⟨rfl,rfl, .inr ⟨W.heap.size,0,#[],rfl,hn,World.alloc_heap_new W _,Nat.le_refl _,by simp[maxLen],rfl,rfl⟩⟩
theorem uA:(Tryz.prog.info? 45).map (fun i=>(i.zero,i.size,i.bytes))=some (some (.agg #[.int .i64 0, .int .i64 0, .int .i64 0, .bool false]),4,32):=by kernel_rfl
theorem mi (w:World)(x0 x1 x2 x3:Value)(t:TypeId):∀j u,[x0,x1,x2,x3][j]?=some u->(w.alloc (.cells #[x0,x1,x2,x3] t)).cell? ((⟨w.heap.size,0,none⟩:Addr).add j)=some u:=by
 intro j u hj
 match j,hj with
 |0,hj=>simp at hj;subst hj;simp[Addr.add]
 |1,hj=>simp at hj;subst hj;simp[Addr.add]
 |2,hj=>simp at hj;subst hj;simp[Addr.add]
 |3,hj=>simp at hj;subst hj;simp[Addr.add]
theorem y9 {ops:Array Oper}{rest:List Oper}{o:Oper}{a:Act}{Q:Exit->Act->World->Prop}(W:World)(hgd:o.guard=none)(s x:Operand)(ho:o.op= .call {callee:= .builtin .append,args:=#[s,x],argTypes:=#[38,38]})(n₀ g n c:Nat)(l:List Sp.S)(hs:a.eval s= .slice (some ⟨g,0,none⟩) n c)(hown:SG W n₀ g n c l)(sb:Nat)(y:Sp.S)(hx:a.eval x= .slice (some ⟨sb,0,none⟩) 1 1)(hy:∀j u,[Value.int .i64 y.b, .int .i64 y.f, .int .i64 y.t, .bool y.c][j]?=some u->W.cell? ((⟨sb,0,none⟩:Addr).add j)=some u)(hsz:n<=1000)(hbase:n₀<=W.heap.size)(h:∀g' c' N W',Hid (N=n+1)->SG W' n₀ g' N c' (l++[y])->W.grownBy W' (some g)->wpList Tryz.prog ops Q rest (a.put o.dst (.slice (some ⟨g',0,none⟩) N c')) W'):wpList Tryz.prog ops Q (o::rest) a W:=by obtain⟨i0,hi,hz0,hz1,hz2⟩:=info_parts uA;refine wpList_append_own W hgd s x 38 ho n₀ 45 i0 (.agg #[.int .i64 0, .int .i64 0, .int .i64 0, .bool false]) 4 32 Tryz.underlying38 hi hz0 hz1 hz2 rfl (by decide) _ n (aW l) hs hown.2 ⟨sb,0,none⟩ 1 1 [.int .i64 y.b, .int .i64 y.f, .int .i64 y.t, .bool y.c] hx rfl hy (fun u hu=>?_) (by simp only[maxLen];omega) (by omega) hbase (fun v' W' hown' hgrow hnn=>?_);{simp only[List.mem_cons,List.not_mem_nil,or_false]at hu;rcases hu with rfl|rfl|rfl|rfl<;>rfl};rcases hown'.2 with⟨rfl,h0⟩|⟨g',cap',cur,rfl,r⟩;{exact absurd (hnn.1 rfl).1 (fun e=>by cases e)};refine h g' cap' (n+1) W' rfl ⟨by rw[List.length_append,hown.1];rfl,?_⟩ hgrow;have e:aW (l++[y])=aW l++[.int .i64 y.b, .int .i64 y.f, .int .i64 y.t, .bool y.c]:=by{rw[jI];rfl};rw[e];exact hown'
end Go.Proofs.YthamlonlgnjljaaGreat
