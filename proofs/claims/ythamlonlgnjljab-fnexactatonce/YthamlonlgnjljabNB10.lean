/-
  Own texts for a law: Mp7 MvI Low0 Low1 LinM
-/
import Derived.Test.YthamlonlgnjljabNB07
import Derived.Test.YthamlonlgnjljabNB09
import Derived.Lib.SliceRun
import Derived.OwnWalk
import Derived.WalkMore
import Derived.Scope
namespace Go.Proofs.Ythamlonlgnjljab
open Go.RowKit Go.Shelf
set_option linter.all false
set_option maxRecDepth 100000
set_option maxHeartbeats 16000000
section
set_option linter.unusedSimpArgs false
theorem LG.row {W:World}{n₀ n c:Nat}{a:Option Addr}{l:List Mv.M}(h:LG W n₀ a n c l):W.ownsRow n₀ 36 2 (.slice a n c) n (gI l):=by rcases h with⟨rfl,rfl,rfl,rfl⟩|⟨g,rfl,hm⟩;{exact⟨rfl, .inl ⟨rfl,rfl⟩⟩};exact hm.2
end
section
set_option linter.unusedSimpArgs false
theorem jV {a:Option Addr}{n:Nat}{xs:List Int}{w:World}(hs:IL w a n xs){ad:Addr}(e:a=some ad)(W:World)(hB:Below w.heap.size w W):∀j u,(xs.map iv)[j]?=some u->W.cell? (ad.add j)=some u:=by intro j u hu;have hl:=hs.1;have hj:j<n:=by{have:=(List.getElem?_eq_some_iff.1 hu).1;rwa [List.length_map,hl]at this};obtain⟨-,-,h3|⟨b',off',e2,hb,hx⟩⟩:=hs;{omega};rw[e]at e2;simp only[ae]at e2;subst e2;rw[eU (by rw[hl];exact hj)]at hu;cases hu;(have hadd:(⟨b',off',none⟩:Addr).add j=⟨b',off'+j,none⟩:=by unfold Addr.add;split<;>simp_all);rw[hadd];exact(hB.cell (p:=⟨b',off'+j,none⟩) hb).trans (hx j hj)
theorem fF (a:Option Addr)(len cap:Nat)(l:List Mv.M)(b:Option Addr)(n bc:Nat)(xs:List Int)(w:World)(hs:ML w a len l)(hcap:len<=cap)(hx:IL w b n xs):Calls Try.prog 8 #[.slice a len cap, .slice b n bc] w fun e w'=>∃g m c,e= .returned (.slice (some ⟨g,0,none⟩) m c)/\OG w' w.heap.size g m c (Mv.aC l xs)/\Below w.heap.size w w':=by have hcon:=fe a len cap l w hs hcap;have HX:=aa hx;have hmx:=hx.2.1;have nQ:=hs.2.1;unfold maxLen at hmx nQ;have H8:Hid (Mv.isOk l=true->len<=8):=fun h=>by{rw[←hs.1];exact(Mv.dJ h).len};have gu:Hid (¬(Mv.isOk l=true/\n=len)->Mv.aC l xs=[]):=fun h=>by{unfold Mv.aC;rw[aj (by rw[hs.1,hx.1];exact h)]};have bU:Hid (Mv.isOk l=true/\n=len->Mv.aC l xs=xs):=fun h=>by{unfold Mv.aC;rw[ak (by rw[hs.1,hx.1];exact h)]};generalize Mv.aC l xs=o at gu bU ⊢;generalize Mv.isOk l=q at hcon gu bU H8;clear hs hx;go_enter Try.func8,Try.ntmps8;go_wp2_with fail;refine hcon.mono ?_;rintro e w1 ⟨rfl,hB1⟩;dsimp only;have ek:=hB1.size;have hal:=aO w1 (.cells #[] 2);have HF:=aa (And.intro (OG.empty w1 w.heap.size ek) (hB1.trans (hal.mono ek)));cases q;{have HZ:=aa (gu.out (fun h=>by cases h.1));clear gu bU hB1 H8 hcon hal;go_wp2;go_ret;exact⟨_,0,0,rfl,by rw[HZ.out];exact HF.out.1,HF.out.2⟩};by_cases hnl:n=len;{have HZ:=aa (bU.out ⟨rfl,hnl⟩);have h8:=H8.out rfl;have hq:((len:Int) !=(n:Int))=false:=by{simp[hnl]};have HB:=aa hB1;obtain⟨i0,hi,hz0,hz1,hz2⟩:=info_parts bR;rcases b with _|ad;{obtain rfl:n=0:=by{obtain⟨-,-,h3|⟨b',off',e,-⟩⟩:=HX.out;{exact h3};cases e};have hxs:xs=[]:=List.eq_nil_of_length_eq_zero HX.out.1;rw[hxs]at HZ;have HRR:Hid (∀(x:World)(ty:TypeId)(g:Nat),(Builtin.append_ #[23,23] ty #[.slice (some ⟨g,0,none⟩) 0 0, .slice none 0 bc]).run Try.prog x= .ok (.slice (some ⟨g,0,none⟩) 0 0) x):=fun x ty g=>bE x _ _ _ i0 Try.underlying23 hi _ _ _;subst hnl;clear gu bU hB1 H8 hcon hal;go_wp2_with(at_builtin;refine Lib.wpList_append_run _ rfl _ _ _ _ rfl _ _ rfl rfl _ _ (HRR.out _ _ _) ?_);go_ret;exact⟨_,0,0,rfl,by rw[HZ.out];exact HF.out.1,HF.out.2⟩};have HN:Hid (∀j u,(xs.map iv)[j]?=some u->(w1.alloc (.cells #[] 2)).cell? (ad.add j)=some u):=jV HX.out rfl _ HF.out.2;have HL:=aa HX.out.1;have hsz:w.heap.size<=(w1.alloc (.cells #[] 2)).heap.size:=HF.out.2.size;have tZ:w.heap.size<=w1.heap.size:=ek;subst hnl;clear gu bU hB1 H8 hcon hal;go_wp2_with(at_builtin;refine wpList_append_own _ rfl _ _ 23 rfl w.heap.size 2 i0 (.int .i64 0) 1 8 Try.underlying23 hi hz0 hz1 hz2 rfl (by decide) _ _ _ rfl HF.out.1.2 ad n bc (xs.map iv) rfl (by rw[List.length_map,HL.out,Nat.mul_one]) HN.out jS (by simp only[maxLen];omega) (by omega) hsz ?_;intro v' wA hown' hgrow hnn);go_ret;rcases hown'.2 with⟨rfl,h0⟩|⟨g',cap',cur,rfl,_⟩;{exact absurd (hnn.1 rfl).1 (fun h=>by cases h)};have e:0+n=n:=by{omega};refine⟨g',n,cap',congrArg (fun m=>Ending.returned (.slice (some ⟨g',0,none⟩) m cap')) e,?_,?_⟩;{rw[HZ.out];refine⟨HL.out,?_⟩;simpa using hown'};exact HF.out.2.grown hgrow hsz (fun j ej=>by cases ej;exact ek)};have HZ:=aa (gu.out (fun h=>hnl h.2));have hq:((len:Int) !=(n:Int))=true:=by{simp;omega};clear gu bU hB1 H8 hnl hcon hal;go_wp2;go_ret;exact⟨_,0,0,rfl,by rw[HZ.out];exact HF.out.1,HF.out.2⟩
end
namespace Lw
open Hg (arg)
def wd (f:Fn):Int:=f.a+f.l
def bx (f:Fn)(h:Int):Int:=wd f+h
def qg (f:Fn)(E H:List Int)(at':Nat)(dp:Int):Int×Int×Int:=
 if dp.toNat<(av.df f.b E at' at').length then
   let t:=((av.df f.b E at' at').getD dp.toNat (-1)).toNat
   if av.op f.b t=9 then((t:Int)+1,0,0)else if av.op f.b t=10 then(av.ax E t,bx f (H.getD t 0-1),arg f.b t)else(av.ax E t,bx f (H.getD t 0),arg f.b t)
 else((f.b.length:Int)-1,bx f 0,f.g)
def args (t:Int)(n:Int):List Int:=(List.range n.toNat).map fun(i:Nat)=>t-n+1+(i:Int)
def ik (fs:List Fn)(f:Fn)(E O H:List Int)(at':Nat)(p a t:Int):List (Ln×Int):=
 if p=1 then[(⟨1,t+1,0,0,a,[]⟩,-1)]
 else if p=2 then[(⟨2,t+1,a,0,0,[]⟩,-1)]
 else if p=3\/p=4 then[(⟨2,a,t,0,0,[]⟩,-1)]
 else if p=5 then[(⟨3,t-1,t-1,t,a,[]⟩,-1)]
 else if p=6 then[(⟨4,t,t,0,0,[]⟩,-1)]
 else if p=10 then[(⟨4,t,t,0,0,[]⟩,-1),(⟨6,0,t,0,0,[]⟩,if 0<=av.ax O at' then av.ax O at'+1 else av.ax E at')]
 else if p=11 then[(⟨5,0,0,0,0,[]⟩,av.ax E at')]
 else if p=13\/p=15 then
   let L:=qg f E H at' (if p=15 then 99 else a)
   (if L.2.2=1/\L.2.1≠t then[(⟨2,L.2.1,t,0,0,[]⟩,-1)]else[])++[(⟨5,0,0,0,0,[]⟩,L.1)]
 else if p=14 then
   let L:=qg f E H at' a
   if L.2.2=1/\L.2.1≠t-1 then[(⟨4,t,t,0,0,[]⟩,-1),(⟨6,0,t,0,0,[]⟩,(at':Int)+1),(⟨2,L.2.1,t-1,0,0,[]⟩,-1),(⟨5,0,0,0,0,[]⟩,L.1)]
   else[(⟨6,0,t,0,0,[]⟩,L.1)]
 else if p=16 then
   let g:=fs.getD a.toNat .z
   [(⟨7,if g.g=1 then t-g.a+1 else wd f+20,0,0,a,args t g.a⟩,-1)]
 else if p=17 then[(⟨8,t,t,0,a,[]⟩,-1)]
 else if p=18 then[(⟨9,0,t-1,t,a,[]⟩,-1)]
 else if p=19 then[(⟨11,0,0,0,0,[]⟩,-1)]
 else[]
def step (fs:List Fn)(f:Fn)(E O H:List Int)(at':Nat):List (Ln×Int):=ik fs f E O H at' (av.op f.b at') (arg f.b at') (bx f (H.getD at' 0-1))
def first(f:Fn):List (Ln×Int):=(List.range f.l.toNat).map fun(i:Nat)=>(⟨1,f.a+(i:Int),0,0,0,[]⟩,-1)
def jB (fs:List Fn)(f:Fn)(E O H:List Int):Nat->List (Ln×Int)×List Int
 |0=>(first f,[])
 |i+1=>((jB fs f E O H i).1++(if 0<=H.getD i 0 then step fs f E O H i else[]),(jB fs f E O H i).2++[((jB fs f E O H i).1.length:Int)])
def last (f:Fn):List (Ln×Int):=if f.g=0 then[(⟨1,wd f+20,0,0,0,[]⟩,-1),(⟨10,0,wd f+20,0,0,[]⟩,-1)]else[(⟨10,0,wd f,0,0,[]⟩,-1)]
def raw (fs:List Fn)(f:Fn)(E O H:List Int):List (Ln×Int):=(jB fs f E O H f.b.length).1++last f
def mU (fs:List Fn)(f:Fn)(E O H:List Int):List Int:=(jB fs f E O H f.b.length).2
def sM (st:List Int)(x:Ln×Int):Ln:=if 0<=x.2 then{x.1 with n:=st.getD x.2.toNat 0}else x.1
def func (fs:List Fn)(f:Fn)(E O H:List Int):List Ln:=if(raw fs f E O H).length<=300 then(raw fs f E O H).map (sM (mU fs f E O H))else[]
end Lw
structure LX where
 B:Nat
 ha:Option Addr
 hc:Nat
 ea:Option Addr
 ec:Nat
 ba:Option Addr
 bc:Nat
 fs:List Fn
 f:Fn
 E:List Int
 O:List Int
 H:List Int
def LX.oN (c:LX)(v vg:Value):List Value:=
 [v,vg, .int .i64 (Lw.wd c.f), .slice c.ha c.f.b.length c.hc, .slice c.ea c.f.b.length c.ec, .slice c.ba c.f.b.length c.bc, .int .i64 c.f.g]
structure FX (c:LX)(v vg v' pE:Value)(W W':World):Prop where
 os:W'.os=W.os
 tape:W'.tape=W.tape
 out:W'.output=W.output
 size:W.heap.size<=W'.heap.size
 blk:∀i,i<W.heap.size->i≠c.B->v.ownBlock≠some i->vg.ownBlock≠some i->W'.heap[i]?=W.heap[i]?
 v1:v'.ownBlock=v.ownBlock\/∃g,v'.ownBlock=some g/\W.heap.size<=g
 g1:pE.ownBlock=vg.ownBlock\/∃g,pE.ownBlock=some g/\W.heap.size<=g
theorem FX.refl (c:LX)(v vg:Value)(W:World):FX c v vg v vg W W:=⟨rfl,rfl,rfl,Nat.le_refl _,fun _ _ _ _ _=>rfl, .inl rfl, .inl rfl⟩
theorem FX.trans {c:LX}{v vg v' pE v2 rY:Value}{W W' W2:World}(h:FX c v vg v' pE W W')(k:FX c v' pE v2 rY W' W2):FX c v vg v2 rY W W2:=by refine⟨k.os.trans h.os,k.tape.trans h.tape,k.out.trans h.out,Nat.le_trans h.size k.size,fun i hi hB hv hg=>?_,?_,?_⟩;{refine(k.blk i (ah hi h.size) hB ?_ ?_).trans (h.blk i hi hB hv hg);{rcases h.v1 with e|⟨g,e,hge⟩;{rw[e];exact hv};rw[e];simp only[ne_eq,ae];omega};rcases h.g1 with e|⟨g,e,hge⟩;{rw[e];exact hg};rw[e];simp only[ne_eq,ae];omega};{rcases k.v1 with e|⟨g,e,hge⟩;{rw[e];exact h.v1};exact .inr ⟨g,e,Nat.le_trans h.size hge⟩};rcases k.g1 with e|⟨g,e,hge⟩;{rw[e];exact h.g1};exact .inr ⟨g,e,Nat.le_trans h.size hge⟩
theorem FX.below {c:LX}{v vg:Value}{W W':World}(h:Below W.heap.size W W'):FX c v vg v vg W W':=⟨h.os,h.tape,h.output,h.size,fun i hi _ _ _=>h.block i hi, .inl rfl, .inl rfl⟩
theorem kR {W W':World}{n₀ e k n:Nat}{u:Value}{xs:List Value}{row:Option Nat}(h:W.ownsRow n₀ e k u n xs)(hg:W.grownBy W' row)(hne:∀g,u.ownBlock=some g->row≠some g):W'.ownsRow n₀ e k u n xs:=by refine⟨h.1,?_⟩;rcases h.2 with h'|⟨g',cap',cur,h',h1,h2,r⟩;{exact .inl h'};exact .inr ⟨g',cap',cur,h',h1,(hg.block g' (Array.getElem?_eq_some_iff.1 h2).1 (fun e=>hne g' (by rw[h'];rfl) e.symm)).trans h2,r⟩
theorem di.cB {W W':World}{n₀ k:Nat}{vs:List Lv}{fs:List Ln}{row:Option Nat}(h:di W n₀ k vs fs)(hg:W.grownBy W' row)(hne:∀j,j<k->∀g,(vs.getD j ng).2.2.2.2.2.ownBlock=some g->row≠some g):di W' n₀ k vs fs:=fun j hj=>by
 obtain⟨h0,h1,h2,h3,h4,h5⟩:=h j hj
 exact⟨h0,h1,h2,h3,h4,kR h5 hg (hne j hj)⟩
theorem gy {ys:List Int}{n:Nat}{k0:Int}(hl:ys.length=n)(h:∀j,j<n->ys.getD j 0=k0+(j:Int)):ys=(List.range n).map fun(j:Nat)=>k0+(j:Int):=by apply List.ext_getElem;{rw[hl];simp};intro j h1 h2;have:=h j (by omega);rw[af,ag h1]at this;simpa using this
def eQ (k0:Int)(n:Nat):List Int:=(List.range n).map fun(j:Nat)=>k0+(j:Int)
theorem gH (k0:Int)(n:Nat):(eQ k0 n).length=n:=by simp[eQ]
theorem dP (n₀:Nat)(v:Value)(xs:List Int)(k0:Int)(h0:1<=k0)(h1:k0<=1000000000)(hn:xs.length<=2000000)(w:World)(hs:OI w n₀ v xs):Calls Try.prog 12 #[v, .int .i64 k0] w fun e w'=>e= .returned (.int .i64 (k0+(xs.length:Int)))/\OI w' n₀ v (eQ k0 xs.length)/\w.grownBy w' v.ownBlock:=by obtain⟨a,cap,rfl,-⟩:=hs.slice;obtain⟨n,hln⟩:∃n,xs.length=n:=⟨_,rfl⟩;have hgg:w.grownBy w (Value.slice a n cap).ownBlock:=World.grownBy.refl _ _;unfold OI at hs ⊢;rw[gH];rw[hln]at hs hn ⊢;go_enter Try.func12,Try.ntmps12;go_wp2;go_loopw [1,5] (fun m i wr=>∃(k:Nat)(ys:List Int),m= .int .i64 (k0+(k:Int))/\i= .int .i64 k/\k<=n/\ys.length=n/\(∀j,j<k->ys.getD j 0=k0+(j:Int))/\wr.ownsRow n₀ 2 1 (.slice a n cap) n (ys.map iv)/\w.grownBy wr (Value.slice a n cap).ownBlock) (fun _ i _=>n-(intOf i).toNat);(case atStart=>exact⟨0,xs,by congr 1;omega,rfl,Nat.zero_le _,hln,by simp,hs,hgg⟩);case round=>obtain⟨k,ys,rfl,rfl,hk,hyl,hys,hown,hg⟩:=hrel;have HY:Hid (ys.length=n/\∀j,j<k->ys.getD j 0=k0+(j:Int)):=⟨hyl,hys⟩;clear hs hgg;by_cases hlt:k<n;{rcases hown.2 with⟨h',h0⟩|⟨g,cap',cur,h',_⟩;{omega};cases h';have hc0:=hown.cellAt k (by omega);rw[List.getElem?_map,ag (by omega)]at hc0;simp only[Option.map_some,iv]at hc0;obtain⟨p',hp'⟩:∃x,ys[k]=x:=⟨_,rfl⟩;rw[hp']at hc0;have hf0:=hown.frozenAt k;have aY:=hown.stored k (.int .i64 (k0+(k:Int)));rw[←aH ys k]at aY;have HST:=aa aY.1;have HG:=aa (az hg aY.2);clear hyl hys hp' aY hown hg;go_wp2;go_roundw;(case rel=>obtain⟨hyl,hys⟩:=HY.out;refine⟨k+1,ys.set k (k0+(k:Int)),by congr 1<;>omega,by simp,by omega,by simp[hyl],fun j hj=>?_,HST.out,HG.out⟩;by_cases e:j=k;{subst e;rw[af,List.getElem?_set_self (by omega)];rfl};rw[←hys j (by omega),af,List.getElem?_set_ne (by omega),←af]);case measure=>simp[intOf];omega};have hke:k=n:=by{omega};subst hke;clear hyl hys;have HOW:=aa (And.intro hown hg);clear hown hg;go_wp2;go_ret;obtain⟨hyl,hys⟩:=HY.out;have e:ys=eQ k0 k:=gy hyl hys;rw[←e];exact⟨rfl,HOW.out.1,HOW.out.2⟩
end Go.Proofs.Ythamlonlgnjljab
