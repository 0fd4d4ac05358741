/-
  Own texts for a law: Hm1 Sp1 Sp2 Hs1 Hm2 Hm3 Fs1 Fs3 Lin4 Fs4 RowsB BoxL
-/
import Derived.Test.YtpipjiinmhopmaaGreatMA03
import Derived.Deep.LoopGhost
import Derived.Deep.RegionLaw
namespace Go.Proofs.YtpipjiinmhopmaaGreat
open Go.RowKit Go.Shelf
set_option linter.all false
set_option maxRecDepth 100000
set_option maxHeartbeats 16000000
section
open Go.RowKit
set_option linter.unusedSimpArgs false
namespace Hm
open Sp
def hold (l:List S)(h:List Int)(i:Nat)(sh:Int):Nat->Int
 |0=>-1
 |m+1=>if h.getD m 0=sh/\bH (l.getD m .z) (l.getD i .z)=true then(m:Int)else hold l h i sh m
def late (l:List S)(k j:Nat):Bool:=decide ((l.getD j .z).t<(l.getD k .z).t)||(decide ((l.getD k .z).t=(l.getD j .z).t)&&decide ((l.getD j .z).b<(l.getD k .z).b))
def go (l:List S)(h:List Int)(i:Nat):Nat->Int->Nat->Option Int×Nat
 |0,sh,last=>(none,last)
 |n+1,sh,last=>if hold l h i sh l.length<0 then(some sh,last)else go l h i n (sh+1) (if late l (hold l h i sh l.length).toNat last=true then(hold l h i sh l.length).toNat else last)
def put (l:List S)(h:List Int)(i:Nat):List Int:=
 if(l.getD i .z).c=true then h.set i (-2)
 else match go l h i 5 0 i with
   |(some sh,_)=>h.set i sh
   |(none,last)=>if last≠i then(h.set i (h.getD last 0)).set last (-2)else h.set i (-2)
def run (l:List S):Nat->List Int
 |0=>List.replicate l.length (-1)
 |n+1=>put l (run l n) ((ord l l.length).getD n 0)
theorem sO {l:List S}{h:List Int}{i:Nat}{sh:Int}:∀{m:Nat},hold l h i sh m<0->∀k,k<m->h.getD k 0=sh->bH (l.getD k .z) (l.getD i .z)=false
 |0,_,k,hk,_=>absurd hk (by omega)
 | m + 1,hn,k,hk,e=>by
   unfold hold at hn
   split at hn
   · omega
   · rename_i hx
     by_cases hkm:k=m
     · subst hkm
       rcases hb:bH (l.getD k .z) (l.getD i .z)with _|_
       · rfl
       · exact absurd ⟨e,hb⟩ hx
     · exact sO hn k (by omega) e
theorem kg {l:List S}{h:List Int}{i:Nat}{sh:Int}:∀{m:Nat},¬hold l h i sh m<0->(hold l h i sh m).toNat<m/\h.getD (hold l h i sh m).toNat 0=sh/\bH (l.getD (hold l h i sh m).toNat .z) (l.getD i .z)=true
 |0,hn=>by unfold hold at hn;exact absurd (by decide) hn
 | m +1,hn=>by
   unfold hold at hn ⊢
   split
   · rename_i hx
     rw[az]
     exact⟨by omega,hx.1,hx.2⟩
   · rename_i hx
     rw[ax hx]at hn
     obtain⟨h1,h2,h3⟩:=kg hn
     exact⟨by omega,h2,h3⟩
theorem kQ {l:List S}{h:List Int}{i:Nat}{x:Int}{z:Nat}:∀{n:Nat}{sh:Int}{last:Nat},go l h i n sh last=(some x,z)->sh<=x/\x<sh+n/\hold l h i x l.length<0
 |0,sh,last,hg=>by simp[go]at hg
 | n +1,sh,last,hg=>by
   unfold go at hg
   split at hg
   · rename_i hx
     simp only[Prod.mk.injEq,af]at hg
     obtain⟨rfl,-⟩:=hg
     exact⟨by omega,by omega,hx⟩
   · obtain⟨h1,h2,h3⟩:=kQ hg
     exact⟨by omega,by omega,h3⟩
theorem mY {l:List S}{h:List Int}{i:Nat}{z:Nat}:∀{n:Nat}{sh:Int}{last:Nat},go l h i n sh last=(none,z)->(∀y,sh<=y->y<sh+n->¬hold l h i y l.length<0)/\(z=last\/∃y,sh<=y/\y<sh+n/\z=(hold l h i y l.length).toNat)
 | 0,sh,last,hg=>by
   simp only[go,Prod.mk.injEq,true_and]at hg
   exact⟨fun y h1 h2=>by omega, .inl hg.symm⟩
 | n + 1,sh,last,hg=>by
   unfold go at hg
   split at hg
   · simp at hg
   · rename_i hx
     obtain⟨h1,h2⟩:=mY hg
     refine⟨fun y hy1 hy2=>?_,?_⟩
     · by_cases e:y=sh
       · rw[e];exact hx
       · exact h1 y (by omega) (by omega)
     · rcases h2 with rfl|⟨y,h3,h4,h5⟩
       · split
         · exact .inr ⟨sh,by omega,by omega,rfl⟩
         · exact .inl rfl
       · exact .inr ⟨y,by omega,by omega,h5⟩
def dn (l:List S)(n k:Nat):Prop:=∃j,j<n/\j<l.length/\(ord l l.length).getD j 0=k
theorem kU {l:List S}{n k:Nat}(h:dn l n k):k<l.length:=by obtain⟨j,h1,h2,rfl⟩:=h;rw[kD (by rw[dF];exact h2)];exact gK.1 (List.getElem_mem _)
theorem Es {l:List S}{j n:Nat}(h:j<n)(hn:n<l.length):Ky l ((ord l l.length).getD j 0) ((ord l l.length).getD n 0):=by rw[kD (by rw[dF];omega),kD (by rw[dF];exact hn)];exact List.pairwise_iff_getElem.1 (uC l l.length) j n _ _ h
theorem yl {l:List S}{n:Nat}(hn:n<l.length):¬dn l n ((ord l l.length).getD n 0):=by rintro⟨j,h1,h2,e⟩;have:=Es h1 hn;rw[e]at this;unfold Ky at this;omega
theorem zA {l:List S}{n k:Nat}(hn:n<l.length)(h:dn l n k):(l.getD k .z).f<=(l.getD ((ord l l.length).getD n 0) .z).f:=by obtain⟨j,h1,h2,rfl⟩:=h;have:=Es h1 hn;unfold Ky at this;omega
theorem Eu {l:List S}{n k:Nat}(hn:n<l.length):dn l (n+1) k↔dn l n k\/k=(ord l l.length).getD n 0:=by constructor;{rintro⟨j,h1,h2,e⟩;by_cases hj:j=n;{subst hj;exact .inr e.symm};exact .inl ⟨j,by omega,h2,e⟩};rintro(⟨j,h1,h2,e⟩|rfl);{exact⟨j,by omega,h2,e⟩};exact⟨n,by omega,hn,rfl⟩
theorem zL {l:List S}{k:Nat}(hk:k<l.length):dn l l.length k:=by obtain⟨j,hj,e⟩:=List.getElem_of_mem ((gK (l:=l)).2 hk);rw[dF]at hj;exact⟨j,hj,hj,by rw[kD (by rw[dF];exact hj)];exact e⟩
structure Inv (l:List S)(n:Nat)(h:List Int):Prop where
 len:h.length=l.length
 un:∀k,k<l.length->¬dn l n k->h.getD k 0=-1
 val:∀k,dn l n k->h.getD k 0=-2\/0<=h.getD k 0/\h.getD k 0<=4/\(l.getD k .z).c=false
 apart:∀j k,j<l.length->k<l.length->j≠k->h.getD j 0=h.getD k 0->0<=h.getD j 0->bH (l.getD j .z) (l.getD k .z)=false
theorem bS (h:List Int)(i k:Nat)(x:Int)(hi:i<h.length):(h.set i x).getD k 0=if i=k then x else h.getD k 0:=by rw[ah,List.getElem?_set];by_cases e:i=k;{rw[ay e,ay hi,ay e];rfl};rw[ax e,ax e,←ah]
theorem Gm {x y z:S}(h1:bH x z=true)(h2:bH y z=true)(hx:x.f<=z.f)(hy:y.f<=z.f):bH x y=true:=by unfold bH at h1 h2 ⊢;simp only[au,decide_eq_true_eq]at h1 h2 ⊢;omega
theorem Inv.zero (l:List S):Inv l 0 (run l 0):=by have e:∀k,k<l.length->(run l 0).getD k 0=-1:=fun k hk=>by{show(List.replicate l.length (-1:Int)).getD k 0=-1;rw[ah,List.getElem?_replicate,ay hk];rfl};refine⟨by simp[run],fun k hk _=>e k hk,?_,fun j k hj hk _ _ h0=>?_⟩;{rintro k ⟨j,h1,-⟩;omega};rw[e j hj]at h0;omega
theorem Inv.next {l:List S}{n:Nat}{h:List Int}(hI:Inv l n h)(hn:n<l.length):Inv l (n+1) (put l h ((ord l l.length).getD n 0)):=by have hnew:=yl hn;have hbef:=fun k hk=>zA (k:=k) hn hk;have hsucc:=fun k=>Eu (k:=k) hn;have hil:(ord l l.length).getD n 0<l.length:=kU ⟨n,Nat.lt_succ_self n,hn,rfl⟩;generalize(ord l l.length).getD n 0=i at hnew hbef hsucc hil;have hih:i<h.length:=by{rw[hI.len];exact hil};have hi1:=hI.un i hil hnew;have hdn:∀k,k<l.length->0<=h.getD k 0->dn l n k:=fun k hk h0=>by{refine Classical.byContradiction fun hc=>?_;have:=hI.un k hk hc;omega};have dZ:Inv l (n+1) (h.set i (-2)):=by{refine⟨by rw[List.length_set];exact hI.len,fun k hk hc=>?_,fun k hk=>?_,fun j k hj hk hne e h0=>?_⟩;{have h1:¬dn l n k:=fun h=>hc ((hsucc k).2 (.inl h));have h2:i≠k:=fun h=>hc ((hsucc k).2 (.inr h.symm));rw[bS h i k _ hih,ax h2];exact hI.un k hk h1};{rw[bS h i k _ hih];split;{exact .inl rfl};rename_i hik;rcases(hsucc k).1 hk with h1|h1;{exact hI.val k h1};exact absurd h1.symm hik};rw[bS h i _ _ hih]at e h0;rw[bS h i _ _ hih]at e;split at h0;{omega};rename_i hij;rw[ax hij]at e;split at e;{omega};exact hI.apart j k hj hk hne e h0};unfold put;split;{exact dZ};rename_i hc;have hcf:(l.getD i .z).c=false:=by{simpa using hc};split;{rename_i sh z hg;obtain⟨h1,h2,h3⟩:=kQ hg;have hno:=sO h3;refine⟨by rw[List.length_set];exact hI.len,fun k hk hcc=>?_,fun k hk=>?_,fun j k hj hk hne e h0=>?_⟩;{have h4:¬dn l n k:=fun h=>hcc ((hsucc k).2 (.inl h));have h5:i≠k:=fun h=>hcc ((hsucc k).2 (.inr h.symm));rw[bS h i k _ hih,ax h5];exact hI.un k hk h4};{rw[bS h i k _ hih];split;{rename_i hik;subst hik;exact .inr ⟨h1,by omega,hcf⟩};rename_i hik;rcases(hsucc k).1 hk with h4|h4;{exact hI.val k h4};exact absurd h4.symm hik};rw[bS h i _ _ hih]at e h0;rw[bS h i _ _ hih]at e;by_cases hij:i=j;{subst hij;rw[ay rfl,ax hne]at e;rw[meet_comm];exact hno k hk e.symm};rw[ax hij]at e h0;by_cases hik:i=k;{subst hik;rw[ay rfl]at e;exact hno j hj e};rw[ax hik]at e;exact hI.apart j k hj hk hne e h0};rename_i z hg;obtain⟨h1,h2⟩:=mY hg;split;{rename_i hzi;rcases h2 with rfl|⟨y,hy1,hy2,rfl⟩;{exact absurd rfl hzi};obtain⟨hz1,hz2,hz3⟩:=kg (h1 y hy1 hy2);generalize(hold l h i y l.length).toNat=z at hz1 hz2 hz3 hzi;rw[hz2];have hs:∀k,((h.set i y).set z (-2)).getD k 0=if z=k then -2 else if i=k then y else h.getD k 0:=fun k=>by{rw[bS _ z k _ (by rw[List.length_set,hI.len];exact hz1),bS h i k _ hih]};have hzd:=hdn z hz1 (by omega);refine⟨by rw[List.length_set,List.length_set];exact hI.len,fun k hk hcc=>?_,fun k hk=>?_,fun j k hj hk hne e h0=>?_⟩;{have h4:¬dn l n k:=fun h=>hcc ((hsucc k).2 (.inl h));have h5:i≠k:=fun h=>hcc ((hsucc k).2 (.inr h.symm));have h6:z≠k:=fun e=>h4 (e▸hzd);rw[hs,ax h6,ax h5];exact hI.un k hk h4};{rw[hs];split;{exact .inl rfl};split;{rename_i hik;subst hik;exact .inr ⟨by omega,by omega,hcf⟩};rename_i hik;rcases(hsucc k).1 hk with h4|h4;{exact hI.val k h4};exact absurd h4.symm hik};rw[hs]at e h0;rw[hs]at e;have key:∀k,k<l.length->k≠z->h.getD k 0=y->bH (l.getD k .z) (l.getD i .z)=false:=by{intro k hk hkz hky;rcases hm:bH (l.getD k .z) (l.getD i .z)with _|_;{rfl};exfalso;have h7:=Gm hm hz3 (hbef k (hdn k hk (by omega))) (hbef z hzd);have h8:=hI.apart k z hk hz1 hkz (by rw[hky,hz2]) (by omega);rw[h7]at h8;cases h8};by_cases hzj:z=j;{rw[ay hzj]at h0;omega};rw[ax hzj]at e h0;by_cases MF:z=k;{rw[ay MF]at e;rw[e]at h0;omega};rw[ax MF]at e;by_cases hij:i=j;{subst hij;rw[ay rfl,ax hne]at e;rw[meet_comm];exact key k hk (fun h=>MF h.symm) e.symm};rw[ax hij]at e h0;by_cases hik:i=k;{subst hik;rw[ay rfl]at e;exact key j hj (fun h=>hzj h.symm) e};rw[ax hik]at e;exact hI.apart j k hj hk hne e h0};exact dZ
theorem Inv.run (l:List S):∀n,n<=l.length->Inv l n (Hm.run l n)
 |0,_=>Inv.zero l
 |n+1,h=>(Inv.run l n (by omega)).next (by omega)
end Hm
end
def aY (l:List Sp.S):List Value:=l.flatMap fun s=>[.int .i64 s.b, .int .i64 s.f, .int .i64 s.t, .bool s.c]
theorem iY (s:Sp.S)(l:List Sp.S):aY (s::l)= .int .i64 s.b:: .int .i64 s.f:: .int .i64 s.t:: .bool s.c::aY l:=rfl
theorem kH (l m:List Sp.S):aY (l++m)=aY l++aY m:=by simp[aY]
theorem iw (l:List Sp.S):(aY l).length=l.length*4:=by
 induction l with
 |nil=>rfl
 |cons s l ih=>rw[iY];simp only[List.length_cons,ih];omega
theorem gm:∀(l:List Sp.S)(j:Nat),j<l.length->(aY l)[j*4]?=some (.int .i64 (l.getD j .z).b)/\(aY l)[j*4+1]?=some (.int .i64 (l.getD j .z).f)/\(aY l)[j*4+2]?=some (.int .i64 (l.getD j .z).t)/\(aY l)[j*4+3]?=some (.bool (l.getD j .z).c)
 |[],j,h=>by simp at h
 |s::l,0,h=>⟨rfl,rfl,rfl,rfl⟩
 | s::l,j+1,h=>by
   have ih:=gm l j (by simpa using h)
   have e:(s::l).getD (j+1) .z=l.getD j .z:=rfl
   rw[e,iY]
   refine⟨?_,?_,?_,?_⟩
   · rw[show(j+1)*4=j*4+1+1+1+1 by omega];simp only[List.getElem?_cons_succ];exact ih.1
   · rw[show(j+1)*4+1=j*4+1+1+1+1+1 by omega];simp only[List.getElem?_cons_succ];exact ih.2.1
   · rw[show(j+1)*4+2=j*4+2+1+1+1+1 by omega];simp only[List.getElem?_cons_succ];exact ih.2.2.1
   · rw[show(j+1)*4+3=j*4+3+1+1+1+1 by omega];simp only[List.getElem?_cons_succ];exact ih.2.2.2
def SG (W:World)(n₀ g n c:Nat)(l:List Sp.S):Prop:=l.length=n/\W.ownsRow n₀ 39 4 (.slice (some ⟨g,0,none⟩) n c) n (aY l)
theorem SG.lt {W:World}{n₀ g n c:Nat}{l:List Sp.S}(h:SG W n₀ g n c l):n₀<=g/\g<W.heap.size:=World.ownsRow.lt h.2 g rfl
theorem SG.cap {W:World}{n₀ g n c:Nat}{l:List Sp.S}(h:SG W n₀ g n c l):n<=c/\c<=maxLen:=by rcases h.2.2 with⟨e,-⟩|⟨g',cap,cur,e,hb,hc,hn,hm,-⟩;{cases e};cases e;exact⟨hn,hm⟩
theorem SG.cell {W:World}{n₀ g n c:Nat}{l:List Sp.S}(h:SG W n₀ g n c l){j:Nat}(hj:j<n):W.cell? ⟨g,j*4,none⟩=some (.int .i64 (l.getD j .z).b)/\W.cell? ⟨g,j*4+1,none⟩=some (.int .i64 (l.getD j .z).f)/\W.cell? ⟨g,j*4+2,none⟩=some (.int .i64 (l.getD j .z).t)/\W.cell? ⟨g,j*4+3,none⟩=some (.bool (l.getD j .z).c):=by have hc:=World.ownsRow.cells h.2 (g:=g) rfl;(have hadd:∀k,(⟨g,0,none⟩:Addr).add k=⟨g,k,none⟩:=fun k=>by unfold Addr.add;split<;>simp_all);obtain⟨h0,h1,h2,h3⟩:=gm l j (by rw[h.1];exact hj);refine⟨?_,?_,?_,?_⟩;{rw[←hadd];exact hc _ _ h0};{rw[←hadd];exact hc _ _ h1};{rw[←hadd];exact hc _ _ h2};rw[←hadd];exact hc _ _ h3
theorem SG.kept {W W':World}{n₀ g n c:Nat}{l:List Sp.S}(h:SG W n₀ g n c l)(hB:Below W.heap.size W W'):SG W' n₀ g n c l:=⟨h.1,aI h.2 hB⟩
theorem SG.bT {W W':World}{n₀ g n c b:Nat}{l:List Sp.S}(h:SG W n₀ g n c l)(hg:W.grownBy W' (some b))(hne:g≠b):SG W' n₀ g n c l:=by refine⟨h.1,World.ownsRow.kept h.2 hg (.inr ?_)⟩;simp only[Value.ownBlock,ne_eq,af];omega
theorem SG.mono {W:World}{n₀ n₁ g n c:Nat}{l:List Sp.S}(h:SG W n₁ g n c l)(hn:n₀<=n₁):SG W n₀ g n c l:=by refine⟨h.1,h.2.1,?_⟩;rcases h.2.2 with⟨e,-⟩|⟨g',cap,cur,e,hb,r⟩;{cases e};exact .inr ⟨g',cap,cur,e,by omega,r⟩
theorem SG.empty (W:World)(n₀:Nat)(hn:n₀<=W.heap.size):SG (W.alloc (.cells #[] 39)) n₀ W.heap.size 0 0 []:=
 ⟨rfl,rfl, .inr ⟨W.heap.size,0,#[],rfl,hn,World.alloc_heap_new W _,Nat.le_refl _,by simp[maxLen],rfl,rfl⟩⟩
theorem xy:(Tryz.prog.info? 39).map (fun i=>(i.zero,i.size,i.bytes))=some (some (.agg #[.int .i64 0, .int .i64 0, .int .i64 0, .bool false]),4,32):=by kernel_rfl
theorem nS (w:World)(x0 x1 x2 x3:Value)(t:TypeId):∀j u,[x0,x1,x2,x3][j]?=some u->(w.alloc (.cells #[x0,x1,x2,x3] t)).cell? ((⟨w.heap.size,0,none⟩:Addr).add j)=some u:=by
 intro j u hj
 match j,hj with
 |0,hj=>simp at hj;subst hj;simp[Addr.add]
 |1,hj=>simp at hj;subst hj;simp[Addr.add]
 |2,hj=>simp at hj;subst hj;simp[Addr.add]
 |3,hj=>simp at hj;subst hj;simp[Addr.add]
theorem Be {ops:Array Oper}{rest:List Oper}{o:Oper}{a:Act}{Q:Exit->Act->World->Prop}(W:World)(hgd:o.guard=none)(s x:Operand)(ho:o.op= .call {callee:= .builtin .append,args:=#[s,x],argTypes:=#[36,36]})(n₀ g n c:Nat)(l:List Sp.S)(hs:a.eval s= .slice (some ⟨g,0,none⟩) n c)(hown:SG W n₀ g n c l)(sb:Nat)(y:Sp.S)(hx:a.eval x= .slice (some ⟨sb,0,none⟩) 1 1)(hy:∀j u,[Value.int .i64 y.b, .int .i64 y.f, .int .i64 y.t, .bool y.c][j]?=some u->W.cell? ((⟨sb,0,none⟩:Addr).add j)=some u)(hsz:n<=1000)(hbase:n₀<=W.heap.size)(h:∀g' c' N W',Hid (N=n+1)->SG W' n₀ g' N c' (l++[y])->W.grownBy W' (some g)->wpList Tryz.prog ops Q rest (a.put o.dst (.slice (some ⟨g',0,none⟩) N c')) W'):wpList Tryz.prog ops Q (o::rest) a W:=by obtain⟨i0,hi,hz0,hz1,hz2⟩:=info_parts xy;refine wpList_append_own W hgd s x 36 ho n₀ 39 i0 (.agg #[.int .i64 0, .int .i64 0, .int .i64 0, .bool false]) 4 32 Tryz.underlying36 hi hz0 hz1 hz2 rfl (by decide) _ n (aY l) hs hown.2 ⟨sb,0,none⟩ 1 1 [.int .i64 y.b, .int .i64 y.f, .int .i64 y.t, .bool y.c] hx rfl hy (fun u hu=>?_) (by simp only[maxLen];omega) (by omega) hbase (fun v' W' hown' hgrow hnn=>?_);{simp only[List.mem_cons,List.not_mem_nil,or_false]at hu;rcases hu with rfl|rfl|rfl|rfl<;>rfl};rcases hown'.2 with⟨rfl,h0⟩|⟨g',cap',cur,rfl,r⟩;{exact absurd (hnn.1 rfl).1 (fun e=>by cases e)};refine h g' cap' (n+1) W' rfl ⟨by rw[List.length_append,hown.1];rfl,?_⟩ hgrow;have e:aY (l++[y])=aY l++[.int .i64 y.b, .int .i64 y.f, .int .i64 y.t, .bool y.c]:=by{rw[kH];rfl};rw[e];exact hown'
theorem xV (x y:Sp.S)(w:World):Calls Tryz.prog 47 #[.agg #[.int .i64 x.b, .int .i64 x.f, .int .i64 x.t, .bool x.c], .agg #[.int .i64 y.b, .int .i64 y.f, .int .i64 y.t, .bool y.c]] w fun e w'=>e= .returned (.bool (Sp.bH x y))/\Below w.heap.size w w':=by obtain⟨xb,xf,xt,xc⟩:=x;obtain⟨yb,yf,yt,yc⟩:=y;simp only;have hB1:=aA w (.cells #[.int .i64 xb, .int .i64 xf, .int .i64 xt, .bool xc] 39);have hB2:=hB1.trans ((aA (w.alloc (.cells #[.int .i64 xb, .int .i64 xf, .int .i64 xt, .bool xc] 39)) (.cells #[.int .i64 yb, .int .i64 yf, .int .i64 yt, .bool yc] 39)).mono hB1.size);have HB:=ae hB2;have fin:∀r:Bool,Hid (r=Sp.bH ⟨xb,xf,xt,xc⟩ ⟨yb,yf,yt,yc⟩)->Value.bool r= .bool (Sp.bH ⟨xb,xf,xt,xc⟩ ⟨yb,yf,yt,yc⟩):=fun r h=>by{rw[h.out]};have HF:=ae fin;clear hB1 hB2 fin;by_cases h1:xf<=yt;{by_cases h2:yf<=xt;{by_cases h3:xf<=xt;{by_cases h4:yf<=yt;{have HM:Hid (Sp.bH ⟨xb,xf,xt,xc⟩ ⟨yb,yf,yt,yc⟩=true):=by{show _=_;simp[Sp.bH,h1,h2,h3,h4]};go_enter Tryz.func47,Tryz.ntmps47;go_wp2;go_ret;exact⟨(by rw[HM.out];rfl),HB.out⟩};have HM:Hid (Sp.bH ⟨xb,xf,xt,xc⟩ ⟨yb,yf,yt,yc⟩=false):=by{show _=_;simp[Sp.bH,h4]};go_enter Tryz.func47,Tryz.ntmps47;go_wp2;go_ret;exact⟨(by rw[HM.out];rfl),HB.out⟩};have HM:Hid (Sp.bH ⟨xb,xf,xt,xc⟩ ⟨yb,yf,yt,yc⟩=false):=by{show _=_;simp[Sp.bH,h3]};go_enter Tryz.func47,Tryz.ntmps47;go_wp2;go_ret;exact⟨(by rw[HM.out];rfl),HB.out⟩};have HM:Hid (Sp.bH ⟨xb,xf,xt,xc⟩ ⟨yb,yf,yt,yc⟩=false):=by{show _=_;simp[Sp.bH,h2]};go_enter Tryz.func47,Tryz.ntmps47;go_wp2;go_ret;exact⟨(by rw[HM.out];rfl),HB.out⟩};have HM:Hid (Sp.bH ⟨xb,xf,xt,xc⟩ ⟨yb,yf,yt,yc⟩=false):=by{show _=_;simp[Sp.bH,h1]};go_enter Tryz.func47,Tryz.ntmps47;go_wp2;go_ret;exact⟨(by rw[HM.out];rfl),HB.out⟩
def nI (o:List Nat):List Int:=o.map Int.ofNat
theorem qC (o:List Nat):(nI o).length=o.length:=by simp[nI]
theorem I4 (o:List Nat)(j:Nat):(nI o).getD j 0=((o.getD j 0:Nat):Int):=by unfold nI;rw[ah,List.getElem?_map,ah];cases o[j]?<;>rfl
theorem IX (l:List Sp.S)(o:List Nat)(i:Nat):(nI (o.take (Hm.pos l (l.getD i .z).f o))++[(i:Int)])++nI (o.drop (Hm.pos l (l.getD i .z).f o))=nI (Hm.ins l o i):=by unfold Hm.ins nI;rw[List.map_append,List.map_cons,List.append_assoc];rfl
theorem sD (o:List Nat)(k:Nat):nI (o.drop k)=(nI o).drop k:=by simp[nI]
theorem Em (o:List Nat)(k:Nat):nI (o.take k)=(nI o).take k:=by simp[nI]
theorem FT (xs:List Int)(k j:Nat):(xs.drop k).getD j 0=xs.getD (k+j) 0:=by rw[ah,List.getElem?_drop,←ah]
theorem xD (xs:List Int){k j:Nat}(h:j<k):(xs.take k).getD j 0=xs.getD j 0:=by rw[ah,List.getElem?_take_of_lt h,←ah]
theorem OG.Ev {W:World}{n₀ g n c:Nat}{xs:List Int}(h:OG W n₀ g n c xs)(j:Nat)(x:Int):OG (W.setCell ⟨g,j,none⟩ (.int .i64 x)) n₀ g n c (xs.set j x):=by have hst:=(World.ownsRow.stored h.2 j (.int .i64 x)).1;refine⟨by rw[List.length_set];exact h.1,?_⟩;have e:(xs.set j x).map iv=(xs.map iv).set j (.int .i64 x):=by{rw[List.map_set];rfl};rw[e];exact hst
def holds (l:List Sp.S)(h:List Int)(i k:Nat):List Int:=(List.range 5).map fun(sh:Nat)=>Hm.hold l h i (sh:Int) k
theorem Ir (l:List Sp.S)(h:List Int)(i k:Nat){j:Nat}(hj:j<5):(holds l h i k).getD j 0=Hm.hold l h i (j:Int) k:=by unfold holds;rw[ah,List.getElem?_map,List.getElem?_range hj];rfl
theorem qo (l:List Sp.S)(h:List Int)(i k:Nat):(holds l h i k).length=5:=by simp[holds]
theorem xh (l:List Sp.S)(h:List Int)(i k:Nat){j:Nat}(hj:j<5):(holds l h i k)[j]?=some (Hm.hold l h i (j:Int) k):=by unfold holds;rw[List.getElem?_map,List.getElem?_range hj];rfl
theorem Gy {l:List Sp.S}{h:List Int}{i k v:Nat}(h1:h.getD k 0=(v:Int))(h2:v<5)(h3:Sp.bH (l.getD k .z) (l.getD i .z)=true):holds l h i (k+1)=(holds l h i k).set v (k:Int):=by refine List.ext_getElem? fun j=>?_;by_cases hj:j<5;{rw[xh l h i _ hj,List.getElem?_set,xh l h i _ hj,qo,ay h2];show some (if h.getD k 0=(j:Int)/\Sp.bH (l.getD k .z) (l.getD i .z)=true then(k:Int)else Hm.hold l h i (j:Int) k)=_;by_cases e:v=j;{rw[ay ⟨by rw[h1,e],h3⟩,ay e]};rw[ax (fun hh=>e (by have:=h1.symm.trans hh.1;omega)),ax e]};rw[List.getElem?_eq_none (by rw[qo];omega),List.getElem?_eq_none (by rw[List.length_set,qo];omega)]
theorem Iw {l:List Sp.S}{h:List Int}{i k:Nat}(h1:h.getD k 0<0\/Sp.bH (l.getD k .z) (l.getD i .z)=false):holds l h i (k+1)=holds l h i k:=by unfold holds;refine List.map_congr_left fun j hj=>?_;show(if h.getD k 0=(j:Int)/\Sp.bH (l.getD k .z) (l.getD i .z)=true then(k:Int)else Hm.hold l h i (j:Int) k)=_;rw[ax];rintro⟨e,e2⟩;rcases h1 with h1|h1;{omega};rw[h1]at e2;cases e2
theorem fq {ops:Array Oper}{rest:List Oper}{o:Oper}{a:Act}{w:World}{Q:Exit->Act->World->Prop}(x y:Operand)(s t:TypeId)(ho:o.op= .call {callee:= .builtin .append,args:=#[x,y],argTypes:=#[s,t]})(h:Still (wpList Tryz.prog ops Q (o::rest) a w)):wpList Tryz.prog ops Q (o::rest) a w:=h.out
theorem rX (n₀ gs ns cs:Nat) (l:List Sp.S) (hlen:ns<=40) (w:World) (hs:SG w n₀ gs ns cs l):Calls Tryz.prog 72 #[.slice (some ⟨gs,0,none⟩) ns cs] w fun e w'=>∃g c,e= .returned (.slice (some ⟨g,0,none⟩) ns c)/\OG w' w.heap.size g ns c (Hm.run l ns)/\Below w.heap.size w w':=by
 have hln:=hs.1
 have HL:=ae hln
 have hcap:=hs.cap
 have hgs:=hs.lt
 have HS:=ae hs
 have hnZ:(ns:Int)<=40:=by omega
 have HE0:=ae (ak (jc.empty w w.heap.size (Nat.le_refl _)) (aA w (.cells #[] 3)))
 clear hs hln
 go_enter Tryz.func72,Tryz.ntmps72
 go_wp2
 go_loopg [3,4] ns (fun gk vo vi wr=>∃(i g n c:Nat),gk=ns-i/\i<=ns/\vo= .slice (some ⟨g,0,none⟩) n c/\vi= .int .i64 (i:Int)/\n=i/\jc wr w.heap.size g n c (nI (Hm.ord l i))/\Below w.heap.size w wr)
 case atStart=>exact⟨0,_,0,0,rfl,by omega,rfl,rfl,rfl,(show jc _ _ _ _ _ (nI [])from HE0.out.1),HE0.out.2⟩
 case round=>
  obtain⟨i,g,n,c,nP,hi,rfl,rfl,rfl,hor,hB⟩:=hrel
  obtain⟨w0,rfl⟩:∃x,x=wr:=⟨_,rfl⟩
  clear HE0
  by_cases hlt:n<ns
  · have bN:(n:Int)<(ns:Int):=by{omega};have HO:=ae (ak hor hB);have bq:=hB.size;have hgo:=hor.lt;have hco:=hor.cap;have hsw:=HS.out.kept hB;have Od:=ae hsw;have d1:=(hsw.cell hlt).2.1;obtain⟨P,hP⟩:∃P,Hm.pos l (l.getD n .z).f (Hm.ord l n)=P:=⟨_,rfl⟩;have hPn:P<=n:=by{rw[←hP];have:=Hm.yR l (l.getD n .z).f (Hm.ord l n);rw[Hm.dF]at this;exact this};have Oe:Hid (∀k,k<P->(l.getD ((Hm.ord l n).getD k 0) .z).f<=(l.getD n .z).f):=fun k hk=>Hm.CJ (by rw[hP];exact hk);have HAT:Hid (P<n->¬(l.getD ((Hm.ord l n).getD P 0) .z).f<=(l.getD n .z).f):=fun h=>by{have:=@Hm.pos_at l (l.getD n .z).f (Hm.ord l n);rw[hP,Hm.dF]at this;exact this h};have bP:Hid (∀k,k<n->(Hm.ord l n).getD k 0<n):=fun k hk=>by{rw[Hm.kD (by rw[Hm.dF];exact hk)];exact Hm.gK.1 (List.getElem_mem _)};have HPP:=ae hP;generalize(l.getD n .z).f=F at d1 Oe HAT;clear hor hB hsw hP;go_wp2;go_loopg [5] P (fun gj vk wx=>∃(k:Nat),gj=P-k/\k<=P/\vk= .int .i64 (k:Int)/\Below w0.heap.size w0 wx);(case atStart=>exact⟨0,rfl,by omega,rfl,Below.refl _ _⟩);case round=>obtain⟨k,hgj,hk,rfl,hBx⟩:=hrel;have gZ:=ae hBx;have hgx:=aj hgo.2 hBx.size;have Ue:gs<wr.heap.size:=by{have:=hBx.size;omega};have dx:=(hBx.cell (p:=⟨gs,n*4+1,none⟩) (by show gs<_;omega)).trans d1;by_cases hkP:k<P;{have hkn:k<n:=by{omega};have wJ:(k:Int)<(n:Int):=by{omega};have hc:=(hBx.cell (p:=⟨g,k,none⟩) hgo.2).trans (HO.out.1.cell hkn);have hA:=bP.out k hkn;have hF:=Oe.out k hkP;rw[I4]at hc;generalize(Hm.ord l n).getD k 0=a at hc hA hF;have hAs:a<ns:=by{omega};have hAZ:(a:Int)<(ns:Int):=by{omega};have da:=(hBx.cell (p:=⟨gs,a*4+1,none⟩) (by show gs<_;omega)).trans (Od.out.cell hAs).2.1;have hd1:decide ((k:Int)<(n:Int))=true:=decide_eq_true wJ;have hd2:decide ((l.getD a .z).f<=F)=true:=decide_eq_true hF;generalize(l.getD a .z).f=G at da hd2 hF;clear hBx;go_wp2_with fail;go_quiet (fail);have HN:=ae (gZ.out.trans ((bC wr nq).mono gZ.out.size));go_wp2;go_roundg (P-(k+1));(case measure=>omega);case rel=>exact⟨k+1,rfl,hkP,by simp,HN.out⟩};have aaW:k=P:=by{omega};subst aaW;by_cases Qh:k<n;{have wJ:(k:Int)<(n:Int):=by{omega};have hc:=(hBx.cell (p:=⟨g,k,none⟩) hgo.2).trans (HO.out.1.cell Qh);have hA:=bP.out k Qh;have hF:=HAT.out Qh;rw[I4]at hc;generalize(Hm.ord l n).getD k 0=a at hc hA hF;have hAs:a<ns:=by{omega};have hAZ:(a:Int)<(ns:Int):=by{omega};have da:=(hBx.cell (p:=⟨gs,a*4+1,none⟩) (by show gs<_;omega)).trans (Od.out.cell hAs).2.1;have hd1:decide ((k:Int)<(n:Int))=true:=decide_eq_true wJ;have hd2:decide ((l.getD a .z).f<=F)=false:=decide_eq_false (by omega);generalize(l.getD a .z).f=G at da hd2 hF;clear hBx;go_wp2_with fail;go_quiet ((at_builtin;refine fq _ _ _ _ rfl ?_));have HX:=ae (gZ.out.trans ((bC wr nq).mono gZ.out.size));obtain⟨x,hx⟩:∃x,wr.drewN nq=x:=⟨_,rfl⟩;rw[hx]at HX ⊢;clear hc hA hF hAs hAZ da hd1 hd2 wJ;clear hx Oe HAT dx d1 gZ hgx Ue;have hgx:=aj hgo.2 HX.out.size;have hox:=HO.out.1.kept HX.out;have hcn:n<=c:=hco.1;have hwx:=Nat.le_trans bq HX.out.size;have hal:=aA x (.cells #[] 3);have HA1:=ae (ak (jc.empty x w.heap.size hwx) (ak (hox.kept hal) (HO.out.2.trans ((HX.out.trans (hal.mono HX.out.size)).mono bq))));have wJ:(k:Int)<=(n:Int):=by{omega};clear hox hal;go_wp2_with(at_builtin;refine fq _ _ _ _ rfl ?_);all_goals refine⟨?_⟩;refine eB _ rfl _ _ rfl w.heap.size _ _ _ _ rfl HA1.out.1 g _ _ _ ((nI (Hm.ord l n)).drop k) rfl (by rw[List.length_drop,qC,Hm.dF]) (fun j hj=>by rw[FT];exact HA1.out.2.1.cell (by omega)) (by omega) (by simp;omega) ?_;intro g1 c1 N1 x2 hN1 ho1 hg1;have aaX:=ho1.lt;rw[List.nil_append]at ho1;have Qi:g≠x.heap.size:=by{omega};have ho2:=HA1.out.2.1.bT hg1 Qi;have hB2:=aC HA1.out.2.2 hg1 hwx;have Qj:=hg1.size;simp at Qj;have hal:=aA x2 (.cells #[] 3);have HA2:=ae (ak (jc.empty x2 x2.heap.size (Nat.le_refl _)) (ak (ho2.kept hal) (ak (ho1.kept hal) (hB2.trans (hal.mono hB2.size)))));have JO:w.heap.size<=x2.heap.size:=hB2.size;clear ho1 hg1 ho2 hB2 hal HA1;go_wp2_with(at_builtin;refine fq _ _ _ _ rfl ?_);refine⟨?_⟩;refine eB _ rfl _ _ rfl x2.heap.size _ _ _ _ rfl HA2.out.1 g 0 k _ ((nI (Hm.ord l n)).take k) rfl (by rw[List.length_take,qC,Hm.dF];omega) (fun j hj=>by rw[xD _ hj,Nat.zero_add];exact HA2.out.2.1.cell (by omega)) (by omega) (by simp) ?_;intro g2 c2 N2 x3 KD ho3 hg3;rw[List.nil_append]at ho3;have Qk:g1≠x2.heap.size:=by{omega};have nN:=HA2.out.2.2.1.bT hg3 Qk;have hB4:=aC HA2.out.2.2.2 hg3 JO;have hal:=aA x3 (.cells #[.int .i64 (n:Int)] 3);have JP:=ae (ak (ho3.kept hal) (ak (nN.kept hal) (ak (jc.one x3 w.heap.size hB4.size (n:Int)) (hB4.trans (hal.mono hB4.size)))));have aaY:x2.heap.size<=x3.heap.size:=by{have:=hg3.size;simp at this;omega};have aaZ:=ho3.lt;clear ho3 nN hg3 hB4 hal HA2;go_wp2_with(at_builtin;refine fq _ _ _ _ rfl ?_);refine⟨?_⟩;refine eB _ rfl _ _ rfl x2.heap.size _ _ _ _ rfl JP.out.1 x3.heap.size 0 1 1 [(n:Int)] rfl rfl (fun j hj=>by rw[Nat.zero_add];exact JP.out.2.2.1.cell hj) (by have:=KD.out;omega) (by simp;omega) ?_;intro g3 c3 N3 x4 GJ nQ hg5;have xZ:=JP.out.2.1.bT hg5 (by omega);have bG:=aC JP.out.2.2.2 hg5 (by omega);have Ql:=ae (ak nQ (ak xZ bG));have Qm:x2.heap.size<=x4.heap.size:=by{have:=hg5.size;simp at this;omega};have aa0:=nQ.lt;clear nQ xZ hg5 bG JP;go_wp2_with(at_builtin;refine fq _ _ _ _ rfl ?_);refine⟨?_⟩;refine eB _ rfl _ _ rfl x2.heap.size _ _ _ _ rfl Ql.out.1 g1 0 N1 c1 (nI ((Hm.ord l n).drop k)) rfl (by rw[sD,List.length_drop,qC,Hm.dF];have:=hN1.out;omega) (fun j hj=>by rw[Nat.zero_add,sD];exact Ql.out.2.1.cell hj) (by have:=GJ.out;have:=KD.out;have:=hN1.out;omega) Qm ?_;intro g4 c4 N4 x5 Ob Qn Uf;rw[←Em,←HPP.out,IX]at Qn;have HF:=ae (ak (jc.mono Qn JO) (aC Ql.out.2.2 Uf (by omega)));have HN:Hid (N4=n+1):=by{show _=_;have:=GJ.out;have:=KD.out;have:=hN1.out;have:=Ob.out;omega};clear Qn Uf;go_wp2;go_roundg (ns-(n+1));(case measure=>omega);case rel=>exact⟨n+1,g4,N4,c4,rfl,hlt,rfl,by simp,HN.out,HF.out.1,HF.out.2⟩};have hd1:decide ((k:Int)<(n:Int))=false:=decide_eq_false (by omega);clear hBx;go_wp2_with fail;go_quiet ((at_builtin;refine fq _ _ _ _ rfl ?_));have HX:=ae (gZ.out.trans ((bC wr nq).mono gZ.out.size));obtain⟨x,hx⟩:∃x,wr.drewN nq=x:=⟨_,rfl⟩;rw[hx]at HX ⊢;clear hd1;clear hx Oe HAT dx d1 gZ hgx Ue;have hgx:=aj hgo.2 HX.out.size;have hox:=HO.out.1.kept HX.out;have hcn:n<=c:=hco.1;have hwx:=Nat.le_trans bq HX.out.size;have hal:=aA x (.cells #[] 3);have HA1:=ae (ak (jc.empty x w.heap.size hwx) (ak (hox.kept hal) (HO.out.2.trans ((HX.out.trans (hal.mono HX.out.size)).mono bq))));have wJ:(k:Int)<=(n:Int):=by{omega};clear hox hal;go_wp2_with(at_builtin;refine fq _ _ _ _ rfl ?_);all_goals refine⟨?_⟩;refine eB _ rfl _ _ rfl w.heap.size _ _ _ _ rfl HA1.out.1 g _ _ _ ((nI (Hm.ord l n)).drop k) rfl (by rw[List.length_drop,qC,Hm.dF]) (fun j hj=>absurd hj (by omega)) (by omega) (by simp;omega) ?_;intro g1 c1 N1 x2 hN1 ho1 hg1;have aaX:=ho1.lt;rw[List.nil_append]at ho1;have Qi:g≠x.heap.size:=by{omega};have ho2:=HA1.out.2.1.bT hg1 Qi;have hB2:=aC HA1.out.2.2 hg1 hwx;have Qj:=hg1.size;simp at Qj;have hal:=aA x2 (.cells #[] 3);have HA2:=ae (ak (jc.empty x2 x2.heap.size (Nat.le_refl _)) (ak (ho2.kept hal) (ak (ho1.kept hal) (hB2.trans (hal.mono hB2.size)))));have JO:w.heap.size<=x2.heap.size:=hB2.size;clear ho1 hg1 ho2 hB2 hal HA1;go_wp2_with(at_builtin;refine fq _ _ _ _ rfl ?_);refine⟨?_⟩;refine eB _ rfl _ _ rfl x2.heap.size _ _ _ _ rfl HA2.out.1 g 0 k _ ((nI (Hm.ord l n)).take k) rfl (by rw[List.length_take,qC,Hm.dF];omega) (fun j hj=>by rw[xD _ hj,Nat.zero_add];exact HA2.out.2.1.cell (by omega)) (by omega) (by simp) ?_;intro g2 c2 N2 x3 KD ho3 hg3;rw[List.nil_append]at ho3;have Qk:g1≠x2.heap.size:=by{omega};have nN:=HA2.out.2.2.1.bT hg3 Qk;have hB4:=aC HA2.out.2.2.2 hg3 JO;have hal:=aA x3 (.cells #[.int .i64 (n:Int)] 3);have JP:=ae (ak (ho3.kept hal) (ak (nN.kept hal) (ak (jc.one x3 w.heap.size hB4.size (n:Int)) (hB4.trans (hal.mono hB4.size)))));have aaY:x2.heap.size<=x3.heap.size:=by{have:=hg3.size;simp at this;omega};have aaZ:=ho3.lt;clear ho3 nN hg3 hB4 hal HA2;go_wp2_with(at_builtin;refine fq _ _ _ _ rfl ?_);refine⟨?_⟩;refine eB _ rfl _ _ rfl x2.heap.size _ _ _ _ rfl JP.out.1 x3.heap.size 0 1 1 [(n:Int)] rfl rfl (fun j hj=>by rw[Nat.zero_add];exact JP.out.2.2.1.cell hj) (by have:=KD.out;omega) (by simp;omega) ?_;intro g3 c3 N3 x4 GJ nQ hg5;have xZ:=JP.out.2.1.bT hg5 (by omega);have bG:=aC JP.out.2.2.2 hg5 (by omega);have Ql:=ae (ak nQ (ak xZ bG));have Qm:x2.heap.size<=x4.heap.size:=by{have:=hg5.size;simp at this;omega};have aa0:=nQ.lt;clear nQ xZ hg5 bG JP;go_wp2_with(at_builtin;refine fq _ _ _ _ rfl ?_);refine⟨?_⟩;refine eB _ rfl _ _ rfl x2.heap.size _ _ _ _ rfl Ql.out.1 g1 0 N1 c1 (nI ((Hm.ord l n).drop k)) rfl (by rw[sD,List.length_drop,qC,Hm.dF];have:=hN1.out;omega) (fun j hj=>by rw[Nat.zero_add,sD];exact Ql.out.2.1.cell hj) (by have:=GJ.out;have:=KD.out;have:=hN1.out;omega) Qm ?_;intro g4 c4 N4 x5 Ob Qn Uf;rw[←Em,←HPP.out,IX]at Qn;have HF:=ae (ak (jc.mono Qn JO) (aC Ql.out.2.2 Uf (by omega)));have HN:Hid (N4=n+1):=by{show _=_;have:=GJ.out;have:=KD.out;have:=hN1.out;have:=Ob.out;omega};clear Qn Uf;go_wp2;go_roundg (ns-(n+1));(case measure=>omega);case rel=>exact⟨n+1,g4,N4,c4,rfl,hlt,rfl,by simp,HN.out,HF.out.1,HF.out.2⟩
  · have hne:n=ns:=by omega
    subst hne
    have HO:=ae (ak hor hB)
    have bq:=hB.size
    have bN:¬(n:Int)<(n:Int):=by omega
    clear hor hB
    go_wp2_with fail
    refine(jq n (by omega) _).mono ?_
    rintro e w1 ⟨gh,ch,rfl,hoi,hB1⟩
    dsimp only
    have qI:OG w1 w0.heap.size gh n ch (Hm.run l 0):=by refine⟨by show(List.replicate l.length (-1:Int)).length=n;rw[List.length_replicate,HL.out],?_⟩;have e:Hm.run l 0=aG.dX n:=by{show List.replicate l.length (-1)=List.replicate n (-1);rw[HL.out]};rw[e];have h2:=hoi;unfold OI at h2;rw[show(aG.dX n).length=n from by simp[aG.dX]]at h2;exact h2
    have hgo:=HO.out.1.lt
    have hgh:=qI.lt
    have hch:=qI.cap
    have hco:=HO.out.1.cap
    have HX:=ae (ak qI (ak (HO.out.1.kept hB1) (HO.out.2.trans (hB1.mono bq))))
    have hne2:g≠gh:=by omega
    clear hoi qI hB1 HO
    go_wp2
    go_loopg [8] n (fun gk vi wr=>∃(m:Nat),gk=n-m/\m<=n/\vi= .int .i64 (m:Int)/\OG wr w0.heap.size gh n ch (Hm.run l m)/\jc wr w.heap.size g n c (nI (Hm.ord l n))/\Below w.heap.size w wr)
    case atStart=>exact⟨0,rfl,by omega,rfl,HX.out.1,HX.out.2.1,HX.out.2.2⟩
    case round=>
     obtain⟨m,hgm,hm,rfl,qI,hor,hB⟩:=hrel
     obtain⟨w2,rfl⟩:∃x,x=wr:=⟨_,rfl⟩
     clear HX
     by_cases Qo:m<n
     rotate_left
     · have hme:m=n:=by{omega};subst hme;have HF:=ae (ak (qI.mono bq) hB);have aa1:¬(m:Int)<(m:Int):=by{omega};clear qI hor hB;go_wp2;go_ret;exact⟨gh,ch,rfl,HF.out.1,HF.out.2⟩
     have aa1:(m:Int)<(n:Int):=by omega
     have ho:=hor.cell Qo
     rw[I4]at ho
     have hil:(Hm.ord l n).getD m 0<n:=by rw[Hm.kD (by rw[Hm.dF];exact Qo)];exact Hm.gK.1 (List.getElem_mem _)
     have Qp:Hid (Hm.run l (m+1)=Hm.put l (Hm.run l m) ((Hm.ord l l.length).getD m 0)):=rfl
     rw[HL.out]at Qp
     have aa2:=hor.lt
     have aa3:=qI.lt
     have hB2:=hB.size
     have hsw:=HS.out.kept hB
     obtain⟨i,hidx⟩:∃i,(Hm.ord l n).getD m 0=i:=⟨_,rfl⟩
     rw[hidx]at ho hil Qp
     have Ug:(i:Int)<(n:Int):=by omega
     obtain⟨d0,d1,d2,d3⟩:=hsw.cell hil
     have HW:=ae (ak qI (ak hor (ak hB hsw)))
     have Zp:Hid ((Hm.run l m).length=n):=qI.1
     have RL:=Hm.Inv.run l m (by rw[HL.out];omega)
     have Uh:Hid (∀k,k<n->(Hm.run l m).getD k 0<0\/0<=(Hm.run l m).getD k 0/\(Hm.run l m).getD k 0<=4):=fun k hk=>by by_cases hd:Hm.dn l m k;{have:=RL.val k hd;omega};have:=RL.un k (by rw[HL.out];exact hk) hd;omega
     have HI1:Hid ((Hm.run l m).getD i 0=-1):=RL.un i (by rw[HL.out];exact hil) (by rw[←hidx,←HL.out];exact Hm.yl (by rw[HL.out];exact Qo))
     clear RL hidx
     generalize Hm.run l m=h0 at Qp qI HW Zp Uh HI1
     obtain⟨cx,hcx⟩:∃cx,(l.getD i .z).c=cx:=⟨_,rfl⟩
     rw[hcx]at d3
     have hfz:=fun j=>World.ownsRow.frozenAt qI.2 j
     cases cx
     rotate_left
     · have hst:Hid (OG (w2.setCell ⟨gh,i,none⟩ (.int .i64 (-2))) w0.heap.size gh n ch (h0.set i (-2))/\jc (w2.setCell ⟨gh,i,none⟩ (.int .i64 (-2))) w.heap.size g n c (nI (Hm.ord l n))/\Below w.heap.size w (w2.setCell ⟨gh,i,none⟩ (.int .i64 (-2)))):=⟨OG.Ev qI i (-2),hor.bT (aB _ ⟨gh,i,none⟩ _) hne2,aC hB (aB _ ⟨gh,i,none⟩ _) (show w.heap.size<=gh by omega)⟩;have HE:Hid (Hm.run l (m+1)=h0.set i (-2)):=by{show _=_;rw[Qp.out];unfold Hm.put;rw[ay hcx]};have hci:=qI.cell hil;clear qI hor hB hsw hcx Qp HW;go_wp2;go_roundg (n-(m+1));(case measure=>omega);case rel=>exact⟨m+1,rfl,Qo,by simp,by rw[HE.out];exact hst.out.1,hst.out.2.1,hst.out.2.2⟩
     have KE:Hid (∀sh z,Hm.go l h0 i 5 0 i=(some sh,z)->Hm.put l h0 i=h0.set i sh):=fun sh z h=>by unfold Hm.put;rw[ax (by rw[hcx];decide),h]
     have HNN:Hid (∀z,Hm.go l h0 i 5 0 i=(none,z)->Hm.put l h0 i=if z≠i then(h0.set i (h0.getD z 0)).set z (-2)else h0.set i (-2)):=fun z h=>by unfold Hm.put;rw[ax (by rw[hcx];decide),h]
     have hal:=aA w2 (.cells #[.int .i64 (-1), .int .i64 (-1), .int .i64 (-1), .int .i64 (-1), .int .i64 (-1)] 3)
     have HY:Hid (jc (w2.alloc (.cells #[.int .i64 (-1), .int .i64 (-1), .int .i64 (-1), .int .i64 (-1), .int .i64 (-1)] 3)) w2.heap.size w2.heap.size 5 5 (holds l h0 i 0)/\Below w2.heap.size w2 (w2.alloc (.cells #[.int .i64 (-1), .int .i64 (-1), .int .i64 (-1), .int .i64 (-1), .int .i64 (-1)] 3))):=⟨jc.aao w2 w2.heap.size (Nat.le_refl _) (-1) (-1) (-1) (-1) (-1),hal⟩
     clear qI hor hB hsw hcx hal d0 d1 d2 hfz
     go_wp2_with fail
     obtain⟨x,hx⟩:∃x,w2.alloc (.cells #[.int .i64 (-1), .int .i64 (-1), .int .i64 (-1), .int .i64 (-1), .int .i64 (-1)] 3)=x:=⟨_,rfl⟩
     rw[hx]at HY ⊢
     clear hx ho d3
     go_loopg [11] n (fun gj vk wx=>∃(k:Nat),gj=n-k/\k<=n/\vk= .int .i64 (k:Int)/\jc wx w2.heap.size w2.heap.size 5 5 (holds l h0 i k)/\Below w2.heap.size w2 wx)
     case atStart=>exact⟨0,by omega,by omega,rfl,HY.out.1,HY.out.2⟩
     case round=>
      obtain⟨k,hgj,hk,rfl,hho,hBx⟩:=hrel
      obtain⟨w3,rfl⟩:∃x,x=wr:=⟨_,rfl⟩
      clear HY
      have hox:=HW.out.1.kept hBx
      have hsx:=HW.out.2.2.2.kept hBx
      have hgx:=hox.lt
      have hsl:=hsx.lt
      have hhx:=hho.lt
      by_cases hkn:k<n
      rotate_left
      · have hke:k=n:=by omega
        subst hke
        have MG:=ae (ak hho hBx)
        have HOX:=ae (ak hox hsx)
        have HOR:=ae (ak (HW.out.2.1.kept hBx) (HW.out.2.2.1.trans (hBx.mono hB2)))
        have HGO:Hid (Hm.go l h0 i (5-0) ((0:Nat):Int) i=Hm.go l h0 i 5 0 i):=rfl
        have hkk:¬(k:Int)<(k:Int):=by omega
        clear hho hBx hox hsx
        go_wp2
        go_loopg [12,13] 5 (fun gj vl vs wx=>∃(s z:Nat),gj=5-s/\s<=5/\vl= .int .i64 (z:Int)/\vs= .int .i64 (s:Int)/\z<k/\Hid (Hm.go l h0 i (5-s) (s:Int) z=Hm.go l h0 i 5 0 i)/\Below w3.heap.size w3 wx)
        case atStart=>exact⟨0,i,rfl,by omega,rfl,rfl,hil,HGO,Below.refl _ _⟩
        case round=>
         obtain⟨s,z,aa5,hs5,rfl,rfl,MF,RN,Cq⟩:=hrel
         obtain⟨w4,rfl⟩:∃x,x=wr:=⟨_,rfl⟩
         have DL:=HOX.out.1.kept Cq
         have hsz:=HOX.out.2.kept Cq
         have hhz:=MG.out.1.kept Cq
         have hwz:=HOR.out.2.size
         have RO:=ae (ak (HOR.out.1.kept Cq) (HOR.out.2.trans (Cq.mono hwz)))
         have Og:=ae Cq
         have hgz:=DL.lt
         have hsl2:=hsz.lt
         have aif:=hhz.lt
         have hzZ:(z:Int)<(k:Int):=by omega
         have hci:=DL.cell hil
         have hcz:=DL.cell MF
         have hfz:=fun j=>World.ownsRow.frozenAt DL.2 j
         have MH:Hid (∀W (xs:List Int)(j:Nat)(y:Int),OG W w0.heap.size gh k ch xs->jc W w.heap.size g k c (nI (Hm.ord l k))->Below w.heap.size w W->OG (W.setCell ⟨gh,j,none⟩ (.int .i64 y)) w0.heap.size gh k ch (xs.set j y)/\jc (W.setCell ⟨gh,j,none⟩ (.int .i64 y)) w.heap.size g k c (nI (Hm.ord l k))/\Below w.heap.size w (W.setCell ⟨gh,j,none⟩ (.int .i64 y))):=fun W xs j y h1 h2 h3=>
          ⟨OG.Ev h1 j y,h2.bT (aB W ⟨gh,j,none⟩ (.int .i64 y)) hne2,aC h3 (aB W ⟨gh,j,none⟩ (.int .i64 y)) (show w.heap.size<=gh by omega)⟩
         rw[HI1.out]at hci
         by_cases hs:s<5
         rotate_left
         · have hse:s=5:=by{omega};subst hse;have RP:Hid (Hm.run l (m+1)=if z≠i then(h0.set i (h0.getD z 0)).set z (-2)else h0.set i (-2)):=by{show _=_;rw[Qp.out];exact HNN.out z RN.out.symm};have HO1:=ae DL;by_cases hzi:z=i;{subst hzi;have HE2:Hid (Hm.run l (m+1)=h0.set z (-2)):=by{show _=_;rw[RP.out,ax (by simp)]};have HF:=ae (MH.out w4 h0 z (-2) DL RO.out.1 RO.out.2);clear hcz;clear DL hsz hhz Cq RN RP;go_wp2;go_roundg (k-(m+1));(case measure=>omega);case rel=>exact⟨m+1,rfl,Qo,by simp,by rw[HE2.out];exact HF.out.1,HF.out.2.1,HF.out.2.2⟩};have aih:¬(z:Int)=(i:Int):=by{omega};have HE2:Hid (Hm.run l (m+1)=(h0.set i (h0.getD z 0)).set z (-2)):=by{show _=_;rw[RP.out,ay hzi]};have h1:=MH.out w4 h0 i (h0.getD z 0) DL RO.out.1 RO.out.2;have HF:=ae (MH.out _ _ z (-2) h1.1 h1.2.1 h1.2.2);have hcz2:=h1.1.cell MF;have aa6:=fun j=>World.ownsRow.frozenAt h1.1.2 j;generalize h0.getD z 0=y at hcz HE2 HF hcz2 aa6;clear DL hsz hhz Cq RN RP h1;go_wp2;go_roundg (k-(m+1));(case measure=>omega);case rel=>exact⟨m+1,rfl,Qo,by simp,by rw[HE2.out];exact HF.out.1,HF.out.2.1,HF.out.2.2⟩
         have aii:(s:Int)<5:=by omega
         have hcs:=hhz.cell hs
         rw[Ir l h0 i k hs]at hcs
         have HST:Hid (Hm.go l h0 i (5-s) (s:Int) z=if Hm.hold l h0 i (s:Int) k<0 then(some (s:Int),z)else Hm.go l h0 i (5-(s+1)) ((s:Int)+1) (if Hm.late l (Hm.hold l h0 i (s:Int) k).toNat z=true then(Hm.hold l h0 i (s:Int) k).toNat else z)):=by show _=_;rw[show 5-s=(5-(s+1))+1 by omega];(conv=>lhs;unfold Hm.go);rw[HL.out]
         have MI:=@Hm.kg l h0 i (s:Int) k
         generalize Hm.hold l h0 i (s:Int) k=u at hcs HST MI
         by_cases hu:u<0
         · have RP:Hid (Hm.run l (m+1)=h0.set i (s:Int)):=by{show _=_;rw[Qp.out];refine KE.out (s:Int) z ?_;rw[←RN.out,HST.out,ay hu]};have h1:=MH.out w4 h0 i (s:Int) DL RO.out.1 RO.out.2;have HF:=ae h1;have hs0:(0:Int)<=(s:Int):=by{omega};clear DL hsz hhz Cq RN HST MI hcz h1;go_wp2;go_roundg (k-(m+1));(case measure=>omega);case rel=>exact⟨m+1,rfl,Qo,by simp,by rw[RP.out];exact HF.out.1,HF.out.2.1,HF.out.2.2⟩
         obtain⟨j,rfl⟩:=Int.eq_ofNat_of_zero_le (show 0<=u by omega)
         rw[az]at HST
         have hjk:j<k:=by have:=(MI hu).1;rwa [az]at this
         have MJ:(j:Int)<(k:Int):=by omega
         obtain⟨a0,-,a2,-⟩:=hsz.cell hjk
         obtain⟨b0,-,b2,-⟩:=hsz.cell MF
         have G9:Hid (Hm.late l j z=(decide ((l.getD z .z).t<(l.getD j .z).t)||(decide ((l.getD j .z).t=(l.getD z .z).t)&&decide ((l.getD z .z).b<(l.getD j .z).b)))):=rfl
         have HG2:Hid (∀q:Bool,Hm.late l j z=q->Hm.go l h0 i (5-(s+1)) ((s+1:Nat):Int) (if q=true then j else z)=Hm.go l h0 i 5 0 i):=fun q hq=>by rw[←RN.out,HST.out,ax hu,hq];rfl
         generalize(l.getD j .z).t=jt at a2 G9
         generalize(l.getD z .z).t=zt at b2 G9
         generalize(l.getD j .z).b=jb at a0 G9
         generalize(l.getD z .z).b=zb at b0 G9
         clear DL hsz hhz Cq HST MI hcz hci hfz KE HNN
         by_cases h1:zt<jt
         · have hd1:decide (zt<jt)=true:=decide_eq_true h1;have HQ:=ae (HG2.out true (by rw[G9.out,hd1];rfl));clear HG2 G9 h1;go_wp2_with fail;go_quiet (fail);have Qq:=ae (Og.out.trans ((bC w4 nq).mono Og.out.size));go_wp2;go_roundg (5-(s+1));(case measure=>omega);case rel=>exact⟨s+1,j,rfl,hs,rfl,by simp,hjk,HQ,Qq.out⟩
         have hd1:decide (zt<jt)=false:=decide_eq_false h1
         by_cases h2:jt=zt
         rotate_left
         · have hq2:(jt==zt)=false:=by{simpa using h2};have HQ:=ae (HG2.out false (by rw[G9.out,hd1,decide_eq_false h2];rfl));clear HG2 G9 h1 h2;go_wp2_with fail;go_quiet (fail);have Qq:=ae (Og.out.trans ((bC w4 nq).mono Og.out.size));go_wp2;go_roundg (5-(s+1));(case measure=>omega);case rel=>exact⟨s+1,z,rfl,hs,rfl,by simp,MF,HQ,Qq.out⟩
         have hq2:(jt==zt)=true:=by simpa using h2
         by_cases h3:zb<jb
         · have hd3:decide (zb<jb)=true:=decide_eq_true h3;have HQ:=ae (HG2.out true (by rw[G9.out,hd1,decide_eq_true h2,hd3];rfl));clear HG2 G9 h1 h2 h3;go_wp2_with fail;go_quiet (fail);have Qq:=ae (Og.out.trans ((bC w4 nq).mono Og.out.size));go_wp2;go_roundg (5-(s+1));(case measure=>omega);case rel=>exact⟨s+1,j,rfl,hs,rfl,by simp,hjk,HQ,Qq.out⟩
         · have hd3:decide (zb<jb)=false:=decide_eq_false h3;have HQ:=ae (HG2.out false (by rw[G9.out,hd1,decide_eq_true h2,hd3];rfl));clear HG2 G9 h1 h2 h3;go_wp2_with fail;go_quiet (fail);have Qq:=ae (Og.out.trans ((bC w4 nq).mono Og.out.size));go_wp2;go_roundg (5-(s+1));(case measure=>omega);case rel=>exact⟨s+1,z,rfl,hs,rfl,by simp,MF,HQ,Qq.out⟩
      have wJ:(k:Int)<(n:Int):=by omega
      have hc:=hox.cell hkn
      have hv:=Uh.out k hkn
      have MG:=ae (ak hho hBx)
      have nu:=fun(v:Nat) (h1:h0.getD k 0=(v:Int)) (h2:v<5) h3=>Gy (l:=l) (i:=i) h1 h2 h3
      have BL:=@Iw l h0 i k
      obtain⟨v,hvv⟩:∃v,h0.getD k 0=v:=⟨_,rfl⟩
      rw[hvv]at hc hv nu BL
      by_cases hv0:v<0
      · have hd:decide (0<=v)=false:=decide_eq_false (by omega);have HN:=ae (BL (.inl hv0));clear hv nu BL hvv hho hBx hox hsx;go_wp2_with fail;go_quiet (fail);have HQ:=ae (ak (MG.out.1.kept (bC w3 nq)) (MG.out.2.trans ((bC w3 nq).mono MG.out.2.size)));go_wp2;go_roundg (n-(k+1));(case measure=>omega);case rel=>exact⟨k+1,rfl,hkn,by simp,by rw[HN.out];exact HQ.out.1,HQ.out.2⟩
      have hd:decide (0<=v)=true:=decide_eq_true (by omega)
      obtain⟨vn,rfl⟩:=Int.eq_ofNat_of_zero_le (show 0<=v by omega)
      have hv5:vn<5:=by omega
      have aij:(vn:Int)<5:=by omega
      have Zq:=ae (nu vn rfl hv5)
      have zW:=ae (BL)
      obtain⟨a0,a1,a2,a3⟩:=hsx.cell hkn
      obtain⟨b0,b1,b2,b3⟩:=hsx.cell hil
      have rC:=fun W=>xV (l.getD k .z) (l.getD i .z) W
      generalize Sp.bH (l.getD k .z) (l.getD i .z)=M at rC Zq zW
      generalize l.getD k .z=sk at a0 a1 a2 a3 rC
      generalize l.getD i .z=si at b0 b1 b2 b3 rC
      have c0:∀p:bW w3,p.to.cell? ⟨gh,k,none⟩=some (.int .i64 (vn:Int)):=fun p=>(p.h.cell (p:=⟨gh,k,none⟩) hgx.2).trans hc
      have p0:∀p:bW w3,p.to.cell? ⟨gs,k*4,none⟩=some (.int .i64 sk.b):=fun p=>(p.h.cell (p:=⟨gs,k*4,none⟩) hsl.2).trans a0
      have p1:∀p:bW w3,p.to.cell? ⟨gs,k*4+1,none⟩=some (.int .i64 sk.f):=fun p=>(p.h.cell (p:=⟨gs,k*4+1,none⟩) hsl.2).trans a1
      have p2:∀p:bW w3,p.to.cell? ⟨gs,k*4+2,none⟩=some (.int .i64 sk.t):=fun p=>(p.h.cell (p:=⟨gs,k*4+2,none⟩) hsl.2).trans a2
      have p3:∀p:bW w3,p.to.cell? ⟨gs,k*4+3,none⟩=some (.bool sk.c):=fun p=>(p.h.cell (p:=⟨gs,k*4+3,none⟩) hsl.2).trans a3
      have q0:∀p:bW w3,p.to.cell? ⟨gs,i*4,none⟩=some (.int .i64 si.b):=fun p=>(p.h.cell (p:=⟨gs,i*4,none⟩) hsl.2).trans b0
      have q1:∀p:bW w3,p.to.cell? ⟨gs,i*4+1,none⟩=some (.int .i64 si.f):=fun p=>(p.h.cell (p:=⟨gs,i*4+1,none⟩) hsl.2).trans b1
      have q2:∀p:bW w3,p.to.cell? ⟨gs,i*4+2,none⟩=some (.int .i64 si.t):=fun p=>(p.h.cell (p:=⟨gs,i*4+2,none⟩) hsl.2).trans b2
      have q3:∀p:bW w3,p.to.cell? ⟨gs,i*4+3,none⟩=some (.bool si.c):=fun p=>(p.h.cell (p:=⟨gs,i*4+3,none⟩) hsl.2).trans b3
      have hne:=bW.any w3
      clear hv nu BL hvv hho hBx hox hsx a0 a1 a2 a3 b0 b1 b2 b3 hc
      go_wp2_with fail
      refine aS (by kernel_rfl) (by kernel_rfl) ?_
      repeat(go_big_quiet_step (first|(go_at_call 47;refine eP (rC _))))
      refine wpQuiet_nil ?_
      rintro _ ⟨pw,rfl⟩
      obtain⟨w4,hw4⟩:∃W,pw.to=W:=⟨_,rfl⟩
      have vM:=ae pw.h
      rw[hw4]at vM
      have hcw:=c0 pw
      rw[hw4]at hcw ⊢
      clear c0 p0 p1 p2 p3 q0 q1 q2 q3 rC hne hw4
      have hw3:w2.heap.size<w4.heap.size:=aj hhx.2 vM.out.size
      have hgw:=aj hgx.2 vM.out.size
      have RS:=ae (ak (MG.out.1.kept vM.out) (MG.out.2.trans (vM.out.mono MG.out.2.size)))
      clear MG
      cases M
      · have HN:=ae (zW.out (.inr rfl));clear Zq zW;go_wp2;go_roundg (n-(k+1));(case measure=>omega);case rel=>exact⟨k+1,rfl,hkn,by simp,by rw[HN.out];exact RS.out.1,RS.out.2⟩
      · have HN:=ae (Zq.out rfl);have hhc:=RS.out.1.cell hv5;have hfz:=RS.out.1.frozen;have HG4:=ae (ak (RS.out.1.set vn (k:Int)) (aC RS.out.2 (aB w4 ⟨w2.heap.size,vn,none⟩ (.int .i64 (k:Int))) (Nat.le_refl _)));clear Zq zW;go_wp2;go_roundg (n-(k+1));(case measure=>omega);case rel=>exact⟨k+1,rfl,hkn,by simp,by rw[HN.out];exact HG4.out.1,HG4.out.2⟩
section
open Go.RowKit
set_option linter.unusedSimpArgs false
namespace Hm
open Sp
theorem xg (l:List S)(x:Int):lg l x=(List.range l.length).countP fun k=>decide ((l.getD k .z).f<=x)&&decide (x<=(l.getD k .z).t):=by unfold lg;have e:l=(List.range l.length).map fun k=>l.getD k .z:=by{refine List.ext_getElem (by simp) fun j h1 h2=>?_;rw[List.getElem_map,List.getElem_range,ah,ai h1];rfl};(conv=>lhs;rw[e]);rw[List.countP_map];rfl
theorem uj {p:Nat->Bool}:∀n,(∀a b,a<n->b<n->p a=true->p b=true->a=b)->(List.range n).countP p<=1
 |0,_=>by simp
 | n + 1,h=>by
   have ih:=uj n fun a b ha hb=>h a b (by omega) (by omega)
   rw[List.range_succ,List.countP_append,List.countP_singleton]
   split
   · rename_i hn
     have h0:(List.range n).countP p=0:=by
       rw[List.countP_eq_zero]
       intro a ha hp
       have:=h a n (by have:=List.mem_range.1 ha;omega) (by omega) hp hn
       have:=List.mem_range.1 ha
       omega
     omega
   · omega
theorem xU {p q r:Nat->Bool}(n:Nat)(h:∀k,k<n->p k=true->q k=true\/r k=true):(List.range n).countP p<=(List.range n).countP q+(List.range n).countP r:=by
 induction n with
 |zero=>simp
 |succ n ih=>
  have ih:=ih fun k hk=>h k (by omega)
  have hn:=h n (by omega)
  rw[List.range_succ,List.countP_append,List.countP_append,List.countP_append,List.countP_singleton,List.countP_singleton,List.countP_singleton]
  rcases hp:p n with _|_
  · simp;split<;>split<;>omega
  · rcases hn hp with hq|hr;{rw[ay rfl,ay hq];split<;>omega};rw[ay rfl,ay hr];split<;>omega
def Rz (l:List S)(h:List Int):Nat:=(List.range l.length).countP fun k=>decide (h.getD k 0=-2)
def Le (l:List S):Nat:=(List.range l.length).countP fun k=>(l.getD k .z).c
theorem pu {l:List S}{h:List Int}(hI:Inv l l.length h)(x:Int):∀s:Nat,(List.range l.length).countP (fun k=>(decide ((l.getD k .z).f<=x)&&decide (x<=(l.getD k .z).t))&&(decide (0<=h.getD k 0)&&decide (h.getD k 0<(s:Int))))<=s
 | 0=>by
   refine Nat.le_of_eq (List.countP_eq_zero.2 fun k _ hk=>?_)
   simp only[au,decide_eq_true_eq]at hk
   omega
 | s + 1=>by
   have ih:=pu hI x s
   have h1:=uj (p:=fun k=>(decide ((l.getD k .z).f<=x)&&decide (x<=(l.getD k .z).t))&&decide (h.getD k 0=(s:Int))) l.length (by
     intro a b ha hb hpa hpb
     simp only[au,decide_eq_true_eq]at hpa hpb
     refine Classical.byContradiction fun hne=>?_
     have h2:=hI.apart a b ha hb hne (by rw[hpa.2,hpb.2]) (by omega)
     have h3:bH (l.getD a .z) (l.getD b .z)=true:=by
       unfold bH
       simp only[au,decide_eq_true_eq]
       omega
     rw[h3]at h2
     cases h2)
   have h2:=xU (p:=fun k=>(decide ((l.getD k .z).f<=x)&&decide (x<=(l.getD k .z).t))&&(decide (0<=h.getD k 0)&&decide (h.getD k 0<((s+1:Nat):Int)))) (q:=fun k=>(decide ((l.getD k .z).f<=x)&&decide (x<=(l.getD k .z).t))&&(decide (0<=h.getD k 0)&&decide (h.getD k 0<(s:Int)))) (r:=fun k=>(decide ((l.getD k .z).f<=x)&&decide (x<=(l.getD k .z).t))&&decide (h.getD k 0=(s:Int))) l.length (by
     intro k hk hp
     simp only[au,decide_eq_true_eq]at hp ⊢
     omega)
   omega
theorem Lx {l:List S}{h:List Int}(hI:Inv l l.length h)(x:Int):lg l x<=5+Rz l h:=by
 have h1:=pu hI x 5
 have h2:=xU (p:=fun k=>decide ((l.getD k .z).f<=x)&&decide (x<=(l.getD k .z).t)) (q:=fun k=>(decide ((l.getD k .z).f<=x)&&decide (x<=(l.getD k .z).t))&&(decide (0<=h.getD k 0)&&decide (h.getD k 0<((5:Nat):Int)))) (r:=fun k=>decide (h.getD k 0=-2)) l.length (by
  intro k hk hp
  have h3:=hI.val k (zL hk)
  simp only[au,decide_eq_true_eq]at hp ⊢
  omega)
 rw[xg]
 unfold Rz
 omega
theorem Ej {l:List S}{h:List Int}(hI:Inv l l.length h):Le l<=Rz l h:=by refine List.countP_mono_left fun k hk hc=>?_;have h3:=hI.val k (zL (List.mem_range.1 hk));rw[decide_eq_true_eq];rcases h3 with h3|⟨_,_,h3⟩;{exact h3};rw[h3]at hc;cases hc
theorem ry {p:Nat->Bool}:∀(n:Nat)(ks:List Nat),ks.Nodup->(∀k∈ks,k<n/\p k=true)->ks.length<=(List.range n).countP p
 | 0,ks,_,h=>by
   cases ks with
   |nil=>simp
   |cons k r=>have:=(h k (by simp)).1;omega
 | n +1,ks,hn,h=>by
   have ih:=ry n (ks.erase n) (hn.erase n) fun k hk=>by
     have h1:=h k (List.mem_of_mem_erase hk)
     have h2:k≠n:=(hn.mem_erase_iff.1 hk).1
     exact⟨by omega,h1.2⟩
   rw[List.range_succ,List.countP_append,List.countP_singleton]
   by_cases hm:n∈ks
   · rw[List.length_erase_of_mem hm]at ih
     rw[ay (h n hm).2]
     omega
   · rw[List.erase_of_not_mem hm]at ih
     omega
theorem Ep {l:List S}(hp:∀x,lg l x<=5)(hft:∀k,k<l.length->(l.getD k .z).f<=(l.getD k .z).t):∀n,n<=l.length->∀k,k<l.length->(run l n).getD k 0=-2->(l.getD k .z).c=true
 | 0,_,k,hk,e=>by
   have:(run l 0).getD k 0=-1:=by
     show(List.replicate l.length (-1:Int)).getD k 0=-1
     rw[ah,List.getElem?_replicate,ay hk]
     rfl
   omega
 | n + 1,hn,k,hk,e=>by
   have ih:=Ep hp hft n (by omega)
   have hI:=Inv.run l n (by omega)
   have hbef:=fun k hk=>zA (k:=k) (show n<l.length by omega) hk
   have hnew:=yl (l:=l) (show n<l.length by omega)
   have hil:(ord l l.length).getD n 0<l.length:=kU ⟨n,Nat.lt_succ_self n,by omega,rfl⟩
   change(put l (run l n) ((ord l l.length).getD n 0)).getD k 0=-2 at e
   generalize(ord l l.length).getD n 0=i at hbef hnew hil e
   generalize run l n=h at ih hI e
   have hih:i<h.length:=by rw[hI.len];exact hil
   have hi1:=hI.un i hil hnew
   have hdn:∀k,k<l.length->0<=h.getD k 0->dn l n k:=fun k hk h0=>by
     refine Classical.byContradiction fun hc=>?_
     have:=hI.un k hk hc
     omega
   unfold put at e
   split at e
   · rename_i hc
     rw[bS h i k _ hih]at e
     split at e
     · rename_i hik
       rw[←hik]
       exact hc
     · exact ih k hk e
   · split at e
     · rename_i sh z hg
       obtain⟨h1,h2,h3⟩:=kQ hg
       rw[bS h i k _ hih]at e
       split at e
       · omega
       · exact ih k hk e
     · rename_i z hg
       exfalso
       obtain⟨h1,-⟩:=mY hg
       have hk:∀s:Nat,s<5->∃k,k<l.length/\h.getD k 0=(s:Int)/\bH (l.getD k .z) (l.getD i .z)=true:=fun s hs=>by
         obtain⟨a,b,c⟩:=kg (h1 (s:Int) (by omega) (by omega))
         exact⟨_,a,b,c⟩
       obtain⟨k0,a0,b0,c0⟩:=hk 0 (by omega)
       obtain⟨k1,a1,b1,c1⟩:=hk 1 (by omega)
       obtain⟨k2,a2,b2,c2⟩:=hk 2 (by omega)
       obtain⟨k3,a3,b3,c3⟩:=hk 3 (by omega)
       obtain⟨k4,a4,b4,c4⟩:=hk 4 (by omega)
       have hon:∀k,k<l.length->0<=h.getD k 0->bH (l.getD k .z) (l.getD i .z)=true->(l.getD k .z).f<=(l.getD i .z).f/\(l.getD i .z).f<=(l.getD k .z).t:=fun k hk h0 hm=>by
         refine⟨hbef k (hdn k hk h0),?_⟩
         unfold bH at hm
         simp only[au,decide_eq_true_eq]at hm
         omega
       have hx:=hp (l.getD i .z).f
       rw[xg]at hx
       have hne:∀{a b:Nat}{s t:Int},h.getD a 0=s->h.getD b 0=t->s≠t->a≠b:=fun{a b s t} ha hb hst e=>hst (by rw[←ha,←hb,e])
       have h6:=ry (p:=fun k=>decide ((l.getD k .z).f<=(l.getD i .z).f)&&decide ((l.getD i .z).f<=(l.getD k .z).t)) l.length [i,k0,k1,k2,k3,k4] (by
         simp only[List.nodup_cons,List.mem_cons,List.not_mem_nil,or_false,not_or,not_false_eq_true,List.nodup_nil,and_true]
         exact⟨⟨hne hi1 b0 (by decide),hne hi1 b1 (by decide),hne hi1 b2 (by decide),hne hi1 b3 (by decide),hne hi1 b4 (by decide)⟩,⟨hne b0 b1 (by decide),hne b0 b2 (by decide),hne b0 b3 (by decide),hne b0 b4 (by decide)⟩,⟨hne b1 b2 (by decide),hne b1 b3 (by decide),hne b1 b4 (by decide)⟩,⟨hne b2 b3 (by decide),hne b2 b4 (by decide)⟩,hne b3 b4 (by decide)⟩) (by
         intro k hk
         simp only[List.mem_cons,List.not_mem_nil,or_false]at hk
         rw[au,decide_eq_true_eq,decide_eq_true_eq]
         rcases hk with rfl|rfl|rfl|rfl|rfl|rfl
         · exact⟨hil,Int.le_refl _,hft _ hil⟩
         · exact⟨a0,hon _ a0 (by omega) c0⟩
         · exact⟨a1,hon _ a1 (by omega) c1⟩
         · exact⟨a2,hon _ a2 (by omega) c2⟩
         · exact⟨a3,hon _ a3 (by omega) c3⟩
         · exact⟨a4,hon _ a4 (by omega) c4⟩)
       simp only[List.length_cons,List.length_nil]at h6
       omega
theorem Mq {l:List S}(hp:∀x,lg l x<=5)(hft:∀k,k<l.length->(l.getD k .z).f<=(l.getD k .z).t):Rz l (run l l.length)=Le l:=by refine Nat.le_antisymm (List.countP_mono_left fun k hk hc=>?_) (Ej (Inv.run l l.length (Nat.le_refl _)));exact Ep hp hft l.length (Nat.le_refl _) k (List.mem_range.1 hk) (by simpa using hc)
end Hm
end
section
open Go.RowKit
set_option linter.unusedSimpArgs false
namespace Hm
open Sp
theorem sP {o:List Int}{j:Nat}(h:j<o.length):o.getD j 0=o[j]:=by rw[ah,ai h];rfl
def dD (h:List Int):Nat->Nat
 |0=>0
 |i+1=>if h.getD i 0=-2 then dD h i+1 else dD h i
def val (h:List Int)(i:Nat):Int:=if h.getD i 0=-2 then 100+(dD h i:Int)else h.getD i 0
def eY (l:List S)(h:List Int):Nat->List Int
 |0=>List.replicate 40 (-1)
 |i+1=>(eY l h i).set (l.getD i .z).b.toNat (val h i)
def homes (ls:List Ln):List Int:=if Ln.isOk ls=true then eY (bB ls) (run (bB ls) (bB ls).length) (bB ls).length else[]
def hm (x:Int):Bool:=decide (x=-1)||(decide (0<=x/\x<=4)||decide (100<=x/\x<=163))
def nG (l:List S)(hs:List Int)(n:Nat):Bool:=
 (List.range n).all fun i=>(decide (0<=hs.getD (l.getD i .z).b.toNat 0)&& !(decide (hs.getD (l.getD i .z).b.toNat 0<100)&&(l.getD i .z).c))&&
   (List.range i).all fun k=> !(decide (hs.getD (l.getD k .z).b.toNat 0=hs.getD (l.getD i .z).b.toNat 0)&&bH (l.getD i .z) (l.getD k .z))
def gJ (ls:List Ln)(hs:List Int):Bool:=(Ln.isOk ls&&decide (hs.length=40))&&((List.range 40).all (fun i=>hm (hs.getD i 0))&&nG (bB ls) hs (bB ls).length)
def size (hs:List Int):Nat:=hs.countP fun x=>decide (100<=x)
theorem zz (h:List Int):∀i,dD h i<=i
 |0=>Nat.le_refl _
 | i+1=>by
   have:=zz h i
   unfold dD
   split<;>omega
theorem Jl (h:List Int)(i:Nat):dD h i=(List.range i).countP fun k=>decide (h.getD k 0=-2):=by
 induction i with
 |zero=>rfl
 |succ i ih=>
  rw[List.range_succ,List.countP_append,List.countP_singleton,←ih]
  show(if h.getD i 0=-2 then dD h i+1 else dD h i)=_
  by_cases e:h.getD i 0=-2
  · rw[ay e,ay (by rw[e];rfl)]
  · rw[ax e,ax (by simpa using e)];rfl
structure Bx (l:List S):Prop where
 len:l.length<=40
 lo:∀k,k<l.length->0<=(l.getD k .z).b/\(l.getD k .z).b<40
 one:∀j k,j<k->k<l.length->(l.getD j .z).b<(l.getD k .z).b
theorem at_mem {l:List S}{k:Nat}(h:k<l.length):l.getD k .z∈l:=by rw[ah,ai h];exact List.getElem_mem h
theorem kM (ls:List Ln):Bx (out ls 40):=by refine⟨oD ls 40,fun k hk=>?_,fun j k hj hk=>?_⟩;{obtain⟨b,f,t,hI⟩:=xR (at_mem hk);have:=hI.bx;have:=hI.b40;omega};have h:=List.pairwise_iff_getElem.1 (AU ls 40) j k (by omega) hk hj;rw[ah,ah,ai hk,ai (show j<(out ls 40).length by omega)];exact h
theorem Pd (ls:List Ln):∀k,k<(out ls 40).length->((out ls 40).getD k .z).f<=((out ls 40).getD k .z).t:=fun k hk=>by
 obtain⟨b,f,t,hI⟩:=xR (at_mem hk)
 have:=hI.fr
 have:=hI.to
 have:=hI.le
 omega
section
variable {l : List S} {h : List Int}
theorem gU (l:List S)(h:List Int):∀i,(eY l h i).length=40
 |0=>by simp[eY]
 |i+1=>by unfold eY;rw[List.length_set,gU]
theorem kG (hB:Bx l):∀(i:Nat),i<=l.length->∀b:Nat,b<40->(∀k,k<i->(l.getD k .z).b≠(b:Int))->(eY l h i).getD b 0=-1
 | 0,_,b,hb,_=>by
   show(List.replicate 40 (-1:Int)).getD b 0=-1
   rw[ah,List.getElem?_replicate,ay hb]
   rfl
 | i+1,hi,b,hb,hne=>by
   have h1:=hne i (by omega)
   have h2:=hB.lo i (by omega)
   show((eY l h i).set (l.getD i .z).b.toNat (val h i)).getD b 0=-1
   rw[bS _ _ _ _ (by rw[gU];omega),ax (by omega)]
   exact kG hB i (by omega) b hb fun k hk=>hne k (by omega)
theorem oF (hB:Bx l):∀(i:Nat),i<=l.length->∀k,k<i->(eY l h i).getD (l.getD k .z).b.toNat 0=val h k
 |0,_,k,hk=>absurd hk (by omega)
 | i +1,hi,k,hk=>by
   have h2:=hB.lo i (by omega)
   have h3:=hB.lo k (by omega)
   show((eY l h i).set (l.getD i .z).b.toNat (val h i)).getD (l.getD k .z).b.toNat 0=val h k
   rw[bS _ _ _ _ (by rw[gU];omega)]
   by_cases e:k=i
   · rw[e,ay rfl]
   · have h4:=hB.one k i (by omega) (by omega)
     rw[ax (by omega)]
     exact oF hB i (by omega) k (by omega)
theorem wV (h:List Int){i:Nat}:∀{j:Nat},i<=j->dD h i<=dD h j
 |0,hij=>by rw[show i=0 by omega];exact Nat.le_refl _
 | j +1,hij=>by
   by_cases e:i=j+1
   · rw[e];exact Nat.le_refl _
   · have:=wV h (i:=i) (j:=j) (by omega)
     show dD h i<=(if h.getD j 0=-2 then dD h j+1 else dD h j)
     split<;>omega
theorem LW (h:List Int){i j:Nat}(hij:i<j)(e:h.getD i 0=-2):dD h i<dD h j:=by have h1:=wV h (i:=i+1) (j:=j) hij;have h2:dD h (i+1)=dD h i+1:=by{show(if h.getD i 0=-2 then dD h i+1 else dD h i)=_;rw[ay e]};omega
theorem pU (hB:Bx l)(hI:Inv l l.length h){k:Nat}(hk:k<l.length):(h.getD k 0=-2/\val h k=100+(dD h k:Int)/\val h k<=139)\/(0<=val h k/\val h k<=4/\val h k=h.getD k 0/\(l.getD k .z).c=false):=by have h1:=hI.val k (zL hk);have h2:=zz h k;have h3:=hB.len;by_cases e:h.getD k 0=-2;{refine .inl ⟨e,?_,?_⟩;{unfold val;rw[ay e]};unfold val;rw[ay e];omega};rcases h1 with h1|⟨h4,h5,h6⟩;{exact absurd h1 e};refine .inr ?_;have e2:val h k=h.getD k 0:=by{unfold val;rw[ax e]};rw[e2];exact⟨h4,h5,rfl,h6⟩
theorem F9 (hB:Bx l)(hI:Inv l l.length h):nG l (eY l h l.length) l.length=true:=by have hat:=fun k hk=>oF (h:=h) hB l.length (Nat.le_refl _) k hk;unfold nG;rw[List.all_eq_true];intro i hi;have hi:=List.mem_range.1 hi;rw[hat i hi,au];refine⟨?_,?_⟩;{rcases pU hB hI hi with⟨e,h1,h2⟩|⟨h1,h2,h3,h4⟩;{simp only[au,decide_eq_true_eq,Bool.not_eq_true'];exact⟨by omega,by rw[decide_eq_false (by omega)];rfl⟩};simp only[au,decide_eq_true_eq,Bool.not_eq_true'];exact⟨h1,by rw[h4,Bool.and_false]⟩};rw[List.all_eq_true];intro k hk;have hk:=List.mem_range.1 hk;rw[hat k (by omega)];rcases hm:bH (l.getD i .z) (l.getD k .z)with _|_;{rw[Bool.and_false];rfl};rw[decide_eq_false];{rfl};intro e;rcases pU hB hI hi with⟨e1,h1,h2⟩|⟨h1,h2,h3,h4⟩;{rcases pU hB hI (show k<l.length by omega)with⟨e5,h5,h6⟩|⟨h5,h6,h7,h8⟩;{have:=LW h hk e5;omega};omega};rcases pU hB hI (show k<l.length by omega)with⟨e5,h5,h6⟩|⟨h5,h6,h7,h8⟩;{omega};have:=hI.apart i k hi (by omega) (by omega) (by omega) (by omega);rw[hm]at this;cases this
theorem Dm (hB:Bx l)(hI:Inv l l.length h):(List.range 40).all (fun i=>hm ((eY l h l.length).getD i 0))=true:=by rw[List.all_eq_true];intro b hb;have hb:=List.mem_range.1 hb;by_cases hx:∃k,k<l.length/\(l.getD k .z).b=(b:Int);{obtain⟨k,hk,e⟩:=hx;have h1:=oF (h:=h) hB l.length (Nat.le_refl _) k hk;rw[e,az]at h1;rw[h1];unfold hm;rcases pU hB hI hk with⟨e1,h1,h2⟩|⟨h1,h2,h3,h4⟩;{rw[decide_eq_true (show 100<=val h k/\val h k<=163 by omega)];simp};rw[decide_eq_true (show 0<=val h k/\val h k<=4 by omega)];simp};rw[kG hB l.length (Nat.le_refl _) b hb fun k hk e=>hx ⟨k,hk,e⟩];rfl
theorem tH (hB:Bx l)(hI:Inv l l.length h):∀i,i<=l.length->size (eY l h i)=dD h i
 | 0,_=>by
   show(List.replicate 40 (-1:Int)).countP _=0
   rw[List.countP_eq_zero]
   intro x hx
   rw[List.eq_of_mem_replicate hx]
   decide
 | i +1,hi=>by
   have ih:=tH hB hI i (by omega)
   have h2:=hB.lo i (by omega)
   have hlt:(l.getD i .z).b.toNat<(eY l h i).length:=by rw[gU];omega
   have hold:=kG (h:=h) hB i (by omega) (l.getD i .z).b.toNat (by omega) fun k hk e=>by
     have:=hB.one k i hk (by omega)
     omega
   have Ui:(eY l h i)[(l.getD i .z).b.toNat]=-1:=by
     rw[sP hlt]at hold
     exact hold
   show((eY l h i).set (l.getD i .z).b.toNat (val h i)).countP (fun x=>decide (100<=x))=_
   rw[List.countP_set hlt,Ui]
   unfold size at ih
   rw[ih]
   rcases pU hB hI (show i<l.length by omega)with⟨e1,h1,-⟩|⟨h1,h2,h3,h4⟩
   · rw[ax (by decide),ay (by rw[decide_eq_true_eq];omega)]
     show _=(if h.getD i 0=-2 then dD h i+1 else dD h i)
     rw[ay e1]
     omega
   · rw[ax (by decide),ax (by rw[decide_eq_true_eq];omega)]
     show _=(if h.getD i 0=-2 then dD h i+1 else dD h i)
     rw[ax (by omega)]
     omega
theorem xx (hB:Bx l)(hI:Inv l l.length h){p:Nat}:∀i,i<=l.length->p<dD h i->∃k,k<i/\h.getD k 0=-2/\dD h k=p
 |0,_,hp=>absurd hp (by simp[dD])
 | i + 1,hi,hp=>by
   by_cases hp2:p<dD h i
   · obtain⟨k,h1,h2⟩:=xx hB hI i (by omega) hp2
     exact⟨k,by omega,h2⟩
   · change p<(if h.getD i 0=-2 then dD h i+1 else dD h i)at hp
     split at hp
     · rename_i e
       exact⟨i,by omega,e,by omega⟩
     · omega
theorem FN (hB:Bx l)(hI:Inv l l.length h){p:Nat}(hp:p<size (eY l h l.length)):(100+(p:Int))∈eY l h l.length:=by rw[tH hB hI _ (Nat.le_refl _)]at hp;obtain⟨k,h1,h2,h3⟩:=xx hB hI l.length (Nat.le_refl _) hp;have h4:=oF (h:=h) hB l.length (Nat.le_refl _) k h1;have h5:=hB.lo k h1;have hlt:(l.getD k .z).b.toNat<(eY l h l.length).length:=by{rw[gU];omega};rw[sP hlt]at h4;have e:val h k=100+(p:Int):=by{unfold val;rw[ay h2,h3]};rw[←e,←h4];exact List.getElem_mem hlt
end
theorem Bc {ls:List Ln}(hok:Ln.isOk ls=true):gJ ls (homes ls)=true/\(homes ls).length=40:=by have e:bB ls=out ls 40:=by{unfold bB;rw[ay hok]};have hB:=kM ls;have hI:=Inv.run (out ls 40) _ (Nat.le_refl _);unfold gJ homes;rw[ay hok,e,hok,gU,F9 hB hI,Dm hB hI];exact⟨rfl,rfl⟩
theorem BJ {ls:List Ln}(hok:Ln.isOk ls=true){p:Nat}(hp:p<size (homes ls)):(100+(p:Int))∈homes ls:=by have e:bB ls=out ls 40:=by{unfold bB;rw[ay hok]};unfold homes at hp ⊢;rw[ay hok,e]at hp ⊢;exact FN (kM ls) (Inv.run (out ls 40) _ (Nat.le_refl _)) hp
theorem Dn {ls:List Ln}(hok:Ln.isOk ls=true):size (homes ls)=Rz (out ls 40) (run (out ls 40) (out ls 40).length):=by have e:bB ls=out ls 40:=by{unfold bB;rw[ay hok]};unfold homes;rw[ay hok,e,tH (kM ls) (Inv.run (out ls 40) _ (Nat.le_refl _)) _ (Nat.le_refl _),Jl];rfl
theorem uH {ls:List Ln}(hok:Ln.isOk ls=true):(dN ls<=5->size (homes ls)=Le (bB ls))/\(¬dN ls<=5->Le (bB ls)<=size (homes ls)/\0<size (homes ls)):=by have e:bB ls=out ls 40:=by{unfold bB;rw[ay hok]};have hI:=Inv.run (out ls 40) _ (Nat.le_refl _);have hpr:dN ls=(pr (out ls 40) ls.length:Int):=by{unfold dN;rw[ay hok]};rw[Dn hok,e,hpr];refine⟨fun hp=>?_,fun hp=>?_⟩;{refine Mq (fun x=>?_) (Pd ls);by_cases h0:lg (out ls 40) x=0;{omega};obtain⟨s,hs,h2⟩:=FD _ _ h0;obtain⟨b,f,t,h⟩:=xR hs;have h3:=xq (out ls 40) ls.length f (Nat.lt_of_le_of_lt h.le h.lt);rw[h.fr]at h2;omega};refine⟨Ej hI,?_⟩;have h1:¬pr (out ls 40) ls.length<=5:=by{omega};have h2:∃i,i<ls.length/\¬lg (out ls 40) (i:Int)<=5:=by{refine Classical.byContradiction fun hc=>h1 (NJ _ _ _ fun i hi=>?_);refine Classical.byContradiction fun h=>hc ⟨i,hi,h⟩};obtain⟨i,hi,h3⟩:=h2;have:=Lx hI (i:Int);omega
theorem mU (ls:List Ln):(homes ls).length<=1000:=by unfold homes;split;{rw[gU];omega};simp
end Hm
end
theorem LL.at {w:World}{a:Option Addr}{len:Nat}{ls:List Ln}(h:LL w a len ls){p:Nat}(hp:p<len):∃b off,a=some ⟨b,off,none⟩/\b<w.heap.size/\LC w b (off+p*6) (ls.getD p .z):=by obtain⟨-,-,h0|⟨b,off,rfl,hb,hx⟩⟩:=h;{omega};exact⟨b,off,rfl,hb,hx p hp⟩
theorem ww (a:Option Addr)(len cap:Nat)(ls:List Ln)(p:Nat)(hp:p<len)(hlen:len<=1000)(w:World)(hs:LL w a len ls):Calls Tryz.prog 102 #[.slice a len cap, .int .i64 (p:Int)] w fun e w'=>∃g m c,e= .returned (.slice (some ⟨g,0,none⟩) m c)/\OG w' w.heap.size g m c (Fl.nx (ls.getD p .z) p)/\Below w.heap.size w w':=by obtain⟨b,off,rfl,hb,hc⟩:=hs.at hp;clear hs;have ML:(p:Int)<(len:Int):=by{omega};have Cr:(len:Int)<=1000:=by{omega};obtain⟨x,hx⟩:∃x,ls.getD p .z=x:=⟨_,rfl⟩;rw[hx]at hc ⊢;clear hx;obtain⟨k,d,a',b',n,l⟩:=x;obtain⟨c0,c1,c2,c3,c4,-⟩:=hc;simp only at c0 c1 c2 c3 c4;clear c1 c2 c3;by_cases h5:k=5;{subst h5;have e:Fl.nx ⟨5,d,a',b',n,l⟩ p=[n]:=rfl;rw[e];have ho:=OG.one w w.heap.size (Nat.le_refl _) n;have hB:=aA w (.cells #[.int .i64 n] 2);clear e;go_enter Tryz.func102,Tryz.ntmps102;go_wp2;go_ret;exact⟨_,1,1,rfl,ho,hB⟩};by_cases h6:k=6;{subst h6;have e:Fl.nx ⟨6,d,a',b',n,l⟩ p=Ln.put [(p:Int)+1] n:=rfl;rw[e];have ho:=OG.one w w.heap.size (Nat.le_refl _) ((p:Int)+1);have hB:=aA w (.cells #[.int .i64 ((p:Int)+1)] 2);have hcon:=nW w.heap.size w.heap.size 1 1 [(p:Int)+1] n (by omega) (w.alloc (.cells #[.int .i64 ((p:Int)+1)] 2)) hB.size ho;have HB:=ae hB;clear e ho hB h5;go_enter Tryz.func102,Tryz.ntmps102;go_wp2_with(go_at_call 121;refine hcon.mono ?_;rintro e w2 ⟨g,m,c,rfl,ho2,hB2⟩;dsimp only;have HF:=ae (ak ho2 (HB.out.trans (hB2.mono HB.out.size)));clear ho2 hB2 hcon);go_ret;exact⟨g,m,c,rfl,HF.out.1,HF.out.2⟩};have k5:(k==5)=false:=by{simp;omega};have k6:(k==6)=false:=by{simp;omega};by_cases h10:k=10\/k=11;{have e:Fl.nx ⟨k,d,a',b',n,l⟩ p=[]:=by{unfold Fl.nx;rw[ax h5,ax h6,ay h10]};rw[e];have ho:=OG.empty w w.heap.size (Nat.le_refl _);have hB:=aA w (.cells #[] 2);clear e k5 k6 h5 h6;rcases h10 with rfl|rfl;all_goals go_enter Tryz.func102,Tryz.ntmps102;go_wp2;go_ret;exact⟨_,0,0,rfl,ho,hB⟩};have e:Fl.nx ⟨k,d,a',b',n,l⟩ p=[(p:Int)+1]:=by{unfold Fl.nx;rw[ax h5,ax h6,ax h10]};rw[e];have k10:(k==10)=false:=by{simp;omega};have k11:(k==11)=false:=by{simp;omega};have ho:=OG.one w w.heap.size (Nat.le_refl _) ((p:Int)+1);have hB:=aA w (.cells #[.int .i64 ((p:Int)+1)] 2);clear e h5 h6 h10;go_enter Tryz.func102,Tryz.ntmps102;go_wp2;go_ret;exact⟨_,1,1,rfl,ho,hB⟩
def nz (f:List Nat):List Int:=f.map fun x:Nat=>(x:Int)
theorem tZ (f:List Nat):(nz f).length=f.length:=by simp[nz]
theorem EQ (f:List Nat)(i:Nat):(nz f).getD i 0=((f.getD i 0:Nat):Int):=by unfold nz;rw[ah,ah,List.getElem?_map];rcases f[i]? with _|x<;>rfl
theorem IJ (f:List Nat)(i x:Nat):nz (f.set i x)=(nz f).set i (x:Int):=by unfold nz;rw[List.map_set]
theorem w40 (n:Int)(h0:0<=n)(h1:n<2 ^ 40):IntKind.i64.wrap n=n:=by rw[IntKind.wrap_i64];omega
theorem LJ {n m:Nat}(hn:n<2 ^ 40)(hm:m<2 ^ 40):bits .or .i64 n m=((n|||m:Nat):Int):=(bits_nat .i64 40 (by decide) w40 n m hn hm).2
theorem rz (a:Option Addr)(len cap:Nat)(ls:List Ln)(hok:Ln.isOk ls=true)(p:Nat)(hp:p<len)(f:List Nat)(hf:∀i,f.getD i 0<2 ^ 40)(n₀ g c:Nat)(w:World)(hs:LL w a len ls)(ho:OG w n₀ g len c (nz f)):Calls Tryz.prog 77 #[.slice a len cap, .slice (some ⟨g,0,none⟩) len c, .int .i64 (p:Int)] w fun e w'=>e= .returned (.int .i64 ((Fl.ou ls f p:Nat):Int))/\Below w.heap.size w w':=by have hl:=hs.1;have hlen:=Ln.eH hok;have hcon:=ww a len cap ls p hp (by omega) w hs;have HN:=ae (Fl.NR hok (p:=p) (by omega));rw[hl]at HN hlen;have GH:=ho.lt;have hcap:=ho.cap;have HO:=ae ho;have HF:=ae hf;have HR:Hid (Fl.ou ls f p=Fl.js f (Fl.nx (ls.getD p .z) p)):=rfl;obtain⟨R,hR⟩:∃R,Fl.ou ls f p=R:=⟨_,rfl⟩;rw[hR]at HR ⊢;generalize Fl.nx (ls.getD p .z) p=N at hcon HN HR;have Cr:(len:Int)<=300:=by{omega};have ML:(p:Int)<(len:Int):=by{omega};clear hs ho hf hl hR hlen;go_enter Tryz.func77,Tryz.ntmps77;go_wp2_with fail;refine hcon.mono ?_;rintro e w2 ⟨gn,mn,cn,rfl,hon,hB2⟩;dsimp only;have hgn:=hon.lt;have hcn:=hon.cap;have Cs:=ae hon.1;have HC:Hid (∀j,j<mn->w2.cell? ⟨gn,j,none⟩=some (.int .i64 (N.getD j 0))):=fun j hj=>hon.cell hj;have HI:Hid (∀j,j<len->w2.cell? ⟨g,j,none⟩=some (.int .i64 ((f.getD j 0:Nat):Int))):=fun j hj=>by{rw[←EQ];exact(HO.out.kept hB2).cell hj};clear hcon hon;have hmx:mn<=9223372036854775807:=by{unfold maxLen at hcn;omega};go_wp2;go_loopw [7,9] (fun vx vi wr=>∃(k:Nat)(q:Nat),vx= .int .i64 (q:Int)/\vi= .int .i64 (k:Int)/\k<=mn/\Hid (q=Fl.js f (N.take k))/\w2=wr) (fun _ i _=>mn-(intOf i).toNat);(case atStart=>exact⟨0,0,rfl,rfl,Nat.zero_le _,(by show _=_;simp[Fl.js]),rfl⟩);case round=>obtain⟨k,q,rfl,rfl,hk,HQ,bq⟩:=hrel;subst bq;by_cases hlt:k<mn;{have bN:(k:Int)<(mn:Int):=by{omega};have hc:=HC.out k hlt;have hkl:k<N.length:=by{rw[Cs.out];exact hlt};have hj:=HN.out (N.getD k 0) (by rw[ah,ai hkl];exact List.getElem_mem hkl);have HS:=ae (Fl.EG (f:=f) hkl);rw[←HQ.out]at HS;have MM:Hid (q<2 ^ 40):=by{show _<_;rw[HQ.out];exact Fl.uR HF.out _};obtain⟨y,hy⟩:∃y,N.getD k 0=y:=⟨_,rfl⟩;rw[hy]at hc hj HS;clear hy hkl;obtain⟨j,rfl⟩:=Int.eq_ofNat_of_zero_le hj.1;rw[az]at HS;have hjl:j<len:=by{omega};have MJ:(j:Int)<(len:Int):=hj.2;have hi:=HI.out j hjl;have HZ:=ae (HF.out j);obtain⟨z,hz⟩:∃z,f.getD j 0=z:=⟨_,rfl⟩;rw[hz]at hi HS HZ;have hor:bits .or .i64 (q:Int) (z:Int)=((q|||z:Nat):Int):=LJ MM.out HZ.out;clear hz hj;go_wp2;go_roundw;(case rel=>exact⟨k+1,q|||z,rfl,by simp,hlt,(by show _=_;rw[HS.out]),by simp⟩);case measure=>simp[intOf];omega};have hke:k=mn:=by{omega};have HE:Hid (q=R):=by{show _=_;rw[HQ.out,HR.out,hke,←Cs.out,List.take_length]};clear HQ;have bN:¬(k:Int)<(mn:Int):=by{omega};clear hke;go_wp2;go_ret;exact⟨by rw[←HE.out]<;>rfl,hB2⟩
namespace Ln
theorem uy (l:List Int):∀k,(ek (l.take k)).length<=k
 |0=>by simp[ek]
 | k +1=>by
   have ih:=uy l k
   rw[List.take_add_one]
   rcases h:l[k]? with _|y
   · simp only[Option.toList_none,List.append_nil]
     omega
   · simp only[Option.toList_some,pV]
     have:=LZ (ek (l.take k)) y
     omega
theorem qi {l:List Int}{k:Nat}(hk:k<l.length):ek (l.take (k+1))=put (ek (l.take k)) (l.getD k 0):=by rw[List.take_add_one,ai hk,ah,ai hk];simp only[Option.toList_some,Option.getD_some];exact pV _ _
end Ln
theorem rq (x:Ln)(la:Option Addr)(ln lc:Nat)(w:World):Calls Tryz.prog 78 #[.agg #[.int .i64 x.k, .int .i64 x.d, .int .i64 x.a, .int .i64 x.b, .int .i64 x.n, .slice la ln lc]] w fun e w'=>e= .returned (.int .i64 (Ln.st x))/\Below w.heap.size w w':=by obtain⟨k,d,a,b,n,l⟩:=x;simp only;have hB:=aA w (.cells #[.int .i64 k, .int .i64 d, .int .i64 a, .int .i64 b, .int .i64 n, .slice la ln lc] 67);by_cases hq:k=1\/k=2\/k=3\/k=4\/k=7\/k=8;{have e:Ln.st ⟨k,d,a,b,n,l⟩=d:=by{unfold Ln.st;rw[ay hq]};rw[e];clear e;rcases hq with rfl|rfl|rfl|rfl|rfl|rfl;all_goals go_enter Tryz.func78,Tryz.ntmps78;go_wp2;go_ret;exact⟨rfl,hB⟩};have e:Ln.st ⟨k,d,a,b,n,l⟩=-1:=by{unfold Ln.st;rw[ax hq]};rw[e];clear e;have k1:(k==1)=false:=by{simp;omega};have k2:(k==2)=false:=by{simp;omega};have k3:(k==3)=false:=by{simp;omega};have k4:(k==4)=false:=by{simp;omega};have k7:(k==7)=false:=by{simp;omega};have k8:(k==8)=false:=by{simp;omega};clear hq;go_enter Tryz.func78,Tryz.ntmps78;go_wp2;go_ret;exact⟨rfl,hB⟩
theorem Ab (x:Ln)(la:Option Addr)(ln lc:Nat)(w:World)(hs:IL w la ln x.l)(h3:ln<=3):Calls Tryz.prog 101 #[.agg #[.int .i64 x.k, .int .i64 x.d, .int .i64 x.a, .int .i64 x.b, .int .i64 x.n, .slice la ln lc]] w fun e w'=>∃g m c,e= .returned (.slice (some ⟨g,0,none⟩) m c)/\OG w' w.heap.size g m c (Ln.us x)/\Below w.heap.size w w':=by obtain⟨k,d,a,b,n,l⟩:=x;simp only at hs ⊢;have hB:=aA w (.cells #[.int .i64 k, .int .i64 d, .int .i64 a, .int .i64 b, .int .i64 n, .slice la ln lc] 67);by_cases hq:k=2\/k=4\/k=6\/k=8\/k=10;{have e:Ln.us ⟨k,d,a,b,n,l⟩=[a]:=by{unfold Ln.us;rw[ay hq]};rw[e];have ho:=OG.one _ w.heap.size hB.size a;have hBx:=hB.trans ((aA _ (.cells #[.int .i64 a] 2)).mono hB.size);simp only[World.size_alloc]at ho;clear e hs;rcases hq with rfl|rfl|rfl|rfl|rfl;all_goals go_enter Tryz.func101,Tryz.ntmps101;go_wp2;go_ret;exact⟨_,1,1,rfl,ho,hBx⟩};by_cases hq2:k=3\/k=9;{have e:Ln.us ⟨k,d,a,b,n,l⟩=Ln.put [a] b:=by{unfold Ln.us;rw[ax hq,ay hq2]};rw[e];clear e hs hq;have ho:=OG.one _ w.heap.size hB.size a;have hBx:=hB.trans ((aA _ (.cells #[.int .i64 a] 2)).mono hB.size);simp only[World.size_alloc]at ho;have hcon:=nW w.heap.size _ 1 1 [a] b (by omega) _ hBx.size ho;clear hB ho;rcases hq2 with rfl|rfl;all_goals go_enter Tryz.func101,Tryz.ntmps101;go_wp2_with fail;refine hcon.mono ?_;rintro e w2 ⟨g,m,c,rfl,ho2,hB2⟩;dsimp only;have HF:=ae (ak ho2 (hBx.trans (hB2.mono hBx.size)));clear ho2 hBx hB2 hcon;go_wp2;go_ret;exact⟨g,m,c,rfl,HF.out.1,HF.out.2⟩};have e:Ln.us ⟨k,d,a,b,n,l⟩=Ln.ek l:=by{unfold Ln.us;rw[ax hq,ax hq2]};rw[e];have k2:(k==2)=false:=by{simp;omega};have k4:(k==4)=false:=by{simp;omega};have k6:(k==6)=false:=by{simp;omega};have k8:(k==8)=false:=by{simp;omega};have k10:(k==10)=false:=by{simp;omega};have k3:(k==3)=false:=by{simp;omega};have k9:(k==9)=false:=by{simp;omega};clear e hq hq2;have hA1:gP (w.alloc (.cells #[.int .i64 k, .int .i64 d, .int .i64 a, .int .i64 b, .int .i64 n, .slice la ln lc] 67)) w.heap.size 67 [.int .i64 k, .int .i64 d, .int .i64 a, .int .i64 b, .int .i64 n, .slice la ln lc]:=heap_alloc_last w _;have hs1:=hs.kept hB;obtain⟨W1,hW1⟩:∃X,w.alloc (.cells #[.int .i64 k, .int .i64 d, .int .i64 a, .int .i64 b, .int .i64 n, .slice la ln lc] 67)=X:=⟨_,rfl⟩;rw[hW1]at hA1 hs1 hB;have hE:=OG.empty W1 W1.heap.size (Nat.le_refl _);have hBe:=aA W1 (.cells #[] 2);have HL:=ae hs.1;have hwW:w.heap.size<=W1.heap.size:=hB.size;clear hs;go_enter Tryz.func101,Tryz.ntmps101;have c0:=hA1.cell (j:=0) rfl;go_wp2;go_loopw [3,4] (fun v i wr=>∃kk g m c:Nat,v= .slice (some ⟨g,0,none⟩) m c/\i= .int .i64 kk/\kk<=ln/\m<=kk/\OG wr W1.heap.size g m c (Ln.ek (l.take kk))/\Below W1.heap.size W1 wr) (fun _ i _=>ln-(intOf i).toNat);(case atStart=>exact⟨0,_,0,0,rfl,rfl,Nat.zero_le _,Nat.le_refl _,by simpa[Ln.ek]using hE,hBe⟩);case round=>obtain⟨kk,g,m,c,rfl,rfl,hk,hm,ho,hBr⟩:=hrel;have hAr:=hA1.kept hBr;have c5:=hAr.cell (j:=5) rfl;have mZ:=hs1.kept hBr;clear hE hBe c0 hA1 hs1;by_cases hlt:kk<ln;{have bN:(kk:Int)<(ln:Int):=by{omega};obtain⟨-,-,h0|⟨lb,lo,rfl,hlb,hx⟩⟩:=mZ;{omega};have hc:=hx kk hlt;have hcon:=nW W1.heap.size g m c (Ln.ek (l.take kk)) (l.getD kk 0) (by omega) wr hBr.size ho;have HP:=ae (Ln.qi (l:=l) (k:=kk) (by rw[HL.out];exact hlt));rw[←HP.out]at hcon;have Uj:=ae (Ln.uy l (kk+1));obtain⟨y,hy⟩:∃y,l.getD kk 0=y:=⟨_,rfl⟩;rw[hy]at hc hcon;clear hx hy ho HP;go_wp2_with fail;refine hcon.mono ?_;rintro e w2 ⟨g2,m2,c2,rfl,ho2,hB2⟩;dsimp only;have hm2:m2<=kk+1:=by{have:=Uj.out;rw[ho2.1]at this;exact this};have HF:=ae (ak ho2 (hBr.trans (hB2.mono hBr.size)));clear hcon ho2 hB2 Uj;go_wp2;go_roundw;(case rel=>exact⟨kk+1,g2,m2,c2,rfl,by simp,hlt,hm2,HF.out.1,HF.out.2⟩);case measure=>simp[intOf];omega};have hke:kk=ln:=by{omega};have HF:Hid (OG wr w.heap.size g m c (Ln.ek l)/\Below w.heap.size w wr):=⟨by have:=ho.mono hwW;rwa [hke,←HL.out,List.take_length]at this,hB.trans (hBr.mono hB.size)⟩;clear ho mZ;have bN:¬(kk:Int)<(ln:Int):=by{omega};clear hke;go_wp2;go_ret;exact⟨g,m,c,rfl,HF.out.1,HF.out.2⟩
theorem aat {n m:Nat}(hn:n<2 ^ 40)(hm:m<2 ^ 40):bits .andNot .i64 n m=((Fl.an n m:Nat):Int):=by have hx:Fl.an n m<2 ^ 40:=Fl.xS hn;have e:(BitVec.ofInt 64 (n:Int)&&& ~~~BitVec.ofInt 64 (m:Int)).toNat=Fl.an n m:=by{rw[BitVec.toNat_and,BitVec.toNat_not,BitVec.ofInt_natCast,BitVec.ofInt_natCast,BitVec.toNat_ofNat,BitVec.toNat_ofNat,Nat.mod_eq_of_lt (by omega),Nat.mod_eq_of_lt (by omega)];refine Nat.eq_of_testBit_eq fun k=>?_;rw[Nat.testBit_and,Fl.pY,Nat.sub_sub,Nat.add_comm,Nat.testBit_two_pow_sub_succ (by omega)];by_cases h:k<64;{simp[h]};rw[Nat.testBit_lt_two_pow (aj hn (Nat.pow_le_pow_right (by decide) (by omega)))];rfl};show IntKind.i64.wrap ((BitVec.ofInt 64 (n:Int)&&& ~~~BitVec.ofInt 64 (m:Int)).toNat:Int)=_;rw[e];exact w40 _ (by omega) (by omega)
theorem Mh {j:Nat}(hj:j<=39):wrap64 ((2:Int) ^ j)=((2 ^ j:Nat):Int)/\(2:Nat) ^ j<2 ^ 40:=by have h:(2:Nat) ^ j<2 ^ 40:=Nat.pow_lt_pow_right (by decide) (by omega);refine⟨?_,h⟩;have e:(2:Int) ^ j=((2 ^ j:Nat):Int):=by{simp};rw[e];generalize(2:Nat) ^ j=m at h ⊢;exact IntWalk.wrap64_in _ (by omega)
theorem SS {n j:Nat}(hn:n<2 ^ 40)(hj:j<=39):bits .andNot .i64 (n:Int) (wrap64 (2 ^ j))=((Fl.an n (2 ^ j):Nat):Int):=by rw[(Mh hj).1,aat hn (Mh hj).2]
theorem NY {n j:Nat}(hn:n<2 ^ 40)(hj:j<=39):bits .or .i64 (n:Int) (wrap64 (2 ^ j))=((n|||2 ^ j:Nat):Int):=by rw[(Mh hj).1,LJ hn (Mh hj).2]
theorem Lf (n:Nat):nz (List.replicate n 0)=List.replicate n 0:=by simp[nz]
theorem zn (a:Option Addr) (len cap:Nat) (ls:List Ln) (hok:Ln.isOk ls=true) (w:World) (hs:LL w a len ls):Calls Tryz.prog 76 #[.slice a len cap] w fun e w'=>∃g c,e= .returned (.slice (some ⟨g,0,none⟩) len c)/\OG w' w.heap.size g len c (nz (Fl.live ls))/\Below w.heap.size w w':=by
 have hl:=hs.1
 have hlen:=Ln.eH hok
 rw[hl]at hlen
 obtain⟨i0,hi,hz0,hz1,hz2⟩:=info_parts cz
 obtain⟨wm,hmk,hown,hgrow⟩:=run_make_full (P:=Tryz.prog) w w.heap.size 26 2 i0 _ 1 Tryz.underlying26 hi hz0 hz1 .i64 .i64 len (by rw[hz2];omega) (by simp only[maxLen];omega) (Nat.le_refl _)
 have hBm:Below w.heap.size w wm:=⟨hgrow.os,hgrow.tape,hgrow.output,hgrow.size,fun k hk=>hgrow.block k hk (by simp)⟩
 have hown0:OG wm w.heap.size w.heap.size len len (nz (List.replicate ls.length 0)):=by have e:(madeCells (Value.int .i64 0).cells (len*1)).toList=List.replicate (len*1) (iv 0):=toList_madeCells_one _ _;rw[e,Nat.mul_one]at hown;refine⟨by rw[tZ,List.length_replicate,hl],?_⟩;rw[Lf,List.map_replicate,hl];exact hown
 obtain⟨M,hM⟩:∃M,∀f,Fl.In ls f->f.sum<=M:=⟨_,fun f h=>h.sum⟩
 have HM:=ae hM
 have gN:=ae hok
 have HL:=ae hl
 have Cr:(len:Int)<=300:=by omega
 have hl1:(1:Int)<=(len:Int):=by omega
 have HS:=ae hs
 have HB0:=ae hBm
 have HO0:=ae hown0
 have HI0:=ae (Fl.In.zero ls)
 clear hown hgrow hs hl hok hM hlen hBm hown0
 go_enter Tryz.func76,Tryz.ntmps76
 go_wp2
 go_loopg [4] (M+1) (fun gk va wr=>∃(ag:Bool)(f:List Nat),va= .bool ag/\gk=M-f.sum+(if ag=true then 1 else 0)/\Hid (Fl.In ls f/\Fl.Sound ls f)/\Hid (ag=false->Fl.Fix ls f)/\OG wr w.heap.size w.heap.size len len (nz f)/\Below w.heap.size w wr)
 case atStart=>exact⟨true,_,rfl,by simp,⟨HI0.out,Fl.Sound.zero ls⟩,(fun h=>by cases h),HO0.out,HB0.out⟩
 case round=>
  obtain⟨ag,f,rfl,nP,HI,HX,ho,hB⟩:=hrel
  cases ag with
  |false=>
   have HE:Hid (OG wr w.heap.size w.heap.size len len (nz (Fl.live ls))/\Below w.heap.size w wr):=by have h:=HI.out;refine⟨?_,hB⟩;rw[←Fl.Aw gN.out h.1 h.2 (HX.out rfl)];exact ho
   clear ho HX HI
   go_wp2
   go_ret
   exact⟨_,len,rfl,HE.out.1,HE.out.2⟩
  | true=>
   have HO:=ae ho
   have HB:=ae hB
   have hwr:=hB.size
   have ail:gk=M-f.sum+1:=by simpa using nP
   clear ho hB HX HO0 nP
   go_wp2
   go_loopg [4,5] len (fun gj va vi wx=>∃(ag:Bool)(f':List Nat),va= .bool ag/\vi= .int .i64 ((gj:Int)-1)/\gj<=len/\Hid (Fl.In ls f'/\Fl.Sound ls f')/\Hid (ag=false->f'=f/\∀i,gj<=i->i<len->Fl.iL ls f i=f.getD i 0)/\Hid (ag=true->f.sum<f'.sum)/\OG wx w.heap.size w.heap.size len len (nz f')/\Below w.heap.size w wx)
   case atStart=>exact⟨false,f,rfl,rfl,Nat.le_refl _,HI,(fun _=>⟨rfl,fun i h1 h2=>by omega⟩),(fun h=>by cases h),HO.out,HB.out⟩
   case round=>
    obtain⟨ag,f',rfl,rfl,hgj,vN,Oh,Uk,ho,hB⟩:=hrel
    rcases gk with _|p
    · have hN:¬((0:Nat):Int)-1≥0:=by omega
      have bq:=hB.size
      have iZ:=ae (ak ho hB)
      clear ho hB
      go_wp2
      go_roundg (M-f'.sum+(if ag=true then 1 else 0))
      case measure=>
       have h1:=HM.out _ vN.out.1
       have h2:=HM.out _ HI.out.1
       cases ag with
       |false=>
        have h3:=(Oh.out rfl).1
        subst h3
        simp
       |true=>
        have h3:=Uk.out rfl
        simp
        omega
      case rel=>refine⟨ag,f',rfl,rfl,vN,(fun h=>?_),iZ.out.1,iZ.out.2⟩;have h3:=Oh.out h;have h4:=h3.1;subst h4;intro i hi;exact h3.2 i (Nat.zero_le _) (by rw[←HL.out];exact hi)
    · have hp:p<len:=by{omega};have hY:((p:Int)≥0):=by{omega};have ML:(p:Int)<(len:Int):=by{omega};have Qr:=HS.out.kept hB;have mg:=rz a len cap ls gN.out p hp f' vN.out.1.lt w.heap.size w.heap.size len wr Qr ho;have hlt:=ho.lt;have e5:(((p+1:Nat):Int)-1)=(p:Int):=by{omega};rw[e5];have Zr:=ae (ak ho hB);obtain⟨b,off,rfl,hb,hc⟩:=Qr.at hp;have uY:=Ln.iq gN.out (i:=p) (by rw[HL.out];exact hp);have HST:Hid (Fl.iL ls f' p=Fl.um (ls.getD p .z)|||Fl.an (Fl.ou ls f' p) (Fl.sm (ls.getD p .z))):=rfl;have HX0:Hid (Fl.ou ls f' p<2 ^ 40):=Fl.uR vN.out.1.lt _;obtain⟨x,hx⟩:∃x,ls.getD p .z=x:=⟨_,rfl⟩;rw[hx]at hc uY HST;obtain⟨X0,hX0⟩:∃X0,Fl.ou ls f' p=X0:=⟨_,rfl⟩;rw[hX0]at mg HST HX0;clear hx hX0 ho hB Qr;have hst:=Ln.Ez uY;have Zt:=ae (Ln.H9 uY);have h3:=Ln.o9 uY;obtain⟨c0,c1,c2,c3,c4,la,ln,lc,c5,hil⟩:=hc;have hl3:ln<=3:=by{have:=hil.1;omega};go_wp2_with fail;refine mg.mono ?_;rintro e w2 ⟨rfl,hB2⟩;dsimp only;have e0:=(hB2.cell (p:=⟨b,off+p*6,none⟩) hb).trans c0;have e1:=(hB2.cell (p:=⟨b,off+p*6+1,none⟩) hb).trans c1;have e2:=(hB2.cell (p:=⟨b,off+p*6+2,none⟩) hb).trans c2;have e3:=(hB2.cell (p:=⟨b,off+p*6+3,none⟩) hb).trans c3;have e4:=(hB2.cell (p:=⟨b,off+p*6+4,none⟩) hb).trans c4;have e5:=(hB2.cell (p:=⟨b,off+p*6+5,none⟩) hb).trans c5;have r9:=hil.kept hB2;have bF:=rq x la ln lc w2;have iZ:Hid (OG w2 w.heap.size w.heap.size len len (nz f')/\Below w.heap.size w w2):=⟨Zr.out.1.kept hB2,Zr.out.2.trans (hB2.mono Zr.out.2.size)⟩;have hb2:=aj hb hB2.size;clear mg c0 c1 c2 c3 c4 c5 hil hB2 Zr;go_wp2_with fail;refine bF.mono ?_;rintro e w3 ⟨rfl,hB3⟩;dsimp only;have c0:=(hB3.cell (p:=⟨b,off+p*6,none⟩) hb2).trans e0;have c1:=(hB3.cell (p:=⟨b,off+p*6+1,none⟩) hb2).trans e1;have c2:=(hB3.cell (p:=⟨b,off+p*6+2,none⟩) hb2).trans e2;have c3:=(hB3.cell (p:=⟨b,off+p*6+3,none⟩) hb2).trans e3;have c4:=(hB3.cell (p:=⟨b,off+p*6+4,none⟩) hb2).trans e4;have c5:=(hB3.cell (p:=⟨b,off+p*6+5,none⟩) hb2).trans e5;have GK:=r9.kept hB3;have jv:=Ab x la ln lc w3 GK hl3;have rZ:Hid (OG w3 w.heap.size w.heap.size len len (nz f')/\Below w.heap.size w w3):=⟨iZ.out.1.kept hB3,iZ.out.2.trans (hB3.mono iZ.out.2.size)⟩;clear bF e0 e1 e2 e3 e4 e5 r9 hB3 iZ hb2;have KE:Hid (Fl.sm x=if 0<=Ln.st x then 2 ^ (Ln.st x).toNat else 0):=rfl;obtain⟨d,hd⟩:∃d,Ln.st x=d:=⟨_,rfl⟩;rw[hd]at hst KE ⊢;clear hd;by_cases hd0:0<=d;{obtain⟨j,rfl⟩:=Int.eq_ofNat_of_zero_le hd0;have hj:(j:Int)<=39:=hst.2;have hA:bits .andNot .i64 (X0:Int) (wrap64 (2 ^ j))=((Fl.an X0 (2 ^ j):Nat):Int):=SS HX0.out (by omega);obtain⟨q0,hq0⟩:∃q0,Fl.an X0 (2 ^ j)=q0:=⟨_,rfl⟩;have Qs:Hid (Fl.an X0 (Fl.sm x)=q0):=by{show _=_;rw[KE.out,ay hd0,az];exact hq0};have HQ0:Hid (q0<2 ^ 40):=by{show _<_;rw[←hq0];exact Fl.xS HX0.out};rw[hq0]at hA;clear hq0;go_wp2_with fail;refine jv.mono ?_;rintro e w4 ⟨gu,mu,cu,rfl,hou,hB4⟩;dsimp only;have hgu:=hou.lt;have Oj:=hou.cap;have Cs:=ae hou.1;have HC:Hid (∀k,k<mu->w4.cell? ⟨gu,k,none⟩=some (.int .i64 ((Ln.us x).getD k 0))):=fun k hk=>hou.cell hk;have ky:Hid (OG w4 w.heap.size w.heap.size len len (nz f')/\Below w.heap.size w w4):=⟨rZ.out.1.kept hB4,rZ.out.2.trans (hB4.mono rZ.out.2.size)⟩;have hmx:mu<=9223372036854775807:=by{unfold maxLen at Oj;omega};clear jv hou hB4 rZ GK c0 c1 c2 c3 c4 c5;go_wp2;go_loopg [6,9] mu (fun gz vx vk wy=>∃(k q:Nat),gz=mu-k/\k<=mu/\vx= .int .i64 (q:Int)/\vk= .int .i64 (k:Int)/\Hid (q=q0|||Fl.mk ((Ln.us x).take k))/\w4=wy);(case atStart=>exact⟨0,q0,by omega,Nat.zero_le _,rfl,rfl,(by show _=_;simp[Fl.mk]),rfl⟩);case round=>obtain⟨k,q,hgz,hk,rfl,rfl,HQ,bq⟩:=hrel;subst bq;by_cases hlt2:k<mu;{have bN:(k:Int)<(mu:Int):=by{omega};have hkl:k<(Ln.us x).length:=by{rw[Cs.out];exact hlt2};have hc:=HC.out k hlt2;have hy:=Zt.out ((Ln.us x).getD k 0) (by rw[ah,ai hkl];exact List.getElem_mem hkl);have HS2:Hid (q0|||Fl.mk ((Ln.us x).take (k+1))=q|||2 ^ ((Ln.us x).getD k 0).toNat):=by{show _=_;rw[Fl.zu hkl,←Nat.or_assoc,←HQ.out]};have MM:Hid (q<2 ^ 40):=by{show _<_;rw[HQ.out];exact Nat.or_lt_two_pow HQ0.out (Fl.Aj fun y hy=>Zt.out y (List.mem_of_mem_take hy))};obtain⟨y,JN⟩:∃y,(Ln.us x).getD k 0=y:=⟨_,rfl⟩;rw[JN]at hc hy HS2;clear JN hkl;obtain⟨j2,rfl⟩:=Int.eq_ofNat_of_zero_le hy.1;rw[az]at HS2;have hj2:(j2:Int)<=39:=hy.2;have hor:bits .or .i64 (q:Int) (wrap64 (2 ^ j2))=((q|||2 ^ j2:Nat):Int):=NY MM.out (by omega);clear hy;go_wp2;go_roundg (mu-(k+1));(case measure=>omega);case rel=>exact⟨k+1,q|||2 ^ j2,rfl,hlt2,rfl,by simp,(by show _=_;rw[HS2.out]),rfl⟩};have hke:k=mu:=by{omega};have HE:Hid (Fl.iL ls f' p=q):=by{show _=_;rw[HST.out,HQ.out,hke,←Cs.out,List.take_length,Qs.out,Nat.or_comm];rfl};have bN:¬(k:Int)<(mu:Int):=by{omega};have hci:=ky.out.1.cell hp;have hfi:=World.ownsRow.frozenAt ky.out.1.2 p;rw[EQ]at hci;obtain⟨z,hz⟩:∃z,f'.getD p 0=z:=⟨_,rfl⟩;rw[hz]at hci;have GH:=ky.out.1.lt;clear HQ hke;by_cases hqz:q=z;{subst hqz;have HZ:=ae hz;clear hz;go_wp2;go_roundg p;(case measure=>omega);case rel=>refine⟨ag,f',rfl,rfl,by omega,vN,(fun h=>?_),Uk,ky.out.1,ky.out.2⟩;have h1:=Oh.out h;refine⟨h1.1,fun i h2 h3=>?_⟩;by_cases hip:i=p;{subst hip;rw[←h1.1,HE.out,HZ.out]};exact h1.2 i (by omega) h3};have hnq:((q:Int)==(z:Int))=false:=by{simp;omega};have MN:Hid (Fl.iL ls f' p≠f'.getD p 0):=by{show _≠_;rw[HE.out,hz];exact hqz};have DN:=(ky.out.1.2.stored p (.int .i64 (q:Int))).1;rw[←dJ,←IJ]at DN;have Ha:Hid (OG (w4.setCell ⟨w.heap.size,p,none⟩ (.int .i64 (q:Int))) w.heap.size w.heap.size len len (nz (f'.set p q))/\Below w.heap.size w (w4.setCell ⟨w.heap.size,p,none⟩ (.int .i64 (q:Int)))):=by{refine⟨⟨?_,DN⟩,?_⟩;{rw[tZ,List.length_set,←tZ];exact ky.out.1.1};exact ky.out.2.setCell (p:=⟨w.heap.size,p,none⟩) (Nat.le_refl _) _};clear DN hz;go_wp2;go_roundg p;(case measure=>omega);case rel=>refine⟨true,f'.set p q,rfl,rfl,by omega,?_,(fun h=>by cases h),(fun _=>?_),Ha.out.1,Ha.out.2⟩;{have h1:=vN.out.1.set gN.out (i:=p) (by rw[HL.out];exact hp);have h2:=vN.out.2.set gN.out (i:=p) (by rw[HL.out];exact hp);rw[HE.out]at h1 h2;exact⟨h1,h2⟩};have h1:=vN.out.1.more (i:=p) (by rw[HL.out];exact hp) MN.out;rw[HE.out]at h1;rcases ag with _|_;{rw[(Oh.out rfl).1]at h1;rw[(Oh.out rfl).1];exact h1};exact Nat.lt_trans (Uk.out rfl) h1};obtain⟨q0,hq0⟩:∃q0,q0=X0:=⟨_,rfl⟩;have Qs:Hid (Fl.an X0 (Fl.sm x)=q0):=by{show _=_;rw[KE.out,ax hd0,hq0];refine Nat.eq_of_testBit_eq fun k=>?_;rw[Fl.pY];simp};have HQ0:Hid (q0<2 ^ 40):=by{show _<_;rw[hq0];exact HX0.out};subst hq0;go_wp2_with fail;refine jv.mono ?_;rintro e w4 ⟨gu,mu,cu,rfl,hou,hB4⟩;dsimp only;have hgu:=hou.lt;have Oj:=hou.cap;have Cs:=ae hou.1;have HC:Hid (∀k,k<mu->w4.cell? ⟨gu,k,none⟩=some (.int .i64 ((Ln.us x).getD k 0))):=fun k hk=>hou.cell hk;have ky:Hid (OG w4 w.heap.size w.heap.size len len (nz f')/\Below w.heap.size w w4):=⟨rZ.out.1.kept hB4,rZ.out.2.trans (hB4.mono rZ.out.2.size)⟩;have hmx:mu<=9223372036854775807:=by{unfold maxLen at Oj;omega};clear jv hou hB4 rZ GK c0 c1 c2 c3 c4 c5;go_wp2;go_loopg [6,9] mu (fun gz vx vk wy=>∃(k q:Nat),gz=mu-k/\k<=mu/\vx= .int .i64 (q:Int)/\vk= .int .i64 (k:Int)/\Hid (q=q0|||Fl.mk ((Ln.us x).take k))/\w4=wy);(case atStart=>exact⟨0,q0,by omega,Nat.zero_le _,rfl,rfl,(by show _=_;simp[Fl.mk]),rfl⟩);case round=>obtain⟨k,q,hgz,hk,rfl,rfl,HQ,bq⟩:=hrel;subst bq;by_cases hlt2:k<mu;{have bN:(k:Int)<(mu:Int):=by{omega};have hkl:k<(Ln.us x).length:=by{rw[Cs.out];exact hlt2};have hc:=HC.out k hlt2;have hy:=Zt.out ((Ln.us x).getD k 0) (by rw[ah,ai hkl];exact List.getElem_mem hkl);have HS2:Hid (q0|||Fl.mk ((Ln.us x).take (k+1))=q|||2 ^ ((Ln.us x).getD k 0).toNat):=by{show _=_;rw[Fl.zu hkl,←Nat.or_assoc,←HQ.out]};have MM:Hid (q<2 ^ 40):=by{show _<_;rw[HQ.out];exact Nat.or_lt_two_pow HQ0.out (Fl.Aj fun y hy=>Zt.out y (List.mem_of_mem_take hy))};obtain⟨y,JN⟩:∃y,(Ln.us x).getD k 0=y:=⟨_,rfl⟩;rw[JN]at hc hy HS2;clear JN hkl;obtain⟨j2,rfl⟩:=Int.eq_ofNat_of_zero_le hy.1;rw[az]at HS2;have hj2:(j2:Int)<=39:=hy.2;have hor:bits .or .i64 (q:Int) (wrap64 (2 ^ j2))=((q|||2 ^ j2:Nat):Int):=NY MM.out (by omega);clear hy;go_wp2;go_roundg (mu-(k+1));(case measure=>omega);case rel=>exact⟨k+1,q|||2 ^ j2,rfl,hlt2,rfl,by simp,(by show _=_;rw[HS2.out]),rfl⟩};have hke:k=mu:=by{omega};have HE:Hid (Fl.iL ls f' p=q):=by{show _=_;rw[HST.out,HQ.out,hke,←Cs.out,List.take_length,Qs.out,Nat.or_comm];rfl};have bN:¬(k:Int)<(mu:Int):=by{omega};have hci:=ky.out.1.cell hp;have hfi:=World.ownsRow.frozenAt ky.out.1.2 p;rw[EQ]at hci;obtain⟨z,hz⟩:∃z,f'.getD p 0=z:=⟨_,rfl⟩;rw[hz]at hci;have GH:=ky.out.1.lt;clear HQ hke;by_cases hqz:q=z;{subst hqz;have HZ:=ae hz;clear hz;go_wp2;go_roundg p;(case measure=>omega);case rel=>refine⟨ag,f',rfl,rfl,by omega,vN,(fun h=>?_),Uk,ky.out.1,ky.out.2⟩;have h1:=Oh.out h;refine⟨h1.1,fun i h2 h3=>?_⟩;by_cases hip:i=p;{subst hip;rw[←h1.1,HE.out,HZ.out]};exact h1.2 i (by omega) h3};have hnq:((q:Int)==(z:Int))=false:=by{simp;omega};have MN:Hid (Fl.iL ls f' p≠f'.getD p 0):=by{show _≠_;rw[HE.out,hz];exact hqz};have DN:=(ky.out.1.2.stored p (.int .i64 (q:Int))).1;rw[←dJ,←IJ]at DN;have Ha:Hid (OG (w4.setCell ⟨w.heap.size,p,none⟩ (.int .i64 (q:Int))) w.heap.size w.heap.size len len (nz (f'.set p q))/\Below w.heap.size w (w4.setCell ⟨w.heap.size,p,none⟩ (.int .i64 (q:Int)))):=by{refine⟨⟨?_,DN⟩,?_⟩;{rw[tZ,List.length_set,←tZ];exact ky.out.1.1};exact ky.out.2.setCell (p:=⟨w.heap.size,p,none⟩) (Nat.le_refl _) _};clear DN hz;go_wp2;go_roundg p;(case measure=>omega);case rel=>refine⟨true,f'.set p q,rfl,rfl,by omega,?_,(fun h=>by cases h),(fun _=>?_),Ha.out.1,Ha.out.2⟩;{have h1:=vN.out.1.set gN.out (i:=p) (by rw[HL.out];exact hp);have h2:=vN.out.2.set gN.out (i:=p) (by rw[HL.out];exact hp);rw[HE.out]at h1 h2;exact⟨h1,h2⟩};have h1:=vN.out.1.more (i:=p) (by rw[HL.out];exact hp) MN.out;rw[HE.out]at h1;rcases ag with _|_;{rw[(Oh.out rfl).1]at h1;rw[(Oh.out rfl).1];exact h1};exact Nat.lt_trans (Uk.out rfl) h1
theorem FC {W:World}{b0 b1 e0 e1 k0 k1 g0 g1 n0 n1 c0 c1:Nat}{xs ys:List Value}(h0:W.ownsRow b0 e0 k0 (.slice (some ⟨g0,0,none⟩) n0 c0) n0 xs)(h1:W.ownsRow b1 e1 k1 (.slice (some ⟨g1,0,none⟩) n1 c1) n1 ys)(he:e0≠e1):g0≠g1:=by rintro rfl;rcases h0.2 with⟨h',_⟩|⟨g,c,cur,h',_,hb,_⟩;{cases h'};cases h';rcases h1.2 with⟨h',_⟩|⟨g,c,cur',h',_,hb',_⟩;{cases h'};cases h';rw[hb]at hb';simp only[af,Obj.cells.injEq]at hb';exact he hb'.2.1
theorem bY {W W':World}{b0 b1 e0 e1 k0 k1 g0 g1 n0 n1 c0 c1:Nat}{xs ys:List Value}(h1:W.ownsRow b1 e1 k1 (.slice (some ⟨g1,0,none⟩) n1 c1) n1 ys)(h0:W.ownsRow b0 e0 k0 (.slice (some ⟨g0,0,none⟩) n0 c0) n0 xs)(he:e0≠e1)(hg:W.grownBy W' (Value.slice (some ⟨g0,0,none⟩) n0 c0).ownBlock):W'.ownsRow b1 e1 k1 (.slice (some ⟨g1,0,none⟩) n1 c1) n1 ys:=
 je h1 (b:=g0) hg (Ne.symm (FC h0 h1 he))
theorem Ag {W:World}{n₀ e k g n c:Nat}{xs:List Value}(h:W.ownsRow n₀ e k (.slice (some ⟨g,0,none⟩) n c) n xs)(m:Nat)(hm:m<=n):W.ownsRow n₀ e k (.slice (some ⟨g,0,none⟩) m c) m (xs.take (m*k)):=by obtain⟨h1,h2⟩:=h;have hmk:m*k<=n*k:=Nat.mul_le_mul_right k hm;refine⟨by rw[List.length_take,h1];omega,?_⟩;rcases h2 with⟨h',_⟩|⟨g',cap',cur,h',hb,hc,hn,hx,hs,ht⟩;{cases h'};cases h';refine .inr ⟨g,c,cur,rfl,hb,hc,by omega,hx,hs,?_⟩;rw[←ht,List.take_take];congr 1;omega
theorem oP {W:World}{n₀ e k g n c:Nat}{xs:List Value}(h:W.ownsRow n₀ e k (.slice (some ⟨g,0,none⟩) n c) n xs):n<=c:=by rcases h.2 with⟨h',_⟩|⟨g',cap',cur,h',_,_,hc,_⟩;{cases h'};cases h';exact hc
def bu (W:World)(b:Nat)(vs:List Value):Prop:=b<W.heap.size/\∀i x,vs[i]?=some x->W.cell? ⟨b,i,none⟩=some x/\W.frozen? ⟨b,i,none⟩=false
theorem bu.bT {W W':World}{b:Nat}{row:Option Nat}{vs:List Value}(h:bu W b vs)(hg:W.grownBy W' row)(hne:row≠some b):bu W' b vs:=by have hb:=hg.block b h.1 (fun e=>hne e.symm);refine⟨aj h.1 hg.size,fun i x hx=>?_⟩;obtain⟨h1,h2⟩:=h.2 i x hx;exact⟨(World.cell?_of_block hb).trans h1,by unfold World.frozen?;rw[hb];exact h2⟩
theorem bu.kept {W W':World}{b:Nat}{vs:List Value}(h:bu W b vs)(hB:Below W.heap.size W W'):bu W' b vs:=h.bT (row:=none) ⟨hB.os,hB.tape,hB.output,hB.size,fun k hk _=>hB.block k hk⟩ (by simp)
theorem bu.new (W:World)(vs:List Value)(t:TypeId):bu (W.alloc (.cells vs.toArray t)) W.heap.size vs:=by refine⟨by simp,fun i x hx=>⟨?_,by simp⟩⟩;rw[World.cell?_alloc_at _ _ _ _ rfl];simpa using hx
theorem bu.set {W:World}{b:Nat}{vs:List Value}(h:bu W b vs)(i:Nat)(x:Value):bu (W.setCell ⟨b,i,none⟩ x) b (vs.set i x):=by refine⟨by simpa[World.setCell]using h.1,fun j y hy=>?_⟩;by_cases e:i=j;{subst e;have hi:i<vs.length:=by{rcases Nat.lt_or_ge i vs.length with h'|h';{exact h'};rw[List.getElem?_eq_none (by simpa using h')]at hy;cases hy};rw[List.getElem?_set_self hi]at hy;cases hy;obtain⟨h1,h2⟩:=h.2 i vs[i] (ai hi);exact⟨World.cell?_setCell_same _ _ _ h1,by simpa using h2⟩};rw[List.getElem?_set_ne e]at hy;obtain⟨h1,h2⟩:=h.2 j y hy;exact⟨(World.cell?_setCell_other _ _ _ _ (fun q=>e (by cases q;rfl))).trans h1,by simpa using h2⟩
end Go.Proofs.YtpipjiinmhopmaaGreat
