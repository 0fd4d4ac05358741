/-
  Own texts for a law: Hm1 Hm3 Words1 Leb0 Leb1 Leb2 Quiet SpP Shp0
-/
import Derived.Test.YtpipjiinmhopmaaMB01
import Derived.ProofKit
import Derived.Test.YtpipjiinmhopmaaRows
import Derived.RangeFuncBox
import Derived.RangeFuncNested
import Derived.RangeFuncBound
import Derived.RangeFuncCalls
import Derived.RangeFuncLeaves
import Derived.Shelf.Abstract
import Derived.Shelf.RegionOpen
import Derived.OwnWalkIn
import Derived.TacticsInMore
import Derived.LoopNIn
import Derived.LoopIn
import Derived.Maps.AppendAt
import Derived.Laws.BytesString
import Derived.Laws.IdiomStrings
import Derived.Laws.BytesArg
import Derived.Deep.QuietTactic
import Derived.Deep.Draws
import Derived.KernelRfl
namespace Go.Proofs.Ytpipjiinmhopmaa
open Go.RowKit Go.Shelf
set_option linter.all false
set_option maxRecDepth 100000
set_option maxHeartbeats 16000000
section
open Go.RowKit
set_option linter.unusedSimpArgs false
namespace Hm
open Sp
def hold (l:List S)(h:List Int)(i:Nat)(sh:Int):Nat->Int
 |0=>-1
 |m+1=>if h.getD m 0=sh/\aI (l.getD m .z) (l.getD i .z)=true then(m:Int)else hold l h i sh m
def late (l:List S)(k j:Nat):Bool:=decide ((l.getD j .z).t<(l.getD k .z).t)||(decide ((l.getD k .z).t=(l.getD j .z).t)&&decide ((l.getD j .z).b<(l.getD k .z).b))
def go (l:List S)(h:List Int)(i:Nat):Nat->Int->Nat->Option Int×Nat
 |0,sh,last=>(none,last)
 |n+1,sh,last=>if hold l h i sh l.length<0 then(some sh,last)else go l h i n (sh+1) (if late l (hold l h i sh l.length).toNat last=true then(hold l h i sh l.length).toNat else last)
def put (l:List S)(h:List Int)(i:Nat):List Int:=
 if(l.getD i .z).c=true then h.set i (-2)
 else match go l h i 5 0 i with
   |(some sh,_)=>h.set i sh
   |(none,last)=>if last≠i then(h.set i (h.getD last 0)).set last (-2)else h.set i (-2)
def run (l:List S):Nat->List Int
 |0=>List.replicate l.length (-1)
 |n+1=>put l (run l n) ((ord l l.length).getD n 0)
theorem mg {l:List S}{h:List Int}{i:Nat}{sh:Int}:∀{m:Nat},hold l h i sh m<0->∀k,k<m->h.getD k 0=sh->aI (l.getD k .z) (l.getD i .z)=false
 |0,_,k,hk,_=>absurd hk (by omega)
 | m + 1,hn,k,hk,e=>by
   unfold hold at hn
   split at hn
   · omega
   · rename_i hx
     by_cases Bh:k=m
     · subst Bh
       rcases hb:aI (l.getD k .z) (l.getD i .z)with _|_
       · rfl
       · exact absurd ⟨e,hb⟩ hx
     · exact mg hn k (by omega) e
theorem kG {l:List S}{h:List Int}{i:Nat}{sh:Int}:∀{m:Nat},¬hold l h i sh m<0->(hold l h i sh m).toNat<m/\h.getD (hold l h i sh m).toNat 0=sh/\aI (l.getD (hold l h i sh m).toNat .z) (l.getD i .z)=true
 |0,hn=>by unfold hold at hn;exact absurd (by decide) hn
 | m +1,hn=>by
   unfold hold at hn ⊢
   split
   · rename_i hx
     rw[ax]
     exact⟨by omega,hx.1,hx.2⟩
   · rename_i hx
     rw[au hx]at hn
     obtain⟨h1,h2,h3⟩:=kG hn
     exact⟨by omega,h2,h3⟩
theorem mD {l:List S}{h:List Int}{i:Nat}{x:Int}{z:Nat}:∀{n:Nat}{sh:Int}{last:Nat},go l h i n sh last=(some x,z)->sh<=x/\x<sh+n/\hold l h i x l.length<0
 |0,sh,last,hg=>by simp[go]at hg
 | n +1,sh,last,hg=>by
   unfold go at hg
   split at hg
   · rename_i hx
     simp only[Prod.mk.injEq,Option.some.injEq]at hg
     obtain⟨rfl,-⟩:=hg
     exact⟨by omega,by omega,hx⟩
   · obtain⟨h1,h2,h3⟩:=mD hg
     exact⟨by omega,by omega,h3⟩
theorem mI {l:List S}{h:List Int}{i:Nat}{z:Nat}:∀{n:Nat}{sh:Int}{last:Nat},go l h i n sh last=(none,z)->(∀y,sh<=y->y<sh+n->¬hold l h i y l.length<0)/\(z=last\/∃y,sh<=y/\y<sh+n/\z=(hold l h i y l.length).toNat)
 | 0,sh,last,hg=>by
   simp only[go,Prod.mk.injEq,true_and]at hg
   exact⟨fun y h1 h2=>by omega, .inl hg.symm⟩
 | n + 1,sh,last,hg=>by
   unfold go at hg
   split at hg
   · simp at hg
   · rename_i hx
     obtain⟨h1,h2⟩:=mI hg
     refine⟨fun y hy1 hy2=>?_,?_⟩
     · by_cases e:y=sh
       · rw[e];exact hx
       · exact h1 y (by omega) (by omega)
     · rcases h2 with rfl|⟨y,h3,h4,h5⟩
       · split
         · exact .inr ⟨sh,by omega,by omega,rfl⟩
         · exact .inl rfl
       · exact .inr ⟨y,by omega,by omega,h5⟩
def dn (l:List S)(n k:Nat):Prop:=∃j,j<n/\j<l.length/\(ord l l.length).getD j 0=k
theorem wH {l:List S}{n k:Nat}(h:dn l n k):k<l.length:=by obtain⟨j,h1,h2,rfl⟩:=h;rw[gU (by rw[gG];exact h2)];exact jI.1 (List.getElem_mem _)
theorem l9 {l:List S}{j n:Nat}(h:j<n)(hn:n<l.length):qD l ((ord l l.length).getD j 0) ((ord l l.length).getD n 0):=by rw[gU (by rw[gG];omega),gU (by rw[gG];exact hn)];exact List.pairwise_iff_getElem.1 (jV l l.length) j n _ _ h
theorem tu {l:List S}{n:Nat}(hn:n<l.length):¬dn l n ((ord l l.length).getD n 0):=by rintro⟨j,h1,h2,e⟩;have:=l9 h1 hn;rw[e]at this;unfold qD at this;omega
theorem tO {l:List S}{n k:Nat}(hn:n<l.length)(h:dn l n k):(l.getD k .z).f<=(l.getD ((ord l l.length).getD n 0) .z).f:=by obtain⟨j,h1,h2,rfl⟩:=h;have:=l9 h1 hn;unfold qD at this;omega
theorem qJ {l:List S}{n k:Nat}(hn:n<l.length):dn l (n+1) k↔dn l n k\/k=(ord l l.length).getD n 0:=by constructor;{rintro⟨j,h1,h2,e⟩;by_cases hj:j=n;{subst hj;exact .inr e.symm};exact .inl ⟨j,by omega,h2,e⟩};rintro(⟨j,h1,h2,e⟩|rfl);{exact⟨j,by omega,h2,e⟩};exact⟨n,by omega,hn,rfl⟩
structure Inv (l:List S)(n:Nat)(h:List Int):Prop where
 len:h.length=l.length
 un:∀k,k<l.length->¬dn l n k->h.getD k 0=-1
 val:∀k,dn l n k->h.getD k 0=-2\/0<=h.getD k 0/\h.getD k 0<=4/\(l.getD k .z).c=false
 apart:∀j k,j<l.length->k<l.length->j≠k->h.getD j 0=h.getD k 0->0<=h.getD j 0->aI (l.getD j .z) (l.getD k .z)=false
theorem bq (h:List Int)(i k:Nat)(x:Int)(hi:i<h.length):(h.set i x).getD k 0=if i=k then x else h.getD k 0:=by rw[af,List.getElem?_set];by_cases e:i=k;{rw[av e,av hi,av e];rfl};rw[au e,au e,←af]
theorem ng {x y z:S}(h1:aI x z=true)(h2:aI y z=true)(hx:x.f<=z.f)(hy:y.f<=z.f):aI x y=true:=by unfold aI at h1 h2 ⊢;simp only[ak,decide_eq_true_eq]at h1 h2 ⊢;omega
theorem Inv.zero (l:List S):Inv l 0 (run l 0):=by have e:∀k,k<l.length->(run l 0).getD k 0=-1:=fun k hk=>by{show(List.replicate l.length (-1:Int)).getD k 0=-1;rw[af,List.getElem?_replicate,av hk];rfl};refine⟨by simp[run],fun k hk _=>e k hk,?_,fun j k hj hk _ _ h0=>?_⟩;{rintro k ⟨j,h1,-⟩;omega};rw[e j hj]at h0;omega
theorem Inv.next {l:List S}{n:Nat}{h:List Int}(hI:Inv l n h)(hn:n<l.length):Inv l (n+1) (put l h ((ord l l.length).getD n 0)):=by have hnew:=tu hn;have hbef:=fun k hk=>tO (k:=k) hn hk;have hsucc:=fun k=>qJ (k:=k) hn;have hil:(ord l l.length).getD n 0<l.length:=wH ⟨n,Nat.lt_succ_self n,hn,rfl⟩;generalize(ord l l.length).getD n 0=i at hnew hbef hsucc hil;have hih:i<h.length:=by{rw[hI.len];exact hil};have hi1:=hI.un i hil hnew;have hdn:∀k,k<l.length->0<=h.getD k 0->dn l n k:=fun k hk h0=>by{refine Classical.byContradiction fun hc=>?_;have:=hI.un k hk hc;omega};have pX:Inv l (n+1) (h.set i (-2)):=by{refine⟨by rw[List.length_set];exact hI.len,fun k hk hc=>?_,fun k hk=>?_,fun j k hj hk hne e h0=>?_⟩;{have h1:¬dn l n k:=fun h=>hc ((hsucc k).2 (.inl h));have h2:i≠k:=fun h=>hc ((hsucc k).2 (.inr h.symm));rw[bq h i k _ hih,au h2];exact hI.un k hk h1};{rw[bq h i k _ hih];split;{exact .inl rfl};rename_i hik;rcases(hsucc k).1 hk with h1|h1;{exact hI.val k h1};exact absurd h1.symm hik};rw[bq h i _ _ hih]at e h0;rw[bq h i _ _ hih]at e;split at h0;{omega};rename_i hij;rw[au hij]at e;split at e;{omega};exact hI.apart j k hj hk hne e h0};unfold put;split;{exact pX};rename_i hc;have hcf:(l.getD i .z).c=false:=by{simpa using hc};split;{rename_i sh z hg;obtain⟨h1,h2,h3⟩:=mD hg;have hno:=mg h3;refine⟨by rw[List.length_set];exact hI.len,fun k hk hcc=>?_,fun k hk=>?_,fun j k hj hk hne e h0=>?_⟩;{have h4:¬dn l n k:=fun h=>hcc ((hsucc k).2 (.inl h));have h5:i≠k:=fun h=>hcc ((hsucc k).2 (.inr h.symm));rw[bq h i k _ hih,au h5];exact hI.un k hk h4};{rw[bq h i k _ hih];split;{rename_i hik;subst hik;exact .inr ⟨h1,by omega,hcf⟩};rename_i hik;rcases(hsucc k).1 hk with h4|h4;{exact hI.val k h4};exact absurd h4.symm hik};rw[bq h i _ _ hih]at e h0;rw[bq h i _ _ hih]at e;by_cases hij:i=j;{subst hij;rw[av rfl,au hne]at e;rw[meet_comm];exact hno k hk e.symm};rw[au hij]at e h0;by_cases hik:i=k;{subst hik;rw[av rfl]at e;exact hno j hj e};rw[au hik]at e;exact hI.apart j k hj hk hne e h0};rename_i z hg;obtain⟨h1,h2⟩:=mI hg;split;{rename_i hzi;rcases h2 with rfl|⟨y,hy1,hy2,rfl⟩;{exact absurd rfl hzi};obtain⟨hz1,hz2,hz3⟩:=kG (h1 y hy1 hy2);generalize(hold l h i y l.length).toNat=z at hz1 hz2 hz3 hzi;rw[hz2];have hs:∀k,((h.set i y).set z (-2)).getD k 0=if z=k then -2 else if i=k then y else h.getD k 0:=fun k=>by{rw[bq _ z k _ (by rw[List.length_set,hI.len];exact hz1),bq h i k _ hih]};have hzd:=hdn z hz1 (by omega);refine⟨by rw[List.length_set,List.length_set];exact hI.len,fun k hk hcc=>?_,fun k hk=>?_,fun j k hj hk hne e h0=>?_⟩;{have h4:¬dn l n k:=fun h=>hcc ((hsucc k).2 (.inl h));have h5:i≠k:=fun h=>hcc ((hsucc k).2 (.inr h.symm));have h6:z≠k:=fun e=>h4 (e▸hzd);rw[hs,au h6,au h5];exact hI.un k hk h4};{rw[hs];split;{exact .inl rfl};split;{rename_i hik;subst hik;exact .inr ⟨by omega,by omega,hcf⟩};rename_i hik;rcases(hsucc k).1 hk with h4|h4;{exact hI.val k h4};exact absurd h4.symm hik};rw[hs]at e h0;rw[hs]at e;have key:∀k,k<l.length->k≠z->h.getD k 0=y->aI (l.getD k .z) (l.getD i .z)=false:=by{intro k hk hkz Bi;rcases hm:aI (l.getD k .z) (l.getD i .z)with _|_;{rfl};exfalso;have h7:=ng hm hz3 (hbef k (hdn k hk (by omega))) (hbef z hzd);have h8:=hI.apart k z hk hz1 hkz (by rw[Bi,hz2]) (by omega);rw[h7]at h8;cases h8};by_cases hzj:z=j;{rw[av hzj]at h0;omega};rw[au hzj]at e h0;by_cases yQ:z=k;{rw[av yQ]at e;rw[e]at h0;omega};rw[au yQ]at e;by_cases hij:i=j;{subst hij;rw[av rfl,au hne]at e;rw[meet_comm];exact key k hk (fun h=>yQ h.symm) e.symm};rw[au hij]at e h0;by_cases hik:i=k;{subst hik;rw[av rfl]at e;exact key j hj (fun h=>hzj h.symm) e};rw[au hik]at e;exact hI.apart j k hj hk hne e h0};exact pX
theorem Inv.run (l:List S):∀n,n<=l.length->Inv l n (Hm.run l n)
 |0,_=>Inv.zero l
 |n+1,h=>(Inv.run l n (by omega)).next (by omega)
end Hm
end
section
open Go.RowKit
set_option linter.unusedSimpArgs false
namespace Hm
open Sp
theorem qV {o:List Int}{j:Nat}(h:j<o.length):o.getD j 0=o[j]:=by rw[af,ah h];rfl
def tL (h:List Int):Nat->Nat
 |0=>0
 |i+1=>if h.getD i 0=-2 then tL h i+1 else tL h i
def val (h:List Int)(i:Nat):Int:=if h.getD i 0=-2 then 100+(tL h i:Int)else h.getD i 0
def hm (x:Int):Bool:=decide (x=-1)||(decide (0<=x/\x<=4)||decide (100<=x/\x<=163))
def fZ (l:List S)(hs:List Int)(n:Nat):Bool:=
 (List.range n).all fun i=>(decide (0<=hs.getD (l.getD i .z).b.toNat 0)&& !(decide (hs.getD (l.getD i .z).b.toNat 0<100)&&(l.getD i .z).c))&&
   (List.range i).all fun k=> !(decide (hs.getD (l.getD k .z).b.toNat 0=hs.getD (l.getD i .z).b.toNat 0)&&aI (l.getD i .z) (l.getD k .z))
def dw (ls:List Ln)(hs:List Int):Bool:=(Ln.isOk ls&&decide (hs.length=40))&&((List.range 40).all (fun i=>hm (hs.getD i 0))&&fZ (bG ls) hs (bG ls).length)
def size (hs:List Int):Nat:=hs.countP fun x=>decide (100<=x)
structure Bx (l:List S):Prop where
 len:l.length<=40
 lo:∀k,k<l.length->0<=(l.getD k .z).b/\(l.getD k .z).b<40
 one:∀j k,j<k->k<l.length->(l.getD j .z).b<(l.getD k .z).b
theorem at_mem {l:List S}{k:Nat}(h:k<l.length):l.getD k .z∈l:=by rw[af,ah h];exact List.getElem_mem h
theorem oZ (ls:List Ln):Bx (out ls 40):=by refine⟨jm ls 40,fun k hk=>?_,fun j k hj hk=>?_⟩;{obtain⟨b,f,t,hI⟩:=wO (at_mem hk);have:=hI.bx;have:=hI.Bg;omega};have h:=List.pairwise_iff_getElem.1 (kM ls 40) j k (by omega) hk hj;rw[af,af,ah hk,ah (show j<(out ls 40).length by omega)];exact h
section
variable {l : List S} {h : List Int}
end
end Hm
end
theorem fP (a:Int)(w:World):Calls Try.prog 66 #[.int .i64 a] w fun e w'=>e= .returned (.bool (Wd.ok a))/\w'=w:=by by_cases h1:a<0;{rw[Wd.mJ h1];go_enter Try.func66,Try.ntmps66;go_wp2;all_goals(go_ret;first|exact⟨rfl,rfl⟩|exact⟨aO (by simp;omega),rfl⟩)};by_cases h2:4294967295<a;{rw[Wd.mG h2];go_enter Try.func66,Try.ntmps66;go_wp2;all_goals(go_ret;first|exact⟨rfl,rfl⟩|exact⟨aO (by simp;omega),rfl⟩)};rw[Wd.pu (by omega) (by omega)];have h3:0<=a:=by{omega};have h4:a<=4294967295:=by{omega};clear h1 h2;go_enter Try.func66,Try.ntmps66;go_wp2;all_goals(go_ret;first|exact⟨rfl,rfl⟩|exact⟨aO (by simp;omega),rfl⟩)
theorem aR (a:Int)(w:World):Calls Try.prog 41 #[.int .i64 a] w fun e w'=>e= .returned (.bool (Wd.ok a))/\w'=w:=by by_cases h1:a<0;{rw[Wd.mJ h1];go_enter Try.func41,Try.ntmps41;go_wp2;all_goals(go_ret;first|exact⟨rfl,rfl⟩|exact⟨aO (by simp;omega),rfl⟩)};by_cases h2:4294967295<a;{rw[Wd.mG h2];go_enter Try.func41,Try.ntmps41;go_wp2;all_goals(go_ret;first|exact⟨rfl,rfl⟩|exact⟨aO (by simp;omega),rfl⟩)};rw[Wd.pu (by omega) (by omega)];have h3:0<=a:=by{omega};have h4:a<=4294967295:=by{omega};clear h1 h2;go_enter Try.func41,Try.ntmps41;go_wp2;all_goals(go_ret;first|exact⟨rfl,rfl⟩|exact⟨aO (by simp;omega),rfl⟩)
theorem aL (n lo hi:Int)(w:World):Calls Try.prog 44 #[.int .i64 n, .int .i64 lo, .int .i64 hi] w fun e w'=>e= .returned (.bool (Wd.aH n lo hi))/\w'=w:=by by_cases h1:lo<=n;{by_cases h2:n<=hi;{rw[Wd.oN h1 h2];go_enter Try.func44,Try.ntmps44;go_wp2;all_goals(go_ret;first|exact⟨rfl,rfl⟩|exact⟨aO (by simp;omega),rfl⟩)};rw[Wd.jF (by omega)];go_enter Try.func44,Try.ntmps44;go_wp2;all_goals(go_ret;first|exact⟨rfl,rfl⟩|exact⟨aO (by simp;omega),rfl⟩)};rw[Wd.jk (by omega)];go_enter Try.func44,Try.ntmps44;go_wp2;all_goals(go_ret;first|exact⟨rfl,rfl⟩|exact⟨aO (by simp;omega),rfl⟩)
theorem aQ (n lo hi:Int)(w:World):Calls Try.prog 29 #[.int .i64 n, .int .i64 lo, .int .i64 hi] w fun e w'=>e= .returned (.bool (Wd.aH n lo hi))/\w'=w:=by by_cases h1:lo<=n;{by_cases h2:n<=hi;{rw[Wd.oN h1 h2];go_enter Try.func29,Try.ntmps29;go_wp2;all_goals(go_ret;first|exact⟨rfl,rfl⟩|exact⟨aO (by simp;omega),rfl⟩)};rw[Wd.jF (by omega)];go_enter Try.func29,Try.ntmps29;go_wp2;all_goals(go_ret;first|exact⟨rfl,rfl⟩|exact⟨aO (by simp;omega),rfl⟩)};rw[Wd.jk (by omega)];go_enter Try.func29,Try.ntmps29;go_wp2;all_goals(go_ret;first|exact⟨rfl,rfl⟩|exact⟨aO (by simp;omega),rfl⟩)
namespace Lb
def yL (n:Int):UInt8:=UInt8.ofNat (n%128+128).toNat
def fits (lo hi:Int):Nat->Int->Prop
 |0,n=>lo<=n/\n<=hi
 |k+1,n=>(lo<=n/\n<=hi)\/fits lo hi k (n / 128)
end Lb
section
attribute [local go_sem] Oper.semAt_some

end
section
attribute [local go_sem] Oper.semAt_some
end
section
open Go.RowKit
def bu (w:World):Type:={to:World // Below w.heap.size w to}
def bu.to {w:World}(p:bu w):World:=p.1
theorem bu.h {w:World}(p:bu w):Below w.heap.size w p.to:=p.2
theorem bu.any (w:World):Nonempty (bu w):=⟨⟨w,Below.refl _ _⟩⟩
theorem aC {P:Program}{id:Nat}{Q:Exit->Act->World->Prop}{a:Act}{w:World}{l:List Oper}(hm:P.follows .mixedOrders=true)(hB:Region.lexB .any l.toArray=true)
   (h:wpQuiet P l.toArray (fun w'=>∃p:bu w,w'=p.to) (fun a'=>∀w',(∃p:bu w,w'=p.to)->Q .normal a' w') l a):(Code.region id l.toArray true).wp P Q a w:=
 wp_region_quiet (C:=fun w'=>∃p:bu w,w'=p.to) hm hB ⟨⟨w.drew,(Below.refl _ w).drew⟩,rfl⟩ (by simpa using h)
theorem aW {P:Program}{f:FuncId}{args:Array Value}{w:World}{p:bu w}{v:Value}
   (h:Calls P f args p.to fun e w'=>e= .returned v/\Below p.to.heap.size p.to w'):Calls P f args p.to fun e w''=>e= .returned v/\∃p:bu w,w''=p.to:=
 h.mono fun _ w' ⟨he,hb⟩=>⟨he,⟨w',p.h.trans (hb.mono p.h.size)⟩,rfl⟩
end
section
open Go.RowKit
set_option linter.unusedSimpArgs false
namespace Sp
def lg (s:S):S:=if s.f<0 then⟨s.b,-1,-1,false⟩else s
def rc (n:Int)(s:S):S:=if s.f<0 then⟨s.b,n,n,s.c⟩else⟨s.b,s.f,n,s.c⟩
def xd (s:S):S:=⟨s.b,s.f,s.t,true⟩
def on (F:S->S)(l:List S)(b:Int):List S:=l.set b.toNat (F (l.getD b.toNat .z))
def rows (ls:List Ln)(i:Nat):List S:=(List.range 40).map fun b=>lg (row ls b i)
theorem dP (ls:List Ln)(i:Nat):(rows ls i).length=40:=by simp[rows]
theorem fq (ls:List Ln)(i:Nat){b:Nat}(hb:b<40):(rows ls i).getD b .z=lg (row ls b i):=by unfold rows;rw[af,List.getElem?_map,List.getElem?_range hb];rfl
theorem lL (F:S->S)(l:List S)(b:Int):(on F l b).length=l.length:=by simp[on]
theorem ib (F:S->S):∀(bs:List Int)(l:List S),(bs.foldl (on F) l).length=l.length
 |[],l=>rfl
 |b::bs,l=>by rw[List.foldl_cons,ib F bs,lL]
theorem pq (F:S->S)(l:List S)(b:Int)(h0:0<=b)(h1:b<(l.length:Int))(j:Nat):(on F l b).getD j .z=if b=(j:Int)then F (l.getD j .z)else l.getD j .z:=by unfold on;rw[af,List.getElem?_set];by_cases e:b.toNat=j;{rw[av e,av (show b.toNat<l.length by omega),av (by omega),←e];rfl};rw[au e,au (by omega),←af]
theorem jL (F:S->S):∀(bs:List Int)(l:List S)(j:Nat),bs.Nodup->(∀b∈bs,0<=b/\b<(l.length:Int))->(bs.foldl (on F) l).getD j .z=if(j:Int)∈bs then F (l.getD j .z)else l.getD j .z
 |[],l,j,_,_=>by simp
 | b ::bs,l,j,hn,hb=>by
   have hb0:=hb b (by simp)
   rw[List.foldl_cons,jL F bs _ j (List.nodup_cons.1 hn).2 (fun x hx=>by rw[lL];exact hb x (by simp[hx])),pq F l b hb0.1 hb0.2]
   by_cases e:b=(j:Int)
   · have hj:¬(j:Int)∈bs:=by rw[←e];exact(List.nodup_cons.1 hn).1
     rw[au hj,av e,av (by simp[e])]
   · rw[au e]
     by_cases hj:(j:Int)∈bs
     · rw[av hj,av (by simp[hj])]
     · rw[au hj,au (by simp only[List.mem_cons,not_or];exact⟨fun h=>e h.symm,hj⟩)]
theorem ja (F:S->S){bs:List Int}{k:Nat}(hk:k<bs.length)(l:List S):(bs.take (k+1)).foldl (on F) l=on F ((bs.take k).foldl (on F) l) (bs.getD k 0):=by rw[List.take_add_one,ah hk,List.foldl_append,af,ah hk];rfl
theorem iT (m:Nat):∀k,(Fl.jy m k).Nodup
 |0=>by simp[Fl.jy]
 | k +1=>by
   have ih:=iT m k
   unfold Fl.jy
   split
   · rw[List.nodup_append]
     refine⟨ih,by simp,fun x hx y hy=>?_⟩
     have h:=(Fl.gL m x k).1 hx
     have e:y=(k:Int):=by simpa using hy
     omega
   · exact ih
theorem iR (m:Nat):(Fl.dZ m).Nodup:=iT m 40
theorem mq (m:Nat){b:Nat}(hb:b<40):((b:Int)∈Fl.dZ m)↔m.testBit b=true:=by rw[←Fl.oQ,Fl.tN m hb]
theorem jg (m:Nat):∀b∈Fl.dZ m,0<=b/\b<40:=fun b hb=>by
 have h:=(Fl.gL m b 40).1 hb
 exact⟨h.1,h.2.1⟩
theorem vS {ls:List Ln}{b k:Nat}(h:(row ls b k).f<0):(row ls b k).c=false:=by have hT:=bW ls b k;rcases hT.at_ with⟨-,-,h3⟩|⟨f,t,h3,-⟩;{rw[hT.bO,List.any_eq_false];intro i hi;have:=h3 i (List.mem_range.1 hi);rcases e:cr ls b i with _|_;{simp};rw[oU e]at this;cases this};omega
theorem rZ (ls:List Ln)(b k:Nat):(row ls b k).b=(b:Int):=(bW ls b k).bx
def more (ls:List Ln)(i:Nat)(l:List S):List S:=(Fl.dZ (((Fl.live ls).getD i 0|||Fl.ou ls (Fl.live ls) i)|||Fl.sm (ls.getD i .z))).foldl (on (rc (i:Int))) l
def bO (ls:List Ln)(i:Nat)(l:List S):List S:=if(ls.getD i .z).k=7 then(Fl.dZ (Fl.an (Fl.ou ls (Fl.live ls) i) (Fl.sm (ls.getD i .z)))).foldl (on xd) l else l
theorem pM (s:S):((lg s).f<0↔s.f<0)/\(lg s).b=s.b:=by unfold lg;split;{exact⟨⟨fun _=>by assumption,fun _=>by show(-1:Int)<0;decide⟩,rfl⟩};exact⟨Iff.rfl,rfl⟩
theorem mZ {ls:List Ln}(hok:Ln.isOk ls=true){i:Nat}(hi:i<ls.length):rows ls (i+1)=bO ls i (more ls i (rows ls i)):=by have lU:(more ls i (rows ls i)).length=40:=by{unfold more;rw[ib,dP]};have hcl:(bO ls i (more ls i (rows ls i))).length=40:=by{unfold bO;split;{rw[ib,lU]};exact lU};have key:∀j,j<40->(bO ls i (more ls i (rows ls i))).getD j .z=lg (row ls j (i+1)):=by{intro j hj;have hm:(more ls i (rows ls i)).getD j .z=if ha ls j i=true then rc (i:Int) (lg (row ls j i))else lg (row ls j i):=by{unfold more;rw[jL _ _ _ _ (iR _) (fun b hb=>by rw[dP];exact jg _ b hb),fq ls i hj];have e:((j:Int)∈Fl.dZ (((Fl.live ls).getD i 0|||Fl.ou ls (Fl.live ls) i)|||Fl.sm (ls.getD i .z)))↔ha ls j i=true:=by{rw[mq _ hj,Nat.testBit_or,Fl.oG (Ln.di hok hi)];exact Iff.rfl};by_cases h:ha ls j i=true;{rw[av h,av (e.2 h)]};rw[au h,au (fun h2=>h (e.1 h2))]};have hc:(bO ls i (more ls i (rows ls i))).getD j .z=if cr ls j i=true then xd ((more ls i (rows ls i)).getD j .z)else(more ls i (rows ls i)).getD j .z:=by{unfold bO;by_cases h7:(ls.getD i .z).k=7;{rw[av h7,jL _ _ _ _ (iR _) (fun b hb=>by rw[lU];exact jg _ b hb)];have e:((j:Int)∈Fl.dZ (Fl.an (Fl.ou ls (Fl.live ls) i) (Fl.sm (ls.getD i .z))))↔cr ls j i=true:=by{rw[mq _ hj,Fl.fF,Fl.oG (Ln.di hok hi)];unfold cr;rw[decide_eq_true h7,Bool.true_and,decide_not];rw[Bool.and_comm]};by_cases h:cr ls j i=true;{rw[av h,av (e.2 h)]};rw[au h,au (fun h2=>h (e.1 h2))]};rw[au h7,au];unfold cr;rw[decide_eq_false h7];simp};rw[hc,hm];show _=lg (dh ls j i (row ls j i));have hcz:=@vS ls j i;generalize row ls j i=r at hcz ⊢;obtain⟨b,f,t,c⟩:=r;dsimp only at hcz;unfold dh;by_cases h:ha ls j i=true;{rw[av h,av h];by_cases hf:f<0;{have hcz:=hcz hf;subst hcz;rcases hx:cr ls j i with _|_;{simp[lg,rc,hf,xd]};simp[lg,rc,hf,xd]};rcases hx:cr ls j i with _|_;{simp[lg,rc,hf,xd]};simp[lg,rc,hf,xd]};rw[au h,au h];rw[au];intro hx;exact h (oU hx)};refine List.ext_getElem (by rw[dP,hcl]) fun j h1 h2=>?_;have hj:j<40:=by{rw[dP]at h1;exact h1};have a:=fq ls (i+1) hj;have b:=key j hj;rw[af,ah h1]at a;rw[af,ah h2]at b;exact a.trans b.symm
theorem nk (ls:List Ln):rows ls 0=(List.range 40).map fun(b:Nat)=>⟨(b:Int),-1,-1,false⟩:=rfl
structure Vs (l:List S):Prop where
 len:l.length=40
 bx:∀b:Nat,b<40->(l.getD b .z).b=(b:Int)
 un:∀b:Nat,b<40->(l.getD b .z).f<0->l.getD b .z=⟨(b:Int),-1,-1,false⟩
theorem jC (ls:List Ln)(i:Nat):Vs (rows ls i):=by refine⟨dP ls i,fun b hb=>?_,fun b hb h=>?_⟩;{rw[fq ls i hb,(pM _).2,rZ]};rw[fq ls i hb]at h ⊢;unfold lg;rw[av ((pM _).1.1 h),rZ]
theorem Vs.on {F:S->S}{l:List S}(h:Vs l){b:Int}(h0:0<=b)(h1:b<40)(hb:∀s,(F s).b=s.b)(hf:∀s,0<=(F s).f\/(F s).f<0/\s.f<0/\F s=s):Vs (Sp.on F l b):=by have hl:=h.len;refine⟨by rw[lL,hl],fun j hj=>?_,fun j hj hn=>?_⟩;{rw[pq F l b h0 (by omega)];split;{rw[hb,h.bx j hj]};exact h.bx j hj};rw[pq F l b h0 (by omega)]at hn ⊢;split at hn;{rcases hf (l.getD j .z)with h2|⟨_,h2,h3⟩;{omega};rw[av (by assumption),h3];exact h.un j hj h2};rw[au (by assumption)];exact h.un j hj hn
theorem Vs.fold {F:S->S}(hb:∀s,(F s).b=s.b)(hf:∀s,0<=(F s).f\/(F s).f<0/\s.f<0/\F s=s):∀(bs:List Int)(l:List S),(∀b∈bs,0<=b/\b<40)->Vs l->Vs (bs.foldl (Sp.on F) l)
 |[],l,_,h=>h
 |b::bs,l,hi,h=>Vs.fold hb hf bs _ (fun x hx=>hi x (by simp[hx])) (h.on (hi b (by simp)).1 (hi b (by simp)).2 hb hf)
theorem yz (n:Int)(s:S):(rc n s).b=s.b:=by unfold rc;split<;>rfl
theorem yP {n:Int}(hn:0<=n)(s:S):0<=(rc n s).f\/(rc n s).f<0/\s.f<0/\rc n s=s:=by unfold rc;split;{exact .inl hn};refine .inl ?_;dsimp only;omega
def bg (l:List S):Nat->List S
 |0=>[]
 |k+1=>if 0<=(l.getD k .z).f then bg l k++[l.getD k .z]else bg l k
theorem oJ (l:List S):∀k,(bg l k).length<=k
 |0=>by simp[bg]
 | k+1=>by
   have:=oJ l k
   unfold bg
   split
   · rw[List.length_append];simp;omega
   · omega
theorem lS (ls:List Ln):∀k,k<=40->bg (rows ls ls.length) k=out ls k
 |0,_=>rfl
 | k +1,h=>by
   unfold bg out
   rw[lS ls k (by omega),fq ls _ (by omega)]
   by_cases hf:(row ls k ls.length).f<0
   · have h1:=(pM (row ls k ls.length)).1.2 hf
     rw[au (by omega),au (by omega)]
   · have e:lg (row ls k ls.length)=row ls k ls.length:=by unfold lg;rw[au hf]
     rw[e]
end Sp
end
section
open Go.RowKit
def aD (x:Ln)(sv:Value):Value:=
 if x.k=1 then .iface 98 (.agg #[.int .i64 x.d, .int .i64 x.n])
 else if x.k=2 then .iface 100 (.agg #[.int .i64 x.d, .int .i64 x.a])
 else if x.k=3 then .iface 102 (.agg #[.int .i64 x.d, .int .i64 x.n, .int .i64 x.a, .int .i64 x.b])
 else if x.k=4 then .iface 103 (.agg #[.int .i64 x.d, .int .i64 x.a])
 else if x.k=5 then .iface 88 (.agg #[.int .i64 x.n])
 else if x.k=6 then .iface 105 (.agg #[.int .i64 x.a, .int .i64 x.n])
 else if x.k=7 then .iface 107 (.agg #[.int .i64 x.d, .int .i64 x.n,sv])
 else if x.k=8 then .iface 109 (.agg #[.int .i64 x.d, .int .i64 x.a, .int .i64 x.n])
 else if x.k=9 then .iface 111 (.agg #[.int .i64 x.b, .int .i64 x.a, .int .i64 x.n])
 else if x.k=10 then .iface 90 (.agg #[.int .i64 x.a])
 else if x.k=11 then .iface 92 (.agg #[])
 else .nilIface
theorem vN (v:Value)(w:World):(Instr.typeAssert (.iface 98 v) 68 98 true).run Try.prog w= .ok (.tuple #[v, .bool true]) w:=by kernel_rfl
theorem yN (w:World):(do pure (Value.tuple #[←zeroValue 98, .bool false]):Sem Value).run Try.prog w= .ok (.tuple #[.agg #[.int .i64 0, .int .i64 0], .bool false]) w:=by kernel_rfl
theorem bZ (u:TypeId)(v:Value)(w:World)(h:u≠98:=by decide):(Instr.typeAssert (.iface u v) 68 98 true).run Try.prog w= .ok (.tuple #[.agg #[.int .i64 0, .int .i64 0], .bool false]) w:=by have e:(Instr.typeAssert (.iface u v) 68 98 true).run Try.prog w=(if u=98 then(pure (Value.tuple #[v, .bool true]):Sem Value)else(do pure (Value.tuple #[←zeroValue 98, .bool false]))).run Try.prog w:=by{kernel_rfl};rw[e,au h];exact yN w
theorem vW (v:Value)(w:World):(Instr.typeAssert (.iface 100 v) 68 100 true).run Try.prog w= .ok (.tuple #[v, .bool true]) w:=by kernel_rfl
theorem yB (w:World):(do pure (Value.tuple #[←zeroValue 100, .bool false]):Sem Value).run Try.prog w= .ok (.tuple #[.agg #[.int .i64 0, .int .i64 0], .bool false]) w:=by kernel_rfl
theorem dB (u:TypeId)(v:Value)(w:World)(h:u≠100:=by decide):(Instr.typeAssert (.iface u v) 68 100 true).run Try.prog w= .ok (.tuple #[.agg #[.int .i64 0, .int .i64 0], .bool false]) w:=by have e:(Instr.typeAssert (.iface u v) 68 100 true).run Try.prog w=(if u=100 then(pure (Value.tuple #[v, .bool true]):Sem Value)else(do pure (Value.tuple #[←zeroValue 100, .bool false]))).run Try.prog w:=by{kernel_rfl};rw[e,au h];exact yB w
theorem ui (v:Value)(w:World):(Instr.typeAssert (.iface 102 v) 68 102 true).run Try.prog w= .ok (.tuple #[v, .bool true]) w:=by kernel_rfl
theorem yG (w:World):(do pure (Value.tuple #[←zeroValue 102, .bool false]):Sem Value).run Try.prog w= .ok (.tuple #[.agg #[.int .i64 0, .int .i64 0, .int .i64 0, .int .i64 0], .bool false]) w:=by kernel_rfl
theorem bD (u:TypeId)(v:Value)(w:World)(h:u≠102:=by decide):(Instr.typeAssert (.iface u v) 68 102 true).run Try.prog w= .ok (.tuple #[.agg #[.int .i64 0, .int .i64 0, .int .i64 0, .int .i64 0], .bool false]) w:=by have e:(Instr.typeAssert (.iface u v) 68 102 true).run Try.prog w=(if u=102 then(pure (Value.tuple #[v, .bool true]):Sem Value)else(do pure (Value.tuple #[←zeroValue 102, .bool false]))).run Try.prog w:=by{kernel_rfl};rw[e,au h];exact yG w
theorem vV (v:Value)(w:World):(Instr.typeAssert (.iface 103 v) 68 103 true).run Try.prog w= .ok (.tuple #[v, .bool true]) w:=by kernel_rfl
theorem yE (w:World):(do pure (Value.tuple #[←zeroValue 103, .bool false]):Sem Value).run Try.prog w= .ok (.tuple #[.agg #[.int .i64 0, .int .i64 0], .bool false]) w:=by kernel_rfl
theorem ek (u:TypeId)(v:Value)(w:World)(h:u≠103:=by decide):(Instr.typeAssert (.iface u v) 68 103 true).run Try.prog w= .ok (.tuple #[.agg #[.int .i64 0, .int .i64 0], .bool false]) w:=by have e:(Instr.typeAssert (.iface u v) 68 103 true).run Try.prog w=(if u=103 then(pure (Value.tuple #[v, .bool true]):Sem Value)else(do pure (Value.tuple #[←zeroValue 103, .bool false]))).run Try.prog w:=by{kernel_rfl};rw[e,au h];exact yE w
theorem vR (v:Value)(w:World):(Instr.typeAssert (.iface 88 v) 68 88 true).run Try.prog w= .ok (.tuple #[v, .bool true]) w:=by kernel_rfl
theorem yM (w:World):(do pure (Value.tuple #[←zeroValue 88, .bool false]):Sem Value).run Try.prog w= .ok (.tuple #[.agg #[.int .i64 0], .bool false]) w:=by kernel_rfl
theorem cB (u:TypeId)(v:Value)(w:World)(h:u≠88:=by decide):(Instr.typeAssert (.iface u v) 68 88 true).run Try.prog w= .ok (.tuple #[.agg #[.int .i64 0], .bool false]) w:=by have e:(Instr.typeAssert (.iface u v) 68 88 true).run Try.prog w=(if u=88 then(pure (Value.tuple #[v, .bool true]):Sem Value)else(do pure (Value.tuple #[←zeroValue 88, .bool false]))).run Try.prog w:=by{kernel_rfl};rw[e,au h];exact yM w
theorem wD (v:Value)(w:World):(Instr.typeAssert (.iface 105 v) 68 105 true).run Try.prog w= .ok (.tuple #[v, .bool true]) w:=by kernel_rfl
theorem yK (w:World):(do pure (Value.tuple #[←zeroValue 105, .bool false]):Sem Value).run Try.prog w= .ok (.tuple #[.agg #[.int .i64 0, .int .i64 0], .bool false]) w:=by kernel_rfl
theorem dV (u:TypeId)(v:Value)(w:World)(h:u≠105:=by decide):(Instr.typeAssert (.iface u v) 68 105 true).run Try.prog w= .ok (.tuple #[.agg #[.int .i64 0, .int .i64 0], .bool false]) w:=by have e:(Instr.typeAssert (.iface u v) 68 105 true).run Try.prog w=(if u=105 then(pure (Value.tuple #[v, .bool true]):Sem Value)else(do pure (Value.tuple #[←zeroValue 105, .bool false]))).run Try.prog w:=by{kernel_rfl};rw[e,au h];exact yK w
theorem ug (v:Value)(w:World):(Instr.typeAssert (.iface 107 v) 68 107 true).run Try.prog w= .ok (.tuple #[v, .bool true]) w:=by kernel_rfl
theorem yD (w:World):(do pure (Value.tuple #[←zeroValue 107, .bool false]):Sem Value).run Try.prog w= .ok (.tuple #[.agg #[.int .i64 0, .int .i64 0, .slice none 0 0], .bool false]) w:=by kernel_rfl
theorem bY (u:TypeId)(v:Value)(w:World)(h:u≠107:=by decide):(Instr.typeAssert (.iface u v) 68 107 true).run Try.prog w= .ok (.tuple #[.agg #[.int .i64 0, .int .i64 0, .slice none 0 0], .bool false]) w:=by have e:(Instr.typeAssert (.iface u v) 68 107 true).run Try.prog w=(if u=107 then(pure (Value.tuple #[v, .bool true]):Sem Value)else(do pure (Value.tuple #[←zeroValue 107, .bool false]))).run Try.prog w:=by{kernel_rfl};rw[e,au h];exact yD w
theorem tY (v:Value)(w:World):(Instr.typeAssert (.iface 109 v) 68 109 true).run Try.prog w= .ok (.tuple #[v, .bool true]) w:=by kernel_rfl
theorem yF (w:World):(do pure (Value.tuple #[←zeroValue 109, .bool false]):Sem Value).run Try.prog w= .ok (.tuple #[.agg #[.int .i64 0, .int .i64 0, .int .i64 0], .bool false]) w:=by kernel_rfl
theorem dJ (u:TypeId)(v:Value)(w:World)(h:u≠109:=by decide):(Instr.typeAssert (.iface u v) 68 109 true).run Try.prog w= .ok (.tuple #[.agg #[.int .i64 0, .int .i64 0, .int .i64 0], .bool false]) w:=by have e:(Instr.typeAssert (.iface u v) 68 109 true).run Try.prog w=(if u=109 then(pure (Value.tuple #[v, .bool true]):Sem Value)else(do pure (Value.tuple #[←zeroValue 109, .bool false]))).run Try.prog w:=by{kernel_rfl};rw[e,au h];exact yF w
theorem ww (v:Value)(w:World):(Instr.typeAssert (.iface 111 v) 68 111 true).run Try.prog w= .ok (.tuple #[v, .bool true]) w:=by kernel_rfl
theorem yO (w:World):(do pure (Value.tuple #[←zeroValue 111, .bool false]):Sem Value).run Try.prog w= .ok (.tuple #[.agg #[.int .i64 0, .int .i64 0, .int .i64 0], .bool false]) w:=by kernel_rfl
theorem iL (u:TypeId)(v:Value)(w:World)(h:u≠111:=by decide):(Instr.typeAssert (.iface u v) 68 111 true).run Try.prog w= .ok (.tuple #[.agg #[.int .i64 0, .int .i64 0, .int .i64 0], .bool false]) w:=by have e:(Instr.typeAssert (.iface u v) 68 111 true).run Try.prog w=(if u=111 then(pure (Value.tuple #[v, .bool true]):Sem Value)else(do pure (Value.tuple #[←zeroValue 111, .bool false]))).run Try.prog w:=by{kernel_rfl};rw[e,au h];exact yO w
theorem rU (v:Value)(w:World):(Instr.typeAssert (.iface 90 v) 68 90 true).run Try.prog w= .ok (.tuple #[v, .bool true]) w:=by kernel_rfl
theorem wK (w:World):(do pure (Value.tuple #[←zeroValue 90, .bool false]):Sem Value).run Try.prog w= .ok (.tuple #[.agg #[.int .i64 0], .bool false]) w:=by kernel_rfl
theorem cK (u:TypeId)(v:Value)(w:World)(h:u≠90:=by decide):(Instr.typeAssert (.iface u v) 68 90 true).run Try.prog w= .ok (.tuple #[.agg #[.int .i64 0], .bool false]) w:=by have e:(Instr.typeAssert (.iface u v) 68 90 true).run Try.prog w=(if u=90 then(pure (Value.tuple #[v, .bool true]):Sem Value)else(do pure (Value.tuple #[←zeroValue 90, .bool false]))).run Try.prog w:=by{kernel_rfl};rw[e,au h];exact wK w
theorem vK (v:Value)(w:World):(Instr.typeAssert (.iface 92 v) 68 92 true).run Try.prog w= .ok (.tuple #[v, .bool true]) w:=by kernel_rfl
theorem vO (w:World):(do pure (Value.tuple #[←zeroValue 92, .bool false]):Sem Value).run Try.prog w= .ok (.tuple #[.agg #[], .bool false]) w:=by kernel_rfl
theorem dX (u:TypeId)(v:Value)(w:World)(h:u≠92:=by decide):(Instr.typeAssert (.iface u v) 68 92 true).run Try.prog w= .ok (.tuple #[.agg #[], .bool false]) w:=by have e:(Instr.typeAssert (.iface u v) 68 92 true).run Try.prog w=(if u=92 then(pure (Value.tuple #[v, .bool true]):Sem Value)else(do pure (Value.tuple #[←zeroValue 92, .bool false]))).run Try.prog w:=by{kernel_rfl};rw[e,au h];exact vO w
theorem o7 (u:TypeId)(v:Value)(w:World):(binOp .eql 68 (.iface u v) .nilIface).run Try.prog w= .ok (.bool false) w:=by kernel_rfl
end
end Go.Proofs.Ytpipjiinmhopmaa
