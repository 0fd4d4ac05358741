/-
  Own texts for a law: Mv0 Mv1 Mv2 MvX Words1 Step1 Step2 Leb0 Leb1 MpP MathB SpP
-/
import Derived.Test.YthamlonlgnjljaaNA01
import Derived.ProofKit
import Derived.Test.YthamlonlgnjljaaRows
import Derived.RangeFuncBox
import Derived.RangeFuncNested
import Derived.RangeFuncBound
import Derived.RangeFuncCalls
import Derived.RangeFuncLeaves
import Derived.Shelf.Abstract
import Derived.Shelf.RegionOpen
import Derived.OwnWalkIn
import Derived.TacticsInMore
import Derived.LoopNIn
import Derived.LoopIn
import Derived.Maps.AppendAt
import Derived.Laws.BytesString
import Derived.Laws.IdiomStrings
import Derived.Laws.BytesArg
namespace Go.Proofs.Ythamlonlgnjljaa
open Go.RowKit Go.Shelf
set_option linter.all false
set_option maxRecDepth 100000
set_option maxHeartbeats 16000000
section
open Go.RowKit
set_option linter.unusedSimpArgs false
namespace Mv
structure M where
 t:Int
 f:Int
def M.z:M:=⟨0,0⟩
def place (h:Int):Bool:=Hm.hm h&&decide (h≠-1)
def aR (l:List M)(i:Nat):Bool:=(place (l.getD i .z).t&&place (l.getD i .z).f)&&(List.range i).all fun k=> !decide ((l.getD k .z).t=(l.getD i .z).t)
def isOk (l:List M):Bool:=(List.range l.length).all (fun i=>aR l i)&&decide (l.length<=8)
def free (l:List M)(i:Nat):Bool:=(List.range l.length).all fun k=>decide (k=i)||decide ((l.getD k .z).f≠(l.getD i .z).t)
def gB (l:List M):Nat->Option Nat
 |0=>none
 | m+1=>match gB l m with
   |some i=>some i
   |none=>if free l m=true then some m else none
def spare (l:List M):List M:=l.map fun m=>if m.f=(l.getD 0 .z).f then⟨m.t,-2⟩else m
def step (l:List M):M×List M:=match gB l l.length with
 |some i=>(l.getD i .z,l.eraseIdx i)
 |none=>(⟨-2,(l.getD 0 .z).f⟩,spare l)
def dW:Nat->List M->List M
 |0,_=>[]
 |n+1,l=>if l.length=0 then[]else(step l).1::dW n (step l).2
def aH (l:List M):List M:=l.filter fun m=>decide (m.t≠m.f)
def ordered (l:List M):List M:=if isOk l=true then dW 40 (aH l)else[]
def bA (l:List M)(v:List Int):List Int:=if isOk l=true/\v.length=l.length then v else[]
theorem dL {l:List M}{i:Nat}:∀{m:Nat},gB l m=some i->i<m/\free l i=true
 |0,h=>by simp[gB]at h
 | m + 1,h=>by
   unfold gB at h
   split at h
   · rename_i j hj
     cases h
     have:=dL hj
     exact⟨by omega,this.2⟩
   · split at h
     · cases h
       exact⟨by omega,by assumption⟩
     · cases h
theorem l9 {l:List M}:∀{m:Nat},gB l m=none->∀i,i<m->free l i=false
 |0,_,i,hi=>absurd hi (by omega)
 | m + 1,h,i,hi=>by
   unfold gB at h
   split at h
   · cases h
   · rename_i hn
     split at h
     · cases h
     · rename_i hf
       by_cases e:i=m
       · rw[e];simpa using hf
       · exact l9 hn i (by omega)
theorem lu {l:List M}{i:Nat}:free l i=true↔∀k,k<l.length->k≠i->(l.getD k .z).f≠(l.getD i .z).t:=by unfold free;rw[List.all_eq_true];constructor;{intro h k hk hne;have:=h k (List.mem_range.2 hk);rw[Bool.or_eq_true,decide_eq_true_eq,decide_eq_true_eq]at this;exact this.resolve_left hne};intro h k hk;rw[Bool.or_eq_true,decide_eq_true_eq,decide_eq_true_eq];by_cases e:k=i;{exact .inl e};exact .inr (h k (List.mem_range.1 hk) e)
theorem qK {l:List M}{i:Nat}(h:free l i=false):∃k,k<l.length/\k≠i/\(l.getD k .z).f=(l.getD i .z).t:=by refine Classical.byContradiction fun hc=>?_;have:free l i=true:=lu.2 fun k hk hne e=>hc ⟨k,hk,hne,e⟩;rw[this]at h;cases h
structure Good (l:List M):Prop where
 nd:∀i j,i<l.length->j<l.length->(l.getD i .z).t=(l.getD j .z).t->i=j
 ne:∀i,i<l.length->(l.getD i .z).t≠(l.getD i .z).f
 pl:∀i,i<l.length->0<=(l.getD i .z).t/\(l.getD i .z).t<=163/\((l.getD i .z).f=-2\/0<=(l.getD i .z).f/\(l.getD i .z).f<=163)
 one:∀i j,i<l.length->j<l.length->(l.getD i .z).f=-2->(l.getD j .z).f=-2->i=j
theorem Jw (n:Nat)(s:Nat->Nat)(hs:∀i,i<n->s i<n)(hi:∀i j,i<n->j<n->s i=s j->i=j):∀k,k<n->∃i,i<n/\s i=k:=by
 intro k hk
 refine Classical.byContradiction fun hc=>?_
 have h1:=Hm.kr (p:=fun x=>decide (x≠k)) n ((List.range n).map s) (by
  rw[List.Nodup,List.pairwise_map]
  refine List.Pairwise.imp_of_mem ?_ List.nodup_range
  intro a b ha hb hab e
  exact hab (hi a b (List.mem_range.1 ha) (List.mem_range.1 hb) e)) (by
  intro x hx
  obtain⟨i,hi2,rfl⟩:=List.mem_map.1 hx
  have hi3:=List.mem_range.1 hi2
  refine⟨hs i hi3,?_⟩
  rw[decide_eq_true_eq]
  intro e
  exact hc ⟨i,hi3,e⟩)
 rw[List.length_map,List.length_range]at h1
 have h2:(List.range n).countP (fun x=>decide (x≠k))<n:=by have h3:=List.length_eq_countP_add_countP (fun x=>decide (x≠k)) (l:=List.range n);rw[List.length_range]at h3;have h4:0<(List.range n).countP (fun x=>decide (¬(decide (x≠k))=true)):=by{rw[List.countP_pos_iff];exact⟨k,List.mem_range.2 hk,by simp⟩};omega
 omega
theorem stuck {l:List M}(hG:Good l)(h:gB l l.length=none):(∀k,k<l.length->∃i,i<l.length/\i≠k/\(l.getD k .z).f=(l.getD i .z).t)/\∀i j,i<l.length->j<l.length->(l.getD i .z).f=(l.getD j .z).f->i=j:=by have hno:=l9 h;have hex:∀i,i<l.length->∃k,k<l.length/\k≠i/\(l.getD k .z).f=(l.getD i .z).t:=fun i hi=>qK (hno i hi);let s:Nat->Nat:=fun i=>if hi:i<l.length then Classical.choose (hex i hi)else 0;have hs:∀i,i<l.length->s i<l.length/\s i≠i/\(l.getD (s i) .z).f=(l.getD i .z).t:=fun i hi=>by{have:=Classical.choose_spec (hex i hi);show(if hi:i<l.length then Classical.choose (hex i hi)else 0)<_/\_;simp only[s,dif_pos hi];exact this};have hinj:∀i j,i<l.length->j<l.length->s i=s j->i=j:=fun i j hi hj e=>by{have h1:=(hs i hi).2.2;rw[e,(hs j hj).2.2]at h1;exact(hG.nd j i hj hi h1).symm};have hon:=Jw l.length s (fun i hi=>(hs i hi).1) hinj;refine⟨fun k hk=>?_,fun i j hi hj e=>?_⟩;{obtain⟨i,hi,rfl⟩:=hon k hk;exact⟨i,hi,fun e=>(hs i hi).2.1 e.symm,(hs i hi).2.2⟩};obtain⟨a,ha,rfl⟩:=hon i hi;obtain⟨b,hb,rfl⟩:=hon j hj;rw[(hs a ha).2.2,(hs b hb).2.2]at e;rw[hG.nd a b ha hb e]
theorem bQ {l:List M}(hG:Good l)(h:gB l l.length=none){k:Nat}(hk:k<l.length):0<=(l.getD k .z).f/\(l.getD k .z).f<=163:=by obtain⟨i,hi,-,e⟩:=(stuck hG h).1 k hk;have:=hG.pl i hi;rw[e];omega
end Mv
end
section
open Go.RowKit
set_option linter.unusedSimpArgs false
namespace Mv
def pi (i j:Nat):Nat:=if j<i then j else j+1
theorem pM {l:List M}{i:Nat}(hi:i<l.length):(l.eraseIdx i).length=l.length-1:=by rw[List.length_eraseIdx,ax hi]
theorem bW {l:List M}{j:Nat}(h:j<l.length):l.getD j .z=l[j]:=by rw[ah,ai h];rfl
theorem gG {l:List M}{i j:Nat}(hi:i<l.length)(hj:j<l.length-1):(l.eraseIdx i).getD j .z=l.getD (pi i j) .z:=by have h1:j<(l.eraseIdx i).length:=by{rw[pM hi];exact hj};rw[bW h1,List.getElem_eraseIdx];unfold pi;split;{rw[bW (by omega)]};rw[bW (by omega)]
theorem jr {n i j:Nat}(hi:i<n)(hj:j<n-1):pi i j<n/\pi i j≠i:=by unfold pi;split<;>omega
theorem xU {i j k:Nat}(h:pi i j=pi i k):j=k:=by unfold pi at h;split at h<;>split at h<;>omega
theorem vC {n i k:Nat}(hi:i<n)(hk:k<n)(hne:k≠i):∃j,j<n-1/\pi i j=k:=by by_cases h:k<i;{exact⟨k,by omega,by unfold pi;rw[ax h]⟩};exact⟨k-1,by omega,by unfold pi;rw[av (by omega)];omega⟩
theorem cZ (l:List M):(spare l).length=l.length:=by simp[spare]
theorem aZ {l:List M}{j:Nat}(hj:j<l.length):(spare l).getD j .z=if(l.getD j .z).f=(l.getD 0 .z).f then⟨(l.getD j .z).t,-2⟩else l.getD j .z:=by unfold spare;rw[ah,List.getElem?_map,ai hj,bW hj];rfl
theorem kU {l:List M}{j:Nat}(hj:j<l.length):((spare l).getD j .z).t=(l.getD j .z).t:=by rw[aZ hj];split<;>rfl
theorem Good.erase {l:List M}(hG:Good l){i:Nat}(hi:i<l.length):Good (l.eraseIdx i):=by have hl:=pM hi;refine⟨fun a b ha hb e=>?_,fun a ha=>?_,fun a ha=>?_,fun a b ha hb e1 e2=>?_⟩;{rw[hl]at ha hb;rw[gG hi ha,gG hi hb]at e;exact xU (hG.nd _ _ (jr hi ha).1 (jr hi hb).1 e)};{rw[hl]at ha;rw[gG hi ha];exact hG.ne _ (jr hi ha).1};{rw[hl]at ha;rw[gG hi ha];exact hG.pl _ (jr hi ha).1};rw[hl]at ha hb;rw[gG hi ha]at e1;rw[gG hi hb]at e2;exact xU (hG.one _ _ (jr hi ha).1 (jr hi hb).1 e1 e2)
theorem Good.spare {l:List M}(hG:Good l)(h:gB l l.length=none):Good (Mv.spare l):=by have hl:=cZ l;have hs:=(stuck hG h).2;refine⟨fun a b ha hb e=>?_,fun a ha=>?_,fun a ha=>?_,fun a b ha hb e1 e2=>?_⟩;{rw[hl]at ha hb;rw[kU ha,kU hb]at e;exact hG.nd a b ha hb e};{rw[hl]at ha;have h2:=hG.pl a ha;rw[aZ ha];split;{show(l.getD a .z).t≠-2;omega};exact hG.ne a ha};{rw[hl]at ha;have h2:=hG.pl a ha;rw[aZ ha];split;{exact⟨h2.1,h2.2.1, .inl rfl⟩};exact h2};rw[hl]at ha hb;have ha2:=bQ hG h ha;have hb2:=bQ hG h hb;rw[aZ ha]at e1;rw[aZ hb]at e2;split at e1;{rename_i hx;split at e2;{rename_i hy;exact hs a b ha hb (hx.trans hy.symm)};omega};omega
def lS (l:List M):Prop:=∃i,i<l.length/\(l.getD i .z).f=-2
def Un (l:List M):Prop:=∀i k,i<l.length->k<l.length->k≠i->(l.getD i .z).f=-2->(l.getD k .z).f≠(l.getD i .z).t
def yj (R:Int->Int)(m:M):Int->Int:=fun p=>if p=m.t then R m.f else R p
def run (o:List M)(R:Int->Int):Int->Int:=o.foldl yj R
def sp (o:List M):Nat:=o.countP fun m=>decide (m.t=-2)
structure Told (l o:List M):Prop where
 JX:∀R D:Int->Int,(∀i,i<l.length->R (l.getD i .z).f=D (l.getD i .z).t)->(∀p,p≠-2->(∃i,i<l.length/\(l.getD i .z).t=p)\/R p=D p)->∀p,p≠-2->run o R p=D p
 len:o.length=l.length+sp o
 DT:¬lS l->2*sp o<=l.length
 GI:lS l->2*sp o+1<=l.length
 JY:lS l->¬Un l->2*sp o+2<=l.length
 pl:∀m∈o,(m.t=-2\/0<=m.t/\m.t<=163)/\(m.f=-2\/0<=m.f/\m.f<=163)
theorem wU {l o:List M}(hG:Good l){i:Nat}(hi:i<l.length)(hf:free l i=true)(h:Told (l.eraseIdx i) o):Told l (l.getD i .z::o):=by have hl:=pM hi;have hfr:=lu.1 hf;have hpi:=hG.pl i hi;have Bf:sp (l.getD i .z::o)=sp o:=by{unfold sp;rw[List.countP_cons,av (by rw[decide_eq_true_eq];omega)];omega};have zA:lS (l.eraseIdx i)->lS l:=by{rintro⟨j,hj,e⟩;rw[hl]at hj;rw[gG hi hj]at e;exact⟨_,(jr hi hj).1,e⟩};have Cm:lS l->(l.getD i .z).f≠-2->lS (l.eraseIdx i):=by{rintro⟨k,hk,e⟩ hne;obtain⟨j,hj,rfl⟩:=vC hi hk (fun e2=>hne (by rw[←e2];exact e));exact⟨j,by rw[hl];exact hj,by rw[gG hi hj];exact e⟩};refine⟨fun R D hA hB p hp=>?_,?_,fun hn=>?_,fun ht=>?_,fun ht hu=>?_,fun m hm=>?_⟩;{show run o (yj R (l.getD i .z)) p=D p;refine h.JX _ D (fun j hj=>?_) (fun p hp=>?_) p hp;{rw[hl]at hj;rw[gG hi hj];have h1:=jr hi hj;unfold yj;rw[av (hfr _ h1.1 h1.2)];exact hA _ h1.1};unfold yj;by_cases e:p=(l.getD i .z).t;{rw[ax e,e];exact .inr (hA i hi)};rw[av e];rcases hB p hp with⟨k,hk,e2⟩|h2;{obtain⟨j,hj,rfl⟩:=vC hi hk (fun e3=>e (by rw[←e2,e3]));exact .inl ⟨j,by rw[hl];exact hj,by rw[gG hi hj];exact e2⟩};exact .inr h2};{rw[List.length_cons,h.len,Bf,hl];omega};{rw[Bf];have:=h.DT (fun h2=>hn (zA h2));omega};{rw[Bf];by_cases hi2:(l.getD i .z).f=-2;{have:¬lS (l.eraseIdx i):=by{rintro⟨j,hj,e⟩;rw[hl]at hj;rw[gG hi hj]at e;have h1:=jr hi hj;exact h1.2 (hG.one _ _ h1.1 hi e hi2)};have:=h.DT this;omega};have:=h.GI (Cm ht hi2);omega};{rw[Bf];by_cases hi2:(l.getD i .z).f=-2;{exfalso;apply hu;intro a k ha hk hne e;have:a=i:=hG.one _ _ ha hi e hi2;rw[this]at hne ⊢;exact hfr k hk hne};have:=h.GI (Cm ht hi2);omega};rcases List.mem_cons.1 hm with rfl|hm;{exact⟨.inr ⟨hpi.1,hpi.2.1⟩,hpi.2.2⟩};exact h.pl m hm
theorem wW {l o:List M}(hG:Good l)(h0:0<l.length)(hn:gB l l.length=none)(h:Told (spare l) o):Told l (⟨-2,(l.getD 0 .z).f⟩::o):=by have hl:=cZ l;have hs:=stuck hG hn;have hp0:=bQ hG hn h0;have hsp:sp (⟨-2,(l.getD 0 .z).f⟩::o)=sp o+1:=by{unfold sp;rw[List.countP_cons,ax (by rfl)]};have hno:¬lS l:=by{rintro⟨k,hk,e⟩;have:=bQ hG hn hk;omega};have zA:lS (spare l):=⟨0,by rw[hl];exact h0,by rw[aZ h0,ax rfl]⟩;have hun:¬Un (spare l):=by{intro hu;obtain⟨k,hk,hne,e⟩:=qK (l9 hn 0 h0);have h1:=hu 0 k (by rw[hl];exact h0) (by rw[hl];exact hk) hne (by rw[aZ h0,ax rfl]);rw[kU h0,aZ hk,av]at h1;{exact h1 e};intro e2;exact hne (hs.2 k 0 hk h0 e2)};refine⟨fun R D hA hB p hp=>?_,?_,fun _=>?_,fun ht=>absurd ht hno,fun ht=>absurd ht hno,fun m hm=>?_⟩;{show run o (yj R ⟨-2,(l.getD 0 .z).f⟩) p=D p;refine h.JX _ D (fun j hj=>?_) (fun p hp=>?_) p hp;{rw[hl]at hj;have PH:=bQ hG hn hj;rw[aZ hj];split;{rename_i e;show yj R ⟨-2,(l.getD 0 .z).f⟩ (-2)=D (l.getD j .z).t;unfold yj;rw[ax rfl,←e];exact hA j hj};unfold yj;rw[av (by show(l.getD j .z).f≠-2;omega)];exact hA j hj};unfold yj;rw[av hp];rcases hB p hp with⟨k,hk,e2⟩|h2;{exact .inl ⟨k,by rw[hl];exact hk,by rw[kU hk];exact e2⟩};exact .inr h2};{rw[List.length_cons,h.len,hsp,hl];omega};{rw[hsp];have:=h.JY zA hun;rw[hl]at this;omega};rcases List.mem_cons.1 hm with rfl|hm;{exact⟨.inl rfl, .inr hp0⟩};exact h.pl m hm
theorem zo {l:List M}(h0:l.length=0):Told l []:=by refine⟨fun R D hA hB p hp=>?_,by rw[h0];rfl,fun _=>by rw[h0];exact Nat.le_refl _,?_,?_,fun m hm=>by simp at hm⟩;{rcases hB p hp with⟨i,hi,-⟩|h;{omega};exact h};{rintro⟨i,hi,-⟩;omega};rintro⟨i,hi,-⟩;omega
theorem jF:∀(n:Nat)(l:List M),Good l->(2*l.length+1<=n\/lS l/\2*l.length<=n)->Told l (dW n l)
 | 0,l,hG,hn=>by
   rcases hn with hn|⟨⟨i,hi,-⟩,hn⟩
   · omega
   · omega
 | n + 1,l,hG,hn=>by
   unfold dW
   by_cases h0:l.length=0
   · rw[ax h0]
     exact zo h0
   · rw[av h0]
     rcases hx:gB l l.length with _|i
     · have e:step l=(⟨-2,(l.getD 0 .z).f⟩,spare l):=by unfold step;rw[hx]
       rw[e]
       have zA:lS (spare l):=⟨0,by rw[cZ];omega,by rw[aZ (by omega),ax rfl]⟩
       have hno:¬lS l:=by
         rintro⟨k,hk,e⟩
         have:=bQ hG hx hk
         omega
       refine wW hG (by omega) hx (jF n _ (hG.spare hx) (.inr ⟨zA,?_⟩))
       rw[cZ]
       rcases hn with hn|⟨h,-⟩
       · omega
       · exact absurd h hno
     · have e:step l=(l.getD i .z,l.eraseIdx i):=by unfold step;rw[hx]
       rw[e]
       obtain⟨hi,hf⟩:=dL hx
       refine wU hG hi hf (jF n _ (hG.erase hi) (.inl ?_))
       rw[pM hi]
       omega
end Mv
end
section
open Go.RowKit
set_option linter.unusedSimpArgs false
namespace Mv
theorem ry {h:Int}(hp:place h=true):0<=h/\h<=163:=by unfold place Hm.hm at hp;simp only[au,Bool.or_eq_true,decide_eq_true_eq]at hp;omega
structure Ok (l:List M):Prop where
 len:l.length<=8
 pl:∀m∈l,(0<=m.t/\m.t<=163)/\(0<=m.f/\m.f<=163)
 nd:l.Pairwise fun a b=>a.t≠b.t
theorem fP {l:List M}(h:isOk l=true):Ok l:=by unfold isOk at h;rw[au,List.all_eq_true,decide_eq_true_eq]at h;obtain⟨h1,h2⟩:=h;have h3:∀i,i<l.length->(place (l.getD i .z).t=true/\place (l.getD i .z).f=true)/\∀k,k<i->(l.getD k .z).t≠(l.getD i .z).t:=fun i hi=>by{have:=h1 i (List.mem_range.2 hi);unfold aR at this;rw[au,au,List.all_eq_true]at this;refine⟨this.1,fun k hk=>?_⟩;have:=this.2 k (List.mem_range.2 hk);simpa using this};refine⟨h2,fun m hm=>?_,?_⟩;{obtain⟨i,hi,rfl⟩:=List.getElem_of_mem hm;have:=(h3 i hi).1;rw[bW hi]at this;exact⟨ry this.1,ry this.2⟩};rw[List.pairwise_iff_getElem];intro i j hi hj hij;have:=(h3 j hj).2 i hij;rwa [bW hi,bW hj]at this
theorem jH {l:List M}(h:Ok l):Good (aH l):=by have hnd:(aH l).Pairwise fun a b=>a.t≠b.t:=h.nd.sublist List.filter_sublist;have hm:∀i,i<(aH l).length->(aH l).getD i .z∈l/\((aH l).getD i .z).t≠((aH l).getD i .z).f:=fun i hi=>by{rw[bW hi];have:=List.mem_filter.1 (List.getElem_mem hi);exact⟨this.1,by simpa using this.2⟩};refine⟨fun i j hi hj e=>?_,fun i hi=>(hm i hi).2,fun i hi=>?_,fun i j hi hj e1 e2=>?_⟩;{refine Classical.byContradiction fun hne=>?_;rcases Nat.lt_or_gt_of_ne hne with hij|hij;{have:=List.pairwise_iff_getElem.1 hnd i j hi hj hij;rw[bW hi,bW hj]at e;exact this e};have:=List.pairwise_iff_getElem.1 hnd j i hj hi hij;rw[bW hi,bW hj]at e;exact this e.symm};{have:=h.pl _ (hm i hi).1;omega};have:=h.pl _ (hm i hi).1;omega
theorem yJ (l:List M):(aH l).length=l.countP fun m=>decide (m.t≠m.f):=(List.countP_eq_length_filter ..).symm
theorem dP (l:List M):(aH l).length<=l.length:=List.length_filter_le _ _
theorem lW {l:List M}(h:isOk l=true):Told (aH l) (ordered l):=by have hk:=fP h;unfold ordered;rw[ax h];refine jF 40 _ (jH hk) (.inl ?_);have:=dP l;have:=hk.len;omega
def src:List M->Int->Int
 |[],p=>p
 |m::r,p=>if m.t=p then m.f else src r p
theorem tZ {p:Int}:∀{l:List M},(∀m∈l,m.t≠p)->src l p=p
 |[],_=>rfl
 | m::r,h=>by
   unfold src
   rw[av (h m (by simp))]
   exact tZ fun x hx=>h x (by simp[hx])
theorem kZ:∀{l:List M},(l.Pairwise fun a b=>a.t≠b.t)->∀m∈l,src l m.t=m.f
 |[],_,m,hm=>by simp at hm
 | x ::r,hp,m,hm=>by
   unfold src
   obtain⟨h1,h2⟩:=List.pairwise_cons.1 hp
   rcases List.mem_cons.1 hm with rfl|hm
   · rw[ax rfl]
   · rw[av (h1 m hm)]
     exact kZ h2 m hm
theorem Dq {l:List M}(h:Ok l):¬lS (aH l):=by rintro⟨i,hi,e⟩;rw[bW hi]at e;have:=h.pl _ (List.mem_filter.1 (List.getElem_mem hi)).1;omega
theorem Ar {l:List M}(h:isOk l=true)(R:Int->Int)(p:Int)(hp:p≠-2):run (ordered l) R p=R (src l p):=by have hk:=fP h;refine(lW h).JX R (fun p=>R (src l p)) (fun i hi=>?_) (fun p hp=>?_) p hp;{rw[bW hi];have:=(List.mem_filter.1 (List.getElem_mem hi)).1;show R _=R (src l _);rw[kZ hk.nd _ this]};by_cases hx:∃m∈l,m.t=p;{obtain⟨m,hm,rfl⟩:=hx;by_cases e:m.t=m.f;{refine .inr ?_;show R m.t=R (src l m.t);rw[kZ hk.nd m hm,←e]};have:m∈aH l:=List.mem_filter.2 ⟨hm,by simpa using e⟩;obtain⟨i,hi,e2⟩:=List.getElem_of_mem this;exact .inl ⟨i,hi,by rw[bW hi,e2]⟩};refine .inr ?_;show R p=R (src l p);rw[tZ fun m hm e=>hx ⟨m,hm,e⟩]
theorem oq {l:List M}(h:isOk l=true):(ordered l).length=(aH l).length+sp (ordered l)/\2*sp (ordered l)<=(aH l).length/\(ordered l).length<=l.length+4/\(ordered l).length<=12:=by have hT:=lW h;have h1:=hT.len;have h2:=hT.DT (Dq (fP h));have h3:=dP l;have h4:=(fP h).len;exact⟨h1,h2,by omega,by omega⟩
theorem DI {l:List M}(h:isOk l=true):∀m∈ordered l,(m.t=-2\/0<=m.t/\m.t<=163)/\(m.f=-2\/0<=m.f/\m.f<=163):=(lW h).pl
theorem dR (l:List M):(ordered l).length<=12:=by by_cases h:isOk l=true;{exact(oq h).2.2.2};unfold ordered;rw[av h];exact Nat.zero_le _
end Mv
end
section
open Go.RowKit
set_option linter.unusedSimpArgs false
namespace Mv
def ix (p:Int):Nat:=if p=-2 then 198 else p.toNat
def uU (p:Int):Prop:=p=-2\/0<=p/\p<=163
def R0 (p:Int):Int:=1000+(ix p:Int)
def start (k:Nat):List Int:=(List.range 200).map fun i=>if i<k then 1000+(i:Int)else 0
def row (o:List M):Nat->List Int
 |0=>start 200
 |k+1=>(row o k).set (ix (o.getD k .z).t) ((row o k).getD (ix (o.getD k .z).f) 0)
theorem jO (k:Nat):(start k).length=200:=by simp[start]
theorem uo {k:Nat}(hk:k<200):start (k+1)=(start k).set k (1000+(k:Int)):=by refine List.ext_getElem? fun j=>?_;by_cases h:k=j;{subst h;rw[List.getElem?_set_self (by rw[jO];exact hk)];simp[start,hk]};rw[List.getElem?_set_ne h];unfold start;rw[List.getElem?_map,List.getElem?_map];by_cases hj:j<200;{rw[List.getElem?_range hj];simp only[Option.map_some];by_cases h2:j<k;{rw[ax (by omega),ax h2]};rw[av (by omega),av h2]};rw[List.getElem?_eq_none (by simp;omega)];rfl
theorem Gb {α:Type _}(n:Nat)(f:Nat->α)(z:α)(h:∀i,f i=z):(List.range n).map f=List.replicate n z:=by refine List.ext_getElem (by simp) fun j h1 h2=>?_;rw[List.getElem_map,List.getElem_replicate,h]
theorem tY:start 0=List.replicate 200 0:=Gb 200 _ 0 fun i=>av (Nat.not_lt_zero i)
theorem vD (o:List M):∀k,(row o k).length=200
 |0=>jO 200
 | k+1=>by
   show(List.set _ _ _).length=200
   rw[List.length_set,vD o k]
theorem uW {p:Int}(h:uU p):ix p<200:=by unfold ix;rcases h with rfl|⟨h1,h2⟩;{decide};rw[av (by omega)];omega
theorem Dp {p q:Int}(h:uU p)(h':uU q)(e:ix p=ix q):p=q:=by unfold ix at e;rcases h with rfl|⟨h1,h2⟩<;>rcases h' with rfl|⟨h3,h4⟩;{rfl};{rw[ax rfl,av (by omega)]at e;omega};{rw[av (by omega),ax rfl]at e;omega};rw[av (by omega),av (by omega)]at e;omega
theorem zb {t:Int}(h:uU t):(t+200).tmod 200=(ix t:Int):=by unfold ix;rcases h with rfl|⟨h1,h2⟩;{rfl};rw[av (by omega),Int.tmod_eq_emod_of_nonneg (by omega)];omega
theorem ww (h:List Int)(i k:Nat)(x:Int)(hi:i<h.length):(h.set i x).getD k 0=if i=k then x else h.getD k 0:=by rw[ah,List.getElem?_set];by_cases e:i=k;{rw[ax e,ax hi,ax e];rfl};rw[av e,av e,←ah]
theorem tC {o:List M}(ho:∀m∈o,uU m.t/\uU m.f):∀k,k<=o.length->∀p,uU p->(row o k).getD (ix p) 0=run (o.take k) R0 p
 | 0,_,p,hp=>by
   show(start 200).getD (ix p) 0=_
   have:=uW hp
   unfold start
   rw[ah,List.getElem?_map,List.getElem?_range this]
   simp only[Option.map_some,Option.getD_some]
   rw[ax this]
   rfl
 | k +1,hk,p,hp=>by
   have hkl:k<o.length:=by omega
   have hm:=ho (o.getD k .z) (by rw[bW hkl];exact List.getElem_mem _)
   have e:run (o.take (k+1)) R0=yj (run (o.take k) R0) (o.getD k .z):=by
     unfold run
     rw[List.take_add_one,ai hkl,bW hkl,List.foldl_append]
     rfl
   rw[e]
   show((row o k).set (ix (o.getD k .z).t) ((row o k).getD (ix (o.getD k .z).f) 0)).getD (ix p) 0=_
   rw[ww _ _ _ _ (by rw[vD];exact uW hm.1),tC ho k (by omega) _ hm.2,tC ho k (by omega) p hp]
   unfold yj
   by_cases h:p=(o.getD k .z).t
   · rw[ax (by rw[h]),ax h]
   · rw[av (fun h'=>h (Dp hp hm.1 h'.symm)),av h]
theorem yl {l:List M}(h:isOk l=true):∀m∈ordered l,uU m.t/\uU m.f:=fun m hm=>DI h m hm
theorem uT {l:List M}(h:isOk l=true){p:Int}(h0:0<=p)(h1:p<=163):(row (ordered l) (ordered l).length).getD p.toNat 0=R0 (src l p):=by have hp:uU p:= .inr ⟨h0,h1⟩;have h2:=tC (yl h) (ordered l).length (Nat.le_refl _) p hp;rw[List.take_length,Ar h R0 p (by omega)]at h2;have e:ix p=p.toNat:=by{unfold ix;rw[av (by omega)]};rw[e]at h2;exact h2
theorem DC {l:List M}(h:isOk l=true){i:Nat}(hi:i<l.length):(0<=(l.getD i .z).t/\(l.getD i .z).t<=163)/\(0<=(l.getD i .z).f/\(l.getD i .z).f<=163)/\(row (ordered l) (ordered l).length).getD (l.getD i .z).t.toNat 0=1000+(l.getD i .z).f:=by have hk:=fP h;have hm:l.getD i .z∈l:=by{rw[bW hi];exact List.getElem_mem _};obtain⟨⟨a,b⟩,c,d⟩:=hk.pl _ hm;refine⟨⟨a,b⟩,⟨c,d⟩,?_⟩;rw[uT h a b,kZ hk.nd _ hm];unfold R0 ix;rw[av (by omega)];omega
theorem xP {l:List M}(h:isOk l=true){p:Nat}(hp:p<164)(hno:(l.any fun m=>decide (m.t=(p:Int)))=false):(row (ordered l) (ordered l).length).getD p 0=1000+(p:Int):=by
 have h1:=uT h (p:=(p:Int)) (by omega) (by omega)
 rw[ay]at h1
 rw[h1,tZ (fun m hm e=>by
  have:=List.any_eq_false.1 hno m hm
  simp[e]at this)]
 unfold R0 ix
 rw[av (by omega)]
 omega
theorem yE {l:List M}(p:Int){k:Nat}(h:k<l.length):((l.take (k+1)).any fun m=>decide (m.t=p))=(((l.take k).any fun m=>decide (m.t=p))||decide ((l.getD k .z).t=p)):=by rw[List.take_add_one,ai h,bW h,List.any_append];simp
end Mv
end
theorem jT (a:Int)(w:World):Calls Try.prog 108 #[.int .i64 a] w fun e w'=>e= .returned (.bool (Wd.ok a))/\w'=w:=by by_cases h1:a<0;{rw[Wd.vz h1];go_enter Try.func108,Try.ntmps108;go_wp2;all_goals(go_ret;first|exact⟨rfl,rfl⟩|exact⟨aY (by simp;omega),rfl⟩)};by_cases h2:4294967295<a;{rw[Wd.uZ h2];go_enter Try.func108,Try.ntmps108;go_wp2;all_goals(go_ret;first|exact⟨rfl,rfl⟩|exact⟨aY (by simp;omega),rfl⟩)};rw[Wd.lC (by omega) (by omega)];have h3:0<=a:=by{omega};have h4:a<=4294967295:=by{omega};clear h1 h2;go_enter Try.func108,Try.ntmps108;go_wp2;all_goals(go_ret;first|exact⟨rfl,rfl⟩|exact⟨aY (by simp;omega),rfl⟩)
theorem bI (a:Int)(w:World):Calls Try.prog 83 #[.int .i64 a] w fun e w'=>e= .returned (.bool (Wd.ok a))/\w'=w:=by by_cases h1:a<0;{rw[Wd.vz h1];go_enter Try.func83,Try.ntmps83;go_wp2;all_goals(go_ret;first|exact⟨rfl,rfl⟩|exact⟨aY (by simp;omega),rfl⟩)};by_cases h2:4294967295<a;{rw[Wd.uZ h2];go_enter Try.func83,Try.ntmps83;go_wp2;all_goals(go_ret;first|exact⟨rfl,rfl⟩|exact⟨aY (by simp;omega),rfl⟩)};rw[Wd.lC (by omega) (by omega)];have h3:0<=a:=by{omega};have h4:a<=4294967295:=by{omega};clear h1 h2;go_enter Try.func83,Try.ntmps83;go_wp2;all_goals(go_ret;first|exact⟨rfl,rfl⟩|exact⟨aY (by simp;omega),rfl⟩)
theorem bu (n lo hi:Int)(w:World):Calls Try.prog 81 #[.int .i64 n, .int .i64 lo, .int .i64 hi] w fun e w'=>e= .returned (.bool (Wd.aQ n lo hi))/\w'=w:=by by_cases h1:lo<=n;{by_cases h2:n<=hi;{rw[Wd.xR h1 h2];go_enter Try.func81,Try.ntmps81;go_wp2;all_goals(go_ret;first|exact⟨rfl,rfl⟩|exact⟨aY (by simp;omega),rfl⟩)};rw[Wd.pz (by omega)];go_enter Try.func81,Try.ntmps81;go_wp2;all_goals(go_ret;first|exact⟨rfl,rfl⟩|exact⟨aY (by simp;omega),rfl⟩)};rw[Wd.pE (by omega)];go_enter Try.func81,Try.ntmps81;go_wp2;all_goals(go_ret;first|exact⟨rfl,rfl⟩|exact⟨aY (by simp;omega),rfl⟩)
theorem bF (n lo hi:Int)(w:World):Calls Try.prog 66 #[.int .i64 n, .int .i64 lo, .int .i64 hi] w fun e w'=>e= .returned (.bool (Wd.aQ n lo hi))/\w'=w:=by by_cases h1:lo<=n;{by_cases h2:n<=hi;{rw[Wd.xR h1 h2];go_enter Try.func66,Try.ntmps66;go_wp2;all_goals(go_ret;first|exact⟨rfl,rfl⟩|exact⟨aY (by simp;omega),rfl⟩)};rw[Wd.pz (by omega)];go_enter Try.func66,Try.ntmps66;go_wp2;all_goals(go_ret;first|exact⟨rfl,rfl⟩|exact⟨aY (by simp;omega),rfl⟩)};rw[Wd.pE (by omega)];go_enter Try.func66,Try.ntmps66;go_wp2;all_goals(go_ret;first|exact⟨rfl,rfl⟩|exact⟨aY (by simp;omega),rfl⟩)
section
open Go.RowKit
namespace St
def least (op:Int):Int:=if op=5 then 1 else 0
def ja (op:Int):Int:=
 if op=1 then 4294967295 else if op=2\/op=3\/op=4 then 5 else if op=5 then 12 else if op=8\/op=10 then 1 else if op=13\/op=14 then 9
 else if op=16 then 3 else if op=17\/op=18 then 255 else 0
def opens (op:Int):Bool:=decide (op=8\/op=9\/op=10)
def ok (op a:Int):Bool:=Wd.aQ op 1 20&&Wd.aQ a (least op) (ja op)
theorem kinds (op:Int):(op=1\/op=2\/op=3\/op=4\/op=5\/op=6\/op=7\/op=8\/op=9\/op=10\/op=11\/op=12\/op=13\/op=14\/op=15\/op=16\/op=17\/op=18\/op=19\/op=20)\/(Wd.aQ op 1 20=false/\(op==1)=false/\(op==2)=false/\(op==3)=false/\(op==4)=false/\(op==5)=false/\(op==6)=false/\(op==7)=false/\(op==8)=false/\(op==9)=false/\(op==10)=false/\(op==11)=false/\(op==12)=false/\(op==13)=false/\(op==14)=false/\(op==15)=false/\(op==16)=false/\(op==17)=false/\(op==18)=false/\(op==19)=false/\(op==20)=false/\least op=0/\ja op=0/\opens op=false):=by by_cases h:1<=op/\op<=20;{left;omega};right;refine⟨?_,?_⟩;{by_cases h':1<=op;{exact Wd.pz (by omega)};exact Wd.pE (by omega)};have e1:least op=0:=by{unfold least;rw[av (by omega)]};have e2:ja op=0:=by{unfold ja;rw[av (by omega),av (by omega),av (by omega),av (by omega),av (by omega),av (by omega),av (by omega)]};have e3:opens op=false:=by{simp only[opens,decide_eq_false_iff_not];omega};simp only[beq_eq_false_iff_ne,ne_eq,e1,e2,e3,and_true];omega
end St
theorem aC {fn:Func}{p:Tmp}{ty:TypeId}(h:fn.results=#[.cell p ty])(tmps:Array Value)(P:Program)(w:World):(results fn tmps).run P w=((asAddr (tmps.getD p undef)).run P w).andThen fun a w₁=>((loadVar ty a).run P w₁).andThen fun v w₂=> .ok v w₂:=by simp only[results,h];simp[Sem.run_bind,Result.andThen];rcases(asAddr (tmps[p]?.getD undef)).run P w with⟨a,w1⟩|⟨h,w1⟩;{dsimp only;rcases(loadVar ty a).run P w1 with⟨a,w1⟩|⟨h,w1⟩<;>rfl};rfl
theorem nS (w:World)(a b:Obj):Below w.heap.size w ((w.alloc a).alloc b):=
 ((Below.refl _ w).alloc (Nat.le_refl _) _).alloc (by simp) _
theorem az (w:World)(a:Obj):Below w.heap.size w (w.alloc a):=(Below.refl _ w).alloc (Nat.le_refl _) _
end
section
open Go.RowKit
theorem oK (w:World)(a b c:Obj):Below w.heap.size w (((w.alloc a).alloc b).alloc c):=
 (((Below.refl _ w).alloc (Nat.le_refl _) _).alloc (by simp) _).alloc (by simp;omega) _
end
namespace Lb
def JC (n:Int):UInt8:=UInt8.ofNat (n%128+128).toNat
def fits (lo hi:Int):Nat->Int->Prop
 |0,n=>lo<=n/\n<=hi
 |k+1,n=>(lo<=n/\n<=hi)\/fits lo hi k (n / 128)
end Lb
section
attribute [local go_sem] Oper.semAt_some

end
section
open Go.RowKit
set_option linter.unusedSimpArgs false
namespace Mv
def FI (q:M->Bool)(l:List M)(r:Int):Prop:=(∃i:Nat,i<l.length/\r=(i:Int)/\q (l.getD i .z)=true/\∀k,k<i->q (l.getD k .z)=false)\/(r=-1/\∀k,k<l.length->q (l.getD k .z)=false)
def wT (h:Int)(m:M):Bool:=decide (m.t=h)
def wF (h:Int)(m:M):Bool:=decide (m.f=h)
theorem FI.any {q:M->Bool}{l:List M}{r:Int}(h:FI q l r):decide (0<=r)=l.any q:=by rcases h with⟨i,hi,rfl,hq,-⟩|⟨rfl,hq⟩;{have:l.any q=true:=List.any_eq_true.2 ⟨l[i],List.getElem_mem hi,by rw[←bW hi];exact hq⟩;rw[this];simp};have:l.any q=false:=by{rw[List.any_eq_false];intro x hx;obtain⟨k,hk,rfl⟩:=List.getElem_of_mem hx;rw[←bW hk,hq k hk];simp};rw[this];rfl
theorem vU {q:M->Bool}{l:List M}{i:Nat}(h:∀k,k<i->q (l.getD k .z)=false)(hi:q (l.getD i .z)=false):∀k,k<i+1->q (l.getD k .z)=false:=fun k hk=>by
 by_cases e:k=i
 · rw[e];exact hi
 · exact h k (by omega)
def nI (o:Option Nat):Int:=match o with
 |some i=>(i:Int)
 |none=>-1
theorem lI {l:List M}{i j:Nat}(h:gB l j=some i):∀{k:Nat},j<=k->gB l k=some i
 |0,hk=>by rw[show j=0 by omega]at h;exact h
 | k +1,hk=>by
   by_cases e:j=k+1
   · rw[←e];exact h
   · have ih:=lI h (k:=k) (by omega)
     unfold gB
     rw[ih]
theorem sV {l:List M}:∀{m:Nat},(∀k,k<m->free l k=false)->gB l m=none
 |0,_=>rfl
 | m+1,h=>by
   unfold gB
   rw[sV (m:=m) (fun k hk=>h k (by omega))]
   simp[h m (by omega)]
theorem l6 {l:List M}(hG:Good l){i:Nat}(hi:i<l.length):free l i= !(l.any (wF (l.getD i .z).t)):=by rw[Bool.eq_iff_iff,lu,Bool.not_eq_true',List.any_eq_false];constructor;{intro h x hx;obtain⟨k,hk,rfl⟩:=List.getElem_of_mem hx;unfold wF;rw[decide_eq_true_eq,←bW hk];by_cases e:k=i;{rw[e];exact fun h=>hG.ne i hi h.symm};exact h k hk e};intro h k hk _ e;refine h l[k] (List.getElem_mem hk) ?_;unfold wF;rw[decide_eq_true_eq,←bW hk];exact e
theorem Dv {l:List M}(hG:Good l){r:Int}(h:FI (fun m=> !(l.any (wF m.t))) l r):r=nI (gB l l.length):=by rcases h with⟨i,hi,rfl,hq,hn⟩|⟨rfl,hn⟩;{have h1:gB l i=none:=sV fun k hk=>by{rw[l6 hG (by omega)];exact hn k hk};have h2:gB l (i+1)=some i:=by{unfold gB;rw[h1];have:free l i=true:=by{rw[l6 hG hi];exact hq};simp[this]};rw[lI h2 (k:=l.length) (by omega)];rfl};rw[sV fun k hk=>by rw[l6 hG hk];exact hn k hk];rfl
theorem og {l:List M}{k:Nat}(h:k<l.length):aH (l.take (k+1))=if(l.getD k .z).t≠(l.getD k .z).f then aH (l.take k)++[l.getD k .z]else aH (l.take k):=by unfold aH;rw[List.take_add_one,ai h,bW h,List.filter_append];by_cases e:l[k].t≠l[k].f;{rw[ax e];simp[e]};rw[av e];simp at e;simp[e]
theorem iA (l:List M)(k:Nat):(aH (l.take k)).length<=k:=by refine Nat.le_trans (List.length_filter_le _ _) ?_;rw[List.length_take];omega
def l8 (l:List M):Nat->List M
 |0=>l
 |k+1=>if(l.getD k .z).f=(l.getD 0 .z).f then(l8 l k).set k ⟨(l.getD k .z).t,-2⟩else l8 l k
theorem je (l:List M):∀k,(l8 l k).length=l.length
 |0=>rfl
 | k+1=>by
   unfold l8
   split
   · rw[List.length_set,je]
   · exact je l k
theorem pu {l:List M}:∀(k:Nat),k<=l.length->∀j,j<l.length->(l8 l k).getD j .z=if j<k/\(l.getD j .z).f=(l.getD 0 .z).f then⟨(l.getD j .z).t,-2⟩else l.getD j .z
 |0,_,j,hj=>by rw[av (by omega)];rfl
 | k + 1,hk,j,hj=>by
   have ih:=pu k (by omega) j hj
   unfold l8
   by_cases hf:(l.getD k .z).f=(l.getD 0 .z).f
   · rw[ax hf,ah,List.getElem?_set]
     by_cases e:k=j
     · subst e
       rw[ax rfl,ax (by rw[je];exact hj),ax ⟨by omega,hf⟩]
       rfl
     · rw[av e,←ah,ih]
       by_cases h2:j<k/\(l.getD j .z).f=(l.getD 0 .z).f
       · rw[ax h2,ax ⟨by omega,h2.2⟩]
       · rw[av h2,av (fun h=>h2 ⟨by omega,h.2⟩)]
   · rw[av hf,ih]
     by_cases h2:j<k/\(l.getD j .z).f=(l.getD 0 .z).f
     · rw[ax h2,ax ⟨by omega,h2.2⟩]
     · rw[av h2,av]
       rintro⟨h3,h4⟩
       by_cases e:j=k
       · rw[e]at h4;exact hf h4
       · exact h2 ⟨by omega,h4⟩
theorem vI (l:List M):l8 l l.length=spare l:=by refine List.ext_getElem (by rw[je,cZ]) fun j h1 h2=>?_;have hj:j<l.length:=by{rw[je]at h1;exact h1};have a:=pu l.length (Nat.le_refl _) j hj;have b:=aZ hj;rw[bW h1]at a;rw[bW h2]at b;rw[a,b];by_cases h3:(l.getD j .z).f=(l.getD 0 .z).f;{rw[ax ⟨hj,h3⟩,ax h3]};rw[av (fun h=>h3 h.2),av h3]
theorem eU {n:Nat}{l:List M}(h:0<l.length):dW (n+1) l=(step l).1::dW n (step l).2:=by show(if l.length=0 then[]else _)=_;rw[av (by omega)]
theorem rf {n:Nat}{l:List M}(h:l.length=0):dW n l=[]:=by
 cases n with
 |zero=>rfl
 |succ n=>show(if l.length=0 then[]else _)=_;rw[ax h]
end Mv
end
namespace Wd
theorem tO {n:Nat}(h:n<2 ^ 32):ok (n:Int)=true:=lC (by omega) (by omega)
theorem lK (x:Int):ok (x%4294967296)=true:=lC (by omega) (by omega)
theorem uq:ok 0=true:=by decide
theorem Dk:ok 1=true:=by decide
theorem F4 (k a b:Int):ok (dv k a b)=true:=by by_cases h:ok a=true/\ok b=true;{obtain⟨ha,hb⟩:=h;by_cases hk:k<1\/12<k;{rw[←xZ hk];exact uq};have hk':k=1\/k=2\/k=3\/k=4\/k=5\/k=6\/k=7\/k=8\/k=9\/k=10\/k=11\/k=12:=by{omega};rcases hk' with rfl|rfl|rfl|rfl|rfl|rfl|rfl|rfl|rfl|rfl|rfl|rfl;{rw[←Ns ha hb];exact lK _};{rw[←NA ha hb];exact lK _};{rw[←Ny ha hb];exact lK _};{by_cases h0:sg b=0;{rw[←Gs ha hb h0];exact uq};by_cases h1:sg a=-2147483648/\sg b=-1;{rw[←Gl ha hb h1.1 h1.2];exact uq};rw[←JG ha hb h0 h1];exact lK _};{rw[←Nq ha hb];obtain⟨n,rfl,hn⟩:=jE ha;obtain⟨m,rfl,hm⟩:=jE hb;rw[C9 hn hm];exact tO (Dj hm)};{rw[←Nn ha hb];obtain⟨n,rfl,hn⟩:=jE ha;obtain⟨m,rfl,hm⟩:=jE hb;rw[FT hn hm];exact tO (FM hn hm)};{rw[←Ng ha hb];obtain⟨n,rfl,hn⟩:=jE ha;obtain⟨m,rfl,hm⟩:=jE hb;rw[CX hn hm];exact tO (CY hn hm)};{rw[←Np ha hb];exact lK _};{rw[←Na ha hb];have:=CW ha (b%32).toNat;exact lC this.1 this.2};{by_cases h:a=b;{rw[←Fy ha hb h];exact Dk};rw[←Gn ha hb h];exact uq};{by_cases h:sg a<sg b;{rw[←Gp ha hb h];exact Dk};rw[←GA ha hb h];exact uq};by_cases h:a<b;{rw[←Ga ha hb h];exact Dk};rw[←GG ha hb h];exact uq};have:ok a=false\/ok b=false:=by{cases h1:ok a<;>cases h2:ok b<;>simp_all};rw[←Cf this];exact uq
theorem yI (k a b:Int):(dc k a b=0/\ok a=true/\ok b=true)\/(dc k a b=7/\dv k a b=0)\/((dc k a b=1\/dc k a b=2)/\k=4/\dv k a b=0):=by by_cases h:ok a=true/\ok b=true;{obtain⟨ha,hb⟩:=h;by_cases hk:k<1\/12<k;{exact .inr (.inl ⟨(DN ha hb hk).symm,(xZ hk).symm⟩)};by_cases h4:k=4;{subst h4;by_cases h0:sg b=0;{exact .inr (.inr ⟨.inl (JS ha hb h0).symm,rfl,(Gs ha hb h0).symm⟩)};by_cases h1:sg a=-2147483648/\sg b=-1;{exact .inr (.inr ⟨.inr (Ju ha hb h1.1 h1.2).symm,rfl,(Gl ha hb h1.1 h1.2).symm⟩)};exact .inl ⟨(JK ha hb h0 h1).symm,ha,hb⟩};exact .inl ⟨(Jy ha hb (by omega) h4).symm,ha,hb⟩};have:ok a=false\/ok b=false:=by{cases h1:ok a<;>cases h2:ok b<;>simp_all};exact .inr (.inl ⟨(Gm this).symm,(Cf this).symm⟩)
end Wd
section
open Go.RowKit
set_option linter.unusedSimpArgs false
namespace Sp
def sH (s:S):S:=if s.f<0 then⟨s.b,-1,-1,false⟩else s
def rc (n:Int)(s:S):S:=if s.f<0 then⟨s.b,n,n,s.c⟩else⟨s.b,s.f,n,s.c⟩
def xd (s:S):S:=⟨s.b,s.f,s.t,true⟩
def on (F:S->S)(l:List S)(b:Int):List S:=l.set b.toNat (F (l.getD b.toNat .z))
def rows (ls:List Ln)(i:Nat):List S:=(List.range 40).map fun b=>sH (row ls b i)
theorem gm (ls:List Ln)(i:Nat):(rows ls i).length=40:=by simp[rows]
theorem iW (ls:List Ln)(i:Nat){b:Nat}(hb:b<40):(rows ls i).getD b .z=sH (row ls b i):=by unfold rows;rw[ah,List.getElem?_map,List.getElem?_range hb];rfl
theorem sQ (F:S->S)(l:List S)(b:Int):(on F l b).length=l.length:=by simp[on]
theorem lD (F:S->S):∀(bs:List Int)(l:List S),(bs.foldl (on F) l).length=l.length
 |[],l=>rfl
 |b::bs,l=>by rw[List.foldl_cons,lD F bs,sQ]
theorem yX (F:S->S)(l:List S)(b:Int)(h0:0<=b)(h1:b<(l.length:Int))(j:Nat):(on F l b).getD j .z=if b=(j:Int)then F (l.getD j .z)else l.getD j .z:=by unfold on;rw[ah,List.getElem?_set];by_cases e:b.toNat=j;{rw[ax e,ax (show b.toNat<l.length by omega),ax (by omega),←e];rfl};rw[av e,av (by omega),←ah]
theorem oP (F:S->S):∀(bs:List Int)(l:List S)(j:Nat),bs.Nodup->(∀b∈bs,0<=b/\b<(l.length:Int))->(bs.foldl (on F) l).getD j .z=if(j:Int)∈bs then F (l.getD j .z)else l.getD j .z
 |[],l,j,_,_=>by simp
 | b ::bs,l,j,hn,hb=>by
   have hb0:=hb b (by simp)
   rw[List.foldl_cons,oP F bs _ j (List.nodup_cons.1 hn).2 (fun x hx=>by rw[sQ];exact hb x (by simp[hx])),yX F l b hb0.1 hb0.2]
   by_cases e:b=(j:Int)
   · have hj:¬(j:Int)∈bs:=by rw[←e];exact(List.nodup_cons.1 hn).1
     rw[av hj,ax e,ax (by simp[e])]
   · rw[av e]
     by_cases hj:(j:Int)∈bs
     · rw[ax hj,ax (by simp[hj])]
     · rw[av hj,av (by simp only[List.mem_cons,not_or];exact⟨fun h=>e h.symm,hj⟩)]
theorem nK (F:S->S){bs:List Int}{k:Nat}(hk:k<bs.length)(l:List S):(bs.take (k+1)).foldl (on F) l=on F ((bs.take k).foldl (on F) l) (bs.getD k 0):=by rw[List.take_add_one,ai hk,List.foldl_append,ah,ai hk];rfl
theorem nL (m:Nat):∀k,(Fl.pG m k).Nodup
 |0=>by simp[Fl.pG]
 | k +1=>by
   have ih:=nL m k
   unfold Fl.pG
   split
   · rw[List.nodup_append]
     refine⟨ih,by simp,fun x hx y hy=>?_⟩
     have h:=(Fl.kX m x k).1 hx
     have e:y=(k:Int):=by simpa using hy
     omega
   · exact ih
theorem nR (m:Nat):(Fl.iJ m).Nodup:=nL m 40
theorem uX (m:Nat){b:Nat}(hb:b<40):((b:Int)∈Fl.iJ m)↔m.testBit b=true:=by rw[←Fl.xN,Fl.Dz m hb]
theorem pU (m:Nat):∀b∈Fl.iJ m,0<=b/\b<40:=fun b hb=>by
 have h:=(Fl.kX m b 40).1 hb
 exact⟨h.1,h.2.1⟩
theorem FN {ls:List Ln}{b k:Nat}(h:(row ls b k).f<0):(row ls b k).c=false:=by have hT:=eX ls b k;rcases hT.at_ with⟨-,-,h3⟩|⟨f,t,h3,-⟩;{rw[hT.dQ,List.any_eq_false];intro i hi;have:=h3 i (List.mem_range.1 hi);rcases e:cr ls b i with _|_;{simp};rw[zg e]at this;cases this};omega
theorem BN (ls:List Ln)(b k:Nat):(row ls b k).b=(b:Int):=(eX ls b k).bx
def more (ls:List Ln)(i:Nat)(l:List S):List S:=(Fl.iJ (((Fl.live ls).getD i 0|||Fl.ou ls (Fl.live ls) i)|||Fl.sm (ls.getD i .z))).foldl (on (rc (i:Int))) l
def dQ (ls:List Ln)(i:Nat)(l:List S):List S:=if(ls.getD i .z).k=7 then(Fl.iJ (Fl.an (Fl.ou ls (Fl.live ls) i) (Fl.sm (ls.getD i .z)))).foldl (on xd) l else l
theorem ym (s:S):((sH s).f<0↔s.f<0)/\(sH s).b=s.b:=by unfold sH;split;{exact⟨⟨fun _=>by assumption,fun _=>by show(-1:Int)<0;decide⟩,rfl⟩};exact⟨Iff.rfl,rfl⟩
theorem wH {ls:List Ln}(hok:Ln.isOk ls=true){i:Nat}(hi:i<ls.length):rows ls (i+1)=dQ ls i (more ls i (rows ls i)):=by have ky:(more ls i (rows ls i)).length=40:=by{unfold more;rw[lD,gm]};have hcl:(dQ ls i (more ls i (rows ls i))).length=40:=by{unfold dQ;split;{rw[lD,ky]};exact ky};have key:∀j,j<40->(dQ ls i (more ls i (rows ls i))).getD j .z=sH (row ls j (i+1)):=by{intro j hj;have hm:(more ls i (rows ls i)).getD j .z=if ha ls j i=true then rc (i:Int) (sH (row ls j i))else sH (row ls j i):=by{unfold more;rw[oP _ _ _ _ (nR _) (fun b hb=>by rw[gm];exact pU _ b hb),iW ls i hj];have e:((j:Int)∈Fl.iJ (((Fl.live ls).getD i 0|||Fl.ou ls (Fl.live ls) i)|||Fl.sm (ls.getD i .z)))↔ha ls j i=true:=by{rw[uX _ hj,Nat.testBit_or,Fl.zw (Ln.fF hok hi)];exact Iff.rfl};by_cases h:ha ls j i=true;{rw[ax h,ax (e.2 h)]};rw[av h,av (fun h2=>h (e.1 h2))]};have hc:(dQ ls i (more ls i (rows ls i))).getD j .z=if cr ls j i=true then xd ((more ls i (rows ls i)).getD j .z)else(more ls i (rows ls i)).getD j .z:=by{unfold dQ;by_cases h7:(ls.getD i .z).k=7;{rw[ax h7,oP _ _ _ _ (nR _) (fun b hb=>by rw[ky];exact pU _ b hb)];have e:((j:Int)∈Fl.iJ (Fl.an (Fl.ou ls (Fl.live ls) i) (Fl.sm (ls.getD i .z))))↔cr ls j i=true:=by{rw[uX _ hj,Fl.jC,Fl.zw (Ln.fF hok hi)];unfold cr;rw[decide_eq_true h7,Bool.true_and,decide_not];rw[Bool.and_comm]};by_cases h:cr ls j i=true;{rw[ax h,ax (e.2 h)]};rw[av h,av (fun h2=>h (e.1 h2))]};rw[av h7,av];unfold cr;rw[decide_eq_false h7];simp};rw[hc,hm];show _=sH (fq ls j i (row ls j i));have hcz:=@FN ls j i;generalize row ls j i=r at hcz ⊢;obtain⟨b,f,t,c⟩:=r;dsimp only at hcz;unfold fq;by_cases h:ha ls j i=true;{rw[ax h,ax h];by_cases hf:f<0;{have hcz:=hcz hf;subst hcz;rcases hx:cr ls j i with _|_;{simp[sH,rc,hf,xd]};simp[sH,rc,hf,xd]};rcases hx:cr ls j i with _|_;{simp[sH,rc,hf,xd]};simp[sH,rc,hf,xd]};rw[av h,av h];rw[av];intro hx;exact h (zg hx)};refine List.ext_getElem (by rw[gm,hcl]) fun j h1 h2=>?_;have hj:j<40:=by{rw[gm]at h1;exact h1};have a:=iW ls (i+1) hj;have b:=key j hj;rw[ah,ai h1]at a;rw[ah,ai h2]at b;exact a.trans b.symm
theorem wO (ls:List Ln):rows ls 0=(List.range 40).map fun(b:Nat)=>⟨(b:Int),-1,-1,false⟩:=rfl
structure Vs (l:List S):Prop where
 len:l.length=40
 bx:∀b:Nat,b<40->(l.getD b .z).b=(b:Int)
 un:∀b:Nat,b<40->(l.getD b .z).f<0->l.getD b .z=⟨(b:Int),-1,-1,false⟩
theorem oQ (ls:List Ln)(i:Nat):Vs (rows ls i):=by refine⟨gm ls i,fun b hb=>?_,fun b hb h=>?_⟩;{rw[iW ls i hb,(ym _).2,BN]};rw[iW ls i hb]at h ⊢;unfold sH;rw[ax ((ym _).1.1 h),BN]
theorem Vs.on {F:S->S}{l:List S}(h:Vs l){b:Int}(h0:0<=b)(h1:b<40)(hb:∀s,(F s).b=s.b)(hf:∀s,0<=(F s).f\/(F s).f<0/\s.f<0/\F s=s):Vs (Sp.on F l b):=by have hl:=h.len;refine⟨by rw[sQ,hl],fun j hj=>?_,fun j hj hn=>?_⟩;{rw[yX F l b h0 (by omega)];split;{rw[hb,h.bx j hj]};exact h.bx j hj};rw[yX F l b h0 (by omega)]at hn ⊢;split at hn;{rcases hf (l.getD j .z)with h2|⟨_,h2,h3⟩;{omega};rw[ax (by assumption),h3];exact h.un j hj h2};rw[av (by assumption)];exact h.un j hj hn
theorem Vs.fold {F:S->S}(hb:∀s,(F s).b=s.b)(hf:∀s,0<=(F s).f\/(F s).f<0/\s.f<0/\F s=s):∀(bs:List Int)(l:List S),(∀b∈bs,0<=b/\b<40)->Vs l->Vs (bs.foldl (Sp.on F) l)
 |[],l,_,h=>h
 |b::bs,l,hi,h=>Vs.fold hb hf bs _ (fun x hx=>hi x (by simp[hx])) (h.on (hi b (by simp)).1 (hi b (by simp)).2 hb hf)
theorem JM (n:Int)(s:S):(rc n s).b=s.b:=by unfold rc;split<;>rfl
theorem Jt {n:Int}(hn:0<=n)(s:S):0<=(rc n s).f\/(rc n s).f<0/\s.f<0/\rc n s=s:=by unfold rc;split;{exact .inl hn};refine .inl ?_;dsimp only;omega
def bg (l:List S):Nat->List S
 |0=>[]
 |k+1=>if 0<=(l.getD k .z).f then bg l k++[l.getD k .z]else bg l k
theorem yR (l:List S):∀k,(bg l k).length<=k
 |0=>by simp[bg]
 | k+1=>by
   have:=yR l k
   unfold bg
   split
   · rw[List.length_append];simp;omega
   · omega
theorem uj (ls:List Ln):∀k,k<=40->bg (rows ls ls.length) k=out ls k
 |0,_=>rfl
 | k +1,h=>by
   unfold bg out
   rw[uj ls k (by omega),iW ls _ (by omega)]
   by_cases hf:(row ls k ls.length).f<0
   · have h1:=(ym (row ls k ls.length)).1.2 hf
     rw[av (by omega),av (by omega)]
   · have e:sH (row ls k ls.length)=row ls k ls.length:=by unfold sH;rw[av hf]
     rw[e]
end Sp
end
end Go.Proofs.Ythamlonlgnjljaa
