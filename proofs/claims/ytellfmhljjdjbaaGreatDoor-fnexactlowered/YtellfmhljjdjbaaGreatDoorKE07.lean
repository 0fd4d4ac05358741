/-
  Own texts for a law: Mean0 Mean1 Mean2 Low0 Lin2 Nest4 SlOf LikeI Arr0
-/
import Derived.Test.YtellfmhljjdjbaaGreatDoorKE06
import Derived.OpenShut
import Derived.Deep.SlicePairs
import Derived.Deep.WholeRow
import Derived.Stop.BytesEq
import Derived.Laws.CopyOwn
import Derived.Laws.ResultCell
namespace Go.Proofs.YtellfmhljjdjbaaGreatDoor
open Go.RowKit Go.Shelf
set_option linter.all false
set_option maxRecDepth 100000
set_option maxHeartbeats 16000000
namespace Mn
open Hg
abbrev Sr:Type:=(Nat×List Int×List Int×List Int) ⊕ List Int ⊕ Int ⊕ (Nat×List Int×List Int)
abbrev Sr.next (at':Nat)(pile loc mem:List Int):Sr:= .inl (at',pile,loc,mem)
abbrev Sr.fin (pile:List Int):Sr:= .inr (.inl pile)
abbrev Sr.halt (c:Int):Sr:= .inr (.inr (.inl c))
abbrev Sr.call (g:Nat)(args rest:List Int):Sr:= .inr (.inr (.inr (g,args,rest)))
def bV (pile:List Int):Int:=pile.getD (pile.length-1) 0
def under (pile:List Int):Int:=pile.getD (pile.length-2) 0
def upper (pile:List Int)(w:Nat):List Int:=pile.drop (pile.length-w)
def less (pile:List Int)(w:Nat):List Int:=pile.take (pile.length-w)
def jump (f:Fn)(E H:List Int)(at':Nat)(a:Int)(pile loc mem:List Int):Sr:=
 if a.toNat<(aC.bI f.b E at' at').length then
   let t:=((aC.bI f.b E at' at').getD a.toNat (-1)).toNat
   if aC.op f.b t=9 then .next (t+1) (pile.take (jD H f.b t).toNat) loc mem
   else .next ((aC.aO E t).toNat+1) (pile.take (jD H f.b t).toNat++upper pile (arg f.b t).toNat) loc mem
 else .fin (upper pile f.g.toNat)
def step (fs:List Fn)(f:Fn)(E O H:List Int)(at':Nat)(pile loc mem:List Int):Sr:=
 let p:=aC.op f.b at'
 let a:=arg f.b at'
 if p=1 then .next (at'+1) (pile++[a]) loc mem
 else if p=2 then .next (at'+1) (pile++[loc.getD a.toNat 0]) loc mem
 else if p=3 then .next (at'+1) (less pile 1) (loc.set a.toNat (bV pile)) mem
 else if p=4 then .next (at'+1) pile (loc.set a.toNat (bV pile)) mem
 else if p=5 then(if Wd.dc a (under pile) (bV pile)=0 then .next (at'+1) (less pile 2++[Wd.dv a (under pile) (bV pile)]) loc mem else .halt (Wd.dc a (under pile) (bV pile)))
 else if p=6 then .next (at'+1) (less pile 1++[if bV pile=0 then 1 else 0]) loc mem
 else if p=7 then .next (at'+1) (less pile 1) loc mem
 else if p=10 then(if bV pile=0 then .next ((if 0<=aC.aO O at' then aC.aO O at' else aC.aO E at').toNat+1) (less pile 1) loc mem else .next (at'+1) (less pile 1) loc mem)
 else if p=11 then .next ((aC.aO E at').toNat+1) pile loc mem
 else if p=12 then(if at'+1=f.b.length then .fin pile else .next (at'+1) pile loc mem)
 else if p=13 then jump f E H at' a pile loc mem
 else if p=14 then(if bV pile=0 then .next (at'+1) (less pile 1) loc mem else jump f E H at' a (less pile 1) loc mem)
 else if p=15 then .fin (upper pile f.g.toNat)
 else if p=16 then .call a.toNat (upper pile (fs.getD a.toNat .z).a.toNat) (less pile (fs.getD a.toNat .z).a.toNat)
 else if p=17 then(if Mm.there (bV pile) a=true then .next (at'+1) (less pile 1++[Mm.uZ mem (bV pile+a).toNat 4]) loc mem else .halt 3)
 else if p=18 then(if Mm.there (under pile) a=true then .next (at'+1) (less pile 2) loc (Mm.nW mem (under pile+a).toNat (bV pile) 4)else .halt 3)
 else if p=19 then .halt 4
 else .next (at'+1) pile loc mem
def words (l:List Int):Prop:=∀x∈l,Wd.ok x=true
structure Good (fs:List Fn)(f:Fn)(H:List Int)(at':Nat)(pile loc mem:List Int):Prop where
 lt:at'<f.b.length
 here:(pile.length:Int)=H.getD at' 0
 wp:words pile
 ll:(loc.length:Int)=f.a+f.l
 wl:words loc
 mm:Mm.ok mem=true
theorem bE {l:List Int}(h:words l)(n:Nat):words (l.take n):=fun x hx=>h x (List.mem_of_mem_take hx)
theorem ji {l:List Int}(h:words l)(n:Nat):words (l.drop n):=fun x hx=>h x (List.mem_of_mem_drop hx)
theorem fF {l m:List Int}(h:words l)(k:words m):words (l++m):=fun x hx=>(List.mem_append.1 hx).elim (h x) (k x)
theorem iX {x:Int}(h:Wd.ok x=true):words [x]:=fun y hy=>by rw[List.mem_singleton.1 hy];exact h
theorem lT {l:List Int}(h:words l)(j:Nat):Wd.ok (l.getD j 0)=true:=by
 rw[ai]
 cases e:l[j]? with
 |none=>rfl
 |some v=>exact h v (List.mem_of_getElem? e)
theorem pV {l:List Int}(h:words l){x:Int}(hx:Wd.ok x=true)(j:Nat):words (l.set j x):=fun y hy=>by
 rcases List.mem_or_eq_of_mem_set hy with h'|h'
 · exact h y h'
 · rw[h'];exact hx
theorem dI (pile:List Int)(w:Nat):(less pile w).length=pile.length-w:=by simp[less]
theorem kg {pile:List Int}{w:Nat}(h:w<=pile.length):(upper pile w).length=w:=by simp[upper];omega
def jM (fs:List Fn)(f:Fn)(H:List Int)(at':Nat)(loc mem:List Int):Sr->Prop
 | .inl (a,p,l,m)=>Good fs f H a p l m
 | .inr (.inl p)=>(p.length:Int)=f.g/\words p
 | .inr (.inr (.inl c))=>c=1\/c=2\/c=3\/c=4
 | .inr (.inr (.inr (g,args,rest)))=>(g:Int)<fs.length/\(args.length:Int)=(fs.getD g .z).a/\words args/\words rest/\∀m,Mm.ok m=true->∀r:List Int,(r.length:Int)=(fs.getD g .z).g->words r->Good fs f H (at'+1) (rest++r) loc m
theorem qf {fs:List Fn}{f:Fn}{E O H:List Int}{at':Nat}{a hh:Int}{pile loc mem:List Int}(hA:Acc fs f E O H)(hJ:jH f E H at' hh a)(hg0:0<=f.g)(har:∀t,t<f.b.length->0<=arg f.b t)(hl:(pile.length:Int)=hh)(hp:words pile)(ll:(loc.length:Int)=f.a+f.l)(wl:words loc)(mm:Mm.ok mem=true):jM fs f H at' loc mem (jump f E H at' a pile loc mem):=by unfold jump;by_cases hlt:a.toNat<(aC.bI f.b E at' at').length;{rw[az hlt];obtain⟨t,e,tl,XO,h0,s0,sl,⟨e1,e2,e3⟩,b1,b2⟩:=hJ.1 hlt;simp only[e,aA];have hlen:t<f.b.length:=by{omega};have ha:=har t hlen;by_cases h9:aC.op f.b t=9;{rw[az h9];refine⟨b1,?_,bE hp _,ll,wl,mm⟩;rw[List.length_take,b2];omega};rw[ay h9];refine⟨e2,?_,fF (bE hp _) (ji hp _),ll,wl,mm⟩;rw[e3,az s0,List.length_append,List.length_take,kg (by omega)];omega};rw[ay hlt];have:=hJ.2 hlt;exact⟨by rw[kg (by omega)];omega,ji hp _⟩
theorem pR {fs:List Fn}{f:Fn}{E O H:List Int}{at':Nat}{pile loc mem:List Int}(hf:Md.iP f=true)(hfs:Md.aR fs=true)(hA:Acc fs f E O H)(G:Good fs f H at' pile loc mem):jM fs f H at' loc mem (step fs f E O H at' pile loc mem):=by have hf':=hf;simp only[Md.iP,ax,decide_eq_true_eq,Wd.aW]at hf';obtain⟨⟨ha0,Zl⟩,⟨hl0,hl3⟩,⟨hg0,hg1⟩,-,hst⟩:=hf';have har:∀t,t<f.b.length->0<=arg f.b t:=fun t ht=>by{have:=St.aM hst ht;simp only[St.ok,ax,Wd.aW]at this;(have h0:0<=St.least (f.b.getD t (0,0)).1:=by unfold St.least;split<;>omega);show 0<=(f.b.getD t (0,0)).2;omega};have yX:=St.aM hst G.lt;have hH0:0<=H.getD at' 0:=by{have:=G.here;omega};have T:=hA.typ at' G.lt hH0;have hlen:=G.here;have Eh:=har at' G.lt;have htop:=lT G.wp (pile.length-1);have Sj:=lT G.wp (pile.length-2);have htk:=T.take;obtain⟨p,hp⟩:∃p,aC.op f.b at'=p:=⟨_,rfl⟩;obtain⟨a,ha⟩:∃a,arg f.b at'=a:=⟨_,rfl⟩;have hok:St.ok p a=true:=by{rw[←hp,←ha];exact yX};unfold step;simp only[hp,ha];rw[hp,ha]at htk;have nx:p≠11->p≠12->p≠13->p≠15->p≠19->at'+1<f.b.length/\H.getD (at'+1) 0=H.getD at' 0-tk fs p a+pt fs p a:=by{have:=T.next;rw[hp,ha]at this;exact this};by_cases h1:p=1;{rw[az h1];subst h1;obtain⟨n1,n2⟩:=nx (by omega) (by omega) (by omega) (by omega) (by omega);have k:tk fs 1 a=0:=by{simp[tk]};have k':pt fs 1 a=1:=by{simp[pt]};have hw:Wd.ok a=true:=by{simp only[St.ok,ax,Wd.aW]at hok;exact Wd.gZ.2 ⟨by rw[←ha];exact Eh,hok.2.2⟩};exact⟨n1,by rw[n2,List.length_append,k,k',List.length_singleton];omega,fF G.wp (iX hw),G.ll,G.wl,G.mm⟩};rw[ay h1];by_cases h2:p=2;{rw[az h2];subst h2;obtain⟨n1,n2⟩:=nx (by omega) (by omega) (by omega) (by omega) (by omega);have k:tk fs 2 a=0:=by{simp[tk]};have k':pt fs 2 a=1:=by{simp[pt]};exact⟨n1,by rw[n2,List.length_append,k,k',List.length_singleton];omega,fF G.wp (iX (lT G.wl _)),G.ll,G.wl,G.mm⟩};rw[ay h2];by_cases h3:p=3;{rw[az h3];subst h3;obtain⟨n1,n2⟩:=nx (by omega) (by omega) (by omega) (by omega) (by omega);have k:tk fs 3 a=1:=by{simp[tk]};have k':pt fs 3 a=0:=by{simp[pt]};exact⟨n1,by rw[n2,dI,k,k'];omega,bE G.wp _,by rw[List.length_set];exact G.ll,pV G.wl htop _,G.mm⟩};rw[ay h3];by_cases h4:p=4;{rw[az h4];subst h4;obtain⟨n1,n2⟩:=nx (by omega) (by omega) (by omega) (by omega) (by omega);have k:tk fs 4 a=1:=by{simp[tk]};have k':pt fs 4 a=1:=by{simp[pt]};exact⟨n1,by rw[n2,k,k'];omega,G.wp,by rw[List.length_set];exact G.ll,pV G.wl htop _,G.mm⟩};rw[ay h4];by_cases h5:p=5;{rw[az h5];subst h5;obtain⟨n1,n2⟩:=nx (by omega) (by omega) (by omega) (by omega) (by omega);have k:tk fs 5 a=2:=by{simp[tk]};have k':pt fs 5 a=1:=by{simp[pt]};by_cases hc:Wd.dc a (under pile) (bV pile)=0;{rw[az hc];exact⟨n1,by rw[n2,List.length_append,dI,k,k',List.length_singleton];omega,fF (bE G.wp _) (iX (Wd.Hm _ _ _)),G.ll,G.wl,G.mm⟩};rw[ay hc];show _\/_;rcases Wd.zU a (under pile) (bV pile)with⟨q,-,-⟩|⟨q,-⟩|⟨q,-,-⟩;{exact absurd q hc};{exfalso;have e:Wd.dc a (under pile) (bV pile)=7->False:=by{intro q;have hu:Wd.ok (under pile)=true:=Sj;have ht:Wd.ok (bV pile)=true:=htop;simp only[St.ok,ax,Wd.aW]at hok;have hb:1<=a/\a<=12:=hok.2;unfold Wd.dc at q;rw[az ⟨hu,ht⟩,ay (by omega)]at q;split at q;{split at q;{cases q};split at q<;>cases q};cases q};exact e q};omega};rw[ay h5];by_cases h6:p=6;{rw[az h6];subst h6;obtain⟨n1,n2⟩:=nx (by omega) (by omega) (by omega) (by omega) (by omega);have k:tk fs 6 a=1:=by{simp[tk]};have k':pt fs 6 a=1:=by{simp[pt]};exact⟨n1,by rw[n2,List.length_append,dI,k,k',List.length_singleton];omega,fF (bE G.wp _) (iX (by split<;>rfl)),G.ll,G.wl,G.mm⟩};rw[ay h6];by_cases h7:p=7;{rw[az h7];subst h7;obtain⟨n1,n2⟩:=nx (by omega) (by omega) (by omega) (by omega) (by omega);have k:tk fs 7 a=1:=by{simp[tk]};have k':pt fs 7 a=0:=by{simp[pt]};exact⟨n1,by rw[n2,dI,k,k'];omega,bE G.wp _,G.ll,G.wl,G.mm⟩};rw[ay h7];by_cases h10:p=10;{rw[az h10];subst h10;obtain⟨n1,n2⟩:=nx (by omega) (by omega) (by omega) (by omega) (by omega);have k:tk fs 10 a=1:=by{simp[tk]};have k':pt fs 10 a=0:=by{simp[pt]};by_cases hz:bV pile=0;{rw[az hz];rcases T.iff hp with⟨o1,o2,o3⟩|⟨o1,o2,o3,o4⟩;{rw[az o1];exact⟨o2,by rw[o3,dI];omega,bE G.wp _,G.ll,G.wl,G.mm⟩};rw[ay (by omega)];exact⟨o3,by rw[o4,dI];omega,bE G.wp _,G.ll,G.wl,G.mm⟩};rw[ay hz];exact⟨n1,by rw[n2,dI,k,k'];omega,bE G.wp _,G.ll,G.wl,G.mm⟩};rw[ay h10];by_cases h11:p=11;{rw[az h11];obtain⟨e1,e2,e3⟩:=T.yP (hp.trans h11);exact⟨e2,by rw[e3];exact G.here,G.wp,G.ll,G.wl,G.mm⟩};rw[ay h11];by_cases h12:p=12;{rw[az h12];rcases T.last (hp.trans h12)with⟨e1,e2⟩|⟨e1,e2⟩;{rw[az e1];exact⟨by rw[G.here,e2],G.wp⟩};rw[ay (by omega)];exact⟨e1,by rw[e2];exact G.here,G.wp,G.ll,G.wl,G.mm⟩};rw[ay h12];by_cases ma:p=13;{rw[az ma];have hj:=T.jump (hp.trans ma);rw[ha]at hj;exact qf hA hj hg0 har G.here G.wp G.ll G.wl G.mm};rw[ay ma];by_cases wo:p=14;{rw[az wo];have hj:=T.Ny (hp.trans wo);rw[ha]at hj;subst wo;obtain⟨n1,n2⟩:=nx (by omega) (by omega) (by omega) (by omega) (by omega);have k:tk fs 14 a=1:=by{simp[tk]};have k':pt fs 14 a=0:=by{simp[pt]};by_cases hz:bV pile=0;{rw[az hz];exact⟨n1,by rw[n2,dI,k,k'];omega,bE G.wp _,G.ll,G.wl,G.mm⟩};rw[ay hz];exact qf hA hj hg0 har (by rw[dI];omega) (bE G.wp _) G.ll G.wl G.mm};rw[ay wo];by_cases nA:p=15;{rw[az nA];have:=T.ret (hp.trans nA);exact⟨by rw[kg (by omega)];omega,ji G.wp _⟩};rw[ay nA];by_cases h16:p=16;{rw[az h16];have hc:=T.call (hp.trans h16);rw[ha]at hc;have XP:0<=a:=by{rw[←ha];exact Eh};have hlt:a.toNat<fs.length:=by{omega};have hg:=Md.aM hfs hlt;simp only[Md.iP,ax,Wd.aW]at hg;subst h16;have k:tk fs 16 a=(fs.getD a.toNat .z).a:=by{simp[tk]};have k':pt fs 16 a=(fs.getD a.toNat .z).g:=by{simp[pt]};obtain⟨n1,n2⟩:=nx (by omega) (by omega) (by omega) (by omega) (by omega);rw[k]at htk n2;rw[k']at n2;refine⟨by omega,by rw[kg (by omega)];omega,ji G.wp _,bE G.wp _,fun m hm r hr hrw=>?_⟩;exact⟨n1,by rw[n2,List.length_append,dI];omega,fF (bE G.wp _) hrw,G.ll,G.wl,hm⟩};rw[ay h16];by_cases Bl:p=17;{rw[az Bl];subst Bl;obtain⟨n1,n2⟩:=nx (by omega) (by omega) (by omega) (by omega) (by omega);have k:tk fs 17 a=1:=by{simp[tk]};have k':pt fs 17 a=1:=by{simp[pt]};by_cases ht:Mm.there (bV pile) a=true;{rw[az ht];have hb:=Mm.wK (Mm.A7 G.mm) (bV pile+a).toNat 4;rw[show(256:Int) ^ 4=4294967296 from rfl]at hb;exact⟨n1,by rw[n2,List.length_append,dI,k,k',List.length_singleton];omega,fF (bE G.wp _) (iX (Wd.gZ.2 (by omega))),G.ll,G.wl,G.mm⟩};rw[ay ht];exact .inr (.inr (.inl rfl))};rw[ay Bl];by_cases h18:p=18;{rw[az h18];subst h18;obtain⟨n1,n2⟩:=nx (by omega) (by omega) (by omega) (by omega) (by omega);have k:tk fs 18 a=2:=by{simp[tk]};have k':pt fs 18 a=0:=by{simp[pt]};by_cases ht:Mm.there (under pile) a=true;{rw[az ht];obtain⟨q,q1,q2,q3⟩:=Mm.place ht;exact⟨n1,by rw[n2,dI,k,k'];omega,bE G.wp _,G.ll,G.wl,by rw[q2];exact Mm.Fh _ G.mm q3⟩};rw[ay ht];exact .inr (.inr (.inl rfl))};rw[ay h18];by_cases h19:p=19;{rw[az h19];exact .inr (.inr (.inr rfl))};rw[ay h19];obtain⟨n1,n2⟩:=nx h11 h12 ma nA h19;have k:tk fs p a=0:=by{unfold tk;rw[ay (by omega),ay (by omega),ay (by omega),ay (by omega),ay (by omega)]};have k':pt fs p a=0:=by{unfold pt;rw[ay (by omega),ay (by omega),ay (by omega),ay (by omega)]};exact⟨n1,by rw[n2,k,k'];omega,G.wp,G.ll,G.wl,G.mm⟩
end Mn
namespace Mn
open Hg
abbrev Rs:Type:=(Int×List Int×Nat) ⊕ (Int×List Int×Nat)
abbrev Rs.done (v:Int)(mem:List Int)(left:Nat):Rs:= .inl (v,mem,left)
abbrev Rs.stop (c:Int)(mem:List Int)(left:Nat):Rs:= .inr (c,mem,left)
def fn (fs:List Fn)(k:Nat):Fn:=fs.getD k .z
def jJ (fs:List Fn)(k:Nat):List Int:=((fC fs (fn fs k)).map (·.1)).getD []
def GX (fs:List Fn)(k at':Nat)(pile loc mem:List Int):Sr:=step fs (fn fs k) (aC.ends (fn fs k).b) (aC.aH (fn fs k).b) (jJ fs k) at' pile loc mem
def gives (f:Fn)(pile:List Int):Int:=if f.g=0 then 0 else bV pile
def sK (f:Fn)(v:Int):List Int:=if f.g=1 then[v]else[]
def Hy (f:Fn)(args:List Int):List Int:=args++List.replicate f.l.toNat 0
def run (fs:List Fn):Nat->Nat->Nat->Nat->Nat->List Int->List Int->List Int->Rs
 |0,fuel,_,_,_,_,_,mem=> .stop 5 mem fuel
 |_+1,0,_,_,_,_,_,mem=> .stop 5 mem 0
 | g +1,n+1,d,k,at',pile,loc,mem=>
   match GX fs k at' pile loc mem with
   | .inl (a,p,l,m)=>run fs g n d k a p l m
   | .inr (.inl p)=> .done (gives (fn fs k) p) mem n
   | .inr (.inr (.inl c))=> .stop c mem n
   | .inr (.inr (.inr (q,args,rest)))=>
     if 12<=d+1 then .stop 6 mem n else
     match run fs g n (d+1) q 0 [] (Hy (fn fs q) args) mem with
     | .inr (c,m,l)=> .stop c m l
     | .inl (v,m,l)=>run fs g l d k (at'+1) (rest++sK (fn fs q) v) loc m
def Rs.left:Rs->Nat
 | .inl (_,_,l)=>l
 | .inr (_,_,l)=>l
def Rs.more (e:Nat):Rs->Rs
 | .inl (v,m,l)=> .done v m (l+e)
 | .inr (c,m,l)=> .stop c m (l+e)
def Rs.ends:Rs->Prop
 | .inl _=>True
 | .inr (c,_,_)=>c≠5
variable {fs : List Fn} {g n d k at' : Nat} {pile loc mem : List Int}
end Mn
namespace Mn
open Hg
structure Nu (fs:List Fn):Prop where
 len:1<=fs.length/\fs.length<=4
 all:Md.aR fs=true
 acc:∀k,k<fs.length->Acc fs (fn fs k) (aC.ends (fn fs k).b) (aC.aH (fn fs k).b) (jJ fs k)
theorem qN {fs:List Fn}{d:ByteArray}(h:Hg.valid fs d=true):Nu fs:=by unfold Hg.valid at h;rw[ax]at h;obtain⟨hok,hall⟩:=h;have uu:Md.aR fs=true:=by{unfold Md.ok at hok;rw[ax]at hok;exact hok.2};have hlen:1<=fs.length/\fs.length<=4:=by{unfold Md.ok at hok;simp only[ax,Wd.aW]at hok;have:=hok.1.1;omega};refine⟨hlen,uu,fun k hk=>?_⟩;rw[List.all_eq_true]at hall;have hs:=hall k (List.mem_range.2 hk);unfold bZ at hs;rw[az ⟨hok,by omega,by omega⟩,aA]at hs;obtain⟨⟨H,mo⟩,hr⟩:=Option.isSome_iff_exists.1 hs;have hr':fC fs (fn fs k)=some (H,mo):=hr;have hh:jJ fs k=H:=by{unfold jJ;rw[hr'];rfl};rw[hh];exact yx (Md.aM uu hk) uu hr'
theorem nS {fs:List Fn}(V:Nu fs){k:Nat}(hk:k<fs.length):0<=(fn fs k).a/\(fn fs k).a<=3/\0<=(fn fs k).l/\(fn fs k).l<=3/\((fn fs k).g=0\/(fn fs k).g=1)/\(fn fs k).b.length<=80:=by have:=Md.aM V.all hk;simp only[Md.iP,ax,decide_eq_true_eq,Wd.aW]at this;obtain⟨⟨a1,a2⟩,⟨a3,a4⟩,⟨a5,a6⟩,a7,-⟩:=this;exact⟨a1,a2,a3,a4,by show(fs.getD k .z).g=0\/(fs.getD k .z).g=1;omega,a7⟩
def Rs.mem:Rs->List Int
 | .inl (_,m,_)=>m
 | .inr (_,m,_)=>m
def isOk (fs:List Fn)(d:ByteArray)(k:Int)(args:List Int)(fuel:Int):Bool:=
 Hg.valid fs d&&(decide (0<=k/\k<fs.length)&&(decide ((args.length:Int)=(fn fs k.toNat).a)&&(args.all Wd.ok&&decide (0<=fuel/\fuel<=3000))))
def out (fs:List Fn)(d:ByteArray)(k:Int)(args:List Int)(n:Nat):Rs:=run fs (n+1) n 0 k.toNat 0 [] (Hy (fn fs k.toNat) args) (Mm.new d)
end Mn
namespace Lw
open Hg (arg)
def wd (f:Fn):Int:=f.a+f.l
def bx (f:Fn)(h:Int):Int:=wd f+h
def bT (f:Fn)(E H:List Int)(at':Nat)(dp:Int):Int×Int×Int:=
 if dp.toNat<(aC.bI f.b E at' at').length then
   let t:=((aC.bI f.b E at' at').getD dp.toNat (-1)).toNat
   if aC.op f.b t=9 then((t:Int)+1,0,0)else if aC.op f.b t=10 then(aC.aO E t,bx f (H.getD t 0-1),arg f.b t)else(aC.aO E t,bx f (H.getD t 0),arg f.b t)
 else((f.b.length:Int)-1,bx f 0,f.g)
def args (t:Int)(n:Int):List Int:=(List.range n.toNat).map fun(i:Nat)=>t-n+1+(i:Int)
def yI (fs:List Fn)(f:Fn)(E O H:List Int)(at':Nat)(p a t:Int):List (Ln×Int):=
 if p=1 then[(⟨1,t+1,0,0,a,[]⟩,-1)]
 else if p=2 then[(⟨2,t+1,a,0,0,[]⟩,-1)]
 else if p=3\/p=4 then[(⟨2,a,t,0,0,[]⟩,-1)]
 else if p=5 then[(⟨3,t-1,t-1,t,a,[]⟩,-1)]
 else if p=6 then[(⟨4,t,t,0,0,[]⟩,-1)]
 else if p=10 then[(⟨4,t,t,0,0,[]⟩,-1),(⟨6,0,t,0,0,[]⟩,if 0<=aC.aO O at' then aC.aO O at'+1 else aC.aO E at')]
 else if p=11 then[(⟨5,0,0,0,0,[]⟩,aC.aO E at')]
 else if p=13\/p=15 then
   let L:=bT f E H at' (if p=15 then 99 else a)
   (if L.2.2=1/\L.2.1≠t then[(⟨2,L.2.1,t,0,0,[]⟩,-1)]else[])++[(⟨5,0,0,0,0,[]⟩,L.1)]
 else if p=14 then
   let L:=bT f E H at' a
   if L.2.2=1/\L.2.1≠t-1 then[(⟨4,t,t,0,0,[]⟩,-1),(⟨6,0,t,0,0,[]⟩,(at':Int)+1),(⟨2,L.2.1,t-1,0,0,[]⟩,-1),(⟨5,0,0,0,0,[]⟩,L.1)]
   else[(⟨6,0,t,0,0,[]⟩,L.1)]
 else if p=16 then
   let g:=fs.getD a.toNat .z
   [(⟨7,if g.g=1 then t-g.a+1 else wd f+20,0,0,a,args t g.a⟩,-1)]
 else if p=17 then[(⟨8,t,t,0,a,[]⟩,-1)]
 else if p=18 then[(⟨9,0,t-1,t,a,[]⟩,-1)]
 else if p=19 then[(⟨11,0,0,0,0,[]⟩,-1)]
 else[]
def step (fs:List Fn)(f:Fn)(E O H:List Int)(at':Nat):List (Ln×Int):=yI fs f E O H at' (aC.op f.b at') (arg f.b at') (bx f (H.getD at' 0-1))
def first(f:Fn):List (Ln×Int):=(List.range f.l.toNat).map fun(i:Nat)=>(⟨1,f.a+(i:Int),0,0,0,[]⟩,-1)
def bF (fs:List Fn)(f:Fn)(E O H:List Int):Nat->List (Ln×Int)×List Int
 |0=>(first f,[])
 |i+1=>((bF fs f E O H i).1++(if 0<=H.getD i 0 then step fs f E O H i else[]),(bF fs f E O H i).2++[((bF fs f E O H i).1.length:Int)])
def last (f:Fn):List (Ln×Int):=if f.g=0 then[(⟨1,wd f+20,0,0,0,[]⟩,-1),(⟨10,0,wd f+20,0,0,[]⟩,-1)]else[(⟨10,0,wd f,0,0,[]⟩,-1)]
def raw (fs:List Fn)(f:Fn)(E O H:List Int):List (Ln×Int):=(bF fs f E O H f.b.length).1++last f
def bD (fs:List Fn)(f:Fn)(E O H:List Int):List Int:=(bF fs f E O H f.b.length).2
def dM (st:List Int)(x:Ln×Int):Ln:=if 0<=x.2 then{x.1 with n:=st.getD x.2.toNat 0}else x.1
def func (fs:List Fn)(f:Fn)(E O H:List Int):List Ln:=if(raw fs f E O H).length<=300 then(raw fs f E O H).map (dM (bD fs f E O H))else[]
def bB (fs:List Fn)(d:ByteArray)(k:Int):List Ln:=
 if Hg.valid fs d=true/\0<=k/\k<fs.length then func fs (Mn.fn fs k.toNat) (aC.ends (Mn.fn fs k.toNat).b) (aC.aH (Mn.fn fs k.toNat).b) (Mn.jJ fs k.toNat)else[]
theorem C9 {α:Type}{q:Prop}[Decidable q]{x y:List α}{n:Nat}(hx:x.length<=n)(hy:y.length<=n):(if q then x else y).length<=n:=by split<;>assumption
theorem A9 (fs:List Fn)(f:Fn)(E O H:List Int)(at':Nat):(step fs f E O H at').length<=4:=by unfold step yI;simp only;(repeat' (refine C9 ?_ ?_));(all_goals first|(simp;done)|skip);all_goals rw[List.length_append];(have h1:∀(q:Prop)[Decidable q](x:Ln×Int),(if q then[x]else[]).length<=1:=fun q _ x=>by split<;>simp);exact Nat.le_trans (Nat.add_le_add_right (h1 _ _) _) (by simp)
theorem fZ (fs:List Fn)(f:Fn)(E O H:List Int):∀i,(bF fs f E O H i).1.length<=f.l.toNat+4*i/\(bF fs f E O H i).2.length=i
 |0=>⟨by simp[bF,first],rfl⟩
 | i +1=>by
   have ih:=fZ fs f E O H i
   have hs:=A9 fs f E O H i
   refine⟨?_,?_⟩
   · unfold bF
     simp only[List.length_append]
     split
     · omega
     · simp;omega
   · unfold bF
     simp only[List.length_append,List.length_singleton,ih.2]
end Lw
def LC (w:World)(b o:Nat)(x:Ln):Prop:=
 w.cell? ⟨b,o,none⟩=some (.int .i64 x.k)/\w.cell? ⟨b,o+1,none⟩=some (.int .i64 x.d)/\w.cell? ⟨b,o+2,none⟩=some (.int .i64 x.a)/\w.cell? ⟨b,o+3,none⟩=some (.int .i64 x.b)/\w.cell? ⟨b,o+4,none⟩=some (.int .i64 x.n)/\
   ∃la ln lc,w.cell? ⟨b,o+5,none⟩=some (.slice la ln lc)/\IL w la ln x.l
theorem LC.kept {w w':World}{b o:Nat}{x:Ln}(h:LC w b o x)(hb:b<w.heap.size)(hB:Below w.heap.size w w'):LC w' b o x:=by obtain⟨c0,c1,c2,c3,c4,la,ln,lc,c5,hi⟩:=h;exact⟨(hB.cell (p:=⟨b,o,none⟩) hb).trans c0,(hB.cell (p:=⟨b,o+1,none⟩) hb).trans c1,(hB.cell (p:=⟨b,o+2,none⟩) hb).trans c2,(hB.cell (p:=⟨b,o+3,none⟩) hb).trans c3,(hB.cell (p:=⟨b,o+4,none⟩) hb).trans c4,la,ln,lc,(hB.cell (p:=⟨b,o+5,none⟩) hb).trans c5,hi.kept hB⟩
def LL (w:World)(a:Option Addr)(len:Nat)(ls:List Ln):Prop:=
 ls.length=len/\len<=maxLen/\(len=0\/∃b off,a=some ⟨b,off,none⟩/\b<w.heap.size/\∀j,j<len->LC w b (off+j*6) (ls.getD j .z))
theorem LL.kept {w w':World}{a:Option Addr}{len:Nat}{ls:List Ln}(h:LL w a len ls)(hB:Below w.heap.size w w'):LL w' a len ls:=by obtain⟨h1,h2,h3|⟨b,off,rfl,hb,hx⟩⟩:=h;{exact⟨h1,h2, .inl h3⟩};exact⟨h1,h2, .inr ⟨b,off,rfl,ak hb hB.size,fun j hj=>(hx j hj).kept hb hB⟩⟩
namespace Ln
end Ln
theorem aC.uU (xs:List (Int×Int))(E:List Int)(at':Int)(k:Nat):∃f:Nat->List Int,f k=[]/\(∀j,j<k->f j=f (j+1)++(if St.opens (aC.op xs j)=true/\at'<=E.getD j (-1)then[(j:Int)]else[]))/\aC.bI xs E at' k=f 0:=by
 suffices h:∀k,∃f:Nat->List Int,(∀j,k<=j->f j=[])/\(∀j,j<k->f j=f (j+1)++(if St.opens (aC.op xs j)=true/\at'<=E.getD j (-1)then[(j:Int)]else[]))/\aC.bI xs E at' k=f 0 by obtain⟨f,h1,h2,h3⟩:=h k;exact⟨f,h1 k (Nat.le_refl _),h2,h3⟩
 intro k
 induction k with
 |zero=>exact⟨fun _=>[],fun _ _=>rfl,fun j hj=>by omega,rfl⟩
 |succ k ih=>
  obtain⟨f,h1,h2,h3⟩:=ih
  obtain⟨c,hc⟩:∃c:List Int,(if St.opens (aC.op xs k)=true/\at'<=E.getD k (-1)then[(k:Int)]else[])=c:=⟨_,rfl⟩
  refine⟨fun j=>if k+1<=j then[]else c++f j,fun j hj=>az hj,fun j hj=>?_,?_⟩
  · dsimp only;rw[ay (show¬k+1<=j by omega)];by_cases e:j=k;{subst e;rw[az (Nat.le_refl _),h1 j (Nat.le_refl _),List.append_nil,List.nil_append,hc]};rw[ay (show¬k+1<=j+1 by omega),h2 j (by omega),List.append_assoc]
  · dsimp only;rw[ay (show¬k+1<=0 by omega),←h3,←hc];show(if St.opens (aC.op xs k)=true/\at'<=E.getD k (-1)then(k:Int)::aC.bI xs E at' k else aC.bI xs E at' k)=_;by_cases h:St.opens (aC.op xs k)=true/\at'<=E.getD k (-1);{rw[az h,az h];rfl};rw[ay h,ay h];rfl
theorem aC.kY (xs:List (Int×Int))(E:List Int)(at':Int):∀k,(aC.bI xs E at' k).length<=k
 |0=>Nat.le_refl _
 | k+1=>by
   have:=aC.kY xs E at' k
   unfold aC.bI
   split
   · simp;omega
   · omega
theorem o7 (a:Option Addr)(len cap:Nat)(xs:List (Int×Int))(h80:len<=80)(hall:St.aR xs=true)(e:Option Addr)(ec:Nat)(E:List Int)(n:Nat)(hn:n<len)(w:World)(hs:SL w a len xs)(hE:IL w e len E):Calls Tryz.prog 128 #[.slice a len cap, .slice e len ec, .int .i64 n] w fun e w'=>∃v,e= .returned v/\OI w' w.heap.size v (aC.bI xs E n n)/\Below w.heap.size w w':=by
 obtain⟨i0,hi,hz0,hz1,hz2⟩:=info_parts bW
 obtain⟨f,f0,f1,f2⟩:=aC.uU xs E n n
 have hfl:∀j,j<=n->(f j).length<=n-j:=by
  intro j hj
  obtain⟨d,hd⟩:∃d,n=j+d:=⟨n-j,by omega⟩
  clear f2
  induction d generalizing j with
  |zero=>rw[show j=n by omega,f0];simp
  |succ d ih=>
   have:=ih (j+1) (by omega) (by omega)
   rw[f1 j (by omega),List.length_append]
   split<;>simp<;>omega
 obtain⟨hl,-,hrow⟩:=hs
 obtain⟨hEl,-,U2⟩:=hE
 have HE:=af hEl
 clear hEl
 have HL:=af hl
 have HF:=af (au f0 (au f1 (au f2 hfl)))
 have hr0:=OI.empty w
 have hB0:=(Below.refl w.heap.size w).alloc (Nat.le_refl _) (.cells #[] 2)
 clear hl f0 f1 f2 hfl
 go_enter Tryz.func128,Tryz.ntmps128
 go_wp2
 go_loopw [7,8] (fun v i wr=>∃(k g c:Nat),i= .int .i64 ((k:Int)-1)/\k<=n/\v= .slice (some ⟨g,0,none⟩) (f k).length c/\wr.ownsRow w.heap.size 2 1 (.slice (some ⟨g,0,none⟩) (f k).length c) (f k).length ((f k).map iv)/\Below w.heap.size w wr) (fun _ i _=>(intOf i+1).toNat)
 case atStart=>refine⟨n,_,0,rfl,Nat.le_refl _,by rw[HF.out.1];rfl,?_,hB0⟩;rw[HF.out.1];exact hr0
 case round=>obtain⟨k,g,c,rfl,hk,rfl,hown,hB⟩:=hrel;clear hr0 hB0;rcases Nat.eq_zero_or_pos k with rfl|hkp;{have HOW:=af hown;clear hown hrow U2;go_wp2;go_ret;refine⟨_,rfl,?_,hB⟩;rw[HF.out.2.2.1];exact HOW.out};obtain⟨j,rfl⟩:∃j,k=j+1:=⟨k-1,by omega⟩;have hij:((j+1:Nat):Int)-1=(j:Int):=by{omega};rw[hij];have hjn:j<len:=by{omega};rcases hrow with h0|⟨b,off,rfl,hb,hx⟩;{omega};rcases U2 with h0|⟨b2,dU,rfl,hb2,hx2⟩;{omega};have hx0:=(hB.cell (p:=⟨b,off+j*2,none⟩) hb).trans (hx j hjn).1;have hx1:=(hB.cell (p:=⟨b,off+j*2+1,none⟩) hb).trans (hx j hjn).2;have hy0:=(hB.cell (p:=⟨b2,dU+j,none⟩) hb2).trans (hx2 j hjn);have hok:=St.aM hall (j:=j) (by rw[HL.out];exact hjn);obtain⟨⟨p,q⟩,hpq⟩:∃x,xs.getD j (0,0)=x:=⟨_,rfl⟩;rw[hpq]at hx0 hx1 hok;simp only at hx0 hx1 hok;have hop:aC.op xs j=p:=by{rw[aC.op,hpq]};have hfj:=HF.out.2.1 j (by omega);have hlen:=HF.out.2.2.2 (j+1) (by omega);rw[hop]at hfj;obtain⟨ej,Sk⟩:∃x,E.getD j 0=x:=⟨_,rfl⟩;have hEl:E.length=len:=HE.out;have LK:E.getD j (-1)=ej:=by{rw[←Sk,ai,ai,aj (by omega)];rfl};rw[Sk]at hy0;rw[LK]at hfj;have mg:St.nu p q=St.opens p:=by{rw[St.nu,hok,Bool.true_and]};have hcon:=nN p q wr;rw[mg]at hcon;have LM:b2<wr.heap.size:=ak hb2 hB.size;obtain⟨m,hm⟩:∃m,(f (j+1)).length=m:=⟨_,rfl⟩;rw[hm]at hown hlen ⊢;have HM:=af (au hm hfj);clear hx hx2 hpq mg hok hop Sk LK hEl hm hfj;rcases ho:St.opens p with _|_;{rw[ho]at hcon;go_wp2_with fail;refine hcon.mono ?_;rintro e w5 ⟨rfl,di⟩;have HOW:=af (aD hown di);have bC:=hB.trans (di.mono hB.size);clear hcon hown di hB;go_wp2;go_roundw;(case rel=>obtain⟨hm,hfj⟩:=HM.out;rw[ho,ay (by simp),List.append_nil]at hfj;refine⟨j,g,c,rfl,by omega,by rw[hfj,hm],?_,bC⟩;rw[hfj,hm];exact HOW.out);case measure=>first|(simp[intOf];done)|(simp[intOf];omega)};rw[ho]at hcon;by_cases hge:(n:Int)<=ej;{go_wp2_with fail;refine hcon.mono ?_;rintro e w5 ⟨rfl,di⟩;have z0:=(di.cell (p:=⟨b2,dU+j,none⟩) LM).trans hy0;have hown5:=aD hown di;have bC:=hB.trans (di.mono hB.size);have hBx:=bC.alloc bC.size (.cells #[.int .i64 (j:Int)] 2);have HRW:=af (hown5.alloc (.cells #[.int .i64 (j:Int)] 2));have hsz:=bC.size;clear hcon hown di hB hown5;go_wp2_with(at_builtin;refine wpList_append_own _ rfl _ _ 39 rfl w.heap.size 2 i0 (.int .i64 0) 1 8 Tryz.underlying39 hi hz0 hz1 hz2 rfl (by decide) _ _ _ rfl HRW.out ⟨w5.heap.size,0,none⟩ 1 1 [.int .i64 (j:Int)] rfl rfl (dW _ _ _ _ rfl) (by simp[Value.oneCell']) (by simp only[maxLen];omega) (by omega) (by simp;omega) ?_;intro v' wA hown' hgrow _;have hB4:=dz HRW.out hBx (by simp;omega) hgrow;obtain⟨g',cap',rfl⟩:=ownsRow_succ hown');go_roundw;(case rel=>obtain⟨hm,hfj⟩:=HM.out;rw[ho,az ⟨rfl,hge⟩]at hfj;refine⟨j,g',cap',rfl,by omega,by rw[hfj,List.length_append,hm];rfl,?_,hB4⟩;rw[hfj,List.length_append,hm,List.map_append];exact hown');case measure=>first|(simp[intOf];done)|(simp[intOf];omega)};go_wp2_with fail;refine hcon.mono ?_;rintro e w5 ⟨rfl,di⟩;have z0:=(di.cell (p:=⟨b2,dU+j,none⟩) LM).trans hy0;have HOW:=af (aD hown di);have bC:=hB.trans (di.mono hB.size);clear hcon hown di hB;go_wp2;go_roundw;(case rel=>obtain⟨hm,hfj⟩:=HM.out;rw[ay (by rintro⟨_,h⟩;omega),List.append_nil]at hfj;refine⟨j,g,c,rfl,by omega,by rw[hfj,hm],?_,bC⟩;rw[hfj,hm];exact HOW.out);case measure=>first|(simp[intOf];done)|(simp[intOf];omega)
section
open Go.ChangeShapes Go.WideShapes Go.ChangeAt Go.RowKit Go.Shelf Go.Deep
theorem OI.il {W:World}{n₀:Nat}{a:Option Addr}{n c:Nat}{xs:List Int}(h:OI W n₀ (.slice a n c) xs):n=xs.length/\IL W a n xs:=by obtain⟨a',c',e,hil⟩:=h.slice;simp only[Value.slice.injEq]at e;obtain⟨rfl,rfl,rfl⟩:=e;exact⟨rfl,hil⟩
end
theorem IL.aO {w:World}{a:Option Addr}{n:Nat}{E:List Int}(h:IL w a n E)(hn:0<n):∃b off,a=some ⟨b,off,none⟩/\∀(wx:World),Below w.heap.size w wx->∀j,j<n->wx.cell? ⟨b,off+j,none⟩=some (.int .i64 (aC.aO E j)):=by obtain⟨hl,-,h0|⟨b,off,rfl,hb,hx⟩⟩:=h;{omega};refine⟨b,off,rfl,fun wx hB j hj=>?_⟩;have e:aC.aO E j=E.getD j 0:=by{unfold aC.aO;rw[ai,ai,aj (by omega)];rfl};rw[e];exact(hB.cell (p:=⟨b,off+j,none⟩) hb).trans (hx j hj)
def ky (W:World)(g:Nat)(t:TypeId)(vs:List Value):Prop:=W.heap[g]?=some (.cells vs.toArray t (0,0))
theorem ky.lt {W:World}{g:Nat}{t:TypeId}{vs:List Value}(h:ky W g t vs):g<W.heap.size:=(Array.getElem?_eq_some_iff.1 h).1
theorem ky.cell {W:World}{g:Nat}{t:TypeId}{vs:List Value}(h:ky W g t vs){j:Nat}{v:Value}(hj:vs[j]?=some v):W.cell? ⟨g,j,none⟩=some v:=by rw[cell_of_row W g j _ t _ h];simpa using hj
theorem ky.frozen {W:World}{g:Nat}{t:TypeId}{vs:List Value}(h:ky W g t vs)(j:Nat):W.frozen? ⟨g,j,none⟩=false:=frozen_of_row W g j _ t h
theorem ky.kept {W W':World}{g:Nat}{t:TypeId}{vs:List Value}(h:ky W g t vs)(hB:Below W.heap.size W W'):ky W' g t vs:=(hB.block g h.lt).trans h
theorem ky.gz {W W':World}{g:Nat}{t:TypeId}{vs:List Value}{row:Option Nat}(h:ky W g t vs)(hg:W.grownBy W' row)(hne:some g≠row):ky W' g t vs:=(hg.block g h.lt hne).trans h
theorem ky.set {W:World}{g:Nat}{t:TypeId}{vs:List Value}(h:ky W g t vs)(j:Nat)(v:Value):ky (W.setCell ⟨g,j,none⟩ v) g t (vs.set j v):=by have:=heap_setCell_same W g j vs.toArray t v h;unfold ky;rw[this];simp
theorem ky.row {W:World}{g:Nat}{t:TypeId}{vs:List Value}(h:ky W g t vs)(ws:List Value):ky (W.setRow g ws.toArray) g t ws:=setRow_heap W g _ _ t _ h
section
variable {P : Program}
variable {C : World → Prop}
end
end Go.Proofs.YtellfmhljjdjbaaGreatDoor
