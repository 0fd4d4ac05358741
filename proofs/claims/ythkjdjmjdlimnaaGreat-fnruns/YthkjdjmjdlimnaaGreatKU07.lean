/-
  Own texts for a law: Mean1 Mean2 Low0 Lin1 Lin2 Nest4 SlOf LikeI Arr0
-/
import Derived.Test.YthkjdjmjdlimnaaGreatKU06
import Derived.OpenShut
import Derived.Deep.SlicePairs
import Derived.Deep.WholeRow
import Derived.Stop.BytesEq
import Derived.Laws.CopyOwn
import Derived.Laws.ResultCell
namespace Go.Proofs.YthkjdjmjdlimnaaGreat
open Go.RowKit Go.Shelf
set_option linter.all false
set_option maxRecDepth 100000
set_option maxHeartbeats 16000000
namespace Mn
open Hg
abbrev Rs:Type:=(Int×List Int×Nat) ⊕ (Int×List Int×Nat)
abbrev Rs.done (v:Int)(mem:List Int)(left:Nat):Rs:= .inl (v,mem,left)
abbrev Rs.stop (c:Int)(mem:List Int)(left:Nat):Rs:= .inr (c,mem,left)
def fn (fs:List Fn)(k:Nat):Fn:=fs.getD k .z
def pK (fs:List Fn)(k:Nat):List Int:=((jD fs (fn fs k)).map (·.1)).getD []
def bg (fs:List Fn)(k at':Nat)(pile loc mem:List Int):Sr:=step fs (fn fs k) (aQ.ends (fn fs k).b) (aQ.bE (fn fs k).b) (pK fs k) at' pile loc mem
def gives (f:Fn)(pile:List Int):Int:=if f.g=0 then 0 else oW pile
def qP (f:Fn)(v:Int):List Int:=if f.g=1 then[v]else[]
def ko (f:Fn)(args:List Int):List Int:=args++List.replicate f.l.toNat 0
def run (fs:List Fn):Nat->Nat->Nat->Nat->Nat->List Int->List Int->List Int->Rs
 |0,aL,_,_,_,_,_,mem=> .stop 5 mem aL
 |_+1,0,_,_,_,_,_,mem=> .stop 5 mem 0
 | g +1,n+1,d,k,at',pile,loc,mem=>
   match bg fs k at' pile loc mem with
   | .inl (a,p,l,m)=>run fs g n d k a p l m
   | .inr (.inl p)=> .done (gives (fn fs k) p) mem n
   | .inr (.inr (.inl c))=> .stop c mem n
   | .inr (.inr (.inr (q,args,rest)))=>
     if 12<=d+1 then .stop 6 mem n else
     match run fs g n (d+1) q 0 [] (ko (fn fs q) args) mem with
     | .inr (c,m,l)=> .stop c m l
     | .inl (v,m,l)=>run fs g l d k (at'+1) (rest++qP (fn fs q) v) loc m
def Rs.left:Rs->Nat
 | .inl (_,_,l)=>l
 | .inr (_,_,l)=>l
def Rs.more (e:Nat):Rs->Rs
 | .inl (v,m,l)=> .done v m (l+e)
 | .inr (c,m,l)=> .stop c m (l+e)
def Rs.ends:Rs->Prop
 | .inl _=>True
 | .inr (c,_,_)=>c≠5
variable {fs : List Fn} {g n d k at' : Nat} {pile loc mem : List Int}
theorem dG {a:Nat}{p l m:List Int}(h:bg fs k at' pile loc mem= .next a p l m):run fs (g+1) (n+1) d k at' pile loc mem=run fs g n d k a p l m:=by rw[run,h]
theorem kC {p:List Int}(h:bg fs k at' pile loc mem= .fin p):run fs (g+1) (n+1) d k at' pile loc mem= .done (gives (fn fs k) p) mem n:=by rw[run,h]
theorem run_halt {c:Int}(h:bg fs k at' pile loc mem= .halt c):run fs (g+1) (n+1) d k at' pile loc mem= .stop c mem n:=by rw[run,h]
theorem dQ {q:Nat}{args rest:List Int}(h:bg fs k at' pile loc mem= .call q args rest)(hd:12<=d+1):run fs (g+1) (n+1) d k at' pile loc mem= .stop 6 mem n:=by rw[run,h];exact az hd
theorem dM {q l:Nat}{c:Int}{args rest m:List Int}(h:bg fs k at' pile loc mem= .call q args rest)(hd:¬12<=d+1)(hr:run fs g n (d+1) q 0 [] (ko (fn fs q) args) mem= .stop c m l):run fs (g+1) (n+1) d k at' pile loc mem= .stop c m l:=by rw[run,h];show(if _ then _ else _)=_;rw[ax hd,hr]
theorem dF {q l:Nat}{v:Int}{args rest m:List Int}(h:bg fs k at' pile loc mem= .call q args rest)(hd:¬12<=d+1)(hr:run fs g n (d+1) q 0 [] (ko (fn fs q) args) mem= .done v m l):run fs (g+1) (n+1) d k at' pile loc mem=run fs g l d k (at'+1) (rest++qP (fn fs q) v) loc m:=by(conv=>lhs;rw[run,h]);show(if _ then _ else _)=_;rw[ax hd,hr]
theorem Dz (a x y:Int):Wd.dc a x y≠5:=by rcases Wd.rV a x y with⟨h,-⟩|⟨h,-⟩|⟨h|h,-⟩<;>omega
def nf:Sr->Prop
 | .inr (.inr (.inl c))=>c≠5
 |_=>True
theorem bS {c:Prop}[Decidable c]{x y:Sr}(hx:nf x)(hy:nf y):nf (if c then x else y):=by split<;>assumption
theorem DI {f:Fn}{E H:List Int}{a:Int}:nf (jump f E H at' a pile loc mem):=by unfold jump;exact bS (bS trivial trivial) trivial
theorem xA:nf (bg fs k at' pile loc mem):=by unfold bg step;exact bS trivial (bS trivial (bS trivial (bS trivial (bS (bS trivial (Dz _ _ _)) (bS trivial (bS trivial (bS (bS trivial trivial) (bS trivial (bS (bS trivial trivial) (bS DI (bS (bS trivial DI) (bS trivial (bS trivial (bS (bS trivial (show(3:Int)≠5 by omega)) (bS (bS trivial (show(3:Int)≠5 by omega)) (bS (show(4:Int)≠5 by omega) trivial))))))))))))))))
theorem pF {c:Int}(h:bg fs k at' pile loc mem= .halt c):c≠5:=by have:=xA (fs:=fs) (k:=k) (at':=at') (pile:=pile) (loc:=loc) (mem:=mem);rw[h]at this;exact this
theorem dU:∀(g n d k at':Nat)(pile loc mem:List Int),(run fs g n d k at' pile loc mem).left<=n/\(0<g->0<n->(run fs g n d k at' pile loc mem).left<n)
 |0,n,d,k,at',pile,loc,mem=>⟨Nat.le_refl _,fun h=>by omega⟩
 |g+1,0,d,k,at',pile,loc,mem=>⟨Nat.le_refl _,fun _ h=>by omega⟩
 | g + 1,n+1,d,k,at',pile,loc,mem=>by
   suffices h:(run fs (g+1) (n+1) d k at' pile loc mem).left<=n from⟨by omega,fun _ _=>by omega⟩
   rcases hs:bg fs k at' pile loc mem with⟨a,p,l,m⟩|p|c|⟨q,args,rest⟩
   · rw[dG hs];exact(dU g n d k a p l m).1
   · rw[kC hs];exact Nat.le_refl _
   · rw[run_halt hs];exact Nat.le_refl _
   · by_cases hd:12<=d+1
     · rw[dQ hs hd];exact Nat.le_refl _
     · have h1:=(dU g n (d+1) q 0 [] (ko (fn fs q) args) mem).1
       rcases hr:run fs g n (d+1) q 0 [] (ko (fn fs q) args) mem with⟨v,m,l⟩|⟨c,m,l⟩
       · rw[dF hs hd hr]
         rw[hr]at h1
         have h2:=(dU g l d k (at'+1) (rest++qP (fn fs q) v) loc m).1
         simp only[Rs.left]at h1
         omega
       · rw[dM hs hd hr]
         rw[hr]at h1
         exact h1
theorem jE:∀(g g' n d k at':Nat)(pile loc mem:List Int),n<g->n<g'->run fs g n d k at' pile loc mem=run fs g' n d k at' pile loc mem
 |0,g',n,d,k,at',pile,loc,mem,h,_=>by omega
 |g+1,0,n,d,k,at',pile,loc,mem,_,h=>by omega
 |g+1,g'+1,0,d,k,at',pile,loc,mem,_,_=>by rw[run,run]
 | g + 1,g'+1,n+1,d,k,at',pile,loc,mem,h,h'=>by
   rcases hs:bg fs k at' pile loc mem with⟨a,p,l,m⟩|p|c|⟨q,args,rest⟩
   · rw[dG hs,dG hs];exact jE g g' n d k a p l m (by omega) (by omega)
   · rw[kC hs,kC hs]
   · rw[run_halt hs,run_halt hs]
   · by_cases hd:12<=d+1
     · rw[dQ hs hd,dQ hs hd]
     · have e:=jE g g' n (d+1) q 0 [] (ko (fn fs q) args) mem (by omega) (by omega)
       have h1:=(dU (fs:=fs) g n (d+1) q 0 [] (ko (fn fs q) args) mem).1
       rcases hr:run fs g n (d+1) q 0 [] (ko (fn fs q) args) mem with⟨v,m,l⟩|⟨c,m,l⟩
       · rw[hr]at h1
         simp only[Rs.left]at h1
         rw[dF hs hd hr,dF hs hd (e▸hr)]
         exact jE g g' l d k (at'+1) _ loc m (by omega) (by omega)
       · rw[dM hs hd hr,dM hs hd (e▸hr)]
theorem fJ (e:Nat):∀(g n d k at':Nat)(pile loc mem:List Int),n<g->(run fs g n d k at' pile loc mem).ends->run fs (g+e) (n+e) d k at' pile loc mem=(run fs g n d k at' pile loc mem).more e
 |0,n,d,k,at',pile,loc,mem,h,_=>by omega
 |g+1,0,d,k,at',pile,loc,mem,_,h=>by rw[run]at h;exact absurd rfl h
 | g + 1,n+1,d,k,at',pile,loc,mem,h,hE=>by
   rw[show g+1+e=g+e+1 by omega,show n+1+e=n+e+1 by omega]
   rcases hs:bg fs k at' pile loc mem with⟨a,p,l,m⟩|p|c|⟨q,args,rest⟩
   · rw[dG hs]at hE ⊢
     rw[dG hs]
     exact fJ e g n d k a p l m (by omega) hE
   · rw[kC hs,kC hs];rfl
   · rw[run_halt hs,run_halt hs];rfl
   · by_cases hd:12<=d+1
     · rw[dQ hs hd,dQ hs hd];rfl
     · have h1:=(dU (fs:=fs) g n (d+1) q 0 [] (ko (fn fs q) args) mem).1
       rcases hr:run fs g n (d+1) q 0 [] (ko (fn fs q) args) mem with⟨v,m,l⟩|⟨c,m,l⟩
       · have e1:=fJ e g n (d+1) q 0 [] (ko (fn fs q) args) mem (by omega) (by rw[hr];trivial)
         rw[hr]at e1 h1
         simp only[Rs.left]at h1
         rw[dF hs hd hr]at hE ⊢
         rw[dF hs hd e1]
         exact fJ e g l d k (at'+1) _ loc m (by omega) hE
       · rw[dM hs hd hr]at hE ⊢
         have e1:=fJ e g n (d+1) q 0 [] (ko (fn fs q) args) mem (by omega) (by rw[hr];exact hE)
         rw[hr]at e1
         rw[dM hs hd e1]
         rfl
theorem iR (e:Nat):∀(g n d k at':Nat)(pile loc mem:List Int),n<g->¬(run fs g n d k at' pile loc mem).ends->(run fs g n d k at' pile loc mem).left=0/\((run fs (g+e) (n+e) d k at' pile loc mem).left<e\/¬(run fs (g+e) (n+e) d k at' pile loc mem).ends)
 |0,n,d,k,at',pile,loc,mem,h,_=>by omega
 | g +1,0,d,k,at',pile,loc,mem,_,h=>by
   refine⟨by rw[run];rfl,?_⟩
   rcases Nat.eq_zero_or_pos e with rfl|he
   · right;exact h
   · left
     rw[Nat.zero_add]
     exact(dU (g+1+e) e d k at' pile loc mem).2 (by omega) he
 | g + 1,n+1,d,k,at',pile,loc,mem,h,hE=>by
   rw[show g+1+e=g+e+1 by omega,show n+1+e=n+e+1 by omega]
   rcases hs:bg fs k at' pile loc mem with⟨a,p,l,m⟩|p|c|⟨q,args,rest⟩
   · rw[dG hs]at hE ⊢
     rw[dG hs]
     exact iR e g n d k a p l m (by omega) hE
   · rw[kC hs]at hE;exact absurd trivial hE
   · rw[run_halt hs]at hE;exact absurd (pF hs) hE
   · by_cases hd:12<=d+1
     · rw[dQ hs hd]at hE
       exact absurd (show(6:Int)≠5 by omega) hE
     · have h1:=(dU (fs:=fs) g n (d+1) q 0 [] (ko (fn fs q) args) mem).1
       rcases hr:run fs g n (d+1) q 0 [] (ko (fn fs q) args) mem with⟨v,m,l⟩|⟨c,m,l⟩
       · have e1:=fJ e g n (d+1) q 0 [] (ko (fn fs q) args) mem (by omega) (by rw[hr];trivial)
         rw[hr]at e1 h1
         simp only[Rs.left]at h1
         rw[dF hs hd hr]at hE ⊢
         rw[dF hs hd e1]
         exact iR e g l d k (at'+1) _ loc m (by omega) hE
       · rw[dM hs hd hr]at hE ⊢
         have e1:=iR e g n (d+1) q 0 [] (ko (fn fs q) args) mem (by omega) (by rw[hr];exact hE)
         rw[hr]at e1
         refine⟨e1.1,?_⟩
         rcases hr2:run fs (g+e) (n+e) (d+1) q 0 [] (ko (fn fs q) args) mem with⟨v2,m2,l2⟩|⟨c2,m2,l2⟩
         · rw[hr2]at e1
           rw[dF hs hd hr2]
           have h2:=(dU (fs:=fs) (g+e) l2 d k (at'+1) (rest++qP (fn fs q) v2) loc m2).1
           rcases e1.2 with q1|q1
           · left
             simp only[Rs.left]at q1
             omega
           · exact absurd trivial q1
         · rw[hr2]at e1
           rw[dM hs hd hr2]
           exact e1.2
end Mn
namespace Mn
open Hg
structure E8 (fs:List Fn):Prop where
 len:1<=fs.length/\fs.length<=4
 all:Md.df fs=true
 acc:∀k,k<fs.length->Acc fs (fn fs k) (aQ.ends (fn fs k).b) (aQ.bE (fn fs k).b) (pK fs k)
theorem mI {fs:List Fn}{d:ByteArray}(h:Hg.valid fs d=true):E8 fs:=by unfold Hg.valid at h;rw[au]at h;obtain⟨hok,hall⟩:=h;have Od:Md.df fs=true:=by{unfold Md.ok at hok;rw[au]at hok;exact hok.2};have hlen:1<=fs.length/\fs.length<=4:=by{unfold Md.ok at hok;simp only[au,Wd.bA]at hok;have:=hok.1.1;omega};refine⟨hlen,Od,fun k hk=>?_⟩;rw[List.all_eq_true]at hall;have hs:=hall k (List.mem_range.2 hk);unfold jF at hs;rw[az ⟨hok,by omega,by omega⟩,aA]at hs;obtain⟨⟨H,mo⟩,hr⟩:=Option.isSome_iff_exists.1 hs;have hr':jD fs (fn fs k)=some (H,mo):=hr;have hh:pK fs k=H:=by{unfold pK;rw[hr'];rfl};rw[hh];exact EU (Md.bI Od hk) Od hr'
theorem DK {fs:List Fn}(V:E8 fs){k:Nat}(hk:k<fs.length):0<=(fn fs k).a/\(fn fs k).a<=3/\0<=(fn fs k).l/\(fn fs k).l<=3/\((fn fs k).g=0\/(fn fs k).g=1)/\(fn fs k).b.length<=80:=by have:=Md.bI V.all hk;simp only[Md.qQ,au,decide_eq_true_eq,Wd.bA]at this;obtain⟨⟨a1,a2⟩,⟨a3,a4⟩,⟨a5,a6⟩,a7,-⟩:=this;exact⟨a1,a2,a3,a4,by show(fs.getD k .z).g=0\/(fs.getD k .z).g=1;omega,a7⟩
theorem eX {fs:List Fn}(V:E8 fs){k:Nat}(hk:k<fs.length){args mem:List Int}(hl:(args.length:Int)=(fn fs k).a)(hw:words args)(hm:Mm.ok mem=true):Good fs (fn fs k) (pK fs k) 0 [] (ko (fn fs k) args) mem:=by have hA:=V.acc k hk;have hf:=DK V hk;refine⟨hA.pos,by rw[hA.fst];rfl,(fun x hx=>by cases hx),?_,gM hw (fun x hx=>?_),hm⟩;{unfold ko;rw[List.length_append,List.length_replicate];omega};rw[List.eq_of_mem_replicate hx];rfl
theorem GZ {f:Fn}{p:List Int}(h:words p):Wd.ok (gives f p)=true:=by unfold gives;split;{rfl};exact bK h _
theorem IB {f:Fn}(hg:f.g=0\/f.g=1)(v:Int):((qP f v).length:Int)=f.g:=by unfold qP;rcases hg with h|h;{rw[ax (by omega),h];rfl};rw[az h,h];rfl
theorem Cy {f:Fn}{v:Int}(h:Wd.ok v=true):words (qP f v):=by unfold qP;split;{exact jK h};exact fun x hx=>by cases hx
def Rs.Hf:Rs->Prop
 | .inl (v,m,l)=>Wd.ok v=true/\Mm.ok m=true
 | .inr (c,m,l)=>Mm.ok m=true/\1<=c/\c<=6
theorem fK {fs:List Fn}(V:E8 fs):∀(g n d k at':Nat)(pile loc mem:List Int),k<fs.length->Good fs (fn fs k) (pK fs k) at' pile loc mem->(run fs g n d k at' pile loc mem).Hf
 |0,n,d,k,at',pile,loc,mem,hk,G=>⟨G.mm,by omega,by omega⟩
 |g+1,0,d,k,at',pile,loc,mem,hk,G=>⟨G.mm,by omega,by omega⟩
 | g + 1,n+1,d,k,at',pile,loc,mem,hk,G=>by
   have F:uD fs (fn fs k) (pK fs k) at' loc mem (bg fs k at' pile loc mem):=fP (Md.bI V.all hk) V.all (V.acc k hk) G
   rcases hs:bg fs k at' pile loc mem with⟨a,p,l,m⟩|p|c|⟨q,args,rest⟩
   · rw[dG hs]
     rw[hs]at F
     exact fK V g n d k a p l m hk F
   · rw[kC hs]
     rw[hs]at F
     exact⟨GZ F.2,G.mm⟩
   · rw[run_halt hs]
     rw[hs]at F
     have F':c=1\/c=2\/c=3\/c=4:=F
     exact⟨G.mm,by omega,by omega⟩
   · by_cases hd:12<=d+1
     · rw[dQ hs hd]
       exact⟨G.mm,by omega,by omega⟩
     · rw[hs]at F
       obtain⟨f1,f2,f3,f4,f5⟩:=F
       have hq:q<fs.length:=by omega
       have I:=fK V g n (d+1) q 0 [] (ko (fn fs q) args) mem hq (eX V hq f2 f3 G.mm)
       rcases hr:run fs g n (d+1) q 0 [] (ko (fn fs q) args) mem with⟨v,m,l⟩|⟨c,m,l⟩
       · rw[hr]at I
         rw[dF hs hd hr]
         exact fK V g l d k (at'+1) _ loc m hk (f5 m I.2 _ (IB (DK V hq).2.2.2.2.1 v) (Cy I.1))
       · rw[hr]at I
         rw[dM hs hd hr]
         exact I
def Rs.code:Rs->Int
 | .inl _=>0
 | .inr (c,_,_)=>c
def Rs.value:Rs->Int
 | .inl (v,_,_)=>v
 | .inr _=>0
def Rs.mem:Rs->List Int
 | .inl (_,m,_)=>m
 | .inr (_,m,_)=>m
def isOk (fs:List Fn)(d:ByteArray)(k:Int)(args:List Int)(aL:Int):Bool:=
 Hg.valid fs d&&(decide (0<=k/\k<fs.length)&&(decide ((args.length:Int)=(fn fs k.toNat).a)&&(args.all Wd.ok&&decide (0<=aL/\aL<=3000))))
def out (fs:List Fn)(d:ByteArray)(k:Int)(args:List Int)(n:Nat):Rs:=run fs (n+1) n 0 k.toNat 0 [] (ko (fn fs k.toNat) args) (Mm.new d)
def code (fs:List Fn)(d:ByteArray)(k:Int)(args:List Int)(aL:Int):Int:=if isOk fs d k args aL=true then(out fs d k args aL.toNat).code else 7
def value (fs:List Fn)(d:ByteArray)(k:Int)(args:List Int)(aL:Int):Int:=if isOk fs d k args aL=true then(out fs d k args aL.toNat).value else 0
def kL (fs:List Fn)(d:ByteArray)(k:Int)(args:List Int)(aL:Int):List Int:=if isOk fs d k args aL=true then(out fs d k args aL.toNat).mem else[]
def fD (fs:List Fn)(d:ByteArray)(k:Int)(args:List Int)(aL:Int):Int:=if isOk fs d k args aL=true then aL-(out fs d k args aL.toNat).left else -1
theorem iW {fs:List Fn}{d:ByteArray}{k aL:Int}{args:List Int}:isOk fs d k args aL=true↔Hg.valid fs d=true/\(0<=k/\k<fs.length)/\(args.length:Int)=(fn fs k.toNat).a/\words args/\0<=aL/\aL<=3000:=by simp only[isOk,au,decide_eq_true_eq,List.all_eq_true,words]
theorem oK {fs:List Fn}{d:ByteArray}{k aL:Int}{args:List Int}(h:isOk fs d k args aL=true)(n:Nat):(out fs d k args n).Hf:=by obtain⟨h1,⟨h2,h3⟩,h4,h5,h6,h7⟩:=iW.1 h;have V:=mI h1;have hd:d.size<=64:=by{unfold Hg.valid Md.ok at h1;simp only[au,decide_eq_true_eq]at h1;exact h1.1.1.2};exact fK V _ _ _ _ _ _ _ _ (by omega) (eX V (by omega) h4 h5 (Mm.Sz hd))
theorem zf {fs:List Fn}{d:ByteArray}{k:Int}{args:List Int}{n:Nat}(h:(out fs d k args n).ends)(e:Nat):out fs d k args (n+e)=(out fs d k args n).more e:=by unfold out at h ⊢;rw[show n+e+1=n+1+e by omega];exact fJ e _ _ _ _ _ _ _ _ (by omega) h
theorem Ab {fs:List Fn}{d:ByteArray}{k:Int}{args:List Int}{n:Nat}(h:¬(out fs d k args n).ends)(e:Nat):(out fs d k args n).left=0/\((out fs d k args (n+e)).left<e\/¬(out fs d k args (n+e)).ends):=by unfold out at h ⊢;rw[show n+e+1=n+1+e by omega];exact iR e _ _ _ _ _ _ _ _ (by omega) h
theorem zQ (fs:List Fn)(d:ByteArray)(k:Int)(args:List Int)(n:Nat):(out fs d k args n).left<=n:=(dU _ _ _ _ _ _ _ _).1
end Mn
namespace Lw
open Hg (arg)
def wd (f:Fn):Int:=f.a+f.l
def bx (f:Fn)(h:Int):Int:=wd f+h
def gy (f:Fn)(E H:List Int)(at':Nat)(dp:Int):Int×Int×Int:=
 if dp.toNat<(aQ.ed f.b E at' at').length then
   let t:=((aQ.ed f.b E at' at').getD dp.toNat (-1)).toNat
   if aQ.op f.b t=9 then((t:Int)+1,0,0)else if aQ.op f.b t=10 then(aQ.aS E t,bx f (H.getD t 0-1),arg f.b t)else(aQ.aS E t,bx f (H.getD t 0),arg f.b t)
 else((f.b.length:Int)-1,bx f 0,f.g)
def args (t:Int)(n:Int):List Int:=(List.range n.toNat).map fun(i:Nat)=>t-n+1+(i:Int)
def vR (fs:List Fn)(f:Fn)(E O H:List Int)(at':Nat)(p a t:Int):List (Ln×Int):=
 if p=1 then[(⟨1,t+1,0,0,a,[]⟩,-1)]
 else if p=2 then[(⟨2,t+1,a,0,0,[]⟩,-1)]
 else if p=3\/p=4 then[(⟨2,a,t,0,0,[]⟩,-1)]
 else if p=5 then[(⟨3,t-1,t-1,t,a,[]⟩,-1)]
 else if p=6 then[(⟨4,t,t,0,0,[]⟩,-1)]
 else if p=10 then[(⟨4,t,t,0,0,[]⟩,-1),(⟨6,0,t,0,0,[]⟩,if 0<=aQ.aS O at' then aQ.aS O at'+1 else aQ.aS E at')]
 else if p=11 then[(⟨5,0,0,0,0,[]⟩,aQ.aS E at')]
 else if p=13\/p=15 then
   let L:=gy f E H at' (if p=15 then 99 else a)
   (if L.2.2=1/\L.2.1≠t then[(⟨2,L.2.1,t,0,0,[]⟩,-1)]else[])++[(⟨5,0,0,0,0,[]⟩,L.1)]
 else if p=14 then
   let L:=gy f E H at' a
   if L.2.2=1/\L.2.1≠t-1 then[(⟨4,t,t,0,0,[]⟩,-1),(⟨6,0,t,0,0,[]⟩,(at':Int)+1),(⟨2,L.2.1,t-1,0,0,[]⟩,-1),(⟨5,0,0,0,0,[]⟩,L.1)]
   else[(⟨6,0,t,0,0,[]⟩,L.1)]
 else if p=16 then
   let g:=fs.getD a.toNat .z
   [(⟨7,if g.g=1 then t-g.a+1 else wd f+20,0,0,a,args t g.a⟩,-1)]
 else if p=17 then[(⟨8,t,t,0,a,[]⟩,-1)]
 else if p=18 then[(⟨9,0,t-1,t,a,[]⟩,-1)]
 else if p=19 then[(⟨11,0,0,0,0,[]⟩,-1)]
 else[]
def step (fs:List Fn)(f:Fn)(E O H:List Int)(at':Nat):List (Ln×Int):=vR fs f E O H at' (aQ.op f.b at') (arg f.b at') (bx f (H.getD at' 0-1))
def first(f:Fn):List (Ln×Int):=(List.range f.l.toNat).map fun(i:Nat)=>(⟨1,f.a+(i:Int),0,0,0,[]⟩,-1)
def gW (fs:List Fn)(f:Fn)(E O H:List Int):Nat->List (Ln×Int)×List Int
 |0=>(first f,[])
 |i+1=>((gW fs f E O H i).1++(if 0<=H.getD i 0 then step fs f E O H i else[]),(gW fs f E O H i).2++[((gW fs f E O H i).1.length:Int)])
def last (f:Fn):List (Ln×Int):=if f.g=0 then[(⟨1,wd f+20,0,0,0,[]⟩,-1),(⟨10,0,wd f+20,0,0,[]⟩,-1)]else[(⟨10,0,wd f,0,0,[]⟩,-1)]
def raw (fs:List Fn)(f:Fn)(E O H:List Int):List (Ln×Int):=(gW fs f E O H f.b.length).1++last f
def pU (fs:List Fn)(f:Fn)(E O H:List Int):List Int:=(gW fs f E O H f.b.length).2
def OU (st:List Int)(x:Ln×Int):Ln:=if 0<=x.2 then{x.1 with n:=st.getD x.2.toNat 0}else x.1
def func (fs:List Fn)(f:Fn)(E O H:List Int):List Ln:=if(raw fs f E O H).length<=300 then(raw fs f E O H).map (OU (pU fs f E O H))else[]
def iQ (fs:List Fn)(d:ByteArray)(k:Int):List Ln:=
 if Hg.valid fs d=true/\0<=k/\k<fs.length then func fs (Mn.fn fs k.toNat) (aQ.ends (Mn.fn fs k.toNat).b) (aQ.bE (Mn.fn fs k.toNat).b) (Mn.pK fs k.toNat)else[]
theorem Pk {α:Type}{q:Prop}[Decidable q]{x y:List α}{n:Nat}(hx:x.length<=n)(hy:y.length<=n):(if q then x else y).length<=n:=by split<;>assumption
theorem Io (fs:List Fn)(f:Fn)(E O H:List Int)(at':Nat):(step fs f E O H at').length<=4:=by unfold step vR;simp only;(repeat' (refine Pk ?_ ?_));(all_goals first|(simp;done)|skip);all_goals rw[List.length_append];(have h1:∀(q:Prop)[Decidable q](x:Ln×Int),(if q then[x]else[]).length<=1:=fun q _ x=>by split<;>simp);exact Nat.le_trans (Nat.add_le_add_right (h1 _ _) _) (by simp)
theorem sI (fs:List Fn)(f:Fn)(E O H:List Int):∀i,(gW fs f E O H i).1.length<=f.l.toNat+4*i/\(gW fs f E O H i).2.length=i
 |0=>⟨by simp[gW,first],rfl⟩
 | i +1=>by
   have ih:=sI fs f E O H i
   have hs:=Io fs f E O H i
   refine⟨?_,?_⟩
   · unfold gW
     simp only[List.length_append]
     split
     · omega
     · simp;omega
   · unfold gW
     simp only[List.length_append,List.length_singleton,ih.2]
end Lw
theorem aR (b:Int)(w:World):Calls Tryz.prog 128 #[.int .i64 b] w fun e w'=>e= .returned (.bool (Wd.dH b 0 39))/\w'=w:=by go_enter Tryz.func128,Tryz.ntmps128;go_wp2_with(go_at_call 47;refine(aN _ _ _ _).mono ?_;rintro e w' ⟨rfl,aW⟩;subst w');go_ret;exact⟨rfl,rfl⟩
namespace Ln
theorem Vn {k d a b n:Int}{l:List Int}(h:k≠7)(hl:0<l.length):ok ⟨k,d,a,b,n,l⟩=false:=by simp[ok,h,hl]
theorem mr {k d a b n:Int}{l:List Int}(hl:l.length=0):ok ⟨k,d,a,b,n,l⟩=(asks k d a b n l).all id:=by simp[ok,hl]
theorem Pe {d a b n:Int}{l:List Int}:ok ⟨7,d,a,b,n,l⟩=(asks 7 d a b n l).all id:=by simp[ok]
end Ln
theorem wN (d a b n:Int)(l:List Int)(la:Option Addr)(ln lc:Nat)(w:World)(hln:l.length=ln)(hl0:ln=0):Calls Tryz.prog 109 #[.agg #[.int .i64 1, .int .i64 d, .int .i64 a, .int .i64 b, .int .i64 n, .slice la ln lc]] w fun e w'=>e= .returned (.bool (Ln.ok ⟨1,d,a,b,n,l⟩))/\Below w.heap.size w w':=by subst hl0;have hB:=aB w (.cells #[.int .i64 1, .int .i64 d, .int .i64 a, .int .i64 b, .int .i64 n, .slice la 0 lc] 109);rw[Ln.mr hln];clear hln;rcases h0:Wd.dH d 0 39 with _|_;{go_enter Tryz.func109,Tryz.ntmps109;go_wp2_with(first|(go_at_call 47;refine(aN _ _ _ _).mono ?_;rintro e w' ⟨rfl,aW⟩;subst w')|(go_at_call 128;refine(aR _ _).mono ?_;rintro e w' ⟨rfl,aW⟩;subst w')|(go_at_call 56;refine(aG _ _).mono ?_;rintro e w' ⟨rfl,aW⟩;subst w'));go_ret;exact⟨by simp[Ln.asks,Ln.bx,Ln.q0,h0],hB⟩};rcases h1:Wd.ok n with _|_;{go_enter Tryz.func109,Tryz.ntmps109;go_wp2_with(first|(go_at_call 47;refine(aN _ _ _ _).mono ?_;rintro e w' ⟨rfl,aW⟩;subst w')|(go_at_call 128;refine(aR _ _).mono ?_;rintro e w' ⟨rfl,aW⟩;subst w')|(go_at_call 56;refine(aG _ _).mono ?_;rintro e w' ⟨rfl,aW⟩;subst w'));go_ret;exact⟨by simp[Ln.asks,Ln.bx,Ln.q0,h0,h1],hB⟩};by_cases h2:a=0;rotate_left;{have Rn:(a==0)=false:=by{simpa using h2};go_enter Tryz.func109,Tryz.ntmps109;go_wp2_with(first|(go_at_call 47;refine(aN _ _ _ _).mono ?_;rintro e w' ⟨rfl,aW⟩;subst w')|(go_at_call 128;refine(aR _ _).mono ?_;rintro e w' ⟨rfl,aW⟩;subst w')|(go_at_call 56;refine(aG _ _).mono ?_;rintro e w' ⟨rfl,aW⟩;subst w'));go_ret;exact⟨by simp[Ln.asks,Ln.bx,Ln.q0,h0,h1,h2],hB⟩};subst h2;by_cases h3:b=0;rotate_left;{have UH:(b==0)=false:=by{simpa using h3};go_enter Tryz.func109,Tryz.ntmps109;go_wp2_with(first|(go_at_call 47;refine(aN _ _ _ _).mono ?_;rintro e w' ⟨rfl,aW⟩;subst w')|(go_at_call 128;refine(aR _ _).mono ?_;rintro e w' ⟨rfl,aW⟩;subst w')|(go_at_call 56;refine(aG _ _).mono ?_;rintro e w' ⟨rfl,aW⟩;subst w'));go_ret;exact⟨by simp[Ln.asks,Ln.bx,Ln.q0,h0,h1,h3],hB⟩};subst h3;go_enter Tryz.func109,Tryz.ntmps109;go_wp2_with(first|(go_at_call 47;refine(aN _ _ _ _).mono ?_;rintro e w' ⟨rfl,aW⟩;subst w')|(go_at_call 128;refine(aR _ _).mono ?_;rintro e w' ⟨rfl,aW⟩;subst w')|(go_at_call 56;refine(aG _ _).mono ?_;rintro e w' ⟨rfl,aW⟩;subst w'));go_ret;exact⟨by simp[Ln.asks,Ln.bx,Ln.q0,h0,h1],hB⟩
theorem wY (d a b n:Int)(l:List Int)(la:Option Addr)(ln lc:Nat)(w:World)(hln:l.length=ln)(hl0:ln=0):Calls Tryz.prog 109 #[.agg #[.int .i64 2, .int .i64 d, .int .i64 a, .int .i64 b, .int .i64 n, .slice la ln lc]] w fun e w'=>e= .returned (.bool (Ln.ok ⟨2,d,a,b,n,l⟩))/\Below w.heap.size w w':=by subst hl0;have hB:=aB w (.cells #[.int .i64 2, .int .i64 d, .int .i64 a, .int .i64 b, .int .i64 n, .slice la 0 lc] 109);rw[Ln.mr hln];clear hln;rcases h0:Wd.dH d 0 39 with _|_;{go_enter Tryz.func109,Tryz.ntmps109;go_wp2_with(first|(go_at_call 47;refine(aN _ _ _ _).mono ?_;rintro e w' ⟨rfl,aW⟩;subst w')|(go_at_call 128;refine(aR _ _).mono ?_;rintro e w' ⟨rfl,aW⟩;subst w')|(go_at_call 56;refine(aG _ _).mono ?_;rintro e w' ⟨rfl,aW⟩;subst w'));go_ret;exact⟨by simp[Ln.asks,Ln.bx,Ln.q0,h0],hB⟩};rcases h1:Wd.dH a 0 39 with _|_;{go_enter Tryz.func109,Tryz.ntmps109;go_wp2_with(first|(go_at_call 47;refine(aN _ _ _ _).mono ?_;rintro e w' ⟨rfl,aW⟩;subst w')|(go_at_call 128;refine(aR _ _).mono ?_;rintro e w' ⟨rfl,aW⟩;subst w')|(go_at_call 56;refine(aG _ _).mono ?_;rintro e w' ⟨rfl,aW⟩;subst w'));go_ret;exact⟨by simp[Ln.asks,Ln.bx,Ln.q0,h0,h1],hB⟩};by_cases h2:b=0;rotate_left;{have Rn:(b==0)=false:=by{simpa using h2};go_enter Tryz.func109,Tryz.ntmps109;go_wp2_with(first|(go_at_call 47;refine(aN _ _ _ _).mono ?_;rintro e w' ⟨rfl,aW⟩;subst w')|(go_at_call 128;refine(aR _ _).mono ?_;rintro e w' ⟨rfl,aW⟩;subst w')|(go_at_call 56;refine(aG _ _).mono ?_;rintro e w' ⟨rfl,aW⟩;subst w'));go_ret;exact⟨by simp[Ln.asks,Ln.bx,Ln.q0,h0,h1,h2],hB⟩};subst h2;by_cases h3:n=0;rotate_left;{have UH:(n==0)=false:=by{simpa using h3};go_enter Tryz.func109,Tryz.ntmps109;go_wp2_with(first|(go_at_call 47;refine(aN _ _ _ _).mono ?_;rintro e w' ⟨rfl,aW⟩;subst w')|(go_at_call 128;refine(aR _ _).mono ?_;rintro e w' ⟨rfl,aW⟩;subst w')|(go_at_call 56;refine(aG _ _).mono ?_;rintro e w' ⟨rfl,aW⟩;subst w'));go_ret;exact⟨by simp[Ln.asks,Ln.bx,Ln.q0,h0,h1,h3],hB⟩};subst h3;go_enter Tryz.func109,Tryz.ntmps109;go_wp2_with(first|(go_at_call 47;refine(aN _ _ _ _).mono ?_;rintro e w' ⟨rfl,aW⟩;subst w')|(go_at_call 128;refine(aR _ _).mono ?_;rintro e w' ⟨rfl,aW⟩;subst w')|(go_at_call 56;refine(aG _ _).mono ?_;rintro e w' ⟨rfl,aW⟩;subst w'));go_ret;exact⟨by simp[Ln.asks,Ln.bx,Ln.q0,h0,h1],hB⟩
theorem yg (d a b n:Int)(l:List Int)(la:Option Addr)(ln lc:Nat)(w:World)(hln:l.length=ln)(hl0:ln=0):Calls Tryz.prog 109 #[.agg #[.int .i64 4, .int .i64 d, .int .i64 a, .int .i64 b, .int .i64 n, .slice la ln lc]] w fun e w'=>e= .returned (.bool (Ln.ok ⟨4,d,a,b,n,l⟩))/\Below w.heap.size w w':=by subst hl0;have hB:=aB w (.cells #[.int .i64 4, .int .i64 d, .int .i64 a, .int .i64 b, .int .i64 n, .slice la 0 lc] 109);rw[Ln.mr hln];clear hln;rcases h0:Wd.dH d 0 39 with _|_;{go_enter Tryz.func109,Tryz.ntmps109;go_wp2_with(first|(go_at_call 47;refine(aN _ _ _ _).mono ?_;rintro e w' ⟨rfl,aW⟩;subst w')|(go_at_call 128;refine(aR _ _).mono ?_;rintro e w' ⟨rfl,aW⟩;subst w')|(go_at_call 56;refine(aG _ _).mono ?_;rintro e w' ⟨rfl,aW⟩;subst w'));go_ret;exact⟨by simp[Ln.asks,Ln.bx,Ln.q0,h0],hB⟩};rcases h1:Wd.dH a 0 39 with _|_;{go_enter Tryz.func109,Tryz.ntmps109;go_wp2_with(first|(go_at_call 47;refine(aN _ _ _ _).mono ?_;rintro e w' ⟨rfl,aW⟩;subst w')|(go_at_call 128;refine(aR _ _).mono ?_;rintro e w' ⟨rfl,aW⟩;subst w')|(go_at_call 56;refine(aG _ _).mono ?_;rintro e w' ⟨rfl,aW⟩;subst w'));go_ret;exact⟨by simp[Ln.asks,Ln.bx,Ln.q0,h0,h1],hB⟩};by_cases h2:b=0;rotate_left;{have Rn:(b==0)=false:=by{simpa using h2};go_enter Tryz.func109,Tryz.ntmps109;go_wp2_with(first|(go_at_call 47;refine(aN _ _ _ _).mono ?_;rintro e w' ⟨rfl,aW⟩;subst w')|(go_at_call 128;refine(aR _ _).mono ?_;rintro e w' ⟨rfl,aW⟩;subst w')|(go_at_call 56;refine(aG _ _).mono ?_;rintro e w' ⟨rfl,aW⟩;subst w'));go_ret;exact⟨by simp[Ln.asks,Ln.bx,Ln.q0,h0,h1,h2],hB⟩};subst h2;by_cases h3:n=0;rotate_left;{have UH:(n==0)=false:=by{simpa using h3};go_enter Tryz.func109,Tryz.ntmps109;go_wp2_with(first|(go_at_call 47;refine(aN _ _ _ _).mono ?_;rintro e w' ⟨rfl,aW⟩;subst w')|(go_at_call 128;refine(aR _ _).mono ?_;rintro e w' ⟨rfl,aW⟩;subst w')|(go_at_call 56;refine(aG _ _).mono ?_;rintro e w' ⟨rfl,aW⟩;subst w'));go_ret;exact⟨by simp[Ln.asks,Ln.bx,Ln.q0,h0,h1,h3],hB⟩};subst h3;go_enter Tryz.func109,Tryz.ntmps109;go_wp2_with(first|(go_at_call 47;refine(aN _ _ _ _).mono ?_;rintro e w' ⟨rfl,aW⟩;subst w')|(go_at_call 128;refine(aR _ _).mono ?_;rintro e w' ⟨rfl,aW⟩;subst w')|(go_at_call 56;refine(aG _ _).mono ?_;rintro e w' ⟨rfl,aW⟩;subst w'));go_ret;exact⟨by simp[Ln.asks,Ln.bx,Ln.q0,h0,h1],hB⟩
theorem xP (d a b n:Int)(l:List Int)(la:Option Addr)(ln lc:Nat)(w:World)(hln:l.length=ln)(hl0:ln=0):Calls Tryz.prog 109 #[.agg #[.int .i64 3, .int .i64 d, .int .i64 a, .int .i64 b, .int .i64 n, .slice la ln lc]] w fun e w'=>e= .returned (.bool (Ln.ok ⟨3,d,a,b,n,l⟩))/\Below w.heap.size w w':=by subst hl0;have hB:=aB w (.cells #[.int .i64 3, .int .i64 d, .int .i64 a, .int .i64 b, .int .i64 n, .slice la 0 lc] 109);rw[Ln.mr hln];clear hln;rcases h0:Wd.dH d 0 39 with _|_;{go_enter Tryz.func109,Tryz.ntmps109;go_wp2_with(first|(go_at_call 47;refine(aN _ _ _ _).mono ?_;rintro e w' ⟨rfl,aW⟩;subst w')|(go_at_call 128;refine(aR _ _).mono ?_;rintro e w' ⟨rfl,aW⟩;subst w')|(go_at_call 56;refine(aG _ _).mono ?_;rintro e w' ⟨rfl,aW⟩;subst w'));go_ret;exact⟨by simp[Ln.asks,Ln.bx,h0],hB⟩};rcases h1:Wd.dH a 0 39 with _|_;{go_enter Tryz.func109,Tryz.ntmps109;go_wp2_with(first|(go_at_call 47;refine(aN _ _ _ _).mono ?_;rintro e w' ⟨rfl,aW⟩;subst w')|(go_at_call 128;refine(aR _ _).mono ?_;rintro e w' ⟨rfl,aW⟩;subst w')|(go_at_call 56;refine(aG _ _).mono ?_;rintro e w' ⟨rfl,aW⟩;subst w'));go_ret;exact⟨by simp[Ln.asks,Ln.bx,h0,h1],hB⟩};rcases h2:Wd.dH b 0 39 with _|_;{go_enter Tryz.func109,Tryz.ntmps109;go_wp2_with(first|(go_at_call 47;refine(aN _ _ _ _).mono ?_;rintro e w' ⟨rfl,aW⟩;subst w')|(go_at_call 128;refine(aR _ _).mono ?_;rintro e w' ⟨rfl,aW⟩;subst w')|(go_at_call 56;refine(aG _ _).mono ?_;rintro e w' ⟨rfl,aW⟩;subst w'));go_ret;exact⟨by simp[Ln.asks,Ln.bx,h0,h1,h2],hB⟩};rcases h3:Wd.dH n 1 12 with _|_;{go_enter Tryz.func109,Tryz.ntmps109;go_wp2_with(first|(go_at_call 47;refine(aN _ _ _ _).mono ?_;rintro e w' ⟨rfl,aW⟩;subst w')|(go_at_call 128;refine(aR _ _).mono ?_;rintro e w' ⟨rfl,aW⟩;subst w')|(go_at_call 56;refine(aG _ _).mono ?_;rintro e w' ⟨rfl,aW⟩;subst w'));go_ret;exact⟨by simp[Ln.asks,Ln.bx,h0,h1,h2,h3],hB⟩};go_enter Tryz.func109,Tryz.ntmps109;go_wp2_with(first|(go_at_call 47;refine(aN _ _ _ _).mono ?_;rintro e w' ⟨rfl,aW⟩;subst w')|(go_at_call 128;refine(aR _ _).mono ?_;rintro e w' ⟨rfl,aW⟩;subst w')|(go_at_call 56;refine(aG _ _).mono ?_;rintro e w' ⟨rfl,aW⟩;subst w'));go_ret;exact⟨by simp[Ln.asks,Ln.bx,h0,h1,h2,h3],hB⟩
theorem xM (d a b n:Int)(l:List Int)(la:Option Addr)(ln lc:Nat)(w:World)(hln:l.length=ln)(hl0:ln=0):Calls Tryz.prog 109 #[.agg #[.int .i64 5, .int .i64 d, .int .i64 a, .int .i64 b, .int .i64 n, .slice la ln lc]] w fun e w'=>e= .returned (.bool (Ln.ok ⟨5,d,a,b,n,l⟩))/\Below w.heap.size w w':=by subst hl0;have hB:=aB w (.cells #[.int .i64 5, .int .i64 d, .int .i64 a, .int .i64 b, .int .i64 n, .slice la 0 lc] 109);rw[Ln.mr hln];clear hln;rcases h0:Wd.dH n 0 299 with _|_;{go_enter Tryz.func109,Tryz.ntmps109;go_wp2_with(first|(go_at_call 47;refine(aN _ _ _ _).mono ?_;rintro e w' ⟨rfl,aW⟩;subst w')|(go_at_call 128;refine(aR _ _).mono ?_;rintro e w' ⟨rfl,aW⟩;subst w')|(go_at_call 56;refine(aG _ _).mono ?_;rintro e w' ⟨rfl,aW⟩;subst w'));go_ret;exact⟨by simp[Ln.asks,Ln.q0,h0],hB⟩};by_cases h1:d=0;rotate_left;{have h1q:(d==0)=false:=by{simpa using h1};go_enter Tryz.func109,Tryz.ntmps109;go_wp2_with(first|(go_at_call 47;refine(aN _ _ _ _).mono ?_;rintro e w' ⟨rfl,aW⟩;subst w')|(go_at_call 128;refine(aR _ _).mono ?_;rintro e w' ⟨rfl,aW⟩;subst w')|(go_at_call 56;refine(aG _ _).mono ?_;rintro e w' ⟨rfl,aW⟩;subst w'));go_ret;exact⟨by simp[Ln.asks,Ln.q0,h0,h1],hB⟩};subst h1;by_cases h2:a=0;rotate_left;{have Rn:(a==0)=false:=by{simpa using h2};go_enter Tryz.func109,Tryz.ntmps109;go_wp2_with(first|(go_at_call 47;refine(aN _ _ _ _).mono ?_;rintro e w' ⟨rfl,aW⟩;subst w')|(go_at_call 128;refine(aR _ _).mono ?_;rintro e w' ⟨rfl,aW⟩;subst w')|(go_at_call 56;refine(aG _ _).mono ?_;rintro e w' ⟨rfl,aW⟩;subst w'));go_ret;exact⟨by simp[Ln.asks,Ln.q0,h0,h2],hB⟩};subst h2;by_cases h3:b=0;rotate_left;{have UH:(b==0)=false:=by{simpa using h3};go_enter Tryz.func109,Tryz.ntmps109;go_wp2_with(first|(go_at_call 47;refine(aN _ _ _ _).mono ?_;rintro e w' ⟨rfl,aW⟩;subst w')|(go_at_call 128;refine(aR _ _).mono ?_;rintro e w' ⟨rfl,aW⟩;subst w')|(go_at_call 56;refine(aG _ _).mono ?_;rintro e w' ⟨rfl,aW⟩;subst w'));go_ret;exact⟨by simp[Ln.asks,Ln.q0,h0,h3],hB⟩};subst h3;go_enter Tryz.func109,Tryz.ntmps109;go_wp2_with(first|(go_at_call 47;refine(aN _ _ _ _).mono ?_;rintro e w' ⟨rfl,aW⟩;subst w')|(go_at_call 128;refine(aR _ _).mono ?_;rintro e w' ⟨rfl,aW⟩;subst w')|(go_at_call 56;refine(aG _ _).mono ?_;rintro e w' ⟨rfl,aW⟩;subst w'));go_ret;exact⟨by simp[Ln.asks,Ln.q0,h0],hB⟩
theorem yh (d a b n:Int)(l:List Int)(la:Option Addr)(ln lc:Nat)(w:World)(hln:l.length=ln)(hl0:ln=0):Calls Tryz.prog 109 #[.agg #[.int .i64 6, .int .i64 d, .int .i64 a, .int .i64 b, .int .i64 n, .slice la ln lc]] w fun e w'=>e= .returned (.bool (Ln.ok ⟨6,d,a,b,n,l⟩))/\Below w.heap.size w w':=by subst hl0;have hB:=aB w (.cells #[.int .i64 6, .int .i64 d, .int .i64 a, .int .i64 b, .int .i64 n, .slice la 0 lc] 109);rw[Ln.mr hln];clear hln;rcases h0:Wd.dH n 0 299 with _|_;{go_enter Tryz.func109,Tryz.ntmps109;go_wp2_with(first|(go_at_call 47;refine(aN _ _ _ _).mono ?_;rintro e w' ⟨rfl,aW⟩;subst w')|(go_at_call 128;refine(aR _ _).mono ?_;rintro e w' ⟨rfl,aW⟩;subst w')|(go_at_call 56;refine(aG _ _).mono ?_;rintro e w' ⟨rfl,aW⟩;subst w'));go_ret;exact⟨by simp[Ln.asks,Ln.bx,Ln.q0,h0],hB⟩};rcases h1:Wd.dH a 0 39 with _|_;{go_enter Tryz.func109,Tryz.ntmps109;go_wp2_with(first|(go_at_call 47;refine(aN _ _ _ _).mono ?_;rintro e w' ⟨rfl,aW⟩;subst w')|(go_at_call 128;refine(aR _ _).mono ?_;rintro e w' ⟨rfl,aW⟩;subst w')|(go_at_call 56;refine(aG _ _).mono ?_;rintro e w' ⟨rfl,aW⟩;subst w'));go_ret;exact⟨by simp[Ln.asks,Ln.bx,Ln.q0,h0,h1],hB⟩};by_cases h2:d=0;rotate_left;{have Rn:(d==0)=false:=by{simpa using h2};go_enter Tryz.func109,Tryz.ntmps109;go_wp2_with(first|(go_at_call 47;refine(aN _ _ _ _).mono ?_;rintro e w' ⟨rfl,aW⟩;subst w')|(go_at_call 128;refine(aR _ _).mono ?_;rintro e w' ⟨rfl,aW⟩;subst w')|(go_at_call 56;refine(aG _ _).mono ?_;rintro e w' ⟨rfl,aW⟩;subst w'));go_ret;exact⟨by simp[Ln.asks,Ln.bx,Ln.q0,h0,h1,h2],hB⟩};subst h2;by_cases h3:b=0;rotate_left;{have UH:(b==0)=false:=by{simpa using h3};go_enter Tryz.func109,Tryz.ntmps109;go_wp2_with(first|(go_at_call 47;refine(aN _ _ _ _).mono ?_;rintro e w' ⟨rfl,aW⟩;subst w')|(go_at_call 128;refine(aR _ _).mono ?_;rintro e w' ⟨rfl,aW⟩;subst w')|(go_at_call 56;refine(aG _ _).mono ?_;rintro e w' ⟨rfl,aW⟩;subst w'));go_ret;exact⟨by simp[Ln.asks,Ln.bx,Ln.q0,h0,h1,h3],hB⟩};subst h3;go_enter Tryz.func109,Tryz.ntmps109;go_wp2_with(first|(go_at_call 47;refine(aN _ _ _ _).mono ?_;rintro e w' ⟨rfl,aW⟩;subst w')|(go_at_call 128;refine(aR _ _).mono ?_;rintro e w' ⟨rfl,aW⟩;subst w')|(go_at_call 56;refine(aG _ _).mono ?_;rintro e w' ⟨rfl,aW⟩;subst w'));go_ret;exact⟨by simp[Ln.asks,Ln.bx,Ln.q0,h0,h1],hB⟩
theorem wS (d a b n:Int)(l:List Int)(la:Option Addr)(ln lc:Nat)(w:World)(hln:l.length=ln)(hl0:ln=0):Calls Tryz.prog 109 #[.agg #[.int .i64 8, .int .i64 d, .int .i64 a, .int .i64 b, .int .i64 n, .slice la ln lc]] w fun e w'=>e= .returned (.bool (Ln.ok ⟨8,d,a,b,n,l⟩))/\Below w.heap.size w w':=by subst hl0;have hB:=aB w (.cells #[.int .i64 8, .int .i64 d, .int .i64 a, .int .i64 b, .int .i64 n, .slice la 0 lc] 109);rw[Ln.mr hln];clear hln;rcases h0:Wd.dH d 0 39 with _|_;{go_enter Tryz.func109,Tryz.ntmps109;go_wp2_with(first|(go_at_call 47;refine(aN _ _ _ _).mono ?_;rintro e w' ⟨rfl,aW⟩;subst w')|(go_at_call 128;refine(aR _ _).mono ?_;rintro e w' ⟨rfl,aW⟩;subst w')|(go_at_call 56;refine(aG _ _).mono ?_;rintro e w' ⟨rfl,aW⟩;subst w'));go_ret;exact⟨by simp[Ln.asks,Ln.bx,Ln.q0,h0],hB⟩};rcases h1:Wd.dH a 0 39 with _|_;{go_enter Tryz.func109,Tryz.ntmps109;go_wp2_with(first|(go_at_call 47;refine(aN _ _ _ _).mono ?_;rintro e w' ⟨rfl,aW⟩;subst w')|(go_at_call 128;refine(aR _ _).mono ?_;rintro e w' ⟨rfl,aW⟩;subst w')|(go_at_call 56;refine(aG _ _).mono ?_;rintro e w' ⟨rfl,aW⟩;subst w'));go_ret;exact⟨by simp[Ln.asks,Ln.bx,Ln.q0,h0,h1],hB⟩};by_cases h2:b=0;rotate_left;{have Rn:(b==0)=false:=by{simpa using h2};go_enter Tryz.func109,Tryz.ntmps109;go_wp2_with(first|(go_at_call 47;refine(aN _ _ _ _).mono ?_;rintro e w' ⟨rfl,aW⟩;subst w')|(go_at_call 128;refine(aR _ _).mono ?_;rintro e w' ⟨rfl,aW⟩;subst w')|(go_at_call 56;refine(aG _ _).mono ?_;rintro e w' ⟨rfl,aW⟩;subst w'));go_ret;exact⟨by simp[Ln.asks,Ln.bx,Ln.q0,h0,h1,h2],hB⟩};subst h2;rcases h3:Wd.dH n 0 255 with _|_;{go_enter Tryz.func109,Tryz.ntmps109;go_wp2_with(first|(go_at_call 47;refine(aN _ _ _ _).mono ?_;rintro e w' ⟨rfl,aW⟩;subst w')|(go_at_call 128;refine(aR _ _).mono ?_;rintro e w' ⟨rfl,aW⟩;subst w')|(go_at_call 56;refine(aG _ _).mono ?_;rintro e w' ⟨rfl,aW⟩;subst w'));go_ret;exact⟨by simp[Ln.asks,Ln.bx,Ln.q0,h0,h1,h3],hB⟩};go_enter Tryz.func109,Tryz.ntmps109;go_wp2_with(first|(go_at_call 47;refine(aN _ _ _ _).mono ?_;rintro e w' ⟨rfl,aW⟩;subst w')|(go_at_call 128;refine(aR _ _).mono ?_;rintro e w' ⟨rfl,aW⟩;subst w')|(go_at_call 56;refine(aG _ _).mono ?_;rintro e w' ⟨rfl,aW⟩;subst w'));go_ret;exact⟨by simp[Ln.asks,Ln.bx,Ln.q0,h0,h1,h3],hB⟩
theorem wU (d a b n:Int)(l:List Int)(la:Option Addr)(ln lc:Nat)(w:World)(hln:l.length=ln)(hl0:ln=0):Calls Tryz.prog 109 #[.agg #[.int .i64 9, .int .i64 d, .int .i64 a, .int .i64 b, .int .i64 n, .slice la ln lc]] w fun e w'=>e= .returned (.bool (Ln.ok ⟨9,d,a,b,n,l⟩))/\Below w.heap.size w w':=by subst hl0;have hB:=aB w (.cells #[.int .i64 9, .int .i64 d, .int .i64 a, .int .i64 b, .int .i64 n, .slice la 0 lc] 109);rw[Ln.mr hln];clear hln;by_cases h0:d=0;rotate_left;{have h0q:(d==0)=false:=by{simpa using h0};go_enter Tryz.func109,Tryz.ntmps109;go_wp2_with(first|(go_at_call 47;refine(aN _ _ _ _).mono ?_;rintro e w' ⟨rfl,aW⟩;subst w')|(go_at_call 128;refine(aR _ _).mono ?_;rintro e w' ⟨rfl,aW⟩;subst w')|(go_at_call 56;refine(aG _ _).mono ?_;rintro e w' ⟨rfl,aW⟩;subst w'));go_ret;exact⟨by simp[Ln.asks,Ln.bx,Ln.q0,h0],hB⟩};subst h0;rcases h1:Wd.dH a 0 39 with _|_;{go_enter Tryz.func109,Tryz.ntmps109;go_wp2_with(first|(go_at_call 47;refine(aN _ _ _ _).mono ?_;rintro e w' ⟨rfl,aW⟩;subst w')|(go_at_call 128;refine(aR _ _).mono ?_;rintro e w' ⟨rfl,aW⟩;subst w')|(go_at_call 56;refine(aG _ _).mono ?_;rintro e w' ⟨rfl,aW⟩;subst w'));go_ret;exact⟨by simp[Ln.asks,Ln.bx,Ln.q0,h1],hB⟩};rcases h2:Wd.dH b 0 39 with _|_;{go_enter Tryz.func109,Tryz.ntmps109;go_wp2_with(first|(go_at_call 47;refine(aN _ _ _ _).mono ?_;rintro e w' ⟨rfl,aW⟩;subst w')|(go_at_call 128;refine(aR _ _).mono ?_;rintro e w' ⟨rfl,aW⟩;subst w')|(go_at_call 56;refine(aG _ _).mono ?_;rintro e w' ⟨rfl,aW⟩;subst w'));go_ret;exact⟨by simp[Ln.asks,Ln.bx,Ln.q0,h1,h2],hB⟩};rcases h3:Wd.dH n 0 255 with _|_;{go_enter Tryz.func109,Tryz.ntmps109;go_wp2_with(first|(go_at_call 47;refine(aN _ _ _ _).mono ?_;rintro e w' ⟨rfl,aW⟩;subst w')|(go_at_call 128;refine(aR _ _).mono ?_;rintro e w' ⟨rfl,aW⟩;subst w')|(go_at_call 56;refine(aG _ _).mono ?_;rintro e w' ⟨rfl,aW⟩;subst w'));go_ret;exact⟨by simp[Ln.asks,Ln.bx,Ln.q0,h1,h2,h3],hB⟩};go_enter Tryz.func109,Tryz.ntmps109;go_wp2_with(first|(go_at_call 47;refine(aN _ _ _ _).mono ?_;rintro e w' ⟨rfl,aW⟩;subst w')|(go_at_call 128;refine(aR _ _).mono ?_;rintro e w' ⟨rfl,aW⟩;subst w')|(go_at_call 56;refine(aG _ _).mono ?_;rintro e w' ⟨rfl,aW⟩;subst w'));go_ret;exact⟨by simp[Ln.asks,Ln.bx,Ln.q0,h1,h2,h3],hB⟩
theorem uQ (d a b n:Int)(l:List Int)(la:Option Addr)(ln lc:Nat)(w:World)(hln:l.length=ln)(hl0:ln=0):Calls Tryz.prog 109 #[.agg #[.int .i64 10, .int .i64 d, .int .i64 a, .int .i64 b, .int .i64 n, .slice la ln lc]] w fun e w'=>e= .returned (.bool (Ln.ok ⟨10,d,a,b,n,l⟩))/\Below w.heap.size w w':=by subst hl0;have hB:=aB w (.cells #[.int .i64 10, .int .i64 d, .int .i64 a, .int .i64 b, .int .i64 n, .slice la 0 lc] 109);rw[Ln.mr hln];clear hln;rcases h0:Wd.dH a 0 39 with _|_;{go_enter Tryz.func109,Tryz.ntmps109;go_wp2_with(first|(go_at_call 47;refine(aN _ _ _ _).mono ?_;rintro e w' ⟨rfl,aW⟩;subst w')|(go_at_call 128;refine(aR _ _).mono ?_;rintro e w' ⟨rfl,aW⟩;subst w')|(go_at_call 56;refine(aG _ _).mono ?_;rintro e w' ⟨rfl,aW⟩;subst w'));go_ret;exact⟨by simp[Ln.asks,Ln.bx,Ln.q0,h0],hB⟩};by_cases h1:d=0;rotate_left;{have h1q:(d==0)=false:=by{simpa using h1};go_enter Tryz.func109,Tryz.ntmps109;go_wp2_with(first|(go_at_call 47;refine(aN _ _ _ _).mono ?_;rintro e w' ⟨rfl,aW⟩;subst w')|(go_at_call 128;refine(aR _ _).mono ?_;rintro e w' ⟨rfl,aW⟩;subst w')|(go_at_call 56;refine(aG _ _).mono ?_;rintro e w' ⟨rfl,aW⟩;subst w'));go_ret;exact⟨by simp[Ln.asks,Ln.bx,Ln.q0,h0,h1],hB⟩};subst h1;by_cases h2:b=0;rotate_left;{have Rn:(b==0)=false:=by{simpa using h2};go_enter Tryz.func109,Tryz.ntmps109;go_wp2_with(first|(go_at_call 47;refine(aN _ _ _ _).mono ?_;rintro e w' ⟨rfl,aW⟩;subst w')|(go_at_call 128;refine(aR _ _).mono ?_;rintro e w' ⟨rfl,aW⟩;subst w')|(go_at_call 56;refine(aG _ _).mono ?_;rintro e w' ⟨rfl,aW⟩;subst w'));go_ret;exact⟨by simp[Ln.asks,Ln.bx,Ln.q0,h0,h2],hB⟩};subst h2;by_cases h3:n=0;rotate_left;{have UH:(n==0)=false:=by{simpa using h3};go_enter Tryz.func109,Tryz.ntmps109;go_wp2_with(first|(go_at_call 47;refine(aN _ _ _ _).mono ?_;rintro e w' ⟨rfl,aW⟩;subst w')|(go_at_call 128;refine(aR _ _).mono ?_;rintro e w' ⟨rfl,aW⟩;subst w')|(go_at_call 56;refine(aG _ _).mono ?_;rintro e w' ⟨rfl,aW⟩;subst w'));go_ret;exact⟨by simp[Ln.asks,Ln.bx,Ln.q0,h0,h3],hB⟩};subst h3;go_enter Tryz.func109,Tryz.ntmps109;go_wp2_with(first|(go_at_call 47;refine(aN _ _ _ _).mono ?_;rintro e w' ⟨rfl,aW⟩;subst w')|(go_at_call 128;refine(aR _ _).mono ?_;rintro e w' ⟨rfl,aW⟩;subst w')|(go_at_call 56;refine(aG _ _).mono ?_;rintro e w' ⟨rfl,aW⟩;subst w'));go_ret;exact⟨by simp[Ln.asks,Ln.bx,Ln.q0,h0],hB⟩
theorem uW (d a b n:Int)(l:List Int)(la:Option Addr)(ln lc:Nat)(w:World)(hln:l.length=ln)(hl0:ln=0):Calls Tryz.prog 109 #[.agg #[.int .i64 11, .int .i64 d, .int .i64 a, .int .i64 b, .int .i64 n, .slice la ln lc]] w fun e w'=>e= .returned (.bool (Ln.ok ⟨11,d,a,b,n,l⟩))/\Below w.heap.size w w':=by subst hl0;have hB:=aB w (.cells #[.int .i64 11, .int .i64 d, .int .i64 a, .int .i64 b, .int .i64 n, .slice la 0 lc] 109);rw[Ln.mr hln];clear hln;by_cases h0:d=0;rotate_left;{have h0q:(d==0)=false:=by{simpa using h0};go_enter Tryz.func109,Tryz.ntmps109;go_wp2_with(first|(go_at_call 47;refine(aN _ _ _ _).mono ?_;rintro e w' ⟨rfl,aW⟩;subst w')|(go_at_call 128;refine(aR _ _).mono ?_;rintro e w' ⟨rfl,aW⟩;subst w')|(go_at_call 56;refine(aG _ _).mono ?_;rintro e w' ⟨rfl,aW⟩;subst w'));go_ret;exact⟨by simp[Ln.asks,Ln.q0,h0],hB⟩};subst h0;by_cases h1:a=0;rotate_left;{have h1q:(a==0)=false:=by{simpa using h1};go_enter Tryz.func109,Tryz.ntmps109;go_wp2_with(first|(go_at_call 47;refine(aN _ _ _ _).mono ?_;rintro e w' ⟨rfl,aW⟩;subst w')|(go_at_call 128;refine(aR _ _).mono ?_;rintro e w' ⟨rfl,aW⟩;subst w')|(go_at_call 56;refine(aG _ _).mono ?_;rintro e w' ⟨rfl,aW⟩;subst w'));go_ret;exact⟨by simp[Ln.asks,Ln.q0,h1],hB⟩};subst h1;by_cases h2:b=0;rotate_left;{have Rn:(b==0)=false:=by{simpa using h2};go_enter Tryz.func109,Tryz.ntmps109;go_wp2_with(first|(go_at_call 47;refine(aN _ _ _ _).mono ?_;rintro e w' ⟨rfl,aW⟩;subst w')|(go_at_call 128;refine(aR _ _).mono ?_;rintro e w' ⟨rfl,aW⟩;subst w')|(go_at_call 56;refine(aG _ _).mono ?_;rintro e w' ⟨rfl,aW⟩;subst w'));go_ret;exact⟨by simp[Ln.asks,Ln.q0,h2],hB⟩};subst h2;by_cases h3:n=0;rotate_left;{have UH:(n==0)=false:=by{simpa using h3};go_enter Tryz.func109,Tryz.ntmps109;go_wp2_with(first|(go_at_call 47;refine(aN _ _ _ _).mono ?_;rintro e w' ⟨rfl,aW⟩;subst w')|(go_at_call 128;refine(aR _ _).mono ?_;rintro e w' ⟨rfl,aW⟩;subst w')|(go_at_call 56;refine(aG _ _).mono ?_;rintro e w' ⟨rfl,aW⟩;subst w'));go_ret;exact⟨by simp[Ln.asks,Ln.q0,h3],hB⟩};subst h3;go_enter Tryz.func109,Tryz.ntmps109;go_wp2_with(first|(go_at_call 47;refine(aN _ _ _ _).mono ?_;rintro e w' ⟨rfl,aW⟩;subst w')|(go_at_call 128;refine(aR _ _).mono ?_;rintro e w' ⟨rfl,aW⟩;subst w')|(go_at_call 56;refine(aG _ _).mono ?_;rintro e w' ⟨rfl,aW⟩;subst w'));go_ret;exact⟨by simp[Ln.asks,Ln.q0],hB⟩
theorem xO (k d a b n:Int)(l:List Int)(la:Option Addr)(ln lc:Nat)(w:World)(hln:l.length=ln)(hl0:ln=0)(k1:(k==1)=false)(k2:(k==2)=false)(k3:(k==3)=false)(k4:(k==4)=false)(k5:(k==5)=false)(k6:(k==6)=false)(k7:(k==7)=false)(k8:(k==8)=false)(k9:(k==9)=false)(k10:(k==10)=false)(k11:(k==11)=false):Calls Tryz.prog 109 #[.agg #[.int .i64 k, .int .i64 d, .int .i64 a, .int .i64 b, .int .i64 n, .slice la ln lc]] w fun e w'=>e= .returned (.bool (Ln.ok ⟨k,d,a,b,n,l⟩))/\Below w.heap.size w w':=by subst hl0;have hB:=aB w (.cells #[.int .i64 k, .int .i64 d, .int .i64 a, .int .i64 b, .int .i64 n, .slice la 0 lc] 109);rw[Ln.mr hln];have hN:(Ln.asks k d a b n l).all id=false:=by{simp only[beq_eq_false_iff_ne,ne_eq]at k1 k2 k3 k4 k5 k6 k7 k8 k9 k10 k11;simp[Ln.asks,k1,k2,k3,k4,k5,k6,k7,k8,k9,k10,k11]};rw[hN];have k7n:¬(k=7):=by{simpa using k7};clear hln hN;go_enter Tryz.func109,Tryz.ntmps109;go_wp2_with(first|(go_at_call 47;refine(aN _ _ _ _).mono ?_;rintro e w' ⟨rfl,aW⟩;subst w')|(go_at_call 128;refine(aR _ _).mono ?_;rintro e w' ⟨rfl,aW⟩;subst w')|(go_at_call 56;refine(aG _ _).mono ?_;rintro e w' ⟨rfl,aW⟩;subst w'));go_ret;exact⟨rfl,hB⟩
theorem xE (k d a b n:Int)(l:List Int)(la:Option Addr)(ln lc:Nat)(w:World)(hln:l.length=ln)(hl0:0<ln)(h7:k≠7):Calls Tryz.prog 109 #[.agg #[.int .i64 k, .int .i64 d, .int .i64 a, .int .i64 b, .int .i64 n, .slice la ln lc]] w fun e w'=>e= .returned (.bool (Ln.ok ⟨k,d,a,b,n,l⟩))/\Below w.heap.size w w':=by have hB:=aB w (.cells #[.int .i64 k, .int .i64 d, .int .i64 a, .int .i64 b, .int .i64 n, .slice la ln lc] 109);rw[Ln.Vn h7 (by omega)];have h7q:(k==7)=false:=by{simpa using h7};have h7n:¬(k=7):=h7;have ag8:(0:Int)<(ln:Int):=by{omega};clear hln;go_enter Tryz.func109,Tryz.ntmps109;go_wp2_with(first|(go_at_call 47;refine(aN _ _ _ _).mono ?_;rintro e w' ⟨rfl,aW⟩;subst w')|(go_at_call 128;refine(aR _ _).mono ?_;rintro e w' ⟨rfl,aW⟩;subst w')|(go_at_call 56;refine(aG _ _).mono ?_;rintro e w' ⟨rfl,aW⟩;subst w'));go_ret;exact⟨rfl,hB⟩
theorem H8 {l:List Int}{i:Nat}(h:(l.take i).all Ln.bx=true)(hi:i<l.length):(l.take (i+1)).all Ln.bx=Ln.bx (l.getD i 0):=by rw[List.take_add_one,ai hi,List.all_append,h,ah,ai hi];simp
theorem O9 {l:List Int}{i:Nat}(hi:i<l.length)(h:Ln.bx (l.getD i 0)=false):l.all Ln.bx=false:=by rw[List.all_eq_false];refine⟨l.getD i 0,?_,by rw[h];decide⟩;rw[ah,ai hi];exact List.getElem_mem hi
theorem wD (d a b n:Int)(l:List Int)(la:Option Addr)(ln lc:Nat)(w:World)(hs:IL w la ln l):Calls Tryz.prog 109 #[.agg #[.int .i64 7, .int .i64 d, .int .i64 a, .int .i64 b, .int .i64 n, .slice la ln lc]] w fun e w'=>e= .returned (.bool (Ln.ok ⟨7,d,a,b,n,l⟩))/\Below w.heap.size w w':=by have hB:=aB w (.cells #[.int .i64 7, .int .i64 d, .int .i64 a, .int .i64 b, .int .i64 n, .slice la ln lc] 109);obtain⟨hl,hm,hrow⟩:=hs.kept hB;rw[Ln.Pe];have HL:=ae hl;clear hl;unfold maxLen at hm;obtain⟨R,hR⟩:∃R,(Ln.asks 7 d a b n l).all id=R:=⟨_,rfl⟩;rw[hR];have HR:Hid (R=(l.all Ln.bx&&(decide (ln<=3)&&(Wd.dH d 0 39&&(decide (a=0)&&(decide (b=0)&&Wd.dH n 0 3)))))):=by{show _=_;rw[←hR,←HL.out];simp[Ln.asks,Ln.bx,Ln.q0]};clear hR;go_enter Tryz.func109,Tryz.ntmps109;go_wp2_with(first|(go_at_call 47;refine(aN _ _ _ _).mono ?_;rintro e w' ⟨rfl,aW⟩;subst w')|(go_at_call 128;refine(aR _ _).mono ?_;rintro e w' ⟨rfl,aW⟩;subst w')|(go_at_call 56;refine(aG _ _).mono ?_;rintro e w' ⟨rfl,aW⟩;subst w'));go_loopw [4] (fun i wr=>∃k:Nat,i= .int .i64 k/\k<=ln/\Hid ((l.take k).all Ln.bx=true)/\wr=w.alloc (.cells #[.int .i64 7, .int .i64 d, .int .i64 a, .int .i64 b, .int .i64 n, .slice la ln lc] 109)) (fun i _=>ln-(intOf i).toNat);(case atStart=>exact⟨0,rfl,Nat.zero_le _,(by show _=_;simp),rfl⟩);case round=>obtain⟨i,rfl,hi,HA,rfl⟩:=hrel;by_cases hlt:i<ln;{have fI:(i:Int)<(ln:Int):=by{omega};rcases hrow with h0|⟨lb,lo,rfl,hlb,hx⟩;{omega};obtain⟨y,hy⟩:∃y,l.getD i 0=y:=⟨_,rfl⟩;have hx3:=hx i hlt;rw[hy]at hx3;rcases hb:Wd.dH y 0 39 with _|_;{have HF:Hid (R=false):=by{show _=_;rw[HR.out,O9 (by rw[HL.out];exact hlt) (by rw[hy];exact hb)];rfl};clear hx hy;go_wp2_with(first|(go_at_call 47;refine(aN _ _ _ _).mono ?_;rintro e w' ⟨rfl,aW⟩;subst w')|(go_at_call 128;refine(aR _ _).mono ?_;rintro e w' ⟨rfl,aW⟩;subst w')|(go_at_call 56;refine(aG _ _).mono ?_;rintro e w' ⟨rfl,aW⟩;subst w'));go_ret;exact⟨by rw[HF.out]<;>rfl,hB⟩};have HA2:Hid ((l.take (i+1)).all Ln.bx=true):=by{show _=_;rw[H8 HA.out (by rw[HL.out];exact hlt),hy];exact hb};clear hx hy;go_wp2_with(first|(go_at_call 47;refine(aN _ _ _ _).mono ?_;rintro e w' ⟨rfl,aW⟩;subst w')|(go_at_call 128;refine(aR _ _).mono ?_;rintro e w' ⟨rfl,aW⟩;subst w')|(go_at_call 56;refine(aG _ _).mono ?_;rintro e w' ⟨rfl,aW⟩;subst w'));go_roundw;(case rel=>exact⟨i+1,by simp,hlt,HA2,by simp⟩);case measure=>simp[intOf];omega};have hie:i=ln:=by{omega};have HA2:Hid (l.all Ln.bx=true):=by{show _=_;have:=HA.out;rwa [hie,←HL.out,List.take_length]at this};clear hrow HA;subst hie;have fI:¬(i:Int)<(i:Int):=by{omega};rcases h3:decide (i<=3)with _|_;{have h3':¬((i:Int)<=3):=by{simp only[decide_eq_false_iff_not]at h3;omega};have HF:Hid (R=false):=by{show _=_;rw[HR.out,HA2.out,h3];rfl};go_wp2_with(first|(go_at_call 47;refine(aN _ _ _ _).mono ?_;rintro e w' ⟨rfl,aW⟩;subst w')|(go_at_call 128;refine(aR _ _).mono ?_;rintro e w' ⟨rfl,aW⟩;subst w')|(go_at_call 56;refine(aG _ _).mono ?_;rintro e w' ⟨rfl,aW⟩;subst w'));go_ret;exact⟨by rw[HF.out]<;>rfl,hB⟩};have h3':(i:Int)<=3:=by{simp only[decide_eq_true_eq]at h3;omega};have HR2:Hid (R=(Wd.dH d 0 39&&(decide (a=0)&&(decide (b=0)&&Wd.dH n 0 3)))):=by{show _=_;rw[HR.out,HA2.out,h3,Bool.true_and,Bool.true_and]};clear HR HA2 h3;rcases h0:Wd.dH d 0 39 with _|_;{have HF:Hid (R=false):=by{show _=_;rw[HR2.out];simp[h0]};go_wp2_with(first|(go_at_call 47;refine(aN _ _ _ _).mono ?_;rintro e w' ⟨rfl,aW⟩;subst w')|(go_at_call 128;refine(aR _ _).mono ?_;rintro e w' ⟨rfl,aW⟩;subst w')|(go_at_call 56;refine(aG _ _).mono ?_;rintro e w' ⟨rfl,aW⟩;subst w'));go_ret;exact⟨by rw[HF.out]<;>rfl,hB⟩};by_cases h1:a=0;rotate_left;{have h1q:(a==0)=false:=by{simpa using h1};have HF:Hid (R=false):=by{show _=_;rw[HR2.out];simp[h0,h1]};go_wp2_with(first|(go_at_call 47;refine(aN _ _ _ _).mono ?_;rintro e w' ⟨rfl,aW⟩;subst w')|(go_at_call 128;refine(aR _ _).mono ?_;rintro e w' ⟨rfl,aW⟩;subst w')|(go_at_call 56;refine(aG _ _).mono ?_;rintro e w' ⟨rfl,aW⟩;subst w'));go_ret;exact⟨by rw[HF.out]<;>rfl,hB⟩};subst h1;by_cases h2:b=0;rotate_left;{have Rn:(b==0)=false:=by{simpa using h2};have HF:Hid (R=false):=by{show _=_;rw[HR2.out];simp[h0,h2]};go_wp2_with(first|(go_at_call 47;refine(aN _ _ _ _).mono ?_;rintro e w' ⟨rfl,aW⟩;subst w')|(go_at_call 128;refine(aR _ _).mono ?_;rintro e w' ⟨rfl,aW⟩;subst w')|(go_at_call 56;refine(aG _ _).mono ?_;rintro e w' ⟨rfl,aW⟩;subst w'));go_ret;exact⟨by rw[HF.out]<;>rfl,hB⟩};subst h2;rcases h3:Wd.dH n 0 3 with _|_;{have HF:Hid (R=false):=by{show _=_;rw[HR2.out];simp[h0,h3]};go_wp2_with(first|(go_at_call 47;refine(aN _ _ _ _).mono ?_;rintro e w' ⟨rfl,aW⟩;subst w')|(go_at_call 128;refine(aR _ _).mono ?_;rintro e w' ⟨rfl,aW⟩;subst w')|(go_at_call 56;refine(aG _ _).mono ?_;rintro e w' ⟨rfl,aW⟩;subst w'));go_ret;exact⟨by rw[HF.out]<;>rfl,hB⟩};have HF:Hid (R=true):=by{show _=_;rw[HR2.out];simp[h0,h3]};go_wp2_with(first|(go_at_call 47;refine(aN _ _ _ _).mono ?_;rintro e w' ⟨rfl,aW⟩;subst w')|(go_at_call 128;refine(aR _ _).mono ?_;rintro e w' ⟨rfl,aW⟩;subst w')|(go_at_call 56;refine(aG _ _).mono ?_;rintro e w' ⟨rfl,aW⟩;subst w'));go_ret;exact⟨by rw[HF.out]<;>rfl,hB⟩
theorem AJ (x:Ln)(la:Option Addr)(ln lc:Nat)(w:World)(hs:IL w la ln x.l):Calls Tryz.prog 109 #[.agg #[.int .i64 x.k, .int .i64 x.d, .int .i64 x.a, .int .i64 x.b, .int .i64 x.n, .slice la ln lc]] w fun e w'=>e= .returned (.bool (Ln.ok x))/\Below w.heap.size w w':=by obtain⟨k,d,a,b,n,l⟩:=x;simp only at hs ⊢;by_cases h7:k=7;{subst h7;exact wD d a b n l la ln lc w hs};have hl:=hs.1;by_cases hl0:0<ln;{exact xE k d a b n l la ln lc w hl hl0 h7};have hl0:ln=0:=by{omega};by_cases h1:k=1;{subst h1;exact wN d a b n l la ln lc w hl hl0};by_cases h2:k=2;{subst h2;exact wY d a b n l la ln lc w hl hl0};by_cases h4:k=4;{subst h4;exact yg d a b n l la ln lc w hl hl0};by_cases h3:k=3;{subst h3;exact xP d a b n l la ln lc w hl hl0};by_cases h5:k=5;{subst h5;exact xM d a b n l la ln lc w hl hl0};by_cases h6:k=6;{subst h6;exact yh d a b n l la ln lc w hl hl0};by_cases h8:k=8;{subst h8;exact wS d a b n l la ln lc w hl hl0};by_cases h9:k=9;{subst h9;exact wU d a b n l la ln lc w hl hl0};by_cases h10:k=10;{subst h10;exact uQ d a b n l la ln lc w hl hl0};by_cases h11:k=11;{subst h11;exact uW d a b n l la ln lc w hl hl0};exact xO k d a b n l la ln lc w hl hl0 (by simpa using h1) (by simpa using h2) (by simpa using h3) (by simpa using h4) (by simpa using h5) (by simpa using h6) (by simpa using h7) (by simpa using h8) (by simpa using h9) (by simpa using h10) (by simpa using h11)
def LC (w:World)(b o:Nat)(x:Ln):Prop:=
 w.cell? ⟨b,o,none⟩=some (.int .i64 x.k)/\w.cell? ⟨b,o+1,none⟩=some (.int .i64 x.d)/\w.cell? ⟨b,o+2,none⟩=some (.int .i64 x.a)/\w.cell? ⟨b,o+3,none⟩=some (.int .i64 x.b)/\w.cell? ⟨b,o+4,none⟩=some (.int .i64 x.n)/\
   ∃la ln lc,w.cell? ⟨b,o+5,none⟩=some (.slice la ln lc)/\IL w la ln x.l
theorem LC.kept {w w':World}{b o:Nat}{x:Ln}(h:LC w b o x)(hb:b<w.heap.size)(hB:Below w.heap.size w w'):LC w' b o x:=by obtain⟨c0,c1,c2,c3,c4,la,ln,lc,c5,hi⟩:=h;exact⟨(hB.cell (p:=⟨b,o,none⟩) hb).trans c0,(hB.cell (p:=⟨b,o+1,none⟩) hb).trans c1,(hB.cell (p:=⟨b,o+2,none⟩) hb).trans c2,(hB.cell (p:=⟨b,o+3,none⟩) hb).trans c3,(hB.cell (p:=⟨b,o+4,none⟩) hb).trans c4,la,ln,lc,(hB.cell (p:=⟨b,o+5,none⟩) hb).trans c5,hi.kept hB⟩
def LL (w:World)(a:Option Addr)(len:Nat)(ls:List Ln):Prop:=
 ls.length=len/\len<=maxLen/\(len=0\/∃b off,a=some ⟨b,off,none⟩/\b<w.heap.size/\∀j,j<len->LC w b (off+j*6) (ls.getD j .z))
theorem LL.kept {w w':World}{a:Option Addr}{len:Nat}{ls:List Ln}(h:LL w a len ls)(hB:Below w.heap.size w w'):LL w' a len ls:=by obtain⟨h1,h2,h3|⟨b,off,rfl,hb,hx⟩⟩:=h;{exact⟨h1,h2, .inl h3⟩};exact⟨h1,h2, .inr ⟨b,off,rfl,aj hb hB.size,fun j hj=>(hx j hj).kept hb hB⟩⟩
namespace Ln
theorem sD {m:Nat}{ls:List Ln}{i:Nat}(h:(ls.take i).all (jC m)=true)(hi:i<ls.length):(ls.take (i+1)).all (jC m)=jC m (ls.getD i z):=by rw[List.take_add_one,ai hi,List.all_append,h,ah,ai hi];simp
theorem oM {m:Nat}{ls:List Ln}{i:Nat}(hi:i<ls.length)(h:jC m (ls.getD i z)=false):ls.all (jC m)=false:=by rw[List.all_eq_false];refine⟨ls.getD i z,?_,by rw[h];decide⟩;rw[ah,ai hi];exact List.getElem_mem hi
theorem yA {ls:List Ln}(h:ls.length<1\/300<ls.length):isOk ls=false:=by unfold isOk;rw[decide_eq_false (by omega)];rfl
end Ln
theorem xR (a:Option Addr)(len cap:Nat)(ls:List Ln)(w:World)(hs:LL w a len ls):Calls Tryz.prog 73 #[.slice a len cap] w fun e w'=>e= .returned (.bool (Ln.isOk ls))/\Below w.heap.size w w':=by have hl:=hs.1;have hm:=hs.2.1;unfold maxLen at hm;by_cases h1:len<1;{rw[Ln.yA (.inl (by omega))];have h1Z:(len:Int)<1:=by{omega};clear hs hl;go_enter Tryz.func73,Tryz.ntmps73;go_wp2;go_ret;exact⟨rfl,Below.refl _ _⟩};by_cases h2:300<len;{rw[Ln.yA (.inr (by omega))];have h1Z:¬(len:Int)<1:=by{omega};have h2Z:(300:Int)<(len:Int):=by{omega};clear hs hl;go_enter Tryz.func73,Tryz.ntmps73;go_wp2;go_ret;exact⟨rfl,Below.refl _ _⟩};have h1Z:¬(len:Int)<1:=by{omega};have h2Z:¬(300:Int)<(len:Int):=by{omega};obtain⟨R,hR⟩:∃R,Ln.isOk ls=R:=⟨_,rfl⟩;rw[hR];have HR:Hid (R=(ls.all (Ln.jC len)&&Ln.lJ ls)):=by{show _=_;rw[←hR];unfold Ln.isOk;rw[decide_eq_true (by omega),Bool.true_and,hl]};have HL:=ae hl;obtain⟨-,-,h0|⟨b,off,rfl,hb,hx⟩⟩:=hs;{omega};clear hR hl;go_enter Tryz.func73,Tryz.ntmps73;go_wp2;go_loopw [4] (fun i wr=>∃k:Nat,i= .int .i64 k/\k<=len/\Hid ((ls.take k).all (Ln.jC len)=true)/\Below w.heap.size w wr) (fun i _=>len-(intOf i).toNat);(case atStart=>exact⟨0,rfl,Nat.zero_le _,(by show _=_;simp),Below.refl _ _⟩);case round=>obtain⟨i,rfl,hi,HA,hB⟩:=hrel;by_cases hlt:i<len;{have fI:(i:Int)<(len:Int):=by{omega};have hb':b<wr.heap.size:=aj hb hB.size;have hc:=(hx i hlt).kept hb hB;obtain⟨⟨k,d,aa,bb,n,l⟩,j4⟩:∃x,ls.getD i .z=x:=⟨_,rfl⟩;rw[j4]at hc;have HX:=ae j4;obtain⟨c0,c1,c2,c3,c4,la,ln,lc,c5,hil⟩:=id hc;have hcon:=AJ ⟨k,d,aa,bb,n,l⟩ la ln lc wr hil;simp only at c0 c1 c2 c3 c4 hil hcon;rcases hok:Ln.ok ⟨k,d,aa,bb,n,l⟩with _|_;{rw[hok]at hcon;have HF:Hid (R=false):=by{show _=_;rw[HR.out,Ln.oM (by rw[HL.out];exact hlt) (by rw[HX.out];simp[Ln.jC,hok])];rfl};clear hx j4 hc;go_wp2_with(go_at_call 109;refine hcon.mono ?_;rintro e w2 ⟨rfl,hB2⟩;dsimp only);go_ret;exact⟨by rw[HF.out]<;>rfl,hB.trans (hB2.mono hB.size)⟩};rw[hok]at hcon;have hq:(k=5\/k=6)\/((k==5)=false/\(k==6)=false):=by{by_cases e:k=5;{exact .inl (.inl e)};by_cases e2:k=6;{exact .inl (.inr e2)};exact .inr ⟨by simpa using e,by simpa using e2⟩};rcases hq with hq|⟨q5,q6⟩;{by_cases hn:(len:Int)<=n;{have HF:Hid (R=false):=by{show _=_;rw[HR.out,Ln.oM (by rw[HL.out];exact hlt) (by rw[HX.out];rcases hq with rfl|rfl<;>simp[Ln.jC,hok,hn])];rfl};clear hx j4 HX;rcases hq with rfl|rfl;all_goals go_wp2_with(go_at_call 109;refine hcon.mono ?_;rintro e w2 ⟨rfl,hB2⟩;dsimp only;have e0:=(hB2.cell (p:=⟨b,off+i*6,none⟩) hb').trans c0;have e4:=(hB2.cell (p:=⟨b,off+i*6+4,none⟩) hb').trans c4);go_ret;exact⟨by rw[HF.out]<;>rfl,hB.trans (hB2.mono hB.size)⟩};have HA2:Hid ((ls.take (i+1)).all (Ln.jC len)=true):=by{show _=_;rw[Ln.sD HA.out (by rw[HL.out];exact hlt),HX.out];simp[Ln.jC,hok,hn]};clear hx j4 HX;rcases hq with rfl|rfl;all_goals go_wp2_with(go_at_call 109;refine hcon.mono ?_;rintro e w2 ⟨rfl,hB2⟩;dsimp only;have e0:=(hB2.cell (p:=⟨b,off+i*6,none⟩) hb').trans c0;have e4:=(hB2.cell (p:=⟨b,off+i*6+4,none⟩) hb').trans c4);go_roundw;(case rel=>exact⟨i+1,by simp,hlt,HA2,hB.trans (hB2.mono hB.size)⟩);case measure=>simp[intOf];omega};have HA2:Hid ((ls.take (i+1)).all (Ln.jC len)=true):=by{show _=_;rw[Ln.sD HA.out (by rw[HL.out];exact hlt),HX.out];have e5:k≠5:=by{simpa using q5};have e6:k≠6:=by{simpa using q6};simp[Ln.jC,hok,e5,e6]};clear hx j4 HX;go_wp2_with(go_at_call 109;refine hcon.mono ?_;rintro e w2 ⟨rfl,hB2⟩;dsimp only;have e0:=(hB2.cell (p:=⟨b,off+i*6,none⟩) hb').trans c0);go_roundw;(case rel=>exact⟨i+1,by simp,hlt,HA2,hB.trans (hB2.mono hB.size)⟩);case measure=>simp[intOf];omega};have hie:i=len:=by{omega};have HR2:Hid (R=Ln.lJ ls):=by{show _=_;have:=HA.out;rw[hie,←HL.out,List.take_length]at this;rw[HR.out,←HL.out,this,Bool.true_and]};subst hie;have hc:=(hx (i-1) (by omega)).kept hb hB;have hb':b<wr.heap.size:=aj hb hB.size;obtain⟨⟨k,d,aa,bb,n,l⟩,j4⟩:∃x,ls.getD (i-1) .z=x:=⟨_,rfl⟩;rw[j4]at hc;obtain⟨c0,-⟩:=hc;simp only at c0;have HK:Hid (R=(decide (k=5)||decide (k=10)||decide (k=11))):=by{show _=_;rw[HR2.out];unfold Ln.lJ;rw[HL.out,j4]};clear hx j4 HR HR2 HA;have hi1:0<i:=by{omega};have hiw:(i:Int)-1=((i-1:Nat):Int):=by{omega};have hqq:k=5\/k=10\/k=11\/((k==5)=false/\(k==10)=false/\(k==11)=false):=by{by_cases e:k=5;{exact .inl e};by_cases e2:k=10;{exact .inr (.inl e2)};by_cases e3:k=11;{exact .inr (.inr (.inl e3))};exact .inr (.inr (.inr ⟨by simpa using e,by simpa using e2,by simpa using e3⟩))};rcases hqq with rfl|rfl|rfl|⟨q5,yI,FO⟩;{have HF:Hid (R=true):=by{show _=_;rw[HK.out];rfl};go_wp2;go_ret;exact⟨by rw[HF.out]<;>rfl,hB⟩};{have HF:Hid (R=true):=by{show _=_;rw[HK.out];rfl};go_wp2;go_ret;exact⟨by rw[HF.out]<;>rfl,hB⟩};{have HF:Hid (R=true):=by{show _=_;rw[HK.out];rfl};go_wp2;go_ret;exact⟨by rw[HF.out]<;>rfl,hB⟩};have HF:Hid (R=false):=by{show _=_;have e5:k≠5:=by{simpa using q5};have e6:k≠10:=by{simpa using yI};have e7:k≠11:=by{simpa using FO};rw[HK.out];simp[e5,e6,e7]};go_wp2;go_ret;exact⟨by rw[HF.out]<;>rfl,hB⟩
theorem aQ.BX (xs:List (Int×Int))(E:List Int)(at':Int)(k:Nat):∃f:Nat->List Int,f k=[]/\(∀j,j<k->f j=f (j+1)++(if St.opens (aQ.op xs j)=true/\at'<=E.getD j (-1)then[(j:Int)]else[]))/\aQ.ed xs E at' k=f 0:=by
 suffices h:∀k,∃f:Nat->List Int,(∀j,k<=j->f j=[])/\(∀j,j<k->f j=f (j+1)++(if St.opens (aQ.op xs j)=true/\at'<=E.getD j (-1)then[(j:Int)]else[]))/\aQ.ed xs E at' k=f 0 by obtain⟨f,h1,h2,h3⟩:=h k;exact⟨f,h1 k (Nat.le_refl _),h2,h3⟩
 intro k
 induction k with
 |zero=>exact⟨fun _=>[],fun _ _=>rfl,fun j hj=>by omega,rfl⟩
 |succ k ih=>
  obtain⟨f,h1,h2,h3⟩:=ih
  obtain⟨c,hc⟩:∃c:List Int,(if St.opens (aQ.op xs k)=true/\at'<=E.getD k (-1)then[(k:Int)]else[])=c:=⟨_,rfl⟩
  refine⟨fun j=>if k+1<=j then[]else c++f j,fun j hj=>az hj,fun j hj=>?_,?_⟩
  · dsimp only;rw[ax (show¬k+1<=j by omega)];by_cases e:j=k;{subst e;rw[az (Nat.le_refl _),h1 j (Nat.le_refl _),List.append_nil,List.nil_append,hc]};rw[ax (show¬k+1<=j+1 by omega),h2 j (by omega),List.append_assoc]
  · dsimp only;rw[ax (show¬k+1<=0 by omega),←h3,←hc];show(if St.opens (aQ.op xs k)=true/\at'<=E.getD k (-1)then(k:Int)::aQ.ed xs E at' k else aQ.ed xs E at' k)=_;by_cases h:St.opens (aQ.op xs k)=true/\at'<=E.getD k (-1);{rw[az h,az h];rfl};rw[ax h,ax h];rfl
theorem uy (a:Option Addr)(len cap:Nat)(xs:List (Int×Int))(h80:len<=80)(hall:St.df xs=true)(e:Option Addr)(ec:Nat)(E:List Int)(n:Nat)(hn:n<len)(w:World)(hs:SL w a len xs)(hE:IL w e len E):Calls Tryz.prog 116 #[.slice a len cap, .slice e len ec, .int .i64 n] w fun e w'=>∃v,e= .returned v/\OI w' w.heap.size v (aQ.ed xs E n n)/\Below w.heap.size w w':=by
 obtain⟨i0,hi,hz0,hz1,hz2⟩:=info_parts dD
 obtain⟨f,f0,f1,f2⟩:=aQ.BX xs E n n
 have hfl:∀j,j<=n->(f j).length<=n-j:=by
  intro j hj
  obtain⟨d,hd⟩:∃d,n=j+d:=⟨n-j,by omega⟩
  clear f2
  induction d generalizing j with
  |zero=>rw[show j=n by omega,f0];simp
  |succ d ih=>
   have:=ih (j+1) (by omega) (by omega)
   rw[f1 j (by omega),List.length_append]
   split<;>simp<;>omega
 obtain⟨hl,-,hrow⟩:=hs
 obtain⟨hEl,-,hrE⟩:=hE
 have HE:=ae hEl
 clear hEl
 have HL:=ae hl
 have HF:=ae (ak f0 (ak f1 (ak f2 hfl)))
 have hr0:=OI.empty w
 have hB0:=(Below.refl w.heap.size w).alloc (Nat.le_refl _) (.cells #[] 2)
 clear hl f0 f1 f2 hfl
 go_enter Tryz.func116,Tryz.ntmps116
 go_wp2
 go_loopw [7,8] (fun v i wr=>∃(k g c:Nat),i= .int .i64 ((k:Int)-1)/\k<=n/\v= .slice (some ⟨g,0,none⟩) (f k).length c/\wr.ownsRow w.heap.size 2 1 (.slice (some ⟨g,0,none⟩) (f k).length c) (f k).length ((f k).map iv)/\Below w.heap.size w wr) (fun _ i _=>(intOf i+1).toNat)
 case atStart=>refine⟨n,_,0,rfl,Nat.le_refl _,by rw[HF.out.1];rfl,?_,hB0⟩;rw[HF.out.1];exact hr0
 case round=>obtain⟨k,g,c,rfl,hk,rfl,hown,hB⟩:=hrel;clear hr0 hB0;rcases Nat.eq_zero_or_pos k with rfl|hkp;{have HOW:=ae hown;clear hown hrow hrE;go_wp2;go_ret;refine⟨_,rfl,?_,hB⟩;rw[HF.out.2.2.1];exact HOW.out};obtain⟨j,rfl⟩:∃j,k=j+1:=⟨k-1,by omega⟩;have hij:((j+1:Nat):Int)-1=(j:Int):=by{omega};rw[hij];have hjn:j<len:=by{omega};rcases hrow with h0|⟨b,off,rfl,hb,hx⟩;{omega};rcases hrE with h0|⟨b2,Bb,rfl,hb2,hx2⟩;{omega};have hx0:=(hB.cell (p:=⟨b,off+j*2,none⟩) hb).trans (hx j hjn).1;have hx1:=(hB.cell (p:=⟨b,off+j*2+1,none⟩) hb).trans (hx j hjn).2;have hy0:=(hB.cell (p:=⟨b2,Bb+j,none⟩) hb2).trans (hx2 j hjn);have hok:=St.bI hall (j:=j) (by rw[HL.out];exact hjn);obtain⟨⟨p,q⟩,hpq⟩:∃x,xs.getD j (0,0)=x:=⟨_,rfl⟩;rw[hpq]at hx0 hx1 hok;simp only at hx0 hx1 hok;have hop:aQ.op xs j=p:=by{rw[aQ.op,hpq]};have hfj:=HF.out.2.1 j (by omega);have hlen:=HF.out.2.2.2 (j+1) (by omega);rw[hop]at hfj;obtain⟨ej,hej⟩:∃x,E.getD j 0=x:=⟨_,rfl⟩;have hEl:E.length=len:=HE.out;have Yl:E.getD j (-1)=ej:=by{rw[←hej,ah,ah,ai (by omega)];rfl};rw[hej]at hy0;rw[Yl]at hfj;have uY:St.wM p q=St.opens p:=by{rw[St.wM,hok,Bool.true_and]};have hcon:=rU p q wr;rw[uY]at hcon;have Ym:b2<wr.heap.size:=aj hb2 hB.size;obtain⟨m,hm⟩:∃m,(f (j+1)).length=m:=⟨_,rfl⟩;rw[hm]at hown hlen ⊢;have HM:=ae (ak hm hfj);clear hx hx2 hpq uY hok hop hej Yl hEl hm hfj;rcases ho:St.opens p with _|_;{rw[ho]at hcon;go_wp2_with fail;refine hcon.mono ?_;rintro e w5 ⟨rfl,fQ⟩;have HOW:=ae (aO hown fQ);have dC:=hB.trans (fQ.mono hB.size);clear hcon hown fQ hB;go_wp2;go_roundw;(case rel=>obtain⟨hm,hfj⟩:=HM.out;rw[ho,ax (by simp),List.append_nil]at hfj;refine⟨j,g,c,rfl,by omega,by rw[hfj,hm],?_,dC⟩;rw[hfj,hm];exact HOW.out);case measure=>first|(simp[intOf];done)|(simp[intOf];omega)};rw[ho]at hcon;by_cases hge:(n:Int)<=ej;{go_wp2_with fail;refine hcon.mono ?_;rintro e w5 ⟨rfl,fQ⟩;have z0:=(fQ.cell (p:=⟨b2,Bb+j,none⟩) Ym).trans hy0;have hown5:=aO hown fQ;have dC:=hB.trans (fQ.mono hB.size);have hBx:=dC.alloc dC.size (.cells #[.int .i64 (j:Int)] 2);have HRW:=ae (hown5.alloc (.cells #[.int .i64 (j:Int)] 2));have hsz:=dC.size;clear hcon hown fQ hB hown5;go_wp2_with(at_builtin;refine wpList_append_own _ rfl _ _ 27 rfl w.heap.size 2 i0 (.int .i64 0) 1 8 Tryz.underlying27 hi hz0 hz1 hz2 rfl (by decide) _ _ _ rfl HRW.out ⟨w5.heap.size,0,none⟩ 1 1 [.int .i64 (j:Int)] rfl rfl (gG _ _ _ _ rfl) (by simp[Value.oneCell']) (by simp only[maxLen];omega) (by omega) (by simp;omega) ?_;intro v' wA hown' hgrow _;have hB4:=fH HRW.out hBx (by simp;omega) hgrow;obtain⟨g',cap',rfl⟩:=ownsRow_succ hown');go_roundw;(case rel=>obtain⟨hm,hfj⟩:=HM.out;rw[ho,az ⟨rfl,hge⟩]at hfj;refine⟨j,g',cap',rfl,by omega,by rw[hfj,List.length_append,hm];rfl,?_,hB4⟩;rw[hfj,List.length_append,hm,List.map_append];exact hown');case measure=>first|(simp[intOf];done)|(simp[intOf];omega)};go_wp2_with fail;refine hcon.mono ?_;rintro e w5 ⟨rfl,fQ⟩;have z0:=(fQ.cell (p:=⟨b2,Bb+j,none⟩) Ym).trans hy0;have HOW:=ae (aO hown fQ);have dC:=hB.trans (fQ.mono hB.size);clear hcon hown fQ hB;go_wp2;go_roundw;(case rel=>obtain⟨hm,hfj⟩:=HM.out;rw[ax (by rintro⟨_,h⟩;omega),List.append_nil]at hfj;refine⟨j,g,c,rfl,by omega,by rw[hfj,hm],?_,dC⟩;rw[hfj,hm];exact HOW.out);case measure=>first|(simp[intOf];done)|(simp[intOf];omega)
section
open Go.ChangeShapes Go.WideShapes Go.ChangeAt Go.RowKit Go.Shelf Go.Deep
theorem OI.il {W:World}{n₀:Nat}{a:Option Addr}{n c:Nat}{xs:List Int}(h:OI W n₀ (.slice a n c) xs):n=xs.length/\IL W a n xs:=by obtain⟨a',c',e,hil⟩:=h.slice;simp only[Value.slice.injEq]at e;obtain⟨rfl,rfl,rfl⟩:=e;exact⟨rfl,hil⟩
theorem jS {W W':World}(h:W.grownBy W' none):Below W.heap.size W W':=⟨h.os,h.tape,h.output,h.size,fun k hk=>h.block k hk (by simp)⟩
end
theorem IL.aS {w:World}{a:Option Addr}{n:Nat}{E:List Int}(h:IL w a n E)(hn:0<n):∃b off,a=some ⟨b,off,none⟩/\∀(wx:World),Below w.heap.size w wx->∀j,j<n->wx.cell? ⟨b,off+j,none⟩=some (.int .i64 (aQ.aS E j)):=by obtain⟨hl,-,h0|⟨b,off,rfl,hb,hx⟩⟩:=h;{omega};refine⟨b,off,rfl,fun wx hB j hj=>?_⟩;have e:aQ.aS E j=E.getD j 0:=by{unfold aQ.aS;rw[ah,ah,ai (by omega)];rfl};rw[e];exact(hB.cell (p:=⟨b,off+j,none⟩) hb).trans (hx j hj)
theorem below_drewN (W:World)(n:Nat):Below W.heap.size W (W.drewN n):=⟨rfl,rfl,rfl,Nat.le_refl _,fun _ _=>rfl⟩
structure Still (p:Prop):Prop where
 out:p
def bv (x:Int):Value:= .int .u8 x
def dS (W:World)(g:Nat)(t:TypeId)(vs:List Value):Prop:=W.heap[g]?=some (.cells vs.toArray t (0,0))
theorem dS.lt {W:World}{g:Nat}{t:TypeId}{vs:List Value}(h:dS W g t vs):g<W.heap.size:=(Array.getElem?_eq_some_iff.1 h).1
theorem dS.cell {W:World}{g:Nat}{t:TypeId}{vs:List Value}(h:dS W g t vs){j:Nat}{v:Value}(hj:vs[j]?=some v):W.cell? ⟨g,j,none⟩=some v:=by rw[cell_of_row W g j _ t _ h];simpa using hj
theorem dS.frozen {W:World}{g:Nat}{t:TypeId}{vs:List Value}(h:dS W g t vs)(j:Nat):W.frozen? ⟨g,j,none⟩=false:=frozen_of_row W g j _ t h
theorem dS.kept {W W':World}{g:Nat}{t:TypeId}{vs:List Value}(h:dS W g t vs)(hB:Below W.heap.size W W'):dS W' g t vs:=(hB.block g h.lt).trans h
theorem dS.dJ {W W':World}{g:Nat}{t:TypeId}{vs:List Value}{row:Option Nat}(h:dS W g t vs)(hg:W.grownBy W' row)(hne:some g≠row):dS W' g t vs:=(hg.block g h.lt hne).trans h
theorem dS.set {W:World}{g:Nat}{t:TypeId}{vs:List Value}(h:dS W g t vs)(j:Nat)(v:Value):dS (W.setCell ⟨g,j,none⟩ v) g t (vs.set j v):=by have:=heap_setCell_same W g j vs.toArray t v h;unfold dS;rw[this];simp
theorem dS.row {W:World}{g:Nat}{t:TypeId}{vs:List Value}(h:dS W g t vs)(ws:List Value):dS (W.setRow g ws.toArray) g t ws:=setRow_heap W g _ _ t _ h
theorem mE (W:World)(g:Nat)(cs:Array Value):W.grownBy (W.setRow g cs) (some g):=
 ⟨rfl,rfl,rfl,by simp[World.setRow],fun k _ hk=>setRow_other W g k cs (fun e=>hk (by rw[e]))⟩
theorem aI {w w1 w2:World}{r:Nat}(h:Below w.heap.size w w1)(hg:w1.grownBy w2 (some r))(hr:w.heap.size<=r):Below w.heap.size w w2:=
 ⟨hg.os.trans h.os,hg.tape.trans h.tape,hg.output.trans h.output,Nat.le_trans h.size hg.size,fun k hk=>(hg.block k (aj hk h.size) (by simp only[ne_eq,af];omega)).trans (h.block k hk)⟩
section
variable {P : Program}
theorem dP {ops:Array Oper}{rest:List Oper}{o:Oper}{a:Act}{w:World}{Q:Exit->Act->World->Prop}(hgd:o.guard=none)(t:TypeId)(ho:o.op= .alloc t)(zs:List Value)(n:Nat)(hz:(P.info? t).map (fun i=>(i.zero,i.size))=some (some (.agg zs.toArray),n))(h:∀g w',Hid (g=w.heap.size)->dS w' g t zs->Below w.heap.size w w'->wpList P ops Q rest (a.put o.dst (.pointer (some ⟨g,0,none⟩))) w'):wpList P ops Q (o::rest) a w:=by refine wpList_plain hgd fun K hK=>?_;have hrun:=(zero_of_info hz).1;unfold Oper.wp execOp;simp only[ho,Instr.alloc,Sem.run_bind,hrun,Result.andThen_ok];simp[newVar,Value.cells];exact hK _ _ (h w.heap.size (w.alloc (.cells zs.toArray t)) rfl (heap_alloc_last w _) (Below.alloc (Below.refl _ _) (Nat.le_refl _) _))
theorem jl {ops:Array Oper}{rest:List Oper}{o:Oper}{a:Act}{w:World}{Q:Exit->Act->World->Prop}(hgd:o.guard=none)(t:TypeId)(x:Operand)(ho:o.op= .box t x)(zs:List Value)(hx:a.eval x= .agg zs.toArray)(h:∀g w',Hid (g=w.heap.size)->dS w' g t zs->Below w.heap.size w w'->wpList P ops Q rest (a.put o.dst (.pointer (some ⟨g,0,none⟩))) w'):wpList P ops Q (o::rest) a w:=by refine wpList_plain hgd fun K hK=>?_;unfold Oper.wp execOp;simp only[ho,hx,Instr.box,Sem.run_bind];simp[newVar,Value.cells];exact hK _ _ (h w.heap.size (w.alloc (.cells zs.toArray t)) rfl (heap_alloc_last w _) (Below.alloc (Below.refl _ _) (Nat.le_refl _) _))
theorem fF {ops:Array Oper}{rest:List Oper}{o:Oper}{a:Act}{w:World}{Q:Exit->Act->World->Prop}(hgd:o.guard=none)(ty:TypeId)(x:Operand)(ho:o.op= .load ty x)
   (g:Nat) (hx:a.eval x= .pointer (some ⟨g,0,none⟩)) (t:TypeId) (vs:List Value) (hg:dS w g t vs) (n:Nat) (e:TypeId) (hu:P.underlying ty=some (.array n e)) (hi:(P.info? ty).map (·.size)=some vs.length)
   (h:wpList P ops Q rest (a.put o.dst (.agg vs.toArray)) w):wpList P ops Q (o::rest) a w:=
 wpList_load_row hgd ty x ho g hx t vs.toArray (0,0) _ hg hu rfl (by simpa using hi) h
theorem eU {ops:Array Oper}{rest:List Oper}{o:Oper}{a:Act}{w:World}{Q:Exit->Act->World->Prop}(hgd:o.guard=none)(ty:TypeId)(x y:Operand)(ho:o.op= .store ty x y)
   (g:Nat) (cells:List Value) (hx:a.eval x= .pointer (some ⟨g,0,none⟩)) (hy:a.eval y= .agg cells.toArray) (t:TypeId) (old:List Value) (hg:dS w g t old) (hi:(P.info? ty).map (·.size)=some cells.length)
   (hold:old.length=cells.length) (h1:∀v∈cells,v.oneCell'=true)
   (h:∀w',dS w' g t cells->w.grownBy w' (some g)->wpList P ops Q rest (a.put o.dst undef) w'):wpList P ops Q (o::rest) a w:=
 wpList_store_row hgd ty x y ho g cells.toArray hx hy t old.toArray hg (by simpa using hi) (by simpa using hold) (Array.all_eq_true_iff_forall_mem.2 (fun v hv=>h1 v (by simpa using hv))) (h _ (hg.row _) (mE _ _ _))
theorem nI {ops:Array Oper}{rest:List Oper}{o:Oper}{a:Act}{w:World}{Q:Exit->Act->World->Prop}(hgd:o.guard=none)(ty:TypeId)(x y:Operand)(ho:o.op= .index ty x y)(vs:List Value)(k:Nat)(hx:a.eval x= .agg vs.toArray)(hy:a.eval y= .int .i64 k)(n:Nat)(e:TypeId)(hu:P.underlying ty=some (.array n e))(hk:k<n)(hs:∀w,(sizeOf e).run P w= .ok 1 w)(ha:∀w,(isAgg e).run P w= .ok false w)(v:Value)(hv:vs[k]?=some v)(h:wpList P ops Q rest (a.put o.dst v) w):wpList P ops Q (o::rest) a w:=by refine wpList_plain hgd fun K hK=>?_;have hrun:(Instr.index ty (.agg vs.toArray) (.int .i64 k)).run P w= .ok v w:=by{simp[Instr.index,asIntOf,Sem.run_bind,run_underlying hu,hs,part,ha,hv];omega};unfold Oper.wp execOp;simp only[ho,hx,hy,Sem.run_bind,hrun,Result.andThen_ok];exact hK _ _ h
theorem fG {ops:Array Oper}{rest:List Oper}{o:Oper}{a:Act}{w:World}{Q:Exit->Act->World->Prop}(t:TypeId)(ho:o.op= .alloc t)(h:Still (wpList P ops Q (o::rest) a w)):wpList P ops Q (o::rest) a w:=h.out
theorem mH {ops:Array Oper}{rest:List Oper}{o:Oper}{a:Act}{w:World}{Q:Exit->Act->World->Prop}(t:TypeId)(x:Operand)(ho:o.op= .box t x)(h:Still (wpList P ops Q (o::rest) a w)):wpList P ops Q (o::rest) a w:=h.out
theorem iI {ops:Array Oper}{rest:List Oper}{o:Oper}{a:Act}{w:World}{Q:Exit->Act->World->Prop}(t:TypeId)(x:Operand)(ho:o.op= .load t x)(h:Still (wpList P ops Q (o::rest) a w)):wpList P ops Q (o::rest) a w:=h.out
theorem iy {ops:Array Oper}{rest:List Oper}{o:Oper}{a:Act}{w:World}{Q:Exit->Act->World->Prop}(t:TypeId)(x y:Operand)(ho:o.op= .store t x y)(h:Still (wpList P ops Q (o::rest) a w)):wpList P ops Q (o::rest) a w:=h.out
theorem rJ {ops:Array Oper}{rest:List Oper}{o:Oper}{a:Act}{w:World}{Q:Exit->Act->World->Prop}(t:TypeId)(x y:Operand)(ho:o.op= .index t x y)(h:Still (wpList P ops Q (o::rest) a w)):wpList P ops Q (o::rest) a w:=h.out
theorem lC {ops:Array Oper}{rest:List Oper}{o:Oper}{a:Act}{w:World}{Q:Exit->Act->World->Prop}(t:TypeId)(ps:Array (Nat×Operand))(ho:o.op= .build t ps)(h:Still (wpList P ops Q (o::rest) a w)):wpList P ops Q (o::rest) a w:=h.out
theorem EF {ops:Array Oper}{rest:List Oper}{o:Oper}{a:Act}{w:World}{Q:Exit->Act->World->Prop}(x y:Operand)(s t:TypeId)(ho:o.op= .call {callee:= .builtin .copy,args:=#[x,y],argTypes:=#[s,t]})(h:Still (wpList P ops Q (o::rest) a w)):wpList P ops Q (o::rest) a w:=h.out
theorem sw (xs ys:List Int)(h:xs.length=ys.length):(List.range xs.length).all (fun i=>xs.getD i 0==ys.getD i 0)=(xs==ys):=by rw[Bool.eq_iff_iff];simp only[List.all_eq_true,List.mem_range,beq_iff_eq];constructor;{intro hh;apply List.ext_getElem h;intro i h1 h2;have:=hh i h1;simpa[ah,ai h1,ai h2]using this};rintro rfl i _;rfl
theorem pM (w:World)(d:Nat)(t e:TypeId)(n:Nat)(ht:P.underlying t=some (.array n e))(he:P.underlying e=some (.int .i64))(hsz:∀w,(sizeOf e).run P w= .ok 1 w)(xs ys:List Int)(hx:xs.length=n)(hy:ys.length=n):(Op.equalIn (d+2) t (.agg (xs.map iv).toArray) (.agg (ys.map iv).toArray)).run P w= .ok (xs==ys) w:=by
 rw[←sw xs ys (hx.trans hy.symm),hx,List.range_eq_range',Op.equalIn]
 simp only[Sem.run_bind,run_underlying ht,Result.andThen_ok,hsz,Std.Legacy.Range.forIn_eq_forIn_range',Std.Legacy.Range.size,Nat.sub_zero,Nat.add_sub_cancel,Nat.div_one]
 have hl:∀i∈List.range' 0 n 1,i<n:=fun i hi=>by simpa using(List.mem_range'_1.1 hi).2
 generalize List.range' 0 n 1=l at hl ⊢
 induction l with
 |nil=>simp
 |cons i l ih=>
  have hi:i<n:=hl i (by simp)
  have px:(part e (xs.map iv).toArray (i*1)).run P w= .ok (iv (xs.getD i 0)) w:=by simp[part,isAgg,run_underlying he,List.getD,ai (show i<xs.length by omega)]
  have py:(part e (ys.map iv).toArray (i*1)).run P w= .ok (iv (ys.getD i 0)) w:=by simp[part,isAgg,run_underlying he,List.getD,ai (show i<ys.length by omega)]
  have pe:(Op.equalIn (d+1) e (iv (xs.getD i 0)) (iv (ys.getD i 0))).run P w= .ok (xs.getD i 0==ys.getD i 0) w:=by rw[iv,iv,run_equalIn_int w d e .i64 .i64 _ _ he]
  simp only[List.forIn_cons,Sem.run_bind,px,py,pe,Result.andThen_ok,List.all_cons]
  cases hb:(xs.getD i 0==ys.getD i 0)
  · simp
  · simp only[Bool.not_true,Bool.false_eq_true,if_false,Sem.run_pure,Result.andThen_ok,Bool.true_and];exact ih fun j hj=>hl j (by simp[hj])
theorem wO (w:World)(t e:TypeId)(n:Nat)(ht:P.underlying t=some (.array n e))(he:P.underlying e=some (.int .i64))(hsz:∀w,(sizeOf e).run P w= .ok 1 w)(xs ys:List Int)(hx:xs.length=n)(hy:ys.length=n):(binOp .neq t (.agg (xs.map iv).toArray) (.agg (ys.map iv).toArray)).run P w= .ok (.bool (!(xs==ys))) w:=by rw[run_neq_struct,pM w 9998 t e n ht he hsz xs ys hx hy];rfl
theorem kK {fn:Func}{p u:Tmp}{ty:TypeId}(h:fn.results=#[.cell p ty, .tmp u])(tmps:Array Value)(w:World)(g:Nat)(t:TypeId)(vs:List Value)(y:Value)(n:Nat)(e:TypeId)(hp:tmps.getD p undef= .pointer (some ⟨g,0,none⟩))(hy:tmps.getD u undef=y)(hg:dS w g t vs)(hu:P.underlying ty=some (.array n e))(hi:(P.info? ty).map (·.size)=some vs.length):(results fn tmps).run P w= .ok (.tuple #[.agg vs.toArray,y]) w:=by rw[results_cell_tmp h,hp,hy];simp[asAddr,run_loadVar_row w g t ty vs.toArray (0,0) _ hg hu rfl (by simpa using hi)]
variable {C : World → Prop}
theorem qH {o:Oper}{a:Act}{K:Act->Prop}(ty:TypeId)(x:Operand)(ho:o.op= .load ty x)(g:Nat)(hx:a.eval x= .pointer (some ⟨g,0,none⟩))(t:TypeId)(vs:List Value)(hg:∀w,C w->dS w g t vs)(n:Nat)(e:TypeId)(hu:P.underlying ty=some (.array n e))(hi:(P.info? ty).map (·.size)=some vs.length)(hk:K (a.put o.dst (.agg vs.toArray))):o.quiet P a C K:=by refine⟨_,fun w hw=>?_,hk⟩;unfold Oper.quietAt execOp;simp only[ho,hx,Instr.loadAt,Instr.sureAddr,Sem.run_bind,Sem.run_pure,Result.andThen_ok,run_loadVar_row w g t ty vs.toArray (0,0) _ (hg w hw) hu rfl (by simpa using hi)];exact⟨rfl,rfl⟩
theorem Ca {o:Oper}{a:Act}{K:Act->Prop}(ty ty':TypeId)(x y:Operand)(ho:o.op= .binOp .neq ty x y ty')(xs ys:List Int)(hx:a.eval x= .agg (xs.map iv).toArray)(hy:a.eval y= .agg (ys.map iv).toArray)(n:Nat)(e:TypeId)(hu:P.underlying ty=some (.array n e))(he:P.underlying e=some (.int .i64))(hsz:∀w,(sizeOf e).run P w= .ok 1 w)(hlx:xs.length=n)(hly:ys.length=n)(hq:P.eqGuardType P.depth ty=false)(hk:K (a.put o.dst (.bool (!(xs==ys))))):o.quiet P a C K:=by refine⟨_,fun w hw=>?_,hk⟩;have hrun:=wO (P:=P) w ty e n hu he hsz xs ys hlx hly;have hg:(eqGuard .neq ty x y (.agg (xs.map iv).toArray) (.agg (ys.map iv).toArray)).run P w= .ok () w:=by{simp[eqGuard,hq]};unfold Oper.quietAt execOp;simp only[ho,hx,hy,Sem.run_bind,hg,hrun,Result.andThen_ok];exact⟨rfl,rfl⟩
theorem zA {o:Oper}{a:Act}{K:Act->Prop}(f:FuncId)(x:Operand)(ts:Array TypeId)(ho:o.op= .call {callee:= .value (.func f),args:=#[x],argTypes:=ts})(vx v:Value)(hx:a.eval x=vx)(hcf:∀w,(callFunc f #[vx]).run P w= .ok (.enter f #[vx]) w)(hc:∀w,C w->Calls P f #[vx] w (fun e w''=>e= .returned v/\C w''))(hk:K (a.put o.dst v)):o.quiet P a C K:=by refine⟨_,fun w hw=>?_,hk⟩;have:=hc w hw;have he:a.eval (.func f)= .func (.func f) #[] #[]:=rfl;unfold Oper.quietAt execOp;simp[ho,resolve,hx,invoke,Deferred.ofValue,he,hcf];exact⟨rfl,this⟩
end
end Go.Proofs.YthkjdjmjdlimnaaGreat
