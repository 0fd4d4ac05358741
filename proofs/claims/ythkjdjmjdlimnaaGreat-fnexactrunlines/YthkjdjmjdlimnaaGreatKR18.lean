/-
  Own texts for a law: Rl0 Low0
-/
import Derived.Test.YthkjdjmjdlimnaaGreatKR07
import Derived.Test.YthkjdjmjdlimnaaGreatKR11
namespace Go.Proofs.YthkjdjmjdlimnaaGreat
open Go.RowKit Go.Shelf
set_option linter.all false
set_option maxRecDepth 100000
set_option maxHeartbeats 16000000
namespace Rl
open Mn (Rs words)
abbrev Sr:Type:=(Nat×List Int×List Int) ⊕ Int ⊕ Int ⊕ (Nat×Nat×List Int)
abbrev Sr.next (at':Nat)(B mem:List Int):Sr:= .inl (at',B,mem)
abbrev Sr.pI (v:Int):Sr:= .inr (.inl v)
abbrev Sr.halt (c:Int):Sr:= .inr (.inr (.inl c))
abbrev Sr.call (d q:Nat)(args:List Int):Sr:= .inr (.inr (.inr (d,q,args)))
def bx (B:List Int)(j:Int):Int:=B.getD j.toNat 0
def step (x:Ln)(at':Nat)(B mem:List Int):Sr:=
 if x.k=1 then .next (at'+1) (B.set x.d.toNat x.n) mem
 else if x.k=2 then .next (at'+1) (B.set x.d.toNat (bx B x.a)) mem
 else if x.k=3 then(if Wd.dc x.n (bx B x.a) (bx B x.b)=0 then .next (at'+1) (B.set x.d.toNat (Wd.dv x.n (bx B x.a) (bx B x.b))) mem else .halt (Wd.dc x.n (bx B x.a) (bx B x.b)))
 else if x.k=4 then .next (at'+1) (B.set x.d.toNat (if bx B x.a=0 then 1 else 0)) mem
 else if x.k=5 then .next x.n.toNat B mem
 else if x.k=6 then .next (if bx B x.a=0 then at'+1 else x.n.toNat) B mem
 else if x.k=7 then .call x.d.toNat x.n.toNat (x.l.map (bx B))
 else if x.k=8 then(if Mm.there (bx B x.a) x.n=true then .next (at'+1) (B.set x.d.toNat (Mm.fP mem (bx B x.a+x.n).toNat 4)) mem else .halt 3)
 else if x.k=9 then(if Mm.there (bx B x.a) x.n=true then .next (at'+1) B (Mm.dZ mem (bx B x.a+x.n).toNat (bx B x.b) 4)else .halt 3)
 else if x.k=10 then .pI (bx B x.a)
 else if x.k=11 then .halt 4
 else .next (at'+1) B mem
def line (cs:List (List Ln))(k at':Nat):Ln:=(cs.getD k []).getD at' .z
def aV (cs:List (List Ln))(k at':Nat)(B mem:List Int):Sr:=step (line cs k at') at' B mem
def jZ (args:List Int):List Int:=args++List.replicate (40-args.length) 0
def run (cs:List (List Ln)):Nat->Nat->Nat->Nat->Nat->List Int->List Int->Rs
 |0,aG,_,_,_,_,mem=> .stop 5 mem aG
 |_+1,0,_,_,_,_,mem=> .stop 5 mem 0
 | g +1,n+1,d,k,at',B,mem=>
   match aV cs k at' B mem with
   | .inl (a,b,m)=>run cs g n d k a b m
   | .inr (.inl v)=> .done v mem n
   | .inr (.inr (.inl c))=> .stop c mem n
   | .inr (.inr (.inr (x,q,args)))=>
     if 12<=d+1 then .stop 6 mem n else
     match run cs g n (d+1) q 0 (jZ args) mem with
     | .inr (c,m,l)=> .stop c m l
     | .inl (v,m,l)=>run cs g l d k (at'+1) (B.set x v) m
variable {cs : List (List Ln)} {g n d k at' : Nat} {B mem : List Int}
theorem dA {a:Nat}{b m:List Int}(h:aV cs k at' B mem= .next a b m):run cs (g+1) (n+1) d k at' B mem=run cs g n d k a b m:=by rw[run,h]
theorem iF {v:Int}(h:aV cs k at' B mem= .pI v):run cs (g+1) (n+1) d k at' B mem= .done v mem n:=by rw[run,h]
theorem run_halt {c:Int}(h:aV cs k at' B mem= .halt c):run cs (g+1) (n+1) d k at' B mem= .stop c mem n:=by rw[run,h]
theorem dK {x q:Nat}{args:List Int}(h:aV cs k at' B mem= .call x q args)(hd:12<=d+1):run cs (g+1) (n+1) d k at' B mem= .stop 6 mem n:=by rw[run,h];exact ax hd
theorem dM {x q l:Nat}{c:Int}{args m:List Int}(h:aV cs k at' B mem= .call x q args)(hd:¬12<=d+1)(hr:run cs g n (d+1) q 0 (jZ args) mem= .stop c m l):run cs (g+1) (n+1) d k at' B mem= .stop c m l:=by rw[run,h];show(if _ then _ else _)=_;rw[au hd,hr]
theorem dL {x q l:Nat}{v:Int}{args m:List Int}(h:aV cs k at' B mem= .call x q args)(hd:¬12<=d+1)(hr:run cs g n (d+1) q 0 (jZ args) mem= .done v m l):run cs (g+1) (n+1) d k at' B mem=run cs g l d k (at'+1) (B.set x v) m:=by(conv=>lhs;rw[run,h]);show(if _ then _ else _)=_;rw[au hd,hr]
theorem eH:∀(g n d k at':Nat)(B mem:List Int),(run cs g n d k at' B mem).left<=n/\(0<g->0<n->(run cs g n d k at' B mem).left<n)
 |0,n,d,k,at',B,mem=>⟨Nat.le_refl _,fun h=>by omega⟩
 |g+1,0,d,k,at',B,mem=>⟨Nat.le_refl _,fun _ h=>by omega⟩
 | g + 1,n+1,d,k,at',B,mem=>by
   suffices h:(run cs (g+1) (n+1) d k at' B mem).left<=n from⟨by omega,fun _ _=>by omega⟩
   rcases hs:aV cs k at' B mem with⟨a,b,m⟩|p|c|⟨x,q,args⟩
   · rw[dA hs];exact(eH g n d k a b m).1
   · rw[iF hs];exact Nat.le_refl _
   · rw[run_halt hs];exact Nat.le_refl _
   · by_cases hd:12<=d+1
     · rw[dK hs hd];exact Nat.le_refl _
     · have h1:=(eH g n (d+1) q 0 (jZ args) mem).1
       rcases hr:run cs g n (d+1) q 0 (jZ args) mem with⟨v,m,l⟩|⟨c,m,l⟩
       · rw[dL hs hd hr]
         rw[hr]at h1
         have h2:=(eH g l d k (at'+1) (B.set x v) m).1
         simp only[Rs.left]at h1
         omega
       · rw[dM hs hd hr]
         rw[hr]at h1
         exact h1
theorem gq:∀(g g' n d k at':Nat)(B mem:List Int),n<g->n<g'->run cs g n d k at' B mem=run cs g' n d k at' B mem
 |0,g',n,d,k,at',B,mem,h,_=>by omega
 |g+1,0,n,d,k,at',B,mem,_,h=>by omega
 |g+1,g'+1,0,d,k,at',B,mem,_,_=>by rw[run,run]
 | g + 1,g'+1,n+1,d,k,at',B,mem,h,h'=>by
   rcases hs:aV cs k at' B mem with⟨a,b,m⟩|p|c|⟨x,q,args⟩
   · rw[dA hs,dA hs];exact gq g g' n d k a b m (by omega) (by omega)
   · rw[iF hs,iF hs]
   · rw[run_halt hs,run_halt hs]
   · by_cases hd:12<=d+1
     · rw[dK hs hd,dK hs hd]
     · have e:=gq g g' n (d+1) q 0 (jZ args) mem (by omega) (by omega)
       have h1:=(eH (cs:=cs) g n (d+1) q 0 (jZ args) mem).1
       rcases hr:run cs g n (d+1) q 0 (jZ args) mem with⟨v,m,l⟩|⟨c,m,l⟩
       · rw[hr]at h1
         simp only[Rs.left]at h1
         rw[dL hs hd hr,dL hs hd (e▸hr)]
         exact gq g g' l d k (at'+1) _ m (by omega) (by omega)
       · rw[dM hs hd hr,dM hs hd (e▸hr)]
structure Good (cs:List (List Ln))(k at':Nat)(B mem:List Int):Prop where
 lt:at'<(cs.getD k []).length
 lB:B.length=40
 wB:words B
 mm:Mm.ok mem=true
structure zW (cs:List (List Ln)):Prop where
 len:1<=cs.length/\cs.length<=4
 ok:∀k,k<cs.length->Ln.isOk (cs.getD k [])=true
 call:∀k,k<cs.length->∀j,j<(cs.getD k []).length->(line cs k j).k=7->(line cs k j).n<cs.length
def oO (cs:List (List Ln))(k at':Nat)(B mem:List Int):Sr->Prop
 | .inl (a,b,m)=>Good cs k a b m
 | .inr (.inl v)=>Wd.ok v=true
 | .inr (.inr (.inl c))=>c=1\/c=2\/c=3\/c=4
 | .inr (.inr (.inr (x,q,args)))=>q<cs.length/\args.length<=3/\words args/\x<40/\∀m,Mm.ok m=true->∀v,Wd.ok v=true->Good cs k (at'+1) (B.set x v) m
theorem aZ {ls:List Ln}(h:Ln.isOk ls=true):1<=ls.length/\ls.length<=300:=by unfold Ln.isOk at h;simp only[ak,decide_eq_true_eq]at h;exact h.1
theorem jH {ls:List Ln}(h:Ln.isOk ls=true){j:Nat}(hj:j<ls.length):Ln.ok (ls.getD j .z)=true/\((ls.getD j .z).k=5\/(ls.getD j .z).k=6->(ls.getD j .z).n<ls.length)/\(j+1=ls.length->(ls.getD j .z).k=5\/(ls.getD j .z).k=10\/(ls.getD j .z).k=11):=by unfold Ln.isOk at h;simp only[ak,decide_eq_true_eq,List.all_eq_true]at h;obtain⟨-,h2,h3⟩:=h;have hm:ls.getD j .z∈ls:=by{rw[ag,ah hj];exact List.getElem_mem hj};have h4:=h2 _ hm;unfold Ln.gy at h4;rw[ak]at h4;refine⟨h4.1,fun hk=>?_,fun he=>?_⟩;{have h5:=h4.2;rw[Bool.not_eq_true',Bool.and_eq_false_iff]at h5;rcases h5 with h5|h5;{rw[Bool.or_eq_false_iff,decide_eq_false_iff_not,decide_eq_false_iff_not]at h5;rcases hk with hk|hk;{exact absurd hk h5.1};exact absurd hk h5.2};rw[decide_eq_false_iff_not]at h5;omega};unfold Ln.iY at h3;rw[show ls.length-1=j by omega]at h3;simp only[Bool.or_eq_true,decide_eq_true_eq]at h3;omega
theorem D8 {a x y:Int}(ha:1<=a/\a<=12)(hx:Wd.ok x=true)(hy:Wd.ok y=true)(h:Wd.dc a x y≠0):Wd.dc a x y=1\/Wd.dc a x y=2\/Wd.dc a x y=3\/Wd.dc a x y=4:=by rcases Wd.uD a x y with⟨q,-,-⟩|⟨q,-⟩|⟨q,-,-⟩;{exact absurd q h};{exfalso;unfold Wd.dc at q;rw[ax ⟨hx,hy⟩,au (by omega)]at q;split at q;{split at q;{cases q};split at q<;>cases q};cases q};omega
theorem dC (V:zW cs)(hk:k<cs.length)(G:Good cs k at' B mem):oO cs k at' B mem (aV cs k at' B mem):=by have mf:=V.ok k hk;obtain⟨hok,Cu,hlast⟩:=jH mf G.lt;have hcall:=V.call k hk at' G.lt;have hlt:=G.lt;change Ln.ok (line cs k at')=true at hok;change(line cs k at').k=5\/(line cs k at').k=6->(line cs k at').n<_ at Cu;change at'+1=_->(line cs k at').k=5\/(line cs k at').k=10\/(line cs k at').k=11 at hlast;unfold aV;obtain⟨x,hx⟩:∃x,line cs k at'=x:=⟨_,rfl⟩;rw[hx]at hok Cu hlast hcall ⊢;clear hx;have hkk:=Ln.eG hok;have hs3:=Ln.Ay hok;have hq:∀j,Wd.ok (bx B j)=true:=fun j=>Mn.bB G.wB _;obtain⟨p,dd,a,b,nn,l⟩:=x;simp only at hok Cu hlast hcall hkk hs3;have nx:p≠5->p≠10->p≠11->at'+1<(cs.getD k []).length:=fun h1 h2 h3=>by{rcases Nat.lt_or_ge (at'+1) (cs.getD k []).length with h|h;{exact h};have:=hlast (by omega);omega};have hset:p≠5->p≠10->p≠11->∀v,Wd.ok v=true->∀m,Mm.ok m=true->Good cs k (at'+1) (B.set dd.toNat v) m:=fun h1 h2 h3 v hv m hm=>⟨nx h1 h2 h3,by rw[List.length_set];exact G.lB,Mn.lu G.wB hv _,hm⟩;unfold Ln.ok at hok;rw[ak]at hok;have has:=hok.2;unfold step;simp only;have hc:p=1\/p=2\/p=3\/p=4\/p=5\/p=6\/p=7\/p=8\/p=9\/p=10\/p=11:=by{omega};rcases hc with rfl|rfl|rfl|rfl|rfl|rfl|rfl|rfl|rfl|rfl|rfl;{simp[Ln.asks]at has;exact hset (by omega) (by omega) (by omega) _ has.2.1 _ G.mm};{exact hset (by omega) (by omega) (by omega) _ (hq _) _ G.mm};{simp[Ln.asks,Wd.bz]at has;show oO cs k at' B mem (if _ then _ else _);by_cases h:Wd.dc nn (bx B a) (bx B b)=0;{rw[ax h];exact hset (by omega) (by omega) (by omega) _ (Wd.Fb _ _ _) _ G.mm};rw[au h];exact D8 (by omega) (hq _) (hq _) h};{exact hset (by omega) (by omega) (by omega) _ (by split<;>rfl) _ G.mm};{simp[Ln.asks,Wd.bz]at has;exact⟨by have:=Cu (.inl rfl);omega,G.lB,G.wB,G.mm⟩};{simp[Ln.asks,Wd.bz]at has;refine⟨?_,G.lB,G.wB,G.mm⟩;have h1:=Cu (.inr rfl);have h2:=nx (by omega) (by omega) (by omega);split<;>omega};{simp[Ln.asks,Wd.bz,Ln.bR]at has;refine⟨by have:=hcall rfl;omega,by rw[List.length_map];exact hs3,fun y hy=>?_,by omega,fun m hm v hv=>hset (by omega) (by omega) (by omega) v hv m hm⟩;obtain⟨j,-,rfl⟩:=List.mem_map.1 hy;exact hq j};{simp[Ln.asks,Wd.bz]at has;show oO cs k at' B mem (if _ then _ else _);by_cases h:Mm.there (bx B a) nn=true;{rw[ax h];have hb:=Mm.mK (Mm.gF G.mm) (bx B a+nn).toNat 4;rw[show(256:Int) ^ 4=4294967296 from rfl]at hb;exact hset (by omega) (by omega) (by omega) _ (Wd.aL.2 (by omega)) _ G.mm};rw[au h];exact .inr (.inr (.inl rfl))};{show oO cs k at' B mem (if Mm.there (bx B a) nn=true then Sr.next (at'+1) B (Mm.dZ mem (bx B a+nn).toNat (bx B b) 4)else Sr.halt 3);by_cases h:Mm.there (bx B a) nn=true;{rw[ax h];obtain⟨q,q1,q2,q3⟩:=Mm.place h;exact⟨nx (by omega) (by omega) (by omega),G.lB,G.wB,by rw[q2];exact Mm.Bq _ G.mm q3⟩};rw[au h];exact .inr (.inr (.inl rfl))};{exact hq _};exact .inr (.inr (.inr rfl))
theorem cK (V:zW cs)(hk:k<cs.length){args:List Int}(hl:args.length<=3)(hw:words args)(hm:Mm.ok mem=true):Good cs k 0 (jZ args) mem:=by refine⟨by have:=aZ (V.ok k hk);omega,?_,Mn.dN hw (fun x hx=>?_),hm⟩;{unfold jZ;rw[List.length_append,List.length_replicate];omega};rw[List.eq_of_mem_replicate hx];rfl
theorem dx (V:zW cs):∀(g n d k at':Nat)(B mem:List Int),k<cs.length->Good cs k at' B mem->(run cs g n d k at' B mem).BL
 |0,n,d,k,at',B,mem,hk,G=>⟨G.mm,by omega,by omega⟩
 |g+1,0,d,k,at',B,mem,hk,G=>⟨G.mm,by omega,by omega⟩
 | g + 1,n+1,d,k,at',B,mem,hk,G=>by
   have F:=dC V hk G
   rcases hs:aV cs k at' B mem with⟨a,b,m⟩|v|c|⟨x,q,args⟩
   · rw[dA hs]
     rw[hs]at F
     exact dx V g n d k a b m hk F
   · rw[iF hs]
     rw[hs]at F
     exact⟨F,G.mm⟩
   · rw[run_halt hs]
     rw[hs]at F
     have F':c=1\/c=2\/c=3\/c=4:=F
     exact⟨G.mm,by omega,by omega⟩
   · by_cases hd:12<=d+1
     · rw[dK hs hd]
       exact⟨G.mm,by omega,by omega⟩
     · rw[hs]at F
       obtain⟨f1,f2,f3,f4,f5⟩:=F
       have I:=dx V g n (d+1) q 0 (jZ args) mem f1 (cK V f1 f2 f3 G.mm)
       rcases hr:run cs g n (d+1) q 0 (jZ args) mem with⟨v,m,l⟩|⟨c,m,l⟩
       · rw[hr]at I
         rw[dL hs hd hr]
         exact dx V g l d k (at'+1) _ m hk (f5 m I.2 v I.1)
       · rw[hr]at I
         rw[dM hs hd hr]
         exact I
def dG (cs:List (List Ln))(ls:List Ln):Bool:=ls.all fun x=> !(decide (x.k=7)&&decide ((cs.length:Int)<=x.n))
def valid (cs:List (List Ln)):Bool:=decide (1<=cs.length/\cs.length<=4)&&cs.all fun ls=>Ln.isOk ls&&dG cs ls
def isOk (cs:List (List Ln))(k:Int)(args mem:List Int)(aG:Int):Bool:=
 valid cs&&(decide (0<=k/\k<cs.length)&&(decide (args.length<=3)&&(args.all Wd.ok&&(Mm.ok mem&&decide (0<=aG/\aG<=200000)))))
theorem iH {k aG:Int}{args:List Int}:isOk cs k args mem aG=true↔valid cs=true/\(0<=k/\k<cs.length)/\args.length<=3/\words args/\Mm.ok mem=true/\0<=aG/\aG<=200000:=by simp only[isOk,ak,decide_eq_true_eq,List.all_eq_true,words]
theorem lQ (h:valid cs=true):zW cs:=by unfold valid at h;simp only[ak,decide_eq_true_eq,List.all_eq_true]at h;obtain⟨h1,h2⟩:=h;have hm:∀k,k<cs.length->cs.getD k []∈cs:=fun k hk=>by{rw[ag,ah hk];exact List.getElem_mem hk};refine⟨h1,fun k hk=>(h2 _ (hm k hk)).1,fun k hk j hj h7=>?_⟩;have:=(h2 _ (hm k hk)).2;unfold dG at this;rw[List.all_eq_true]at this;have hj':line cs k j∈cs.getD k []:=by{unfold line;rw[ag (l:=cs.getD k []),ah hj];exact List.getElem_mem hj};have h3:=this _ hj';rw[Bool.not_eq_true',Bool.and_eq_false_iff,decide_eq_false_iff_not,decide_eq_false_iff_not]at h3;rcases h3 with h3|h3;{exact absurd h7 h3};omega
def out (cs:List (List Ln))(k:Int)(args mem:List Int)(n:Nat):Rs:=run cs (n+1) n 0 k.toNat 0 (jZ args) mem
def code (cs:List (List Ln))(k:Int)(args mem:List Int)(aG:Int):Int:=if isOk cs k args mem aG=true then(out cs k args mem aG.toNat).code else 7
def value (cs:List (List Ln))(k:Int)(args mem:List Int)(aG:Int):Int:=if isOk cs k args mem aG=true then(out cs k args mem aG.toNat).value else 0
def lM (cs:List (List Ln))(k:Int)(args mem:List Int)(aG:Int):List Int:=if isOk cs k args mem aG=true then(out cs k args mem aG.toNat).mem else[]
def KP (cs:List (List Ln))(k:Int)(args mem:List Int)(aG:Int):Int:=if isOk cs k args mem aG=true then aG-(out cs k args mem aG.toNat).left else -1
theorem nu {k aG:Int}{args:List Int}(h:isOk cs k args mem aG=true)(n:Nat):(out cs k args mem n).BL:=by obtain⟨h1,⟨h2,h3⟩,h4,h5,h6,h7⟩:=iH.1 h;have V:=lQ h1;exact dx V _ _ _ _ _ _ _ (by omega) (cK V (by omega) h4 h5 h6)
end Rl
namespace Lw
open Hg (arg)
def wd (f:Fn):Int:=f.a+f.l
def bx (f:Fn)(h:Int):Int:=wd f+h
def yM (f:Fn)(E H:List Int)(at':Nat)(dp:Int):Int×Int×Int:=
 if dp.toNat<(aO.jN f.b E at' at').length then
   let t:=((aO.jN f.b E at' at').getD dp.toNat (-1)).toNat
   if aO.op f.b t=9 then((t:Int)+1,0,0)else if aO.op f.b t=10 then(aO.aM E t,bx f (H.getD t 0-1),arg f.b t)else(aO.aM E t,bx f (H.getD t 0),arg f.b t)
 else((f.b.length:Int)-1,bx f 0,f.g)
def args (t:Int)(n:Int):List Int:=(List.range n.toNat).map fun(i:Nat)=>t-n+1+(i:Int)
def xD (fs:List Fn)(f:Fn)(E O H:List Int)(at':Nat)(p a t:Int):List (Ln×Int):=
 if p=1 then[(⟨1,t+1,0,0,a,[]⟩,-1)]
 else if p=2 then[(⟨2,t+1,a,0,0,[]⟩,-1)]
 else if p=3\/p=4 then[(⟨2,a,t,0,0,[]⟩,-1)]
 else if p=5 then[(⟨3,t-1,t-1,t,a,[]⟩,-1)]
 else if p=6 then[(⟨4,t,t,0,0,[]⟩,-1)]
 else if p=10 then[(⟨4,t,t,0,0,[]⟩,-1),(⟨6,0,t,0,0,[]⟩,if 0<=aO.aM O at' then aO.aM O at'+1 else aO.aM E at')]
 else if p=11 then[(⟨5,0,0,0,0,[]⟩,aO.aM E at')]
 else if p=13\/p=15 then
   let L:=yM f E H at' (if p=15 then 99 else a)
   (if L.2.2=1/\L.2.1≠t then[(⟨2,L.2.1,t,0,0,[]⟩,-1)]else[])++[(⟨5,0,0,0,0,[]⟩,L.1)]
 else if p=14 then
   let L:=yM f E H at' a
   if L.2.2=1/\L.2.1≠t-1 then[(⟨4,t,t,0,0,[]⟩,-1),(⟨6,0,t,0,0,[]⟩,(at':Int)+1),(⟨2,L.2.1,t-1,0,0,[]⟩,-1),(⟨5,0,0,0,0,[]⟩,L.1)]
   else[(⟨6,0,t,0,0,[]⟩,L.1)]
 else if p=16 then
   let g:=fs.getD a.toNat .z
   [(⟨7,if g.g=1 then t-g.a+1 else wd f+20,0,0,a,args t g.a⟩,-1)]
 else if p=17 then[(⟨8,t,t,0,a,[]⟩,-1)]
 else if p=18 then[(⟨9,0,t-1,t,a,[]⟩,-1)]
 else if p=19 then[(⟨11,0,0,0,0,[]⟩,-1)]
 else[]
def step (fs:List Fn)(f:Fn)(E O H:List Int)(at':Nat):List (Ln×Int):=xD fs f E O H at' (aO.op f.b at') (arg f.b at') (bx f (H.getD at' 0-1))
def first(f:Fn):List (Ln×Int):=(List.range f.l.toNat).map fun(i:Nat)=>(⟨1,f.a+(i:Int),0,0,0,[]⟩,-1)
def Az (fs:List Fn)(f:Fn)(E O H:List Int):Nat->List (Ln×Int)×List Int
 |0=>(first f,[])
 |i+1=>((Az fs f E O H i).1++(if 0<=H.getD i 0 then step fs f E O H i else[]),(Az fs f E O H i).2++[((Az fs f E O H i).1.length:Int)])
def last (f:Fn):List (Ln×Int):=if f.g=0 then[(⟨1,wd f+20,0,0,0,[]⟩,-1),(⟨10,0,wd f+20,0,0,[]⟩,-1)]else[(⟨10,0,wd f,0,0,[]⟩,-1)]
def raw (fs:List Fn)(f:Fn)(E O H:List Int):List (Ln×Int):=(Az fs f E O H f.b.length).1++last f
def Gp (fs:List Fn)(f:Fn)(E O H:List Int):List Int:=(Az fs f E O H f.b.length).2
def WR (st:List Int)(x:Ln×Int):Ln:=if 0<=x.2 then{x.1 with n:=st.getD x.2.toNat 0}else x.1
def func (fs:List Fn)(f:Fn)(E O H:List Int):List Ln:=if(raw fs f E O H).length<=300 then(raw fs f E O H).map (WR (Gp fs f E O H))else[]
end Lw
end Go.Proofs.YthkjdjmjdlimnaaGreat
