/-
  Own texts for a law: Run4 Run6 Run7 Rl0 Wlk3 Wlk4 Wlk5 Wlk6 CopO
-/
import Derived.Test.YthkjdjmjdlimnaaKQ10
import Derived.Test.YthkjdjmjdlimnaaKQ12
namespace Go.Proofs.Ythkjdjmjdlimnaa
open Go.RowKit Go.Shelf
set_option linter.all false
set_option maxRecDepth 100000
set_option maxHeartbeats 16000000
structure PC where
 P:Nat
 aF:Nat
 fs:List Fn
 fb:Nat
 fo:Nat
 Fc:Nat
 nb:Nat
 Nc:Nat
 ns:Nat->Nat
def PC.fv (c:PC):Value:= .slice (some ⟨c.fb,c.fo,none⟩) c.fs.length c.Fc
def PC.nv (c:PC):Value:= .slice (some ⟨c.nb,0,none⟩) c.fs.length c.Nc
structure KK where
 w:World
 k:Nat
 d:Nat
 C:Nat
 gl:Nat
 nl:Nat
 bb:Nat
 bo:Nat
 bl:Nat
 bc:Nat
def KK.bU (q:KK)(c:PC)(v u:Value)(aM:Int):List Value:=
 [.pointer (some ⟨c.P,0,none⟩), .slice (some ⟨q.bb,q.bo,none⟩) q.bl q.bc, .pointer (some ⟨c.ns q.k,0,none⟩), .slice (some ⟨q.gl,0,none⟩) q.nl q.nl,v,u, .int .i64 aM]
section
variable {c : PC} {q : KK} {aM : Int} {pile loc mem : List Int} {ls : List Mn.Lb} {b : Int} {W W' : World}
theorem fP {n₀ e k n b:Nat}{v:Value}{xs:List Value}(h:W.ownsRow n₀ e k v n xs){row:Option Nat}(hg:W.grownBy W' row)(hb:∀g,v.ownBlock=some g->row≠some g):W'.ownsRow n₀ e k v n xs:=by refine h.kept hg ?_;rcases hv:v.ownBlock with _|g;{exact .inl rfl};exact .inr (fun e=>hb g hv e.symm)
theorem bS.jb {b j:Nat}{v:Value}{t:TypeId}{vs:List Value}(h:bS W b t vs)(hs:gJ W W' b j v):bS W' b t (vs.set j v):=hs.2.trans (h.set j v)
end
theorem bM {A:Bool->World->Prop}{t:Bool}{x:World}(h:A t x):A (t||false) x:=by rw[Bool.or_false];exact h
theorem uH {A:Bool->World->Prop}{t:Bool}{x:World}(h:A true x):A (t||true) x:=by rw[Bool.or_true];exact h
theorem iG:(Try.prog.info? 60).map (·.size)=some 64:=by kernel_rfl
theorem fC {P:Program}(w:World)(g:Nat)(t ty:TypeId)(vs tl:List Value)(n:Nat)(e:TypeId)(hg:bS w g t (vs++tl))(hu:P.underlying ty=some (.array n e))(hi:(P.info? ty).map (·.size)=some vs.length):(Instr.loadAt ty (.pointer (some ⟨g,0,none⟩))).run P w= .ok (.agg vs.toArray) w:=by simp only[Instr.loadAt,Instr.sureAddr,Sem.run_bind,Sem.run_pure,Result.andThen];exact kI w g t ty vs tl n e hg hu hi
theorem dW {P:Program}{o:Oper}{b:Act}{x:World}{K:Act->World->Prop}{Q:Exit->Act->World->Prop}(ty:TypeId)(y:Operand)(ho:o.op= .load ty y)(v p:Value)(hp:b.eval y=p)(hrun:(Instr.loadAt ty p).run P x= .ok v x)(h:K (b.put o.dst v) x):o.wp P b x K Q:=by unfold Oper.wp execOp;simp only[ho,hp,Sem.run_bind,hrun,Result.andThen_ok];exact h
section
variable {c : PC} {q : KK} {aM : Int} {pile loc mem : List Int} {ls : List Mn.Lb} {b : Int} {W W' : World}
end
theorem nK {P:Program}{ops:Array Oper}{rest:List Oper}{o:Oper}{a:Act}{w:World}{Q:Exit->Act->World->Prop}(hgd:o.guard=none)(ty:TypeId)(x y:Operand)(ho:o.op= .store ty x y)(g:Nat)(hx:a.eval x= .pointer (some ⟨g,0,none⟩))(ws:List Value)(hy:a.eval y= .agg ws.toArray)(t:TypeId)(vs tl:List Value)(hg:bS w g t (vs++tl))(hi:(P.info? ty).map (·.size)=some ws.length)(hl:vs.length=ws.length)(h1:∀v∈ws,v.oneCell'=true)(h:∀w',bS w' g t (ws++tl)->w.grownBy w' (some g)->wpList P ops Q rest (a.put o.dst undef) w'):wpList P ops Q (o::rest) a w:=by refine wpList_plain hgd fun K hK=>?_;obtain⟨w',hrun,hA,hgr⟩:=jO (P:=P) w g t ty vs ws tl hg hi hl h1;unfold Oper.wp execOp;simp only[ho,hx,hy,Instr.storeAt,Instr.sureAddr,Sem.run_bind,Sem.run_pure,Result.andThen_ok,hrun];exact hK _ _ (h w' hA hgr)
section
variable {c : PC} {q : KK} {aM : Int} {pile loc mem : List Int} {ls : List Mn.Lb} {b : Int} {W W' : World}
end
namespace Rl
open Mn (Rs words)
abbrev Sr:Type:=(Nat×List Int×List Int) ⊕ Int ⊕ Int ⊕ (Nat×Nat×List Int)
abbrev Sr.next (at':Nat)(B mem:List Int):Sr:= .inl (at',B,mem)
abbrev Sr.nC (v:Int):Sr:= .inr (.inl v)
abbrev Sr.halt (c:Int):Sr:= .inr (.inr (.inl c))
abbrev Sr.call (d q:Nat)(args:List Int):Sr:= .inr (.inr (.inr (d,q,args)))
def bx (B:List Int)(j:Int):Int:=B.getD j.toNat 0
def step (x:Ln)(at':Nat)(B mem:List Int):Sr:=
 if x.k=1 then .next (at'+1) (B.set x.d.toNat x.n) mem
 else if x.k=2 then .next (at'+1) (B.set x.d.toNat (bx B x.a)) mem
 else if x.k=3 then(if Wd.dc x.n (bx B x.a) (bx B x.b)=0 then .next (at'+1) (B.set x.d.toNat (Wd.dv x.n (bx B x.a) (bx B x.b))) mem else .halt (Wd.dc x.n (bx B x.a) (bx B x.b)))
 else if x.k=4 then .next (at'+1) (B.set x.d.toNat (if bx B x.a=0 then 1 else 0)) mem
 else if x.k=5 then .next x.n.toNat B mem
 else if x.k=6 then .next (if bx B x.a=0 then at'+1 else x.n.toNat) B mem
 else if x.k=7 then .call x.d.toNat x.n.toNat (x.l.map (bx B))
 else if x.k=8 then(if Mm.there (bx B x.a) x.n=true then .next (at'+1) (B.set x.d.toNat (Mm.fB mem (bx B x.a+x.n).toNat 4)) mem else .halt 3)
 else if x.k=9 then(if Mm.there (bx B x.a) x.n=true then .next (at'+1) B (Mm.dR mem (bx B x.a+x.n).toNat (bx B x.b) 4)else .halt 3)
 else if x.k=10 then .nC (bx B x.a)
 else if x.k=11 then .halt 4
 else .next (at'+1) B mem
def line (cs:List (List Ln))(k at':Nat):Ln:=(cs.getD k []).getD at' .z
def aT (cs:List (List Ln))(k at':Nat)(B mem:List Int):Sr:=step (line cs k at') at' B mem
def jG (args:List Int):List Int:=args++List.replicate (40-args.length) 0
def run (cs:List (List Ln)):Nat->Nat->Nat->Nat->Nat->List Int->List Int->Rs
 |0,aF,_,_,_,_,mem=> .stop 5 mem aF
 |_+1,0,_,_,_,_,mem=> .stop 5 mem 0
 | g +1,n+1,d,k,at',B,mem=>
   match aT cs k at' B mem with
   | .inl (a,b,m)=>run cs g n d k a b m
   | .inr (.inl v)=> .done v mem n
   | .inr (.inr (.inl c))=> .stop c mem n
   | .inr (.inr (.inr (x,q,args)))=>
     if 12<=d+1 then .stop 6 mem n else
     match run cs g n (d+1) q 0 (jG args) mem with
     | .inr (c,m,l)=> .stop c m l
     | .inl (v,m,l)=>run cs g l d k (at'+1) (B.set x v) m
variable {cs : List (List Ln)} {g n d k at' : Nat} {B mem : List Int}
theorem dh {a:Nat}{b m:List Int}(h:aT cs k at' B mem= .next a b m):run cs (g+1) (n+1) d k at' B mem=run cs g n d k a b m:=by rw[run,h]
theorem gV {v:Int}(h:aT cs k at' B mem= .nC v):run cs (g+1) (n+1) d k at' B mem= .done v mem n:=by rw[run,h]
theorem run_halt {c:Int}(h:aT cs k at' B mem= .halt c):run cs (g+1) (n+1) d k at' B mem= .stop c mem n:=by rw[run,h]
theorem dF {x q:Nat}{args:List Int}(h:aT cs k at' B mem= .call x q args)(hd:12<=d+1):run cs (g+1) (n+1) d k at' B mem= .stop 6 mem n:=by rw[run,h];exact ax hd
theorem dG {x q l:Nat}{c:Int}{args m:List Int}(h:aT cs k at' B mem= .call x q args)(hd:¬12<=d+1)(hr:run cs g n (d+1) q 0 (jG args) mem= .stop c m l):run cs (g+1) (n+1) d k at' B mem= .stop c m l:=by rw[run,h];show(if _ then _ else _)=_;rw[au hd,hr]
theorem dD {x q l:Nat}{v:Int}{args m:List Int}(h:aT cs k at' B mem= .call x q args)(hd:¬12<=d+1)(hr:run cs g n (d+1) q 0 (jG args) mem= .done v m l):run cs (g+1) (n+1) d k at' B mem=run cs g l d k (at'+1) (B.set x v) m:=by(conv=>lhs;rw[run,h]);show(if _ then _ else _)=_;rw[au hd,hr]
theorem dK:∀(g n d k at':Nat)(B mem:List Int),(run cs g n d k at' B mem).left<=n/\(0<g->0<n->(run cs g n d k at' B mem).left<n)
 |0,n,d,k,at',B,mem=>⟨Nat.le_refl _,fun h=>by omega⟩
 |g+1,0,d,k,at',B,mem=>⟨Nat.le_refl _,fun _ h=>by omega⟩
 | g + 1,n+1,d,k,at',B,mem=>by
   suffices h:(run cs (g+1) (n+1) d k at' B mem).left<=n from⟨by omega,fun _ _=>by omega⟩
   rcases hs:aT cs k at' B mem with⟨a,b,m⟩|p|c|⟨x,q,args⟩
   · rw[dh hs];exact(dK g n d k a b m).1
   · rw[gV hs];exact Nat.le_refl _
   · rw[run_halt hs];exact Nat.le_refl _
   · by_cases hd:12<=d+1
     · rw[dF hs hd];exact Nat.le_refl _
     · have h1:=(dK g n (d+1) q 0 (jG args) mem).1
       rcases hr:run cs g n (d+1) q 0 (jG args) mem with⟨v,m,l⟩|⟨c,m,l⟩
       · rw[dD hs hd hr]
         rw[hr]at h1
         have h2:=(dK g l d k (at'+1) (B.set x v) m).1
         simp only[Rs.left]at h1
         omega
       · rw[dG hs hd hr]
         rw[hr]at h1
         exact h1
theorem fG:∀(g g' n d k at':Nat)(B mem:List Int),n<g->n<g'->run cs g n d k at' B mem=run cs g' n d k at' B mem
 |0,g',n,d,k,at',B,mem,h,_=>by omega
 |g+1,0,n,d,k,at',B,mem,_,h=>by omega
 |g+1,g'+1,0,d,k,at',B,mem,_,_=>by rw[run,run]
 | g + 1,g'+1,n+1,d,k,at',B,mem,h,h'=>by
   rcases hs:aT cs k at' B mem with⟨a,b,m⟩|p|c|⟨x,q,args⟩
   · rw[dh hs,dh hs];exact fG g g' n d k a b m (by omega) (by omega)
   · rw[gV hs,gV hs]
   · rw[run_halt hs,run_halt hs]
   · by_cases hd:12<=d+1
     · rw[dF hs hd,dF hs hd]
     · have e:=fG g g' n (d+1) q 0 (jG args) mem (by omega) (by omega)
       have h1:=(dK (cs:=cs) g n (d+1) q 0 (jG args) mem).1
       rcases hr:run cs g n (d+1) q 0 (jG args) mem with⟨v,m,l⟩|⟨c,m,l⟩
       · rw[hr]at h1
         simp only[Rs.left]at h1
         rw[dD hs hd hr,dD hs hd (e▸hr)]
         exact fG g g' l d k (at'+1) _ m (by omega) (by omega)
       · rw[dG hs hd hr,dG hs hd (e▸hr)]
structure Good (cs:List (List Ln))(k at':Nat)(B mem:List Int):Prop where
 lt:at'<(cs.getD k []).length
 lB:B.length=40
 wB:words B
 mm:Mm.ok mem=true
structure yA (cs:List (List Ln)):Prop where
 len:1<=cs.length/\cs.length<=4
 ok:∀k,k<cs.length->Ln.isOk (cs.getD k [])=true
 call:∀k,k<cs.length->∀j,j<(cs.getD k []).length->(line cs k j).k=7->(line cs k j).n<cs.length
def nG (cs:List (List Ln))(k at':Nat)(B mem:List Int):Sr->Prop
 | .inl (a,b,m)=>Good cs k a b m
 | .inr (.inl v)=>Wd.ok v=true
 | .inr (.inr (.inl c))=>c=1\/c=2\/c=3\/c=4
 | .inr (.inr (.inr (x,q,args)))=>q<cs.length/\args.length<=3/\words args/\x<40/\∀m,Mm.ok m=true->∀v,Wd.ok v=true->Good cs k (at'+1) (B.set x v) m
theorem aW {ls:List Ln}(h:Ln.isOk ls=true):1<=ls.length/\ls.length<=300:=by unfold Ln.isOk at h;simp only[ak,decide_eq_true_eq]at h;exact h.1
theorem jm {ls:List Ln}(h:Ln.isOk ls=true){j:Nat}(hj:j<ls.length):Ln.ok (ls.getD j .z)=true/\((ls.getD j .z).k=5\/(ls.getD j .z).k=6->(ls.getD j .z).n<ls.length)/\(j+1=ls.length->(ls.getD j .z).k=5\/(ls.getD j .z).k=10\/(ls.getD j .z).k=11):=by unfold Ln.isOk at h;simp only[ak,decide_eq_true_eq,List.all_eq_true]at h;obtain⟨-,h2,h3⟩:=h;have hm:ls.getD j .z∈ls:=by{rw[ag,ah hj];exact List.getElem_mem hj};have h4:=h2 _ hm;unfold Ln.fE at h4;rw[ak]at h4;refine⟨h4.1,fun hk=>?_,fun he=>?_⟩;{have h5:=h4.2;rw[Bool.not_eq_true',Bool.and_eq_false_iff]at h5;rcases h5 with h5|h5;{rw[Bool.or_eq_false_iff,decide_eq_false_iff_not,decide_eq_false_iff_not]at h5;rcases hk with hk|hk;{exact absurd hk h5.1};exact absurd hk h5.2};rw[decide_eq_false_iff_not]at h5;omega};unfold Ln.iH at h3;rw[show ls.length-1=j by omega]at h3;simp only[Bool.or_eq_true,decide_eq_true_eq]at h3;omega
theorem BX {a x y:Int}(ha:1<=a/\a<=12)(hx:Wd.ok x=true)(hy:Wd.ok y=true)(h:Wd.dc a x y≠0):Wd.dc a x y=1\/Wd.dc a x y=2\/Wd.dc a x y=3\/Wd.dc a x y=4:=by rcases Wd.rX a x y with⟨q,-,-⟩|⟨q,-⟩|⟨q,-,-⟩;{exact absurd q h};{exfalso;unfold Wd.dc at q;rw[ax ⟨hx,hy⟩,au (by omega)]at q;split at q;{split at q;{cases q};split at q<;>cases q};cases q};omega
theorem dm (V:yA cs)(hk:k<cs.length)(G:Good cs k at' B mem):nG cs k at' B mem (aT cs k at' B mem):=by have lq:=V.ok k hk;obtain⟨hok,A7,hlast⟩:=jm lq G.lt;have hcall:=V.call k hk at' G.lt;have hlt:=G.lt;change Ln.ok (line cs k at')=true at hok;change(line cs k at').k=5\/(line cs k at').k=6->(line cs k at').n<_ at A7;change at'+1=_->(line cs k at').k=5\/(line cs k at').k=10\/(line cs k at').k=11 at hlast;unfold aT;obtain⟨x,hx⟩:∃x,line cs k at'=x:=⟨_,rfl⟩;rw[hx]at hok A7 hlast hcall ⊢;clear hx;have hkk:=Ln.eD hok;have hs3:=Ln.zS hok;have hq:∀j,Wd.ok (bx B j)=true:=fun j=>Mn.bg G.wB _;obtain⟨p,dd,a,b,nn,l⟩:=x;simp only at hok A7 hlast hcall hkk hs3;have nx:p≠5->p≠10->p≠11->at'+1<(cs.getD k []).length:=fun h1 h2 h3=>by{rcases Nat.lt_or_ge (at'+1) (cs.getD k []).length with h|h;{exact h};have:=hlast (by omega);omega};have hset:p≠5->p≠10->p≠11->∀v,Wd.ok v=true->∀m,Mm.ok m=true->Good cs k (at'+1) (B.set dd.toNat v) m:=fun h1 h2 h3 v hv m hm=>⟨nx h1 h2 h3,by rw[List.length_set];exact G.lB,Mn.kN G.wB hv _,hm⟩;unfold Ln.ok at hok;rw[ak]at hok;have has:=hok.2;unfold step;simp only;have hc:p=1\/p=2\/p=3\/p=4\/p=5\/p=6\/p=7\/p=8\/p=9\/p=10\/p=11:=by{omega};rcases hc with rfl|rfl|rfl|rfl|rfl|rfl|rfl|rfl|rfl|rfl|rfl;{simp[Ln.asks]at has;exact hset (by omega) (by omega) (by omega) _ has.2.1 _ G.mm};{exact hset (by omega) (by omega) (by omega) _ (hq _) _ G.mm};{simp[Ln.asks,Wd.bf]at has;show nG cs k at' B mem (if _ then _ else _);by_cases h:Wd.dc nn (bx B a) (bx B b)=0;{rw[ax h];exact hset (by omega) (by omega) (by omega) _ (Wd.Dr _ _ _) _ G.mm};rw[au h];exact BX (by omega) (hq _) (hq _) h};{exact hset (by omega) (by omega) (by omega) _ (by split<;>rfl) _ G.mm};{simp[Ln.asks,Wd.bf]at has;exact⟨by have:=A7 (.inl rfl);omega,G.lB,G.wB,G.mm⟩};{simp[Ln.asks,Wd.bf]at has;refine⟨?_,G.lB,G.wB,G.mm⟩;have h1:=A7 (.inr rfl);have h2:=nx (by omega) (by omega) (by omega);split<;>omega};{simp[Ln.asks,Wd.bf,Ln.bN]at has;refine⟨by have:=hcall rfl;omega,by rw[List.length_map];exact hs3,fun y hy=>?_,by omega,fun m hm v hv=>hset (by omega) (by omega) (by omega) v hv m hm⟩;obtain⟨j,-,rfl⟩:=List.mem_map.1 hy;exact hq j};{simp[Ln.asks,Wd.bf]at has;show nG cs k at' B mem (if _ then _ else _);by_cases h:Mm.there (bx B a) nn=true;{rw[ax h];have hb:=Mm.lM (Mm.gu G.mm) (bx B a+nn).toNat 4;rw[show(256:Int) ^ 4=4294967296 from rfl]at hb;exact hset (by omega) (by omega) (by omega) _ (Wd.aL.2 (by omega)) _ G.mm};rw[au h];exact .inr (.inr (.inl rfl))};{show nG cs k at' B mem (if Mm.there (bx B a) nn=true then Sr.next (at'+1) B (Mm.dR mem (bx B a+nn).toNat (bx B b) 4)else Sr.halt 3);by_cases h:Mm.there (bx B a) nn=true;{rw[ax h];obtain⟨q,q1,q2,q3⟩:=Mm.place h;exact⟨nx (by omega) (by omega) (by omega),G.lB,G.wB,by rw[q2];exact Mm.ze _ G.mm q3⟩};rw[au h];exact .inr (.inr (.inl rfl))};{exact hq _};exact .inr (.inr (.inr rfl))
theorem bY (V:yA cs)(hk:k<cs.length){args:List Int}(hl:args.length<=3)(hw:words args)(hm:Mm.ok mem=true):Good cs k 0 (jG args) mem:=by refine⟨by have:=aW (V.ok k hk);omega,?_,Mn.dJ hw (fun x hx=>?_),hm⟩;{unfold jG;rw[List.length_append,List.length_replicate];omega};rw[List.eq_of_mem_replicate hx];rfl
theorem df (V:yA cs):∀(g n d k at':Nat)(B mem:List Int),k<cs.length->Good cs k at' B mem->(run cs g n d k at' B mem).AQ
 |0,n,d,k,at',B,mem,hk,G=>⟨G.mm,by omega,by omega⟩
 |g+1,0,d,k,at',B,mem,hk,G=>⟨G.mm,by omega,by omega⟩
 | g + 1,n+1,d,k,at',B,mem,hk,G=>by
   have F:=dm V hk G
   rcases hs:aT cs k at' B mem with⟨a,b,m⟩|v|c|⟨x,q,args⟩
   · rw[dh hs]
     rw[hs]at F
     exact df V g n d k a b m hk F
   · rw[gV hs]
     rw[hs]at F
     exact⟨F,G.mm⟩
   · rw[run_halt hs]
     rw[hs]at F
     have F':c=1\/c=2\/c=3\/c=4:=F
     exact⟨G.mm,by omega,by omega⟩
   · by_cases hd:12<=d+1
     · rw[dF hs hd]
       exact⟨G.mm,by omega,by omega⟩
     · rw[hs]at F
       obtain⟨f1,f2,f3,f4,f5⟩:=F
       have I:=df V g n (d+1) q 0 (jG args) mem f1 (bY V f1 f2 f3 G.mm)
       rcases hr:run cs g n (d+1) q 0 (jG args) mem with⟨v,m,l⟩|⟨c,m,l⟩
       · rw[hr]at I
         rw[dD hs hd hr]
         exact df V g l d k (at'+1) _ m hk (f5 m I.2 v I.1)
       · rw[hr]at I
         rw[dG hs hd hr]
         exact I
def dA (cs:List (List Ln))(ls:List Ln):Bool:=ls.all fun x=> !(decide (x.k=7)&&decide ((cs.length:Int)<=x.n))
def valid (cs:List (List Ln)):Bool:=decide (1<=cs.length/\cs.length<=4)&&cs.all fun ls=>Ln.isOk ls&&dA cs ls
def isOk (cs:List (List Ln))(k:Int)(args mem:List Int)(aF:Int):Bool:=
 valid cs&&(decide (0<=k/\k<cs.length)&&(decide (args.length<=3)&&(args.all Wd.ok&&(Mm.ok mem&&decide (0<=aF/\aF<=200000)))))
theorem fJ {k aF:Int}{args:List Int}:isOk cs k args mem aF=true↔valid cs=true/\(0<=k/\k<cs.length)/\args.length<=3/\words args/\Mm.ok mem=true/\0<=aF/\aF<=200000:=by simp only[isOk,ak,decide_eq_true_eq,List.all_eq_true,words]
theorem kM (h:valid cs=true):yA cs:=by unfold valid at h;simp only[ak,decide_eq_true_eq,List.all_eq_true]at h;obtain⟨h1,h2⟩:=h;have hm:∀k,k<cs.length->cs.getD k []∈cs:=fun k hk=>by{rw[ag,ah hk];exact List.getElem_mem hk};refine⟨h1,fun k hk=>(h2 _ (hm k hk)).1,fun k hk j hj h7=>?_⟩;have:=(h2 _ (hm k hk)).2;unfold dA at this;rw[List.all_eq_true]at this;have hj':line cs k j∈cs.getD k []:=by{unfold line;rw[ag (l:=cs.getD k []),ah hj];exact List.getElem_mem hj};have h3:=this _ hj';rw[Bool.not_eq_true',Bool.and_eq_false_iff,decide_eq_false_iff_not,decide_eq_false_iff_not]at h3;rcases h3 with h3|h3;{exact absurd h7 h3};omega
def out (cs:List (List Ln))(k:Int)(args mem:List Int)(n:Nat):Rs:=run cs (n+1) n 0 k.toNat 0 (jG args) mem
def code (cs:List (List Ln))(k:Int)(args mem:List Int)(aF:Int):Int:=if isOk cs k args mem aF=true then(out cs k args mem aF.toNat).code else 7
def value (cs:List (List Ln))(k:Int)(args mem:List Int)(aF:Int):Int:=if isOk cs k args mem aF=true then(out cs k args mem aF.toNat).value else 0
def uJ (cs:List (List Ln))(k:Int)(args mem:List Int)(aF:Int):List Int:=if isOk cs k args mem aF=true then(out cs k args mem aF.toNat).mem else[]
def Ck (cs:List (List Ln))(k:Int)(args mem:List Int)(aF:Int):Int:=if isOk cs k args mem aF=true then aF-(out cs k args mem aF.toNat).left else -1
theorem mG {k aF:Int}{args:List Int}(h:isOk cs k args mem aF=true)(n:Nat):(out cs k args mem n).AQ:=by obtain⟨h1,⟨h2,h3⟩,h4,h5,h6,h7⟩:=fJ.1 h;have V:=kM h1;exact df V _ _ _ _ _ _ _ (by omega) (bY V (by omega) h4 h5 h6)
theorem rz (cs:List (List Ln))(k:Int)(args mem:List Int)(n:Nat):(out cs k args mem n).left<=n:=(dK _ _ _ _ _ _ _).1
end Rl
structure CC where
 w:World
 k:Nat
 d:Nat
 fb:Nat
 gl:Nat
 cl:Nat
 bb:Nat
 bo:Nat
 bl:Nat
 bc:Nat
 R:Mn.Rs
structure CQ (c:WC)(W0:World)(q:CC):Prop where
 tab:TC c W0
 lt:q.k<c.fs.length
 dp:q.d<12
 bV:lG c W0 q.w
 XD:q.w.cell? ⟨c.fb,c.fo+q.k*4+3,none⟩=some (.slice (some ⟨q.bb,q.bo,none⟩) q.bl q.bc)
 bL:c.B<q.w.heap.size
 uj:c.M<q.w.heap.size
 len:(Mn.fn c.fs q.k).b.length=q.bl
 XE:q.bl<=80
structure CI (c:WC)(W0:World)(q:CC)(at':Nat)(pile loc mem:List Int)(n gp cp:Nat)(wr:World):Prop where
 nb:n<=3000
 wk:WK c W0 wr mem n 0
 fx:bC wr q.fb [.int .i64 (Mn.fn c.fs q.k).a, .int .i64 (Mn.fn c.fs q.k).l, .int .i64 (Mn.fn c.fs q.k).g, .slice (some ⟨q.bb,q.bo,none⟩) q.bl q.bc]
 lr:wr.ownsRow (q.fb+1) 2 1 (.slice (some ⟨q.gl,0,none⟩) loc.length q.cl) loc.length (loc.map iv)
 pr:wr.ownsRow (q.gl+1) 2 1 (.slice (some ⟨gp,0,none⟩) pile.length cp) pile.length (pile.map iv)
 n4:q.w.heap.size<=q.fb
 bV:lG c q.w wr
 good:Mn.Good c.fs (Mn.fn c.fs q.k) (Mn.yE c.fs q.k) at' pile loc mem
 run:Mn.run c.fs (n+1) n q.d q.k at' pile loc mem=q.R
theorem CI.next {c:WC}{W0:World}{q:CC}{at':Nat}{pile loc mem:List Int}{m gp cp:Nat}{wr:World}(Q:CQ c W0 q)(h:CI c W0 q at' pile loc mem (m+1) gp cp wr){a2:Nat}{p2 l2 m2:List Int}(hs:Mn.aT c.fs q.k at' pile loc mem= .next a2 p2 l2 m2):Mn.Good c.fs (Mn.fn c.fs q.k) (Mn.yE c.fs q.k) a2 p2 l2 m2/\Mn.run c.fs (m+1) m q.d q.k a2 p2 l2 m2=q.R:=by have F:Mn.nG c.fs (Mn.fn c.fs q.k) (Mn.yE c.fs q.k) at' loc mem (Mn.aT c.fs q.k at' pile loc mem):=Mn.dm (Md.bT Q.tab.val.all Q.lt) Q.tab.val.all (Q.tab.val.acc q.k Q.lt) h.good;rw[hs]at F;exact⟨F,by rw[←h.run,Mn.dh hs]⟩
theorem CI.fin {c:WC}{W0:World}{q:CC}{at':Nat}{pile loc mem:List Int}{m gp cp:Nat}{wr:World}(Q:CQ c W0 q)(h:CI c W0 q at' pile loc mem (m+1) gp cp wr){p2:List Int}(hs:Mn.aT c.fs q.k at' pile loc mem= .fin p2):(p2.length:Int)=(Mn.fn c.fs q.k).g/\q.R= .done (Mn.gives (Mn.fn c.fs q.k) p2) mem m:=by have F:Mn.nG c.fs (Mn.fn c.fs q.k) (Mn.yE c.fs q.k) at' loc mem (Mn.aT c.fs q.k at' pile loc mem):=Mn.dm (Md.bT Q.tab.val.all Q.lt) Q.tab.val.all (Q.tab.val.acc q.k Q.lt) h.good;rw[hs]at F;exact⟨F.1,by rw[←h.run,Mn.jQ hs]⟩
theorem CI.halt {c:WC}{W0:World}{q:CC}{at':Nat}{pile loc mem:List Int}{m gp cp:Nat}{wr:World}(h:CI c W0 q at' pile loc mem (m+1) gp cp wr){e:Int}(hs:Mn.aT c.fs q.k at' pile loc mem= .halt e):q.R= .stop e mem m:=by rw[←h.run,Mn.run_halt hs]
structure CO (c:WC)(q:CC)(pile loc:List Int)(gp cp:Nat)(wr:World):Prop where
 fx:bC wr q.fb [.int .i64 (Mn.fn c.fs q.k).a, .int .i64 (Mn.fn c.fs q.k).l, .int .i64 (Mn.fn c.fs q.k).g, .slice (some ⟨q.bb,q.bo,none⟩) q.bl q.bc]
 lr:wr.ownsRow (q.fb+1) 2 1 (.slice (some ⟨q.gl,0,none⟩) loc.length q.cl) loc.length (loc.map iv)
 pr:wr.ownsRow (q.gl+1) 2 1 (.slice (some ⟨gp,0,none⟩) pile.length cp) pile.length (pile.map iv)
theorem CI.own {c:WC}{W0:World}{q:CC}{at':Nat}{pile loc mem:List Int}{n gp cp:Nat}{wr:World}(h:CI c W0 q at' pile loc mem n gp cp wr):CO c q pile loc gp cp wr:=⟨h.fx,h.lr,h.pr⟩
theorem CO.fO {c:WC}{q:CC}{pile loc:List Int}{gp cp:Nat}{W W':World}{row:Option Nat}(h:CO c q pile loc gp cp W)(hg:W.grownBy W' row)(h1:row≠some q.fb)(h2:row≠some q.gl)(h3:row≠some gp):CO c q pile loc gp cp W':=
 ⟨h.fx.fO hg h1,h.lr.kept hg (.inr (by simpa[Value.ownBlock]using Ne.symm h2)),h.pr.kept hg (.inr (by simpa[Value.ownBlock]using Ne.symm h3))⟩
theorem CO.kept {c:WC}{q:CC}{pile loc:List Int}{gp cp:Nat}{W W':World}(h:CO c q pile loc gp cp W)(hB:Below W.heap.size W W'):CO c q pile loc gp cp W':=
 h.fO (row:=none) ⟨hB.os,hB.tape,hB.output,hB.size,fun k hk _=>hB.block k hk⟩ (by simp) (by simp) (by simp)
theorem CO.ord {c:WC}{q:CC}{pile loc:List Int}{gp cp:Nat}{W:World}(h:CO c q pile loc gp cp W):q.fb<q.gl/\q.gl<gp/\gp<W.heap.size:=by have h1:=h.lr.lt q.gl rfl;have h2:=h.pr.lt gp rfl;omega
theorem CO.cut {c:WC}{q:CC}{pile loc:List Int}{gp cp:Nat}{W:World}(h:CO c q pile loc gp cp W)(n:Nat)(hn:n<=pile.length):CO c q (pile.take n) loc gp cp W:=by refine⟨h.fx,h.lr,?_⟩;have:=Ae h.pr n hn;rw[Nat.mul_one,←List.map_take]at this;rw[List.length_take,Nat.min_eq_left hn];exact this
theorem lG.grow {c:WC}{W0 W W':World}{r:Nat}(h:lG c W0 W)(hg:W.grownBy W' (some r))(hr:W0.heap.size<=r\/r=c.B\/r=c.M):lG c W0 W':=
 ⟨hg.os.trans h.os,hg.tape.trans h.tape,hg.output.trans h.out,Nat.le_trans h.size hg.size,fun i hi h1 h2=>(hg.block i (ai hi h.size) (by
   simp only[ne_eq,af]
   rcases hr with hr|rfl|rfl
   · omega
   · exact h1
   · exact h2)).trans (h.blk i hi h1 h2)⟩
theorem WK.fO {c:WC}{W0 W W':World}{mem:List Int}{aF code:Int}{r:Nat}(h:WK c W0 W mem aF code)(hg:W.grownBy W' (some r))(hr:W0.heap.size<=r)(h1:r≠c.B)(h2:r≠c.M):WK c W0 W' mem aF code:=
 ⟨h.bV.grow hg (.inl hr),h.box.fO hg (by simpa using h1),h.row.kept hg (.inr (by simpa[Value.ownBlock]using Ne.symm h2))⟩
structure CM (c:WC)(W0:World)(q:CC)(pile loc mem:List Int)(n gp cp:Nat)(wr:World):Prop where
 wk:WK c W0 wr mem n 0
 co:CO c q pile loc gp cp wr
 n4:q.w.heap.size<=q.fb
 bV:lG c q.w wr
theorem CM.kept {c:WC}{W0:World}{q:CC}{pile loc mem:List Int}{n gp cp:Nat}{W W':World}(h:CM c W0 q pile loc mem n gp cp W)(hB:Below W.heap.size W W'):CM c W0 q pile loc mem n gp cp W':=
 ⟨h.wk.kept hB,h.co.kept hB,h.n4,h.bV.trans (lG.below hB)⟩
theorem CM.cut {c:WC}{W0:World}{q:CC}{pile loc mem:List Int}{n gp cp:Nat}{W:World}(h:CM c W0 q pile loc mem n gp cp W)(k:Nat)(hk:k<=pile.length):CM c W0 q (pile.take k) loc mem n gp cp W:=⟨h.wk,h.co.cut k hk,h.n4,h.bV⟩
theorem CI.cm {c:WC}{W0:World}{q:CC}{at':Nat}{pile loc mem:List Int}{n gp cp:Nat}{wr:World}(h:CI c W0 q at' pile loc mem n gp cp wr):CM c W0 q pile loc mem n gp cp wr:=⟨h.wk,h.own,h.n4,h.bV⟩
theorem WK.set {c:WC}{W0 W:World}{mem:List Int}{aF code:Int}(T:TC c W0)(h:WK c W0 W mem aF code)(x:Int):WK c W0 (W.setCell ⟨c.B,6,none⟩ (.int .i64 x)) mem x code/\WK c W0 (W.setCell ⟨c.B,7,none⟩ (.int .i64 x)) mem aF x:=by
 have hr:∀o v,(W.setCell ⟨c.B,o,none⟩ v).ownsRow 0 2 1 (.slice (some ⟨c.M,0,none⟩) 64 c.Mc) 64 (mem.map iv):=fun o v=>
  h.row.kept (row:=some c.B) (aC W ⟨c.B,o,none⟩ v) (.inr (by simpa[Value.ownBlock]using Ne.symm T.ne))
 have ha:∀o v,lG c W0 (W.setCell ⟨c.B,o,none⟩ v):=fun o v=>h.bV.trans (lG.grown (aC W ⟨c.B,o,none⟩ v) (.inr (.inl rfl)))
 exact⟨⟨ha _ _,h.box.set 6 _,hr _ _⟩,⟨ha _ _,h.box.set 7 _,hr _ _⟩⟩
theorem CM.aF {c:WC}{W0:World}{q:CC}{pile loc mem:List Int}{n gp cp:Nat}{W:World}(Q:CQ c W0 q)(h:CM c W0 q pile loc mem n gp cp W)(m:Nat):CM c W0 q pile loc mem m gp cp (W.setCell ⟨c.B,6,none⟩ (.int .i64 (m:Int))):=by obtain⟨o1,o2,o3⟩:=h.co.ord;have h4:=h.n4;have iB:=Q.bL;have hg:=aC W ⟨c.B,6,none⟩ (.int .i64 (m:Int));exact⟨(h.wk.set Q.tab (m:Int)).1,h.co.fO hg (by simp only[ne_eq,af];omega) (by simp only[ne_eq,af];omega) (by simp only[ne_eq,af];omega),h.n4,h.bV.grow hg (.inr (.inl rfl))⟩
namespace Mn
open Hg
variable {fs : List Fn} {k aM : Nat} {pile loc mem : List Int} {a : Int}
end Mn
theorem CI.take {c:WC}{W0:World}{q:CC}{at':Nat}{pile loc mem:List Int}{n gp cp:Nat}{wr:World}(Q:CQ c W0 q)(h:CI c W0 q at' pile loc mem n gp cp wr):Hg.Typed c.fs (Mn.fn c.fs q.k) (aO.ends (Mn.fn c.fs q.k).b) (aO.eZ (Mn.fn c.fs q.k).b) (Mn.yE c.fs q.k) at':=
 (Q.tab.val.acc q.k Q.lt).typ at' h.good.lt (by have:=h.good.here;omega)
theorem wZ {W:World}{b g c j n:Nat}{xs:List Int}(h:W.ownsRow b 2 1 (.slice (some ⟨g,0,none⟩) n c) n (xs.map iv))(hl:xs.length=n)(hj:j<n):W.cell? ⟨g,j,none⟩=some (.int .i64 (xs.getD j 0)):=by rw[h.cellAt j (by omega),dP (by omega)];rfl
namespace Mn
open Hg
end Mn
theorem add_zero (g j:Nat):(⟨g,0,none⟩:Addr).add j=⟨g,j,none⟩:=by unfold Addr.add;split<;>simp_all
theorem CM.EB {c:WC}{W0:World}{q:CC}{pile loc mem:List Int}{n gp cp:Nat}{W:World}(Q:CQ c W0 q)(h:CM c W0 q pile loc mem n gp cp W)(i:Nat)(x:Int):CM c W0 q (pile.set i x) loc mem n gp cp (W.setCell ⟨gp,i,none⟩ (.int .i64 x)):=by obtain⟨o1,o2,o3⟩:=h.co.ord;have h4:=h.n4;have iB:=Q.bL;have iM:=Q.uj;have s0:=Q.bV.size;have hg:W.grownBy (W.setCell ⟨gp,i,none⟩ (.int .i64 x)) (some gp):=aC W ⟨gp,i,none⟩ (.int .i64 x);have hst:=(h.co.pr.stored i (.int .i64 x)).1;rw[←eP]at hst;refine⟨h.wk.fO hg (by omega) (by omega) (by omega),⟨h.co.fx.fO hg (by simp only[ne_eq,af];omega),h.co.lr.kept hg (.inr (by simp only[Value.ownBlock,ne_eq,af];omega)),by rw[List.length_set];exact hst⟩,h.n4,h.bV.grow hg (.inl (by omega))⟩
theorem CM.mem {c:WC}{W0:World}{q:CC}{pile loc mem gL:List Int}{n gp cp:Nat}{W W':World}(Q:CQ c W0 q)(h:CM c W0 q pile loc mem n gp cp W)(hg:W.grownBy W' (some c.M))(hr:W'.ownsRow 0 2 1 (.slice (some ⟨c.M,0,none⟩) 64 c.Mc) 64 (gL.map iv)):CM c W0 q pile loc gL n gp cp W':=by obtain⟨o1,o2,o3⟩:=h.co.ord;have h4:=h.n4;have iM:=Q.uj;exact⟨⟨h.wk.bV.grow hg (.inr (.inr rfl)),h.wk.box.fO hg (by simpa using Ne.symm Q.tab.ne),hr⟩,h.co.fO hg (by simp only[ne_eq,af];omega) (by simp only[ne_eq,af];omega) (by simp only[ne_eq,af];omega),h.n4,h.bV.grow hg (.inr (.inr rfl))⟩
theorem zu {W:World}{b g c n:Nat}{xs:List Int}(h:W.ownsRow b 2 1 (.slice (some ⟨g,0,none⟩) n c) n (xs.map iv))(hl:xs.length=n)(hn:n<=maxLen):IL W (some ⟨g,0,none⟩) n xs:=
 ⟨hl,hn, .inr ⟨g,0,rfl,(h.lt g rfl).2,fun i hi=>by rw[Nat.zero_add];exact wZ h hl hi⟩⟩
theorem nS {P:Program}(w:World)(t ty e:TypeId)(i:TypeInfo)(ht:P.underlying t=some (.slice e))(hi:P.info? e=some i)(g cap c:Nat):(Builtin.append_ #[t,t] ty #[.slice (some ⟨g,0,none⟩) 0 cap, .slice none 0 c]).run P w= .ok (.slice (some ⟨g,0,none⟩) 0 cap) w:=by simp[Builtin.append_,run_underlying ht,sizeOf,typeInfo,hi,Builtin.lenOf,Builtin.firstCells,storeCells]
theorem iJ (a:Option Addr)(n cap:Nat)(xs:List Int)(hn:n<=1048576)(w:World)(hs:IL w a n xs):Calls Try.prog 17 #[.slice a n cap] w fun e w'=>∃g c,e= .returned (.slice (some ⟨g,0,none⟩) n c)/\w.heap.size<=g/\g<w'.heap.size/\w'.ownsRow w.heap.size 2 1 (.slice (some ⟨g,0,none⟩) n c) n (xs.map iv)/\Below w.heap.size w w':=by rcases a with _|ad;{obtain⟨hl,-,h3|⟨b',off',e,hb,hx⟩⟩:=hs;{subst h3;obtain rfl:xs=[]:=List.eq_nil_of_length_eq_zero hl;obtain⟨i0,hi,hz0,hz1,hz2⟩:=info_parts ik;have hem:=OI.empty w;have HE:=ae hem;have HR:∀(x:World)(ty:TypeId),(Builtin.append_ #[23,23] ty #[.slice (some ⟨w.heap.size,0,none⟩) 0 0, .slice none 0 cap]).run Try.prog x= .ok (.slice (some ⟨w.heap.size,0,none⟩) 0 0) x:=fun x ty=>nS x _ _ _ i0 Try.underlying23 hi _ _ _;have HRR:=ae HR;clear hem HR hl;go_enter Try.func17,Try.ntmps17;go_wp2_with(at_builtin;refine Lib.wpList_append_run _ rfl _ _ _ _ rfl _ _ rfl rfl _ _ (HRR.out _ _) ?_);go_ret;exact⟨w.heap.size,0,rfl,Nat.le_refl _,by simp,by simpa[OI]using HE.out,(Below.refl _ w).alloc (Nat.le_refl _) _⟩};cases e};obtain⟨i0,hi,hz0,hz1,hz2⟩:=info_parts ik;have hl:=hs.1;have HN:Hid (∀(o:Obj) j u,(xs.map iv)[j]?=some u->(w.alloc o).cell? (ad.add j)=some u):=by{intro o j u hu;have hj:j<n:=by{have:=(List.getElem?_eq_some_iff.1 hu).1;rwa [List.length_map,hl]at this};obtain⟨-,-,h3|⟨b',off',e,hb,hx⟩⟩:=hs;{omega};simp only[af]at e;subst e;rw[dP (by rw[hl];exact hj)]at hu;cases hu;(have hadd:(⟨b',off',none⟩:Addr).add j=⟨b',off'+j,none⟩:=by unfold Addr.add;split<;>simp_all);rw[hadd];exact(((Below.refl _ w).alloc (Nat.le_refl _) o).cell (p:=⟨b',off'+j,none⟩) hb).trans (hx j hj)};have HL:=ae hl;have hem:=OI.empty w;have HE:=ae hem;clear hl hem hs;go_enter Try.func17,Try.ntmps17;go_wp2_with(at_builtin;refine wpList_append_own _ rfl _ _ 23 rfl w.heap.size 2 i0 (.int .i64 0) 1 8 Try.underlying23 hi hz0 hz1 hz2 rfl (by decide) _ _ _ rfl HE.out ad n cap (xs.map iv) rfl (by rw[List.length_map,HL.out,Nat.mul_one]) (HN.out _) mF (by simp only[maxLen,List.length_nil];omega) (by simp only[List.length_nil];omega) (by simp) ?_;intro v' wA hown' hgrow hnn);go_ret;rcases hown'.2 with⟨rfl,h0⟩|⟨g',cap',cur,rfl,_⟩;{exact absurd (hnn.1 rfl).1 (fun h=>by cases h)};have hlt:=hown'.lt g' rfl;have e:([]:List Int).length+n=n:=by{simp};refine⟨g',cap',congrArg (fun m=>Ending.returned (.slice (some ⟨g',0,none⟩) m cap')) e,hlt.1,hlt.2,?_,?_⟩;{simpa using hown'};exact((Below.refl _ w).alloc (Nat.le_refl _) _).grown hgrow (by simp) (fun j ej=>by cases ej;exact Nat.le_refl _)
end Go.Proofs.Ythkjdjmjdlimnaa
