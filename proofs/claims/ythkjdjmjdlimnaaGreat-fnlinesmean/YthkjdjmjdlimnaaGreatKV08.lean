/- Own text. -/
import Derived.Test.YthkjdjmjdlimnaaGreatKV06
import Derived.Test.YthkjdjmjdlimnaaGreatKV07
namespace Go.Proofs.YthkjdjmjdlimnaaGreat
open Go.RowKit Go.Shelf
set_option linter.all false
set_option maxRecDepth 100000
set_option maxHeartbeats 16000000
variable {B F N cap e g gE gO i k n nf n₀ n₁:Nat}{E O out zs:List Int}{W W' w w' w1 w2 wr:World}{a b h h' jC mo p:Int}{f:Fn}{fs:List Fn}{v v':Value}
theorem Xn.fl{M:Nat}(h:Xn W M F nf)(hF:F<W.heap.size)(hn:nf<=3):∃fs,FL W (some ⟨F,0,none⟩) nf fs:=by
 have H:∀m,m<=nf->∃fs:List Fn,fs.length=m/\∀j,j<m->W.cell? ⟨F,0+j*4,none⟩=some (.int .i64 (fs.getD j .z).a)/\W.cell? ⟨F,0+j*4+1,none⟩=some (.int .i64 (fs.getD j .z).l)/\W.cell? ⟨F,0+j*4+2,none⟩=some (.int .i64 (fs.getD j .z).g)/\
     ∃ba bl bc,W.cell? ⟨F,0+j*4+3,none⟩=some (.slice ba bl bc)/\SL W ba bl (fs.getD j .z).b:=by
   intro m
   induction m with
   |zero=>exact fun _=>⟨[],rfl,fun j hj=>by omega⟩
   | succ m ih=>
     intro hm
     obtain⟨fs,hl,hx⟩:=ih (by omega)
     obtain⟨p,q,g,ba,bl,bc,xs,-,-,k0,k1,k2,k3,k4,-⟩:=h m (by omega)
     refine⟨fs++[(⟨p,q,g,xs⟩:Fn)],by simp[hl],fun j hj=>?_⟩
     by_cases e:j<m
     · have e1:(fs++[(⟨p,q,g,xs⟩:Fn)]).getD j .z=fs.getD j .z:=by rw[ah,ah,uF (by omega)]
       rw[e1]
       exact hx j e
     · have e':j=m:=by omega
       subst e'
       have e1:(fs++[(⟨p,q,g,xs⟩:Fn)]).getD j .z=⟨p,q,g,xs⟩:=by
         rw[ah,qU (by omega),hl,Nat.sub_self]
         rfl
       rw[e1]
       simp only[Nat.zero_add]
       exact⟨k0,k1,k2,ba,bl,bc,k3,k4.sl⟩
 obtain⟨fs,hl,hx⟩:=H nf (bG _)
 exact⟨fs,hl,by simp only[maxLen];omega, .inr ⟨F,0,rfl,hF,hx⟩⟩
theorem nV{a:Option Addr}{len:Nat}(h:Below n w w1)(hd:aR w1 w2 B a len cap zs)(hB:n<=B)(hn:n<=w1.heap.size):Below n w w2:=
 ⟨hd.2.os.trans h.os,hd.2.tape.trans h.tape,hd.2.output.trans h.output,fE h.size hd.2.size,fun k hk=>(hd.2.block k (by omega) (by simp only[ne_eq,af];omega)).trans (h.block k hk)⟩
section
def sj (W:World)(b:Nat)(v0 v1 v2 v3 v4:Value):Prop:=
 b <W.heap.size/\(W.cell? ⟨b,0,none⟩=some v0/\W.cell? ⟨b,1,none⟩=some v1/\W.cell? ⟨b,2,none⟩=some v2/\W.cell? ⟨b,3,none⟩=some v3/\W.cell? ⟨b,4,none⟩=some v4)/\
   W.frozen? ⟨b,0,none⟩=false/\W.frozen? ⟨b,1,none⟩=false/\W.frozen? ⟨b,2,none⟩=false/\W.frozen? ⟨b,3,none⟩=false/\W.frozen? ⟨b,4,none⟩=false
theorem sj.dU{b:Nat}{row:Option Nat}{v0 v1 v2 v3 v4:Value}(h:sj W b v0 v1 v2 v3 v4)(hg:W.grownBy W' row)(hne:row≠some b):sj W' b v0 v1 v2 v3 v4:=by obtain⟨h0,⟨c0,c1,c2,c3,c4⟩,f0,f1,f2,f3,f4⟩:=h;have hb:=hg.block b h0 (fun e=>hne e.symm);have hc:∀i,W'.cell? ⟨b,i,none⟩=W.cell? ⟨b,i,none⟩:=fun i=>kE hb;have hf:∀i,W'.frozen? ⟨b,i,none⟩=W.frozen? ⟨b,i,none⟩:=fun i=>by{unfold World.frozen?;rw[hb]};exact⟨aj h0 hg.size,⟨(hc _).trans c0,(hc _).trans c1,(hc _).trans c2,(hc _).trans c3,(hc _).trans c4⟩,(hf _).trans f0,(hf _).trans f1,(hf _).trans f2,(hf _).trans f3,(hf _).trans f4⟩
theorem sj.new (W:World)(v0 v1 v2 v3 v4:Value)(t:TypeId):sj (W.alloc (.cells #[v0,v1,v2,v3,v4] t)) W.heap.size v0 v1 v2 v3 v4:=by refine⟨by simp,⟨?_,?_,?_,?_,?_⟩,?_,?_,?_,?_,?_⟩<;>go_simp
theorem sj.aki{b:Nat}{v0 v1 v2 v3 v4:Value}(h:sj W b v0 v1 v2 v3 v4)(x:Value):sj (W.setCell ⟨b,1,none⟩ x) b v0 x v2 v3 v4:=by obtain⟨h0,⟨c0,c1,c2,c3,c4⟩,f0,f1,f2,f3,f4⟩:=h;refine⟨by simpa[World.setCell]using h0,⟨?_,?_,?_,?_,?_⟩,?_,?_,?_,?_,?_⟩<;>go_simp
theorem sj.ake{b:Nat}{v0 v1 v2 v3 v4:Value}(h:sj W b v0 v1 v2 v3 v4)(x:Value):sj (W.setCell ⟨b,4,none⟩ x) b v0 v1 v2 v3 x:=by obtain⟨h0,⟨c0,c1,c2,c3,c4⟩,f0,f1,f2,f3,f4⟩:=h;refine⟨by simpa[World.setCell]using h0,⟨?_,?_,?_,?_,?_⟩,?_,?_,?_,?_,?_⟩<;>go_simp
structure PS (w:World)(m0 N gE gO:Nat)(a:Option Addr)(len cap:Nat)(E O:List Int)(S:List Nat)(b:Bool)(W:World):Prop where
 fM:Below w.heap.size w W
 hm:m0<=W.heap.size
 iN:w.heap.size<=N/\N<m0
 iE:w.heap.size<=gE/\gE<m0
 iO:w.heap.size<=gO/\gO<m0
 ne:N≠gE/\N≠gO/\gE≠gO
 rE:W.ownsRow w.heap.size 2 1 (.slice (some ⟨gE,0,none⟩) len len) len (E.map iv)
 rO:W.ownsRow w.heap.size 2 1 (.slice (some ⟨gO,0,none⟩) len len) len (O.map iv)
 st:∃v,sj W N (.slice a len cap) v (.slice (some ⟨gE,0,none⟩) len len) (.slice (some ⟨gO,0,none⟩) len len) (.bool b)/\W.ownsRow m0 2 1 v S.length ((mX S.reverse).map iv)
variable {w : World} {m0 N gE gO : Nat} {a : Option Addr} {len cap : Nat} {E O : List Int} {S : List Nat} {b : Bool} {W : World}
theorem PS.kept {W':World}(h:PS w m0 N gE gO a len cap E O S b W)(hB:Below W.heap.size W W'):PS w m0 N gE gO a len cap E O S b W':=by obtain⟨v,hb,hr⟩:=h.st;exact{h with fM:=h.fM.trans (hB.mono h.fM.size),hm:=fE h.hm hB.size,rE:=aN h.rE hB,rO:=aN h.rO hB,st:=⟨v,hb.dU (row:=none) ⟨hB.os,hB.tape,hB.output,hB.size,fun k hk _=>hB.block k hk⟩ (by simp),aN hr hB⟩}
theorem bK{xs:List Value}(h:W.ownsRow n₀ e k v n xs):∃a cap,v= .slice a n cap:=by rcases h.2 with⟨rfl,h0⟩|⟨g,cap,cur,rfl,_⟩;{exact⟨none,0,by rw[h0]⟩};exact⟨_,cap,rfl⟩
theorem PS.apart(h:PS w m0 N gE gO a len cap E O S b W){xs:List Value}(hr:W.ownsRow m0 2 1 v n xs):∀g,v.ownBlock=some g->g≠N/\g≠gE/\g≠gO:=by intro g hg;have h1:=(hr.lt g hg).1;have:=h.iN;have:=h.iE;have:=h.iO;omega
theorem PS.row{wA:World}{xs:List Value}(hs:PS w m0 N gE gO a len cap E O S b W)(hr:W.ownsRow m0 2 1 v n xs)(hg:W.grownBy wA v.ownBlock){S':List Nat}(hown:wA.ownsRow m0 2 1 v' S'.length ((mX S'.reverse).map iv)):PS w m0 N gE gO a len cap E O S' b (wA.setCell ⟨N,1,none⟩ v'):=by have hap:=hs.apart hr;have hN:=hs.iN;have hEi:=hs.iE;have hOi:=hs.iO;obtain⟨n1,n2,n3⟩:=hs.ne;obtain⟨vv,hb,-⟩:=hs.st;have pJ:=hb.dU hg (fun e=>by have:=hap N e;omega);have hg2:=aC wA ⟨N,1,none⟩ v';have off:∀{g:Nat}{ys:List Value},W.ownsRow w.heap.size 2 1 (.slice (some ⟨g,0,none⟩) len len) len ys->(∀x,v.ownBlock=some x->x≠g)->g≠N->(wA.setCell ⟨N,1,none⟩ v').ownsRow w.heap.size 2 1 (.slice (some ⟨g,0,none⟩) len len) len ys:=by{intro g ys hrg h1 h2;have e1:wA.ownsRow w.heap.size 2 1 (.slice (some ⟨g,0,none⟩) len len) len ys:=hrg.kept hg (.inr (fun e=>h1 g e.symm rfl));exact kr e1 hg2 h2};have hB1:=hs.fM.grown hg hs.fM.size (fun j ej=>by have:=(hr.lt j ej).1;omega);refine⟨hB1.setCell (p:=⟨N,1,none⟩) hN.1 _,?_,hN,hEi,hOi,hs.ne,off hs.rE (fun x hx=>(hap x hx).2.1) (by omega),off hs.rO (fun x hx=>(hap x hx).2.2) (by omega),v',pJ.aki v',?_⟩;{have h1:=hs.hm;have h2:=hg.size;simp[World.setCell];omega};refine hown.kept hg2 ?_;rcases hv:v'.ownBlock with _|x;{exact .inl rfl};refine .inr ?_;have:=(hown.lt x hv).1;simp only[ne_eq,af];omega
theorem PS.dO {t:Nat}(hs:PS w m0 N gE gO a len cap E O (t::S) b W):∃g c,sj W N (.slice a len cap) (.slice (some ⟨g,0,none⟩) (S.length+1) c) (.slice (some ⟨gE,0,none⟩) len len) (.slice (some ⟨gO,0,none⟩) len len) (.bool b)/\W.ownsRow m0 2 1 (.slice (some ⟨g,0,none⟩) (S.length+1) c) (S.length+1) ((mX (t::S).reverse).map iv)/\W.cell? ⟨g,S.length,none⟩=some (.int .i64 (t:Int)):=by obtain⟨v,hb,hr⟩:=hs.st;rw[oG]at hr;obtain⟨g,c,rfl⟩:=qx hr;refine⟨g,c,hb,hr,?_⟩;have:=mJ (xs:=mX (t::S).reverse) hr (k:=S.length) (by simp) 0;rw[this];simp[mX]
end
section
variable {w : World} {m0 N gE gO : Nat} {a : Option Addr} {len cap : Nat} {E O : List Int} {S : List Nat} {b : Bool} {W : World}
theorem eG{xs:List Value}(h:W.ownsRow n₁ e k v n xs)(hn:n₀<=n₁):W.ownsRow n₀ e k v n xs:=by refine⟨h.1,?_⟩;rcases h.2 with h'|⟨g',cap',cur,h',hb,r⟩;{exact .inl h'};exact .inr ⟨g',cap',cur,h',fE hn hb,r⟩
theorem PS.Dq (hs:PS w m0 N gE gO a len cap E O S b W)(b':Bool):PS w m0 N gE gO a len cap E O S b' (W.setCell ⟨N,4,none⟩ (.bool b')):=by
 obtain⟨n1,n2,n3⟩:=hs.ne
 obtain⟨v,hb,hr⟩:=hs.st
 have hg:=aC W ⟨N,4,none⟩ (.bool b')
 have hap:=hs.apart hr
 exact {hs with
   fM:=hs.fM.setCell (p:=⟨N,4,none⟩) hs.iN.1 _
   hm:=by have:=hs.hm;simpa[World.setCell]using this
   rE:=kr hs.rE hg (Ne.symm n1)
   rO:=kr hs.rO hg (Ne.symm n2)
   st:=⟨v,hb.ake _,hr.kept hg (by
     rcases hv:v.ownBlock with _|x
     · exact .inl rfl
     · refine .inr ?_
       have:=hap x hv
       simp only[ne_eq,af]
       omega)⟩}
theorem SL.at{a:Option Addr}{len:Nat}{xs:List (Int×Int)}(h:SL w a len xs)(hB:Below w.heap.size w W){t:Nat}(ht:t<len):∃bl off,a=some ⟨bl,off,none⟩/\bl<w.heap.size/\W.cell? ⟨bl,off+t*2,none⟩=some (.int .i64 (aM.op xs t))/\W.cell? ⟨bl,off+t*2+1,none⟩=some (.int .i64 (xs.getD t (0,0)).2):=by obtain⟨-,-,h3|⟨bl,off,rfl,hb,hx⟩⟩:=h;{omega};exact⟨bl,off,rfl,hb,(hB.cell (p:=⟨bl,off+t*2,none⟩) hb).trans (hx t ht).1,(hB.cell (p:=⟨bl,off+t*2+1,none⟩) hb).trans (hx t ht).2⟩
end
section
structure PI (xs:List (Int×Int))(k:Nat)(E O:List Int)(S:List Nat)(b:Bool):Prop where
 sl:S.length<=k
 inv:b=false->aM.Inv xs k E O S/\aM.all xs=aM.go xs (xs.length+1-k) k E O S
 fin:b=true->aM.all xs=(E,O,decide (k=xs.length))
theorem PI.first (xs:List (Int×Int)):PI xs 0 (aM.iA xs.length) (aM.iA xs.length) [] false:=
 ⟨bG _,fun _=>⟨aM.Inv.first xs,rfl⟩,fun h=>by cases h⟩
variable {w : World} {m0 N gE gO : Nat} {a : Option Addr} {len cap : Nat} {E O : List Int} {S : List Nat} {b : Bool} {W : World} {xs : List (Int × Int)} {k t : Nat}
theorem go_succ (hk:k<xs.length):xs.length+1-k=(xs.length+1-(k+1))+1:=by omega
theorem PI.push (h:PI xs k E O S false)(hk:k<xs.length)(ho:St.opens (aM.op xs k)=true):PI xs (k+1) E O (k::S) false:=by obtain⟨h1,h2⟩:=h.inv rfl;exact⟨by have:=h.sl;simp;omega,fun _=>⟨h1.push hk ho,by rw[h2,go_succ hk,aM.mi hk ho]⟩,fun h=>by cases h⟩
theorem PI.other (h:PI xs k E O S false)(hk:k<xs.length)(ho:St.opens (aM.op xs k)=false)(h11:aM.op xs k≠11)(h12:aM.op xs k≠12):PI xs (k+1) E O S false:=by obtain⟨h1,h2⟩:=h.inv rfl;exact⟨by have:=h.sl;omega,fun _=>⟨h1.other hk ho h11,by rw[h2,go_succ hk,aM.lY hk ho h11 h12]⟩,fun h=>by cases h⟩
theorem PI.Ny (h:PI xs k E O (t::S) false)(hk:k<xs.length)(ho:St.opens (aM.op xs k)=false)(h11:aM.op xs k=11)(h1:aM.op xs t=10)(h2:aM.aI O t=-1):PI xs (k+1) E (O.set t (k:Int)) (t::S) false:=by obtain⟨h3,h4⟩:=h.inv rfl;exact⟨by have:=h.sl;omega,fun _=>⟨h3.Ny hk h11 h1 (by omega),by rw[h4,go_succ hk,aM.l6 hk ho h11 ⟨h1,by unfold aM.aI at h2;omega⟩]⟩,fun h=>by cases h⟩
theorem PI.YW (h:PI xs k E O (t::S) false)(hk:k<xs.length)(ho:St.opens (aM.op xs k)=false)(h12:aM.op xs k=12):PI xs (k+1) (aM.close E O t k) O S false:=by obtain⟨h3,h4⟩:=h.inv rfl;exact⟨by have:=h.sl;simp at this;omega,fun _=>⟨h3.YW hk h12,by rw[h4,go_succ hk,aM.mq hk ho (by omega) h12]⟩,fun h=>by cases h⟩
theorem PI.last (h:PI xs k E O [] false)(hk:k<xs.length)(ho:St.opens (aM.op xs k)=false)(h12:aM.op xs k=12):PI xs (k+1) E O [] true:=by obtain⟨h3,h4⟩:=h.inv rfl;exact⟨by simp,(fun h=>by cases h),fun _=>by rw[h4,go_succ hk,aM.oq hk ho (by omega) h12]⟩
end
theorem PS.len {w:World}{m0 N gE gO:Nat}{a:Option Addr}{len cap:Nat}{E O:List Int}{S:List Nat}{b:Bool}{W:World}(hs:PS w m0 N gE gO a len cap E O S b W):E.length=len/\O.length=len:=by have h1:=hs.rE.1;have h2:=hs.rO.1;simp at h1 h2;exact⟨h1,h2⟩
def NB (W:World)(n0:Nat)(N:Nat)(E O:List Int):Prop:=
 ∃v0 v1 vE vO v4,sj W N v0 v1 vE vO v4/\OI W n0 vE E/\OI W n0 vO O/\n0<=N/\∃a0 l0 c0,v0= .slice a0 l0 c0
theorem PS.nb{m0:Nat}{a:Option Addr}{len:Nat}{S:List Nat}{b:Bool}{n0:Nat}(hs:PS w m0 N gE gO a len cap E O S b W)(hn:n0<=w.heap.size):NB W n0 N E O:=by obtain⟨v,hb,-⟩:=hs.st;obtain⟨l1,l2⟩:=hs.len;refine⟨_,_,_,_,_,hb,?_,?_,fE hn hs.iN.1,_,_,_,rfl⟩;{unfold OI;rw[l1];exact eG hs.rE hn};unfold OI;rw[l2];exact eG hs.rO hn
theorem PI.isOk {xs:List (Int×Int)}{n:Nat}{E O:List Int}{S:List Nat}{b:Bool}(h:PI xs xs.length E O S b)(hg:(decide (xs.length<=80)&&St.cu xs)=true):aM.isOk xs=b/\(b=true->aM.ends xs=E/\aM.bq xs=O):=by rcases b with _|_;{refine⟨?_,fun h=>by cases h⟩;rw[aM.isOk,hg,(h.inv rfl).2,Bool.true_and,show xs.length+1-xs.length=0+1 by omega,aM.qV (bG _)]};have e:=h.fin rfl;have h1:aM.isOk xs=true:=by{rw[aM.isOk,hg,e];simp};refine⟨h1,fun _=>?_⟩;rw[aM.ends,aM.bq,az h1,az h1,e];exact⟨rfl,rfl⟩
namespace aM
def dep (xs:List (Int×Int)):Nat->Nat
 |0=>0
 |i+1=>if St.opens (op xs i)=true then dep xs i+1 else if op xs i=12 then dep xs i-1 else dep xs i
theorem pY{xs:List (Int×Int)}(h:St.opens (op xs i)=true):dep xs (i+1)=dep xs i+1:=az h
theorem vK{xs:List (Int×Int)}(h:op xs i=12):dep xs (i+1)=dep xs i-1:=by have:¬St.opens (op xs i)=true:=by{rw[h];decide};show(if _ then _ else _)=_;rw[ax this,az h]
theorem lC{xs:List (Int×Int)}(h:St.opens (op xs i)=false)(h2:op xs i≠12):dep xs (i+1)=dep xs i:=by show(if _ then _ else _)=_;rw[ax (by simp[h]),ax h2]
theorem PR {xs:List (Int×Int)}:∀(f k:Nat)(E O:List Int)(S:List Nat){Ef Of:List Int},go xs f k E O S=(Ef,Of,true)->S.length=dep xs k->∀i,k<=i->i<xs.length->op xs i=12->dep xs i=0->i+1=xs.length
 |0,k,E,O,S,Ef,Of,h,hd=>by simp[go]at h
 | f + 1,k,E,O,S,Ef,Of,h,hd=>by
   intro i hi hil h12 hd0
   by_cases hk:xs.length<=k
   · rw[qV hk]at h;simp at h
   have hk:k<xs.length:=by omega
   have next:∀(S':List Nat)(E' O':List Int),go xs f (k+1) E' O' S'=(Ef,Of,true)->S'.length=dep xs (k+1)->(i=k->i+1=xs.length)->i+1=xs.length:=by
     intro S' E' O' h' hd' hc
     by_cases e:i=k
     · exact hc e
     · exact PR f (k+1) E' O' S' h' hd' i (by omega) hil h12 hd0
   rcases ho:St.opens (op xs k)with _|_
   · by_cases h11:op xs k=11
     · rcases S with _|⟨t,S'⟩
       · rw[nJ hk ho h11]at h;simp at h
       · by_cases h2:op xs t=10/\O.getD t (-1)<0
         · rw[l6 hk ho h11 h2]at h
           refine next _ _ _ h (by rw[lC ho (by omega)];exact hd) (fun e=>?_)
           subst e;omega
         · rw[lM hk ho h11 h2]at h;simp at h
     · by_cases uq:op xs k=12
       · rcases S with _|⟨t,S'⟩
         · rw[oq hk ho h11 uq]at h
           simp only[kC,mK]at h
           have:=h.2.2
           omega
         · rw[mq hk ho h11 uq]at h
           refine next _ _ _ h (by rw[vK uq,←hd];simp) (fun e=>?_)
           subst e
           rw[←hd]at hd0
           simp at hd0
       · rw[lY hk ho h11 uq]at h
         refine next _ _ _ h (by rw[lC ho uq];exact hd) (fun e=>?_)
         subst e;exact eD h12 uq
   · rw[mi hk ho]at h
     refine next _ _ _ h (by rw[pY ho];simp[hd]) (fun e=>?_)
     subst e
     rw[h12]at ho
     cases ho
theorem Rp{xs:List (Int×Int)}(h:isOk xs=true)(hi:i<xs.length)(h12:op xs i=12)(hd:dep xs i=0):i+1=xs.length:=by have h2:(all xs).2.2=true:=by{rw[isOk,au]at h;exact h.2};exact PR (xs.length+1) 0 _ _ [] (Ef:=(all xs).1) (Of:=(all xs).2.1) (by show all xs=_;rw[←h2]) rfl i (jP _) hi h12 hd
end aM
theorem aM.tu (xs:List (Int×Int)):∀i,aM.dep xs i<=i
 |0=>bG _
 | i +1=>by
   have h:=aM.tu xs i
   rcases ho:St.opens (aM.op xs i)with _|_
   · by_cases h12:aM.op xs i=12
     · rw[aM.vK h12];omega
     · rw[aM.lC ho h12];omega
   · rw[aM.pY ho];omega
structure fJ where
 st:Int
 wd:Int
 cm:Bool
namespace Hg
def mx (a b:Int):Int:=if a<b then b else a
def tk (fs:List Fn)(p a:Int):Int:=
 if p=3\/p=7\/p=14\/p=10 then 1 else if p=4\/p=6\/p=17 then 1 else if p=5 then 2 else if p=18 then 2 else if p=16 then(fs.getD a.toNat .z).a else 0
def pt (fs:List Fn)(p a:Int):Int:=
 if p=1\/p=2 then 1 else if p=4\/p=6\/p=17 then 1 else if p=5 then 1 else if p=16 then(fs.getD a.toNat .z).g else 0
def bad (fs:List Fn)(f:Fn)(o:Int)(n:Nat)(p a:Int):Bool:=
 decide ((p=2\/p=3\/p=4)/\f.a+f.l<=a)||decide (p=16/\(fs.length:Int)<=a)||decide ((p=13\/p=14)/\(n:Int)-1<a)||decide (p=10/\a=1/\o<0)
def fG (S:List fJ)(a:Int):Int:=(S.getD a.toNat ⟨0,0,false⟩).wd
def iD (f:Fn)(p a h mo:Int)(x:fJ)(S:List fJ):Option (Int×Int×List fJ):=
 if p=8\/p=9\/p=10 then some (h,mo,⟨h,a,decide (0<=h)⟩::x::S)
 else if p=13\/p=14 then(if 0<=h/\h-x.st<fG (x::S) a then none else some (if p=13 then -1 else h,mo,x::S))
 else if p=15 then(if 0<=h/\h-x.st<f.g then none else some (-1,mo,x::S))
 else if p=19 then some (-1,mo,x::S)
 else if p=11 then(if 0<=h/\h-x.st≠x.wd then none else some (if x.cm=true then x.st else -1,mx mo (if x.cm=true then x.st else -1),x::S))
 else if p=12 then(if 0<=h/\h-x.st≠x.wd then none else some (if x.cm=true then x.st+x.wd else -1,mx mo (if x.cm=true then x.st+x.wd else -1),S))
 else some (h,mo,x::S)
def one (fs:List Fn)(f:Fn)(o p a h mo:Int)(S:List fJ):Option (Int×Int×List fJ):=
 match S with
 |[]=>none
 | x::S'=>
   if bad fs f o (S'.length+1) p a=true then none
   else if 0<=h then(if h-x.st<tk fs p a then none else iD f p a (h-tk fs p a+pt fs p a) (mx mo (h-tk fs p a+pt fs p a)) x S')
   else iD f p a h mo x S'
def go (fs:List Fn)(f:Fn)(O:List Int):Nat->Nat->Int->Int->List fJ->List Int->Option (List Int×Int)
 |0,_,_,mo,_,out=>some (out,mo)
 | n+1,i,h,mo,S,out=>
   match one fs f (O.getD i (-1)) (aM.op f.b i) (f.b.getD i (0,0)).2 h mo S with
   |none=>none
   |some (h',jC,S')=>go fs f O n (i+1) h' jC S' (out++[h])
def all (fs:List Fn)(f:Fn):Option (List Int×Int):=go fs f (aM.bq f.b) f.b.length 0 0 f.g [⟨0,f.g,true⟩] []
def kg (fs:List Fn)(f:Fn):Option (List Int×Int):=
 if aM.isOk f.b=true then match all fs f with
   |some (out,mo)=>if mo<=20 then some (out,mo)else none
   |none=>none
 else none
def jG (fs:List Fn)(d:ByteArray)(k:Int):Option (List Int×Int):=if Md.ok fs d=true/\0<=k/\k<fs.length then kg fs (fs.getD k.toNat .z)else none
def valid (fs:List Fn)(d:ByteArray):Bool:=Md.ok fs d&&(List.range fs.length).all fun(k:Nat)=>(jG fs d k).isSome
theorem ME{S S':List fJ}(hi:i<f.b.length)(h1:one fs f (O.getD i (-1)) (aM.op f.b i) (f.b.getD i (0,0)).2 h mo S=some (h',jC,S')):go fs f O (f.b.length-i) i h mo S out=go fs f O (f.b.length-(i+1)) (i+1) h' jC S' (out++[h]):=by rw[show f.b.length-i=(f.b.length-(i+1))+1 by omega,go,h1]
theorem Wj{S:List fJ}(hi:i<f.b.length)(h1:one fs f (O.getD i (-1)) (aM.op f.b i) (f.b.getD i (0,0)).2 h mo S=none):go fs f O (f.b.length-i) i h mo S out=none:=by rw[show f.b.length-i=(f.b.length-(i+1))+1 by omega,go,h1]
theorem Qj(h:all fs f=none):kg fs f=none:=by unfold kg;rw[h];split<;>rfl
theorem QU(mr:aM.isOk f.b=true)(h:all fs f=some (out,mo)):kg fs f=if mo<=20 then some (out,mo)else none:=by unfold kg;rw[az mr,h]
theorem mI{o:Int}{x:fJ}{S:List fJ}(hb:bad fs f o (S.length+1) p a=true):one fs f o p a h mo (x::S)=none:=by exact az hb
theorem gz{o:Int}{x:fJ}{S:List fJ}(hb:bad fs f o (S.length+1) p a=false)(h0:0<=h)(h1:h-x.st<tk fs p a):one fs f o p a h mo (x::S)=none:=by show(if _ then _ else if _ then(if _ then _ else _)else _)=_;rw[ax (by simp[hb]),az h0,az h1]
theorem lQ{o:Int}{x:fJ}{S:List fJ}(hb:bad fs f o (S.length+1) p a=false)(h0:0<=h)(h1:¬h-x.st<tk fs p a):one fs f o p a h mo (x::S)=iD f p a (h-tk fs p a+pt fs p a) (mx mo (h-tk fs p a+pt fs p a)) x S:=by show(if _ then _ else if _ then(if _ then _ else _)else _)=_;rw[ax (by simp[hb]),az h0,ax h1]
theorem Ij{o:Int}{x:fJ}{S:List fJ}(hb:bad fs f o (S.length+1) p a=false)(h0:h<0):one fs f o p a h mo (x::S)=iD f p a h mo x S:=by show(if _ then _ else if _ then(if _ then _ else _)else _)=_;rw[ax (by simp[hb]),ax (by omega)]
theorem Py{c:Int}(h1:a<=c)(h2:b<=c):mx a b<=c:=by unfold mx;split<;>omega
theorem Hq{c:Int}(h:c<=a):c<=mx a b:=by unfold mx;split<;>omega
structure Bd (i:Nat)(h mo:Int)(S:List fJ):Prop where
 hb:-1<=h/\h<=i
 mb:0<=mo/\mo<=i+1
 sb:∀x∈S,-1<=x.st/\x.st+x.wd<=i+1/\0<=x.wd/\x.wd<=1
theorem Pe{x:fJ}{S S':List fJ}(ha:p=8\/p=9\/p=10->0<=a/\a<=1)(hb:-1<=h/\h<=i+1)(ho:p=8\/p=9\/p=10->h<=i)(mb:0<=mo/\mo<=i+2)(sb:∀x'∈x::S,-1<=x'.st/\x'.st+x'.wd<=i+1/\0<=x'.wd/\x'.wd<=1)(h1:iD f p a h mo x S=some (h',jC,S')):Bd (i+1) h' jC S':=by have sx:=sb x (by simp);have sb':∀x'∈x::S,-1<=x'.st/\x'.st+x'.wd<=((i+1:Nat):Int)+1/\0<=x'.wd/\x'.wd<=1:=fun x' hx=>by{have:=sb x' hx;omega};have sbt:∀x'∈S,-1<=x'.st/\x'.st+x'.wd<=((i+1:Nat):Int)+1/\0<=x'.wd/\x'.wd<=1:=fun x' hx=>sb' x' (List.mem_cons_of_mem _ hx);unfold iD at h1;split at h1;{rename_i hp;have:=ha hp;have:=ho hp;simp only[af,kC]at h1;obtain⟨rfl,rfl,rfl⟩:=h1;refine⟨by omega,by omega,fun x' hx=>?_⟩;rcases List.mem_cons.1 hx with rfl|hx;{simp only;omega};exact sb' x' hx};split at h1;{split at h1;{cases h1};simp only[af,kC]at h1;obtain⟨rfl,rfl,rfl⟩:=h1;exact⟨by split<;>omega,by omega,sb'⟩};split at h1;{split at h1;{cases h1};simp only[af,kC]at h1;obtain⟨rfl,rfl,rfl⟩:=h1;exact⟨by omega,by omega,sb'⟩};split at h1;{simp only[af,kC]at h1;obtain⟨rfl,rfl,rfl⟩:=h1;exact⟨by omega,by omega,sb'⟩};split at h1;{split at h1;{cases h1};simp only[af,kC]at h1;obtain⟨rfl,rfl,rfl⟩:=h1;refine⟨by split<;>omega,⟨Hq mb.1,Py (by omega) (by split<;>omega)⟩,sb'⟩};split at h1;{split at h1;{cases h1};simp only[af,kC]at h1;obtain⟨rfl,rfl,rfl⟩:=h1;refine⟨by split<;>omega,⟨Hq mb.1,Py (by omega) (by split<;>omega)⟩,sbt⟩};simp only[af,kC]at h1;obtain⟨rfl,rfl,rfl⟩:=h1;exact⟨by omega,by omega,sb'⟩
theorem V8{x:fJ}{S S':List fJ}(h1:iD f p a h mo x S=some (h',jC,S')):S'.length=if St.opens p=true then S.length+2 else if p=12 then S.length else S.length+1:=by unfold iD at h1;have ho:St.opens p=true↔(p=8\/p=9\/p=10):=by{unfold St.opens;exact decide_eq_true_iff};split at h1;{rename_i hp;rw[az (ho.2 hp)];simp only[af,kC]at h1;obtain⟨-,-,rfl⟩:=h1;rfl};rename_i hp;rw[ax (fun q=>hp (ho.1 q))];split at h1;{rename_i hp;rw[ax (by omega)];split at h1;{cases h1};simp only[af,kC]at h1;obtain⟨-,-,rfl⟩:=h1;rfl};split at h1;{rename_i hp;rw[ax (by omega)];split at h1;{cases h1};simp only[af,kC]at h1;obtain⟨-,-,rfl⟩:=h1;rfl};split at h1;{rename_i hp;rw[ax (by omega)];simp only[af,kC]at h1;obtain⟨-,-,rfl⟩:=h1;rfl};split at h1;{rename_i hp;rw[ax (by omega)];split at h1;{cases h1};simp only[af,kC]at h1;obtain⟨-,-,rfl⟩:=h1;rfl};split at h1;{rename_i hp;rw[az hp];split at h1;{cases h1};simp only[af,kC]at h1;obtain⟨-,-,rfl⟩:=h1;rfl};rename_i hp;rw[ax hp];simp only[af,kC]at h1;obtain⟨-,-,rfl⟩:=h1;rfl
theorem CY{xs:List (Int×Int)}{x:fJ}{S S':List fJ}(hok:aM.isOk xs=true)(hi:i+1<xs.length)(hd:S.length=aM.dep xs i)(h1:iD f (aM.op xs i) a h mo x S=some (h',jC,S')):S'.length=aM.dep xs (i+1)+1:=by have hl:=V8 h1;rcases ho:St.opens (aM.op xs i)with _|_;{rw[ho,ax (by simp)]at hl;by_cases h12:aM.op xs i=12;{rw[az h12]at hl;have:aM.dep xs i≠0:=fun e=>by{have:=aM.Rp hok (i:=i) (by omega) h12 e;omega};rw[aM.vK h12];omega};rw[ax h12]at hl;rw[aM.lC ho h12];omega};rw[ho,az rfl]at hl;rw[aM.pY ho];omega
end Hg
theorem qA (a:Option Addr)(len cap:Nat)(fs:List Fn)(d:ByteArray)(hd:d.size<=maxLen)(w:World)(hs:FL w a len fs):Calls Tryz.prog 61 #[.agg #[.slice a len cap, .string d]] w fun e w'=>e= .returned (.bool (Md.ok fs d))/\Below w.heap.size w w':=by obtain⟨hl,hm,hrow⟩:=hs;unfold maxLen at hm hd;have hB1:=aB w (.cells #[.slice a len cap, .string d] 26);have hB0:=dZ (w.alloc (.cells #[.slice a len cap, .string d] 26)).heap.size (w.alloc (.cells #[.slice a len cap, .string d] 26));go_enter Tryz.func61,Tryz.ntmps61;go_wp2;go_loopw [3] (fun i wr=>∃k:Nat,i= .int .i64 k/\k<=len/\Md.cu (fs.take k)=true/\Below (w.alloc (.cells #[.slice a len cap, .string d] 26)).heap.size (w.alloc (.cells #[.slice a len cap, .string d] 26)) wr) (fun i _=>len-(intOf i).toNat);(case atStart=>exact⟨0,rfl,jP _,rfl,hB0⟩);case round=>obtain⟨k,rfl,hk,hok,hBr⟩:=hrel;obtain⟨c0,c1,ak7⟩:=CZ hBr;have hB:=hB1.trans (hBr.mono hB1.size);have HO:Hid (Md.cu (fs.take k)=true):=hok;have HL:Hid (fs.length=len):=hl;have HB:=ae hBr;clear hok hl hB1 hB0 hBr;by_cases hlt:k<len;{rcases hrow with h0|⟨b,off,rfl,hb,hx⟩;{omega};obtain⟨x0,x1,x2,ba,bl,bc,x3,hsl⟩:=hx k hlt;have hx0:=(hB.cell (p:=⟨b,off+k*4,none⟩) hb).trans x0;have hx1:=(hB.cell (p:=⟨b,off+k*4+1,none⟩) hb).trans x1;have hx2:=(hB.cell (p:=⟨b,off+k*4+2,none⟩) hb).trans x2;have hx3:=(hB.cell (p:=⟨b,off+k*4+3,none⟩) hb).trans x3;obtain⟨⟨p,l,g,bd⟩,hpq⟩:∃x,fs.getD k .z=x:=⟨_,rfl⟩;rw[hpq]at hx0 hx1 hx2 hsl;simp only at hx0 hx1 hx2 hsl;have HP:Hid (fs.getD k .z=⟨p,l,g,bd⟩):=hpq;have hcon:=GQ p l g bd ba bl bc _ (hsl.kept hB);clear hx hpq x0 x1 x2 x3 hsl;rcases ho:Md.ru ⟨p,l,g,bd⟩with _|_;{rw[ho]at hcon;go_wp2_with fail;refine hcon.mono ?_;rintro e w1⟨rfl,hB1⟩;have hB2:=hB.trans (hB1.mono hB.size);clear hcon;go_wp2;go_ret;refine⟨?_,hB2⟩;rw[Md.ok,Md.uf (j:=k) (by rw[HL.out];exact hlt) (by rw[HP.out];exact ho),Bool.and_false];rfl};rw[ho]at hcon;go_wp2_with fail;refine hcon.mono ?_;rintro e w1⟨rfl,hB1⟩;clear hcon;go_wp2;go_roundw;(case rel=>exact⟨k+1,by simp,by omega,by rw[Md.ui (by rw[HL.out];exact hlt),Md.qI,HO.out,HP.out,ho];rfl,HB.out.trans (hB1.mono HB.out.size)⟩);case measure=>simp[intOf];omega};have hke:k=len:=by{omega};subst hke;clear hrow;have e:Md.cu fs=true:=by{have:=HO.out;rwa [List.take_of_length_le (by rw[HL.out];exact bG _)]at this};have eok:Md.ok fs d=(Wd.dL k 1 4&&decide (d.size<=64)):=by{rw[Md.ok,e,Bool.and_true,HL.out]};clear e;have EOK:=ae eok;clear eok;rcases h1:Wd.dL k 1 4 with _|_;{go_wp2_with(go_at_call 47;refine(bH _ _ _ _).mono ?_;rintro e w'⟨rfl,dz⟩;subst w');go_ret;exact⟨by rw[EOK.out,h1];rfl,hB⟩};go_wp2_with(go_at_call 47;refine(bH _ _ _ _).mono ?_;rintro e w'⟨rfl,dz⟩;subst w');go_ret;exact⟨dh (by rw[EOK.out,h1];simp;omega),hB⟩
theorem kW (W:World)(n:Nat):Below W.heap.size W (W.drewN n):=⟨rfl,rfl,rfl,bG _,fun _ _=>rfl⟩
theorem bJ (a b:Int)(w:World):Calls Tryz.prog 43 #[.int .i64 a, .int .i64 b] w fun e w'=>e= .returned (.int .i64 (Hg.mx a b))/\w'=w:=by by_cases h:b<a;{have e:Hg.mx a b=a:=by{unfold Hg.mx;rw[ax (by omega)]};rw[e];go_enter Tryz.func43,Tryz.ntmps43;go_wp2;go_ret;exact⟨rfl,rfl⟩};have e:Hg.mx a b=b:=by{unfold Hg.mx;split;{rfl};omega};rw[e];go_enter Tryz.func43,Tryz.ntmps43;go_wp2;go_ret;exact⟨rfl,rfl⟩
theorem bZ (a:Option Addr)(len cap:Nat)(fs:List Fn)(d:ByteArray)(p q:Int)(hp:1<=p/\p<=20)(hq:p=16->0<=q/\q<len)(w:World)(hs:FL w a len fs):Calls Tryz.prog 84 #[.agg #[.slice a len cap, .string d], .agg #[.int .i64 p, .int .i64 q]] w fun e w'=>e= .returned (.tuple #[.int .i64 (Hg.tk fs p q), .int .i64 (Hg.pt fs p q)])/\Below w.heap.size w w':=by obtain⟨hl,hm,hrow⟩:=hs;have hB2:=BC w (.cells #[.slice a len cap, .string d] 26) (.cells #[.int .i64 p, .int .i64 q] 95);by_cases h16:p=16;{subst h16;obtain⟨hq0,hq1⟩:=hq rfl;obtain⟨j,rfl⟩:∃j:Nat,q=j:=⟨q.toNat,by omega⟩;rcases hrow with h0|⟨b,off,rfl,hb,hx⟩;{omega};have hj:j<len:=by{omega};obtain⟨x0,x1,x2,-⟩:=hx j hj;have y0:=(hB2.cell (p:=⟨b,off+j*4,none⟩) hb).trans x0;have y2:=(hB2.cell (p:=⟨b,off+j*4+2,none⟩) hb).trans x2;have e1:Hg.tk fs 16 j=(fs.getD j .z).a:=by{unfold Hg.tk;simp};have e2:Hg.pt fs 16 j=(fs.getD j .z).g:=by{unfold Hg.pt;simp};rw[e1,e2];obtain⟨⟨fa,fl,fg,fb⟩,hf⟩:∃x,fs.getD j .z=x:=⟨_,rfl⟩;rw[hf]at y0 y2 ⊢;simp only at y0 y2 ⊢;clear hx x0 x1 x2 hf e1 e2 hl;go_enter Tryz.func84,Tryz.ntmps84;go_wp2;go_quiet (fail);go_wp2;go_ret2;exact⟨rfl,hB2.trans ((kW _ _).mono hB2.size)⟩};have hp':p=1\/p=2\/p=3\/p=4\/p=5\/p=6\/p=7\/p=8\/p=9\/p=10\/p=11\/p=12\/p=13\/p=14\/p=15\/p=17\/p=18\/p=19\/p=20:=by{omega};clear hq hp h16 hrow hm hl;rcases hp' with rfl|rfl|rfl|rfl|rfl|rfl|rfl|rfl|rfl|rfl|rfl|rfl|rfl|rfl|rfl|rfl|rfl|rfl|rfl;all_goals go_enter Tryz.func84,Tryz.ntmps84;go_wp2;go_ret2;exact⟨rfl,hB2⟩
namespace St
def bl (s:ByteArray):List UInt8:=s.data.toList
end St
theorem pV{a:Option Addr}{len:Nat}{c:Nat}{xs:List Value}(h:w.ownsRow n₀ e k (.slice (some ⟨g,0,none⟩) n c) n xs)(hd:aR w w' B a len cap zs)(hB:B<n₀):w'.ownsRow n₀ e k (.slice (some ⟨g,0,none⟩) n c) n xs:=
 h.kept hd.2 (.inr (by have:=(h.lt g rfl).1;simp only[Value.ownBlock,ne_eq,af];omega))
theorem aR.app{a:Option Addr}{len:Nat}{c:Nat}{xs:List Value}(h:aR w w1 B a len cap zs)(hB:B<w.heap.size)(hrow:w1.ownsRow w.heap.size e k (.slice (some ⟨g,0,none⟩) n c) n xs)(hg:w1.grownBy w2 (Value.slice (some ⟨g,0,none⟩) n c).ownBlock):aR w w2 B a len cap zs:=
 h.fresh hB hg (hrow.lt g rfl).1
def LD (w wr:World)(B:Nat)(a:Option Addr)(len cap:Nat)(zs:List Int)(v:Value)(n:Nat):Prop:=
 ∃(l:List (Int×Int))(g c:Nat),v= .slice (some ⟨g,0,none⟩) n c/\n=l.length/\wr.ownsRow w.heap.size 95 2 (.slice (some ⟨g,0,none⟩) n c) n (encS l)/\aR w wr B a len cap zs
theorem LD.os{a:Option Addr}{len:Nat}(h:LD w wr B a len cap zs v n):∃l,OS wr w.heap.size v l/\aR w wr B a len cap zs:=by obtain⟨l,g,c,rfl,hn,hrow,hd⟩:=h;exact⟨l,OS.xu hrow,hd⟩
section
open Go.RowKit
variable {P : Program} {ops : Array Oper} {md : Region.Mode} {Q : Exit → Act → World → Prop} {n : Nat}
def PE (P:Program)(Q:Exit->Act->World->Prop)(a:Act)(ds:List Nat)(m:Nat)(A:Bool->World->Prop)(F:Nat->Value->World->Prop)(k:Nat)(o:Oper):Prop:=
 ∀ (t:Bool) (b:Act) (x:World),A t x->(k=m->t=false)->((o.after.any fun e=>Region.binds .any e&&e.on==m)=true->t=true)->(∀t,t∉ds->b.eval (.tmp t)=a.eval (.tmp t))->b.defers=a.defers->(∀j,(o.after.any fun e=>Region.binds .any e&&e.on==j)=true->F j (b.eval (.tmp (ds.getD j 0))) x)->
   o.wp P b x (fun b' x'=>∃y,b'=b.put o.dst y/\A (t||decide (k=m)) x'/\F k y x'/\∀i z,F i z x->F i z x') Q
def pX (P:Program)(Q:Exit->Act->World->Prop)(a:Act)(ds:List Nat)(m:Nat)(A:Bool->World->Prop)(F:Nat->Value->World->Prop):Nat->List Oper->Prop
 |_,[]=>True
 |k,o::r=>PE P Q a ds m A F k o/\pX P Q a ds m A F (k+1) r
theorem pX.at {a:Act}{ds:List Nat}{m:Nat}{A:Bool->World->Prop}{F:Nat->Value->World->Prop}:∀{r:List Oper}{k:Nat},pX P Q a ds m A F k r->∀i o,r[i]?=some o->PE P Q a ds m A F (k+i) o
 |[],_,_,i,o,h=>by simp at h
 |q::r,k,h,0,o,e=>by cases e;exact h.1
 | q::r,k,h,i+1,o,e=>by
   have:=pX.at h.2 i o (by simpa using e)
   rwa [show k+1+i=k+(i+1)by omega]at this
theorem gN{id:Nat}{a:Act}{l:List Oper}(n:Nat)(ds:List Nat)(m:Nat)(A:Bool->World->Prop)(F:Nat->Value->World->Prop)(hm:P.follows .mixedOrders=true)(hB:(Region.noSelect l.toArray&&decide (n<l.length)&&Region.sinkB .any l.toArray n&&Region.chainB .any l.toArray n&&Ca l n ds&&Region.seqB .any l.toArray (l.length-n) n (oO l.length n))=true)(hsz:∀d∈ds,d<a.tmps.size)(h0:A false w.drew)(hall:pX P Q a ds m A F 0 (l.take n))(hend:∀b x,A (decide (m<n)) x->(∀j,j<n->F j (b.eval (.tmp (ds.getD j 0))) x)->b=ds.foldl (fun a' t=>a'.put (some t) (b.eval (.tmp t))) a->wpList P l.toArray Q (l.drop n) b x):(Code.region id l.toArray true).wp P Q a w:=by
 simp only[au,mK]at hB
 obtain⟨⟨⟨⟨⟨hsel,hn⟩,hs⟩,hc⟩,hhd⟩,hseq⟩:=hB
 have hn':n<l.toArray.size:=by simpa using hn
 simp only[Ca,au,mK,rq,List.mem_range]at hhd
 obtain⟨⟨hdl,hnd⟩,hops⟩:=hhd
 have hop:∀i o,i<n->l.toArray[i]?=some o->o.dst=some (ds.getD i 0)/\o.guard=none/\(∀e∈o.after,Region.binds .any e=true->e.on<i)/\ds.getD i 0∈ds:=by intro i o hi ho;have h1:=hops i hi;have ho':l[i]?=some o:=by{simpa using ho};rw[ho']at h1;simp only[au,beq_iff_eq,Option.isNone_iff_eq_none,Array.all_eq_true',mK,Bool.or_eq_true,Bool.not_eq_true']at h1;have h2:ds[i]?=some (ds.getD i 0):=by{rw[ah,ai (by omega)];rfl};exact⟨by rw[h1.1.1,h2],h1.1.2,fun e he hbi=>(h1.2 e he).elim (fun h=>by rw[hbi]at h;cases h) (fun h=>h),List.mem_of_getElem? h2⟩
 have hinj:∀i j,i<n->j<n->ds.getD i 0=ds.getD j 0->i=j:=by intro i j hi hj e;rw[ah,ah,ai (by omega),ai (by omega)]at e;have e':ds[i]'(by omega)=ds[j]'(by omega):=e;rcases Nat.lt_trichotomy i j with h|h|h;{exact eD e' (List.pairwise_iff_getElem.1 hnd i j (by omega) (by omega) h)};{exact h};exact eD e'.symm (List.pairwise_iff_getElem.1 hnd j i (by omega) (by omega) h)
 let I:Array Bool->Act->World->Prop:=fun q b x=>A (q.getD m false&&decide (m<n)) x/\b.defers=a.defers/\b.tmps.size=a.tmps.size/\(∀t,t∉ds->b.eval (.tmp t)=a.eval (.tmp t))/\∀j,j<n->q.getD j false=true->F j (b.eval (.tmp (ds.getD j 0))) x
 have inv:HeadInv .any l.toArray n (Array.replicate l.toArray.size false):=by refine⟨by simp,fun j oj _ hl=>?_,fun t _ ht=>getD_in (by simpa using ht) (getD_replicate_false _ _)⟩;rw[getD_replicate_false]at hl;cases hl
 have hu:wY n (Array.replicate l.toArray.size false)=n:=by
  have:∀m,m<=l.toArray.size->wY m (Array.replicate l.toArray.size false)=m:=by
   intro m
   induction m with
   |zero=>intro _;rfl
   |succ m ih=>
    intro hm
    rw[jb,ih (by omega)]
    have:(Array.replicate l.toArray.size false).getD m true=false:=getD_in (by simp at hm ⊢;omega) (getD_replicate_false _ _)
    rw[az this]
  exact this n (by omega)
 have H := tL (P:=P) (Q:=Q) (md:= .any) (l.toArray.size-n) I hs hc hn' (fun i o hi ho=>(hop i o hi ho).2.2.1)
   (fun q b x i o hq ho hi hun hafter hI=>by
     obtain⟨hA,hdf,hsize,hfr,hF⟩:=hI
     obtain⟨hd,hg,hb,hmem⟩:=hop i o hi ho
     have La:=hall.at i o (by rw[List.getElem?_take_of_lt hi];simpa using ho)
     rw[Nat.zero_add]at La
     have hwp:=La (q.getD m false&&decide (m<n)) b x hA (fun e=>by
       subst e
       have h3:i<q.size:=by rw[hq.size];omega
       simp[h3]at hun ⊢
       intro h4
       rw[hun]at h4
       cases h4) (fun hj=>by
       obtain⟨e,he,hbe⟩:=Array.any_eq_true'.1 hj
       simp only[au,beq_iff_eq]at hbe
       have h1:=hafter e he hbe.1
       have h2:=hb e he hbe.1
       rw[hbe.2]at h1 h2
       rw[h1]
       simpa using(show m<n by omega)) hfr hdf (fun j hj=>by
       obtain⟨e,he,hbe⟩:=Array.any_eq_true'.1 hj
       simp only[au,beq_iff_eq]at hbe
       have h1:=hafter e he hbe.1
       have h2:=hb e he hbe.1
       rw[hbe.2]at h1 h2
       exact hF j (by omega) h1)
     unfold wpOp
     simp only[ho]
     have hw:Region.wanted o (yielded l.toArray b.tmps)=true:=by simp[Region.wanted,hg]
     rw[az hw]
     refine .inl (Oper.wp_mono (fun b' x' h'=>?_) hwp)
     obtain⟨y,rfl,hA',hF',Lc⟩:=h'
     have hA2:A ((q.setIfInBounds i true).getD m false&&decide (m<n)) x':=by
       by_cases e:i=m
       · subst e
         have h3:i<q.size:=by rw[hq.size];omega
         have h4:(q.setIfInBounds i true).getD i false=true:=by simp[h3]
         rw[h4]
         simpa[hi]using hA'
       · rw[getD_set_ne false e]
         simpa[e]using hA'
     have hds:ds.getD i 0<b.tmps.size:=by rw[hsize];exact hsz _ hmem
     rw[hd]
     refine⟨hA2,hdf,by simpa[Act.put]using hsize,fun t ht=>?_,fun j hj hq'=>?_⟩
     · rw[iY _ _ _ _ hds,ax (fun e=>ht (by rw[←e];exact hmem))]
       exact hfr t ht
     · rw[iY _ _ _ _ hds]
       by_cases e:i=j
       · subst e
         rw[az rfl]
         exact hF'
       · rw[ax (fun e2=>e (hinj i j hi hj e2))]
         rw[getD_set_ne false e]at hq'
         exact Lc j _ (hF j hj hq'))
   (fun q b x hq mD hI=>by
     obtain⟨hA,hdf,hsize,hfr,hF⟩:=hI
     have hqf:q=oO l.length n:=by
       apply Array.ext
       · rw[hq.size];simp[oO];omega
       · intro i h1 h2
         have e1:q.getD i true=q[i]:=by simp[h1]
         have e2:q.getD i false=q[i]:=by simp[h1]
         by_cases e:i<n
         · have:=mD i e
           rw[e1]at this
           rw[this]
           simp only[oO,List.getElem_toArray]
           rw[List.getElem_append_left (by simpa using e)]
           simp
         · have h3:i<l.toArray.size:=by rw[←hq.size];exact h1
           have:=hq.tail i (by omega) h3
           rw[e1]at this
           rw[this]
           simp only[oO,List.getElem_toArray]
           rw[List.getElem_append_right (by simpa using e)]
           simp
     have hF2:∀j,j<n->F j (b.eval (.tmp (ds.getD j 0))) x:=fun j hj=>hF j hj (by
       have:=mD j hj
       have h1:j<q.size:=by rw[hq.size];omega
       simp[h1]at this ⊢
       exact this)
     have hbf:b=ds.foldl (fun a' t=>a'.put (some t) (b.eval (.tmp t))) a:=by
       obtain⟨s1,s2,s3⟩:=lu (fun t=>b.eval (.tmp t)) ds a
       have ht:b.tmps=(ds.foldl (fun a' t=>a'.put (some t) (b.eval (.tmp t))) a).tmps:=by
         apply Array.ext_getElem?
         intro t
         rw[s3 t]
         by_cases e:t<a.tmps.size
         · have eb:b.tmps[t]?=some (b.eval (.tmp t)):=by
             have h1:t<b.tmps.size:=by omega
             simp[Act.eval,h1]
           by_cases e2:t∈ds
           · rw[az ⟨e2,e⟩,eb]
           · rw[ax (fun h=>e2 h.1),eb,hfr t e2]
             simp[Act.eval,e]
         · rw[ax (fun h=>e h.2),J5 (by omega),J5 (by omega)]
       have e3:∀c d:Act,c.tmps=d.tmps->c.defers=d.defers->c=d:=by
         rintro⟨c1,c2⟩ ⟨d1,d2⟩ h1 h2
         simp only at h1 h2
         rw[h1,h2]
       exact e3 _ _ ht (hdf.trans s2.symm)
     have hA3:A (decide (m<n)) x:=by
       by_cases e:m<n
       · have h1:=mD m e
         have h2:m<q.size:=by rw[hq.size];omega
         have h3:q.getD m false=true:=by simp[h2]at h1 ⊢;exact h1
         rw[h3,Bool.true_and]at hA
         exact hA
       · simp[e]at hA ⊢
         exact hA
     have:=hend b x hA3 hF2 hbf
     rw[hqf]
     have e2:(l.drop n).length=l.toArray.size-n:=by rw[Za];simp
     have R2:=wpAny_of_seq (md:= .any) (Q':=Q) (l.drop n) n (oO l.length n) b x (fun j=>by simp[O1]) (by rw[e2];simpa using hseq) this
     rwa [e2]at R2)
   n _ a w.drew inv hu ⟨by rw[getD_replicate_false,Bool.false_and];exact h0,rfl,rfl,fun t _=>rfl,fun j hj h=>by rw[getD_replicate_false]at h;cases h⟩
 rw[show n+(l.toArray.size-n)=l.toArray.size by omega]at H
 exact wp_region_any hm H
end
section
open Go.RowKit
variable {P : Program} {ops : Array Oper} {md : Region.Mode} {Q : Exit → Act → World → Prop} {n : Nat}
theorem wpAny_all (I:Array Bool->Act->World->Prop)(hback:∀i o,ops[i]?=some o->∀e∈o.after,Region.binds md e=true->e.on<i)(hstep:∀l b x i o,l.size=ops.size->ops[i]?=some o->i<ops.size->l.getD i true=false->(∀e∈o.after,Region.binds md e=true->l.getD e.on false=true)->I l b x->wpOp P ops Q i (fun b' x'=>I (l.setIfInBounds i true) b' x') b x)(hend:∀l b x,l.size=ops.size->(∀i,i<ops.size->l.getD i true=true)->I l b x->Q .normal b x):∀f l b x,l.size=ops.size->wY ops.size l=f->I l b x->wpAny P md ops Q f l b x:=by
 intro f
 induction f with
 |zero=>
  intro l b x hsz hu hI
  refine⟨?_,hend l b x hsz (fun i hi=>rW hu i hi) hI⟩
  rcases hr:Region.ready md ops l with _|⟨j,r⟩
  · rfl
  · have hj:j∈Region.ready md ops l:=by{rw[hr];simp};obtain⟨h1,o,ho,-⟩:=mem_ready.1 hj;have hlt:j<ops.size:=(Array.getElem?_eq_some_iff.1 ho).1;rw[rW hu j hlt]at h1;cases h1
 |succ f ih=>
  intro l b x hsz hu hI
  obtain⟨i,hin,hun,hmin⟩:=MG (l:=l) (n:=ops.size) (by omega)
  refine⟨fun h0=>?_,fun j hj=>?_⟩
  · have ho:∃o,ops[i]?=some o:=⟨ops[i]'(by omega),Array.getElem?_eq_getElem (by omega)⟩
    obtain⟨o,ho⟩:=ho
    have:i∈Region.ready md ops l:=mem_ready.2 ⟨hun,o,ho,fun e he hbi=>by
     have h1:=hback i o ho e he hbi
     have h2:=hmin e.on h1
     have h3:e.on<l.size:=by omega
     simp[h3]at h2 ⊢
     exact h2⟩
    rw[h0]at this
    cases this
  · obtain⟨hjun,o,ho,hall⟩:=mem_ready.1 hj;have hlt:j<ops.size:=(Array.getElem?_eq_some_iff.1 ho).1;refine wpOp_mono (fun b' x' h'=>ih _ b' x' (by simpa using hsz) ?_ h') (hstep l b x j o hsz ho hlt hjun hall hI);have:=Ck hjun ops.size hlt;omega
def PQ (l:List Oper)(sz s:Nat)(ds:List Nat):Bool:=
 decide (ds.length=l.length)&&ds.Nodup&&(List.range l.length).all fun i=>match l[i]? with
   |some o=>(if i=s then o.dst==none&&decide (sz<=ds.getD i 0)else o.dst==ds[i]?&&decide (ds.getD i 0<sz))&&o.guard.isNone&&o.after.all fun e=> !Region.binds .any e||decide (e.on<i)
   |none=>false
theorem wG{id:Nat}{a:Act}{l:List Oper}(ds:List Nat)(m s:Nat)(A:Bool->World->Prop)(dS:List Value)(hm:P.follows .mixedOrders=true)(hB:PQ l a.tmps.size s ds=true)(hvs:dS.getD s undef=undef)(h0:A false w.drew)(hall:pX P Q a ds m A (fun j y _=>y=dS.getD j undef) 0 l)(hend:∀b x,A (decide (m<l.length)) x->(∀j,j<l.length->b.eval (.tmp (ds.getD j 0))=dS.getD j undef)->b=ds.foldl (fun a' t=>a'.put (some t) (b.eval (.tmp t))) a->Q .normal b x):(Code.region id l.toArray true).wp P Q a w:=by
 simp only[PQ,au,mK,rq,List.mem_range]at hB
 obtain⟨⟨hdl,hnd⟩,hops⟩:=hB
 have hgd:∀i,i<l.length->ds[i]?=some (ds.getD i 0):=fun i hi=>by rw[ah,ai (by omega)];rfl
 have hop:∀i o,l.toArray[i]?=some o->((i=s->o.dst=none/\a.tmps.size<=ds.getD i 0)/\(i≠s->o.dst=some (ds.getD i 0)/\ds.getD i 0<a.tmps.size))/\o.guard=none/\(∀e∈o.after,Region.binds .any e=true->e.on<i)/\ds.getD i 0∈ds/\i<l.length:=by intro i o ho;have ho':l[i]?=some o:=by{simpa using ho};have hi:i<l.length:=(List.getElem?_eq_some_iff.1 ho').1;have h1:=hops i hi;rw[ho']at h1;simp only[au,Option.isNone_iff_eq_none,Array.all_eq_true',mK,Bool.or_eq_true,Bool.not_eq_true']at h1;obtain⟨⟨h2,h3⟩,h4⟩:=h1;refine⟨⟨fun e=>?_,fun e=>?_⟩,h3,fun e he hbi=>(h4 e he).elim (fun h=>by rw[hbi]at h;cases h) (fun h=>h),List.mem_of_getElem? (hgd i hi),hi⟩;{rw[az e]at h2;simpa using h2};rw[ax e,hgd i hi]at h2;simpa using h2
 have hinj:∀i j,i<l.length->j<l.length->ds.getD i 0=ds.getD j 0->i=j:=by intro i j hi hj e;rw[ah,ah,ai (by omega),ai (by omega)]at e;have e':ds[i]'(by omega)=ds[j]'(by omega):=e;rcases Nat.lt_trichotomy i j with h|h|h;{exact eD e' (List.pairwise_iff_getElem.1 hnd i j (by omega) (by omega) h)};{exact h};exact eD e'.symm (List.pairwise_iff_getElem.1 hnd j i (by omega) (by omega) h)
 let I:Array Bool->Act->World->Prop:=fun q b x=>A (q.getD m false&&decide (m<l.length)) x/\b.defers=a.defers/\b.tmps.size=a.tmps.size/\(∀t,t∉ds->b.eval (.tmp t)=a.eval (.tmp t))/\∀j,j<l.length->q.getD j false=true->b.eval (.tmp (ds.getD j 0))=dS.getD j undef
 have hsl:l.toArray.size=l.length:=by simp
 have hu:wY l.length (Array.replicate l.toArray.size false)=l.length:=by
  have:∀m,m<=l.toArray.size->wY m (Array.replicate l.toArray.size false)=m:=by
   intro m
   induction m with
   |zero=>intro _;rfl
   |succ m ih=>
    intro hm
    rw[jb,ih (by omega)]
    have:(Array.replicate l.toArray.size false).getD m true=false:=getD_in (by simp at hm ⊢;omega) (getD_replicate_false _ _)
    rw[az this]
  exact this _ (by omega)
 have H := wpAny_all (P:=P) (Q:=Q) (md:= .any) (ops:=l.toArray) I (fun i o ho=>(hop i o ho).2.2.1)
   (fun q b x i o hq ho hi hun hafter hI=>by
     obtain⟨hA,hdf,hsize,hfr,hF⟩:=hI
     obtain⟨⟨hds,hdn⟩,hg,hb,hmem,hil⟩:=hop i o ho
     have hqs:q.size=l.length:=by rw[hq,hsl]
     have La:=hall.at i o (by simpa using ho)
     rw[Nat.zero_add]at La
     have hwp:=La (q.getD m false&&decide (m<l.length)) b x hA (fun e=>by
       subst e
       have h3:i<q.size:=by omega
       simp[h3]at hun ⊢
       intro h4
       rw[hun]at h4
       cases h4) (fun hj=>by
       obtain⟨e,he,hbe⟩:=Array.any_eq_true'.1 hj
       simp only[au,beq_iff_eq]at hbe
       have h1:=hafter e he hbe.1
       have h2:=hb e he hbe.1
       rw[hbe.2]at h1 h2
       rw[h1]
       simpa using(show m<l.length by omega)) hfr hdf (fun j hj=>by
       obtain⟨e,he,hbe⟩:=Array.any_eq_true'.1 hj
       simp only[au,beq_iff_eq]at hbe
       have h1:=hafter e he hbe.1
       have h2:=hb e he hbe.1
       rw[hbe.2]at h1 h2
       exact hF j (by omega) h1)
     unfold wpOp
     simp only[ho]
     have hw:Region.wanted o (yielded l.toArray b.tmps)=true:=by simp[Region.wanted,hg]
     rw[az hw]
     refine .inl (Oper.wp_mono (fun b' x' h'=>?_) hwp)
     obtain⟨y,rfl,hA',hF',Lc⟩:=h'
     have hA2:A ((q.setIfInBounds i true).getD m false&&decide (m<l.length)) x':=by
       by_cases e:i=m
       · subst e
         have h3:i<q.size:=by omega
         have h4:(q.setIfInBounds i true).getD i false=true:=by simp[h3]
         rw[h4]
         simpa[hil]using hA'
       · rw[getD_set_ne false e]
         simpa[e]using hA'
     by_cases es:i=s
     · obtain⟨hd,hge⟩:=hds es
       rw[hd]
       refine⟨hA2,hdf,hsize,hfr,fun j hj hq'=>?_⟩
       by_cases e:i=j
       · subst e
         subst es
         rw[hvs]
         unfold Act.eval
         have:b.tmps.size<=ds.getD i 0:=by rw[hsize];exact hge
         have h5:b.tmps[ds.getD i 0]?=none:=J5 this
         show b.tmps.getD _ undef=undef
         rw[Array.getD_eq_getD_getElem?,h5]
         rfl
       · rw[getD_set_ne false e]at hq'
         exact hF j hj hq'
     · obtain⟨hd,hlt⟩:=hdn es
       rw[hd]
       have hlt':ds.getD i 0<b.tmps.size:=by rw[hsize];exact hlt
       refine⟨hA2,hdf,by simpa[Act.put]using hsize,fun t ht=>?_,fun j hj hq'=>?_⟩
       · rw[iY _ _ _ _ hlt',ax (fun e=>ht (by rw[←e];exact hmem))]
         exact hfr t ht
       · rw[iY _ _ _ _ hlt']
         by_cases e:i=j
         · subst e
           rw[az rfl]
           exact hF'
         · rw[ax (fun e2=>e (hinj i j hil hj e2))]
           rw[getD_set_ne false e]at hq'
           exact hF j hj hq')
   (fun q b x hq mD hI=>by
     obtain⟨hA,hdf,hsize,hfr,hF⟩:=hI
     have hqs:q.size=l.length:=by rw[hq,hsl]
     have hF2:∀j,j<l.length->b.eval (.tmp (ds.getD j 0))=dS.getD j undef:=fun j hj=>hF j hj (by
       have:=mD j (by omega)
       have h1:j<q.size:=by omega
       simp[h1]at this ⊢
       exact this)
     have hbf:b=ds.foldl (fun a' t=>a'.put (some t) (b.eval (.tmp t))) a:=by
       obtain⟨s1,s2,s3⟩:=lu (fun t=>b.eval (.tmp t)) ds a
       have ht:b.tmps=(ds.foldl (fun a' t=>a'.put (some t) (b.eval (.tmp t))) a).tmps:=by
         apply Array.ext_getElem?
         intro t
         rw[s3 t]
         by_cases e:t<a.tmps.size
         · have eb:b.tmps[t]?=some (b.eval (.tmp t)):=by
             have h1:t<b.tmps.size:=by omega
             simp[Act.eval,h1]
           by_cases e2:t∈ds
           · rw[az ⟨e2,e⟩,eb]
           · rw[ax (fun h=>e2 h.1),eb,hfr t e2]
             simp[Act.eval,e]
         · rw[ax (fun h=>e h.2),J5 (by omega),J5 (by omega)]
       have e3:∀c d:Act,c.tmps=d.tmps->c.defers=d.defers->c=d:=by
         rintro⟨c1,c2⟩ ⟨d1,d2⟩ h1 h2
         simp only at h1 h2
         rw[h1,h2]
       exact e3 _ _ ht (hdf.trans s2.symm)
     have hA3:A (decide (m<l.length)) x:=by
       by_cases e:m<l.length
       · have h1:=mD m (by omega)
         have h2:m<q.size:=by omega
         have h3:q.getD m false=true:=by simp[h2]at h1 ⊢;exact h1
         rw[h3,Bool.true_and]at hA
         exact hA
       · simp[e]at hA ⊢
         exact hA
     exact hend b x hA3 hF2 hbf)
   l.length (Array.replicate l.toArray.size false) a w.drew (by simp) (by rw[hsl];exact hu) ⟨by rw[getD_replicate_false,Bool.false_and];exact h0,rfl,rfl,fun t _=>rfl,fun j hj h=>by rw[getD_replicate_false]at h;cases h⟩
 rw[←hsl]at H
 exact wp_region_any hm H
end
end Go.Proofs.YthkjdjmjdlimnaaGreat
