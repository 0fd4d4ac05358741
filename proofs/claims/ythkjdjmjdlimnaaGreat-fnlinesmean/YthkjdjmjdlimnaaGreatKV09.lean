/- Own text. -/
import Derived.Test.YthkjdjmjdlimnaaGreatKV08
namespace Go.Proofs.YthkjdjmjdlimnaaGreat
open Go.RowKit Go.Shelf
set_option linter.all false
set_option maxRecDepth 100000
set_option maxHeartbeats 16000000
variable {E O out:List Int}{N cap e gE gO i k len n n₀ n₁:Nat}{S:List Nat}{W W' w:World}{a b h h' jH mo p:Int}{row:Option Nat}{v v':Value}
section
def sI (W:World)(b:Nat)(v0 v1 v2 v3 v4:Value):Prop:=
 b <W.heap.size/\(W.cell? ⟨b,0,none⟩=some v0/\W.cell? ⟨b,1,none⟩=some v1/\W.cell? ⟨b,2,none⟩=some v2/\W.cell? ⟨b,3,none⟩=some v3/\W.cell? ⟨b,4,none⟩=some v4)/\
   W.frozen? ⟨b,0,none⟩=false/\W.frozen? ⟨b,1,none⟩=false/\W.frozen? ⟨b,2,none⟩=false/\W.frozen? ⟨b,3,none⟩=false/\W.frozen? ⟨b,4,none⟩=false
theorem sI.dZ{b:Nat}{v0 v1 v2 v3 v4:Value}(h:sI W b v0 v1 v2 v3 v4)(hg:W.grownBy W' row)(hne:row≠some b):sI W' b v0 v1 v2 v3 v4:=by obtain⟨h0,⟨c0,c1,c2,c3,c4⟩,f0,f1,f2,f3,f4⟩:=h;have hb:=hg.block b h0 (fun e=>hne e.symm);have hc:∀i,W'.cell? ⟨b,i,none⟩=W.cell? ⟨b,i,none⟩:=fun i=>kK hb;have hf:∀i,W'.frozen? ⟨b,i,none⟩=W.frozen? ⟨b,i,none⟩:=fun i=>by{unfold World.frozen?;rw[hb]};exact⟨aj h0 hg.size,⟨(hc _).trans c0,(hc _).trans c1,(hc _).trans c2,(hc _).trans c3,(hc _).trans c4⟩,(hf _).trans f0,(hf _).trans f1,(hf _).trans f2,(hf _).trans f3,(hf _).trans f4⟩
theorem sI.new (W:World)(v0 v1 v2 v3 v4:Value)(t:TypeId):sI (W.alloc (.cells #[v0,v1,v2,v3,v4] t)) W.heap.size v0 v1 v2 v3 v4:=by refine⟨by simp,⟨?_,?_,?_,?_,?_⟩,?_,?_,?_,?_,?_⟩<;>go_simp
theorem sI.ak8{b:Nat}{v0 v1 v2 v3 v4:Value}(h:sI W b v0 v1 v2 v3 v4)(x:Value):sI (W.setCell ⟨b,1,none⟩ x) b v0 x v2 v3 v4:=by obtain⟨h0,⟨c0,c1,c2,c3,c4⟩,f0,f1,f2,f3,f4⟩:=h;refine⟨by simpa[World.setCell]using h0,⟨?_,?_,?_,?_,?_⟩,?_,?_,?_,?_,?_⟩<;>go_simp
theorem sI.akz{b:Nat}{v0 v1 v2 v3 v4:Value}(h:sI W b v0 v1 v2 v3 v4)(x:Value):sI (W.setCell ⟨b,4,none⟩ x) b v0 v1 v2 v3 x:=by obtain⟨h0,⟨c0,c1,c2,c3,c4⟩,f0,f1,f2,f3,f4⟩:=h;refine⟨by simpa[World.setCell]using h0,⟨?_,?_,?_,?_,?_⟩,?_,?_,?_,?_,?_⟩<;>go_simp
structure PS (w:World)(m0 N gE gO:Nat)(a:Option Addr)(len cap:Nat)(E O:List Int)(S:List Nat)(b:Bool)(W:World):Prop where
 fU:Below w.heap.size w W
 hm:m0<=W.heap.size
 iN:w.heap.size<=N/\N<m0
 iE:w.heap.size<=gE/\gE<m0
 iO:w.heap.size<=gO/\gO<m0
 ne:N≠gE/\N≠gO/\gE≠gO
 rE:W.ownsRow w.heap.size 2 1 (.slice (some ⟨gE,0,none⟩) len len) len (E.map iv)
 rO:W.ownsRow w.heap.size 2 1 (.slice (some ⟨gO,0,none⟩) len len) len (O.map iv)
 st:∃v,sI W N (.slice a len cap) v (.slice (some ⟨gE,0,none⟩) len len) (.slice (some ⟨gO,0,none⟩) len len) (.bool b)/\W.ownsRow m0 2 1 v S.length ((nk S.reverse).map iv)
variable {w : World} {m0 N gE gO : Nat} {a : Option Addr} {len cap : Nat} {E O : List Int} {S : List Nat} {b : Bool} {W : World}
theorem PS.kept {W':World}(h:PS w m0 N gE gO a len cap E O S b W)(hB:Below W.heap.size W W'):PS w m0 N gE gO a len cap E O S b W':=by obtain⟨v,hb,hr⟩:=h.st;exact{h with fU:=h.fU.trans (hB.mono h.fU.size),hm:=fH h.hm hB.size,rE:=aN h.rE hB,rO:=aN h.rO hB,st:=⟨v,hb.dZ (row:=none) ⟨hB.os,hB.tape,hB.output,hB.size,fun k hk _=>hB.block k hk⟩ (by simp),aN hr hB⟩}
theorem bP{xs:List Value}(h:W.ownsRow n₀ e k v n xs):∃a cap,v= .slice a n cap:=by rcases h.2 with⟨rfl,h0⟩|⟨g,cap,cur,rfl,_⟩;{exact⟨none,0,by rw[h0]⟩};exact⟨_,cap,rfl⟩
theorem PS.apart(h:PS w m0 N gE gO a len cap E O S b W){xs:List Value}(hr:W.ownsRow m0 2 1 v n xs):∀g,v.ownBlock=some g->g≠N/\g≠gE/\g≠gO:=by intro g hg;have h1:=(hr.lt g hg).1;have:=h.iN;have:=h.iE;have:=h.iO;omega
theorem PS.row{wA:World}{xs:List Value}(hs:PS w m0 N gE gO a len cap E O S b W)(hr:W.ownsRow m0 2 1 v n xs)(hg:W.grownBy wA v.ownBlock){S':List Nat}(hown:wA.ownsRow m0 2 1 v' S'.length ((nk S'.reverse).map iv)):PS w m0 N gE gO a len cap E O S' b (wA.setCell ⟨N,1,none⟩ v'):=by have hap:=hs.apart hr;have hN:=hs.iN;have hEi:=hs.iE;have hOi:=hs.iO;obtain⟨n1,n2,n3⟩:=hs.ne;obtain⟨vv,hb,-⟩:=hs.st;have pQ:=hb.dZ hg (fun e=>by have:=hap N e;omega);have hg2:=aC wA ⟨N,1,none⟩ v';have off:∀{g:Nat}{ys:List Value},W.ownsRow w.heap.size 2 1 (.slice (some ⟨g,0,none⟩) len len) len ys->(∀x,v.ownBlock=some x->x≠g)->g≠N->(wA.setCell ⟨N,1,none⟩ v').ownsRow w.heap.size 2 1 (.slice (some ⟨g,0,none⟩) len len) len ys:=by{intro g ys hrg h1 h2;have e1:wA.ownsRow w.heap.size 2 1 (.slice (some ⟨g,0,none⟩) len len) len ys:=hrg.kept hg (.inr (fun e=>h1 g e.symm rfl));exact kE e1 hg2 h2};have hB1:=hs.fU.grown hg hs.fU.size (fun j ej=>by have:=(hr.lt j ej).1;omega);refine⟨hB1.setCell (p:=⟨N,1,none⟩) hN.1 _,?_,hN,hEi,hOi,hs.ne,off hs.rE (fun x hx=>(hap x hx).2.1) (by omega),off hs.rO (fun x hx=>(hap x hx).2.2) (by omega),v',pQ.ak8 v',?_⟩;{have h1:=hs.hm;have h2:=hg.size;simp[World.setCell];omega};refine hown.kept hg2 ?_;rcases hv:v'.ownBlock with _|x;{exact .inl rfl};refine .inr ?_;have:=(hown.lt x hv).1;simp only[ne_eq,af];omega
theorem PS.dU {t:Nat}(hs:PS w m0 N gE gO a len cap E O (t::S) b W):∃g c,sI W N (.slice a len cap) (.slice (some ⟨g,0,none⟩) (S.length+1) c) (.slice (some ⟨gE,0,none⟩) len len) (.slice (some ⟨gO,0,none⟩) len len) (.bool b)/\W.ownsRow m0 2 1 (.slice (some ⟨g,0,none⟩) (S.length+1) c) (S.length+1) ((nk (t::S).reverse).map iv)/\W.cell? ⟨g,S.length,none⟩=some (.int .i64 (t:Int)):=by obtain⟨v,hb,hr⟩:=hs.st;rw[oK]at hr;obtain⟨g,c,rfl⟩:=qF hr;refine⟨g,c,hb,hr,?_⟩;have:=mP (xs:=nk (t::S).reverse) hr (k:=S.length) (by simp) 0;rw[this];simp[nk]
end
section
variable {w : World} {m0 N gE gO : Nat} {a : Option Addr} {len cap : Nat} {E O : List Int} {S : List Nat} {b : Bool} {W : World}
theorem eY{xs:List Value}(h:W.ownsRow n₁ e k v n xs)(hn:n₀<=n₁):W.ownsRow n₀ e k v n xs:=by refine⟨h.1,?_⟩;rcases h.2 with h'|⟨g',cap',cur,h',hb,r⟩;{exact .inl h'};exact .inr ⟨g',cap',cur,h',fH hn hb,r⟩
theorem PS.Dv (hs:PS w m0 N gE gO a len cap E O S b W)(b':Bool):PS w m0 N gE gO a len cap E O S b' (W.setCell ⟨N,4,none⟩ (.bool b')):=by
 obtain⟨n1,n2,n3⟩:=hs.ne
 obtain⟨v,hb,hr⟩:=hs.st
 have hg:=aC W ⟨N,4,none⟩ (.bool b')
 have hap:=hs.apart hr
 exact {hs with
   fU:=hs.fU.setCell (p:=⟨N,4,none⟩) hs.iN.1 _
   hm:=by have:=hs.hm;simpa[World.setCell]using this
   rE:=kE hs.rE hg (Ne.symm n1)
   rO:=kE hs.rO hg (Ne.symm n2)
   st:=⟨v,hb.akz _,hr.kept hg (by
     rcases hv:v.ownBlock with _|x
     · exact .inl rfl
     · refine .inr ?_
       have:=hap x hv
       simp only[ne_eq,af]
       omega)⟩}
theorem SL.at{a:Option Addr}{xs:List (Int×Int)}(h:SL w a len xs)(hB:Below w.heap.size w W){t:Nat}(ht:t<len):∃bl off,a=some ⟨bl,off,none⟩/\bl<w.heap.size/\W.cell? ⟨bl,off+t*2,none⟩=some (.int .i64 (aM.op xs t))/\W.cell? ⟨bl,off+t*2+1,none⟩=some (.int .i64 (xs.getD t (0,0)).2):=by obtain⟨-,-,h3|⟨bl,off,rfl,hb,hx⟩⟩:=h;{omega};exact⟨bl,off,rfl,hb,(hB.cell (p:=⟨bl,off+t*2,none⟩) hb).trans (hx t ht).1,(hB.cell (p:=⟨bl,off+t*2+1,none⟩) hb).trans (hx t ht).2⟩
end
section
structure PI (xs:List (Int×Int))(k:Nat)(E O:List Int)(S:List Nat)(b:Bool):Prop where
 sl:S.length<=k
 inv:b=false->aM.Inv xs k E O S/\aM.all xs=aM.go xs (xs.length+1-k) k E O S
 fin:b=true->aM.all xs=(E,O,decide (k=xs.length))
theorem PI.first (xs:List (Int×Int)):PI xs 0 (aM.iD xs.length) (aM.iD xs.length) [] false:=
 ⟨bI _,fun _=>⟨aM.Inv.first xs,rfl⟩,fun h=>by cases h⟩
variable {w : World} {m0 N gE gO : Nat} {a : Option Addr} {len cap : Nat} {E O : List Int} {S : List Nat} {b : Bool} {W : World} {xs : List (Int × Int)} {k t : Nat}
theorem go_succ (hk:k<xs.length):xs.length+1-k=(xs.length+1-(k+1))+1:=by omega
theorem PI.push (h:PI xs k E O S false)(hk:k<xs.length)(ho:St.opens (aM.op xs k)=true):PI xs (k+1) E O (k::S) false:=by obtain⟨h1,h2⟩:=h.inv rfl;exact⟨by have:=h.sl;simp;omega,fun _=>⟨h1.push hk ho,by rw[h2,go_succ hk,aM.mD hk ho]⟩,fun h=>by cases h⟩
theorem PI.other (h:PI xs k E O S false)(hk:k<xs.length)(ho:St.opens (aM.op xs k)=false)(h11:aM.op xs k≠11)(h12:aM.op xs k≠12):PI xs (k+1) E O S false:=by obtain⟨h1,h2⟩:=h.inv rfl;exact⟨by have:=h.sl;omega,fun _=>⟨h1.other hk ho h11,by rw[h2,go_succ hk,aM.lW hk ho h11 h12]⟩,fun h=>by cases h⟩
theorem PI.Oa (h:PI xs k E O (t::S) false)(hk:k<xs.length)(ho:St.opens (aM.op xs k)=false)(h11:aM.op xs k=11)(h1:aM.op xs t=10)(h2:aM.aI O t=-1):PI xs (k+1) E (O.set t (k:Int)) (t::S) false:=by obtain⟨h3,h4⟩:=h.inv rfl;exact⟨by have:=h.sl;omega,fun _=>⟨h3.Oa hk h11 h1 (by omega),by rw[h4,go_succ hk,aM.mg hk ho h11 ⟨h1,by unfold aM.aI at h2;omega⟩]⟩,fun h=>by cases h⟩
theorem PI.Zy (h:PI xs k E O (t::S) false)(hk:k<xs.length)(ho:St.opens (aM.op xs k)=false)(h12:aM.op xs k=12):PI xs (k+1) (aM.close E O t k) O S false:=by obtain⟨h3,h4⟩:=h.inv rfl;exact⟨by have:=h.sl;simp at this;omega,fun _=>⟨h3.Zy hk h12,by rw[h4,go_succ hk,aM.mq hk ho (by omega) h12]⟩,fun h=>by cases h⟩
theorem PI.last (h:PI xs k E O [] false)(hk:k<xs.length)(ho:St.opens (aM.op xs k)=false)(h12:aM.op xs k=12):PI xs (k+1) E O [] true:=by obtain⟨h3,h4⟩:=h.inv rfl;exact⟨by simp,(fun h=>by cases h),fun _=>by rw[h4,go_succ hk,aM.oG hk ho (by omega) h12]⟩
end
theorem PS.len {w:World}{m0 N gE gO:Nat}{a:Option Addr}{len cap:Nat}{E O:List Int}{S:List Nat}{b:Bool}{W:World}(hs:PS w m0 N gE gO a len cap E O S b W):E.length=len/\O.length=len:=by have h1:=hs.rE.1;have h2:=hs.rO.1;simp at h1 h2;exact⟨h1,h2⟩
def NB (W:World)(n0:Nat)(N:Nat)(E O:List Int):Prop:=
 ∃v0 v1 vE vO v4,sI W N v0 v1 vE vO v4/\OI W n0 vE E/\OI W n0 vO O/\n0<=N/\∃a0 l0 c0,v0= .slice a0 l0 c0
theorem PS.nb{m0:Nat}{a:Option Addr}{b:Bool}{n0:Nat}(hs:PS w m0 N gE gO a len cap E O S b W)(hn:n0<=w.heap.size):NB W n0 N E O:=by obtain⟨v,hb,-⟩:=hs.st;obtain⟨l1,l2⟩:=hs.len;refine⟨_,_,_,_,_,hb,?_,?_,fH hn hs.iN.1,_,_,_,rfl⟩;{unfold OI;rw[l1];exact eY hs.rE hn};unfold OI;rw[l2];exact eY hs.rO hn
theorem PI.isOk {xs:List (Int×Int)}{n:Nat}{E O:List Int}{S:List Nat}{b:Bool}(h:PI xs xs.length E O S b)(hg:(decide (xs.length<=80)&&St.dh xs)=true):aM.isOk xs=b/\(b=true->aM.ends xs=E/\aM.bC xs=O):=by rcases b with _|_;{refine⟨?_,fun h=>by cases h⟩;rw[aM.isOk,hg,(h.inv rfl).2,Bool.true_and,show xs.length+1-xs.length=0+1 by omega,aM.qX (bI _)]};have e:=h.fin rfl;have h1:aM.isOk xs=true:=by{rw[aM.isOk,hg,e];simp};refine⟨h1,fun _=>?_⟩;rw[aM.ends,aM.bC,az h1,az h1,e];exact⟨rfl,rfl⟩
namespace aM
def dep (xs:List (Int×Int)):Nat->Nat
 |0=>0
 |i+1=>if St.opens (op xs i)=true then dep xs i+1 else if op xs i=12 then dep xs i-1 else dep xs i
theorem p8{xs:List (Int×Int)}(h:St.opens (op xs i)=true):dep xs (i+1)=dep xs i+1:=az h
theorem vP{xs:List (Int×Int)}(h:op xs i=12):dep xs (i+1)=dep xs i-1:=by have:¬St.opens (op xs i)=true:=by{rw[h];decide};show(if _ then _ else _)=_;rw[ax this,az h]
theorem lK{xs:List (Int×Int)}(h:St.opens (op xs i)=false)(h2:op xs i≠12):dep xs (i+1)=dep xs i:=by show(if _ then _ else _)=_;rw[ax (by simp[h]),ax h2]
theorem R5 {xs:List (Int×Int)}:∀(f k:Nat)(E O:List Int)(S:List Nat){Ef Of:List Int},go xs f k E O S=(Ef,Of,true)->S.length=dep xs k->∀i,k<=i->i<xs.length->op xs i=12->dep xs i=0->i+1=xs.length
 |0,k,E,O,S,Ef,Of,h,hd=>by simp[go]at h
 | f + 1,k,E,O,S,Ef,Of,h,hd=>by
   intro i hi hil h12 hd0
   by_cases hk:xs.length<=k
   · rw[qX hk]at h;simp at h
   have hk:k<xs.length:=by omega
   have next:∀(S':List Nat)(E' O':List Int),go xs f (k+1) E' O' S'=(Ef,Of,true)->S'.length=dep xs (k+1)->(i=k->i+1=xs.length)->i+1=xs.length:=by
     intro S' E' O' h' hd' hc
     by_cases e:i=k
     · exact hc e
     · exact R5 f (k+1) E' O' S' h' hd' i (by omega) hil h12 hd0
   rcases ho:St.opens (op xs k)with _|_
   · by_cases h11:op xs k=11
     · rcases S with _|⟨t,S'⟩
       · rw[nU hk ho h11]at h;simp at h
       · by_cases h2:op xs t=10/\O.getD t (-1)<0
         · rw[mg hk ho h11 h2]at h
           refine next _ _ _ h (by rw[lK ho (by omega)];exact hd) (fun e=>?_)
           subst e;omega
         · rw[mf hk ho h11 h2]at h;simp at h
     · by_cases uz:op xs k=12
       · rcases S with _|⟨t,S'⟩
         · rw[oG hk ho h11 uz]at h
           simp only[kJ,mY]at h
           have:=h.2.2
           omega
         · rw[mq hk ho h11 uz]at h
           refine next _ _ _ h (by rw[vP uz,←hd];simp) (fun e=>?_)
           subst e
           rw[←hd]at hd0
           simp at hd0
       · rw[lW hk ho h11 uz]at h
         refine next _ _ _ h (by rw[lK ho uz];exact hd) (fun e=>?_)
         subst e;exact eU h12 uz
   · rw[mD hk ho]at h
     refine next _ _ _ h (by rw[p8 ho];simp[hd]) (fun e=>?_)
     subst e
     rw[h12]at ho
     cases ho
theorem Qd{xs:List (Int×Int)}(h:isOk xs=true)(hi:i<xs.length)(h12:op xs i=12)(hd:dep xs i=0):i+1=xs.length:=by have h2:(all xs).2.2=true:=by{rw[isOk,au]at h;exact h.2};exact R5 (xs.length+1) 0 _ _ [] (Ef:=(all xs).1) (Of:=(all xs).2.1) (by show all xs=_;rw[←h2]) rfl i (jT _) hi h12 hd
end aM
theorem aM.tC (xs:List (Int×Int)):∀i,aM.dep xs i<=i
 |0=>bI _
 | i +1=>by
   have h:=aM.tC xs i
   rcases ho:St.opens (aM.op xs i)with _|_
   · by_cases h12:aM.op xs i=12
     · rw[aM.vP h12];omega
     · rw[aM.lK ho h12];omega
   · rw[aM.p8 ho];omega
structure fQ where
 st:Int
 wd:Int
 cm:Bool
namespace Hg
def mx (a b:Int):Int:=if a<b then b else a
def tk (fs:List Fn)(p a:Int):Int:=
 if p=3\/p=7\/p=14\/p=10 then 1 else if p=4\/p=6\/p=17 then 1 else if p=5 then 2 else if p=18 then 2 else if p=16 then(fs.getD a.toNat .z).a else 0
def pt (fs:List Fn)(p a:Int):Int:=
 if p=1\/p=2 then 1 else if p=4\/p=6\/p=17 then 1 else if p=5 then 1 else if p=16 then(fs.getD a.toNat .z).g else 0
def bad (fs:List Fn)(f:Fn)(o:Int)(n:Nat)(p a:Int):Bool:=
 decide ((p=2\/p=3\/p=4)/\f.a+f.l<=a)||decide (p=16/\(fs.length:Int)<=a)||decide ((p=13\/p=14)/\(n:Int)-1<a)||decide (p=10/\a=1/\o<0)
def fM (S:List fQ)(a:Int):Int:=(S.getD a.toNat ⟨0,0,false⟩).wd
def iJ (f:Fn)(p a h mo:Int)(x:fQ)(S:List fQ):Option (Int×Int×List fQ):=
 if p=8\/p=9\/p=10 then some (h,mo,⟨h,a,decide (0<=h)⟩::x::S)
 else if p=13\/p=14 then(if 0<=h/\h-x.st<fM (x::S) a then none else some (if p=13 then -1 else h,mo,x::S))
 else if p=15 then(if 0<=h/\h-x.st<f.g then none else some (-1,mo,x::S))
 else if p=19 then some (-1,mo,x::S)
 else if p=11 then(if 0<=h/\h-x.st≠x.wd then none else some (if x.cm=true then x.st else -1,mx mo (if x.cm=true then x.st else -1),x::S))
 else if p=12 then(if 0<=h/\h-x.st≠x.wd then none else some (if x.cm=true then x.st+x.wd else -1,mx mo (if x.cm=true then x.st+x.wd else -1),S))
 else some (h,mo,x::S)
def one (fs:List Fn)(f:Fn)(o p a h mo:Int)(S:List fQ):Option (Int×Int×List fQ):=
 match S with
 |[]=>none
 | x::S'=>
   if bad fs f o (S'.length+1) p a=true then none
   else if 0<=h then(if h-x.st<tk fs p a then none else iJ f p a (h-tk fs p a+pt fs p a) (mx mo (h-tk fs p a+pt fs p a)) x S')
   else iJ f p a h mo x S'
def go (fs:List Fn)(f:Fn)(O:List Int):Nat->Nat->Int->Int->List fQ->List Int->Option (List Int×Int)
 |0,_,_,mo,_,out=>some (out,mo)
 | n+1,i,h,mo,S,out=>
   match one fs f (O.getD i (-1)) (aM.op f.b i) (f.b.getD i (0,0)).2 h mo S with
   |none=>none
   |some (h',jH,S')=>go fs f O n (i+1) h' jH S' (out++[h])
def all (fs:List Fn)(f:Fn):Option (List Int×Int):=go fs f (aM.bC f.b) f.b.length 0 0 f.g [⟨0,f.g,true⟩] []
def kD (fs:List Fn)(f:Fn):Option (List Int×Int):=
 if aM.isOk f.b=true then match all fs f with
   |some (out,mo)=>if mo<=20 then some (out,mo)else none
   |none=>none
 else none
def jO (fs:List Fn)(d:ByteArray)(k:Int):Option (List Int×Int):=if Md.ok fs d=true/\0<=k/\k<fs.length then kD fs (fs.getD k.toNat .z)else none
def valid (fs:List Fn)(d:ByteArray):Bool:=Md.ok fs d&&(List.range fs.length).all fun(k:Nat)=>(jO fs d k).isSome
theorem M9{fs:List Fn}{f:Fn}{S S':List fQ}(hi:i<f.b.length)(h1:one fs f (O.getD i (-1)) (aM.op f.b i) (f.b.getD i (0,0)).2 h mo S=some (h',jH,S')):go fs f O (f.b.length-i) i h mo S out=go fs f O (f.b.length-(i+1)) (i+1) h' jH S' (out++[h]):=by rw[show f.b.length-i=(f.b.length-(i+1))+1 by omega,go,h1]
theorem W9{fs:List Fn}{f:Fn}{S:List fQ}(hi:i<f.b.length)(h1:one fs f (O.getD i (-1)) (aM.op f.b i) (f.b.getD i (0,0)).2 h mo S=none):go fs f O (f.b.length-i) i h mo S out=none:=by rw[show f.b.length-i=(f.b.length-(i+1))+1 by omega,go,h1]
theorem QG {fs:List Fn}{f:Fn}(h:all fs f=none):kD fs f=none:=by unfold kD;rw[h];split<;>rfl
theorem QD{fs:List Fn}{f:Fn}(mH:aM.isOk f.b=true)(h:all fs f=some (out,mo)):kD fs f=if mo<=20 then some (out,mo)else none:=by unfold kD;rw[az mH,h]
theorem mX{fs:List Fn}{f:Fn}{o:Int}{x:fQ}{S:List fQ}(hb:bad fs f o (S.length+1) p a=true):one fs f o p a h mo (x::S)=none:=by exact az hb
theorem gK{fs:List Fn}{f:Fn}{o:Int}{x:fQ}{S:List fQ}(hb:bad fs f o (S.length+1) p a=false)(h0:0<=h)(h1:h-x.st<tk fs p a):one fs f o p a h mo (x::S)=none:=by show(if _ then _ else if _ then(if _ then _ else _)else _)=_;rw[ax (by simp[hb]),az h0,az h1]
theorem lQ{fs:List Fn}{f:Fn}{o:Int}{x:fQ}{S:List fQ}(hb:bad fs f o (S.length+1) p a=false)(h0:0<=h)(h1:¬h-x.st<tk fs p a):one fs f o p a h mo (x::S)=iJ f p a (h-tk fs p a+pt fs p a) (mx mo (h-tk fs p a+pt fs p a)) x S:=by show(if _ then _ else if _ then(if _ then _ else _)else _)=_;rw[ax (by simp[hb]),az h0,ax h1]
theorem Jc{fs:List Fn}{f:Fn}{o:Int}{x:fQ}{S:List fQ}(hb:bad fs f o (S.length+1) p a=false)(h0:h<0):one fs f o p a h mo (x::S)=iJ f p a h mo x S:=by show(if _ then _ else if _ then(if _ then _ else _)else _)=_;rw[ax (by simp[hb]),ax (by omega)]
theorem RO{c:Int}(h1:a<=c)(h2:b<=c):mx a b<=c:=by unfold mx;split<;>omega
theorem Jq{c:Int}(h:c<=a):c<=mx a b:=by unfold mx;split<;>omega
structure Bd (i:Nat)(h mo:Int)(S:List fQ):Prop where
 hb:-1<=h/\h<=i
 mb:0<=mo/\mo<=i+1
 sb:∀x∈S,-1<=x.st/\x.st+x.wd<=i+1/\0<=x.wd/\x.wd<=1
theorem Qk{f:Fn}{x:fQ}{S S':List fQ}(ha:p=8\/p=9\/p=10->0<=a/\a<=1)(hb:-1<=h/\h<=i+1)(ho:p=8\/p=9\/p=10->h<=i)(mb:0<=mo/\mo<=i+2)(sb:∀x'∈x::S,-1<=x'.st/\x'.st+x'.wd<=i+1/\0<=x'.wd/\x'.wd<=1)(h1:iJ f p a h mo x S=some (h',jH,S')):Bd (i+1) h' jH S':=by have sx:=sb x (by simp);have sb':∀x'∈x::S,-1<=x'.st/\x'.st+x'.wd<=((i+1:Nat):Int)+1/\0<=x'.wd/\x'.wd<=1:=fun x' hx=>by{have:=sb x' hx;omega};have sbt:∀x'∈S,-1<=x'.st/\x'.st+x'.wd<=((i+1:Nat):Int)+1/\0<=x'.wd/\x'.wd<=1:=fun x' hx=>sb' x' (List.mem_cons_of_mem _ hx);unfold iJ at h1;split at h1;{rename_i hp;have:=ha hp;have:=ho hp;simp only[af,kJ]at h1;obtain⟨rfl,rfl,rfl⟩:=h1;refine⟨by omega,by omega,fun x' hx=>?_⟩;rcases List.mem_cons.1 hx with rfl|hx;{simp only;omega};exact sb' x' hx};split at h1;{split at h1;{cases h1};simp only[af,kJ]at h1;obtain⟨rfl,rfl,rfl⟩:=h1;exact⟨by split<;>omega,by omega,sb'⟩};split at h1;{split at h1;{cases h1};simp only[af,kJ]at h1;obtain⟨rfl,rfl,rfl⟩:=h1;exact⟨by omega,by omega,sb'⟩};split at h1;{simp only[af,kJ]at h1;obtain⟨rfl,rfl,rfl⟩:=h1;exact⟨by omega,by omega,sb'⟩};split at h1;{split at h1;{cases h1};simp only[af,kJ]at h1;obtain⟨rfl,rfl,rfl⟩:=h1;refine⟨by split<;>omega,⟨Jq mb.1,RO (by omega) (by split<;>omega)⟩,sb'⟩};split at h1;{split at h1;{cases h1};simp only[af,kJ]at h1;obtain⟨rfl,rfl,rfl⟩:=h1;refine⟨by split<;>omega,⟨Jq mb.1,RO (by omega) (by split<;>omega)⟩,sbt⟩};simp only[af,kJ]at h1;obtain⟨rfl,rfl,rfl⟩:=h1;exact⟨by omega,by omega,sb'⟩
theorem Xt{f:Fn}{x:fQ}{S S':List fQ}(h1:iJ f p a h mo x S=some (h',jH,S')):S'.length=if St.opens p=true then S.length+2 else if p=12 then S.length else S.length+1:=by unfold iJ at h1;have ho:St.opens p=true↔(p=8\/p=9\/p=10):=by{unfold St.opens;exact decide_eq_true_iff};split at h1;{rename_i hp;rw[az (ho.2 hp)];simp only[af,kJ]at h1;obtain⟨-,-,rfl⟩:=h1;rfl};rename_i hp;rw[ax (fun q=>hp (ho.1 q))];split at h1;{rename_i hp;rw[ax (by omega)];split at h1;{cases h1};simp only[af,kJ]at h1;obtain⟨-,-,rfl⟩:=h1;rfl};split at h1;{rename_i hp;rw[ax (by omega)];split at h1;{cases h1};simp only[af,kJ]at h1;obtain⟨-,-,rfl⟩:=h1;rfl};split at h1;{rename_i hp;rw[ax (by omega)];simp only[af,kJ]at h1;obtain⟨-,-,rfl⟩:=h1;rfl};split at h1;{rename_i hp;rw[ax (by omega)];split at h1;{cases h1};simp only[af,kJ]at h1;obtain⟨-,-,rfl⟩:=h1;rfl};split at h1;{rename_i hp;rw[az hp];split at h1;{cases h1};simp only[af,kJ]at h1;obtain⟨-,-,rfl⟩:=h1;rfl};rename_i hp;rw[ax hp];simp only[af,kJ]at h1;obtain⟨-,-,rfl⟩:=h1;rfl
theorem CB{xs:List (Int×Int)}{f:Fn}{x:fQ}{S S':List fQ}(hok:aM.isOk xs=true)(hi:i+1<xs.length)(hd:S.length=aM.dep xs i)(h1:iJ f (aM.op xs i) a h mo x S=some (h',jH,S')):S'.length=aM.dep xs (i+1)+1:=by have hl:=Xt h1;rcases ho:St.opens (aM.op xs i)with _|_;{rw[ho,ax (by simp)]at hl;by_cases h12:aM.op xs i=12;{rw[az h12]at hl;have:aM.dep xs i≠0:=fun e=>by{have:=aM.Qd hok (i:=i) (by omega) h12 e;omega};rw[aM.vP h12];omega};rw[ax h12]at hl;rw[aM.lK ho h12];omega};rw[ho,az rfl]at hl;rw[aM.p8 ho];omega
end Hg
theorem qG (a:Option Addr)(len cap:Nat)(fs:List Fn)(d:ByteArray)(hd:d.size<=maxLen)(w:World)(hs:FL w a len fs):Calls Tryz.prog 61 #[.agg #[.slice a len cap, .string d]] w fun e w'=>e= .returned (.bool (Md.ok fs d))/\Below w.heap.size w w':=by obtain⟨hl,hm,hrow⟩:=hs;unfold maxLen at hm hd;have hB1:=aB w (.cells #[.slice a len cap, .string d] 26);have hB0:=eG (w.alloc (.cells #[.slice a len cap, .string d] 26)).heap.size (w.alloc (.cells #[.slice a len cap, .string d] 26));go_enter Tryz.func61,Tryz.ntmps61;go_wp2;go_loopw [3] (fun i wr=>∃k:Nat,i= .int .i64 k/\k<=len/\Md.dh (fs.take k)=true/\Below (w.alloc (.cells #[.slice a len cap, .string d] 26)).heap.size (w.alloc (.cells #[.slice a len cap, .string d] 26)) wr) (fun i _=>len-(intOf i).toNat);(case atStart=>exact⟨0,rfl,jT _,rfl,hB0⟩);case round=>obtain⟨k,rfl,hk,hok,hBr⟩:=hrel;obtain⟨c0,c1,alH⟩:=Dg hBr;have hB:=hB1.trans (hBr.mono hB1.size);have HO:Hid (Md.dh (fs.take k)=true):=hok;have HL:Hid (fs.length=len):=hl;have HB:=ae hBr;clear hok hl hB1 hB0 hBr;by_cases hlt:k<len;{rcases hrow with h0|⟨b,off,rfl,hb,hx⟩;{omega};obtain⟨x0,x1,x2,ba,bl,bc,x3,hsl⟩:=hx k hlt;have hx0:=(hB.cell (p:=⟨b,off+k*4,none⟩) hb).trans x0;have hx1:=(hB.cell (p:=⟨b,off+k*4+1,none⟩) hb).trans x1;have hx2:=(hB.cell (p:=⟨b,off+k*4+2,none⟩) hb).trans x2;have hx3:=(hB.cell (p:=⟨b,off+k*4+3,none⟩) hb).trans x3;obtain⟨⟨p,l,g,bd⟩,hpq⟩:∃x,fs.getD k .z=x:=⟨_,rfl⟩;rw[hpq]at hx0 hx1 hx2 hsl;simp only at hx0 hx1 hx2 hsl;have HP:Hid (fs.getD k .z=⟨p,l,g,bd⟩):=hpq;have hcon:=Jd p l g bd ba bl bc _ (hsl.kept hB);clear hx hpq x0 x1 x2 x3 hsl;rcases ho:Md.rF ⟨p,l,g,bd⟩with _|_;{rw[ho]at hcon;go_wp2_with fail;refine hcon.mono ?_;rintro e w1⟨rfl,hB1⟩;have hB2:=hB.trans (hB1.mono hB.size);clear hcon;go_wp2;go_ret;refine⟨?_,hB2⟩;rw[Md.ok,Md.uu (j:=k) (by rw[HL.out];exact hlt) (by rw[HP.out];exact ho),Bool.and_false];rfl};rw[ho]at hcon;go_wp2_with fail;refine hcon.mono ?_;rintro e w1⟨rfl,hB1⟩;clear hcon;go_wp2;go_roundw;(case rel=>exact⟨k+1,by simp,by omega,by rw[Md.uo (by rw[HL.out];exact hlt),Md.qP,HO.out,HP.out,ho];rfl,HB.out.trans (hB1.mono HB.out.size)⟩);case measure=>simp[intOf];omega};have hke:k=len:=by{omega};subst hke;clear hrow;have e:Md.dh fs=true:=by{have:=HO.out;rwa [List.take_of_length_le (by rw[HL.out];exact bI _)]at this};have eok:Md.ok fs d=(Wd.dP k 1 4&&decide (d.size<=64)):=by{rw[Md.ok,e,Bool.and_true,HL.out]};clear e;have EOK:=ae eok;clear eok;rcases h1:Wd.dP k 1 4 with _|_;{go_wp2_with(go_at_call 47;refine(bJ _ _ _ _).mono ?_;rintro e w'⟨rfl,dC⟩;subst w');go_ret;exact⟨by rw[EOK.out,h1];rfl,hB⟩};go_wp2_with(go_at_call 47;refine(bJ _ _ _ _).mono ?_;rintro e w'⟨rfl,dC⟩;subst w');go_ret;exact⟨dz (by rw[EOK.out,h1];simp;omega),hB⟩
theorem lh (W:World)(n:Nat):Below W.heap.size W (W.drewN n):=⟨rfl,rfl,rfl,bI _,fun _ _=>rfl⟩
theorem bN (a b:Int)(w:World):Calls Tryz.prog 43 #[.int .i64 a, .int .i64 b] w fun e w'=>e= .returned (.int .i64 (Hg.mx a b))/\w'=w:=by by_cases h:b<a;{have e:Hg.mx a b=a:=by{unfold Hg.mx;rw[ax (by omega)]};rw[e];go_enter Tryz.func43,Tryz.ntmps43;go_wp2;go_ret;exact⟨rfl,rfl⟩};have e:Hg.mx a b=b:=by{unfold Hg.mx;split;{rfl};omega};rw[e];go_enter Tryz.func43,Tryz.ntmps43;go_wp2;go_ret;exact⟨rfl,rfl⟩
theorem df (a:Option Addr)(len cap:Nat)(fs:List Fn)(d:ByteArray)(p q:Int)(hp:1<=p/\p<=20)(hq:p=16->0<=q/\q<len)(w:World)(hs:FL w a len fs):Calls Tryz.prog 84 #[.agg #[.slice a len cap, .string d], .agg #[.int .i64 p, .int .i64 q]] w fun e w'=>e= .returned (.tuple #[.int .i64 (Hg.tk fs p q), .int .i64 (Hg.pt fs p q)])/\Below w.heap.size w w':=by obtain⟨hl,hm,hrow⟩:=hs;have hB2:=BN w (.cells #[.slice a len cap, .string d] 26) (.cells #[.int .i64 p, .int .i64 q] 95);by_cases h16:p=16;{subst h16;obtain⟨hq0,hq1⟩:=hq rfl;obtain⟨j,rfl⟩:∃j:Nat,q=j:=⟨q.toNat,by omega⟩;rcases hrow with h0|⟨b,off,rfl,hb,hx⟩;{omega};have hj:j<len:=by{omega};obtain⟨x0,x1,x2,-⟩:=hx j hj;have y0:=(hB2.cell (p:=⟨b,off+j*4,none⟩) hb).trans x0;have y2:=(hB2.cell (p:=⟨b,off+j*4+2,none⟩) hb).trans x2;have e1:Hg.tk fs 16 j=(fs.getD j .z).a:=by{unfold Hg.tk;simp};have e2:Hg.pt fs 16 j=(fs.getD j .z).g:=by{unfold Hg.pt;simp};rw[e1,e2];obtain⟨⟨fa,fl,fg,fb⟩,hf⟩:∃x,fs.getD j .z=x:=⟨_,rfl⟩;rw[hf]at y0 y2 ⊢;simp only at y0 y2 ⊢;clear hx x0 x1 x2 hf e1 e2 hl;go_enter Tryz.func84,Tryz.ntmps84;go_wp2;go_quiet (fail);go_wp2;go_ret2;exact⟨rfl,hB2.trans ((lh _ _).mono hB2.size)⟩};have hp':p=1\/p=2\/p=3\/p=4\/p=5\/p=6\/p=7\/p=8\/p=9\/p=10\/p=11\/p=12\/p=13\/p=14\/p=15\/p=17\/p=18\/p=19\/p=20:=by{omega};clear hq hp h16 hrow hm hl;rcases hp' with rfl|rfl|rfl|rfl|rfl|rfl|rfl|rfl|rfl|rfl|rfl|rfl|rfl|rfl|rfl|rfl|rfl|rfl|rfl;all_goals go_enter Tryz.func84,Tryz.ntmps84;go_wp2;go_ret2;exact⟨rfl,hB2⟩
section
open Go.RowKit
def I64 (x:Int):Prop:=-9223372036854775808<=x/\x<=9223372036854775807
theorem AP (B:Nat)(a:Option Addr)(len cap:Nat)(zs:List Int)(w:World)(hc:kQ w B a len cap zs):Calls Tryz.prog 54 #[.pointer (some ⟨B,0,none⟩)] w fun e w'=>∃x:Int,e= .returned (.int .i64 x)/\I64 x/\aR w w' B a len cap zs:=by go_enter Tryz.func54,Tryz.ntmps54;go_wp2_with fail;refine(jm B a len cap zs 10 _ hc).mono ?_;rintro e w1⟨x,rfl,hd⟩;cases x;{go_wp2_with fail;refine(jR B a len cap zs _ hd.1).mono ?_;rintro e w2⟨y,rfl,hy0,hy1,hd2⟩;go_wp2;go_ret;exact⟨_,rfl,⟨by omega,by omega⟩,hd.andThen hd2⟩};go_wp2_with fail;refine(aV B a len cap zs 4 _ (hd.alloc _).1).mono ?_;rintro e w2⟨y,rfl,hy0,hy1,hy2,hd2⟩;have ht:=fun k=>hd.eT hd2 k;have hy:y=0\/y=1\/y=2\/y=3:=by{omega};clear hy0 hy1 hy2;rcases hy with rfl|rfl|rfl|rfl;all_goals go_wp2;go_ret;exact⟨_,rfl,⟨by omega,by omega⟩,hd.behind hd2⟩
end
theorem IL.aI {w:World}{a:Option Addr}{n:Nat}{E:List Int}(h:IL w a n E)(hn:0<n):∃b off,a=some ⟨b,off,none⟩/\∀(wx:World),Below w.heap.size w wx->∀j,j<n->wx.cell? ⟨b,off+j,none⟩=some (.int .i64 (aM.aI E j)):=by obtain⟨hl,-,h0|⟨b,off,rfl,hb,hx⟩⟩:=h;{omega};refine⟨b,off,rfl,fun wx hB j hj=>?_⟩;have e:aM.aI E j=E.getD j 0:=by{unfold aM.aI;rw[ah,ah,ai (by omega)];rfl};rw[e];exact(hB.cell (p:=⟨b,off+j,none⟩) hb).trans (hx j hj)
theorem below_drewN (W:World)(n:Nat):Below W.heap.size W (W.drewN n):=⟨rfl,rfl,rfl,bI _,fun _ _=>rfl⟩
end Go.Proofs.YthkjdjmjdlimnaaGreat
