/-
  Own texts for a law: Leb7 Leb8 LebL Read0 Read2 Nest8 Mem0 Pile1 Read4 Big Hs3 HpA
-/
import Derived.Test.YthamlonlgnjljaaGreatNC08
import Derived.Deep.RegionWith
namespace Go.Proofs.YthamlonlgnjljaaGreat
open Go.RowKit Go.Shelf
set_option linter.all false
set_option maxRecDepth 100000
set_option maxHeartbeats 16000000
def back (s:ByteArray)(a n count:Int)(sh:ByteArray):Int×Int×Bool:=
 if count=0 then(0,0,false)else if((s.extract a.toNat (a+count).toNat).toList==sh.toList)=true then(n,a+count,true)else(0,0,false)
def OX (s:ByteArray)(a:Int):Int×Int×Bool:=match Lb.V4 5 (Lb.rest s a)with
 |none=>(0,0,false)
 |some t=>back s a (Lb.val t) t.length (JI (Lb.val t))
def EG (s:ByteArray)(a:Int):Int×Int×Bool:=match Lb.V4 5 (Lb.rest s a)with
 |none=>(0,0,false)
 |some t=>back s a (Lb.sgn t) t.length (JB (Lb.sgn t))
section
open Go.RowKit
namespace Lb
end Lb
def up (x:UInt8):UInt8:=UInt8.ofNat (x.toNat+128)
end
namespace St
def rA (s:ByteArray)(op a:Int):Int×Int×Bool:=
 if op=1 then((EG s a).1%4294967296,(EG s a).2.1,(EG s a).2.2)else if JL op=true then OX s a else(0,a,true)
def VL (s:ByteArray)(k:Nat):Int:=((s.data.toList.getD k 0).toNat:Int)
def r1 (s:ByteArray)(k:Nat):Int×Int×Bool:=rA s (VL s k) ((k:Int)+1)
def pr (s:ByteArray):Nat->Nat->Option (List (Int×Int))
 |0,a=>if s.size<=a then some []else none
 | k+1,a=>if s.size<=a then some []else
   if(r1 s a).2.2=true/\ok (VL s a) (r1 s a).1=true then(pr s k (r1 s a).2.1.toNat).map ((VL s a,(r1 s a).1)::·)else none
def rd (s:ByteArray):List (Int×Int):=(pr s 80 0).getD []
end St
theorem Hz (W:World)(a b:Value)(t:TypeId)(H:Nat)(hH:W.heap.size=H):∀j u,[a,b][j]?=some u->(W.alloc (.cells #[a,b] t)).cell? ((⟨H,0,none⟩:Addr).add j)=some u:=by
 subst hH
 intro j u hu
 match j,hu with
 |0,hu=>simp at hu;subst hu;simp[Addr.add]
 |1,hu=>simp at hu;subst hu;simp[Addr.add]
namespace St
end St
namespace aG
variable {xs : List (Int × Int)} {E : List Int} {aI : Int}
theorem uS (k:Nat):cK xs E aI (k+1)=if St.opens (op xs k)=true/\aI<=aU E k then(k:Int)::cK xs E aI k else cK xs E aI k:=rfl
theorem kM:∀(k:Nat)(x:Int),x∈cK xs E aI k->∃j:Nat,x=j/\j<k/\St.opens (op xs j)=true/\aI<=aU E j
 |0,x,h=>by simp[cK]at h
 | k + 1,x,h=>by
   rw[uS]at h
   split at h
   · rename_i hp
     rcases List.mem_cons.1 h with rfl|h
     · exact⟨k,rfl,by omega,hp.1,hp.2⟩
     · obtain⟨j,a,b,c⟩:=kM k x h
       exact⟨j,a,by omega,c⟩
   · obtain⟨j,a,b,c⟩:=kM k x h
     exact⟨j,a,by omega,c⟩
theorem rz:∀k:Nat,(cK xs E aI k).Pairwise (fun a b=>b<a)
 |0=>List.Pairwise.nil
 | k +1=>by
   rw[uS]
   split
   · refine List.pairwise_cons.2 ⟨fun x hx=>?_,rz k⟩
     obtain⟨j,rfl,hj,-⟩:=kM k x hx
     omega
   · exact rz k
def cnt (xs:List (Int×Int))(E:List Int)(aI:Int)(k:Nat):Nat:=(cK xs E aI k).length
theorem Bv {O:List Int}(hF:Fin xs E O){n:Nat}{A:List Int}(hA:cK xs E n n=A){i:Nat}(hi:i<A.length):∃j:Nat,aU A i=j/\j<n/\(n:Int)<=aU E j/\∀i',i=i'+1->∃j':Nat,aU A i'=j'/\j'<n/\j<j'/\aU E j'<aU E j:=by subst hA;have hget:∀i,i<(cK xs E n n).length->aU (cK xs E n n) i∈cK xs E n n:=fun i hi=>by{unfold aU;rw[ah,ai hi];exact List.getElem_mem hi};obtain⟨j,e,hj,ho,hE⟩:=kM n _ (hget i hi);refine⟨j,e,hj,hE,fun i' hi'=>?_⟩;subst hi';obtain⟨j',e',hj',ho',hE'⟩:=kM n _ (hget i' (by omega));have hlt:aU (cK xs E n n) (i'+1)<aU (cK xs E n n) i':=by{have:=List.pairwise_iff_getElem.1 (rz (xs:=xs) (E:=E) (aI:=n) n) i' (i'+1) (by omega) hi (by omega);unfold aU;rw[ah,ah,ai hi,ai (by omega)];exact this};have hjj:j<j':=by{omega};refine⟨j',e',hj',hjj,hF.f4 j j' ho hjj (by omega) ?_⟩;rw[dI]at ho';omega
end aG
namespace Mm
def JZ (x:Int):Bool:=decide (0<=x/\x<=255)
def ok (xs:List Int):Bool:=(xs.length==64)&&xs.all JZ
theorem FZ {xs:List Int}:ok xs=true↔xs.length=64/\∀x∈xs,0<=x/\x<=255:=by simp[ok,JZ]
def low (xs:List Int):List Int:=xs.map fun x=>x%256
theorem qh (xs:List Int):(low xs).length=xs.length:=by simp[low]
def cells (xs:List Int):List Int:=if ok xs=true then xs else List.replicate 64 0
def there (a o:Int):Bool:=Wd.ok a&&Wd.bW o 0 255&&decide (a+o<=60)
theorem Dc {a o:Int}:there a o=true↔0<=a/\0<=o/\o<=255/\a+o<=60:=by simp only[there,au,Wd.FZ,Wd.dh,decide_eq_true_eq];omega
def KC (bs:List Int)(k:Nat):Nat->Int
 |0=>0
 |j+1=>KC bs k j+bs.getD (k+j) 0*256 ^ j
def Oo (bs:List Int)(k:Nat)(v:Int):Nat->List Int
 |0=>bs
 |j+1=>(Oo bs k v j).set (k+j) (v / 256 ^ j%256)
theorem bQ {ys:List Int}{i j:Nat}{x:Int}(hi:i<ys.length):(ys.set i x).getD j 0=if j=i then x else ys.getD j 0:=by by_cases e:j=i;{subst e;rw[ay rfl,ah,List.getElem?_set_self hi];rfl};rw[ax e,ah,List.getElem?_set_ne (by omega),←ah]
def can (xs:List Int)(a o:Int):Bool:=ok xs&&there a o
def load (xs:List Int)(a o:Int):Int:=if can xs a o=true then KC xs (a+o).toNat 4 else 0
def dV (xs:List Int)(a o v:Int):Bool:=ok xs&&there a o&&Wd.ok v
theorem place {a o:Int}(h:there a o=true):∃k:Nat,a+o=(k:Int)/\(a+o).toNat=k/\k+4<=64:=by have:=Dc.1 h;exact⟨(a+o).toNat,by omega,rfl,by omega⟩
def VJ (s:ByteArray):List Int:=s.data.toList.map fun b=>(b.toNat:Int)
def new (s:ByteArray):List Int:=if s.size<=64 then VJ s++List.replicate (64-s.size) 0 else[]
end Mm
section
def oI (W:World)(b:Nat)(v0 v1 v2 v3 v4:Value):Prop:=
 b <W.heap.size/\(W.cell? ⟨b,0,none⟩=some v0/\W.cell? ⟨b,1,none⟩=some v1/\W.cell? ⟨b,2,none⟩=some v2/\W.cell? ⟨b,3,none⟩=some v3/\W.cell? ⟨b,4,none⟩=some v4)/\
   W.frozen? ⟨b,0,none⟩=false/\W.frozen? ⟨b,1,none⟩=false/\W.frozen? ⟨b,2,none⟩=false/\W.frozen? ⟨b,3,none⟩=false/\W.frozen? ⟨b,4,none⟩=false
theorem oI.bS {W W':World}{b:Nat}{row:Option Nat}{v0 v1 v2 v3 v4:Value}(h:oI W b v0 v1 v2 v3 v4)(hg:W.grownBy W' row)(hne:row≠some b):oI W' b v0 v1 v2 v3 v4:=by obtain⟨h0,⟨c0,c1,c2,c3,c4⟩,f0,f1,f2,f3,f4⟩:=h;have hb:=hg.block b h0 (fun e=>hne e.symm);have hc:∀i,W'.cell? ⟨b,i,none⟩=W.cell? ⟨b,i,none⟩:=fun i=>World.cell?_of_block hb;have hf:∀i,W'.frozen? ⟨b,i,none⟩=W.frozen? ⟨b,i,none⟩:=fun i=>by{unfold World.frozen?;rw[hb]};exact⟨aj h0 hg.size,⟨(hc _).trans c0,(hc _).trans c1,(hc _).trans c2,(hc _).trans c3,(hc _).trans c4⟩,(hf _).trans f0,(hf _).trans f1,(hf _).trans f2,(hf _).trans f3,(hf _).trans f4⟩
theorem oI.new (W:World)(v0 v1 v2 v3 v4:Value)(t:TypeId):oI (W.alloc (.cells #[v0,v1,v2,v3,v4] t)) W.heap.size v0 v1 v2 v3 v4:=by refine⟨by simp,⟨?_,?_,?_,?_,?_⟩,?_,?_,?_,?_,?_⟩<;>go_simp
theorem oI.VQ {W:World}{b:Nat}{v0 v1 v2 v3 v4:Value}(h:oI W b v0 v1 v2 v3 v4)(x:Value):oI (W.setCell ⟨b,1,none⟩ x) b v0 x v2 v3 v4:=by obtain⟨h0,⟨c0,c1,c2,c3,c4⟩,f0,f1,f2,f3,f4⟩:=h;refine⟨by simpa[World.setCell]using h0,⟨?_,?_,?_,?_,?_⟩,?_,?_,?_,?_,?_⟩<;>go_simp
theorem oI.Lt {W:World}{b:Nat}{v0 v1 v2 v3 v4:Value}(h:oI W b v0 v1 v2 v3 v4)(x:Value):oI (W.setCell ⟨b,4,none⟩ x) b v0 v1 v2 v3 x:=by obtain⟨h0,⟨c0,c1,c2,c3,c4⟩,f0,f1,f2,f3,f4⟩:=h;refine⟨by simpa[World.setCell]using h0,⟨?_,?_,?_,?_,?_⟩,?_,?_,?_,?_,?_⟩<;>go_simp
structure PS (w:World)(m0 N gE gO:Nat)(a:Option Addr)(len cap:Nat)(E O:List Int)(S:List Nat)(b:Bool)(W:World):Prop where
 eY:Below w.heap.size w W
 hm:m0<=W.heap.size
 iN:w.heap.size<=N/\N<m0
 iE:w.heap.size<=gE/\gE<m0
 iO:w.heap.size<=gO/\gO<m0
 ne:N≠gE/\N≠gO/\gE≠gO
 rE:W.ownsRow w.heap.size 2 1 (.slice (some ⟨gE,0,none⟩) len len) len (E.map iv)
 rO:W.ownsRow w.heap.size 2 1 (.slice (some ⟨gO,0,none⟩) len len) len (O.map iv)
 st:∃v,oI W N (.slice a len cap) v (.slice (some ⟨gE,0,none⟩) len len) (.slice (some ⟨gO,0,none⟩) len len) (.bool b)/\W.ownsRow m0 2 1 v S.length ((iW S.reverse).map iv)
variable {w : World} {m0 N gE gO : Nat} {a : Option Addr} {len cap : Nat} {E O : List Int} {S : List Nat} {b : Bool} {W : World}
theorem PS.kept {W':World}(h:PS w m0 N gE gO a len cap E O S b W)(hB:Below W.heap.size W W'):PS w m0 N gE gO a len cap E O S b W':=by obtain⟨v,hb,hr⟩:=h.st;exact{h with eY:=h.eY.trans (hB.mono h.eY.size),hm:=Nat.le_trans h.hm hB.size,rE:=aH h.rE hB,rO:=aH h.rO hB,st:=⟨v,hb.bS (row:=none) ⟨hB.os,hB.tape,hB.output,hB.size,fun k hk _=>hB.block k hk⟩ (by simp),aH hr hB⟩}
theorem dE {W:World}{n₀ e k n:Nat}{v:Value}{xs:List Value}(h:W.ownsRow n₀ e k v n xs):∃a cap,v= .slice a n cap:=by rcases h.2 with⟨rfl,h0⟩|⟨g,cap,cur,rfl,_⟩;{exact⟨none,0,by rw[h0]⟩};exact⟨_,cap,rfl⟩
theorem PS.apart (h:PS w m0 N gE gO a len cap E O S b W){v:Value}{n:Nat}{xs:List Value}(hr:W.ownsRow m0 2 1 v n xs):∀g,v.ownBlock=some g->g≠N/\g≠gE/\g≠gO:=by intro g hg;have h1:=(hr.lt g hg).1;have:=h.iN;have:=h.iE;have:=h.iO;omega
theorem PS.row {wA:World}{v:Value}{n:Nat}{xs:List Value}(hs:PS w m0 N gE gO a len cap E O S b W)(hr:W.ownsRow m0 2 1 v n xs)(hg:W.grownBy wA v.ownBlock){v':Value}{S':List Nat}(hown:wA.ownsRow m0 2 1 v' S'.length ((iW S'.reverse).map iv)):PS w m0 N gE gO a len cap E O S' b (wA.setCell ⟨N,1,none⟩ v'):=by have hap:=hs.apart hr;have hN:=hs.iN;have hEi:=hs.iE;have hOi:=hs.iO;obtain⟨n1,n2,n3⟩:=hs.ne;obtain⟨vv,hb,-⟩:=hs.st;have pF:=hb.bS hg (fun e=>by have:=hap N e;omega);have hg2:=aF wA ⟨N,1,none⟩ v';have off:∀{g:Nat}{ys:List Value},W.ownsRow w.heap.size 2 1 (.slice (some ⟨g,0,none⟩) len len) len ys->(∀x,v.ownBlock=some x->x≠g)->g≠N->(wA.setCell ⟨N,1,none⟩ v').ownsRow w.heap.size 2 1 (.slice (some ⟨g,0,none⟩) len len) len ys:=by{intro g ys hrg h1 h2;have e1:wA.ownsRow w.heap.size 2 1 (.slice (some ⟨g,0,none⟩) len len) len ys:=hrg.kept hg (.inr (fun e=>h1 g e.symm rfl));exact iH e1 hg2 h2};have hB1:=hs.eY.grown hg hs.eY.size (fun j ej=>by have:=(hr.lt j ej).1;omega);refine⟨hB1.setCell (p:=⟨N,1,none⟩) hN.1 _,?_,hN,hEi,hOi,hs.ne,off hs.rE (fun x hx=>(hap x hx).2.1) (by omega),off hs.rO (fun x hx=>(hap x hx).2.2) (by omega),v',pF.VQ v',?_⟩;{have h1:=hs.hm;have h2:=hg.size;simp[World.setCell];omega};refine hown.kept hg2 ?_;rcases hv:v'.ownBlock with _|x;{exact .inl rfl};refine .inr ?_;have:=(hown.lt x hv).1;simp only[ne_eq,af];omega
theorem PS.jR {t:Nat}(hs:PS w m0 N gE gO a len cap E O (t::S) b W):∃g c,oI W N (.slice a len cap) (.slice (some ⟨g,0,none⟩) (S.length+1) c) (.slice (some ⟨gE,0,none⟩) len len) (.slice (some ⟨gO,0,none⟩) len len) (.bool b)/\W.ownsRow m0 2 1 (.slice (some ⟨g,0,none⟩) (S.length+1) c) (S.length+1) ((iW (t::S).reverse).map iv)/\W.cell? ⟨g,S.length,none⟩=some (.int .i64 (t:Int)):=by obtain⟨v,hb,hr⟩:=hs.st;rw[List.length_cons]at hr;obtain⟨g,c,rfl⟩:=ownsRow_succ hr;refine⟨g,c,hb,hr,?_⟩;have:=iK (xs:=iW (t::S).reverse) hr (k:=S.length) (by simp) 0;rw[this];simp[iW]
end
namespace St
def bl (s:ByteArray):List UInt8:=s.data.toList
end St
section
open Go.RowKit
theorem Ex (a:Option Addr)(len cap:Nat)(w:World)(h:len<=maxLen):Calls Tryz.prog 4 #[.slice a len cap] w fun e w'=>e= .returned (.bool (decide (4096<len)))/\w'=w:=by unfold maxLen at h;go_enter Tryz.func4,Tryz.ntmps4;go_wp2;go_ret;exact⟨bC (by simp;omega),rfl⟩
theorem Bytes.below {w w':World}{a:Option Addr}{len:Nat}{zs:List Int}(h:Bytes w a len zs)(hB:Below w.heap.size w w'):Bytes w' a len zs:=
 h.kept (row:=none) ⟨hB.os,hB.tape,hB.output,hB.size,fun k hk _=>hB.block k hk⟩ (.inr (by simp))
end
namespace Hm
def fits (l:List Sp.S)(hs:List Int)(i:Nat):Bool:=decide (0<=hs.getD (l.getD i .z).b.toNat 0)&& !(decide (hs.getD (l.getD i .z).b.toNat 0<100)&&(l.getD i .z).c)
def jJ (l:List Sp.S)(hs:List Int)(i k:Nat):Bool:= !(decide (hs.getD (l.getD k .z).b.toNat 0=hs.getD (l.getD i .z).b.toNat 0)&&Sp.bH (l.getD i .z) (l.getD k .z))
theorem xN (l:List Sp.S)(hs:List Int)(n:Nat):lV l hs n=(List.range n).all fun i=>fits l hs i&&(List.range i).all fun k=>jJ l hs i k:=rfl
theorem iy (f:Nat->Bool)(n:Nat):(List.range (n+1)).all f=((List.range n).all f&&f n):=by rw[List.range_succ,List.all_append];simp
theorem iQ {f:Nat->Bool}{n i:Nat}(hi:i<n)(h:f i=false):(List.range n).all f=false:=by rw[List.all_eq_false];exact⟨i,List.mem_range.2 hi,by rw[h];decide⟩
end Hm
theorem vX (x:Int)(w:World):Calls Tryz.prog 34 #[.int .i64 x] w fun e w'=>e= .returned (.bool (Hm.hm x))/\w'=w:=by have HM:Hid (Hm.hm x=(decide (x=-1)||(Wd.bW x 0 4||Wd.bW x 100 163))):=rfl;obtain⟨p,hp⟩:∃p,Wd.bW x 0 4=p:=⟨_,rfl⟩;obtain⟨q,hq⟩:∃q,Wd.bW x 100 163=q:=⟨_,rfl⟩;rw[hp,hq]at HM;generalize Hm.hm x=r at HM ⊢;by_cases hx:x=-1;{have HR:r=true:=by{rw[HM.out,decide_eq_true hx];rfl};subst hx;rw[HR];clear HM HR hp hq;go_enter Tryz.func34,Tryz.ntmps34;go_wp2;go_ret;exact⟨rfl,rfl⟩};have HR:r=(p||q):=by{rw[HM.out,decide_eq_false hx];rfl};rw[HR];have U2:(x==-1)=false:=by{simpa using hx};clear HM HR hx;cases p;{show Calls _ _ _ _ fun e w'=>e= .returned (.bool q)/\w'=w;go_enter Tryz.func34,Tryz.ntmps34;go_wp2_with(go_at_call 60;refine(bB _ _ _ _).mono ?_;rintro e w' ⟨rfl,rfl⟩;dsimp only;(first|rw[hp]|rw[hq]));go_ret;exact⟨rfl,rfl⟩};show Calls _ _ _ _ fun e w'=>e= .returned (.bool true)/\w'=w;go_enter Tryz.func34,Tryz.ntmps34;go_wp2_with(go_at_call 60;refine(bB _ _ _ _).mono ?_;rintro e w' ⟨rfl,rfl⟩;dsimp only;rw[hp]);go_ret;exact⟨rfl,rfl⟩
theorem xh (a:Option Addr)(len cap:Nat)(ls:List Ln)(b:Option Addr)(n bc:Nat)(xs:List Int)(w:World)(hs:LL w a len ls)(hx:IL w b n xs):Calls Tryz.prog 12 #[.slice a len cap, .slice b n bc] w fun e w'=>e= .returned (.bool (Hm.fT ls xs))/\Below w.heap.size w w':=by have hcon:=jO a len cap ls w hs;have HS:=ae hs;have HX:=ae hx;have hxl:=hx.1;have hnm:=hx.2.1;have gK:Hid (Hm.fT ls xs=((Ln.isOk ls&&decide (xs.length=40))&&((List.range 40).all (fun i=>Hm.hm (xs.getD i 0))&&Hm.lV (Sp.df ls) xs (Sp.df ls).length))):=rfl;have Cf:Hid (Ln.isOk ls=true->Sp.df ls=Sp.out ls 40):=fun h=>by{unfold Sp.df;rw[ay h]};have hsp:=fun h W=>lU a len cap ls h W;generalize Hm.fT ls xs=R at gK ⊢;rw[hxl]at gK;unfold maxLen at hnm;obtain⟨q,hq⟩:∃q,Ln.isOk ls=q:=⟨_,rfl⟩;rw[hq]at hcon gK Cf;clear hs hx hxl;go_enter Tryz.func12,Tryz.ntmps12;go_wp2_with fail;refine hcon.mono ?_;rintro e w1 ⟨rfl,hB1⟩;dsimp only;cases q;{have HR:Hid (R=false):=by{show _=_;rw[gK.out];rfl};have HB:=ae hB1;clear hcon gK hB1 Cf hsp hq;go_wp2;go_ret;exact⟨by rw[HR.out]<;>rfl,HB.out⟩};have aZ:=hB1.size;by_cases DV:n=40;rotate_left;{have HR:Hid (R=false):=by{show _=_;rw[gK.out,decide_eq_false DV];rfl};have ZT:¬(n:Int)=40:=by{omega};have HB:=ae hB1;clear hcon gK hB1 Cf hsp hq;go_wp2;go_ret;exact⟨by rw[HR.out]<;>rfl,HB.out⟩};subst DV;have HSO:=ae (Cf.out rfl);have hs1:=hsp hq w1 (HS.out.kept hB1);have hx1:=HX.out.kept hB1;rw[HSO.out]at gK;have gD:=ae (Hm.kJ ls);generalize Sp.out ls 40=l at gK hs1 gD;have xC:Hid (R=((List.range 40).all (fun i=>Hm.hm (xs.getD i 0))&&Hm.lV l xs l.length)):=by{show _=_;rw[gK.out];rfl};have HB1:=ae hB1;clear hcon gK hB1 Cf hsp hq HS HX HSO;obtain⟨-,-,h0|⟨b,off,rfl,hlb,hcc⟩⟩:=hx1;{omega};have xJ:=ae hcc;clear hcc;go_wp2;go_loopg [5] 40 (fun gk vi wr=>∃(i:Nat),gk=40-i/\i<=40/\vi= .int .i64 (i:Int)/\Hid ((List.range i).all (fun i=>Hm.hm (xs.getD i 0))=true)/\wr=w1);(case atStart=>exact⟨0,rfl,by omega,rfl,(by show _=_;rfl),rfl⟩);case round=>obtain⟨i,mJ,hi,rfl,gQ,rfl⟩:=hrel;by_cases hlt:i<40;{have bE:(i:Int)<40:=by{omega};have hc:=xJ.out i hlt;have iD:=ae (Hm.iy (fun i=>Hm.hm (xs.getD i 0)) i);have ug:=ae (fun h=>Hm.iQ (f:=fun i=>Hm.hm (xs.getD i 0)) hlt h);have hhm:=fun W=>vX (xs.getD i 0) W;generalize Hm.hm (xs.getD i 0)=r at iD ug hhm;cases r;{have HR:Hid (R=false):=by{show _=_;rw[xC.out,ug.out rfl];rfl};clear iD ug gQ;go_wp2_with(go_at_call 34;refine(hhm _).mono ?_;rintro e w' ⟨rfl,rfl⟩;dsimp only);go_ret;exact⟨by rw[HR.out]<;>rfl,HB1.out⟩};have HA2:Hid ((List.range (i+1)).all (fun i=>Hm.hm (xs.getD i 0))=true):=by{show _=_;rw[iD.out,gQ.out];rfl};clear iD ug gQ;go_wp2_with(go_at_call 34;refine(hhm _).mono ?_;rintro e w' ⟨rfl,rfl⟩;dsimp only);go_roundg (40-(i+1));(case measure=>omega);case rel=>exact⟨i+1,rfl,hlt,by simp,HA2,rfl⟩};have hie:i=40:=by{omega};subst hie;have HR:Hid (R=Hm.lV l xs l.length):=by{show _=_;rw[xC.out,gQ.out];rfl};clear gQ xC;go_wp2_with fail;refine hs1.mono ?_;rintro e w2 ⟨gs,ns,cs,rfl,hsg,hB2⟩;dsimp only;have hnl:=hsg.1;have Pw:=gD.out.len;have hns:ns<=40:=by{omega};have Px:(ns:Int)<=40:=by{omega};have oM:=ae hnl;have hcs:=hsg.cap;have Ce:=ae hsg;have hw2:=hB2.size;have HB2:=ae (HB1.out.trans (hB2.mono aZ));have Ny:Hid (∀W,Below w2.heap.size w2 W->∀j,j<40->W.cell? ⟨b,off+j,none⟩=some (.int .i64 (xs.getD j 0))):=fun W hW j hj=>(hW.cell (p:=⟨b,off+j,none⟩) (aj hlb hB2.size)).trans ((hB2.cell (p:=⟨b,off+j,none⟩) hlb).trans (xJ.out j hj));have HR2:Hid (R=(List.range ns).all fun i=>Hm.fits l xs i&&(List.range i).all fun k=>Hm.jJ l xs i k):=by{show _=_;rw[HR.out,Hm.xN,hnl]};clear hs1 hsg hB2 hnl xJ HB1 HR;go_wp2;go_loopg [7] ns (fun gk vi wx=>∃(i:Nat),gk=ns-i/\i<=ns/\vi= .int .i64 (i:Int)/\Hid (((List.range i).all fun i=>Hm.fits l xs i&&(List.range i).all fun k=>Hm.jJ l xs i k)=true)/\Below w2.heap.size w2 wx);(case atStart=>exact⟨0,rfl,by omega,rfl,(by show _=_;rfl),Below.refl _ _⟩);case round=>obtain⟨i,hgi,hi,rfl,gQ,hB3⟩:=hrel;obtain⟨w3,rfl⟩:∃x,x=wr:=⟨_,rfl⟩;by_cases hin:i<ns;rotate_left;{have hie:i=ns:=by{omega};have HT:Hid (R=true/\Below w.heap.size w w3):=⟨by rw[HR2.out,←hie,gQ.out],HB2.out.trans (hB3.mono HB2.out.size)⟩;have Mh:¬(i:Int)<(ns:Int):=by{omega};clear hB3 hie gQ;go_wp2;go_ret;exact⟨by rw[HT.out.1]<;>rfl,HT.out.2⟩};have Mh:(i:Int)<(ns:Int):=by{omega};have iD:=ae (Hm.iy (fun i=>Hm.fits l xs i&&(List.range i).all fun k=>Hm.jJ l xs i k) i);have ug:=ae (fun h=>Hm.iQ (f:=fun i=>Hm.fits l xs i&&(List.range i).all fun k=>Hm.jJ l xs i k) hin h);have zx:Hid (Hm.fits l xs i=(decide (0<=xs.getD (l.getD i .z).b.toNat 0)&& !(decide (xs.getD (l.getD i .z).b.toNat 0<100)&&(l.getD i .z).c))):=rfl;have SC:Hid (∀k,Hm.jJ l xs i k= !(decide (xs.getD (l.getD k .z).b.toNat 0=xs.getD (l.getD i .z).b.toNat 0)&&Sp.bH (l.getD i .z) (l.getD k .z))):=fun k=>rfl;have hsg:=Ce.out.kept hB3;obtain⟨d0,d1,d2,d3⟩:=hsg.cell hin;have ZU:=hsg.lt;have hlo:=gD.out.lo i (by rw[oM.out];exact hin);have Gh:=ae (HB2.out.trans (hB3.mono HB2.out.size));have HB3:=ae hB3;obtain⟨bn,hbn⟩:=Int.eq_ofNat_of_zero_le hlo.1;have DU:bn<40:=by{omega};have Kb:(bn:Int)<40:=by{omega};have hcx:=Ny.out w3 hB3 bn DU;have G6:=ae (fun k W=>ve (l.getD i .z) (l.getD k .z) W);have SE:Hid (∀W,Below w3.heap.size w3 W->W.cell? ⟨gs,i*4,none⟩=some (.int .i64 (l.getD i .z).b)/\W.cell? ⟨gs,i*4+1,none⟩=some (.int .i64 (l.getD i .z).f)/\W.cell? ⟨gs,i*4+2,none⟩=some (.int .i64 (l.getD i .z).t)/\W.cell? ⟨gs,i*4+3,none⟩=some (.bool (l.getD i .z).c)):=fun W hW=>(hsg.kept hW).cell hin;rw[hbn,az]at zx;have sI:Hid (∀k,Hm.jJ l xs i k= !(decide (xs.getD (l.getD k .z).b.toNat 0=xs.getD bn 0)&&Sp.bH (l.getD i .z) (l.getD k .z))):=fun k=>by{rw[SC.out k,hbn,az]};rw[hbn]at d0;generalize l.getD i .z=si at d1 d2 d3 zx sI G6 SE;obtain⟨sb,sf,st,sc⟩:=si;dsimp only at d1 d2 d3;generalize xs.getD bn 0=v at hcx zx sI;clear hB3 hsg hlo SC hbn;by_cases hv:v<0;{have HF:Hid (R=false):=by{show _=_;rw[HR2.out,ug.out (by rw[zx.out,decide_eq_false (show¬0<=v by omega)];rfl)]};have hd:decide (v<0)=true:=decide_eq_true hv;clear iD ug zx sI gQ G6 SE;go_wp2;go_ret;exact⟨by rw[HF.out]<;>rfl,Gh.out⟩};have hvZ:decide (v<0)=false:=decide_eq_false hv;by_cases hbad:v<100/\sc=true;{obtain⟨sJ,rfl⟩:=hbad;have HF:Hid (R=false):=by{show _=_;rw[HR2.out,ug.out (by rw[zx.out,decide_eq_true sJ];simp)]};have hd:decide (v<100)=true:=decide_eq_true sJ;clear iD ug zx sI gQ G6 SE;go_wp2;go_ret;exact⟨by rw[HF.out]<;>rfl,Gh.out⟩};have SF:Hid (Hm.fits l xs i=true):=by{show _=_;rw[zx.out,decide_eq_true (show 0<=v by omega)];by_cases sJ:v<100;{have:sc=false:=by{rcases hsc:sc with _|_;{rfl};exact absurd ⟨sJ,hsc⟩ hbad};rw[this,Bool.and_false];rfl};rw[decide_eq_false sJ];rfl};have Jc:Hid (((List.range (i+1)).all fun i=>Hm.fits l xs i&&(List.range i).all fun k=>Hm.jJ l xs i k)=((List.range i).all fun k=>Hm.jJ l xs i k)):=by{show _=_;rw[iD.out,gQ.out,SF.out,Bool.true_and,Bool.true_and]};have Jd:Hid (∀k,k<i->Hm.jJ l xs i k=false->R=false):=fun k hk h=>by{rw[HR2.out,ug.out (by rw[Hm.iQ hk h,Bool.and_false])]};clear iD ug zx gQ SF;by_cases sJ:v<100;{have hd:decide (v<100)=true:=decide_eq_true sJ;have hsc:sc=false:=by{rcases hsc:sc with _|_;{rfl};exact absurd ⟨sJ,hsc⟩ hbad};subst hsc;clear hbad sJ;go_wp2;go_loopg [9] i (fun gj vk wx=>∃(k:Nat),gj=i-k/\k<=i/\vk= .int .i64 (k:Int)/\Hid (((List.range k).all fun k=>Hm.jJ l xs i k)=true)/\Below w3.heap.size w3 wx);(case atStart=>exact⟨0,rfl,by omega,rfl,(by show _=_;rfl),Below.refl _ _⟩);case round=>obtain⟨k,hgj,hk,rfl,sK,hB4⟩:=hrel;obtain⟨w4,rfl⟩:∃x,x=wr:=⟨_,rfl⟩;by_cases hki:k<i;rotate_left;{have hke:k=i:=by{omega};have HT:Hid (((List.range (i+1)).all fun i=>Hm.fits l xs i&&(List.range i).all fun k=>Hm.jJ l xs i k)=true):=by{show _=_;rw[Jc.out];have:=sK.out;rw[hke]at this;exact this};have Gi:¬(k:Int)<(i:Int):=by{omega};have AU:=ae (HB3.out.trans (hB4.mono HB3.out.size));clear hB4 hke sK;go_wp2;go_roundg (ns-(i+1));(case measure=>omega);case rel=>exact⟨i+1,rfl,hin,by simp,HT,AU.out⟩};have Gi:(k:Int)<(i:Int):=by{omega};have hkn:k<ns:=by{omega};have AU:=ae (HB3.out.trans (hB4.mono HB3.out.size));have hsg:=Ce.out.kept AU.out;obtain⟨g0,g1,g2,g3⟩:=hsg.cell hkn;have jY:=hsg.lt;obtain⟨h0,h1,h2,h3⟩:=SE.out w4 hB4;have hlo:=gD.out.lo k (by rw[oM.out];exact hkn);obtain⟨kn,hkb⟩:=Int.eq_ofNat_of_zero_le hlo.1;have Gj:kn<40:=by{omega};have Ke:(kn:Int)<40:=by{omega};have oO:=Ny.out w4 AU.out kn Gj;have hme:=G6.out k;have HO:=ae (sI.out k);have zy:=ae (Hm.iy (fun k=>Hm.jJ l xs i k) k);have Kg:=ae (Jd.out k hki);rw[hkb,az]at HO;rw[hkb]at g0;generalize Sp.bH _ (l.getD k .z)=M at hme HO;have oP:∀W,Calls Tryz.prog 36 #[.agg #[.int .i64 sb, .int .i64 sf, .int .i64 st, .bool false], .agg #[.int .i64 (kn:Int), .int .i64 (l.getD k .z).f, .int .i64 (l.getD k .z).t, .bool (l.getD k .z).c]] W fun e w'=>e= .returned (.bool M)/\Below W.heap.size W w':=fun W=>by{have:=hme W;rw[hkb]at this;exact this};generalize(l.getD k .z).f=kf at g1 oP;generalize(l.getD k .z).t=kt at g2 oP;generalize(l.getD k .z).c=kc at g3 oP;generalize xs.getD kn 0=u at oO HO;have hbw:b<w4.heap.size:=block_lt_of_cell oO;have c0:∀p:bV w4,p.to.cell? ⟨b,off+kn,none⟩=some (.int .i64 u):=fun p=>(p.h.cell (p:=⟨b,off+kn,none⟩) hbw).trans oO;have a0:∀p:bV w4,p.to.cell? ⟨gs,k*4,none⟩=some (.int .i64 (kn:Int)):=fun p=>(p.h.cell (p:=⟨gs,k*4,none⟩) jY.2).trans g0;have a1:∀p:bV w4,p.to.cell? ⟨gs,k*4+1,none⟩=some (.int .i64 kf):=fun p=>(p.h.cell (p:=⟨gs,k*4+1,none⟩) jY.2).trans g1;have a2:∀p:bV w4,p.to.cell? ⟨gs,k*4+2,none⟩=some (.int .i64 kt):=fun p=>(p.h.cell (p:=⟨gs,k*4+2,none⟩) jY.2).trans g2;have a3:∀p:bV w4,p.to.cell? ⟨gs,k*4+3,none⟩=some (.bool kc):=fun p=>(p.h.cell (p:=⟨gs,k*4+3,none⟩) jY.2).trans g3;have b0:∀p:bV w4,p.to.cell? ⟨gs,i*4,none⟩=some (.int .i64 sb):=fun p=>(p.h.cell (p:=⟨gs,i*4,none⟩) jY.2).trans h0;have b1:∀p:bV w4,p.to.cell? ⟨gs,i*4+1,none⟩=some (.int .i64 sf):=fun p=>(p.h.cell (p:=⟨gs,i*4+1,none⟩) jY.2).trans h1;have b2:∀p:bV w4,p.to.cell? ⟨gs,i*4+2,none⟩=some (.int .i64 st):=fun p=>(p.h.cell (p:=⟨gs,i*4+2,none⟩) jY.2).trans h2;have b3:∀p:bV w4,p.to.cell? ⟨gs,i*4+3,none⟩=some (.bool false):=fun p=>(p.h.cell (p:=⟨gs,i*4+3,none⟩) jY.2).trans h3;have hne:=bV.any w4;have sU:=ae hB4;clear hB4 hsg g0 g1 g2 g3 h0 h1 h2 h3 hlo hkb oO hme;by_cases huv:u=v;{have hq:(u==v)=true:=by{simpa using huv};have iA:Hid (Hm.jJ l xs i k= !M):=by{show _=_;rw[HO.out,decide_eq_true huv,Bool.true_and]};clear huv HO;go_wp2_with fail;refine aS (by kernel_rfl) (by kernel_rfl) ?_;(repeat(go_big_quiet_step (first|(go_at_call 36;refine eT (oP _)))));refine wpQuiet_nil ?_;rintro _ ⟨pw,rfl⟩;obtain⟨w5,zR⟩:∃W,pw.to=W:=⟨_,rfl⟩;have zP:=ae (sU.out.trans (pw.h.mono sU.out.size));have IZ:=ae (Gh.out.trans (zP.out.mono Gh.out.size));rw[zR]at zP IZ ⊢;clear zR c0 a0 a1 a2 a3 b0 b1 b2 b3 oP hne;cases M;{have HT:Hid (((List.range (k+1)).all fun k=>Hm.jJ l xs i k)=true):=by{show _=_;rw[zy.out,sK.out,iA.out];rfl};clear zy sK iA;go_wp2;go_roundg (i-(k+1));(case measure=>omega);case rel=>exact⟨k+1,rfl,hki,by simp,HT,zP.out⟩};have HF:Hid (R=false):=Kg.out iA.out;clear zy sK iA;go_wp2;go_ret;exact⟨by rw[HF.out]<;>rfl,IZ.out⟩};have hq:(u==v)=false:=by{simpa using huv};have HT:Hid (((List.range (k+1)).all fun k=>Hm.jJ l xs i k)=true):=by{show _=_;rw[zy.out,sK.out,HO.out,decide_eq_false huv];rfl};clear huv HO zy sK;go_wp2_with fail;refine aS (by kernel_rfl) (by kernel_rfl) ?_;(repeat(go_big_quiet_step (fail)));refine wpQuiet_nil ?_;rintro _ ⟨pw,rfl⟩;obtain⟨w5,zR⟩:∃W,pw.to=W:=⟨_,rfl⟩;have zP:=ae (sU.out.trans (pw.h.mono sU.out.size));rw[zR]at zP ⊢;clear zR c0 a0 a1 a2 a3 b0 b1 b2 b3 oP hne;go_wp2;go_roundg (i-(k+1));(case measure=>omega);case rel=>exact⟨k+1,rfl,hki,by simp,HT,zP.out⟩};have hd:decide (v<100)=false:=decide_eq_false sJ;clear hbad sJ;go_wp2;go_loopg [9] i (fun gj vk wx=>∃(k:Nat),gj=i-k/\k<=i/\vk= .int .i64 (k:Int)/\Hid (((List.range k).all fun k=>Hm.jJ l xs i k)=true)/\Below w3.heap.size w3 wx);(case atStart=>exact⟨0,rfl,by omega,rfl,(by show _=_;rfl),Below.refl _ _⟩);case round=>obtain⟨k,hgj,hk,rfl,sK,hB4⟩:=hrel;obtain⟨w4,rfl⟩:∃x,x=wr:=⟨_,rfl⟩;by_cases hki:k<i;rotate_left;{have hke:k=i:=by{omega};have HT:Hid (((List.range (i+1)).all fun i=>Hm.fits l xs i&&(List.range i).all fun k=>Hm.jJ l xs i k)=true):=by{show _=_;rw[Jc.out];have:=sK.out;rw[hke]at this;exact this};have Gi:¬(k:Int)<(i:Int):=by{omega};have AU:=ae (HB3.out.trans (hB4.mono HB3.out.size));clear hB4 hke sK;go_wp2;go_roundg (ns-(i+1));(case measure=>omega);case rel=>exact⟨i+1,rfl,hin,by simp,HT,AU.out⟩};have Gi:(k:Int)<(i:Int):=by{omega};have hkn:k<ns:=by{omega};have AU:=ae (HB3.out.trans (hB4.mono HB3.out.size));have hsg:=Ce.out.kept AU.out;obtain⟨g0,g1,g2,g3⟩:=hsg.cell hkn;have jY:=hsg.lt;obtain⟨h0,h1,h2,h3⟩:=SE.out w4 hB4;have hlo:=gD.out.lo k (by rw[oM.out];exact hkn);obtain⟨kn,hkb⟩:=Int.eq_ofNat_of_zero_le hlo.1;have Gj:kn<40:=by{omega};have Ke:(kn:Int)<40:=by{omega};have oO:=Ny.out w4 AU.out kn Gj;have hme:=G6.out k;have HO:=ae (sI.out k);have zy:=ae (Hm.iy (fun k=>Hm.jJ l xs i k) k);have Kg:=ae (Jd.out k hki);rw[hkb,az]at HO;rw[hkb]at g0;generalize Sp.bH _ (l.getD k .z)=M at hme HO;have oP:∀W,Calls Tryz.prog 36 #[.agg #[.int .i64 sb, .int .i64 sf, .int .i64 st, .bool sc], .agg #[.int .i64 (kn:Int), .int .i64 (l.getD k .z).f, .int .i64 (l.getD k .z).t, .bool (l.getD k .z).c]] W fun e w'=>e= .returned (.bool M)/\Below W.heap.size W w':=fun W=>by{have:=hme W;rw[hkb]at this;exact this};generalize(l.getD k .z).f=kf at g1 oP;generalize(l.getD k .z).t=kt at g2 oP;generalize(l.getD k .z).c=kc at g3 oP;generalize xs.getD kn 0=u at oO HO;have hbw:b<w4.heap.size:=block_lt_of_cell oO;have c0:∀p:bV w4,p.to.cell? ⟨b,off+kn,none⟩=some (.int .i64 u):=fun p=>(p.h.cell (p:=⟨b,off+kn,none⟩) hbw).trans oO;have a0:∀p:bV w4,p.to.cell? ⟨gs,k*4,none⟩=some (.int .i64 (kn:Int)):=fun p=>(p.h.cell (p:=⟨gs,k*4,none⟩) jY.2).trans g0;have a1:∀p:bV w4,p.to.cell? ⟨gs,k*4+1,none⟩=some (.int .i64 kf):=fun p=>(p.h.cell (p:=⟨gs,k*4+1,none⟩) jY.2).trans g1;have a2:∀p:bV w4,p.to.cell? ⟨gs,k*4+2,none⟩=some (.int .i64 kt):=fun p=>(p.h.cell (p:=⟨gs,k*4+2,none⟩) jY.2).trans g2;have a3:∀p:bV w4,p.to.cell? ⟨gs,k*4+3,none⟩=some (.bool kc):=fun p=>(p.h.cell (p:=⟨gs,k*4+3,none⟩) jY.2).trans g3;have b0:∀p:bV w4,p.to.cell? ⟨gs,i*4,none⟩=some (.int .i64 sb):=fun p=>(p.h.cell (p:=⟨gs,i*4,none⟩) jY.2).trans h0;have b1:∀p:bV w4,p.to.cell? ⟨gs,i*4+1,none⟩=some (.int .i64 sf):=fun p=>(p.h.cell (p:=⟨gs,i*4+1,none⟩) jY.2).trans h1;have b2:∀p:bV w4,p.to.cell? ⟨gs,i*4+2,none⟩=some (.int .i64 st):=fun p=>(p.h.cell (p:=⟨gs,i*4+2,none⟩) jY.2).trans h2;have b3:∀p:bV w4,p.to.cell? ⟨gs,i*4+3,none⟩=some (.bool sc):=fun p=>(p.h.cell (p:=⟨gs,i*4+3,none⟩) jY.2).trans h3;have hne:=bV.any w4;have sU:=ae hB4;clear hB4 hsg g0 g1 g2 g3 h0 h1 h2 h3 hlo hkb oO hme;by_cases huv:u=v;{have hq:(u==v)=true:=by{simpa using huv};have iA:Hid (Hm.jJ l xs i k= !M):=by{show _=_;rw[HO.out,decide_eq_true huv,Bool.true_and]};clear huv HO;go_wp2_with fail;refine aS (by kernel_rfl) (by kernel_rfl) ?_;(repeat(go_big_quiet_step (first|(go_at_call 36;refine eT (oP _)))));refine wpQuiet_nil ?_;rintro _ ⟨pw,rfl⟩;obtain⟨w5,zR⟩:∃W,pw.to=W:=⟨_,rfl⟩;have zP:=ae (sU.out.trans (pw.h.mono sU.out.size));have IZ:=ae (Gh.out.trans (zP.out.mono Gh.out.size));rw[zR]at zP IZ ⊢;clear zR c0 a0 a1 a2 a3 b0 b1 b2 b3 oP hne;cases M;{have HT:Hid (((List.range (k+1)).all fun k=>Hm.jJ l xs i k)=true):=by{show _=_;rw[zy.out,sK.out,iA.out];rfl};clear zy sK iA;go_wp2;go_roundg (i-(k+1));(case measure=>omega);case rel=>exact⟨k+1,rfl,hki,by simp,HT,zP.out⟩};have HF:Hid (R=false):=Kg.out iA.out;clear zy sK iA;go_wp2;go_ret;exact⟨by rw[HF.out]<;>rfl,IZ.out⟩};have hq:(u==v)=false:=by{simpa using huv};have HT:Hid (((List.range (k+1)).all fun k=>Hm.jJ l xs i k)=true):=by{show _=_;rw[zy.out,sK.out,HO.out,decide_eq_false huv];rfl};clear huv HO zy sK;go_wp2_with fail;refine aS (by kernel_rfl) (by kernel_rfl) ?_;(repeat(go_big_quiet_step (fail)));refine wpQuiet_nil ?_;rintro _ ⟨pw,rfl⟩;obtain⟨w5,zR⟩:∃W,pw.to=W:=⟨_,rfl⟩;have zP:=ae (sU.out.trans (pw.h.mono sU.out.size));rw[zR]at zP ⊢;clear zR c0 a0 a1 a2 a3 b0 b1 b2 b3 oP hne;go_wp2;go_roundg (i-(k+1));(case measure=>omega);case rel=>exact⟨k+1,rfl,hki,by simp,HT,zP.out⟩
section
open Go.RowKit
set_option linter.unusedSimpArgs false
namespace Hp
open Sp
def lt (x y:S):Bool:=if x.f=y.f then decide (x.b<y.b)else decide (x.f<y.f)
def le (x y:S):Prop:=x.f<y.f\/x.f=y.f/\x.b<=y.b
def sw (l:List S)(i j:Nat):List S:=(l.set i (l.getD j .z)).set j (l.getD i .z)
def up:Nat->List S->Nat->List S
 |0,l,_=>l
 |k+1,l,j=>if(j-1) / 2=j then l else if lt (l.getD j .z) (l.getD ((j-1) / 2) .z)=true then up k (sw l ((j-1) / 2) j) ((j-1) / 2)else l
def ch (l:List S)(i n:Nat):Nat:=if 2*i+2<n/\lt (l.getD (2*i+2) .z) (l.getD (2*i+1) .z)=true then 2*i+2 else 2*i+1
def down:Nat->List S->Nat->Nat->List S
 |0,l,_,_=>l
 |k+1,l,i,n=>if n<=2*i+1 then l else if lt (l.getD (ch l i n) .z) (l.getD i .z)=true then down k (sw l i (ch l i n)) (ch l i n) n else l
def push (l:List S)(x:S):List S:=up (l.length+1) (l++[x]) l.length
def low (l:List S):List S:=down l.length (sw l 0 (l.length-1)) 0 (l.length-1)
def jR (l:List S):S:=(low l).getD (l.length-1) .z
def rest (l:List S):List S:=(low l).take (l.length-1)
theorem pg {x y:S}:lt x y=true↔x.f<y.f\/x.f=y.f/\x.b<y.b:=by unfold lt;split<;>rw[decide_eq_true_eq]<;>omega
theorem EK {x y:S}:¬lt x y=true↔le y x:=by rw[pg];unfold le;omega
theorem le_trans {x y z:S}(h:le x y)(h':le y z):le x z:=by unfold le at*;omega
theorem le_rfl (x:S):le x x:=by unfold le;omega
theorem z8 {x y:S}(h:lt x y=true):le x y:=by rw[pg]at h;unfold le;omega
theorem get_at {l:List S}{j:Nat}(h:j<l.length):l.getD j .z=l[j]:=by rw[ah,ai h];rfl
theorem bT (l:List S)(i j:Nat):(sw l i j).length=l.length:=by unfold sw;rw[List.length_set,List.length_set]
theorem xX {l:List S}{i j:Nat}(hi:i<l.length)(hj:j<l.length)(k:Nat):(sw l i j).getD k .z=if k=j then l.getD i .z else if k=i then l.getD j .z else l.getD k .z:=by unfold sw;rw[ah,List.getElem?_set];by_cases e:k=j;{rw[ay e.symm,ay e,ay (by rw[List.length_set];exact hj)];rfl};rw[ax (fun h=>e h.symm),ax e,List.getElem?_set];by_cases e2:k=i;{rw[ay e2.symm,ay e2,ay hi];rfl};rw[ax (fun h=>e2 h.symm),ax e2,ah]
theorem wM {l:List S}{i j:Nat}(hi:i<l.length)(hj:j<l.length):(sw l i j).Perm l:=by unfold sw;rw[get_at hi,get_at hj];exact List.set_set_perm hi hj
theorem BA:∀(k:Nat){l:List S}{j:Nat},j<l.length->(up k l j).Perm l
 |0,l,j,hj=>List.Perm.refl _
 | k +1,l,j,hj=>by
   unfold up
   split
   · exact List.Perm.refl _
   · split
     · exact(BA k (by rw[bT];omega)).trans (wM (by omega) hj)
     · exact List.Perm.refl _
theorem Fw (l:List S)(i n:Nat):ch l i n=2*i+1\/ch l i n=2*i+2/\2*i+2<n:=by unfold ch;split;{rename_i h;exact .inr ⟨rfl,h.1⟩};exact .inl rfl
theorem uO {n:Nat}:∀(k:Nat){l:List S}{i:Nat},i<l.length->n<=l.length->(down k l i n).Perm l
 |0,l,i,hi,hn=>List.Perm.refl _
 | k +1,l,i,hi,hn=>by
   unfold down
   split
   · exact List.Perm.refl _
   · have h:=Fw l i n
     split
     · exact(uO k (by rw[bT];omega) (by rw[bT];exact hn)).trans (wM hi (by omega))
     · exact List.Perm.refl _
def H (l:List S)(n:Nat):Prop:=∀i,0<i->i<n->le (l.getD ((i-1) / 2) .z) (l.getD i .z)
theorem H.root {l:List S}{n:Nat}(h:H l n):∀i,i<n->le (l.getD 0 .z) (l.getD i .z):=by
 intro i
 induction i using Nat.strongRecOn with
 |_ i ih=>
  intro hi
  by_cases h0:i=0
  · rw[h0];exact le_rfl _
  · exact le_trans (ih ((i-1) / 2) (by omega) (by omega)) (h i (by omega) hi)
structure Hu (l:List S)(n j:Nat):Prop where
 each:∀i,0<i->i<n->i≠j->le (l.getD ((i-1) / 2) .z) (l.getD i .z)
 Ap:0<j->∀i,0<i->i<n->(i-1) / 2=j->le (l.getD ((j-1) / 2) .z) (l.getD i .z)
theorem BZ:∀(k:Nat){l:List S}{j:Nat},j<l.length->j<k->Hu l l.length j->H (up k l j) l.length
 |0,l,j,hj,hk,h=>absurd hk (by omega)
 | k + 1, l, j,hj,hk,h=>by
   unfold up
   split
   · intro i h0 hi
     exact h.each i h0 hi (by omega)
   · rename_i hne
     split
     · rename_i hl
       have hp:(j-1) / 2<l.length:=by omega
       have hs:=xX hp hj
       have h1:=BZ k (l:=sw l ((j-1) / 2) j) (j:=(j-1) / 2) (by rw[bT];omega) (by omega) ?_
       · rw[bT]at h1;exact h1
       · rw[bT]
         have hl1:=z8 hl
         refine⟨fun i h0 hi hij=>?_,fun hj0 i h0 hi hij=>?_⟩
         · rw[hs,hs]
           by_cases e1:i=j
           · rw[ax (by omega),ay (by omega),ay e1];exact hl1
           · rw[ax e1,ax hij]
             by_cases e2:(i-1) / 2=j
             · rw[ay e2];exact h.Ap (by omega) i h0 hi e2
             · rw[ax e2]
               by_cases e3:(i-1) / 2=(j-1) / 2
               · rw[ay e3]
                 have h4:=h.each i h0 hi e1
                 rw[e3]at h4
                 exact le_trans hl1 h4
               · rw[ax e3];exact h.each i h0 hi e1
         · rw[hs,hs,ax (by omega),ax (by omega)]
           have h5:=h.each ((j-1) / 2) hj0 (by omega) (by omega)
           by_cases e1:i=j
           · rw[ay e1];exact h5
           · rw[ax e1,ax (by omega)]
             have h6:=h.each i h0 hi e1
             rw[hij]at h6
             exact le_trans h5 h6
     · rename_i hl
       have h1:=EK.1 hl
       intro i h0 hi
       by_cases e:i=j
       · rw[e];exact h1
       · exact h.each i h0 hi e
structure Hd (l:List S)(n i:Nat):Prop where
 each:∀j,0<j->j<n->(j-1) / 2≠i->le (l.getD ((j-1) / 2) .z) (l.getD j .z)
 Ap:0<i->∀j,0<j->j<n->(j-1) / 2=i->le (l.getD ((i-1) / 2) .z) (l.getD j .z)
theorem Ol {l:List S}{i n:Nat}:∀j,0<j->j<n->(j-1) / 2=i->le (l.getD (ch l i n) .z) (l.getD j .z):=by intro j h0 hj e;unfold ch;split;{rename_i h;rcases(show j=2*i+1\/j=2*i+2 by omega)with rfl|rfl;{exact z8 h.2};exact le_rfl _};rename_i h;rcases(show j=2*i+1\/j=2*i+2 by omega)with rfl|rfl;{exact le_rfl _};exact EK.1 fun hl=>h ⟨hj,hl⟩
theorem uq {n:Nat}:∀(k:Nat){l:List S}{i:Nat},i<l.length->n<=l.length->n<i+k+1->Hd l n i->H (down k l i n) n
 | 0,l,i,hi,hn,hk,h=>by
   intro j h0 hj
   exact h.each j h0 hj (by omega)
 | k + 1, l, i,hi,hn,hk,h=>by
   unfold down
   split
   · intro j h0 hj
     exact h.each j h0 hj (by omega)
   · rename_i hlt
     have hci:=Fw l i n
     have hcl:=Ol (l:=l) (i:=i) (n:=n)
     generalize ch l i n=c at hci hcl
     split
     · rename_i hl
       have hl1:=z8 hl
       have hs:=xX hi (show c<l.length by omega)
       refine uq k (by rw[bT];omega) (by rw[bT];exact hn) (by omega) ⟨fun j h0 hj hij=>?_,fun hc0 j h0 hj hij=>?_⟩
       · rw[hs,hs,ax hij]
         by_cases e1:j=c
         · rw[ay (by omega),ay e1];exact hl1
         · rw[ax e1]
           by_cases e2:j=i
           · rw[ax (by omega),ay e2]
             subst e2
             exact h.Ap h0 c (by omega) (by omega) (by omega)
           · rw[ax e2]
             by_cases e3:(j-1) / 2=i
             · rw[ay e3];exact hcl j h0 hj e3
             · rw[ax e3];exact h.each j h0 hj e3
       · have h7:=h.each j h0 hj (by omega)
         rw[hij]at h7
         rw[hs,hs,ax (by omega),ay (by omega),ax (by omega),ax (by omega)]
         exact h7
     · rename_i hl
       have h1:=EK.1 hl
       intro j h0 hj
       by_cases e:(j-1) / 2=i
       · rw[e];exact le_trans h1 (hcl j h0 hj e)
       · exact h.each j h0 hj e
theorem DF (l:List S)(x:S):(push l x).Perm (l++[x]):=BA _ (by simp)
theorem Gb (l:List S)(x:S){i:Nat}(h:i<l.length):(l++[x]).getD i .z=l.getD i .z:=by rw[ah,List.getElem?_append_left h,ah]
theorem CG {l:List S}(x:S)(h:H l l.length):H (push l x) (l.length+1):=by have h1:=BZ (l.length+1) (l:=l++[x]) (j:=l.length) (by simp) (by omega) ?_;{rw[List.length_append]at h1;exact h1};rw[List.length_append];refine⟨fun i h0 hi hne=>?_,fun hj0 i h0 hi e=>?_⟩;{have hi:i<l.length+1:=hi;rw[Gb l x (by omega),Gb l x (by omega)];exact h i h0 (by omega)};have hi:i<l.length+1:=hi;omega
theorem xW {l:List S}(h:l≠[]):(low l).Perm l:=by have:=List.length_pos_iff.2 h;exact(uO _ (by rw[bT];exact this) (by rw[bT];omega)).trans (wM this (by omega))
theorem yU {n:Nat}:∀(k:Nat){l:List S}{i:Nat},i<l.length->n<=l.length->∀j,n<=j->i<n\/n=0->(down k l i n).getD j .z=l.getD j .z
 |0,l,i,hi,hn,j,hj,hin=>rfl
 | k +1,l,i,hi,hn,j,hj,hin=>by
   unfold down
   split
   · rfl
   · have h:=Fw l i n
     split
     · rw[yU k (by rw[bT];omega) (by rw[bT];exact hn) j hj (by omega),xX hi (by omega),ax (by omega),ax (by omega)]
     · rfl
theorem KF {l:List S}(h:l≠[]):jR l=l.getD 0 .z:=by have:=List.length_pos_iff.2 h;unfold jR low;rw[yU _ (by rw[bT];exact this) (by rw[bT];omega) _ (Nat.le_refl _) (by omega),xX this (by omega),ay rfl]
theorem qh {l:List S}(h:l≠[]):(low l).length=l.length:=(xW h).length_eq
theorem rY {l:List S}(h:l≠[]):(rest l).length=l.length-1:=by unfold rest;rw[List.length_take,qh h];omega
theorem Dr {l:List S}(h:l≠[]):low l=rest l++[jR l]:=by have:=List.length_pos_iff.2 h;have hl:=qh h;unfold rest jR;rw[get_at (by omega)];(conv=>lhs;rw[←List.take_append_drop (l.length-1) (low l)]);congr 1;rw[List.drop_eq_getElem_cons (by omega),List.drop_eq_nil_of_le (by omega)]
theorem F6 {l:List S}(h:l≠[]):(jR l::rest l).Perm l:=by have h1:=xW h;rw[Dr h]at h1;exact(List.perm_append_comm (l₁:=[jR l]) (l₂:=rest l)).trans h1
theorem Ca (l:List S){i n:Nat}(h:i<n):(l.take n).getD i .z=l.getD i .z:=by rw[ah,List.getElem?_take_of_lt h,ah]
theorem Cz {l:List S}(hne:l≠[])(h:H l l.length):H (rest l) (l.length-1):=by have h0:=List.length_pos_iff.2 hne;have hs:=xX h0 (show l.length-1<l.length by omega);have h1:H (low l) (l.length-1):=by{refine uq _ (by rw[bT];exact h0) (by rw[bT];omega) (by omega) ⟨fun j h1 hj hij=>?_,fun hc=>absurd hc (by omega)⟩;rw[hs,hs,ax (by omega),ax (by omega),ax (by omega),ax (by omega)];exact h j h1 (by omega)};intro i h2 hi;unfold rest;rw[Ca _ (by omega),Ca _ hi];exact h1 i h2 hi
theorem Dh {l:List S}(hne:l≠[])(h:H l l.length):∀x∈l,le (jR l) x:=by intro x hx;obtain⟨j,hj,e⟩:=List.getElem_of_mem hx;rw[KF hne,←e,←get_at hj];exact h.root j hj
def Un (l:List S):Prop:=l.Pairwise fun x y=>x.b≠y.b
theorem Un.perm {l m:List S}(h:Un l)(hp:m.Perm l):Un m:=(hp.pairwise_iff fun h=>fun e=>h e.symm).2 h
def drain:Nat->List S->List S
 |0,_=>[]
 |n+1,l=>jR l::drain n (rest l)
theorem EY {l:List S}{n:Nat}(h:l.length=n+1):l≠[]:=by intro e;rw[e]at h;simp at h
theorem yL:∀(n:Nat)(l:List S),l.length=n->H l n->Un l->(drain n l).Perm l/\(drain n l).Pairwise fun x y=>lt x y=true
 | 0,l,hl,h,hu=>by
   rw[List.length_eq_zero_iff.1 hl]
   exact⟨List.Perm.refl _,List.Pairwise.nil⟩
 | n+1,l,hl,h,hu=>by
   have hne:=EY hl
   have hp:=F6 hne
   have hu':=hu.perm hp
   have hr:=Cz hne (by rw[hl];exact h)
   rw[hl]at hr
   obtain⟨h1,h2⟩:=yL n (rest l) (by rw[rY hne,hl];rfl) hr (List.pairwise_cons.1 hu').2
   refine⟨(h1.cons _).trans hp,List.pairwise_cons.2 ⟨fun y hy=>?_,h2⟩⟩
   have h3:=h1.mem_iff.1 hy
   have h4:=Dh hne (by rw[hl];exact h) y (hp.mem_iff.1 (List.mem_cons_of_mem _ h3))
   have h5:=(List.pairwise_cons.1 hu').1 y h3
   rw[pg]
   unfold le at h4
   omega
def left (l:List S):Nat->List S
 |0=>l
 |n+1=>rest (left l n)
theorem xV:∀(n:Nat)(l:List S)(i:Nat),i<n->(drain n l).getD i .z=jR (left l i)
 |0,l,i,h=>absurd h (by omega)
 |n+1,l,0,h=>rfl
 | n + 1,l,i+1,h=>by
   have e:∀j,left l (j+1)=left (rest l) j:=fun j=>by
     induction j with
     |zero=>rfl
     | succ j ih=>
       show rest (left l (j+1))=rest (left (rest l) j)
       rw[ih]
   rw[e i,←xV n (rest l) i (by omega)]
   rfl
theorem yK (l:List S):∀n,n<=l.length->(left l n).length=l.length-n
 |0,_=>rfl
 | n+1,h=>by
   have ih:=yK l n (by omega)
   show(rest (left l n)).length=_
   rw[rY (EY (n:=l.length-n-1) (by omega)),ih]
   omega
def wait (l:List S)(k:Nat):List S:=(l.take k).foldl push []
theorem uU {l:List S}{k:Nat}(h:k<l.length):wait l (k+1)=push (wait l k) (l.getD k .z):=by unfold wait;rw[List.take_add_one,List.foldl_append,get_at h,ai h];rfl
theorem vS (l:List S):∀k,k<=l.length->(wait l k).Perm (l.take k)/\H (wait l k) k
 |0,_=>⟨List.Perm.refl _,fun i h0 hi=>absurd hi (by omega)⟩
 | k+1,hk=>by
   obtain⟨h1,h2⟩:=vS l k (by omega)
   have hl:(wait l k).length=k:=by rw[h1.length_eq,List.length_take];omega
   rw[uU (by omega)]
   have h3:=CG (l.getD k .z) (l:=wait l k) (by rw[hl];exact h2)
   rw[hl]at h3
   refine⟨(DF _ _).trans ?_,h3⟩
   rw[List.take_add_one,get_at (by omega),ai (by omega)]
   exact h1.append_right _
theorem same:∀{l m:List S},(l.Pairwise fun x y=>lt x y=true)->(m.Pairwise fun x y=>lt x y=true)->(∀x,x∈l↔x∈m)->l=m
 |[],[],_,_,_=>rfl
 |[],y::m,_,_,h=>absurd ((h y).2 (List.mem_cons_self ..)) (by simp)
 |x::l,[],_,_,h=>absurd ((h x).1 (List.mem_cons_self ..)) (by simp)
 | x ::l,y::m,h1,h2,h=>by
   have a1:=List.pairwise_cons.1 h1
   have a2:=List.pairwise_cons.1 h2
   have e:x=y:=by
     rcases List.mem_cons.1 ((h x).1 (List.mem_cons_self ..))with e|hx
     · exact e
     · rcases List.mem_cons.1 ((h y).2 (List.mem_cons_self ..))with e|hy
       · exact e.symm
       · have b1:=pg.1 (a2.1 x hx)
         have b2:=pg.1 (a1.1 y hy)
         omega
   subst e
   rw[same a1.2 a2.2 fun z=>?_]
   have hz:=h z
   rw[List.mem_cons,List.mem_cons]at hz
   constructor
   · intro hl
     rcases hz.1 (.inr hl)with e|hm
     · subst e
       have:=pg.1 (a1.1 _ hl)
       omega
     · exact hm
   · intro hl
     rcases hz.2 (.inr hl)with e|hm
     · subst e
       have:=pg.1 (a2.1 _ hl)
       omega
     · exact hm
theorem Ho {l:List S}(hB:Hm.Bx l){i:Nat}(hi:i<l.length):jR (left (wait l l.length) i)=l.getD ((Hm.ord l l.length).getD i 0) .z:=by obtain⟨hp,hH⟩:=vS l l.length (Nat.le_refl _);rw[List.take_length]at hp;have hun:Un l:=by{rw[Un,List.pairwise_iff_getElem];intro j k hj hk hjk;have:=hB.one j k hjk hk;rw[get_at hj,get_at hk]at this;omega};obtain⟨h1,h2⟩:=yL l.length (wait l l.length) hp.length_eq hH (hun.perm hp);have h3:drain l.length (wait l l.length)=(Hm.ord l l.length).map fun k=>l.getD k .z:=by{refine same h2 ?_ fun x=>?_;{rw[List.pairwise_map];refine(List.pairwise_iff_getElem.2 fun a b ha hb hab=>?_);have h4:=List.pairwise_iff_getElem.1 (Hm.rF l l.length) a b ha hb hab;have h5:=Hm.fP.1 (List.getElem_mem ha);have h6:=Hm.fP.1 (List.getElem_mem hb);rw[pg];unfold Hm.GY at h4;rcases h4 with h4|⟨h4,h7⟩;{exact .inl h4};exact .inr ⟨h4,hB.one _ _ h7 h6⟩};rw[(h1.trans hp).mem_iff,List.mem_map];constructor;{intro hx;obtain⟨j,hj,e⟩:=List.getElem_of_mem hx;exact⟨j,Hm.fP.2 hj,by rw[get_at hj];exact e⟩};rintro⟨j,hj,rfl⟩;exact Hm.at_mem (Hm.fP.1 hj)};rw[←xV l.length _ i hi,h3];have h8:i<(Hm.ord l l.length).length:=by{rw[Hm.dC];exact hi};rw[ah,List.getElem?_map,ai h8,Hm.jN h8];rfl
end Hp
end
end Go.Proofs.YthamlonlgnjljaaGreat
