/-
  Own texts for a law: Fi2 Fi3 Fi4 Fi5 Shp9 Fi6 Fi7 Mod7 Hgt2
-/
import Derived.Test.YtghjooipkofodabKT10
import Derived.Deep.DeepCutAuto
namespace Go.Proofs.Ytghjooipkofodab
open Go.RowKit Go.Shelf
set_option linter.all false
set_option maxRecDepth 100000
set_option maxHeartbeats 16000000
namespace Fl
theorem vD {x:Ln}(h:Ln.ok x=true):Ln.us x=Ln.aY (Ln.rd x):=by rw[←Ln.yC h,jH]
theorem yA {x:Ln}(h:Ln.ok x=true):um x=mk (Ln.rd x):=uR fun y=>by rw[vD h,bR]
theorem ym {x:Ln}(h:Ln.ok x=true):∀y∈Ln.rd x,0<=y/\y<=39:=fun y hy=>Ln.rQ h y (by rw[vD h,bR];exact hy)
theorem wI {x:Ln}(h:Ln.ok x=true)(hw:Ln.qi x=true):sm x=mk [x.d]/\0<=x.d/\x.d<=39:=by have h1:=Ln.rf h;have e:Ln.st x=x.d:=by{unfold Ln.qi at hw;simp only[decide_eq_true_eq]at hw;unfold Ln.st;rw[ax hw]};have hd:0<=x.d:=by{have hk:=Ln.bg h;obtain⟨k,d,a,b,n,l⟩:=x;unfold Ln.qi at hw;simp only[decide_eq_true_eq]at hw;unfold Ln.ok at h;rw[au]at h;have h4:=h.2;simp only at hw h4 ⊢;rcases hw with rfl|rfl|rfl|rfl|rfl|rfl<;>simp[Ln.asks,Ln.bx,Wd.aS]at h4<;>omega};unfold sm;rw[e,ax hd];exact⟨by simp[mk],hd,by rw[e]at h1;exact h1.2⟩
theorem vV {x:Ln}(hw:Ln.qi x=false):sm x=0:=by have e:Ln.st x=-1:=by{unfold Ln.qi at hw;simp only[decide_eq_false_iff_not]at hw;unfold Ln.st;rw[av hw]};unfold sm;rw[e];rfl
end Fl
theorem wF (x:World)(b:Nat)(v0 v1 v2 v3:Value):x.grownBy ((((x.setCell ⟨b,0,none⟩ v0).setCell ⟨b,1,none⟩ v1).setCell ⟨b,2,none⟩ v2).setCell ⟨b,3,none⟩ v3) (some b):=
 (((aH x ⟨b,0,none⟩ v0).trans (aH _ ⟨b,1,none⟩ v1)).trans (aH _ ⟨b,2,none⟩ v2)).trans (aH _ ⟨b,3,none⟩ v3)
theorem iT (x:Ln)(hok:Ln.ok x=true)(la:Option Addr)(ln lc:Nat)(p:Nat)(hp:p<=1000)(w:World)(hs:IL w la ln x.l):Calls Try.prog 33 #[aK x (.slice la ln lc), .int .i64 (p:Int)] w fun e w'=>∃g m c,e= .returned (.agg #[.slice (some ⟨g,0,none⟩) m c, .int .u64 ((Fl.um x:Nat):Int), .int .u64 ((Fl.sm x:Nat):Int), .int .u64 0])/\OG w' w.heap.size g m c (Fl.nx x p)/\Below w.heap.size w w':=by have hk:=Ln.bg hok;have h3:=Ln.fJ hok;have hl3:x.k=7->ln<=3:=fun _=>by{have:=hs.1;omega};have hrl:(Ln.rd x).length<=1000:=by{have h:=hok;rw[←Ln.lW]at h;unfold Ln.right at h;simp only[au]at h;exact Ln.lV h.2.2.1};have hnx:=fun W=>j4 x hk.1 hk.2 la ln lc p hp W;have hrd:=fun W (h:IL W la ln x.l)=>dQ x hk.1 hk.2 la ln lc W h hl3;have hbw:=fun W=>dF x hk.1 hk.2 la ln lc W;have Bd:=ae (Fl.yA hok);have Ck:=ae (Fl.ym hok);have Dx:Hid (∀h:Ln.qi x=true,Fl.sm x=Fl.mk [x.d]/\0<=x.d/\x.d<=39):=fun h=>Fl.wI hok h;have Dy:Hid (∀h:Ln.qi x=false,Fl.sm x=0):=fun h=>Fl.vV h;generalize aK x (.slice la ln lc)=sv at hnx hrd hbw ⊢;generalize Fl.nx x p=N at hnx ⊢;generalize Ln.rd x=R at hrd Bd Ck hrl;generalize Fl.um x=U at Bd ⊢;have hB1:=az w (.cells #[.slice none 0 0, .int .u64 0, .int .u64 0, .int .u64 0] 48);have hA1:fA (w.alloc (.cells #[.slice none 0 0, .int .u64 0, .int .u64 0, .int .u64 0] 48)) w.heap.size 48 [.slice none 0 0, .int .u64 0, .int .u64 0, .int .u64 0]:=heap_alloc_last w _;obtain⟨W1,hW1⟩:∃X,w.alloc (.cells #[.slice none 0 0, .int .u64 0, .int .u64 0, .int .u64 0] 48)=X:=⟨_,rfl⟩;rw[hW1]at hB1 hA1;have hs1:=hs.kept hB1;have hnx1:=hnx W1;clear hs hnx hok hk h3;go_enter Try.func33,Try.ntmps33;go_wp2_with fail;refine hnx1.mono ?_;rintro e w2 ⟨gn,mn,cn,rfl,hon,hB2⟩;dsimp only;have zn:=hrd w2 (hs1.kept hB2);have hgn:w.heap.size<gn:=by{have:=hon.lt;have:w.heap.size<W1.heap.size:=(by rw[←hW1];simp);omega};have hgn2:=hon.lt.2;have HN:=ae (ak (hon.mono hB1.size) (ak (hB1.trans (hB2.mono hB1.size)) (hA1.kept hB2)));clear hnx1 hon hB2 hs1 hA1 hrd;go_wp2_with fail;refine zn.mono ?_;rintro e w3 ⟨gr,mr,cr,rfl,hor,hB3⟩;dsimp only;have hbs:=bY (some ⟨gr,0,none⟩) mr cr R Ck.out (by have:=hor.1;omega) w3 (OI.il hor.oi).2;rw[←Bd.out]at hbs;have Dz:=aj hgn2 hB3.size;have xS:=ae (ak (HN.out.1.kept hB3) (ak (HN.out.2.1.trans (hB3.mono HN.out.2.1.size)) (HN.out.2.2.kept hB3)));clear zn hor hB3 HN;go_wp2_with fail;refine hbs.mono ?_;rintro e w4 ⟨rfl,hw4⟩;subst w4;dsimp only;clear hbs;have zU:=az w3 (.cells #[.slice (some ⟨gn,0,none⟩) mn cn, .int .u64 (U:Int), .int .u64 0, .int .u64 0] 48);have Cm:fA (w3.alloc (.cells #[.slice (some ⟨gn,0,none⟩) mn cn, .int .u64 (U:Int), .int .u64 0, .int .u64 0] 48)) w3.heap.size 48 [.slice (some ⟨gn,0,none⟩) mn cn, .int .u64 (U:Int), .int .u64 0, .int .u64 0]:=heap_alloc_last w3 _;have zo:=hbw (w3.alloc (.cells #[.slice (some ⟨gn,0,none⟩) mn cn, .int .u64 (U:Int), .int .u64 0, .int .u64 0] 48));have xU:=ae (ak (xS.out.1.kept zU) (ak (xS.out.2.1.trans (zU.mono xS.out.2.1.size)) (ak (xS.out.2.2.kept zU) Cm)));have xe:w.heap.size<w3.heap.size:=xS.out.2.2.lt;clear zU Cm xS hbw;go_wp2_with fail;refine zo.mono ?_;rintro e w5 ⟨rfl,dx⟩;dsimp only;have xy:=ae (ak (xU.out.1.kept dx) (ak (xU.out.2.1.trans (dx.mono xU.out.2.1.size)) (ak (xU.out.2.2.1.kept dx) (xU.out.2.2.2.kept dx))));clear zo dx xU;have hsz5:w3.heap.size<w5.heap.size:=xy.out.2.2.2.lt;have hne:¬w.heap.size=w3.heap.size:=by{omega};have hne2:¬w3.heap.size=w.heap.size:=by{omega};have hA:=xy.out.2.2.1;have hD:=xy.out.2.2.2;have a0:=hA.cell (j:=0) rfl;have a1:=hA.cell (j:=1) rfl;have a2:=hA.cell (j:=2) rfl;have a3:=hA.cell (j:=3) rfl;have d0:=hD.cell (j:=0) rfl;have d1:=hD.cell (j:=1) rfl;have d2:=hD.cell (j:=2) rfl;have d3:=hD.cell (j:=3) rfl;have fa:=hA.frozen;have fd:=hD.frozen;rcases hw:Ln.qi x with _|_;{have HS:=ae (Dy.out hw);have xz:=wF w5 w.heap.size (.slice (some ⟨gn,0,none⟩) mn cn) (.int .u64 (U:Int)) (.int .u64 0) (.int .u64 0);have HF:=ae (ak (xy.out.1.cK xz (by omega)) (aD xy.out.2.1 xz (Nat.le_refl _)));clear hA hD xz;go_wp2;(try simp only[Exit.inBlock,Exit.then]);refine bodyPost_ret (v:= .agg #[.slice (some ⟨gn,0,none⟩) mn cn, .int .u64 (U:Int), .int .u64 0, .int .u64 0]) ?_ rfl ⟨gn,mn,cn,by rw[HS.out];rfl,HF.out.1,HF.out.2⟩;rw[aI rfl];go_simp};have HS:=ae (Dx.out hw);have hal:=az w5 (.cells #[.int .i64 x.d] 2);have hbs:=bY (some ⟨w5.heap.size,0,none⟩) 1 1 [x.d] (fun y hy=>by rw[List.mem_singleton]at hy;rw[hy];exact HS.out.2) (by omega) (w5.alloc (.cells #[.int .i64 x.d] 2)) (OI.il (OG.one w5 w5.heap.size (Nat.le_refl _) x.d).oi).2;rw[←HS.out.1]at hbs;obtain⟨SM,hSM⟩:∃SM,Fl.sm x=SM:=⟨_,rfl⟩;rw[hSM]at hbs;have HM:=ae hSM;clear hSM;have Be:=aH w5 ⟨w3.heap.size,2,none⟩ (.int .u64 (SM:Int));have Cn:=ae (ak (xy.out.1.cK Be (by dsimp only;omega)) (aD xy.out.2.1 Be (by dsimp only;omega)));have xz:=wF (w5.setCell ⟨w3.heap.size,2,none⟩ (.int .u64 (SM:Int))) w.heap.size (.slice (some ⟨gn,0,none⟩) mn cn) (.int .u64 (U:Int)) (.int .u64 (SM:Int)) (.int .u64 0);have lG:=aD Cn.out.2 xz (Nat.le_refl _);have xA:=az (((((w5.setCell ⟨w3.heap.size,2,none⟩ (.int .u64 (SM:Int))).setCell ⟨w.heap.size,0,none⟩ (.slice (some ⟨gn,0,none⟩) mn cn)).setCell ⟨w.heap.size,1,none⟩ (.int .u64 (U:Int))).setCell ⟨w.heap.size,2,none⟩ (.int .u64 (SM:Int))).setCell ⟨w.heap.size,3,none⟩ (.int .u64 0)) (.cells #[.int .i64 x.d] 2);have HF:=ae (ak ((Cn.out.1.cK xz (by omega)).kept xA) (lG.trans (xA.mono lG.size)));have DC:w.heap.size<w5.heap.size:=by{omega};have DD:¬w.heap.size=w5.heap.size:=by{omega};have DF:¬w3.heap.size=w5.heap.size:=by{omega};clear xA lG;clear hA hD xz Be hal;go_wp2_with(go_at_call 36;refine hbs.mono ?_;rintro e w6 ⟨rfl,Ey⟩;subst w6;dsimp only);(try simp only[Exit.inBlock,Exit.then]);refine bodyPost_ret (v:= .agg #[.slice (some ⟨gn,0,none⟩) mn cn, .int .u64 (U:Int), .int .u64 (SM:Int), .int .u64 0]) ?_ rfl ⟨gn,mn,cn,by rw[HM.out],HF.out.1,HF.out.2⟩;rw[aI rfl];go_simp
abbrev Wv:=Value×Nat×Nat×Nat
def vK:Wv:=(.slice none 0 0,0,0,0)
def fD (xs:List Wv):List Value:=xs.flatMap fun x=>[x.1, .int .u64 (x.2.1:Int), .int .u64 (x.2.2.1:Int), .int .u64 (x.2.2.2:Int)]
theorem gJ (x:Wv)(xs:List Wv):fD (x::xs)=x.1:: .int .u64 (x.2.1:Int):: .int .u64 (x.2.2.1:Int):: .int .u64 (x.2.2.2:Int)::fD xs:=rfl
theorem l5 (xs ys:List Wv):fD (xs++ys)=fD xs++fD ys:=by simp[fD]
theorem l8:∀(xs:List Wv)(j:Nat),j<xs.length->(fD xs)[j*4]?=some (xs.getD j vK).1/\(fD xs)[j*4+1]?=some (.int .u64 ((xs.getD j vK).2.1:Int))/\(fD xs)[j*4+2]?=some (.int .u64 ((xs.getD j vK).2.2.1:Int))/\(fD xs)[j*4+3]?=some (.int .u64 ((xs.getD j vK).2.2.2:Int))
 |[],j,h=>by simp at h
 |x::xs,0,_=>⟨rfl,rfl,rfl,rfl⟩
 | x::xs,j+1,h=>by
   have ih:=l8 xs j (by simp at h;omega)
   rw[gJ,show(j+1)*4=j*4+1+1+1+1 by omega]
   refine⟨by simpa using ih.1,?_,?_,?_⟩
   · rw[show j*4+1+1+1+1+1=(j*4+1)+1+1+1+1 by omega];simpa using ih.2.1
   · rw[show j*4+1+1+1+1+2=(j*4+2)+1+1+1+1 by omega];simpa using ih.2.2.1
   · rw[show j*4+1+1+1+1+3=(j*4+3)+1+1+1+1 by omega];simpa using ih.2.2.2
theorem jK:∀(xs:List Wv)(k:Nat)(y:Nat),k<xs.length->fD (xs.set k ((xs.getD k vK).1,(xs.getD k vK).2.1,(xs.getD k vK).2.2.1,y))=(fD xs).set (k*4+3) (.int .u64 (y:Int))
 |[],k,y,h=>by simp at h
 |x::xs,0,y,h=>rfl
 | x::xs,k+1,y,h=>by
   have ih:=jK xs k y (by simp at h;omega)
   rw[List.set_cons_succ,gJ,gJ,show(k+1)*4+3=(k*4+3)+1+1+1+1 by omega]
   simp only[List.set_cons_succ,List.getD_cons_succ]
   rw[ih]
def FR (ls:List Ln)(W:World)(n₀ g k c:Nat)(f:List Nat):Prop:=
 ∃ vs:List Wv,vs.length=k/\W.ownsRow n₀ 48 4 (.slice (some ⟨g,0,none⟩) k c) k (fD vs)/\
   ∀j,j<k->∃gn n c',vs.getD j vK=(.slice (some ⟨gn,0,none⟩) n c',Fl.um (ls.getD j .z),Fl.sm (ls.getD j .z),f.getD j 0)/\OG W n₀ gn n c' (Fl.nx (ls.getD j .z) j)/\gn≠g
theorem FR.lt {ls:List Ln}{W:World}{n₀ g k c:Nat}{f:List Nat}(h:FR ls W n₀ g k c f):n₀<=g/\g<W.heap.size:=by obtain⟨vs,-,h,-⟩:=h;exact World.ownsRow.lt h g rfl
theorem FR.cap {ls:List Ln}{W:World}{n₀ g k c:Nat}{f:List Nat}(h:FR ls W n₀ g k c f):k<=c/\c<=maxLen:=by obtain⟨vs,-,h,-⟩:=h;rcases h.2 with⟨e,-⟩|⟨g',cap,cur,e,hb,hc,hn,hm,-⟩;{cases e};cases e;exact⟨hn,hm⟩
theorem FR.kept {ls:List Ln}{W W':World}{n₀ g k c:Nat}{f:List Nat}(h:FR ls W n₀ g k c f)(hB:Below W.heap.size W W'):FR ls W' n₀ g k c f:=by
 obtain⟨vs,h1,h2,h3⟩:=h
 exact⟨vs,h1,aM h2 hB,fun j hj=>by
  obtain⟨gn,n,c',e,ho,hne⟩:=h3 j hj
  exact⟨gn,n,c',e,ho.kept hB,hne⟩⟩
theorem FR.cells {ls:List Ln}{W:World}{n₀ g k c:Nat}{f:List Nat}(h:FR ls W n₀ g k c f){j:Nat}(hj:j<k):∃gn n c',W.cell? ⟨g,j*4,none⟩=some (.slice (some ⟨gn,0,none⟩) n c')/\W.cell? ⟨g,j*4+1,none⟩=some (.int .u64 (Fl.um (ls.getD j .z):Int))/\W.cell? ⟨g,j*4+2,none⟩=some (.int .u64 (Fl.sm (ls.getD j .z):Int))/\W.cell? ⟨g,j*4+3,none⟩=some (.int .u64 (f.getD j 0:Int))/\OG W n₀ gn n c' (Fl.nx (ls.getD j .z) j)/\gn≠g:=by obtain⟨vs,h1,h2,h3⟩:=h;obtain⟨gn,n,c',e,ho,hne⟩:=h3 j hj;obtain⟨e0,e1,e2,e3⟩:=l8 vs j (by omega);rw[e]at e0 e1 e2 e3;refine⟨gn,n,c',?_,?_,?_,?_,ho,hne⟩;{have:=World.ownsRow.cellAt h2 (j*4) (by omega);rwa [e0]at this};{have:=World.ownsRow.cellAt h2 (j*4+1) (by omega);rwa [e1]at this};{have:=World.ownsRow.cellAt h2 (j*4+2) (by omega);rwa [e2]at this};have:=World.ownsRow.cellAt h2 (j*4+3) (by omega);rwa [e3]at this
theorem FR.frozen {ls:List Ln}{W:World}{n₀ g k c:Nat}{f:List Nat}(h:FR ls W n₀ g k c f)(j:Nat):W.frozen? ⟨g,j,none⟩=false:=by obtain⟨vs,h1,h2,h3⟩:=h;exact World.ownsRow.frozenAt h2 j
theorem FR.set {ls:List Ln}{W:World}{n₀ g k c:Nat}{f:List Nat}(h:FR ls W n₀ g k c f){j:Nat}(hj:j<k)(hf:f.length=k)(x:Nat):FR ls (W.setCell ⟨g,j*4+3,none⟩ (.int .u64 (x:Int))) n₀ g k c (f.set j x):=by obtain⟨vs,h1,h2,h3⟩:=h;have hst:=(World.ownsRow.stored h2 (j*4+3) (.int .u64 (x:Int))).1;rw[←jK vs j x (by omega)]at hst;refine⟨_,by rw[List.length_set];exact h1,hst,fun i hi=>?_⟩;obtain⟨gn,n,c',e,ho,hne⟩:=h3 i hi;refine⟨gn,n,c',?_,ho.cK (aH W ⟨g,j*4+3,none⟩ _) hne,hne⟩;rw[Fl.dJ];by_cases hij:j=i;{subst hij;rw[ax ⟨rfl,by omega⟩,ah,List.getElem?_set_self (by omega),Option.getD_some,e]};rw[av (fun h=>hij h.1),ah,List.getElem?_set_ne hij,←ah,e]
theorem bF (a:Option Addr)(len cap:Nat)(p:Int)(hlen:len<=1000)(w:World):Calls Try.prog 22 #[.slice a len cap, .int .i64 p] w fun e w'=>e= .returned (.bool (decide (0<=p/\p<(len:Int))))/\w'=w:=by have hcon:=aO p 0 ((len:Int)-1) w;have e:Wd.aS p 0 ((len:Int)-1)=decide (0<=p/\p<(len:Int)):=by{unfold Wd.aS;rw[Bool.eq_iff_iff];simp;omega};rw[e]at hcon;have qo:(len:Int)<=1000:=by{omega};clear e;generalize decide (0<=p/\p<(len:Int))=r at hcon ⊢;go_enter Try.func22,Try.ntmps22;go_wp2_with(go_at_call 35;refine hcon.mono ?_;rintro e w4 ⟨rfl,hw4⟩;subst w4;dsimp only);go_ret;exact⟨rfl,rfl⟩
theorem dn (ls:List Ln)(hok:Ln.isOk ls=true)(p:Nat)(hp:p<ls.length)(f:List Nat)(hf:∀i,f.getD i 0<2 ^ 40)(n₀ g c:Nat)(w:World)(h:FR ls w n₀ g ls.length c f):Calls Try.prog 26 #[.slice (some ⟨g,0,none⟩) ls.length c, .int .i64 (p:Int)] w fun e w'=>e= .returned (.int .u64 ((Fl.ou ls f p:Nat):Int))/\w'=w:=by have hlen:=Ln.aZ hok;have qo:(ls.length:Int)<=300:=by{omega};have xg:(p:Int)<(ls.length:Int):=by{omega};have hcap:=h.cap;have HN:=ae (Fl.vz hok hp);have HR:Hid (Fl.ou ls f p=Fl.js f (Fl.nx (ls.getD p .z) p)):=rfl;obtain⟨R,hR⟩:∃R,Fl.ou ls f p=R:=⟨_,rfl⟩;rw[hR]at HR ⊢;have HH:=ae h;have HF:=ae hf;obtain⟨gn,mn,cn,d0,d1,d2,d3,hon,hne⟩:=h.cells hp;generalize Fl.nx (ls.getD p .z) p=N at HN HR hon;have qU:=ae hon.1;have hcn:=hon.cap;have hgn:=hon.lt;have HC:Hid (∀j,j<mn->w.cell? ⟨gn,j,none⟩=some (.int .i64 (N.getD j 0))):=fun j hj=>hon.cell hj;have hmx:mn<=9223372036854775807:=by{unfold maxLen at hcn;omega};have hlt:=h.lt;clear hon h hR hf hlen d1 d2 d3;generalize hL:ls.length=L at qo xg hcap HN HH hp;clear hL;go_enter Try.func26,Try.ntmps26;go_wp2;go_loopg [5,14] mn (fun gk vx vi wr=>∃(k q:Nat),gk=mn-k/\k<=mn/\vx= .int .u64 (q:Int)/\vi= .int .i64 (k:Int)/\Hid (q=Fl.js f (N.take k))/\w=wr);(case atStart=>exact⟨0,0,rfl,by omega,rfl,rfl,(by show _=_;simp[Fl.js]),rfl⟩);case round=>obtain⟨k,q,vP,hk,rfl,rfl,HQ,aF⟩:=hrel;subst aF;by_cases hlt2:k<mn;{have bL:(k:Int)<(mn:Int):=by{omega};have hkl:k<N.length:=by{rw[qU.out];exact hlt2};have hc:=HC.out k hlt2;have hj:=HN.out (N.getD k 0) (by rw[ah,ai hkl];exact List.getElem_mem hkl);have HS:=ae (Fl.pQ (f:=f) hkl);rw[←HQ.out]at HS;have uZ:Hid (q<2 ^ 40):=by{show _<_;rw[HQ.out];exact Fl.iG HF.out _};obtain⟨y,hy⟩:∃y,N.getD k 0=y:=⟨_,rfl⟩;rw[hy]at hc hj HS;clear hy hkl;obtain⟨j,rfl⟩:=Int.eq_ofNat_of_zero_le hj.1;rw[ay]at HS;have hjl:j<L:=by{omega};have Dm:(j:Int)<(L:Int):=hj.2;obtain⟨_,_,_,-,-,-,hi,-,-⟩:=HH.out.cells hjl;have HZ:=ae (HF.out j);obtain⟨z,hz⟩:∃z,f.getD j 0=z:=⟨_,rfl⟩;rw[hz]at hi HS HZ;have hor:bits .or .u64 (q:Int) (z:Int)=((q|||z:Nat):Int):=rA uZ.out HZ.out;clear hz hj;go_wp2;go_roundg (mn-(k+1));(case measure=>omega);case rel=>exact⟨k+1,q|||z,rfl,hlt2,rfl,by simp,(by show _=_;rw[HS.out]),rfl⟩};have hke:k=mn:=by{omega};have HE:Hid (q=R):=by{show _=_;rw[HQ.out,HR.out,hke,←qU.out,List.take_length]};clear HQ;have bL:¬(k:Int)<(mn:Int):=by{omega};clear hke;go_wp2;go_ret;exact⟨by rw[←HE.out]<;>rfl,rfl⟩
namespace Fl
theorem mg {f:List Nat}{p:Nat}{x:Nat}(h:f.getD p 0=x):f.set p x=f:=by by_cases hp:p<f.length;{rw[ah,ai hp]at h;simp only[Option.getD_some]at h;rw[←h];exact List.set_getElem_self hp};exact List.set_eq_of_length_le (by omega)
end Fl
theorem iq (ls:List Ln)(hok:Ln.isOk ls=true)(p:Nat)(hp:p<ls.length)(f:List Nat)(hI:Fl.In ls f)(n₀ g c:Nat)(w:World)(h:FR ls w n₀ g ls.length c f):Calls Try.prog 46 #[.slice (some ⟨g,0,none⟩) ls.length c, .int .i64 (p:Int)] w fun e w'=>e= .returned (.bool (decide (Fl.eU ls f p≠f.getD p 0)))/\FR ls w' n₀ g ls.length c (f.set p (Fl.eU ls f p))/\w.grownBy w' (some g):=by have hlen:=Ln.aZ hok;have qo:(ls.length:Int)<=300:=by{omega};have xg:(p:Int)<(ls.length:Int):=by{omega};have hcap:=h.cap;have hcon:=fun n=>dn ls hok p hp f hI.lt n₀ g c (w.drewN n) (h.kept (bK w n));have HST:Hid (Fl.eU ls f p=Fl.um (ls.getD p .z)|||Fl.an (Fl.ou ls f p) (Fl.sm (ls.getD p .z))):=rfl;have ny:=Ln.dW hok hp;have hou:Fl.ou ls f p<2 ^ 40:=Fl.iG hI.lt _;have Co:=Fl.vL ny;have hsm:=Fl.yV ny;have hal:=yw hou hsm;have hor:=rA Co (Fl.lQ (b:=Fl.sm (ls.getD p .z)) hou);rw[←HST.out]at hor;obtain⟨gn,mn,cn,d0,d1,d2,d3,-,-⟩:=h.cells hp;have hfz:=h.frozen;have hlt:=h.lt;have HH:=ae h;have HL:=ae hI.len;generalize Fl.um (ls.getD p .z)=U at hor d1;generalize Fl.sm (ls.getD p .z)=S at hal hor d2;generalize Fl.ou ls f p=O at hal hor hcon;generalize Fl.an O S=A at hal hor;obtain⟨T,hT⟩:∃T,Fl.eU ls f p=T:=⟨_,rfl⟩;rw[hT]at hor ⊢;obtain⟨z,hz⟩:∃z,f.getD p 0=z:=⟨_,rfl⟩;rw[hz]at d3 ⊢;have HZ:=ae hz;generalize hL:ls.length=L at qo xg hcap HL HH hp hcon ⊢;clear hok hlen hI ny hou Co hsm h hT hz hL HST;by_cases e:T=z;{have hd:decide (T≠z)=false:=by{simp[e]};rw[hd];subst e;have hq:((T:Int)==(T:Int))=true:=by{simp};clear hd;go_enter Try.func46,Try.ntmps46;go_wp2;go_quiet ((go_at_call 26;exact Calls.quiet_of_same (hcon _)));have HF:Hid (FR ls (w.drewN nq) n₀ g L c (f.set p T)/\w.grownBy (w.drewN nq) (some g)):=⟨by rw[Fl.mg HZ.out];exact HH.out.kept (bK w nq),⟨rfl,rfl,rfl,Nat.le_refl _,fun _ _ _=>rfl⟩⟩;go_wp2;go_ret;exact⟨rfl,HF.out.1,HF.out.2⟩};have hd:decide (T≠z)=true:=by{simp[e]};rw[hd];have hq:((T:Int)==(z:Int))=false:=by{simp;omega};clear hd;go_enter Try.func46,Try.ntmps46;go_wp2;go_quiet ((go_at_call 26;exact Calls.quiet_of_same (hcon _)));have HF:Hid (FR ls ((w.drewN nq).setCell ⟨g,p*4+3,none⟩ (.int .u64 (T:Int))) n₀ g L c (f.set p T)/\w.grownBy ((w.drewN nq).setCell ⟨g,p*4+3,none⟩ (.int .u64 (T:Int))) (some g)):=⟨(HH.out.kept (bK w nq)).set hp HL.out T,(show w.grownBy (w.drewN nq) (some g)from⟨rfl,rfl,rfl,Nat.le_refl _,fun _ _ _=>rfl⟩).trans (aH _ ⟨g,p*4+3,none⟩ _)⟩;go_wp2;go_ret;exact⟨rfl,HF.out.1,HF.out.2⟩
namespace Fl
def dO (ls:List Ln)(f:List Nat)(p s:Nat):Prop:=∀t,t<s->eU ls f ((p+t)%ls.length)=f.getD ((p+t)%ls.length) 0
theorem dO.more {ls:List Ln}{f:List Nat}{p s:Nat}(h:dO ls f (p+1) s)(hp:p<ls.length)(he:eU ls f p=f.getD p 0):dO ls f p (s+1):=fun t ht=>by
 rcases t with _|t
 · rw[Nat.add_zero,Nat.mod_eq_of_lt hp]
   exact he
 · rw[show p+(t+1)=p+1+t by omega]
   exact h t (by omega)
theorem dO.fix {ls:List Ln}{f:List Nat}{p:Nat}(h:dO ls f p ls.length)(hp:p<ls.length):Fix ls f:=fun i hi=>by
 by_cases hpi:p<=i
 · have:=h (i-p) (by omega)
   rwa [show p+(i-p)=i by omega,Nat.mod_eq_of_lt hi]at this
 · have:=h (i+ls.length-p) (by omega)
   rwa [show p+(i+ls.length-p)=i+ls.length by omega,Nat.add_mod_right,Nat.mod_eq_of_lt hi]at this
theorem dO.turn {ls:List Ln}{f:List Nat}{s:Nat}(h:dO ls f 0 s):dO ls f ls.length s:=fun t ht=>by
 have:=h t ht
 rw[Nat.zero_add]at this
 rw[Nat.add_mod_left]
 exact this
end Fl
theorem gq (ls:List Ln)(hok:Ln.isOk ls=true)(f0:List Nat)(hI:Fl.In ls f0)(hS:Fl.Sound ls f0)(n₀ g c:Nat)(w:World)(h:FR ls w n₀ g ls.length c f0):Calls Try.prog 34 #[.slice (some ⟨g,0,none⟩) ls.length c] w fun e w'=>e= .returned (.tuple #[])/\FR ls w' n₀ g ls.length c (Fl.live ls)/\w.grownBy w' (some g):=by have hlen:=Ln.aZ hok;have hcap:=h.cap;have hlt:=h.lt;obtain⟨M,hM⟩:∃M,∀f,Fl.In ls f->f.sum<=M:=⟨_,fun f h=>h.sum⟩;have HM:=ae hM;have iD:=ae hok;have HI:=ae (ak hI hS);have HH:=ae h;have hcon:=fun p hp f hI W h=>iq ls hok p hp f hI n₀ g c W h;obtain⟨L,hL⟩:∃L,ls.length=L:=⟨_,rfl⟩;have HL:=ae hL;rw[hL]at hlen hcap HH hcon ⊢;have qo:(L:Int)<=300:=by{omega};have hl1:(1:Int)<=(L:Int):=by{omega};clear hM hok hI hS h hL;go_enter Try.func34,Try.ntmps34;go_wp2;go_step3;go_wp2;go_step3;go_wp2;go_loopg [2] (M-f0.sum) (fun gk vs wr=>∃(s:Nat)(f:List Nat),vs= .int .i64 (s:Int)/\gk=M-f.sum/\s<L/\Hid (Fl.In ls f/\Fl.Sound ls f)/\Hid (Fl.dO ls f L s)/\FR ls wr n₀ g L c f/\w.grownBy wr (some g));(case atStart=>exact⟨0,f0,rfl,rfl,by omega,HI,(fun t ht=>by omega),HH.out,World.grownBy.refl _ _⟩);case round=>obtain⟨s0,f,rfl,vP,hs0,DI,DJ,hfr,hgr⟩:=hrel;have Cq:=ae (ak hfr hgr);clear hfr hgr;go_wp2;go_loopg [2,3] L (fun gj vs va wx=>∃(s:Nat)(f':List Nat),vs= .int .i64 (s:Int)/\va= .int .i64 ((gj:Int)-1)/\gj<=L/\s<L/\Hid (Fl.In ls f'/\Fl.Sound ls f')/\Hid (Fl.dO ls f' gj s)/\Hid (f.sum<f'.sum\/f'=f/\s=s0+(L-gj))/\FR ls wx n₀ g L c f'/\w.grownBy wx (some g));(case atStart=>exact⟨s0,f,rfl,rfl,Nat.le_refl _,hs0,DI,DJ, .inr ⟨rfl,by omega⟩,Cq.out.1,Cq.out.2⟩);case round=>obtain⟨s,f',rfl,rfl,hgj,hs,jo,Cr,Bf,hfr,hgr⟩:=hrel;rcases gk with _|p;{have hN:¬((0:Nat):Int)-1≥0:=by{omega};have qX:=ae (ak hfr hgr);clear hfr hgr;go_wp2;have zq:Hid (f.sum<f'.sum):=by{rcases Bf.out with h|⟨-,h⟩;{exact h};exact absurd hs (by omega)};go_roundg (M-f'.sum);(case measure=>have h1:=HM.out _ jo.out.1;have h2:=zq.out;omega);case rel=>refine⟨s,f',rfl,rfl,hs,jo,?_,qX.out.1,qX.out.2⟩;have:=Cr.out.turn;rw[HL.out]at this;exact this};have hp:p<L:=by{omega};have hY:((p:Int)≥0):=by{omega};have e5:(((p+1:Nat):Int)-1)=(p:Int):=by{omega};rw[e5];have hc:=hcon p hp f' jo.out.1 wr hfr;have Bg:=ae hgr;have DK:=hfr.lt;clear hfr hgr e5;by_cases hst:Fl.eU ls f' p=f'.getD p 0;{have hd:decide (Fl.eU ls f' p≠f'.getD p 0)=false:=decide_eq_false fun h=>h hst;rw[hd,Fl.mg hst.symm]at hc;have Cs:Hid (Fl.dO ls f' p (s+1)):=Cr.out.more (by rw[HL.out];exact hp) hst;clear hd hst;by_cases hsl:s+1=L;{have hq:((s:Int)+1==(L:Int))=true:=by{simp;omega};have HE:Hid (f'=Fl.live ls):=by{have h1:=Cs.out;rw[hsl,←HL.out]at h1;exact Fl.mP iD.out jo.out.1 jo.out.2 (h1.fix (by rw[HL.out];exact hp))};clear hsl;go_wp2_with(go_at_call 46;refine hc.mono ?_;rintro e w4 ⟨rfl,nA,dU⟩;dsimp only;have HF:=ae (ak nA (Bg.out.trans dU));clear nA dU);rw[Exit.noGoto_normal];(try simp only[Exit.inBlock,Exit.then]);refine bodyPost_end (results_none rfl _ _ _) rfl ⟨rfl,?_,HF.out.2⟩;rw[←HE.out];exact HF.out.1};have hq:((s:Int)+1==(L:Int))=false:=by{simp;omega};go_wp2_with(go_at_call 46;refine hc.mono ?_;rintro e w4 ⟨rfl,nA,dU⟩;dsimp only;have HF:=ae (ak nA (Bg.out.trans dU));clear nA dU);go_roundg p;(case measure=>omega);case rel=>refine⟨s+1,f',by simp,rfl,by omega,by omega,jo,Cs,?_,HF.out.1,HF.out.2⟩;rcases Bf.out with h|⟨h,h2⟩;{exact .inl h};exact .inr ⟨h,by omega⟩};have hd:decide (Fl.eU ls f' p≠f'.getD p 0)=true:=decide_eq_true hst;rw[hd]at hc;have zh:=ae hst;clear hd hst;go_wp2_with(go_at_call 46;refine hc.mono ?_;rintro e w4 ⟨rfl,nA,dU⟩;dsimp only;have HF:=ae (ak nA (Bg.out.trans dU));clear nA dU);go_roundg p;(case measure=>omega);case rel=>have hpl:p<ls.length:=by{rw[HL.out];exact hp};refine⟨0,f'.set p (Fl.eU ls f' p),rfl,rfl,by omega,by omega,⟨jo.out.1.set iD.out hpl,jo.out.2.set iD.out hpl⟩,(fun t ht=>by omega), .inl ?_,HF.out.1,HF.out.2⟩;have h1:=jo.out.1.more hpl zh.out;rcases Bf.out with h|⟨h,h2⟩;{exact Nat.lt_trans h h1};rw[h]at h1 ⊢;exact h1
def SR (w W:World)(n₀ g k c:Nat)(xs:List Ln):Prop:=
 ∃bS:List Value,bS.length=k/\W.ownsRow n₀ 62 1 (.slice (some ⟨g,0,none⟩) k c) k bS/\∀j,j<k->∃la ln lc,bS.getD j undef=aK (xs.getD j .z) (.slice la ln lc)/\IL w la ln (xs.getD j .z).l
theorem jf:(Try.prog.info? 62).map (fun i=>(i.zero,i.size,i.bytes))=some (some .nilIface,1,16):=by kernel_rfl
theorem SR.lt {w W:World}{n₀ g k c:Nat}{xs:List Ln}(h:SR w W n₀ g k c xs):n₀<=g/\g<W.heap.size:=by obtain⟨bS,-,h,-⟩:=h;exact World.ownsRow.lt h g rfl
theorem SR.kept {w W W':World}{n₀ g k c:Nat}{xs:List Ln}(h:SR w W n₀ g k c xs)(hB:Below W.heap.size W W'):SR w W' n₀ g k c xs:=by obtain⟨bS,h1,h2,h3⟩:=h;exact⟨bS,h1,aM h2 hB,h3⟩
theorem SR.cell {w W:World}{n₀ g k c:Nat}{xs:List Ln}(h:SR w W n₀ g k c xs){j:Nat}(hj:j<k):∃la ln lc,W.cell? ⟨g,j,none⟩=some (aK (xs.getD j .z) (.slice la ln lc))/\IL w la ln (xs.getD j .z).l:=by obtain⟨bS,h1,h2,h3⟩:=h;obtain⟨la,ln,lc,e,hi⟩:=h3 j hj;refine⟨la,ln,lc,?_,hi⟩;have:=World.ownsRow.cellAt h2 j (by omega);rw[←e];rw[ah,ai (by omega)];rw[this];simp
theorem SR.cut {w W:World}{n₀ g k c m:Nat}{xs:List Ln}(h:SR w W n₀ g k c (xs.take m))(hk:k<=m):SR w W n₀ g k c xs:=by obtain⟨bS,h1,h2,h3⟩:=h;refine⟨bS,h1,h2,fun j hj=>?_⟩;obtain⟨la,ln,lc,e,hi⟩:=h3 j hj;have e2:(xs.take m).getD j .z=xs.getD j .z:=by{rw[ah,ah,List.getElem?_take_of_lt (by omega)]};rw[e2]at e hi;exact⟨la,ln,lc,e,hi⟩
theorem qP {ops:Array Oper}{rest:List Oper}{o:Oper}{a:Act}{Q:Exit->Act->World->Prop}(W w:World)(hgd:o.guard=none)(s x:Operand)(ho:o.op= .call {callee:= .builtin .append,args:=#[s,x],argTypes:=#[58,58]})(n₀ g k c:Nat)(xs:List Ln)(hs:a.eval s= .slice (some ⟨g,0,none⟩) k c)(hown:SR w W n₀ g k c xs)(hxl:xs.length=k)(sb:Nat)(hx:a.eval x= .slice (some ⟨sb,0,none⟩) 1 1)(y:Ln)(la:Option Addr)(ln lc:Nat)(T:TypeId)(u:Value)(hv:aK y (.slice la ln lc)= .iface T u)(hcell:W.cell? ⟨sb,0,none⟩=some (.iface T u))(hil:IL w la ln y.l)(hsz:k<=1000000)(hbase:n₀<=W.heap.size)(h:∀g' c' N W',Hid (N=k+1)->SR w W' n₀ g' N c' (xs++[y])->W.grownBy W' (some g)->wpList Try.prog ops Q rest (a.put o.dst (.slice (some ⟨g',0,none⟩) N c')) W'):wpList Try.prog ops Q (o::rest) a W:=by obtain⟨i0,hi,hz0,hz1,hz2⟩:=info_parts jf;obtain⟨bS,h1,h2,h3⟩:=hown;refine wpList_append_own W hgd s x 58 ho n₀ 62 i0 .nilIface 1 16 Try.underlying58 hi hz0 hz1 hz2 rfl (by decide) _ k bS hs h2 ⟨sb,0,none⟩ 1 1 [.iface T u] hx rfl (fun j u' hu=>?_) (fun u' hu=>?_) (by simp only[maxLen];omega) (by omega) hbase (fun v' W' hown' hgrow hnn=>?_);{rcases j with _|j;{simp only[List.getElem?_cons_zero,af]at hu;rw[←hu];(have hadd:(⟨sb,0,none⟩:Addr).add 0=⟨sb,0,none⟩:=by unfold Addr.add;split<;>simp_all);rw[hadd];exact hcell};simp at hu};{rw[List.mem_singleton]at hu;rw[hu];rfl};rcases hown'.2 with⟨rfl,h0⟩|⟨g',cap',cur,rfl,r⟩;{exact absurd (hnn.1 rfl).1 (fun e=>by cases e)};refine h g' cap' (k+1) W' rfl ⟨bS++[.iface T u],by simp[h1],hown',fun j hj=>?_⟩ hgrow;by_cases hjk:j<k;{obtain⟨la',Ct,xQ,e,hi'⟩:=h3 j hjk;refine⟨la',Ct,xQ,?_,?_⟩;{rw[ah,List.getElem?_append_left (by omega),←ah,e,ah,ah,List.getElem?_append_left (by omega)]};rw[ah,List.getElem?_append_left (by omega),←ah];exact hi'};have e:j=k:=by{omega};subst e;have e1:(bS++[Value.iface T u]).getD j undef= .iface T u:=by{rw[ah,List.getElem?_append_right (by omega),h1];simp};have e2:(xs++[y]).getD j .z=y:=by{rw[ah,List.getElem?_append_right (by omega),hxl];simp};rw[e1,e2];exact⟨la,ln,lc,hv.symm,hil⟩
namespace Ln
theorem qH {ls:List Ln}{i:Nat}(hi:i<ls.length):ls.take i++[ls.getD i z]=ls.take (i+1):=by rw[List.take_add_one,ai hi,ah,ai hi];simp
theorem nS {x:Ln}{m:Nat}(h:ok x=true):bI m x=place m x:=by unfold bI;rw[h,Bool.true_and];have hk:=bg h;obtain⟨k,d,a,b,n,l⟩:=x;rcases kinds hk.1 hk.2 with e|e|e|e|e|e|e|e|e|e|e<;>simp only at e<;>subst e;(case inr.inr.inr.inr.inl=>have h0:0<=n:=by{unfold ok at h;simp[asks,Wd.aS]at h;omega};rw[Bool.eq_iff_iff];simp[place,dS,Wd.aS];omega);(case inr.inr.inr.inr.inr.inl=>have h0:0<=n:=by{unfold ok at h;simp[asks,Wd.aS]at h;omega};rw[Bool.eq_iff_iff];simp[place,dS,Wd.aS];omega);all_goals simp[place,dS]
theorem l9 (ls:List Ln):bZ ls= !behind (ls.getD (ls.length-1) z):=by unfold bZ behind;generalize(ls.getD (ls.length-1) z).k=k;by_cases h5:k=5<;>by_cases h10:k=10<;>by_cases h11:k=11<;>simp[h5,h10,h11]
theorem uN {ls:List Ln}(h:1<=ls.length/\ls.length<=300):isOk ls=(ls.all (bI ls.length)&&bZ ls):=by unfold isOk;rw[decide_eq_true h,Bool.true_and]
end Ln
theorem gN (a:Option Addr)(len cap:Nat)(ls:List Ln)(w:World)(hs:LL w a len ls):Calls Try.prog 32 #[.slice a len cap] w fun e w'=>(Ln.isOk ls=false/\e= .returned (.tuple #[.slice none 0 0, .bool false])\/Ln.isOk ls=true/\∃g c,e= .returned (.tuple #[.slice (some ⟨g,0,none⟩) len c, .bool true])/\SR w w' w.heap.size g len c ls)/\Below w.heap.size w w':=by
 have hl:=hs.1
 have hm:=hs.2.1
 unfold maxLen at hm
 have hcon:=aO (len:Int) 1 300 w
 by_cases hin:1<=len/\len<=300
 rotate_left
 · have e:Wd.aS (len:Int) 1 300=false:=by{unfold Wd.aS;simp;omega};have HN:Hid (Ln.isOk ls=false):=Ln.kr (by omega);rw[e]at hcon;clear e hs hl hin;go_enter Try.func32,Try.ntmps32;go_wp2_with(go_at_call 35;refine hcon.mono ?_;rintro e w' ⟨rfl,aF⟩;subst w';dsimp only);go_ret2;exact⟨.inl ⟨HN.out,rfl⟩,Below.refl _ _⟩
 have e:Wd.aS (len:Int) 1 300=true:=by unfold Wd.aS;simp;omega
 rw[e]at hcon
 clear e
 have AO:(1:Int)<=(len:Int):=by omega
 have BP:(len:Int)<=300:=by omega
 obtain⟨i0,hi,hz0,hz1,hz2⟩:=info_parts jf
 obtain⟨wm,hmk,hown,hgrow⟩:=run_make_own (P:=Try.prog) w w.heap.size 58 62 i0 _ 1 Try.underlying58 hi hz0 hz1 .i64 .i64 len (by rw[hz2];omega) (by simp only[maxLen];omega) (Nat.le_refl _)
 have HB0:=ae (dP hgrow)
 have vR:Hid (SR w wm w.heap.size w.heap.size 0 len (ls.take 0)):=⟨[],rfl,hown,fun j hj=>by omega⟩
 have HL:=ae hl
 obtain⟨R,hR⟩:∃R,Ln.isOk ls=R:=⟨_,rfl⟩
 have HR:Hid (R=(ls.all (Ln.bI len)&&Ln.bZ ls)):=by show _=_;rw[←hR,Ln.uN (by omega),hl]
 rw[hR]
 obtain⟨-,-,h0|⟨b,off,rfl,hb,hx⟩⟩:=hs
 · omega
 have HX:Hid (∀j,j<len->LC w b (off+j*6) (ls.getD j .z)):=hx
 clear hx hR hown hgrow hl hin
 go_enter Try.func32,Try.ntmps32
 go_wp2_with(go_at_call 35;refine hcon.mono ?_;rintro e w' ⟨rfl,aF⟩;subst w';dsimp only)
 go_loopw [5,18] (fun vs vi wr=>∃k g c:Nat,vs= .slice (some ⟨g,0,none⟩) k c/\vi= .int .i64 k/\k<=len/\Hid ((ls.take k).all (Ln.bI len)=true)/\SR w wr w.heap.size g k c (ls.take k)/\Below w.heap.size w wr) (fun _ i _=>len-(intOf i).toNat)
 case atStart=>exact⟨0,_,len,rfl,rfl,Nat.zero_le _,(by show _=_;simp),vR.out,HB0.out⟩
 case round=>
  obtain⟨k,g,c,rfl,rfl,hk,HA,ib,hB⟩:=hrel
  clear hcon hmk vR HB0
  by_cases hlt:k<len
  · have bL:(k:Int)<(len:Int):=by omega
    have hb':b<wr.heap.size:=aj hb hB.size
    have zV:=HX.out k hlt
    have hc:=zV.kept hb hB
    have ib:=ae ib
    obtain⟨x,lN⟩:∃x,ls.getD k .z=x:=⟨_,rfl⟩
    rw[lN]at hc zV
    have zW:=ae lN
    clear lN
    obtain⟨c0,c1,c2,c3,c4,la,ln,lc,c5,hil⟩:=hc
    have DL:Hid (IL w la ln x.l):=by obtain⟨-,-,-,-,-,la',Ct,xQ,DN,Bh⟩:=zV;have e:=(hB.cell (p:=⟨b,off+k*6+5,none⟩) hb).trans DN;rw[c5]at e;cases e;exact Bh
    have hB1:=az wr (.cells #[.int .i64 x.k, .int .i64 x.d, .int .i64 x.a, .int .i64 x.b, .int .i64 x.n, .slice la ln lc] 39)
    have hcon:=gG x la ln lc _ (hil.kept hB1)
    have hB2:=hB.trans (hB1.mono hB.size)
    clear hil zV
    rcases hok:Ln.ok x with _|_
    · rw[wS hok]at hcon;have HF:Hid (R=false):=by{show _=_;rw[HR.out,Ln.fE (by rw[HL.out];exact hlt) (by rw[zW.out];simp[Ln.bI,hok])];rfl};go_wp2_with fail;refine hcon.mono ?_;rintro e w2 ⟨rfl,hB3⟩;dsimp only;have hB4:=hB2.trans (hB3.mono hB2.size);clear hcon c0 c1 c2 c3 c4 c5 hB1 hB2 hB3;go_wp2;go_ret2;exact⟨.inl ⟨HF.out,rfl⟩,hB4⟩
    · have hkk:=Ln.bg hok
      have hpl:=fF x hkk.1 hkk.2 la ln lc (len:Int) (by omega) (by omega)
      obtain⟨T,u,Bi⟩:=qC hok la ln lc
      have esh:aK x (.slice la ln lc)= .iface T u:=by rw[←rX hok,Bi]
      have DR:=ae esh
      rw[Bi]at hcon
      simp only[esh]at hpl
      have hnil:=rJ T u
      have HO:=ae (Ln.nS (m:=len) hok)
      obtain⟨PL,Bj⟩:∃PL,Ln.place len x=PL:=⟨_,rfl⟩
      simp only[Bj]at hpl
      rw[Bj]at HO
      clear hok Bi esh Bj hkk
      cases PL with
      |false=>
       have HF:Hid (R=false):=by show _=_;rw[HR.out,Ln.fE (by rw[HL.out];exact hlt) (by rw[zW.out];exact HO.out)];rfl
       go_wp2_with fail
       refine hcon.mono ?_
       rintro e w2 ⟨rfl,hB3⟩
       dsimp only
       have hB4:=hB2.trans (hB3.mono hB2.size)
       have bf:=hpl w2
       clear hcon c0 c1 c2 c3 c4 c5 hB1 hB2 hB3 hpl
       go_wp2_with(go_at_call 41;refine bf.mono ?_;rintro e w3 ⟨rfl,dx⟩;dsimp only;have nC:=hB4.trans (dx.mono hB4.size);clear hB4 dx)
       go_ret2
       exact⟨.inl ⟨HF.out,rfl⟩,nC⟩
      |true=>
       have HF:Hid ((ls.take (k+1)).all (Ln.bI len)=true):=by show _=_;rw[Ln.iZ HA.out (by rw[HL.out];exact hlt),zW.out];exact HO.out
       go_wp2_with fail
       refine hcon.mono ?_
       rintro e w2 ⟨rfl,hB3⟩
       dsimp only
       have hB4:=hB2.trans (hB3.mono hB2.size)
       have xB:=hB1.trans (hB3.mono hB1.size)
       have bf:=hpl w2
       clear hcon c0 c1 c2 c3 c4 c5 hB1 hB2 hB3 hpl
       have xC:Hid ((ls.take k).length=k):=by show _=_;rw[List.length_take,HL.out];omega
       have Cu:=ae (Ln.qH (ls:=ls) (i:=k) (by rw[HL.out];exact hlt))
       rw[zW.out]at Cu
       have hg0:=ib.out.lt
       go_wp2_with(first
         |(go_at_call 41;refine bf.mono ?_;rintro e w3 ⟨rfl,dx⟩;dsimp only;have nC:=hB4.trans (dx.mono hB4.size);have zt:=xB.trans (dx.mono xB.size);have Cv:=ae (az w3 (.cells #[.iface T u] 62));have AR:=ae (nC.trans (Cv.out.mono nC.size));have DT:=ae ((ib.out.kept zt).kept Cv.out);have hc3:Hid ((w3.alloc (.cells #[.iface T u] 62)).cell? ⟨w3.heap.size,0,none⟩=some (.iface T u)):=(by show _=_;rw[World.cell?_alloc_at _ _ _ _ (by simp)];rfl);have xe:=nC.size;clear hB4 dx xB zt)
         |(at_builtin;refine qP _ w rfl _ _ rfl w.heap.size g k c (ls.take k) rfl DT.out xC.out w3.heap.size rfl x la ln lc T u DR.out hc3.out DL.out (by omega) (by simp;omega) ?_;intro g1 c1 N1 w4 hN1 ho1 bP;have qX:=ae (ak ho1 (aD AR.out bP hg0.1));clear ho1 bP))
       rw[Cu.out]at qX
       have hN:=hN1.out
       clear hN1
       subst hN
       go_roundw
       case rel=>exact⟨k+1,g1,c1,rfl,by simp,hlt,HF,qX.out.1,qX.out.2⟩
       case measure=>simp[intOf];omega
  · have hke:k=len:=by{omega};have zu:Hid (R= !Ln.behind (ls.getD (len-1) .z)):=by{show _=_;have:=HA.out;rw[hke,←HL.out,List.take_length]at this;rw[HR.out,←HL.out,this,Bool.true_and,Ln.l9]};have bL:¬(k:Int)<(len:Int):=by{omega};have u7:Hid (Ln.ok (ls.getD (len-1) .z)=true):=by{show _=_;have h2:=HA.out;rw[hke,←HL.out,List.take_length,List.all_eq_true]at h2;have h3:=h2 (ls.getD (len-1) .z) (by rw[ah,ai (by rw[HL.out];omega)];exact List.getElem_mem _);unfold Ln.bI at h3;rw[au]at h3;exact h3.1};rw[hke]at ib;have tq:=ib.cut (Nat.le_refl _);obtain⟨la,ln,lc,hc,hil⟩:=tq.cell (j:=len-1) (by omega);have DU:=ae tq;obtain⟨x,lN⟩:∃x,ls.getD (len-1) .z=x:=⟨_,rfl⟩;rw[lN]at hc hil zu u7;have hkk:=Ln.bg u7.out;have hcon:=dw x hkk.1 hkk.2 la ln lc wr;have hg:=tq.lt;subst hke;have Ez:(k:Int)-1=((k-1:Nat):Int):=by{omega};generalize aK x (.slice la ln lc)=sv at hc hcon;rcases vS:Ln.behind x with _|_;{rw[vS]at hcon zu;clear vS hkk hil lN ib tq HA u7;go_wp2_with(go_at_call 42;refine hcon.mono ?_;rintro e w5 ⟨rfl,dx⟩;dsimp only);go_ret2;exact⟨.inr ⟨zu.out,g,c,rfl,DU.out.kept dx⟩,hB.trans (dx.mono hB.size)⟩};rw[vS]at hcon zu;clear vS hkk hil lN ib tq HA u7;go_wp2_with(go_at_call 42;refine hcon.mono ?_;rintro e w5 ⟨rfl,dx⟩;dsimp only);go_ret2;exact⟨.inl ⟨zu.out,rfl⟩,hB.trans (dx.mono hB.size)⟩
theorem jO:(Try.prog.info? 48).map (fun i=>(i.zero,i.size,i.bytes))=some (some (.agg #[.slice none 0 0, .int .u64 0, .int .u64 0, .int .u64 0]),4,48):=by kernel_rfl
theorem sj {ops:Array Oper}{rest:List Oper}{o:Oper}{a:Act}{Q:Exit->Act->World->Prop}(W:World)(hgd:o.guard=none)(s x:Operand)(ho:o.op= .call {callee:= .builtin .append,args:=#[s,x],argTypes:=#[42,42]})(ls:List Ln)(f:List Nat)(n₀ g k c:Nat)(hs:a.eval s= .slice (some ⟨g,0,none⟩) k c)(hown:FR ls W n₀ g k c f)(sb:Nat)(hx:a.eval x= .slice (some ⟨sb,0,none⟩) 1 1)(gn n cn:Nat)(hcell:∀j u,[Value.slice (some ⟨gn,0,none⟩) n cn, .int .u64 ((Fl.um (ls.getD k .z):Nat):Int), .int .u64 ((Fl.sm (ls.getD k .z):Nat):Int), .int .u64 0][j]?=some u->W.cell? ⟨sb,j,none⟩=some u)(hon:OG W n₀ gn n cn (Fl.nx (ls.getD k .z) k))(hne:gn≠g)(hf:f.getD k 0=0)(hfit:k+1<=c)(h:∀W',FR ls W' n₀ g (k+1) c f->W.grownBy W' (some g)->wpList Try.prog ops Q rest (a.put o.dst (.slice (some ⟨g,0,none⟩) (k+1) c)) W'):wpList Try.prog ops Q (o::rest) a W:=by obtain⟨i0,hi,hz0,hz1,hz2⟩:=info_parts jO;obtain⟨vs,h1,h2,h3⟩:=hown;refine wpList_append_fits W hgd s x 42 ho n₀ 48 i0 4 Try.underlying42 hi hz1 g k c (fD vs) hs h2 ⟨sb,0,none⟩ 1 1 [Value.slice (some ⟨gn,0,none⟩) n cn, .int .u64 ((Fl.um (ls.getD k .z):Nat):Int), .int .u64 ((Fl.sm (ls.getD k .z):Nat):Int), .int .u64 0] hx rfl (fun j u hu=>?_) (by simp[Value.oneCell']) hfit (fun W' hown' hgrow=>?_);{(have hadd:(⟨sb,0,none⟩:Addr).add j=⟨sb,j,none⟩:=by unfold Addr.add;split<;>simp_all);rw[hadd];exact hcell j u hu};refine h W' ⟨vs++[(.slice (some ⟨gn,0,none⟩) n cn,Fl.um (ls.getD k .z),Fl.sm (ls.getD k .z),0)],by simp[h1],by rw[l5];exact hown',fun j hj=>?_⟩ hgrow;by_cases hjk:j<k;{obtain⟨DV,n',DW,e,ho',hne'⟩:=h3 j hjk;exact⟨DV,n',DW,by rw[ah,List.getElem?_append_left (by omega),←ah,e],ho'.cK hgrow hne',hne'⟩};have e:j=k:=by{omega};subst e;exact⟨gn,n,cn,by rw[ah,List.getElem?_append_right (by omega),h1,hf];simp,hon.cK hgrow hne,hne⟩
theorem SR.cK {w W W':World}{n₀ g k c b:Nat}{xs:List Ln}(h:SR w W n₀ g k c xs)(hg:W.grownBy W' (some b))(hne:g≠b):SR w W' n₀ g k c xs:=by obtain⟨bS,h1,h2,h3⟩:=h;refine⟨bS,h1,h2.kept hg (.inr ?_),h3⟩;simp only[Value.ownBlock,ne_eq,af];omega
theorem wP (W:World)(v0 v1 v2 v3:Value)(t:TypeId):∀j u,[v0,v1,v2,v3][j]?=some u->(W.alloc (.cells #[v0,v1,v2,v3] t)).cell? ⟨W.heap.size,j,none⟩=some u:=by intro j u hu;exact(show fA (W.alloc (.cells #[v0,v1,v2,v3] t)) W.heap.size t [v0,v1,v2,v3]from heap_alloc_last W _).cell hu
theorem gV (a:Option Addr)(len cap:Nat)(ls:List Ln)(w:World)(hs:LL w a len ls):Calls Try.prog 21 #[.slice a len cap] w fun e w'=>(Ln.isOk ls=false/\e= .returned (.slice none 0 0)\/Ln.isOk ls=true/\∃g c,e= .returned (.slice (some ⟨g,0,none⟩) len c)/\FR ls w' w.heap.size g ls.length c (Fl.live ls))/\Below w.heap.size w w':=by have hcon:=gN a len cap ls w hs;have HL:=ae hs.1;clear hs;go_enter Try.func21,Try.ntmps21;go_wp2_with fail;refine hcon.mono ?_;rintro e w2 ⟨⟨hR,rfl⟩|⟨hR,g1,c1,rfl,ib⟩,hB2⟩;{dsimp only;replace hR:=ae hR;clear hcon;go_wp2;go_ret;exact⟨.inl ⟨hR.out,rfl⟩,hB2⟩};dsimp only;have hlen:=Ln.aZ hR;rw[HL.out]at hlen;have iD:=ae hR;obtain⟨i0,hi,hz0,hz1,hz2⟩:=info_parts jO;obtain⟨wm,hmk,hown,hgrow⟩:=run_make_own (P:=Try.prog) w2 w.heap.size 42 48 i0 _ 4 Try.underlying42 hi hz0 hz1 .i64 .i64 len (by rw[hz2];omega) (by simp only[maxLen];omega) hB2.size;have hBm:=dP hgrow;have qo:(len:Int)<=300:=by{omega};have hl1:(1:Int)<=(len:Int):=by{omega};have HS:=ae (ib.kept hBm);have hsz:w2.heap.size<wm.heap.size:=by{have:=World.ownsRow.lt hown w2.heap.size rfl;exact this.2};have hB3:=hB2.trans (hBm.mono hB2.size);have Cw:Hid (FR ls wm w.heap.size w2.heap.size 0 len (List.replicate ls.length 0)):=⟨[],rfl,hown,fun j hj=>by omega⟩;have HB3:=ae hB3;have HZ:Hid (∀i,(List.replicate ls.length 0).getD i 0=0):=fun i=>by{rw[ah,List.getElem?_replicate];split<;>rfl};have hsw:=hB2.size;have hg1:=ib.lt;have HI0:=ae (ak (Fl.In.zero ls) (Fl.Sound.zero ls));generalize List.replicate ls.length 0=F0 at Cw HZ HI0;clear ib hB2 hown hgrow hBm hB3 hR hlen;go_wp2;go_loopg [5,20] len (fun gk vf vi wr=>∃k:Nat,gk=len-k/\k<=len/\vf= .slice (some ⟨w2.heap.size,0,none⟩) k len/\vi= .int .i64 (k:Int)/\FR ls wr w.heap.size w2.heap.size k len F0/\SR w wr w.heap.size g1 len c1 ls/\Below w.heap.size w wr);(case atStart=>exact⟨0,rfl,by omega,rfl,rfl,Cw.out,HS.out,HB3.out⟩);case round=>obtain⟨k,vP,hk,rfl,rfl,hfr,ib,hBw⟩:=hrel;by_cases hlt:k<len;{have bL:(k:Int)<(len:Int):=by{omega};obtain⟨la,ln,lc,hc,hil⟩:=ib.cell hlt;have zw:=Ln.dW iD.out (i:=k) (by rw[HL.out];exact hlt);have hcw:=fun W h=>iT (ls.getD k .z) zw la ln lc k (by omega) W h;have sP:=hil.kept hBw;have HX:=ae (ak hfr (ak ib hBw));have xD:=hcw wr sP;have hrz:=hfr.lt.2;have hwz:=hBw.size;generalize aK (ls.getD k .z) (.slice la ln lc)=sv at hc xD;clear hil sP hfr ib hBw hcw zw;go_wp2_with fail;refine xD.mono ?_;rintro e w4 ⟨gn,mn,cn,rfl,hon,hB4⟩;dsimp only;have hgn:=hon.lt;have zx:=hon.mono hwz;have hal:=az w4 (.cells #[.slice (some ⟨gn,0,none⟩) mn cn, .int .u64 ((Fl.um (ls.getD k .z):Nat):Int), .int .u64 ((Fl.sm (ls.getD k .z):Nat):Int), .int .u64 0] 48);have HY:=ae (ak ((HX.out.1.kept hB4).kept hal) (ak ((HX.out.2.1.kept hB4).kept hal) (ak ((HX.out.2.2.trans (hB4.mono hwz)).trans (hal.mono (Nat.le_trans hwz hB4.size))) (zx.kept hal))));have DX:=ae (wP w4 (.slice (some ⟨gn,0,none⟩) mn cn) (.int .u64 ((Fl.um (ls.getD k .z):Nat):Int)) (.int .u64 ((Fl.sm (ls.getD k .z):Nat):Int)) (.int .u64 0) 48);have hne:gn≠w2.heap.size:=by{omega};clear xD hon zx hal hB4 HX;go_wp2_with(at_builtin;refine sj _ rfl _ _ rfl ls F0 w.heap.size w2.heap.size k len rfl HY.out.1 w4.heap.size rfl gn mn cn DX.out HY.out.2.2.2 hne (HZ.out k) (by omega) ?_;intro w5 zy hgr5;have HW:=ae (ak zy (ak (HY.out.2.1.cK hgr5 (by omega)) (aD HY.out.2.2.1 hgr5 hsw)));clear zy hgr5);go_roundg (len-(k+1));(case measure=>omega);case rel=>exact⟨k+1,rfl,hlt,rfl,by simp,HW.out.1,HW.out.2.1,HW.out.2.2⟩};have hke:k=len:=by{omega};subst hke;have bL:¬(k:Int)<(k:Int):=by{omega};have HX:=ae hBw;have hcs:=gq ls iD.out F0 HI0.out.1 HI0.out.2 w.heap.size w2.heap.size k wr (by rw[HL.out];exact hfr);rw[HL.out]at hcs;clear hfr ib hBw;go_wp2_with(go_at_call 34;refine hcs.mono ?_;rintro e w6 ⟨rfl,zz,fZ⟩;dsimp only;have HF:=ae (ak zz (aD HX.out fZ hsw));clear zz fZ);go_ret;exact⟨.inr ⟨iD.out,w2.heap.size,k,rfl,by rw[HL.out];exact HF.out.1⟩,HF.out.2⟩
theorem mU (a:Option Addr)(len cap:Nat)(ls:List Ln)(p:Int)(w:World)(hs:LL w a len ls):Calls Try.prog 8 #[.slice a len cap, .int .i64 p] w fun e w'=>∃g m c,e= .returned (.slice (some ⟨g,0,none⟩) m c)/\OG w' w.heap.size g m c (Fl.bi ls p)/\Below w.heap.size w w':=by
 have hcon:=gV a len cap ls w hs
 have HL:=ae hs.1
 have no:∀(h:Fl.has ls p=false),Fl.bi ls p=[]:=fun h=>by unfold Fl.bi;rw[av (by rw[h];decide)]
 have NO:=ae no
 have HD:Hid (Fl.has ls p=(Ln.isOk ls&&decide (0<=p/\p<(ls.length:Int)))):=rfl
 clear hs no
 go_enter Try.func8,Try.ntmps8
 go_wp2_with fail
 refine hcon.mono ?_
 rintro e w2 ⟨⟨hR,rfl⟩|⟨hR,g,c,rfl,hfr⟩,hB2⟩
 · dsimp only;have hno:Hid (Fl.bi ls p=[]):=NO.out (by rw[HD.out,hR];rfl);have hh:=bF none 0 0 p (by omega) w2;have e0:decide (0<=p/\p<((0:Nat):Int))=false:=decide_eq_false (by omega);rw[e0]at hh;have ho:=OG.empty w2 w.heap.size hB2.size;have hBx:=hB2.trans ((az w2 (.cells #[] 2)).mono hB2.size);have HF:=ae (ak ho hBx);clear hcon hR e0 ho hBx hB2;go_wp2_with(go_at_call 22;refine hh.mono ?_;rintro e w4 ⟨rfl,hw4⟩;subst w4;dsimp only);go_ret;exact⟨_,0,0,rfl,by rw[hno.out];exact HF.out.1,HF.out.2⟩
 · dsimp only
   have hlen:=Ln.aZ hR
   have iD:=ae hR
   have hh:=bF (some ⟨g,0,none⟩) len c p (by have:=HL.out;omega) w2
   have qo:(len:Int)<=300:=by have:=HL.out;omega
   by_cases hp:0<=p/\p<(len:Int)
   · rw[decide_eq_true hp]at hh
     obtain⟨q,rfl⟩:=Int.eq_ofNat_of_zero_le hp.1
     have A7:(q:Int)<(len:Int):=hp.2
     have hq:q<ls.length:=by have:=HL.out;omega
     have HV:Hid (Fl.bi ls (q:Int)=Fl.uJ ((Fl.live ls).getD q 0)):=by show _=_;unfold Fl.bi;rw[ax (by rw[HD.out,iD.out,HL.out,decide_eq_true hp];rfl),ay]
     have u6:=ae (Fl.fO hR).lt
     have hlt:=hfr.lt
     have hcap:=hfr.cap
     rw[HL.out]at hcap
     obtain⟨_,_,_,-,-,-,d3,-,-⟩:=hfr.cells hq
     have hbx:=jc ((Fl.live ls).getD q 0) (u6.out q) w2
     have HB:=ae hB2
     generalize(Fl.live ls).getD q 0=z at d3 hbx HV
     clear hcon hR hB2 hfr hp hlen
     go_wp2_with(first
       |(go_at_call 22;refine hh.mono ?_;rintro e w4 ⟨rfl,hw4⟩;subst w4;dsimp only)
       |(go_at_call 23;refine hbx.mono ?_;rintro e w5 ⟨g5,m5,c5,rfl,jq,dx⟩;dsimp only;have HF:=ae (ak (jq.mono HB.out.size) (HB.out.trans (dx.mono HB.out.size)));clear jq dx))
     go_ret
     exact⟨g5,m5,c5,rfl,by rw[HV.out];exact HF.out.1,HF.out.2⟩
   · rw[decide_eq_false hp]at hh;have hno:Hid (Fl.bi ls p=[]):=NO.out (by rw[HD.out,HL.out,decide_eq_false hp,Bool.and_false]);have ho:=OG.empty w2 w.heap.size hB2.size;have hBx:=hB2.trans ((az w2 (.cells #[] 2)).mono hB2.size);have HF:=ae (ak ho hBx);clear hcon hR ho hBx hB2 hfr hp hlen;go_wp2_with(go_at_call 22;refine hh.mono ?_;rintro e w4 ⟨rfl,hw4⟩;subst w4;dsimp only);go_ret;exact⟨_,0,0,rfl,by rw[hno.out];exact HF.out.1,HF.out.2⟩
theorem jW (a:Option Addr)(len cap:Nat)(ls:List Ln)(p:Int)(w:World)(hs:LL w a len ls):Calls Try.prog 15 #[.slice a len cap, .int .i64 p] w fun e w'=>∃g m c,e= .returned (.slice (some ⟨g,0,none⟩) m c)/\OG w' w.heap.size g m c (Fl.aU ls p)/\Below w.heap.size w w':=by
 have hcon:=gV a len cap ls w hs
 have HL:=ae hs.1
 have no:∀(h:Fl.has ls p=false),Fl.aU ls p=[]:=fun h=>by unfold Fl.aU;rw[av (by rw[h];decide)]
 have NO:=ae no
 have HD:Hid (Fl.has ls p=(Ln.isOk ls&&decide (0<=p/\p<(ls.length:Int)))):=rfl
 clear hs no
 go_enter Try.func15,Try.ntmps15
 go_wp2_with fail
 refine hcon.mono ?_
 rintro e w2 ⟨⟨hR,rfl⟩|⟨hR,g,c,rfl,hfr⟩,hB2⟩
 · dsimp only;have hno:Hid (Fl.aU ls p=[]):=NO.out (by rw[HD.out,hR];rfl);have hh:=bF none 0 0 p (by omega) w2;have e0:decide (0<=p/\p<((0:Nat):Int))=false:=decide_eq_false (by omega);rw[e0]at hh;have ho:=OG.empty w2 w.heap.size hB2.size;have hBx:=hB2.trans ((az w2 (.cells #[] 2)).mono hB2.size);have HF:=ae (ak ho hBx);clear hcon hR e0 ho hBx hB2;go_wp2_with(go_at_call 22;refine hh.mono ?_;rintro e w4 ⟨rfl,hw4⟩;subst w4;dsimp only);go_ret;exact⟨_,0,0,rfl,by rw[hno.out];exact HF.out.1,HF.out.2⟩
 · dsimp only
   have hlen:=Ln.aZ hR
   have iD:=ae hR
   have hh:=bF (some ⟨g,0,none⟩) len c p (by have:=HL.out;omega) w2
   have qo:(len:Int)<=300:=by have:=HL.out;omega
   by_cases hp:0<=p/\p<(len:Int)
   · rw[decide_eq_true hp]at hh
     obtain⟨q,rfl⟩:=Int.eq_ofNat_of_zero_le hp.1
     have A7:(q:Int)<(len:Int):=hp.2
     have hq:q<ls.length:=by have:=HL.out;omega
     have HV:Hid (Fl.aU ls (q:Int)=Fl.uJ (Fl.ou ls (Fl.live ls) q)):=by show _=_;unfold Fl.aU;rw[ax (by rw[HD.out,iD.out,HL.out,decide_eq_true hp];rfl),ay]
     have u6:=ae (Fl.fO hR).lt
     have hlt:=hfr.lt
     have hcap:=hfr.cap
     rw[HL.out]at hcap
     have vS:=dn ls hR q hq (Fl.live ls) u6.out w.heap.size g c w2 hfr
     rw[HL.out]at vS
     have hz:Fl.ou ls (Fl.live ls) q<2 ^ 40:=Fl.iG u6.out _
     have hbx:=jc (Fl.ou ls (Fl.live ls) q) hz w2
     have HB:=ae hB2
     generalize Fl.ou ls (Fl.live ls) q=z at vS hbx HV
     clear hcon hR hB2 hfr hp hlen hz
     go_wp2_with(first
       |(go_at_call 22;refine hh.mono ?_;rintro e w4 ⟨rfl,hw4⟩;subst w4;dsimp only)
       |(go_at_call 26;refine vS.mono ?_;rintro e w4 ⟨rfl,hw4⟩;subst w4;dsimp only)
       |(go_at_call 23;refine hbx.mono ?_;rintro e w5 ⟨g5,m5,c5,rfl,jq,dx⟩;dsimp only;have HF:=ae (ak (jq.mono HB.out.size) (HB.out.trans (dx.mono HB.out.size)));clear jq dx))
     go_ret
     exact⟨g5,m5,c5,rfl,by rw[HV.out];exact HF.out.1,HF.out.2⟩
   · rw[decide_eq_false hp]at hh;have hno:Hid (Fl.aU ls p=[]):=NO.out (by rw[HD.out,HL.out,decide_eq_false hp,Bool.and_false]);have ho:=OG.empty w2 w.heap.size hB2.size;have hBx:=hB2.trans ((az w2 (.cells #[] 2)).mono hB2.size);have HF:=ae (ak ho hBx);clear hcon hR ho hBx hB2 hfr hp hlen;go_wp2_with(go_at_call 22;refine hh.mono ?_;rintro e w4 ⟨rfl,hw4⟩;subst w4;dsimp only);go_ret;exact⟨_,0,0,rfl,by rw[hno.out];exact HF.out.1,HF.out.2⟩
def ry (W:World)(b:Nat)(v0 v1 v2 v3:Value):Prop:=
 b<W.heap.size/\W.cell? ⟨b,0,none⟩=some v0/\W.cell? ⟨b,1,none⟩=some v1/\W.cell? ⟨b,2,none⟩=some v2/\W.cell? ⟨b,3,none⟩=some v3/\W.frozen? ⟨b,0,none⟩=false/\W.frozen? ⟨b,1,none⟩=false/\W.frozen? ⟨b,2,none⟩=false/\W.frozen? ⟨b,3,none⟩=false
theorem ry.kept {W W':World}{b:Nat}{v0 v1 v2 v3:Value}(h:ry W b v0 v1 v2 v3)(hB:Below W.heap.size W W'):ry W' b v0 v1 v2 v3:=by obtain⟨h0,h1,h2,h3,h4,h5,h6,h7,h8⟩:=h;exact⟨aj h0 hB.size,(hB.cell h0).trans h1,(hB.cell h0).trans h2,(hB.cell h0).trans h3,(hB.cell h0).trans h4,(hB.frozen h0).trans h5,(hB.frozen h0).trans h6,(hB.frozen h0).trans h7,(hB.frozen h0).trans h8⟩
theorem ry.new (W:World)(v0 v1 v2 v3:Value)(t:TypeId):ry (W.alloc (.cells #[v0,v1,v2,v3] t)) W.heap.size v0 v1 v2 v3:=by refine⟨by simp,?_,?_,?_,?_,?_,?_,?_,?_⟩<;>go_simp
def rW (W:World)(b:Nat)(v0 v1:Value):Prop:=
 b<W.heap.size/\W.cell? ⟨b,0,none⟩=some v0/\W.cell? ⟨b,1,none⟩=some v1/\W.frozen? ⟨b,0,none⟩=false/\W.frozen? ⟨b,1,none⟩=false
theorem rW.kept {W W':World}{b:Nat}{v0 v1:Value}(h:rW W b v0 v1)(hB:Below W.heap.size W W'):rW W' b v0 v1:=by obtain⟨h0,h1,h2,h5,h6⟩:=h;exact⟨aj h0 hB.size,(hB.cell h0).trans h1,(hB.cell h0).trans h2,(hB.frozen h0).trans h5,(hB.frozen h0).trans h6⟩
theorem rW.new (W:World)(v0 v1:Value)(t:TypeId):rW (W.alloc (.cells #[v0,v1] t)) W.heap.size v0 v1:=by refine⟨by simp,?_,?_,?_,?_⟩<;>go_simp
namespace Hg
def Lv:Int->List qV->Prop
 |_,[]=>True
 |h,x::S=>(0<=h->0<=x.st)/\x.cm=decide (0<=x.st)/\Lv x.st S
theorem Lv.mono {h h':Int}{S:List qV}(H:Lv h S)(hh:0<=h'->0<=h):Lv h' S:=by
 cases S with
 |nil=>trivial
 |cons x S=>exact⟨fun e=>H.1 (hh e),H.2⟩
end Hg
end Go.Proofs.Ytghjooipkofodab
