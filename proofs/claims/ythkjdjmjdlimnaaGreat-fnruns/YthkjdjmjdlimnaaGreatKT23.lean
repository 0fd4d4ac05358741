/-
  Own texts for a law: Hgt3 Hgt4 Phi4
-/
import Derived.Test.YthkjdjmjdlimnaaGreatKT18
import Derived.Test.YthkjdjmjdlimnaaGreatKT19
import Derived.Test.YthkjdjmjdlimnaaGreatKT20
import Derived.Test.YthkjdjmjdlimnaaGreatKT21
import Derived.Test.YthkjdjmjdlimnaaGreatKT22
namespace Go.Proofs.YthkjdjmjdlimnaaGreat
open Go.RowKit Go.Shelf
set_option linter.all false
set_option maxRecDepth 100000
set_option maxHeartbeats 16000000
theorem Y5 {fs:List Fn}{d:ByteArray}{fa fl fg:Int}{fb:List (Int×Int)}{w w3 wr:World}{b off len cap bl cO gO i g1 EH g2 c2:Nat}{ba:Option Addr}{h mo p q:Int}{x:gJ}{S':List gJ}{out:List Int}{nO:Nat}{bc:Nat}(hs:FL w (some ⟨b,off,none⟩) len fs)(eZ:Below w.heap.size w w3)(m0:w.heap.size<w3.heap.size)(m1:w3.cell? ⟨w.heap.size,0,none⟩=some (.slice (some ⟨b,off,none⟩) len cap))(m2:w3.cell? ⟨w.heap.size,1,none⟩=some (.string d))(n0:w.heap.size+1<w3.heap.size)(n1:w3.cell? ⟨w.heap.size+1,0,none⟩=some (.int .i64 fa))(n2:w3.cell? ⟨w.heap.size+1,1,none⟩=some (.int .i64 fl))(n3:w3.cell? ⟨w.heap.size+1,2,none⟩=some (.int .i64 fg))(n4:w3.cell? ⟨w.heap.size+1,3,none⟩=some (.slice ba bl bc))(kJ:bl<=80)(sw:fb.length=bl)(j5:SL w3 ba bl fb)(HO:Hid (OI w3 nO (.slice (some ⟨gO,0,none⟩) bl cO) (aQ.bH fb)))(ku:Hid (Md.dz fs=true/\aQ.isOk fb=true))(pu:0<=fa/\fa<=3)(pE:0<=fl/\fl<=3)(pF:0<=fg/\fg<=1)(hlt:i<bl)(bq:Hid (HI fs ⟨fa,fl,fg,fb⟩ (aQ.bH fb) w3 i h mo (x::S') out g1 EH g2 c2 wr))(HST:Hid (fb.getD i (0,0)=(p,q)/\St.ok p q=true)):xg fs fa fl fg fb w w3 wr bl cO gO i g1 EH g2 c2 h mo x S' out:=by have hp:=St.gD HST.out.2;by_cases hk:p≠2/\p≠3/\p≠4/\p≠8/\p≠9/\p≠10/\p≠11/\p≠12/\p≠13/\p≠14/\p≠15/\p≠16/\p≠19;{exact YY hs eZ m0 m1 m2 n0 n1 n2 n3 n4 kJ sw j5 HO ku pu pE pF hlt bq HST (ae (.inl hk))};have hk:(p=2\/p=3\/p=4)\/p=19\/p=15\/p=13\/p=14\/p=16\/p=8\/p=9\/p=10\/p=11\/p=12:=by{omega};rcases hk with hk|hk|hk|hk|hk|hk|hk|hk|hk|hk|hk;{exact YY hs eZ m0 m1 m2 n0 n1 n2 n3 n4 kJ sw j5 HO ku pu pE pF hlt bq HST (ae (.inr (.inl hk)))};{exact YY hs eZ m0 m1 m2 n0 n1 n2 n3 n4 kJ sw j5 HO ku pu pE pF hlt bq HST (ae (.inr (.inr (.inl hk))))};{exact YY hs eZ m0 m1 m2 n0 n1 n2 n3 n4 kJ sw j5 HO ku pu pE pF hlt bq HST (ae (.inr (.inr (.inr (hk)))))};{exact ab9 hs eZ m0 m1 m2 n0 n1 n2 n3 n4 kJ sw j5 HO ku pu pE pF hlt bq HST (ae (.inl hk))};{exact ab9 hs eZ m0 m1 m2 n0 n1 n2 n3 n4 kJ sw j5 HO ku pu pE pF hlt bq HST (ae (.inr (.inl hk)))};{exact ab9 hs eZ m0 m1 m2 n0 n1 n2 n3 n4 kJ sw j5 HO ku pu pE pF hlt bq HST (ae (.inr (.inr (hk))))};{exact ag3 hs eZ m0 m1 m2 n0 n1 n2 n3 n4 kJ sw j5 HO ku pu pE pF hlt bq HST (ae (.inl hk))};{exact ag3 hs eZ m0 m1 m2 n0 n1 n2 n3 n4 kJ sw j5 HO ku pu pE pF hlt bq HST (ae (.inr (hk)))};{exact alS hs eZ m0 m1 m2 n0 n1 n2 n3 n4 kJ sw j5 HO ku pu pE pF hlt bq HST (ae (hk))};{exact ahl hs eZ m0 m1 m2 n0 n1 n2 n3 n4 kJ sw j5 HO ku pu pE pF hlt bq HST (ae (.inl hk))};exact ahl hs eZ m0 m1 m2 n0 n1 n2 n3 n4 kJ sw j5 HO ku pu pE pF hlt bq HST (ae (.inr (hk)))
theorem lL (a:Option Addr)(len cap:Nat)(fs:List Fn)(d:ByteArray)(k:Nat)(hk:k<len)(hok:Md.ok fs d=true)(w:World)(hs:FL w a len fs):Calls Tryz.prog 57 #[.agg #[.slice a len cap, .string d], .int .i64 k] w fun e w'=>∃v mo,e= .returned (.tuple #[v, .int .i64 mo, .bool (Hg.kD fs (fs.getD k .z)).isSome])/\(∀out m',Hg.kD fs (fs.getD k .z)=some (out,m')->OI w' w.heap.size v out/\mo=m')/\Below w.heap.size w w':=by obtain⟨i0,hi,hz0,hz1,hz2⟩:=info_parts lh;obtain⟨j0,hj,hy0,hy1,hy2⟩:=info_parts bT;have hfl:=hs.1;have U1:Md.dz fs=true:=by{rw[Md.ok,au]at hok;exact hok.2};have hfo:Md.qZ (fs.getD k .z)=true:=by{rw[Md.ok,au]at hok;exact Md.bA hok.2 (by omega)};obtain⟨-,-,h0|⟨b,off,rfl,hb,hx⟩⟩:=id hs;{omega};obtain⟨x0,x1,x2,ba,bl,bc,x3,hsl⟩:=hx k hk;obtain⟨⟨fa,fl,fg,fb⟩,hf⟩:∃x,fs.getD k .z=x:=⟨_,rfl⟩;rw[hf]at x0 x1 x2 hsl hfo ⊢;simp only at x0 x1 x2 hsl;have hB1:=aB w (.cells #[.slice (some ⟨b,off,none⟩) len cap, .string d] 26);have y0:=(hB1.cell (p:=⟨b,off+k*4,none⟩) hb).trans x0;have y1:=(hB1.cell (p:=⟨b,off+k*4+1,none⟩) hb).trans x1;have y2:=(hB1.cell (p:=⟨b,off+k*4+2,none⟩) hb).trans x2;have y3:=(hB1.cell (p:=⟨b,off+k*4+3,none⟩) hb).trans x3;clear x0 x1 x2 x3 hx;go_enter Tryz.func57,Tryz.ntmps57;have hB2:=hB1.trans ((aB _ (.cells #[.int .i64 fa, .int .i64 fl, .int .i64 fg, .slice ba bl bc] 93)).mono hB1.size);have hbl:bl<=80/\St.dz fb=true:=by{simp only[Md.qZ,au,decide_eq_true_eq]at hfo;have:=hsl.1;exact⟨by omega,hfo.2.2.2.2⟩};have hcon:=o8 ba bl bc fb (by omega) _ (hsl.kept hB2);go_wp2_with fail;refine hcon.mono ?_;rintro e w3 ⟨gE,cE,gO,cO,rfl,hr,hB3⟩;clear hcon;have eZ:=hB2.trans (hB3.mono hB2.size);rcases mg:aQ.isOk fb with _|_;{have hres:Hg.kD fs ⟨fa,fl,fg,fb⟩=none:=by{unfold Hg.kD;rw[ax (by simp[mg])]};rw[mg]at hr;have HR:=ae hres;clear hr mg hres;go_wp2;go_ret3;rw[HR.out];exact⟨_,0,rfl,(fun _ _ h=>by cases h),eZ.alloc eZ.size _⟩};rw[mg]at hr;obtain⟨hoE,hoO⟩:=hr rfl;clear hr;have bxF:=(Pt.new (w.alloc (.cells #[.slice (some ⟨b,off,none⟩) len cap, .string d] 26)) (.int .i64 fa) (.int .i64 fl) (.int .i64 fg) (.slice ba bl bc) 93).kept hB3;have bxM:=((PQ.new w (.slice (some ⟨b,off,none⟩) len cap) (.string d) 26).kept (aB _ (.cells #[.int .i64 fa, .int .i64 fl, .int .i64 fg, .slice ba bl bc] 93))).kept hB3;simp only[World.size_alloc]at bxF;obtain⟨m0,m1,m2,-,-⟩:=id bxM;obtain⟨n0,n1,n2,n3,n4,-,-,-,-⟩:=id bxF;clear y0 y1 y2 y3 hB1 hB2;have j5:=hsl.kept eZ;have sw:=hsl.1;have NH:0<=fg/\fg<=1:=by{simp only[Md.qZ,au]at hfo;exact Wd.bi.1 hfo.2.2.1};have hi0:HI fs ⟨fa,fl,fg,fb⟩ (aQ.bH fb) w3 0 0 fg [⟨0,fg,true⟩] [] w3.heap.size 0 (w3.heap.size+1) 1 ((w3.alloc (.cells #[] 2)).alloc (.cells #[.int .i64 0, .int .i64 fg, .int .i64 fg, .bool true, .bool false] 144)):=by{refine⟨World.ownsRow.alloc (OI.empty w3) _,?_,(Below.refl _ w3 |>.alloc (Nat.le_refl _) _).alloc (by simp) _,rfl,fun _=>rfl,by omega,by omega,?_,⟨id,rfl,trivial⟩⟩;{have h:=Qc (w3.alloc (.cells #[] 2)) (.int .i64 0) (.int .i64 fg) (.int .i64 fg) (.bool true) (.bool false) 144;have e:(w3.alloc (.cells #[] 2)).heap.size=w3.heap.size+1:=by{simp};rw[e]at h;refine⟨h.1,?_⟩;rcases h.2 with h'|⟨g',cap',cur,h',hb,r⟩;{exact .inl h'};exact .inr ⟨g',cap',cur,h',by omega,r⟩};intro x hx;simp only[List.mem_singleton]at hx;subst hx;simp only;omega};have HI0:=ae hi0;have HO:=ae hoO;have ku:=ae (ak hfo mg);clear hi0 hoE hoO hfo mg;go_wp2;go_loopg [11,12,13,14,15] bl (fun gk v u hv mv iv' wr=>∃(i:Nat)(h mo:Int)(S:List gJ)(out:List Int)(g1 c1 g2 c2:Nat),gk=bl-i/\i<=bl/\iv'= .int .i64 i/\hv= .int .i64 h/\mv= .int .i64 mo/\v= .slice (some ⟨g1,0,none⟩) i c1/\u= .slice (some ⟨g2,0,none⟩) S.length c2/\HI fs ⟨fa,fl,fg,fb⟩ (aQ.bH fb) w3 i h mo S out g1 c1 g2 c2 wr);(case atStart=>exact⟨0,0,fg,_,_,_,_,_,_,rfl,Nat.zero_le _,rfl,rfl,rfl,rfl,rfl,HI0.out⟩);case round=>obtain⟨i,h,mo,S,out,g1,c1,g2,c2,rfl,hib,rfl,rfl,rfl,rfl,rfl,hin⟩:=hrel;clear HI0;by_cases hlt:i<bl;{have hkx:i<fb.length:=by{rw[sw];exact hlt};obtain⟨⟨p,q⟩,hpq⟩:∃x,fb.getD i (0,0)=x:=⟨_,rfl⟩;have xB:St.ok p q=true:=by{have h:=St.bA hbl.2 hkx;rw[hpq]at h;exact h};obtain⟨x,S',rfl⟩:∃x S',S=x::S':=by{rcases S with _|⟨x,S'⟩;{have:=hin.dep hkx;simp at this};exact⟨x,S',rfl⟩};have Z7:=vI ku.out.1;simp only at Z7;refine Y5 hs eZ m0 m1 m2 n0 n1 n2 n3 n4 hbl.1 sw j5 HO (ae (ak U1 ku.out.2)) Z7.1 Z7.2.1 Z7.2.2 hlt (ae hin) (ae (ak hpq xB)) _ _ _ _ _ _ _ _ _ _ _ _ _ _ _ _ _ _ _ _ _ _ _ _ _ _ _ _ _ _ _ _ _ _ _ _ _ _ _ _ _ _ _ _ _ _ _ _ _ _ _ _ _ _ _ _ _ _ _ _ _ _ _ _ _ _ _ _ _ _ _ _ _ _ _ _ _ _ _ _ _ _ _ _ _ _ _ _ _ _ _ _ _ _ _ _ _ _ _ _ _ _ _ _ _ _ _ _ _ _ _ _ _ _ _ _ _ _ _ _ _ _ _ _ _ _ _ _ _ _ _ _ _ _ _ _ _ _ _ _ _ _ _ _ _ _ _ _ _ _ _ _ _ _ _ _ _ _ _ _ _ _ _ _ _ _ _ _ _ _ _ _ _ _ _ _ _ _ _ _ _ _ _ _ _ _ _ _ _ _ _ _ _ _ _ _ _ _ _ _ _ _ _ _ _ _ _ _ _ _ _ _ _ _ _ _ _ _ _ _ _ _ _ _ _ _ _ _ _ _ _ _ _ _ _ _ _ _ _ _ _ _ _ _ _ _ _ _ _ _ _ _ _ _ _ _ _ _ _ _ _ _ _ _ _ _ _ _ _ _ _ _ _ _ _ _ _ _ _ _ _ _ _ _ _ _ (ae ?_);intro h' jI S2 g1' c1' g2' c2' v4 v5 v6 v16 v17 v18 v19 v20 v21 v22 v23 v24 v49 v50 v51 v52 v53 v54 v55 v56 v57 v58 v59 v60 v61 v62 v63 v64 v65 v66 v67 v68 v69 v70 v71 v72 v73 v74 v75 v76 v77 v78 v79 v80 v81 v82 v83 v84 v85 v86 v87 UL v89 UM v91 UN v93 UO UQ UR UT UU UW xC xD xE xG xH v105 xI v107 xJ v109 xK xL xM xN xO xP xQ v117 xR xS xU xV xW xX v124 xY xZ v127 yf yg v130 v131 yh yj yl yt yu yw v138 v139 yx v141 yz v143 yA v145 v146 yB v148 yC yD yE v152 yF v154 yG yH v157 yI v159 v160 yJ v162 yK v164 yL yM v167 v168 yN yO v171 yP v173 yQ v175 yR yS yT yU yV yX v182 v183 yY yZ y7 y9 ze zf zg zh zi v193 v194 zk v196 zm v198 zn zo v201 zq v203 zt zu v206 zw v208 zx v210 zy v212 zA zB zC zD zF v218 zG zH zI v222 zJ zK zL v226 v227 v228 v229 zM zN v232 v233 v234 zO v236 zP zQ zR zS zT zU zV zW zX zY zZ Kr Kt Ku Kv Kw Ky Kz KA KC KD KE KF KG KH KI KJ KM KN KO KP KQ KR KS KT KU KV KW KX KY KZ La Lc Ld Le Lf wF hfin;rename_i JJ KK aJ aK;refine aK _ _ ?_;go_roundg (bl-(i+1));(case measure=>omega);case rel=>exact⟨i+1,h',jI,S2,_,g1',c1',g2',c2',rfl,by omega,by simp,rfl,rfl,rfl,rfl,hfin⟩};have amU:i=bl:=by{omega};subst amU;have hall:Hg.all fs ⟨fa,fl,fg,fb⟩=some (out,mo):=by{rw[hin.eq];simp only[sw,Nat.sub_self];rfl};have hres:=Hg.Ry (fs:=fs) (f:=⟨fa,fl,fg,fb⟩) ku.out.2 hall;have hout:=hin.rl;have hBr:=hin.fP;have r3:=(hBr.cell (p:=⟨w.heap.size+1,3,none⟩) n0).trans n4;have hlF:w.heap.size+1<wr.heap.size:=aj n0 hBr.size;have hl:out.length=i:=by{have:=hout.1;simpa using this};have hmb:=hin.mb;have hi0:0<i:=by{rcases Nat.eq_zero_or_pos i with h0|h0;{exfalso;have h1:=ku.out.2;have h2:fb=[]:=List.eq_nil_of_length_eq_zero (by omega);rw[h2]at h1;revert h1;decide};exact h0};have hoi:OI wr w.heap.size (.slice (some ⟨g1,0,none⟩) i c1) out:=OI.mono (by unfold OI;rw[hl];exact hout) eZ.size;have aiL:=ae hres;have ZV:=ae hoi;have HB:=ae (eZ.trans (hBr.mono eZ.size));clear hres hout hBr hl hall hin hoi;by_cases hmo:mo<=20;{go_wp2;go_ret3;rw[aiL.out,az hmo];exact⟨_,mo,rfl,(fun o m' h=>by simp only[af,Prod.mk.injEq]at h;obtain⟨rfl,rfl⟩:=h;exact⟨ZV.out,rfl⟩),HB.out⟩};go_wp2;go_ret3;rw[aiL.out,ax (by omega)];exact⟨_,mo,rfl,(fun o m' h=>by cases h),HB.out⟩
namespace Hg
def has (fs:List Fn)(d:ByteArray)(k:Int):Bool:=Md.ok fs d&&(decide (0<=k)&&decide (k<fs.length))
def jK (fs:List Fn)(d:ByteArray)(k:Int):List Int:=((jO fs d k).map (·.1)).getD []
def acc (fs:List Fn)(d:ByteArray)(k:Int):Bool:=(jO fs d k).isSome
theorem Ee {fs:List Fn}{d:ByteArray}{k:Int}:has fs d k=true↔(Md.ok fs d=true/\0<=k/\k<fs.length):=by simp[has,au]
theorem Nl {fs:List Fn}{d:ByteArray}{k:Int}(h:has fs d k=false):jO fs d k=none:=by unfold jO;rw[ax];intro q;rw[Ee.2 q]at h;cases h
theorem Jp {fs:List Fn}{d:ByteArray}{k:Int}(h:has fs d k=true):jO fs d k=kD fs (fs.getD k.toNat .z):=az (Ee.1 h)
end Hg
theorem Mx (a:Option Addr)(len cap:Nat)(fs:List Fn)(d:ByteArray)(k:Int)(hd:d.size<=maxLen)(w:World)(hs:FL w a len fs):Calls Tryz.prog 117 #[.agg #[.slice a len cap, .string d], .int .i64 k] w fun e w'=>e= .returned (.bool (Hg.has fs d k))/\Below w.heap.size w w':=by have hl:=hs.1;have hm:=hs.2.1;unfold maxLen at hm;have hB1:=aB w (.cells #[.slice a len cap, .string d] 26);have hcon:=qo a len cap fs d hd _ (hs.kept hB1);have HL:=ae hl;clear hl hs;go_enter Tryz.func117,Tryz.ntmps117;go_wp2_with fail;refine hcon.mono ?_;rintro e w1 ⟨rfl,hB2⟩;clear hcon;obtain⟨c0,c1,hlt⟩:=DX hB2;have hB3:=hB1.trans (hB2.mono hB1.size);clear hB1 hB2;rcases hok:Md.ok fs d with _|_;{go_wp2;go_ret;exact⟨dE (by rw[Hg.has,hok];rfl),hB3⟩};by_cases h0:0<=k;{go_wp2;go_ret;exact⟨dE (by rw[Hg.has,hok,HL.out];simp[h0]),hB3⟩};go_wp2;go_ret;exact⟨dE (by rw[Hg.has,hok,HL.out];simp;omega),hB3⟩
theorem Db (a:Option Addr)(len cap:Nat)(fs:List Fn)(d:ByteArray)(k:Int)(hd:d.size<=maxLen)(w:World)(hs:FL w a len fs):Calls Tryz.prog 94 #[.agg #[.slice a len cap, .string d], .int .i64 k] w fun e w'=>∃v,e= .returned (.tuple #[v, .bool (Hg.acc fs d k)])/\OI w' w.heap.size v (Hg.jK fs d k)/\Below w.heap.size w w':=by have hl:=hs.1;have hB1:=aB w (.cells #[.slice a len cap, .string d] 26);have hcon:=Mx a len cap fs d k hd _ (hs.kept hB1);go_enter Tryz.func94,Tryz.ntmps94;go_wp2_with fail;refine hcon.mono ?_;rintro e w1 ⟨rfl,hB2⟩;clear hcon;obtain⟨c0,c1,hlt⟩:=DX hB2;have hB3:=hB1.trans (hB2.mono hB1.size);clear hB2;rcases hh:Hg.has fs d k with _|_;{have he:=Hg.Nl hh;have HE:=ae (ak (show Hg.acc fs d k=false by rw[Hg.acc,he];rfl) (show Hg.jK fs d k=[]by rw[Hg.jK,he];rfl));clear he hh;go_wp2;go_ret2;rw[HE.out.1,HE.out.2];exact⟨_,rfl,OI.mono (OI.empty w1) hB3.size,hB3.alloc hB3.size _⟩};have he:=Hg.Jp hh;have hi:=Hg.Ee.1 hh;obtain⟨j,rfl⟩:∃j:Nat,k=j:=⟨k.toNat,by omega⟩;rw[aA]at he;have hj:j<len:=by{omega};have hcon:=lL a len cap fs d j hj hi.1 _ (hs.kept hB3);have HE:=ae (ak (show Hg.acc fs d (j:Int)=(Hg.kD fs (fs.getD j .z)).isSome by rw[Hg.acc,he]) (show Hg.jK fs d (j:Int)=((Hg.kD fs (fs.getD j .z)).map (·.1)).getD []by rw[Hg.jK,he]));clear he hh hi hl;go_wp2_with fail;refine hcon.mono ?_;rintro e w2 ⟨v,mo,rfl,hres,hB4⟩;clear hcon;have eX:=hB3.trans (hB4.mono hB3.size);rcases hr:Hg.kD fs (fs.getD j .z)with _|⟨out,m'⟩;{rw[hr]at HE;simp only[Option.isSome_none,Option.map_none,Option.getD_none]at HE ⊢;clear hres hr;go_wp2;go_ret2;rw[HE.out.1,HE.out.2];exact⟨_,rfl,OI.mono (OI.empty w2) eX.size,eX.alloc eX.size _⟩};rw[hr]at HE;obtain⟨ho,rfl⟩:=hres out m' hr;simp only[Option.isSome_some,Option.map_some,Option.getD_some]at HE ⊢;clear hres hr;have HO:=ae ho;clear ho;go_wp2;go_ret2;rw[HE.out.1,HE.out.2];exact⟨_,rfl,OI.mono HO.out hB3.size,eX⟩
theorem Dq (a:Option Addr)(len cap:Nat)(fs:List Fn)(d:ByteArray)(k:Int)(hd:d.size<=maxLen)(w:World)(hs:FL w a len fs):Calls Tryz.prog 60 #[.agg #[.slice a len cap, .string d], .int .i64 k] w fun e w'=>e= .returned (.bool (Hg.acc fs d k))/\Below w.heap.size w w':=by have hB1:=aB w (.cells #[.slice a len cap, .string d] 26);have hcon:=Db a len cap fs d k hd _ (hs.kept hB1);clear hs;go_enter Tryz.func60,Tryz.ntmps60;go_wp2_with fail;refine hcon.mono ?_;rintro e w1 ⟨v,rfl,-,hB2⟩;clear hcon;have hB3:=hB1.trans (hB2.mono hB1.size);clear hB1 hB2;go_wp2;go_ret;exact⟨rfl,hB3⟩
namespace Hg
theorem Tw {fs:List Fn}{d:ByteArray}{k:Nat}(hk:k<fs.length)(h:acc fs d k=false):valid fs d=false:=by unfold valid;rw[Bool.and_eq_false_iff];right;rw[List.all_eq_false];exact⟨k,List.mem_range.2 hk,by rw[acc]at h;simp[h]⟩
theorem Pg {fs:List Fn}{d:ByteArray}(h:∀k:Nat,k<fs.length->acc fs d k=true):valid fs d=Md.ok fs d:=by unfold valid;have:((List.range fs.length).all fun(k:Nat)=>(jO fs d k).isSome)=true:=by{rw[List.all_eq_true];intro k hk;exact h k (List.mem_range.1 hk)};rw[this,Bool.and_true]
end Hg
theorem nN (a:Option Addr)(len cap:Nat)(fs:List Fn)(d:ByteArray)(hd:d.size<=maxLen)(w:World)(hs:FL w a len fs):Calls Tryz.prog 35 #[.agg #[.slice a len cap, .string d]] w fun e w'=>e= .returned (.bool (Hg.valid fs d))/\Below w.heap.size w w':=by
 have hB1:=aB w (.cells #[.slice a len cap, .string d] 26)
 have hB0:=Below.refl (w.alloc (.cells #[.slice a len cap, .string d] 26)).heap.size (w.alloc (.cells #[.slice a len cap, .string d] 26))
 have hl:=hs.1
 have hm:=hs.2.1
 unfold maxLen at hm
 go_enter Tryz.func35,Tryz.ntmps35
 go_wp2
 go_loopw [3] (fun i wr=>∃k:Nat,i= .int .i64 k/\k<=len/\(∀j:Nat,j<k->Hg.acc fs d j=true)/\Below (w.alloc (.cells #[.slice a len cap, .string d] 26)).heap.size (w.alloc (.cells #[.slice a len cap, .string d] 26)) wr) (fun i _=>len-(intOf i).toNat)
 case atStart=>exact⟨0,rfl,Nat.zero_le _,(fun j h=>absurd h (Nat.not_lt_zero _)),hB0⟩
 case round=>
  obtain⟨k,rfl,hk,hac,hBr⟩:=hrel
  obtain⟨c0,c1,amq⟩:=DX hBr
  have hB:=hB1.trans (hBr.mono hB1.size)
  have HA:=ae hac
  have HL:=ae hl
  have HB:=ae hBr
  clear hac hl hB1 hB0 hBr
  by_cases hlt:k<len
  · have hcon:=Dq a len cap fs d k hd _ (hs.kept hB)
    rcases ho:Hg.acc fs d k with _|_
    · rw[ho]at hcon;have HN:=ae (Hg.Tw (by rw[HL.out];exact hlt) ho);clear ho;go_wp2_with fail;refine hcon.mono ?_;rintro e w1 ⟨rfl,hB2⟩;clear hcon;have hB3:=hB.trans (hB2.mono hB.size);clear hB2;go_wp2;go_ret;exact⟨dE HN.out.symm,hB3⟩
    · rw[ho]at hcon
      have HN:=ae ho
      clear ho
      go_wp2_with fail
      refine hcon.mono ?_
      rintro e w1 ⟨rfl,hB2⟩
      clear hcon
      go_wp2
      go_roundw
      case rel=>exact⟨k+1,by simp,by omega,(fun j hj=>by
       rcases Nat.lt_succ_iff_lt_or_eq.1 hj with h|rfl
       · exact HA.out j h
       · exact HN.out),HB.out.trans (hB2.mono HB.out.size)⟩
      case measure=>simp[intOf];omega
  · have hke:k=len:=by{omega};subst hke;have hcon:=qo a k cap fs d hd _ (hs.kept hB);have HV:=ae (Hg.Pg (fs:=fs) (d:=d) (by rw[HL.out];exact HA.out));clear hs;go_wp2_with fail;refine hcon.mono ?_;rintro e w1 ⟨rfl,hB2⟩;clear hcon;have hB3:=hB.trans (hB2.mono hB.size);clear hB2;go_wp2;go_ret;exact⟨dE HV.out.symm,hB3⟩
section
open Go.RowKit
variable {P : Program} {ops : Array Oper} {md : Region.Mode} {Q : Exit → Act → World → Prop} {n : Nat}
def Tu (P:Program)(Q:Exit->Act->World->Prop)(a:Act)(ds:List Nat)(m:Nat)(A:Bool->World->Prop)(F:Nat->Value->World->Prop)(k:Nat)(o:Oper):Prop:=
 ∀ (t:Bool) (b:Act) (x:World),A t x->(k=m->t=false)->((o.after.any fun e=>Region.binds .any e&&e.on==m)=true->t=true)->(∀t,t∉ds->b.eval (.tmp t)=a.eval (.tmp t))->b.defers=a.defers->(∀j,(o.after.any fun e=>Region.binds .any e&&e.on==j)=true->F j (b.eval (.tmp (ds.getD j 0))) x)->
   o.wp P b x (fun b' x'=>∃y,b'=b.put o.dst y/\A (t||decide (k=m)) x'/\F k y x'/\∀i z,i≠k->F i z x->F i z x') Q
def rJ (P:Program)(Q:Exit->Act->World->Prop)(a:Act)(ds:List Nat)(m:Nat)(A:Bool->World->Prop)(F:Nat->Value->World->Prop):Nat->List Oper->Prop
 |_,[]=>True
 |k,o::r=>Tu P Q a ds m A F k o/\rJ P Q a ds m A F (k+1) r
theorem rJ.at {a:Act}{ds:List Nat}{m:Nat}{A:Bool->World->Prop}{F:Nat->Value->World->Prop}:∀{r:List Oper}{k:Nat},rJ P Q a ds m A F k r->∀i o,r[i]?=some o->Tu P Q a ds m A F (k+i) o
 |[],_,_,i,o,h=>by simp at h
 |q::r,k,h,0,o,e=>by cases e;exact h.1
 | q::r,k,h,i+1,o,e=>by
   have:=rJ.at h.2 i o (by simpa using e)
   rwa [show k+1+i=k+(i+1)by omega]at this
theorem gu {id:Nat}{a:Act}{w:World}{l:List Oper}(n:Nat)(ds:List Nat)(m:Nat)(A:Bool->World->Prop)(F:Nat->Value->World->Prop)(hm:P.follows .mixedOrders=true)(hB:(Region.noSelect l.toArray&&decide (n<l.length)&&Region.sinkB .any l.toArray n&&Region.chainB .any l.toArray n&&BK l n ds&&Region.seqB .any l.toArray (l.length-n) n (oJ l.length n))=true)(hsz:∀d∈ds,d<a.tmps.size)(h0:A false w.drew)(hall:rJ P Q a ds m A F 0 (l.take n))(hend:∀b x,A (decide (m<n)) x->(∀j,j<n->F j (b.eval (.tmp (ds.getD j 0))) x)->b=ds.foldl (fun a' t=>a'.put (some t) (b.eval (.tmp t))) a->wpList P l.toArray Q (l.drop n) b x):(Code.region id l.toArray true).wp P Q a w:=by
 simp only[au,decide_eq_true_eq]at hB
 obtain⟨⟨⟨⟨⟨hsel,hn⟩,hs⟩,hc⟩,hhd⟩,hseq⟩:=hB
 have hn':n<l.toArray.size:=by simpa using hn
 simp only[BK,au,decide_eq_true_eq,List.all_eq_true,List.mem_range]at hhd
 obtain⟨⟨hdl,hnd⟩,hops⟩:=hhd
 have hop:∀i o,i<n->l.toArray[i]?=some o->o.dst=some (ds.getD i 0)/\o.guard=none/\(∀e∈o.after,Region.binds .any e=true->e.on<i)/\ds.getD i 0∈ds:=by intro i o hi ho;have h1:=hops i hi;have ho':l[i]?=some o:=by{simpa using ho};rw[ho']at h1;simp only[au,beq_iff_eq,Option.isNone_iff_eq_none,Array.all_eq_true',decide_eq_true_eq,Bool.or_eq_true,Bool.not_eq_true']at h1;have h2:ds[i]?=some (ds.getD i 0):=by{rw[ah,ai (by omega)];rfl};exact⟨by rw[h1.1.1,h2],h1.1.2,fun e he hbi=>(h1.2 e he).elim (fun h=>by rw[hbi]at h;cases h) (fun h=>h),List.mem_of_getElem? h2⟩
 have hinj:∀i j,i<n->j<n->ds.getD i 0=ds.getD j 0->i=j:=by intro i j hi hj e;rw[ah,ah,ai (by omega),ai (by omega)]at e;have e':ds[i]'(by omega)=ds[j]'(by omega):=e;rcases Nat.lt_trichotomy i j with h|h|h;{exact absurd e' (List.pairwise_iff_getElem.1 hnd i j (by omega) (by omega) h)};{exact h};exact absurd e'.symm (List.pairwise_iff_getElem.1 hnd j i (by omega) (by omega) h)
 let I:Array Bool->Act->World->Prop:=fun q b x=>A (q.getD m false&&decide (m<n)) x/\b.defers=a.defers/\b.tmps.size=a.tmps.size/\(∀t,t∉ds->b.eval (.tmp t)=a.eval (.tmp t))/\∀j,j<n->q.getD j false=true->F j (b.eval (.tmp (ds.getD j 0))) x
 have inv:HeadInv .any l.toArray n (Array.replicate l.toArray.size false):=by refine⟨by simp,fun j oj _ hl=>?_,fun t _ ht=>getD_in (by simpa using ht) (getD_replicate_false _ _)⟩;rw[getD_replicate_false]at hl;cases hl
 have hu:vV n (Array.replicate l.toArray.size false)=n:=by
  have:∀m,m<=l.toArray.size->vV m (Array.replicate l.toArray.size false)=m:=by
   intro m
   induction m with
   |zero=>intro _;rfl
   |succ m ih=>
    intro hm
    rw[jh,ih (by omega)]
    have:(Array.replicate l.toArray.size false).getD m true=false:=getD_in (by simp at hm ⊢;omega) (getD_replicate_false _ _)
    rw[az this]
  exact this n (by omega)
 have H := tC (P:=P) (Q:=Q) (md:= .any) (l.toArray.size-n) I hs hc hn' (fun i o hi ho=>(hop i o hi ho).2.2.1)
   (fun q b x i o hq ho hi hun hafter hI=>by
     obtain⟨hA,hdf,hsize,hfr,hF⟩:=hI
     obtain⟨hd,hg,hb,hmem⟩:=hop i o hi ho
     have Nz:=hall.at i o (by rw[List.getElem?_take_of_lt hi];simpa using ho)
     rw[Nat.zero_add]at Nz
     have hwp:=Nz (q.getD m false&&decide (m<n)) b x hA (fun e=>by
       subst e
       have h3:i<q.size:=by rw[hq.size];omega
       simp[h3]at hun ⊢
       intro h4
       rw[hun]at h4
       cases h4) (fun hj=>by
       obtain⟨e,he,hbe⟩:=Array.any_eq_true'.1 hj
       simp only[au,beq_iff_eq]at hbe
       have h1:=hafter e he hbe.1
       have h2:=hb e he hbe.1
       rw[hbe.2]at h1 h2
       rw[h1]
       simpa using(show m<n by omega)) hfr hdf (fun j hj=>by
       obtain⟨e,he,hbe⟩:=Array.any_eq_true'.1 hj
       simp only[au,beq_iff_eq]at hbe
       have h1:=hafter e he hbe.1
       have h2:=hb e he hbe.1
       rw[hbe.2]at h1 h2
       exact hF j (by omega) h1)
     unfold wpOp
     simp only[ho]
     have hw:Region.wanted o (yielded l.toArray b.tmps)=true:=by simp[Region.wanted,hg]
     rw[az hw]
     refine .inl (Oper.wp_mono (fun b' x' h'=>?_) hwp)
     obtain⟨y,rfl,hA',hF',NA⟩:=h'
     have hA2:A ((q.setIfInBounds i true).getD m false&&decide (m<n)) x':=by
       by_cases e:i=m
       · subst e
         have h3:i<q.size:=by rw[hq.size];omega
         have h4:(q.setIfInBounds i true).getD i false=true:=by simp[h3]
         rw[h4]
         simpa[hi]using hA'
       · rw[getD_set_ne false e]
         simpa[e]using hA'
     have hds:ds.getD i 0<b.tmps.size:=by rw[hsize];exact hsz _ hmem
     rw[hd]
     refine⟨hA2,hdf,by simpa[Act.put]using hsize,fun t ht=>?_,fun j hj hq'=>?_⟩
     · rw[jl _ _ _ _ hds,ax (fun e=>ht (by rw[←e];exact hmem))]
       exact hfr t ht
     · rw[jl _ _ _ _ hds]
       by_cases e:i=j
       · subst e
         rw[az rfl]
         exact hF'
       · rw[ax (fun e2=>e (hinj i j hi hj e2))]
         rw[getD_set_ne false e]at hq'
         exact NA j _ (Ne.symm e) (hF j hj hq'))
   (fun q b x hq mh hI=>by
     obtain⟨hA,hdf,hsize,hfr,hF⟩:=hI
     have hqf:q=oJ l.length n:=by
       apply Array.ext
       · rw[hq.size];simp[oJ];omega
       · intro i h1 h2
         have e1:q.getD i true=q[i]:=by simp[h1]
         have e2:q.getD i false=q[i]:=by simp[h1]
         by_cases e:i<n
         · have:=mh i e
           rw[e1]at this
           rw[this]
           simp only[oJ,List.getElem_toArray]
           rw[List.getElem_append_left (by simpa using e)]
           simp
         · have h3:i<l.toArray.size:=by rw[←hq.size];exact h1
           have:=hq.tail i (by omega) h3
           rw[e1]at this
           rw[this]
           simp only[oJ,List.getElem_toArray]
           rw[List.getElem_append_right (by simpa using e)]
           simp
     have hF2:∀j,j<n->F j (b.eval (.tmp (ds.getD j 0))) x:=fun j hj=>hF j hj (by
       have:=mh j hj
       have h1:j<q.size:=by rw[hq.size];omega
       simp[h1]at this ⊢
       exact this)
     have hbf:b=ds.foldl (fun a' t=>a'.put (some t) (b.eval (.tmp t))) a:=by
       obtain⟨s1,s2,s3⟩:=lC (fun t=>b.eval (.tmp t)) ds a
       have ht:b.tmps=(ds.foldl (fun a' t=>a'.put (some t) (b.eval (.tmp t))) a).tmps:=by
         apply Array.ext_getElem?
         intro t
         rw[s3 t]
         by_cases e:t<a.tmps.size
         · have eb:b.tmps[t]?=some (b.eval (.tmp t)):=by
             have h1:t<b.tmps.size:=by omega
             simp[Act.eval,h1]
           by_cases e2:t∈ds
           · rw[az ⟨e2,e⟩,eb]
           · rw[ax (fun h=>e2 h.1),eb,hfr t e2]
             simp[Act.eval,e]
         · rw[ax (fun h=>e h.2),Array.getElem?_eq_none (by omega),Array.getElem?_eq_none (by omega)]
       have e3:∀c d:Act,c.tmps=d.tmps->c.defers=d.defers->c=d:=by
         rintro⟨c1,c2⟩ ⟨d1,d2⟩ h1 h2
         simp only at h1 h2
         rw[h1,h2]
       exact e3 _ _ ht (hdf.trans s2.symm)
     have hA3:A (decide (m<n)) x:=by
       by_cases e:m<n
       · have h1:=mh m e
         have h2:m<q.size:=by rw[hq.size];omega
         have h3:q.getD m false=true:=by simp[h2]at h1 ⊢;exact h1
         rw[h3,Bool.true_and]at hA
         exact hA
       · simp[e]at hA ⊢
         exact hA
     have:=hend b x hA3 hF2 hbf
     rw[hqf]
     have e2:(l.drop n).length=l.toArray.size-n:=by rw[List.length_drop];simp
     have R2:=wpAny_of_seq (md:= .any) (Q':=Q) (l.drop n) n (oJ l.length n) b x (fun j=>by simp[List.getElem?_drop]) (by rw[e2];simpa using hseq) this
     rwa [e2]at R2)
   n _ a w.drew inv hu ⟨by rw[getD_replicate_false,Bool.false_and];exact h0,rfl,rfl,fun t _=>rfl,fun j hj h=>by rw[getD_replicate_false]at h;cases h⟩
 rw[show n+(l.toArray.size-n)=l.toArray.size by omega]at H
 exact wp_region_any hm H
end
end Go.Proofs.YthkjdjmjdlimnaaGreat
