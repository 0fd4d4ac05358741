/- Own text. -/
import Derived.Test.YthkjdjmjdlimnaaGreatKV15
import Derived.Test.YthkjdjmjdlimnaaGreatKV16
import Derived.Test.YthkjdjmjdlimnaaGreatKV17
import Derived.Test.YthkjdjmjdlimnaaGreatKV18
import Derived.Test.YthkjdjmjdlimnaaGreatKV19
namespace Go.Proofs.YthkjdjmjdlimnaaGreat
open Go.RowKit Go.Shelf
set_option linter.all false
set_option maxRecDepth 100000
set_option maxHeartbeats 16000000
variable {S':List fJ}{ba:Option Addr}{bc bl c2 cO cap g1 g2 gO i k len off:Nat}{d:ByteArray}{fs:List Fn}{h mo p:Int}{out:List Int}{w w3 wr:World}
theorem W9{fa fl fg:Int}{fb:List (Int×Int)}{b Dz:Nat}{q:Int}{x:fJ}{nO:Nat}(hs:FL w (some ⟨b,off,none⟩) len fs)(dV:Below w.heap.size w w3)(m0:w.heap.size<w3.heap.size)(m1:w3.cell? ⟨w.heap.size,0,none⟩=some (.slice (some ⟨b,off,none⟩) len cap))(m2:w3.cell? ⟨w.heap.size,1,none⟩=some (.string d))(n0:w.heap.size+1<w3.heap.size)(n1:w3.cell? ⟨w.heap.size+1,0,none⟩=some (.int .i64 fa))(n2:w3.cell? ⟨w.heap.size+1,1,none⟩=some (.int .i64 fl))(n3:w3.cell? ⟨w.heap.size+1,2,none⟩=some (.int .i64 fg))(n4:w3.cell? ⟨w.heap.size+1,3,none⟩=some (.slice ba bl bc))(kG:bl<=80)(sH:fb.length=bl)(jU:SL w3 ba bl fb)(HO:Hid (OI w3 nO (.slice (some ⟨gO,0,none⟩) bl cO) (aM.bq fb)))(jZ:Hid (Md.cu fs=true/\aM.isOk fb=true))(pM:0<=fa/\fa<=3)(pO:0<=fl/\fl<=3)(pQ:0<=fg/\fg<=1)(hlt:i<bl)(aY:Hid (HI fs ⟨fa,fl,fg,fb⟩ (aM.bq fb) w3 i h mo (x::S') out g1 Dz g2 c2 wr))(HST:Hid (fb.getD i (0,0)=(p,q)/\St.ok p q=true)):wJ fs fa fl fg fb w w3 wr bl cO gO i g1 Dz g2 c2 h mo x S' out:=by have hp:=St.fH HST.out.2;by_cases hk:p≠2/\p≠3/\p≠4/\p≠8/\p≠9/\p≠10/\p≠11/\p≠12/\p≠13/\p≠14/\p≠15/\p≠16/\p≠19;{exact Wl hs dV m0 m1 m2 n0 n1 n2 n3 n4 kG sH jU HO jZ pM pO pQ hlt aY HST (ae (.inl hk))};have hk:(p=2\/p=3\/p=4)\/p=19\/p=15\/p=13\/p=14\/p=16\/p=8\/p=9\/p=10\/p=11\/p=12:=by{omega};rcases hk with hk|hk|hk|hk|hk|hk|hk|hk|hk|hk|hk;{exact Wl hs dV m0 m1 m2 n0 n1 n2 n3 n4 kG sH jU HO jZ pM pO pQ hlt aY HST (ae (.inr (.inl hk)))};{exact Wl hs dV m0 m1 m2 n0 n1 n2 n3 n4 kG sH jU HO jZ pM pO pQ hlt aY HST (ae (.inr (.inr (.inl hk))))};{exact Wl hs dV m0 m1 m2 n0 n1 n2 n3 n4 kG sH jU HO jZ pM pO pQ hlt aY HST (ae (.inr (.inr (.inr (hk)))))};{exact ZU hs dV m0 m1 m2 n0 n1 n2 n3 n4 kG sH jU HO jZ pM pO pQ hlt aY HST (ae (.inl hk))};{exact ZU hs dV m0 m1 m2 n0 n1 n2 n3 n4 kG sH jU HO jZ pM pO pQ hlt aY HST (ae (.inr (.inl hk)))};{exact ZU hs dV m0 m1 m2 n0 n1 n2 n3 n4 kG sH jU HO jZ pM pO pQ hlt aY HST (ae (.inr (.inr (hk))))};{exact afP hs dV m0 m1 m2 n0 n1 n2 n3 n4 kG sH jU HO jZ pM pO pQ hlt aY HST (ae (.inl hk))};{exact afP hs dV m0 m1 m2 n0 n1 n2 n3 n4 kG sH jU HO jZ pM pO pQ hlt aY HST (ae (.inr (hk)))};{exact aku hs dV m0 m1 m2 n0 n1 n2 n3 n4 kG sH jU HO jZ pM pO pQ hlt aY HST (ae (hk))};{exact afs hs dV m0 m1 m2 n0 n1 n2 n3 n4 kG sH jU HO jZ pM pO pQ hlt aY HST (ae (.inl hk))};exact afs hs dV m0 m1 m2 n0 n1 n2 n3 n4 kG sH jU HO jZ pM pO pQ hlt aY HST (ae (.inr (hk)))
theorem mg (a:Option Addr)(len cap:Nat)(fs:List Fn)(d:ByteArray)(k:Nat)(hk:k<len)(hok:Md.ok fs d=true)(w:World)(hs:FL w a len fs):Calls Tryz.prog 57 #[.agg #[.slice a len cap, .string d], .int .i64 k] w fun e w'=>∃v mo,e= .returned (.tuple #[v, .int .i64 mo, .bool (Hg.kg fs (fs.getD k .z)).isSome])/\(∀out m',Hg.kg fs (fs.getD k .z)=some (out,m')->OI w' w.heap.size v out/\mo=m')/\Below w.heap.size w w':=by obtain⟨i0,hi,hz0,hz1,hz2⟩:=lW lI;obtain⟨j0,hj,hy0,hy1,hy2⟩:=lW bQ;have hfl:=hs.1;have S9:Md.cu fs=true:=by{rw[Md.ok,au]at hok;exact hok.2};have hfo:Md.ru (fs.getD k .z)=true:=by{rw[Md.ok,au]at hok;exact Md.aZ hok.2 (by omega)};obtain⟨-,-,h0|⟨b,off,rfl,hb,hx⟩⟩:=id hs;{omega};obtain⟨x0,x1,x2,ba,bl,bc,x3,hsl⟩:=hx k hk;obtain⟨⟨fa,fl,fg,fb⟩,hf⟩:∃x,fs.getD k .z=x:=⟨_,rfl⟩;rw[hf]at x0 x1 x2 hsl hfo ⊢;simp only at x0 x1 x2 hsl;have hB1:=aB w (.cells #[.slice (some ⟨b,off,none⟩) len cap, .string d] 26);have y0:=(hB1.cell (p:=⟨b,off+k*4,none⟩) hb).trans x0;have y1:=(hB1.cell (p:=⟨b,off+k*4+1,none⟩) hb).trans x1;have y2:=(hB1.cell (p:=⟨b,off+k*4+2,none⟩) hb).trans x2;have y3:=(hB1.cell (p:=⟨b,off+k*4+3,none⟩) hb).trans x3;clear x0 x1 x2 x3 hx;go_enter Tryz.func57,Tryz.ntmps57;have hB2:=hB1.trans ((aB _ (.cells #[.int .i64 fa, .int .i64 fl, .int .i64 fg, .slice ba bl bc] 93)).mono hB1.size);have hbl:bl<=80/\St.cu fb=true:=by{simp only[Md.ru,au,mK]at hfo;have:=hsl.1;exact⟨by omega,hfo.2.2.2.2⟩};have hcon:=o8 ba bl bc fb (by omega) _ (hsl.kept hB2);go_wp2_with fail;refine hcon.mono ?_;rintro e w3⟨gE,cE,gO,cO,rfl,hr,hB3⟩;clear hcon;have dV:=hB2.trans (hB3.mono hB2.size);rcases mr:aM.isOk fb with _|_;{have hres:Hg.kg fs ⟨fa,fl,fg,fb⟩=none:=by{unfold Hg.kg;rw[ax (by simp[mr])]};rw[mr]at hr;have HR:=ae hres;clear hr mr hres;go_wp2;go_ret3;rw[HR.out];exact⟨_,0,rfl,(fun _ _ h=>by cases h),dV.alloc dV.size _⟩};rw[mr]at hr;obtain⟨hoE,Zy⟩:=hr rfl;clear hr;have bxF:=(NU.new (w.alloc (.cells #[.slice (some ⟨b,off,none⟩) len cap, .string d] 26)) (.int .i64 fa) (.int .i64 fl) (.int .i64 fg) (.slice ba bl bc) 93).kept hB3;have bxM:=((Nw.new w (.slice (some ⟨b,off,none⟩) len cap) (.string d) 26).kept (aB _ (.cells #[.int .i64 fa, .int .i64 fl, .int .i64 fg, .slice ba bl bc] 93))).kept hB3;simp only[JY]at bxF;obtain⟨m0,m1,m2,-,-⟩:=id bxM;obtain⟨n0,n1,n2,n3,n4,-,-,-,-⟩:=id bxF;clear y0 y1 y2 y3 hB1 hB2;have jU:=hsl.kept dV;have sH:=hsl.1;have Lj:0<=fg/\fg<=1:=by{simp only[Md.ru,au]at hfo;exact Wd.aX.1 hfo.2.2.1};have hi0:HI fs ⟨fa,fl,fg,fb⟩ (aM.bq fb) w3 0 0 fg [⟨0,fg,true⟩] [] w3.heap.size 0 (w3.heap.size+1) 1 ((w3.alloc (.cells #[] 2)).alloc (.cells #[.int .i64 0, .int .i64 fg, .int .i64 fg, .bool true, .bool false] 144)):=by{refine⟨World.ownsRow.alloc (OI.empty w3) _,?_,(dZ _ w3 |>.alloc (bG _) _).alloc (by simp) _,rfl,fun _=>rfl,by omega,by omega,?_,⟨id,rfl,trivial⟩⟩;{have h:=Nb (w3.alloc (.cells #[] 2)) (.int .i64 0) (.int .i64 fg) (.int .i64 fg) (.bool true) (.bool false) 144;have e:(w3.alloc (.cells #[] 2)).heap.size=w3.heap.size+1:=by{simp};rw[e]at h;refine⟨h.1,?_⟩;rcases h.2 with h'|⟨g',cap',cur,h',hb,r⟩;{exact .inl h'};exact .inr ⟨g',cap',cur,h',by omega,r⟩};intro x hx;simp only[sN]at hx;subst hx;simp only;omega};have HI0:=ae hi0;have HO:=ae Zy;have jZ:=ae (ak hfo mr);clear hi0 hoE Zy hfo mr;go_wp2;go_loopg [11,12,13,14,15] bl (fun gk v u hv mv iv' wr=>∃(i:Nat)(h mo:Int)(S:List fJ)(out:List Int)(g1 c1 g2 c2:Nat),gk=bl-i/\i<=bl/\iv'= .int .i64 i/\hv= .int .i64 h/\mv= .int .i64 mo/\v= .slice (some ⟨g1,0,none⟩) i c1/\u= .slice (some ⟨g2,0,none⟩) S.length c2/\HI fs ⟨fa,fl,fg,fb⟩ (aM.bq fb) w3 i h mo S out g1 c1 g2 c2 wr);(case atStart=>exact⟨0,0,fg,_,_,_,_,_,_,rfl,jP _,rfl,rfl,rfl,rfl,rfl,HI0.out⟩);case round=>obtain⟨i,h,mo,S,out,g1,c1,g2,c2,rfl,hib,rfl,rfl,rfl,rfl,rfl,hin⟩:=hrel;clear HI0;by_cases hlt:i<bl;{have hkx:i<fb.length:=by{rw[sH];exact hlt};obtain⟨⟨p,q⟩,hpq⟩:∃x,fb.getD i (0,0)=x:=⟨_,rfl⟩;have xD:St.ok p q=true:=by{have h:=St.aZ hbl.2 hkx;rw[hpq]at h;exact h};obtain⟨x,S',rfl⟩:∃x S',S=x::S':=by{rcases S with _|⟨x,S'⟩;{have:=hin.dep hkx;simp at this};exact⟨x,S',rfl⟩};have Yt:=wU jZ.out.1;simp only at Yt;refine W9 hs dV m0 m1 m2 n0 n1 n2 n3 n4 hbl.1 sH jU HO (ae (ak S9 jZ.out.2)) Yt.1 Yt.2.1 Yt.2.2 hlt (ae hin) (ae (ak hpq xD)) _ _ _ _ _ _ _ _ _ _ _ _ _ _ _ _ _ _ _ _ _ _ _ _ _ _ _ _ _ _ _ _ _ _ _ _ _ _ _ _ _ _ _ _ _ _ _ _ _ _ _ _ _ _ _ _ _ _ _ _ _ _ _ _ _ _ _ _ _ _ _ _ _ _ _ _ _ _ _ _ _ _ _ _ _ _ _ _ _ _ _ _ _ _ _ _ _ _ _ _ _ _ _ _ _ _ _ _ _ _ _ _ _ _ _ _ _ _ _ _ _ _ _ _ _ _ _ _ _ _ _ _ _ _ _ _ _ _ _ _ _ _ _ _ _ _ _ _ _ _ _ _ _ _ _ _ _ _ _ _ _ _ _ _ _ _ _ _ _ _ _ _ _ _ _ _ _ _ _ _ _ _ _ _ _ _ _ _ _ _ _ _ _ _ _ _ _ _ _ _ _ _ _ _ _ _ _ _ _ _ _ _ _ _ _ _ _ _ _ _ _ _ _ _ _ _ _ _ _ _ _ _ _ _ _ _ _ _ _ _ _ _ _ _ _ _ _ _ _ _ _ _ _ _ _ _ _ _ _ _ _ _ _ _ _ _ _ _ _ _ _ _ _ _ _ _ _ _ _ _ _ _ _ _ _ _ (ae ?_);intro h' jC S2 g1' c1' g2' c2' v4 v5 v6 v16 v17 v18 v19 v20 v21 v22 v23 v24 v49 v50 v51 v52 v53 v54 v55 v56 v57 v58 v59 v60 v61 v62 v63 v64 v65 v66 v67 v68 v69 v70 v71 v72 v73 v74 v75 v76 v77 v78 v79 v80 v81 v82 v83 v84 v85 v86 v87 SC v89 SE v91 SF v93 SG SH SI SK SN SQ xE xG xH xI xJ v105 xK v107 xL v109 xM xN xO xP xQ xR xS v117 xU xV xW xX xY xZ v124 yf yg v127 yh yj v130 v131 yl yt yu yw yx yz v138 v139 yA v141 yB v143 yC v145 v146 yD v148 yE yF yG v152 yH v154 yI yJ v157 yK v159 v160 yL v162 yM v164 yN yO v167 v168 yP yQ v171 yR v173 yS v175 yT yU yV yX yY yZ v182 v183 y7 y9 ze zf zg zh zi zk zm v193 v194 zn v196 zo v198 zq zt v201 zu v203 zw zx v206 zy v208 zA v210 zB v212 zC zD zF zG zH v218 zI zJ zK v222 zL zM zN v226 v227 v228 v229 zO zP v232 v233 v234 zQ v236 zR zS zT zU zV zW zX zY zZ z8 Aa IV IW IX IY IZ I4 I5 I6 I7 I8 I9 Ja Jb Jc Jd Je Jf Jg Jh Ji Jj Jk Jl Jm Jn Jo Jp Jq Jr Js Jt Ju Jv Jw Jy wF hfin;rename_i JJ KK aJ aK;refine aK _ _ ?_;go_roundg (bl-(i+1));(case measure=>omega);case rel=>exact⟨i+1,h',jC,S2,_,g1',c1',g2',c2',rfl,by omega,by simp,rfl,rfl,rfl,rfl,hfin⟩};have alC:i=bl:=by{omega};subst alC;have hall:Hg.all fs ⟨fa,fl,fg,fb⟩=some (out,mo):=by{rw[hin.eq];simp only[sH,Nat.sub_self];rfl};have hres:=Hg.QU (fs:=fs) (f:=⟨fa,fl,fg,fb⟩) jZ.out.2 hall;have hout:=hin.rl;have hBr:=hin.fM;have r3:=(hBr.cell (p:=⟨w.heap.size+1,3,none⟩) n0).trans n4;have hlF:w.heap.size+1<wr.heap.size:=aj n0 hBr.size;have hl:out.length=i:=by{have:=hout.1;simpa using this};have hmb:=hin.mb;have hi0:0<i:=by{rcases Nat.eq_zero_or_pos i with h0|h0;{exfalso;have h1:=jZ.out.2;have h2:fb=[]:=List.eq_nil_of_length_eq_zero (by omega);rw[h2]at h1;revert h1;decide};exact h0};have hoi:OI wr w.heap.size (.slice (some ⟨g1,0,none⟩) i c1) out:=OI.mono (by unfold OI;rw[hl];exact hout) dV.size;have ahs:=ae hres;have Yj:=ae hoi;have HB:=ae (dV.trans (hBr.mono dV.size));clear hres hout hBr hl hall hin hoi;by_cases hmo:mo<=20;{go_wp2;go_ret3;rw[ahs.out,az hmo];exact⟨_,mo,rfl,(fun o m' h=>by simp only[af,kC]at h;obtain⟨rfl,rfl⟩:=h;exact⟨Yj.out,rfl⟩),HB.out⟩};go_wp2;go_ret3;rw[ahs.out,ax (by omega)];exact⟨_,mo,rfl,(fun o m' h=>by cases h),HB.out⟩
namespace Hg
def has (fs:List Fn)(d:ByteArray)(k:Int):Bool:=Md.ok fs d&&(decide (0<=k)&&decide (k<fs.length))
def jO (fs:List Fn)(d:ByteArray)(k:Int):List Int:=((jG fs d k).map (·.1)).getD []
def acc (fs:List Fn)(d:ByteArray)(k:Int):Bool:=(jG fs d k).isSome
theorem Ct{k:Int}:has fs d k=true↔(Md.ok fs d=true/\0<=k/\k<fs.length):=by simp[has,au]
theorem KH{k:Int}(h:has fs d k=false):jG fs d k=none:=by unfold jG;rw[ax];intro q;rw[Ct.2 q]at h;cases h
theorem Iu{k:Int}(h:has fs d k=true):jG fs d k=kg fs (fs.getD k.toNat .z):=az (Ct.1 h)
end Hg
theorem KD (a:Option Addr)(len cap:Nat)(fs:List Fn)(d:ByteArray)(k:Int)(hd:d.size<=maxLen)(w:World)(hs:FL w a len fs):Calls Tryz.prog 117 #[.agg #[.slice a len cap, .string d], .int .i64 k] w fun e w'=>e= .returned (.bool (Hg.has fs d k))/\Below w.heap.size w w':=by have hl:=hs.1;have hm:=hs.2.1;unfold maxLen at hm;have hB1:=aB w (.cells #[.slice a len cap, .string d] 26);have hcon:=qA a len cap fs d hd _ (hs.kept hB1);have HL:=ae hl;clear hl hs;go_enter Tryz.func117,Tryz.ntmps117;go_wp2_with fail;refine hcon.mono ?_;rintro e w1⟨rfl,hB2⟩;clear hcon;obtain⟨c0,c1,hlt⟩:=CZ hB2;have hB3:=hB1.trans (hB2.mono hB1.size);clear hB1 hB2;rcases hok:Md.ok fs d with _|_;{go_wp2;go_ret;exact⟨dh (by rw[Hg.has,hok];rfl),hB3⟩};by_cases h0:0<=k;{go_wp2;go_ret;exact⟨dh (by rw[Hg.has,hok,HL.out];simp[h0]),hB3⟩};go_wp2;go_ret;exact⟨dh (by rw[Hg.has,hok,HL.out];simp;omega),hB3⟩
theorem Dc (a:Option Addr)(len cap:Nat)(fs:List Fn)(d:ByteArray)(k:Int)(hd:d.size<=maxLen)(w:World)(hs:FL w a len fs):Calls Tryz.prog 94 #[.agg #[.slice a len cap, .string d], .int .i64 k] w fun e w'=>∃v,e= .returned (.tuple #[v, .bool (Hg.acc fs d k)])/\OI w' w.heap.size v (Hg.jO fs d k)/\Below w.heap.size w w':=by have hl:=hs.1;have hB1:=aB w (.cells #[.slice a len cap, .string d] 26);have hcon:=KD a len cap fs d k hd _ (hs.kept hB1);go_enter Tryz.func94,Tryz.ntmps94;go_wp2_with fail;refine hcon.mono ?_;rintro e w1⟨rfl,hB2⟩;clear hcon;obtain⟨c0,c1,hlt⟩:=CZ hB2;have hB3:=hB1.trans (hB2.mono hB1.size);clear hB2;rcases hh:Hg.has fs d k with _|_;{have he:=Hg.KH hh;have HE:=ae (ak (show Hg.acc fs d k=false by rw[Hg.acc,he];rfl) (show Hg.jO fs d k=[]by rw[Hg.jO,he];rfl));clear he hh;go_wp2;go_ret2;rw[HE.out.1,HE.out.2];exact⟨_,rfl,OI.mono (OI.empty w1) hB3.size,hB3.alloc hB3.size _⟩};have he:=Hg.Iu hh;have hi:=Hg.Ct.1 hh;obtain⟨j,rfl⟩:∃j:Nat,k=j:=⟨k.toNat,by omega⟩;rw[aA]at he;have hj:j<len:=by{omega};have hcon:=mg a len cap fs d j hj hi.1 _ (hs.kept hB3);have HE:=ae (ak (show Hg.acc fs d (j:Int)=(Hg.kg fs (fs.getD j .z)).isSome by rw[Hg.acc,he]) (show Hg.jO fs d (j:Int)=((Hg.kg fs (fs.getD j .z)).map (·.1)).getD []by rw[Hg.jO,he]));clear he hh hi hl;go_wp2_with fail;refine hcon.mono ?_;rintro e w2⟨v,mo,rfl,hres,hB4⟩;clear hcon;have dX:=hB3.trans (hB4.mono hB3.size);rcases hr:Hg.kg fs (fs.getD j .z)with _|⟨out,m'⟩;{rw[hr]at HE;simp only[Option.isSome_none,Option.map_none,Option.getD_none]at HE ⊢;clear hres hr;go_wp2;go_ret2;rw[HE.out.1,HE.out.2];exact⟨_,rfl,OI.mono (OI.empty w2) dX.size,dX.alloc dX.size _⟩};rw[hr]at HE;obtain⟨ho,rfl⟩:=hres out m' hr;simp only[Option.isSome_some,Option.map_some,Option.getD_some]at HE ⊢;clear hres hr;have HO:=ae ho;clear ho;go_wp2;go_ret2;rw[HE.out.1,HE.out.2];exact⟨_,rfl,OI.mono HO.out hB3.size,dX⟩
theorem CE (a:Option Addr)(len cap:Nat)(fs:List Fn)(d:ByteArray)(k:Int)(hd:d.size<=maxLen)(w:World)(hs:FL w a len fs):Calls Tryz.prog 60 #[.agg #[.slice a len cap, .string d], .int .i64 k] w fun e w'=>e= .returned (.bool (Hg.acc fs d k))/\Below w.heap.size w w':=by have hB1:=aB w (.cells #[.slice a len cap, .string d] 26);have hcon:=Dc a len cap fs d k hd _ (hs.kept hB1);clear hs;go_enter Tryz.func60,Tryz.ntmps60;go_wp2_with fail;refine hcon.mono ?_;rintro e w1⟨v,rfl,-,hB2⟩;clear hcon;have hB3:=hB1.trans (hB2.mono hB1.size);clear hB1 hB2;go_wp2;go_ret;exact⟨rfl,hB3⟩
namespace Hg
theorem Pf(hk:k<fs.length)(h:acc fs d k=false):valid fs d=false:=by unfold valid;rw[Bool.and_eq_false_iff];right;rw[List.all_eq_false];exact⟨k,List.mem_range.2 hk,by rw[acc]at h;simp[h]⟩
theorem Ob(h:∀k:Nat,k<fs.length->acc fs d k=true):valid fs d=Md.ok fs d:=by unfold valid;have:((List.range fs.length).all fun(k:Nat)=>(jG fs d k).isSome)=true:=by{rw[rq];intro k hk;exact h k (List.mem_range.1 hk)};rw[this,Bool.and_true]
end Hg
theorem qM (a:Option Addr)(len cap:Nat)(fs:List Fn)(d:ByteArray)(hd:d.size<=maxLen)(w:World)(hs:FL w a len fs):Calls Tryz.prog 35 #[.agg #[.slice a len cap, .string d]] w fun e w'=>e= .returned (.bool (Hg.valid fs d))/\Below w.heap.size w w':=by
 have hB1:=aB w (.cells #[.slice a len cap, .string d] 26)
 have hB0:=dZ (w.alloc (.cells #[.slice a len cap, .string d] 26)).heap.size (w.alloc (.cells #[.slice a len cap, .string d] 26))
 have hl:=hs.1
 have hm:=hs.2.1
 unfold maxLen at hm
 go_enter Tryz.func35,Tryz.ntmps35
 go_wp2
 go_loopw [3] (fun i wr=>∃k:Nat,i= .int .i64 k/\k<=len/\(∀j:Nat,j<k->Hg.acc fs d j=true)/\Below (w.alloc (.cells #[.slice a len cap, .string d] 26)).heap.size (w.alloc (.cells #[.slice a len cap, .string d] 26)) wr) (fun i _=>len-(intOf i).toNat)
 case atStart=>exact⟨0,rfl,jP _,(fun j h=>eD h (Nat.not_lt_zero _)),hB0⟩
 case round=>
  obtain⟨k,rfl,hk,hac,hBr⟩:=hrel
  obtain⟨c0,c1,ak7⟩:=CZ hBr
  have hB:=hB1.trans (hBr.mono hB1.size)
  have HA:=ae hac
  have HL:=ae hl
  have HB:=ae hBr
  clear hac hl hB1 hB0 hBr
  by_cases hlt:k<len
  · have hcon:=CE a len cap fs d k hd _ (hs.kept hB)
    rcases ho:Hg.acc fs d k with _|_
    · rw[ho]at hcon;have HN:=ae (Hg.Pf (by rw[HL.out];exact hlt) ho);clear ho;go_wp2_with fail;refine hcon.mono ?_;rintro e w1⟨rfl,hB2⟩;clear hcon;have hB3:=hB.trans (hB2.mono hB.size);clear hB2;go_wp2;go_ret;exact⟨dh HN.out.symm,hB3⟩
    · rw[ho]at hcon
      have HN:=ae ho
      clear ho
      go_wp2_with fail
      refine hcon.mono ?_
      rintro e w1⟨rfl,hB2⟩
      clear hcon
      go_wp2
      go_roundw
      case rel=>exact⟨k+1,by simp,by omega,(fun j hj=>by
       rcases Nat.lt_succ_iff_lt_or_eq.1 hj with h|rfl
       · exact HA.out j h
       · exact HN.out),HB.out.trans (hB2.mono HB.out.size)⟩
      case measure=>simp[intOf];omega
  · have hke:k=len:=by{omega};subst hke;have hcon:=qA a k cap fs d hd _ (hs.kept hB);have HV:=ae (Hg.Ob (fs:=fs) (d:=d) (by rw[HL.out];exact HA.out));clear hs;go_wp2_with fail;refine hcon.mono ?_;rintro e w1⟨rfl,hB2⟩;clear hcon;have hB3:=hB.trans (hB2.mono hB.size);clear hB2;go_wp2;go_ret;exact⟨dh HV.out.symm,hB3⟩
section
open Go.RowKit
variable {P : Program} {ops : Array Oper} {md : Region.Mode} {Q : Exit → Act → World → Prop} {n : Nat}
def Ro (P:Program)(Q:Exit->Act->World->Prop)(a:Act)(ds:List Nat)(m:Nat)(A:Bool->World->Prop)(F:Nat->Value->World->Prop)(k:Nat)(o:Oper):Prop:=
 ∀ (t:Bool) (b:Act) (x:World),A t x->(k=m->t=false)->((o.after.any fun e=>Region.binds .any e&&e.on==m)=true->t=true)->(∀t,t∉ds->b.eval (.tmp t)=a.eval (.tmp t))->b.defers=a.defers->(∀j,(o.after.any fun e=>Region.binds .any e&&e.on==j)=true->F j (b.eval (.tmp (ds.getD j 0))) x)->
   o.wp P b x (fun b' x'=>∃y,b'=b.put o.dst y/\A (t||decide (k=m)) x'/\F k y x'/\∀i z,i≠k->F i z x->F i z x') Q
def rX (P:Program)(Q:Exit->Act->World->Prop)(a:Act)(ds:List Nat)(m:Nat)(A:Bool->World->Prop)(F:Nat->Value->World->Prop):Nat->List Oper->Prop
 |_,[]=>True
 |k,o::r=>Ro P Q a ds m A F k o/\rX P Q a ds m A F (k+1) r
theorem rX.at {a:Act}{ds:List Nat}{m:Nat}{A:Bool->World->Prop}{F:Nat->Value->World->Prop}:∀{r:List Oper}{k:Nat},rX P Q a ds m A F k r->∀i o,r[i]?=some o->Ro P Q a ds m A F (k+i) o
 |[],_,_,i,o,h=>by simp at h
 |q::r,k,h,0,o,e=>by cases e;exact h.1
 | q::r,k,h,i+1,o,e=>by
   have:=rX.at h.2 i o (by simpa using e)
   rwa [show k+1+i=k+(i+1)by omega]at this
theorem fC{id:Nat}{a:Act}{l:List Oper}(n:Nat)(ds:List Nat)(m:Nat)(A:Bool->World->Prop)(F:Nat->Value->World->Prop)(hm:P.follows .mixedOrders=true)(hB:(Region.noSelect l.toArray&&decide (n<l.length)&&Region.sinkB .any l.toArray n&&Region.chainB .any l.toArray n&&Ca l n ds&&Region.seqB .any l.toArray (l.length-n) n (oO l.length n))=true)(hsz:∀d∈ds,d<a.tmps.size)(h0:A false w.drew)(hall:rX P Q a ds m A F 0 (l.take n))(hend:∀b x,A (decide (m<n)) x->(∀j,j<n->F j (b.eval (.tmp (ds.getD j 0))) x)->b=ds.foldl (fun a' t=>a'.put (some t) (b.eval (.tmp t))) a->wpList P l.toArray Q (l.drop n) b x):(Code.region id l.toArray true).wp P Q a w:=by
 simp only[au,mK]at hB
 obtain⟨⟨⟨⟨⟨hsel,hn⟩,hs⟩,hc⟩,hhd⟩,hseq⟩:=hB
 have hn':n<l.toArray.size:=by simpa using hn
 simp only[Ca,au,mK,rq,List.mem_range]at hhd
 obtain⟨⟨hdl,hnd⟩,hops⟩:=hhd
 have hop:∀i o,i<n->l.toArray[i]?=some o->o.dst=some (ds.getD i 0)/\o.guard=none/\(∀e∈o.after,Region.binds .any e=true->e.on<i)/\ds.getD i 0∈ds:=by intro i o hi ho;have h1:=hops i hi;have ho':l[i]?=some o:=by{simpa using ho};rw[ho']at h1;simp only[au,beq_iff_eq,Option.isNone_iff_eq_none,Array.all_eq_true',mK,Bool.or_eq_true,Bool.not_eq_true']at h1;have h2:ds[i]?=some (ds.getD i 0):=by{rw[ah,ai (by omega)];rfl};exact⟨by rw[h1.1.1,h2],h1.1.2,fun e he hbi=>(h1.2 e he).elim (fun h=>by rw[hbi]at h;cases h) (fun h=>h),List.mem_of_getElem? h2⟩
 have hinj:∀i j,i<n->j<n->ds.getD i 0=ds.getD j 0->i=j:=by intro i j hi hj e;rw[ah,ah,ai (by omega),ai (by omega)]at e;have e':ds[i]'(by omega)=ds[j]'(by omega):=e;rcases Nat.lt_trichotomy i j with h|h|h;{exact eD e' (List.pairwise_iff_getElem.1 hnd i j (by omega) (by omega) h)};{exact h};exact eD e'.symm (List.pairwise_iff_getElem.1 hnd j i (by omega) (by omega) h)
 let I:Array Bool->Act->World->Prop:=fun q b x=>A (q.getD m false&&decide (m<n)) x/\b.defers=a.defers/\b.tmps.size=a.tmps.size/\(∀t,t∉ds->b.eval (.tmp t)=a.eval (.tmp t))/\∀j,j<n->q.getD j false=true->F j (b.eval (.tmp (ds.getD j 0))) x
 have inv:HeadInv .any l.toArray n (Array.replicate l.toArray.size false):=by refine⟨by simp,fun j oj _ hl=>?_,fun t _ ht=>getD_in (by simpa using ht) (getD_replicate_false _ _)⟩;rw[getD_replicate_false]at hl;cases hl
 have hu:wY n (Array.replicate l.toArray.size false)=n:=by
  have:∀m,m<=l.toArray.size->wY m (Array.replicate l.toArray.size false)=m:=by
   intro m
   induction m with
   |zero=>intro _;rfl
   |succ m ih=>
    intro hm
    rw[jb,ih (by omega)]
    have:(Array.replicate l.toArray.size false).getD m true=false:=getD_in (by simp at hm ⊢;omega) (getD_replicate_false _ _)
    rw[az this]
  exact this n (by omega)
 have H := tL (P:=P) (Q:=Q) (md:= .any) (l.toArray.size-n) I hs hc hn' (fun i o hi ho=>(hop i o hi ho).2.2.1)
   (fun q b x i o hq ho hi hun hafter hI=>by
     obtain⟨hA,hdf,hsize,hfr,hF⟩:=hI
     obtain⟨hd,hg,hb,hmem⟩:=hop i o hi ho
     have La:=hall.at i o (by rw[List.getElem?_take_of_lt hi];simpa using ho)
     rw[Nat.zero_add]at La
     have hwp:=La (q.getD m false&&decide (m<n)) b x hA (fun e=>by
       subst e
       have h3:i<q.size:=by rw[hq.size];omega
       simp[h3]at hun ⊢
       intro h4
       rw[hun]at h4
       cases h4) (fun hj=>by
       obtain⟨e,he,hbe⟩:=Array.any_eq_true'.1 hj
       simp only[au,beq_iff_eq]at hbe
       have h1:=hafter e he hbe.1
       have h2:=hb e he hbe.1
       rw[hbe.2]at h1 h2
       rw[h1]
       simpa using(show m<n by omega)) hfr hdf (fun j hj=>by
       obtain⟨e,he,hbe⟩:=Array.any_eq_true'.1 hj
       simp only[au,beq_iff_eq]at hbe
       have h1:=hafter e he hbe.1
       have h2:=hb e he hbe.1
       rw[hbe.2]at h1 h2
       exact hF j (by omega) h1)
     unfold wpOp
     simp only[ho]
     have hw:Region.wanted o (yielded l.toArray b.tmps)=true:=by simp[Region.wanted,hg]
     rw[az hw]
     refine .inl (Oper.wp_mono (fun b' x' h'=>?_) hwp)
     obtain⟨y,rfl,hA',hF',Lc⟩:=h'
     have hA2:A ((q.setIfInBounds i true).getD m false&&decide (m<n)) x':=by
       by_cases e:i=m
       · subst e
         have h3:i<q.size:=by rw[hq.size];omega
         have h4:(q.setIfInBounds i true).getD i false=true:=by simp[h3]
         rw[h4]
         simpa[hi]using hA'
       · rw[getD_set_ne false e]
         simpa[e]using hA'
     have hds:ds.getD i 0<b.tmps.size:=by rw[hsize];exact hsz _ hmem
     rw[hd]
     refine⟨hA2,hdf,by simpa[Act.put]using hsize,fun t ht=>?_,fun j hj hq'=>?_⟩
     · rw[iY _ _ _ _ hds,ax (fun e=>ht (by rw[←e];exact hmem))]
       exact hfr t ht
     · rw[iY _ _ _ _ hds]
       by_cases e:i=j
       · subst e
         rw[az rfl]
         exact hF'
       · rw[ax (fun e2=>e (hinj i j hi hj e2))]
         rw[getD_set_ne false e]at hq'
         exact Lc j _ (Ne.symm e) (hF j hj hq'))
   (fun q b x hq mD hI=>by
     obtain⟨hA,hdf,hsize,hfr,hF⟩:=hI
     have hqf:q=oO l.length n:=by
       apply Array.ext
       · rw[hq.size];simp[oO];omega
       · intro i h1 h2
         have e1:q.getD i true=q[i]:=by simp[h1]
         have e2:q.getD i false=q[i]:=by simp[h1]
         by_cases e:i<n
         · have:=mD i e
           rw[e1]at this
           rw[this]
           simp only[oO,List.getElem_toArray]
           rw[List.getElem_append_left (by simpa using e)]
           simp
         · have h3:i<l.toArray.size:=by rw[←hq.size];exact h1
           have:=hq.tail i (by omega) h3
           rw[e1]at this
           rw[this]
           simp only[oO,List.getElem_toArray]
           rw[List.getElem_append_right (by simpa using e)]
           simp
     have hF2:∀j,j<n->F j (b.eval (.tmp (ds.getD j 0))) x:=fun j hj=>hF j hj (by
       have:=mD j hj
       have h1:j<q.size:=by rw[hq.size];omega
       simp[h1]at this ⊢
       exact this)
     have hbf:b=ds.foldl (fun a' t=>a'.put (some t) (b.eval (.tmp t))) a:=by
       obtain⟨s1,s2,s3⟩:=lu (fun t=>b.eval (.tmp t)) ds a
       have ht:b.tmps=(ds.foldl (fun a' t=>a'.put (some t) (b.eval (.tmp t))) a).tmps:=by
         apply Array.ext_getElem?
         intro t
         rw[s3 t]
         by_cases e:t<a.tmps.size
         · have eb:b.tmps[t]?=some (b.eval (.tmp t)):=by
             have h1:t<b.tmps.size:=by omega
             simp[Act.eval,h1]
           by_cases e2:t∈ds
           · rw[az ⟨e2,e⟩,eb]
           · rw[ax (fun h=>e2 h.1),eb,hfr t e2]
             simp[Act.eval,e]
         · rw[ax (fun h=>e h.2),J5 (by omega),J5 (by omega)]
       have e3:∀c d:Act,c.tmps=d.tmps->c.defers=d.defers->c=d:=by
         rintro⟨c1,c2⟩ ⟨d1,d2⟩ h1 h2
         simp only at h1 h2
         rw[h1,h2]
       exact e3 _ _ ht (hdf.trans s2.symm)
     have hA3:A (decide (m<n)) x:=by
       by_cases e:m<n
       · have h1:=mD m e
         have h2:m<q.size:=by rw[hq.size];omega
         have h3:q.getD m false=true:=by simp[h2]at h1 ⊢;exact h1
         rw[h3,Bool.true_and]at hA
         exact hA
       · simp[e]at hA ⊢
         exact hA
     have:=hend b x hA3 hF2 hbf
     rw[hqf]
     have e2:(l.drop n).length=l.toArray.size-n:=by rw[Za];simp
     have R2:=wpAny_of_seq (md:= .any) (Q':=Q) (l.drop n) n (oO l.length n) b x (fun j=>by simp[O1]) (by rw[e2];simpa using hseq) this
     rwa [e2]at R2)
   n _ a w.drew inv hu ⟨by rw[getD_replicate_false,Bool.false_and];exact h0,rfl,rfl,fun t _=>rfl,fun j hj h=>by rw[getD_replicate_false]at h;cases h⟩
 rw[show n+(l.toArray.size-n)=l.toArray.size by omega]at H
 exact wp_region_any hm H
end
end Go.Proofs.YthkjdjmjdlimnaaGreat
