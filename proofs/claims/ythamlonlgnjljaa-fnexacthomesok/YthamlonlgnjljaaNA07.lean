/-
  Own texts for a law: Hs3 Ms1 Ms2 Draw1 Draw2 Draw3 Bend1 MvD MvD2 Hgt0 Mod7 Hgt2
-/
import Derived.Test.YthamlonlgnjljaaNA06
import Derived.Deep.AppendLies
import Derived.Deep.DeepCutAuto
namespace Go.Proofs.Ythamlonlgnjljaa
open Go.RowKit Go.Shelf
set_option linter.all false
set_option maxRecDepth 100000
set_option maxHeartbeats 16000000
namespace Hm
def fits (l:List Sp.S)(hs:List Int)(i:Nat):Bool:=decide (0<=hs.getD (l.getD i .z).b.toNat 0)&& !(decide (hs.getD (l.getD i .z).b.toNat 0<100)&&(l.getD i .z).c)
def fV (l:List Sp.S)(hs:List Int)(i k:Nat):Bool:= !(decide (hs.getD (l.getD k .z).b.toNat 0=hs.getD (l.getD i .z).b.toNat 0)&&Sp.bf (l.getD i .z) (l.getD k .z))
theorem rH (l:List Sp.S)(hs:List Int)(n:Nat):jZ l hs n=(List.range n).all fun i=>fits l hs i&&(List.range i).all fun k=>fV l hs i k:=rfl
theorem bJ (f:Nat->Bool)(n:Nat):(List.range (n+1)).all f=((List.range n).all f&&f n):=by rw[List.range_succ,List.all_append];simp
theorem bU {f:Nat->Bool}{n i:Nat}(hi:i<n)(h:f i=false):(List.range n).all f=false:=by rw[List.all_eq_false];exact⟨i,List.mem_range.2 hi,by rw[h];decide⟩
end Hm
theorem jl (x:Int)(w:World):Calls Try.prog 45 #[.int .i64 x] w fun e w'=>e= .returned (.bool (Hm.hm x))/\w'=w:=by have HM:Hid (Hm.hm x=(decide (x=-1)||(Wd.aQ x 0 4||Wd.aQ x 100 163))):=rfl;obtain⟨p,hp⟩:∃p,Wd.aQ x 0 4=p:=⟨_,rfl⟩;obtain⟨q,hq⟩:∃q,Wd.aQ x 100 163=q:=⟨_,rfl⟩;rw[hp,hq]at HM;generalize Hm.hm x=r at HM ⊢;by_cases hx:x=-1;{have HR:r=true:=by{rw[HM.out,decide_eq_true hx];rfl};subst hx;rw[HR];clear HM HR hp hq;go_enter Try.func45,Try.ntmps45;go_wp2;go_ret;exact⟨rfl,rfl⟩};have HR:r=(p||q):=by{rw[HM.out,decide_eq_false hx];rfl};rw[HR];have Ja:(x==-1)=false:=by{simpa using hx};clear HM HR hx;cases p;{show Calls _ _ _ _ fun e w'=>e= .returned (.bool q)/\w'=w;go_enter Try.func45,Try.ntmps45;go_wp2_with(go_at_call 66;refine(bF _ _ _ _).mono ?_;rintro e w' ⟨rfl,rfl⟩;dsimp only;(first|rw[hp]|rw[hq]));go_ret;exact⟨rfl,rfl⟩};show Calls _ _ _ _ fun e w'=>e= .returned (.bool true)/\w'=w;go_enter Try.func45,Try.ntmps45;go_wp2_with(go_at_call 66;refine(bF _ _ _ _).mono ?_;rintro e w' ⟨rfl,rfl⟩;dsimp only;rw[hp]);go_ret;exact⟨rfl,rfl⟩
theorem pg (a:Option Addr)(len cap:Nat)(ls:List Ln)(b:Option Addr)(n bc:Nat)(xs:List Int)(w:World)(hs:LL w a len ls)(hx:IL w b n xs):Calls Try.prog 20 #[.slice a len cap, .slice b n bc] w fun e w'=>e= .returned (.bool (Hm.fI ls xs))/\Below w.heap.size w w':=by have hcon:=oU a len cap ls w hs;have HS:=ae hs;have HX:=ae hx;have hxl:=hx.1;have hnm:=hx.2.1;have dw:Hid (Hm.fI ls xs=((Ln.isOk ls&&decide (xs.length=40))&&((List.range 40).all (fun i=>Hm.hm (xs.getD i 0))&&Hm.jZ (Sp.dD ls) xs (Sp.dD ls).length))):=rfl;have xu:Hid (Ln.isOk ls=true->Sp.dD ls=Sp.out ls 40):=fun h=>by{unfold Sp.dD;rw[ax h]};have hsp:=fun h W=>nu a len cap ls h W;generalize Hm.fI ls xs=R at dw ⊢;rw[hxl]at dw;unfold maxLen at hnm;obtain⟨q,hq⟩:∃q,Ln.isOk ls=q:=⟨_,rfl⟩;rw[hq]at hcon dw xu;clear hs hx hxl;go_enter Try.func20,Try.ntmps20;go_wp2_with fail;refine hcon.mono ?_;rintro e w1 ⟨rfl,hB1⟩;dsimp only;cases q;{have HR:Hid (R=false):=by{show _=_;rw[dw.out];rfl};have HB:=ae hB1;clear hcon dw hB1 xu hsp hq;go_wp2;go_ret;exact⟨by rw[HR.out]<;>rfl,HB.out⟩};have aM:=hB1.size;by_cases Bo:n=40;rotate_left;{have HR:Hid (R=false):=by{show _=_;rw[dw.out,decide_eq_false Bo];rfl};have J6:¬(n:Int)=40:=by{omega};have HB:=ae hB1;clear hcon dw hB1 xu hsp hq;go_wp2;go_ret;exact⟨by rw[HR.out]<;>rfl,HB.out⟩};subst Bo;have LV:=ae (xu.out rfl);have hs1:=hsp hq w1 (HS.out.kept hB1);have hx1:=HX.out.kept hB1;rw[LV.out]at dw;have jP:=ae (Hm.yC ls);generalize Sp.out ls 40=l at dw hs1 jP;have eZ:Hid (R=((List.range 40).all (fun i=>Hm.hm (xs.getD i 0))&&Hm.jZ l xs l.length)):=by{show _=_;rw[dw.out];rfl};have HB1:=ae hB1;clear hcon dw hB1 xu hsp hq HS HX LV;obtain⟨-,-,h0|⟨b,off,rfl,hlb,hcc⟩⟩:=hx1;{omega};have zX:=ae hcc;clear hcc;go_wp2;go_loopg [5] 40 (fun gk vi wr=>∃(i:Nat),gk=40-i/\i<=40/\vi= .int .i64 (i:Int)/\Hid ((List.range i).all (fun i=>Hm.hm (xs.getD i 0))=true)/\wr=w1);(case atStart=>exact⟨0,rfl,by omega,rfl,(by show _=_;rfl),rfl⟩);case round=>obtain⟨i,kL,hi,rfl,bB,rfl⟩:=hrel;by_cases hlt:i<40;{have aP:(i:Int)<40:=by{omega};have hc:=zX.out i hlt;have aJ:=ae (Hm.bJ (fun i=>Hm.hm (xs.getD i 0)) i);have ig:=ae (fun h=>Hm.bU (f:=fun i=>Hm.hm (xs.getD i 0)) hlt h);have hhm:=fun W=>jl (xs.getD i 0) W;generalize Hm.hm (xs.getD i 0)=r at aJ ig hhm;cases r;{have HR:Hid (R=false):=by{show _=_;rw[eZ.out,ig.out rfl];rfl};clear aJ ig bB;go_wp2_with(go_at_call 45;refine(hhm _).mono ?_;rintro e w' ⟨rfl,rfl⟩;dsimp only);go_ret;exact⟨by rw[HR.out]<;>rfl,HB1.out⟩};have HA2:Hid ((List.range (i+1)).all (fun i=>Hm.hm (xs.getD i 0))=true):=by{show _=_;rw[aJ.out,bB.out];rfl};clear aJ ig bB;go_wp2_with(go_at_call 45;refine(hhm _).mono ?_;rintro e w' ⟨rfl,rfl⟩;dsimp only);go_roundg (40-(i+1));(case measure=>omega);case rel=>exact⟨i+1,rfl,hlt,by simp,HA2,rfl⟩};have hie:i=40:=by{omega};subst hie;have HR:Hid (R=Hm.jZ l xs l.length):=by{show _=_;rw[eZ.out,bB.out];rfl};clear bB eZ;go_wp2_with fail;refine hs1.mono ?_;rintro e w2 ⟨gs,ns,cs,rfl,hsg,hB2⟩;dsimp only;have hnl:=hsg.1;have J7:=jP.out.len;have hns:ns<=40:=by{omega};have J8:(ns:Int)<=40:=by{omega};have mU:=ae hnl;have hcs:=hsg.cap;have Fe:=ae hsg;have hw2:=hB2.size;have HB2:=ae (HB1.out.trans (hB2.mono aM));have Ff:Hid (∀W,Below w2.heap.size w2 W->∀j,j<40->W.cell? ⟨b,off+j,none⟩=some (.int .i64 (xs.getD j 0))):=fun W hW j hj=>(hW.cell (p:=⟨b,off+j,none⟩) (aj hlb hB2.size)).trans ((hB2.cell (p:=⟨b,off+j,none⟩) hlb).trans (zX.out j hj));have HR2:Hid (R=(List.range ns).all fun i=>Hm.fits l xs i&&(List.range i).all fun k=>Hm.fV l xs i k):=by{show _=_;rw[HR.out,Hm.rH,hnl]};clear hs1 hsg hB2 hnl zX HB1 HR;go_wp2;go_loopg [7] ns (fun gk vi wx=>∃(i:Nat),gk=ns-i/\i<=ns/\vi= .int .i64 (i:Int)/\Hid (((List.range i).all fun i=>Hm.fits l xs i&&(List.range i).all fun k=>Hm.fV l xs i k)=true)/\Below w2.heap.size w2 wx);(case atStart=>exact⟨0,rfl,by omega,rfl,(by show _=_;rfl),Below.refl _ _⟩);case round=>obtain⟨i,hgi,hi,rfl,bB,hB3⟩:=hrel;obtain⟨w3,rfl⟩:∃x,x=wr:=⟨_,rfl⟩;by_cases hin:i<ns;rotate_left;{have hie:i=ns:=by{omega};have HT:Hid (R=true/\Below w.heap.size w w3):=⟨by rw[HR2.out,←hie,bB.out],HB2.out.trans (hB3.mono HB2.out.size)⟩;have Bp:¬(i:Int)<(ns:Int):=by{omega};clear hB3 hie bB;go_wp2;go_ret;exact⟨by rw[HT.out.1]<;>rfl,HT.out.2⟩};have Bp:(i:Int)<(ns:Int):=by{omega};have aJ:=ae (Hm.bJ (fun i=>Hm.fits l xs i&&(List.range i).all fun k=>Hm.fV l xs i k) i);have ig:=ae (fun h=>Hm.bU (f:=fun i=>Hm.fits l xs i&&(List.range i).all fun k=>Hm.fV l xs i k) hin h);have rX:Hid (Hm.fits l xs i=(decide (0<=xs.getD (l.getD i .z).b.toNat 0)&& !(decide (xs.getD (l.getD i .z).b.toNat 0<100)&&(l.getD i .z).c))):=rfl;have GV:Hid (∀k,Hm.fV l xs i k= !(decide (xs.getD (l.getD k .z).b.toNat 0=xs.getD (l.getD i .z).b.toNat 0)&&Sp.bf (l.getD i .z) (l.getD k .z))):=fun k=>rfl;have hsg:=Fe.out.kept hB3;obtain⟨d0,d1,d2,d3⟩:=hsg.cell hin;have J9:=hsg.lt;have hlo:=jP.out.lo i (by rw[mU.out];exact hin);have zD:=ae (HB2.out.trans (hB3.mono HB2.out.size));have HB3:=ae hB3;obtain⟨bn,hbn⟩:=Int.eq_ofNat_of_zero_le hlo.1;have Bq:bn<40:=by{omega};have GX:(bn:Int)<40:=by{omega};have hcx:=Ff.out w3 hB3 bn Bq;have zY:=ae (fun k W=>vW (l.getD i .z) (l.getD k .z) W);have GY:Hid (∀W,Below w3.heap.size w3 W->W.cell? ⟨gs,i*4,none⟩=some (.int .i64 (l.getD i .z).b)/\W.cell? ⟨gs,i*4+1,none⟩=some (.int .i64 (l.getD i .z).f)/\W.cell? ⟨gs,i*4+2,none⟩=some (.int .i64 (l.getD i .z).t)/\W.cell? ⟨gs,i*4+3,none⟩=some (.bool (l.getD i .z).c)):=fun W hW=>(hsg.kept hW).cell hin;rw[hbn,ay]at rX;have mH:Hid (∀k,Hm.fV l xs i k= !(decide (xs.getD (l.getD k .z).b.toNat 0=xs.getD bn 0)&&Sp.bf (l.getD i .z) (l.getD k .z))):=fun k=>by{rw[GV.out k,hbn,ay]};rw[hbn]at d0;generalize l.getD i .z=si at d1 d2 d3 rX mH zY GY;obtain⟨sb,sf,st,sc⟩:=si;dsimp only at d1 d2 d3;generalize xs.getD bn 0=v at hcx rX mH;clear hB3 hsg hlo GV hbn;by_cases hv:v<0;{have HF:Hid (R=false):=by{show _=_;rw[HR2.out,ig.out (by rw[rX.out,decide_eq_false (show¬0<=v by omega)];rfl)]};have hd:decide (v<0)=true:=decide_eq_true hv;clear aJ ig rX mH bB zY GY;go_wp2;go_ret;exact⟨by rw[HF.out]<;>rfl,zD.out⟩};have PO:decide (v<0)=false:=decide_eq_false hv;by_cases hbad:v<100/\sc=true;{obtain⟨mI,rfl⟩:=hbad;have HF:Hid (R=false):=by{show _=_;rw[HR2.out,ig.out (by rw[rX.out,decide_eq_true mI];simp)]};have hd:decide (v<100)=true:=decide_eq_true mI;clear aJ ig rX mH bB zY GY;go_wp2;go_ret;exact⟨by rw[HF.out]<;>rfl,zD.out⟩};have GZ:Hid (Hm.fits l xs i=true):=by{show _=_;rw[rX.out,decide_eq_true (show 0<=v by omega)];by_cases mI:v<100;{have:sc=false:=by{rcases hsc:sc with _|_;{rfl};exact absurd ⟨mI,hsc⟩ hbad};rw[this,Bool.and_false];rfl};rw[decide_eq_false mI];rfl};have Br:Hid (((List.range (i+1)).all fun i=>Hm.fits l xs i&&(List.range i).all fun k=>Hm.fV l xs i k)=((List.range i).all fun k=>Hm.fV l xs i k)):=by{show _=_;rw[aJ.out,bB.out,GZ.out,Bool.true_and,Bool.true_and]};have Bt:Hid (∀k,k<i->Hm.fV l xs i k=false->R=false):=fun k hk h=>by{rw[HR2.out,ig.out (by rw[Hm.bU hk h,Bool.and_false])]};clear aJ ig rX bB GZ;by_cases mI:v<100;{have hd:decide (v<100)=true:=decide_eq_true mI;have hsc:sc=false:=by{rcases hsc:sc with _|_;{rfl};exact absurd ⟨mI,hsc⟩ hbad};subst hsc;clear hbad mI;go_wp2;go_loopg [9] i (fun gj vk wx=>∃(k:Nat),gj=i-k/\k<=i/\vk= .int .i64 (k:Int)/\Hid (((List.range k).all fun k=>Hm.fV l xs i k)=true)/\Below w3.heap.size w3 wx);(case atStart=>exact⟨0,rfl,by omega,rfl,(by show _=_;rfl),Below.refl _ _⟩);case round=>obtain⟨k,hgj,hk,rfl,jw,hB4⟩:=hrel;obtain⟨w4,rfl⟩:∃x,x=wr:=⟨_,rfl⟩;by_cases hki:k<i;rotate_left;{have hke:k=i:=by{omega};have HT:Hid (((List.range (i+1)).all fun i=>Hm.fits l xs i&&(List.range i).all fun k=>Hm.fV l xs i k)=true):=by{show _=_;rw[Br.out];have:=jw.out;rw[hke]at this;exact this};have uz:¬(k:Int)<(i:Int):=by{omega};have uw:=ae (HB3.out.trans (hB4.mono HB3.out.size));clear hB4 hke jw;go_wp2;go_roundg (ns-(i+1));(case measure=>omega);case rel=>exact⟨i+1,rfl,hin,by simp,HT,uw.out⟩};have uz:(k:Int)<(i:Int):=by{omega};have hkn:k<ns:=by{omega};have uw:=ae (HB3.out.trans (hB4.mono HB3.out.size));have hsg:=Fe.out.kept uw.out;obtain⟨g0,g1,g2,g3⟩:=hsg.cell hkn;have fZ:=hsg.lt;obtain⟨h0,h1,h2,h3⟩:=GY.out w4 hB4;have hlo:=jP.out.lo k (by rw[mU.out];exact hkn);obtain⟨kn,hkb⟩:=Int.eq_ofNat_of_zero_le hlo.1;have zF:kn<40:=by{omega};have Cq:(kn:Int)<40:=by{omega};have jQ:=Ff.out w4 uw.out kn zF;have hme:=zY.out k;have HO:=ae (mH.out k);have mV:=ae (Hm.bJ (fun k=>Hm.fV l xs i k) k);have xw:=ae (Bt.out k hki);rw[hkb,ay]at HO;rw[hkb]at g0;generalize Sp.bf _ (l.getD k .z)=M at hme HO;have jR:∀W,Calls Try.prog 47 #[.agg #[.int .i64 sb, .int .i64 sf, .int .i64 st, .bool false], .agg #[.int .i64 (kn:Int), .int .i64 (l.getD k .z).f, .int .i64 (l.getD k .z).t, .bool (l.getD k .z).c]] W fun e w'=>e= .returned (.bool M)/\Below W.heap.size W w':=fun W=>by{have:=hme W;rw[hkb]at this;exact this};generalize(l.getD k .z).f=kf at g1 jR;generalize(l.getD k .z).t=kt at g2 jR;generalize(l.getD k .z).c=kc at g3 jR;generalize xs.getD kn 0=u at jQ HO;have hbw:b<w4.heap.size:=block_lt_of_cell jQ;have c0:∀p:aX w4,p.to.cell? ⟨b,off+kn,none⟩=some (.int .i64 u):=fun p=>(p.h.cell (p:=⟨b,off+kn,none⟩) hbw).trans jQ;have a0:∀p:aX w4,p.to.cell? ⟨gs,k*4,none⟩=some (.int .i64 (kn:Int)):=fun p=>(p.h.cell (p:=⟨gs,k*4,none⟩) fZ.2).trans g0;have a1:∀p:aX w4,p.to.cell? ⟨gs,k*4+1,none⟩=some (.int .i64 kf):=fun p=>(p.h.cell (p:=⟨gs,k*4+1,none⟩) fZ.2).trans g1;have a2:∀p:aX w4,p.to.cell? ⟨gs,k*4+2,none⟩=some (.int .i64 kt):=fun p=>(p.h.cell (p:=⟨gs,k*4+2,none⟩) fZ.2).trans g2;have a3:∀p:aX w4,p.to.cell? ⟨gs,k*4+3,none⟩=some (.bool kc):=fun p=>(p.h.cell (p:=⟨gs,k*4+3,none⟩) fZ.2).trans g3;have b0:∀p:aX w4,p.to.cell? ⟨gs,i*4,none⟩=some (.int .i64 sb):=fun p=>(p.h.cell (p:=⟨gs,i*4,none⟩) fZ.2).trans h0;have b1:∀p:aX w4,p.to.cell? ⟨gs,i*4+1,none⟩=some (.int .i64 sf):=fun p=>(p.h.cell (p:=⟨gs,i*4+1,none⟩) fZ.2).trans h1;have b2:∀p:aX w4,p.to.cell? ⟨gs,i*4+2,none⟩=some (.int .i64 st):=fun p=>(p.h.cell (p:=⟨gs,i*4+2,none⟩) fZ.2).trans h2;have b3:∀p:aX w4,p.to.cell? ⟨gs,i*4+3,none⟩=some (.bool false):=fun p=>(p.h.cell (p:=⟨gs,i*4+3,none⟩) fZ.2).trans h3;have hne:=aX.any w4;have vM:=ae hB4;clear hB4 hsg g0 g1 g2 g3 h0 h1 h2 h3 hlo hkb jQ hme;by_cases huv:u=v;{have hq:(u==v)=true:=by{simpa using huv};have bH:Hid (Hm.fV l xs i k= !M):=by{show _=_;rw[HO.out,decide_eq_true huv,Bool.true_and]};clear huv HO;go_wp2_with fail;refine aD (by kernel_rfl) (by kernel_rfl) ?_;(repeat(go_big_quiet_step (first|(go_at_call 47;refine aN (jR _)))));refine wpQuiet_nil ?_;rintro _ ⟨pw,rfl⟩;obtain⟨w5,xx⟩:∃W,pw.to=W:=⟨_,rfl⟩;have sM:=ae (vM.out.trans (pw.h.mono vM.out.size));have Bh:=ae (zD.out.trans (sM.out.mono zD.out.size));rw[xx]at sM Bh ⊢;clear xx c0 a0 a1 a2 a3 b0 b1 b2 b3 jR hne;cases M;{have HT:Hid (((List.range (k+1)).all fun k=>Hm.fV l xs i k)=true):=by{show _=_;rw[mV.out,jw.out,bH.out];rfl};clear mV jw bH;go_wp2;go_roundg (i-(k+1));(case measure=>omega);case rel=>exact⟨k+1,rfl,hki,by simp,HT,sM.out⟩};have HF:Hid (R=false):=xw.out bH.out;clear mV jw bH;go_wp2;go_ret;exact⟨by rw[HF.out]<;>rfl,Bh.out⟩};have hq:(u==v)=false:=by{simpa using huv};have HT:Hid (((List.range (k+1)).all fun k=>Hm.fV l xs i k)=true):=by{show _=_;rw[mV.out,jw.out,HO.out,decide_eq_false huv];rfl};clear huv HO mV jw;go_wp2_with fail;refine aD (by kernel_rfl) (by kernel_rfl) ?_;(repeat(go_big_quiet_step (fail)));refine wpQuiet_nil ?_;rintro _ ⟨pw,rfl⟩;obtain⟨w5,xx⟩:∃W,pw.to=W:=⟨_,rfl⟩;have sM:=ae (vM.out.trans (pw.h.mono vM.out.size));rw[xx]at sM ⊢;clear xx c0 a0 a1 a2 a3 b0 b1 b2 b3 jR hne;go_wp2;go_roundg (i-(k+1));(case measure=>omega);case rel=>exact⟨k+1,rfl,hki,by simp,HT,sM.out⟩};have hd:decide (v<100)=false:=decide_eq_false mI;clear hbad mI;go_wp2;go_loopg [9] i (fun gj vk wx=>∃(k:Nat),gj=i-k/\k<=i/\vk= .int .i64 (k:Int)/\Hid (((List.range k).all fun k=>Hm.fV l xs i k)=true)/\Below w3.heap.size w3 wx);(case atStart=>exact⟨0,rfl,by omega,rfl,(by show _=_;rfl),Below.refl _ _⟩);case round=>obtain⟨k,hgj,hk,rfl,jw,hB4⟩:=hrel;obtain⟨w4,rfl⟩:∃x,x=wr:=⟨_,rfl⟩;by_cases hki:k<i;rotate_left;{have hke:k=i:=by{omega};have HT:Hid (((List.range (i+1)).all fun i=>Hm.fits l xs i&&(List.range i).all fun k=>Hm.fV l xs i k)=true):=by{show _=_;rw[Br.out];have:=jw.out;rw[hke]at this;exact this};have uz:¬(k:Int)<(i:Int):=by{omega};have uw:=ae (HB3.out.trans (hB4.mono HB3.out.size));clear hB4 hke jw;go_wp2;go_roundg (ns-(i+1));(case measure=>omega);case rel=>exact⟨i+1,rfl,hin,by simp,HT,uw.out⟩};have uz:(k:Int)<(i:Int):=by{omega};have hkn:k<ns:=by{omega};have uw:=ae (HB3.out.trans (hB4.mono HB3.out.size));have hsg:=Fe.out.kept uw.out;obtain⟨g0,g1,g2,g3⟩:=hsg.cell hkn;have fZ:=hsg.lt;obtain⟨h0,h1,h2,h3⟩:=GY.out w4 hB4;have hlo:=jP.out.lo k (by rw[mU.out];exact hkn);obtain⟨kn,hkb⟩:=Int.eq_ofNat_of_zero_le hlo.1;have zF:kn<40:=by{omega};have Cq:(kn:Int)<40:=by{omega};have jQ:=Ff.out w4 uw.out kn zF;have hme:=zY.out k;have HO:=ae (mH.out k);have mV:=ae (Hm.bJ (fun k=>Hm.fV l xs i k) k);have xw:=ae (Bt.out k hki);rw[hkb,ay]at HO;rw[hkb]at g0;generalize Sp.bf _ (l.getD k .z)=M at hme HO;have jR:∀W,Calls Try.prog 47 #[.agg #[.int .i64 sb, .int .i64 sf, .int .i64 st, .bool sc], .agg #[.int .i64 (kn:Int), .int .i64 (l.getD k .z).f, .int .i64 (l.getD k .z).t, .bool (l.getD k .z).c]] W fun e w'=>e= .returned (.bool M)/\Below W.heap.size W w':=fun W=>by{have:=hme W;rw[hkb]at this;exact this};generalize(l.getD k .z).f=kf at g1 jR;generalize(l.getD k .z).t=kt at g2 jR;generalize(l.getD k .z).c=kc at g3 jR;generalize xs.getD kn 0=u at jQ HO;have hbw:b<w4.heap.size:=block_lt_of_cell jQ;have c0:∀p:aX w4,p.to.cell? ⟨b,off+kn,none⟩=some (.int .i64 u):=fun p=>(p.h.cell (p:=⟨b,off+kn,none⟩) hbw).trans jQ;have a0:∀p:aX w4,p.to.cell? ⟨gs,k*4,none⟩=some (.int .i64 (kn:Int)):=fun p=>(p.h.cell (p:=⟨gs,k*4,none⟩) fZ.2).trans g0;have a1:∀p:aX w4,p.to.cell? ⟨gs,k*4+1,none⟩=some (.int .i64 kf):=fun p=>(p.h.cell (p:=⟨gs,k*4+1,none⟩) fZ.2).trans g1;have a2:∀p:aX w4,p.to.cell? ⟨gs,k*4+2,none⟩=some (.int .i64 kt):=fun p=>(p.h.cell (p:=⟨gs,k*4+2,none⟩) fZ.2).trans g2;have a3:∀p:aX w4,p.to.cell? ⟨gs,k*4+3,none⟩=some (.bool kc):=fun p=>(p.h.cell (p:=⟨gs,k*4+3,none⟩) fZ.2).trans g3;have b0:∀p:aX w4,p.to.cell? ⟨gs,i*4,none⟩=some (.int .i64 sb):=fun p=>(p.h.cell (p:=⟨gs,i*4,none⟩) fZ.2).trans h0;have b1:∀p:aX w4,p.to.cell? ⟨gs,i*4+1,none⟩=some (.int .i64 sf):=fun p=>(p.h.cell (p:=⟨gs,i*4+1,none⟩) fZ.2).trans h1;have b2:∀p:aX w4,p.to.cell? ⟨gs,i*4+2,none⟩=some (.int .i64 st):=fun p=>(p.h.cell (p:=⟨gs,i*4+2,none⟩) fZ.2).trans h2;have b3:∀p:aX w4,p.to.cell? ⟨gs,i*4+3,none⟩=some (.bool sc):=fun p=>(p.h.cell (p:=⟨gs,i*4+3,none⟩) fZ.2).trans h3;have hne:=aX.any w4;have vM:=ae hB4;clear hB4 hsg g0 g1 g2 g3 h0 h1 h2 h3 hlo hkb jQ hme;by_cases huv:u=v;{have hq:(u==v)=true:=by{simpa using huv};have bH:Hid (Hm.fV l xs i k= !M):=by{show _=_;rw[HO.out,decide_eq_true huv,Bool.true_and]};clear huv HO;go_wp2_with fail;refine aD (by kernel_rfl) (by kernel_rfl) ?_;(repeat(go_big_quiet_step (first|(go_at_call 47;refine aN (jR _)))));refine wpQuiet_nil ?_;rintro _ ⟨pw,rfl⟩;obtain⟨w5,xx⟩:∃W,pw.to=W:=⟨_,rfl⟩;have sM:=ae (vM.out.trans (pw.h.mono vM.out.size));have Bh:=ae (zD.out.trans (sM.out.mono zD.out.size));rw[xx]at sM Bh ⊢;clear xx c0 a0 a1 a2 a3 b0 b1 b2 b3 jR hne;cases M;{have HT:Hid (((List.range (k+1)).all fun k=>Hm.fV l xs i k)=true):=by{show _=_;rw[mV.out,jw.out,bH.out];rfl};clear mV jw bH;go_wp2;go_roundg (i-(k+1));(case measure=>omega);case rel=>exact⟨k+1,rfl,hki,by simp,HT,sM.out⟩};have HF:Hid (R=false):=xw.out bH.out;clear mV jw bH;go_wp2;go_ret;exact⟨by rw[HF.out]<;>rfl,Bh.out⟩};have hq:(u==v)=false:=by{simpa using huv};have HT:Hid (((List.range (k+1)).all fun k=>Hm.fV l xs i k)=true):=by{show _=_;rw[mV.out,jw.out,HO.out,decide_eq_false huv];rfl};clear huv HO mV jw;go_wp2_with fail;refine aD (by kernel_rfl) (by kernel_rfl) ?_;(repeat(go_big_quiet_step (fail)));refine wpQuiet_nil ?_;rintro _ ⟨pw,rfl⟩;obtain⟨w5,xx⟩:∃W,pw.to=W:=⟨_,rfl⟩;have sM:=ae (vM.out.trans (pw.h.mono vM.out.size));rw[xx]at sM ⊢;clear xx c0 a0 a1 a2 a3 b0 b1 b2 b3 jR hne;go_wp2;go_roundg (i-(k+1));(case measure=>omega);case rel=>exact⟨k+1,rfl,hki,by simp,HT,sM.out⟩
namespace Mv
theorem ve (l:List M)(i:Nat):aR l i=((place (l.getD i .z).t&&place (l.getD i .z).f)&&(List.range i).all fun k=> !decide ((l.getD k .z).t=(l.getD i .z).t)):=rfl
end Mv
theorem iD (x:Int)(w:World):Calls Try.prog 37 #[.int .i64 x] w fun e w'=>e= .returned (.bool (Mv.place x))/\w'=w:=by obtain⟨p,hp⟩:∃p,Hm.hm x=p:=⟨_,rfl⟩;have HM:Mv.place x=(p&&decide (x≠-1)):=by{rw[←hp];rfl};rw[HM];have hcon:=jl x w;rw[hp]at hcon;clear HM hp;cases p;{show Calls _ _ _ _ fun e w'=>e= .returned (.bool false)/\w'=w;go_enter Try.func37,Try.ntmps37;go_wp2_with(go_at_call 45;refine hcon.mono ?_;rintro e w' ⟨rfl,rfl⟩;dsimp only);go_ret;exact⟨rfl,rfl⟩};obtain⟨q,hq⟩:∃q,decide (x≠-1)=q:=⟨_,rfl⟩;(have hq2:(x !=-1)=q:=by rw[←hq];by_cases h:x=-1<;>simp[h]);rw[hq];show Calls _ _ _ _ fun e w'=>e= .returned (.bool q)/\w'=w;clear hq;go_enter Try.func37,Try.ntmps37;go_wp2_with(go_at_call 45;refine hcon.mono ?_;rintro e w' ⟨rfl,rfl⟩;dsimp only);go_ret;exact⟨rfl,rfl⟩
theorem bV (a:Option Addr)(len cap:Nat)(l:List Mv.M)(w:World)(hs:ML w a len l):Calls Try.prog 14 #[.slice a len cap] w fun e w'=>e= .returned (.bool (Mv.isOk l))/\Below w.heap.size w w':=by have hln:=hs.1;have hmx:=hs.2.1;unfold maxLen at hmx;have HR:Hid (Mv.isOk l=((List.range len).all (fun i=>Mv.aR l i)&&decide (len<=8))):=by{show _=_;rw[←hln];rfl};generalize Mv.isOk l=R at HR ⊢;have HS:=ae hs;clear hs hln;go_enter Try.func14,Try.ntmps14;go_wp2;go_loopg [3] len (fun gk vi wr=>∃(i:Nat),gk=len-i/\i<=len/\vi= .int .i64 (i:Int)/\Hid ((List.range i).all (fun i=>Mv.aR l i)=true)/\Below w.heap.size w wr);(case atStart=>exact⟨0,rfl,by omega,rfl,(by show _=_;rfl),Below.refl _ _⟩);case round=>obtain⟨i,kL,hi,rfl,bB,hB⟩:=hrel;obtain⟨w0,rfl⟩:∃x,x=wr:=⟨_,rfl⟩;by_cases hlt:i<len;rotate_left;{have hie:i=len:=by{omega};subst hie;have HT:Hid (R=decide (i<=8)):=by{show _=_;rw[HR.out,bB.out];rfl};have HB:=ae hB;have aP:¬(i:Int)<(i:Int):=by{omega};by_cases h8:i<=8;{have Ka:(i:Int)<=8:=by{omega};have HF:Hid (R=true):=by{show _=_;rw[HT.out];exact decide_eq_true h8};clear HT hB bB HR;go_wp2;go_ret;exact⟨by rw[HF.out]<;>rfl,HB.out⟩};have Ka:¬(i:Int)<=8:=by{omega};have HF:Hid (R=false):=by{show _=_;rw[HT.out];exact decide_eq_false h8};clear HT hB bB HR;go_wp2;go_ret;exact⟨by rw[HF.out]<;>rfl,HB.out⟩};have aP:(i:Int)<(len:Int):=by{omega};obtain⟨-,-,h0|⟨b,off,rfl,hlb,hcc⟩⟩:=HS.out.kept hB;{omega};have zX:=ae hcc;obtain⟨c0,c1⟩:=hcc i hlt;have aJ:=ae (Hm.bJ (fun i=>Mv.aR l i) i);have ig:Hid (Mv.aR l i=false->R=false):=fun h=>by{rw[HR.out,Hm.bU (f:=fun i=>Mv.aR l i) hlt h];rfl};have dw:=ae (Mv.ve l i);obtain⟨t,ht⟩:∃t,(l.getD i .z).t=t:=⟨_,rfl⟩;obtain⟨f,hf⟩:∃f,(l.getD i .z).f=f:=⟨_,rfl⟩;rw[ht]at c0;rw[hf]at c1;rw[ht,hf]at dw;have hp1:=fun W=>iD t W;have hp2:=fun W=>iD f W;obtain⟨p,hp⟩:∃p,Mv.place t=p:=⟨_,rfl⟩;obtain⟨q,hq⟩:∃q,Mv.place f=q:=⟨_,rfl⟩;simp only[hp]at hp1;simp only[hq]at hp2;rw[hp,hq]at dw;have HB:=ae hB;clear hp hq hf hcc hB;cases p;{have HF:=ae (ig.out (by rw[dw.out];rfl));clear aJ ig dw bB HR ht;go_wp2_with(go_at_call 37;refine(hp1 _).mono ?_;rintro e w' ⟨rfl,rfl⟩;dsimp only);go_ret;exact⟨by rw[HF.out]<;>rfl,HB.out⟩};cases q;{have HF:=ae (ig.out (by rw[dw.out];rfl));clear aJ ig dw bB HR ht;go_wp2_with fail;refine(hp1 _).mono ?_;rintro e w' ⟨rfl,rfl⟩;dsimp only;go_wp2_with fail;refine(hp2 _).mono ?_;rintro e w' ⟨rfl,rfl⟩;dsimp only;go_wp2;go_ret;exact⟨by rw[HF.out]<;>rfl,HB.out⟩};have eZ:Hid (Mv.aR l i=(List.range i).all fun k=> !decide ((l.getD k .z).t=t)):=by{show _=_;rw[dw.out];rfl};clear dw;go_wp2_with fail;refine(hp1 _).mono ?_;rintro e w' ⟨rfl,rfl⟩;dsimp only;go_wp2_with fail;refine(hp2 _).mono ?_;rintro e w' ⟨rfl,rfl⟩;dsimp only;clear hp1 hp2 c1;go_wp2;go_loopg [4] i (fun gj vk wx=>∃(k:Nat),gj=i-k/\k<=i/\vk= .int .i64 (k:Int)/\Hid (((List.range k).all fun k=> !decide ((l.getD k .z).t=t))=true)/\Below w'.heap.size w' wx);(case atStart=>exact⟨0,rfl,by omega,rfl,(by show _=_;rfl),Below.refl _ _⟩);case round=>obtain⟨k,hgj,hk,rfl,jw,hB2⟩:=hrel;obtain⟨w1,rfl⟩:∃x,x=wr:=⟨_,rfl⟩;have HB2:=ae (HB.out.trans (hB2.mono HB.out.size));have G5:=ae hB2;by_cases hki:k<i;rotate_left;{have hke:k=i:=by{omega};have HT:Hid ((List.range (i+1)).all (fun i=>Mv.aR l i)=true):=by{show _=_;rw[aJ.out,bB.out,eZ.out];have:=jw.out;rw[hke]at this;rw[this];rfl};have uz:¬(k:Int)<(i:Int):=by{omega};clear hB2 hke jw;go_wp2;go_roundg (len-(i+1));(case measure=>omega);case rel=>exact⟨i+1,rfl,hlt,by simp,HT,HB2.out⟩};have uz:(k:Int)<(i:Int):=by{omega};have hkl:k<len:=by{omega};have hbl:=aj hlb hB2.size;have d0:=(hB2.cell (p:=⟨b,off+k*2,none⟩) hlb).trans (zX.out k hkl).1;have d1:=(hB2.cell (p:=⟨b,off+i*2,none⟩) hlb).trans c0;have mV:=ae (Hm.bJ (fun k=> !decide ((l.getD k .z).t=t)) k);have xw:Hid ((!decide ((l.getD k .z).t=t))=false->R=false):=fun h=>ig.out (by rw[eZ.out,Hm.bU (f:=fun k=> !decide ((l.getD k .z).t=t)) hki h]);generalize(l.getD k .z).t=u at d0 mV xw;clear hB2;by_cases hut:u=t;{have hq:(u==t)=true:=by{simpa using hut};have HF:=ae (xw.out (by rw[decide_eq_true hut];rfl));clear hut mV xw ig aJ bB jw eZ HR ht;go_wp2_with fail;go_quiet (fail);have HB3:=ae (HB2.out.trans ((aG w1 nq).mono HB2.out.size));go_wp2;go_ret;exact⟨by rw[HF.out]<;>rfl,HB3.out⟩};have hq:(u==t)=false:=by{simpa using hut};have HT:Hid (((List.range (k+1)).all fun k=> !decide ((l.getD k .z).t=t))=true):=by{show _=_;rw[mV.out,jw.out,decide_eq_false hut];rfl};clear hut mV xw jw;go_wp2_with fail;go_quiet (fail);have HB3:=ae (G5.out.trans ((aG w1 nq).mono G5.out.size));go_wp2;go_roundg (i-(k+1));(case measure=>omega);case rel=>exact⟨k+1,rfl,hki,by simp,HT,HB3.out⟩
theorem nU {l:List Mv.M}{i j:Nat}{u:Value}(h:(aF (l.take i))[j]?=some u):(aF l)[j]?=some u:=by have e:aF l=aF (l.take i)++aF (l.drop i):=by{rw[←aS,List.take_append_drop]};rw[e,List.getElem?_append_left (List.getElem?_eq_some_iff.1 h).1];exact h
theorem nY {l:List Mv.M}{i j:Nat}{u:Value}(h:(aF (l.drop i))[j]?=some u):(aF l)[i*2+j]?=some u:=by by_cases hi:i<=l.length;{have e:aF l=aF (l.take i)++aF (l.drop i):=by{rw[←aS,List.take_append_drop]};have e2:(aF (l.take i)).length=i*2:=by{rw[bP,List.length_take];omega};rw[e,List.getElem?_append_right (by omega),e2,Nat.add_sub_cancel_left];exact h};rw[List.drop_eq_nil_of_le (by omega)]at h;simp[aF]at h
theorem aV {ops:Array Oper}{o:Oper}{a:Act}{K:Act->World->Prop}{Q:Exit->Act->World->Prop}{E:Prop}(W:World)(hgd:o.guard=none)(s x:Operand)(ho:o.op= .call {callee:= .builtin .append,args:=#[s,x],argTypes:=#[24,24]})(n₀ g n c:Nat)(l:List Mv.M)(hs:a.eval s= .slice (some ⟨g,0,none⟩) n c)(hown:MG W n₀ g n c l)(sb so m sc:Nat)(ys:List Mv.M)(hx:a.eval x= .slice (some ⟨sb,so,none⟩) m sc)(hym:ys.length=m)(hy:∀j u,(aF ys)[j]?=some u->W.cell? ⟨sb,so+j,none⟩=some u)(hsz:n+m<=1000)(hbase:n₀<=W.heap.size)(h:∀g' c' N W',Hid (N=n+m)->MG W' n₀ g' N c' (l++ys)->W.grownBy W' (some g)->K (a.put o.dst (.slice (some ⟨g',0,none⟩) N c')) W'):if Region.wanted o (yielded ops a.tmps)=true then Oper.wp Try.prog o a W K Q else E:=by obtain⟨i0,hi,hz0,hz1,hz2⟩:=info_parts dJ;refine xV W hgd s x 24 ho n₀ 31 i0 (.agg #[.int .i64 0, .int .i64 0]) 2 16 Try.underlying24 hi hz0 hz1 hz2 rfl (by decide) _ n (aF l) hs hown.2 ⟨sb,so,none⟩ m sc (aF ys) hx (by rw[bP,hym]) (fun j u hu=>?_) (gQ ys) (by simp only[maxLen];omega) (by omega) hbase (fun v' W' hown' hgrow hnn=>?_);{(have hadd:(⟨sb,so,none⟩:Addr).add j=⟨sb,so+j,none⟩:=by unfold Addr.add;split<;>simp_all);rw[hadd];exact hy j u hu};rcases hown'.2 with⟨rfl,h0⟩|⟨g',cap',cur,rfl,r⟩;{exact absurd (hnn.1 rfl).1 (fun e=>by cases e)};refine h g' cap' (n+m) W' rfl ⟨by rw[List.length_append,hown.1,hym],?_⟩ hgrow;rw[aS];exact hown'
theorem jG {ops:Array Oper}{rest:List Oper}{o:Oper}{a:Act}{w:World}{Q:Exit->Act->World->Prop}(x y:Operand)(s t:TypeId)(ho:o.op= .call {callee:= .builtin .append,args:=#[x,y],argTypes:=#[s,t]})(h:Still (wpList Try.prog ops Q (o::rest) a w)):wpList Try.prog ops Q (o::rest) a w:=h.out
theorem Mv.Be (l:List Mv.M)(j:Nat):Mv.free l j=(List.range l.length).all fun k=>decide (k=j)||decide ((l.getD k .z).f≠(l.getD j .z).t):=rfl
theorem kI (a:Option Addr) (len cap:Nat) (l:List Mv.M) (hok:Mv.isOk l=true) (w:World) (hs:ML w a len l):Calls Try.prog 34 #[.slice a len cap] w fun e w'=>∃g n c,e= .returned (.slice (some ⟨g,0,none⟩) n c)/\MG w' w.heap.size g n c (Mv.dW 40 (Mv.aH l))/\Below w.heap.size w w':=by
 have hln:=hs.1
 have hk:=Mv.fP hok
 have G6:=hk.len
 rw[hln]at G6
 have Kb:=ae (Mv.jH hk)
 have HL:=ae hln
 have HS:=ae hs
 have vK:(len:Int)<=8:=by omega
 have Cr:=ae (ak (MG.empty w w.heap.size (Nat.le_refl _)) (az w (.cells #[] 31)))
 clear hs hln hk hok
 go_enter Try.func34,Try.ntmps34
 go_wp2
 go_loopg [3,4] len (fun gk vo vi wr=>∃(i g n c:Nat),gk=len-i/\i<=len/\vo= .slice (some ⟨g,0,none⟩) n c/\vi= .int .i64 (i:Int)/\MG wr w.heap.size g n c (Mv.aH (l.take i))/\Below w.heap.size w wr)
 case atStart=>exact⟨0,_,0,0,rfl,by omega,rfl,rfl,Cr.out.1,Cr.out.2⟩
 case round =>
  obtain⟨i,g,n,c,kL,hi,rfl,rfl,hor,hB⟩:=hrel
  obtain⟨w0,rfl⟩:∃x,x=wr:=⟨_,rfl⟩
  clear Cr
  by_cases hlt:i<len
  · have aP:(i:Int)<(len:Int):=by{omega};have hll:=HS.out.kept hB;obtain⟨-,-,h0|⟨b,off,rfl,hlb,hcc⟩⟩:=hll;{omega};obtain⟨c0,c1⟩:=hcc i hlt;have aJ:=ae (Mv.og (l:=l) (k:=i) (by rw[HL.out];exact hlt));have hnl:=Mv.iA l i;rw[hor.1]at hnl;have HO:=ae (ak hor hB);have aM:=hB.size;have hgo:=hor.lt.1;generalize l.getD i .z=m at c0 c1 aJ;obtain⟨t,f⟩:=m;dsimp only at c0 c1;clear hcc hor hB;by_cases xy:t=f;{have hq:(t !=f)=false:=by{simpa using xy};have HN:Hid (Mv.aH (l.take (i+1))=Mv.aH (l.take i)):=by{show _=_;rw[aJ.out,av (fun h=>h xy)]};clear aJ xy;go_wp2_with fail;go_quiet (fail);have HF:=ae (ak (HO.out.1.kept (aG w0 nq)) (HO.out.2.trans ((aG w0 nq).mono aM)));go_wp2;go_roundg (len-(i+1));(case measure=>omega);case rel=>exact⟨i+1,g,n,c,rfl,hlt,rfl,by simp,by rw[HN.out];exact HF.out.1,HF.out.2⟩};have hq:(t !=f)=true:=by{simpa using xy};have HN:Hid (Mv.aH (l.take (i+1))=Mv.aH (l.take i)++[⟨t,f⟩]):=by{show _=_;rw[aJ.out,ax xy]};clear aJ xy;go_wp2_with fail;go_quiet (fail);have hB1:=HO.out.2.trans ((aG w0 nq).mono aM);have ho1:=HO.out.1.kept (aG w0 nq);have e0:(w0.drewN nq).cell? ⟨b,off+i*2,none⟩=some (.int .i64 t):=c0;have e1:(w0.drewN nq).cell? ⟨b,off+i*2+1,none⟩=some (.int .i64 f):=c1;have hz1:w0.heap.size=(w0.drewN nq).heap.size:=rfl;generalize w0.drewN nq=w1 at hB1 ho1 e0 e1 hz1 ⊢;have hal:=az w1 (.cells #[.int .i64 t, .int .i64 f] 31);have HT:=ae (ak (MG.one w1 w.heap.size hB1.size t f) (ak (ho1.kept hal) (hB1.trans (hal.mono hB1.size))));clear hB1 ho1 hal c0 c1;go_wp2_with(at_builtin;refine dK _ rfl _ _ rfl w.heap.size _ _ _ _ rfl HT.out.2.1 w1.heap.size 0 1 1 [⟨t,f⟩] rfl rfl (fun j u hu=>by rw[Nat.zero_add];exact HT.out.1.at hu) (by omega) HT.out.2.2.size ?_;intro g2 c2 N2 w2 xh ho2 hg2 _;have HF:=ae (ak ho2 (aA HT.out.2.2 hg2 hgo));clear ho2 hg2 xh);go_roundg (len-(i+1));(case measure=>omega);case rel=>exact⟨i+1,g2,N2,c2,rfl,hlt,rfl,by simp,by rw[HN.out];exact HF.out.1,HF.out.2⟩
  · have hie:i=len:=by omega
    have hleft:Mv.aH (l.take i)=Mv.aH l:=by rw[hie,←HL.out,List.take_length]
    rw[hleft]at hor
    have hnl:=Mv.dP l
    rw[hor.1,HL.out]at hnl
    have aP:¬(i:Int)<(len:Int):=by omega
    have hal:=az w0 (.cells #[] 31)
    have aM:=hB.size
    have Bu:=hor.lt
    have HX:=ae (ak (hor.kept hal) (ak (MG.empty w0 w.heap.size aM) (hB.trans (hal.mono aM))))
    obtain⟨T,hT⟩:∃T,Mv.dW 40 (Mv.aH l)=T:=⟨_,rfl⟩
    have HT0:Hid (([]:List Mv.M)++Mv.dW 40 (Mv.aH l)=T):=hT
    have NQ:=ae hT
    have G7:n<=8:=by omega
    clear hor hB hal hie hleft hT
    go_wp2
    go_loopg [3,5] 40 (fun gk vl vo wr=>∃(m gl nl cl go no co:Nat)(lf out:List Mv.M),gk=m/\m<=40/\vl= .slice (some ⟨gl,0,none⟩) nl cl/\vo= .slice (some ⟨go,0,none⟩) no co/\MG wr w.heap.size gl nl cl lf/\MG wr w.heap.size go no co out/\gl≠go/\nl<=8/\no+m=40/\Hid (Mv.Good lf/\(2*nl+1<=m\/Mv.lS lf/\2*nl<=m)/\out++Mv.dW m lf=T)/\Below w.heap.size w wr)
    case atStart=>exact⟨40,g,n,c,w0.heap.size,0,0,Mv.aH l,[],rfl,Nat.le_refl _,rfl,rfl,HX.out.1,HX.out.2.1,by omega,G7,rfl,⟨Kb.out, .inl (by omega),HT0.out⟩,HX.out.2.2⟩
    case round=>
     obtain⟨mm,gl,nl,cl,go,no,co,lf,out,hgm,hm,rfl,rfl,mJ,hmo,hne,Kc,hnm,HG,hBr⟩:=hrel
     obtain⟨w1,rfl⟩:∃x,x=wr:=⟨_,rfl⟩
     clear HX HT0
     have Jb:=mJ.1
     by_cases hn0:0<nl
     rotate_left
     · have h0:lf.length=0:=by{rw[Jb];omega};have HF:Hid (MG w1 w.heap.size go no co T/\Below w.heap.size w w1):=by{have h1:=HG.out.2.2;rw[Mv.rf h0,List.append_nil]at h1;rw[←h1];exact⟨hmo,hBr⟩};have G8:¬(0:Int)<(nl:Int):=by{omega};clear mJ hmo hBr Jb h0;go_wp2;go_ret;exact⟨go,no,co,rfl,by rw[NQ.out];exact HF.out.1,HF.out.2⟩
     have hm2:2*nl<=mm:=by rcases HG.out.2.1 with h|⟨-,h⟩<;>omega
     obtain⟨m,rfl⟩:∃m,mm=m+1:=⟨mm-1,by omega⟩
     have G8:(0:Int)<(nl:Int):=by omega
     have NR:(nl:Int)<=8:=by omega
     have hw1:=hBr.size
     have hcl:=mJ.cap
     have hgl:=mJ.lt
     have mU:=ae Jb
     have HM:=ae (ak mJ (ak hmo hBr))
     clear mJ hmo hBr Jb
     go_wp2
     go_loopg [6,7] nl (fun gj vn vi wx=>∃(j:Nat),gj=nl-j/\j<=nl/\vi= .int .i64 (j:Int)/\vn= .int .i64 (Mv.nI (Mv.gB lf j))/\Below w1.heap.size w1 wx)
     case atStart=>exact⟨0,rfl,by omega,rfl,rfl,Below.refl _ _⟩
     case round=>
      obtain⟨j,hgj,hj,rfl,rfl,hBx⟩:=hrel
      obtain⟨x,rfl⟩:∃x,x=wr:=⟨_,rfl⟩
      have jP:=ae hBx
      rcases hnx:Mv.gB lf j with _|i
      · have D6:Mv.nI none=-1:=rfl;rw[D6];by_cases hjn:j<nl;rotate_left;{have Fg:j=nl:=by{omega};have hnx2:Mv.gB lf lf.length=none:=by{rw[mU.out,←Fg];exact hnx};have hST:Mv.step lf=(⟨-2,(lf.getD 0 .z).f⟩,Mv.spare lf):=by{unfold Mv.step;rw[hnx2]};have Bv:0<lf.length:=by{rw[mU.out];exact hn0};have zZ:Hid (out++[⟨-2,(lf.getD 0 .z).f⟩]++Mv.dW m (Mv.spare lf)=T):=by{show _=_;have h1:=HG.out.2.2;rw[Mv.eU Bv,hST]at h1;rw[List.append_assoc];exact h1};have Jc:Mv.lS (Mv.spare lf):=⟨0,by rw[Mv.cZ];exact Bv,by rw[Mv.aZ Bv,ax rfl]⟩;have hno:¬Mv.lS lf:=by{rintro⟨k,hk,e⟩;have:=Mv.bQ HG.out.1 hnx2 hk;omega};have xK:Hid (Mv.Good (Mv.spare lf)/\(2*nl+1<=m\/Mv.lS (Mv.spare lf)/\2*nl<=m)):=⟨HG.out.1.spare hnx2, .inr ⟨Jc,HG.out.2.1.elim (fun h=>by omega) (fun h=>absurd h.1 hno)⟩⟩;have mJ:=HM.out.1.kept jP.out;have hmo:=HM.out.2.1.kept jP.out;have hBx2:=HM.out.2.2.trans (jP.out.mono hw1);have c1:x.cell? ⟨gl,1,none⟩=some (.int .i64 (lf.getD 0 .z).f):=(mJ.cell hn0).2;obtain⟨f0,hf0⟩:∃f0,(lf.getD 0 .z).f=f0:=⟨_,rfl⟩;rw[hf0]at c1 zZ;have Fh:=ae hf0;have qf:=mJ.lt;have rY:=hmo.lt;have hal:=az x (.cells #[.int .i64 (-2), .int .i64 f0] 31);have HA:=ae (ak (MG.one x w.heap.size hBx2.size (-2) f0) (ak (mJ.kept hal) (ak (hmo.kept hal) (hBx2.trans (hal.mono hBx2.size)))));have LW:(0:Int)<(nl:Int):=G8;have zC:¬(j:Int)<(nl:Int):=by{omega};clear mJ hmo hBx2 hal hnx2 hST Jc hno hf0 Bv hnx HM jP hBx;go_wp2_with(at_builtin;refine jG _ _ _ _ rfl ?_);refine⟨?_⟩;refine dK _ rfl _ _ rfl w.heap.size _ _ _ _ rfl HA.out.2.2.1 x.heap.size 0 1 1 [⟨-2,f0⟩] rfl rfl (fun j u hu=>by rw[Nat.zero_add];exact HA.out.1.at hu) (by omega) HA.out.2.2.2.size ?_;intro g2 c2 N2 x2 xh ho2 hg2 rZ;have hs2:=hg2.size;simp at hs2;have Bw:=HA.out.2.1.bD hg2 hne;have hB2:=aA HA.out.2.2.2 hg2 rY.1;have hne2:gl≠g2:=by{simp at rZ;omega};have HB:=ae (ak ho2 (ak Bw hB2));have uA:N2=no+1:=xh.out;subst uA;clear ho2 Bw hB2 hg2 rZ HA xh c1;go_wp2;go_loopg [11] nl (fun gq vq wx=>∃(k:Nat),gq=nl-k/\k<=nl/\vq= .int .i64 (k:Int)/\MG wx w.heap.size gl nl cl (Mv.l8 lf k)/\MG wx w.heap.size g2 (no+1) c2 (out++[⟨-2,f0⟩])/\Below w.heap.size w wx);(case atStart=>exact⟨0,rfl,by omega,rfl,HB.out.2.1,HB.out.1,HB.out.2.2⟩);case round=>obtain⟨k,LX,hk,rfl,ky,hmo,hB3⟩:=hrel;obtain⟨x3,rfl⟩:∃x,x=wr:=⟨_,rfl⟩;by_cases hkn:k<nl;{have uB:(k:Int)<(nl:Int):=by{omega};have hkl:k<lf.length:=by{rw[mU.out];exact hkn};have hat:=Mv.pu k (Nat.le_of_lt hkl) k hkl;rw[av (by omega)]at hat;have hck:=(ky.cell hkn).2;have hfz:=ky.frozen;have hl3:=ky.lt;have aJ:Hid (Mv.l8 lf (k+1)=if(lf.getD k .z).f=f0 then(Mv.l8 lf k).set k ⟨(lf.getD k .z).t,-2⟩else Mv.l8 lf k):=by{show _=_;rw[←Fh.out];rfl};have hst:=ky.wE hkn (-2);rw[hat]at hck hst;have HO:=ae (ak ky (ak hmo hB3));by_cases xz:(lf.getD k .z).f=f0;{have HN:Hid (Mv.l8 lf (k+1)=(Mv.l8 lf k).set k ⟨(lf.getD k .z).t,-2⟩):=by{show _=_;rw[aJ.out,ax xz]};have HF:=ae (ak hst (ak (hmo.bD (aB x3 ⟨gl,k*2+1,none⟩ (.int .i64 (-2))) (fun e=>hne2 e.symm)) (aA hB3 (aB x3 ⟨gl,k*2+1,none⟩ (.int .i64 (-2))) (show w.heap.size<=gl by omega))));rw[xz]at hck;clear ky hmo hB3 hst hat aJ xz HO hkl;go_wp2;go_roundg (nl-(k+1));(case measure=>omega);case rel=>exact⟨k+1,rfl,hkn,by simp,by rw[HN.out];exact HF.out.1,HF.out.2.1,HF.out.2.2⟩};have HN:Hid (Mv.l8 lf (k+1)=Mv.l8 lf k):=by{show _=_;rw[aJ.out,av xz]};generalize(lf.getD k .z).f=fk at hck xz;clear ky hmo hB3 hst hat aJ hkl;have hqq:(fk==f0)=false:=by{simpa using xz};go_wp2;go_roundg (nl-(k+1));(case measure=>omega);case rel=>exact⟨k+1,rfl,hkn,by simp,by rw[HN.out];exact HO.out.1,HO.out.2.1,HO.out.2.2⟩};have hke:k=nl:=by{omega};have HF:Hid (MG x3 w.heap.size gl nl cl (Mv.spare lf)/\MG x3 w.heap.size g2 (no+1) c2 (out++[⟨-2,f0⟩])/\Below w.heap.size w x3):=by{refine⟨?_,hmo,hB3⟩;rw[hke,←mU.out,Mv.vI]at ky;rw[←mU.out];exact ky};have uB:¬(k:Int)<(nl:Int):=by{omega};clear ky hmo hB3 hke;go_wp2;go_roundg m;(case measure=>omega);case rel=>exact⟨m,gl,nl,cl,g2,no+1,c2,Mv.spare lf,out++[⟨-2,f0⟩],rfl,by omega,rfl,rfl,HF.out.1,HF.out.2.1,hne2,Kc,by omega,⟨xK.out.1,xK.out.2,zZ.out⟩,HF.out.2.2⟩};have zC:(j:Int)<(nl:Int):=by{omega};have NS:=ae hnx;have Bz:=HM.out.1.kept hBx;have hjt:=(Bz.cell hjn).1;have G9:=Bz.lt;have qp:=ae (Mv.Be lf j);have NT:=ae Bz;obtain⟨tj,htj⟩:∃tj,(lf.getD j .z).t=tj:=⟨_,rfl⟩;rw[htj]at hjt qp;clear hBx hnx Bz htj;go_wp2;go_loopg [8,9] nl (fun gq vf vq wx=>∃(k:Nat),gq=nl-k/\k<=nl/\vf= .bool ((List.range k).all fun k=>decide (k=j)||decide ((lf.getD k .z).f≠tj))/\vq= .int .i64 (k:Int)/\Below x.heap.size x wx);(case atStart=>exact⟨0,rfl,by omega,rfl,rfl,Below.refl _ _⟩);case round=>obtain⟨k,LX,hk,rfl,rfl,Fj⟩:=hrel;obtain⟨x2,rfl⟩:∃x,x=wr:=⟨_,rfl⟩;have LY:=ae (jP.out.trans (Fj.mono jP.out.size));have r9:=ae Fj;by_cases hkn:k<nl;rotate_left;{have hke:k=nl:=by{omega};have uB:¬(k:Int)<(nl:Int):=by{omega};obtain⟨fr,hfr⟩:∃fr,Mv.free lf j=fr:=⟨_,rfl⟩;have hall:((List.range k).all fun k=>decide (k=j)||decide ((lf.getD k .z).f≠tj))=fr:=by{rw[←hfr,qp.out,hke,mU.out]};rw[hall];have aJ:Hid (Mv.gB lf (j+1)=if fr=true then some j else none):=by{show _=_;rw[←hfr];unfold Mv.gB;rw[NS.out]};clear Fj hke hall hfr;cases fr;{have HV:Hid (Mv.nI (Mv.gB lf (j+1))=-1):=by{show _=_;rw[aJ.out];rfl};clear aJ;go_wp2;go_roundg (nl-(j+1));(case measure=>omega);case rel=>exact⟨j+1,rfl,hjn,by simp,by rw[HV.out],LY.out⟩};have HV:Hid (Mv.nI (Mv.gB lf (j+1))=(j:Int)):=by{show _=_;rw[aJ.out];rfl};clear aJ;go_wp2;go_roundg (nl-(j+1));(case measure=>omega);case rel=>exact⟨j+1,rfl,hjn,by simp,by rw[HV.out],LY.out⟩};have uB:(k:Int)<(nl:Int):=by{omega};have hmk:=NT.out.kept Fj;have hck:=(hmk.cell hkn).2;have hcj:=(Fj.cell (p:=⟨gl,j*2,none⟩) G9.2).trans hjt;have LZ:=hmk.lt;have aJ:=ae (Hm.bJ (fun k=>decide (k=j)||decide ((lf.getD k .z).f≠tj)) k);generalize((List.range k).all fun k=>decide (k=j)||decide ((lf.getD k .z).f≠tj))=r at aJ;generalize(lf.getD k .z).f=fk at hck aJ;clear Fj hmk;cases r;{have HV:Hid (((List.range (k+1)).all fun k=>decide (k=j)||decide ((lf.getD k .z).f≠tj))=false):=by{show _=_;rw[aJ.out];rfl};clear aJ;go_wp2_with fail;go_quiet (fail);have D7:=ae (r9.out.trans ((aG x2 nq).mono r9.out.size));go_wp2;go_roundg (nl-(k+1));(case measure=>omega);case rel=>exact⟨k+1,rfl,hkn,by rw[HV.out],by simp,D7.out⟩};by_cases hkj:k=j;{have hq:((k:Int)==(j:Int))=true:=by{simp[hkj]};have HV:Hid (((List.range (k+1)).all fun k=>decide (k=j)||decide ((lf.getD k .z).f≠tj))=true):=by{show _=_;rw[aJ.out,decide_eq_true hkj];rfl};clear aJ hkj;go_wp2_with fail;go_quiet (fail);have D7:=ae (r9.out.trans ((aG x2 nq).mono r9.out.size));go_wp2;go_roundg (nl-(k+1));(case measure=>omega);case rel=>exact⟨k+1,rfl,hkn,by rw[HV.out],by simp,D7.out⟩};have hq:((k:Int)==(j:Int))=false:=by{simp;omega};by_cases hft:fk=tj;{have hq2:(fk !=tj)=false:=by{simpa using hft};have HV:Hid (((List.range (k+1)).all fun k=>decide (k=j)||decide ((lf.getD k .z).f≠tj))=false):=by{show _=_;rw[aJ.out,decide_eq_false hkj,decide_eq_false (fun h=>h hft)];rfl};clear aJ hkj hft;go_wp2_with fail;go_quiet (fail);have D7:=ae (r9.out.trans ((aG x2 nq).mono r9.out.size));go_wp2;go_roundg (nl-(k+1));(case measure=>omega);case rel=>exact⟨k+1,rfl,hkn,by rw[HV.out],by simp,D7.out⟩};have hq2:(fk !=tj)=true:=by{simpa using hft};have HV:Hid (((List.range (k+1)).all fun k=>decide (k=j)||decide ((lf.getD k .z).f≠tj))=true):=by{show _=_;rw[aJ.out,decide_eq_false hkj,decide_eq_true hft];rfl};clear aJ hkj hft;go_wp2_with fail;go_quiet (fail);have D7:=ae (r9.out.trans ((aG x2 nq).mono r9.out.size));go_wp2;go_roundg (nl-(k+1));(case measure=>omega);case rel=>exact⟨k+1,rfl,hkn,by rw[HV.out],by simp,D7.out⟩
      · have aJ:Hid (Mv.gB lf lf.length=some i):=by show _=_;rw[mU.out];exact Mv.lI hnx hj
        have NU:¬(i:Int)<0:=by omega
        have D6:Mv.nI (some i)=(i:Int):=rfl
        rw[D6]
        clear hBx hnx
        by_cases hjn:j<nl
        · have zC:(j:Int)<(nl:Int):=by omega
          have mW:=Mv.dL aJ.out
          have HI:=ae mW
          have hil:i<nl:=by rw[←mU.out];exact mW.1
          have GQ:(i:Int)<(nl:Int):=by omega
          have hi0:(0:Int)<=(i:Int):=by omega
          have hid:¬(i:Int)<0:=by omega
          have mJ:=HM.out.1.kept jP.out
          have hmo:=HM.out.2.1.kept jP.out
          have hBx:=HM.out.2.2.trans (jP.out.mono hw1)
          obtain⟨c0,c1⟩:=mJ.cell hil
          have hST:Mv.step lf=(lf.getD i .z,lf.eraseIdx i):=by unfold Mv.step;rw[aJ.out]
          have zZ:Hid (out++[lf.getD i .z]++Mv.dW m (lf.eraseIdx i)=T):=by show _=_;have h1:=HG.out.2.2;rw[Mv.eU (by rw[mU.out];exact hn0),hST]at h1;rw[List.append_assoc];exact h1
          have xK:Hid (Mv.Good (lf.eraseIdx i)/\(2*(nl-1)+1<=m\/Mv.lS (lf.eraseIdx i)/\2*(nl-1)<=m)):=⟨HG.out.1.erase mW.1, .inl (by omega)⟩
          have Ha:Hid (lf.eraseIdx i=lf.take i++lf.drop (i+1)):=List.eraseIdx_eq_take_drop_succ ..
          have uy:Hid ((lf.take i).length=i/\(lf.drop (i+1)).length=nl-(i+1)):=⟨by rw[List.length_take,mU.out];omega,by rw[List.length_drop,mU.out]⟩
          have D8:Hid (∀j u,(aF (lf.take i))[j]?=some u->(aF lf)[j]?=some u):=fun j u hu=>nU hu
          have HDR:Hid (∀j u,(aF (lf.drop (i+1)))[j]?=some u->(aF lf)[(i+1)*2+j]?=some u):=fun j u hu=>nY hu
          generalize lf.getD i .z=mv at c0 c1 zZ
          obtain⟨mt,mf⟩:=mv
          dsimp only at c0 c1
          have hcl:=mJ.cap
          have hgl:=mJ.lt
          have hgo:=hmo.lt
          have hal:=az x (.cells #[.int .i64 mt, .int .i64 mf] 31)
          have HA:=ae (ak (MG.one x w.heap.size hBx.size mt mf) (ak (mJ.kept hal) (ak (hmo.kept hal) (hBx.trans (hal.mono hBx.size)))))
          clear mJ hmo hBx hal mW aJ hST HM jP
          go_wp2_with(at_builtin;refine jG _ _ _ _ rfl ?_)
          refine⟨?_⟩
          refine dK _ rfl _ _ rfl w.heap.size _ _ _ _ rfl HA.out.2.2.1 x.heap.size 0 1 1 [⟨mt,mf⟩] rfl rfl (fun j u hu=>by rw[Nat.zero_add];exact HA.out.1.at hu) (by omega) HA.out.2.2.2.size ?_
          intro g2 c2 N2 x2 xh ho2 hg2 rZ
          have hs2:=hg2.size
          simp at hs2
          have qf:=HA.out.2.1.bD hg2 hne
          have hB2:=aA HA.out.2.2.2 hg2 hgo.1
          have hne2:gl≠g2:=by simp at rZ;omega
          have HB:=ae (ak ho2 (ak qf hB2))
          have Ke:=ho2.lt
          have uA:N2=no+1:=xh.out
          clear ho2 qf hB2 hg2 rZ HA xh
          have hal:=az x2 (.cells #[] 31)
          have HY:=ae (ak (MG.empty x2 x2.heap.size (Nat.le_refl _)) (ak (HB.out.2.1.kept hal) (ak (HB.out.1.kept hal) (HB.out.2.2.trans (hal.mono HB.out.2.2.size)))))
          have zG:=HB.out.2.2.size
          have Kg:gl<x2.heap.size:=HB.out.2.1.lt.2
          clear hal HB
          have Kh:i<=cl:=by omega
          have hi1:i+1<=nl:=by omega
          have Ki:(i:Int)+1<=(nl:Int):=by omega
          have Kj:nl<=cl:=by omega
          have Kk:(0:Int)<=(i:Int)+1:=by omega
          have hwr:IntKind.i64.wrap ((i:Int)+1)=((i+1:Nat):Int):=by rw[IntKind.wrap_i64];omega
          have HW2:Hid (∀W,Below (x2.alloc (.cells #[] 31)).heap.size (x2.alloc (.cells #[] 31)) W->True):=fun _ _=>trivial
          by_cases hcn:cl=i+1
          · obtain rfl:nl=i+1:=by omega
            subst hcn
            have hii:(i:Int)<=(i:Int)+1:=by omega
            go_wp2_with fail
            go_region_law (first
              |(refine aV _ rfl (.tmp 113) (.tmp 116) rfl x2.heap.size x2.heap.size 0 0 [] (by simp[Act.eval]) HY.out.1 gl 0 i (i+1) (lf.take i) (by simp[Act.eval]) uy.out.1 (fun j u hu=>by rw[Nat.zero_add];exact HY.out.2.1.at (D8.out j u hu)) (by omega) (by simp) ?_;intro g3 c3 N3 x3 p9 ho3 hg3;have D9:=ho3.lt;have HZ:=ae (ak p9.out (ak ho3 (ak ((HY.out.2.1.kept (Below.refl _ _).drew).bD hg3 (by omega)) (ak ((HY.out.2.2.1.kept (Below.refl _ _).drew).bD hg3 (by omega)) (ak (aA HY.out.2.2.2.drew hg3 (by omega)) hg3.size)))));clear ho3 hg3 p9)
              |(refine aV _ rfl (.tmp 117) (.tmp 121) rfl x2.heap.size g3 N3 c3 _ (by simp[Act.eval]) HZ.out.2.1 gl 0 0 0 (lf.drop (i+1)) (by simp[Act.eval]) (by have:=uy.out.2;omega) (fun j u hu=>by have h0:lf.drop (i+1)=[]:=List.length_eq_zero_iff.1 (by have:=uy.out.2;omega);rw[h0]at hu;simp[aF]at hu) (by have:=HZ.out.1;omega) (by have:=HZ.out.2.2.2.2.2;simp at this;omega) ?_;intro g4 c4 N4 x4 vJ iU hg4;have Ea:=iU.lt;have HW:=ae (ak vJ.out (ak iU (ak (HZ.out.2.2.2.1.bD hg4 (by omega)) (aA HZ.out.2.2.2.2.1 hg4 (by omega)))));clear iU hg4 vJ))
            go_wp2
            go_roundg m
            case measure=>omega
            case rel=>have h1:=HW.out.2.1;rw[List.nil_append,←Ha.out]at h1;have h4:=HW.out.1;have h3:=HZ.out.1;exact⟨m,g4,N4,c4,g2,no+1,c2,lf.eraseIdx i,out++[⟨mt,mf⟩],rfl,by omega,rfl,rfl,MG.mono h1 zG,by rw[←uA];exact HW.out.2.2.1,by omega,by omega,by omega,⟨xK.out.1,by rw[show N4=i+1-1 by omega];exact xK.out.2,zZ.out⟩,HW.out.2.2.2⟩
          · go_wp2_with fail
            go_region_law (first
              |(refine aV _ rfl (.tmp 113) (.tmp 116) rfl x2.heap.size x2.heap.size 0 0 [] (by simp[Act.eval]) HY.out.1 gl 0 i cl (lf.take i) (by simp[Act.eval]) uy.out.1 (fun j u hu=>by rw[Nat.zero_add];exact HY.out.2.1.at (D8.out j u hu)) (by omega) (by simp) ?_;intro g3 c3 N3 x3 p9 ho3 hg3;have D9:=ho3.lt;have HZ:=ae (ak p9.out (ak ho3 (ak ((HY.out.2.1.kept (Below.refl _ _).drew).bD hg3 (by omega)) (ak ((HY.out.2.2.1.kept (Below.refl _ _).drew).bD hg3 (by omega)) (ak (aA HY.out.2.2.2.drew hg3 (by omega)) hg3.size)))));clear ho3 hg3 p9)
              |(refine aV _ rfl (.tmp 117) (.tmp 121) rfl x2.heap.size g3 N3 c3 _ (by simp[Act.eval]) HZ.out.2.1 gl ((i+1)*2) (nl-(i+1)) (cl-(i+1)) (lf.drop (i+1)) (by simp[Act.eval]) uy.out.2 (fun j u hu=>HZ.out.2.2.1.at (HDR.out j u hu)) (by have:=HZ.out.1;omega) (by have:=HZ.out.2.2.2.2.2;simp at this;omega) ?_;intro g4 c4 N4 x4 vJ iU hg4;have Ea:=iU.lt;have HW:=ae (ak vJ.out (ak iU (ak (HZ.out.2.2.2.1.bD hg4 (by omega)) (aA HZ.out.2.2.2.2.1 hg4 (by omega)))));clear iU hg4 vJ))
            go_wp2
            go_roundg m
            case measure=>omega
            case rel=>have h1:=HW.out.2.1;rw[List.nil_append,←Ha.out]at h1;have h4:=HW.out.1;have h3:=HZ.out.1;exact⟨m,g4,N4,c4,g2,no+1,c2,lf.eraseIdx i,out++[⟨mt,mf⟩],rfl,by omega,rfl,rfl,MG.mono h1 zG,by rw[←uA];exact HW.out.2.2.1,by omega,by omega,by omega,⟨xK.out.1,by rw[show N4=nl-1 by omega];exact xK.out.2,zZ.out⟩,HW.out.2.2.2⟩
        · have zC:¬(j:Int)<(nl:Int):=by omega
          have mW:=Mv.dL aJ.out
          have HI:=ae mW
          have hil:i<nl:=by rw[←mU.out];exact mW.1
          have GQ:(i:Int)<(nl:Int):=by omega
          have hi0:(0:Int)<=(i:Int):=by omega
          have hid:¬(i:Int)<0:=by omega
          have mJ:=HM.out.1.kept jP.out
          have hmo:=HM.out.2.1.kept jP.out
          have hBx:=HM.out.2.2.trans (jP.out.mono hw1)
          obtain⟨c0,c1⟩:=mJ.cell hil
          have hST:Mv.step lf=(lf.getD i .z,lf.eraseIdx i):=by unfold Mv.step;rw[aJ.out]
          have zZ:Hid (out++[lf.getD i .z]++Mv.dW m (lf.eraseIdx i)=T):=by show _=_;have h1:=HG.out.2.2;rw[Mv.eU (by rw[mU.out];exact hn0),hST]at h1;rw[List.append_assoc];exact h1
          have xK:Hid (Mv.Good (lf.eraseIdx i)/\(2*(nl-1)+1<=m\/Mv.lS (lf.eraseIdx i)/\2*(nl-1)<=m)):=⟨HG.out.1.erase mW.1, .inl (by omega)⟩
          have Ha:Hid (lf.eraseIdx i=lf.take i++lf.drop (i+1)):=List.eraseIdx_eq_take_drop_succ ..
          have uy:Hid ((lf.take i).length=i/\(lf.drop (i+1)).length=nl-(i+1)):=⟨by rw[List.length_take,mU.out];omega,by rw[List.length_drop,mU.out]⟩
          have D8:Hid (∀j u,(aF (lf.take i))[j]?=some u->(aF lf)[j]?=some u):=fun j u hu=>nU hu
          have HDR:Hid (∀j u,(aF (lf.drop (i+1)))[j]?=some u->(aF lf)[(i+1)*2+j]?=some u):=fun j u hu=>nY hu
          generalize lf.getD i .z=mv at c0 c1 zZ
          obtain⟨mt,mf⟩:=mv
          dsimp only at c0 c1
          have hcl:=mJ.cap
          have hgl:=mJ.lt
          have hgo:=hmo.lt
          have hal:=az x (.cells #[.int .i64 mt, .int .i64 mf] 31)
          have HA:=ae (ak (MG.one x w.heap.size hBx.size mt mf) (ak (mJ.kept hal) (ak (hmo.kept hal) (hBx.trans (hal.mono hBx.size)))))
          clear mJ hmo hBx hal mW aJ hST HM jP
          go_wp2_with(at_builtin;refine jG _ _ _ _ rfl ?_)
          refine⟨?_⟩
          refine dK _ rfl _ _ rfl w.heap.size _ _ _ _ rfl HA.out.2.2.1 x.heap.size 0 1 1 [⟨mt,mf⟩] rfl rfl (fun j u hu=>by rw[Nat.zero_add];exact HA.out.1.at hu) (by omega) HA.out.2.2.2.size ?_
          intro g2 c2 N2 x2 xh ho2 hg2 rZ
          have hs2:=hg2.size
          simp at hs2
          have qf:=HA.out.2.1.bD hg2 hne
          have hB2:=aA HA.out.2.2.2 hg2 hgo.1
          have hne2:gl≠g2:=by simp at rZ;omega
          have HB:=ae (ak ho2 (ak qf hB2))
          have Ke:=ho2.lt
          have uA:N2=no+1:=xh.out
          clear ho2 qf hB2 hg2 rZ HA xh
          have hal:=az x2 (.cells #[] 31)
          have HY:=ae (ak (MG.empty x2 x2.heap.size (Nat.le_refl _)) (ak (HB.out.2.1.kept hal) (ak (HB.out.1.kept hal) (HB.out.2.2.trans (hal.mono HB.out.2.2.size)))))
          have zG:=HB.out.2.2.size
          have Kg:gl<x2.heap.size:=HB.out.2.1.lt.2
          clear hal HB
          have Kh:i<=cl:=by omega
          have hi1:i+1<=nl:=by omega
          have Ki:(i:Int)+1<=(nl:Int):=by omega
          have Kj:nl<=cl:=by omega
          have Kk:(0:Int)<=(i:Int)+1:=by omega
          have hwr:IntKind.i64.wrap ((i:Int)+1)=((i+1:Nat):Int):=by rw[IntKind.wrap_i64];omega
          have HW2:Hid (∀W,Below (x2.alloc (.cells #[] 31)).heap.size (x2.alloc (.cells #[] 31)) W->True):=fun _ _=>trivial
          by_cases hcn:cl=i+1
          · obtain rfl:nl=i+1:=by omega
            subst hcn
            have hii:(i:Int)<=(i:Int)+1:=by omega
            go_wp2_with fail
            go_region_law (first
              |(refine aV _ rfl (.tmp 113) (.tmp 116) rfl x2.heap.size x2.heap.size 0 0 [] (by simp[Act.eval]) HY.out.1 gl 0 i (i+1) (lf.take i) (by simp[Act.eval]) uy.out.1 (fun j u hu=>by rw[Nat.zero_add];exact HY.out.2.1.at (D8.out j u hu)) (by omega) (by simp) ?_;intro g3 c3 N3 x3 p9 ho3 hg3;have D9:=ho3.lt;have HZ:=ae (ak p9.out (ak ho3 (ak ((HY.out.2.1.kept (Below.refl _ _).drew).bD hg3 (by omega)) (ak ((HY.out.2.2.1.kept (Below.refl _ _).drew).bD hg3 (by omega)) (ak (aA HY.out.2.2.2.drew hg3 (by omega)) hg3.size)))));clear ho3 hg3 p9)
              |(refine aV _ rfl (.tmp 117) (.tmp 121) rfl x2.heap.size g3 N3 c3 _ (by simp[Act.eval]) HZ.out.2.1 gl 0 0 0 (lf.drop (i+1)) (by simp[Act.eval]) (by have:=uy.out.2;omega) (fun j u hu=>by have h0:lf.drop (i+1)=[]:=List.length_eq_zero_iff.1 (by have:=uy.out.2;omega);rw[h0]at hu;simp[aF]at hu) (by have:=HZ.out.1;omega) (by have:=HZ.out.2.2.2.2.2;simp at this;omega) ?_;intro g4 c4 N4 x4 vJ iU hg4;have Ea:=iU.lt;have HW:=ae (ak vJ.out (ak iU (ak (HZ.out.2.2.2.1.bD hg4 (by omega)) (aA HZ.out.2.2.2.2.1 hg4 (by omega)))));clear iU hg4 vJ))
            go_wp2
            go_roundg m
            case measure=>omega
            case rel=>have h1:=HW.out.2.1;rw[List.nil_append,←Ha.out]at h1;have h4:=HW.out.1;have h3:=HZ.out.1;exact⟨m,g4,N4,c4,g2,no+1,c2,lf.eraseIdx i,out++[⟨mt,mf⟩],rfl,by omega,rfl,rfl,MG.mono h1 zG,by rw[←uA];exact HW.out.2.2.1,by omega,by omega,by omega,⟨xK.out.1,by rw[show N4=i+1-1 by omega];exact xK.out.2,zZ.out⟩,HW.out.2.2.2⟩
          · go_wp2_with fail
            go_region_law (first
              |(refine aV _ rfl (.tmp 113) (.tmp 116) rfl x2.heap.size x2.heap.size 0 0 [] (by simp[Act.eval]) HY.out.1 gl 0 i cl (lf.take i) (by simp[Act.eval]) uy.out.1 (fun j u hu=>by rw[Nat.zero_add];exact HY.out.2.1.at (D8.out j u hu)) (by omega) (by simp) ?_;intro g3 c3 N3 x3 p9 ho3 hg3;have D9:=ho3.lt;have HZ:=ae (ak p9.out (ak ho3 (ak ((HY.out.2.1.kept (Below.refl _ _).drew).bD hg3 (by omega)) (ak ((HY.out.2.2.1.kept (Below.refl _ _).drew).bD hg3 (by omega)) (ak (aA HY.out.2.2.2.drew hg3 (by omega)) hg3.size)))));clear ho3 hg3 p9)
              |(refine aV _ rfl (.tmp 117) (.tmp 121) rfl x2.heap.size g3 N3 c3 _ (by simp[Act.eval]) HZ.out.2.1 gl ((i+1)*2) (nl-(i+1)) (cl-(i+1)) (lf.drop (i+1)) (by simp[Act.eval]) uy.out.2 (fun j u hu=>HZ.out.2.2.1.at (HDR.out j u hu)) (by have:=HZ.out.1;omega) (by have:=HZ.out.2.2.2.2.2;simp at this;omega) ?_;intro g4 c4 N4 x4 vJ iU hg4;have Ea:=iU.lt;have HW:=ae (ak vJ.out (ak iU (ak (HZ.out.2.2.2.1.bD hg4 (by omega)) (aA HZ.out.2.2.2.2.1 hg4 (by omega)))));clear iU hg4 vJ))
            go_wp2
            go_roundg m
            case measure=>omega
            case rel=>have h1:=HW.out.2.1;rw[List.nil_append,←Ha.out]at h1;have h4:=HW.out.1;have h3:=HZ.out.1;exact⟨m,g4,N4,c4,g2,no+1,c2,lf.eraseIdx i,out++[⟨mt,mf⟩],rfl,by omega,rfl,rfl,MG.mono h1 zG,by rw[←uA];exact HW.out.2.2.1,by omega,by omega,by omega,⟨xK.out.1,by rw[show N4=nl-1 by omega];exact xK.out.2,zZ.out⟩,HW.out.2.2.2⟩
section
open Go.RowKit

def Bytes (w:World)(a:Option Addr)(len:Nat)(zs:List Int):Prop:=
 len<=maxLen/\(len=0\/∃b off,a=some ⟨b,off,none⟩/\b<w.heap.size/\(∀j,j<len->w.cell? ⟨b,off+j,none⟩=some (.int .u8 (zs.getD j 0)))/\∀j,0<=zs.getD j 0/\zs.getD j 0<=255)

def iX (w:World)(B:Nat)(a:Option Addr)(len cap:Nat)(zs:List Int):Prop:=
 B<w.heap.size/\(len=0\/∀x,a=some x->x.block<B)/\Bytes w a len zs/\
 w.cell? ⟨B,0,none⟩=some (.slice a len cap)/\
 w.frozen? ⟨B,1,none⟩=false/\w.frozen? ⟨B,2,none⟩=false/\
 (∃i:Nat,i<=len/\w.cell? ⟨B,1,none⟩=some (.int .i64 i))/\
 ∃h:Int,w.cell? ⟨B,2,none⟩=some (.int .i64 h)

theorem jX (W:World)(p:Addr)(v:Value):W.grownBy (W.setCell p v) (some p.block):=
 ⟨rfl,rfl,rfl,by simp[World.setCell],fun i _ hne=>Below.heap_setCell _ _ _ _ (fun e=>hne (by rw[e]))⟩
theorem nA (W:World)(n:Nat)(row:Option Nat):W.grownBy (W.drewN n) row:=⟨rfl,rfl,rfl,Nat.le_refl _,fun _ _ _=>rfl⟩
theorem dm {a b c:World}{row:Option Nat}(h:a.grownBy b row)(k:b.grownBy c row):a.grownBy c row:=
 ⟨k.os.trans h.os,k.tape.trans h.tape,k.output.trans h.output,Nat.le_trans h.size k.size,fun i hi hn=>(k.block i (aj hi h.size) hn).trans (h.block i hi hn)⟩
theorem Bytes.kept {w w':World}{a:Option Addr}{len:Nat}{zs:List Int}(h:Bytes w a len zs){row:Option Nat}(hg:w.grownBy w' row)(hr:len=0\/∀x,a=some x->some x.block≠row):Bytes w' a len zs:=by obtain⟨hl,h0|⟨b,off,rfl,hb,hcell,hz⟩⟩:=h;{exact⟨hl, .inl h0⟩};rcases hr with hr|hr;{exact⟨hl, .inl hr⟩};refine⟨hl, .inr ⟨b,off,rfl,aj hb hg.size,fun j hj=>?_,hz⟩⟩;exact(World.grownBy.cell_far hg ⟨b,off+j,none⟩ hb (hr ⟨b,off,none⟩ rfl)).trans (hcell j hj)
theorem iX.step {w w':World}{B:Nat}{a:Option Addr}{len cap:Nat}{zs:List Int}(hc:iX w B a len cap zs)(hg:w.grownBy w' (some B))(h0:w'.cell? ⟨B,0,none⟩=w.cell? ⟨B,0,none⟩)(hf:∀o,w'.frozen? ⟨B,o,none⟩=w.frozen? ⟨B,o,none⟩)(i:Nat)(hi:i<=len)(h1:w'.cell? ⟨B,1,none⟩=some (.int .i64 i))(h:Int)(h2:w'.cell? ⟨B,2,none⟩=some (.int .i64 h)):iX w' B a len cap zs:=by obtain⟨hB,hab,hrow,hc0,hf1,hf2,_,_⟩:=hc;exact⟨aj hB hg.size,hab,hrow.kept hg (hab.imp_right fun hab x e h=>by have:=hab x e;simp only[af]at h;omega),h0.trans hc0,(hf 1).trans hf1,(hf 2).trans hf2,⟨i,hi,h1⟩,h,h2⟩
theorem iX.kept {w w':World}{B:Nat}{a:Option Addr}{len cap:Nat}{zs:List Int}(hc:iX w B a len cap zs){row:Option Nat}(hg:w.grownBy w' row)(hr:some B≠row)(hr2:len=0\/∀x,a=some x->some x.block≠row):iX w' B a len cap zs:=by obtain⟨hB,hab,hrow,hc0,hf1,hf2,⟨i,hi,h1⟩,h,h2⟩:=hc;have c:∀o,w'.cell? ⟨B,o,none⟩=w.cell? ⟨B,o,none⟩:=fun o=>World.grownBy.cell_far hg _ hB hr;have f:∀o,w'.frozen? ⟨B,o,none⟩=w.frozen? ⟨B,o,none⟩:=fun o=>World.grownBy.frozen_far hg _ hB hr;exact⟨aj hB hg.size,hab,hrow.kept hg hr2,(c 0).trans hc0,(f 1).trans hf1,(f 2).trans hf2,⟨i,hi,(c 1).trans h1⟩,h,(c 2).trans h2⟩
theorem iX.one {w:World}{B:Nat}{a:Option Addr}{len cap:Nat}{zs:List Int}(hc:iX w B a len cap zs)(v:Int)(n:Nat):iX ((w.setCell ⟨B,2,none⟩ (.int .i64 v)).drewN n) B a len cap zs/\w.grownBy ((w.setCell ⟨B,2,none⟩ (.int .i64 v)).drewN n) (some B):=by have hg:w.grownBy ((w.setCell ⟨B,2,none⟩ (.int .i64 v)).drewN n) (some B):=dm (jX w ⟨B,2,none⟩ _) (nA _ _ _);refine⟨?_,hg⟩;have hc':=hc;obtain⟨hB,hab,hrow,hc0,hf1,hf2,⟨i,hi,hc1⟩,h,hc2⟩:=hc';exact hc.step hg (by go_simp) (fun o=>by go_simp) i hi (by go_simp) v (by go_simp)
theorem iX.two {w:World}{B:Nat}{a:Option Addr}{len cap:Nat}{zs:List Int}(hc:iX w B a len cap zs)(v:Int)(n:Nat)(j:Nat)(hj:j+1<=len):iX (((w.setCell ⟨B,2,none⟩ (.int .i64 v)).drewN n).setCell ⟨B,1,none⟩ (.int .i64 (j+1))) B a len cap zs/\w.grownBy (((w.setCell ⟨B,2,none⟩ (.int .i64 v)).drewN n).setCell ⟨B,1,none⟩ (.int .i64 (j+1))) (some B):=by obtain⟨hc',hg⟩:=hc.one v n;have hg2:w.grownBy (((w.setCell ⟨B,2,none⟩ (.int .i64 v)).drewN n).setCell ⟨B,1,none⟩ (.int .i64 (j+1))) (some B):=dm hg (jX _ ⟨B,1,none⟩ _);refine⟨?_,hg2⟩;have hc2:=hc;obtain⟨hB,hab,hrow,hc0,hf1,hf2,⟨i,hi,hc1⟩,h,hc3⟩:=hc2;exact hc.step hg2 (by go_simp) (fun o=>by go_simp) (j+1) hj (by go_simp) v (by go_simp)
theorem iX.new {w:World}{a:Option Addr}{len:Nat}(cap:Nat){zs:List Int}(hb:Bytes w a len zs)(v:Int)(t:TypeId):
   iX (w.alloc (.cells #[.slice a len cap, .int .i64 0, .int .i64 v] t)) w.heap.size a len cap zs:=
 ⟨by simp,hb.2.imp_right (fun⟨b,off,e,hlt,_⟩ x h=>by rw[e]at h;cases h;exact hlt),hb.kept (World.grownBy_alloc w _ none) (.inr (by simp)),by go_simp,by go_simp,by go_simp,⟨0,Nat.zero_le _,by go_simp⟩,v,by go_simp⟩
theorem uh (B:Nat)(a:Option Addr)(len cap:Nat)(zs:List Int)(w:World)(hc:iX w B a len cap zs):Calls Try.prog 63 #[.pointer (some ⟨B,0,none⟩)] w fun e w'=>∃x:Int,e= .returned (.int .i64 x)/\0<=x/\x<=255/\iX w' B a len cap zs/\w.grownBy w' (some B):=by have HC:Hid (iX w B a len cap zs):=hc;obtain⟨hB,hab,⟨hlen,hrow⟩,hc0,hf1,hf2,⟨i,hi,hc1⟩,h,hc2⟩:=hc;unfold maxLen at hlen;by_cases hlt:i<len;{rcases hrow with rfl|⟨b,off,rfl,hb,hcell,hz⟩;{omega};have hcj:=hcell i hlt;have hne:b<B:=hab.elim (fun h=>by omega) fun h=>h _ rfl;have hz1:=(hz i).1;have hz2:=(hz i).2;have aP:(i:Int)<(len:Int):=by{omega};clear hcell hz hab;go_enter Try.func63,Try.ntmps63;go_wp2;go_quiet (fail);go_wp2;go_quiet (fail);go_wp2;go_quiet (fail);go_wp2;go_ret;exact⟨_,rfl,(Wd.kW _).1,(Wd.kW _).2,HC.out.two _ _ i (by omega)⟩};have aP:¬(i:Int)<(len:Int):=by{omega};go_enter Try.func63,Try.ntmps63;go_wp2;go_quiet (fail);go_wp2;go_quiet (fail);go_wp2;go_ret;exact⟨_,rfl,(Wd.kW _).1,(Wd.kW _).2,by rw[World.drewN_drewN];exact HC.out.one _ _⟩
end
section
open Go.RowKit
theorem nM (a:Option Addr)(len cap:Nat)(zs:List Int)(w:World)(hb:Bytes w a len zs):Calls Try.prog 38 #[.slice a len cap] w fun e w'=>e= .returned (.pointer (some ⟨w.heap.size,0,none⟩))/\iX w' w.heap.size a len cap zs/\w.grownBy w' none:=by have HB:Hid (Bytes w a len zs):=hb;obtain⟨hlen,hrow⟩:=hb;unfold maxLen at hlen;go_enter Try.func38,Try.ntmps38;go_wp2;go_loop [3,4] (fun h i=>∃k:Nat,k<=len/\i= .int .i64 k/\∃v:Int,h= .int .i64 v) (fun _ i=>len-(intOf i).toNat);(case atStart=>exact⟨0,Nat.zero_le _,rfl,_,rfl⟩);case round=>obtain⟨k,hk,rfl,v,rfl⟩:=hrel;by_cases hlt:k<len;{rcases hrow with rfl|⟨b,off,rfl,hb,hcell,hz⟩;{omega};have hcj:=hcell k hlt;have aP:(k:Int)<(len:Int):=by{omega};clear hcell hz;go_wp2;go_round;(case rel=>exact⟨k+1,by omega,by go_num,_,rfl⟩);case measure=>simp[intOf];omega};have aP:¬(k:Int)<(len:Int):=by{omega};clear hrow;go_wp2;go_ret;exact⟨rfl,iX.new cap HB.out v _,World.grownBy_alloc _ _ _⟩
theorem xS {x n:Int}(h0:0<=x)(h1:x<=4294967295)(hn:0<n):0<=x%n/\x%n<=4294967295/\(x%n<n\/n<=0):=by have a:=Int.emod_nonneg x (show n≠0 by omega);have b:=Int.emod_lt_of_pos x hn;have c:x%n<=x:=by{have:=Int.emod_add_mul_ediv x n;have:=Int.mul_nonneg (show 0<=n by omega) (Int.ediv_nonneg h0 (show 0<=n by omega));omega};exact⟨a,by omega, .inl b⟩
def bK (w w':World)(B:Nat)(a:Option Addr)(len cap:Nat)(zs:List Int):Prop:=iX w' B a len cap zs/\w.grownBy w' (some B)
theorem bK.andThen {w w1 w2:World}{B:Nat}{a:Option Addr}{len cap:Nat}{zs:List Int}(h:bK w w1 B a len cap zs)(k:bK w1 w2 B a len cap zs):bK w w2 B a len cap zs:=
 ⟨k.1,dm h.2 k.2⟩
theorem bK.refl {w:World}{B:Nat}{a:Option Addr}{len cap:Nat}{zs:List Int}(h:iX w B a len cap zs):bK w w B a len cap zs:=⟨h,World.grownBy.refl _ _⟩
theorem dO (B:Nat)(a:Option Addr)(len cap:Nat)(zs:List Int)(w:World)(hc:iX w B a len cap zs):
   Calls Try.prog 63 #[.pointer (some ⟨B,0,none⟩)] w fun e w'=>∃x:Int,e= .returned (.int .i64 x)/\0<=x/\x<=255/\bK w w' B a len cap zs:=
 (uh B a len cap zs w hc).mono fun e w' ⟨x,h1,h2,h3,h4⟩=>⟨x,h1,h2,h3,h4⟩
theorem aU (B:Nat)(a:Option Addr)(len cap:Nat)(zs:List Int)(n:Int)(w:World)(hc:iX w B a len cap zs):Calls Try.prog 40 #[.pointer (some ⟨B,0,none⟩), .int .i64 n] w fun e w'=>∃x:Int,e= .returned (.int .i64 x)/\0<=x/\x<=4294967295/\(x<n\/n<=0)/\bK w w' B a len cap zs:=by by_cases h0:n<=0;{go_enter Try.func40,Try.ntmps40;go_wp2;go_ret;exact⟨0,rfl,by omega,by omega, .inr h0,bK.refl hc⟩};by_cases h1:n<=256;{go_enter Try.func40,Try.ntmps40;go_wp2_with fail;refine(dO B a len cap zs _ hc).mono ?_;rintro e w1 ⟨x,rfl,hx0,hx1,hd⟩;clear hc;go_wp2;go_ret;obtain⟨m1,m2,m3⟩:=xS hx0 (by omega:x<=4294967295) h0;exact⟨_,rfl,m1,m2,m3,hd⟩};go_enter Try.func40,Try.ntmps40;go_wp2_with fail;refine(dO B a len cap zs _ hc).mono ?_;rintro e w1 ⟨x,rfl,hx0,hx1,hd⟩;go_wp2_with fail;refine(dO B a len cap zs _ hd.1).mono ?_;rintro e w2 ⟨y,rfl,hy0,hy1,hd2⟩;go_wp2_with fail;refine(dO B a len cap zs _ hd2.1).mono ?_;rintro e w3 ⟨z,rfl,hz0,hz1,hd3⟩;go_wp2_with fail;refine(dO B a len cap zs _ hd3.1).mono ?_;rintro e w4 ⟨v,rfl,hv0,hv1,hd4⟩;go_wp2;go_ret;obtain⟨m1,m2,m3⟩:=xS (x:=x*16777216+y*65536+z*256+v) (by omega) (by omega) h0;exact⟨_,rfl,m1,m2,m3,((hd.andThen hd2).andThen hd3).andThen hd4⟩
end
section
open Go.RowKit
theorem bK.alloc {w w1:World}{B:Nat}{a:Option Addr}{len cap:Nat}{zs:List Int}(h:bK w w1 B a len cap zs)(o:Obj):bK w (w1.alloc o) B a len cap zs:=
 ⟨h.1.kept (World.grownBy_alloc w1 o none) (by simp) (.inr (by simp)),dm h.2 (World.grownBy_alloc w1 o _)⟩
theorem bK.zW {w w1 w2:World}{B:Nat}{a:Option Addr}{len cap:Nat}{zs:List Int}{o:Obj}(h:bK w w1 B a len cap zs)(h2:bK (w1.alloc o) w2 B a len cap zs)(k:Nat):w2.cell? ⟨w1.heap.size,k,none⟩=(w1.alloc o).cell? ⟨w1.heap.size,k,none⟩:=by have hB:=h.1.1;exact World.grownBy.cell_far h2.2 ⟨w1.heap.size,k,none⟩ (by simp) (by simp only[ne_eq,af];omega)
theorem bK.behind {w w1 w2:World}{B:Nat}{a:Option Addr}{len cap:Nat}{zs:List Int}{o:Obj}(h:bK w w1 B a len cap zs)(h2:bK (w1.alloc o) w2 B a len cap zs):bK w w2 B a len cap zs:=
 (h.alloc o).andThen h2
theorem dM (B:Nat)(a:Option Addr)(len cap:Nat)(zs:List Int)(n:Int)(w:World)(hc:iX w B a len cap zs):Calls Try.prog 41 #[.pointer (some ⟨B,0,none⟩), .int .i64 n] w fun e w'=>∃x:Bool,e= .returned (.bool x)/\bK w w' B a len cap zs:=by go_enter Try.func41,Try.ntmps41;go_wp2_with fail;refine(aU B a len cap zs n _ hc).mono ?_;rintro e w1 ⟨x,rfl,hx0,hx1,hx2,hd⟩;clear hx2;go_wp2;go_ret;exact⟨_,rfl,hd⟩
end
def BS (W:World)(n₀:Nat)(v:Value)(xs:List UInt8):Prop:=
 ∃g cap,v= .slice (some ⟨g,0,none⟩) xs.length cap/\n₀<=g/\g<W.heap.size/\xs.length<=cap/\(∀j (h:j<xs.length),W.cell? ⟨g,j,none⟩=some (AU xs[j]))/\(∀j,j<xs.length->W.frozen? ⟨g,j,none⟩=false)
theorem BS.kept {W W':World}{n₀:Nat}{v:Value}{xs:List UInt8}(h:BS W n₀ v xs){row:Option Nat}(hg:W.grownBy W' row)(hr:∀k,row=some k->k<n₀\/W.heap.size<=k):BS W' n₀ v xs:=by obtain⟨g,cap,hv,h0,hlt,hc,hx,hf⟩:=h;(have hne:some g≠row:=fun e=>by rcases hr g e.symm with h|h<;>omega);refine⟨g,cap,hv,h0,aj hlt hg.size,hc,fun j hj=>?_,fun j hj=>?_⟩;{exact(World.cell?_of_block (a:=⟨g,j,none⟩) (hg.block g hlt hne)).trans (hx j hj)};exact(World.frozen?_of_block (a:=⟨g,j,none⟩) (hg.block g hlt hne)).trans (hf j hj)
theorem BS.FH {W W':World}{n₀ g n cap:Nat}{xs:List UInt8}(h:BS W n₀ (.slice (some ⟨g,0,none⟩) n cap) xs){row:Option Nat}(hg:W.grownBy W' row)(hne:some g≠row):BS W' n₀ (.slice (some ⟨g,0,none⟩) n cap) xs:=by obtain⟨g',cap',hv,h0,hlt,hc,hx,hf⟩:=h;cases hv;refine⟨g,cap,rfl,h0,aj hlt hg.size,hc,fun j hj=>?_,fun j hj=>?_⟩;{exact(World.cell?_of_block (a:=⟨g,j,none⟩) (hg.block g hlt hne)).trans (hx j hj)};exact(World.frozen?_of_block (a:=⟨g,j,none⟩) (hg.block g hlt hne)).trans (hf j hj)
theorem BS.mono {W:World}{n₀ n₁:Nat}{v:Value}{xs:List UInt8}(h:BS W n₁ v xs)(hn:n₀<=n₁):BS W n₀ v xs:=by obtain⟨g,cap,hv,h0,r⟩:=h;exact⟨g,cap,hv,Nat.le_trans hn h0,r⟩
theorem BS.pV {W:World}{n₀ g n cap:Nat}{xs:List UInt8}(h:W.ownsRow n₀ 5 1 (.slice (some ⟨g,0,none⟩) n cap) n (xs.map AU)):BS W n₀ (.slice (some ⟨g,0,none⟩) n cap) xs:=by have hn:n=xs.length:=by{have:=h.1;simp at this;omega};subst hn;have hcs:=h.cells (g:=g) rfl;rcases h.2 with⟨h0,_⟩|⟨g',cap',cur,hv,hb,hg,hc,hm,hs,ht⟩;{cases h0};cases hv;refine⟨g,cap,rfl,hb,(Array.getElem?_eq_some_iff.1 hg).1,hc,fun j hj=>?_,fun j hj=>?_⟩;{have:=hcs j (AU xs[j]) (by simp[hj]);rwa [show(⟨g,0,none⟩:Addr).add j=⟨g,j,none⟩from by unfold Addr.add;split<;>simp_all]at this};simp[World.frozen?,hg]
theorem BS.take {W:World}{n₀ g n cap k:Nat}{xs:List UInt8}(h:BS W n₀ (.slice (some ⟨g,0,none⟩) n cap) xs)(hk:k<=n):BS W n₀ (.slice (some ⟨g,0,none⟩) k cap) (xs.take k):=by obtain⟨g',cap',hv,h0,hlt,hc,hx,hf⟩:=h;cases hv;have hl:(xs.take k).length=k:=by{simp;omega};refine⟨g,cap,by rw[hl],h0,hlt,by omega,fun j hj=>?_,fun j hj=>?_⟩;{have:=hx j (by omega);rw[this,List.getElem_take]};exact hf j (by omega)
theorem BS.set {W:World}{n₀ g n cap k:Nat}{xs:List UInt8}(h:BS W n₀ (.slice (some ⟨g,0,none⟩) n cap) xs)(hk:k<n)(b:UInt8):BS (W.setCell ⟨g,k,none⟩ (AU b)) n₀ (.slice (some ⟨g,0,none⟩) n cap) (xs.set k b):=by obtain⟨g',cap',hv,h0,hlt,hc,hx,hf⟩:=h;cases hv;refine⟨g,cap,by simp,h0,by simpa[World.setCell]using hlt,by simpa using hc,fun j hj=>?_,fun j hj=>?_⟩;{have hj':j<xs.length:=by{simpa using hj};by_cases e:k=j;{subst e;rw[World.cell?_setCell_same' _ _ _ (by rw[hx k hk];rfl)];simp};rw[World.cell?_setCell_other _ _ _ _ (by simp),hx j hj'];simp[e]};rw[World.frozen?_setCell];exact hf j (by simpa using hj)
theorem BS.alloc {W:World}{n₀ g n cap:Nat}{xs:List UInt8}(h:BS W n₀ (.slice (some ⟨g,0,none⟩) n cap) xs)(o:Obj):BS (W.alloc o) n₀ (.slice (some ⟨g,0,none⟩) n cap) xs:=h.FH (World.grownBy_alloc W o none) (by simp)
theorem lV {W W1 W2:World}{r:Option Nat}(h:W.grownBy W1 r)(hB:Below W1.heap.size W1 W2):W.grownBy W2 r:=
 ⟨hB.os.trans h.os,hB.tape.trans h.tape,hB.output.trans h.output,Nat.le_trans h.size hB.size,fun k hk hne=>(hB.block k (aj hk h.size)).trans (h.block k hk hne)⟩
theorem gI {w w':World}{B:Nat}{a:Option Addr}{len cap:Nat}{zs:List Int}(h:iX w B a len cap zs)(hB:Below w.heap.size w w'):iX w' B a len cap zs:=
 h.kept (row:=none) ⟨hB.os,hB.tape,hB.output,hB.size,fun k hk _=>hB.block k hk⟩ (by simp) (.inr (by simp))
theorem nX:∀(l:List Mv.M)(k:Nat)(y:Int),k<l.length->aF (l.set k ⟨y,(l.getD k .z).f⟩)=(aF l).set (k*2) (.int .i64 y)
 |[],k,y,h=>by simp at h
 |s::l,0,y,_=>rfl
 | s::l,k+1,y,h=>by
   have ih:=nX l k y (by simpa using h)
   rw[List.set_cons_succ,dI,dI,show(k+1)*2=k*2+1+1 by omega]
   simp only[List.set_cons_succ]
   have e:(s::l).getD (k+1) .z=l.getD k .z:=rfl
   rw[e,ih]
theorem MG.FY {W:World}{n₀ g n c:Nat}{l:List Mv.M}(h:MG W n₀ g n c l){j:Nat}(hj:j<n)(y:Int):MG (W.setCell ⟨g,j*2,none⟩ (.int .i64 y)) n₀ g n c (l.set j ⟨y,(l.getD j .z).f⟩):=by have hst:=(World.ownsRow.stored h.2 (j*2) (.int .i64 y)).1;refine⟨by rw[List.length_set];exact h.1,?_⟩;rw[nX l j y (by rw[h.1];exact hj)];exact hst
theorem MG.both {W:World}{n₀ g n c:Nat}{l:List Mv.M}(h:MG W n₀ g n c l){j:Nat}(hj:j<n)(t f:Int):∃l',MG ((W.setCell ⟨g,j*2,none⟩ (.int .i64 t)).setCell ⟨g,j*2+1,none⟩ (.int .i64 f)) n₀ g n c l':=
 ⟨_,(h.FY hj t).wE hj f⟩
theorem MG.block {W:World}{n₀ g n c:Nat}{l:List Mv.M}(h:MG W n₀ g n c l):∃cur,W.heap[g]?=some (.cells cur 31 (0,0)):=by rcases h.2.2 with⟨e,-⟩|⟨g',cap,cur,e,h1,h2,r⟩;{cases e};cases e;exact⟨cur,h2⟩
theorem OG.block {W:World}{n₀ g n c:Nat}{xs:List Int}(h:OG W n₀ g n c xs):∃cur,W.heap[g]?=some (.cells cur 2 (0,0)):=by rcases h.2.2 with⟨e,-⟩|⟨g',cap,cur,e,h1,h2,r⟩;{cases e};cases e;exact⟨cur,h2⟩
theorem Gu {W:World}{n₀ n₁ g n c g' n' c':Nat}{l:List Mv.M}{xs:List Int}(h:MG W n₀ g n c l)(h':OG W n₁ g' n' c' xs):g≠g':=by rintro rfl;obtain⟨x,hx⟩:=h.block;obtain⟨y,hy⟩:=h'.block;have:=hx.symm.trans hy;simp at this
def rF:List Int:=[0,1,2,3,4,100,101,102]
structure QD (w W:World)(B:Nat)(a:Option Addr)(len cap:Nat)(zs:List Int)(gt g n c:Nat)(l:List Mv.M):Prop where
 cu:iX W B a len cap zs
 gr:w.grownBy W (some B)
 tb:OG W w.heap.size gt 8 8 rF
 mg:MG W w.heap.size g n c l
 bw:B<w.heap.size
section
variable {w W W' : World} {B : Nat} {a : Option Addr} {len cap : Nat} {zs : List Int} {gt g n c : Nat} {l : List Mv.M}
theorem QD.bel (h:QD w W B a len cap zs gt g n c l)(hB:Below W.heap.size W W'):QD w W' B a len cap zs gt g n c l:=
 ⟨gI h.cu hB,lV h.gr hB,h.tb.kept hB,h.mg.kept hB,h.bw⟩
theorem QD.call (h:QD w W B a len cap zs gt g n c l)(hd:bK W W' B a len cap zs):QD w W' B a len cap zs gt g n c l:=
 ⟨hd.1,h.gr.trans hd.2,h.tb.bD hd.2 (by have:=h.tb.lt;have:=h.bw;omega),h.mg.bD hd.2 (by have:=h.mg.lt;have:=h.bw;omega),h.bw⟩
theorem QD.own (h:QD w W B a len cap zs gt g n c l)(hg:W.grownBy W' (some g)){g' n' c':Nat}{l':List Mv.M}(hm:MG W' w.heap.size g' n' c' l'):QD w W' B a len cap zs gt g' n' c' l':=by have h1:=h.mg.lt;have h2:=h.bw;refine⟨h.cu.kept hg (by simp only[ne_eq,af];omega) (h.cu.2.1.imp_right fun h9 z9 e9=>by have:=h9 z9 e9;simp only[ne_eq,af];omega),⟨hg.os.trans h.gr.os,hg.tape.trans h.gr.tape,hg.output.trans h.gr.output,Nat.le_trans h.gr.size hg.size,fun k hk hne=>(hg.block k (aj hk h.gr.size) (by simp only[ne_eq,af];omega)).trans (h.gr.block k hk hne)⟩,h.tb.bD hg (Gu h.mg h.tb).symm,hm,h2⟩
theorem QD.new (h:QD w W B a len cap zs gt g n c l):QD w (W.alloc (.cells #[] 31)) B a len cap zs gt W.heap.size 0 0 []:=
 have h2:=h.bel (az W (.cells #[] 31))
 ⟨h2.cu,h2.gr,h2.tb,MG.empty W w.heap.size h.gr.size,h.bw⟩
end
theorem yF (W:World)(t f:Int):∀j u,(aF [⟨t,f⟩])[j]?=some u->(W.alloc (.cells #[.int .i64 t, .int .i64 f] 31)).cell? ⟨W.heap.size,0+j,none⟩=some u:=fun j u hu=>by
 rw[Nat.zero_add]
 exact(MG.one W 0 (Nat.zero_le _) t f).at hu
theorem C8 (W:World)(t f t' f':Int):∀j u,(aF [⟨t,f⟩,⟨t',f'⟩])[j]?=some u->(W.alloc (.cells #[.int .i64 t, .int .i64 f, .int .i64 t', .int .i64 f'] 31)).cell? ⟨W.heap.size,0+j,none⟩=some u:=fun j u hu=>by
 have h:MG (W.alloc (.cells #[.int .i64 t, .int .i64 f, .int .i64 t', .int .i64 f'] 31)) 0 W.heap.size 2 2 [⟨t,f⟩,⟨t',f'⟩]:=
   ⟨rfl,rfl, .inr ⟨W.heap.size,2,#[.int .i64 t, .int .i64 f, .int .i64 t', .int .i64 f'],rfl,Nat.zero_le _,World.alloc_heap_new W _,Nat.le_refl _,by simp[maxLen],rfl,rfl⟩⟩
 rw[Nat.zero_add]
 exact h.at hu
theorem OG.FO (W:World)(n₀:Nat)(hn:n₀<=W.heap.size)(a b c d e f g h:Int):OG (W.alloc (.cells #[.int .i64 a, .int .i64 b, .int .i64 c, .int .i64 d, .int .i64 e, .int .i64 f, .int .i64 g, .int .i64 h] 2)) n₀ W.heap.size 8 8 [a,b,c,d,e,f,g,h]:=
 ⟨rfl,rfl, .inr ⟨W.heap.size,8,#[.int .i64 a, .int .i64 b, .int .i64 c, .int .i64 d, .int .i64 e, .int .i64 f, .int .i64 g, .int .i64 h],rfl,hn,World.alloc_heap_new W _,Nat.le_refl _,by simp[maxLen],rfl,rfl⟩⟩
theorem OG.BX (W:World)(n₀:Nat)(hn:n₀<=W.heap.size)(a b c d e f:Int):OG (W.alloc (.cells #[.int .i64 a, .int .i64 b, .int .i64 c, .int .i64 d, .int .i64 e, .int .i64 f] 2)) n₀ W.heap.size 6 6 [a,b,c,d,e,f]:=
 ⟨rfl,rfl, .inr ⟨W.heap.size,6,#[.int .i64 a, .int .i64 b, .int .i64 c, .int .i64 d, .int .i64 e, .int .i64 f],rfl,hn,World.alloc_heap_new W _,Nat.le_refl _,by simp[maxLen],rfl,rfl⟩⟩
theorem tN (W:World)(g a b c d:Nat)(u v x y:Value):W.grownBy ((((W.setCell ⟨g,a,none⟩ u).setCell ⟨g,b,none⟩ v).setCell ⟨g,c,none⟩ x).setCell ⟨g,d,none⟩ y) (some g):=
 (((aB W ⟨g,a,none⟩ u).trans (aB _ ⟨g,b,none⟩ v)).trans (aB _ ⟨g,c,none⟩ x)).trans (aB _ ⟨g,d,none⟩ y)
theorem jY (B:Nat) (a:Option Addr) (len cap:Nat) (zs:List Int) (w:World) (hc:iX w B a len cap zs):Calls Try.prog 39 #[.pointer (some ⟨B,0,none⟩)] w fun e w'=>∃g n c l,e= .returned (.slice (some ⟨g,0,none⟩) n c)/\n<=10/\MG w' w.heap.size g n c l/\bK w w' B a len cap zs:=by
 have hbw:=hc.1
 have Fa:Hid (QD w ((w.alloc (.cells #[.int .i64 0, .int .i64 1, .int .i64 2, .int .i64 3, .int .i64 4, .int .i64 100, .int .i64 101, .int .i64 102] 2)).alloc (.cells #[] 31)) B a len cap zs w.heap.size (w.heap.size+1) 0 0 []):=by have hal:=az w (.cells #[.int .i64 0, .int .i64 1, .int .i64 2, .int .i64 3, .int .i64 4, .int .i64 100, .int .i64 101, .int .i64 102] 2);have uC:=az (w.alloc (.cells #[.int .i64 0, .int .i64 1, .int .i64 2, .int .i64 3, .int .i64 4, .int .i64 100, .int .i64 101, .int .i64 102] 2)) (.cells #[] 31);have hs:(w.alloc (.cells #[.int .i64 0, .int .i64 1, .int .i64 2, .int .i64 3, .int .i64 4, .int .i64 100, .int .i64 101, .int .i64 102] 2)).heap.size=w.heap.size+1:=by{simp};have hm:=MG.empty (w.alloc (.cells #[.int .i64 0, .int .i64 1, .int .i64 2, .int .i64 3, .int .i64 4, .int .i64 100, .int .i64 101, .int .i64 102] 2)) w.heap.size hal.size;rw[hs]at hm;exact⟨gI (gI hc hal) uC,lV (lV (World.grownBy.refl w (some B)) hal) uC,(OG.FO w w.heap.size (Nat.le_refl _) 0 1 2 3 4 100 101 102).kept uC,hm,hbw⟩
 clear hc
 go_enter Try.func39,Try.ntmps39
 go_wp2
 go_loopg [4,5] 8 (fun gk vo vi wr=>∃(k g n c:Nat)(l:List Mv.M),gk=8-k/\k<=8/\vo= .slice (some ⟨g,0,none⟩) n c/\vi= .int .i64 (k:Int)/\n<=k/\QD w wr B a len cap zs w.heap.size g n c l)
 case atStart=>exact⟨0,_,0,0,[],rfl,by omega,rfl,rfl,Nat.le_refl _,Fa.out⟩
 case round =>
  obtain⟨k,g,n,c,l,kL,PQ,rfl,rfl,hnk,hq⟩:=hrel
  clear Fa
  have HQ:=ae hq
  clear hq
  by_cases hk:k<8
  · have I7:(k:Int)<8:=by omega
    go_wp2_with fail
    refine(dM B a len cap zs 2 _ HQ.out.cu).mono ?_
    rintro e w2 ⟨o,rfl,hd2⟩
    dsimp only
    have H2:=ae (HQ.out.call hd2)
    clear hd2 HQ
    cases o
    · go_wp2;go_roundg (8-(k+1));(case measure=>omega);case rel=>exact⟨k+1,g,n,c,l,rfl,hk,rfl,by simp,by omega,H2.out⟩
    · have hck:=H2.out.tb.cell (j:=k) hk
      have hgt2:=H2.out.tb.lt
      have Kl:=H2.out.mg.lt
      have hcap:=H2.out.mg.cap
      obtain⟨tk,htk⟩:∃t,rF.getD k 0=t:=⟨_,rfl⟩
      rw[htk]at hck
      have D8:=ae htk
      clear htk
      go_wp2_with fail
      go_region_law (first
        |(refine aV _ rfl (.tmp 21) (.tmp 32) rfl w.heap.size g n c l (by simp[Act.eval]) HM.out w5.heap.size 0 1 1 [⟨tk,tx⟩] (by simp[Act.eval]) rfl HN.out (by omega) (by have:=H5.out.gr.size;simp;omega) ?_;intro g6 c6 N6 w6 BA mK BB;have HF:=ae (ak BA.out (HY.out.own BB mK));clear mK BB BA)
        |(go_simp;refine(aU B a len cap zs 8 _ (H2.out.bel (Below.refl _ _).drew).cu).mono ?_;rintro e w5 ⟨x,rfl,hx0,-,Aa,hd5⟩;obtain⟨xn,rfl⟩:=Int.eq_ofNat_of_zero_le hx0;have mW:xn<8:=(by omega);have NV:(xn:Int)<8:=(by omega);have H5:=ae ((H2.out.bel (Below.refl _ _).drew).call hd5);have Km:=H5.out.tb.cell (j:=k) hk;have Kn:=H5.out.tb.cell mW;have NW:=H5.out.tb.lt;obtain⟨tx,htx⟩:∃t,rF.getD xn 0=t:=⟨_,rfl⟩;rw[D8.out]at Km;rw[htx]at Kn;have HY:=ae (H5.out.bel (az w5 (.cells #[.int .i64 tk, .int .i64 tx] 31)));have HM:=ae HY.out.mg;have HN:=ae (yF w5 tk tx);clear hd5 hx0 Aa htx))
      all_goals go_wp2;go_roundg (8-(k+1));(case measure=>omega);case rel=>exact⟨k+1,g6,N6,c6,_,rfl,hk,rfl,by simp,by have:=HF.out.1;omega,HF.out.2⟩
  · have hke:k=8:=by omega
    subst hke
    go_upto_if 35 with(go_at_call 41;refine(dM B a len cap zs 2 _ HQ.out.cu).mono ?_;rintro e w2 ⟨o,rfl,hd2⟩;have H2:=ae (HQ.out.call hd2);clear hd2;dsimp only)
    go_cut [4] (fun v4 wx=>∃(g n c:Nat)(l:List Mv.M),v4= .slice (some ⟨g,0,none⟩) n c/\n<=8/\QD w wx B a len cap zs w.heap.size g n c l)
    case first=>
     cases o
     · go_wp2_with fail;go_meet;case rel=>exact⟨g,n,c,l,rfl,hnk,H2.out⟩
     · have HX:=ae H2.out.new
       go_wp2_with fail
       refine(aU B a len cap zs 6 _ HX.out.cu).mono ?_
       rintro e w3 ⟨x,rfl,hx0,-,Aa,hd3⟩
       dsimp only
       obtain⟨xn,rfl⟩:=Int.eq_ofNat_of_zero_le hx0
       have hx6:xn<6:=by omega
       obtain⟨q,hqe⟩:∃q,xn+2=q:=⟨_,rfl⟩
       have PR:(2:Int)+(xn:Int)=(q:Int):=by omega
       have hq8:q<8:=by omega
       have hq0:¬(q:Int)=0:=by omega
       have NY:¬q=0:=by omega
       have H3:=ae (HX.out.call hd3)
       clear hd3 HX H2 HQ hx0 Aa hqe
       go_wp2
       go_loopg [4,7] q (fun gl vo vi wx=>∃(i g n c:Nat)(l:List Mv.M),gl=q-i/\i<=q/\vo= .slice (some ⟨g,0,none⟩) n c/\vi= .int .i64 (i:Int)/\n<=i/\QD w wx B a len cap zs w.heap.size g n c l)
       case atStart=>exact⟨0,_,0,0,[],rfl,by omega,rfl,rfl,Nat.le_refl _,H3.out⟩
       case round=>
        obtain⟨i,g,n,c,l,hgl,hi,rfl,rfl,hni,hq⟩:=hrel
        obtain⟨w4,rfl⟩:∃x,x=wr:=⟨_,rfl⟩
        clear H3
        have HQ:=ae hq
        clear hq
        by_cases NZ:i<q
        · have N7:(i:Int)<(q:Int):=by omega
          have Jd:i<8:=by omega
          have N8:(i:Int)<8:=by omega
          obtain⟨r,hr⟩:∃r,(i+1)%q=r:=⟨_,rfl⟩
          have N9:r<8:=by have:=Nat.mod_lt (i+1) (show 0<q by omega);omega
          have Oa:(r:Int)<8:=by omega
          have hm1:((i:Int)+1).tmod (q:Int)=(r:Int):=by rw[Int.tmod_eq_emod_of_nonneg (by omega),←hr];simp
          have hwr:IntKind.i64.wrap ((i:Int)+1)=(i:Int)+1:=by rw[IntKind.wrap_i64];omega
          have Bj:=(HQ.out.bel (Below.refl _ _).drew)
          have hck:=HQ.out.tb.cell (j:=i) Jd
          have hcr:=HQ.out.tb.cell (j:=r) N9
          have hgt2:=HQ.out.tb.lt
          have Kl:=HQ.out.mg.lt
          have hcap:=HQ.out.mg.cap
          generalize rF.getD i 0=tk at hck
          generalize rF.getD r 0=tr at hcr
          have HY:=ae (Bj.bel (az w4.drew (.cells #[.int .i64 tk, .int .i64 tr] 31)))
          have HM:=ae HY.out.mg
          have HN:=ae (yF w4.drew tk tr)
          have hsz:=HQ.out.gr.size
          clear Bj hr
          go_wp2_with fail
          go_region_law (first
            |(refine aV _ rfl (.tmp 45) (.tmp 58) rfl w.heap.size g n c l (by simp[Act.eval]) HM.out w4.heap.size 0 1 1 [⟨tk,tr⟩] (by simp[Act.eval]) rfl HN.out (by omega) (by simp;omega) ?_;intro g6 c6 N6 w6 BA mK BB;have HF:=ae (ak BA.out (HY.out.own BB mK));clear mK BB BA))
          all_goals go_wp2;go_roundg (q-(i+1));(case measure=>omega);case rel=>exact⟨i+1,g6,N6,c6,_,rfl,NZ,rfl,by simp,by have:=HF.out.1;omega,HF.out.2⟩
        · have hie:i=q:=by{omega};subst hie;go_wp2_with fail;go_meet;case rel=>exact⟨g,n,c,l,rfl,by omega,HQ.out⟩
    case rest=>obtain⟨g,n,c,l,rfl,G7,hq⟩:=hcut;clear HQ hnk;have HQ:=ae hq;have hcap:=hq.mg.cap;clear hq;have Ob:(n:Int)<=8:=by{omega};go_upto_region 16 with fail;go_cut [67] (fun v wx=>∃b:Bool,v= .bool b/\(b=true->1<n)/\QD w wx B a len cap zs w.heap.size g n c l);(case first=>by_cases h1:1<n;{have DV:(1:Int)<(n:Int):=by{omega};go_wp2_with fail;refine(dM B a len cap zs 2 _ HQ.out.cu).mono ?_;rintro e w5 ⟨o,rfl,hd5⟩;have H5:=ae (HQ.out.call hd5);clear hd5;dsimp only;go_wp2_with fail;go_meet;case rel=>exact⟨o,rfl,fun _=>h1,H5.out⟩};have DV:¬(1:Int)<(n:Int):=by{omega};go_wp2_with fail;go_meet;case rel=>exact⟨false,rfl,fun h=>absurd h (by decide),HQ.out⟩);case rest=>obtain⟨b,rfl,hb1,hq⟩:=hcut;clear HQ;have HQ:=ae hq;have HB1:=ae hb1;clear hq hb1;go_upto_if 67 with fail;go_cut [] (fun wx=>∃(l:List Mv.M),QD w wx B a len cap zs w.heap.size g n c l);(case first=>cases b;{go_wp2_with fail;go_meet;case rel=>exact⟨l,HQ.out⟩};have h1:=HB1.out rfl;obtain⟨p,hpe⟩:∃p,n=p+1:=⟨n-1,by omega⟩;subst hpe;have hp0:¬p=0:=by{omega};have xI:(p:Int)<(p:Int)+1:=by{omega};have hp1:(p:Int)+1-1=(p:Int):=by{omega};have PS:(p:Int)<=8:=by{omega};obtain⟨l1,hm1⟩:=HQ.out.mg.both (j:=0) (by omega) (l.getD p .z).t (l.getD p .z).f;obtain⟨l2,hm2⟩:=hm1.both (j:=p) (by omega) (l.getD 0 .z).t (l.getD 0 .z).f;rw[Nat.zero_mul,Nat.zero_add]at hm2;have hg2:=tN wc g 0 1 (p*2) (p*2+1) (.int .i64 (l.getD p .z).t) (.int .i64 (l.getD p .z).f) (.int .i64 (l.getD 0 .z).t) (.int .i64 (l.getD 0 .z).f);have HF:=ae ((HQ.out.own hg2 hm2).bel (az _ (.cells #[.int .i64 (l.getD 0 .z).t, .int .i64 (l.getD 0 .z).f] 31)));obtain⟨d0,d1⟩:=HQ.out.mg.cell (j:=0) (by omega);obtain⟨e0,e1⟩:=HQ.out.mg.cell (j:=p) (by omega);rw[Nat.zero_mul]at d0 d1;rw[Nat.zero_add]at d1;have hfz:=HQ.out.mg.frozen;have hgl:=HQ.out.mg.lt;generalize(l.getD p .z).t=tp at HF e0;generalize(l.getD p .z).f=fp at HF e1;generalize(l.getD 0 .z).t=t0 at HF d0;generalize(l.getD 0 .z).f=f0 at HF d1;clear hm1 hm2 hg2;go_wp2_with fail;go_meet;case rel=>exact⟨l2,HF.out⟩);case rest=>obtain⟨l,hq⟩:=hcut;clear HQ HB1;have HQ:=ae hq;clear hq;go_upto_region 21 with fail;go_cut [90] (fun v wx=>∃b:Bool,v= .bool b/\(b=true->0<n)/\QD w wx B a len cap zs w.heap.size g n c l);(case first=>by_cases h1:0<n;{have DV:(0:Int)<(n:Int):=by{omega};go_wp2_with fail;refine(dM B a len cap zs 10 _ HQ.out.cu).mono ?_;rintro e w5 ⟨o,rfl,hd5⟩;have H5:=ae (HQ.out.call hd5);clear hd5;dsimp only;go_wp2_with fail;go_meet;case rel=>exact⟨o,rfl,fun _=>h1,H5.out⟩};have DV:¬(0:Int)<(n:Int):=by{omega};go_wp2_with fail;go_meet;case rel=>exact⟨false,rfl,fun h=>absurd h (by decide),HQ.out⟩);case rest=>obtain⟨b,rfl,hb1,hq⟩:=hcut;clear HQ;have HQ:=ae hq;have HB1:=ae hb1;clear hq hb1;cases b;{go_wp2;go_ret;exact⟨g,n,c,l,rfl,by omega,HQ.out.mg,HQ.out.cu,HQ.out.gr⟩};have PT:=HB1.out rfl;have Od:(0:Int)<(n:Int):=by{omega};go_wp2_with fail;refine(aU B a len cap zs 3 _ HQ.out.cu).mono ?_;rintro e w5 ⟨x,rfl,hx0,-,Aa,hd5⟩;dsimp only;have H5:=ae (HQ.out.call hd5);have hx3:x=0\/x=1\/x=2:=by{omega};clear hd5 hx0 Aa HQ HB1;rcases hx3 with rfl|rfl|rfl;{go_wp2_with fail;refine(aU B a len cap zs (n:Int) _ H5.out.cu).mono ?_;rintro e w6 ⟨y,rfl,hy0,-,Eb,hd6⟩;dsimp only;obtain⟨j,rfl⟩:=Int.eq_ofNat_of_zero_le hy0;have hj:j<n:=by{omega};have zC:(j:Int)<(n:Int):=by{omega};have H6:=ae (H5.out.call hd6);have HT:=ae (OG.BX w6 w6.heap.size (Nat.le_refl _) (-1) (-2) 5 99 163 164);have HX:=ae (H6.out.bel (az w6 (.cells #[.int .i64 (-1), .int .i64 (-2), .int .i64 5, .int .i64 99, .int .i64 163, .int .i64 164] 2)));have Ko:B<w6.heap.size:=H6.out.cu.1;clear hd6 hy0 Eb H5;go_wp2_with fail;refine(aU B a len cap zs 6 _ HX.out.cu).mono ?_;rintro e w7 ⟨y,rfl,hy0,-,Eb,hd7⟩;dsimp only;obtain⟨yn,rfl⟩:=Int.eq_ofNat_of_zero_le hy0;have hyn:yn<6:=by{omega};have Kq:(yn:Int)<6:=by{omega};have Ed:=HT.out.bD hd7.2 (by omega);have htl:=Ed.lt;have hcl:=Ed.cell hyn;generalize([(-1),(-2),5,99,163,164]:List Int).getD yn 0=u at hcl;have zH:=ae (HX.out.call hd7);obtain⟨c0,c1⟩:=zH.out.mg.cell hj;have hfz:=zH.out.mg.frozen;have hgl:=zH.out.mg.lt;have HF:=ae (zH.out.own (aB w7 ⟨g,j*2+1,none⟩ (.int .i64 u)) (zH.out.mg.wE hj u));clear hd7 Ed HX HT H6 hy0 Eb;go_wp2;go_ret;exact⟨g,n,c,_,rfl,by omega,HF.out.mg,HF.out.cu,HF.out.gr⟩};{go_wp2_with fail;refine(aU B a len cap zs (n:Int) _ H5.out.cu).mono ?_;rintro e w6 ⟨y,rfl,hy0,-,Eb,hd6⟩;dsimp only;obtain⟨j,rfl⟩:=Int.eq_ofNat_of_zero_le hy0;have hj:j<n:=by{omega};have zC:(j:Int)<(n:Int):=by{omega};have H6:=ae (H5.out.call hd6);have HT:=ae (OG.BX w6 w6.heap.size (Nat.le_refl _) (-1) (-2) 5 163 164 0);have HX:=ae (H6.out.bel (az w6 (.cells #[.int .i64 (-1), .int .i64 (-2), .int .i64 5, .int .i64 163, .int .i64 164, .int .i64 0] 2)));have Ko:B<w6.heap.size:=H6.out.cu.1;clear hd6 hy0 Eb H5;go_wp2_with fail;refine(aU B a len cap zs 6 _ HX.out.cu).mono ?_;rintro e w7 ⟨y,rfl,hy0,-,Eb,hd7⟩;dsimp only;obtain⟨yn,rfl⟩:=Int.eq_ofNat_of_zero_le hy0;have hyn:yn<6:=by{omega};have Kq:(yn:Int)<6:=by{omega};have Ed:=HT.out.bD hd7.2 (by omega);have htl:=Ed.lt;have hcl:=Ed.cell hyn;generalize([(-1),(-2),5,163,164,0]:List Int).getD yn 0=u at hcl;have zH:=ae (HX.out.call hd7);obtain⟨c0,c1⟩:=zH.out.mg.cell hj;have hfz:=zH.out.mg.frozen;have hgl:=zH.out.mg.lt;have HF:=ae (zH.out.own (aB w7 ⟨g,j*2,none⟩ (.int .i64 u)) (zH.out.mg.FY hj u));clear hd7 Ed HX HT H6 hy0 Eb;go_wp2;go_ret;exact⟨g,n,c,_,rfl,by omega,HF.out.mg,HF.out.cu,HF.out.gr⟩};have hcap:=H5.out.mg.cap;have hgl:=H5.out.mg.lt;have hsz:=H5.out.gr.size;have HX:=ae (H5.out.bel (az w5 (.cells #[.int .i64 110, .int .i64 0, .int .i64 111, .int .i64 1] 31)));have HN:=ae (C8 w5 110 0 111 1);go_wp2_with(at_builtin;refine dK _ rfl _ _ rfl w.heap.size _ _ _ _ rfl HX.out.mg w5.heap.size 0 2 2 [⟨110,0⟩,⟨111,1⟩] rfl rfl HN.out (by omega) (by simp;omega) ?_;intro g6 c6 N6 w6 BA mK BB Kr;have HF:=ae (ak BA.out (HX.out.own BB mK));clear mK BB BA Kr);go_ret;exact⟨g6,N6,c6,_,rfl,by have:=HF.out.1;omega,HF.out.2.mg,HF.out.2.cu,HF.out.2.gr⟩
theorem kJ (a:Option Addr)(len cap:Nat)(zs:List Int)(w:World)(hb:Bytes w a len zs):Calls Try.prog 31 #[.slice a len cap] w fun e w'=>∃g n c l,e= .returned (.slice (some ⟨g,0,none⟩) n c)/\n<=10/\MG w' w.heap.size g n c l/\Below w.heap.size w w':=by go_enter Try.func31,Try.ntmps31;go_wp2_with fail;refine(nM a len cap zs _ hb).mono ?_;rintro e w1 ⟨rfl,hc,hg⟩;(try dsimp only);have hB1:Below w.heap.size w w1:=⟨hg.os,hg.tape,hg.output,hg.size,fun k hk=>hg.block k hk (by simp)⟩;clear hb hg;go_wp2_with fail;refine(jY w.heap.size a len cap zs _ hc).mono ?_;rintro e w2 ⟨g,n,c,l,rfl,hn,hm,hd⟩;dsimp only;have HF:Hid (MG w2 w.heap.size g n c l/\Below w.heap.size w w2):=⟨hm.mono hB1.size,⟨hd.2.os.trans hB1.os,hd.2.tape.trans hB1.tape,hd.2.output.trans hB1.output,Nat.le_trans hB1.size hd.2.size,fun k hk=>(hd.2.block k (aj hk hB1.size) (by simp only[ne_eq,af];omega)).trans (hB1.block k hk)⟩⟩;clear hm hd hc hB1;go_wp2;go_ret;exact⟨g,n,c,l,rfl,hn,HF.out.1,HF.out.2⟩
theorem kE (a:Option Addr)(len cap:Nat)(zs:List Int)(w:World)(hb:Bytes w a len zs):Calls Try.prog 9 #[.slice a len cap] w fun e w'=>∃g n c l,e= .returned (.slice (some ⟨g,0,none⟩) n c)/\n<=10/\MG w' w.heap.size g n c l/\Below w.heap.size w w':=by go_enter Try.func9,Try.ntmps9;go_wp2_with fail;refine(kJ a len cap zs _ hb).mono ?_;rintro e w2 ⟨g,n,c,l,rfl,hn,hm,hB⟩;dsimp only;have HF:=ae (ak hm hB);clear hm hB hb;go_wp2;go_ret;exact⟨g,n,c,l,rfl,hn,HF.out.1,HF.out.2⟩
theorem yM (W:World)(n₀:Nat)(hn:n₀<=W.heap.size)(y:Int):∀j,j<1->(W.alloc (.cells #[.int .i64 y] 2)).cell? ⟨W.heap.size,0+j,none⟩=some (.int .i64 (([y]:List Int).getD j 0)):=fun j hj=>by
 rw[Nat.zero_add]
 exact(OG.one W n₀ hn y).cell hj
theorem lX (a:Option Addr)(len cap:Nat)(zs:List Int)(w:World)(hb:Bytes w a len zs):Calls Try.prog 15 #[.slice a len cap] w fun e w'=>∃g n c l gv nv cv xs,e= .returned (.tuple #[.slice (some ⟨g,0,none⟩) n c, .slice (some ⟨gv,0,none⟩) nv cv])/\n<=10/\nv<=11/\MG w' w.heap.size g n c l/\OG w' w.heap.size gv nv cv xs/\Below w.heap.size w w':=by go_enter Try.func15,Try.ntmps15;go_wp2_with fail;refine(nM a len cap zs _ hb).mono ?_;rintro e w1 ⟨rfl,hc,hg⟩;(try dsimp only);have hB1:Below w.heap.size w w1:=⟨hg.os,hg.tape,hg.output,hg.size,fun k hk=>hg.block k hk (by simp)⟩;have hC:w.heap.size<w1.heap.size:=hc.1;clear hb hg;go_wp2_with fail;refine(jY w.heap.size a len cap zs _ hc).mono ?_;rintro e w2 ⟨g,n,c,l,rfl,hn,hm,hd⟩;dsimp only;have HB2:Hid (Below w.heap.size w w2):=⟨hd.2.os.trans hB1.os,hd.2.tape.trans hB1.tape,hd.2.output.trans hB1.output,Nat.le_trans hB1.size hd.2.size,fun k hk=>(hd.2.block k (aj hk hB1.size) (by simp only[ne_eq,af];omega)).trans (hB1.block k hk)⟩;have hal:=az w2 (.cells #[] 2);have Oe:=hd.2.size;have HX:=ae (ak (gI hd.1 hal) (ak (hm.kept hal) (ak (OG.empty w2 w2.heap.size (Nat.le_refl _)) (HB2.out.trans (hal.mono HB2.out.size)))));have L6:(n:Int)<=10:=by{omega};have qf:=hm.lt;have hcap:=hm.cap;clear hm hd hc hB1 HB2 hal;go_wp2;go_loopg [6,7] n (fun gk vo vi wr=>∃(k gv nv cv:Nat)(xs:List Int),gk=n-k/\k<=n/\vo= .slice (some ⟨gv,0,none⟩) nv cv/\vi= .int .i64 (k:Int)/\nv<=k/\iX wr w.heap.size a len cap zs/\MG wr w1.heap.size g n c l/\OG wr w2.heap.size gv nv cv xs/\Below w.heap.size w wr);(case atStart=>exact⟨0,_,0,0,[],rfl,by omega,rfl,rfl,Nat.le_refl _,HX.out.1,HX.out.2.1,HX.out.2.2.1,HX.out.2.2.2⟩);case round=>obtain⟨k,gv,nv,cv,xs,kL,hk,rfl,rfl,Og,Bj,hm,ho,hB⟩:=hrel;clear HX;have HY:=ae (ak Bj (ak hm (ak ho hB)));have hgv:=ho.lt;clear Bj hm ho hB;by_cases hkn:k<n;{have uB:(k:Int)<(n:Int):=by{omega};go_wp2_with fail;refine(aU w.heap.size a len cap zs 99 _ HY.out.1).mono ?_;rintro e w4 ⟨x,rfl,hx0,-,Aa,hd⟩;dsimp only;have hgr:=hd.2;have hal:=az w4 (.cells #[.int .i64 x] 2);have hB4:Below w.heap.size w w4:=⟨hgr.os.trans HY.out.2.2.2.os,hgr.tape.trans HY.out.2.2.2.tape,hgr.output.trans HY.out.2.2.2.output,Nat.le_trans HY.out.2.2.2.size hgr.size,fun k hk=>(hgr.block k (aj hk HY.out.2.2.2.size) (by simp only[ne_eq,af];omega)).trans (HY.out.2.2.2.block k hk)⟩;have hsz:=hgr.size;have HZ:=ae (ak (gI hd.1 hal) (ak ((HY.out.2.1.bD hgr (by omega)).kept hal) (ak ((HY.out.2.2.1.bD hgr (by omega)).kept hal) (hB4.trans (hal.mono hB4.size)))));have HN:=ae (yM w4 0 (Nat.zero_le _) x);have hwz:w2.heap.size<=w4.heap.size:=by{omega};clear hd hgr hal hB4 hx0 Aa HY;go_wp2_with(at_builtin;refine aT _ rfl _ _ rfl w2.heap.size _ _ _ _ rfl HZ.out.2.2.1 w4.heap.size 0 1 1 [x] rfl rfl HN.out (by omega) (by simp;omega) ?_;intro g5 c5 N5 w5 zI sN hg5;have HF:=ae (ak zI.out (ak sN (ak (HZ.out.1.kept hg5 (by simp only[ne_eq,af];omega) (HZ.out.1.2.1.imp_right fun h9 z9 e9=>by have:=h9 z9 e9;simp only[ne_eq,af];omega)) (ak (HZ.out.2.1.bD hg5 (by omega)) (aA HZ.out.2.2.2 hg5 (by omega))))));clear sN hg5 zI);go_roundg (n-(k+1));(case measure=>omega);case rel=>exact⟨k+1,g5,N5,c5,_,rfl,hkn,rfl,by simp,by have:=HF.out.1;omega,HF.out.2.2.1,HF.out.2.2.2.1,HF.out.2.1,HF.out.2.2.2.2⟩};have hke:k=n:=by{omega};subst hke;have Hd:w.heap.size<=w2.heap.size:=by{omega};go_wp2_with fail;refine(dM w.heap.size a len cap zs 10 _ HY.out.1).mono ?_;rintro e w4 ⟨o,rfl,hd⟩;dsimp only;have hgr:=hd.2;have hB4:Below w.heap.size w w4:=⟨hgr.os.trans HY.out.2.2.2.os,hgr.tape.trans HY.out.2.2.2.tape,hgr.output.trans HY.out.2.2.2.output,Nat.le_trans HY.out.2.2.2.size hgr.size,fun k hk=>(hgr.block k (aj hk HY.out.2.2.2.size) (by simp only[ne_eq,af];omega)).trans (HY.out.2.2.2.block k hk)⟩;have hsz:=hgr.size;have HZ:=ae (ak (HY.out.2.1.bD hgr (by omega)) (ak (HY.out.2.2.1.bD hgr (by omega)) hB4));clear hd hgr hB4 HY;cases o;{go_wp2;go_ret2;exact⟨g,k,c,l,gv,nv,cv,xs,rfl,hn,by omega,HZ.out.1.mono (Nat.le_of_lt hC),HZ.out.2.1.mono Hd,HZ.out.2.2⟩};have hal:=az w4 (.cells #[.int .i64 1] 2);have HW:=ae (ak (HZ.out.1.kept hal) (ak (HZ.out.2.1.kept hal) (HZ.out.2.2.trans (hal.mono HZ.out.2.2.size))));have HN:=ae (yM w4 0 (Nat.zero_le _) 1);have hwz:w2.heap.size<=w4.heap.size:=by{omega};clear hal HZ;go_wp2_with(at_builtin;refine aT _ rfl _ _ rfl w2.heap.size _ _ _ _ rfl HW.out.2.1 w4.heap.size 0 1 1 [1] rfl rfl HN.out (by omega) (by simp;omega) ?_;intro g5 c5 N5 w5 zI sN hg5;have HF:=ae (ak zI.out (ak sN (ak (HW.out.1.bD hg5 (by omega)) (aA HW.out.2.2 hg5 (by omega)))));clear sN hg5 zI);go_ret2;exact⟨g,k,c,l,g5,N5,c5,_,rfl,hn,by have:=HF.out.1;omega,HF.out.2.2.1.mono (Nat.le_of_lt hC),HF.out.2.1.mono Hd,HF.out.2.2.2⟩
namespace aK
end aK
structure vg where
 st:Int
 wd:Int
 cm:Bool
namespace Hg
def mx (a b:Int):Int:=if a<b then b else a
def tk (fs:List Fn)(p a:Int):Int:=
 if p=3\/p=7\/p=14\/p=10 then 1 else if p=4\/p=6\/p=17 then 1 else if p=5 then 2 else if p=18 then 2 else if p=16 then(fs.getD a.toNat .z).a else 0
def pt (fs:List Fn)(p a:Int):Int:=
 if p=1\/p=2 then 1 else if p=4\/p=6\/p=17 then 1 else if p=5 then 1 else if p=16 then(fs.getD a.toNat .z).g else 0
def bad (fs:List Fn)(f:Fn)(o:Int)(n:Nat)(p a:Int):Bool:=
 decide ((p=2\/p=3\/p=4)/\f.a+f.l<=a)||decide (p=16/\(fs.length:Int)<=a)||decide ((p=13\/p=14)/\(n:Int)-1<a)||decide (p=10/\a=1/\o<0)
def Nt (S:List vg)(a:Int):Int:=(S.getD a.toNat ⟨0,0,false⟩).wd
def Lp (f:Fn)(p a h mo:Int)(x:vg)(S:List vg):Option (Int×Int×List vg):=
 if p=8\/p=9\/p=10 then some (h,mo,⟨h,a,decide (0<=h)⟩::x::S)
 else if p=13\/p=14 then(if 0<=h/\h-x.st<Nt (x::S) a then none else some (if p=13 then -1 else h,mo,x::S))
 else if p=15 then(if 0<=h/\h-x.st<f.g then none else some (-1,mo,x::S))
 else if p=19 then some (-1,mo,x::S)
 else if p=11 then(if 0<=h/\h-x.st≠x.wd then none else some (if x.cm=true then x.st else -1,mx mo (if x.cm=true then x.st else -1),x::S))
 else if p=12 then(if 0<=h/\h-x.st≠x.wd then none else some (if x.cm=true then x.st+x.wd else -1,mx mo (if x.cm=true then x.st+x.wd else -1),S))
 else some (h,mo,x::S)
def one (fs:List Fn)(f:Fn)(o p a h mo:Int)(S:List vg):Option (Int×Int×List vg):=
 match S with
 |[]=>none
 | x::S'=>
   if bad fs f o (S'.length+1) p a=true then none
   else if 0<=h then(if h-x.st<tk fs p a then none else Lp f p a (h-tk fs p a+pt fs p a) (mx mo (h-tk fs p a+pt fs p a)) x S')
   else Lp f p a h mo x S'
def go (fs:List Fn)(f:Fn)(O:List Int):Nat->Nat->Int->Int->List vg->List Int->Option (List Int×Int)
 |0,_,_,mo,_,out=>some (out,mo)
 | n+1,i,h,mo,S,out=>
   match one fs f (O.getD i (-1)) (aK.op f.b i) (f.b.getD i (0,0)).2 h mo S with
   |none=>none
   |some (h',Je,S')=>go fs f O n (i+1) h' Je S' (out++[h])
def all (fs:List Fn)(f:Fn):Option (List Int×Int):=go fs f (aK.jW f.b) f.b.length 0 0 f.g [⟨0,f.g,true⟩] []
def Lu (fs:List Fn)(f:Fn):Option (List Int×Int):=
 if aK.isOk f.b=true then match all fs f with
   |some (out,mo)=>if mo<=20 then some (out,mo)else none
   |none=>none
 else none
def Bc (fs:List Fn)(d:ByteArray)(k:Int):Option (List Int×Int):=if Md.ok fs d=true/\0<=k/\k<fs.length then Lu fs (fs.getD k.toNat .z)else none
def valid (fs:List Fn)(d:ByteArray):Bool:=Md.ok fs d&&(List.range fs.length).all fun(k:Nat)=>(Bc fs d k).isSome
theorem oN {fs:List Fn}{f:Fn}{O:List Int}{i:Nat}{h mo h' Je:Int}{S S':List vg}{out:List Int}(hi:i<f.b.length)(h1:one fs f (O.getD i (-1)) (aK.op f.b i) (f.b.getD i (0,0)).2 h mo S=some (h',Je,S')):go fs f O (f.b.length-i) i h mo S out=go fs f O (f.b.length-(i+1)) (i+1) h' Je S' (out++[h]):=by rw[show f.b.length-i=(f.b.length-(i+1))+1 by omega,go,h1]
theorem oO {fs:List Fn}{f:Fn}{O:List Int}{i:Nat}{h mo:Int}{S:List vg}{out:List Int}(hi:i<f.b.length)(h1:one fs f (O.getD i (-1)) (aK.op f.b i) (f.b.getD i (0,0)).2 h mo S=none):go fs f O (f.b.length-i) i h mo S out=none:=by rw[show f.b.length-i=(f.b.length-(i+1))+1 by omega,go,h1]
end Hg
def xM (W:World)(b:Nat)(v0 v1 v2 v3:Value):Prop:=
 b<W.heap.size/\W.cell? ⟨b,0,none⟩=some v0/\W.cell? ⟨b,1,none⟩=some v1/\W.cell? ⟨b,2,none⟩=some v2/\W.cell? ⟨b,3,none⟩=some v3/\W.frozen? ⟨b,0,none⟩=false/\W.frozen? ⟨b,1,none⟩=false/\W.frozen? ⟨b,2,none⟩=false/\W.frozen? ⟨b,3,none⟩=false
theorem xM.kept {W W':World}{b:Nat}{v0 v1 v2 v3:Value}(h:xM W b v0 v1 v2 v3)(hB:Below W.heap.size W W'):xM W' b v0 v1 v2 v3:=by obtain⟨h0,h1,h2,h3,h4,h5,h6,h7,h8⟩:=h;exact⟨aj h0 hB.size,(hB.cell h0).trans h1,(hB.cell h0).trans h2,(hB.cell h0).trans h3,(hB.cell h0).trans h4,(hB.frozen h0).trans h5,(hB.frozen h0).trans h6,(hB.frozen h0).trans h7,(hB.frozen h0).trans h8⟩
theorem xM.new (W:World)(v0 v1 v2 v3:Value)(t:TypeId):xM (W.alloc (.cells #[v0,v1,v2,v3] t)) W.heap.size v0 v1 v2 v3:=by refine⟨by simp,?_,?_,?_,?_,?_,?_,?_,?_⟩<;>go_simp
def yh (W:World)(b:Nat)(v0 v1:Value):Prop:=
 b<W.heap.size/\W.cell? ⟨b,0,none⟩=some v0/\W.cell? ⟨b,1,none⟩=some v1/\W.frozen? ⟨b,0,none⟩=false/\W.frozen? ⟨b,1,none⟩=false
theorem yh.kept {W W':World}{b:Nat}{v0 v1:Value}(h:yh W b v0 v1)(hB:Below W.heap.size W W'):yh W' b v0 v1:=by obtain⟨h0,h1,h2,h5,h6⟩:=h;exact⟨aj h0 hB.size,(hB.cell h0).trans h1,(hB.cell h0).trans h2,(hB.frozen h0).trans h5,(hB.frozen h0).trans h6⟩
theorem yh.new (W:World)(v0 v1:Value)(t:TypeId):yh (W.alloc (.cells #[v0,v1] t)) W.heap.size v0 v1:=by refine⟨by simp,?_,?_,?_,?_⟩<;>go_simp
namespace Hg
def Lv:Int->List vg->Prop
 |_,[]=>True
 |h,x::S=>(0<=h->0<=x.st)/\x.cm=decide (0<=x.st)/\Lv x.st S
theorem Lv.mono {h h':Int}{S:List vg}(H:Lv h S)(hh:0<=h'->0<=h):Lv h' S:=by
 cases S with
 |nil=>trivial
 |cons x S=>exact⟨fun e=>H.1 (hh e),H.2⟩
end Hg
end Go.Proofs.Ythamlonlgnjljaa
