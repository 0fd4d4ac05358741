/-
  Proved: at every list of numbers the program's CellarSize answers as the specification's does and writes nothing of what it is given, and the law FnExactCellarSize returns true; no condition.
-/
import Derived.Test.YtpipjiinmhopmaaMB14
import Derived.ShutString
namespace Go.Proofs.Ytpipjiinmhopmaa.fnExactCellarSize
open Go.ChangeShapes Go.WideShapes Go.ChangeAt Go.RowKit Go.Deep
open Go.ChangeMaps (open_string shut_string)
set_option linter.all false
set_option maxRecDepth 20000
theorem own:ownKnob Try.prog.godebug=none:=by kernel_rfl
theorem laidOut:laidOutB Try.prog=true:=by kernel_rfl
set_option maxHeartbeats 4000000 in
theorem walk (a:Option Addr)(len cap:Nat)(xs:List Int)(w:World)(hs:IL w a len xs):Calls Try.prog 4 #[.slice a len cap] w fun e w'=>e= .returned (.bool true)/\Below w.heap.size w w':=by have hmx:=hs.2.1;unfold maxLen at hmx;by_cases hbig:1048576<len;{have qw:(1048576:Int)<(len:Int):=by{omega};go_enter Try.func4,Try.ntmps4;go_wp2;go_ret;exact⟨rfl,Below.refl _ _⟩};have qw:¬(1048576:Int)<(len:Int):=by{omega};have Cw:=ae hs.1;have hspec:=fun a cap W (h:IL W a len xs)=>gB a len cap xs (by omega) W h;have iG:=fun a cap W (h:IL W a len xs)=>gy a len cap xs (by omega) W h;obtain⟨x,hx⟩:∃x:Int,((Hm.size xs:Nat):Int)=x:=⟨_,rfl⟩;rw[hx]at hspec iG;clear hx;have HI:=ae iG;have nV:=ae hspec;clear iG hspec;go_enter Try.func4,Try.ntmps4;go_wp2_with fail;refine(bC a len cap xs (by omega) _ hs).mono ?_;rintro e w1 ⟨g1,c1,rfl,hg1,xJ,hB1⟩;dsimp only;go_wp2_with fail;refine(nV.out _ _ _ (OI.il xJ).2).mono ?_;rintro e w2 ⟨rfl,aM⟩;subst w2;dsimp only;have hBa:=hB1;clear xJ hB1;go_wp2_with fail;refine(bC a len cap xs (by omega) _ (hs.kept hBa)).mono ?_;rintro e w3 ⟨g3,c3,rfl,hg3,uY,hB3⟩;dsimp only;have hBb:=hBa.trans (hB3.mono hBa.size);clear hBa hB3;go_wp2_with fail;refine(HI.out _ _ _ (OI.il uY).2).mono ?_;rintro e w4 ⟨rfl,hB4⟩;dsimp only;have yn:=hBb.trans (hB4.mono hBb.size);have xK:=uY.kept hB4;clear hBb hB4 uY;go_wp2_with fail;refine(bC a len cap xs (by omega) _ (hs.kept yn)).mono ?_;rintro e w5 ⟨g5,c5,rfl,hg5,xL,bE⟩;dsimp only;have hBd:=yn.trans (bE.mono yn.size);have xM:=xK.kept bE;clear yn bE xK;go_wp2_with fail;refine(bR _ _ _ _ _ xs _ (OI.il xM).2 (OI.il xL).2).mono ?_;rintro e w6 ⟨rfl,kX⟩;dsimp only;have xW:=hBd.trans (kX.mono hBd.size);clear hBd kX xL xM;go_wp2;go_ret;exact⟨rfl,xW⟩
set_option maxRecDepth 100000 in
theorem lifted (os:Os)(started:os.Started)(H:Type)(enc:TypeId×Value->H):ReturnsInHanded {} Try.checked os 4 .any (Rows.fnExactCellarSizeSpec.pre6 enc Try.prog Try.f4 Rows.fnExactCellarSizeRow.domain false) (Rows.fnExactCellarSizeSpec.post enc Try.prog Try.f4 false true false false):=by refine returnsInHanded_of_change (C:=Try.checked) own started (by kernel_rfl) Try.func4 (ChangeSpec.witness6 (enc:=enc) (C:=Try.checked) false ⟨#[],#[.slice none 0 0],[]⟩ 8 (by kernel_rfl) (by kernel_rfl) (by kernel_rfl) (by kernel_rfl)) ?_;intro W base args ds gs before hval0 hW hcnd _;have hval:∀(j:Nat) t v,Try.f4.params[j]?=some t->args[j]?=some v->Value.okWide Try.prog W .any base t v:=hval0;have hW':=hW;obtain⟨p,q,xN,hV,rfl,hfz,hnd⟩:=hW;have hA:DataW.TrodAll enc Try.prog W 0 (fun _=>true) true Try.f4.params.toList args.toList ds p:=xN;rw[Try.params4]at hA hval;obtain⟨v0,Ca,d0,ds0,p0,q0,hargs,rfl,rfl,h0,r0⟩:=trodAll_cons hA;obtain⟨rfl,rfl,rfl⟩:=trodAll_nil r0;obtain rfl:args=#[v0]:=by{cases args;simp_all};obtain⟨rfl,rfl⟩:=trodVars_none hV;obtain⟨a0,zC,cap0,rfl⟩:=okWide_slice Try.underlying23 (hval 0 23 v0 rfl rfl);have k0:=h0;have zD:∀x∈p0,x.block<W.heap.size:=by{obtain⟨m,hm⟩:=k0;exact DataW.trod_lt m _ _ _ hm};obtain⟨Cb,zF⟩:=oP h0;clear xN hval0;refine(walk a0 zC cap0 Cb W zF).mono fun e W' ⟨he,ll⟩=>?_;subst he;exact⟨_,rfl,_,_,_,[],_,[],hW',trodAll_mk1 (shut_bool Try.underlying4 _),(trodAll_cons_mk (Below.trod laidOut (by kernel_rfl) (of_decide_eq_true (by kernel_rfl)) k0 ll zD) trodAll_mk0),rfl,ll.frame _,fun h=>by cases h⟩
theorem over:Rows.fnExactCellarSizeRow.holds Try.pinned (OpenSpec.ofChange Rows.fnExactCellarSizeSpec):=
  OpenClaim.holds_of_wide 4 Try.f4 rfl rfl rfl rfl rfl rfl rfl ⟨rfl,rfl,rfl,rfl,rfl⟩ rfl rfl rfl rfl rfl (by kernel_rfl) Try.func4 (by kernel_rfl)
    (of_decide_eq_true (by kernel_rfl)) (by unfold Func.isWrapper;first|(rw[av (by decide+kernel)];kernel_rfl)|(rw[au (by decide+kernel)];exact⟨rfl,rfl⟩))
    (fun os started H enc _=>lifted os started H enc)
theorem proved:Rows.FnExactCellarSizeSaid:=over
#print axioms proved
end Go.Proofs.Ytpipjiinmhopmaa.fnExactCellarSize
