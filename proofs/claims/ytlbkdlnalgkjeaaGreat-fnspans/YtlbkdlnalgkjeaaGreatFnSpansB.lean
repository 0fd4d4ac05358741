/-
  Proved: at every slice of bytes the law FnSpans returns true and the bytes stay: a box is wanted or set at the first and the last line of its span, and nowhere beside it; no condition.
-/
import Derived.Test.YtlbkdlnalgkjeaaGreatLD20
import Derived.Test.YtlbkdlnalgkjeaaGreatLD23
import Derived.ShutString
import Derived.ChangeOld
namespace Go.Proofs.YtlbkdlnalgkjeaaGreat.fnSpans
open Go.ChangeShapes Go.WideShapes Go.ChangeAt Go.RowKit
open Go.ChangeMaps (open_string shut_string)
set_option linter.all false

theorem own:ownKnob Tryz.prog.godebug=none:=by kernel_rfl
theorem laidOut:laidOutB Tryz.prog=true:=by kernel_rfl
def IsRow (k:IntKind)(w:World)(a:Option Addr)(len cap:Nat)(zs:List Int):Prop:=
  (a=none/\len=0/\cap=0/\zs=[])\/
  ∃x,a=some x/\len<=cap/\cap<=maxLen/\zs.length=cap/\(∀i,i<zs.length->w.cell? (x.add i)=some (.int k (zs.getD i 0)))/\∀n∈zs,(Lit.int k n).wf=true

theorem bytes_of {w:World}{a:Option Addr}{len cap:Nat}{zs:List Int}(h:IsRow .u8 w a len cap zs):Bytes w a len zs:=by rcases h with⟨rfl,rfl,rfl,rfl⟩|⟨x,rfl,hl,hm,hz,hcell,hwz⟩;{exact⟨Nat.zero_le _, .inl rfl⟩};refine⟨by omega,?_⟩;by_cases h0:len=0;{exact .inl h0};right;obtain⟨b,off,spot⟩:=x;have hc:=hcell 0 (by omega);have hspot:spot=none:=by{simpa[Addr.add]using World.cell?_spot hc};subst hspot;refine⟨b,off,rfl,?_,fun j hj=>?_,fun j=>?_⟩;{have:=block_lt_of_cell hc;simpa[Addr.add]using this};{have:=hcell j (by omega);by_cases hj0:j=0;{subst hj0;simpa[Addr.add]using this};simpa[Addr.add,hj0]using this};have:=range_u8 hwz j;simpa[ah]using this
theorem DrawSpans_any (a:Option Addr)(len cap:Nat)(zs:List Int)(hlen:len<=4096)(w:World)(hb:Bytes w a len zs):Calls Tryz.prog 6 #[.slice a len cap] w fun e w'=>∃v ls,e= .returned v/\lX w' w.heap.size v ls/\Below w.heap.size w w':=by go_enter Tryz.func6,Tryz.ntmps6;go_wp2_with fail;refine(jc a len cap zs hlen _ hb).mono ?_;rintro e w2 ⟨v,ls,rfl,ho,hB⟩;dsimp only;have HF:=ae (ak ho hB);obtain⟨g,c,rfl,-⟩:=ho.LL;clear ho hB hb;go_wp2;go_ret;exact⟨_,ls,rfl,HF.out.1,HF.out.2⟩
def QSp (n:Nat)(S:List Sp.S)(y:Value)(x:World):Prop:=∃g c,y= .slice (some ⟨g,0,none⟩) n c/\Gj x (some ⟨g,0,none⟩) n S
theorem QSp.kept {n:Nat}{S:List Sp.S}{y:Value}{x x':World}(h:QSp n S y x)(hB:Below x.heap.size x x'):QSp n S y x':=by obtain⟨g,c,e,h⟩:=h;exact⟨g,c,e,h.kept hB⟩
def QIL (xs:List Int)(y:Value)(x:World):Prop:=∃g m c,y= .slice (some ⟨g,0,none⟩) m c/\IL x (some ⟨g,0,none⟩) m xs
def PsTrue20 (xs:List Int):Nat->Value->World->Prop
  |2,y,x=>QIL xs y x
  |_,_,_=>True
theorem PsTrue20.kept {xs:List Int}{i:Nat}{y:Value}{x x':World}(h:PsTrue20 xs i y x)(hB:Below x.heap.size x x'):PsTrue20 xs i y x':=by by_cases hi:i=2;{subst hi;obtain⟨g,m,c,e,hi⟩:=h;exact⟨g,m,c,e,hi.kept hB⟩};unfold PsTrue20;split;{exact absurd rfl hi};trivial
set_option maxRecDepth 20000 in
set_option maxHeartbeats 16000000 in
theorem walk (a0:Option Addr) (jY cap0:Nat) (z0:List Int) (w:World) (w0:IsRow .u8 w a0 jY cap0 z0):Calls Tryz.prog 3 #[.slice a0 jY cap0] w fun e w'=>e= .returned (.bool true)/\Below w.heap.size w w':=by
 have hb:=bytes_of w0
 have hl:=hb.1
 clear w0
 by_cases hbig:4096<jY
 · go_enter Tryz.func3,Tryz.ntmps3;go_wp2_with(go_at_call 5;refine(sK _ _ _ _ hl).mono ?_;rintro e w' ⟨rfl,rfl⟩);go_ret;exact⟨rfl,Below.refl _ _⟩
 · go_enter Tryz.func3,Tryz.ntmps3
   go_wp2_with fail
   refine(sK _ _ _ _ hl).mono ?_
   rintro e w' ⟨rfl,rfl⟩
   rw[decide_eq_false hbig]
   dsimp only
   clear hl
   go_wp2_with fail
   refine(DrawSpans_any a0 jY cap0 z0 (by omega) _ hb).mono ?_
   rintro e w1 ⟨v1,ls,rfl,hol,hB1⟩
   dsimp only
   obtain⟨gl,cl,rfl,-,-,hll⟩:=hol.LL
   obtain⟨nl,hnl⟩:∃n,ls.length=n:=⟨_,rfl⟩
   rw[hnl]at hll ⊢
   have YF:=ae hnl
   have hnm:=hll.2.1
   unfold maxLen at hnm
   have iS:=fun W h=>oH (some ⟨gl,0,none⟩) nl cl ls W h
   have sS:=fun W h=>nT (some ⟨gl,0,none⟩) nl cl ls W h
   have sI:=fun W q h=>uZ (some ⟨gl,0,none⟩) nl cl ls q W h
   have sO:=fun W q h=>sH (some ⟨gl,0,none⟩) nl cl ls q W h
   have sL:=fun W h=>fT (some ⟨gl,0,none⟩) nl cl ls W h
   obtain⟨S,hS⟩:∃S,Sp.bK ls=S:=⟨_,rfl⟩
   simp only[hS]at iS sS
   have FB:=ae hS
   have HC:=ae (ak iS (ak sS (ak sI (ak sO sL))))
   clear hol hS hnl iS sS sI sO sL
   go_wp2_with fail
   refine(HC.out.1 _ hll).mono ?_
   rintro e w2 ⟨g1,n,c1,rfl,hs1,hS⟩
   dsimp only
   have hB2:=hB1.trans (hS.mono hB1.size)
   have Ao:=hll.kept hS
   have hr1:=hs1.sr
   clear hB1 hll hS hs1
   go_wp2_with fail
   refine(uj a0 jY cap0 z0 _ (hb.below hB2)).mono ?_
   rintro e w3 ⟨x,y,rfl,hS⟩
   dsimp only
   have hB3:=hB2.trans (hS.mono hB2.size)
   have CP:=Ao.kept hS
   have hr3:=hr1.kept hS
   clear hB2 Ao hS hr1 hb
   have HN:=ae hr3.1
   have iM:=fun W=>ma x y W
   have sM:=fun W=>zz x y W
   have iN:=fun W=>ma y x W
   rw[Sp.meet_comm y x]at iN
   obtain⟨M,hM⟩:∃M,Sp.fH x y=M:=⟨_,rfl⟩
   simp only[hM]at iM sM iN
   have HM:=ae (ak iM (ak sM iN))
   clear iM sM iN hM
   have V7:=aA w3 (.cells #[.int .i64 x.b, .int .i64 x.f, .int .i64 x.t, .bool x.c] 29)
   have hbb:=V7.trans ((aA _ (.cells #[.int .i64 y.b, .int .i64 y.f, .int .i64 y.t, .bool y.c] 29)).mono V7.size)
   have bx:=(aU.new w3 [.int .i64 x.b, .int .i64 x.f, .int .i64 x.t, .bool x.c] 29).kept (aA _ (.cells #[.int .i64 y.b, .int .i64 y.f, .int .i64 y.t, .bool y.c] 29))
   have rV:=aU.new (w3.alloc (.cells #[.int .i64 x.b, .int .i64 x.f, .int .i64 x.t, .bool x.c] 29)) [.int .i64 y.b, .int .i64 y.f, .int .i64 y.t, .bool y.c] 29
   simp only[World.size_alloc]at rV
   obtain⟨W4,Pb⟩:∃W,(w3.alloc (.cells #[.int .i64 x.b, .int .i64 x.f, .int .i64 x.t, .bool x.c] 29)).alloc (.cells #[.int .i64 y.b, .int .i64 y.f, .int .i64 y.t, .bool y.c] 29)=W:=⟨_,rfl⟩
   have bx:aU W4 w3.heap.size [.int .i64 x.b, .int .i64 x.f, .int .i64 x.t, .bool x.c]:=Pb▸bx
   have rV:aU W4 (w3.heap.size+1) [.int .i64 y.b, .int .i64 y.f, .int .i64 y.t, .bool y.c]:=Pb▸rV
   rw[Pb]at hbb
   have hB4:=hB3.trans (hbb.mono hB3.size)
   have Ih:=CP.kept hbb
   have hr4:=hr3.kept hbb
   have YG:=ae Pb
   clear V7 hbb hB3 CP hr3 Pb
   go_wp2_with fail
   rw[YG.out]
   clear YG
   refine dM [] [23,24,25,26,27,28,29,30,31,32,33,34,35,36,37,38,39,40,41,42,43,44,45] (fun x=>Below W4.heap.size W4 x) (fun x x'=>Below x.heap.size x x') (PF (fun j y x=>j=2->QSp n S y x) [some (.slice (some ⟨g1,0,none⟩) n c1),some (.slice (some ⟨gl,0,none⟩) nl cl),none,some (.bool true),some (.bool false),some (.bool false),some (.agg #[.int .i64 x.b, .int .i64 x.f, .int .i64 x.t, .bool x.c]),some (.agg #[.int .i64 y.b, .int .i64 y.f, .int .i64 y.t, .bool y.c]),some (.bool M),some (.agg #[.int .i64 x.b, .int .i64 x.f, .int .i64 x.t, .bool x.c]),some (.agg #[.int .i64 y.b, .int .i64 y.f, .int .i64 y.t, .bool y.c]),some (.bool M),some (.bool false),some (.bool false),some (.bool false),some (.agg #[.int .i64 x.b, .int .i64 x.f, .int .i64 x.t, .bool x.c]),some (.agg #[.int .i64 y.b, .int .i64 y.f, .int .i64 y.t, .bool y.c]),some (.bool M),some (.agg #[.int .i64 y.b, .int .i64 y.f, .int .i64 y.t, .bool y.c]),some (.agg #[.int .i64 x.b, .int .i64 x.f, .int .i64 x.t, .bool x.c]),some (.bool M),some (.bool false),some (.bool false)]) (by kernel_rfl) (by kernel_rfl) (by simp) ((Below.refl _ _).drew) (PF.bG (fun i y x x' hr hf h=>(hf h).kept hr)) ?_ ?_
   · refine⟨?_,?_,?_,?_,?_,?_,?_,?_,?_,?_,?_,?_,?_,?_,?_,?_,?_,?_,?_,?_,?_,?_,?_,trivial⟩;(all_goals intro b x hA hfr aC);refine .inl ⟨trivial,?_⟩;have e4:b.tmps[4]?.getD undef= .slice (some ⟨g1,0,none⟩) n c1:=aB (hfr 4 (by decide));rotate_left;refine .inl ⟨trivial,?_⟩;have e3:b.tmps[3]?.getD undef= .slice (some ⟨gl,0,none⟩) nl cl:=aB (hfr 3 (by decide));rotate_left;{refine .inl ⟨trivial,?_⟩;have e24:b.tmps[24]?.getD undef=_:=aB (aC 1 (by kernel_rfl));unfold Oper.wp;generalize hK:(fun(b':Act) (x':World)=>∃y,_/\_)=K;simp only[execOp];go_simp;refine(HC.out.2.1 _ (Ih.kept hA)).mono ?_;rintro e w' ⟨g,m,c,rfl,ho,hB⟩;obtain rfl:m=n:=ho.1.symm.trans HN.out;rw[←hK];exact⟨_,rfl,hA.trans (hB.mono hA.size),fun _=>⟨g,c,rfl,ho.sr⟩,hB⟩};{refine .inl ⟨trivial,?_⟩;have e23:b.tmps[23]?.getD undef=_:=aB (aC 0 (by kernel_rfl));obtain⟨g,c,t25,jV⟩:QSp n S (b.eval (.tmp 25)) x:=(aC 2 (by kernel_rfl)) rfl;have e25:b.tmps[25]?.getD undef=_:=aB t25;unfold Oper.wp;generalize hK:(fun(b':Act) (x':World)=>∃y,_/\_)=K;simp only[execOp];go_simp;refine(o5 _ _ n _ _ S _ (hr4.kept hA) jV).mono ?_;rintro e w' ⟨rfl,hB⟩;rw[←hK];exact⟨_,rfl,hA.trans (hB.mono hA.size),rfl,hB⟩};refine .inl ⟨trivial,?_⟩;have e26:b.tmps[26]?.getD undef=_:=aB (aC 3 (by kernel_rfl));rotate_left;refine .inl ⟨trivial,?_⟩;have e27:b.tmps[27]?.getD undef=_:=aB (aC 4 (by kernel_rfl));rotate_left;refine .inl ⟨aC 5 (by kernel_rfl),?_⟩;have e5:b.tmps[5]?.getD undef= .pointer (some ⟨w3.heap.size,0,none⟩):=aB (hfr 5 (by decide));have q0:=((bx.kept hA).2 0 _ rfl).1;have q1:=((bx.kept hA).2 1 _ rfl).1;have q2:=((bx.kept hA).2 2 _ rfl).1;have q3:=((bx.kept hA).2 3 _ rfl).1;rotate_left;refine .inl ⟨aC 5 (by kernel_rfl),?_⟩;have e6:b.tmps[6]?.getD undef= .pointer (some ⟨w3.heap.size+1,0,none⟩):=aB (hfr 6 (by decide));have q0:=((rV.kept hA).2 0 _ rfl).1;have q1:=((rV.kept hA).2 1 _ rfl).1;have q2:=((rV.kept hA).2 2 _ rfl).1;have q3:=((rV.kept hA).2 3 _ rfl).1;rotate_left;{refine .inl ⟨aC 5 (by kernel_rfl),?_⟩;have e29:b.tmps[29]?.getD undef=_:=aB (aC 6 (by kernel_rfl));have e30:b.tmps[30]?.getD undef=_:=aB (aC 7 (by kernel_rfl));unfold Oper.wp;generalize hK:(fun(b':Act) (x':World)=>∃y,_/\_)=K;simp only[execOp];go_simp;refine(HM.out.1 _).mono ?_;rintro e w' ⟨rfl,hB⟩;rw[←hK];exact⟨_,rfl,hA.trans (hB.mono hA.size),rfl,hB⟩};refine .inl ⟨aC 5 (by kernel_rfl),?_⟩;have e5:b.tmps[5]?.getD undef= .pointer (some ⟨w3.heap.size,0,none⟩):=aB (hfr 5 (by decide));have q0:=((bx.kept hA).2 0 _ rfl).1;have q1:=((bx.kept hA).2 1 _ rfl).1;have q2:=((bx.kept hA).2 2 _ rfl).1;have q3:=((bx.kept hA).2 3 _ rfl).1;rotate_left;refine .inl ⟨aC 5 (by kernel_rfl),?_⟩;have e6:b.tmps[6]?.getD undef= .pointer (some ⟨w3.heap.size+1,0,none⟩):=aB (hfr 6 (by decide));have q0:=((rV.kept hA).2 0 _ rfl).1;have q1:=((rV.kept hA).2 1 _ rfl).1;have q2:=((rV.kept hA).2 2 _ rfl).1;have q3:=((rV.kept hA).2 3 _ rfl).1;rotate_left;{refine .inl ⟨aC 5 (by kernel_rfl),?_⟩;have e32:b.tmps[32]?.getD undef=_:=aB (aC 9 (by kernel_rfl));have e33:b.tmps[33]?.getD undef=_:=aB (aC 10 (by kernel_rfl));unfold Oper.wp;generalize hK:(fun(b':Act) (x':World)=>∃y,_/\_)=K;simp only[execOp];go_simp;refine(HM.out.2.1 _).mono ?_;rintro e w' ⟨rfl,hB⟩;rw[←hK];exact⟨_,rfl,hA.trans (hB.mono hA.size),rfl,hB⟩};{refine .inl ⟨aC 5 (by kernel_rfl),?_⟩;have e31:b.tmps[31]?.getD undef=_:=aB (aC 8 (by kernel_rfl));have e34:b.tmps[34]?.getD undef=_:=aB (aC 11 (by kernel_rfl));unfold Oper.wp;generalize hK:(fun(b':Act) (x':World)=>∃y,_/\_)=K;simp only[execOp];go_simp;rw[←hK];exact⟨_,rfl,hA,(by show Value.bool _=Value.bool false;simp),Below.refl _ _⟩};refine .inl ⟨trivial,?_⟩;have e28:b.tmps[28]?.getD undef=_:=aB (aC 5 (by kernel_rfl));have e35:b.tmps[35]?.getD undef=_:=aB (aC 12 (by kernel_rfl));rotate_left;refine .inl ⟨trivial,?_⟩;have e36:b.tmps[36]?.getD undef=_:=aB (aC 13 (by kernel_rfl));rotate_left;refine .inl ⟨aC 14 (by kernel_rfl),?_⟩;have e5:b.tmps[5]?.getD undef= .pointer (some ⟨w3.heap.size,0,none⟩):=aB (hfr 5 (by decide));have q0:=((bx.kept hA).2 0 _ rfl).1;have q1:=((bx.kept hA).2 1 _ rfl).1;have q2:=((bx.kept hA).2 2 _ rfl).1;have q3:=((bx.kept hA).2 3 _ rfl).1;rotate_left;refine .inl ⟨aC 14 (by kernel_rfl),?_⟩;have e6:b.tmps[6]?.getD undef= .pointer (some ⟨w3.heap.size+1,0,none⟩):=aB (hfr 6 (by decide));have q0:=((rV.kept hA).2 0 _ rfl).1;have q1:=((rV.kept hA).2 1 _ rfl).1;have q2:=((rV.kept hA).2 2 _ rfl).1;have q3:=((rV.kept hA).2 3 _ rfl).1;rotate_left;{refine .inl ⟨aC 14 (by kernel_rfl),?_⟩;have e38:b.tmps[38]?.getD undef=_:=aB (aC 15 (by kernel_rfl));have e39:b.tmps[39]?.getD undef=_:=aB (aC 16 (by kernel_rfl));unfold Oper.wp;generalize hK:(fun(b':Act) (x':World)=>∃y,_/\_)=K;simp only[execOp];go_simp;refine(HM.out.1 _).mono ?_;rintro e w' ⟨rfl,hB⟩;rw[←hK];exact⟨_,rfl,hA.trans (hB.mono hA.size),rfl,hB⟩};refine .inl ⟨aC 14 (by kernel_rfl),?_⟩;have e6:b.tmps[6]?.getD undef= .pointer (some ⟨w3.heap.size+1,0,none⟩):=aB (hfr 6 (by decide));have q0:=((rV.kept hA).2 0 _ rfl).1;have q1:=((rV.kept hA).2 1 _ rfl).1;have q2:=((rV.kept hA).2 2 _ rfl).1;have q3:=((rV.kept hA).2 3 _ rfl).1;rotate_left;refine .inl ⟨aC 14 (by kernel_rfl),?_⟩;have e5:b.tmps[5]?.getD undef= .pointer (some ⟨w3.heap.size,0,none⟩):=aB (hfr 5 (by decide));have q0:=((bx.kept hA).2 0 _ rfl).1;have q1:=((bx.kept hA).2 1 _ rfl).1;have q2:=((bx.kept hA).2 2 _ rfl).1;have q3:=((bx.kept hA).2 3 _ rfl).1;rotate_left;{refine .inl ⟨aC 14 (by kernel_rfl),?_⟩;have e41:b.tmps[41]?.getD undef=_:=aB (aC 18 (by kernel_rfl));have e42:b.tmps[42]?.getD undef=_:=aB (aC 19 (by kernel_rfl));unfold Oper.wp;generalize hK:(fun(b':Act) (x':World)=>∃y,_/\_)=K;simp only[execOp];go_simp;refine(HM.out.2.2 _).mono ?_;rintro e w' ⟨rfl,hB⟩;rw[←hK];exact⟨_,rfl,hA.trans (hB.mono hA.size),rfl,hB⟩};{refine .inl ⟨aC 14 (by kernel_rfl),?_⟩;have e40:b.tmps[40]?.getD undef=_:=aB (aC 17 (by kernel_rfl));have e43:b.tmps[43]?.getD undef=_:=aB (aC 20 (by kernel_rfl));unfold Oper.wp;generalize hK:(fun(b':Act) (x':World)=>∃y,_/\_)=K;simp only[execOp];go_simp;rw[←hK];exact⟨_,rfl,hA,(by show Value.bool _=Value.bool false;simp),Below.refl _ _⟩};refine .inl ⟨trivial,?_⟩;have e37:b.tmps[37]?.getD undef=_:=aB (aC 14 (by kernel_rfl));have e44:b.tmps[44]?.getD undef=_:=aB (aC 21 (by kernel_rfl));rotate_left;all_goals(unfold Oper.wp;generalize hK:(fun(b':Act) (x':World)=>∃y,_/\_)=K;simp only[execOp];go_simp;rw[←hK];exact⟨_,rfl,hA,rfl,Below.refl _ _⟩)
   · intro b x hA hF hb
     have e23:b.eval (.tmp 23)=_:=hF 0 (by decide)
     have e24:b.eval (.tmp 24)=_:=hF 1 (by decide)
     obtain⟨z25,e25⟩:∃z,b.eval (.tmp 25)=z:=⟨_,rfl⟩
     have e26:b.eval (.tmp 26)=_:=hF 3 (by decide)
     have e27:b.eval (.tmp 27)=_:=hF 4 (by decide)
     have e28:b.eval (.tmp 28)=_:=hF 5 (by decide)
     have e29:b.eval (.tmp 29)=_:=hF 6 (by decide)
     have e30:b.eval (.tmp 30)=_:=hF 7 (by decide)
     have e31:b.eval (.tmp 31)=_:=hF 8 (by decide)
     have e32:b.eval (.tmp 32)=_:=hF 9 (by decide)
     have e33:b.eval (.tmp 33)=_:=hF 10 (by decide)
     have e34:b.eval (.tmp 34)=_:=hF 11 (by decide)
     have e35:b.eval (.tmp 35)=_:=hF 12 (by decide)
     have e36:b.eval (.tmp 36)=_:=hF 13 (by decide)
     have e37:b.eval (.tmp 37)=_:=hF 14 (by decide)
     have e38:b.eval (.tmp 38)=_:=hF 15 (by decide)
     have e39:b.eval (.tmp 39)=_:=hF 16 (by decide)
     have e40:b.eval (.tmp 40)=_:=hF 17 (by decide)
     have e41:b.eval (.tmp 41)=_:=hF 18 (by decide)
     have e42:b.eval (.tmp 42)=_:=hF 19 (by decide)
     have e43:b.eval (.tmp 43)=_:=hF 20 (by decide)
     have e44:b.eval (.tmp 44)=_:=hF 21 (by decide)
     have e45:b.eval (.tmp 45)=_:=hF 22 (by decide)
     simp only[List.foldl,e23,e24,e25,e26,e27,e28,e29,e30,e31,e32,e33,e34,e35,e36,e37,e38,e39,e40,e41,e42,e43,e44,e45]at hb
     clear hF e23 e24 e25 e26 e27 e28 e29 e30 e31 e32 e33 e34 e35 e36 e37 e38 e39 e40 e41 e42 e43 e44 e45
     subst hb
     simp only[Act.put,List.setIfInBounds_toArray,List.set_cons_succ,List.set_cons_zero]
     have bO:=hB4.trans (hA.mono hB4.size)
     have Ey:=Ih.kept hA
     have V8:=hr4.kept hA
     obtain⟨w5,GQ⟩:∃W,x=W:=⟨_,rfl⟩
     rw[GQ]at bO Ey V8 ⊢
     clear hA hB4 Ih hr4 bx rV GQ HM
     go_wp2_with fail
     refine(HC.out.2.2.2.2 _ Ey).mono ?_
     rintro e w6 ⟨rfl,hS⟩
     dsimp only
     have bq:=bO.trans (hS.mono bO.size)
     have Ez:=Ey.kept hS
     have Qm:=V8.kept hS
     clear bO Ey V8 hS
     have Hw:n<=40:=by have h1:=HN.out;rw[←FB.out]at h1;unfold Sp.bK at h1;split at h1;{have:=Sp.jO ls 40;omega};simp at h1;omega
     rcases hok:Ln.isOk ls with _|_
     · have hn0:n=0:=by{have h1:=HN.out;rw[←FB.out]at h1;unfold Sp.bK at h1;rw[ax (by rw[hok];decide)]at h1;exact h1.symm};subst hn0;have HB:=ae bq;clear hok Ez Qm bq;go_wp2;go_ret;exact⟨rfl,HB.out⟩
     by_cases h60:60<nl
     · have V9:(60:Int)<(nl:Int):=by{omega};have HB:=ae bq;clear hok Ez Qm bq;by_cases hn0:n=0;{subst hn0;go_wp2;go_ret;exact⟨rfl,HB.out⟩};have abd:((n:Int)==0)=false:=by{simp;omega};go_wp2;go_ret;exact⟨rfl,HB.out⟩
     have V9:¬(60:Int)<(nl:Int):=by omega
     have jh:=ae hok
     have HI:=ae (ak bq (ak Ez Qm))
     have hmx:n<=9223372036854775807:=by omega
     have EA:Hid (S=Sp.out ls 40):=by show _=_;rw[←FB.out];unfold Sp.bK;rw[ay hok]
     have abe:(nl:Int)<=60:=by omega
     clear hok bq Ez Qm FB
     go_wp2
     go_loopg [7] n (fun gk vk wr=>∃(k:Nat),gk=n-k/\k<=n/\vk= .int .i64 (k:Int)/\Below w6.heap.size w6 wr)
     case atStart=>exact⟨0,by omega,by omega,rfl,Below.refl _ _⟩
     case round=>
      obtain⟨k,uy,hk,rfl,Pd⟩:=hrel
      have Pe:=ae Pd
      obtain⟨w7,hw7⟩:∃W,wr=W:=⟨_,rfl⟩
      rw[hw7]at Pe ⊢
      clear Pd hw7
      by_cases hkn:k<n
      rotate_left
      · clear HC HN EA;go_wp2;go_ret;exact⟨rfl,HI.out.1.trans (Pe.out.mono HI.out.1.size)⟩
      have OM:(k:Int)<(n:Int):=by omega
      have IM:k<S.length:=by rw[HN.out];exact hkn
      have hmem:S.getD k .z∈Sp.out ls 40:=by rw[←EA.out,ah,ai IM];exact List.getElem_mem IM
      obtain⟨sb,sf,st,hIs⟩:=Sp.rM hmem
      have HIS:=ae hIs
      have Pf:=HI.out.2.2.kept Pe.out
      obtain⟨bs,os,YH,hbs,hcs⟩:=(Pf.2.2).resolve_left (by omega)
      simp only[af,Addr.mk.injEq,and_true]at YH
      obtain⟨rfl,rfl⟩:=YH
      have hc0:=(hcs k hkn).1
      have hc1:=(hcs k hkn).2.1
      have hc2:=(hcs k hkn).2.2.1
      have hc3:=(hcs k hkn).2.2.2
      rw[hIs.bx,Nat.zero_add]at hc0
      rw[hIs.fr,Nat.zero_add]at hc1
      rw[hIs.to,Nat.zero_add]at hc2
      rw[hIs.gL,Nat.zero_add]at hc3
      have hgs:=hbs
      have Au:Hid (∀W,Below w7.heap.size w7 W->W.cell? ⟨g1,k*4,none⟩=some (.int .i64 (sb:Int))/\W.cell? ⟨g1,k*4+1,none⟩=some (.int .i64 (sf:Int))/\W.cell? ⟨g1,k*4+2,none⟩=some (.int .i64 (st:Int))/\W.cell? ⟨g1,k*4+3,none⟩=some (.bool ((List.range ls.length).any fun i=>Sp.cr ls sb i))):=fun W hB=>
       ⟨(hB.cell (p:=⟨g1,k*4,none⟩) hbs).trans hc0,(hB.cell (p:=⟨g1,k*4+1,none⟩) hbs).trans hc1,(hB.cell (p:=⟨g1,k*4+2,none⟩) hbs).trans hc2,(hB.cell (p:=⟨g1,k*4+3,none⟩) hbs).trans hc3⟩
      have FC:∀p,k=p+1->∃pb:Nat,pb<sb/\w7.cell? ⟨g1,p*4,none⟩=some (.int .i64 (pb:Int)):=by intro p hp;have hpn:p<n:=by{omega};have Pg:p<S.length:=by{rw[HN.out];exact hpn};have hme:S.getD p .z∈Sp.out ls 40:=by{rw[←EA.out,ah,ai Pg];exact List.getElem_mem Pg};obtain⟨pb,pf,pt,YI⟩:=Sp.rM hme;have hr:=List.pairwise_iff_getElem.1 (Sp.ow ls 40) p k (by rw[←EA.out];exact Pg) (by rw[←EA.out];exact IM) (by omega);have e1:(Sp.out ls 40)[p]'(by rw[←EA.out];exact Pg)=S.getD p .z:=by{rw[ah,ai Pg];simp only[Option.getD_some,EA.out]};have e2:(Sp.out ls 40)[k]'(by rw[←EA.out];exact IM)=S.getD k .z:=by{rw[ah,ai IM];simp only[Option.getD_some,EA.out]};rw[e1,e2,YI.bx,hIs.bx]at hr;have h0:=(hcs p hpn).1;rw[YI.bx,Nat.zero_add]at h0;exact⟨pb,by omega,h0⟩
      clear hmem hIs Pf hcs IM hc1 hc2 hc3
      have We:=ae FC
      have GL:∀(Q:World->Prop)(G:Prop),True:=fun _ _=>trivial
      have Ph:∀p:bU w7,p.to.cell? ⟨g1,k*4,none⟩=some (.int .i64 (sb:Int)):=fun p=>(Au.out p.to p.h).1
      clear FC hc0 GL
      go_upto_region 13 with fail
      by_cases hk0:k=0
      have hgt:decide ((0:Int)<(k:Int))=false:=decide_eq_false (by omega)
      have hne:=bU.any w7
      refine aQ (by kernel_rfl) (by kernel_rfl) ?_
      repeat(go_big_quiet_step (fail))
      refine wpQuiet_nil ?_
      rintro _ ⟨pw,rfl⟩
      have Qn:=ae pw.h
      obtain⟨w8,hw8⟩:∃W,pw.to=W:=⟨_,rfl⟩
      rw[hw8]at Qn ⊢
      clear hw8 hne Ph hgt
      go_wp2
      clear hk0 pw We
      rotate_left
      obtain⟨p,hkp⟩:∃p,k=p+1:=⟨k-1,by omega⟩
      obtain⟨pb,hpb,hpc⟩:=We.out p hkp
      have Wh:∀q:bU w7,q.to.cell? ⟨g1,p*4,none⟩=some (.int .i64 (pb:Int)):=fun q=>(q.h.cell (p:=⟨g1,p*4,none⟩) hbs).trans hpc
      have hle:decide ((sb:Int)<=(pb:Int))=false:=decide_eq_false (by omega)
      have hgt:decide ((0:Int)<(k:Int))=true:=decide_eq_true (by omega)
      have hk1:0<k:=by omega
      have Wi:(0:Int)<(k:Int):=by omega
      have Wj:decide (0<k)=true:=decide_eq_true hk1
      have hpn:(p:Int)<(n:Int):=by omega
      have hp0:(0:Int)<=(p:Int):=by omega
      have hkm:(k:Int)-1=(p:Int):=by omega
      have HKP:=ae hkp
      clear hpc hkp hk0
      have hne:=bU.any w7
      refine aQ (by kernel_rfl) (by kernel_rfl) ?_
      repeat(go_big_quiet_step (fail))
      refine wpQuiet_nil ?_
      rintro _ ⟨pw,rfl⟩
      have Qn:=ae pw.h
      obtain⟨w8,hw8⟩:∃W,pw.to=W:=⟨_,rfl⟩
      rw[hw8]at Qn ⊢
      clear hw8 hne Ph hgt
      have Pj:¬sb<=pb:=by omega
      have Pk:decide (sb<=pb)=false:=decide_eq_false Pj
      go_wp2
      (try rw[Pk])
      clear hkm hp0 hpn hle Wh hpb HKP pw We hk1 Wi Wj Pj Pk
      all_goals
       go_loopg [8,9] nl (fun gi vc vi wx=>∃(i:Nat)(cr:Bool),gi=nl-i/\i<=nl/\vc= .bool cr/\vi= .int .i64 (i:Int)/\Hid (cr=(List.range i).any fun j=>Sp.cr ls sb j)/\Below w7.heap.size w7 wx)
       case atStart=>exact⟨0,false,by omega,by omega,rfl,rfl,rfl,Qn.out⟩
       case round=>
        as_aux_lemma=>
         obtain⟨i,cr,hgi,hi,rfl,rfl,uG,Pm⟩:=hrel
         have YJ:=ae Pm
         have FD:=ae (Pe.out.trans (Pm.mono Pe.out.size))
         by_cases hin:i<nl
         rotate_left
         · have hie:i=nl:=by{omega};have hc3:=(Au.out _ Pm).2.2.2;rw[YF.out,←hie,←uG.out]at hc3;have hcc:(cr !=cr)=false:=by{simp};clear Pm hie uG;go_wp2;go_roundg (n-(k+1));(case measure=>omega);case rel=>exact⟨k+1,rfl,hkn,by simp,FD.out⟩
         have abh:(i:Int)<(nl:Int):=by omega
         have Ii:=HI.out.2.1.kept FD.out
         go_wp2_with fail
         refine(HC.out.2.2.2.1 _ (i:Int) Ii).mono ?_
         rintro e FE ⟨g9,m9,c9,rfl,YK,hS⟩
         dsimp only
         have iq:=YJ.out.trans (hS.mono YJ.out.size)
         have pQ:=Ii.kept hS
         have wO:=(OI.il YK.oi).2
         obtain⟨bl,ol,YL,hbl,hlc⟩:=pQ.at hin
         simp only[af,Addr.mk.injEq,and_true]at YL
         obtain⟨rfl,rfl⟩:=YL
         have IP:i<ls.length:=by rw[YF.out];exact hin
         have wK:=ae (Sp.JM jh.out HIS.out.Rw IP)
         have Pn:=ae (Sp.Jr jh.out HIS.out.Rw IP)
         obtain⟨⟨xk,xd,xa,xb,xn,xl⟩,iT⟩:∃x,ls.getD i .z=x:=⟨_,rfl⟩
         rw[iT]at hlc wK Pn
         obtain⟨y0,y1,y2,y3,y4,la,lx,lc,y5,CQ⟩:=hlc
         simp only[Nat.zero_add]at y0 y1 y2 y3 y4 y5 CQ
         have Wl:Hid (∀W,Below FE.heap.size FE W->W.cell? ⟨gl,i*6,none⟩=some (.int .i64 xk)/\W.cell? ⟨gl,i*6+1,none⟩=some (.int .i64 xd)/\W.cell? ⟨gl,i*6+2,none⟩=some (.int .i64 xa)/\W.cell? ⟨gl,i*6+3,none⟩=some (.int .i64 xb)/\W.cell? ⟨gl,i*6+4,none⟩=some (.int .i64 xn)/\W.cell? ⟨gl,i*6+5,none⟩=some (.slice la lx lc)):=fun W hB=>
          ⟨(hB.cell (p:=⟨gl,i*6,none⟩) hbl).trans y0,(hB.cell (p:=⟨gl,i*6+1,none⟩) hbl).trans y1,(hB.cell (p:=⟨gl,i*6+2,none⟩) hbl).trans y2,(hB.cell (p:=⟨gl,i*6+3,none⟩) hbl).trans y3,(hB.cell (p:=⟨gl,i*6+4,none⟩) hbl).trans y4,(hB.cell (p:=⟨gl,i*6+5,none⟩) hbl).trans y5⟩
         obtain⟨t1,ht1⟩:∃t,Fl.hs (Fl.dW ls (i:Int)) (sb:Int)=t:=⟨_,rfl⟩
         obtain⟨t2,ht2⟩:∃t,Fl.hs (Fl.eQ ls (i:Int)) (sb:Int)=t:=⟨_,rfl⟩
         obtain⟨sv,hsv⟩:∃t,Ln.sZ ⟨xk,xd,xa,xb,xn,xl⟩=t:=⟨_,rfl⟩
         obtain⟨t3,ht3⟩:∃t,(sv==(sb:Int))=t:=⟨_,rfl⟩
         have HT:=ae (ak ht1 (ak ht2 (ak hsv ht3)))
         rw[ht1,ht2,hsv,show decide (sv=(sb:Int))=(sv==(sb:Int))from rfl,ht3]at wK
         rw[ht2]at Pn
         clear YK hS Ii y0 y1 y2 y3 y4 y5 iT ht1 ht2 hsv ht3 hbl Pm
         go_upto_region 20 with fail
         cases t1
         rotate_left
         refine dM [] [93,94,95,96,97,98,99,100,101,102,103,104,105,106,107,108,109,110,111,112,113,114,115,116,117,118,119,120,121,122,123,11] (fun x=>Below FE.heap.size FE x) (fun x x'=>Below x.heap.size x x') (PF (PsTrue20 (Fl.dW ls (i:Int))) [some (.slice (some ⟨gl,0,none⟩) nl cl),some (.int .i64 (i:Int)),none,some (.slice (some ⟨g1,0,none⟩) n c1),some (.int .i64 (k:Int)),some (.pointer (some ⟨g1,k*4,none⟩)),some (.pointer (some ⟨g1,k*4,none⟩)),some (.int .i64 (sb:Int)),some (.bool true),some (.bool true),none,none,none,none,none,none,none,some (.bool true),some (.bool true),none,none,none,none,none,none,none,none,none,none,none,some (.bool true),some (.bool true)]) (by kernel_rfl) (by kernel_rfl) (by simp) ((Below.refl _ _).drew) (PF.bG (fun i y x x' hr hf=>PsTrue20.kept hf hr)) ?_ ?_
         · refine⟨?_,?_,?_,?_,?_,?_,?_,?_,?_,?_,?_,?_,?_,?_,?_,?_,?_,?_,?_,?_,?_,?_,?_,?_,?_,?_,?_,?_,?_,?_,?_,?_,trivial⟩;(all_goals intro b x hA hfr aC);refine .inl ⟨trivial,?_⟩;have e3:b.tmps[3]?.getD undef= .slice (some ⟨gl,0,none⟩) nl cl:=aB (hfr 3 (by decide));rotate_left;refine .inl ⟨trivial,?_⟩;have e9:b.tmps[9]?.getD undef= .int .i64 (i:Int):=aB (hfr 9 (by decide));rotate_left;{refine .inl ⟨trivial,?_⟩;have CR:b.tmps[93]?.getD undef=_:=aB (aC 0 (by kernel_rfl));have CU:b.tmps[94]?.getD undef=_:=aB (aC 1 (by kernel_rfl));unfold Oper.wp;generalize hK:(fun(b':Act) (x':World)=>∃y,_/\_)=K;simp only[execOp];go_simp;refine(HC.out.2.2.1 _ (i:Int) (pQ.kept hA)).mono ?_;rintro e w' ⟨g,m,c,rfl,ho,hB⟩;rw[←hK];exact⟨_,rfl,hA.trans (hB.mono hA.size),⟨g,m,c,rfl,(OI.il ho.oi).2⟩,hB⟩};refine .inl ⟨trivial,?_⟩;have e4:b.tmps[4]?.getD undef= .slice (some ⟨g1,0,none⟩) n c1:=aB (hfr 4 (by decide));rotate_left;refine .inl ⟨trivial,?_⟩;have e7:b.tmps[7]?.getD undef= .int .i64 (k:Int):=aB (hfr 7 (by decide));rotate_left;refine .inl ⟨trivial,?_⟩;have CV:b.tmps[96]?.getD undef=_:=aB (aC 3 (by kernel_rfl));have CW:b.tmps[97]?.getD undef=_:=aB (aC 4 (by kernel_rfl));rotate_left;refine .inl ⟨trivial,?_⟩;have CX:b.tmps[98]?.getD undef=_:=aB (aC 5 (by kernel_rfl));rotate_left;refine .inl ⟨trivial,?_⟩;have e99:b.tmps[99]?.getD undef=_:=aB (aC 6 (by kernel_rfl));have cx:=(Au.out x (iq.trans (hA.mono iq.size))).1;rotate_left;{refine .inl ⟨trivial,?_⟩;obtain⟨g,m,c,t95,hil⟩:QIL (Fl.dW ls (i:Int)) (b.eval (.tmp 95)) x:=aC 2 (by kernel_rfl);have CY:b.tmps[95]?.getD undef=_:=aB t95;have pR:b.tmps[100]?.getD undef=_:=aB (aC 7 (by kernel_rfl));unfold Oper.wp;generalize hK:(fun(b':Act) (x':World)=>∃y,_/\_)=K;simp only[execOp];go_simp;refine(l7 _ m c _ _ x hil).mono ?_;rintro e w' ⟨rfl,bD⟩;subst bD;rw[←hK];exact⟨_,rfl,hA,(by show Value.bool _=Value.bool true;rw[HT.out.1]),Below.refl _ _⟩};refine .inl ⟨trivial,?_⟩;have pU:b.tmps[101]?.getD undef=_:=aB (aC 8 (by kernel_rfl));rotate_left;{exact .inr ⟨aC 9 (by kernel_rfl),trivial,Below.refl _ _⟩};{exact .inr ⟨aC 9 (by kernel_rfl),trivial,Below.refl _ _⟩};{exact .inr ⟨aC 9 (by kernel_rfl),trivial,Below.refl _ _⟩};{exact .inr ⟨aC 9 (by kernel_rfl),trivial,Below.refl _ _⟩};{exact .inr ⟨aC 9 (by kernel_rfl),trivial,Below.refl _ _⟩};{exact .inr ⟨aC 9 (by kernel_rfl),trivial,Below.refl _ _⟩};{exact .inr ⟨aC 9 (by kernel_rfl),trivial,Below.refl _ _⟩};refine .inl ⟨trivial,?_⟩;have pV:b.tmps[102]?.getD undef=_:=aB (aC 9 (by kernel_rfl));rotate_left;refine .inl ⟨trivial,?_⟩;have pW:b.tmps[110]?.getD undef=_:=aB (aC 17 (by kernel_rfl));rotate_left;{exact .inr ⟨aC 18 (by kernel_rfl),trivial,Below.refl _ _⟩};{exact .inr ⟨aC 18 (by kernel_rfl),trivial,Below.refl _ _⟩};{exact .inr ⟨aC 18 (by kernel_rfl),trivial,Below.refl _ _⟩};{exact .inr ⟨aC 18 (by kernel_rfl),trivial,Below.refl _ _⟩};{exact .inr ⟨aC 18 (by kernel_rfl),trivial,Below.refl _ _⟩};{exact .inr ⟨aC 18 (by kernel_rfl),trivial,Below.refl _ _⟩};{exact .inr ⟨aC 18 (by kernel_rfl),trivial,Below.refl _ _⟩};{exact .inr ⟨aC 18 (by kernel_rfl),trivial,Below.refl _ _⟩};{exact .inr ⟨aC 18 (by kernel_rfl),trivial,Below.refl _ _⟩};{exact .inr ⟨aC 18 (by kernel_rfl),trivial,Below.refl _ _⟩};{exact .inr ⟨aC 18 (by kernel_rfl),trivial,Below.refl _ _⟩};refine .inl ⟨trivial,?_⟩;have pX:b.tmps[111]?.getD undef=_:=aB (aC 18 (by kernel_rfl));rotate_left;refine .inl ⟨trivial,?_⟩;have pY:b.tmps[123]?.getD undef=_:=aB (aC 30 (by kernel_rfl));rotate_left;all_goals(unfold Oper.wp;generalize hK:(fun(b':Act) (x':World)=>∃y,_/\_)=K;simp only[execOp];go_simp;rw[←hK];exact⟨_,rfl,hA,rfl,Below.refl _ _⟩)
         intro b x hA hF hb
         have CR:b.eval (.tmp 93)=_:=hF 0 (by decide)
         have CU:b.eval (.tmp 94)=_:=hF 1 (by decide)
         obtain⟨YM,CY⟩:∃z,b.eval (.tmp 95)=z:=⟨_,rfl⟩
         have CV:b.eval (.tmp 96)=_:=hF 3 (by decide)
         have CW:b.eval (.tmp 97)=_:=hF 4 (by decide)
         have CX:b.eval (.tmp 98)=_:=hF 5 (by decide)
         have e99:b.eval (.tmp 99)=_:=hF 6 (by decide)
         have pR:b.eval (.tmp 100)=_:=hF 7 (by decide)
         have pU:b.eval (.tmp 101)=_:=hF 8 (by decide)
         have pV:b.eval (.tmp 102)=_:=hF 9 (by decide)
         obtain⟨abj,qH⟩:∃z,b.eval (.tmp 103)=z:=⟨_,rfl⟩
         obtain⟨abk,qI⟩:∃z,b.eval (.tmp 104)=z:=⟨_,rfl⟩
         obtain⟨z105,qJ⟩:∃z,b.eval (.tmp 105)=z:=⟨_,rfl⟩
         obtain⟨abl,qK⟩:∃z,b.eval (.tmp 106)=z:=⟨_,rfl⟩
         obtain⟨z107,qL⟩:∃z,b.eval (.tmp 107)=z:=⟨_,rfl⟩
         obtain⟨abm,e108⟩:∃z,b.eval (.tmp 108)=z:=⟨_,rfl⟩
         obtain⟨z109,e109⟩:∃z,b.eval (.tmp 109)=z:=⟨_,rfl⟩
         have pW:b.eval (.tmp 110)=_:=hF 17 (by decide)
         have pX:b.eval (.tmp 111)=_:=hF 18 (by decide)
         obtain⟨Wm,uz⟩:∃z,b.eval (.tmp 112)=z:=⟨_,rfl⟩
         obtain⟨Wn,uA⟩:∃z,b.eval (.tmp 113)=z:=⟨_,rfl⟩
         obtain⟨Wo,uB⟩:∃z,b.eval (.tmp 114)=z:=⟨_,rfl⟩
         obtain⟨Wp,e115⟩:∃z,b.eval (.tmp 115)=z:=⟨_,rfl⟩
         obtain⟨z116,e116⟩:∃z,b.eval (.tmp 116)=z:=⟨_,rfl⟩
         obtain⟨z117,e117⟩:∃z,b.eval (.tmp 117)=z:=⟨_,rfl⟩
         obtain⟨Wq,e118⟩:∃z,b.eval (.tmp 118)=z:=⟨_,rfl⟩
         obtain⟨z119,e119⟩:∃z,b.eval (.tmp 119)=z:=⟨_,rfl⟩
         obtain⟨Ws,e120⟩:∃z,b.eval (.tmp 120)=z:=⟨_,rfl⟩
         obtain⟨Wt,uC⟩:∃z,b.eval (.tmp 121)=z:=⟨_,rfl⟩
         obtain⟨Wu,uD⟩:∃z,b.eval (.tmp 122)=z:=⟨_,rfl⟩
         have pY:b.eval (.tmp 123)=_:=hF 30 (by decide)
         have e11:b.eval (.tmp 11)=_:=hF 31 (by decide)
         simp only[List.foldl,CR,CU,CY,CV,CW,CX,e99,pR,pU,pV,qH,qI,qJ,qK,qL,e108,e109,pW,pX,uz,uA,uB,e115,e116,e117,e118,e119,e120,uC,uD,pY,e11]at hb
         clear hF CR CU CY CV CW CX e99 pR pU pV qH qI qJ qK qL e108 e109 pW pX uz uA uB e115 e116 e117 e118 e119 e120 uC uD pY e11
         subst hb
         simp only[Act.put,List.setIfInBounds_toArray,List.set_cons_succ,List.set_cons_zero]
         have lK:=iq.trans (hA.mono iq.size)
         obtain⟨c0,c1,c2,c3⟩:=Au.out x lK
         have ni:=wO.kept hA
         have HX:=ae (ak hA (ak lK ni))
         have hgx:=aj hgs lK.size
         clear hA lK ni iq pQ wO CQ
         have y7:Sp.ha ls sb i=true:=by rw[wK.out];rfl
         have hbd:=HIS.out.all i IP y7
         have hf1:¬(i:Int)<(sf:Int):=by omega
         have hf2:¬(st:Int)<(i:Int):=by omega
         have hf3:¬i<sf:=by omega
         have Eu:¬st<i:=by omega
         have Po:sf<=i:=by omega
         have Pp:i<=st:=by omega
         go_upto_region 23 with fail
         clear y7 hbd hf1 hf2 hf3 Eu Po Pp c0 c1 c2 c3
         rotate_left
         cases t2
         rotate_left
         refine dM [] [93,94,95,96,97,98,99,100,101,102,103,104,105,106,107,108,109,110,111,112,113,114,115,116,117,118,119,120,121,122,123,11] (fun x=>Below FE.heap.size FE x) (fun x x'=>Below x.heap.size x x') (PF (PsTrue20 (Fl.dW ls (i:Int))) [some (.slice (some ⟨gl,0,none⟩) nl cl),some (.int .i64 (i:Int)),none,some (.slice (some ⟨g1,0,none⟩) n c1),some (.int .i64 (k:Int)),some (.pointer (some ⟨g1,k*4,none⟩)),some (.pointer (some ⟨g1,k*4,none⟩)),some (.int .i64 (sb:Int)),some (.bool false),some (.bool false),some (.slice (some ⟨g9,0,none⟩) m9 c9),some (.slice (some ⟨g1,0,none⟩) n c1),some (.int .i64 (k:Int)),some (.pointer (some ⟨g1,k*4,none⟩)),some (.pointer (some ⟨g1,k*4,none⟩)),some (.int .i64 (sb:Int)),some (.bool true),some (.bool true),some (.bool true),none,none,none,none,none,none,none,none,none,none,none,some (.bool true),some (.bool true)]) (by kernel_rfl) (by kernel_rfl) (by simp) ((Below.refl _ _).drew) (PF.bG (fun i y x x' hr hf=>PsTrue20.kept hf hr)) ?_ ?_
         · refine⟨?_,?_,?_,?_,?_,?_,?_,?_,?_,?_,?_,?_,?_,?_,?_,?_,?_,?_,?_,?_,?_,?_,?_,?_,?_,?_,?_,?_,?_,?_,?_,?_,trivial⟩;(all_goals intro b x hA hfr aC);refine .inl ⟨trivial,?_⟩;have e3:b.tmps[3]?.getD undef= .slice (some ⟨gl,0,none⟩) nl cl:=aB (hfr 3 (by decide));rotate_left;refine .inl ⟨trivial,?_⟩;have e9:b.tmps[9]?.getD undef= .int .i64 (i:Int):=aB (hfr 9 (by decide));rotate_left;{refine .inl ⟨trivial,?_⟩;have CR:b.tmps[93]?.getD undef=_:=aB (aC 0 (by kernel_rfl));have CU:b.tmps[94]?.getD undef=_:=aB (aC 1 (by kernel_rfl));unfold Oper.wp;generalize hK:(fun(b':Act) (x':World)=>∃y,_/\_)=K;simp only[execOp];go_simp;refine(HC.out.2.2.1 _ (i:Int) (pQ.kept hA)).mono ?_;rintro e w' ⟨g,m,c,rfl,ho,hB⟩;rw[←hK];exact⟨_,rfl,hA.trans (hB.mono hA.size),⟨g,m,c,rfl,(OI.il ho.oi).2⟩,hB⟩};refine .inl ⟨trivial,?_⟩;have e4:b.tmps[4]?.getD undef= .slice (some ⟨g1,0,none⟩) n c1:=aB (hfr 4 (by decide));rotate_left;refine .inl ⟨trivial,?_⟩;have e7:b.tmps[7]?.getD undef= .int .i64 (k:Int):=aB (hfr 7 (by decide));rotate_left;refine .inl ⟨trivial,?_⟩;have CV:b.tmps[96]?.getD undef=_:=aB (aC 3 (by kernel_rfl));have CW:b.tmps[97]?.getD undef=_:=aB (aC 4 (by kernel_rfl));rotate_left;refine .inl ⟨trivial,?_⟩;have CX:b.tmps[98]?.getD undef=_:=aB (aC 5 (by kernel_rfl));rotate_left;refine .inl ⟨trivial,?_⟩;have e99:b.tmps[99]?.getD undef=_:=aB (aC 6 (by kernel_rfl));have cx:=(Au.out x (iq.trans (hA.mono iq.size))).1;rotate_left;{refine .inl ⟨trivial,?_⟩;obtain⟨g,m,c,t95,hil⟩:QIL (Fl.dW ls (i:Int)) (b.eval (.tmp 95)) x:=aC 2 (by kernel_rfl);have CY:b.tmps[95]?.getD undef=_:=aB t95;have pR:b.tmps[100]?.getD undef=_:=aB (aC 7 (by kernel_rfl));unfold Oper.wp;generalize hK:(fun(b':Act) (x':World)=>∃y,_/\_)=K;simp only[execOp];go_simp;refine(l7 _ m c _ _ x hil).mono ?_;rintro e w' ⟨rfl,bD⟩;subst bD;rw[←hK];exact⟨_,rfl,hA,(by show Value.bool _=Value.bool false;rw[HT.out.1]),Below.refl _ _⟩};refine .inl ⟨trivial,?_⟩;have pU:b.tmps[101]?.getD undef=_:=aB (aC 8 (by kernel_rfl));rotate_left;refine .inl ⟨aC 9 (by kernel_rfl),?_⟩;have e10:b.tmps[10]?.getD undef= .slice (some ⟨g9,0,none⟩) m9 c9:=aB (hfr 10 (by decide));rotate_left;refine .inl ⟨aC 9 (by kernel_rfl),?_⟩;have e4:b.tmps[4]?.getD undef= .slice (some ⟨g1,0,none⟩) n c1:=aB (hfr 4 (by decide));rotate_left;refine .inl ⟨aC 9 (by kernel_rfl),?_⟩;have e7:b.tmps[7]?.getD undef= .int .i64 (k:Int):=aB (hfr 7 (by decide));rotate_left;refine .inl ⟨aC 9 (by kernel_rfl),?_⟩;have qI:b.tmps[104]?.getD undef=_:=aB (aC 11 (by kernel_rfl));have qJ:b.tmps[105]?.getD undef=_:=aB (aC 12 (by kernel_rfl));rotate_left;refine .inl ⟨aC 9 (by kernel_rfl),?_⟩;have qK:b.tmps[106]?.getD undef=_:=aB (aC 13 (by kernel_rfl));rotate_left;refine .inl ⟨aC 9 (by kernel_rfl),?_⟩;have qL:b.tmps[107]?.getD undef=_:=aB (aC 14 (by kernel_rfl));have cx:=(Au.out x (iq.trans (hA.mono iq.size))).1;rotate_left;{refine .inl ⟨aC 9 (by kernel_rfl),?_⟩;have qH:b.tmps[103]?.getD undef=_:=aB (aC 10 (by kernel_rfl));have e108:b.tmps[108]?.getD undef=_:=aB (aC 15 (by kernel_rfl));unfold Oper.wp;generalize hK:(fun(b':Act) (x':World)=>∃y,_/\_)=K;simp only[execOp];go_simp;refine(l7 _ m9 c9 _ _ x (wO.kept hA)).mono ?_;rintro e w' ⟨rfl,bD⟩;subst bD;rw[←hK];exact⟨_,rfl,hA,(by show Value.bool _=Value.bool true;rw[HT.out.2.1]),Below.refl _ _⟩};refine .inl ⟨trivial,?_⟩;have pV:b.tmps[102]?.getD undef=_:=aB (aC 9 (by kernel_rfl));have e109:b.tmps[109]?.getD undef=_:=aB (aC 16 (by kernel_rfl));rotate_left;refine .inl ⟨trivial,?_⟩;have pW:b.tmps[110]?.getD undef=_:=aB (aC 17 (by kernel_rfl));rotate_left;{exact .inr ⟨aC 18 (by kernel_rfl),trivial,Below.refl _ _⟩};{exact .inr ⟨aC 18 (by kernel_rfl),trivial,Below.refl _ _⟩};{exact .inr ⟨aC 18 (by kernel_rfl),trivial,Below.refl _ _⟩};{exact .inr ⟨aC 18 (by kernel_rfl),trivial,Below.refl _ _⟩};{exact .inr ⟨aC 18 (by kernel_rfl),trivial,Below.refl _ _⟩};{exact .inr ⟨aC 18 (by kernel_rfl),trivial,Below.refl _ _⟩};{exact .inr ⟨aC 18 (by kernel_rfl),trivial,Below.refl _ _⟩};{exact .inr ⟨aC 18 (by kernel_rfl),trivial,Below.refl _ _⟩};{exact .inr ⟨aC 18 (by kernel_rfl),trivial,Below.refl _ _⟩};{exact .inr ⟨aC 18 (by kernel_rfl),trivial,Below.refl _ _⟩};{exact .inr ⟨aC 18 (by kernel_rfl),trivial,Below.refl _ _⟩};refine .inl ⟨trivial,?_⟩;have pX:b.tmps[111]?.getD undef=_:=aB (aC 18 (by kernel_rfl));rotate_left;refine .inl ⟨trivial,?_⟩;have pY:b.tmps[123]?.getD undef=_:=aB (aC 30 (by kernel_rfl));rotate_left;all_goals(unfold Oper.wp;generalize hK:(fun(b':Act) (x':World)=>∃y,_/\_)=K;simp only[execOp];go_simp;rw[←hK];exact⟨_,rfl,hA,rfl,Below.refl _ _⟩)
         intro b x hA hF hb
         have CR:b.eval (.tmp 93)=_:=hF 0 (by decide)
         have CU:b.eval (.tmp 94)=_:=hF 1 (by decide)
         obtain⟨YM,CY⟩:∃z,b.eval (.tmp 95)=z:=⟨_,rfl⟩
         have CV:b.eval (.tmp 96)=_:=hF 3 (by decide)
         have CW:b.eval (.tmp 97)=_:=hF 4 (by decide)
         have CX:b.eval (.tmp 98)=_:=hF 5 (by decide)
         have e99:b.eval (.tmp 99)=_:=hF 6 (by decide)
         have pR:b.eval (.tmp 100)=_:=hF 7 (by decide)
         have pU:b.eval (.tmp 101)=_:=hF 8 (by decide)
         have pV:b.eval (.tmp 102)=_:=hF 9 (by decide)
         have qH:b.eval (.tmp 103)=_:=hF 10 (by decide)
         have qI:b.eval (.tmp 104)=_:=hF 11 (by decide)
         have qJ:b.eval (.tmp 105)=_:=hF 12 (by decide)
         have qK:b.eval (.tmp 106)=_:=hF 13 (by decide)
         have qL:b.eval (.tmp 107)=_:=hF 14 (by decide)
         have e108:b.eval (.tmp 108)=_:=hF 15 (by decide)
         have e109:b.eval (.tmp 109)=_:=hF 16 (by decide)
         have pW:b.eval (.tmp 110)=_:=hF 17 (by decide)
         have pX:b.eval (.tmp 111)=_:=hF 18 (by decide)
         obtain⟨Wm,uz⟩:∃z,b.eval (.tmp 112)=z:=⟨_,rfl⟩
         obtain⟨Wn,uA⟩:∃z,b.eval (.tmp 113)=z:=⟨_,rfl⟩
         obtain⟨Wo,uB⟩:∃z,b.eval (.tmp 114)=z:=⟨_,rfl⟩
         obtain⟨Wp,e115⟩:∃z,b.eval (.tmp 115)=z:=⟨_,rfl⟩
         obtain⟨z116,e116⟩:∃z,b.eval (.tmp 116)=z:=⟨_,rfl⟩
         obtain⟨z117,e117⟩:∃z,b.eval (.tmp 117)=z:=⟨_,rfl⟩
         obtain⟨Wq,e118⟩:∃z,b.eval (.tmp 118)=z:=⟨_,rfl⟩
         obtain⟨z119,e119⟩:∃z,b.eval (.tmp 119)=z:=⟨_,rfl⟩
         obtain⟨Ws,e120⟩:∃z,b.eval (.tmp 120)=z:=⟨_,rfl⟩
         obtain⟨Wt,uC⟩:∃z,b.eval (.tmp 121)=z:=⟨_,rfl⟩
         obtain⟨Wu,uD⟩:∃z,b.eval (.tmp 122)=z:=⟨_,rfl⟩
         have pY:b.eval (.tmp 123)=_:=hF 30 (by decide)
         have e11:b.eval (.tmp 11)=_:=hF 31 (by decide)
         simp only[List.foldl,CR,CU,CY,CV,CW,CX,e99,pR,pU,pV,qH,qI,qJ,qK,qL,e108,e109,pW,pX,uz,uA,uB,e115,e116,e117,e118,e119,e120,uC,uD,pY,e11]at hb
         clear hF CR CU CY CV CW CX e99 pR pU pV qH qI qJ qK qL e108 e109 pW pX uz uA uB e115 e116 e117 e118 e119 e120 uC uD pY e11
         subst hb
         simp only[Act.put,List.setIfInBounds_toArray,List.set_cons_succ,List.set_cons_zero]
         have lK:=iq.trans (hA.mono iq.size)
         obtain⟨c0,c1,c2,c3⟩:=Au.out x lK
         have ni:=wO.kept hA
         have HX:=ae (ak hA (ak lK ni))
         have hgx:=aj hgs lK.size
         clear hA lK ni iq pQ wO CQ
         have y7:Sp.ha ls sb i=true:=by rw[wK.out];rfl
         have hbd:=HIS.out.all i IP y7
         have hf1:¬(i:Int)<(sf:Int):=by omega
         have hf2:¬(st:Int)<(i:Int):=by omega
         have hf3:¬i<sf:=by omega
         have Eu:¬st<i:=by omega
         have Po:sf<=i:=by omega
         have Pp:i<=st:=by omega
         go_upto_region 23 with fail
         clear y7 hbd hf1 hf2 hf3 Eu Po Pp c0 c1 c2 c3
         rotate_left
         rotate_left
         refine dM [] [93,94,95,96,97,98,99,100,101,102,103,104,105,106,107,108,109,110,111,112,113,114,115,116,117,118,119,120,121,122,123,11] (fun x=>Below FE.heap.size FE x) (fun x x'=>Below x.heap.size x x') (PF (PsTrue20 (Fl.dW ls (i:Int))) [some (.slice (some ⟨gl,0,none⟩) nl cl),some (.int .i64 (i:Int)),none,some (.slice (some ⟨g1,0,none⟩) n c1),some (.int .i64 (k:Int)),some (.pointer (some ⟨g1,k*4,none⟩)),some (.pointer (some ⟨g1,k*4,none⟩)),some (.int .i64 (sb:Int)),some (.bool false),some (.bool false),some (.slice (some ⟨g9,0,none⟩) m9 c9),some (.slice (some ⟨g1,0,none⟩) n c1),some (.int .i64 (k:Int)),some (.pointer (some ⟨g1,k*4,none⟩)),some (.pointer (some ⟨g1,k*4,none⟩)),some (.int .i64 (sb:Int)),some (.bool false),some (.bool false),some (.bool false),some (.slice (some ⟨gl,0,none⟩) nl cl),some (.int .i64 (i:Int)),some (.pointer (some ⟨gl,i*6,none⟩)),some (.agg #[.int .i64 xk, .int .i64 xd, .int .i64 xa, .int .i64 xb, .int .i64 xn, .slice la lx lc]),some (.int .i64 sv),some (.slice (some ⟨g1,0,none⟩) n c1),some (.int .i64 (k:Int)),some (.pointer (some ⟨g1,k*4,none⟩)),some (.pointer (some ⟨g1,k*4,none⟩)),some (.int .i64 (sb:Int)),some (.bool t3),some (.bool t3),some (.bool t3)]) (by kernel_rfl) (by kernel_rfl) (by simp) ((Below.refl _ _).drew) (PF.bG (fun i y x x' hr hf=>PsTrue20.kept hf hr)) ?_ ?_
         · refine⟨?_,?_,?_,?_,?_,?_,?_,?_,?_,?_,?_,?_,?_,?_,?_,?_,?_,?_,?_,?_,?_,?_,?_,?_,?_,?_,?_,?_,?_,?_,?_,?_,trivial⟩;(all_goals intro b x hA hfr aC);refine .inl ⟨trivial,?_⟩;have e3:b.tmps[3]?.getD undef= .slice (some ⟨gl,0,none⟩) nl cl:=aB (hfr 3 (by decide));rotate_left;refine .inl ⟨trivial,?_⟩;have e9:b.tmps[9]?.getD undef= .int .i64 (i:Int):=aB (hfr 9 (by decide));rotate_left;{refine .inl ⟨trivial,?_⟩;have CR:b.tmps[93]?.getD undef=_:=aB (aC 0 (by kernel_rfl));have CU:b.tmps[94]?.getD undef=_:=aB (aC 1 (by kernel_rfl));unfold Oper.wp;generalize hK:(fun(b':Act) (x':World)=>∃y,_/\_)=K;simp only[execOp];go_simp;refine(HC.out.2.2.1 _ (i:Int) (pQ.kept hA)).mono ?_;rintro e w' ⟨g,m,c,rfl,ho,hB⟩;rw[←hK];exact⟨_,rfl,hA.trans (hB.mono hA.size),⟨g,m,c,rfl,(OI.il ho.oi).2⟩,hB⟩};refine .inl ⟨trivial,?_⟩;have e4:b.tmps[4]?.getD undef= .slice (some ⟨g1,0,none⟩) n c1:=aB (hfr 4 (by decide));rotate_left;refine .inl ⟨trivial,?_⟩;have e7:b.tmps[7]?.getD undef= .int .i64 (k:Int):=aB (hfr 7 (by decide));rotate_left;refine .inl ⟨trivial,?_⟩;have CV:b.tmps[96]?.getD undef=_:=aB (aC 3 (by kernel_rfl));have CW:b.tmps[97]?.getD undef=_:=aB (aC 4 (by kernel_rfl));rotate_left;refine .inl ⟨trivial,?_⟩;have CX:b.tmps[98]?.getD undef=_:=aB (aC 5 (by kernel_rfl));rotate_left;refine .inl ⟨trivial,?_⟩;have e99:b.tmps[99]?.getD undef=_:=aB (aC 6 (by kernel_rfl));have cx:=(Au.out x (iq.trans (hA.mono iq.size))).1;rotate_left;{refine .inl ⟨trivial,?_⟩;obtain⟨g,m,c,t95,hil⟩:QIL (Fl.dW ls (i:Int)) (b.eval (.tmp 95)) x:=aC 2 (by kernel_rfl);have CY:b.tmps[95]?.getD undef=_:=aB t95;have pR:b.tmps[100]?.getD undef=_:=aB (aC 7 (by kernel_rfl));unfold Oper.wp;generalize hK:(fun(b':Act) (x':World)=>∃y,_/\_)=K;simp only[execOp];go_simp;refine(l7 _ m c _ _ x hil).mono ?_;rintro e w' ⟨rfl,bD⟩;subst bD;rw[←hK];exact⟨_,rfl,hA,(by show Value.bool _=Value.bool false;rw[HT.out.1]),Below.refl _ _⟩};refine .inl ⟨trivial,?_⟩;have pU:b.tmps[101]?.getD undef=_:=aB (aC 8 (by kernel_rfl));rotate_left;refine .inl ⟨aC 9 (by kernel_rfl),?_⟩;have e10:b.tmps[10]?.getD undef= .slice (some ⟨g9,0,none⟩) m9 c9:=aB (hfr 10 (by decide));rotate_left;refine .inl ⟨aC 9 (by kernel_rfl),?_⟩;have e4:b.tmps[4]?.getD undef= .slice (some ⟨g1,0,none⟩) n c1:=aB (hfr 4 (by decide));rotate_left;refine .inl ⟨aC 9 (by kernel_rfl),?_⟩;have e7:b.tmps[7]?.getD undef= .int .i64 (k:Int):=aB (hfr 7 (by decide));rotate_left;refine .inl ⟨aC 9 (by kernel_rfl),?_⟩;have qI:b.tmps[104]?.getD undef=_:=aB (aC 11 (by kernel_rfl));have qJ:b.tmps[105]?.getD undef=_:=aB (aC 12 (by kernel_rfl));rotate_left;refine .inl ⟨aC 9 (by kernel_rfl),?_⟩;have qK:b.tmps[106]?.getD undef=_:=aB (aC 13 (by kernel_rfl));rotate_left;refine .inl ⟨aC 9 (by kernel_rfl),?_⟩;have qL:b.tmps[107]?.getD undef=_:=aB (aC 14 (by kernel_rfl));have cx:=(Au.out x (iq.trans (hA.mono iq.size))).1;rotate_left;{refine .inl ⟨aC 9 (by kernel_rfl),?_⟩;have qH:b.tmps[103]?.getD undef=_:=aB (aC 10 (by kernel_rfl));have e108:b.tmps[108]?.getD undef=_:=aB (aC 15 (by kernel_rfl));unfold Oper.wp;generalize hK:(fun(b':Act) (x':World)=>∃y,_/\_)=K;simp only[execOp];go_simp;refine(l7 _ m9 c9 _ _ x (wO.kept hA)).mono ?_;rintro e w' ⟨rfl,bD⟩;subst bD;rw[←hK];exact⟨_,rfl,hA,(by show Value.bool _=Value.bool false;rw[HT.out.2.1]),Below.refl _ _⟩};refine .inl ⟨trivial,?_⟩;have pV:b.tmps[102]?.getD undef=_:=aB (aC 9 (by kernel_rfl));have e109:b.tmps[109]?.getD undef=_:=aB (aC 16 (by kernel_rfl));rotate_left;refine .inl ⟨trivial,?_⟩;have pW:b.tmps[110]?.getD undef=_:=aB (aC 17 (by kernel_rfl));rotate_left;refine .inl ⟨aC 18 (by kernel_rfl),?_⟩;have e3:b.tmps[3]?.getD undef= .slice (some ⟨gl,0,none⟩) nl cl:=aB (hfr 3 (by decide));rotate_left;refine .inl ⟨aC 18 (by kernel_rfl),?_⟩;have e9:b.tmps[9]?.getD undef= .int .i64 (i:Int):=aB (hfr 9 (by decide));rotate_left;refine .inl ⟨aC 18 (by kernel_rfl),?_⟩;have uz:b.tmps[112]?.getD undef=_:=aB (aC 19 (by kernel_rfl));have uA:b.tmps[113]?.getD undef=_:=aB (aC 20 (by kernel_rfl));rotate_left;refine .inl ⟨aC 18 (by kernel_rfl),?_⟩;have uB:b.tmps[114]?.getD undef=_:=aB (aC 21 (by kernel_rfl));obtain⟨y0,y1,y2,y3,y4,y5⟩:=Wl.out x hA;rotate_left;{refine .inl ⟨aC 18 (by kernel_rfl),?_⟩;have e115:b.tmps[115]?.getD undef=_:=aB (aC 22 (by kernel_rfl));unfold Oper.wp;generalize hK:(fun(b':Act) (x':World)=>∃y,_/\_)=K;simp only[execOp];go_simp;refine(zM ⟨xk,xd,xa,xb,xn,xl⟩ la lx lc _ (CQ.kept hA)).mono ?_;rintro e w' ⟨rfl,hB⟩;rw[←hK];exact⟨_,rfl,hA.trans (hB.mono hA.size),(by show Value.int .i64 _=Value.int .i64 sv;rw[HT.out.2.2.1]),hB⟩};refine .inl ⟨aC 18 (by kernel_rfl),?_⟩;have e4:b.tmps[4]?.getD undef= .slice (some ⟨g1,0,none⟩) n c1:=aB (hfr 4 (by decide));rotate_left;refine .inl ⟨aC 18 (by kernel_rfl),?_⟩;have e7:b.tmps[7]?.getD undef= .int .i64 (k:Int):=aB (hfr 7 (by decide));rotate_left;refine .inl ⟨aC 18 (by kernel_rfl),?_⟩;have e117:b.tmps[117]?.getD undef=_:=aB (aC 24 (by kernel_rfl));have e118:b.tmps[118]?.getD undef=_:=aB (aC 25 (by kernel_rfl));rotate_left;refine .inl ⟨aC 18 (by kernel_rfl),?_⟩;have e119:b.tmps[119]?.getD undef=_:=aB (aC 26 (by kernel_rfl));rotate_left;refine .inl ⟨aC 18 (by kernel_rfl),?_⟩;have e120:b.tmps[120]?.getD undef=_:=aB (aC 27 (by kernel_rfl));have cx:=(Au.out x (iq.trans (hA.mono iq.size))).1;rotate_left;{refine .inl ⟨aC 18 (by kernel_rfl),?_⟩;have e116:b.tmps[116]?.getD undef=_:=aB (aC 23 (by kernel_rfl));have uC:b.tmps[121]?.getD undef=_:=aB (aC 28 (by kernel_rfl));unfold Oper.wp;generalize hK:(fun(b':Act) (x':World)=>∃y,_/\_)=K;simp only[execOp];go_simp;rw[←hK];exact⟨_,rfl,hA,(by show Value.bool _=Value.bool t3;rw[HT.out.2.2.2]),Below.refl _ _⟩};refine .inl ⟨trivial,?_⟩;have pX:b.tmps[111]?.getD undef=_:=aB (aC 18 (by kernel_rfl));have uD:b.tmps[122]?.getD undef=_:=aB (aC 29 (by kernel_rfl));rotate_left;refine .inl ⟨trivial,?_⟩;have pY:b.tmps[123]?.getD undef=_:=aB (aC 30 (by kernel_rfl));rotate_left;all_goals(unfold Oper.wp;generalize hK:(fun(b':Act) (x':World)=>∃y,_/\_)=K;simp only[execOp];go_simp;rw[←hK];exact⟨_,rfl,hA,rfl,Below.refl _ _⟩)
         intro b x hA hF hb
         have CR:b.eval (.tmp 93)=_:=hF 0 (by decide)
         have CU:b.eval (.tmp 94)=_:=hF 1 (by decide)
         obtain⟨YM,CY⟩:∃z,b.eval (.tmp 95)=z:=⟨_,rfl⟩
         have CV:b.eval (.tmp 96)=_:=hF 3 (by decide)
         have CW:b.eval (.tmp 97)=_:=hF 4 (by decide)
         have CX:b.eval (.tmp 98)=_:=hF 5 (by decide)
         have e99:b.eval (.tmp 99)=_:=hF 6 (by decide)
         have pR:b.eval (.tmp 100)=_:=hF 7 (by decide)
         have pU:b.eval (.tmp 101)=_:=hF 8 (by decide)
         have pV:b.eval (.tmp 102)=_:=hF 9 (by decide)
         have qH:b.eval (.tmp 103)=_:=hF 10 (by decide)
         have qI:b.eval (.tmp 104)=_:=hF 11 (by decide)
         have qJ:b.eval (.tmp 105)=_:=hF 12 (by decide)
         have qK:b.eval (.tmp 106)=_:=hF 13 (by decide)
         have qL:b.eval (.tmp 107)=_:=hF 14 (by decide)
         have e108:b.eval (.tmp 108)=_:=hF 15 (by decide)
         have e109:b.eval (.tmp 109)=_:=hF 16 (by decide)
         have pW:b.eval (.tmp 110)=_:=hF 17 (by decide)
         have pX:b.eval (.tmp 111)=_:=hF 18 (by decide)
         have uz:b.eval (.tmp 112)=_:=hF 19 (by decide)
         have uA:b.eval (.tmp 113)=_:=hF 20 (by decide)
         have uB:b.eval (.tmp 114)=_:=hF 21 (by decide)
         have e115:b.eval (.tmp 115)=_:=hF 22 (by decide)
         have e116:b.eval (.tmp 116)=_:=hF 23 (by decide)
         have e117:b.eval (.tmp 117)=_:=hF 24 (by decide)
         have e118:b.eval (.tmp 118)=_:=hF 25 (by decide)
         have e119:b.eval (.tmp 119)=_:=hF 26 (by decide)
         have e120:b.eval (.tmp 120)=_:=hF 27 (by decide)
         have uC:b.eval (.tmp 121)=_:=hF 28 (by decide)
         have uD:b.eval (.tmp 122)=_:=hF 29 (by decide)
         have pY:b.eval (.tmp 123)=_:=hF 30 (by decide)
         have e11:b.eval (.tmp 11)=_:=hF 31 (by decide)
         simp only[List.foldl,CR,CU,CY,CV,CW,CX,e99,pR,pU,pV,qH,qI,qJ,qK,qL,e108,e109,pW,pX,uz,uA,uB,e115,e116,e117,e118,e119,e120,uC,uD,pY,e11]at hb
         clear hF CR CU CY CV CW CX e99 pR pU pV qH qI qJ qK qL e108 e109 pW pX uz uA uB e115 e116 e117 e118 e119 e120 uC uD pY e11
         subst hb
         simp only[Act.put,List.setIfInBounds_toArray,List.set_cons_succ,List.set_cons_zero]
         have lK:=iq.trans (hA.mono iq.size)
         obtain⟨c0,c1,c2,c3⟩:=Au.out x lK
         have ni:=wO.kept hA
         have HX:=ae (ak hA (ak lK ni))
         have hgx:=aj hgs lK.size
         clear hA lK ni iq pQ wO CQ
         cases t3
         have y7:Sp.ha ls sb i=false:=by rw[wK.out];rfl
         have hf1:¬i=sf:=by rintro rfl;rw[HIS.out.hf]at y7;cases y7
         have hf2:¬i=st:=by rintro rfl;rw[HIS.out.ht]at y7;cases y7
         have hf3:((i:Int)==(sf:Int))=false:=by simp;omega
         have Eu:((i:Int)==(st:Int))=false:=by simp;omega
         go_upto_region 23 with fail
         clear y7 hf1 hf2 hf3 Eu c0 c1 c2 c3
         rotate_left
         have y7:Sp.ha ls sb i=true:=by rw[wK.out];rfl
         have hbd:=HIS.out.all i IP y7
         have hf1:¬(i:Int)<(sf:Int):=by omega
         have hf2:¬(st:Int)<(i:Int):=by omega
         have hf3:¬i<sf:=by omega
         have Eu:¬st<i:=by omega
         have Po:sf<=i:=by omega
         have Pp:i<=st:=by omega
         go_upto_region 23 with fail
         any_goals(first|(exfalso;have hz:=HIS.out.all i IP (by rw[wK.out];rfl);omega)|skip)
         clear y7 hbd hf1 hf2 hf3 Eu Po Pp c0 c1 c2 c3
         all_goals as_aux_lemma=>have a0:∀p:bU x,p.to.cell? ⟨gl,i*6,none⟩=some (.int .i64 xk):=fun p=>(Wl.out p.to (HX.out.1.trans (p.h.mono HX.out.1.size))).1;have a1:∀p:bU x,p.to.cell? ⟨gl,i*6+1,none⟩=some (.int .i64 xd):=fun p=>(Wl.out p.to (HX.out.1.trans (p.h.mono HX.out.1.size))).2.1;have s0:∀p:bU x,p.to.cell? ⟨g1,k*4,none⟩=some (.int .i64 (sb:Int)):=fun p=>(Au.out p.to (HX.out.2.1.trans (p.h.mono HX.out.2.1.size))).1;have hasB:=fun p:bU x=>l7 (some ⟨g9,0,none⟩) m9 c9 (Fl.eQ ls (i:Int)) (sb:Int) p.to (HX.out.2.2.kept p.h);rw[HT.out.2.1]at hasB;have FH:Hid (∀v,(cr||Sp.cr ls sb i)=v->v=(List.range (i+1)).any fun j=>Sp.cr ls sb j):=fun v hv=>by{rw[←hv,uG.out,List.range_succ,List.any_append];simp};have hne:=bU.any x;clear uG;cases cr;rotate_left;{have Ak:=ae (FH.out true rfl);clear FH;refine aQ (by kernel_rfl) (by kernel_rfl) ?_;(repeat(go_big_quiet_step (first|(go_at_call 15;refine bP (hasB _)))));refine wpQuiet_nil ?_;rintro _ ⟨pw,rfl⟩;have p8:=ae (HX.out.2.1.trans (pw.h.mono HX.out.2.1.size));obtain⟨Ww,p9⟩:∃W,pw.to=W:=⟨_,rfl⟩;rw[p9]at p8 ⊢;clear p9;go_wp2;go_roundg (nl-(i+1));(case measure=>omega);case rel=>exact⟨i+1,true,rfl,hin,rfl,by simp,Ak,p8.out⟩};by_cases h7:xk=7;rotate_left;{have Ak:=ae (FH.out false (by rw[Pn.out];simp[h7]));have Zq:(xk==7)=false:=by{simpa using h7};clear FH;refine aQ (by kernel_rfl) (by kernel_rfl) ?_;(repeat(go_big_quiet_step (first|(go_at_call 15;refine bP (hasB _)))));refine wpQuiet_nil ?_;rintro _ ⟨pw,rfl⟩;have p8:=ae (HX.out.2.1.trans (pw.h.mono HX.out.2.1.size));obtain⟨Ww,p9⟩:∃W,pw.to=W:=⟨_,rfl⟩;rw[p9]at p8 ⊢;clear p9;go_wp2;go_roundg (nl-(i+1));(case measure=>omega);case rel=>exact⟨i+1,false,rfl,hin,rfl,by simp,Ak,p8.out⟩};subst h7;by_cases hd:xd=(sb:Int);{have Ak:=ae (FH.out false (by rw[Pn.out];simp[hd]));have hdq:(xd !=(sb:Int))=false:=by{simp[hd]};clear FH hd;refine aQ (by kernel_rfl) (by kernel_rfl) ?_;(repeat(go_big_quiet_step (first|(go_at_call 15;refine bP (hasB _)))));refine wpQuiet_nil ?_;rintro _ ⟨pw,rfl⟩;have p8:=ae (HX.out.2.1.trans (pw.h.mono HX.out.2.1.size));obtain⟨Ww,p9⟩:∃W,pw.to=W:=⟨_,rfl⟩;rw[p9]at p8 ⊢;clear p9;go_wp2;go_roundg (nl-(i+1));(case measure=>omega);case rel=>exact⟨i+1,false,rfl,hin,rfl,by simp,Ak,p8.out⟩};have Ak:=ae (FH.out _ (by rw[Pn.out,decide_eq_true (show(7:Int)=7 from rfl),decide_eq_true hd,Bool.true_and,Bool.true_and,Bool.false_or]));have hdq:(xd !=(sb:Int))=true:=by{simp[hd]};clear FH hd;refine aQ (by kernel_rfl) (by kernel_rfl) ?_;(repeat(go_big_quiet_step (first|(go_at_call 15;refine bP (hasB _)))));refine wpQuiet_nil ?_;rintro _ ⟨pw,rfl⟩;have p8:=ae (HX.out.2.1.trans (pw.h.mono HX.out.2.1.size));obtain⟨Ww,p9⟩:∃W,pw.to=W:=⟨_,rfl⟩;rw[p9]at p8 ⊢;clear p9;go_wp2;go_roundg (nl-(i+1));(case measure=>omega);case rel=>exact⟨i+1,_,rfl,hin,rfl,by simp,Ak,p8.out⟩
set_option maxRecDepth 100000 in
theorem lifted (os:Os)(started:os.Started)(H:Type)(enc:TypeId×Value->H):ReturnsInHanded {} Tryz.checked os 3 .any (Rows.fnSpansSpec.pre6 enc Tryz.prog Tryz.f3 Rows.fnSpansRow.domain false) (Rows.fnSpansSpec.post enc Tryz.prog Tryz.f3 false true false false):=by refine returnsInHanded_of_change (C:=Tryz.checked) own started (by kernel_rfl) Tryz.func3 (ChangeSpec.witness6 (enc:=enc) (C:=Tryz.checked) false ⟨#[],#[.slice none 0 0],[]⟩ 8 (by kernel_rfl) (by kernel_rfl) (by kernel_rfl) (by kernel_rfl)) ?_;intro W base args ds gs before hval0 hW hcnd _;have hval:∀(j:Nat) t v,Tryz.f3.params[j]?=some t->args[j]?=some v->Value.okWide Tryz.prog W .any base t v:=hval0;have hW':=hW;obtain⟨p,q,Pq,hV,rfl,hfz,hnd⟩:=hW;have hA:DataW.TrodAll enc Tryz.prog W 0 (fun _=>true) true Tryz.f3.params.toList args.toList ds p:=Pq;rw[Tryz.params3]at hA hval;obtain⟨v0,Rm,d0,ds0,p0,q0,hargs,rfl,rfl,h0,r0⟩:=trodAll_cons hA;obtain⟨rfl,rfl,rfl⟩:=trodAll_nil r0;obtain rfl:args=#[v0]:=by{cases args;simp_all};obtain⟨rfl,rfl⟩:=trodVars_none hV;obtain⟨a0,jY,cap0,rfl⟩:=okWide_slice Tryz.underlying22 (hval 0 22 v0 rfl rfl);have k0:=h0;have Wx:∀x∈p0,x.block<W.heap.size:=by{obtain⟨m,hm⟩:=k0;exact DataW.trod_lt m _ _ _ hm};obtain⟨z0,w0⟩:∃zs,IsRow .u8 W a0 jY cap0 zs:=by{obtain⟨fuel,hf⟩:=h0;rcases open_ints Tryz.underlying22 Tryz.underlying5 (by kernel_rfl) hf with⟨hcs,_⟩|⟨x,l,c,zs,hcs,_,hl,hm,hz,_,hcell,hwz⟩;{simp[Value.cells]at hcs;obtain⟨rfl,rfl,rfl⟩:=hcs;exact⟨[], .inl ⟨rfl,rfl,rfl,rfl⟩⟩};simp[Value.cells]at hcs;obtain⟨rfl,rfl,rfl⟩:=hcs;exact⟨zs, .inr ⟨_,rfl,hl,hm,by simpa using hz,hcell,hwz⟩⟩};clear Pq hval0;refine(walk a0 jY cap0 z0 W w0).mono fun e W' ⟨he,dS⟩=>?_;subst he;exact⟨_,rfl,_,_,_,[],_,[],hW',trodAll_mk1 (shut_bool Tryz.underlying4 _),(trodAll_cons_mk (Below.trod laidOut (by kernel_rfl) (of_decide_eq_true (by kernel_rfl)) k0 dS Wx) trodAll_mk0),rfl,dS.frame _,fun h=>by cases h⟩
theorem over:Rows.fnSpansRow.holds Tryz.pinned (OpenSpec.ofChange Rows.fnSpansSpec):=
  OpenClaim.holds_of_wide 3 Tryz.f3 rfl rfl rfl rfl rfl rfl rfl ⟨rfl,rfl,rfl,rfl,rfl⟩ rfl rfl rfl rfl rfl (by kernel_rfl) Tryz.func3 (by kernel_rfl)
    (of_decide_eq_true (by kernel_rfl)) (by unfold Func.isWrapper;first|(rw[ay (by decide+kernel)];kernel_rfl)|(rw[ax (by decide+kernel)];exact⟨rfl,rfl⟩))
    (fun os started H enc _=>lifted os started H enc)
theorem proved:Rows.FnSpansSaid:=over
#print axioms proved
end Go.Proofs.YtlbkdlnalgkjeaaGreat.fnSpans
