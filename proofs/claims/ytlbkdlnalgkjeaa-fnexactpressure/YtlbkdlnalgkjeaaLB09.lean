/-
  Own texts for a law: Fi0 SpI4 SpM SpE Mem0 Mem4 Mem7 LinE1 LinR
-/
import Derived.Test.YtlbkdlnalgkjeaaLB06
import Derived.Maps.OwnSet
import Derived.DeepKeys4
namespace Go.Proofs.Ytlbkdlnalgkjeaa
open Go.RowKit Go.Shelf
set_option linter.all false
set_option maxRecDepth 100000
set_option maxHeartbeats 16000000
theorem zD (n:Int)(h0:0<=n)(h1:n<2 ^ 40):IntKind.u64.wrap n=n:=by rw[IntKind.wrap_u64];omega
theorem lG {n m:Nat}(hn:n<2 ^ 40)(hm:m<2 ^ 40):bits .or .u64 n m=((n|||m:Nat):Int):=(bits_nat .u64 40 (by decide) zD n m hn hm).2
theorem uV {n m:Nat}(hn:n<2 ^ 40)(hm:m<2 ^ 40):bits .and .u64 n m=((n&&& m:Nat):Int):=(bits_nat .u64 40 (by decide) zD n m hn hm).1
theorem uB {n m:Nat}(hn:n<2 ^ 40)(hm:m<2 ^ 40):bits .andNot .u64 n m=((Fl.an n m:Nat):Int):=by have hx:Fl.an n m<2 ^ 40:=Fl.jE hn;have e:(BitVec.ofInt 64 (n:Int)&&& ~~~BitVec.ofInt 64 (m:Int)).toNat=Fl.an n m:=by{rw[BitVec.toNat_and,BitVec.toNat_not,BitVec.ofInt_natCast,BitVec.ofInt_natCast,BitVec.toNat_ofNat,BitVec.toNat_ofNat,Nat.mod_eq_of_lt (by omega),Nat.mod_eq_of_lt (by omega)];refine Nat.eq_of_testBit_eq fun k=>?_;rw[Nat.testBit_and,Fl.gG,Nat.sub_sub,Nat.add_comm,Nat.testBit_two_pow_sub_succ (by omega)];by_cases h:k<64;{simp[h]};rw[Nat.testBit_lt_two_pow (aj hn (Nat.pow_le_pow_right (by decide) (by omega)))];rfl};show IntKind.u64.wrap ((BitVec.ofInt 64 (n:Int)&&& ~~~BitVec.ofInt 64 (m:Int)).toNat:Int)=_;rw[e];exact zD _ (by omega) (by omega)
theorem uC {j:Nat}(hj:j<=39):IntKind.u64.wrap ((2:Int) ^ j)=((2 ^ j:Nat):Int)/\(2:Nat) ^ j<2 ^ 40:=by have h:(2:Nat) ^ j<2 ^ 40:=Nat.pow_lt_pow_right (by decide) (by omega);refine⟨?_,h⟩;have e:(2:Int) ^ j=((2 ^ j:Nat):Int):=by{simp};rw[e];generalize(2:Nat) ^ j=m at h ⊢;exact zD _ (by omega) (by omega)
theorem vT {n j:Nat}(hn:n<2 ^ 40)(hj:j<=39):bits .or .u64 (n:Int) (IntKind.u64.wrap (2 ^ j))=((n|||2 ^ j:Nat):Int):=by rw[(uC hj).1,lG hn (uC hj).2]
theorem cK (la:Option Addr)(ln lc:Nat)(xs:List Int)(hx:∀y∈xs,0<=y/\y<=39)(hlen:ln<=1000000)(w:World)(hs:IL w la ln xs):Calls Try.prog 56 #[.slice la ln lc] w fun e w'=>e= .returned (.int .u64 ((Fl.mk xs:Nat):Int))/\w'=w:=by have HL:=ae hs.1;have HX:=ae hx;have oq:(ln:Int)<=1000000:=by{omega};go_enter Try.func56,Try.ntmps56;go_wp2;go_loopg [3,8] ln (fun gk vx vi wr=>∃(k q:Nat),gk=ln-k/\k<=ln/\vx= .int .u64 (q:Int)/\vi= .int .i64 (k:Int)/\Hid (q=Fl.mk (xs.take k))/\w=wr);(case atStart=>exact⟨0,0,rfl,by omega,rfl,rfl,(by show _=_;simp[Fl.mk]),rfl⟩);case round=>obtain⟨k,q,nI,hk,rfl,rfl,HQ,aY⟩:=hrel;subst aY;by_cases hlt:k<ln;{have aX:(k:Int)<(ln:Int):=by{omega};have hkl:k<xs.length:=by{rw[HL.out];exact hlt};obtain⟨-,-,h0|⟨lb,lo,rfl,hlb,hcc⟩⟩:=hs;{omega};have hc:=hcc k hlt;have hy:=HX.out (xs.getD k 0) (by rw[ah,ai hkl];exact List.getElem_mem hkl);have HS:=ae (Fl.kY hkl);rw[←HQ.out]at HS;have tV:Hid (q<2 ^ 40):=by{show _<_;rw[HQ.out];exact Fl.mg fun y hy=>HX.out y (List.mem_of_mem_take hy)};obtain⟨y,rA⟩:∃y,xs.getD k 0=y:=⟨_,rfl⟩;rw[rA]at hc hy HS;clear rA hkl hx hcc;obtain⟨j,rfl⟩:=Int.eq_ofNat_of_zero_le hy.1;rw[Int.toNat_natCast]at HS;have hj:(j:Int)<=39:=hy.2;have hor:bits .or .u64 (q:Int) (IntKind.u64.wrap (2 ^ j))=((q|||2 ^ j:Nat):Int):=vT tV.out (by omega);clear hy;go_wp2;go_roundg (ln-(k+1));(case measure=>omega);case rel=>exact⟨k+1,q|||2 ^ j,rfl,hlt,rfl,by simp,(by show _=_;rw[HS.out]),rfl⟩};have hke:k=ln:=by{omega};have HE:Hid (q=Fl.mk xs):=by{show _=_;rw[HQ.out,hke,←HL.out,List.take_length]};have aX:¬(k:Int)<(ln:Int):=by{omega};clear HQ hke;go_wp2;go_ret;exact⟨by rw[←HE.out]<;>rfl,rfl⟩
theorem sH (m k:Nat):(m&&& Fl.mk [(k:Int)]=0↔m.testBit k=false):=by have e:Fl.mk [(k:Int)]=2 ^ k:=by{simp[Fl.mk]};rw[e];constructor;{intro h;have h2:=congrArg (fun n=>n.testBit k) h;simp only[Nat.testBit_and,Nat.testBit_two_pow_self,Nat.zero_testBit,Bool.and_true]at h2;exact h2};intro h;refine Nat.eq_of_testBit_eq fun j=>?_;rw[Nat.testBit_and,Nat.testBit_two_pow,Nat.zero_testBit];by_cases hj:k=j;{subst hj;rw[h];rfl};simp[hj]
theorem iG (m:Nat) (hm:m<2 ^ 40) (w:World):Calls Try.prog 43 #[.int .u64 (m:Int)] w fun e w'=>∃g n c,e= .returned (.slice (some ⟨g,0,none⟩) n c)/\OG w' w.heap.size g n c (Fl.eZ m)/\Below w.heap.size w w':=by
 have ho:=OG.empty w w.heap.size (Nat.le_refl _)
 have hB:=ay w (.cells #[] 2)
 go_enter Try.func43,Try.ntmps43
 go_wp2
 go_loopg [3,6] 40 (fun gk vo vi wr=>∃(k g n c:Nat),gk=40-k/\k<=40/\vo= .slice (some ⟨g,0,none⟩) n c/\vi= .int .i64 (k:Int)/\OG wr w.heap.size g n c (Fl.kL m k)/\Below w.heap.size w wr)
 case atStart=>exact⟨0,_,0,0,rfl,by omega,rfl,rfl,ho,hB⟩
 case round=>
  obtain⟨k,g,n,c,nI,hk,rfl,rfl,hor,hBr⟩:=hrel
  clear ho hB
  have aY:=hBr.size
  have HO:=ae (ak hor hBr)
  clear hor hBr
  by_cases hlt:k<40
  · have aX:(k:Int)<40:=by omega
    have hlen:=Fl.ik m k
    have hnk:n<=k:=by rw[HO.out.1.1]at hlen;exact hlen
    have hal:=ay wr (.cells #[.int .i64 (k:Int)] 2)
    have hcon:=cK (some ⟨wr.heap.size,0,none⟩) 1 1 [(k:Int)] (fun y hy=>by rw[List.mem_singleton]at hy;omega) (by omega) (wr.alloc (.cells #[.int .i64 (k:Int)] 2)) (OI.il (OG.one wr wr.heap.size (Nat.le_refl _) (k:Int)).oi).2
    have hp:Fl.mk [(k:Int)]<2 ^ 40:=Fl.mg fun y hy=>by rw[List.mem_singleton]at hy;omega
    have hAnd:=uV hm hp
    have hbit:=sH m k
    generalize Fl.mk [(k:Int)]=P at hcon hAnd hbit
    generalize m&&& P=z at hAnd hbit
    have HR:=ae (HO.out.1.kept hal)
    have HB:=ae (HO.out.2.trans (hal.mono aY))
    have hg:=HO.out.1.lt
    clear hlen hp
    rcases hb:m.testBit k with _|_
    · have hz:=hbit.2 hb;subst hz;have Cn:bits .and .u64 (m:Int) (P:Int)=0:=hAnd;have HE:Hid (Fl.kL m (k+1)=Fl.kL m k):=by{show _=_;rw[Fl.kL,av (by rw[hb];decide)]};clear hb hbit hAnd hal;go_wp2_with(go_at_call 56;refine hcon.mono ?_;rintro e w4 ⟨rfl,hw4⟩;subst w4;dsimp only);go_roundg (40-(k+1));(case measure=>omega);case rel=>exact⟨k+1,g,n,c,rfl,hlt,rfl,by simp,by rw[HE.out];exact HR.out,HB.out⟩
    · have hz:¬(z:Int)=0:=by intro h;have:=hbit.1 (by omega);rw[hb]at this;cases this
      have HE:Hid (Fl.kL m (k+1)=Fl.kL m k++[(k:Int)]):=by show _=_;rw[Fl.kL,ax hb]
      clear hb hbit hal
      have mD:=ay (wr.alloc (.cells #[.int .i64 (k:Int)] 2)) (.cells #[.int .i64 (k:Int)] 2)
      have HR2:=ae (HR.out.kept mD)
      have HB2:=ae (HB.out.trans (mD.mono HB.out.size))
      have HC:Hid (∀j,j<1->((wr.alloc (.cells #[.int .i64 (k:Int)] 2)).alloc (.cells #[.int .i64 (k:Int)] 2)).cell? ⟨wr.heap.size+1,0+j,none⟩=some (.int .i64 (([(k:Int)]:List Int).getD j 0))):=fun j hj=>by obtain rfl:j=0:=by{omega};simp
      clear mD
      go_wp2_with(first
        |(go_at_call 56;refine hcon.mono ?_;rintro e w4 ⟨rfl,hw4⟩;subst w4;dsimp only)
        |(at_builtin;refine aQ _ rfl _ _ rfl w.heap.size _ _ _ _ rfl HR2.out (wr.heap.size+1) 0 1 1 [(k:Int)] (by simp[Act.eval]) rfl HC.out (by omega) (by simp;omega) ?_;intro g4 c4 N4 w4 Cb om dB;have HF:=ae (ak om (az HB2.out dB (by omega)));clear om dB))
      go_roundg (40-(k+1))
      case measure=>omega
      case rel=>exact⟨k+1,g4,N4,c4,rfl,hlt,rfl,by simp,by rw[HE.out];exact HF.out.1,HF.out.2⟩
  · have hke:k=40:=by{omega};subst hke;go_wp2;go_ret;exact⟨g,n,c,rfl,HO.out.1,HO.out.2⟩
theorem jH (x y:Sp.S)(w:World):Calls Try.prog 17 #[.agg #[.int .i64 x.b, .int .i64 x.f, .int .i64 x.t, .bool x.c], .agg #[.int .i64 y.b, .int .i64 y.f, .int .i64 y.t, .bool y.c]] w fun e w'=>e= .returned (.bool (Sp.bQ x y))/\Below w.heap.size w w':=by
 have HM:Hid (Sp.bQ x y=decide (max x.f y.f<=min x.t y.t)):=by show _=_;unfold Sp.bQ;rw[Bool.eq_iff_iff];simp only[au,decide_eq_true_eq];omega
 obtain⟨xb,xf,xt,xc⟩:=x
 obtain⟨yb,yf,yt,yc⟩:=y
 dsimp only at HM ⊢
 obtain⟨q,hq⟩:∃q,Sp.bQ ⟨xb,xf,xt,xc⟩ ⟨yb,yf,yt,yc⟩=q:=⟨_,rfl⟩
 rw[hq]at HM ⊢
 clear hq
 have hal:=ay w (.cells #[.int .i64 xb, .int .i64 xf, .int .i64 xt, .bool xc] 36)
 have HB:=ae (hal.trans ((ay (w.alloc (.cells #[.int .i64 xb, .int .i64 xf, .int .i64 xt, .bool xc] 36)) (.cells #[.int .i64 yb, .int .i64 yf, .int .i64 yt, .bool yc] 36)).mono hal.size))
 clear hal
 go_enter Try.func17,Try.ntmps17
 go_wp2
 all_goals
  go_ret
  refine⟨?_,HB.out⟩
  first
    |exact(show Ending.returned (.bool (decide (xf<=xt)))=Ending.returned (.bool q)from by rw[HM.out,show decide (xf<=xt)=decide (max xf yf<=min xt yt)from decide_eq_decide.2 (by omega)])
    |exact(show Ending.returned (.bool (decide (xf<=yt)))=Ending.returned (.bool q)from by rw[HM.out,show decide (xf<=yt)=decide (max xf yf<=min xt yt)from decide_eq_decide.2 (by omega)])
    |exact(show Ending.returned (.bool (decide (yf<=xt)))=Ending.returned (.bool q)from by rw[HM.out,show decide (yf<=xt)=decide (max xf yf<=min xt yt)from decide_eq_decide.2 (by omega)])
    |exact(show Ending.returned (.bool (decide (yf<=yt)))=Ending.returned (.bool q)from by rw[HM.out,show decide (yf<=yt)=decide (max xf yf<=min xt yt)from decide_eq_decide.2 (by omega)])
section
open Go.RowKit Go.Maps Go.ChangeMaps
def vS (s:Sp.S):Value:= .agg #[.int .i64 s.b, .int .i64 s.f, .int .i64 s.t, .bool s.c]
theorem pU:laidOutB Try.prog=true:=by kernel_rfl
theorem mh:(36:TypeId)<Try.prog.types.size:=of_decide_eq_true (by kernel_rfl)
theorem oO:(match Try.prog.underlying 36 with|some (.array _ _)|some (.struct _)=>true|_=>false)=true:=by rw[Try.underlying36]
theorem iQ:Maps.Keyed Try.prog 36:=Maps.Keyed.of_law (deep_law_laid pU (m:=2) (by omega) mh (by kernel_rfl) oO)
theorem pz:Try.prog.keyType 36=true:=by kernel_rfl
theorem iY:Try.prog.cellsOf 36=4:=by kernel_rfl
theorem oZ:Try.prog.cellsOf 2=1:=by kernel_rfl
theorem nD:Try.prog.cellsOf 4=1:=by kernel_rfl
def Sp.In (s:Sp.S):Prop:=(-9223372036854775808<=s.b/\s.b<=9223372036854775807)/\(-9223372036854775808<=s.f/\s.f<=9223372036854775807)/\(-9223372036854775808<=s.t/\s.t<=9223372036854775807)
theorem lX (s:Sp.S)(h:Sp.In s):∃l,keyOf Try.prog 36 (vS s)=some l:=by have h0:=mh;obtain⟨hb,hf,ht⟩:=h;obtain⟨d,hd⟩:∃d,Try.prog.types.size=d+1:=⟨_,(Nat.succ_pred_eq_of_pos (Nat.lt_of_le_of_lt (Nat.zero_le _) h0)).symm⟩;have w1:(Lit.int .i64 s.b).wf=true:=WalkArith.wf_i64 hb;have w2:(Lit.int .i64 s.f).wf=true:=WalkArith.wf_i64 hf;have w3:(Lit.int .i64 s.t).wf=true:=WalkArith.wf_i64 ht;unfold keyOf;rw[Try.underlying36];dsimp only;rw[pz,ax (by simp[vS,Value.formed,Try.underlying36,iY]),hd];simp[Program.keyLits,Try.underlying36,Try.underlying2,Try.underlying4,iY,oZ,nD,vS,Value.cells,w1,w2,w3]
theorem vW {s r:Sp.S}(h:vS s=vS r):s.b=r.b/\s.f=r.f/\s.t=r.t/\s.c=r.c:=by simpa[vS]using h
def SK (W:World)(m:Nat)(xs:List Sp.S):Prop:=∃es clock,W.heap[m]?=some (.map es clock)/\es.toList.map (fun e:MapEntry=>e.key)=xs.map vS
theorem SK.lt {W:World}{m:Nat}{xs:List Sp.S}(h:SK W m xs):m<W.heap.size:=by obtain⟨es,clock,h,-⟩:=h;exact(Array.getElem?_eq_some_iff.1 h).1
theorem SK.bM {W W':World}{m:Nat}{xs:List Sp.S}{row:Option Nat}(h:SK W m xs)(hg:W.grownBy W' row)(hne:some m≠row):SK W' m xs:=by have hlt:=h.lt;obtain⟨es,clock,h1,h2⟩:=h;exact⟨es,clock,(hg.block m hlt hne).trans h1,h2⟩
theorem SK.kept {W W':World}{m:Nat}{xs:List Sp.S}(h:SK W m xs)(hB:Below W.heap.size W W'):SK W' m xs:=by have hlt:=h.lt;obtain⟨es,clock,h1,h2⟩:=h;exact⟨es,clock,(hB.block m hlt).trans h1,h2⟩
theorem SK.made (W:World):SK (W.alloc (.map #[] 0)) W.heap.size []:=⟨#[],0,(MapKept.heap_alloc W _).1,rfl⟩
theorem dS {W:World}{m:Nat}{es es':Array MapEntry}{c c':Nat}(h:W.heap[m]?=some (.map es c)):W.grownBy (setBlock W m (.map es' c')) (some m):=
 World.mapTurned.grown ⟨es,c,es',c',h,rfl⟩
section
variable {ops : Array Oper} {rest : List Oper} {o : Oper} {a : Act} {w : World} {Q : Exit → Act → World → Prop}
theorem vU (hg:o.guard=none)(m x v:Operand)(hop:o.op=Op.mapUpdate 57 m x v)(b:Nat)(xs:List Sp.S)(s:Sp.S)(hm:a.eval m= .map (some b))(h:SK w b xs)(hx:a.eval x=vS s)(hs:Sp.In s)(hxs:∀y∈xs,Sp.In y)(hnew:∀y∈xs,y.b≠s.b)(hlen:xs.length<1000)(hK:∀w',SK w' b (xs++[s])->w.grownBy w' (some b)->wpList Try.prog ops Q rest (a.put o.dst undef) w'):wpList Try.prog ops Q (o::rest) a w:=by refine wpList_plain hg fun K' hK'=>?_;obtain⟨es,clock,hb,hks⟩:=h;obtain⟨kl,hkey⟩:=lX s hs;have hmem:∀e∈es.toList,∃y∈xs,e.key=vS y:=fun e he=>by{have:e.key∈es.toList.map (fun e:MapEntry=>e.key):=List.mem_map.2 ⟨e,he,rfl⟩;rw[hks]at this;obtain⟨y,hy,e2⟩:=List.mem_map.1 this;exact⟨y,hy,e2.symm⟩};have hsz:es.size=xs.length:=by{have:=congrArg List.length hks;simpa using this};have hkeys:∀e∈es.toList,∃l,keyOf Try.prog 36 e.key=some l:=fun e he=>by{obtain⟨y,hy,e2⟩:=hmem e he;rw[e2];exact lX y (hxs y hy)};have ht:=Try.underlying57;rcases iQ.find w hkey es.toList hkeys with⟨h1,h2⟩|⟨j,e0,h1,h2,h3⟩;{have hrun:(Instr.mapUpdate 57 (.map (some b)) (vS s) (a.eval v)).run Try.prog w= .ok () (setBlock w b (.map (es.push ⟨vS s,a.eval v,clock⟩) (clock+1))):=by{simp[Instr.mapUpdate,run_underlying ht,MapKept.run_getObj_map hb,iQ.check w false hkey,h1,MapKept.run_setObj_map _ hb,Result.andThen,setBlock]};unfold Oper.wp;simp[execOp,hop,hm,hx,hrun,Result.andThen];exact hK' _ _ (hK _ ⟨_,_,heap_setBlock_same hb _,by simp[hks]⟩ (dS hb))};exfalso;obtain⟨y,hy,e2⟩:=hmem e0 (List.mem_of_getElem? h2);exact hnew y hy (vW (e2.symm.trans h3)).1
theorem qK (hg:o.guard=none)(m:Operand)(hop:o.op=Op.call {callee:=Callee.builtin Builtin.clear,args:=#[m],argTypes:=#[57]})(b:Nat)(xs:List Sp.S)(hm:a.eval m= .map (some b))(h:SK w b xs)(hK:∀w',SK w' b []->w.grownBy w' (some b)->wpList Try.prog ops Q rest (a.put o.dst (.tuple #[])) w'):wpList Try.prog ops Q (o::rest) a w:=by refine wpList_plain hg fun K' hK'=>?_;obtain⟨es,clock,hb,hks⟩:=h;have ht:=Try.underlying57;have hrun:(Builtin.clear_ #[57] o.type #[.map (some b)]).run Try.prog w= .ok (.tuple #[]) (setBlock w b (.map #[] clock)):=by{simp[Builtin.clear_,run_underlying ht,MapKept.run_getObj_map hb,MapKept.run_setObj_map _ hb,Result.andThen,setBlock]};unfold Oper.wp;simp[execOp,hop,resolve,invoke,builtin,hm,hrun,Result.andThen];exact hK' _ _ (hK _ ⟨_,_,heap_setBlock_same hb _,rfl⟩ (dS hb))
theorem uU (hg:o.guard=none)(m:Operand)(hop:o.op=Op.call {callee:=Callee.builtin Builtin.len,args:=#[m],argTypes:=#[57]})(b:Nat)(xs:List Sp.S)(hm:a.eval m= .map (some b))(h:SK w b xs)(hK:wpList Try.prog ops Q rest (a.put o.dst (.int .i64 (xs.length:Int))) w):wpList Try.prog ops Q (o::rest) a w:=by refine wpList_plain hg fun K' hK'=>?_;obtain⟨es,clock,hb,hks⟩:=h;have ht:=Try.underlying57;have hsz:es.size=xs.length:=by{have:=congrArg List.length hks;simpa using this};have hrun:(Builtin.len_ #[57] o.type #[.map (some b)]).run Try.prog w= .ok (.int .i64 (xs.length:Int)) w:=by{simp[Builtin.len_,run_underlying ht,MapKept.run_getObj_map hb,goInt,hsz,Result.andThen]};unfold Oper.wp;simp[execOp,hop,resolve,invoke,builtin,hm,hrun,Result.andThen];exact hK' _ _ hK
theorem qZ (t:TypeId)(m x v:Operand)(ho:o.op= .mapUpdate t m x v)(h:Still (wpList Try.prog ops Q (o::rest) a w)):wpList Try.prog ops Q (o::rest) a w:=h.out
end
end
def zV (W:World)(a:Option Addr)(len:Nat)(l:List Sp.S):Prop:=l.length=len/\len<=maxLen/\(len=0\/∃b off,a=some ⟨b,off,none⟩/\b<W.heap.size/\
 ∀j,j<len->W.cell? ⟨b,off+j*4,none⟩=some (.int .i64 (l.getD j .z).b)/\W.cell? ⟨b,off+j*4+1,none⟩=some (.int .i64 (l.getD j .z).f)/\W.cell? ⟨b,off+j*4+2,none⟩=some (.int .i64 (l.getD j .z).t)/\W.cell? ⟨b,off+j*4+3,none⟩=some (.bool (l.getD j .z).c))
theorem zV.kept {W W':World}{a:Option Addr}{len:Nat}{l:List Sp.S}(h:zV W a len l)(hB:Below W.heap.size W W'):zV W' a len l:=by refine⟨h.1,h.2.1,h.2.2.imp_right fun⟨b,off,e,hb,hx⟩=>⟨b,off,e,aj hb hB.size,fun j hj=>?_⟩⟩;obtain⟨h0,h1,h2,h3⟩:=hx j hj;exact⟨(hB.cell (p:=⟨b,off+j*4,none⟩) hb).trans h0,(hB.cell (p:=⟨b,off+j*4+1,none⟩) hb).trans h1,(hB.cell (p:=⟨b,off+j*4+2,none⟩) hb).trans h2,(hB.cell (p:=⟨b,off+j*4+3,none⟩) hb).trans h3⟩
theorem SG.sr {W:World}{n₀ g n c:Nat}{l:List Sp.S}(h:SG W n₀ g n c l):zV W (some ⟨g,0,none⟩) n l:=by refine⟨h.1,by have:=h.cap;omega, .inr ⟨g,0,rfl,h.lt.2,fun j hj=>?_⟩⟩;rw[Nat.zero_add];exact h.cell hj
theorem SG.same1 {W W':World}{n₀ g n c:Nat}{l:List Sp.S}(h:SG W n₀ g n c l)(e:W'.heap[g]?=W.heap[g]?):SG W' n₀ g n c l:=by refine⟨h.1,h.2.1,?_⟩;rcases h.2.2 with h'|⟨g',cap',cur,h',h1,h2,r⟩;{exact .inl h'};cases h';exact .inr ⟨_,_,cur,rfl,h1,e.trans h2,r⟩
theorem encSp_set:∀(l:List Sp.S)(k:Nat)(s:Sp.S),k<l.length->aL (l.set k s)=((((aL l).set (k*4) (.int .i64 s.b)).set (k*4+1) (.int .i64 s.f)).set (k*4+2) (.int .i64 s.t)).set (k*4+3) (.bool s.c)
 |[],k,s,h=>by simp at h
 |x::l,0,s,h=>rfl
 | x::l,k+1,s,h=>by
   have ih:=encSp_set l k s (by simpa using h)
   show aL (x::l.set k s)=_
   rw[eY,eY,ih,show(k+1)*4=k*4+1+1+1+1 by omega,show(k*4+1+1+1+1)+1=(k*4+1)+1+1+1+1 by omega,show(k*4+1+1+1+1)+2=(k*4+2)+1+1+1+1 by omega,show(k*4+1+1+1+1)+3=(k*4+3)+1+1+1+1 by omega]
   simp only[List.set_cons_succ]
theorem jD (b f t:Int)(c:Bool)(w:World):Calls Try.prog 16 #[.agg #[.int .i64 b, .int .i64 f, .int .i64 t, .bool c]] w fun e w'=>e= .returned (.agg #[.int .i64 b, .int .i64 f, .int .i64 t, .bool c])/\Below w.heap.size w w':=by have hB1:=ay w (.cells #[.int .i64 b, .int .i64 f, .int .i64 t, .bool c] 34);have hB2:=hB1.trans ((ay _ (.cells #[.int .i64 b, .int .i64 f, .int .i64 t, .bool c] 36)).mono hB1.size);have hB3:=hB2.trans ((ay _ (.cells #[.int .i64 b, .int .i64 f, .int .i64 t, .bool c] 36)).mono hB2.size);go_enter Try.func16,Try.ntmps16;go_wp2;(try simp only[Exit.inBlock,Exit.then]);refine bodyPost_ret (v:= .agg #[.int .i64 b, .int .i64 f, .int .i64 t, .bool c]) ?_ rfl ⟨rfl,hB3⟩;rw[aB rfl];go_simp
theorem eqSpan_same (b f t:Int)(c:Bool)(w:World):Calls Try.prog 28 #[.agg #[.int .i64 b, .int .i64 f, .int .i64 t, .bool c], .agg #[.int .i64 b, .int .i64 f, .int .i64 t, .bool c]] w fun e w'=>e= .returned (.bool true)/\Below w.heap.size w w':=by have hq:(c==c)=true:=by{simp};cases c;all_goals go_enter Try.func28,Try.ntmps28;go_wp2;go_ret;exact⟨rfl,oN _ _ _⟩
theorem eqSpanS_same (a b:Option Addr)(len cap cap':Nat)(xs:List Sp.S)(w:World)(hs:zV w a len xs)(hs':zV w b len xs):Calls Try.prog 10 #[.slice a len cap, .slice b len cap'] w fun e w'=>e= .returned (.bool true)/\Below w.heap.size w w':=by obtain⟨hl,hm,hrow⟩:=hs;obtain⟨-,-,hrow'⟩:=hs';clear hl;unfold maxLen at hm;go_enter Try.func10,Try.ntmps10;go_wp2;go_loopw [5] (fun i wr=>∃k:Nat,i= .int .i64 k/\k<=len/\Below w.heap.size w wr) (fun i _=>len-(intOf i).toNat);(case atStart=>exact⟨0,rfl,Nat.zero_le _,Below.refl _ _⟩);case round=>obtain⟨k,rfl,hk,hB⟩:=hrel;by_cases hlt:k<len;{rcases hrow with h0|⟨b1,fe,rfl,hb1,hx1⟩;{omega};rcases hrow' with h0|⟨b2,fq,rfl,hb2,hx2⟩;{omega};obtain⟨⟨sb,sf,st,sc⟩,hpq⟩:∃x,xs.getD k .z=x:=⟨_,rfl⟩;have hx3:=hx1 k hlt;have hx4:=hx2 k hlt;rw[hpq]at hx3 hx4;have hc0:∀wx:bF wr,wx.to.cell? ⟨b1,fe+k*4,none⟩=some (.int .i64 sb):=fun wx=>((hB.trans (wx.h.mono hB.size)).cell (p:=⟨b1,fe+k*4,none⟩) hb1).trans hx3.1;have hc1:∀wx:bF wr,wx.to.cell? ⟨b1,fe+k*4+1,none⟩=some (.int .i64 sf):=fun wx=>((hB.trans (wx.h.mono hB.size)).cell (p:=⟨b1,fe+k*4+1,none⟩) hb1).trans hx3.2.1;have hc2:∀wx:bF wr,wx.to.cell? ⟨b1,fe+k*4+2,none⟩=some (.int .i64 st):=fun wx=>((hB.trans (wx.h.mono hB.size)).cell (p:=⟨b1,fe+k*4+2,none⟩) hb1).trans hx3.2.2.1;have hc3:∀wx:bF wr,wx.to.cell? ⟨b1,fe+k*4+3,none⟩=some (.bool sc):=fun wx=>((hB.trans (wx.h.mono hB.size)).cell (p:=⟨b1,fe+k*4+3,none⟩) hb1).trans hx3.2.2.2;have hd0:∀wx:bF wr,wx.to.cell? ⟨b2,fq+k*4,none⟩=some (.int .i64 sb):=fun wx=>((hB.trans (wx.h.mono hB.size)).cell (p:=⟨b2,fq+k*4,none⟩) hb2).trans hx4.1;have hd1:∀wx:bF wr,wx.to.cell? ⟨b2,fq+k*4+1,none⟩=some (.int .i64 sf):=fun wx=>((hB.trans (wx.h.mono hB.size)).cell (p:=⟨b2,fq+k*4+1,none⟩) hb2).trans hx4.2.1;have hd2:∀wx:bF wr,wx.to.cell? ⟨b2,fq+k*4+2,none⟩=some (.int .i64 st):=fun wx=>((hB.trans (wx.h.mono hB.size)).cell (p:=⟨b2,fq+k*4+2,none⟩) hb2).trans hx4.2.2.1;have hd3:∀wx:bF wr,wx.to.cell? ⟨b2,fq+k*4+3,none⟩=some (.bool sc):=fun wx=>((hB.trans (wx.h.mono hB.size)).cell (p:=⟨b2,fq+k*4+3,none⟩) hb2).trans hx4.2.2.2;have hne:=bF.any wr;clear hx1 hx2 hx3 hx4 hpq;go_wp2;refine aT (by kernel_rfl) (by kernel_rfl) ?_;(repeat(go_big_quiet_step (first|(go_at_call 28;refine aS (eqSpan_same _ _ _ _ _)))));refine wpQuiet_nil ?_;rintro _ ⟨pw,rfl⟩;have ww:=hB.trans (pw.h.mono hB.size);generalize pw.to=w7 at*;go_wp2;go_roundw;(case rel=>exact⟨k+1,by simp,by omega,ww⟩);case measure=>simp[intOf];omega};clear hrow hrow';go_wp2;go_ret;exact⟨rfl,hB⟩
def mkSp (j:Nat):Sp.S:=⟨4*(j:Int)+1,4*(j:Int)+1+1,4*(j:Int)+1+1+1,(4*(j:Int)+1+1+1+1).tmod 3==0⟩
def markSp (n:Nat):List Sp.S:=(List.range n).map mkSp
theorem markSp_get {n j:Nat}(h:j<n):(markSp n).getD j .z=mkSp j:=by simp[markSp,ah,h]
theorem markSpanS_is (g n c n₀:Nat)(xs:List Sp.S)(hn:n<=1000)(w:World)(hs:SG w n₀ g n c xs):Calls Try.prog 13 #[.slice (some ⟨g,0,none⟩) n c, .int .i64 1] w fun e w'=>e= .returned (.int .i64 (4*(n:Int)+1))/\SG w' n₀ g n c (markSp n)/\w.grownBy w' (some g):=by have hgg:w.grownBy w (some g):=World.grownBy.refl _ _;have HS:=ae hs;clear hs;go_enter Try.func13,Try.ntmps13;go_wp2;go_loopw [1,5] (fun m i wr=>∃(k:Nat)(ys:List Sp.S),m= .int .i64 (4*(k:Int)+1)/\i= .int .i64 k/\k<=n/\(∀j,j<k->ys.getD j .z=mkSp j)/\SG wr n₀ g n c ys/\w.grownBy wr (some g)) (fun _ i _=>n-(intOf i).toNat);(case atStart=>exact⟨0,xs,rfl,rfl,Nat.zero_le _,by simp,HS.out,hgg⟩);case round=>obtain⟨k,ys,rfl,rfl,hk,hys,hsg,hg⟩:=hrel;have hown:=hsg.2;have hyl:=hsg.1;have HY:Hid (ys.length=n/\∀j,j<k->ys.getD j .z=mkSp j):=⟨hyl,hys⟩;clear hgg HS;by_cases hlt:k<n;{obtain⟨hc0,hc1,hc2,hc3⟩:=hsg.cell hlt;have hf0:=hown.frozenAt (k*4);have hf1:=hown.frozenAt (k*4+1);have hf2:=hown.frozenAt (k*4+2);have hf3:=hown.frozenAt (k*4+3);have hst0:=hown.stored (k*4) (.int .i64 (4*(k:Int)+1));have nL:=hst0.1.stored (k*4+1) (.int .i64 (4*(k:Int)+1+1));have nG:=nL.1.stored (k*4+2) (.int .i64 (4*(k:Int)+1+1+1));have wW:=nG.1.stored (k*4+3) (.bool ((4*(k:Int)+1+1+1+1).tmod 3==0));have he:=encSp_set ys k (mkSp k) (by omega);unfold mkSp at he;simp only at he;rw[←he]at wW;have HST:=ae wW.1;have HG:=ae (aJ (aJ (aJ (aJ hg hst0.2) nL.2) nG.2) wW.2);obtain⟨⟨sb,sf,st,sc⟩,hpq⟩:∃x,ys.getD k .z=x:=⟨_,rfl⟩;rw[hpq]at hc0 hc1 hc2 hc3;clear hyl hys hpq hst0 nL nG wW hown hg hsg he;go_wp2;go_roundw;(case rel=>obtain⟨hyl,hys⟩:=HY.out;refine⟨k+1,ys.set k (mkSp k),by congr 1<;>omega,by simp,by omega,fun j hj=>?_,⟨by simp[hyl],HST.out⟩,HG.out⟩;by_cases e:j=k;{subst e;rw[ah,List.getElem?_set_self (by omega)];rfl};rw[←hys j (by omega),ah,List.getElem?_set_ne (by omega),←ah]);case measure=>simp[intOf];omega};have hke:k=n:=by{omega};subst hke;have e:ys=markSp k:=by{apply List.ext_getElem;{rw[hyl];simp[markSp]};intro j h1 h2;have:=(hys j (by omega)).trans (markSp_get (n:=k) (by omega)).symm;simpa[ah,ai h1,ai h2]using this};rw[e]at hsg;have HF:=ae (ak hsg hg);clear hyl hys hown hsg hg HY;go_wp2;go_ret;exact⟨rfl,HF.out.1,HF.out.2⟩
theorem heldSpanS_is (a:Option Addr)(n cap:Nat)(hn:n<=1000)(w:World)(hs:zV w a n (markSp n)):Calls Try.prog 14 #[.slice a n cap, .int .i64 1] w fun e w'=>e= .returned (.int .i64 (4*(n:Int)+1))/\w'=w:=by obtain⟨-,-,hrow⟩:=hs;go_enter Try.func14,Try.ntmps14;go_wp2;go_loop [1,5] (fun m i=>∃(k:Nat),m= .int .i64 (4*(k:Int)+1)/\i= .int .i64 k/\k<=n) (fun _ i=>n-(intOf i).toNat);(case atStart=>exact⟨0,rfl,rfl,Nat.zero_le _⟩);case round=>obtain⟨k,rfl,rfl,hk⟩:=hrel;by_cases hlt:k<n;{rcases hrow with h0|⟨b,off,rfl,hb,hx⟩;{omega};obtain⟨hx0,hx1,hx2,hx3⟩:=hx k hlt;rw[markSp_get hlt]at hx0 hx1 hx2 hx3;unfold mkSp at hx0 hx1 hx2 hx3;simp only at hx0 hx1 hx2 hx3;rw[Int.tmod_eq_emod_of_nonneg (show(0:Int)<=4*(k:Int)+1+1+1+1 by omega)]at hx3;obtain⟨z,hz⟩:∃z,((4*(k:Int)+1+1+1+1)%3==0)=z:=⟨_,rfl⟩;rw[hz]at hx3;clear hx;cases z;all_goals go_wp2;go_round;(case rel=>exact⟨k+1,by congr 1<;>omega,by simp,by omega⟩);case measure=>simp[intOf];omega};have hke:k=n:=by{omega};subst hke;clear hrow;go_wp2;go_ret;exact⟨rfl,rfl⟩
namespace Mm
def uA (x:Int):Bool:=decide (0<=x/\x<=255)
def ok (xs:List Int):Bool:=(xs.length==64)&&xs.all uA
theorem cz {xs:List Int}:ok xs=true↔xs.length=64/\∀x∈xs,0<=x/\x<=255:=by simp[ok,uA]
theorem qI {xs:List Int}(h:ok xs=true):xs.length=64:=(cz.1 h).1
theorem uN {xs:List Int}(h:∀x∈xs,0<=x/\x<=255)(j:Nat):0<=xs.getD j 0/\xs.getD j 0<=255:=by
 rw[ah]
 cases e:xs[j]? with
 |none=>exact⟨by simp,by simp⟩
 |some v=>exact h v (List.mem_of_getElem? e)
theorem nu {xs:List Int}(h:ok xs=true)(j:Nat):0<=xs.getD j 0/\xs.getD j 0<=255:=uN (cz.1 h).2 j
theorem vM {xs:List Int}(h:∀j,0<=xs.getD j 0/\xs.getD j 0<=255):∀x∈xs,0<=x/\x<=255:=by intro x hx;obtain⟨j,hj⟩:=List.mem_iff_getElem?.1 hx;have:=h j;rwa [ah,hj]at this
def low (xs:List Int):List Int:=xs.map fun x=>x%256
def cells (xs:List Int):List Int:=if ok xs=true then xs else List.replicate 64 0
def there (a o:Int):Bool:=Wd.ok a&&Wd.aK o 0 255&&decide (a+o<=60)
theorem oF {a o:Int}:there a o=true↔0<=a/\0<=o/\o<=255/\a+o<=60:=by simp only[there,au,Wd.cz,Wd.bL,decide_eq_true_eq];omega
def lD (bs:List Int)(k:Nat):Nat->Int
 |0=>0
 |j+1=>lD bs k j+bs.getD (k+j) 0*256 ^ j
theorem kU {bs:List Int}(hb:∀j,0<=bs.getD j 0/\bs.getD j 0<=255)(k:Nat):∀j,0<=lD bs k j/\lD bs k j<256 ^ j
 |0=>⟨by simp[lD],by simp[lD]⟩
 | j+1=>by
   have h:=kU hb k j
   have h2:=hb (k+j)
   have hp:(0:Int)<256 ^ j:=Int.pow_pos (by omega)
   rw[lD,Int.pow_succ]
   have h3:bs.getD (k+j) 0*256 ^ j<=255*256 ^ j:=Int.mul_le_mul_of_nonneg_right h2.2 (by omega)
   have h4:0<=bs.getD (k+j) 0*256 ^ j:=Int.mul_nonneg h2.1 (by omega)
   omega
def ib (bs:List Int)(k:Nat)(v:Int):Nat->List Int
 |0=>bs
 |j+1=>(ib bs k v j).set (k+j) (v / 256 ^ j%256)
theorem iK (bs:List Int)(k:Nat)(v:Int):∀j,(ib bs k v j).length=bs.length
 |0=>rfl
 |j+1=>by rw[ib,List.length_set,iK bs k v j]
theorem sS {ys:List Int}{i j:Nat}{x:Int}(hi:i<ys.length):(ys.set i x).getD j 0=if j=i then x else ys.getD j 0:=by by_cases e:j=i;{subst e;rw[ax rfl,ah,List.getElem?_set_self hi];rfl};rw[av e,ah,List.getElem?_set_ne (by omega),←ah]
theorem l8 {bs:List Int}{k:Nat}(v:Int):∀j,k+j<=bs.length->∀i,(ib bs k v j).getD i 0=if k<=i/\i<k+j then v / 256 ^ (i-k)%256 else bs.getD i 0
 |0,_,i=>by rw[ib,av (by omega)]
 | j +1,h,i=>by
   rw[ib,sS (by rw[iK];omega),l8 v j (by omega) i]
   by_cases e:i=k+j
   · subst e
     rw[ax rfl,ax (by omega),show k+j-k=j by omega]
   · rw[av e]
     by_cases e2:k<=i/\i<k+j
     · rw[ax e2,ax (by omega)]
     · rw[av e2,av (by omega)]
theorem sK {bs:List Int}{k:Nat}(v:Int)(j:Nat)(h:k+j<=bs.length)(hb:∀i,0<=bs.getD i 0/\bs.getD i 0<=255)(i:Nat):0<=(ib bs k v j).getD i 0/\(ib bs k v j).getD i 0<=255:=by rw[l8 v j h i];split;{exact⟨Int.emod_nonneg _ (by omega),by have:=Int.emod_lt_of_pos (v / 256 ^ (i-k)) (show(0:Int)<256 by omega);omega⟩};exact hb i
theorem pX {bs:List Int}{k:Nat}(v:Int)(h:ok bs=true)(hk:k+4<=64):ok (ib bs k v 4)=true:=by rw[cz];exact⟨by rw[iK];exact qI h,vM (sK v 4 (by rw[qI h];omega) (nu h))⟩
def aV (xs:List Int)(a o v:Int):Bool:=ok xs&&there a o&&Wd.ok v
theorem place {a o:Int}(h:there a o=true):∃k:Nat,a+o=(k:Int)/\(a+o).toNat=k/\k+4<=64:=by have:=oF.1 h;exact⟨(a+o).toNat,by omega,rfl,by omega⟩
def Ar (s:ByteArray):List Int:=s.data.toList.map fun b=>(b.toNat:Int)
def new (s:ByteArray):List Int:=if s.size<=64 then Ar s++List.replicate (64-s.size) 0 else[]
end Mm
def OT (W:World)(n₀:Nat)(v:Value)(xs:List Int):Prop:=∃t,W.ownsRow n₀ t 1 v xs.length (xs.map iv)
theorem OI.ot {W:World}{n₀:Nat}{v:Value}{xs:List Int}(h:OI W n₀ v xs):OT W n₀ v xs:=⟨_,h⟩
theorem OT.slice {W:World}{n₀:Nat}{v:Value}{xs:List Int}(h:OT W n₀ v xs):∃a cap,v= .slice a xs.length cap/\IL W a xs.length xs:=by obtain⟨t,h⟩:=h;rcases h.2 with⟨rfl,h0⟩|⟨g,cap,cur,rfl,hb,hc,hn,hm,hs,ht⟩;{exact⟨none,0,by rw[h0],rfl,by rw[h0];exact Nat.zero_le _, .inl h0⟩};refine⟨_,cap,rfl,rfl,Nat.le_trans hn hm, .inr ⟨g,0,rfl,(h.lt g rfl).2,fun j hj=>?_⟩⟩;have:=h.cellAt j (by omega);rw[Nat.zero_add,this,List.getElem?_map,ai hj,ah,ai hj];rfl
theorem OT.il {W:World}{n₀:Nat}{a:Option Addr}{n c:Nat}{xs:List Int}(h:OT W n₀ (.slice a n c) xs):n=xs.length/\IL W a n xs:=by obtain⟨a',c',e,hil⟩:=h.slice;simp only[Value.slice.injEq]at e;obtain⟨rfl,rfl,rfl⟩:=e;exact⟨rfl,hil⟩
theorem OT.kept {W W':World}{n₀:Nat}{v:Value}{xs:List Int}(h:OT W n₀ v xs)(hB:Below W.heap.size W W'):OT W' n₀ v xs:=by obtain⟨t,h⟩:=h;refine⟨t,World.ownsRow.kept (row:=none) h ⟨hB.os,hB.tape,hB.output,hB.size,fun k hk _=>hB.block k hk⟩ ?_⟩;rcases hv:v.ownBlock with _|b;{exact .inl rfl};exact .inr (by simp)
theorem OT.bM {W W':World}{n₀ b:Nat}{v:Value}{xs:List Int}(h:OT W n₀ v xs)(hg:W.grownBy W' (some b))(hne:∀g,v.ownBlock=some g->g≠b):OT W' n₀ v xs:=by obtain⟨t,h⟩:=h;refine⟨t,World.ownsRow.kept h hg ?_⟩;rcases hv:v.ownBlock with _|b';{exact .inl rfl};refine .inr ?_;have:=hne b' hv;simp only[ne_eq,af];omega
theorem OT.mono {W:World}{n₀ n₁:Nat}{v:Value}{xs:List Int}(h:OT W n₁ v xs)(hn:n₀<=n₁):OT W n₀ v xs:=by obtain⟨t,h⟩:=h;refine⟨t,h.1,?_⟩;rcases h.2 with h'|⟨g',cap',cur,h',hb,r⟩;{exact .inl h'};exact .inr ⟨g',cap',cur,h',Nat.le_trans hn hb,r⟩
theorem OT.lt {W:World}{n₀:Nat}{v:Value}{xs:List Int}(h:OT W n₀ v xs)(g:Nat)(hg:v.ownBlock=some g):n₀<=g/\g<W.heap.size:=by obtain⟨t,h⟩:=h;exact World.ownsRow.lt h g hg
theorem eG.ot {W:World}{n₀ g:Nat}{t:TypeId}{xs:List Int}(h:eG W g t (xs.map iv))(hg:n₀<=g)(hm:xs.length<=maxLen):OT W n₀ (.slice (some ⟨g,0,none⟩) xs.length xs.length) xs:=
 ⟨t,by simp, .inr ⟨g,xs.length,(xs.map iv).toArray,rfl,hg,h,Nat.le_refl _,hm,by simp,by rw[Nat.mul_one];exact List.take_of_length_le (by simp)⟩⟩
theorem lL (a:Option Addr)(len cap:Nat)(xs:List Int)(h20:len<=1048576)(w:World)(hs:IL w a len xs):Calls Try.prog 37 #[.slice a len cap] w fun e w'=>∃g c,e= .returned (.slice (some ⟨g,0,none⟩) len c)/\w.heap.size<=g/\OI w' w.heap.size (.slice (some ⟨g,0,none⟩) len c) xs/\Below w.heap.size w w':=by obtain⟨hl,hm,hrow⟩:=hs;have HL:=ae hl;clear hm hl;obtain⟨i0,hi,hz0,hz1,hz2⟩:=info_parts fH;obtain⟨wm,hmk,hown,hgrow⟩:=run_make_full (P:=Try.prog) w w.heap.size 41 2 i0 _ 1 Try.underlying41 hi hz0 hz1 .i64 .i64 len (by rw[hz2];omega) (by simp only[maxLen];omega) (Nat.le_refl _);have hBm:Below w.heap.size w wm:=⟨hgrow.os,hgrow.tape,hgrow.output,hgrow.size,fun k hk=>hgrow.block k hk (by simp)⟩;have hown0:wm.ownsRow w.heap.size 2 1 (.slice (some ⟨w.heap.size,0,none⟩) len len) len ((List.replicate len 0).map iv):=by{have e:(madeCells (Value.int .i64 0).cells (len*1)).toList=List.replicate (len*1) (iv 0):=toList_madeCells_one _ _;rw[List.map_replicate];rw[e,Nat.mul_one]at hown;exact hown};clear hown hgrow;go_enter Try.func37,Try.ntmps37;go_wp2;go_loopw [4] (fun i wr=>∃(k:Nat)(ys:List Int),i= .int .i64 k/\k<=len/\ys.length=len/\(∀j,j<k->ys.getD j 0=xs.getD j 0)/\wr.ownsRow w.heap.size 2 1 (.slice (some ⟨w.heap.size,0,none⟩) len len) len (ys.map iv)/\Below w.heap.size w wr) (fun i _=>len-(intOf i).toNat);(case atStart=>exact⟨0,List.replicate len 0,rfl,Nat.zero_le _,by simp,by simp,hown0,hBm⟩);case round=>obtain⟨k,ys,rfl,hk,hyl,hys,hown,hB⟩:=hrel;have HY:=ae (ak hyl hys);clear hown0;by_cases hlt:k<len;{rcases hrow with h0|⟨b,off,rfl,hb,hx⟩;{omega};have hx0:=(hB.cell (p:=⟨b,off+k,none⟩) hb).trans (hx k hlt);obtain⟨p,hp⟩:∃p,xs.getD k 0=p:=⟨_,rfl⟩;rw[hp]at hx0;have HP:=ae hp;have hc0:=hown.cellAt k (by omega);rw[kX (by omega)]at hc0;obtain⟨q,hq⟩:∃q,ys.getD k 0=q:=⟨_,rfl⟩;rw[hq]at hc0;have hf0:=hown.frozenAt k;have nL:=hown.stored k (.int .i64 p);rw[←bn ys k]at nL;have HST:=ae nL.1;have HB:=ae (hB.setCell (p:=⟨w.heap.size,k,none⟩) (Nat.le_refl _) (.int .i64 p));clear hyl hys hp hq nL hown hx hB;unfold iv at hc0;go_wp2;go_roundw;(case rel=>obtain⟨y1,y2⟩:=qf (f:=fun j=>xs.getD j 0) HY.out hlt HP.out;exact⟨k+1,ys.set k p,by simp,by omega,y1,y2,HST.out,HB.out⟩);case measure=>simp[intOf];omega};have hke:k=len:=by{omega};subst hke;have e:ys=xs:=qE HY.out HL.out;subst e;have HO:=ae (ak hown hB);clear hyl hys hown hB hrow HY;go_wp2;go_ret;refine⟨_,_,rfl,Nat.le_refl _,?_,HO.out.2⟩;unfold OI;rw[HL.out];exact HO.out.1
theorem fC (a:Option Addr)(len cap:Nat)(hm:len<=maxLen)(left:Int)(h0:0<=left)(h1:left<=1048576)(w:World):Calls Try.prog 32 #[.slice a len cap, .int .i64 left] w fun e w'=>e= .returned (.int .i64 (if left<(len:Int)then -1 else left-len))/\w'=w:=by unfold maxLen at hm;by_cases hlt:left<(len:Int);{rw[ax hlt];have hnn:left-(len:Int)<0:=by{omega};go_enter Try.func32,Try.ntmps32;go_wp2;go_ret;exact⟨rfl,rfl⟩};rw[av hlt];have hnn:¬left-(len:Int)<0:=by{omega};go_enter Try.func32,Try.ntmps32;go_wp2;go_ret;exact⟨rfl,rfl⟩
theorem OI.lK {W:World}{n₀:Nat}{v:Value}{xs:List Int}(h:OI W n₀ v xs)(p:Addr)(hp:p.block<n₀)(x:Value):OI (W.setCell p x) n₀ v xs:=
 h.bM (aA W p x) (fun g hg=>by have:=(World.ownsRow.lt h g hg).1;omega)
theorem o7 (k d a b n:Int)(la:Option Addr)(ln lc:Nat)(left:Int)(hm:ln<=maxLen)(h0:0<=left)(h1:left<=1048576)(w:World):Calls Try.prog 20 #[.agg #[.int .i64 k, .int .i64 d, .int .i64 a, .int .i64 b, .int .i64 n, .slice la ln lc], .int .i64 left] w fun e w'=>e= .returned (.int .i64 (if left<(ln:Int)then -1 else left-ln))/\Below w.heap.size w w':=by have hB1:=ay w (.cells #[.int .i64 k, .int .i64 d, .int .i64 a, .int .i64 b, .int .i64 n, .slice la ln lc] 43);by_cases hlt:left<(ln:Int);{rw[ax hlt];go_enter Try.func20,Try.ntmps20;go_wp2_with fail;refine(fC la ln lc hm left h0 h1 _).mono ?_;rintro e w1 ⟨rfl,aY⟩;subst w1;rw[ax hlt];go_wp2;go_ret;exact⟨rfl,hB1⟩};rw[av hlt];have hnn:¬(left-(ln:Int)<0):=by{omega};go_enter Try.func20,Try.ntmps20;go_wp2_with fail;refine(fC la ln lc hm left h0 h1 _).mono ?_;rintro e w1 ⟨rfl,aY⟩;subst w1;rw[av (by omega)];go_wp2;go_ret;exact⟨rfl,hB1⟩
theorem oP (k d a b n:Int)(xs:List Int)(la:Option Addr)(ln lc:Nat)(h20:ln<=1048576)(w:World)(hs:IL w la ln xs):Calls Try.prog 23 #[.agg #[.int .i64 k, .int .i64 d, .int .i64 a, .int .i64 b, .int .i64 n, .slice la ln lc]] w fun e w'=>∃g c,e= .returned (.agg #[.int .i64 k, .int .i64 d, .int .i64 a, .int .i64 b, .int .i64 n, .slice (some ⟨g,0,none⟩) ln c])/\OI w' w.heap.size (.slice (some ⟨g,0,none⟩) ln c) xs/\Below w.heap.size w w':=by have hB3:=jZ w (.cells #[.int .i64 k, .int .i64 d, .int .i64 a, .int .i64 b, .int .i64 n, .slice la ln lc] 43) (.cells #[.int .i64 0, .int .i64 0, .int .i64 0, .int .i64 0, .int .i64 0, .slice none 0 0] 45) (.cells #[.int .i64 k, .int .i64 d, .int .i64 a, .int .i64 b, .int .i64 n, .slice none 0 0] 45);have b1:eG (((w.alloc (.cells #[.int .i64 k, .int .i64 d, .int .i64 a, .int .i64 b, .int .i64 n, .slice la ln lc] 43)).alloc (.cells #[.int .i64 0, .int .i64 0, .int .i64 0, .int .i64 0, .int .i64 0, .slice none 0 0] 45)).alloc (.cells #[.int .i64 k, .int .i64 d, .int .i64 a, .int .i64 b, .int .i64 n, .slice none 0 0] 45)) (w.heap.size+1) 45 [.int .i64 0, .int .i64 0, .int .i64 0, .int .i64 0, .int .i64 0, .slice none 0 0]:=by{have h:eG ((w.alloc (.cells #[.int .i64 k, .int .i64 d, .int .i64 a, .int .i64 b, .int .i64 n, .slice la ln lc] 43)).alloc (.cells #[.int .i64 0, .int .i64 0, .int .i64 0, .int .i64 0, .int .i64 0, .slice none 0 0] 45)) (w.alloc (.cells #[.int .i64 k, .int .i64 d, .int .i64 a, .int .i64 b, .int .i64 n, .slice la ln lc] 43)).heap.size 45 [.int .i64 0, .int .i64 0, .int .i64 0, .int .i64 0, .int .i64 0, .slice none 0 0]:=heap_alloc_last _ _;simp only[World.size_alloc]at h;exact h.kept (ay _ _)};have b2:eG (((w.alloc (.cells #[.int .i64 k, .int .i64 d, .int .i64 a, .int .i64 b, .int .i64 n, .slice la ln lc] 43)).alloc (.cells #[.int .i64 0, .int .i64 0, .int .i64 0, .int .i64 0, .int .i64 0, .slice none 0 0] 45)).alloc (.cells #[.int .i64 k, .int .i64 d, .int .i64 a, .int .i64 b, .int .i64 n, .slice none 0 0] 45)) (w.heap.size+1+1) 45 [.int .i64 k, .int .i64 d, .int .i64 a, .int .i64 b, .int .i64 n, .slice none 0 0]:=by{have h:eG (((w.alloc (.cells #[.int .i64 k, .int .i64 d, .int .i64 a, .int .i64 b, .int .i64 n, .slice la ln lc] 43)).alloc (.cells #[.int .i64 0, .int .i64 0, .int .i64 0, .int .i64 0, .int .i64 0, .slice none 0 0] 45)).alloc (.cells #[.int .i64 k, .int .i64 d, .int .i64 a, .int .i64 b, .int .i64 n, .slice none 0 0] 45)) ((w.alloc (.cells #[.int .i64 k, .int .i64 d, .int .i64 a, .int .i64 b, .int .i64 n, .slice la ln lc] 43)).alloc (.cells #[.int .i64 0, .int .i64 0, .int .i64 0, .int .i64 0, .int .i64 0, .slice none 0 0] 45)).heap.size 45 [.int .i64 k, .int .i64 d, .int .i64 a, .int .i64 b, .int .i64 n, .slice none 0 0]:=heap_alloc_last _ _;simp only[World.size_alloc]at h;exact h};have hcon:=lL la ln lc xs h20 _ (hs.kept hB3);go_enter Try.func23,Try.ntmps23;go_wp2_with fail;refine hcon.mono ?_;rintro e w4 ⟨g,c,rfl,hg,hoi,hB4⟩;have b3:=b1.kept hB4;have b4:=b2.kept hB4;have bX:=hB3.trans (hB4.mono hB3.size);simp only[World.size_alloc]at hoi hg;clear b1 b2 hcon hB3 hB4 hs;dsimp only;have p0:=b3.cell (j:=0) rfl;have q0:=b4.cell (j:=0) rfl;have r0:=b3.frozen 0;have s0:=b4.frozen 0;have p1:=b3.cell (j:=1) rfl;have q1:=b4.cell (j:=1) rfl;have r1:=b3.frozen 1;have s1:=b4.frozen 1;have p2:=b3.cell (j:=2) rfl;have q2:=b4.cell (j:=2) rfl;have r2:=b3.frozen 2;have s2:=b4.frozen 2;have p3:=b3.cell (j:=3) rfl;have q3:=b4.cell (j:=3) rfl;have r3:=b3.frozen 3;have s3:=b4.frozen 3;have p4:=b3.cell (j:=4) rfl;have q4:=b4.cell (j:=4) rfl;have r4:=b3.frozen 4;have s4:=b4.frozen 4;have p5:=b3.cell (j:=5) rfl;have q5:=b4.cell (j:=5) rfl;have r5:=b3.frozen 5;have s5:=b4.frozen 5;have l3:=b3.lt;have l4:=b4.lt;go_wp2;(try simp only[Exit.inBlock,Exit.then]);refine bodyPost_ret (v:= .agg #[.int .i64 k, .int .i64 d, .int .i64 a, .int .i64 b, .int .i64 n, .slice (some ⟨g,0,none⟩) ln c]) ?_ rfl ⟨g,c,rfl,OI.mono ((((((((hoi).lK ⟨w.heap.size+1+1,5,none⟩ (by simp) _).lK ⟨w.heap.size+1,0,none⟩ (by simp) _).lK ⟨w.heap.size+1,1,none⟩ (by simp) _).lK ⟨w.heap.size+1,2,none⟩ (by simp) _).lK ⟨w.heap.size+1,3,none⟩ (by simp) _).lK ⟨w.heap.size+1,4,none⟩ (by simp) _).lK ⟨w.heap.size+1,5,none⟩ (by simp) _) (by omega),(((((((bX).setCell (p:=⟨w.heap.size+1+1,5,none⟩) (by simp<;>omega) _).setCell (p:=⟨w.heap.size+1,0,none⟩) (by simp<;>omega) _).setCell (p:=⟨w.heap.size+1,1,none⟩) (by simp<;>omega) _).setCell (p:=⟨w.heap.size+1,2,none⟩) (by simp<;>omega) _).setCell (p:=⟨w.heap.size+1,3,none⟩) (by simp<;>omega) _).setCell (p:=⟨w.heap.size+1,4,none⟩) (by simp<;>omega) _).setCell (p:=⟨w.heap.size+1,5,none⟩) (by simp<;>omega) _⟩;rw[aB rfl];go_simp
theorem lh (k d a b n:Int)(xs:List Int)(la la':Option Addr)(ln lc xw:Nat)(w:World)(hs:IL w la ln xs)(hs':IL w la' ln xs):Calls Try.prog 29 #[.agg #[.int .i64 k, .int .i64 d, .int .i64 a, .int .i64 b, .int .i64 n, .slice la ln lc], .agg #[.int .i64 k, .int .i64 d, .int .i64 a, .int .i64 b, .int .i64 n, .slice la' ln xw]] w fun e w'=>e= .returned (.bool true)/\Below w.heap.size w w':=by have hB2:=oN w (.cells #[.int .i64 k, .int .i64 d, .int .i64 a, .int .i64 b, .int .i64 n, .slice la ln lc] 45) (.cells #[.int .i64 k, .int .i64 d, .int .i64 a, .int .i64 b, .int .i64 n, .slice la' ln xw] 45);have hcon:=jo la la' ln lc xw xs _ (hs.kept hB2) (hs'.kept hB2);go_enter Try.func29,Try.ntmps29;go_wp2_with fail;refine hcon.mono ?_;rintro e w1 ⟨rfl,hB3⟩;have hB4:=hB2.trans (hB3.mono hB2.size);go_wp2;go_ret;exact⟨rfl,hB4⟩
abbrev Lv:=Int×Int×Int×Int×Int×Value
def dW:Lv:=(0,0,0,0,0, .slice none 0 0)
def aN (xs:List Lv):List Value:=xs.flatMap fun x=>[.int .i64 x.1, .int .i64 x.2.1, .int .i64 x.2.2.1, .int .i64 x.2.2.2.1, .int .i64 x.2.2.2.2.1,x.2.2.2.2.2]
theorem dF (x:Lv)(xs:List Lv):aN (x::xs)= .int .i64 x.1:: .int .i64 x.2.1:: .int .i64 x.2.2.1:: .int .i64 x.2.2.2.1:: .int .i64 x.2.2.2.2.1::x.2.2.2.2.2::aN xs:=rfl
theorem fM (xs:List Lv):(aN xs).length=xs.length*6:=by
 induction xs with
 |nil=>rfl
 |cons x xs ih=>rw[dF];simp only[List.length_cons,ih];omega
theorem ek:∀(xs:List Lv)(j:Nat),j<xs.length->(aN xs)[j*6]?=some (.int .i64 (xs.getD j dW).1)/\(aN xs)[j*6+1]?=some (.int .i64 (xs.getD j dW).2.1)/\(aN xs)[j*6+2]?=some (.int .i64 (xs.getD j dW).2.2.1)/\(aN xs)[j*6+3]?=some (.int .i64 (xs.getD j dW).2.2.2.1)/\(aN xs)[j*6+4]?=some (.int .i64 (xs.getD j dW).2.2.2.2.1)/\(aN xs)[j*6+5]?=some (xs.getD j dW).2.2.2.2.2
 |[],j,h=>by simp at h
 |x::xs,0,h=>⟨rfl,rfl,rfl,rfl,rfl,rfl⟩
 | x::xs,j+1,h=>by
   have ih:=ek xs j (by simpa using h)
   have e:(x::xs).getD (j+1) dW=xs.getD j dW:=rfl
   rw[e,dF]
   refine⟨?_,?_,?_,?_,?_,?_⟩
   · rw[show(j+1)*6=j*6+1+1+1+1+1+1 by omega];simp only[List.getElem?_cons_succ];exact ih.1
   · rw[show(j+1)*6+1=j*6+1+1+1+1+1+1+1 by omega];simp only[List.getElem?_cons_succ];exact ih.2.1
   · rw[show(j+1)*6+2=j*6+2+1+1+1+1+1+1 by omega];simp only[List.getElem?_cons_succ];exact ih.2.2.1
   · rw[show(j+1)*6+3=j*6+3+1+1+1+1+1+1 by omega];simp only[List.getElem?_cons_succ];exact ih.2.2.2.1
   · rw[show(j+1)*6+4=j*6+4+1+1+1+1+1+1 by omega];simp only[List.getElem?_cons_succ];exact ih.2.2.2.2.1
   · rw[show(j+1)*6+5=j*6+5+1+1+1+1+1+1 by omega];simp only[List.getElem?_cons_succ];exact ih.2.2.2.2.2
theorem jQ:∀(xs:List Lv)(k:Nat)(x:Lv),aN (xs.set k x)=((((((aN xs).set (k*6) (.int .i64 x.1)).set (k*6+1) (.int .i64 x.2.1)).set (k*6+2) (.int .i64 x.2.2.1)).set (k*6+3) (.int .i64 x.2.2.2.1)).set (k*6+4) (.int .i64 x.2.2.2.2.1)).set (k*6+5) x.2.2.2.2.2
 |[],k,x=>rfl
 |y::xs,0,x=>rfl
 | y::xs,k+1,x=>by
   rw[List.set_cons_succ,dF,jQ xs k x,dF]
   rw[show(k+1)*6=k*6+1+1+1+1+1+1 by omega]
   simp only[List.set_cons_succ]
theorem mU (n:Nat):(madeCells #[.int .i64 0, .int .i64 0, .int .i64 0, .int .i64 0, .int .i64 0, .slice none 0 0] (n*6)).toList=aN (List.replicate n dW):=by apply List.ext_getElem?;intro i;by_cases hi:i<n*6;{have hj:i / 6<n:=by{omega};have hg:=ek (List.replicate n dW) (i / 6) (by simpa using hj);have e0:(List.replicate n dW).getD (i / 6) dW=dW:=by{simp[ah,hj]};rw[e0]at hg;have hL:(madeCells #[.int .i64 0, .int .i64 0, .int .i64 0, .int .i64 0, .int .i64 0, .slice none 0 0] (n*6)).toList[i]?=some ((#[.int .i64 0, .int .i64 0, .int .i64 0, .int .i64 0, .int .i64 0, .slice none 0 0]:Array Value)[i%6]?.getD default):=by{simp[madeCells,hi]};rw[hL];have h4:i%6=0\/i%6=1\/i%6=2\/i%6=3\/i%6=4\/i%6=5:=by{omega};rcases h4 with e|e|e|e|e|e;{rw[e,show i=i / 6*6 by omega,hg.1];rfl};{rw[e,show i=i / 6*6+1 by omega,hg.2.1];rfl};{rw[e,show i=i / 6*6+2 by omega,hg.2.2.1];rfl};{rw[e,show i=i / 6*6+3 by omega,hg.2.2.2.1];rfl};{rw[e,show i=i / 6*6+4 by omega,hg.2.2.2.2.1];rfl};rw[e,show i=i / 6*6+5 by omega,hg.2.2.2.2.2];rfl};rw[List.getElem?_eq_none (by simp[madeCells];omega),List.getElem?_eq_none (by rw[fM];simp;omega)]
def bZ (W:World)(n₀ k:Nat)(vs:List Lv)(fs:List Ln):Prop:=
 ∀j,j<k->(vs.getD j dW).1=(fs.getD j .z).k/\(vs.getD j dW).2.1=(fs.getD j .z).d/\(vs.getD j dW).2.2.1=(fs.getD j .z).a/\(vs.getD j dW).2.2.2.1=(fs.getD j .z).b/\(vs.getD j dW).2.2.2.2.1=(fs.getD j .z).n/\OI W n₀ (vs.getD j dW).2.2.2.2.2 (fs.getD j .z).l
theorem bZ.kept {W W':World}{n₀ k:Nat}{vs:List Lv}{fs:List Ln}(h:bZ W n₀ k vs fs)(hB:Below W.heap.size W W'):bZ W' n₀ k vs fs:=fun j hj=>by
 obtain⟨h0,h1,h2,h3,h4,h5⟩:=h j hj
 exact⟨h0,h1,h2,h3,h4,h5.kept hB⟩
theorem bZ.other {W W':World}{n₀ k b:Nat}{vs:List Lv}{fs:List Ln}(h:bZ W n₀ k vs fs)(hg:W.grownBy W' (some b))(hne:b<n₀):bZ W' n₀ k vs fs:=fun j hj=>by
 obtain⟨h0,h1,h2,h3,h4,h5⟩:=h j hj
 exact⟨h0,h1,h2,h3,h4,h5.bM hg (fun g hgg=>by have:=(World.ownsRow.lt h5 g hgg).1;omega)⟩
theorem bZ.mono {W:World}{n₀ n₁ k:Nat}{vs:List Lv}{fs:List Ln}(h:bZ W n₁ k vs fs)(hn:n₀<=n₁):bZ W n₀ k vs fs:=fun j hj=>by
 obtain⟨h0,h1,h2,h3,h4,h5⟩:=h j hj
 exact⟨h0,h1,h2,h3,h4,h5.mono hn⟩
theorem jK {W:World}{n₀ n₁ g n cap:Nat}{vs:List Lv}{fs:List Ln}(h:W.ownsRow n₀ 45 6 (.slice (some ⟨g,0,none⟩) n cap) n (aN vs))(hn:fs.length=n)(ht:bZ W n₁ n vs fs):LL W (some ⟨g,0,none⟩) n fs:=by have hv:n=vs.length:=by{have:=h.1;rw[fM]at this;omega};have hlt:=World.ownsRow.lt h g rfl;have hmx:n<=maxLen:=by{rcases h.2 with⟨h',_⟩|⟨g',cap',cur,h',_,_,hc,hm,_⟩;{cases h'};cases h';exact Nat.le_trans hc hm};refine⟨hn,hmx, .inr ⟨g,0,rfl,hlt.2,fun j hj=>?_⟩⟩;obtain⟨g0,g1,g2,g3,g4,g5⟩:=ek vs j (by omega);obtain⟨t0,t1,t2,t3,t4,t5⟩:=ht j hj;rw[Nat.zero_add];refine⟨(World.ownsRow.cellAt h (j*6) (by omega)).trans (by rw[g0,t0]),(World.ownsRow.cellAt h (j*6+1) (by omega)).trans (by rw[g1,t1]),(World.ownsRow.cellAt h (j*6+2) (by omega)).trans (by rw[g2,t2]),(World.ownsRow.cellAt h (j*6+3) (by omega)).trans (by rw[g3,t3]),(World.ownsRow.cellAt h (j*6+4) (by omega)).trans (by rw[g4,t4]),?_⟩;obtain⟨sa,sc,e,hs⟩:=t5.slice;exact⟨sa,_,sc,(World.ownsRow.cellAt h (j*6+5) (by omega)).trans (by rw[g5,e]),hs⟩
def vz (W:World)(n₀:Nat)(v:Value)(fs:List Ln):Prop:=
 ∃g cap vs,v= .slice (some ⟨g,0,none⟩) fs.length cap/\W.ownsRow n₀ 45 6 (.slice (some ⟨g,0,none⟩) fs.length cap) fs.length (aN vs)/\bZ W n₀ fs.length vs fs
theorem vz.LL {W:World}{n₀:Nat}{v:Value}{fs:List Ln}(h:vz W n₀ v fs):∃g cap,v= .slice (some ⟨g,0,none⟩) fs.length cap/\n₀<=g/\g<W.heap.size/\Go.Proofs.Ytlbkdlnalgkjeaa.LL W (some ⟨g,0,none⟩) fs.length fs:=by obtain⟨g,cap,vs,rfl,hrow,ht⟩:=h;exact⟨g,cap,rfl,(World.ownsRow.lt hrow g rfl).1,(World.ownsRow.lt hrow g rfl).2,jK hrow rfl ht⟩
theorem o8:(Try.prog.info? 45).map (fun i=>(i.zero,i.size,i.bytes))=some (some (.agg #[.int .i64 0, .int .i64 0, .int .i64 0, .int .i64 0, .int .i64 0, .slice none 0 0]),6,64):=by kernel_rfl
end Go.Proofs.Ytlbkdlnalgkjeaa
