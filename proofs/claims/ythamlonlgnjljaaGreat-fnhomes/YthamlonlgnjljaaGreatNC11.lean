/-
  Own texts for a law: Dl1 Dl2 Typ0 Typ1 Mean0 Mean1 Mean2 Low0 Low1 Low2 Low3 StepD3
-/
import Derived.Test.YthamlonlgnjljaaGreatNC10
namespace Go.Proofs.YthamlonlgnjljaaGreat
open Go.RowKit Go.Shelf
set_option linter.all false
set_option maxRecDepth 100000
set_option maxHeartbeats 16000000
theorem qB (B:Nat)(a:Option Addr)(len cap:Nat)(zs:List Int)(n:Int)(w:World)(hc:gG w B a len cap zs):Calls Tryz.prog 53 #[.pointer (some ⟨B,0,none⟩), .int .i64 n] w fun e w'=>∃(x:Ln)(vl:Value),e= .returned (.agg #[.int .i64 x.k, .int .i64 x.d, .int .i64 x.a, .int .i64 x.b, .int .i64 x.n,vl])/\x.l.length<=3/\OI w' w.heap.size vl x.l/\aM w w' B a len cap zs:=by have hBw:=hc.1;obtain⟨i0,hi,hz0,hz1,hz2⟩:=info_parts yJ;have hd0:=aM.alloc (aM.refl hc) (.cells #[.int .i64 0, .int .i64 0, .int .i64 0, .int .i64 0, .int .i64 0, .slice none 0 0] 59);go_enter Tryz.func53,Tryz.ntmps53;go_wp2_with fail;refine(aD B a len cap zs 11 _ hd0.1).mono ?_;rintro e w1 ⟨x,rfl,hx0,hx1,hx2,hd⟩;have hx:x=0\/x=1\/x=2\/x=3\/x=4\/x=5\/x=6\/x=7\/x=8\/x=9\/x=10:=by{omega};clear hx0 hx1 hx2 hd0;have hst:=fun k=>D9.start k hc hd;have Gp:=aM.Ah hc hd;have uh:=(bi.new w [.int .i64 0, .int .i64 0, .int .i64 0, .int .i64 0, .int .i64 0, .slice none 0 0] 59).dr hd (by omega);clear hc hd;obtain⟨L,hL⟩:∃L,w1.heap.size=L:=⟨_,rfl⟩;rcases hx with rfl|rfl|rfl|rfl|rfl|rfl|rfl|rfl|rfl|rfl|rfl;{have h0:=hst 1;rw[hL]at h0;clear hst;clear uh Gp;have h:=h0;clear h0;go_wp2_with fail;refine(aD B a len cap zs 8 _ h.dr.1).mono ?_;rintro e W0 ⟨y0,rfl,b00,b01,b02,hd⟩;clear b02;(try dsimp only);replace h:=h.drawn hd;clear hd;obtain⟨c0,c1,c2,c3,c4,c5⟩:=h.cells;obtain⟨f0,f1,f2,f3,f4,f5⟩:=h.free;obtain⟨r0,r1,r2,r3,r4,r5⟩:=h.aV;obtain⟨s0,s1,s2,s3,s4,s5⟩:=h.bJ;have ix:=h.ix;dsimp only at c0 c1 c2 c3 c4 c5;have HN:=ae (h.put 1 (.int .i64 y0) ⟨1,y0,0,0,0,[]⟩ rfl rfl);clear h;go_wp2_with fail;have h:=HN.out;clear c0 c1 c2 c3 c4 c5 f0 f1 f2 f3 f4 f5 r0 r1 r2 r3 r4 r5 s0 s1 s2 s3 s4 s5 ix;clear HN;refine(kP B a len cap zs _ h.dr.1).mono ?_;rintro e W1 ⟨y1,rfl,b10,b11,hd⟩;(try dsimp only);replace h:=h.drawn hd;clear hd;obtain⟨c0,c1,c2,c3,c4,c5⟩:=h.cells;obtain⟨f0,f1,f2,f3,f4,f5⟩:=h.free;obtain⟨r0,r1,r2,r3,r4,r5⟩:=h.aV;obtain⟨s0,s1,s2,s3,s4,s5⟩:=h.bJ;have ix:=h.ix;dsimp only at c0 c1 c2 c3 c4 c5;have h:=h.put 4 (.int .i64 y1) ⟨1,y0,0,0,y1,[]⟩ rfl rfl;have HD:=ae (h.done (.int .i64 1) (.int .i64 y0) (.int .i64 0) (.int .i64 0) (.int .i64 y1) (.slice none 0 0));go_wp2;(try simp only[Exit.inBlock,Exit.then]);refine bodyPost_ret (v:= .agg #[.int .i64 1, .int .i64 y0, .int .i64 0, .int .i64 0, .int .i64 y1, .slice none 0 0]) ?_ rfl ⟨⟨1,y0,0,0,y1,[]⟩,(.slice none 0 0),rfl,by simp,HD.out.1,HD.out.2⟩;rw[aC rfl];go_simp};{have h0:=hst 2;rw[hL]at h0;clear hst;clear uh Gp;have h:=h0;clear h0;go_wp2_with fail;refine(aD B a len cap zs 8 _ h.dr.1).mono ?_;rintro e W0 ⟨y0,rfl,b00,b01,b02,hd⟩;clear b02;(try dsimp only);replace h:=h.drawn hd;clear hd;obtain⟨c0,c1,c2,c3,c4,c5⟩:=h.cells;obtain⟨f0,f1,f2,f3,f4,f5⟩:=h.free;obtain⟨r0,r1,r2,r3,r4,r5⟩:=h.aV;obtain⟨s0,s1,s2,s3,s4,s5⟩:=h.bJ;have ix:=h.ix;dsimp only at c0 c1 c2 c3 c4 c5;have HN:=ae (h.put 1 (.int .i64 y0) ⟨2,y0,0,0,0,[]⟩ rfl rfl);clear h;go_wp2_with fail;have h:=HN.out;clear c0 c1 c2 c3 c4 c5 f0 f1 f2 f3 f4 f5 r0 r1 r2 r3 r4 r5 s0 s1 s2 s3 s4 s5 ix;clear HN;refine(aD B a len cap zs 8 _ h.dr.1).mono ?_;rintro e W1 ⟨y1,rfl,b10,b11,b12,hd⟩;clear b12;(try dsimp only);replace h:=h.drawn hd;clear hd;obtain⟨c0,c1,c2,c3,c4,c5⟩:=h.cells;obtain⟨f0,f1,f2,f3,f4,f5⟩:=h.free;obtain⟨r0,r1,r2,r3,r4,r5⟩:=h.aV;obtain⟨s0,s1,s2,s3,s4,s5⟩:=h.bJ;have ix:=h.ix;dsimp only at c0 c1 c2 c3 c4 c5;have h:=h.put 2 (.int .i64 y1) ⟨2,y0,y1,0,0,[]⟩ rfl rfl;have HD:=ae (h.done (.int .i64 2) (.int .i64 y0) (.int .i64 y1) (.int .i64 0) (.int .i64 0) (.slice none 0 0));go_wp2;(try simp only[Exit.inBlock,Exit.then]);refine bodyPost_ret (v:= .agg #[.int .i64 2, .int .i64 y0, .int .i64 y1, .int .i64 0, .int .i64 0, .slice none 0 0]) ?_ rfl ⟨⟨2,y0,y1,0,0,[]⟩,(.slice none 0 0),rfl,by simp,HD.out.1,HD.out.2⟩;rw[aC rfl];go_simp};{have h0:=hst 3;rw[hL]at h0;clear hst;clear uh Gp;have h:=h0;clear h0;go_wp2_with fail;refine(aD B a len cap zs 8 _ h.dr.1).mono ?_;rintro e W0 ⟨y0,rfl,b00,b01,b02,hd⟩;clear b02;(try dsimp only);replace h:=h.drawn hd;clear hd;obtain⟨c0,c1,c2,c3,c4,c5⟩:=h.cells;obtain⟨f0,f1,f2,f3,f4,f5⟩:=h.free;obtain⟨r0,r1,r2,r3,r4,r5⟩:=h.aV;obtain⟨s0,s1,s2,s3,s4,s5⟩:=h.bJ;have ix:=h.ix;dsimp only at c0 c1 c2 c3 c4 c5;have HN:=ae (h.put 1 (.int .i64 y0) ⟨3,y0,0,0,0,[]⟩ rfl rfl);clear h;go_wp2_with fail;have h:=HN.out;clear c0 c1 c2 c3 c4 c5 f0 f1 f2 f3 f4 f5 r0 r1 r2 r3 r4 r5 s0 s1 s2 s3 s4 s5 ix;clear HN;refine(aD B a len cap zs 8 _ h.dr.1).mono ?_;rintro e W1 ⟨y1,rfl,b10,b11,b12,hd⟩;clear b12;(try dsimp only);replace h:=h.drawn hd;clear hd;obtain⟨c0,c1,c2,c3,c4,c5⟩:=h.cells;obtain⟨f0,f1,f2,f3,f4,f5⟩:=h.free;obtain⟨r0,r1,r2,r3,r4,r5⟩:=h.aV;obtain⟨s0,s1,s2,s3,s4,s5⟩:=h.bJ;have ix:=h.ix;dsimp only at c0 c1 c2 c3 c4 c5;have HN:=ae (h.put 2 (.int .i64 y1) ⟨3,y0,y1,0,0,[]⟩ rfl rfl);clear h;go_wp2_with fail;have h:=HN.out;clear c0 c1 c2 c3 c4 c5 f0 f1 f2 f3 f4 f5 r0 r1 r2 r3 r4 r5 s0 s1 s2 s3 s4 s5 ix;clear HN;refine(aD B a len cap zs 8 _ h.dr.1).mono ?_;rintro e W2 ⟨y2,rfl,b20,U6,Ml,hd⟩;clear Ml;(try dsimp only);replace h:=h.drawn hd;clear hd;obtain⟨c0,c1,c2,c3,c4,c5⟩:=h.cells;obtain⟨f0,f1,f2,f3,f4,f5⟩:=h.free;obtain⟨r0,r1,r2,r3,r4,r5⟩:=h.aV;obtain⟨s0,s1,s2,s3,s4,s5⟩:=h.bJ;have ix:=h.ix;dsimp only at c0 c1 c2 c3 c4 c5;have HN:=ae (h.put 3 (.int .i64 y2) ⟨3,y0,y1,y2,0,[]⟩ rfl rfl);clear h;go_wp2_with fail;have h:=HN.out;clear c0 c1 c2 c3 c4 c5 f0 f1 f2 f3 f4 f5 r0 r1 r2 r3 r4 r5 s0 s1 s2 s3 s4 s5 ix;clear HN;refine(aD B a len cap zs 12 _ h.dr.1).mono ?_;rintro e W3 ⟨y3,rfl,b30,b31,b32,hd⟩;clear b32;(try dsimp only);replace h:=h.drawn hd;clear hd;obtain⟨c0,c1,c2,c3,c4,c5⟩:=h.cells;obtain⟨f0,f1,f2,f3,f4,f5⟩:=h.free;obtain⟨r0,r1,r2,r3,r4,r5⟩:=h.aV;obtain⟨s0,s1,s2,s3,s4,s5⟩:=h.bJ;have ix:=h.ix;dsimp only at c0 c1 c2 c3 c4 c5;have h:=h.put 4 (.int .i64 (1+y3)) ⟨3,y0,y1,y2,(1+y3),[]⟩ rfl rfl;have HD:=ae (h.done (.int .i64 3) (.int .i64 y0) (.int .i64 y1) (.int .i64 y2) (.int .i64 (1+y3)) (.slice none 0 0));go_wp2;(try simp only[Exit.inBlock,Exit.then]);refine bodyPost_ret (v:= .agg #[.int .i64 3, .int .i64 y0, .int .i64 y1, .int .i64 y2, .int .i64 (1+y3), .slice none 0 0]) ?_ rfl ⟨⟨3,y0,y1,y2,(1+y3),[]⟩,(.slice none 0 0),rfl,by simp,HD.out.1,HD.out.2⟩;rw[aC rfl];go_simp};{have h0:=hst 4;rw[hL]at h0;clear hst;clear uh Gp;have h:=h0;clear h0;go_wp2_with fail;refine(aD B a len cap zs 8 _ h.dr.1).mono ?_;rintro e W0 ⟨y0,rfl,b00,b01,b02,hd⟩;clear b02;(try dsimp only);replace h:=h.drawn hd;clear hd;obtain⟨c0,c1,c2,c3,c4,c5⟩:=h.cells;obtain⟨f0,f1,f2,f3,f4,f5⟩:=h.free;obtain⟨r0,r1,r2,r3,r4,r5⟩:=h.aV;obtain⟨s0,s1,s2,s3,s4,s5⟩:=h.bJ;have ix:=h.ix;dsimp only at c0 c1 c2 c3 c4 c5;have HN:=ae (h.put 1 (.int .i64 y0) ⟨4,y0,0,0,0,[]⟩ rfl rfl);clear h;go_wp2_with fail;have h:=HN.out;clear c0 c1 c2 c3 c4 c5 f0 f1 f2 f3 f4 f5 r0 r1 r2 r3 r4 r5 s0 s1 s2 s3 s4 s5 ix;clear HN;refine(aD B a len cap zs 8 _ h.dr.1).mono ?_;rintro e W1 ⟨y1,rfl,b10,b11,b12,hd⟩;clear b12;(try dsimp only);replace h:=h.drawn hd;clear hd;obtain⟨c0,c1,c2,c3,c4,c5⟩:=h.cells;obtain⟨f0,f1,f2,f3,f4,f5⟩:=h.free;obtain⟨r0,r1,r2,r3,r4,r5⟩:=h.aV;obtain⟨s0,s1,s2,s3,s4,s5⟩:=h.bJ;have ix:=h.ix;dsimp only at c0 c1 c2 c3 c4 c5;have h:=h.put 2 (.int .i64 y1) ⟨4,y0,y1,0,0,[]⟩ rfl rfl;have HD:=ae (h.done (.int .i64 4) (.int .i64 y0) (.int .i64 y1) (.int .i64 0) (.int .i64 0) (.slice none 0 0));go_wp2;(try simp only[Exit.inBlock,Exit.then]);refine bodyPost_ret (v:= .agg #[.int .i64 4, .int .i64 y0, .int .i64 y1, .int .i64 0, .int .i64 0, .slice none 0 0]) ?_ rfl ⟨⟨4,y0,y1,0,0,[]⟩,(.slice none 0 0),rfl,by simp,HD.out.1,HD.out.2⟩;rw[aC rfl];go_simp};{have h0:=hst 5;rw[hL]at h0;clear hst;clear uh Gp;have h:=h0;clear h0;go_wp2_with fail;refine(aD B a len cap zs n _ h.dr.1).mono ?_;rintro e W0 ⟨y0,rfl,b00,b01,b02,hd⟩;clear b02;(try dsimp only);replace h:=h.drawn hd;clear hd;obtain⟨c0,c1,c2,c3,c4,c5⟩:=h.cells;obtain⟨f0,f1,f2,f3,f4,f5⟩:=h.free;obtain⟨r0,r1,r2,r3,r4,r5⟩:=h.aV;obtain⟨s0,s1,s2,s3,s4,s5⟩:=h.bJ;have ix:=h.ix;dsimp only at c0 c1 c2 c3 c4 c5;have h:=h.put 4 (.int .i64 y0) ⟨5,0,0,0,y0,[]⟩ rfl rfl;have HD:=ae (h.done (.int .i64 5) (.int .i64 0) (.int .i64 0) (.int .i64 0) (.int .i64 y0) (.slice none 0 0));go_wp2;(try simp only[Exit.inBlock,Exit.then]);refine bodyPost_ret (v:= .agg #[.int .i64 5, .int .i64 0, .int .i64 0, .int .i64 0, .int .i64 y0, .slice none 0 0]) ?_ rfl ⟨⟨5,0,0,0,y0,[]⟩,(.slice none 0 0),rfl,by simp,HD.out.1,HD.out.2⟩;rw[aC rfl];go_simp};{have h0:=hst 6;rw[hL]at h0;clear hst;clear uh Gp;have h:=h0;clear h0;go_wp2_with fail;refine(aD B a len cap zs n _ h.dr.1).mono ?_;rintro e W0 ⟨y0,rfl,b00,b01,b02,hd⟩;clear b02;(try dsimp only);replace h:=h.drawn hd;clear hd;obtain⟨c0,c1,c2,c3,c4,c5⟩:=h.cells;obtain⟨f0,f1,f2,f3,f4,f5⟩:=h.free;obtain⟨r0,r1,r2,r3,r4,r5⟩:=h.aV;obtain⟨s0,s1,s2,s3,s4,s5⟩:=h.bJ;have ix:=h.ix;dsimp only at c0 c1 c2 c3 c4 c5;have HN:=ae (h.put 4 (.int .i64 y0) ⟨6,0,0,0,y0,[]⟩ rfl rfl);clear h;go_wp2_with fail;have h:=HN.out;clear c0 c1 c2 c3 c4 c5 f0 f1 f2 f3 f4 f5 r0 r1 r2 r3 r4 r5 s0 s1 s2 s3 s4 s5 ix;clear HN;refine(aD B a len cap zs 8 _ h.dr.1).mono ?_;rintro e W1 ⟨y1,rfl,b10,b11,b12,hd⟩;clear b12;(try dsimp only);replace h:=h.drawn hd;clear hd;obtain⟨c0,c1,c2,c3,c4,c5⟩:=h.cells;obtain⟨f0,f1,f2,f3,f4,f5⟩:=h.free;obtain⟨r0,r1,r2,r3,r4,r5⟩:=h.aV;obtain⟨s0,s1,s2,s3,s4,s5⟩:=h.bJ;have ix:=h.ix;dsimp only at c0 c1 c2 c3 c4 c5;have h:=h.put 2 (.int .i64 y1) ⟨6,0,y1,0,y0,[]⟩ rfl rfl;have HD:=ae (h.done (.int .i64 6) (.int .i64 0) (.int .i64 y1) (.int .i64 0) (.int .i64 y0) (.slice none 0 0));go_wp2;(try simp only[Exit.inBlock,Exit.then]);refine bodyPost_ret (v:= .agg #[.int .i64 6, .int .i64 0, .int .i64 y1, .int .i64 0, .int .i64 y0, .slice none 0 0]) ?_ rfl ⟨⟨6,0,y1,0,y0,[]⟩,(.slice none 0 0),rfl,by simp,HD.out.1,HD.out.2⟩;rw[aC rfl];go_simp};{have h0:=hst 7;rw[hL]at h0;clear hst;clear uh Gp;have h:=h0;clear h0;go_wp2_with fail;refine(aD B a len cap zs 8 _ h.dr.1).mono ?_;rintro e W0 ⟨y0,rfl,b00,b01,b02,hd⟩;clear b02;(try dsimp only);replace h:=h.drawn hd;clear hd;obtain⟨c0,c1,c2,c3,c4,c5⟩:=h.cells;obtain⟨f0,f1,f2,f3,f4,f5⟩:=h.free;obtain⟨r0,r1,r2,r3,r4,r5⟩:=h.aV;obtain⟨s0,s1,s2,s3,s4,s5⟩:=h.bJ;have ix:=h.ix;dsimp only at c0 c1 c2 c3 c4 c5;have HN:=ae (h.put 1 (.int .i64 y0) ⟨7,y0,0,0,0,[]⟩ rfl rfl);clear h;go_wp2_with fail;have h:=HN.out;clear c0 c1 c2 c3 c4 c5 f0 f1 f2 f3 f4 f5 r0 r1 r2 r3 r4 r5 s0 s1 s2 s3 s4 s5 ix;clear HN;refine(aD B a len cap zs 2 _ h.dr.1).mono ?_;rintro e W1 ⟨y1,rfl,b10,b11,b12,hd⟩;clear b12;(try dsimp only);replace h:=h.drawn hd;clear hd;obtain⟨c0,c1,c2,c3,c4,c5⟩:=h.cells;obtain⟨f0,f1,f2,f3,f4,f5⟩:=h.free;obtain⟨r0,r1,r2,r3,r4,r5⟩:=h.aV;obtain⟨s0,s1,s2,s3,s4,s5⟩:=h.bJ;have ix:=h.ix;dsimp only at c0 c1 c2 c3 c4 c5;replace h:=h.put 4 (.int .i64 y1) ⟨7,y0,0,0,y1,[]⟩ rfl rfl;have HN:=ae h;clear h;go_wp2_with fail;have h:=HN.out;clear c0 c1 c2 c3 c4 c5 f0 f1 f2 f3 f4 f5 r0 r1 r2 r3 r4 r5 s0 s1 s2 s3 s4 s5 ix;clear HN;refine(aD B a len cap zs 4 _ h.dr.1).mono ?_;rintro e W2 ⟨y2,rfl,b20,U6,Ml,hd⟩;(try dsimp only);replace h:=h.drawn hd;have b23:y2<4:=by{omega};clear hd Ml U6;go_wp2;go_loopw [6] (fun i wr=>∃(r:Nat)(xs:List Int)(vl:Value),i= .int .i64 r/\xs.length+r<=3/\D9 w (L+1) L B a len cap zs ⟨7,y0,0,0,y1,xs⟩ vl wr) (fun i _=>(intOf i).toNat);(case atStart=>obtain⟨r,rfl⟩:∃r:Nat,y2=r:=⟨y2.toNat,by omega⟩;exact⟨r,[],_,rfl,by simp;omega,h⟩);case round=>obtain⟨r,xs,vl,rfl,hr3,la⟩:=hrel;clear h b20 b23;by_cases hr:0<r;{obtain⟨ad,cv,hvs,-⟩:=la.oi.slice;dsimp only at hvs;subst hvs;go_wp2;refine dD 5 [74,75,76,77,78] (fun x=>D9 w (L+1) L B a len cap zs ⟨7,y0,0,0,y1,xs⟩ (.slice ad xs.length cv) x) (fun x x'=>x.grownBy x' (some B)) (Nf B L (.slice ad xs.length cv)) (by kernel_rfl) (by kernel_rfl) (by simp) (la.kept (Below.refl _ _).drew) (fun k y x x' hr hf=>Nf.fC hr hf) ?_ ?_;{simp only[List.take_succ_cons,List.take_zero];refine⟨?_,?_,?_,?_,?_,trivial⟩;{intro b x hA hfr aT;unfold Oper.wp;generalize hK:(fun(b':Act) (x':World)=>∃y,_/\_)=K;have e3:b.tmps[5]?.getD undef= .pointer (some ⟨L,0,none⟩):=aN (hfr 5 (by decide));simp only[execOp];go_simp;rw[←hK];exact⟨_,rfl,hA,rfl,World.grownBy.refl _ _⟩};{intro b x hA hfr aT;unfold Oper.wp;generalize hK:(fun(b':Act) (x':World)=>∃y,_/\_)=K;have e19:b.tmps[74]?.getD undef= .pointer (some ⟨L,5,none⟩):=aN (aT 0 (by kernel_rfl));have m0:=(hA.bL.2 5 _ rfl).1;simp only[execOp];go_simp;rw[←hK];exact⟨_,rfl,hA,rfl,World.grownBy.refl _ _⟩};{intro b x hA hfr aT;unfold Oper.wp;generalize hK:(fun(b':Act) (x':World)=>∃y,_/\_)=K;have e0:b.tmps[0]?.getD undef= .pointer (some ⟨B,0,none⟩):=aN (hfr 0 (by decide));simp only[execOp];go_simp;rw[←hK];exact⟨_,rfl,hA,rfl,World.grownBy.refl _ _⟩};{intro b x hA hfr aT;unfold Oper.wp;generalize hK:(fun(b':Act) (x':World)=>∃y,_/\_)=K;have e21:b.tmps[76]?.getD undef= .pointer (some ⟨B,0,none⟩):=aN (aT 2 (by kernel_rfl));simp only[execOp];go_simp;refine(aD B a len cap zs 8 x hA.dr.1).mono ?_;rintro e w' ⟨y,rfl,y0,ym,y1,hd⟩;rw[←hK];exact⟨_,rfl,hA.drawn hd,⟨y,rfl⟩,hd.2⟩};intro b x hA hfr aT;unfold Oper.wp;generalize hK:(fun(b':Act) (x':World)=>∃y,_/\_)=K;obtain⟨p,q1⟩:=aT 3 (by kernel_rfl);have e22:b.tmps[77]?.getD undef= .int .i64 p:=by{simpa[Act.eval]using q1};simp only[execOp];go_simp;rw[←hK];have hbt:=aA x (.cells #[.int .i64 p] 2);exact⟨_,rfl,hA.kept hbt,⟨x.heap.size,p,by have:=hA.ix;omega,by simp,rfl,one_cell x p 2⟩,World.grownBy_alloc x _ _⟩};intro b x hA hF hb;have e75:b.eval (.tmp 75)= .slice ad xs.length cv:=hF 1 (by decide);obtain⟨tb,p,t1,t2,U7,t4⟩:=hF 4 (by decide);have U7:b.eval (.tmp 78)= .slice (some ⟨tb,0,none⟩) 1 1:=U7;obtain⟨z74,e74⟩:∃z,b.eval (.tmp 74)=z:=⟨_,rfl⟩;obtain⟨z76,e76⟩:∃z,b.eval (.tmp 76)=z:=⟨_,rfl⟩;obtain⟨z77,e77⟩:∃z,b.eval (.tmp 77)=z:=⟨_,rfl⟩;simp only[List.foldl,e74,e75,e76,e77,U7]at hb;clear hF e74 e75 e76 e77 U7;subst hb;simp only[Act.put,List.setIfInBounds_toArray,List.set_cons_succ,List.set_cons_zero,List.drop_succ_cons,List.drop_zero];have hix:=hA.ix;have HA:=ae hA;have HC:=ae (uJ t4);have hrow:x.ownsRow (L+1) 2 1 (.slice ad xs.length cv) xs.length (xs.map iv):=hA.oi;have HR:=ae hrow;clear la hA t4 hrow;go_wp2_with(at_builtin;refine EF ?_);unfold Hid;refine wpList_append_own x rfl (.tmp 75) (.tmp 78) 26 rfl (L+1) 2 i0 (.int .i64 0) 1 8 Tryz.underlying26 hi hz0 hz1 hz2 rfl (by decide) (.slice ad xs.length cv) xs.length (xs.map iv) rfl HR.out ⟨tb,0,none⟩ 1 1 [.int .i64 p] rfl rfl HC.out (by simp[Value.oneCell']) (by simp only[maxLen];omega) (by omega) (by omega) ?_;intro v' wA hown' hgrow _;obtain⟨g',cap',rfl⟩:=ownsRow_succ hown';have jP:=ae (ak hown' hgrow);have pF:=HA.out.bL.bS hgrow (fun e=>by have:=(World.ownsRow.lt HR.out _ e).1;omega);have a0:=(pF.2 5 _ rfl).1;have af0:=(pF.2 5 _ rfl).2;clear hown' hgrow pF;go_wp2_with fail;go_roundw;(case rel=>refine⟨r-1,xs++[p],_,(by rw[show((r-1:Nat):Int)=(r:Int)-1 by omega]),by simp;omega,HA.out.app (n:=p) (v':= .slice (some ⟨g',0,none⟩) (xs.length+1) cap') jP.out.2 ?_ ?_⟩;{have:=jP.out.1;unfold OI;simpa[iv]using this};intro g hg;have:=(World.ownsRow.lt jP.out.1 g hg).1;omega);case measure=>simp[intOf];omega};have hr0:r=0:=by{omega};subst hr0;obtain⟨ad,cv,hvs,-⟩:=la.oi.slice;dsimp only at hvs;subst hvs;have h:=la;clear la;obtain⟨c0,c1,c2,c3,c4,c5⟩:=h.cells;obtain⟨f0,f1,f2,f3,f4,f5⟩:=h.free;obtain⟨r0,r1,r2,r3,r4,r5⟩:=h.aV;obtain⟨s0,s1,s2,s3,s4,s5⟩:=h.bJ;have ix:=h.ix;dsimp only at c0 c1 c2 c3 c4 c5;have HD:=ae (h.done (.int .i64 7) (.int .i64 y0) (.int .i64 0) (.int .i64 0) (.int .i64 y1) (.slice ad xs.length cv));go_wp2;(try simp only[Exit.inBlock,Exit.then]);refine bodyPost_ret (v:= .agg #[.int .i64 7, .int .i64 y0, .int .i64 0, .int .i64 0, .int .i64 y1, .slice ad xs.length cv]) ?_ rfl ⟨⟨7,y0,0,0,y1,xs⟩, .slice ad xs.length cv,rfl,by simp only;omega,HD.out.1,HD.out.2⟩;rw[aC rfl];go_simp};{have h0:=hst 8;rw[hL]at h0;clear hst;clear uh Gp;have h:=h0;clear h0;go_wp2_with fail;refine(aD B a len cap zs 8 _ h.dr.1).mono ?_;rintro e W0 ⟨y0,rfl,b00,b01,b02,hd⟩;clear b02;(try dsimp only);replace h:=h.drawn hd;clear hd;obtain⟨c0,c1,c2,c3,c4,c5⟩:=h.cells;obtain⟨f0,f1,f2,f3,f4,f5⟩:=h.free;obtain⟨r0,r1,r2,r3,r4,r5⟩:=h.aV;obtain⟨s0,s1,s2,s3,s4,s5⟩:=h.bJ;have ix:=h.ix;dsimp only at c0 c1 c2 c3 c4 c5;have HN:=ae (h.put 1 (.int .i64 y0) ⟨8,y0,0,0,0,[]⟩ rfl rfl);clear h;go_wp2_with fail;have h:=HN.out;clear c0 c1 c2 c3 c4 c5 f0 f1 f2 f3 f4 f5 r0 r1 r2 r3 r4 r5 s0 s1 s2 s3 s4 s5 ix;clear HN;refine(aD B a len cap zs 8 _ h.dr.1).mono ?_;rintro e W1 ⟨y1,rfl,b10,b11,b12,hd⟩;clear b12;(try dsimp only);replace h:=h.drawn hd;clear hd;obtain⟨c0,c1,c2,c3,c4,c5⟩:=h.cells;obtain⟨f0,f1,f2,f3,f4,f5⟩:=h.free;obtain⟨r0,r1,r2,r3,r4,r5⟩:=h.aV;obtain⟨s0,s1,s2,s3,s4,s5⟩:=h.bJ;have ix:=h.ix;dsimp only at c0 c1 c2 c3 c4 c5;have HN:=ae (h.put 2 (.int .i64 y1) ⟨8,y0,y1,0,0,[]⟩ rfl rfl);clear h;go_wp2_with fail;have h:=HN.out;clear c0 c1 c2 c3 c4 c5 f0 f1 f2 f3 f4 f5 r0 r1 r2 r3 r4 r5 s0 s1 s2 s3 s4 s5 ix;clear HN;refine(aD B a len cap zs 9 _ h.dr.1).mono ?_;rintro e W2 ⟨y2,rfl,b20,U6,Ml,hd⟩;clear Ml;(try dsimp only);replace h:=h.drawn hd;clear hd;obtain⟨c0,c1,c2,c3,c4,c5⟩:=h.cells;obtain⟨f0,f1,f2,f3,f4,f5⟩:=h.free;obtain⟨r0,r1,r2,r3,r4,r5⟩:=h.aV;obtain⟨s0,s1,s2,s3,s4,s5⟩:=h.bJ;have ix:=h.ix;dsimp only at c0 c1 c2 c3 c4 c5;have h:=h.put 4 (.int .i64 y2) ⟨8,y0,y1,0,y2,[]⟩ rfl rfl;have HD:=ae (h.done (.int .i64 8) (.int .i64 y0) (.int .i64 y1) (.int .i64 0) (.int .i64 y2) (.slice none 0 0));go_wp2;(try simp only[Exit.inBlock,Exit.then]);refine bodyPost_ret (v:= .agg #[.int .i64 8, .int .i64 y0, .int .i64 y1, .int .i64 0, .int .i64 y2, .slice none 0 0]) ?_ rfl ⟨⟨8,y0,y1,0,y2,[]⟩,(.slice none 0 0),rfl,by simp,HD.out.1,HD.out.2⟩;rw[aC rfl];go_simp};{have h0:=hst 9;rw[hL]at h0;clear hst;clear uh Gp;have h:=h0;clear h0;go_wp2_with fail;refine(aD B a len cap zs 8 _ h.dr.1).mono ?_;rintro e W0 ⟨y0,rfl,b00,b01,b02,hd⟩;clear b02;(try dsimp only);replace h:=h.drawn hd;clear hd;obtain⟨c0,c1,c2,c3,c4,c5⟩:=h.cells;obtain⟨f0,f1,f2,f3,f4,f5⟩:=h.free;obtain⟨r0,r1,r2,r3,r4,r5⟩:=h.aV;obtain⟨s0,s1,s2,s3,s4,s5⟩:=h.bJ;have ix:=h.ix;dsimp only at c0 c1 c2 c3 c4 c5;have HN:=ae (h.put 2 (.int .i64 y0) ⟨9,0,y0,0,0,[]⟩ rfl rfl);clear h;go_wp2_with fail;have h:=HN.out;clear c0 c1 c2 c3 c4 c5 f0 f1 f2 f3 f4 f5 r0 r1 r2 r3 r4 r5 s0 s1 s2 s3 s4 s5 ix;clear HN;refine(aD B a len cap zs 8 _ h.dr.1).mono ?_;rintro e W1 ⟨y1,rfl,b10,b11,b12,hd⟩;clear b12;(try dsimp only);replace h:=h.drawn hd;clear hd;obtain⟨c0,c1,c2,c3,c4,c5⟩:=h.cells;obtain⟨f0,f1,f2,f3,f4,f5⟩:=h.free;obtain⟨r0,r1,r2,r3,r4,r5⟩:=h.aV;obtain⟨s0,s1,s2,s3,s4,s5⟩:=h.bJ;have ix:=h.ix;dsimp only at c0 c1 c2 c3 c4 c5;have HN:=ae (h.put 3 (.int .i64 y1) ⟨9,0,y0,y1,0,[]⟩ rfl rfl);clear h;go_wp2_with fail;have h:=HN.out;clear c0 c1 c2 c3 c4 c5 f0 f1 f2 f3 f4 f5 r0 r1 r2 r3 r4 r5 s0 s1 s2 s3 s4 s5 ix;clear HN;refine(aD B a len cap zs 9 _ h.dr.1).mono ?_;rintro e W2 ⟨y2,rfl,b20,U6,Ml,hd⟩;clear Ml;(try dsimp only);replace h:=h.drawn hd;clear hd;obtain⟨c0,c1,c2,c3,c4,c5⟩:=h.cells;obtain⟨f0,f1,f2,f3,f4,f5⟩:=h.free;obtain⟨r0,r1,r2,r3,r4,r5⟩:=h.aV;obtain⟨s0,s1,s2,s3,s4,s5⟩:=h.bJ;have ix:=h.ix;dsimp only at c0 c1 c2 c3 c4 c5;have h:=h.put 4 (.int .i64 y2) ⟨9,0,y0,y1,y2,[]⟩ rfl rfl;have HD:=ae (h.done (.int .i64 9) (.int .i64 0) (.int .i64 y0) (.int .i64 y1) (.int .i64 y2) (.slice none 0 0));go_wp2;(try simp only[Exit.inBlock,Exit.then]);refine bodyPost_ret (v:= .agg #[.int .i64 9, .int .i64 0, .int .i64 y0, .int .i64 y1, .int .i64 y2, .slice none 0 0]) ?_ rfl ⟨⟨9,0,y0,y1,y2,[]⟩,(.slice none 0 0),rfl,by simp,HD.out.1,HD.out.2⟩;rw[aC rfl];go_simp};{have h0:=hst 10;rw[hL]at h0;clear hst;clear uh Gp;have h:=h0;clear h0;go_wp2_with fail;refine(aD B a len cap zs 8 _ h.dr.1).mono ?_;rintro e W0 ⟨y0,rfl,b00,b01,b02,hd⟩;clear b02;(try dsimp only);replace h:=h.drawn hd;clear hd;obtain⟨c0,c1,c2,c3,c4,c5⟩:=h.cells;obtain⟨f0,f1,f2,f3,f4,f5⟩:=h.free;obtain⟨r0,r1,r2,r3,r4,r5⟩:=h.aV;obtain⟨s0,s1,s2,s3,s4,s5⟩:=h.bJ;have ix:=h.ix;dsimp only at c0 c1 c2 c3 c4 c5;have h:=h.put 2 (.int .i64 y0) ⟨10,0,y0,0,0,[]⟩ rfl rfl;have HD:=ae (h.done (.int .i64 10) (.int .i64 0) (.int .i64 y0) (.int .i64 0) (.int .i64 0) (.slice none 0 0));go_wp2;(try simp only[Exit.inBlock,Exit.then]);refine bodyPost_ret (v:= .agg #[.int .i64 10, .int .i64 0, .int .i64 y0, .int .i64 0, .int .i64 0, .slice none 0 0]) ?_ rfl ⟨⟨10,0,y0,0,0,[]⟩,(.slice none 0 0),rfl,by simp,HD.out.1,HD.out.2⟩;rw[aC rfl];go_simp};have h0:=hst 11;rw[hL]at h0;clear hst;have h:=h0;clear h0;subst hL;obtain⟨r0,s0⟩:=uh.2 0 _ rfl;obtain⟨r1,s1⟩:=uh.2 1 _ rfl;obtain⟨r2,s2⟩:=uh.2 2 _ rfl;obtain⟨r3,s3⟩:=uh.2 3 _ rfl;obtain⟨r4,s4⟩:=uh.2 4 _ rfl;obtain⟨r5,s5⟩:=uh.2 5 _ rfl;have ix:=uh.1;go_wp2;(try simp only[Exit.inBlock,Exit.then]);refine bodyPost_ret (v:= .agg #[.int .i64 11, .int .i64 0, .int .i64 0, .int .i64 0, .int .i64 0, .slice none 0 0]) ?_ rfl ⟨⟨11,0,0,0,0,[]⟩, .slice none 0 0,rfl,by simp,OI.nil _ _,?_⟩;{rw[aC rfl];go_simp};exact((((((Gp.put hBw ⟨w.heap.size,0,none⟩ (Nat.le_refl _) _).put hBw ⟨w.heap.size,1,none⟩ (Nat.le_refl _) _).put hBw ⟨w.heap.size,2,none⟩ (Nat.le_refl _) _).put hBw ⟨w.heap.size,3,none⟩ (Nat.le_refl _) _).put hBw ⟨w.heap.size,4,none⟩ (Nat.le_refl _) _).put hBw ⟨w.heap.size,5,none⟩ (Nat.le_refl _) _).alloc _
section
open Go.Proofs
def Nk (B L:Nat)(v:Value):Nat->Value->World->Prop
 |0,y,_=>y= .pointer (some ⟨L,5,none⟩)
 |1,y,_=>y=v
 |2,y,x=>∃tb:Nat,B<tb/\tb<x.heap.size/\y= .slice (some ⟨tb,0,none⟩) 3 3/\x.cell? ⟨tb,0,none⟩=some (.int .i64 (-1))/\x.cell? ⟨tb,1,none⟩=some (.int .i64 5)/\x.cell? ⟨tb,2,none⟩=some (.int .i64 40)
 |3,y,_=>y= .pointer (some ⟨B,0,none⟩)
 |4,y,_=>∃p:Int,0<=p/\p<3/\y= .int .i64 p
 |5,y,x=>∃(tb j:Nat),B<tb/\tb<x.heap.size/\y= .pointer (some ⟨tb,j,none⟩)/\∃p:Int,x.cell? ⟨tb,j,none⟩=some (.int .i64 p)
 |6,y,_=>∃p:Int,y= .int .i64 p
 |7,y,x=>∃(tb:Nat)(p:Int),B<tb/\tb<x.heap.size/\y= .slice (some ⟨tb,0,none⟩) 1 1/\x.cell? ⟨tb,0,none⟩=some (.int .i64 p)
 |_,_,_=>True
theorem Nk.fC {B L:Nat}{v:Value}{k:Nat}{y:Value}{x x':World}(hr:x.grownBy x' (some B))(hf:Nk B L v k y x):Nk B L v k y x':=by
 have bS:∀tb j:Nat,B<tb->tb<x.heap.size->x'.cell? ⟨tb,j,none⟩=x.cell? ⟨tb,j,none⟩:=fun tb j h1 h2=>World.grownBy.cell_far hr ⟨tb,j,none⟩ h2 (by simp only[ne_eq,af];omega)
 have hs:=hr.size
 unfold Nk at hf ⊢
 split at hf
 all_goals first
   |exact hf
   |(obtain⟨tb,p,h1,h2,h3,h4⟩:=hf;exact⟨tb,p,h1,by omega,h3,by rw[bS tb 0 h1 h2];exact h4⟩)
   |(obtain⟨tb,p,h1,h2,h3,q,h4⟩:=hf;exact⟨tb,p,h1,by omega,h3,q,by rw[bS tb p h1 h2];exact h4⟩)
   |(obtain⟨tb,h1,h2,h3,h4,h5,h6⟩:=hf;exact⟨tb,h1,by omega,h3,by rw[bS tb 0 h1 h2];exact h4,by rw[bS tb 1 h1 h2];exact h5,by rw[bS tb 2 h1 h2];exact h6⟩)
theorem lT (B:Nat)(a:Option Addr)(len cap:Nat)(zs:List Int)(w:World)(hc:gG w B a len cap zs):Calls Tryz.prog 54 #[.pointer (some ⟨B,0,none⟩)] w fun e w'=>∃(x:Ln)(vl:Value),e= .returned (.agg #[.int .i64 x.k, .int .i64 x.d, .int .i64 x.a, .int .i64 x.b, .int .i64 x.n,vl])/\x.l.length<=4/\OI w' w.heap.size vl x.l/\aM w w' B a len cap zs:=by have hBw:=hc.1;obtain⟨i0,hi,hz0,hz1,hz2⟩:=info_parts yJ;have hd0:=aM.alloc (aM.refl hc) (.cells #[.int .i64 0, .int .i64 0, .int .i64 0, .int .i64 0, .int .i64 0, .slice none 0 0] 59);go_enter Tryz.func54,Tryz.ntmps54;go_wp2_with fail;refine(qB B a len cap zs 9 _ hd0.1).mono ?_;rintro e w1 ⟨⟨xk,xd,xa,xb,xn,xl⟩,vl,rfl,hxl,ho,hd⟩;dsimp only at hxl ho ⊢;have h:=D9.LK ⟨xk,xd,xa,xb,xn,xl⟩ hc hd ho;obtain⟨ad,cv,hvs,-⟩:=h.oi.slice;dsimp only at hvs;subst hvs;clear hc hd hd0 ho;obtain⟨L,hL⟩:∃L,w1.heap.size=L:=⟨_,rfl⟩;rw[hL]at h;dsimp only at h;go_wp2_with fail;refine(cz B a len cap zs 6 _ h.dr.1).mono ?_;rintro e W0 ⟨o,rfl,hd⟩;(try dsimp only);replace h:=h.drawn hd;clear hd hL;cases o;{obtain⟨c0,c1,c2,c3,c4,c5⟩:=h.cells;obtain⟨f0,f1,f2,f3,f4,f5⟩:=h.free;obtain⟨r0,r1,r2,r3,r4,r5⟩:=h.aV;obtain⟨s0,s1,s2,s3,s4,s5⟩:=h.bJ;have ix:=h.ix;dsimp only at c0 c1 c2 c3 c4 c5;have HD:=ae (h.done (.int .i64 xk) (.int .i64 xd) (.int .i64 xa) (.int .i64 xb) (.int .i64 xn) (.slice ad xl.length cv));go_wp2;(try simp only[Exit.inBlock,Exit.then]);refine bodyPost_ret (v:= .agg #[.int .i64 xk, .int .i64 xd, .int .i64 xa, .int .i64 xb, .int .i64 xn, .slice ad xl.length cv]) ?_ rfl ⟨⟨xk,xd,xa,xb,xn,xl⟩,(.slice ad xl.length cv),rfl,Nat.le_trans hxl (by decide),HD.out.1,HD.out.2⟩;rw[aC rfl];go_simp};go_wp2_with fail;refine(aD B a len cap zs 5 _ h.dr.1).mono ?_;rintro e W1 ⟨x,rfl,hx0,hx1,hx2,hd⟩;(try dsimp only);replace h:=h.drawn hd;have hx:x=0\/x=1\/x=2\/x=3\/x=4:=by{omega};clear hx0 hx1 hx2 hd;rcases hx with rfl|rfl|rfl|rfl|rfl;{have h1:=h.kept (aA W1 (.cells #[.int .i64 0, .int .i64 12, .int .i64 (-1)] 2));go_wp2_with fail;refine(aD B a len cap zs 3 _ h1.dr.1).mono ?_;rintro e W2 ⟨y,rfl,hy0,hy1,hy2,hd2⟩;(try dsimp only);have ht:=fun k=>(aM.refl h.dr.1).Od hd2 k;replace h:=h1.drawn hd2;have hy:y=0\/y=1\/y=2:=by{omega};clear hy0 hy1 hy2 hd2 h1;rcases hy with rfl|rfl|rfl;{obtain⟨c0,c1,c2,c3,c4,c5⟩:=h.cells;obtain⟨f0,f1,f2,f3,f4,f5⟩:=h.free;obtain⟨r0,r1,r2,r3,r4,r5⟩:=h.aV;obtain⟨s0,s1,s2,s3,s4,s5⟩:=h.bJ;have ix:=h.ix;dsimp only at c0 c1 c2 c3 c4 c5;replace h:=h.put 0 (.int .i64 (0)) ⟨(0),xd,xa,xb,xn,xl⟩ rfl rfl;have HD:=ae (h.done (.int .i64 (0)) (.int .i64 xd) (.int .i64 xa) (.int .i64 xb) (.int .i64 xn) (.slice ad xl.length cv));go_wp2;(try simp only[Exit.inBlock,Exit.then]);refine bodyPost_ret (v:= .agg #[.int .i64 (0), .int .i64 xd, .int .i64 xa, .int .i64 xb, .int .i64 xn, .slice ad xl.length cv]) ?_ rfl ⟨⟨(0),xd,xa,xb,xn,xl⟩,(.slice ad xl.length cv),rfl,Nat.le_trans hxl (by decide),HD.out.1,HD.out.2⟩;rw[aC rfl];go_simp};{obtain⟨c0,c1,c2,c3,c4,c5⟩:=h.cells;obtain⟨f0,f1,f2,f3,f4,f5⟩:=h.free;obtain⟨r0,r1,r2,r3,r4,r5⟩:=h.aV;obtain⟨s0,s1,s2,s3,s4,s5⟩:=h.bJ;have ix:=h.ix;dsimp only at c0 c1 c2 c3 c4 c5;replace h:=h.put 0 (.int .i64 (12)) ⟨(12),xd,xa,xb,xn,xl⟩ rfl rfl;have HD:=ae (h.done (.int .i64 (12)) (.int .i64 xd) (.int .i64 xa) (.int .i64 xb) (.int .i64 xn) (.slice ad xl.length cv));go_wp2;(try simp only[Exit.inBlock,Exit.then]);refine bodyPost_ret (v:= .agg #[.int .i64 (12), .int .i64 xd, .int .i64 xa, .int .i64 xb, .int .i64 xn, .slice ad xl.length cv]) ?_ rfl ⟨⟨(12),xd,xa,xb,xn,xl⟩,(.slice ad xl.length cv),rfl,Nat.le_trans hxl (by decide),HD.out.1,HD.out.2⟩;rw[aC rfl];go_simp};obtain⟨c0,c1,c2,c3,c4,c5⟩:=h.cells;obtain⟨f0,f1,f2,f3,f4,f5⟩:=h.free;obtain⟨r0,r1,r2,r3,r4,r5⟩:=h.aV;obtain⟨s0,s1,s2,s3,s4,s5⟩:=h.bJ;have ix:=h.ix;dsimp only at c0 c1 c2 c3 c4 c5;replace h:=h.put 0 (.int .i64 (-1)) ⟨(-1),xd,xa,xb,xn,xl⟩ rfl rfl;have HD:=ae (h.done (.int .i64 (-1)) (.int .i64 xd) (.int .i64 xa) (.int .i64 xb) (.int .i64 xn) (.slice ad xl.length cv));go_wp2;(try simp only[Exit.inBlock,Exit.then]);refine bodyPost_ret (v:= .agg #[.int .i64 (-1), .int .i64 xd, .int .i64 xa, .int .i64 xb, .int .i64 xn, .slice ad xl.length cv]) ?_ rfl ⟨⟨(-1),xd,xa,xb,xn,xl⟩,(.slice ad xl.length cv),rfl,Nat.le_trans hxl (by decide),HD.out.1,HD.out.2⟩;rw[aC rfl];go_simp};{have h1:=h.kept (aA W1 (.cells #[.int .i64 (-1), .int .i64 39, .int .i64 40] 2));go_wp2_with fail;refine(aD B a len cap zs 3 _ h1.dr.1).mono ?_;rintro e W2 ⟨y,rfl,hy0,hy1,hy2,hd2⟩;(try dsimp only);have ht:=fun k=>(aM.refl h.dr.1).Od hd2 k;replace h:=h1.drawn hd2;have hy:y=0\/y=1\/y=2:=by{omega};clear hy0 hy1 hy2 hd2 h1;rcases hy with rfl|rfl|rfl;{obtain⟨c0,c1,c2,c3,c4,c5⟩:=h.cells;obtain⟨f0,f1,f2,f3,f4,f5⟩:=h.free;obtain⟨r0,r1,r2,r3,r4,r5⟩:=h.aV;obtain⟨s0,s1,s2,s3,s4,s5⟩:=h.bJ;have ix:=h.ix;dsimp only at c0 c1 c2 c3 c4 c5;replace h:=h.put 1 (.int .i64 (-1)) ⟨xk,(-1),xa,xb,xn,xl⟩ rfl rfl;have HD:=ae (h.done (.int .i64 xk) (.int .i64 (-1)) (.int .i64 xa) (.int .i64 xb) (.int .i64 xn) (.slice ad xl.length cv));go_wp2;(try simp only[Exit.inBlock,Exit.then]);refine bodyPost_ret (v:= .agg #[.int .i64 xk, .int .i64 (-1), .int .i64 xa, .int .i64 xb, .int .i64 xn, .slice ad xl.length cv]) ?_ rfl ⟨⟨xk,(-1),xa,xb,xn,xl⟩,(.slice ad xl.length cv),rfl,Nat.le_trans hxl (by decide),HD.out.1,HD.out.2⟩;rw[aC rfl];go_simp};{obtain⟨c0,c1,c2,c3,c4,c5⟩:=h.cells;obtain⟨f0,f1,f2,f3,f4,f5⟩:=h.free;obtain⟨r0,r1,r2,r3,r4,r5⟩:=h.aV;obtain⟨s0,s1,s2,s3,s4,s5⟩:=h.bJ;have ix:=h.ix;dsimp only at c0 c1 c2 c3 c4 c5;replace h:=h.put 1 (.int .i64 (39)) ⟨xk,(39),xa,xb,xn,xl⟩ rfl rfl;have HD:=ae (h.done (.int .i64 xk) (.int .i64 (39)) (.int .i64 xa) (.int .i64 xb) (.int .i64 xn) (.slice ad xl.length cv));go_wp2;(try simp only[Exit.inBlock,Exit.then]);refine bodyPost_ret (v:= .agg #[.int .i64 xk, .int .i64 (39), .int .i64 xa, .int .i64 xb, .int .i64 xn, .slice ad xl.length cv]) ?_ rfl ⟨⟨xk,(39),xa,xb,xn,xl⟩,(.slice ad xl.length cv),rfl,Nat.le_trans hxl (by decide),HD.out.1,HD.out.2⟩;rw[aC rfl];go_simp};obtain⟨c0,c1,c2,c3,c4,c5⟩:=h.cells;obtain⟨f0,f1,f2,f3,f4,f5⟩:=h.free;obtain⟨r0,r1,r2,r3,r4,r5⟩:=h.aV;obtain⟨s0,s1,s2,s3,s4,s5⟩:=h.bJ;have ix:=h.ix;dsimp only at c0 c1 c2 c3 c4 c5;replace h:=h.put 1 (.int .i64 (40)) ⟨xk,(40),xa,xb,xn,xl⟩ rfl rfl;have HD:=ae (h.done (.int .i64 xk) (.int .i64 (40)) (.int .i64 xa) (.int .i64 xb) (.int .i64 xn) (.slice ad xl.length cv));go_wp2;(try simp only[Exit.inBlock,Exit.then]);refine bodyPost_ret (v:= .agg #[.int .i64 xk, .int .i64 (40), .int .i64 xa, .int .i64 xb, .int .i64 xn, .slice ad xl.length cv]) ?_ rfl ⟨⟨xk,(40),xa,xb,xn,xl⟩,(.slice ad xl.length cv),rfl,Nat.le_trans hxl (by decide),HD.out.1,HD.out.2⟩;rw[aC rfl];go_simp};{have h1:=h.kept (aA W1 (.cells #[.int .i64 (-1), .int .i64 39, .int .i64 40] 2));go_wp2_with fail;refine(aD B a len cap zs 3 _ h1.dr.1).mono ?_;rintro e W2 ⟨y,rfl,hy0,hy1,hy2,hd2⟩;(try dsimp only);have ht:=fun k=>(aM.refl h.dr.1).Od hd2 k;replace h:=h1.drawn hd2;have hy:y=0\/y=1\/y=2:=by{omega};clear hy0 hy1 hy2 hd2 h1;rcases hy with rfl|rfl|rfl;{obtain⟨c0,c1,c2,c3,c4,c5⟩:=h.cells;obtain⟨f0,f1,f2,f3,f4,f5⟩:=h.free;obtain⟨r0,r1,r2,r3,r4,r5⟩:=h.aV;obtain⟨s0,s1,s2,s3,s4,s5⟩:=h.bJ;have ix:=h.ix;dsimp only at c0 c1 c2 c3 c4 c5;replace h:=h.put 2 (.int .i64 (-1)) ⟨xk,xd,(-1),xb,xn,xl⟩ rfl rfl;have HD:=ae (h.done (.int .i64 xk) (.int .i64 xd) (.int .i64 (-1)) (.int .i64 xb) (.int .i64 xn) (.slice ad xl.length cv));go_wp2;(try simp only[Exit.inBlock,Exit.then]);refine bodyPost_ret (v:= .agg #[.int .i64 xk, .int .i64 xd, .int .i64 (-1), .int .i64 xb, .int .i64 xn, .slice ad xl.length cv]) ?_ rfl ⟨⟨xk,xd,(-1),xb,xn,xl⟩,(.slice ad xl.length cv),rfl,Nat.le_trans hxl (by decide),HD.out.1,HD.out.2⟩;rw[aC rfl];go_simp};{obtain⟨c0,c1,c2,c3,c4,c5⟩:=h.cells;obtain⟨f0,f1,f2,f3,f4,f5⟩:=h.free;obtain⟨r0,r1,r2,r3,r4,r5⟩:=h.aV;obtain⟨s0,s1,s2,s3,s4,s5⟩:=h.bJ;have ix:=h.ix;dsimp only at c0 c1 c2 c3 c4 c5;replace h:=h.put 2 (.int .i64 (39)) ⟨xk,xd,(39),xb,xn,xl⟩ rfl rfl;have HD:=ae (h.done (.int .i64 xk) (.int .i64 xd) (.int .i64 (39)) (.int .i64 xb) (.int .i64 xn) (.slice ad xl.length cv));go_wp2;(try simp only[Exit.inBlock,Exit.then]);refine bodyPost_ret (v:= .agg #[.int .i64 xk, .int .i64 xd, .int .i64 (39), .int .i64 xb, .int .i64 xn, .slice ad xl.length cv]) ?_ rfl ⟨⟨xk,xd,(39),xb,xn,xl⟩,(.slice ad xl.length cv),rfl,Nat.le_trans hxl (by decide),HD.out.1,HD.out.2⟩;rw[aC rfl];go_simp};obtain⟨c0,c1,c2,c3,c4,c5⟩:=h.cells;obtain⟨f0,f1,f2,f3,f4,f5⟩:=h.free;obtain⟨r0,r1,r2,r3,r4,r5⟩:=h.aV;obtain⟨s0,s1,s2,s3,s4,s5⟩:=h.bJ;have ix:=h.ix;dsimp only at c0 c1 c2 c3 c4 c5;replace h:=h.put 2 (.int .i64 (40)) ⟨xk,xd,(40),xb,xn,xl⟩ rfl rfl;have HD:=ae (h.done (.int .i64 xk) (.int .i64 xd) (.int .i64 (40)) (.int .i64 xb) (.int .i64 xn) (.slice ad xl.length cv));go_wp2;(try simp only[Exit.inBlock,Exit.then]);refine bodyPost_ret (v:= .agg #[.int .i64 xk, .int .i64 xd, .int .i64 (40), .int .i64 xb, .int .i64 xn, .slice ad xl.length cv]) ?_ rfl ⟨⟨xk,xd,(40),xb,xn,xl⟩,(.slice ad xl.length cv),rfl,Nat.le_trans hxl (by decide),HD.out.1,HD.out.2⟩;rw[aC rfl];go_simp};{have h1:=h.kept (aA W1 (.cells #[.int .i64 (-1), .int .i64 255, .int .i64 256, .int .i64 299, .int .i64 300, .int .i64 13, .int .i64 4] 2));go_wp2_with fail;refine(aD B a len cap zs 7 _ h1.dr.1).mono ?_;rintro e W2 ⟨y,rfl,hy0,hy1,hy2,hd2⟩;(try dsimp only);have ht:=fun k=>(aM.refl h.dr.1).Od hd2 k;replace h:=h1.drawn hd2;have hy:y=0\/y=1\/y=2\/y=3\/y=4\/y=5\/y=6:=by{omega};clear hy0 hy1 hy2 hd2 h1;rcases hy with rfl|rfl|rfl|rfl|rfl|rfl|rfl;{obtain⟨c0,c1,c2,c3,c4,c5⟩:=h.cells;obtain⟨f0,f1,f2,f3,f4,f5⟩:=h.free;obtain⟨r0,r1,r2,r3,r4,r5⟩:=h.aV;obtain⟨s0,s1,s2,s3,s4,s5⟩:=h.bJ;have ix:=h.ix;dsimp only at c0 c1 c2 c3 c4 c5;replace h:=h.put 4 (.int .i64 (-1)) ⟨xk,xd,xa,xb,(-1),xl⟩ rfl rfl;have HD:=ae (h.done (.int .i64 xk) (.int .i64 xd) (.int .i64 xa) (.int .i64 xb) (.int .i64 (-1)) (.slice ad xl.length cv));go_wp2;(try simp only[Exit.inBlock,Exit.then]);refine bodyPost_ret (v:= .agg #[.int .i64 xk, .int .i64 xd, .int .i64 xa, .int .i64 xb, .int .i64 (-1), .slice ad xl.length cv]) ?_ rfl ⟨⟨xk,xd,xa,xb,(-1),xl⟩,(.slice ad xl.length cv),rfl,Nat.le_trans hxl (by decide),HD.out.1,HD.out.2⟩;rw[aC rfl];go_simp};{obtain⟨c0,c1,c2,c3,c4,c5⟩:=h.cells;obtain⟨f0,f1,f2,f3,f4,f5⟩:=h.free;obtain⟨r0,r1,r2,r3,r4,r5⟩:=h.aV;obtain⟨s0,s1,s2,s3,s4,s5⟩:=h.bJ;have ix:=h.ix;dsimp only at c0 c1 c2 c3 c4 c5;replace h:=h.put 4 (.int .i64 (255)) ⟨xk,xd,xa,xb,(255),xl⟩ rfl rfl;have HD:=ae (h.done (.int .i64 xk) (.int .i64 xd) (.int .i64 xa) (.int .i64 xb) (.int .i64 (255)) (.slice ad xl.length cv));go_wp2;(try simp only[Exit.inBlock,Exit.then]);refine bodyPost_ret (v:= .agg #[.int .i64 xk, .int .i64 xd, .int .i64 xa, .int .i64 xb, .int .i64 (255), .slice ad xl.length cv]) ?_ rfl ⟨⟨xk,xd,xa,xb,(255),xl⟩,(.slice ad xl.length cv),rfl,Nat.le_trans hxl (by decide),HD.out.1,HD.out.2⟩;rw[aC rfl];go_simp};{obtain⟨c0,c1,c2,c3,c4,c5⟩:=h.cells;obtain⟨f0,f1,f2,f3,f4,f5⟩:=h.free;obtain⟨r0,r1,r2,r3,r4,r5⟩:=h.aV;obtain⟨s0,s1,s2,s3,s4,s5⟩:=h.bJ;have ix:=h.ix;dsimp only at c0 c1 c2 c3 c4 c5;replace h:=h.put 4 (.int .i64 (256)) ⟨xk,xd,xa,xb,(256),xl⟩ rfl rfl;have HD:=ae (h.done (.int .i64 xk) (.int .i64 xd) (.int .i64 xa) (.int .i64 xb) (.int .i64 (256)) (.slice ad xl.length cv));go_wp2;(try simp only[Exit.inBlock,Exit.then]);refine bodyPost_ret (v:= .agg #[.int .i64 xk, .int .i64 xd, .int .i64 xa, .int .i64 xb, .int .i64 (256), .slice ad xl.length cv]) ?_ rfl ⟨⟨xk,xd,xa,xb,(256),xl⟩,(.slice ad xl.length cv),rfl,Nat.le_trans hxl (by decide),HD.out.1,HD.out.2⟩;rw[aC rfl];go_simp};{obtain⟨c0,c1,c2,c3,c4,c5⟩:=h.cells;obtain⟨f0,f1,f2,f3,f4,f5⟩:=h.free;obtain⟨r0,r1,r2,r3,r4,r5⟩:=h.aV;obtain⟨s0,s1,s2,s3,s4,s5⟩:=h.bJ;have ix:=h.ix;dsimp only at c0 c1 c2 c3 c4 c5;replace h:=h.put 4 (.int .i64 (299)) ⟨xk,xd,xa,xb,(299),xl⟩ rfl rfl;have HD:=ae (h.done (.int .i64 xk) (.int .i64 xd) (.int .i64 xa) (.int .i64 xb) (.int .i64 (299)) (.slice ad xl.length cv));go_wp2;(try simp only[Exit.inBlock,Exit.then]);refine bodyPost_ret (v:= .agg #[.int .i64 xk, .int .i64 xd, .int .i64 xa, .int .i64 xb, .int .i64 (299), .slice ad xl.length cv]) ?_ rfl ⟨⟨xk,xd,xa,xb,(299),xl⟩,(.slice ad xl.length cv),rfl,Nat.le_trans hxl (by decide),HD.out.1,HD.out.2⟩;rw[aC rfl];go_simp};{obtain⟨c0,c1,c2,c3,c4,c5⟩:=h.cells;obtain⟨f0,f1,f2,f3,f4,f5⟩:=h.free;obtain⟨r0,r1,r2,r3,r4,r5⟩:=h.aV;obtain⟨s0,s1,s2,s3,s4,s5⟩:=h.bJ;have ix:=h.ix;dsimp only at c0 c1 c2 c3 c4 c5;replace h:=h.put 4 (.int .i64 (300)) ⟨xk,xd,xa,xb,(300),xl⟩ rfl rfl;have HD:=ae (h.done (.int .i64 xk) (.int .i64 xd) (.int .i64 xa) (.int .i64 xb) (.int .i64 (300)) (.slice ad xl.length cv));go_wp2;(try simp only[Exit.inBlock,Exit.then]);refine bodyPost_ret (v:= .agg #[.int .i64 xk, .int .i64 xd, .int .i64 xa, .int .i64 xb, .int .i64 (300), .slice ad xl.length cv]) ?_ rfl ⟨⟨xk,xd,xa,xb,(300),xl⟩,(.slice ad xl.length cv),rfl,Nat.le_trans hxl (by decide),HD.out.1,HD.out.2⟩;rw[aC rfl];go_simp};{obtain⟨c0,c1,c2,c3,c4,c5⟩:=h.cells;obtain⟨f0,f1,f2,f3,f4,f5⟩:=h.free;obtain⟨r0,r1,r2,r3,r4,r5⟩:=h.aV;obtain⟨s0,s1,s2,s3,s4,s5⟩:=h.bJ;have ix:=h.ix;dsimp only at c0 c1 c2 c3 c4 c5;replace h:=h.put 4 (.int .i64 (13)) ⟨xk,xd,xa,xb,(13),xl⟩ rfl rfl;have HD:=ae (h.done (.int .i64 xk) (.int .i64 xd) (.int .i64 xa) (.int .i64 xb) (.int .i64 (13)) (.slice ad xl.length cv));go_wp2;(try simp only[Exit.inBlock,Exit.then]);refine bodyPost_ret (v:= .agg #[.int .i64 xk, .int .i64 xd, .int .i64 xa, .int .i64 xb, .int .i64 (13), .slice ad xl.length cv]) ?_ rfl ⟨⟨xk,xd,xa,xb,(13),xl⟩,(.slice ad xl.length cv),rfl,Nat.le_trans hxl (by decide),HD.out.1,HD.out.2⟩;rw[aC rfl];go_simp};obtain⟨c0,c1,c2,c3,c4,c5⟩:=h.cells;obtain⟨f0,f1,f2,f3,f4,f5⟩:=h.free;obtain⟨r0,r1,r2,r3,r4,r5⟩:=h.aV;obtain⟨s0,s1,s2,s3,s4,s5⟩:=h.bJ;have ix:=h.ix;dsimp only at c0 c1 c2 c3 c4 c5;replace h:=h.put 4 (.int .i64 (4)) ⟨xk,xd,xa,xb,(4),xl⟩ rfl rfl;have HD:=ae (h.done (.int .i64 xk) (.int .i64 xd) (.int .i64 xa) (.int .i64 xb) (.int .i64 (4)) (.slice ad xl.length cv));go_wp2;(try simp only[Exit.inBlock,Exit.then]);refine bodyPost_ret (v:= .agg #[.int .i64 xk, .int .i64 xd, .int .i64 xa, .int .i64 xb, .int .i64 (4), .slice ad xl.length cv]) ?_ rfl ⟨⟨xk,xd,xa,xb,(4),xl⟩,(.slice ad xl.length cv),rfl,Nat.le_trans hxl (by decide),HD.out.1,HD.out.2⟩;rw[aC rfl];go_simp};go_wp2_with fail;refine dD 8 [44,45,46,47,48,49,50,51] (fun x=>D9 w (w.heap.size+1) L B a len cap zs ⟨xk,xd,xa,xb,xn,xl⟩ (.slice ad xl.length cv) x) (fun x x'=>x.grownBy x' (some B)) (Nk B L (.slice ad xl.length cv)) (by kernel_rfl) (by kernel_rfl) (by simp) (h.kept (Below.refl _ _).drew) (fun k y x x' hr hf=>Nk.fC hr hf) ?_ ?_;{simp only[List.take_succ_cons,List.take_zero];refine⟨?_,?_,?_,?_,?_,?_,?_,?_,trivial⟩;{intro b x hA hfr aT;unfold Oper.wp;generalize hK:(fun(b':Act) (x':World)=>∃y,_/\_)=K;have e3:b.tmps[3]?.getD undef= .pointer (some ⟨L,0,none⟩):=aN (hfr 3 (by decide));simp only[execOp];go_simp;rw[←hK];exact⟨_,rfl,hA,rfl,World.grownBy.refl _ _⟩};{intro b x hA hfr aT;unfold Oper.wp;generalize hK:(fun(b':Act) (x':World)=>∃y,_/\_)=K;have e19:b.tmps[44]?.getD undef= .pointer (some ⟨L,5,none⟩):=aN (aT 0 (by kernel_rfl));have m0:=(hA.bL.2 5 _ rfl).1;simp only[execOp];go_simp;rw[←hK];exact⟨_,rfl,hA,rfl,World.grownBy.refl _ _⟩};{intro b x hA hfr aT;unfold Oper.wp;generalize hK:(fun(b':Act) (x':World)=>∃y,_/\_)=K;simp only[execOp];go_simp;rw[←hK];have hbt:=aA x (.cells #[.int .i64 (-1), .int .i64 5, .int .i64 40] 2);exact⟨_,rfl,hA.kept hbt,⟨x.heap.size,by have:=hA.ix;omega,by simp,rfl,by simp,by simp,by simp⟩,World.grownBy_alloc x _ _⟩};{intro b x hA hfr aT;unfold Oper.wp;generalize hK:(fun(b':Act) (x':World)=>∃y,_/\_)=K;have e0:b.tmps[0]?.getD undef= .pointer (some ⟨B,0,none⟩):=aN (hfr 0 (by decide));simp only[execOp];go_simp;rw[←hK];exact⟨_,rfl,hA,rfl,World.grownBy.refl _ _⟩};{intro b x hA hfr aT;unfold Oper.wp;generalize hK:(fun(b':Act) (x':World)=>∃y,_/\_)=K;have e21:b.tmps[47]?.getD undef= .pointer (some ⟨B,0,none⟩):=aN (aT 3 (by kernel_rfl));simp only[execOp];go_simp;refine(aD B a len cap zs 3 x hA.dr.1).mono ?_;rintro e w' ⟨y,rfl,y0,ym,y1,hd⟩;rw[←hK];exact⟨_,rfl,hA.drawn hd,⟨y,y0,by omega,rfl⟩,hd.2⟩};{intro b x hA hfr aT;unfold Oper.wp;generalize hK:(fun(b':Act) (x':World)=>∃y,_/\_)=K;obtain⟨tb,t1,t2,q2,t3,t4,t5⟩:=aT 2 (by kernel_rfl);obtain⟨p,p0,p1,q1⟩:=aT 4 (by kernel_rfl);have e46:b.tmps[46]?.getD undef= .slice (some ⟨tb,0,none⟩) 3 3:=by{simpa[Act.eval]using q2};have e48:b.tmps[48]?.getD undef= .int .i64 p:=by{simpa[Act.eval]using q1};obtain⟨pn,rfl⟩:∃pn:Nat,p=pn:=⟨p.toNat,by omega⟩;simp only[execOp];go_simp;rw[←hK];refine⟨_,rfl,hA,⟨tb,pn,t1,t2,rfl,?_⟩,World.grownBy.refl _ _⟩;have:pn=0\/pn=1\/pn=2:=by{omega};rcases this with rfl|rfl|rfl;{exact⟨_,t3⟩};{exact⟨_,t4⟩};exact⟨_,t5⟩};{intro b x hA hfr aT;unfold Oper.wp;generalize hK:(fun(b':Act) (x':World)=>∃y,_/\_)=K;obtain⟨tb,pn,t1,t2,q2,p,t3⟩:=aT 5 (by kernel_rfl);have e49:b.tmps[49]?.getD undef= .pointer (some ⟨tb,pn,none⟩):=by{simpa[Act.eval]using q2};simp only[execOp];go_simp;rw[←hK];exact⟨_,rfl,hA,⟨p,rfl⟩,World.grownBy.refl _ _⟩};intro b x hA hfr aT;unfold Oper.wp;generalize hK:(fun(b':Act) (x':World)=>∃y,_/\_)=K;obtain⟨p,q1⟩:=aT 6 (by kernel_rfl);have e22:b.tmps[50]?.getD undef= .int .i64 p:=by{simpa[Act.eval]using q1};simp only[execOp];go_simp;rw[←hK];have hbt:=aA x (.cells #[.int .i64 p] 2);exact⟨_,rfl,hA.kept hbt,⟨x.heap.size,p,by have:=hA.ix;omega,by simp,rfl,one_cell x p 2⟩,World.grownBy_alloc x _ _⟩};intro b x hA hF hb;have e45:b.eval (.tmp 45)= .slice ad xl.length cv:=hF 1 (by decide);obtain⟨tb,p,t1,t2,e51,t4⟩:=hF 7 (by decide);have e51:b.eval (.tmp 51)= .slice (some ⟨tb,0,none⟩) 1 1:=e51;obtain⟨z44,e44⟩:∃z,b.eval (.tmp 44)=z:=⟨_,rfl⟩;obtain⟨z46,e46⟩:∃z,b.eval (.tmp 46)=z:=⟨_,rfl⟩;obtain⟨z47,e47⟩:∃z,b.eval (.tmp 47)=z:=⟨_,rfl⟩;obtain⟨z48,e48⟩:∃z,b.eval (.tmp 48)=z:=⟨_,rfl⟩;obtain⟨z49,e49⟩:∃z,b.eval (.tmp 49)=z:=⟨_,rfl⟩;obtain⟨z50,e50⟩:∃z,b.eval (.tmp 50)=z:=⟨_,rfl⟩;simp only[List.foldl,e44,e45,e46,e47,e48,e49,e50,e51]at hb;clear hF e44 e45 e46 e47 e48 e49 e50 e51;subst hb;simp only[Act.put,List.setIfInBounds_toArray,List.set_cons_succ,List.set_cons_zero,List.drop_succ_cons,List.drop_zero];have hix:=hA.ix;have HA:=ae hA;have HC:=ae (uJ t4);have hrow:x.ownsRow (w.heap.size+1) 2 1 (.slice ad xl.length cv) xl.length (xl.map iv):=hA.oi;have HR:=ae hrow;clear h hA t4 hrow;go_wp2_with(at_builtin;refine EF ?_);unfold Hid;refine wpList_append_own_at x rfl (.tmp 45) (.tmp 51) 26 rfl (w.heap.size+1) 2 i0 (.int .i64 0) 1 8 Tryz.underlying26 hi hz0 hz1 hz2 rfl (by decide) (.slice ad xl.length cv) xl.length (xl.map iv) rfl HR.out ⟨tb,0,none⟩ 1 1 [.int .i64 p] rfl rfl HC.out (by simp[Value.oneCell']) (by simp only[maxLen];omega) (by omega) (by omega) ?_;intro v' wA hown' hgrow _ hat;obtain⟨g',cap',rfl⟩:=ownsRow_succ hown';have h:D9 w (w.heap.size+1) L B a len cap zs ⟨xk,xd,xa,xb,xn,xl++[p]⟩ (.slice (some ⟨g',0,none⟩) (xl.length+1) cap') (wA.setCell ⟨L,5,none⟩ (.slice (some ⟨g',0,none⟩) (xl.length+1) cap')):=by{refine HA.out.app (n:=p) hgrow ?_ ?_;{unfold OI;simpa[iv]using hown'};intro g hg;rcases hat with e|e;{exact HA.out.ne g (by rw[←e];exact hg)};rw[e]at hg;cases hg;omega};have pF:=HA.out.bL.bS hgrow (fun e=>HA.out.ne _ e rfl);have hbR:=HA.out.bR.bS hgrow (fun e=>by have:=(World.ownsRow.lt HR.out _ e).1;omega);obtain⟨c0,f0⟩:=pF.2 0 _ rfl;obtain⟨c1,f1⟩:=pF.2 1 _ rfl;obtain⟨c2,f2⟩:=pF.2 2 _ rfl;obtain⟨c3,f3⟩:=pF.2 3 _ rfl;obtain⟨c4,f4⟩:=pF.2 4 _ rfl;obtain⟨c5,f5⟩:=pF.2 5 _ rfl;obtain⟨r0,s0⟩:=hbR.2 0 _ rfl;obtain⟨r1,s1⟩:=hbR.2 1 _ rfl;obtain⟨r2,s2⟩:=hbR.2 2 _ rfl;obtain⟨r3,s3⟩:=hbR.2 3 _ rfl;obtain⟨r4,s4⟩:=hbR.2 4 _ rfl;obtain⟨r5,s5⟩:=hbR.2 5 _ rfl;dsimp only at c0 c1 c2 c3 c4;have ix:=HA.out.ix;clear hown' hgrow pF hbR hat;have HD:=ae (h.done (.int .i64 xk) (.int .i64 xd) (.int .i64 xa) (.int .i64 xb) (.int .i64 xn) (.slice (some ⟨g',0,none⟩) (xl.length+1) cap'));go_wp2;(try simp only[Exit.inBlock,Exit.then]);refine bodyPost_ret (v:= .agg #[.int .i64 xk, .int .i64 xd, .int .i64 xa, .int .i64 xb, .int .i64 xn, .slice (some ⟨g',0,none⟩) (xl.length+1) cap']) ?_ rfl ⟨⟨xk,xd,xa,xb,xn,xl++[p]⟩,(.slice (some ⟨g',0,none⟩) (xl.length+1) cap'),rfl,by simp only[List.length_append,List.length_cons,List.length_nil];omega,HD.out.1,HD.out.2⟩;rw[aC rfl];go_simp
end
namespace aG
theorem Inv.uT {xs:List (Int×Int)}:∀(f k:Nat)(E O:List Int)(S:List Nat){Ef Of:List Int},Inv xs k E O S->go xs f k E O S=(Ef,Of,true)->
   ∀j,j<k->(j∉S\/0<=aU O j)->aU Of j=aU O j
 |0,k,E,O,S,Ef,Of,h,hgo=>by simp[go]at hgo
 | f + 1, k, E,O,S,Ef,Of,h,hgo=>by
   intro j hj hjs
   by_cases hk:xs.length<=k
   · rw[oG hk]at hgo;simp at hgo
   have hk:k<xs.length:=by omega
   rcases ho:St.opens (op xs k)with _|_
   · by_cases h11:op xs k=11
     · rcases S with _|⟨t,S'⟩
       · rw[jv hk ho h11]at hgo;simp at hgo
       · by_cases h2:op xs t=10/\aU O t<0
         · rw[jf hk ho h11 h2]at hgo
           have hjt:j≠t:=by
             rintro rfl
             rcases hjs with q|q
             · exact q (by simp)
             · omega
           have hset:aU (O.set t (k:Int)) j=aU O j:=by
             unfold aU
             rw[ah,List.getElem?_set_ne (by omega),←ah]
           rw[Inv.uT f (k+1) E _ _ (h.LF hk h11 h2.1 h2.2) hgo j (by omega) (by rw[hset];exact hjs),hset]
         · rw[ib hk ho h11 h2]at hgo;simp at hgo
     · by_cases h12:op xs k=12
       · rcases S with _|⟨t,S'⟩
         · rw[lC hk ho h11 h12]at hgo
           simp only[Prod.mk.injEq]at hgo
           rw[hgo.2.1]
         · rw[jh hk ho h11 h12]at hgo
           refine Inv.uT f (k+1) _ _ _ (h.Nh hk h12) hgo j (by omega) ?_
           rcases hjs with q|q
           · exact .inl (fun h=>q (List.mem_cons_of_mem _ h))
           · exact .inr q
       · rw[jy hk ho h11 h12]at hgo
         exact Inv.uT f (k+1) _ _ _ (h.other hk ho h11) hgo j (by omega) hjs
   · rw[jd hk ho]at hgo
     refine Inv.uT f (k+1) _ _ _ (h.push hk ho) hgo j (by omega) ?_
     rcases hjs with q|q
     · exact .inl (by rw[List.mem_cons,not_or];exact⟨by omega,q⟩)
     · exact .inr q
theorem Inv.OA {xs:List (Int×Int)}{f k t:Nat}{E O:List Int}{S:List Nat}{Ef Of:List Int}(h:Inv xs k E O (t::S))(hk:k<xs.length)(h12:op xs k=12)(hgo:go xs f (k+1) (close E O t k) O S=(Ef,Of,true)):aU Ef t=k:=by obtain⟨-,b,-⟩:=Inv.gX f (k+1) _ _ _ (h.Nh hk h12) hgo;have htk:=h.st t (by simp);have lJ:=List.pairwise_cons.1 h.Nn;have Np:aU O t<k:=by{by_cases e:0<=aU O t;{exact(h.oo t e).2.2.1};omega};have We:=h.lE;rw[b t (by omega) htk.2.1 (fun q=>by have:=lJ.1 t q;omega),nY (by omega) (by omega),ay (Or.inl rfl)]
end aG
namespace Hg
theorem Dj {fs:List Fn}{f:Fn}{o p a h mo:Int}{x:di}{S:List di}{r:Int×Int×List di}(h1:one fs f o p a h mo (x::S)=some r):bad fs f o (S.length+1) p a=false/\((0<=h/\tk fs p a<=h-x.st/\dU f p a (h-tk fs p a+pt fs p a) (mx mo (h-tk fs p a+pt fs p a)) x S=some r)\/(h<0/\dU f p a h mo x S=some r)):=by rcases hb:bad fs f o (S.length+1) p a with _|_;{refine⟨rfl,?_⟩;by_cases h0:0<=h;{by_cases h2:h-x.st<tk fs p a;{rw[dH hb h0 h2]at h1;cases h1};rw[iq hb h0 h2]at h1;exact .inl ⟨h0,by omega,h1⟩};rw[ze hb (by omega)]at h1;exact .inr ⟨by omega,h1⟩};rw[iM hb]at h1;cases h1
theorem FO {fs:List Fn}{f:Fn}{O:List Int}:∀(n i:Nat)(h mo:Int)(S:List di)(out:List Int){out':List Int}{fe:Int},go fs f O n i h mo S out=some (out',fe)->
   ∃hs:List Int,out'=out++hs/\hs.length=n/\(0<n->hs.getD 0 0=h)
 | 0,i,h,mo,S,out,out',fe,e=>by
   unfold go at e
   cases e
   exact⟨[],by simp,rfl,fun h=>by omega⟩
 | n +1,i,h,mo,S,out,out',fe,e=>by
   unfold go at e
   rcases e1:one fs f (O.getD i (-1)) (aG.op f.b i) (f.b.getD i (0,0)).2 h mo S with _|⟨h',Gn,S'⟩
   · rw[e1]at e;cases e
   · rw[e1]at e
     obtain⟨hs,r1,r2,r3⟩:=FO n (i+1) h' Gn S' (out++[h]) e
     exact⟨h::hs,by rw[r1,List.append_assoc];rfl,by simp[r2],fun _=>rfl⟩
theorem JW {fs:List Fn}{f:Fn}{O:List Int}{n i:Nat}{h mo:Int}{S:List di}{out H:List Int}{fe:Int}(e:go fs f O (n+1) i h mo S out=some (H,fe))(hl:out.length=i):H.getD i 0=h:=by obtain⟨hs,rfl,r2,r3⟩:=FO _ _ _ _ _ _ e;rw[ah,List.getElem?_append_right (by omega),hl,Nat.sub_self,←ah];exact r3 (by omega)
def Ms:Int->List di->Prop
 |_,[]=>True
 |h,x::S=>(0<=h->0<=x.st/\x.st<=h)/\Ms x.st S
theorem Ms.mono {h h':Int}{S:List di}(H:Ms h S)(hh:0<=h'->0<=h/\h<=h'):Ms h' S:=by
 cases S with
 |nil=>trivial
 |cons x S=>exact⟨fun e=>by have:=hh e;have:=H.1 this.1;omega,H.2⟩
theorem Ms.all:∀{h:Int}{S:List di},Ms h S->0<=h->∀x∈S,0<=x.st/\x.st<=h
 |h,[],_,_,x,hx=>by cases hx
 | h,y::S,H,h0,x,hx=>by
   have hy:=H.1 h0
   rcases List.mem_cons.1 hx with rfl|hx
   · exact hy
   · have:=Ms.all H.2 hy.1 x hx
     omega
def jZ (H:List Int)(b:List (Int×Int))(t:Nat):Int:=if 0<=H.getD t 0 then H.getD t 0-(if aG.op b t=10 then 1 else 0)else H.getD t 0
def arg (b:List (Int×Int))(t:Nat):Int:=(b.getD t (0,0)).2
def wo (H:List Int)(b:List (Int×Int))(t:Nat):di:=⟨jZ H b t,arg b t,decide (0<=jZ H b t)⟩
def JQ (H E:List Int)(b:List (Int×Int))(t:Nat):Prop:=0<=aG.aU E t/\(aG.aU E t).toNat+1<b.length/\H.getD ((aG.aU E t).toNat+1) 0=if 0<=jZ H b t then jZ H b t+arg b t else -1
def Ld (H O:List Int)(b:List (Int×Int))(t:Nat):Prop:=(aG.aU O t).toNat+1<b.length/\H.getD ((aG.aU O t).toNat+1) 0=if 0<=jZ H b t then jZ H b t else -1
def qQ (f:Fn)(E H:List Int)(j:Nat)(h a:Int):Prop:=
 (a.toNat<(aG.cK f.b E j j).length->∃t:Nat,(aG.cK f.b E j j).getD a.toNat (-1)=(t:Int)/\t<j/\St.opens (aG.op f.b t)=true/\0<=H.getD t 0/\0<=jZ H f.b t/\jZ H f.b t+arg f.b t<=h/\JQ H E f.b t/\(t+1<f.b.length/\H.getD (t+1) 0=jZ H f.b t))/\
 (¬a.toNat<(aG.cK f.b E j j).length->f.g<=h)
structure Typed (fs:List Fn)(f:Fn)(E O H:List Int)(j:Nat):Prop where
 take:tk fs (aG.op f.b j) (arg f.b j)<=H.getD j 0
 next:aG.op f.b j≠11->aG.op f.b j≠12->aG.op f.b j≠13->aG.op f.b j≠15->aG.op f.b j≠19->j+1<f.b.length/\H.getD (j+1) 0=H.getD j 0-tk fs (aG.op f.b j) (arg f.b j)+pt fs (aG.op f.b j) (arg f.b j)
 last:aG.op f.b j=12->(j+1=f.b.length/\H.getD j 0=f.g)\/(j+1<f.b.length/\H.getD (j+1) 0=H.getD j 0)
 LF:aG.op f.b j=11->0<=aG.aU E j/\(aG.aU E j).toNat+1<f.b.length/\H.getD ((aG.aU E j).toNat+1) 0=H.getD j 0
 iff:aG.op f.b j=10->(0<=aG.aU O j/\(aG.aU O j).toNat+1<f.b.length/\H.getD ((aG.aU O j).toNat+1) 0=H.getD j 0-1)\/(aG.aU O j<0/\0<=aG.aU E j/\(aG.aU E j).toNat+1<f.b.length/\H.getD ((aG.aU E j).toNat+1) 0=H.getD j 0-1)
 jump:aG.op f.b j=13->qQ f E H j (H.getD j 0) (arg f.b j)
 jif:aG.op f.b j=14->qQ f E H j (H.getD j 0-1) (arg f.b j)
 ret:aG.op f.b j=15->f.g<=H.getD j 0
 loc:aG.op f.b j=2\/aG.op f.b j=3\/aG.op f.b j=4->arg f.b j<f.a+f.l
 call:aG.op f.b j=16->arg f.b j<fs.length
 bS:aG.op f.b j=13\/aG.op f.b j=14->(arg f.b j).toNat<=(aG.cK f.b E j j).length
end Hg
namespace aG
theorem xU {xs:List (Int×Int)}{f k:Nat}{E O Ef Of:List Int}{S:List Nat}(h:go xs f k E O S=(Ef,Of,true)):k<xs.length:=by
 cases f with
 |zero=>simp[go]at h
 |succ f=>
  by_cases hk:xs.length<=k
  · rw[oG hk]at h;simp at h
  · omega
end aG
namespace Hg
theorem Lr {fs:List Fn}(hgs:∀k,0<=(fs.getD k .z).g)(p a:Int):0<=pt fs p a:=by unfold pt;have:=hgs a.toNat;split;{omega};split;{omega};split;{omega};split;{exact this};omega
theorem xg {H:List Int}{b:List (Int×Int)}{P:List Nat}{z:di}{a:Int}{t:Nat}(h:P[a.toNat]?=some t):dX (P.map (wo H b)++[z]) a=arg b t:=by unfold dX;have hlt:a.toNat<(P.map (wo H b)).length:=by{rw[List.length_map];exact(List.getElem?_eq_some_iff.1 h).1};rw[ah,List.getElem?_append_left hlt,List.getElem?_map,h];rfl
theorem Ir {H:List Int}{b:List (Int×Int)}{P:List Nat}{z:di}{a:Int}(h:a.toNat=P.length):dX (P.map (wo H b)++[z]) a=z.wd:=by unfold dX;rw[ah,List.getElem?_append_right (by rw[List.length_map];omega),List.length_map,h,Nat.sub_self];rfl
theorem FY {fs:List Fn} {f:Fn} {E O H:List Int} {fe:Int} (Jf:∀t,t<f.b.length->St.ok (aG.op f.b t) (arg f.b t)=true) (hgs:∀k,0<=(fs.getD k .z).g) (hfg:0<=f.g):∀(n i fuel:Nat)(h mo:Int)(S:List di)(out Ei Oi:List Int)(P:List Nat),i+n=f.b.length->go fs f O n i h mo S out=some (H,fe)->out.length=i->aG.go f.b fuel i Ei Oi P=(E,O,true)->aG.Inv f.b i Ei Oi P->S=P.map (wo H f.b)++[⟨0,f.g,true⟩]->Ms h S->(∀t∈P,t+1<f.b.length/\H.getD (t+1) 0=jZ H f.b t)->(∀t∈P,JQ H E f.b t)/\(∀t∈P,aG.aU Oi t<0->0<=aG.aU O t->Ld H O f.b t)/\∀j,i<=j->j<f.b.length->0<=H.getD j 0->Typed fs f E O H j:=by
 intro n
 induction n with
 |zero=>
  intro i fuel h mo S out Ei Oi P hi _ _ hn _ _ _
  exact absurd (aG.xU hn) (by omega)
 | succ n ih=>
  intro i fuel h mo S out Ei Oi P hi e hl hn inv hS hM hB
  have hlt:i<f.b.length:=by omega
  have hHi:=JW e hl
  have hok:=Jf i hlt
  have ha0:0<=arg f.b i:=by simp only[St.ok,au,Wd.dh]at hok;(have:0<=St.least (aG.op f.b i):=by unfold St.least;split<;>omega);omega
  have har:=aG.Inv.Ey inv hn
  have LV:S.length=P.length+1:=by rw[hS];simp
  unfold go at e
  rcases e1:one fs f (O.getD i (-1)) (aG.op f.b i) (f.b.getD i (0,0)).2 h mo S with _|⟨h',Gn,S'⟩
  · rw[e1]at e;cases e
  rw[e1]at e
  simp only at e
  have hl':(out++[h]).length=i+1:=by simp[hl]
  have hnext:i+1<f.b.length->H.getD (i+1) 0=h':=fun hh=>by obtain⟨m,rfl⟩:∃m,n=m+1:=⟨n-1,by omega⟩;exact JW e hl'
  obtain⟨x,S0,lN⟩:∃x S0,S=x::S0:=by
   cases S with
   |nil=>simp at LV
   |cons x S0=>exact⟨x,S0,rfl⟩
  have e1':=e1
  rw[lN]at e1
  obtain⟨hbad,hcase⟩:=Dj e1
  have hS0:S0.length=P.length:=by rw[lN]at LV;simpa using LV
  have hM':=hM
  rw[lN]at hM'
  have aeT:0<=x.wd:=by
   cases P with
   |nil=>
    rw[hS]at lN
    simp at lN
    rw[←lN.1]
    exact hfg
   |cons t P'=>
    rw[hS]at lN
    simp at lN
    rw[←lN.1]
    have htl:t<f.b.length:=by have:=(inv.st t (by simp)).1;omega
    have:=Jf t htl
    simp only[St.ok,au,Wd.dh]at this
    have h0:0<=St.least (aG.op f.b t):=by unfold St.least;split<;>omega
    show 0<=arg f.b t
    omega
  have aai:=Lr hgs (aG.op f.b i) (f.b.getD i (0,0)).2
  have SS:(f.b.getD i (0,0)).2=arg f.b i:=rfl
  rw[SS]at hcase hbad aai e1 e1'
  have hloc:aG.op f.b i=2\/aG.op f.b i=3\/aG.op f.b i=4->arg f.b i<f.a+f.l:=fun hp=>by simp only[bad,Bool.or_eq_false_iff,decide_eq_false_iff_not]at hbad;have:=hbad.1.1.1;omega
  have Gq:aG.op f.b i=16->arg f.b i<fs.length:=fun hp=>by simp only[bad,Bool.or_eq_false_iff,decide_eq_false_iff_not]at hbad;have:=hbad.1.1.2;omega
  have hjl:aG.op f.b i=13\/aG.op f.b i=14->(arg f.b i).toNat<=P.length:=fun hp=>by simp only[bad,Bool.or_eq_false_iff,decide_eq_false_iff_not]at hbad;have:=hbad.1.2;omega
  have Gr:aG.op f.b i=13\/aG.op f.b i=14->(arg f.b i).toNat<=(aG.cK f.b E i i).length:=fun hp=>by rw[har];simpa[iW]using hjl hp
  have htk:0<=h->tk fs (aG.op f.b i) (arg f.b i)<=h:=fun h0=>by rcases hcase with⟨_,h2,_⟩|⟨h2,_⟩;{have:=hM'.1 h0;omega};omega
  cases fuel with
  |zero=>simp[aG.go]at hn
  |succ fu=>
  rcases ho:St.opens (aG.op f.b i)with _|_
  · by_cases h11:aG.op f.b i=11
    ·
      rcases P with _|⟨t,P'⟩
      · rw[aG.jv hlt ho h11]at hn;simp at hn
      by_cases h2n:¬(aG.op f.b t=10/\aG.aU Oi t<0)
      · rw[aG.ib hlt ho h11 h2n]at hn;simp at hn
      have h2:=Classical.not_not.1 h2n
      rw[aG.jf hlt ho h11 h2]at hn
      have hlt1:=aG.xU hn
      have zB:=inv.LF hlt h11 h2.1 h2.2
      have hx:x=wo H f.b t:=by rw[hS]at lN;simp at lN;exact lN.1.symm
      obtain⟨k1,k2⟩:=ry (fs:=fs) (a:=arg f.b i) (show aG.op f.b i=13\/aG.op f.b i=15\/aG.op f.b i=19\/aG.op f.b i=11\/aG.op f.b i=12 by omega)
      have zC:∀hh mm,dU f (aG.op f.b i) (arg f.b i) hh mm x S0=some (h',Gn,S')->(0<=hh->hh-x.st=x.wd)/\h'=(if x.cm=true then x.st else -1)/\S'=S:=by
        intro hh mm h3
        unfold dU at h3
        rw[ax (by omega),ax (by omega),ax (by omega),ax (by omega),ay h11]at h3
        split at h3
        · cases h3
        · rename_i hc
          simp only[af,Prod.mk.injEq]at h3
          obtain⟨q1,-,q3⟩:=h3
          refine⟨fun h0=>?_,q1.symm,by rw[←q3,lN]⟩
          by_cases hq:hh-x.st=x.wd
          · exact hq
          · exact absurd ⟨h0,hq⟩ hc
      obtain⟨q1,q2,q3⟩:(0<=h->h-x.st=x.wd)/\h'=(if x.cm=true then x.st else -1)/\S'=S:=by
        rcases hcase with⟨h0,_,h3⟩|⟨h0,h3⟩
        · have:=zC _ _ h3
          rw[k1,k2]at this
          exact⟨fun h=>by have:=this.1 (by omega);omega,this.2⟩
        · have:=zC _ _ h3
          exact⟨fun h=>by omega,this.2⟩
      have hcm:x.cm=decide (0<=x.st):=by rw[hx];rfl
      have hxs:x.st=jZ H f.b t:=by rw[hx];rfl
      have hh':h'=if 0<=jZ H f.b t then jZ H f.b t else -1:=by
        rw[q2,hcm,hxs]
        by_cases hz:0<=jZ H f.b t
        · rw[ay (decide_eq_true hz),ay hz]
        · rw[ax (by simpa using hz),ax hz]
      have hMs:Ms h' S':=by
        rw[q3,lN]
        refine⟨fun h0=>?_,hM'.2⟩
        rw[hxs]
        by_cases hz:0<=jZ H f.b t
        · rw[ay hz]at hh';omega
        · rw[ax hz]at hh';omega
      obtain⟨i1,i2,i3⟩:=ih (i+1) fu h' Gn S' (out++[h]) Ei (Oi.set t (i:Int)) (t::P') (by omega) e hl' hn zB (by rw[q3,hS]) hMs hB
      have hOl:=inv.lO
      have htl:t<i:=(inv.st t (by simp)).1
      have Ki:aG.aU (Oi.set t (i:Int)) t=i:=by
        unfold aG.aU
        rw[ah,List.getElem?_set_self (by omega)]
        rfl
      have Np:aG.aU O t=i:=by
        have:=aG.Inv.uT fu (i+1) Ei _ _ zB hn t (by omega) (.inr (by rw[Ki];omega))
        rw[this,Ki]
      have hnx:=hnext hlt1
      refine⟨i1,fun t' ht' hneg hpos=>?_,fun j hj zD h0=>?_⟩
      · by_cases et:t'=t
        · subst et
          refine⟨by rw[Np];simpa using hlt1,?_⟩
          rw[Np,az,hnx,hh']
        · refine i2 t' ht' ?_ hpos
          unfold aG.aU at hneg ⊢
          rw[ah,List.getElem?_set_ne (by omega),←ah]
          exact hneg
      · by_cases ej:j=i
        · subst ej
          rw[hHi]at h0
          obtain⟨m,hm1,hm2,SV⟩:=(aG.Inv.gX fu (j+1) Ei _ _ zB hn).1
          have hjm:j<m:=by
            rcases Nat.lt_or_ge j m with q|q
            · exact q
            · have:j=m:=by omega
              subst this
              omega
          obtain⟨t2,b1,b2,b3,b4⟩:=SV.el j hjm h11
          have:t2=t:=SV.inj t2 t (by omega) (by omega)
          subst this
          obtain⟨a1,a2,a3⟩:=i1 t2 (by simp)
          have DW:=(hM'.1 h0).1
          have hqq:=q1 h0
          have hxw:x.wd=arg f.b t2:=by rw[hx];rfl
          rw[ay (by omega)]at a3
          refine⟨by rw[hHi];exact htk h0,fun h=>absurd h11 h,fun h=>by omega,fun _=>⟨by omega,by rw[b4];exact a2,by rw[b4,a3,hHi];omega⟩,fun h=>by omega,fun h=>by omega,fun h=>by omega,fun h=>by omega,hloc,Gq,Gr⟩
        · exact i3 j (by omega) zD h0
    · by_cases h12:aG.op f.b i=12
      ·
        obtain⟨k1,k2⟩:=ry (fs:=fs) (a:=arg f.b i) (show aG.op f.b i=13\/aG.op f.b i=15\/aG.op f.b i=19\/aG.op f.b i=11\/aG.op f.b i=12 by omega)
        have zC:∀hh mm,dU f (aG.op f.b i) (arg f.b i) hh mm x S0=some (h',Gn,S')->(0<=hh->hh-x.st=x.wd)/\h'=(if x.cm=true then x.st+x.wd else -1)/\S'=S0:=by
          intro hh mm h3
          unfold dU at h3
          rw[ax (by omega),ax (by omega),ax (by omega),ax (by omega),ax h11,ay h12]at h3
          split at h3
          · cases h3
          · rename_i hc
            simp only[af,Prod.mk.injEq]at h3
            obtain⟨q1,-,q3⟩:=h3
            refine⟨fun h0=>?_,q1.symm,q3.symm⟩
            by_cases hq:hh-x.st=x.wd
            · exact hq
            · exact absurd ⟨h0,hq⟩ hc
        obtain⟨q1,q2,q3⟩:(0<=h->h-x.st=x.wd)/\h'=(if x.cm=true then x.st+x.wd else -1)/\S'=S0:=by
          rcases hcase with⟨h0,_,h3⟩|⟨h0,h3⟩
          · have:=zC _ _ h3
            rw[k1,k2]at this
            exact⟨fun h=>by have:=this.1 (by omega);omega,this.2⟩
          · have:=zC _ _ h3
            exact⟨fun h=>by omega,this.2⟩
        rcases P with _|⟨t,P'⟩
        · rw[aG.lC hlt ho h11 h12]at hn
          simp only[Prod.mk.injEq,decide_eq_true_eq]at hn
          have hx:x=⟨0,f.g,true⟩:=by rw[hS]at lN;simp at lN;exact lN.1.symm
          refine⟨by simp,by simp,fun j hj zD h0=>?_⟩
          obtain rfl:j=i:=by omega
          rw[hHi]at h0
          have hqq:=q1 h0
          rw[hx]at hqq
          simp only at hqq
          exact⟨by rw[hHi];exact htk h0,fun _ h=>absurd h12 h,fun _=> .inl ⟨hn.2.2,by rw[hHi];omega⟩,fun h=>by omega,fun h=>by omega,fun h=>by omega,fun h=>by omega,fun h=>by omega,hloc,Gq,Gr⟩
        · rw[aG.jh hlt ho h11 h12]at hn
          have hlt1:=aG.xU hn
          have zB:=inv.Nh hlt h12
          have hx:x=wo H f.b t:=by rw[hS]at lN;simp at lN;exact lN.1.symm
          have aaj:S0=P'.map (wo H f.b)++[⟨0,f.g,true⟩]:=by rw[hS]at lN;simp at lN;exact lN.2.symm
          have hcm:x.cm=decide (0<=x.st):=by rw[hx];rfl
          have hxs:x.st=jZ H f.b t:=by rw[hx];rfl
          have hxw:x.wd=arg f.b t:=by rw[hx];rfl
          have hh':h'=if 0<=jZ H f.b t then jZ H f.b t+arg f.b t else -1:=by
            rw[q2,hcm,hxs,hxw]
            by_cases hz:0<=jZ H f.b t
            · rw[ay (decide_eq_true hz),ay hz]
            · rw[ax (by simpa using hz),ax hz]
          have hMs:Ms h' S':=by
            rw[q3]
            refine hM'.2.mono fun h0=>?_
            by_cases hz:0<=jZ H f.b t
            · rw[ay hz]at hh';omega
            · rw[ax hz]at hh';omega
          obtain⟨i1,i2,i3⟩:=ih (i+1) fu h' Gn S' (out++[h]) (aG.close Ei Oi t i) Oi P' (by omega) e hl' hn zB (by rw[q3,aaj]) hMs (fun t' ht'=>hB t' (List.mem_cons_of_mem _ ht'))
          have hnx:=hnext hlt1
          have U8:=aG.Inv.OA inv hlt h12 hn
          have htl:t<i:=(inv.st t (by simp)).1
          have aak:t∉P':=fun q=>by have:=(List.pairwise_cons.1 inv.Nn).1 t q;omega
          refine⟨fun t' ht'=>?_,fun t' ht' hneg hpos=>?_,fun j hj zD h0=>?_⟩
          · rcases List.mem_cons.1 ht' with rfl|ht'
            · refine⟨by omega,by rw[U8];simpa using hlt1,?_⟩
              rw[U8,az,hnx,hh']
            · exact i1 t' ht'
          · rcases List.mem_cons.1 ht' with rfl|ht'
            · have:=aG.Inv.uT fu (i+1) _ _ _ zB hn t' (by omega) (.inl aak)
              omega
            · exact i2 t' ht' hneg hpos
          · by_cases ej:j=i
            · subst ej
              rw[hHi]at h0
              have hqq:=q1 h0
              have DW:=(hM'.1 h0).1
              rw[ay (by omega)]at hh'
              exact⟨by rw[hHi];exact htk h0,fun _ h=>absurd h12 h,fun _=> .inr ⟨hlt1,by rw[hnx,hHi];omega⟩,fun h=>by omega,fun h=>by omega,fun h=>by omega,fun h=>by omega,fun h=>by omega,hloc,Gq,Gr⟩
            · exact i3 j (by omega) zD h0
      ·
        have hop:¬(aG.op f.b i=8\/aG.op f.b i=9\/aG.op f.b i=10):=fun h=>by rw[aG.dI.2 h]at ho;cases ho
        rw[aG.jy hlt ho h11 h12]at hn
        have hlt1:=aG.xU hn
        have zB:=inv.other hlt ho h11
        have zC:∀hh mm,dU f (aG.op f.b i) (arg f.b i) hh mm x S0=some (h',Gn,S')->S'=S/\(aG.op f.b i=13\/aG.op f.b i=15\/aG.op f.b i=19->h'=-1)/\(¬(aG.op f.b i=13\/aG.op f.b i=15\/aG.op f.b i=19)->h'=hh)/\
            (aG.op f.b i=13\/aG.op f.b i=14->0<=hh->dX S (arg f.b i)<=hh-x.st)/\(aG.op f.b i=15->0<=hh->f.g<=hh-x.st):=by
          intro hh mm h3
          unfold dU at h3
          rw[ax hop]at h3
          split at h3
          · rename_i hj
            split at h3
            · cases h3
            · rename_i hc
              simp only[af,Prod.mk.injEq]at h3
              obtain⟨q1,-,q3⟩:=h3
              refine⟨by rw[←q3,lN],fun hp=>?_,fun hp=>?_,fun _ h0=>?_,fun h=>by omega⟩
              · rw[←q1,ay (by omega)]
              · rw[←q1,ax (by omega)]
              · rw[lN]
                by_cases hq:hh-x.st<dX (x::S0) (arg f.b i)
                · exact absurd ⟨h0,hq⟩ hc
                · omega
          · rename_i hj
            split at h3
            · rename_i LU
              split at h3
              · cases h3
              · rename_i hc
                simp only[af,Prod.mk.injEq]at h3
                obtain⟨q1,-,q3⟩:=h3
                refine⟨by rw[←q3,lN],fun hp=>q1.symm,fun hp=>by omega,fun h=>absurd h hj,fun _ h0=>?_⟩
                by_cases hq:hh-x.st<f.g
                · exact absurd ⟨h0,hq⟩ hc
                · omega
            · rename_i LU
              split at h3
              · rename_i h19
                simp only[af,Prod.mk.injEq]at h3
                obtain⟨q1,-,q3⟩:=h3
                exact⟨by rw[←q3,lN],fun hp=>q1.symm,fun hp=>by omega,fun h=>absurd h hj,fun h=>absurd h LU⟩
              · rename_i h19
                simp only[af,Prod.mk.injEq]at h3
                obtain⟨q1,-,q3⟩:=h3
                exact⟨by rw[←q3,lN],fun hp=>by omega,fun _=>q1.symm,fun h=>absurd h hj,fun h=>absurd h LU⟩
        obtain⟨q1,q2,q3,q4⟩:S'=S/\(aG.op f.b i=13\/aG.op f.b i=15\/aG.op f.b i=19->h'=-1)/\(¬(aG.op f.b i=13\/aG.op f.b i=15\/aG.op f.b i=19)->h'=if 0<=h then h-tk fs (aG.op f.b i) (arg f.b i)+pt fs (aG.op f.b i) (arg f.b i)else h)/\
            (0<=h->tk fs (aG.op f.b i) (arg f.b i)<=h-x.st/\(aG.op f.b i=13\/aG.op f.b i=14->dX S (arg f.b i)<=h-tk fs (aG.op f.b i) (arg f.b i)+pt fs (aG.op f.b i) (arg f.b i)-x.st)/\(aG.op f.b i=15->f.g<=h-tk fs (aG.op f.b i) (arg f.b i)+pt fs (aG.op f.b i) (arg f.b i)-x.st)):=by
          rcases hcase with⟨h0,h2,h3⟩|⟨h0,h3⟩
          · obtain⟨r1,r2,r3,r4,r5⟩:=zC _ _ h3
            have hx0:=hM'.1 h0
            exact⟨r1,r2,fun h=>by rw[ay h0];exact r3 h,fun _=>⟨h2,fun hp=>r4 hp (by omega),fun hp=>r5 hp (by omega)⟩⟩
          · obtain⟨r1,r2,r3,r4,r5⟩:=zC _ _ h3
            exact⟨r1,r2,fun h=>by rw[ax (by omega)];exact r3 h,fun h=>by omega⟩
        have hMs:Ms h' S':=by
          rw[q1,lN]
          refine⟨fun h0=>?_,hM'.2⟩
          by_cases hp:aG.op f.b i=13\/aG.op f.b i=15\/aG.op f.b i=19
          · have:=q2 hp;omega
          · have hq:=q3 hp
            by_cases hz:0<=h
            · rw[ay hz]at hq
              have:=q4 hz
              have:=hM'.1 hz
              omega
            · rw[ax hz]at hq;omega
        obtain⟨i1,i2,i3⟩:=ih (i+1) fu h' Gn S' (out++[h]) Ei Oi P (by omega) e hl' hn zB (by rw[q1,hS]) hMs hB
        have hnx:=hnext hlt1
        refine⟨i1,i2,fun j hj zD h0=>?_⟩
        by_cases ejn:¬j=i
        · exact i3 j (by omega) zD h0
        have ej:=Classical.not_not.1 ejn
        subst ej
        rw[hHi]at h0
        obtain⟨c1,c2,c3⟩:=q4 h0
        have hx0:=hM'.1 h0
        have Kj:∀hh,0<=hh->x.st<=hh->dX S (arg f.b j)<=hh-x.st->(arg f.b j).toNat<=P.length->qQ f E H j hh (arg f.b j):=by
          intro hh hh0 hhx hlab hal
          unfold qQ
          rw[har]
          have hnl:(iW P).length=P.length:=by simp[iW]
          rw[hnl]
          refine⟨fun hlt2=>?_,fun hge=>?_⟩
          · obtain⟨t,ht⟩:∃t,P[(arg f.b j).toNat]?=some t:=⟨_,ai hlt2⟩
            have hmem:t∈P:=List.mem_of_getElem? ht
            have SX:dX S (arg f.b j)=arg f.b t:=by rw[hS];exact xg ht
            have SY:wo H f.b t∈S:=by rw[hS];exact List.mem_append_left _ (List.mem_map_of_mem hmem)
            rw[lN]at SY
            have S9:=Ms.all (h:=x.st) (S:=x::S0) ⟨fun h=>⟨h,Int.le_refl _⟩,hM'.2⟩ hx0.1 _ SY
            have hs1:0<=jZ H f.b t:=S9.1
            have hs2:jZ H f.b t<=x.st:=S9.2
            refine⟨t,?_,(inv.st t hmem).1,(inv.st t hmem).2.1,?_,hs1,by rw[SX]at hlab;omega,i1 t hmem,hB t hmem⟩
            · unfold iW
              rw[ah,List.getElem?_map,ht]
              rfl
            · by_cases hz:0<=H.getD t 0
              · exact hz
              · unfold jZ at hs1
                rw[ax hz]at hs1
                exact hs1
          · have:dX S (arg f.b j)=f.g:=by rw[hS];exact Ir (by omega)
            omega
        refine⟨by rw[hHi];exact htk h0,fun _ _ Pb LU h19=>⟨hlt1,?_⟩,fun h=>absurd h h12,fun h=>absurd h h11,fun h=>by omega,fun Pb=>?_,fun UW=>?_,fun LU=>?_,hloc,Gq,Gr⟩
        · rw[hnx,hHi,q3 (by omega),ay h0]
        · obtain⟨k1,k2⟩:=ry (fs:=fs) (a:=arg f.b j) (show aG.op f.b j=13\/aG.op f.b j=15\/aG.op f.b j=19\/aG.op f.b j=11\/aG.op f.b j=12 by omega)
          have:=c2 (by omega)
          rw[hHi]
          exact Kj h h0 hx0.2 (by omega) (hjl (by omega))
        · have k1:tk fs (aG.op f.b j) (arg f.b j)=1:=by unfold tk;rw[ay (by omega)]
          have k2:pt fs (aG.op f.b j) (arg f.b j)=0:=by
            unfold pt
            rw[ax (by omega),ax (by omega),ax (by omega),ax (by omega)]
          have:=c2 (by omega)
          rw[hHi]
          exact Kj (h-1) (by omega) (by omega) (by omega) (hjl (by omega))
        · obtain⟨k1,k2⟩:=ry (fs:=fs) (a:=arg f.b j) (show aG.op f.b j=13\/aG.op f.b j=15\/aG.op f.b j=19\/aG.op f.b j=11\/aG.op f.b j=12 by omega)
          have:=c3 LU
          rw[hHi]
          omega
  ·
    have hop:=aG.dI.1 ho
    rw[aG.jd hlt ho]at hn
    have Ta:pt fs (aG.op f.b i) (arg f.b i)=0:=by
      unfold pt
      rw[ax (by omega),ax (by omega),ax (by omega),ax (by omega)]
    have Tc:tk fs (aG.op f.b i) (arg f.b i)=if aG.op f.b i=10 then 1 else 0:=by
      unfold tk
      by_cases h10:aG.op f.b i=10
      · rw[ay (by omega),ay h10]
      · rw[ax (by omega),ax (by omega),ax (by omega),ax (by omega),ax (by omega),ax h10]
    have hst:jZ H f.b i=h'/\S'=wo H f.b i::S/\(0<=h->0<=h'/\x.st<=h')/\(0<=h'->0<=h/\x.st<=h'):=by
      rcases hcase with⟨h0,h2,h3⟩|⟨h2,h3⟩
      · have hx:=hM'.1 h0
        unfold dU at h3
        rw[ay hop]at h3
        simp only[af,Prod.mk.injEq]at h3
        obtain⟨q1,-,q3⟩:=h3
        have es:jZ H f.b i=h':=by
          unfold jZ
          rw[hHi,ay h0,←q1,Ta,Tc]
          omega
        refine⟨es,?_,fun _=>⟨by omega,by omega⟩,fun _=>⟨h0,by omega⟩⟩
        rw[←q3,lN]
        unfold wo
        rw[es,q1]
      · unfold dU at h3
        rw[ay hop]at h3
        simp only[af,Prod.mk.injEq]at h3
        obtain⟨q1,-,q3⟩:=h3
        have es:jZ H f.b i=h':=by
          unfold jZ
          rw[hHi,ax (by omega),q1]
        refine⟨es,?_,fun h=>by omega,fun h=>by omega⟩
        rw[←q3,lN]
        unfold wo
        rw[es,q1]
    obtain⟨es,eS,Td,hh2⟩:=hst
    have hlt1:=aG.xU hn
    have hMs:Ms h' S':=by
      rw[eS]
      refine⟨fun h0=>?_,?_⟩
      · show 0<=jZ H f.b i/\jZ H f.b i<=h'
        omega
      · show Ms (jZ H f.b i) S
        rw[es,lN]
        refine⟨fun h0=>?_,hM'.2⟩
        have:=hh2 h0
        have:=hM'.1 this.1
        omega
    obtain⟨i1,i2,i3⟩:=ih (i+1) fu h' Gn S' (out++[h]) Ei Oi (i::P) (by omega) e hl' hn (inv.push hlt ho) (by rw[eS,hS];rfl) hMs (by
      intro t ht
      rcases List.mem_cons.1 ht with rfl|ht
      · exact⟨hlt1,by rw[hnext hlt1,es]⟩
      · exact hB t ht)
    refine⟨fun t ht=>i1 t (List.mem_cons_of_mem _ ht),fun t ht=>i2 t (List.mem_cons_of_mem _ ht),fun j hj zD h0=>?_⟩
    by_cases ej:j=i
    · subst ej
      rw[hHi]at h0
      have hnx:=hnext hlt1
      have hE:=i1 j (by simp)
      refine⟨by rw[hHi];exact htk h0,fun _ _ _ _ _=>⟨hlt1,?_⟩,fun h=>by omega,fun h=>by omega,fun h10=>?_,fun h=>by omega,fun h=>by omega,fun h=>by omega,hloc,Gq,Gr⟩
      · rw[hnx,hHi,Ta,Tc,←es]
        unfold jZ
        rw[hHi,ay h0]
        omega
      · have e10:jZ H f.b j=h-1:=by
          unfold jZ
          rw[hHi,ay h0,ay h10]
        have h0':=(Td h0).1
        by_cases hO:0<=aG.aU O j
        · left
          have:=i2 j (by simp) ((inv.out j (Nat.le_refl _)).2▸(by omega)) hO
          obtain⟨a1,a2⟩:=this
          rw[ay (by omega)]at a2
          exact⟨hO,a1,by rw[a2,e10,hHi]⟩
        · right
          obtain⟨a1,a2,a3⟩:=hE
          rw[ay (by omega)]at a3
          have ha:arg f.b j=0:=by
            simp only[bad,Bool.or_eq_false_iff,decide_eq_false_iff_not]at hbad
            have hb4:=hbad.2
            have hg1:arg f.b j<=1:=by
              simp only[St.ok,au,Wd.dh]at hok
              have:St.dz (aG.op f.b j)=1:=by rw[h10];rfl
              omega
            have:aG.aU O j=O.getD j (-1):=rfl
            omega
          exact⟨by omega,a1,a2,by rw[a3,e10,ha,hHi];omega⟩
    · exact i3 j (by omega) zD h0
structure Acc (fs:List Fn)(f:Fn)(E O H:List Int):Prop where
 pos:0<f.b.length
 lH:H.length=f.b.length
 fst:H.getD 0 0=0
 jR:∀j,j<f.b.length->H.getD j 0<=20
 typ:∀j,j<f.b.length->0<=H.getD j 0->Typed fs f E O H j
 Te:aG.Fin f.b E O
theorem CK {fs:List Fn}{f:Fn}{H:List Int}{mo:Int}(hf:Md.tL f=true)(hfs:Md.bA fs=true)(h:gN fs f=some (H,mo)):Acc fs f (aG.ends f.b) (aG.aR f.b) H:=by simp only[Md.tL,au,decide_eq_true_eq,Wd.dh]at hf;obtain⟨-,-,⟨hg0,-⟩,-,hst⟩:=hf;obtain⟨n1,n2,n3,n4,n5⟩:=F9 hg0 h;have mG:aG.isOk f.b=true:=by{unfold gN at h;split at h;{assumption};cases h};have hall:∃fe,all fs f=some (H,fe):=by{unfold gN at h;rw[ay mG]at h;rcases e:all fs f with _|⟨o',fe⟩;{rw[e]at h;cases h};rw[e]at h;simp only at h;split at h;{cases h;exact⟨_,rfl⟩};cases h};obtain⟨fe,hall⟩:=hall;have Jf:∀t,t<f.b.length->St.ok (aG.op f.b t) (arg f.b t)=true:=fun t ht=>by{have:=St.bu hst ht;exact this};have hgs:∀k,0<=(fs.getD k .z).g:=fun k=>by{by_cases hk:k<fs.length;{have:=Md.bu hfs hk;simp only[Md.tL,au,Wd.dh]at this;exact this.2.2.1.1};rw[ah,List.getElem?_eq_none (by omega)];exact Int.le_refl _};have hE:aG.all f.b=(aG.ends f.b,aG.aR f.b,true):=by{have h2:(aG.all f.b).2.2=true:=by{rw[aG.isOk,au]at mG;exact mG.2};rw[aG.ends,ay mG,aG.aR,ay mG,←h2]};obtain⟨-,-,hT⟩:=FY Jf hgs hg0 f.b.length 0 (f.b.length+1) 0 f.g [⟨0,f.g,true⟩] [] (aG.dP f.b.length) (aG.dP f.b.length) [] (by omega) hall rfl hE (aG.Inv.first f.b) rfl ⟨fun _=>⟨Int.le_refl _,Int.le_refl _⟩,trivial⟩ (by simp);exact⟨n2,n1,n3,fun j hj=>by have:=(n5 j (by omega)).1;omega,fun j hj h0=>hT j (Nat.zero_le _) hj h0,aG.KG mG⟩
end Hg
namespace Mn
open Hg
abbrev Sr:Type:=(Nat×List Int×List Int×List Int) ⊕ List Int ⊕ Int ⊕ (Nat×List Int×List Int)
abbrev Sr.next (aI:Nat)(pile loc mem:List Int):Sr:= .inl (aI,pile,loc,mem)
abbrev Sr.fin (pile:List Int):Sr:= .inr (.inl pile)
abbrev Sr.halt (c:Int):Sr:= .inr (.inr (.inl c))
abbrev Sr.call (g:Nat)(args rest:List Int):Sr:= .inr (.inr (.inr (g,args,rest)))
def jR (pile:List Int):Int:=pile.getD (pile.length-1) 0
def under (pile:List Int):Int:=pile.getD (pile.length-2) 0
def upper (pile:List Int)(w:Nat):List Int:=pile.drop (pile.length-w)
def less (pile:List Int)(w:Nat):List Int:=pile.take (pile.length-w)
def jump (f:Fn)(E H:List Int)(aI:Nat)(a:Int)(pile loc mem:List Int):Sr:=
 if a.toNat<(aG.cK f.b E aI aI).length then
   let t:=((aG.cK f.b E aI aI).getD a.toNat (-1)).toNat
   if aG.op f.b t=9 then .next (t+1) (pile.take (jZ H f.b t).toNat) loc mem
   else .next ((aG.aU E t).toNat+1) (pile.take (jZ H f.b t).toNat++upper pile (arg f.b t).toNat) loc mem
 else .fin (upper pile f.g.toNat)
def step (fs:List Fn)(f:Fn)(E O H:List Int)(aI:Nat)(pile loc mem:List Int):Sr:=
 let p:=aG.op f.b aI
 let a:=arg f.b aI
 if p=1 then .next (aI+1) (pile++[a]) loc mem
 else if p=2 then .next (aI+1) (pile++[loc.getD a.toNat 0]) loc mem
 else if p=3 then .next (aI+1) (less pile 1) (loc.set a.toNat (jR pile)) mem
 else if p=4 then .next (aI+1) pile (loc.set a.toNat (jR pile)) mem
 else if p=5 then(if Wd.dc a (under pile) (jR pile)=0 then .next (aI+1) (less pile 2++[Wd.dv a (under pile) (jR pile)]) loc mem else .halt (Wd.dc a (under pile) (jR pile)))
 else if p=6 then .next (aI+1) (less pile 1++[if jR pile=0 then 1 else 0]) loc mem
 else if p=7 then .next (aI+1) (less pile 1) loc mem
 else if p=10 then(if jR pile=0 then .next ((if 0<=aG.aU O aI then aG.aU O aI else aG.aU E aI).toNat+1) (less pile 1) loc mem else .next (aI+1) (less pile 1) loc mem)
 else if p=11 then .next ((aG.aU E aI).toNat+1) pile loc mem
 else if p=12 then(if aI+1=f.b.length then .fin pile else .next (aI+1) pile loc mem)
 else if p=13 then jump f E H aI a pile loc mem
 else if p=14 then(if jR pile=0 then .next (aI+1) (less pile 1) loc mem else jump f E H aI a (less pile 1) loc mem)
 else if p=15 then .fin (upper pile f.g.toNat)
 else if p=16 then .call a.toNat (upper pile (fs.getD a.toNat .z).a.toNat) (less pile (fs.getD a.toNat .z).a.toNat)
 else if p=17 then(if Mm.there (jR pile) a=true then .next (aI+1) (less pile 1++[Mm.KC mem (jR pile+a).toNat 4]) loc mem else .halt 3)
 else if p=18 then(if Mm.there (under pile) a=true then .next (aI+1) (less pile 2) loc (Mm.Oo mem (under pile+a).toNat (jR pile) 4)else .halt 3)
 else if p=19 then .halt 4
 else .next (aI+1) pile loc mem
end Mn
namespace Mn
open Hg
abbrev Rs:Type:=(Int×List Int×Nat) ⊕ (Int×List Int×Nat)
abbrev Rs.done (v:Int)(mem:List Int)(left:Nat):Rs:= .inl (v,mem,left)
abbrev Rs.stop (c:Int)(mem:List Int)(left:Nat):Rs:= .inr (c,mem,left)
def fn (fs:List Fn)(k:Nat):Fn:=fs.getD k .z
def zN (fs:List Fn)(k:Nat):List Int:=((gN fs (fn fs k)).map (·.1)).getD []
def OC (fs:List Fn)(k aI:Nat)(pile loc mem:List Int):Sr:=step fs (fn fs k) (aG.ends (fn fs k).b) (aG.aR (fn fs k).b) (zN fs k) aI pile loc mem
def gives (f:Fn)(pile:List Int):Int:=if f.g=0 then 0 else jR pile
def dV (f:Fn)(v:Int):List Int:=if f.g=1 then[v]else[]
def NZ (f:Fn)(args:List Int):List Int:=args++List.replicate f.l.toNat 0
def run (fs:List Fn):Nat->Nat->Nat->Nat->Nat->List Int->List Int->List Int->Rs
 |0,fuel,_,_,_,_,_,mem=> .stop 5 mem fuel
 |_+1,0,_,_,_,_,_,mem=> .stop 5 mem 0
 | g +1,n+1,d,k,aI,pile,loc,mem=>
   match OC fs k aI pile loc mem with
   | .inl (a,p,l,m)=>run fs g n d k a p l m
   | .inr (.inl p)=> .done (gives (fn fs k) p) mem n
   | .inr (.inr (.inl c))=> .stop c mem n
   | .inr (.inr (.inr (q,args,rest)))=>
     if 12<=d+1 then .stop 6 mem n else
     match run fs g n (d+1) q 0 [] (NZ (fn fs q) args) mem with
     | .inr (c,m,l)=> .stop c m l
     | .inl (v,m,l)=>run fs g l d k (aI+1) (rest++dV (fn fs q) v) loc m
def Rs.left:Rs->Nat
 | .inl (_,_,l)=>l
 | .inr (_,_,l)=>l
def Rs.more (e:Nat):Rs->Rs
 | .inl (v,m,l)=> .done v m (l+e)
 | .inr (c,m,l)=> .stop c m (l+e)
def Rs.ends:Rs->Prop
 | .inl _=>True
 | .inr (c,_,_)=>c≠5
variable {fs : List Fn} {g n d k aI : Nat} {pile loc mem : List Int}
def nf:Sr->Prop
 | .inr (.inr (.inl c))=>c≠5
 |_=>True
end Mn
namespace Mn
open Hg
structure VE (fs:List Fn):Prop where
 len:1<=fs.length/\fs.length<=4
 all:Md.bA fs=true
 acc:∀k,k<fs.length->Acc fs (fn fs k) (aG.ends (fn fs k).b) (aG.aR (fn fs k).b) (zN fs k)
theorem Lp {fs:List Fn}{d:ByteArray}(h:Hg.valid fs d=true):VE fs:=by unfold Hg.valid at h;rw[au]at h;obtain⟨hok,hall⟩:=h;have Gs:Md.bA fs=true:=by{unfold Md.ok at hok;rw[au]at hok;exact hok.2};have hlen:1<=fs.length/\fs.length<=4:=by{unfold Md.ok at hok;simp only[au,Wd.dh]at hok;have:=hok.1.1;omega};refine⟨hlen,Gs,fun k hk=>?_⟩;rw[List.all_eq_true]at hall;have hs:=hall k (List.mem_range.2 hk);unfold gM at hs;rw[ay ⟨hok,by omega,by omega⟩,az]at hs;obtain⟨⟨H,mo⟩,hr⟩:=Option.isSome_iff_exists.1 hs;have hr':gN fs (fn fs k)=some (H,mo):=hr;have hh:zN fs k=H:=by{unfold zN;rw[hr'];rfl};rw[hh];exact CK (Md.bu Gs hk) Gs hr'
theorem JN {fs:List Fn}(V:VE fs){k:Nat}(hk:k<fs.length):0<=(fn fs k).a/\(fn fs k).a<=3/\0<=(fn fs k).l/\(fn fs k).l<=3/\((fn fs k).g=0\/(fn fs k).g=1)/\(fn fs k).b.length<=80:=by have:=Md.bu V.all hk;simp only[Md.tL,au,decide_eq_true_eq,Wd.dh]at this;obtain⟨⟨a1,a2⟩,⟨a3,a4⟩,⟨a5,a6⟩,a7,-⟩:=this;exact⟨a1,a2,a3,a4,by show(fs.getD k .z).g=0\/(fs.getD k .z).g=1;omega,a7⟩
theorem rH {f:Fn}(hg:f.g=0\/f.g=1)(v:Int):((dV f v).length:Int)=f.g:=by unfold dV;rcases hg with h|h;{rw[ax (by omega),h];rfl};rw[ay h,h];rfl
def Rs.mem:Rs->List Int
 | .inl (_,m,_)=>m
 | .inr (_,m,_)=>m
def isOk (fs:List Fn)(d:ByteArray)(k:Int)(args:List Int)(fuel:Int):Bool:=
 Hg.valid fs d&&(decide (0<=k/\k<fs.length)&&(decide ((args.length:Int)=(fn fs k.toNat).a)&&(args.all Wd.ok&&decide (0<=fuel/\fuel<=3000))))
def out (fs:List Fn)(d:ByteArray)(k:Int)(args:List Int)(n:Nat):Rs:=run fs (n+1) n 0 k.toNat 0 [] (NZ (fn fs k.toNat) args) (Mm.new d)
end Mn
namespace Lw
open Hg (arg)
def wd (f:Fn):Int:=f.a+f.l
def bx (f:Fn)(h:Int):Int:=wd f+h
def dX (f:Fn)(E H:List Int)(aI:Nat)(dp:Int):Int×Int×Int:=
 if dp.toNat<(aG.cK f.b E aI aI).length then
   let t:=((aG.cK f.b E aI aI).getD dp.toNat (-1)).toNat
   if aG.op f.b t=9 then((t:Int)+1,0,0)else if aG.op f.b t=10 then(aG.aU E t,bx f (H.getD t 0-1),arg f.b t)else(aG.aU E t,bx f (H.getD t 0),arg f.b t)
 else((f.b.length:Int)-1,bx f 0,f.g)
def args (t:Int)(n:Int):List Int:=(List.range n.toNat).map fun(i:Nat)=>t-n+1+(i:Int)
def ic (fs:List Fn)(f:Fn)(E O H:List Int)(aI:Nat)(p a t:Int):List (Ln×Int):=
 if p=1 then[(⟨1,t+1,0,0,a,[]⟩,-1)]
 else if p=2 then[(⟨2,t+1,a,0,0,[]⟩,-1)]
 else if p=3\/p=4 then[(⟨2,a,t,0,0,[]⟩,-1)]
 else if p=5 then[(⟨3,t-1,t-1,t,a,[]⟩,-1)]
 else if p=6 then[(⟨4,t,t,0,0,[]⟩,-1)]
 else if p=10 then[(⟨4,t,t,0,0,[]⟩,-1),(⟨6,0,t,0,0,[]⟩,if 0<=aG.aU O aI then aG.aU O aI+1 else aG.aU E aI)]
 else if p=11 then[(⟨5,0,0,0,0,[]⟩,aG.aU E aI)]
 else if p=13\/p=15 then
   let L:=dX f E H aI (if p=15 then 99 else a)
   (if L.2.2=1/\L.2.1≠t then[(⟨2,L.2.1,t,0,0,[]⟩,-1)]else[])++[(⟨5,0,0,0,0,[]⟩,L.1)]
 else if p=14 then
   let L:=dX f E H aI a
   if L.2.2=1/\L.2.1≠t-1 then[(⟨4,t,t,0,0,[]⟩,-1),(⟨6,0,t,0,0,[]⟩,(aI:Int)+1),(⟨2,L.2.1,t-1,0,0,[]⟩,-1),(⟨5,0,0,0,0,[]⟩,L.1)]
   else[(⟨6,0,t,0,0,[]⟩,L.1)]
 else if p=16 then
   let g:=fs.getD a.toNat .z
   [(⟨7,if g.g=1 then t-g.a+1 else wd f+20,0,0,a,args t g.a⟩,-1)]
 else if p=17 then[(⟨8,t,t,0,a,[]⟩,-1)]
 else if p=18 then[(⟨9,0,t-1,t,a,[]⟩,-1)]
 else if p=19 then[(⟨11,0,0,0,0,[]⟩,-1)]
 else[]
def step (fs:List Fn)(f:Fn)(E O H:List Int)(aI:Nat):List (Ln×Int):=ic fs f E O H aI (aG.op f.b aI) (arg f.b aI) (bx f (H.getD aI 0-1))
def first(f:Fn):List (Ln×Int):=(List.range f.l.toNat).map fun(i:Nat)=>(⟨1,f.a+(i:Int),0,0,0,[]⟩,-1)
def eD (fs:List Fn)(f:Fn)(E O H:List Int):Nat->List (Ln×Int)×List Int
 |0=>(first f,[])
 |i+1=>((eD fs f E O H i).1++(if 0<=H.getD i 0 then step fs f E O H i else[]),(eD fs f E O H i).2++[((eD fs f E O H i).1.length:Int)])
def last (f:Fn):List (Ln×Int):=if f.g=0 then[(⟨1,wd f+20,0,0,0,[]⟩,-1),(⟨10,0,wd f+20,0,0,[]⟩,-1)]else[(⟨10,0,wd f,0,0,[]⟩,-1)]
def raw (fs:List Fn)(f:Fn)(E O H:List Int):List (Ln×Int):=(eD fs f E O H f.b.length).1++last f
def nU (fs:List Fn)(f:Fn)(E O H:List Int):List Int:=(eD fs f E O H f.b.length).2
def GX (st:List Int)(x:Ln×Int):Ln:=if 0<=x.2 then{x.1 with n:=st.getD x.2.toNat 0}else x.1
def func (fs:List Fn)(f:Fn)(E O H:List Int):List Ln:=if(raw fs f E O H).length<=300 then(raw fs f E O H).map (GX (nU fs f E O H))else[]
def fw (fs:List Fn)(d:ByteArray)(k:Int):List Ln:=
 if Hg.valid fs d=true/\0<=k/\k<fs.length then func fs (Mn.fn fs k.toNat) (aG.ends (Mn.fn fs k.toNat).b) (aG.aR (Mn.fn fs k.toNat).b) (Mn.zN fs k.toNat)else[]
theorem IU {α:Type}{q:Prop}[Decidable q]{x y:List α}{n:Nat}(hx:x.length<=n)(hy:y.length<=n):(if q then x else y).length<=n:=by split<;>assumption
theorem E8 (fs:List Fn)(f:Fn)(E O H:List Int)(aI:Nat):(step fs f E O H aI).length<=4:=by unfold step ic;simp only;(repeat' (refine IU ?_ ?_));(all_goals first|(simp;done)|skip);all_goals rw[List.length_append];(have h1:∀(q:Prop)[Decidable q](x:Ln×Int),(if q then[x]else[]).length<=1:=fun q _ x=>by split<;>simp);exact Nat.le_trans (Nat.add_le_add_right (h1 _ _) _) (by simp)
theorem qP (fs:List Fn)(f:Fn)(E O H:List Int):∀i,(eD fs f E O H i).1.length<=f.l.toNat+4*i/\(eD fs f E O H i).2.length=i
 |0=>⟨by simp[eD,first],rfl⟩
 | i +1=>by
   have ih:=qP fs f E O H i
   have hs:=E8 fs f E O H i
   refine⟨?_,?_⟩
   · unfold eD
     simp only[List.length_append]
     split
     · omega
     · simp;omega
   · unfold eD
     simp only[List.length_append,List.length_singleton,ih.2]
end Lw
structure LX where
 B:Nat
 ha:Option Addr
 hc:Nat
 ea:Option Addr
 ec:Nat
 ba:Option Addr
 bc:Nat
 fs:List Fn
 f:Fn
 E:List Int
 O:List Int
 H:List Int
def LX.eG (c:LX)(v vg:Value):List Value:=
 [v,vg, .int .i64 (Lw.wd c.f), .slice c.ha c.f.b.length c.hc, .slice c.ea c.f.b.length c.ec, .slice c.ba c.f.b.length c.bc, .int .i64 c.f.g]
structure TX (c:LX)(W0:World):Prop where
 lt:W0.heap.size<=c.B
 hH:IL W0 c.ha c.f.b.length c.H
 hE:IL W0 c.ea c.f.b.length c.E
 hS:SL W0 c.ba c.f.b.length c.f.b
 acc:Hg.Acc c.fs c.f c.E c.O c.H
 ok:0<=c.f.a/\c.f.a<=3/\0<=c.f.l/\c.f.l<=3/\(c.f.g=0\/c.f.g=1)/\c.f.b.length<=80
 all:St.bA c.f.b=true
 val:Mn.VE c.fs
structure MK (c:LX)(W0 W:World)(v vg:Value)(out:List (Ln×Int))(P:Nat->Prop):Prop where
 eY:Below W0.heap.size W0 W
 box:bi W c.B (c.eG v vg)
 sz:c.B+1<=W.heap.size
 row:∃vs:List Lv,W.ownsRow (c.B+1) 59 6 v out.length (cZ vs)/\vs.length=out.length/\gL W (c.B+1) out.length vs (out.map (·.1))/\∀j,j<out.length->∀g,(vs.getD j eP).2.2.2.2.2.ownBlock=some g->vg.ownBlock≠some g/\P g
 zF:OI W (c.B+1) vg (out.map (·.2))
structure FX (c:LX)(v vg v' l6:Value)(W W':World):Prop where
 os:W'.os=W.os
 tape:W'.tape=W.tape
 out:W'.output=W.output
 size:W.heap.size<=W'.heap.size
 blk:∀i,i<W.heap.size->i≠c.B->v.ownBlock≠some i->vg.ownBlock≠some i->W'.heap[i]?=W.heap[i]?
 v1:v'.ownBlock=v.ownBlock\/∃g,v'.ownBlock=some g/\W.heap.size<=g
 g1:l6.ownBlock=vg.ownBlock\/∃g,l6.ownBlock=some g/\W.heap.size<=g
theorem FX.refl (c:LX)(v vg:Value)(W:World):FX c v vg v vg W W:=⟨rfl,rfl,rfl,Nat.le_refl _,fun _ _ _ _ _=>rfl, .inl rfl, .inl rfl⟩
theorem FX.trans {c:LX}{v vg v' l6 v2 vE:Value}{W W' W2:World}(h:FX c v vg v' l6 W W')(k:FX c v' l6 v2 vE W' W2):FX c v vg v2 vE W W2:=by refine⟨k.os.trans h.os,k.tape.trans h.tape,k.out.trans h.out,Nat.le_trans h.size k.size,fun i hi hB hv hg=>?_,?_,?_⟩;{refine(k.blk i (aj hi h.size) hB ?_ ?_).trans (h.blk i hi hB hv hg);{rcases h.v1 with e|⟨g,e,hge⟩;{rw[e];exact hv};rw[e];simp only[ne_eq,af];omega};rcases h.g1 with e|⟨g,e,hge⟩;{rw[e];exact hg};rw[e];simp only[ne_eq,af];omega};{rcases k.v1 with e|⟨g,e,hge⟩;{rw[e];exact h.v1};exact .inr ⟨g,e,Nat.le_trans h.size hge⟩};rcases k.g1 with e|⟨g,e,hge⟩;{rw[e];exact h.g1};exact .inr ⟨g,e,Nat.le_trans h.size hge⟩
theorem FX.below {c:LX}{v vg:Value}{W W':World}(h:Below W.heap.size W W'):FX c v vg v vg W W':=⟨h.os,h.tape,h.output,h.size,fun i hi _ _ _=>h.block i hi, .inl rfl, .inl rfl⟩
theorem FX.rows {c:LX}{v vg v' l6:Value}{W W':World}(h:FX c v vg v' l6 W W'){n₀ e k n:Nat}{u:Value}{xs:List Value}(hr:W.ownsRow n₀ e k u n xs)(hn:∀g,u.ownBlock=some g->g≠c.B/\v.ownBlock≠some g/\vg.ownBlock≠some g):W'.ownsRow n₀ e k u n xs:=by refine⟨hr.1,?_⟩;rcases hr.2 with h'|⟨g',cap',cur,h',h1,h2,r⟩;{exact .inl h'};have hg:=hn g' (by rw[h'];rfl);exact .inr ⟨g',cap',cur,h',h1,(h.blk g' (Array.getElem?_eq_some_iff.1 h2).1 hg.1 hg.2.1 hg.2.2).trans h2,r⟩
theorem MK.kept {c:LX}{W0 W W':World}{v vg:Value}{out:List (Ln×Int)}{P:Nat->Prop}(h:MK c W0 W v vg out P)(hB:Below W.heap.size W W'):MK c W0 W' v vg out P:=by obtain⟨vs,h1,h2,h3,h4⟩:=h.row;exact⟨h.eY.trans (hB.mono h.eY.size),h.box.kept hB,Nat.le_trans h.sz hB.size,⟨vs,aH h1 hB,h2,h3.kept hB,h4⟩,h.zF.kept hB⟩
theorem MK.eX {c:LX}{W0 W:World}{v vg:Value}{out:List (Ln×Int)}{P P':Nat->Prop}(h:MK c W0 W v vg out P)(hP:∀g,P g->P' g):MK c W0 W v vg out P':=by obtain⟨vs,h1,h2,h3,h4⟩:=h.row;exact⟨h.eY,h.box,h.sz,⟨vs,h1,h2,h3,fun j hj g e=>⟨(h4 j hj g e).1,hP g (h4 j hj g e).2⟩⟩,h.zF⟩
theorem bO {W:World}{n₀ e k n:Nat}{v:Value}{xs:List Value}(h:W.ownsRow n₀ e k v n xs){g:Nat}(hg:v.ownBlock=some g):n₀<=g/\g<W.heap.size:=World.ownsRow.lt h g hg
theorem fM {W:World}{b0 b1 e0 e1 k0 k1 n0 n1:Nat}{u v:Value}{xs ys:List Value}(h0:W.ownsRow b0 e0 k0 u n0 xs)(h1:W.ownsRow b1 e1 k1 v n1 ys)(he:e0≠e1){g:Nat}(hg:u.ownBlock=some g):v.ownBlock≠some g:=by intro hv;rcases h0.2 with⟨rfl,-⟩|⟨g0,c0,aeV,rfl,-,hb0,-⟩;{cases hg};rcases h1.2 with⟨rfl,-⟩|⟨g1,c1,aeW,rfl,-,hb1,-⟩;{cases hv};simp only[Value.ownBlock,af]at hg hv;subst hg;subst hv;rw[hb0]at hb1;cases hb1;exact he rfl
theorem dA {W W':World}{n₀ e k n:Nat}{u:Value}{xs:List Value}{row:Option Nat}(h:W.ownsRow n₀ e k u n xs)(hg:W.grownBy W' row)(hne:∀g,u.ownBlock=some g->row≠some g):W'.ownsRow n₀ e k u n xs:=by refine⟨h.1,?_⟩;rcases h.2 with h'|⟨g',cap',cur,h',h1,h2,r⟩;{exact .inl h'};exact .inr ⟨g',cap',cur,h',h1,(hg.block g' (Array.getElem?_eq_some_iff.1 h2).1 (fun e=>hne g' (by rw[h'];rfl) e.symm)).trans h2,r⟩
theorem gL.bS {W W':World}{n₀ k:Nat}{vs:List Lv}{fs:List Ln}{row:Option Nat}(h:gL W n₀ k vs fs)(hg:W.grownBy W' row)(hne:∀j,j<k->∀g,(vs.getD j eP).2.2.2.2.2.ownBlock=some g->row≠some g):gL W' n₀ k vs fs:=fun j hj=>by
 obtain⟨h0,h1,h2,h3,h4,h5⟩:=h j hj
 exact⟨h0,h1,h2,h3,h4,dA h5 hg (hne j hj)⟩
theorem dB {w w1 w2:World}{row:Option Nat}(h:Below w.heap.size w w1)(hg:w1.grownBy w2 row)(hr:∀g,row=some g->w.heap.size<=g):Below w.heap.size w w2:=
 ⟨hg.os.trans h.os,hg.tape.trans h.tape,hg.output.trans h.output,Nat.le_trans h.size hg.size,fun k hk=>(hg.block k (aj hk h.size) (fun e=>by have:=hr k e.symm;omega)).trans (h.block k hk)⟩
theorem nD (xs ys:List Lv):cZ (xs++ys)=cZ xs++cZ ys:=by simp[cZ]
theorem zl {ops:Array Oper}{o:Oper}{a:Act}{K:Act->World->Prop}{Q:Exit->Act->World->Prop}{E:Prop}(w:World)(hgd:o.guard=none)(s x:Operand)(t:TypeId)(ho:o.op= .call {callee:= .builtin .append,args:=#[s,x],argTypes:=#[t,t]})(base:Nat)(e:TypeId)(i:TypeInfo)(z:Value)(size bytes:Nat)(ht:Tryz.prog.underlying t=some (.slice e))(hi:Tryz.prog.info? e=some i)(hz:i.zero=some z)(hsize:i.size=size)(hby:i.bytes=bytes)(hzs:z.cells.size=size)(hsz:0<size)(v:Value)(n:Nat)(xs:List Value)(hs:a.eval s=v)(hown:w.ownsRow base e size v n xs)(ad:Addr)(m c:Nat)(news:List Value)(hx:a.eval x= .slice (some ad) m c)(hl:news.length=m*size)(hnews:∀j u,news[j]?=some u->w.cell? (ad.add j)=some u)(h1:∀u∈news,u.oneCell'=true)(h63:n+m<=maxLen)(hbytes:(n+m)*bytes<=140737488355328)(hbase:base<=w.heap.size)(h:∀v' w',w'.ownsRow base e size v' (n+m) (xs++news)->w.grownBy w' v.ownBlock->(v'= .slice none 0 0↔v= .slice none 0 0/\m=0)->(v'.ownBlock=v.ownBlock\/v'.ownBlock=some w.heap.size)->K (a.put o.dst v') w'):if Region.wanted o (yielded ops a.tmps)=true then Oper.wp Tryz.prog o a w K Q else E:=by have hw:Region.wanted o (yielded ops a.tmps)=true:=by{simp[Region.wanted,hgd]};rw[ay hw];obtain⟨v',w',hr,h2,h3,h4,h5⟩:=run_append_own_at (P:=Tryz.prog) w base t o.type e i z size bytes ht hi hz hsize hby hzs hsz v n xs hown ad m c news hl hnews h1 h63 hbytes hbase;unfold Oper.wp execOp;simp only[ho,resolve,invoke,builtin,Sem.run_bind,Sem.run_pure,Result.andThen_ok,List.map_toArray,List.map_cons,List.map_nil,hs,hx,hr];exact h v' w' h2 h3 h4 h5
theorem uF (W W':World)(p q r s t u:Value)(ty:TypeId)(H:Nat)(hH:W.heap.size=H)(hc:∀i,W'.cell? ⟨H,i,none⟩=(W.alloc (.cells #[p,q,r,s,t,u] ty)).cell? ⟨H,i,none⟩):∀j y,[p,q,r,s,t,u][j]?=some y->W'.cell? ((⟨H,0,none⟩:Addr).add j)=some y:=by subst hH;intro j y hy;(have hadd:(⟨W.heap.size,0,none⟩:Addr).add j=⟨W.heap.size,j,none⟩:=by unfold Addr.add;split<;>simp_all);rw[hadd,hc,World.cell?_alloc_at _ _ _ _ rfl];simpa using hy
theorem TX.il {c:LX}{W0 W:World}(T:TX c W0){v vg:Value}{out:List (Ln×Int)}{P:Nat->Prop}(K:MK c W0 W v vg out P):IL W c.ha c.f.b.length c.H/\IL W c.ea c.f.b.length c.E/\SL W c.ba c.f.b.length c.f.b:=
 ⟨T.hH.kept K.eY,T.hE.kept K.eY,T.hS.kept K.eY⟩
theorem MK.line {c:LX}{W0 W W1 W2:World}{v vg v':Value}{out:List (Ln×Int)}{P:Nat->Prop}(K:MK c W0 W v vg out P)(hW:W0.heap.size<=c.B)(hB1:Below W.heap.size W W1)(x:Ln)(la:Option Addr)(ln lc:Nat)(hx:OI W (c.B+1) (.slice la ln lc) x.l)(hap:∀g,(Value.slice la ln lc).ownBlock=some g->vg.ownBlock≠some g/\P g)(vs:List Lv)(hvs:W.ownsRow (c.B+1) 59 6 v out.length (cZ vs)/\vs.length=out.length/\gL W (c.B+1) out.length vs (out.map (·.1))/\∀j,j<out.length->∀g,(vs.getD j eP).2.2.2.2.2.ownBlock=some g->vg.ownBlock≠some g/\P g)(hrow:W2.ownsRow (c.B+1) 59 6 v' (out.length+1) (cZ vs++[.int .i64 x.k, .int .i64 x.d, .int .i64 x.a, .int .i64 x.b, .int .i64 x.n, .slice la ln lc]))(hg:W1.grownBy W2 v.ownBlock)(hat:v'.ownBlock=v.ownBlock\/v'.ownBlock=some W1.heap.size)(tg:Int):Below W0.heap.size W0 (W2.setCell ⟨c.B,0,none⟩ v')/\bi (W2.setCell ⟨c.B,0,none⟩ v') c.B (c.eG v' vg)/\c.B+1<=(W2.setCell ⟨c.B,0,none⟩ v').heap.size/\(∃vs:List Lv,(W2.setCell ⟨c.B,0,none⟩ v').ownsRow (c.B+1) 59 6 v' (out++[(x,tg)]).length (cZ vs)/\vs.length=(out++[(x,tg)]).length/\gL (W2.setCell ⟨c.B,0,none⟩ v') (c.B+1) (out++[(x,tg)]).length vs ((out++[(x,tg)]).map (·.1))/\∀j,j<(out++[(x,tg)]).length->∀g,(vs.getD j eP).2.2.2.2.2.ownBlock=some g->vg.ownBlock≠some g/\P g)/\OI (W2.setCell ⟨c.B,0,none⟩ v') (c.B+1) vg (out.map (·.2))/\FX c v vg v' vg W (W2.setCell ⟨c.B,0,none⟩ v'):=by obtain⟨r1,r2,r3,r4⟩:=hvs;have vB:∀g,v.ownBlock=some g->c.B+1<=g:=fun g hg=>(bO r1 hg).1;have gs:=aF W2 ⟨c.B,0,none⟩ v';have bx1:=K.box.kept hB1;have bx2:=bx1.bS hg (fun e=>by have:=vB c.B e;omega);have bx3:=bx2.set 0 v';have hint:2≠59:=by{decide};have gB:∀g,vg.ownBlock=some g->c.B+1<=g:=fun g hg=>(bO K.zF hg).1;have U9:OI W1 (c.B+1) vg (out.map (·.2)):=K.zF.kept hB1;have r1':=aH r1 hB1;have og2:OI W2 (c.B+1) vg (out.map (·.2)):=dA U9 hg (fun g e=>fM U9 r1' hint e);have og3:OI (W2.setCell ⟨c.B,0,none⟩ v') (c.B+1) vg (out.map (·.2)):=dA og2 gs (fun g e=>by have:=gB g e;simp only[ne_eq,af];omega);have t1:=r3.kept hB1;have t2:gL W2 (c.B+1) out.length vs (out.map (·.1)):=t1.bS hg (fun j hj g e=>fM (t1 j hj).2.2.2.2.2 r1' hint e);have t3:gL (W2.setCell ⟨c.B,0,none⟩ v') (c.B+1) out.length vs (out.map (·.1)):=t2.bS gs (fun j hj g e=>by have:=(bO (t2 j hj).2.2.2.2.2 e).1;simp only[ne_eq,af];omega);have x1:=hx.kept hB1;have x2:OI W2 (c.B+1) (.slice la ln lc) x.l:=dA x1 hg (fun g e=>fM x1 r1' hint e);have x3:OI (W2.setCell ⟨c.B,0,none⟩ v') (c.B+1) (.slice la ln lc) x.l:=dA x2 gs (fun g e=>by have:=(bO x2 e).1;simp only[ne_eq,af];omega);have hr3:=dA hrow gs (fun g e=>by have:=(bO hrow e).1;simp only[ne_eq,af];omega);have b1:=K.eY.trans (hB1.mono K.eY.size);have b2:=dB b1 hg (fun g e=>by have:=vB g e;omega);have b3:=dB b2 gs (fun g e=>by cases e;exact hW);refine⟨b3,bx3,?_,⟨vs++[(x.k,x.d,x.a,x.b,x.n, .slice la ln lc)],?_,?_,fun j hj=>?_,fun j hj g e=>?_⟩,og3,⟨(gs.os.trans hg.os).trans hB1.os,(gs.tape.trans hg.tape).trans hB1.tape,(gs.output.trans hg.output).trans hB1.output,Nat.le_trans hB1.size (Nat.le_trans hg.size gs.size),fun i hi hb hv hv2=>?_,?_, .inl rfl⟩⟩;{exact Nat.le_trans K.sz (Nat.le_trans hB1.size (Nat.le_trans hg.size gs.size))};{rw[nD,List.length_append,List.length_singleton];exact hr3};{rw[List.length_append,List.length_append,r2];rfl};{rw[List.length_append,List.length_singleton]at hj;by_cases hjl:j<out.length;{have e1:(vs++[(x.k,x.d,x.a,x.b,x.n,Value.slice la ln lc)]).getD j eP=vs.getD j eP:=by{rw[ah,List.getElem?_append_left (by omega),←ah]};have e2:((out++[(x,tg)]).map (·.1)).getD j .z=(out.map (·.1)).getD j .z:=by{rw[List.map_append,ah,List.getElem?_append_left (by simpa using hjl),←ah]};rw[e1,e2];exact t3 j hjl};have ej:j=out.length:=by{omega};have e1:(vs++[(x.k,x.d,x.a,x.b,x.n,Value.slice la ln lc)]).getD j eP=(x.k,x.d,x.a,x.b,x.n,Value.slice la ln lc):=by{rw[ah,List.getElem?_append_right (by omega),r2,ej];simp};have e2:((out++[(x,tg)]).map (·.1)).getD j .z=x:=by{rw[List.map_append,ah,List.getElem?_append_right (by simp;omega)];simp[ej]};rw[e1,e2];exact⟨rfl,rfl,rfl,rfl,rfl,x3⟩};{rw[List.length_append,List.length_singleton]at hj;by_cases hjl:j<out.length;{have e1:(vs++[(x.k,x.d,x.a,x.b,x.n,Value.slice la ln lc)]).getD j eP=vs.getD j eP:=by{rw[ah,List.getElem?_append_left (by omega),←ah]};rw[e1]at e;exact r4 j hjl g e};have ej:j=out.length:=by{omega};have e1:(vs++[(x.k,x.d,x.a,x.b,x.n,Value.slice la ln lc)]).getD j eP=(x.k,x.d,x.a,x.b,x.n,Value.slice la ln lc):=by{rw[ah,List.getElem?_append_right (by omega),r2,ej];simp};rw[e1]at e;exact hap g e};{exact(gs.block i (aj hi (Nat.le_trans hB1.size hg.size)) (by simpa using hb)).trans ((hg.block i (aj hi hB1.size) (fun e=>hv e.symm)).trans (hB1.block i hi))};rcases hat with e|e;{exact .inl e};exact .inr ⟨_,e,hB1.size⟩
theorem MK.goal {c:LX}{W0 W W1 W2:World}{v vg l6:Value}{out:List (Ln×Int)}{P:Nat->Prop}{x:Ln}{tg:Int}(hW:W0.heap.size<=c.B)(hb:Below W0.heap.size W0 W)(hbx:bi W c.B (c.eG v vg))(hsz:c.B+1<=W.heap.size)(hvs:∃vs:List Lv,W.ownsRow (c.B+1) 59 6 v (out++[(x,tg)]).length (cZ vs)/\vs.length=(out++[(x,tg)]).length/\gL W (c.B+1) (out++[(x,tg)]).length vs ((out++[(x,tg)]).map (·.1))/\∀j,j<(out++[(x,tg)]).length->∀g,(vs.getD j eP).2.2.2.2.2.ownBlock=some g->vg.ownBlock≠some g/\P g)(hgo:OI W (c.B+1) vg (out.map (·.2)))(hB1:Below W.heap.size W W1)(hrow:W2.ownsRow (c.B+1) 2 1 l6 (out.length+1) ((out.map (·.2)).map iv++[.int .i64 tg]))(hg:W1.grownBy W2 vg.ownBlock)(hat:l6.ownBlock=vg.ownBlock\/l6.ownBlock=some W1.heap.size):MK c W0 (W2.setCell ⟨c.B,1,none⟩ l6) v l6 (out++[(x,tg)]) P/\FX c v vg v l6 W (W2.setCell ⟨c.B,1,none⟩ l6):=by obtain⟨vs,r1,r2,r3,r4⟩:=hvs;have gB:∀g,vg.ownBlock=some g->c.B+1<=g:=fun g hg=>(bO hgo hg).1;have gs:=aF W2 ⟨c.B,1,none⟩ l6;have bx3:=((hbx.kept hB1).bS hg (fun e=>by have:=gB c.B e;omega)).set 1 l6;have hint:59≠2:=by{decide};have U9:OI W1 (c.B+1) vg (out.map (·.2)):=hgo.kept hB1;have s1:=aH r1 hB1;have s2:=dA s1 hg (fun g e=>fM s1 U9 hint e);have s3:=dA s2 gs (fun g e=>by have:=(bO s2 e).1;simp only[ne_eq,af];omega);have t1:=r3.kept hB1;have t2:=t1.bS hg (fun j hj g e=>(r4 j hj g e).1);have t3:=t2.bS gs (fun j hj g e=>by have:=(bO (t2 j hj).2.2.2.2.2 e).1;simp only[ne_eq,af];omega);have hr3:=dA hrow gs (fun g e=>by have:=(bO hrow e).1;simp only[ne_eq,af];omega);have b1:=hb.trans (hB1.mono hb.size);have b2:=dB b1 hg (fun g e=>by have:=gB g e;omega);have b3:=dB b2 gs (fun g e=>by cases e;exact hW);refine⟨⟨b3,bx3,Nat.le_trans hsz (Nat.le_trans hB1.size (Nat.le_trans hg.size gs.size)),⟨vs,s3,r2,t3,fun j hj g e=>?_⟩,?_⟩,⟨(gs.os.trans hg.os).trans hB1.os,(gs.tape.trans hg.tape).trans hB1.tape,(gs.output.trans hg.output).trans hB1.output,Nat.le_trans hB1.size (Nat.le_trans hg.size gs.size),fun i hi hb hv hv2=>?_, .inl rfl,?_⟩⟩;{rcases hat with e'|e';{rw[e'];exact r4 j hj g e};rw[e'];have:=(bO (t1 j hj).2.2.2.2.2 e).2;refine⟨?_,(r4 j hj g e).2⟩;simp only[ne_eq,af];omega};{show World.ownsRow _ _ _ _ _ _ _;rw[List.map_append,List.length_append,List.map_append,List.length_map];exact hr3};{exact(gs.block i (aj hi (Nat.le_trans hB1.size hg.size)) (by simpa using hb)).trans ((hg.block i (aj hi hB1.size) (fun e=>hv2 e.symm)).trans (hB1.block i hi))};rcases hat with e|e;{exact .inl e};exact .inr ⟨_,e,hB1.size⟩
theorem aL (c:LX)(W0 W:World)(v vg:Value)(out:List (Ln×Int))(P:Nat->Prop)(hW:W0.heap.size<=c.B)(K:MK c W0 W v vg out P)(x:Ln)(la:Option Addr)(ln lc:Nat)(hx:OI W (c.B+1) (.slice la ln lc) x.l)(hap:∀g,(Value.slice la ln lc).ownBlock=some g->vg.ownBlock≠some g/\P g)(tg:Int)(hlen:out.length<=1000):Calls Tryz.prog 103 #[.pointer (some ⟨c.B,0,none⟩), .agg #[.int .i64 x.k, .int .i64 x.d, .int .i64 x.a, .int .i64 x.b, .int .i64 x.n, .slice la ln lc], .int .i64 tg] W fun e w'=>∃v' l6,e= .returned (.tuple #[])/\MK c W0 w' v' l6 (out++[(x,tg)]) P/\FX c v vg v' l6 W w':=by obtain⟨i0,hi,hz0,hz1,hz2⟩:=info_parts vw;obtain⟨j0,hj,hy0,hy1,hy2⟩:=info_parts bU;have hB1:=aA W (.cells #[.int .i64 x.k, .int .i64 x.d, .int .i64 x.a, .int .i64 x.b, .int .i64 x.n, .slice la ln lc] 59);have hB2:=hB1.trans ((aA _ (.cells #[.int .i64 x.k, .int .i64 x.d, .int .i64 x.a, .int .i64 x.b, .int .i64 x.n, .slice la ln lc] 59)).mono hB1.size);have hB3:=hB2.trans ((Below.refl _ _).drew.mono hB2.size);obtain⟨vs,hvs⟩:=K.row;obtain⟨av,cv,rfl⟩:=dE hvs.1;have hgo:W.ownsRow (c.B+1) 2 1 vg out.length ((out.map (·.2)).map iv):=by{have:=K.zF;unfold OI at this;rwa [List.length_map]at this};obtain⟨ag,cg,rfl⟩:=dE hgo;have hr2:=aH (aH hvs.1 hB2) (Below.refl _ _).drew;have hb0:=K.box;have hb2:=(K.box.kept hB2).kept (Below.refl _ _).drew;have d0:=(hb0.2 0 _ rfl).1;have hvB:∀g,(Value.slice av out.length cv).ownBlock=some g->c.B+1<=g:=fun g hg=>(bO hvs.1 hg).1;have HRW:=ae hr2;have HB:=ae hb2;have HK:=ae (ak K (ak hvs (ak hx (ak hap hB3))));have hsz:c.B<W.heap.size:=K.sz;clear hb0 hb2 hr2 hB1 hB2 hB3 hvs K hx hap hgo;go_enter Tryz.func103,Tryz.ntmps103;go_wp2;go_region_law (refine zl _ rfl (.tmp 10) (.tmp 12) 24 rfl (c.B+1) 59 i0 (.agg #[.int .i64 0, .int .i64 0, .int .i64 0, .int .i64 0, .int .i64 0, .slice none 0 0]) 6 64 Tryz.underlying24 hi hz0 hz1 hz2 rfl (by decide) (.slice av out.length cv) out.length (cZ vs) (by simp[Act.eval]) HRW.out ⟨W.heap.size+1,0,none⟩ 1 1 [.int .i64 x.k, .int .i64 x.d, .int .i64 x.a, .int .i64 x.b, .int .i64 x.n, .slice la ln lc] (by simp[Act.eval]) rfl (uF (W.alloc (.cells #[.int .i64 x.k, .int .i64 x.d, .int .i64 x.a, .int .i64 x.b, .int .i64 x.n, .slice la ln lc] 59)) _ _ _ _ _ _ _ 59 _ (by simp) (fun i=>rfl)) (by simp[Value.oneCell']) (by simp only[maxLen];omega) (by omega) (by simp;omega) ?_;intro v' wA hown' hgrow _ hat;obtain⟨g',cap',rfl⟩:=ownsRow_succ hown';have pF:=HB.out.bS hgrow (fun e=>by have:=hvB c.B e;omega);have cA:=(pF.2 0 _ rfl).1;have fA:=(pF.2 0 _ rfl).2;have jP:=ae (ak hown' (ak hgrow hat));have lA:=pF.1;clear hown' hgrow pF hat);all_goals have hM:=MK.line HK.out.1 hW HK.out.2.2.2.2 x la ln lc HK.out.2.2.1 HK.out.2.2.2.1 vs HK.out.2.1 jP.out.1 jP.out.2.1 jP.out.2.2 tg;clear jP HRW HB cA fA lA;generalize hW3:wA.setCell ⟨c.B,0,none⟩ (.slice (some ⟨g',0,none⟩) (out.length+1) cap')=W3 at hM;obtain⟨m1,m2,m3,m4,m5,m6⟩:=hM;have c1:=(m2.2 1 _ rfl).1;have f1:=(m2.2 1 _ rfl).2;have l3:c.B<W3.heap.size:=m3;have nN:=aA W3 (.cells #[.int .i64 tg] 2);have o4:(W3.alloc (.cells #[.int .i64 tg] 2)).ownsRow (c.B+1) 2 1 (.slice ag out.length cg) out.length ((out.map (·.2)).map iv):=by{have:=m5.kept nN;unfold OI at this;rwa [List.length_map]at this};have hgB:∀g,(Value.slice ag out.length cg).ownBlock=some g->c.B+1<=g:=fun g hg=>(bO o4 hg).1;have b4:=m2.kept nN;have jD:=ae o4;have sU:=ae b4;have HM:=ae (ak m1 (ak m2 (ak m3 (ak m4 (ak m5 (ak m6 nN))))));clear m1 m2 m3 m4 m5 m6 o4 b4 nN;go_wp2_with(at_builtin;refine wpList_append_own_at _ rfl _ _ 26 rfl (c.B+1) 2 j0 (.int .i64 0) 1 8 Tryz.underlying26 hj hy0 hy1 hy2 rfl (by decide) (.slice ag out.length cg) out.length _ rfl jD.out ⟨W3.heap.size,0,none⟩ 1 1 [.int .i64 tg] rfl rfl (cell_one_new _ _ _) (by simp[Value.oneCell']) (by simp only[maxLen];omega) (by omega) (by simp;omega) ?_;intro v2 wB hown2 hgrow2 _ Gt;obtain⟨g2,cap2,rfl⟩:=ownsRow_succ hown2;have Va:=sU.out.bS hgrow2 (fun e=>by have:=hgB c.B e;omega);have cB:=(Va.2 1 _ rfl).1;have fB:=(Va.2 1 _ rfl).2;have Gu:=ae (ak hown2 (ak hgrow2 Gt));have lB:=Va.1;clear hown2 hgrow2 Va Gt);(try simp only[Exit.inBlock,Exit.then]);obtain⟨m1,m2,m3,m4,m5,m6,nN⟩:=HM.out;have hF:=MK.goal hW m1 m2 m3 m4 m5 nN Gu.out.1 Gu.out.2.1 Gu.out.2.2;refine bodyPost_end (results_none rfl _ _ _) rfl ⟨_,_,rfl,hF.1,m6.trans hF.2⟩
theorem iG {c:LX}{W0 W:World}{v vg:Value}{out:List (Ln×Int)}{P:Nat->Prop}(T:TX c W0)(K:MK c W0 W v vg out P)(h:Int)(h1:-100<=h)(h2:h<=100):Calls Tryz.prog 119 #[.pointer (some ⟨c.B,0,none⟩), .int .i64 h] W fun e w'=>e= .returned (.int .i64 (Lw.bx c.f h))/\w'=W:=by have d2:=(K.box.2 2 _ rfl).1;have hok:=T.ok;have HW:Hid (Lw.bx c.f h=Lw.wd c.f+h):=rfl;have hw1:0<=Lw.wd c.f/\Lw.wd c.f<=6:=by{unfold Lw.wd;omega};generalize Lw.wd c.f=u at d2 HW hw1;clear T K hok;go_enter Tryz.func119,Tryz.ntmps119;go_wp2;go_ret;exact⟨by rw[HW.out]<;>rfl,rfl⟩
theorem Lw.xg {f:Fn}{E H:List Int}{n:Nat}{dp:Int}{t:Nat}(hlt:dp.toNat<(aG.cK f.b E n n).length)(ht:(aG.cK f.b E n n).getD dp.toNat (-1)=(t:Int)):Lw.dX f E H n dp=if aG.op f.b t=9 then((t:Int)+1,0,0)else if aG.op f.b t=10 then(aG.aU E t,Lw.bx f (H.getD t 0-1),Hg.arg f.b t)else(aG.aU E t,Lw.bx f (H.getD t 0),Hg.arg f.b t):=by unfold Lw.dX;rw[ay hlt,ht];rfl
theorem Lw.Bw {f:Fn}{E H:List Int}{n:Nat}{dp:Int}(hlt:¬dp.toNat<(aG.cK f.b E n n).length):Lw.dX f E H n dp=((f.b.length:Int)-1,Lw.bx f 0,f.g):=by unfold Lw.dX;rw[ax hlt]
theorem aO {W W':World}{p:Addr}{v:Value}(hB:Below W.heap.size W W')(h:W.cell? p=some v):W'.cell? p=some v:=(hB.cell (p:=p) (World.block_lt_of_cell? _ _ h)).trans h
theorem aG.qI (xs:List (Int×Int))(E:List Int)(a:Int):∀k,(aG.cK xs E a k).length<=k
 |0=>Nat.le_refl _
 | k+1=>by
   have:=aG.qI xs E a k
   unfold aG.cK
   split
   · rw[List.length_cons];omega
   · omega
theorem iV {c:LX}{W0 W:World}{v vg:Value}{out:List (Ln×Int)}{P:Nat->Prop}(T:TX c W0)(K:MK c W0 W v vg out P)(aI:Nat)(hat:aI<c.f.b.length)(dp:Int)(h0:0<=dp)(h9:dp<=99)
   (hJ:∀t:Nat,dp.toNat<(aG.cK c.f.b c.E aI aI).length->(aG.cK c.f.b c.E aI aI).getD dp.toNat (-1)=(t:Int)->0<=c.H.getD t 0):
   Calls Tryz.prog 120 #[.pointer (some ⟨c.B,0,none⟩), .int .i64 aI, .int .i64 dp] W fun e w'=>
     e= .returned (.tuple #[.int .i64 (Lw.dX c.f c.E c.H aI dp).1, .int .i64 (Lw.dX c.f c.E c.H aI dp).2.1, .int .i64 (Lw.dX c.f c.E c.H aI dp).2.2])/\Below W.heap.size W w':=by
 obtain⟨hH,hE,hS⟩:=T.il K
 have hLen:=T.ok.2.2.2.2.2
 have hall:=T.all
 have Tf:=T.acc.Te
 have htop:=T.acc.jR
 obtain⟨bl,hbl⟩:∃n,c.f.b.length=n:=⟨_,rfl⟩
 have hbx:=K.box
 unfold LX.eG at hbx
 rw[hbl]at hH hE hS hLen hat htop hbx
 have d4:=(hbx.2 4 _ rfl).1
 have d5:=(hbx.2 5 _ rfl).1
 have Gv:=hbx.1
 have e4:∀p:bV W,p.to.cell? ⟨c.B,4,none⟩=some (.slice c.ea bl c.ec):=fun p=>(p.h.cell (p:=⟨c.B,4,none⟩) Gv).trans d4
 have e5:∀p:bV W,p.to.cell? ⟨c.B,5,none⟩=some (.slice c.ba bl c.bc):=fun p=>(p.h.cell (p:=⟨c.B,5,none⟩) Gv).trans d5
 have hne:=bV.any W
 have HT:=ae (ak T (ak K (ak hbl (ak hbx (ak htop Tf)))))
 have hcon:=fun(W':World) (hB:Below W.heap.size W W')=>tF c.ba bl c.bc c.f.b hLen hall c.ea c.ec c.E aI hat W' (hS.kept hB) (hE.kept hB)
 clear hbx htop Tf hall d4 d5
 have hal:=aG.qI c.f.b c.E aI aI
 obtain⟨A,hAr⟩:∃A,aG.cK c.f.b c.E aI aI=A:=⟨_,rfl⟩
 have harm:=fun i hi=>aG.Bv (i:=i) HT.out.2.2.2.2.2 hAr hi
 have Tg:=ae (ak (fun(t:Nat) h1 h2=>Lw.xg (f:=c.f) (E:=c.E) (H:=c.H) (n:=aI) (dp:=dp) (t:=t) h1 h2) (fun h1=>Lw.Bw (f:=c.f) (E:=c.E) (H:=c.H) (n:=aI) (dp:=dp) h1))
 rw[hAr]at hal Tg
 simp only[hAr]at hJ hcon
 obtain⟨L,hL⟩:∃L,Lw.dX c.f c.E c.H aI dp=L:=⟨_,rfl⟩
 rw[hL]at Tg ⊢
 clear hL hAr
 go_enter Tryz.func120,Tryz.ntmps120
 go_wp2
 refine dO 9 (by kernel_rfl) (by kernel_rfl) ?_
 simp only[List.take_succ_cons,List.take_zero,List.drop_succ_cons,List.drop_zero]
 repeat(go_big_quiet_step (fail))
 refine wpQuiet_nil ?_
 rintro _ ⟨pw,rfl⟩
 have Ti:=pw.h
 have bK:=hcon _ Ti
 obtain⟨W1,hW1⟩:∃W1,pw.to=W1:=⟨_,rfl⟩
 rw[hW1]at bK Ti ⊢
 clear hcon hW1 e4 e5 hne
 go_wp2_with fail
 refine bK.mono ?_
 rintro e w1 ⟨v1,rfl,hoi,hB1⟩
 dsimp only
 obtain⟨a1,c1,rfl,Mo⟩:=hoi.slice
 have hB2:=Ti.trans (hB1.mono Ti.size)
 have hK1:=HT.out.2.1.kept hB2
 have hbx:=hK1.box
 unfold LX.eG at hbx
 rw[HT.out.2.2.1]at hbx
 have d2:=(hbx.2 2 _ rfl).1
 have d3:=(hbx.2 3 _ rfl).1
 have d4:=(hbx.2 4 _ rfl).1
 have d5:=(hbx.2 5 _ rfl).1
 have d6:=(hbx.2 6 _ rfl).1
 have Gv:=hbx.1
 have hS1:=hS.kept hB2
 have hE1:=hE.kept hB2
 have hH1:=hH.kept hB2
 have HB:=ae hB2
 have gD:=ae (fun(p:bV w1) (h:Int) h1 h2=>iG HT.out.1 (hK1.kept p.h) h h1 h2)
 have hne:=bV.any w1
 clear hoi hbx bK hB1 hB2 Ti hS hE hH
 by_cases hlt:dp.toNat<A.length
 · obtain⟨t,et,htl,U8,-⟩:=harm dp.toNat hlt
   have hge:¬((A.length:Int)<=dp):=by omega
   have htn:t<bl:=by omega
   have hxt:A.getD dp.toNat 0=(t:Int):=by
     rw[←et]
     unfold aG.aU
     rw[ah,ah,ai hlt]
     rfl
   have hdt:A.getD dp.toNat (-1)=(t:Int):=et
   have cA:∃ab ao,a1=some ⟨ab,ao,none⟩/\w1.cell? ⟨ab,ao+dp.toNat,none⟩=some (.int .i64 t):=by
     obtain⟨-,-,h3|⟨b,o,rfl,-,hh⟩⟩:=Mo
     · omega
     · exact⟨b,o,rfl,by rw[hh dp.toNat hlt,hxt]⟩
   obtain⟨ab,ao,rfl,cA⟩:=cA
   have cE:∃b o,c.ea=some ⟨b,o,none⟩/\b<w1.heap.size/\w1.cell? ⟨b,o+t,none⟩=some (.int .i64 (aG.aU c.E t)):=by
     obtain⟨hl,-,h3|⟨b,o,e,hb,hh⟩⟩:=hE1
     · omega
     · refine⟨b,o,e,hb,?_⟩
       rw[hh t htn]
       unfold aG.aU
       rw[ah,ah,ai (by omega)]
       rfl
   obtain⟨eb,eo,ee,lE,cE⟩:=cE
   have cH:∃b o,c.ha=some ⟨b,o,none⟩/\b<w1.heap.size/\w1.cell? ⟨b,o+t,none⟩=some (.int .i64 (c.H.getD t 0)):=by
     obtain⟨hl,-,h3|⟨b,o,e,hb,hh⟩⟩:=hH1
     · omega
     · exact⟨b,o,e,hb,hh t htn⟩
   obtain⟨hb',ho',eh,lH,cH⟩:=cH
   have cS:∃b o,c.ba=some ⟨b,o,none⟩/\b<w1.heap.size/\w1.cell? ⟨b,o+t*2,none⟩=some (.int .i64 (aG.op c.f.b t))/\w1.cell? ⟨b,o+t*2+1,none⟩=some (.int .i64 (Hg.arg c.f.b t)):=by
     obtain⟨hl,-,h3|⟨b,o,e,hb,hh⟩⟩:=hS1
     · omega
     · exact⟨b,o,e,hb,(hh t htn).1,(hh t htn).2⟩
   obtain⟨sb,so,es,lS,DX,cS2⟩:=cS
   have HL:Hid (L=if aG.op c.f.b t=9 then((t:Int)+1,0,0)else if aG.op c.f.b t=10 then(aG.aU c.E t,Lw.bx c.f (c.H.getD t 0-1),Hg.arg c.f.b t)else(aG.aU c.E t,Lw.bx c.f (c.H.getD t 0),Hg.arg c.f.b t)):=Tg.out.1 t hlt hdt
   have hHb:c.H.getD t 0<=20:=HT.out.2.2.2.2.1 t htn
   have hHl:0<=c.H.getD t 0:=hJ t hlt hdt
   obtain⟨p,hp⟩:∃p,aG.op c.f.b t=p:=⟨_,rfl⟩
   obtain⟨q,hq⟩:∃q,Hg.arg c.f.b t=q:=⟨_,rfl⟩
   obtain⟨u,hu⟩:∃u,c.H.getD t 0=u:=⟨_,rfl⟩
   obtain⟨z,hz⟩:∃z,aG.aU c.E t=z:=⟨_,rfl⟩
   rw[hp,hq,hu,hz]at HL
   rw[hp]at DX
   rw[hq]at cS2
   rw[hu]at cH hHb hHl
   rw[hz]at cE
   have HX1:=ae (fun(pz:bV w1)=>gD.out pz (u-1) (by omega) (by omega))
   have HX2:=ae (fun(pz:bV w1)=>gD.out pz u (by omega) (by omega))
   obtain⟨b1,hb1⟩:∃b1,Lw.bx c.f (u-1)=b1:=⟨_,rfl⟩
   obtain⟨b2,hb2⟩:∃b2,Lw.bx c.f u=b2:=⟨_,rfl⟩
   rw[hb1]at HX1 HL
   rw[hb2]at HX2 HL
   obtain⟨dn,hdn⟩:=Int.eq_ofNat_of_zero_le h0
   subst hdn
   rw[az]at cA hlt
   have hdZ:(dn:Int)<(A.length:Int):=by omega
   have htZ:(t:Int)<(bl:Int):=by omega
   rw[eh]at d3
   rw[ee]at d4
   rw[es]at d5
   have g3:∀p:bV w1,p.to.cell? ⟨c.B,3,none⟩=some (.slice (some ⟨hb',ho',none⟩) bl c.hc):=fun p=>(p.h.cell (p:=⟨c.B,3,none⟩) Gv).trans d3
   have g4:∀p:bV w1,p.to.cell? ⟨c.B,4,none⟩=some (.slice (some ⟨eb,eo,none⟩) bl c.ec):=fun p=>(p.h.cell (p:=⟨c.B,4,none⟩) Gv).trans d4
   have g5:∀p:bV w1,p.to.cell? ⟨c.B,5,none⟩=some (.slice (some ⟨sb,so,none⟩) bl c.bc):=fun p=>(p.h.cell (p:=⟨c.B,5,none⟩) Gv).trans d5
   have gE:∀p:bV w1,p.to.cell? ⟨eb,eo+t,none⟩=some (.int .i64 z):=fun p=>(p.h.cell (p:=⟨eb,eo+t,none⟩) lE).trans cE
   have gH:∀p:bV w1,p.to.cell? ⟨hb',ho'+t,none⟩=some (.int .i64 u):=fun p=>(p.h.cell (p:=⟨hb',ho'+t,none⟩) lH).trans cH
   have gS:∀pz:bV w1,pz.to.cell? ⟨sb,so+t*2+1,none⟩=some (.int .i64 q):=fun pz=>(pz.h.cell (p:=⟨sb,so+t*2+1,none⟩) lS).trans cS2
   obtain⟨al,xD⟩:∃al,A.length=al:=⟨_,rfl⟩
   rw[xD]at hdZ hlt hge hal ⊢
   clear harm Mo hS1 hE1 hH1 hxt hdt et hp hq hu hz hb1 hb2 xD hJ Tg ee eh es d2 d6
   by_cases h9':p=9
   · subst h9'
     clear g3 g4 g5 gE gH gS
     go_wp2
     go_ret3
     exact⟨by rw[HL.out];rfl,HB.out⟩
   · by_cases h10:p=10
     · subst h10
       go_wp2
       refine aS (by kernel_rfl) (by kernel_rfl) ?_
       repeat(go_big_quiet_step (first|exact gZ (HX1.out _)))
       refine wpQuiet_nil ?_
       rintro _ ⟨pz,rfl⟩
       have zQ:=pz.h
       clear g3 g4 g5 gE gH gS
       generalize pz.to=w7 at*
       go_wp2
       go_ret3
       exact⟨by rw[HL.out];rfl,HB.out.trans (zQ.mono HB.out.size)⟩
     · have e9:(p==9)=false:=by simpa using h9'
       have e10:(p==10)=false:=by simpa using h10
       go_wp2
       refine aS (by kernel_rfl) (by kernel_rfl) ?_
       repeat(go_big_quiet_step (first|exact gZ (HX2.out _)))
       refine wpQuiet_nil ?_
       rintro _ ⟨pz,rfl⟩
       have zQ:=pz.h
       clear g3 g4 g5 gE gH gS
       generalize pz.to=w7 at*
       go_wp2
       go_ret3
       exact⟨by rw[HL.out,ax h9',ax h10];rfl,HB.out.trans (zQ.mono HB.out.size)⟩
 · have hge:(A.length:Int)<=dp:=by omega
   have HL:Hid (L=((bl:Int)-1,Lw.bx c.f 0,c.f.g)):=by
     show _=_
     rw[Tg.out.2 hlt,HT.out.2.2.1]
   have HX0:=ae (fun(p:bV w1)=>gD.out p 0 (by omega) (by omega))
   have g5:∀p:bV w1,p.to.cell? ⟨c.B,5,none⟩=some (.slice c.ba bl c.bc):=fun p=>(p.h.cell (p:=⟨c.B,5,none⟩) Gv).trans d5
   have g6:∀p:bV w1,p.to.cell? ⟨c.B,6,none⟩=some (.int .i64 c.f.g):=fun p=>(p.h.cell (p:=⟨c.B,6,none⟩) Gv).trans d6
   obtain⟨bz,hbz⟩:∃bz,Lw.bx c.f 0=bz:=⟨_,rfl⟩
   rw[hbz]at HL HX0
   clear harm Mo hS1 hE1 hH1 hJ hal hbz d2 d3 d4 d5 d6
   go_wp2
   refine aS (by kernel_rfl) (by kernel_rfl) ?_
   repeat(go_big_quiet_step (first|exact gZ (HX0.out _)))
   refine wpQuiet_nil ?_
   rintro _ ⟨pz,rfl⟩
   have zQ:=pz.h
   generalize pz.to=w7 at*
   go_wp2
   go_ret3
   exact⟨by rw[HL.out];rfl,HB.out.trans (zQ.mono HB.out.size)⟩
theorem CY {w w':World}{B:Nat}{a:Option Addr}{len cap:Nat}{zs:List Int}{n₀ e k g n c:Nat}{xs:List Value}(h:w.ownsRow n₀ e k (.slice (some ⟨g,0,none⟩) n c) n xs)(hd:aM w w' B a len cap zs)(hB:B<n₀):w'.ownsRow n₀ e k (.slice (some ⟨g,0,none⟩) n c) n xs:=
 h.kept hd.2 (.inr (by have:=(h.lt g rfl).1;simp only[Value.ownBlock,ne_eq,af];omega))
theorem aM.app {w w1 w2:World}{B:Nat}{a:Option Addr}{len cap:Nat}{zs:List Int}{e k g n c:Nat}{xs:List Value}(h:aM w w1 B a len cap zs)(hB:B<w.heap.size)(hrow:w1.ownsRow w.heap.size e k (.slice (some ⟨g,0,none⟩) n c) n xs)(hg:w1.grownBy w2 (Value.slice (some ⟨g,0,none⟩) n c).ownBlock):aM w w2 B a len cap zs:=
 h.fresh hB hg (hrow.lt g rfl).1
def LD (w wr:World)(B:Nat)(a:Option Addr)(len cap:Nat)(zs:List Int)(v:Value)(n:Nat):Prop:=
 ∃(l:List (Int×Int))(g c:Nat),v= .slice (some ⟨g,0,none⟩) n c/\n=l.length/\wr.ownsRow w.heap.size 127 2 (.slice (some ⟨g,0,none⟩) n c) n (encS l)/\aM w wr B a len cap zs
theorem LD.os {w wr:World}{B:Nat}{a:Option Addr}{len cap:Nat}{zs:List Int}{v:Value}{n:Nat}(h:LD w wr B a len cap zs v n):∃l,OS wr w.heap.size v l/\aM w wr B a len cap zs:=by obtain⟨l,g,c,rfl,hn,hrow,hd⟩:=h;exact⟨l,OS.qM hrow,hd⟩
end Go.Proofs.YthamlonlgnjljaaGreat
