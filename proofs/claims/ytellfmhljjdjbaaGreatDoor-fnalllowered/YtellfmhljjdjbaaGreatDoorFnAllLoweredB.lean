/-
  Proved: at every slice of bytes the law FnAllLowered returns true and the bytes stay: of a valid module all functions are turned into lines, each as by itself; the package-level errors and errors.errorType start as the program's text lays them (the card ties them).
-/
import Derived.Test.YtellfmhljjdjbaaGreatDoorKA42
import Derived.ChangeVars
import Derived.Handed
import Derived.JoinedOf
import Derived.SevenTiedAt
import Derived.Test.YtellfmhljjdjbaaGreatDoorTie
import Derived.Test.YtellfmhljjdjbaaGreatDoorCards
namespace Go.Proofs.YtellfmhljjdjbaaGreatDoor.fnAllLowered
open Go.ChangeShapes Go.WideShapes Go.ChangeAt Go.RowKit Go.Joins Go.Deep
set_option linter.all false
set_option maxRecDepth 20000
theorem own:ownKnob Tryz.prog.godebug=none:=by kernel_rfl
theorem laidOut:laidOutB Tryz.prog=true:=by kernel_rfl
theorem drew_below {w w':World}(h:Below w.drew.heap.size w.drew w'):Below w.heap.size w w':=((Below.refl _ w).drew).trans (h.mono (by simp))
def QL (m:Nat)(E:List Ln)(y:Value)(x:World):Prop:=∃g c,y= .slice (some ⟨g,0,none⟩) m c/\LL x (some ⟨g,0,none⟩) m E
theorem QL.kept {m:Nat}{E:List Ln}{y:Value}{x x':World}(h:QL m E y x)(hB:Below x.heap.size x x'):QL m E y x':=by obtain⟨g,c,h1,h2⟩:=h;exact⟨g,c,h1,h2.kept hB⟩
set_option maxHeartbeats 16000000 in
theorem walk (a0:Option Addr)(jN cap0:Nat)(z0:List Int)(s:jH)(w:World)(bC:jv s w)(hap:mJ s w)(mY:w.cell? ⟨10,0,none⟩=some xM)(hb:Bytes w a0 jN z0):Calls Tryz.prog 4 #[.slice a0 jN cap0] w fun e w'=>e= .returned (.bool true)/\Below w.heap.size w w':=by
 have hl:=hb.1
 by_cases hbig:4096<jN
 · go_enter Tryz.func4,Tryz.ntmps4;go_wp2_with(go_at_call 7;refine(xV a0 jN cap0 _ hl).mono ?_;rintro e w' ⟨rfl,aR⟩;subst w');go_ret;exact⟨rfl,Below.refl _ _⟩
 · have Am:=nS a0 jN cap0 z0 (by omega) w hb
   go_enter Tryz.func4,Tryz.ntmps4
   go_wp2_with(go_at_call 7;refine(xV a0 jN cap0 _ hl).mono ?_;rintro e w' ⟨rfl,aR⟩;subst w')
   refine Am.mono ?_
   rintro e w1 ⟨F,nf,cv,d,fs,rfl,lX,VY,hfl,hB1⟩
   dsimp only
   have MF:d.size<=maxLen:=by simp only[maxLen];omega
   have hal:=aB w1 (.cells #[.slice (some ⟨F,0,none⟩) nf cv, .string d] 26)
   have bM:=bG.new w1 [.slice (some ⟨F,0,none⟩) nf cv, .string d] 26
   have eM:w1.alloc (.cells [Value.slice (some ⟨F,0,none⟩) nf cv, .string d].toArray 26)=w1.alloc (.cells #[.slice (some ⟨F,0,none⟩) nf cv, .string d] 26):=rfl
   rw[eM]at bM
   have hB2:=hB1.trans (hal.mono hB1.size)
   have oq:=hfl.kept hal
   have hnl:fs.length=nf:=hfl.1
   generalize hW2:w1.alloc (.cells #[.slice (some ⟨F,0,none⟩) nf cv, .string d] 26)=W2 at hal bM hB2 oq
   have KL:=fun(W:World) (hB:Below w.heap.size w W)=>(hB.cell (p:=⟨10,0,none⟩) (by have:=bC.sz;simp only;omega)).trans mY
   have Ao:=lI (cap:=cv) (bC.kept hB2 bC.sz) (hap.kept hB2) (KL W2 hB2) MF oq
   have ET:=fun(W:World) (h:FL W (some ⟨F,0,none⟩) nf fs)=>lM (some ⟨F,0,none⟩) nf cv fs d MF W h
   have Ir:=fun(W:World) (hB:Below w.heap.size w W) (h:FL W (some ⟨F,0,none⟩) nf fs) (k:Nat)=>oC (cap:=cv) (bC.kept hB bC.sz) (hap.kept hB) (KL W hB) MF h (k:Int)
   have hsv:=fun(W:World) (h:FL W (some ⟨F,0,none⟩) nf fs)=>lg (some ⟨F,0,none⟩) nf cv fs d MF W h
   have hpl:((Lw.aY fs d).2=true->(Lw.aY fs d).1=Lw.kK fs nf/\Hg.valid fs d=true/\0<nf)/\((Lw.aY fs d).2=false->(Lw.aY fs d).1=[]):=by unfold Lw.aY;by_cases hc:Hg.valid fs d=true/\Lw.sW fs=true;{rw[az hc];refine⟨fun _=>⟨by rw[hnl],hc.1,?_⟩,fun h=>by simp at h⟩;have:=(Mn.kW hc.1).len.1;omega};rw[ay hc];exact⟨fun h=>by simp at h,fun _=>rfl⟩
   have hlk:∀k,Hg.valid fs d=true->k<nf->Lw.bA fs d (k:Int)=Lw.yH fs k:=fun k hv hk=>by unfold Lw.bA;rw[az ⟨hv,by omega,by omega⟩,aA];rfl
   obtain⟨B,hBB⟩:∃B,(Lw.aY fs d).2=B:=⟨_,rfl⟩
   obtain⟨LS,hLS⟩:∃L,(Lw.aY fs d).1=L:=⟨_,rfl⟩
   rw[hBB,hLS]at Ao hpl
   simp only[hBB,hLS]at ET
   have HP:=af (au hpl (au hlk hnl))
   have HC:=af (au ET (au Ir hsv))
   have m0:=(bM.2 0 _ rfl).1
   have m1:=(bM.2 1 _ rfl).1
   clear hpl hlk hnl ET Ir hsv hBB hLS KL bC hap mY eM hfl Am hal
   go_wp2_with fail
   refine Ao.mono ?_
   rintro e w3 ⟨gi,n,ci,ws,pJ,bs,rfl,hRA,hB3⟩
   dsimp only
   have EU:=oq.kept hB3
   have yB:=bM.kept hB3
   have Ap:=hB2.trans (hB3.mono hB2.size)
   have hcon:=HC.out.1 w3 EU
   have k0:=(yB.2 0 _ rfl).1
   have k1:=(yB.2 1 _ rfl).1
   have Aw:LS.length=n:=hRA.2.1.2.1
   clear Ao m0 m1 bM oq hB3 hB2
   go_wp2_with fail
   refine hcon.mono ?_
   rintro e w4 ⟨gs,n2,cs,ws2,rfl,hRR,hB4⟩
   dsimp only
   obtain rfl:n2=n:=hRR.2.2.1.symm.trans Aw
   have Wq:=hRA.bV.kept hB4
   have Lt:=hRR.bV
   have tY:=EU.kept hB4
   have yI:=yB.kept hB4
   have EW:=Ap.trans (hB4.mono Ap.size)
   have hBq:(B==B)=true:=by simp
   have hnq:((n2:Int)==(n2:Int))=true:=by simp
   have hn4:n2<=3:=by rcases B with _|_;{have:=HP.out.1.2 rfl;rw[this]at Aw;simp at Aw;omega};have:=(HP.out.1.1 rfl).1;rw[this,Lw.kH]at Aw;omega
   clear hcon k0 k1 yB EU Ap hRA hRR hB4
   go_wp2
   go_loopw [8] (fun i wr=>∃k:Nat,i= .int .i64 (k:Int)/\k<=n2/\Below w4.heap.size w4 wr) (fun i _=>n2-(intOf i).toNat)
   case atStart=>exact⟨0,rfl,Nat.zero_le _,Below.refl _ _⟩
   case round=>
    obtain⟨k,rfl,hk,hBw⟩:=hrel
    have om:=EW.trans (hBw.mono EW.size)
    have bM:=yI.kept hBw
    by_cases hlt:k<n2
    · have Ce:(k:Int)<(n2:Int):=by omega
      have hBt:B=true:=by rcases B with _|_;{have:=HP.out.1.2 rfl;rw[this]at Aw;simp at Aw;omega};rfl
      obtain⟨hp1,hp2,hp3⟩:=HP.out.1.1 hBt
      have hnn:n2=nf:=by rw[hp1,Lw.kH]at Aw;exact Aw.symm
      obtain⟨g1,c1,x1,hl1⟩:=(Wq.kept hBw) k hlt
      obtain⟨g2,c2,x2,hl2⟩:=(Lt.kept hBw) k hlt
      have hlow:=fun(x:World) (hA:Below wr.heap.size wr x)=>HC.out.2.1 x (om.trans (hA.mono om.size)) ((tY.kept hBw).kept hA) k
      have hEk:LS.getD k []=Lw.yH fs k:=by rw[hp1];exact Lw.wo fs (by omega)
      rw[HP.out.2.1 k hp2 (by omega)]at hlow
      rw[hEk]at hl1 hl2 x1 x2
      obtain⟨E,hE⟩:∃E,Lw.yH fs k=E:=⟨_,rfl⟩
      rw[hE]at hl1 hl2 x1 x2 hlow
      obtain⟨m,hm⟩:∃m,E.length=m:=⟨_,rfl⟩
      rw[hm]at hl1 hl2 x1 x2 hlow
      have hlow:∀(x:World),Below wr.heap.size wr x->Calls Tryz.prog 9 #[.agg #[.slice (some ⟨F,0,none⟩) nf cv, .string d], .int .i64 (k:Int)] x fun e w'=>∃g c vs,e= .returned (.slice (some ⟨g,0,none⟩) m c)/\LL w' (some ⟨g,0,none⟩) m E/\Below x.heap.size x w':=fun x hA=>(hlow x hA).mono (fun e w' h=>by
       obtain⟨g,c,vs,h1,h2,h3⟩:=h
       exact⟨g,c,vs,h1,h2.ll hm,h3⟩)
      have HN:=af (au Aw (au Wq (au Lt (au tY (au yI (au EW hBw))))))
      clear hE hm hEk Aw hnn hp1 hp2 hp3 Wq Lt tY yI EW hBt om
      go_wp2
      refine jq [] [39,40,41,42,43,44,45,46,47,48,49,50,51,52,53,54,55,56,57,58,59] (fun x=>Below wr.heap.size wr x) (fun x x'=>Below x.heap.size x x') (PF (fun j y x=>j=17->QL m E y x) [some (.slice (some ⟨gi,0,none⟩) n2 ci),some (.int .i64 (k:Int)),some (.pointer (some ⟨gi,k,none⟩)),some (.slice (some ⟨g1,0,none⟩) m c1),some (.slice (some ⟨gs,0,none⟩) n2 cs),some (.int .i64 (k:Int)),some (.pointer (some ⟨gs,k,none⟩)),some (.slice (some ⟨g2,0,none⟩) m c2),some (.bool true),some (.bool false),some (.bool false),some (.slice (some ⟨gi,0,none⟩) n2 ci),some (.int .i64 (k:Int)),some (.pointer (some ⟨gi,k,none⟩)),some (.slice (some ⟨g1,0,none⟩) m c1),some (.agg #[.slice (some ⟨F,0,none⟩) nf cv, .string d]),some (.int .i64 (k:Int)),none,some (.bool true),some (.bool false),some (.bool false)]) (by kernel_rfl) (by kernel_rfl) (by simp) ((Below.refl _ _).drew) (PF.dZ (fun i y x x' hr hf h=>(hf h).kept hr)) ?_ ?_
      · refine⟨?_,?_,?_,?_,?_,?_,?_,?_,?_,?_,?_,?_,?_,?_,?_,?_,?_,?_,?_,?_,?_,trivial⟩;(all_goals intro b x hA hfr aH);refine .inl ⟨trivial,?_⟩;have e4:b.tmps[4]?.getD undef= .slice (some ⟨gi,0,none⟩) n2 ci:=aC (hfr 4 (by decide));rotate_left;refine .inl ⟨trivial,?_⟩;have e8:b.tmps[8]?.getD undef= .int .i64 (k:Int):=aC (hfr 8 (by decide));rotate_left;refine .inl ⟨trivial,?_⟩;have e39:b.tmps[39]?.getD undef=_:=aC (aH 0 (by kernel_rfl));have e40:b.tmps[40]?.getD undef=_:=aC (aH 1 (by kernel_rfl));rotate_left;refine .inl ⟨trivial,?_⟩;have e41:b.tmps[41]?.getD undef=_:=aC (aH 2 (by kernel_rfl));have qa:=bW hA x1;rotate_left;refine .inl ⟨trivial,?_⟩;have e6:b.tmps[6]?.getD undef= .slice (some ⟨gs,0,none⟩) n2 cs:=aC (hfr 6 (by decide));rotate_left;refine .inl ⟨trivial,?_⟩;have e8:b.tmps[8]?.getD undef= .int .i64 (k:Int):=aC (hfr 8 (by decide));rotate_left;refine .inl ⟨trivial,?_⟩;have e43:b.tmps[43]?.getD undef=_:=aC (aH 4 (by kernel_rfl));have e44:b.tmps[44]?.getD undef=_:=aC (aH 5 (by kernel_rfl));rotate_left;refine .inl ⟨trivial,?_⟩;have e45:b.tmps[45]?.getD undef=_:=aC (aH 6 (by kernel_rfl));have qb:=bW hA x2;rotate_left;{refine .inl ⟨trivial,?_⟩;have e42:b.tmps[42]?.getD undef=_:=aC (aH 3 (by kernel_rfl));have e46:b.tmps[46]?.getD undef=_:=aC (aH 7 (by kernel_rfl));unfold Oper.wp;generalize hK:(fun(b':Act) (x':World)=>∃y,_/\_)=K;simp only[execOp];go_simp;refine(jA _ _ m c1 c2 E x (hl1.kept hA) (hl2.kept hA)).mono ?_;rintro e w' ⟨rfl,hB'⟩;rw[←hK];exact⟨_,rfl,hA.trans (hB'.mono hA.size),rfl,hB'⟩};refine .inl ⟨trivial,?_⟩;have e47:b.tmps[47]?.getD undef=_:=aC (aH 8 (by kernel_rfl));rotate_left;refine .inl ⟨trivial,?_⟩;have e48:b.tmps[48]?.getD undef=_:=aC (aH 9 (by kernel_rfl));rotate_left;refine .inl ⟨aH 10 (by kernel_rfl),?_⟩;have e4:b.tmps[4]?.getD undef= .slice (some ⟨gi,0,none⟩) n2 ci:=aC (hfr 4 (by decide));rotate_left;refine .inl ⟨aH 10 (by kernel_rfl),?_⟩;have e8:b.tmps[8]?.getD undef= .int .i64 (k:Int):=aC (hfr 8 (by decide));rotate_left;refine .inl ⟨aH 10 (by kernel_rfl),?_⟩;have e50:b.tmps[50]?.getD undef=_:=aC (aH 11 (by kernel_rfl));have e51:b.tmps[51]?.getD undef=_:=aC (aH 12 (by kernel_rfl));rotate_left;refine .inl ⟨aH 10 (by kernel_rfl),?_⟩;have e52:b.tmps[52]?.getD undef=_:=aC (aH 13 (by kernel_rfl));have qa:=bW hA x1;rotate_left;refine .inl ⟨aH 10 (by kernel_rfl),?_⟩;have e3:b.tmps[3]?.getD undef= .pointer (some ⟨w1.heap.size,0,none⟩):=aC (hfr 3 (by decide));have q0:=((bM.kept hA).2 0 _ rfl).1;have q1:=((bM.kept hA).2 1 _ rfl).1;rotate_left;refine .inl ⟨aH 10 (by kernel_rfl),?_⟩;have e8:b.tmps[8]?.getD undef= .int .i64 (k:Int):=aC (hfr 8 (by decide));rotate_left;{refine .inl ⟨aH 10 (by kernel_rfl),?_⟩;have e54:b.tmps[54]?.getD undef=_:=aC (aH 15 (by kernel_rfl));have e55:b.tmps[55]?.getD undef=_:=aC (aH 16 (by kernel_rfl));unfold Oper.wp;generalize hK:(fun(b':Act) (x':World)=>∃y,_/\_)=K;simp only[execOp];go_simp;refine(hlow x hA).mono ?_;rintro e w' ⟨g9,c9,vs9,rfl,ho9,hB'⟩;rw[←hK];exact⟨_,rfl,hA.trans (hB'.mono hA.size),fun _=>⟨g9,c9,rfl,ho9⟩,hB'⟩};{refine .inl ⟨aH 10 (by kernel_rfl),?_⟩;have e53:b.tmps[53]?.getD undef=_:=aC (aH 14 (by kernel_rfl));obtain⟨g9,c9,hy9,UM⟩:=(aH 17 (by kernel_rfl)) rfl;have e56:b.tmps[56]?.getD undef= .slice (some ⟨g9,0,none⟩) m c9:=aC hy9;unfold Oper.wp;generalize hK:(fun(b':Act) (x':World)=>∃y,_/\_)=K;simp only[execOp];go_simp;refine(jA _ _ m c1 c9 E x (hl1.kept hA) UM).mono ?_;rintro e w' ⟨rfl,hB'⟩;rw[←hK];exact⟨_,rfl,hA.trans (hB'.mono hA.size),rfl,hB'⟩};refine .inl ⟨aH 10 (by kernel_rfl),?_⟩;have e57:b.tmps[57]?.getD undef=_:=aC (aH 18 (by kernel_rfl));rotate_left;refine .inl ⟨trivial,?_⟩;have e49:b.tmps[49]?.getD undef=_:=aC (aH 10 (by kernel_rfl));have e58:b.tmps[58]?.getD undef=_:=aC (aH 19 (by kernel_rfl));rotate_left;all_goals(unfold Oper.wp;generalize hK:(fun(b':Act) (x':World)=>∃y,_/\_)=K;simp only[execOp];go_simp;rw[←hK];exact⟨_,rfl,hA,rfl,Below.refl _ _⟩)
      · intro b x hA hF hb;have e39:b.eval (.tmp 39)=_:=hF 0 (by decide);have e40:b.eval (.tmp 40)=_:=hF 1 (by decide);have e41:b.eval (.tmp 41)=_:=hF 2 (by decide);have e42:b.eval (.tmp 42)=_:=hF 3 (by decide);have e43:b.eval (.tmp 43)=_:=hF 4 (by decide);have e44:b.eval (.tmp 44)=_:=hF 5 (by decide);have e45:b.eval (.tmp 45)=_:=hF 6 (by decide);have e46:b.eval (.tmp 46)=_:=hF 7 (by decide);have e47:b.eval (.tmp 47)=_:=hF 8 (by decide);have e48:b.eval (.tmp 48)=_:=hF 9 (by decide);have e49:b.eval (.tmp 49)=_:=hF 10 (by decide);have e50:b.eval (.tmp 50)=_:=hF 11 (by decide);have e51:b.eval (.tmp 51)=_:=hF 12 (by decide);have e52:b.eval (.tmp 52)=_:=hF 13 (by decide);have e53:b.eval (.tmp 53)=_:=hF 14 (by decide);have e54:b.eval (.tmp 54)=_:=hF 15 (by decide);have e55:b.eval (.tmp 55)=_:=hF 16 (by decide);obtain⟨z56,e56⟩:∃z,b.eval (.tmp 56)=z:=⟨_,rfl⟩;have e57:b.eval (.tmp 57)=_:=hF 18 (by decide);have e58:b.eval (.tmp 58)=_:=hF 19 (by decide);have e59:b.eval (.tmp 59)=_:=hF 20 (by decide);simp only[List.foldl,e39,e40,e41,e42,e43,e44,e45,e46,e47,e48,e49,e50,e51,e52,e53,e54,e55,e56,e57,e58,e59]at hb;clear hF e39 e40 e41 e42 e43 e44 e45 e46 e47 e48 e49 e50 e51 e52 e53 e54 e55 e56 e57 e58 e59;subst hb;simp only[Act.put,List.setIfInBounds_toArray,List.set_cons_succ,List.set_cons_zero];have HF:=af (hBw.trans (hA.mono hBw.size));clear hA hl1 hl2 x1 x2 bM hlow;go_wp2;go_roundw;(case rel=>exact⟨k+1,by congr 1<;>omega,by omega,HF.out⟩);case measure=>simp[intOf];omega
    · obtain rfl:k=n2:=by{omega};have Ce:¬((k:Int)<(k:Int)):=by{omega};have q0:=(bM.2 0 _ rfl).1;have q1:=(bM.2 1 _ rfl).1;rcases B with _|_;{have h0:k=0:=by{have:=HP.out.1.2 rfl;rw[this]at Aw;simpa using Aw.symm};subst h0;clear Wq Lt tY yI EW HC HP Aw;go_wp2;go_ret;exact⟨rfl,om⟩};obtain⟨hp1,hp2,hp3⟩:=HP.out.1.1 rfl;have hnn:k=nf:=by{rw[hp1,Lw.kH]at Aw;exact Aw.symm};subst hnn;have hcv:=HC.out.2.2 wr (tY.kept hBw);rw[hp2]at hcv;have hpZ:(0:Int)<(k:Int):=by{omega};have hkq:((k:Int)==(k:Int))=true:=by{simp};clear Wq Lt tY yI EW HC HP Aw hp1 hp2;go_wp2_with(go_at_call 15;refine hcv.mono ?_;rintro e w7 ⟨rfl,bI⟩;dsimp only);go_ret;exact⟨rfl,om.trans (bI.mono om.size)⟩
def lv (s:jH):List (String×Nat×Value):=[("loop.example/g00363/impl.errNoFunc",0,cK s.fn),("loop.example/g00363/impl.errNoModule",1,cK s.md),("loop.example/g00363/impl.errNoBody",2,cK s.bd),("loop.example/g00363/impl.errTooHigh",3,cK s.hi),("loop.example/g00363/impl.errNoLocal",4,cK s.lo),("loop.example/g00363/impl.errNoCallee",5,cK s.ca),("loop.example/g00363/impl.errNoLabel",6,cK s.la),("loop.example/g00363/impl.errNoElse",7,cK s.el),("loop.example/g00363/impl.errTooFew",8,cK s.fe),("loop.example/g00363/impl.errUneven",9,cK s.un)]
theorem lv_in {s:jH}{x:String×Nat×Value}(h:x∈lv s):x∈mE s:=by simp only[lv,List.mem_cons,List.not_mem_nil,or_false]at h;rcases h with rfl|rfl|rfl|rfl|rfl|rfl|rfl|rfl|rfl|rfl<;>simp[mE]
set_option maxRecDepth 100000 in
theorem lifted (os:Os)(started:os.Started)(H:Type)(enc:TypeId×Value->H):ReturnsInHanded {} Tryz.checked os 4 .any (fun w args=>(Rows.fnAllLoweredSpec.pre enc Tryz.prog Tryz.f4 Rows.fnAllLoweredRow.domain false w args/\laidMetH Tryz.prog Rows.fnAllLoweredRow.laid w)/\sizedMet enc Tryz.prog Tryz.f4 (OpenSpec.ofChange Rows.fnAllLoweredSpec) false w args) (Rows.fnAllLoweredSpec.post enc Tryz.prog Tryz.f4 false true false false):=by refine returnsInHanded_of_change_and (C:=Tryz.checked) (X:=fun w _=>laidMetH Tryz.prog Rows.fnAllLoweredRow.laid w) (fun _ _ _ hh h=>h.of_heap hh) own started (by kernel_rfl) Tryz.func4 (ChangeSpec.witness_at (enc:=enc) (C:=Tryz.checked) (os:=os) (X:=fun w _=>laidMetH Tryz.prog Rows.fnAllLoweredRow.laid w) false ({(World.holding Tryz.prog os ⟨#[.cells #[.string ⟨#[105,116,32,105,115,32,110,111,116,32,77,111,100,117,108,101,79,107]⟩] 278, .cells #[.string ⟨#[116,104,101,114,101,32,105,115,32,110,111,32,115,117,99,104,32,70,117,110,99]⟩] 278, .cells #[.string ⟨#[105,116,115,32,98,111,100,121,32,105,115,32,110,111,116,32,78,101,115,116,79,107]⟩] 278, .cells #[.string ⟨#[116,104,101,114,101,32,105,115,32,110,111,32,115,117,99,104,32,108,111,99,97,108]⟩] 278, .cells #[.string ⟨#[116,104,101,114,101,32,105,115,32,110,111,32,115,117,99,104,32,70,117,110,99,32,116,111,32,98,101,32,99,97,108,108,101,100]⟩] 278, .cells #[.string ⟨#[116,104,101,114,101,32,105,115,32,110,111,32,108,97,98,101,108,32,115,111,32,102,97,114,32,111,117,116]⟩] 278, .cells #[.string ⟨#[97,110,32,83,112,73,102,32,119,105,116,104,111,117,116,32,83,112,69,108,115,101,32,105,115,32,119,105,100,101]⟩] 278, .cells #[.string ⟨#[116,104,101,114,101,32,97,114,101,32,116,111,111,32,102,101,119,32,111,110,32,116,104,101,32,112,105,108,101]⟩] 278, .cells #[.string ⟨#[116,104,101,114,101,32,97,114,101,32,110,111,116,32,106,117,115,116,32,97,115,32,109,97,110,121,32,97,115,32,116,104,101,32,119,105,100,116,104]⟩] 278, .cells #[.string ⟨#[116,104,101,114,101,32,97,114,101,32,109,111,114,101,32,116,104,97,110,32,77,97,120,72,101,105,103,104,116]⟩] 278],#[],[]⟩)with heap:=(((((((((((((((((((((((World.holding Tryz.prog os ⟨#[.cells #[.string ⟨#[105,116,32,105,115,32,110,111,116,32,77,111,100,117,108,101,79,107]⟩] 278, .cells #[.string ⟨#[116,104,101,114,101,32,105,115,32,110,111,32,115,117,99,104,32,70,117,110,99]⟩] 278, .cells #[.string ⟨#[105,116,115,32,98,111,100,121,32,105,115,32,110,111,116,32,78,101,115,116,79,107]⟩] 278, .cells #[.string ⟨#[116,104,101,114,101,32,105,115,32,110,111,32,115,117,99,104,32,108,111,99,97,108]⟩] 278, .cells #[.string ⟨#[116,104,101,114,101,32,105,115,32,110,111,32,115,117,99,104,32,70,117,110,99,32,116,111,32,98,101,32,99,97,108,108,101,100]⟩] 278, .cells #[.string ⟨#[116,104,101,114,101,32,105,115,32,110,111,32,108,97,98,101,108,32,115,111,32,102,97,114,32,111,117,116]⟩] 278, .cells #[.string ⟨#[97,110,32,83,112,73,102,32,119,105,116,104,111,117,116,32,83,112,69,108,115,101,32,105,115,32,119,105,100,101]⟩] 278, .cells #[.string ⟨#[116,104,101,114,101,32,97,114,101,32,116,111,111,32,102,101,119,32,111,110,32,116,104,101,32,112,105,108,101]⟩] 278, .cells #[.string ⟨#[116,104,101,114,101,32,97,114,101,32,110,111,116,32,106,117,115,116,32,97,115,32,109,97,110,121,32,97,115,32,116,104,101,32,119,105,100,116,104]⟩] 278, .cells #[.string ⟨#[116,104,101,114,101,32,97,114,101,32,109,111,114,101,32,116,104,97,110,32,77,97,120,72,101,105,103,104,116]⟩] 278],#[],[]⟩).heap).modify 1 fun| .cells _ t fz=> .cells #[cK ⟨(World.holding Tryz.prog default ⟨#[],#[],[]⟩).heap.size+0,0,none⟩] t fz|o=>o)).modify 0 fun| .cells _ t fz=> .cells #[cK ⟨(World.holding Tryz.prog default ⟨#[],#[],[]⟩).heap.size+1,0,none⟩] t fz|o=>o)).modify 2 fun| .cells _ t fz=> .cells #[cK ⟨(World.holding Tryz.prog default ⟨#[],#[],[]⟩).heap.size+2,0,none⟩] t fz|o=>o)).modify 4 fun| .cells _ t fz=> .cells #[cK ⟨(World.holding Tryz.prog default ⟨#[],#[],[]⟩).heap.size+3,0,none⟩] t fz|o=>o)).modify 5 fun| .cells _ t fz=> .cells #[cK ⟨(World.holding Tryz.prog default ⟨#[],#[],[]⟩).heap.size+4,0,none⟩] t fz|o=>o)).modify 6 fun| .cells _ t fz=> .cells #[cK ⟨(World.holding Tryz.prog default ⟨#[],#[],[]⟩).heap.size+5,0,none⟩] t fz|o=>o)).modify 7 fun| .cells _ t fz=> .cells #[cK ⟨(World.holding Tryz.prog default ⟨#[],#[],[]⟩).heap.size+6,0,none⟩] t fz|o=>o)).modify 8 fun| .cells _ t fz=> .cells #[cK ⟨(World.holding Tryz.prog default ⟨#[],#[],[]⟩).heap.size+7,0,none⟩] t fz|o=>o)).modify 9 fun| .cells _ t fz=> .cells #[cK ⟨(World.holding Tryz.prog default ⟨#[],#[],[]⟩).heap.size+8,0,none⟩] t fz|o=>o)).modify 3 fun| .cells _ t fz=> .cells #[cK ⟨(World.holding Tryz.prog default ⟨#[],#[],[]⟩).heap.size+9,0,none⟩] t fz|o=>o)).modify 10 fun| .cells _ t fz=> .cells #[xM] t fz|o=>o)}:World) #[.slice none 0 0] 8 rfl (by kernel_rfl) (by kernel_rfl) (by kernel_rfl) (by kernel_rfl) (by kernel_rfl) (qo os _)) ?_;intro W base args ds gs before hval0 hW _ _ hL _;have hval:∀(j:Nat) t v,Tryz.f4.params[j]?=some t->args[j]?=some v->Value.okWide Tryz.prog W .any base t v:=hval0;have hW':=hW;obtain⟨p,q,tZ,EZ,rfl,hfz,hnd⟩:=hW;have hA:DataW.TrodAll enc Tryz.prog W 0 (fun _=>true) true Tryz.f4.params.toList args.toList ds p:=tZ;rw[Tryz.params4]at hA hval;obtain⟨v0,WT,d0,ds0,p0,q0,hargs,rfl,rfl,h0,r0⟩:=trodAll_cons hA;obtain⟨rfl,rfl,rfl⟩:=trodAll_nil r0;obtain rfl:args=#[v0]:=by{cases args;simp_all};have k0:=h0;have Wp:∀x∈p0,x.block<W.heap.size:=by{obtain⟨m,hm⟩:=k0;exact DataW.trod_lt m _ _ _ hm};obtain⟨a0,jN,cap0,rfl⟩:=okWide_slice Tryz.underlying22 (hval 0 22 v0 rfl rfl);obtain⟨z0,hb⟩:∃zs,Bytes W a0 jN zs:=by{obtain⟨fuel,hf⟩:=h0;rcases open_ints Tryz.underlying22 Tryz.underlying5 (by kernel_rfl) hf with⟨hcs,_⟩|⟨x,l,c,zs,hcs,_,hl,hm,hz,_,hcell,hwz⟩;{simp[Value.cells]at hcs;obtain⟨rfl,rfl,rfl⟩:=hcs;exact⟨[],Nat.zero_le _, .inl rfl⟩};simp[Value.cells]at hcs;obtain⟨rfl,rfl,rfl⟩:=hcs;have hz':zs.length=cap0:=by{simpa using hz};refine⟨zs,by omega,?_⟩;by_cases h00:jN=0;{exact .inl h00};right;obtain⟨b,off,spot⟩:=x;have hc:=hcell 0 (by omega);have hspot:spot=none:=by{simpa[Addr.add]using World.cell?_spot hc};subst hspot;refine⟨b,off,rfl,?_,fun j hj=>?_,fun j=>?_⟩;{have:=block_lt_of_cell hc;simpa[Addr.add]using this};{have:=hcell j (by omega);by_cases hj0:j=0;{subst hj0;simpa[Addr.add]using this};simpa[Addr.add,hj0]using this};have:=range_u8 hwz j;simpa[ai]using this};have hL2:laidMet Tryz.prog oK W/\handlesMet Tryz.prog [("errors.errorType",Rows.laid_errors_errorType)] W:=hL;have mY:=l6 hL2.2;obtain⟨s,bC,hvar,hap⟩:=pM (by have:=World.block_lt_of_cell? _ _ mY;exact this) hL2.1;have vr:∀{W2:World}(sp:Nat->Bool),(∀x∈mE s,W2.var? Tryz.prog x.1=some #[x.2.2])->DataW.TrodVars enc Tryz.prog W2 sp ((lv s).map (·.1)) ((lv s).map fun x=>tok enc x.2.2) ((lv s).map fun x=> .cell x.2.1 0):=fun sp h=>oH enc sp (lv s) (fun x hx=>rM h x (lv_in hx));have hV:DataW.TrodVars enc Tryz.prog W (fun _=>true) ((lv s).map (·.1)) gs q:=EZ;obtain⟨rfl,rfl⟩:=hV.unique (vr _ hvar);clear tZ hval0 EZ hV;refine(walk a0 jN cap0 z0 s W bC hap mY hb).mono fun e W' ⟨he,bQ⟩=>?_;subst he;exact⟨_,rfl,_,_,_,[],_,_,hW',trodAll_mk1 (shut_bool Tryz.underlying4 _),(trodAll_cons_mk (Below.trod laidOut (by kernel_rfl) (of_decide_eq_true (by kernel_rfl)) k0 bQ Wp) trodAll_mk0),vr _ (pY hvar bQ bC.sz),bQ.frame _,fun h=>by cases h⟩
theorem over:Rows.fnAllLoweredRow.holds Tryz.pinned (OpenSpec.ofChange Rows.fnAllLoweredSpec):=
  OpenClaim.holds_of_wide 4 Tryz.f4 rfl rfl rfl rfl rfl rfl rfl ⟨rfl,rfl,rfl,rfl,rfl⟩ rfl rfl rfl rfl rfl (by kernel_rfl) Tryz.func4 (by kernel_rfl)
    (of_decide_eq_true (by kernel_rfl)) (by unfold Func.isWrapper;first|(rw[az (by decide+kernel)];kernel_rfl)|(rw[ay (by decide+kernel)];exact⟨rfl,rfl⟩))
    (fun os started H enc _=>lifted os started H enc)
theorem proved:Rows.FnAllLoweredCardSaid:=
  Claim7.holds_tied_plain_at .later [] [.handle, .sentinel, .sentinel, .sentinel, .sentinel, .sentinel, .sentinel, .sentinel, .sentinel, .sentinel, .sentinel] true (true, "cb744010eed1bd9478748c804ba0c298ab54bfcd8a2a09e4d3a749c79db26194") true
    over (fun _ h=>by cases h) (by kernel_rfl) (fun _ h=>by cases h) fnAllLowered_row_tie rfl ⟨rfl,rfl⟩ (by kernel_rfl) rfl
    (fun f fn hf hfn=>by
      obtain rfl:f=4:=Option.some.inj ((show Tryz.prog.funcNamed "loop.example/g00363/laws.FnAllLowered" =some 4 by kernel_rfl).symm.trans hf) |>.symm
      obtain rfl:fn=Tryz.f4:=(Option.some.inj (Tryz.func4.symm.trans hfn)).symm
      refine⟨by kernel_rfl,fun j t ht=>?_⟩
      rw[Tryz.params4]at ht
      rcases j with _|j
      · have h:t=22:=by simpa using ht.symm
        subst h
        exact(show Tryz.prog.wantsStandIn 22=false by kernel_rfl)
      · simp at ht)
    (by kernel_rfl)
#print axioms proved
end Go.Proofs.YtellfmhljjdjbaaGreatDoor.fnAllLowered
