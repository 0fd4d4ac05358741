/-
  Own texts for a law: Lo14 Al2 Al3 Draw1r Draw1m Gen1
-/
import Derived.Test.YtellfmhljjdjbaaGreatDoorKA32
import Derived.Test.YtellfmhljjdjbaaGreatDoorKA35
namespace Go.Proofs.YtellfmhljjdjbaaGreatDoor
open Go.RowKit Go.Shelf
set_option linter.all false
set_option maxRecDepth 100000
set_option maxHeartbeats 16000000
theorem jW.none (W:World)(n₀:Nat)(hn:n₀<=W.heap.size):jW (W.alloc (.cells #[] 41)) n₀ (.slice (some ⟨W.heap.size,0,none⟩) 0 0) [] []:=
 ⟨⟨rfl, .inr ⟨W.heap.size,0,#[],rfl,hn,World.alloc_heap_new W _,Nat.le_refl _,by simp[maxLen],rfl,rfl⟩⟩,rfl,fun j hj=>by simp at hj,fun i j _ hj=>by simp at hj⟩
theorem oC {s:jH}{w:World}{a:Option Addr}{len:Nat}{cap:Nat}{fs:List Fn}{d:ByteArray}(bC:jv s w)(hap:mJ s w)(hg:w.cell? ⟨10,0,none⟩=some xM)(hd:d.size<=maxLen)(hs:FL w a len fs)(k:Int):Calls Tryz.prog 9 #[.agg #[.slice a len cap, .string d], .int .i64 k] w fun e w'=>∃g cc vs,e= .returned (.slice (some ⟨g,0,none⟩) (Lw.bA fs d k).length cc)/\jW w' w.heap.size (.slice (some ⟨g,0,none⟩) (Lw.bA fs d k).length cc) (Lw.bA fs d k) vs/\Below w.heap.size w w':=by
 have hl:=hs.1
 have hm:=hs.2.1
 unfold maxLen at hm
 have hB1:=aB w (.cells #[.slice a len cap, .string d] 26)
 have bM:=bG.new w [.slice a len cap, .string d] 26
 have eM:w.alloc (.cells [Value.slice a len cap, .string d].toArray 26)=w.alloc (.cells #[.slice a len cap, .string d] 26):=rfl
 rw[eM]at bM
 generalize hW1:w.alloc (.cells #[.slice a len cap, .string d] 26)=W1 at hB1 bM
 have hcon:=sM (cap:=cap) (bC.kept hB1 bC.sz) (hap.kept hB1) hd (hs.kept hB1)
 have m0:=(bM.2 0 _ rfl).1
 have m1:=(bM.2 1 _ rfl).1
 have HB1:=af hB1
 have bad:∀(W2:World),Below w.heap.size w W2->Lw.bA fs d k=[]->jW (W2.alloc (.cells #[] 41)) w.heap.size (.slice (some ⟨W2.heap.size,0,none⟩) 0 0) [] []/\Below w.heap.size w (W2.alloc (.cells #[] 41)):=fun W2 hB e=>
  ⟨jW.none W2 _ hB.size,hB.trans ((aB W2 _).mono hB.size)⟩
 rcases hv:Hg.valid fs d with _|_
 · have e0:Lw.bA fs d k=[]:=by{unfold Lw.bA;rw[ay (by rw[hv];simp)]};rw[hv]at hcon;rw[e0];have hbad:=fun W2 hB=>bad W2 hB e0;clear bad hs bC hap hg hv e0 bM;go_enter Tryz.func9,Tryz.ntmps9;go_wp2_with fail;refine hcon.mono ?_;rintro e w2 ⟨rfl,hB2⟩;dsimp only;have HF:=af (hbad w2 (hB1.trans (hB2.mono hB1.size)));clear hcon m0 m1 hbad hB2;go_wp2;go_ret;exact⟨_,_,_,rfl,HF.out.1,HF.out.2⟩
 rw[hv]at hcon
 by_cases hk:0<=k/\k<=(len:Int)-1
 · obtain⟨kn,rfl⟩:=Int.eq_ofNat_of_zero_le hk.1;have e0:Lw.bA fs d (kn:Int)=Lw.func fs (Mn.fn fs kn) (aF.ends (Mn.fn fs kn).b) (aF.aS (Mn.fn fs kn).b) (Mn.kU fs kn):=by{unfold Lw.bA;rw[az ⟨hv,by omega,by omega⟩,aA]};have hof:=fun(W:World) (hB:Below w.heap.size w W)=>Gv (cap:=cap) (bC.kept hB bC.sz) ((hB.cell (p:=⟨10,0,none⟩) (by have:=bC.sz;simp only;omega)).trans hg) hd (hs.kept hB) hv kn (by omega);rw[←e0]at hof;have hin:Wd.dY (kn:Int) 0 ((len:Int)-1)=true:=Wd.jX hk.1 hk.2;clear bad hs bC hap hg hv e0;go_enter Tryz.func9,Tryz.ntmps9;go_wp2_with fail;refine hcon.mono ?_;rintro e w2 ⟨rfl,hB2⟩;dsimp only;have lV:=hB1.trans (hB2.mono hB1.size);have Iu:=hof w2 lV;have b2:=bM.kept hB2;have n0:=(b2.2 0 _ rfl).1;have n1:=(b2.2 1 _ rfl).1;clear hcon m0 m1 hof bM b2;go_wp2_with(go_at_call 33;refine(bJ _ _ _ _).mono ?_;rintro e w' ⟨rfl,aR⟩;subst w';rw[hin];dsimp only);refine Iu.mono ?_;rintro e w4 ⟨g,cc,vs,rfl,ho,hB4⟩;dsimp only;have HF:=af (au (ho.mono lV.size) (lV.trans (hB4.mono lV.size)));clear Iu ho hB4 n0 n1;go_wp2;go_ret;exact⟨_,_,_,rfl,HF.out.1,HF.out.2⟩
 · have e0:Lw.bA fs d k=[]:=by{unfold Lw.bA;rw[ay (by omega)]};have hin:Wd.dY k 0 ((len:Int)-1)=false:=by{rcases h:Wd.dY k 0 ((len:Int)-1)with _|_;{rfl};exact absurd (Wd.bB.1 h) hk};rw[e0];have hbad:=fun W2 hB=>bad W2 hB e0;clear bad hs bC hap hg hv e0;go_enter Tryz.func9,Tryz.ntmps9;go_wp2_with fail;refine hcon.mono ?_;rintro e w2 ⟨rfl,hB2⟩;dsimp only;have HF:=af (hbad w2 (hB1.trans (hB2.mono hB1.size)));have b2:=bM.kept hB2;have n0:=(b2.2 0 _ rfl).1;clear hcon m0 m1 hbad hB2 bM b2;go_wp2_with(go_at_call 33;refine(bJ _ _ _ _).mono ?_;rintro e w' ⟨rfl,aR⟩;subst w';rw[hin];dsimp only);go_ret;exact⟨_,_,_,rfl,HF.out.1,HF.out.2⟩
theorem Lw.tq (fs:List Fn)(d:ByteArray)(k:Int):(Lw.bA fs d k).length<=300/\∀j,j<(Lw.bA fs d k).length->((Lw.bA fs d k).getD j .z).l.length<=3:=by
 unfold Lw.bA
 split
 · rename_i h
   have V:=Mn.kW h.1
   have hk:k.toNat<fs.length:=by omega
   have hff:=Lw.vk (V.acc k.toNat hk) (Mn.nK V hk) (fun j hj=>by have:=Mn.nK V hj;exact⟨this.1,this.2.1⟩) (by
    have:=Md.aT V.all hk
    simp only[Md.iW,ax]at this
    exact this.2.2.2.2)
   obtain⟨L,hL⟩:∃L,Lw.func fs (Mn.fn fs k.toNat) (aF.ends (Mn.fn fs k.toNat).b) (aF.aS (Mn.fn fs k.toNat).b) (Mn.kU fs k.toNat)=L:=⟨_,rfl⟩
   rw[hL]at hff ⊢
   by_cases he:L=[]
   · rw[he];exact⟨by simp,fun j hj=>by simp at hj⟩
   · have ho:=(hff.2 he).1;unfold Ln.isOk at ho;simp only[ax,decide_eq_true_eq,List.all_eq_true]at ho;refine⟨ho.1.2,fun j hj=>?_⟩;have hm:L.getD j .z∈L:=by{rw[ai,aj hj];exact List.getElem_mem hj};have h2:=ho.2.1 _ hm;unfold Ln.kF at h2;rw[ax]at h2;exact Ln.zK h2.1
 · exact⟨by simp,fun j hj=>by simp at hj⟩
def BK (v:Value)(vs:List Lv)(n b:Nat):Prop:=v.ownBlock=some b\/∃i,i<n/\(oW vs i).ownBlock=some b
theorem jW.wE {W:World}{n₀:Nat}{v:Value}{fs:List Ln}{vs:List Lv}(h:jW W n₀ v fs vs){b:Nat}(hb:BK v vs fs.length b):n₀<=b/\b<W.heap.size:=by rcases hb with e|⟨i,hi,e⟩;{exact aV h.1 e};exact aV (h.2.2.1 i hi).2.2.2.2.2 e
theorem jW.GX {W W':World}{n₀:Nat}{v:Value}{fs:List Ln}{vs:List Lv}{n₂ k m:Nat}{u:Value}{xs:List Value}(h:jW W n₀ v fs vs)(hu:W.ownsRow n₂ 29 k u m xs)(hg:W.grownBy W' u.ownBlock):jW W' n₀ v fs vs:=by have hint:41≠29:=by{decide};have Ac:2≠29:=by{decide};exact⟨cZ h.1 hg (fun g e=>dD h.1 hu hint e),h.2.1,h.2.2.1.eP hg (fun j hj g e=>dD (h.2.2.1 j hj).2.2.2.2.2 hu Ac e),h.2.2.2⟩
def RA (W:World)(n₀ g n cc:Nat)(ws:List Value)(bV:List (List Ln))(pJ:List (List Lv))(bs:List Nat):Prop:=
 W.ownsRow n₀ 29 1 (.slice (some ⟨g,0,none⟩) n cc) n ws/\(ws.length=n/\bV.length=n/\pJ.length=n/\bs.length=n)/\∀j,j<n->(∃gj cj,ws.getD j undef= .slice (some ⟨gj,0,none⟩) (bV.getD j []).length cj)/\n₀<=bs.getD j 0/\jW W (bs.getD j 0) (ws.getD j undef) (bV.getD j []) (pJ.getD j [])/\∀i,i<j->∀b,BK (ws.getD i undef) (pJ.getD i []) (bV.getD i []).length b->b<bs.getD j 0
theorem RA.kept {W W':World}{n₀ g n cc:Nat}{ws:List Value}{bV:List (List Ln)}{pJ:List (List Lv)}{bs:List Nat}(h:RA W n₀ g n cc ws bV pJ bs)(hB:Below W.heap.size W W'):RA W' n₀ g n cc ws bV pJ bs:=
 ⟨aG h.1 hB,h.2.1,fun j hj=>⟨(h.2.2 j hj).1,(h.2.2 j hj).2.1,(h.2.2 j hj).2.2.1.kept hB,(h.2.2 j hj).2.2.2⟩⟩
theorem RA.mono {W:World}{n₀ n₁ g n cc:Nat}{ws:List Value}{bV:List (List Ln)}{pJ:List (List Lv)}{bs:List Nat}(h:RA W n₁ g n cc ws bV pJ bs)(hn:n₀<=n₁):RA W n₀ g n cc ws bV pJ bs:=
 ⟨kr h.1 hn,h.2.1,fun j hj=>⟨(h.2.2 j hj).1,Nat.le_trans hn (h.2.2 j hj).2.1,(h.2.2 j hj).2.2⟩⟩
theorem RA.zero {W:World}{n₀ g cc:Nat}(h:W.ownsRow n₀ 29 1 (.slice (some ⟨g,0,none⟩) 0 cc) 0 []):RA W n₀ g 0 cc [] [] [] []:=⟨h,⟨rfl,rfl,rfl,rfl⟩,fun j hj=>by omega⟩
theorem CB {α:Type}{l:List α}{n:Nat}{x y:α}(h:l.length=n):(l++[x]).getD n y=x:=by rw[ai,List.getElem?_append_right (by omega),h];simp
theorem j3 {α:Type}{l:List α}{n j:Nat}{x y:α}(h:l.length=n)(hj:j<n):(l++[x]).getD j y=l.getD j y:=by rw[ai,List.getElem?_append_left (by omega),←ai]
theorem RA.more {Wr W W1 W2:World}{n₀ g n cc g' cc':Nat}{ws:List Value}{bV:List (List Ln)}{pJ:List (List Lv)}{bs:List Nat}(h:RA Wr n₀ g n cc ws bV pJ bs)(hBr:Below Wr.heap.size Wr W)(hB:Below W.heap.size W W1)(gl cl:Nat)(l:List Ln)(vs:List Lv)(hv:jW W Wr.heap.size (.slice (some ⟨gl,0,none⟩) l.length cl) l vs)(hn:n₀<=Wr.heap.size)(hrow:W2.ownsRow n₀ 29 1 (.slice (some ⟨g',0,none⟩) (n+1) cc') (n+1) (ws++[.slice (some ⟨gl,0,none⟩) l.length cl]))(hg:W1.grownBy W2 (Value.slice (some ⟨g,0,none⟩) n cc).ownBlock):RA W2 n₀ g' (n+1) cc' (ws++[.slice (some ⟨gl,0,none⟩) l.length cl]) (bV++[l]) (pJ++[vs]) (bs++[Wr.heap.size]):=by obtain⟨r1,⟨q1,q2,q3,q4⟩,r4⟩:=h;have r1':=aG (aG r1 hBr) hB;refine⟨hrow,⟨by simp[q1],by simp[q2],by simp[q3],by simp[q4]⟩,fun j hj=>?_⟩;by_cases hjn:j<n;{rw[j3 q1 hjn,j3 q2 hjn,j3 q3 hjn,j3 q4 hjn];obtain⟨s1,s2,s3,s4⟩:=r4 j hjn;refine⟨s1,s2,((s3.kept hBr).kept hB).GX r1' hg,fun i hi b hb=>?_⟩;rw[j3 q1 (by omega),j3 q2 (by omega),j3 q3 (by omega)]at hb;exact s4 i hi b hb};obtain rfl:j=n:=by{omega};rw[CB q1,CB q2,CB q3,CB q4];refine⟨⟨gl,cl,rfl⟩,hn,(hv.kept hB).GX r1' hg,fun i hi b hb=>?_⟩;rw[j3 q1 hi,j3 q2 hi,j3 q3 hi]at hb;exact((r4 i hi).2.2.1.wE hb).2
theorem lI {s:jH}{w:World}{a:Option Addr}{len:Nat}{cap:Nat}{fs:List Fn}{d:ByteArray}(bC:jv s w)(hap:mJ s w)(hg:w.cell? ⟨10,0,none⟩=some xM)(hd:d.size<=maxLen)(hs:FL w a len fs):Calls Tryz.prog 19 #[.agg #[.slice a len cap, .string d]] w fun e w'=>∃g n cc ws pJ bs,e= .returned (.tuple #[.slice (some ⟨g,0,none⟩) n cc, .bool (Lw.aY fs d).2])/\RA w' w.heap.size g n cc ws (Lw.aY fs d).1 pJ bs/\Below w.heap.size w w':=by obtain⟨i0,hi,hz0,hz1,hz2⟩:=info_parts zl;have hl:=hs.1;have hB1:=aB w (.cells #[.slice a len cap, .string d] 26);have bM:=bG.new w [.slice a len cap, .string d] 26;have eM:w.alloc (.cells [Value.slice a len cap, .string d].toArray 26)=w.alloc (.cells #[.slice a len cap, .string d] 26):=rfl;rw[eM]at bM;generalize hW1:w.alloc (.cells #[.slice a len cap, .string d] 26)=W1 at hB1 bM;have hcon:=sM (cap:=cap) (bC.kept hB1 bC.sz) (hap.kept hB1) hd (hs.kept hB1);have m0:=(bM.2 0 _ rfl).1;have m1:=(bM.2 1 _ rfl).1;have hszW:w.heap.size<W1.heap.size:=by{rw[←hW1];simp};have hnil:∀(W2:World),Below w.heap.size w W2->RA (W2.alloc (.cells #[] 29)) w.heap.size W2.heap.size 0 0 [] [] [] []/\Below w.heap.size w (W2.alloc (.cells #[] 29)):=fun W2 hB=>⟨RA.zero (RR.zero W2 w.heap.size hB.size).1,hB.trans ((aB W2 _).mono hB.size)⟩;rcases hv:Hg.valid fs d with _|_;{have e0:Lw.aY fs d=([],false):=by{unfold Lw.aY;rw[ay (by rw[hv];simp)]};rw[hv]at hcon;rw[e0];clear hs hv e0 bM bC hap hg;go_enter Tryz.func19,Tryz.ntmps19;go_wp2_with fail;refine hcon.mono ?_;rintro e w2 ⟨rfl,hB3⟩;dsimp only;have HF:=af (hnil w2 (hB1.trans (hB3.mono hB1.size)));clear hcon m0 m1 hB3 hnil;go_wp2;go_ret2;exact⟨_,_,_,_,_,_,rfl,HF.out.1,HF.out.2⟩};rw[hv]at hcon;have hl4:len<=4:=by{have:=(Mn.kW hv).len.2;omega};have hlow:=fun(W:World) (hB:Below w.heap.size w W) (k:Nat) (hk:k<len)=>Gv (cap:=cap) (bC.kept hB bC.sz) ((hB.cell (p:=⟨10,0,none⟩) (by have:=bC.sz;simp only;omega)).trans hg) hd (hs.kept hB) hv k hk;have HV:=af hv;have HS:=af hlow;clear hs hv hlow bC hap hg;go_enter Tryz.func19,Tryz.ntmps19;go_wp2_with fail;refine hcon.mono ?_;rintro e w2 ⟨rfl,hB3⟩;dsimp only;have qC:=hB1.trans (hB3.mono hB1.size);have yB:=bM.kept hB3;have hmk:=run_make (P:=Tryz.prog) w2 44 29 i0 _ Tryz.underlying44 hi hz0 .i64 .i64 0 (len:Int) (by omega) (by omega) (by rw[hz2];omega) (by omega);rw[hz1]at hmk;simp only[aA,Int.toNat_zero]at hmk;have Vz:W1.heap.size<=w2.heap.size:=hB3.size;have eD:=zb (World.ownsRow_lit (base:=W1.heap.size) (size:=1) (e:=29) w2 (madeCells (Value.slice none 0 0).cells (len*1)) len Vz (by simp only[maxLen];omega) (size_madeCells _ _));have hB0:=aB w2 (.cells (madeCells (Value.slice none 0 0).cells (len*1)) 29);obtain⟨wm,Di⟩:∃wm,w2.alloc (.cells (madeCells (Value.slice none 0 0).cells (len*1)) 29)=wm:=⟨_,rfl⟩;rw[Di]at hmk eD hB0;have yI:=yB.kept hB0;have nE:=qC.trans (hB0.mono qC.size);have k0:=(yB.2 0 _ rfl).1;have k1:=(yI.2 0 _ rfl).1;clear hcon m0 m1 hB3 qC bM yB Di hB0;go_wp2;go_loopw [4,18] (fun u i wr=>∃(j g cc:Nat)(ws:List Value)(pJ:List (List Lv))(bs:List Nat),i= .int .i64 (j:Int)/\j<=len/\u= .slice (some ⟨g,0,none⟩) j cc/\RA wr W1.heap.size g j cc ws (Lw.kK fs j) pJ bs/\Below w.heap.size w wr/\bG wr w.heap.size [.slice a len cap, .string d]/\∀k,k<j->(Lw.yH fs k).length≠0) (fun _ i _=>len-(intOf i).toNat);(case atStart=>exact⟨0,_,len,[],[],[],rfl,Nat.zero_le _,rfl,RA.zero eD,nE,yI,fun k hk=>by omega⟩);case round=>obtain⟨j,g,cc,ws,pJ,bs,rfl,hjn,rfl,hR,hBw,Dt,hne⟩:=hrel;clear eD nE yI hmk k0 k1;have m0:=(Dt.2 0 _ rfl).1;have m1:=(Dt.2 1 _ rfl).1;by_cases hlt:j<len;{have EN:(j:Int)<(len:Int):=by{omega};have hcj:=HS.out wr hBw j hlt;have HR:=af (au hR (au hBw (au Dt hne)));clear hR hBw hne Dt;go_wp2_with fail;refine hcj.mono ?_;rintro e w4 ⟨gl,cl,vs,rfl,zW,hB4⟩;dsimp only;obtain⟨hR,hBw,Dt,hne⟩:=HR.out;have mV:=hBw.trans (hB4.mono hBw.size);have yI:=Dt.kept hB4;have Cg:W1.heap.size<=wr.heap.size:=Nat.le_trans (aV hR.1 rfl).1 (Nat.le_of_lt (aV hR.1 rfl).2);have Ib:jW w4 wr.heap.size (.slice (some ⟨gl,0,none⟩) (Lw.yH fs j).length cl) (Lw.yH fs j) vs:=zW;obtain⟨ln,hln⟩:∃n,(Lw.yH fs j).length=n:=⟨_,rfl⟩;have Ci:(Lw.func fs (Mn.fn fs j) (aF.ends (Mn.fn fs j).b) (aF.aS (Mn.fn fs j).b) (Mn.kU fs j)).length=ln:=hln;rw[Ci];rcases Nat.eq_zero_or_pos ln with h0|hpos;{subst h0;have hno:=Lw.yM (by rw[hl];exact hlt) hln;have HE:Hid (Lw.aY fs d=([],false)):=by{show _=_;unfold Lw.aY;rw[ay (by rw[hno];simp)]};have HF:=af (hnil w4 mV);clear HR hR hBw Dt hne mV yI zW Ib hcj hB4 m0 m1 hln Ci hnil;go_wp2;(try simp only[Exit.inBlock,Exit.then]);go_ret2;rw[HE.out];exact⟨_,_,_,_,_,_,rfl,HF.out.1,HF.out.2⟩};have hz:((ln:Int)==0)=false:=by{simp;omega};have hBa:=aB w4 (.cells #[.slice (some ⟨gl,0,none⟩) ln cl] 29);have HRW:=af (aG (aG hR.1 hB4) hBa);have HK:=af (au hR (au mV (au yI (au hne (au Ib (au hln (au hBa hB4)))))));have lu:W1.heap.size<=w4.heap.size:=Nat.le_trans Cg hB4.size;clear HR hR hBw Dt hne mV yI zW Ib hcj hB4 m0 m1 hln Ci hBa hnil;go_wp2_with(at_builtin;refine wpList_append_own_at _ rfl _ _ 44 rfl W1.heap.size 29 i0 (.slice none 0 0) 1 24 Tryz.underlying44 hi hz0 hz1 hz2 rfl (by decide) (.slice (some ⟨g,0,none⟩) j cc) j ws rfl HRW.out ⟨w4.heap.size,0,none⟩ 1 1 [.slice (some ⟨gl,0,none⟩) ln cl] rfl rfl (yY w4 _ _ 29 _ rfl (fun i=>rfl)) (by simp[Value.oneCell']) (by simp only[maxLen];omega) (by omega) (by simp;omega) ?_;intro v2 wB hown2 hgrow2 _ mO;obtain⟨g2,cap2,rfl⟩:=ownsRow_succ hown2;have fK:=af (au hown2 hgrow2);clear hown2 hgrow2 mO);go_roundw;(case rel=>obtain⟨hR,mV,yI,hne,Ib,hln,hBa,hB4⟩:=HK.out;have hM:=RA.more hR hB4 hBa gl cl (Lw.yH fs j) vs Ib Cg (by rw[hln];exact fK.out.1) fK.out.2;rw[←Lw.tL]at hM;refine⟨j+1,g2,cap2,_,_,_,by congr 1<;>omega,by omega,rfl,hM,bq (mV.trans (hBa.mono mV.size)) fK.out.2 (fun b e=>by have:=(aV HRW.out e).1;omega),?_,fun k hk=>?_⟩;{exact(yI.kept hBa).eP fK.out.2 (fun e=>by have:=(aV HRW.out e).1;omega)};by_cases e:k=j;{subst e;omega};exact hne k (by omega));case measure=>simp[intOf];omega};obtain rfl:j=len:=by{omega};have EN:¬((j:Int)<(j:Int)):=by{omega};have Ic:=Lw.vV (fs:=fs) (fun k hk=>hne k (by omega));have HE:Hid (Lw.aY fs d=(Lw.kK fs j,true)):=by{show _=_;unfold Lw.aY;rw[az ⟨HV.out,Ic⟩,hl]};have HF:=af (au (hR.mono (Nat.le_of_lt hszW)) hBw);clear hR hBw hne Dt Ic m0 m1;go_wp2;go_ret2;rw[HE.out];exact⟨_,_,_,rfl,⟨_,_,_,HF.out.1⟩,HF.out.2⟩
def G8 (W:World)(g n:Nat)(bV:List (List Ln)):Prop:=∀j,j<n->∃gj cj,W.cell? ⟨g,j,none⟩=some (.slice (some ⟨gj,0,none⟩) (bV.getD j []).length cj)/\LL W (some ⟨gj,0,none⟩) (bV.getD j []).length (bV.getD j [])
theorem G8.kept {W W':World}{g n:Nat}{bV:List (List Ln)}(h:G8 W g n bV)(hB:Below W.heap.size W W'):G8 W' g n bV:=fun j hj=>by
 obtain⟨gj,cj,e,hl⟩:=h j hj
 exact⟨gj,cj,bW hB e,hl.kept hB⟩
theorem xC {W:World}{n₀ e g n cc j:Nat}{ws:List Value}(h:W.ownsRow n₀ e 1 (.slice (some ⟨g,0,none⟩) n cc) n ws)(hw:ws.length=n)(hj:j<n):W.cell? ⟨g,j,none⟩=some (ws.getD j undef):=by have:=h.cellAt j (by omega);rw[this,ai,aj (by omega)];rfl
theorem RR.bV {W:World}{n₀ g n cc:Nat}{ws:List Value}{bV:List (List Ln)}(h:RR W n₀ g n cc ws bV):G8 W g n bV:=fun j hj=>by
 obtain⟨gj,cj,e,-,-,hl⟩:=(h.2.2.2 j hj).LL
 exact⟨gj,cj,by rw[xC h.1 h.2.1 hj,e],hl⟩
theorem RA.bV {W:World}{n₀ g n cc:Nat}{ws:List Value}{bV:List (List Ln)}{pJ:List (List Lv)}{bs:List Nat}(h:RA W n₀ g n cc ws bV pJ bs):G8 W g n bV:=fun j hj=>by
 obtain⟨⟨gj,cj,e⟩,-,ho,-⟩:=h.2.2 j hj
 rw[e]at ho
 exact⟨gj,cj,by rw[xC h.1 h.2.1.1 hj,e],ho.ll rfl⟩
theorem jZ (ga gb n ca cb:Nat)(bV:List (List Ln))(hn:n<=1000)(w:World)(ha:G8 w ga n bV)(hb:G8 w gb n bV):Calls Tryz.prog 28 #[.slice (some ⟨ga,0,none⟩) n ca, .slice (some ⟨gb,0,none⟩) n cb] w fun e w'=>e= .returned (.bool true)/\Below w.heap.size w w':=by have HA:=af ha;have HB:=af hb;clear ha hb;go_enter Tryz.func28,Tryz.ntmps28;go_wp2;go_loopw [5] (fun i wr=>∃k:Nat,i= .int .i64 k/\k<=n/\Below w.heap.size w wr) (fun i _=>n-(intOf i).toNat);(case atStart=>exact⟨0,rfl,Nat.zero_le _,Below.refl _ _⟩);case round=>obtain⟨k,rfl,hk,hB⟩:=hrel;by_cases hlt:k<n;{obtain⟨g1,c1,x1,l1⟩:=HA.out k hlt;obtain⟨g2,c2,x2,l2⟩:=HB.out k hlt;have Ce:(k:Int)<(n:Int):=by{omega};have y1:=fun(p:dB wr)=>bW p.h (bW hB x1);have y2:=fun(p:dB wr)=>bW p.h (bW hB x2);have hc:=fun(p:dB wr)=>xX _ _ _ c1 c2 (bV.getD k []) p.to ((l1.kept hB).kept p.h) ((l2.kept hB).kept p.h);generalize(bV.getD k []).length=m at*;have hne:=dB.any wr;clear x1 x2 l1 l2;go_wp2;refine bK (by kernel_rfl) (by kernel_rfl) ?_;(repeat(go_big_quiet_step (exact jk (hc _))));refine wpQuiet_nil ?_;rintro _ ⟨pw,rfl⟩;have bI:=hB.trans (pw.h.mono hB.size);generalize pw.to=w7 at bI ⊢;clear y1 y2 hc hne;go_wp2;go_roundw;(case rel=>exact⟨k+1,by simp,by omega,bI⟩);case measure=>simp[intOf];omega};have Ce:¬((k:Int)<(n:Int)):=by{omega};go_wp2;go_ret;exact⟨rfl,hB⟩
def kS (k0:Int)(bV:List (List Ln)):Nat->Int
 |0=>k0
 |i+1=>kL (kS k0 bV i) (bV.getD i []) (bV.getD i []).length
def Em (k0:Int)(bV:List (List Ln)):List (List Ln):=(List.range bV.length).map fun j=>Cu (kS k0 bV j) (bV.getD j [])
theorem zM {k0:Int}{bV:List (List Ln)}{j:Nat}(h:j<bV.length):(Em k0 bV).getD j []=Cu (kS k0 bV j) (bV.getD j []):=by simp[Em,ai,h]
def xN (bV:List (List Ln)):Prop:=∀i,i<bV.length->(bV.getD i []).length<=300/\∀j,j<(bV.getD i []).length->((bV.getD i []).getD j .z).l.length<=3
theorem zI {k0:Int}{bV:List (List Ln)}(h:xN bV):∀i,i<=bV.length->k0<=kS k0 bV i/\kS k0 bV i<=k0+2400*i
 |0,_=>by simp[kS]
 | i+1,hi=>by
   have h1:=zI (k0:=k0) h i (by omega)
   have h2:=h i (by omega)
   have h3:=Cx (k0:=kS k0 bV i) h2.2 (bV.getD i []).length (Nat.le_refl _)
   simp only[kS]
   omega
theorem jW.Aq {W W':World}{n₀:Nat}{v:Value}{fs:List Ln}{vs:List Lv}(h:jW W n₀ v fs vs)(hs:∀b,BK v vs fs.length b->W'.heap[b]?=W.heap[b]?):jW W' n₀ v fs vs:=by have row:∀{e k n:Nat}{u:Value}{xs:List Value},W.ownsRow n₀ e k u n xs->(∀b,u.ownBlock=some b->W'.heap[b]?=W.heap[b]?)->W'.ownsRow n₀ e k u n xs:=fun{e k n u xs} hr hb=>by{refine⟨hr.1,?_⟩;rcases hr.2 with h'|⟨g',cap',cur,h',h1,h2,r⟩;{exact .inl h'};exact .inr ⟨g',cap',cur,h',h1,(hb g' (by rw[h'];rfl)).trans h2,r⟩};refine⟨row h.1 (fun b e=>hs b (.inl e)),h.2.1,fun j hj=>?_,h.2.2.2⟩;obtain⟨t0,t1,t2,t3,t4,t5⟩:=h.2.2.1 j hj;exact⟨t0,t1,t2,t3,t4,row t5 (fun b e=>hs b (.inr ⟨j,hj,e⟩))⟩
theorem CK {v:Value}{vs vs':List Lv}{n b:Nat}(h:∀q,oW vs' q=oW vs q)(hb:BK v vs' n b):BK v vs n b:=by rcases hb with e|⟨i,hi,e⟩;{exact .inl e};exact .inr ⟨i,hi,by rw[←h i];exact e⟩
theorem uH (n₀ g n cc:Nat)(ws:List Value)(bV:List (List Ln))(pJ:List (List Lv))(bs:List Nat)(hn4:n<=4)(hsh:xN bV)(w:World)(hn:n₀<=w.heap.size)(hs:RA w n₀ g n cc ws bV pJ bs):Calls Tryz.prog 29 #[.slice (some ⟨g,0,none⟩) n cc, .int .i64 1] w fun e w'=>e= .returned (.int .i64 (kS 1 bV n))/\G8 w' g n (Em 1 bV)/\Below n₀ w w':=by have hll:bV.length=n:=hs.2.1.2.1;have HS:=af hs;have hst:∀i,i<n->jW w (bs.getD i 0) (ws.getD i undef) (bV.getD i []) (pJ.getD i []):=fun i hi=>(hs.2.2 i hi).2.2.1;have hr0:=hs.1;go_enter Tryz.func29,Tryz.ntmps29;go_wp2;go_loopw [1,5] (fun m i wr=>∃(k:Nat)(vf:Nat->List Lv),m= .int .i64 (kS 1 bV k)/\i= .int .i64 k/\k<=n/\(∀i,i<n->jW wr (bs.getD i 0) (ws.getD i undef) (if i<k then Cu (kS 1 bV i) (bV.getD i [])else bV.getD i []) (vf i)/\∀q,oW (vf i) q=oW (pJ.getD i []) q)/\wr.ownsRow n₀ 29 1 (.slice (some ⟨g,0,none⟩) n cc) n ws/\Below n₀ w wr/\n₀<=wr.heap.size) (fun _ i _=>n-(intOf i).toNat);(case atStart=>exact⟨0,fun i=>pJ.getD i [],rfl,rfl,Nat.zero_le _,fun i hi=>⟨by rw[ay (by omega)];exact hst i hi,fun _=>rfl⟩,hr0,Below.refl _ _,hn⟩);case round=>obtain⟨k,vf,rfl,rfl,hk,hO,hrow,hB,hsz⟩:=hrel;clear hst hr0 hs;have hbd:=zI (k0:=1) hsh k (by omega);by_cases hlt:k<n;{have Ce:(k:Int)<(n:Int):=by{omega};obtain⟨q1,q2⟩:=hO k hlt;rw[ay (by omega)]at q1;obtain⟨⟨gk,ck,ek⟩,hbk,-,-⟩:=HS.out.2.2 k hlt;have hcell:=xC hrow HS.out.2.1.1 hlt;rw[ek]at hcell q1;have hsk:=hsh k (by omega);have VA:bs.getD k 0<=wr.heap.size:=Nat.le_trans (aV q1.1 rfl).1 (Nat.le_of_lt (aV q1.1 rfl).2);have hcon:=wV (bs.getD k 0) (.slice (some ⟨gk,0,none⟩) (bV.getD k []).length ck) (bV.getD k []) (vf k) (kS 1 bV k) hbd.1 (by omega) hsk.1 hsk.2 wr VA q1;have HO:=af (au hO (au hrow (au hB (au hsz (au ek (au hbk q2))))));obtain⟨m,hm⟩:∃m,(bV.getD k []).length=m:=⟨_,rfl⟩;have HM:=af hm;obtain⟨K2,hK2⟩:∃x,kS 1 bV k=x:=⟨_,rfl⟩;obtain⟨K3,hK3⟩:∃x,kL (kS 1 bV k) (bV.getD k []) (bV.getD k []).length=x:=⟨_,rfl⟩;have HK:=af (au hK2 hK3);rw[hK3]at hcon;rw[hm]at hcell hcon;rw[hK2]at hcon ⊢;clear hO hrow hB hsz q1 q2 ek hbk hm hK2 hK3 hbd hsk VA;go_wp2_with fail;refine hcon.mono ?_;rintro e w4 ⟨rfl,⟨vs',ho',hl'⟩,hB4,Px⟩;dsimp only;have HF:=af (au ho' (au hl' (au hB4 Px)));clear ho' hl' hB4 Px hcon hcell;go_wp2;go_roundw;(case rel=>obtain⟨hO,hrow,hB,hsz,ek,hbk,q2⟩:=HO.out;obtain⟨ho',hl',hB4,Px⟩:=HF.out;rw[←HM.out]at ho' Px;rw[←ek]at ho' Px;rw[←HK.out.1]at ho';have hok:=(hO k hlt).1;rw[ay (by omega)]at hok;have VB:∀b,b<wr.heap.size->¬BK (ws.getD k undef) (vf k) (bV.getD k []).length b->w4.heap[b]?=wr.heap[b]?:=fun b hb hnb=>Px b hb (fun e=>hnb (.inl e)) (fun i hi e=>hnb (.inr ⟨i,hi,e⟩));have abK:∀b,BK (ws.getD k undef) (vf k) (bV.getD k []).length b->bs.getD k 0<=b/\b<wr.heap.size:=fun b hb=>hok.wE hb;refine⟨k+1,fun i=>if i=k then vs' else vf i,?_,by simp,by omega,fun i hi=>?_,?_,?_,?_⟩;{show Value.int .i64 K3= .int .i64 (kS 1 bV (k+1));rw[←HK.out.2];rfl};{show jW w4 (bs.getD i 0) (ws.getD i undef) (if i<k+1 then Cu (kS 1 bV i) (bV.getD i [])else bV.getD i []) (if i=k then vs' else vf i)/\∀q,oW (if i=k then vs' else vf i) q=oW (pJ.getD i []) q;by_cases e:i=k;{subst e;rw[az rfl,az (by omega)];exact⟨ho',fun q=>(hl' q).trans (q2 q)⟩};rw[ay e];obtain⟨p1,p2⟩:=hO i hi;have ei:(if i<k+1 then Cu (kS 1 bV i) (bV.getD i [])else bV.getD i [])=(if i<k then Cu (kS 1 bV i) (bV.getD i [])else bV.getD i []):=by{by_cases h:i<k;{rw[az h,az (by omega)]};rw[ay h,ay (by omega)]};rw[ei];refine⟨p1.Aq (fun b hb=>VB b (p1.wE hb).2 (fun hbk2=>?_)),p2⟩;have hlen:(if i<k then Cu (kS 1 bV i) (bV.getD i [])else bV.getD i []).length=(bV.getD i []).length:=by{split;{rw[oG]};rfl};have hb1:=p1.wE hb;have hb2:=abK b hbk2;rw[hlen]at hb;rcases Nat.lt_or_ge i k with h|h;{have:=(HS.out.2.2 k hlt).2.2.2 i h b (CK p2 hb);omega};have:=(HS.out.2.2 i hi).2.2.2 k (by omega) b (CK q2 hbk2);omega};{have hint:29≠41:=by{decide};have Ac:29≠2:=by{decide};have hg:=aV hrow rfl;refine zn hrow (VB g hg.2 (fun hbk2=>?_));rcases hbk2 with e|⟨i,hi,e⟩;{exact dD hrow hok.1 hint rfl e};exact dD hrow (hok.2.2.1 i hi).2.2.2.2.2 Ac rfl e};{exact hB.trans (hB4.mono hbk)};exact Nat.le_trans hsz hB4.size);case measure=>simp[intOf];omega};obtain rfl:k=n:=by{omega};have Ce:¬((k:Int)<(k:Int)):=by{omega};have hfin:G8 wr g k (Em 1 bV):=fun j hj=>by{obtain⟨p1,p2⟩:=hO j hj;rw[az hj]at p1;obtain⟨⟨gj,cj,ej⟩,-⟩:=HS.out.2.2 j hj;rw[ej]at p1;rw[zM (by omega),oG];exact⟨gj,cj,by rw[xC hrow HS.out.2.1.1 hj,ej],p1.ll (oG _ _)⟩};have HF:=af (au hfin hB);obtain⟨K2,hK2⟩:∃x,kS 1 bV k=x:=⟨_,rfl⟩;rw[hK2];clear hO hrow hB hfin;go_wp2;go_ret;exact⟨by first|rfl|(rw[hK2]),HF.out.1,HF.out.2⟩
theorem uF (g n cc:Nat)(bV:List (List Ln))(hll:bV.length=n)(hn4:n<=4)(hsh:xN bV)(w:World)(hs:G8 w g n (Em 1 bV)):Calls Tryz.prog 30 #[.slice (some ⟨g,0,none⟩) n cc, .int .i64 1] w fun e w'=>e= .returned (.int .i64 (kS 1 bV n))/\w'=w:=by have HS:=af hs;clear hs;go_enter Tryz.func30,Tryz.ntmps30;go_wp2;go_loop [1,5] (fun m i=>∃(k:Nat),m= .int .i64 (kS 1 bV k)/\i= .int .i64 k/\k<=n) (fun _ i=>n-(intOf i).toNat);(case atStart=>exact⟨0,rfl,rfl,Nat.zero_le _⟩);case round=>obtain⟨k,rfl,rfl,hk⟩:=hrel;have hbd:=zI (k0:=1) hsh k (by omega);by_cases hlt:k<n;{have Ce:(k:Int)<(n:Int):=by{omega};obtain⟨gk,ck,x1,l1⟩:=HS.out k hlt;rw[zM (by omega),oG]at x1 l1;have hsk:=hsh k (by omega);have VC:=zI (k0:=1) hsh (k+1) (by omega);have hcon:=yc (bV.getD k []) (kS 1 bV k) hbd.1 (by omega) hsk.1 hsk.2 (some ⟨gk,0,none⟩) ck w l1;have e3:kL (kS 1 bV k) (bV.getD k []) (bV.getD k []).length=kS 1 bV (k+1):=rfl;rw[e3]at hcon;obtain⟨m,hm⟩:∃m,(bV.getD k []).length=m:=⟨_,rfl⟩;obtain⟨K2,hK2⟩:∃x,kS 1 bV k=x:=⟨_,rfl⟩;obtain⟨K3,hK3⟩:∃x,kS 1 bV (k+1)=x:=⟨_,rfl⟩;have HK:=af hK3;rw[hm]at x1 hcon;rw[hK2]at hcon ⊢;rw[hK3]at hcon VC;have hnn:¬(K3<0):=by{omega};clear l1 hm hK2 hK3 hbd VC hsk e3;go_wp2_with fail;refine hcon.mono ?_;rintro e w4 ⟨rfl,aR⟩;subst w4;dsimp only;clear hcon;go_wp2;go_round;(case rel=>exact⟨k+1,by rw[HK.out],by simp,by omega⟩);case measure=>simp[intOf];omega};obtain rfl:k=n:=by{omega};have Ce:¬((k:Int)<(k:Int)):=by{omega};obtain⟨K2,hK2⟩:∃x,kS 1 bV k=x:=⟨_,rfl⟩;rw[hK2];go_wp2;go_ret;exact⟨by first|rfl|(rw[hK2]),rfl⟩
theorem RA.same {W W':World}{n₀ g n cc:Nat}{ws:List Value}{bV:List (List Ln)}{pJ:List (List Lv)}{bs:List Nat}(h:RA W n₀ g n cc ws bV pJ bs)(hb:∀g,n₀<=g->g<W.heap.size->W'.heap[g]?=W.heap[g]?):RA W' n₀ g n cc ws bV pJ bs:=
 ⟨rZ h.1 hb,h.2.1,fun j hj=>⟨(h.2.2 j hj).1,(h.2.2 j hj).2.1,(h.2.2 j hj).2.2.1.same (fun g h1 h2=>hb g (Nat.le_trans (h.2.2 j hj).2.1 h1) h2),(h.2.2 j hj).2.2.2⟩⟩
section
open Go.RowKit
def qW (w:World)(B:Nat)(a:Option Addr)(len cap:Nat)(zs:List Int)(i:Nat)(h:Int):Prop:=
 iT w B a len cap zs/\i<=len/\w.cell? ⟨B,1,none⟩=some (.int .i64 i)/\w.cell? ⟨B,2,none⟩=some (.int .i64 h)
theorem qW.of {w:World}{B:Nat}{a:Option Addr}{len cap:Nat}{zs:List Int}(hc:iT w B a len cap zs):∃i h,qW w B a len cap zs i h:=by obtain⟨i,hi,hc1⟩:=hc.2.2.2.2.2.2.1;obtain⟨h,hc2⟩:=hc.2.2.2.2.2.2.2;exact⟨i,h,hc,hi,hc1,hc2⟩
def nh (h:Int):Nat:=(h%9007199254740992).toNat
theorem Fh (h:Int):((nh h:Nat):Int)=h%9007199254740992:=Int.toNat_of_nonneg (Int.emod_nonneg _ (by decide))
theorem kg (y:Int):wrap64 y%9007199254740992=y%9007199254740992:=by have e:wrap64 y=y-18446744073709551616*((y+9223372036854775808) / 18446744073709551616):=by{unfold wrap64;omega};rw[e,show(18446744073709551616:Int)=9007199254740992*2048 from rfl,Int.mul_assoc,Int.sub_mul_emod_self_left]
def turn (h:Int):Int:=wrap64 (wrap64 (h*6364136223846793005)+1442695040888963407)
theorem Cr (h:Int):nh (turn h)=qD.T (nh h):=by apply Int.ofNat_inj.1;have e1:((nh (turn h):Nat):Int)=((h%9007199254740992)*5053549999652653+1543160130404687)%9007199254740992:=by{rw[Fh,turn,kg,Int.add_emod,kg,Int.mul_emod];rw[Int.add_emod ((h%9007199254740992)*5053549999652653),Int.mul_emod (h%9007199254740992),Int.emod_emod];rfl};have e2:((qD.T (nh h):Nat):Int)=(5053549999652653*(nh h:Int)+1543160130404687)%9007199254740992:=by{show(((5053549999652653*nh h+1543160130404687)%9007199254740992:Nat):Int)=_;rw[Int.natCast_emod,Int.natCast_add,Int.natCast_mul];rfl};rw[e1,e2,Fh,Int.mul_comm]
theorem yP (a b:Nat):(a ^^^ b)%2=(a+b)%2:=by have h:=Nat.testBit_xor a b 0;simp only[Nat.testBit_zero]at h;rcases Nat.mod_two_eq_zero_or_one a with ha|ha<;>rcases Nat.mod_two_eq_zero_or_one b with hb|hb<;>rcases Nat.mod_two_eq_zero_or_one (a ^^^ b)with hc|hc<;>simp[ha,hb,hc]at h<;>omega
theorem FK (y:Int):wrap64 y%2=y%2:=by have e:wrap64 y=y-18446744073709551616*((y+9223372036854775808) / 18446744073709551616):=by{unfold wrap64;omega};rw[e];generalize(y+9223372036854775808) / 18446744073709551616=k;omega
theorem CR (u:Int):(((u%18446744073709551616).toNat:Nat):Int)%2=u%2:=by rw[Int.toNat_of_nonneg (Int.emod_nonneg _ (by decide))];exact Int.emod_emod_of_dvd u ⟨9223372036854775808,by decide⟩
theorem y8 (u:Int):(BitVec.ofInt 64 u).toNat=(u%18446744073709551616).toNat:=by rw[BitVec.toNat_ofInt];rfl
theorem J5 (u v:Int):(bits .xor .i64 u v)%2=(u+v)%2:=by have e2:=yP (u%18446744073709551616).toNat (v%18446744073709551616).toNat;have l1:=CR u;have l2:=CR v;have e0:bits .xor .i64 u v=IntKind.i64.wrap (((BitVec.ofInt 64 u ^^^ BitVec.ofInt 64 v).toNat:Nat):Int):=rfl;rw[e0,IntWalk.i64_left,FK,BitVec.toNat_xor,y8,y8];generalize(u%18446744073709551616).toNat ^^^ (v%18446744073709551616).toNat=z at*;generalize(u%18446744073709551616).toNat=a at*;generalize(v%18446744073709551616).toNat=b at*;omega
theorem sD (B:Nat)(a:Option Addr)(len cap:Nat)(zs:List Int)(h:Int)(w:World)(hc:qW w B a len cap zs len h):Calls Tryz.prog 106 #[.pointer (some ⟨B,0,none⟩)] w fun e w'=>∃x:Int,e= .returned (.int .i64 x)/\0<=x/\x<=255/\x%2=qD.DT (nh (turn h))/\qW w' B a len cap zs len (turn h)/\w.grownBy w' (some B):=by obtain⟨hC,hi,hc1,hc2⟩:=hc;have HC:Hid (iT w B a len cap zs):=hC;obtain⟨hB,hab,⟨hlen,hrow⟩,hc0,hf1,hf2,-,-⟩:=hC;unfold maxLen at hlen;have ja:¬(len:Int)<(len:Int):=by{omega};go_enter Tryz.func106,Tryz.ntmps106;go_wp2;go_quiet (fail);go_wp2;go_quiet (fail);go_wp2;go_ret;refine⟨_,rfl,(Wd.jO _).1,(Wd.jO _).2,?_,?_⟩;{rw[Wd.Qh];have h2:=J5 (turn h / 8589934592) (turn h / 35184372088832);unfold turn at h2;unfold qD.DT nh turn;generalize wrap64 (wrap64 (h*6364136223846793005)+1442695040888963407)=y at*;omega};rw[World.drewN_drewN];obtain⟨k1,k2⟩:=HC.out.one (turn h) (_+_);exact⟨⟨k1,Nat.le_refl _,by go_simp,by go_simp;rfl⟩,k2⟩
end
section
open Go.RowKit
theorem qW.two {w:World}{B:Nat}{a:Option Addr}{len cap:Nat}{zs:List Int}(hc:iT w B a len cap zs)(v:Int)(n:Nat)(j:Nat)(hj:j+1<=len)(h1:w.cell? ⟨B,1,none⟩=some (.int .i64 j))(h2:∃y,w.cell? ⟨B,2,none⟩=some (.int .i64 y)):qW (((w.setCell ⟨B,2,none⟩ (.int .i64 v)).drewN n).setCell ⟨B,1,none⟩ (.int .i64 (j+1))) B a len cap zs (j+1) v/\w.grownBy (((w.setCell ⟨B,2,none⟩ (.int .i64 v)).drewN n).setCell ⟨B,1,none⟩ (.int .i64 (j+1))) (some B):=by obtain⟨k1,k2⟩:=hc.two v n j hj;obtain⟨y,hy⟩:=h2;obtain⟨hB,-,-,hc0,hf1,hf2,-,-⟩:=id hc;exact⟨⟨k1,hj,by go_simp,by go_simp⟩,k2⟩
theorem vU (B:Nat)(a:Option Addr)(len cap:Nat)(zs:List Int)(i:Nat)(h:Int)(w:World)(hc:qW w B a len cap zs i h)(hlt:i<len):Calls Tryz.prog 106 #[.pointer (some ⟨B,0,none⟩)] w fun e w'=>∃x:Int,e= .returned (.int .i64 x)/\0<=x/\x<=255/\qW w' B a len cap zs (i+1) (turn h)/\w.grownBy w' (some B):=by obtain⟨hC,hi,hc1,hc2⟩:=hc;have HC:Hid (iT w B a len cap zs):=hC;have HC1:Hid (w.cell? ⟨B,1,none⟩=some (.int .i64 i)/\∃y,w.cell? ⟨B,2,none⟩=some (.int .i64 y)):=⟨hc1,h,hc2⟩;obtain⟨hB,hab,⟨hlen,hrow⟩,hc0,hf1,hf2,-,-⟩:=hC;unfold maxLen at hlen;rcases hrow with rfl|⟨b,off,rfl,hb,hcell,hz⟩;{omega};have hcj:=hcell i hlt;have hne:b<B:=hab.elim (fun h=>by omega) fun h=>h _ rfl;have hz1:=(hz i).1;have hz2:=(hz i).2;have ja:(i:Int)<(len:Int):=by{omega};clear hcell hz hab;go_enter Tryz.func106,Tryz.ntmps106;go_wp2;go_quiet (fail);go_wp2;go_quiet (fail);go_wp2;go_quiet (fail);go_wp2;go_ret;exact⟨_,rfl,(Wd.jO _).1,(Wd.jO _).2,qW.two HC.out _ _ i (by omega) HC1.out.1 HC1.out.2⟩
namespace qD
def Rk (h n:Nat):Prop:=∃k,k%2=0/\k<=n/\¬DT (iter T k (T h))=1
theorem Bq (h:Nat):Rk h DN:=by obtain⟨k,h1,h2,h3⟩:=stops (T h) (Fb Lj h);exact⟨k,h1,Nat.le_of_lt h2,h3⟩
theorem Nl {f:Nat->Nat}{p:Nat->Prop}{h n:Nat}(hk:∃k,k%2=0/\k<=n/\¬p (iter f k (f h)))(hp:p (f h)):2<=n/\∃k,k%2=0/\k<=n-2/\¬p (iter f k (f (f (f h)))):=by obtain⟨k,h1,h2,h3⟩:=hk;have hn:k≠0:=by{rintro rfl;exact h3 hp};obtain⟨k',rfl⟩:∃k',k=k'+2:=⟨k-2,by omega⟩;rw[FD]at h3;exact⟨by omega,k',by omega,by omega,h3⟩
theorem Nw {h n:Nat}(hk:Rk h n)(hp:DT (T h)=1):2<=n/\Rk (T (T h)) (n-2):=Nl (p:=fun x=>DT x=1) hk hp
end qD
def Nz (len i:Nat)(h:Int)(m:Nat):Prop:=(i<len/\(len-i)+qD.DN+1<=m)\/(i=len/\∃r,qD.Rk (nh h) r/\r<=m)
def Bo (len i:Nat)(h:Int)(m:Nat):Prop:=(len-i)+qD.DN<m\/(i=len/\∃r,r<m/\qD.Rk (qD.T (nh h)) r)
theorem Nz.next {len i:Nat}{h:Int}{m:Nat}(hf:Nz len i h m)(hi:i<len):Bo len (i+1) (turn h) m:=by left;rcases hf with⟨-,hf⟩|⟨rfl,-⟩<;>omega
theorem Nz.odd {len:Nat}{h:Int}{m:Nat}(hf:Nz len len h m)(hp:qD.DT (nh (turn h))=1):Bo len len (turn h) m:=by right;rcases hf with⟨hf,-⟩|⟨-,r,hr,hf⟩;{omega};rw[Cr]at hp ⊢;obtain⟨h2,h3⟩:=qD.Nw hr hp;exact⟨rfl,r-2,by omega,h3⟩
theorem Bo.next {len i:Nat}{h:Int}{m:Nat}(hf:Bo len i h m)(hi:i<len):∃m',m'<m/\Nz len (i+1) (turn h) m':=by rcases hf with hf|⟨rfl,-⟩;{refine⟨_,hf,?_⟩;by_cases e:i+1=len;{exact .inr ⟨e,qD.DN,qD.Bq _,by omega⟩};exact .inl ⟨by omega,by omega⟩};omega
theorem Bo.out {len:Nat}{h:Int}{m:Nat}(hf:Bo len len h m):∃m',m'<m/\Nz len len (turn h) m':=by rcases hf with hf|⟨-,r,hm,hr⟩;{exact⟨qD.DN,by omega, .inr ⟨rfl,qD.DN,qD.Bq _,Nat.le_refl _⟩⟩};exact⟨r,hm, .inr ⟨rfl,r,by rw[Cr];exact hr,Nat.le_refl _⟩⟩
def uJ (w:World)(B:Nat)(a:Option Addr)(len cap:Nat)(zs:List Int)(m:Nat):Prop:=∃i h,qW w B a len cap zs i h/\Nz len i h m
def BJ (w:World)(B:Nat)(a:Option Addr)(len cap:Nat)(zs:List Int)(m:Nat):Prop:=∃i h,qW w B a len cap zs i h/\Bo len i h m
theorem iT.few {w:World}{B:Nat}{a:Option Addr}{len cap:Nat}{zs:List Int}(hc:iT w B a len cap zs):uJ w B a len cap zs (len+qD.DN+1):=by obtain⟨i,h,hA⟩:=qW.of hc;refine⟨i,h,hA,?_⟩;have hi:=hA.2.1;by_cases e:i=len;{exact .inr ⟨e,qD.DN,qD.Bq _,by omega⟩};exact .inl ⟨by omega,by omega⟩
theorem Gp (B:Nat)(a:Option Addr)(len cap:Nat)(zs:List Int)(m:Nat)(w:World)(hc:uJ w B a len cap zs m):Calls Tryz.prog 106 #[.pointer (some ⟨B,0,none⟩)] w fun e w'=>∃x:Int,e= .returned (.int .i64 x)/\0<=x/\x<=255/\(x%10=7->BJ w' B a len cap zs m)/\aO w w' B a len cap zs:=by obtain⟨i,h,hA,hf⟩:=hc;by_cases hi:i<len;{exact(vU B a len cap zs i h w hA hi).mono fun e w' ⟨x,he,h0,h1,hA',hg⟩=>⟨x,he,h0,h1,fun _=>⟨_,_,hA',hf.next hi⟩,hA'.1,hg⟩};have hil:i=len:=by{have:=hA.2.1;omega};subst hil;exact(sD B a i cap zs h w hA).mono fun e w' ⟨x,he,h0,h1,hp,hA',hg⟩=>⟨x,he,h0,h1,fun h7=>⟨_,_,hA',hf.odd (by omega)⟩,hA'.1,hg⟩
theorem En (B:Nat)(a:Option Addr)(len cap:Nat)(zs:List Int)(m:Nat)(w:World)(hc:BJ w B a len cap zs m):Calls Tryz.prog 106 #[.pointer (some ⟨B,0,none⟩)] w fun e w'=>∃x:Int,e= .returned (.int .i64 x)/\0<=x/\x<=255/\(∃m',m'<m/\uJ w' B a len cap zs m')/\aO w w' B a len cap zs:=by obtain⟨i,h,hA,hf⟩:=hc;by_cases hi:i<len;{exact(vU B a len cap zs i h w hA hi).mono fun e w' ⟨x,he,h0,h1,hA',hg⟩=>⟨x,he,h0,h1,(let⟨m',hm,hf'⟩:=hf.next hi;⟨m',hm,_,_,hA',hf'⟩),hA'.1,hg⟩};have hil:i=len:=by{have:=hA.2.1;omega};subst hil;exact(sD B a i cap zs h w hA).mono fun e w' ⟨x,he,h0,h1,hp,hA',hg⟩=>⟨x,he,h0,h1,(let⟨m',hm,hf'⟩:=hf.out;⟨m',hm,_,_,hA',hf'⟩),hA'.1,hg⟩
theorem zy (B:Nat)(a:Option Addr)(len cap:Nat)(zs:List Int)(m:Nat)(w:World)(hc:uJ w B a len cap zs m):Calls Tryz.prog 81 #[.pointer (some ⟨B,0,none⟩), .int .i64 10] w fun e w'=>∃x:Int,e= .returned (.int .i64 x)/\0<=x/\x<10/\(x=7->BJ w' B a len cap zs m)/\aO w w' B a len cap zs:=by have hcon:=Gp B a len cap zs m w hc;clear hc;go_enter Tryz.func81,Tryz.ntmps81;go_wp2_with fail;refine hcon.mono ?_;rintro e w1 ⟨x,rfl,hx0,hx1,h7,hd⟩;clear hcon;have H7:Hid (x%10=7->BJ w1 B a len cap zs m):=h7;clear h7;go_wp2;go_ret;exact⟨_,rfl,by omega,by omega,H7.out,hd⟩
theorem BZ (B:Nat)(a:Option Addr)(len cap:Nat)(zs:List Int)(m:Nat)(n:Int)(hn0:0<n)(hn1:n<=256)(w:World)(hc:BJ w B a len cap zs m):Calls Tryz.prog 81 #[.pointer (some ⟨B,0,none⟩), .int .i64 n] w fun e w'=>∃x:Int,e= .returned (.int .i64 x)/\0<=x/\x<n/\(∃m',m'<m/\uJ w' B a len cap zs m')/\aO w w' B a len cap zs:=by have hcon:=En B a len cap zs m w hc;clear hc;go_enter Tryz.func81,Tryz.ntmps81;go_wp2_with fail;refine hcon.mono ?_;rintro e w1 ⟨x,rfl,hx0,hx1,h7,hd⟩;clear hcon;have H7:Hid (∃m',m'<m/\uJ w1 B a len cap zs m'):=h7;clear h7;go_wp2;go_ret;exact⟨_,rfl,Int.emod_nonneg _ (by omega),Int.emod_lt_of_pos _ hn0,H7.out,hd⟩
end
section
structure KB (N B:Nat)(W W':World):Prop where
 os:W'.os=W.os
 tape:W'.tape=W.tape
 output:W'.output=W.output
 size:W.heap.size<=W'.heap.size
 block:∀k,k<N->k≠B->W'.heap[k]?=W.heap[k]?
theorem KB.refl (N B:Nat)(W:World):KB N B W W:=⟨rfl,rfl,rfl,Nat.le_refl _,fun _ _ _=>rfl⟩
theorem KB.trans {N B:Nat}{U V W:World}(h:KB N B U V)(k:KB N B V W):KB N B U W:=
 ⟨k.os.trans h.os,k.tape.trans h.tape,k.output.trans h.output,Nat.le_trans h.size k.size,fun i h1 h2=>(k.block i h1 h2).trans (h.block i h1 h2)⟩
theorem KB.grown {N B:Nat}{W W':World}{row:Option Nat}(hg:W.grownBy W' row)(hN:N<=W.heap.size)(h:∀k,row=some k->k=B\/N<=k):KB N B W W':=
 ⟨hg.os,hg.tape,hg.output,hg.size,fun i h1 h2=>hg.block i (by omega) (fun e=>by have:=h i e.symm;omega)⟩
theorem KB.below {N B:Nat}{W W':World}(hB:Below W.heap.size W W')(hN:N<=W.heap.size):KB N B W W':=
 ⟨hB.os,hB.tape,hB.output,hB.size,fun i h1 h2=>hB.block i (by omega)⟩
theorem KB.mono {N M B:Nat}{W W':World}(h:KB N B W W')(hM:M<=N):KB M B W W':=
 ⟨h.os,h.tape,h.output,h.size,fun i h1 h2=>h.block i (by omega) h2⟩
def Ty (W:World)(b:Nat)(t:TypeId):Prop:=∃cs fr,W.heap[b]?=some (.cells cs t fr)
theorem Ty.of {W W':World}{b:Nat}{t:TypeId}(h:Ty W b t)(e:W'.heap[b]?=W.heap[b]?):Ty W' b t:=by obtain⟨cs,fr,h⟩:=h;exact⟨cs,fr,e.trans h⟩
theorem Ty.lt {W:World}{b:Nat}{t:TypeId}(h:Ty W b t):b<W.heap.size:=by obtain⟨cs,fr,h⟩:=h;rcases Nat.lt_or_ge b W.heap.size with k|k;{exact k};rw[Array.getElem?_eq_none (by omega)]at h;cases h
theorem Ty.ne {W:World}{b d:Nat}{t u:TypeId}(h:Ty W b t)(k:Ty W d u)(hne:t≠u):b≠d:=by rintro rfl;obtain⟨cs,fr,h⟩:=h;obtain⟨cs',fr',k⟩:=k;rw[h]at k;simp only[ah,Obj.cells.injEq]at k;exact hne k.2.1
theorem Ty.set {W:World}{b:Nat}{t:TypeId}(h:Ty W b t)(p:Addr)(x:Value):Ty (W.setCell p x) b t:=by by_cases e:b=p.block;{obtain⟨cs,fr,h⟩:=h;subst e;unfold Ty;simp[World.setCell,Array.getElem?_modify,h]};exact h.of (Below.heap_setCell _ _ _ _ e)
theorem Ty.row {W:World}{n₀ e k n g c:Nat}{xs:List Value}(h:W.ownsRow n₀ e k (.slice (some ⟨g,0,none⟩) n c) n xs):Ty W g e:=by rcases h.2 with⟨h',_⟩|⟨g',c',cur,h',_,hb,_⟩;{cases h'};cases h';exact⟨_,_,hb⟩
theorem wU {W W':World}{n₀ e k n b:Nat}{v:Value}{xs:List Value}(h:W.ownsRow n₀ e k v n xs)(hg:W.grownBy W' (some b))(hb:b<n₀):W'.ownsRow n₀ e k v n xs:=by refine World.ownsRow.kept h hg ?_;rcases hv:v.ownBlock with _|g;{exact .inl rfl};refine .inr ?_;have:=(h.lt g hv).1;simp only[ne_eq,ah];omega
theorem xk {W W':World}{n₀ e k n b:Nat}{v:Value}{xs:List Value}(h:W.ownsRow n₀ e k v n xs)(hg:W.grownBy W' (some b))(hb:∀g,v.ownBlock=some g->g≠b):W'.ownsRow n₀ e k v n xs:=by refine World.ownsRow.kept h hg ?_;rcases hv:v.ownBlock with _|g;{exact .inl rfl};refine .inr ?_;have:=hb g hv;simp only[ne_eq,ah];omega
def vH (W:World)(N G nl:Nat)(u:Value):Prop:=
 ∃lb off lc,u= .slice (some ⟨lb,off,none⟩) nl lc/\N<=lb/\lb≠G/\nl<=lc/\lc<=maxLen/\Ty W lb 2/\∀j,j<nl->∃x:Int,W.cell? ⟨lb,off+j,none⟩=some (.int .i64 x)
theorem vH.of {W W':World}{N G nl:Nat}{u:Value}(h:vH W N G nl u)(hk:∀b,N<=b->Ty W b 2->W'.heap[b]?=W.heap[b]?):vH W' N G nl u:=by obtain⟨lb,off,lc,rfl,h1,h2,h3,h4,h5,h6⟩:=h;have e:=hk lb h1 h5;exact⟨lb,off,lc,rfl,h1,h2,h3,h4,h5.of e,fun j hj=>let⟨x,hx⟩:=h6 j hj;⟨x,(World.cell?_of_block e).trans hx⟩⟩
structure GC where
 N:Nat
 G:Nat
 B:Nat
 a:Option Addr
 len:Nat
 cap:Nat
 zs:List Int
 L:Int
 F:Nat
 nf:Nat
 fc:Nat
 gv:Int
def GC.jK (c:GC)(v u:Value):List Value:=
 [.pointer (some ⟨c.B,0,none⟩),v, .int .i64 c.L, .slice (some ⟨c.F,0,none⟩) c.nf c.fc,u, .int .i64 c.gv]
structure GS (c:GC)(n:Nat)(v:Value)(nl:Nat)(u:Value)(W:World):Prop where
 cur:iT W c.B c.a c.len c.cap c.zs
 ix:c.B<c.N/\c.N<=c.G/\c.F<c.N/\c.F≠c.B
 box:bG W c.G (c.jK v u)
 ty:Ty W c.G 161
 row:∃l,W.ownsRow c.N 121 2 v n (fO l)
 bZ:vH W c.N c.G nl u
 fn:∀j,j<c.nf->∃p q:Int,0<=p/\p<=3/\W.cell? ⟨c.F,j*4,none⟩=some (.int .i64 p)/\W.cell? ⟨c.F,j*4+2,none⟩=some (.int .i64 q)
 nf:0<c.nf/\c.nf<=3/\c.nf<=c.fc
 nl:0<nl
variable {c : GC} {n nl : Nat} {v u : Value} {W W' : World}
theorem GS.size (h:GS c n v nl u W):c.N<=W.heap.size:=by have:=h.ix;have:=h.box.1;omega
theorem GS.of (h:GS c n v nl u W)(kR:iT W' c.B c.a c.len c.cap c.zs){b:Nat}(hg:W.grownBy W' (some b))(h1:b≠c.G)(h2:b≠c.F)(h3:b<c.N):GS c n v nl u W':=by obtain⟨l,hl⟩:=h.row;have ix:=h.ix;have hs:=h.size;have hbl:∀k,k<W.heap.size->k≠b->W'.heap[k]?=W.heap[k]?:=fun k hk hne=>hg.block k hk (by simpa using hne);refine⟨kR,ix,h.box.eP hg (by simpa using h1),h.ty.of (hbl _ h.ty.lt (Ne.symm h1)),⟨l,wU hl hg h3⟩,h.bZ.of (fun d hd ht=>hbl d ht.lt (by omega)),fun j hj=>?_,h.nf,h.nl⟩;obtain⟨p,q,h4,h5,h6,h7⟩:=h.fn j hj;have e:=hbl c.F (by omega) (Ne.symm h2);exact⟨p,q,h4,h5,(World.cell?_of_block e).trans h6,(World.cell?_of_block e).trans h7⟩
theorem GS.drawn (h:GS c n v nl u W)(hd:aO W W' c.B c.a c.len c.cap c.zs):GS c n v nl u W'/\KB c.N c.B W W':=by have ix:=h.ix;exact⟨h.of hd.1 hd.2 (by omega) (by omega) (by omega),KB.grown hd.2 h.size (fun k e=> .inl (by simpa using e.symm))⟩
theorem GS.kept (h:GS c n v nl u W)(hB:Below W.heap.size W W'):GS c n v nl u W':=by obtain⟨l,hl⟩:=h.row;have ix:=h.ix;have hs:=h.size;refine⟨h.cur.kept (row:=none) ⟨hB.os,hB.tape,hB.output,hB.size,fun k hk _=>hB.block k hk⟩ (by simp) (.inr (by simp)),ix,h.box.kept hB,h.ty.of (hB.block _ h.ty.lt),⟨l,aG hl hB⟩,h.bZ.of (fun d hd ht=>hB.block d ht.lt),fun j hj=>?_,h.nf,h.nl⟩;obtain⟨p,q,h4,h5,h6,h7⟩:=h.fn j hj;have e:=hB.block c.F (by omega);exact⟨p,q,h4,h5,(World.cell?_of_block e).trans h6,(World.cell?_of_block e).trans h7⟩
theorem GS.app {W1:World}{v':Value}{n':Nat}{l:List (Int×Int)}(h:GS c n v nl u W)(hg:W.grownBy W1 v.ownBlock)(hrow:W1.ownsRow c.N 121 2 v' n' (fO l)):GS c n' v' nl u (W1.setCell ⟨c.G,1,none⟩ v')/\KB c.N c.B W (W1.setCell ⟨c.G,1,none⟩ v'):=by
 obtain⟨l0,hl⟩:=h.row
 have ix:=h.ix
 have hs:=h.size
 have hown:∀g,v.ownBlock=some g->c.N<=g/\Ty W g 121:=fun g e=>by refine⟨(hl.lt g e).1,?_⟩;rcases hl.2 with⟨rfl,_⟩|⟨g',c',cur,rfl,_,hb,_⟩;{cases e};cases e;exact⟨_,_,hb⟩
 have hbl:∀k,k<W.heap.size->(c.N<=k->¬Ty W k 121)->W1.heap[k]?=W.heap[k]?:=fun k hk hne=>hg.block k hk (fun e=>by
  obtain⟨a1,a2⟩:=hown k e.symm
  exact hne a1 a2)
 have hnt:∀k t,Ty W k t->t≠121->W1.heap[k]?=W.heap[k]?:=fun k t ht hne=>hbl k ht.lt (fun _ h2=>ht.ne h2 hne rfl)
 have hG:=hnt _ _ h.ty (by decide)
 have VD:bG W1 c.G (c.jK v u):=by refine h.box.eP hg (fun e=>?_);exact(h.ty.ne (hown _ e).2 (by decide)) rfl
 have VE:=h.ty.of hG
 have hset:=aP W1 ⟨c.G,1,none⟩ v'
 have hlo:∀k,k<c.N->(W1.setCell ⟨c.G,1,none⟩ v').heap[k]?=W.heap[k]?:=fun k hk=>(Below.heap_setCell _ _ _ _ (by simp only;omega)).trans (hbl k (by omega) (fun h'=>by omega))
 have hsz:W.heap.size<=(W1.setCell ⟨c.G,1,none⟩ v').heap.size:=Nat.le_trans hg.size hset.size
 refine⟨⟨?_,ix,VD.set 1 v',VE.set _ _,⟨l,xk hrow hset (fun g e=>?_)⟩,?_,fun j hj=>?_,h.nf,h.nl⟩,⟨hset.os.trans hg.os,hset.tape.trans hg.tape,hset.output.trans hg.output,hsz,fun k hk _=>hlo k hk⟩⟩
 · have c1:=h.cur.kept (w':=W1) hg (fun e=>by have:=(hown _ e.symm).1;omega) (h.cur.2.1.imp_right fun hx x e e'=>by have:=hx x e;have:=(hown _ e'.symm).1;omega);exact c1.kept hset (by simp only[ne_eq,ah];omega) (h.cur.2.1.imp_right fun hx x e e'=>by have:=hx x e;simp only[ah]at e';omega)
 · rcases hrow.2 with⟨rfl,_⟩|⟨g',c',cur,rfl,_,hb,_⟩;{cases e};cases e;exact Ty.ne ⟨_,_,hb⟩ VE (by decide)
 · have l1:vH W1 c.N c.G nl u:=h.bZ.of (fun d hd ht=>hnt d _ ht (by decide));obtain⟨lb,off,lc,rfl,h1,h2,h3,h4,h5,h6⟩:=l1;have e:(W1.setCell ⟨c.G,1,none⟩ v').heap[lb]?=W1.heap[lb]?:=Below.heap_setCell _ _ _ _ h2;exact⟨lb,off,lc,rfl,h1,h2,h3,h4,h5.of e,fun j hj=>let⟨x,hx⟩:=h6 j hj;⟨x,(World.cell?_of_block e).trans hx⟩⟩
 · obtain⟨p,q,h4,h5,h6,h7⟩:=h.fn j hj;have e:=hlo c.F (by omega);exact⟨p,q,h4,h5,(World.cell?_of_block e).trans h6,(World.cell?_of_block e).trans h7⟩
theorem GS.Be {nl':Nat}{u':Value}(h:GS c n v nl u W)(hl:vH W c.N c.G nl' u')(h0:0<nl'):GS c n v nl' u' (W.setCell ⟨c.G,4,none⟩ u')/\KB c.N c.B W (W.setCell ⟨c.G,4,none⟩ u'):=by obtain⟨l,hr⟩:=h.row;have ix:=h.ix;have hs:=h.size;have hset:=aP W ⟨c.G,4,none⟩ u';refine⟨⟨h.cur.kept hset (by simp only[ne_eq,ah];omega) (h.cur.2.1.imp_right fun hx x e e'=>by have:=hx x e;simp only[ah]at e';omega),ix,h.box.set 4 u',h.ty.set _ _,⟨l,xk hr hset (fun g e=>?_)⟩,?_,fun j hj=>?_,h.nf,h0⟩,KB.grown hset hs (fun k e=> .inr (by simp only[ah]at e;omega))⟩;{rcases hr.2 with⟨rfl,_⟩|⟨g',c',cur,rfl,_,hb,_⟩;{cases e};cases e;exact Ty.ne ⟨_,_,hb⟩ h.ty (by decide)};{obtain⟨lb,off,lc,rfl,h1,h2,h3,h4,h5,h6⟩:=hl;have e:(W.setCell ⟨c.G,4,none⟩ (.slice (some ⟨lb,off,none⟩) nl' lc)).heap[lb]?=W.heap[lb]?:=Below.heap_setCell _ _ _ _ h2;exact⟨lb,off,lc,rfl,h1,h2,h3,h4,h5.of e,fun j hj=>let⟨x,hx⟩:=h6 j hj;⟨x,(World.cell?_of_block e).trans hx⟩⟩};obtain⟨p,q,h4,h5,h6,h7⟩:=h.fn j hj;have e:(W.setCell ⟨c.G,4,none⟩ u').heap[c.F]?=W.heap[c.F]?:=Below.heap_setCell _ _ _ _ (by simp only;omega);exact⟨p,q,h4,h5,(World.cell?_of_block e).trans h6,(World.cell?_of_block e).trans h7⟩
theorem GS.slice (h:GS c n v nl u W):∃ad cv,v= .slice ad n cv:=by obtain⟨l,hl⟩:=h.row;rcases hl.2 with⟨rfl,h0⟩|⟨g,cv,cur,rfl,_⟩;{exact⟨none,0,by rw[h0]⟩};exact⟨_,cv,rfl⟩
theorem ed (h:GS c n v nl u W)(x:Int):
   Calls Tryz.prog 81 #[.pointer (some ⟨c.B,0,none⟩), .int .i64 x] W fun e w'=>∃y:Int,e= .returned (.int .i64 y)/\0<=y/\y<=4294967295/\(y<x\/x<=0)/\GS c n v nl u w'/\KB c.N c.B W w':=
 (aN c.B c.a c.len c.cap c.zs x W h.cur).mono fun e w' ⟨y,h1,h2,h3,h4,hd⟩=>⟨y,h1,h2,h3,h4,h.drawn hd⟩
theorem iC (h:GS c n v nl u W)(x:Int):
   Calls Tryz.prog 80 #[.pointer (some ⟨c.B,0,none⟩), .int .i64 x] W fun e w'=>∃y:Bool,e= .returned (.bool y)/\GS c n v nl u w'/\KB c.N c.B W w':=
 (eQ c.B c.a c.len c.cap c.zs x W h.cur).mono fun e w' ⟨y,h1,hd⟩=>⟨y,h1,h.drawn hd⟩
theorem rJ (h:GS c n v nl u W):
   Calls Tryz.prog 134 #[.pointer (some ⟨c.B,0,none⟩)] W fun e w'=>∃y:Int,e= .returned (.int .i64 y)/\GS c n v nl u w'/\KB c.N c.B W w':=
 (lZ c.B c.a c.len c.cap c.zs W h.cur).mono fun e w' ⟨y,h1,h2,h3,hd⟩=>⟨y,h1,h.drawn hd⟩
end
end Go.Proofs.YtellfmhljjdjbaaGreatDoor
