/-
  Own texts for a law: Mem4 Mem7 Wlk0 Wlk3 Wlk4 Wlk5 QTail Wlk6 CopO Ms3 Step7k MvE
-/
import Derived.Test.YthamlonlgnjljabNB06
import Derived.StillTail
import Derived.Lib.AppendZerosOnto
import Derived.Laws.AppendOwn
namespace Go.Proofs.Ythamlonlgnjljab
open Go.RowKit Go.Shelf
set_option linter.all false
set_option maxRecDepth 100000
set_option maxHeartbeats 16000000
def OT (W:World)(n₀:Nat)(v:Value)(xs:List Int):Prop:=∃t,W.ownsRow n₀ t 1 v xs.length (xs.map iv)
theorem OI.ot {W:World}{n₀:Nat}{v:Value}{xs:List Int}(h:OI W n₀ v xs):OT W n₀ v xs:=⟨_,h⟩
theorem OT.slice {W:World}{n₀:Nat}{v:Value}{xs:List Int}(h:OT W n₀ v xs):∃a cap,v= .slice a xs.length cap/\IL W a xs.length xs:=by obtain⟨t,h⟩:=h;rcases h.2 with⟨rfl,h0⟩|⟨g,cap,cur,rfl,hb,hc,hn,hm,hs,ht⟩;{exact⟨none,0,by rw[h0],rfl,by rw[h0];exact Nat.zero_le _, .inl h0⟩};refine⟨_,cap,rfl,rfl,Nat.le_trans hn hm, .inr ⟨g,0,rfl,(h.lt g rfl).2,fun j hj=>?_⟩⟩;have:=h.cellAt j (by omega);rw[Nat.zero_add,this,List.getElem?_map,ag hj,af,ag hj];rfl
theorem OT.il {W:World}{n₀:Nat}{a:Option Addr}{n c:Nat}{xs:List Int}(h:OT W n₀ (.slice a n c) xs):n=xs.length/\IL W a n xs:=by obtain⟨a',c',e,hil⟩:=h.slice;simp only[Value.slice.injEq]at e;obtain⟨rfl,rfl,rfl⟩:=e;exact⟨rfl,hil⟩
theorem OT.kept {W W':World}{n₀:Nat}{v:Value}{xs:List Int}(h:OT W n₀ v xs)(hB:Below W.heap.size W W'):OT W' n₀ v xs:=by obtain⟨t,h⟩:=h;refine⟨t,World.ownsRow.kept (row:=none) h ⟨hB.os,hB.tape,hB.output,hB.size,fun k hk _=>hB.block k hk⟩ ?_⟩;rcases hv:v.ownBlock with _|b;{exact .inl rfl};exact .inr (by simp)
theorem OT.cB {W W':World}{n₀ b:Nat}{v:Value}{xs:List Int}(h:OT W n₀ v xs)(hg:W.grownBy W' (some b))(hne:∀g,v.ownBlock=some g->g≠b):OT W' n₀ v xs:=by obtain⟨t,h⟩:=h;refine⟨t,World.ownsRow.kept h hg ?_⟩;rcases hv:v.ownBlock with _|b';{exact .inl rfl};refine .inr ?_;have:=hne b' hv;simp only[ne_eq,ae];omega
theorem OT.mono {W:World}{n₀ n₁:Nat}{v:Value}{xs:List Int}(h:OT W n₁ v xs)(hn:n₀<=n₁):OT W n₀ v xs:=by obtain⟨t,h⟩:=h;refine⟨t,h.1,?_⟩;rcases h.2 with h'|⟨g',cap',cur,h',hb,r⟩;{exact .inl h'};exact .inr ⟨g',cap',cur,h',Nat.le_trans hn hb,r⟩
theorem OT.lt {W:World}{n₀:Nat}{v:Value}{xs:List Int}(h:OT W n₀ v xs)(g:Nat)(hg:v.ownBlock=some g):n₀<=g/\g<W.heap.size:=by obtain⟨t,h⟩:=h;exact World.ownsRow.lt h g hg
theorem dS.ot {W:World}{n₀ g:Nat}{t:TypeId}{xs:List Int}(h:dS W g t (xs.map iv))(hg:n₀<=g)(hm:xs.length<=maxLen):OT W n₀ (.slice (some ⟨g,0,none⟩) xs.length xs.length) xs:=
 ⟨t,by simp, .inr ⟨g,xs.length,(xs.map iv).toArray,rfl,hg,h,Nat.le_refl _,hm,by simp,by rw[Nat.mul_one];exact List.take_of_length_le (by simp)⟩⟩
theorem fM (a:Option Addr)(len cap:Nat)(xs:List Int)(h20:len<=1048576)(w:World)(hs:IL w a len xs):Calls Try.prog 7 #[.slice a len cap] w fun e w'=>∃g c,e= .returned (.slice (some ⟨g,0,none⟩) len c)/\w.heap.size<=g/\OI w' w.heap.size (.slice (some ⟨g,0,none⟩) len c) xs/\Below w.heap.size w w':=by obtain⟨hl,hm,hrow⟩:=hs;have HL:=aa hl;clear hm hl;obtain⟨i0,hi,hz0,hz1,hz2⟩:=info_parts bR;obtain⟨wm,hmk,hown,hgrow⟩:=run_make_full (P:=Try.prog) w w.heap.size 23 2 i0 _ 1 Try.underlying23 hi hz0 hz1 .i64 .i64 len (by rw[hz2];omega) (by simp only[maxLen];omega) (Nat.le_refl _);have hBm:Below w.heap.size w wm:=⟨hgrow.os,hgrow.tape,hgrow.output,hgrow.size,fun k hk=>hgrow.block k hk (by simp)⟩;have hown0:wm.ownsRow w.heap.size 2 1 (.slice (some ⟨w.heap.size,0,none⟩) len len) len ((List.replicate len 0).map iv):=by{have e:(madeCells (Value.int .i64 0).cells (len*1)).toList=List.replicate (len*1) (iv 0):=toList_madeCells_one _ _;rw[List.map_replicate];rw[e,Nat.mul_one]at hown;exact hown};clear hown hgrow;go_enter Try.func7,Try.ntmps7;go_wp2;go_loopw [4] (fun i wr=>∃(k:Nat)(ys:List Int),i= .int .i64 k/\k<=len/\ys.length=len/\(∀j,j<k->ys.getD j 0=xs.getD j 0)/\wr.ownsRow w.heap.size 2 1 (.slice (some ⟨w.heap.size,0,none⟩) len len) len (ys.map iv)/\Below w.heap.size w wr) (fun i _=>len-(intOf i).toNat);(case atStart=>exact⟨0,List.replicate len 0,rfl,Nat.zero_le _,by simp,by simp,hown0,hBm⟩);case round=>obtain⟨k,ys,rfl,hk,hyl,hys,hown,hB⟩:=hrel;have HY:=aa (And.intro hyl hys);clear hown0;by_cases hlt:k<len;{rcases hrow with h0|⟨b,off,rfl,hb,hx⟩;{omega};have hx0:=(hB.cell (p:=⟨b,off+k,none⟩) hb).trans (hx k hlt);obtain⟨p,hp⟩:∃p,xs.getD k 0=p:=⟨_,rfl⟩;rw[hp]at hx0;have HP:=aa hp;have hc0:=hown.cellAt k (by omega);rw[eU (by omega)]at hc0;obtain⟨q,hq⟩:∃q,ys.getD k 0=q:=⟨_,rfl⟩;rw[hq]at hc0;have hf0:=hown.frozenAt k;have aY:=hown.stored k (.int .i64 p);rw[←aH ys k]at aY;have HST:=aa aY.1;have HB:=aa (hB.setCell (p:=⟨w.heap.size,k,none⟩) (Nat.le_refl _) (.int .i64 p));clear hyl hys hp hq aY hown hx hB;unfold iv at hc0;go_wp2;go_roundw;(case rel=>obtain⟨y1,y2⟩:=jv (f:=fun j=>xs.getD j 0) HY.out hlt HP.out;exact⟨k+1,ys.set k p,by simp,by omega,y1,y2,HST.out,HB.out⟩);case measure=>simp[intOf];omega};have hke:k=len:=by{omega};subst hke;have e:ys=xs:=jO HY.out HL.out;subst e;have HO:=aa (And.intro hown hB);clear hyl hys hown hB hrow HY;go_wp2;go_ret;refine⟨_,_,rfl,Nat.le_refl _,?_,HO.out.2⟩;unfold OI;rw[HL.out];exact HO.out.1
structure WC where
 B:Nat
 M:Nat
 Mc:Nat
 fb:Nat
 fo:Nat
 Fc:Nat
 hb:Nat
 ho:Nat
 Hc:Nat
 eb:Nat
 eo:Nat
 Ec:Nat
 ob:Nat
 oo:Nat
 Oc:Nat
 fs:List Fn
 d:ByteArray
def WC.oN (c:WC)(aP code:Int):List Value:=
 [.slice (some ⟨c.fb,c.fo,none⟩) c.fs.length c.Fc, .string c.d, .slice (some ⟨c.hb,c.ho,none⟩) c.fs.length c.Hc, .slice (some ⟨c.eb,c.eo,none⟩) c.fs.length c.Ec, .slice (some ⟨c.ob,c.oo,none⟩) c.fs.length c.Oc, .slice (some ⟨c.M,0,none⟩) 64 c.Mc, .int .i64 aP, .int .i64 code]
structure dh (c:WC)(W0 W:World):Prop where
 os:W.os=W0.os
 tape:W.tape=W0.tape
 out:W.output=W0.output
 size:W0.heap.size<=W.heap.size
 blk:∀i,i<W0.heap.size->i≠c.B->i≠c.M->W.heap[i]?=W0.heap[i]?
theorem dh.refl (c:WC)(W:World):dh c W W:=⟨rfl,rfl,rfl,Nat.le_refl _,fun _ _ _ _=>rfl⟩
theorem dh.trans {c:WC}{W0 W1 W2:World}(h:dh c W0 W1)(k:dh c W1 W2):dh c W0 W2:=
 ⟨k.os.trans h.os,k.tape.trans h.tape,k.out.trans h.out,Nat.le_trans h.size k.size,fun i hi h1 h2=>(k.blk i (ah hi h.size) h1 h2).trans (h.blk i hi h1 h2)⟩
theorem dh.below {c:WC}{W W':World}(h:Below W.heap.size W W'):dh c W W':=⟨h.os,h.tape,h.output,h.size,fun i hi _ _=>h.block i hi⟩
theorem dh.grown {c:WC}{W W':World}{row:Option Nat}(h:W.grownBy W' row)(hr:row=none\/row=some c.B\/row=some c.M\/∃r,row=some r/\W.heap.size<=r):dh c W W':=
 ⟨h.os,h.tape,h.output,h.size,fun i hi h1 h2=>h.block i hi (by
   rcases hr with rfl|rfl|rfl|⟨r,rfl,hr⟩
   · simp
   · simpa using h1
   · simpa using h2
   · simp only[ne_eq,ae];omega)⟩
def TL (W:World)(b off:Nat)(n:Nat)(f:Nat->List Int):Prop:=∀k,k<n->∃a m c,W.cell? ⟨b,off+k,none⟩=some (.slice a m c)/\IL W a m (f k)
structure rC (c:WC)(W0:World):Prop where
 fl:∀W,dh c W0 W->FL W (some ⟨c.fb,c.fo,none⟩) c.fs.length c.fs
 th:∀W,dh c W0 W->TL W c.hb c.ho c.fs.length (Mn.kM c.fs)
 te:∀W,dh c W0 W->TL W c.eb c.eo c.fs.length (fun k=>av.ends (Mn.fn c.fs k).b)
 tn:∀W,dh c W0 W->TL W c.ob c.oo c.fs.length (fun k=>av.cz (Mn.fn c.fs k).b)
 val:Mn.sK c.fs
 ne:c.B≠c.M
 uI:c.fb<W0.heap.size/\c.fb≠c.B/\c.fb≠c.M
structure WK (c:WC)(W0 W:World)(mem:List Int)(aP code:Int):Prop where
 jg:dh c W0 W
 box:bQ W c.B (c.oN aP code)
 row:W.ownsRow 0 2 1 (.slice (some ⟨c.M,0,none⟩) 64 c.Mc) 64 (mem.map iv)
theorem WK.kept {c:WC}{W0 W W':World}{mem:List Int}{aP code:Int}(h:WK c W0 W mem aP code)(hB:Below W.heap.size W W'):WK c W0 W' mem aP code:=
 ⟨h.jg.trans (dh.below hB),h.box.kept hB,h.row.kept (row:=none) ⟨hB.os,hB.tape,hB.output,hB.size,fun k hk _=>hB.block k hk⟩ (.inr (by simp[Value.ownBlock]))⟩
structure CC where
 w:World
 k:Nat
 d:Nat
 fb:Nat
 gl:Nat
 cl:Nat
 bb:Nat
 bo:Nat
 bl:Nat
 bc:Nat
 R:Mn.Rs
structure CQ (c:WC)(W0:World)(q:CC):Prop where
 tab:rC c W0
 lt:q.k<c.fs.length
 dp:q.d<12
 jg:dh c W0 q.w
 sN:q.w.cell? ⟨c.fb,c.fo+q.k*4+3,none⟩=some (.slice (some ⟨q.bb,q.bo,none⟩) q.bl q.bc)
 aS:c.B<q.w.heap.size
 tT:c.M<q.w.heap.size
 len:(Mn.fn c.fs q.k).b.length=q.bl
 uJ:q.bl<=80
structure CI (c:WC)(W0:World)(q:CC)(at':Nat)(pile loc mem:List Int)(n gp cp:Nat)(wr:World):Prop where
 nb:n<=3000
 wk:WK c W0 wr mem n 0
 fx:bQ wr q.fb [.int .i64 (Mn.fn c.fs q.k).a, .int .i64 (Mn.fn c.fs q.k).l, .int .i64 (Mn.fn c.fs q.k).g, .slice (some ⟨q.bb,q.bo,none⟩) q.bl q.bc]
 lr:wr.ownsRow (q.fb+1) 2 1 (.slice (some ⟨q.gl,0,none⟩) loc.length q.cl) loc.length (loc.map iv)
 pr:wr.ownsRow (q.gl+1) 2 1 (.slice (some ⟨gp,0,none⟩) pile.length cp) pile.length (pile.map iv)
 n4:q.w.heap.size<=q.fb
 jg:dh c q.w wr
 good:Mn.Good c.fs (Mn.fn c.fs q.k) (Mn.kM c.fs q.k) at' pile loc mem
 run:Mn.run c.fs (n+1) n q.d q.k at' pile loc mem=q.R
theorem CI.next {c:WC}{W0:World}{q:CC}{at':Nat}{pile loc mem:List Int}{m gp cp:Nat}{wr:World}(Q:CQ c W0 q)(h:CI c W0 q at' pile loc mem (m+1) gp cp wr){a2:Nat}{p2 l2 m2:List Int}(hs:Mn.aW c.fs q.k at' pile loc mem= .next a2 p2 l2 m2):Mn.Good c.fs (Mn.fn c.fs q.k) (Mn.kM c.fs q.k) a2 p2 l2 m2/\Mn.run c.fs (m+1) m q.d q.k a2 p2 l2 m2=q.R:=by have F:Mn.kY c.fs (Mn.fn c.fs q.k) (Mn.kM c.fs q.k) at' loc mem (Mn.aW c.fs q.k at' pile loc mem):=Mn.dY (Md.aK Q.tab.val.all Q.lt) Q.tab.val.all (Q.tab.val.acc q.k Q.lt) h.good;rw[hs]at F;exact⟨F,by rw[←h.run,Mn.fQ hs]⟩
theorem CI.fin {c:WC}{W0:World}{q:CC}{at':Nat}{pile loc mem:List Int}{m gp cp:Nat}{wr:World}(Q:CQ c W0 q)(h:CI c W0 q at' pile loc mem (m+1) gp cp wr){p2:List Int}(hs:Mn.aW c.fs q.k at' pile loc mem= .fin p2):(p2.length:Int)=(Mn.fn c.fs q.k).g/\q.R= .done (Mn.gives (Mn.fn c.fs q.k) p2) mem m:=by have F:Mn.kY c.fs (Mn.fn c.fs q.k) (Mn.kM c.fs q.k) at' loc mem (Mn.aW c.fs q.k at' pile loc mem):=Mn.dY (Md.aK Q.tab.val.all Q.lt) Q.tab.val.all (Q.tab.val.acc q.k Q.lt) h.good;rw[hs]at F;exact⟨F.1,by rw[←h.run,Mn.gW hs]⟩
theorem CI.halt {c:WC}{W0:World}{q:CC}{at':Nat}{pile loc mem:List Int}{m gp cp:Nat}{wr:World}(h:CI c W0 q at' pile loc mem (m+1) gp cp wr){e:Int}(hs:Mn.aW c.fs q.k at' pile loc mem= .halt e):q.R= .stop e mem m:=by rw[←h.run,Mn.run_halt hs]
structure CO (c:WC)(q:CC)(pile loc:List Int)(gp cp:Nat)(wr:World):Prop where
 fx:bQ wr q.fb [.int .i64 (Mn.fn c.fs q.k).a, .int .i64 (Mn.fn c.fs q.k).l, .int .i64 (Mn.fn c.fs q.k).g, .slice (some ⟨q.bb,q.bo,none⟩) q.bl q.bc]
 lr:wr.ownsRow (q.fb+1) 2 1 (.slice (some ⟨q.gl,0,none⟩) loc.length q.cl) loc.length (loc.map iv)
 pr:wr.ownsRow (q.gl+1) 2 1 (.slice (some ⟨gp,0,none⟩) pile.length cp) pile.length (pile.map iv)
theorem CI.own {c:WC}{W0:World}{q:CC}{at':Nat}{pile loc mem:List Int}{n gp cp:Nat}{wr:World}(h:CI c W0 q at' pile loc mem n gp cp wr):CO c q pile loc gp cp wr:=⟨h.fx,h.lr,h.pr⟩
theorem CO.cB {c:WC}{q:CC}{pile loc:List Int}{gp cp:Nat}{W W':World}{row:Option Nat}(h:CO c q pile loc gp cp W)(hg:W.grownBy W' row)(h1:row≠some q.fb)(h2:row≠some q.gl)(h3:row≠some gp):CO c q pile loc gp cp W':=
 ⟨h.fx.cB hg h1,h.lr.kept hg (.inr (by simpa[Value.ownBlock]using Ne.symm h2)),h.pr.kept hg (.inr (by simpa[Value.ownBlock]using Ne.symm h3))⟩
theorem CO.kept {c:WC}{q:CC}{pile loc:List Int}{gp cp:Nat}{W W':World}(h:CO c q pile loc gp cp W)(hB:Below W.heap.size W W'):CO c q pile loc gp cp W':=
 h.cB (row:=none) ⟨hB.os,hB.tape,hB.output,hB.size,fun k hk _=>hB.block k hk⟩ (by simp) (by simp) (by simp)
theorem CO.ord {c:WC}{q:CC}{pile loc:List Int}{gp cp:Nat}{W:World}(h:CO c q pile loc gp cp W):q.fb<q.gl/\q.gl<gp/\gp<W.heap.size:=by have h1:=h.lr.lt q.gl rfl;have h2:=h.pr.lt gp rfl;omega
theorem dh.grow {c:WC}{W0 W W':World}{r:Nat}(h:dh c W0 W)(hg:W.grownBy W' (some r))(hr:W0.heap.size<=r\/r=c.B\/r=c.M):dh c W0 W':=
 ⟨hg.os.trans h.os,hg.tape.trans h.tape,hg.output.trans h.out,Nat.le_trans h.size hg.size,fun i hi h1 h2=>(hg.block i (ah hi h.size) (by
   simp only[ne_eq,ae]
   rcases hr with hr|rfl|rfl
   · omega
   · exact h1
   · exact h2)).trans (h.blk i hi h1 h2)⟩
theorem WK.cB {c:WC}{W0 W W':World}{mem:List Int}{aP code:Int}{r:Nat}(h:WK c W0 W mem aP code)(hg:W.grownBy W' (some r))(hr:W0.heap.size<=r)(h1:r≠c.B)(h2:r≠c.M):WK c W0 W' mem aP code:=
 ⟨h.jg.grow hg (.inl hr),h.box.cB hg (by simpa using h1),h.row.kept hg (.inr (by simpa[Value.ownBlock]using Ne.symm h2))⟩
structure CM (c:WC)(W0:World)(q:CC)(pile loc mem:List Int)(n gp cp:Nat)(wr:World):Prop where
 wk:WK c W0 wr mem n 0
 co:CO c q pile loc gp cp wr
 n4:q.w.heap.size<=q.fb
 jg:dh c q.w wr
theorem CM.kept {c:WC}{W0:World}{q:CC}{pile loc mem:List Int}{n gp cp:Nat}{W W':World}(h:CM c W0 q pile loc mem n gp cp W)(hB:Below W.heap.size W W'):CM c W0 q pile loc mem n gp cp W':=
 ⟨h.wk.kept hB,h.co.kept hB,h.n4,h.jg.trans (dh.below hB)⟩
theorem CI.cm {c:WC}{W0:World}{q:CC}{at':Nat}{pile loc mem:List Int}{n gp cp:Nat}{wr:World}(h:CI c W0 q at' pile loc mem n gp cp wr):CM c W0 q pile loc mem n gp cp wr:=⟨h.wk,h.own,h.n4,h.jg⟩
theorem CM.ci {c:WC}{W0:World}{q:CC}{at':Nat}{pile loc mem:List Int}{n gp cp:Nat}{wr:World}(h:CM c W0 q pile loc mem n gp cp wr)(hn:n<=3000)(hg:Mn.Good c.fs (Mn.fn c.fs q.k) (Mn.kM c.fs q.k) at' pile loc mem)(hr:Mn.run c.fs (n+1) n q.d q.k at' pile loc mem=q.R):CI c W0 q at' pile loc mem n gp cp wr:=
 ⟨hn,h.wk,h.co.fx,h.co.lr,h.co.pr,h.n4,h.jg,hg,hr⟩
theorem WK.set {c:WC}{W0 W:World}{mem:List Int}{aP code:Int}(T:rC c W0)(h:WK c W0 W mem aP code)(x:Int):WK c W0 (W.setCell ⟨c.B,6,none⟩ (.int .i64 x)) mem x code/\WK c W0 (W.setCell ⟨c.B,7,none⟩ (.int .i64 x)) mem aP x:=by
 have hr:∀o v,(W.setCell ⟨c.B,o,none⟩ v).ownsRow 0 2 1 (.slice (some ⟨c.M,0,none⟩) 64 c.Mc) 64 (mem.map iv):=fun o v=>
  h.row.kept (row:=some c.B) (aG W ⟨c.B,o,none⟩ v) (.inr (by simpa[Value.ownBlock]using Ne.symm T.ne))
 have ha:∀o v,dh c W0 (W.setCell ⟨c.B,o,none⟩ v):=fun o v=>h.jg.trans (dh.grown (aG W ⟨c.B,o,none⟩ v) (.inr (.inl rfl)))
 exact⟨⟨ha _ _,h.box.set 6 _,hr _ _⟩,⟨ha _ _,h.box.set 7 _,hr _ _⟩⟩
theorem CM.aP {c:WC}{W0:World}{q:CC}{pile loc mem:List Int}{n gp cp:Nat}{W:World}(Q:CQ c W0 q)(h:CM c W0 q pile loc mem n gp cp W)(m:Nat):CM c W0 q pile loc mem m gp cp (W.setCell ⟨c.B,6,none⟩ (.int .i64 (m:Int))):=by obtain⟨o1,o2,o3⟩:=h.co.ord;have h4:=h.n4;have iB:=Q.aS;have hg:=aG W ⟨c.B,6,none⟩ (.int .i64 (m:Int));exact⟨(h.wk.set Q.tab (m:Int)).1,h.co.cB hg (by simp only[ne_eq,ae];omega) (by simp only[ne_eq,ae];omega) (by simp only[ne_eq,ae];omega),h.n4,h.jg.grow hg (.inr (.inl rfl))⟩
namespace Mn
open Hg
variable {fs : List Fn} {k ax : Nat} {pile loc mem : List Int} {a : Int}
end Mn
theorem CI.take {c:WC}{W0:World}{q:CC}{at':Nat}{pile loc mem:List Int}{n gp cp:Nat}{wr:World}(Q:CQ c W0 q)(h:CI c W0 q at' pile loc mem n gp cp wr):Hg.Typed c.fs (Mn.fn c.fs q.k) (av.ends (Mn.fn c.fs q.k).b) (av.cz (Mn.fn c.fs q.k).b) (Mn.kM c.fs q.k) at':=
 (Q.tab.val.acc q.k Q.lt).typ at' h.good.lt (by have:=h.good.here;omega)
namespace Mn
open Hg
end Mn
theorem add_zero (g j:Nat):(⟨g,0,none⟩:Addr).add j=⟨g,j,none⟩:=by unfold Addr.add;split<;>simp_all
section
open Go.RowKit
variable {P : Program} {ops : Array Oper} {md : Region.Mode} {C : World → Prop} {n : Nat}
def dV (P:Program)(md:Region.Mode)(ops:Array Oper)(C:World->Prop)(n:Nat)(L:Array Bool->Act->Prop):Nat->Array Bool->Act->Prop
 |0,l,a=>L l a
 |f+1,l,a=>Region.ready md ops l≠[]/\∀i,i∈Region.ready md ops l->i<n/\qOp P ops C i (dV P md ops C n L f (l.setIfInBounds i true)) a
theorem dV.any {L:Array Bool->Act->Prop}{Q:Exit->Act->World->Prop}{g:Nat}(hL:∀l a w,C w->L l a->wpAny P md ops Q g l a w)(f:Nat):∀(l:Array Bool)(a:Act)(w:World),C w->dV P md ops C n L f l a->wpAny P md ops Q (f+g) l a w:=by
 induction f with
 |zero=>intro l a w hw h;rw[Nat.zero_add];exact hL l a w hw h
 |succ f ih=>
  intro l a w hw h
  rw[show f+1+g=(f+g)+1 by omega]
  refine⟨fun e=>absurd e h.1,fun i hi=>?_⟩
  exact wpOp_of_qOp hw (fun a' w' hw' h'=>ih _ a' w' hw' h') (h.2 i hi).2
theorem bB {l:Array Bool}(hs:Region.sinkB md ops n=true)(hc:Region.chainB md ops n=true)(hn:n<ops.size)(inv:HeadInv md ops n l){i:Nat}(hi:i<n)(hun:l.getD i true=false){j:Nat}(hj:j∈Region.ready md ops l):j<n:=by refine Nat.lt_of_not_le fun h=>?_;exact tail_waits hs hc hn inv (n-i) i rfl hi hun j h hj
theorem dV.first {L:Array Bool->Act->Prop}{i:Nat}{o:Oper}{v:Value}(qQ:ops[i]?=some o)(hsel:∀(j:Nat)(o:Oper) cs b,ops[j]?=some o->o.op≠ .select cs b)(hs:Region.sinkB md ops n=true)(hc:Region.chainB md ops n=true)(hn:n<ops.size)(hin:i<n)(hdone:∀l a,L l a->∀j,j∈Region.ready md ops l->n<=j)(f:Nat):∀(l:Array Bool)(a:Act),HeadInv md ops n l->(∀j oj,ops[j]?=some oj->j≠i->l.getD j true=false->(∀e∈oj.after,Region.binds md e=true->e.on≠i)->o.apart ops oj=true)->i∈Region.ready md ops l->YieldsIn P ops C o v a->dV P md ops C n L f (l.setIfInBounds i true) (a.put o.dst v)->dV P md ops C n L (f+1) l a:=by
 induction f with
 |zero=>
  intro l a inv hfree hr hy hH
  refine⟨fun e=>by rw[e]at hr;exact absurd hr List.not_mem_nil,fun j hj=>⟨bB hs hc hn inv hin (mem_ready.1 hr).1 hj,?_⟩⟩
  rcases Nat.decEq j i with hne|he
  · have h1:=hdone _ _ hH j (ready_mono hj hne);have h2:=bB hs hc hn inv hin (mem_ready.1 hr).1 hj;omega
  · subst he;exact hy.qOp qQ hH
 |succ f ih=>
  intro l a inv hfree hr hy hH
  have hun:=(mem_ready.1 hr).1
  refine⟨fun e=>by rw[e]at hr;exact absurd hr List.not_mem_nil,fun j hj=>⟨bB hs hc hn inv hin hun hj,?_⟩⟩
  rcases Nat.decEq j i with hne|he
  · obtain⟨hjun,oj,hoj,hall⟩:=mem_ready.1 hj;have hno:∀e∈oj.after,Region.binds md e=true->e.on≠i:=by{intro e he hb heq;have h1:=hall e he hb;rw[heq,getD_both hun]at h1;cases h1};have hstep:=qOp_put hoj (hfree j oj hoj hne hjun hno) (fun cs b=>hsel i o cs b qQ) (fun cs b=>hsel j oj cs b hoj) hy (hH.2 j (ready_mono hj hne)).2;refine qOp_mono (fun a' h'=>?_) hstep;refine ih _ a' (inv.set hj (bB hs hc hn inv hin hun hj)) (fun k ok hk hki qR qU=>hfree k ok hk hki ?_ qU) (ready_mono hr (Ne.symm hne)) h'.1 ?_;{by_cases hjk:j=k;{rw[←hjk];exact hjun};rwa [getD_set_ne true hjk]at qR};rw[Array.setIfInBounds_comm _ _ hne];exact h'.2
  · subst he;exact hy.qOp qQ hH
end
theorem CM.mem {c:WC}{W0:World}{q:CC}{pile loc mem mem':List Int}{n gp cp:Nat}{W W':World}(Q:CQ c W0 q)(h:CM c W0 q pile loc mem n gp cp W)(hg:W.grownBy W' (some c.M))(hr:W'.ownsRow 0 2 1 (.slice (some ⟨c.M,0,none⟩) 64 c.Mc) 64 (mem'.map iv)):CM c W0 q pile loc mem' n gp cp W':=by obtain⟨o1,o2,o3⟩:=h.co.ord;have h4:=h.n4;have iM:=Q.tT;exact⟨⟨h.wk.jg.grow hg (.inr (.inr rfl)),h.wk.box.cB hg (by simpa using Ne.symm Q.tab.ne),hr⟩,h.co.cB hg (by simp only[ne_eq,ae];omega) (by simp only[ne_eq,ae];omega) (by simp only[ne_eq,ae];omega),h.n4,h.jg.grow hg (.inr (.inr rfl))⟩
theorem bE {P:Program}(w:World)(t ty e:TypeId)(i:TypeInfo)(ht:P.underlying t=some (.slice e))(hi:P.info? e=some i)(g cap c:Nat):(Builtin.append_ #[t,t] ty #[.slice (some ⟨g,0,none⟩) 0 cap, .slice none 0 c]).run P w= .ok (.slice (some ⟨g,0,none⟩) 0 cap) w:=by simp[Builtin.append_,run_underlying ht,sizeOf,typeInfo,hi,Builtin.lenOf,Builtin.firstCells,storeCells]
theorem cZ (a:Option Addr)(n cap:Nat)(xs:List Int)(hn:n<=1048576)(w:World)(hs:IL w a n xs):Calls Try.prog 15 #[.slice a n cap] w fun e w'=>∃g c,e= .returned (.slice (some ⟨g,0,none⟩) n c)/\w.heap.size<=g/\g<w'.heap.size/\w'.ownsRow w.heap.size 2 1 (.slice (some ⟨g,0,none⟩) n c) n (xs.map iv)/\Below w.heap.size w w':=by rcases a with _|ad;{obtain⟨hl,-,h3|⟨b',off',e,hb,hx⟩⟩:=hs;{subst h3;obtain rfl:xs=[]:=List.eq_nil_of_length_eq_zero hl;obtain⟨i0,hi,hz0,hz1,hz2⟩:=info_parts bR;have hem:=OI.empty w;have HE:=aa hem;have HR:∀(x:World)(ty:TypeId),(Builtin.append_ #[23,23] ty #[.slice (some ⟨w.heap.size,0,none⟩) 0 0, .slice none 0 cap]).run Try.prog x= .ok (.slice (some ⟨w.heap.size,0,none⟩) 0 0) x:=fun x ty=>bE x _ _ _ i0 Try.underlying23 hi _ _ _;have HRR:=aa HR;clear hem HR hl;go_enter Try.func15,Try.ntmps15;go_wp2_with(at_builtin;refine Lib.wpList_append_run _ rfl _ _ _ _ rfl _ _ rfl rfl _ _ (HRR.out _ _) ?_);go_ret;exact⟨w.heap.size,0,rfl,Nat.le_refl _,by simp,by simpa[OI]using HE.out,(Below.refl _ w).alloc (Nat.le_refl _) _⟩};cases e};obtain⟨i0,hi,hz0,hz1,hz2⟩:=info_parts bR;have hl:=hs.1;have HN:Hid (∀(o:Obj) j u,(xs.map iv)[j]?=some u->(w.alloc o).cell? (ad.add j)=some u):=by{intro o j u hu;have hj:j<n:=by{have:=(List.getElem?_eq_some_iff.1 hu).1;rwa [List.length_map,hl]at this};obtain⟨-,-,h3|⟨b',off',e,hb,hx⟩⟩:=hs;{omega};simp only[ae]at e;subst e;rw[eU (by rw[hl];exact hj)]at hu;cases hu;(have hadd:(⟨b',off',none⟩:Addr).add j=⟨b',off'+j,none⟩:=by unfold Addr.add;split<;>simp_all);rw[hadd];exact(((Below.refl _ w).alloc (Nat.le_refl _) o).cell (p:=⟨b',off'+j,none⟩) hb).trans (hx j hj)};have HL:=aa hl;have hem:=OI.empty w;have HE:=aa hem;clear hl hem hs;go_enter Try.func15,Try.ntmps15;go_wp2_with(at_builtin;refine wpList_append_own _ rfl _ _ 23 rfl w.heap.size 2 i0 (.int .i64 0) 1 8 Try.underlying23 hi hz0 hz1 hz2 rfl (by decide) _ _ _ rfl HE.out ad n cap (xs.map iv) rfl (by rw[List.length_map,HL.out,Nat.mul_one]) (HN.out _) jS (by simp only[maxLen,List.length_nil];omega) (by simp only[List.length_nil];omega) (by simp) ?_;intro v' wA hown' hgrow hnn);go_ret;rcases hown'.2 with⟨rfl,h0⟩|⟨g',cap',cur,rfl,_⟩;{exact absurd (hnn.1 rfl).1 (fun h=>by cases h)};have hlt:=hown'.lt g' rfl;have e:([]:List Int).length+n=n:=by{simp};refine⟨g',cap',congrArg (fun m=>Ending.returned (.slice (some ⟨g',0,none⟩) m cap')) e,hlt.1,hlt.2,?_,?_⟩;{simpa using hown'};exact((Below.refl _ w).alloc (Nat.le_refl _) _).grown hgrow (by simp) (fun j ej=>by cases ej;exact Nat.le_refl _)
theorem fP (a:Option Addr)(len cap:Nat)(l:List Mv.M)(b:Option Addr)(n bc:Nat)(xs:List Int)(w:World)(hs:ML w a len l)(hx:IL w b n xs):Calls Try.prog 5 #[.slice a len cap, .slice b n bc] w fun e w'=>∃g m c,e= .returned (.slice (some ⟨g,0,none⟩) m c)/\OG w' w.heap.size g m c (Mv.aC l xs)/\Below w.heap.size w w':=by have hcon:=eF a len cap l w hs;have HX:=aa hx;have hmx:=hx.2.1;have nQ:=hs.2.1;unfold maxLen at hmx nQ;have H8:Hid (Mv.isOk l=true->len<=8):=fun h=>by{rw[←hs.1];exact(Mv.dJ h).len};have gu:Hid (¬(Mv.isOk l=true/\n=len)->Mv.aC l xs=[]):=fun h=>by{unfold Mv.aC;rw[aj (by rw[hs.1,hx.1];exact h)]};have bU:Hid (Mv.isOk l=true/\n=len->Mv.aC l xs=xs):=fun h=>by{unfold Mv.aC;rw[ak (by rw[hs.1,hx.1];exact h)]};generalize Mv.aC l xs=o at gu bU ⊢;generalize Mv.isOk l=q at hcon gu bU H8;clear hs hx;go_enter Try.func5,Try.ntmps5;go_wp2_with fail;refine hcon.mono ?_;rintro e w1 ⟨rfl,hB1⟩;dsimp only;have ek:=hB1.size;have hal:=aO w1 (.cells #[] 2);have HF:=aa (And.intro (OG.empty w1 w.heap.size ek) (hB1.trans (hal.mono ek)));clear hcon hal;cases q;{have HZ:=aa (gu.out (fun h=>by cases h.1));clear gu bU hB1 H8;go_wp2;go_ret;exact⟨_,0,0,rfl,by rw[HZ.out];exact HF.out.1,HF.out.2⟩};by_cases hnl:n=len;{have HZ:=aa (bU.out ⟨rfl,hnl⟩);have h8:=H8.out rfl;have hx1:=HX.out.kept hB1;have HB:=aa hB1;have hq:((n:Int) !=(len:Int))=false:=by{simp[hnl]};have hcp:=cZ b n bc xs (by omega) w1 hx1;subst hnl;clear gu bU hB1 H8 hx1;go_wp2_with fail;refine hcp.mono ?_;rintro e w2 ⟨g,c,rfl,-,-,ho,hB2⟩;dsimp only;have ho2:OG w2 w1.heap.size g n c xs:=⟨HX.out.1,ho⟩;have HG:=aa (And.intro (ho2.mono ek) (HB.out.trans (hB2.mono ek)));clear ho ho2 hB2 hcp;go_wp2;go_ret;exact⟨g,n,c,rfl,by rw[HZ.out];exact HG.out.1,HG.out.2⟩};have HZ:=aa (gu.out (fun h=>hnl h.2));have hq:((n:Int) !=(len:Int))=true:=by{simp;omega};clear gu bU hB1 H8 hnl;go_wp2;go_ret;exact⟨_,0,0,rfl,by rw[HZ.out];exact HF.out.1,HF.out.2⟩
def bN (k:Int)(n:Nat):List (Int×Int):=(List.range n).map fun(j:Nat)=>(k+2*(j:Int),k+2*(j:Int)+1)
theorem fE {k:Int}{n j:Nat}(h:j<n):(bN k n).getD j (0,0)=(k+2*(j:Int),k+2*(j:Int)+1):=by simp[bN,af,h]
section
open Go.ChangeShapes Go.WideShapes Go.ChangeAt Go.RowKit Go.Shelf Go.Deep
theorem eH (w:World)(a b c:Obj):Below w.heap.size w (((w.alloc a).alloc b).alloc c):=
 (((Below.refl _ w).alloc (Nat.le_refl _) _).alloc (by simp) _).alloc (by simp;omega) _
theorem iT (op a:Int)(w:World):Calls Try.prog 16 #[.agg #[.int .i64 op, .int .i64 a]] w fun e w'=>e= .returned (.agg #[.int .i64 op, .int .i64 a])/\Below w.heap.size w w':=by go_enter Try.func16,Try.ntmps16;go_wp2;(try simp only[Exit.inBlock,Exit.then]);refine bodyPost_ret (v:= .agg #[_,_]) ?_ rfl ⟨rfl,eH _ _ _ _⟩;rw[dM rfl];go_simp
def nA (l:List Mv.M):List (Int×Int):=l.map fun m=>(m.t,m.f)
def oq (xs:List (Int×Int)):List Mv.M:=xs.map fun x=>⟨x.1,x.2⟩
theorem gZ (xs:List (Int×Int)):nA (oq xs)=xs:=by unfold nA oq;rw[List.map_map];exact(List.map_congr_left fun x _=>rfl).trans (List.map_id _)
theorem kL (l:List Mv.M):(nA l).length=l.length:=by simp[nA]
theorem ig (l:List Mv.M){j:Nat}(h:j<l.length):(nA l).getD j (0,0)=((l.getD j .z).t,(l.getD j .z).f):=by unfold nA;rw[af,List.getElem?_map,ag h,af,ag h];rfl
theorem lK {W:World}{a:Option Addr}{len:Nat}{l:List Mv.M}:ML W a len l↔SL W a len (nA l):=by unfold ML SL;rw[kL];constructor;{rintro⟨h1,h2,h3⟩;refine⟨h1,h2,?_⟩;rcases h3 with h0|⟨b,off,e,hb,hx⟩;{exact .inl h0};refine .inr ⟨b,off,e,hb,fun j hj=>?_⟩;rw[ig l (by omega)];exact hx j hj};rintro⟨h1,h2,h3⟩;refine⟨h1,h2,?_⟩;rcases h3 with h0|⟨b,off,e,hb,hx⟩;{exact .inl h0};refine .inr ⟨b,off,e,hb,fun j hj=>?_⟩;have:=hx j hj;rw[ig l (by omega)]at this;exact this
def OV (W:World)(n₀:Nat)(v:Value)(xs:List (Int×Int)):Prop:=
 ∃g cap,v= .slice (some ⟨g,0,none⟩) xs.length cap/\n₀<=g/\g<W.heap.size/\xs.length<=maxLen/\W.ownsRow n₀ 36 2 v xs.length (bz xs)
theorem OV.jW {W:World}{n₀ g cap n:Nat}{xs:List (Int×Int)}(h:W.ownsRow n₀ 36 2 (.slice (some ⟨g,0,none⟩) n cap) n (bz xs)):OV W n₀ (.slice (some ⟨g,0,none⟩) n cap) xs:=by have hn:n=xs.length:=by{have:=h.1;rw[fO]at this;omega};subst hn;have:=h.lt g rfl;rcases h.2 with⟨h',_⟩|⟨g',cap',cur,h',_,_,hc,hm,_⟩;{cases h'};cases h';exact⟨g,cap,rfl,this.1,this.2,Nat.le_trans hc hm,h⟩
theorem OV.kept {W W':World}{n₀:Nat}{v:Value}{xs:List (Int×Int)}(h:OV W n₀ v xs)(hB:Below W.heap.size W W'):OV W' n₀ v xs:=by obtain⟨g,cap,rfl,h0,hlt,hm,hrow⟩:=h;refine⟨g,cap,rfl,h0,ah hlt hB.size,hm,?_⟩;exact hrow.kept (row:=none) ⟨hB.os,hB.tape,hB.output,hB.size,fun k hk _=>hB.block k hk⟩ (.inr (by simp[Value.ownBlock]))
theorem OV.mono {W:World}{n₀ n₁:Nat}{v:Value}{xs:List (Int×Int)}(h:OV W n₁ v xs)(hn:n₀<=n₁):OV W n₀ v xs:=by obtain⟨g,cap,rfl,h0,hlt,hm,hrow⟩:=h;refine⟨g,cap,rfl,Nat.le_trans hn h0,hlt,hm,hrow.1,?_⟩;rcases hrow.2 with⟨h',_⟩|⟨g',cap',cur,h',hb,r⟩;{cases h'};exact .inr ⟨g',cap',cur,h',Nat.le_trans hn hb,r⟩
theorem OV.SL {W:World}{n₀:Nat}{v:Value}{xs:List (Int×Int)}(h:OV W n₀ v xs):∃g cap,v= .slice (some ⟨g,0,none⟩) xs.length cap/\n₀<=g/\g<W.heap.size/\SL W (some ⟨g,0,none⟩) xs.length xs:=by obtain⟨g,cap,rfl,h0,hlt,hm,hrow⟩:=h;refine⟨g,cap,rfl,h0,hlt,rfl,hm, .inr ⟨g,0,rfl,hlt,fun j hj=>?_⟩⟩;have:=bS xs j hj;rw[Nat.zero_add];exact⟨(hrow.cellAt (j*2) (by omega)).trans this.1,(hrow.cellAt (j*2+1) (by omega)).trans this.2⟩
theorem dG (a:Option Addr)(len cap:Nat)(n:Int)(h:len<=maxLen)(h0:0<=n)(h1:n<=1048576)(w:World):Calls Try.prog 4 #[.slice a len cap, .int .i64 n] w fun e w'=>e= .returned (.int .i64 (if n<len then -1 else n-len))/\w'=w:=by unfold maxLen at h;by_cases hlt:n<len;{rw[ak hlt];go_enter Try.func4,Try.ntmps4;go_wp2;go_ret;exact⟨rfl,rfl⟩};rw[aj hlt];go_enter Try.func4,Try.ntmps4;go_wp2;go_ret;exact⟨rfl,rfl⟩
theorem kX:(Try.prog.info? 36).map (fun i=>(i.zero,i.size,i.bytes))=some (some (.agg #[.int .i64 0, .int .i64 0]),2,16):=by kernel_rfl
theorem gL (a:Option Addr)(len cap:Nat)(xs:List (Int×Int))(h20:len<=1048576)(w:World)(hs:SL w a len xs):Calls Try.prog 6 #[.slice a len cap] w fun e w'=>∃v,e= .returned v/\OV w' w.heap.size v xs/\Below w.heap.size w w':=by obtain⟨hl,hm,hrow⟩:=hs;have HL:Hid (xs.length=len):=hl;clear hm hl;obtain⟨i0,hi,hz0,hz1,hz2⟩:=info_parts kX;obtain⟨wm,hmk,hown,hgrow⟩:=run_make_full (P:=Try.prog) w w.heap.size 26 36 i0 _ 2 Try.underlying26 hi hz0 hz1 .i64 .i64 len (by rw[hz2];omega) (by simp only[maxLen];omega) (Nat.le_refl _);have hBm:Below w.heap.size w wm:=⟨hgrow.os,hgrow.tape,hgrow.output,hgrow.size,fun k hk=>hgrow.block k hk (by simp)⟩;have hown0:wm.ownsRow w.heap.size 36 2 (.slice (some ⟨w.heap.size,0,none⟩) len len) len (bz (List.replicate len (0,0))):=by{rw[←jb];exact hown};clear hown hgrow;go_enter Try.func6,Try.ntmps6;go_wp2;go_loopw [4] (fun i wr=>∃(k:Nat)(ys:List (Int×Int)),i= .int .i64 k/\k<=len/\ys.length=len/\(∀j,j<k->ys.getD j (0,0)=xs.getD j (0,0))/\wr.ownsRow w.heap.size 36 2 (.slice (some ⟨w.heap.size,0,none⟩) len len) len (bz ys)/\Below w.heap.size w wr) (fun i _=>len-(intOf i).toNat);(case atStart=>exact⟨0,_,rfl,Nat.zero_le _,by simp,by simp,hown0,hBm⟩);case round=>obtain⟨k,ys,rfl,hk,hyl,hys,hown,hB⟩:=hrel;have HY:Hid (ys.length=len/\∀j,j<k->ys.getD j (0,0)=xs.getD j (0,0)):=⟨hyl,hys⟩;clear hyl hys hown0;by_cases hlt:k<len;{rcases hrow with h0|⟨b,off,rfl,hb,hx⟩;{omega};have hx0:=(hB.cell (p:=⟨b,off+k*2,none⟩) hb).trans (hx k hlt).1;have hx1:=(hB.cell (p:=⟨b,off+k*2+1,none⟩) hb).trans (hx k hlt).2;obtain⟨⟨p,q⟩,hpq⟩:∃x,xs.getD k (0,0)=x:=⟨_,rfl⟩;rw[hpq]at hx0 hx1;have HP:Hid (xs.getD k (0,0)=(p,q)):=hpq;clear hx hpq;go_wp2_with fail;refine(iT p q _).mono ?_;rintro e w1 ⟨rfl,hB1⟩;have hB2:=hB.trans (hB1.mono hB.size);have hown1:=hown.kept (row:=none) ⟨hB1.os,hB1.tape,hB1.output,hB1.size,fun k hk _=>hB1.block k hk⟩ (.inr (by simp[Value.ownBlock]));obtain⟨hyl,hys⟩:=HY.out;obtain⟨hg0,hg1⟩:=bS ys k (by omega);have hc0:=(hown1.cellAt (k*2) (by omega)).trans hg0;have hc1:=(hown1.cellAt (k*2+1) (by omega)).trans hg1;obtain⟨⟨p',q'⟩,j6⟩:∃x,ys.getD k (0,0)=x:=⟨_,rfl⟩;rw[j6]at hc0 hc1;have hf0:=hown1.frozenAt (k*2);have hf1:=hown1.frozenAt (k*2+1);have aY:=hown1.stored (k*2) (.int .i64 p);have dm:=aY.1.stored (k*2+1) (.int .i64 q);rw[←dB ys k (p,q)]at dm;have HST:=aa dm.1;clear hyl hys hg0 hg1 j6 aY dm;have hB3:=(hB2.setCell (p:=⟨w.heap.size,k*2,none⟩) (Nat.le_refl _) (.int .i64 p)).setCell (p:=⟨w.heap.size,k*2+1,none⟩) (Nat.le_refl _) (.int .i64 q);go_wp2;go_roundw;(case rel=>obtain⟨hyl,hys⟩:=HY.out;refine⟨k+1,ys.set k (p,q),by simp,by omega,by simp[hyl],fun j hj=>?_,HST.out,hB3⟩;by_cases e:j=k;{subst e;rw[HP.out,af,List.getElem?_set_self (by omega)];rfl};rw[←hys j (by omega),af,List.getElem?_set_ne (by omega),←af]);case measure=>simp[intOf];omega};have hke:k=len:=by{omega};subst hke;clear hrow;go_wp2;go_ret;obtain⟨hyl,hys⟩:=HY.out;have e:ys=xs:=by{apply List.ext_getElem;{rw[hyl,HL.out]};intro j h1 h2;have:=hys j (by omega);simpa[af,ag h1,ag h2]using this};rw[e]at hown;exact⟨_,rfl,OV.jW hown,hB⟩
theorem fU (p q:Int)(w:World):Calls Try.prog 18 #[.agg #[.int .i64 p, .int .i64 q], .agg #[.int .i64 p, .int .i64 q]] w fun e w'=>e= .returned (.bool true)/\Below w.heap.size w w':=by go_enter Try.func18,Try.ntmps18;go_wp2;go_ret;exact⟨rfl,iX _ _ _⟩
theorem eY (a b:Option Addr)(len cap cap':Nat)(xs:List (Int×Int))(w:World)(hs:SL w a len xs)(hs':SL w b len xs):Calls Try.prog 10 #[.slice a len cap, .slice b len cap'] w fun e w'=>e= .returned (.bool true)/\Below w.heap.size w w':=by obtain⟨hl,hm,hrow⟩:=hs;obtain⟨-,-,hrow'⟩:=hs';clear hl;unfold maxLen at hm;go_enter Try.func10,Try.ntmps10;go_wp2;go_loopw [5] (fun i wr=>∃k:Nat,i= .int .i64 k/\k<=len/\Below w.heap.size w wr) (fun i _=>len-(intOf i).toNat);(case atStart=>exact⟨0,rfl,Nat.zero_le _,Below.refl _ _⟩);case round=>obtain⟨k,rfl,hk,hB⟩:=hrel;by_cases hlt:k<len;{rcases hrow with h0|⟨b1,gQ,rfl,hb1,hx1⟩;{omega};rcases hrow' with h0|⟨b2,gT,rfl,hb2,hx2⟩;{omega};obtain⟨⟨p,q⟩,hpq⟩:∃x,xs.getD k (0,0)=x:=⟨_,rfl⟩;have hx3:=hx1 k hlt;have hx4:=hx2 k hlt;rw[hpq]at hx3 hx4;have hc1:∀wx:dx wr,wx.to.cell? ⟨b1,gQ+k*2,none⟩=some (.int .i64 p):=fun wx=>((hB.trans (wx.h.mono hB.size)).cell (p:=⟨b1,gQ+k*2,none⟩) hb1).trans hx3.1;have hc2:∀wx:dx wr,wx.to.cell? ⟨b1,gQ+k*2+1,none⟩=some (.int .i64 q):=fun wx=>((hB.trans (wx.h.mono hB.size)).cell (p:=⟨b1,gQ+k*2+1,none⟩) hb1).trans hx3.2;have hc3:∀wx:dx wr,wx.to.cell? ⟨b2,gT+k*2,none⟩=some (.int .i64 p):=fun wx=>((hB.trans (wx.h.mono hB.size)).cell (p:=⟨b2,gT+k*2,none⟩) hb2).trans hx4.1;have hc4:∀wx:dx wr,wx.to.cell? ⟨b2,gT+k*2+1,none⟩=some (.int .i64 q):=fun wx=>((hB.trans (wx.h.mono hB.size)).cell (p:=⟨b2,gT+k*2+1,none⟩) hb2).trans hx4.2;have hne:=dx.any wr;clear hx1 hx2 hx3 hx4 hpq;go_wp2;refine aM (by kernel_rfl) (by kernel_rfl) ?_;(repeat(go_big_quiet_step (first|(go_at_call 18;refine aX (fU _ _ _)))));refine wpQuiet_nil ?_;rintro _ ⟨pw,rfl⟩;have j3:=hB.trans (pw.h.mono hB.size);generalize pw.to=w7 at*;go_wp2;go_roundw;(case rel=>exact⟨k+1,by simp,by omega,j3⟩);case measure=>simp[intOf];omega};clear hrow hrow';go_wp2;go_ret;exact⟨rfl,hB⟩
theorem OV.grown {W W':World}{n₀ g n cap k:Nat}{xs:List (Int×Int)}(h:OV W n₀ (.slice (some ⟨g,0,none⟩) n cap) xs)(hg:W.grownBy W' (some k))(hne:g≠k):OV W' n₀ (.slice (some ⟨g,0,none⟩) n cap) xs:=by obtain⟨g',cap',hv,h0,hlt,hm,hrow⟩:=h;cases hv;exact⟨g,cap,rfl,h0,ah hlt hg.size,hm,hrow.kept hg (.inr (by simp only[Value.ownBlock,ne_eq,ae];omega))⟩
theorem OV.sl {W:World}{n₀ g n cap:Nat}{xs:List (Int×Int)}(h:OV W n₀ (.slice (some ⟨g,0,none⟩) n cap) xs):Go.Proofs.Ythamlonlgnjljab.SL W (some ⟨g,0,none⟩) n xs:=by obtain⟨g',cap',hv,_,_,hsl⟩:=h.SL;cases hv;exact hsl
theorem OV.cap {W:World}{n₀ g n cap:Nat}{xs:List (Int×Int)}(h:OV W n₀ (.slice (some ⟨g,0,none⟩) n cap) xs):n<=cap:=by obtain⟨g',cap',hv,-,-,-,hrow⟩:=h;cases hv;rcases hrow.2 with⟨e,-⟩|⟨g',cap',cur,e,hb,hc,hn,hm,-⟩;{cases e};cases e;exact hn
theorem eB (g n cap n₀:Nat)(xs:List (Int×Int))(k0:Int)(hk0:0<=k0)(hk1:k0<=4611686018427)(hn:n<=2000000)(w:World)(hs:OV w n₀ (.slice (some ⟨g,0,none⟩) n cap) xs):Calls Try.prog 11 #[.slice (some ⟨g,0,none⟩) n cap, .int .i64 k0] w fun e w'=>e= .returned (.int .i64 (k0+2*(n:Int)))/\OV w' n₀ (.slice (some ⟨g,0,none⟩) n cap) (bN k0 n)/\w.grownBy w' (some g):=by obtain⟨g',cap',hv,h0,hlt,hm,hrow⟩:=hs;have hgg:w.grownBy w (some g):=World.grownBy.refl _ _;have hxl:xs.length=n:=by{cases hv;rfl};rw[hxl]at hrow;clear hm hv h0 hlt;go_enter Try.func11,Try.ntmps11;go_wp2;go_loopw [1,5] (fun m i wr=>∃(k:Nat)(ys:List (Int×Int)),m= .int .i64 (k0+2*(k:Int))/\i= .int .i64 k/\k<=n/\ys.length=n/\(∀j,j<k->ys.getD j (0,0)=(k0+2*(j:Int),k0+2*(j:Int)+1))/\wr.ownsRow n₀ 36 2 (.slice (some ⟨g,0,none⟩) n cap) n (bz ys)/\w.grownBy wr (some g)) (fun _ i _=>n-(intOf i).toNat);(case atStart=>exact⟨0,xs,by congr 1;omega,rfl,Nat.zero_le _,hxl,by simp,hrow,hgg⟩);case round=>obtain⟨k,ys,rfl,rfl,hk,hyl,hys,hown,hg⟩:=hrel;have HY:Hid (ys.length=n/\∀j,j<k->ys.getD j (0,0)=(k0+2*(j:Int),k0+2*(j:Int)+1)):=⟨hyl,hys⟩;clear hrow hxl hgg;by_cases hlt:k<n;{obtain⟨hg0,hg1⟩:=bS ys k (by omega);have hc0:=(hown.cellAt (k*2) (by omega)).trans hg0;have hc1:=(hown.cellAt (k*2+1) (by omega)).trans hg1;obtain⟨⟨p',q'⟩,j6⟩:∃x,ys.getD k (0,0)=x:=⟨_,rfl⟩;rw[j6]at hc0 hc1;have hf0:=hown.frozenAt (k*2);have hf1:=hown.frozenAt (k*2+1);have aY:=hown.stored (k*2) (.int .i64 (k0+2*(k:Int)));have dm:=aY.1.stored (k*2+1) (.int .i64 (k0+2*(k:Int)+1));rw[←dB ys k (k0+2*(k:Int),k0+2*(k:Int)+1)]at dm;have HST:=aa dm.1;have HG:=aa (az (az hg aY.2) dm.2);clear hyl hys hg0 hg1 j6 aY dm hown hg;go_wp2;go_roundw;(case rel=>obtain⟨hyl,hys⟩:=HY.out;refine⟨k+1,ys.set k (k0+2*(k:Int),k0+2*(k:Int)+1),by congr 1<;>omega,by simp,by omega,by simp[hyl],fun j hj=>?_,HST.out,HG.out⟩;by_cases e:j=k;{subst e;rw[af,List.getElem?_set_self (by omega)];rfl};rw[←hys j (by omega),af,List.getElem?_set_ne (by omega),←af]);case measure=>simp[intOf];omega};have hke:k=n:=by{omega};subst hke;clear hyl hys;go_wp2;go_ret;obtain⟨hyl,hys⟩:=HY.out;have e:ys=bN k0 k:=by{apply List.ext_getElem;{rw[hyl];simp[bN]};intro j h1 h2;have:=(hys j (by omega)).trans (fE (n:=k) (by omega)).symm;simpa[af,ag h1,ag h2]using this};rw[e]at hown;exact⟨rfl,OV.jW hown,hg⟩
theorem o8 {H:Type}{enc:TypeId×Value->H}{W:World}{a:Option Addr}{len cap:Nat}{d:DataW H}{ps:List MemPlace}(h:DataW.Trod enc Try.prog W 0 (fun _=>true) true 22 (.slice a len cap) d ps):∃xs,SL W a len xs:=by obtain⟨aP,hf⟩:=h;rcases open_slice_pairs Try.underlying22 Try.underlying38 (by kernel_rfl) rfl rfl (by kernel_rfl) (by kernel_rfl) hf with⟨hcs,_⟩|⟨x,l,c,m,n,V0,V1,D0,D1,P0,P1,hcs,_,hl,hm,hmm,_,hcell⟩;{simp[Value.cells]at hcs;obtain⟨rfl,rfl,rfl⟩:=hcs;exact⟨[],rfl,Nat.zero_le _, .inl rfl⟩};simp[Value.cells]at hcs;obtain⟨rfl,rfl,rfl⟩:=hcs;simp only[if_true]at hmm;subst hmm;by_cases h0:len=0;{subst h0;exact⟨[],rfl,Nat.zero_le _, .inl rfl⟩};have hspot:x.spot=none:=by{have hc:=(hcell 0 (by omega)).1;have:=World.cell?_spot hc;obtain⟨b,off,spot⟩:=x;simpa[Addr.add]using this};obtain⟨b,off,spot⟩:=x;simp only at hspot;subst hspot;(have hadd:∀i,(⟨b,off,none⟩:Addr).add i=⟨b,off+i,none⟩:=fun i=>by unfold Addr.add;split<;>simp_all);have hV:∀j,j<m->∃p q:Int,V0 j= .int .i64 p/\V1 j= .int .i64 q:=by{intro j hj;obtain⟨_,_,ht0,ht1⟩:=hcell j hj;obtain⟨p,e0,_⟩:=DataW.trod_int Try.underlying2 ht0;obtain⟨q,e1,_⟩:=DataW.trod_int Try.underlying2 ht1;exact⟨p,q,by simpa using e0,by simpa using e1⟩};have hb:b<W.heap.size:=by{have:=World.block_lt_of_cell? _ _ (hcell 0 (by omega)).1;simpa[hadd]using this};refine⟨(List.range len).map fun j=>(intOf (V0 j),intOf (V1 j)),by simp,Nat.le_trans hl hm, .inr ⟨b,off,rfl,hb,fun j hj=>?_⟩⟩;obtain⟨p,q,e0,e1⟩:=hV j (by omega);obtain⟨hc0,hc1,_,_⟩:=hcell j (by omega);rw[hadd]at hc0 hc1;have e:((List.range len).map fun j=>(intOf (V0 j),intOf (V1 j))).getD j (0,0)=(p,q):=by{simp[af,hj,e0,e1,intOf]};rw[e];exact⟨by rw[hc0,e0],by rw[Nat.add_assoc,hc1,e1]⟩
theorem jX {W:World}{n₀ g n c:Nat}{xs:List (Int×Int)}(h:OV W n₀ (.slice (some ⟨g,0,none⟩) n c) xs)(hn:xs.length=n):SL W (some ⟨g,0,none⟩) n xs:=by obtain⟨g',c',e,-,-,hsl⟩:=h.SL;simp only[Value.slice.injEq,ae,Addr.mk.injEq,and_true]at e;obtain⟨rfl,rfl,rfl⟩:=e;exact hsl
end
end Go.Proofs.Ythamlonlgnjljab
