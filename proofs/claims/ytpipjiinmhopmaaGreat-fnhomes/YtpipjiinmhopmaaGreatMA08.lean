/-
  Own texts for a law: Fi6 SpI3 Shp10 HmJ Hh3 HmI Mem0 Mem4 Mem7 LinE1 LinR IlOf
-/
import Derived.Test.YtpipjiinmhopmaaGreatMA07
import Derived.Deep.Slices
import Derived.ChangeSlices
namespace Go.Proofs.YtpipjiinmhopmaaGreat
open Go.RowKit Go.Shelf
set_option linter.all false
set_option maxRecDepth 100000
set_option maxHeartbeats 16000000
theorem xu:(Tryz.prog.info? 122).map (fun i=>(i.zero,i.size,i.bytes))=some (some (.agg #[.slice none 0 0, .int .u64 0, .int .u64 0, .int .u64 0]),4,48):=by kernel_rfl
theorem IZ {ops:Array Oper}{rest:List Oper}{o:Oper}{a:Act}{Q:Exit->Act->World->Prop}(W:World)(hgd:o.guard=none)(s x:Operand)(ho:o.op= .call {callee:= .builtin .append,args:=#[s,x],argTypes:=#[79,79]})(ls:List Ln)(f:List Nat)(n₀ g k c:Nat)(hs:a.eval s= .slice (some ⟨g,0,none⟩) k c)(hown:FR ls W n₀ g k c f)(sb:Nat)(hx:a.eval x= .slice (some ⟨sb,0,none⟩) 1 1)(gn n cn:Nat)(hcell:∀j u,[Value.slice (some ⟨gn,0,none⟩) n cn, .int .u64 ((Fl.um (ls.getD k .z):Nat):Int), .int .u64 ((Fl.sm (ls.getD k .z):Nat):Int), .int .u64 0][j]?=some u->W.cell? ⟨sb,j,none⟩=some u)(hon:OG W n₀ gn n cn (Fl.nx (ls.getD k .z) k))(hne:gn≠g)(hf:f.getD k 0=0)(hfit:k+1<=c)(h:∀W',FR ls W' n₀ g (k+1) c f->W.grownBy W' (some g)->wpList Tryz.prog ops Q rest (a.put o.dst (.slice (some ⟨g,0,none⟩) (k+1) c)) W'):wpList Tryz.prog ops Q (o::rest) a W:=by obtain⟨i0,hi,hz0,hz1,hz2⟩:=info_parts xu;obtain⟨vs,h1,h2,h3⟩:=hown;refine wpList_append_fits W hgd s x 79 ho n₀ 122 i0 4 Tryz.underlying79 hi hz1 g k c (o5 vs) hs h2 ⟨sb,0,none⟩ 1 1 [Value.slice (some ⟨gn,0,none⟩) n cn, .int .u64 ((Fl.um (ls.getD k .z):Nat):Int), .int .u64 ((Fl.sm (ls.getD k .z):Nat):Int), .int .u64 0] hx rfl (fun j u hu=>?_) (by simp[Value.oneCell']) hfit (fun W' hown' hgrow=>?_);{(have hadd:(⟨sb,0,none⟩:Addr).add j=⟨sb,j,none⟩:=by unfold Addr.add;split<;>simp_all);rw[hadd];exact hcell j u hu};refine h W' ⟨vs++[(.slice (some ⟨gn,0,none⟩) n cn,Fl.um (ls.getD k .z),Fl.sm (ls.getD k .z),0)],by simp[h1],by rw[AL];exact hown',fun j hj=>?_⟩ hgrow;by_cases hjk:j<k;{obtain⟨gn',n',cn',e,ho',hne'⟩:=h3 j hjk;exact⟨gn',n',cn',by rw[ah,List.getElem?_append_left (by omega),←ah,e],ho'.bT hgrow hne',hne'⟩};have e:j=k:=by{omega};subst e;exact⟨gn,n,cn,by rw[ah,List.getElem?_append_right (by omega),h1,hf];simp,hon.bT hgrow hne,hne⟩
theorem SR.bT {w W W':World}{n₀ g k c b:Nat}{xs:List Ln}(h:SR w W n₀ g k c xs)(hg:W.grownBy W' (some b))(hne:g≠b):SR w W' n₀ g k c xs:=by obtain⟨eF,h1,h2,h3⟩:=h;refine⟨eF,h1,h2.kept hg (.inr ?_),h3⟩;simp only[Value.ownBlock,ne_eq,af];omega
theorem PE (W:World)(v0 v1 v2 v3:Value)(t:TypeId):∀j u,[v0,v1,v2,v3][j]?=some u->(W.alloc (.cells #[v0,v1,v2,v3] t)).cell? ⟨W.heap.size,j,none⟩=some u:=by intro j u hu;exact(show gP (W.alloc (.cells #[v0,v1,v2,v3] t)) W.heap.size t [v0,v1,v2,v3]from heap_alloc_last W _).cell hu
theorem Ak (a:Option Addr)(len cap:Nat)(ls:List Ln)(w:World)(hs:LL w a len ls):Calls Tryz.prog 56 #[.slice a len cap] w fun e w'=>(Ln.isOk ls=false/\e= .returned (.slice none 0 0)\/Ln.isOk ls=true/\∃g c,e= .returned (.slice (some ⟨g,0,none⟩) len c)/\FR ls w' w.heap.size g ls.length c (Fl.live ls))/\Below w.heap.size w w':=by have hcon:=jG a len cap ls w hs;have HL:=ae hs.1;clear hs;go_enter Tryz.func56,Tryz.ntmps56;go_wp2_with fail;refine hcon.mono ?_;rintro e w2 ⟨⟨hR,rfl⟩|⟨hR,g1,c1,rfl,mZ⟩,hB2⟩;{dsimp only;replace hR:=ae hR;clear hcon;go_wp2;go_ret;exact⟨.inl ⟨hR.out,rfl⟩,hB2⟩};dsimp only;have hlen:=Ln.eH hR;rw[HL.out]at hlen;have gN:=ae hR;obtain⟨i0,hi,hz0,hz1,hz2⟩:=info_parts xu;obtain⟨wm,hmk,hown,hgrow⟩:=run_make_own (P:=Tryz.prog) w2 w.heap.size 79 122 i0 _ 4 Tryz.underlying79 hi hz0 hz1 .i64 .i64 len (by rw[hz2];omega) (by simp only[maxLen];omega) hB2.size;have hBm:=l6 hgrow;have Cr:(len:Int)<=300:=by{omega};have hl1:(1:Int)<=(len:Int):=by{omega};have HS:=ae (mZ.kept hBm);have hsz:w2.heap.size<wm.heap.size:=by{have:=World.ownsRow.lt hown w2.heap.size rfl;exact this.2};have hB3:=hB2.trans (hBm.mono hB2.size);have HF0:Hid (FR ls wm w.heap.size w2.heap.size 0 len (List.replicate ls.length 0)):=⟨[],rfl,hown,fun j hj=>by omega⟩;have HB3:=ae hB3;have HZ:Hid (∀i,(List.replicate ls.length 0).getD i 0=0):=fun i=>by{rw[ah,List.getElem?_replicate];split<;>rfl};have hsw:=hB2.size;have hg1:=mZ.lt;have HI0:=ae (ak (Fl.In.zero ls) (Fl.Sound.zero ls));generalize List.replicate ls.length 0=F0 at HF0 HZ HI0;clear mZ hB2 hown hgrow hBm hB3 hR hlen;go_wp2;go_loopg [5,20] len (fun gk vf vi wr=>∃k:Nat,gk=len-k/\k<=len/\vf= .slice (some ⟨w2.heap.size,0,none⟩) k len/\vi= .int .i64 (k:Int)/\FR ls wr w.heap.size w2.heap.size k len F0/\SR w wr w.heap.size g1 len c1 ls/\Below w.heap.size w wr);(case atStart=>exact⟨0,rfl,by omega,rfl,rfl,HF0.out,HS.out,HB3.out⟩);case round=>obtain⟨k,nP,hk,rfl,rfl,hfr,mZ,hBw⟩:=hrel;by_cases hlt:k<len;{have bN:(k:Int)<(len:Int):=by{omega};obtain⟨la,ln,lc,hc,hil⟩:=mZ.cell hlt;have zO:=Ln.iq gN.out (i:=k) (by rw[HL.out];exact hlt);have hcw:=fun W h=>uM (ls.getD k .z) zO la ln lc k (by omega) W h;have r9:=hil.kept hBw;have HX:=ae (ak hfr (ak mZ hBw));have QL:=hcw wr r9;have hrz:=hfr.lt.2;have hwz:=hBw.size;generalize dK (ls.getD k .z) (.slice la ln lc)=sv at hc QL;clear hil r9 hfr mZ hBw hcw zO;go_wp2_with fail;refine QL.mono ?_;rintro e w4 ⟨gn,mn,cn,rfl,hon,hB4⟩;dsimp only;have hgn:=hon.lt;have UJ:=hon.mono hwz;have hal:=aA w4 (.cells #[.slice (some ⟨gn,0,none⟩) mn cn, .int .u64 ((Fl.um (ls.getD k .z):Nat):Int), .int .u64 ((Fl.sm (ls.getD k .z):Nat):Int), .int .u64 0] 122);have HY:=ae (ak ((HX.out.1.kept hB4).kept hal) (ak ((HX.out.2.1.kept hB4).kept hal) (ak ((HX.out.2.2.trans (hB4.mono hwz)).trans (hal.mono (Nat.le_trans hwz hB4.size))) (UJ.kept hal))));have QJ:=ae (PE w4 (.slice (some ⟨gn,0,none⟩) mn cn) (.int .u64 ((Fl.um (ls.getD k .z):Nat):Int)) (.int .u64 ((Fl.sm (ls.getD k .z):Nat):Int)) (.int .u64 0) 122);have hne:gn≠w2.heap.size:=by{omega};clear QL hon UJ hal hB4 HX;go_wp2_with(at_builtin;refine IZ _ rfl _ _ rfl ls F0 w.heap.size w2.heap.size k len rfl HY.out.1 w4.heap.size rfl gn mn cn QJ.out HY.out.2.2.2 hne (HZ.out k) (by omega) ?_;intro w5 UK hgr5;have HW:=ae (ak UK (ak (HY.out.2.1.bT hgr5 (by omega)) (aC HY.out.2.2.1 hgr5 hsw)));clear UK hgr5);go_roundg (len-(k+1));(case measure=>omega);case rel=>exact⟨k+1,rfl,hlt,rfl,by simp,HW.out.1,HW.out.2.1,HW.out.2.2⟩};have hke:k=len:=by{omega};subst hke;have bN:¬(k:Int)<(k:Int):=by{omega};have HX:=ae hBw;have hcs:=pQ ls gN.out F0 HI0.out.1 HI0.out.2 w.heap.size w2.heap.size k wr (by rw[HL.out];exact hfr);rw[HL.out]at hcs;clear hfr mZ hBw;go_wp2_with(go_at_call 89;refine hcs.mono ?_;rintro e w6 ⟨rfl,UL,mq⟩;dsimp only;have HF:=ae (ak UL (aC HX.out mq hsw));clear UL mq);go_ret;exact⟨.inr ⟨gN.out,w2.heap.size,k,rfl,by rw[HL.out];exact HF.out.1⟩,HF.out.2⟩
namespace Sp
theorem EP:∀m,out [] m=[]
 |0=>rfl
 | m+1=>by
   have ih:=EP m
   unfold out
   rw[ax (show¬(0:Int)<=(row [] m ([]:List Ln).length).f from show¬(0:Int)<=-1 by decide)]
   exact ih
end Sp
theorem yG (ls:List Ln):NL 40=Sp.rows ls 0:=by rw[Sp.FI,Qc]
theorem Tm:Sp.bg (NL 40) 40=[]:=by rw[yG [],show Sp.rows [] 0=Sp.rows [] ([]:List Ln).length from rfl,Sp.CX [] 40 (Nat.le_refl _),Sp.EP]
theorem FR.grown {ls:List Ln}{w W W':World}{n₀ gf k c g:Nat}{f:List Nat}(h:FR ls w n₀ gf k c f)(hB:Below w.heap.size w W)(hg:W.grownBy W' (some g))(hr:w.heap.size<=g):FR ls W' n₀ gf k c f/\Below w.heap.size w W':=⟨h.kept (aC hB hg hr),aC hB hg hr⟩
theorem uD (a:Option Addr)(len cap:Nat)(ls:List Ln)(w:World)(hs:LL w a len ls):Calls Tryz.prog 31 #[.slice a len cap] w fun e w'=>∃g n c,e= .returned (.slice (some ⟨g,0,none⟩) n c)/\SG w' w.heap.size g n c (Sp.bB ls)/\Below w.heap.size w w':=by have hcon:=Ak a len cap ls w hs;have Od:=ae hs;have HL:=ae hs.1;clear hs;go_enter Tryz.func31,Tryz.ntmps31;go_wp2_with fail;refine hcon.mono ?_;rintro e w2 ⟨⟨hR,rfl⟩|⟨hR,gf,cf,rfl,hfr⟩,hB2⟩;{dsimp only;have E8:Hid (Sp.bB ls=[]):=by{show _=_;unfold Sp.bB;rw[ax (by rw[hR];decide)]};clear hcon hR;go_wp2_with fail;refine(jW _).mono ?_;rintro e w3 ⟨g,rfl,hge,hsa,hB3⟩;dsimp only;have HX:=ae (ak hsa (hB2.trans (hB3.mono hB2.size)));clear hsa hB2 hB3;go_wp2;go_loopg [11] 0 (fun gk vi wr=>gk=0/\vi= .int .i64 0/\wr=w3);(case atStart=>exact⟨rfl,rfl,rfl⟩);case round=>obtain⟨nP,rfl,rfl⟩:=hrel;have hbg:=uq (NL 40) (by rw[yG []];exact Sp.zH [] 0) g wr HX.out.1;rw[Tm]at hbg;go_wp2_with fail;refine hbg.mono ?_;rintro e w4 ⟨g',n,c,rfl,hsg,hB4⟩;dsimp only;have HF:=ae (ak (hsg.mono HX.out.2.size) (HX.out.2.trans (hB4.mono HX.out.2.size)));clear hsg hB4 hbg;go_wp2;go_ret;exact⟨g',n,c,rfl,by rw[E8.out];exact HF.out.1,HF.out.2⟩};dsimp only;have hlen:=Ln.eH hR;rw[HL.out]at hlen;have gN:=ae hR;have E8:Hid (Sp.bB ls=Sp.bg (Sp.rows ls len) 40):=by{show _=_;rw[←HL.out,Sp.CX ls 40 (Nat.le_refl _)];unfold Sp.bB;rw[ay hR]};have UM:=hfr.cap;rw[HL.out]at UM;have Cr:(len:Int)<=300:=by{omega};have BM:=ae hfr;have bq:=hB2.size;have HB2:=ae hB2;clear hcon hR hfr hB2 hlen;go_wp2_with fail;refine(jW _).mono ?_;rintro e w3 ⟨g,rfl,hge,hsa,hB3⟩;dsimp only;have HX:=ae (ak (show SA w3 g (Sp.rows ls 0)by rw[←yG];exact hsa) hB3);clear hsa hB3;go_wp2;go_loopg [11] len (fun gk vi wr=>∃(k:Nat),gk=len-k/\k<=len/\vi= .int .i64 (k:Int)/\SA wr g (Sp.rows ls k)/\Below w2.heap.size w2 wr);(case atStart=>exact⟨0,rfl,by omega,rfl,HX.out.1,HX.out.2⟩);case round=>obtain⟨k,nP,hk,rfl,hsa,hBr⟩:=hrel;clear HX;have hBw:=HB2.out.trans (hBr.mono bq);by_cases hlt:k<len;{have bN:(k:Int)<(len:Int):=by{omega};have hll:=Od.out.kept hBw;have hlk:=F5 ls gN.out k (by rw[HL.out];exact hlt) w.heap.size gf cf g wr (BM.out.kept hBr) hsa;rw[HL.out,show decide ((ls.getD k .z).k=7)=((ls.getD k .z).k==7)from rfl]at hlk;obtain⟨-,-,h0|⟨b,off,rfl,hb,hx⟩⟩:=hll;{omega};have hc:=hx k hlt;have HBR:=ae hBr;clear hx;generalize ls.getD k .z=x at hlk hc;obtain⟨c0,-⟩:=hc;generalize x.k=xk at hlk c0;clear hsa hBr hBw;go_wp2_with(go_at_call 58;refine hlk.mono ?_;rintro e w4 ⟨rfl,hs4,hg4⟩;dsimp only;have HF:=ae (ak hs4 (aC HBR.out hg4 hge));clear hs4 hg4);go_roundg (len-(k+1));(case measure=>omega);case rel=>exact⟨k+1,rfl,hlt,by simp,HF.out.1,HF.out.2⟩};have hke:k=len:=by{omega};subst hke;have hbg:=uq (Sp.rows ls k) (Sp.zH ls k) g wr hsa;have HZ:=ae hBw;have bN:¬(k:Int)<(k:Int):=by{omega};clear hsa hBr hBw;go_wp2_with fail;refine hbg.mono ?_;rintro e w4 ⟨g',n,c,rfl,hsg,hB4⟩;dsimp only;have HF:=ae (ak (hsg.mono HZ.out.size) (HZ.out.trans (hB4.mono HZ.out.size)));clear hsg hB4 hbg;go_wp2;go_ret;exact⟨g',n,c,rfl,by rw[E8.out];exact HF.out.1,HF.out.2⟩
namespace Ln
theorem jf {z n:Int}:∀{xs:List Int},z∈put xs n↔z=n\/z∈xs
 |[]=>by simp[put]
 | x ::r=>by
   unfold put
   split
   · rw[List.mem_cons,jf,List.mem_cons]
     constructor
     · rintro(h|h|h)
       · exact .inr (.inl h)
       · exact .inl h
       · exact .inr (.inr h)
     · rintro(h|h|h)
       · exact .inr (.inl h)
       · exact .inl h
       · exact .inr (.inr h)
   · split
     · have e:x=n:=by assumption
       rw[List.mem_cons,e]
       constructor
       · exact fun h=> .inr h
       · rintro(h|h)
         · exact .inl h
         · exact h
     · exact List.mem_cons
theorem gX {z:Int}(l:List Int):∀(acc:List Int),z∈l.foldl put acc↔z∈l\/z∈acc:=by
 induction l with
 |nil=>intro acc;simp
 |cons x r ih=>
  intro acc
  rw[List.foldl_cons,ih,jf,List.mem_cons]
  constructor
  · rintro(h|h|h);{exact .inl (.inr h)};{exact .inl (.inl h)};exact .inr h
  · rintro((h|h)|h);{exact .inr (.inl h)};{exact .inl h};exact .inr (.inr h)
end Ln
theorem oQ (a:Option Addr)(len cap:Nat)(ls:List Ln)(w:World)(hs:LL w a len ls):Calls Tryz.prog 29 #[.slice a len cap] w fun e w'=>e= .returned (.bool (Ln.isOk ls))/\Below w.heap.size w w':=by have hcon:=jG a len cap ls w hs;clear hs;go_enter Tryz.func29,Tryz.ntmps29;go_wp2_with fail;refine hcon.mono ?_;rintro e w2 ⟨⟨hR,rfl⟩|⟨hR,g,c,rfl,mZ⟩,hB⟩;{dsimp only;replace hR:=ae hR;clear hcon;go_wp2;go_ret;exact⟨by rw[hR.out]<;>rfl,hB⟩};dsimp only;replace hR:=ae hR;clear hcon mZ;go_wp2;go_ret;exact⟨by rw[hR.out]<;>rfl,hB⟩
section
set_option linter.unusedSimpArgs false
theorem nK (x:Int)(w:World):Calls Tryz.prog 48 #[.int .i64 x] w fun e w'=>e= .returned (.bool (decide (100<=x)))/\w'=w:=by go_enter Tryz.func48,Tryz.ntmps48;go_wp2;go_ret;exact⟨rfl,rfl⟩
theorem oH (x:Int)(w:World):Calls Tryz.prog 74 #[.int .i64 x] w fun e w'=>e= .returned (.bool (Wd.cK x 0 4))/\w'=w:=by go_enter Tryz.func74,Tryz.ntmps74;go_wp2_with(go_at_call 83;refine(dU _ _ _ _).mono ?_;rintro e w' ⟨rfl,bq⟩;subst w';dsimp only);go_ret;exact⟨rfl,rfl⟩
theorem A9 (x:Int)(w:World):Calls Tryz.prog 73 #[.int .i64 x] w fun e w'=>e= .returned (.bool (Hm.hm x))/\w'=w:=by have HM:Hid (Hm.hm x=(decide (x=-1)||(Wd.cK x 0 4||Wd.cK x 100 163))):=rfl;have hsh:=fun W=>oH x W;have hir:=fun W=>dU x 100 163 W;generalize Wd.cK x 0 4=p at hsh HM;generalize Wd.cK x 100 163=q at hir HM;generalize Hm.hm x=r at HM ⊢;by_cases hx:x=-1;{have HR:Hid (r=true):=by{show _=_;rw[HM.out,decide_eq_true hx];rfl};have ZB:(x==-1)=true:=by{simpa using hx};clear HM hx;go_enter Tryz.func73,Tryz.ntmps73;go_wp2;go_ret;exact⟨by rw[HR.out]<;>rfl,rfl⟩};have HR:Hid (r=(p||q)):=by{show _=_;rw[HM.out,decide_eq_false hx];rfl};have ZB:(x==-1)=false:=by{simpa using hx};clear HM hx;go_enter Tryz.func73,Tryz.ntmps73;cases p;{go_wp2_with(first|(go_at_call 74;refine(hsh _).mono ?_;rintro e w' ⟨rfl,bq⟩;subst w';dsimp only)|(go_at_call 83;refine(hir _).mono ?_;rintro e w' ⟨rfl,bq⟩;subst w';dsimp only));go_ret;exact⟨by rw[HR.out]<;>rfl,rfl⟩};go_wp2_with(first|(go_at_call 74;refine(hsh _).mono ?_;rintro e w' ⟨rfl,bq⟩;subst w';dsimp only)|(go_at_call 83;refine(hir _).mono ?_;rintro e w' ⟨rfl,bq⟩;subst w';dsimp only));go_ret;exact⟨by rw[HR.out]<;>rfl,rfl⟩
def Hm.su (s:Sp.S)(x:Int):Bool:= !decide (x=-1)&& !(s.c&&Wd.cK x 0 4)
theorem CE (s:Sp.S)(x:Int)(w:World):Calls Tryz.prog 43 #[.agg #[.int .i64 s.b, .int .i64 s.f, .int .i64 s.t, .bool s.c], .int .i64 x] w fun e w'=>e= .returned (.bool (Hm.su s x))/\Below w.heap.size w w':=by have hsh:=fun W=>oH x W;obtain⟨sb,sf,st,sc⟩:=s;have HM:Hid (Hm.su ⟨sb,sf,st,sc⟩ x=(!decide (x=-1)&& !(sc&&Wd.cK x 0 4))):=rfl;dsimp only;generalize Wd.cK x 0 4=p at hsh HM;generalize Hm.su ⟨sb,sf,st,sc⟩ x=r at HM ⊢;have HB:=ae (aA w (.cells #[.int .i64 sb, .int .i64 sf, .int .i64 st, .bool sc] 39));by_cases hx:x=-1;{have HR:Hid (r=false):=by{show _=_;rw[HM.out,decide_eq_true hx];rfl};have ZB:(x !=-1)=false:=by{simpa using hx};clear HM hx;go_enter Tryz.func43,Tryz.ntmps43;go_wp2;go_ret;exact⟨by rw[HR.out]<;>rfl,HB.out⟩};have HR:Hid (r= !(sc&&p)):=by{show _=_;rw[HM.out,decide_eq_false hx];rfl};have ZB:(x !=-1)=true:=by{simpa using hx};clear HM hx;cases sc;{go_enter Tryz.func43,Tryz.ntmps43;go_wp2;go_ret;exact⟨by rw[HR.out]<;>rfl,HB.out⟩};go_enter Tryz.func43,Tryz.ntmps43;go_wp2_with(go_at_call 74;refine(hsh _).mono ?_;rintro e w' ⟨rfl,bq⟩;subst w';dsimp only);go_ret;exact⟨by rw[HR.out]<;>rfl,HB.out⟩
theorem ic (a:Option Addr)(len cap:Nat)(xs:List Int)(hlen:len<=1048576)(w:World)(hs:IL w a len xs):Calls Tryz.prog 15 #[.slice a len cap] w fun e w'=>e= .returned (.int .i64 ((Hm.size xs:Nat):Int))/\Below w.heap.size w w':=by have HL:=ae hs.1;have Cr:(len:Int)<=1048576:=by{omega};obtain⟨R,hR⟩:∃R,Hm.size xs=R:=⟨_,rfl⟩;rw[hR];have HR:=ae hR;clear hR;go_enter Tryz.func15,Tryz.ntmps15;go_wp2;go_loopg [3,8] len (fun gk vn vi wr=>∃(k q:Nat),gk=len-k/\k<=len/\vn= .int .i64 (q:Int)/\vi= .int .i64 (k:Int)/\q<=k/\Hid (q=Hm.size (xs.take k))/\w=wr);(case atStart=>exact⟨0,0,rfl,by omega,rfl,rfl,Nat.le_refl _,(by show _=_;simp[Hm.size]),rfl⟩);case round=>obtain⟨k,q,nP,hk,rfl,rfl,hqk,HQ,bq⟩:=hrel;subst bq;by_cases hlt:k<len;{have bN:(k:Int)<(len:Int):=by{omega};have hkl:k<xs.length:=by{rw[HL.out];exact hlt};obtain⟨-,-,h0|⟨lb,lo,rfl,hlb,hcc⟩⟩:=hs;{omega};have hc:=hcc k hlt;have HS:=ae (size_take hkl);generalize xs.getD k 0=y at hc HS;clear hcc hkl;have hic:=fun W=>nK y W;by_cases hy:100<=y;{have HN:Hid (q+1=Hm.size (xs.take (k+1))):=by{show _=_;rw[HS.out,ay hy,←HQ.out]};rw[decide_eq_true hy]at hic;clear HQ HS;go_wp2_with(go_at_call 48;refine(hic _).mono ?_;rintro e w' ⟨rfl,bq⟩;subst w';dsimp only);go_roundg (len-(k+1));(case measure=>omega);case rel=>exact⟨k+1,q+1,rfl,hlt,by simp,by simp,by omega,HN,rfl⟩};have HN:Hid (q=Hm.size (xs.take (k+1))):=by{show _=_;rw[HS.out,ax hy,←HQ.out];rfl};rw[decide_eq_false hy]at hic;clear HQ HS;go_wp2_with(go_at_call 48;refine(hic _).mono ?_;rintro e w' ⟨rfl,bq⟩;subst w';dsimp only);go_roundg (len-(k+1));(case measure=>omega);case rel=>exact⟨k+1,q,rfl,hlt,rfl,by simp,by omega,HN,rfl⟩};have hke:k=len:=by{omega};have HE:Hid (q=R):=by{show _=_;rw[HQ.out,←HR.out,hke,←HL.out,List.take_length]};have bN:¬(k:Int)<(len:Int):=by{omega};clear HQ hke hs;go_wp2;go_ret;exact⟨by rw[←HE.out]<;>rfl,Below.refl _ _⟩
theorem vZ (a:Option Addr)(n cap:Nat)(xs:List Int)(w:World)(hs:IL w a n xs):Calls Tryz.prog 42 #[.slice a n cap] w fun e w'=>e= .returned (.bool (decide (n=40)&&(List.range 40).all (fun i=>Hm.hm (xs.getD i 0))))/\w'=w:=by have hnm:=hs.2.1;unfold maxLen at hnm;obtain⟨R,hR⟩:∃R,(decide (n=40)&&(List.range 40).all (fun i=>Hm.hm (xs.getD i 0)))=R:=⟨_,rfl⟩;rw[hR];have HR:=ae hR;clear hR;by_cases GQ:n=40;rotate_left;{have HE:Hid (R=false):=by{show _=_;rw[←HR.out,decide_eq_false GQ];rfl};have abo:¬(n:Int)=40:=by{omega};clear HR hs;go_enter Tryz.func42,Tryz.ntmps42;go_wp2;go_ret;exact⟨by rw[HE.out]<;>rfl,rfl⟩};subst GQ;have HR2:Hid ((List.range 40).all (fun i=>Hm.hm (xs.getD i 0))=R):=by{show _=_;rw[←HR.out];rfl};clear HR;obtain⟨-,-,h0|⟨b,off,rfl,hlb,hcc⟩⟩:=hs;{omega};have zY:=ae hcc;clear hcc;go_enter Tryz.func42,Tryz.ntmps42;go_wp2;go_loopg [10] 40 (fun gk vi wr=>∃(i:Nat),gk=40-i/\i<=40/\vi= .int .i64 (i:Int)/\Hid ((List.range i).all (fun i=>Hm.hm (xs.getD i 0))=true)/\wr=w);(case atStart=>exact⟨0,rfl,by omega,rfl,(by show _=_;rfl),rfl⟩);case round=>obtain⟨i,nP,hi,rfl,iF,rfl⟩:=hrel;by_cases hlt:i<40;{have bN:(i:Int)<40:=by{omega};have hc:=zY.out i hlt;have ik:=ae (Hm.iR (fun i=>Hm.hm (xs.getD i 0)) i);have wM:=ae (fun h=>Hm.jr (f:=fun i=>Hm.hm (xs.getD i 0)) hlt h);have hhm:=fun W=>A9 (xs.getD i 0) W;generalize Hm.hm (xs.getD i 0)=r at ik wM hhm;cases r;{have HE:Hid (R=false):=by{show _=_;rw[←HR2.out,wM.out rfl]};clear ik wM iF;go_wp2_with(go_at_call 73;refine(hhm _).mono ?_;rintro e w' ⟨rfl,rfl⟩;dsimp only);go_ret;exact⟨by rw[HE.out]<;>rfl,rfl⟩};have HA2:Hid ((List.range (i+1)).all (fun i=>Hm.hm (xs.getD i 0))=true):=by{show _=_;rw[ik.out,iF.out];rfl};clear ik wM iF;go_wp2_with(go_at_call 73;refine(hhm _).mono ?_;rintro e w' ⟨rfl,rfl⟩;dsimp only);go_roundg (40-(i+1));(case measure=>omega);case rel=>exact⟨i+1,rfl,hlt,by simp,HA2,rfl⟩};have hie:i=40:=by{omega};subst hie;have HE:Hid (R=true):=by{show _=_;rw[←HR2.out,iF.out]};clear iF HR2;go_wp2;go_ret;exact⟨by rw[HE.out]<;>rfl,rfl⟩
theorem Hm.Sz {s:Sp.S}{x:Int}(h:Hm.hm x=true):Hm.su s x=(decide (0<=x)&& !(decide (x<100)&&s.c)):=by have h1:x=-1\/(0<=x/\x<=4)\/(100<=x/\x<=163):=by{unfold Hm.hm at h;simp only[Bool.or_eq_true,decide_eq_true_eq]at h;exact h};unfold Hm.su Wd.cK;rw[Bool.eq_iff_iff];cases s.c;{simp only[au,Bool.not_eq_true',decide_eq_true_eq,decide_eq_false_iff_not,Bool.false_and,Bool.and_false,Bool.not_false,and_true];omega};simp only[au,Bool.not_eq_true',decide_eq_true_eq,decide_eq_false_iff_not,Bool.true_and,Bool.and_true,Bool.and_eq_false_iff];omega
theorem oZ (a:Option Addr)(len cap:Nat)(ls:List Ln)(b:Option Addr)(n bc:Nat)(xs:List Int)(w:World)(hs:LL w a len ls)(hx:IL w b n xs):Calls Tryz.prog 13 #[.slice a len cap, .slice b n bc] w fun e w'=>e= .returned (.bool (Hm.gJ ls xs))/\Below w.heap.size w w':=by have hcon:=oQ a len cap ls w hs;have HS:=ae hs;have HX:=ae hx;have hxl:=hx.1;have hah:=fun W hW=>vZ b n bc xs W hW;have gN:Hid (Hm.gJ ls xs=((Ln.isOk ls&&decide (xs.length=40))&&((List.range 40).all (fun i=>Hm.hm (xs.getD i 0))&&Hm.nG (Sp.bB ls) xs (Sp.bB ls).length))):=rfl;have hsp:=fun W hW=>uD a len cap ls W hW;have gZ:Hid (Ln.isOk ls=true->Hm.Bx (Sp.bB ls)):=fun h=>by{unfold Sp.bB;rw[ay h];exact Hm.kM ls};generalize Hm.gJ ls xs=R at gN ⊢;rw[hxl]at gN;generalize Sp.bB ls=l at hsp gN gZ;obtain⟨q,hq⟩:∃q,Ln.isOk ls=q:=⟨_,rfl⟩;rw[hq]at hcon gN gZ;clear hs hx hxl hq;go_enter Tryz.func13,Tryz.ntmps13;go_wp2_with fail;refine hcon.mono ?_;rintro e w1 ⟨rfl,hB1⟩;dsimp only;cases q;{have HR:Hid (R=false):=by{show _=_;rw[gN.out];rfl};have HB:=ae hB1;clear hcon gN hB1 gZ hsp hah;go_wp2;go_ret;exact⟨by rw[HR.out]<;>rfl,HB.out⟩};have bq:=hB1.size;have DW:=hah w1 (HX.out.kept hB1);by_cases GQ:n=40;rotate_left;{have HR:Hid (R=false):=by{show _=_;rw[gN.out,decide_eq_false GQ];rfl};rw[decide_eq_false GQ,Bool.false_and]at DW;have HB:=ae hB1;clear hcon gN hB1 gZ hsp hah;go_wp2_with(go_at_call 42;refine DW.mono ?_;rintro e w' ⟨rfl,bq⟩;subst w';dsimp only);go_ret;exact⟨by rw[HR.out]<;>rfl,HB.out⟩};subst GQ;have hs1:=hsp w1 (HS.out.kept hB1);have QM:=ae (gZ.out rfl);have zS:Hid (R=((List.range 40).all (fun i=>Hm.hm (xs.getD i 0))&&Hm.nG l xs l.length)):=by{show _=_;rw[gN.out];rfl};have HB1:=ae hB1;have hx1:=HX.out.kept hB1;rw[decide_eq_true rfl,Bool.true_and]at DW;have E9:Hid ((List.range 40).all (fun i=>Hm.hm (xs.getD i 0))=true->∀b,b<40->Hm.hm (xs.getD b 0)=true):=fun h b hb=>List.all_eq_true.1 h b (List.mem_range.2 hb);generalize(List.range 40).all (fun i=>Hm.hm (xs.getD i 0))=al at DW zS E9;clear hcon gN hB1 gZ hsp hah HS HX;cases al;{have HR:Hid (R=false):=by{show _=_;rw[zS.out];rfl};clear zS E9;go_wp2_with(go_at_call 42;refine DW.mono ?_;rintro e w' ⟨rfl,bq⟩;subst w';dsimp only);go_ret;exact⟨by rw[HR.out]<;>rfl,HB1.out⟩};have HR:Hid (R=Hm.nG l xs l.length):=by{show _=_;rw[zS.out];rfl};have HH:=ae (E9.out rfl);obtain⟨-,-,h0|⟨b,off,rfl,hlb,hcc⟩⟩:=hx1;{omega};have zY:=ae hcc;clear hcc E9 zS;go_wp2_with(go_at_call 42;refine DW.mono ?_;rintro e w' ⟨rfl,bq⟩;subst w';dsimp only);refine hs1.mono ?_;rintro e w2 ⟨gs,ns,cs,rfl,hsg,hB2⟩;dsimp only;have hnl:=hsg.1;have Uq:=QM.out.len;have hns:ns<=40:=by{omega};have Qt:(ns:Int)<=40:=by{omega};have qK:=ae hnl;have hcs:=hsg.cap;have Cu:=ae hsg;have hw2:=hB2.size;have HB2:=ae (HB1.out.trans (hB2.mono bq));have RY:Hid (∀W,Below w2.heap.size w2 W->∀j,j<40->W.cell? ⟨b,off+j,none⟩=some (.int .i64 (xs.getD j 0))):=fun W hW j hj=>(hW.cell (p:=⟨b,off+j,none⟩) (aj hlb hB2.size)).trans ((hB2.cell (p:=⟨b,off+j,none⟩) hlb).trans (zY.out j hj));have HR2:Hid (R=(List.range ns).all fun i=>Hm.fits l xs i&&(List.range i).all fun k=>Hm.kJ l xs i k):=by{show _=_;rw[HR.out,Hm.AP,hnl]};clear hs1 hsg hB2 hnl zY HB1 HR DW;go_wp2;go_loopg [23] ns (fun gk vi wx=>∃(i:Nat),gk=ns-i/\i<=ns/\vi= .int .i64 (i:Int)/\Hid (((List.range i).all fun i=>Hm.fits l xs i&&(List.range i).all fun k=>Hm.kJ l xs i k)=true)/\Below w2.heap.size w2 wx);(case atStart=>exact⟨0,rfl,by omega,rfl,(by show _=_;rfl),Below.refl _ _⟩);case round=>obtain⟨i,hgi,hi,rfl,iF,hB3⟩:=hrel;obtain⟨w3,rfl⟩:∃x,x=wr:=⟨_,rfl⟩;by_cases hin:i<ns;rotate_left;{have hie:i=ns:=by{omega};have HT:Hid (R=true/\Below w.heap.size w w3):=⟨by rw[HR2.out,←hie,iF.out],HB2.out.trans (hB3.mono HB2.out.size)⟩;have Qz:¬(i:Int)<(ns:Int):=by{omega};clear hB3 hie iF;go_wp2;go_ret;exact⟨by rw[HT.out.1]<;>rfl,HT.out.2⟩};have Qz:(i:Int)<(ns:Int):=by{omega};have ik:=ae (Hm.iR (fun i=>Hm.fits l xs i&&(List.range i).all fun k=>Hm.kJ l xs i k) i);have wM:=ae (fun h=>Hm.jr (f:=fun i=>Hm.fits l xs i&&(List.range i).all fun k=>Hm.kJ l xs i k) hin h);have Uz:Hid (∀k,Hm.kJ l xs i k= !(decide (xs.getD (l.getD k .z).b.toNat 0=xs.getD (l.getD i .z).b.toNat 0)&&Sp.bH (l.getD i .z) (l.getD k .z))):=fun k=>rfl;have hsg:=Cu.out.kept hB3;obtain⟨d0,d1,d2,d3⟩:=hsg.cell hin;have abp:=hsg.lt;have hlo:=QM.out.lo i (by rw[qK.out];exact hin);have JR:=ae (HB2.out.trans (hB3.mono HB2.out.size));have HB3:=ae hB3;obtain⟨bn,hbn⟩:=Int.eq_ofNat_of_zero_le hlo.1;have GL:bn<40:=by{omega};have Om:(bn:Int)<40:=by{omega};have hcx:=RY.out w3 HB3.out bn GL;have BP:Hid (Hm.fits l xs i=Hm.su (l.getD i .z) (xs.getD bn 0)):=by{show _=_;rw[Hm.Sz (HH.out bn GL)];unfold Hm.fits;rw[hbn,az]};have hsu:=fun W=>CE (l.getD i .z) (xs.getD bn 0) W;have KG:=ae (fun k W=>xY (l.getD i .z) (l.getD k .z) W);have ve:Hid (∀k,Hm.kJ l xs i k= !(decide (xs.getD (l.getD k .z).b.toNat 0=xs.getD bn 0)&&Sp.bH (l.getD i .z) (l.getD k .z))):=fun k=>by{rw[Uz.out k,hbn,az]};rw[hbn]at d0;have QN:(l.getD i .z).b=(bn:Int):=hbn;generalize l.getD i .z=si at d0 d1 d2 d3 BP ve KG hsu QN;obtain⟨sb,sf,st,sc⟩:=si;dsimp only at d0 d1 d2 d3 hsu QN KG;subst QN;generalize xs.getD bn 0=v at hcx BP ve hsu;generalize Hm.su ⟨(bn:Int),sf,st,sc⟩ v=su at BP hsu;have hal:=aA w3 (.cells #[.int .i64 (bn:Int), .int .i64 sf, .int .i64 st, .bool sc] 39);have ZJ:Hid (bu (w3.alloc (.cells #[.int .i64 (bn:Int), .int .i64 sf, .int .i64 st, .bool sc] 39)) w3.heap.size [.int .i64 (bn:Int), .int .i64 sf, .int .i64 st, .bool sc]/\Below w3.heap.size w3 (w3.alloc (.cells #[.int .i64 (bn:Int), .int .i64 sf, .int .i64 st, .bool sc] 39))):=⟨bu.new w3 _ _,hal⟩;have aiS:b<w3.heap.size:=block_lt_of_cell hcx;clear hB3 hsg hlo Uz hal;go_wp2_with fail;refine(hsu _).mono ?_;rintro e w5 ⟨rfl,bE⟩;dsimp only;have HY:=ae (ak (ZJ.out.1.kept bE) (ZJ.out.2.trans (bE.mono ZJ.out.2.size)));clear bE hsu ZJ hcx d0 d1 d2 d3;cases su;{have HF:Hid (R=false/\Below w.heap.size w w5):=⟨by rw[HR2.out,wM.out (by rw[BP.out];rfl)],JR.out.trans (HY.out.2.mono JR.out.size)⟩;clear ik wM BP ve iF KG;go_wp2;go_ret;exact⟨by rw[HF.out.1]<;>rfl,HF.out.2⟩};have MS:Hid (((List.range (i+1)).all fun i=>Hm.fits l xs i&&(List.range i).all fun k=>Hm.kJ l xs i k)=((List.range i).all fun k=>Hm.kJ l xs i k)):=by{show _=_;rw[ik.out,iF.out,BP.out,Bool.true_and,Bool.true_and]};have MU:Hid (∀k,k<i->Hm.kJ l xs i k=false->R=false):=fun k hk h=>by{rw[HR2.out,wM.out (by rw[Hm.jr hk h,Bool.and_false])]};clear ik wM BP iF;have aiT:i<=cs:=by{omega};have ags:(i:Int)<=(cs:Int):=by{omega};go_wp2;have HBS:Hid (w2.heap.size<=w3.heap.size/\w.heap.size<=w2.heap.size):=⟨HB3.out.size,HB2.out.size⟩;go_loopg [41] i (fun gj vk wx=>∃(k:Nat),gj=i-k/\k<=i/\vk= .int .i64 (k:Int)/\Hid (((List.range k).all fun k=>Hm.kJ l xs i k)=true)/\bu wx w3.heap.size [.int .i64 (bn:Int), .int .i64 sf, .int .i64 st, .bool sc]/\Below w3.heap.size w3 wx);(case atStart=>exact⟨0,rfl,by omega,rfl,(by show _=_;rfl),HY.out.1,HY.out.2⟩);case round=>obtain⟨k,hgj,hk,rfl,vz,hbx,hB4⟩:=hrel;obtain⟨w4,rfl⟩:∃x,x=wr:=⟨_,rfl⟩;clear HY;have DK:=ae (HB3.out.trans (hB4.mono HB3.out.size));by_cases hki:k<i;rotate_left;{have hke:k=i:=by{omega};have HT:Hid (((List.range (i+1)).all fun i=>Hm.fits l xs i&&(List.range i).all fun k=>Hm.kJ l xs i k)=true):=by{show _=_;rw[MS.out];have:=vz.out;rw[hke]at this;exact this};have JS:¬(k:Int)<(i:Int):=by{omega};clear hbx hB4 hke vz;go_wp2;go_roundg (ns-(i+1));(case measure=>omega);case rel=>exact⟨i+1,rfl,hin,by simp,HT,DK.out⟩};have JS:(k:Int)<(i:Int):=by{omega};have hkn:k<ns:=by{omega};have hsg:=Cu.out.kept DK.out;obtain⟨g0,g1,g2,g3⟩:=hsg.cell hkn;have lm:=hsg.lt;have hlo:=QM.out.lo k (by rw[qK.out];exact hkn);obtain⟨kn,hkb⟩:=Int.eq_ofNat_of_zero_le hlo.1;have JU:kn<40:=by{omega};have Ow:(kn:Int)<40:=by{omega};have qL:=RY.out w4 DK.out kn JU;have QF:b<w4.heap.size:=block_lt_of_cell qL;have hme:=KG.out k;have HO:=ae (ve.out k);have BQ:=ae (Hm.iR (fun k=>Hm.kJ l xs i k) k);have Ox:=ae (MU.out k hki);rw[hkb,az]at HO;rw[hkb]at g0;have QO:(l.getD k .z).b=(kn:Int):=hkb;generalize l.getD k .z=sk at g0 g1 g2 g3 hme HO QO;obtain⟨kb,kf,kt,kc⟩:=sk;dsimp only at g0 g1 g2 g3 hme QO;subst QO;generalize Sp.bH ⟨(bn:Int),sf,st,sc⟩ ⟨(kn:Int),kf,kt,kc⟩=M at hme HO;generalize xs.getD kn 0=u at qL HO;obtain⟨h0,-⟩:=hbx.2 0 _ rfl;obtain⟨h1,-⟩:=hbx.2 1 _ rfl;obtain⟨h2,-⟩:=hbx.2 2 _ rfl;obtain⟨h3,-⟩:=hbx.2 3 _ rfl;have hbl:=hbx.1;have abD:=hB4.size;have hal:=aA w4 (.cells #[.int .i64 (kn:Int), .int .i64 kf, .int .i64 kt, .bool kc] 39);have HZ:=ae (ak (hbx.kept hal) (hB4.trans (hal.mono abD)));clear hal hbx hB4 hsg hlo hkb;by_cases huv:u=v;{have hq:(v==u)=true:=by{simpa using huv.symm};have iZ:Hid (Hm.kJ l xs i k= !M):=by{show _=_;rw[HO.out,decide_eq_true huv,Bool.true_and]};clear huv HO;go_wp2_with fail;refine(hme _).mono ?_;rintro e w6 ⟨rfl,bG⟩;dsimp only;have HF:=ae (ak (HZ.out.1.kept bG) (HZ.out.2.trans (bG.mono HZ.out.2.size)));clear bG hme HZ g0 g1 g2 g3 h0 h1 h2 h3 qL;cases M;{have HT:Hid (((List.range (k+1)).all fun k=>Hm.kJ l xs i k)=true):=by{show _=_;rw[BQ.out,vz.out,iZ.out];rfl};clear BQ vz iZ Ox;go_wp2;go_roundg (i-(k+1));(case measure=>omega);case rel=>exact⟨k+1,rfl,hki,by simp,HT,HF.out.1,HF.out.2⟩};have HE:Hid (R=false/\Below w.heap.size w w6):=⟨Ox.out iZ.out,JR.out.trans (HF.out.2.mono JR.out.size)⟩;clear BQ vz iZ Ox;go_wp2;go_ret;exact⟨by rw[HE.out.1]<;>rfl,HE.out.2⟩};have hq:(v==u)=false:=by{simpa using fun h=>huv h.symm};have HT:Hid (((List.range (k+1)).all fun k=>Hm.kJ l xs i k)=true):=by{show _=_;rw[BQ.out,vz.out,HO.out,decide_eq_false huv];rfl};clear huv HO BQ vz Ox hme;go_wp2;go_roundg (i-(k+1));(case measure=>omega);case rel=>exact⟨k+1,rfl,hki,by simp,HT,HZ.out.1,HZ.out.2⟩
end
section
set_option linter.unusedSimpArgs false
def NS (k:Nat):List Sp.S:=(List.range 5).map fun b=>if b<k then Hp.Gq else⟨0,0,0,false⟩
def NB (k:Nat):List Int:=(List.range 40).map fun b=>if b<k then -1 else 0
theorem Ac {α:Type _}(N k:Nat)(x y:α)(hk:k<N):((List.range N).map fun b=>if b<k+1 then x else y)=((List.range N).map fun b=>if b<k then x else y).set k x:=by refine List.ext_getElem? fun j=>?_;by_cases h:k=j;{subst h;rw[List.getElem?_set_self (by simp;exact hk)];simp[hk]};rw[List.getElem?_set_ne h,List.getElem?_map,List.getElem?_map];by_cases hj:j<N;{rw[List.getElem?_range hj];simp only[Option.map_some];by_cases h2:j<k;{rw[ay (by omega),ay h2]};rw[ax (by omega),ax h2]};rw[List.getElem?_eq_none (by simp;omega)];rfl
theorem Lj (k:Nat)(hk:k<5):NS (k+1)=(NS k).set k Hp.Gq:=Ac 5 k _ _ hk
theorem Mr (k:Nat)(hk:k<40):NB (k+1)=(NB k).set k (-1):=Ac 40 k _ _ hk
theorem Sl:(⟨NS 5,NB 40⟩:Hp.P)=Hp.new:=by rfl
theorem Jv:Tryz.prog.built 88 []=some (aY (NS 0)++(NB 0).map iv).toArray:=by kernel_rfl
theorem GA {ops:Array Oper}{rest:List Oper}{o:Oper}{a:Act}{w:World}{Q:Exit->Act->World->Prop}(hgd:o.guard=none)(ho:o.op= .build 88 #[])(zs:List Value)(hz:aY (NS 0)++(NB 0).map iv=zs)(h:wpList Tryz.prog ops Q rest (a.put o.dst (.agg zs.toArray)) w):wpList Tryz.prog ops Q (o::rest) a w:=by refine wpList_plain hgd fun K hK=>?_;have hrun:=run_build (P:=Tryz.prog) w 88 #[] _ Jv;rw[hz]at hrun;unfold Oper.wp execOp;simp only[ho,Sem.run_bind];rw[show(Array.map (fun x:Nat×Operand=>(x.fst,a.eval x.snd)) #[])=#[]from by simp,hrun];simp only[Result.andThen_ok];exact hK _ _ h
theorem rM (w:World):Calls Tryz.prog 32 #[] w fun e w'=>∃g,e= .returned (.pointer (some ⟨g,0,none⟩))/\w.heap.size<=g/\HG w' g Hp.new/\Below w.heap.size w w':=by obtain⟨zs,hzs⟩:∃zs,aY (NS 0)++(NB 0).map iv=zs:=⟨_,rfl⟩;have HZ:=ae hzs;go_enter Tryz.func32,Tryz.ntmps32;go_wp2_with(refine uW 88 _ rfl ?_);refine⟨?_⟩;refine GA rfl rfl zs hzs ?_;go_wp2_with(refine Bz 88 _ rfl ?_);refine⟨?_⟩;refine qR rfl _ _ rfl zs rfl ?_;intro g1 w1 hg1 hA1 hB1;have HA:=ae (show HG w1 g1 ⟨NS 0,NB 0⟩/\Below w.heap.size w w1 from⟨⟨by simp[NS],by simp[NB],by show gP _ _ _ _;rw[HZ.out];exact hA1⟩,hB1⟩);have hge:w.heap.size<=g1:=Nat.le_of_eq hg1.out.symm;clear hg1 hA1 hB1 hzs HZ;go_wp2;go_loopg [6] 5 (fun gk vi wr=>∃(k:Nat),gk=5-k/\k<=5/\vi= .int .i64 (k:Int)/\HG wr g1 ⟨NS k,NB 0⟩/\Below w.heap.size w wr);(case atStart=>exact⟨0,rfl,by omega,rfl,HA.out.1,HA.out.2⟩);case round=>obtain⟨k,nP,hk,rfl,hs,hB⟩:=hrel;clear HA;have HH:=ae (ak hs hB);by_cases hlt:k<5;{have bN:(k:Int)<5:=by{omega};have hgl:=hs.lt;have hfz:=hs.frozen;have bq:=hB.size;obtain⟨d0,d1,d2,d3⟩:=hs.cell hlt;clear hs hB;go_wp2_with fail;go_region_with (go_at_call 60;refine(eT _ _).mono ?_;rintro e w4 ⟨rfl,hB4⟩;unfold Ns;have hs4:=HH.out.1.kept (dh hB4);have bE:=HH.out.2.trans ((dh hB4).mono bq);have MP:=hs4.lt;have MQ:=hs4.frozen;obtain⟨e0,e1,e2,e3⟩:=hs4.cell hlt;have He:=ae (ak hs4 bE);clear hs4 bE hB4);have HF:=ae (ak (He.out.1.take hlt Hp.Gq) (aC He.out.2 (iK _ g1 (k*4) (k*4+1) (k*4+2) (k*4+3) (.int .i64 (-1)) (.int .i64 (-1)) (.int .i64 (-1)) (.bool false)) hge));dsimp only at HF;rw[←Lj k hlt]at HF;unfold Hp.Gq at HF;dsimp only at HF;go_wp2;go_roundg (5-(k+1));(case measure=>omega);case rel=>exact⟨k+1,rfl,hlt,by simp,HF.out.1,HF.out.2⟩};have hke:k=5:=by{omega};subst hke;clear hs hB;go_wp2;go_loopg [16] 40 (fun gk vi wr=>∃(k:Nat),gk=40-k/\k<=40/\vi= .int .i64 (k:Int)/\HG wr g1 ⟨NS 5,NB k⟩/\Below w.heap.size w wr);(case atStart=>exact⟨0,rfl,by omega,rfl,HH.out.1,HH.out.2⟩);case round=>obtain⟨k,nP,hk,rfl,hs,hB⟩:=hrel;clear HH;by_cases hlt:k<40;{have bN:(k:Int)<40:=by{omega};have hgl:=hs.lt;have hfz:=hs.frozen;have bq:=hB.size;have hc:=hs.home hlt;have HF:=ae (ak (hs.tell hlt (-1)) (aC hB (aB wr ⟨g1,20+k,none⟩ (.int .i64 (-1))) hge));dsimp only at HF;rw[←Mr k hlt]at HF;clear hs hB;go_wp2;go_roundg (40-(k+1));(case measure=>omega);case rel=>exact⟨k+1,rfl,hlt,by simp,HF.out.1,HF.out.2⟩};have hke:k=40:=by{omega};subst hke;have HF:=ae (ak hs hB);rw[Sl]at HF;clear hs hB;go_wp2;go_ret;exact⟨g1,rfl,hge,HF.out.1,HF.out.2⟩
theorem Fy (h:List Int)(k:Nat):(List.range (k+1)).map (Hp.lM h)=(List.range k).map (Hp.lM h)++[Hp.lM h k]:=by rw[List.range_succ,List.map_append];rfl
theorem NA (h:List Int):∀b,Hp.tp h b<=b
 |0=>Nat.le_refl _
 | b+1=>by
   have:=NA h b
   unfold Hp.tp
   split<;>omega
theorem FW (gh:Nat) (p:Hp.P) (w:World) (hs:HG w gh p):Calls Tryz.prog 36 #[.pointer (some ⟨gh,0,none⟩)] w fun e w'=>∃g n c,e= .returned (.slice (some ⟨g,0,none⟩) n c)/\OG w' w.heap.size g n c (Hp.told p.h)/\Below w.heap.size w w':=by
 have HT:Hid (Hp.told p.h=(List.range 40).map (Hp.lM p.h)):=rfl
 have HL:Hid (p.h.length=40):=hs.2.1
 have hlv:(p.h.map iv).length=40:=by rw[List.length_map];exact hs.2.1
 have HV:Hid (∀k,k<40->(p.h.map iv)[k]?=some (.int .i64 (p.h.getD k 0))):=fun k hk=>by rw[List.getElem?_map,ai (by rw[hs.2.1];exact hk),ah,ai (by rw[hs.2.1];exact hk)];rfl
 have hal:=aA w (.cells #[] 2)
 have HC:Hid (∀j v,(p.h.map iv)[j]?=some v->(w.alloc (.cells #[] 2)).cell? ⟨gh,20+j,none⟩=some v):=fun j v hv=>by have hj:j<40:=by{have:=(List.getElem?_eq_some_iff.1 hv).1;omega};rw[HV.out j hj]at hv;cases hv;exact(hs.kept hal).home hj
 have HO:=ae (ak (OG.empty w w.heap.size (Nat.le_refl _)) hal)
 have hgl:=hs.lt
 generalize p.h.map iv=vs at hlv HV HC
 clear hs hal
 go_enter Tryz.func36,Tryz.ntmps36
 go_wp2_with(refine qH 86 _ rfl ?_)
 refine⟨?_⟩
 refine kN rfl _ _ rfl gh 20 rfl vs HC.out 40 2 Tryz.underlying86 (by rw[hlv];exact CB) ?_
 go_wp2
 go_loopg [3,4,12] 40 (fun gk vo vp vi wr=>∃(k g n c:Nat),gk=40-k/\k<=40/\vo= .slice (some ⟨g,0,none⟩) n c/\vp= .int .i64 (100+(Hp.tp p.h k:Int))/\vi= .int .i64 (k:Int)/\OG wr w.heap.size g n c ((List.range k).map (Hp.lM p.h))/\Below w.heap.size w wr)
 case atStart=>exact⟨0,w.heap.size,0,0,rfl,by omega,rfl,rfl,rfl,HO.out.1,HO.out.2⟩
 case round=>
  obtain⟨k,g,n,c,nP,hk,rfl,rfl,rfl,hog,hB⟩:=hrel
  clear HO HC
  by_cases hlt:k<40
  · have bN:(k:Int)<40:=by omega
    have Qy:=ae (HV.out k hlt)
    have ik:=ae (Fy p.h k)
    have HT1:Hid (Hp.lM p.h k=if 100<=p.h.getD k 0 then 100+(Hp.tp p.h k:Int)else p.h.getD k 0):=rfl
    have aZ:Hid (Hp.tp p.h (k+1)=if 100<=p.h.getD k 0 then Hp.tp p.h k+1 else Hp.tp p.h k):=rfl
    have htl:=NA p.h k
    have UN:=hog.lt
    have hcap:=hog.cap
    have hnk:k=n:=by have:=hog.1;rw[List.length_map,List.length_range]at this;omega
    subst hnk
    have bq:=hB.size
    have hic:=fun W=>nK (p.h.getD k 0) W
    generalize p.h.getD k 0=x at Qy HT1 aZ hic
    generalize Hp.lM p.h k=y at ik HT1
    generalize Hp.tp p.h k=q at HT1 aZ htl ⊢
    have hqZ:(q:Int)<=40:=by omega
    by_cases hx:100<=x
    · have HE:Hid (y=100+(q:Int)):=by show _=_;rw[HT1.out,ay hx]
      have HE2:Hid (Hp.tp p.h (k+1)=q+1):=by show _=_;rw[aZ.out,ay hx]
      rw[decide_eq_true hx]at hic
      have hal:=aA wr (.cells #[.int .i64 (100+(q:Int))] 2)
      have HK:=ae (ak (hog.kept hal) (hB.trans (hal.mono bq)))
      have R6:Hid (∀j,j<1->(wr.alloc (.cells #[.int .i64 (100+(q:Int))] 2)).cell? ⟨wr.heap.size,0+j,none⟩=some (.int .i64 ([(100+(q:Int))].getD j 0))):=fun j hj=>by obtain rfl:j=0:=by{omega};simp
      clear hal hog hB HT1 aZ
      go_wp2_with(first
        |(refine kK 86 _ _ rfl ?_)
        |fail)
      refine⟨?_⟩
      refine nJ rfl _ _ _ rfl vs k rfl rfl 40 2 Tryz.underlying86 hlt (fun _=>Tryz.sizeOf2 _) (fun _=>Tryz.isAgg2 _) _ Qy.out ?_
      go_wp2_with(first|(go_at_call 48;refine(hic _).mono ?_;rintro e w' ⟨rfl,bq⟩;subst w';dsimp only)|(at_builtin;refine dB _ rfl _ _ rfl w.heap.size _ _ _ _ rfl HK.out.1 wr.heap.size 0 1 1 [(100+(q:Int))] (by simp[Act.eval]) rfl R6.out (by omega) (by simp;omega) ?_;intro g4 c4 N4 w4 Ob nN gY;have HF:=ae (ak nN (aC HK.out.2 gY UN.1));clear nN gY))
      go_roundg (40-(k+1))
      case measure=>omega
      case rel=>exact⟨k+1,g4,N4,c4,rfl,hlt,rfl,by rw[HE2.out];simp;omega,by simp,by rw[ik.out,HE.out];exact HF.out.1,HF.out.2⟩
    · have HE:Hid (y=x):=by show _=_;rw[HT1.out,ax hx]
      have HE2:Hid (Hp.tp p.h (k+1)=q):=by show _=_;rw[aZ.out,ax hx]
      rw[decide_eq_false hx]at hic
      have hal:=aA wr (.cells #[.int .i64 x] 2)
      have HK:=ae (ak (hog.kept hal) (hB.trans (hal.mono bq)))
      have R6:Hid (∀j,j<1->(wr.alloc (.cells #[.int .i64 x] 2)).cell? ⟨wr.heap.size,0+j,none⟩=some (.int .i64 ([x].getD j 0))):=fun j hj=>by obtain rfl:j=0:=by{omega};simp
      clear hal hog hB HT1 aZ
      go_wp2_with(first
        |(refine kK 86 _ _ rfl ?_)
        |fail)
      refine⟨?_⟩
      refine nJ rfl _ _ _ rfl vs k rfl rfl 40 2 Tryz.underlying86 hlt (fun _=>Tryz.sizeOf2 _) (fun _=>Tryz.isAgg2 _) _ Qy.out ?_
      go_wp2_with(first|(go_at_call 48;refine(hic _).mono ?_;rintro e w' ⟨rfl,bq⟩;subst w';dsimp only)|(at_builtin;refine dB _ rfl _ _ rfl w.heap.size _ _ _ _ rfl HK.out.1 wr.heap.size 0 1 1 [x] (by simp[Act.eval]) rfl R6.out (by omega) (by simp;omega) ?_;intro g4 c4 N4 w4 Ob nN gY;have HF:=ae (ak nN (aC HK.out.2 gY UN.1));clear nN gY))
      go_roundg (40-(k+1))
      case measure=>omega
      case rel=>exact⟨k+1,g4,N4,c4,rfl,hlt,rfl,by rw[HE2.out],by simp,by rw[ik.out,HE.out];exact HF.out.1,HF.out.2⟩
  · have hke:k=40:=by{omega};subst hke;have HF:=ae (ak hog hB);rw[←HT.out]at HF;clear hog hB;go_wp2;go_ret;exact⟨g,n,c,rfl,HF.out.1,HF.out.2⟩
end
section
set_option linter.unusedSimpArgs false
theorem wG {l:List Sp.S}{k:Nat}(h:k<=l.length):(Hp.left (Hp.wait l l.length) k).length=l.length-k:=by rw[Hp.Av _ _ (by rw[uF (Nat.le_refl _)];exact h),uF (Nat.le_refl _)]
theorem nT (a:Option Addr)(len cap:Nat)(ls:List Ln)(w:World)(hs:LL w a len ls):Calls Tryz.prog 8 #[.slice a len cap] w fun e w'=>∃g n c,e= .returned (.slice (some ⟨g,0,none⟩) n c)/\OG w' w.heap.size g n c (Hm.homes ls)/\Below w.heap.size w w':=by
 have hcon:=oQ a len cap ls w hs
 have HS:=ae hs
 have BL:Hid (Ln.isOk ls=false->Hm.homes ls=[]):=fun h=>by unfold Hm.homes;rw[h];rfl
 have nu:=ae (Hp.IW (ls:=ls))
 have E8:Hid (Ln.isOk ls=true->Sp.bB ls=Sp.out ls 40):=fun h=>by unfold Sp.bB;rw[ay h]
 have MN:=ae (fun k=>Hp.KM (ls:=ls) (k:=k))
 have gZ:=ae (Hm.kM ls)
 have hsp:=fun W hW=>uD a len cap ls W hW
 generalize Hm.homes ls=R at BL nu ⊢
 obtain⟨q,hq⟩:∃q,Ln.isOk ls=q:=⟨_,rfl⟩
 rw[hq]at hcon BL nu E8
 clear hs hq
 go_enter Tryz.func8,Tryz.ntmps8
 go_wp2_with fail
 refine hcon.mono ?_
 rintro e w1 ⟨rfl,hB1⟩
 dsimp only
 cases q
 · have HE:Hid (R=[]):=BL.out rfl;have hal:=aA w1 (.cells #[] 2);have HF:=ae (ak (OG.empty w1 w.heap.size hB1.size) (hB1.trans (hal.mono hB1.size)));clear hcon hB1 hal BL nu E8 hsp MN;go_wp2;go_ret;exact⟨_,0,0,rfl,by rw[HE.out];exact HF.out.1,HF.out.2⟩
 have hsp1:=hsp w1 (HS.out.kept hB1)
 rw[E8.out rfl]at hsp1
 have HRE:Hid (R=Hp.told (Hp.aH (Sp.out ls 40) (Sp.out ls 40).length).h):=nu.out rfl
 generalize Sp.out ls 40=l at hsp1 HRE MN gZ
 have HB1:=ae hB1
 clear hcon hB1 BL nu E8 hsp HS
 go_wp2_with fail
 refine hsp1.mono ?_
 rintro e w2 ⟨gs,n,cs,rfl,hsg,hB2⟩
 dsimp only
 have hln:l.length=n:=hsg.1
 have MW:n<=40:=by rw[←hln];exact gZ.out.len
 have KH:=ae hln
 have hwt:=uP _ gs n cs l MW w2 hsg
 have HB2:=ae (HB1.out.trans (hB2.mono HB1.out.size))
 clear hsp1 hB2 hsg hln HB1
 go_wp2_with fail
 refine hwt.mono ?_
 rintro e w3 ⟨gp,g,c,rfl,Hl,hB3⟩
 dsimp only
 have HB3:=ae (HB2.out.trans (hB3.mono HB2.out.size))
 have HW3:=ae (ak Hl hB3.size)
 clear hwt Hl hB3
 go_wp2_with fail
 refine(rM w3).mono ?_
 rintro e w4 ⟨gh,rfl,hgh,QP,hB4⟩
 dsimp only
 have HX:=ae (ak (HW3.out.1.kept hB4) (ak QP (HB3.out.trans (hB4.mono HB3.out.size))))
 have hgp:gp<w3.heap.size:=HW3.out.1.1.lt
 have hg3:g<w3.heap.size:=HW3.out.1.2.1.lt.2
 have aiU:w2.heap.size<=gp:=HW3.out.1.2.2.2
 have aiV:w2.heap.size<=g:=HW3.out.1.2.1.lt.1
 have hw2:w.heap.size<=w2.heap.size:=HB2.out.size
 clear hB4 QP HW3
 go_wp2
 have abF:Hid (Hp.aH l 0=Hp.new):=rfl
 go_loopg [13] n (fun gk vx wr=>∃(k:Nat),gk=n-k/\k<=n/\WH wr w2.heap.size gp g c (Hp.left (Hp.wait l n) k)/\HG wr gh (Hp.aH l k)/\Below w.heap.size w wr)
 case atStart=>exact⟨0,rfl,by omega,HX.out.1,by rw[abF.out];exact HX.out.2.1,HX.out.2.2⟩
 case round=>
  obtain⟨k,nP,hk,Hl,QP,hB⟩:=hrel
  clear HX
  have hll:(Hp.left (Hp.wait l n) k).length=n-k:=by have h:=wG (l:=l) (k:=k) (by rw[KH.out];exact hk);rw[KH.out]at h;exact h
  have hcl:=Hl.cell
  rw[hll]at hcl
  by_cases hlt:k<n
  · obtain⟨m,hm⟩:∃m,n-k=m+1:=⟨n-k-1,by omega⟩
    rw[hm]at hcl hll
    have hmZ:(0:Int)<(m:Int)+1:=by omega
    have hkl:k<l.length:=by rw[KH.out];exact hlt
    obtain⟨⟨hb0,hb1⟩,Zv,hbf⟩:=MN.out k hkl
    have hnx:=FY w2.heap.size gp g c (Hp.left (Hp.wait l n) k) m hll (by omega) wr Hl
    have QQ:=Hp.KY gZ.out hkl
    rw[KH.out]at QQ
    rw[QQ]at hnx
    have HL2:Hid (Hp.left (Hp.wait l n) (k+1)=Hp.rest (Hp.left (Hp.wait l n) k)):=rfl
    have HA2:Hid (Hp.aH l (k+1)=Hp.tK (Hp.aH l k) (l.getD ((Hm.ord l l.length).getD k 0) .z)):=rfl
    rw[KH.out]at HA2 hb0 hb1 Zv hbf
    have hho:=fun W hW=>Dv gh (Hp.aH l k) (l.getD ((Hm.ord l n).getD k 0) .z) hb0 hb1 Zv hbf W hW
    generalize l.getD ((Hm.ord l n).getD k 0) .z=s at hnx hho HA2
    have HWR:=ae (ak QP hB)
    clear Hl QP hB hkl hb0 hb1 Zv hbf QQ hll
    go_wp2_with(first
      |(go_at_call 33;refine(pE _ _ _ _).mono ?_;rintro e w' ⟨rfl,bq⟩;subst w';dsimp only)
      |(go_at_call 35;refine hnx.mono ?_;rintro e w5 ⟨rfl,ZK⟩;have HY:=ae (ak ZK.wh (ak (HWR.out.1.two ZK.two (by omega) (by omega)) (ng.below HWR.out.2 ZK.two HWR.out.2.size (by omega) (by omega))));clear ZK;dsimp only)
      |(go_at_call 34;refine(hho w5 HY.out.2.1).mono ?_;rintro e w6 ⟨rfl,hh6,zX⟩;have HZ:=ae (ak (ak (HY.out.1.1.bT zX (by simp;omega)) (ak (HY.out.1.2.1.bT zX (by omega)) HY.out.1.2.2)) (ak hh6 (aC HY.out.2.2 zX (by omega))));clear hh6 zX;dsimp only))
    go_roundg (n-(k+1))
    case measure=>omega
    case rel=>exact⟨k+1,rfl,hlt,by rw[HL2.out];exact HZ.out.1,by rw[HA2.out];exact HZ.out.2.1,HZ.out.2.2⟩
  · have hke:k=n:=by omega
    subst hke
    rw[Nat.sub_self]at hcl
    have hto:=FW gh (Hp.aH l k) wr QP
    have HF:=ae hB
    rw[KH.out]at HRE
    rw[←HRE.out]at hto
    clear Hl QP hB hll
    go_wp2_with(first
      |(go_at_call 33;refine(pE _ _ _ _).mono ?_;rintro e w' ⟨rfl,bq⟩;subst w';dsimp only)
      |(go_at_call 36;refine hto.mono ?_;rintro e w5 ⟨g5,n5,c5,rfl,nQ,bE⟩;have HZ:=ae (ak (nQ.mono HF.out.size) (HF.out.trans (bE.mono HF.out.size)));clear nQ bE;dsimp only))
    go_ret
    exact⟨g5,n5,c5,rfl,HZ.out.1,HZ.out.2⟩
end
namespace Mm
def NN (x:Int):Bool:=decide (0<=x/\x<=255)
def ok (xs:List Int):Bool:=(xs.length==64)&&xs.all NN
theorem jC {xs:List Int}:ok xs=true↔xs.length=64/\∀x∈xs,0<=x/\x<=255:=by simp[ok,NN]
theorem IB {xs:List Int}(h:ok xs=true):xs.length=64:=(jC.1 h).1
theorem Qb {xs:List Int}(h:∀x∈xs,0<=x/\x<=255)(j:Nat):0<=xs.getD j 0/\xs.getD j 0<=255:=by
 rw[ah]
 cases e:xs[j]? with
 |none=>exact⟨by simp,by simp⟩
 |some v=>exact h v (List.mem_of_getElem? e)
theorem Dk {xs:List Int}(h:ok xs=true)(j:Nat):0<=xs.getD j 0/\xs.getD j 0<=255:=Qb (jC.1 h).2 j
theorem Pe {xs:List Int}(h:∀j,0<=xs.getD j 0/\xs.getD j 0<=255):∀x∈xs,0<=x/\x<=255:=by intro x hx;obtain⟨j,hj⟩:=List.mem_iff_getElem?.1 hx;have:=h j;rwa [ah,hj]at this
def low (xs:List Int):List Int:=xs.map fun x=>x%256
theorem sM (xs:List Int):(low xs).length=xs.length:=by simp[low]
def cells (xs:List Int):List Int:=if ok xs=true then xs else List.replicate 64 0
def there (a o:Int):Bool:=Wd.ok a&&Wd.cK o 0 255&&decide (a+o<=60)
theorem Gx {a o:Int}:there a o=true↔0<=a/\0<=o/\o<=255/\a+o<=60:=by simp only[there,au,Wd.jC,Wd.bJ,decide_eq_true_eq];omega
def za (bs:List Int)(k:Nat):Nat->Int
 |0=>0
 |j+1=>za bs k j+bs.getD (k+j) 0*256 ^ j
theorem yu {bs:List Int}(hb:∀j,0<=bs.getD j 0/\bs.getD j 0<=255)(k:Nat):∀j,0<=za bs k j/\za bs k j<256 ^ j
 |0=>⟨by simp[za],by simp[za]⟩
 | j+1=>by
   have h:=yu hb k j
   have h2:=hb (k+j)
   have hp:(0:Int)<256 ^ j:=Int.pow_pos (by omega)
   rw[za,Int.pow_succ]
   have h3:bs.getD (k+j) 0*256 ^ j<=255*256 ^ j:=Int.mul_le_mul_of_nonneg_right h2.2 (by omega)
   have h4:0<=bs.getD (k+j) 0*256 ^ j:=Int.mul_nonneg h2.1 (by omega)
   omega
def rY (bs:List Int)(k:Nat)(v:Int):Nat->List Int
 |0=>bs
 |j+1=>(rY bs k v j).set (k+j) (v / 256 ^ j%256)
theorem uO (bs:List Int)(k:Nat)(v:Int):∀j,(rY bs k v j).length=bs.length
 |0=>rfl
 |j+1=>by rw[rY,List.length_set,uO bs k v j]
theorem bS {ys:List Int}{i j:Nat}{x:Int}(hi:i<ys.length):(ys.set i x).getD j 0=if j=i then x else ys.getD j 0:=by by_cases e:j=i;{subst e;rw[ay rfl,ah,List.getElem?_set_self hi];rfl};rw[ax e,ah,List.getElem?_set_ne (by omega),←ah]
theorem Ao {bs:List Int}{k:Nat}(v:Int):∀j,k+j<=bs.length->∀i,(rY bs k v j).getD i 0=if k<=i/\i<k+j then v / 256 ^ (i-k)%256 else bs.getD i 0
 |0,_,i=>by rw[rY,ax (by omega)]
 | j +1,h,i=>by
   rw[rY,bS (by rw[uO];omega),Ao v j (by omega) i]
   by_cases e:i=k+j
   · subst e
     rw[ay rfl,ay (by omega),show k+j-k=j by omega]
   · rw[ax e]
     by_cases e2:k<=i/\i<k+j
     · rw[ay e2,ay (by omega)]
     · rw[ax e2,ax (by omega)]
theorem KQ {bs:List Int}{k:Nat}(v:Int)(j:Nat)(h:k+j<=bs.length)(hb:∀i,0<=bs.getD i 0/\bs.getD i 0<=255)(i:Nat):0<=(rY bs k v j).getD i 0/\(rY bs k v j).getD i 0<=255:=by rw[Ao v j h i];split;{exact⟨Int.emod_nonneg _ (by omega),by have:=Int.emod_lt_of_pos (v / 256 ^ (i-k)) (show(0:Int)<256 by omega);omega⟩};exact hb i
theorem Jf {bs:List Int}{k:Nat}(v:Int)(h:ok bs=true)(hk:k+4<=64):ok (rY bs k v 4)=true:=by rw[jC];exact⟨by rw[uO];exact IB h,Pe (KQ v 4 (by rw[IB h];omega) (Dk h))⟩
def can (xs:List Int)(a o:Int):Bool:=ok xs&&there a o
def load (xs:List Int)(a o:Int):Int:=if can xs a o=true then za xs (a+o).toNat 4 else 0
def ek (xs:List Int)(a o v:Int):Bool:=ok xs&&there a o&&Wd.ok v
theorem place {a o:Int}(h:there a o=true):∃k:Nat,a+o=(k:Int)/\(a+o).toNat=k/\k+4<=64:=by have:=Gx.1 h;exact⟨(a+o).toNat,by omega,rfl,by omega⟩
def aaJ (s:ByteArray):List Int:=s.data.toList.map fun b=>(b.toNat:Int)
def new (s:ByteArray):List Int:=if s.size<=64 then aaJ s++List.replicate (64-s.size) 0 else[]
end Mm
def OT (W:World)(n₀:Nat)(v:Value)(xs:List Int):Prop:=∃t,W.ownsRow n₀ t 1 v xs.length (xs.map iv)
theorem OI.ot {W:World}{n₀:Nat}{v:Value}{xs:List Int}(h:OI W n₀ v xs):OT W n₀ v xs:=⟨_,h⟩
theorem OT.slice {W:World}{n₀:Nat}{v:Value}{xs:List Int}(h:OT W n₀ v xs):∃a cap,v= .slice a xs.length cap/\IL W a xs.length xs:=by obtain⟨t,h⟩:=h;rcases h.2 with⟨rfl,h0⟩|⟨g,cap,cur,rfl,hb,hc,hn,hm,hs,ht⟩;{exact⟨none,0,by rw[h0],rfl,by rw[h0];exact Nat.zero_le _, .inl h0⟩};refine⟨_,cap,rfl,rfl,Nat.le_trans hn hm, .inr ⟨g,0,rfl,(h.lt g rfl).2,fun j hj=>?_⟩⟩;have:=h.cellAt j (by omega);rw[Nat.zero_add,this,List.getElem?_map,ai hj,ah,ai hj];rfl
theorem OT.il {W:World}{n₀:Nat}{a:Option Addr}{n c:Nat}{xs:List Int}(h:OT W n₀ (.slice a n c) xs):n=xs.length/\IL W a n xs:=by obtain⟨a',c',e,hil⟩:=h.slice;simp only[Value.slice.injEq]at e;obtain⟨rfl,rfl,rfl⟩:=e;exact⟨rfl,hil⟩
theorem OT.kept {W W':World}{n₀:Nat}{v:Value}{xs:List Int}(h:OT W n₀ v xs)(hB:Below W.heap.size W W'):OT W' n₀ v xs:=by obtain⟨t,h⟩:=h;refine⟨t,World.ownsRow.kept (row:=none) h ⟨hB.os,hB.tape,hB.output,hB.size,fun k hk _=>hB.block k hk⟩ ?_⟩;rcases hv:v.ownBlock with _|b;{exact .inl rfl};exact .inr (by simp)
theorem OT.bT {W W':World}{n₀ b:Nat}{v:Value}{xs:List Int}(h:OT W n₀ v xs)(hg:W.grownBy W' (some b))(hne:∀g,v.ownBlock=some g->g≠b):OT W' n₀ v xs:=by obtain⟨t,h⟩:=h;refine⟨t,World.ownsRow.kept h hg ?_⟩;rcases hv:v.ownBlock with _|b';{exact .inl rfl};refine .inr ?_;have:=hne b' hv;simp only[ne_eq,af];omega
theorem OT.mono {W:World}{n₀ n₁:Nat}{v:Value}{xs:List Int}(h:OT W n₁ v xs)(hn:n₀<=n₁):OT W n₀ v xs:=by obtain⟨t,h⟩:=h;refine⟨t,h.1,?_⟩;rcases h.2 with h'|⟨g',cap',cur,h',hb,r⟩;{exact .inl h'};exact .inr ⟨g',cap',cur,h',Nat.le_trans hn hb,r⟩
theorem OT.lt {W:World}{n₀:Nat}{v:Value}{xs:List Int}(h:OT W n₀ v xs)(g:Nat)(hg:v.ownBlock=some g):n₀<=g/\g<W.heap.size:=by obtain⟨t,h⟩:=h;exact World.ownsRow.lt h g hg
theorem gP.ot {W:World}{n₀ g:Nat}{t:TypeId}{xs:List Int}(h:gP W g t (xs.map iv))(hg:n₀<=g)(hm:xs.length<=maxLen):OT W n₀ (.slice (some ⟨g,0,none⟩) xs.length xs.length) xs:=
 ⟨t,by simp, .inr ⟨g,xs.length,(xs.map iv).toArray,rfl,hg,h,Nat.le_refl _,hm,by simp,by rw[Nat.mul_one];exact List.take_of_length_le (by simp)⟩⟩
theorem Ad (a:Option Addr)(len cap:Nat)(xs:List Int)(h20:len<=1048576)(w:World)(hs:IL w a len xs):Calls Tryz.prog 82 #[.slice a len cap] w fun e w'=>∃g c,e= .returned (.slice (some ⟨g,0,none⟩) len c)/\w.heap.size<=g/\OI w' w.heap.size (.slice (some ⟨g,0,none⟩) len c) xs/\Below w.heap.size w w':=by obtain⟨hl,hm,hrow⟩:=hs;have HL:=ae hl;clear hm hl;obtain⟨i0,hi,hz0,hz1,hz2⟩:=info_parts cz;obtain⟨wm,hmk,hown,hgrow⟩:=run_make_full (P:=Tryz.prog) w w.heap.size 26 2 i0 _ 1 Tryz.underlying26 hi hz0 hz1 .i64 .i64 len (by rw[hz2];omega) (by simp only[maxLen];omega) (Nat.le_refl _);have hBm:Below w.heap.size w wm:=⟨hgrow.os,hgrow.tape,hgrow.output,hgrow.size,fun k hk=>hgrow.block k hk (by simp)⟩;have hown0:wm.ownsRow w.heap.size 2 1 (.slice (some ⟨w.heap.size,0,none⟩) len len) len ((List.replicate len 0).map iv):=by{have e:(madeCells (Value.int .i64 0).cells (len*1)).toList=List.replicate (len*1) (iv 0):=toList_madeCells_one _ _;rw[List.map_replicate];rw[e,Nat.mul_one]at hown;exact hown};clear hown hgrow;go_enter Tryz.func82,Tryz.ntmps82;go_wp2;go_loopw [4] (fun i wr=>∃(k:Nat)(ys:List Int),i= .int .i64 k/\k<=len/\ys.length=len/\(∀j,j<k->ys.getD j 0=xs.getD j 0)/\wr.ownsRow w.heap.size 2 1 (.slice (some ⟨w.heap.size,0,none⟩) len len) len (ys.map iv)/\Below w.heap.size w wr) (fun i _=>len-(intOf i).toNat);(case atStart=>exact⟨0,List.replicate len 0,rfl,Nat.zero_le _,by simp,by simp,hown0,hBm⟩);case round=>obtain⟨k,ys,rfl,hk,hyl,hys,hown,hB⟩:=hrel;have HY:=ae (ak hyl hys);clear hown0;by_cases hlt:k<len;{rcases hrow with h0|⟨b,off,rfl,hb,hx⟩;{omega};have hx0:=(hB.cell (p:=⟨b,off+k,none⟩) hb).trans (hx k hlt);obtain⟨p,hp⟩:∃p,xs.getD k 0=p:=⟨_,rfl⟩;rw[hp]at hx0;have HP:=ae hp;have hc0:=hown.cellAt k (by omega);rw[oV (by omega)]at hc0;obtain⟨q,hq⟩:∃q,ys.getD k 0=q:=⟨_,rfl⟩;rw[hq]at hc0;have hf0:=hown.frozenAt k;have iC:=hown.stored k (.int .i64 p);rw[←dJ ys k]at iC;have HST:=ae iC.1;have HB:=ae (hB.setCell (p:=⟨w.heap.size,k,none⟩) (Nat.le_refl _) (.int .i64 p));clear hyl hys hp hq iC hown hx hB;unfold iv at hc0;go_wp2;go_roundw;(case rel=>obtain⟨y1,y2⟩:=IP (f:=fun j=>xs.getD j 0) HY.out hlt HP.out;exact⟨k+1,ys.set k p,by simp,by omega,y1,y2,HST.out,HB.out⟩);case measure=>simp[intOf];omega};have hke:k=len:=by{omega};subst hke;have e:ys=xs:=Jd HY.out HL.out;subst e;have HO:=ae (ak hown hB);clear hyl hys hown hB hrow HY;go_wp2;go_ret;refine⟨_,_,rfl,Nat.le_refl _,?_,HO.out.2⟩;unfold OI;rw[HL.out];exact HO.out.1
theorem oU (a:Option Addr)(len cap:Nat)(hm:len<=maxLen)(left:Int)(h0:0<=left)(h1:left<=1048576)(w:World):Calls Tryz.prog 81 #[.slice a len cap, .int .i64 left] w fun e w'=>e= .returned (.int .i64 (if left<(len:Int)then -1 else left-len))/\w'=w:=by unfold maxLen at hm;by_cases hlt:left<(len:Int);{rw[ay hlt];have hnn:left-(len:Int)<0:=by{omega};go_enter Tryz.func81,Tryz.ntmps81;go_wp2;go_ret;exact⟨rfl,rfl⟩};rw[ax hlt];have hnn:¬left-(len:Int)<0:=by{omega};go_enter Tryz.func81,Tryz.ntmps81;go_wp2;go_ret;exact⟨rfl,rfl⟩
theorem OI.Aa {W:World}{n₀:Nat}{v:Value}{xs:List Int}(h:OI W n₀ v xs)(p:Addr)(hp:p.block<n₀)(x:Value):OI (W.setCell p x) n₀ v xs:=
 h.bT (aB W p x) (fun g hg=>by have:=(World.ownsRow.lt h g hg).1;omega)
theorem Gb (k d a b n:Int)(la:Option Addr)(ln lc:Nat)(left:Int)(hm:ln<=maxLen)(h0:0<=left)(h1:left<=1048576)(w:World):Calls Tryz.prog 51 #[.agg #[.int .i64 k, .int .i64 d, .int .i64 a, .int .i64 b, .int .i64 n, .slice la ln lc], .int .i64 left] w fun e w'=>e= .returned (.int .i64 (if left<(ln:Int)then -1 else left-ln))/\Below w.heap.size w w':=by have hB1:=aA w (.cells #[.int .i64 k, .int .i64 d, .int .i64 a, .int .i64 b, .int .i64 n, .slice la ln lc] 70);by_cases hlt:left<(ln:Int);{rw[ay hlt];go_enter Tryz.func51,Tryz.ntmps51;go_wp2_with fail;refine(oU la ln lc hm left h0 h1 _).mono ?_;rintro e w1 ⟨rfl,bq⟩;subst w1;rw[ay hlt];go_wp2;go_ret;exact⟨rfl,hB1⟩};rw[ax hlt];have hnn:¬(left-(ln:Int)<0):=by{omega};go_enter Tryz.func51,Tryz.ntmps51;go_wp2_with fail;refine(oU la ln lc hm left h0 h1 _).mono ?_;rintro e w1 ⟨rfl,bq⟩;subst w1;rw[ax (by omega)];go_wp2;go_ret;exact⟨rfl,hB1⟩
theorem wX (k d a b n:Int)(xs:List Int)(la:Option Addr)(ln lc:Nat)(h20:ln<=1048576)(w:World)(hs:IL w la ln xs):Calls Tryz.prog 52 #[.agg #[.int .i64 k, .int .i64 d, .int .i64 a, .int .i64 b, .int .i64 n, .slice la ln lc]] w fun e w'=>∃g c,e= .returned (.agg #[.int .i64 k, .int .i64 d, .int .i64 a, .int .i64 b, .int .i64 n, .slice (some ⟨g,0,none⟩) ln c])/\OI w' w.heap.size (.slice (some ⟨g,0,none⟩) ln c) xs/\Below w.heap.size w w':=by have hB3:=zF w (.cells #[.int .i64 k, .int .i64 d, .int .i64 a, .int .i64 b, .int .i64 n, .slice la ln lc] 70) (.cells #[.int .i64 0, .int .i64 0, .int .i64 0, .int .i64 0, .int .i64 0, .slice none 0 0] 67) (.cells #[.int .i64 k, .int .i64 d, .int .i64 a, .int .i64 b, .int .i64 n, .slice none 0 0] 67);have b1:gP (((w.alloc (.cells #[.int .i64 k, .int .i64 d, .int .i64 a, .int .i64 b, .int .i64 n, .slice la ln lc] 70)).alloc (.cells #[.int .i64 0, .int .i64 0, .int .i64 0, .int .i64 0, .int .i64 0, .slice none 0 0] 67)).alloc (.cells #[.int .i64 k, .int .i64 d, .int .i64 a, .int .i64 b, .int .i64 n, .slice none 0 0] 67)) (w.heap.size+1) 67 [.int .i64 0, .int .i64 0, .int .i64 0, .int .i64 0, .int .i64 0, .slice none 0 0]:=by{have h:gP ((w.alloc (.cells #[.int .i64 k, .int .i64 d, .int .i64 a, .int .i64 b, .int .i64 n, .slice la ln lc] 70)).alloc (.cells #[.int .i64 0, .int .i64 0, .int .i64 0, .int .i64 0, .int .i64 0, .slice none 0 0] 67)) (w.alloc (.cells #[.int .i64 k, .int .i64 d, .int .i64 a, .int .i64 b, .int .i64 n, .slice la ln lc] 70)).heap.size 67 [.int .i64 0, .int .i64 0, .int .i64 0, .int .i64 0, .int .i64 0, .slice none 0 0]:=heap_alloc_last _ _;simp only[World.size_alloc]at h;exact h.kept (aA _ _)};have b2:gP (((w.alloc (.cells #[.int .i64 k, .int .i64 d, .int .i64 a, .int .i64 b, .int .i64 n, .slice la ln lc] 70)).alloc (.cells #[.int .i64 0, .int .i64 0, .int .i64 0, .int .i64 0, .int .i64 0, .slice none 0 0] 67)).alloc (.cells #[.int .i64 k, .int .i64 d, .int .i64 a, .int .i64 b, .int .i64 n, .slice none 0 0] 67)) (w.heap.size+1+1) 67 [.int .i64 k, .int .i64 d, .int .i64 a, .int .i64 b, .int .i64 n, .slice none 0 0]:=by{have h:gP (((w.alloc (.cells #[.int .i64 k, .int .i64 d, .int .i64 a, .int .i64 b, .int .i64 n, .slice la ln lc] 70)).alloc (.cells #[.int .i64 0, .int .i64 0, .int .i64 0, .int .i64 0, .int .i64 0, .slice none 0 0] 67)).alloc (.cells #[.int .i64 k, .int .i64 d, .int .i64 a, .int .i64 b, .int .i64 n, .slice none 0 0] 67)) ((w.alloc (.cells #[.int .i64 k, .int .i64 d, .int .i64 a, .int .i64 b, .int .i64 n, .slice la ln lc] 70)).alloc (.cells #[.int .i64 0, .int .i64 0, .int .i64 0, .int .i64 0, .int .i64 0, .slice none 0 0] 67)).heap.size 67 [.int .i64 k, .int .i64 d, .int .i64 a, .int .i64 b, .int .i64 n, .slice none 0 0]:=heap_alloc_last _ _;simp only[World.size_alloc]at h;exact h};have hcon:=Ad la ln lc xs h20 _ (hs.kept hB3);go_enter Tryz.func52,Tryz.ntmps52;go_wp2_with fail;refine hcon.mono ?_;rintro e w4 ⟨g,c,rfl,hg,hoi,hB4⟩;have b3:=b1.kept hB4;have b4:=b2.kept hB4;have bE:=hB3.trans (hB4.mono hB3.size);simp only[World.size_alloc]at hoi hg;clear b1 b2 hcon hB3 hB4 hs;dsimp only;have p0:=b3.cell (j:=0) rfl;have q0:=b4.cell (j:=0) rfl;have r0:=b3.frozen 0;have s0:=b4.frozen 0;have p1:=b3.cell (j:=1) rfl;have q1:=b4.cell (j:=1) rfl;have r1:=b3.frozen 1;have s1:=b4.frozen 1;have p2:=b3.cell (j:=2) rfl;have q2:=b4.cell (j:=2) rfl;have r2:=b3.frozen 2;have s2:=b4.frozen 2;have p3:=b3.cell (j:=3) rfl;have q3:=b4.cell (j:=3) rfl;have r3:=b3.frozen 3;have s3:=b4.frozen 3;have p4:=b3.cell (j:=4) rfl;have q4:=b4.cell (j:=4) rfl;have r4:=b3.frozen 4;have s4:=b4.frozen 4;have p5:=b3.cell (j:=5) rfl;have q5:=b4.cell (j:=5) rfl;have r5:=b3.frozen 5;have s5:=b4.frozen 5;have l3:=b3.lt;have l4:=b4.lt;go_wp2;(try simp only[Exit.inBlock,Exit.then]);refine bodyPost_ret (v:= .agg #[.int .i64 k, .int .i64 d, .int .i64 a, .int .i64 b, .int .i64 n, .slice (some ⟨g,0,none⟩) ln c]) ?_ rfl ⟨g,c,rfl,OI.mono ((((((((hoi).Aa ⟨w.heap.size+1+1,5,none⟩ (by simp) _).Aa ⟨w.heap.size+1,0,none⟩ (by simp) _).Aa ⟨w.heap.size+1,1,none⟩ (by simp) _).Aa ⟨w.heap.size+1,2,none⟩ (by simp) _).Aa ⟨w.heap.size+1,3,none⟩ (by simp) _).Aa ⟨w.heap.size+1,4,none⟩ (by simp) _).Aa ⟨w.heap.size+1,5,none⟩ (by simp) _) (by omega),(((((((bE).setCell (p:=⟨w.heap.size+1+1,5,none⟩) (by simp<;>omega) _).setCell (p:=⟨w.heap.size+1,0,none⟩) (by simp<;>omega) _).setCell (p:=⟨w.heap.size+1,1,none⟩) (by simp<;>omega) _).setCell (p:=⟨w.heap.size+1,2,none⟩) (by simp<;>omega) _).setCell (p:=⟨w.heap.size+1,3,none⟩) (by simp<;>omega) _).setCell (p:=⟨w.heap.size+1,4,none⟩) (by simp<;>omega) _).setCell (p:=⟨w.heap.size+1,5,none⟩) (by simp<;>omega) _⟩;rw[aD rfl];go_simp
theorem Bb (k d a b n:Int)(xs:List Int)(la la':Option Addr)(ln lc QK:Nat)(w:World)(hs:IL w la ln xs)(hs':IL w la' ln xs):Calls Tryz.prog 53 #[.agg #[.int .i64 k, .int .i64 d, .int .i64 a, .int .i64 b, .int .i64 n, .slice la ln lc], .agg #[.int .i64 k, .int .i64 d, .int .i64 a, .int .i64 b, .int .i64 n, .slice la' ln QK]] w fun e w'=>e= .returned (.bool true)/\Below w.heap.size w w':=by have hB2:=wW w (.cells #[.int .i64 k, .int .i64 d, .int .i64 a, .int .i64 b, .int .i64 n, .slice la ln lc] 67) (.cells #[.int .i64 k, .int .i64 d, .int .i64 a, .int .i64 b, .int .i64 n, .slice la' ln QK] 67);have hcon:=gI la la' ln lc QK xs _ (hs.kept hB2) (hs'.kept hB2);go_enter Tryz.func53,Tryz.ntmps53;go_wp2_with fail;refine hcon.mono ?_;rintro e w1 ⟨rfl,hB3⟩;have hB4:=hB2.trans (hB3.mono hB2.size);go_wp2;go_ret;exact⟨rfl,hB4⟩
abbrev Lv:=Int×Int×Int×Int×Int×Value
def dQ:Lv:=(0,0,0,0,0, .slice none 0 0)
def bV (xs:List Lv):List Value:=xs.flatMap fun x=>[.int .i64 x.1, .int .i64 x.2.1, .int .i64 x.2.2.1, .int .i64 x.2.2.2.1, .int .i64 x.2.2.2.2.1,x.2.2.2.2.2]
theorem gD (x:Lv)(xs:List Lv):bV (x::xs)= .int .i64 x.1:: .int .i64 x.2.1:: .int .i64 x.2.2.1:: .int .i64 x.2.2.2.1:: .int .i64 x.2.2.2.2.1::x.2.2.2.2.2::bV xs:=rfl
theorem kF (xs:List Lv):(bV xs).length=xs.length*6:=by
 induction xs with
 |nil=>rfl
 |cons x xs ih=>rw[gD];simp only[List.length_cons,ih];omega
theorem eQ:∀(xs:List Lv)(j:Nat),j<xs.length->(bV xs)[j*6]?=some (.int .i64 (xs.getD j dQ).1)/\(bV xs)[j*6+1]?=some (.int .i64 (xs.getD j dQ).2.1)/\(bV xs)[j*6+2]?=some (.int .i64 (xs.getD j dQ).2.2.1)/\(bV xs)[j*6+3]?=some (.int .i64 (xs.getD j dQ).2.2.2.1)/\(bV xs)[j*6+4]?=some (.int .i64 (xs.getD j dQ).2.2.2.2.1)/\(bV xs)[j*6+5]?=some (xs.getD j dQ).2.2.2.2.2
 |[],j,h=>by simp at h
 |x::xs,0,h=>⟨rfl,rfl,rfl,rfl,rfl,rfl⟩
 | x::xs,j+1,h=>by
   have ih:=eQ xs j (by simpa using h)
   have e:(x::xs).getD (j+1) dQ=xs.getD j dQ:=rfl
   rw[e,gD]
   refine⟨?_,?_,?_,?_,?_,?_⟩
   · rw[show(j+1)*6=j*6+1+1+1+1+1+1 by omega];simp only[List.getElem?_cons_succ];exact ih.1
   · rw[show(j+1)*6+1=j*6+1+1+1+1+1+1+1 by omega];simp only[List.getElem?_cons_succ];exact ih.2.1
   · rw[show(j+1)*6+2=j*6+2+1+1+1+1+1+1 by omega];simp only[List.getElem?_cons_succ];exact ih.2.2.1
   · rw[show(j+1)*6+3=j*6+3+1+1+1+1+1+1 by omega];simp only[List.getElem?_cons_succ];exact ih.2.2.2.1
   · rw[show(j+1)*6+4=j*6+4+1+1+1+1+1+1 by omega];simp only[List.getElem?_cons_succ];exact ih.2.2.2.2.1
   · rw[show(j+1)*6+5=j*6+5+1+1+1+1+1+1 by omega];simp only[List.getElem?_cons_succ];exact ih.2.2.2.2.2
theorem jN:∀(xs:List Lv)(k:Nat)(x:Lv),bV (xs.set k x)=((((((bV xs).set (k*6) (.int .i64 x.1)).set (k*6+1) (.int .i64 x.2.1)).set (k*6+2) (.int .i64 x.2.2.1)).set (k*6+3) (.int .i64 x.2.2.2.1)).set (k*6+4) (.int .i64 x.2.2.2.2.1)).set (k*6+5) x.2.2.2.2.2
 |[],k,x=>rfl
 |y::xs,0,x=>rfl
 | y::xs,k+1,x=>by
   rw[List.set_cons_succ,gD,jN xs k x,gD]
   rw[show(k+1)*6=k*6+1+1+1+1+1+1 by omega]
   simp only[List.set_cons_succ]
theorem ug (n:Nat):(madeCells #[.int .i64 0, .int .i64 0, .int .i64 0, .int .i64 0, .int .i64 0, .slice none 0 0] (n*6)).toList=bV (List.replicate n dQ):=by apply List.ext_getElem?;intro i;by_cases hi:i<n*6;{have hj:i / 6<n:=by{omega};have hg:=eQ (List.replicate n dQ) (i / 6) (by simpa using hj);have e0:(List.replicate n dQ).getD (i / 6) dQ=dQ:=by{simp[ah,hj]};rw[e0]at hg;have hL:(madeCells #[.int .i64 0, .int .i64 0, .int .i64 0, .int .i64 0, .int .i64 0, .slice none 0 0] (n*6)).toList[i]?=some ((#[.int .i64 0, .int .i64 0, .int .i64 0, .int .i64 0, .int .i64 0, .slice none 0 0]:Array Value)[i%6]?.getD default):=by{simp[madeCells,hi]};rw[hL];have h4:i%6=0\/i%6=1\/i%6=2\/i%6=3\/i%6=4\/i%6=5:=by{omega};rcases h4 with e|e|e|e|e|e;{rw[e,show i=i / 6*6 by omega,hg.1];rfl};{rw[e,show i=i / 6*6+1 by omega,hg.2.1];rfl};{rw[e,show i=i / 6*6+2 by omega,hg.2.2.1];rfl};{rw[e,show i=i / 6*6+3 by omega,hg.2.2.2.1];rfl};{rw[e,show i=i / 6*6+4 by omega,hg.2.2.2.2.1];rfl};rw[e,show i=i / 6*6+5 by omega,hg.2.2.2.2.2];rfl};rw[List.getElem?_eq_none (by simp[madeCells];omega),List.getElem?_eq_none (by rw[kF];simp;omega)]
def gy (W:World)(n₀ k:Nat)(vs:List Lv)(fs:List Ln):Prop:=
 ∀j,j<k->(vs.getD j dQ).1=(fs.getD j .z).k/\(vs.getD j dQ).2.1=(fs.getD j .z).d/\(vs.getD j dQ).2.2.1=(fs.getD j .z).a/\(vs.getD j dQ).2.2.2.1=(fs.getD j .z).b/\(vs.getD j dQ).2.2.2.2.1=(fs.getD j .z).n/\OI W n₀ (vs.getD j dQ).2.2.2.2.2 (fs.getD j .z).l
theorem gy.kept {W W':World}{n₀ k:Nat}{vs:List Lv}{fs:List Ln}(h:gy W n₀ k vs fs)(hB:Below W.heap.size W W'):gy W' n₀ k vs fs:=fun j hj=>by
 obtain⟨h0,h1,h2,h3,h4,h5⟩:=h j hj
 exact⟨h0,h1,h2,h3,h4,h5.kept hB⟩
theorem gy.other {W W':World}{n₀ k b:Nat}{vs:List Lv}{fs:List Ln}(h:gy W n₀ k vs fs)(hg:W.grownBy W' (some b))(hne:b<n₀):gy W' n₀ k vs fs:=fun j hj=>by
 obtain⟨h0,h1,h2,h3,h4,h5⟩:=h j hj
 exact⟨h0,h1,h2,h3,h4,h5.bT hg (fun g hgg=>by have:=(World.ownsRow.lt h5 g hgg).1;omega)⟩
theorem gy.mono {W:World}{n₀ n₁ k:Nat}{vs:List Lv}{fs:List Ln}(h:gy W n₁ k vs fs)(hn:n₀<=n₁):gy W n₀ k vs fs:=fun j hj=>by
 obtain⟨h0,h1,h2,h3,h4,h5⟩:=h j hj
 exact⟨h0,h1,h2,h3,h4,h5.mono hn⟩
theorem xB {W:World}{n₀ n₁ g n cap:Nat}{vs:List Lv}{fs:List Ln}(h:W.ownsRow n₀ 67 6 (.slice (some ⟨g,0,none⟩) n cap) n (bV vs))(hn:fs.length=n)(ht:gy W n₁ n vs fs):LL W (some ⟨g,0,none⟩) n fs:=by have hv:n=vs.length:=by{have:=h.1;rw[kF]at this;omega};have hlt:=World.ownsRow.lt h g rfl;have hmx:n<=maxLen:=by{rcases h.2 with⟨h',_⟩|⟨g',cap',cur,h',_,_,hc,hm,_⟩;{cases h'};cases h';exact Nat.le_trans hc hm};refine⟨hn,hmx, .inr ⟨g,0,rfl,hlt.2,fun j hj=>?_⟩⟩;obtain⟨g0,g1,g2,g3,g4,g5⟩:=eQ vs j (by omega);obtain⟨t0,t1,t2,t3,t4,t5⟩:=ht j hj;rw[Nat.zero_add];refine⟨(World.ownsRow.cellAt h (j*6) (by omega)).trans (by rw[g0,t0]),(World.ownsRow.cellAt h (j*6+1) (by omega)).trans (by rw[g1,t1]),(World.ownsRow.cellAt h (j*6+2) (by omega)).trans (by rw[g2,t2]),(World.ownsRow.cellAt h (j*6+3) (by omega)).trans (by rw[g3,t3]),(World.ownsRow.cellAt h (j*6+4) (by omega)).trans (by rw[g4,t4]),?_⟩;obtain⟨sa,sc,e,hs⟩:=t5.slice;exact⟨sa,_,sc,(World.ownsRow.cellAt h (j*6+5) (by omega)).trans (by rw[g5,e]),hs⟩
def nE (W:World)(n₀:Nat)(v:Value)(fs:List Ln):Prop:=
 ∃g cap vs,v= .slice (some ⟨g,0,none⟩) fs.length cap/\W.ownsRow n₀ 67 6 (.slice (some ⟨g,0,none⟩) fs.length cap) fs.length (bV vs)/\gy W n₀ fs.length vs fs
theorem nE.LL {W:World}{n₀:Nat}{v:Value}{fs:List Ln}(h:nE W n₀ v fs):∃g cap,v= .slice (some ⟨g,0,none⟩) fs.length cap/\n₀<=g/\g<W.heap.size/\Go.Proofs.YtpipjiinmhopmaaGreat.LL W (some ⟨g,0,none⟩) fs.length fs:=by obtain⟨g,cap,vs,rfl,hrow,ht⟩:=h;exact⟨g,cap,rfl,(World.ownsRow.lt hrow g rfl).1,(World.ownsRow.lt hrow g rfl).2,xB hrow rfl ht⟩
theorem mP:(Tryz.prog.info? 67).map (fun i=>(i.zero,i.size,i.bytes))=some (some (.agg #[.int .i64 0, .int .i64 0, .int .i64 0, .int .i64 0, .int .i64 0, .slice none 0 0]),6,64):=by kernel_rfl
section
open Go.ChangeShapes Go.WideShapes Go.ChangeAt Go.RowKit Go.Shelf Go.Deep
theorem SN {H:Type}{jF:TypeId×Value->H}{W:World}{a:Option Addr}{len cap:Nat}{d:DataW H}{ps:List MemPlace}(h:DataW.Trod jF Tryz.prog W 0 (fun _=>true) true 26 (.slice a len cap) d ps):∃xs,IL W a len xs:=by obtain⟨bi,hf⟩:=h;rcases open_ints Tryz.underlying26 Tryz.underlying2 (by kernel_rfl) hf with⟨hcs,_⟩|⟨x,l,c,zs,hcs,_,hl,hm,hzl,_,hcell,_⟩;{simp[Value.cells]at hcs;obtain⟨rfl,rfl,rfl⟩:=hcs;exact⟨[],rfl,Nat.zero_le _, .inl rfl⟩};simp[Value.cells]at hcs;obtain⟨rfl,rfl,rfl⟩:=hcs;simp only[if_true]at hzl;by_cases h0:len=0;{subst h0;exact⟨[],rfl,Nat.zero_le _, .inl rfl⟩};have hspot:x.spot=none:=by{have:=World.cell?_spot (hcell 0 (by omega));obtain⟨b,off,spot⟩:=x;simpa[Addr.add]using this};obtain⟨b,off,spot⟩:=x;simp only at hspot;subst hspot;(have hadd:∀i,(⟨b,off,none⟩:Addr).add i=⟨b,off+i,none⟩:=fun i=>by unfold Addr.add;split<;>simp_all);have hb:b<W.heap.size:=by{have:=World.block_lt_of_cell? _ _ (hcell 0 (by omega));simpa[hadd]using this};refine⟨zs.take len,by rw[List.length_take];omega,Nat.le_trans hl hm, .inr ⟨b,off,rfl,hb,fun j hj=>?_⟩⟩;have:=hcell j (by omega);rw[hadd]at this;rw[this,ah,ah,List.getElem?_take_of_lt hj]
end
end Go.Proofs.YtpipjiinmhopmaaGreat
