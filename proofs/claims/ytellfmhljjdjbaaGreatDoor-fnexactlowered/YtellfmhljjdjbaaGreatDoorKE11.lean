/-
  Own texts for a law: LowR Mod2w Mem4 Leb4 LebR Mod8 Step7k ModO
-/
import Derived.Test.YtellfmhljjdjbaaGreatDoorKE07
import Derived.Lib.SmallJoins
import Derived.ChangeOld
namespace Go.Proofs.YtellfmhljjdjbaaGreatDoor
open Go.RowKit Go.Shelf
set_option linter.all false
set_option maxRecDepth 100000
set_option maxHeartbeats 16000000
namespace aC
theorem zx {xs:List (Int×Int)}(h:isOk xs=true)(j:Nat):-1<=aO (aH xs) j:=by
 have h2:(all xs).2.2=true:=by rw[isOk,ax]at h;exact h.2
 obtain⟨⟨m,hm,h12,hi⟩,-⟩:=Inv.goes (xs:=xs) (Ef:=(all xs).1) (Of:=(all xs).2.1) (xs.length+1) 0 _ _ _ (Inv.first xs) (by
  show all xs=_
  rw[←h2])
 rw[aH,az h]
 exact(hi.low j).2.2
end aC
namespace Hg
theorem xk {f:Fn}{p a h mo h' dG:Int}{x:bq}{S S':List bq}(ha:p=8\/p=9\/p=10->0<=a)(hh:-1<=h)(sb:∀y∈x::S,-1<=y.st/\0<=y.wd)(h1:dB f p a h mo x S=some (h',dG,S')):-1<=h'/\∀y∈S',-1<=y.st/\0<=y.wd:=by have hx:=sb x (by simp);have OC:∀y∈S,-1<=y.st/\0<=y.wd:=fun y hy=>sb y (List.mem_cons_of_mem _ hy);unfold dB at h1;by_cases c1:p=8\/p=9\/p=10;{rw[az c1]at h1;cases h1;refine⟨hh,fun y hy=>?_⟩;rcases List.mem_cons.1 hy with rfl|hy;{exact⟨hh,ha c1⟩};exact sb y hy};rw[ay c1]at h1;by_cases c2:p=13\/p=14;{rw[az c2]at h1;split at h1;{cases h1};cases h1;refine⟨?_,sb⟩;split<;>omega};rw[ay c2]at h1;by_cases c3:p=15;{rw[az c3]at h1;split at h1;{cases h1};cases h1;exact⟨by omega,sb⟩};rw[ay c3]at h1;by_cases c4:p=19;{rw[az c4]at h1;cases h1;exact⟨by omega,sb⟩};rw[ay c4]at h1;by_cases c5:p=11;{rw[az c5]at h1;split at h1;{cases h1};cases h1;refine⟨?_,sb⟩;split<;>omega};rw[ay c5]at h1;by_cases c6:p=12;{rw[az c6]at h1;split at h1;{cases h1};cases h1;refine⟨?_,OC⟩;split<;>omega};rw[ay c6]at h1;cases h1;exact⟨hh,sb⟩
theorem zz {fs:List Fn}{f:Fn}{O:List Int}(hgs:∀k,0<=(fs.getD k .z).g)(ha:∀t,t<f.b.length->0<=arg f.b t):∀(n i:Nat)(h mo:Int)(S:List bq)(out:List Int){r:List Int×Int},i+n=f.b.length->-1<=h->(∀y∈S,-1<=y.st/\0<=y.wd)->go fs f O n i h mo S out=some r->(∀y∈out,-1<=y)->∀y∈r.1,-1<=y
 | 0,i,h,mo,S,out,r,hi,hh,hs,e,ho=>by
   unfold go at e
   cases e
   exact ho
 | n + 1,i,h,mo,S,out,r,hi,hh,hs,e,ho=>by
   unfold go at e
   rcases e1:one fs f (O.getD i (-1)) (aC.op f.b i) (f.b.getD i (0,0)).2 h mo S with _|⟨h',yV,S'⟩
   · rw[e1]at e;cases e
   rw[e1]at e
   have har:=ha i (by omega)
   have hout:∀y∈out++[h],-1<=y:=fun y hy=>by
     rcases List.mem_append.1 hy with hy|hy
     · exact ho y hy
     · rw[List.mem_singleton]at hy;rw[hy];exact hh
   cases S with
   |nil=>cases e1
   | cons x S0=>
     obtain⟨hb,hc⟩:=qj e1
     have hx:=hs x (by simp)
     have hp:=Aq hgs (aC.op f.b i) (f.b.getD i (0,0)).2
     have hlow:-1<=h'/\∀y∈S',-1<=y.st/\0<=y.wd:=by
       rcases hc with⟨c1,c2,c3⟩|⟨c1,c2⟩
       · exact xk (fun _=>har) (by omega) hs c3
       · exact xk (fun _=>har) hh hs c2
     exact zz hgs ha n (i+1) h' yV S' (out++[h]) (by omega) hlow.1 hlow.2 e hout
theorem CZ {fs:List Fn}{f:Fn}{H:List Int}{mo:Int}(hf:Md.iP f=true)(hfs:Md.aR fs=true)(h:fC fs f=some (H,mo)):∀j,j<H.length->-1<=H.getD j 0:=by simp only[Md.iP,ax,decide_eq_true_eq,Wd.aW]at hf;obtain⟨-,-,⟨hg0,-⟩,-,hst⟩:=hf;have hgs:∀k,0<=(fs.getD k .z).g:=fun k=>by{by_cases hk:k<fs.length;{have:=Md.aM hfs hk;simp only[Md.iP,ax,Wd.aW]at this;exact this.2.2.1.1};rw[ai,List.getElem?_eq_none (by omega)];exact Int.le_refl _};have ha:∀t,t<f.b.length->0<=arg f.b t:=fun t ht=>by{have hok:St.ok (aC.op f.b t) (arg f.b t)=true:=St.aM hst ht;simp only[St.ok,ax,Wd.aW]at hok;(have:0<=St.least (aC.op f.b t):=by unfold St.least;split<;>omega);omega};have hall:∃m,all fs f=some (H,m):=by{unfold fC at h;split at h;{rcases e:all fs f with _|⟨o',dG⟩;{rw[e]at h;cases h};rw[e]at h;simp only at h;split at h;{cases h;exact⟨_,rfl⟩};cases h};cases h};obtain⟨m,hall⟩:=hall;have:=zz hgs ha f.b.length 0 0 f.g [⟨0,f.g,true⟩] [] (by omega) (by omega) (fun y hy=>by rw[List.mem_singleton]at hy;rw[hy];exact⟨by show(-1:Int)<=0;omega,hg0⟩) hall (fun y hy=>by cases hy);intro j hj;rw[ai,aj hj];exact this _ (List.getElem_mem hj)
end Hg
namespace Lw
theorem xc (fs:List Fn)(f:Fn)(E O H:List Int):∀n j,j<n->(bF fs f E O H n).2.getD j 0=((bF fs f E O H j).1.length:Int)
 |0,j,h=>by omega
 | n +1,j,h=>by
   have hl:=(fZ fs f E O H n).2
   by_cases e:j=n
   · subst e
     show((bF fs f E O H j).2++[((bF fs f E O H j).1.length:Int)]).getD j 0=_
     rw[ai,List.getElem?_append_right (by omega),hl,Nat.sub_self]
     simp
   · rw[←xc fs f E O H n j (by omega)]
     show((bF fs f E O H n).2++[((bF fs f E O H n).1.length:Int)]).getD j 0=_
     rw[ai,List.getElem?_append_left (by omega),←ai]
theorem yG (fs:List Fn)(f:Fn)(E O H:List Int){j:Nat}(h:j<f.b.length):(bD fs f E O H).getD j 0=((bF fs f E O H j).1.length:Int):=xc fs f E O H _ j h
theorem uQ (fs:List Fn)(f:Fn)(E O H:List Int):(bD fs f E O H).length=f.b.length:=(fZ fs f E O H _).2
theorem tL (fs:List Fn)(f:Fn)(E O H:List Int)(n:Nat):(bF fs f E O H (n+1)).1=(bF fs f E O H n).1++(if 0<=H.getD n 0 then step fs f E O H n else[])/\(bF fs f E O H (n+1)).2=(bF fs f E O H n).2++[((bF fs f E O H n).1.length:Int)]:=⟨rfl,rfl⟩
end Lw
theorem oq (p l g:Int)(body:List (Int×Int))(ba:Option Addr)(bl bc:Nat)(w:World)(hs:SL w ba bl body):Calls Tryz.prog 38 #[.agg #[.int .i64 p, .int .i64 l, .int .i64 g, .slice ba bl bc]] w fun e w'=>e= .returned (.int .i64 (Md.width ⟨p,l,g,body⟩))/\Below w.heap.size w w':=by have hB1:=aB w (.cells #[.int .i64 p, .int .i64 l, .int .i64 g, .slice ba bl bc] 33);have hcon:=mD p l g body ba bl bc _ (hs.kept hB1);rcases h:Md.iP ⟨p,l,g,body⟩with _|_;{rw[h]at hcon;rw[Md.width,ay (by rw[h];simp)];go_enter Tryz.func38,Tryz.ntmps38;go_wp2_with fail;refine hcon.mono ?_;rintro e w2 ⟨rfl,hB2⟩;have hB3:=hB1.trans (hB2.mono hB1.size);go_wp2;go_ret;exact⟨rfl,hB3⟩};rw[h]at hcon;rw[Md.width,az h];simp only[Md.iP,ax]at h;obtain⟨h1,h2⟩:=Wd.aW.1 h.1;obtain⟨h3,h4⟩:=Wd.aW.1 h.2.1;clear h;go_enter Tryz.func38,Tryz.ntmps38;go_wp2_with fail;refine hcon.mono ?_;rintro e w2 ⟨rfl,hB2⟩;obtain⟨c0,c1,c2,c3,hlt⟩:=Oe hB2;have hB3:=hB1.trans (hB2.mono hB1.size);go_wp2;go_ret;exact⟨rfl,hB3⟩
def OT (W:World)(n₀:Nat)(v:Value)(xs:List Int):Prop:=∃t,W.ownsRow n₀ t 1 v xs.length (xs.map iv)
theorem OI.ot {W:World}{n₀:Nat}{v:Value}{xs:List Int}(h:OI W n₀ v xs):OT W n₀ v xs:=⟨_,h⟩
theorem OT.slice {W:World}{n₀:Nat}{v:Value}{xs:List Int}(h:OT W n₀ v xs):∃a cap,v= .slice a xs.length cap/\IL W a xs.length xs:=by obtain⟨t,h⟩:=h;rcases h.2 with⟨rfl,h0⟩|⟨g,cap,cur,rfl,hb,hc,hn,hm,hs,ht⟩;{exact⟨none,0,by rw[h0],rfl,by rw[h0];exact Nat.zero_le _, .inl h0⟩};refine⟨_,cap,rfl,rfl,Nat.le_trans hn hm, .inr ⟨g,0,rfl,(h.lt g rfl).2,fun j hj=>?_⟩⟩;have:=h.cellAt j (by omega);rw[Nat.zero_add,this,List.getElem?_map,aj hj,ai,aj hj];rfl
theorem OT.il {W:World}{n₀:Nat}{a:Option Addr}{n c:Nat}{xs:List Int}(h:OT W n₀ (.slice a n c) xs):n=xs.length/\IL W a n xs:=by obtain⟨a',c',e,hil⟩:=h.slice;simp only[Value.slice.injEq]at e;obtain⟨rfl,rfl,rfl⟩:=e;exact⟨rfl,hil⟩
theorem OT.kept {W W':World}{n₀:Nat}{v:Value}{xs:List Int}(h:OT W n₀ v xs)(hB:Below W.heap.size W W'):OT W' n₀ v xs:=by obtain⟨t,h⟩:=h;refine⟨t,World.ownsRow.kept (row:=none) h ⟨hB.os,hB.tape,hB.output,hB.size,fun k hk _=>hB.block k hk⟩ ?_⟩;rcases hv:v.ownBlock with _|b;{exact .inl rfl};exact .inr (by simp)
theorem OT.gz {W W':World}{n₀ b:Nat}{v:Value}{xs:List Int}(h:OT W n₀ v xs)(hg:W.grownBy W' (some b))(hne:∀g,v.ownBlock=some g->g≠b):OT W' n₀ v xs:=by obtain⟨t,h⟩:=h;refine⟨t,World.ownsRow.kept h hg ?_⟩;rcases hv:v.ownBlock with _|b';{exact .inl rfl};refine .inr ?_;have:=hne b' hv;simp only[ne_eq,ah];omega
theorem OT.mono {W:World}{n₀ n₁:Nat}{v:Value}{xs:List Int}(h:OT W n₁ v xs)(hn:n₀<=n₁):OT W n₀ v xs:=by obtain⟨t,h⟩:=h;refine⟨t,h.1,?_⟩;rcases h.2 with h'|⟨g',cap',cur,h',hb,r⟩;{exact .inl h'};exact .inr ⟨g',cap',cur,h',Nat.le_trans hn hb,r⟩
theorem OT.lt {W:World}{n₀:Nat}{v:Value}{xs:List Int}(h:OT W n₀ v xs)(g:Nat)(hg:v.ownBlock=some g):n₀<=g/\g<W.heap.size:=by obtain⟨t,h⟩:=h;exact World.ownsRow.lt h g hg
theorem ky.ot {W:World}{n₀ g:Nat}{t:TypeId}{xs:List Int}(h:ky W g t (xs.map iv))(hg:n₀<=g)(hm:xs.length<=maxLen):OT W n₀ (.slice (some ⟨g,0,none⟩) xs.length xs.length) xs:=
 ⟨t,by simp, .inr ⟨g,xs.length,(xs.map iv).toArray,rfl,hg,h,Nat.le_refl _,hm,by simp,by rw[Nat.mul_one];exact List.take_of_length_le (by simp)⟩⟩
section
open Go.RowKit
namespace Lb
def Nv:Nat->List UInt8->Option (List UInt8)
 |0,_=>none
 |_+1,[]=>none
 |k+1,b::r=>if b.toNat<128 then some [b]else(Nv k r).map (b::·)
def val:List UInt8->Nat
 |[]=>0
 |b::r=>b.toNat%128+128*val r
def rest (s:ByteArray)(at':Int):List UInt8:=if at'<0 then[]else s.data.toList.drop at'.toNat
def part (x:UInt8)(pre:List UInt8):Nat:=x.toNat%128*128 ^ pre.length
end Lb
end
section
open Go.RowKit
namespace Lb
def Ug (t:List UInt8):Int:=if(val t:Int) / 2 ^ (7*t.length-1)=1 then(val t:Int)-2 ^ (7*t.length)else val t
end Lb
end
def OF (W:World)(n₀:Nat)(v:Value)(fs:List Fn):Prop:=
 ∃g cap vs,v= .slice (some ⟨g,0,none⟩) fs.length cap/\W.ownsRow n₀ 33 4 (.slice (some ⟨g,0,none⟩) fs.length cap) fs.length (iy vs)/\gm W n₀ fs.length vs fs
theorem OF.kept {W W':World}{n₀:Nat}{v:Value}{fs:List Fn}(h:OF W n₀ v fs)(hB:Below W.heap.size W W'):OF W' n₀ v fs:=by obtain⟨g,cap,vs,rfl,hrow,ht⟩:=h;exact⟨g,cap,vs,rfl,hrow.kept (row:=none) ⟨hB.os,hB.tape,hB.output,hB.size,fun k hk _=>hB.block k hk⟩ (.inr (by simp[Value.ownBlock])),ht.kept hB⟩
theorem OF.other {W W':World}{n₀ k:Nat}{v:Value}{fs:List Fn}(h:OF W n₀ v fs)(hg:W.grownBy W' (some k))(hne:k<n₀):OF W' n₀ v fs:=by obtain⟨g,cap,vs,rfl,hrow,ht⟩:=h;have h0:=(hrow.lt g rfl).1;exact⟨g,cap,vs,rfl,hrow.kept hg (.inr (by simp only[Value.ownBlock,ne_eq,ah];omega)),ht.other hg hne⟩
theorem OF.set {W:World}{n₀:Nat}{v:Value}{fs:List Fn}(h:OF W n₀ v fs)(p:Addr)(hp:p.block<n₀)(x:Value):OF (W.setCell p x) n₀ v fs:=h.other (aL W p x) hp
theorem OF.FL {W:World}{n₀:Nat}{v:Value}{fs:List Fn}(h:OF W n₀ v fs):∃g cap,v= .slice (some ⟨g,0,none⟩) fs.length cap/\n₀<=g/\g<W.heap.size/\Go.Proofs.YtellfmhljjdjbaaGreatDoor.FL W (some ⟨g,0,none⟩) fs.length fs:=by obtain⟨g,cap,vs,rfl,hrow,ht⟩:=h;exact⟨g,cap,rfl,(hrow.lt g rfl).1,(hrow.lt g rfl).2,qd hrow rfl ht⟩
theorem gm.mono {W:World}{n₀ n₁ k:Nat}{vs:List Fv}{fs:List Fn}(h:gm W n₁ k vs fs)(hn:n₀<=n₁):gm W n₀ k vs fs:=
 fun j hj=>⟨(h j hj).1,(h j hj).2.1,(h j hj).2.2.1,(h j hj).2.2.2.mono hn⟩
theorem qg {W:World}{n₀ n₁:Nat}{e k:Nat}{v:Value}{n:Nat}{xs:List Value}(h:W.ownsRow n₁ e k v n xs)(hn:n₀<=n₁):W.ownsRow n₀ e k v n xs:=by refine⟨h.1,?_⟩;rcases h.2 with h'|⟨g',cap',cur,h',hb,r⟩;{exact .inl h'};exact .inr ⟨g',cap',cur,h',Nat.le_trans hn hb,r⟩
theorem OF.mono {W:World}{n₀ n₁:Nat}{v:Value}{fs:List Fn}(h:OF W n₁ v fs)(hn:n₀<=n₁):OF W n₀ v fs:=by obtain⟨g,cap,vs,rfl,hrow,ht⟩:=h;exact⟨g,cap,vs,rfl,qg hrow hn,ht.mono hn⟩
theorem vC (a:Option Addr)(len cap:Nat)(fs:List Fn)(h20:len<=1048576)(hsm:Small len fs)(w:World)(hs:FL w a len fs):Calls Tryz.prog 48 #[.slice a len cap] w fun e w'=>∃v,e= .returned v/\OF w' w.heap.size v fs/\Below w.heap.size w w':=by obtain⟨hl,hm,hrow⟩:=hs;have HL:Hid (fs.length=len):=hl;have Ce:=af hsm;clear hm hl hsm;obtain⟨i0,hi,hz0,hz1,hz2⟩:=info_parts pQ;obtain⟨wm,hmk,hown,hgrow⟩:=run_make_full (P:=Tryz.prog) w w.heap.size 24 33 i0 _ 4 Tryz.underlying24 hi hz0 hz1 .i64 .i64 len (by rw[hz2];omega) (by simp only[maxLen];omega) (Nat.le_refl _);have hBm:Below w.heap.size w wm:=⟨hgrow.os,hgrow.tape,hgrow.output,hgrow.size,fun k hk=>hgrow.block k hk (by simp)⟩;have hown0:wm.ownsRow w.heap.size 33 4 (.slice (some ⟨w.heap.size,0,none⟩) len len) len (iy (List.replicate len kv)):=by{rw[←qh];exact hown};clear hown hgrow;go_enter Tryz.func48,Tryz.ntmps48;go_wp2;go_loopw [4] (fun i wr=>∃(k:Nat)(vs:List Fv),i= .int .i64 k/\k<=len/\vs.length=len/\gm wr (w.heap.size+1) k vs fs/\wr.ownsRow w.heap.size 33 4 (.slice (some ⟨w.heap.size,0,none⟩) len len) len (iy vs)/\Below w.heap.size w wr) (fun i _=>len-(intOf i).toNat);(case atStart=>exact⟨0,_,rfl,Nat.zero_le _,by simp,fun j hj=>by omega,hown0,hBm⟩);case round=>obtain⟨k,vs,rfl,hk,hvl,hvs,hown,hB⟩:=hrel;have HY:=af (au hvl hvs);clear hvl hvs hown0 hBm;by_cases hlt:k<len;{rcases hrow with h0|⟨b,off,rfl,hb,hx⟩;{omega};obtain⟨x0,x1,x2,ba,bl,bc,x3,hsl⟩:=hx k hlt;have hx0:=(hB.cell (p:=⟨b,off+k*4,none⟩) hb).trans x0;have hx1:=(hB.cell (p:=⟨b,off+k*4+1,none⟩) hb).trans x1;have hx2:=(hB.cell (p:=⟨b,off+k*4+2,none⟩) hb).trans x2;have hx3:=(hB.cell (p:=⟨b,off+k*4+3,none⟩) hb).trans x3;have wy:=Ce.out k hlt;obtain⟨⟨p,l,g,bd⟩,hpq⟩:∃x,fs.getD k .z=x:=⟨_,rfl⟩;rw[hpq]at hx0 hx1 hx2 hsl wy;simp only at hx0 hx1 hx2 hsl wy;have HP:Hid (fs.getD k .z=⟨p,l,g,bd⟩):=hpq;have hcon:=qi p l g bd ba bl bc (by have:=hsl.1;omega) _ (hsl.kept hB);have FN:w.heap.size<wr.heap.size:=(hown.lt _ rfl).2;clear hx hpq x0 x1 x2 x3 hsl wy;go_wp2_with fail;refine hcon.mono ?_;rintro e w1 ⟨v,rfl,hos,hB1⟩;clear hcon;obtain⟨gb,cb,rfl,Dl,FO,-⟩:=hos.SL;have hB2:=hB.trans (hB1.mono hB.size);have hown1:=hown.kept (row:=none) ⟨hB1.os,hB1.tape,hB1.output,hB1.size,fun k hk _=>hB1.block k hk⟩ (.inr (by simp[Value.ownBlock]));have Bv:=hos.mono (n₀:=w.heap.size+1) (by omega);obtain⟨hvl,hvs⟩:=HY.out;have Bw:=hvs.kept hB1;obtain⟨g0,g1,g2,g3⟩:=gU vs k (by omega);have hc0:=(hown1.cellAt (k*4) (by omega)).trans g0;have hc1:=(hown1.cellAt (k*4+1) (by omega)).trans g1;have hc2:=(hown1.cellAt (k*4+2) (by omega)).trans g2;have hc3:=(hown1.cellAt (k*4+3) (by omega)).trans g3;obtain⟨⟨p',l',q',v'⟩,oD⟩:∃x,vs.getD k kv=x:=⟨_,rfl⟩;rw[oD]at hc0 hc1 hc2 hc3;simp only at hc0 hc1 hc2 hc3;have hf0:=hown1.frozenAt (k*4);have hf1:=hown1.frozenAt (k*4+1);have hf2:=hown1.frozenAt (k*4+2);have hf3:=hown1.frozenAt (k*4+3);have ig:=hown1.stored (k*4) (.int .i64 p);have je:=ig.1.stored (k*4+1) (.int .i64 l);have wz:=je.1.stored (k*4+2) (.int .i64 g);have rY:=wz.1.stored (k*4+3) (.slice (some ⟨gb,0,none⟩) bd.length cb);have hgr:=aP (aP (aP ig.2 je.2) wz.2) rY.2;have Ma:=Bw.other hgr (by omega);have Mc:=Bv.other hgr (by omega);rw[←kW vs k (p,l,g,(.slice (some ⟨gb,0,none⟩) bd.length cb))]at rY;have HST:=af (au rY.1 (au Ma Mc));clear hvl hvs Bw g0 g1 g2 g3 oD ig je wz rY hgr Ma Mc Bv hos;have hB3:=(((hB2.setCell (p:=⟨w.heap.size,k*4,none⟩) (Nat.le_refl _) (.int .i64 p)).setCell (p:=⟨w.heap.size,k*4+1,none⟩) (Nat.le_refl _) (.int .i64 l)).setCell (p:=⟨w.heap.size,k*4+2,none⟩) (Nat.le_refl _) (.int .i64 g)).setCell (p:=⟨w.heap.size,k*4+3,none⟩) (Nat.le_refl _) (.slice (some ⟨gb,0,none⟩) bd.length cb);go_wp2;go_roundw;(case rel=>obtain⟨hvl,hvs⟩:=HY.out;obtain⟨s1,s2,s3⟩:=HST.out;refine⟨k+1,vs.set k (p,l,g,(.slice (some ⟨gb,0,none⟩) bd.length cb)),by simp,by omega,by simp[hvl],fun j hj=>?_,s1,hB3⟩;by_cases e:j=k;{subst e;have e1:(vs.set j (p,l,g,(.slice (some ⟨gb,0,none⟩) bd.length cb))).getD j kv=(p,l,g,(.slice (some ⟨gb,0,none⟩) bd.length cb)):=by{rw[ai,List.getElem?_set_self (by omega)];rfl};rw[e1,HP.out];exact⟨rfl,rfl,rfl,s3⟩};have e1:(vs.set k (p,l,g,(.slice (some ⟨gb,0,none⟩) bd.length cb))).getD j kv=vs.getD j kv:=by{rw[ai,List.getElem?_set_ne (by omega),←ai]};rw[e1];exact s2 j (by omega));case measure=>simp[intOf];omega};have hke:k=len:=by{omega};subst hke;clear hrow;go_wp2;go_ret;obtain⟨hvl,hvs⟩:=HY.out;rw[←HL.out]at hown hvs;exact⟨_,by rw[←HL.out];rfl,⟨_,_,vs,rfl,hown,hvs.mono (by omega)⟩,hB⟩
theorem jK (a:Option Addr)(len cap:Nat)(fs:List Fn)(d:ByteArray)(h20:len<=1048576)(hsm:Small len fs)(w:World)(hs:FL w a len fs):Calls Tryz.prog 22 #[.agg #[.slice a len cap, .string d]] w fun e w'=>∃v,e= .returned (.agg #[v, .string d])/\OF w' w.heap.size v fs/\Below w.heap.size w w':=by have hB3:=gG w (.cells #[.slice a len cap, .string d] 49) (.cells #[.slice none 0 0, .string ⟨#[]⟩] 26) (.cells #[.slice none 0 0, .string ⟨#[]⟩] 26);have b1:=(eZ.new (w.alloc (.cells #[.slice a len cap, .string d] 49)) (.slice none 0 0) (.string ⟨#[]⟩) 26).kept (aB _ (.cells #[.slice none 0 0, .string ⟨#[]⟩] 26));have b2:=eZ.new ((w.alloc (.cells #[.slice a len cap, .string d] 49)).alloc (.cells #[.slice none 0 0, .string ⟨#[]⟩] 26)) (.slice none 0 0) (.string ⟨#[]⟩) 26;have b0:=((eZ.new w (.slice a len cap) (.string d) 49).kept (aB _ (.cells #[.slice none 0 0, .string ⟨#[]⟩] 26))).kept (aB _ (.cells #[.slice none 0 0, .string ⟨#[]⟩] 26));simp only[World.size_alloc]at b1 b2;have hcon:=vC a len cap fs h20 hsm _ (hs.kept hB3);go_enter Tryz.func22,Tryz.ntmps22;go_wp2_with fail;refine hcon.mono ?_;rintro e w4 ⟨v,rfl,hof,hB4⟩;obtain⟨g,c,rfl,hg0,hg1,-⟩:=hof.FL;simp only[World.size_alloc]at hof hg0;have b3:=b1.kept hB4;have b4:=b2.kept hB4;have b5:=b0.kept hB4;have di:=hB3.trans (hB4.mono hB3.size);clear b1 b2 b0 hcon hB3 hB4 hs;obtain⟨p0,p1,p2,p5,p6⟩:=b3;obtain⟨q0,q1,q2,q5,q6⟩:=b4;obtain⟨r0,r1,r2,r5,r6⟩:=b5;go_wp2;(try simp only[Exit.inBlock,Exit.then]);refine bodyPost_ret (v:= .agg #[.slice (some ⟨g,0,none⟩) fs.length c, .string d]) ?_ rfl ⟨_,rfl,((((hof.set ⟨w.heap.size+1+1,0,none⟩ (by simp) _).set ⟨w.heap.size+1+1,1,none⟩ (by simp) _).set ⟨w.heap.size+1,0,none⟩ (by simp) _).set ⟨w.heap.size+1,1,none⟩ (by simp) _).mono (by omega),(((di.setCell (p:=⟨w.heap.size+1+1,0,none⟩) (by simp;omega) _).setCell (p:=⟨w.heap.size+1+1,1,none⟩) (by simp;omega) _).setCell (p:=⟨w.heap.size+1,0,none⟩) (by simp) _).setCell (p:=⟨w.heap.size+1,1,none⟩) (by simp) _⟩;rw[aN rfl];go_simp
theorem uh (p l g:Int)(body:List (Int×Int))(ba ba':Option Addr)(bl bc bc':Nat)(w:World)(hs:SL w ba bl body)(hs':SL w ba' bl body):Calls Tryz.prog 77 #[.agg #[.int .i64 p, .int .i64 l, .int .i64 g, .slice ba bl bc], .agg #[.int .i64 p, .int .i64 l, .int .i64 g, .slice ba' bl bc']] w fun e w'=>e= .returned (.bool true)/\Below w.heap.size w w':=by have hB2:=fE w (.cells #[.int .i64 p, .int .i64 l, .int .i64 g, .slice ba bl bc] 33) (.cells #[.int .i64 p, .int .i64 l, .int .i64 g, .slice ba' bl bc'] 33);have hcon:=qM ba ba' bl bc bc' body _ (hs.kept hB2) (hs'.kept hB2);go_enter Tryz.func77,Tryz.ntmps77;go_wp2_with fail;refine hcon.mono ?_;rintro e w1 ⟨rfl,hB3⟩;have hB4:=hB2.trans (hB3.mono hB2.size);go_wp2;go_ret;exact⟨rfl,hB4⟩
theorem qX (a b:Option Addr)(len cap cap':Nat)(fs:List Fn)(w:World)(hs:FL w a len fs)(hs':FL w b len fs):Calls Tryz.prog 50 #[.slice a len cap, .slice b len cap'] w fun e w'=>e= .returned (.bool true)/\Below w.heap.size w w':=by obtain⟨hl,hm,hrow⟩:=hs;obtain⟨-,-,hrow'⟩:=hs';clear hl;unfold maxLen at hm;go_enter Tryz.func50,Tryz.ntmps50;go_wp2;go_loopw [5] (fun i wr=>∃k:Nat,i= .int .i64 k/\k<=len/\Below w.heap.size w wr) (fun i _=>len-(intOf i).toNat);(case atStart=>exact⟨0,rfl,Nat.zero_le _,Below.refl _ _⟩);case round=>obtain⟨k,rfl,hk,hB⟩:=hrel;by_cases hlt:k<len;{rcases hrow with h0|⟨b1,eU,rfl,hb1,hx1⟩;{omega};rcases hrow' with h0|⟨b2,dU,rfl,hb2,hx2⟩;{omega};obtain⟨x0,x1,x2,ba,bl,bc,x3,hsl⟩:=hx1 k hlt;obtain⟨y0,y1,y2,ba',Tk,bc',y3,oI⟩:=hx2 k hlt;obtain⟨⟨p,l,g,bd⟩,hpq⟩:∃x,fs.getD k .z=x:=⟨_,rfl⟩;rw[hpq]at x0 x1 x2 y0 y1 y2 hsl oI;simp only at x0 x1 x2 y0 y1 y2 hsl oI;obtain rfl:bl=Tk:=hsl.1.symm.trans oI.1;have hs1:=hsl.kept hB;have hs2:=oI.kept hB;have hc0:∀wx:dA wr,wx.to.cell? ⟨b1,eU+k*4,none⟩=some (.int .i64 p):=fun wx=>((hB.trans (wx.h.mono hB.size)).cell (p:=⟨b1,eU+k*4,none⟩) hb1).trans x0;have hc1:∀wx:dA wr,wx.to.cell? ⟨b1,eU+k*4+1,none⟩=some (.int .i64 l):=fun wx=>((hB.trans (wx.h.mono hB.size)).cell (p:=⟨b1,eU+k*4+1,none⟩) hb1).trans x1;have hc2:∀wx:dA wr,wx.to.cell? ⟨b1,eU+k*4+2,none⟩=some (.int .i64 g):=fun wx=>((hB.trans (wx.h.mono hB.size)).cell (p:=⟨b1,eU+k*4+2,none⟩) hb1).trans x2;have hc3:∀wx:dA wr,wx.to.cell? ⟨b1,eU+k*4+3,none⟩=some (.slice ba bl bc):=fun wx=>((hB.trans (wx.h.mono hB.size)).cell (p:=⟨b1,eU+k*4+3,none⟩) hb1).trans x3;have hd0:∀wx:dA wr,wx.to.cell? ⟨b2,dU+k*4,none⟩=some (.int .i64 p):=fun wx=>((hB.trans (wx.h.mono hB.size)).cell (p:=⟨b2,dU+k*4,none⟩) hb2).trans y0;have hd1:∀wx:dA wr,wx.to.cell? ⟨b2,dU+k*4+1,none⟩=some (.int .i64 l):=fun wx=>((hB.trans (wx.h.mono hB.size)).cell (p:=⟨b2,dU+k*4+1,none⟩) hb2).trans y1;have hd2:∀wx:dA wr,wx.to.cell? ⟨b2,dU+k*4+2,none⟩=some (.int .i64 g):=fun wx=>((hB.trans (wx.h.mono hB.size)).cell (p:=⟨b2,dU+k*4+2,none⟩) hb2).trans y2;have hd3:∀wx:dA wr,wx.to.cell? ⟨b2,dU+k*4+3,none⟩=some (.slice ba' bl bc'):=fun wx=>((hB.trans (wx.h.mono hB.size)).cell (p:=⟨b2,dU+k*4+3,none⟩) hb2).trans y3;have hne:=dA.any wr;clear hx1 hx2 x0 x1 x2 x3 y0 y1 y2 y3 hpq hsl oI;go_wp2;refine bU (by kernel_rfl) (by kernel_rfl) ?_;(repeat(go_big_quiet_step (first|(go_at_call 77;refine iU (uh _ _ _ bd _ _ _ _ _ _ (hs1.kept (dA.h _)) (hs2.kept (dA.h _)))))));refine wpQuiet_nil ?_;rintro _ ⟨pw,rfl⟩;have aZ:=hB.trans (pw.h.mono hB.size);generalize pw.to=w7 at*;go_wp2;go_roundw;(case rel=>exact⟨k+1,by simp,by omega,aZ⟩);case measure=>simp[intOf];omega};clear hrow hrow';go_wp2;go_ret;exact⟨rfl,hB⟩
theorem pu (a b:Option Addr)(len cap cap':Nat)(fs:List Fn)(d:ByteArray)(w:World)(hs:FL w a len fs)(hs':FL w b len fs):Calls Tryz.prog 24 #[.agg #[.slice a len cap, .string d], .agg #[.slice b len cap', .string d]] w fun e w'=>e= .returned (.bool true)/\Below w.heap.size w w':=by have hB2:=fE w (.cells #[.slice a len cap, .string d] 26) (.cells #[.slice b len cap', .string d] 26);have b1:=eZ.new (w.alloc (.cells #[.slice a len cap, .string d] 26)) (.slice b len cap') (.string d) 26;have b0:=(eZ.new w (.slice a len cap) (.string d) 26).kept (aB _ (.cells #[.slice b len cap', .string d] 26));simp only[World.size_alloc]at b1;have hcon:=qX a b len cap cap' fs _ (hs.kept hB2) (hs'.kept hB2);go_enter Tryz.func24,Tryz.ntmps24;go_wp2_with fail;refine hcon.mono ?_;rintro e w1 ⟨rfl,hB3⟩;have hB4:=hB2.trans (hB3.mono hB2.size);obtain⟨p0,p1,p2,p5,p6⟩:=b0.kept hB3;obtain⟨q0,q1,q2,q5,q6⟩:=b1.kept hB3;clear b0 b1 hcon;go_wp2;go_ret;exact⟨rfl,hB4⟩
def dZ (k:Int)(n:Nat):List (Int×Int):=(List.range n).map fun(j:Nat)=>(k+2*(j:Int),k+2*(j:Int)+1)
theorem sN {k:Int}{n j:Nat}(h:j<n):(dZ k n).getD j (0,0)=(k+2*(j:Int),k+2*(j:Int)+1):=by simp[dZ,ai,h]
theorem sF (k:Int)(n:Nat):(dZ k n).length=n:=by simp[dZ]
theorem rM (g n cap n₀:Nat)(xs:List (Int×Int))(k0:Int)(hk0:0<=k0)(hk1:k0<=4611686018427)(hn:n<=2000000)(w:World)(hs:OS w n₀ (.slice (some ⟨g,0,none⟩) n cap) xs):Calls Tryz.prog 78 #[.slice (some ⟨g,0,none⟩) n cap, .int .i64 k0] w fun e w'=>e= .returned (.int .i64 (k0+2*(n:Int)))/\OS w' n₀ (.slice (some ⟨g,0,none⟩) n cap) (dZ k0 n)/\w.grownBy w' (some g):=by obtain⟨g',cap',hv,h0,hlt,hm,hrow⟩:=hs;have hgg:w.grownBy w (some g):=World.grownBy.refl _ _;have hxl:xs.length=n:=by{cases hv;rfl};rw[hxl]at hrow;clear hm hv h0 hlt;go_enter Tryz.func78,Tryz.ntmps78;go_wp2;go_loopw [1,5] (fun m i wr=>∃(k:Nat)(ys:List (Int×Int)),m= .int .i64 (k0+2*(k:Int))/\i= .int .i64 k/\k<=n/\ys.length=n/\(∀j,j<k->ys.getD j (0,0)=(k0+2*(j:Int),k0+2*(j:Int)+1))/\wr.ownsRow n₀ 121 2 (.slice (some ⟨g,0,none⟩) n cap) n (jR ys)/\w.grownBy wr (some g)) (fun _ i _=>n-(intOf i).toNat);(case atStart=>exact⟨0,xs,by congr 1;omega,rfl,Nat.zero_le _,hxl,by simp,hrow,hgg⟩);case round=>obtain⟨k,ys,rfl,rfl,hk,hyl,hys,hown,hg⟩:=hrel;have HY:Hid (ys.length=n/\∀j,j<k->ys.getD j (0,0)=(k0+2*(j:Int),k0+2*(j:Int)+1)):=⟨hyl,hys⟩;clear hrow hxl hgg;by_cases hlt:k<n;{obtain⟨hg0,hg1⟩:=kZ ys k (by omega);have hc0:=(hown.cellAt (k*2) (by omega)).trans hg0;have hc1:=(hown.cellAt (k*2+1) (by omega)).trans hg1;obtain⟨⟨p',q'⟩,oD⟩:∃x,ys.getD k (0,0)=x:=⟨_,rfl⟩;rw[oD]at hc0 hc1;have hf0:=hown.frozenAt (k*2);have hf1:=hown.frozenAt (k*2+1);have ig:=hown.stored (k*2) (.int .i64 (k0+2*(k:Int)));have je:=ig.1.stored (k*2+1) (.int .i64 (k0+2*(k:Int)+1));rw[←nJ ys k (k0+2*(k:Int),k0+2*(k:Int)+1)]at je;have HST:=af je.1;have HG:=af (aP (aP hg ig.2) je.2);clear hyl hys hg0 hg1 oD ig je hown hg;go_wp2;go_roundw;(case rel=>obtain⟨hyl,hys⟩:=HY.out;refine⟨k+1,ys.set k (k0+2*(k:Int),k0+2*(k:Int)+1),by congr 1<;>omega,by simp,by omega,by simp[hyl],fun j hj=>?_,HST.out,HG.out⟩;by_cases e:j=k;{subst e;rw[ai,List.getElem?_set_self (by omega)];rfl};rw[←hys j (by omega),ai,List.getElem?_set_ne (by omega),←ai]);case measure=>simp[intOf];omega};have hke:k=n:=by{omega};subst hke;clear hyl hys;go_wp2;go_ret;obtain⟨hyl,hys⟩:=HY.out;have e:ys=dZ k0 k:=by{apply List.ext_getElem;{rw[hyl];simp[dZ]};intro j h1 h2;have:=(hys j (by omega)).trans (sN (n:=k) (by omega)).symm;simpa[ai,aj h1,aj h2]using this};rw[e]at hown;exact⟨rfl,OS.zL hown,hg⟩
section
open Go.ChangeShapes Go.WideShapes Go.ChangeAt Go.RowKit Go.Deep
theorem CY {H:Type}{enc:TypeId×Value->H}{W:World}{v:Value}{n:Nat}{x:DataW H×List MemPlace}(hf:DataW.trod enc Tryz.prog W 0 (fun _=>true) true n 109 [v]=some x):∃a len cap xs,v= .slice a len cap/\SL W a len xs:=by rcases open_slice_pairs Tryz.underlying109 Tryz.underlying201 (by kernel_rfl) rfl rfl (by kernel_rfl) (by kernel_rfl) hf with⟨hcs,_⟩|⟨x,l,c,m,n,V0,V1,D0,D1,P0,P1,hcs,_,hl,hm,hmm,_,hcell⟩;{simp at hcs;subst hcs;exact⟨none,0,0,[],rfl,rfl,Nat.zero_le _, .inl rfl⟩};simp at hcs;subst hcs;simp only[if_true]at hmm;subst hmm;by_cases h0:l=0;{subst h0;exact⟨_,_,_,[],rfl,rfl,Nat.zero_le _, .inl rfl⟩};have hspot:x.spot=none:=by{have hc:=(hcell 0 (by omega)).1;have:=World.cell?_spot hc;obtain⟨b,off,spot⟩:=x;simpa[Addr.add]using this};obtain⟨b,off,spot⟩:=x;simp only at hspot;subst hspot;(have hadd:∀i,(⟨b,off,none⟩:Addr).add i=⟨b,off+i,none⟩:=fun i=>by unfold Addr.add;split<;>simp_all);have hV:∀j,j<m->∃p q:Int,V0 j= .int .i64 p/\V1 j= .int .i64 q:=by{intro j hj;obtain⟨_,_,ht0,ht1⟩:=hcell j hj;obtain⟨p,e0,_⟩:=DataW.trod_int Tryz.underlying2 ht0;obtain⟨q,e1,_⟩:=DataW.trod_int Tryz.underlying2 ht1;exact⟨p,q,by simpa using e0,by simpa using e1⟩};have hb:b<W.heap.size:=by{have:=World.block_lt_of_cell? _ _ (hcell 0 (by omega)).1;simpa[hadd]using this};refine⟨_,_,_,(List.range l).map fun j=>(intOf (V0 j),intOf (V1 j)),rfl,by simp,Nat.le_trans hl hm, .inr ⟨b,off,rfl,hb,fun j hj=>?_⟩⟩;obtain⟨p,q,e0,e1⟩:=hV j (by omega);obtain⟨hc0,hc1,_,_⟩:=hcell j (by omega);rw[hadd]at hc0 hc1;have e:((List.range l).map fun j=>(intOf (V0 j),intOf (V1 j))).getD j (0,0)=(p,q):=by{simp[ai,hj,e0,e1,intOf]};rw[e];exact⟨by rw[hc0,e0],by rw[Nat.add_assoc,hc1,e1]⟩
theorem CO {H:Type}{enc:TypeId×Value->H}{W:World}{v:Value}{n:Nat}{x:DataW H×List MemPlace}(hf:DataW.trod enc Tryz.prog W 0 (fun _=>true) true n 47 [v]=some x):∃a len cap fs,v= .slice a len cap/\FL W a len fs:=by
 rcases open_slice Tryz.underlying47 hf with⟨hcs,_⟩|⟨x,l,c,m,n,D,Pl,hcs,_,hl,hm,hmm,_,hx⟩
 · simp at hcs;subst hcs;exact⟨none,0,0,[],rfl,rfl,Nat.zero_le _, .inl rfl⟩
 · simp at hcs
   subst hcs
   simp only[if_true]at hmm
   subst hmm
   have ce:Tryz.prog.cellsOf 111=4:=by kernel_rfl
   have each:∀i,i<m->∃q:Fn×Option Addr×Nat×Nat,W.cell? (x.add (i*4))=some (.int .i64 q.1.a)/\W.cell? (x.add (i*4+1))=some (.int .i64 q.1.l)/\W.cell? (x.add (i*4+2))=some (.int .i64 q.1.g)/\W.cell? (x.add (i*4+3))=some (.slice q.2.1 q.2.2.1 q.2.2.2)/\SL W q.2.1 q.2.2.1 q.1.b:=by
    intro i hi
    obtain⟨cs',h1,h2⟩:=hx i hi
    rw[ce]at h1
    obtain⟨_,hlen,hcell⟩:=World.cells?_some h1
    obtain⟨y0,y1,y2,y3,k,_,_,t0,t1,t2,t3⟩:=Go.Joins.trod_struct4 Tryz.underlying111 h2
    match cs',hlen with
    |[v0,v1,v2,v3],_=>
     have c1:Tryz.prog.cellsOf 2=1:=by kernel_rfl
     have c2:Tryz.prog.cellsOf 109=1:=by kernel_rfl
     simp[c1,c2]at t0 t1 t2 t3
     obtain⟨p,e0,_⟩:=DataW.trod_int Tryz.underlying2 t0
     obtain⟨q,e1,_⟩:=DataW.trod_int Tryz.underlying2 t1
     obtain⟨r,e2,_⟩:=DataW.trod_int Tryz.underlying2 t2
     obtain⟨a,bl,bc,xs,e3,hs⟩:=CY t3
     have e0:v0= .int .i64 p:=by simpa using e0
     have e1:v1= .int .i64 q:=by simpa using e1
     have e2:v2= .int .i64 r:=by simpa using e2
     subst e0 e1 e2 e3
     have g0:=hcell 0 (by omega)
     have g1:=hcell 1 (by omega)
     have g2:=hcell 2 (by omega)
     have g3:=hcell 3 (by omega)
     rw[add_add]at g0 g1 g2 g3
     exact⟨(⟨p,q,r,xs⟩,a,bl,bc),by simpa using g0,by simpa using g1,by simpa using g2,by simpa using g3,hs⟩
   haveI:Inhabited (Fn×Option Addr×Nat×Nat):=⟨(.z,none,0,0)⟩
   obtain⟨q,hq⟩:=choose_lt each
   by_cases h0:l=0
   · subst h0;exact⟨_,_,_,[],rfl,rfl,Nat.zero_le _, .inl rfl⟩
   · have hspot:x.spot=none:=by{have hc:=(hq 0 (by omega)).1;have:=World.cell?_spot hc;obtain⟨b,off,spot⟩:=x;simpa[Addr.add]using this};obtain⟨b,off,spot⟩:=x;simp only at hspot;subst hspot;(have hadd:∀i,(⟨b,off,none⟩:Addr).add i=⟨b,off+i,none⟩:=fun i=>by unfold Addr.add;split<;>simp_all);have hb:b<W.heap.size:=by{have:=World.block_lt_of_cell? _ _ (hq 0 (by omega)).1;simpa[hadd]using this};refine⟨_,_,_,(List.range l).map fun j=>(q j).1,rfl,by simp,Nat.le_trans hl hm, .inr ⟨b,off,rfl,hb,fun j hj=>?_⟩⟩;obtain⟨k0,k1,k2,k3,k4⟩:=hq j (by omega);rw[hadd]at k0 k1 k2 k3;have e:((List.range l).map fun j=>(q j).1).getD j .z=(q j).1:=by{simp[ai,hj]};rw[e];exact⟨k0,by rw[Nat.add_assoc];exact k1,by rw[Nat.add_assoc];exact k2,_,_,_,by rw[Nat.add_assoc];exact k3,k4⟩
end
end Go.Proofs.YtellfmhljjdjbaaGreatDoor
