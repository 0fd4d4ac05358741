/-
  Own texts for a law: Hgt1 Mod7 RowsB Nest8 MathB BoxL QTail Phi Phi2 Words6 Words8 Pile1 Pile2 Pile3 Pile4 Words5
-/
import Derived.Test.YthpdpoocigpccaaGreatDoorKM02
import Derived.Deep.RegionLaw
import Derived.StillTail
namespace Go.Proofs.YthpdpoocigpccaaGreatDoor
open Go.RowKit Go.Shelf
set_option linter.all false
set_option maxRecDepth 100000
set_option maxHeartbeats 16000000
theorem eY (W:World)(n:Nat):Below W.heap.size W (W.drewN n):=⟨rfl,rfl,rfl,Nat.le_refl _,fun _ _=>rfl⟩
theorem bE (a b:Int)(w:World):Calls Tryz.prog 85 #[.int .i64 a, .int .i64 b] w fun e w'=>e= .returned (.int .i64 (Hg.mx a b))/\w'=w:=by by_cases h:b<a;{have e:Hg.mx a b=a:=by{unfold Hg.mx;rw[ak (by omega)]};rw[e];go_enter Tryz.func85,Tryz.ntmps85;go_wp2;go_ret;exact⟨rfl,rfl⟩};have e:Hg.mx a b=b:=by{unfold Hg.mx;split;{rfl};omega};rw[e];go_enter Tryz.func85,Tryz.ntmps85;go_wp2;go_ret;exact⟨rfl,rfl⟩
theorem bU (a:Option Addr)(len cap:Nat)(fs:List Fn)(d:ByteArray)(p q:Int)(hp:1<=p/\p<=20)(hq:p=16->0<=q/\q<len)(w:World)(hs:FL w a len fs):Calls Tryz.prog 84 #[.agg #[.slice a len cap, .string d], .agg #[.int .i64 p, .int .i64 q]] w fun e w'=>e= .returned (.tuple #[.int .i64 (Hg.tk fs p q), .int .i64 (Hg.pt fs p q)])/\Below w.heap.size w w':=by obtain⟨hl,hm,hrow⟩:=hs;have hB2:=kM w (.cells #[.slice a len cap, .string d] 26) (.cells #[.int .i64 p, .int .i64 q] 78);by_cases h16:p=16;{subst h16;obtain⟨hq0,hq1⟩:=hq rfl;obtain⟨j,rfl⟩:∃j:Nat,q=j:=⟨q.toNat,by omega⟩;rcases hrow with h0|⟨b,off,rfl,hb,hx⟩;{omega};have hj:j<len:=by{omega};obtain⟨x0,x1,x2,-⟩:=hx j hj;have y0:=(hB2.cell (p:=⟨b,off+j*4,none⟩) hb).trans x0;have y2:=(hB2.cell (p:=⟨b,off+j*4+2,none⟩) hb).trans x2;have e1:Hg.tk fs 16 j=(fs.getD j .z).a:=by{unfold Hg.tk;simp};have e2:Hg.pt fs 16 j=(fs.getD j .z).g:=by{unfold Hg.pt;simp};rw[e1,e2];obtain⟨⟨fa,fl,fg,fb⟩,hf⟩:∃x,fs.getD j .z=x:=⟨_,rfl⟩;rw[hf]at y0 y2 ⊢;simp only at y0 y2 ⊢;clear hx x0 x1 x2 hf e1 e2 hl;go_enter Tryz.func84,Tryz.ntmps84;go_wp2;go_quiet (fail);go_wp2;go_ret2;exact⟨rfl,hB2.trans ((eY _ _).mono hB2.size)⟩};have hp':p=1\/p=2\/p=3\/p=4\/p=5\/p=6\/p=7\/p=8\/p=9\/p=10\/p=11\/p=12\/p=13\/p=14\/p=15\/p=17\/p=18\/p=19\/p=20:=by{omega};clear hq hp h16 hrow hm hl;rcases hp' with rfl|rfl|rfl|rfl|rfl|rfl|rfl|rfl|rfl|rfl|rfl|rfl|rfl|rfl|rfl|rfl|rfl|rfl|rfl;all_goals go_enter Tryz.func84,Tryz.ntmps84;go_wp2;go_ret2;exact⟨rfl,hB2⟩
abbrev Fv:=Int×Int×Int×Value
def Vb:Fv:=(0,0,0, .slice none 0 0)
def qM (xs:List Fv):List Value:=xs.flatMap fun x=>[.int .i64 x.1, .int .i64 x.2.1, .int .i64 x.2.2.1,x.2.2.2]
theorem II (x:Fv)(xs:List Fv):qM (x::xs)= .int .i64 x.1:: .int .i64 x.2.1:: .int .i64 x.2.2.1::x.2.2.2::qM xs:=rfl
theorem zu (xs ys:List Fv):qM (xs++ys)=qM xs++qM ys:=by simp[qM]
theorem zJ:∀(xs:List Fv)(j:Nat),j<xs.length->(qM xs)[j*4]?=some (.int .i64 (xs.getD j Vb).1)/\(qM xs)[j*4+1]?=some (.int .i64 (xs.getD j Vb).2.1)/\(qM xs)[j*4+2]?=some (.int .i64 (xs.getD j Vb).2.2.1)/\(qM xs)[j*4+3]?=some (xs.getD j Vb).2.2.2
 |[],j,h=>by simp at h
 |x::xs,0,_=>⟨rfl,rfl,rfl,rfl⟩
 | x::xs,j+1,h=>by
   have ih:=zJ xs j (by simp at h;omega)
   rw[II,show(j+1)*4=j*4+1+1+1+1 by omega]
   refine⟨by simpa using ih.1,?_,?_,?_⟩
   · rw[show j*4+1+1+1+1+1=(j*4+1)+1+1+1+1 by omega];simpa using ih.2.1
   · rw[show j*4+1+1+1+1+2=(j*4+2)+1+1+1+1 by omega];simpa using ih.2.2.1
   · rw[show j*4+1+1+1+1+3=(j*4+3)+1+1+1+1 by omega];simpa using ih.2.2.2
def Ml (W:World)(n₀ k:Nat)(vs:List Fv)(fs:List Fn):Prop:=
 ∀j,j<k->(vs.getD j Vb).1=(fs.getD j .z).a/\(vs.getD j Vb).2.1=(fs.getD j .z).l/\(vs.getD j Vb).2.2.1=(fs.getD j .z).g/\OS W n₀ (vs.getD j Vb).2.2.2 (fs.getD j .z).b
theorem Ml.kept {W W':World}{n₀ k:Nat}{vs:List Fv}{fs:List Fn}(h:Ml W n₀ k vs fs)(hB:Below W.heap.size W W'):Ml W' n₀ k vs fs:=
 fun j hj=>⟨(h j hj).1,(h j hj).2.1,(h j hj).2.2.1,(h j hj).2.2.2.kept hB⟩
def E9 (W:World)(b:Nat)(v0 v1 v2 v3:Value):Prop:=
 b<W.heap.size/\W.cell? ⟨b,0,none⟩=some v0/\W.cell? ⟨b,1,none⟩=some v1/\W.cell? ⟨b,2,none⟩=some v2/\W.cell? ⟨b,3,none⟩=some v3/\W.frozen? ⟨b,0,none⟩=false/\W.frozen? ⟨b,1,none⟩=false/\W.frozen? ⟨b,2,none⟩=false/\W.frozen? ⟨b,3,none⟩=false
theorem E9.kept {W W':World}{b:Nat}{v0 v1 v2 v3:Value}(h:E9 W b v0 v1 v2 v3)(hB:Below W.heap.size W W'):E9 W' b v0 v1 v2 v3:=by obtain⟨h0,h1,h2,h3,h4,h5,h6,h7,h8⟩:=h;exact⟨ah h0 hB.size,(hB.cell h0).trans h1,(hB.cell h0).trans h2,(hB.cell h0).trans h3,(hB.cell h0).trans h4,(hB.frozen h0).trans h5,(hB.frozen h0).trans h6,(hB.frozen h0).trans h7,(hB.frozen h0).trans h8⟩
theorem E9.new (W:World)(v0 v1 v2 v3:Value)(t:TypeId):E9 (W.alloc (.cells #[v0,v1,v2,v3] t)) W.heap.size v0 v1 v2 v3:=by refine⟨by simp,?_,?_,?_,?_,?_,?_,?_,?_⟩<;>go_simp
def Ap (W:World)(b:Nat)(v0 v1:Value):Prop:=
 b<W.heap.size/\W.cell? ⟨b,0,none⟩=some v0/\W.cell? ⟨b,1,none⟩=some v1/\W.frozen? ⟨b,0,none⟩=false/\W.frozen? ⟨b,1,none⟩=false
theorem Ap.kept {W W':World}{b:Nat}{v0 v1:Value}(h:Ap W b v0 v1)(hB:Below W.heap.size W W'):Ap W' b v0 v1:=by obtain⟨h0,h1,h2,h5,h6⟩:=h;exact⟨ah h0 hB.size,(hB.cell h0).trans h1,(hB.cell h0).trans h2,(hB.frozen h0).trans h5,(hB.frozen h0).trans h6⟩
theorem Ap.new (W:World)(v0 v1:Value)(t:TypeId):Ap (W.alloc (.cells #[v0,v1] t)) W.heap.size v0 v1:=by refine⟨by simp,?_,?_,?_,?_⟩<;>go_simp
theorem IE {W:World}{b0 b1 e0 e1 k0 k1 g0 g1 n0 n1 c0 c1:Nat}{xs ys:List Value}(h0:W.ownsRow b0 e0 k0 (.slice (some ⟨g0,0,none⟩) n0 c0) n0 xs)(h1:W.ownsRow b1 e1 k1 (.slice (some ⟨g1,0,none⟩) n1 c1) n1 ys)(he:e0≠e1):g0≠g1:=by rintro rfl;rcases h0.2 with⟨h',_⟩|⟨g,c,cur,h',_,hb,_⟩;{cases h'};cases h';rcases h1.2 with⟨h',_⟩|⟨g,c,cur',h',_,hb',_⟩;{cases h'};cases h';rw[hb]at hb';simp only[ae,Obj.cells.injEq]at hb';exact he hb'.2.1
theorem dV {W W':World}{b0 b1 e0 e1 k0 k1 g0 g1 n0 n1 c0 c1:Nat}{xs ys:List Value}(h1:W.ownsRow b1 e1 k1 (.slice (some ⟨g1,0,none⟩) n1 c1) n1 ys)(h0:W.ownsRow b0 e0 k0 (.slice (some ⟨g0,0,none⟩) n0 c0) n0 xs)(he:e0≠e1)(hg:W.grownBy W' (Value.slice (some ⟨g0,0,none⟩) n0 c0).ownBlock):W'.ownsRow b1 e1 k1 (.slice (some ⟨g1,0,none⟩) n1 c1) n1 ys:=
 ek h1 (b:=g0) hg (Ne.symm (IE h0 h1 he))
theorem gU {W:World}{n₀ e k g n c:Nat}{xs:List Value}(h:W.ownsRow n₀ e k (.slice (some ⟨g,0,none⟩) n c) n xs)(m:Nat)(hm:m<=n):W.ownsRow n₀ e k (.slice (some ⟨g,0,none⟩) m c) m (xs.take (m*k)):=by obtain⟨h1,h2⟩:=h;have hmk:m*k<=n*k:=Nat.mul_le_mul_right k hm;refine⟨by rw[List.length_take,h1];omega,?_⟩;rcases h2 with⟨h',_⟩|⟨g',cap',cur,h',hb,hc,hn,hx,hs,ht⟩;{cases h'};cases h';refine .inr ⟨g,c,cur,rfl,hb,hc,by omega,hx,hs,?_⟩;rw[←ht,List.take_take];congr 1;omega
theorem dw {W:World}{n₀ e k g n c:Nat}{xs:List Value}(h:W.ownsRow n₀ e k (.slice (some ⟨g,0,none⟩) n c) n xs):n<=c:=by rcases h.2 with⟨h',_⟩|⟨g',cap',cur,h',_,_,hc,_⟩;{cases h'};cases h';exact hc
namespace aG
variable {xs : List (Int × Int)} {E : List Int} {at' : Int}
theorem qI (k:Nat):eG xs E at' (k+1)=if St.opens (op xs k)=true/\at'<=aB E k then(k:Int)::eG xs E at' k else eG xs E at' k:=rfl
theorem jJ:∀(k:Nat)(x:Int),x∈eG xs E at' k->∃j:Nat,x=j/\j<k/\St.opens (op xs j)=true/\at'<=aB E j
 |0,x,h=>by simp[eG]at h
 | k + 1,x,h=>by
   rw[qI]at h
   split at h
   · rename_i hp
     rcases List.mem_cons.1 h with rfl|h
     · exact⟨k,rfl,by omega,hp.1,hp.2⟩
     · obtain⟨j,a,b,c⟩:=jJ k x h
       exact⟨j,a,by omega,c⟩
   · obtain⟨j,a,b,c⟩:=jJ k x h
     exact⟨j,a,by omega,c⟩
theorem qa:∀k:Nat,(eG xs E at' k).Pairwise (fun a b=>b<a)
 |0=>List.Pairwise.nil
 | k +1=>by
   rw[qI]
   split
   · refine List.pairwise_cons.2 ⟨fun x hx=>?_,qa k⟩
     obtain⟨j,rfl,hj,-⟩:=jJ k x hx
     omega
   · exact qa k
theorem U0 {O:List Int}(hF:Fin xs E O){n:Nat}{A:List Int}(hA:eG xs E n n=A){i:Nat}(hi:i<A.length):∃j:Nat,aB A i=j/\j<n/\(n:Int)<=aB E j/\∀i',i=i'+1->∃j':Nat,aB A i'=j'/\j'<n/\j<j'/\aB E j'<aB E j:=by subst hA;have hget:∀i,i<(eG xs E n n).length->aB (eG xs E n n) i∈eG xs E n n:=fun i hi=>by{unfold aB;rw[af,ag hi];exact List.getElem_mem hi};obtain⟨j,e,hj,ho,hE⟩:=jJ n _ (hget i hi);refine⟨j,e,hj,hE,fun i' hi'=>?_⟩;subst hi';obtain⟨j',e',hj',ho',hE'⟩:=jJ n _ (hget i' (by omega));have hlt:aB (eG xs E n n) (i'+1)<aB (eG xs E n n) i':=by{have:=List.pairwise_iff_getElem.1 (qa (xs:=xs) (E:=E) (at':=n) n) i' (i'+1) (by omega) hi (by omega);unfold aB;rw[af,af,ag hi,ag (by omega)];exact this};have hjj:j<j':=by{omega};refine⟨j',e',hj',hjj,hF.f4 j j' ho hjj (by omega) ?_⟩;rw[bI]at ho';omega
end aG
namespace Wd
theorem Fz {n:Nat}(h:n<2 ^ 32):ok (n:Int)=true:=tT (by omega) (by omega)
theorem uo (x:Int):ok (x%4294967296)=true:=tT (by omega) (by omega)
theorem Fs:ok 0=true:=by decide
theorem XJ:ok 1=true:=by decide
theorem abV (k a b:Int):ok (dv k a b)=true:=by by_cases h:ok a=true/\ok b=true;{obtain⟨ha,hb⟩:=h;by_cases hk:k<1\/12<k;{rw[←qP hk];exact Fs};have hk':k=1\/k=2\/k=3\/k=4\/k=5\/k=6\/k=7\/k=8\/k=9\/k=10\/k=11\/k=12:=by{omega};rcases hk' with rfl|rfl|rfl|rfl|rfl|rfl|rfl|rfl|rfl|rfl|rfl|rfl;{rw[←dv1 ha hb];exact uo _};{rw[←dv2 ha hb];exact uo _};{rw[←dv3 ha hb];exact uo _};{by_cases h0:sg b=0;{rw[←UW ha hb h0];exact Fs};by_cases h1:sg a=-2147483648/\sg b=-1;{rw[←UT ha hb h1.1 h1.2];exact Fs};rw[←TY ha hb h0 h1];exact uo _};{rw[←dv5 ha hb];obtain⟨n,rfl,hn⟩:=jU ha;obtain⟨m,rfl,hm⟩:=jU hb;rw[KW hn hm];exact Fz (XK hm)};{rw[←dv6 ha hb];obtain⟨n,rfl,hn⟩:=jU ha;obtain⟨m,rfl,hm⟩:=jU hb;rw[VL hn hm];exact Fz (abv hn hm)};{rw[←dv7 ha hb];obtain⟨n,rfl,hn⟩:=jU ha;obtain⟨m,rfl,hm⟩:=jU hb;rw[Mi hn hm];exact Fz (XL hn hm)};{rw[←dv8 ha hb];exact uo _};{rw[←dv9 ha hb];have:=Ya ha (b%32).toNat;exact tT this.1 this.2};{by_cases h:a=b;{rw[←GL ha hb h];exact XJ};rw[←Ia ha hb h];exact Fs};{by_cases h:sg a<sg b;{rw[←La ha hb h];exact XJ};rw[←KO ha hb h];exact Fs};by_cases h:a<b;{rw[←MG ha hb h];exact XJ};rw[←KC ha hb h];exact Fs};have:ok a=false\/ok b=false:=by{cases h1:ok a<;>cases h2:ok b<;>simp_all};rw[←GJ this];exact Fs
theorem zP (k a b:Int):(dc k a b=0/\ok a=true/\ok b=true)\/(dc k a b=7/\dv k a b=0)\/((dc k a b=1\/dc k a b=2)/\k=4/\dv k a b=0):=by by_cases h:ok a=true/\ok b=true;{obtain⟨ha,hb⟩:=h;by_cases hk:k<1\/12<k;{exact .inr (.inl ⟨(uj ha hb hk).symm,(qP hk).symm⟩)};by_cases h4:k=4;{subst h4;by_cases h0:sg b=0;{exact .inr (.inr ⟨.inl (XE ha hb h0).symm,rfl,(UW ha hb h0).symm⟩)};by_cases h1:sg a=-2147483648/\sg b=-1;{exact .inr (.inr ⟨.inr (XI ha hb h1.1 h1.2).symm,rfl,(UT ha hb h1.1 h1.2).symm⟩)};exact .inl ⟨(UG ha hb h0 h1).symm,ha,hb⟩};exact .inl ⟨(iR ha hb (by omega) h4).symm,ha,hb⟩};have:ok a=false\/ok b=false:=by{cases h1:ok a<;>cases h2:ok b<;>simp_all};exact .inr (.inl ⟨(Kq this).symm,(GJ this).symm⟩)
end Wd
def bG (W:World)(b:Nat)(vs:List Value):Prop:=b<W.heap.size/\∀i x,vs[i]?=some x->W.cell? ⟨b,i,none⟩=some x/\W.frozen? ⟨b,i,none⟩=false
theorem bG.dN {W W':World}{b:Nat}{row:Option Nat}{vs:List Value}(h:bG W b vs)(hg:W.grownBy W' row)(hne:row≠some b):bG W' b vs:=by have hb:=hg.block b h.1 (fun e=>hne e.symm);refine⟨ah h.1 hg.size,fun i x hx=>?_⟩;obtain⟨h1,h2⟩:=h.2 i x hx;exact⟨(World.cell?_of_block hb).trans h1,by unfold World.frozen?;rw[hb];exact h2⟩
theorem bG.kept {W W':World}{b:Nat}{vs:List Value}(h:bG W b vs)(hB:Below W.heap.size W W'):bG W' b vs:=h.dN (row:=none) ⟨hB.os,hB.tape,hB.output,hB.size,fun k hk _=>hB.block k hk⟩ (by simp)
theorem bG.new (W:World)(vs:List Value)(t:TypeId):bG (W.alloc (.cells vs.toArray t)) W.heap.size vs:=by refine⟨by simp,fun i x hx=>⟨?_,by simp⟩⟩;rw[World.cell?_alloc_at _ _ _ _ rfl];simpa using hx
theorem bG.set {W:World}{b:Nat}{vs:List Value}(h:bG W b vs)(i:Nat)(x:Value):bG (W.setCell ⟨b,i,none⟩ x) b (vs.set i x):=by refine⟨by simpa[World.setCell]using h.1,fun j y hy=>?_⟩;by_cases e:i=j;{subst e;have hi:i<vs.length:=by{rcases Nat.lt_or_ge i vs.length with h'|h';{exact h'};rw[List.getElem?_eq_none (by simpa using h')]at hy;cases hy};rw[List.getElem?_set_self hi]at hy;cases hy;obtain⟨h1,h2⟩:=h.2 i vs[i] (ag hi);exact⟨World.cell?_setCell_same _ _ _ h1,by simpa using h2⟩};rw[List.getElem?_set_ne e]at hy;obtain⟨h1,h2⟩:=h.2 j y hy;exact⟨(World.cell?_setCell_other _ _ _ _ (fun q=>e (by cases q;rfl))).trans h1,by simpa using h2⟩
theorem z8 {ops:Array Oper}{o:Oper}{a:Act}{K:Act->World->Prop}{Q:Exit->Act->World->Prop}{E:Prop}(w:World)(hgd:o.guard=none)(s x:Operand)(t:TypeId)(ho:o.op= .call {callee:= .builtin .append,args:=#[s,x],argTypes:=#[t,t]})(base:Nat)(e:TypeId)(i:TypeInfo)(z:Value)(size bytes:Nat)(ht:Tryz.prog.underlying t=some (.slice e))(hi:Tryz.prog.info? e=some i)(hz:i.zero=some z)(hsize:i.size=size)(hby:i.bytes=bytes)(hzs:z.cells.size=size)(hsz:0<size)(v:Value)(n:Nat)(xs:List Value)(hs:a.eval s=v)(hown:w.ownsRow base e size v n xs)(ad:Addr)(m c:Nat)(news:List Value)(hx:a.eval x= .slice (some ad) m c)(hl:news.length=m*size)(hnews:∀j u,news[j]?=some u->w.cell? (ad.add j)=some u)(h1:∀u∈news,u.oneCell'=true)(h63:n+m<=maxLen)(hbytes:(n+m)*bytes<=140737488355328)(hbase:base<=w.heap.size)(h:∀v' w',w'.ownsRow base e size v' (n+m) (xs++news)->w.grownBy w' v.ownBlock->(v'= .slice none 0 0↔v= .slice none 0 0/\m=0)->K (a.put o.dst v') w'):if Region.wanted o (yielded ops a.tmps)=true then Oper.wp Tryz.prog o a w K Q else E:=by have hw:Region.wanted o (yielded ops a.tmps)=true:=by{simp[Region.wanted,hgd]};rw[ax hw];exact wp_append_own w s x t ho base e i z size bytes ht hi hz hsize hby hzs hsz v n xs hs hown ad m c news hx hl hnews h1 h63 hbytes hbase h
section
open Go.RowKit
variable {P : Program} {ops : Array Oper} {md : Region.Mode} {C : World → Prop} {n : Nat}
def mM (P:Program)(md:Region.Mode)(ops:Array Oper)(C:World->Prop)(n:Nat)(L:Array Bool->Act->Prop):Nat->Array Bool->Act->Prop
 |0,l,a=>L l a
 |f+1,l,a=>Region.ready md ops l≠[]/\∀i,i∈Region.ready md ops l->i<n/\qOp P ops C i (mM P md ops C n L f (l.setIfInBounds i true)) a
theorem mM.any {L:Array Bool->Act->Prop}{Q:Exit->Act->World->Prop}{g:Nat}(hL:∀l a w,C w->L l a->wpAny P md ops Q g l a w)(f:Nat):∀(l:Array Bool)(a:Act)(w:World),C w->mM P md ops C n L f l a->wpAny P md ops Q (f+g) l a w:=by
 induction f with
 |zero=>intro l a w hw h;rw[Nat.zero_add];exact hL l a w hw h
 |succ f ih=>
  intro l a w hw h
  rw[show f+1+g=(f+g)+1 by omega]
  refine⟨fun e=>absurd e h.1,fun i hi=>?_⟩
  exact wpOp_of_qOp hw (fun a' w' hw' h'=>ih _ a' w' hw' h') (h.2 i hi).2
theorem lQ {l:Array Bool}(hs:Region.sinkB md ops n=true)(hc:Region.chainB md ops n=true)(hn:n<ops.size)(inv:HeadInv md ops n l){i:Nat}(hi:i<n)(hun:l.getD i true=false){j:Nat}(hj:j∈Region.ready md ops l):j<n:=by refine Nat.lt_of_not_le fun h=>?_;exact tail_waits hs hc hn inv (n-i) i rfl hi hun j h hj
theorem mM.first {L:Array Bool->Act->Prop}{i:Nat}{o:Oper}{v:Value}(iw:ops[i]?=some o)(hsel:∀(j:Nat)(o:Oper) cs b,ops[j]?=some o->o.op≠ .select cs b)(hs:Region.sinkB md ops n=true)(hc:Region.chainB md ops n=true)(hn:n<ops.size)(hin:i<n)(hdone:∀l a,L l a->∀j,j∈Region.ready md ops l->n<=j)(f:Nat):∀(l:Array Bool)(a:Act),HeadInv md ops n l->(∀j oj,ops[j]?=some oj->j≠i->l.getD j true=false->(∀e∈oj.after,Region.binds md e=true->e.on≠i)->o.apart ops oj=true)->i∈Region.ready md ops l->YieldsIn P ops C o v a->mM P md ops C n L f (l.setIfInBounds i true) (a.put o.dst v)->mM P md ops C n L (f+1) l a:=by
 induction f with
 |zero=>
  intro l a inv hfree hr hy hH
  refine⟨fun e=>by rw[e]at hr;exact absurd hr List.not_mem_nil,fun j hj=>⟨lQ hs hc hn inv hin (mem_ready.1 hr).1 hj,?_⟩⟩
  rcases Nat.decEq j i with hne|he
  · have h1:=hdone _ _ hH j (ready_mono hj hne);have h2:=lQ hs hc hn inv hin (mem_ready.1 hr).1 hj;omega
  · subst he;exact hy.qOp iw hH
 |succ f ih=>
  intro l a inv hfree hr hy hH
  have hun:=(mem_ready.1 hr).1
  refine⟨fun e=>by rw[e]at hr;exact absurd hr List.not_mem_nil,fun j hj=>⟨lQ hs hc hn inv hin hun hj,?_⟩⟩
  rcases Nat.decEq j i with hne|he
  · obtain⟨hjun,oj,hoj,hall⟩:=mem_ready.1 hj;have hno:∀e∈oj.after,Region.binds md e=true->e.on≠i:=by{intro e he hb heq;have h1:=hall e he hb;rw[heq,getD_both hun]at h1;cases h1};have hstep:=qOp_put hoj (hfree j oj hoj hne hjun hno) (fun cs b=>hsel i o cs b iw) (fun cs b=>hsel j oj cs b hoj) hy (hH.2 j (ready_mono hj hne)).2;refine qOp_mono (fun a' h'=>?_) hstep;refine ih _ a' (inv.set hj (lQ hs hc hn inv hin hun hj)) (fun k ok hk hki afI afJ=>hfree k ok hk hki ?_ afJ) (ready_mono hr (Ne.symm hne)) h'.1 ?_;{by_cases hjk:j=k;{rw[←hjk];exact hjun};rwa [getD_set_ne true hjk]at afI};rw[Array.setIfInBounds_comm _ _ hne];exact h'.2
  · subst he;exact hy.qOp iw hH
theorem mM.lex {g:Nat}{Lq:Act->Prop}(hsel:Region.noSelect ops=true)(hs:Region.sinkB md ops n=true)(hc:Region.chainB md ops n=true)(hn:n<ops.size):
   ∀ (hd:List Oper) (k:Nat) (l:Array Bool) (a:Act),k+hd.length=n->(∀j,j<hd.length->hd[j]?=ops[k+j]?)->HeadInv md ops n l->Region.lexHead md ops g hd.length k l=true->
     wpQuiet P ops C Lq hd a->mM P md ops C n (fun l' a'=>Region.seqB md ops g n l'=true/\Lq a') hd.length l a
 | [],k,l,a,hk,_,_,hB,h=>by
   have e:k=n:=hk
   rw[←e]
   exact⟨hB,h⟩
 | o::hd,k,l,a,hk,hl,inv,hB,h=>by
   rw[List.length_cons]at hk
   have h0:ops[k]?=some o:=(hl 0 (by simp)).symm
   simp only[List.length_cons,Region.lexHead,aj]at hB
   have hr:k∈Region.ready md ops l:=by simpa using hB.1.1
   have hq:qOp P ops C k (wpQuiet P ops C Lq hd) a:=by unfold qOp;simp only[h0];exact h
   obtain⟨v,hy,hrest⟩:=yieldsIn_of_qOp h0 hq
   refine mM.first h0 (Region.noSelect_spec hsel) hs hc hn (by omega) (fun l' a' hL=>seqB_ready hL.1) hd.length l a inv (Region.free_spec h0 hB.1.2) hr hy ?_
   refine mM.lex hsel hs hc hn hd (k+1) _ _ (by omega) (fun j hj=>?_) (inv.set hr (by omega)) hB.2 hrest
   have:=hl (j+1) (by simp;omega)
   rw[show k+1+j=k+(j+1)by omega,←this]
   rfl
theorem aZ {id:Nat}{Q:Exit->Act->World->Prop}{a:Act}{w:World}{l:List Oper}(n:Nat)(hm:P.follows .mixedOrders=true)(hB:Region.lexTailB .any l.toArray n=true)(h:wpQuiet P l.toArray (fun w'=>∃p:dR w,w'=p.to) (fun a'=>∀w',(∃p:dR w,w'=p.to)->wpList P l.toArray Q (l.drop n) a' w') (l.take n) a):(Code.region id l.toArray true).wp P Q a w:=by
 simp only[Region.lexTailB,aj,decide_eq_true_eq]at hB
 obtain⟨⟨⟨⟨hsel,hn⟩,hs⟩,hc⟩,hlex⟩:=hB
 have hnl:n<l.length:=by simpa using hn
 have e1:(l.take n).length=n:=by rw[List.length_take];omega
 have e2:(l.drop n).length=l.toArray.size-n:=by rw[List.length_drop];simp
 have inv:HeadInv .any l.toArray n (Array.replicate l.toArray.size false):=by refine⟨by simp,fun j oj _ hl=>?_,fun t _ ht=>getD_in (by simpa using ht) (getD_replicate_false _ _)⟩;rw[getD_replicate_false]at hl;cases hl
 have H:=mM.lex (md:= .any) (g:=l.toArray.size-n) hsel hs hc hn (l.take n) 0 _ a (by rw[e1];omega) (fun j hj=>by rw[e1]at hj;simp[hj]) inv (by rw[e1];exact hlex) h
 have R:=mM.any (Q:=Q) (g:=l.toArray.size-n) (fun l' a' w' hw' hL=>by
  have:=wpAny_of_seq (md:= .any) (Q':=Q) (l.drop n) n l' a' w' (fun j=>by simp[List.getElem?_drop]) (by rw[e2];exact hL.1) (hL.2 w' hw')
  rwa [e2]at this) (l.take n).length _ a {w with drawn:=w.drawn+1} ⟨⟨w.drew,(Below.refl _ w).drew⟩,rfl⟩ H
 rw[e1,show n+(l.toArray.size-n)=l.toArray.size by omega]at R
 exact wp_region_any hm R
end
section
open Go.RowKit
variable {P : Program} {ops : Array Oper} {md : Region.Mode} {Q : Exit → Act → World → Prop} {n : Nat}
theorem aA {b:Act}{t:Nat}{v:Value}(h:b.eval (.tmp t)=v):b.tmps[t]?.getD undef=v:=by simpa[Act.eval]using h
def tQ (n:Nat)(l:Array Bool):Nat:=((List.range n).filter fun i=> !l.getD i true).length
theorem ig (n:Nat)(l:Array Bool):tQ (n+1) l=tQ n l+(if l.getD n true=false then 1 else 0):=by unfold tQ;rw[List.range_succ,List.filter_append,List.length_append];congr 1;cases h:l.getD n true<;>simp only[List.filter,h]<;>rfl
theorem tN {i:Nat}{l:Array Bool}:∀n,n<=i->tQ n (l.setIfInBounds i true)=tQ n l
 |0,_=>rfl
 |n+1,h=>by rw[ig,ig,tN n (by omega),getD_set_ne true (by omega)]
theorem x8 {i:Nat}{l:Array Bool}(hs:l.getD i true=false):∀n,i<n->tQ n (l.setIfInBounds i true)+1=tQ n l
 |0,h=>by omega
 | n + 1,h=>by
   rw[ig,ig]
   by_cases e:i=n
   · subst e
     rw[tN i (Nat.le_refl _),hs]
     have hi:i<l.size:=by
       rcases Nat.lt_or_ge i l.size with h'|h'
       · exact h'
       · simp[Array.getElem?_eq_none h']at hs
     have e2:(l.setIfInBounds i true).getD i true=true:=by simp[hi]
     rw[e2]
     simp
   · rw[←x8 hs n (by omega),getD_set_ne true e]
     omega
theorem qx {l:Array Bool}(h:tQ n l=0)(i:Nat)(hi:i<n):l.getD i true=true:=by unfold tQ at h;have h2:=List.filter_eq_nil_iff.1 (List.length_eq_zero_iff.1 h) i (List.mem_range.2 hi);simpa using h2
theorem GN {l:Array Bool}(h:tQ n l≠0):∃i,i<n/\l.getD i true=false/\∀j,j<i->l.getD j true=true:=by
 induction n with
 |zero=>exact absurd rfl h
 |succ n ih=>
  by_cases e:tQ n l=0
  · rw[ig,e]at h;refine⟨n,by omega,?_,fun j hj=>qx e j hj⟩;cases h2:l.getD n true;{rfl};rw[h2]at h;simp at h
  · obtain⟨i,h1,h2,h3⟩:=ih e;exact⟨i,by omega,h2,h3⟩
theorem qV (g:Nat)(I:Array Bool->Act->World->Prop)(hs:Region.sinkB md ops n=true)(hc:Region.chainB md ops n=true)(hn:n<ops.size)(hback:∀i o,i<n->ops[i]?=some o->∀e∈o.after,Region.binds md e=true->e.on<i)(hstep:∀l b x i o,HeadInv md ops n l->ops[i]?=some o->i<n->l.getD i true=false->(∀e∈o.after,Region.binds md e=true->l.getD e.on false=true)->I l b x->wpOp P ops Q i (fun b' x'=>I (l.setIfInBounds i true) b' x') b x)(hend:∀l b x,HeadInv md ops n l->(∀i,i<n->l.getD i true=true)->I l b x->wpAny P md ops Q g l b x):∀f l b x,HeadInv md ops n l->tQ n l=f->I l b x->wpAny P md ops Q (f+g) l b x:=by
 intro f
 induction f with
 |zero=>intro l b x inv hu hI;rw[Nat.zero_add];exact hend l b x inv (fun i hi=>qx hu i hi) hI
 |succ f ih=>
  intro l b x inv hu hI
  rw[show f+1+g=(f+g)+1 by omega]
  obtain⟨i,hin,hun,hmin⟩:=GN (l:=l) (n:=n) (by omega)
  refine⟨fun h0=>?_,fun j hj=>?_⟩
  · have ho:∃o,ops[i]?=some o:=⟨ops[i]'(by omega),Array.getElem?_eq_getElem (by omega)⟩
    obtain⟨o,ho⟩:=ho
    have:i∈Region.ready md ops l:=mem_ready.2 ⟨hun,o,ho,fun e he hbi=>by
     have h1:=hback i o hin ho e he hbi
     have h2:=hmin e.on h1
     have h3:e.on<l.size:=by rw[inv.size];omega
     simp[h3]at h2 ⊢
     exact h2⟩
    rw[h0]at this
    cases this
  · have hjn:=lQ hs hc hn inv hin hun hj;obtain⟨hjun,o,ho,hall⟩:=mem_ready.1 hj;refine wpOp_mono (fun b' x' h'=>ih _ b' x' (inv.set hj hjn) ?_ h') (hstep l b x j o inv ho hjn hjun hall hI);have:=x8 hjun n hjn;omega
def wP (l:List Oper)(n:Nat)(ds:List Nat):Bool:=
 decide (ds.length=n)&&ds.Nodup&&(List.range n).all fun i=>match l[i]? with
   |some o=>o.dst==ds[i]?&&o.guard.isNone&&o.after.all fun e=> !Region.binds .any e||decide (e.on<i)
   |none=>false
def mV (size n:Nat):Array Bool:=((List.replicate n true)++List.replicate (size-n) false).toArray
def abE (P:Program)(Q:Exit->Act->World->Prop)(a:Act)(ds:List Nat)(A:World->Prop)(R:World->World->Prop)(F:Nat->Value->World->Prop)(k:Nat)(o:Oper):Prop:=
 ∀ (b:Act) (x:World),A x->(∀t,t∉ds->b.eval (.tmp t)=a.eval (.tmp t))->(∀j,(o.after.any fun e=>Region.binds .any e&&e.on==j)=true->F j (b.eval (.tmp (ds.getD j 0))) x)->
   o.wp P b x (fun b' x'=>∃y,b'=b.put o.dst y/\A x'/\F k y x'/\R x x') Q
def KZ (P:Program)(Q:Exit->Act->World->Prop)(a:Act)(ds:List Nat)(A:World->Prop)(R:World->World->Prop)(F:Nat->Value->World->Prop):Nat->List Oper->Prop
 |_,[]=>True
 |k,o::r=>abE P Q a ds A R F k o/\KZ P Q a ds A R F (k+1) r
theorem KZ.at {a:Act}{ds:List Nat}{A:World->Prop}{R:World->World->Prop}{F:Nat->Value->World->Prop}:∀{r:List Oper}{k:Nat},KZ P Q a ds A R F k r->∀i o,r[i]?=some o->abE P Q a ds A R F (k+i) o
 |[],_,_,i,o,h=>by simp at h
 |q::r,k,h,0,o,e=>by cases e;exact h.1
 | q::r,k,h,i+1,o,e=>by
   have:=KZ.at h.2 i o (by simpa using e)
   rwa [show k+1+i=k+(i+1)by omega]at this
theorem gT (b:Act)(d:Nat)(v:Value)(t:Nat)(hd:d<b.tmps.size):(b.put (some d) v).eval (.tmp t)=if d=t then v else b.eval (.tmp t):=by unfold Act.put Act.eval;by_cases e:d=t;{subst e;simp[hd]};simp[Array.getElem?_setIfInBounds_ne e,e]
theorem kL (f:Nat->Value):∀(ds:List Nat)(a:Act),(ds.foldl (fun a' t=>a'.put (some t) (f t)) a).tmps.size=a.tmps.size/\(ds.foldl (fun a' t=>a'.put (some t) (f t)) a).defers=a.defers/\
   ∀t,(ds.foldl (fun a' t=>a'.put (some t) (f t)) a).tmps[t]?=if t∈ds/\t<a.tmps.size then some (f t)else a.tmps[t]?
 |[],a=>⟨rfl,rfl,fun t=>by simp⟩
 | d ::ds,a=>by
   obtain⟨h1,h2,h3⟩:=kL f ds (a.put (some d) (f d))
   have s1:(a.put (some d) (f d)).tmps.size=a.tmps.size:=by simp[Act.put]
   refine⟨by rw[List.foldl_cons,h1,s1],by rw[List.foldl_cons,h2];rfl,fun t=>?_⟩
   rw[List.foldl_cons,h3 t,s1]
   by_cases e:t∈ds/\t<a.tmps.size
   · rw[ax e,ax ⟨List.mem_cons_of_mem _ e.1,e.2⟩]
   · rw[ak e]
     by_cases e2:t=d
     · subst e2
       by_cases e3:t<a.tmps.size
       · rw[ax ⟨List.mem_cons_self ..,e3⟩]
         simp[Act.put,e3]
       · rw[ak (fun h=>e3 h.2)]
         have h4:a.tmps[t]?=none:=Array.getElem?_eq_none (by omega)
         have h5:(a.put (some t) (f t)).tmps[t]?=none:=Array.getElem?_eq_none (by rw[s1];omega)
         rw[h4,h5]
     · rw[ak (fun h=>by rcases List.mem_cons.1 h.1 with h'|h';exact e2 h';exact e ⟨h',h.2⟩)]
       simp[Act.put,Array.getElem?_setIfInBounds_ne (Ne.symm e2)]
theorem eF {id:Nat}{a:Act}{w:World}{l:List Oper}(n:Nat)(ds:List Nat)(A:World->Prop)(R:World->World->Prop)(F:Nat->Value->World->Prop)(hm:P.follows .mixedOrders=true)(hB:(Region.noSelect l.toArray&&decide (n<l.length)&&Region.sinkB .any l.toArray n&&Region.chainB .any l.toArray n&&wP l n ds&&Region.seqB .any l.toArray (l.length-n) n (mV l.length n))=true)(hsz:∀d∈ds,d<a.tmps.size)(h0:A w.drew)(hR:∀i y x x',R x x'->F i y x->F i y x')(hall:KZ P Q a ds A R F 0 (l.take n))(hend:∀b x,A x->(∀j,j<n->F j (b.eval (.tmp (ds.getD j 0))) x)->b=ds.foldl (fun a' t=>a'.put (some t) (b.eval (.tmp t))) a->wpList P l.toArray Q (l.drop n) b x):(Code.region id l.toArray true).wp P Q a w:=by
 simp only[aj,decide_eq_true_eq]at hB
 obtain⟨⟨⟨⟨⟨hsel,hn⟩,hs⟩,hc⟩,hhd⟩,hseq⟩:=hB
 have hn':n<l.toArray.size:=by simpa using hn
 simp only[wP,aj,decide_eq_true_eq,List.all_eq_true,List.mem_range]at hhd
 obtain⟨⟨hdl,hnd⟩,hops⟩:=hhd
 have hop:∀i o,i<n->l.toArray[i]?=some o->o.dst=some (ds.getD i 0)/\o.guard=none/\(∀e∈o.after,Region.binds .any e=true->e.on<i)/\ds.getD i 0∈ds:=by intro i o hi ho;have h1:=hops i hi;have ho':l[i]?=some o:=by{simpa using ho};rw[ho']at h1;simp only[aj,beq_iff_eq,Option.isNone_iff_eq_none,Array.all_eq_true',decide_eq_true_eq,Bool.or_eq_true,Bool.not_eq_true']at h1;have h2:ds[i]?=some (ds.getD i 0):=by{rw[af,ag (by omega)];rfl};exact⟨by rw[h1.1.1,h2],h1.1.2,fun e he hbi=>(h1.2 e he).elim (fun h=>by rw[hbi]at h;cases h) (fun h=>h),List.mem_of_getElem? h2⟩
 have hinj:∀i j,i<n->j<n->ds.getD i 0=ds.getD j 0->i=j:=by intro i j hi hj e;rw[af,af,ag (by omega),ag (by omega)]at e;have e':ds[i]'(by omega)=ds[j]'(by omega):=e;rcases Nat.lt_trichotomy i j with h|h|h;{exact absurd e' (List.pairwise_iff_getElem.1 hnd i j (by omega) (by omega) h)};{exact h};exact absurd e'.symm (List.pairwise_iff_getElem.1 hnd j i (by omega) (by omega) h)
 let I:Array Bool->Act->World->Prop:=fun q b x=>A x/\b.defers=a.defers/\b.tmps.size=a.tmps.size/\(∀t,t∉ds->b.eval (.tmp t)=a.eval (.tmp t))/\∀j,j<n->q.getD j false=true->F j (b.eval (.tmp (ds.getD j 0))) x
 have inv:HeadInv .any l.toArray n (Array.replicate l.toArray.size false):=by refine⟨by simp,fun j oj _ hl=>?_,fun t _ ht=>getD_in (by simpa using ht) (getD_replicate_false _ _)⟩;rw[getD_replicate_false]at hl;cases hl
 have hu:tQ n (Array.replicate l.toArray.size false)=n:=by
  have:∀m,m<=l.toArray.size->tQ m (Array.replicate l.toArray.size false)=m:=by
   intro m
   induction m with
   |zero=>intro _;rfl
   |succ m ih=>
    intro hm
    rw[ig,ih (by omega)]
    have:(Array.replicate l.toArray.size false).getD m true=false:=getD_in (by simp at hm ⊢;omega) (getD_replicate_false _ _)
    rw[ax this]
  exact this n (by omega)
 have H := qV (P:=P) (Q:=Q) (md:= .any) (l.toArray.size-n) I hs hc hn' (fun i o hi ho=>(hop i o hi ho).2.2.1)
   (fun q b x i o hq ho hi hun hafter hI=>by
     obtain⟨hA,hdf,hsize,hfr,hF⟩:=hI
     obtain⟨hd,hg,hb,hmem⟩:=hop i o hi ho
     have AR:=hall.at i o (by rw[List.getElem?_take_of_lt hi];simpa using ho)
     rw[Nat.zero_add]at AR
     have hwp:=AR b x hA hfr (fun j hj=>by
       obtain⟨e,he,hbe⟩:=Array.any_eq_true'.1 hj
       simp only[aj,beq_iff_eq]at hbe
       have h1:=hafter e he hbe.1
       have h2:=hb e he hbe.1
       rw[hbe.2]at h1 h2
       exact hF j (by omega) h1)
     unfold wpOp
     simp only[ho]
     have hw:Region.wanted o (yielded l.toArray b.tmps)=true:=by simp[Region.wanted,hg]
     rw[ax hw]
     refine .inl (Oper.wp_mono (fun b' x' h'=>?_) hwp)
     obtain⟨y,rfl,hA',hF',Gb⟩:=h'
     have hds:ds.getD i 0<b.tmps.size:=by rw[hsize];exact hsz _ hmem
     rw[hd]
     refine⟨hA',hdf,by simpa[Act.put]using hsize,fun t ht=>?_,fun j hj hq'=>?_⟩
     · rw[gT _ _ _ _ hds,ak (fun e=>ht (by rw[←e];exact hmem))]
       exact hfr t ht
     · rw[gT _ _ _ _ hds]
       by_cases e:i=j
       · subst e
         rw[ax rfl]
         exact hF'
       · rw[ak (fun e2=>e (hinj i j hi hj e2))]
         rw[getD_set_ne false e]at hq'
         exact hR j _ x x' Gb (hF j hj hq'))
   (fun q b x hq kW hI=>by
     obtain⟨hA,hdf,hsize,hfr,hF⟩:=hI
     have hqf:q=mV l.length n:=by
       apply Array.ext
       · rw[hq.size];simp[mV];omega
       · intro i h1 h2
         have e1:q.getD i true=q[i]:=by simp[h1]
         have e2:q.getD i false=q[i]:=by simp[h1]
         by_cases e:i<n
         · have:=kW i e
           rw[e1]at this
           rw[this]
           simp only[mV,List.getElem_toArray]
           rw[List.getElem_append_left (by simpa using e)]
           simp
         · have h3:i<l.toArray.size:=by rw[←hq.size];exact h1
           have:=hq.tail i (by omega) h3
           rw[e1]at this
           rw[this]
           simp only[mV,List.getElem_toArray]
           rw[List.getElem_append_right (by simpa using e)]
           simp
     have hF2:∀j,j<n->F j (b.eval (.tmp (ds.getD j 0))) x:=fun j hj=>hF j hj (by
       have:=kW j hj
       have h1:j<q.size:=by rw[hq.size];omega
       simp[h1]at this ⊢
       exact this)
     have hbf:b=ds.foldl (fun a' t=>a'.put (some t) (b.eval (.tmp t))) a:=by
       obtain⟨s1,s2,s3⟩:=kL (fun t=>b.eval (.tmp t)) ds a
       have ht:b.tmps=(ds.foldl (fun a' t=>a'.put (some t) (b.eval (.tmp t))) a).tmps:=by
         apply Array.ext_getElem?
         intro t
         rw[s3 t]
         by_cases e:t<a.tmps.size
         · have eb:b.tmps[t]?=some (b.eval (.tmp t)):=by
             have h1:t<b.tmps.size:=by omega
             simp[Act.eval,h1]
           by_cases e2:t∈ds
           · rw[ax ⟨e2,e⟩,eb]
           · rw[ak (fun h=>e2 h.1),eb,hfr t e2]
             simp[Act.eval,e]
         · rw[ak (fun h=>e h.2),Array.getElem?_eq_none (by omega),Array.getElem?_eq_none (by omega)]
       have e3:∀c d:Act,c.tmps=d.tmps->c.defers=d.defers->c=d:=by
         rintro⟨c1,c2⟩ ⟨d1,d2⟩ h1 h2
         simp only at h1 h2
         rw[h1,h2]
       exact e3 _ _ ht (hdf.trans s2.symm)
     have:=hend b x hA hF2 hbf
     rw[hqf]
     have e2:(l.drop n).length=l.toArray.size-n:=by rw[List.length_drop];simp
     have R2:=wpAny_of_seq (md:= .any) (Q':=Q) (l.drop n) n (mV l.length n) b x (fun j=>by simp[List.getElem?_drop]) (by rw[e2];simpa using hseq) this
     rwa [e2]at R2)
   n _ a w.drew inv hu ⟨h0,rfl,rfl,fun t _=>rfl,fun j hj h=>by rw[getD_replicate_false]at h;cases h⟩
 rw[show n+(l.toArray.size-n)=l.toArray.size by omega]at H
 exact wp_region_any hm H
end
section
open Go.RowKit
variable {P : Program} {ops : Array Oper} {md : Region.Mode} {Q : Exit → Act → World → Prop} {n : Nat}
def L9 (P:Program)(Q:Exit->Act->World->Prop)(a:Act)(ds:List Nat)(m:Nat)(A:Bool->World->Prop)(F:Nat->Value->World->Prop)(k:Nat)(o:Oper):Prop:=
 ∀ (t:Bool) (b:Act) (x:World),A t x->(k=m->t=false)->((o.after.any fun e=>Region.binds .any e&&e.on==m)=true->t=true)->(∀t,t∉ds->b.eval (.tmp t)=a.eval (.tmp t))->b.defers=a.defers->(∀j,(o.after.any fun e=>Region.binds .any e&&e.on==j)=true->F j (b.eval (.tmp (ds.getD j 0))) x)->
   o.wp P b x (fun b' x'=>∃y,b'=b.put o.dst y/\A (t||decide (k=m)) x'/\F k y x'/\∀i z,F i z x->F i z x') Q
def nN (P:Program)(Q:Exit->Act->World->Prop)(a:Act)(ds:List Nat)(m:Nat)(A:Bool->World->Prop)(F:Nat->Value->World->Prop):Nat->List Oper->Prop
 |_,[]=>True
 |k,o::r=>L9 P Q a ds m A F k o/\nN P Q a ds m A F (k+1) r
theorem nN.at {a:Act}{ds:List Nat}{m:Nat}{A:Bool->World->Prop}{F:Nat->Value->World->Prop}:∀{r:List Oper}{k:Nat},nN P Q a ds m A F k r->∀i o,r[i]?=some o->L9 P Q a ds m A F (k+i) o
 |[],_,_,i,o,h=>by simp at h
 |q::r,k,h,0,o,e=>by cases e;exact h.1
 | q::r,k,h,i+1,o,e=>by
   have:=nN.at h.2 i o (by simpa using e)
   rwa [show k+1+i=k+(i+1)by omega]at this
theorem bC {id:Nat}{a:Act}{w:World}{l:List Oper}(n:Nat)(ds:List Nat)(m:Nat)(A:Bool->World->Prop)(F:Nat->Value->World->Prop)(hm:P.follows .mixedOrders=true)(hB:(Region.noSelect l.toArray&&decide (n<l.length)&&Region.sinkB .any l.toArray n&&Region.chainB .any l.toArray n&&wP l n ds&&Region.seqB .any l.toArray (l.length-n) n (mV l.length n))=true)(hsz:∀d∈ds,d<a.tmps.size)(h0:A false w.drew)(hall:nN P Q a ds m A F 0 (l.take n))(hend:∀b x,A (decide (m<n)) x->(∀j,j<n->F j (b.eval (.tmp (ds.getD j 0))) x)->b=ds.foldl (fun a' t=>a'.put (some t) (b.eval (.tmp t))) a->wpList P l.toArray Q (l.drop n) b x):(Code.region id l.toArray true).wp P Q a w:=by
 simp only[aj,decide_eq_true_eq]at hB
 obtain⟨⟨⟨⟨⟨hsel,hn⟩,hs⟩,hc⟩,hhd⟩,hseq⟩:=hB
 have hn':n<l.toArray.size:=by simpa using hn
 simp only[wP,aj,decide_eq_true_eq,List.all_eq_true,List.mem_range]at hhd
 obtain⟨⟨hdl,hnd⟩,hops⟩:=hhd
 have hop:∀i o,i<n->l.toArray[i]?=some o->o.dst=some (ds.getD i 0)/\o.guard=none/\(∀e∈o.after,Region.binds .any e=true->e.on<i)/\ds.getD i 0∈ds:=by intro i o hi ho;have h1:=hops i hi;have ho':l[i]?=some o:=by{simpa using ho};rw[ho']at h1;simp only[aj,beq_iff_eq,Option.isNone_iff_eq_none,Array.all_eq_true',decide_eq_true_eq,Bool.or_eq_true,Bool.not_eq_true']at h1;have h2:ds[i]?=some (ds.getD i 0):=by{rw[af,ag (by omega)];rfl};exact⟨by rw[h1.1.1,h2],h1.1.2,fun e he hbi=>(h1.2 e he).elim (fun h=>by rw[hbi]at h;cases h) (fun h=>h),List.mem_of_getElem? h2⟩
 have hinj:∀i j,i<n->j<n->ds.getD i 0=ds.getD j 0->i=j:=by intro i j hi hj e;rw[af,af,ag (by omega),ag (by omega)]at e;have e':ds[i]'(by omega)=ds[j]'(by omega):=e;rcases Nat.lt_trichotomy i j with h|h|h;{exact absurd e' (List.pairwise_iff_getElem.1 hnd i j (by omega) (by omega) h)};{exact h};exact absurd e'.symm (List.pairwise_iff_getElem.1 hnd j i (by omega) (by omega) h)
 let I:Array Bool->Act->World->Prop:=fun q b x=>A (q.getD m false&&decide (m<n)) x/\b.defers=a.defers/\b.tmps.size=a.tmps.size/\(∀t,t∉ds->b.eval (.tmp t)=a.eval (.tmp t))/\∀j,j<n->q.getD j false=true->F j (b.eval (.tmp (ds.getD j 0))) x
 have inv:HeadInv .any l.toArray n (Array.replicate l.toArray.size false):=by refine⟨by simp,fun j oj _ hl=>?_,fun t _ ht=>getD_in (by simpa using ht) (getD_replicate_false _ _)⟩;rw[getD_replicate_false]at hl;cases hl
 have hu:tQ n (Array.replicate l.toArray.size false)=n:=by
  have:∀m,m<=l.toArray.size->tQ m (Array.replicate l.toArray.size false)=m:=by
   intro m
   induction m with
   |zero=>intro _;rfl
   |succ m ih=>
    intro hm
    rw[ig,ih (by omega)]
    have:(Array.replicate l.toArray.size false).getD m true=false:=getD_in (by simp at hm ⊢;omega) (getD_replicate_false _ _)
    rw[ax this]
  exact this n (by omega)
 have H := qV (P:=P) (Q:=Q) (md:= .any) (l.toArray.size-n) I hs hc hn' (fun i o hi ho=>(hop i o hi ho).2.2.1)
   (fun q b x i o hq ho hi hun hafter hI=>by
     obtain⟨hA,hdf,hsize,hfr,hF⟩:=hI
     obtain⟨hd,hg,hb,hmem⟩:=hop i o hi ho
     have AR:=hall.at i o (by rw[List.getElem?_take_of_lt hi];simpa using ho)
     rw[Nat.zero_add]at AR
     have hwp:=AR (q.getD m false&&decide (m<n)) b x hA (fun e=>by
       subst e
       have h3:i<q.size:=by rw[hq.size];omega
       simp[h3]at hun ⊢
       intro h4
       rw[hun]at h4
       cases h4) (fun hj=>by
       obtain⟨e,he,hbe⟩:=Array.any_eq_true'.1 hj
       simp only[aj,beq_iff_eq]at hbe
       have h1:=hafter e he hbe.1
       have h2:=hb e he hbe.1
       rw[hbe.2]at h1 h2
       rw[h1]
       simpa using(show m<n by omega)) hfr hdf (fun j hj=>by
       obtain⟨e,he,hbe⟩:=Array.any_eq_true'.1 hj
       simp only[aj,beq_iff_eq]at hbe
       have h1:=hafter e he hbe.1
       have h2:=hb e he hbe.1
       rw[hbe.2]at h1 h2
       exact hF j (by omega) h1)
     unfold wpOp
     simp only[ho]
     have hw:Region.wanted o (yielded l.toArray b.tmps)=true:=by simp[Region.wanted,hg]
     rw[ax hw]
     refine .inl (Oper.wp_mono (fun b' x' h'=>?_) hwp)
     obtain⟨y,rfl,hA',hF',Gb⟩:=h'
     have hA2:A ((q.setIfInBounds i true).getD m false&&decide (m<n)) x':=by
       by_cases e:i=m
       · subst e
         have h3:i<q.size:=by rw[hq.size];omega
         have h4:(q.setIfInBounds i true).getD i false=true:=by simp[h3]
         rw[h4]
         simpa[hi]using hA'
       · rw[getD_set_ne false e]
         simpa[e]using hA'
     have hds:ds.getD i 0<b.tmps.size:=by rw[hsize];exact hsz _ hmem
     rw[hd]
     refine⟨hA2,hdf,by simpa[Act.put]using hsize,fun t ht=>?_,fun j hj hq'=>?_⟩
     · rw[gT _ _ _ _ hds,ak (fun e=>ht (by rw[←e];exact hmem))]
       exact hfr t ht
     · rw[gT _ _ _ _ hds]
       by_cases e:i=j
       · subst e
         rw[ax rfl]
         exact hF'
       · rw[ak (fun e2=>e (hinj i j hi hj e2))]
         rw[getD_set_ne false e]at hq'
         exact Gb j _ (hF j hj hq'))
   (fun q b x hq kW hI=>by
     obtain⟨hA,hdf,hsize,hfr,hF⟩:=hI
     have hqf:q=mV l.length n:=by
       apply Array.ext
       · rw[hq.size];simp[mV];omega
       · intro i h1 h2
         have e1:q.getD i true=q[i]:=by simp[h1]
         have e2:q.getD i false=q[i]:=by simp[h1]
         by_cases e:i<n
         · have:=kW i e
           rw[e1]at this
           rw[this]
           simp only[mV,List.getElem_toArray]
           rw[List.getElem_append_left (by simpa using e)]
           simp
         · have h3:i<l.toArray.size:=by rw[←hq.size];exact h1
           have:=hq.tail i (by omega) h3
           rw[e1]at this
           rw[this]
           simp only[mV,List.getElem_toArray]
           rw[List.getElem_append_right (by simpa using e)]
           simp
     have hF2:∀j,j<n->F j (b.eval (.tmp (ds.getD j 0))) x:=fun j hj=>hF j hj (by
       have:=kW j hj
       have h1:j<q.size:=by rw[hq.size];omega
       simp[h1]at this ⊢
       exact this)
     have hbf:b=ds.foldl (fun a' t=>a'.put (some t) (b.eval (.tmp t))) a:=by
       obtain⟨s1,s2,s3⟩:=kL (fun t=>b.eval (.tmp t)) ds a
       have ht:b.tmps=(ds.foldl (fun a' t=>a'.put (some t) (b.eval (.tmp t))) a).tmps:=by
         apply Array.ext_getElem?
         intro t
         rw[s3 t]
         by_cases e:t<a.tmps.size
         · have eb:b.tmps[t]?=some (b.eval (.tmp t)):=by
             have h1:t<b.tmps.size:=by omega
             simp[Act.eval,h1]
           by_cases e2:t∈ds
           · rw[ax ⟨e2,e⟩,eb]
           · rw[ak (fun h=>e2 h.1),eb,hfr t e2]
             simp[Act.eval,e]
         · rw[ak (fun h=>e h.2),Array.getElem?_eq_none (by omega),Array.getElem?_eq_none (by omega)]
       have e3:∀c d:Act,c.tmps=d.tmps->c.defers=d.defers->c=d:=by
         rintro⟨c1,c2⟩ ⟨d1,d2⟩ h1 h2
         simp only at h1 h2
         rw[h1,h2]
       exact e3 _ _ ht (hdf.trans s2.symm)
     have hA3:A (decide (m<n)) x:=by
       by_cases e:m<n
       · have h1:=kW m e
         have h2:m<q.size:=by rw[hq.size];omega
         have h3:q.getD m false=true:=by simp[h2]at h1 ⊢;exact h1
         rw[h3,Bool.true_and]at hA
         exact hA
       · simp[e]at hA ⊢
         exact hA
     have:=hend b x hA3 hF2 hbf
     rw[hqf]
     have e2:(l.drop n).length=l.toArray.size-n:=by rw[List.length_drop];simp
     have R2:=wpAny_of_seq (md:= .any) (Q':=Q) (l.drop n) n (mV l.length n) b x (fun j=>by simp[List.getElem?_drop]) (by rw[e2];simpa using hseq) this
     rwa [e2]at R2)
   n _ a w.drew inv hu ⟨by rw[getD_replicate_false,Bool.false_and];exact h0,rfl,rfl,fun t _=>rfl,fun j hj h=>by rw[getD_replicate_false]at h;cases h⟩
 rw[show n+(l.toArray.size-n)=l.toArray.size by omega]at H
 exact wp_region_any hm H
end
section
section
variable {P : Program} (w : World)
theorem oQ (d:Nat)(t:TypeId){x y z}(f:Go.Fn)(c1:Array Value)(c2:Array Value)(h:P.underlying t=some (.func x y z)):(Op.equalIn (d+1) t (.func f c1 c2) .nilFunc).run P w= .ok false w:=by simp[Op.equalIn,run_underlying h]
theorem lN (t:TypeId){x y z}(f:Go.Fn)(c1:Array Value)(c2:Array Value)(h:P.underlying t=some (.func x y z)):(Op.equal t (.func f c1 c2) .nilFunc).run P w= .ok false w:=oQ w 9999 t f c1 c2 h
theorem sZ (t:TypeId){x y z}(f:Go.Fn)(c1:Array Value)(c2:Array Value)(h:P.underlying t=some (.func x y z)):(binOp .neq t (.func f c1 c2) .nilFunc).run P w= .ok (.bool true) w:=by simp only[binOp];simp[lN w t f c1 c2 h]
theorem tu (t:TypeId){x y z}(f:Go.Fn)(c1:Array Value)(c2:Array Value)(h:P.underlying t=some (.func x y z)):(binOp .eql t (.func f c1 c2) .nilFunc).run P w= .ok (.bool false) w:=by simp only[binOp];simp[lN w t f c1 c2 h]
theorem run_equalIn_nil_nil (d:Nat)(t:TypeId){x y z}(h:P.underlying t=some (.func x y z)):(Op.equalIn (d+1) t .nilFunc .nilFunc).run P w= .ok true w:=by simp[Op.equalIn,run_underlying h]
theorem run_equal_nil_nil (t:TypeId){x y z}(h:P.underlying t=some (.func x y z)):(Op.equal t .nilFunc .nilFunc).run P w= .ok true w:=run_equalIn_nil_nil w 9999 t h
theorem run_neq_nil_nil (t:TypeId){x y z}(h:P.underlying t=some (.func x y z)):(binOp .neq t .nilFunc .nilFunc).run P w= .ok (.bool false) w:=by simp only[binOp];simp[run_equal_nil_nil w t h]
theorem run_eql_nil_nil (t:TypeId){x y z}(h:P.underlying t=some (.func x y z)):(binOp .eql t .nilFunc .nilFunc).run P w= .ok (.bool true) w:=by simp only[binOp];simp[run_equal_nil_nil w t h]
end
theorem Fa (w:World)(f:Go.Fn)(c1 c2:Array Value):(binOp .neq 236 (.func f c1 c2) .nilFunc).run Tryz.prog w= .ok (.bool true) w:=sZ w _ f c1 c2 Tryz.underlying236
theorem xL (w:World):(binOp .neq 236 .nilFunc .nilFunc).run Tryz.prog w= .ok (.bool false) w:=run_neq_nil_nil w _ Tryz.underlying236
theorem ES (w:World)(f:Go.Fn)(c1 c2:Array Value):(binOp .eql 238 (.func f c1 c2) .nilFunc).run Tryz.prog w= .ok (.bool false) w:=tu w _ f c1 c2 Tryz.underlying238
theorem xR (w:World):(binOp .eql 238 .nilFunc .nilFunc).run Tryz.prog w= .ok (.bool true) w:=run_eql_nil_nil w _ Tryz.underlying238
attribute [local go_sem] Fa xL ES xR
theorem bP (a:Int)(w:World)(ha:Wd.ok a=true):Calls Tryz.prog 170 #[.int .u32 a] w fun e w'=>e= .returned (.int .i64 (Wd.sg a))/\w'=w:=by go_enter Tryz.func170,Tryz.ntmps170;go_wp2;go_ret;exact⟨xH (Wd.MO ha),rfl⟩
end
section
open Go.RowKit
namespace Wd
theorem dw5 {a b:Int}(ha:ok a=true)(hb:ok b=true):bits .and .u32 a b=dv 5 a b:=by rw[←dv5 ha hb];obtain⟨n,rfl,hn⟩:=jU ha;obtain⟨m,rfl,hm⟩:=jU hb;rw[(bits_nat .u32 32 (by decide) sO n m hn hm).1,KW hn hm]
theorem dw6 {a b:Int}(ha:ok a=true)(hb:ok b=true):bits .or .u32 a b=dv 6 a b:=by rw[←dv6 ha hb];obtain⟨n,rfl,hn⟩:=jU ha;obtain⟨m,rfl,hm⟩:=jU hb;rw[(bits_nat .u32 32 (by decide) sO n m hn hm).2,VL hn hm]
theorem dw7 {a b:Int}(ha:ok a=true)(hb:ok b=true):bits .xor .u32 a b=dv 7 a b:=by rw[←dv7 ha hb];obtain⟨n,rfl,hn⟩:=jU ha;obtain⟨m,rfl,hm⟩:=jU hb;rw[zx .u32 32 (by decide) sO n m hn hm,Mi hn hm]
theorem dw9 {a b:Int}(ha:ok a=true)(hb:ok b=true):a / 2 ^ (b%32).toNat=dv 9 a b:=dv9 ha hb
end Wd
theorem dA {a b c d:Int}(h:a=b)(h':c=d):Ending.returned (.tuple #[.int .u32 a, .int .i64 c])= .returned (.tuple #[.int .u32 b, .int .i64 d]):=by rw[h,h']
attribute [local go_sem] Fa xL ES xR
theorem Au (a b:Int)(w:World)(ha:Wd.ok a=true)(hb:Wd.ok b=true):Calls Tryz.prog 135 #[.int .u32 a, .int .i64 1, .int .u32 b] w fun e w'=>e= .returned (.tuple #[.int .u32 (Wd.dv 1 a b), .int .i64 (Wd.dc 1 a b)])/\∃q,w'=w.drewN q:=by obtain⟨h3,h4⟩:=Wd.aP.1 ha;obtain⟨h5,h6⟩:=Wd.aP.1 hb;go_enter Tryz.func135,Tryz.ntmps135;go_wp2_with(first|(go_at_call 101;refine(bi _ _).mono ?_;rintro e w' ⟨rfl,rfl⟩)|(go_at_call 170;refine(bP _ _ ‹_›).mono ?_;rintro e w' ⟨rfl,rfl⟩)|go_in);all_goals(go_ret2;exact⟨dA (Wd.dv1 ha hb) (Wd.iR ha hb (by omega) (by omega)),0,rfl⟩)
theorem Ak (a b:Int)(w:World)(ha:Wd.ok a=true)(hb:Wd.ok b=true):Calls Tryz.prog 135 #[.int .u32 a, .int .i64 2, .int .u32 b] w fun e w'=>e= .returned (.tuple #[.int .u32 (Wd.dv 2 a b), .int .i64 (Wd.dc 2 a b)])/\∃q,w'=w.drewN q:=by obtain⟨h3,h4⟩:=Wd.aP.1 ha;obtain⟨h5,h6⟩:=Wd.aP.1 hb;go_enter Tryz.func135,Tryz.ntmps135;go_wp2_with(first|(go_at_call 101;refine(bi _ _).mono ?_;rintro e w' ⟨rfl,rfl⟩)|(go_at_call 170;refine(bP _ _ ‹_›).mono ?_;rintro e w' ⟨rfl,rfl⟩)|go_in);all_goals(go_ret2;exact⟨dA (Wd.dv2 ha hb) (Wd.iR ha hb (by omega) (by omega)),0,rfl⟩)
theorem Ar (a b:Int)(w:World)(ha:Wd.ok a=true)(hb:Wd.ok b=true):Calls Tryz.prog 135 #[.int .u32 a, .int .i64 3, .int .u32 b] w fun e w'=>e= .returned (.tuple #[.int .u32 (Wd.dv 3 a b), .int .i64 (Wd.dc 3 a b)])/\∃q,w'=w.drewN q:=by obtain⟨h3,h4⟩:=Wd.aP.1 ha;obtain⟨h5,h6⟩:=Wd.aP.1 hb;go_enter Tryz.func135,Tryz.ntmps135;go_wp2_with(first|(go_at_call 101;refine(bi _ _).mono ?_;rintro e w' ⟨rfl,rfl⟩)|(go_at_call 170;refine(bP _ _ ‹_›).mono ?_;rintro e w' ⟨rfl,rfl⟩)|go_in);all_goals(go_ret2;exact⟨dA (Wd.afd ha hb) (Wd.iR ha hb (by omega) (by omega)),0,rfl⟩)
theorem zV (a b:Int)(w:World)(ha:Wd.ok a=true)(hb:Wd.ok b=true):Calls Tryz.prog 135 #[.int .u32 a, .int .i64 5, .int .u32 b] w fun e w'=>e= .returned (.tuple #[.int .u32 (Wd.dv 5 a b), .int .i64 (Wd.dc 5 a b)])/\∃q,w'=w.drewN q:=by obtain⟨h3,h4⟩:=Wd.aP.1 ha;obtain⟨h5,h6⟩:=Wd.aP.1 hb;go_enter Tryz.func135,Tryz.ntmps135;go_wp2_with(first|(go_at_call 101;refine(bi _ _).mono ?_;rintro e w' ⟨rfl,rfl⟩)|(go_at_call 170;refine(bP _ _ ‹_›).mono ?_;rintro e w' ⟨rfl,rfl⟩)|go_in);all_goals(go_ret2;exact⟨dA (Wd.dw5 ha hb) (Wd.iR ha hb (by omega) (by omega)),0,rfl⟩)
theorem zh (a b:Int)(w:World)(ha:Wd.ok a=true)(hb:Wd.ok b=true):Calls Tryz.prog 135 #[.int .u32 a, .int .i64 6, .int .u32 b] w fun e w'=>e= .returned (.tuple #[.int .u32 (Wd.dv 6 a b), .int .i64 (Wd.dc 6 a b)])/\∃q,w'=w.drewN q:=by obtain⟨h3,h4⟩:=Wd.aP.1 ha;obtain⟨h5,h6⟩:=Wd.aP.1 hb;go_enter Tryz.func135,Tryz.ntmps135;go_wp2_with(first|(go_at_call 101;refine(bi _ _).mono ?_;rintro e w' ⟨rfl,rfl⟩)|(go_at_call 170;refine(bP _ _ ‹_›).mono ?_;rintro e w' ⟨rfl,rfl⟩)|go_in);all_goals(go_ret2;exact⟨dA (Wd.dw6 ha hb) (Wd.iR ha hb (by omega) (by omega)),0,rfl⟩)
theorem Az (a b:Int)(w:World)(ha:Wd.ok a=true)(hb:Wd.ok b=true):Calls Tryz.prog 135 #[.int .u32 a, .int .i64 7, .int .u32 b] w fun e w'=>e= .returned (.tuple #[.int .u32 (Wd.dv 7 a b), .int .i64 (Wd.dc 7 a b)])/\∃q,w'=w.drewN q:=by obtain⟨h3,h4⟩:=Wd.aP.1 ha;obtain⟨h5,h6⟩:=Wd.aP.1 hb;go_enter Tryz.func135,Tryz.ntmps135;go_wp2_with(first|(go_at_call 101;refine(bi _ _).mono ?_;rintro e w' ⟨rfl,rfl⟩)|(go_at_call 170;refine(bP _ _ ‹_›).mono ?_;rintro e w' ⟨rfl,rfl⟩)|go_in);all_goals(go_ret2;exact⟨dA (Wd.dw7 ha hb) (Wd.iR ha hb (by omega) (by omega)),0,rfl⟩)
theorem zO (a b:Int)(w:World)(ha:Wd.ok a=true)(hb:Wd.ok b=true):Calls Tryz.prog 135 #[.int .u32 a, .int .i64 8, .int .u32 b] w fun e w'=>e= .returned (.tuple #[.int .u32 (Wd.dv 8 a b), .int .i64 (Wd.dc 8 a b)])/\∃q,w'=w.drewN q:=by obtain⟨h3,h4⟩:=Wd.aP.1 ha;obtain⟨h5,h6⟩:=Wd.aP.1 hb;go_enter Tryz.func135,Tryz.ntmps135;go_wp2_with(first|(go_at_call 101;refine(bi _ _).mono ?_;rintro e w' ⟨rfl,rfl⟩)|(go_at_call 170;refine(bP _ _ ‹_›).mono ?_;rintro e w' ⟨rfl,rfl⟩)|go_in);all_goals(go_ret2;exact⟨dA (Wd.afj ha hb) (Wd.iR ha hb (by omega) (by omega)),0,rfl⟩)
theorem zA (a b:Int)(w:World)(ha:Wd.ok a=true)(hb:Wd.ok b=true):Calls Tryz.prog 135 #[.int .u32 a, .int .i64 9, .int .u32 b] w fun e w'=>e= .returned (.tuple #[.int .u32 (Wd.dv 9 a b), .int .i64 (Wd.dc 9 a b)])/\∃q,w'=w.drewN q:=by obtain⟨h3,h4⟩:=Wd.aP.1 ha;obtain⟨h5,h6⟩:=Wd.aP.1 hb;go_enter Tryz.func135,Tryz.ntmps135;go_wp2_with(first|(go_at_call 101;refine(bi _ _).mono ?_;rintro e w' ⟨rfl,rfl⟩)|(go_at_call 170;refine(bP _ _ ‹_›).mono ?_;rintro e w' ⟨rfl,rfl⟩)|go_in);all_goals(go_ret2;exact⟨dA (Wd.dw9 ha hb) (Wd.iR ha hb (by omega) (by omega)),0,rfl⟩)
theorem x9 (a b:Int)(w:World)(ha:Wd.ok a=true)(hb:Wd.ok b=true)(h:(b==0)=true):Calls Tryz.prog 135 #[.int .u32 a, .int .i64 4, .int .u32 b] w fun e w'=>e= .returned (.tuple #[.int .u32 (Wd.dv 4 a b), .int .i64 (Wd.dc 4 a b)])/\∃q,w'=w.drewN q:=by obtain⟨h3,h4⟩:=Wd.aP.1 ha;obtain⟨h5,h6⟩:=Wd.aP.1 hb;go_enter Tryz.func135,Tryz.ntmps135;go_wp2_with(first|(go_at_call 101;refine(bi _ _).mono ?_;rintro e w' ⟨rfl,rfl⟩)|(go_at_call 170;refine(bP _ _ ‹_›).mono ?_;rintro e w' ⟨rfl,rfl⟩)|go_in);all_goals(go_ret2;exact⟨dA (Wd.UW ha hb ((Wd.xM hb).2 (by simpa using h))) (Wd.XE ha hb ((Wd.xM hb).2 (by simpa using h))),0,rfl⟩)
theorem xJ (a b:Int)(w:World)(ha:Wd.ok a=true)(hb:Wd.ok b=true)(h:Wd.sg a=-2147483648)(h':Wd.sg b=-1):Calls Tryz.prog 135 #[.int .u32 a, .int .i64 4, .int .u32 b] w fun e w'=>e= .returned (.tuple #[.int .u32 (Wd.dv 4 a b), .int .i64 (Wd.dc 4 a b)])/\∃q,w'=w.drewN q:=by obtain⟨h3,h4⟩:=Wd.aP.1 ha;obtain⟨h5,h6⟩:=Wd.aP.1 hb;have h7:¬b=0:=by{rintro rfl;simp[Wd.sg]at h'};go_enter Tryz.func135,Tryz.ntmps135;go_wp2_with(first|(go_at_call 101;refine(bi _ _).mono ?_;rintro e w' ⟨rfl,rfl⟩)|(go_at_call 170;refine(bP _ _ ‹_›).mono ?_;rintro e w' ⟨rfl,rfl⟩)|go_in);all_goals(go_ret2;exact⟨dA (Wd.UT ha hb h h') (Wd.XI ha hb h h'),0,rfl⟩)
theorem yB (a b:Int)(w:World)(ha:Wd.ok a=true)(hb:Wd.ok b=true)(h0:¬b=0)(h:¬(Wd.sg a=-2147483648/\Wd.sg b=-1)):Calls Tryz.prog 135 #[.int .u32 a, .int .i64 4, .int .u32 b] w fun e w'=>e= .returned (.tuple #[.int .u32 (Wd.dv 4 a b), .int .i64 (Wd.dc 4 a b)])/\∃q,w'=w.drewN q:=by obtain⟨h3,h4⟩:=Wd.aP.1 ha;obtain⟨h5,h6⟩:=Wd.aP.1 hb;have H0:¬Wd.sg b=0:=fun e=>h0 ((Wd.xM hb).1 e);have H:RowKit.Hid (¬(Wd.sg a=-2147483648/\Wd.sg b=-1)):=h;have s1:=Wd.VP a;obtain⟨h8,h9⟩:=Wd.UC s1.1 s1.2 H0 h;clear s1 h;go_enter Tryz.func135,Tryz.ntmps135;go_wp2_with(first|(go_at_call 101;refine(bi _ _).mono ?_;rintro e w' ⟨rfl,rfl⟩)|(go_at_call 170;refine(bP _ _ ‹_›).mono ?_;rintro e w' ⟨rfl,rfl⟩)|go_in);all_goals(go_ret2;exact⟨dA (Wd.afz ha hb H0 H.out) (Wd.UG ha hb H0 H.out),0,rfl⟩)
theorem vF (a b:Int)(w:World)(ha:Wd.ok a=true)(hb:Wd.ok b=true)(h:(a==b)=true):Calls Tryz.prog 135 #[.int .u32 a, .int .i64 10, .int .u32 b] w fun e w'=>e= .returned (.tuple #[.int .u32 (Wd.dv 10 a b), .int .i64 (Wd.dc 10 a b)])/\∃q,w'=w.drewN q:=by obtain⟨h3,h4⟩:=Wd.aP.1 ha;obtain⟨h5,h6⟩:=Wd.aP.1 hb;go_enter Tryz.func135,Tryz.ntmps135;go_wp2_with(first|(go_at_call 101;refine(bi _ _).mono ?_;rintro e w' ⟨rfl,rfl⟩)|(go_at_call 170;refine(bP _ _ ‹_›).mono ?_;rintro e w' ⟨rfl,rfl⟩)|go_in);all_goals(go_ret2;exact⟨dA (Wd.GL ha hb (by simpa using h)) (Wd.iR ha hb (by omega) (by omega)),0,rfl⟩)
theorem vL (a b:Int)(w:World)(ha:Wd.ok a=true)(hb:Wd.ok b=true)(h:(a==b)=false):Calls Tryz.prog 135 #[.int .u32 a, .int .i64 10, .int .u32 b] w fun e w'=>e= .returned (.tuple #[.int .u32 (Wd.dv 10 a b), .int .i64 (Wd.dc 10 a b)])/\∃q,w'=w.drewN q:=by obtain⟨h3,h4⟩:=Wd.aP.1 ha;obtain⟨h5,h6⟩:=Wd.aP.1 hb;go_enter Tryz.func135,Tryz.ntmps135;go_wp2_with(first|(go_at_call 101;refine(bi _ _).mono ?_;rintro e w' ⟨rfl,rfl⟩)|(go_at_call 170;refine(bP _ _ ‹_›).mono ?_;rintro e w' ⟨rfl,rfl⟩)|go_in);all_goals(go_ret2;exact⟨dA (Wd.Ia ha hb (by simpa using h)) (Wd.iR ha hb (by omega) (by omega)),0,rfl⟩)
theorem vG (a b:Int)(w:World)(ha:Wd.ok a=true)(hb:Wd.ok b=true)(h:Wd.sg a<Wd.sg b):Calls Tryz.prog 135 #[.int .u32 a, .int .i64 11, .int .u32 b] w fun e w'=>e= .returned (.tuple #[.int .u32 (Wd.dv 11 a b), .int .i64 (Wd.dc 11 a b)])/\∃q,w'=w.drewN q:=by obtain⟨h3,h4⟩:=Wd.aP.1 ha;obtain⟨h5,h6⟩:=Wd.aP.1 hb;go_enter Tryz.func135,Tryz.ntmps135;go_wp2_with(first|(go_at_call 101;refine(bi _ _).mono ?_;rintro e w' ⟨rfl,rfl⟩)|(go_at_call 170;refine(bP _ _ ‹_›).mono ?_;rintro e w' ⟨rfl,rfl⟩)|go_in);all_goals(go_ret2;exact⟨dA (Wd.La ha hb (by simpa using h)) (Wd.iR ha hb (by omega) (by omega)),0,rfl⟩)
theorem vU (a b:Int)(w:World)(ha:Wd.ok a=true)(hb:Wd.ok b=true)(h:¬Wd.sg a<Wd.sg b):Calls Tryz.prog 135 #[.int .u32 a, .int .i64 11, .int .u32 b] w fun e w'=>e= .returned (.tuple #[.int .u32 (Wd.dv 11 a b), .int .i64 (Wd.dc 11 a b)])/\∃q,w'=w.drewN q:=by obtain⟨h3,h4⟩:=Wd.aP.1 ha;obtain⟨h5,h6⟩:=Wd.aP.1 hb;go_enter Tryz.func135,Tryz.ntmps135;go_wp2_with(first|(go_at_call 101;refine(bi _ _).mono ?_;rintro e w' ⟨rfl,rfl⟩)|(go_at_call 170;refine(bP _ _ ‹_›).mono ?_;rintro e w' ⟨rfl,rfl⟩)|go_in);all_goals(go_ret2;exact⟨dA (Wd.KO ha hb (by simpa using h)) (Wd.iR ha hb (by omega) (by omega)),0,rfl⟩)
theorem vJ (a b:Int)(w:World)(ha:Wd.ok a=true)(hb:Wd.ok b=true)(h:a<b):Calls Tryz.prog 135 #[.int .u32 a, .int .i64 12, .int .u32 b] w fun e w'=>e= .returned (.tuple #[.int .u32 (Wd.dv 12 a b), .int .i64 (Wd.dc 12 a b)])/\∃q,w'=w.drewN q:=by obtain⟨h3,h4⟩:=Wd.aP.1 ha;obtain⟨h5,h6⟩:=Wd.aP.1 hb;go_enter Tryz.func135,Tryz.ntmps135;go_wp2_with(first|(go_at_call 101;refine(bi _ _).mono ?_;rintro e w' ⟨rfl,rfl⟩)|(go_at_call 170;refine(bP _ _ ‹_›).mono ?_;rintro e w' ⟨rfl,rfl⟩)|go_in);all_goals(go_ret2;exact⟨dA (Wd.MG ha hb (by simpa using h)) (Wd.iR ha hb (by omega) (by omega)),0,rfl⟩)
theorem vV (a b:Int)(w:World)(ha:Wd.ok a=true)(hb:Wd.ok b=true)(h:¬a<b):Calls Tryz.prog 135 #[.int .u32 a, .int .i64 12, .int .u32 b] w fun e w'=>e= .returned (.tuple #[.int .u32 (Wd.dv 12 a b), .int .i64 (Wd.dc 12 a b)])/\∃q,w'=w.drewN q:=by obtain⟨h3,h4⟩:=Wd.aP.1 ha;obtain⟨h5,h6⟩:=Wd.aP.1 hb;go_enter Tryz.func135,Tryz.ntmps135;go_wp2_with(first|(go_at_call 101;refine(bi _ _).mono ?_;rintro e w' ⟨rfl,rfl⟩)|(go_at_call 170;refine(bP _ _ ‹_›).mono ?_;rintro e w' ⟨rfl,rfl⟩)|go_in);all_goals(go_ret2;exact⟨dA (Wd.KC ha hb (by simpa using h)) (Wd.iR ha hb (by omega) (by omega)),0,rfl⟩)
theorem Ao (k a b:Int)(w:World)(ha:Wd.ok a=true)(hb:Wd.ok b=true)(hk:k<1):Calls Tryz.prog 135 #[.int .u32 a, .int .i64 k, .int .u32 b] w fun e w'=>e= .returned (.tuple #[.int .u32 (Wd.dv k a b), .int .i64 (Wd.dc k a b)])/\∃q,w'=w.drewN q:=by go_enter Tryz.func135,Tryz.ntmps135;go_wp2_with(first|(go_at_call 101;refine(bi _ _).mono ?_;rintro e w' ⟨rfl,rfl⟩)|go_in);all_goals(go_ret2;exact⟨dA (Wd.qP (by omega)) (Wd.uj ha hb (by omega)),0,rfl⟩)
theorem Ah (k a b:Int)(w:World)(ha:Wd.ok a=true)(hb:Wd.ok b=true)(hk:12<k):Calls Tryz.prog 135 #[.int .u32 a, .int .i64 k, .int .u32 b] w fun e w'=>e= .returned (.tuple #[.int .u32 (Wd.dv k a b), .int .i64 (Wd.dc k a b)])/\∃q,w'=w.drewN q:=by go_enter Tryz.func135,Tryz.ntmps135;go_wp2_with(first|(go_at_call 101;refine(bi _ _).mono ?_;rintro e w' ⟨rfl,rfl⟩)|go_in);all_goals(go_ret2;exact⟨dA (Wd.qP (by omega)) (Wd.uj ha hb (by omega)),0,rfl⟩)
theorem xn (k a b:Int)(w:World)(ha:Wd.ok a=true)(hb:Wd.ok b=true):Calls Tryz.prog 135 #[.int .u32 a, .int .i64 k, .int .u32 b] w fun e w'=>e= .returned (.tuple #[.int .u32 (Wd.dv k a b), .int .i64 (Wd.dc k a b)])/\∃q,w'=w.drewN q:=by by_cases h1:k<1;{exact Ao k a b w ha hb h1};by_cases h2:12<k;{exact Ah k a b w ha hb h2};have hk:k=1\/k=2\/k=3\/k=4\/k=5\/k=6\/k=7\/k=8\/k=9\/k=10\/k=11\/k=12:=by{omega};clear h1 h2;rcases hk with rfl|rfl|rfl|rfl|rfl|rfl|rfl|rfl|rfl|rfl|rfl|rfl;{exact Au a b w ha hb};{exact Ak a b w ha hb};{exact Ar a b w ha hb};{by_cases h0:b=0;{exact x9 a b w ha hb (by simpa using h0)};by_cases h1:Wd.sg a=-2147483648/\Wd.sg b=-1;{exact xJ a b w ha hb h1.1 h1.2};exact yB a b w ha hb h0 h1};{exact zV a b w ha hb};{exact zh a b w ha hb};{exact Az a b w ha hb};{exact zO a b w ha hb};{exact zA a b w ha hb};{by_cases h:a=b;{exact vF a b w ha hb (by simpa using h)};exact vL a b w ha hb (by simpa using h)};{by_cases h:Wd.sg a<Wd.sg b;{exact vG a b w ha hb h};exact vU a b w ha hb h};by_cases h:a<b;{exact vJ a b w ha hb h};exact vV a b w ha hb h
end
section
def ni (W:World)(b:Nat)(v0 v1 v2 v3 v4:Value):Prop:=
 b <W.heap.size/\(W.cell? ⟨b,0,none⟩=some v0/\W.cell? ⟨b,1,none⟩=some v1/\W.cell? ⟨b,2,none⟩=some v2/\W.cell? ⟨b,3,none⟩=some v3/\W.cell? ⟨b,4,none⟩=some v4)/\
   W.frozen? ⟨b,0,none⟩=false/\W.frozen? ⟨b,1,none⟩=false/\W.frozen? ⟨b,2,none⟩=false/\W.frozen? ⟨b,3,none⟩=false/\W.frozen? ⟨b,4,none⟩=false
theorem ni.dN {W W':World}{b:Nat}{row:Option Nat}{v0 v1 v2 v3 v4:Value}(h:ni W b v0 v1 v2 v3 v4)(hg:W.grownBy W' row)(hne:row≠some b):ni W' b v0 v1 v2 v3 v4:=by obtain⟨h0,⟨c0,c1,c2,c3,c4⟩,f0,f1,f2,f3,f4⟩:=h;have hb:=hg.block b h0 (fun e=>hne e.symm);have hc:∀i,W'.cell? ⟨b,i,none⟩=W.cell? ⟨b,i,none⟩:=fun i=>World.cell?_of_block hb;have hf:∀i,W'.frozen? ⟨b,i,none⟩=W.frozen? ⟨b,i,none⟩:=fun i=>by{unfold World.frozen?;rw[hb]};exact⟨ah h0 hg.size,⟨(hc _).trans c0,(hc _).trans c1,(hc _).trans c2,(hc _).trans c3,(hc _).trans c4⟩,(hf _).trans f0,(hf _).trans f1,(hf _).trans f2,(hf _).trans f3,(hf _).trans f4⟩
theorem ni.new (W:World)(v0 v1 v2 v3 v4:Value)(t:TypeId):ni (W.alloc (.cells #[v0,v1,v2,v3,v4] t)) W.heap.size v0 v1 v2 v3 v4:=by refine⟨by simp,⟨?_,?_,?_,?_,?_⟩,?_,?_,?_,?_,?_⟩<;>go_simp
theorem ni.afy {W:World}{b:Nat}{v0 v1 v2 v3 v4:Value}(h:ni W b v0 v1 v2 v3 v4)(x:Value):ni (W.setCell ⟨b,1,none⟩ x) b v0 x v2 v3 v4:=by obtain⟨h0,⟨c0,c1,c2,c3,c4⟩,f0,f1,f2,f3,f4⟩:=h;refine⟨by simpa[World.setCell]using h0,⟨?_,?_,?_,?_,?_⟩,?_,?_,?_,?_,?_⟩<;>go_simp
theorem ni.afu {W:World}{b:Nat}{v0 v1 v2 v3 v4:Value}(h:ni W b v0 v1 v2 v3 v4)(x:Value):ni (W.setCell ⟨b,4,none⟩ x) b v0 v1 v2 v3 x:=by obtain⟨h0,⟨c0,c1,c2,c3,c4⟩,f0,f1,f2,f3,f4⟩:=h;refine⟨by simpa[World.setCell]using h0,⟨?_,?_,?_,?_,?_⟩,?_,?_,?_,?_,?_⟩<;>go_simp
structure PS (w:World)(m0 N gE gO:Nat)(a:Option Addr)(len cap:Nat)(E O:List Int)(S:List Nat)(b:Bool)(W:World):Prop where
 dZ:Below w.heap.size w W
 hm:m0<=W.heap.size
 iN:w.heap.size<=N/\N<m0
 iE:w.heap.size<=gE/\gE<m0
 iO:w.heap.size<=gO/\gO<m0
 ne:N≠gE/\N≠gO/\gE≠gO
 rE:W.ownsRow w.heap.size 2 1 (.slice (some ⟨gE,0,none⟩) len len) len (E.map iv)
 rO:W.ownsRow w.heap.size 2 1 (.slice (some ⟨gO,0,none⟩) len len) len (O.map iv)
 st:∃v,ni W N (.slice a len cap) v (.slice (some ⟨gE,0,none⟩) len len) (.slice (some ⟨gO,0,none⟩) len len) (.bool b)/\W.ownsRow m0 2 1 v S.length ((ib S.reverse).map iv)
variable {w : World} {m0 N gE gO : Nat} {a : Option Addr} {len cap : Nat} {E O : List Int} {S : List Nat} {b : Bool} {W : World}
theorem PS.kept {W':World}(h:PS w m0 N gE gO a len cap E O S b W)(hB:Below W.heap.size W W'):PS w m0 N gE gO a len cap E O S b W':=by obtain⟨v,hb,hr⟩:=h.st;exact{h with dZ:=h.dZ.trans (hB.mono h.dZ.size),hm:=Nat.le_trans h.hm hB.size,rE:=aH h.rE hB,rO:=aH h.rO hB,st:=⟨v,hb.dN (row:=none) ⟨hB.os,hB.tape,hB.output,hB.size,fun k hk _=>hB.block k hk⟩ (by simp),aH hr hB⟩}
theorem bf {W:World}{n₀ e k n:Nat}{v:Value}{xs:List Value}(h:W.ownsRow n₀ e k v n xs):∃a cap,v= .slice a n cap:=by rcases h.2 with⟨rfl,h0⟩|⟨g,cap,cur,rfl,_⟩;{exact⟨none,0,by rw[h0]⟩};exact⟨_,cap,rfl⟩
theorem PS.apart (h:PS w m0 N gE gO a len cap E O S b W){v:Value}{n:Nat}{xs:List Value}(hr:W.ownsRow m0 2 1 v n xs):∀g,v.ownBlock=some g->g≠N/\g≠gE/\g≠gO:=by intro g hg;have h1:=(hr.lt g hg).1;have:=h.iN;have:=h.iE;have:=h.iO;omega
theorem qh {W W':World}{row:Option Nat}(h:Below W.heap.size W W'):W.grownBy W' row:=⟨h.os,h.tape,h.output,h.size,fun k hk _=>h.block k hk⟩
theorem PS.row {wA:World}{v:Value}{n:Nat}{xs:List Value}(hs:PS w m0 N gE gO a len cap E O S b W)(hr:W.ownsRow m0 2 1 v n xs)(hg:W.grownBy wA v.ownBlock){v':Value}{S':List Nat}(hown:wA.ownsRow m0 2 1 v' S'.length ((ib S'.reverse).map iv)):PS w m0 N gE gO a len cap E O S' b (wA.setCell ⟨N,1,none⟩ v'):=by have hap:=hs.apart hr;have hN:=hs.iN;have hEi:=hs.iE;have hOi:=hs.iO;obtain⟨n1,n2,n3⟩:=hs.ne;obtain⟨vv,hb,-⟩:=hs.st;have mg:=hb.dN hg (fun e=>by have:=hap N e;omega);have hg2:=aF wA ⟨N,1,none⟩ v';have off:∀{g:Nat}{ys:List Value},W.ownsRow w.heap.size 2 1 (.slice (some ⟨g,0,none⟩) len len) len ys->(∀x,v.ownBlock=some x->x≠g)->g≠N->(wA.setCell ⟨N,1,none⟩ v').ownsRow w.heap.size 2 1 (.slice (some ⟨g,0,none⟩) len len) len ys:=by{intro g ys hrg h1 h2;have e1:wA.ownsRow w.heap.size 2 1 (.slice (some ⟨g,0,none⟩) len len) len ys:=hrg.kept hg (.inr (fun e=>h1 g e.symm rfl));exact ek e1 hg2 h2};have hB1:=hs.dZ.grown hg hs.dZ.size (fun j ej=>by have:=(hr.lt j ej).1;omega);refine⟨hB1.setCell (p:=⟨N,1,none⟩) hN.1 _,?_,hN,hEi,hOi,hs.ne,off hs.rE (fun x hx=>(hap x hx).2.1) (by omega),off hs.rO (fun x hx=>(hap x hx).2.2) (by omega),v',mg.afy v',?_⟩;{have h1:=hs.hm;have h2:=hg.size;simp[World.setCell];omega};refine hown.kept hg2 ?_;rcases hv:v'.ownBlock with _|x;{exact .inl rfl};refine .inr ?_;have:=(hown.lt x hv).1;simp only[ne_eq,ae];omega
theorem LK (k:Nat)(hS:S.length<=80)(hs:PS w m0 N gE gO a len cap E O S b W):Calls Tryz.prog 152 #[.pointer (some ⟨N,1,none⟩), .int .i64 k] W fun e w'=>e= .returned (.tuple #[])/\PS w m0 N gE gO a len cap E O (k::S) b w':=by
 obtain⟨i0,hi,hz0,hz1,hz2⟩:=info_parts bW
 obtain⟨v,hb,hr⟩:=id hs.st
 obtain⟨av,cv,rfl⟩:=bf hr
 obtain⟨h0,⟨c0,c1,c2,c3,c4⟩,f0,f1,f2,f3,f4⟩:=id hb
 have HRW:=aa (hr.alloc (.cells #[.int .i64 (k:Int)] 2))
 have HS:=aa (hs.kept (aC W (.cells #[.int .i64 (k:Int)] 2)))
 have HB:=aa (hb.dN (row:=none) (qh (aC W (.cells #[.int .i64 (k:Int)] 2))) (by simp))
 have hap:=hs.apart hr
 have hsz:=hs.hm
 clear hr hb hs c0 c2 c3 c4 f0 f2 f3 f4
 go_enter Tryz.func152,Tryz.ntmps152
 go_wp2_with(at_builtin;refine wpList_append_own _ rfl _ _ 27 rfl m0 2 i0 (.int .i64 0) 1 8 Tryz.underlying27 hi hz0 hz1 hz2 rfl (by decide) _ _ _ rfl HRW.out ⟨W.heap.size,0,none⟩ 1 1 [.int .i64 (k:Int)] rfl rfl (dS _ _ _ _ rfl) (by simp[Value.oneCell']) (by simp only[maxLen];omega) (by omega) (by simp;omega) ?_;intro v' wA hown' hgrow _;obtain⟨g',cap',rfl⟩:=ownsRow_succ hown';have mg:=HB.out.dN hgrow (fun e=>(hap N e).1 rfl);have cA:=mg.2.1.2.1;have fA:=mg.2.2.2.1;have lJ:=aa (ai hown' hgrow);clear hown' hgrow mg)
 (try simp only[Exit.inBlock,Exit.then])
 refine bodyPost_end (results_none rfl _ _ _) rfl ⟨rfl,?_⟩
 have h2:=HS.out.row (S':=k::S) HRW.out lJ.out.2 (v':= .slice (some ⟨g',0,none⟩) (S.length+1) cap') (by
  have e:(ib (k::S).reverse).map iv=(ib S.reverse).map iv++[.int .i64 (k:Int)]:=by simp[ib,iv]
  rw[e,List.length_cons]
  exact lJ.out.1)
 exact h2
theorem PS.dx {t:Nat}(hs:PS w m0 N gE gO a len cap E O (t::S) b W):∃g c,ni W N (.slice a len cap) (.slice (some ⟨g,0,none⟩) (S.length+1) c) (.slice (some ⟨gE,0,none⟩) len len) (.slice (some ⟨gO,0,none⟩) len len) (.bool b)/\W.ownsRow m0 2 1 (.slice (some ⟨g,0,none⟩) (S.length+1) c) (S.length+1) ((ib (t::S).reverse).map iv)/\W.cell? ⟨g,S.length,none⟩=some (.int .i64 (t:Int)):=by obtain⟨v,hb,hr⟩:=hs.st;rw[List.length_cons]at hr;obtain⟨g,c,rfl⟩:=ownsRow_succ hr;refine⟨g,c,hb,hr,?_⟩;have:=fq (xs:=ib (t::S).reverse) hr (k:=S.length) (by simp) 0;rw[this];simp[ib]
theorem xh (hs:PS w m0 N gE gO a len cap E O [] b W):Calls Tryz.prog 168 #[.pointer (some ⟨N,1,none⟩)] W fun e w'=>e= .returned (.tuple #[.int .i64 0, .bool false])/\w'=W:=by obtain⟨v,hb,hr⟩:=id hs.st;obtain⟨av,cv,rfl⟩:=bf hr;obtain⟨h0,⟨c0,c1,c2,c3,c4⟩,f0,f1,f2,f3,f4⟩:=id hb;clear hr hb hs;simp only[List.length_nil]at c1;go_enter Tryz.func168,Tryz.ntmps168;go_wp2;go_ret2;exact⟨rfl,rfl⟩
theorem uw (t:Nat)(hS:S.length<=80)(hs:PS w m0 N gE gO a len cap E O (t::S) b W):Calls Tryz.prog 168 #[.pointer (some ⟨N,1,none⟩)] W fun e w'=>e= .returned (.tuple #[.int .i64 t, .bool true])/\Below W.heap.size W w':=by obtain⟨g,c,hb,hr,hc⟩:=hs.dx;obtain⟨h0,⟨c0,c1,c2,c3,c4⟩,f0,f1,f2,f3,f4⟩:=id hb;clear hr hb hs c0 c2 c3 c4 f0 f1 f2 f3 f4;go_enter Tryz.func168,Tryz.ntmps168;go_wp2;go_region;go_wp2;go_ret2;exact⟨rfl,(Below.refl W.heap.size W).drew⟩
theorem EQ (hs:PS w m0 N gE gO a len cap E O [] b W):Calls Tryz.prog 169 #[.pointer (some ⟨N,1,none⟩)] W fun e w'=>e= .returned (.tuple #[.int .i64 0, .bool false])/\w'=W:=by have hcon:=xh hs;clear hs;go_enter Tryz.func169,Tryz.ntmps169;go_wp2_with fail;refine hcon.mono ?_;rintro e w1 ⟨rfl,rfl⟩;clear hcon;go_wp2;go_ret2;exact⟨rfl,rfl⟩
theorem I9 (t:Nat)(hS:S.length<=80)(hs:PS w m0 N gE gO a len cap E O (t::S) b W):Calls Tryz.prog 169 #[.pointer (some ⟨N,1,none⟩)] W fun e w'=>e= .returned (.tuple #[.int .i64 t, .bool true])/\PS w m0 N gE gO a len cap E O S b w':=by go_enter Tryz.func169,Tryz.ntmps169;go_wp2_with fail;refine(uw t hS hs).mono ?_;rintro e w1 ⟨rfl,hB1⟩;replace hs:=hs.kept (hB1.trans ((Below.refl w1.heap.size w1).drew.mono hB1.size));clear hB1;obtain⟨g,c,hb,hr,hc⟩:=hs.dx;obtain⟨h0,⟨c0,c1,c2,c3,c4⟩,f0,f1,f2,f3,f4⟩:=id hb;have HS:=aa hs;have HR:=aa hr;have hcap:S.length+1<=c:=by{rcases hr.2 with⟨h',_⟩|⟨g',cap',cur,h',_,_,hc,_⟩;{cases h'};cases h';exact hc};clear hr hb hs c0 c2 c3 c4 f0 f2 f3 f4 hc;go_wp2;go_region;go_wp2;go_ret2;refine⟨rfl,?_⟩;have hcut:=Hl HR.out S.length (by omega);have e:((ib (t::S).reverse).map iv).take S.length=(ib S.reverse).map iv:=by{simp[ib]};rw[e]at hcut;exact HS.out.row HR.out (World.grownBy.refl _ _) hcut
end
section
variable {w : World} {m0 N gE gO : Nat} {a : Option Addr} {len cap : Nat} {E O : List Int} {S : List Nat} {b : Bool} {W : World}
theorem MK (n:Nat):(madeCells #[.int .i64 0] (n*1)).toList=(List.replicate n (0:Int)).map iv:=by apply List.ext_getElem;{simp[madeCells]};intro i h1 h2;simp[madeCells,iv,Nat.mod_one]
theorem jw (n:Nat)(hn:n<=80)(w:World):Calls Tryz.prog 131 #[.int .i64 n] w fun e w'=>∃g,e= .returned (.slice (some ⟨g,0,none⟩) n n)/\w'.ownsRow w.heap.size 2 1 (.slice (some ⟨g,0,none⟩) n n) n ((aG.dX n).map iv)/\Below w.heap.size w w':=by obtain⟨i0,hi,hz0,hz1,hz2⟩:=info_parts bW;obtain⟨wm,hmk,hown,hgrow⟩:=run_make_full (P:=Tryz.prog) w w.heap.size 27 2 i0 _ 1 Tryz.underlying27 hi hz0 hz1 .i64 .i64 n (by rw[hz2];omega) (by simp only[maxLen];omega) (Nat.le_refl _);have hBm:Below w.heap.size w wm:=⟨hgrow.os,hgrow.tape,hgrow.output,hgrow.size,fun k hk=>hgrow.block k hk (by simp)⟩;have hown0:wm.ownsRow w.heap.size 2 1 (.slice (some ⟨w.heap.size,0,none⟩) n n) n ((List.replicate n (0:Int)).map iv):=by{rw[←MK];exact hown};clear hown hgrow;go_enter Tryz.func131,Tryz.ntmps131;go_wp2;go_loopw [9] (fun i wr=>∃(k:Nat)(ys:List Int),i= .int .i64 k/\k<=n/\ys.length=n/\(∀j,j<k->ys.getD j 0=-1)/\wr.ownsRow w.heap.size 2 1 (.slice (some ⟨w.heap.size,0,none⟩) n n) n (ys.map iv)/\Below w.heap.size w wr) (fun i _=>n-(intOf i).toNat);(case atStart=>exact⟨0,_,rfl,Nat.zero_le _,by simp,by simp,hown0,hBm⟩);case round=>obtain⟨k,ys,rfl,hk,hyl,hys,hown,hB⟩:=hrel;have HY:Hid (ys.length=n/\∀j,j<k->ys.getD j 0=-1):=⟨hyl,hys⟩;clear hys hown0 hBm hmk;by_cases hlt:k<n;{have hc0:=fq hown hlt 0;have hf0:=hown.frozenAt k;have Gc:=hown.stored k (.int .i64 (-1));rw[←eP ys k]at Gc;have HST:=aa Gc.1;have HB:=aa (hB.setCell (p:=⟨w.heap.size,k,none⟩) (Nat.le_refl _) (.int .i64 (-1)));clear hyl Gc hown hB;go_wp2;go_roundw;(case rel=>obtain⟨hyl,hys⟩:=HY.out;refine⟨k+1,ys.set k (-1),by simp,by omega,by simp[hyl],fun j hj=>?_,HST.out,HB.out⟩;by_cases e:j=k;{subst e;rw[af,List.getElem?_set_self (by omega)];rfl};rw[←hys j (by omega),af,List.getElem?_set_ne (by omega),←af]);case measure=>simp[intOf];omega};have hke:k=n:=by{omega};subst hke;have HOW:=aa hown;clear hyl hown;go_wp2;go_ret;obtain⟨hyl,hys⟩:=HY.out;have e:ys=aG.dX k:=by{apply List.ext_getElem;{rw[hyl];simp[aG.dX]};intro j h1 h2;have:=hys j (by omega);rw[af,ag h1]at this;simpa[aG.dX]using this};rw[←e];exact⟨_,rfl,HOW.out,hB⟩
theorem dO {W:World}{n₀ n₁ e k n:Nat}{v:Value}{xs:List Value}(h:W.ownsRow n₁ e k v n xs)(hn:n₀<=n₁):W.ownsRow n₀ e k v n xs:=by refine⟨h.1,?_⟩;rcases h.2 with h'|⟨g',cap',cur,h',hb,r⟩;{exact .inl h'};exact .inr ⟨g',cap',cur,h',Nat.le_trans hn hb,r⟩
theorem jF (a:Option Addr)(len cap:Nat)(hn:len<=80)(w:World):Calls Tryz.prog 103 #[.slice a len cap] w fun e w'=>∃m0 N gE gO,e= .returned (.pointer (some ⟨N,0,none⟩))/\PS w m0 N gE gO a len cap (aG.dX len) (aG.dX len) [] false w':=by go_enter Tryz.func103,Tryz.ntmps103;go_wp2_with fail;refine(jw len hn w).mono ?_;rintro e w1 ⟨gE,rfl,hE,hB1⟩;go_wp2_with fail;refine(jw len hn w1).mono ?_;rintro e w2 ⟨gO,rfl,hO,hB2⟩;have h1:=hE.lt gE rfl;have h2:=hO.lt gO rfl;have hE2:=aH hE hB2;have hB3:=hB1.trans (hB2.mono hB1.size);have HA:=aa (ai hE2 (ai hO hB3));have s1:=hB1.size;have s2:=hB2.size;clear hE hO hE2 hB1 hB2 hB3;go_wp2;go_ret;obtain⟨hE,hO,hB⟩:=HA.out;have hB':=aC w2 (.cells #[.slice a len cap, .slice none 0 0, .slice (some ⟨gE,0,none⟩) len len, .slice (some ⟨gO,0,none⟩) len len, .bool false] 164);exact⟨w2.heap.size+1,w2.heap.size,gE,gO,rfl,hB.alloc hB.size _,by simp,⟨by omega,by omega⟩,⟨h1.1,by omega⟩,⟨by omega,by omega⟩,⟨by omega,by omega,by omega⟩,aH hE hB',dO (aH hO hB') s1,_,ni.new w2 _ _ _ _ _ _,rfl, .inl ⟨rfl,rfl⟩⟩
theorem PS.afe (hs:PS w m0 N gE gO a len cap E O S b W)(t:Nat)(k:Int):PS w m0 N gE gO a len cap E (O.set t k) S b (W.setCell ⟨gO,t,none⟩ (.int .i64 k)):=by
 obtain⟨n1,n2,n3⟩:=hs.ne
 obtain⟨v,hb,hr⟩:=hs.st
 have hst:=hs.rO.stored t (.int .i64 k)
 rw[←eP]at hst
 have hg:=aF W ⟨gO,t,none⟩ (.int .i64 k)
 have hap:=hs.apart hr
 exact {hs with
   dZ:=hs.dZ.setCell (p:=⟨gO,t,none⟩) hs.iO.1 _
   hm:=by have:=hs.hm;simpa[World.setCell]using this
   rE:=ek hs.rE hg n3
   rO:=hst.1
   st:=⟨v,hb.dN hg (by simp only[ne_eq,ae];omega),hr.kept hg (by
     rcases hv:v.ownBlock with _|x
     · exact .inl rfl
     · refine .inr ?_
       have:=hap x hv
       simp only[ne_eq,ae]
       omega)⟩}
theorem PS.LF (hs:PS w m0 N gE gO a len cap E O S b W)(t:Nat)(k:Int):PS w m0 N gE gO a len cap (E.set t k) O S b (W.setCell ⟨gE,t,none⟩ (.int .i64 k)):=by
 obtain⟨n1,n2,n3⟩:=hs.ne
 obtain⟨v,hb,hr⟩:=hs.st
 have hst:=hs.rE.stored t (.int .i64 k)
 rw[←eP]at hst
 have hg:=aF W ⟨gE,t,none⟩ (.int .i64 k)
 have hap:=hs.apart hr
 exact {hs with
   dZ:=hs.dZ.setCell (p:=⟨gE,t,none⟩) hs.iE.1 _
   hm:=by have:=hs.hm;simpa[World.setCell]using this
   rE:=hst.1
   rO:=ek hs.rO hg (Ne.symm n3)
   st:=⟨v,hb.dN hg (by simp only[ne_eq,ae];omega),hr.kept hg (by
     rcases hv:v.ownBlock with _|x
     · exact .inl rfl
     · refine .inr ?_
       have:=hap x hv
       simp only[ne_eq,ae]
       omega)⟩}
theorem PS.J7 (hs:PS w m0 N gE gO a len cap E O S b W)(b':Bool):PS w m0 N gE gO a len cap E O S b' (W.setCell ⟨N,4,none⟩ (.bool b')):=by
 obtain⟨n1,n2,n3⟩:=hs.ne
 obtain⟨v,hb,hr⟩:=hs.st
 have hg:=aF W ⟨N,4,none⟩ (.bool b')
 have hap:=hs.apart hr
 exact {hs with
   dZ:=hs.dZ.setCell (p:=⟨N,4,none⟩) hs.iN.1 _
   hm:=by have:=hs.hm;simpa[World.setCell]using this
   rE:=ek hs.rE hg (Ne.symm n1)
   rO:=ek hs.rO hg (Ne.symm n2)
   st:=⟨v,hb.afu _,hr.kept hg (by
     rcases hv:v.ownBlock with _|x
     · exact .inl rfl
     · refine .inr ?_
       have:=hap x hv
       simp only[ne_eq,ae]
       omega)⟩}
theorem Af (k:Int)(hs:PS w m0 N gE gO a len cap E O [] b W):Calls Tryz.prog 153 #[.pointer (some ⟨N,0,none⟩), .int .i64 k] W fun e w'=>e= .returned (.bool false)/\Below W.heap.size W w':=by have hcon:=xh hs;have hN:N<W.heap.size:=by{have:=hs.iN;have:=hs.hm;omega};clear hs;go_enter Tryz.func153,Tryz.ntmps153;go_wp2_with fail;refine hcon.mono ?_;rintro e w1 ⟨rfl,rfl⟩;clear hcon;go_wp2;go_ret;exact⟨rfl,Below.refl _ _⟩
theorem SL.at {w:World}{a:Option Addr}{len:Nat}{xs:List (Int×Int)}(h:SL w a len xs){W:World}(hB:Below w.heap.size w W){t:Nat}(ht:t<len):∃bl off,a=some ⟨bl,off,none⟩/\bl<w.heap.size/\W.cell? ⟨bl,off+t*2,none⟩=some (.int .i64 (aG.op xs t))/\W.cell? ⟨bl,off+t*2+1,none⟩=some (.int .i64 (xs.getD t (0,0)).2):=by obtain⟨-,-,h3|⟨bl,off,rfl,hb,hx⟩⟩:=h;{omega};exact⟨bl,off,rfl,hb,(hB.cell (p:=⟨bl,off+t*2,none⟩) hb).trans (hx t ht).1,(hB.cell (p:=⟨bl,off+t*2+1,none⟩) hb).trans (hx t ht).2⟩
theorem I5 {xs:List (Int×Int)}(hl:SL w a len xs)(k:Int)(t:Nat)(ht:t<len)(h80:len<=80)(hS:S.length<=80)(hc:¬(aG.op xs t=10/\aG.aB O t=-1))(hs:PS w m0 N gE gO a len cap E O (t::S) b W):Calls Tryz.prog 153 #[.pointer (some ⟨N,0,none⟩), .int .i64 k] W fun e w'=>e= .returned (.bool false)/\Below W.heap.size W w':=by have hN:N<W.heap.size:=by{have:=hs.iN;have:=hs.hm;omega};have hcon:=uw t hS hs;go_enter Tryz.func153,Tryz.ntmps153;go_wp2_with fail;refine hcon.mono ?_;rintro e w1 ⟨rfl,hB1⟩;clear hcon;replace hs:=hs.kept hB1;obtain⟨v,hb,-⟩:=hs.st;obtain⟨h0,⟨c0,c1,c2,c3,c4⟩,f0,f1,f2,f3,f4⟩:=hb;have hO:=fq hs.rO ht (-1);obtain⟨bl,off,rfl,hbl,x0,x1⟩:=hl.at hs.dZ ht;obtain⟨p,hp⟩:∃p,aG.op xs t=p:=⟨_,rfl⟩;obtain⟨o,ho⟩:∃o,O.getD t (-1)=o:=⟨_,rfl⟩;rw[hp]at x0 hc;unfold aG.aB at hc;rw[ho]at hO hc;clear hp ho hs hl;by_cases h10:p=10;{subst h10;have ho1:(o==-1)=false:=by{simp at hc ⊢;exact hc};clear hc;go_wp2;go_ret;exact⟨rfl,hB1⟩};have afF:(p==10)=false:=by{simpa using h10};clear hc;go_wp2;go_ret;exact⟨rfl,hB1⟩
theorem FW {xs:List (Int×Int)}(hl:SL w a len xs)(k:Int)(t:Nat)(ht:t<len)(h80:len<=80)(hS:S.length<=80)(h1:aG.op xs t=10)(h2:aG.aB O t=-1)(hs:PS w m0 N gE gO a len cap E O (t::S) b W):Calls Tryz.prog 153 #[.pointer (some ⟨N,0,none⟩), .int .i64 k] W fun e w'=>e= .returned (.bool true)/\PS w m0 N gE gO a len cap E (O.set t k) (t::S) b w':=by have hN:N<W.heap.size:=by{have:=hs.iN;have:=hs.hm;omega};have hcon:=uw t hS hs;go_enter Tryz.func153,Tryz.ntmps153;go_wp2_with fail;refine hcon.mono ?_;rintro e w1 ⟨rfl,hB1⟩;clear hcon;replace hs:=hs.kept hB1;obtain⟨v,hb,-⟩:=hs.st;obtain⟨h0,⟨c0,c1,c2,c3,c4⟩,f0,f1,f2,f3,f4⟩:=hb;have hO:=fq hs.rO ht (-1);have hfO:=hs.rO.frozenAt t;obtain⟨bl,off,rfl,hbl,x0,x1⟩:=hl.at hs.dZ ht;have HP:=aa (hs.afe t k);rw[h1]at x0;unfold aG.aB at h2;rw[h2]at hO;clear h1 h2 hs hl hB1;go_wp2;go_ret;exact⟨rfl,HP.out⟩
theorem Mg (k:Int)(hs:PS w m0 N gE gO a len cap E O [] b W):Calls Tryz.prog 154 #[.pointer (some ⟨N,0,none⟩), .int .i64 k] W fun e w'=>e= .returned (.tuple #[])/\PS w m0 N gE gO a len cap E O [] true w':=by have hcon:=EQ hs;obtain⟨v,hb,-⟩:=hs.st;obtain⟨h0,⟨c0,c1,c2,c3,c4⟩,f0,f1,f2,f3,f4⟩:=hb;have HP:=aa (hs.J7 true);clear hs c0 c1 c2 c3 f0 f1 f2 f3;go_enter Tryz.func154,Tryz.ntmps154;go_wp2_with fail;refine hcon.mono ?_;rintro e w1 ⟨rfl,rfl⟩;clear hcon;go_wp2;(try simp only[Exit.inBlock,Exit.then]);refine bodyPost_ret (results_none rfl _ _ _) rfl ⟨rfl,HP.out⟩
theorem XV (k:Nat)(t:Nat)(ht:t<len)(h80:len<=80)(hS:S.length<=80)(hlo:-1<=aG.aB O t)(hhi:aG.aB O t<len)(hs:PS w m0 N gE gO a len cap E O (t::S) b W):Calls Tryz.prog 154 #[.pointer (some ⟨N,0,none⟩), .int .i64 k] W fun e w'=>e= .returned (.tuple #[])/\PS w m0 N gE gO a len cap (aG.close E O t k) O S b w':=by go_enter Tryz.func154,Tryz.ntmps154;go_wp2_with fail;refine(I9 t hS hs).mono ?_;rintro e w1 ⟨rfl,hs1⟩;clear hs;obtain⟨v,hb,-⟩:=hs1.st;obtain⟨h0,⟨c0,c1,c2,c3,c4⟩,f0,f1,f2,f3,f4⟩:=hb;have hE:=fq hs1.rE ht (-1);have hfE:=fun j=>hs1.rE.frozenAt j;have hO:=fq hs1.rO ht (-1);have hE2:=fun j (hj:j<len)=>fq hs1.rE hj (-1);obtain⟨n1,n2,n3⟩:=hs1.ne;unfold aG.aB at hlo hhi;obtain⟨o,ho⟩:∃o,O.getD t (-1)=o:=⟨_,rfl⟩;rw[ho]at hO hlo hhi;have hft:=hfE t;by_cases hneg:o=-1;{subst hneg;have HP:=aa (hs1.LF t (k:Int));have HO:=aa ho;clear ho hs1 hfE hE2 hhi hlo;go_wp2;(try simp only[Exit.inBlock,Exit.then]);refine bodyPost_end (results_none rfl _ _ _) rfl ⟨rfl,?_⟩;rw[aG.close,HO.out,ak (by omega)];exact HP.out};obtain⟨d,rfl⟩:∃d:Nat,o=d:=⟨o.toNat,by omega⟩;have hd:d<len:=by{omega};have hfd:=hfE d;have hEd:=hE2 d hd;have hdn:((d:Int)==-1)=false:=by{simp};have ajY:=fq (hs1.LF t (k:Int)).rE hd (-1);have ajZ:=(hs1.LF t (k:Int)).rE.frozenAt d;have HP:=aa ((hs1.LF t (k:Int)).LF d (k:Int));have HO:=aa ho;clear ho hs1 hfE hE2 hhi hlo hneg hEd hfd;go_wp2;(try simp only[Exit.inBlock,Exit.then]);refine bodyPost_end (results_none rfl _ _ _) rfl ⟨rfl,?_⟩;rw[aG.close,HO.out,ax (by omega),az];exact HP.out
end
section
structure PI (xs:List (Int×Int))(k:Nat)(E O:List Int)(S:List Nat)(b:Bool):Prop where
 sl:S.length<=k
 inv:b=false->aG.Inv xs k E O S/\aG.all xs=aG.go xs (xs.length+1-k) k E O S
 fin:b=true->aG.all xs=(E,O,decide (k=xs.length))
theorem PI.first (xs:List (Int×Int)):PI xs 0 (aG.dX xs.length) (aG.dX xs.length) [] false:=
 ⟨Nat.le_refl _,fun _=>⟨aG.Inv.first xs,rfl⟩,fun h=>by cases h⟩
variable {w : World} {m0 N gE gO : Nat} {a : Option Addr} {len cap : Nat} {E O : List Int} {S : List Nat} {b : Bool} {W : World} {xs : List (Int × Int)} {k t : Nat}
theorem go_succ (hk:k<xs.length):xs.length+1-k=(xs.length+1-(k+1))+1:=by omega
theorem PI.push (h:PI xs k E O S false)(hk:k<xs.length)(ho:St.opens (aG.op xs k)=true):PI xs (k+1) E O (k::S) false:=by obtain⟨h1,h2⟩:=h.inv rfl;exact⟨by have:=h.sl;simp;omega,fun _=>⟨h1.push hk ho,by rw[h2,go_succ hk,aG.jH hk ho]⟩,fun h=>by cases h⟩
theorem PI.other (h:PI xs k E O S false)(hk:k<xs.length)(ho:St.opens (aG.op xs k)=false)(h11:aG.op xs k≠11)(h12:aG.op xs k≠12):PI xs (k+1) E O S false:=by obtain⟨h1,h2⟩:=h.inv rfl;exact⟨by have:=h.sl;omega,fun _=>⟨h1.other hk ho h11,by rw[h2,go_succ hk,aG.jP hk ho h11 h12]⟩,fun h=>by cases h⟩
theorem PI.JQ (h:PI xs k E O (t::S) false)(hk:k<xs.length)(ho:St.opens (aG.op xs k)=false)(h11:aG.op xs k=11)(h1:aG.op xs t=10)(h2:aG.aB O t=-1):PI xs (k+1) E (O.set t (k:Int)) (t::S) false:=by obtain⟨h3,h4⟩:=h.inv rfl;exact⟨by have:=h.sl;omega,fun _=>⟨h3.JQ hk h11 h1 (by omega),by rw[h4,go_succ hk,aG.jN hk ho h11 ⟨h1,by unfold aG.aB at h2;omega⟩]⟩,fun h=>by cases h⟩
theorem PI.TC (h:PI xs k E O (t::S) false)(hk:k<xs.length)(ho:St.opens (aG.op xs k)=false)(h12:aG.op xs k=12):PI xs (k+1) (aG.close E O t k) O S false:=by obtain⟨h3,h4⟩:=h.inv rfl;exact⟨by have:=h.sl;simp at this;omega,fun _=>⟨h3.TC hk h12,by rw[h4,go_succ hk,aG.jM hk ho (by omega) h12]⟩,fun h=>by cases h⟩
theorem PI.last (h:PI xs k E O [] false)(hk:k<xs.length)(ho:St.opens (aG.op xs k)=false)(h12:aG.op xs k=12):PI xs (k+1) E O [] true:=by obtain⟨h3,h4⟩:=h.inv rfl;exact⟨by simp,(fun h=>by cases h),fun _=>by rw[h4,go_succ hk,aG.lh hk ho (by omega) h12]⟩
theorem PI.no0 (h:PI xs k E O [] false)(hk:k<xs.length)(ho:St.opens (aG.op xs k)=false)(h11:aG.op xs k=11):(aG.all xs).2.2=false:=by obtain⟨h3,h4⟩:=h.inv rfl;rw[h4,go_succ hk,aG.jO hk ho h11]
theorem PI.noN (h:PI xs k E O (t::S) false)(hk:k<xs.length)(ho:St.opens (aG.op xs k)=false)(h11:aG.op xs k=11)(hc:¬(aG.op xs t=10/\aG.aB O t=-1)):(aG.all xs).2.2=false:=by
 obtain⟨h3,h4⟩:=h.inv rfl
 rw[h4,go_succ hk,aG.iU hk ho h11 (by
  rintro⟨q1,q2⟩
  have:=(h3.low t).2.2
  unfold aG.aB at this hc
  exact hc ⟨q1,by omega⟩)]
theorem PI.noE (h:PI xs k E O S true)(hk:k<xs.length):(aG.all xs).2.2=false:=by rw[h.fin rfl];exact decide_eq_false (by omega)
theorem Ub (hl:SL w a len xs)(hall:St.bJ xs=true)(h80:len<=80)(hk:k<len)(hp:PI xs k E O S b)(hs:PS w m0 N gE gO a len cap E O S b W):
   Calls Tryz.prog 132 #[.pointer (some ⟨N,0,none⟩), .int .i64 k] W fun e w'=>
     (∃E' O' S' b',e= .returned (.bool true)/\PS w m0 N gE gO a len cap E' O' S' b' w'/\PI xs (k+1) E' O' S' b')\/(e= .returned (.bool false)/\(aG.all xs).2.2=false/\Below w.heap.size w w'):=by
 have hkx:k<xs.length:=by rw[hl.1];exact hk
 obtain⟨v,hb,-⟩:=hs.st
 obtain⟨h0,⟨c0,c1,c2,c3,c4⟩,f0,f1,f2,f3,f4⟩:=hb
 have hok:=St.aV hall hkx
 have nG:St.sI (aG.op xs k) (xs.getD k (0,0)).2=St.opens (aG.op xs k):=by
   rw[St.sI]
   unfold aG.op
   rw[hok,Bool.true_and]
 have hsl:=hp.sl
 obtain⟨bl,off,rfl,hbl,x0,x1⟩:=hl.at hs.dZ hk
 obtain⟨p,JU⟩:∃p,aG.op xs k=p:=⟨_,rfl⟩
 obtain⟨q,hq⟩:∃q,(xs.getD k (0,0)).2=q:=⟨_,rfl⟩
 rw[JU,hq]at nG
 rw[JU]at x0
 rw[hq]at x1
 have HP:=aa hp
 have HS:=aa hs
 have Vi:=aa JU
 have Wn:=aa hkx
 clear hok hq JU hp hs hkx
 rcases b with _|_
 · have hcon :=FV p q (W.alloc (.cells #[.int .i64 p, .int .i64 q] 78))
   rw[nG]at hcon
   rcases ho:St.opens p with _|_
   · rw [ho] at hcon
     have HO:Hid (St.opens (aG.op xs k)=false):=by rw[Vi.out];exact ho
     by_cases h11:p=11
     · subst h11
       rcases S with _|⟨t,S'⟩
       · go_enter Tryz.func132,Tryz.ntmps132
         go_wp2_with fail
         refine hcon.mono ?_
         rintro e w2 ⟨rfl,hB⟩
         obtain⟨y0,y1,hlt⟩:=eB W _ _ _ hB
         have hs2:=HS.out.kept ((aC W _).trans (hB.mono (by simp)))
         clear hcon hB x0 x1 c0 c1 c2 c3 c4 f0 f1 f2 f3 f4
         have cZ:=Af (k:Int) hs2
         go_wp2_with fail
         refine cZ.mono ?_
         rintro e w3 ⟨rfl,hB3⟩
         have hB4:=hs2.dZ.trans (hB3.mono hs2.dZ.size)
         clear cZ hs2
         go_wp2
         go_ret
         exact .inr ⟨rfl,HP.out.no0 Wn.out HO.out Vi.out,hB4⟩
       · have htl:t<len:=by have:=((HP.out.inv rfl).1.st t (by simp)).1;omega
         simp only[List.length_cons]at hsl
         by_cases hc:aG.op xs t=10/\aG.aB O t=-1
         · go_enter Tryz.func132,Tryz.ntmps132
           go_wp2_with fail
           refine hcon.mono ?_
           rintro e w2 ⟨rfl,hB⟩
           obtain⟨y0,y1,hlt⟩:=eB W _ _ _ hB
           have hs2:=HS.out.kept ((aC W _).trans (hB.mono (by simp)))
           clear hcon hB x0 x1 c0 c1 c2 c3 c4 f0 f1 f2 f3 f4
           have cZ:=FW hl (k:Int) t htl h80 (by omega) hc.1 hc.2 hs2
           clear hs2
           go_wp2_with fail
           refine cZ.mono ?_
           rintro e w3 ⟨rfl,hs3⟩
           clear cZ
           have mX:=aa hs3
           clear hs3
           go_wp2
           go_ret
           exact .inl ⟨_,_,_,_,rfl,mX.out,HP.out.JQ Wn.out HO.out Vi.out hc.1 hc.2⟩
         · go_enter Tryz.func132,Tryz.ntmps132
           go_wp2_with fail
           refine hcon.mono ?_
           rintro e w2 ⟨rfl,hB⟩
           obtain⟨y0,y1,hlt⟩:=eB W _ _ _ hB
           have hs2:=HS.out.kept ((aC W _).trans (hB.mono (by simp)))
           clear hcon hB x0 x1 c0 c1 c2 c3 c4 f0 f1 f2 f3 f4
           have cZ:=I5 hl (k:Int) t htl h80 (by omega) hc hs2
           go_wp2_with fail
           refine cZ.mono ?_
           rintro e w3 ⟨rfl,hB3⟩
           have hB4:=hs2.dZ.trans (hB3.mono hs2.dZ.size)
           clear cZ hs2
           go_wp2
           go_ret
           exact .inr ⟨rfl,HP.out.noN Wn.out HO.out Vi.out hc,hB4⟩
     · have Ga:(p==11)=false:=by simpa using h11
       by_cases h12:p=12
       · subst h12
         rcases S with _|⟨t,S'⟩
         · go_enter Tryz.func132,Tryz.ntmps132
           go_wp2_with fail
           refine hcon.mono ?_
           rintro e w2 ⟨rfl,hB⟩
           obtain⟨y0,y1,hlt⟩:=eB W _ _ _ hB
           have hs2:=HS.out.kept ((aC W _).trans (hB.mono (by simp)))
           clear hcon hB x0 x1 c0 c1 c2 c3 c4 f0 f1 f2 f3 f4
           have cZ:=Mg (k:Int) hs2
           clear hs2
           go_wp2_with fail
           refine cZ.mono ?_
           rintro e w3 ⟨rfl,hs3⟩
           clear cZ
           have mX:=aa hs3
           clear hs3
           go_wp2
           go_ret
           exact .inl ⟨_,_,_,_,rfl,mX.out,HP.out.last Wn.out HO.out Vi.out⟩
         · have htl:t<len:=by have:=((HP.out.inv rfl).1.st t (by simp)).1;omega
           have hlo:=((HP.out.inv rfl).1.low t).2.2
           have hhi:aG.aB O t<len:=by
             by_cases h:0<=aG.aB O t
             · have:=((HP.out.inv rfl).1.oo t h).2.2.1;omega
             · omega
           simp only[List.length_cons]at hsl
           go_enter Tryz.func132,Tryz.ntmps132
           go_wp2_with fail
           refine hcon.mono ?_
           rintro e w2 ⟨rfl,hB⟩
           obtain⟨y0,y1,hlt⟩:=eB W _ _ _ hB
           have hs2:=HS.out.kept ((aC W _).trans (hB.mono (by simp)))
           clear hcon hB x0 x1 c0 c1 c2 c3 c4 f0 f1 f2 f3 f4
           have cZ:=XV k t htl h80 (by omega) hlo hhi hs2
           clear hs2 hlo hhi
           go_wp2_with fail
           refine cZ.mono ?_
           rintro e w3 ⟨rfl,hs3⟩
           clear cZ
           have mX:=aa hs3
           clear hs3
           go_wp2
           go_ret
           exact .inl ⟨_,_,_,_,rfl,mX.out,HP.out.TC Wn.out HO.out Vi.out⟩
       · have afG:(p==12)=false:=by simpa using h12
         go_enter Tryz.func132,Tryz.ntmps132
         go_wp2_with fail
         refine hcon.mono ?_
         rintro e w2 ⟨rfl,hB⟩
         obtain⟨y0,y1,hlt⟩:=eB W _ _ _ hB
         have hs2:=HS.out.kept ((aC W _).trans (hB.mono (by simp)))
         clear hcon hB x0 x1 c0 c1 c2 c3 c4 f0 f1 f2 f3 f4
         have mX:=aa hs2
         clear hs2
         go_wp2
         go_ret
         exact .inl ⟨_,_,_,_,rfl,mX.out,HP.out.other Wn.out HO.out (by rw[Vi.out];exact h11) (by rw[Vi.out];exact h12)⟩
   · rw[ho]at hcon
     have HO:Hid (St.opens (aG.op xs k)=true):=by rw[Vi.out];exact ho
     go_enter Tryz.func132,Tryz.ntmps132
     go_wp2_with fail
     refine hcon.mono ?_
     rintro e w2 ⟨rfl,hB⟩
     obtain⟨y0,y1,hlt⟩:=eB W _ _ _ hB
     have hs2:=HS.out.kept ((aC W _).trans (hB.mono (by simp)))
     clear hcon hB x0 x1 c0 c1 c2 c3 c4 f0 f1 f2 f3 f4
     have cZ:=LK k (by omega) hs2
     clear hs2
     go_wp2_with fail
     refine cZ.mono ?_
     rintro e w3 ⟨rfl,hs3⟩
     clear cZ
     have mX:=aa hs3
     clear hs3
     go_wp2
     go_ret
     exact .inl ⟨_,_,_,_,rfl,mX.out,HP.out.push Wn.out HO.out⟩
 · have hBw:=HS.out.dZ
   go_enter Tryz.func132,Tryz.ntmps132
   go_wp2
   go_ret
   exact .inr ⟨rfl,HP.out.noE Wn.out,hBw.alloc hBw.size _⟩
theorem xS (hl:SL w a len xs)(hall:St.bJ xs=true)(h80:len<=80)(n:Nat)(hn:n<=len)(hs:PS w m0 N gE gO a len cap (aG.dX len) (aG.dX len) [] false W):
   Calls Tryz.prog 104 #[.pointer (some ⟨N,0,none⟩), .int .i64 n] W fun e w'=>
     (∃E' O' S' b',e= .returned (.bool true)/\PS w m0 N gE gO a len cap E' O' S' b' w'/\PI xs n E' O' S' b')\/(e= .returned (.bool false)/\(aG.all xs).2.2=false/\Below w.heap.size w w'):=by
 have hp:=PI.first xs
 rw[hl.1]at hp
 go_enter Tryz.func104,Tryz.ntmps104
 go_wp2
 go_loopw [7] (fun i wr=>∃(k:Nat)(E O:List Int)(S:List Nat)(b:Bool),i= .int .i64 k/\k<=n/\PS w m0 N gE gO a len cap E O S b wr/\PI xs k E O S b) (fun i _=>n-(intOf i).toNat)
 case atStart=>exact⟨0,_,_,_,_,rfl,Nat.zero_le _,hs,hp⟩
 case round=>
   obtain⟨k,E,O,S,b,rfl,hk,hs1,hp1⟩:=hrel
   clear hs hp
   by_cases hlt:k<n
   · have hcon:=Ub hl hall h80 (show k<len by omega) hp1 hs1
     clear hs1 hp1
     go_wp2_with fail
     refine hcon.mono ?_
     rintro e w2 (⟨E',O',S',b',rfl,hs2,hp2⟩|⟨rfl,hno,hB⟩)
     · clear hcon
       have HS:=aa hs2
       have HP:=aa hp2
       clear hs2 hp2
       go_wp2
       go_roundw
       case rel=>exact⟨k+1,E',O',S',b',by simp,by omega,HS.out,HP.out⟩
       case measure=>simp[intOf];omega
     · clear hcon
       have HN:=aa hno
       clear hno
       go_wp2
       go_ret
       exact .inr ⟨rfl,HN.out,hB⟩
   · have hke:k=n:=by omega
     subst hke
     have HS:=aa hs1
     have HP:=aa hp1
     clear hs1 hp1
     go_wp2
     go_ret
     exact .inl ⟨E,O,S,b,rfl,HS.out,HP.out⟩
end
theorem PS.len {w:World}{m0 N gE gO:Nat}{a:Option Addr}{len cap:Nat}{E O:List Int}{S:List Nat}{b:Bool}{W:World}(hs:PS w m0 N gE gO a len cap E O S b W):E.length=len/\O.length=len:=by have h1:=hs.rE.1;have h2:=hs.rO.1;simp at h1 h2;exact⟨h1,h2⟩
def NB (W:World)(n0:Nat)(N:Nat)(E O:List Int):Prop:=
 ∃v0 v1 vE vO v4,ni W N v0 v1 vE vO v4/\OI W n0 vE E/\OI W n0 vO O/\n0<=N/\∃a0 l0 c0,v0= .slice a0 l0 c0
theorem PS.nb {w:World}{m0 N gE gO:Nat}{a:Option Addr}{len cap:Nat}{E O:List Int}{S:List Nat}{b:Bool}{W:World}{n0:Nat}(hs:PS w m0 N gE gO a len cap E O S b W)(hn:n0<=w.heap.size):NB W n0 N E O:=by obtain⟨v,hb,-⟩:=hs.st;obtain⟨l1,l2⟩:=hs.len;refine⟨_,_,_,_,_,hb,?_,?_,Nat.le_trans hn hs.iN.1,_,_,_,rfl⟩;{unfold OI;rw[l1];exact dO hs.rE hn};unfold OI;rw[l2];exact dO hs.rO hn
theorem PI.isOk {xs:List (Int×Int)}{n:Nat}{E O:List Int}{S:List Nat}{b:Bool}(h:PI xs xs.length E O S b)(hg:(decide (xs.length<=80)&&St.bJ xs)=true):aG.isOk xs=b/\(b=true->aG.ends xs=E/\aG.aT xs=O):=by rcases b with _|_;{refine⟨?_,fun h=>by cases h⟩;rw[aG.isOk,hg,(h.inv rfl).2,Bool.true_and,show xs.length+1-xs.length=0+1 by omega,aG.oH (Nat.le_refl _)]};have e:=h.fin rfl;have h1:aG.isOk xs=true:=by{rw[aG.isOk,hg,e];simp};refine⟨h1,fun _=>?_⟩;rw[aG.ends,aG.aT,ax h1,ax h1,e];exact⟨rfl,rfl⟩
theorem aG.ma {xs:List (Int×Int)}(h:aG.isOk xs=false):aG.ends xs=[]/\aG.aT xs=[]:=by rw[aG.ends,aG.aT,ak (by simp[h]),ak (by simp[h])];exact⟨rfl,rfl⟩
theorem mr (a:Option Addr)(len cap:Nat)(xs:List (Int×Int))(w:World)(hs:SL w a len xs):Calls Tryz.prog 71 #[.slice a len cap] w fun e w'=>∃N,e= .returned (.tuple #[.pointer (some ⟨N,0,none⟩), .bool (aG.isOk xs)])/\NB w' w.heap.size N (aG.ends xs) (aG.aT xs)/\Below w.heap.size w w':=by have hcon:=qc a len cap xs w hs;rcases hok:(decide (len<=80)&&St.bJ xs)with _|_;{rw[hok]at hcon;have iw:aG.isOk xs=false:=by{rw[aG.isOk,hs.1,hok,Bool.false_and]};rw[(aG.ma iw).1,(aG.ma iw).2,iw];clear iw hs hok;go_enter Tryz.func71,Tryz.ntmps71;go_wp2_with fail;refine hcon.mono ?_;rintro e w1 ⟨rfl,hB⟩;clear hcon;have cZ:=jF none 0 0 (Nat.zero_le _) w1;go_wp2_with fail;refine cZ.mono ?_;rintro e w2 ⟨m0,N,gE,gO,rfl,hps⟩;clear cZ;have hB2:=hB.trans (hps.dZ.mono hB.size);have HN:=aa (hps.nb hB.size);clear hps;go_wp2;go_ret2;exact⟨N,rfl,HN.out,hB2⟩};rw[hok]at hcon;have Vh:Hid ((decide (xs.length<=80)&&St.bJ xs)=true):=by{rw[hs.1];exact hok};rw[aj]at hok;have h80:len<=80:=of_decide_eq_true hok.1;have HA:=aa hok.2;clear hok;go_enter Tryz.func71,Tryz.ntmps71;go_wp2_with fail;refine hcon.mono ?_;rintro e w1 ⟨rfl,hB⟩;clear hcon;have hs1:=hs.kept hB;have cZ:=jF a len cap h80 w1;go_wp2_with fail;refine cZ.mono ?_;rintro e w2 ⟨m0,N,gE,gO,rfl,hps⟩;clear cZ;have j3:=xS hs1 HA.out h80 len (Nat.le_refl _) hps;clear hps;go_wp2_with fail;refine j3.mono ?_;rintro e w3 (⟨E',O',S',b',rfl,hs3,hp3⟩|⟨rfl,hno,hB3⟩);{clear j3;have hl:=hs.1;subst hl;obtain⟨q1,q2⟩:=hp3.isOk (n:=0) Vh.out;obtain⟨v,⟨h0,⟨c0,c1,c2,c3,c4⟩,f0,f1,f2,f3,f4⟩,-⟩:=hs3.st;have hB4:=hB.trans (hs3.dZ.mono hB.size);have mX:=aa hs3;clear hs3 hp3 hs hs1 c0 c1 c2 c3 f0 f1 f2 f3 f4;rcases b' with _|_;{obtain⟨z1,z2⟩:=aG.ma q1;have HZ:=aa (ai q1 (ai z1 z2));clear q1 q2 z1 z2;have rY:=jF none 0 0 (Nat.zero_le _) w3;go_wp2_with fail;refine rY.mono ?_;rintro e w4 ⟨m0',N',gE',gO',rfl,hps⟩;clear rY;have dH:=hB4.trans (hps.dZ.mono hB4.size);have HN:=aa (hps.nb hB4.size);clear hps;go_wp2;go_ret2;rw[HZ.out.1,HZ.out.2.1,HZ.out.2.2];exact⟨N',rfl,HN.out,dH⟩};obtain⟨z1,z2⟩:=q2 rfl;have HZ:=aa (ai q1 (ai z1 z2));clear q1 q2 z1 z2;have HN:=aa (mX.out.nb hB.size);go_wp2;go_ret2;rw[HZ.out.1,HZ.out.2.1,HZ.out.2.2];exact⟨N,rfl,HN.out,hB4⟩};clear j3;have iw:aG.isOk xs=false:=by{rw[aG.isOk,hno,Bool.and_false]};have hB4:=hB.trans (hB3.mono hB.size);have HZ:=aa iw;clear iw hno hs hs1;have rY:=jF none 0 0 (Nat.zero_le _) w3;go_wp2_with fail;refine rY.mono ?_;rintro e w4 ⟨m0',N',gE',gO',rfl,hps⟩;clear rY;have dH:=hB4.trans (hps.dZ.mono hB4.size);have HN:=aa (hps.nb hB4.size);clear hps;go_wp2;go_ret2;rw[(aG.ma HZ.out).1,(aG.ma HZ.out).2,HZ.out];exact⟨N',rfl,HN.out,dH⟩
theorem zR (a b:Int)(w:World)(ha:Wd.ok a=true)(hb:Wd.ok b=true):Calls Tryz.prog 90 #[.int .i64 1, .int .i64 a, .int .i64 b] w fun e w'=>e= .returned (.tuple #[.int .i64 (Wd.dv 1 a b), .int .i64 (Wd.dc 1 a b)])/\∃q,w'=w.drewN q:=by obtain⟨h3,h4⟩:=Wd.aP.1 ha;obtain⟨h5,h6⟩:=Wd.aP.1 hb;go_enter Tryz.func90,Tryz.ntmps90;go_wp2_with(first|(go_at_call 17;refine(aW _ _).mono ?_;rintro e w' ⟨rfl,rfl⟩)|(go_at_call 121;refine(dK _ _).mono ?_;rintro e w' ⟨rfl,rfl⟩)|(go_at_call 122;refine(bS _ _).mono ?_;rintro e w' ⟨rfl,rfl⟩)|go_in);all_goals(go_ret2;exact⟨dQ (Wd.dv1 ha hb) (Wd.iR ha hb (by omega) (by omega)),0,rfl⟩)
theorem AJ (a b:Int)(w:World)(ha:Wd.ok a=true)(hb:Wd.ok b=true):Calls Tryz.prog 90 #[.int .i64 2, .int .i64 a, .int .i64 b] w fun e w'=>e= .returned (.tuple #[.int .i64 (Wd.dv 2 a b), .int .i64 (Wd.dc 2 a b)])/\∃q,w'=w.drewN q:=by obtain⟨h3,h4⟩:=Wd.aP.1 ha;obtain⟨h5,h6⟩:=Wd.aP.1 hb;go_enter Tryz.func90,Tryz.ntmps90;go_wp2_with(first|(go_at_call 17;refine(aW _ _).mono ?_;rintro e w' ⟨rfl,rfl⟩)|(go_at_call 121;refine(dK _ _).mono ?_;rintro e w' ⟨rfl,rfl⟩)|(go_at_call 122;refine(bS _ _).mono ?_;rintro e w' ⟨rfl,rfl⟩)|go_in);all_goals(go_ret2;exact⟨dQ (Wd.dv2 ha hb) (Wd.iR ha hb (by omega) (by omega)),0,rfl⟩)
theorem AL (a b:Int)(w:World)(ha:Wd.ok a=true)(hb:Wd.ok b=true):Calls Tryz.prog 90 #[.int .i64 3, .int .i64 a, .int .i64 b] w fun e w'=>e= .returned (.tuple #[.int .i64 (Wd.dv 3 a b), .int .i64 (Wd.dc 3 a b)])/\∃q,w'=w.drewN q:=by obtain⟨h3,h4⟩:=Wd.aP.1 ha;obtain⟨h5,h6⟩:=Wd.aP.1 hb;go_enter Tryz.func90,Tryz.ntmps90;go_wp2_with(first|(go_at_call 17;refine(aW _ _).mono ?_;rintro e w' ⟨rfl,rfl⟩)|(go_at_call 121;refine(dK _ _).mono ?_;rintro e w' ⟨rfl,rfl⟩)|(go_at_call 122;refine(bS _ _).mono ?_;rintro e w' ⟨rfl,rfl⟩)|go_in);all_goals(go_ret2;exact⟨dQ (Wd.dv3 ha hb) (Wd.iR ha hb (by omega) (by omega)),0,rfl⟩)
theorem Ae (a b:Int)(w:World)(ha:Wd.ok a=true)(hb:Wd.ok b=true):Calls Tryz.prog 90 #[.int .i64 5, .int .i64 a, .int .i64 b] w fun e w'=>e= .returned (.tuple #[.int .i64 (Wd.dv 5 a b), .int .i64 (Wd.dc 5 a b)])/\∃q,w'=w.drewN q:=by obtain⟨h3,h4⟩:=Wd.aP.1 ha;obtain⟨h5,h6⟩:=Wd.aP.1 hb;go_enter Tryz.func90,Tryz.ntmps90;go_wp2_with(first|(go_at_call 17;refine(aW _ _).mono ?_;rintro e w' ⟨rfl,rfl⟩)|(go_at_call 121;refine(dK _ _).mono ?_;rintro e w' ⟨rfl,rfl⟩)|(go_at_call 122;refine(bS _ _).mono ?_;rintro e w' ⟨rfl,rfl⟩)|go_in);all_goals(go_ret2;exact⟨dQ (Wd.dv5 ha hb) (Wd.iR ha hb (by omega) (by omega)),0,rfl⟩)
theorem zY (a b:Int)(w:World)(ha:Wd.ok a=true)(hb:Wd.ok b=true):Calls Tryz.prog 90 #[.int .i64 6, .int .i64 a, .int .i64 b] w fun e w'=>e= .returned (.tuple #[.int .i64 (Wd.dv 6 a b), .int .i64 (Wd.dc 6 a b)])/\∃q,w'=w.drewN q:=by obtain⟨h3,h4⟩:=Wd.aP.1 ha;obtain⟨h5,h6⟩:=Wd.aP.1 hb;go_enter Tryz.func90,Tryz.ntmps90;go_wp2_with(first|(go_at_call 17;refine(aW _ _).mono ?_;rintro e w' ⟨rfl,rfl⟩)|(go_at_call 121;refine(dK _ _).mono ?_;rintro e w' ⟨rfl,rfl⟩)|(go_at_call 122;refine(bS _ _).mono ?_;rintro e w' ⟨rfl,rfl⟩)|go_in);all_goals(go_ret2;exact⟨dQ (Wd.dv6 ha hb) (Wd.iR ha hb (by omega) (by omega)),0,rfl⟩)
theorem zW (a b:Int)(w:World)(ha:Wd.ok a=true)(hb:Wd.ok b=true):Calls Tryz.prog 90 #[.int .i64 7, .int .i64 a, .int .i64 b] w fun e w'=>e= .returned (.tuple #[.int .i64 (Wd.dv 7 a b), .int .i64 (Wd.dc 7 a b)])/\∃q,w'=w.drewN q:=by obtain⟨h3,h4⟩:=Wd.aP.1 ha;obtain⟨h5,h6⟩:=Wd.aP.1 hb;go_enter Tryz.func90,Tryz.ntmps90;go_wp2_with(first|(go_at_call 17;refine(aW _ _).mono ?_;rintro e w' ⟨rfl,rfl⟩)|(go_at_call 121;refine(dK _ _).mono ?_;rintro e w' ⟨rfl,rfl⟩)|(go_at_call 122;refine(bS _ _).mono ?_;rintro e w' ⟨rfl,rfl⟩)|go_in);all_goals(go_ret2;exact⟨dQ (Wd.dv7 ha hb) (Wd.iR ha hb (by omega) (by omega)),0,rfl⟩)
theorem zT (a b:Int)(w:World)(ha:Wd.ok a=true)(hb:Wd.ok b=true):Calls Tryz.prog 90 #[.int .i64 8, .int .i64 a, .int .i64 b] w fun e w'=>e= .returned (.tuple #[.int .i64 (Wd.dv 8 a b), .int .i64 (Wd.dc 8 a b)])/\∃q,w'=w.drewN q:=by obtain⟨h3,h4⟩:=Wd.aP.1 ha;obtain⟨h5,h6⟩:=Wd.aP.1 hb;go_enter Tryz.func90,Tryz.ntmps90;go_wp2_with(first|(go_at_call 17;refine(aW _ _).mono ?_;rintro e w' ⟨rfl,rfl⟩)|(go_at_call 121;refine(dK _ _).mono ?_;rintro e w' ⟨rfl,rfl⟩)|(go_at_call 122;refine(bS _ _).mono ?_;rintro e w' ⟨rfl,rfl⟩)|go_in);all_goals(go_ret2;exact⟨dQ (Wd.dv8 ha hb) (Wd.iR ha hb (by omega) (by omega)),0,rfl⟩)
theorem zi (a b:Int)(w:World)(ha:Wd.ok a=true)(hb:Wd.ok b=true):Calls Tryz.prog 90 #[.int .i64 9, .int .i64 a, .int .i64 b] w fun e w'=>e= .returned (.tuple #[.int .i64 (Wd.dv 9 a b), .int .i64 (Wd.dc 9 a b)])/\∃q,w'=w.drewN q:=by obtain⟨h3,h4⟩:=Wd.aP.1 ha;obtain⟨h5,h6⟩:=Wd.aP.1 hb;go_enter Tryz.func90,Tryz.ntmps90;go_wp2_with(first|(go_at_call 17;refine(aW _ _).mono ?_;rintro e w' ⟨rfl,rfl⟩)|(go_at_call 121;refine(dK _ _).mono ?_;rintro e w' ⟨rfl,rfl⟩)|(go_at_call 122;refine(bS _ _).mono ?_;rintro e w' ⟨rfl,rfl⟩)|go_in);all_goals(go_ret2;exact⟨dQ (Wd.dv9 ha hb) (Wd.iR ha hb (by omega) (by omega)),0,rfl⟩)
theorem xQ (a b:Int)(w:World)(ha:Wd.ok a=true)(hb:Wd.ok b=true)(h:Wd.sg b=0):Calls Tryz.prog 90 #[.int .i64 4, .int .i64 a, .int .i64 b] w fun e w'=>e= .returned (.tuple #[.int .i64 (Wd.dv 4 a b), .int .i64 (Wd.dc 4 a b)])/\∃q,w'=w.drewN q:=by obtain⟨h3,h4⟩:=Wd.aP.1 ha;obtain⟨h5,h6⟩:=Wd.aP.1 hb;have h0:(Wd.sg b==0)=true:=by{simp[h]};have H:RowKit.Hid (Wd.sg b=0):=h;clear h;go_enter Tryz.func90,Tryz.ntmps90;go_wp2_with(first|(go_at_call 17;refine(aW _ _).mono ?_;rintro e w' ⟨rfl,rfl⟩)|(go_at_call 121;refine(dK _ _).mono ?_;rintro e w' ⟨rfl,rfl⟩)|(go_at_call 122;refine(bS _ _).mono ?_;rintro e w' ⟨rfl,rfl⟩)|go_in);all_goals(go_ret2;exact⟨dQ (Wd.UW ha hb H.out) (Wd.XE ha hb H.out),0,rfl⟩)
theorem xI (a b:Int)(w:World)(ha:Wd.ok a=true)(hb:Wd.ok b=true)(h:Wd.sg a=-2147483648)(h':Wd.sg b=-1):Calls Tryz.prog 90 #[.int .i64 4, .int .i64 a, .int .i64 b] w fun e w'=>e= .returned (.tuple #[.int .i64 (Wd.dv 4 a b), .int .i64 (Wd.dc 4 a b)])/\∃q,w'=w.drewN q:=by obtain⟨h3,h4⟩:=Wd.aP.1 ha;obtain⟨h5,h6⟩:=Wd.aP.1 hb;go_enter Tryz.func90,Tryz.ntmps90;go_wp2_with(first|(go_at_call 17;refine(aW _ _).mono ?_;rintro e w' ⟨rfl,rfl⟩)|(go_at_call 121;refine(dK _ _).mono ?_;rintro e w' ⟨rfl,rfl⟩)|(go_at_call 122;refine(bS _ _).mono ?_;rintro e w' ⟨rfl,rfl⟩)|go_in);all_goals(go_ret2;exact⟨dQ (Wd.UT ha hb h h') (Wd.XI ha hb h h'),0,rfl⟩)
theorem xK (a b:Int)(w:World)(ha:Wd.ok a=true)(hb:Wd.ok b=true)(h0:¬Wd.sg b=0)(h:¬(Wd.sg a=-2147483648/\Wd.sg b=-1)):Calls Tryz.prog 90 #[.int .i64 4, .int .i64 a, .int .i64 b] w fun e w'=>e= .returned (.tuple #[.int .i64 (Wd.dv 4 a b), .int .i64 (Wd.dc 4 a b)])/\∃q,w'=w.drewN q:=by obtain⟨h3,h4⟩:=Wd.aP.1 ha;obtain⟨h5,h6⟩:=Wd.aP.1 hb;have h1:(Wd.sg b==0)=false:=by{simp[h0]};have H:RowKit.Hid (¬(Wd.sg a=-2147483648/\Wd.sg b=-1)):=h;have h2:(Wd.sg a==-2147483648)=true->(Wd.sg b==-1)=false:=by{simpa using h};clear h;go_enter Tryz.func90,Tryz.ntmps90;go_wp2_with(first|(go_at_call 17;refine(aW _ _).mono ?_;rintro e w' ⟨rfl,rfl⟩)|(go_at_call 121;refine(dK _ _).mono ?_;rintro e w' ⟨rfl,rfl⟩)|(go_at_call 122;refine(bS _ _).mono ?_;rintro e w' ⟨rfl,rfl⟩)|go_in);all_goals(go_ret2;first|exact⟨dQ (Wd.TY ha hb h0 H.out) (Wd.UG ha hb h0 H.out),0,rfl⟩|exact⟨dQ (Wd.afv ha hb h0 H.out ‹_›) (Wd.UG ha hb h0 H.out),0,rfl⟩)
theorem vY (a b:Int)(w:World)(ha:Wd.ok a=true)(hb:Wd.ok b=true)(h:(a==b)=true):Calls Tryz.prog 90 #[.int .i64 10, .int .i64 a, .int .i64 b] w fun e w'=>e= .returned (.tuple #[.int .i64 (Wd.dv 10 a b), .int .i64 (Wd.dc 10 a b)])/\∃q,w'=w.drewN q:=by obtain⟨h3,h4⟩:=Wd.aP.1 ha;obtain⟨h5,h6⟩:=Wd.aP.1 hb;go_enter Tryz.func90,Tryz.ntmps90;go_wp2_with(first|(go_at_call 17;refine(aW _ _).mono ?_;rintro e w' ⟨rfl,rfl⟩)|(go_at_call 121;refine(dK _ _).mono ?_;rintro e w' ⟨rfl,rfl⟩)|(go_at_call 122;refine(bS _ _).mono ?_;rintro e w' ⟨rfl,rfl⟩)|go_in);all_goals(go_ret2;exact⟨dQ (Wd.GL ha hb (by simpa using h)) (Wd.iR ha hb (by omega) (by omega)),0,rfl⟩)
theorem vR (a b:Int)(w:World)(ha:Wd.ok a=true)(hb:Wd.ok b=true)(h:(a==b)=false):Calls Tryz.prog 90 #[.int .i64 10, .int .i64 a, .int .i64 b] w fun e w'=>e= .returned (.tuple #[.int .i64 (Wd.dv 10 a b), .int .i64 (Wd.dc 10 a b)])/\∃q,w'=w.drewN q:=by obtain⟨h3,h4⟩:=Wd.aP.1 ha;obtain⟨h5,h6⟩:=Wd.aP.1 hb;go_enter Tryz.func90,Tryz.ntmps90;go_wp2_with(first|(go_at_call 17;refine(aW _ _).mono ?_;rintro e w' ⟨rfl,rfl⟩)|(go_at_call 121;refine(dK _ _).mono ?_;rintro e w' ⟨rfl,rfl⟩)|(go_at_call 122;refine(bS _ _).mono ?_;rintro e w' ⟨rfl,rfl⟩)|go_in);all_goals(go_ret2;exact⟨dQ (Wd.Ia ha hb (by simpa using h)) (Wd.iR ha hb (by omega) (by omega)),0,rfl⟩)
theorem vW (a b:Int)(w:World)(ha:Wd.ok a=true)(hb:Wd.ok b=true)(h:Wd.sg a<Wd.sg b):Calls Tryz.prog 90 #[.int .i64 11, .int .i64 a, .int .i64 b] w fun e w'=>e= .returned (.tuple #[.int .i64 (Wd.dv 11 a b), .int .i64 (Wd.dc 11 a b)])/\∃q,w'=w.drewN q:=by obtain⟨h3,h4⟩:=Wd.aP.1 ha;obtain⟨h5,h6⟩:=Wd.aP.1 hb;go_enter Tryz.func90,Tryz.ntmps90;go_wp2_with(first|(go_at_call 17;refine(aW _ _).mono ?_;rintro e w' ⟨rfl,rfl⟩)|(go_at_call 121;refine(dK _ _).mono ?_;rintro e w' ⟨rfl,rfl⟩)|(go_at_call 122;refine(bS _ _).mono ?_;rintro e w' ⟨rfl,rfl⟩)|go_in);all_goals(go_ret2;exact⟨dQ (Wd.La ha hb (by simpa using h)) (Wd.iR ha hb (by omega) (by omega)),0,rfl⟩)
theorem vD (a b:Int)(w:World)(ha:Wd.ok a=true)(hb:Wd.ok b=true)(h:¬Wd.sg a<Wd.sg b):Calls Tryz.prog 90 #[.int .i64 11, .int .i64 a, .int .i64 b] w fun e w'=>e= .returned (.tuple #[.int .i64 (Wd.dv 11 a b), .int .i64 (Wd.dc 11 a b)])/\∃q,w'=w.drewN q:=by obtain⟨h3,h4⟩:=Wd.aP.1 ha;obtain⟨h5,h6⟩:=Wd.aP.1 hb;go_enter Tryz.func90,Tryz.ntmps90;go_wp2_with(first|(go_at_call 17;refine(aW _ _).mono ?_;rintro e w' ⟨rfl,rfl⟩)|(go_at_call 121;refine(dK _ _).mono ?_;rintro e w' ⟨rfl,rfl⟩)|(go_at_call 122;refine(bS _ _).mono ?_;rintro e w' ⟨rfl,rfl⟩)|go_in);all_goals(go_ret2;exact⟨dQ (Wd.KO ha hb (by simpa using h)) (Wd.iR ha hb (by omega) (by omega)),0,rfl⟩)
theorem vB (a b:Int)(w:World)(ha:Wd.ok a=true)(hb:Wd.ok b=true)(h:a<b):Calls Tryz.prog 90 #[.int .i64 12, .int .i64 a, .int .i64 b] w fun e w'=>e= .returned (.tuple #[.int .i64 (Wd.dv 12 a b), .int .i64 (Wd.dc 12 a b)])/\∃q,w'=w.drewN q:=by obtain⟨h3,h4⟩:=Wd.aP.1 ha;obtain⟨h5,h6⟩:=Wd.aP.1 hb;go_enter Tryz.func90,Tryz.ntmps90;go_wp2_with(first|(go_at_call 17;refine(aW _ _).mono ?_;rintro e w' ⟨rfl,rfl⟩)|(go_at_call 121;refine(dK _ _).mono ?_;rintro e w' ⟨rfl,rfl⟩)|(go_at_call 122;refine(bS _ _).mono ?_;rintro e w' ⟨rfl,rfl⟩)|go_in);all_goals(go_ret2;exact⟨dQ (Wd.MG ha hb (by simpa using h)) (Wd.iR ha hb (by omega) (by omega)),0,rfl⟩)
theorem vM (a b:Int)(w:World)(ha:Wd.ok a=true)(hb:Wd.ok b=true)(h:¬a<b):Calls Tryz.prog 90 #[.int .i64 12, .int .i64 a, .int .i64 b] w fun e w'=>e= .returned (.tuple #[.int .i64 (Wd.dv 12 a b), .int .i64 (Wd.dc 12 a b)])/\∃q,w'=w.drewN q:=by obtain⟨h3,h4⟩:=Wd.aP.1 ha;obtain⟨h5,h6⟩:=Wd.aP.1 hb;go_enter Tryz.func90,Tryz.ntmps90;go_wp2_with(first|(go_at_call 17;refine(aW _ _).mono ?_;rintro e w' ⟨rfl,rfl⟩)|(go_at_call 121;refine(dK _ _).mono ?_;rintro e w' ⟨rfl,rfl⟩)|(go_at_call 122;refine(bS _ _).mono ?_;rintro e w' ⟨rfl,rfl⟩)|go_in);all_goals(go_ret2;exact⟨dQ (Wd.KC ha hb (by simpa using h)) (Wd.iR ha hb (by omega) (by omega)),0,rfl⟩)
end Go.Proofs.YthpdpoocigpccaaGreatDoor
