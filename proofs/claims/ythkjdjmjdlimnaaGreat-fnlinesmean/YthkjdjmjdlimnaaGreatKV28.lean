/- Own text. -/
import Derived.Test.YthkjdjmjdlimnaaGreatKV27
import Derived.Lib.SlicesCompact
import Derived.Lib.RowBridge
import Derived.Sort.OwnSortedInts
import Derived.Shelf.SlGeneric
import Derived.Ground.SlgnProg
import Derived.Shelf.SortG.Plain
import Derived.Shelf.SortG.SortNone
import Derived.Shelf.SlicesG.CompactI
import Derived.Test.YthkjdjmjdlimnaaGreatProg
namespace Go.Proofs.YthkjdjmjdlimnaaGreat
open Go.RowKit Go.Shelf
set_option linter.all false
set_option maxRecDepth 100000
set_option maxHeartbeats 16000000
variable {Q:Exit->Act->World->Prop}{W w:World}{c g i k m n n₀ q:Nat}{f:List Nat}{l xs ys zs:List Int}{o:Oper}{ops:Array Oper}{rest:List Oper}
theorem wN (x:Ln)(h1:1<=x.k)(h2:x.k<=11)(la:Option Addr)(ln lc:Nat)(w:World)(hs:IL w la ln x.l)(h3:x.k=7->ln<=3)(hr:(Ln.rd x).length<=1000):Calls Tryz.prog 142 #[dI x (.slice la ln lc)] w fun e w'=>∃g m c,e= .returned (.slice (some ⟨g,0,none⟩) m c)/\OG w' w.heap.size g m c (Ln.told x)/\Below w.heap.size w w':=by have hcon:=wP x h1 h2 la ln lc w hs h3;have gY:=fun W=>uY x h1 h2 la ln lc W;obtain⟨sv,hsv⟩:=aF (dI x (.slice la ln lc));rw[hsv]at hcon gY ⊢;obtain⟨d,hd⟩:=aF (x.d);have HT:Hid (Ln.told x=Ln.rd x++(if Ln.Zt x=true then[d]else[])):=by{show _=_;rw[←hd];rfl};rw[hd]at gY;obtain⟨T,hT⟩:=aF (Ln.told x);rw[hT]at HT ⊢;clear hsv hs hd hT h1 h2 h3;rcases hw:Ln.Zt x with _|_;{have sQ:=fun W=>gY W;simp only[hw]at sQ;have HT2:Hid (T=Ln.rd x):=by{show _=_;rw[HT.out,hw];simp};clear gY HT hr;go_enter Tryz.func142,Tryz.ntmps142;go_wp2_with fail;refine hcon.mono ?_;rintro e w1⟨g,m,c,rfl,ho,hB⟩;dsimp only;clear hcon;have Kt:=sQ w1;go_wp2_with fail;refine Kt.mono ?_;rintro e w2⟨rfl,hB2⟩;dsimp only;have HF:=ae (ak (ho.kept hB2) (hB.trans (hB2.mono hB.size)));clear Kt sQ ho hB hB2;go_wp2;go_ret;exact⟨g,m,c,rfl,by rw[HT2.out];exact HF.out.1,HF.out.2⟩};have sQ:=fun W=>gY W;simp only[hw]at sQ;have HT2:Hid (T=Ln.rd x++[d]):=by{show _=_;rw[HT.out,hw];simp};clear gY HT;go_enter Tryz.func142,Tryz.ntmps142;go_wp2_with fail;refine hcon.mono ?_;rintro e w1⟨g,m,c,rfl,ho,hB⟩;dsimp only;clear hcon;have Kt:=sQ w1;go_wp2_with fail;refine Kt.mono ?_;rintro e w2⟨rfl,hB2⟩;dsimp only;have hm:m<=1000:=by{have:=ho.1;omega};have hB3:=hB.trans (hB2.mono hB.size);have hsz:=hB3.size;have hal:=aB w2 (.cells #[.int .i64 d] 2);have WG:=ae (hB3.trans (hal.mono hB3.size));have HO:=ae ((ho.kept hB2).kept hal);have hc3:Hid (∀j,j<1->(w2.alloc (.cells #[.int .i64 d] 2)).cell? ⟨w2.heap.size,0+j,none⟩=some (.int .i64 ([d].getD j 0))):=fun j hj=>by{have:j=0:=by{omega};subst this;rw[World.cell?_alloc_at _ _ _ _ (by simp)];rfl};have hgl:=(ho.kept hB2).lt;clear Kt sQ ho hB hB2 hB3 hal;go_wp2_with(at_builtin;refine xq _ rfl _ _ rfl w.heap.size _ _ _ _ rfl HO.out w2.heap.size 0 1 1 [d] rfl rfl hc3.out (by omega) (by simp;omega) ?_;intro g1 c1 N1 w3 hN1 ho1 Kr;have HF:=ae (ak ho1 (aG WG.out Kr (by omega)));clear ho1 Kr);go_ret;exact⟨_,_,_,rfl,by rw[HT2.out];exact HF.out.1,HF.out.2⟩
namespace Ln
theorem afR(h:(l.take i).all bx=true)(hi:i<l.length):(l.take (i+1)).all bx=bx (l.getD i 0):=by rw[PR,ai hi,List.all_append,h,ah,ai hi];simp
theorem af5(hi:i<l.length)(h:bx (l.getD i 0)=false):l.all bx=false:=by rw[List.all_eq_false];refine⟨l.getD i 0,?_,by rw[h];decide⟩;rw[ah,ai hi];exact u7 hi
end Ln
theorem CL (x:Ln)(h1:1<=x.k)(h2:x.k<=11)(la:Option Addr)(ln lc:Nat)(w:World)(hs:IL w la ln x.l)(h3:x.k=7->ln<=3)(hr:(Ln.rd x).length<=1000):Calls Tryz.prog 135 #[dI x (.slice la ln lc)] w fun e w'=>e= .returned (.bool ((Ln.told x).all Ln.bx))/\Below w.heap.size w w':=by have hcon:=wN x h1 h2 la ln lc w hs h3 hr;obtain⟨sv,hsv⟩:=aF (dI x (.slice la ln lc));rw[hsv]at hcon ⊢;obtain⟨T,hT⟩:=aF (Ln.told x);rw[hT]at hcon ⊢;obtain⟨R,hR⟩:=aF (T.all Ln.bx);rw[hR];have HR:=ae hR;clear hsv hs hT h1 h2 h3 hr hR;go_enter Tryz.func135,Tryz.ntmps135;go_wp2_with fail;refine hcon.mono ?_;rintro e w1⟨g,m,c,rfl,ho,hB⟩;dsimp only;clear hcon;have HC:Hid (∀j,j<m->w1.cell? ⟨g,j,none⟩=some (.int .i64 (T.getD j 0))):=fun j hj=>ho.cell hj;have HL:=ae ho.1;have hg:=ho.lt;have hm:m<=9223372036854775807:=by{have:=ho.cap;unfold maxLen at this;omega};clear ho;go_wp2;go_loopw [8] (fun vi wr=>∃k:Nat,vi= .int .i64 k/\k<=m/\Hid ((T.take k).all Ln.bx=true)/\w1=wr) (fun i _=>m-(intOf i).toNat);(case atStart=>exact⟨0,rfl,jT _,(by show _=_;simp),rfl⟩);case round=>obtain⟨k,rfl,hk,HA,dC⟩:=hrel;subst dC;by_cases hlt:k<m;{have gI:(k:Int)<(m:Int):=by{omega};have hc:=HC.out k hlt;obtain⟨y,hy⟩:=aF (T.getD k 0);rw[hy]at hc;have HY:=ae hy;clear hy;have hcon:=bH y 0 39 w1;rcases hb:Wd.dP y 0 39 with _|_;{rw[hb]at hcon;have HF:Hid (R=false):=by{show _=_;rw[←HR.out];exact Ln.af5 (by rw[HL.out];exact hlt) (by rw[HY.out];exact hb)};go_wp2_with(go_at_call 66;refine hcon.mono ?_;rintro e w'⟨rfl,dC⟩;subst w';dsimp only);go_ret;exact⟨by rw[HF.out]<;>rfl,hB⟩};rw[hb]at hcon;have HF:Hid ((T.take (k+1)).all Ln.bx=true):=by{show _=_;rw[Ln.afR HA.out (by rw[HL.out];exact hlt),HY.out];exact hb};go_wp2_with(go_at_call 66;refine hcon.mono ?_;rintro e w'⟨rfl,dC⟩;subst w';dsimp only);go_roundw;(case rel=>exact⟨k+1,by simp,hlt,HF,by simp⟩);case measure=>simp[intOf];omega};have hke:k=m:=by{omega};have HF:Hid (R=true):=by{show _=_;have:=HA.out;rw[hke,←HL.out,List.take_length]at this;rw[←HR.out,this]};have gI:¬(k:Int)<(m:Int):=by{omega};clear hke;go_wp2;go_ret;exact⟨by rw[HF.out]<;>rfl,hB⟩
theorem sF (x:Ln)(h1:1<=x.k)(h2:x.k<=11)(la:Option Addr)(ln lc:Nat)(m:Int)(hm1:0<=m)(hm2:m<=1000000)(w:World):Calls Tryz.prog 119 #[dI x (.slice la ln lc), .int .i64 m] w fun e w'=>e= .returned (.bool (Ln.place m x))/\Below w.heap.size w w':=by have hcon:=vY x h1 h2 la ln lc w;obtain⟨sv,hsv⟩:=aF (dI x (.slice la ln lc));rw[hsv]at hcon ⊢;obtain⟨n,hn⟩:=aF (x.n);have HP:Hid (Ln.place m x=(!Ln.lu x||Wd.dP n 0 (m-1))):=by{show _=_;rw[←hn];rfl};obtain⟨P,hP⟩:=aF (Ln.place m x);rw[hP]at HP ⊢;rw[hn]at hcon;clear hsv h1 h2 hn hP;rcases hg:Ln.lu x with _|_;{simp only[hg]at hcon;have HF:Hid (P=true):=by{show _=_;rw[HP.out,hg];rfl};clear HP;go_enter Tryz.func119,Tryz.ntmps119;go_wp2_with fail;refine hcon.mono ?_;rintro e w1⟨rfl,hB⟩;dsimp only;go_wp2;go_ret;exact⟨by rw[HF.out]<;>rfl,hB⟩};simp only[hg]at hcon;have HF:Hid (P=Wd.dP n 0 (m-1)):=by{show _=_;rw[HP.out,hg];rfl};have gY:=fun W=>bH n 0 (m-1) W;obtain⟨R,hR⟩:=aF (Wd.dP n 0 (m-1));rw[hR]at HF;simp only[hR]at gY;clear HP hR;go_enter Tryz.func119,Tryz.ntmps119;go_wp2_with fail;refine hcon.mono ?_;rintro e w1⟨rfl,hB⟩;dsimp only;have sQ:=gY w1;clear gY;go_wp2_with(go_at_call 66;refine sQ.mono ?_;rintro e w'⟨rfl,dC⟩;subst w';dsimp only);go_ret;exact⟨by rw[HF.out]<;>rfl,hB⟩
theorem NL(h:xs.take k=ys.take k)(hx:k<xs.length)(hy:k<ys.length)(e:xs.getD k 0=ys.getD k 0):xs.take (k+1)=ys.take (k+1):=by rw[PR,PR,h];rw[ah,ah,ai hx,ai hy]at e;rw[ai hx,ai hy];simp only[Option.getD_some]at e;rw[e]
theorem Dr (xa ya:Option Addr)(n m xc yc:Nat)(xs ys:List Int)(w:World)(hx:IL w xa n xs)(hy:IL w ya m ys):Calls Tryz.prog 141 #[.slice xa n xc, .slice ya m yc] w fun e w'=>e= .returned (.bool (decide (xs=ys)))/\Below w.heap.size w w':=by have hl:=hx.1;have hl2:=hy.1;obtain⟨R,hR⟩:=aF (decide (xs=ys));rw[hR];have HR:=ae hR;clear hR;have hm:n<=9223372036854775807:=by{have:=hx.2.1;unfold maxLen at this;omega};have HX:=ae hx;have HY:=ae hy;have HL:=ae (ak hl hl2);by_cases hnm:n=m;{clear hl hl2 hx hy;subst hnm;go_enter Tryz.func141,Tryz.ntmps141;go_wp2;go_loopw [13] (fun vi wr=>∃k q:Nat,vi= .int .i64 k/\k<=n/\Hid (xs.take k=ys.take k)/\wr=w.drewN q) (fun i _=>n-(intOf i).toNat);(case atStart=>exact⟨0,0,rfl,jT _,(by show _=_;simp),rfl⟩);case round=>obtain⟨k,q,rfl,hk,HA,rfl⟩:=hrel;by_cases hlt:k<n;{have gI:(k:Int)<(n:Int):=by{omega};obtain⟨-,-,h0|⟨xb,xo,rfl,hxb,hcx⟩⟩:=HX.out;{omega};obtain⟨-,-,h0|⟨yb,yo,rfl,hyb,hcy⟩⟩:=HY.out;{omega};have g1:=hcx k hlt;have g2:=hcy k hlt;obtain⟨x,hx⟩:=aF (xs.getD k 0);obtain⟨y,hy⟩:=aF (ys.getD k 0);rw[hx]at g1;rw[hy]at g2;have HXY:=ae (ak hx hy);clear hcx hcy hx hy HX HY;by_cases e:x=y;{have HF:Hid (xs.take (k+1)=ys.take (k+1)):=NL HA.out (by rw[HL.out.1];exact hlt) (by rw[HL.out.2];exact hlt) (by rw[HXY.out.1,HXY.out.2,e]);subst e;go_wp2_with fail;go_region;go_wp2;go_roundw;(case rel=>exact⟨k+1,q+1,by simp,hlt,HF,rfl⟩);case measure=>simp[intOf];omega};have HF:Hid (R=false):=by{show _=_;rw[←HR.out];refine decide_eq_false fun h=>e ?_;rw[←HXY.out.1,←HXY.out.2,h]};go_wp2_with fail;go_region;go_wp2;go_ret;exact⟨by rw[HF.out]<;>rfl,below_drewN _ _⟩};have hke:k=n:=by{omega};have HF:Hid (R=true):=by{show _=_;have:=HA.out;rw[hke]at this;have e1:xs.take n=xs:=List.take_of_length_le (by rw[HL.out.1];exact bI _);have e2:ys.take n=ys:=List.take_of_length_le (by rw[HL.out.2];exact bI _);rw[e1,e2]at this;rw[←HR.out,this];simp};have gI:¬(k:Int)<(n:Int):=by{omega};clear hke;go_wp2;go_ret;exact⟨by rw[HF.out]<;>rfl,below_drewN _ _⟩};have HF:Hid (R=false):=by{show _=_;rw[←HR.out];refine decide_eq_false fun h=>hnm ?_;rw[←hl,←hl2,h]};have hnZ:¬((n:Int)=(m:Int)):=by{omega};clear hl hl2 hx hy;go_enter Tryz.func141,Tryz.ntmps141;go_wp2;go_ret;exact⟨by rw[HF.out]<;>rfl,eG _ _⟩
theorem DN (x:Ln)(la:Option Addr)(ln lc:Nat)(w:World):Calls Tryz.prog 132 #[.agg #[.int .i64 x.k, .int .i64 x.d, .int .i64 x.a, .int .i64 x.b, .int .i64 x.n, .slice la ln lc]] w fun e w'=>e= .returned (dI x (.slice la ln lc))/\Below w.heap.size w w':=by obtain⟨k,d,a,b,n,l⟩:=x;simp only;have hB:=aB w (.cells #[.int .i64 k, .int .i64 d, .int .i64 a, .int .i64 b, .int .i64 n, .slice la ln lc] 109);by_cases hk:1<=k/\k<=11;{rcases Ln.kinds hk.1 hk.2 with rfl|rfl|rfl|rfl|rfl|rfl|rfl|rfl|rfl|rfl|rfl;all_goals clear hk;go_enter Tryz.func132,Tryz.ntmps132;go_wp2;go_ret;exact⟨rfl,hB⟩};have e:dI ⟨k,d,a,b,n,l⟩ (.slice la ln lc)= .nilIface:=by{unfold dI;simp only;repeat(rw[ax (by omega)])};rw[e];have e1:(k==1)=false:=by{simp;omega};have e2:(k==2)=false:=by{simp;omega};have e3:(k==3)=false:=by{simp;omega};have e4:(k==4)=false:=by{simp;omega};have e5:(k==5)=false:=by{simp;omega};have e6:(k==6)=false:=by{simp;omega};have e7:(k==7)=false:=by{simp;omega};have e8:(k==8)=false:=by{simp;omega};have e9:(k==9)=false:=by{simp;omega};have e10:(k==10)=false:=by{simp;omega};have e11:(k==11)=false:=by{simp;omega};clear hk e;go_enter Tryz.func132,Tryz.ntmps132;go_wp2;go_ret;exact⟨rfl,hB⟩
theorem agi (d a b n:Int)(la:Option Addr)(ln lc:Nat)(w:World):Calls Tryz.prog 177 #[.agg #[.int .i64 d, .int .i64 n]] w fun e w'=>e= .returned (.agg #[.int .i64 1, .int .i64 d, .int .i64 0, .int .i64 0, .int .i64 n, .slice none 0 0])/\Below w.heap.size w w':=by have hB:=aB w (.cells #[.int .i64 d, .int .i64 n] 194);have hB2:=hB.trans ((aB _ (.cells #[.int .i64 1, .int .i64 d, .int .i64 0, .int .i64 0, .int .i64 n, .slice none 0 0] 109)).mono hB.size);go_enter Tryz.func177,Tryz.ntmps177;go_wp2;(try simp only[Exit.inBlock,Exit.then]);refine iw (v:= .agg #[.int .i64 1, .int .i64 d, .int .i64 0, .int .i64 0, .int .i64 n, .slice none 0 0]) ?_ rfl ⟨rfl,hB2⟩;rw[aO rfl];go_simp
theorem af2 (d a b n:Int)(la:Option Addr)(ln lc:Nat)(w:World):Calls Tryz.prog 178 #[.agg #[.int .i64 d, .int .i64 a]] w fun e w'=>e= .returned (.agg #[.int .i64 2, .int .i64 d, .int .i64 a, .int .i64 0, .int .i64 0, .slice none 0 0])/\Below w.heap.size w w':=by have hB:=aB w (.cells #[.int .i64 d, .int .i64 a] 196);have hB2:=hB.trans ((aB _ (.cells #[.int .i64 2, .int .i64 d, .int .i64 a, .int .i64 0, .int .i64 0, .slice none 0 0] 109)).mono hB.size);go_enter Tryz.func178,Tryz.ntmps178;go_wp2;(try simp only[Exit.inBlock,Exit.then]);refine iw (v:= .agg #[.int .i64 2, .int .i64 d, .int .i64 a, .int .i64 0, .int .i64 0, .slice none 0 0]) ?_ rfl ⟨rfl,hB2⟩;rw[aO rfl];go_simp
theorem afT (d a b n:Int)(la:Option Addr)(ln lc:Nat)(w:World):Calls Tryz.prog 179 #[.agg #[.int .i64 d, .int .i64 n, .int .i64 a, .int .i64 b]] w fun e w'=>e= .returned (.agg #[.int .i64 3, .int .i64 d, .int .i64 a, .int .i64 b, .int .i64 n, .slice none 0 0])/\Below w.heap.size w w':=by have hB:=aB w (.cells #[.int .i64 d, .int .i64 n, .int .i64 a, .int .i64 b] 199);have hB2:=hB.trans ((aB _ (.cells #[.int .i64 3, .int .i64 d, .int .i64 a, .int .i64 b, .int .i64 n, .slice none 0 0] 109)).mono hB.size);go_enter Tryz.func179,Tryz.ntmps179;go_wp2;(try simp only[Exit.inBlock,Exit.then]);refine iw (v:= .agg #[.int .i64 3, .int .i64 d, .int .i64 a, .int .i64 b, .int .i64 n, .slice none 0 0]) ?_ rfl ⟨rfl,hB2⟩;rw[aO rfl];go_simp
theorem agq (d a b n:Int)(la:Option Addr)(ln lc:Nat)(w:World):Calls Tryz.prog 180 #[.agg #[.int .i64 d, .int .i64 a]] w fun e w'=>e= .returned (.agg #[.int .i64 4, .int .i64 d, .int .i64 a, .int .i64 0, .int .i64 0, .slice none 0 0])/\Below w.heap.size w w':=by have hB:=aB w (.cells #[.int .i64 d, .int .i64 a] 201);have hB2:=hB.trans ((aB _ (.cells #[.int .i64 4, .int .i64 d, .int .i64 a, .int .i64 0, .int .i64 0, .slice none 0 0] 109)).mono hB.size);go_enter Tryz.func180,Tryz.ntmps180;go_wp2;(try simp only[Exit.inBlock,Exit.then]);refine iw (v:= .agg #[.int .i64 4, .int .i64 d, .int .i64 a, .int .i64 0, .int .i64 0, .slice none 0 0]) ?_ rfl ⟨rfl,hB2⟩;rw[aO rfl];go_simp
theorem afN (d a b n:Int)(la:Option Addr)(ln lc:Nat)(w:World):Calls Tryz.prog 183 #[.agg #[.int .i64 n]] w fun e w'=>e= .returned (.agg #[.int .i64 5, .int .i64 0, .int .i64 0, .int .i64 0, .int .i64 n, .slice none 0 0])/\Below w.heap.size w w':=by have hB:=aB w (.cells #[.int .i64 n] 215);have hB2:=hB.trans ((aB _ (.cells #[.int .i64 5, .int .i64 0, .int .i64 0, .int .i64 0, .int .i64 n, .slice none 0 0] 109)).mono hB.size);go_enter Tryz.func183,Tryz.ntmps183;go_wp2;(try simp only[Exit.inBlock,Exit.then]);refine iw (v:= .agg #[.int .i64 5, .int .i64 0, .int .i64 0, .int .i64 0, .int .i64 n, .slice none 0 0]) ?_ rfl ⟨rfl,hB2⟩;rw[aO rfl];go_simp
theorem agy (d a b n:Int)(la:Option Addr)(ln lc:Nat)(w:World):Calls Tryz.prog 186 #[.agg #[.int .i64 a, .int .i64 n]] w fun e w'=>e= .returned (.agg #[.int .i64 6, .int .i64 0, .int .i64 a, .int .i64 0, .int .i64 n, .slice none 0 0])/\Below w.heap.size w w':=by have hB:=aB w (.cells #[.int .i64 a, .int .i64 n] 226);have hB2:=hB.trans ((aB _ (.cells #[.int .i64 6, .int .i64 0, .int .i64 a, .int .i64 0, .int .i64 n, .slice none 0 0] 109)).mono hB.size);go_enter Tryz.func186,Tryz.ntmps186;go_wp2;(try simp only[Exit.inBlock,Exit.then]);refine iw (v:= .agg #[.int .i64 6, .int .i64 0, .int .i64 a, .int .i64 0, .int .i64 n, .slice none 0 0]) ?_ rfl ⟨rfl,hB2⟩;rw[aO rfl];go_simp
theorem afS (d a b n:Int)(la:Option Addr)(ln lc:Nat)(w:World):Calls Tryz.prog 176 #[.agg #[.int .i64 d, .int .i64 n, .slice la ln lc]] w fun e w'=>e= .returned (.agg #[.int .i64 7, .int .i64 d, .int .i64 0, .int .i64 0, .int .i64 n, .slice la ln lc])/\Below w.heap.size w w':=by have hB:=aB w (.cells #[.int .i64 d, .int .i64 n, .slice la ln lc] 190);have hB2:=hB.trans ((aB _ (.cells #[.int .i64 7, .int .i64 d, .int .i64 0, .int .i64 0, .int .i64 n, .slice la ln lc] 109)).mono hB.size);go_enter Tryz.func176,Tryz.ntmps176;go_wp2;(try simp only[Exit.inBlock,Exit.then]);refine iw (v:= .agg #[.int .i64 7, .int .i64 d, .int .i64 0, .int .i64 0, .int .i64 n, .slice la ln lc]) ?_ rfl ⟨rfl,hB2⟩;rw[aO rfl];go_simp
theorem agz (d a b n:Int)(la:Option Addr)(ln lc:Nat)(w:World):Calls Tryz.prog 181 #[.agg #[.int .i64 d, .int .i64 a, .int .i64 n]] w fun e w'=>e= .returned (.agg #[.int .i64 8, .int .i64 d, .int .i64 a, .int .i64 0, .int .i64 n, .slice none 0 0])/\Below w.heap.size w w':=by have hB:=aB w (.cells #[.int .i64 d, .int .i64 a, .int .i64 n] 203);have hB2:=hB.trans ((aB _ (.cells #[.int .i64 8, .int .i64 d, .int .i64 a, .int .i64 0, .int .i64 n, .slice none 0 0] 109)).mono hB.size);go_enter Tryz.func181,Tryz.ntmps181;go_wp2;(try simp only[Exit.inBlock,Exit.then]);refine iw (v:= .agg #[.int .i64 8, .int .i64 d, .int .i64 a, .int .i64 0, .int .i64 n, .slice none 0 0]) ?_ rfl ⟨rfl,hB2⟩;rw[aO rfl];go_simp
theorem aga (d a b n:Int)(la:Option Addr)(ln lc:Nat)(w:World):Calls Tryz.prog 182 #[.agg #[.int .i64 b, .int .i64 a, .int .i64 n]] w fun e w'=>e= .returned (.agg #[.int .i64 9, .int .i64 0, .int .i64 a, .int .i64 b, .int .i64 n, .slice none 0 0])/\Below w.heap.size w w':=by have hB:=aB w (.cells #[.int .i64 b, .int .i64 a, .int .i64 n] 206);have hB2:=hB.trans ((aB _ (.cells #[.int .i64 9, .int .i64 0, .int .i64 a, .int .i64 b, .int .i64 n, .slice none 0 0] 109)).mono hB.size);go_enter Tryz.func182,Tryz.ntmps182;go_wp2;(try simp only[Exit.inBlock,Exit.then]);refine iw (v:= .agg #[.int .i64 9, .int .i64 0, .int .i64 a, .int .i64 b, .int .i64 n, .slice none 0 0]) ?_ rfl ⟨rfl,hB2⟩;rw[aO rfl];go_simp
theorem aca (d a b n:Int)(la:Option Addr)(ln lc:Nat)(w:World):Calls Tryz.prog 184 #[.agg #[.int .i64 a]] w fun e w'=>e= .returned (.agg #[.int .i64 10, .int .i64 0, .int .i64 a, .int .i64 0, .int .i64 0, .slice none 0 0])/\Below w.heap.size w w':=by have hB:=aB w (.cells #[.int .i64 a] 217);have hB2:=hB.trans ((aB _ (.cells #[.int .i64 10, .int .i64 0, .int .i64 a, .int .i64 0, .int .i64 0, .slice none 0 0] 109)).mono hB.size);go_enter Tryz.func184,Tryz.ntmps184;go_wp2;(try simp only[Exit.inBlock,Exit.then]);refine iw (v:= .agg #[.int .i64 10, .int .i64 0, .int .i64 a, .int .i64 0, .int .i64 0, .slice none 0 0]) ?_ rfl ⟨rfl,hB2⟩;rw[aO rfl];go_simp
theorem abZ (d a b n:Int)(la:Option Addr)(ln lc:Nat)(w:World):Calls Tryz.prog 185 #[.agg #[]] w fun e w'=>e= .returned (.agg #[.int .i64 11, .int .i64 0, .int .i64 0, .int .i64 0, .int .i64 0, .slice none 0 0])/\Below w.heap.size w w':=by have hB:=aB w (.cells #[] 219);have hB2:=hB.trans ((aB _ (.cells #[.int .i64 11, .int .i64 0, .int .i64 0, .int .i64 0, .int .i64 0, .slice none 0 0] 109)).mono hB.size);go_enter Tryz.func185,Tryz.ntmps185;go_wp2;(try simp only[Exit.inBlock,Exit.then]);refine iw (v:= .agg #[.int .i64 11, .int .i64 0, .int .i64 0, .int .i64 0, .int .i64 0, .slice none 0 0]) ?_ rfl ⟨rfl,hB2⟩;rw[aO rfl];go_simp
theorem AY (p q:Ln)(pa qa:Option Addr)(pn pc qn qc:Nat)(w:World)(hp:IL w pa pn p.l)(hq:IL w qa qn q.l):Calls Tryz.prog 133 #[.agg #[.int .i64 p.k, .int .i64 p.d, .int .i64 p.a, .int .i64 p.b, .int .i64 p.n, .slice pa pn pc], .agg #[.int .i64 q.k, .int .i64 q.d, .int .i64 q.a, .int .i64 q.b, .int .i64 q.n, .slice qa qn qc]] w fun e w'=>e= .returned (.bool (Ln.oM p q))/\Below w.heap.size w w':=by obtain⟨pk,pd,pe,pb,pm,pl⟩:=p;obtain⟨qk,qd,qe,qb,qm,ql⟩:=q;simp only at hp hq ⊢;have hB:=aB w (.cells #[.int .i64 pk, .int .i64 pd, .int .i64 pe, .int .i64 pb, .int .i64 pm, .slice pa pn pc] 109);have hB2:=hB.trans ((aB _ (.cells #[.int .i64 qk, .int .i64 qd, .int .i64 qe, .int .i64 qb, .int .i64 qm, .slice qa qn qc] 109)).mono hB.size);have hcon:=Dr pa qa pn qn pc qc pl ql _ (hp.kept hB2) (hq.kept hB2);clear hp hq hB;by_cases h0:pk=qk;rotate_left;{have g0:(pk==qk)=false:=by{simpa using h0};go_enter Tryz.func133,Tryz.ntmps133;go_wp2;go_ret;exact⟨by simp[Ln.oM,h0],hB2⟩};subst h0;by_cases h1:pd=qd;rotate_left;{have g1:(pd==qd)=false:=by{simpa using h1};go_enter Tryz.func133,Tryz.ntmps133;go_wp2;go_ret;exact⟨by simp[Ln.oM,h1],hB2⟩};subst h1;by_cases h2:pe=qe;rotate_left;{have g2:(pe==qe)=false:=by{simpa using h2};go_enter Tryz.func133,Tryz.ntmps133;go_wp2;go_ret;exact⟨by simp[Ln.oM,h2],hB2⟩};subst h2;by_cases h3:pb=qb;rotate_left;{have g3:(pb==qb)=false:=by{simpa using h3};go_enter Tryz.func133,Tryz.ntmps133;go_wp2;go_ret;exact⟨by simp[Ln.oM,h3],hB2⟩};subst h3;by_cases h4:pm=qm;rotate_left;{have g4:(pm==qm)=false:=by{simpa using h4};go_enter Tryz.func133,Tryz.ntmps133;go_wp2;go_ret;exact⟨by simp[Ln.oM,h4],hB2⟩};subst h4;have e:Ln.oM ⟨pk,pd,pe,pb,pm,pl⟩ ⟨pk,pd,pe,pb,pm,ql⟩=decide (pl=ql):=by{simp[Ln.oM]};rw[e];clear e;generalize decide (pl=ql)=R at hcon ⊢;go_enter Tryz.func133,Tryz.ntmps133;go_wp2_with(go_at_call 141;refine hcon.mono ?_;rintro e w2⟨rfl,hB3⟩;dsimp only);go_ret;exact⟨rfl,hB2.trans (hB3.mono hB2.size)⟩
theorem cm1 (u:Value)(w:World):(callMethod (.iface 194 u) "loop.example/g00363/impl.line" #[]).run Tryz.prog w= .ok (.enter 177 #[u]) w:=by kernel_rfl
theorem cm2 (u:Value)(w:World):(callMethod (.iface 196 u) "loop.example/g00363/impl.line" #[]).run Tryz.prog w= .ok (.enter 178 #[u]) w:=by kernel_rfl
theorem cm3 (u:Value)(w:World):(callMethod (.iface 199 u) "loop.example/g00363/impl.line" #[]).run Tryz.prog w= .ok (.enter 179 #[u]) w:=by kernel_rfl
theorem cm4 (u:Value)(w:World):(callMethod (.iface 201 u) "loop.example/g00363/impl.line" #[]).run Tryz.prog w= .ok (.enter 180 #[u]) w:=by kernel_rfl
theorem cm5 (u:Value)(w:World):(callMethod (.iface 215 u) "loop.example/g00363/impl.line" #[]).run Tryz.prog w= .ok (.enter 183 #[u]) w:=by kernel_rfl
theorem cm6 (u:Value)(w:World):(callMethod (.iface 226 u) "loop.example/g00363/impl.line" #[]).run Tryz.prog w= .ok (.enter 186 #[u]) w:=by kernel_rfl
theorem cm7 (u:Value)(w:World):(callMethod (.iface 190 u) "loop.example/g00363/impl.line" #[]).run Tryz.prog w= .ok (.enter 176 #[u]) w:=by kernel_rfl
theorem cm8 (u:Value)(w:World):(callMethod (.iface 203 u) "loop.example/g00363/impl.line" #[]).run Tryz.prog w= .ok (.enter 181 #[u]) w:=by kernel_rfl
theorem cm9 (u:Value)(w:World):(callMethod (.iface 206 u) "loop.example/g00363/impl.line" #[]).run Tryz.prog w= .ok (.enter 182 #[u]) w:=by kernel_rfl
theorem akX (u:Value)(w:World):(callMethod (.iface 217 u) "loop.example/g00363/impl.line" #[]).run Tryz.prog w= .ok (.enter 184 #[u]) w:=by kernel_rfl
theorem akU (u:Value)(w:World):(callMethod (.iface 219 u) "loop.example/g00363/impl.line" #[]).run Tryz.prog w= .ok (.enter 185 #[u]) w:=by kernel_rfl
theorem Ni (x:Ln)(h1:1<=x.k)(h2:x.k<=11)(la:Option Addr)(ln lc:Nat):∃T u f pa pn pc,dI x (.slice la ln lc)= .iface T u/\(∀w,(callMethod (.iface T u) "loop.example/g00363/impl.line" #[]).run Tryz.prog w= .ok (.enter f #[u]) w)/\(∀w,Calls Tryz.prog f #[u] w fun e w'=>e= .returned (.agg #[.int .i64 (Ln.cn x).k, .int .i64 (Ln.cn x).d, .int .i64 (Ln.cn x).a, .int .i64 (Ln.cn x).b, .int .i64 (Ln.cn x).n, .slice pa pn pc])/\Below w.heap.size w w')/\(∀w,IL w la ln x.l->IL w pa pn (Ln.cn x).l):=by obtain⟨k,d,a,b,n,l⟩:=x;rcases Ln.kinds h1 h2 with e|e|e|e|e|e|e|e|e|e|e<;>simp only at e<;>subst e;{exact⟨_,_,_,none,0,0,rfl,cm1 _,agi d a b n la ln lc,fun w _=>⟨rfl,jT _, .inl rfl⟩⟩};{exact⟨_,_,_,none,0,0,rfl,cm2 _,af2 d a b n la ln lc,fun w _=>⟨rfl,jT _, .inl rfl⟩⟩};{exact⟨_,_,_,none,0,0,rfl,cm3 _,afT d a b n la ln lc,fun w _=>⟨rfl,jT _, .inl rfl⟩⟩};{exact⟨_,_,_,none,0,0,rfl,cm4 _,agq d a b n la ln lc,fun w _=>⟨rfl,jT _, .inl rfl⟩⟩};{exact⟨_,_,_,none,0,0,rfl,cm5 _,afN d a b n la ln lc,fun w _=>⟨rfl,jT _, .inl rfl⟩⟩};{exact⟨_,_,_,none,0,0,rfl,cm6 _,agy d a b n la ln lc,fun w _=>⟨rfl,jT _, .inl rfl⟩⟩};{exact⟨_,_,_,la,ln,lc,rfl,cm7 _,afS d a b n la ln lc,fun w h=>h⟩};{exact⟨_,_,_,none,0,0,rfl,cm8 _,agz d a b n la ln lc,fun w _=>⟨rfl,jT _, .inl rfl⟩⟩};{exact⟨_,_,_,none,0,0,rfl,cm9 _,aga d a b n la ln lc,fun w _=>⟨rfl,jT _, .inl rfl⟩⟩};{exact⟨_,_,_,none,0,0,rfl,akX _,aca d a b n la ln lc,fun w _=>⟨rfl,jT _, .inl rfl⟩⟩};exact⟨_,_,_,none,0,0,rfl,akU _,abZ d a b n la ln lc,fun w _=>⟨rfl,jT _, .inl rfl⟩⟩
section
variable {P : Program} {C : World → Prop}
theorem D8{a:Act}{K:Act->Prop}(f:FuncId)(x:Operand)(nm:String)(ts:Array TypeId)(ho:o.op= .call {callee:= .invoke x nm,args:=#[],argTypes:=ts})(T:TypeId)(u v:Value)(hx:a.eval x= .iface T u)(hcf:∀w,(callMethod (.iface T u) nm #[]).run P w= .ok (.enter f #[u]) w)(hc:∀w,C w->Calls P f #[u] w (fun e w''=>e= .returned v/\C w''))(hk:K (a.put o.dst v)):o.quiet P a C K:=by refine⟨_,fun w hw=>?_,hk⟩;have:=hc w hw;unfold Oper.quietAt execOp;simp[ho,resolve,hx,invoke,hcf];exact⟨rfl,this⟩
end
namespace Ln
theorem uP {x:Ln}(h:counts x=true)(hk:x.k=7):x.l.length<=3:=by unfold counts at h;rw[ax (by omega),ax (by omega),az hk]at h;simp at h;exact h.2
theorem QI {x:Ln}(h:counts x=true):(rd x).length<=1000:=by unfold rd;split;{simp};split;{simp};split;{simp};split;{have:=uP h (by assumption);omega};simp
theorem R3 {x:Ln}(h:¬(1<=x.k/\x.k<=11)):right x=false:=by unfold right;rw[decide_eq_false h];rfl
theorem Qj {x:Ln}(h1:1<=x.k)(h2:x.k<=11):right x=(oM (cn x) x&&(counts x&&((told x).all bx&&place 300 x))):=by unfold right;rw[Wv ⟨h1,h2⟩];rfl
end Ln
theorem WS {x:Ln}(h:¬(1<=x.k/\x.k<=11))(sv:Value):dI x sv= .nilIface:=by unfold dI;repeat(rw[ax (by omega)])
theorem uV (x:Ln)(la:Option Addr)(ln lc:Nat)(w:World)(hs:IL w la ln x.l):Calls Tryz.prog 118 #[.agg #[.int .i64 x.k, .int .i64 x.d, .int .i64 x.a, .int .i64 x.b, .int .i64 x.n, .slice la ln lc]] w fun e w'=>e= .returned (if Ln.right x=true then dI x (.slice la ln lc)else .nilIface)/\Below w.heap.size w w':=by have hB:=aB w (.cells #[.int .i64 x.k, .int .i64 x.d, .int .i64 x.a, .int .i64 x.b, .int .i64 x.n, .slice la ln lc] 109);have hA1:dG (w.alloc (.cells #[.int .i64 x.k, .int .i64 x.d, .int .i64 x.a, .int .i64 x.b, .int .i64 x.n, .slice la ln lc] 109)) w.heap.size 109 [.int .i64 x.k, .int .i64 x.d, .int .i64 x.a, .int .i64 x.b, .int .i64 x.n, .slice la ln lc]:=qo w _;have hs1:=hs.kept hB;obtain⟨W1,hW1⟩:∃X,w.alloc (.cells #[.int .i64 x.k, .int .i64 x.d, .int .i64 x.a, .int .i64 x.b, .int .i64 x.n, .slice la ln lc] 109)=X:=⟨_,rfl⟩;rw[hW1]at hA1 hs1 hB;have hcon:=DN x la ln lc W1;have hl:=hs.1;clear hs;have c0:=hA1.cell (j:=0) rfl;have c1:=hA1.cell (j:=1) rfl;have c2:=hA1.cell (j:=2) rfl;have c3:=hA1.cell (j:=3) rfl;have c4:=hA1.cell (j:=4) rfl;have c5:=hA1.cell (j:=5) rfl;by_cases hk:1<=x.k/\x.k<=11;rotate_left;{rw[WS hk]at hcon;rw[Ln.R3 hk];have HN:Hid (∀v:Value,(if false=true then v else Value.nilIface)= .nilIface):=fun v=>rfl;clear hk hl hs1;go_enter Tryz.func118,Tryz.ntmps118;go_wp2_with fail;refine hcon.mono ?_;rintro e w2⟨rfl,hB2⟩;dsimp only;have hB3:=hB.trans (hB2.mono hB.size);clear hcon hB hB2 c0 c1 c2 c3 c4 c5 hA1;have hne:=bK.any w2;go_wp2;refine bV (by kernel_rfl) (by kernel_rfl) ?_;(repeat(go_big_quiet_step (fail)));refine nD ?_;rintro _⟨pw,rfl⟩;have hB4:=hB3.trans (pw.h.mono hB3.size);generalize pw.to=w7 at*;go_wp2;go_ret;exact⟨rfl,hB4⟩};have hcnt:=Bi x hk.1 hk.2 la ln lc hl;have ac1:=fun(W:World) (hW:IL W la ln x.l) (h3:x.k=7->ln<=3) (hr:(Ln.rd x).length<=1000)=>CL x hk.1 hk.2 la ln lc W hW h3 hr;have ac2:=sF x hk.1 hk.2 la ln lc 300 (by omega) (by omega);rw[Ln.Qj hk.1 hk.2];obtain⟨T,u,f,pa,pn,pc,esh,hcm,aiA,hil⟩:=Ni x hk.1 hk.2 la ln lc;have hsame:=fun(W:World) (hW:IL W la ln x.l)=>AY (Ln.cn x) x pa la pn pc ln lc W (hil W hW) hW;rw[esh]at hcon ⊢;have hnil:=QE T u;simp only[esh]at hcnt ac1 ac2;have HRD:=fun h=>Ln.QI (x:=x) h;have HC3:Ln.counts x=true->x.k=7->ln<=3:=fun h h7=>by{have:=Ln.uP h h7;omega};generalize Ln.oM (Ln.cn x) x=S at hsame ⊢;generalize(Ln.told x).all Ln.bx=B at ac1 ⊢;generalize Ln.place 300 x=PL at ac2 ⊢;generalize Ln.counts x=CT at hcnt HRD HC3 ⊢;clear hl hk;have hcases:S=false\/(S=true/\CT=false)\/(S=true/\CT=true/\B=false)\/(S=true/\CT=true/\B=true/\PL=false)\/(S=true/\CT=true/\B=true/\PL=true):=by{cases S<;>cases CT<;>cases B<;>cases PL<;>simp};rcases hcases with rfl|⟨rfl,rfl⟩|⟨rfl,rfl,rfl⟩|⟨rfl,rfl,rfl,rfl⟩|⟨rfl,rfl,rfl,rfl⟩;all_goals go_enter Tryz.func118,Tryz.ntmps118;go_wp2_with fail;refine hcon.mono ?_;rintro e w2⟨rfl,hB2⟩;dsimp only;have hB3:=hB.trans (hB2.mono hB.size);have hA2:=hA1.kept hB2;have hs2:Hid (∀p:bK w2,IL p.to la ln x.l):=fun p=>(hs1.kept hB2).kept p.h;have e0:∀p:bK w2,p.to.cell? ⟨w.heap.size,0,none⟩=some (.int .i64 x.k):=fun p=>(hA2.kept p.h).cell (j:=0) rfl;have e1:∀p:bK w2,p.to.cell? ⟨w.heap.size,1,none⟩=some (.int .i64 x.d):=fun p=>(hA2.kept p.h).cell (j:=1) rfl;have e2:∀p:bK w2,p.to.cell? ⟨w.heap.size,2,none⟩=some (.int .i64 x.a):=fun p=>(hA2.kept p.h).cell (j:=2) rfl;have e3:∀p:bK w2,p.to.cell? ⟨w.heap.size,3,none⟩=some (.int .i64 x.b):=fun p=>(hA2.kept p.h).cell (j:=3) rfl;have e4:∀p:bK w2,p.to.cell? ⟨w.heap.size,4,none⟩=some (.int .i64 x.n):=fun p=>(hA2.kept p.h).cell (j:=4) rfl;have e5:∀p:bK w2,p.to.cell? ⟨w.heap.size,5,none⟩=some (.slice la ln lc):=fun p=>(hA2.kept p.h).cell (j:=5) rfl;clear hcon hB hB2 c0 c1 c2 c3 c4 c5 hA1 hA2 hs1;have hne:=bK.any w2;go_wp2;refine bV (by kernel_rfl) (by kernel_rfl) ?_;(repeat(go_big_quiet_step (fail)));go_big_quiet_want;refine D8 f (.tmp 9) _ _ rfl T u _ rfl hcm (fun W hW=>by obtain⟨p,rfl⟩:=hW;exact bU (aiA _)) ?_;go_big_quiet_on;go_simp;(repeat(go_big_quiet_step (first|exact bU (hsame _ (hs2.out _))|exact bU (hcnt _)|exact bU (ac1 _ (hs2.out _) (HC3 trivial) (HRD trivial))|exact bU (ac2 _))));refine nD ?_;intro pw;have hB4:=hB3.trans (pw.h.mono hB3.size);clear hs2 e0 e1 e2 e3 e4 e5;generalize pw.to=w7 at*;go_wp2;go_ret;exact⟨rfl,hB4⟩
def rsv (x:Ln)(sv:Value):Value:=if Ln.ok x=true then dI x sv else .nilIface
theorem sZ (x:Ln)(la:Option Addr)(ln lc:Nat)(w:World)(hs:IL w la ln x.l):Calls Tryz.prog 118 #[.agg #[.int .i64 x.k, .int .i64 x.d, .int .i64 x.a, .int .i64 x.b, .int .i64 x.n, .slice la ln lc]] w fun e w'=>e= .returned (rsv x (.slice la ln lc))/\Below w.heap.size w w':=by have h:=uV x la ln lc w hs;rw[Ln.QO]at h;exact h
theorem Q4 {x:Ln}(h:Ln.ok x=true)(sv:Value):rsv x sv=dI x sv:=by unfold rsv;rw[az h]
theorem abx {x:Ln}(h:Ln.ok x=false)(sv:Value):rsv x sv= .nilIface:=by unfold rsv;rw[ax (by rw[h];decide)]
theorem NY {x:Ln}(h:Ln.ok x=true)(la:Option Addr)(ln lc:Nat):∃T u,rsv x (.slice la ln lc)= .iface T u:=by have hk:=Ln.fO h;obtain⟨T,u,f,pa,pn,pc,esh,-⟩:=Ni x hk.1 hk.2 la ln lc;exact⟨T,u,by rw[Q4 h,esh]⟩
section
open Go.RowKit
namespace Fl
def nx (x:Ln)(i:Nat):List Int:=
 if x.k=5 then[x.n]else if x.k=6 then Ln.put [(i:Int)+1] x.n else if x.k=10\/x.k=11 then[]else[(i:Int)+1]
def has (ls:List Ln)(p:Int):Bool:=Ln.isOk ls&&decide (0<=p/\p<(ls.length:Int))
def le (a b:Nat):Prop:=a|||b=b
theorem le_iff {a b:Nat}:le a b↔∀k,a.testBit k=true->b.testBit k=true:=by unfold le;constructor;{intro h k hk;rw[←h,Nat.testBit_or,hk];rfl};intro h;refine Nat.eq_of_testBit_eq fun k=>?_;rw[Nat.testBit_or];rcases e:a.testBit k with _|_;{rfl};rw[h k e];rfl
theorem le_refl (a:Nat):le a a:=le_iff.2 fun _ h=>h
theorem le_trans {a b c:Nat}(h:le a b)(h':le b c):le a c:=le_iff.2 fun k hk=>le_iff.1 h' k (le_iff.1 h k hk)
theorem ZL {a b:Nat}(h:le a b):a<=b:=by rw[←h];exact Nat.left_le_or
def an (a b:Nat):Nat:=a ^^^ (a&&& b)
theorem Rn (a b k:Nat):(an a b).testBit k=(a.testBit k&& !b.testBit k):=by unfold an;rw[Nat.testBit_xor,Nat.testBit_and];cases a.testBit k<;>cases b.testBit k<;>rfl
theorem or_mono{a b d:Nat}(h:le a b)(h':le c d):le (a|||c) (b|||d):=le_iff.2 fun k=>by
 rw[Nat.testBit_or,Nat.testBit_or,Bool.or_eq_true,Bool.or_eq_true]
 exact fun h2=>h2.imp (le_iff.1 h k) (le_iff.1 h' k)
theorem Xz {a b:Nat}(c:Nat)(h:le a b):le (an a c) (an b c):=le_iff.2 fun k=>by
 rw[Rn,Rn,au,au]
 exact fun h2=>⟨le_iff.1 h k h2.1,h2.2⟩
def mk (l:List Int):Nat:=l.foldl (fun m b=>m|||2 ^ b.toNat) 0
theorem WX (l:List Int):∀m,m<2 ^ 40->(∀y∈l,0<=y/\y<=39)->l.foldl (fun m b=>m|||2 ^ b.toNat) m<2 ^ 40:=by
 induction l with
 |nil=>intro m hm _;exact hm
 |cons y r ih=>
  intro m hm h
  have hy:=h y (by simp)
  exact ih _ (Nat.or_lt_two_pow hm (Nat.pow_lt_pow_right (by decide) (by omega))) fun z hz=>h z (by simp[hz])
theorem agQ(h:∀y∈l,0<=y/\y<=39):mk l<2 ^ 40:=WX l 0 (by decide) h
def js (f:List Nat)(l:List Int):Nat:=l.foldl (fun m j=>m|||f.getD j.toNat 0) 0
def ou (ls:List Ln)(f:List Nat)(i:Nat):Nat:=js f (nx (ls.getD i .z) i)
def um (x:Ln):Nat:=mk (Ln.us x)
def sm (x:Ln):Nat:=if 0<=Ln.st x then 2 ^ (Ln.st x).toNat else 0
def vo (ls:List Ln)(f:List Nat)(i:Nat):Nat:=um (ls.getD i .z)|||an (ou ls f i) (sm (ls.getD i .z))
theorem jsf (f:List Nat)(l:List Int):∀(m k:Nat),(l.foldl (fun m j=>m|||f.getD j.toNat 0) m).testBit k=(m.testBit k||l.any fun j=>(f.getD j.toNat 0).testBit k):=by
 induction l with
 |nil=>intro m k;simp
 |cons y r ih=>
  intro m k
  rw[List.foldl_cons,ih,Nat.testBit_or,List.any_cons,Bool.or_assoc]
theorem Qw (f:List Nat)(l:List Int)(k:Nat):(js f l).testBit k=l.any fun j=>(f.getD j.toNat 0).testBit k:=by unfold js;rw[jsf];simp
theorem afZ(hf:∀i,f.getD i 0<2 ^ 40)(l:List Int):js f l<2 ^ 40:=by
 suffices H:∀(l:List Int) m,m<2 ^ 40->l.foldl (fun m j=>m|||f.getD j.toNat 0) m<2 ^ 40 from H l 0 (by decide)
 intro l
 induction l with
 |nil=>intro m h;exact h
 |cons y r ih=>intro m h;exact ih _ (Nat.or_lt_two_pow h (hf _))
theorem X7{g:List Nat}(h:∀i,le (f.getD i 0) (g.getD i 0))(l:List Int):le (js f l) (js g l):=le_iff.2 fun k=>by
 rw[Qw,Qw,List.any_eq_true,List.any_eq_true]
 exact fun⟨y,hy,e⟩=>⟨y,hy,le_iff.1 (h _) k e⟩
theorem r9{ls:List Ln}{g:List Nat}(h:∀i,le (f.getD i 0) (g.getD i 0))(i:Nat):le (vo ls f i) (vo ls g i):=
 or_mono (le_refl _) (Xz _ (X7 h _))
theorem agk {a b:Nat}(h:a<2 ^ 40):an a b<2 ^ 40:=Nat.xor_lt_two_pow h (Nat.lt_of_le_of_lt Nat.and_le_left h)
theorem afY {x:Ln}(h:Ln.ok x=true):um x<2 ^ 40:=agQ (Ln.agG h)
structure In (ls:List Ln)(f:List Nat):Prop where
 len:f.length=ls.length
 lt:∀i,f.getD i 0<2 ^ 40
 up:∀i,i<ls.length->le (f.getD i 0) (vo ls f i)
theorem Sd{ls:List Ln}(hok:Ln.isOk ls=true)(hf:∀i,f.getD i 0<2 ^ 40)(hi:i<ls.length):vo ls f i<2 ^ 40:=
 Nat.or_lt_two_pow (afY (Ln.qj hok hi)) (agk (afZ hf _))
theorem sj (f:List Nat)(i j x:Nat):(f.set i x).getD j 0=if i=j/\i<f.length then x else f.getD j 0:=by rw[ah,ah,List.getElem?_set];by_cases h:i=j;{subst h;by_cases h2:i<f.length;{simp[h2]};simp[h2]};simp[h]
theorem M6 (x:Nat):∀(f:List Nat)(i:Nat),i<f.length->(f.set i x).sum+f.getD i 0=f.sum+x
 |[],i,h=>by simp at h
 |y::r,0,h=>by simp only[List.set_cons_zero,List.sum_cons,List.getD_cons_zero];omega
 | y::r,i+1,h=>by
   have:=M6 x r i (by simpa using h)
   simp only[List.set_cons_succ,List.sum_cons,List.getD_cons_succ]
   omega
theorem Lm (m:Nat):∀(f:List Nat),(∀i,f.getD i 0<m)->f.sum<=f.length*m
 |[],_=>by simp
 | y::r,h=>by
   have h1:=h 0
   have h2:=Lm m r fun i=>h (i+1)
   simp only[List.getD_cons_zero]at h1
   simp only[List.sum_cons,oK,Nat.succ_mul]
   omega
theorem In.set {ls:List Ln}{f:List Nat}(hok:Ln.isOk ls=true)(h:In ls f){i:Nat}(hi:i<ls.length):In ls (f.set i (vo ls f i)):=by have hle:∀j,le (f.getD j 0) ((f.set i (vo ls f i)).getD j 0):=fun j=>by{rw[sj];split;{rename_i e;rw[←e.1];exact h.up i hi};exact le_refl _};refine⟨by rw[uW];exact h.len,fun j=>?_,fun j hj=>?_⟩;{rw[sj];split;{exact Sd hok h.lt hi};exact h.lt j};rw[sj];split;{rename_i e;rw[←e.1];exact r9 hle i};exact le_trans (h.up j hj) (r9 hle j)
theorem In.sum {ls:List Ln}{f:List Nat}(h:In ls f):f.sum<=ls.length*2 ^ 40:=by have:=Lm (2 ^ 40) f h.lt;rwa [h.len]at this
theorem In.more{ls:List Ln}(h:In ls f)(hi:i<ls.length)(hne:vo ls f i≠f.getD i 0):f.sum<(f.set i (vo ls f i)).sum:=by have h1:=M6 (vo ls f i) f i (by rw[h.len];exact hi);have h2:=ZL (h.up i hi);omega
def Lg (ls:List Ln)(f:List Nat):List Nat:=(List.range ls.length).map (vo ls f)
theorem DZ(ls:List Ln)(f:List Nat)(hi:i<ls.length):(Lg ls f).getD i 0=vo ls f i:=by unfold Lg;rw[ah,KH,List.getElem?_range hi];rfl
theorem XL(ls:List Ln)(f:List Nat)(hi:¬i<ls.length):(Lg ls f).getD i 0=0:=by unfold Lg;rw[ah,List.getElem?_eq_none (by simp;omega)];rfl
def it (ls:List Ln):Nat->List Nat
 |0=>List.replicate ls.length 0
 |k+1=>Lg ls (it ls k)
def rnd (n:Nat):Nat:=n*2 ^ 40
theorem abq (n:Nat):rnd n=n*2 ^ 40:=rfl
def live (ls:List Ln):List Nat:=it ls (rnd ls.length)
theorem Xw (ls:List Ln):live ls=it ls (rnd ls.length):=by unfold live;rfl
def Fix (ls:List Ln)(f:List Nat):Prop:=∀i,i<ls.length->vo ls f i=f.getD i 0
theorem In.zero (ls:List Ln):In ls (List.replicate ls.length 0):=by have e:∀i,(List.replicate ls.length 0).getD i 0=0:=fun i=>by{rw[ah,List.getElem?_replicate];split<;>rfl};refine⟨by simp,fun i=>by rw[e];decide,fun i _=>by rw[e];exact le_iff.2 fun k hk=>by simp at hk⟩
theorem In.out{ls:List Ln}(h:In ls f)(hi:¬i<ls.length):f.getD i 0=0:=by rw[ah,List.getElem?_eq_none (by rw[h.len];omega)];rfl
theorem In.Lg {ls:List Ln}{f:List Nat}(hok:Ln.isOk ls=true)(h:In ls f):In ls (Lg ls f)/\∀i,le (f.getD i 0) ((Fl.Lg ls f).getD i 0):=by have hle:∀j,le (f.getD j 0) ((Fl.Lg ls f).getD j 0):=fun j=>by{by_cases hj:j<ls.length;{rw[DZ _ _ hj];exact h.up j hj};rw[h.out hj];exact le_iff.2 fun k hk=>by simp at hk};refine⟨⟨by simp[Fl.Lg],fun j=>?_,fun j hj=>?_⟩,hle⟩;{by_cases hj:j<ls.length;{rw[DZ _ _ hj];exact Sd hok h.lt hj};rw[XL _ _ hj];decide};rw[DZ _ _ hj];exact r9 hle j
theorem In.it {ls:List Ln}(hok:Ln.isOk ls=true):∀k,In ls (it ls k)
 |0=>In.zero ls
 |k+1=>((In.it hok k).Lg hok).1
theorem QL:∀(f g:List Nat),f.length=g.length->(∀i,f.getD i 0<=g.getD i 0)->f≠g->f.sum<g.sum
 |[],[],_,_,h=>eU rfl h
 |[],y::r,h,_,_=>by simp at h
 |y::r,[],h,_,_=>by simp at h
 | y ::r,z::s,hl,h,hne=>by
   have h0:y<=z:=h 0
   have hr:∀i,r.getD i 0<=s.getD i 0:=fun i=>h (i+1)
   have hl2:r.length=s.length:=by simpa using hl
   simp only[List.sum_cons]
   by_cases e:r=s
   · subst e
     have:y≠z:=fun e=>hne (by rw[e])
     omega
   · have:=QL r s hl2 hr e
     omega
theorem vJ (ls:List Ln)(k:Nat):it ls (k+1)=Lg ls (it ls k):=rfl
theorem Nl {ls:List Ln}(hok:Ln.isOk ls=true)(k:Nat):it ls (k+1)=it ls k\/(it ls k).sum<(it ls (k+1)).sum:=by by_cases e:it ls (k+1)=it ls k;{exact .inl e};right;have h0:=In.it hok k;have h1:=h0.Lg hok;rw[vJ]at e ⊢;exact QL _ _ (by rw[h0.len,h1.1.len]) (fun i=>ZL (h1.2 i)) (fun h=>e h.symm)
theorem abE {ls:List Ln}(hok:Ln.isOk ls=true)(k:Nat):it ls (k+1)=it ls k\/k<(it ls (k+1)).sum:=by
 induction k with
 |zero=>
  rcases Nl hok 0 with h|h
  · exact .inl h
  · exact .inr (by omega)
 |succ k ih=>
  rcases Nl hok (k+1)with h|h
  · exact .inl h
  · rcases ih with h3|h3;{exact .inl (by rw[vJ,h3,←vJ,h3])};exact .inr (by omega)
theorem abJ{ls:List Ln}(hok:Ln.isOk ls=true)(hn:n=ls.length*2 ^ 40):Lg ls (it ls n)=it ls n:=by rcases abE hok n with h|h;{exact(vJ ls n).symm.trans h};have h2:=(In.it hok (n+1)).sum;omega
theorem Qt {ls:List Ln}(hok:Ln.isOk ls=true):Lg ls (live ls)=live ls:=by rw[Xw];exact abJ hok (abq _)
theorem Rv {ls:List Ln}(hok:Ln.isOk ls=true):Fix ls (live ls):=fun i hi=>by
 have:=DZ ls (live ls) hi
 rw[Qt hok]at this
 exact this.symm
def Sound (ls:List Ln)(f:List Nat):Prop:=∀i,le (f.getD i 0) ((live ls).getD i 0)
theorem Sound.zero (ls:List Ln):Sound ls (List.replicate ls.length 0):=fun i=>by
 have e:(List.replicate ls.length 0).getD i 0=0:=by
   rw[ah,List.getElem?_replicate]
   split<;>rfl
 rw[e]
 exact le_iff.2 fun k hk=>by simp at hk
theorem Sound.set {ls:List Ln}{f:List Nat}(hok:Ln.isOk ls=true)(h:Sound ls f){i:Nat}(hi:i<ls.length):Sound ls (f.set i (vo ls f i)):=fun j=>by
 rw[sj]
 split
 · rename_i e
   rw[←e.1,←Rv hok i hi]
   exact r9 h i
 · exact h j
end Fl
end
namespace Ln
end Ln
theorem OG.holds(h:OG W n₀ g n c xs):Go.Sort.Holds (Value.int .i64) W g 0 xs.toArray:=by obtain⟨hl,-,hr⟩:=h;rcases hr with⟨e,-⟩|⟨g',cap,cur,e,hb,hc,hn,hm,hsz,ht⟩;{cases e};cases e;refine holds_of_blockI hc ?_;rw[hl];rw[Nat.mul_one]at ht;exact ht
theorem OG.put{os:Array Obj}(h:OG W n₀ g n c xs)(hl:ys.length=xs.length):OG (Go.Sort.grow (Go.Sort.putRow (Value.int .i64) (Go.Sort.ahead W q) g 0 ys.toArray) os) n₀ g n c ys:=by obtain⟨h1,-,hr⟩:=h;rcases hr with⟨e,-⟩|⟨g',cap,cur,e,hb,hc,hn,hm,hsz,ht⟩;{cases e};cases e;refine⟨by omega,?_⟩;have:=ownsRow_sortedI (n:=q) (os:=os) hl hb hc (by omega) hm hsz;rw[h1]at this;exact this
theorem OG.cut(h:OG W n₀ g n c (xs++zs)):OG W n₀ g xs.length c xs:=by obtain⟨h1,-,hr⟩:=h;rcases hr with⟨e,-⟩|⟨g',cap,cur,e,hb,hc,hn,hm,hsz,ht⟩;{cases e};cases e;rw[jy]at h1;refine⟨rfl,by simp, .inr ⟨g,c,cur,rfl,hb,hc,by omega,hm,hsz,?_⟩⟩;rw[Nat.mul_one]at ht ⊢;have:=congrArg (List.take xs.length) ht;rw[List.take_take,Nat.min_eq_left (by omega),oZ,List.take_left' (by simp)]at this;exact this
def SR (w W:World)(n₀ g k c:Nat)(xs:List Ln):Prop:=
 ∃dY:List Value,dY.length=k/\W.ownsRow n₀ 181 1 (.slice (some ⟨g,0,none⟩) k c) k dY/\∀j,j<k->∃la ln lc,dY.getD j undef=dI (xs.getD j .z) (.slice la ln lc)/\IL w la ln (xs.getD j .z).l
theorem vT:(Tryz.prog.info? 181).map (fun i=>(i.zero,i.size,i.bytes))=some (some .nilIface,1,16):=by kernel_rfl
theorem SR.lt {w W:World}{n₀ g k c:Nat}{xs:List Ln}(h:SR w W n₀ g k c xs):n₀<=g/\g<W.heap.size:=by obtain⟨dY,-,h,-⟩:=h;exact Ay h g rfl
theorem SR.kept {w W W':World}{n₀ g k c:Nat}{xs:List Ln}(h:SR w W n₀ g k c xs)(hB:Below W.heap.size W W'):SR w W' n₀ g k c xs:=by obtain⟨dY,h1,h2,h3⟩:=h;exact⟨dY,h1,aN h2 hB,h3⟩
theorem SR.cell {w W:World}{n₀ g k c:Nat}{xs:List Ln}(h:SR w W n₀ g k c xs){j:Nat}(hj:j<k):∃la ln lc,W.cell? ⟨g,j,none⟩=some (dI (xs.getD j .z) (.slice la ln lc))/\IL w la ln (xs.getD j .z).l:=by obtain⟨dY,h1,h2,h3⟩:=h;obtain⟨la,ln,lc,e,hi⟩:=h3 j hj;refine⟨la,ln,lc,?_,hi⟩;have:=World.ownsRow.cellAt h2 j (by omega);rw[←e];rw[ah,ai (by omega)];rw[this];simp
theorem SR.cut{xs:List Ln}(h:SR w W n₀ g k c (xs.take m))(hk:k<=m):SR w W n₀ g k c xs:=by obtain⟨dY,h1,h2,h3⟩:=h;refine⟨dY,h1,h2,fun j hj=>?_⟩;obtain⟨la,ln,lc,e,hi⟩:=h3 j hj;have e2:(xs.take m).getD j .z=xs.getD j .z:=by{rw[ah,ah,List.getElem?_take_of_lt (by omega)]};rw[e2]at e hi;exact⟨la,ln,lc,e,hi⟩
theorem N8{a:Act}(W w:World)(hgd:o.guard=none)(s x:Operand)(ho:o.op= .call {callee:= .builtin .append,args:=#[s,x],argTypes:=#[163,163]})(n₀ g k c:Nat)(xs:List Ln)(hs:a.eval s= .slice (some ⟨g,0,none⟩) k c)(hown:SR w W n₀ g k c xs)(hxl:xs.length=k)(sb:Nat)(hx:a.eval x= .slice (some ⟨sb,0,none⟩) 1 1)(y:Ln)(la:Option Addr)(ln lc:Nat)(T:TypeId)(u:Value)(hv:dI y (.slice la ln lc)= .iface T u)(hcell:W.cell? ⟨sb,0,none⟩=some (.iface T u))(hil:IL w la ln y.l)(hsz:k<=1000000)(hbase:n₀<=W.heap.size)(h:∀g' c' N W',Hid (N=k+1)->SR w W' n₀ g' N c' (xs++[y])->W.grownBy W' (some g)->wpList Tryz.prog ops Q rest (a.put o.dst (.slice (some ⟨g',0,none⟩) N c')) W'):wpList Tryz.prog ops Q (o::rest) a W:=by obtain⟨i0,hi,hz0,hz1,hz2⟩:=lT vT;obtain⟨dY,h1,h2,h3⟩:=hown;refine nz W hgd s x 163 ho n₀ 181 i0 .nilIface 1 16 Tryz.underlying163 hi hz0 hz1 hz2 rfl (by decide) _ k dY hs h2 ⟨sb,0,none⟩ 1 1 [.iface T u] hx rfl (fun j u' hu=>?_) (fun u' hu=>?_) (by simp only[maxLen];omega) (by omega) hbase (fun v' W' hown' hgrow hnn=>?_);{rcases j with _|j;{simp only[List.getElem?_cons_zero,af]at hu;rw[←hu];(have hadd:(⟨sb,0,none⟩:Addr).add 0=⟨sb,0,none⟩:=by unfold Addr.add;split<;>simp_all);rw[hadd];exact hcell};simp at hu};{rw[sU]at hu;rw[hu];rfl};rcases hown'.2 with⟨rfl,h0⟩|⟨g',cap',cur,rfl,r⟩;{exact eU (hnn.1 rfl).1 (fun e=>by cases e)};refine h g' cap' (k+1) W' rfl ⟨dY++[.iface T u],by simp[h1],hown',fun j hj=>?_⟩ hgrow;by_cases hjk:j<k;{obtain⟨la',ln',lc',e,hi'⟩:=h3 j hjk;refine⟨la',ln',lc',?_,?_⟩;{rw[ah,uJ (by omega),←ah,e,ah,ah,uJ (by omega)]};rw[ah,uJ (by omega),←ah];exact hi'};have e:j=k:=by{omega};subst e;have e1:(dY++[Value.iface T u]).getD j undef= .iface T u:=by{rw[ah,qM (by omega),h1];simp};have e2:(xs++[y]).getD j .z=y:=by{rw[ah,qM (by omega),hxl];simp};rw[e1,e2];exact⟨la,ln,lc,hv.symm,hil⟩
namespace Ln
theorem ug{ls:List Ln}(hi:i<ls.length):ls.take i++[ls.getD i z]=ls.take (i+1):=by rw[PR,ai hi,ah,ai hi];simp
theorem L6{x:Ln}(h:ok x=true):jY m x=place m x:=by unfold jY;rw[h,Bool.true_and];have hk:=fO h;obtain⟨k,d,a,b,n,l⟩:=x;rcases kinds hk.1 hk.2 with e|e|e|e|e|e|e|e|e|e|e<;>simp only at e<;>subst e;(case inr.inr.inr.inr.inl=>have h0:0<=n:=by{unfold ok at h;simp[asks,Wd.dP]at h;omega};rw[Bool.eq_iff_iff];simp[place,lu,Wd.dP];omega);(case inr.inr.inr.inr.inr.inl=>have h0:0<=n:=by{unfold ok at h;simp[asks,Wd.dP]at h;omega};rw[Bool.eq_iff_iff];simp[place,lu,Wd.dP];omega);all_goals simp[place,lu]
theorem Jp (ls:List Ln):ni ls= !behind (ls.getD (ls.length-1) z):=by unfold ni behind;generalize(ls.getD (ls.length-1) z).k=k;by_cases h5:k=5<;>by_cases h10:k=10<;>by_cases h11:k=11<;>simp[h5,h10,h11]
theorem X8 {ls:List Ln}(h:1<=ls.length/\ls.length<=300):isOk ls=(ls.all (jY ls.length)&&ni ls):=by unfold isOk;rw[Wv h,Bool.true_and]
end Ln
def ve (mem:List Int)(aH eF depth:Int)(cv:Value):List Value:=mem.map bv++[.int .i64 aH, .int .i64 eF, .int .i64 depth,cv]
section
variable {mem : List Int} {aH eF depth : Int} {cv : Value}
theorem Dc (hl:mem.length=64)(i:Nat):(ve mem aH eF depth cv)[64+i]?=[.int .i64 aH, .int .i64 eF, .int .i64 depth,cv][i]?:=by unfold ve;rw[qM (by rw[iG,hl];omega),iG,hl,Nat.add_sub_cancel_left]
theorem P7 (hl:mem.length=64)(i:Nat)(v:Value):(ve mem aH eF depth cv).set (64+i) v=mem.map bv++[.int .i64 aH, .int .i64 eF, .int .i64 depth,cv].set i v:=by unfold ve;rw[List.set_append_right _ _ (by rw[iG,hl];omega),iG,hl,Nat.add_sub_cancel_left]
end
section
variable {P : Nat} {mem : List Int} {aH eF depth : Int} {cv : Value} {W : World}
theorem kF (hl:mem.length=64)(h:dG W P 122 (ve mem aH eF depth cv)):
   (W.cell? ⟨P,64,none⟩=some (.int .i64 aH)/\W.cell? ⟨P,65,none⟩=some (.int .i64 eF)/\W.cell? ⟨P,66,none⟩=some (.int .i64 depth)/\W.cell? ⟨P,67,none⟩=some cv)/\∀i,W.frozen? ⟨P,i,none⟩=false:=
 ⟨⟨h.cell (Dc hl 0),h.cell (Dc hl 1),h.cell (Dc hl 2),h.cell (Dc hl 3)⟩,fun i=>h.frozen i⟩
theorem Rh (hl:mem.length=64)(h:dG W P 122 (ve mem aH eF depth cv))(x:Int):dG (W.setCell ⟨P,65,none⟩ (.int .i64 x)) P 122 (ve mem aH x depth cv):=by have:=h.set 65 (.int .i64 x);rw[show(65:Nat)=64+1 from rfl,P7 hl]at this;exact this
theorem IB (hl:mem.length=64)(h:dG W P 122 (ve mem aH eF depth cv))(x:Int):dG (W.setCell ⟨P,66,none⟩ (.int .i64 x)) P 122 (ve mem aH eF x cv):=by have:=h.set 66 (.int .i64 x);rw[show(66:Nat)=64+2 from rfl,P7 hl]at this;exact this
theorem Ob (hl:mem.length=64)(h:dG W P 122 (ve mem aH aH depth cv)):Calls Tryz.prog 106 #[.pointer (some ⟨P,0,none⟩)] W fun e w'=>e=nV 5/\Below W.heap.size W w':=by obtain⟨⟨c0,c1,c2,c3⟩,cf⟩:=kF hl h;clear c2 c3 cf h;go_enter Tryz.func106,Tryz.ntmps106;go_wp2;go_region;go_wp2;exact⟨rfl,rfl,below_drewN W 1⟩
theorem Sg (hl:mem.length=64)(hb:eF<aH)(hf:aH<=200000)(h0:0<=eF)(h:dG W P 122 (ve mem aH eF depth cv)):Calls Tryz.prog 106 #[.pointer (some ⟨P,0,none⟩)] W fun e w'=>e= .returned (.tuple #[])/\dG w' P 122 (ve mem aH (eF+1) depth cv)/\W.grownBy w' (some P):=by obtain⟨⟨c0,c1,c2,c3⟩,cf⟩:=kF hl h;have f1:=cf 65;have hne:(eF==aH)=false:=by{simp;omega};have HF:=ae (Rh hl (h.drewN 1) (eF+1));clear c2 c3 cf h;go_enter Tryz.func106,Tryz.ntmps106;go_wp2;go_region;go_wp2;(try simp only[Exit.inBlock,Exit.then]);exact fG (fE rfl _ _ _) rfl ⟨rfl,HF.out,rV W 1 _ _⟩
theorem Jn (hl:mem.length=64)(h:dG W P 122 (ve mem aH eF 12 cv)):Calls Tryz.prog 104 #[.pointer (some ⟨P,0,none⟩)] W fun e w'=>e=nV 6/\w'=W:=by obtain⟨⟨c0,c1,c2,c3⟩,cf⟩:=kF hl h;clear c0 c1 c3 cf h;go_enter Tryz.func104,Tryz.ntmps104;go_wp2;exact⟨rfl,rfl,rfl⟩
theorem O3 (d:Nat)(hl:mem.length=64)(hd:d<12)(h:dG W P 122 (ve mem aH eF d cv)):Calls Tryz.prog 104 #[.pointer (some ⟨P,0,none⟩)] W fun e w'=>e= .returned (.tuple #[])/\dG w' P 122 (ve mem aH eF ((d+1:Nat):Int) cv)/\W.grownBy w' (some P):=by obtain⟨⟨c0,c1,c2,c3⟩,cf⟩:=kF hl h;have f1:=cf 66;have hne:((d:Int)==12)=false:=by{simp;omega};have HF:=ae (IB hl h ((d+1:Nat):Int));clear c0 c1 c3 cf h;go_enter Tryz.func104,Tryz.ntmps104;go_wp2;(try simp only[Exit.inBlock,Exit.then]);exact fG (fE rfl _ _ _) rfl ⟨rfl,HF.out,aC W _ _⟩
theorem Ox (d:Nat)(hl:mem.length=64)(hd:d<12)(h:dG W P 122 (ve mem aH eF ((d+1:Nat):Int) cv)):Calls Tryz.prog 108 #[.pointer (some ⟨P,0,none⟩)] W fun e w'=>e= .returned (.tuple #[])/\dG w' P 122 (ve mem aH eF d cv)/\W.grownBy w' (some P):=by obtain⟨⟨c0,c1,c2,c3⟩,cf⟩:=kF hl h;have f1:=cf 66;have HF:=ae (IB hl h (d:Int));clear c0 c1 c3 cf h;go_enter Tryz.func108,Tryz.ntmps108;go_wp2;(try simp only[Exit.inBlock,Exit.then]);exact fG (fE rfl _ _ _) rfl ⟨rfl,HF.out,aC W _ _⟩
end
end Go.Proofs.YthkjdjmjdlimnaaGreat
