/-
  Own texts for a law: SpI1 SpI2 Fi4 Fi5 Shp9 Fi6 SpI3 Shp10 HmJ Hh3 HmI
-/
import Derived.Test.YthamlonlgnjljaaGreatNC20
namespace Go.Proofs.YthamlonlgnjljaaGreat
open Go.RowKit Go.Shelf
set_option linter.all false
set_option maxRecDepth 100000
set_option maxHeartbeats 16000000
theorem yF {l:List Int}{k:Nat}(h:k<l.length):l.getD k 0∈l:=by rw[ah,ai h];exact List.getElem_mem h
theorem Dl (ls:List Ln)(hok:Ln.isOk ls=true)(p:Nat)(hp:p<ls.length)(n₀ gf c g:Nat)(w:World)(hf:FR ls w n₀ gf ls.length c (Fl.live ls))(hs:SA w g (Sp.rows ls p)):Calls Tryz.prog 43 #[.pointer (some ⟨g,0,none⟩), .slice (some ⟨gf,0,none⟩) ls.length c, .int .i64 (p:Int), .bool (decide ((ls.getD p .z).k=7))] w fun e w'=>e= .returned (.tuple #[])/\SA w' g (Sp.rows ls (p+1))/\w.grownBy w' (some g):=by have hI:=Fl.wP hok;have hlen:=Ln.fD hok;have AY:(ls.length:Int)<=300:=by{omega};have I8:(p:Int)<(ls.length:Int):=by{omega};have hcap:=hf.cap;have hcon:=fun n=>jg ls hok p hp (Fl.live ls) hI.lt n₀ gf c (w.drewN n) (hf.kept (bf w n));have sG:=Ln.jE hok hp;have hou:Fl.ou ls (Fl.live ls) p<2 ^ 40:=Fl.qJ hI.lt _;have hsm:=Fl.JR sG;have hin:=hI.lt p;have MX:=yh hin hou;have hor2:=yh (Nat.or_lt_two_pow hin hou) hsm;have hM:=Nat.or_lt_two_pow (Nat.or_lt_two_pow hin hou) hsm;have han:=Jw hou hsm;have hA:=Fl.uX (b:=Fl.sm (ls.getD p .z)) hou;have HST:=ae (Sp.Dt hok hp);have HV:=ae (Sp.xe ls p);have Kw:Hid (Sp.more ls p (Sp.rows ls p)=(Fl.mg (((Fl.live ls).getD p 0|||Fl.ou ls (Fl.live ls) p)|||Fl.sm (ls.getD p .z))).foldl (Sp.on (Sp.rc (p:Int))) (Sp.rows ls p)):=rfl;have DT:Hid (∀l,Sp.iP ls p l=if(ls.getD p .z).k=7 then(Fl.mg (Fl.an (Fl.ou ls (Fl.live ls) p) (Fl.sm (ls.getD p .z)))).foldl (Sp.on Sp.xd) l else l):=fun _=>rfl;obtain⟨gn,mn,cn,d0,d1,d2,d3,-,-⟩:=hf.cells hp;have HS:=ae hs;have hgl:=hs.lt;have afH:=hf.lt;have hmx:ls.length<=9223372036854775807:=by{omega};generalize(Fl.live ls).getD p 0=Z at d3 hin MX hor2 hM Kw;generalize Fl.sm (ls.getD p .z)=S at d2 hsm hor2 hM han hA Kw DT;generalize Fl.ou ls (Fl.live ls) p=O at hcon hou MX hor2 hM han hA Kw DT;generalize Z|||O=X at MX hor2 hM Kw;generalize X|||S=M at hor2 hM Kw;generalize Fl.an O S=A at han hA DT;obtain⟨q,hq⟩:∃q,decide ((ls.getD p .z).k=7)=q:=⟨_,rfl⟩;have hCQ:∀l,Sp.iP ls p l=if q=true then(Fl.mg A).foldl (Sp.on Sp.xd) l else l:=fun l=>by{rw[DT.out l,←hq];simp only[decide_eq_true_eq]};rw[hq];generalize Sp.rows ls p=l0 at HST HV HS Kw hs;obtain⟨l1,hl1⟩:∃l1,Sp.more ls p l0=l1:=⟨_,rfl⟩;rw[hl1]at HST Kw;obtain⟨l2,hl2⟩:∃l2,Sp.rows ls (p+1)=l2:=⟨_,rfl⟩;rw[hl2]at HST ⊢;have Uj:=ae (hCQ l1);rw[←HST.out]at Uj;generalize hL:ls.length=L at AY I8 hcap hp hcon hmx;have U0:Hid ((Fl.mg M).length<=40):=Fl.qw M 40;have HBI:=ae (Sp.wR M);have aa3:Hid ((Fl.mg A).length<=40):=Fl.qw A 40;have aa4:=ae (Sp.wR A);have HVM:Hid (Sp.Vs l0):=HV;have hcb:=fun W=>qX M hM W;have zz:=fun W=>qX A hA W;clear sG hok hlen hI hou hsm hin hM hA hl1 hl2 hq hCQ hL hf hs DT HST HV hp;go_enter Tryz.func43,Tryz.ntmps43;go_wp2;go_quiet ((go_at_call 73;exact Calls.quiet_of_same (hcon _)));go_wp2_with fail;refine(hcb _).mono ?_;rintro e w2 ⟨gb,nb,cb,rfl,zw,hB2⟩;dsimp only;have hB3:=bY hB2;have GJ:OG w2 w.heap.size gb nb cb (Fl.mg M):=zw;have hgb:=GJ.lt;have hgw:=hB3.size;have hne:gb≠g:=by{omega};have HL:=ae GJ.1;have HX:=ae (ak GJ (ak (HS.out.kept hB3) hB3));have hnb:nb<=40:=by{rw[←HL.out];exact U0.out};have afJ:(nb:Int)<=40:=by{omega};have hcapb:=GJ.cap;clear zw hB2 hB3 GJ hcon hcb d0 d1 d2 d3;go_wp2;go_loopg [33] nb (fun gk vi wr=>∃(k:Nat),gk=nb-k/\k<=nb/\vi= .int .i64 (k:Int)/\OG wr w.heap.size gb nb cb (Fl.mg M)/\SA wr g (((Fl.mg M).take k).foldl (Sp.on (Sp.rc (p:Int))) l0)/\w.grownBy wr (some g));(case atStart=>exact⟨0,rfl,by omega,rfl,HX.out.1,HX.out.2.1,mh HX.out.2.2 (by exact⟨rfl,rfl,rfl,Nat.le_refl _,fun _ _ _=>rfl⟩)⟩);case round=>obtain⟨k,mJ,hk,rfl,zw,hs,hG⟩:=hrel;clear HX;by_cases hlt:k<nb;{have bE:(k:Int)<(nb:Int):=by{omega};have hc:=zw.cell hlt;have hkl:k<(Fl.mg M).length:=by{rw[HL.out];exact hlt};have hy:=HBI.out ((Fl.mg M).getD k 0) (yF hkl);have HT:=ae (Sp.uz (Sp.rc (p:Int)) hkl l0);have hv:=Sp.Vs.fold (Sp.V3 (p:Int)) (Sp.VT (by omega)) ((Fl.mg M).take k) l0 (fun b hb=>HBI.out b (List.mem_of_mem_take hb)) HVM.out;generalize(Fl.mg M).getD k 0=y at hc hy HT;generalize((Fl.mg M).take k).foldl (Sp.on (Sp.rc (p:Int))) l0=lk at hs HT hv;obtain⟨j,rfl⟩:=Int.eq_ofNat_of_zero_le hy.1;have hrc:=zZ lk hv j (by omega) (p:Int) g wr hs;have HO:=ae (ak zw hG);have hgr:=hs.lt;have hbr:=zw.lt;clear zw hs hG hv hy hkl;go_wp2_with(go_at_call 75;refine hrc.mono ?_;rintro e w4 ⟨rfl,hs4,hg4⟩;dsimp only;have HF:=ae (ak (HO.out.1.bS hg4 hne) (ak hs4 (HO.out.2.trans hg4)));clear hs4 hg4);go_roundg (nb-(k+1));(case measure=>omega);case rel=>exact⟨k+1,rfl,hlt,by simp,HF.out.1,by rw[HT.out];exact HF.out.2.1,HF.out.2.2⟩};have hke:k=nb:=by{omega};have HE:Hid (SA wr g l1/\w.grownBy wr (some g)):=by{refine⟨?_,hG⟩;rw[Kw.out];rw[hke,←HL.out,List.take_length]at hs;exact hs};have bE:¬(k:Int)<(nb:Int):=by{omega};clear zw hs hG hke;cases q;{have HQ:Hid (l2=l1):=by{show _=_;rw[Uj.out,ax (by decide)]};clear Uj;go_wp2;refine bodyPost_ret (results_none rfl _ _ _) rfl ⟨rfl,?_,HE.out.2⟩;rw[HQ.out];exact HE.out.1};have HQ:Hid (l2=(Fl.mg A).foldl (Sp.on Sp.xd) l1):=by{show _=_;rw[Uj.out,ay rfl]};clear Uj;go_wp2_with fail;refine(zz _).mono ?_;rintro e w3 ⟨gd,nd,cd,rfl,hod,hB3⟩;dsimp only;have GK:OG w3 wr.heap.size gd nd cd (Fl.mg A):=hod;have hgd:=GK.lt;have hgr:=HE.out.1.lt;have hne2:gd≠g:=by{omega};have HL2:=ae GK.1;have HX:=ae (ak GK (ak (HE.out.1.kept hB3) (HE.out.2.trans (show wr.grownBy w3 (some g)from⟨hB3.os,hB3.tape,hB3.output,hB3.size,fun x hx _=>hB3.block x hx⟩))));have hnd:nd<=40:=by{rw[←HL2.out];exact aa3.out};have afK:(nd:Int)<=40:=by{omega};have ade:=GK.cap;have HG0:=HX.out.2.1.lt;clear hod hB3 GK zz;go_wp2;go_loopg [49] nd (fun gk vi wr=>∃(k:Nat),gk=nd-k/\k<=nd/\vi= .int .i64 (k:Int)/\OG wr w.heap.size gd nd cd (Fl.mg A)/\SA wr g (((Fl.mg A).take k).foldl (Sp.on Sp.xd) l1)/\w.grownBy wr (some g));(case atStart=>exact⟨0,rfl,by omega,rfl,HX.out.1.mono HE.out.2.size,HX.out.2.1,HX.out.2.2⟩);case round=>obtain⟨i,hgi,hi,rfl,zw,hs,hG⟩:=hrel;clear HX;by_cases hlt2:i<nd;{have Uk:(i:Int)<(nd:Int):=by{omega};have hc:=zw.cell hlt2;have hkl:i<(Fl.mg A).length:=by{rw[HL2.out];exact hlt2};have hy:=aa4.out ((Fl.mg A).getD i 0) (yF hkl);have HT:=ae (Sp.uz Sp.xd hkl l1);generalize(Fl.mg A).getD i 0=y at hc hy HT;generalize((Fl.mg A).take i).foldl (Sp.on Sp.xd) l1=lk at hs HT;obtain⟨j,rfl⟩:=Int.eq_ofNat_of_zero_le hy.1;have hj:j<40:=by{omega};have I7:(j:Int)<40:=by{omega};obtain⟨e0,e1,e2,e3⟩:=hs.cell hj;have hgs:=hs.lt;have hfz:=hs.frozen;have hgx:=aF wr ⟨g,j*4+3,none⟩ (.bool true);have HF:=ae (ak (zw.bS hgx hne2) (ak (hs.cr hj) (hG.trans hgx)));have Mw:Hid (Sp.on Sp.xd lk (j:Int)=lk.set j (Sp.xd (lk.getD j .z))):=rfl;generalize lk.getD j .z=s at e0 e1 e2 e3 HF Mw;have hbr:=zw.lt;clear zw hs hG hy hkl hgx;go_wp2;go_roundg (nd-(i+1));(case measure=>omega);case rel=>exact⟨i+1,rfl,hlt2,by simp,HF.out.1,by rw[HT.out,Mw.out];exact HF.out.2.1,HF.out.2.2⟩};have hie:i=nd:=by{omega};have HZ:Hid (SA wr g l2/\w.grownBy wr (some g)):=by{refine⟨?_,hG⟩;rw[HQ.out];rw[hie,←HL2.out,List.take_length]at hs;exact hs};have Uk:¬(i:Int)<(nd:Int):=by{omega};clear zw hs hG hie;go_wp2;refine bodyPost_end (results_none rfl _ _ _) rfl ⟨rfl,HZ.out.1,HZ.out.2⟩
theorem mQ {W W1:World}(hB:Below W.drew.drew.heap.size W.drew.drew W1):Below W.heap.size W W1:=⟨hB.os,hB.tape,hB.output,hB.size,fun k hk=>hB.block k hk⟩
theorem rG (l:List Sp.S)(hv:Sp.Vs l)(g:Nat)(w:World)(hs:SA w g l):Calls Tryz.prog 44 #[.pointer (some ⟨g,0,none⟩)] w fun e w'=>∃g' n c,e= .returned (.slice (some ⟨g',0,none⟩) n c)/\SG w' w.heap.size g' n c (Sp.bg l 40)/\Below w.heap.size w w':=by have HO:=ae (ak (SG.empty w w.heap.size (Nat.le_refl _)) (aA w (.cells #[] 45)));have HV:=ae hv;have HS:=ae hs;have hg0:=hs.lt;clear hs hv;go_enter Tryz.func44,Tryz.ntmps44;go_wp2;go_loopg [3,9] 40 (fun gk vo vi wr=>∃(k g' n c:Nat),gk=40-k/\k<=40/\vo= .slice (some ⟨g',0,none⟩) n c/\vi= .int .i64 (k:Int)/\SG wr w.heap.size g' n c (Sp.bg l k)/\Below w.heap.size w wr);(case atStart=>exact⟨0,_,0,0,rfl,by omega,rfl,rfl,HO.out.1,HO.out.2⟩);case round=>obtain⟨k,g',n,c,mJ,hk,rfl,rfl,hor,hB⟩:=hrel;clear HO;have HH:=ae (ak hor hB);by_cases hlt:k<40;{have bE:(k:Int)<40:=by{omega};have hs:=HS.out.kept hB;have hgl:=hs.lt;have hfz:=hs.frozen;have aZ:=hB.size;obtain⟨d0,d1,d2,d3⟩:=hs.cell hlt;have hbx:=HV.out.bx k hlt;have hun:=HV.out.un k hlt;have iD:Hid (Sp.bg l (k+1)=if 0<=(l.getD k .z).f then Sp.bg l k++[l.getD k .z]else Sp.bg l k):=rfl;have hnl:=Sp.Fy l k;rw[hor.1]at hnl;have HSS:=ae hs;generalize l.getD k .z=s at d0 d1 d2 d3 hbx hun iD;obtain⟨sb,sf,st,sc⟩:=s;dsimp only at hbx hun d0 d1 d2 d3;subst hbx;clear hor hB hs;by_cases hf:sf<0;{have h2:=hun hf;injection h2 with _ h3 h4 h5;subst h3 h4 h5;have HN2:Hid (Sp.bg l (k+1)=Sp.bg l k):=by{show _=_;rw[iD.out,ax (show¬(0:Int)<=-1 by decide)]};clear hun hf iD;have hal:=aA wr (.cells #[.int .i64 (k:Int), .int .i64 (-1), .int .i64 (-1), .bool false] 45);have HK:=ae (ak (HH.out.1.kept hal) (HH.out.2.trans (hal.mono aZ)));clear hal;go_wp2_with fail;go_region;go_wp2_with fail;go_region_with (go_at_call 45;refine(ed _ _).mono ?_;rintro e w4 ⟨rfl,hB4⟩;unfold JA;have bI:=mQ hB4;have hlz:=bI.size;have e0:=bI.cell (p:=⟨wr.heap.size,0,none⟩) (by simp);have e1:=bI.cell (p:=⟨wr.heap.size,1,none⟩) (by simp);have e2:=bI.cell (p:=⟨wr.heap.size,2,none⟩) (by simp);have e3:=bI.cell (p:=⟨wr.heap.size,3,none⟩) (by simp);simp at e0 e1 e2 e3 hlz;have NJ:=ae (ak (HK.out.1.kept bI) (HK.out.2.trans (bI.mono HK.out.2.size)));clear hB4 bI);all_goals go_wp2;go_roundg (40-(k+1));(case measure=>omega);case rel=>exact⟨k+1,g',n,c,rfl,hlt,rfl,by simp,by rw[HN2.out];exact NJ.out.1,NJ.out.2⟩};have HN2:Hid (Sp.bg l (k+1)=Sp.bg l k++[⟨(k:Int),sf,st,sc⟩]):=by{show _=_;rw[iD.out,ay (show(0:Int)<=sf by omega)]};have hq:¬sf=-1:=by{omega};clear hun hf iD;have hal:=aA wr (.cells #[.int .i64 (k:Int), .int .i64 sf, .int .i64 st, .bool sc] 45);have HK:=ae (ak (HH.out.1.kept hal) (HH.out.2.trans (hal.mono aZ)));clear hal;go_wp2_with fail;go_region;go_wp2_with fail;go_region_with (go_at_call 45;refine(ed _ _).mono ?_;rintro e w4 ⟨rfl,hB4⟩;unfold JA;have bI:=mQ hB4;have hlz:=bI.size;have e0:=bI.cell (p:=⟨wr.heap.size,0,none⟩) (by simp);have e1:=bI.cell (p:=⟨wr.heap.size,1,none⟩) (by simp);have e2:=bI.cell (p:=⟨wr.heap.size,2,none⟩) (by simp);have e3:=bI.cell (p:=⟨wr.heap.size,3,none⟩) (by simp);simp at e0 e1 e2 e3 hlz;have NJ:=ae (ak (HK.out.1.kept bI) (HK.out.2.trans (bI.mono HK.out.2.size)));clear hB4 bI);all_goals have hal:=aA w4 (.cells #[.int .i64 (k:Int), .int .i64 sf, .int .i64 st, .bool sc] 45);have Vw:=ae (ak (NJ.out.1.kept hal) (NJ.out.2.trans (hal.mono NJ.out.2.size)));have MF:=ae (mi w4 (.int .i64 (k:Int)) (.int .i64 sf) (.int .i64 st) (.bool sc) 45);have zR:=Vw.out.2.size;clear hal;go_wp2_with(at_builtin;refine y9 _ rfl _ _ rfl w.heap.size _ _ _ _ rfl Vw.out.1 w4.heap.size ⟨(k:Int),sf,st,sc⟩ rfl MF.out (by omega) zR ?_;intro g6 c6 N6 w6 hN6 vC lg;have HF:=ae (ak vC (aB Vw.out.2 lg Vw.out.1.lt.1));clear vC lg);go_roundg (40-(k+1));(case measure=>omega);case rel=>exact⟨k+1,g6,N6,c6,rfl,hlt,rfl,by simp,by rw[HN2.out];exact HF.out.1,HF.out.2⟩};have hke:k=40:=by{omega};subst hke;go_wp2;go_ret;exact⟨g',n,c,rfl,HH.out.1,HH.out.2⟩
namespace Fl
theorem yl {f:List Nat}{p:Nat}{x:Nat}(h:f.getD p 0=x):f.set p x=f:=by by_cases hp:p<f.length;{rw[ah,ai hp]at h;simp only[Option.getD_some]at h;rw[←h];exact List.set_getElem_self hp};exact List.set_eq_of_length_le (by omega)
end Fl
theorem pR (ls:List Ln)(hok:Ln.isOk ls=true)(p:Nat)(hp:p<ls.length)(f:List Nat)(hI:Fl.In ls f)(n₀ g c:Nat)(w:World)(h:FR ls w n₀ g ls.length c f):Calls Tryz.prog 96 #[.slice (some ⟨g,0,none⟩) ls.length c, .int .i64 (p:Int)] w fun e w'=>e= .returned (.bool (decide (Fl.ic ls f p≠f.getD p 0)))/\FR ls w' n₀ g ls.length c (f.set p (Fl.ic ls f p))/\w.grownBy w' (some g):=by have hlen:=Ln.fD hok;have AY:(ls.length:Int)<=300:=by{omega};have I8:(p:Int)<(ls.length:Int):=by{omega};have hcap:=h.cap;have hcon:=fun n=>jg ls hok p hp f hI.lt n₀ g c (w.drewN n) (h.kept (bf w n));have HST:Hid (Fl.ic ls f p=Fl.um (ls.getD p .z)|||Fl.an (Fl.ou ls f p) (Fl.sm (ls.getD p .z))):=rfl;have sG:=Ln.jE hok hp;have hou:Fl.ou ls f p<2 ^ 40:=Fl.qJ hI.lt _;have hum:=Fl.JF sG;have hsm:=Fl.JR sG;have hal:=Jw hou hsm;have hor:=yh hum (Fl.uX (b:=Fl.sm (ls.getD p .z)) hou);rw[←HST.out]at hor;obtain⟨gn,mn,cn,d0,d1,d2,d3,-,-⟩:=h.cells hp;have hfz:=h.frozen;have hlt:=h.lt;have HH:=ae h;have HL:=ae hI.len;generalize Fl.um (ls.getD p .z)=U at hor d1;generalize Fl.sm (ls.getD p .z)=S at hal hor d2;generalize Fl.ou ls f p=O at hal hor hcon;generalize Fl.an O S=A at hal hor;obtain⟨T,hT⟩:∃T,Fl.ic ls f p=T:=⟨_,rfl⟩;rw[hT]at hor ⊢;obtain⟨z,hz⟩:∃z,f.getD p 0=z:=⟨_,rfl⟩;rw[hz]at d3 ⊢;have HZ:=ae hz;generalize hL:ls.length=L at AY I8 hcap HL HH hp hcon ⊢;clear hok hlen hI sG hou hum hsm h hT hz hL HST;by_cases e:T=z;{have hd:decide (T≠z)=false:=by{simp[e]};rw[hd];subst e;have hq:((T:Int)==(T:Int))=true:=by{simp};clear hd;go_enter Tryz.func96,Tryz.ntmps96;go_wp2;go_quiet ((go_at_call 73;exact Calls.quiet_of_same (hcon _)));have HF:Hid (FR ls (w.drewN nq) n₀ g L c (f.set p T)/\w.grownBy (w.drewN nq) (some g)):=⟨by rw[Fl.yl HZ.out];exact HH.out.kept (bf w nq),⟨rfl,rfl,rfl,Nat.le_refl _,fun _ _ _=>rfl⟩⟩;go_wp2;go_ret;exact⟨rfl,HF.out.1,HF.out.2⟩};have hd:decide (T≠z)=true:=by{simp[e]};rw[hd];have hq:((T:Int)==(z:Int))=false:=by{simp;omega};clear hd;go_enter Tryz.func96,Tryz.ntmps96;go_wp2;go_quiet ((go_at_call 73;exact Calls.quiet_of_same (hcon _)));have HF:Hid (FR ls ((w.drewN nq).setCell ⟨g,p*4+3,none⟩ (.int .u64 (T:Int))) n₀ g L c (f.set p T)/\w.grownBy ((w.drewN nq).setCell ⟨g,p*4+3,none⟩ (.int .u64 (T:Int))) (some g)):=⟨(HH.out.kept (bf w nq)).set hp HL.out T,(show w.grownBy (w.drewN nq) (some g)from⟨rfl,rfl,rfl,Nat.le_refl _,fun _ _ _=>rfl⟩).trans (aF _ ⟨g,p*4+3,none⟩ _)⟩;go_wp2;go_ret;exact⟨rfl,HF.out.1,HF.out.2⟩
namespace Fl
def kr (ls:List Ln)(f:List Nat)(p s:Nat):Prop:=∀t,t<s->ic ls f ((p+t)%ls.length)=f.getD ((p+t)%ls.length) 0
theorem kr.more {ls:List Ln}{f:List Nat}{p s:Nat}(h:kr ls f (p+1) s)(hp:p<ls.length)(he:ic ls f p=f.getD p 0):kr ls f p (s+1):=fun t ht=>by
 rcases t with _|t
 · rw[Nat.add_zero,Nat.mod_eq_of_lt hp]
   exact he
 · rw[show p+(t+1)=p+1+t by omega]
   exact h t (by omega)
theorem kr.fix {ls:List Ln}{f:List Nat}{p:Nat}(h:kr ls f p ls.length)(hp:p<ls.length):Fix ls f:=fun i hi=>by
 by_cases hpi:p<=i
 · have:=h (i-p) (by omega)
   rwa [show p+(i-p)=i by omega,Nat.mod_eq_of_lt hi]at this
 · have:=h (i+ls.length-p) (by omega)
   rwa [show p+(i+ls.length-p)=i+ls.length by omega,Nat.add_mod_right,Nat.mod_eq_of_lt hi]at this
theorem kr.turn {ls:List Ln}{f:List Nat}{s:Nat}(h:kr ls f 0 s):kr ls f ls.length s:=fun t ht=>by
 have:=h t ht
 rw[Nat.zero_add]at this
 rw[Nat.add_mod_left]
 exact this
end Fl
theorem oH (ls:List Ln)(hok:Ln.isOk ls=true)(f0:List Nat)(hI:Fl.In ls f0)(hS:Fl.Sound ls f0)(n₀ g c:Nat)(w:World)(h:FR ls w n₀ g ls.length c f0):Calls Tryz.prog 72 #[.slice (some ⟨g,0,none⟩) ls.length c] w fun e w'=>e= .returned (.tuple #[])/\FR ls w' n₀ g ls.length c (Fl.live ls)/\w.grownBy w' (some g):=by have hlen:=Ln.fD hok;have hcap:=h.cap;have hlt:=h.lt;obtain⟨M,hM⟩:∃M,∀f,Fl.In ls f->f.sum<=M:=⟨_,fun f h=>h.sum⟩;have HM:=ae hM;have gK:=ae hok;have HI:=ae (ak hI hS);have HH:=ae h;have hcon:=fun p hp f hI W h=>pR ls hok p hp f hI n₀ g c W h;obtain⟨L,hL⟩:∃L,ls.length=L:=⟨_,rfl⟩;have HL:=ae hL;rw[hL]at hlen hcap HH hcon ⊢;have AY:(L:Int)<=300:=by{omega};have hl1:(1:Int)<=(L:Int):=by{omega};clear hM hok hI hS h hL;go_enter Tryz.func72,Tryz.ntmps72;go_wp2;go_step3;go_wp2;go_step3;go_wp2;go_loopg [2] (M-f0.sum) (fun gk vs wr=>∃(s:Nat)(f:List Nat),vs= .int .i64 (s:Int)/\gk=M-f.sum/\s<L/\Hid (Fl.In ls f/\Fl.Sound ls f)/\Hid (Fl.kr ls f L s)/\FR ls wr n₀ g L c f/\w.grownBy wr (some g));(case atStart=>exact⟨0,f0,rfl,rfl,by omega,HI,(fun t ht=>by omega),HH.out,World.grownBy.refl _ _⟩);case round=>obtain⟨s0,f,rfl,mJ,hs0,HIf,HSt,hfr,hgr⟩:=hrel;have HFG:=ae (ak hfr hgr);clear hfr hgr;go_wp2;go_loopg [2,3] L (fun gj vs va wx=>∃(s:Nat)(f':List Nat),vs= .int .i64 (s:Int)/\va= .int .i64 ((gj:Int)-1)/\gj<=L/\s<L/\Hid (Fl.In ls f'/\Fl.Sound ls f')/\Hid (Fl.kr ls f' gj s)/\Hid (f.sum<f'.sum\/f'=f/\s=s0+(L-gj))/\FR ls wx n₀ g L c f'/\w.grownBy wx (some g));(case atStart=>exact⟨s0,f,rfl,rfl,Nat.le_refl _,hs0,HIf,HSt, .inr ⟨rfl,by omega⟩,HFG.out.1,HFG.out.2⟩);case round=>obtain⟨s,f',rfl,rfl,hgj,hs,sV,HS',HD',hfr,hgr⟩:=hrel;rcases gk with _|p;{have hN:¬((0:Nat):Int)-1≥0:=by{omega};have Ec:=ae (ak hfr hgr);clear hfr hgr;go_wp2;have Ul:Hid (f.sum<f'.sum):=by{rcases HD'.out with h|⟨-,h⟩;{exact h};exact absurd hs (by omega)};go_roundg (M-f'.sum);(case measure=>have h1:=HM.out _ sV.out.1;have h2:=Ul.out;omega);case rel=>refine⟨s,f',rfl,rfl,hs,sV,?_,Ec.out.1,Ec.out.2⟩;have:=HS'.out.turn;rw[HL.out]at this;exact this};have hp:p<L:=by{omega};have hY:((p:Int)≥0):=by{omega};have e5:(((p+1:Nat):Int)-1)=(p:Int):=by{omega};rw[e5];have hc:=hcon p hp f' sV.out.1 wr hfr;have HGR:=ae hgr;have afN:=hfr.lt;clear hfr hgr e5;by_cases hst:Fl.ic ls f' p=f'.getD p 0;{have hd:decide (Fl.ic ls f' p≠f'.getD p 0)=false:=decide_eq_false fun h=>h hst;rw[hd,Fl.yl hst.symm]at hc;have HM':Hid (Fl.kr ls f' p (s+1)):=HS'.out.more (by rw[HL.out];exact hp) hst;clear hd hst;by_cases hsl:s+1=L;{have hq:((s:Int)+1==(L:Int))=true:=by{simp;omega};have HE:Hid (f'=Fl.live ls):=by{have h1:=HM'.out;rw[hsl,←HL.out]at h1;exact Fl.yS gK.out sV.out.1 sV.out.2 (h1.fix (by rw[HL.out];exact hp))};clear hsl;go_wp2_with(go_at_call 96;refine hc.mono ?_;rintro e w4 ⟨rfl,zJ,gy⟩;dsimp only;have HF:=ae (ak zJ (HGR.out.trans gy));clear zJ gy);rw[Exit.noGoto_normal];(try simp only[Exit.inBlock,Exit.then]);refine bodyPost_end (results_none rfl _ _ _) rfl ⟨rfl,?_,HF.out.2⟩;rw[←HE.out];exact HF.out.1};have hq:((s:Int)+1==(L:Int))=false:=by{simp;omega};go_wp2_with(go_at_call 96;refine hc.mono ?_;rintro e w4 ⟨rfl,zJ,gy⟩;dsimp only;have HF:=ae (ak zJ (HGR.out.trans gy));clear zJ gy);go_roundg p;(case measure=>omega);case rel=>refine⟨s+1,f',by simp,rfl,by omega,by omega,sV,HM',?_,HF.out.1,HF.out.2⟩;rcases HD'.out with h|⟨h,h2⟩;{exact .inl h};exact .inr ⟨h,by omega⟩};have hd:decide (Fl.ic ls f' p≠f'.getD p 0)=true:=decide_eq_true hst;rw[hd]at hc;have Ja:=ae hst;clear hd hst;go_wp2_with(go_at_call 96;refine hc.mono ?_;rintro e w4 ⟨rfl,zJ,gy⟩;dsimp only;have HF:=ae (ak zJ (HGR.out.trans gy));clear zJ gy);go_roundg p;(case measure=>omega);case rel=>have hpl:p<ls.length:=by{rw[HL.out];exact hp};refine⟨0,f'.set p (Fl.ic ls f' p),rfl,rfl,by omega,by omega,⟨sV.out.1.set gK.out hpl,sV.out.2.set gK.out hpl⟩,(fun t ht=>by omega), .inl ?_,HF.out.1,HF.out.2⟩;have h1:=sV.out.1.more hpl Ja.out;rcases HD'.out with h|⟨h,h2⟩;{exact Nat.lt_trans h h1};rw[h]at h1 ⊢;exact h1
def SR (w W:World)(n₀ g k c:Nat)(xs:List Ln):Prop:=
 ∃eG:List Value,eG.length=k/\W.ownsRow n₀ 97 1 (.slice (some ⟨g,0,none⟩) k c) k eG/\∀j,j<k->∃la ln lc,eG.getD j undef=dF (xs.getD j .z) (.slice la ln lc)/\IL w la ln (xs.getD j .z).l
theorem rV:(Tryz.prog.info? 97).map (fun i=>(i.zero,i.size,i.bytes))=some (some .nilIface,1,16):=by kernel_rfl
theorem SR.lt {w W:World}{n₀ g k c:Nat}{xs:List Ln}(h:SR w W n₀ g k c xs):n₀<=g/\g<W.heap.size:=by obtain⟨eG,-,h,-⟩:=h;exact World.ownsRow.lt h g rfl
theorem SR.kept {w W W':World}{n₀ g k c:Nat}{xs:List Ln}(h:SR w W n₀ g k c xs)(hB:Below W.heap.size W W'):SR w W' n₀ g k c xs:=by obtain⟨eG,h1,h2,h3⟩:=h;exact⟨eG,h1,aH h2 hB,h3⟩
theorem SR.cell {w W:World}{n₀ g k c:Nat}{xs:List Ln}(h:SR w W n₀ g k c xs){j:Nat}(hj:j<k):∃la ln lc,W.cell? ⟨g,j,none⟩=some (dF (xs.getD j .z) (.slice la ln lc))/\IL w la ln (xs.getD j .z).l:=by obtain⟨eG,h1,h2,h3⟩:=h;obtain⟨la,ln,lc,e,hi⟩:=h3 j hj;refine⟨la,ln,lc,?_,hi⟩;have:=World.ownsRow.cellAt h2 j (by omega);rw[←e];rw[ah,ai (by omega)];rw[this];simp
theorem SR.cut {w W:World}{n₀ g k c m:Nat}{xs:List Ln}(h:SR w W n₀ g k c (xs.take m))(hk:k<=m):SR w W n₀ g k c xs:=by obtain⟨eG,h1,h2,h3⟩:=h;refine⟨eG,h1,h2,fun j hj=>?_⟩;obtain⟨la,ln,lc,e,hi⟩:=h3 j hj;have e2:(xs.take m).getD j .z=xs.getD j .z:=by{rw[ah,ah,List.getElem?_take_of_lt (by omega)]};rw[e2]at e hi;exact⟨la,ln,lc,e,hi⟩
theorem Ct {ops:Array Oper}{rest:List Oper}{o:Oper}{a:Act}{Q:Exit->Act->World->Prop}(W w:World)(hgd:o.guard=none)(s x:Operand)(ho:o.op= .call {callee:= .builtin .append,args:=#[s,x],argTypes:=#[60,60]})(n₀ g k c:Nat)(xs:List Ln)(hs:a.eval s= .slice (some ⟨g,0,none⟩) k c)(hown:SR w W n₀ g k c xs)(hxl:xs.length=k)(sb:Nat)(hx:a.eval x= .slice (some ⟨sb,0,none⟩) 1 1)(y:Ln)(la:Option Addr)(ln lc:Nat)(T:TypeId)(u:Value)(hv:dF y (.slice la ln lc)= .iface T u)(hcell:W.cell? ⟨sb,0,none⟩=some (.iface T u))(hil:IL w la ln y.l)(hsz:k<=1000000)(hbase:n₀<=W.heap.size)(h:∀g' c' N W',Hid (N=k+1)->SR w W' n₀ g' N c' (xs++[y])->W.grownBy W' (some g)->wpList Tryz.prog ops Q rest (a.put o.dst (.slice (some ⟨g',0,none⟩) N c')) W'):wpList Tryz.prog ops Q (o::rest) a W:=by obtain⟨i0,hi,hz0,hz1,hz2⟩:=info_parts rV;obtain⟨eG,h1,h2,h3⟩:=hown;refine wpList_append_own W hgd s x 60 ho n₀ 97 i0 .nilIface 1 16 Tryz.underlying60 hi hz0 hz1 hz2 rfl (by decide) _ k eG hs h2 ⟨sb,0,none⟩ 1 1 [.iface T u] hx rfl (fun j u' hu=>?_) (fun u' hu=>?_) (by simp only[maxLen];omega) (by omega) hbase (fun v' W' hown' hgrow hnn=>?_);{rcases j with _|j;{simp only[List.getElem?_cons_zero,af]at hu;rw[←hu];(have hadd:(⟨sb,0,none⟩:Addr).add 0=⟨sb,0,none⟩:=by unfold Addr.add;split<;>simp_all);rw[hadd];exact hcell};simp at hu};{rw[List.mem_singleton]at hu;rw[hu];rfl};rcases hown'.2 with⟨rfl,h0⟩|⟨g',cap',cur,rfl,r⟩;{exact absurd (hnn.1 rfl).1 (fun e=>by cases e)};refine h g' cap' (k+1) W' rfl ⟨eG++[.iface T u],by simp[h1],hown',fun j hj=>?_⟩ hgrow;by_cases hjk:j<k;{obtain⟨la',ln',Z4,e,hi'⟩:=h3 j hjk;refine⟨la',ln',Z4,?_,?_⟩;{rw[ah,List.getElem?_append_left (by omega),←ah,e,ah,ah,List.getElem?_append_left (by omega)]};rw[ah,List.getElem?_append_left (by omega),←ah];exact hi'};have e:j=k:=by{omega};subst e;have e1:(eG++[Value.iface T u]).getD j undef= .iface T u:=by{rw[ah,List.getElem?_append_right (by omega),h1];simp};have e2:(xs++[y]).getD j .z=y:=by{rw[ah,List.getElem?_append_right (by omega),hxl];simp};rw[e1,e2];exact⟨la,ln,lc,hv.symm,hil⟩
namespace Ln
theorem Dw {ls:List Ln}{i:Nat}(hi:i<ls.length):ls.take i++[ls.getD i z]=ls.take (i+1):=by rw[List.take_add_one,ai hi,ah,ai hi];simp
theorem Au {x:Ln}{m:Nat}(h:ok x=true):gJ m x=place m x:=by unfold gJ;rw[h,Bool.true_and];have hk:=dw h;obtain⟨k,d,a,b,n,l⟩:=x;rcases kinds hk.1 hk.2 with e|e|e|e|e|e|e|e|e|e|e<;>simp only at e<;>subst e;(case inr.inr.inr.inr.inl=>have h0:0<=n:=by{unfold ok at h;simp[asks,Wd.bW]at h;omega};rw[Bool.eq_iff_iff];simp[place,gX,Wd.bW];omega);(case inr.inr.inr.inr.inr.inl=>have h0:0<=n:=by{unfold ok at h;simp[asks,Wd.bW]at h;omega};rw[Bool.eq_iff_iff];simp[place,gX,Wd.bW];omega);all_goals simp[place,gX]
theorem x8 (ls:List Ln):jH ls= !behind (ls.getD (ls.length-1) z):=by unfold jH behind;generalize(ls.getD (ls.length-1) z).k=k;by_cases h5:k=5<;>by_cases h10:k=10<;>by_cases h11:k=11<;>simp[h5,h10,h11]
theorem IK {ls:List Ln}(h:1<=ls.length/\ls.length<=300):isOk ls=(ls.all (gJ ls.length)&&jH ls):=by unfold isOk;rw[decide_eq_true h,Bool.true_and]
end Ln
theorem jB (a:Option Addr)(len cap:Nat)(ls:List Ln)(w:World)(hs:LL w a len ls):Calls Tryz.prog 39 #[.slice a len cap] w fun e w'=>(Ln.isOk ls=false/\e= .returned (.tuple #[.slice none 0 0, .bool false])\/Ln.isOk ls=true/\∃g c,e= .returned (.tuple #[.slice (some ⟨g,0,none⟩) len c, .bool true])/\SR w w' w.heap.size g len c ls)/\Below w.heap.size w w':=by
 have hl:=hs.1
 have hm:=hs.2.1
 unfold maxLen at hm
 have hcon:=dN (len:Int) 1 300 w
 by_cases hin:1<=len/\len<=300
 rotate_left
 · have e:Wd.bW (len:Int) 1 300=false:=by{unfold Wd.bW;simp;omega};have HN:Hid (Ln.isOk ls=false):=Ln.wY (by omega);rw[e]at hcon;clear e hs hl hin;go_enter Tryz.func39,Tryz.ntmps39;go_wp2_with(go_at_call 66;refine hcon.mono ?_;rintro e w' ⟨rfl,aZ⟩;subst w';dsimp only);go_ret2;exact⟨.inl ⟨HN.out,rfl⟩,Below.refl _ _⟩
 have e:Wd.bW (len:Int) 1 300=true:=by unfold Wd.bW;simp;omega
 rw[e]at hcon
 clear e
 have Wq:(1:Int)<=(len:Int):=by omega
 have h2Z:(len:Int)<=300:=by omega
 obtain⟨i0,hi,hz0,hz1,hz2⟩:=info_parts rV
 obtain⟨wm,hmk,hown,hgrow⟩:=run_make_own (P:=Tryz.prog) w w.heap.size 60 97 i0 _ 1 Tryz.underlying60 hi hz0 hz1 .i64 .i64 len (by rw[hz2];omega) (by simp only[maxLen];omega) (Nat.le_refl _)
 have HB0:=ae (kH hgrow)
 have Eg:Hid (SR w wm w.heap.size w.heap.size 0 len (ls.take 0)):=⟨[],rfl,hown,fun j hj=>by omega⟩
 have HL:=ae hl
 obtain⟨R,hR⟩:∃R,Ln.isOk ls=R:=⟨_,rfl⟩
 have HR:Hid (R=(ls.all (Ln.gJ len)&&Ln.jH ls)):=by show _=_;rw[←hR,Ln.IK (by omega),hl]
 rw[hR]
 obtain⟨-,-,h0|⟨b,off,rfl,hb,hx⟩⟩:=hs
 · omega
 have HX:Hid (∀j,j<len->LC w b (off+j*6) (ls.getD j .z)):=hx
 clear hx hR hown hgrow hl hin
 go_enter Tryz.func39,Tryz.ntmps39
 go_wp2_with(go_at_call 66;refine hcon.mono ?_;rintro e w' ⟨rfl,aZ⟩;subst w';dsimp only)
 go_loopw [5,18] (fun vs vi wr=>∃k g c:Nat,vs= .slice (some ⟨g,0,none⟩) k c/\vi= .int .i64 k/\k<=len/\Hid ((ls.take k).all (Ln.gJ len)=true)/\SR w wr w.heap.size g k c (ls.take k)/\Below w.heap.size w wr) (fun _ i _=>len-(intOf i).toNat)
 case atStart=>exact⟨0,_,len,rfl,rfl,Nat.zero_le _,(by show _=_;simp),Eg.out,HB0.out⟩
 case round=>
  obtain⟨k,g,c,rfl,rfl,hk,HA,lJ,hB⟩:=hrel
  clear hcon hmk Eg HB0
  by_cases hlt:k<len
  · have bE:(k:Int)<(len:Int):=by omega
    have hb':b<wr.heap.size:=aj hb hB.size
    have Vx:=HX.out k hlt
    have hc:=Vx.kept hb hB
    have lJ:=ae lJ
    obtain⟨x,jX⟩:∃x,ls.getD k .z=x:=⟨_,rfl⟩
    rw[jX]at hc Vx
    have Vy:=ae jX
    clear jX
    obtain⟨c0,c1,c2,c3,c4,la,ln,lc,c5,hil⟩:=hc
    have HIL:Hid (IL w la ln x.l):=by obtain⟨-,-,-,-,-,la',ln',Z4,c5',aa8⟩:=Vx;have e:=(hB.cell (p:=⟨b,off+k*6+5,none⟩) hb).trans c5';rw[c5]at e;cases e;exact aa8
    have hB1:=aA wr (.cells #[.int .i64 x.k, .int .i64 x.d, .int .i64 x.a, .int .i64 x.b, .int .i64 x.n, .slice la ln lc] 59)
    have hcon:=oq x la ln lc _ (hil.kept hB1)
    have hB2:=hB.trans (hB1.mono hB.size)
    clear hil Vx
    rcases hok:Ln.ok x with _|_
    · rw[LG hok]at hcon;have HF:Hid (R=false):=by{show _=_;rw[HR.out,Ln.ni (by rw[HL.out];exact hlt) (by rw[Vy.out];simp[Ln.gJ,hok])];rfl};go_wp2_with fail;refine hcon.mono ?_;rintro e w2 ⟨rfl,hB3⟩;dsimp only;have hB4:=hB2.trans (hB3.mono hB2.size);clear hcon c0 c1 c2 c3 c4 c5 hB1 hB2 hB3;go_wp2;go_ret2;exact⟨.inl ⟨HF.out,rfl⟩,hB4⟩
    · have hkk:=Ln.dw hok
      have hpl:=ng x hkk.1 hkk.2 la ln lc (len:Int) (by omega) (by omega)
      obtain⟨T,u,esv⟩:=CU hok la ln lc
      have esh:dF x (.slice la ln lc)= .iface T u:=by rw[←EX hok,esv]
      have HSH:=ae esh
      rw[esv]at hcon
      simp only[esh]at hpl
      have hnil:=FN T u
      have HO:=ae (Ln.Au (m:=len) hok)
      obtain⟨PL,NK⟩:∃PL,Ln.place len x=PL:=⟨_,rfl⟩
      simp only[NK]at hpl
      rw[NK]at HO
      clear hok esv esh NK hkk
      cases PL with
      |false=>
       have HF:Hid (R=false):=by show _=_;rw[HR.out,Ln.ni (by rw[HL.out];exact hlt) (by rw[Vy.out];exact HO.out)];rfl
       go_wp2_with fail
       refine hcon.mono ?_
       rintro e w2 ⟨rfl,hB3⟩
       dsimp only
       have hB4:=hB2.trans (hB3.mono hB2.size)
       have bK:=hpl w2
       clear hcon c0 c1 c2 c3 c4 c5 hB1 hB2 hB3 hpl
       go_wp2_with(go_at_call 68;refine bK.mono ?_;rintro e w3 ⟨rfl,bI⟩;dsimp only;have bD:=hB4.trans (bI.mono hB4.size);clear hB4 bI)
       go_ret2
       exact⟨.inl ⟨HF.out,rfl⟩,bD⟩
      |true=>
       have HF:Hid ((ls.take (k+1)).all (Ln.gJ len)=true):=by show _=_;rw[Ln.rD HA.out (by rw[HL.out];exact hlt),Vy.out];exact HO.out
       go_wp2_with fail
       refine hcon.mono ?_
       rintro e w2 ⟨rfl,hB3⟩
       dsimp only
       have hB4:=hB2.trans (hB3.mono hB2.size)
       have Bb:=hB1.trans (hB3.mono hB1.size)
       have bK:=hpl w2
       clear hcon c0 c1 c2 c3 c4 c5 hB1 hB2 hB3 hpl
       have HKL:Hid ((ls.take k).length=k):=by show _=_;rw[List.length_take,HL.out];omega
       have HTM:=ae (Ln.Dw (ls:=ls) (i:=k) (by rw[HL.out];exact hlt))
       rw[Vy.out]at HTM
       have hg0:=lJ.out.lt
       go_wp2_with(first
         |(go_at_call 68;refine bK.mono ?_;rintro e w3 ⟨rfl,bI⟩;dsimp only;have bD:=hB4.trans (bI.mono hB4.size);have Um:=Bb.trans (bI.mono Bb.size);have Vu:=ae (aA w3 (.cells #[.iface T u] 97));have IZ:=ae (bD.trans (Vu.out.mono bD.size));have Pv:=ae ((lJ.out.kept Um).kept Vu.out);have hc3:Hid ((w3.alloc (.cells #[.iface T u] 97)).cell? ⟨w3.heap.size,0,none⟩=some (.iface T u)):=(by show _=_;rw[World.cell?_alloc_at _ _ _ _ (by simp)];rfl);have IY:=bD.size;clear hB4 bI Bb Um)
         |(at_builtin;refine Ct _ w rfl _ _ rfl w.heap.size g k c (ls.take k) rfl Pv.out HKL.out w3.heap.size rfl x la ln lc T u HSH.out hc3.out HIL.out (by omega) (by simp;omega) ?_;intro g1 c1 N1 w4 hN1 ho1 nH;have Ec:=ae (ak ho1 (aB IZ.out nH hg0.1));clear ho1 nH))
       rw[HTM.out]at Ec
       have hN:=hN1.out
       clear hN1
       subst hN
       go_roundw
       case rel=>exact⟨k+1,g1,c1,rfl,by simp,hlt,HF,Ec.out.1,Ec.out.2⟩
       case measure=>simp[intOf];omega
  · have hke:k=len:=by{omega};have Uo:Hid (R= !Ln.behind (ls.getD (len-1) .z)):=by{show _=_;have:=HA.out;rw[hke,←HL.out,List.take_length]at this;rw[HR.out,←HL.out,this,Bool.true_and,Ln.x8]};have bE:¬(k:Int)<(len:Int):=by{omega};have Js:Hid (Ln.ok (ls.getD (len-1) .z)=true):=by{show _=_;have h2:=HA.out;rw[hke,←HL.out,List.take_length,List.all_eq_true]at h2;have h3:=h2 (ls.getD (len-1) .z) (by rw[ah,ai (by rw[HL.out];omega)];exact List.getElem_mem _);unfold Ln.gJ at h3;rw[au]at h3;exact h3.1};rw[hke]at lJ;have GL:=lJ.cut (Nat.le_refl _);obtain⟨la,ln,lc,hc,hil⟩:=GL.cell (j:=len-1) (by omega);have HSR:=ae GL;obtain⟨x,jX⟩:∃x,ls.getD (len-1) .z=x:=⟨_,rfl⟩;rw[jX]at hc hil Uo Js;have hkk:=Ln.dw Js.out;have hcon:=jm x hkk.1 hkk.2 la ln lc wr;have hg:=GL.lt;subst hke;have hwZ:(k:Int)-1=((k-1:Nat):Int):=by{omega};generalize dF x (.slice la ln lc)=sv at hc hcon;rcases Vz:Ln.behind x with _|_;{rw[Vz]at hcon Uo;clear Vz hkk hil jX lJ GL HA Js;go_wp2_with(go_at_call 69;refine hcon.mono ?_;rintro e w5 ⟨rfl,bI⟩;dsimp only);go_ret2;exact⟨.inr ⟨Uo.out,g,c,rfl,HSR.out.kept bI⟩,hB.trans (bI.mono hB.size)⟩};rw[Vz]at hcon Uo;clear Vz hkk hil jX lJ GL HA Js;go_wp2_with(go_at_call 69;refine hcon.mono ?_;rintro e w5 ⟨rfl,bI⟩;dsimp only);go_ret2;exact⟨.inl ⟨Uo.out,rfl⟩,hB.trans (bI.mono hB.size)⟩
theorem uP:(Tryz.prog.info? 108).map (fun i=>(i.zero,i.size,i.bytes))=some (some (.agg #[.slice none 0 0, .int .u64 0, .int .u64 0, .int .u64 0]),4,48):=by kernel_rfl
theorem FV {ops:Array Oper}{rest:List Oper}{o:Oper}{a:Act}{Q:Exit->Act->World->Prop}(W:World)(hgd:o.guard=none)(s x:Operand)(ho:o.op= .call {callee:= .builtin .append,args:=#[s,x],argTypes:=#[66,66]})(ls:List Ln)(f:List Nat)(n₀ g k c:Nat)(hs:a.eval s= .slice (some ⟨g,0,none⟩) k c)(hown:FR ls W n₀ g k c f)(sb:Nat)(hx:a.eval x= .slice (some ⟨sb,0,none⟩) 1 1)(gn n cn:Nat)(hcell:∀j u,[Value.slice (some ⟨gn,0,none⟩) n cn, .int .u64 ((Fl.um (ls.getD k .z):Nat):Int), .int .u64 ((Fl.sm (ls.getD k .z):Nat):Int), .int .u64 0][j]?=some u->W.cell? ⟨sb,j,none⟩=some u)(hon:OG W n₀ gn n cn (Fl.nx (ls.getD k .z) k))(hne:gn≠g)(hf:f.getD k 0=0)(hfit:k+1<=c)(h:∀W',FR ls W' n₀ g (k+1) c f->W.grownBy W' (some g)->wpList Tryz.prog ops Q rest (a.put o.dst (.slice (some ⟨g,0,none⟩) (k+1) c)) W'):wpList Tryz.prog ops Q (o::rest) a W:=by obtain⟨i0,hi,hz0,hz1,hz2⟩:=info_parts uP;obtain⟨vs,h1,h2,h3⟩:=hown;refine wpList_append_fits W hgd s x 66 ho n₀ 108 i0 4 Tryz.underlying66 hi hz1 g k c (mR vs) hs h2 ⟨sb,0,none⟩ 1 1 [Value.slice (some ⟨gn,0,none⟩) n cn, .int .u64 ((Fl.um (ls.getD k .z):Nat):Int), .int .u64 ((Fl.sm (ls.getD k .z):Nat):Int), .int .u64 0] hx rfl (fun j u hu=>?_) (by simp[Value.oneCell']) hfit (fun W' hown' hgrow=>?_);{(have hadd:(⟨sb,0,none⟩:Addr).add j=⟨sb,j,none⟩:=by unfold Addr.add;split<;>simp_all);rw[hadd];exact hcell j u hu};refine h W' ⟨vs++[(.slice (some ⟨gn,0,none⟩) n cn,Fl.um (ls.getD k .z),Fl.sm (ls.getD k .z),0)],by simp[h1],by rw[zk];exact hown',fun j hj=>?_⟩ hgrow;by_cases hjk:j<k;{obtain⟨gn',n',cn',e,ho',hne'⟩:=h3 j hjk;exact⟨gn',n',cn',by rw[ah,List.getElem?_append_left (by omega),←ah,e],ho'.bS hgrow hne',hne'⟩};have e:j=k:=by{omega};subst e;exact⟨gn,n,cn,by rw[ah,List.getElem?_append_right (by omega),h1,hf];simp,hon.bS hgrow hne,hne⟩
theorem SR.bS {w W W':World}{n₀ g k c b:Nat}{xs:List Ln}(h:SR w W n₀ g k c xs)(hg:W.grownBy W' (some b))(hne:g≠b):SR w W' n₀ g k c xs:=by obtain⟨eG,h1,h2,h3⟩:=h;refine⟨eG,h1,h2.kept hg (.inr ?_),h3⟩;simp only[Value.ownBlock,ne_eq,af];omega
theorem Lu (W:World)(v0 v1 v2 v3:Value)(t:TypeId):∀j u,[v0,v1,v2,v3][j]?=some u->(W.alloc (.cells #[v0,v1,v2,v3] t)).cell? ⟨W.heap.size,j,none⟩=some u:=by intro j u hu;exact(show gY (W.alloc (.cells #[v0,v1,v2,v3] t)) W.heap.size t [v0,v1,v2,v3]from heap_alloc_last W _).cell hu
theorem yC (a:Option Addr)(len cap:Nat)(ls:List Ln)(w:World)(hs:LL w a len ls):Calls Tryz.prog 41 #[.slice a len cap] w fun e w'=>(Ln.isOk ls=false/\e= .returned (.slice none 0 0)\/Ln.isOk ls=true/\∃g c,e= .returned (.slice (some ⟨g,0,none⟩) len c)/\FR ls w' w.heap.size g ls.length c (Fl.live ls))/\Below w.heap.size w w':=by have hcon:=jB a len cap ls w hs;have HL:=ae hs.1;clear hs;go_enter Tryz.func41,Tryz.ntmps41;go_wp2_with fail;refine hcon.mono ?_;rintro e w2 ⟨⟨hR,rfl⟩|⟨hR,g1,c1,rfl,lJ⟩,hB2⟩;{dsimp only;replace hR:=ae hR;clear hcon;go_wp2;go_ret;exact⟨.inl ⟨hR.out,rfl⟩,hB2⟩};dsimp only;have hlen:=Ln.fD hR;rw[HL.out]at hlen;have gK:=ae hR;obtain⟨i0,hi,hz0,hz1,hz2⟩:=info_parts uP;obtain⟨wm,hmk,hown,hgrow⟩:=run_make_own (P:=Tryz.prog) w2 w.heap.size 66 108 i0 _ 4 Tryz.underlying66 hi hz0 hz1 .i64 .i64 len (by rw[hz2];omega) (by simp only[maxLen];omega) hB2.size;have hBm:=kH hgrow;have AY:(len:Int)<=300:=by{omega};have hl1:(1:Int)<=(len:Int):=by{omega};have HS:=ae (lJ.kept hBm);have hsz:w2.heap.size<wm.heap.size:=by{have:=World.ownsRow.lt hown w2.heap.size rfl;exact this.2};have hB3:=hB2.trans (hBm.mono hB2.size);have HF0:Hid (FR ls wm w.heap.size w2.heap.size 0 len (List.replicate ls.length 0)):=⟨[],rfl,hown,fun j hj=>by omega⟩;have HB3:=ae hB3;have HZ:Hid (∀i,(List.replicate ls.length 0).getD i 0=0):=fun i=>by{rw[ah,List.getElem?_replicate];split<;>rfl};have hsw:=hB2.size;have hg1:=lJ.lt;have HI0:=ae (ak (Fl.In.zero ls) (Fl.Sound.zero ls));generalize List.replicate ls.length 0=F0 at HF0 HZ HI0;clear lJ hB2 hown hgrow hBm hB3 hR hlen;go_wp2;go_loopg [5,20] len (fun gk vf vi wr=>∃k:Nat,gk=len-k/\k<=len/\vf= .slice (some ⟨w2.heap.size,0,none⟩) k len/\vi= .int .i64 (k:Int)/\FR ls wr w.heap.size w2.heap.size k len F0/\SR w wr w.heap.size g1 len c1 ls/\Below w.heap.size w wr);(case atStart=>exact⟨0,rfl,by omega,rfl,rfl,HF0.out,HS.out,HB3.out⟩);case round=>obtain⟨k,mJ,hk,rfl,rfl,hfr,lJ,hBw⟩:=hrel;by_cases hlt:k<len;{have bE:(k:Int)<(len:Int):=by{omega};obtain⟨la,ln,lc,hc,hil⟩:=lJ.cell hlt;have xy:=Ln.jE gK.out (i:=k) (by rw[HL.out];exact hlt);have hcw:=fun W h=>ru (ls.getD k .z) xy la ln lc k (by omega) W h;have xA:=hil.kept hBw;have HX:=ae (ak hfr (ak lJ hBw));have MZ:=hcw wr xA;have hrz:=hfr.lt.2;have hwz:=hBw.size;generalize dF (ls.getD k .z) (.slice la ln lc)=sv at hc MZ;clear hil xA hfr lJ hBw hcw xy;go_wp2_with fail;refine MZ.mono ?_;rintro e w4 ⟨gn,mn,cn,rfl,hon,hB4⟩;dsimp only;have hgn:=hon.lt;have Uq:=hon.mono hwz;have hal:=aA w4 (.cells #[.slice (some ⟨gn,0,none⟩) mn cn, .int .u64 ((Fl.um (ls.getD k .z):Nat):Int), .int .u64 ((Fl.sm (ls.getD k .z):Nat):Int), .int .u64 0] 108);have HY:=ae (ak ((HX.out.1.kept hB4).kept hal) (ak ((HX.out.2.1.kept hB4).kept hal) (ak ((HX.out.2.2.trans (hB4.mono hwz)).trans (hal.mono (Nat.le_trans hwz hB4.size))) (Uq.kept hal))));have MF:=ae (Lu w4 (.slice (some ⟨gn,0,none⟩) mn cn) (.int .u64 ((Fl.um (ls.getD k .z):Nat):Int)) (.int .u64 ((Fl.sm (ls.getD k .z):Nat):Int)) (.int .u64 0) 108);have hne:gn≠w2.heap.size:=by{omega};clear MZ hon Uq hal hB4 HX;go_wp2_with(at_builtin;refine FV _ rfl _ _ rfl ls F0 w.heap.size w2.heap.size k len rfl HY.out.1 w4.heap.size rfl gn mn cn MF.out HY.out.2.2.2 hne (HZ.out k) (by omega) ?_;intro w5 Ur hgr5;have HW:=ae (ak Ur (ak (HY.out.2.1.bS hgr5 (by omega)) (aB HY.out.2.2.1 hgr5 hsw)));clear Ur hgr5);go_roundg (len-(k+1));(case measure=>omega);case rel=>exact⟨k+1,rfl,hlt,rfl,by simp,HW.out.1,HW.out.2.1,HW.out.2.2⟩};have hke:k=len:=by{omega};subst hke;have bE:¬(k:Int)<(k:Int):=by{omega};have HX:=ae hBw;have hcs:=oH ls gK.out F0 HI0.out.1 HI0.out.2 w.heap.size w2.heap.size k wr (by rw[HL.out];exact hfr);rw[HL.out]at hcs;clear hfr lJ hBw;go_wp2_with(go_at_call 72;refine hcs.mono ?_;rintro e w6 ⟨rfl,Us,lg⟩;dsimp only;have HF:=ae (ak Us (aB HX.out lg hsw));clear Us lg);go_ret;exact⟨.inr ⟨gK.out,w2.heap.size,k,rfl,by rw[HL.out];exact HF.out.1⟩,HF.out.2⟩
namespace Sp
theorem BC:∀m,out [] m=[]
 |0=>rfl
 | m+1=>by
   have ih:=BC m
   unfold out
   rw[ax (show¬(0:Int)<=(row [] m ([]:List Ln).length).f from show¬(0:Int)<=-1 by decide)]
   exact ih
end Sp
theorem wW (ls:List Ln):NL 40=Sp.rows ls 0:=by rw[Sp.De,LQ]
theorem OH:Sp.bg (NL 40) 40=[]:=by rw[wW [],show Sp.rows [] 0=Sp.rows [] ([]:List Ln).length from rfl,Sp.Aq [] 40 (Nat.le_refl _),Sp.BC]
theorem FR.grown {ls:List Ln}{w W W':World}{n₀ gf k c g:Nat}{f:List Nat}(h:FR ls w n₀ gf k c f)(hB:Below w.heap.size w W)(hg:W.grownBy W' (some g))(hr:w.heap.size<=g):FR ls W' n₀ gf k c f/\Below w.heap.size w W':=⟨h.kept (aB hB hg hr),aB hB hg hr⟩
theorem qA (a:Option Addr)(len cap:Nat)(ls:List Ln)(w:World)(hs:LL w a len ls):Calls Tryz.prog 20 #[.slice a len cap] w fun e w'=>∃g n c,e= .returned (.slice (some ⟨g,0,none⟩) n c)/\SG w' w.heap.size g n c (Sp.df ls)/\Below w.heap.size w w':=by have hcon:=yC a len cap ls w hs;have J5:=ae hs;have HL:=ae hs.1;clear hs;go_enter Tryz.func20,Tryz.ntmps20;go_wp2_with fail;refine hcon.mono ?_;rintro e w2 ⟨⟨hR,rfl⟩|⟨hR,gf,cf,rfl,hfr⟩,hB2⟩;{dsimp only;have Cf:Hid (Sp.df ls=[]):=by{show _=_;unfold Sp.df;rw[ax (by rw[hR];decide)]};clear hcon hR;go_wp2_with fail;refine(jl _).mono ?_;rintro e w3 ⟨g,rfl,hge,hsa,hB3⟩;dsimp only;have HX:=ae (ak hsa (hB2.trans (hB3.mono hB2.size)));clear hsa hB2 hB3;go_wp2;go_loopg [11] 0 (fun gk vi wr=>gk=0/\vi= .int .i64 0/\wr=w3);(case atStart=>exact⟨rfl,rfl,rfl⟩);case round=>obtain⟨mJ,rfl,rfl⟩:=hrel;have hbg:=rG (NL 40) (by rw[wW []];exact Sp.xe [] 0) g wr HX.out.1;rw[OH]at hbg;go_wp2_with fail;refine hbg.mono ?_;rintro e w4 ⟨g',n,c,rfl,hsg,hB4⟩;dsimp only;have HF:=ae (ak (hsg.mono HX.out.2.size) (HX.out.2.trans (hB4.mono HX.out.2.size)));clear hsg hB4 hbg;go_wp2;go_ret;exact⟨g',n,c,rfl,by rw[Cf.out];exact HF.out.1,HF.out.2⟩};dsimp only;have hlen:=Ln.fD hR;rw[HL.out]at hlen;have gK:=ae hR;have Cf:Hid (Sp.df ls=Sp.bg (Sp.rows ls len) 40):=by{show _=_;rw[←HL.out,Sp.Aq ls 40 (Nat.le_refl _)];unfold Sp.df;rw[ay hR]};have Ut:=hfr.cap;rw[HL.out]at Ut;have AY:(len:Int)<=300:=by{omega};have zu:=ae hfr;have aZ:=hB2.size;have HB2:=ae hB2;clear hcon hR hfr hB2 hlen;go_wp2_with fail;refine(jl _).mono ?_;rintro e w3 ⟨g,rfl,hge,hsa,hB3⟩;dsimp only;have HX:=ae (ak (show SA w3 g (Sp.rows ls 0)by rw[←wW];exact hsa) hB3);clear hsa hB3;go_wp2;go_loopg [11] len (fun gk vi wr=>∃(k:Nat),gk=len-k/\k<=len/\vi= .int .i64 (k:Int)/\SA wr g (Sp.rows ls k)/\Below w2.heap.size w2 wr);(case atStart=>exact⟨0,rfl,by omega,rfl,HX.out.1,HX.out.2⟩);case round=>obtain⟨k,mJ,hk,rfl,hsa,hBr⟩:=hrel;clear HX;have hBw:=HB2.out.trans (hBr.mono aZ);by_cases hlt:k<len;{have bE:(k:Int)<(len:Int):=by{omega};have hll:=J5.out.kept hBw;have hlk:=Dl ls gK.out k (by rw[HL.out];exact hlt) w.heap.size gf cf g wr (zu.out.kept hBr) hsa;rw[HL.out,show decide ((ls.getD k .z).k=7)=((ls.getD k .z).k==7)from rfl]at hlk;obtain⟨-,-,h0|⟨b,off,rfl,hb,hx⟩⟩:=hll;{omega};have hc:=hx k hlt;have HBR:=ae hBr;clear hx;generalize ls.getD k .z=x at hlk hc;obtain⟨c0,-⟩:=hc;generalize x.k=xk at hlk c0;clear hsa hBr hBw;go_wp2_with(go_at_call 43;refine hlk.mono ?_;rintro e w4 ⟨rfl,hs4,hg4⟩;dsimp only;have HF:=ae (ak hs4 (aB HBR.out hg4 hge));clear hs4 hg4);go_roundg (len-(k+1));(case measure=>omega);case rel=>exact⟨k+1,rfl,hlt,by simp,HF.out.1,HF.out.2⟩};have hke:k=len:=by{omega};subst hke;have hbg:=rG (Sp.rows ls k) (Sp.xe ls k) g wr hsa;have HZ:=ae hBw;have bE:¬(k:Int)<(k:Int):=by{omega};clear hsa hBr hBw;go_wp2_with fail;refine hbg.mono ?_;rintro e w4 ⟨g',n,c,rfl,hsg,hB4⟩;dsimp only;have HF:=ae (ak (hsg.mono HZ.out.size) (HZ.out.trans (hB4.mono HZ.out.size)));clear hsg hB4 hbg;go_wp2;go_ret;exact⟨g',n,c,rfl,by rw[Cf.out];exact HF.out.1,HF.out.2⟩
namespace Ln
theorem iT {z n:Int}:∀{xs:List Int},z∈put xs n↔z=n\/z∈xs
 |[]=>by simp[put]
 | x ::r=>by
   unfold put
   split
   · rw[List.mem_cons,iT,List.mem_cons]
     constructor
     · rintro(h|h|h)
       · exact .inr (.inl h)
       · exact .inl h
       · exact .inr (.inr h)
     · rintro(h|h|h)
       · exact .inr (.inl h)
       · exact .inl h
       · exact .inr (.inr h)
   · split
     · have e:x=n:=by assumption
       rw[List.mem_cons,e]
       constructor
       · exact fun h=> .inr h
       · rintro(h|h)
         · exact .inl h
         · exact h
     · exact List.mem_cons
theorem fZ {z:Int}(l:List Int):∀(acc:List Int),z∈l.foldl put acc↔z∈l\/z∈acc:=by
 induction l with
 |nil=>intro acc;simp
 |cons x r ih=>
  intro acc
  rw[List.foldl_cons,ih,iT,List.mem_cons]
  constructor
  · rintro(h|h|h);{exact .inl (.inr h)};{exact .inl (.inl h)};exact .inr h
  · rintro((h|h)|h);{exact .inr (.inl h)};{exact .inl h};exact .inr (.inr h)
end Ln
theorem ny (a:Option Addr)(len cap:Nat)(ls:List Ln)(w:World)(hs:LL w a len ls):Calls Tryz.prog 18 #[.slice a len cap] w fun e w'=>e= .returned (.bool (Ln.isOk ls))/\Below w.heap.size w w':=by have hcon:=jB a len cap ls w hs;clear hs;go_enter Tryz.func18,Tryz.ntmps18;go_wp2_with fail;refine hcon.mono ?_;rintro e w2 ⟨⟨hR,rfl⟩|⟨hR,g,c,rfl,lJ⟩,hB⟩;{dsimp only;replace hR:=ae hR;clear hcon;go_wp2;go_ret;exact⟨by rw[hR.out]<;>rfl,hB⟩};dsimp only;replace hR:=ae hR;clear hcon lJ;go_wp2;go_ret;exact⟨by rw[hR.out]<;>rfl,hB⟩
section
set_option linter.unusedSimpArgs false
theorem lW (x:Int)(w:World):Calls Tryz.prog 37 #[.int .i64 x] w fun e w'=>e= .returned (.bool (decide (100<=x)))/\w'=w:=by go_enter Tryz.func37,Tryz.ntmps37;go_wp2;go_ret;exact⟨rfl,rfl⟩
def Hm.su (s:Sp.S)(x:Int):Bool:= !decide (x=-1)&& !(s.c&&Wd.bW x 0 4)
theorem Ag (s:Sp.S)(x:Int)(w:World):Calls Tryz.prog 32 #[.agg #[.int .i64 s.b, .int .i64 s.f, .int .i64 s.t, .bool s.c], .int .i64 x] w fun e w'=>e= .returned (.bool (Hm.su s x))/\Below w.heap.size w w':=by have hsh:=fun W=>mY x W;obtain⟨sb,sf,st,sc⟩:=s;have HM:Hid (Hm.su ⟨sb,sf,st,sc⟩ x=(!decide (x=-1)&& !(sc&&Wd.bW x 0 4))):=rfl;dsimp only;generalize Wd.bW x 0 4=p at hsh HM;generalize Hm.su ⟨sb,sf,st,sc⟩ x=r at HM ⊢;have HB:=ae (aA w (.cells #[.int .i64 sb, .int .i64 sf, .int .i64 st, .bool sc] 45));by_cases hx:x=-1;{have HR:Hid (r=false):=by{show _=_;rw[HM.out,decide_eq_true hx];rfl};have U2:(x !=-1)=false:=by{simpa using hx};clear HM hx;go_enter Tryz.func32,Tryz.ntmps32;go_wp2;go_ret;exact⟨by rw[HR.out]<;>rfl,HB.out⟩};have HR:Hid (r= !(sc&&p)):=by{show _=_;rw[HM.out,decide_eq_false hx];rfl};have U2:(x !=-1)=true:=by{simpa using hx};clear HM hx;cases sc;{go_enter Tryz.func32,Tryz.ntmps32;go_wp2;go_ret;exact⟨by rw[HR.out]<;>rfl,HB.out⟩};go_enter Tryz.func32,Tryz.ntmps32;go_wp2_with(go_at_call 59;refine(hsh _).mono ?_;rintro e w' ⟨rfl,aZ⟩;subst w';dsimp only);go_ret;exact⟨by rw[HR.out]<;>rfl,HB.out⟩
theorem jS (a:Option Addr)(len cap:Nat)(xs:List Int)(hlen:len<=1048576)(w:World)(hs:IL w a len xs):Calls Tryz.prog 13 #[.slice a len cap] w fun e w'=>e= .returned (.int .i64 ((Hm.size xs:Nat):Int))/\Below w.heap.size w w':=by have HL:=ae hs.1;have AY:(len:Int)<=1048576:=by{omega};obtain⟨R,hR⟩:∃R,Hm.size xs=R:=⟨_,rfl⟩;rw[hR];have HR:=ae hR;clear hR;go_enter Tryz.func13,Tryz.ntmps13;go_wp2;go_loopg [3,8] len (fun gk vn vi wr=>∃(k q:Nat),gk=len-k/\k<=len/\vn= .int .i64 (q:Int)/\vi= .int .i64 (k:Int)/\q<=k/\Hid (q=Hm.size (xs.take k))/\w=wr);(case atStart=>exact⟨0,0,rfl,by omega,rfl,rfl,Nat.le_refl _,(by show _=_;simp[Hm.size]),rfl⟩);case round=>obtain⟨k,q,mJ,hk,rfl,rfl,hqk,HQ,aZ⟩:=hrel;subst aZ;by_cases hlt:k<len;{have bE:(k:Int)<(len:Int):=by{omega};have hkl:k<xs.length:=by{rw[HL.out];exact hlt};obtain⟨-,-,h0|⟨lb,lo,rfl,hlb,hcc⟩⟩:=hs;{omega};have hc:=hcc k hlt;have HS:=ae (size_take hkl);generalize xs.getD k 0=y at hc HS;clear hcc hkl;have hic:=fun W=>lW y W;by_cases hy:100<=y;{have HN:Hid (q+1=Hm.size (xs.take (k+1))):=by{show _=_;rw[HS.out,ay hy,←HQ.out]};rw[decide_eq_true hy]at hic;clear HQ HS;go_wp2_with(go_at_call 37;refine(hic _).mono ?_;rintro e w' ⟨rfl,aZ⟩;subst w';dsimp only);go_roundg (len-(k+1));(case measure=>omega);case rel=>exact⟨k+1,q+1,rfl,hlt,by simp,by simp,by omega,HN,rfl⟩};have HN:Hid (q=Hm.size (xs.take (k+1))):=by{show _=_;rw[HS.out,ax hy,←HQ.out];rfl};rw[decide_eq_false hy]at hic;clear HQ HS;go_wp2_with(go_at_call 37;refine(hic _).mono ?_;rintro e w' ⟨rfl,aZ⟩;subst w';dsimp only);go_roundg (len-(k+1));(case measure=>omega);case rel=>exact⟨k+1,q,rfl,hlt,rfl,by simp,by omega,HN,rfl⟩};have hke:k=len:=by{omega};have HE:Hid (q=R):=by{show _=_;rw[HQ.out,←HR.out,hke,←HL.out,List.take_length]};have bE:¬(k:Int)<(len:Int):=by{omega};clear HQ hke hs;go_wp2;go_ret;exact⟨by rw[←HE.out]<;>rfl,Below.refl _ _⟩
theorem tN (a:Option Addr)(n cap:Nat)(xs:List Int)(w:World)(hs:IL w a n xs):Calls Tryz.prog 31 #[.slice a n cap] w fun e w'=>e= .returned (.bool (decide (n=40)&&(List.range 40).all (fun i=>Hm.hm (xs.getD i 0))))/\w'=w:=by have hnm:=hs.2.1;unfold maxLen at hnm;obtain⟨R,hR⟩:∃R,(decide (n=40)&&(List.range 40).all (fun i=>Hm.hm (xs.getD i 0)))=R:=⟨_,rfl⟩;rw[hR];have HR:=ae hR;clear hR;by_cases DV:n=40;rotate_left;{have HE:Hid (R=false):=by{show _=_;rw[←HR.out,decide_eq_false DV];rfl};have ZT:¬(n:Int)=40:=by{omega};clear HR hs;go_enter Tryz.func31,Tryz.ntmps31;go_wp2;go_ret;exact⟨by rw[HE.out]<;>rfl,rfl⟩};subst DV;have HR2:Hid ((List.range 40).all (fun i=>Hm.hm (xs.getD i 0))=R):=by{show _=_;rw[←HR.out];rfl};clear HR;obtain⟨-,-,h0|⟨b,off,rfl,hlb,hcc⟩⟩:=hs;{omega};have xJ:=ae hcc;clear hcc;go_enter Tryz.func31,Tryz.ntmps31;go_wp2;go_loopg [10] 40 (fun gk vi wr=>∃(i:Nat),gk=40-i/\i<=40/\vi= .int .i64 (i:Int)/\Hid ((List.range i).all (fun i=>Hm.hm (xs.getD i 0))=true)/\wr=w);(case atStart=>exact⟨0,rfl,by omega,rfl,(by show _=_;rfl),rfl⟩);case round=>obtain⟨i,mJ,hi,rfl,gQ,rfl⟩:=hrel;by_cases hlt:i<40;{have bE:(i:Int)<40:=by{omega};have hc:=xJ.out i hlt;have iD:=ae (Hm.iy (fun i=>Hm.hm (xs.getD i 0)) i);have ug:=ae (fun h=>Hm.iQ (f:=fun i=>Hm.hm (xs.getD i 0)) hlt h);have hhm:=fun W=>xP (xs.getD i 0) W;generalize Hm.hm (xs.getD i 0)=r at iD ug hhm;cases r;{have HE:Hid (R=false):=by{show _=_;rw[←HR2.out,ug.out rfl]};clear iD ug gQ;go_wp2_with(go_at_call 58;refine(hhm _).mono ?_;rintro e w' ⟨rfl,rfl⟩;dsimp only);go_ret;exact⟨by rw[HE.out]<;>rfl,rfl⟩};have HA2:Hid ((List.range (i+1)).all (fun i=>Hm.hm (xs.getD i 0))=true):=by{show _=_;rw[iD.out,gQ.out];rfl};clear iD ug gQ;go_wp2_with(go_at_call 58;refine(hhm _).mono ?_;rintro e w' ⟨rfl,rfl⟩;dsimp only);go_roundg (40-(i+1));(case measure=>omega);case rel=>exact⟨i+1,rfl,hlt,by simp,HA2,rfl⟩};have hie:i=40:=by{omega};subst hie;have HE:Hid (R=true):=by{show _=_;rw[←HR2.out,gQ.out]};clear gQ HR2;go_wp2;go_ret;exact⟨by rw[HE.out]<;>rfl,rfl⟩
theorem Hm.NT {s:Sp.S}{x:Int}(h:Hm.hm x=true):Hm.su s x=(decide (0<=x)&& !(decide (x<100)&&s.c)):=by have h1:x=-1\/(0<=x/\x<=4)\/(100<=x/\x<=163):=by{unfold Hm.hm at h;simp only[Bool.or_eq_true,decide_eq_true_eq]at h;exact h};unfold Hm.su Wd.bW;rw[Bool.eq_iff_iff];cases s.c;{simp only[au,Bool.not_eq_true',decide_eq_true_eq,decide_eq_false_iff_not,Bool.false_and,Bool.and_false,Bool.not_false,and_true];omega};simp only[au,Bool.not_eq_true',decide_eq_true_eq,decide_eq_false_iff_not,Bool.true_and,Bool.and_true,Bool.and_eq_false_iff];omega
theorem mX (a:Option Addr)(len cap:Nat)(ls:List Ln)(b:Option Addr)(n bc:Nat)(xs:List Int)(w:World)(hs:LL w a len ls)(hx:IL w b n xs):Calls Tryz.prog 11 #[.slice a len cap, .slice b n bc] w fun e w'=>e= .returned (.bool (Hm.fT ls xs))/\Below w.heap.size w w':=by have hcon:=ny a len cap ls w hs;have HS:=ae hs;have HX:=ae hx;have hxl:=hx.1;have hah:=fun W hW=>tN b n bc xs W hW;have gK:Hid (Hm.fT ls xs=((Ln.isOk ls&&decide (xs.length=40))&&((List.range 40).all (fun i=>Hm.hm (xs.getD i 0))&&Hm.lV (Sp.df ls) xs (Sp.df ls).length))):=rfl;have hsp:=fun W hW=>qA a len cap ls W hW;have gD:Hid (Ln.isOk ls=true->Hm.Bx (Sp.df ls)):=fun h=>by{unfold Sp.df;rw[ay h];exact Hm.kJ ls};generalize Hm.fT ls xs=R at gK ⊢;rw[hxl]at gK;generalize Sp.df ls=l at hsp gK gD;obtain⟨q,hq⟩:∃q,Ln.isOk ls=q:=⟨_,rfl⟩;rw[hq]at hcon gK gD;clear hs hx hxl hq;go_enter Tryz.func11,Tryz.ntmps11;go_wp2_with fail;refine hcon.mono ?_;rintro e w1 ⟨rfl,hB1⟩;dsimp only;cases q;{have HR:Hid (R=false):=by{show _=_;rw[gK.out];rfl};have HB:=ae hB1;clear hcon gK hB1 gD hsp hah;go_wp2;go_ret;exact⟨by rw[HR.out]<;>rfl,HB.out⟩};have aZ:=hB1.size;have Bf:=hah w1 (HX.out.kept hB1);by_cases DV:n=40;rotate_left;{have HR:Hid (R=false):=by{show _=_;rw[gK.out,decide_eq_false DV];rfl};rw[decide_eq_false DV,Bool.false_and]at Bf;have HB:=ae hB1;clear hcon gK hB1 gD hsp hah;go_wp2_with(go_at_call 31;refine Bf.mono ?_;rintro e w' ⟨rfl,aZ⟩;subst w';dsimp only);go_ret;exact⟨by rw[HR.out]<;>rfl,HB.out⟩};subst DV;have hs1:=hsp w1 (HS.out.kept hB1);have M0:=ae (gD.out rfl);have xC:Hid (R=((List.range 40).all (fun i=>Hm.hm (xs.getD i 0))&&Hm.lV l xs l.length)):=by{show _=_;rw[gK.out];rfl};have HB1:=ae hB1;have hx1:=HX.out.kept hB1;rw[decide_eq_true rfl,Bool.true_and]at Bf;have Co:Hid ((List.range 40).all (fun i=>Hm.hm (xs.getD i 0))=true->∀b,b<40->Hm.hm (xs.getD b 0)=true):=fun h b hb=>List.all_eq_true.1 h b (List.mem_range.2 hb);generalize(List.range 40).all (fun i=>Hm.hm (xs.getD i 0))=al at Bf xC Co;clear hcon gK hB1 gD hsp hah HS HX;cases al;{have HR:Hid (R=false):=by{show _=_;rw[xC.out];rfl};clear xC Co;go_wp2_with(go_at_call 31;refine Bf.mono ?_;rintro e w' ⟨rfl,aZ⟩;subst w';dsimp only);go_ret;exact⟨by rw[HR.out]<;>rfl,HB1.out⟩};have HR:Hid (R=Hm.lV l xs l.length):=by{show _=_;rw[xC.out];rfl};have HH:=ae (Co.out rfl);obtain⟨-,-,h0|⟨b,off,rfl,hlb,hcc⟩⟩:=hx1;{omega};have xJ:=ae hcc;clear hcc Co xC;go_wp2_with(go_at_call 31;refine Bf.mono ?_;rintro e w' ⟨rfl,aZ⟩;subst w';dsimp only);refine hs1.mono ?_;rintro e w2 ⟨gs,ns,cs,rfl,hsg,hB2⟩;dsimp only;have hnl:=hsg.1;have Pw:=M0.out.len;have hns:ns<=40:=by{omega};have Px:(ns:Int)<=40:=by{omega};have oM:=ae hnl;have hcs:=hsg.cap;have Ce:=ae hsg;have hw2:=hB2.size;have HB2:=ae (HB1.out.trans (hB2.mono aZ));have Ny:Hid (∀W,Below w2.heap.size w2 W->∀j,j<40->W.cell? ⟨b,off+j,none⟩=some (.int .i64 (xs.getD j 0))):=fun W hW j hj=>(hW.cell (p:=⟨b,off+j,none⟩) (aj hlb hB2.size)).trans ((hB2.cell (p:=⟨b,off+j,none⟩) hlb).trans (xJ.out j hj));have HR2:Hid (R=(List.range ns).all fun i=>Hm.fits l xs i&&(List.range i).all fun k=>Hm.jJ l xs i k):=by{show _=_;rw[HR.out,Hm.xN,hnl]};clear hs1 hsg hB2 hnl xJ HB1 HR Bf;go_wp2;go_loopg [23] ns (fun gk vi wx=>∃(i:Nat),gk=ns-i/\i<=ns/\vi= .int .i64 (i:Int)/\Hid (((List.range i).all fun i=>Hm.fits l xs i&&(List.range i).all fun k=>Hm.jJ l xs i k)=true)/\Below w2.heap.size w2 wx);(case atStart=>exact⟨0,rfl,by omega,rfl,(by show _=_;rfl),Below.refl _ _⟩);case round=>obtain⟨i,hgi,hi,rfl,gQ,hB3⟩:=hrel;obtain⟨w3,rfl⟩:∃x,x=wr:=⟨_,rfl⟩;by_cases hin:i<ns;rotate_left;{have hie:i=ns:=by{omega};have HT:Hid (R=true/\Below w.heap.size w w3):=⟨by rw[HR2.out,←hie,gQ.out],HB2.out.trans (hB3.mono HB2.out.size)⟩;have Mh:¬(i:Int)<(ns:Int):=by{omega};clear hB3 hie gQ;go_wp2;go_ret;exact⟨by rw[HT.out.1]<;>rfl,HT.out.2⟩};have Mh:(i:Int)<(ns:Int):=by{omega};have iD:=ae (Hm.iy (fun i=>Hm.fits l xs i&&(List.range i).all fun k=>Hm.jJ l xs i k) i);have ug:=ae (fun h=>Hm.iQ (f:=fun i=>Hm.fits l xs i&&(List.range i).all fun k=>Hm.jJ l xs i k) hin h);have SC:Hid (∀k,Hm.jJ l xs i k= !(decide (xs.getD (l.getD k .z).b.toNat 0=xs.getD (l.getD i .z).b.toNat 0)&&Sp.bH (l.getD i .z) (l.getD k .z))):=fun k=>rfl;have hsg:=Ce.out.kept hB3;obtain⟨d0,d1,d2,d3⟩:=hsg.cell hin;have ZU:=hsg.lt;have hlo:=M0.out.lo i (by rw[oM.out];exact hin);have Gh:=ae (HB2.out.trans (hB3.mono HB2.out.size));have HB3:=ae hB3;obtain⟨bn,hbn⟩:=Int.eq_ofNat_of_zero_le hlo.1;have DU:bn<40:=by{omega};have Kb:(bn:Int)<40:=by{omega};have hcx:=Ny.out w3 HB3.out bn DU;have zx:Hid (Hm.fits l xs i=Hm.su (l.getD i .z) (xs.getD bn 0)):=by{show _=_;rw[Hm.NT (HH.out bn DU)];unfold Hm.fits;rw[hbn,az]};have hsu:=fun W=>Ag (l.getD i .z) (xs.getD bn 0) W;have G6:=ae (fun k W=>uw (l.getD i .z) (l.getD k .z) W);have sI:Hid (∀k,Hm.jJ l xs i k= !(decide (xs.getD (l.getD k .z).b.toNat 0=xs.getD bn 0)&&Sp.bH (l.getD i .z) (l.getD k .z))):=fun k=>by{rw[SC.out k,hbn,az]};rw[hbn]at d0;have M3:(l.getD i .z).b=(bn:Int):=hbn;generalize l.getD i .z=si at d0 d1 d2 d3 zx sI G6 hsu M3;obtain⟨sb,sf,st,sc⟩:=si;dsimp only at d0 d1 d2 d3 hsu M3 G6;subst M3;generalize xs.getD bn 0=v at hcx zx sI hsu;generalize Hm.su ⟨(bn:Int),sf,st,sc⟩ v=su at zx hsu;have hal:=aA w3 (.cells #[.int .i64 (bn:Int), .int .i64 sf, .int .i64 st, .bool sc] 45);have VA:Hid (bi (w3.alloc (.cells #[.int .i64 (bn:Int), .int .i64 sf, .int .i64 st, .bool sc] 45)) w3.heap.size [.int .i64 (bn:Int), .int .i64 sf, .int .i64 st, .bool sc]/\Below w3.heap.size w3 (w3.alloc (.cells #[.int .i64 (bn:Int), .int .i64 sf, .int .i64 st, .bool sc] 45))):=⟨bi.new w3 _ _,hal⟩;have afW:b<w3.heap.size:=block_lt_of_cell hcx;clear hB3 hsg hlo SC hal;go_wp2_with fail;refine(hsu _).mono ?_;rintro e w5 ⟨rfl,bI⟩;dsimp only;have HY:=ae (ak (VA.out.1.kept bI) (VA.out.2.trans (bI.mono VA.out.2.size)));clear bI hsu VA hcx d0 d1 d2 d3;cases su;{have HF:Hid (R=false/\Below w.heap.size w w5):=⟨by rw[HR2.out,ug.out (by rw[zx.out];rfl)],Gh.out.trans (HY.out.2.mono Gh.out.size)⟩;clear iD ug zx sI gQ G6;go_wp2;go_ret;exact⟨by rw[HF.out.1]<;>rfl,HF.out.2⟩};have Jc:Hid (((List.range (i+1)).all fun i=>Hm.fits l xs i&&(List.range i).all fun k=>Hm.jJ l xs i k)=((List.range i).all fun k=>Hm.jJ l xs i k)):=by{show _=_;rw[iD.out,gQ.out,zx.out,Bool.true_and,Bool.true_and]};have Jd:Hid (∀k,k<i->Hm.jJ l xs i k=false->R=false):=fun k hk h=>by{rw[HR2.out,ug.out (by rw[Hm.iQ hk h,Bool.and_false])]};clear iD ug zx gQ;have afX:i<=cs:=by{omega};have adm:(i:Int)<=(cs:Int):=by{omega};go_wp2;have HBS:Hid (w2.heap.size<=w3.heap.size/\w.heap.size<=w2.heap.size):=⟨HB3.out.size,HB2.out.size⟩;go_loopg [41] i (fun gj vk wx=>∃(k:Nat),gj=i-k/\k<=i/\vk= .int .i64 (k:Int)/\Hid (((List.range k).all fun k=>Hm.jJ l xs i k)=true)/\bi wx w3.heap.size [.int .i64 (bn:Int), .int .i64 sf, .int .i64 st, .bool sc]/\Below w3.heap.size w3 wx);(case atStart=>exact⟨0,rfl,by omega,rfl,(by show _=_;rfl),HY.out.1,HY.out.2⟩);case round=>obtain⟨k,hgj,hk,rfl,sK,hbx,hB4⟩:=hrel;obtain⟨w4,rfl⟩:∃x,x=wr:=⟨_,rfl⟩;clear HY;have AU:=ae (HB3.out.trans (hB4.mono HB3.out.size));by_cases hki:k<i;rotate_left;{have hke:k=i:=by{omega};have HT:Hid (((List.range (i+1)).all fun i=>Hm.fits l xs i&&(List.range i).all fun k=>Hm.jJ l xs i k)=true):=by{show _=_;rw[Jc.out];have:=sK.out;rw[hke]at this;exact this};have Gi:¬(k:Int)<(i:Int):=by{omega};clear hbx hB4 hke sK;go_wp2;go_roundg (ns-(i+1));(case measure=>omega);case rel=>exact⟨i+1,rfl,hin,by simp,HT,AU.out⟩};have Gi:(k:Int)<(i:Int):=by{omega};have hkn:k<ns:=by{omega};have hsg:=Ce.out.kept AU.out;obtain⟨g0,g1,g2,g3⟩:=hsg.cell hkn;have jY:=hsg.lt;have hlo:=M0.out.lo k (by rw[oM.out];exact hkn);obtain⟨kn,hkb⟩:=Int.eq_ofNat_of_zero_le hlo.1;have Gj:kn<40:=by{omega};have Ke:(kn:Int)<40:=by{omega};have oO:=Ny.out w4 AU.out kn Gj;have MV:b<w4.heap.size:=block_lt_of_cell oO;have hme:=G6.out k;have HO:=ae (sI.out k);have zy:=ae (Hm.iy (fun k=>Hm.jJ l xs i k) k);have Kg:=ae (Jd.out k hki);rw[hkb,az]at HO;rw[hkb]at g0;have M4:(l.getD k .z).b=(kn:Int):=hkb;generalize l.getD k .z=sk at g0 g1 g2 g3 hme HO M4;obtain⟨kb,kf,kt,kc⟩:=sk;dsimp only at g0 g1 g2 g3 hme M4;subst M4;generalize Sp.bH ⟨(bn:Int),sf,st,sc⟩ ⟨(kn:Int),kf,kt,kc⟩=M at hme HO;generalize xs.getD kn 0=u at oO HO;obtain⟨h0,-⟩:=hbx.2 0 _ rfl;obtain⟨h1,-⟩:=hbx.2 1 _ rfl;obtain⟨h2,-⟩:=hbx.2 2 _ rfl;obtain⟨h3,-⟩:=hbx.2 3 _ rfl;have hbl:=hbx.1;have aba:=hB4.size;have hal:=aA w4 (.cells #[.int .i64 (kn:Int), .int .i64 kf, .int .i64 kt, .bool kc] 45);have HZ:=ae (ak (hbx.kept hal) (hB4.trans (hal.mono aba)));clear hal hbx hB4 hsg hlo hkb;by_cases huv:u=v;{have hq:(v==u)=true:=by{simpa using huv.symm};have iA:Hid (Hm.jJ l xs i k= !M):=by{show _=_;rw[HO.out,decide_eq_true huv,Bool.true_and]};clear huv HO;go_wp2_with fail;refine(hme _).mono ?_;rintro e w6 ⟨rfl,bD⟩;dsimp only;have HF:=ae (ak (HZ.out.1.kept bD) (HZ.out.2.trans (bD.mono HZ.out.2.size)));clear bD hme HZ g0 g1 g2 g3 h0 h1 h2 h3 oO;cases M;{have HT:Hid (((List.range (k+1)).all fun k=>Hm.jJ l xs i k)=true):=by{show _=_;rw[zy.out,sK.out,iA.out];rfl};clear zy sK iA Kg;go_wp2;go_roundg (i-(k+1));(case measure=>omega);case rel=>exact⟨k+1,rfl,hki,by simp,HT,HF.out.1,HF.out.2⟩};have HE:Hid (R=false/\Below w.heap.size w w6):=⟨Kg.out iA.out,Gh.out.trans (HF.out.2.mono Gh.out.size)⟩;clear zy sK iA Kg;go_wp2;go_ret;exact⟨by rw[HE.out.1]<;>rfl,HE.out.2⟩};have hq:(v==u)=false:=by{simpa using fun h=>huv h.symm};have HT:Hid (((List.range (k+1)).all fun k=>Hm.jJ l xs i k)=true):=by{show _=_;rw[zy.out,sK.out,HO.out,decide_eq_false huv];rfl};clear huv HO zy sK Kg hme;go_wp2;go_roundg (i-(k+1));(case measure=>omega);case rel=>exact⟨k+1,rfl,hki,by simp,HT,HZ.out.1,HZ.out.2⟩
end
section
set_option linter.unusedSimpArgs false
def NS (k:Nat):List Sp.S:=(List.range 5).map fun b=>if b<k then Hp.Cs else⟨0,0,0,false⟩
def NB (k:Nat):List Int:=(List.range 40).map fun b=>if b<k then -1 else 0
theorem zm {α:Type _}(N k:Nat)(x y:α)(hk:k<N):((List.range N).map fun b=>if b<k+1 then x else y)=((List.range N).map fun b=>if b<k then x else y).set k x:=by refine List.ext_getElem? fun j=>?_;by_cases h:k=j;{subst h;rw[List.getElem?_set_self (by simp;exact hk)];simp[hk]};rw[List.getElem?_set_ne h,List.getElem?_map,List.getElem?_map];by_cases hj:j<N;{rw[List.getElem?_range hj];simp only[Option.map_some];by_cases h2:j<k;{rw[ay (by omega),ay h2]};rw[ax (by omega),ax h2]};rw[List.getElem?_eq_none (by simp;omega)];rfl
theorem Ik (k:Nat)(hk:k<5):NS (k+1)=(NS k).set k Hp.Cs:=zm 5 k _ _ hk
theorem Hl (k:Nat)(hk:k<40):NB (k+1)=(NB k).set k (-1):=zm 40 k _ _ hk
theorem Oz:(⟨NS 5,NB 40⟩:Hp.P)=Hp.new:=by rfl
theorem FB:Tryz.prog.built 75 []=some (aW (NS 0)++(NB 0).map iv).toArray:=by kernel_rfl
theorem CE {ops:Array Oper}{rest:List Oper}{o:Oper}{a:Act}{w:World}{Q:Exit->Act->World->Prop}(hgd:o.guard=none)(ho:o.op= .build 75 #[])(zs:List Value)(hz:aW (NS 0)++(NB 0).map iv=zs)(h:wpList Tryz.prog ops Q rest (a.put o.dst (.agg zs.toArray)) w):wpList Tryz.prog ops Q (o::rest) a w:=by refine wpList_plain hgd fun K hK=>?_;have hrun:=run_build (P:=Tryz.prog) w 75 #[] _ FB;rw[hz]at hrun;unfold Oper.wp execOp;simp only[ho,Sem.run_bind];rw[show(Array.map (fun x:Nat×Operand=>(x.fst,a.eval x.snd)) #[])=#[]from by simp,hrun];simp only[Result.andThen_ok];exact hK _ _ h
theorem pV (w:World):Calls Tryz.prog 21 #[] w fun e w'=>∃g,e= .returned (.pointer (some ⟨g,0,none⟩))/\w.heap.size<=g/\HG w' g Hp.new/\Below w.heap.size w w':=by obtain⟨zs,hzs⟩:∃zs,aW (NS 0)++(NB 0).map iv=zs:=⟨_,rfl⟩;have HZ:=ae hzs;go_enter Tryz.func21,Tryz.ntmps21;go_wp2_with(refine sD 75 _ rfl ?_);refine⟨?_⟩;refine CE rfl rfl zs hzs ?_;go_wp2_with(refine yG 75 _ rfl ?_);refine⟨?_⟩;refine oU rfl _ _ rfl zs rfl ?_;intro g1 w1 hg1 hA1 hB1;have HA:=ae (show HG w1 g1 ⟨NS 0,NB 0⟩/\Below w.heap.size w w1 from⟨⟨by simp[NS],by simp[NB],by show gY _ _ _ _;rw[HZ.out];exact hA1⟩,hB1⟩);have hge:w.heap.size<=g1:=Nat.le_of_eq hg1.out.symm;clear hg1 hA1 hB1 hzs HZ;go_wp2;go_loopg [6] 5 (fun gk vi wr=>∃(k:Nat),gk=5-k/\k<=5/\vi= .int .i64 (k:Int)/\HG wr g1 ⟨NS k,NB 0⟩/\Below w.heap.size w wr);(case atStart=>exact⟨0,rfl,by omega,rfl,HA.out.1,HA.out.2⟩);case round=>obtain⟨k,mJ,hk,rfl,hs,hB⟩:=hrel;clear HA;have HH:=ae (ak hs hB);by_cases hlt:k<5;{have bE:(k:Int)<5:=by{omega};have hgl:=hs.lt;have hfz:=hs.frozen;have aZ:=hB.size;obtain⟨d0,d1,d2,d3⟩:=hs.cell hlt;clear hs hB;go_wp2_with fail;go_region_with (go_at_call 45;refine(ed _ _).mono ?_;rintro e w4 ⟨rfl,hB4⟩;unfold JA;have hs4:=HH.out.1.kept (bY hB4);have bI:=HH.out.2.trans ((bY hB4).mono aZ);have Jh:=hs4.lt;have Ji:=hs4.frozen;obtain⟨e0,e1,e2,e3⟩:=hs4.cell hlt;have Ed:=ae (ak hs4 bI);clear hs4 bI hB4);have HF:=ae (ak (Ed.out.1.take hlt Hp.Cs) (aB Ed.out.2 (gV _ g1 (k*4) (k*4+1) (k*4+2) (k*4+3) (.int .i64 (-1)) (.int .i64 (-1)) (.int .i64 (-1)) (.bool false)) hge));dsimp only at HF;rw[←Ik k hlt]at HF;unfold Hp.Cs at HF;dsimp only at HF;go_wp2;go_roundg (5-(k+1));(case measure=>omega);case rel=>exact⟨k+1,rfl,hlt,by simp,HF.out.1,HF.out.2⟩};have hke:k=5:=by{omega};subst hke;clear hs hB;go_wp2;go_loopg [16] 40 (fun gk vi wr=>∃(k:Nat),gk=40-k/\k<=40/\vi= .int .i64 (k:Int)/\HG wr g1 ⟨NS 5,NB k⟩/\Below w.heap.size w wr);(case atStart=>exact⟨0,rfl,by omega,rfl,HH.out.1,HH.out.2⟩);case round=>obtain⟨k,mJ,hk,rfl,hs,hB⟩:=hrel;clear HH;by_cases hlt:k<40;{have bE:(k:Int)<40:=by{omega};have hgl:=hs.lt;have hfz:=hs.frozen;have aZ:=hB.size;have hc:=hs.home hlt;have HF:=ae (ak (hs.tell hlt (-1)) (aB hB (aF wr ⟨g1,20+k,none⟩ (.int .i64 (-1))) hge));dsimp only at HF;rw[←Hl k hlt]at HF;clear hs hB;go_wp2;go_roundg (40-(k+1));(case measure=>omega);case rel=>exact⟨k+1,rfl,hlt,by simp,HF.out.1,HF.out.2⟩};have hke:k=40:=by{omega};subst hke;have HF:=ae (ak hs hB);rw[Oz]at HF;clear hs hB;go_wp2;go_ret;exact⟨g1,rfl,hge,HF.out.1,HF.out.2⟩
theorem Dy (h:List Int)(k:Nat):(List.range (k+1)).map (Hp.kE h)=(List.range k).map (Hp.kE h)++[Hp.kE h k]:=by rw[List.range_succ,List.map_append];rfl
theorem JV (h:List Int):∀b,Hp.tp h b<=b
 |0=>Nat.le_refl _
 | b+1=>by
   have:=JV h b
   unfold Hp.tp
   split<;>omega
theorem Cr (gh:Nat) (p:Hp.P) (w:World) (hs:HG w gh p):Calls Tryz.prog 25 #[.pointer (some ⟨gh,0,none⟩)] w fun e w'=>∃g n c,e= .returned (.slice (some ⟨g,0,none⟩) n c)/\OG w' w.heap.size g n c (Hp.told p.h)/\Below w.heap.size w w':=by
 have HT:Hid (Hp.told p.h=(List.range 40).map (Hp.kE p.h)):=rfl
 have HL:Hid (p.h.length=40):=hs.2.1
 have hlv:(p.h.map iv).length=40:=by rw[List.length_map];exact hs.2.1
 have HV:Hid (∀k,k<40->(p.h.map iv)[k]?=some (.int .i64 (p.h.getD k 0))):=fun k hk=>by rw[List.getElem?_map,ai (by rw[hs.2.1];exact hk),ah,ai (by rw[hs.2.1];exact hk)];rfl
 have hal:=aA w (.cells #[] 2)
 have HC:Hid (∀j v,(p.h.map iv)[j]?=some v->(w.alloc (.cells #[] 2)).cell? ⟨gh,20+j,none⟩=some v):=fun j v hv=>by have hj:j<40:=by{have:=(List.getElem?_eq_some_iff.1 hv).1;omega};rw[HV.out j hj]at hv;cases hv;exact(hs.kept hal).home hj
 have HO:=ae (ak (OG.empty w w.heap.size (Nat.le_refl _)) hal)
 have hgl:=hs.lt
 generalize p.h.map iv=vs at hlv HV HC
 clear hs hal
 go_enter Tryz.func25,Tryz.ntmps25
 go_wp2_with(refine oD 73 _ rfl ?_)
 refine⟨?_⟩
 refine jG rfl _ _ rfl gh 20 rfl vs HC.out 40 2 Tryz.underlying73 (by rw[hlv];exact Az) ?_
 go_wp2
 go_loopg [3,4,12] 40 (fun gk vo vp vi wr=>∃(k g n c:Nat),gk=40-k/\k<=40/\vo= .slice (some ⟨g,0,none⟩) n c/\vp= .int .i64 (100+(Hp.tp p.h k:Int))/\vi= .int .i64 (k:Int)/\OG wr w.heap.size g n c ((List.range k).map (Hp.kE p.h))/\Below w.heap.size w wr)
 case atStart=>exact⟨0,w.heap.size,0,0,rfl,by omega,rfl,rfl,rfl,HO.out.1,HO.out.2⟩
 case round=>
  obtain⟨k,g,n,c,mJ,hk,rfl,rfl,rfl,hog,hB⟩:=hrel
  clear HO HC
  by_cases hlt:k<40
  · have bE:(k:Int)<40:=by omega
    have MO:=ae (HV.out k hlt)
    have iD:=ae (Dy p.h k)
    have HT1:Hid (Hp.kE p.h k=if 100<=p.h.getD k 0 then 100+(Hp.tp p.h k:Int)else p.h.getD k 0):=rfl
    have aX:Hid (Hp.tp p.h (k+1)=if 100<=p.h.getD k 0 then Hp.tp p.h k+1 else Hp.tp p.h k):=rfl
    have htl:=JV p.h k
    have Uu:=hog.lt
    have hcap:=hog.cap
    have hnk:k=n:=by have:=hog.1;rw[List.length_map,List.length_range]at this;omega
    subst hnk
    have aZ:=hB.size
    have hic:=fun W=>lW (p.h.getD k 0) W
    generalize p.h.getD k 0=x at MO HT1 aX hic
    generalize Hp.kE p.h k=y at iD HT1
    generalize Hp.tp p.h k=q at HT1 aX htl ⊢
    have hqZ:(q:Int)<=40:=by omega
    by_cases hx:100<=x
    · have HE:Hid (y=100+(q:Int)):=by show _=_;rw[HT1.out,ay hx]
      have HE2:Hid (Hp.tp p.h (k+1)=q+1):=by show _=_;rw[aX.out,ay hx]
      rw[decide_eq_true hx]at hic
      have hal:=aA wr (.cells #[.int .i64 (100+(q:Int))] 2)
      have HK:=ae (ak (hog.kept hal) (hB.trans (hal.mono aZ)))
      have HCN:Hid (∀j,j<1->(wr.alloc (.cells #[.int .i64 (100+(q:Int))] 2)).cell? ⟨wr.heap.size,0+j,none⟩=some (.int .i64 ([(100+(q:Int))].getD j 0))):=fun j hj=>by obtain rfl:j=0:=by{omega};simp
      clear hal hog hB HT1 aX
      go_wp2_with(first
        |(refine jL 73 _ _ rfl ?_)
        |fail)
      refine⟨?_⟩
      refine lQ rfl _ _ _ rfl vs k rfl rfl 40 2 Tryz.underlying73 hlt (fun _=>Tryz.sizeOf2 _) (fun _=>Tryz.isAgg2 _) _ MO.out ?_
      go_wp2_with(first|(go_at_call 37;refine(hic _).mono ?_;rintro e w' ⟨rfl,aZ⟩;subst w';dsimp only)|(at_builtin;refine bZ _ rfl _ _ rfl w.heap.size _ _ _ _ rfl HK.out.1 wr.heap.size 0 1 1 [(100+(q:Int))] (by simp[Act.eval]) rfl HCN.out (by omega) (by simp;omega) ?_;intro g4 c4 N4 w4 J4 pu gy;have HF:=ae (ak pu (aB HK.out.2 gy Uu.1));clear pu gy))
      go_roundg (40-(k+1))
      case measure=>omega
      case rel=>exact⟨k+1,g4,N4,c4,rfl,hlt,rfl,by rw[HE2.out];simp;omega,by simp,by rw[iD.out,HE.out];exact HF.out.1,HF.out.2⟩
    · have HE:Hid (y=x):=by show _=_;rw[HT1.out,ax hx]
      have HE2:Hid (Hp.tp p.h (k+1)=q):=by show _=_;rw[aX.out,ax hx]
      rw[decide_eq_false hx]at hic
      have hal:=aA wr (.cells #[.int .i64 x] 2)
      have HK:=ae (ak (hog.kept hal) (hB.trans (hal.mono aZ)))
      have HCN:Hid (∀j,j<1->(wr.alloc (.cells #[.int .i64 x] 2)).cell? ⟨wr.heap.size,0+j,none⟩=some (.int .i64 ([x].getD j 0))):=fun j hj=>by obtain rfl:j=0:=by{omega};simp
      clear hal hog hB HT1 aX
      go_wp2_with(first
        |(refine jL 73 _ _ rfl ?_)
        |fail)
      refine⟨?_⟩
      refine lQ rfl _ _ _ rfl vs k rfl rfl 40 2 Tryz.underlying73 hlt (fun _=>Tryz.sizeOf2 _) (fun _=>Tryz.isAgg2 _) _ MO.out ?_
      go_wp2_with(first|(go_at_call 37;refine(hic _).mono ?_;rintro e w' ⟨rfl,aZ⟩;subst w';dsimp only)|(at_builtin;refine bZ _ rfl _ _ rfl w.heap.size _ _ _ _ rfl HK.out.1 wr.heap.size 0 1 1 [x] (by simp[Act.eval]) rfl HCN.out (by omega) (by simp;omega) ?_;intro g4 c4 N4 w4 J4 pu gy;have HF:=ae (ak pu (aB HK.out.2 gy Uu.1));clear pu gy))
      go_roundg (40-(k+1))
      case measure=>omega
      case rel=>exact⟨k+1,g4,N4,c4,rfl,hlt,rfl,by rw[HE2.out],by simp,by rw[iD.out,HE.out];exact HF.out.1,HF.out.2⟩
  · have hke:k=40:=by{omega};subst hke;have HF:=ae (ak hog hB);rw[←HT.out]at HF;clear hog hB;go_wp2;go_ret;exact⟨g,n,c,rfl,HF.out.1,HF.out.2⟩
end
section
set_option linter.unusedSimpArgs false
theorem tu {l:List Sp.S}{k:Nat}(h:k<=l.length):(Hp.left (Hp.wait l l.length) k).length=l.length-k:=by rw[Hp.yK _ _ (by rw[rC (Nat.le_refl _)];exact h),rC (Nat.le_refl _)]
theorem Ae (a:Option Addr)(len cap:Nat)(ls:List Ln)(w:World)(hs:LL w a len ls):Calls Tryz.prog 6 #[.slice a len cap] w fun e w'=>∃g n c,e= .returned (.slice (some ⟨g,0,none⟩) n c)/\OG w' w.heap.size g n c (Hm.homes ls)/\Below w.heap.size w w':=by
 have hcon:=ny a len cap ls w hs
 have HS:=ae hs
 have zq:Hid (Ln.isOk ls=false->Hm.homes ls=[]):=fun h=>by unfold Hm.homes;rw[h];rfl
 have lM:=ae (Hp.Eo (ls:=ls))
 have Cf:Hid (Ln.isOk ls=true->Sp.df ls=Sp.out ls 40):=fun h=>by unfold Sp.df;rw[ay h]
 have Ja:=ae (fun k=>Hp.Hy (ls:=ls) (k:=k))
 have gD:=ae (Hm.kJ ls)
 have hsp:=fun W hW=>qA a len cap ls W hW
 generalize Hm.homes ls=R at zq lM ⊢
 obtain⟨q,hq⟩:∃q,Ln.isOk ls=q:=⟨_,rfl⟩
 rw[hq]at hcon zq lM Cf
 clear hs hq
 go_enter Tryz.func6,Tryz.ntmps6
 go_wp2_with fail
 refine hcon.mono ?_
 rintro e w1 ⟨rfl,hB1⟩
 dsimp only
 cases q
 · have HE:Hid (R=[]):=zq.out rfl;have hal:=aA w1 (.cells #[] 2);have HF:=ae (ak (OG.empty w1 w.heap.size hB1.size) (hB1.trans (hal.mono hB1.size)));clear hcon hB1 hal zq lM Cf hsp Ja;go_wp2;go_ret;exact⟨_,0,0,rfl,by rw[HE.out];exact HF.out.1,HF.out.2⟩
 have hsp1:=hsp w1 (HS.out.kept hB1)
 rw[Cf.out rfl]at hsp1
 have HRE:Hid (R=Hp.told (Hp.aI (Sp.out ls 40) (Sp.out ls 40).length).h):=lM.out rfl
 generalize Sp.out ls 40=l at hsp1 HRE Ja gD
 have HB1:=ae hB1
 clear hcon hB1 zq lM Cf hsp HS
 go_wp2_with fail
 refine hsp1.mono ?_
 rintro e w2 ⟨gs,n,cs,rfl,hsg,hB2⟩
 dsimp only
 have hln:l.length=n:=hsg.1
 have M5:n<=40:=by rw[←hln];exact gD.out.len
 have G7:=ae hln
 have hwt:=rR _ gs n cs l M5 w2 hsg
 have HB2:=ae (HB1.out.trans (hB2.mono HB1.out.size))
 clear hsp1 hB2 hsg hln HB1
 go_wp2_with fail
 refine hwt.mono ?_
 rintro e w3 ⟨gp,g,c,rfl,Eh,hB3⟩
 dsimp only
 have HB3:=ae (HB2.out.trans (hB3.mono HB2.out.size))
 have HW3:=ae (ak Eh hB3.size)
 clear hwt Eh hB3
 go_wp2_with fail
 refine(pV w3).mono ?_
 rintro e w4 ⟨gh,rfl,hgh,M6,hB4⟩
 dsimp only
 have HX:=ae (ak (HW3.out.1.kept hB4) (ak M6 (HB3.out.trans (hB4.mono HB3.out.size))))
 have hgp:gp<w3.heap.size:=HW3.out.1.1.lt
 have hg3:g<w3.heap.size:=HW3.out.1.2.1.lt.2
 have afY:w2.heap.size<=gp:=HW3.out.1.2.2.2
 have afZ:w2.heap.size<=g:=HW3.out.1.2.1.lt.1
 have hw2:w.heap.size<=w2.heap.size:=HB2.out.size
 clear hB4 M6 HW3
 go_wp2
 have abe:Hid (Hp.aI l 0=Hp.new):=rfl
 go_loopg [13] n (fun gk vx wr=>∃(k:Nat),gk=n-k/\k<=n/\WH wr w2.heap.size gp g c (Hp.left (Hp.wait l n) k)/\HG wr gh (Hp.aI l k)/\Below w.heap.size w wr)
 case atStart=>exact⟨0,rfl,by omega,HX.out.1,by rw[abe.out];exact HX.out.2.1,HX.out.2.2⟩
 case round=>
  obtain⟨k,mJ,hk,Eh,M6,hB⟩:=hrel
  clear HX
  have hll:(Hp.left (Hp.wait l n) k).length=n-k:=by have h:=tu (l:=l) (k:=k) (by rw[G7.out];exact hk);rw[G7.out]at h;exact h
  have hcl:=Eh.cell
  rw[hll]at hcl
  by_cases hlt:k<n
  · obtain⟨m,hm⟩:∃m,n-k=m+1:=⟨n-k-1,by omega⟩
    rw[hm]at hcl hll
    have hmZ:(0:Int)<(m:Int)+1:=by omega
    have hkl:k<l.length:=by rw[G7.out];exact hlt
    obtain⟨⟨hb0,hb1⟩,Vh,hbf⟩:=Ja.out k hkl
    have hnx:=Dm w2.heap.size gp g c (Hp.left (Hp.wait l n) k) m hll (by omega) wr Eh
    have M7:=Hp.Ho gD.out hkl
    rw[G7.out]at M7
    rw[M7]at hnx
    have HL2:Hid (Hp.left (Hp.wait l n) (k+1)=Hp.rest (Hp.left (Hp.wait l n) k)):=rfl
    have HA2:Hid (Hp.aI l (k+1)=Hp.qL (Hp.aI l k) (l.getD ((Hm.ord l l.length).getD k 0) .z)):=rfl
    rw[G7.out]at HA2 hb0 hb1 Vh hbf
    have hho:=fun W hW=>Am gh (Hp.aI l k) (l.getD ((Hm.ord l n).getD k 0) .z) hb0 hb1 Vh hbf W hW
    generalize l.getD ((Hm.ord l n).getD k 0) .z=s at hnx hho HA2
    have HWR:=ae (ak M6 hB)
    clear Eh M6 hB hkl hb0 hb1 Vh hbf M7 hll
    go_wp2_with(first
      |(go_at_call 22;refine(mW _ _ _ _).mono ?_;rintro e w' ⟨rfl,aZ⟩;subst w';dsimp only)
      |(go_at_call 24;refine hnx.mono ?_;rintro e w5 ⟨rfl,VB⟩;have HY:=ae (ak VB.wh (ak (HWR.out.1.two VB.two (by omega) (by omega)) (lK.below HWR.out.2 VB.two HWR.out.2.size (by omega) (by omega))));clear VB;dsimp only)
      |(go_at_call 23;refine(hho w5 HY.out.2.1).mono ?_;rintro e w6 ⟨rfl,hh6,xK⟩;have HZ:=ae (ak (ak (HY.out.1.1.bS xK (by simp;omega)) (ak (HY.out.1.2.1.bS xK (by omega)) HY.out.1.2.2)) (ak hh6 (aB HY.out.2.2 xK (by omega))));clear hh6 xK;dsimp only))
    go_roundg (n-(k+1))
    case measure=>omega
    case rel=>exact⟨k+1,rfl,hlt,by rw[HL2.out];exact HZ.out.1,by rw[HA2.out];exact HZ.out.2.1,HZ.out.2.2⟩
  · have hke:k=n:=by omega
    subst hke
    rw[Nat.sub_self]at hcl
    have hto:=Cr gh (Hp.aI l k) wr M6
    have HF:=ae hB
    rw[G7.out]at HRE
    rw[←HRE.out]at hto
    clear Eh M6 hB hll
    go_wp2_with(first
      |(go_at_call 22;refine(mW _ _ _ _).mono ?_;rintro e w' ⟨rfl,aZ⟩;subst w';dsimp only)
      |(go_at_call 25;refine hto.mono ?_;rintro e w5 ⟨g5,n5,c5,rfl,nM,bI⟩;have HZ:=ae (ak (nM.mono HF.out.size) (HF.out.trans (bI.mono HF.out.size)));clear nM bI;dsimp only))
    go_ret
    exact⟨g5,n5,c5,rfl,HZ.out.1,HZ.out.2⟩
end
end Go.Proofs.YthamlonlgnjljaaGreat
