/-
  Own texts for a law of chapter 8: Laid Insp12 Mnt1 Out0 Out1 Out2 Mnt2 Mnt3
-/
import Derived.Test.YthpdpoocigpccaaGreatDoorKU15
import Derived.Test.YthpdpoocigpccaaGreatDoorKU22
import Derived.Stop.LaidErr
import Derived.LaidHandle
import Derived.LaidLaws
import Derived.Deep.DeepLaidRun
import Derived.WalkSmall
import Derived.RowKitTokens
import Derived.Deep.LoopGhost
import Derived.Defers
import Derived.Recover
namespace Go.Proofs.YthpdpoocigpccaaGreatDoor
open Go.RowKit Go.Shelf
set_option linter.unusedVariables false
set_option maxRecDepth 100000
set_option maxHeartbeats 16000000
section
open Go.RowKit Go.Shelf Go.Extern.Stop Go.Stop Go.Extern Go.ChangeShapes Go.WideShapes
theorem gn_md:Tryz.prog.globalNamed "loop.example/g00363/impl.errNoModule" = some 1 ∧ (Tryz.prog.globals[1]?).map (·.type)=some 156:=⟨by kernel_rfl,by kernel_rfl⟩
theorem gn_fn:Tryz.prog.globalNamed "loop.example/g00363/impl.errNoFunc" = some 0 ∧ (Tryz.prog.globals[0]?).map (·.type)=some 156:=⟨by kernel_rfl,by kernel_rfl⟩
theorem gn_bd:Tryz.prog.globalNamed "loop.example/g00363/impl.errNoBody" = some 2 ∧ (Tryz.prog.globals[2]?).map (·.type)=some 156:=⟨by kernel_rfl,by kernel_rfl⟩
theorem gn_lo:Tryz.prog.globalNamed "loop.example/g00363/impl.errNoLocal" = some 4 ∧ (Tryz.prog.globals[4]?).map (·.type)=some 156:=⟨by kernel_rfl,by kernel_rfl⟩
theorem gn_ca:Tryz.prog.globalNamed "loop.example/g00363/impl.errNoCallee" = some 5 ∧ (Tryz.prog.globals[5]?).map (·.type)=some 156:=⟨by kernel_rfl,by kernel_rfl⟩
theorem gn_la:Tryz.prog.globalNamed "loop.example/g00363/impl.errNoLabel" = some 6 ∧ (Tryz.prog.globals[6]?).map (·.type)=some 156:=⟨by kernel_rfl,by kernel_rfl⟩
theorem gn_el:Tryz.prog.globalNamed "loop.example/g00363/impl.errNoElse" = some 7 ∧ (Tryz.prog.globals[7]?).map (·.type)=some 156:=⟨by kernel_rfl,by kernel_rfl⟩
theorem gn_fe:Tryz.prog.globalNamed "loop.example/g00363/impl.errTooFew" = some 8 ∧ (Tryz.prog.globals[8]?).map (·.type)=some 156:=⟨by kernel_rfl,by kernel_rfl⟩
theorem gn_un:Tryz.prog.globalNamed "loop.example/g00363/impl.errUneven" = some 9 ∧ (Tryz.prog.globals[9]?).map (·.type)=some 156:=⟨by kernel_rfl,by kernel_rfl⟩
theorem gn_hi:Tryz.prog.globalNamed "loop.example/g00363/impl.errTooHigh" = some 3 ∧ (Tryz.prog.globals[3]?).map (·.type)=some 156:=⟨by kernel_rfl,by kernel_rfl⟩
theorem star_es : "*" ++ "errors.errorString" = "*errors.errorString" := by decide
theorem row_es (u:TypeId) (h:Tryz.prog.typeName? 3 u=some "*errors.errorString"):u=255 :=
 typeName_ptr_named (nm := "errors.errorString") (by rw [star_es];kernel_rfl) (by kernel_rfl) (by decide) u (by rw [star_es];exact h)
theorem cells_es:Tryz.prog.cellsOf 282=1:=by kernel_rfl
theorem cells_st:Tryz.prog.cellsOf 9=1:=by kernel_rfl
theorem laid_one {W:World} {n:String} {text:List UInt8} {r:List (String × DataW Unit)} {ps:List MemPlace} {g:Nat} (h:DataW.LaidVars Tryz.prog W ((n,.iface "*errors.errorString" (.ptr (.agg [.lit (.string text)]))) :: r) ps)
   (hrows:∀ b off,MemPlace.cell b off ∈ ps → (∃ c t,W.heap[b]? = some (.cells c t (0,0))) ∧ ∀ u v,W.cell? ⟨b,off,none⟩=some (.iface u v) → Value.okWide Tryz.prog W .any 0 u v)
   (hg:Tryz.prog.globalNamed n=some g ∧ (Tryz.prog.globals[g]?).map (·.type)=some 156) :
   ∃ a q,W.var? Tryz.prog n=some #[ers a] ∧ DataW.LaidVars Tryz.prog W r q ∧ ps=MemPlace.cell g 0 :: MemPlace.cell a.block a.off :: q:=by
 obtain ⟨g',t',cs,f,p,q,hg',ht',hv,hd,hr,e⟩:=h
 obtain rfl:=Option.some.inj (hg.1.symm.trans hg')
 obtain rfl:=Option.some.inj (hg.2.symm.trans ht')
 obtain ⟨l⟩:=cs
 have hok:∀ u v,l=[.iface u v] → Value.okWide Tryz.prog W .any 0 u v:=fun u v el => by
   subst el
   exact (hrows g 0 (by rw [e];simp [MemPlace.row])).2 u v (by simpa using World.var?_cell hg' hv 0)
 obtain ⟨a,s,rfl,hc,hs,hz,rfl⟩:=errorString_of_trod Tryz.underlying156 row_es Tryz.underlying255 Tryz.underlying282 rfl rfl Tryz.underlying9 cells_es cells_st hd hok
 exact ⟨a,q,hv,hr,by rw [e];simp [MemPlace.row]⟩
def senL (s:Sen):List (String × Nat × Value):=[("loop.example/g00363/impl.errNoModule", 1,ers s.md),("loop.example/g00363/impl.errNoFunc", 0,ers s.fn),("loop.example/g00363/impl.errNoBody", 2,ers s.bd),("loop.example/g00363/impl.errNoLocal", 4,ers s.lo),("loop.example/g00363/impl.errNoCallee", 5,ers s.ca),("loop.example/g00363/impl.errNoLabel", 6,ers s.la),("loop.example/g00363/impl.errNoElse", 7,ers s.el),("loop.example/g00363/impl.errTooFew", 8,ers s.fe),("loop.example/g00363/impl.errUneven", 9,ers s.un),("loop.example/g00363/impl.errTooHigh", 3,ers s.hi)]
def Apart (s:Sen) (W:World):Prop:=(∃ c t,W.heap[s.fn.block]? = some (.cells c t (0,0))) ∧ ∀ ad ∈ s.rest,ad ≠ s.fn ∧ ∃ c t,W.heap[ad.block]? = some (.cells c t (0,0))
theorem addr_ne {a b:Addr} {ps:List MemPlace} (h:(MemPlace.cell a.block a.off :: ps).Nodup) (hb:MemPlace.cell b.block b.off ∈ ps):b ≠ a:=by
 rintro rfl
 exact (List.nodup_cons.1 h).1 hb
theorem laid_all {W:World} (h:laidMet Tryz.prog [("loop.example/g00363/impl.errNoModule", Rows.laid_loop_example_g00363_impl_errNoModule),("loop.example/g00363/impl.errNoFunc", Rows.laid_loop_example_g00363_impl_errNoFunc),("loop.example/g00363/impl.errNoBody", Rows.laid_loop_example_g00363_impl_errNoBody),("loop.example/g00363/impl.errNoLocal", Rows.laid_loop_example_g00363_impl_errNoLocal),("loop.example/g00363/impl.errNoCallee", Rows.laid_loop_example_g00363_impl_errNoCallee),("loop.example/g00363/impl.errNoLabel", Rows.laid_loop_example_g00363_impl_errNoLabel),("loop.example/g00363/impl.errNoElse", Rows.laid_loop_example_g00363_impl_errNoElse),("loop.example/g00363/impl.errTooFew", Rows.laid_loop_example_g00363_impl_errTooFew),("loop.example/g00363/impl.errUneven", Rows.laid_loop_example_g00363_impl_errUneven),("loop.example/g00363/impl.errTooHigh", Rows.laid_loop_example_g00363_impl_errTooHigh)] W) :
   ∃ s:Sen,SenW s W ∧ (∀ x ∈ senL s,W.var? Tryz.prog x.1=some #[x.2.2]) ∧ Apart s W:=by
 obtain ⟨ps0,h0,hnd,hrows⟩:=h
 obtain ⟨a0,ps1,hv0,h1,e0⟩:=laid_one h0 (fun b off hb => hrows b off (by exact hb)) gn_md
 obtain ⟨a1,ps2,hv1,h2,e1⟩:=laid_one h1 (fun b off hb => hrows b off (by rw [e0];simp [hb])) gn_fn
 obtain ⟨a2,ps3,hv2,h3,e2⟩:=laid_one h2 (fun b off hb => hrows b off (by rw [e0,e1];simp [hb])) gn_bd
 obtain ⟨a3,ps4,hv3,h4,e3⟩:=laid_one h3 (fun b off hb => hrows b off (by rw [e0,e1,e2];simp [hb])) gn_lo
 obtain ⟨a4,ps5,hv4,h5,e4⟩:=laid_one h4 (fun b off hb => hrows b off (by rw [e0,e1,e2,e3];simp [hb])) gn_ca
 obtain ⟨a5,ps6,hv5,h6,e5⟩:=laid_one h5 (fun b off hb => hrows b off (by rw [e0,e1,e2,e3,e4];simp [hb])) gn_la
 obtain ⟨a6,ps7,hv6,h7,e6⟩:=laid_one h6 (fun b off hb => hrows b off (by rw [e0,e1,e2,e3,e4,e5];simp [hb])) gn_el
 obtain ⟨a7,ps8,hv7,h8,e7⟩:=laid_one h7 (fun b off hb => hrows b off (by rw [e0,e1,e2,e3,e4,e5,e6];simp [hb])) gn_fe
 obtain ⟨a8,ps9,hv8,h9,e8⟩:=laid_one h8 (fun b off hb => hrows b off (by rw [e0,e1,e2,e3,e4,e5,e6,e7];simp [hb])) gn_un
 obtain ⟨a9,ps10,hv9,h10,e9⟩:=laid_one h9 (fun b off hb => hrows b off (by rw [e0,e1,e2,e3,e4,e5,e6,e7,e8];simp [hb])) gn_hi
 have hpl:∀ a:Addr,MemPlace.cell a.block a.off ∈ ps0 → ∃ c t,W.heap[a.block]? = some (.cells c t (0,0)):=fun a ha => (hrows a.block a.off ha).1
 have cell:∀ {n:String} {g:Nat} {v:Value},Tryz.prog.globalNamed n=some g → W.var? Tryz.prog n=some #[v] → W.cell? ⟨g,0,none⟩=some v:=fun hg hv => by simpa using World.var?_cell hg hv 0
 have hsz:10 ≤ W.heap.size:=by
   have:=World.block_lt_of_cell? _ _ (cell gn_un.1 hv8)
   exact this
 refine ⟨⟨a1,a0,a2,a9,a3,a4,a5,a6,a7,a8⟩,⟨hsz,cell gn_fn.1 hv1,cell gn_md.1 hv0,cell gn_bd.1 hv2,cell gn_hi.1 hv9,cell gn_lo.1 hv3,cell gn_ca.1 hv4,cell gn_la.1 hv5,cell gn_el.1 hv6,cell gn_fe.1 hv7,cell gn_un.1 hv8⟩,?_,hpl _ (by rw [e0,e1,e2,e3,e4,e5,e6,e7,e8,e9];simp),?_⟩
 · intro x hx
   simp only [senL,List.mem_cons,List.not_mem_nil,or_false] at hx
   rcases hx with rfl | rfl | rfl | rfl | rfl | rfl | rfl | rfl | rfl | rfl
   · exact hv0
   · exact hv1
   · exact hv2
   · exact hv3
   · exact hv4
   · exact hv5
   · exact hv6
   · exact hv7
   · exact hv8
   · exact hv9
 · intro ad had
   simp only [Sen.rest,List.mem_cons,List.not_mem_nil,or_false] at had
   refine ⟨?_,?_⟩
   · rcases had with rfl | rfl | rfl | rfl | rfl | rfl | rfl | rfl | rfl
     · rw [e0,e1] at hnd
       refine Ne.symm (addr_ne (List.nodup_cons.1 hnd).2 ?_)
       simp
     · rw [e0,e1] at hnd
       refine addr_ne (List.nodup_cons.1 (List.nodup_cons.1 (List.nodup_cons.1 hnd).2).2).2 ?_
       rw [e2,e3,e4,e5,e6,e7,e8,e9]
       simp
     · rw [e0,e1] at hnd
       refine addr_ne (List.nodup_cons.1 (List.nodup_cons.1 (List.nodup_cons.1 hnd).2).2).2 ?_
       rw [e2,e3,e4,e5,e6,e7,e8,e9]
       simp
     · rw [e0,e1] at hnd
       refine addr_ne (List.nodup_cons.1 (List.nodup_cons.1 (List.nodup_cons.1 hnd).2).2).2 ?_
       rw [e2,e3,e4,e5,e6,e7,e8,e9]
       simp
     · rw [e0,e1] at hnd
       refine addr_ne (List.nodup_cons.1 (List.nodup_cons.1 (List.nodup_cons.1 hnd).2).2).2 ?_
       rw [e2,e3,e4,e5,e6,e7,e8,e9]
       simp
     · rw [e0,e1] at hnd
       refine addr_ne (List.nodup_cons.1 (List.nodup_cons.1 (List.nodup_cons.1 hnd).2).2).2 ?_
       rw [e2,e3,e4,e5,e6,e7,e8,e9]
       simp
     · rw [e0,e1] at hnd
       refine addr_ne (List.nodup_cons.1 (List.nodup_cons.1 (List.nodup_cons.1 hnd).2).2).2 ?_
       rw [e2,e3,e4,e5,e6,e7,e8,e9]
       simp
     · rw [e0,e1] at hnd
       refine addr_ne (List.nodup_cons.1 (List.nodup_cons.1 (List.nodup_cons.1 hnd).2).2).2 ?_
       rw [e2,e3,e4,e5,e6,e7,e8,e9]
       simp
     · rw [e0,e1] at hnd
       refine addr_ne (List.nodup_cons.1 (List.nodup_cons.1 (List.nodup_cons.1 hnd).2).2).2 ?_
       rw [e2,e3,e4,e5,e6,e7,e8,e9]
       simp
   · refine hpl _ ?_
     rw [e0,e1,e2,e3,e4,e5,e6,e7,e8,e9]
     rcases had with rfl | rfl | rfl | rfl | rfl | rfl | rfl | rfl | rfl <;> simp
theorem vars_all {H:Type} (enc:TypeId × Value → H) {W:World} (sp:Nat → Bool):∀ l:List (String × Nat × Value),(∀ x ∈ l,(Tryz.prog.globalNamed x.1=some x.2.1 ∧ (Tryz.prog.globals[x.2.1]?).map (·.type)=some 156) ∧ W.var? Tryz.prog x.1=some #[x.2.2] ∧ IsIface x.2.2) →
   DataW.TrodVars enc Tryz.prog W sp (l.map (·.1)) (l.map fun x => tok enc x.2.2) (l.map fun x => .cell x.2.1 0)
 | [],_ => rfl
 | x :: l,h => by
   obtain ⟨⟨hg,ht⟩,hv,hi⟩:=h x (by simp)
   exact ⟨x.2.1,156,#[x.2.2],1,[],_,hg,ht,hv,trod_held Tryz.underlying156 hi 0,vars_all enc sp l (fun y hy => h y (List.mem_cons_of_mem _ hy)),rfl⟩
theorem senL_ok {s:Sen} {W:World} (h:∀ x ∈ senL s,W.var? Tryz.prog x.1=some #[x.2.2]):∀ x ∈ senL s,(Tryz.prog.globalNamed x.1=some x.2.1 ∧ (Tryz.prog.globals[x.2.1]?).map (·.type)=some 156) ∧ W.var? Tryz.prog x.1=some #[x.2.2] ∧ IsIface x.2.2:=by
 intro x hx
 refine ⟨?_,h x hx,?_⟩ <;> (simp only [senL,List.mem_cons,List.not_mem_nil,or_false] at hx;rcases hx with rfl | rfl | rfl | rfl | rfl | rfl | rfl | rfl | rfl | rfl)
 · exact gn_md
 · exact gn_fn
 · exact gn_bd
 · exact gn_lo
 · exact gn_ca
 · exact gn_la
 · exact gn_el
 · exact gn_fe
 · exact gn_un
 · exact gn_hi
 all_goals trivial
theorem senL_kept {s:Sen} {W W':World} (h:∀ x ∈ senL s,W.var? Tryz.prog x.1=some #[x.2.2]) (hB:Below W.heap.size W W') (hsz:10 ≤ W.heap.size):∀ x ∈ senL s,W'.var? Tryz.prog x.1=some #[x.2.2]:=by
 intro x hx
 have h1:=senL_ok h x hx
 refine var?_below hB h1.1.1 ?_ (h x hx)
 simp only [senL,List.mem_cons,List.not_mem_nil,or_false] at hx
 rcases hx with rfl | rfl | rfl | rfl | rfl | rfl | rfl | rfl | rfl | rfl <;> (simp only;omega)
def laidTen:List (String × DataW Unit):=[("loop.example/g00363/impl.errNoModule", Rows.laid_loop_example_g00363_impl_errNoModule),("loop.example/g00363/impl.errNoFunc", Rows.laid_loop_example_g00363_impl_errNoFunc),("loop.example/g00363/impl.errNoBody", Rows.laid_loop_example_g00363_impl_errNoBody),("loop.example/g00363/impl.errNoLocal", Rows.laid_loop_example_g00363_impl_errNoLocal),("loop.example/g00363/impl.errNoCallee", Rows.laid_loop_example_g00363_impl_errNoCallee),("loop.example/g00363/impl.errNoLabel", Rows.laid_loop_example_g00363_impl_errNoLabel),("loop.example/g00363/impl.errNoElse", Rows.laid_loop_example_g00363_impl_errNoElse),("loop.example/g00363/impl.errTooFew", Rows.laid_loop_example_g00363_impl_errTooFew),("loop.example/g00363/impl.errUneven", Rows.laid_loop_example_g00363_impl_errUneven),("loop.example/g00363/impl.errTooHigh", Rows.laid_loop_example_g00363_impl_errTooHigh)]
theorem laidTen10_met (os:Os) (args:Array Value):laidMet Tryz.prog laidTen (({ (World.holding Tryz.prog os ⟨#[.cells #[.string ⟨#[105,116,32,105,115,32,110,111,116,32,77,111,100,117,108,101,79,107]⟩] 282,.cells #[.string ⟨#[116,104,101,114,101,32,105,115,32,110,111,32,115,117,99,104,32,70,117,110,99]⟩] 282,.cells #[.string ⟨#[105,116,115,32,98,111,100,121,32,105,115,32,110,111,116,32,78,101,115,116,79,107]⟩] 282,.cells #[.string ⟨#[116,104,101,114,101,32,105,115,32,110,111,32,115,117,99,104,32,108,111,99,97,108]⟩] 282,.cells #[.string ⟨#[116,104,101,114,101,32,105,115,32,110,111,32,115,117,99,104,32,70,117,110,99,32,116,111,32,98,101,32,99,97,108,108,101,100]⟩] 282,.cells #[.string ⟨#[116,104,101,114,101,32,105,115,32,110,111,32,108,97,98,101,108,32,115,111,32,102,97,114,32,111,117,116]⟩] 282,.cells #[.string ⟨#[97,110,32,83,112,73,102,32,119,105,116,104,111,117,116,32,83,112,69,108,115,101,32,105,115,32,119,105,100,101]⟩] 282,.cells #[.string ⟨#[116,104,101,114,101,32,97,114,101,32,116,111,111,32,102,101,119,32,111,110,32,116,104,101,32,112,105,108,101]⟩] 282,.cells #[.string ⟨#[116,104,101,114,101,32,97,114,101,32,110,111,116,32,106,117,115,116,32,97,115,32,109,97,110,121,32,97,115,32,116,104,101,32,119,105,100,116,104]⟩] 282,.cells #[.string ⟨#[116,104,101,114,101,32,97,114,101,32,109,111,114,101,32,116,104,97,110,32,77,97,120,72,101,105,103,104,116]⟩] 282],#[],[]⟩) with heap:=(((((((((((((((((((((World.holding Tryz.prog os ⟨#[.cells #[.string ⟨#[105,116,32,105,115,32,110,111,116,32,77,111,100,117,108,101,79,107]⟩] 282,.cells #[.string ⟨#[116,104,101,114,101,32,105,115,32,110,111,32,115,117,99,104,32,70,117,110,99]⟩] 282,.cells #[.string ⟨#[105,116,115,32,98,111,100,121,32,105,115,32,110,111,116,32,78,101,115,116,79,107]⟩] 282,.cells #[.string ⟨#[116,104,101,114,101,32,105,115,32,110,111,32,115,117,99,104,32,108,111,99,97,108]⟩] 282,.cells #[.string ⟨#[116,104,101,114,101,32,105,115,32,110,111,32,115,117,99,104,32,70,117,110,99,32,116,111,32,98,101,32,99,97,108,108,101,100]⟩] 282,.cells #[.string ⟨#[116,104,101,114,101,32,105,115,32,110,111,32,108,97,98,101,108,32,115,111,32,102,97,114,32,111,117,116]⟩] 282,.cells #[.string ⟨#[97,110,32,83,112,73,102,32,119,105,116,104,111,117,116,32,83,112,69,108,115,101,32,105,115,32,119,105,100,101]⟩] 282,.cells #[.string ⟨#[116,104,101,114,101,32,97,114,101,32,116,111,111,32,102,101,119,32,111,110,32,116,104,101,32,112,105,108,101]⟩] 282,.cells #[.string ⟨#[116,104,101,114,101,32,97,114,101,32,110,111,116,32,106,117,115,116,32,97,115,32,109,97,110,121,32,97,115,32,116,104,101,32,119,105,100,116,104]⟩] 282,.cells #[.string ⟨#[116,104,101,114,101,32,97,114,101,32,109,111,114,101,32,116,104,97,110,32,77,97,120,72,101,105,103,104,116]⟩] 282],#[],[]⟩).heap).modify 1 fun | .cells _ t fz => .cells #[ers ⟨(World.holding Tryz.prog default ⟨#[],#[],[]⟩).heap.size + 0,0,none⟩] t fz | o => o)).modify 0 fun | .cells _ t fz => .cells #[ers ⟨(World.holding Tryz.prog default ⟨#[],#[],[]⟩).heap.size + 1,0,none⟩] t fz | o => o)).modify 2 fun | .cells _ t fz => .cells #[ers ⟨(World.holding Tryz.prog default ⟨#[],#[],[]⟩).heap.size + 2,0,none⟩] t fz | o => o)).modify 4 fun | .cells _ t fz => .cells #[ers ⟨(World.holding Tryz.prog default ⟨#[],#[],[]⟩).heap.size + 3,0,none⟩] t fz | o => o)).modify 5 fun | .cells _ t fz => .cells #[ers ⟨(World.holding Tryz.prog default ⟨#[],#[],[]⟩).heap.size + 4,0,none⟩] t fz | o => o)).modify 6 fun | .cells _ t fz => .cells #[ers ⟨(World.holding Tryz.prog default ⟨#[],#[],[]⟩).heap.size + 5,0,none⟩] t fz | o => o)).modify 7 fun | .cells _ t fz => .cells #[ers ⟨(World.holding Tryz.prog default ⟨#[],#[],[]⟩).heap.size + 6,0,none⟩] t fz | o => o)).modify 8 fun | .cells _ t fz => .cells #[ers ⟨(World.holding Tryz.prog default ⟨#[],#[],[]⟩).heap.size + 7,0,none⟩] t fz | o => o)).modify 9 fun | .cells _ t fz => .cells #[ers ⟨(World.holding Tryz.prog default ⟨#[],#[],[]⟩).heap.size + 8,0,none⟩] t fz | o => o)).modify 3 fun | .cells _ t fz => .cells #[ers ⟨(World.holding Tryz.prog default ⟨#[],#[],[]⟩).heap.size + 9,0,none⟩] t fz | o => o) }:World).forCall (fun _ _ => 0) ⟨#[],args,[]⟩).memory :=
 laidMet_of_run3 8 (by kernel_rfl) (by kernel_rfl) (by kernel_rfl)
end
section
variable {s:Sen} {a:Option Addr} {len cap:Nat} {fs:List Fn} {d:ByteArray} {w:World}
theorem Apart.kept {W W':World} (h:Apart s W) (hB:Below W.heap.size W W'):Apart s W':=by
 have k:∀ {b:Nat},(∃ c t,W.heap[b]? = some (.cells c t (0,0))) → ∃ c t,W'.heap[b]? = some (.cells c t (0,0)):=fun {b} ⟨c,t,e⟩ => ⟨c,t,(hB.block b (Array.getElem?_eq_some_iff.1 e).1).trans e⟩
 exact ⟨k h.1,fun ad had => ⟨(h.2 ad had).1,k (h.2 ad had).2⟩⟩
def VI (s:Sen) (fs:List Fn) (d:ByteArray) (gk:Nat) (u v:Value):Prop :=
 ∃ k:Nat,v = .int .i64 k ∧ k ≤ fs.length + 1 ∧ ((u = .nilIface ∧ gk=fs.length + 1 - k + 1 ∧ k ≤ fs.length ∧ (k=0 ∨ Md.ok fs d=true) ∧ ∀ j:Nat,j < k → Hg.acc fs d j=true) ∨ (gk=0 ∧ ∃ at' ad,u=rfs at' ad ∧ ((ad=s.fn ∧ Hg.valid fs d=true) ∨ (ad ∈ s.rest ∧ Hg.valid fs d=false))))
theorem impl_Valid (hsen:SenW s w) (hap:Apart s w) (hd:d.size ≤ maxLen) (hs:FL w a len fs) :
   Calls Tryz.prog 68 #[.agg #[.slice a len cap,.string d]] w fun e w' => e = .returned (.bool (Hg.valid fs d)) ∧ Below w.heap.size w w':=by
 have hB1:=below_one w (.cells #[.slice a len cap,.string d] 26)
 have hB0:=Below.refl (w.alloc (.cells #[.slice a len cap,.string d] 26)).heap.size (w.alloc (.cells #[.slice a len cap,.string d] 26))
 have hl:=hs.1
 have hm:=hs.2.1
 have hsz:=hsen.sz
 unfold maxLen at hm
 go_enter Tryz.func68,Tryz.ntmps68
 go_wp2
 go_loopg [3,4] (fs.length + 2) (fun gk u v wr => VI s fs d gk u v ∧ Below (w.alloc (.cells #[.slice a len cap,.string d] 26)).heap.size (w.alloc (.cells #[.slice a len cap,.string d] 26)) wr)
 case atStart => exact ⟨⟨0,rfl,by omega,.inl ⟨rfl,by omega,by omega,.inl rfl,fun j h => absurd h (Nat.not_lt_zero _)⟩⟩,hB0⟩
 case round =>
   obtain ⟨⟨k,rfl,hk1,hcase⟩,hBr⟩:=hrel
   obtain ⟨c0,c1,hltb⟩:=box2 hBr
   have hB:=hB1.trans (hBr.mono hB1.size)
   have HB:=Hid.put hBr
   have HL:=Hid.put hl
   rcases hcase with ⟨rfl,hgk,hkl,hk0,hac⟩ | ⟨rfl,at',ad,rfl,hres⟩
   · have hcon := lookedOver_is (cap:=cap) (hsen.kept hB hsen.sz) hd (hs.kept hB) (k:Int)
     have hk4:k ≤ 4:=by
       rcases hk0 with rfl | hok
       · omega
       · rw [Md.ok,Bool.and_eq_true,Bool.and_eq_true] at hok
         have:=Wd.in_iff.1 hok.1.1
         omega
     have HA:=Hid.put (And.intro hk0 (And.intro hac hgk))
     clear hB1 hB0 hBr hl hk0 hac hgk
     unfold LookPost at hcon
     rcases hH:Hg.heights fs d (k:Int) with _ | ⟨out,mo⟩
     · rw [hH] at hcon
       have HH:=Hid.put hH
       clear hH
       go_wp2_with fail
       refine hcon.mono ?_
       rintro e w1 ⟨hB2,at',ad,rfl,had⟩
       clear hcon
       dsimp only
       have HD:=Hid.put had
       obtain ⟨rv,hrv⟩:∃ rv,rfs at' ad=rv:=⟨_,rfl⟩
       rw [hrv]
       have HRV:=Hid.put hrv
       clear had hrv
       go_wp2
       go_roundg 0
       case measure => rw [HA.out.2.2];omega
       case rel =>
         refine ⟨⟨k + 1,by simp,by omega,.inr ⟨rfl,at',ad,HRV.out.symm,?_⟩⟩,HB.out.trans (hB2.mono HB.out.size)⟩
         have had:=HD.out
         obtain ⟨hk0,hac, -⟩:=HA.out
         by_cases hr:Md.ok fs d=true ∧ ¬ (0 ≤ (k:Int) ∧ (k:Int) < fs.length)
         · rw [if_pos hr] at had
           refine .inl ⟨had,?_⟩
           rw [Hg.valid_all (fun j hj => hac j (by have:=hr.2;omega))]
           exact hr.1
         · rw [if_neg hr] at had
           refine .inr ⟨had,?_⟩
           rcases hok:Md.ok fs d with _ | _
           · unfold Hg.valid;rw [hok];rfl
           · have hkk:k < fs.length:=by
               rcases Nat.lt_or_ge k fs.length with h | h
               · exact h
               · exact absurd ⟨hok,by omega⟩ hr
             exact Hg.valid_no hkk (by rw [Hg.acc,HH.out];rfl)
     · rw [hH] at hcon
       have hk:Md.ok fs d=true ∧ 0 ≤ (k:Int) ∧ (k:Int) < fs.length:=by
         by_cases h:Md.ok fs d=true ∧ 0 ≤ (k:Int) ∧ (k:Int) < fs.length
         · exact h
         · unfold Hg.heights at hH;rw [if_neg h] at hH;cases hH
       have HH:=Hid.put (And.intro hH hk)
       have hkf:k < fs.length:=by omega
       clear hH hk
       go_wp2_with fail
       refine hcon.mono ?_
       rintro e w1 ⟨hB2,v,rfl, -⟩
       clear hcon
       dsimp only
       go_wp2
       go_roundg (fs.length + 1 - (k + 1) + 1)
       case measure => rw [HA.out.2.2];omega
       case rel =>
         refine ⟨⟨k + 1,by simp,by omega,.inl ⟨rfl,rfl,by omega,.inr HH.out.2.1,fun j hj => ?_⟩⟩,HB.out.trans (hB2.mono HB.out.size)⟩
         rcases Nat.lt_succ_iff_lt_or_eq.1 hj with h | rfl
         · exact HA.out.2.1 j h
         · rw [Hg.acc,HH.out.1];rfl
   · have hsw:=hsen.kept hB hsen.sz
     have g0:=hsw.fn
     have hcon:Calls Tryz.prog 100 #[rfs at' ad,ers s.fn] wr fun e w' => e = .returned (.bool (Hg.valid fs d)) ∧ Below wr.heap.size wr w':=by
       have ha:=hap.kept hB
       rcases hres with ⟨rfl,hv⟩ | ⟨hin,hv⟩
       · rw [hv];exact is_same at' s.fn wr
       · rw [hv];exact is_other at' ad s.fn wr (ha.2 ad hin).1 (ha.2 ad hin).2 ha.1
     unfold rfs ers at *
     clear hB1 hB0 hBr hl hsw hres
     go_wp2_with fail
     refine hcon.mono ?_
     rintro e w1 ⟨rfl,hB2⟩
     clear hcon
     dsimp only
     have hB3:=hB.trans (hB2.mono hB.size)
     clear hB2
     go_wp2
     go_ret
     exact ⟨rfl,hB3⟩
end
section
variable {s:Sen} {a:Option Addr} {len cap:Nat} {fs:List Fn} {d:ByteArray} {w:World}
theorem means_is (hsen:SenW s w) (hap:Apart s w) (hd:d.size ≤ maxLen) (hs:FL w a len fs) (k fuel:Int) (b:Option Addr) (n c:Nat) (args:List Int) (hargs:IL w b n args) :
   Calls Tryz.prog 50 #[.agg #[.slice a len cap,.string d],.int .i64 k,.slice b n c,.int .i64 fuel] w fun e w' => e = .returned (.bool (Mn.isOk fs d k args fuel)) ∧ Below w.heap.size w w':=by
 have hB1:=below_one w (.cells #[.slice a len cap,.string d] 26)
 have hcon:=impl_Valid (cap:=cap) (hsen.kept hB1 hsen.sz) (hap.kept hB1) hd (hs.kept hB1)
 have hM1:Arr (w.alloc (.cells #[.slice a len cap,.string d] 26)) w.heap.size 26 [.slice a len cap,.string d]:=heap_alloc_last w _
 have hll:=hs.1
 have hm:=hs.2.1
 have hnl:=hargs.1
 have hnm:=hargs.2.1
 unfold maxLen at hm hnm
 rcases hv:Hg.valid fs d with _ | _
 · have hno:Mn.isOk fs d k args fuel=false:=by unfold Mn.isOk;rw [hv];rfl
   rw [hno]
   rw [hv] at hcon
   have HB:=Hid.put hB1
   clear hno hM1 hB1 hll hnl
   go_enter Tryz.func50,Tryz.ntmps50
   go_wp2_with fail
   refine hcon.mono ?_
   rintro e w2 ⟨rfl,hB2⟩
   dsimp only
   have HB2:=Hid.put hB2
   clear hcon hB2
   go_wp2
   go_ret
   exact ⟨rfl,HB.out.trans (HB2.out.mono HB.out.size)⟩
 · rw [hv] at hcon
   have hV:=Mn.val_of hv
   have hlen4:=hV.len
   rcases hk:Wd.inB k 0 ((len:Int) - 1) with _ | _
   · have hno:Mn.isOk fs d k args fuel=false:=by
       unfold Mn.isOk
       have:¬ (0 ≤ k ∧ k < fs.length):=fun h => by
         have h2:Wd.inB k 0 ((len:Int) - 1)=true:=Wd.in_iff.2 ⟨h.1,by omega⟩
         rw [hk] at h2
         cases h2
       simp [this]
     rw [hno]
     have HB:=Hid.put (And.intro hB1 hM1)
     clear hno hM1 hB1 hll hnl hV
     go_enter Tryz.func50,Tryz.ntmps50
     go_wp2_with fail
     refine hcon.mono ?_
     rintro e w2 ⟨rfl,hB2⟩
     dsimp only
     have m0:=(HB.out.2.kept hB2).cell (j:=0) rfl
     have HB2:=Hid.put hB2
     clear hcon hB2
     go_wp2_with (go_at_call 69;refine (impl_inRange _ _ _ _).mono ?_;rintro e w' ⟨rfl,hww⟩;subst w';rw [hk])
     go_ret
     exact ⟨rfl,HB.out.1.trans (HB2.out.mono HB.out.1.size)⟩
   · obtain ⟨hk0,hk1⟩:=Wd.in_iff.1 hk
     obtain ⟨kn,rfl⟩:=Int.eq_ofNat_of_zero_le hk0
     rcases hf:Wd.inB fuel 0 3000 with _ | _
     · have hno:Mn.isOk fs d (kn:Int) args fuel=false:=by
         unfold Mn.isOk
         have:¬ (0 ≤ fuel ∧ fuel ≤ 3000):=fun h => by
           have h2:=Wd.in_iff.2 h
           rw [hf] at h2
           cases h2
         simp [this]
       rw [hno]
       have HB:=Hid.put (And.intro hB1 hM1)
       clear hno hM1 hB1 hll hnl hV hk0 hk1
       go_enter Tryz.func50,Tryz.ntmps50
       go_wp2_with fail
       refine hcon.mono ?_
       rintro e w2 ⟨rfl,hB2⟩
       dsimp only
       have m0:=(HB.out.2.kept hB2).cell (j:=0) rfl
       have HB2:=Hid.put hB2
       clear hcon hB2
       go_wp2_with (go_at_call 69;refine (impl_inRange _ _ _ _).mono ?_;rintro e w' ⟨rfl,hww⟩;subst w';(first | rw [hk] | rw [hf]))
       go_ret
       exact ⟨rfl,HB.out.1.trans (HB2.out.mono HB.out.1.size)⟩
     · have hkl:kn < len:=by omega
       have hkZ:(kn:Int) < (len:Int):=by omega
       have hlen:len ≤ 4:=by omega
       have HB:=Hid.put (And.intro hB1 (And.intro hM1 (And.intro hs hargs)))
       have HLL:=Hid.put hll
       have HFK:=Hid.put (Wd.in_iff.1 hf)
       have HFA:Hid (Mn.isOk fs d (kn:Int) args fuel=(decide ((n:Int)=(Mn.fn fs kn).a) && args.all Wd.ok)):=by
         show _=_
         unfold Mn.isOk
         rw [hv,decide_eq_true (show 0 ≤ (kn:Int) ∧ (kn:Int) < fs.length by omega),decide_eq_true (Wd.in_iff.1 hf),Int.toNat_natCast,hnl]
         simp
       clear hM1 hB1 hll hnl hV hk0 hk1 hs hargs hlen4
       go_enter Tryz.func50,Tryz.ntmps50
       go_wp2_with fail
       refine hcon.mono ?_
       rintro e w2 ⟨rfl,hB2⟩
       dsimp only
       have m0:=(HB.out.2.1.kept hB2).cell (j:=0) rfl
       have hBw:Below w.heap.size w w2:=HB.out.1.trans (hB2.mono HB.out.1.size)
       obtain ⟨-, -,h3 | ⟨fb,fo,rfl,hfb,hfx⟩⟩:=id (HB.out.2.2.1.kept hBw)
       · omega
       have f0:=(hfx kn hkl).1
       obtain ⟨fa,hfa⟩:∃ fa,(fs.getD kn .z).a=fa:=⟨_,rfl⟩
       rw [hfa] at f0
       have HA:Hid ((Mn.fn fs kn).a=fa):=hfa
       have HBW:=Hid.put (And.intro hBw (HB.out.2.2.2.kept hBw))
       clear hcon hB2 hBw hfx hfa hfb
       by_cases hna:(n:Int)=fa
       · have hwk:=wordsOk_is b n c args w2 HBW.out.2
         rcases hall:args.all Wd.ok with _ | _
         all_goals
           rw [hall] at hwk
           go_wp2_with (first | (go_at_call 69;refine (impl_inRange _ _ _ _).mono ?_;rintro e w' ⟨rfl,hww⟩;subst w';(first | rw [hk] | rw [hf])) | (go_at_call 70;refine hwk.mono ?_;rintro e w' ⟨rfl,hww⟩;subst w'))
           go_ret
           rw [HFA.out,HA.out,hall,decide_eq_true hna]
           exact ⟨rfl,HBW.out.1⟩
       · have hnb:((n:Int) == fa)=false:=by simpa using hna
         go_wp2_with (go_at_call 69;refine (impl_inRange _ _ _ _).mono ?_;rintro e w' ⟨rfl,hww⟩;subst w';(first | rw [hk] | rw [hf]))
         go_ret
         rw [HFA.out,HA.out,decide_eq_false hna]
         exact ⟨rfl,HBW.out.1⟩
end
section
variable {c:PC} {W0 W:World}
theorem first_is (T:TabP c W0) (hag:AgP c.P W0 W) (pp kb ab k:Nat) (ba:Option Addr) (n cap:Nat) (args mem:List Int) (hpp:W.cell? ⟨pp,0,none⟩=some (.pointer (some ⟨c.P,0,none⟩))) (hkb:W.cell? ⟨kb,0,none⟩=some (.int .i64 k)) (hab:W.cell? ⟨ab,0,none⟩=some (.slice ba n cap))
   (hargs:IL W ba n args) (hn:n ≤ 100) (hw:Mn.words args) (hk:k < c.fs.length) (hal:(args.length:Int)=(Mn.fn c.fs k).a) (hmm:Mm.ok mem=true) (hP:Arr W c.P 91 (PB mem c.fuel 0 0 c.fv c.nv)) :
   Calls Tryz.prog 53 #[.pointer (some ⟨pp,0,none⟩),.pointer (some ⟨kb,0,none⟩),.pointer (some ⟨ab,0,none⟩)] W (GP c W (Mn.runAt c.fs c.fuel 0 k args mem) 0):=by
 have hl:=hargs.1
 have lp:=block_lt_of_cell hpp
 have lk:=block_lt_of_cell hkb
 have la:=block_lt_of_cell hab
 obtain ⟨AA,hAA⟩:∃ AA:Bool → World → Prop,AA=fun _ x => Below W.heap.size W x:=⟨_,rfl⟩
 have hA0:AA false W.drew:=by rw [hAA];exact (Below.refl _ _).drew
 have hAe:∀ {t:Bool} {x:World},AA t x → Below W.heap.size W x:=fun h => by rw [hAA] at h;exact h
 have hAk:∀ {t t':Bool} {x x':World},AA t x → Below x.heap.size x x' → AA t' x':=fun h hB => by rw [hAA] at h ⊢;exact h.trans (hB.mono h.size)
 have hwo:∀ x:World,Below W.heap.size W x → Calls Tryz.prog 55 #[.slice ba n cap] x fun e w' => ∃ va,e = .returned va ∧ w'.ownsRow x.heap.size 93 1 va n (args.map wv) ∧ Below x.heap.size x w':=fun x hx => wordsOf_is ba n cap args x (hargs.kept hx) hn hw
 have HALL:=Hid.put (And.intro hargs (And.intro hw (And.intro hal hP)))
 have HL:=Hid.put hl
 clear hAA hargs hw hal hP hl
 go_enter Tryz.func53,Tryz.ntmps53
 go_wp2_with fail
 refine wp_region_phi4 4 [4,5,6,7] 3 AA (fun j y x => (j=3 → OwnW args n y x) ∧ (j ≠ 3 → y=[.pointer (some ⟨c.P,0,none⟩),.int .i64 (k:Int),.slice ba n cap,undef].getD j undef)) (by kernel_rfl) (by kernel_rfl) (by simp) hA0 ?_ ?_
 · simp only [List.take_succ_cons,List.take_zero]
   refine ⟨?_,?_,?_,?_,trivial⟩
   all_goals (intro t b x hA ht hm hfr hdf hdep;replace hdf:=Hid.put hdf)
   have e0:b.tmps[0]?.getD undef = .pointer (some ⟨pp,0,none⟩):=by simpa [Act.eval] using hfr 0 (by decide)
   have y:=((hAe hA).cell (p:=⟨pp,0,none⟩) lp).trans hpp
   rotate_left
   have e1:b.tmps[1]?.getD undef = .pointer (some ⟨kb,0,none⟩):=by simpa [Act.eval] using hfr 1 (by decide)
   have y:=((hAe hA).cell (p:=⟨kb,0,none⟩) lk).trans hkb
   rotate_left
   have e2:b.tmps[2]?.getD undef = .pointer (some ⟨ab,0,none⟩):=by simpa [Act.eval] using hfr 2 (by decide)
   have y:=((hAe hA).cell (p:=⟨ab,0,none⟩) la).trans hab
   rotate_left
   · have e6:b.tmps[6]?.getD undef = .slice ba n cap:=by simpa [Act.eval] using (hdep 2 (by kernel_rfl)).2 (by decide)
     unfold Oper.wp
     generalize hK:(fun (b':Act) (x':World) => ∃ y,_ ∧ _)=K
     simp only [execOp]
     go_simp
     refine (hwo x (hAe hA)).mono ?_
     rintro e w' ⟨va,rfl,hva,hB⟩
     rw [← hK]
     exact ⟨_,rfl,a_turn (hAk hA hB),⟨fun _ => ⟨_,hva⟩,fun e => absurd rfl e⟩,fun i z hi h => ⟨fun e => absurd e hi,h.2⟩⟩
   all_goals (unfold Oper.wp;generalize hK:(fun (b':Act) (x':World) => ∃ y,_ ∧ _)=K;simp only [execOp];go_simp;rw [← hK];exact ⟨_,rfl,a_keep hA,⟨fun e => absurd e (by decide),fun _ => rfl⟩,fun i z _ h => h⟩)
 · intro b x hA hF hb
   have e4:b.eval (.tmp 4) = .pointer (some ⟨c.P,0,none⟩):=(hF 0 (by decide)).2 (by decide)
   have e5:b.eval (.tmp 5) = .int .i64 (k:Int):=(hF 1 (by decide)).2 (by decide)
   have e6:b.eval (.tmp 6) = .slice ba n cap:=(hF 2 (by decide)).2 (by decide)
   obtain ⟨ym,e7⟩:∃ z,b.eval (.tmp 7)=z:=⟨_,rfl⟩
   have hFM:OwnW args n ym x:=by
     rw [← e7]
     exact (hF 3 (by decide)).1 rfl
   simp only [List.foldl,e4,e5,e6,e7] at hb
   clear hF e4 e5 e6 e7
   subst hb
   simp only [List.drop_succ_cons,List.drop_zero]
   have hA1:AA true x:=by simpa using hA
   clear hA
   obtain ⟨B,hva⟩:=hFM
   have hB:=hAe hA1
   obtain ⟨hargs,hw,hal,hP⟩:=HALL.out
   have hgive:=give_is T c.fuel x k 0 mem args ym B (hag.trans (AgP.below hB)) hk (by omega) hmm hw hal (by rw [HL.out];exact hva) (Nat.le_refl _) (by rw [Int.sub_self];exact hP.kept hB)
   have HB:=Hid.put hB
   clear hA1 hAe hAk hwo hva hB hargs hw hal hP
   go_wp2_with fail
   refine hgive.mono ?_
   intro e w4 hgp
   clear hgive
   rcases hgp with ⟨v,m,l,hR,rfl,hag4,hml,hl,hPB⟩ | ⟨cd,rfl,hKX⟩
   · dsimp only
     have HF:=Hid.put (And.intro hR (And.intro hag4 (And.intro hml (And.intro hl hPB))))
     clear hR hag4 hml hl hPB
     go_wp2
     go_ret
     obtain ⟨hR,hag4,hml,hl,hPB⟩:=HF.out
     exact .inl ⟨v,m,l,hR,rfl,(AgP.below HB.out).trans hag4,hml,hl,hPB⟩
   · exact ⟨rfl,.inr ⟨cd,rfl,⟨(AgP.below HB.out).trans hKX.agr,hKX.box⟩⟩⟩
end
theorem catch_idle (p q:Addr) (w:World) :
   CallsD Tryz.prog 72 #[.pointer (some p),.pointer (some q)] .returning w fun e u' w' => e = .returned (.tuple #[]) ∧ u' = .returning ∧ w'=w:=by
 refine callsD_of_wpS Tryz.func72 rfl fun c₀ cs hu => ?_
 apply wpS_seq
 apply wpS_region
 simp [wpOpsS,go_sem,recoverD,hu,Tryz.ntmps72,Exit.thenS]
 apply wpS_seq
 apply wpS_region
 simp [wpOpsS,go_sem,Exit.thenS]
 refine wpS_cond (t:=false) (by simp [Act.eval,Array.replicate]) ?_
 simp only [Bool.false_eq_true,if_false]
 refine wpS_of_wp (wp_skip ?_)
 cases c₀
 simp_all [bodyPostS,results,Tryz.results72]
def OutB (W:World) (ob:Nat) (cd v:Int) (y:Value):Prop:=Arr W ob 31 [.int .i64 cd,.int .i64 v,y]
theorem catch_ended (rb ob P:Nat) (cd:Int) (older:List PanicEntry) (w:World) (mem:List Int) (tl:List Value) (c0:List Value) (hc0:c0.length=3) (hmm:Mm.ok mem=true) (hr:w.cell? ⟨rb,0,none⟩=some (.pointer (some ⟨P,0,none⟩))) (hP:Arr w P 91 (mem.map bv ++ tl)) (hO:Arr w ob 31 c0) (hPo:P ≠ ob) :
   CallsD Tryz.prog 72 #[.pointer (some ⟨rb,0,none⟩),.pointer (some ⟨ob,0,none⟩)] (.panicking ({ v:=.iface 121 (.int .i64 cd),recovered:=false } :: older)) w fun e u' w' => e = .returned (.tuple #[]) ∧ u' = .panicking ({ v:=.iface 121 (.int .i64 cd),recovered:=true } :: older) ∧ ∃ y,OutB w' ob cd 0 y ∧ OT w' w.heap.size y mem ∧ w.grownBy w' (some ob):=by
 have hml:=Mm.ok_len hmm
 have lr:=block_lt_of_cell hr
 obtain ⟨AA,hAA⟩:∃ AA:Bool → World → Prop,AA=fun _ x => Below w.heap.size w x:=⟨_,rfl⟩
 have hA0:AA false w.drew:=by rw [hAA];exact (Below.refl _ _).drew
 have hAe:∀ {t:Bool} {x:World},AA t x → Below w.heap.size w x:=fun h => by rw [hAA] at h;exact h
 have hAk:∀ {t t':Bool} {x x':World},AA t x → Below x.heap.size x x' → AA t' x':=fun h hB => by rw [hAA] at h ⊢;exact h.trans (hB.mono h.size)
 have hAm:∀ {t:Bool} {x:World},AA t x → (Instr.loadAt 86 (.pointer (some ⟨P,0,none⟩))).run Tryz.prog x = .ok (.agg (mem.map bv).toArray) x:=fun h => run_loadAt_part _ P _ _ _ tl 64 5 (hP.kept (hAe h)) Tryz.underlying86 (by rw [List.length_map,hml];exact size_cells)
 have hli:∀ x:World,Calls Tryz.prog 73 #[.agg (mem.map bv).toArray] x fun e w' => ∃ v,e = .returned v ∧ OT w' x.heap.size v mem ∧ Below x.heap.size x w':=fun x => list_is mem hml (Mm.ok_get hmm) x
 obtain ⟨csv,hcs⟩:∃ csv,(mem.map bv).toArray=csv:=⟨_,rfl⟩
 rw [hcs] at hAm hli
 clear hAA hcs
 refine callsD_of_wpS Tryz.func72 rfl fun c₀ cs hu => ?_
 apply wpS_seq
 apply wpS_region
 simp [wpOpsS,go_sem,recoverD,hu,Tryz.ntmps72,Exit.thenS]
 apply wpS_seq
 apply wpS_region
 simp [wpOpsS,go_sem,Exit.thenS]
 refine wpS_cond (t:=true) (by simp [Act.eval,Array.replicate]) ?_
 simp only [if_true]
 refine wpS_of_wp ?_
 go_simp
 refine wp_region_phi4 7 [6,7,8,9,10,11,12] 6 AA (fun j y x => (j=6 → (fun y x => OT x w.heap.size y mem) y x) ∧ (j ≠ 6 → y=[.iface 121 (.int .i64 cd),.int .i64 cd,.pointer (some ⟨P,0,none⟩),.pointer (some ⟨P,0,none⟩),.pointer (some ⟨P,0,none⟩),.agg csv,undef].getD j undef)) (by kernel_rfl) (by kernel_rfl) (by simp) hA0 ?_ ?_
 · simp only [List.take_succ_cons,List.take_zero]
   refine ⟨?_,?_,?_,?_,?_,?_,?_,trivial⟩
   all_goals (intro t b x hA ht hm hfr hdf hdep;replace hdf:=Hid.put hdf)
   have e2:b.tmps[2]?.getD undef = .iface 121 (.int .i64 cd):=by simpa [Act.eval] using hfr 2 (by decide)
   rotate_left
   have e6:b.tmps[6]?.getD undef = .iface 121 (.int .i64 cd):=by simpa [Act.eval] using (hdep 0 (by kernel_rfl)).2 (by decide)
   rotate_left
   have e0:b.tmps[0]?.getD undef = .pointer (some ⟨rb,0,none⟩):=by simpa [Act.eval] using hfr 0 (by decide)
   have y8:=((hAe hA).cell (p:=⟨rb,0,none⟩) lr).trans hr
   rotate_left
   have e8:b.tmps[8]?.getD undef = .pointer (some ⟨P,0,none⟩):=by simpa [Act.eval] using (hdep 2 (by kernel_rfl)).2 (by decide)
   rotate_left
   have e9:b.tmps[9]?.getD undef = .pointer (some ⟨P,0,none⟩):=by simpa [Act.eval] using (hdep 3 (by kernel_rfl)).2 (by decide)
   rotate_left
   · have e10:b.tmps[10]?.getD undef = .pointer (some ⟨P,0,none⟩):=by simpa [Act.eval] using (hdep 4 (by kernel_rfl)).2 (by decide)
     exact wp_load_run _ _ rfl _ _ (by simpa [Act.eval] using e10) (hAm hA) ⟨_,rfl,a_keep hA,⟨fun e => absurd e (by decide),fun _ => rfl⟩,fun i z _ h => h⟩
   · have e11:b.tmps[11]?.getD undef = .agg csv:=by simpa [Act.eval] using (hdep 5 (by kernel_rfl)).2 (by decide)
     unfold Oper.wp
     generalize hK:(fun (b':Act) (x':World) => ∃ y,_ ∧ _)=K
     simp only [execOp]
     go_simp
     refine (hli x).mono ?_
     rintro e w' ⟨vl,rfl,hvl,hB⟩
     rw [← hK]
     exact ⟨_,rfl,a_turn (hAk hA hB),⟨fun _ => hvl.mono (hAe hA).size,fun e => absurd rfl e⟩,fun i z hi h => ⟨fun e => absurd e hi,h.2⟩⟩
   all_goals (unfold Oper.wp;generalize hK:(fun (b':Act) (x':World) => ∃ y,_ ∧ _)=K;simp only [execOp];go_simp;rw [← hK];exact ⟨_,rfl,a_keep hA,⟨fun e => absurd e (by decide),fun _ => rfl⟩,fun i z _ h => h⟩)
 · intro b x hA hF hb
   have e6:b.eval (.tmp 6) = .iface 121 (.int .i64 cd):=(hF 0 (by decide)).2 (by decide)
   have e7:b.eval (.tmp 7) = .int .i64 cd:=(hF 1 (by decide)).2 (by decide)
   have e8:b.eval (.tmp 8) = .pointer (some ⟨P,0,none⟩):=(hF 2 (by decide)).2 (by decide)
   have e9:b.eval (.tmp 9) = .pointer (some ⟨P,0,none⟩):=(hF 3 (by decide)).2 (by decide)
   have e10:b.eval (.tmp 10) = .pointer (some ⟨P,0,none⟩):=(hF 4 (by decide)).2 (by decide)
   have e11:b.eval (.tmp 11) = .agg csv:=(hF 5 (by decide)).2 (by decide)
   obtain ⟨ym,e12⟩:∃ z,b.eval (.tmp 12)=z:=⟨_,rfl⟩
   have hFM:(fun y x => OT x w.heap.size y mem) ym x:=by
     rw [← e12]
     exact (hF 6 (by decide)).1 rfl
   simp only [List.foldl,e6,e7,e8,e9,e10,e11,e12] at hb
   clear hF e6 e7 e8 e9 e10 e11 e12
   subst hb
   simp only [List.drop_succ_cons,List.drop_zero]
   have hA1:AA true x:=by simpa using hA
   clear hA
   have hB:=hAe hA1
   have HFM:=Hid.put hFM
   obtain ⟨t0,hrow⟩:=id hFM
   obtain ⟨ay,cy,rfl⟩:=ownsRow_slice hrow
   obtain ⟨v0,v1,v2,rfl⟩:∃ v0 v1 v2,c0=[v0,v1,v2]:=by
     match c0,hc0 with
     | [v0,v1,v2],_ => exact ⟨v0,v1,v2,rfl⟩
   have hOx:=hO.kept hB
   have o0:=hOx.cell (j:=0) rfl
   have o1:=hOx.cell (j:=1) rfl
   have o2:=hOx.cell (j:=2) rfl
   have g0:=hOx.frozen 0
   have g1:=hOx.frozen 1
   have g2:=hOx.frozen 2
   have HX:=Hid.put (And.intro hOx hB)
   have hobl:ob < w.heap.size:=hO.lt
   clear hA1 hAe hAk hAm hli hrow hOx hB hO hP hr hFM
   go_wp2
   have hfin:∃ y,OutB (((x.setCell ⟨ob,0,none⟩ (.int .i64 cd)).setCell ⟨ob,1,none⟩ (.int .i64 0)).setCell ⟨ob,2,none⟩ (.slice ay 64 cy)) ob cd 0 y ∧ OT (((x.setCell ⟨ob,0,none⟩ (.int .i64 cd)).setCell ⟨ob,1,none⟩ (.int .i64 0)).setCell ⟨ob,2,none⟩ (.slice ay 64 cy)) w.heap.size y mem ∧ w.grownBy (((x.setCell ⟨ob,0,none⟩ (.int .i64 cd)).setCell ⟨ob,1,none⟩ (.int .i64 0)).setCell ⟨ob,2,none⟩ (.slice ay 64 cy)) (some ob):=by
     obtain ⟨hOx,hB⟩:=HX.out
     obtain ⟨t1,hrow⟩:=HFM.out
     rw [hml] at hrow
     have s1:=grownBy_set' x ⟨ob,0,none⟩ (.int .i64 cd)
     have s2:=grownBy_set' (x.setCell ⟨ob,0,none⟩ (.int .i64 cd)) ⟨ob,1,none⟩ (.int .i64 0)
     have s3:=grownBy_set' ((x.setCell ⟨ob,0,none⟩ (.int .i64 cd)).setCell ⟨ob,1,none⟩ (.int .i64 0)) ⟨ob,2,none⟩ (.slice ay 64 cy)
     have hne:∀ g,(Value.slice ay 64 cy).ownBlock=some g → (some ob:Option Nat) ≠ some g:=fun g e => by have:=(hrow.lt g e).1;simp only [ne_eq,Option.some.injEq];omega
     refine ⟨.slice ay 64 cy,((hOx.set 0 _).set 1 _).set 2 _,⟨t1,?_⟩,?_⟩
     · rw [hml]
       exact row_off' (b:=0) (row_off' (b:=0) (row_off' (b:=0) hrow s1 hne) s2 hne) s3 hne
     · exact ⟨s3.os.trans (s2.os.trans (s1.os.trans hB.os)),s3.tape.trans (s2.tape.trans (s1.tape.trans hB.tape)),s3.output.trans (s2.output.trans (s1.output.trans hB.output)),Nat.le_trans hB.size (Nat.le_trans s1.size (Nat.le_trans s2.size s3.size)),fun i hi hn => (s3.block i (Nat.lt_of_lt_of_le hi (Nat.le_trans hB.size (Nat.le_trans s1.size s2.size))) hn).trans ((s2.block i (Nat.lt_of_lt_of_le hi (Nat.le_trans hB.size s1.size)) hn).trans ((s1.block i (Nat.lt_of_lt_of_le hi hB.size) hn).trans (hB.block i hi)))⟩
   simp [bodyPostS,results,Tryz.results72]
   exact hfin
theorem wpList_load_run {P:Program} {ops:Array Oper} {rest:List Oper} {o:Oper} {b:Act} {x:World} {Q:Exit → Act → World → Prop} (hgd:o.guard=none) (ty:TypeId) (y:Operand) (ho:o.op = .load ty y) (v p:Value) (hp:b.eval y=p) (hrun:(Instr.loadAt ty p).run P x = .ok v x) (h:wpList P ops Q rest (b.put o.dst v) x):wpList P ops Q (o :: rest) b x :=
 wpList_plain hgd fun _ hK => wp_load_run ty y ho v p hp hrun (hK _ _ h)
section
variable {c:PC} {W0 W:World}
theorem outcome_is (T:TabP c W0) (hag:AgP c.P W0 W) (pp kb ab k:Nat) (ba:Option Addr) (n cap:Nat) (args mem:List Int) (hpp:W.cell? ⟨pp,0,none⟩=some (.pointer (some ⟨c.P,0,none⟩))) (hkb:W.cell? ⟨kb,0,none⟩=some (.int .i64 k)) (hab:W.cell? ⟨ab,0,none⟩=some (.slice ba n cap))
   (hargs:IL W ba n args) (hn:n ≤ 100) (hw:Mn.words args) (hk:k < c.fs.length) (hal:(args.length:Int)=(Mn.fn c.fs k).a) (hmm:Mm.ok mem=true) (hP:Arr W c.P 91 (PB mem c.fuel 0 0 c.fv c.nv)) (R:Mn.Rs) (hR0:Mn.runAt c.fs c.fuel 0 k args mem=R) (hfine:R.fine) :
   Calls Tryz.prog 52 #[.pointer (some ⟨c.P,0,none⟩),.func (.func 53) #[] #[.pointer (some ⟨pp,0,none⟩),.pointer (some ⟨kb,0,none⟩),.pointer (some ⟨ab,0,none⟩)]] W fun e w' => ∃ y dd,e = .returned (.agg #[.int .i64 R.code,.int .i64 R.value,y]) ∧ OT w' W.heap.size y R.mem ∧ AgP c.P W w' ∧ Arr w' c.P 91 (PB R.mem c.fuel ((c.fuel:Int) - R.left) dd c.fv c.nv):=by
 have hmf:∀ (fn:Go.Fn) (first cap:Array Value) (w:World),(Instr.makeFunc fn first cap).run Tryz.prog w = .ok (.func fn first cap) w:=fun _ _ _ _ => rfl
 have hB1:=below_one W (.cells #[.pointer (some ⟨c.P,0,none⟩)] 120)
 have hr1:Arr (W.alloc (.cells #[.pointer (some ⟨c.P,0,none⟩)] 120)) W.heap.size 120 [.pointer (some ⟨c.P,0,none⟩)]:=heap_alloc_last W _
 obtain ⟨W1,hW1⟩:∃ W1,W.alloc (.cells #[.pointer (some ⟨c.P,0,none⟩)] 120)=W1:=⟨_,rfl⟩
 rw [hW1] at hB1 hr1
 have hB12:=below_one W1 (.cells #[.int .i64 0,.int .i64 0,.slice none 0 0] 31)
 have ho2:Arr (W1.alloc (.cells #[.int .i64 0,.int .i64 0,.slice none 0 0] 31)) W1.heap.size 31 [.int .i64 0,.int .i64 0,.slice none 0 0]:=heap_alloc_last W1 _
 obtain ⟨W2,hW2⟩:∃ W2,W1.alloc (.cells #[.int .i64 0,.int .i64 0,.slice none 0 0] 31)=W2:=⟨_,rfl⟩
 rw [hW2] at hB12 ho2
 have hs1:W.heap.size + 1=W1.heap.size:=by rw [← hW1];simp
 have hB2:Below W.heap.size W W2:=hB1.trans (hB12.mono hB1.size)
 have hr2:=hr1.kept hB12
 have hfirst:=first_is T (hag.trans (AgP.below hB2)) pp kb ab k ba n cap args mem ((hB2.cell (p:=⟨pp,0,none⟩) (block_lt_of_cell hpp)).trans hpp) ((hB2.cell (p:=⟨kb,0,none⟩) (block_lt_of_cell hkb)).trans hkb) ((hB2.cell (p:=⟨ab,0,none⟩) (block_lt_of_cell hab)).trans hab) (hargs.kept hB2) hn hw hk hal hmm (hP.kept hB2)
 rw [hR0] at hfirst
 have hPl:=hP.lt
 have HX:=Hid.put (And.intro hB2 (And.intro hr2 (And.intro ho2 hs1)))
 have HF:=Hid.put hfine
 clear hpp hkb hab hargs hw hal hmm hP hR0 hB1 hr1 hB12 ho2 hr2 hB2 hfine
 go_enter_defers Tryz.func52,Tryz.ntmps52
 go_wp2_with fail
 refine hfirst.mono ?_
 intro e w4 hgp
 clear hfirst
 obtain ⟨hB2,hr2,ho2, -⟩:=HX.out
 rcases hgp with ⟨v,m,l,rfl,rfl,hag4,hml,hl,hPB⟩ | ⟨cd,rfl,hKX⟩
 · dsimp only
   obtain ⟨hv,hmok⟩:=HF.out
   obtain ⟨hv0,hv1⟩:=Wd.ok_iff.1 hv
   have hr4:Arr w4 W.heap.size 120 [.pointer (some ⟨c.P,0,none⟩)]:=(hag4.blk _ hr2.lt (by omega)).trans hr2
   have ho4:Arr w4 W1.heap.size 31 [.int .i64 0,.int .i64 0,.slice none 0 0]:=(hag4.blk _ ho2.lt (by omega)).trans ho2
   have r0:=hr4.cell (j:=0) rfl
   have hld:(Instr.loadAt 86 (.pointer (some ⟨c.P,0,none⟩))).run Tryz.prog w4 = .ok (.agg (m.map bv).toArray) w4:=run_loadAt_part _ c.P _ _ _ _ 64 5 hPB Tryz.underlying86 (by rw [List.length_map,hml];exact size_cells)
   have hli:=list_is m hml (Mm.ok_get hmok) w4
   obtain ⟨csv,hcs⟩:∃ csv,(m.map bv).toArray=csv:=⟨_,rfl⟩
   rw [hcs] at hld hli
   have HR:=Hid.put hld
   have HB:=Hid.put (And.intro hag4 (And.intro hPB (And.intro hr4 ho4)))
   clear hcs hld hr2 ho2 hB2 hr4 ho4 hag4 hPB hv
   go_wp2_with (refine stop_load 86 _ rfl ?_)
   refine ⟨?_⟩
   refine wpList_load_run rfl 86 _ rfl _ _ rfl HR.out ?_
   go_wp2_with fail
   refine hli.mono ?_
   rintro e w5 ⟨vl,rfl,hvl,hB5⟩
   dsimp only
   have ho5:=HB.out.2.2.2.kept hB5
   have o0:=ho5.cell (j:=0) rfl
   have o1:=ho5.cell (j:=1) rfl
   have o2:=ho5.cell (j:=2) rfl
   have g0:=ho5.frozen 0
   have g1:=ho5.frozen 1
   have g2:=ho5.frozen 2
   have HV:=Hid.put (And.intro hvl (And.intro hB5 ho5))
   obtain ⟨t0,hrow⟩:=id hvl
   obtain ⟨ay,cy,rfl⟩:=ownsRow_slice hrow
   clear hli hvl hB5 ho5 hrow
   go_wp2
   refine leaves_cons (f:=72) (args:=#[.pointer (some ⟨W.heap.size,0,none⟩),.pointer (some ⟨W1.heap.size,0,none⟩)]) (by simp) (by simp [go_sem]) ?_
   refine (catch_idle ⟨W.heap.size,0,none⟩ ⟨W1.heap.size,0,none⟩ _).mono ?_
   rintro e u' w'' ⟨rfl,rfl,rfl⟩
   change ∃ v,_ ∧ _
   refine ⟨.agg #[.int .i64 0,.int .i64 v,.slice ay 64 cy],?_,?_⟩
   · rw [results_cell1 rfl]
     go_simp
   · obtain ⟨hvl,hB5,ho5⟩:=HV.out
     obtain ⟨hag4,hPB,hr4,ho4⟩:=HB.out
     obtain ⟨t1,hrow⟩:=hvl
     rw [hml] at hrow
     have e1:=grownBy_set' w5 ⟨W1.heap.size,0,none⟩ (.int .i64 0)
     have e2:=grownBy_set' (w5.setCell ⟨W1.heap.size,0,none⟩ (.int .i64 0)) ⟨W1.heap.size,1,none⟩ (.int .i64 v)
     have e3:=grownBy_set' ((w5.setCell ⟨W1.heap.size,0,none⟩ (.int .i64 0)).setCell ⟨W1.heap.size,1,none⟩ (.int .i64 v)) ⟨W1.heap.size,2,none⟩ (.slice ay 64 cy)
     have hlt:=ho4.lt
     have hne:∀ g,(Value.slice ay 64 cy).ownBlock=some g → (some W1.heap.size:Option Nat) ≠ some g:=fun g e => by have:=(hrow.lt g e).1;simp only [ne_eq,Option.some.injEq];omega
     have hW24:=hag4.size
     have hW02:=HX.out.1.size
     refine ⟨.slice ay 64 cy,((0:Nat):Int),rfl,⟨t1,by rw [show (Mn.Rs.done v m l).mem=m from rfl,hml];exact row_mono (row_off' (b:=0) (row_off' (b:=0) (row_off' (b:=0) hrow e1 hne) e2 hne) e3 hne) (by omega)⟩,?_,?_⟩
     · have hA5:AgP c.P W w5:=(AgP.below HX.out.1).trans (hag4.trans (AgP.below hB5))
       exact ((hA5.grow e1 (fun r hr => by cases hr;exact .inl (by dsimp only;omega))).grow e2 (fun r hr => by cases hr;exact .inl (by dsimp only;omega))).grow e3 (fun r hr => by cases hr;exact .inl (by dsimp only;omega))
     · exact (((hPB.kept hB5).far e1 (by simp only [ne_eq,Option.some.injEq];omega)).far e2 (by simp only [ne_eq,Option.some.injEq];omega)).far e3 (by simp only [ne_eq,Option.some.injEq];omega)
 · dsimp only [Ended]
   obtain ⟨m,l,dd,hRR,hl,hml,hPB⟩:=hKX.box
   have hag4:=hKX.agr
   subst hRR
   have hmok:Mm.ok m=true:=HF.out.1
   have hr4:Arr w4 W.heap.size 120 [.pointer (some ⟨c.P,0,none⟩)]:=(hag4.blk _ hr2.lt (by omega)).trans hr2
   have ho4:Arr w4 W1.heap.size 31 [.int .i64 0,.int .i64 0,.slice none 0 0]:=(hag4.blk _ ho2.lt (by omega)).trans ho2
   have r0:=hr4.cell (j:=0) rfl
   refine leaves_cons (f:=72) (args:=#[.pointer (some ⟨W.heap.size,0,none⟩),.pointer (some ⟨W1.heap.size,0,none⟩)]) (by simp) (by simp [go_sem]) ?_
   refine (catch_ended W.heap.size W1.heap.size c.P cd [] w4 m _ _ rfl hmok r0 hPB ho4 (by omega)).mono ?_
   rintro e u' w'' ⟨rfl,rfl,y,hO,hot,hgr⟩
   have o0:=hO.cell (j:=0) rfl
   have o1:=hO.cell (j:=1) rfl
   have o2:=hO.cell (j:=2) rfl
   change ∃ v,_ ∧ _
   refine ⟨.agg #[.int .i64 cd,.int .i64 0,y],?_,?_⟩
   · rw [results_cell1 rfl]
     go_simp
   · have hW24:=hag4.size
     have hW02:=HX.out.1.size
     refine ⟨_,dd,rfl,hot.mono (by omega),((AgP.below HX.out.1).trans hag4).grow hgr (fun r hr => by cases hr;exact .inl (by omega)),hPB.far hgr (by simp only [ne_eq,Option.some.injEq];omega)⟩
end
theorem Mn.runAt_out (fs:List Fn) (d:ByteArray) (k n:Nat) (args:List Int):Mn.runAt fs n 0 k args (Mm.new d)=Mn.out fs d (k:Int) args n:=by
 unfold Mn.runAt Mn.out
 rw [if_neg (by decide),Int.toNat_natCast]
theorem Mn.out_fine2 {fs:List Fn} {d:ByteArray} {k:Int} {fuel:Int} {args:List Int} {n:Nat} {R:Mn.Rs} (hR:Mn.out fs d k args n=R) (h:Mn.isOk fs d k args fuel=true):R.mem.length=64:=by
 have hf:=Mn.out_fine h n
 rw [hR] at hf
 rcases R with ⟨v,m,l⟩ | ⟨c,m,l⟩
 · exact Mm.ok_len hf.2
 · exact Mm.ok_len hf.1
theorem grow2 {w w1 w2:World} {r:Option Nat} (h:w.grownBy w1 r) (k:w1.grownBy w2 r):w.grownBy w2 r :=
 ⟨k.os.trans h.os,k.tape.trans h.tape,k.output.trans h.output,Nat.le_trans h.size k.size,fun i hi hne => (k.block i (Nat.lt_of_lt_of_le hi h.size) hne).trans (h.block i hi hne)⟩
theorem Mn.Val_of_tab {c:PC} {W0:World} (T:TabP c W0):Mn.Val c.fs:=T.val
section
variable {s:Sen} {a:Option Addr} {len cap:Nat} {fs:List Fn} {d:ByteArray} {w:World}
theorem mab_is (hsen:SenW s w) (hap:Apart s w) (hd:d.size ≤ maxLen) (hs:FL w a len fs) (k fuel:Int) (b:Option Addr) (n c:Nat) (args:List Int) (hargs:IL w b n args) :
   Calls Tryz.prog 33 #[.agg #[.slice a len cap,.string d],.int .i64 k,.slice b n c,.int .i64 fuel] w fun e w' => ∃ y,e = .returned (.tuple #[.agg #[.int .i64 (Mn.code fs d k args fuel),.int .i64 (Mn.value fs d k args fuel),y],.int .i64 (Mn.burnt fs d k args fuel)]) ∧ OT w' w.heap.size y (Mn.memo fs d k args fuel) ∧ Below w.heap.size w w':=by
 have hB1:=below_one w (.cells #[.slice a len cap,.string d] 26)
 have hM1:Arr (w.alloc (.cells #[.slice a len cap,.string d] 26)) w.heap.size 26 [.slice a len cap,.string d]:=heap_alloc_last w _
 obtain ⟨W1,hW1⟩:∃ W1,w.alloc (.cells #[.slice a len cap,.string d] 26)=W1:=⟨_,rfl⟩
 rw [hW1] at hB1 hM1
 have hB2:=below_one W1 (.cells #[.int .i64 k] 2)
 have hK2:Arr (W1.alloc (.cells #[.int .i64 k] 2)) W1.heap.size 2 [.int .i64 k]:=heap_alloc_last W1 _
 obtain ⟨W2,hW2⟩:∃ W2,W1.alloc (.cells #[.int .i64 k] 2)=W2:=⟨_,rfl⟩
 rw [hW2] at hB2 hK2
 have hB3:=below_one W2 (.cells #[.slice b n c] 27)
 have hA3:Arr (W2.alloc (.cells #[.slice b n c] 27)) W2.heap.size 27 [.slice b n c]:=heap_alloc_last W2 _
 obtain ⟨W3,hW3⟩:∃ W3,W2.alloc (.cells #[.slice b n c] 27)=W3:=⟨_,rfl⟩
 rw [hW3] at hB3 hA3
 have hB4:=below_one W3 (.cells #[.int .i64 0,.int .i64 0,.slice none 0 0] 31)
 have hO4:Arr (W3.alloc (.cells #[.int .i64 0,.int .i64 0,.slice none 0 0] 31)) W3.heap.size 31 [.int .i64 0,.int .i64 0,.slice none 0 0]:=heap_alloc_last W3 _
 obtain ⟨W4,hW4⟩:∃ W4,W3.alloc (.cells #[.int .i64 0,.int .i64 0,.slice none 0 0] 31)=W4:=⟨_,rfl⟩
 rw [hW4] at hB4 hO4
 have s1:W1.heap.size=w.heap.size + 1:=by rw [← hW1];simp
 have s2:W2.heap.size=w.heap.size + 1 + 1:=by rw [← hW2];simp [s1]
 have s3:W3.heap.size=w.heap.size + 1 + 1 + 1:=by rw [← hW3];simp [s2]
 have hM4:=((hM1.kept hB2).kept hB3).kept hB4
 have hK4:=(hK2.kept hB3).kept hB4
 have hA4:=hA3.kept hB4
 have hBw:Below w.heap.size w W4:=((hB1.trans (hB2.mono hB1.size)).trans (hB3.mono (Nat.le_trans hB1.size hB2.size))).trans (hB4.mono (Nat.le_trans hB1.size (Nat.le_trans hB2.size hB3.size)))
 have hcon:=means_is (cap:=cap) (hsen.kept hBw hsen.sz) (hap.kept hBw) hd (hs.kept hBw) k fuel b n c args (hargs.kept hBw)
 have HX:=Hid.put (And.intro hM4 (And.intro hK4 (And.intro hA4 (And.intro hO4 (And.intro hBw (And.intro hs hargs))))))
 have HS:=Hid.put (And.intro s1 (And.intro s2 s3))
 have m0:=hM4.cell (j:=0) rfl
 have m1:=hM4.cell (j:=1) rfl
 have k0:=hK4.cell (j:=0) rfl
 have a0:=hA4.cell (j:=0) rfl
 clear hsen hap hs hargs hB1 hM1 hB2 hK2 hB3 hA3 hB4 hO4 hM4 hK4 hA4 hBw s1 s2 s3
 go_enter Tryz.func33,Tryz.ntmps33
 go_wp2_with fail
 refine hcon.mono ?_
 rintro e w5 ⟨rfl,hB5⟩
 dsimp only
 clear hcon m0 m1 k0 a0
 obtain ⟨hM4,hK4,hA4,hO4,hBw,hs,hargs⟩:=HX.out
 have hM5:=hM4.kept hB5
 have hK5:=hK4.kept hB5
 have hA5:=hA4.kept hB5
 have hO5:=hO4.kept hB5
 have hBw5:Below w.heap.size w w5:=hBw.trans (hB5.mono hBw.size)
 have m0:=hM5.cell (j:=0) rfl
 have m1:=hM5.cell (j:=1) rfl
 have o0:=hO5.cell (j:=0) rfl
 have o1:=hO5.cell (j:=1) rfl
 have o2:=hO5.cell (j:=2) rfl
 have g0:=hO5.frozen 0
 have g1:=hO5.frozen 1
 have g2:=hO5.frozen 2
 rcases hok:Mn.isOk fs d k args fuel with _ | _
 · have HE:Hid (Mn.code fs d k args fuel=7 ∧ Mn.value fs d k args fuel=0 ∧ Mn.memo fs d k args fuel=[] ∧ Mn.burnt fs d k args fuel = -1):=by
     unfold Mn.code Mn.value Mn.memo Mn.burnt
     rw [if_neg (by rw [hok];decide),if_neg (by rw [hok];decide),if_neg (by rw [hok];decide),if_neg (by rw [hok];decide)]
     exact ⟨rfl,rfl,rfl,rfl⟩
   have HB:=Hid.put hBw5
   clear hM4 hK4 hA4 hO4 hBw hs hargs hM5 hK5 hA5 hO5 hBw5 hok hB5
   go_wp2
   refine bodyPost_ret (v:=.tuple #[.agg #[.int .i64 7,.int .i64 0,.slice none 0 0],.int .i64 (-1)]) ?_ rfl ?_
   · rw [results_cell2' rfl]
     go_simp
   · obtain ⟨e1,e2,e3,e4⟩:=HE.out
     rw [e1,e2,e3,e4]
     refine ⟨_,rfl,⟨0,World.ownsRow_nil _ _ _ _⟩,?_⟩
     have hge:w.heap.size ≤ W3.heap.size:=by have:=HS.out;omega
     exact below_grownBy (below_grownBy (below_grownBy HB.out (grownBy_set' _ _ _) hge) (grownBy_set' _ _ _) hge) (grownBy_set' _ _ _) hge
 · obtain ⟨h1,⟨h2,h3⟩,h4,h5,h6,h7⟩:=Mn.isOk_iff.1 hok
   have V:=Mn.val_of h1
   have hd64:d.size ≤ 64:=by
     unfold Hg.valid Md.ok at h1
     simp only [Bool.and_eq_true,decide_eq_true_eq] at h1
     exact h1.1.1.2
   have hfine:=Mn.out_fine hok fuel.toNat
   obtain ⟨kn,rfl⟩:=Int.eq_ofNat_of_zero_le h2
   obtain ⟨nf,rfl⟩:=Int.eq_ofNat_of_zero_le h6
   rw [Int.toNat_natCast] at h4 hfine
   have hfs5:=hs.kept hBw5
   obtain ⟨hfl1,hfl2,hfl3 | ⟨fb,fo,rfl,hfl4,hfl5⟩⟩:=id hfs5
   · have:=V.len
     omega
   have hnp:=newProgram_is fb fo len cap fs d nf w5 hfs5 V hd64 (by omega)
   have HE:Hid (Mn.code fs d kn args nf=(Mn.out fs d kn args nf).code ∧ Mn.value fs d kn args nf=(Mn.out fs d kn args nf).value ∧ Mn.memo fs d kn args nf=(Mn.out fs d kn args nf).mem ∧ Mn.burnt fs d kn args nf=(nf:Int) - (Mn.out fs d kn args nf).left):=by
     unfold Mn.code Mn.value Mn.memo Mn.burnt
     rw [if_pos hok,if_pos hok,if_pos hok,if_pos hok]
     exact ⟨rfl,rfl,rfl,rfl⟩
   have HOK:=Hid.put hok
   have HA:=Hid.put (And.intro hfine (And.intro h4 (And.intro h5 (And.intro h7 h3))))
   have HB:=Hid.put (And.intro hM5 (And.intro hK5 (And.intro hA5 (And.intro hO5 hBw5))))
   have HIL:=Hid.put (hargs.kept hBw5)
   have hmf:∀ (fn:Go.Fn) (first cap:Array Value) (w:World),(Instr.makeFunc fn first cap).run Tryz.prog w = .ok (.func fn first cap) w:=fun _ _ _ _ => rfl
   clear hM4 hK4 hA4 hO4 hBw hs hargs hM5 hK5 hA5 hO5 hBw5 hok hB5 hfine h1 h3 h4 h5 h7 V hfl1 hfl2 hfl4 hfl5 hfs5 o0 o1 o2 g0 g1 g2
   go_wp2_with fail
   refine hnp.mono ?_
   rintro e w6 ⟨pc,rfl,hcf,hcfs,hPge,hT,hP,hB6⟩
   dsimp only
   clear hnp m0 m1
   have hB7:=below_one w6 (.cells #[.pointer (some ⟨pc.P,0,none⟩)] 82)
   have hp7:Arr (w6.alloc (.cells #[.pointer (some ⟨pc.P,0,none⟩)] 82)) w6.heap.size 82 [.pointer (some ⟨pc.P,0,none⟩)]:=heap_alloc_last w6 _
   obtain ⟨w7,hw7⟩:∃ w7,w6.alloc (.cells #[.pointer (some ⟨pc.P,0,none⟩)] 82)=w7:=⟨_,rfl⟩
   rw [hw7] at hB7 hp7
   obtain ⟨hM5,hK5,hA5,hO5,hBw5⟩:=HB.out
   have hK7:=(hK5.kept hB6).kept hB7
   have hA7:=(hA5.kept hB6).kept hB7
   have hO7:=(hO5.kept hB6).kept hB7
   have hP7:=hP.kept hB7
   obtain ⟨hfine,h4,h5,h7,h3⟩:=HA.out
   obtain ⟨R,hR⟩:∃ R,Mn.out fs d (kn:Int) args nf=R:=⟨_,rfl⟩
   rw [hR] at hfine HE
   have hout:=outcome_is hT (AgP.below hB7) w6.heap.size W1.heap.size W2.heap.size kn b n c args (Mm.new d) (hp7.cell (j:=0) rfl) (hK7.cell (j:=0) rfl) (hA7.cell (j:=0) rfl) ((HIL.out.kept hB6).kept hB7) (by have:=Mn.fn_ok (Mn.Val_of_tab hT) (k:=kn) (by rw [hcfs];omega);rw [hcfs] at this;have:=HIL.out.1;omega) h5 (by rw [hcfs];omega) (by rw [hcfs];exact h4) (Mm.new_ok hd64) hP7 R (by rw [hcfs,hcf,Mn.runAt_out,hR]) hfine
   rw [hcf] at hout
   have p0:=hp7.cell (j:=0) rfl
   have hBw7:Below w.heap.size w w7:=(hBw5.trans (hB6.mono hBw5.size)).trans (hB7.mono (Nat.le_trans hBw5.size hB6.size))
   have hPw:w.heap.size ≤ pc.P:=Nat.le_trans hBw5.size hPge
   have hPl:=hP7.lt
   have HC:=Hid.put (And.intro hO7 (And.intro hBw7 hp7))
   have hO5l:=hO5.lt
   have HP6:Hid (pc.P < w6.heap.size ∧ w5.heap.size ≤ w6.heap.size):=⟨hP.lt,hB6.size⟩
   clear hfine h4 h5 h7 h3 hM5 hK5 hA5 hO5 hBw5 hK7 hA7 hO7 hP7 hBw7 hp7 hB7 hP hT HIL HB HA hB6
   go_wp2_with fail
   refine hout.mono ?_
   rintro e w8 ⟨y,dd,rfl,hot,hag,hPB⟩
   dsimp only
   clear hout
   obtain ⟨t0,hrow⟩:=id hot
   obtain ⟨ay,cy,rfl⟩:=ownsRow_slice hrow
   obtain ⟨ln,hln⟩:∃ ln,R.mem.length=ln:=⟨_,rfl⟩
   obtain ⟨cd,hcd⟩:∃ x,R.code=x:=⟨_,rfl⟩
   obtain ⟨vv,hvv⟩:∃ x,R.value=x:=⟨_,rfl⟩
   obtain ⟨bu,hbu⟩:∃ x,(nf:Int) - R.left=x:=⟨_,rfl⟩
   have hml:R.mem.length=64:=by
     have hf:=Mn.out_fine2 hR HOK.out
     exact hf
   have HPB:=Hid.put hPB
   rw [hbu] at hPB HE
   rw [hcd,hvv] at HE ⊢
   obtain ⟨⟨-,q65, -, -, -⟩, -⟩:=pb_cells hml hPB
   have hO8:Arr w8 W3.heap.size 31 [.int .i64 0,.int .i64 0,.slice none 0 0]:=(hag.blk _ HC.out.1.lt (by omega)).trans HC.out.1
   have hp8:Arr w8 w6.heap.size 82 [.pointer (some ⟨pc.P,0,none⟩)]:=(hag.blk _ HC.out.2.2.lt (by have h:=HP6.out;omega)).trans HC.out.2.2
   have hB9:=below_one w8 (.cells #[.int .i64 cd,.int .i64 vv,.slice ay R.mem.length cy] 31)
   have hN9:Arr (w8.alloc (.cells #[.int .i64 cd,.int .i64 vv,.slice ay R.mem.length cy] 31)) w8.heap.size 31 [.int .i64 cd,.int .i64 vv,.slice ay R.mem.length cy]:=heap_alloc_last w8 _
   obtain ⟨w9,hw9⟩:∃ w9,w8.alloc (.cells #[.int .i64 cd,.int .i64 vv,.slice ay R.mem.length cy] 31)=w9:=⟨_,rfl⟩
   rw [hw9] at hB9 hN9
   rw [hln] at hw9 hN9 ⊢
   have hO9:=hO8.kept hB9
   have hp9:=hp8.kept hB9
   have hq9:=(hB9.cell (p:=⟨pc.P,65,none⟩) hPB.lt).trans q65
   have hob:W3.heap.size < w8.heap.size:=hO8.lt
   have hpb:w6.heap.size < w8.heap.size:=hp8.lt
   have hPb8:pc.P < w8.heap.size:=hPB.lt
   have HD:=Hid.put (And.intro hot (And.intro hag (And.intro hB9 (And.intro hln (And.intro hml HC.out.2.1)))))
   obtain ⟨ob,hobe⟩:∃ ob,W3.heap.size=ob:=⟨_,rfl⟩
   have hne6:w6.heap.size ≠ ob:=by have h:=HP6.out;omega
   have hneP:pc.P ≠ ob:=by omega
   have hne8:w8.heap.size ≠ ob:=by omega
   obtain ⟨AA,hAA⟩:∃ AA:Bool → World → Prop,AA=fun t x => w9.grownBy x (some ob) ∧ Arr x ob 31 (if t=true then [.int .i64 cd,.int .i64 vv,.slice ay ln cy] else [.int .i64 0,.int .i64 0,.slice none 0 0]):=⟨_,rfl⟩
   have hA0:AA false w9.drew:=by rw [hAA];exact ⟨⟨rfl,rfl,rfl,Nat.le_refl _,fun _ _ _ => rfl⟩,hobe ▸ hO9⟩
   have hAf:∀ {x:World},AA false x → Arr x ob 31 [.int .i64 0,.int .i64 0,.slice none 0 0]:=fun h => by rw [hAA] at h;exact h.2
   have hAt:∀ {x:World},AA true x → w9.grownBy x (some ob) ∧ Arr x ob 31 [.int .i64 cd,.int .i64 vv,.slice ay ln cy]:=fun h => by rw [hAA] at h;exact h
   have hAc:∀ {t:Bool} {x:World} {g j:Nat} {v:Value},AA t x → g ≠ ob → w9.cell? ⟨g,j,none⟩=some v → x.cell? ⟨g,j,none⟩=some v:=fun h hne hc => by
     rw [hAA] at h
     exact h.1.cell hc (by simpa using hne)
   have hAs:∀ {x:World},AA false x → AA true (((x.setCell ⟨ob,0,none⟩ (.int .i64 cd)).setCell ⟨ob,1,none⟩ (.int .i64 vv)).setCell ⟨ob,2,none⟩ (.slice ay ln cy)):=fun h => by
     rw [hAA] at h ⊢
     refine ⟨grow2 (grow2 (grow2 h.1 (grownBy_set' _ _ _)) (grownBy_set' _ _ _)) (grownBy_set' _ _ _),((h.2.set 0 _).set 1 _).set 2 _⟩
   have n0:=hN9.cell (j:=0) rfl
   have n1:=hN9.cell (j:=1) rfl
   have n2:=hN9.cell (j:=2) rfl
   have pp0:=hp9.cell (j:=0) rfl
   clear hAA hot hag hPB hrow hO8 hp8 hB9 hN9 hO9 hp9 HC p0 hcd hvv hbu hln
   go_wp2_with fail
   rw [hobe]
   refine wp_region_phi3 [27,28,29,30,31,32,100000,9] 6 6 AA [.agg #[.int .i64 cd,.int .i64 vv,.slice ay ln cy],.pointer (some ⟨pc.P,0,none⟩),.pointer (some ⟨pc.P,0,none⟩),.pointer (some ⟨pc.P,0,none⟩),.pointer (some ⟨pc.P,65,none⟩),.int .i64 bu,undef,.int .i64 bu] (by kernel_rfl) (by kernel_rfl) rfl hA0 ?_ ?_
   · refine ⟨?_,?_,?_,?_,?_,?_,?_,?_,trivial⟩
     all_goals (intro t b x hA ht hm hfr hdf hdep;replace hdf:=Hid.put hdf)
     have e11:b.tmps[11]?.getD undef = .pointer (some ⟨w8.heap.size,0,none⟩):=by simpa [Act.eval] using hfr 11 (by decide)
     have y0:=hAc hA hne8 n0
     have y1:=hAc hA hne8 n1
     have y2:=hAc hA hne8 n2
     rotate_left
     have e10:b.tmps[10]?.getD undef = .pointer (some ⟨w6.heap.size,0,none⟩):=by simpa [Act.eval] using hfr 10 (by decide)
     have y0:=hAc hA hne6 pp0
     rotate_left
     have e28:b.tmps[28]?.getD undef = .pointer (some ⟨pc.P,0,none⟩):=by simpa [Act.eval] using hdep 1 (by kernel_rfl)
     rotate_left
     have e29:b.tmps[29]?.getD undef = .pointer (some ⟨pc.P,0,none⟩):=by simpa [Act.eval] using hdep 2 (by kernel_rfl)
     rotate_left
     have e30:b.tmps[30]?.getD undef = .pointer (some ⟨pc.P,0,none⟩):=by simpa [Act.eval] using hdep 3 (by kernel_rfl)
     rotate_left
     have e31:b.tmps[31]?.getD undef = .pointer (some ⟨pc.P,65,none⟩):=by simpa [Act.eval] using hdep 4 (by kernel_rfl)
     have y0:=hAc hA hneP hq9
     rotate_left
     · have e8:b.tmps[8]?.getD undef = .pointer (some ⟨ob,0,none⟩):=by simpa [Act.eval] using hfr 8 (by decide)
       have e27:b.tmps[27]?.getD undef = .agg #[.int .i64 cd,.int .i64 vv,.slice ay ln cy]:=by simpa [Act.eval] using hdep 0 (by kernel_rfl)
       obtain rfl:=ht rfl
       have hO:=hAf hA
       have o0:=hO.cell (j:=0) rfl
       have o1:=hO.cell (j:=1) rfl
       have o2:=hO.cell (j:=2) rfl
       have g0:=hO.frozen 0
       have g1:=hO.frozen 1
       have g2:=hO.frozen 2
       clear hO
       unfold Oper.wp
       generalize hK:(fun (b':Act) (x':World) => ∃ y,_ ∧ _)=K
       simp only [execOp]
       go_simp
       rw [← hK]
       exact ⟨undef,rfl,a_turn (hAs hA),rfl,fun i z h => h⟩
     have e32:b.tmps[32]?.getD undef = .int .i64 bu:=by simpa [Act.eval] using hdep 5 (by kernel_rfl)
     rotate_left
     all_goals (unfold Oper.wp;generalize hK:(fun (b':Act) (x':World) => ∃ y,_ ∧ _)=K;simp only [execOp];go_simp;rw [← hK];exact ⟨_,rfl,a_keep hA,rfl,fun i z h => h⟩)
   · intro b x hA hF hb
     have e27:b.eval (.tmp 27) = .agg #[.int .i64 cd,.int .i64 vv,.slice ay ln cy]:=hF 0 (by decide)
     have e28:b.eval (.tmp 28) = .pointer (some ⟨pc.P,0,none⟩):=hF 1 (by decide)
     have e29:b.eval (.tmp 29) = .pointer (some ⟨pc.P,0,none⟩):=hF 2 (by decide)
     have e30:b.eval (.tmp 30) = .pointer (some ⟨pc.P,0,none⟩):=hF 3 (by decide)
     have e31:b.eval (.tmp 31) = .pointer (some ⟨pc.P,65,none⟩):=hF 4 (by decide)
     have e32:b.eval (.tmp 32) = .int .i64 bu:=hF 5 (by decide)
     have e9:b.eval (.tmp 9) = .int .i64 bu:=hF 7 (by decide)
     obtain ⟨zz,e100000⟩:∃ z,b.eval (.tmp 100000)=z:=⟨_,rfl⟩
     simp only [List.foldl,e27,e28,e29,e30,e31,e32,e100000,e9] at hb
     clear hF e27 e28 e29 e30 e31 e32 e100000 e9
     subst hb
     go_simp
     have hA1:AA true x:=by simpa using hA
     clear hA
     obtain ⟨hgr,hOt⟩:=hAt hA1
     have o0:=hOt.cell (j:=0) rfl
     have o1:=hOt.cell (j:=1) rfl
     have o2:=hOt.cell (j:=2) rfl
     have HG:=Hid.put (And.intro hgr hOt)
     have hob2:w.heap.size ≤ ob:=by have:=HS.out;omega
     clear hA1 hAf hAt hAc hAs hgr hOt n0 n1 n2 pp0 hq9 q65
     go_wp2
     refine bodyPost_ret (v:=.tuple #[.agg #[.int .i64 cd,.int .i64 vv,.slice ay ln cy],.int .i64 bu]) ?_ rfl ?_
     · rw [results_cell2' rfl]
       go_simp
     · obtain ⟨e1,e2,e3,e4⟩:=HE.out
       rw [e1,e2,e3,e4]
       obtain ⟨hot,hag,hB9,hln,hml,hBw7⟩:=HD.out
       obtain ⟨hgr,hOt⟩:=HG.out
       obtain ⟨t1,hrw⟩:=hot
       have s7:=hBw7.size
       refine ⟨.slice ay ln cy,rfl,⟨t1,?_⟩,?_⟩
       · rw [← hln]
         refine row_mono (row_off' (b:=0) (row_kept2 hrw hB9) hgr (fun g e => ?_)) s7
         have h1:=(hrw.lt g e).1
         have h2:=HP6.out
         have h3:w7.heap.size=w6.heap.size + 1:=by rw [← hw7];simp
         simp only [ne_eq,Option.some.injEq]
         omega
       · have q1:Below w.heap.size w w8:=⟨hag.os.trans hBw7.os,hag.tape.trans hBw7.tape,hag.out.trans hBw7.output,Nat.le_trans s7 hag.size,fun i hi => (hag.blk i (Nat.lt_of_lt_of_le hi s7) (by omega)).trans (hBw7.block i hi)⟩
         exact below_grownBy (q1.trans (hB9.mono q1.size)) hgr hob2
end
section
variable {s:Sen} {a:Option Addr} {len cap:Nat} {fs:List Fn} {d:ByteArray} {w:World}
theorem impl_Meant (hsen:SenW s w) (hap:Apart s w) (hd:d.size ≤ maxLen) (hs:FL w a len fs) (k fuel:Int) (b:Option Addr) (n c:Nat) (args:List Int) (hargs:IL w b n args) :
   Calls Tryz.prog 8 #[.agg #[.slice a len cap,.string d],.int .i64 k,.slice b n c,.int .i64 fuel] w fun e w' => ∃ y,e = .returned (.agg #[.int .i64 (Mn.code fs d k args fuel),.int .i64 (Mn.value fs d k args fuel),y]) ∧ OT w' w.heap.size y (Mn.memo fs d k args fuel) ∧ Below w.heap.size w w':=by
 have hB1:=below_one w (.cells #[.slice a len cap,.string d] 26)
 have hM1:Arr (w.alloc (.cells #[.slice a len cap,.string d] 26)) w.heap.size 26 [.slice a len cap,.string d]:=heap_alloc_last w _
 obtain ⟨W1,hW1⟩:∃ W1,w.alloc (.cells #[.slice a len cap,.string d] 26)=W1:=⟨_,rfl⟩
 rw [hW1] at hB1 hM1
 have hB2:=below_one W1 (.cells #[.int .i64 0,.int .i64 0,.slice none 0 0] 31)
 have hO2:Arr (W1.alloc (.cells #[.int .i64 0,.int .i64 0,.slice none 0 0] 31)) W1.heap.size 31 [.int .i64 0,.int .i64 0,.slice none 0 0]:=heap_alloc_last W1 _
 obtain ⟨W2,hW2⟩:∃ W2,W1.alloc (.cells #[.int .i64 0,.int .i64 0,.slice none 0 0] 31)=W2:=⟨_,rfl⟩
 rw [hW2] at hB2 hO2
 have hM2:=hM1.kept hB2
 have hBw:Below w.heap.size w W2:=hB1.trans (hB2.mono hB1.size)
 have hcon:=mab_is (cap:=cap) (hsen.kept hBw hsen.sz) (hap.kept hBw) hd (hs.kept hBw) k fuel b n c args (hargs.kept hBw)
 have m0:=hM2.cell (j:=0) rfl
 have m1:=hM2.cell (j:=1) rfl
 have hge:=hB1.size
 have HX:=Hid.put (And.intro hO2 hBw)
 clear hsen hap hs hargs hB1 hM1 hB2 hO2 hM2 hBw
 go_enter Tryz.func8,Tryz.ntmps8
 go_wp2_with fail
 refine hcon.mono ?_
 rintro e w3 ⟨y,rfl,hot,hB3⟩
 dsimp only
 obtain ⟨t0,hrow⟩:=id hot
 obtain ⟨ay,cy,rfl⟩:=ownsRow_slice hrow
 obtain ⟨ln,hln⟩:∃ ln,(Mn.memo fs d k args fuel).length=ln:=⟨_,rfl⟩
 obtain ⟨cd,hcd⟩:∃ x,Mn.code fs d k args fuel=x:=⟨_,rfl⟩
 obtain ⟨vv,hvv⟩:∃ x,Mn.value fs d k args fuel=x:=⟨_,rfl⟩
 rw [hcd,hvv,hln]
 have hO3:=HX.out.1.kept hB3
 have hB4:=below_one w3 (.cells #[.int .i64 cd,.int .i64 vv,.slice ay ln cy] 31)
 have hO4:=hO3.kept hB4
 have HP:=Hid.put (And.intro hot (And.intro hB3 (And.intro hB4 (And.intro hO4 (And.intro hcd (And.intro hvv hln))))))
 have o0:=hO3.cell (j:=0) rfl
 have o1:=hO3.cell (j:=1) rfl
 have o2:=hO3.cell (j:=2) rfl
 have g0:=hO3.frozen 0
 have g1:=hO3.frozen 1
 have g2:=hO3.frozen 2
 have hlt:=hO3.lt
 clear hcon m0 m1 hot hB3 hB4 hO3 hO4 hcd hvv hln hrow
 go_wp2
 refine bodyPost_ret (v:=.agg #[.int .i64 cd,.int .i64 vv,.slice ay ln cy]) ?_ rfl ?_
 · rw [results_cell1 rfl]
   go_simp
 · obtain ⟨hot,hB3,hB4,hO4,hcd,hvv,hln⟩:=HP.out
   rw [hcd,hvv]
   obtain ⟨t1,hrw⟩:=hot
   have hBw:=HX.out.2
   refine ⟨.slice ay ln cy,rfl,⟨t1,?_⟩,?_⟩
   · rw [← hln]
     have hne:∀ g,(Value.slice ay (Mn.memo fs d k args fuel).length cy).ownBlock=some g → (some W1.heap.size:Option Nat) ≠ some g:=fun g e => by
       have h1:=(hrw.lt g e).1
       have h2:=HX.out.1.lt
       simp only [ne_eq,Option.some.injEq]
       omega
     exact row_mono (row_kept2 (row_off' (b:=0) (row_off' (b:=0) (row_off' (b:=0) hrw (grownBy_set' _ _ _) hne) (grownBy_set' _ _ _) hne) (grownBy_set' _ _ _) hne) (below_one _ _)) hBw.size
   · have q3:Below w.heap.size w w3:=hBw.trans (hB3.mono hBw.size)
     have q4:=below_grownBy (below_grownBy (below_grownBy q3 (grownBy_set' w3 ⟨W1.heap.size,0,none⟩ (.int .i64 cd)) hge) (grownBy_set' _ ⟨W1.heap.size,1,none⟩ (.int .i64 vv)) hge) (grownBy_set' _ ⟨W1.heap.size,2,none⟩ (.slice ay ln cy)) hge
     exact q4.trans ((below_one _ _).mono q4.size)
theorem impl_Burnt (hsen:SenW s w) (hap:Apart s w) (hd:d.size ≤ maxLen) (hs:FL w a len fs) (k fuel:Int) (b:Option Addr) (n c:Nat) (args:List Int) (hargs:IL w b n args) :
   Calls Tryz.prog 9 #[.agg #[.slice a len cap,.string d],.int .i64 k,.slice b n c,.int .i64 fuel] w fun e w' => e = .returned (.int .i64 (Mn.burnt fs d k args fuel)) ∧ Below w.heap.size w w':=by
 have hB1:=below_one w (.cells #[.slice a len cap,.string d] 26)
 have hM1:Arr (w.alloc (.cells #[.slice a len cap,.string d] 26)) w.heap.size 26 [.slice a len cap,.string d]:=heap_alloc_last w _
 obtain ⟨W1,hW1⟩:∃ W1,w.alloc (.cells #[.slice a len cap,.string d] 26)=W1:=⟨_,rfl⟩
 rw [hW1] at hB1 hM1
 have hcon:=mab_is (cap:=cap) (hsen.kept hB1 hsen.sz) (hap.kept hB1) hd (hs.kept hB1) k fuel b n c args (hargs.kept hB1)
 have m0:=hM1.cell (j:=0) rfl
 have m1:=hM1.cell (j:=1) rfl
 have HX:=Hid.put hB1
 clear hsen hap hs hargs hB1 hM1
 go_enter Tryz.func9,Tryz.ntmps9
 go_wp2_with fail
 refine hcon.mono ?_
 rintro e w3 ⟨y,rfl,hot,hB3⟩
 dsimp only
 obtain ⟨t0,hrow⟩:=id hot
 obtain ⟨ay,cy,rfl⟩:=ownsRow_slice hrow
 obtain ⟨ln,hln⟩:∃ ln,(Mn.memo fs d k args fuel).length=ln:=⟨_,rfl⟩
 obtain ⟨cd,hcd⟩:∃ x,Mn.code fs d k args fuel=x:=⟨_,rfl⟩
 obtain ⟨vv,hvv⟩:∃ x,Mn.value fs d k args fuel=x:=⟨_,rfl⟩
 obtain ⟨bu,hbu⟩:∃ x,Mn.burnt fs d k args fuel=x:=⟨_,rfl⟩
 rw [hcd,hvv,hbu,hln]
 have HB:=Hid.put (And.intro hB3 hbu)
 clear hcon m0 m1 hot hB3 hrow hcd hvv hbu hln
 go_wp2
 go_ret
 have q3:Below w.heap.size w w3:=HX.out.trans (HB.out.1.mono HX.out.size)
 exact ⟨by rw [HB.out.2];rfl,q3.trans ((below_one w3 _).mono q3.size)⟩
end
end Go.Proofs.YthpdpoocigpccaaGreatDoor
