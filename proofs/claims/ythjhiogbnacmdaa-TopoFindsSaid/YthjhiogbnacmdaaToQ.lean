/- Layer 32: which topologies may be, walked. -/
import Derived.Test.YthjhiogbnacmdaaToN
import Derived.Test.YthjhiogbnacmdaaToG
import Derived.Test.YthjhiogbnacmdaaToH
namespace Go.Proofs.Ythjhiogbnacmdaa.top
open Go.Sort (grow)
open Go.ChangeShapes Go.WideShapes Go.ChangeAt Go.RowKit kit
set_option maxRecDepth 100000

theorem tk_wf (E : Nat → Int × Int) : ∀ n, ∀ x ∈ tk E n, (Lit.int .u32 x.1).wf = true
  | 0, x, h => absurd h List.not_mem_nil
  | n + 1, x, h => by
    rw [tk, List.mem_append, List.mem_singleton] at h
    rcases h with h | rfl
    · exact tk_wf E n x h
    · exact low_wf _
set_option maxHeartbeats 2000000 in
theorem checks_any (oH oN : Option Addr) (aH aN : Addr) (nH cH nN cN : Nat) (E : Nat → HoA) (EN : Nat → Int × Int) (w : World) (hH : HoR w w.heap.size oH aH nH cH E) (hN : PlR w w.heap.size oN aN nN cN EN) :
    Calls Try.prog 5 #[.agg #[.slice oH nH cH, .slice oN nN cN]] w fun e w' => e = .returned (.bool true) ∧ Below w.heap.size w w' := by
  have X1 := Blk.new w 42 #[.slice oH nH cH, .slice oN nN cN]
  have al1 := (Below.refl w.heap.size w).alloc (Nat.le_refl _) (.cells #[.slice oH nH cH, .slice oN nN cN] 42)
  have hH1 := hH.below al1
  have hN1 := hN.below al1
  have hc := cut32 oH oN aH aN nH cH nN cN E EN w.heap.size _ al1.size hH1 hN1
  clear hH hN hH1 hN1
  go_enter Try.func5, Try.ntmps5
  go_upto_region 1 with fail
  obtain ⟨w1, hw1⟩ : ∃ w1, w.alloc (.cells #[.slice oH nH cH, .slice oN nN cN] 42) = w1 := ⟨_, rfl⟩
  rw [hw1] at X1 al1 hc
  try rw [hw1]
  clear hw1
  have x0 : w1.cell? ⟨w.heap.size, 0, none⟩ = some (.slice oH nH cH) := X1.cell 0
  have x1 : w1.cell? ⟨w.heap.size, 1, none⟩ = some (.slice oN nN cN) := X1.cell 1
  clear X1
  go_wp2_with fail
  refine hc.mono ?_
  rintro e w2 ⟨⟨vH, vN, pv, rfl, T⟩, hb⟩
  have bel2 := al1.trans (hb.mono al1.size)
  obtain ⟨oH', cH', hvH, _, _⟩ := T.H.shape
  obtain ⟨oN', cN', hvN, _, _⟩ := T.N.shape
  subst hvH hvN
  generalize hhs : (fun i => tk (E i).EP (min (E i).nP 6)) = hs at T
  generalize hns : tk EN (min nN 6) = ns at T
  generalize min nH 8 = n at T
  have wfN : ∀ x ∈ ns, (Lit.int .u32 x.1).wf = true := by rw [← hns]; exact tk_wf _ _
  have wfH : ∀ i, i < n → ∀ x ∈ hs i, (Lit.int .u32 x.1).wf = true := fun i _ => by rw [← hhs]; exact tk_wf _ _
  obtain ⟨len, hlen⟩ : ∃ len, ns.length = len := ⟨_, rfl⟩
  have Y3 := Blk.new w2 42 #[.slice oH' n cH', .slice oN' len cN']
  have al3 := (Below.refl w2.heap.size w2).alloc (Nat.le_refl _) (.cells #[.slice oH' n cH', .slice oN' len cN'] 42)
  have T3 := T.below al3 (Nat.le_refl _)
  have bel3 := bel2.trans (al3.mono bel2.size)
  clear hc hb al1 bel2 T x0 x1 hhs hns
  rw [hlen] at T3
  go_upto_region 2 with fail
  obtain ⟨w3, hw3⟩ : ∃ w3, w2.alloc (.cells #[.slice oH' n cH', .slice oN' len cN'] 42) = w3 := ⟨_, rfl⟩
  rw [hw3] at Y3 al3 T3 bel3
  try rw [hw3]
  clear hw3 al3
  obtain ⟨yb, hyb⟩ : ∃ yb, w2.heap.size = yb := ⟨_, rfl⟩
  rw [hyb] at Y3
  try rw [hyb]
  clear hyb
  have szt : (Try.prog.info? 42).map (·.size) = some (#[.slice oH' n cH', .slice oN' len cN'] : Array Value).size := by show _ = some 2; kernel_rfl
  have haw := awake_any
  have hck := fun d os => check_val (T3.below (below_regrown w3 d os) (Nat.le_refl _)) wfN wfH
  have hfn := fun d os => fine_val (T3.below (below_regrown w3 d os) (Nat.le_refl _))
  have CY := Cel.of_blk Y3
  have hbs := bel3.size
  rcases hfb : fineB n hs ns with _ | _
  · have hcc : chkC n hs ns = 1 := by unfold chkC; rw [hfb]; rfl
    rw [hcc] at hck
    rw [hfb] at hfn
    clear T3 hlen wfN wfH hfb hcc
    refine wp_region_quiet_below (by kernel_rfl) (by kernel_rfl) ?_
    repeat (any_goals (first | (refine wpQuiet_load_at (by rfl) 42 _ (by rfl) yb 0 (by rfl) #[.slice oH' n cH', .slice oN' len cN'] _ Try.underlying42 (by rfl) szt (fun w' hw' => by obtain ⟨q, rfl⟩ := hw'; exact CY.below (below_regrown w3 _ _) CY.lt) ?_) | go_big_quiet_step ((first | (go_at_call 17; exact Calls.regrown_of (haw _)) | (go_at_call 18; exact Calls.regrown_of (hck _ _)) | (go_at_call 19; exact Calls.regrown_of (hfn _ _)) | fail)) | quiet_step ((first | (go_at_call 17; exact Calls.regrown_of (haw _)) | (go_at_call 18; exact Calls.regrown_of (hck _ _)) | (go_at_call 19; exact Calls.regrown_of (hfn _ _)) | fail))))
    refine wpQuiet_nil ?_
    intro _ hw'
    obtain ⟨⟨dq, osq⟩, hw''⟩ := hw'
    subst hw''
    have bel4 := bel3.trans ((below_regrown w3 dq osq).mono hbs)
    clear hck hfn CY Y3 szt haw
    go_wp2_with fail
    go_ret
    exact ⟨rfl, bel4⟩
  · have hcc : chkC n hs ns = 0 := by unfold chkC; rw [hfb]; rfl
    rw [hcc] at hck
    rw [hfb] at hfn
    clear T3 hlen wfN wfH hfb hcc
    refine wp_region_quiet_below (by kernel_rfl) (by kernel_rfl) ?_
    repeat (any_goals (first | (refine wpQuiet_load_at (by rfl) 42 _ (by rfl) yb 0 (by rfl) #[.slice oH' n cH', .slice oN' len cN'] _ Try.underlying42 (by rfl) szt (fun w' hw' => by obtain ⟨q, rfl⟩ := hw'; exact CY.below (below_regrown w3 _ _) CY.lt) ?_) | go_big_quiet_step ((first | (go_at_call 17; exact Calls.regrown_of (haw _)) | (go_at_call 18; exact Calls.regrown_of (hck _ _)) | (go_at_call 19; exact Calls.regrown_of (hfn _ _)) | fail)) | quiet_step ((first | (go_at_call 17; exact Calls.regrown_of (haw _)) | (go_at_call 18; exact Calls.regrown_of (hck _ _)) | (go_at_call 19; exact Calls.regrown_of (hfn _ _)) | fail))))
    refine wpQuiet_nil ?_
    intro _ hw'
    obtain ⟨⟨dq, osq⟩, hw''⟩ := hw'
    subst hw''
    have bel4 := bel3.trans ((below_regrown w3 dq osq).mono hbs)
    clear hck hfn CY Y3 szt haw
    go_wp2_with fail
    go_ret
    exact ⟨rfl, bel4⟩
section
variable {H : Type} {enc : TypeId × Value → H} {W : World} {base : Nat}
theorem checks_open {v0 : Value} {d0 : DataW H} {p0 : List MemPlace} (o0 : Value.okWide Try.prog W .any base 42 v0) (h0 : DataW.Trod enc Try.prog W 0 (fun _ => true) true 42 v0 d0 p0) :
    Calls Try.prog 5 #[v0] W fun e w' => e = .returned (.bool true) ∧ Below W.heap.size W w' := by
  obtain ⟨oH, oN, aH, aN, nH, cH, nN, cN, E, EN, rfl, HH, HN⟩ := open_topo o0 h0
  exact checks_any oH oN aH aN nH cH nN cN E EN W HH HN
end
end Go.Proofs.Ythjhiogbnacmdaa.top
