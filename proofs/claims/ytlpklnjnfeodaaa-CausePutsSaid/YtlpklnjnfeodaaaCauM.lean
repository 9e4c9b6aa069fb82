/- Layer 5: causes as bytes; no row, and arguments opened. -/
import Derived.Test.YtlpklnjnfeodaaaCauL
namespace Go.Proofs.Ytlpklnjnfeodaaa.par
open Go.ChangeShapes Go.WideShapes Go.ChangeAt Go.RowKit kit oct bld
set_option maxRecDepth 100000

set_option maxHeartbeats 2000000 in
theorem cputs_nil (w : World) :
    Calls Try.prog 8 #[.slice none 0 0] w fun e w' => e = .returned (.bool true) ∧ Below w.heap.size w w' := by
  go_enter Try.func8, Try.ntmps8
  go_wp2_with fail
  have own0 : (w.alloc (.cells #[] 59)).ownsRow w.heap.size 59 2 (.slice (some ⟨w.heap.size, 0, none⟩) 0 0) 0 (cellsP []) := ⟨rfl, .inr ⟨w.heap.size, 0, #[], rfl, Nat.le_refl _, heap_alloc_new w _, Nat.le_refl _, by unfold maxLen; omega, rfl, rfl⟩⟩
  have hP := cputAll_own w.heap.size (.slice (some ⟨w.heap.size, 0, none⟩) 0 0) [] _ (by simp) own0
  have hAl := fun w => call_list [] w (by simp) (by simp)
  have bel := (Below.refl w.heap.size w).alloc (Nat.le_refl _) (.cells #[] 59)
  have e0 : cat [] = ByteArray.empty := rfl
  rw [e0] at hP
  simp only [e0] at hAl
  clear own0 e0
  generalize w.alloc (.cells #[] 59) = wr at *
  refine wp_loop_rounds 1 ?_
  rw [rounds_succ]
  go_wp2_with fail
  refine hP.mono ?_
  rintro e w1 ⟨rfl, hb1⟩
  go_wp2_with fail
  refine (hAl _).mono ?_
  rintro e w2 ⟨m, rfl, ownm, hb2⟩
  obtain ⟨am, cm, rfl, m1, m2, m3⟩ := own_form ownm
  clear ownm m3
  simp only [List.length_nil] at *
  go_wp2_with (go_at_call 33; refine (awake5_any _).mono ?_; rintro e w3 ⟨rfl, hb3⟩)
  refine wp_loop_rounds 1 ?_
  rw [rounds_succ]
  go_wp2_with fail
  go_ret
  have bel1 := bel.trans (hb1.mono bel.size)
  have bel2 := bel1.trans (hb2.mono bel1.size)
  exact ⟨rfl, bel2.trans (hb3.mono bel2.size)⟩

theorem cputs_open {H : Type} {enc : TypeId × Value → H} {W : World} {base : Nat} {v0 : Value} {d0 : DataW H} {p0 : List MemPlace}
    (o0 : Value.okWide Try.prog W .any base 57 v0) (h0 : DataW.Trod enc Try.prog W 0 (fun _ => true) true 57 v0 d0 p0) :
    Calls Try.prog 8 #[v0] W fun e w' => e = .returned (.bool true) ∧ Below W.heap.size W w' := by
  rcases open_row 3 (sh := [.int .i64, .str]) Try.underlying57 (by kernel_rfl) (by kernel_rfl) (by decide) o0 h0 with rfl | ⟨a, len, cap, C, rfl, hlc, hcm, hab, hC⟩
  · exact cputs_nil W
  · have hx : ∀ i, ∃ x : Int × ByteArray, i < len → (W.cell? (a.add (i * 2)) = some (.int .i64 x.1) ∧ W.cell? { block := (a.add (i * 2)).block, off := (a.add (i * 2)).off + 1 } = some (.string x.2)) ∧ x.2.size ≤ maxLen := by
      intro i
      by_cases hi : i < len
      · obtain ⟨hF, hc⟩ := hC i hi
        obtain ⟨x, t, e, hw, hF'⟩ := hF.int
        obtain ⟨y, t', e', hw', hF''⟩ := hF'.str
        refine ⟨(x, y), fun _ => ⟨⟨?_, ?_⟩, hw'⟩⟩
        · have := hc 0 (.int .i64 x) (by rw [e]; rfl)
          simpa using this
        · have := hc 1 (.string y) (by rw [e, e']; rfl)
          rw [show ({ block := (a.add (i * 2)).block, off := (a.add (i * 2)).off + 1 } : Addr) = (a.add (i * 2)).add 1 from rfl, Addr.add_add]
          simpa using this
      · exact ⟨(0, ByteArray.empty), fun h => absurd h hi⟩
    have hs := fun i => Classical.choose_spec (hx i)
    exact cputs_law a len cap (fun i => (Classical.choose (hx i)).1) (fun i => (Classical.choose (hx i)).2) W hlc hcm ⟨hab, fun i hi => (hs i hi).1⟩ (fun i hi => (hs i hi).2)
end Go.Proofs.Ytlpklnjnfeodaaa.par
