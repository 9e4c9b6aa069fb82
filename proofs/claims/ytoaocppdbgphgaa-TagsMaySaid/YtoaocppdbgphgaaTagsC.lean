/- Which chunks may come in which state (tags.May), for every type of 8 bits and every state. No further condition. -/
import Derived.Test.YtoaocppdbgphgaaTagsB
import Derived.LoopTactic
import Derived.Outline
namespace Go.Proofs.Ytoaocppdbgphgaa.tags
open Go.ChangeShapes Go.WideShapes Go.ChangeAt Go.RowKit kit
set_option maxRecDepth 100000 in
theorem awake_any (w : World) : Calls Try.prog 26 #[] w fun e w' => e = .returned (.bool true) ∧ Below w.heap.size w w' := by
  go_enter Try.func26, Try.ntmps26
  go_wp2
  go_ret
  exact ⟨rfl, by repeat (first | exact Below.refl _ _ | (refine Below.alloc ?_ (by simp; try omega) _))⟩
set_option maxRecDepth 100000 in
set_option maxHeartbeats 800000 in
theorem law_any (t : Int) (w : World) : Calls Try.prog 7 #[.int .i64 t] w fun e w' => e = .returned (.bool true) ∧ Below w.heap.size w w' := by
  obtain ⟨n, hn⟩ : ∃ n : Nat, (n : Int) = t % 256 := ⟨(t % 256).toNat, by omega⟩
  have e1 : bits .and .i64 t 255 = (n : Int) := (i64_mask t 8 (by omega)).trans hn.symm
  clear hn
  go_enter Try.func7, Try.ntmps7
  go_wp2
  go_loopw [3] (fun st wr => ∃ k : Nat, k ≤ 8 ∧ st = .int .i64 k ∧ Below w.heap.size w wr) (fun st _ => 8 - (intOf st).toNat)
  case atStart => exact ⟨0, by omega, rfl, Below.refl _ _⟩
  case round =>
    obtain ⟨k, hk, rfl, hb⟩ := hrel
    by_cases hlt : k < 8
    · go_wp2_with (first | (go_at_call 24; refine (may_any _ _ _ (by omega) (by omega)).mono ?_; rintro e w1 ⟨rfl, hb1⟩) | (go_at_call 25; refine (law_may _ _ _).mono ?_; rintro e w' ⟨rfl, rfl⟩))
      go_roundw
      case rel => exact ⟨k + 1, by omega, by go_num, hb.trans (hb1.mono hb.size)⟩
      case measure => simp [intOf]; omega
    · go_wp2_with (go_at_call 26; refine (awake_any _).mono ?_; rintro e w1 ⟨rfl, hb1⟩)
      go_ret
      exact ⟨rfl, hb.trans (hb1.mono hb.size)⟩
end Go.Proofs.Ytoaocppdbgphgaa.tags
