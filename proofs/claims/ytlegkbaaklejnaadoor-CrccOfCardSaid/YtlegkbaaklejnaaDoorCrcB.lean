/- Layer 2: the statement that the check is the document's, bit by bit: walked. -/
import Derived.Test.YtlegkbaaklejnaaDoorCrcA
namespace Go.Proofs.YtlegkbaaklejnaaDoor.crc
open Go.ChangeShapes Go.WideShapes Go.ChangeAt Go.RowKit kit

def few (s : ByteArray) : ByteArray := s.extract 0 (min s.size 1500)
theorem few_size (s : ByteArray) : (few s).size ≤ 1500 := by unfold few; rw [ByteArray.size_extract]; omega

set_option maxRecDepth 100000 in
theorem few_any (s : ByteArray) (w : World) (hs : s.size ≤ maxLen) : Calls Tryd.prog 14 #[.string s] w fun e w' => e = .returned (.string (few s)) ∧ w = w' := by
  unfold maxLen at hs
  by_cases h : s.size ≤ 1500
  · have e := Lib.hid (show few s = s by unfold few; rw [Nat.min_eq_left h]; simp)
    go_enter Tryd.func14, Tryd.ntmps14
    go_wp2
    go_ret
    rw [e.out]
    exact ⟨rfl, rfl⟩
  · have e := Lib.hid (show few s = s.extract 0 1500 by unfold few; rw [Nat.min_eq_right (by omega)])
    go_enter Tryd.func14, Tryd.ntmps14
    go_wp2
    go_ret
    rw [e.out]
    exact ⟨rfl, rfl⟩

theorem nine : ofS ⟨#[49, 50, 51, 52, 53, 54, 55, 56, 57]⟩ = 3808858755 := by decide +kernel
theorem awake_any (w : World) (H : Halves w) : Calls Tryd.prog 12 #[] w fun e w' => e = .returned (.bool true) ∧ Below w.heap.size w w' := by
  have h := of_any ⟨#[49, 50, 51, 52, 53, 54, 55, 56, 57]⟩ w H (by decide)
  rw [nine] at h
  go_enter Tryd.func12, Tryd.ntmps12
  go_wp2_with fail
  refine h.mono ?_
  rintro e w1 ⟨rfl, hb⟩
  go_wp2
  go_ret
  exact ⟨rfl, hb⟩

set_option maxRecDepth 100000 in
theorem law_of (s : ByteArray) (w : World) (H : Halves w) (hs : s.size ≤ maxLen) : Calls Tryd.prog 3 #[.string s] w fun e w' => e = .returned (.bool true) ∧ Below w.heap.size w w' := by
  have hf := few_size s
  have hf' : (few s).size ≤ maxLen := by unfold maxLen; omega
  go_enter Tryd.func3, Tryd.ntmps3
  go_wp2_with fail
  refine (awake_any w H).mono ?_
  rintro e w1 ⟨rfl, hb1⟩
  go_wp2_with fail
  refine (few_any s _ hs).mono ?_
  rintro e w2 ⟨rfl, rfl⟩
  go_wp2_with fail
  refine (of_any _ _ (H.below hb1) hf').mono ?_
  rintro e w2 ⟨rfl, hb2⟩
  go_wp2_with fail
  refine (few_any s _ hs).mono ?_
  rintro e w3 ⟨rfl, rfl⟩
  go_wp2_with fail
  refine (ref_any _ _ hf').mono ?_
  rintro e w3 ⟨rfl, rfl⟩
  go_wp2_with fail
  go_ret
  exact ⟨by simp, hb1.trans (hb2.mono hb1.size)⟩

/-- What the row's condition gives. -/
theorem halves_of {W : World} {rest : List (String × DataW Unit)} (h : laidMet Tryd.prog (("crossway/crcc.halves", Rows.laid_crossway_crcc_halves) :: rest) W) : Halves W := by
  have hT := Lib.tabIs_of_head (P := Tryd.prog) (zs := hv.map fun n => ((n : Nat) : Int)) (k := .u32) (show Tryd.prog.globalNamed "crossway/crcc.halves" = some 1 by kernel_rfl) (show (Tryd.prog.globals[1]?).map (·.type) = some 61 by kernel_rfl) Tryd.underlying61 Tryd.underlying23 (by kernel_rfl) (by kernel_rfl) h
  intro i hi
  have := hT.cell (by kernel_rfl : Tryd.prog.globalNamed "crossway/crcc.halves" = some 1) i hi
  rw [this]
  have e : (hv.map fun n => ((n : Nat) : Int)).getD i 0 = ((hv.getD i 0 : Nat) : Int) := by
    have : ∀ i, i < 16 → (hv.map fun n => ((n : Nat) : Int)).getD i 0 = ((hv.getD i 0 : Nat) : Int) := by decide
    exact this i hi
  rw [e]; rfl
end Go.Proofs.YtlegkbaaklejnaaDoor.crc
