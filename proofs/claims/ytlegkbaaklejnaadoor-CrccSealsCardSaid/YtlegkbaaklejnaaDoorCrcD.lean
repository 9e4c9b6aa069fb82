/- Layer 2: the statement that a check stands where it is put, of all with noughts there: walked. -/
import Derived.Test.YtlegkbaaklejnaaDoorCrcC
import Derived.Deep.QuietTactic
import Derived.BigQuiet
import Derived.BigRegion
import Derived.RegionTactic
namespace Go.Proofs.YtlegkbaaklejnaaDoor.crc
open Go.ChangeShapes Go.WideShapes Go.ChangeAt Go.RowKit kit byt

set_option maxRecDepth 100000 in
set_option maxHeartbeats 1000000 in
theorem seals_no (s : ByteArray) (a : Int) (w : World) (H : Halves w) (hs : s.size ≤ maxLen) (h : ¬ (0 ≤ a ∧ a + 4 ≤ (few s).size)) : Calls Tryd.prog 4 #[.string s, .int .i64 a] w fun e w' => e = .returned (.bool true) ∧ Below w.heap.size w w' := by
  have hf := few_size s
  have hf' : (few s).size ≤ maxLen := by unfold maxLen; omega
  have hSe := fun w => seal_no (few s) a w hf' h
  have hSd := fun w => sealed_no (few s) a w hf' h
  have hFe := fun w => few_any s w hs
  have HH := Lib.hid H
  clear H hf' hs
  generalize few s = t at *
  by_cases h0 : a < 0
  · have hd : decide (a < 0) = true := decide_eq_true h0
    clear h
    go_enter Tryd.func4, Tryd.ntmps4
    go_wp2_with fail
    refine (hFe _).mono ?_
    rintro e w1 ⟨rfl, rfl⟩
    go_wp2_with fail
    refine (hSe _).mono ?_
    rintro e w1 ⟨rfl, rfl⟩
    go_wp2_with fail
    refine (awake_any _ HH.out).mono ?_
    rintro e w1 ⟨rfl, hb⟩
    go_wp2_with fail
    refine (hSd _).mono ?_
    rintro e w2 ⟨rfl, rfl⟩
    go_wp2
    go_ret
    exact ⟨rfl, hb⟩
  · have hd : decide (a < 0) = false := decide_eq_false h0
    by_cases h1 : t.size < 4
    · clear h
      go_enter Tryd.func4, Tryd.ntmps4
      go_wp2_with fail
      refine (hFe _).mono ?_
      rintro e w1 ⟨rfl, rfl⟩
      go_wp2_with fail
      refine (hSe _).mono ?_
      rintro e w1 ⟨rfl, rfl⟩
      go_wp2_with fail
      refine (awake_any _ HH.out).mono ?_
      rintro e w1 ⟨rfl, hb⟩
      go_wp2_with fail
      refine (hSd _).mono ?_
      rintro e w2 ⟨rfl, rfl⟩
      go_wp2
      go_ret
      exact ⟨rfl, hb⟩
    · have h2 : (t.size : Int) - 4 < a := by omega
      clear h
      go_enter Tryd.func4, Tryd.ntmps4
      go_wp2_with fail
      refine (hFe _).mono ?_
      rintro e w1 ⟨rfl, rfl⟩
      go_wp2_with fail
      refine (hSe _).mono ?_
      rintro e w1 ⟨rfl, rfl⟩
      go_wp2_with fail
      refine (awake_any _ HH.out).mono ?_
      rintro e w1 ⟨rfl, hb⟩
      go_wp2_with fail
      refine (hSd _).mono ?_
      rintro e w2 ⟨rfl, rfl⟩
      go_wp2
      go_ret
      exact ⟨rfl, hb⟩
end Go.Proofs.YtlegkbaaklejnaaDoor.crc
