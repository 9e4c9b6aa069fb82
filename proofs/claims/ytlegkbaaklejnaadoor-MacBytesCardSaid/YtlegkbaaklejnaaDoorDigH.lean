/- Layer 8: the statements on digests, walked. -/
import Derived.Test.YtlegkbaaklejnaaDoorDigG
import Derived.Test.YtlegkbaaklejnaaDoorByt
import Derived.Lib.LaidTab
import Derived.Stop.LaidErr
namespace Go.Proofs.YtlegkbaaklejnaaDoor.dig
open Go.ChangeShapes Go.WideShapes Go.ChangeAt Go.RowKit kit byt
open crc (ones xor_ones word)
open oct

theorem digS_size (s : ByteArray) : (digS s).size = 20 := by unfold digS; simp [ByteArray.size, dig_len]
theorem abc : digS ⟨#[97, 98, 99]⟩ = ⟨#[169, 153, 62, 54, 71, 6, 129, 106, 186, 62, 37, 113, 120, 80, 194, 108, 156, 208, 216, 157]⟩ := by
  unfold digS
  show (⟨(dig [97, 98, 99]).toArray⟩ : ByteArray) = _
  rw [dig_abc]
set_option maxRecDepth 100000 in
theorem awake8 (w : World) (S0 : Starts w) (A : Added w) : Calls Tryd.prog 18 #[] w fun e w' => e = .returned (.bool true) ∧ Below w.heap.size w w' := by
  have h := of_dig ⟨#[97, 98, 99]⟩ w S0 A (by decide)
  rw [abc] at h
  go_enter Tryd.func18, Tryd.ntmps18
  go_wp2_with fail
  refine h.mono ?_
  rintro e w1 ⟨rfl, hb⟩
  go_wp2
  go_ret
  exact ⟨rfl, hb⟩

def few (s : ByteArray) : ByteArray := s.extract 0 (min s.size 1000)
theorem few_size (s : ByteArray) : (few s).size ≤ 1000 := by unfold few; rw [ByteArray.size_extract]; omega
set_option maxRecDepth 100000 in
set_option maxHeartbeats 1000000 in
theorem dig_law (s : ByteArray) (w : World) (S0 : Starts w) (A : Added w) (hs : s.size ≤ maxLen) : Calls Tryd.prog 6 #[.string s] w fun e w' => e = .returned (.bool true) ∧ Below w.heap.size w w' := by
  have hf := few_size s
  have HS := Lib.hid S0
  have HA := Lib.hid A
  have hOf := fun w S0 A => of_dig (few s) w S0 A (by omega)
  have hRf := fun w => ref_dig (few s) w (by omega)
  have hz := digS_size (few s)
  have HZ := Lib.hid hz
  have hz2 : 20 ≤ (digS (few s)).size := by omega
  have hz3 : (digS (few s)).size ≤ 20 := by omega
  unfold maxLen at hs
  clear S0 A hz
  obtain ⟨X, hX⟩ : ∃ X, few s = X := ⟨_, rfl⟩
  have hX2 : s.extract 0 (min (s.size : Int) 1000).toNat = X := by rw [← hX]; unfold few; congr 1; omega
  rw [hX] at hOf hRf hz2 hz3
  clear hX HZ hf
  generalize digS X = D at *
  go_enter Tryd.func6, Tryd.ntmps6
  go_wp2_with fail
  refine (awake8 w HS.out HA.out).mono ?_
  rintro e w1 ⟨rfl, hb1⟩
  clear hX2
  go_wp2_with fail
  refine (hOf _ (HS.out.below hb1) (HA.out.below hb1)).mono ?_
  rintro e w2 ⟨rfl, hb2⟩
  have b2 := hb1.trans (hb2.mono hb1.size)
  go_wp2_with fail
  refine (hRf _).mono ?_
  rintro e w3 ⟨rfl, hb3⟩
  have b3 := b2.trans (hb3.mono b2.size)
  go_wp2_with fail
  refine (hOf _ (HS.out.below b3) (HA.out.below b3)).mono ?_
  rintro e w4 ⟨rfl, hb4⟩
  clear hOf hRf
  go_wp2
  go_ret
  refine ⟨?_, b3.trans (hb4.mono b3.size)⟩
  simp
  omega

/-- What the row's condition gives. -/
theorem starts_of {W : World} {rest : List (String × DataW Unit)} (h : laidMet Tryd.prog (("crossway/digest.starts", Rows.laid_crossway_digest_starts) :: rest) W) : Starts W := by
  have hT := Lib.tabIs_of_head (P := Tryd.prog) (zs := [start.a, start.b, start.c, start.d, start.e].map fun n => ((n : Nat) : Int)) (k := .u32) (show Tryd.prog.globalNamed "crossway/digest.starts" = some 0 by kernel_rfl) (show (Tryd.prog.globals[0]?).map (·.type) = some 46 by kernel_rfl) Tryd.underlying46 Tryd.underlying23 (by kernel_rfl) (by kernel_rfl) h
  intro i hi
  have := hT.cell (by kernel_rfl : Tryd.prog.globalNamed "crossway/digest.starts" = some 0) i hi
  rw [this]
  rcases (by omega : i = 0 ∨ i = 1 ∨ i = 2 ∨ i = 3 ∨ i = 4) with rfl | rfl | rfl | rfl | rfl <;> rfl
theorem added_of {W : World} {rest : List (String × DataW Unit)} (h : laidMet Tryd.prog (("crossway/digest.added", Rows.laid_crossway_digest_added) :: rest) W) : Added W := by
  have hT := Lib.tabIs_of_head (P := Tryd.prog) (zs := adL.map fun n => ((n : Nat) : Int)) (k := .u32) (show Tryd.prog.globalNamed "crossway/digest.added" = some 2 by kernel_rfl) (show (Tryd.prog.globals[2]?).map (·.type) = some 65 by kernel_rfl) Tryd.underlying65 Tryd.underlying23 (by kernel_rfl) (by kernel_rfl) h
  intro i hi
  have := hT.cell (by kernel_rfl : Tryd.prog.globalNamed "crossway/digest.added" = some 2) i hi
  rw [this]
  rcases (by omega : i = 0 ∨ i = 1 ∨ i = 2 ∨ i = 3) with rfl | rfl | rfl | rfl <;> rfl
theorem laid_both {W : World} {rest : List (String × DataW Unit)} (h : laidMet Tryd.prog (("crossway/digest.starts", Rows.laid_crossway_digest_starts) :: ("crossway/digest.added", Rows.laid_crossway_digest_added) :: rest) W) : Starts W ∧ Added W := ⟨starts_of h, added_of (laidMet.tail h)⟩
end Go.Proofs.YtlegkbaaklejnaaDoor.dig
