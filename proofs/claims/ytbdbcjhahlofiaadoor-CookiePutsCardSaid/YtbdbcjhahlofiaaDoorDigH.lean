/- Layer 8: the statements on digests, walked. -/
import Derived.Test.YtbdbcjhahlofiaaDoorDigG
import Derived.Test.YtbdbcjhahlofiaaDoorByt
import Derived.Lib.LaidTab
import Derived.Stop.LaidErr
namespace Go.Proofs.YtbdbcjhahlofiaaDoor.dig
open Go.ChangeShapes Go.WideShapes Go.ChangeAt Go.RowKit kit byt
open crc (ones xor_ones word)
open oct

theorem digS_size (s : ByteArray) : (digS s).size = 20 := by unfold digS; simp [ByteArray.size, dig_len]
theorem abc : digS ⟨#[97, 98, 99]⟩ = ⟨#[169, 153, 62, 54, 71, 6, 129, 106, 186, 62, 37, 113, 120, 80, 194, 108, 156, 208, 216, 157]⟩ := by
  unfold digS
  show (⟨(dig [97, 98, 99]).toArray⟩ : ByteArray) = _
  rw [dig_abc]

def few (s : ByteArray) : ByteArray := s.extract 0 (min s.size 1000)
theorem few_size (s : ByteArray) : (few s).size ≤ 1000 := by unfold few; rw [ByteArray.size_extract]; omega

/-- What the row's condition gives. -/
theorem starts_of {W : World} {rest : List (String × DataW Unit)} (h : laidMet Tryd.prog (("crossway/digest.starts", Rows.laid_crossway_digest_starts) :: rest) W) : Starts W := by
  have hT := Lib.tabIs_of_head (P := Tryd.prog) (zs := [start.a, start.b, start.c, start.d, start.e].map fun n => ((n : Nat) : Int)) (k := .u32) (show Tryd.prog.globalNamed "crossway/digest.starts" = some 0 by kernel_rfl) (show (Tryd.prog.globals[0]?).map (·.type) = some 65 by kernel_rfl) Tryd.underlying65 Tryd.underlying22 (by kernel_rfl) (by kernel_rfl) h
  intro i hi
  have := hT.cell (by kernel_rfl : Tryd.prog.globalNamed "crossway/digest.starts" = some 0) i hi
  rw [this]
  rcases (by omega : i = 0 ∨ i = 1 ∨ i = 2 ∨ i = 3 ∨ i = 4) with rfl | rfl | rfl | rfl | rfl <;> rfl
theorem added_of {W : World} {rest : List (String × DataW Unit)} (h : laidMet Tryd.prog (("crossway/digest.added", Rows.laid_crossway_digest_added) :: rest) W) : Added W := by
  have hT := Lib.tabIs_of_head (P := Tryd.prog) (zs := adL.map fun n => ((n : Nat) : Int)) (k := .u32) (show Tryd.prog.globalNamed "crossway/digest.added" = some 1 by kernel_rfl) (show (Tryd.prog.globals[1]?).map (·.type) = some 111 by kernel_rfl) Tryd.underlying111 Tryd.underlying22 (by kernel_rfl) (by kernel_rfl) h
  intro i hi
  have := hT.cell (by kernel_rfl : Tryd.prog.globalNamed "crossway/digest.added" = some 1) i hi
  rw [this]
  rcases (by omega : i = 0 ∨ i = 1 ∨ i = 2 ∨ i = 3) with rfl | rfl | rfl | rfl <;> rfl
theorem laid_both {W : World} {rest : List (String × DataW Unit)} (h : laidMet Tryd.prog (("crossway/digest.starts", Rows.laid_crossway_digest_starts) :: ("crossway/digest.added", Rows.laid_crossway_digest_added) :: rest) W) : Starts W ∧ Added W := ⟨starts_of h, added_of (laidMet.tail h)⟩
end Go.Proofs.YtbdbcjhahlofiaaDoor.dig
