/- Layer 19: a message in parts: the law. -/
import Derived.Test.YthddacgdmngfhaaFraC
namespace Go.Proofs.Ythddacgdmngfhaa.fra
open Go.Sort (grow)
open Go.ChangeShapes Go.WideShapes Go.ChangeAt Go.RowKit kit
set_option maxRecDepth 100000

theorem ext_min (D : ByteArray) (a b : Nat) : D.extract a b = D.extract a (min b D.size) := by
  apply ByteArray.ext
  simp only [ByteArray.data_extract]
  apply Array.ext'
  simp only [Array.toList_extract, List.extract_eq_take_drop]
  apply List.ext_getElem?
  intro k
  have hl : D.data.toList.length = D.size := by simp
  simp only [List.getElem?_take, List.getElem?_drop]
  by_cases hk : a + k < D.size
  · by_cases hz : k < b - a
    · rw [if_pos hz, if_pos (by omega)]
    · rw [if_neg hz, if_neg (by omega)]
  · have : D.data.toList[a + k]? = none := List.getElem?_eq_none (by omega)
    rw [this]
    simp
theorem szC : (Try.prog.info? 40).map (·.size) = some 15 := by kernel_rfl
theorem split_any (st ss pr size : Int) (lo : Bool) (D : ByteArray) (z : Nat) (F : Int) (hz : (z : Int) = max 1 size) (hF : F = if lo then 4 else 0) (h1 : -9223372036854775808 ≤ size) (h2 : size ≤ 9223372036854775807) (hD : D.size ≤ 100000) (w : World) :
    Calls Try.prog 21 #[.agg (ms st ss lo pr D), .int .i64 size] w fun e w' => Splits w.heap.size F st ss pr D z e w' ∧ Below w.heap.size w w' := by
  subst hF
  by_cases hs : 1 < size
  · cases lo
    · exact split_pos_false w.heap.size z st ss pr size D hs (by omega) h2 hD w (Nat.le_refl _)
    · exact split_pos_true w.heap.size z st ss pr size D hs (by omega) h2 hD w (Nat.le_refl _)
  · cases lo
    · exact split_low_false w.heap.size z st ss pr size D hs (by omega) h1 hD w (Nat.le_refl _)
    · exact split_low_true w.heap.size z st ss pr size D hs (by omega) h1 hD w (Nat.le_refl _)
theorem Parts.below {b0 B : Nat} {f st ss pr : Int} {D : ByteArray} {z n : Nat} {v : Value} {w w' : World} (hp : Parts b0 f st ss pr D z n v w) (hb : Below B w w') (hB : w.heap.size ≤ B) : Parts b0 f st ss pr D z n v w' := by
  rcases hp with h | ⟨h, cap, e, h1, h2, h3, h4, K⟩
  · exact Or.inl h
  · exact Or.inr ⟨h, cap, e, h1, h2, h3, h4, fun i hi => (K i hi).below hb (Nat.lt_of_lt_of_le (K i hi).lt hB)⟩
def L3 : ByteArray := ⟨#[97, 98, 99]⟩
/-- Where a part ends. -/
theorem part_ends (i z n s : Nat) (hn : n = min z 900) (hz : 1 ≤ z) (hs : s ≤ 900) (hi : i * z < s) : min (i * z + n) s = min ((i + 1) * z) s ∧ i * z < min (i * z + n) s := by
  rw [Nat.succ_mul]
  rcases Nat.eq_zero_or_pos i with rfl | hp
  · rw [Nat.zero_mul] at *
    omega
  · have h := Nat.le_mul_of_pos_left z hp
    omega
end Go.Proofs.Ythddacgdmngfhaa.fra
