/- The document's own reader: numbers, what fills up, the end. -/
import Derived.Test.YthddacgdmngfhaaRef3C
import Derived.Test.YthddacgdmngfhaaReadB
namespace Go.Proofs.Ythddacgdmngfhaa.oct
open Go.ChangeShapes Go.WideShapes Go.ChangeAt Go.RowKit kit

theorem tkR_le (S : ByteArray) (e : Int) (k : Nat) : (tkR S e k).size ≤ k := by
  unfold tkR; split
  · simp
  · split
    · simp; omega
    · simp
theorem numV_step (T : ByteArray) (i : Nat) (hb : i < T.size) : numV (T.data.toList.take (i + 1)) = numV (T.data.toList.take i) * 256 + T[i].toNat := by
  have e2 : T.data.toList.take (i + 1) = T.data.toList.take i ++ [T[i]] := by
    rw [List.take_succ_eq_append_getElem (by have := len_data T; omega)]
    simp [ByteArray.getElem_eq_getElem_data]
  rw [e2, numV_snoc]

/-- What the document's filling up leaves. -/
def rfV (S' : ByteArray) (e' : Int) (T : ByteArray) : Value := if T = zeros T.size then .agg #[.string S', .int .i64 e'] else .agg #[.string (rfS S' e'), .int .i64 (rfE e' 4)]

theorem zeros_get (k i : Nat) (h : i < (zeros k).size) : (zeros k)[i].toNat = 0 := by
  unfold zeros strOfNums at *
  simp [ByteArray.getElem_eq_getElem_data]

theorem zeros_of (T : ByteArray) (h : ∀ j, (hj : j < T.size) → T[j].toNat = 0) : T = zeros T.size := by
  apply ByteArray.ext
  apply Array.ext
  · show T.size = (zeros T.size).size
    rw [zeros_size]
  · intro i h1 h2
    have a := h i h1
    have b := zeros_get T.size i h2
    rw [ByteArray.getElem_eq_getElem_data] at a b
    exact UInt8.toNat_inj.1 (a.trans b.symm)

end Go.Proofs.Ythddacgdmngfhaa.oct
