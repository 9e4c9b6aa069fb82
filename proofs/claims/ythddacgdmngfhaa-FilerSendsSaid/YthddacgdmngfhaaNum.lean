/- Numbers as bytes and bytes as numbers are each other's. -/
import Derived.Test.YthddacgdmngfhaaPre
namespace Go.Proofs.Ythddacgdmngfhaa.oct
open Go.ChangeShapes Go.WideShapes Go.ChangeAt Go.RowKit kit

theorem numV_be : ∀ (k n : Nat), numV (strOfNums (be n k)).data.toList = n % 256 ^ k := by
  intro k
  induction k with
  | zero => intro n; simp [be, strOfNums_data, numV, Nat.mod_one]
  | succ k ih =>
    intro n
    have e : (strOfNums (be n (k + 1))).data.toList = (strOfNums (be ((n / 256 : Nat) : Int) k)).data.toList ++ [UInt8.ofNat (n % 256)] := by
      have e1 : ((n : Int) % 256).toNat = n % 256 := by omega
      simp only [strOfNums_data, be, List.map_append, List.map_cons, List.map_nil, e1]
      rfl
    have h2 : (UInt8.ofNat (n % 256)).toNat = n % 256 := by simp [UInt8.toNat_ofNat]
    rw [e, numV_snoc, ih, h2, Nat.pow_succ, Nat.mul_comm (256 ^ k) 256, Nat.mod_mul]
    omega

theorem be_numV (l : List UInt8) : be (numV l) l.length = l.map fun b => (b.toNat : Int) := by
  have key : ∀ (k : Nat) (l : List UInt8), l.length = k → be (numV l) k = l.map fun b => (b.toNat : Int) := by
    intro k
    induction k with
    | zero => intro l h; rw [List.length_eq_zero_iff.1 h]; rfl
    | succ k ih =>
      intro l h
      obtain ⟨m, b, rfl⟩ : ∃ m b, l = m ++ [b] := by
        rcases List.eq_nil_or_concat l with rfl | ⟨m, b, rfl⟩
        · simp at h
        · exact ⟨m, b, by simp⟩
      have hb := b.toNat_lt
      rw [numV_snoc, List.map_append, ← ih m (by simpa using h)]
      have e1 : ((numV m * 256 + b.toNat : Nat) : Int) / 256 = (numV m : Int) := by omega
      have e2 : ((numV m * 256 + b.toNat : Nat) : Int) % 256 = (b.toNat : Int) := by omega
      rw [be, e1, e2]
      rfl
  exact key _ l rfl

theorem str_map (s : ByteArray) : strOfNums (s.data.toList.map fun b => (b.toNat : Int)) = s := by
  apply ByteArray.ext
  apply Array.toList_inj.1
  rw [strOfNums_data, List.map_map]
  have : ((fun n : Int => UInt8.ofNat n.toNat) ∘ fun b : UInt8 => (b.toNat : Int)) = id := by funext b; simp
  rw [this, List.map_id]

theorem p4_of {s : ByteArray} (h : s.size = 4) : p4 (numV s.data.toList) = s := by
  have e := be_numV s.data.toList
  rw [len_data, h] at e
  unfold p4
  rw [e, str_map]
theorem p2_of {s : ByteArray} (h : s.size = 2) : p2 (numV s.data.toList) = s := by
  have e := be_numV s.data.toList
  rw [len_data, h] at e
  unfold p2
  rw [e, str_map]
theorem numV_p4 (n : Nat) (h : n ≤ 4294967295) : numV (p4 n).data.toList = n := by unfold p4; rw [numV_be]; omega
theorem numV_p2 (n : Nat) (h : n ≤ 65535) : numV (p2 n).data.toList = n := by unfold p2; rw [numV_be]; omega

/-- What is cut out of bytes that were put together. -/
theorem ext_left (a b : ByteArray) (n : Nat) (h : a.size = n) : (a ++ b).extract 0 n = a := by
  exact ByteArray.extract_append_eq_left h.symm
theorem ext_right (a b : ByteArray) (n m : Nat) (h : a.size = n) (hm : (a ++ b).size = m) : (a ++ b).extract n m = b := by
  exact ByteArray.extract_append_eq_right h.symm (by rw [← hm, ByteArray.size_append])
theorem take_data (l : ByteArray) (k : Nat) : l.data.toList.take k = (l.extract 0 k).data.toList := by simp
end Go.Proofs.Ythddacgdmngfhaa.oct
