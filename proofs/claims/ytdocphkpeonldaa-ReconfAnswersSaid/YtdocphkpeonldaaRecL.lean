/- Layer 28: what the statement asks of any parameter, in words of numbers. -/
import Derived.Test.YtdocphkpeonldaaRecK
import Derived.Test.YtdocphkpeonldaaRef3
namespace Go.Proofs.Ytdocphkpeonldaa.rec_
open Go.Sort (grow)
open Go.ChangeShapes Go.WideShapes Go.ChangeAt Go.RowKit kit oct
set_option maxRecDepth 100000

theorem rdN_cut (l : ByteArray) (k : Nat) (h : k ≤ l.size) : rdN l k = numV (l.extract 0 k).data.toList := by
  unfold rdN
  rw [if_pos h, take_data]
theorem ext_ext (T : ByteArray) (a b c d : Nat) (h : a + d ≤ b) : (T.extract a b).extract c d = T.extract (a + c) (a + d) := by
  apply ByteArray.ext
  simp only [ByteArray.data_extract, Array.extract_extract]
  rw [Nat.min_eq_left h]
theorem s46 {T : ByteArray} (h : T.size = 8) : T.extract 4 6 = p2 (n1 T) := by
  unfold n1
  rw [(rd_in (show 4 ≤ T.size by omega)).1, rdN_cut _ 2 (by rw [ext_sz]; omega), h, ext_ext T 4 8 0 2 (by omega)]
  exact (p2_of (by rw [ByteArray.size_extract]; omega)).symm
theorem s68 {T : ByteArray} (h : T.size = 8) : T.extract 6 8 = p2 (n2 T) := by
  unfold n2
  have z : (T.extract 4 T.size).size = 4 := by rw [ext_sz]; omega
  rw [(rd_in (show 4 ≤ T.size by omega)).1, (rd_in (show 4 ≤ T.size by omega)).2, (rd_in (show 2 ≤ (T.extract 4 T.size).size by omega)).1, z, h, ext_ext T 4 8 2 4 (by omega), rdN_cut _ 2 (by rw [ByteArray.size_extract]; omega), ext_ext T 6 8 0 2 (by omega)]
  exact (p2_of (by rw [ByteArray.size_extract]; omega)).symm
theorem s48 {T : ByteArray} (h : T.size = 8) : T.extract 4 8 = p4 (n4 T) := by
  unfold n4
  rw [(rd_in (show 4 ≤ T.size by omega)).1, h, rdN_cut _ 4 (by rw [ByteArray.size_extract]; omega), ext_ext T 4 8 0 4 (by omega)]
  exact (p4_of (by rw [ByteArray.size_extract]; omega)).symm
theorem p2_zero {a : Nat} (h : a ≤ 65535) : p2 a = ⟨#[0, 0]⟩ ↔ a = 0 := by
  constructor
  · intro e
    have := numV_p2 a h
    rw [e] at this
    exact this.symm
  · rintro rfl
    rfl
theorem p4_lit {a k : Nat} (h : a ≤ 4294967295) (hk : k ≤ 4294967295) : p4 a = p4 k ↔ a = k := by
  constructor
  · intro e
    have := numV_p4 a h
    rw [e, numV_p4 k hk] at this
    exact this.symm
  · rintro rfl
    rfl
theorem p2_zl {a : Nat} (h : a ≤ 65535) : ((p2 a).toList = [0, 0]) ↔ a = 0 := by
  rw [← p2_zero h, ByteArray.toList_eq]
  constructor
  · intro e
    exact ByteArray.ext (Array.ext' e)
  · intro e
    rw [e]
theorem p4_zl {a : Nat} (h : a ≤ 4294967295) : (((p4 a).toList = [0, 0, 0, 1]) ↔ a = 1) ∧ (((p4 a).toList = [0, 0, 0, 2]) ↔ a = 2) := by
  have e1 : p4 1 = ⟨#[0, 0, 0, 1]⟩ := rfl
  have e2 : p4 2 = ⟨#[0, 0, 0, 2]⟩ := rfl
  have k1 := p4_lit (a := a) (k := 1) h (by omega)
  have k2 := p4_lit (a := a) (k := 2) h (by omega)
  rw [← k1, ← k2, ByteArray.toList_eq]
  constructor
  · constructor
    · intro e
      exact (ByteArray.ext (Array.ext' e)).trans e1.symm
    · intro e
      rw [show p4 (a : Int) = ⟨#[0, 0, 0, 1]⟩ from e.trans e1]
  · constructor
    · intro e
      exact (ByteArray.ext (Array.ext' e)).trans e2.symm
    · intro e
      rw [show p4 (a : Int) = ⟨#[0, 0, 0, 2]⟩ from e.trans e2]
theorem put2 (n : Nat) (hn : n ≤ 65535) (w : World) : Calls Try.prog 20 #[.int .u64 n, .int .i64 2] w fun e w' => e = .returned (.string (p2 n)) ∧ Below w.heap.size w w' :=
  put_at 2 n 2 w rfl (by omega) (by omega) (by omega)
theorem four_any (n : Nat) (hn : n ≤ 4294967295) (w : World) : Calls Try.prog 21 #[.int .u32 n] w fun e w' => e = .returned (.string (p4 n)) ∧ Below w.heap.size w w' := by
  go_enter Try.func21, Try.ntmps21
  go_wp2_with fail
  refine (put_at 4 _ 4 _ rfl (by omega) (by omega) (by omega)).mono ?_
  rintro e w1 ⟨rfl, hb⟩
  go_wp2_with fail
  go_ret
  exact ⟨rfl, hb⟩
end Go.Proofs.Ytdocphkpeonldaa.rec_
