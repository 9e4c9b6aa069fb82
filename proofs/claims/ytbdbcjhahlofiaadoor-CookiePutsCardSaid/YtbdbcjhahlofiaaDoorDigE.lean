/- Layer 8: bytes as whole blocks. -/
import Derived.Test.YtbdbcjhahlofiaaDoorDigD
namespace Go.Proofs.YtbdbcjhahlofiaaDoor.dig
open Go.ChangeShapes Go.WideShapes Go.ChangeAt Go.RowKit kit
open crc (ones xor_ones word)
open oct

theorem data_nums (l : List Int) : (strOfNums l).data.toList = l.map fun n => UInt8.ofNat n.toNat := by simp [strOfNums]
theorem be4_data (n : Nat) : (strOfNums (be n 4)).data.toList = b4 n := by
  rw [data_nums]
  simp only [be, List.nil_append, List.cons_append, List.map_cons, List.map_nil, b4]
  have e1 : ((n : Int) / 256 / 256 / 256 % 256).toNat = n / 16777216 % 256 := by omega
  have e2 : ((n : Int) / 256 / 256 % 256).toNat = n / 65536 % 256 := by omega
  have e3 : ((n : Int) / 256 % 256).toNat = n / 256 % 256 := by omega
  have e4 : ((n : Int) % 256).toNat = n % 256 := by omega
  rw [e1, e2, e3, e4]
theorem be8_data (n : Nat) : (strOfNums (be n 8)).data.toList = b8 n := by
  have h1 := be4_data (n / 4294967296)
  have h2 := be4_data n
  rw [data_nums] at h1 h2 ⊢
  unfold b8
  rw [← h1, ← h2, ← List.map_append]
  congr 1
  have e : ((n / 4294967296 : Nat) : Int) = (n : Int) / 256 / 256 / 256 / 256 := by omega
  rw [e]
  simp only [be, List.nil_append, List.cons_append]
theorem zeros_data (n : Nat) : (zeros n).data.toList = List.replicate n 0 := by
  unfold zeros
  rw [data_nums, List.map_replicate]
  rfl
/-- Bytes as whole blocks. -/
def pad (s : ByteArray) : ByteArray := s ++ ⟨#[128]⟩ ++ zeros ((119 - s.size % 64) % 64) ++ strOfNums (be ((8 * s.size : Nat) : Int) 8)
theorem pad_data (s : ByteArray) : (pad s).data.toList = padL s.data.toList := by
  unfold pad padL
  rw [ByteArray.data_append, ByteArray.data_append, ByteArray.data_append, Array.toList_append, Array.toList_append, Array.toList_append, be8_data, zeros_data]
  have : s.data.toList.length = s.size := by simp
  rw [this]
  simp
theorem pad_size (s : ByteArray) : (pad s).size = s.size + 1 + (119 - s.size % 64) % 64 + 8 := by
  unfold pad
  rw [ByteArray.size_append, ByteArray.size_append, ByteArray.size_append, zeros_size, strOfNums_size, be_length]
  rfl

set_option maxRecDepth 100000 in
theorem u64_any (n : Int) (w : World) (h0 : 0 ≤ n) (h1 : n ≤ 18446744073709551615) : Calls Tryd.prog 20 #[.int .u64 n] w fun e w' => e = .returned (.string (strOfNums (be n 8))) ∧ Below w.heap.size w w' := by
  have h := fun w => bytes8 n w h0 h1
  clear h0 h1
  go_enter Tryd.func20, Tryd.ntmps20
  go_wp2_with fail
  refine (h _).mono ?_
  rintro e w1 ⟨rfl, hb⟩
  clear h
  go_wp2
  go_ret
  exact ⟨rfl, hb⟩

set_option maxRecDepth 100000 in
set_option maxHeartbeats 1000000 in
theorem closed_any (s : ByteArray) (w : World) (hs : s.size ≤ 1000000) : Calls Tryd.prog 47 #[.string s] w fun e w' => e = .returned (.string (pad s)) ∧ Below w.heap.size w w' := by
  obtain ⟨z, hz⟩ : ∃ z, (119 - s.size % 64) % 64 = z := ⟨_, rfl⟩
  have hz64 : z < 64 := by omega
  have h := fun w => Tryd.strings_Repeat (strOfNums [0]) z w (by omega) (by rw [strOfNums_size]; simp; omega)
  have e0 : (strOfNums [0]).data.toList = [0] := rfl
  rw [e0, repeat_zeros] at h
  have hq : (119 - (s.size : Int) % 64) % 64 = (z : Int) := by omega
  have h8 := fun w => u64_any ((8 * s.size : Nat) : Int) w (by omega) (by omega)
  have HP := Lib.hid (show pad s = s ++ ⟨#[128]⟩ ++ zeros z ++ strOfNums (be ((8 * s.size : Nat) : Int) 8) by unfold pad; rw [hz])
  have hc : ((8 * s.size : Nat) : Int) = (s.size : Int) * 8 := by omega
  have hzs : (zeros z).size ≤ 64 := by rw [zeros_size]; omega
  have h8s : (strOfNums (be ((8 * s.size : Nat) : Int) 8)).size ≤ 8 := by rw [strOfNums_size, be_length]; omega
  rw [hc] at h8 HP h8s
  clear hz e0 hc
  generalize zeros z = Z at *
  go_enter Tryd.func47, Tryd.ntmps47
  go_wp2_with fail
  refine (h _).mono ?_
  rintro e w1 ⟨rfl, hb1⟩
  clear h
  go_wp2_with fail
  refine (h8 _).mono ?_
  rintro e w2 ⟨rfl, hb2⟩
  clear h8
  generalize strOfNums (be ((s.size : Int) * 8) 8) = Y at *
  go_wp2
  go_ret
  rw [HP.out]
  exact ⟨rfl, hb1.trans (hb2.mono hb1.size)⟩
end Go.Proofs.YtbdbcjhahlofiaaDoor.dig
