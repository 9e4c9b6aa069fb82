/- Layer 3's reader: numbers, the rest, what fills up, the end. -/
import Derived.Test.YthddacgdmngfhaaOctB
import Derived.WalkSpells
namespace Go.Proofs.Ythddacgdmngfhaa.oct
open Go.ChangeShapes Go.WideShapes Go.ChangeAt Go.RowKit kit

/-- The number that bytes say. -/
def numV : List UInt8 → Nat
  | [] => 0
  | l => l.foldl (fun n b => n * 256 + b.toNat) 0
theorem numV_snoc (l : List UInt8) (b : UInt8) : numV (l ++ [b]) = numV l * 256 + b.toNat := by
  have h : ∀ l, numV l = l.foldl (fun n b => n * 256 + b.toNat) 0 := fun l => by cases l <;> rfl
  rw [h, h, List.foldl_append]; rfl
theorem numV_lt : ∀ (k : Nat) (l : List UInt8), l.length = k → numV l < 256 ^ k := by
  intro k
  induction k with
  | zero => intro l h; rw [List.length_eq_zero_iff.1 h]; simp [numV]
  | succ k ih =>
    intro l h
    obtain ⟨m, b, rfl⟩ : ∃ m b, l = m ++ [b] := by
      rcases List.eq_nil_or_concat l with rfl | ⟨m, b, rfl⟩
      · simp at h
      · exact ⟨m, b, by simp⟩
    rw [numV_snoc, Nat.pow_succ]
    have h1 := ih m (by simpa using h)
    have h2 := b.toNat_lt
    omega

theorem pow_le (i : Nat) (h : i ≤ 7) : (256 : Nat) ^ i ≤ 72057594037927936 := by
  have := Nat.pow_le_pow_right (n := 256) (by omega) h
  simpa using this
theorem or_step (n b : Nat) (hn : n < 72057594037927936) (hb : b < 256) : bits .or .u64 ((n : Int) * 256) (b : Int) = ((n * 256 + b : Nat) : Int) := by
  have h1 : (n : Int) * 256 = ((n * 256 : Nat) : Int) := by omega
  have h2 : n * 256 + b = n * 256 ||| b := by
    have := Nat.two_pow_add_eq_or_of_lt (i := 8) (b := b) (by omega) n
    rw [show (2 : Nat) ^ 8 = 256 from rfl] at this
    rw [Nat.mul_comm n 256]
    exact this
  rw [h1, h2]
  exact u64_or_nat _ _ (by omega) (by omega)

theorem len_data (l : ByteArray) : l.data.toList.length = l.size := Array.length_toList

theorem step_eq (l : ByteArray) (k i : Nat) (hk : k ≤ l.size) (hi : i < k) (hb : i < (l.extract 0 k).size) (hn : numV (l.data.toList.take i) < 72057594037927936) :
    bits .or .u64 ((numV (l.data.toList.take i) : Int) * 256) (IntKind.u64.wrap ((l.extract 0 k)[i].toNat : Int)) = ((numV (l.data.toList.take (i + 1)) : Nat) : Int) := by
  have hlt := ((l.extract 0 k)[i]).toNat_lt
  rw [IntWalk.u64_in _ (by omega), or_step _ _ hn (by omega)]
  have e1 : (l.extract 0 k)[i] = l[i]'(by omega) := by simp [ByteArray.getElem_eq_getElem_data]
  have e2 : l.data.toList.take (i + 1) = l.data.toList.take i ++ [l[i]'(by omega)] := by
    rw [List.take_succ_eq_append_getElem (by have := len_data l; omega)]
    simp [ByteArray.getElem_eq_getElem_data]
  rw [e2, numV_snoc, e1]

theorem number_in (g : Nat) (l : ByteArray) (e0 : Int) (k : Nat) (w : World) (h : RD w g l e0) (hk : k ≤ l.size) (hk8 : k ≤ 8) (hl : l.size ≤ maxLen) :
    Calls Try.prog 176 #[.pointer (some ⟨g, 0, none⟩), .int .i64 k] w fun x w' => x = .returned (.int .u64 (numV (l.data.toList.take k))) ∧ RD w' g (l.extract k l.size) e0 ∧ Touch g w w' := by
  have hsz : (l.extract 0 k).size = k := by simp; omega
  go_enter Try.func176, Try.ntmps176
  go_wp2_with (go_at_call 177; refine (take_in g l e0 k _ h hk hl).mono ?_; rintro e w1 ⟨rfl, hr, ht⟩)
  go_loop [6, 13] (fun nv iv => ∃ i : Nat, i ≤ k ∧ iv = .int .i64 i ∧ nv = .int .u64 (numV (l.data.toList.take i))) (fun _ iv => k - (intOf iv).toNat)
  case atStart => exact ⟨0, Nat.zero_le _, rfl, rfl⟩
  case round =>
    obtain ⟨i, hi, rfl, rfl⟩ := hrel
    by_cases hlt : i < k
    · have hb0 := numV_lt i (l.data.toList.take i) (by simp; omega)
      have hb1 := pow_le i (by omega)
      have hb2 : numV (l.data.toList.take i) < 72057594037927936 := by omega
      clear hb0 hb1
      go_wp2
      go_round
      case rel => exact ⟨i + 1, by omega, by go_num, by rw [step_eq l k i hk hlt (by omega) hb2]⟩
      case measure => simp [intOf]; omega
    · have : i = k := by omega
      subst this
      go_wp2
      go_ret
      exact ⟨rfl, hr, ht⟩

theorem number_out (g : Nat) (l : ByteArray) (e0 : Int) (k : Nat) (w : World) (h : RD w g l e0) (hk : l.size < k) (hk8 : k ≤ 8) (hl : l.size ≤ maxLen) :
    Calls Try.prog 176 #[.pointer (some ⟨g, 0, none⟩), .int .i64 k] w fun x w' => x = .returned (.int .u64 0) ∧ RD w' g (failL l e0 2) (failE e0 2) ∧ Touch g w w' := by
  go_enter Try.func176, Try.ntmps176
  go_wp2_with (go_at_call 177; refine (take_out g l e0 k _ h (by omega) hl).mono ?_; rintro e w1 ⟨rfl, hr, ht⟩)
  refine wp_loop_rounds 1 ?_
  rw [rounds_succ]
  go_wp2
  go_ret
  exact ⟨rfl, hr, ht⟩

/-- What is read of a reader, as a number of k bytes: it, what is left, the error. -/
def rdN (l : ByteArray) (k : Nat) : Nat := if k ≤ l.size then numV (l.data.toList.take k) else 0
def rdL (l : ByteArray) (e0 : Int) (k : Nat) : ByteArray := if k ≤ l.size then l.extract k l.size else failL l e0 2
def rdE (l : ByteArray) (e0 : Int) (k : Nat) : Int := if k ≤ l.size then e0 else failE e0 2
theorem rdN_lt (l : ByteArray) (k : Nat) (hk : k ≤ 8) : rdN l k < 256 ^ k := by
  unfold rdN; split
  · exact numV_lt k _ (by have := len_data l; simp; omega)
  · exact Nat.pow_pos (by omega)

theorem number_any (g : Nat) (l : ByteArray) (e0 : Int) (k : Nat) (w : World) (h : RD w g l e0) (hk8 : k ≤ 8) (hl : l.size ≤ maxLen) :
    Calls Try.prog 176 #[.pointer (some ⟨g, 0, none⟩), .int .i64 k] w fun x w' => x = .returned (.int .u64 (rdN l k)) ∧ RD w' g (rdL l e0 k) (rdE l e0 k) ∧ Touch g w w' := by
  unfold rdN rdL rdE
  by_cases c : k ≤ l.size
  · rw [if_pos c, if_pos c, if_pos c]; exact number_in g l e0 k w h c hk8 hl
  · rw [if_neg c, if_neg c, if_neg c]; exact number_out g l e0 k w h (by omega) hk8 hl

theorem r32_any (g : Nat) (l : ByteArray) (e0 : Int) (w : World) (h : RD w g l e0) (hl : l.size ≤ maxLen) :
    Calls Try.prog 146 #[.pointer (some ⟨g, 0, none⟩)] w fun x w' => x = .returned (.int .u32 (rdN l 4)) ∧ RD w' g (rdL l e0 4) (rdE l e0 4) ∧ Touch g w w' := by
  have hb := rdN_lt l 4 (by omega)
  go_enter Try.func146, Try.ntmps146
  go_wp2_with (go_at_call 176; refine (number_any g l e0 4 _ h (by omega) hl).mono ?_; rintro e w1 ⟨rfl, hr, ht⟩)
  go_ret
  exact ⟨rfl, hr, ht⟩
end Go.Proofs.Ythddacgdmngfhaa.oct
