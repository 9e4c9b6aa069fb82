/- The document's filling up, and the statement on it. -/
import Derived.Test.YtdjdgccomefoaaaRef3B
import Derived.LoopTactic
namespace Go.Proofs.Ytdjdgccomefoaaa.oct
open Go.ChangeShapes Go.WideShapes Go.ChangeAt Go.RowKit kit

def strLen : Value → Nat
  | .string s => s.size
  | _ => 0
theorem zeros_snoc (s : ByteArray) (k : Nat) : s ++ zeros k ++ (⟨#[0]⟩ : ByteArray) = s ++ zeros (k + 1) := by
  apply ByteArray.ext
  unfold zeros strOfNums
  apply Array.toList_inj.mp
  simp [List.replicate_succ']

set_option maxRecDepth 100000 in
set_option maxHeartbeats 400000 in
theorem rfilled (s : ByteArray) (w : World) (hs : s.size ≤ 1000000) : Calls Try.prog 120 #[.string s] w fun e w' => e = .returned (.string (filled s)) ∧ w = w' := by
  obtain ⟨p, hp⟩ : ∃ p : Nat, (p : Int) = -(s.size : Int) % 4 := ⟨(-(s.size : Int) % 4).toNat, by omega⟩
  have ef : filled s = s ++ zeros p := by unfold filled; rw [← hp]; rfl
  rw [ef]
  have hp4 : p < 4 := by omega
  have hpm : (s.size + p) % 4 = 0 := by omega
  have HP : Hid ((s.size + p) % 4 = 0) := hpm
  clear ef hp hpm
  go_enter Try.func120, Try.ntmps120
  go_wp2
  go_loop [3] (fun out => ∃ k : Nat, k ≤ p ∧ out = .string (s ++ zeros k)) (fun out => s.size + 4 - strLen out)
  case atStart => exact ⟨0, Nat.zero_le _, by unfold zeros strOfNums; simp; apply ByteArray.ext; simp⟩
  case round =>
    obtain ⟨k, hk, rfl⟩ := hrel
    have hz := zeros_size k
    have hsz : (s ++ zeros k).size = s.size + k := by simp [hz]
    by_cases hlt : k < p
    · have hne : ¬ ((s.size : Int) + (k : Int)) % 4 = 0 := by have := HP.out; omega
      have hz4 : (zeros k).size ≤ 4 := by omega
      have hne' : ¬ ((s.size : Int) + ((zeros k).size : Int)) % 4 = 0 := by rw [hz]; exact hne
      have H := Lib.hid hsz
      have HZ := Lib.hid hz
      clear hsz hz hne
      go_wp2
      go_round
      case rel => exact ⟨k + 1, by omega, by rw [zeros_snoc]⟩
      case measure =>
        have h1 := H.out
        have h2 := HZ.out
        have h3 : (⟨#[0]⟩ : ByteArray).size = 1 := rfl
        simp [strLen]
        omega
    · have : k = p := by omega
      subst this
      have he : ((s.size : Int) + ((zeros k).size : Int)) % 4 = 0 := by have := HP.out; rw [hz]; omega
      have hz4 : (zeros k).size ≤ 4 := by omega
      have H := Lib.hid hsz
      have HZ := Lib.hid hz
      clear hsz hz
      go_wp2
      go_ret
      exact ⟨rfl, rfl⟩
end Go.Proofs.Ytdjdgccomefoaaa.oct
