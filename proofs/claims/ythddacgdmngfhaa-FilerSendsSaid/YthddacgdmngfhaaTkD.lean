/- Layer 40: so many bytes. -/
import Derived.Test.YthddacgdmngfhaaTkC
import Derived.LoopTactic
namespace Go.Proofs.Ythddacgdmngfhaa.fil
open Go.Sort (grow)
open Go.ChangeShapes Go.WideShapes Go.ChangeAt Go.RowKit kit oct byt
set_option maxRecDepth 100000

theorem u8_wrap (x : Int) : ∃ b : UInt8, IntKind.u8.wrap x = ((b.toNat : Nat) : Int) := by
  refine ⟨UInt8.ofNat (x % 256).toNat, ?_⟩
  rw [IntKind.wrap_u8, UInt8.toNat_ofNat']
  omega
set_option maxHeartbeats 2000000 in
theorem bytes_any (s : ByteArray) (x : Int) (N : Nat) (hN : bits .and .i64 x 4095 = (N : Int)) (hN1 : N ≤ 4095) (hs : s.size ≤ maxLen) (w : World) : Calls Try.prog 26 #[.string s, .int .i64 x] w fun e w' => ∃ D : ByteArray, D.size = N ∧ e = .returned (.string D) ∧ Below w.heap.size w w' := by
  obtain ⟨i0, hi, hz0, hz1, hz2⟩ := info_parts infoB
  unfold maxLen at hs
  go_enter Try.func26, Try.ntmps26
  have hmr := mz_run N w (by omega)
  go_upto_region 2 with fail
  have I2 := mz_bytes N w
  have bel2 := mz_below N w
  clear hmr
  generalize mz N w = w2 at *
  generalize hg : w.heap.size = g at *
  go_wp2_with fail
  go_loopw [6] (fun s6 wr => ∃ (k : Nat) (l : List UInt8), k ≤ N ∧ s6 = .int .i64 k ∧ l.length = N ∧ IsBytes wr g l ∧ Below g w wr) (fun s6 _ => N - (intOf s6).toNat)
  case atStart => exact ⟨0, _, by omega, rfl, by simp, I2, bel2⟩
  case round =>
    clear I2 bel2
    obtain ⟨k, l, hk, rfl, hl, I, bel⟩ := hrel
    by_cases hlt : k < N
    · obtain ⟨b, hb⟩ := u8_wrap (k : Int)
      have hkl : k < l.length := by omega
      have c0 := I.cell hkl
      have f0 := I.free hkl
      unfold bv at c0
      have hb' := hb
      go_upto_region 6 with (fail)
      have I3 := I.set_ k b
      have bel3 := bel.setCell (p := ⟨g, k, none⟩) (Nat.le_refl g) (bv b)
      have hl3 : (l.set k b).length = N := by simp [hl]
      unfold bv at I3 bel3
      generalize wr.setCell ⟨g, k, none⟩ (.int .u8 (b.toNat : Int)) = w3 at *
      generalize l.set k b = l3 at *
      clear c0 f0 I bel hb hb'
      by_cases hs0 : 0 < s.size
      · have hs0' : (0 : Int) < (s.size : Int) := by omega
        obtain ⟨j, hj⟩ : ∃ j : Nat, k % s.size = j := ⟨_, rfl⟩
        have hjs : j < s.size := by rw [← hj]; exact Nat.mod_lt _ hs0
        have hjm : (k : Int).tmod (s.size : Int) = (j : Int) := by rw [Int.tmod_eq_emod_of_nonneg (by omega), ← hj]; omega
        have hkl3 : k < l3.length := by omega
        obtain ⟨c, hc⟩ : ∃ c, l3[k] = c := ⟨_, rfl⟩
        have c0 := I3.cell hkl3
        have f0 := I3.free hkl3
        rw [hc] at c0
        unfold bv at c0
        have hjs' : (j : Int) < (s.size : Int) := by omega
        have hnz : ¬ (s.size : Int) = 0 := by omega
        obtain ⟨d, hd⟩ := u8_wrap ((c.toNat : Int) + (s[j].toNat : Int))
        clear hj hc
        go_wp2_with fail
        go_region
        all_goals
          have I4 := I3.set_ k d
          have bel4 := bel3.setCell (p := ⟨g, k, none⟩) (Nat.le_refl g) (bv d)
          unfold bv at I4 bel4
          go_wp2_with fail
          go_roundw
          case rel => exact ⟨k + 1, _, by omega, by go_num, by simp [hl3], I4.drew, bel4.drew⟩
          case measure => simp [intOf]; omega
      · have hs0' : ¬ (0 : Int) < (s.size : Int) := by omega
        go_wp2_with fail
        go_roundw
        case rel => exact ⟨k + 1, _, by omega, by go_num, hl3, I3, bel3⟩
        case measure => simp [intOf]; omega
    · obtain rfl : k = N := by omega
      have hcv := conv_bytes (P := Try.prog) Try.underlying45 Try.underlying5 Try.underlying9 I k k hl.symm
      go_wp2_with fail
      go_ret
      exact ⟨_, by show l.toArray.size = _; simpa using hl, rfl, by rw [hg]; exact bel⟩
end Go.Proofs.Ythddacgdmngfhaa.fil
