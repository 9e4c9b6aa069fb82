/- Layer 16: the same gaps. -/
import Derived.Test.YthddacgdmngfhaaGpN
namespace Go.Proofs.Ythddacgdmngfhaa.gap
open Go.Sort (grow)
open Go.ChangeShapes Go.WideShapes Go.ChangeAt Go.RowKit kit gapm
set_option maxRecDepth 100000
theorem cellsGp_get {p : Int × Int} : ∀ {P : List (Int × Int)} {k : Nat}, P[k]? = some p → ∀ j, j < 2 → (#[.int .i64 p.1, .int .i64 p.2] : Array Value)[j]? = (cellsGp P)[k * 2 + j]?
  | [], _, h, _, _ => by simp at h
  | q :: r, 0, h, j, hj => by
    obtain rfl : q = p := by simpa using h
    obtain rfl | rfl : j = 0 ∨ j = 1 := by omega
    · rfl
    · rfl
  | q :: r, k + 1, h, j, hj => by
    rw [cellsGp_get (P := r) (k := k) (by simpa using h) j hj, show (k + 1) * 2 + j = (k * 2 + j) + 1 + 1 by omega]
    rfl
theorem own_rowG {w : World} {b0 : Nat} {P : List (Int × Int)} {v : Value} (own : w.ownsRow b0 133 2 v P.length (cellsGp P)) : ∃ (h : Nat) (oa : Option Addr) (cap : Nat), v = .slice oa P.length cap ∧ P.length ≤ cap ∧ cap ≤ maxLen ∧ (0 < P.length → oa = some ⟨h, 0, none⟩ ∧ h < w.heap.size ∧ ∀ k p, P[k]? = some p → Cel w h (k * 2) #[.int .i64 p.1, .int .i64 p.2]) := by
  rcases own.2 with ⟨rfl, h0⟩ | ⟨h, cap, cur, rfl, hb, hg, hn, hm, hs, ht⟩
  · have hP : P.length = 0 := by omega
    exact ⟨0, none, 0, by rw [hP], by omega, by unfold maxLen; omega, fun h => absurd h (by omega)⟩
  · refine ⟨h, _, cap, rfl, hn, hm, fun h0 => ⟨rfl, (Blk.lt (show Blk w h 133 cur from hg)), fun k p hp => ?_⟩⟩
    have K := Cel.of_owns own
    have hk := (List.getElem?_eq_some_iff.1 hp).1
    refine ⟨K.lt, fun j u hu => ?_⟩
    have hj : j < 2 := (Array.getElem?_eq_some_iff.1 hu).1
    have := cellsGp_get hp j hj
    rw [hu] at this
    have h2 := K.2 (k * 2 + j) u (by rw [List.getElem?_toArray]; exact this.symm)
    rw [Nat.zero_add] at h2
    exact h2
theorem szGp (a b : Int) : (Try.prog.info? 133).map (·.size) = some (#[.int .i64 a, .int .i64 b] : Array Value).size := by show _ = some 2; kernel_rfl
theorem neqG (a b : Int) (W : World) : (binOp .neq 133 (.agg #[.int .i64 a, .int .i64 b]) (.agg #[.int .i64 a, .int .i64 b])).run Try.prog W = .ok (.bool false) W := by
  go_simp
set_option maxHeartbeats 2000000 in
theorem same_any {b0 b1 : Nat} {P : List (Int × Int)} {va vb : Value} {w : World} (oA : w.ownsRow b0 133 2 va P.length (cellsGp P)) (oB : w.ownsRow b1 133 2 vb P.length (cellsGp P)) (hn : P.length ≤ 2000) :
    Calls Try.prog 45 #[va, vb] w fun e w' => e = .returned (.bool true) ∧ Below w.heap.size w w' := by
  obtain ⟨ha, aa, ca, rfl, hac, ham, hA⟩ := own_rowG oA
  obtain ⟨hb, ab', cb, rfl, hbc, hbm, hB⟩ := own_rowG oB
  obtain ⟨n, hnP⟩ : ∃ n, P.length = n := ⟨_, rfl⟩
  have HA := Lib.hid (And.intro hA hB)
  have HN := Lib.hid hnP
  rw [hnP] at hac hbc hn ⊢
  unfold maxLen at ham hbm
  clear oA oB hA hB hnP
  go_enter Try.func45, Try.ntmps45
  go_wp2_with fail
  go_loopw [5] (fun s5 wr => ∃ k : Nat, k ≤ n ∧ s5 = .int .i64 k ∧ Below w.heap.size w wr) (fun s5 _ => n - (intOf s5).toNat)
  case atStart => exact ⟨0, by omega, rfl, Below.refl _ _⟩
  case round =>
    obtain ⟨k, hk, rfl, bel⟩ := hrel
    by_cases hlt : k < n
    · obtain ⟨ho1, hl1, hC1⟩ := HA.out.1 (by rw [HN.out]; omega)
      obtain ⟨ho2, hl2, hC2⟩ := HA.out.2 (by rw [HN.out]; omega)
      subst ho1
      subst ho2
      obtain ⟨p, hp⟩ : ∃ p, P[k]? = some p := ⟨_, List.getElem?_eq_getElem (by rw [HN.out]; omega)⟩
      have K1 := (hC1 k p hp).below bel hl1
      have K2 := (hC2 k p hp).below bel hl2
      have hne := neqG p.1 p.2
      have hkk : (k : Int) < (n : Int) := by omega
      obtain ⟨p1, p2⟩ := p
      dsimp only at hne K1 K2
      clear hC1 hC2 hp
      go_upto_region 6 with fail
      refine wp_region_quiet_below (by kernel_rfl) (by kernel_rfl) ?_
      repeat (any_goals (first | (refine wpQuiet_load_at (by rfl) 133 (.tmp 19) (by rfl) ha (k * 2) (by rfl) #[.int .i64 p1, .int .i64 p2] _ Try.underlying133 (by rfl) (szGp _ _) (fun w' hw' => by obtain ⟨q, rfl⟩ := hw'; exact K1.below (below_regrown wr _ _) K1.lt) ?_) | (refine wpQuiet_load_at (by rfl) 133 (.tmp 23) (by rfl) hb (k * 2) (by rfl) #[.int .i64 p1, .int .i64 p2] _ Try.underlying133 (by rfl) (szGp _ _) (fun w' hw' => by obtain ⟨q, rfl⟩ := hw'; exact K2.below (below_regrown wr _ _) K2.lt) ?_) | go_big_quiet_step (fail) | quiet_step (fail)))
      refine wpQuiet_nil ?_
      intro _ hw'
      obtain ⟨⟨dq, osq⟩, hw''⟩ := hw'
      subst hw''
      have bel2 := bel.trans ((below_regrown wr dq osq).mono bel.size)
      clear bel K1 K2
      generalize grow (redrawn wr dq) osq = w3 at *
      go_wp2_with fail
      go_roundw
      case rel => exact ⟨k + 1, by omega, by go_num, bel2⟩
      case measure => simp [intOf]; omega
    · obtain rfl : k = n := by omega
      go_wp2_with fail
      go_ret
      exact ⟨rfl, bel⟩
end Go.Proofs.Ythddacgdmngfhaa.gap
