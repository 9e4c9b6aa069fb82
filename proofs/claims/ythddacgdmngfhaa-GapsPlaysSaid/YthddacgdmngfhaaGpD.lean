/- Layer 16: a part taken out of parts. -/
import Derived.Test.YthddacgdmngfhaaGpC
namespace Go.Proofs.Ythddacgdmngfhaa.gap
open Go.Sort (grow)
open Go.ChangeShapes Go.WideShapes Go.ChangeAt Go.RowKit kit
set_option maxRecDepth 100000
theorem run_clear_at (w : World) (ty : TypeId) (h o c : Nat) (hc : ∀ j, j < 2 → (w.cell? ⟨h, o + j, none⟩).isSome = true) (hf : ∀ j, j < 2 → w.frozen? ⟨h, o + j, none⟩ = false) :
    (Builtin.clear_ #[187] ty #[.slice (some ⟨h, o, none⟩) 1 c]).run Try.prog w = .ok (.tuple #[]) (w.setCells h o (prt 0 0).toList) := by
  have hst := run_storeCells_cells (P := Try.prog) h o (prt 0 0).toList 0 w (fun j hj => by rw [Nat.add_zero]; exact hc j (by simpa using hj)) (fun j hj => by rw [Nat.add_zero]; exact hf j (by simpa using hj)) (by
    intro v hv
    simp at hv
    rcases hv with rfl | rfl | rfl | rfl | rfl | rfl <;> rfl)
  simp only [Nat.add_zero] at hst
  have hzc : (Builtin.zeroCells (Value.agg (prt 0 0)).cells 1).toList = (prt 0 0).toList := by kernel_rfl
  simp only [Builtin.clear_, run_underlying Try.underlying187, Sem.run_bind, Result.andThen_ok]
  simp [part_zero, hzc, hst]
set_option maxHeartbeats 4000000 in
theorem delete_at (b0 h cap k : Nat) (C : Nat) (L : List (Nat × Nat)) (w : World) (own : w.ownsRow b0 193 2 (.slice (some ⟨h, 0, none⟩) L.length cap) L.length (cellsA C L)) (hk : k < L.length) :
    Calls Try.prog 154 #[.slice (some ⟨h, 0, none⟩) L.length cap, .int .i64 k, .int .i64 ((k : Int) + 1)] w fun e w' => e = .returned (.slice (some ⟨h, 0, none⟩) (L.length - 1 : Nat) cap) ∧ w'.ownsRow b0 193 2 (.slice (some ⟨h, 0, none⟩) (L.length - 1) cap) (L.length - 1) (cellsA C (L.eraseIdx k)) ∧ Only h w w' ∧ Below b0 w w' := by
  obtain ⟨i0, hi0, hz0, hz1, hz2⟩ := info_parts infoP
  obtain ⟨cur, B, hb, hn, hm, hs, hget⟩ := own_get own
  have hlen := cellsA_len C L
  obtain ⟨n, hnL⟩ : ∃ n, L.length = n := ⟨_, rfl⟩
  rw [hnL] at hk hn hget hlen ⊢
  -- the cells that are moved to the left
  obtain ⟨news, hnews⟩ : ∃ news, cellsA C (L.drop (k + 1)) = news := ⟨_, rfl⟩
  have hnl : news.length = (n - (k + 1)) * 2 := by rw [← hnews, cellsA_len, List.length_drop, hnL]
  have hng : ∀ t, t < (n - (k + 1)) * 2 → cur[(k + 1) * 2 + t]? = news[t]? := fun t ht => by
    rw [hget _ (by omega), ← hnews, ← cellsA_drop, List.getElem?_drop]
  have hn1 : ∀ u ∈ news, u.oneCell' = true := by rw [← hnews]; exact cellsA_one C _
  have CC : ∀ j, j < cap * 2 → (w.cell? ⟨h, j, none⟩).isSome = true ∧ w.frozen? ⟨h, j, none⟩ = false := fun j hj => by
    refine ⟨?_, B.frozen j⟩
    rw [B.cell j, Array.getElem?_eq_getElem (by omega)]
    rfl
  have hcapn : n * 2 ≤ cap * 2 := Nat.mul_le_mul_right 2 hn
  obtain ⟨A, hA, hsrc⟩ : ∃ A : Addr, (if cap = k + 1 then some (⟨h, 0, none⟩ : Addr) else some ⟨h, (k + 1) * 2, none⟩) = some A ∧ ∀ t u, news[t]? = some u → w.drew.cell? (A.add t) = some u := by
    by_cases hc : cap = k + 1
    · refine ⟨⟨h, 0, none⟩, by rw [if_pos hc], fun t u hu => ?_⟩
      have h0 : news.length = 0 := by rw [hnl]; omega
      rw [List.length_eq_zero_iff.1 h0] at hu
      simp at hu
    · refine ⟨⟨h, (k + 1) * 2, none⟩, by rw [if_neg hc], fun t u hu => ?_⟩
      have ht : t < (n - (k + 1)) * 2 := by
        have := (List.getElem?_eq_some_iff.1 hu).1
        rwa [hnl] at this
      rw [show (⟨h, (k + 1) * 2, none⟩ : Addr).add t = ⟨h, (k + 1) * 2 + t, none⟩ by unfold Addr.add; split <;> simp_all]
      exact (B.cell _).trans ((hng t ht).trans hu)
  have s3 : ∀ t, t < news.length → (w.drew.cell? ⟨h, 0 + k * 2 + t, none⟩).isSome = true ∧ w.drew.frozen? ⟨h, 0 + k * 2 + t, none⟩ = false := fun t ht => CC _ (by rw [hnl] at ht; omega)
  have s0 : ((w.drew.setCells h (k * 2) news).setCells h ((n - 1) * 2) (prt 0 0).toList).ownsRow b0 193 2 (.slice (some ⟨h, 0, none⟩) (n - 1) cap) (n - 1) (cellsA C (L.eraseIdx k)) := by
    refine own_of_get (blk_layAll (blk_layAll (show Blk w.drew h 193 cur from B) (k * 2) news) ((n - 1) * 2) (prt 0 0).toList) hb (by omega) hm (by rw [layAll_size, layAll_size, hs]) (by rw [cellsA_len, List.length_eraseIdx, if_pos (by omega), hnL]) (fun j hj => ?_)
    rw [layAll_get _ _ _ _ (by rw [layAll_size, show (prt 0 0).toList.length = 2 from rfl]; omega), if_neg (by omega), layAll_get _ _ _ _ (by rw [hnl]; omega), List.eraseIdx_eq_take_drop_succ, cellsA_append, hnews]
    have hlt : (cellsA C (L.take k)).length = k * 2 := by rw [cellsA_len, List.length_take, hnL, Nat.min_eq_left (by omega)]
    by_cases hjk : j < k * 2
    · rw [if_neg (by omega), List.getElem?_append_left (by omega), hget j (by omega), ← cellsA_take, List.getElem?_take, if_pos hjk]
    · rw [if_pos (by rw [hnl]; omega), List.getElem?_append_right (by omega), hlt]
  have s4 : Only h w ((w.drew.setCells h (k * 2) news).setCells h ((n - 1) * 2) (prt 0 0).toList) := (((Only.refl h w).drew).setCells _ _).setCells _ _
  have s5 : Below b0 w ((w.drew.setCells h (k * 2) news).setCells h ((n - 1) * 2) (prt 0 0).toList) := below_setCells (below_setCells ((Below.refl b0 w).drew) hb _ _) hb _ _
  have hcl : ∀ ty, (Builtin.clear_ #[187] ty #[.slice (some ⟨h, (n - 1) * 2, none⟩) 1 (cap - (n - 1))]).run Try.prog (w.drew.setCells h (k * 2) news) = .ok (.tuple #[]) ((w.drew.setCells h (k * 2) news).setCells h ((n - 1) * 2) (prt 0 0).toList) := fun ty => by
    have B2 := blk_layAll (show Blk w.drew h 193 cur from B) (k * 2) news
    refine run_clear_at _ ty h ((n - 1) * 2) _ (fun j hj => ?_) (fun j _ => B2.frozen _)
    rw [B2.cell, Array.getElem?_eq_getElem (by rw [layAll_size]; omega)]
    rfl
  have HX := Lib.hid (And.intro s0 (And.intro s4 s5))
  have HS := Lib.hid (And.intro hsrc (And.intro hn1 s3))
  have HC := Lib.hid hcl
  clear s0 s4 s5 hsrc s3 hcl hn1 hng hget CC own hnews hs hcapn hz0 hz2 hlen
  have hk1 : k + (n - (k + 1)) = n - 1 := by omega
  unfold maxLen at hm
  go_enter Try.func154, Try.ntmps154
  have hkc : k ≤ cap := by omega
  have hkc1 : k + 1 ≤ cap := by omega
  have hkn : ¬ k = n := by omega
  have hi1 : (0 : Int) ≤ (k : Int) + 1 := by omega
  have hi2 : (k : Int) + 1 ≤ (n : Int) := by omega
  go_upto_region 5 with fail
  go_region_law (refine step_append_room (by rfl) (.tmp 22) (.tmp 25) 187 (by rfl) 193 i0 2 Try.underlying187 hi0 hz1 h 0 k cap (by simp [Act.eval, Act.put]) A (n - (k + 1)) (cap - (k + 1)) news (by simp [Act.eval, Act.put, hA]) hnl HS.out.1 HS.out.2.1 (by omega) HS.out.2.2 ?_; rw [hk1])
  all_goals
    have hc2 : n - 1 ≤ cap := by omega
    have hc3 : ¬ cap = n - 1 := by omega
    have hc4 : n - 1 ≤ n := by omega
    have hc5 : n - (n - 1) = 1 := by omega
    have hcl := HC.out
    go_upto_region 6 with fail
    go_wp2_with fail
    go_ret
    exact ⟨rfl, HX.out.1, HX.out.2.1, HX.out.2.2⟩
end Go.Proofs.Ythddacgdmngfhaa.gap
