/- Layer 31: packets under way as a list: one taken out of the middle of a row. -/
import Derived.Test.YtdocphkpeonldaaStoC
import Derived.Test.YtdocphkpeonldaaKitR
import Derived.Deep.RegionLaw
import Derived.Lib.SliceRun
import Derived.Outline
import Derived.OwnWalk
import Derived.LoopTactic
import Derived.Deep.CutBlock
import Derived.Deep.DeepCutAuto
import Derived.Deep.AppendLies
import Derived.Deep.RegionHeld3
import Derived.StillTailTactics
import Derived.BigQuiet
namespace Go.Proofs.Ytdocphkpeonldaa.npl
open Go.Sort (grow)
open Go.ChangeShapes Go.WideShapes Go.ChangeAt Go.RowKit kit storm
set_option maxRecDepth 100000

theorem cellsI_app (L M : List It) : cellsI (L ++ M) = cellsI L ++ cellsI M := by
  induction L with
  | nil => rfl
  | cons q r ih => simp [cellsI, ih]
theorem cellsI_len (L : List It) : (cellsI L).length = L.length * 6 := by
  induction L with
  | nil => rfl
  | cons q r ih => rw [cellsI, List.length_append, ih, ir_len, List.length_cons]; omega
theorem cellsI_take (L : List It) (k : Nat) : (cellsI L).take (k * 6) = cellsI (L.take k) := by
  induction L generalizing k with
  | nil => simp [cellsI]
  | cons q r ih =>
    cases k with
    | zero => simp [cellsI]
    | succ k =>
      rw [List.take_succ_cons, cellsI, cellsI, ← ih k, List.take_append, ir_len, show (k + 1) * 6 - 6 = k * 6 by omega, List.take_of_length_le (by rw [ir_len]; omega)]
theorem cellsI_drop (L : List It) (k : Nat) : (cellsI L).drop (k * 6) = cellsI (L.drop k) := by
  induction L generalizing k with
  | nil => simp [cellsI]
  | cons q r ih =>
    cases k with
    | zero => simp
    | succ k =>
      rw [List.drop_succ_cons, cellsI, ← ih k, List.drop_append, ir_len, show (k + 1) * 6 - 6 = k * 6 by omega, List.drop_of_length_le (by rw [ir_len]; omega), List.nil_append]
theorem cellsI_one (L : List It) : ∀ u ∈ cellsI L, u.oneCell' = true := by
  induction L with
  | nil => intro u hu; cases hu
  | cons q r ih =>
    intro u hu
    rw [cellsI, List.mem_append] at hu
    rcases hu with hu | hu
    · simp only [ir, List.mem_cons, List.not_mem_nil, or_false] at hu
      rcases hu with rfl | rfl | rfl | rfl | rfl | rfl <;> rfl
    · exact ih u hu
theorem infoI : (Try.prog.info? 70).map (fun i => (i.zero, i.size, i.bytes)) = some (some (.agg (ir it0)), 6, 48) := by kernel_rfl
abbrev itz : Array Value := #[.int .i64 0, .int .i64 0, .int .u32 0, .int .u32 0, .string ⟨#[]⟩, .bool false]
theorem item_zero (w : World) : (zeroValue 70).run Try.prog w = .ok (.agg itz) w := Try.zeroValue70 w
theorem run_clear_at (w : World) (ty : TypeId) (h o c : Nat) (hc : ∀ j, j < 6 → (w.cell? ⟨h, o + j, none⟩).isSome = true) (hf : ∀ j, j < 6 → w.frozen? ⟨h, o + j, none⟩ = false) :
    (Builtin.clear_ #[56] ty #[.slice (some ⟨h, o, none⟩) 1 c]).run Try.prog w = .ok (.tuple #[]) (w.setCells h o itz.toList) := by
  have hst := run_storeCells_cells (P := Try.prog) h o itz.toList 0 w (fun j hj => by rw [Nat.add_zero]; exact hc j (by simpa using hj)) (fun j hj => by rw [Nat.add_zero]; exact hf j (by simpa using hj)) (by
    intro v hv
    simp at hv
    rcases hv with rfl | rfl | rfl | rfl | rfl | rfl <;> rfl)
  simp only [Nat.add_zero] at hst
  have hzc : (Builtin.zeroCells (Value.agg itz).cells 1).toList = itz.toList := by kernel_rfl
  simp only [Builtin.clear_, run_underlying Try.underlying56, Sem.run_bind, Result.andThen_ok]
  simp [item_zero, hzc, hst]
set_option maxHeartbeats 4000000 in
theorem delete_at (b0 h cap k : Nat) (L : List It) (w : World) (own : w.ownsRow b0 70 6 (.slice (some ⟨h, 0, none⟩) L.length cap) L.length (cellsI L)) (hk : k < L.length) :
    Calls Try.prog 114 #[.slice (some ⟨h, 0, none⟩) L.length cap, .int .i64 k, .int .i64 ((k : Int) + 1)] w fun e w' => e = .returned (.slice (some ⟨h, 0, none⟩) (L.length - 1 : Nat) cap) ∧ w'.ownsRow b0 70 6 (.slice (some ⟨h, 0, none⟩) (L.length - 1) cap) (L.length - 1) (cellsI (L.eraseIdx k)) ∧ Only h w w' ∧ Below b0 w w' := by
  obtain ⟨i0, hi0, hz0, hz1, hz2⟩ := info_parts infoI
  obtain ⟨cur, B, hb, hn, hm, hs, hget⟩ := own_get own
  have hlen := cellsI_len L
  obtain ⟨n, hnL⟩ : ∃ n, L.length = n := ⟨_, rfl⟩
  rw [hnL] at hk hn hget hlen ⊢
  -- the cells that are moved to the left
  obtain ⟨news, hnews⟩ : ∃ news, cellsI (L.drop (k + 1)) = news := ⟨_, rfl⟩
  have hnl : news.length = (n - (k + 1)) * 6 := by rw [← hnews, cellsI_len, List.length_drop, hnL]
  have hng : ∀ t, t < (n - (k + 1)) * 6 → cur[(k + 1) * 6 + t]? = news[t]? := fun t ht => by
    rw [hget _ (by omega), ← hnews, ← cellsI_drop, List.getElem?_drop]
  have hn1 : ∀ u ∈ news, u.oneCell' = true := by rw [← hnews]; exact cellsI_one _
  have C : ∀ j, j < cap * 6 → (w.cell? ⟨h, j, none⟩).isSome = true ∧ w.frozen? ⟨h, j, none⟩ = false := fun j hj => by
    refine ⟨?_, B.frozen j⟩
    rw [B.cell j, Array.getElem?_eq_getElem (by omega)]
    rfl
  have hcapn : n * 6 ≤ cap * 6 := Nat.mul_le_mul_right 6 hn
  obtain ⟨A, hA, hsrc⟩ : ∃ A : Addr, (if cap = k + 1 then some (⟨h, 0, none⟩ : Addr) else some ⟨h, (k + 1) * 6, none⟩) = some A ∧ ∀ t u, news[t]? = some u → w.drew.cell? (A.add t) = some u := by
    by_cases hc : cap = k + 1
    · refine ⟨⟨h, 0, none⟩, by rw [if_pos hc], fun t u hu => ?_⟩
      have h0 : news.length = 0 := by rw [hnl]; omega
      rw [List.length_eq_zero_iff.1 h0] at hu
      simp at hu
    · refine ⟨⟨h, (k + 1) * 6, none⟩, by rw [if_neg hc], fun t u hu => ?_⟩
      have ht : t < (n - (k + 1)) * 6 := by
        have := (List.getElem?_eq_some_iff.1 hu).1
        rwa [hnl] at this
      rw [show (⟨h, (k + 1) * 6, none⟩ : Addr).add t = ⟨h, (k + 1) * 6 + t, none⟩ by unfold Addr.add; split <;> simp_all]
      exact (B.cell _).trans ((hng t ht).trans hu)
  have s3 : ∀ t, t < news.length → (w.drew.cell? ⟨h, 0 + k * 6 + t, none⟩).isSome = true ∧ w.drew.frozen? ⟨h, 0 + k * 6 + t, none⟩ = false := fun t ht => C _ (by rw [hnl] at ht; omega)
  have s0 : ((w.drew.setCells h (k * 6) news).setCells h ((n - 1) * 6) itz.toList).ownsRow b0 70 6 (.slice (some ⟨h, 0, none⟩) (n - 1) cap) (n - 1) (cellsI (L.eraseIdx k)) := by
    refine own_of_get (blk_layAll (blk_layAll (show Blk w.drew h 70 cur from B) (k * 6) news) ((n - 1) * 6) itz.toList) hb (by omega) hm (by rw [layAll_size, layAll_size, hs]) (by rw [cellsI_len, List.length_eraseIdx, if_pos (by omega), hnL]) (fun j hj => ?_)
    rw [layAll_get _ _ _ _ (by rw [layAll_size, show itz.toList.length = 6 from rfl]; omega), if_neg (by omega), layAll_get _ _ _ _ (by rw [hnl]; omega), List.eraseIdx_eq_take_drop_succ, cellsI_app, hnews]
    have hlt : (cellsI (L.take k)).length = k * 6 := by rw [cellsI_len, List.length_take, hnL, Nat.min_eq_left (by omega)]
    by_cases hjk : j < k * 6
    · rw [if_neg (by omega), List.getElem?_append_left (by omega), hget j (by omega), ← cellsI_take, List.getElem?_take, if_pos hjk]
    · rw [if_pos (by rw [hnl]; omega), List.getElem?_append_right (by omega), hlt]
  have s4 : Only h w ((w.drew.setCells h (k * 6) news).setCells h ((n - 1) * 6) itz.toList) := (((Only.refl h w).drew).setCells _ _).setCells _ _
  have s5 : Below b0 w ((w.drew.setCells h (k * 6) news).setCells h ((n - 1) * 6) itz.toList) := below_setCells (below_setCells ((Below.refl b0 w).drew) hb _ _) hb _ _
  have hcl : ∀ ty, (Builtin.clear_ #[56] ty #[.slice (some ⟨h, (n - 1) * 6, none⟩) 1 (cap - (n - 1))]).run Try.prog (w.drew.setCells h (k * 6) news) = .ok (.tuple #[]) ((w.drew.setCells h (k * 6) news).setCells h ((n - 1) * 6) itz.toList) := fun ty => by
    have B2 := blk_layAll (show Blk w.drew h 70 cur from B) (k * 6) news
    refine run_clear_at _ ty h ((n - 1) * 6) _ (fun j hj => ?_) (fun j _ => B2.frozen _)
    rw [B2.cell, Array.getElem?_eq_getElem (by rw [layAll_size]; omega)]
    rfl
  have HX := Lib.hid (And.intro s0 (And.intro s4 s5))
  have HS := Lib.hid (And.intro hsrc (And.intro hn1 s3))
  have HC := Lib.hid hcl
  clear s0 s4 s5 hsrc s3 hcl hn1 hng hget C own hnews hs hcapn hz0 hz2 hlen
  have hk1 : k + (n - (k + 1)) = n - 1 := by omega
  unfold maxLen at hm
  go_enter Try.func114, Try.ntmps114
  have hkc : k ≤ cap := by omega
  have hkc1 : k + 1 ≤ cap := by omega
  have hkn : ¬ k = n := by omega
  have hi1 : (0 : Int) ≤ (k : Int) + 1 := by omega
  have hi2 : (k : Int) + 1 ≤ (n : Int) := by omega
  go_upto_region 5 with fail
  go_region_law (refine step_append_room (by rfl) (.tmp 22) (.tmp 25) 56 (by rfl) 70 i0 6 Try.underlying56 hi0 hz1 h 0 k cap (by simp [Act.eval, Act.put]) A (n - (k + 1)) (cap - (k + 1)) news (by simp [Act.eval, Act.put, hA]) hnl HS.out.1 HS.out.2.1 (by omega) HS.out.2.2 ?_; rw [hk1])
  all_goals
    have hc2 : n - 1 ≤ cap := by omega
    have hc3 : ¬ cap = n - 1 := by omega
    have hc4 : n - 1 ≤ n := by omega
    have hc5 : n - (n - 1) = 1 := by omega
    have hcl := HC.out
    go_upto_region 6 with fail
    go_wp2_with fail
    go_ret
    exact ⟨rfl, HX.out.1, HX.out.2.1, HX.out.2.2⟩
end Go.Proofs.Ytdocphkpeonldaa.npl
