/- Layer 16: a part put in the middle of parts, where there is no room; anywhere. -/
import Derived.Test.YthddacgdmngfhaaGpF
namespace Go.Proofs.Ythddacgdmngfhaa.gap
open Go.Sort (grow)
open Go.ChangeShapes Go.WideShapes Go.ChangeAt Go.RowKit kit
set_option maxRecDepth 100000
theorem zeroCells_size (c : Array Value) (m : Nat) : (Builtin.zeroCells c m).size = m * c.size := by simp [Builtin.zeroCells]
theorem oneAll (P : List (Nat × Nat)) (C : Nat) : ∀ u ∈ cellsA C P, u.oneCell' = true := cellsA_one C P
set_option maxHeartbeats 4000000 in
theorem ins_grow (b0 C p x k h cap : Nat) (L : List (Nat × Nat)) (w : World) (own : w.ownsRow b0 193 2 (.slice (some ⟨h, 0, none⟩) L.length cap) L.length (cellsA C L)) (V : Blk w p 193 (prt (ab C x) (ab C x))) (hk : k < L.length) (hroom : cap < L.length + 1) (hL : L.length ≤ 2000) (hb : b0 ≤ w.heap.size) :
    Calls Try.prog 155 #[.slice (some ⟨h, 0, none⟩) L.length cap, .int .i64 k, .slice (some ⟨p, 0, none⟩) 1 1] w fun e w' => Ins b0 C (.slice (some ⟨h, 0, none⟩) L.length cap) (insL k x L) w e w' := by
  obtain ⟨cur, B, _, hn, hm, hs, hget⟩ := own_get own
  obtain ⟨i0, hi, hz0, hz1, hz2⟩ := info_parts infoP
  have hIl := insL_len k x L
  have hlow := ins_low C k x L (by omega)
  have hig := ins_get C k x
  have htl : (cellsA C (L.take k)).length = k * 2 := by rw [cellsA_len, List.length_take, Nat.min_eq_left (by omega)]
  have htg : ∀ j, j < k * 2 → (cellsA C (L.take k))[j]? = (cellsA C L)[j]? := fun j hj => by rw [← cellsA_take, List.getElem?_take, if_pos hj]
  obtain ⟨n, hnL⟩ : ∃ n, L.length = n := ⟨_, rfl⟩
  obtain ⟨news, hnews⟩ : ∃ news, cellsA C (L.drop k) = news := ⟨_, rfl⟩
  have hnl : news.length = (n - k) * 2 := by rw [← hnews, cellsA_len, List.length_drop, hnL]
  have hng : ∀ t, t < (n - k) * 2 → cur[k * 2 + t]? = news[t]? := fun t ht => by
    rw [hget _ (by omega), ← hnews, ← cellsA_drop, List.getElem?_drop]
  have hn1 : ∀ u ∈ news, u.oneCell' = true := by rw [← hnews]; exact cellsA_one C _
  have hcn : n = cap := by omega
  subst hcn
  -- the new row
  have hold : (Builtin.firstCells i0.size k (.slice (some ⟨h, 0, none⟩) k n)).run Try.prog w.drew = .ok (cellsA C (L.take k)).toArray w.drew := by
    rw [hz1]
    refine run_firstCells_some w.drew 2 k _ k n _ htl (fun j u hu => ?_)
    have hj : j < k * 2 := by rw [← htl]; exact (List.getElem?_eq_some_iff.1 hu).1
    rw [add_lit, Nat.zero_add]
    exact (B.cell _).trans ((hget j (by omega)).trans ((htg j hj).symm.trans hu))
  have hfit : Builtin.nextslicecap (k + (n + 1 - k)) n * i0.bytes ≤ 281474976710656 := by
    rw [hz2]; exact growslice_fits (by omega) (by omega)
  have hrun : ∀ ty, (Builtin.append_ #[187, 3] ty #[.slice (some ⟨h, 0, none⟩) k n, .int .i64 ((n + 1 - k : Nat) : Int)]).run Try.prog w = _ := fun ty =>
    Go.Lib.run_append_grow_zeros (P := Try.prog) w 187 3 ty 193 i0 (.agg (prt 0 0)) .i64 .i64 Try.underlying187 Try.underlying3 hi hz0 (some ⟨h, 0, none⟩) k n _ hold (n + 1 - k) (by omega) (by omega) (by omega) (by omega) (by rw [hz2]; omega) hfit
  obtain ⟨G, hG⟩ : ∃ G, grownCap w (k + (n + 1 - k)) n 193 = G := ⟨_, rfl⟩
  have hGe : n + 1 ≤ G := by have := grownCap_ge w (k + (n + 1 - k)) n 193; rw [hG] at this; omega
  have hGm : G ≤ maxLen := by rw [← hG]; exact grownCap_le_maxLen w _ n 193 (by unfold maxLen; omega)
  rw [hG, show k + (n + 1 - k) = n + 1 by omega] at hrun
  obtain ⟨c0, hc0⟩ : ∃ c0 : Array Value, (cellsA C (L.take k)).toArray ++ Builtin.zeroCells (Value.agg (prt 0 0)).cells (n + 1 - k) ++ Builtin.zeroCells (Value.agg (prt 0 0)).cells (G - (n + 1)) = c0 := ⟨_, rfl⟩
  have hc0s : c0.size = G * 2 := by
    rw [← hc0]
    simp only [Array.size_append, List.size_toArray, zeroCells_size, htl, show (Value.agg (prt 0 0)).cells.size = 2 from rfl]
    omega
  have hc0g : ∀ j, j < k * 2 → c0[j]? = (cellsA C L)[j]? := fun j hj => by
    rw [← hc0, Array.append_assoc, Array.getElem?_append_left (by simp only [List.size_toArray]; omega), List.getElem?_toArray, htg j hj]
  rw [hc0] at hrun
  have N0 := Blk.new w.drew 193 c0
  have B0 : Blk (w.drew.alloc (.cells c0 193)) h 193 cur := (show Blk w.drew h 193 cur from B).alloc _
  have V0 : Blk (w.drew.alloc (.cells c0 193)) p 193 (prt (ab C x) (ab C x)) := V.drew.alloc _
  have hO0 : Below w.heap.size w (w.drew.alloc (.cells c0 193)) := (Below.refl w.heap.size w).drew.alloc (Nat.le_refl _) _
  have hhl := B.lt
  have hpl := V.lt
  obtain ⟨H, hH⟩ : ∃ H, w.heap.size = H := ⟨_, rfl⟩
  have N0' : Blk (w.drew.alloc (.cells c0 193)) H 193 c0 := hH ▸ N0
  obtain ⟨w0, hw0⟩ : ∃ w0, w.drew.alloc (.cells c0 193) = w0 := ⟨_, rfl⟩
  rw [hH] at hrun hO0 hhl hpl hb
  rw [hw0] at hrun N0' B0 V0 hO0
  -- the part
  have hcp1 : ∀ ty, (Builtin.copy_ #[187, 187] ty #[.slice (some ⟨H, k * 2, none⟩) (n + 1 - k) (G - k), .slice (some ⟨p, 0, none⟩) 1 1]).run Try.prog w0 = .ok (goInt (Nat.min 1 (n + 1 - k))) (w0.setCells H (k * 2) (prt (ab C x) (ab C x)).toList) := fun ty =>
    run_copy_size w0 _ _ ty 193 H (k * 2) (n + 1 - k) (G - k) ⟨p, 0, none⟩ 1 1 2 _ Try.underlying187 sz2 (by rw [show Nat.min 1 (n + 1 - k) = 1 by simp only [Nat.min_def]; split <;> omega]; rfl)
      (World.news_of_block V0)
      (fun j hj => by
        have hj2 : j < 2 := hj
        rw [N0'.cell, Array.getElem?_eq_getElem (by rw [hc0s]; omega)]; rfl) (fun j hj => N0'.frozen _) (by intro u hu; simp at hu; rcases hu with rfl | rfl <;> rfl)
  have N1 : Blk (w0.setCells H (k * 2) (prt (ab C x) (ab C x)).toList) H 193 (layAll c0 (k * 2) (prt (ab C x) (ab C x)).toList) := blk_layAll N0' _ _
  have B1 : Blk (w0.setCells H (k * 2) (prt (ab C x) (ab C x)).toList) h 193 cur := blk_setCells B0 (by omega) _ _
  have hO1 : Below H w (w0.setCells H (k * 2) (prt (ab C x) (ab C x)).toList) := below_setCells hO0 (Nat.le_refl _) _ _
  obtain ⟨w1, hw1⟩ : ∃ w1, w0.setCells H (k * 2) (prt (ab C x) (ab C x)).toList = w1 := ⟨_, rfl⟩
  rw [hw1] at hcp1 N1 B1 hO1
  have hs1 : (layAll c0 (k * 2) (prt (ab C x) (ab C x)).toList).size = G * 2 := by rw [layAll_size, hc0s]
  -- what is behind it
  have hcp2 : ∀ ty dc sc, (Builtin.copy_ #[187, 187] ty #[.slice (some ⟨H, (k + 1) * 2, none⟩) (n + 1 - (k + 1)) dc, .slice (some ⟨h, k * 2, none⟩) (n - k) sc]).run Try.prog w1.drew = .ok (goInt (Nat.min (n - k) (n + 1 - (k + 1)))) (w1.drew.setCells H ((k + 1) * 2) news) := fun ty dc sc =>
    run_copy_size w1.drew _ _ ty 193 H ((k + 1) * 2) (n + 1 - (k + 1)) dc ⟨h, k * 2, none⟩ (n - k) sc 2 news Try.underlying187 sz2 (by rw [hnl, show Nat.min (n - k) (n + 1 - (k + 1)) = n - k by simp only [Nat.min_def]; split <;> omega])
      (fun j v hj => by
        have hjl : j < (n - k) * 2 := by rw [← hnl]; exact (List.getElem?_eq_some_iff.1 hj).1
        rw [add_lit]; exact (B1.cell _).trans ((hng j hjl).trans hj))
      (fun j hj => by rw [show w1.drew.cell? ⟨H, (k + 1) * 2 + j, none⟩ = _ from N1.cell _, Array.getElem?_eq_getElem (by rw [hs1]; rw [hnl] at hj; omega)]; rfl) (fun j hj => N1.frozen _) hn1
  have fin : Ins b0 C (.slice (some ⟨h, 0, none⟩) L.length n) (insL k x L) w (.returned (.slice (some ⟨H, 0, none⟩) (n + 1) G)) (w1.drew.setCells H ((k + 1) * 2) news) := by
    have hO2 : Below H w (w1.drew.setCells H ((k + 1) * 2) news) := below_setCells hO1.drew (Nat.le_refl _) _ _
    refine ⟨H, G, by rw [hIl, hnL], ?_, .inr (by omega), fun j hj _ => hO2.block j (by omega), hO2.size, hO2.mono hb⟩
    rw [hIl, hnL]
    have hgg := hig n L hnL (by omega) (layAll (layAll c0 (k * 2) (prt (ab C x) (ab C x)).toList) ((k + 1) * 2) news) (fun j hj => by
      rw [layAll_get _ _ _ _ (by rw [hs1, hnl]; omega), if_neg (by omega), layAll_get _ _ _ _ (by rw [hc0s, show (prt (ab C x) (ab C x)).toList.length = 2 from rfl]; omega), if_neg (by omega), hc0g j hj, hlow j hj]) (fun j hj => by
      rw [layAll_get _ _ _ _ (by rw [hs1, hnl]; omega), if_neg (by omega), layAll_get _ _ _ _ (by rw [hc0s, show (prt (ab C x) (ab C x)).toList.length = 2 from rfl]; omega), if_pos (by rw [show (prt (ab C x) (ab C x)).toList.length = 2 from rfl]; omega)]
      congr 1; omega) (fun j hj => by
      rw [layAll_get _ _ _ _ (by rw [hs1, hnl]; omega), if_pos (by rw [hnl]; omega), hnews]
      congr 1; omega)
    exact own_of_get (blk_layAll (show Blk w1.drew H 193 _ from N1) _ _) hb (by omega) hGm (by rw [layAll_size, hs1]) (by rw [cellsA_len, hIl, hnL]) hgg
  rw [hnL] at fin hk ⊢
  have HX := Lib.hid fin
  have HC1 := Lib.hid hcp1
  have HC2 := Lib.hid hcp2
  have HRUN := Lib.hid hrun
  clear fin own hget hig hlow hIl hng hn1 B1 B V hnews hcp1 hcp2 hnl hs1 hs hw1 hw0 hc0 hc0s hc0g hold hfit hrun hO1 hO0 N1 N0 N0' B0 V0 hG htl htg
  unfold maxLen at hm hGm
  have hz1 : ¬ ((1 : Int) = 0) := by omega
  have hz2 : ¬ ((k : Int) = (n : Int)) := by omega
  have hin : k ≤ n := by omega
  have hb2 : ¬ (G = k + 1) := by omega
  have hb4 : ¬ (G = k) := by omega
  have hb7 : ¬ (n = k) := by omega
  have hb5 : (0 : Int) ≤ (k : Int) + 1 := by omega
  have hb6 : (k : Int) + 1 ≤ (n : Int) + 1 := by omega
  have hw1' : IntKind.i64.wrap ((k : Int) + 1) = (k : Int) + 1 := by rw [IntKind.wrap_i64]; omega
  have hw2' : IntKind.i64.wrap ((n : Int) + 1) = (n : Int) + 1 := by rw [IntKind.wrap_i64]; omega
  have hw3' : IntKind.i64.wrap ((n : Int) + 1 - (k : Int)) = ((n + 1 - k : Nat) : Int) := by rw [IntKind.wrap_i64]; omega
  have hw4' : (n : Int) + 1 - (k : Int) = ((n + 1 - k : Nat) : Int) := by omega
  have htn : ((k : Int) + 1).toNat = k + 1 := by omega
  go_enter Try.func155, Try.ntmps155
  go_upto_region 10 with (at_builtin; refine Lib.wpList_append_run _ rfl _ _ _ _ rfl _ _ rfl rfl _ _ (HRUN.out _) ?_)
  clear hw3' hw4'
  go_wp2_with (refine wpList_copy_q rfl (.tmp 43) (.tmp 44) 187 187 rfl rfl rfl (HC1.out _) ?_)
  go_region_law (refine step_copy_q rfl _ _ 187 187 rfl (by simp [Act.eval, Act.put]; rfl) (by simp [Act.eval, Act.put]; rfl) (HC2.out _ _ _) ?_)
  go_wp2_with fail
  go_ret
  exact HX.out
theorem insert_at (b0 C p x k : Nat) (L : List (Nat × Nat)) (v : Value) (w : World) (own : w.ownsRow b0 193 2 v L.length (cellsA C L)) (V : Blk w p 193 (prt (ab C x) (ab C x))) (hp : v.ownBlock ≠ some p) (hk : k ≤ L.length) (hL : L.length ≤ 2000) (hb : b0 ≤ w.heap.size) :
    Calls Try.prog 155 #[v, .int .i64 k, .slice (some ⟨p, 0, none⟩) 1 1] w fun e w' => Ins b0 C v (insL k x L) w e w' := by
  by_cases h : k = L.length
  · subst h
    exact ins_end b0 C p x L v w own V hb hL
  · rcases own.2 with ⟨rfl, h0⟩ | ⟨g, cap, cur, rfl, _⟩
    · omega
    · by_cases hc : L.length + 1 ≤ cap
      · exact ins_room b0 C p x k g cap L w own V (fun e => hp (by rw [e]; rfl)) (by omega) hc hL
      · exact ins_grow b0 C p x k g cap L w own V (by omega) (by omega) hL hb
end Go.Proofs.Ythddacgdmngfhaa.gap
