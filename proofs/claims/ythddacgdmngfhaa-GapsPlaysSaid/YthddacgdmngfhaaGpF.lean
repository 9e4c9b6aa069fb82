/- Layer 16: a part put in the middle of parts. -/
import Derived.Test.YthddacgdmngfhaaGpE
namespace Go.Proofs.Ythddacgdmngfhaa.gap
open Go.Sort (grow)
open Go.ChangeShapes Go.WideShapes Go.ChangeAt Go.RowKit kit
set_option maxRecDepth 100000
theorem add_lit (h o j : Nat) : (⟨h, o, none⟩ : Addr).add j = ⟨h, o + j, none⟩ := by unfold Addr.add; split <;> simp_all
theorem sz2 : (Try.prog.info? 193).map (·.size) = some 2 := by kernel_rfl
/-- The cells behind a part that is put in. -/
theorem ins_get (C k x n : Nat) (L : List (Nat × Nat)) (hn : L.length = n) (hk : k ≤ n) (cur : Array Value) (hget : ∀ j, j < k * 2 → cur[j]? = (cellsA C (insL k x L))[j]?) (h1 : ∀ j, j < 2 → cur[k * 2 + j]? = (prt (ab C x) (ab C x)).toList[j]?) (h2 : ∀ j, j < (n - k) * 2 → cur[(k + 1) * 2 + j]? = (cellsA C (L.drop k))[j]?) :
    ∀ j, j < (n + 1) * 2 → cur[j]? = (cellsA C (insL k x L))[j]? := by
  intro j hj
  by_cases h : j < k * 2
  · exact hget j h
  · have hlt : (cellsA C (L.take k)).length = k * 2 := by rw [cellsA_len, List.length_take, hn, Nat.min_eq_left hk]
    unfold insL
    rw [cellsA_append, List.getElem?_append_right (by omega), hlt, show cellsA C ((x, x) :: L.drop k) = (prt (ab C x) (ab C x)).toList ++ cellsA C (L.drop k) from rfl]
    by_cases h' : j < k * 2 + 2
    · rw [List.getElem?_append_left (by show j - k * 2 < 2; omega), ← h1 (j - k * 2) (by omega)]
      congr 1; omega
    · rw [List.getElem?_append_right (by show 2 ≤ j - k * 2; omega), show (prt (ab C x) (ab C x)).toList.length = 2 from rfl, ← h2 (j - k * 2 - 2) (by omega)]
      congr 1; omega
theorem ins_low (C k x : Nat) (L : List (Nat × Nat)) (hk : k ≤ L.length) (j : Nat) (hj : j < k * 2) : (cellsA C (insL k x L))[j]? = (cellsA C L)[j]? := by
  have hlt : (cellsA C (L.take k)).length = k * 2 := by rw [cellsA_len, List.length_take, Nat.min_eq_left hk]
  unfold insL
  rw [cellsA_append, List.getElem?_append_left (by omega), ← cellsA_take, List.getElem?_take, if_pos hj]
set_option maxHeartbeats 4000000 in
theorem ins_room (b0 C p x k h cap : Nat) (L : List (Nat × Nat)) (w : World) (own : w.ownsRow b0 193 2 (.slice (some ⟨h, 0, none⟩) L.length cap) L.length (cellsA C L)) (V : Blk w p 193 (prt (ab C x) (ab C x))) (hp : p ≠ h) (hk : k < L.length) (hroom : L.length + 1 ≤ cap) (hL : L.length ≤ 2000) :
    Calls Try.prog 155 #[.slice (some ⟨h, 0, none⟩) L.length cap, .int .i64 k, .slice (some ⟨p, 0, none⟩) 1 1] w fun e w' => Ins b0 C (.slice (some ⟨h, 0, none⟩) L.length cap) (insL k x L) w e w' := by
  obtain ⟨cur, B, hb, hn, hm, hs, hget⟩ := own_get own
  have hlen := cellsA_len C L
  have hIl := insL_len k x L
  have hlow := ins_low C k x L (by omega)
  have hig := ins_get C k x
  obtain ⟨n, hnL⟩ : ∃ n, L.length = n := ⟨_, rfl⟩
  obtain ⟨news, hnews⟩ : ∃ news, cellsA C (L.drop k) = news := ⟨_, rfl⟩
  have hnl : news.length = (n - k) * 2 := by rw [← hnews, cellsA_len, List.length_drop, hnL]
  have hng : ∀ t, t < (n - k) * 2 → cur[k * 2 + t]? = news[t]? := fun t ht => by
    rw [hget _ (by omega), ← hnews, ← cellsA_drop, List.getElem?_drop]
  have hn1 : ∀ u ∈ news, u.oneCell' = true := by rw [← hnews]; exact cellsA_one C _
  have hcapn : (n + 1) * 2 ≤ cap * 2 := Nat.mul_le_mul_right 2 (by omega)
  have CC : ∀ j, j < cap * 2 → (w.cell? ⟨h, j, none⟩).isSome = true ∧ w.frozen? ⟨h, j, none⟩ = false := fun j hj => by
    refine ⟨?_, B.frozen j⟩
    rw [B.cell j, Array.getElem?_eq_getElem (by omega)]
    rfl
  -- not over one another
  have hov : ∀ lb cb, (callFunc 179 #[.slice (some ⟨p, 0, none⟩) 1 1, .slice (some ⟨h, (k + 1) * 2, none⟩) lb cb]).run Try.prog w = .ok (.value (.bool false)) w := fun lb cb => by
    rw [run_callFunc_extern Try.func179 (by kernel_rfl) (by kernel_rfl) (by kernel_rfl) (e := Extern.SlicesOverlaps.overlaps #[187, 187] #[4]) (by kernel_rfl),
      Lib.run_overlaps_apart w 187 4 193 Try.underlying187 2 (fun w => by kernel_rfl) ⟨p, 0, none⟩ ⟨h, (k + 1) * 2, none⟩ 1 1 lb cb hp 193 193 2 cur.size (by rw [World.shape?, V]; rfl) (by rw [World.shape?, B]) (by omega) (V.frozen 0) (V.frozen 2)]
    rfl
  -- what is moved to the right
  have hcp1 : ∀ ty dc sc, (Builtin.copy_ #[187, 187] ty #[.slice (some ⟨h, (k + 1) * 2, none⟩) (n + 1 - (k + 1)) dc, .slice (some ⟨h, k * 2, none⟩) (n + 1 - k) sc]).run Try.prog w.drew = .ok (goInt (Nat.min (n + 1 - k) (n + 1 - (k + 1)))) (w.drew.setCells h ((k + 1) * 2) news) := fun ty dc sc =>
    run_copy_size w.drew _ _ ty 193 h ((k + 1) * 2) (n + 1 - (k + 1)) dc ⟨h, k * 2, none⟩ (n + 1 - k) sc 2 news Try.underlying187 sz2 (by rw [hnl, show Nat.min (n + 1 - k) (n + 1 - (k + 1)) = n - k by simp only [Nat.min_def]; split <;> omega])
      (fun j v hj => by
        have hjl : j < (n - k) * 2 := by rw [← hnl]; exact (List.getElem?_eq_some_iff.1 hj).1
        rw [add_lit]; exact (B.cell _).trans ((hng j hjl).trans hj))
      (fun j hj => (CC _ (by rw [hnl] at hj; omega)).1) (fun j hj => (CC _ (by rw [hnl] at hj; omega)).2) hn1
  have B1 : Blk (w.drew.setCells h ((k + 1) * 2) news) h 193 (layAll cur ((k + 1) * 2) news) := blk_layAll (show Blk w.drew h 193 cur from B) _ _
  have V1 : Blk (w.drew.setCells h ((k + 1) * 2) news) p 193 (prt (ab C x) (ab C x)) := blk_setCells V.drew hp _ _
  have hs1 : (layAll cur ((k + 1) * 2) news).size = cap * 2 := by rw [layAll_size, hs]
  obtain ⟨w1, hw1⟩ : ∃ w1, w1 = w.drew.setCells h ((k + 1) * 2) news := ⟨_, rfl⟩
  rw [← hw1] at B1 V1 hcp1
  have hcp2 : ∀ ty dc, (Builtin.copy_ #[187, 187] ty #[.slice (some ⟨h, k * 2, none⟩) (n + 1 - k) dc, .slice (some ⟨p, 0, none⟩) 1 1]).run Try.prog w1 = .ok (goInt (Nat.min 1 (n + 1 - k))) (w1.setCells h (k * 2) (prt (ab C x) (ab C x)).toList) := fun ty dc =>
    run_copy_size w1 _ _ ty 193 h (k * 2) (n + 1 - k) dc ⟨p, 0, none⟩ 1 1 2 _ Try.underlying187 sz2 (by rw [show Nat.min 1 (n + 1 - k) = 1 by simp only [Nat.min_def]; split <;> omega]; rfl)
      (World.news_of_block V1)
      (fun j hj => by
        have hj2 : j < 2 := hj
        rw [B1.cell, Array.getElem?_eq_getElem (by rw [hs1]; omega)]; rfl) (fun j hj => B1.frozen _) (by intro u hu; simp at hu; rcases hu with rfl | rfl <;> rfl)
  -- what it is then
  have fin : Ins b0 C (.slice (some ⟨h, 0, none⟩) L.length cap) (insL k x L) w (.returned (.slice (some ⟨h, 0, none⟩) (n + 1) cap)) (w1.setCells h (k * 2) (prt (ab C x) (ab C x)).toList) := by
    have hO : Only h w (w1.setCells h (k * 2) (prt (ab C x) (ab C x)).toList) := by rw [hw1]; exact (((Only.refl h w).drew).setCells _ _).setCells _ _
    refine ⟨h, cap, by rw [hIl, hnL], ?_, .inl rfl, fun j hj hne => hO.block j hj (fun e => hne (by rw [e]; rfl)), hO.size, by rw [hw1]; exact below_setCells (below_setCells ((Below.refl b0 w).drew) hb _ _) hb _ _⟩
    rw [hIl, hnL]
    have hgg := hig n L hnL (by omega) (layAll (layAll cur ((k + 1) * 2) news) (k * 2) (prt (ab C x) (ab C x)).toList) (fun j hj => by
      rw [layAll_get _ _ _ _ (by rw [hs1, show (prt (ab C x) (ab C x)).toList.length = 2 from rfl]; omega), if_neg (by omega), layAll_get _ _ _ _ (by rw [hnl, hs]; omega), if_neg (by omega), hget j (by omega), hlow j hj]) (fun j hj => by
      rw [layAll_get _ _ _ _ (by rw [hs1, show (prt (ab C x) (ab C x)).toList.length = 2 from rfl]; omega), if_pos (by rw [show (prt (ab C x) (ab C x)).toList.length = 2 from rfl]; omega)]
      congr 1; omega) (fun j hj => by
      rw [layAll_get _ _ _ _ (by rw [hs1, show (prt (ab C x) (ab C x)).toList.length = 2 from rfl]; omega), if_neg (by rw [show (prt (ab C x) (ab C x)).toList.length = 2 from rfl]; omega), layAll_get _ _ _ _ (by rw [hnl, hs]; omega), if_pos (by rw [hnl]; omega), hnews]
      congr 1; omega)
    exact own_of_get (blk_layAll B1 _ _) hb (by omega) hm (by rw [layAll_size, hs1]) (by rw [cellsA_len, hIl, hnL]) hgg
  rw [hnL] at fin hroom hk hn ⊢
  have HX := Lib.hid fin
  have HC1 := Lib.hid hcp1
  have HC2 := Lib.hid hcp2
  have hov' := hov
  clear fin own hget hig hlow hIl hlen hng hn1 CC B1 V1 B V hnews hcp1 hcp2 hov hnl hs1 hs hcapn hw1
  unfold maxLen at hm
  have hz1 : ¬ ((1 : Int) = 0) := by omega
  have hz2 : ¬ ((k : Int) = (n : Int)) := by omega
  have hin : k ≤ n := by omega
  have hb2 : ¬ (cap = k + 1) := by omega
  have hb3 : (k : Int) ≤ (n : Int) + 1 := by omega
  have hb4 : ¬ (cap = k) := by omega
  have hb5 : (0 : Int) ≤ (k : Int) + 1 := by omega
  have hb6 : (k : Int) + 1 ≤ (n : Int) + 1 := by omega
  have hw1' : IntKind.i64.wrap ((k : Int) + 1) = (k : Int) + 1 := by rw [IntKind.wrap_i64]; omega
  have hw2' : IntKind.i64.wrap ((n : Int) + 1) = (n : Int) + 1 := by rw [IntKind.wrap_i64]; omega
  have htn : ((k : Int) + 1).toNat = k + 1 := by omega
  have htn2 : ((n : Int) + 1).toNat = n + 1 := by omega
  go_enter Try.func155, Try.ntmps155
  go_wp2_with (simp only [hov'])
  go_region_law (refine step_copy_q rfl _ _ 187 187 rfl (by simp [Act.eval, Act.put]; rfl) (by simp [Act.eval, Act.put]; rfl) (HC1.out _ _ _) ?_)
  go_upto_region 16 with fail
  go_wp2_with (refine wpList_copy_q rfl (.tmp 80) (.tmp 81) 187 187 rfl rfl rfl (HC2.out _ _) ?_)
  go_ret
  exact HX.out
end Go.Proofs.Ythddacgdmngfhaa.gap
