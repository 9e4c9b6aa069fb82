/- Layer 31: packets under way as a list: one doubled, one taken, all of them. -/
import Derived.Test.YtdocphkpeonldaaNplB
import Derived.Lib.BufferMore
namespace Go.Proofs.Ytdocphkpeonldaa.npl
open Go.Sort (grow)
open Go.ChangeShapes Go.WideShapes Go.ChangeAt Go.RowKit kit storm
set_option maxRecDepth 100000

theorem ir_one (x : It) : (ir x).all (·.oneCell') = true := by kernel_rfl
theorem in_range {k n : Nat} (h : k < n) : decide (0 ≤ (k : Int) ∧ (k : Int) < (n : Int)) = true := decide_eq_true ⟨by omega, by omega⟩
theorem own_cel {w : World} {b0 h cap n : Nat} {L : List It} (own : w.ownsRow b0 70 6 (.slice (some ⟨h, 0, none⟩) n cap) L.length (cellsI L)) (hn : n = L.length) : Cel w h 0 (cellsI L).toArray := by
  subst hn
  exact Cel.of_owns own
theorem double_no {b0 g : Nat} {l : Value} {L : List It} {w : World} (n : NS b0 g l L w) (x : Int) (hx : ¬ (0 ≤ x ∧ x < L.length)) : Calls Try.prog 56 #[.pointer (some ⟨g, 0, none⟩), .int .i64 x] w fun e w' => e = .returned (.bool false) ∧ w' = w := by
  have hh := has_ns n x
  rw [decide_eq_false hx] at hh
  go_enter Try.func56, Try.ntmps56
  go_wp2_with fail
  refine hh.mono ?_
  rintro e w1 ⟨rfl, rfl⟩
  go_wp2
  go_ret
  exact ⟨rfl, rfl⟩
set_option maxHeartbeats 2000000 in
theorem double_ns {b0 g : Nat} {l : Value} {L : List It} {w : World} (n : NS b0 g l L w) (hL : L.length < 300) (k : Nat) (hk : k < L.length) : Calls Try.prog 56 #[.pointer (some ⟨g, 0, none⟩), .int .i64 k] w fun e w' => e = .returned (.bool true) ∧ (∃ l', NS b0 g l' (L ++ [L.getD k it0]) w' ∧ ∀ k, l'.ownBlock = some k → l.ownBlock = some k ∨ w.heap.size ≤ k) ∧ Frm g l w w' ∧ Below b0 w w' := by
  have hh := has_ns n k
  rw [in_range hk] at hh
  have hp := put_ns n hL (L.getD k it0)
  obtain ⟨oa, cap, hl, hlc, hcm, ho, _⟩ := own_shape n.own
  obtain ⟨h, rfl⟩ := ho (by omega)
  have own := n.own
  rw [hl] at own
  have K := cel_of_cells (own_cel own rfl) k hk
  have c0 : w.cell? ⟨g, 0, none⟩ = some l := n.B.cell 0
  rw [hl] at c0
  have HP := Lib.hid hp
  obtain ⟨m, hm⟩ : ∃ m, L.length = m := ⟨_, rfl⟩
  rw [hm] at c0 hk
  have hm3 : (m : Int) < 300 := by omega
  have hm4 : m < 300 := by omega
  have szz := szI (L.getD k it0)
  generalize ir (L.getD k it0) = row at *
  clear hp own n hl hL
  go_enter Try.func56, Try.ntmps56
  go_wp2_with fail
  refine hh.mono ?_
  rintro e w1 ⟨rfl, hw⟩
  subst hw
  go_wp2_with (refine wpList_load_at_g (by rfl) 70 _ rfl h (k * 6) rfl row _ K Try.underlying70 rfl szz ?_)
  refine HP.out.mono ?_
  rintro e w2 ⟨rfl, h1, h2, h3⟩
  go_wp2_with fail
  go_ret
  exact ⟨rfl, h1, h2, h3⟩
set_option maxHeartbeats 2000000 in
theorem take_no {b0 g : Nat} {l : Value} {L : List It} {w : World} (n : NS b0 g l L w) (x : Int) (hx : ¬ (0 ≤ x ∧ x < L.length)) : Calls Try.prog 55 #[.pointer (some ⟨g, 0, none⟩), .int .i64 x] w fun e w' => e = .returned (.tuple #[.agg itz, .bool false]) ∧ Below w.heap.size w w' := by
  have n1 := n.below ((Below.refl w.heap.size w).alloc (Nat.le_refl _) (.cells itz 70)) rfl
  have R1 := Blk.new w 70 itz
  have bel1 := (Below.refl w.heap.size w).alloc (Nat.le_refl _) (.cells itz 70)
  have hh := has_ns n1 x
  rw [decide_eq_false hx] at hh
  go_enter Try.func55, Try.ntmps55
  go_upto_region 1 with fail
  generalize w.alloc (.cells itz 70) = w1 at *
  generalize hr : w.heap.size = r at *
  go_wp2_with fail
  refine hh.mono ?_
  rintro e w2 ⟨rfl, hw⟩
  subst hw
  have Z := (Cel.of_blk R1).setCells_same itz.toList rfl
  have bel2 := below_setCells bel1 (Nat.le_refl r) 0 itz.toList
  go_wp2_with (refine wpList_store_at rfl 70 _ _ rfl r 0 itz rfl rfl itz (Cel.of_blk R1) (szI it0) rfl (by kernel_rfl) ?_)
  exact bodyPost_ret (v := .tuple #[.agg itz, .bool false]) ((results_cell_tmp_at rfl _ _ r 0 itz _ rfl (Z.congr rfl) Try.underlying70 rfl (szI it0)).trans rfl) rfl ⟨rfl, by first | exact bel2 | (rw [hr]; exact bel2)⟩
set_option maxHeartbeats 4000000 in
theorem take_ns {b0 g : Nat} {l : Value} {L : List It} {w : World} (n : NS b0 g l L w) (k : Nat) (hk : k < L.length) : Calls Try.prog 55 #[.pointer (some ⟨g, 0, none⟩), .int .i64 k] w fun e w' => e = .returned (.tuple #[.agg (ir (L.getD k it0)), .bool true]) ∧ (∃ l', NS b0 g l' (L.eraseIdx k) w' ∧ ∀ k, l'.ownBlock = some k → l.ownBlock = some k ∨ w.heap.size ≤ k) ∧ Frm g l w w' ∧ Below b0 w w' := by
  have bw1 := (Below.refl w.heap.size w).alloc (Nat.le_refl _) (.cells itz 70)
  have n1 := n.below bw1 rfl
  have R1 := Blk.new w 70 itz
  have hg := n.hg
  have hgl := n.B.lt
  have hol := own_lt n.own
  have hh := has_ns n1 k
  rw [in_range hk] at hh
  obtain ⟨oa, cap, hl, hlc, hcm, ho, _⟩ := own_shape n.own
  obtain ⟨h, rfl⟩ := ho (by omega)
  have own := n1.own
  rw [hl] at own
  have K := cel_of_cells (own_cel own rfl) k hk
  have c0 : (w.alloc (.cells itz 70)).cell? ⟨g, 0, none⟩ = some l := n1.B.cell 0
  rw [hl] at c0
  have hne := n.ne h (by rw [hl]; rfl)
  have hhl := hol h (by rw [hl]; rfl)
  obtain ⟨m, hm⟩ : ∃ m, L.length = m := ⟨_, rfl⟩
  have hwk : IntKind.i64.wrap ((k : Int) + 1) = (k : Int) + 1 := by unfold maxLen at hcm; exact IntWalk.i64_in _ (by omega)
  have szz := szI (L.getD k it0)
  have hone := ir_one (L.getD k it0)
  have hsz6 : (ir (L.getD k it0)).size = 6 := rfl
  have hD := fun w own => delete_at b0 h cap k L w own hk
  rw [hm] at c0 hD own
  have hkm : k < m := by omega
  have B1 := n1.B
  rw [hl] at B1
  rw [hm] at B1
  generalize ir (L.getD k it0) = row at *
  clear n n1 hlc
  go_enter Try.func55, Try.ntmps55
  go_upto_region 1 with fail
  generalize w.alloc (.cells itz 70) = w1 at *
  generalize hr : w.heap.size = r at *
  have hr1 := R1.lt
  go_wp2_with fail
  refine hh.mono ?_
  rintro e w2 ⟨rfl, hw⟩
  subst hw
  have X2 := (Cel.of_blk (Blk.new w2 70 itz)).setCells_same row.toList (by rw [Array.length_toList, hsz6]; rfl)
  have X2 : Cel ((w2.alloc (.cells itz 70)).setCells w2.heap.size 0 row.toList) w2.heap.size 0 row := X2.congr (by simp)
  have B2 := blk_setCells (B1.alloc (.cells itz 70)) (show g ≠ w2.heap.size by have := B1.lt; omega) 0 row.toList
  have R2 := blk_setCells (R1.alloc (.cells itz 70)) (show r ≠ w2.heap.size by omega) 0 row.toList
  have bw2 := below_setCells (bw1.alloc (by omega) (.cells itz 70)) (show r ≤ w2.heap.size by omega) 0 row.toList
  have hs2 : w2.heap.size < ((w2.alloc (.cells itz 70)).setCells w2.heap.size 0 row.toList).heap.size := X2.1
  have own2 : ((w2.alloc (.cells itz 70)).setCells w2.heap.size 0 row.toList).ownsRow b0 70 6 (.slice (some ⟨h, 0, none⟩) m cap) m (cellsI L) := by
    have hb := below_setCells ((Below.refl w2.heap.size w2).alloc (Nat.le_refl _) (.cells itz 70)) (Nat.le_refl _) 0 row.toList
    exact own_below own hb (fun q hq => by simp [Value.ownBlock] at hq; omega)
  go_upto_region 4 with (first | (refine wpList_load_at rfl 70 _ rfl h (k * 6) rfl row _ K Try.underlying70 rfl szz ?_) | (refine wpList_store_at rfl 70 _ _ rfl w2.heap.size 0 row rfl rfl itz (Cel.of_blk (Blk.new w2 70 itz)) szz (by rw [hsz6]; rfl) hone ?_))
  clear K B1 R1 bw1 own c0 hh
  generalize (w2.alloc (.cells itz 70)).setCells w2.heap.size 0 row.toList = w3 at *
  generalize w2.heap.size = x at *
  have c0 : w3.cell? ⟨g, 0, none⟩ = some (.slice (some ⟨h, 0, none⟩) m cap) := B2.cell 0
  go_wp2_with fail
  refine (hD _ own2).mono ?_
  rintro e w4 ⟨rfl, own4, O4, bel4⟩
  have B4 := O4.blk B2 (Ne.symm hne)
  have R4 := O4.blk R2 (by omega)
  have X4 := O4.cel X2 (by omega)
  have f0 : w4.frozen? ⟨g, 0, none⟩ = false := B4.frozen 0
  have c0 : w4.cell? ⟨g, 0, none⟩ = some (.slice (some ⟨h, 0, none⟩) m cap) := B4.cell 0
  go_upto_region 5 with fail
  have B5 : Blk (w4.setCell ⟨g, 0, none⟩ (.slice (some ⟨h, 0, none⟩) (m - 1 : Nat) cap)) g 194 #[.slice (some ⟨h, 0, none⟩) (m - 1 : Nat) cap, .int .i64 0] := B4.set_ 0 _
  have R5 := R4.far (p := ⟨g, 0, none⟩) (show r ≠ g by omega) (.slice (some ⟨h, 0, none⟩) (m - 1 : Nat) cap)
  have X5 := X4.far (p := ⟨g, 0, none⟩) (show x ≠ g by omega) (.slice (some ⟨h, 0, none⟩) (m - 1 : Nat) cap)
  have own5 : (w4.setCell ⟨g, 0, none⟩ (.slice (some ⟨h, 0, none⟩) (m - 1 : Nat) cap)).ownsRow b0 70 6 (.slice (some ⟨h, 0, none⟩) (m - 1) cap) (m - 1) (cellsI (L.eraseIdx k)) := own_other own4 (fun q hq => Below.heap_setCell _ _ _ _ (by simp [Value.ownBlock] at hq; show q ≠ g; omega))
  have bel5 : Below b0 w (w4.setCell ⟨g, 0, none⟩ (.slice (some ⟨h, 0, none⟩) (m - 1 : Nat) cap)) := ((bw2.mono (by omega)).trans bel4).setCell (p := ⟨g, 0, none⟩) hg _
  have fr5 : Frm g l w (w4.setCell ⟨g, 0, none⟩ (.slice (some ⟨h, 0, none⟩) (m - 1 : Nat) cap)) := by
    refine ⟨?_, fun q hq hqg hql => ?_⟩
    · have h1 := bw2.size
      have h2 := O4.size
      simp [World.setCell]
      omega
    · rw [Below.heap_setCell w4 ⟨g, 0, none⟩ _ q hqg]
      exact (O4.block q (by omega) (fun e => hql (by rw [hl, e]; rfl))).trans (bw2.block q (by omega))
  clear B2 R2 X2 own2 own4 B4 R4 X4 c0 f0 bel4 O4 bw2
  generalize w4.setCell ⟨g, 0, none⟩ (.slice (some ⟨h, 0, none⟩) (m - 1 : Nat) cap) = w5 at *
  have Z := (Cel.of_blk R5).setCells_same row.toList (by rw [Array.length_toList, hsz6]; rfl)
  have Z : Cel (w5.setCells r 0 row.toList) r 0 row := Z.congr (by simp)
  have B6 := blk_setCells B5 (show g ≠ r by omega) 0 row.toList
  have own6 := own_other own5 (w' := w5.setCells r 0 row.toList) (fun q hq => (below_setCells (Below.refl (h + 1) w5) (show h + 1 ≤ r by omega) 0 row.toList).block q (by simp [Value.ownBlock] at hq; omega))
  have bel6 := below_setCells bel5 (show b0 ≤ r by omega) 0 row.toList
  have fr6 : Frm g l w (w5.setCells r 0 row.toList) := by
    have hb := below_setCells (Below.refl r w5) (Nat.le_refl r) 0 row.toList
    exact ⟨Nat.le_trans fr5.size hb.size, fun q hq hqg hql => (hb.block q (by omega)).trans (fr5.block q hq hqg hql)⟩
  go_wp2_with (first | (refine wpList_load_at rfl 70 _ rfl x 0 rfl row _ X5 Try.underlying70 rfl szz ?_) | (refine wpList_store_at rfl 70 _ _ rfl r 0 row rfl rfl itz (Cel.of_blk R5) szz (by rw [hsz6]; rfl) hone ?_))
  exact bodyPost_ret (v := .tuple #[.agg row, .bool true]) ((results_cell_tmp_at rfl _ _ r 0 row _ rfl Z Try.underlying70 rfl szz).trans rfl) rfl ⟨rfl, ⟨_, ⟨B6, by rw [List.length_eraseIdx, if_pos (by omega), hm]; exact own6, fun q hq => by simp [Value.ownBlock] at hq; omega, hg⟩, fun q hq => by simp [Value.ownBlock] at hq; subst hq; exact .inl (by rw [hl]; rfl)⟩, fr6, bel6⟩
end Go.Proofs.Ytdocphkpeonldaa.npl
