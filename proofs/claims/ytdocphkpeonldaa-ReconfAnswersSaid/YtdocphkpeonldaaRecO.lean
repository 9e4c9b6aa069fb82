/- Layer 28: streams are asked for, of any state: what Ask, At, Send do. -/
import Derived.Test.YtdocphkpeonldaaRecM
namespace Go.Proofs.Ytdocphkpeonldaa.rec_
open Go.Sort (grow)
open Go.ChangeShapes Go.WideShapes Go.ChangeAt Go.RowKit kit oct
set_option maxRecDepth 100000

theorem ask_bad (g : Nat) (a b m t x n : Int) (w : World) (B : Blk w g 149 (st a b m t x)) (h : n < 1 ∨ 16 < n) : Calls Try.prog 23 #[.pointer (some ⟨g, 0, none⟩), .int .i64 n] w fun e w' => e = .returned (.int .i64 1) ∧ w' = w := by
  have c2 : w.cell? ⟨g, 2, none⟩ = some (.int .i64 m) := B.cell 2
  go_enter Try.func23, Try.ntmps23
  go_wp2_with fail
  all_goals first | (exfalso; omega) | (go_ret; exact ⟨rfl, rfl⟩)
theorem ask_full (g : Nat) (a b m t x n : Int) (w : World) (B : Blk w g 149 (st a b m t x)) (h : 1 ≤ n ∧ n ≤ 16) (hm : 0 < m) : Calls Try.prog 23 #[.pointer (some ⟨g, 0, none⟩), .int .i64 n] w fun e w' => e = .returned (.int .i64 6) ∧ w' = w := by
  have c2 : w.cell? ⟨g, 2, none⟩ = some (.int .i64 m) := B.cell 2
  go_enter Try.func23, Try.ntmps23
  go_wp2_with fail
  all_goals first | (exfalso; omega) | (go_ret; exact ⟨rfl, rfl⟩)
theorem ask_ok (g : Nat) (a b t x n : Int) (w : World) (B : Blk w g 149 (st a b 0 t x)) (h : 1 ≤ n ∧ n ≤ 16) : Calls Try.prog 23 #[.pointer (some ⟨g, 0, none⟩), .int .i64 n] w fun e w' => e = .returned (.int .i64 0) ∧ w' = w.setCell ⟨g, 2, none⟩ (.int .i64 n) := by
  have c2 : w.cell? ⟨g, 2, none⟩ = some (.int .i64 0) := B.cell 2
  have f2 : w.frozen? ⟨g, 2, none⟩ = false := B.frozen 2
  go_enter Try.func23, Try.ntmps23
  go_wp2_with fail
  all_goals first | (exfalso; omega) | (go_ret; exact ⟨rfl, rfl⟩)
/-- When it was sent. -/
theorem at_of (g : Nat) (a b n t x : Int) (w : World) (B : Blk w g 149 (st a b n t x)) : Calls Try.prog 27 #[.pointer (some ⟨g, 0, none⟩)] w fun e w' => e = .returned (.tuple #[.int .i64 (if t = 0 then 0 else x), .bool (decide (t ≠ 0))]) ∧ w' = w := by
  have c4 : w.cell? ⟨g, 4, none⟩ = some (.int .i64 x) := B.cell 4
  go_enter Try.func27, Try.ntmps27
  go_wp2_with fail
  refine (times_of g a b n t x _ B).mono ?_
  rintro e w2 ⟨rfl, rfl⟩
  by_cases h : t = 0
  · subst h
    go_wp2_with fail
    go_ret2
    exact ⟨rfl, rfl⟩
  · have h' : (t == 0) = false := by simpa using h
    go_wp2_with fail
    go_ret2
    exact ⟨rfl, rfl⟩
theorem szZ : (Try.prog.info? 43).map (·.size) = some c0.size := by show _ = some 15; kernel_rfl
theorem c0_one : c0.all (·.oneCell') = true := by kernel_rfl
set_option maxHeartbeats 4000000 in
theorem send_none (b0 g : Nat) (a b t x now : Int) (w : World) (B : Blk w g 149 (st a b 0 t x)) (hb0 : b0 ≤ w.heap.size) :
    Calls Try.prog 24 #[.pointer (some ⟨g, 0, none⟩), .int .i64 now] w fun e w' => e = .returned (.tuple #[.agg c0, .bool false]) ∧ Keep w.heap.size w.heap.size w w' ∧ Below b0 w w' := by
  have B1 := B.alloc (.cells c0 43)
  have R1 := Blk.new w 43 c0
  have k1 := (Keep.refl w.heap.size w.heap.size w).alloc (Nat.le_refl _) (.cells c0 43)
  have bel1 := (Below.refl b0 w).alloc hb0 (.cells c0 43)
  go_enter Try.func24, Try.ntmps24
  go_upto_region 1 with (fail)
  rw [show w.alloc (.cells #[.int .i64 0, .int .i64 0, .int .u32 0, .int .i64 0, .int .i64 0, .int .u32 0, .string ⟨#[]⟩, .int .u32 0, .int .u32 0, .int .i64 0, .int .i64 0, .slice none 0 0, .slice none 0 0, .slice none 0 0, .slice none 0 0] 43) = w.alloc (.cells c0 43) from rfl]
  generalize w.alloc (.cells c0 43) = w1 at *
  generalize hr : w.heap.size = r at *
  go_wp2_with fail
  refine (want_of g a b 0 t x _ B1).mono ?_
  rintro e w2 ⟨rfl, rfl⟩
  have Z := (Cel.of_blk R1).setCells_same c0.toList rfl
  have k2 := k1.setR (Nat.le_refl r) 0 c0.toList
  have bel2 := below_setCells bel1 hb0 0 c0.toList
  go_wp2_with (refine wpList_store_at rfl 43 _ _ rfl r 0 c0 rfl rfl c0 (Cel.of_blk R1) szZ rfl c0_one ?_)
  exact bodyPost_ret (v := .tuple #[.agg c0, .bool false]) ((results_cell_tmp_at rfl _ _ r 0 c0 _ rfl (Z.congr rfl) Try.underlying43 rfl szZ).trans rfl) rfl ⟨rfl, by rw [hr]; exact k2, bel2⟩
set_option maxHeartbeats 4000000 in
theorem send_all (b0 g a m : Nat) (b t t' x now : Int) (ha : a ≤ 4294967295) (hm0 : 0 < m) (hm : m ≤ 65535) (htt : IntKind.i64.wrap (t + 1) = t') (w : World) (B : Blk w g 149 (st a b m t x)) (hg : b0 ≤ g) :
    Calls Try.prog 24 #[.pointer (some ⟨g, 0, none⟩), .int .i64 now] w fun e w' => ∃ h, e = .returned (.tuple #[.agg (cc 130 a h), .bool true]) ∧ w.heap.size ≤ h ∧ Blk w' h 23 #[.int .i64 17, .string (mS a m)] ∧ Blk w' g 149 (st a b m t' now) ∧ Keep w.heap.size g w w' ∧ Below b0 w w' := by
  have hgw := B.lt
  have B1 := B.alloc (.cells c0 43)
  have R1 := Blk.new w 43 c0
  have k1 := (Keep.refl w.heap.size g w).alloc (Nat.le_refl _) (.cells c0 43)
  have bel1 := (Below.refl b0 w).alloc (by omega) (.cells c0 43)
  have hmz : ((m : Int) == 0) = false := by simp; omega
  go_enter Try.func24, Try.ntmps24
  go_upto_region 1 with (fail)
  rw [show w.alloc (.cells #[.int .i64 0, .int .i64 0, .int .u32 0, .int .i64 0, .int .i64 0, .int .u32 0, .string ⟨#[]⟩, .int .u32 0, .int .u32 0, .int .i64 0, .int .i64 0, .slice none 0 0, .slice none 0 0, .slice none 0 0, .slice none 0 0] 43) = w.alloc (.cells c0 43) from rfl]
  generalize w.alloc (.cells c0 43) = w1 at *
  generalize hr : w.heap.size = r at *
  go_wp2_with fail
  refine (want_of g a b m t x _ B1).mono ?_
  rintro e w2 ⟨rfl, rfl⟩
  have d3 : w2.cell? ⟨g, 3, none⟩ = some (.int .i64 t) := B1.cell 3
  have d3f : w2.frozen? ⟨g, 3, none⟩ = false := B1.frozen 3
  have d4 : w2.cell? ⟨g, 4, none⟩ = some (.int .i64 x) := B1.cell 4
  have d4f : w2.frozen? ⟨g, 4, none⟩ = false := B1.frozen 4
  go_upto_region 5 with (fail)
  have B3 : Blk ((w2.setCell ⟨g, 3, none⟩ (.int .i64 t')).setCell ⟨g, 4, none⟩ (.int .i64 now)) g 149 (st a b m t' now) := (B1.set_ 3 (.int .i64 t')).set_ 4 (.int .i64 now)
  have R3 := (R1.far (p := ⟨g, 3, none⟩) (show r ≠ g by omega) (.int .i64 t')).far (p := ⟨g, 4, none⟩) (show r ≠ g by omega) (.int .i64 now)
  have k3 := (k1.setG 3 (.int .i64 t')).setG 4 (.int .i64 now)
  have bel3 := (bel1.setCell (p := ⟨g, 3, none⟩) hg (.int .i64 t')).setCell (p := ⟨g, 4, none⟩) hg (.int .i64 now)
  clear B B1 R1 k1 bel1 d3 d3f d4 d4f
  generalize (w2.setCell ⟨g, 3, none⟩ (.int .i64 t')).setCell ⟨g, 4, none⟩ (.int .i64 now) = w3 at *
  have hrl := R3.lt
  have hgl := B3.lt
  have d0 : w3.cell? ⟨g, 0, none⟩ = some (.int .u32 a) := B3.cell 0
  have d2 : w3.cell? ⟨g, 2, none⟩ = some (.int .i64 m) := B3.cell 2
  have hM : ∀ w, Calls Try.prog 16 #[.int .u32 a, .int .i64 m] w fun e w' => e = .returned (.agg #[.int .i64 17, .string (mS a m)]) ∧ Below w.heap.size w w' := fun w => more_any a m ha hm w
  have hC := fun w => chunkOf_any a 17 (mS a m) w
  go_region_law
    ((first | (refine step_call (by rfl) 16 Try.f16 _ _ (by rfl) Try.func16 (by kernel_rfl) (by kernel_rfl) #[.int .u32 a, .int .i64 m] (by simp [Act.eval, Act.put]) (hM _) ?_; intro w6 hb6; have B6 := B3.drew.below hb6 hgl; have R6 := R3.drew.below hb6 hrl; have k6 := k3.drew.below hb6 (show r ≤ w3.heap.size by omega); have bel6 := bel3.drew.trans (hb6.mono (show b0 ≤ w3.heap.size by omega)); have e0 : w6.cell? ⟨g, 0, none⟩ = some (.int .u32 a) := B6.cell 0; have hgl6 := B6.lt; have hrl6 := R6.lt)
            | (refine step_call2 (by rfl) 81 Try.f81 _ _ (by rfl) Try.func81 (by kernel_rfl) (by kernel_rfl) #[.int .u32 a, .agg #[.int .i64 17, .string (mS a m)]] (by simp [Act.eval, Act.put]) (hC _) ?_; rintro e w7 ⟨rfl, P7, hb7⟩; refine ⟨.agg #[.int .i64 130, .int .i64 0, .int .u32 a, .int .i64 0, .int .i64 0, .int .u32 0, .string ⟨#[]⟩, .int .u32 0, .int .u32 0, .int .i64 0, .int .i64 0, .slice (some ⟨w6.heap.size + 2, 0, none⟩) 1 1, .slice none 0 0, .slice none 0 0, .slice none 0 0], rfl, ?_⟩; have B7 := B6.below hb7 hgl6; have R7 := R6.below hb7 hrl6; have k7 := k6.below hb7 (show r ≤ w6.heap.size by omega); have bel7 := bel6.trans (hb7.mono (show b0 ≤ w6.heap.size by omega)); have S7 : Blk w7 r 43 #[.int .i64 0, .int .i64 0, .int .u32 0, .int .i64 0, .int .i64 0, .int .u32 0, .string ⟨#[]⟩, .int .u32 0, .int .u32 0, .int .i64 0, .int .i64 0, .slice none 0 0, .slice none 0 0, .slice none 0 0, .slice none 0 0] := R7; have C7 := fun i => S7.cell i; have F7 := fun i => S7.frozen i)))
  all_goals
    clear C7 F7 S7
    have Z := (Cel.of_blk R7).setCells_same (cc 130 a (w6.heap.size + 2)).toList rfl
    have P8 := blk_setCells P7 (show w6.heap.size + 2 ≠ r by omega) 0 (cc 130 a (w6.heap.size + 2)).toList
    have B8 := blk_setCells B7 (show g ≠ r by omega) 0 (cc 130 a (w6.heap.size + 2)).toList
    have k8 := k7.setR (Nat.le_refl r) 0 (cc 130 a (w6.heap.size + 2)).toList
    have bel8 := below_setCells bel7 (show b0 ≤ r by omega) 0 (cc 130 a (w6.heap.size + 2)).toList
    go_wp2_with fail
    exact bodyPost_ret (v := .tuple #[.agg #[.int .i64 130, .int .i64 0, .int .u32 a, .int .i64 0, .int .i64 0, .int .u32 0, .string ⟨#[]⟩, .int .u32 0, .int .u32 0, .int .i64 0, .int .i64 0, .slice (some ⟨w6.heap.size + 2, 0, none⟩) 1 1, .slice none 0 0, .slice none 0 0, .slice none 0 0], .bool true]) ((results_cell_tmp_at rfl _ _ r 0 #[.int .i64 130, .int .i64 0, .int .u32 a, .int .i64 0, .int .i64 0, .int .u32 0, .string ⟨#[]⟩, .int .u32 0, .int .u32 0, .int .i64 0, .int .i64 0, .slice (some ⟨w6.heap.size + 2, 0, none⟩) 1 1, .slice none 0 0, .slice none 0 0, .slice none 0 0] _ rfl (Z.congr rfl) Try.underlying43 rfl (szC 130 a (w6.heap.size + 2))).trans rfl) rfl ⟨w6.heap.size + 2, rfl, by omega, P8, B8, by rw [hr]; exact k8, bel8⟩
end Go.Proofs.Ytdocphkpeonldaa.rec_
