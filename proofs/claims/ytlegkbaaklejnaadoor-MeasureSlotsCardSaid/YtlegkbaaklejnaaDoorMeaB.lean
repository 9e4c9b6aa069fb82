/- Layer 41: the tally of one bad packet. -/
import Derived.Test.YtlegkbaaklejnaaDoorMeaA
import Derived.Laws.ResultCell
import Derived.Laws.Tables
namespace Go.Proofs.YtlegkbaaklejnaaDoor.mea
open Go.ChangeShapes Go.WideShapes Go.ChangeAt Go.RowKit kit
set_option maxRecDepth 100000

theorem get_abc (w : World) : Calls Tryd.prog 59 #[.string ⟨#[97, 98, 99]⟩] w fun e w' => e = .returned (.tuple #[.agg #[.int .i64 0, .int .i64 0, .int .u32 0, .slice none 0 0], .int .i64 2]) ∧ Below w.heap.size w w' := by
  go_enter Tryd.func59, Tryd.ntmps59
  go_wp2
  have B := Blk.new w 100 #[.int .i64 0, .int .i64 0, .int .u32 0, .slice none 0 0]
  have bel := (Below.refl w.heap.size w).alloc (Nat.le_refl _) (.cells #[.int .i64 0, .int .i64 0, .int .u32 0, .slice none 0 0] 100)
  generalize w.alloc (.cells #[.int .i64 0, .int .i64 0, .int .u32 0, .slice none 0 0] 100) = w1 at *
  refine bodyPost_ret (v := .tuple #[.agg #[.int .i64 0, .int .i64 0, .int .u32 0, .slice none 0 0], .int .i64 2]) ?_ rfl ⟨rfl, bel⟩
  rw [results_cell_tmp rfl]
  have h := run_loadVar_row w1 w.heap.size 100 100 _ (0, 0) _ B Tryd.underlying100 rfl (by kernel_rfl)
  simp [asAddr, h]
def tal (p b x : Int) : Array Value := #[.int .i64 p, .int .i64 b, .int .i64 x, .int .i64 0, .int .i64 0, .int .i64 0, .int .i64 0, .int .i64 0, .int .i64 0, .int .i64 0, .int .i64 0, .int .i64 0, .int .i64 0, .int .i64 0, .int .i64 0, .int .i64 0, .int .i64 0, .int .i64 0, .int .i64 0, .int .i64 0, .int .i64 0, .int .i64 0]
def dgm : Array Value := #[.int .u32 0, .int .u32 0, .string ⟨#[97, 98, 99]⟩]
theorem sz : (Tryd.prog.info? 42).map (·.size) = some (tal 1 3 1).size := by kernel_rfl
theorem szd : (Tryd.prog.info? 58).map (·.size) = some dgm.size := by kernel_rfl
theorem one : (tal 1 3 1).all (·.oneCell') = true := by kernel_rfl
theorem oned : dgm.all (·.oneCell') = true := by kernel_rfl
set_option maxHeartbeats 1000000 in
theorem add_abc (w : World) : Calls Tryd.prog 50 #[.agg (tal 0 0 0), .agg dgm] w fun e w' => e = .returned (.agg (tal 1 3 1)) ∧ Below w.heap.size w w' := by
  go_enter Tryd.func50, Tryd.ntmps50
  go_upto_region 1 with (fail)
  rw [show (#[Value.int .i64 0, Value.int .i64 0, Value.int .i64 0, Value.int .i64 0, Value.int .i64 0, Value.int .i64 0, Value.int .i64 0, Value.int .i64 0, Value.int .i64 0, Value.int .i64 0, Value.int .i64 0, Value.int .i64 0, Value.int .i64 0, Value.int .i64 0, Value.int .i64 0, Value.int .i64 0, Value.int .i64 0, Value.int .i64 0, Value.int .i64 0, Value.int .i64 0, Value.int .i64 0, Value.int .i64 0] : Array Value) = tal 0 0 0 from rfl]
  have B0 : Blk (((w.alloc (.cells (tal 0 0 0) 42)).alloc (.cells dgm 58)).alloc (.cells (tal 0 0 0) 42)) w.heap.size 42 (tal 0 0 0) := ((Blk.new _ _ _).alloc _).alloc _
  have D0 : Blk (((w.alloc (.cells (tal 0 0 0) 42)).alloc (.cells dgm 58)).alloc (.cells (tal 0 0 0) 42)) (w.heap.size + 1) 58 dgm := (blk_new2 w (.cells (tal 0 0 0) 42) 58 dgm).alloc _
  have R0 : Blk (((w.alloc (.cells (tal 0 0 0) 42)).alloc (.cells dgm 58)).alloc (.cells (tal 0 0 0) 42)) (w.heap.size + 1 + 1) 42 (tal 0 0 0) := by
    simpa using Blk.new ((w.alloc (.cells (tal 0 0 0) 42)).alloc (.cells dgm 58)) 42 (tal 0 0 0)
  have bel := (((Below.refl w.heap.size w).alloc (Nat.le_refl _) (.cells (tal 0 0 0) 42)).alloc (by simp) (.cells dgm 58)).alloc (by simp; omega) (.cells (tal 0 0 0) 42)
  generalize ((w.alloc (.cells (tal 0 0 0) 42)).alloc (.cells dgm 58)).alloc (.cells (tal 0 0 0) 42) = w1 at *
  have c0 : w1.cell? ⟨w.heap.size, 0, none⟩ = some (.int .i64 0) := B0.cell 0
  have f0 := B0.frozen 0
  go_upto_region 2 with (fail)
  have B1 : Blk (w1.setCell ⟨w.heap.size, 0, none⟩ (.int .i64 1)) w.heap.size 42 (tal 1 0 0) := B0.set_ 0 (.int .i64 1)
  have D1 : Blk (w1.setCell ⟨w.heap.size, 0, none⟩ (.int .i64 1)) (w.heap.size + 1) 58 dgm := D0.far (by simp) _
  have R1 : Blk (w1.setCell ⟨w.heap.size, 0, none⟩ (.int .i64 1)) (w.heap.size + 1 + 1) 42 (tal 0 0 0) := R0.far (by simp; omega) _
  have bel1 : Below w.heap.size w (w1.setCell ⟨w.heap.size, 0, none⟩ (.int .i64 1)) := bel.setCell (p := ⟨w.heap.size, 0, none⟩) (Nat.le_refl _) _
  generalize w1.setCell ⟨w.heap.size, 0, none⟩ (.int .i64 1) = w2 at *
  clear c0 f0 B0 D0 R0 bel
  have c1 : w2.cell? ⟨w.heap.size, 1, none⟩ = some (.int .i64 0) := B1.cell 1
  have d2 : w2.cell? ⟨w.heap.size + 1, 2, none⟩ = some (.string ⟨#[97, 98, 99]⟩) := D1.cell 2
  have f1 := B1.frozen 1
  go_upto_region 3 with (fail)
  have B2 : Blk (w2.setCell ⟨w.heap.size, 1, none⟩ (.int .i64 3)) w.heap.size 42 (tal 1 3 0) := B1.set_ 1 (.int .i64 3)
  have D2 : Blk (w2.setCell ⟨w.heap.size, 1, none⟩ (.int .i64 3)) (w.heap.size + 1) 58 dgm := D1.far (by simp) _
  have R2 : Blk (w2.setCell ⟨w.heap.size, 1, none⟩ (.int .i64 3)) (w.heap.size + 1 + 1) 42 (tal 0 0 0) := R1.far (by simp; omega) _
  have bel2 : Below w.heap.size w (w2.setCell ⟨w.heap.size, 1, none⟩ (.int .i64 3)) := bel1.setCell (p := ⟨w.heap.size, 1, none⟩) (Nat.le_refl _) _
  generalize w2.setCell ⟨w.heap.size, 1, none⟩ (.int .i64 3) = w3 at *
  clear c1 d2 f1 B1 D1 R1 bel1
  have d2 : w3.cell? ⟨w.heap.size + 1, 2, none⟩ = some (.string ⟨#[97, 98, 99]⟩) := D2.cell 2
  go_wp2_with fail
  refine (get_abc w3).mono ?_
  rintro e w4 ⟨rfl, hb4⟩
  have B4 := B2.below hb4 B2.lt
  have R4 := R2.below hb4 R2.lt
  have bel4 := bel2.trans (hb4.mono bel2.size)
  clear d2 B2 D2 R2 bel2 hb4
  go_upto_region 5 with (fail)
  have B5 := B4.alloc (.cells #[.int .i64 0, .int .i64 0, .int .u32 0, .slice none 0 0] 100)
  have R5 := R4.alloc (.cells #[.int .i64 0, .int .i64 0, .int .u32 0, .slice none 0 0] 100)
  have bel5 := bel4.alloc bel4.size (.cells #[.int .i64 0, .int .i64 0, .int .u32 0, .slice none 0 0] 100)
  generalize w4.alloc (.cells #[.int .i64 0, .int .i64 0, .int .u32 0, .slice none 0 0] 100) = w5 at *
  generalize w4.heap.size = g5 at *
  clear B4 R4 bel4
  have c2 : w5.cell? ⟨w.heap.size, 2, none⟩ = some (.int .i64 0) := B5.cell 2
  have f2 := B5.frozen 2
  go_upto_region 6 with (fail)
  have B6 : Blk (w5.setCell ⟨w.heap.size, 2, none⟩ (.int .i64 1)) w.heap.size 42 (tal 1 3 1) := B5.set_ 2 (.int .i64 1)
  have R6 : Blk (w5.setCell ⟨w.heap.size, 2, none⟩ (.int .i64 1)) (w.heap.size + 1 + 1) 42 (tal 0 0 0) := R5.far (by simp; omega) _
  have bel6 : Below w.heap.size w (w5.setCell ⟨w.heap.size, 2, none⟩ (.int .i64 1)) := bel5.setCell (p := ⟨w.heap.size, 2, none⟩) (Nat.le_refl _) _
  generalize w5.setCell ⟨w.heap.size, 2, none⟩ (.int .i64 1) = w6 at *
  clear c2 f2 B5 R5 bel5
  go_wp2_with (first | (refine wpList_load_row rfl 42 _ rfl _ rfl _ _ _ _ B6 Tryd.underlying42 rfl sz ?_) | (refine wpList_store_row rfl 42 _ _ rfl _ _ rfl rfl _ _ R6 sz rfl one ?_))
  exact bodyPost_ret (v := .agg (tal 1 3 1)) (results_cell_row rfl _ _ (w.heap.size + 1 + 1) 42 (tal 1 3 1) (0, 0) _ rfl (setRow_heap _ _ _ _ _ _ R6) Tryd.underlying42 rfl sz) rfl ⟨rfl, below_setRow bel6 (by omega) _⟩
set_option maxHeartbeats 1000000 in
theorem all_abc (g : Nat) (w : World) (D : Blk w g 58 dgm) : Calls Tryd.prog 39 #[.slice (some ⟨g, 0, none⟩) 1 1] w fun e w' => e = .returned (.agg (tal 1 3 1)) ∧ Below w.heap.size w w' := by
  have hg := D.lt
  go_enter Tryd.func39, Tryd.ntmps39
  go_upto_region 3 with (fail)
  rw [show (#[Value.int .i64 0, Value.int .i64 0, Value.int .i64 0, Value.int .i64 0, Value.int .i64 0, Value.int .i64 0, Value.int .i64 0, Value.int .i64 0, Value.int .i64 0, Value.int .i64 0, Value.int .i64 0, Value.int .i64 0, Value.int .i64 0, Value.int .i64 0, Value.int .i64 0, Value.int .i64 0, Value.int .i64 0, Value.int .i64 0, Value.int .i64 0, Value.int .i64 0, Value.int .i64 0, Value.int .i64 0] : Array Value) = tal 0 0 0 from rfl]
  have R0 : Blk ((w.alloc (.cells (tal 0 0 0) 42)).alloc (.cells (tal 0 0 0) 42)) w.heap.size 42 (tal 0 0 0) := (Blk.new _ _ _).alloc _
  have T0 : Blk ((w.alloc (.cells (tal 0 0 0) 42)).alloc (.cells (tal 0 0 0) 42)) (w.heap.size + 1) 42 (tal 0 0 0) := blk_new2 w (.cells (tal 0 0 0) 42) 42 (tal 0 0 0)
  have D0 := (D.alloc (.cells (tal 0 0 0) 42)).alloc (.cells (tal 0 0 0) 42)
  have bel := ((Below.refl w.heap.size w).alloc (Nat.le_refl _) (.cells (tal 0 0 0) 42)).alloc (by simp) (.cells (tal 0 0 0) 42)
  generalize (w.alloc (.cells (tal 0 0 0) 42)).alloc (.cells (tal 0 0 0) 42) = w1 at *
  clear D
  go_loopw [8] (fun s8 wr => ∃ k : Nat, k ≤ 1 ∧ s8 = .int .i64 k ∧ Blk wr (w.heap.size + 1) 42 (tal k (3 * k) k) ∧ Blk wr w.heap.size 42 (tal 0 0 0) ∧ Blk wr g 58 dgm ∧ Below w.heap.size w wr) (fun s8 _ => 1 - (intOf s8).toNat)
  case atStart => exact ⟨0, by omega, rfl, T0, R0, D0, bel⟩
  case round =>
    clear T0 R0 D0 bel
    obtain ⟨k, hk, rfl, T, R, D, bel⟩ := hrel
    rcases (by omega : k = 0 ∨ k = 1) with rfl | rfl
    · have T1 : Blk wr (w.heap.size + 1) 42 (tal 0 0 0) := T
      have N := Blk.new wr 58 #[.int .u32 0, .int .u32 0, .string ⟨#[]⟩]
      clear T
      go_upto_region 5 with (first | (refine wpList_load_row rfl 58 _ rfl _ rfl _ _ _ _ D Tryd.underlying58 rfl szd ?_) | (refine wpList_store_row rfl 58 _ _ rfl _ _ rfl rfl _ _ N szd rfl oned ?_))
      have T2 : Blk ((wr.alloc (.cells #[.int .u32 0, .int .u32 0, .string ⟨#[]⟩] 58)).setRow wr.heap.size dgm) (w.heap.size + 1) 42 (tal 0 0 0) := (setRow_other _ _ _ _ (Nat.ne_of_lt T1.lt)).trans (T1.alloc _)
      have R2 : Blk ((wr.alloc (.cells #[.int .u32 0, .int .u32 0, .string ⟨#[]⟩] 58)).setRow wr.heap.size dgm) w.heap.size 42 (tal 0 0 0) := (setRow_other _ _ _ _ (Nat.ne_of_lt R.lt)).trans (R.alloc _)
      have D2 : Blk ((wr.alloc (.cells #[.int .u32 0, .int .u32 0, .string ⟨#[]⟩] 58)).setRow wr.heap.size dgm) g 58 dgm := (setRow_other _ _ _ _ (Nat.ne_of_lt D.lt)).trans (D.alloc _)
      have N2 : Blk ((wr.alloc (.cells #[.int .u32 0, .int .u32 0, .string ⟨#[]⟩] 58)).setRow wr.heap.size dgm) wr.heap.size 58 dgm := setRow_heap _ _ _ _ _ _ N
      have bel2 : Below w.heap.size w ((wr.alloc (.cells #[.int .u32 0, .int .u32 0, .string ⟨#[]⟩] 58)).setRow wr.heap.size dgm) := below_setRow (bel.alloc bel.size _) bel.size _
      generalize ((wr.alloc (.cells #[.int .u32 0, .int .u32 0, .string ⟨#[]⟩] 58)).setRow wr.heap.size dgm) = w2 at *
      generalize wr.heap.size = g2 at *
      clear T1 R D N bel
      go_wp2_with (first | (refine wpList_load_row rfl 42 _ rfl _ rfl _ _ _ _ T2 Tryd.underlying42 rfl sz ?_) | (refine wpList_load_row rfl 58 _ rfl _ rfl _ _ _ _ N2 Tryd.underlying58 rfl szd ?_))
      refine (add_abc w2).mono ?_
      rintro e w3 ⟨rfl, hb3⟩
      have T3 := T2.below hb3 T2.lt
      have R3 := R2.below hb3 R2.lt
      have D3 := D2.below hb3 D2.lt
      have bel3 := bel2.trans (hb3.mono bel2.size)
      clear T2 R2 D2 N2 bel2 hb3
      go_wp2_with (refine wpList_store_row rfl 42 _ _ rfl _ _ rfl rfl _ _ T3 sz rfl one ?_)
      go_roundw
      case rel => exact ⟨1, by omega, by go_num, setRow_heap _ _ _ _ _ _ T3, (setRow_other _ _ _ _ (by omega)).trans R3, (setRow_other _ _ _ _ (by omega)).trans D3, below_setRow bel3 (by omega) _⟩
      case measure => simp [intOf]
    · have T1 : Blk wr (w.heap.size + 1) 42 (tal 1 3 1) := T
      go_wp2_with (first | (refine wpList_load_row rfl 42 _ rfl _ rfl _ _ _ _ T1 Tryd.underlying42 rfl sz ?_) | (refine wpList_store_row rfl 42 _ _ rfl _ _ rfl rfl _ _ R sz rfl one ?_))
      exact bodyPost_ret (v := .agg (tal 1 3 1)) (results_cell_row rfl _ _ w.heap.size 42 (tal 1 3 1) (0, 0) _ rfl (setRow_heap _ _ _ _ _ _ R) Tryd.underlying42 rfl sz) rfl ⟨rfl, below_setRow bel (by omega) _⟩
end Go.Proofs.YtlegkbaaklejnaaDoor.mea
