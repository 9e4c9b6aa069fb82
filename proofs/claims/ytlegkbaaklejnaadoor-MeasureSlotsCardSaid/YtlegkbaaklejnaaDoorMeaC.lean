/- Layer 41: the statement on places, walked. -/
import Derived.Test.YtlegkbaaklejnaaDoorMeaB
namespace Go.Proofs.YtlegkbaaklejnaaDoor.mea
open Go.ChangeShapes Go.WideShapes Go.ChangeAt Go.RowKit kit
set_option maxRecDepth 100000

theorem slot_q (n : Nat) (w : World) (hn : n < 256) : Calls Tryd.prog 26 #[.int .i64 n] w fun e w' => e = .returned (.int .i64 (slotF n : Nat)) ∧ w' = w := (slot_any n w hn).mono fun _ _ h => ⟨h.1, h.2.symm⟩
theorem slot193 (w : World) : Calls Tryd.prog 26 #[.int .i64 193] w fun e w' => e = .returned (.int .i64 14) ∧ w' = w := slot_q 193 w (by omega)
theorem slot99 (w : World) : Calls Tryd.prog 26 #[.int .i64 99] w fun e w' => e = .returned (.int .i64 17) ∧ w' = w := slot_q 99 w (by omega)
set_option maxHeartbeats 1000000 in
theorem awake41 (w : World) : Calls Tryd.prog 25 #[] w fun e w' => e = .returned (.bool true) ∧ Below w.heap.size w w' := by
  go_enter Tryd.func25, Tryd.ntmps25
  go_wp2_with fail
  rw [show (#[.int .u32 0, .int .u32 0, .string ⟨#[97, 98, 99]⟩] : Array Value) = dgm from rfl]
  have D := Blk.new w 58 dgm
  have bel := (Below.refl w.heap.size w).alloc (Nat.le_refl _) (.cells dgm 58)
  generalize w.alloc (.cells dgm 58) = w1 at *
  refine (all_abc w.heap.size w1 D).mono ?_
  rintro e w2 ⟨rfl, hb2⟩
  have bel2 := bel.trans (hb2.mono bel.size)
  have T0 := Blk.new w2 42 (tal 0 0 0)
  clear D bel hb2
  go_upto_region 2 with (first | (refine wpList_store_row rfl 42 _ _ rfl _ _ rfl rfl _ _ T0 sz rfl one ?_))
  rw [show (#[Value.int .i64 0, Value.int .i64 0, Value.int .i64 0, Value.int .i64 0, Value.int .i64 0, Value.int .i64 0, Value.int .i64 0, Value.int .i64 0, Value.int .i64 0, Value.int .i64 0, Value.int .i64 0, Value.int .i64 0, Value.int .i64 0, Value.int .i64 0, Value.int .i64 0, Value.int .i64 0, Value.int .i64 0, Value.int .i64 0, Value.int .i64 0, Value.int .i64 0, Value.int .i64 0, Value.int .i64 0] : Array Value) = tal 0 0 0 from rfl]
  have T1 : Blk ((w2.alloc (.cells (tal 0 0 0) 42)).setRow w2.heap.size (tal 1 3 1)) w2.heap.size 42 (tal 1 3 1) := setRow_heap _ _ _ _ _ _ T0
  have bel3 : Below w.heap.size w ((w2.alloc (.cells (tal 0 0 0) 42)).setRow w2.heap.size (tal 1 3 1)) := below_setRow (bel2.alloc bel2.size _) bel2.size _
  generalize (w2.alloc (.cells (tal 0 0 0) 42)).setRow w2.heap.size (tal 1 3 1) = w3 at *
  generalize w2.heap.size = g2 at *
  clear T0 bel2
  have c0 : w3.cell? ⟨g2, 0, none⟩ = some (.int .i64 1) := T1.cell 0
  have c1 : w3.cell? ⟨g2, 1, none⟩ = some (.int .i64 3) := T1.cell 1
  have c2 : w3.cell? ⟨g2, 2, none⟩ = some (.int .i64 1) := T1.cell 2
  go_wp2_with fail
  refine (slot193 w3).mono ?_
  rintro e w4 ⟨rfl, rfl⟩
  go_wp2_with fail
  refine (slot99 _).mono ?_
  rintro e w5 ⟨rfl, rfl⟩
  go_wp2
  go_ret
  exact ⟨rfl, bel3⟩
theorem share_zero (w : World) : Calls Tryd.prog 28 #[.agg (tal 0 0 0)] w fun e w' => e = .returned (.int .i64 0) ∧ Below w.heap.size w w' := by
  have T := Blk.new w 42 (tal 0 0 0)
  have bel := (Below.refl w.heap.size w).alloc (Nat.le_refl _) (.cells (tal 0 0 0) 42)
  go_enter Tryd.func28, Tryd.ntmps28
  have c1 : (w.alloc (.cells (tal 0 0 0) 42)).cell? ⟨w.heap.size, 1, none⟩ = some (.int .i64 0) := T.cell 1
  go_wp2
  go_ret
  exact ⟨rfl, bel⟩
set_option maxHeartbeats 1000000 in
theorem law41 (n : Int) (w : World) : Calls Tryd.prog 11 #[.int .i64 n] w fun e w' => e = .returned (.bool true) ∧ Below w.heap.size w w' := by
  obtain ⟨m, hm⟩ : ∃ m : Nat, n % 256 = (m : Int) := ⟨(n % 256).toNat, by omega⟩
  have hm2 : m < 256 := by omega
  have hk : bits .and .i64 n 255 = (m : Int) := by rw [← hm]; exact i64_mask n 8 (by omega)
  have h1 := fun w => slot_q m w hm2
  have h2 := fun w => slot2_any m w hm2
  generalize slotF m = y at *
  clear hm
  go_enter Tryd.func11, Tryd.ntmps11
  go_wp2_with fail
  refine (awake41 w).mono ?_
  rintro e w1 ⟨rfl, hb1⟩
  go_wp2_with fail
  refine (h1 _).mono ?_
  rintro e w2 ⟨rfl, rfl⟩
  go_wp2_with fail
  refine (h2 _).mono ?_
  rintro e w3 ⟨rfl, hb3⟩
  have b3 := hb1.trans (hb3.mono hb1.size)
  clear h1 h2 hk
  go_wp2_with fail
  rw [show (#[Value.int .i64 0, Value.int .i64 0, Value.int .i64 0, Value.int .i64 0, Value.int .i64 0, Value.int .i64 0, Value.int .i64 0, Value.int .i64 0, Value.int .i64 0, Value.int .i64 0, Value.int .i64 0, Value.int .i64 0, Value.int .i64 0, Value.int .i64 0, Value.int .i64 0, Value.int .i64 0, Value.int .i64 0, Value.int .i64 0, Value.int .i64 0, Value.int .i64 0, Value.int .i64 0, Value.int .i64 0] : Array Value) = tal 0 0 0 from rfl]
  refine (share_zero _).mono ?_
  rintro e w4 ⟨rfl, hb4⟩
  go_wp2
  go_ret
  exact ⟨by simp, b3.trans (hb4.mono b3.size)⟩
end Go.Proofs.YtlegkbaaklejnaaDoor.mea
