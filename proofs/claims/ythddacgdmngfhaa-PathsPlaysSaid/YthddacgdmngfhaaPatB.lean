/- Layer 15: a path made; two paths; which one is used. -/
import Derived.Test.YthddacgdmngfhaaPatA
import Derived.LoopTactic
import Derived.Deep.CutBlock
import Derived.Deep.DeepCutAuto
import Derived.Deep.RegionWith
import Derived.BigRegion
import Derived.Deep.AppendLies
import Derived.Deep.RegionHeldLaw
import Derived.RegionTactic
import Derived.Deep.RegionLaw
namespace Go.Proofs.Ythddacgdmngfhaa.pat
open Go.ChangeShapes Go.WideShapes Go.ChangeAt Go.RowKit kit
set_option maxRecDepth 100000

/-- No path's cells; those of one that nothing is known of, in a state. -/
def pz : Array Value := #[.int .u32 0, .int .u32 0, .int .i64 0, .int .i64 0, .int .i64 0, .int .i64 0, .int .i64 0, .bool false, .int .i64 0, .int .i64 0, .int .i64 0, .int .i64 0, .int .i64 0, .int .u32 0, .int .i64 0]
def pth (a b s : Int) : Array Value := #[.int .u32 a, .int .u32 b, .int .i64 s, .int .i64 0, .int .i64 0, .int .i64 0, .int .i64 30, .bool false, .int .i64 1800, .int .i64 60000, .int .i64 0, .int .i64 0, .int .i64 0, .int .u32 0, .int .i64 0]
theorem szP : (Try.prog.info? 113).map (·.size) = some 15 := by kernel_rfl
theorem oneP (a b s : Int) : (pth a b s).all (·.oneCell') = true := by kernel_rfl
theorem onePz : pz.all (·.oneCell') = true := by kernel_rfl
theorem szR : (Try.prog.info? 111).map (·.size) = some 4 := by kernel_rfl
abbrev r30 : Array Value := #[.int .i64 0, .int .i64 0, .int .i64 30, .bool false]
theorem first_any (w : World) : Calls Try.prog 110 #[] w fun e w' => e = .returned (.agg r30) ∧ Below w.heap.size w w' := by
  go_enter Try.func110, Try.ntmps110
  go_wp2_with fail
  exact bodyPost_ret (v := .agg r30) (results_cell_row rfl _ _ w.heap.size 111 r30 (0, 0) _ rfl (heap_alloc_new _ _) Try.underlying111 rfl szR) rfl ⟨rfl, (Below.refl _ _).alloc (Nat.le_refl _) _⟩
theorem new_any (a b : Int) (w : World) : Calls Try.prog 65 #[.int .u32 a, .int .u32 b] w fun e w' => e = .returned (.agg (pth a b 0)) ∧ Below w.heap.size w w' := by
  go_enter Try.func65, Try.ntmps65
  go_wp2_with fail
  refine (first_any _).mono ?_
  rintro e w1 ⟨rfl, hb⟩
  have R := (Blk.new w 113 pz).below hb (by simp)
  have bel := ((Below.refl w.heap.size w).alloc (Nat.le_refl _) (.cells pz 113)).trans (hb.mono (by simp))
  clear hb
  go_wp2_with (refine wpList_store_row rfl 113 _ _ rfl _ _ rfl rfl _ _ R szP rfl (oneP a b 0) ?_)
  exact bodyPost_ret (v := .agg (pth a b 0)) (results_cell_row rfl _ _ w.heap.size 113 (pth a b 0) (0, 0) _ rfl (setRow_heap _ _ _ _ _ _ R) Try.underlying113 rfl szP) rfl ⟨rfl, below_setRow bel (Nat.le_refl _) _⟩
theorem news_any (a b : Int) (w : World) : Calls Try.prog 64 #[.int .u32 a, .int .u32 b] w fun e w' => (∃ h, w.heap.size ≤ h ∧ e = .returned (.pointer (some ⟨h + 1, 0, none⟩)) ∧ Blk w' (h + 1) 214 #[.slice (some ⟨h, 0, none⟩) 1 1, .int .i64 0] ∧ Blk w' h 113 (pth a b 0)) ∧ Below w.heap.size w w' := by
  have hN := fun w => new_any a b w
  simp only [pth] at hN
  go_enter Try.func64, Try.ntmps64
  go_wp2_with fail
  refine (hN _).mono ?_
  rintro e w1 ⟨rfl, hb⟩
  go_wp2_with fail
  clear hN
  have e : (#[Value.int .u32 a, Value.int .u32 b, Value.int .i64 0, Value.int .i64 0, Value.int .i64 0, Value.int .i64 0, Value.int .i64 30, Value.bool false, Value.int .i64 1800, Value.int .i64 60000, Value.int .i64 0, Value.int .i64 0, Value.int .i64 0, Value.int .u32 0, Value.int .i64 0] : Array Value) = pth a b 0 := rfl
  rw [e]
  go_ret
  exact ⟨⟨w1.heap.size, hb.size, rfl, blk_new2 _ _ _ _, (Blk.new _ _ _).alloc _⟩, (hb.alloc hb.size _).alloc (by simp; have := hb.size; omega) _⟩
theorem many_of (g h n cap : Nat) (f : Int) (w : World) (N : Blk w g 214 #[.slice (some ⟨h, 0, none⟩) n cap, .int .i64 f]) : Calls Try.prog 114 #[.pointer (some ⟨g, 0, none⟩)] w fun e w' => e = .returned (.int .i64 n) ∧ w = w' := by
  have c0 : w.cell? ⟨g, 0, none⟩ = some (.slice (some ⟨h, 0, none⟩) n cap) := N.cell 0
  go_enter Try.func114, Try.ntmps114
  go_wp2
  go_ret
  exact ⟨rfl, rfl⟩
theorem has_of (g h n cap : Nat) (f : Int) (k : Nat) (hk : k < n) (w : World) (N : Blk w g 214 #[.slice (some ⟨h, 0, none⟩) n cap, .int .i64 f]) : Calls Try.prog 119 #[.pointer (some ⟨g, 0, none⟩), .int .i64 k] w fun e w' => e = .returned (.bool true) ∧ w = w' := by
  go_enter Try.func119, Try.ntmps119
  go_wp2_with fail
  refine (many_of g h n cap f _ N).mono ?_
  rintro e w1 ⟨rfl, rfl⟩
  go_wp2
  go_ret
  exact ⟨rfl, rfl⟩
theorem first_of (g h n cap : Nat) (f : Int) (hn : 0 < n) (w : World) (N : Blk w g 214 #[.slice (some ⟨h, 0, none⟩) n cap, .int .i64 f]) : Calls Try.prog 122 #[.pointer (some ⟨g, 0, none⟩)] w fun e w' => e = .returned (.int .i64 f) ∧ w = w' := by
  have C := fun i => N.cell i
  have hz : ((n : Int) == 0) = false := beq_eq_false_iff_ne.2 (by omega)
  go_enter Try.func122, Try.ntmps122
  go_wp2_with fail
  refine (many_of g h n cap f _ N).mono ?_
  rintro e w1 ⟨rfl, rfl⟩
  go_wp2
  go_ret
  exact ⟨rfl, rfl⟩
theorem at_of (g h n cap : Nat) (f : Int) (k : Nat) (hk : k < n) (hn : n ≤ cap) (hc : cap ≤ maxLen) (x : Array Value) (hx : x.size = 15) (w : World) (N : Blk w g 214 #[.slice (some ⟨h, 0, none⟩) n cap, .int .i64 f]) (X : Cel w h (k * 15) x) (h1 : x.all (·.oneCell') = true) : Calls Try.prog 111 #[.pointer (some ⟨g, 0, none⟩), .int .i64 k] w fun e w' => e = .returned (.agg x) ∧ Below w.heap.size w w' := by
  unfold maxLen at hc
  go_enter Try.func111, Try.ntmps111
  go_wp2_with fail
  refine (has_of g h n cap f k hk _ (N.alloc _)).mono ?_
  rintro e w1 ⟨rfl, rfl⟩
  have R1 := Blk.new w 113 pz
  have N1 := N.alloc (.cells pz 113)
  have X1 := X.alloc (.cells pz 113)
  have bel := (Below.refl w.heap.size w).alloc (Nat.le_refl _) (.cells pz 113)
  rw [show w.alloc (.cells #[.int .u32 0, .int .u32 0, .int .i64 0, .int .i64 0, .int .i64 0, .int .i64 0, .int .i64 0, .bool false, .int .i64 0, .int .i64 0, .int .i64 0, .int .i64 0, .int .i64 0, .int .u32 0, .int .i64 0] 113) = w.alloc (.cells pz 113) from rfl]
  generalize w.alloc (.cells pz 113) = w1 at *
  have c0 : w1.cell? ⟨g, 0, none⟩ = some (.slice (some ⟨h, 0, none⟩) n cap) := N1.cell 0
  have hs : some 15 = some x.size := by rw [hx]
  have HX := Lib.hid hx
  have H1 := Lib.hid h1
  have HS := Lib.hid (szP.trans hs)
  clear hx h1 hs
  go_wp2_with (first | (refine wpList_load_at rfl 113 _ rfl h (k * 15) rfl x _ X1 Try.underlying113 rfl HS.out ?_) | (refine wpList_store_row rfl 113 _ _ rfl _ _ rfl rfl _ _ R1 HS.out HX.out.symm H1.out ?_))
  exact bodyPost_ret (v := .agg x) (results_cell_row rfl _ _ w.heap.size 113 x (0, 0) _ rfl (setRow_heap _ _ _ _ _ _ R1) Try.underlying113 rfl HS.out) rfl ⟨rfl, below_setRow bel (Nat.le_refl _) _⟩
end Go.Proofs.Ythddacgdmngfhaa.pat
