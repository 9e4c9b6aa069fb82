/- Layer 20: one chunk taken. -/
import Derived.Test.YthddacgdmngfhaaSenC
namespace Go.Proofs.Ythddacgdmngfhaa.sen
open Go.Sort (grow)
open Go.ChangeShapes Go.WideShapes Go.ChangeAt Go.RowKit kit fra
set_option maxRecDepth 100000

theorem len_of (g n cap : Nat) (a : Addr) (w : World) (c1 : w.cell? ⟨g, 1, none⟩ = some (.slice (some a) n cap)) : Calls Try.prog 23 #[.pointer (some ⟨g, 0, none⟩)] w fun e w' => e = .returned (.int .i64 n) ∧ w' = w := by
  go_enter Try.func23, Try.ntmps23
  go_wp2
  go_ret
  exact ⟨rfl, rfl⟩
abbrev lit (p : Int) (D : ByteArray) : Array Value := #[.int .i64 0, .int .i64 3, .int .u32 0, .int .i64 0, .int .i64 p, .int .u32 0, .string D, .int .u32 0, .int .u32 0, .int .i64 0, .int .i64 0, .slice none 0 0, .slice none 0 0, .slice none 0 0, .slice none 0 0]
set_option maxHeartbeats 2000000 in
theorem take_one (g hl o n cap : Nat) (p b : Int) (y : UInt8) (pl : Value) (hn : 0 < n) (hnc : n ≤ cap) (hcm : cap ≤ 9223372036854775807) (hn2 : 2 ≤ cap ∨ n = 1) (hb0 : 1 ≤ b) (hb1 : b ≤ 10) (w : World) (B : Blk w g 158 #[pl, .slice (some ⟨hl, o, none⟩) n cap, .int .i64 b]) (C : Cel w hl o (ck 3 0 p 0 ⟨#[y]⟩)) (hne : hl ≠ g) :
    Calls Try.prog 17 #[.pointer (some ⟨g, 0, none⟩)] w fun e w' => e = .returned (.tuple #[.agg (lit p ⟨#[y]⟩), .bool true]) ∧ (∃ sl, (2 ≤ cap → sl = .slice (some ⟨hl, o + 15, none⟩) (n - 1) (cap - 1)) ∧ Blk w' g 158 #[pl, sl, .int .i64 (b - 1)]) ∧ (∀ h' o' cs, h' ≠ g → Cel w h' o' cs → Cel w' h' o' cs) ∧ Below g w w' := by
  have B1 := B.alloc (.cells (ck 0 0 0 0 ⟨#[]⟩) 40)
  have C1 := C.alloc (.cells (ck 0 0 0 0 ⟨#[]⟩) 40)
  have R1 := Blk.new w 40 (ck 0 0 0 0 ⟨#[]⟩)
  have hgl := B.lt
  have hhl := C.lt
  have bel1 := (Below.refl g w).alloc (by omega) (.cells (ck 0 0 0 0 ⟨#[]⟩) 40)
  have k1 : ∀ h' o' cs, h' ≠ g → Cel w h' o' cs → Cel (w.alloc (.cells (ck 0 0 0 0 ⟨#[]⟩) 40)) h' o' cs := fun h' o' cs hh K => K.alloc _
  have K1 := Lib.hid k1
  clear k1
  have hs1 : w.heap.size < (w.alloc (.cells (ck 0 0 0 0 ⟨#[]⟩) 40)).heap.size := by simp
  go_enter Try.func17, Try.ntmps17
  go_wp2_with fail
  rw [show w.alloc (.cells #[.int .i64 0, .int .i64 0, .int .u32 0, .int .i64 0, .int .i64 0, .int .u32 0, .string ⟨#[]⟩, .int .u32 0, .int .u32 0, .int .i64 0, .int .i64 0, .slice none 0 0, .slice none 0 0, .slice none 0 0, .slice none 0 0] 40) = w.alloc (.cells (ck 0 0 0 0 ⟨#[]⟩) 40) from rfl]
  generalize w.alloc (.cells (ck 0 0 0 0 ⟨#[]⟩) 40) = w1 at *
  have c1 : w1.cell? ⟨g, 1, none⟩ = some (.slice (some ⟨hl, o, none⟩) n cap) := B1.cell 1
  refine (len_of g n cap _ _ c1).mono ?_
  rintro e w2 ⟨rfl, rfl⟩
  have hz : ((n : Int) == 0) = false := by simp; omega
  have L1 : Cel w2 hl o (lit p ⟨#[y]⟩) := C1
  go_upto_region 4 with (refine wpList_load_at rfl 40 _ rfl hl o rfl (lit p ⟨#[y]⟩) _ L1 Try.underlying40 rfl szC ?_)
  have B3 := B1.alloc (.cells (lit p ⟨#[y]⟩) 40)
  have R3 := R1.alloc (.cells (lit p ⟨#[y]⟩) 40)
  have V3 := Blk.new w2 40 (lit p ⟨#[y]⟩)
  have bel3 := bel1.alloc (by have := B1.lt; omega) (.cells (lit p ⟨#[y]⟩) 40)
  have k3 : ∀ h' o' cs, h' ≠ g → Cel w h' o' cs → Cel (w2.alloc (.cells (lit p ⟨#[y]⟩) 40)) h' o' cs := fun h' o' cs hh K => (K1.out h' o' cs hh K).alloc _
  have K3 := Lib.hid k3
  clear B1 R1 C1 L1 bel1 c1 K1 k3
  have hws : w.heap.size ≠ w2.heap.size := by omega
  have hgs : g ≠ w2.heap.size := by omega
  generalize w2.alloc (.cells (lit p ⟨#[y]⟩) 40) = w3 at *
  have c1 : w3.cell? ⟨g, 1, none⟩ = some (.slice (some ⟨hl, o, none⟩) n cap) := B3.cell 1
  have f1 : w3.frozen? ⟨g, 1, none⟩ = false := B3.frozen 1
  have hn1 : 1 ≤ n := hn
  have hc1 : 1 ≤ cap := by omega
  go_upto_region 5 with (fail)
  obtain ⟨sl, hsl⟩ : ∃ sl, sl = Value.slice (if cap = 1 then some ⟨hl, o, none⟩ else some ⟨hl, o + 15, none⟩) (n - 1) (cap - 1) := ⟨_, rfl⟩
  rw [← hsl]
  have HS := Lib.hid hsl
  clear hsl
  have hwg : w.heap.size ≠ g := by omega
  have B4 : Blk (w3.setCell ⟨g, 1, none⟩ sl) g 158 #[pl, sl, .int .i64 b] := B3.set_ 1 sl
  have R4 : Blk (w3.setCell ⟨g, 1, none⟩ sl) w.heap.size 40 (ck 0 0 0 0 ⟨#[]⟩) := R3.far (p := ⟨g, 1, none⟩) hwg _
  have V4 : Blk (w3.setCell ⟨g, 1, none⟩ sl) w2.heap.size 40 (lit p ⟨#[y]⟩) := V3.far (p := ⟨g, 1, none⟩) (Ne.symm hgs) _
  have bel4 : Below g w (w3.setCell ⟨g, 1, none⟩ sl) := bel3.setCell (p := ⟨g, 1, none⟩) (Nat.le_refl _) _
  have k4 : ∀ h' o' cs, h' ≠ g → Cel w h' o' cs → Cel (w3.setCell ⟨g, 1, none⟩ sl) h' o' cs := fun h' o' cs hh K => (K3.out h' o' cs hh K).far (p := ⟨g, 1, none⟩) hh _
  have K4 := Lib.hid k4
  clear B3 R3 V3 bel3 c1 f1 K3 k4
  generalize (w3.setCell ⟨g, 1, none⟩ sl) = w4 at *
  have c2 : w4.cell? ⟨g, 2, none⟩ = some (.int .i64 b) := B4.cell 2
  have f2 : w4.frozen? ⟨g, 2, none⟩ = false := B4.frozen 2
  have v6 : w4.cell? ⟨w2.heap.size, 6, none⟩ = some (.string ⟨#[y]⟩) := V4.cell 6
  go_region
  go_upto_region 6 with (fail)
  have B5 : Blk ((w4.setCell ⟨g, 2, none⟩ (.int .i64 (b - 1))).drew) g 158 #[pl, sl, .int .i64 (b - 1)] := (B4.set_ 2 _).drew
  have R5 : Blk ((w4.setCell ⟨g, 2, none⟩ (.int .i64 (b - 1))).drew) w.heap.size 40 (ck 0 0 0 0 ⟨#[]⟩) := (R4.far (p := ⟨g, 2, none⟩) hwg _).drew
  have V5 : Blk ((w4.setCell ⟨g, 2, none⟩ (.int .i64 (b - 1))).drew) w2.heap.size 40 (lit p ⟨#[y]⟩) := (V4.far (p := ⟨g, 2, none⟩) (Ne.symm hgs) _).drew
  have bel5 : Below g w ((w4.setCell ⟨g, 2, none⟩ (.int .i64 (b - 1))).drew) := (bel4.setCell (p := ⟨g, 2, none⟩) (Nat.le_refl _) _).drew
  have k5 : ∀ h' o' cs, h' ≠ g → Cel w h' o' cs → Cel ((w4.setCell ⟨g, 2, none⟩ (.int .i64 (b - 1))).drew) h' o' cs := fun h' o' cs hh K => ((K4.out h' o' cs hh K).far (p := ⟨g, 2, none⟩) hh _).drew
  have K5 := Lib.hid k5
  clear B4 R4 V4 bel4 c2 f2 v6 K4 k5
  generalize ((w4.setCell ⟨g, 2, none⟩ (.int .i64 (b - 1))).drew) = w5 at *
  have RC := Cel.of_blk R5
  have B6 : Blk (w5.setCells w.heap.size 0 (lit p ⟨#[y]⟩).toList) g 158 #[pl, sl, .int .i64 (b - 1)] := blk_setCells B5 (Ne.symm hwg) _ _
  have R6 : Cel (w5.setCells w.heap.size 0 (lit p ⟨#[y]⟩).toList) w.heap.size 0 (ck 3 0 p 0 ⟨#[y]⟩) := RC.setCells_same (lit p ⟨#[y]⟩).toList rfl
  have bel6 : Below g w (w5.setCells w.heap.size 0 (lit p ⟨#[y]⟩).toList) := below_setCells bel5 (by omega) _ _
  have k6 : ∀ h' o' cs, h' ≠ g → Cel w h' o' cs → Cel (w5.setCells w.heap.size 0 (lit p ⟨#[y]⟩).toList) h' o' cs := fun h' o' cs hh K => (K5.out h' o' cs hh K).setCells_far (by have := K.lt; omega) _ _
  have K6 := Lib.hid k6
  have HB6 := Lib.hid B6
  clear B6 B5 bel5 K5 k6
  go_wp2_with (first | (refine wpList_load_at rfl 40 _ rfl w2.heap.size 0 rfl (lit p ⟨#[y]⟩) _ (Cel.of_blk V5) Try.underlying40 rfl szC ?_) | (refine wpList_store_at rfl 40 _ _ rfl w.heap.size 0 (lit p ⟨#[y]⟩) rfl rfl (ck 0 0 0 0 ⟨#[]⟩) RC szC rfl (ck_one 3 0 p 0 ⟨#[y]⟩) ?_))
  refine bodyPost_ret (v := .tuple #[.agg (ck 3 0 p 0 ⟨#[y]⟩), .bool true]) ?_ rfl ⟨rfl, ⟨sl, fun h2 => ?_, HB6.out⟩, K6.out, bel6⟩
  · rw [results_cell_tmp rfl]
    have h := run_loadVar_at (P := Try.prog) 40 _ R6 Try.underlying40 rfl szC
    simp [asAddr, h]
  · rw [HS.out, if_neg (by omega)]
end Go.Proofs.Ythddacgdmngfhaa.sen
