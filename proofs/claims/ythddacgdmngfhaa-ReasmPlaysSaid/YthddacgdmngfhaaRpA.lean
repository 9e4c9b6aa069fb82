/- Layer 17: whatever parts copied; whether parts are of one message (gen-rpa.py wrote this). -/
import Derived.Test.YthddacgdmngfhaaRpM
import Derived.Test.YthddacgdmngfhaaReaC
namespace Go.Proofs.Ythddacgdmngfhaa.rea
open Go.Sort (grow)
open Go.ChangeShapes Go.WideShapes Go.ChangeAt Go.RowKit kit
open del (ms szM zero_eql)
set_option maxRecDepth 100000

/-- A part's cells: flags, number, stream, place, how far behind, bytes. -/
def cki (f t s p q : Int) (d : ByteArray) : Array Value := #[.int .i64 0, .int .i64 f, .int .u32 t, .int .i64 s, .int .i64 p, .int .u32 q, .string d, .int .u32 0, .int .u32 0, .int .i64 0, .int .i64 0, .slice none 0 0, .slice none 0 0, .slice none 0 0, .slice none 0 0]
theorem pkc_eq (T : Nat) (x : Pk) : pkc T x = cki (x.f : Nat) (ts T x.k : Nat) (x.st : Nat) (x.ss : Nat) (x.k : Nat) x.d := rfl
theorem szI (f t s p q : Int) (d : ByteArray) : (Try.prog.info? 40).map (·.size) = some (cki f t s p q d).size := by show _ = some 15; kernel_rfl
theorem oneI (f t s p q : Int) (d : ByteArray) : (cki f t s p q d).all (·.oneCell') = true := by kernel_rfl
theorem band1 (f : Nat) (h : f < 8) : bits .and .i64 (f : Nat) 1 = ((f % 2 : Nat) : Int) := by
  have : ∀ f : Fin 8, bits .and .i64 ((f.val : Nat) : Int) 1 = ((f.val % 2 : Nat) : Int) := by decide
  exact this ⟨f, h⟩
theorem band2 (f : Nat) (h : f < 8) : bits .and .i64 (f : Nat) 2 = ((f / 2 % 2 * 2 : Nat) : Int) := by
  have : ∀ f : Fin 8, bits .and .i64 ((f.val : Nat) : Int) 2 = ((f.val / 2 % 2 * 2 : Nat) : Int) := by decide
  exact this ⟨f, h⟩
theorem band4 (f : Nat) (h : f < 8) : bits .and .i64 (f : Nat) 4 = ((f / 4 % 2 * 4 : Nat) : Int) := by
  have : ∀ f : Fin 8, bits .and .i64 ((f.val : Nat) : Int) 4 = ((f.val / 4 % 2 * 4 : Nat) : Int) := by decide
  exact this ⟨f, h⟩
set_option maxHeartbeats 2000000 in
theorem clone_part (f t s p q : Int) (d : ByteArray) (w : World) : Calls Try.prog 105 #[.agg (cki f t s p q d)] w fun e w' => e = .returned (.agg (cki f t s p q d)) ∧ Below w.heap.size w w' := by
  have N0 : Blk ((w.alloc (.cells (cki f t s p q d) 40)).alloc (.cells zck 40)) w.heap.size 40 (cki f t s p q d) := (Blk.new w _ _).alloc _
  have Z0 : Blk ((w.alloc (.cells (cki f t s p q d) 40)).alloc (.cells zck 40)) (w.heap.size + 1) 40 zck := blk_new2 _ _ _ _
  have bel0 := ((Below.refl w.heap.size w).alloc (Nat.le_refl _) (.cells (cki f t s p q d) 40)).alloc (by simp) (.cells zck 40)
  go_enter Try.func105, Try.ntmps105
  go_upto_region 1 with (fail)
  generalize hw0 : (w.alloc (.cells (cki f t s p q d) 40)).alloc (.cells zck 40) = w0 at *
  have hw0' : (w.alloc (.cells (cki f t s p q d) 40)).alloc (.cells #[.int .i64 0, .int .i64 0, .int .u32 0, .int .i64 0, .int .i64 0, .int .u32 0, .string ⟨#[]⟩, .int .u32 0, .int .u32 0, .int .i64 0, .int .i64 0, .slice none 0 0, .slice none 0 0, .slice none 0 0, .slice none 0 0] 40) = w0 := hw0
  rw [hw0']
  clear hw0 hw0'
  have c0 : w0.cell? ⟨w.heap.size, 11, none⟩ = some (.slice none 0 0) := N0.cell 11
  have f0 : w0.frozen? ⟨w.heap.size, 11, none⟩ = false := N0.frozen 11
  go_wp2_with fail
  refine (clone_param _).mono ?_
  rintro e w0 ⟨rfl, rfl⟩
  go_upto_region 2 with (fail)
  have N1 : Blk (w0.setCell ⟨w.heap.size, 11, none⟩ (.slice none 0 0)) w.heap.size 40 (cki f t s p q d) := N0.set_ 11 _
  have Z1 := Z0.far (p := ⟨w.heap.size, 11, none⟩) (by show w.heap.size + 1 ≠ w.heap.size; omega) (.slice none 0 0)
  have bel1 := bel0.setCell (p := ⟨w.heap.size, 11, none⟩) (Nat.le_refl _) (.slice none 0 0)
  clear N0 Z0 bel0 c0 f0
  generalize w0.setCell ⟨w.heap.size, 11, none⟩ (.slice none 0 0) = y0 at *
  have c1 : y0.cell? ⟨w.heap.size, 12, none⟩ = some (.slice none 0 0) := N1.cell 12
  have f1 : y0.frozen? ⟨w.heap.size, 12, none⟩ = false := N1.frozen 12
  go_wp2_with fail
  refine (clone_cause _).mono ?_
  rintro e y0 ⟨rfl, rfl⟩
  go_upto_region 3 with (fail)
  have N2 : Blk (y0.setCell ⟨w.heap.size, 12, none⟩ (.slice none 0 0)) w.heap.size 40 (cki f t s p q d) := N1.set_ 12 _
  have Z2 := Z1.far (p := ⟨w.heap.size, 12, none⟩) (by show w.heap.size + 1 ≠ w.heap.size; omega) (.slice none 0 0)
  have bel2 := bel1.setCell (p := ⟨w.heap.size, 12, none⟩) (Nat.le_refl _) (.slice none 0 0)
  clear N1 Z1 bel1 c1 f1
  generalize y0.setCell ⟨w.heap.size, 12, none⟩ (.slice none 0 0) = y1 at *
  have c2 : y1.cell? ⟨w.heap.size, 13, none⟩ = some (.slice none 0 0) := N2.cell 13
  have f2 : y1.frozen? ⟨w.heap.size, 13, none⟩ = false := N2.frozen 13
  go_wp2_with fail
  refine (clone_gap _).mono ?_
  rintro e y1 ⟨rfl, rfl⟩
  go_upto_region 4 with (fail)
  have N3 : Blk (y1.setCell ⟨w.heap.size, 13, none⟩ (.slice none 0 0)) w.heap.size 40 (cki f t s p q d) := N2.set_ 13 _
  have Z3 := Z2.far (p := ⟨w.heap.size, 13, none⟩) (by show w.heap.size + 1 ≠ w.heap.size; omega) (.slice none 0 0)
  have bel3 := bel2.setCell (p := ⟨w.heap.size, 13, none⟩) (Nat.le_refl _) (.slice none 0 0)
  clear N2 Z2 bel2 c2 f2
  generalize y1.setCell ⟨w.heap.size, 13, none⟩ (.slice none 0 0) = y2 at *
  have c3 : y2.cell? ⟨w.heap.size, 14, none⟩ = some (.slice none 0 0) := N3.cell 14
  have f3 : y2.frozen? ⟨w.heap.size, 14, none⟩ = false := N3.frozen 14
  go_wp2_with fail
  refine (clone_dup _).mono ?_
  rintro e y2 ⟨rfl, rfl⟩
  go_upto_region 5 with (fail)
  have N4 : Blk (y2.setCell ⟨w.heap.size, 14, none⟩ (.slice none 0 0)) w.heap.size 40 (cki f t s p q d) := N3.set_ 14 _
  have Z4 := Z3.far (p := ⟨w.heap.size, 14, none⟩) (by show w.heap.size + 1 ≠ w.heap.size; omega) (.slice none 0 0)
  have bel4 := bel3.setCell (p := ⟨w.heap.size, 14, none⟩) (Nat.le_refl _) (.slice none 0 0)
  clear N3 Z3 bel3 c3 f3
  generalize y2.setCell ⟨w.heap.size, 14, none⟩ (.slice none 0 0) = y3 at *
  have sz := szI f t s p q d
  have one := oneI f t s p q d
  go_wp2_with (first | (refine wpList_load_at rfl 40 _ rfl w.heap.size 0 rfl (cki f t s p q d) _ (Cel.of_blk N4) Try.underlying40 rfl sz ?_) | (refine wpList_store_at rfl 40 _ _ rfl (w.heap.size + 1) 0 (cki f t s p q d) rfl rfl zck (Cel.of_blk Z4) sz rfl one ?_))
  have K := (Cel.of_blk Z4).setCells_same (cki f t s p q d).toList rfl
  have belE := below_setCells bel4 (Nat.le_succ _) 0 (cki f t s p q d).toList
  exact bodyPost_ret (v := .agg (cki f t s p q d)) (results_cell_at rfl _ _ (w.heap.size + 1) 0 (cki f t s p q d) _ rfl (K.congr (by simp)) Try.underlying40 rfl sz) rfl ⟨rfl, belE⟩
/-- Whether two parts are of one message, as far as stream, place and looseness tell. -/
theorem together_any (f t s p q f' t' s' p' q' A B : Int) (hA : bits .and .i64 f 4 = A) (hB : bits .and .i64 f' 4 = B) (a b : ByteArray) (w : World) : Calls Try.prog 161 #[.agg (cki f t s p q a), .agg (cki f' t' s' p' q' b)] w fun e w' => e = .returned (.bool (decide (s = s') && decide (p = p') && decide (A = B))) ∧ Below w.heap.size w w' := by
  have N0 : Blk ((w.alloc (.cells (cki f t s p q a) 40)).alloc (.cells (cki f' t' s' p' q' b) 40)) w.heap.size 40 (cki f t s p q a) := (Blk.new w _ _).alloc _
  have Z0 : Blk ((w.alloc (.cells (cki f t s p q a) 40)).alloc (.cells (cki f' t' s' p' q' b) 40)) (w.heap.size + 1) 40 (cki f' t' s' p' q' b) := blk_new2 _ _ _ _
  have bel0 := ((Below.refl w.heap.size w).alloc (Nat.le_refl _) (.cells (cki f t s p q a) 40)).alloc (by simp) (.cells (cki f' t' s' p' q' b) 40)
  go_enter Try.func161, Try.ntmps161
  go_upto_region 1 with (fail)
  generalize (w.alloc (.cells (cki f t s p q a) 40)).alloc (.cells (cki f' t' s' p' q' b) 40) = w0 at *
  have a1 : w0.cell? ⟨w.heap.size, 1, none⟩ = some (.int .i64 f) := N0.cell 1
  have a3 : w0.cell? ⟨w.heap.size, 3, none⟩ = some (.int .i64 s) := N0.cell 3
  have a4 : w0.cell? ⟨w.heap.size, 4, none⟩ = some (.int .i64 p) := N0.cell 4
  have b1 : w0.cell? ⟨w.heap.size + 1, 1, none⟩ = some (.int .i64 f') := Z0.cell 1
  have b3 : w0.cell? ⟨w.heap.size + 1, 3, none⟩ = some (.int .i64 s') := Z0.cell 3
  have b4 : w0.cell? ⟨w.heap.size + 1, 4, none⟩ = some (.int .i64 p') := Z0.cell 4
  clear N0 Z0
  by_cases h1 : s = s'
  · by_cases h2 : p = p'
    · by_cases h3 : A = B
      · subst h1 h2 h3
        have e1 : decide (s = s) = true := by simp
        have e2 : decide (p = p) = true := by simp
        have e3 : decide (A = A) = true := by simp
        go_wp2_with fail
        go_ret
        exact ⟨by simp, bel0⟩
      · subst h1 h2
        have e1 : decide (s = s) = true := by simp
        have e2 : decide (p = p) = true := by simp
        have e3 : decide (A = B) = false := decide_eq_false h3
        go_wp2_with fail
        go_ret
        exact ⟨by simp [h3], bel0⟩
    · subst h1
      have e1 : decide (s = s) = true := by simp
      have e2 : decide (p = p') = false := decide_eq_false h2
      go_wp2_with fail
      go_ret
      exact ⟨by simp [h2], bel0⟩
  · have e1 : decide (s = s') = false := decide_eq_false h1
    go_wp2_with fail
    go_ret
    exact ⟨by simp [h1], bel0⟩
end Go.Proofs.Ythddacgdmngfhaa.rea
