/- Layer 40: pieces that are refused: no room; of another size. -/
import Derived.Test.YthddacgdmngfhaaLimA
namespace Go.Proofs.Ythddacgdmngfhaa.fil
open Go.Sort (grow)
open Go.ChangeShapes Go.WideShapes Go.ChangeAt Go.RowKit kit oct byt
open Go.ChangeMaps (setBlock)
set_option maxRecDepth 100000

set_option maxHeartbeats 2000000 in
theorem take_full {b0 g m c : Nat} {es : Array MapEntry} (i z a : Nat) (d s : ByteArray) (w : World) (q : Rv b0 g m es c w) (hl : s.size ≤ maxLen) (h : okR s = true) (hp : pcR s = pc i z a d) (hes : 16 ≤ es.size) (hf : Instr.findNow (.int .u32) (.int .u32 i) es.toList 0 = some none) :
    Calls Try.prog 34 #[.pointer (some ⟨g, 0, none⟩), .string s] w fun e w' => e = .returned (.tuple #[.agg #[.int .u32 0, .string ⟨#[]⟩], .bool false, .int .i64 6]) ∧ Below w.heap.size w w' := by
  have hb0 : b0 ≤ w.heap.size := by have := q.B.lt; have := q.hg; omega
  have hrd := fun W => read_any s W hl
  rw [hp, h] at hrd
  have hrd' : ∀ W, Calls Try.prog 91 #[.string s] W fun e w' => e = .returned (.tuple #[.agg #[.int .u32 i, .int .i64 z, .int .i64 a, .string d], .bool true]) ∧ Below W.heap.size W w' := hrd
  clear hrd hp h
  have HF := Lib.hid hf
  have hesi : (16 : Int) ≤ (es.size : Int) := by omega
  clear hf
  have O0 := Blk.new w 57 #[.int .u32 0, .string ⟨#[]⟩]
  have q0 := q.alloc (.cells #[.int .u32 0, .string ⟨#[]⟩] 57)
  have bel0 := (Below.refl w.heap.size w).alloc (Nat.le_refl _) (.cells #[.int .u32 0, .string ⟨#[]⟩] 57)
  have hgw : g < w.heap.size := q.B.lt
  have hmw : m < w.heap.size := q.M.lt
  go_enter Try.func34, Try.ntmps34
  go_upto_region 1 with (fail)
  clear q
  generalize w.alloc (.cells #[.int .u32 0, .string ⟨#[]⟩] 57) = w0 at *
  go_wp2_with fail
  refine (hrd' _).mono ?_
  rintro e w1 ⟨rfl, hb1⟩
  have O1 := O0.below hb1 O0.lt
  have q1 := q0.below hb1 (Nat.le_refl _)
  have bel1 := bel0.trans (hb1.mono (Nat.le_of_lt O0.lt))
  have hs1 : w.heap.size < w1.heap.size := O1.lt
  clear O0 bel0 hb1 hrd' q0
  go_upto_region 2 with (fail)
  have P2 := Blk.new w1 177 #[.int .u32 i, .int .i64 z, .int .i64 a, .string d]
  have O2 := O1.alloc (.cells #[.int .u32 i, .int .i64 z, .int .i64 a, .string d] 177)
  have q2 := q1.alloc (.cells #[.int .u32 i, .int .i64 z, .int .i64 a, .string d] 177)
  have bel2 := bel1.alloc (by omega) (.cells #[.int .u32 i, .int .i64 z, .int .i64 a, .string d] 177)
  have hs2 : w1.heap.size < (w1.alloc (.cells #[.int .u32 i, .int .i64 z, .int .i64 a, .string d] 177)).heap.size := P2.lt
  clear O1 bel1 q1
  generalize w1.alloc (.cells #[.int .u32 i, .int .i64 z, .int .i64 a, .string d] 177) = w2 at *
  generalize w1.heap.size = p at *
  go_upto_region 4 with (fail)
  have hgw2 : g < w2.heap.size := q2.B.lt
  have hmw2 : m < w2.heap.size := q2.M.lt
  go_cut [9, 10] (fun s9 s10 wx => s9 = .pointer (some ⟨w2.heap.size, 0, none⟩) ∧ s10 = .bool false ∧ wx = (w2.alloc (.cells #[.int .i64 0, .map none] 182)).drew)
  case first =>
    have g0 : w2.cell? ⟨g, 0, none⟩ = some (.map (some m)) := q2.B.cell 0
    have p0 : w2.cell? ⟨p, 0, none⟩ = some (.int .u32 i) := P2.cell 0
    have lk := lk_none (P := Try.prog) (w := w2.drew) (a := (i : Int)) uMO uU q2.drew.M (zR _) HF.out
    have lk' := lk_none (P := Try.prog) (w := (w2.alloc (.cells #[.int .i64 0, .map none] 182)).drew) (a := (i : Int)) uMO uU (q2.alloc _).drew.M (zR _) HF.out
    have g0' : (w2.alloc (.cells #[.int .i64 0, .map none] 182)).cell? ⟨g, 0, none⟩ = some (.map (some m)) := (q2.alloc _).B.cell 0
    have p0' : (w2.alloc (.cells #[.int .i64 0, .map none] 182)).cell? ⟨p, 0, none⟩ = some (.int .u32 i) := (P2.alloc _).cell 0
    go_region
    all_goals
      go_wp2_with fail
      go_meet
      exact ⟨rfl, rfl, rfl⟩
  case rest =>
  obtain ⟨rfl, rfl, rfl⟩ := hcut
  have X3 := (Blk.new w2 182 #[.int .i64 0, .map none]).drew
  have P3 := (P2.alloc (.cells #[.int .i64 0, .map none] 182)).drew
  have O3 := (O2.alloc (.cells #[.int .i64 0, .map none] 182)).drew
  have q3 := (q2.alloc (.cells #[.int .i64 0, .map none] 182)).drew
  have hpw2 : p < w2.heap.size := P2.lt
  have bel3 := (bel2.alloc (by omega) (.cells #[.int .i64 0, .map none] 182)).drew
  clear P2 O2 q2 bel2 hs2
  generalize (w2.alloc (.cells #[.int .i64 0, .map none] 182)).drew = w3 at *
  generalize w2.heap.size = x at *
  have g0 : w3.cell? ⟨g, 0, none⟩ = some (.map (some m)) := q3.B.cell 0
  have p1 : w3.cell? ⟨p, 1, none⟩ = some (.int .i64 z) := P3.cell 1
  have x0 : w3.cell? ⟨x, 0, none⟩ = some (.int .i64 0) := X3.cell 0
  have lm : ∀ ty, (Builtin.len_ #[173] ty #[.map (some m)]).run Try.prog w3 = .ok (.int .i64 es.size) w3 := fun ty => len_map uMO q3.M #[173] rfl ty
  have o0 : w3.cell? ⟨w.heap.size, 0, none⟩ = some (.int .u32 0) := O3.cell 0
  have o1 : w3.cell? ⟨w.heap.size, 1, none⟩ = some (.string ⟨#[]⟩) := O3.cell 1
  have f0 : w3.frozen? ⟨w.heap.size, 0, none⟩ = false := O3.frozen 0
  have f1 : w3.frozen? ⟨w.heap.size, 1, none⟩ = false := O3.frozen 1
  have O8 : Blk ((w3.setCell ⟨w.heap.size, 0, none⟩ (.int .u32 0)).setCell ⟨w.heap.size, 1, none⟩ (.string ⟨#[]⟩)) w.heap.size 57 #[.int .u32 0, .string ⟨#[]⟩] := by
    have := (O3.set_ 0 (.int .u32 0)).set_ 1 (.string ⟨#[]⟩)
    simpa using this
  have bel8 := (bel3.setCell (p := ⟨w.heap.size, 0, none⟩) (Nat.le_refl _) (.int .u32 0)).setCell (p := ⟨w.heap.size, 1, none⟩) (Nat.le_refl _) (.string ⟨#[]⟩)
  go_wp2_with fail
  exact bodyPost_ret (v := .tuple #[.agg #[.int .u32 0, .string ⟨#[]⟩], .bool false, .int .i64 6]) (by rw [results_cell_tmp2_at rfl _ _ w.heap.size 0 #[.int .u32 0, .string ⟨#[]⟩] _ rfl (Cel.of_blk O8) Try.underlying57 rfl (szO _ _)]; rfl) rfl ⟨rfl, bel8⟩
set_option maxHeartbeats 2000000 in
theorem take_odd {b0 g m c : Nat} {es : Array MapEntry} (i z a : Nat) (d s : ByteArray) (w : World) (q : Rv b0 g m es c w) (hl : s.size ≤ maxLen) (h : okR s = true) (hp : pcR s = pc i z a d) (z' k' j : Nat) (hz : (z' : Int) ≠ z) (hf : Instr.findNow (.int .u32) (.int .u32 i) es.toList 0 = some (some (j, .agg #[.int .i64 z', .map (some k')]))) :
    Calls Try.prog 34 #[.pointer (some ⟨g, 0, none⟩), .string s] w fun e w' => e = .returned (.tuple #[.agg #[.int .u32 0, .string ⟨#[]⟩], .bool false, .int .i64 3]) ∧ Below w.heap.size w w' := by
  have hb0 : b0 ≤ w.heap.size := by have := q.B.lt; have := q.hg; omega
  have hrd := fun W => read_any s W hl
  rw [hp, h] at hrd
  have hrd' : ∀ W, Calls Try.prog 91 #[.string s] W fun e w' => e = .returned (.tuple #[.agg #[.int .u32 i, .int .i64 z, .int .i64 a, .string d], .bool true]) ∧ Below W.heap.size W w' := hrd
  clear hrd hp h
  have HF := Lib.hid hf
  have hzz : ¬ (z' : Int) = z := hz
  have HZ := Lib.hid hzz
  clear hzz hz
  clear hf
  have O0 := Blk.new w 57 #[.int .u32 0, .string ⟨#[]⟩]
  have q0 := q.alloc (.cells #[.int .u32 0, .string ⟨#[]⟩] 57)
  have bel0 := (Below.refl w.heap.size w).alloc (Nat.le_refl _) (.cells #[.int .u32 0, .string ⟨#[]⟩] 57)
  have hgw : g < w.heap.size := q.B.lt
  have hmw : m < w.heap.size := q.M.lt
  go_enter Try.func34, Try.ntmps34
  go_upto_region 1 with (fail)
  clear q
  generalize w.alloc (.cells #[.int .u32 0, .string ⟨#[]⟩] 57) = w0 at *
  go_wp2_with fail
  refine (hrd' _).mono ?_
  rintro e w1 ⟨rfl, hb1⟩
  have O1 := O0.below hb1 O0.lt
  have q1 := q0.below hb1 (Nat.le_refl _)
  have bel1 := bel0.trans (hb1.mono (Nat.le_of_lt O0.lt))
  have hs1 : w.heap.size < w1.heap.size := O1.lt
  clear O0 bel0 hb1 hrd' q0
  go_upto_region 2 with (fail)
  have P2 := Blk.new w1 177 #[.int .u32 i, .int .i64 z, .int .i64 a, .string d]
  have O2 := O1.alloc (.cells #[.int .u32 i, .int .i64 z, .int .i64 a, .string d] 177)
  have q2 := q1.alloc (.cells #[.int .u32 i, .int .i64 z, .int .i64 a, .string d] 177)
  have bel2 := bel1.alloc (by omega) (.cells #[.int .u32 i, .int .i64 z, .int .i64 a, .string d] 177)
  have hs2 : w1.heap.size < (w1.alloc (.cells #[.int .u32 i, .int .i64 z, .int .i64 a, .string d] 177)).heap.size := P2.lt
  clear O1 bel1 q1
  generalize w1.alloc (.cells #[.int .u32 i, .int .i64 z, .int .i64 a, .string d] 177) = w2 at *
  generalize w1.heap.size = p at *
  go_upto_region 4 with (fail)
  have hgw2 : g < w2.heap.size := q2.B.lt
  have hmw2 : m < w2.heap.size := q2.M.lt
  go_cut [9, 10] (fun s9 s10 wx => s9 = .pointer (some ⟨w2.heap.size, 0, none⟩) ∧ s10 = .bool true ∧ wx = (w2.alloc (.cells #[.int .i64 z', .map (some k')] 182)).drew)
  case first =>
    have g0 : w2.cell? ⟨g, 0, none⟩ = some (.map (some m)) := q2.B.cell 0
    have p0 : w2.cell? ⟨p, 0, none⟩ = some (.int .u32 i) := P2.cell 0
    have lk := lk_some (P := Try.prog) (w := w2.drew) (a := (i : Int)) uMO uU q2.drew.M HF.out
    have lk' := lk_some (P := Try.prog) (w := (w2.alloc (.cells #[.int .i64 0, .map none] 182)).drew) (a := (i : Int)) uMO uU (q2.alloc _).drew.M HF.out
    have g0' : (w2.alloc (.cells #[.int .i64 0, .map none] 182)).cell? ⟨g, 0, none⟩ = some (.map (some m)) := (q2.alloc _).B.cell 0
    have p0' : (w2.alloc (.cells #[.int .i64 0, .map none] 182)).cell? ⟨p, 0, none⟩ = some (.int .u32 i) := (P2.alloc _).cell 0
    go_region
    all_goals
      go_wp2_with fail
      go_meet
      exact ⟨rfl, rfl, rfl⟩
  case rest =>
  obtain ⟨rfl, rfl, rfl⟩ := hcut
  have X3 := (Blk.new w2 182 #[.int .i64 z', .map (some k')]).drew
  have P3 := (P2.alloc (.cells #[.int .i64 z', .map (some k')] 182)).drew
  have O3 := (O2.alloc (.cells #[.int .i64 z', .map (some k')] 182)).drew
  have q3 := (q2.alloc (.cells #[.int .i64 z', .map (some k')] 182)).drew
  have hpw2 : p < w2.heap.size := P2.lt
  have bel3 := (bel2.alloc (by omega) (.cells #[.int .i64 z', .map (some k')] 182)).drew
  clear P2 O2 q2 bel2 hs2
  generalize (w2.alloc (.cells #[.int .i64 z', .map (some k')] 182)).drew = w3 at *
  generalize w2.heap.size = x at *
  have g0 : w3.cell? ⟨g, 0, none⟩ = some (.map (some m)) := q3.B.cell 0
  have p1 : w3.cell? ⟨p, 1, none⟩ = some (.int .i64 z) := P3.cell 1
  have x0 : w3.cell? ⟨x, 0, none⟩ = some (.int .i64 z') := X3.cell 0
  have hzd : decide ((z' : Int) = (z : Int)) = false := decide_eq_false HZ.out
  have hzn : ¬ (z' : Int) = (z : Int) := HZ.out
  have o0 : w3.cell? ⟨w.heap.size, 0, none⟩ = some (.int .u32 0) := O3.cell 0
  have o1 : w3.cell? ⟨w.heap.size, 1, none⟩ = some (.string ⟨#[]⟩) := O3.cell 1
  have f0 : w3.frozen? ⟨w.heap.size, 0, none⟩ = false := O3.frozen 0
  have f1 : w3.frozen? ⟨w.heap.size, 1, none⟩ = false := O3.frozen 1
  have O8 : Blk ((w3.setCell ⟨w.heap.size, 0, none⟩ (.int .u32 0)).setCell ⟨w.heap.size, 1, none⟩ (.string ⟨#[]⟩)) w.heap.size 57 #[.int .u32 0, .string ⟨#[]⟩] := by
    have := (O3.set_ 0 (.int .u32 0)).set_ 1 (.string ⟨#[]⟩)
    simpa using this
  have bel8 := (bel3.setCell (p := ⟨w.heap.size, 0, none⟩) (Nat.le_refl _) (.int .u32 0)).setCell (p := ⟨w.heap.size, 1, none⟩) (Nat.le_refl _) (.string ⟨#[]⟩)
  go_wp2_with fail
  exact bodyPost_ret (v := .tuple #[.agg #[.int .u32 0, .string ⟨#[]⟩], .bool false, .int .i64 3]) (by rw [results_cell_tmp2_at rfl _ _ w.heap.size 0 #[.int .u32 0, .string ⟨#[]⟩] _ rfl (Cel.of_blk O8) Try.underlying57 rfl (szO _ _)]; rfl) rfl ⟨rfl, bel8⟩
end Go.Proofs.Ythddacgdmngfhaa.fil
