/- Layer 40: a piece taken by a fresh receiver. -/
import Derived.Test.YthddacgdmngfhaaFilD
namespace Go.Proofs.Ythddacgdmngfhaa.fil
open Go.Sort (grow)
open Go.ChangeShapes Go.WideShapes Go.ChangeAt Go.RowKit kit oct byt
open Go.ChangeMaps (setBlock)
set_option maxRecDepth 100000

set_option maxHeartbeats 2000000 in
theorem take_good {b0 g m : Nat} (i z a : Nat) (d s : ByteArray) (w : World) (q : Rv b0 g m #[] 0 w) (hl : s.size ≤ maxLen) (h : okR s = true) (hp : pcR s = pc i z a d) (h0 : a < z ∨ z = 0) (h1 : z ≤ 20000) (h2 : a + d.size ≤ z) :
    Calls Try.prog 34 #[.pointer (some ⟨g, 0, none⟩), .string s] w fun e w' => e = .returned (.tuple #[.agg #[.int .u32 (if d.size = z then i else 0), .string (if d.size = z then whl z a d else ⟨#[]⟩)], .bool (decide (d.size = z)), .int .i64 0]) ∧ Below b0 w w' := by
  have hb0 : b0 ≤ w.heap.size := by have := q.B.lt; have := q.hg; omega
  have hrd := fun W => read_any s W hl
  rw [hp, h] at hrd
  have hrd' : ∀ W, Calls Try.prog 91 #[.string s] W fun e w' => e = .returned (.tuple #[.agg #[.int .u32 i, .int .i64 z, .int .i64 a, .string d], .bool true]) ∧ Below W.heap.size W w' := hrd
  clear hrd hp h
  have O0 := Blk.new w 57 #[.int .u32 0, .string ⟨#[]⟩]
  have q0 := q.alloc (.cells #[.int .u32 0, .string ⟨#[]⟩] 57)
  have bel0 := (Below.refl b0 w).alloc hb0 (.cells #[.int .u32 0, .string ⟨#[]⟩] 57)
  have hgw : g < w.heap.size := q.B.lt
  have hmw : m < w.heap.size := q.M.lt
  go_enter Try.func34, Try.ntmps34
  go_upto_region 1 with (fail)
  clear q
  generalize w.alloc (.cells #[.int .u32 0, .string ⟨#[]⟩] 57) = w0 at *
  go_wp2_with fail
  refine (hrd' _).mono ?_
  rintro e w1 ⟨rfl, hb1⟩
  have O1 := O0.below hb1 O0.lt
  have q1 := q0.below hb1 (Nat.le_refl _)
  have bel1 := bel0.trans (hb1.mono (Nat.le_trans hb0 (Nat.le_of_lt O0.lt)))
  have hs1 : w.heap.size < w1.heap.size := O1.lt
  clear O0 bel0 hb1 hrd' q0
  go_upto_region 2 with (fail)
  have P2 := Blk.new w1 177 #[.int .u32 i, .int .i64 z, .int .i64 a, .string d]
  have O2 := O1.alloc (.cells #[.int .u32 i, .int .i64 z, .int .i64 a, .string d] 177)
  have q2 := q1.alloc (.cells #[.int .u32 i, .int .i64 z, .int .i64 a, .string d] 177)
  have bel2 := bel1.alloc (by omega) (.cells #[.int .u32 i, .int .i64 z, .int .i64 a, .string d] 177)
  have hs2 : w1.heap.size < (w1.alloc (.cells #[.int .u32 i, .int .i64 z, .int .i64 a, .string d] 177)).heap.size := P2.lt
  clear O1 bel1 q1
  generalize w1.alloc (.cells #[.int .u32 i, .int .i64 z, .int .i64 a, .string d] 177) = w2 at *
  generalize w1.heap.size = p at *
  go_upto_region 4 with (fail)
  have hgw2 : g < w2.heap.size := q2.B.lt
  have hmw2 : m < w2.heap.size := q2.M.lt
  go_cut [9, 10] (fun s9 s10 wx => s9 = .pointer (some ⟨w2.heap.size, 0, none⟩) ∧ s10 = .bool false ∧ wx = (w2.alloc (.cells #[.int .i64 0, .map none] 182)).drew)
  case first =>
    have g0 : w2.cell? ⟨g, 0, none⟩ = some (.map (some m)) := q2.B.cell 0
    have p0 : w2.cell? ⟨p, 0, none⟩ = some (.int .u32 i) := P2.cell 0
    have lk := lk_none (P := Try.prog) (w := w2.drew) (a := (i : Int)) uMO uU q2.drew.M (zR _) rfl
    have lk' := lk_none (P := Try.prog) (w := (w2.alloc (.cells #[.int .i64 0, .map none] 182)).drew) (a := (i : Int)) uMO uU (q2.alloc _).drew.M (zR _) rfl
    have g0' : (w2.alloc (.cells #[.int .i64 0, .map none] 182)).cell? ⟨g, 0, none⟩ = some (.map (some m)) := (q2.alloc _).B.cell 0
    have p0' : (w2.alloc (.cells #[.int .i64 0, .map none] 182)).cell? ⟨p, 0, none⟩ = some (.int .u32 i) := (P2.alloc _).cell 0
    go_region
    all_goals
      go_wp2_with fail
      go_meet
      exact ⟨rfl, rfl, rfl⟩
  case rest =>
  obtain ⟨rfl, rfl, rfl⟩ := hcut
  have X3 := (Blk.new w2 182 #[.int .i64 0, .map none]).drew
  have P3 := (P2.alloc (.cells #[.int .i64 0, .map none] 182)).drew
  have O3 := (O2.alloc (.cells #[.int .i64 0, .map none] 182)).drew
  have q3 := (q2.alloc (.cells #[.int .i64 0, .map none] 182)).drew
  have hpw2 : p < w2.heap.size := P2.lt
  have bel3 := (bel2.alloc (by omega) (.cells #[.int .i64 0, .map none] 182)).drew
  clear P2 O2 q2 bel2 hs2
  generalize (w2.alloc (.cells #[.int .i64 0, .map none] 182)).drew = w3 at *
  generalize w2.heap.size = x at *
  have g0 : w3.cell? ⟨g, 0, none⟩ = some (.map (some m)) := q3.B.cell 0
  have p1 : w3.cell? ⟨p, 1, none⟩ = some (.int .i64 z) := P3.cell 1
  have x0 : w3.cell? ⟨x, 0, none⟩ = some (.int .i64 0) := X3.cell 0
  have lm : ∀ ty, (Builtin.len_ #[173] ty #[.map (some m)]).run Try.prog w3 = .ok (.int .i64 0) w3 := fun ty => len_map uMO q3.M #[173] rfl ty
  have hmk : ∀ w, (Instr.makeMap 180 none).run Try.prog w = .ok (.map (some w.heap.size)) (w.alloc (.map #[] 0)) := fun w => rfl
  have x0f : w3.frozen? ⟨x, 0, none⟩ = false := X3.frozen 0
  have x1 : w3.cell? ⟨x, 1, none⟩ = some (.map none) := X3.cell 1
  have x1f : w3.frozen? ⟨x, 1, none⟩ = false := X3.frozen 1
  have hxw3 : x < w3.heap.size := X3.lt
  go_upto_region 11 with (fail)
  have hk3 : w3.heap.size = (w3.setCell ⟨x, 0, none⟩ (.int .i64 z)).heap.size := by simp [World.setCell]
  have hk4 : w3.heap.size = ((w3.setCell ⟨x, 0, none⟩ (.int .i64 z)).setCell ⟨x, 1, none⟩ (.map (some w3.heap.size))).heap.size := by simp [World.setCell]
  have M4 := MapB.new ((w3.setCell ⟨x, 0, none⟩ (.int .i64 z)).setCell ⟨x, 1, none⟩ (.map (some w3.heap.size)))
  rw [← hk4] at M4
  have X4 : Blk ((w3.setCell ⟨x, 0, none⟩ (.int .i64 z)).setCell ⟨x, 1, none⟩ (.map (some w3.heap.size))) x 182 #[.int .i64 z, .map (some w3.heap.size)] := by
    have := (X3.set_ 0 (.int .i64 z)).set_ 1 (.map (some w3.heap.size))
    simpa using this
  have X4 := X4.alloc (.map #[] 0)
  have P4 := ((P3.far (p := ⟨x, 0, none⟩) (show p ≠ x by omega) (.int .i64 z)).far (p := ⟨x, 1, none⟩) (show p ≠ x by omega) (.map (some w3.heap.size))).alloc (.map #[] 0)
  have O4 := ((O3.far (p := ⟨x, 0, none⟩) (show w.heap.size ≠ x by omega) (.int .i64 z)).far (p := ⟨x, 1, none⟩) (show w.heap.size ≠ x by omega) (.map (some w3.heap.size))).alloc (.map #[] 0)
  have q4 := ((q3.far (p := ⟨x, 0, none⟩) (show g ≠ x by omega) (show m ≠ x by omega) (.int .i64 z)).far (p := ⟨x, 1, none⟩) (show g ≠ x by omega) (show m ≠ x by omega) (.map (some w3.heap.size))).alloc (.map #[] 0)
  have bel4 := ((bel3.setCell (p := ⟨x, 0, none⟩) (show b0 ≤ x by omega) (.int .i64 z)).setCell (p := ⟨x, 1, none⟩) (show b0 ≤ x by omega) (.map (some w3.heap.size))).alloc (by rw [← hk4]; omega) (.map #[] 0)
  clear X3 P3 O3 q3 bel3 g0 p1 x0 lm hmk x0f x1 x1f hk3 hk4
  generalize ((w3.setCell ⟨x, 0, none⟩ (.int .i64 z)).setCell ⟨x, 1, none⟩ (.map (some w3.heap.size))).alloc (.map #[] 0) = w4 at *
  generalize w3.heap.size = k at *
  have y0 : w4.cell? ⟨p, 0, none⟩ = some (.int .u32 i) := P4.cell 0
  have y1 : w4.cell? ⟨p, 1, none⟩ = some (.int .i64 z) := P4.cell 1
  have y2 : w4.cell? ⟨p, 2, none⟩ = some (.int .i64 a) := P4.cell 2
  have y3 : w4.cell? ⟨p, 3, none⟩ = some (.string d) := P4.cell 3
  have z1 : w4.cell? ⟨x, 1, none⟩ = some (.map (some k)) := X4.cell 1
  have up : (Instr.mapUpdate 180 (.map (some k)) (.int .i64 a) (.agg #[.int .u32 i, .int .i64 z, .int .i64 a, .string d])).run Try.prog w4 = .ok () (setBlock w4 k (.map #[⟨.int .i64 a, .agg #[.int .u32 i, .int .i64 z, .int .i64 a, .string d], 0⟩] 1)) := up_new (P := Try.prog) (a := (a : Int)) uMP uI M4 (.agg #[.int .u32 i, .int .i64 z, .int .i64 a, .string d]) rfl
  go_upto_region 12 with (fail)
  have M5 : MapB (setBlock w4 k (.map #[⟨.int .i64 a, .agg #[.int .u32 i, .int .i64 z, .int .i64 a, .string d], 0⟩] 1)) k #[⟨.int .i64 a, .agg (pc i z a d), 0⟩] 1 := M4.set_ _ _
  have X5 := blk_map M4 X4 #[⟨.int .i64 a, .agg #[.int .u32 i, .int .i64 z, .int .i64 a, .string d], 0⟩] 1
  have P5 := blk_map M4 P4 #[⟨.int .i64 a, .agg #[.int .u32 i, .int .i64 z, .int .i64 a, .string d], 0⟩] 1
  have O5 := blk_map M4 O4 #[⟨.int .i64 a, .agg #[.int .u32 i, .int .i64 z, .int .i64 a, .string d], 0⟩] 1
  have q5 : Rv b0 g m #[] 0 (setBlock w4 k (.map #[⟨.int .i64 a, .agg #[.int .u32 i, .int .i64 z, .int .i64 a, .string d], 0⟩] 1)) := ⟨blk_map M4 q4.B _ _, (M4.other _ _ (show m ≠ k by omega)).trans q4.M, q4.hg, q4.hm, q4.ne⟩
  have bel5 := M4.bel bel4 (by omega) #[⟨.int .i64 a, .agg #[.int .u32 i, .int .i64 z, .int .i64 a, .string d], 0⟩] 1
  clear up y0 y1 y2 y3 z1 M4 X4 P4 O4 q4 bel4
  generalize setBlock w4 k (.map #[⟨.int .i64 a, .agg #[.int .u32 i, .int .i64 z, .int .i64 a, .string d], 0⟩] 1) = w5 at *
  have v0 : w5.cell? ⟨x, 0, none⟩ = some (.int .i64 z) := X5.cell 0
  have v1 : w5.cell? ⟨x, 1, none⟩ = some (.map (some k)) := X5.cell 1
  have hwh := whole_any k z a i d w5 M5 h0 h1 h2
  go_wp2_with fail
  refine hwh.mono ?_
  rintro e w6 ⟨rfl, hb6⟩
  have X6 := X5.below hb6 X5.lt
  have P6 := P5.below hb6 P5.lt
  have O6 := O5.below hb6 O5.lt
  have q6 := q5.below hb6 (Nat.le_refl _)
  have hb0w5 : b0 ≤ w5.heap.size := by have := q5.B.lt; have := q5.hg; omega
  have bel6 := bel5.trans (hb6.mono hb0w5)
  clear hwh v0 v1 M5 X5 P5 O5 q5 bel5 hb6
  have g6 : w6.cell? ⟨g, 0, none⟩ = some (.map (some m)) := q6.B.cell 0
  have p6 : w6.cell? ⟨p, 0, none⟩ = some (.int .u32 i) := P6.cell 0
  by_cases hd : d.size = z
  · have HD := Lib.hid hd
    have hdt : decide (d.size = z) = true := decide_eq_true hd
    rw [hdt]
    clear hd hdt
    have dn := fun ty => del_none (P := Try.prog) (a := (i : Int)) uMO uU q6.drew.M #[173, 28] rfl ty rfl
    go_wp2_with fail
    go_region
    have O7 := blk_map q6.drew.M O6.drew #[] 0
    have P7 := blk_map q6.drew.M P6.drew #[] 0
    have bel7 := q6.drew.M.bel bel6.drew q6.hm #[] 0
    clear dn g6 p6 O6 P6 X6 q6 bel6
    generalize setBlock w6.drew m (.map #[] 0) = w7 at *
    have p0 : w7.cell? ⟨p, 0, none⟩ = some (.int .u32 i) := P7.cell 0
    have o0 : w7.cell? ⟨w.heap.size, 0, none⟩ = some (.int .u32 0) := O7.cell 0
    have o1 : w7.cell? ⟨w.heap.size, 1, none⟩ = some (.string ⟨#[]⟩) := O7.cell 1
    have f0 : w7.frozen? ⟨w.heap.size, 0, none⟩ = false := O7.frozen 0
    have f1 : w7.frozen? ⟨w.heap.size, 1, none⟩ = false := O7.frozen 1
    have O8 : Blk ((w7.setCell ⟨w.heap.size, 0, none⟩ (.int .u32 i)).setCell ⟨w.heap.size, 1, none⟩ (.string (whl z a d))) w.heap.size 57 #[.int .u32 i, .string (whl z a d)] := by
      have := (O7.set_ 0 (.int .u32 i)).set_ 1 (.string (whl z a d))
      simpa using this
    have bel8 := (bel7.setCell (p := ⟨w.heap.size, 0, none⟩) hb0 (.int .u32 i)).setCell (p := ⟨w.heap.size, 1, none⟩) hb0 (.string (whl z a d))
    go_wp2_with fail
    exact bodyPost_ret (v := .tuple #[.agg #[.int .u32 i, .string (whl z a d)], .bool true, .int .i64 0]) (by rw [results_cell_tmp2_at rfl _ _ w.heap.size 0 #[.int .u32 i, .string (whl z a d)] _ rfl (Cel.of_blk O8) Try.underlying57 rfl (szO _ _)]; rfl) rfl ⟨by first | rfl | (rw [if_pos HD.out, if_pos HD.out]; simp [HD.out]), bel8⟩
  · have HD := Lib.hid hd
    have hdt : decide (d.size = z) = false := decide_eq_false hd
    rw [hdt]
    clear hd hdt
    have x6 : w6.cell? ⟨x, 0, none⟩ = some (.int .i64 z) := X6.cell 0
    have x7 : w6.cell? ⟨x, 1, none⟩ = some (.map (some k)) := X6.cell 1
    go_wp2_with fail
    refine (keep_any _ _ _ _ q6).mono ?_
    rintro e w7 ⟨rfl, _, hob, hb7⟩
    have O7 : Blk w7 w.heap.size 57 #[.int .u32 0, .string ⟨#[]⟩] := (hob _ O6.lt (by omega)).trans O6
    have bel7 := bel6.trans hb7
    have o0 : w7.cell? ⟨w.heap.size, 0, none⟩ = some (.int .u32 0) := O7.cell 0
    have o1 : w7.cell? ⟨w.heap.size, 1, none⟩ = some (.string ⟨#[]⟩) := O7.cell 1
    have f0 : w7.frozen? ⟨w.heap.size, 0, none⟩ = false := O7.frozen 0
    have f1 : w7.frozen? ⟨w.heap.size, 1, none⟩ = false := O7.frozen 1
    have O8 : Blk ((w7.setCell ⟨w.heap.size, 0, none⟩ (.int .u32 0)).setCell ⟨w.heap.size, 1, none⟩ (.string ⟨#[]⟩)) w.heap.size 57 #[.int .u32 0, .string ⟨#[]⟩] := by
      have := (O7.set_ 0 (.int .u32 0)).set_ 1 (.string ⟨#[]⟩)
      simpa using this
    have bel8 := (bel7.setCell (p := ⟨w.heap.size, 0, none⟩) hb0 (.int .u32 0)).setCell (p := ⟨w.heap.size, 1, none⟩) hb0 (.string ⟨#[]⟩)
    go_wp2_with fail
    exact bodyPost_ret (v := .tuple #[.agg #[.int .u32 0, .string ⟨#[]⟩], .bool false, .int .i64 0]) (by rw [results_cell_tmp2_at rfl _ _ w.heap.size 0 #[.int .u32 0, .string ⟨#[]⟩] _ rfl (Cel.of_blk O8) Try.underlying57 rfl (szO _ _)]; rfl) rfl ⟨by first | rfl | (rw [if_neg HD.out, if_neg HD.out]; simp [HD.out]), bel8⟩
end Go.Proofs.Ythddacgdmngfhaa.fil
