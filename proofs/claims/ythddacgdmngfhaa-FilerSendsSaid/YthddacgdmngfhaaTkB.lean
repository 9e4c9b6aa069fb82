/- Layer 40: a piece taken by a receiver that has nothing, and by one that has some pieces of that object. -/
import Derived.Test.YthddacgdmngfhaaTkA
import Derived.Test.YthddacgdmngfhaaLimA
namespace Go.Proofs.Ythddacgdmngfhaa.fil
open Go.Sort (grow)
open Go.ChangeShapes Go.WideShapes Go.ChangeAt Go.RowKit kit oct byt
open Go.ChangeMaps (setBlock)
set_option maxRecDepth 100000

theorem find_head1 (a : Int) (v : Value) (c i : Nat) (h : (⟨.int .u32 a, v, c⟩ : MapEntry).key = .int .u32 a) : Instr.findNow (.int .u32) (.int .u32 a) (#[⟨.int .u32 a, v, c⟩] : Array MapEntry).toList i = some (some (i, v)) := by
  have hs : Instr.sameNow (.int .u32) (.int .u32 a) (.int .u32 a) = some true := by simp [Instr.sameNow]
  show Instr.findNow _ _ [_] i = _
  unfold Instr.findNow
  rw [hs]
theorem nodup_snoc {l : List Nat} {x : Nat} (h : l.Nodup) (hx : x ∉ l) : (l ++ [x]).Nodup := by
  rw [List.nodup_append]
  refine ⟨h, by simp, ?_⟩
  intro a ha b hb
  obtain rfl := List.mem_singleton.1 hb
  intro e
  exact hx (e ▸ ha)
theorem keep_old {b0 g m c : Nat} {es : Array MapEntry} (id : Int) (n : Int) (k j b : Nat) (w : World) (q : Rv b0 g m es c w) (hf : Instr.findNow (.int .u32) (.int .u32 id) es.toList 0 = some (some (j, .agg #[.int .i64 n, .map (some k)]))) (hj : es.toList[j]? = some ⟨.int .u32 id, .agg #[.int .i64 n, .map (some k)], b⟩) : Calls Try.prog 93 #[.pointer (some ⟨g, 0, none⟩), .int .u32 id, .agg #[.int .i64 n, .map (some k)]] w fun e w' => e = .returned (.tuple #[]) ∧ Below w.heap.size w w' := by
  have X1 := Blk.new w 182 #[.int .i64 n, .map (some k)]
  have q1 := q.alloc (.cells #[.int .i64 n, .map (some k)] 182)
  have al := (Below.refl w.heap.size w).alloc (Nat.le_refl _) (.cells #[.int .i64 n, .map (some k)] 182)
  have qT : ∀ (w : World) (r : Option Nat), (binOp .eql 173 (.map r) (.map none)).run Try.prog w = .ok (.bool r.isNone) w := fun w r => run_eql_map_nil w _ _ _ r Try.underlying173
  go_enter Try.func93, Try.ntmps93
  go_upto_region 1 with (fail)
  clear q
  generalize w.alloc (.cells #[.int .i64 n, .map (some k)] 182) = w1 at *
  have g0 : w1.cell? ⟨g, 0, none⟩ = some (.map (some m)) := q1.B.cell 0
  have x0 : w1.cell? ⟨w.heap.size, 0, none⟩ = some (.int .i64 n) := X1.cell 0
  have x1 : w1.cell? ⟨w.heap.size, 1, none⟩ = some (.map (some k)) := X1.cell 1
  have up := up_same (P := Try.prog) (a := id) uMO uU q1.drew.M (.agg #[.int .i64 n, .map (some k)]) hf hj
  go_wp2_with fail
  go_region
  go_wp2_with fail
  go_end0
  exact ⟨rfl, al.drew⟩
set_option maxHeartbeats 2000000 in
theorem take_first {b0 g m c : Nat} {es : Array MapEntry} (i z a : Nat) (d s : ByteArray) (w : World) (q : Rv b0 g m es c w) (hl : s.size ≤ maxLen) (h : okR s = true) (hp : pcR s = pc i z a d) (h0 : a < z ∨ z = 0) (h1 : z ≤ 20000) (h2 : a + d.size ≤ z) (hd : d.size ≠ z) (hes : es.size < 16) (hf : Instr.findNow (.int .u32) (.int .u32 i) es.toList 0 = some none) :
    Calls Try.prog 34 #[.pointer (some ⟨g, 0, none⟩), .string s] w fun e w' => e = .returned (.tuple #[.agg #[.int .u32 0, .string ⟨#[]⟩], .bool false, .int .i64 0]) ∧ (∃ k : Nat, Rv b0 g m (es.push ⟨.int .u32 i, .agg #[.int .i64 z, .map (some k)], c⟩) (c + 1) w' ∧ MapB w' k #[⟨.int .i64 a, .agg (pc i z a d), 0⟩] 1 ∧ b0 ≤ k ∧ k ≠ g ∧ k ≠ m ∧ w.heap.size ≤ k) ∧ (∀ b, b < w.heap.size → b ≠ m → w'.heap[b]? = w.heap[b]?) ∧ Below b0 w w' := by
  have hb0 : b0 ≤ w.heap.size := by have := q.B.lt; have := q.hg; omega
  have hrd := fun W => read_any s W hl
  rw [hp, h] at hrd
  have hrd' : ∀ W, Calls Try.prog 91 #[.string s] W fun e w' => e = .returned (.tuple #[.agg #[.int .u32 i, .int .i64 z, .int .i64 a, .string d], .bool true]) ∧ Below W.heap.size W w' := hrd
  clear hrd hp h
  have HF := Lib.hid hf
  have hesi : (es.size : Int) < 16 := by omega
  clear hf
  have O0 := Blk.new w 57 #[.int .u32 0, .string ⟨#[]⟩]
  have q0 := q.alloc (.cells #[.int .u32 0, .string ⟨#[]⟩] 57)
  have bel0 := (Below.refl b0 w).alloc hb0 (.cells #[.int .u32 0, .string ⟨#[]⟩] 57)
  have al0 := (Below.refl w.heap.size w).alloc (Nat.le_refl _) (.cells #[.int .u32 0, .string ⟨#[]⟩] 57)
  have hgw : g < w.heap.size := q.B.lt
  have hmw : m < w.heap.size := q.M.lt
  go_enter Try.func34, Try.ntmps34
  go_upto_region 1 with (fail)
  clear q
  generalize w.alloc (.cells #[.int .u32 0, .string ⟨#[]⟩] 57) = w0 at *
  go_wp2_with fail
  refine (hrd' _).mono ?_
  rintro e w1 ⟨rfl, hb1⟩
  have O1 := O0.below hb1 O0.lt
  have q1 := q0.below hb1 (Nat.le_refl _)
  have bel1 := bel0.trans (hb1.mono (Nat.le_trans hb0 (Nat.le_of_lt O0.lt)))
  have al1 := al0.trans (hb1.mono (Nat.le_of_lt O0.lt))
  have hs1 : w.heap.size < w1.heap.size := O1.lt
  clear O0 bel0 al0 hb1 hrd' q0
  go_upto_region 2 with (fail)
  have P2 := Blk.new w1 177 #[.int .u32 i, .int .i64 z, .int .i64 a, .string d]
  have O2 := O1.alloc (.cells #[.int .u32 i, .int .i64 z, .int .i64 a, .string d] 177)
  have q2 := q1.alloc (.cells #[.int .u32 i, .int .i64 z, .int .i64 a, .string d] 177)
  have bel2 := bel1.alloc (by omega) (.cells #[.int .u32 i, .int .i64 z, .int .i64 a, .string d] 177)
  have al2 := al1.alloc (by omega) (.cells #[.int .u32 i, .int .i64 z, .int .i64 a, .string d] 177)
  have hs2 : w1.heap.size < (w1.alloc (.cells #[.int .u32 i, .int .i64 z, .int .i64 a, .string d] 177)).heap.size := P2.lt
  clear O1 bel1 al1 q1
  generalize w1.alloc (.cells #[.int .u32 i, .int .i64 z, .int .i64 a, .string d] 177) = w2 at *
  generalize w1.heap.size = p at *
  go_upto_region 4 with (fail)
  have hgw2 : g < w2.heap.size := q2.B.lt
  have hmw2 : m < w2.heap.size := q2.M.lt
  go_cut [9, 10] (fun s9 s10 wx => s9 = .pointer (some ⟨w2.heap.size, 0, none⟩) ∧ s10 = .bool false ∧ wx = (w2.alloc (.cells #[.int .i64 0, .map none] 182)).drew)
  case first =>
    have g0 : w2.cell? ⟨g, 0, none⟩ = some (.map (some m)) := q2.B.cell 0
    have p0 : w2.cell? ⟨p, 0, none⟩ = some (.int .u32 i) := P2.cell 0
    have lk := lk_none (P := Try.prog) (w := w2.drew) (a := (i : Int)) uMO uU q2.drew.M (zR _) HF.out
    have lk' := lk_none (P := Try.prog) (w := (w2.alloc (.cells #[.int .i64 0, .map none] 182)).drew) (a := (i : Int)) uMO uU (q2.alloc _).drew.M (zR _) HF.out
    have g0' : (w2.alloc (.cells #[.int .i64 0, .map none] 182)).cell? ⟨g, 0, none⟩ = some (.map (some m)) := (q2.alloc _).B.cell 0
    have p0' : (w2.alloc (.cells #[.int .i64 0, .map none] 182)).cell? ⟨p, 0, none⟩ = some (.int .u32 i) := (P2.alloc _).cell 0
    go_region
    all_goals
      go_wp2_with fail
      go_meet
      exact ⟨rfl, rfl, rfl⟩
  case rest =>
  obtain ⟨rfl, rfl, rfl⟩ := hcut
  have X3 := (Blk.new w2 182 #[.int .i64 0, .map none]).drew
  have P3 := (P2.alloc (.cells #[.int .i64 0, .map none] 182)).drew
  have O3 := (O2.alloc (.cells #[.int .i64 0, .map none] 182)).drew
  have q3 := (q2.alloc (.cells #[.int .i64 0, .map none] 182)).drew
  have hpw2 : p < w2.heap.size := P2.lt
  have bel3 := (bel2.alloc (by omega) (.cells #[.int .i64 0, .map none] 182)).drew
  have al3 := (al2.alloc (by omega) (.cells #[.int .i64 0, .map none] 182)).drew
  clear P2 O2 q2 bel2 al2 hs2
  generalize (w2.alloc (.cells #[.int .i64 0, .map none] 182)).drew = w3 at *
  generalize w2.heap.size = x at *
  have g0 : w3.cell? ⟨g, 0, none⟩ = some (.map (some m)) := q3.B.cell 0
  have p1 : w3.cell? ⟨p, 1, none⟩ = some (.int .i64 z) := P3.cell 1
  have x0 : w3.cell? ⟨x, 0, none⟩ = some (.int .i64 0) := X3.cell 0
  have lm : ∀ ty, (Builtin.len_ #[173] ty #[.map (some m)]).run Try.prog w3 = .ok (.int .i64 es.size) w3 := fun ty => len_map uMO q3.M #[173] rfl ty
  have hmk : ∀ w, (Instr.makeMap 180 none).run Try.prog w = .ok (.map (some w.heap.size)) (w.alloc (.map #[] 0)) := fun w => rfl
  have x0f : w3.frozen? ⟨x, 0, none⟩ = false := X3.frozen 0
  have x1 : w3.cell? ⟨x, 1, none⟩ = some (.map none) := X3.cell 1
  have x1f : w3.frozen? ⟨x, 1, none⟩ = false := X3.frozen 1
  have hxw3 : x < w3.heap.size := X3.lt
  go_upto_region 11 with (fail)
  have hk3 : w3.heap.size = (w3.setCell ⟨x, 0, none⟩ (.int .i64 z)).heap.size := by simp [World.setCell]
  have hk4 : w3.heap.size = ((w3.setCell ⟨x, 0, none⟩ (.int .i64 z)).setCell ⟨x, 1, none⟩ (.map (some w3.heap.size))).heap.size := by simp [World.setCell]
  have M4 := MapB.new ((w3.setCell ⟨x, 0, none⟩ (.int .i64 z)).setCell ⟨x, 1, none⟩ (.map (some w3.heap.size)))
  rw [← hk4] at M4
  have X4 : Blk ((w3.setCell ⟨x, 0, none⟩ (.int .i64 z)).setCell ⟨x, 1, none⟩ (.map (some w3.heap.size))) x 182 #[.int .i64 z, .map (some w3.heap.size)] := by
    have := (X3.set_ 0 (.int .i64 z)).set_ 1 (.map (some w3.heap.size))
    simpa using this
  have X4 := X4.alloc (.map #[] 0)
  have P4 := ((P3.far (p := ⟨x, 0, none⟩) (show p ≠ x by omega) (.int .i64 z)).far (p := ⟨x, 1, none⟩) (show p ≠ x by omega) (.map (some w3.heap.size))).alloc (.map #[] 0)
  have O4 := ((O3.far (p := ⟨x, 0, none⟩) (show w.heap.size ≠ x by omega) (.int .i64 z)).far (p := ⟨x, 1, none⟩) (show w.heap.size ≠ x by omega) (.map (some w3.heap.size))).alloc (.map #[] 0)
  have q4 := ((q3.far (p := ⟨x, 0, none⟩) (show g ≠ x by omega) (show m ≠ x by omega) (.int .i64 z)).far (p := ⟨x, 1, none⟩) (show g ≠ x by omega) (show m ≠ x by omega) (.map (some w3.heap.size))).alloc (.map #[] 0)
  have bel4 := ((bel3.setCell (p := ⟨x, 0, none⟩) (show b0 ≤ x by omega) (.int .i64 z)).setCell (p := ⟨x, 1, none⟩) (show b0 ≤ x by omega) (.map (some w3.heap.size))).alloc (by rw [← hk4]; omega) (.map #[] 0)
  have al4 := ((al3.setCell (p := ⟨x, 0, none⟩) (show w.heap.size ≤ x by omega) (.int .i64 z)).setCell (p := ⟨x, 1, none⟩) (show w.heap.size ≤ x by omega) (.map (some w3.heap.size))).alloc (by rw [← hk4]; omega) (.map #[] 0)
  clear X3 P3 O3 q3 bel3 al3 g0 p1 x0 lm hmk x0f x1 x1f hk3 hk4
  generalize ((w3.setCell ⟨x, 0, none⟩ (.int .i64 z)).setCell ⟨x, 1, none⟩ (.map (some w3.heap.size))).alloc (.map #[] 0) = w4 at *
  generalize w3.heap.size = k at *
  have y0 : w4.cell? ⟨p, 0, none⟩ = some (.int .u32 i) := P4.cell 0
  have y1 : w4.cell? ⟨p, 1, none⟩ = some (.int .i64 z) := P4.cell 1
  have y2 : w4.cell? ⟨p, 2, none⟩ = some (.int .i64 a) := P4.cell 2
  have y3 : w4.cell? ⟨p, 3, none⟩ = some (.string d) := P4.cell 3
  have z1 : w4.cell? ⟨x, 1, none⟩ = some (.map (some k)) := X4.cell 1
  have up : (Instr.mapUpdate 180 (.map (some k)) (.int .i64 a) (.agg #[.int .u32 i, .int .i64 z, .int .i64 a, .string d])).run Try.prog w4 = .ok () (setBlock w4 k (.map #[⟨.int .i64 a, .agg #[.int .u32 i, .int .i64 z, .int .i64 a, .string d], 0⟩] 1)) := up_new (P := Try.prog) (a := (a : Int)) uMP uI M4 (.agg #[.int .u32 i, .int .i64 z, .int .i64 a, .string d]) rfl
  go_upto_region 12 with (fail)
  have M5 : MapB (setBlock w4 k (.map #[⟨.int .i64 a, .agg #[.int .u32 i, .int .i64 z, .int .i64 a, .string d], 0⟩] 1)) k #[⟨.int .i64 a, .agg (pc i z a d), 0⟩] 1 := M4.set_ _ _
  have X5 := blk_map M4 X4 #[⟨.int .i64 a, .agg #[.int .u32 i, .int .i64 z, .int .i64 a, .string d], 0⟩] 1
  have P5 := blk_map M4 P4 #[⟨.int .i64 a, .agg #[.int .u32 i, .int .i64 z, .int .i64 a, .string d], 0⟩] 1
  have O5 := blk_map M4 O4 #[⟨.int .i64 a, .agg #[.int .u32 i, .int .i64 z, .int .i64 a, .string d], 0⟩] 1
  have q5 : Rv b0 g m es c (setBlock w4 k (.map #[⟨.int .i64 a, .agg #[.int .u32 i, .int .i64 z, .int .i64 a, .string d], 0⟩] 1)) := ⟨blk_map M4 q4.B _ _, (M4.other _ _ (show m ≠ k by omega)).trans q4.M, q4.hg, q4.hm, q4.ne⟩
  have bel5 := M4.bel bel4 (by omega) #[⟨.int .i64 a, .agg #[.int .u32 i, .int .i64 z, .int .i64 a, .string d], 0⟩] 1
  have al5 := M4.bel al4 (by omega) #[⟨.int .i64 a, .agg #[.int .u32 i, .int .i64 z, .int .i64 a, .string d], 0⟩] 1
  clear up y0 y1 y2 y3 z1 M4 X4 P4 O4 q4 bel4 al4
  generalize setBlock w4 k (.map #[⟨.int .i64 a, .agg #[.int .u32 i, .int .i64 z, .int .i64 a, .string d], 0⟩] 1) = w5 at *
  have v0 : w5.cell? ⟨x, 0, none⟩ = some (.int .i64 z) := X5.cell 0
  have v1 : w5.cell? ⟨x, 1, none⟩ = some (.map (some k)) := X5.cell 1
  have hwh := whole_any k z a i d w5 M5 h0 h1 h2
  go_wp2_with fail
  refine hwh.mono ?_
  rintro e w6 ⟨rfl, hb6⟩
  have X6 := X5.below hb6 X5.lt
  have M6 := M5.below hb6 M5.lt
  have P6 := P5.below hb6 P5.lt
  have O6 := O5.below hb6 O5.lt
  have q6 := q5.below hb6 (Nat.le_refl _)
  have hb0w5 : b0 ≤ w5.heap.size := by have := q5.B.lt; have := q5.hg; omega
  have hww5 : w.heap.size ≤ w5.heap.size := Nat.le_of_lt O5.lt
  have bel6 := bel5.trans (hb6.mono hb0w5)
  have al6 := al5.trans (hb6.mono hww5)
  clear hwh v0 v1 M5 X5 P5 O5 q5 bel5 al5 hb6
  have g6 : w6.cell? ⟨g, 0, none⟩ = some (.map (some m)) := q6.B.cell 0
  have p6 : w6.cell? ⟨p, 0, none⟩ = some (.int .u32 i) := P6.cell 0
  have HD := Lib.hid hd
  have hdt : decide (d.size = z) = false := decide_eq_false hd
  rw [hdt]
  clear hd hdt
  have x6 : w6.cell? ⟨x, 0, none⟩ = some (.int .i64 z) := X6.cell 0
  have x7 : w6.cell? ⟨x, 1, none⟩ = some (.map (some k)) := X6.cell 1
  have hg6 : g < w6.heap.size := q6.B.lt
  have hkp := keep_gen (i : Int) (z : Int) k w6 q6 HF.out
  go_wp2_with fail
  refine hkp.mono ?_
  rintro e w7 ⟨rfl, hMk, hob, hb7⟩
  have O7 : Blk w7 w.heap.size 57 #[.int .u32 0, .string ⟨#[]⟩] := (hob _ O6.lt (by omega)).trans O6
  have M7 : MapB w7 k #[⟨.int .i64 a, .agg (pc i z a d), 0⟩] 1 := (hob k M6.lt (by omega)).trans M6
  have q7 : Rv b0 g m (es.push ⟨.int .u32 i, .agg #[.int .i64 z, .map (some k)], c⟩) (c + 1) w7 := ⟨(hob g hg6 (Ne.symm q6.ne)).trans q6.B, hMk, q6.hg, q6.hm, q6.ne⟩
  have bel7 := bel6.trans hb7
  have ob7 : ∀ b, b < w.heap.size → b ≠ m → w7.heap[b]? = w.heap[b]? := fun b hb hbm => (hob b (Nat.lt_of_lt_of_le hb al6.size) hbm).trans (al6.block b hb)
  have o0 : w7.cell? ⟨w.heap.size, 0, none⟩ = some (.int .u32 0) := O7.cell 0
  have o1 : w7.cell? ⟨w.heap.size, 1, none⟩ = some (.string ⟨#[]⟩) := O7.cell 1
  have f0 : w7.frozen? ⟨w.heap.size, 0, none⟩ = false := O7.frozen 0
  have f1 : w7.frozen? ⟨w.heap.size, 1, none⟩ = false := O7.frozen 1
  have O8 : Blk ((w7.setCell ⟨w.heap.size, 0, none⟩ (.int .u32 0)).setCell ⟨w.heap.size, 1, none⟩ (.string ⟨#[]⟩)) w.heap.size 57 #[.int .u32 0, .string ⟨#[]⟩] := by
    have := (O7.set_ 0 (.int .u32 0)).set_ 1 (.string ⟨#[]⟩)
    simpa using this
  have M8 := (M7.far (p := ⟨w.heap.size, 0, none⟩) (show k ≠ w.heap.size by omega) (.int .u32 0)).far (p := ⟨w.heap.size, 1, none⟩) (show k ≠ w.heap.size by omega) (.string ⟨#[]⟩)
  have hkk : b0 ≤ k ∧ k ≠ g ∧ k ≠ m ∧ w.heap.size ≤ k := ⟨by omega, by omega, by omega, by omega⟩
  have q8 := (q7.far (p := ⟨w.heap.size, 0, none⟩) (show g ≠ w.heap.size by omega) (show m ≠ w.heap.size by omega) (.int .u32 0)).far (p := ⟨w.heap.size, 1, none⟩) (show g ≠ w.heap.size by omega) (show m ≠ w.heap.size by omega) (.string ⟨#[]⟩)
  have bel8 := (bel7.setCell (p := ⟨w.heap.size, 0, none⟩) hb0 (.int .u32 0)).setCell (p := ⟨w.heap.size, 1, none⟩) hb0 (.string ⟨#[]⟩)
  have ob8 : ∀ b, b < w.heap.size → b ≠ m → ((w7.setCell ⟨w.heap.size, 0, none⟩ (.int .u32 0)).setCell ⟨w.heap.size, 1, none⟩ (.string ⟨#[]⟩)).heap[b]? = w.heap[b]? := fun b hb hbm => by
    rw [Below.heap_setCell _ _ _ b (by show b ≠ w.heap.size; omega), Below.heap_setCell _ _ _ b (by show b ≠ w.heap.size; omega)]
    exact ob7 b hb hbm
  have HR := Lib.hid (And.intro (And.intro q8 (And.intro M8 hkk)) (And.intro ob8 bel8))
  clear q7 q8 M7 M8 M6 hkk ob7 ob8 bel8 bel7 al6 hMk hob
  go_wp2_with fail
  exact bodyPost_ret (v := .tuple #[.agg #[.int .u32 0, .string ⟨#[]⟩], .bool false, .int .i64 0]) (by rw [results_cell_tmp2_at rfl _ _ w.heap.size 0 #[.int .u32 0, .string ⟨#[]⟩] _ rfl (Cel.of_blk O8) Try.underlying57 rfl (szO _ _)]; rfl) rfl ⟨rfl, ⟨k, HR.out.1.1, HR.out.1.2.1, HR.out.1.2.2⟩, HR.out.2.1, HR.out.2.2⟩
set_option maxHeartbeats 2000000 in
theorem take_one {b0 g m c : Nat} {es : Array MapEntry} (i z a : Nat) (d s : ByteArray) (w : World) (q : Rv b0 g m es c w) (hl : s.size ≤ maxLen) (h : okR s = true) (hp : pcR s = pc i z a d) (h0 : a < z ∨ z = 0) (h1 : z ≤ 20000) (h2 : a + d.size ≤ z) (hd : d.size = z) (hes : es.size < 16) (hf : Instr.findNow (.int .u32) (.int .u32 i) es.toList 0 = some none) :
    Calls Try.prog 34 #[.pointer (some ⟨g, 0, none⟩), .string s] w fun e w' => e = .returned (.tuple #[.agg #[.int .u32 i, .string (whl z a d)], .bool true, .int .i64 0]) ∧ Rv b0 g m es c w' ∧ (∀ b, b < w.heap.size → b ≠ m → w'.heap[b]? = w.heap[b]?) ∧ Below b0 w w' := by
  have hb0 : b0 ≤ w.heap.size := by have := q.B.lt; have := q.hg; omega
  have hrd := fun W => read_any s W hl
  rw [hp, h] at hrd
  have hrd' : ∀ W, Calls Try.prog 91 #[.string s] W fun e w' => e = .returned (.tuple #[.agg #[.int .u32 i, .int .i64 z, .int .i64 a, .string d], .bool true]) ∧ Below W.heap.size W w' := hrd
  clear hrd hp h
  have HF := Lib.hid hf
  have hesi : (es.size : Int) < 16 := by omega
  clear hf
  have O0 := Blk.new w 57 #[.int .u32 0, .string ⟨#[]⟩]
  have q0 := q.alloc (.cells #[.int .u32 0, .string ⟨#[]⟩] 57)
  have bel0 := (Below.refl b0 w).alloc hb0 (.cells #[.int .u32 0, .string ⟨#[]⟩] 57)
  have al0 := (Below.refl w.heap.size w).alloc (Nat.le_refl _) (.cells #[.int .u32 0, .string ⟨#[]⟩] 57)
  have hgw : g < w.heap.size := q.B.lt
  have hmw : m < w.heap.size := q.M.lt
  go_enter Try.func34, Try.ntmps34
  go_upto_region 1 with (fail)
  clear q
  generalize w.alloc (.cells #[.int .u32 0, .string ⟨#[]⟩] 57) = w0 at *
  go_wp2_with fail
  refine (hrd' _).mono ?_
  rintro e w1 ⟨rfl, hb1⟩
  have O1 := O0.below hb1 O0.lt
  have q1 := q0.below hb1 (Nat.le_refl _)
  have bel1 := bel0.trans (hb1.mono (Nat.le_trans hb0 (Nat.le_of_lt O0.lt)))
  have al1 := al0.trans (hb1.mono (Nat.le_of_lt O0.lt))
  have hs1 : w.heap.size < w1.heap.size := O1.lt
  clear O0 bel0 al0 hb1 hrd' q0
  go_upto_region 2 with (fail)
  have P2 := Blk.new w1 177 #[.int .u32 i, .int .i64 z, .int .i64 a, .string d]
  have O2 := O1.alloc (.cells #[.int .u32 i, .int .i64 z, .int .i64 a, .string d] 177)
  have q2 := q1.alloc (.cells #[.int .u32 i, .int .i64 z, .int .i64 a, .string d] 177)
  have bel2 := bel1.alloc (by omega) (.cells #[.int .u32 i, .int .i64 z, .int .i64 a, .string d] 177)
  have al2 := al1.alloc (by omega) (.cells #[.int .u32 i, .int .i64 z, .int .i64 a, .string d] 177)
  have hs2 : w1.heap.size < (w1.alloc (.cells #[.int .u32 i, .int .i64 z, .int .i64 a, .string d] 177)).heap.size := P2.lt
  clear O1 bel1 al1 q1
  generalize w1.alloc (.cells #[.int .u32 i, .int .i64 z, .int .i64 a, .string d] 177) = w2 at *
  generalize w1.heap.size = p at *
  go_upto_region 4 with (fail)
  have hgw2 : g < w2.heap.size := q2.B.lt
  have hmw2 : m < w2.heap.size := q2.M.lt
  go_cut [9, 10] (fun s9 s10 wx => s9 = .pointer (some ⟨w2.heap.size, 0, none⟩) ∧ s10 = .bool false ∧ wx = (w2.alloc (.cells #[.int .i64 0, .map none] 182)).drew)
  case first =>
    have g0 : w2.cell? ⟨g, 0, none⟩ = some (.map (some m)) := q2.B.cell 0
    have p0 : w2.cell? ⟨p, 0, none⟩ = some (.int .u32 i) := P2.cell 0
    have lk := lk_none (P := Try.prog) (w := w2.drew) (a := (i : Int)) uMO uU q2.drew.M (zR _) HF.out
    have lk' := lk_none (P := Try.prog) (w := (w2.alloc (.cells #[.int .i64 0, .map none] 182)).drew) (a := (i : Int)) uMO uU (q2.alloc _).drew.M (zR _) HF.out
    have g0' : (w2.alloc (.cells #[.int .i64 0, .map none] 182)).cell? ⟨g, 0, none⟩ = some (.map (some m)) := (q2.alloc _).B.cell 0
    have p0' : (w2.alloc (.cells #[.int .i64 0, .map none] 182)).cell? ⟨p, 0, none⟩ = some (.int .u32 i) := (P2.alloc _).cell 0
    go_region
    all_goals
      go_wp2_with fail
      go_meet
      exact ⟨rfl, rfl, rfl⟩
  case rest =>
  obtain ⟨rfl, rfl, rfl⟩ := hcut
  have X3 := (Blk.new w2 182 #[.int .i64 0, .map none]).drew
  have P3 := (P2.alloc (.cells #[.int .i64 0, .map none] 182)).drew
  have O3 := (O2.alloc (.cells #[.int .i64 0, .map none] 182)).drew
  have q3 := (q2.alloc (.cells #[.int .i64 0, .map none] 182)).drew
  have hpw2 : p < w2.heap.size := P2.lt
  have bel3 := (bel2.alloc (by omega) (.cells #[.int .i64 0, .map none] 182)).drew
  have al3 := (al2.alloc (by omega) (.cells #[.int .i64 0, .map none] 182)).drew
  clear P2 O2 q2 bel2 al2 hs2
  generalize (w2.alloc (.cells #[.int .i64 0, .map none] 182)).drew = w3 at *
  generalize w2.heap.size = x at *
  have g0 : w3.cell? ⟨g, 0, none⟩ = some (.map (some m)) := q3.B.cell 0
  have p1 : w3.cell? ⟨p, 1, none⟩ = some (.int .i64 z) := P3.cell 1
  have x0 : w3.cell? ⟨x, 0, none⟩ = some (.int .i64 0) := X3.cell 0
  have lm : ∀ ty, (Builtin.len_ #[173] ty #[.map (some m)]).run Try.prog w3 = .ok (.int .i64 es.size) w3 := fun ty => len_map uMO q3.M #[173] rfl ty
  have hmk : ∀ w, (Instr.makeMap 180 none).run Try.prog w = .ok (.map (some w.heap.size)) (w.alloc (.map #[] 0)) := fun w => rfl
  have x0f : w3.frozen? ⟨x, 0, none⟩ = false := X3.frozen 0
  have x1 : w3.cell? ⟨x, 1, none⟩ = some (.map none) := X3.cell 1
  have x1f : w3.frozen? ⟨x, 1, none⟩ = false := X3.frozen 1
  have hxw3 : x < w3.heap.size := X3.lt
  go_upto_region 11 with (fail)
  have hk3 : w3.heap.size = (w3.setCell ⟨x, 0, none⟩ (.int .i64 z)).heap.size := by simp [World.setCell]
  have hk4 : w3.heap.size = ((w3.setCell ⟨x, 0, none⟩ (.int .i64 z)).setCell ⟨x, 1, none⟩ (.map (some w3.heap.size))).heap.size := by simp [World.setCell]
  have M4 := MapB.new ((w3.setCell ⟨x, 0, none⟩ (.int .i64 z)).setCell ⟨x, 1, none⟩ (.map (some w3.heap.size)))
  rw [← hk4] at M4
  have X4 : Blk ((w3.setCell ⟨x, 0, none⟩ (.int .i64 z)).setCell ⟨x, 1, none⟩ (.map (some w3.heap.size))) x 182 #[.int .i64 z, .map (some w3.heap.size)] := by
    have := (X3.set_ 0 (.int .i64 z)).set_ 1 (.map (some w3.heap.size))
    simpa using this
  have X4 := X4.alloc (.map #[] 0)
  have P4 := ((P3.far (p := ⟨x, 0, none⟩) (show p ≠ x by omega) (.int .i64 z)).far (p := ⟨x, 1, none⟩) (show p ≠ x by omega) (.map (some w3.heap.size))).alloc (.map #[] 0)
  have O4 := ((O3.far (p := ⟨x, 0, none⟩) (show w.heap.size ≠ x by omega) (.int .i64 z)).far (p := ⟨x, 1, none⟩) (show w.heap.size ≠ x by omega) (.map (some w3.heap.size))).alloc (.map #[] 0)
  have q4 := ((q3.far (p := ⟨x, 0, none⟩) (show g ≠ x by omega) (show m ≠ x by omega) (.int .i64 z)).far (p := ⟨x, 1, none⟩) (show g ≠ x by omega) (show m ≠ x by omega) (.map (some w3.heap.size))).alloc (.map #[] 0)
  have bel4 := ((bel3.setCell (p := ⟨x, 0, none⟩) (show b0 ≤ x by omega) (.int .i64 z)).setCell (p := ⟨x, 1, none⟩) (show b0 ≤ x by omega) (.map (some w3.heap.size))).alloc (by rw [← hk4]; omega) (.map #[] 0)
  have al4 := ((al3.setCell (p := ⟨x, 0, none⟩) (show w.heap.size ≤ x by omega) (.int .i64 z)).setCell (p := ⟨x, 1, none⟩) (show w.heap.size ≤ x by omega) (.map (some w3.heap.size))).alloc (by rw [← hk4]; omega) (.map #[] 0)
  clear X3 P3 O3 q3 bel3 al3 g0 p1 x0 lm hmk x0f x1 x1f hk3 hk4
  generalize ((w3.setCell ⟨x, 0, none⟩ (.int .i64 z)).setCell ⟨x, 1, none⟩ (.map (some w3.heap.size))).alloc (.map #[] 0) = w4 at *
  generalize w3.heap.size = k at *
  have y0 : w4.cell? ⟨p, 0, none⟩ = some (.int .u32 i) := P4.cell 0
  have y1 : w4.cell? ⟨p, 1, none⟩ = some (.int .i64 z) := P4.cell 1
  have y2 : w4.cell? ⟨p, 2, none⟩ = some (.int .i64 a) := P4.cell 2
  have y3 : w4.cell? ⟨p, 3, none⟩ = some (.string d) := P4.cell 3
  have z1 : w4.cell? ⟨x, 1, none⟩ = some (.map (some k)) := X4.cell 1
  have up : (Instr.mapUpdate 180 (.map (some k)) (.int .i64 a) (.agg #[.int .u32 i, .int .i64 z, .int .i64 a, .string d])).run Try.prog w4 = .ok () (setBlock w4 k (.map #[⟨.int .i64 a, .agg #[.int .u32 i, .int .i64 z, .int .i64 a, .string d], 0⟩] 1)) := up_new (P := Try.prog) (a := (a : Int)) uMP uI M4 (.agg #[.int .u32 i, .int .i64 z, .int .i64 a, .string d]) rfl
  go_upto_region 12 with (fail)
  have M5 : MapB (setBlock w4 k (.map #[⟨.int .i64 a, .agg #[.int .u32 i, .int .i64 z, .int .i64 a, .string d], 0⟩] 1)) k #[⟨.int .i64 a, .agg (pc i z a d), 0⟩] 1 := M4.set_ _ _
  have X5 := blk_map M4 X4 #[⟨.int .i64 a, .agg #[.int .u32 i, .int .i64 z, .int .i64 a, .string d], 0⟩] 1
  have P5 := blk_map M4 P4 #[⟨.int .i64 a, .agg #[.int .u32 i, .int .i64 z, .int .i64 a, .string d], 0⟩] 1
  have O5 := blk_map M4 O4 #[⟨.int .i64 a, .agg #[.int .u32 i, .int .i64 z, .int .i64 a, .string d], 0⟩] 1
  have q5 : Rv b0 g m es c (setBlock w4 k (.map #[⟨.int .i64 a, .agg #[.int .u32 i, .int .i64 z, .int .i64 a, .string d], 0⟩] 1)) := ⟨blk_map M4 q4.B _ _, (M4.other _ _ (show m ≠ k by omega)).trans q4.M, q4.hg, q4.hm, q4.ne⟩
  have bel5 := M4.bel bel4 (by omega) #[⟨.int .i64 a, .agg #[.int .u32 i, .int .i64 z, .int .i64 a, .string d], 0⟩] 1
  have al5 := M4.bel al4 (by omega) #[⟨.int .i64 a, .agg #[.int .u32 i, .int .i64 z, .int .i64 a, .string d], 0⟩] 1
  clear up y0 y1 y2 y3 z1 M4 X4 P4 O4 q4 bel4 al4
  generalize setBlock w4 k (.map #[⟨.int .i64 a, .agg #[.int .u32 i, .int .i64 z, .int .i64 a, .string d], 0⟩] 1) = w5 at *
  have v0 : w5.cell? ⟨x, 0, none⟩ = some (.int .i64 z) := X5.cell 0
  have v1 : w5.cell? ⟨x, 1, none⟩ = some (.map (some k)) := X5.cell 1
  have hwh := whole_any k z a i d w5 M5 h0 h1 h2
  go_wp2_with fail
  refine hwh.mono ?_
  rintro e w6 ⟨rfl, hb6⟩
  have X6 := X5.below hb6 X5.lt
  have P6 := P5.below hb6 P5.lt
  have O6 := O5.below hb6 O5.lt
  have q6 := q5.below hb6 (Nat.le_refl _)
  have hb0w5 : b0 ≤ w5.heap.size := by have := q5.B.lt; have := q5.hg; omega
  have hww5 : w.heap.size ≤ w5.heap.size := Nat.le_of_lt O5.lt
  have bel6 := bel5.trans (hb6.mono hb0w5)
  have al6 := al5.trans (hb6.mono hww5)
  clear hwh v0 v1 M5 X5 P5 O5 q5 bel5 al5 hb6
  have g6 : w6.cell? ⟨g, 0, none⟩ = some (.map (some m)) := q6.B.cell 0
  have p6 : w6.cell? ⟨p, 0, none⟩ = some (.int .u32 i) := P6.cell 0
  · have HD := Lib.hid hd
    have hdt : decide (d.size = z) = true := decide_eq_true hd
    rw [hdt]
    clear hd hdt
    have dn := fun ty => del_none (P := Try.prog) (a := (i : Int)) uMO uU q6.drew.M #[173, 28] rfl ty HF.out
    go_wp2_with fail
    go_region
    have O7 := blk_map q6.drew.M O6.drew es c
    have P7 := blk_map q6.drew.M P6.drew es c
    have bel7 := q6.drew.M.bel bel6.drew q6.hm es c
    have q7 : Rv b0 g m es c (setBlock w6.drew m (.map es c)) := ⟨blk_map q6.drew.M q6.drew.B _ _, q6.drew.M.set_ _ _, q6.hg, q6.hm, q6.ne⟩
    have ob7 : ∀ b, b < w.heap.size → b ≠ m → (setBlock w6.drew m (.map es c)).heap[b]? = w.heap[b]? := fun b hb hbm => (q6.drew.M.other es c hbm).trans (al6.drew.block b hb)
    clear al6 dn g6 p6 O6 P6 X6 q6 bel6
    generalize setBlock w6.drew m (.map es c) = w7 at *
    have p0 : w7.cell? ⟨p, 0, none⟩ = some (.int .u32 i) := P7.cell 0
    have o0 : w7.cell? ⟨w.heap.size, 0, none⟩ = some (.int .u32 0) := O7.cell 0
    have o1 : w7.cell? ⟨w.heap.size, 1, none⟩ = some (.string ⟨#[]⟩) := O7.cell 1
    have f0 : w7.frozen? ⟨w.heap.size, 0, none⟩ = false := O7.frozen 0
    have f1 : w7.frozen? ⟨w.heap.size, 1, none⟩ = false := O7.frozen 1
    have O8 : Blk ((w7.setCell ⟨w.heap.size, 0, none⟩ (.int .u32 i)).setCell ⟨w.heap.size, 1, none⟩ (.string (whl z a d))) w.heap.size 57 #[.int .u32 i, .string (whl z a d)] := by
      have := (O7.set_ 0 (.int .u32 i)).set_ 1 (.string (whl z a d))
      simpa using this
    have q8 := (q7.far (p := ⟨w.heap.size, 0, none⟩) (show g ≠ w.heap.size by omega) (show m ≠ w.heap.size by omega) (.int .u32 i)).far (p := ⟨w.heap.size, 1, none⟩) (show g ≠ w.heap.size by omega) (show m ≠ w.heap.size by omega) (.string (whl z a d))
    have ob8 : ∀ b, b < w.heap.size → b ≠ m → ((w7.setCell ⟨w.heap.size, 0, none⟩ (.int .u32 i)).setCell ⟨w.heap.size, 1, none⟩ (.string (whl z a d))).heap[b]? = w.heap[b]? := fun b hb hbm => by
      rw [Below.heap_setCell _ _ _ b (by show b ≠ w.heap.size; omega), Below.heap_setCell _ _ _ b (by show b ≠ w.heap.size; omega)]
      exact ob7 b hb hbm
    have HQ := Lib.hid (And.intro q8 ob8)
    clear q7 q8 ob7 ob8
    have bel8 := (bel7.setCell (p := ⟨w.heap.size, 0, none⟩) hb0 (.int .u32 i)).setCell (p := ⟨w.heap.size, 1, none⟩) hb0 (.string (whl z a d))
    go_wp2_with fail
    exact bodyPost_ret (v := .tuple #[.agg #[.int .u32 i, .string (whl z a d)], .bool true, .int .i64 0]) (by rw [results_cell_tmp2_at rfl _ _ w.heap.size 0 #[.int .u32 i, .string (whl z a d)] _ rfl (Cel.of_blk O8) Try.underlying57 rfl (szO _ _)]; rfl) rfl ⟨rfl, HQ.out.1, HQ.out.2, bel8⟩
set_option maxHeartbeats 2000000 in
theorem take_more {b0 g m c k : Nat} {D s : ByteArray} {S : List Nat} {ps : Array MapEntry} (i z q0 : Nat) (w : World) (q : Rv b0 g m #[⟨.int .u32 i, .agg #[.int .i64 z, .map (some k)], c⟩] 1 w) (hc : c < 1) (hl : s.size ≤ maxLen) (h : okR s = true) (hp : pcR s = pc i z ((q0 * 500 : Nat) : Int) (pcD D q0)) (hD : D.size = z) (hq : q0 * 500 < z) (h1 : z ≤ 20000)
    (MK : MapB w k ps S.length) (hps : ps.toList = ents i D 0 S) (hS : S.Nodup) (hSl : ∀ x ∈ S, x * 500 < z) (hk : b0 ≤ k ∧ k ≠ g ∧ k ≠ m) :
    Calls Try.prog 34 #[.pointer (some ⟨g, 0, none⟩), .string s] w fun e w' => ∃ S' : List Nat, S'.Nodup ∧ (∀ x, x ∈ S' ↔ x = q0 ∨ x ∈ S) ∧ Below b0 w w' ∧ (∀ b, b < w.heap.size → b ≠ m → b ≠ k → w'.heap[b]? = w.heap[b]?) ∧
      ((cov z S' = z ∧ e = .returned (.tuple #[.agg #[.int .u32 i, .string D], .bool true, .int .i64 0]) ∧ Rv b0 g m #[] 1 w') ∨
       (cov z S' ≠ z ∧ e = .returned (.tuple #[.agg #[.int .u32 0, .string ⟨#[]⟩], .bool false, .int .i64 0]) ∧ Rv b0 g m #[⟨.int .u32 i, .agg #[.int .i64 z, .map (some k)], c⟩] 1 w' ∧ ∃ ps', MapB w' k ps' S'.length ∧ ps'.toList = ents i D 0 S')) := by
  obtain ⟨d, hd⟩ : ∃ d, pcD D q0 = d := ⟨_, rfl⟩
  obtain ⟨a, ha⟩ : ∃ a : Nat, q0 * 500 = a := ⟨_, rfl⟩
  rw [hd, ha] at hp
  have hf : Instr.findNow (.int .u32) (.int .u32 (i : Nat)) (#[⟨.int .u32 i, .agg #[.int .i64 z, .map (some k)], c⟩] : Array MapEntry).toList 0 = some (some (0, .agg #[.int .i64 z, .map (some k)])) := find_head1 _ _ _ _ rfl
  have HS := Lib.hid (And.intro hd (And.intro ha (And.intro hD (And.intro hq (And.intro h1 (And.intro hps (And.intro hS (And.intro hSl hk))))))))
  obtain ⟨hk1, hk2, hk3⟩ := hk
  obtain ⟨es, hes⟩ : ∃ es : Array MapEntry, #[⟨.int .u32 i, .agg #[.int .i64 z, .map (some k)], c⟩] = es := ⟨_, rfl⟩
  rw [hes] at q hf ⊢
  have hbn := Lib.hid (And.intro hc hes)
  clear hd ha hD hq h1 hps hS hSl hes hc
  have hb0 : b0 ≤ w.heap.size := by have := q.B.lt; have := q.hg; omega
  have hrd := fun W => read_any s W hl
  rw [hp, h] at hrd
  have hrd' : ∀ W, Calls Try.prog 91 #[.string s] W fun e w' => e = .returned (.tuple #[.agg #[.int .u32 i, .int .i64 z, .int .i64 a, .string d], .bool true]) ∧ Below W.heap.size W w' := hrd
  clear hrd hp h
  have HF := Lib.hid hf
  clear hf
  have O0 := Blk.new w 57 #[.int .u32 0, .string ⟨#[]⟩]
  have q0' := q.alloc (.cells #[.int .u32 0, .string ⟨#[]⟩] 57)
  have bel0 := (Below.refl b0 w).alloc hb0 (.cells #[.int .u32 0, .string ⟨#[]⟩] 57)
  have al0 := (Below.refl w.heap.size w).alloc (Nat.le_refl _) (.cells #[.int .u32 0, .string ⟨#[]⟩] 57)
  have MK0 := MK.alloc (.cells #[.int .u32 0, .string ⟨#[]⟩] 57)
  have hkw : k < w.heap.size := MK.lt
  have hgw : g < w.heap.size := q.B.lt
  have hmw : m < w.heap.size := q.M.lt
  go_enter Try.func34, Try.ntmps34
  go_upto_region 1 with (fail)
  clear q MK
  generalize w.alloc (.cells #[.int .u32 0, .string ⟨#[]⟩] 57) = w0 at *
  go_wp2_with fail
  refine (hrd' _).mono ?_
  rintro e w1 ⟨rfl, hb1⟩
  have O1 := O0.below hb1 O0.lt
  have q1 := q0'.below hb1 (Nat.le_refl _)
  have MK1 := MK0.below hb1 MK0.lt
  have bel1 := bel0.trans (hb1.mono (Nat.le_trans hb0 (Nat.le_of_lt O0.lt)))
  have al1 := al0.trans (hb1.mono (Nat.le_of_lt O0.lt))
  have hs1 : w.heap.size < w1.heap.size := O1.lt
  clear O0 bel0 al0 hb1 hrd' q0' MK0
  go_upto_region 2 with (fail)
  have P2 := Blk.new w1 177 #[.int .u32 i, .int .i64 z, .int .i64 a, .string d]
  have O2 := O1.alloc (.cells #[.int .u32 i, .int .i64 z, .int .i64 a, .string d] 177)
  have MK2 := MK1.alloc (.cells #[.int .u32 i, .int .i64 z, .int .i64 a, .string d] 177)
  have q2 := q1.alloc (.cells #[.int .u32 i, .int .i64 z, .int .i64 a, .string d] 177)
  have bel2 := bel1.alloc (by omega) (.cells #[.int .u32 i, .int .i64 z, .int .i64 a, .string d] 177)
  have al2 := al1.alloc (by omega) (.cells #[.int .u32 i, .int .i64 z, .int .i64 a, .string d] 177)
  have hs2 : w1.heap.size < (w1.alloc (.cells #[.int .u32 i, .int .i64 z, .int .i64 a, .string d] 177)).heap.size := P2.lt
  clear O1 bel1 al1 q1 MK1
  generalize w1.alloc (.cells #[.int .u32 i, .int .i64 z, .int .i64 a, .string d] 177) = w2 at *
  generalize w1.heap.size = p at *
  go_upto_region 4 with (fail)
  have hgw2 : g < w2.heap.size := q2.B.lt
  have hmw2 : m < w2.heap.size := q2.M.lt
  have hkw2 : k < w2.heap.size := MK2.lt
  go_cut [9, 10] (fun s9 s10 wx => s9 = .pointer (some ⟨w2.heap.size, 0, none⟩) ∧ s10 = .bool true ∧ wx = (w2.alloc (.cells #[.int .i64 z, .map (some k)] 182)).drew)
  case first =>
    have g0 : w2.cell? ⟨g, 0, none⟩ = some (.map (some m)) := q2.B.cell 0
    have p0 : w2.cell? ⟨p, 0, none⟩ = some (.int .u32 i) := P2.cell 0
    have lk := lk_some (P := Try.prog) (w := w2.drew) (a := (i : Int)) uMO uU q2.drew.M HF.out
    have lk' := lk_some (P := Try.prog) (w := (w2.alloc (.cells #[.int .i64 0, .map none] 182)).drew) (a := (i : Int)) uMO uU (q2.alloc _).drew.M HF.out
    have g0' : (w2.alloc (.cells #[.int .i64 0, .map none] 182)).cell? ⟨g, 0, none⟩ = some (.map (some m)) := (q2.alloc _).B.cell 0
    have p0' : (w2.alloc (.cells #[.int .i64 0, .map none] 182)).cell? ⟨p, 0, none⟩ = some (.int .u32 i) := (P2.alloc _).cell 0
    go_region
    all_goals
      go_wp2_with fail
      go_meet
      exact ⟨rfl, rfl, rfl⟩
  case rest =>
  obtain ⟨rfl, rfl, rfl⟩ := hcut
  have X3 := (Blk.new w2 182 #[.int .i64 z, .map (some k)]).drew
  have P3 := (P2.alloc (.cells #[.int .i64 z, .map (some k)] 182)).drew
  have O3 := (O2.alloc (.cells #[.int .i64 z, .map (some k)] 182)).drew
  have q3 := (q2.alloc (.cells #[.int .i64 z, .map (some k)] 182)).drew
  have MK3 := (MK2.alloc (.cells #[.int .i64 z, .map (some k)] 182)).drew
  have hpw2 : p < w2.heap.size := P2.lt
  have bel3 := (bel2.alloc (by omega) (.cells #[.int .i64 z, .map (some k)] 182)).drew
  have al3 := (al2.alloc (by omega) (.cells #[.int .i64 z, .map (some k)] 182)).drew
  clear P2 O2 q2 bel2 al2 hs2 MK2
  generalize (w2.alloc (.cells #[.int .i64 z, .map (some k)] 182)).drew = w3 at *
  generalize w2.heap.size = x at *
  have g0 : w3.cell? ⟨g, 0, none⟩ = some (.map (some m)) := q3.B.cell 0
  have p0 : w3.cell? ⟨p, 0, none⟩ = some (.int .u32 i) := P3.cell 0
  have p1 : w3.cell? ⟨p, 1, none⟩ = some (.int .i64 z) := P3.cell 1
  have p2 : w3.cell? ⟨p, 2, none⟩ = some (.int .i64 a) := P3.cell 2
  have p3 : w3.cell? ⟨p, 3, none⟩ = some (.string d) := P3.cell 3
  have x0 : w3.cell? ⟨x, 0, none⟩ = some (.int .i64 z) := X3.cell 0
  have x1 : w3.cell? ⟨x, 1, none⟩ = some (.map (some k)) := X3.cell 1
  have hxw3 : x < w3.heap.size := X3.lt
  -- the piece laid into the map
  obtain ⟨S', ps', hS'n, hS'm, hps', MU⟩ : ∃ (S' : List Nat) (ps' : Array MapEntry), S'.Nodup ∧ (∀ y, y ∈ S' ↔ y = q0 ∨ y ∈ S) ∧ ps'.toList = ents i D 0 S' ∧ ∃ w4, (Instr.mapUpdate 180 (.map (some k)) (.int .i64 a) (.agg #[.int .u32 i, .int .i64 z, .int .i64 a, .string d])).run Try.prog w3 = .ok () w4 ∧ MapB w4 k ps' S'.length ∧ (∀ b, b ≠ k → w4.heap[b]? = w3.heap[b]?) ∧ w4.heap.size = w3.heap.size ∧ Below b0 w3 w4 := by
    obtain ⟨e1, e2, e3, e4, e5, e6, e7, e8, e9⟩ := HS.out
    have hpv : (Value.agg #[.int .u32 i, .int .i64 z, .int .i64 a, .string d]) = .agg (pc i D.size ((q0 * 500 : Nat) : Int) (pcD D q0)) := by rw [e1, e2, e3]; rfl
    have hka : ((a : Nat) : Int) = ((q0 * 500 : Nat) : Int) := by rw [e2]
    rw [hpv, hka]
    by_cases hm : q0 ∈ S
    · obtain ⟨n, h1, h2⟩ := ents_some i D q0 S 0 0 hm
      rw [← e6] at h1 h2
      rw [Nat.zero_add] at h1
      exact ⟨S, ps, e7, fun y => ⟨fun h => .inr h, fun h => h.elim (fun h => h ▸ hm) id⟩, e6, w3, up_same uMP uI MK3 _ h1 h2, MK3, fun _ _ => rfl, rfl, Below.refl _ _⟩
    · have h1 := ents_none i D q0 S 0 0 hm
      rw [← e6] at h1
      refine ⟨S ++ [q0], ps.push ⟨.int .i64 ((q0 * 500 : Nat) : Int), .agg (pc i D.size ((q0 * 500 : Nat) : Int) (pcD D q0)), S.length⟩, ?_, ?_, ?_, _, up_new (P := Try.prog) uMP uI MK3 _ h1, ?_, ?_, MapB.size _ _ _, MK3.bel (Below.refl _ _) hk1 _ _⟩
      · exact nodup_snoc e7 hm
      · intro y
        rw [List.mem_append, List.mem_singleton]
        exact or_comm
      · rw [Array.toList_push, e6, ents_snoc, Nat.zero_add]
      · rw [List.length_append]
        exact MK3.set_ _ _
      · intro b hb
        exact MK3.other _ _ hb
  obtain ⟨w4, hrun, MK4, hob4, hsz4, hb4⟩ := MU
  have X4 : Blk w4 x 182 #[.int .i64 z, .map (some k)] := (hob4 x (by omega)).trans X3
  have P4 : Blk w4 p 177 #[.int .u32 i, .int .i64 z, .int .i64 a, .string d] := (hob4 p (by omega)).trans P3
  have O4 : Blk w4 w.heap.size 57 #[.int .u32 0, .string ⟨#[]⟩] := (hob4 _ (by omega)).trans O3
  have q4 : Rv b0 g m es 1 w4 := ⟨(hob4 g (by omega)).trans q3.B, (hob4 m (by omega)).trans q3.M, q3.hg, q3.hm, q3.ne⟩
  have bel4 := bel3.trans hb4
  have ob4 : ∀ b, b < w.heap.size → b ≠ m → b ≠ k → w4.heap[b]? = w.heap[b]? := fun b hb _ hbk => (hob4 b hbk).trans (al3.block b hb)
  have hww4 : w.heap.size ≤ w4.heap.size := by omega
  clear al3 X3 P3 O3 q3 bel3 hb4 hob4 MK3
  go_upto_region 12 with (fail)
  clear hrun g0 p0 p1 p2 p3 x0 x1
  have y0 : w4.cell? ⟨x, 0, none⟩ = some (.int .i64 z) := X4.cell 0
  have y1 : w4.cell? ⟨x, 1, none⟩ = some (.map (some k)) := X4.cell 1
  have hwh : Calls Try.prog 92 #[.agg #[.int .i64 z, .map (some k)]] w4 fun e w' => ∃ X : ByteArray, e = .returned (.tuple #[.string X, .bool (decide (cov z S' = z))]) ∧ (cov z S' = z → X = D) ∧ Below w4.heap.size w4 w' := by
    obtain ⟨e1, e2, e3, e4, e5, e6, e7, e8, e9⟩ := HS.out
    refine whole_gen i D z k ps' S' w4 MK4 hps' hS'n e3 (fun y hy => ?_) (by omega) e5
    rcases (hS'm y).1 hy with h | h
    · subst h; exact e4
    · exact e8 y h
  have hbw4 : b0 ≤ w4.heap.size := by have := q4.B.lt; have := q4.hg; omega
  go_wp2_with fail
  refine hwh.mono ?_
  rintro e w6 ⟨X, rfl, hX, hb6⟩
  have X6 := X4.below hb6 X4.lt
  have P6 := P4.below hb6 P4.lt
  have O6 := O4.below hb6 O4.lt
  have q6 := q4.below hb6 (Nat.le_refl _)
  have MK6 := MK4.below hb6 MK4.lt
  have bel6 := bel4.trans (hb6.mono hbw4)
  have ob6 : ∀ b, b < w.heap.size → b ≠ m → b ≠ k → w6.heap[b]? = w.heap[b]? := fun b hb hbm hbk => (hb6.block b (Nat.lt_of_lt_of_le hb hww4)).trans (ob4 b hb hbm hbk)
  have hww6 : w.heap.size ≤ w6.heap.size := Nat.le_trans hww4 hb6.size
  clear ob4 hww4 hwh y0 y1 X4 P4 O4 q4 bel4 hb6 MK4
  have g6 : w6.cell? ⟨g, 0, none⟩ = some (.map (some m)) := q6.B.cell 0
  have p6 : w6.cell? ⟨p, 0, none⟩ = some (.int .u32 i) := P6.cell 0
  have HM := Lib.hid (And.intro hS'n (And.intro hS'm hps'))
  clear hS'n hS'm hps'
  by_cases hd : cov z S' = z
  · have HD := Lib.hid hd
    obtain rfl := hX hd
    rw [decide_eq_true hd]
    clear hd
    have hes1 : es.eraseIdxIfInBounds 0 = #[] := by
      rw [← hbn.out.2]
      apply Array.eq_empty_of_size_eq_zero
      first | (simp; done) | (simp [Array.eraseIdxIfInBounds]; done)
    have dn := fun ty => del_some (P := Try.prog) (a := (i : Int)) uMO uU q6.drew.M #[173, 28] rfl ty HF.out
    rw [hes1] at dn
    go_wp2_with fail
    go_region
    have O7 := blk_map q6.drew.M O6.drew #[] 1
    have P7 := blk_map q6.drew.M P6.drew #[] 1
    have q7 : Rv b0 g m #[] 1 (setBlock w6.drew m (.map #[] 1)) := ⟨blk_map q6.drew.M q6.drew.B _ _, q6.drew.M.set_ _ _, q6.hg, q6.hm, q6.ne⟩
    have bel7 := q6.drew.M.bel bel6.drew q6.hm #[] 1
    have ob7 : ∀ b, b < w.heap.size → b ≠ m → b ≠ k → (setBlock w6.drew m (.map #[] 1)).heap[b]? = w.heap[b]? := fun b hb hbm hbk => (q6.drew.M.other #[] 1 hbm).trans (ob6 b hb hbm hbk)
    clear ob6 dn g6 p6 O6 P6 X6 q6 bel6 MK6 hX
    generalize setBlock w6.drew m (.map #[] 1) = w7 at *
    have p0 : w7.cell? ⟨p, 0, none⟩ = some (.int .u32 i) := P7.cell 0
    have o0 : w7.cell? ⟨w.heap.size, 0, none⟩ = some (.int .u32 0) := O7.cell 0
    have o1 : w7.cell? ⟨w.heap.size, 1, none⟩ = some (.string ⟨#[]⟩) := O7.cell 1
    have f0 : w7.frozen? ⟨w.heap.size, 0, none⟩ = false := O7.frozen 0
    have f1 : w7.frozen? ⟨w.heap.size, 1, none⟩ = false := O7.frozen 1
    have O8 : Blk ((w7.setCell ⟨w.heap.size, 0, none⟩ (.int .u32 i)).setCell ⟨w.heap.size, 1, none⟩ (.string X)) w.heap.size 57 #[.int .u32 i, .string X] := by
      have := (O7.set_ 0 (.int .u32 i)).set_ 1 (.string X)
      simpa using this
    have q8 := (q7.far (p := ⟨w.heap.size, 0, none⟩) (show g ≠ w.heap.size by omega) (show m ≠ w.heap.size by omega) (.int .u32 i)).far (p := ⟨w.heap.size, 1, none⟩) (show g ≠ w.heap.size by omega) (show m ≠ w.heap.size by omega) (.string X)
    have bel8 := (bel7.setCell (p := ⟨w.heap.size, 0, none⟩) hb0 (.int .u32 i)).setCell (p := ⟨w.heap.size, 1, none⟩) hb0 (.string X)
    have ob8 : ∀ b, b < w.heap.size → b ≠ m → b ≠ k → ((w7.setCell ⟨w.heap.size, 0, none⟩ (.int .u32 i)).setCell ⟨w.heap.size, 1, none⟩ (.string X)).heap[b]? = w.heap[b]? := fun b hb hbm hbk => by
      rw [Below.heap_setCell _ _ _ b (by show b ≠ w.heap.size; omega), Below.heap_setCell _ _ _ b (by show b ≠ w.heap.size; omega)]
      exact ob7 b hb hbm hbk
    have HR := Lib.hid (And.intro q8 (And.intro bel8 ob8))
    clear q7 q8 bel7 bel8 ob7 ob8
    go_wp2_with fail
    exact bodyPost_ret (v := .tuple #[.agg #[.int .u32 i, .string X], .bool true, .int .i64 0]) (by rw [results_cell_tmp2_at rfl _ _ w.heap.size 0 #[.int .u32 i, .string X] _ rfl (Cel.of_blk O8) Try.underlying57 rfl (szO _ _)]; rfl) rfl ⟨S', HM.out.1, HM.out.2.1, HR.out.2.1, HR.out.2.2, .inl ⟨HD.out, rfl, HR.out.1⟩⟩
  · have HD := Lib.hid hd
    rw [decide_eq_false hd]
    clear hd hX
    have x6 : w6.cell? ⟨x, 0, none⟩ = some (.int .i64 z) := X6.cell 0
    have x7 : w6.cell? ⟨x, 1, none⟩ = some (.map (some k)) := X6.cell 1
    have hg6 : g < w6.heap.size := q6.B.lt
    have hkp := keep_old (i : Int) (z : Int) k 0 c w6 q6 HF.out (by rw [← hbn.out.2]; rfl)
    go_wp2_with fail
    refine hkp.mono ?_
    rintro e w7 ⟨rfl, hb7⟩
    have hbw6 : b0 ≤ w6.heap.size := by have := q6.hg; omega
    have O7 := O6.below hb7 O6.lt
    have q7 := q6.below hb7 (Nat.le_refl _)
    have MK7 := MK6.below hb7 MK6.lt
    have bel7 := bel6.trans (hb7.mono hbw6)
    have ob7 : ∀ b, b < w.heap.size → b ≠ m → b ≠ k → w7.heap[b]? = w.heap[b]? := fun b hb hbm hbk => (hb7.block b (Nat.lt_of_lt_of_le hb hww6)).trans (ob6 b hb hbm hbk)
    clear ob6 hkp hb7 g6 p6 O6 P6 X6 q6 bel6 MK6 x6 x7
    have o0 : w7.cell? ⟨w.heap.size, 0, none⟩ = some (.int .u32 0) := O7.cell 0
    have o1 : w7.cell? ⟨w.heap.size, 1, none⟩ = some (.string ⟨#[]⟩) := O7.cell 1
    have f0 : w7.frozen? ⟨w.heap.size, 0, none⟩ = false := O7.frozen 0
    have f1 : w7.frozen? ⟨w.heap.size, 1, none⟩ = false := O7.frozen 1
    have O8 : Blk ((w7.setCell ⟨w.heap.size, 0, none⟩ (.int .u32 0)).setCell ⟨w.heap.size, 1, none⟩ (.string ⟨#[]⟩)) w.heap.size 57 #[.int .u32 0, .string ⟨#[]⟩] := by
      have := (O7.set_ 0 (.int .u32 0)).set_ 1 (.string ⟨#[]⟩)
      simpa using this
    have MK8 := (MK7.far (p := ⟨w.heap.size, 0, none⟩) (show k ≠ w.heap.size by omega) (.int .u32 0)).far (p := ⟨w.heap.size, 1, none⟩) (show k ≠ w.heap.size by omega) (.string ⟨#[]⟩)
    have q8 := (q7.far (p := ⟨w.heap.size, 0, none⟩) (show g ≠ w.heap.size by omega) (show m ≠ w.heap.size by omega) (.int .u32 0)).far (p := ⟨w.heap.size, 1, none⟩) (show g ≠ w.heap.size by omega) (show m ≠ w.heap.size by omega) (.string ⟨#[]⟩)
    have bel8 := (bel7.setCell (p := ⟨w.heap.size, 0, none⟩) hb0 (.int .u32 0)).setCell (p := ⟨w.heap.size, 1, none⟩) hb0 (.string ⟨#[]⟩)
    have ob8 : ∀ b, b < w.heap.size → b ≠ m → b ≠ k → ((w7.setCell ⟨w.heap.size, 0, none⟩ (.int .u32 0)).setCell ⟨w.heap.size, 1, none⟩ (.string ⟨#[]⟩)).heap[b]? = w.heap[b]? := fun b hb hbm hbk => by
      rw [Below.heap_setCell _ _ _ b (by show b ≠ w.heap.size; omega), Below.heap_setCell _ _ _ b (by show b ≠ w.heap.size; omega)]
      exact ob7 b hb hbm hbk
    have HR := Lib.hid (And.intro q8 (And.intro MK8 (And.intro bel8 ob8)))
    clear q7 q8 MK7 MK8 bel8 bel7 ob7 ob8
    go_wp2_with fail
    exact bodyPost_ret (v := .tuple #[.agg #[.int .u32 0, .string ⟨#[]⟩], .bool false, .int .i64 0]) (by rw [results_cell_tmp2_at rfl _ _ w.heap.size 0 #[.int .u32 0, .string ⟨#[]⟩] _ rfl (Cel.of_blk O8) Try.underlying57 rfl (szO _ _)]; rfl) rfl ⟨S', HM.out.1, HM.out.2.1, HR.out.2.2.1, HR.out.2.2.2, .inr ⟨HD.out, rfl, HR.out.1, ps', HR.out.2.1, HM.out.2.2⟩⟩
end Go.Proofs.Ythddacgdmngfhaa.fil
