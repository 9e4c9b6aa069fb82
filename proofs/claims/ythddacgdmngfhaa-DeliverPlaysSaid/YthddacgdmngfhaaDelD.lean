/- Layer 18: a message put, whatever follows; what is read. -/
import Derived.Test.YthddacgdmngfhaaDelC
namespace Go.Proofs.Ythddacgdmngfhaa.del
open Go.Sort (grow)
open Go.ChangeShapes Go.WideShapes Go.ChangeAt Go.RowKit kit
set_option maxRecDepth 100000

theorem Q.only {b0 g h m c : Nat} {n b : Int} {es es' : Array MapEntry} {c' : Nat} {rl : Value} {w w' : World} (q : Q b0 g h m n es c rl b w) (hO : Only m w w') (M : MapB w' m es' c') : Q b0 g h m n es' c' rl b w' := by
  obtain ⟨⟨cap, B, h1, h2⟩, C, _, a1, a2, a3, a4, a5, a6⟩ := q
  exact ⟨⟨cap, hO.blk B (Ne.symm a5), h1, h2⟩, hO.cel C (Ne.symm a6), M, a1, a2, a3, a4, a5, a6⟩
theorem Q.drewN {b0 g h m c : Nat} {n b : Int} {es : Array MapEntry} {rl : Value} {w : World} (q : Q b0 g h m n es c rl b w) (k : Nat) : Q b0 g h m n es c rl b (w.drewN k) := ⟨q.B, q.C, q.M, q.hg, q.hh, q.hm, q.ne1, q.ne2, q.ne3⟩
theorem Q.drew {b0 g h m c : Nat} {n b : Int} {es : Array MapEntry} {rl : Value} {w : World} (q : Q b0 g h m n es c rl b w) : Q b0 g h m n es c rl b w.drew := ⟨q.B, q.C, q.M, q.hg, q.hh, q.hm, q.ne1, q.ne2, q.ne3⟩
set_option maxHeartbeats 4000000 in
theorem put_of (b0 g h m c : Nat) (p b : Int) (hp : p = 0 ∨ p = 1) (hb0 : 0 ≤ b) (hb1 : b ≤ 10) (y : UInt8) (es : Array MapEntry) (rl : Value) (hf : Instr.findNow (.int .u16) (.int .u16 p) es.toList 0 = some none) (w : World) (q : Q b0 g h m 0 es c rl b w) (R : World → World → Prop)
    (hF : ∀ w2, Q b0 g h m 0 (es.push ⟨.int .u16 p, .agg (ms 0 p false 0 ⟨#[y]⟩), c⟩) (c + 1) rl (b + 1) w2 → Calls Try.prog 104 #[.pointer (some ⟨g, 0, none⟩), .pointer (some ⟨h, 0, none⟩)] w2 fun e w' => e = .returned (.tuple #[]) ∧ R w2 w') :
    Calls Try.prog 54 #[.pointer (some ⟨g, 0, none⟩), .agg (ms 0 p false 0 ⟨#[y]⟩)] w fun e w' => e = .returned (.bool true) ∧ ∃ w2, Q b0 g h m 0 (es.push ⟨.int .u16 p, .agg (ms 0 p false 0 ⟨#[y]⟩), c⟩) (c + 1) rl (b + 1) w2 ∧ Below b0 w w2 ∧ R w2 w' := by
  have hgl : g < w.heap.size := by obtain ⟨cap, B, _⟩ := q.B; exact B.lt
  have X1 := Blk.new w 30 (ms 0 p false 0 ⟨#[y]⟩)
  have bel1 := (Below.refl b0 w).alloc (by have := q.hg; omega) (.cells (ms 0 p false 0 ⟨#[y]⟩) 30)
  have q1 := q.below ((Below.refl w.heap.size w).alloc (Nat.le_refl _) (.cells (ms 0 p false 0 ⟨#[y]⟩) 30)) (Nat.le_refl _)
  have hml := q.M.lt
  have hhl := q.C.lt
  have hs1 : (⟨#[y]⟩ : ByteArray).size = 1 := rfl
  clear q
  go_enter Try.func54, Try.ntmps54
  go_upto_region 1 with (fail)
  generalize w.alloc (.cells (ms 0 p false 0 ⟨#[y]⟩) 30) = w1 at *
  obtain ⟨cap, B1, hc1, hc2⟩ := q1.B
  unfold maxLen at hc2
  have x0 : w1.cell? ⟨w.heap.size, 0, none⟩ = some (.int .i64 0) := X1.cell 0
  have g0 : w1.cell? ⟨g, 0, none⟩ = some (.slice (some ⟨h, 0, none⟩) 2 cap) := B1.cell 0
  go_quiet ((exact Calls.quiet_of_same (many_two g ⟨h, 0, none⟩ cap _ g0)))
  have X2 : Blk (w1.drewN nq) w.heap.size 30 (ms 0 p false 0 ⟨#[y]⟩) := X1
  have q2 : Q b0 g h m 0 es c rl b (w1.drewN nq) := q1.drewN nq
  have B2 : Blk (w1.drewN nq) g 199 #[.slice (some ⟨h, 0, none⟩) 2 cap, rl, .int .i64 b] := B1
  have bel2 : Below b0 w (w1.drewN nq) := ⟨bel1.os, bel1.tape, bel1.output, bel1.size, bel1.block⟩
  clear X1 q1 B1 bel1 x0 g0
  generalize w1.drewN nq = w2 at *
  have x0 : w2.cell? ⟨w.heap.size, 0, none⟩ = some (.int .i64 0) := X2.cell 0
  have x1 : w2.cell? ⟨w.heap.size, 1, none⟩ = some (.int .i64 p) := X2.cell 1
  have x2 : w2.cell? ⟨w.heap.size, 2, none⟩ = some (.bool false) := X2.cell 2
  have x3 : w2.cell? ⟨w.heap.size, 3, none⟩ = some (.int .u32 0) := X2.cell 3
  have x4 : w2.cell? ⟨w.heap.size, 4, none⟩ = some (.string ⟨#[y]⟩) := X2.cell 4
  have g0 : w2.cell? ⟨g, 0, none⟩ = some (.slice (some ⟨h, 0, none⟩) 2 cap) := B2.cell 0
  go_upto_region 5 with (fail)
  go_cut [36] (fun s36 wx => s36 = .bool false ∧ MapB wx m (es.push ⟨.int .u16 p, .agg (ms 0 p false 0 ⟨#[y]⟩), c⟩) (c + 1) ∧ Only m w2.drew wx ∧ Below b0 w2.drew wx)
  case first =>
    have hS := fun w' (C : Cel w' h 0 (st 0 m)) (M : MapB w' m es c) => stput h m c p hp ⟨#[y]⟩ es hf w' C M q2.ne3
    have hbm := q2.hm
    go_region_law ((refine step_call2 (by rfl) 103 Try.f103 _ _ (by rfl) Try.func103 (by kernel_rfl) (by kernel_rfl) #[.pointer (some ⟨h, 0, none⟩), .agg (ms 0 p false 0 ⟨#[y]⟩)] (by simp [Act.eval, Act.put, ms]) (hS _ q2.C.drew q2.M.drew) ?_; rintro e w3 ⟨rfl, M3, O3, bl3⟩; refine ⟨_, rfl, ?_⟩))
    all_goals
      go_wp2_with fail
      go_meet
      exact ⟨rfl, M3, O3, bl3 b0 hbm⟩
  case rest =>
  obtain ⟨rfl, M3, O3, bl3⟩ := hcut
  have q3 := q2.drew.only O3 M3
  have X3 : Blk wc w.heap.size 30 (ms 0 p false 0 ⟨#[y]⟩) := O3.blk X2.drew (by omega)
  have bel3 := bel2.drew.trans bl3
  clear X2 q2 B2 bel2 x0 x1 x2 x3 x4 g0 M3 O3 bl3
  obtain ⟨cap3, B3, hc13, hc23⟩ := q3.B
  have g2 : wc.cell? ⟨g, 2, none⟩ = some (.int .i64 b) := B3.cell 2
  have f2 : wc.frozen? ⟨g, 2, none⟩ = false := B3.frozen 2
  have x4 : wc.cell? ⟨w.heap.size, 4, none⟩ = some (.string ⟨#[y]⟩) := X3.cell 4
  go_upto_region 7 with (fail)
  go_region
  have q4 : Q b0 g h m 0 (es.push ⟨.int .u16 p, .agg (ms 0 p false 0 ⟨#[y]⟩), c⟩) (c + 1) rl (b + 1) (wc.setCell ⟨g, 2, none⟩ (.int .i64 (b + 1))).drew :=
    Q.drew ⟨⟨cap3, B3.set_ 2 _, hc13, hc23⟩, q3.C.far (p := ⟨g, 2, none⟩) q3.ne1 _, q3.M.far (p := ⟨g, 2, none⟩) q3.ne2 _, q3.hg, q3.hh, q3.hm, q3.ne1, q3.ne2, q3.ne3⟩
  have X4 : Blk (wc.setCell ⟨g, 2, none⟩ (.int .i64 (b + 1))).drew w.heap.size 30 (ms 0 p false 0 ⟨#[y]⟩) := (X3.far (p := ⟨g, 2, none⟩) (by show w.heap.size ≠ g; omega) _).drew
  have bel4 : Below b0 w (wc.setCell ⟨g, 2, none⟩ (.int .i64 (b + 1))).drew := (bel3.setCell (p := ⟨g, 2, none⟩) q3.hg _).drew
  clear q3 X3 bel3 B3 g2 f2 x4
  generalize (wc.setCell ⟨g, 2, none⟩ (.int .i64 (b + 1))).drew = w4 at *
  obtain ⟨cap4, B4, hc14, hc24⟩ := q4.B
  unfold maxLen at hc24
  have g0 : w4.cell? ⟨g, 0, none⟩ = some (.slice (some ⟨h, 0, none⟩) 2 cap4) := B4.cell 0
  have x0 : w4.cell? ⟨w.heap.size, 0, none⟩ = some (.int .i64 0) := X4.cell 0
  go_upto_region 8 with (fail)
  go_cut [55] (fun _ wx => R w4.drew wx)
  case first =>
    have hS := hF w4.drew q4.drew
    go_region_law ((refine step_call2 (by rfl) 104 Try.f104 _ _ (by rfl) Try.func104 (by kernel_rfl) (by kernel_rfl) #[.pointer (some ⟨g, 0, none⟩), .pointer (some ⟨h, 0, none⟩)] (by simp [Act.eval, Act.put]) hS ?_; rintro e w3 ⟨rfl, hR⟩; refine ⟨_, rfl, ?_⟩))
    all_goals
      go_wp2_with fail
      go_meet
      exact hR
  case rest =>
  go_wp2_with fail
  go_ret
  exact ⟨rfl, _, q4.drew, bel4.drew, hcut⟩
end Go.Proofs.Ythddacgdmngfhaa.del
