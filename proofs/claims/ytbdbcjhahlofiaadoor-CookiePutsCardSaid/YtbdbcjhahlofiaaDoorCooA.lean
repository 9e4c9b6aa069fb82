/- Layer 10: which cookies may be, by the program and by the document. -/
import Derived.Test.YtbdbcjhahlofiaaDoorCooM
import Derived.Test.YtbdbcjhahlofiaaDoorKitB
import Derived.Outline
import Derived.BigQuiet
import Derived.LoopTactic
import Derived.Deep.RegionWith
import Derived.BigRegion
import Derived.Lib.QuietBelow
import Derived.StillTailTactics
namespace Go.Proofs.YtbdbcjhahlofiaaDoor.coo
open Go.ChangeShapes Go.WideShapes Go.ChangeAt Go.RowKit kit oct
set_option maxRecDepth 100000

theorem is16_any (n : Int) (w : World) : Calls Tryd.prog 24 #[.int .i64 n] w fun e w' => e = .returned (.bool (decide (is16 n))) ∧ w' = w := by
  rcases (by omega : n < 0 ∨ (0 ≤ n ∧ n ≤ 65535) ∨ (0 ≤ n ∧ 65535 < n)) with q | q | q
  · have hd : decide (0 ≤ n) = false := decide_eq_false (by omega)
    rw [show decide (is16 n) = false from decide_eq_false (by unfold is16; omega)]
    go_enter Tryd.func24, Tryd.ntmps24
    go_wp2
    go_ret
    exact ⟨rfl, rfl⟩
  · have hd : decide (0 ≤ n) = true := decide_eq_true (by omega)
    have hd2 : decide (n ≤ 65535) = true := decide_eq_true (by omega)
    rw [show decide (is16 n) = true from decide_eq_true (by unfold is16; omega)]
    go_enter Tryd.func24, Tryd.ntmps24
    go_wp2
    go_ret
    exact ⟨rfl, rfl⟩
  · have hd : decide (0 ≤ n) = true := decide_eq_true (by omega)
    have hd2 : decide (n ≤ 65535) = false := decide_eq_false (by omega)
    rw [show decide (is16 n) = false from decide_eq_false (by unfold is16; omega)]
    go_enter Tryd.func24, Tryd.ntmps24
    go_wp2
    go_ret
    exact ⟨rfl, rfl⟩
theorem word_any (n : Int) (w : World) : Calls Tryd.prog 29 #[.int .i64 n] w fun e w' => e = .returned (.bool (decide (is16 n))) ∧ w' = w := by
  rcases (by omega : n < 0 ∨ (0 ≤ n ∧ n ≤ 65535) ∨ (0 ≤ n ∧ 65535 < n)) with q | q | q
  · have hd : decide (0 ≤ n) = false := decide_eq_false (by omega)
    rw [show decide (is16 n) = false from decide_eq_false (by unfold is16; omega)]
    go_enter Tryd.func29, Tryd.ntmps29
    go_wp2
    go_ret
    exact ⟨rfl, rfl⟩
  · have hd : decide (0 ≤ n) = true := decide_eq_true (by omega)
    have hd2 : decide (n ≤ 65535) = true := decide_eq_true (by omega)
    rw [show decide (is16 n) = true from decide_eq_true (by unfold is16; omega)]
    go_enter Tryd.func29, Tryd.ntmps29
    go_wp2
    go_ret
    exact ⟨rfl, rfl⟩
  · have hd : decide (0 ≤ n) = true := decide_eq_true (by omega)
    have hd2 : decide (n ≤ 65535) = false := decide_eq_false (by omega)
    rw [show decide (is16 n) = false from decide_eq_false (by unfold is16; omega)]
    go_enter Tryd.func29, Tryd.ntmps29
    go_wp2
    go_ret
    exact ⟨rfl, rfl⟩
/-- Which of nine things is the first one that may not be. -/
theorem may_cases (c : Ck) : c.may ∨ c.made < 0 ∨ (0 ≤ c.made ∧ c.mine = 0) ∨ (0 ≤ c.made ∧ c.mine ≠ 0 ∧ c.yours = 0) ∨ (0 ≤ c.made ∧ c.mine ≠ 0 ∧ c.yours ≠ 0 ∧ ¬ is16 c.peerPort) ∨ (0 ≤ c.made ∧ c.mine ≠ 0 ∧ c.yours ≠ 0 ∧ is16 c.peerPort ∧ ¬ is16 c.myPort) ∨
    (0 ≤ c.made ∧ c.mine ≠ 0 ∧ c.yours ≠ 0 ∧ is16 c.peerPort ∧ is16 c.myPort ∧ ¬ is16 c.out) ∨ (0 ≤ c.made ∧ c.mine ≠ 0 ∧ c.yours ≠ 0 ∧ is16 c.peerPort ∧ is16 c.myPort ∧ is16 c.out ∧ ¬ is16 c.inn) ∨
    (0 ≤ c.made ∧ c.mine ≠ 0 ∧ c.yours ≠ 0 ∧ is16 c.peerPort ∧ is16 c.myPort ∧ is16 c.out ∧ is16 c.inn ∧ c.X.size ≠ 16) ∨ (0 ≤ c.made ∧ c.mine ≠ 0 ∧ c.yours ≠ 0 ∧ is16 c.peerPort ∧ is16 c.myPort ∧ is16 c.out ∧ is16 c.inn ∧ c.X.size = 16 ∧ c.Y.size ≠ 16) := by
  unfold Ck.may
  by_cases a1 : 0 ≤ c.made
  · by_cases a2 : c.mine = 0
    · simp [a1, a2]
    · by_cases a3 : c.yours = 0
      · simp [a1, a2, a3]
      · by_cases a4 : is16 c.peerPort
        · by_cases a5 : is16 c.myPort
          · by_cases a6 : is16 c.out
            · by_cases a7 : is16 c.inn
              · by_cases a8 : c.X.size = 16
                · by_cases a9 : c.Y.size = 16
                  · simp [a1, a2, a3, a4, a5, a6, a7, a8, a9]
                  · simp [a1, a2, a3, a4, a5, a6, a7, a8, a9]
                · simp [a1, a2, a3, a4, a5, a6, a7, a8]
              · simp [a1, a2, a3, a4, a5, a6, a7]
            · simp [a1, a2, a3, a4, a5, a6]
          · simp [a1, a2, a3, a4, a5]
        · simp [a1, a2, a3, a4]
  · exact .inr (.inl (by omega))
set_option maxHeartbeats 4000000 in
theorem may_any (c : Ck) (w : World) : Calls Tryd.prog 13 #[.agg c.cells] w fun e w' => e = .returned (.bool (decide c.may)) ∧ Below w.heap.size w w' := by
  have hc := may_cases c
  obtain ⟨made, mine, yours, myTsn, yourTsn, peer, loc, peerPort, myPort, rwnd, out, inn, tieMine, tieYours, X, Y⟩ := c
  rcases hc with h | h | h | h | h | h | h | h | h | h
  · rw [decide_eq_true h]
    obtain ⟨a1, a2, a3, a4, a5, a6, a7, a8, a9⟩ := h
    simp only at a1 a2 a3 a4 a5 a6 a7 a8 a9
    have d1 : decide (0 ≤ made) = true := decide_eq_true (by omega)
    have d2 : (mine != 0) = true := by simpa using a2
    have d3 : (yours != 0) = true := by simpa using a3
    have i4 := fun w => is16_any peerPort w
    rw [decide_eq_true a4] at i4
    have i5 := fun w => is16_any myPort w
    rw [decide_eq_true a5] at i5
    have i6 := fun w => is16_any out w
    rw [decide_eq_true a6] at i6
    have i7 := fun w => is16_any inn w
    rw [decide_eq_true a7] at i7
    have d8 : ((X.size : Int) == 16) = true := by rw [beq_iff_eq]; omega
    have d9 : ((Y.size : Int) == 16) = true := by rw [beq_iff_eq]; omega
    have bel := (Below.refl w.heap.size w).alloc (Nat.le_refl _) (.cells (Ck.cells ⟨made, mine, yours, myTsn, yourTsn, peer, loc, peerPort, myPort, rwnd, out, inn, tieMine, tieYours, X, Y⟩) 25)
    have N := Blk.new w 25 (Ck.cells ⟨made, mine, yours, myTsn, yourTsn, peer, loc, peerPort, myPort, rwnd, out, inn, tieMine, tieYours, X, Y⟩)
    clear a1 a2 a3 a4 a5 a6 a7 a8 a9
    go_enter Tryd.func13, Tryd.ntmps13
    go_upto_region 1 with (fail)
    generalize w.alloc (.cells (Ck.cells ⟨made, mine, yours, myTsn, yourTsn, peer, loc, peerPort, myPort, rwnd, out, inn, tieMine, tieYours, X, Y⟩) 25) = w1 at *
    have x0 : w1.cell? ⟨w.heap.size, 0, none⟩ = some (.int .i64 made) := N.cell 0
    have x1 : w1.cell? ⟨w.heap.size, 1, none⟩ = some (.int .u32 mine) := N.cell 1
    have x2 : w1.cell? ⟨w.heap.size, 2, none⟩ = some (.int .u32 yours) := N.cell 2
    have x3 : w1.cell? ⟨w.heap.size, 3, none⟩ = some (.int .u32 myTsn) := N.cell 3
    have x4 : w1.cell? ⟨w.heap.size, 4, none⟩ = some (.int .u32 yourTsn) := N.cell 4
    have x5 : w1.cell? ⟨w.heap.size, 5, none⟩ = some (.int .u32 peer) := N.cell 5
    have x6 : w1.cell? ⟨w.heap.size, 6, none⟩ = some (.int .u32 loc) := N.cell 6
    have x7 : w1.cell? ⟨w.heap.size, 7, none⟩ = some (.int .i64 peerPort) := N.cell 7
    have x8 : w1.cell? ⟨w.heap.size, 8, none⟩ = some (.int .i64 myPort) := N.cell 8
    have x9 : w1.cell? ⟨w.heap.size, 9, none⟩ = some (.int .u32 rwnd) := N.cell 9
    have x10 : w1.cell? ⟨w.heap.size, 10, none⟩ = some (.int .i64 out) := N.cell 10
    have x11 : w1.cell? ⟨w.heap.size, 11, none⟩ = some (.int .i64 inn) := N.cell 11
    have x12 : w1.cell? ⟨w.heap.size, 12, none⟩ = some (.int .u32 tieMine) := N.cell 12
    have x13 : w1.cell? ⟨w.heap.size, 13, none⟩ = some (.int .u32 tieYours) := N.cell 13
    have x14 : w1.cell? ⟨w.heap.size, 14, none⟩ = some (.string X) := N.cell 14
    have x15 : w1.cell? ⟨w.heap.size, 15, none⟩ = some (.string Y) := N.cell 15
    clear N
    go_wp2_with fail
    refine (i4 _).mono ?_
    rintro e w1 ⟨rfl, rfl⟩
    go_wp2_with fail
    refine (i5 _).mono ?_
    rintro e w1 ⟨rfl, rfl⟩
    go_wp2_with fail
    refine (i6 _).mono ?_
    rintro e w1 ⟨rfl, rfl⟩
    go_wp2_with fail
    refine (i7 _).mono ?_
    rintro e w1 ⟨rfl, rfl⟩
    go_wp2_with fail
    go_ret
    exact ⟨rfl, bel⟩
  · rw [show decide (Ck.may ⟨made, mine, yours, myTsn, yourTsn, peer, loc, peerPort, myPort, rwnd, out, inn, tieMine, tieYours, X, Y⟩) = false from decide_eq_false (by unfold Ck.may; rintro ⟨q1, q2, q3, q4, q5, q6, q7, q8, q9⟩; simp only at *; first | omega | exact absurd q1 h)]
    have a1 := h
    simp only at a1
    have d1 : decide (0 ≤ made) = false := decide_eq_false (by omega)
    have bel := (Below.refl w.heap.size w).alloc (Nat.le_refl _) (.cells (Ck.cells ⟨made, mine, yours, myTsn, yourTsn, peer, loc, peerPort, myPort, rwnd, out, inn, tieMine, tieYours, X, Y⟩) 25)
    have N := Blk.new w 25 (Ck.cells ⟨made, mine, yours, myTsn, yourTsn, peer, loc, peerPort, myPort, rwnd, out, inn, tieMine, tieYours, X, Y⟩)
    clear a1
    go_enter Tryd.func13, Tryd.ntmps13
    go_upto_region 1 with (fail)
    generalize w.alloc (.cells (Ck.cells ⟨made, mine, yours, myTsn, yourTsn, peer, loc, peerPort, myPort, rwnd, out, inn, tieMine, tieYours, X, Y⟩) 25) = w1 at *
    have x0 : w1.cell? ⟨w.heap.size, 0, none⟩ = some (.int .i64 made) := N.cell 0
    have x1 : w1.cell? ⟨w.heap.size, 1, none⟩ = some (.int .u32 mine) := N.cell 1
    have x2 : w1.cell? ⟨w.heap.size, 2, none⟩ = some (.int .u32 yours) := N.cell 2
    have x3 : w1.cell? ⟨w.heap.size, 3, none⟩ = some (.int .u32 myTsn) := N.cell 3
    have x4 : w1.cell? ⟨w.heap.size, 4, none⟩ = some (.int .u32 yourTsn) := N.cell 4
    have x5 : w1.cell? ⟨w.heap.size, 5, none⟩ = some (.int .u32 peer) := N.cell 5
    have x6 : w1.cell? ⟨w.heap.size, 6, none⟩ = some (.int .u32 loc) := N.cell 6
    have x7 : w1.cell? ⟨w.heap.size, 7, none⟩ = some (.int .i64 peerPort) := N.cell 7
    have x8 : w1.cell? ⟨w.heap.size, 8, none⟩ = some (.int .i64 myPort) := N.cell 8
    have x9 : w1.cell? ⟨w.heap.size, 9, none⟩ = some (.int .u32 rwnd) := N.cell 9
    have x10 : w1.cell? ⟨w.heap.size, 10, none⟩ = some (.int .i64 out) := N.cell 10
    have x11 : w1.cell? ⟨w.heap.size, 11, none⟩ = some (.int .i64 inn) := N.cell 11
    have x12 : w1.cell? ⟨w.heap.size, 12, none⟩ = some (.int .u32 tieMine) := N.cell 12
    have x13 : w1.cell? ⟨w.heap.size, 13, none⟩ = some (.int .u32 tieYours) := N.cell 13
    have x14 : w1.cell? ⟨w.heap.size, 14, none⟩ = some (.string X) := N.cell 14
    have x15 : w1.cell? ⟨w.heap.size, 15, none⟩ = some (.string Y) := N.cell 15
    clear N
    go_wp2_with fail
    go_ret
    exact ⟨rfl, bel⟩
  · rw [show decide (Ck.may ⟨made, mine, yours, myTsn, yourTsn, peer, loc, peerPort, myPort, rwnd, out, inn, tieMine, tieYours, X, Y⟩) = false from decide_eq_false (by unfold Ck.may; rintro ⟨q1, q2, q3, q4, q5, q6, q7, q8, q9⟩; simp only at *; first | omega | exact absurd q2 h.2)]
    obtain ⟨a1, a2⟩ := h
    simp only at a1 a2
    have d1 : decide (0 ≤ made) = true := decide_eq_true (by omega)
    have d2 : (mine != 0) = false := by simpa using a2
    have bel := (Below.refl w.heap.size w).alloc (Nat.le_refl _) (.cells (Ck.cells ⟨made, mine, yours, myTsn, yourTsn, peer, loc, peerPort, myPort, rwnd, out, inn, tieMine, tieYours, X, Y⟩) 25)
    have N := Blk.new w 25 (Ck.cells ⟨made, mine, yours, myTsn, yourTsn, peer, loc, peerPort, myPort, rwnd, out, inn, tieMine, tieYours, X, Y⟩)
    clear a1 a2
    go_enter Tryd.func13, Tryd.ntmps13
    go_upto_region 1 with (fail)
    generalize w.alloc (.cells (Ck.cells ⟨made, mine, yours, myTsn, yourTsn, peer, loc, peerPort, myPort, rwnd, out, inn, tieMine, tieYours, X, Y⟩) 25) = w1 at *
    have x0 : w1.cell? ⟨w.heap.size, 0, none⟩ = some (.int .i64 made) := N.cell 0
    have x1 : w1.cell? ⟨w.heap.size, 1, none⟩ = some (.int .u32 mine) := N.cell 1
    have x2 : w1.cell? ⟨w.heap.size, 2, none⟩ = some (.int .u32 yours) := N.cell 2
    have x3 : w1.cell? ⟨w.heap.size, 3, none⟩ = some (.int .u32 myTsn) := N.cell 3
    have x4 : w1.cell? ⟨w.heap.size, 4, none⟩ = some (.int .u32 yourTsn) := N.cell 4
    have x5 : w1.cell? ⟨w.heap.size, 5, none⟩ = some (.int .u32 peer) := N.cell 5
    have x6 : w1.cell? ⟨w.heap.size, 6, none⟩ = some (.int .u32 loc) := N.cell 6
    have x7 : w1.cell? ⟨w.heap.size, 7, none⟩ = some (.int .i64 peerPort) := N.cell 7
    have x8 : w1.cell? ⟨w.heap.size, 8, none⟩ = some (.int .i64 myPort) := N.cell 8
    have x9 : w1.cell? ⟨w.heap.size, 9, none⟩ = some (.int .u32 rwnd) := N.cell 9
    have x10 : w1.cell? ⟨w.heap.size, 10, none⟩ = some (.int .i64 out) := N.cell 10
    have x11 : w1.cell? ⟨w.heap.size, 11, none⟩ = some (.int .i64 inn) := N.cell 11
    have x12 : w1.cell? ⟨w.heap.size, 12, none⟩ = some (.int .u32 tieMine) := N.cell 12
    have x13 : w1.cell? ⟨w.heap.size, 13, none⟩ = some (.int .u32 tieYours) := N.cell 13
    have x14 : w1.cell? ⟨w.heap.size, 14, none⟩ = some (.string X) := N.cell 14
    have x15 : w1.cell? ⟨w.heap.size, 15, none⟩ = some (.string Y) := N.cell 15
    clear N
    go_wp2_with fail
    go_ret
    exact ⟨rfl, bel⟩
  · rw [show decide (Ck.may ⟨made, mine, yours, myTsn, yourTsn, peer, loc, peerPort, myPort, rwnd, out, inn, tieMine, tieYours, X, Y⟩) = false from decide_eq_false (by unfold Ck.may; rintro ⟨q1, q2, q3, q4, q5, q6, q7, q8, q9⟩; simp only at *; first | omega | exact absurd q3 h.2.2)]
    obtain ⟨a1, a2, a3⟩ := h
    simp only at a1 a2 a3
    have d1 : decide (0 ≤ made) = true := decide_eq_true (by omega)
    have d2 : (mine != 0) = true := by simpa using a2
    have d3 : (yours != 0) = false := by simpa using a3
    have bel := (Below.refl w.heap.size w).alloc (Nat.le_refl _) (.cells (Ck.cells ⟨made, mine, yours, myTsn, yourTsn, peer, loc, peerPort, myPort, rwnd, out, inn, tieMine, tieYours, X, Y⟩) 25)
    have N := Blk.new w 25 (Ck.cells ⟨made, mine, yours, myTsn, yourTsn, peer, loc, peerPort, myPort, rwnd, out, inn, tieMine, tieYours, X, Y⟩)
    clear a1 a2 a3
    go_enter Tryd.func13, Tryd.ntmps13
    go_upto_region 1 with (fail)
    generalize w.alloc (.cells (Ck.cells ⟨made, mine, yours, myTsn, yourTsn, peer, loc, peerPort, myPort, rwnd, out, inn, tieMine, tieYours, X, Y⟩) 25) = w1 at *
    have x0 : w1.cell? ⟨w.heap.size, 0, none⟩ = some (.int .i64 made) := N.cell 0
    have x1 : w1.cell? ⟨w.heap.size, 1, none⟩ = some (.int .u32 mine) := N.cell 1
    have x2 : w1.cell? ⟨w.heap.size, 2, none⟩ = some (.int .u32 yours) := N.cell 2
    have x3 : w1.cell? ⟨w.heap.size, 3, none⟩ = some (.int .u32 myTsn) := N.cell 3
    have x4 : w1.cell? ⟨w.heap.size, 4, none⟩ = some (.int .u32 yourTsn) := N.cell 4
    have x5 : w1.cell? ⟨w.heap.size, 5, none⟩ = some (.int .u32 peer) := N.cell 5
    have x6 : w1.cell? ⟨w.heap.size, 6, none⟩ = some (.int .u32 loc) := N.cell 6
    have x7 : w1.cell? ⟨w.heap.size, 7, none⟩ = some (.int .i64 peerPort) := N.cell 7
    have x8 : w1.cell? ⟨w.heap.size, 8, none⟩ = some (.int .i64 myPort) := N.cell 8
    have x9 : w1.cell? ⟨w.heap.size, 9, none⟩ = some (.int .u32 rwnd) := N.cell 9
    have x10 : w1.cell? ⟨w.heap.size, 10, none⟩ = some (.int .i64 out) := N.cell 10
    have x11 : w1.cell? ⟨w.heap.size, 11, none⟩ = some (.int .i64 inn) := N.cell 11
    have x12 : w1.cell? ⟨w.heap.size, 12, none⟩ = some (.int .u32 tieMine) := N.cell 12
    have x13 : w1.cell? ⟨w.heap.size, 13, none⟩ = some (.int .u32 tieYours) := N.cell 13
    have x14 : w1.cell? ⟨w.heap.size, 14, none⟩ = some (.string X) := N.cell 14
    have x15 : w1.cell? ⟨w.heap.size, 15, none⟩ = some (.string Y) := N.cell 15
    clear N
    go_wp2_with fail
    go_ret
    exact ⟨rfl, bel⟩
  · rw [show decide (Ck.may ⟨made, mine, yours, myTsn, yourTsn, peer, loc, peerPort, myPort, rwnd, out, inn, tieMine, tieYours, X, Y⟩) = false from decide_eq_false (by unfold Ck.may; rintro ⟨q1, q2, q3, q4, q5, q6, q7, q8, q9⟩; simp only at *; first | omega | exact absurd q4 h.2.2.2)]
    obtain ⟨a1, a2, a3, a4⟩ := h
    simp only at a1 a2 a3 a4
    have d1 : decide (0 ≤ made) = true := decide_eq_true (by omega)
    have d2 : (mine != 0) = true := by simpa using a2
    have d3 : (yours != 0) = true := by simpa using a3
    have i4 := fun w => is16_any peerPort w
    rw [decide_eq_false a4] at i4
    have bel := (Below.refl w.heap.size w).alloc (Nat.le_refl _) (.cells (Ck.cells ⟨made, mine, yours, myTsn, yourTsn, peer, loc, peerPort, myPort, rwnd, out, inn, tieMine, tieYours, X, Y⟩) 25)
    have N := Blk.new w 25 (Ck.cells ⟨made, mine, yours, myTsn, yourTsn, peer, loc, peerPort, myPort, rwnd, out, inn, tieMine, tieYours, X, Y⟩)
    clear a1 a2 a3 a4
    go_enter Tryd.func13, Tryd.ntmps13
    go_upto_region 1 with (fail)
    generalize w.alloc (.cells (Ck.cells ⟨made, mine, yours, myTsn, yourTsn, peer, loc, peerPort, myPort, rwnd, out, inn, tieMine, tieYours, X, Y⟩) 25) = w1 at *
    have x0 : w1.cell? ⟨w.heap.size, 0, none⟩ = some (.int .i64 made) := N.cell 0
    have x1 : w1.cell? ⟨w.heap.size, 1, none⟩ = some (.int .u32 mine) := N.cell 1
    have x2 : w1.cell? ⟨w.heap.size, 2, none⟩ = some (.int .u32 yours) := N.cell 2
    have x3 : w1.cell? ⟨w.heap.size, 3, none⟩ = some (.int .u32 myTsn) := N.cell 3
    have x4 : w1.cell? ⟨w.heap.size, 4, none⟩ = some (.int .u32 yourTsn) := N.cell 4
    have x5 : w1.cell? ⟨w.heap.size, 5, none⟩ = some (.int .u32 peer) := N.cell 5
    have x6 : w1.cell? ⟨w.heap.size, 6, none⟩ = some (.int .u32 loc) := N.cell 6
    have x7 : w1.cell? ⟨w.heap.size, 7, none⟩ = some (.int .i64 peerPort) := N.cell 7
    have x8 : w1.cell? ⟨w.heap.size, 8, none⟩ = some (.int .i64 myPort) := N.cell 8
    have x9 : w1.cell? ⟨w.heap.size, 9, none⟩ = some (.int .u32 rwnd) := N.cell 9
    have x10 : w1.cell? ⟨w.heap.size, 10, none⟩ = some (.int .i64 out) := N.cell 10
    have x11 : w1.cell? ⟨w.heap.size, 11, none⟩ = some (.int .i64 inn) := N.cell 11
    have x12 : w1.cell? ⟨w.heap.size, 12, none⟩ = some (.int .u32 tieMine) := N.cell 12
    have x13 : w1.cell? ⟨w.heap.size, 13, none⟩ = some (.int .u32 tieYours) := N.cell 13
    have x14 : w1.cell? ⟨w.heap.size, 14, none⟩ = some (.string X) := N.cell 14
    have x15 : w1.cell? ⟨w.heap.size, 15, none⟩ = some (.string Y) := N.cell 15
    clear N
    go_wp2_with fail
    refine (i4 _).mono ?_
    rintro e w1 ⟨rfl, rfl⟩
    go_wp2_with fail
    go_ret
    exact ⟨rfl, bel⟩
  · rw [show decide (Ck.may ⟨made, mine, yours, myTsn, yourTsn, peer, loc, peerPort, myPort, rwnd, out, inn, tieMine, tieYours, X, Y⟩) = false from decide_eq_false (by unfold Ck.may; rintro ⟨q1, q2, q3, q4, q5, q6, q7, q8, q9⟩; simp only at *; first | omega | exact absurd q5 h.2.2.2.2)]
    obtain ⟨a1, a2, a3, a4, a5⟩ := h
    simp only at a1 a2 a3 a4 a5
    have d1 : decide (0 ≤ made) = true := decide_eq_true (by omega)
    have d2 : (mine != 0) = true := by simpa using a2
    have d3 : (yours != 0) = true := by simpa using a3
    have i4 := fun w => is16_any peerPort w
    rw [decide_eq_true a4] at i4
    have i5 := fun w => is16_any myPort w
    rw [decide_eq_false a5] at i5
    have bel := (Below.refl w.heap.size w).alloc (Nat.le_refl _) (.cells (Ck.cells ⟨made, mine, yours, myTsn, yourTsn, peer, loc, peerPort, myPort, rwnd, out, inn, tieMine, tieYours, X, Y⟩) 25)
    have N := Blk.new w 25 (Ck.cells ⟨made, mine, yours, myTsn, yourTsn, peer, loc, peerPort, myPort, rwnd, out, inn, tieMine, tieYours, X, Y⟩)
    clear a1 a2 a3 a4 a5
    go_enter Tryd.func13, Tryd.ntmps13
    go_upto_region 1 with (fail)
    generalize w.alloc (.cells (Ck.cells ⟨made, mine, yours, myTsn, yourTsn, peer, loc, peerPort, myPort, rwnd, out, inn, tieMine, tieYours, X, Y⟩) 25) = w1 at *
    have x0 : w1.cell? ⟨w.heap.size, 0, none⟩ = some (.int .i64 made) := N.cell 0
    have x1 : w1.cell? ⟨w.heap.size, 1, none⟩ = some (.int .u32 mine) := N.cell 1
    have x2 : w1.cell? ⟨w.heap.size, 2, none⟩ = some (.int .u32 yours) := N.cell 2
    have x3 : w1.cell? ⟨w.heap.size, 3, none⟩ = some (.int .u32 myTsn) := N.cell 3
    have x4 : w1.cell? ⟨w.heap.size, 4, none⟩ = some (.int .u32 yourTsn) := N.cell 4
    have x5 : w1.cell? ⟨w.heap.size, 5, none⟩ = some (.int .u32 peer) := N.cell 5
    have x6 : w1.cell? ⟨w.heap.size, 6, none⟩ = some (.int .u32 loc) := N.cell 6
    have x7 : w1.cell? ⟨w.heap.size, 7, none⟩ = some (.int .i64 peerPort) := N.cell 7
    have x8 : w1.cell? ⟨w.heap.size, 8, none⟩ = some (.int .i64 myPort) := N.cell 8
    have x9 : w1.cell? ⟨w.heap.size, 9, none⟩ = some (.int .u32 rwnd) := N.cell 9
    have x10 : w1.cell? ⟨w.heap.size, 10, none⟩ = some (.int .i64 out) := N.cell 10
    have x11 : w1.cell? ⟨w.heap.size, 11, none⟩ = some (.int .i64 inn) := N.cell 11
    have x12 : w1.cell? ⟨w.heap.size, 12, none⟩ = some (.int .u32 tieMine) := N.cell 12
    have x13 : w1.cell? ⟨w.heap.size, 13, none⟩ = some (.int .u32 tieYours) := N.cell 13
    have x14 : w1.cell? ⟨w.heap.size, 14, none⟩ = some (.string X) := N.cell 14
    have x15 : w1.cell? ⟨w.heap.size, 15, none⟩ = some (.string Y) := N.cell 15
    clear N
    go_wp2_with fail
    refine (i4 _).mono ?_
    rintro e w1 ⟨rfl, rfl⟩
    go_wp2_with fail
    refine (i5 _).mono ?_
    rintro e w1 ⟨rfl, rfl⟩
    go_wp2_with fail
    go_ret
    exact ⟨rfl, bel⟩
  · rw [show decide (Ck.may ⟨made, mine, yours, myTsn, yourTsn, peer, loc, peerPort, myPort, rwnd, out, inn, tieMine, tieYours, X, Y⟩) = false from decide_eq_false (by unfold Ck.may; rintro ⟨q1, q2, q3, q4, q5, q6, q7, q8, q9⟩; simp only at *; first | omega | exact absurd q6 h.2.2.2.2.2)]
    obtain ⟨a1, a2, a3, a4, a5, a6⟩ := h
    simp only at a1 a2 a3 a4 a5 a6
    have d1 : decide (0 ≤ made) = true := decide_eq_true (by omega)
    have d2 : (mine != 0) = true := by simpa using a2
    have d3 : (yours != 0) = true := by simpa using a3
    have i4 := fun w => is16_any peerPort w
    rw [decide_eq_true a4] at i4
    have i5 := fun w => is16_any myPort w
    rw [decide_eq_true a5] at i5
    have i6 := fun w => is16_any out w
    rw [decide_eq_false a6] at i6
    have bel := (Below.refl w.heap.size w).alloc (Nat.le_refl _) (.cells (Ck.cells ⟨made, mine, yours, myTsn, yourTsn, peer, loc, peerPort, myPort, rwnd, out, inn, tieMine, tieYours, X, Y⟩) 25)
    have N := Blk.new w 25 (Ck.cells ⟨made, mine, yours, myTsn, yourTsn, peer, loc, peerPort, myPort, rwnd, out, inn, tieMine, tieYours, X, Y⟩)
    clear a1 a2 a3 a4 a5 a6
    go_enter Tryd.func13, Tryd.ntmps13
    go_upto_region 1 with (fail)
    generalize w.alloc (.cells (Ck.cells ⟨made, mine, yours, myTsn, yourTsn, peer, loc, peerPort, myPort, rwnd, out, inn, tieMine, tieYours, X, Y⟩) 25) = w1 at *
    have x0 : w1.cell? ⟨w.heap.size, 0, none⟩ = some (.int .i64 made) := N.cell 0
    have x1 : w1.cell? ⟨w.heap.size, 1, none⟩ = some (.int .u32 mine) := N.cell 1
    have x2 : w1.cell? ⟨w.heap.size, 2, none⟩ = some (.int .u32 yours) := N.cell 2
    have x3 : w1.cell? ⟨w.heap.size, 3, none⟩ = some (.int .u32 myTsn) := N.cell 3
    have x4 : w1.cell? ⟨w.heap.size, 4, none⟩ = some (.int .u32 yourTsn) := N.cell 4
    have x5 : w1.cell? ⟨w.heap.size, 5, none⟩ = some (.int .u32 peer) := N.cell 5
    have x6 : w1.cell? ⟨w.heap.size, 6, none⟩ = some (.int .u32 loc) := N.cell 6
    have x7 : w1.cell? ⟨w.heap.size, 7, none⟩ = some (.int .i64 peerPort) := N.cell 7
    have x8 : w1.cell? ⟨w.heap.size, 8, none⟩ = some (.int .i64 myPort) := N.cell 8
    have x9 : w1.cell? ⟨w.heap.size, 9, none⟩ = some (.int .u32 rwnd) := N.cell 9
    have x10 : w1.cell? ⟨w.heap.size, 10, none⟩ = some (.int .i64 out) := N.cell 10
    have x11 : w1.cell? ⟨w.heap.size, 11, none⟩ = some (.int .i64 inn) := N.cell 11
    have x12 : w1.cell? ⟨w.heap.size, 12, none⟩ = some (.int .u32 tieMine) := N.cell 12
    have x13 : w1.cell? ⟨w.heap.size, 13, none⟩ = some (.int .u32 tieYours) := N.cell 13
    have x14 : w1.cell? ⟨w.heap.size, 14, none⟩ = some (.string X) := N.cell 14
    have x15 : w1.cell? ⟨w.heap.size, 15, none⟩ = some (.string Y) := N.cell 15
    clear N
    go_wp2_with fail
    refine (i4 _).mono ?_
    rintro e w1 ⟨rfl, rfl⟩
    go_wp2_with fail
    refine (i5 _).mono ?_
    rintro e w1 ⟨rfl, rfl⟩
    go_wp2_with fail
    refine (i6 _).mono ?_
    rintro e w1 ⟨rfl, rfl⟩
    go_wp2_with fail
    go_ret
    exact ⟨rfl, bel⟩
  · rw [show decide (Ck.may ⟨made, mine, yours, myTsn, yourTsn, peer, loc, peerPort, myPort, rwnd, out, inn, tieMine, tieYours, X, Y⟩) = false from decide_eq_false (by unfold Ck.may; rintro ⟨q1, q2, q3, q4, q5, q6, q7, q8, q9⟩; simp only at *; first | omega | exact absurd q7 h.2.2.2.2.2.2)]
    obtain ⟨a1, a2, a3, a4, a5, a6, a7⟩ := h
    simp only at a1 a2 a3 a4 a5 a6 a7
    have d1 : decide (0 ≤ made) = true := decide_eq_true (by omega)
    have d2 : (mine != 0) = true := by simpa using a2
    have d3 : (yours != 0) = true := by simpa using a3
    have i4 := fun w => is16_any peerPort w
    rw [decide_eq_true a4] at i4
    have i5 := fun w => is16_any myPort w
    rw [decide_eq_true a5] at i5
    have i6 := fun w => is16_any out w
    rw [decide_eq_true a6] at i6
    have i7 := fun w => is16_any inn w
    rw [decide_eq_false a7] at i7
    have bel := (Below.refl w.heap.size w).alloc (Nat.le_refl _) (.cells (Ck.cells ⟨made, mine, yours, myTsn, yourTsn, peer, loc, peerPort, myPort, rwnd, out, inn, tieMine, tieYours, X, Y⟩) 25)
    have N := Blk.new w 25 (Ck.cells ⟨made, mine, yours, myTsn, yourTsn, peer, loc, peerPort, myPort, rwnd, out, inn, tieMine, tieYours, X, Y⟩)
    clear a1 a2 a3 a4 a5 a6 a7
    go_enter Tryd.func13, Tryd.ntmps13
    go_upto_region 1 with (fail)
    generalize w.alloc (.cells (Ck.cells ⟨made, mine, yours, myTsn, yourTsn, peer, loc, peerPort, myPort, rwnd, out, inn, tieMine, tieYours, X, Y⟩) 25) = w1 at *
    have x0 : w1.cell? ⟨w.heap.size, 0, none⟩ = some (.int .i64 made) := N.cell 0
    have x1 : w1.cell? ⟨w.heap.size, 1, none⟩ = some (.int .u32 mine) := N.cell 1
    have x2 : w1.cell? ⟨w.heap.size, 2, none⟩ = some (.int .u32 yours) := N.cell 2
    have x3 : w1.cell? ⟨w.heap.size, 3, none⟩ = some (.int .u32 myTsn) := N.cell 3
    have x4 : w1.cell? ⟨w.heap.size, 4, none⟩ = some (.int .u32 yourTsn) := N.cell 4
    have x5 : w1.cell? ⟨w.heap.size, 5, none⟩ = some (.int .u32 peer) := N.cell 5
    have x6 : w1.cell? ⟨w.heap.size, 6, none⟩ = some (.int .u32 loc) := N.cell 6
    have x7 : w1.cell? ⟨w.heap.size, 7, none⟩ = some (.int .i64 peerPort) := N.cell 7
    have x8 : w1.cell? ⟨w.heap.size, 8, none⟩ = some (.int .i64 myPort) := N.cell 8
    have x9 : w1.cell? ⟨w.heap.size, 9, none⟩ = some (.int .u32 rwnd) := N.cell 9
    have x10 : w1.cell? ⟨w.heap.size, 10, none⟩ = some (.int .i64 out) := N.cell 10
    have x11 : w1.cell? ⟨w.heap.size, 11, none⟩ = some (.int .i64 inn) := N.cell 11
    have x12 : w1.cell? ⟨w.heap.size, 12, none⟩ = some (.int .u32 tieMine) := N.cell 12
    have x13 : w1.cell? ⟨w.heap.size, 13, none⟩ = some (.int .u32 tieYours) := N.cell 13
    have x14 : w1.cell? ⟨w.heap.size, 14, none⟩ = some (.string X) := N.cell 14
    have x15 : w1.cell? ⟨w.heap.size, 15, none⟩ = some (.string Y) := N.cell 15
    clear N
    go_wp2_with fail
    refine (i4 _).mono ?_
    rintro e w1 ⟨rfl, rfl⟩
    go_wp2_with fail
    refine (i5 _).mono ?_
    rintro e w1 ⟨rfl, rfl⟩
    go_wp2_with fail
    refine (i6 _).mono ?_
    rintro e w1 ⟨rfl, rfl⟩
    go_wp2_with fail
    refine (i7 _).mono ?_
    rintro e w1 ⟨rfl, rfl⟩
    go_wp2_with fail
    go_ret
    exact ⟨rfl, bel⟩
  · rw [show decide (Ck.may ⟨made, mine, yours, myTsn, yourTsn, peer, loc, peerPort, myPort, rwnd, out, inn, tieMine, tieYours, X, Y⟩) = false from decide_eq_false (by unfold Ck.may; rintro ⟨q1, q2, q3, q4, q5, q6, q7, q8, q9⟩; simp only at *; first | omega | exact absurd q8 h.2.2.2.2.2.2.2)]
    obtain ⟨a1, a2, a3, a4, a5, a6, a7, a8⟩ := h
    simp only at a1 a2 a3 a4 a5 a6 a7 a8
    have d1 : decide (0 ≤ made) = true := decide_eq_true (by omega)
    have d2 : (mine != 0) = true := by simpa using a2
    have d3 : (yours != 0) = true := by simpa using a3
    have i4 := fun w => is16_any peerPort w
    rw [decide_eq_true a4] at i4
    have i5 := fun w => is16_any myPort w
    rw [decide_eq_true a5] at i5
    have i6 := fun w => is16_any out w
    rw [decide_eq_true a6] at i6
    have i7 := fun w => is16_any inn w
    rw [decide_eq_true a7] at i7
    have d8 : ((X.size : Int) == 16) = false := by rw [beq_eq_false_iff_ne, ne_eq]; omega
    have bel := (Below.refl w.heap.size w).alloc (Nat.le_refl _) (.cells (Ck.cells ⟨made, mine, yours, myTsn, yourTsn, peer, loc, peerPort, myPort, rwnd, out, inn, tieMine, tieYours, X, Y⟩) 25)
    have N := Blk.new w 25 (Ck.cells ⟨made, mine, yours, myTsn, yourTsn, peer, loc, peerPort, myPort, rwnd, out, inn, tieMine, tieYours, X, Y⟩)
    clear a1 a2 a3 a4 a5 a6 a7 a8
    go_enter Tryd.func13, Tryd.ntmps13
    go_upto_region 1 with (fail)
    generalize w.alloc (.cells (Ck.cells ⟨made, mine, yours, myTsn, yourTsn, peer, loc, peerPort, myPort, rwnd, out, inn, tieMine, tieYours, X, Y⟩) 25) = w1 at *
    have x0 : w1.cell? ⟨w.heap.size, 0, none⟩ = some (.int .i64 made) := N.cell 0
    have x1 : w1.cell? ⟨w.heap.size, 1, none⟩ = some (.int .u32 mine) := N.cell 1
    have x2 : w1.cell? ⟨w.heap.size, 2, none⟩ = some (.int .u32 yours) := N.cell 2
    have x3 : w1.cell? ⟨w.heap.size, 3, none⟩ = some (.int .u32 myTsn) := N.cell 3
    have x4 : w1.cell? ⟨w.heap.size, 4, none⟩ = some (.int .u32 yourTsn) := N.cell 4
    have x5 : w1.cell? ⟨w.heap.size, 5, none⟩ = some (.int .u32 peer) := N.cell 5
    have x6 : w1.cell? ⟨w.heap.size, 6, none⟩ = some (.int .u32 loc) := N.cell 6
    have x7 : w1.cell? ⟨w.heap.size, 7, none⟩ = some (.int .i64 peerPort) := N.cell 7
    have x8 : w1.cell? ⟨w.heap.size, 8, none⟩ = some (.int .i64 myPort) := N.cell 8
    have x9 : w1.cell? ⟨w.heap.size, 9, none⟩ = some (.int .u32 rwnd) := N.cell 9
    have x10 : w1.cell? ⟨w.heap.size, 10, none⟩ = some (.int .i64 out) := N.cell 10
    have x11 : w1.cell? ⟨w.heap.size, 11, none⟩ = some (.int .i64 inn) := N.cell 11
    have x12 : w1.cell? ⟨w.heap.size, 12, none⟩ = some (.int .u32 tieMine) := N.cell 12
    have x13 : w1.cell? ⟨w.heap.size, 13, none⟩ = some (.int .u32 tieYours) := N.cell 13
    have x14 : w1.cell? ⟨w.heap.size, 14, none⟩ = some (.string X) := N.cell 14
    have x15 : w1.cell? ⟨w.heap.size, 15, none⟩ = some (.string Y) := N.cell 15
    clear N
    go_wp2_with fail
    refine (i4 _).mono ?_
    rintro e w1 ⟨rfl, rfl⟩
    go_wp2_with fail
    refine (i5 _).mono ?_
    rintro e w1 ⟨rfl, rfl⟩
    go_wp2_with fail
    refine (i6 _).mono ?_
    rintro e w1 ⟨rfl, rfl⟩
    go_wp2_with fail
    refine (i7 _).mono ?_
    rintro e w1 ⟨rfl, rfl⟩
    go_wp2_with fail
    go_ret
    exact ⟨rfl, bel⟩
  · rw [show decide (Ck.may ⟨made, mine, yours, myTsn, yourTsn, peer, loc, peerPort, myPort, rwnd, out, inn, tieMine, tieYours, X, Y⟩) = false from decide_eq_false (by unfold Ck.may; rintro ⟨q1, q2, q3, q4, q5, q6, q7, q8, q9⟩; simp only at *; first | omega | exact absurd q9 h.2.2.2.2.2.2.2.2)]
    obtain ⟨a1, a2, a3, a4, a5, a6, a7, a8, a9⟩ := h
    simp only at a1 a2 a3 a4 a5 a6 a7 a8 a9
    have d1 : decide (0 ≤ made) = true := decide_eq_true (by omega)
    have d2 : (mine != 0) = true := by simpa using a2
    have d3 : (yours != 0) = true := by simpa using a3
    have i4 := fun w => is16_any peerPort w
    rw [decide_eq_true a4] at i4
    have i5 := fun w => is16_any myPort w
    rw [decide_eq_true a5] at i5
    have i6 := fun w => is16_any out w
    rw [decide_eq_true a6] at i6
    have i7 := fun w => is16_any inn w
    rw [decide_eq_true a7] at i7
    have d8 : ((X.size : Int) == 16) = true := by rw [beq_iff_eq]; omega
    have d9 : ((Y.size : Int) == 16) = false := by rw [beq_eq_false_iff_ne, ne_eq]; omega
    have bel := (Below.refl w.heap.size w).alloc (Nat.le_refl _) (.cells (Ck.cells ⟨made, mine, yours, myTsn, yourTsn, peer, loc, peerPort, myPort, rwnd, out, inn, tieMine, tieYours, X, Y⟩) 25)
    have N := Blk.new w 25 (Ck.cells ⟨made, mine, yours, myTsn, yourTsn, peer, loc, peerPort, myPort, rwnd, out, inn, tieMine, tieYours, X, Y⟩)
    clear a1 a2 a3 a4 a5 a6 a7 a8 a9
    go_enter Tryd.func13, Tryd.ntmps13
    go_upto_region 1 with (fail)
    generalize w.alloc (.cells (Ck.cells ⟨made, mine, yours, myTsn, yourTsn, peer, loc, peerPort, myPort, rwnd, out, inn, tieMine, tieYours, X, Y⟩) 25) = w1 at *
    have x0 : w1.cell? ⟨w.heap.size, 0, none⟩ = some (.int .i64 made) := N.cell 0
    have x1 : w1.cell? ⟨w.heap.size, 1, none⟩ = some (.int .u32 mine) := N.cell 1
    have x2 : w1.cell? ⟨w.heap.size, 2, none⟩ = some (.int .u32 yours) := N.cell 2
    have x3 : w1.cell? ⟨w.heap.size, 3, none⟩ = some (.int .u32 myTsn) := N.cell 3
    have x4 : w1.cell? ⟨w.heap.size, 4, none⟩ = some (.int .u32 yourTsn) := N.cell 4
    have x5 : w1.cell? ⟨w.heap.size, 5, none⟩ = some (.int .u32 peer) := N.cell 5
    have x6 : w1.cell? ⟨w.heap.size, 6, none⟩ = some (.int .u32 loc) := N.cell 6
    have x7 : w1.cell? ⟨w.heap.size, 7, none⟩ = some (.int .i64 peerPort) := N.cell 7
    have x8 : w1.cell? ⟨w.heap.size, 8, none⟩ = some (.int .i64 myPort) := N.cell 8
    have x9 : w1.cell? ⟨w.heap.size, 9, none⟩ = some (.int .u32 rwnd) := N.cell 9
    have x10 : w1.cell? ⟨w.heap.size, 10, none⟩ = some (.int .i64 out) := N.cell 10
    have x11 : w1.cell? ⟨w.heap.size, 11, none⟩ = some (.int .i64 inn) := N.cell 11
    have x12 : w1.cell? ⟨w.heap.size, 12, none⟩ = some (.int .u32 tieMine) := N.cell 12
    have x13 : w1.cell? ⟨w.heap.size, 13, none⟩ = some (.int .u32 tieYours) := N.cell 13
    have x14 : w1.cell? ⟨w.heap.size, 14, none⟩ = some (.string X) := N.cell 14
    have x15 : w1.cell? ⟨w.heap.size, 15, none⟩ = some (.string Y) := N.cell 15
    clear N
    go_wp2_with fail
    refine (i4 _).mono ?_
    rintro e w1 ⟨rfl, rfl⟩
    go_wp2_with fail
    refine (i5 _).mono ?_
    rintro e w1 ⟨rfl, rfl⟩
    go_wp2_with fail
    refine (i6 _).mono ?_
    rintro e w1 ⟨rfl, rfl⟩
    go_wp2_with fail
    refine (i7 _).mono ?_
    rintro e w1 ⟨rfl, rfl⟩
    go_wp2_with fail
    go_ret
    exact ⟨rfl, bel⟩
set_option maxHeartbeats 4000000 in
theorem rmay_any (c : Ck) (w : World) : Calls Tryd.prog 16 #[.agg c.cells] w fun e w' => e = .returned (.bool (decide c.may)) ∧ Below w.heap.size w w' := by
  have hc := may_cases c
  obtain ⟨made, mine, yours, myTsn, yourTsn, peer, loc, peerPort, myPort, rwnd, out, inn, tieMine, tieYours, X, Y⟩ := c
  rcases hc with h | h | h | h | h | h | h | h | h | h
  · rw [decide_eq_true h]
    obtain ⟨a1, a2, a3, a4, a5, a6, a7, a8, a9⟩ := h
    simp only at a1 a2 a3 a4 a5 a6 a7 a8 a9
    have d1 : decide (0 ≤ made) = true := decide_eq_true (by omega)
    have d2 : (mine != 0) = true := by simpa using a2
    have d3 : (yours != 0) = true := by simpa using a3
    have i4 := fun w => word_any peerPort w
    rw [decide_eq_true a4] at i4
    have i5 := fun w => word_any myPort w
    rw [decide_eq_true a5] at i5
    have i6 := fun w => word_any out w
    rw [decide_eq_true a6] at i6
    have i7 := fun w => word_any inn w
    rw [decide_eq_true a7] at i7
    have d8 : ((X.size : Int) == 16) = true := by rw [beq_iff_eq]; omega
    have d9 : ((Y.size : Int) == 16) = true := by rw [beq_iff_eq]; omega
    have bel := (Below.refl w.heap.size w).alloc (Nat.le_refl _) (.cells (Ck.cells ⟨made, mine, yours, myTsn, yourTsn, peer, loc, peerPort, myPort, rwnd, out, inn, tieMine, tieYours, X, Y⟩) 25)
    have N := Blk.new w 25 (Ck.cells ⟨made, mine, yours, myTsn, yourTsn, peer, loc, peerPort, myPort, rwnd, out, inn, tieMine, tieYours, X, Y⟩)
    clear a1 a2 a3 a4 a5 a6 a7 a8 a9
    go_enter Tryd.func16, Tryd.ntmps16
    go_upto_region 1 with (fail)
    generalize w.alloc (.cells (Ck.cells ⟨made, mine, yours, myTsn, yourTsn, peer, loc, peerPort, myPort, rwnd, out, inn, tieMine, tieYours, X, Y⟩) 25) = w1 at *
    have x0 : w1.cell? ⟨w.heap.size, 0, none⟩ = some (.int .i64 made) := N.cell 0
    have x1 : w1.cell? ⟨w.heap.size, 1, none⟩ = some (.int .u32 mine) := N.cell 1
    have x2 : w1.cell? ⟨w.heap.size, 2, none⟩ = some (.int .u32 yours) := N.cell 2
    have x3 : w1.cell? ⟨w.heap.size, 3, none⟩ = some (.int .u32 myTsn) := N.cell 3
    have x4 : w1.cell? ⟨w.heap.size, 4, none⟩ = some (.int .u32 yourTsn) := N.cell 4
    have x5 : w1.cell? ⟨w.heap.size, 5, none⟩ = some (.int .u32 peer) := N.cell 5
    have x6 : w1.cell? ⟨w.heap.size, 6, none⟩ = some (.int .u32 loc) := N.cell 6
    have x7 : w1.cell? ⟨w.heap.size, 7, none⟩ = some (.int .i64 peerPort) := N.cell 7
    have x8 : w1.cell? ⟨w.heap.size, 8, none⟩ = some (.int .i64 myPort) := N.cell 8
    have x9 : w1.cell? ⟨w.heap.size, 9, none⟩ = some (.int .u32 rwnd) := N.cell 9
    have x10 : w1.cell? ⟨w.heap.size, 10, none⟩ = some (.int .i64 out) := N.cell 10
    have x11 : w1.cell? ⟨w.heap.size, 11, none⟩ = some (.int .i64 inn) := N.cell 11
    have x12 : w1.cell? ⟨w.heap.size, 12, none⟩ = some (.int .u32 tieMine) := N.cell 12
    have x13 : w1.cell? ⟨w.heap.size, 13, none⟩ = some (.int .u32 tieYours) := N.cell 13
    have x14 : w1.cell? ⟨w.heap.size, 14, none⟩ = some (.string X) := N.cell 14
    have x15 : w1.cell? ⟨w.heap.size, 15, none⟩ = some (.string Y) := N.cell 15
    clear N
    go_wp2_with fail
    refine (i4 _).mono ?_
    rintro e w1 ⟨rfl, rfl⟩
    go_wp2_with fail
    refine (i5 _).mono ?_
    rintro e w1 ⟨rfl, rfl⟩
    go_wp2_with fail
    refine (i6 _).mono ?_
    rintro e w1 ⟨rfl, rfl⟩
    go_wp2_with fail
    refine (i7 _).mono ?_
    rintro e w1 ⟨rfl, rfl⟩
    go_wp2_with fail
    go_ret
    exact ⟨rfl, bel⟩
  · rw [show decide (Ck.may ⟨made, mine, yours, myTsn, yourTsn, peer, loc, peerPort, myPort, rwnd, out, inn, tieMine, tieYours, X, Y⟩) = false from decide_eq_false (by unfold Ck.may; rintro ⟨q1, q2, q3, q4, q5, q6, q7, q8, q9⟩; simp only at *; first | omega | exact absurd q1 h)]
    have a1 := h
    simp only at a1
    have d1 : decide (0 ≤ made) = false := decide_eq_false (by omega)
    have bel := (Below.refl w.heap.size w).alloc (Nat.le_refl _) (.cells (Ck.cells ⟨made, mine, yours, myTsn, yourTsn, peer, loc, peerPort, myPort, rwnd, out, inn, tieMine, tieYours, X, Y⟩) 25)
    have N := Blk.new w 25 (Ck.cells ⟨made, mine, yours, myTsn, yourTsn, peer, loc, peerPort, myPort, rwnd, out, inn, tieMine, tieYours, X, Y⟩)
    clear a1
    go_enter Tryd.func16, Tryd.ntmps16
    go_upto_region 1 with (fail)
    generalize w.alloc (.cells (Ck.cells ⟨made, mine, yours, myTsn, yourTsn, peer, loc, peerPort, myPort, rwnd, out, inn, tieMine, tieYours, X, Y⟩) 25) = w1 at *
    have x0 : w1.cell? ⟨w.heap.size, 0, none⟩ = some (.int .i64 made) := N.cell 0
    have x1 : w1.cell? ⟨w.heap.size, 1, none⟩ = some (.int .u32 mine) := N.cell 1
    have x2 : w1.cell? ⟨w.heap.size, 2, none⟩ = some (.int .u32 yours) := N.cell 2
    have x3 : w1.cell? ⟨w.heap.size, 3, none⟩ = some (.int .u32 myTsn) := N.cell 3
    have x4 : w1.cell? ⟨w.heap.size, 4, none⟩ = some (.int .u32 yourTsn) := N.cell 4
    have x5 : w1.cell? ⟨w.heap.size, 5, none⟩ = some (.int .u32 peer) := N.cell 5
    have x6 : w1.cell? ⟨w.heap.size, 6, none⟩ = some (.int .u32 loc) := N.cell 6
    have x7 : w1.cell? ⟨w.heap.size, 7, none⟩ = some (.int .i64 peerPort) := N.cell 7
    have x8 : w1.cell? ⟨w.heap.size, 8, none⟩ = some (.int .i64 myPort) := N.cell 8
    have x9 : w1.cell? ⟨w.heap.size, 9, none⟩ = some (.int .u32 rwnd) := N.cell 9
    have x10 : w1.cell? ⟨w.heap.size, 10, none⟩ = some (.int .i64 out) := N.cell 10
    have x11 : w1.cell? ⟨w.heap.size, 11, none⟩ = some (.int .i64 inn) := N.cell 11
    have x12 : w1.cell? ⟨w.heap.size, 12, none⟩ = some (.int .u32 tieMine) := N.cell 12
    have x13 : w1.cell? ⟨w.heap.size, 13, none⟩ = some (.int .u32 tieYours) := N.cell 13
    have x14 : w1.cell? ⟨w.heap.size, 14, none⟩ = some (.string X) := N.cell 14
    have x15 : w1.cell? ⟨w.heap.size, 15, none⟩ = some (.string Y) := N.cell 15
    clear N
    go_wp2_with fail
    go_ret
    exact ⟨rfl, bel⟩
  · rw [show decide (Ck.may ⟨made, mine, yours, myTsn, yourTsn, peer, loc, peerPort, myPort, rwnd, out, inn, tieMine, tieYours, X, Y⟩) = false from decide_eq_false (by unfold Ck.may; rintro ⟨q1, q2, q3, q4, q5, q6, q7, q8, q9⟩; simp only at *; first | omega | exact absurd q2 h.2)]
    obtain ⟨a1, a2⟩ := h
    simp only at a1 a2
    have d1 : decide (0 ≤ made) = true := decide_eq_true (by omega)
    have d2 : (mine != 0) = false := by simpa using a2
    have bel := (Below.refl w.heap.size w).alloc (Nat.le_refl _) (.cells (Ck.cells ⟨made, mine, yours, myTsn, yourTsn, peer, loc, peerPort, myPort, rwnd, out, inn, tieMine, tieYours, X, Y⟩) 25)
    have N := Blk.new w 25 (Ck.cells ⟨made, mine, yours, myTsn, yourTsn, peer, loc, peerPort, myPort, rwnd, out, inn, tieMine, tieYours, X, Y⟩)
    clear a1 a2
    go_enter Tryd.func16, Tryd.ntmps16
    go_upto_region 1 with (fail)
    generalize w.alloc (.cells (Ck.cells ⟨made, mine, yours, myTsn, yourTsn, peer, loc, peerPort, myPort, rwnd, out, inn, tieMine, tieYours, X, Y⟩) 25) = w1 at *
    have x0 : w1.cell? ⟨w.heap.size, 0, none⟩ = some (.int .i64 made) := N.cell 0
    have x1 : w1.cell? ⟨w.heap.size, 1, none⟩ = some (.int .u32 mine) := N.cell 1
    have x2 : w1.cell? ⟨w.heap.size, 2, none⟩ = some (.int .u32 yours) := N.cell 2
    have x3 : w1.cell? ⟨w.heap.size, 3, none⟩ = some (.int .u32 myTsn) := N.cell 3
    have x4 : w1.cell? ⟨w.heap.size, 4, none⟩ = some (.int .u32 yourTsn) := N.cell 4
    have x5 : w1.cell? ⟨w.heap.size, 5, none⟩ = some (.int .u32 peer) := N.cell 5
    have x6 : w1.cell? ⟨w.heap.size, 6, none⟩ = some (.int .u32 loc) := N.cell 6
    have x7 : w1.cell? ⟨w.heap.size, 7, none⟩ = some (.int .i64 peerPort) := N.cell 7
    have x8 : w1.cell? ⟨w.heap.size, 8, none⟩ = some (.int .i64 myPort) := N.cell 8
    have x9 : w1.cell? ⟨w.heap.size, 9, none⟩ = some (.int .u32 rwnd) := N.cell 9
    have x10 : w1.cell? ⟨w.heap.size, 10, none⟩ = some (.int .i64 out) := N.cell 10
    have x11 : w1.cell? ⟨w.heap.size, 11, none⟩ = some (.int .i64 inn) := N.cell 11
    have x12 : w1.cell? ⟨w.heap.size, 12, none⟩ = some (.int .u32 tieMine) := N.cell 12
    have x13 : w1.cell? ⟨w.heap.size, 13, none⟩ = some (.int .u32 tieYours) := N.cell 13
    have x14 : w1.cell? ⟨w.heap.size, 14, none⟩ = some (.string X) := N.cell 14
    have x15 : w1.cell? ⟨w.heap.size, 15, none⟩ = some (.string Y) := N.cell 15
    clear N
    go_wp2_with fail
    go_ret
    exact ⟨rfl, bel⟩
  · rw [show decide (Ck.may ⟨made, mine, yours, myTsn, yourTsn, peer, loc, peerPort, myPort, rwnd, out, inn, tieMine, tieYours, X, Y⟩) = false from decide_eq_false (by unfold Ck.may; rintro ⟨q1, q2, q3, q4, q5, q6, q7, q8, q9⟩; simp only at *; first | omega | exact absurd q3 h.2.2)]
    obtain ⟨a1, a2, a3⟩ := h
    simp only at a1 a2 a3
    have d1 : decide (0 ≤ made) = true := decide_eq_true (by omega)
    have d2 : (mine != 0) = true := by simpa using a2
    have d3 : (yours != 0) = false := by simpa using a3
    have bel := (Below.refl w.heap.size w).alloc (Nat.le_refl _) (.cells (Ck.cells ⟨made, mine, yours, myTsn, yourTsn, peer, loc, peerPort, myPort, rwnd, out, inn, tieMine, tieYours, X, Y⟩) 25)
    have N := Blk.new w 25 (Ck.cells ⟨made, mine, yours, myTsn, yourTsn, peer, loc, peerPort, myPort, rwnd, out, inn, tieMine, tieYours, X, Y⟩)
    clear a1 a2 a3
    go_enter Tryd.func16, Tryd.ntmps16
    go_upto_region 1 with (fail)
    generalize w.alloc (.cells (Ck.cells ⟨made, mine, yours, myTsn, yourTsn, peer, loc, peerPort, myPort, rwnd, out, inn, tieMine, tieYours, X, Y⟩) 25) = w1 at *
    have x0 : w1.cell? ⟨w.heap.size, 0, none⟩ = some (.int .i64 made) := N.cell 0
    have x1 : w1.cell? ⟨w.heap.size, 1, none⟩ = some (.int .u32 mine) := N.cell 1
    have x2 : w1.cell? ⟨w.heap.size, 2, none⟩ = some (.int .u32 yours) := N.cell 2
    have x3 : w1.cell? ⟨w.heap.size, 3, none⟩ = some (.int .u32 myTsn) := N.cell 3
    have x4 : w1.cell? ⟨w.heap.size, 4, none⟩ = some (.int .u32 yourTsn) := N.cell 4
    have x5 : w1.cell? ⟨w.heap.size, 5, none⟩ = some (.int .u32 peer) := N.cell 5
    have x6 : w1.cell? ⟨w.heap.size, 6, none⟩ = some (.int .u32 loc) := N.cell 6
    have x7 : w1.cell? ⟨w.heap.size, 7, none⟩ = some (.int .i64 peerPort) := N.cell 7
    have x8 : w1.cell? ⟨w.heap.size, 8, none⟩ = some (.int .i64 myPort) := N.cell 8
    have x9 : w1.cell? ⟨w.heap.size, 9, none⟩ = some (.int .u32 rwnd) := N.cell 9
    have x10 : w1.cell? ⟨w.heap.size, 10, none⟩ = some (.int .i64 out) := N.cell 10
    have x11 : w1.cell? ⟨w.heap.size, 11, none⟩ = some (.int .i64 inn) := N.cell 11
    have x12 : w1.cell? ⟨w.heap.size, 12, none⟩ = some (.int .u32 tieMine) := N.cell 12
    have x13 : w1.cell? ⟨w.heap.size, 13, none⟩ = some (.int .u32 tieYours) := N.cell 13
    have x14 : w1.cell? ⟨w.heap.size, 14, none⟩ = some (.string X) := N.cell 14
    have x15 : w1.cell? ⟨w.heap.size, 15, none⟩ = some (.string Y) := N.cell 15
    clear N
    go_wp2_with fail
    go_ret
    exact ⟨rfl, bel⟩
  · rw [show decide (Ck.may ⟨made, mine, yours, myTsn, yourTsn, peer, loc, peerPort, myPort, rwnd, out, inn, tieMine, tieYours, X, Y⟩) = false from decide_eq_false (by unfold Ck.may; rintro ⟨q1, q2, q3, q4, q5, q6, q7, q8, q9⟩; simp only at *; first | omega | exact absurd q4 h.2.2.2)]
    obtain ⟨a1, a2, a3, a4⟩ := h
    simp only at a1 a2 a3 a4
    have d1 : decide (0 ≤ made) = true := decide_eq_true (by omega)
    have d2 : (mine != 0) = true := by simpa using a2
    have d3 : (yours != 0) = true := by simpa using a3
    have i4 := fun w => word_any peerPort w
    rw [decide_eq_false a4] at i4
    have bel := (Below.refl w.heap.size w).alloc (Nat.le_refl _) (.cells (Ck.cells ⟨made, mine, yours, myTsn, yourTsn, peer, loc, peerPort, myPort, rwnd, out, inn, tieMine, tieYours, X, Y⟩) 25)
    have N := Blk.new w 25 (Ck.cells ⟨made, mine, yours, myTsn, yourTsn, peer, loc, peerPort, myPort, rwnd, out, inn, tieMine, tieYours, X, Y⟩)
    clear a1 a2 a3 a4
    go_enter Tryd.func16, Tryd.ntmps16
    go_upto_region 1 with (fail)
    generalize w.alloc (.cells (Ck.cells ⟨made, mine, yours, myTsn, yourTsn, peer, loc, peerPort, myPort, rwnd, out, inn, tieMine, tieYours, X, Y⟩) 25) = w1 at *
    have x0 : w1.cell? ⟨w.heap.size, 0, none⟩ = some (.int .i64 made) := N.cell 0
    have x1 : w1.cell? ⟨w.heap.size, 1, none⟩ = some (.int .u32 mine) := N.cell 1
    have x2 : w1.cell? ⟨w.heap.size, 2, none⟩ = some (.int .u32 yours) := N.cell 2
    have x3 : w1.cell? ⟨w.heap.size, 3, none⟩ = some (.int .u32 myTsn) := N.cell 3
    have x4 : w1.cell? ⟨w.heap.size, 4, none⟩ = some (.int .u32 yourTsn) := N.cell 4
    have x5 : w1.cell? ⟨w.heap.size, 5, none⟩ = some (.int .u32 peer) := N.cell 5
    have x6 : w1.cell? ⟨w.heap.size, 6, none⟩ = some (.int .u32 loc) := N.cell 6
    have x7 : w1.cell? ⟨w.heap.size, 7, none⟩ = some (.int .i64 peerPort) := N.cell 7
    have x8 : w1.cell? ⟨w.heap.size, 8, none⟩ = some (.int .i64 myPort) := N.cell 8
    have x9 : w1.cell? ⟨w.heap.size, 9, none⟩ = some (.int .u32 rwnd) := N.cell 9
    have x10 : w1.cell? ⟨w.heap.size, 10, none⟩ = some (.int .i64 out) := N.cell 10
    have x11 : w1.cell? ⟨w.heap.size, 11, none⟩ = some (.int .i64 inn) := N.cell 11
    have x12 : w1.cell? ⟨w.heap.size, 12, none⟩ = some (.int .u32 tieMine) := N.cell 12
    have x13 : w1.cell? ⟨w.heap.size, 13, none⟩ = some (.int .u32 tieYours) := N.cell 13
    have x14 : w1.cell? ⟨w.heap.size, 14, none⟩ = some (.string X) := N.cell 14
    have x15 : w1.cell? ⟨w.heap.size, 15, none⟩ = some (.string Y) := N.cell 15
    clear N
    go_wp2_with fail
    refine (i4 _).mono ?_
    rintro e w1 ⟨rfl, rfl⟩
    go_wp2_with fail
    go_ret
    exact ⟨rfl, bel⟩
  · rw [show decide (Ck.may ⟨made, mine, yours, myTsn, yourTsn, peer, loc, peerPort, myPort, rwnd, out, inn, tieMine, tieYours, X, Y⟩) = false from decide_eq_false (by unfold Ck.may; rintro ⟨q1, q2, q3, q4, q5, q6, q7, q8, q9⟩; simp only at *; first | omega | exact absurd q5 h.2.2.2.2)]
    obtain ⟨a1, a2, a3, a4, a5⟩ := h
    simp only at a1 a2 a3 a4 a5
    have d1 : decide (0 ≤ made) = true := decide_eq_true (by omega)
    have d2 : (mine != 0) = true := by simpa using a2
    have d3 : (yours != 0) = true := by simpa using a3
    have i4 := fun w => word_any peerPort w
    rw [decide_eq_true a4] at i4
    have i5 := fun w => word_any myPort w
    rw [decide_eq_false a5] at i5
    have bel := (Below.refl w.heap.size w).alloc (Nat.le_refl _) (.cells (Ck.cells ⟨made, mine, yours, myTsn, yourTsn, peer, loc, peerPort, myPort, rwnd, out, inn, tieMine, tieYours, X, Y⟩) 25)
    have N := Blk.new w 25 (Ck.cells ⟨made, mine, yours, myTsn, yourTsn, peer, loc, peerPort, myPort, rwnd, out, inn, tieMine, tieYours, X, Y⟩)
    clear a1 a2 a3 a4 a5
    go_enter Tryd.func16, Tryd.ntmps16
    go_upto_region 1 with (fail)
    generalize w.alloc (.cells (Ck.cells ⟨made, mine, yours, myTsn, yourTsn, peer, loc, peerPort, myPort, rwnd, out, inn, tieMine, tieYours, X, Y⟩) 25) = w1 at *
    have x0 : w1.cell? ⟨w.heap.size, 0, none⟩ = some (.int .i64 made) := N.cell 0
    have x1 : w1.cell? ⟨w.heap.size, 1, none⟩ = some (.int .u32 mine) := N.cell 1
    have x2 : w1.cell? ⟨w.heap.size, 2, none⟩ = some (.int .u32 yours) := N.cell 2
    have x3 : w1.cell? ⟨w.heap.size, 3, none⟩ = some (.int .u32 myTsn) := N.cell 3
    have x4 : w1.cell? ⟨w.heap.size, 4, none⟩ = some (.int .u32 yourTsn) := N.cell 4
    have x5 : w1.cell? ⟨w.heap.size, 5, none⟩ = some (.int .u32 peer) := N.cell 5
    have x6 : w1.cell? ⟨w.heap.size, 6, none⟩ = some (.int .u32 loc) := N.cell 6
    have x7 : w1.cell? ⟨w.heap.size, 7, none⟩ = some (.int .i64 peerPort) := N.cell 7
    have x8 : w1.cell? ⟨w.heap.size, 8, none⟩ = some (.int .i64 myPort) := N.cell 8
    have x9 : w1.cell? ⟨w.heap.size, 9, none⟩ = some (.int .u32 rwnd) := N.cell 9
    have x10 : w1.cell? ⟨w.heap.size, 10, none⟩ = some (.int .i64 out) := N.cell 10
    have x11 : w1.cell? ⟨w.heap.size, 11, none⟩ = some (.int .i64 inn) := N.cell 11
    have x12 : w1.cell? ⟨w.heap.size, 12, none⟩ = some (.int .u32 tieMine) := N.cell 12
    have x13 : w1.cell? ⟨w.heap.size, 13, none⟩ = some (.int .u32 tieYours) := N.cell 13
    have x14 : w1.cell? ⟨w.heap.size, 14, none⟩ = some (.string X) := N.cell 14
    have x15 : w1.cell? ⟨w.heap.size, 15, none⟩ = some (.string Y) := N.cell 15
    clear N
    go_wp2_with fail
    refine (i4 _).mono ?_
    rintro e w1 ⟨rfl, rfl⟩
    go_wp2_with fail
    refine (i5 _).mono ?_
    rintro e w1 ⟨rfl, rfl⟩
    go_wp2_with fail
    go_ret
    exact ⟨rfl, bel⟩
  · rw [show decide (Ck.may ⟨made, mine, yours, myTsn, yourTsn, peer, loc, peerPort, myPort, rwnd, out, inn, tieMine, tieYours, X, Y⟩) = false from decide_eq_false (by unfold Ck.may; rintro ⟨q1, q2, q3, q4, q5, q6, q7, q8, q9⟩; simp only at *; first | omega | exact absurd q6 h.2.2.2.2.2)]
    obtain ⟨a1, a2, a3, a4, a5, a6⟩ := h
    simp only at a1 a2 a3 a4 a5 a6
    have d1 : decide (0 ≤ made) = true := decide_eq_true (by omega)
    have d2 : (mine != 0) = true := by simpa using a2
    have d3 : (yours != 0) = true := by simpa using a3
    have i4 := fun w => word_any peerPort w
    rw [decide_eq_true a4] at i4
    have i5 := fun w => word_any myPort w
    rw [decide_eq_true a5] at i5
    have i6 := fun w => word_any out w
    rw [decide_eq_false a6] at i6
    have bel := (Below.refl w.heap.size w).alloc (Nat.le_refl _) (.cells (Ck.cells ⟨made, mine, yours, myTsn, yourTsn, peer, loc, peerPort, myPort, rwnd, out, inn, tieMine, tieYours, X, Y⟩) 25)
    have N := Blk.new w 25 (Ck.cells ⟨made, mine, yours, myTsn, yourTsn, peer, loc, peerPort, myPort, rwnd, out, inn, tieMine, tieYours, X, Y⟩)
    clear a1 a2 a3 a4 a5 a6
    go_enter Tryd.func16, Tryd.ntmps16
    go_upto_region 1 with (fail)
    generalize w.alloc (.cells (Ck.cells ⟨made, mine, yours, myTsn, yourTsn, peer, loc, peerPort, myPort, rwnd, out, inn, tieMine, tieYours, X, Y⟩) 25) = w1 at *
    have x0 : w1.cell? ⟨w.heap.size, 0, none⟩ = some (.int .i64 made) := N.cell 0
    have x1 : w1.cell? ⟨w.heap.size, 1, none⟩ = some (.int .u32 mine) := N.cell 1
    have x2 : w1.cell? ⟨w.heap.size, 2, none⟩ = some (.int .u32 yours) := N.cell 2
    have x3 : w1.cell? ⟨w.heap.size, 3, none⟩ = some (.int .u32 myTsn) := N.cell 3
    have x4 : w1.cell? ⟨w.heap.size, 4, none⟩ = some (.int .u32 yourTsn) := N.cell 4
    have x5 : w1.cell? ⟨w.heap.size, 5, none⟩ = some (.int .u32 peer) := N.cell 5
    have x6 : w1.cell? ⟨w.heap.size, 6, none⟩ = some (.int .u32 loc) := N.cell 6
    have x7 : w1.cell? ⟨w.heap.size, 7, none⟩ = some (.int .i64 peerPort) := N.cell 7
    have x8 : w1.cell? ⟨w.heap.size, 8, none⟩ = some (.int .i64 myPort) := N.cell 8
    have x9 : w1.cell? ⟨w.heap.size, 9, none⟩ = some (.int .u32 rwnd) := N.cell 9
    have x10 : w1.cell? ⟨w.heap.size, 10, none⟩ = some (.int .i64 out) := N.cell 10
    have x11 : w1.cell? ⟨w.heap.size, 11, none⟩ = some (.int .i64 inn) := N.cell 11
    have x12 : w1.cell? ⟨w.heap.size, 12, none⟩ = some (.int .u32 tieMine) := N.cell 12
    have x13 : w1.cell? ⟨w.heap.size, 13, none⟩ = some (.int .u32 tieYours) := N.cell 13
    have x14 : w1.cell? ⟨w.heap.size, 14, none⟩ = some (.string X) := N.cell 14
    have x15 : w1.cell? ⟨w.heap.size, 15, none⟩ = some (.string Y) := N.cell 15
    clear N
    go_wp2_with fail
    refine (i4 _).mono ?_
    rintro e w1 ⟨rfl, rfl⟩
    go_wp2_with fail
    refine (i5 _).mono ?_
    rintro e w1 ⟨rfl, rfl⟩
    go_wp2_with fail
    refine (i6 _).mono ?_
    rintro e w1 ⟨rfl, rfl⟩
    go_wp2_with fail
    go_ret
    exact ⟨rfl, bel⟩
  · rw [show decide (Ck.may ⟨made, mine, yours, myTsn, yourTsn, peer, loc, peerPort, myPort, rwnd, out, inn, tieMine, tieYours, X, Y⟩) = false from decide_eq_false (by unfold Ck.may; rintro ⟨q1, q2, q3, q4, q5, q6, q7, q8, q9⟩; simp only at *; first | omega | exact absurd q7 h.2.2.2.2.2.2)]
    obtain ⟨a1, a2, a3, a4, a5, a6, a7⟩ := h
    simp only at a1 a2 a3 a4 a5 a6 a7
    have d1 : decide (0 ≤ made) = true := decide_eq_true (by omega)
    have d2 : (mine != 0) = true := by simpa using a2
    have d3 : (yours != 0) = true := by simpa using a3
    have i4 := fun w => word_any peerPort w
    rw [decide_eq_true a4] at i4
    have i5 := fun w => word_any myPort w
    rw [decide_eq_true a5] at i5
    have i6 := fun w => word_any out w
    rw [decide_eq_true a6] at i6
    have i7 := fun w => word_any inn w
    rw [decide_eq_false a7] at i7
    have bel := (Below.refl w.heap.size w).alloc (Nat.le_refl _) (.cells (Ck.cells ⟨made, mine, yours, myTsn, yourTsn, peer, loc, peerPort, myPort, rwnd, out, inn, tieMine, tieYours, X, Y⟩) 25)
    have N := Blk.new w 25 (Ck.cells ⟨made, mine, yours, myTsn, yourTsn, peer, loc, peerPort, myPort, rwnd, out, inn, tieMine, tieYours, X, Y⟩)
    clear a1 a2 a3 a4 a5 a6 a7
    go_enter Tryd.func16, Tryd.ntmps16
    go_upto_region 1 with (fail)
    generalize w.alloc (.cells (Ck.cells ⟨made, mine, yours, myTsn, yourTsn, peer, loc, peerPort, myPort, rwnd, out, inn, tieMine, tieYours, X, Y⟩) 25) = w1 at *
    have x0 : w1.cell? ⟨w.heap.size, 0, none⟩ = some (.int .i64 made) := N.cell 0
    have x1 : w1.cell? ⟨w.heap.size, 1, none⟩ = some (.int .u32 mine) := N.cell 1
    have x2 : w1.cell? ⟨w.heap.size, 2, none⟩ = some (.int .u32 yours) := N.cell 2
    have x3 : w1.cell? ⟨w.heap.size, 3, none⟩ = some (.int .u32 myTsn) := N.cell 3
    have x4 : w1.cell? ⟨w.heap.size, 4, none⟩ = some (.int .u32 yourTsn) := N.cell 4
    have x5 : w1.cell? ⟨w.heap.size, 5, none⟩ = some (.int .u32 peer) := N.cell 5
    have x6 : w1.cell? ⟨w.heap.size, 6, none⟩ = some (.int .u32 loc) := N.cell 6
    have x7 : w1.cell? ⟨w.heap.size, 7, none⟩ = some (.int .i64 peerPort) := N.cell 7
    have x8 : w1.cell? ⟨w.heap.size, 8, none⟩ = some (.int .i64 myPort) := N.cell 8
    have x9 : w1.cell? ⟨w.heap.size, 9, none⟩ = some (.int .u32 rwnd) := N.cell 9
    have x10 : w1.cell? ⟨w.heap.size, 10, none⟩ = some (.int .i64 out) := N.cell 10
    have x11 : w1.cell? ⟨w.heap.size, 11, none⟩ = some (.int .i64 inn) := N.cell 11
    have x12 : w1.cell? ⟨w.heap.size, 12, none⟩ = some (.int .u32 tieMine) := N.cell 12
    have x13 : w1.cell? ⟨w.heap.size, 13, none⟩ = some (.int .u32 tieYours) := N.cell 13
    have x14 : w1.cell? ⟨w.heap.size, 14, none⟩ = some (.string X) := N.cell 14
    have x15 : w1.cell? ⟨w.heap.size, 15, none⟩ = some (.string Y) := N.cell 15
    clear N
    go_wp2_with fail
    refine (i4 _).mono ?_
    rintro e w1 ⟨rfl, rfl⟩
    go_wp2_with fail
    refine (i5 _).mono ?_
    rintro e w1 ⟨rfl, rfl⟩
    go_wp2_with fail
    refine (i6 _).mono ?_
    rintro e w1 ⟨rfl, rfl⟩
    go_wp2_with fail
    refine (i7 _).mono ?_
    rintro e w1 ⟨rfl, rfl⟩
    go_wp2_with fail
    go_ret
    exact ⟨rfl, bel⟩
  · rw [show decide (Ck.may ⟨made, mine, yours, myTsn, yourTsn, peer, loc, peerPort, myPort, rwnd, out, inn, tieMine, tieYours, X, Y⟩) = false from decide_eq_false (by unfold Ck.may; rintro ⟨q1, q2, q3, q4, q5, q6, q7, q8, q9⟩; simp only at *; first | omega | exact absurd q8 h.2.2.2.2.2.2.2)]
    obtain ⟨a1, a2, a3, a4, a5, a6, a7, a8⟩ := h
    simp only at a1 a2 a3 a4 a5 a6 a7 a8
    have d1 : decide (0 ≤ made) = true := decide_eq_true (by omega)
    have d2 : (mine != 0) = true := by simpa using a2
    have d3 : (yours != 0) = true := by simpa using a3
    have i4 := fun w => word_any peerPort w
    rw [decide_eq_true a4] at i4
    have i5 := fun w => word_any myPort w
    rw [decide_eq_true a5] at i5
    have i6 := fun w => word_any out w
    rw [decide_eq_true a6] at i6
    have i7 := fun w => word_any inn w
    rw [decide_eq_true a7] at i7
    have d8 : ((X.size : Int) == 16) = false := by rw [beq_eq_false_iff_ne, ne_eq]; omega
    have bel := (Below.refl w.heap.size w).alloc (Nat.le_refl _) (.cells (Ck.cells ⟨made, mine, yours, myTsn, yourTsn, peer, loc, peerPort, myPort, rwnd, out, inn, tieMine, tieYours, X, Y⟩) 25)
    have N := Blk.new w 25 (Ck.cells ⟨made, mine, yours, myTsn, yourTsn, peer, loc, peerPort, myPort, rwnd, out, inn, tieMine, tieYours, X, Y⟩)
    clear a1 a2 a3 a4 a5 a6 a7 a8
    go_enter Tryd.func16, Tryd.ntmps16
    go_upto_region 1 with (fail)
    generalize w.alloc (.cells (Ck.cells ⟨made, mine, yours, myTsn, yourTsn, peer, loc, peerPort, myPort, rwnd, out, inn, tieMine, tieYours, X, Y⟩) 25) = w1 at *
    have x0 : w1.cell? ⟨w.heap.size, 0, none⟩ = some (.int .i64 made) := N.cell 0
    have x1 : w1.cell? ⟨w.heap.size, 1, none⟩ = some (.int .u32 mine) := N.cell 1
    have x2 : w1.cell? ⟨w.heap.size, 2, none⟩ = some (.int .u32 yours) := N.cell 2
    have x3 : w1.cell? ⟨w.heap.size, 3, none⟩ = some (.int .u32 myTsn) := N.cell 3
    have x4 : w1.cell? ⟨w.heap.size, 4, none⟩ = some (.int .u32 yourTsn) := N.cell 4
    have x5 : w1.cell? ⟨w.heap.size, 5, none⟩ = some (.int .u32 peer) := N.cell 5
    have x6 : w1.cell? ⟨w.heap.size, 6, none⟩ = some (.int .u32 loc) := N.cell 6
    have x7 : w1.cell? ⟨w.heap.size, 7, none⟩ = some (.int .i64 peerPort) := N.cell 7
    have x8 : w1.cell? ⟨w.heap.size, 8, none⟩ = some (.int .i64 myPort) := N.cell 8
    have x9 : w1.cell? ⟨w.heap.size, 9, none⟩ = some (.int .u32 rwnd) := N.cell 9
    have x10 : w1.cell? ⟨w.heap.size, 10, none⟩ = some (.int .i64 out) := N.cell 10
    have x11 : w1.cell? ⟨w.heap.size, 11, none⟩ = some (.int .i64 inn) := N.cell 11
    have x12 : w1.cell? ⟨w.heap.size, 12, none⟩ = some (.int .u32 tieMine) := N.cell 12
    have x13 : w1.cell? ⟨w.heap.size, 13, none⟩ = some (.int .u32 tieYours) := N.cell 13
    have x14 : w1.cell? ⟨w.heap.size, 14, none⟩ = some (.string X) := N.cell 14
    have x15 : w1.cell? ⟨w.heap.size, 15, none⟩ = some (.string Y) := N.cell 15
    clear N
    go_wp2_with fail
    refine (i4 _).mono ?_
    rintro e w1 ⟨rfl, rfl⟩
    go_wp2_with fail
    refine (i5 _).mono ?_
    rintro e w1 ⟨rfl, rfl⟩
    go_wp2_with fail
    refine (i6 _).mono ?_
    rintro e w1 ⟨rfl, rfl⟩
    go_wp2_with fail
    refine (i7 _).mono ?_
    rintro e w1 ⟨rfl, rfl⟩
    go_wp2_with fail
    go_ret
    exact ⟨rfl, bel⟩
  · rw [show decide (Ck.may ⟨made, mine, yours, myTsn, yourTsn, peer, loc, peerPort, myPort, rwnd, out, inn, tieMine, tieYours, X, Y⟩) = false from decide_eq_false (by unfold Ck.may; rintro ⟨q1, q2, q3, q4, q5, q6, q7, q8, q9⟩; simp only at *; first | omega | exact absurd q9 h.2.2.2.2.2.2.2.2)]
    obtain ⟨a1, a2, a3, a4, a5, a6, a7, a8, a9⟩ := h
    simp only at a1 a2 a3 a4 a5 a6 a7 a8 a9
    have d1 : decide (0 ≤ made) = true := decide_eq_true (by omega)
    have d2 : (mine != 0) = true := by simpa using a2
    have d3 : (yours != 0) = true := by simpa using a3
    have i4 := fun w => word_any peerPort w
    rw [decide_eq_true a4] at i4
    have i5 := fun w => word_any myPort w
    rw [decide_eq_true a5] at i5
    have i6 := fun w => word_any out w
    rw [decide_eq_true a6] at i6
    have i7 := fun w => word_any inn w
    rw [decide_eq_true a7] at i7
    have d8 : ((X.size : Int) == 16) = true := by rw [beq_iff_eq]; omega
    have d9 : ((Y.size : Int) == 16) = false := by rw [beq_eq_false_iff_ne, ne_eq]; omega
    have bel := (Below.refl w.heap.size w).alloc (Nat.le_refl _) (.cells (Ck.cells ⟨made, mine, yours, myTsn, yourTsn, peer, loc, peerPort, myPort, rwnd, out, inn, tieMine, tieYours, X, Y⟩) 25)
    have N := Blk.new w 25 (Ck.cells ⟨made, mine, yours, myTsn, yourTsn, peer, loc, peerPort, myPort, rwnd, out, inn, tieMine, tieYours, X, Y⟩)
    clear a1 a2 a3 a4 a5 a6 a7 a8 a9
    go_enter Tryd.func16, Tryd.ntmps16
    go_upto_region 1 with (fail)
    generalize w.alloc (.cells (Ck.cells ⟨made, mine, yours, myTsn, yourTsn, peer, loc, peerPort, myPort, rwnd, out, inn, tieMine, tieYours, X, Y⟩) 25) = w1 at *
    have x0 : w1.cell? ⟨w.heap.size, 0, none⟩ = some (.int .i64 made) := N.cell 0
    have x1 : w1.cell? ⟨w.heap.size, 1, none⟩ = some (.int .u32 mine) := N.cell 1
    have x2 : w1.cell? ⟨w.heap.size, 2, none⟩ = some (.int .u32 yours) := N.cell 2
    have x3 : w1.cell? ⟨w.heap.size, 3, none⟩ = some (.int .u32 myTsn) := N.cell 3
    have x4 : w1.cell? ⟨w.heap.size, 4, none⟩ = some (.int .u32 yourTsn) := N.cell 4
    have x5 : w1.cell? ⟨w.heap.size, 5, none⟩ = some (.int .u32 peer) := N.cell 5
    have x6 : w1.cell? ⟨w.heap.size, 6, none⟩ = some (.int .u32 loc) := N.cell 6
    have x7 : w1.cell? ⟨w.heap.size, 7, none⟩ = some (.int .i64 peerPort) := N.cell 7
    have x8 : w1.cell? ⟨w.heap.size, 8, none⟩ = some (.int .i64 myPort) := N.cell 8
    have x9 : w1.cell? ⟨w.heap.size, 9, none⟩ = some (.int .u32 rwnd) := N.cell 9
    have x10 : w1.cell? ⟨w.heap.size, 10, none⟩ = some (.int .i64 out) := N.cell 10
    have x11 : w1.cell? ⟨w.heap.size, 11, none⟩ = some (.int .i64 inn) := N.cell 11
    have x12 : w1.cell? ⟨w.heap.size, 12, none⟩ = some (.int .u32 tieMine) := N.cell 12
    have x13 : w1.cell? ⟨w.heap.size, 13, none⟩ = some (.int .u32 tieYours) := N.cell 13
    have x14 : w1.cell? ⟨w.heap.size, 14, none⟩ = some (.string X) := N.cell 14
    have x15 : w1.cell? ⟨w.heap.size, 15, none⟩ = some (.string Y) := N.cell 15
    clear N
    go_wp2_with fail
    refine (i4 _).mono ?_
    rintro e w1 ⟨rfl, rfl⟩
    go_wp2_with fail
    refine (i5 _).mono ?_
    rintro e w1 ⟨rfl, rfl⟩
    go_wp2_with fail
    refine (i6 _).mono ?_
    rintro e w1 ⟨rfl, rfl⟩
    go_wp2_with fail
    refine (i7 _).mono ?_
    rintro e w1 ⟨rfl, rfl⟩
    go_wp2_with fail
    go_ret
    exact ⟨rfl, bel⟩
end Go.Proofs.YtbdbcjhahlofiaaDoor.coo
