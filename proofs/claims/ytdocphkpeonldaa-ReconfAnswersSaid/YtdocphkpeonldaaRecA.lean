/- Layer 28: what a parameter says, of any parameter. -/
import Derived.Test.YtdocphkpeonldaaPar
import Derived.Test.YtdocphkpeonldaaReadB
import Derived.Test.YtdocphkpeonldaaNum
import Derived.Test.YtdocphkpeonldaaKitD
namespace Go.Proofs.Ytdocphkpeonldaa.rec_
open Go.ChangeShapes Go.WideShapes Go.ChangeAt Go.RowKit kit oct
set_option maxRecDepth 100000

theorem rd_in {l : ByteArray} {e : Int} {k : Nat} (h : k ≤ l.size) : rdL l e k = l.extract k l.size ∧ rdE l e k = e := by
  unfold rdL rdE; rw [if_pos h, if_pos h]; exact ⟨rfl, rfl⟩
theorem rd_out {l : ByteArray} {k : Nat} (h : l.size < k) : rdL l 0 k = ByteArray.empty ∧ rdE l 0 k = 2 := by
  have hn : ¬ k ≤ l.size := by omega
  unfold rdL rdE failL failE; simp [hn]
theorem rd_bad {k : Nat} (h : 0 < k) : rdL ByteArray.empty 2 k = ByteArray.empty ∧ rdE ByteArray.empty 2 k = 2 := by
  have : ¬ k ≤ ByteArray.empty.size := by show ¬ k ≤ 0; omega
  unfold rdL rdE failL failE; simp [this]
/-- Where the end is: after a four, and two twos. -/
def l3 (s : ByteArray) : ByteArray := rdL (rdL (rdL s 0 4) (rdE s 0 4) 2) (rdE (rdL s 0 4) (rdE s 0 4) 2) 2
def e3 (s : ByteArray) : Int := rdE (rdL (rdL s 0 4) (rdE s 0 4) 2) (rdE (rdL s 0 4) (rdE s 0 4) 2) 2
def l2 (s : ByteArray) : ByteArray := rdL (rdL s 0 4) (rdE s 0 4) 4
def e2 (s : ByteArray) : Int := rdE (rdL s 0 4) (rdE s 0 4) 4
theorem ext_sz (s : ByteArray) (k : Nat) : (s.extract k s.size).size = s.size - k := by rw [ByteArray.size_extract]; omega
theorem end3 (s : ByteArray) : endE (l3 s) (e3 s) = 0 ↔ s.size = 8 := by
  unfold l3 e3
  by_cases a : 4 ≤ s.size
  · rw [(rd_in a).1, (rd_in a).2]
    have z1 := ext_sz s 4
    generalize s.extract 4 s.size = s1 at *
    by_cases b : 2 ≤ s1.size
    · rw [(rd_in b).1, (rd_in b).2]
      have z2 := ext_sz s1 2
      generalize s1.extract 2 s1.size = s2 at *
      by_cases c : 2 ≤ s2.size
      · rw [(rd_in c).1, (rd_in c).2]
        have z3 := ext_sz s2 2
        generalize s2.extract 2 s2.size = s3 at *
        unfold endE
        split <;> omega
      · rw [(rd_out (by omega)).1, (rd_out (by omega)).2]
        exact ⟨fun h => (by cases h), fun h => (by omega)⟩
    · rw [(rd_out (by omega)).1, (rd_out (by omega)).2, (rd_bad (by omega)).1, (rd_bad (by omega)).2]
      exact ⟨fun h => (by cases h), fun h => (by omega)⟩
  · rw [(rd_out (by omega)).1, (rd_out (by omega)).2, (rd_bad (by omega)).1, (rd_bad (by omega)).2, (rd_bad (by omega)).1, (rd_bad (by omega)).2]
    exact ⟨fun h => (by cases h), fun h => (by omega)⟩
theorem end2 (s : ByteArray) : endE (l2 s) (e2 s) = 0 ↔ s.size = 8 := by
  unfold l2 e2
  by_cases a : 4 ≤ s.size
  · rw [(rd_in a).1, (rd_in a).2]
    have z1 := ext_sz s 4
    generalize s.extract 4 s.size = s1 at *
    by_cases b : 4 ≤ s1.size
    · rw [(rd_in b).1, (rd_in b).2]
      have z2 := ext_sz s1 4
      generalize s1.extract 4 s1.size = s2 at *
      unfold endE
      split <;> omega
    · rw [(rd_out (by omega)).1, (rd_out (by omega)).2]
      exact ⟨fun h => (by cases h), fun h => (by omega)⟩
  · rw [(rd_out (by omega)).1, (rd_out (by omega)).2, (rd_bad (by omega)).1, (rd_bad (by omega)).2]
    exact ⟨fun h => (by cases h), fun h => (by omega)⟩
/-- The numbers that were read. -/
def n1 (s : ByteArray) : Nat := rdN (rdL s 0 4) 2
def n2 (s : ByteArray) : Nat := rdN (rdL (rdL s 0 4) (rdE s 0 4) 2) 2
def n4 (s : ByteArray) : Nat := rdN (rdL s 0 4) 4
/-- Does it ask for more? -/
def isM (t : Int) (s : ByteArray) : Bool := decide (t = 17 ∧ s.size = 8 ∧ n1 s ≠ 0 ∧ n2 s = 0)
def isR (t : Int) (s : ByteArray) : Bool := decide (t = 16 ∧ s.size = 8 ∧ (n4 s = 1 ∨ n4 s = 2))
theorem rdL_le (l : ByteArray) (e : Int) (k : Nat) : (rdL l e k).size ≤ l.size := by
  unfold rdL failL
  split
  · rw [ext_sz]; omega
  · split
    · exact Nat.le_refl _
    · exact Nat.zero_le _
set_option maxHeartbeats 1000000 in
theorem asMore_any (t : Int) (s : ByteArray) (w : World) (hl : s.size ≤ maxLen) : Calls Try.prog 15 #[.agg #[.int .i64 t, .string s]] w fun e w' => e = .returned (.tuple #[.int .u32 (if isM t s then (rdN s 4 : Nat) else 0 : Nat), .int .i64 (if isM t s then n1 s else 0 : Nat), .bool (isM t s)]) ∧ Below w.heap.size w w' := by
  have hE := end3 s
  unfold isM
  have hk1 := rdL_le s 0 4
  have hk2 := rdL_le (rdL s 0 4) (rdE s 0 4) 2
  have A1 := fun (w : World) R => r32_any (w.heap.size + 1) s 0 ((w.alloc (.cells #[.int .i64 t, .string s] 23)).alloc (.cells #[.string s, .int .i64 0] 230)) R hl
  go_enter Try.func15, Try.ntmps15
  have bel0 := (Below.refl w.heap.size w).alloc (Nat.le_refl _) (.cells #[.int .i64 t, .string s] 23)
  have M0 := Blk.new w 23 #[.int .i64 t, .string s]
  go_wp2_with (go_at_call 74; refine (new_any _ _).mono ?_; rintro e w1 ⟨rfl, rfl⟩)
  refine (A1 w (blk_new2 w _ _ _)).mono ?_
  rintro e w2 ⟨rfl, R2, t2⟩
  have bel2 := t2.below (bel0.alloc (by simp) (.cells #[.string s, .int .i64 0] 230)) (by omega) (by simp; omega)
  have M2 := t2.blk (M0.alloc (.cells #[.string s, .int .i64 0] 230)) (by omega)
  clear A1 bel0 M0 t2
  go_wp2_with fail
  refine (r16_any (w.heap.size + 1) _ _ _ R2 (by omega)).mono ?_
  rintro e w3 ⟨rfl, R3, t3⟩
  have bel3 := t3.below bel2 (by omega) bel2.size
  have M3 := t3.blk M2 (by omega)
  clear bel2 M2 R2 t3
  rw [show rdN (rdL s 0 4) 2 = n1 s from rfl]
  go_wp2_with fail
  refine (r16_any (w.heap.size + 1) _ _ _ R3 (by omega)).mono ?_
  rintro e w4 ⟨rfl, R4, t4⟩
  have bel4 := t4.below bel3 (by omega) bel3.size
  have M4 := t4.blk M3 (by omega)
  clear bel3 M3 R3 t4
  rw [show rdN (rdL (rdL s 0 4) (rdE s 0 4) 2) 2 = n2 s from rfl]
  have R5 : RD w4 (w.heap.size + 1) (l3 s) (e3 s) := R4
  clear R4 hk1 hk2
  generalize hn1 : n1 s = k1 at *
  generalize hn2 : n2 s = k2 at *
  generalize hn0 : rdN s 4 = k0 at *
  generalize l3 s = L at *
  generalize e3 s = E at *
  have c0 : w4.cell? ⟨w.heap.size, 0, none⟩ = some (.int .i64 t) := M4.cell 0
  generalize hx : w.heap.size = x at *
  by_cases ht : t = 17
  · subst ht
    go_wp2_with fail
    refine (end_any (x + 1) L E _ R5).mono ?_
    rintro e w5 ⟨rfl, rfl⟩
    clear R5 c0 M4
    by_cases h8 : s.size = 8
    · rw [hE.2 h8]
      by_cases hk : k1 = 0
      · subst hk
        go_wp2_with fail
        go_ret3
        exact ⟨by simp [hn1, hn2, hn0], by first | exact bel4 | (rw [hx]; exact bel4)⟩
      · have hk' : ((k1 : Int) == 0) = false := by simp; omega
        by_cases hj : k2 = 0
        · subst hj
          go_wp2_with fail
          go_ret3
          exact ⟨by simp [hn1, hn2, hn0, h8, hk], by first | exact bel4 | (rw [hx]; exact bel4)⟩
        · have hj' : ((k2 : Int) != 0) = true := by simp; omega
          go_wp2_with fail
          go_ret3
          exact ⟨by simp [hn1, hn2, hn0, h8, hk, hj], by first | exact bel4 | (rw [hx]; exact bel4)⟩
    · have he : (endE L E != 0) = true := by simpa using fun q => h8 (hE.1 q)
      go_wp2_with fail
      go_ret3
      exact ⟨by simp [hn1, hn2, hn0, h8], by first | exact bel4 | (rw [hx]; exact bel4)⟩
  · have ht' : (t != 17) = true := by simpa using ht
    go_wp2_with fail
    all_goals
      go_ret3
      exact ⟨by first | rfl | simp [ht], by first | exact bel4 | (rw [hx]; exact bel4)⟩
set_option maxHeartbeats 1000000 in
theorem asResult_any (t : Int) (s : ByteArray) (w : World) (hl : s.size ≤ maxLen) : Calls Try.prog 17 #[.agg #[.int .i64 t, .string s]] w fun e w' => e = .returned (.tuple #[.int .u32 (if isR t s then (rdN s 4 : Nat) else 0 : Nat), .int .i64 (if isR t s then n4 s else 0 : Nat), .bool (isR t s)]) ∧ Below w.heap.size w w' := by
  have hE := end2 s
  unfold isR
  have hk1 := rdL_le s 0 4
  have hb4 := rdN_lt (rdL s 0 4) 4 (by omega)
  have A1 := fun (w : World) R => r32_any (w.heap.size + 1) s 0 ((w.alloc (.cells #[.int .i64 t, .string s] 23)).alloc (.cells #[.string s, .int .i64 0] 230)) R hl
  go_enter Try.func17, Try.ntmps17
  have bel0 := (Below.refl w.heap.size w).alloc (Nat.le_refl _) (.cells #[.int .i64 t, .string s] 23)
  have M0 := Blk.new w 23 #[.int .i64 t, .string s]
  go_wp2_with (go_at_call 74; refine (new_any _ _).mono ?_; rintro e w1 ⟨rfl, rfl⟩)
  refine (A1 w (blk_new2 w _ _ _)).mono ?_
  rintro e w2 ⟨rfl, R2, t2⟩
  have bel2 := t2.below (bel0.alloc (by simp) (.cells #[.string s, .int .i64 0] 230)) (by omega) (by simp; omega)
  have M2 := t2.blk (M0.alloc (.cells #[.string s, .int .i64 0] 230)) (by omega)
  clear A1 bel0 M0 t2
  go_wp2_with fail
  refine (r32_any (w.heap.size + 1) _ _ _ R2 (by omega)).mono ?_
  rintro e w3 ⟨rfl, R3, t3⟩
  have bel3 := t3.below bel2 (by omega) bel2.size
  have M3 := t3.blk M2 (by omega)
  clear bel2 M2 R2 t3
  rw [show rdN (rdL s 0 4) 4 = n4 s from rfl] at *
  have R5 : RD w3 (w.heap.size + 1) (l2 s) (e2 s) := R3
  clear R3 hk1
  generalize hn1 : n4 s = k1 at *
  generalize hn0 : rdN s 4 = k0 at *
  generalize l2 s = L at *
  generalize e2 s = E at *
  have c0 : w3.cell? ⟨w.heap.size, 0, none⟩ = some (.int .i64 t) := M3.cell 0
  generalize hx : w.heap.size = x at *
  by_cases ht : t = 16
  · subst ht
    go_wp2_with fail
    refine (end_any (x + 1) L E _ R5).mono ?_
    rintro e w5 ⟨rfl, rfl⟩
    clear R5 c0 M3
    by_cases h8 : s.size = 8
    · rw [hE.2 h8]
      by_cases hk : k1 = 1
      · subst hk
        go_wp2_with fail
        go_ret3
        exact ⟨by simp [hn1, hn0, h8], by first | exact bel3 | (rw [hx]; exact bel3)⟩
      · have hk' : ((k1 : Int) != 1) = true := by simp; omega
        by_cases hj : k1 = 2
        · subst hj
          go_wp2_with fail
          go_ret3
          exact ⟨by simp [hn1, hn0, h8], by first | exact bel3 | (rw [hx]; exact bel3)⟩
        · have hj' : ((k1 : Int) != 2) = true := by simp; omega
          go_wp2_with fail
          go_ret3
          exact ⟨by simp [hn1, hn0, h8, hk, hj], by first | exact bel3 | (rw [hx]; exact bel3)⟩
    · have he : (endE L E != 0) = true := by simpa using fun q => h8 (hE.1 q)
      go_wp2_with fail
      go_ret3
      exact ⟨by simp [hn1, hn0, h8], by first | exact bel3 | (rw [hx]; exact bel3)⟩
  · have ht' : (t != 16) = true := by simpa using ht
    go_wp2_with fail
    all_goals
      go_ret3
      exact ⟨by first | rfl | simp [ht], by first | exact bel3 | (rw [hx]; exact bel3)⟩
end Go.Proofs.Ytdocphkpeonldaa.rec_
