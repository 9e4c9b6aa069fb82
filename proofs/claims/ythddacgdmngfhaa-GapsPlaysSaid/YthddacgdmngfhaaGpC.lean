/- Layer 16: which numbers came, in memory; what a number would be. -/
import Derived.Test.YthddacgdmngfhaaGpB
namespace Go.Proofs.Ythddacgdmngfhaa.gap
open Go.Sort (grow)
open Go.ChangeShapes Go.WideShapes Go.ChangeAt Go.RowKit kit
set_option maxRecDepth 100000

def cellsU (D : List Int) : List Value := D.map fun x => .int .u32 x
/-- Which numbers came, in memory. -/
structure Gt (b0 g C : Nat) (s : gapm.St) (D : List Int) (pv dv : Value) (w : World) : Prop where
  B : Blk w g 189 #[.int .u32 (ab C s.c), pv, dv]
  p : w.ownsRow b0 193 2 pv s.P.length (cellsA C s.P)
  d : w.ownsRow b0 28 1 dv D.length (cellsU D)
  np : pv.ownBlock ≠ some g
  nd : dv.ownBlock ≠ some g
  pd : ∀ k, pv.ownBlock = some k → dv.ownBlock ≠ some k
  hg : b0 ≤ g
theorem own_lt' {w : World} {b0 n size : Nat} {t : TypeId} {v : Value} {xs : List Value} (own : w.ownsRow b0 t size v n xs) {k : Nat} (hk : v.ownBlock = some k) : k < w.heap.size := by
  rcases own.2 with ⟨rfl, _⟩ | ⟨h, cap, cur, rfl, _, q2, _⟩
  · cases hk
  · cases hk; exact Blk.lt (show Blk w _ t cur from q2)
theorem Gt.below {b0 g C k : Nat} {s : gapm.St} {D : List Int} {pv dv : Value} {w w' : World} (h : Gt b0 g C s D pv dv w) (hb : Below k w w') (hk : w.heap.size ≤ k) : Gt b0 g C s D pv dv w' :=
  ⟨h.B.below hb (Nat.lt_of_lt_of_le h.B.lt hk), own_below h.p hb (fun j hj => Nat.lt_of_lt_of_le (own_lt' h.p hj) hk), own_below h.d hb (fun j hj => Nat.lt_of_lt_of_le (own_lt' h.d hj) hk), h.np, h.nd, h.pd, h.hg⟩
theorem Gt.frame {b0 g C : Nat} {s : gapm.St} {D : List Int} {pv dv : Value} {w w' : World} (h : Gt b0 g C s D pv dv w) (hb : ∀ k, k = g ∨ pv.ownBlock = some k ∨ dv.ownBlock = some k → w'.heap[k]? = w.heap[k]?) : Gt b0 g C s D pv dv w' :=
  ⟨(hb g (.inl rfl)).trans h.B, own_other h.p (fun k hk => hb k (.inr (.inl hk))), own_other h.d (fun k hk => hb k (.inr (.inr hk))), h.np, h.nd, h.pd, h.hg⟩
def memB (P : List (Nat × Nat)) (y : Nat) : Bool := P.any fun p => decide (p.1 ≤ y) && decide (y ≤ p.2)
theorem memB_iff {P : List (Nat × Nat)} {y : Nat} : memB P y = true ↔ gapm.Mem y P := by
  unfold memB gapm.Mem
  simp
theorem fst_mem {P : List (Nat × Nat)} {y : Nat} {r : Int} (h : Fst P (fun p => decide (p.1 ≤ y) && decide (y ≤ p.2)) r) : decide (0 ≤ r) = memB P y := by
  rw [Bool.eq_iff_iff, decide_eq_true_iff]
  unfold memB
  rw [List.any_eq_true]
  rcases h with ⟨rfl, h⟩ | ⟨k, rfl, hk, h1, h2⟩
  · constructor
    · intro h'; omega
    · rintro ⟨p, hp, hq⟩
      have := h p hp
      dsimp only at this
      rw [this] at hq
      cases hq
  · constructor
    · intro _
      exact ⟨P[k], List.getElem_mem hk, h1 _ (List.getElem?_eq_getElem hk)⟩
    · intro _; omega
/-- What a number would be that is so many steps behind. -/
def lookV (s : gapm.St) (d : Nat) : Int := if d = 0 ∨ 2147483648 < d then 2 else if 1000 < d then 3 else if memB s.P (s.c + d) = true then 2 else 1
theorem diff_far {C c d : Nat} (hd : d < 4294967296) : diffV (ab C (c + d)) (ab C c) = if d ≤ 2147483648 then (d : Int) else (d : Int) - 4294967296 := by
  unfold diffV ab
  split <;> split <;> omega
set_option maxHeartbeats 1000000 in
theorem look_any {b0 g C : Nat} {s : gapm.St} {D : List Int} {pv dv : Value} {w : World} (h : Gt b0 g C s D pv dv w) (d : Nat) (hd : d < 4294967296) (hn : s.P.length ≤ 2000) (hP : Bd s.P) (hc : s.c < 268435456) :
    Calls Try.prog 38 #[.pointer (some ⟨g, 0, none⟩), .int .u32 (ab C (s.c + d))] w fun e w' => e = .returned (.int .i64 (lookV s d)) ∧ Below w.heap.size w w' := by
  have hD : ∀ W, Calls Try.prog 96 #[.int .u32 (ab C (s.c + d)), .int .u32 (ab C s.c)] W fun e w' => e = .returned (.int .i64 (if d ≤ 2147483648 then (d : Int) else (d : Int) - 4294967296)) ∧ Below W.heap.size W w' := fun W => by
    have := diff_any (ab C (s.c + d)) (ab C s.c) W (ab_lo _ _) (ab_hi _ _) (ab_lo _ _) (ab_hi _ _)
    rw [diff_far hd] at this
    exact this.mono fun e w' ⟨he, hw⟩ => ⟨he, hw ▸ Below.refl _ _⟩
  have al := (Below.refl w.heap.size w).alloc (Nat.le_refl _) (.cells #[.int .u32 (ab C (s.c + d))] 28)
  have B1 := h.B.below al h.B.lt
  have N1 := Blk.new w 28 #[.int .u32 (ab C (s.c + d))]
  have own1 := own_below h.p al (fun k hk => own_lt' h.p hk)
  have HF := Lib.hid (show d ≤ 1000 → ∀ W, Below (w.alloc (.cells #[.int .u32 (ab C (s.c + d))] 28)).heap.size (w.alloc (.cells #[.int .u32 (ab C (s.c + d))] 28)) W → Calls Try.prog 97 #[.pointer (some ⟨g, 0, none⟩), .func (.func 98) #[] #[.pointer (some ⟨w.heap.size, 0, none⟩)]] W fun e w' => ∃ r : Int, e = .returned (.int .i64 r) ∧ decide (0 ≤ r) = memB s.P (s.c + d) ∧ Below W.heap.size W w' from fun hd1 W hb =>
    (findL (C := C) (s.c + d) w.heap.size W (B1.below hb B1.lt) (own_below own1 hb (fun k hk => own_lt' own1 hk)) hn hP (by omega) (N1.below hb N1.lt)).mono fun e w' ⟨r, he, hr, hb'⟩ => ⟨r, he, fst_mem hr, hb'⟩)
  have c0 : (w.alloc (.cells #[.int .u32 (ab C (s.c + d))] 28)).cell? ⟨g, 0, none⟩ = some (.int .u32 (ab C s.c)) := B1.cell 0
  have n0 : (w.alloc (.cells #[.int .u32 (ab C (s.c + d))] 28)).cell? ⟨w.heap.size, 0, none⟩ = some (.int .u32 (ab C (s.c + d))) := N1.cell 0
  have hL : lookV s d = if d = 0 ∨ 2147483648 < d then 2 else if 1000 < d then 3 else if memB s.P (s.c + d) = true then 2 else 1 := rfl
  obtain ⟨lv, hlv⟩ : ∃ lv, lookV s d = lv := ⟨_, rfl⟩
  rw [hlv] at hL ⊢
  clear hlv
  have HD := Lib.hid hD
  clear hD h B1 N1 own1 hP
  generalize ab C (s.c + d) = t at *
  generalize memB s.P (s.c + d) = mb at *
  generalize ab C s.c = a0 at *
  have HV := Lib.hid hL
  clear hL
  go_enter Try.func38, Try.ntmps38
  go_upto_region 3 with fail
  generalize w.alloc (.cells #[.int .u32 t] 28) = w1 at *
  obtain ⟨b, hb⟩ : ∃ b : Int, (if d ≤ 2147483648 then (d : Int) else (d : Int) - 4294967296) = b := ⟨_, rfl⟩
  have HD' := HD.out
  rw [hb] at HD'
  have kq0 := cell_regrown c0
  have kq1 := cell_regrown n0
  refine wp_region_quiet_below (by kernel_rfl) (by kernel_rfl) ?_
  repeat (any_goals (first | go_big_quiet_step ((go_at_call 96; with_reducible exact Calls.regrown_of (HD' _))) | quiet_step ((go_at_call 96; with_reducible exact Calls.regrown_of (HD' _)))))
  refine wpQuiet_nil ?_
  intro _ hw'
  obtain ⟨⟨dq, osq⟩, hw''⟩ := hw'
  subst hw''
  have hbq := below_regrown w1 dq osq
  have bel2 := al.trans (hbq.mono al.size)
  clear kq0 kq1 c0 n0 HD HD' al
  generalize grow (redrawn w1 dq) osq = w2 at *
  have HBB := Lib.hid (And.intro hbq bel2)
  clear hbq bel2
  by_cases h1 : d = 0 ∨ 2147483648 < d
  · have hb0 : b ≤ 0 := by split at hb <;> omega
    have hb1 : b ≤ 1000 := by omega
    have hv : lv = 2 := by rw [HV.out, if_pos h1]
    subst hv
    clear hb h1 HV
    go_wp2_with fail
    go_ret
    exact ⟨rfl, HBB.out.2⟩
  · have hbd : b = (d : Int) := by rw [← hb, if_pos (by omega)]
    subst hbd
    have hd0 : (0 : Int) < (d : Int) := by omega
    have hd0' : 0 < d := by omega
    have hv := HV.out
    rw [if_neg h1] at hv
    clear hb h1 HV
    by_cases h2 : 1000 < d
    · rw [if_pos h2] at hv
      subst hv
      have h3 : (1000 : Int) < (d : Int) := by omega
      go_wp2_with fail
      go_ret
      exact ⟨rfl, HBB.out.2⟩
    · rw [if_neg h2] at hv
      have HV := Lib.hid hv
      clear hv
      have h3 : (d : Int) ≤ 1000 := by omega
      have hfd := HF.out (by omega) w2 HBB.out.1
      go_wp2_with fail
      refine hfd.mono ?_
      rintro e w3 ⟨r, rfl, hr, hb3⟩
      have bel3 := HBB.out.2.trans (hb3.mono HBB.out.2.size)
      have HRR := Lib.hid (And.intro hr bel3)
      clear hfd hr bel3 hb3
      by_cases hr0 : 0 ≤ r
      · have hv1 : lv = 2 := by rw [HV.out, ← HRR.out.1, decide_eq_true hr0, if_pos rfl]
        subst hv1
        clear HV
        go_wp2_with fail
        go_ret
        exact ⟨rfl, HRR.out.2⟩
      · have hv1 : lv = 1 := by rw [HV.out, ← HRR.out.1, decide_eq_false hr0, if_neg (by simp)]
        subst hv1
        clear HV
        have hr1 : r < 0 := by omega
        go_wp2_with fail
        go_ret
        exact ⟨rfl, HRR.out.2⟩
end Go.Proofs.Ythddacgdmngfhaa.gap
