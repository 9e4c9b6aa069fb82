/- Layer 21: those chunks come that are in a gap. -/
import Derived.Test.YthddacgdmngfhaaFfE
namespace Go.Proofs.Ythddacgdmngfhaa.fli
open Go.Sort (grow)
open Go.ChangeShapes Go.WideShapes Go.ChangeAt Go.RowKit kit
set_option maxRecDepth 100000

theorem szG (lo hi : Int) : (Try.prog.info? 133).map (·.size) = some (#[.int .i64 lo, .int .i64 hi] : Array Value).size := by show _ = some 2; kernel_rfl
theorem clg_gap (lo hi b : Int) (p : Nat) (W : World) (P : Blk W p 3 #[.int .i64 b]) : Calls Try.prog 172 #[.agg #[.int .i64 lo, .int .i64 hi], .pointer (some ⟨p, 0, none⟩)] W fun e w' => e = .returned (.bool (decide (lo ≤ b ∧ b ≤ hi))) ∧ Below W.heap.size W w' := by
  have P1 := P.alloc (.cells #[.int .i64 lo, .int .i64 hi] 133)
  have X1 := Blk.new W 133 #[.int .i64 lo, .int .i64 hi]
  have bel := (Below.refl W.heap.size W).alloc (Nat.le_refl _) (.cells #[.int .i64 lo, .int .i64 hi] 133)
  obtain ⟨rb, hrb⟩ : ∃ rb, decide (lo ≤ b ∧ b ≤ hi) = rb := ⟨_, rfl⟩
  rw [hrb]
  have HRB := Lib.hid hrb
  clear hrb
  go_enter Try.func172, Try.ntmps172
  go_upto_region 1 with fail
  obtain ⟨w1, hw1⟩ : ∃ w1, W.alloc (.cells #[.int .i64 lo, .int .i64 hi] 133) = w1 := ⟨_, rfl⟩
  rw [hw1] at P1 X1 bel
  try rw [hw1]
  clear hw1
  have p0 : w1.cell? ⟨p, 0, none⟩ = some (.int .i64 b) := P1.cell 0
  have x0 : w1.cell? ⟨W.heap.size, 0, none⟩ = some (.int .i64 lo) := X1.cell 0
  have x1 : w1.cell? ⟨W.heap.size, 1, none⟩ = some (.int .i64 hi) := X1.cell 1
  clear P1 P X1
  by_cases h1 : lo ≤ b
  · by_cases h2 : b ≤ hi
    · go_wp2_with fail
      go_ret
      exact ⟨ret_bool ((decide_eq_true (by omega)).symm.trans HRB.out), bel⟩
    · go_wp2_with fail
      go_ret
      exact ⟨ret_bool ((decide_eq_false (by omega)).symm.trans HRB.out), bel⟩
  · go_wp2_with fail
    go_ret
    exact ⟨ret_bool ((decide_eq_false (by omega)).symm.trans HRB.out), bel⟩
theorem cf_gap (lo hi b : Int) (p qg : Nat) (w : World) (P : Blk w p 3 #[.int .i64 b]) (Q : Blk w qg 133 #[.int .i64 lo, .int .i64 hi]) : Calls Try.prog 171 #[.slice (some ⟨qg, 0, none⟩) 1 1, .func (.func 172) #[] #[.pointer (some ⟨p, 0, none⟩)]] w fun e w' => e = .returned (.bool (decide (lo ≤ b ∧ b ≤ hi))) ∧ Below w.heap.size w w' := by
  have hix : Calls Try.prog 183 #[.slice (some ⟨qg, 0, none⟩) 1 1, .func (.func 172) #[] #[.pointer (some ⟨p, 0, none⟩)]] w fun e w' => e = .returned (.int .i64 (if lo ≤ b ∧ b ≤ hi then 0 else -1)) ∧ Below w.heap.size w w' := by
    obtain ⟨ri, hri⟩ : ∃ ri : Int, (if lo ≤ b ∧ b ≤ hi then (0 : Int) else -1) = ri := ⟨_, rfl⟩
    rw [hri]
    have HRI := Lib.hid hri
    clear hri
    have C := Cel.of_blk Q
    go_enter Try.func183, Try.ntmps183
    go_wp2_with fail
    refine wp_loop_rounds 2 ?_
    rw [rounds_succ]
    go_wp2_with (refine wpList_load_at rfl 133 _ rfl qg 0 rfl #[.int .i64 lo, .int .i64 hi] _ C Try.underlying133 rfl (szG lo hi) ?_)
    refine (clg_gap lo hi b p w P).mono ?_
    rintro e w1 ⟨he, hb1⟩
    by_cases h : lo ≤ b ∧ b ≤ hi
    · rw [decide_eq_true h] at he
      subst he
      have hr : (if lo ≤ b ∧ b ≤ hi then (0 : Int) else -1) = 0 := if_pos h
      have HR := Lib.hid (And.intro hr hb1)
      clear h hb1 hr
      go_wp2_with fail
      go_ret
      exact ⟨ret_int (HR.out.1.symm.trans HRI.out), HR.out.2⟩
    · rw [decide_eq_false h] at he
      subst he
      have hr : (if lo ≤ b ∧ b ≤ hi then (0 : Int) else -1) = -1 := if_neg h
      have HR := Lib.hid (And.intro hr hb1)
      clear h hb1 hr
      go_wp2_with fail
      rw [rounds_succ]
      go_wp2_with fail
      go_ret
      exact ⟨ret_int (HR.out.1.symm.trans HRI.out), HR.out.2⟩
  obtain ⟨rb, hrb⟩ : ∃ rb, decide (lo ≤ b ∧ b ≤ hi) = rb := ⟨_, rfl⟩
  rw [hrb]
  have HRB := Lib.hid hrb
  clear hrb
  go_enter Try.func171, Try.ntmps171
  go_wp2_with fail
  refine hix.mono ?_
  rintro e w1 ⟨he, hb1⟩
  by_cases h : lo ≤ b ∧ b ≤ hi
  · rw [if_pos h] at he
    subst he
    have hr : decide (lo ≤ b ∧ b ≤ hi) = true := decide_eq_true h
    have HR := Lib.hid (And.intro hr hb1)
    clear h hb1 hix hr
    go_wp2_with fail
    go_ret
    exact ⟨ret_bool (HR.out.1.symm.trans HRB.out), HR.out.2⟩
  · rw [if_neg h] at he
    subst he
    have hr : decide (lo ≤ b ∧ b ≤ hi) = false := decide_eq_false h
    have HR := Lib.hid (And.intro hr hb1)
    clear h hb1 hix hr
    go_wp2_with fail
    go_ret
    exact ⟨ret_bool (HR.out.1.symm.trans HRB.out), HR.out.2⟩
/-- Behind so many of them. -/
def gpd (f : Nat → Sx) (h j : Nat) : Nat → Sx := fun i => if 1 ≤ i ∧ i < h ∧ i < j then cm (f i) else f i
def lst (h j : Nat) : Int := if j ≤ 1 then -1 else if j ≤ h then (j : Int) - 1 else (h : Int) - 1
theorem gpd_self (f : Nat → Sx) (h j : Nat) : gpd f h j j = f j := by unfold gpd; rw [if_neg (by omega)]
theorem gpd_in (f : Nat → Sx) {h j : Nat} (h1 : 1 ≤ j) (h2 : j < h) : upd (gpd f h j) j (cm (f j)) = gpd f h (j + 1) := by
  funext i
  unfold upd gpd
  by_cases e : i = j
  · subst e; rw [if_pos rfl, if_pos (by omega)]
  · rw [if_neg e]
    by_cases e2 : 1 ≤ i ∧ i < h ∧ i < j
    · rw [if_pos e2, if_pos (by omega)]
    · rw [if_neg e2, if_neg (by omega)]
theorem gpd_out (f : Nat → Sx) {h j : Nat} (h1 : ¬ (1 ≤ j ∧ j < h)) : gpd f h j = gpd f h (j + 1) := by
  funext i
  unfold gpd
  by_cases e2 : 1 ≤ i ∧ i < h ∧ i < j
  · rw [if_pos e2, if_pos (by omega)]
  · rw [if_neg e2, if_neg (by omega)]
theorem gpd_zero (f : Nat → Sx) (h : Nat) : gpd f h 0 = f := by funext i; unfold gpd; rw [if_neg (by omega)]
theorem lst_in {h j : Nat} (h1 : 1 ≤ j) (h2 : j < h) : lst h (j + 1) = (j : Int) := by unfold lst; rw [if_neg (by omega), if_pos (by omega)]; omega
theorem lst_out {h j : Nat} (h0 : 2 ≤ h) (h1 : ¬ (1 ≤ j ∧ j < h)) : lst h (j + 1) = lst h j := by unfold lst; split <;> split <;> (try split) <;> (try split) <;> omega
section
variable {N : Nat} {w0 : World} {b0 g n hh off cap qg a g1 g2 g3 r : Nat} {c : Int} {f : Nat → Sx} {l : Bool} {w : World}
set_option maxHeartbeats 4000000 in
theorem gapped_f {h : Nat} (D : Df N b0 g hh qg a g1 g2 g3 r) (K : Kf N w0 b0 g c f n hh off cap qg 2 (h : Int) a g1 g2 g3 r l w) (hn : n ≤ 100) (h2 : 2 ≤ h) (hhn : h ≤ n) (hit : ∀ i, 1 ≤ i → i < n → (f i).p = 1 ∧ (f i).a = 0 ∧ (f i).m = 1) :
    Calls Try.prog 132 #[.pointer (some ⟨g, 0, none⟩), .slice (some ⟨qg, 0, none⟩) 1 1, .pointer (some ⟨a, 0, none⟩), .int .i64 5] w fun e w' => e = .returned (.int .i64 ((h : Int) - 1)) ∧ Kf N w0 b0 g c (gpd f h n) n hh off cap qg 2 (h : Int) a g1 g2 g3 r l w' ∧ Below b0 w w' := by
  have c1 : w.cell? ⟨g, 1, none⟩ = some (.slice (some ⟨hh, off, none⟩) n cap) := K.F.B.cell 1
  have HIT := Lib.hid hit
  have HHH := Lib.hid (And.intro h2 hhn)
  clear hit
  go_enter Try.func132, Try.ntmps132
  go_wp2_with fail
  go_loopw [9, 17] (fun s9 s17 wr => ∃ j : Nat, s17 = .int .i64 (j : Nat) ∧ j ≤ n ∧ s9 = .int .i64 (lst h j) ∧ Kf N w0 b0 g c (gpd f h j) n hh off cap qg 2 (h : Int) a g1 g2 g3 r l wr ∧ Below b0 w wr) (fun _ s17 _ => n - (intOf s17).toNat)
  case atStart => exact ⟨0, rfl, Nat.zero_le _, rfl, by rw [gpd_zero]; exact K, Below.refl _ _⟩
  case round =>
    clear c1 K
    obtain ⟨j, rfl, hj, rfl, K, bel⟩ := hrel
    by_cases hlt : j < n
    · have hjj : (j : Int) < (n : Int) := by omega
      have hj0 : (0 : Int) ≤ (j : Int) := by omega
      have K1 := K.below ((Below.refl wr.heap.size wr).alloc (Nat.le_refl _) (.cells #[.int .i64 ((j : Int) + 1)] 3)) (Nat.le_refl _)
      have P1 := Blk.new wr 3 #[.int .i64 ((j : Int) + 1)]
      have hb0 : b0 ≤ wr.heap.size := by have := K.F.B.lt; have := D.bg; omega
      have bel1 := bel.alloc hb0 (.cells #[.int .i64 ((j : Int) + 1)] 3)
      obtain ⟨lj, hlj⟩ : ∃ lj, lst h j = lj := ⟨_, rfl⟩
      rw [hlj]
      have HL := Lib.hid hlj
      have hwj : IntKind.i64.wrap ((j : Int) + 1) = (j : Int) + 1 := IntWalk.i64_in _ (by omega)
      clear K bel hlj
      go_upto_region 6 with fail
      obtain ⟨w1, hw1⟩ : ∃ w1, wr.alloc (.cells #[.int .i64 ((j : Int) + 1)] 3) = w1 := ⟨_, rfl⟩
      rw [hw1] at K1 P1 bel1
      try rw [hw1]
      clear hw1 hwj
      go_wp2_with fail
      refine (cf_gap 2 (h : Int) ((j : Int) + 1) wr.heap.size qg w1 P1 K1.Q).mono ?_
      rintro e w2 ⟨he, hb2⟩
      have K2 := K1.below hb2 (Nat.le_refl _)
      have bel2 := bel1.trans (hb2.mono (by have := K1.F.B.lt; have := D.bg; omega))
      have hg1 : w2.cell? ⟨g, 1, none⟩ = some (.slice (some ⟨hh, off, none⟩) n cap) := K2.F.B.cell 1
      clear K1 P1 bel1 hb2
      by_cases hin : 1 ≤ j ∧ j < h
      · rw [decide_eq_true (by omega)] at he
        subst he
        have hcome : Calls Try.prog 129 #[.pointer (some ⟨hh, off + j * 22, none⟩), .pointer (some ⟨a, 0, none⟩), .int .i64 5] w2 fun e w' => e = .returned (.tuple #[]) ∧ Kf N w0 b0 g c (gpd f h (j + 1)) n hh off cap qg 2 (h : Int) a g1 g2 g3 r l w' ∧ Below b0 w2 w' := by
          have hi := HIT.out j hin.1 hlt
          rw [← gpd_in f hin.1 hin.2]
          have hs := gpd_self f h j
          rcases hca : (f j).ca with _ | _
          · have := come_new D K2 hlt (by rw [hs]; exact hca) (by rw [hs]; exact hi.1) (by rw [hs]; exact hi.2.1) (by rw [hs]; exact hi.2.2)
            rw [hs] at this
            exact this
          · have := come_old D K2 hlt (by rw [hs]; exact hca)
            rw [hs] at this
            exact this
        have hl := lst_in hin.1 hin.2
        have HJ := Lib.hid hl
        clear hin hl K2
        go_wp2_with fail
        refine hcome.mono ?_
        rintro e w3 ⟨rfl, K3, b3⟩
        have HE := Lib.hid (And.intro K3 (bel2.trans b3))
        clear K3 b3 bel2 hcome hg1
        go_wp2_with fail
        go_roundw
        case rel => exact ⟨j + 1, by go_num, by omega, by rw [HJ.out], HE.out.1, HE.out.2⟩
        case measure => simp [intOf]; omega
      · rw [decide_eq_false (by omega)] at he
        subst he
        rw [gpd_out f hin] at K2
        have hl := lst_out h2 hin
        have HE := Lib.hid (And.intro K2 (And.intro bel2 hl))
        clear K2 bel2 hl hin hg1
        go_wp2_with fail
        go_roundw
        case rel => exact ⟨j + 1, by go_num, by omega, by rw [HE.out.2.2, HL.out], HE.out.1, HE.out.2.1⟩
        case measure => simp [intOf]; omega
    · obtain rfl : j = n := by omega
      have hl : lst h j = (h : Int) - 1 := by have := HHH.out; unfold lst; split <;> (try split) <;> omega
      rw [hl]
      have HE := Lib.hid (And.intro K bel)
      clear K bel hl
      go_wp2_with fail
      go_ret
      exact ⟨rfl, HE.out.1, HE.out.2⟩
end
end Go.Proofs.Ythddacgdmngfhaa.fli
