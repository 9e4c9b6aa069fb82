/- Layer 16: a number joined to parts in memory. -/
import Derived.Test.YthddacgdmngfhaaGpI
namespace Go.Proofs.Ythddacgdmngfhaa.gap
open Go.Sort (grow)
open Go.ChangeShapes Go.WideShapes Go.ChangeAt Go.RowKit kit gapm
set_option maxRecDepth 100000
set_option maxHeartbeats 8000000 in
theorem join_any {b0 g C c : Nat} {P : Pt} {D : List Int} {pv dv : Value} {w : World} (x : Nat) (h : Gt b0 g C ⟨c, P⟩ D pv dv w) (hn : P.length ≤ 1900) (hP : Bd P) (hx : x < 536870912) :
    Calls Try.prog 101 #[.pointer (some ⟨g, 0, none⟩), .int .u32 (ab C x)] w fun e w' => e = .returned (.tuple #[]) ∧ Jo b0 g C c (jn x P (idx x P)) D pv dv w w' := by
  have hb0 : b0 ≤ w.heap.size := by have := h.hg; have := h.B.lt; omega
  have al := (Below.refl w.heap.size w).alloc (Nat.le_refl _) (.cells #[.int .u32 (ab C x)] 28)
  have G1 := h.below al (Nat.le_refl _)
  have X1 := Blk.new w 28 #[.int .u32 (ab C x)]
  have hgx : g < w.heap.size := h.B.lt
  have hpx : ∀ k, pv.ownBlock = some k → k < w.heap.size := fun k hk => own_lt' h.p hk
  have hdx : ∀ k, dv.ownBlock = some k → k < w.heap.size := fun k hk => own_lt' h.d hk
  have HW := Lib.hid (And.intro hb0 (And.intro hgx (And.intro hpx hdx)))
  have hfd := findJ (C := C) x w.heap.size _ G1.B G1.p (by show P.length ≤ 2000; omega) hP hx X1
  go_enter Try.func101, Try.ntmps101
  go_upto_region 1 with fail
  generalize w.alloc (.cells #[.int .u32 (ab C x)] 28) = w1 at *
  go_wp2_with fail
  refine hfd.mono ?_
  rintro e w2 ⟨r, rfl, hr, hb2⟩
  have hix := fst_idx hr
  have hal := idx_le x P
  obtain ⟨a, ha⟩ : ∃ a, idx x P = a := ⟨_, rfl⟩
  rw [ha] at hix hal
  have G2 := G1.below hb2 (Nat.le_refl _)
  have X2 := X1.below hb2 X1.lt
  have be2 : Below w.heap.size w w2 := al.trans (hb2.mono al.size)
  clear G1 X1 hfd hr hb2 al h
  obtain ⟨hh, oa, cap, hpv, hc, hcm, hC⟩ := own_row G2.p
  obtain ⟨xb, hxb⟩ : ∃ xb, w.heap.size = xb := ⟨_, rfl⟩
  rw [hxb] at X2 be2 HW ⊢
  have c1 : w2.cell? ⟨g, 1, none⟩ = some (.slice oa P.length cap) := (G2.B.cell 1).trans (congrArg some hpv)
  unfold maxLen at hcm
  go_upto_if 11 with fail
  go_cut [4] (fun s4 wx => s4 = .int .i64 a ∧ wx = w2)
  case first =>
    clear HW G2 X2 hC
    by_cases hr0 : r < 0
    · rw [if_pos hr0] at hix
      go_wp2_with fail
      go_meet
      exact ⟨by first | rfl | rw [hix], rfl⟩
    · rw [if_neg hr0] at hix
      subst hix
      have hr1 : ¬ (a : Int) < 0 := hr0
      go_wp2_with fail
      go_meet
      exact ⟨rfl, rfl⟩
  case rest =>
  obtain ⟨rfl, hwc⟩ := hcut
  obtain rfl : w2 = wc := hwc.symm
  clear hix
  obtain ⟨n, hnP⟩ : ∃ n, P.length = n := ⟨_, rfl⟩
  have HC := Lib.hid hC
  have HNP := Lib.hid hnP
  rw [hnP] at c1 hc hal hn
  have x0 : w2.cell? ⟨xb, 0, none⟩ = some (.int .u32 (ab C x)) := X2.cell 0
  -- does the part ahead touch it?
  go_upto_region 4 with fail
  go_cut [5] (fun s5 wx => s5 = .bool (ahead x P a) ∧ Below w2.heap.size w2 wx)
  case first =>
    have kq1 := cell_regrown c1
    have kx := cell_regrown x0
    cases a with
    | zero =>
      have H0 := Lib.hid (show ahead x P 0 = false from rfl)
      clear HW G2 X2 hC HC ha
      refine wp_region_quiet_below (by kernel_rfl) (by kernel_rfl) ?_
      repeat (any_goals (first | go_big_quiet_step (fail) | quiet_step (fail)))
      refine wpQuiet_nil ?_
      intro _ hw'
      obtain ⟨⟨dq, osq⟩, hw''⟩ := hw'
      subst hw''
      go_wp2_with fail
      go_meet
      exact ⟨by rw [H0.out], below_regrown _ _ _⟩
    | succ a =>
      have haP : a < P.length := by rw [hnP]; omega
      obtain ⟨p, hp⟩ : ∃ p, P[a]? = some p := ⟨_, List.getElem?_eq_getElem haP⟩
      have hpb := hP p (List.mem_of_getElem? hp)
      have h0 : ahead x P (a + 1) = (p.2 + 1 == x) := by simp [ahead, hp]
      obtain ⟨ho, _, _, hC'⟩ := hC (by omega)
      subst ho
      have K := hC' a p hp
      have k1 : w2.cell? ⟨hh, a * 2 + 1, none⟩ = some (.int .u32 (ab C p.2)) := K.cell 1 rfl
      have kk := cell_regrown k1
      have hwr := ab_wrap C p.2
      have heq : (ab C (p.2 + 1) == ab C x) = (p.2 + 1 == x) := ab_eq (by omega) (by omega)
      obtain ⟨bq, hbq⟩ : ∃ bq, (ab C (p.2 + 1) == ab C x) = bq := ⟨_, rfl⟩
      have HA := Lib.hid (show ahead x P (a + 1) = bq by rw [h0, ← heq, hbq])
      generalize ab C (p.2 + 1) = y1 at *
      generalize ab C p.2 = y0 at *
      generalize ab C x = yx at *
      have ha1 : (0 : Int) < ((a : Int) + 1) := by omega
      have hw1 : IntKind.i64.wrap ((a : Int) + 1 - 1) = (a : Int) := by rw [IntKind.wrap_i64]; omega
      have hw2 : (a : Int) + 1 - 1 = (a : Int) := by omega
      have hai : (a : Int) < (n : Int) := by omega
      have hai' : a < n := by omega
      clear HW G2 X2 hC HC ha hC' K h0 heq hP hp hpb haP
      refine wp_region_quiet_below (by kernel_rfl) (by kernel_rfl) ?_
      repeat (any_goals (first | go_big_quiet_step (fail) | quiet_step (fail)))
      refine wpQuiet_nil ?_
      intro _ hw'
      obtain ⟨⟨dq, osq⟩, hw''⟩ := hw'
      subst hw''
      go_wp2_with fail
      go_meet
      exact ⟨by rw [HA.out], below_regrown _ _ _⟩
  case rest =>
  obtain ⟨rfl, hb3⟩ := hcut
  generalize wc = w3 at *
  have G3 := G2.below hb3 (Nat.le_refl _)
  have X3 := X2.below hb3 X2.lt
  have be3 := be2.trans (hb3.mono (by have := be2.size; omega))
  have c1' : w3.cell? ⟨g, 1, none⟩ = some (.slice oa P.length cap) := (G3.B.cell 1).trans (congrArg some hpv)
  rw [hnP] at c1'
  have HC3 := Lib.hid (show 0 < n → oa = some ⟨hh, 0, none⟩ ∧ hh < w3.heap.size ∧ pv.ownBlock = some hh ∧ ∀ k p, P[k]? = some p → Cel w3 hh (k * 2) (prt (ab C p.1) (ab C p.2)) from fun h0 => by
    obtain ⟨q1, q2, q3, q4⟩ := hC (by omega)
    exact ⟨q1, by have := hb3.size; omega, q3, fun k p hp => (q4 k p hp).below hb3 q2⟩)
  clear G2 X2 be2 hb3 c1 hC HC x0
  have c1 := c1'
  clear c1'
  have x0 : w3.cell? ⟨xb, 0, none⟩ = some (.int .u32 (ab C x)) := X3.cell 0
  obtain ⟨bA, hbA⟩ : ∃ bA, ahead x P a = bA := ⟨_, rfl⟩
  rw [hbA]
  -- does the part behind touch it?
  go_upto_region 5 with fail
  go_cut [6] (fun s6 wx => s6 = .bool (behind x P a) ∧ Below w3.heap.size w3 wx)
  case first =>
    have kq1 := cell_regrown c1
    have kx := cell_regrown x0
    by_cases han : a < n
    · have haP : a < P.length := by rw [hnP]; exact han
      obtain ⟨p, hp⟩ : ∃ p, P[a]? = some p := ⟨_, List.getElem?_eq_getElem haP⟩
      have hpb := hP p (List.mem_of_getElem? hp)
      have h0 : behind x P a = (x + 1 == p.1) := by simp [behind, hp]
      obtain ⟨ho, _, _, hC'⟩ := HC3.out (by omega)
      subst ho
      have K := hC' a p hp
      have k1 : w3.cell? ⟨hh, a * 2, none⟩ = some (.int .u32 (ab C p.1)) := K.cell 0 rfl
      have kk := cell_regrown k1
      have hwr := ab_wrap C x
      have heq : (ab C (x + 1) == ab C p.1) = (x + 1 == p.1) := ab_eq (by omega) (by omega)
      obtain ⟨bq, hbq⟩ : ∃ bq, (ab C (x + 1) == ab C p.1) = bq := ⟨_, rfl⟩
      have HA := Lib.hid (show behind x P a = bq by rw [h0, ← heq, hbq])
      generalize ab C (x + 1) = y1 at *
      generalize ab C p.1 = y0 at *
      generalize ab C x = yx at *
      have hai : (a : Int) < (n : Int) := by omega
      clear HW G3 X3 HC3 ha hC' K h0 heq hP hp hpb haP hbA
      refine wp_region_quiet_below (by kernel_rfl) (by kernel_rfl) ?_
      repeat (any_goals (first | go_big_quiet_step (fail) | quiet_step (fail)))
      refine wpQuiet_nil ?_
      intro _ hw'
      obtain ⟨⟨dq, osq⟩, hw''⟩ := hw'
      subst hw''
      go_wp2_with fail
      go_meet
      exact ⟨by rw [HA.out], below_regrown _ _ _⟩
    · have H0 := Lib.hid (show behind x P a = false by
        unfold behind
        rw [List.getElem?_eq_none (by rw [hnP]; omega)])
      have hai : (n : Int) ≤ (a : Int) := by omega
      clear HW G3 X3 HC3 ha hbA
      refine wp_region_quiet_below (by kernel_rfl) (by kernel_rfl) ?_
      repeat (any_goals (first | go_big_quiet_step (fail) | quiet_step (fail)))
      refine wpQuiet_nil ?_
      intro _ hw'
      obtain ⟨⟨dq, osq⟩, hw''⟩ := hw'
      subst hw''
      go_wp2_with fail
      go_meet
      exact ⟨by rw [H0.out], below_regrown _ _ _⟩
  case rest =>
  obtain ⟨rfl, hb4⟩ := hcut
  generalize wc = w4 at *
  have G4 := G3.below hb4 (Nat.le_refl _)
  have X4 := X3.below hb4 X3.lt
  have be4 := be3.trans (hb4.mono (by have := be3.size; omega))
  have c1' : w4.cell? ⟨g, 1, none⟩ = some (.slice oa P.length cap) := (G4.B.cell 1).trans (congrArg some hpv)
  rw [hnP] at c1'
  have HC4 := Lib.hid (show 0 < n → oa = some ⟨hh, 0, none⟩ ∧ hh < w4.heap.size ∧ pv.ownBlock = some hh ∧ ∀ k p, P[k]? = some p → Cel w4 hh (k * 2) (prt (ab C p.1) (ab C p.2)) from fun h0 => by
    obtain ⟨q1, q2, q3, q4⟩ := HC3.out h0
    exact ⟨q1, by have := hb4.size; omega, q3, fun k p hp => (q4 k p hp).below hb4 q2⟩)
  clear G3 X3 be3 hb4 c1 HC3 x0
  have c1 := c1'
  clear c1'
  have x0 : w4.cell? ⟨xb, 0, none⟩ = some (.int .u32 (ab C x)) := X4.cell 0
  obtain ⟨bB, hbB⟩ : ∃ bB, behind x P a = bB := ⟨_, rfl⟩
  rw [hbB]
  have hxg : xb ≠ g := by have := HW.out.2.1; omega
  have U4 : Up g pv dv w pv dv w4 := Up.of_below (by rw [hxb]; exact be4)
  have B4 : Below b0 w w4 := be4.mono (by have := HW.out.1; omega)
  have HG := Lib.hid (And.intro G4 (And.intro U4 B4))
  have hg0 : b0 ≤ g := G4.hg
  clear G4 U4 B4
  cases bA with
  | true =>
    -- a part ahead touches it
    obtain ⟨a, rfl⟩ : ∃ a', a = a' + 1 := by
      cases a with
      | zero => exact absurd hbA (by simp [ahead])
      | succ a => exact ⟨a, rfl⟩
    have haP : a < P.length := by rw [hnP]; omega
    obtain ⟨p, hp⟩ : ∃ p, P[a]? = some p := ⟨_, List.getElem?_eq_getElem haP⟩
    obtain ⟨ho, hhl, hpb, hC'⟩ := HC4.out (by omega)
    subst ho
    have K := hC' a p hp
    have k1 : w4.cell? ⟨hh, a * 2 + 1, none⟩ = some (.int .u32 (ab C p.2)) := K.cell 1 rfl
    have f1 : w4.frozen? ⟨hh, a * 2 + 1, none⟩ = false := K.frozen 1 (by show 1 < 2; omega)
    have hb0h : b0 ≤ hh := own_ge HG.out.1.p hh hpb
    have hw1 : IntKind.i64.wrap ((a : Int) + 1 - 1) = (a : Int) := by rw [IntKind.wrap_i64]; omega
    have hw2 : (a : Int) + 1 - 1 = (a : Int) := by omega
    have hai : (a : Int) < (n : Int) := by omega
    have hai' : a < n := by omega
    subst hpv
    cases bB with
    | true =>
      as_aux_lemma =>
        have han : a + 1 < n := by
          rcases Nat.lt_or_ge (a + 1) P.length with h | h
          · omega
          · exact absurd hbB (by unfold behind; rw [List.getElem?_eq_none h]; simp)
        obtain ⟨q, hq⟩ : ∃ q, P[a + 1]? = some q := ⟨_, List.getElem?_eq_getElem (by rw [hnP]; exact han)⟩
        have hj : jn x P (a + 1) = (P.set a (p.1, q.2)).eraseIdx (a + 1) := by
          unfold jn
          rw [if_pos hbA, if_pos hbB]
          simp [hp, hq]
        have k2 : w4.cell? ⟨hh, (a + 1) * 2 + 1, none⟩ = some (.int .u32 (ab C q.2)) := (hC' (a + 1) q hq).cell 1 rfl
        have hqb := hP q (List.mem_of_getElem? hq)
        have hP2l : (P.set a (p.1, q.2)).length = n := by simp [hnP]
        have G5 := Gt.cell HG.out.1 (j := a * 2 + 1) (P' := P.set a (p.1, q.2)) (.int .u32 (ab C q.2)) (by simp) (cellsA_set1 C q.2 P a p hp)
        have U5 := HG.out.2.1.trans (Gt.up_cell (j := a * 2 + 1) HG.out.1 (.int .u32 (ab C q.2)) P.length)
        have B5 := HG.out.2.2.setCell (p := ⟨hh, a * 2 + 1, none⟩) hb0h (.int .u32 (ab C q.2))
        have hhg : hh ≠ g := fun e => HG.out.1.np (by rw [e]; rfl)
        have hpd := HG.out.1.pd
        have hnd := HG.out.1.nd
        have hai2 : (a : Int) + 1 < (n : Int) := by omega
        have HJ := Lib.hid (show jn x P (idx x P) = (P.set a (p.1, q.2)).eraseIdx (a + 1) by rw [ha, hj])
        have HGG := Lib.hid (And.intro G5 (And.intro U5 B5))
        have HPD := Lib.hid (And.intro hpd hnd)
        have HP2 := Lib.hid hP2l
        generalize P.set a (p.1, q.2) = P2 at *
        generalize ab C q.2 = yq at *
        clear G5 U5 B5 hj HC4 HW HG X4 be4 hC' K hP hqb hpd hnd hP2l hp hq
        go_upto_region 8 with fail
        go_region
        have b6 : Below (w4.setCell ⟨hh, a * 2 + 1, none⟩ (.int .u32 yq)).heap.size (w4.setCell ⟨hh, a * 2 + 1, none⟩ (.int .u32 yq)) (w4.setCell ⟨hh, a * 2 + 1, none⟩ (.int .u32 yq)).drew := (Below.refl _ _).drew
        have G6 := HGG.out.1.below b6 (Nat.le_refl _)
        have U6 := HGG.out.2.1.trans (Up.of_below b6)
        have B6 := HGG.out.2.2.trans (b6.mono (by have := HGG.out.2.2.size; have := HGG.out.1.B.lt; omega))
        go_upto_region 9 with fail
        clear b6 HGG k1 f1 k2 c1 x0
        generalize (w4.setCell ⟨hh, a * 2 + 1, none⟩ (.int .u32 yq)).drew = w6 at *
        have c1 : w6.cell? ⟨g, 1, none⟩ = some (.slice (some ⟨hh, 0, none⟩) P2.length cap) := G6.B.cell 1
        rw [HP2.out] at c1
        have hdel := delete_at b0 hh cap (a + 1) C P2 w6 G6.p (by rw [HP2.out]; exact han)
        rw [HP2.out, show (((a + 1 : Nat)) : Int) = (a : Int) + 1 by omega] at hdel
        have HGG := Lib.hid (And.intro G6 (And.intro U6 B6))
        clear G6 U6 B6
        go_wp2_with fail
        refine hdel.mono ?_
        rintro e w7 ⟨rfl, own7, O7, b7⟩
        have G7 := O7.blk HGG.out.1.B (Ne.symm hhg)
        have d7 := own_other HGG.out.1.d (fun k hk => O7.block k (own_lt' HGG.out.1.d hk) (fun e => HPD.out.1 hh rfl (by rw [← e]; exact hk)))
        have c7 : w7.cell? ⟨g, 1, none⟩ = some (.slice (some ⟨hh, 0, none⟩) P2.length cap) := G7.cell 1
        have f7 : w7.frozen? ⟨g, 1, none⟩ = false := G7.frozen 1
        have hel : (P2.eraseIdx (a + 1)).length = n - 1 := by rw [List.length_eraseIdx, if_pos (by rw [HP2.out]; exact han), HP2.out]
        have Gf : Gt b0 g C ⟨c, P2.eraseIdx (a + 1)⟩ D (.slice (some ⟨hh, 0, none⟩) (n - 1) cap) dv (w7.setCell ⟨g, 1, none⟩ (.slice (some ⟨hh, 0, none⟩) (n - 1) cap)) := by
          refine ⟨G7.set_ 1 _, ?_, own_other d7 (fun k hk => Below.heap_setCell w7 ⟨g, 1, none⟩ _ k (fun e => HPD.out.2 (by have e' : k = g := e; rw [← e']; exact hk))), fun e => hhg (Option.some.inj e), HPD.out.2, HPD.out.1, hg0⟩
          show _ ; rw [hel]
          exact own_other own7 (fun k hk => Below.heap_setCell w7 ⟨g, 1, none⟩ _ k (fun e => by cases hk; exact hhg e))
        have Uf : Up g (.slice (some ⟨hh, 0, none⟩) P.length cap) dv w (.slice (some ⟨hh, 0, none⟩) (n - 1) cap) dv (w7.setCell ⟨g, 1, none⟩ (.slice (some ⟨hh, 0, none⟩) (n - 1) cap)) :=
          HGG.out.2.1.trans ⟨by have := O7.size; simpa [World.setCell] using this, fun k hk h1 h2 _ => (Below.heap_setCell w7 ⟨g, 1, none⟩ _ k h1).trans (O7.block k hk (fun e => h2 (by rw [e]; rfl))), fun k hk => .inl hk, fun k hk => .inl hk⟩
        have Bf := (HGG.out.2.2.trans b7).setCell (p := ⟨g, 1, none⟩) hg0 (.slice (some ⟨hh, 0, none⟩) (n - 1) cap)
        have HF := Lib.hid (show Jo b0 g C c (jn x P (idx x P)) D (.slice (some ⟨hh, 0, none⟩) P.length cap) dv w (w7.setCell ⟨g, 1, none⟩ (.slice (some ⟨hh, 0, none⟩) (n - 1) cap)) from by rw [HJ.out]; exact ⟨_, Gf, Uf, Bf⟩)
        clear Gf Uf Bf own7 O7 b7 d7 HGG hdel
        go_wp2_with fail
        go_end0
        exact ⟨rfl, HF.out⟩
    | false =>
      as_aux_lemma =>
        have hj : jn x P (a + 1) = P.set a (p.1, x) := by
          unfold jn
          rw [if_pos hbA, if_neg (by rw [hbB]; simp)]
          simp [hp]
        have G5 := Gt.cell HG.out.1 (j := a * 2 + 1) (P' := P.set a (p.1, x)) (.int .u32 (ab C x)) (by simp) (cellsA_set1 C x P a p hp)
        have U5 := HG.out.2.1.trans (Gt.up_cell (j := a * 2 + 1) HG.out.1 (.int .u32 (ab C x)) P.length)
        have B5 := HG.out.2.2.setCell (p := ⟨hh, a * 2 + 1, none⟩) hb0h (.int .u32 (ab C x))
        have HJ := Lib.hid (show ∀ w5, Below (w4.setCell ⟨hh, a * 2 + 1, none⟩ (.int .u32 (ab C x))).heap.size (w4.setCell ⟨hh, a * 2 + 1, none⟩ (.int .u32 (ab C x))) w5 → Jo b0 g C c (jn x P (idx x P)) D (.slice (some ⟨hh, 0, none⟩) P.length cap) dv w w5 from fun w5 hb => by
          rw [ha, hj]
          exact ⟨_, G5.below hb (Nat.le_refl _), by
            have := U5.trans (Up.of_below hb)
            simpa using this, B5.trans (hb.mono (by have := B5.size; omega))⟩)
        clear G5 U5 B5 hj HC4 HW HG X4 be4 hC' K hP
        generalize ab C x = yx at *
        go_upto_region 11 with fail
        go_region
        go_wp2_with fail
        go_end0
        refine ⟨rfl, ?_⟩
        have q := HJ.out _ (Below.refl _ _).drew
        rw [ha, hnP] at q
        exact q
  | false =>
    cases bB with
    | true =>
      as_aux_lemma =>
        have han : a < n := by
          rcases Nat.lt_or_ge a P.length with h | h
          · omega
          · exact absurd hbB (by unfold behind; rw [List.getElem?_eq_none h]; simp)
        obtain ⟨p, hp⟩ : ∃ p, P[a]? = some p := ⟨_, List.getElem?_eq_getElem (by rw [hnP]; exact han)⟩
        obtain ⟨ho, hhl, hpb, hC'⟩ := HC4.out (by omega)
        subst ho
        subst hpv
        have K := hC' a p hp
        have k1 : w4.cell? ⟨hh, a * 2, none⟩ = some (.int .u32 (ab C p.1)) := K.cell 0 rfl
        have f1 : w4.frozen? ⟨hh, a * 2, none⟩ = false := K.frozen 0 (by show 0 < 2; omega)
        have hb0h : b0 ≤ hh := own_ge HG.out.1.p hh hpb
        have hai : (a : Int) < (n : Int) := by omega
        have hj : jn x P a = P.set a (x, p.2) := by
          unfold jn
          rw [if_neg (by rw [hbA]; simp), if_pos hbB]
          simp [hp]
        have G5 := Gt.cell HG.out.1 (j := a * 2) (P' := P.set a (x, p.2)) (.int .u32 (ab C x)) (by simp) (cellsA_set0 C x P a p hp)
        have U5 := HG.out.2.1.trans (Gt.up_cell (j := a * 2) HG.out.1 (.int .u32 (ab C x)) P.length)
        have B5 := HG.out.2.2.setCell (p := ⟨hh, a * 2, none⟩) hb0h (.int .u32 (ab C x))
        have HJ := Lib.hid (show ∀ w5, Below (w4.setCell ⟨hh, a * 2, none⟩ (.int .u32 (ab C x))).heap.size (w4.setCell ⟨hh, a * 2, none⟩ (.int .u32 (ab C x))) w5 → Jo b0 g C c (jn x P (idx x P)) D (.slice (some ⟨hh, 0, none⟩) P.length cap) dv w w5 from fun w5 hb => by
          rw [ha, hj]
          exact ⟨_, G5.below hb (Nat.le_refl _), by
            have := U5.trans (Up.of_below hb)
            simpa using this, B5.trans (hb.mono (by have := B5.size; omega))⟩)
        clear G5 U5 B5 hj HC4 HW HG X4 be4 hC' K hP
        generalize ab C x = yx at *
        go_upto_region 13 with fail
        go_region
        go_wp2_with fail
        go_end0
        refine ⟨rfl, ?_⟩
        have q := HJ.out _ (Below.refl _ _).drew
        rw [ha, hnP] at q
        exact q
    | false =>
      as_aux_lemma =>
        subst hpv
        have hj : jn x P a = insL a x P := by
          unfold jn
          rw [if_neg (by rw [hbA]; simp), if_neg (by rw [hbB]; simp)]
        have hil := insL_len a x P
        have al5 : Below w4.heap.size w4 (w4.alloc (.cells (prt (ab C x) (ab C x)) 193)).drew := ((Below.refl w4.heap.size w4).alloc (Nat.le_refl _) _).drew
        have G5 := HG.out.1.below al5 (Nat.le_refl _)
        have V5 : Blk (w4.alloc (.cells (prt (ab C x) (ab C x)) 193)).drew w4.heap.size 193 (prt (ab C x) (ab C x)) := Blk.new w4 _ _
        have hpw : (Value.slice oa P.length cap).ownBlock ≠ some w4.heap.size := fun e => by have := own_lt' HG.out.1.p e; omega
        have hb05 : b0 ≤ (w4.alloc (.cells (prt (ab C x) (ab C x)) 193)).drew.heap.size := by have := G5.hg; have := G5.B.lt; omega
        have hins := insert_at b0 C w4.heap.size x a P _ _ G5.p V5 hpw (by rw [hnP]; exact hal) (by rw [hnP]; omega) hb05
        have U5 := HG.out.2.1.trans (Up.of_below al5)
        have B5 := HG.out.2.2.trans (al5.mono (by have := HG.out.1.hg; have := HG.out.1.B.lt; omega))
        have HGG := Lib.hid (And.intro G5 (And.intro U5 B5))
        have hgl5 := G5.B.lt
        have hnpg := G5.np
        have hndg := G5.nd
        have hpd5 := G5.pd
        have HJ := Lib.hid (show jn x P (idx x P) = insL a x P by rw [ha, hj])
        have HIL := Lib.hid hil
        have HPD := Lib.hid hpd5
        have HDL := Lib.hid (show ∀ k, dv.ownBlock = some k → k < (w4.alloc (.cells (prt (ab C x) (ab C x)) 193)).drew.heap.size from fun k hk => own_lt' G5.d hk)
        have c5 : (w4.alloc (.cells (prt (ab C x) (ab C x)) 193)).cell? ⟨g, 1, none⟩ = some (.slice oa n cap) := by
          have c5' : (w4.alloc (.cells (prt (ab C x) (ab C x)) 193)).cell? ⟨g, 1, none⟩ = some (.slice oa P.length cap) := G5.B.cell 1
          rw [hnP] at c5'
          exact c5'
        have HFIN := Lib.hid (show ∀ (w6 : World) (h6 cap6 : Nat), w6.ownsRow b0 193 2 (.slice (some ⟨h6, 0, none⟩) (n + 1) cap6) (n + 1) (cellsA C (insL a x P)) → ((Value.slice oa n cap).ownBlock = some h6 ∨ (w4.alloc (.cells (prt (ab C x) (ab C x)) 193)).drew.heap.size ≤ h6) → (∀ j, j < (w4.alloc (.cells (prt (ab C x) (ab C x)) 193)).drew.heap.size → (Value.slice oa n cap).ownBlock ≠ some j → w6.heap[j]? = (w4.alloc (.cells (prt (ab C x) (ab C x)) 193)).drew.heap[j]?) → (w4.alloc (.cells (prt (ab C x) (ab C x)) 193)).drew.heap.size ≤ w6.heap.size → Below b0 (w4.alloc (.cells (prt (ab C x) (ab C x)) 193)).drew w6 →
            Jo b0 g C c (jn x P (idx x P)) D (.slice oa P.length cap) dv w (w6.setCell ⟨g, 1, none⟩ (.slice (some ⟨h6, 0, none⟩) (n + 1) cap6)) from fun w6 h6 cap6 own6 hat keep6 size6 bel6 => by
          have hnb : (Value.slice oa n cap).ownBlock = (Value.slice oa P.length cap).ownBlock := by rw [hnP]
          rw [hnb] at hat keep6
          have hg6 : h6 ≠ g := by
            rcases hat with q | q
            · intro e; exact hnpg (by rw [q, e])
            · omega
          have G6 : Blk w6 g 189 _ := (keep6 g hgl5 hnpg).trans HGG.out.1.B
          have d6 := own_other HGG.out.1.d (fun k hk => keep6 k (HDL.out k hk) (fun e => HPD.out k e hk))
          rw [HJ.out]
          refine ⟨.slice (some ⟨h6, 0, none⟩) (n + 1) cap6, ⟨G6.set_ 1 _, ?_, own_other d6 (fun k hk => Below.heap_setCell w6 ⟨g, 1, none⟩ _ k (fun e => hndg (by have e' : k = g := e; rw [← e']; exact hk))), fun e => hg6 (Option.some.inj e), hndg, fun k hk e => ?_, hg0⟩, ?_, (HGG.out.2.2.trans bel6).setCell (p := ⟨g, 1, none⟩) hg0 _⟩
          · show World.ownsRow _ _ _ _ _ (insL a x P).length _
            rw [HIL.out, hnP]
            exact own_other own6 (fun k hk => Below.heap_setCell w6 ⟨g, 1, none⟩ _ k (fun e => by cases hk; exact hg6 e))
          · cases hk
            rcases hat with q | q
            · exact HPD.out h6 q e
            · have := HDL.out h6 e; omega
          · refine HGG.out.2.1.trans ⟨by simpa [World.setCell] using size6, fun k hk h1 h2 _ => (Below.heap_setCell w6 ⟨g, 1, none⟩ _ k h1).trans (keep6 k hk h2), fun k hk => ?_, fun k hk => .inl hk⟩
            cases hk
            exact hat)
        unfold Ins at hins
        rw [hil, hnP] at hins
        have hkeepg : ∀ w6, (∀ j, j < (w4.alloc (.cells (prt (ab C x) (ab C x)) 193)).drew.heap.size → (Value.slice oa n cap).ownBlock ≠ some j → w6.heap[j]? = (w4.alloc (.cells (prt (ab C x) (ab C x)) 193)).drew.heap[j]?) → Blk w6 g 189 #[.int .u32 (ab C c), .slice oa n cap, dv] := fun w6 hk => by
          have hnb : (Value.slice oa n cap).ownBlock = (Value.slice oa P.length cap).ownBlock := by rw [hnP]
          have := (hk g hgl5 (by rw [hnb]; exact hnpg)).trans HGG.out.1.B
          rw [hnP] at this
          exact this
        have HKG := Lib.hid hkeepg
        have HINS := Lib.hid hins
        clear G5 V5 U5 B5 hpw hil hj hpd5 hnpg hndg HC4 HW HG X4 be4 hP al5 hkeepg hins HPD HDL HGG HJ HIL
        generalize ab C x = yx at *
        go_upto_region 6 with fail
        go_region_law ((refine step_call2 (by rfl) 155 Try.f155 _ _ (by rfl) Try.func155 (by kernel_rfl) (by kernel_rfl) _ (by simp [Act.eval, Act.put]) HINS.out ?_; rintro e w6 ⟨h6, cap6, rfl, own6, hat6, keep6, size6, bel6⟩; refine ⟨_, rfl, ?_⟩; have B6 := HKG.out w6 keep6; have f6 : w6.frozen? ⟨g, 1, none⟩ = false := B6.frozen 1; have c6 : w6.cell? ⟨g, 1, none⟩ = some (.slice oa n cap) := B6.cell 1))
        all_goals
          have HFF := Lib.hid (HFIN.out w6 h6 cap6 own6 hat6 keep6 size6 bel6)
          clear own6 hat6 keep6 size6 bel6 HFIN HKG HINS
          go_wp2_with fail
          go_end0
          refine ⟨rfl, ?_⟩
          have q := HFF.out
          rw [ha, hnP] at q
          exact q
end Go.Proofs.Ythddacgdmngfhaa.gap
