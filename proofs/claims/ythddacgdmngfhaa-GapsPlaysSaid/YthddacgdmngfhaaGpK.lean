/- Layer 16: going on. -/
import Derived.Test.YthddacgdmngfhaaGpJ
namespace Go.Proofs.Ythddacgdmngfhaa.gap
open Go.Sort (grow)
open Go.ChangeShapes Go.WideShapes Go.ChangeAt Go.RowKit kit gapm
set_option maxRecDepth 100000
def JoS (b0 g C : Nat) (s' : St) (D' : List Int) (pv dv : Value) (w w' : World) : Prop := ∃ pv' dv', Gt b0 g C s' D' pv' dv' w' ∧ Up g pv dv w pv' dv' w' ∧ Below b0 w w'
set_option maxHeartbeats 4000000 in
theorem goOn_any {b0 g C c : Nat} {P : Pt} {D : List Int} {pv dv : Value} {w : World} (h : Gt b0 g C ⟨c, P⟩ D pv dv w) (hn : P.length ≤ 2000) (hP : Bd P) (hc : c < 268435456) :
    Calls Try.prog 102 #[.pointer (some ⟨g, 0, none⟩)] w fun e w' => e = .returned (.tuple #[]) ∧ JoS b0 g C (goOn ⟨c, P⟩) D pv dv w w' := by
  have hb0 : b0 ≤ w.heap.size := by have := h.hg; have := h.B.lt; omega
  obtain ⟨hh, oa, cap, hpv, hcl, hcm, hC⟩ := own_row h.p
  have c1 : w.cell? ⟨g, 1, none⟩ = some (.slice oa P.length cap) := (h.B.cell 1).trans (congrArg some hpv)
  have c0 : w.cell? ⟨g, 0, none⟩ = some (.int .u32 (ab C c)) := h.B.cell 0
  unfold maxLen at hcm
  cases P with
  | nil =>
    have HF := Lib.hid (show ∀ w', Below w.heap.size w w' → JoS b0 g C (goOn ⟨c, []⟩) D pv dv w w' from fun w' hb => ⟨pv, dv, h.below hb (Nat.le_refl _), Up.of_below hb, hb.mono hb0⟩)
    have kq1 := cell_regrown c1
    clear h hC hpv
    simp only [List.length_nil] at kq1 c1
    go_enter Try.func102, Try.ntmps102
    refine wp_seq ?_
    refine wp_region_quiet_below (by kernel_rfl) (by kernel_rfl) ?_
    repeat (any_goals (first | go_big_quiet_step (fail) | quiet_step (fail)))
    refine wpQuiet_nil ?_
    intro _ hw'
    obtain ⟨⟨dq, osq⟩, hw''⟩ := hw'
    subst hw''
    have hbq := below_regrown w dq osq
    go_wp2_with fail
    go_end0
    exact ⟨rfl, HF.out _ hbq⟩
  | cons p r =>
    obtain ⟨f, u⟩ := p
    obtain ⟨ho, hhl, hpb, hC'⟩ := hC (by simp)
    subst ho
    subst hpv
    have K := hC' 0 (f, u) rfl
    have k0 : w.cell? ⟨hh, 0, none⟩ = some (.int .u32 (ab C f)) := K.cell 0 rfl
    have hfb := (hP (f, u) (by simp)).1
    have hwr := ab_wrap C c
    have heq : (ab C f == ab C (c + 1)) = (f == c + 1) := ab_eq (by omega) (by omega)
    obtain ⟨n, hnr⟩ : ∃ n, ((f, u) :: r).length = n := ⟨_, rfl⟩
    have hn1 : 0 < n := by rw [← hnr]; simp
    have hni : (0 : Int) < (n : Int) := by omega
    rw [hnr] at c1 hcl hn
    have hb0h : b0 ≤ hh := own_ge h.p hh hpb
    have hhg : hh ≠ g := fun e => h.np (by rw [e]; rfl)
    have hgo : goOn ⟨c, (f, u) :: r⟩ = if f = c + 1 then ⟨u, r⟩ else ⟨c, (f, u) :: r⟩ := rfl
    obtain ⟨bq, hbq⟩ : ∃ bq, (ab C f == ab C (c + 1)) = bq := ⟨_, rfl⟩
    have hbq' : (f == c + 1) = bq := by rw [← heq, hbq]
    have HG := Lib.hid h
    have HNR := Lib.hid hnr
    have kq1 := cell_regrown c1
    have kq0 := cell_regrown c0
    have kqf := cell_regrown k0
    clear h hC hC' K heq hP hnr
    generalize hz1 : ab C (c + 1) = z1 at *
    generalize hz0 : ab C c = z0 at *
    generalize hzf : ab C f = zf at *
    go_enter Try.func102, Try.ntmps102
    go_upto_region 0 with fail
    go_cut [22] (fun s22 wx => s22 = .bool bq ∧ Below w.heap.size w wx)
    case first =>
      refine wp_region_quiet_below (by kernel_rfl) (by kernel_rfl) ?_
      repeat (any_goals (first | go_big_quiet_step (fail) | quiet_step (fail)))
      refine wpQuiet_nil ?_
      intro _ hw'
      obtain ⟨⟨dq, osq⟩, hw''⟩ := hw'
      subst hw''
      go_wp2_with fail
      go_meet
      exact ⟨by first | rfl | (simp [hbq]; done), below_regrown w dq osq⟩
    case rest =>
    obtain ⟨rfl, hb1⟩ := hcut
    generalize wc = w1 at *
    clear kq1 kq0 kqf c1 c0 k0 hbq
    have G1 := HG.out.below hb1 (Nat.le_refl _)
    have B1 : Below b0 w w1 := hb1.mono hb0
    have HX := Lib.hid (And.intro G1 B1)
    cases bq with
    | false =>
      have hgo2 : goOn ⟨c, (f, u) :: r⟩ = ⟨c, (f, u) :: r⟩ := by rw [hgo, if_neg (by simpa using hbq')]
      have HJ := Lib.hid (show JoS b0 g C (goOn ⟨c, (f, u) :: r⟩) D (.slice (some ⟨hh, 0, none⟩) ((f, u) :: r).length cap) dv w w1 from by
        rw [hgo2]
        exact ⟨_, _, HX.out.1, Up.of_below hb1, HX.out.2⟩)
      clear hgo hgo2 hbq' G1 HG
      go_wp2_with fail
      go_end0
      exact ⟨rfl, HJ.out⟩
    | true =>
      have hfc : f = c + 1 := by simpa using hbq'
      have hgo2 : goOn ⟨c, (f, u) :: r⟩ = ⟨u, r⟩ := by rw [hgo, if_pos hfc]
      have c1 : w1.cell? ⟨g, 1, none⟩ = some (.slice (some ⟨hh, 0, none⟩) ((f, u) :: r).length cap) := G1.B.cell 1
      rw [HNR.out] at c1
      have c0 : w1.cell? ⟨g, 0, none⟩ = some (.int .u32 (ab C c)) := G1.B.cell 0
      have f0 : w1.frozen? ⟨g, 0, none⟩ = false := G1.B.frozen 0
      obtain ⟨_, _, _, hq, _, _, hC1⟩ := own_row G1.p
      obtain ⟨ho1, _, hpb1, hC1⟩ := hC1 (by simp)
      cases hpb1
      have k1 : w1.cell? ⟨hh, 1, none⟩ = some (.int .u32 (ab C u)) := (hC1 0 (f, u) rfl).cell 1 rfl
      have pd := G1.pd
      have nd := G1.nd
      have hgg := G1.hg
      -- the number up to which all came
      have B2 : Blk (w1.setCell ⟨g, 0, none⟩ (.int .u32 (ab C u))) g 189 #[.int .u32 (ab C u), .slice (some ⟨hh, 0, none⟩) ((f, u) :: r).length cap, dv] := G1.B.set_ 0 _
      have p2 := own_other (w' := w1.setCell ⟨g, 0, none⟩ (.int .u32 (ab C u))) G1.p (fun k hk => Below.heap_setCell w1 ⟨g, 0, none⟩ _ k (fun e => by cases hk; exact hhg e))
      have d2 := own_other (w' := w1.setCell ⟨g, 0, none⟩ (.int .u32 (ab C u))) G1.d (fun k hk => Below.heap_setCell w1 ⟨g, 0, none⟩ _ k (fun e => nd (by have e' : k = g := e; rw [← e']; exact hk)))
      have hdel := delete_at b0 hh cap 0 C ((f, u) :: r) _ p2 (by simp)
      have hlr : ((f, u) :: r).length = n := HNR.out
      have hrl : r.length = n - 1 := by rw [← hlr]; simp
      have he0 : ((f, u) :: r).eraseIdx 0 = r := rfl
      rw [hlr, he0] at hdel
      have hdel' : Calls Try.prog 154 #[.slice (some ⟨hh, 0, none⟩) n cap, .int .i64 0, .int .i64 1] (w1.setCell ⟨g, 0, none⟩ (.int .u32 (ab C u))) _ := hdel
      have S2 : w1.heap.size ≤ (w1.setCell ⟨g, 0, none⟩ (.int .u32 (ab C u))).heap.size := by simp [World.setCell]
      have U2 : Up g (.slice (some ⟨hh, 0, none⟩) ((f, u) :: r).length cap) dv w (.slice (some ⟨hh, 0, none⟩) ((f, u) :: r).length cap) dv (w1.setCell ⟨g, 0, none⟩ (.int .u32 (ab C u))) := (Up.of_below hb1).trans ⟨S2, fun k hk h1 _ _ => Below.heap_setCell w1 ⟨g, 0, none⟩ _ k h1, fun k hk => .inl hk, fun k hk => .inl hk⟩
      have Be2 := B1.setCell (p := ⟨g, 0, none⟩) hgg (.int .u32 (ab C u))
      have HF := Lib.hid (show ∀ w7, w7.ownsRow b0 193 2 (.slice (some ⟨hh, 0, none⟩) (n - 1) cap) (n - 1) (cellsA C r) → Only hh (w1.setCell ⟨g, 0, none⟩ (.int .u32 (ab C u))) w7 → Below b0 (w1.setCell ⟨g, 0, none⟩ (.int .u32 (ab C u))) w7 → Blk w7 g 189 #[.int .u32 (ab C u), .slice (some ⟨hh, 0, none⟩) ((f, u) :: r).length cap, dv] ∧ JoS b0 g C (goOn ⟨c, (f, u) :: r⟩) D (.slice (some ⟨hh, 0, none⟩) ((f, u) :: r).length cap) dv w (w7.setCell ⟨g, 1, none⟩ (.slice (some ⟨hh, 0, none⟩) (n - 1) cap)) from fun w7 own7 O7 b7 => by
        have G7 := O7.blk B2 (Ne.symm hhg)
        have d7 := own_other d2 (fun k hk => O7.block k (own_lt' d2 hk) (fun e => pd hh rfl (by rw [← e]; exact hk)))
        refine ⟨G7, ?_⟩
        rw [hgo2]
        refine ⟨.slice (some ⟨hh, 0, none⟩) (n - 1) cap, dv, ⟨G7.set_ 1 _, ?_, own_other d7 (fun k hk => Below.heap_setCell w7 ⟨g, 1, none⟩ _ k (fun e => nd (by have e' : k = g := e; rw [← e']; exact hk))), fun e => hhg (Option.some.inj e), nd, pd, hgg⟩, U2.trans ⟨by have := O7.size; simpa [World.setCell] using this, fun k hk h1 h2 _ => (Below.heap_setCell w7 ⟨g, 1, none⟩ _ k h1).trans (O7.block k hk (fun e => h2 (by rw [e]; rfl))), fun k hk => .inl hk, fun k hk => .inl hk⟩, (Be2.trans b7).setCell (p := ⟨g, 1, none⟩) hgg _⟩
        show World.ownsRow _ _ _ _ _ r.length _
        rw [hrl]
        exact own_other own7 (fun k hk => Below.heap_setCell w7 ⟨g, 1, none⟩ _ k (fun e => by cases hk; exact hhg e)))
      have c2 : (w1.setCell ⟨g, 0, none⟩ (.int .u32 (ab C u))).cell? ⟨g, 1, none⟩ = some (.slice (some ⟨hh, 0, none⟩) ((f, u) :: r).length cap) := B2.cell 1
      rw [hlr] at c2
      have HDEL := Lib.hid hdel'
      have HLR := Lib.hid hlr
      clear hdel hdel' B2 p2 d2 U2 Be2 G1 B1 HX HG hgo hgo2 hbq' hC1 pd nd hlr hrl hq hb1 S2 he0
      generalize ab C u = zu at *
      generalize ab C c = z00 at *
      go_upto_region 1 with fail
      go_upto_region 2 with fail
      clear c1 c0 f0 k1
      generalize w1.setCell ⟨g, 0, none⟩ (.int .u32 zu) = w2 at *
      go_wp2_with fail
      refine HDEL.out.mono ?_
      rintro e w7 ⟨rfl, own7, O7, b7⟩
      obtain ⟨G7, HJ⟩ := HF.out w7 own7 O7 b7
      have c7 : w7.cell? ⟨g, 1, none⟩ = some (.slice (some ⟨hh, 0, none⟩) ((f, u) :: r).length cap) := G7.cell 1
      have f7 : w7.frozen? ⟨g, 1, none⟩ = false := G7.frozen 1
      have HJJ := Lib.hid HJ
      clear HJ own7 O7 b7 HF HDEL
      go_wp2_with fail
      go_end0
      exact ⟨rfl, HJJ.out⟩
end Go.Proofs.Ythddacgdmngfhaa.gap
