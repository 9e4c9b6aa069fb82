/- Layer 16: what is told of which numbers came. -/
import Derived.Test.YthddacgdmngfhaaGpL
import Derived.Test.YthddacgdmngfhaaGapC
import Derived.Test.YthddacgdmngfhaaKitU
import Derived.Test.YthddacgdmngfhaaKitV
import Derived.Deep.RegionHeld3
namespace Go.Proofs.Ythddacgdmngfhaa.gap
open Go.Sort (grow)
open Go.ChangeShapes Go.WideShapes Go.ChangeAt Go.RowKit kit gapm
set_option maxRecDepth 100000
theorem run_buildw {P : Program} {oi : Oper} {a : Act} {x z : Operand} {ty : TypeId} {s t u : Value} {v : World} (ho : oi.op = .build ty #[(0, x), (1, z)]) (hx : a.eval x = s) (hz : a.eval z = t) (hr : (Instr.build ty #[(0, s), (1, t)]).run P v = .ok u v) : (execOp a.eval oi).run P v = .ok (.value u) v := by
  unfold execOp
  simp only [ho, List.map_toArray, List.map_cons, List.map_nil, hx, hz, Sem.run_bind, Sem.run_pure, Result.andThen_ok, hr]
theorem step_app2' {P : Program} {ops : Array Oper} {Q : Exit → Act → World → Prop} {S : World → Prop} {i : Nat} {o : Oper} {d fuel : Nat} {L : Array Bool} {a : Act} {w w' : World} {s x : Operand} {t : TypeId} {v sv v' : Value} (hr : Region.ready .any ops L = [i]) (hi : ops[i]? = some o) (hg : o.guard = none) (hd : o.dst = some d) (ho : o.op = .call { callee := .builtin .append, args := #[s, x], argTypes := #[t, t] })
    (hs : a.eval s = v) (hx : a.eval x = sv) (hrun : (Builtin.append_ #[t, t] o.type #[v, sv]).run P w = .ok v' w') (hS : S w') (h : wpAnyH P .any ops Q S fuel (L.setIfInBounds i true) (a.put (some d) v') w') : wpAnyH P .any ops Q S (fuel + 1) L a w :=
  wpAnyH_step hr (by simp) fun j hj => by
    obtain rfl : j = i := by simpa using hj
    exact wpOp_of hi hg (wp_append_src s x t ho hs hx hrun ⟨hS, hd ▸ h⟩)
theorem Gt.weaken {b0 b1 g C : Nat} {s : St} {D : List Int} {pv dv : Value} {w : World} (h : Gt b0 g C s D pv dv w) (hb : b1 ≤ b0) : Gt b1 g C s D pv dv w := by
  refine ⟨h.B, ⟨h.p.1, h.p.2.imp id (fun ⟨a, b, c, q1, q2, q3⟩ => ⟨a, b, c, q1, Nat.le_trans hb q2, q3⟩)⟩, ⟨h.d.1, h.d.2.imp id (fun ⟨a, b, c, q1, q2, q3⟩ => ⟨a, b, c, q1, Nat.le_trans hb q2, q3⟩)⟩, h.np, h.nd, h.pd, Nat.le_trans hb h.hg⟩
theorem new_gt (C : Nat) (hC : C < 4294967296) (w : World) : Calls Try.prog 37 #[.int .u32 (C : Int)] w fun e w' => e = .returned (.pointer (some ⟨w.heap.size, 0, none⟩)) ∧ Gt w.heap.size w.heap.size C ⟨0, []⟩ [] (.slice none 0 0) (.slice none 0 0) w' ∧ Below w.heap.size w w' := by
  have e : ab C 0 = (C : Int) := by unfold ab; omega
  have B := Blk.new w 189 #[.int .u32 (ab C 0), .slice none 0 0, .slice none 0 0]
  have al := (Below.refl w.heap.size w).alloc (Nat.le_refl _) (.cells #[.int .u32 (ab C 0), .slice none 0 0, .slice none 0 0] 189)
  rw [e] at B al
  go_enter Try.func37, Try.ntmps37
  go_wp2
  go_ret
  exact ⟨rfl, ⟨by rw [show ab C (⟨0, []⟩ : St).c = (C : Int) from e]; exact B, World.ownsRow_nil _ _ _ _, World.ownsRow_nil _ _ _ _, (fun q => by cases q), (fun q => by cases q), (fun k q => by cases q), Nat.le_refl _⟩, al⟩
theorem cum_any {b0 g C : Nat} {s : St} {D : List Int} {pv dv : Value} {w : World} (h : Gt b0 g C s D pv dv w) : Calls Try.prog 42 #[.pointer (some ⟨g, 0, none⟩)] w fun e w' => e = .returned (.int .u32 (ab C s.c)) ∧ w = w' := by
  have c0 : w.cell? ⟨g, 0, none⟩ = some (.int .u32 (ab C s.c)) := h.B.cell 0
  clear h
  go_enter Try.func42, Try.ntmps42
  go_wp2
  go_ret
  exact ⟨rfl, rfl⟩
theorem whole_any {b0 g C : Nat} {s : St} {D : List Int} {pv dv : Value} {w : World} (h : Gt b0 g C s D pv dv w) : Calls Try.prog 43 #[.pointer (some ⟨g, 0, none⟩)] w fun e w' => e = .returned (.bool s.P.isEmpty) ∧ w = w' := by
  obtain ⟨hh, oa, cap, hpv, _, _, _⟩ := own_row h.p
  have c1 : w.cell? ⟨g, 1, none⟩ = some (.slice oa s.P.length cap) := (h.B.cell 1).trans (congrArg some hpv)
  clear h hpv
  obtain ⟨c, P⟩ := s
  cases P with
  | nil =>
    have c1' : w.cell? ⟨g, 1, none⟩ = some (.slice oa 0 cap) := c1
    go_enter Try.func43, Try.ntmps43
    go_wp2
    go_ret
    exact ⟨rfl, rfl⟩
  | cons p r =>
    have c1' : w.cell? ⟨g, 1, none⟩ = some (.slice oa (r.length + 1) cap) := c1
    have hne : ¬ ((r.length : Int) + 1 = 0) := by omega
    clear c1
    go_enter Try.func43, Try.ntmps43
    go_wp2
    go_ret
    exact ⟨rfl, rfl⟩
def cellsGp : List (Int × Int) → List Value
  | [] => []
  | p :: r => .int .i64 p.1 :: .int .i64 p.2 :: cellsGp r
theorem cellsGp_len : ∀ L, (cellsGp L).length = L.length * 2
  | [] => rfl
  | p :: r => by simp only [cellsGp, List.length_cons, cellsGp_len r]; omega
theorem cellsGp_append : ∀ L M, cellsGp (L ++ M) = cellsGp L ++ cellsGp M
  | [], _ => rfl
  | p :: r, M => by simp only [List.cons_append, cellsGp, cellsGp_append r M]
def gl (c : Nat) (P : Pt) : List (Int × Int) := P.map fun p => ((p.1 : Int) - (c : Int), (p.2 : Int) - (c : Int))
set_option maxHeartbeats 4000000 in
theorem gaps_any {b0 g C : Nat} {s : St} {D : List Int} {pv dv : Value} {w : World} (h : Gt b0 g C s D pv dv w) (hn : s.P.length ≤ 2000) (hP : Bd s.P) (hc : s.c < 268435456) :
    Calls Try.prog 46 #[.pointer (some ⟨g, 0, none⟩)] w fun e w' => ∃ v, e = .returned v ∧ w'.ownsRow w.heap.size 133 2 v (min s.P.length 16) (cellsGp (gl s.c (s.P.take 16))) ∧ Below w.heap.size w w' := by
  obtain ⟨c, P⟩ := s
  dsimp only at *
  obtain ⟨hh, oa, cap, hpv, hcl, hcm, hC⟩ := own_row h.p
  dsimp only at hpv hcl hC
  have c1 : w.cell? ⟨g, 1, none⟩ = some (.slice oa P.length cap) := (h.B.cell 1).trans (congrArg some hpv)
  have c0 : w.cell? ⟨g, 0, none⟩ = some (.int .u32 (ab C c)) := h.B.cell 0
  have hgl := h.B.lt
  obtain ⟨N, hN⟩ : ∃ N, min P.length 16 = N := ⟨_, rfl⟩
  obtain ⟨n, hnP⟩ : ∃ n, P.length = n := ⟨_, rfl⟩
  rw [hN]
  have hNn : N ≤ n ∧ N ≤ 16 ∧ N ≤ cap := by omega
  have hlt : (P.take 16).length = N := by rw [List.length_take]; omega
  have HC := Lib.hid hC
  have HNP := Lib.hid (And.intro hnP (And.intro hlt hN))
  rw [hnP] at c1 hcl hn
  rw [hnP] at hN
  unfold maxLen at hcm
  have HB := Lib.hid h
  have HPb := Lib.hid hP
  clear h hC hnP hlt hP hpv
  go_enter Try.func46, Try.ntmps46
  go_upto_region 4 with fail
  go_cut [18, 19, 20] (fun s18 s19 s20 wx => s18 = .slice oa N cap ∧ s19 = .int .i64 N ∧ s20 = .int .i64 0 ∧ Below w.heap.size w wx)
  case first =>
    have kq1 := cell_regrown c1
    by_cases h16 : (n : Int) ≤ 16
    · obtain rfl : N = n := by omega
      refine wp_region_quiet_below (by kernel_rfl) (by kernel_rfl) ?_
      repeat (any_goals (first | go_big_quiet_step (fail) | quiet_step (fail)))
      all_goals
        refine wpQuiet_nil ?_
        intro _ hw'
        obtain ⟨⟨dq, osq⟩, hw''⟩ := hw'
        subst hw''
        go_wp2_with fail
        go_meet
        exact ⟨by first | rfl | (simp; omega), by first | rfl | (simp; omega), rfl, below_regrown w dq osq⟩
    · obtain rfl : N = 16 := by omega
      refine wp_region_quiet_below (by kernel_rfl) (by kernel_rfl) ?_
      repeat (any_goals (first | go_big_quiet_step (fail) | quiet_step (fail)))
      all_goals
        refine wpQuiet_nil ?_
        intro _ hw'
        obtain ⟨⟨dq, osq⟩, hw''⟩ := hw'
        subst hw''
        go_wp2_with fail
        go_meet
        exact ⟨by first | rfl | (simp; omega), by first | rfl | (simp; omega), rfl, below_regrown w dq osq⟩
  case rest =>
  obtain ⟨rfl, rfl, rfl, hb1⟩ := hcut
  generalize wc = w1 at *
  have G1 := HB.out.below hb1 (Nat.le_refl _)
  have c0' : w1.cell? ⟨g, 0, none⟩ = some (.int .u32 (ab C c)) := G1.B.cell 0
  clear c0 c1 G1
  have HC1 := Lib.hid (show 0 < n → oa = some ⟨hh, 0, none⟩ ∧ hh < w.heap.size ∧ ∀ k p, P[k]? = some p → Cel w hh (k * 2) (prt (ab C p.1) (ab C p.2)) from fun h0 => by
    obtain ⟨q1, q2, _, q4⟩ := HC.out (by rw [HNP.out.1]; exact h0)
    exact ⟨q1, q2, q4⟩)
  clear HC
  have HC0 := Lib.hid (HB.out.B)
  clear HB c0'
  obtain ⟨G0, hG0⟩ : ∃ G0, w.heap.size = G0 := ⟨_, rfl⟩
  rw [hG0] at hb1 hgl HC1
  have HG0 := Lib.hid hG0
  clear hG0
  obtain ⟨i0, hi, hz0, hz1, hz2⟩ := info_parts infoG
  go_wp2_with fail
  go_loopw [3, 20] (fun s3 s20 wr => ∃ (k : Nat) (lv : Value), k ≤ N ∧ lv = s3 ∧ s20 = .int .i64 k ∧ wr.ownsRow G0 133 2 lv k (cellsGp (gl c (P.take k))) ∧ Below G0 w wr) (fun _ s20 _ => N - (intOf s20).toNat)
  case atStart => exact ⟨0, _, by omega, rfl, rfl, by simpa [gl, cellsGp] using World.ownsRow_nil _ _ _ _, hb1⟩
  case round =>
    obtain ⟨k, lv, hk, rfl, rfl, own, bel⟩ := hrel
    by_cases hlt : k < N
    · obtain ⟨ho, hhl, hC⟩ := HC1.out (by omega)
      subst ho
      obtain ⟨p, hp⟩ : ∃ p, P[k]? = some p := ⟨_, List.getElem?_eq_getElem (by rw [HNP.out.1]; omega)⟩
      have hpb := HPb.out p (List.mem_of_getElem? hp)
      have K : Cel wr hh (k * 2) (prt (ab C p.1) (ab C p.2)) := (hC k p hp).below bel hhl
      have c0 : wr.cell? ⟨g, 0, none⟩ = some (.int .u32 (ab C c)) := (HC0.out.below bel hgl).cell 0
      have hd1 := fun W => diff_any (ab C p.1) (ab C c) W (ab_lo _ _) (ab_hi _ _) (ab_lo _ _) (ab_hi _ _)
      have hd2 := fun W => diff_any (ab C p.2) (ab C c) W (ab_lo _ _) (ab_hi _ _) (ab_lo _ _) (ab_hi _ _)
      rw [ab_diff (by omega) (by omega)] at hd1 hd2
      have hkk : (k : Int) < (N : Int) := by omega
      have htk : cellsGp (gl c (P.take (k + 1))) = cellsGp (gl c (P.take k)) ++ [.int .i64 ((p.1 : Int) - c), .int .i64 ((p.2 : Int) - c)] := by
        rw [List.take_add_one, hp]
        simp [gl, cellsGp_append, cellsGp]
      have HT := Lib.hid htk
      clear htk hp hC
      go_upto_region 7 with (refine wpList_load_at rfl 193 _ rfl hh (k * 2) rfl (prt (ab C p.1) (ab C p.2)) _ K Try.underlying193 rfl (szP _ _) ?_)
      have al2 : Below wr.heap.size wr (wr.alloc (.cells (prt (ab C p.1) (ab C p.2)) 193)) := (Below.refl _ _).alloc (Nat.le_refl _) _
      have N2 := Blk.new wr 193 (prt (ab C p.1) (ab C p.2))
      have own2 := own_below own al2 (fun j hj => own_lt' own hj)
      have bel2 := bel.trans (al2.mono (by have := bel.size; have := HG0.out; omega))
      have c02 : (wr.alloc (.cells (prt (ab C p.1) (ab C p.2)) 193)).cell? ⟨g, 0, none⟩ = some (.int .u32 (ab C c)) := (HC0.out.below bel2 hgl).cell 0
      have hyl : wr.heap.size < (wr.alloc (.cells (prt (ab C p.1) (ab C p.2)) 193)).heap.size := by simp
      have hGy : G0 ≤ wr.heap.size := by have := bel.size; have := HG0.out; omega
      have hlvy : ∀ j, lv.ownBlock = some j → j < wr.heap.size := fun j hj => own_lt' own hj
      have hge := own_ge own
      clear own bel K c0 al2
      obtain ⟨y, hy⟩ : ∃ y, wr.heap.size = y := ⟨_, rfl⟩
      rw [hy] at N2 hyl hGy hlvy
      rw [hy]
      generalize wr.alloc (.cells (prt (ab C p.1) (ab C p.2)) 193) = w2 at *
      have n0 : w2.cell? ⟨y, 0, none⟩ = some (.int .u32 (ab C p.1)) := N2.cell 0
      have n1 : w2.cell? ⟨y, 1, none⟩ = some (.int .u32 (ab C p.2)) := N2.cell 1
      have hgy : g < y := by omega
      generalize ab C p.1 = a1 at *
      generalize ab C p.2 = a2 at *
      generalize ab C c = a0 at *
      generalize (p.1 : Int) - (c : Int) = e1 at *
      generalize (p.2 : Int) - (c : Int) = e2 at *
      have HOW := Lib.hid own2
      have HBL := Lib.hid bel2
      have hlw : ∀ j, lv.ownBlock = some j → j < w2.heap.size := fun j hj => by have := hlvy j hj; omega
      have hs2 : G0 ≤ w2.heap.size := by have := bel2.size; have := HG0.out; omega
      have hneg : lv.ownBlock ≠ some g := fun e => by have := hge g e; omega
      have hney : lv.ownBlock ≠ some y := fun e => by have := hlvy y e; omega
      have HGE := Lib.hid hge
      have HS := Lib.hid (And.intro c02 (And.intro n0 n1))
      clear own2 bel2 N2 hge c02 n0 n1 hneg hney
      --REG7
      refine wp_region_noPanic ?_
      refine wp_region_held_drew (S := fun v => v.cell? ⟨g, 0, none⟩ = some (.int .u32 a0) ∧ v.cell? ⟨y, 0, none⟩ = some (.int .u32 a1) ∧ v.cell? ⟨y, 1, none⟩ = some (.int .u32 a2)) (by kernel_rfl) HS.out (fun _ => ?_)
      refine wpAnyH_abs _ (fun b hb => ?_)
      have bsz : b.tmps.size = 44 := by rw [hb]; rfl
      have b0' : b.eval (.tmp 0) = .pointer (some ⟨g, 0, none⟩) := by rw [hb]; rfl
      have b3 : b.eval (.tmp 3) = lv := by rw [hb]; rfl
      have b5 : b.eval (.tmp 5) = .pointer (some ⟨y, 0, none⟩) := by rw [hb]; rfl
      have HBB := Lib.hid hb
      clear hb
      refine take_run (i := 0) (u := (lv)) rfl (by kernel_rfl) (by kernel_rfl) (by kernel_rfl) rfl rfl (fun _ _ _ h => h) HS.out (fun v hv => run_move rfl (by simp [b3]) v) ?_
      refine take_run (i := 1) (u := (.pointer (some ⟨y, 0, none⟩))) rfl (by kernel_rfl) (by kernel_rfl) (by kernel_rfl) rfl rfl (fun _ _ _ h => h) HS.out (fun v hv => run_field (s := .pointer (some ⟨y, 0, none⟩)) rfl (by simp [Act.eval_put_ne, b5]) (by kernel_rfl)) ?_
      refine take_run (i := 2) (u := (.int .u32 a1)) rfl (by kernel_rfl) (by kernel_rfl) (by kernel_rfl) rfl rfl (fun _ _ _ h => h) HS.out (fun v hv => run_load1 (s := .pointer (some ⟨y, 0, none⟩)) rfl (by simp [Act.eval_put_same, Act.size_put, bsz]) (by obtain ⟨q1, q2, q3⟩ := hv; go_simp)) ?_
      refine take_run (i := 3) (u := (.pointer (some ⟨g, 0, none⟩))) rfl (by kernel_rfl) (by kernel_rfl) (by kernel_rfl) rfl rfl (fun _ _ _ h => h) HS.out (fun v hv => run_move rfl (by simp [Act.eval_put_ne, b0']) v) ?_
      refine take_run (i := 4) (u := (.pointer (some ⟨g, 0, none⟩))) rfl (by kernel_rfl) (by kernel_rfl) (by kernel_rfl) rfl rfl (fun _ _ _ h => h) HS.out (fun v hv => run_nilc rfl (by simp [Act.eval_put_same, Act.size_put, bsz])) ?_
      refine take_run (i := 5) (u := (.pointer (some ⟨g, 0, none⟩))) rfl (by kernel_rfl) (by kernel_rfl) (by kernel_rfl) rfl rfl (fun _ _ _ h => h) HS.out (fun v hv => run_field (s := .pointer (some ⟨g, 0, none⟩)) rfl (by simp [Act.eval_put_same, Act.size_put, bsz]) (by kernel_rfl)) ?_
      refine take_run (i := 6) (u := (.int .u32 a0)) rfl (by kernel_rfl) (by kernel_rfl) (by kernel_rfl) rfl rfl (fun _ _ _ h => h) HS.out (fun v hv => run_load1 (s := .pointer (some ⟨g, 0, none⟩)) rfl (by simp [Act.eval_put_same, Act.size_put, bsz]) (by obtain ⟨q1, q2, q3⟩ := hv; go_simp)) ?_
      refine take_run (i := 8) (u := (.pointer (some ⟨y, 1, none⟩))) rfl (by kernel_rfl) (by kernel_rfl) (by kernel_rfl) rfl rfl (fun _ _ _ h => h) HS.out (fun v hv => run_field (s := .pointer (some ⟨y, 0, none⟩)) rfl (by simp [Act.eval_put_ne, b5]) (by kernel_rfl)) ?_
      refine take_run (i := 9) (u := (.int .u32 a2)) rfl (by kernel_rfl) (by kernel_rfl) (by kernel_rfl) rfl rfl (fun _ _ _ h => h) HS.out (fun v hv => run_load1 (s := .pointer (some ⟨y, 1, none⟩)) rfl (by simp [Act.eval_put_same, Act.size_put, bsz]) (by obtain ⟨q1, q2, q3⟩ := hv; go_simp)) ?_
      refine take_run (i := 10) (u := (.pointer (some ⟨g, 0, none⟩))) rfl (by kernel_rfl) (by kernel_rfl) (by kernel_rfl) rfl rfl (fun _ _ _ h => h) HS.out (fun v hv => run_move rfl (by simp [Act.eval_put_ne, b0']) v) ?_
      refine take_run (i := 11) (u := (.pointer (some ⟨g, 0, none⟩))) rfl (by kernel_rfl) (by kernel_rfl) (by kernel_rfl) rfl rfl (fun _ _ _ h => h) HS.out (fun v hv => run_nilc rfl (by simp [Act.eval_put_same, Act.size_put, bsz])) ?_
      refine take_run (i := 12) (u := (.pointer (some ⟨g, 0, none⟩))) rfl (by kernel_rfl) (by kernel_rfl) (by kernel_rfl) rfl rfl (fun _ _ _ h => h) HS.out (fun v hv => run_field (s := .pointer (some ⟨g, 0, none⟩)) rfl (by simp [Act.eval_put_same, Act.size_put, bsz]) (by kernel_rfl)) ?_
      refine take_run (i := 13) (u := (.int .u32 a0)) rfl (by kernel_rfl) (by kernel_rfl) (by kernel_rfl) rfl rfl (fun _ _ _ h => h) HS.out (fun v hv => run_load1 (s := .pointer (some ⟨g, 0, none⟩)) rfl (by simp [Act.eval_put_same, Act.size_put, bsz]) (by obtain ⟨q1, q2, q3⟩ := hv; go_simp)) ?_
      refine step_calls (i := 7) (by kernel_rfl) rfl rfl rfl 96 Try.f96 _ _ rfl Try.func96 (by kernel_rfl) (by kernel_rfl) #[.int .u32 a1, .int .u32 a0] (by simp [Act.eval_put_same, Act.eval_put_ne, Act.size_put, bsz]) (hd1 _) ?_
      rintro e w9 ⟨rfl, rfl⟩
      refine ⟨_, rfl, HS.out, ?_⟩
      refine step_calls (i := 14) (by kernel_rfl) rfl rfl rfl 96 Try.f96 _ _ rfl Try.func96 (by kernel_rfl) (by kernel_rfl) #[.int .u32 a2, .int .u32 a0] (by simp [Act.eval_put_same, Act.eval_put_ne, Act.size_put, bsz]) (hd2 _) ?_
      rintro e w9 ⟨rfl, rfl⟩
      refine ⟨_, rfl, HS.out, ?_⟩
      refine take_run (i := 15) (u := .agg #[.int .i64 e1, .int .i64 e2]) rfl (by kernel_rfl) (by kernel_rfl) (by kernel_rfl) rfl rfl (fun _ _ _ h => h) HS.out (fun v hv => run_buildw (s := .int .i64 e1) (t := .int .i64 e2) rfl (by simp [Act.eval_put_ne, Act.eval_put_same, Act.size_put, bsz]) (by simp [Act.eval_put_same, Act.size_put, bsz]) (by kernel_rfl)) ?_
      have al3 : Below w2.heap.size w2 (w2.drew.alloc (.cells #[.int .i64 e1, .int .i64 e2] 133)) := ((Below.refl w2.heap.size w2).drew).alloc (Nat.le_refl _) _
      have HS3 := Lib.hid (show (w2.drew.alloc (.cells #[.int .i64 e1, .int .i64 e2] 133)).cell? ⟨g, 0, none⟩ = some (.int .u32 a0) ∧ (w2.drew.alloc (.cells #[.int .i64 e1, .int .i64 e2] 133)).cell? ⟨y, 0, none⟩ = some (.int .u32 a1) ∧ (w2.drew.alloc (.cells #[.int .i64 e1, .int .i64 e2] 133)).cell? ⟨y, 1, none⟩ = some (.int .u32 a2) from ⟨(al3.cell (p := ⟨g, 0, none⟩) (by show g < _; omega)).trans HS.out.1, (al3.cell (p := ⟨y, 0, none⟩) hyl).trans HS.out.2.1, (al3.cell (p := ⟨y, 1, none⟩) hyl).trans HS.out.2.2⟩)
      refine step_val (i := 16) (u := .slice (some ⟨w2.drew.heap.size, 0, none⟩) 1 1) (w' := w2.drew.alloc (.cells #[.int .i64 e1, .int .i64 e2] 133)) (by kernel_rfl) rfl rfl rfl HS3.out (run_build1 (u := .agg #[.int .i64 e1, .int .i64 e2]) rfl (by simp [Act.eval_put_same, Act.size_put, bsz]) (by go_simp)) ?_
      have own3 := own_below HOW.out al3 hlw
      have V3 : Blk (w2.drew.alloc (.cells #[.int .i64 e1, .int .i64 e2] 133)) w2.drew.heap.size 133 #[.int .i64 e1, .int .i64 e2] := Blk.new w2.drew _ _
      obtain ⟨h8, cap8, w8, hr8, own8, gr8, hat8, _⟩ := run_append_lies (P := Try.prog) (w2.drew.alloc (.cells #[.int .i64 e1, .int .i64 e2] 133)) 37 37 G0 133 i0 (.agg #[.int .i64 0, .int .i64 0]) 2 16 Try.underlying37 hi hz0 hz1 hz2 rfl (by decide) lv k _ own3 ⟨w2.drew.heap.size, 0, none⟩ 1 1 [.int .i64 e1, .int .i64 e2] rfl (World.news_of_block V3) (by intro u hu; simp at hu; rcases hu with rfl | rfl <;> rfl) (by omega) (by unfold maxLen; omega) (by omega) (by have := al3.size; omega) _ rfl
      have hneg : lv.ownBlock ≠ some g := fun e => by have := HGE.out g e; omega
      have hney : lv.ownBlock ≠ some y := fun e => by have := hlvy y e; omega
      have HS8 := Lib.hid (show w8.cell? ⟨g, 0, none⟩ = some (.int .u32 a0) ∧ w8.cell? ⟨y, 0, none⟩ = some (.int .u32 a1) ∧ w8.cell? ⟨y, 1, none⟩ = some (.int .u32 a2) from ⟨(gr8.cell_far _ (by have := al3.size; show g < _; omega) (fun e => hneg e.symm)).trans HS3.out.1, (gr8.cell_far _ (by have := al3.size; show y < _; omega) (fun e => hney e.symm)).trans HS3.out.2.1, (gr8.cell_far _ (by have := al3.size; show y < _; omega) (fun e => hney e.symm)).trans HS3.out.2.2⟩)
      refine step_app2' (i := 17) (v := lv) (sv := .slice (some ⟨w2.drew.heap.size, 0, none⟩) 1 1) (v' := .slice (some ⟨h8, 0, none⟩) (k + 1) cap8) (w' := w8) (by kernel_rfl) rfl rfl rfl rfl (by simp [Act.eval_put_ne, Act.eval_put_same, bsz]) (by simp [Act.eval_put_same, Act.size_put, bsz]) hr8 HS8.out ?_
      refine step_val (i := 18) (u := .slice (some ⟨h8, 0, none⟩) (k + 1) cap8) (w' := w8) (by kernel_rfl) rfl rfl rfl HS8.out (run_assign rfl (by simp [Act.eval_put_same, Act.size_put, bsz]) _) ?_
      refine wpAnyH_done (by kernel_rfl) ?_ _
      refine NoPanic.normal ?_
      rw [HBB.out]
      simp only [Act.put, List.setIfInBounds_toArray, List.set_cons_zero, List.set_cons_succ]
      have bel8 : Below G0 w w8 := (HBL.out.trans (al3.mono hs2)).grown gr8 (by have := al3.size; omega) (fun j hj => HGE.out j hj)
      have HFF := Lib.hid (And.intro own8 bel8)
      clear own8 gr8 own3 V3 al3 bel8 hr8 hat8 HS HS3 HS8 HOW HBL
      go_wp2_with fail
      go_roundw
      case rel => exact ⟨k + 1, _, by omega, rfl, by go_num, by rw [HT.out]; exact HFF.out.1, HFF.out.2⟩
      case measure => simp [intOf]; omega
      --END7
    · obtain rfl : k = N := by omega
      have hte : P.take k = P.take 16 := by
        have h1 := HNP.out.2.2
        have h2 := HNP.out.1
        rcases Nat.lt_or_ge P.length 16 with h3 | h3
        · rw [List.take_of_length_le (by omega), List.take_of_length_le (by omega)]
        · rw [show k = 16 by omega]
      rw [hte] at own
      have HO := Lib.hid own
      clear own
      go_wp2_with fail
      go_ret
      exact ⟨_, rfl, by rw [HG0.out]; exact HO.out, by rw [HG0.out]; exact bel⟩
end Go.Proofs.Ythddacgdmngfhaa.gap
