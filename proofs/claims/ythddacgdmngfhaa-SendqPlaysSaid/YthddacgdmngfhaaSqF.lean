/- Layer 20: a message put into a queue; the call walked. -/
import Derived.Test.YthddacgdmngfhaaSqD
namespace Go.Proofs.Ythddacgdmngfhaa.fra
open Go.Sort (grow)
open Go.ChangeShapes Go.WideShapes Go.ChangeAt Go.RowKit kit
set_option maxRecDepth 100000

theorem szM (st ss pr : Int) (lo : Bool) (D : ByteArray) : (Try.prog.info? 30).map (·.size) = some (#[.int .i64 st, .int .i64 ss, .bool lo, .int .u32 pr, .string D] : Array Value).size := by show _ = some 5; kernel_rfl
/-- May it not be? -/
def badM (st : Int) (n : Nat) (D : ByteArray) : Prop := st < 0 ∨ (n : Int) ≤ st ∨ D.size = 0 ∨ 3000 < D.size
/-- Is there no room? -/
def fullM (under : Int) (b : Nat) (D : ByteArray) : Prop := 6000 - (D.size : Int) - b < max 0 under
/-- What comes of a message that is put. -/
def PutR (b0 g : Nat) (pv cv : Value) (P : List Nat) (C : List Ck) (st pr under : Int) (lo : Bool) (D : ByteArray) (w : World) (e : Ending) (w' : World) : Prop :=
      w.heap.size ≤ w'.heap.size ∧ Below b0 w w' ∧
      ((badM st P.length D ∧ e = .returned (.int .i64 1) ∧ Below w.heap.size w w') ∨
       (¬ badM st P.length D ∧ fullM under (bts C) D ∧ e = .returned (.int .i64 6) ∧ Below w.heap.size w w') ∨
       (¬ badM st P.length D ∧ ¬ fullM under (bts C) D ∧ e = .returned (.int .i64 0) ∧ ∃ (k : Nat) (cv' : Value), st = k ∧ k < P.length ∧
          Sq b0 g pv cv' (if lo then P else P.set k ((P.getD k 0 + 1) % 65536)) (C ++ pts (if lo then 4 else 0) st (if lo then 0 else (P.getD k 0 : Int)) pr D) w' ∧
          (∀ b, blkOf cv' = some b → blkOf cv = some b ∨ w.heap.size ≤ b) ∧
          (∀ b, b < w.heap.size → b ≠ g → blkOf pv ≠ some b → blkOf cv ≠ some b → w'.heap[b]? = w.heap[b]?)))
set_option maxHeartbeats 4000000 in
theorem sq_put {b0 g : Nat} {pv cv : Value} {P : List Nat} {C : List Ck} {w : World} (h : Sq b0 g pv cv P C w) (st ss pr under : Int) (lo : Bool) (D : ByteArray) (hP : P.length ≤ 16) (hpl : ∀ p ∈ P, p < 65536) (hC : C.length ≤ 6000) (hb : bts C ≤ 6000) (hD : D.size ≤ 100000) :
    Calls Try.prog 20 #[.pointer (some ⟨g, 0, none⟩), .agg #[.int .i64 st, .int .i64 ss, .bool lo, .int .u32 pr, .string D], .int .i64 under] w fun e w' => PutR b0 g pv cv P C st pr under lo D w e w' := by
  obtain ⟨i0, hi, hz0, hz1, hz2⟩ := info_parts infoK
  have hgl := h.B.lt
  have hb0 : b0 ≤ w.heap.size := by have := h.hg; omega
  have al1 := (Below.refl w.heap.size w).alloc (Nat.le_refl _) (.cells #[.int .i64 st, .int .i64 ss, .bool lo, .int .u32 pr, .string D] 30)
  have S1 := h.below al1 (Nat.le_refl _)
  have M1 := Blk.new w 30 #[.int .i64 st, .int .i64 ss, .bool lo, .int .u32 pr, .string D]
  have HS := Lib.hid S1
  have HSa := Lib.hid h
  clear h
  go_enter Try.func20, Try.ntmps20
  go_upto_region 1 with fail
  clear S1
  generalize w.alloc (.cells #[.int .i64 st, .int .i64 ss, .bool lo, .int .u32 pr, .string D] 30) = w1 at *
  obtain ⟨mb, hmb⟩ : ∃ mb, w.heap.size = mb := ⟨_, rfl⟩
  rw [hmb] at M1 al1 ⊢
  have m4 : w1.cell? ⟨mb, 4, none⟩ = some (.string D) := M1.cell 4
  go_upto_region 2 with fail
  have m0 : w1.cell? ⟨mb, 0, none⟩ = some (.int .i64 st) := M1.cell 0
  have hmw1 : mb < w1.heap.size := M1.lt
  go_cut [28] (fun s28 wx => ∃ b : Bool, s28 = .bool b ∧ (b = true ↔ badM st P.length D) ∧ Below w1.heap.size w1 wx)
  case first =>
    have k0 := cell_regrown m0
    have hst : ∀ (dd : Nat) (oo : Array Obj), Calls Try.prog 24 #[.pointer (some ⟨g, 0, none⟩)] (grow (redrawn w1 dd) oo) fun e w' => e = .returned (.int .i64 P.length) ∧ Below (grow (redrawn w1 dd) oo).heap.size (grow (redrawn w1 dd) oo) w' := fun dd oo => by
      refine (sq_streams (HS.out.below (below_regrown w1 dd oo) (Nat.le_refl _))).mono ?_
      rintro e w' ⟨rfl, rfl⟩
      exact ⟨rfl, Below.refl _ _⟩
    clear M1 al1 HS HSa m4 m0
    generalize P.length = n at *
    have fin : ∀ (b : Bool), (b = true ↔ badM st n D) → (b = true ↔ badM st n D) := fun _ h => h
    by_cases c1 : st < 0
    · refine wp_region_quiet_below (by kernel_rfl) (by kernel_rfl) ?_
      repeat (any_goals (first | go_big_quiet_step ((go_at_call 24; with_reducible exact Calls.regrown_of (hst _ _))) | quiet_step ((go_at_call 24; with_reducible exact Calls.regrown_of (hst _ _)))))
      refine wpQuiet_nil ?_
      intro _ hw'
      obtain ⟨⟨dq, osq⟩, hw''⟩ := hw'
      subst hw''
      go_wp2_with fail
      go_meet
      exact ⟨true, rfl, ⟨fun _ => .inl c1, fun _ => rfl⟩, below_regrown _ _ _⟩
    · by_cases c2 : (n : Int) ≤ st
      · refine wp_region_quiet_below (by kernel_rfl) (by kernel_rfl) ?_
        repeat (any_goals (first | go_big_quiet_step ((go_at_call 24; with_reducible exact Calls.regrown_of (hst _ _))) | quiet_step ((go_at_call 24; with_reducible exact Calls.regrown_of (hst _ _)))))
        refine wpQuiet_nil ?_
        intro _ hw'
        obtain ⟨⟨dq, osq⟩, hw''⟩ := hw'
        subst hw''
        go_wp2_with fail
        go_meet
        exact ⟨true, by first | rfl | (simp; done) | simp [c2], ⟨fun _ => .inr (.inl c2), fun _ => rfl⟩, below_regrown _ _ _⟩
      · by_cases c3 : (D.size : Int) = 0
        · have hz : ((D.size : Int) == 0) = true := by simpa using c3
          have HC3 := Lib.hid c3
          clear c3
          refine wp_region_quiet_below (by kernel_rfl) (by kernel_rfl) ?_
          repeat (any_goals (first | go_big_quiet_step ((go_at_call 24; with_reducible exact Calls.regrown_of (hst _ _))) | quiet_step ((go_at_call 24; with_reducible exact Calls.regrown_of (hst _ _)))))
          refine wpQuiet_nil ?_
          intro _ hw'
          obtain ⟨⟨dq, osq⟩, hw''⟩ := hw'
          subst hw''
          go_wp2_with fail
          go_meet
          exact ⟨true, by first | rfl | (simp; done) | simp [hz], ⟨fun _ => .inr (.inr (.inl (by have := HC3.out; omega))), fun _ => rfl⟩, below_regrown _ _ _⟩
        · have hz : ((D.size : Int) == 0) = false := by simpa using c3
          by_cases c4 : (3000 : Int) < (D.size : Int)
          · refine wp_region_quiet_below (by kernel_rfl) (by kernel_rfl) ?_
            repeat (any_goals (first | go_big_quiet_step ((go_at_call 24; with_reducible exact Calls.regrown_of (hst _ _))) | quiet_step ((go_at_call 24; with_reducible exact Calls.regrown_of (hst _ _)))))
            refine wpQuiet_nil ?_
            intro _ hw'
            obtain ⟨⟨dq, osq⟩, hw''⟩ := hw'
            subst hw''
            go_wp2_with fail
            go_meet
            exact ⟨true, by first | rfl | simp [c4], ⟨fun _ => .inr (.inr (.inr (by omega))), fun _ => rfl⟩, below_regrown _ _ _⟩
          · refine wp_region_quiet_below (by kernel_rfl) (by kernel_rfl) ?_
            repeat (any_goals (first | go_big_quiet_step ((go_at_call 24; with_reducible exact Calls.regrown_of (hst _ _))) | quiet_step ((go_at_call 24; with_reducible exact Calls.regrown_of (hst _ _)))))
            refine wpQuiet_nil ?_
            intro _ hw'
            obtain ⟨⟨dq, osq⟩, hw''⟩ := hw'
            subst hw''
            go_wp2_with fail
            go_meet
            exact ⟨false, by first | rfl | simp [c4], ⟨fun h => (by cases h), fun h => by unfold badM at h; omega⟩, below_regrown _ _ _⟩
  case rest =>
  obtain ⟨bI, rfl, hbI, b2⟩ := hcut
  generalize wc = w2 at *
  have M2 := M1.below b2 M1.lt
  have S2 := HS.out.below b2 (Nat.le_refl _)
  have al2 := al1.trans (b2.mono (Nat.le_of_lt hmw1))
  have bel2 : Below b0 w w2 := al2.mono (by omega)
  have hmw2 : mb < w2.heap.size := M2.lt
  clear M1 al1 b2 m4 m0 HS hmw1
  cases bI with
  | true =>
    have hbad := hbI.1 rfl
    clear hbI
    go_wp2_with fail
    go_ret
    exact ⟨by omega, bel2, .inl ⟨hbad, rfl, by first | exact al2 | (rw [hmb]; exact al2)⟩⟩
  | false =>
    have hbad : ¬ badM st P.length D := fun q => by have := hbI.2 q; cases this
    clear hbI
    have hD3 : D.size ≤ 3000 := by unfold badM at hbad; omega
    have m4 : w2.cell? ⟨mb, 4, none⟩ = some (.string D) := M2.cell 4
    have q2 : w2.cell? ⟨g, 2, none⟩ = some (.int .i64 (bts C : Nat)) := S2.B.cell 2
    have HS2 := Lib.hid (And.intro S2 (And.intro M2 (And.intro al2 bel2)))
    have HB := Lib.hid hbad
    clear S2 M2 al2 bel2 hbad
    generalize hbt : bts C = T at *
    go_upto_region 4 with fail
    go_cut [38] (fun s38 wx => ∃ b : Bool, s38 = .bool b ∧ (b = true ↔ fullM under T D) ∧ wx = w2)
    case first =>
      have hw1 : IntKind.i64.wrap (6000 - (D.size : Int)) = 6000 - (D.size : Int) := IntWalk.i64_in _ (by omega)
      have hw2 : IntKind.i64.wrap (6000 - (D.size : Int) - (T : Int)) = 6000 - (D.size : Int) - (T : Int) := IntWalk.i64_in _ (by omega)
      by_cases cu : (0 : Int) < under
      · by_cases cf : 6000 - (D.size : Int) - (T : Int) < under
        · go_wp2_with fail
          go_meet
          exact ⟨true, by first | rfl | simp [cf], ⟨fun _ => by unfold fullM; omega, fun _ => rfl⟩, rfl⟩
        · go_wp2_with fail
          go_meet
          exact ⟨false, by first | rfl | simp [cf], ⟨fun h => (by cases h), fun h => by unfold fullM at h; omega⟩, rfl⟩
      · have cu2 : under ≤ 0 := by omega
        by_cases cf : 6000 - (D.size : Int) - (T : Int) < 0
        · go_wp2_with fail
          go_meet
          exact ⟨true, by first | rfl | simp [cf], ⟨fun _ => by unfold fullM; omega, fun _ => rfl⟩, rfl⟩
        · go_wp2_with fail
          go_meet
          exact ⟨false, by first | rfl | simp [cf], ⟨fun h => (by cases h), fun h => by unfold fullM at h; omega⟩, rfl⟩
    case rest =>
    obtain ⟨bF, rfl, hbF, hwc⟩ := hcut
    obtain rfl : w2 = wc := hwc.symm
    cases bF with
    | true =>
      have hful := hbF.1 rfl
      clear hbF
      go_wp2_with fail
      go_ret
      exact ⟨by omega, HS2.out.2.2.2, .inr (.inl ⟨HB.out, by first | exact hful | (rw [hbt]; exact hful), rfl, by first | exact HS2.out.2.2.1 | (rw [hmb]; exact HS2.out.2.2.1)⟩)⟩
    | false =>
      have hnf : ¬ fullM under T D := fun q => by have := hbF.2 q; cases this
      clear hbF
      obtain ⟨k, rfl, hk⟩ : ∃ k : Nat, st = k ∧ k < P.length := by
        have hb' := HB.out
        unfold badM at hb'
        exact ⟨st.toNat, by omega, by omega⟩
      obtain ⟨S2, M2, al2, bel2⟩ := HS2.out
      have hpm : ∀ b, blkOf pv = some b → b < mb := fun b hq => by rw [← hmb]; exact (HSa.out.p.lt hq).2
      have hcm : ∀ b, blkOf cv = some b → b < mb := fun b hq => by rw [← hmb]; exact (HSa.out.c.lt hq).2
      have hgm : g < mb := by rw [← hmb]; exact hgl
      go_upto_region 6 with fail
      have m1 : w2.cell? ⟨mb, 1, none⟩ = some (.int .i64 ss) := M2.cell 1
      have f1 : w2.frozen? ⟨mb, 1, none⟩ = false := M2.frozen 1
      go_upto_region 7 with fail
      have M3 := M2.set_ 1 (.int .i64 0)
      have S3 := S2.frame (w' := w2.setCell ⟨mb, 1, none⟩ (.int .i64 0)) (by simp [World.setCell]) (fun b hq => Below.heap_setCell w2 ⟨mb, 1, none⟩ _ b (show b ≠ mb by
        rcases hq with rfl | hq | hq
        · omega
        · have := hpm b hq; omega
        · have := hcm b hq; omega))
      have fr3 : ∀ b, b < mb → (w2.setCell ⟨mb, 1, none⟩ (.int .i64 0)).heap[b]? = w.heap[b]? := fun b hq => (Below.heap_setCell w2 ⟨mb, 1, none⟩ _ b (show b ≠ mb by omega)).trans (al2.block b hq)
      have bel3 := bel2.setCell (p := ⟨mb, 1, none⟩) (show b0 ≤ mb by omega) (.int .i64 0)
      have hs3 : mb < (w2.setCell ⟨mb, 1, none⟩ (.int .i64 0)).heap.size := M3.lt
      clear HS2 S2 M2 al2 bel2 m1 f1 m4 q2
      generalize w2.setCell ⟨mb, 1, none⟩ (.int .i64 0) = w3 at *
      have m2 : w3.cell? ⟨mb, 2, none⟩ = some (.bool lo) := M3.cell 2
      go_upto_if 42 with fail
      clear m2
      go_cut [6] (fun s6 wx => ∃ (P' : List Nat) (s' : Int), s6 = .int .i64 0 ∧ P' = (if lo then P else P.set k ((P.getD k 0 + 1) % 65536)) ∧ s' = (if lo then 0 else (P.getD k 0 : Int)) ∧ Sq b0 g pv cv P' C wx ∧ Blk wx mb 30 #[.int .i64 (k : Nat), .int .i64 s', .bool lo, .int .u32 pr, .string D] ∧ (∀ b, b < mb → blkOf pv ≠ some b → wx.heap[b]? = w.heap[b]?) ∧ Below b0 w wx)
      case first =>
        clear HB hnf HSa
        cases lo with
        | true =>
          go_wp2_with fail
          go_meet
          exact ⟨P, 0, rfl, rfl, rfl, S3, M3, fun b hq _ => fr3 b hq, bel3⟩
        | false =>
          obtain ⟨gp, op, cp, hpv, hp1, hp2, hp3, hp4, hpb, hpK⟩ := S3.p.show_ (by omega)
          have hgd : P.getD k 0 = P[k] := by rw [List.getD_eq_getElem?_getD, List.getElem?_eq_getElem hk]; rfl
          have hpk := hpl P[k] (List.getElem_mem hk)
          obtain ⟨pk, hpke⟩ : ∃ pk : Nat, P[k] = pk := ⟨_, rfl⟩
          have K := hpK k #[.int .u16 (pk : Nat)] hk (by show 1 ≤ 1; omega) (fun j hj => by
            obtain rfl : j = 0 := by have : j < 1 := hj; omega
            rw [Nat.mul_one, Nat.add_zero, cellsP_get P k hk, hpke]; rfl)
          have p0 : w3.cell? ⟨gp, op + k, none⟩ = some (.int .u16 (pk : Nat)) := by have := K.cell 0 (u := .int .u16 (pk : Nat)) rfl; simpa using this
          have c0 : w3.cell? ⟨g, 0, none⟩ = some (.slice (some ⟨gp, op, none⟩) P.length cp) := (S3.B.cell 0).trans (congrArg some hpv)
          have m0 : w3.cell? ⟨mb, 0, none⟩ = some (.int .i64 (k : Nat)) := M3.cell 0
          have m1 : w3.cell? ⟨mb, 1, none⟩ = some (.int .i64 0) := M3.cell 1
          have f1 : w3.frozen? ⟨mb, 1, none⟩ = false := M3.frozen 1
          have hgpm : gp < mb := hpm gp hpb
          have hgpg : gp ≠ g := fun e => S3.np (by rw [hpb, e])
          have hgpc : blkOf cv ≠ some gp := S3.pc gp hpb
          rw [hpke] at hpk hgd
          have HP := Lib.hid (And.intro hgd (And.intro hpke hpv))
          clear hpke hgd K hpK hpv
          have hkn : (k : Int) < (P.length : Int) := by omega
          unfold maxLen at hp2
          go_upto_region 8 with fail
          go_region
          have M4 := M3.set_ 1 (.int .i64 (pk : Nat))
          have S4 := S3.frame (w' := w3.setCell ⟨mb, 1, none⟩ (.int .i64 (pk : Nat))) (by simp [World.setCell]) (fun b hq => Below.heap_setCell w3 ⟨mb, 1, none⟩ _ b (show b ≠ mb by
            rcases hq with rfl | hq | hq
            · omega
            · have := hpm b hq; omega
            · have := hcm b hq; omega))
          have fr4 : ∀ b, b < mb → (w3.setCell ⟨mb, 1, none⟩ (.int .i64 (pk : Nat))).heap[b]? = w.heap[b]? := fun b hq => (Below.heap_setCell w3 ⟨mb, 1, none⟩ _ b (show b ≠ mb by omega)).trans (fr3 b hq)
          have bel4 := bel3.setCell (p := ⟨mb, 1, none⟩) (show b0 ≤ mb by omega) (.int .i64 (pk : Nat))
          clear S3 M3 fr3 bel3 p0 c0 m0 m1 f1
          go_upto_region 9 with fail
          have M5 := M4.drew
          have S5 := S4.below (Below.refl (w3.setCell ⟨mb, 1, none⟩ (.int .i64 (pk : Nat))).heap.size (w3.setCell ⟨mb, 1, none⟩ (.int .i64 (pk : Nat)))).drew (Nat.le_refl _)
          have fr5 : ∀ b, b < mb → (w3.setCell ⟨mb, 1, none⟩ (.int .i64 (pk : Nat))).drew.heap[b]? = w.heap[b]? := fr4
          have bel5 := bel4.drew
          clear M4 S4 fr4 bel4
          generalize (w3.setCell ⟨mb, 1, none⟩ (.int .i64 (pk : Nat))).drew = w5 at *
          obtain ⟨gp', op', cp', hpv', _, _, _, _, _, hpK⟩ := S5.p.show_ (by omega)
          rw [HP.out.2.2] at hpv'
          simp only [Value.slice.injEq, Option.some.injEq, Addr.mk.injEq, and_true, true_and] at hpv'
          obtain ⟨⟨rfl, rfl⟩, rfl⟩ := hpv'
          have K := hpK k #[.int .u16 (pk : Nat)] hk (by show 1 ≤ 1; omega) (fun j hj => by
            obtain rfl : j = 0 := by have : j < 1 := hj; omega
            rw [Nat.mul_one, Nat.add_zero, cellsP_get P k hk, HP.out.2.1]; rfl)
          have p0 : w5.cell? ⟨gp, op + k, none⟩ = some (.int .u16 (pk : Nat)) := by have := K.cell 0 (u := .int .u16 (pk : Nat)) rfl; simpa using this
          have g0 : w5.frozen? ⟨gp, op + k, none⟩ = false := by have := K.frozen 0 (by show 0 < 1; omega); simpa using this
          have c0 : w5.cell? ⟨g, 0, none⟩ = some (.slice (some ⟨gp, op, none⟩) P.length cp) := (S5.B.cell 0).trans (congrArg some HP.out.2.2)
          have m0 : w5.cell? ⟨mb, 0, none⟩ = some (.int .i64 (k : Nat)) := M5.cell 0
          have hwr : IntKind.u16.wrap ((pk : Int) + 1) = (((pk + 1) % 65536 : Nat) : Int) := by rw [IntKind.wrap_u16]; omega
          clear hpK K
          have M6 := M5.far (p := ⟨gp, op + k, none⟩) (show mb ≠ gp by omega) (.int .u16 (((pk + 1) % 65536 : Nat) : Int))
          have S6 : Sq b0 g pv cv (P.set k ((P.getD k 0 + 1) % 65536)) C (w5.setCell ⟨gp, op + k, none⟩ (.int .u16 (((pk + 1) % 65536 : Nat) : Int))) := by
            refine ⟨S5.B.far (p := ⟨gp, op + k, none⟩) (Ne.symm hgpg) _, ?_, S5.c.far (p := ⟨gp, op + k, none⟩) hgpc _, S5.np, S5.nc, S5.pc, S5.hg⟩
            have hq := S5.p.set_ HP.out.2.2 k (by omega) (.int .u16 (((pk + 1) % 65536 : Nat) : Int))
            rw [cellsP_set] at hq
            rw [List.length_set, HP.out.1]
            exact hq
          have fr6 : ∀ b, b < mb → blkOf pv ≠ some b → (w5.setCell ⟨gp, op + k, none⟩ (.int .u16 (((pk + 1) % 65536 : Nat) : Int))).heap[b]? = w.heap[b]? := fun b hq hne => (Below.heap_setCell w5 ⟨gp, op + k, none⟩ _ b (show b ≠ gp from fun e => hne (by rw [hpb, e]))).trans (fr5 b hq)
          have bel6 := bel5.setCell (p := ⟨gp, op + k, none⟩) hp3 (.int .u16 (((pk + 1) % 65536 : Nat) : Int))
          have HR := Lib.hid (And.intro S6 (And.intro M6 (And.intro fr6 bel6)))
          clear S6 M6 fr6 bel6 S5 M5 fr5 bel5
          go_region
          go_wp2_with fail
          go_meet
          exact ⟨_, pk, rfl, rfl, by rw [HP.out.1]; rfl, HR.out.1.below (Below.refl _ _).drew (Nat.le_refl _), HR.out.2.1.drew, fun b hq hne => HR.out.2.2.1 b hq hne, HR.out.2.2.2.drew⟩
      case rest =>
      obtain ⟨P', s', rfl, hP', hs', S5, M5, fr5, bel5⟩ := hcut
      clear S3 M3 fr3 bel3
      generalize wc = w5 at *
      have hPl : P'.length = P.length := by rw [hP']; split <;> simp
      obtain ⟨oc, cc, hcv, hc1, hc2⟩ := S5.c.shape
      obtain ⟨F, hF⟩ : ∃ F : Int, (if lo then (4 : Int) else 0) = F := ⟨_, rfl⟩
      have hsp := fun W => split_any (k : Int) s' pr 200 lo D 200 F (by omega) hF.symm (by omega) (by omega) hD W
      obtain ⟨N, hN⟩ : ∃ N, C.length = N := ⟨_, rfl⟩
      rw [hN] at hcv
      have HA := Lib.hid (And.intro hP' (And.intro hs' (And.intro hF (And.intro hPl (And.intro hN hcv)))))
      have hsz5 : mb < w5.heap.size := M5.lt
      clear hP' hs' hF hPl
      go_upto_region 10 with fail
      have s4 : w5.cell? ⟨g, 1, none⟩ = some (.slice oc N cc) := (S5.B.cell 1).trans (congrArg some hcv)
      have HS := Lib.hid (show w5.drew.cell? ⟨g, 1, none⟩ = some (.slice oc N cc) ∧ Cel w5.drew mb 0 #[.int .i64 (k : Nat), .int .i64 s', .bool lo, .int .u32 pr, .string D] from ⟨s4, Cel.of_blk M5.drew⟩)
      refine wp_region_noPanic ?_
      refine begin_C (fun v => v.cell? ⟨g, 1, none⟩ = some (.slice oc N cc) ∧ Cel v mb 0 #[.int .i64 (k : Nat), .int .i64 s', .bool lo, .int .u32 pr, .string D]) 10 (by kernel_rfl) ?_
      refine abs_C _ (fun b hb => ?_)
      have hsz : b.tmps.size = 81 := by rw [hb]; rfl
      have h0 : b.eval (.tmp 0) = (.pointer (some ⟨g, 0, none⟩)) := by rw [hb]; rfl
      have h4 : b.eval (.tmp 4) = .pointer (some ⟨mb, 0, none⟩) := by rw [hb]; rfl
      have HBb := Lib.hid hb
      have HS2 := Lib.hid (And.intro S5 (And.intro M5 (And.intro fr5 bel5)))
      clear hb s4 S5 M5 fr5 bel5 hcv
      refine take_Y (i := 0) (u := (.pointer (some ⟨g, 0, none⟩))) rfl (by kernel_rfl) (by kernel_rfl) (by kernel_rfl) (by decide) rfl rfl (fun _ _ _ h => h) HS.out (fun v => run_move rfl (by simp [Act.eval_put_ne, Act.eval_put_same, Act.size_put, hsz, h0, h4]) v) ?_
      refine take_Y (i := 1) (u := (.pointer (some ⟨g, 0, none⟩))) rfl (by kernel_rfl) (by kernel_rfl) (by kernel_rfl) (by decide) rfl rfl (fun _ _ _ h => h) HS.out (fun v => run_move rfl (by simp [Act.eval_put_ne, Act.eval_put_same, Act.size_put, hsz, h0, h4]) v) ?_
      refine take_Y (i := 2) (u := (.pointer (some ⟨g, 0, none⟩))) rfl (by kernel_rfl) (by kernel_rfl) (by kernel_rfl) (by decide) rfl rfl (fun _ _ _ h => h) HS.out (fun v => run_nilc rfl (by simp [Act.eval_put_ne, Act.eval_put_same, Act.size_put, hsz, h0, h4])) ?_
      refine take_Y (i := 3) (u := (.pointer (some ⟨g, 1, none⟩))) rfl (by kernel_rfl) (by kernel_rfl) (by kernel_rfl) (by decide) rfl rfl (fun _ _ _ h => h) HS.out (fun v => run_field (s := (.pointer (some ⟨g, 0, none⟩))) rfl (by simp [Act.eval_put_ne, Act.eval_put_same, Act.size_put, hsz, h0, h4]) (by kernel_rfl)) ?_
      refine take_C (i := 4) [7] (u := (.slice oc N cc)) rfl (by kernel_rfl) (by kernel_rfl) (by kernel_rfl) (by kernel_rfl) (by kernel_rfl) (by decide) rfl rfl (fun _ _ _ h => h) HS.out (fun v hv => run_load1 (s := (.pointer (some ⟨g, 1, none⟩))) rfl (by simp [Act.eval_put_ne, Act.eval_put_same, Act.size_put, hsz, h0, h4]) (by have c := hv.1; go_simp)) ?_
      refine take_C (i := 5) [6, 7] (u := (.agg #[.int .i64 (k : Nat), .int .i64 s', .bool lo, .int .u32 pr, .string D])) rfl (by kernel_rfl) (by kernel_rfl) (by kernel_rfl) (by kernel_rfl) (by kernel_rfl) (by decide) rfl rfl (fun _ _ _ h => h) HS.out (fun v hv => run_load_at rfl (h := mb) (off := 0) (by simp [Act.eval_put_ne, Act.eval_put_same, Act.size_put, hsz, h0, h4]) _ Try.underlying30 rfl (szM _ _ _ _ _) hv.2) ?_
      refine call_C (i := 6) (by kernel_rfl) rfl rfl rfl 21 Try.f21 _ _ rfl Try.func21 (by kernel_rfl) (by kernel_rfl) #[.agg #[.int .i64 (k : Nat), .int .i64 s', .bool lo, .int .u32 pr, .string D], .int .i64 200] (by simp [Act.eval_put_same, Act.size_put, hsz]; rfl) (hsp _) ?_
      rintro e w6 ⟨⟨vp, np, rfl, hparts, hn1, hn2⟩, hb6⟩
      have hnp : np = (D.size + 199) / 200 := by
        rcases Nat.eq_zero_or_pos np with h' | h'
        · omega
        · have := hn1 (np - 1) (by omega)
          omega
      have hb6' : Below w5.heap.size w5 w6 := (Below.refl w5.heap.size w5).drew.trans hb6
      have S6 := HS2.out.1.below hb6' (Nat.le_refl _)
      have M6 := HS2.out.2.1.below hb6' HS2.out.2.1.lt
      have hs56 : w5.heap.size ≤ w6.heap.size := hb6'.size
      have HS6 := Lib.hid (show w6.cell? ⟨g, 1, none⟩ = some (.slice oc N cc) ∧ Cel w6 mb 0 #[.int .i64 (k : Nat), .int .i64 s', .bool lo, .int .u32 pr, .string D] from ⟨(S6.B.cell 1).trans (congrArg some HA.out.2.2.2.2.2), Cel.of_blk M6⟩)
      refine ⟨vp, rfl, fun _ => HS6.out, ?_⟩
      have srcA := src_parts (P := Try.prog) (tx := 26) Try.underlying26 hnp hparts
      have qA : Qo w6 b0 15 (.slice oc N cc) C.length (cellsC C) := HA.out.2.2.2.2.2 ▸ S6.c
      have hNC : C.length = N := HA.out.2.2.2.2.1
      obtain ⟨v8, w8, hr8, q8, grow8, hat8⟩ := qo_append (P := Try.prog) (ty := 26) Try.underlying26 hi hz0 hz1 hz2 rfl qA srcA (by unfold maxLen; omega) (by omega) (by omega)
      obtain ⟨oa8, cap8, hv8, _, _⟩ := q8.shape
      rw [hNC] at hv8
      have hs8 := grow8.size
      have hvb : ∀ b, blkOf (Value.slice oc N cc) = some b → b < mb ∧ b ≠ g := fun b hq => ⟨hcm b (by rw [HA.out.2.2.2.2.2]; exact hq), fun e => S6.nc (by rw [HA.out.2.2.2.2.2, hq, e])⟩
      have B8 : Blk w8 g 158 #[pv, cv, .int .i64 (bts C : Nat)] := (grow8.block g (by omega) (fun e => (hvb g e.symm).2 rfl)).trans S6.B
      have M8 : Blk w8 mb 30 #[.int .i64 (k : Nat), .int .i64 s', .bool lo, .int .u32 pr, .string D] := (grow8.block mb (by omega) (fun e => by have := (hvb mb e.symm).1; omega)).trans M6
      have HS8 := Lib.hid (show w8.cell? ⟨g, 1, none⟩ = some (.slice oc N cc) ∧ Cel w8 mb 0 #[.int .i64 (k : Nat), .int .i64 s', .bool lo, .int .u32 pr, .string D] from ⟨(B8.cell 1).trans (congrArg some HA.out.2.2.2.2.2), Cel.of_blk M8⟩)
      refine app_C (i := 7) (v' := (.slice oa8 (N + np) cap8)) (w' := w8) (by kernel_rfl) rfl rfl rfl rfl (by simp [Act.eval_put_ne, Act.eval_put_same, Act.size_put, hsz, h0, h4]) (by simp [Act.eval_put_ne, Act.eval_put_same, Act.size_put, hsz, h0, h4]) (hv8 ▸ hr8) (fun _ => HS8.out) ?_
      refine take_Y (i := 8) (u := (.pointer (some ⟨g, 0, none⟩))) rfl (by kernel_rfl) (by kernel_rfl) (by kernel_rfl) (by decide) rfl rfl (fun _ _ _ h => h) HS8.out (fun v => run_nilc rfl (by simp [Act.eval_put_ne, Act.eval_put_same, Act.size_put, hsz, h0, h4])) ?_
      refine take_Y (i := 9) (u := (.pointer (some ⟨g, 1, none⟩))) rfl (by kernel_rfl) (by kernel_rfl) (by kernel_rfl) (by decide) rfl rfl (fun _ _ _ h => h) HS8.out (fun v => run_field (s := (.pointer (some ⟨g, 0, none⟩))) rfl (by simp [Act.eval_put_ne, Act.eval_put_same, Act.size_put, hsz, h0, h4]) (by kernel_rfl)) ?_
      have c8 := HS8.out.1
      have f8 : w8.frozen? ⟨g, 1, none⟩ = false := B8.frozen 1
      refine store_C (i := 10) (p := .pointer (some ⟨g, 1, none⟩)) (u := (.slice oa8 (N + np) cap8)) (w' := (w8.setCell ⟨g, 1, none⟩ (.slice oa8 (N + np) cap8))) (by kernel_rfl) rfl rfl rfl rfl (by simp [Act.eval_put_ne, Act.eval_put_same, Act.size_put, hsz, h0, h4]) (by simp [Act.eval_put_ne, Act.eval_put_same, Act.size_put, hsz, h0, h4]) (fun h => absurd rfl h) (by go_simp) ?_
      have hcb8 : ∀ b, blkOf v8 = some b → blkOf cv = some b ∨ mb < b := fun b hq => by
        rcases hat8 with e | e | e
        · exact .inl (by rw [HA.out.2.2.2.2.2, ← e]; exact hq)
        · rw [e] at hq
          have : w6.heap.size = b := Option.some.inj hq
          exact .inr (by omega)
        · rw [e] at hq; cases hq
      have hne8 : blkOf v8 ≠ some g := fun e => by
        rcases hcb8 g e with h' | h'
        · exact S6.nc h'
        · omega
      have hpc8 : ∀ b, blkOf pv = some b → blkOf v8 ≠ some b := fun b hq e => by
        rcases hcb8 b e with h' | h'
        · exact S6.pc b hq h'
        · have := hpm b hq; omega
      have p8 : Qo w8 b0 1 pv P'.length (cellsP P') := S6.p.block hs8 fun b hq => grow8.block b (by have := hpm b hq; omega) (fun e => S6.pc b hq (by rw [HA.out.2.2.2.2.2]; exact e.symm))
      -- and how many bytes
      have B9 := B8.set_ 1 (.slice oa8 (N + np) cap8)
      have fr9 : ∀ b, b < mb → b ≠ g → blkOf pv ≠ some b → blkOf cv ≠ some b → (w8.setCell ⟨g, 1, none⟩ (.slice oa8 (N + np) cap8)).heap[b]? = w.heap[b]? := fun b hq hbg hbp hbc => by
        rw [Below.heap_setCell w8 ⟨g, 1, none⟩ _ b hbg]
        exact (grow8.block b (by omega) (fun e => hbc (by rw [HA.out.2.2.2.2.2]; exact e.symm))).trans ((hb6'.block b (by omega)).trans (HS2.out.2.2.1 b hq hbp))
      have bel9 : Below b0 w (w8.setCell ⟨g, 1, none⟩ (.slice oa8 (N + np) cap8)) := ((HS2.out.2.2.2.trans (hb6'.mono (by omega))).grown grow8 (by omega) (fun b hq => (qA.lt hq).1)).setCell (p := ⟨g, 1, none⟩) S6.hg _
      have q9 := q8.far (p := ⟨g, 1, none⟩) hne8 (.slice oa8 (N + np) cap8)
      have p9 := p8.far (p := ⟨g, 1, none⟩) S6.np (.slice oa8 (N + np) cap8)
      have M9 := M8.far (p := ⟨g, 1, none⟩) (show mb ≠ g by omega) (.slice oa8 (N + np) cap8)
      have hsz9 : mb < (w8.setCell ⟨g, 1, none⟩ (.slice oa8 (N + np) cap8)).heap.size := M9.lt
      have HR := Lib.hid (And.intro q9 (And.intro p9 (And.intro fr9 (And.intro bel9 (And.intro hne8 (And.intro hpc8 (And.intro hcb8 (And.intro S6.np S6.hg))))))))
      have HV8 := Lib.hid hv8
      refine done_C (by kernel_rfl) ?_ _
      refine NoPanic.normal ?_
      rw [HBb.out]
      simp only [Act.put, List.setIfInBounds_toArray, List.set_cons_zero, List.set_cons_succ]
      clear HBb HS HS2 HS6 HS8 c8 f8 q9 p9 fr9 bel9 q8 p8 grow8 hat8 B8 M8 S6 M6 srcA qA hsz h0 h4 hr8 hne8 hpc8 hcb8 hparts hn1 hn2 hb6 hb6' hsp hv8 hvb
      generalize w8.setCell ⟨g, 1, none⟩ (.slice oa8 (N + np) cap8) = w9 at *
      have B9' : Blk w9 g 158 #[pv, .slice oa8 (N + np) cap8, .int .i64 (bts C : Nat)] := B9
      have b2 : w9.cell? ⟨g, 2, none⟩ = some (.int .i64 (bts C : Nat)) := B9'.cell 2
      have b2f : w9.frozen? ⟨g, 2, none⟩ = false := B9'.frozen 2
      have hbC : bts C ≤ 6000 := by omega
      have hwT : IntKind.i64.wrap (((bts C : Nat) : Int) + (D.size : Int)) = ((bts C + D.size : Nat) : Int) := by rw [IntWalk.i64_in _ (by omega)]; omega
      have m4 : w9.cell? ⟨mb, 4, none⟩ = some (.string D) := M9.cell 4
      have HBt := Lib.hid hbt
      clear hbt
      generalize hbt2 : bts C = T2 at *
      have HT2 := Lib.hid hbt2
      clear hbt2
      go_upto_region 12 with fail
      clear hwT
      obtain ⟨e5, he5⟩ : ∃ e5 : Int, (T2 : Int) + (D.size : Int) = e5 := ⟨_, rfl⟩
      try rw [he5]
      obtain rfl : e5 = ((T2 + D.size : Nat) : Int) := by omega
      clear he5
      have B10 := B9'.set_ 2 (.int .i64 ((T2 + D.size : Nat) : Int))
      have c10 := HR.out.1.far (p := ⟨g, 2, none⟩) HR.out.2.2.2.2.1 (.int .i64 ((T2 + D.size : Nat) : Int))
      have p10 := HR.out.2.1.far (p := ⟨g, 2, none⟩) HR.out.2.2.2.2.2.2.2.1 (.int .i64 ((T2 + D.size : Nat) : Int))
      have bel10 := HR.out.2.2.2.1.setCell (p := ⟨g, 2, none⟩) HR.out.2.2.2.2.2.2.2.2 (.int .i64 ((T2 + D.size : Nat) : Int))
      have fr10 : ∀ b, b < mb → b ≠ g → blkOf pv ≠ some b → blkOf cv ≠ some b → (w9.setCell ⟨g, 2, none⟩ (.int .i64 ((T2 + D.size : Nat) : Int))).heap[b]? = w.heap[b]? := fun b hq hbg hbp hbc => (Below.heap_setCell w9 ⟨g, 2, none⟩ _ b hbg).trans (HR.out.2.2.1 b hq hbg hbp hbc)
      have hs10 : mb < (w9.setCell ⟨g, 2, none⟩ (.int .i64 ((T2 + D.size : Nat) : Int))).heap.size := by simpa [World.setCell] using hsz9
      obtain ⟨rP, rs, rF, rl, rN, _⟩ := HA.out
      have hpl2 := pts_len F (k : Int) s' pr D
      have S10 : Sq b0 g pv v8 P' (C ++ pts F (k : Int) s' pr D) (w9.setCell ⟨g, 2, none⟩ (.int .i64 ((T2 + D.size : Nat) : Int))) := by
        refine ⟨?_, p10, ?_, HR.out.2.2.2.2.2.2.2.1, HR.out.2.2.2.2.1, HR.out.2.2.2.2.2.1, HR.out.2.2.2.2.2.2.2.2⟩
        · rw [bts_append, bts_pts, HT2.out, HV8.out]
          exact B10
        · rw [cellsC_append, List.length_append, hpl2, ← hnp]
          exact c10
      rw [← rF, rs, rP] at S10
      have HF := Lib.hid (And.intro S10 (And.intro bel10 (And.intro fr10 hs10)))
      clear S10 bel10 fr10 hs10 B10 c10 p10 rP rs rF rl rN B9' M9 b2 b2f m4
      go_wp2_with fail
      go_ret
      refine ⟨by rw [hmb]; exact Nat.le_of_lt HF.out.2.2.2, HF.out.2.1, .inr (.inr ⟨HB.out, ?_, rfl, k, v8, rfl, hk, HF.out.1, fun b hq => ?_, fun b hq h1 h2 h3 => ?_⟩)⟩
      · rw [HT2.out, HBt.out]
        exact hnf
      · rcases HR.out.2.2.2.2.2.2.1 b hq with h' | h'
        · exact .inl ((congrArg blkOf HA.out.2.2.2.2.2).symm.trans h')
        · exact .inr (by omega)
      · exact HF.out.2.2.1 b (by omega) h1 h2 (by rw [HA.out.2.2.2.2.2]; exact h3)
end Go.Proofs.Ythddacgdmngfhaa.fra
