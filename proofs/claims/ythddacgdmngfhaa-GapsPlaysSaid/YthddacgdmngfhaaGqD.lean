/- Layer 16: the document's own words: a number that comes. -/
import Derived.Test.YthddacgdmngfhaaGqC
namespace Go.Proofs.Ythddacgdmngfhaa.gap
open Go.Sort (grow)
open Go.ChangeShapes Go.WideShapes Go.ChangeAt Go.RowKit kit gapm
set_option maxRecDepth 100000
theorem run_sub {P : Program} {oi : Oper} {a : Act} {x y : Operand} {tx ty : TypeId} {s j u : Value} {v : World} (ho : oi.op = .binOp .sub tx x y ty) (hx : a.eval x = s) (hy : a.eval y = j) (hr : (binOp .sub tx s j).run P v = .ok u v) : (execOp a.eval oi).run P v = .ok (.value u) v := by
  unfold execOp
  simp [ho, hx, hy, eqGuard, hr]
theorem run_conv {P : Program} {oi : Oper} {a : Act} {x : Operand} {t1 t2 : TypeId} {s u : Value} {v : World} (ho : oi.op = .convert t1 t2 x) (hx : a.eval x = s) (hr : (convert t1 t2 s).run P v = .ok u v) : (execOp a.eval oi).run P v = .ok (.value u) v := by
  unfold execOp
  simp only [ho, hx, Sem.run_bind, Sem.run_pure, Result.andThen_ok, hr]
theorem sub_far {t a0 : Int} {d : Nat} (h : (t - a0) % 4294967296 = (d : Int)) (W : World) : (binOp .sub 28 (.int .u32 t) (.int .u32 a0)).run Try.prog W = .ok (.int .u32 (d : Int)) W := by
  have h' : IntKind.u32.wrap (t - a0) = (d : Int) := by rw [IntKind.wrap_u32]; exact h
  go_simp
theorem conv_far (d : Nat) (h : d ≤ 1000) (W : World) : (convert 28 3 (.int .u32 (d : Int))).run Try.prog W = .ok (.int .i64 (d : Int)) W := by
  have h1 : IntKind.i64.wrap (d : Int) = (d : Int) := by rw [IntKind.wrap_i64]; omega
  go_simp
theorem own_at {w : World} {b0 : Nat} {F : List Nat} {oa : Option Addr} {n cap k y : Nat} (own : w.ownsRow b0 3 1 (.slice oa n cap) F.length (cellsF F)) (h : F[k]? = some y) : ∃ g, oa = some ⟨g, 0, none⟩ ∧ w.cell? ⟨g, k, none⟩ = some (.int .i64 (y : Int)) := by
  have hk := (List.getElem?_eq_some_iff.1 h).1
  rcases own.2 with ⟨e, h0⟩ | ⟨g, cap', cur, e, q⟩
  · have : F.length = 0 := h0
    omega
  · have e' := e
    simp only [Value.slice.injEq] at e'
    obtain ⟨e1, -, -⟩ := e'
    refine ⟨g, e1, ?_⟩
    rw [e] at own
    have K := Cel.of_owns own
    have h2 := K.2 k (.int .i64 (y : Int)) (by rw [List.getElem?_toArray]; exact cellsF_get h)
    rw [Nat.zero_add] at h2
    exact h2.1
theorem Rg.keep {b0 bx C c k : Nat} {F : List Nat} {D : List Int} {fv dv : Value} {w w' : World} (h : Rg b0 bx C c F D fv dv w) (hb : Below k w w') (hx : bx + 1 < k) (hf : ∀ j, fv.ownBlock = some j → j < k) (hd : ∀ j, dv.ownBlock = some j → j < k) : Rg b0 bx C c F D fv dv w' :=
  ⟨h.B.below hb (by omega), h.Z.below hb hx, own_below h.f hb hf, own_below h.d hb hd, h.nf, h.nd, h.hb⟩
theorem Rg.drew {b0 bx C c : Nat} {F : List Nat} {D : List Int} {fv dv : Value} {w : World} (h : Rg b0 bx C c F D fv dv w) : Rg b0 bx C c F D fv dv w.drew := h.below (k := w.heap.size) ((Below.refl _ w).drew) (Nat.le_refl _)
theorem own_weaken {w : World} {b0 b1 size n : Nat} {t : TypeId} {v : Value} {xs : List Value} (own : w.ownsRow b1 t size v n xs) (h : b0 ≤ b1) : w.ownsRow b0 t size v n xs :=
  ⟨own.1, own.2.imp id (fun ⟨a, b, c, q1, q2, q3⟩ => ⟨a, b, c, q1, Nat.le_trans h q2, q3⟩)⟩
theorem ab_succ (C c : Nat) : (ab C c + 1) % 4294967296 = ab C (c + 1) := by unfold ab; omega
/-- What Add answers with. -/
def AddR (b0 C c : Nat) (F : List Nat) (D : List Int) (d : Nat) (dv : Value) (w : World) (e : Ending) (w' : World) : Prop :=
  ∃ (c' : Nat) (F' : List Nat) (fv' dv' : Value), e = .returned (.tuple #[.agg #[.int .u32 (ab C c'), fv', dv'], .int .i64 (lookF F d)]) ∧ w'.ownsRow b0 3 1 fv' F'.length (cellsF F')
    ∧ w'.ownsRow b0 28 1 dv' (if lookF F d = 2 ∧ D.length < 16 then D ++ [ab C (c + d)] else D).length (cellsU (if lookF F d = 2 ∧ D.length < 16 then D ++ [ab C (c + d)] else D)) ∧ Below w.heap.size w w'
    ∧ (lookF F d ≠ 1 → c' = c ∧ F' = F) ∧ (lookF F d = 1 → 0 ∉ F' ∧ 1 ∉ F' ∧ (∀ y, hasF c' F' y ↔ hasF c (F ++ [d]) y) ∧ F'.length ≤ F.length + 1 ∧ ∀ z ∈ F', z ≤ 1000) ∧ (∀ k, dv'.ownBlock = some k → dv.ownBlock = some k ∨ w.heap.size ≤ k)
set_option maxHeartbeats 4000000 in
theorem radd_any {b0 C c : Nat} {F : List Nat} {D : List Int} {fv dv : Value} {w : World} (of : w.ownsRow b0 3 1 fv F.length (cellsF F)) (od : w.ownsRow b0 28 1 dv D.length (cellsU D)) (hb0 : b0 ≤ w.heap.size) (hn : F.length ≤ 900) (hD : D.length ≤ 16) (d : Nat) (hd : d < 4294967296) (h0 : 0 ∉ F) (h1 : 1 ∉ F) (hbd : ∀ z ∈ F, z ≤ 1000) :
    Calls Try.prog 40 #[.agg #[.int .u32 (ab C c), fv, dv], .int .u32 (ab C (c + d))] w (AddR b0 C c F D d dv w) := by
  obtain ⟨oa, cap, hfv⟩ := own_arr of
  obtain ⟨od', dcap, hdv⟩ := own_arr od
  have R := Rg.new (C := C) (c := c) of od hb0
  have al := ((Below.refl w.heap.size w).alloc (Nat.le_refl _) (.cells #[.int .u32 (ab C c), fv, dv] 72)).alloc (by simp) (.cells #[.int .u32 0, .slice none 0 0, .slice none 0 0] 72)
  have hlook := fun W (q : Qo W b0 1 fv F.length (cellsF F)) => rlook_any (dv := dv) C c d W q (by omega) hd
  subst hfv
  subst hdv
  go_enter Try.func40, Try.ntmps40
  go_upto_region 1 with fail
  obtain ⟨w1, hw1⟩ : ∃ w1, (w.alloc (.cells #[.int .u32 (ab C c), .slice oa F.length cap, .slice od' D.length dcap] 72)).alloc (.cells #[.int .u32 0, .slice none 0 0, .slice none 0 0] 72) = w1 := ⟨_, rfl⟩
  rw [hw1] at R al ⊢
  obtain ⟨bx, hbx⟩ : ∃ bx, w.heap.size = bx := ⟨_, rfl⟩
  have hbx1 : (w.alloc (.cells #[.int .u32 (ab C c), .slice oa F.length cap, .slice od' D.length dcap] 72)).heap.size = bx + 1 := by simp [hbx]
  first
    | rw [hbx1]
    | skip
  rw [hbx] at R ⊢
  have HBX := Lib.hid hbx
  have HAL := Lib.hid (hbx ▸ al)
  have HR := Lib.hid R
  clear hw1 hbx1 al hbx of od R
  have hl := hlook w1 (Qo.of_owns HR.out.f)
  clear hlook
  have HDD := Lib.hid (And.intro h0 (And.intro h1 (And.intro hb0 hbd)))
  clear h0 h1 hb0 hbd
  generalize hlv : lookF F d = lv at *
  have HLV := Lib.hid hlv
  clear hlv
  go_wp2_with (refine wpList_load_at rfl 72 _ rfl bx 0 rfl #[.int .u32 (ab C c), .slice oa F.length cap, .slice od' D.length dcap] _ (Cel.of_blk HR.out.B) Try.underlying72 rfl (szGt _ _ _) ?_)
  refine hl.mono ?_
  rintro e w2 ⟨rfl, hb2⟩
  have R2 := HR.out.below hb2 (Nat.le_refl _)
  have bel2 : Below bx w w2 := HAL.out.trans (hb2.mono (by have := HAL.out.size; have := HBX.out; omega))
  clear HR HAL hl hb2
  have hl3 : lv = 1 ∨ lv = 2 ∨ lv = 3 := by
    rw [← HLV.out]; unfold lookF
    split
    · exact .inr (.inl rfl)
    · split
      · exact .inr (.inr rfl)
      · split
        · exact .inr (.inl rfl)
        · exact .inl rfl
  have HR := Lib.hid R2
  have HBL := Lib.hid bel2
  have c2 : w2.cell? ⟨bx, 2, none⟩ = some (.slice od' D.length dcap) := R2.B.cell 2
  clear R2 bel2
  rcases hl3 with rfl | rfl | rfl
  · have hm16 := trivial
    have hdd : (if lookF F d = 2 ∧ D.length < 16 then D ++ [ab C (c + d)] else D) = D := if_neg (fun h => by have := h.1; rw [HLV.out] at this; cases this)
    have HE := Lib.hid hdd
    have hd1 : d ≤ 1000 := by
      have := HLV.out
      unfold lookF at this
      split at this
      · cases this
      · split at this
        · cases this
        · omega
    have hsub : (ab C (c + d) - ab C c) % 4294967296 = (d : Int) := by unfold ab; omega
    clear hdd hm16
    obtain ⟨i0, hi, hz0, hz1, hz2⟩ := info_parts infoInt
    obtain ⟨t, ht⟩ : ∃ t, ab C (c + d) = t := ⟨_, rfl⟩
    have HT := Lib.hid ht
    rw [ht] at hsub ⊢
    clear ht
    have hb12 : bx + 1 < w2.heap.size := HR.out.Z.lt
    go_upto_region 6 with fail
    have HS := Lib.hid (show w2.drew.cell? ⟨bx, 0, none⟩ = some (.int .u32 (ab C c)) ∧ w2.drew.cell? ⟨bx, 1, none⟩ = some (.slice oa F.length cap) from ⟨HR.out.drew.B.cell 0, HR.out.drew.B.cell 1⟩)
    refine wp_region_noPanic ?_
    refine begin_C (fun v => v.cell? ⟨bx, 0, none⟩ = some (.int .u32 (ab C c)) ∧ v.cell? ⟨bx, 1, none⟩ = some (.slice oa F.length cap)) 12 (by kernel_rfl) ?_
    refine abs_C _ (fun b hb => ?_)
    have hsz : b.tmps.size = 83 := by rw [hb]; rfl
    have e1 : b.eval (.tmp 1) = .int .u32 t := by rw [hb]; rfl
    have e2 : b.eval (.tmp 2) = .pointer (some ⟨bx, 0, none⟩) := by rw [hb]; rfl
    have HB := Lib.hid hb
    clear hb
    refine take_Y (i := 1) (u := .pointer (some ⟨bx, 1, none⟩)) rfl (by kernel_rfl) (by kernel_rfl) (by kernel_rfl) (by decide) rfl rfl (fun _ _ _ h => h) HS.out (fun v => run_field (s := .pointer (some ⟨bx, 0, none⟩)) rfl (by simp [e2]) (by kernel_rfl)) ?_
    refine take_Y (i := 4) (u := .int .u32 t) rfl (by kernel_rfl) (by kernel_rfl) (by kernel_rfl) (by decide) rfl rfl (fun _ _ _ h => h) HS.out (fun v => run_move rfl (by simp [Act.eval_put_ne, e1]) v) ?_
    refine take_Y (i := 5) (u := .pointer (some ⟨bx, 0, none⟩)) rfl (by kernel_rfl) (by kernel_rfl) (by kernel_rfl) (by decide) rfl rfl (fun _ _ _ h => h) HS.out (fun v => run_field (s := .pointer (some ⟨bx, 0, none⟩)) rfl (by simp [Act.eval_put_ne, e2]) (by kernel_rfl)) ?_
    refine take_C (i := 2) [3, 10] (u := .slice oa F.length cap) rfl (by kernel_rfl) (by kernel_rfl) (by kernel_rfl) (by kernel_rfl) (by kernel_rfl) (by decide) rfl rfl (fun _ _ _ h => h) HS.out (fun v hv => run_load1 (s := .pointer (some ⟨bx, 1, none⟩)) rfl (by simp [Act.eval_put_ne, Act.eval_put_same, Act.size_put, hsz]) (by have c := hv.2; go_simp)) ?_
    refine take_C (i := 6) [7, 8, 9, 10] (u := .int .u32 (ab C c)) rfl (by kernel_rfl) (by kernel_rfl) (by kernel_rfl) (by kernel_rfl) (by kernel_rfl) (by decide) rfl rfl (fun _ _ _ h => h) HS.out (fun v hv => run_load1 (s := .pointer (some ⟨bx, 0, none⟩)) rfl (by simp [Act.eval_put_ne, Act.eval_put_same, Act.size_put, hsz]) (by have c := hv.1; go_simp)) ?_
    refine take_Y (i := 7) (u := .int .u32 (d : Int)) rfl (by kernel_rfl) (by kernel_rfl) (by kernel_rfl) (by decide) rfl rfl (fun _ _ _ h => h) HS.out (fun v => run_sub (s := .int .u32 t) (j := .int .u32 (ab C c)) rfl (by simp [Act.eval_put_ne, Act.eval_put_same, Act.size_put, hsz]) (by simp [Act.eval_put_ne, Act.eval_put_same, Act.size_put, hsz]) (sub_far hsub v)) ?_
    refine take_Y (i := 8) (u := .int .i64 (d : Int)) rfl (by kernel_rfl) (by kernel_rfl) (by kernel_rfl) (by decide) rfl rfl (fun _ _ _ h => h) HS.out (fun v => run_conv (s := .int .u32 (d : Int)) rfl (by simp [Act.eval_put_ne, Act.eval_put_same, Act.size_put, hsz]) (conv_far d hd1 v)) ?_
    refine dapp_C (T := 3) (SL := 25) (g := b0) (fuel := 2) (xv := .int .i64 (d : Int)) (sv := .slice oa F.length cap) (ITEM := #[.int .i64 (d : Int)]) 0 3 9 10 _ _ _ _ 33 36 42 43 35 41 (by kernel_rfl) (by simp [Act.size_put, hsz, dappCT]) rfl rfl rfl rfl ⟨rfl, rfl⟩ ⟨rfl, rfl⟩ ⟨rfl, rfl⟩ ⟨rfl, rfl⟩ rfl rfl
      (fun b v => by kernel_rfl) (fun b v hb => run_build1 rfl hb (by kernel_rfl)) Try.underlying25 hi hz0 hz1 hz2 rfl (by decide) (by simp [Act.eval_put_ne, Act.eval_put_same, Act.size_put, hsz]) (by simp [Act.eval_put_ne, Act.eval_put_same, Act.size_put, hsz]) HR.out.drew.f (cellsF_one F) (by intro u hu; simp at hu; subst hu; rfl) rfl (by unfold maxLen; omega) (by omega) (by have := HR.out.hb; show b0 ≤ w2.heap.size; omega)
      (fun v hv => by have R := HR.out.drew.below hv (Nat.le_refl _); exact ⟨R.B.cell 0, R.B.cell 1⟩) (fun vE vM vB h cp v own hh bel => ?_)
    have R3 := HR.out.drew.below bel (Nat.le_refl _)
    have c3 := R3.B.cell 1
    have f3 := R3.B.frozen 1
    have hh' : w2.heap.size ≤ h := hh
    refine take_Y (i := 11) (u := .pointer (some ⟨bx, 1, none⟩)) rfl (by kernel_rfl) (by kernel_rfl) (by kernel_rfl) (by decide) rfl rfl (fun _ _ _ h => h) (show v.cell? ⟨bx, 0, none⟩ = some (.int .u32 (ab C c)) ∧ v.cell? ⟨bx, 1, none⟩ = some (.slice oa F.length cap) from ⟨R3.B.cell 0, R3.B.cell 1⟩) (fun v => run_field (s := .pointer (some ⟨bx, 0, none⟩)) rfl (by simp [Act.eval_put_ne, e2]) (by kernel_rfl)) ?_
    refine store_C (i := 12) (p := .pointer (some ⟨bx, 1, none⟩)) (u := .slice (some ⟨h, 0, none⟩) (F.length + 1) cp) (w' := v.setCell ⟨bx, 1, none⟩ (.slice (some ⟨h, 0, none⟩) (F.length + 1) cp)) (by kernel_rfl) rfl rfl rfl rfl (by simp [Act.eval_put_ne, Act.eval_put_same, Act.size_put, hsz]) (by simp [Act.eval_put_ne, Act.eval_put_same, Act.size_put, hsz]) (fun h => absurd rfl h) (by go_simp) ?_
    have own' : v.ownsRow b0 3 1 (.slice (some ⟨h, 0, none⟩) (F.length + 1) cp) (F ++ [d]).length (cellsF (F ++ [d])) := by
      have e : (F ++ [d]).length = F.length + 1 := by simp
      rw [e, cellsF_append]
      exact own
    have R4 := R3.setF own' (fun k hk => by cases hk; exact .inr (by show bx + 1 < h; omega))
    have bel4 : Below bx w (v.setCell ⟨bx, 1, none⟩ (.slice (some ⟨h, 0, none⟩) (F.length + 1) cp)) := (HBL.out.trans (((Below.refl w2.heap.size w2).drew.trans bel).mono (by omega))).setCell (p := ⟨bx, 1, none⟩) (Nat.le_refl _) _
    have HX := Lib.hid (And.intro R4 bel4)
    refine done_C (by kernel_rfl) ?_ _
    refine NoPanic.normal ?_
    rw [HB.out]
    simp only [Act.put, List.setIfInBounds_toArray, List.set_cons_zero, List.set_cons_succ]
    clear HB HS R3 c3 f3 own' R4 bel4 own bel hsz e1 e2 hi hz0 hz1 hz2 HR HBL c2
    generalize v.setCell ⟨bx, 1, none⟩ (.slice (some ⟨h, 0, none⟩) (F.length + 1) cp) = w4 at *
    obtain ⟨N, hN⟩ : ∃ N, F.length + 1 = N := ⟨_, rfl⟩
    have HN := Lib.hid hN
    clear hN
    have hC0 := ab_succ C
    have HC0 := Lib.hid hC0
    clear hC0 hh' hh
    go_wp2_with fail
    go_loopw [7] (fun s7 wr => ∃ (k c' : Nat) (F' : List Nat) (fv' : Value), s7 = .int .i64 k ∧ k + F'.length ≤ N ∧ 0 ∉ F' ∧ (∀ y, hasF c' F' y ↔ hasF c (F ++ [d]) y) ∧ (∀ z ∈ F', z ≤ 1000) ∧ Rg b0 bx C c' F' D fv' (.slice od' D.length dcap) wr ∧ Below bx w wr) (fun s7 _ => 2000 - (intOf s7).toNat)
    case atStart =>
      refine ⟨0, c, F ++ [d], _, rfl, by rw [← HN.out]; simp, fun h => ?_, fun y => Iff.rfl, (fun z hz => (List.mem_append.1 hz).elim (fun h => HDD.out.2.2.2 z h) (fun h => (show z = d by simpa using h) ▸ hd1)), HX.out.1, HX.out.2⟩
      rcases List.mem_append.1 h with h | h
      · exact HDD.out.1 h
      · obtain rfl : 0 = d := by simpa using h
        have := HLV.out
        unfold lookF at this
        rw [if_pos (.inl rfl)] at this
        cases this
    case round =>
      clear HX
      obtain ⟨k, c', F', fv', rfl, hkn, hz, hhas, hbd, R, bel⟩ := hrel
      have hN9 : N ≤ 901 := by rw [← HN.out]; omega
      have hF9 : F'.length ≤ 901 := by omega
      have hk1 : (k : Int) ≤ 1000 := by omega
      obtain ⟨ob, bcap, hfv'⟩ := own_arr R.f
      subst hfv'
      have hcall : Calls Try.prog 100 #[.agg #[.int .u32 (ab C c'), .slice ob F'.length bcap, .slice od' D.length dcap], .int .i64 1] wr fun e w' => e = .returned (.bool (hasB F' 1)) ∧ Below wr.heap.size wr w' := has_any (dv := .slice od' D.length dcap) (ab C c') 1 wr (Qo.of_owns R.f) (by omega)
      have HRR := Lib.hid R
      have HRB := Lib.hid (And.intro hz (And.intro hhas bel))
      have HBD := Lib.hid hbd
      have hbl : bx + 1 < wr.heap.size := R.Z.lt
      clear R hz hhas bel hbd
      obtain ⟨hb, hhb⟩ : ∃ hb, hasB F' 1 = hb := ⟨_, rfl⟩
      rw [hhb] at hcall
      have HHB := Lib.hid hhb
      clear hhb
      cases hb with
      | false =>
        go_wp2_with (refine wpList_load_at_g (by rfl) 72 _ rfl bx 0 rfl #[.int .u32 (ab C c'), .slice ob F'.length bcap, .slice od' D.length dcap] _ (Cel.of_blk HRR.out.B) Try.underlying72 rfl (szGt _ _ _) ?_)
        refine hcall.mono ?_
        rintro e w5 ⟨rfl, hb5⟩
        have R5 := HRR.out.below hb5 (Nat.le_refl _)
        have bel5 := HRB.out.2.2.trans (hb5.mono (by omega))
        have z0 := R5.Z.cell 0
        have z1 := R5.Z.cell 1
        have z2 := R5.Z.cell 2
        have y0 := R5.Z.frozen 0
        have y1 := R5.Z.frozen 1
        have y2 := R5.Z.frozen 2
        have HR5 := Lib.hid (And.intro R5 bel5)
        clear R5 bel5 hcall hb5
        go_wp2_with (refine wpList_load_at rfl 72 _ rfl bx 0 rfl #[.int .u32 (ab C c'), .slice ob F'.length bcap, .slice od' D.length dcap] _ (Cel.of_blk HR5.out.1.B) Try.underlying72 rfl (szGt _ _ _) ?_)
        obtain ⟨KK, o1, o2, b3⟩ := HR5.out.1.told3
        exact bodyPost_ret (v := .tuple #[.agg #[.int .u32 (ab C c'), .slice ob F'.length bcap, .slice od' D.length dcap], .int .i64 1]) (by rw [results_cell_tmp_at rfl _ _ (bx + 1) 0 #[.int .u32 (ab C c'), .slice ob F'.length bcap, .slice od' D.length dcap] _ rfl KK Try.underlying72 rfl (szGt _ _ _)]; rfl) rfl ⟨c', F', _, _, by rw [HLV.out], o1, by rw [HE.out]; exact o2, by rw [HBX.out]; exact HR5.out.2.trans b3, fun h => absurd HLV.out h, fun _ => ⟨HRB.out.1, (fun h => by have := hasB_iff.2 h; rw [HHB.out] at this; cases this), HRB.out.2.1, by have := HN.out; omega, HBD.out⟩, fun k hk => .inl hk⟩
      | true =>
        have hone := hasB_iff.1 HHB.out
        have hdl := down_len hone
        have HO := Lib.hid (And.intro hone hdl)
        clear hone hdl
        go_upto_region 8 with fail
        go_wp2_with (refine wpList_load_at_g (by rfl) 72 _ rfl bx 0 rfl #[.int .u32 (ab C c'), .slice ob F'.length bcap, .slice od' D.length dcap] _ (Cel.of_blk HRR.out.B) Try.underlying72 rfl (szGt _ _ _) ?_)
        refine hcall.mono ?_
        rintro e w5 ⟨rfl, hb5⟩
        have R5 := HRR.out.below hb5 (Nat.le_refl _)
        have bel5 := HRB.out.2.2.trans (hb5.mono (by omega))
        have hs5 : wr.heap.size ≤ w5.heap.size := hb5.size
        have c0 : w5.cell? ⟨bx, 0, none⟩ = some (.int .u32 (ab C c')) := R5.B.cell 0
        have f0 := R5.B.frozen 0
        have hc1 := HC0.out c'
        have R6 := R5.setC (c' := c' + 1)
        have bel6 : Below bx w (w5.setCell ⟨bx, 0, none⟩ (.int .u32 (ab C (c' + 1)))) := bel5.setCell (p := ⟨bx, 0, none⟩) (Nat.le_refl _) _
        have HR6 := Lib.hid (And.intro R6 bel6)
        have hs6 : w5.heap.size = (w5.setCell ⟨bx, 0, none⟩ (.int .u32 (ab C (c' + 1)))).heap.size := by simp [World.setCell]
        clear R5 bel5 hcall hb5 R6 bel6
        go_upto_region 11 with fail
        generalize w5.setCell ⟨bx, 0, none⟩ (.int .u32 (ab C (c' + 1))) = w6 at *
        clear hc1
        go_upto_region 12 with fail
        have al7 : Below w6.heap.size w6 (w6.alloc (.cells #[] 3)) := (Below.refl _ _).alloc (Nat.le_refl _) _
        have R7 := HR6.out.1.below al7 (Nat.le_refl _)
        have bel7 := HR6.out.2.trans (al7.mono (by omega))
        have own7 : (w6.alloc (.cells #[] 3)).ownsRow w6.heap.size 3 1 (.slice (some ⟨w6.heap.size, 0, none⟩) 0 0) (down (F'.take 0)).length (cellsF (down (F'.take 0))) := own_none (Blk.new w6 3 #[]) (Nat.le_refl _) (by unfold maxLen; omega) (by simp)
        have hfl : ∀ j, (Value.slice ob F'.length bcap).ownBlock = some j → j < w6.heap.size := fun j hj => own_lt' HR6.out.1.f hj
        have hdl : ∀ j, (Value.slice od' D.length dcap).ownBlock = some j → j < w6.heap.size := fun j hj => own_lt' HR6.out.1.d hj
        obtain ⟨bs, hbs⟩ : ∃ bs, w6.heap.size = bs := ⟨_, rfl⟩
        have hbs1 : bx + 1 < bs := by omega
        rw [hbs] at own7 hfl hdl al7
        rw [hbs]
        have HX7 := Lib.hid (And.intro R7 (And.intro bel7 (And.intro own7 (And.intro hfl hdl))))
        have hbs7 : bs ≤ (w6.alloc (.cells #[] 3)).heap.size := by have := al7.size; omega
        clear R7 bel7 own7 hfl hdl al7 HR6 hbs hs6
        generalize w6.alloc (.cells #[] 3) = w7 at *
        obtain ⟨n, hn'⟩ : ∃ n, F'.length = n := ⟨_, rfl⟩
        have HNN := Lib.hid hn'
        rw [hn'] at hkn hF9
        obtain ⟨i0, hi, hz0, hz1, hz2⟩ := info_parts infoInt
        clear hn'
        rw [HNN.out]
        go_wp2_with fail
        go_loopw [8, 9] (fun s8 s9 wi => ∃ (i : Nat) (ov : Value), ov = s8 ∧ s9 = .int .i64 i ∧ i ≤ n ∧ wi.ownsRow bs 3 1 ov (down (F'.take i)).length (cellsF (down (F'.take i))) ∧ Rg b0 bx C (c' + 1) F' D (.slice ob n bcap) (.slice od' D.length dcap) wi ∧ Below bx w wi ∧ bs ≤ wi.heap.size) (fun _ s9 _ => n - (intOf s9).toNat)
        case atStart => exact ⟨0, _, rfl, rfl, by omega, HX7.out.2.2.1, HNN.out ▸ HX7.out.1, HX7.out.2.1, hbs7⟩
        case round =>
          obtain ⟨i, ov, rfl, rfl, hin, own, R, bel, hbsi⟩ := hrel
          have c1 : wr.cell? ⟨bx, 1, none⟩ = some (.slice ob n bcap) := R.B.cell 1
          have f1 := R.B.frozen 1
          by_cases hlt : i < n
          · have hlt' : (i : Int) < (n : Int) := by omega
            obtain ⟨y, hy⟩ : ∃ y, F'[i]? = some y := ⟨_, List.getElem?_eq_getElem (by rw [HNN.out]; exact hlt)⟩
            obtain ⟨gf, hob, hcy⟩ := own_at R.f hy
            subst hob
            have hsn := down_snoc F' i y hy
            have HB2 := Lib.hid (And.intro own (And.intro R (And.intro bel hsn)))
            have hgl : gf < bs := HX7.out.2.2.2.1 gf rfl
            have hovl : ∀ j, ov.ownBlock = some j → bs ≤ j := fun j hj => own_ge own j hj
            have hlen : (down (F'.take i)).length ≤ n := by have := down_le (F'.take i); rw [List.length_take] at this; omega
            have HY := Lib.hid hy
            clear own R bel hy f1 hsn
            by_cases hy1 : (1 : Int) < (y : Int)
            · obtain ⟨m, hm⟩ : ∃ m, y - 1 = m := ⟨_, rfl⟩
              have hyb : y ≤ 1000 := HBD.out y (List.mem_of_getElem? HY.out)
              have hw1 : IntKind.i64.wrap ((y : Int) - 1) = (m : Int) := by rw [IntKind.wrap_i64]; omega
              have al9 := (Below.refl wr.heap.size wr).alloc (Nat.le_refl _) (.cells #[.int .i64 (m : Int)] 3)
              obtain ⟨h8, cap8, w8, hr8, own8, grow8, hat8, hlt8⟩ := run_append_lies (P := Try.prog) (wr.alloc (.cells #[.int .i64 (m : Int)] 3)) 25 25 bs 3 i0 (.int .i64 0) 1 8 Try.underlying25 hi hz0 hz1 hz2 rfl (by decide) ov (down (F'.take i)).length (cellsF (down (F'.take i))) (own_all HB2.out.1 al9) ⟨wr.heap.size, 0, none⟩ 1 1 (#[.int .i64 (m : Int)] : Array Value).toList rfl (World.news_of_block (Blk.new _ _ _)) (by intro u hu; simp at hu; subst hu; rfl) (by omega) (by unfold maxLen; omega) (by omega) (by have := al9.size; omega) _ rfl
              have b8 : Below bs wr w8 := ((Below.refl bs wr).alloc hbsi (.cells #[.int .i64 (m : Int)] 3)).grown grow8 (by have := al9.size; omega) hovl
              have own9 : w8.ownsRow bs 3 1 (.slice (some ⟨h8, 0, none⟩) ((down (F'.take i)).length + 1) cap8) (down (F'.take (i + 1))).length (cellsF (down (F'.take (i + 1)))) := by
                have e : down (F'.take (i + 1)) = down (F'.take i) ++ [m] := by rw [HB2.out.2.2.2, if_pos (by omega), hm]
                have e1 : (down (F'.take i) ++ [m]).length = (down (F'.take i)).length + 1 := by simp
                rw [e, e1, cellsF_append]
                exact own8
              have R9 := HB2.out.2.1.keep b8 hbs1 HX7.out.2.2.2.1 HX7.out.2.2.2.2
              have bel9 := HB2.out.2.2.1.trans (b8.mono (by omega))
              have HR9 := Lib.hid (And.intro own9 (And.intro R9 (And.intro bel9 (show bs ≤ w8.heap.size from Nat.le_trans hbsi b8.size))))
              clear own8 grow8 hat8 hlt8 b8 own9 R9 bel9 hovl hlen hm hyb al9
              have c1' : (wr.alloc (.cells #[.int .i64 (m : Int)] 3)).cell? ⟨bx, 1, none⟩ = some (.slice (some ⟨gf, 0, none⟩) n bcap) := (HB2.out.2.1.below ((Below.refl wr.heap.size wr).alloc (Nat.le_refl _) _) (Nat.le_refl _)).B.cell 1
              go_wp2_with (at_builtin; refine wpList_append_q rfl _ _ _ rfl rfl rfl hr8 ?_)
              go_roundw
              case rel => exact ⟨i + 1, _, rfl, by go_num, by omega, HR9.out.1, HR9.out.2.1, HR9.out.2.2.1, HR9.out.2.2.2⟩
              case measure => simp [intOf]; omega
            · have hsn : down (F'.take (i + 1)) = down (F'.take i) := by
                rw [HB2.out.2.2.2, if_neg (by omega)]
                simp
              have HSN := Lib.hid hsn
              clear hsn
              go_wp2_with fail
              go_roundw
              case rel => exact ⟨i + 1, ov, rfl, by go_num, by omega, by rw [HSN.out]; exact HB2.out.1, HB2.out.2.1, HB2.out.2.2.1, hbsi⟩
              case measure => simp [intOf]; omega
          · obtain rfl : i = n := by omega
            have hdn : down (F'.take i) = down F' := by rw [List.take_of_length_le (by rw [HNN.out]; exact Nat.le_refl _)]
            rw [hdn] at own
            obtain ⟨oo, ocap, hov⟩ := own_arr own
            have R8 := R.setF (own_weaken own (by have := R.hb; omega)) (fun k hk => .inr (by have := own_ge own k hk; omega))
            have bel8 : Below bx w (wr.setCell ⟨bx, 1, none⟩ ov) := bel.setCell (p := ⟨bx, 1, none⟩) (Nat.le_refl _) _
            subst hov
            have HR8 := Lib.hid (And.intro R8 bel8)
            clear R8 bel8 own R bel hdn
            go_wp2_with fail
            go_roundw
            case rel => exact ⟨k + 1, c' + 1, down F', _, by go_num, by have := HO.out.2; rw [HNN.out] at this; omega, fun h => by have := (mem_down.1 h).1; omega, fun y => (down_has HO.out.1 y).trans (HRB.out.2.1 y), (fun z hz => by have := HBD.out _ (mem_down.1 hz).2; omega), HR8.out.1, HR8.out.2⟩
            case measure => simp [intOf]; omega
  · by_cases hD16 : D.length < 16
    · have hdd : (if lookF F d = 2 ∧ D.length < 16 then D ++ [ab C (c + d)] else D) = D ++ [ab C (c + d)] := if_pos ⟨HLV.out, hD16⟩
      have HE := Lib.hid hdd
      have hm16 : (D.length : Int) < 16 := by omega
      obtain ⟨i0, hi, hz0, hz1, hz2⟩ := info_parts infoU
      obtain ⟨vM, w9, h8, cap8, w11, hr1, hr2, own11, hge8, hlt8, bel9, bel11⟩ := app2_run (P := Try.prog) (SL := 38) (ty1 := 38) (ty2 := 38) #[.int .u32 (ab C (c + d))] Try.underlying38 hi hz0 hz1 hz2 rfl (by decide) HR.out.d (cellsU_one D) (by intro u hu; simp at hu; subst hu; rfl) rfl (by unfold maxLen; omega) (by omega)
      have hb12 : bx + 1 < w2.heap.size := HR.out.Z.lt
      have R11 := HR.out.below bel11 (Nat.le_refl _)
      have own11' : w11.ownsRow b0 28 1 (.slice (some ⟨h8, 0, none⟩) (D.length + 1) cap8) (D ++ [ab C (c + d)]).length (cellsU (D ++ [ab C (c + d)])) := by
        have e : (D ++ [ab C (c + d)]).length = D.length + 1 := by simp
        rw [e]
        have e2 : cellsU (D ++ [ab C (c + d)]) = cellsU D ++ (#[.int .u32 (ab C (c + d))] : Array Value).toList := by simp [cellsU]
        rw [e2]
        exact ⟨own11.1, own11.2.imp id (fun ⟨a, b, c, q1, q2, q3⟩ => ⟨a, b, c, q1, Nat.le_trans (by have := HR.out.hb; omega) q2, q3⟩)⟩
      have R12 := R11.setD own11' (fun k hk => by cases hk; exact .inr (by show bx + 1 < h8; omega))
      have bel12 : Below bx w (w11.setCell ⟨bx, 2, none⟩ (.slice (some ⟨h8, 0, none⟩) (D.length + 1) cap8)) := (HBL.out.trans (bel11.mono (by omega))).setCell (p := ⟨bx, 2, none⟩) (Nat.le_refl _) _
      have c11 : w11.cell? ⟨bx, 2, none⟩ = some (.slice od' D.length dcap) := R11.B.cell 2
      have f11 := R11.B.frozen 2
      have z0 := R11.Z.cell 0
      have z1 := R11.Z.cell 1
      have z2 := R11.Z.cell 2
      have y0 := R11.Z.frozen 0
      have y1 := R11.Z.frozen 1
      have y2 := R11.Z.frozen 2
      have c10 : (w2.alloc (.cells #[] 28)).cell? ⟨bx, 2, none⟩ = some (.slice od' D.length dcap) := (HR.out.below ((Below.refl w2.heap.size w2).alloc (Nat.le_refl _) _) (Nat.le_refl _)).B.cell 2
      have HR12 := Lib.hid (And.intro R12 bel12)
      clear R11 own11' R12 bel12 own11 bel9 bel11 hdd hi hz0 hz1 hz2
      go_wp2_with (first | (refine wpList_load_at rfl 72 _ rfl bx 0 rfl #[.int .u32 (ab C c), .slice oa F.length cap, .slice (some ⟨h8, 0, none⟩) (D.length + 1) cap8] _ (Cel.of_blk HR12.out.1.B) Try.underlying72 rfl (szGt _ _ _) ?_) | (refine wpList_store_at rfl 72 _ _ rfl (bx + 1) 0 #[.int .u32 (ab C c), .slice oa F.length cap, .slice (some ⟨h8, 0, none⟩) (D.length + 1) cap8] rfl rfl _ (Cel.of_blk HR12.out.1.Z) (szGt _ _ _) rfl rfl ?_) | (at_builtin; first | (refine wpList_append_q rfl _ _ _ rfl rfl rfl hr1 ?_) | (refine wpList_append_q rfl _ _ _ rfl rfl rfl hr2 ?_)))
      obtain ⟨KK, o1, o2, b3⟩ := HR12.out.1.told3
      exact bodyPost_ret (v := .tuple #[.agg #[.int .u32 (ab C c), .slice oa F.length cap, .slice (some ⟨h8, 0, none⟩) (D.length + 1) cap8], .int .i64 2]) (by rw [results_cell_tmp_at rfl _ _ (bx + 1) 0 #[.int .u32 (ab C c), .slice oa F.length cap, .slice (some ⟨h8, 0, none⟩) (D.length + 1) cap8] _ rfl KK Try.underlying72 rfl (szGt _ _ _)]; rfl) rfl ⟨c, F, _, _, by rw [HLV.out], o1, by rw [HE.out]; exact o2, by rw [HBX.out]; exact HR12.out.2.trans b3, fun _ => ⟨rfl, rfl⟩, (fun h => by rw [HLV.out] at h; cases h), fun k hk => .inr (by cases hk; have := HBL.out.size; show w.heap.size ≤ h8; omega)⟩
    · have hdd : (if lookF F d = 2 ∧ D.length < 16 then D ++ [ab C (c + d)] else D) = D := if_neg (fun h => hD16 h.2)
      have HE := Lib.hid hdd
      have hm16 : (16 : Int) ≤ (D.length : Int) := by omega
      clear hdd
      have z0 := HR.out.Z.cell 0
      have z1 := HR.out.Z.cell 1
      have z2 := HR.out.Z.cell 2
      have y0 := HR.out.Z.frozen 0
      have y1 := HR.out.Z.frozen 1
      have y2 := HR.out.Z.frozen 2
      go_wp2_with (first | (refine wpList_load_at rfl 72 _ rfl bx 0 rfl #[.int .u32 (ab C c), .slice oa F.length cap, .slice od' D.length dcap] _ (Cel.of_blk HR.out.B) Try.underlying72 rfl (szGt _ _ _) ?_) | (refine wpList_store_at rfl 72 _ _ rfl (bx + 1) 0 #[.int .u32 (ab C c), .slice oa F.length cap, .slice od' D.length dcap] rfl rfl _ (Cel.of_blk HR.out.Z) (szGt _ _ _) rfl rfl ?_))
      obtain ⟨KK, o1, o2, b3⟩ := HR.out.told3
      exact bodyPost_ret (v := .tuple #[.agg #[.int .u32 (ab C c), .slice oa F.length cap, .slice od' D.length dcap], .int .i64 2]) (by rw [results_cell_tmp_at rfl _ _ (bx + 1) 0 #[.int .u32 (ab C c), .slice oa F.length cap, .slice od' D.length dcap] _ rfl KK Try.underlying72 rfl (szGt _ _ _)]; rfl) rfl ⟨c, F, _, _, by rw [HLV.out], o1, by rw [HE.out]; exact o2, by rw [HBX.out]; exact HBL.out.trans b3, fun _ => ⟨rfl, rfl⟩, (fun h => by rw [HLV.out] at h; cases h), fun k hk => .inl hk⟩
  · have hdd : (if lookF F d = 2 ∧ D.length < 16 then D ++ [ab C (c + d)] else D) = D := if_neg (fun h => by have := h.1; rw [HLV.out] at this; cases this)
    have HE := Lib.hid hdd
    clear hdd
    have z0 := HR.out.Z.cell 0
    have z1 := HR.out.Z.cell 1
    have z2 := HR.out.Z.cell 2
    have y0 := HR.out.Z.frozen 0
    have y1 := HR.out.Z.frozen 1
    have y2 := HR.out.Z.frozen 2
    go_wp2_with (first | (refine wpList_load_at rfl 72 _ rfl bx 0 rfl #[.int .u32 (ab C c), .slice oa F.length cap, .slice od' D.length dcap] _ (Cel.of_blk HR.out.B) Try.underlying72 rfl (szGt _ _ _) ?_) | (refine wpList_store_at rfl 72 _ _ rfl (bx + 1) 0 #[.int .u32 (ab C c), .slice oa F.length cap, .slice od' D.length dcap] rfl rfl _ (Cel.of_blk HR.out.Z) (szGt _ _ _) rfl rfl ?_))
    obtain ⟨KK, o1, o2, b3⟩ := HR.out.told3
    exact bodyPost_ret (v := .tuple #[.agg #[.int .u32 (ab C c), .slice oa F.length cap, .slice od' D.length dcap], .int .i64 3]) (by rw [results_cell_tmp_at rfl _ _ (bx + 1) 0 #[.int .u32 (ab C c), .slice oa F.length cap, .slice od' D.length dcap] _ rfl KK Try.underlying72 rfl (szGt _ _ _)]; rfl) rfl ⟨c, F, _, _, by rw [HLV.out], o1, by rw [HE.out]; exact o2, by rw [HBX.out]; exact HBL.out.trans b3, fun _ => ⟨rfl, rfl⟩, (fun h => by rw [HLV.out] at h; cases h), fun k hk => .inl hk⟩
end Go.Proofs.Ythddacgdmngfhaa.gap
