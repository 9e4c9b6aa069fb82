/- Layer 6: few gaps and dups; what is left when all that a type has is taken away (gen-ckf.py wrote this). -/
import Derived.Great.BuildSlice
import Derived.Lib.QuietBelow
import Derived.Test.YtfpcneekbdcbcaaGB
namespace Go.Proofs.Ytfpcneekbdcbcaa.ck
open Go.ChangeShapes Go.WideShapes Go.ChangeAt Go.RowKit kit oct par chk
set_option maxRecDepth 100000

def fewV (t1B t2B : Bool) : Bool := (t1B && t2B)
def fewF (nG nD : Nat) : Bool := fewV (decide (((nG : Nat) : Int) ≤ (16 : Int))) (decide (((nD : Nat) : Int) ≤ (16 : Int)))
theorem fewF_eq (nG nD : Nat) : fewF nG nD = (decide (nG ≤ 16) && decide (nD ≤ 16)) := by
  unfold fewF fewV
  rw [Bool.eq_iff_iff]
  simp
  omega
set_option maxHeartbeats 2000000 in
theorem few_any (X : Ck) (oP oK oG oD : Option Addr) (nP cP nK cK nG cG nD cD : Nat) (w : World) : Calls Try.prog 22 #[.agg (ckc X (.slice oP nP cP) (.slice oK nK cK) (.slice oG nG cG) (.slice oD nD cD))] w fun e w' => e = .returned (.bool (fewF nG nD)) ∧ Below w.heap.size w w' := by
  obtain ⟨rb, hrb⟩ : ∃ rb, fewF nG nD = rb := ⟨_, rfl⟩
  rw [hrb]
  have HRB := Lib.hid hrb
  clear hrb
  have X0 := Blk.new w 28 (ckc X (.slice oP nP cP) (.slice oK nK cK) (.slice oG nG cG) (.slice oD nD cD))
  have bel0 := (Below.refl w.heap.size w).alloc (Nat.le_refl _) (.cells (ckc X (.slice oP nP cP) (.slice oK nK cK) (.slice oG nG cG) (.slice oD nD cD)) 28)
  unfold ckc at X0 bel0 ⊢
  go_enter Try.func22, Try.ntmps22
  go_upto_region 1 with fail
  obtain ⟨w0, hw0⟩ : ∃ w0, w.alloc (.cells #[.int .i64 X.ty, .int .i64 X.fl, .int .u32 X.tsn, .int .i64 X.st, .int .i64 X.ss, .int .u32 X.pr, .string X.d, .int .u32 X.tg, .int .u32 X.rw, .int .i64 X.ou, .int .i64 X.ii, .slice oP nP cP, .slice oK nK cK, .slice oG nG cG, .slice oD nD cD] 28) = w0 := ⟨_, rfl⟩
  rw [hw0] at X0 bel0
  try rw [hw0]
  clear hw0
  obtain ⟨cb, hcb⟩ : ∃ cb, w.heap.size = cb := ⟨_, rfl⟩
  have hcl := X0.lt
  rw [hcb] at X0 hcl
  try rw [hcb]
  obtain ⟨t1B, ht1B⟩ : ∃ b : Bool, decide (((nG : Nat) : Int) ≤ (16 : Int)) = b := ⟨_, rfl⟩
  obtain ⟨t2B, ht2B⟩ : ∃ b : Bool, decide (((nD : Nat) : Int) ≤ (16 : Int)) = b := ⟨_, rfl⟩
  go_upto_region 1 with fail
  refine wp_region_lit ?_
  refine abs_list _ (fun ac hac => ?_)
  have hsz : ac.tmps.size = 13 := by rw [hac]; rfl
  have f1 : ac.eval (.tmp 1) = .pointer (some ⟨cb, 0, none⟩) := by rw [hac]; rfl
  have HB := Lib.hid hac
  clear hac
  refine list_val (u := .pointer (some ⟨cb, 13, none⟩)) rfl rfl (run_field (s := .pointer (some ⟨cb, 0, none⟩)) rfl f1 (by kernel_rfl)) ?_
  refine abs_list _ (fun a1 h1 => ?_)
  have z1 := sp h1 hsz
  replace f1 := kp h1 (by decide) f1
  have f3 := nw h1 hsz (by decide)
  replace h1 := Lib.hid h1
  refine list_val (u := .slice oG nG cG) rfl rfl (run_load1 (s := .pointer (some ⟨cb, 13, none⟩)) rfl f3 (by have c : w0.cell? ⟨cb, 13, none⟩ = some (.slice oG nG cG) := X0.cell 13; go_simp)) ?_
  refine abs_list _ (fun a2 h2 => ?_)
  have z2 := sp h2 z1
  replace f1 := kp h2 (by decide) f1
  have f4 := nw h2 z1 (by decide)
  clear f3 z1
  replace h2 := Lib.hid h2
  refine list_val (u := .int .i64 (nG : Nat)) rfl rfl (run_lens (s := .slice oG nG cG) rfl f4 (fun cs => len_sl25 _ _ _ _ cs)) ?_
  refine abs_list _ (fun a3 h3 => ?_)
  have z3 := sp h3 z2
  replace f1 := kp h3 (by decide) f1
  have f5 := nw h3 z2 (by decide)
  clear f4 z2
  replace h3 := Lib.hid h3
  refine list_val (u := .bool t1B) rfl rfl (run_ord (s := .int .i64 (nG : Nat)) (j := .int .i64 16) rfl (.inr (.inr (.inl rfl))) f5 rfl ((leq_i3 _ _ _).trans (by rw [ht1B]))) ?_
  refine abs_list _ (fun a4 h4 => ?_)
  have z4 := sp h4 z3
  replace f1 := kp h4 (by decide) f1
  have f6 := nw h4 z3 (by decide)
  clear f5 z3
  replace h4 := Lib.hid h4
  refine list_val (u := .bool t1B) rfl rfl (run_move rfl f6 _) ?_
  refine abs_list _ (fun a5 h5 => ?_)
  have z5 := sp h5 z4
  replace f1 := kp h5 (by decide) f1
  have f7 := nw h5 z4 (by decide)
  clear f6 z4
  replace h5 := Lib.hid h5
  refine list_if (u := .pointer (some ⟨cb, 14, none⟩)) (b := t1B) (c := true) (c' := t1B) (dk := 7) rfl (by kernel_rfl) (f7.trans (cv_true _).symm) rfl (by cases t1B <;> rfl) (fun h => run_field (s := .pointer (some ⟨cb, 0, none⟩)) rfl f1 (by kernel_rfl)) ?_
  refine abs_list _ (fun a6 h6 => ?_)
  have z6 := sp h6 z5
  replace f1 := kp h6 (by decide) f1
  replace f7 := kp h6 (by decide) f7
  have f8 := nw h6 z5 (by decide)
  clear z5
  replace h6 := Lib.hid h6
  refine list_if (u := .slice oD nD cD) (b := t1B) (c := true) (c' := t1B) (dk := 7) rfl (by kernel_rfl) (f7.trans (cv_true _).symm) rfl (by cases t1B <;> rfl) (fun h => run_load1 (s := .pointer (some ⟨cb, 14, none⟩)) rfl (f8.trans (cv_of h)) (by have c : w0.cell? ⟨cb, 14, none⟩ = some (.slice oD nD cD) := X0.cell 14; go_simp)) ?_
  refine abs_list _ (fun a7 h7 => ?_)
  have z7 := sp h7 z6
  replace f1 := kp h7 (by decide) f1
  replace f7 := kp h7 (by decide) f7
  have f9 := nw h7 z6 (by decide)
  clear f8 z6
  replace h7 := Lib.hid h7
  refine list_if (u := .int .i64 (nD : Nat)) (b := t1B) (c := true) (c' := t1B) (dk := 7) rfl (by kernel_rfl) (f7.trans (cv_true _).symm) rfl (by cases t1B <;> rfl) (fun h => run_lens (s := .slice oD nD cD) rfl (f9.trans (cv_of h)) (fun cs => len_sl26 _ _ _ _ cs)) ?_
  refine abs_list _ (fun a8 h8 => ?_)
  have z8 := sp h8 z7
  replace f1 := kp h8 (by decide) f1
  replace f7 := kp h8 (by decide) f7
  have f10 := nw h8 z7 (by decide)
  clear f9 z7
  replace h8 := Lib.hid h8
  refine list_if (u := .bool t2B) (b := t1B) (c := true) (c' := t1B) (dk := 7) rfl (by kernel_rfl) (f7.trans (cv_true _).symm) rfl (by cases t1B <;> rfl) (fun h => run_ord (s := .int .i64 (nD : Nat)) (j := .int .i64 16) rfl (.inr (.inr (.inl rfl))) (f10.trans (cv_of h)) rfl ((leq_i3 _ _ _).trans (by rw [ht2B]))) ?_
  refine abs_list _ (fun a9 h9 => ?_)
  have z9 := sp h9 z8
  replace f1 := kp h9 (by decide) f1
  replace f7 := kp h9 (by decide) f7
  have f11 := nw h9 z8 (by decide)
  clear f10 z8
  replace h9 := Lib.hid h9
  obtain ⟨q1B, hq1B⟩ : ∃ q : Bool, (t1B && t2B) = q := ⟨_, rfl⟩
  refine list_val (u := .bool q1B) rfl rfl (run_pick (b := t1B) rfl f7 (by rw [f11, ← hq1B]; cases t1B <;> cases t2B <;> simp [cv, eval_const])) ?_
  refine abs_list _ (fun a10 h10 => ?_)
  have z10 := sp h10 z9
  replace f1 := kp h10 (by decide) f1
  have f12 := nw h10 z9 (by decide)
  clear f7 f11 z9
  replace h10 := Lib.hid h10
  refine list_val (u := .bool q1B) rfl rfl (run_assign rfl f12 _) ?_
  refine abs_list _ (fun a11 h11 => ?_)
  have z11 := sp h11 z10
  replace f1 := kp h11 (by decide) f1
  have f2 := nw h11 z10 (by decide)
  clear f12 z10
  replace h11 := Lib.hid h11
  refine wpList_nil ?_
  rw [h11.out, h10.out, h9.out, h8.out, h7.out, h6.out, h5.out, h4.out, h3.out, h2.out, h1.out, HB.out]
  simp only [Act.put, List.setIfInBounds_toArray, List.set_cons_zero, List.set_cons_succ]
  clear f1 f2 z11 HB hsz h1 h2 h3 h4 h5 h6 h7 h8 h9 h10 h11
  have HY := Lib.hid (show rb = q1B by
    rw [← HRB.out]
    unfold fewF
    rw [ht1B, ht2B]
    subst_vars
    rfl)
  go_wp2_with fail
  go_ret
  exact ⟨ret_bool HY.out.symm, bel0⟩
def stripC (k : Int) (X : Ck) : Ck := { X with tsn := if k = 0 ∨ k = 1 ∨ k = 3 ∨ k = 7 ∨ k = 16 then 0 else X.tsn, st := if k = 0 ∨ k = 15 then 0 else X.st, ss := if k = 0 ∨ k = 15 then 0 else X.ss, pr := if k = 0 then 0 else X.pr, d := if k = 0 ∨ k = 4 ∨ k = 10 ∨ k = 15 ∨ k = 20 then ⟨#[]⟩ else X.d, tg := if k = 1 then 0 else X.tg, rw := if k = 1 ∨ k = 3 then 0 else X.rw, ou := if k = 1 then 0 else X.ou, ii := if k = 1 then 0 else X.ii }
def bareV (t1B t2B t3B t4B t5B t6B t7B t8B t9B t10B : Bool) : Bool := (((((((((t1B && t2B) && t3B) && t4B) && t5B) && t6B) && t7B) && t8B) && t9B) && t10B)
def bareZ (Z : Ck) (pN kN gN dN : Nat) : Bool := bareV (((Z.tsn : Int) == (0 : Int))) (((Z.st : Int) == (0 : Int))) (((Z.ss : Int) == (0 : Int))) (((Z.pr : Int) == (0 : Int))) (((Z.tg : Int) == (0 : Int))) (((Z.rw : Int) == (0 : Int))) (((Z.ou : Int) == (0 : Int))) (((Z.ii : Int) == (0 : Int))) ((Z.d.toList == (⟨#[]⟩ : ByteArray).toList)) (((((pN + kN + gN + dN : Nat) : Nat) : Int) == (0 : Int)))
def bareF (X : Ck) (nP nK nG nD : Nat) (k : Int) : Bool := bareZ (stripC k X) (if k = 1 ∨ k = 16 then 0 else nP) (if k = 6 then 0 else nK) (if k = 3 then 0 else nG) (if k = 3 then 0 else nD)
theorem kinds (n : Int) : kindV n = 0 ∨ kindV n = 1 ∨ kindV n = 3 ∨ kindV n = 4 ∨ kindV n = 6 ∨ kindV n = 7 ∨ kindV n = 8 ∨ kindV n = 10 ∨ kindV n = 15 ∨ kindV n = 16 ∨ kindV n = 20 := by
  unfold kindV
  (repeat' split) <;> omega
set_option maxHeartbeats 2000000 in
theorem bare_has (X : Ck) (nP nK nG nD : Nat) (n : Int) : bareF X nP nK nG nD (kindV n) = !(hasF X nP nK nG nD (kindV n)) := by
  rw [Bool.eq_iff_iff]
  rcases kinds n with h | h | h | h | h | h | h | h | h | h | h <;> rw [h] <;> unfold bareF bareZ bareV hasF hasV stripC <;> simp <;> by_cases hd : X.d.toList = [] <;> (try simp [hd]) <;> omega
set_option maxHeartbeats 8000000 in
theorem bare_any (X : Ck) (oP oK oG oD : Option Addr) (nP cP nK cK nG cG nD cD : Nat) (hN : nP ≤ 20 ∧ nK ≤ 20 ∧ nG ≤ 20 ∧ nD ≤ 20) (w : World) : Calls Try.prog 56 #[.agg (ckc X (.slice oP nP cP) (.slice oK nK cK) (.slice oG nG cG) (.slice oD nD cD))] w fun e w' => e = .returned (.bool (bareF X nP nK nG nD (kindV X.ty))) ∧ Below w.heap.size w w' := by
  obtain ⟨rb, hrb⟩ : ∃ rb, bareF X nP nK nG nD (kindV X.ty) = rb := ⟨_, rfl⟩
  rw [hrb]
  have HRB := Lib.hid hrb
  clear hrb
  have X0 := Blk.new w 28 (ckc X (.slice oP nP cP) (.slice oK nK cK) (.slice oG nG cG) (.slice oD nD cD))
  have bel0 := (Below.refl w.heap.size w).alloc (Nat.le_refl _) (.cells (ckc X (.slice oP nP cP) (.slice oK nK cK) (.slice oG nG cG) (.slice oD nD cD)) 28)
  unfold ckc at X0 bel0 ⊢
  go_enter Try.func56, Try.ntmps56
  go_upto_region 1 with fail
  obtain ⟨w0, hw0⟩ : ∃ w0, w.alloc (.cells #[.int .i64 X.ty, .int .i64 X.fl, .int .u32 X.tsn, .int .i64 X.st, .int .i64 X.ss, .int .u32 X.pr, .string X.d, .int .u32 X.tg, .int .u32 X.rw, .int .i64 X.ou, .int .i64 X.ii, .slice oP nP cP, .slice oK nK cK, .slice oG nG cG, .slice oD nD cD] 28) = w0 := ⟨_, rfl⟩
  rw [hw0] at X0 bel0
  try rw [hw0]
  clear hw0
  obtain ⟨cb, hcb⟩ : ∃ cb, w.heap.size = cb := ⟨_, rfl⟩
  have hcl := X0.lt
  rw [hcb] at X0 hcl
  try rw [hcb]
  have x0 : w0.cell? ⟨cb, 0, none⟩ = some (.int .i64 X.ty) := X0.cell 0
  go_upto_block 0 with fail
  go_cut [] from 7 to 50 (fun wx => ∃ (Z : Ck) (pO : Option Addr) (pN pC : Nat) (kO : Option Addr) (kN kC : Nat) (gO : Option Addr) (gN gC : Nat) (dO : Option Addr) (dN dC : Nat), Blk wx cb 28 (ckc Z (.slice pO pN pC) (.slice kO kN kC) (.slice gO gN gC) (.slice dO dN dC)) ∧ Z = stripC (kindV X.ty) X ∧ pN = (if kindV X.ty = 1 ∨ kindV X.ty = 16 then 0 else nP) ∧ kN = (if kindV X.ty = 6 then 0 else nK) ∧ gN = (if kindV X.ty = 3 then 0 else nG) ∧ dN = (if kindV X.ty = 3 then 0 else nD) ∧ Below w.heap.size w wx)
  case first =>
    by_cases t0 : X.ty = 0
    · have e0 : (X.ty == 0) = true := beq_iff_eq.2 t0
      have HT := Lib.hid (show kindV X.ty = 0 by rw [t0]; rfl)
      clear x0 t0
      have C := fun i => X0.cell i
      have F := fun i => X0.frozen i
      go_wp2_with fail
      go_meet
      have t := HT.out
      exact ⟨⟨X.ty, X.fl, 0, 0, 0, 0, ⟨#[]⟩, X.tg, X.rw, X.ou, X.ii, X.P, X.K, X.G, X.D⟩, oP, nP, cP, oK, nK, cK, oG, nG, cG, oD, nD, cD, (((((X0.set_ 2 (.int .u32 0)).set_ 3 (.int .i64 0)).set_ 4 (.int .i64 0)).set_ 5 (.int .u32 0)).set_ 6 (.string ⟨#[]⟩)), (by rw [t]; rfl), (by rw [t]; rfl), (by rw [t]; rfl), (by rw [t]; rfl), (by rw [t]; rfl), (((((bel0.setCell (Nat.le_of_eq hcb) (.int .u32 0)).setCell (Nat.le_of_eq hcb) (.int .i64 0)).setCell (Nat.le_of_eq hcb) (.int .i64 0)).setCell (Nat.le_of_eq hcb) (.int .u32 0)).setCell (Nat.le_of_eq hcb) (.string ⟨#[]⟩))⟩
    have e0 : (X.ty == 0) = false := beq_eq_false_iff_ne.2 t0
    by_cases t1 : X.ty = 1
    · have e1 : (X.ty == 1) = true := beq_iff_eq.2 t1
      have HT := Lib.hid (show kindV X.ty = 1 by rw [t1]; rfl)
      clear x0 t0 t1
      have C := fun i => X0.cell i
      have F := fun i => X0.frozen i
      go_wp2_with fail
      go_meet
      have t := HT.out
      exact ⟨⟨X.ty, X.fl, 0, X.st, X.ss, X.pr, X.d, 0, 0, 0, 0, X.P, X.K, X.G, X.D⟩, none, 0, 0, oK, nK, cK, oG, nG, cG, oD, nD, cD, ((((((X0.set_ 7 (.int .u32 0)).set_ 8 (.int .u32 0)).set_ 9 (.int .i64 0)).set_ 10 (.int .i64 0)).set_ 2 (.int .u32 0)).set_ 11 (.slice none 0 0)), (by rw [t]; rfl), (by rw [t]; rfl), (by rw [t]; rfl), (by rw [t]; rfl), (by rw [t]; rfl), ((((((bel0.setCell (Nat.le_of_eq hcb) (.int .u32 0)).setCell (Nat.le_of_eq hcb) (.int .u32 0)).setCell (Nat.le_of_eq hcb) (.int .i64 0)).setCell (Nat.le_of_eq hcb) (.int .i64 0)).setCell (Nat.le_of_eq hcb) (.int .u32 0)).setCell (Nat.le_of_eq hcb) (.slice none 0 0))⟩
    have e1 : (X.ty == 1) = false := beq_eq_false_iff_ne.2 t1
    by_cases t2 : X.ty = 2
    · have e2 : (X.ty == 2) = true := beq_iff_eq.2 t2
      have HT := Lib.hid (show kindV X.ty = 1 by rw [t2]; rfl)
      clear x0 t0 t1 t2
      have C := fun i => X0.cell i
      have F := fun i => X0.frozen i
      go_wp2_with fail
      go_meet
      have t := HT.out
      exact ⟨⟨X.ty, X.fl, 0, X.st, X.ss, X.pr, X.d, 0, 0, 0, 0, X.P, X.K, X.G, X.D⟩, none, 0, 0, oK, nK, cK, oG, nG, cG, oD, nD, cD, ((((((X0.set_ 7 (.int .u32 0)).set_ 8 (.int .u32 0)).set_ 9 (.int .i64 0)).set_ 10 (.int .i64 0)).set_ 2 (.int .u32 0)).set_ 11 (.slice none 0 0)), (by rw [t]; rfl), (by rw [t]; rfl), (by rw [t]; rfl), (by rw [t]; rfl), (by rw [t]; rfl), ((((((bel0.setCell (Nat.le_of_eq hcb) (.int .u32 0)).setCell (Nat.le_of_eq hcb) (.int .u32 0)).setCell (Nat.le_of_eq hcb) (.int .i64 0)).setCell (Nat.le_of_eq hcb) (.int .i64 0)).setCell (Nat.le_of_eq hcb) (.int .u32 0)).setCell (Nat.le_of_eq hcb) (.slice none 0 0))⟩
    have e2 : (X.ty == 2) = false := beq_eq_false_iff_ne.2 t2
    by_cases t3 : X.ty = 3
    · have e3 : (X.ty == 3) = true := beq_iff_eq.2 t3
      have HT := Lib.hid (show kindV X.ty = 3 by rw [t3]; rfl)
      clear x0 t0 t1 t2 t3
      have C := fun i => X0.cell i
      have F := fun i => X0.frozen i
      go_wp2_with fail
      go_meet
      have t := HT.out
      exact ⟨⟨X.ty, X.fl, 0, X.st, X.ss, X.pr, X.d, X.tg, 0, X.ou, X.ii, X.P, X.K, X.G, X.D⟩, oP, nP, cP, oK, nK, cK, none, 0, 0, none, 0, 0, ((((X0.set_ 2 (.int .u32 0)).set_ 8 (.int .u32 0)).set_ 13 (.slice none 0 0)).set_ 14 (.slice none 0 0)), (by rw [t]; rfl), (by rw [t]; rfl), (by rw [t]; rfl), (by rw [t]; rfl), (by rw [t]; rfl), ((((bel0.setCell (Nat.le_of_eq hcb) (.int .u32 0)).setCell (Nat.le_of_eq hcb) (.int .u32 0)).setCell (Nat.le_of_eq hcb) (.slice none 0 0)).setCell (Nat.le_of_eq hcb) (.slice none 0 0))⟩
    have e3 : (X.ty == 3) = false := beq_eq_false_iff_ne.2 t3
    by_cases t6 : X.ty = 6
    · have e6 : (X.ty == 6) = true := beq_iff_eq.2 t6
      have HT := Lib.hid (show kindV X.ty = 6 by rw [t6]; rfl)
      clear x0 t0 t1 t2 t3 t6
      have C := fun i => X0.cell i
      have F := fun i => X0.frozen i
      go_wp2_with fail
      go_meet
      have t := HT.out
      exact ⟨⟨X.ty, X.fl, X.tsn, X.st, X.ss, X.pr, X.d, X.tg, X.rw, X.ou, X.ii, X.P, X.K, X.G, X.D⟩, oP, nP, cP, none, 0, 0, oG, nG, cG, oD, nD, cD, (X0.set_ 12 (.slice none 0 0)), (by rw [t]; rfl), (by rw [t]; rfl), (by rw [t]; rfl), (by rw [t]; rfl), (by rw [t]; rfl), (bel0.setCell (Nat.le_of_eq hcb) (.slice none 0 0))⟩
    have e6 : (X.ty == 6) = false := beq_eq_false_iff_ne.2 t6
    by_cases t9 : X.ty = 9
    · have e9 : (X.ty == 9) = true := beq_iff_eq.2 t9
      have HT := Lib.hid (show kindV X.ty = 6 by rw [t9]; rfl)
      clear x0 t0 t1 t2 t3 t6 t9
      have C := fun i => X0.cell i
      have F := fun i => X0.frozen i
      go_wp2_with fail
      go_meet
      have t := HT.out
      exact ⟨⟨X.ty, X.fl, X.tsn, X.st, X.ss, X.pr, X.d, X.tg, X.rw, X.ou, X.ii, X.P, X.K, X.G, X.D⟩, oP, nP, cP, none, 0, 0, oG, nG, cG, oD, nD, cD, (X0.set_ 12 (.slice none 0 0)), (by rw [t]; rfl), (by rw [t]; rfl), (by rw [t]; rfl), (by rw [t]; rfl), (by rw [t]; rfl), (bel0.setCell (Nat.le_of_eq hcb) (.slice none 0 0))⟩
    have e9 : (X.ty == 9) = false := beq_eq_false_iff_ne.2 t9
    by_cases t7 : X.ty = 7
    · have e7 : (X.ty == 7) = true := beq_iff_eq.2 t7
      have HT := Lib.hid (show kindV X.ty = 7 by rw [t7]; rfl)
      clear x0 t0 t1 t2 t3 t6 t9 t7
      have C := fun i => X0.cell i
      have F := fun i => X0.frozen i
      go_wp2_with fail
      go_meet
      have t := HT.out
      exact ⟨⟨X.ty, X.fl, 0, X.st, X.ss, X.pr, X.d, X.tg, X.rw, X.ou, X.ii, X.P, X.K, X.G, X.D⟩, oP, nP, cP, oK, nK, cK, oG, nG, cG, oD, nD, cD, (X0.set_ 2 (.int .u32 0)), (by rw [t]; rfl), (by rw [t]; rfl), (by rw [t]; rfl), (by rw [t]; rfl), (by rw [t]; rfl), (bel0.setCell (Nat.le_of_eq hcb) (.int .u32 0))⟩
    have e7 : (X.ty == 7) = false := beq_eq_false_iff_ne.2 t7
    by_cases t8 : X.ty = 8
    · have e8 : (X.ty == 8) = true := beq_iff_eq.2 t8
      have HT := Lib.hid (show kindV X.ty = 8 by rw [t8]; rfl)
      clear x0 t0 t1 t2 t3 t6 t9 t7 t8
      have C := fun i => X0.cell i
      have F := fun i => X0.frozen i
      go_wp2_with fail
      go_meet
      have t := HT.out
      exact ⟨⟨X.ty, X.fl, X.tsn, X.st, X.ss, X.pr, X.d, X.tg, X.rw, X.ou, X.ii, X.P, X.K, X.G, X.D⟩, oP, nP, cP, oK, nK, cK, oG, nG, cG, oD, nD, cD, X0, (by rw [t]; rfl), (by rw [t]; rfl), (by rw [t]; rfl), (by rw [t]; rfl), (by rw [t]; rfl), bel0⟩
    have e8 : (X.ty == 8) = false := beq_eq_false_iff_ne.2 t8
    by_cases t11 : X.ty = 11
    · have e11 : (X.ty == 11) = true := beq_iff_eq.2 t11
      have HT := Lib.hid (show kindV X.ty = 8 by rw [t11]; rfl)
      clear x0 t0 t1 t2 t3 t6 t9 t7 t8 t11
      have C := fun i => X0.cell i
      have F := fun i => X0.frozen i
      go_wp2_with fail
      go_meet
      have t := HT.out
      exact ⟨⟨X.ty, X.fl, X.tsn, X.st, X.ss, X.pr, X.d, X.tg, X.rw, X.ou, X.ii, X.P, X.K, X.G, X.D⟩, oP, nP, cP, oK, nK, cK, oG, nG, cG, oD, nD, cD, X0, (by rw [t]; rfl), (by rw [t]; rfl), (by rw [t]; rfl), (by rw [t]; rfl), (by rw [t]; rfl), bel0⟩
    have e11 : (X.ty == 11) = false := beq_eq_false_iff_ne.2 t11
    by_cases t14 : X.ty = 14
    · have e14 : (X.ty == 14) = true := beq_iff_eq.2 t14
      have HT := Lib.hid (show kindV X.ty = 8 by rw [t14]; rfl)
      clear x0 t0 t1 t2 t3 t6 t9 t7 t8 t11 t14
      have C := fun i => X0.cell i
      have F := fun i => X0.frozen i
      go_wp2_with fail
      go_meet
      have t := HT.out
      exact ⟨⟨X.ty, X.fl, X.tsn, X.st, X.ss, X.pr, X.d, X.tg, X.rw, X.ou, X.ii, X.P, X.K, X.G, X.D⟩, oP, nP, cP, oK, nK, cK, oG, nG, cG, oD, nD, cD, X0, (by rw [t]; rfl), (by rw [t]; rfl), (by rw [t]; rfl), (by rw [t]; rfl), (by rw [t]; rfl), bel0⟩
    have e14 : (X.ty == 14) = false := beq_eq_false_iff_ne.2 t14
    by_cases t15 : X.ty = 15
    · have e15 : (X.ty == 15) = true := beq_iff_eq.2 t15
      have HT := Lib.hid (show kindV X.ty = 15 by rw [t15]; rfl)
      clear x0 t0 t1 t2 t3 t6 t9 t7 t8 t11 t14 t15
      have C := fun i => X0.cell i
      have F := fun i => X0.frozen i
      go_wp2_with fail
      go_meet
      have t := HT.out
      exact ⟨⟨X.ty, X.fl, X.tsn, 0, 0, X.pr, ⟨#[]⟩, X.tg, X.rw, X.ou, X.ii, X.P, X.K, X.G, X.D⟩, oP, nP, cP, oK, nK, cK, oG, nG, cG, oD, nD, cD, (((X0.set_ 3 (.int .i64 0)).set_ 4 (.int .i64 0)).set_ 6 (.string ⟨#[]⟩)), (by rw [t]; rfl), (by rw [t]; rfl), (by rw [t]; rfl), (by rw [t]; rfl), (by rw [t]; rfl), (((bel0.setCell (Nat.le_of_eq hcb) (.int .i64 0)).setCell (Nat.le_of_eq hcb) (.int .i64 0)).setCell (Nat.le_of_eq hcb) (.string ⟨#[]⟩))⟩
    have e15 : (X.ty == 15) = false := beq_eq_false_iff_ne.2 t15
    by_cases t193 : X.ty = 193
    · have e193 : (X.ty == 193) = true := beq_iff_eq.2 t193
      have HT := Lib.hid (show kindV X.ty = 16 by rw [t193]; rfl)
      clear x0 t0 t1 t2 t3 t6 t9 t7 t8 t11 t14 t15 t193
      have C := fun i => X0.cell i
      have F := fun i => X0.frozen i
      go_wp2_with fail
      go_meet
      have t := HT.out
      exact ⟨⟨X.ty, X.fl, 0, X.st, X.ss, X.pr, X.d, X.tg, X.rw, X.ou, X.ii, X.P, X.K, X.G, X.D⟩, none, 0, 0, oK, nK, cK, oG, nG, cG, oD, nD, cD, ((X0.set_ 2 (.int .u32 0)).set_ 11 (.slice none 0 0)), (by rw [t]; rfl), (by rw [t]; rfl), (by rw [t]; rfl), (by rw [t]; rfl), (by rw [t]; rfl), ((bel0.setCell (Nat.le_of_eq hcb) (.int .u32 0)).setCell (Nat.le_of_eq hcb) (.slice none 0 0))⟩
    have e193 : (X.ty == 193) = false := beq_eq_false_iff_ne.2 t193
    by_cases t128 : X.ty = 128
    · have e128 : (X.ty == 128) = true := beq_iff_eq.2 t128
      have HT := Lib.hid (show kindV X.ty = 16 by rw [t128]; rfl)
      clear x0 t0 t1 t2 t3 t6 t9 t7 t8 t11 t14 t15 t193 t128
      have C := fun i => X0.cell i
      have F := fun i => X0.frozen i
      go_wp2_with fail
      go_meet
      have t := HT.out
      exact ⟨⟨X.ty, X.fl, 0, X.st, X.ss, X.pr, X.d, X.tg, X.rw, X.ou, X.ii, X.P, X.K, X.G, X.D⟩, none, 0, 0, oK, nK, cK, oG, nG, cG, oD, nD, cD, ((X0.set_ 2 (.int .u32 0)).set_ 11 (.slice none 0 0)), (by rw [t]; rfl), (by rw [t]; rfl), (by rw [t]; rfl), (by rw [t]; rfl), (by rw [t]; rfl), ((bel0.setCell (Nat.le_of_eq hcb) (.int .u32 0)).setCell (Nat.le_of_eq hcb) (.slice none 0 0))⟩
    have e128 : (X.ty == 128) = false := beq_eq_false_iff_ne.2 t128
    by_cases t130 : X.ty = 130
    · have e130 : (X.ty == 130) = true := beq_iff_eq.2 t130
      have HT := Lib.hid (show kindV X.ty = 16 by rw [t130]; rfl)
      clear x0 t0 t1 t2 t3 t6 t9 t7 t8 t11 t14 t15 t193 t128 t130
      have C := fun i => X0.cell i
      have F := fun i => X0.frozen i
      go_wp2_with fail
      go_meet
      have t := HT.out
      exact ⟨⟨X.ty, X.fl, 0, X.st, X.ss, X.pr, X.d, X.tg, X.rw, X.ou, X.ii, X.P, X.K, X.G, X.D⟩, none, 0, 0, oK, nK, cK, oG, nG, cG, oD, nD, cD, ((X0.set_ 2 (.int .u32 0)).set_ 11 (.slice none 0 0)), (by rw [t]; rfl), (by rw [t]; rfl), (by rw [t]; rfl), (by rw [t]; rfl), (by rw [t]; rfl), ((bel0.setCell (Nat.le_of_eq hcb) (.int .u32 0)).setCell (Nat.le_of_eq hcb) (.slice none 0 0))⟩
    have e130 : (X.ty == 130) = false := beq_eq_false_iff_ne.2 t130
    have HK := Lib.hid (show kindV X.ty = 4 ∨ kindV X.ty = 10 ∨ kindV X.ty = 20 by
      unfold kindV
      (repeat' split) <;> omega)
    clear t0 t1 t2 t3 t6 t9 t7 t8 t11 t14 t15 t193 t128 t130
    have C := fun i => X0.cell i
    have F := fun i => X0.frozen i
    go_wp2_with fail
    go_meet
    have hk := HK.out
    refine ⟨⟨X.ty, X.fl, X.tsn, X.st, X.ss, X.pr, ⟨#[]⟩, X.tg, X.rw, X.ou, X.ii, X.P, X.K, X.G, X.D⟩, oP, nP, cP, oK, nK, cK, oG, nG, cG, oD, nD, cD, (X0.set_ 6 (.string ⟨#[]⟩)), ?_, ?_, ?_, ?_, ?_, (bel0.setCell (Nat.le_of_eq hcb) (.string ⟨#[]⟩))⟩
    · rcases hk with h | h | h <;> rw [h] <;> rfl
    · rcases hk with h | h | h <;> rw [h] <;> rfl
    · rcases hk with h | h | h <;> rw [h] <;> rfl
    · rcases hk with h | h | h <;> rw [h] <;> rfl
    · rcases hk with h | h | h <;> rw [h] <;> rfl

  case rest =>
  clear X0 bel0 x0 hcl
  obtain ⟨Z, pO, pN, pC, kO, kN, kC, gO, gN, gC, dO, dN, dC, XZ, hZ, hpN, hkN, hgN, hdN, belz⟩ := hcut
  rename World => wz
  have hpn : pN ≤ 20 := by rw [hpN]; split <;> omega
  have hkn : kN ≤ 20 := by rw [hkN]; split <;> omega
  have hgn : gN ≤ 20 := by rw [hgN]; split <;> omega
  have hdn : dN ≤ 20 := by rw [hdN]; split <;> omega
  have HR2 := Lib.hid (show bareZ Z pN kN gN dN = rb by rw [← HRB.out, hZ, hpN, hkN, hgN, hdN]; rfl)
  clear hZ hpN hkN hgN hdN HRB hN
  unfold ckc at XZ
  obtain ⟨t1B, ht1B⟩ : ∃ b : Bool, ((Z.tsn : Int) == (0 : Int)) = b := ⟨_, rfl⟩
  obtain ⟨t2B, ht2B⟩ : ∃ b : Bool, ((Z.st : Int) == (0 : Int)) = b := ⟨_, rfl⟩
  obtain ⟨t3B, ht3B⟩ : ∃ b : Bool, ((Z.ss : Int) == (0 : Int)) = b := ⟨_, rfl⟩
  obtain ⟨t4B, ht4B⟩ : ∃ b : Bool, ((Z.pr : Int) == (0 : Int)) = b := ⟨_, rfl⟩
  obtain ⟨t5B, ht5B⟩ : ∃ b : Bool, ((Z.tg : Int) == (0 : Int)) = b := ⟨_, rfl⟩
  obtain ⟨t6B, ht6B⟩ : ∃ b : Bool, ((Z.rw : Int) == (0 : Int)) = b := ⟨_, rfl⟩
  obtain ⟨t7B, ht7B⟩ : ∃ b : Bool, ((Z.ou : Int) == (0 : Int)) = b := ⟨_, rfl⟩
  obtain ⟨t8B, ht8B⟩ : ∃ b : Bool, ((Z.ii : Int) == (0 : Int)) = b := ⟨_, rfl⟩
  obtain ⟨t9B, ht9B⟩ : ∃ b : Bool, (Z.d.toList == (⟨#[]⟩ : ByteArray).toList) = b := ⟨_, rfl⟩
  obtain ⟨t10B, ht10B⟩ : ∃ b : Bool, ((((pN + kN + gN + dN : Nat) : Nat) : Int) == (0 : Int)) = b := ⟨_, rfl⟩
  go_upto_region 24 with fail
  refine wp_region_lit ?_
  refine abs_list _ (fun ac hac => ?_)
  have hsz : ac.tmps.size = 113 := by rw [hac]; rfl
  have f1 : ac.eval (.tmp 1) = .pointer (some ⟨cb, 0, none⟩) := by rw [hac]; rfl
  have HB := Lib.hid hac
  clear hac
  refine list_val (u := .pointer (some ⟨cb, 2, none⟩)) rfl rfl (run_field (s := .pointer (some ⟨cb, 0, none⟩)) rfl f1 (by kernel_rfl)) ?_
  refine abs_list _ (fun a1 h1 => ?_)
  have z1 := sp h1 hsz
  replace f1 := kp h1 (by decide) f1
  have f51 := nw h1 hsz (by decide)
  replace h1 := Lib.hid h1
  refine list_val (u := .int .u32 Z.tsn) rfl rfl (run_load1 (s := .pointer (some ⟨cb, 2, none⟩)) rfl f51 (by have c : wz.cell? ⟨cb, 2, none⟩ = some (.int .u32 Z.tsn) := XZ.cell 2; go_simp)) ?_
  refine abs_list _ (fun a2 h2 => ?_)
  have z2 := sp h2 z1
  replace f1 := kp h2 (by decide) f1
  have f52 := nw h2 z1 (by decide)
  clear f51 z1
  replace h2 := Lib.hid h2
  refine list_val (u := .bool t1B) rfl rfl (run_cmp_int (k := .u32) (p := Z.tsn) (q := 0) rfl (.inr rfl) f52 rfl ((eql_i22 _ _ _).trans (by rw [ht1B]))) ?_
  refine abs_list _ (fun a3 h3 => ?_)
  have z3 := sp h3 z2
  replace f1 := kp h3 (by decide) f1
  have f53 := nw h3 z2 (by decide)
  clear f52 z2
  replace h3 := Lib.hid h3
  refine list_val (u := .bool t1B) rfl rfl (run_move rfl f53 _) ?_
  refine abs_list _ (fun a4 h4 => ?_)
  have z4 := sp h4 z3
  replace f1 := kp h4 (by decide) f1
  have f54 := nw h4 z3 (by decide)
  clear f53 z3
  replace h4 := Lib.hid h4
  refine list_if (u := .pointer (some ⟨cb, 3, none⟩)) (b := t1B) (c := true) (c' := t1B) (dk := 54) rfl (by kernel_rfl) (f54.trans (cv_true _).symm) rfl (by cases t1B <;> rfl) (fun h => run_field (s := .pointer (some ⟨cb, 0, none⟩)) rfl f1 (by kernel_rfl)) ?_
  refine abs_list _ (fun a5 h5 => ?_)
  have z5 := sp h5 z4
  replace f1 := kp h5 (by decide) f1
  replace f54 := kp h5 (by decide) f54
  have f55 := nw h5 z4 (by decide)
  clear z4
  replace h5 := Lib.hid h5
  refine list_if (u := .int .i64 Z.st) (b := t1B) (c := true) (c' := t1B) (dk := 54) rfl (by kernel_rfl) (f54.trans (cv_true _).symm) rfl (by cases t1B <;> rfl) (fun h => run_load1 (s := .pointer (some ⟨cb, 3, none⟩)) rfl (f55.trans (cv_of h)) (by have c : wz.cell? ⟨cb, 3, none⟩ = some (.int .i64 Z.st) := XZ.cell 3; go_simp)) ?_
  refine abs_list _ (fun a6 h6 => ?_)
  have z6 := sp h6 z5
  replace f1 := kp h6 (by decide) f1
  replace f54 := kp h6 (by decide) f54
  have f56 := nw h6 z5 (by decide)
  clear f55 z5
  replace h6 := Lib.hid h6
  refine list_if (u := .bool t2B) (b := t1B) (c := true) (c' := t1B) (dk := 54) rfl (by kernel_rfl) (f54.trans (cv_true _).symm) rfl (by cases t1B <;> rfl) (fun h => run_cmp_int (k := .i64) (p := Z.st) (q := 0) rfl (.inr rfl) (f56.trans (cv_of h)) rfl ((eql_i3 _ _ _).trans (by rw [ht2B]))) ?_
  refine abs_list _ (fun a7 h7 => ?_)
  have z7 := sp h7 z6
  replace f1 := kp h7 (by decide) f1
  replace f54 := kp h7 (by decide) f54
  have f57 := nw h7 z6 (by decide)
  clear f56 z6
  replace h7 := Lib.hid h7
  obtain ⟨q1B, hq1B⟩ : ∃ q : Bool, (t1B && t2B) = q := ⟨_, rfl⟩
  refine list_val (u := .bool q1B) rfl rfl (run_pick (b := t1B) rfl f54 (by rw [f57, ← hq1B]; cases t1B <;> cases t2B <;> simp [cv, eval_const])) ?_
  refine abs_list _ (fun a8 h8 => ?_)
  have z8 := sp h8 z7
  replace f1 := kp h8 (by decide) f1
  have f58 := nw h8 z7 (by decide)
  clear f54 f57 z7
  replace h8 := Lib.hid h8
  refine list_val (u := .bool q1B) rfl rfl (run_move rfl f58 _) ?_
  refine abs_list _ (fun a9 h9 => ?_)
  have z9 := sp h9 z8
  replace f1 := kp h9 (by decide) f1
  have f59 := nw h9 z8 (by decide)
  clear f58 z8
  replace h9 := Lib.hid h9
  refine list_if (u := .pointer (some ⟨cb, 4, none⟩)) (b := q1B) (c := true) (c' := q1B) (dk := 59) rfl (by kernel_rfl) (f59.trans (cv_true _).symm) rfl (by cases q1B <;> rfl) (fun h => run_field (s := .pointer (some ⟨cb, 0, none⟩)) rfl f1 (by kernel_rfl)) ?_
  refine abs_list _ (fun a10 h10 => ?_)
  have z10 := sp h10 z9
  replace f1 := kp h10 (by decide) f1
  replace f59 := kp h10 (by decide) f59
  have f60 := nw h10 z9 (by decide)
  clear z9
  replace h10 := Lib.hid h10
  refine list_if (u := .int .i64 Z.ss) (b := q1B) (c := true) (c' := q1B) (dk := 59) rfl (by kernel_rfl) (f59.trans (cv_true _).symm) rfl (by cases q1B <;> rfl) (fun h => run_load1 (s := .pointer (some ⟨cb, 4, none⟩)) rfl (f60.trans (cv_of h)) (by have c : wz.cell? ⟨cb, 4, none⟩ = some (.int .i64 Z.ss) := XZ.cell 4; go_simp)) ?_
  refine abs_list _ (fun a11 h11 => ?_)
  have z11 := sp h11 z10
  replace f1 := kp h11 (by decide) f1
  replace f59 := kp h11 (by decide) f59
  have f61 := nw h11 z10 (by decide)
  clear f60 z10
  replace h11 := Lib.hid h11
  refine list_if (u := .bool t3B) (b := q1B) (c := true) (c' := q1B) (dk := 59) rfl (by kernel_rfl) (f59.trans (cv_true _).symm) rfl (by cases q1B <;> rfl) (fun h => run_cmp_int (k := .i64) (p := Z.ss) (q := 0) rfl (.inr rfl) (f61.trans (cv_of h)) rfl ((eql_i3 _ _ _).trans (by rw [ht3B]))) ?_
  refine abs_list _ (fun a12 h12 => ?_)
  have z12 := sp h12 z11
  replace f1 := kp h12 (by decide) f1
  replace f59 := kp h12 (by decide) f59
  have f62 := nw h12 z11 (by decide)
  clear f61 z11
  replace h12 := Lib.hid h12
  obtain ⟨q2B, hq2B⟩ : ∃ q : Bool, (q1B && t3B) = q := ⟨_, rfl⟩
  refine list_val (u := .bool q2B) rfl rfl (run_pick (b := q1B) rfl f59 (by rw [f62, ← hq2B]; cases q1B <;> cases t3B <;> simp [cv, eval_const])) ?_
  refine abs_list _ (fun a13 h13 => ?_)
  have z13 := sp h13 z12
  replace f1 := kp h13 (by decide) f1
  have f63 := nw h13 z12 (by decide)
  clear f59 f62 z12
  replace h13 := Lib.hid h13
  refine list_val (u := .bool q2B) rfl rfl (run_move rfl f63 _) ?_
  refine abs_list _ (fun a14 h14 => ?_)
  have z14 := sp h14 z13
  replace f1 := kp h14 (by decide) f1
  have f64 := nw h14 z13 (by decide)
  clear f63 z13
  replace h14 := Lib.hid h14
  refine list_if (u := .pointer (some ⟨cb, 5, none⟩)) (b := q2B) (c := true) (c' := q2B) (dk := 64) rfl (by kernel_rfl) (f64.trans (cv_true _).symm) rfl (by cases q2B <;> rfl) (fun h => run_field (s := .pointer (some ⟨cb, 0, none⟩)) rfl f1 (by kernel_rfl)) ?_
  refine abs_list _ (fun a15 h15 => ?_)
  have z15 := sp h15 z14
  replace f1 := kp h15 (by decide) f1
  replace f64 := kp h15 (by decide) f64
  have f65 := nw h15 z14 (by decide)
  clear z14
  replace h15 := Lib.hid h15
  refine list_if (u := .int .u32 Z.pr) (b := q2B) (c := true) (c' := q2B) (dk := 64) rfl (by kernel_rfl) (f64.trans (cv_true _).symm) rfl (by cases q2B <;> rfl) (fun h => run_load1 (s := .pointer (some ⟨cb, 5, none⟩)) rfl (f65.trans (cv_of h)) (by have c : wz.cell? ⟨cb, 5, none⟩ = some (.int .u32 Z.pr) := XZ.cell 5; go_simp)) ?_
  refine abs_list _ (fun a16 h16 => ?_)
  have z16 := sp h16 z15
  replace f1 := kp h16 (by decide) f1
  replace f64 := kp h16 (by decide) f64
  have f66 := nw h16 z15 (by decide)
  clear f65 z15
  replace h16 := Lib.hid h16
  refine list_if (u := .bool t4B) (b := q2B) (c := true) (c' := q2B) (dk := 64) rfl (by kernel_rfl) (f64.trans (cv_true _).symm) rfl (by cases q2B <;> rfl) (fun h => run_cmp_int (k := .u32) (p := Z.pr) (q := 0) rfl (.inr rfl) (f66.trans (cv_of h)) rfl ((eql_i22 _ _ _).trans (by rw [ht4B]))) ?_
  refine abs_list _ (fun a17 h17 => ?_)
  have z17 := sp h17 z16
  replace f1 := kp h17 (by decide) f1
  replace f64 := kp h17 (by decide) f64
  have f67 := nw h17 z16 (by decide)
  clear f66 z16
  replace h17 := Lib.hid h17
  obtain ⟨q3B, hq3B⟩ : ∃ q : Bool, (q2B && t4B) = q := ⟨_, rfl⟩
  refine list_val (u := .bool q3B) rfl rfl (run_pick (b := q2B) rfl f64 (by rw [f67, ← hq3B]; cases q2B <;> cases t4B <;> simp [cv, eval_const])) ?_
  refine abs_list _ (fun a18 h18 => ?_)
  have z18 := sp h18 z17
  replace f1 := kp h18 (by decide) f1
  have f68 := nw h18 z17 (by decide)
  clear f64 f67 z17
  replace h18 := Lib.hid h18
  refine list_val (u := .bool q3B) rfl rfl (run_move rfl f68 _) ?_
  refine abs_list _ (fun a19 h19 => ?_)
  have z19 := sp h19 z18
  replace f1 := kp h19 (by decide) f1
  have f69 := nw h19 z18 (by decide)
  clear f68 z18
  replace h19 := Lib.hid h19
  refine list_if (u := .pointer (some ⟨cb, 7, none⟩)) (b := q3B) (c := true) (c' := q3B) (dk := 69) rfl (by kernel_rfl) (f69.trans (cv_true _).symm) rfl (by cases q3B <;> rfl) (fun h => run_field (s := .pointer (some ⟨cb, 0, none⟩)) rfl f1 (by kernel_rfl)) ?_
  refine abs_list _ (fun a20 h20 => ?_)
  have z20 := sp h20 z19
  replace f1 := kp h20 (by decide) f1
  replace f69 := kp h20 (by decide) f69
  have f70 := nw h20 z19 (by decide)
  clear z19
  replace h20 := Lib.hid h20
  refine list_if (u := .int .u32 Z.tg) (b := q3B) (c := true) (c' := q3B) (dk := 69) rfl (by kernel_rfl) (f69.trans (cv_true _).symm) rfl (by cases q3B <;> rfl) (fun h => run_load1 (s := .pointer (some ⟨cb, 7, none⟩)) rfl (f70.trans (cv_of h)) (by have c : wz.cell? ⟨cb, 7, none⟩ = some (.int .u32 Z.tg) := XZ.cell 7; go_simp)) ?_
  refine abs_list _ (fun a21 h21 => ?_)
  have z21 := sp h21 z20
  replace f1 := kp h21 (by decide) f1
  replace f69 := kp h21 (by decide) f69
  have f71 := nw h21 z20 (by decide)
  clear f70 z20
  replace h21 := Lib.hid h21
  refine list_if (u := .bool t5B) (b := q3B) (c := true) (c' := q3B) (dk := 69) rfl (by kernel_rfl) (f69.trans (cv_true _).symm) rfl (by cases q3B <;> rfl) (fun h => run_cmp_int (k := .u32) (p := Z.tg) (q := 0) rfl (.inr rfl) (f71.trans (cv_of h)) rfl ((eql_i22 _ _ _).trans (by rw [ht5B]))) ?_
  refine abs_list _ (fun a22 h22 => ?_)
  have z22 := sp h22 z21
  replace f1 := kp h22 (by decide) f1
  replace f69 := kp h22 (by decide) f69
  have f72 := nw h22 z21 (by decide)
  clear f71 z21
  replace h22 := Lib.hid h22
  obtain ⟨q4B, hq4B⟩ : ∃ q : Bool, (q3B && t5B) = q := ⟨_, rfl⟩
  refine list_val (u := .bool q4B) rfl rfl (run_pick (b := q3B) rfl f69 (by rw [f72, ← hq4B]; cases q3B <;> cases t5B <;> simp [cv, eval_const])) ?_
  refine abs_list _ (fun a23 h23 => ?_)
  have z23 := sp h23 z22
  replace f1 := kp h23 (by decide) f1
  have f73 := nw h23 z22 (by decide)
  clear f69 f72 z22
  replace h23 := Lib.hid h23
  refine list_val (u := .bool q4B) rfl rfl (run_move rfl f73 _) ?_
  refine abs_list _ (fun a24 h24 => ?_)
  have z24 := sp h24 z23
  replace f1 := kp h24 (by decide) f1
  have f74 := nw h24 z23 (by decide)
  clear f73 z23
  replace h24 := Lib.hid h24
  refine list_if (u := .pointer (some ⟨cb, 8, none⟩)) (b := q4B) (c := true) (c' := q4B) (dk := 74) rfl (by kernel_rfl) (f74.trans (cv_true _).symm) rfl (by cases q4B <;> rfl) (fun h => run_field (s := .pointer (some ⟨cb, 0, none⟩)) rfl f1 (by kernel_rfl)) ?_
  refine abs_list _ (fun a25 h25 => ?_)
  have z25 := sp h25 z24
  replace f1 := kp h25 (by decide) f1
  replace f74 := kp h25 (by decide) f74
  have f75 := nw h25 z24 (by decide)
  clear z24
  replace h25 := Lib.hid h25
  refine list_if (u := .int .u32 Z.rw) (b := q4B) (c := true) (c' := q4B) (dk := 74) rfl (by kernel_rfl) (f74.trans (cv_true _).symm) rfl (by cases q4B <;> rfl) (fun h => run_load1 (s := .pointer (some ⟨cb, 8, none⟩)) rfl (f75.trans (cv_of h)) (by have c : wz.cell? ⟨cb, 8, none⟩ = some (.int .u32 Z.rw) := XZ.cell 8; go_simp)) ?_
  refine abs_list _ (fun a26 h26 => ?_)
  have z26 := sp h26 z25
  replace f1 := kp h26 (by decide) f1
  replace f74 := kp h26 (by decide) f74
  have f76 := nw h26 z25 (by decide)
  clear f75 z25
  replace h26 := Lib.hid h26
  refine list_if (u := .bool t6B) (b := q4B) (c := true) (c' := q4B) (dk := 74) rfl (by kernel_rfl) (f74.trans (cv_true _).symm) rfl (by cases q4B <;> rfl) (fun h => run_cmp_int (k := .u32) (p := Z.rw) (q := 0) rfl (.inr rfl) (f76.trans (cv_of h)) rfl ((eql_i22 _ _ _).trans (by rw [ht6B]))) ?_
  refine abs_list _ (fun a27 h27 => ?_)
  have z27 := sp h27 z26
  replace f1 := kp h27 (by decide) f1
  replace f74 := kp h27 (by decide) f74
  have f77 := nw h27 z26 (by decide)
  clear f76 z26
  replace h27 := Lib.hid h27
  obtain ⟨q5B, hq5B⟩ : ∃ q : Bool, (q4B && t6B) = q := ⟨_, rfl⟩
  refine list_val (u := .bool q5B) rfl rfl (run_pick (b := q4B) rfl f74 (by rw [f77, ← hq5B]; cases q4B <;> cases t6B <;> simp [cv, eval_const])) ?_
  refine abs_list _ (fun a28 h28 => ?_)
  have z28 := sp h28 z27
  replace f1 := kp h28 (by decide) f1
  have f78 := nw h28 z27 (by decide)
  clear f74 f77 z27
  replace h28 := Lib.hid h28
  refine list_val (u := .bool q5B) rfl rfl (run_move rfl f78 _) ?_
  refine abs_list _ (fun a29 h29 => ?_)
  have z29 := sp h29 z28
  replace f1 := kp h29 (by decide) f1
  have f79 := nw h29 z28 (by decide)
  clear f78 z28
  replace h29 := Lib.hid h29
  refine list_if (u := .pointer (some ⟨cb, 9, none⟩)) (b := q5B) (c := true) (c' := q5B) (dk := 79) rfl (by kernel_rfl) (f79.trans (cv_true _).symm) rfl (by cases q5B <;> rfl) (fun h => run_field (s := .pointer (some ⟨cb, 0, none⟩)) rfl f1 (by kernel_rfl)) ?_
  refine abs_list _ (fun a30 h30 => ?_)
  have z30 := sp h30 z29
  replace f1 := kp h30 (by decide) f1
  replace f79 := kp h30 (by decide) f79
  have f80 := nw h30 z29 (by decide)
  clear z29
  replace h30 := Lib.hid h30
  refine list_if (u := .int .i64 Z.ou) (b := q5B) (c := true) (c' := q5B) (dk := 79) rfl (by kernel_rfl) (f79.trans (cv_true _).symm) rfl (by cases q5B <;> rfl) (fun h => run_load1 (s := .pointer (some ⟨cb, 9, none⟩)) rfl (f80.trans (cv_of h)) (by have c : wz.cell? ⟨cb, 9, none⟩ = some (.int .i64 Z.ou) := XZ.cell 9; go_simp)) ?_
  refine abs_list _ (fun a31 h31 => ?_)
  have z31 := sp h31 z30
  replace f1 := kp h31 (by decide) f1
  replace f79 := kp h31 (by decide) f79
  have f81 := nw h31 z30 (by decide)
  clear f80 z30
  replace h31 := Lib.hid h31
  refine list_if (u := .bool t7B) (b := q5B) (c := true) (c' := q5B) (dk := 79) rfl (by kernel_rfl) (f79.trans (cv_true _).symm) rfl (by cases q5B <;> rfl) (fun h => run_cmp_int (k := .i64) (p := Z.ou) (q := 0) rfl (.inr rfl) (f81.trans (cv_of h)) rfl ((eql_i3 _ _ _).trans (by rw [ht7B]))) ?_
  refine abs_list _ (fun a32 h32 => ?_)
  have z32 := sp h32 z31
  replace f1 := kp h32 (by decide) f1
  replace f79 := kp h32 (by decide) f79
  have f82 := nw h32 z31 (by decide)
  clear f81 z31
  replace h32 := Lib.hid h32
  obtain ⟨q6B, hq6B⟩ : ∃ q : Bool, (q5B && t7B) = q := ⟨_, rfl⟩
  refine list_val (u := .bool q6B) rfl rfl (run_pick (b := q5B) rfl f79 (by rw [f82, ← hq6B]; cases q5B <;> cases t7B <;> simp [cv, eval_const])) ?_
  refine abs_list _ (fun a33 h33 => ?_)
  have z33 := sp h33 z32
  replace f1 := kp h33 (by decide) f1
  have f83 := nw h33 z32 (by decide)
  clear f79 f82 z32
  replace h33 := Lib.hid h33
  refine list_val (u := .bool q6B) rfl rfl (run_move rfl f83 _) ?_
  refine abs_list _ (fun a34 h34 => ?_)
  have z34 := sp h34 z33
  replace f1 := kp h34 (by decide) f1
  have f84 := nw h34 z33 (by decide)
  clear f83 z33
  replace h34 := Lib.hid h34
  refine list_if (u := .pointer (some ⟨cb, 10, none⟩)) (b := q6B) (c := true) (c' := q6B) (dk := 84) rfl (by kernel_rfl) (f84.trans (cv_true _).symm) rfl (by cases q6B <;> rfl) (fun h => run_field (s := .pointer (some ⟨cb, 0, none⟩)) rfl f1 (by kernel_rfl)) ?_
  refine abs_list _ (fun a35 h35 => ?_)
  have z35 := sp h35 z34
  replace f1 := kp h35 (by decide) f1
  replace f84 := kp h35 (by decide) f84
  have f85 := nw h35 z34 (by decide)
  clear z34
  replace h35 := Lib.hid h35
  refine list_if (u := .int .i64 Z.ii) (b := q6B) (c := true) (c' := q6B) (dk := 84) rfl (by kernel_rfl) (f84.trans (cv_true _).symm) rfl (by cases q6B <;> rfl) (fun h => run_load1 (s := .pointer (some ⟨cb, 10, none⟩)) rfl (f85.trans (cv_of h)) (by have c : wz.cell? ⟨cb, 10, none⟩ = some (.int .i64 Z.ii) := XZ.cell 10; go_simp)) ?_
  refine abs_list _ (fun a36 h36 => ?_)
  have z36 := sp h36 z35
  replace f1 := kp h36 (by decide) f1
  replace f84 := kp h36 (by decide) f84
  have f86 := nw h36 z35 (by decide)
  clear f85 z35
  replace h36 := Lib.hid h36
  refine list_if (u := .bool t8B) (b := q6B) (c := true) (c' := q6B) (dk := 84) rfl (by kernel_rfl) (f84.trans (cv_true _).symm) rfl (by cases q6B <;> rfl) (fun h => run_cmp_int (k := .i64) (p := Z.ii) (q := 0) rfl (.inr rfl) (f86.trans (cv_of h)) rfl ((eql_i3 _ _ _).trans (by rw [ht8B]))) ?_
  refine abs_list _ (fun a37 h37 => ?_)
  have z37 := sp h37 z36
  replace f1 := kp h37 (by decide) f1
  replace f84 := kp h37 (by decide) f84
  have f87 := nw h37 z36 (by decide)
  clear f86 z36
  replace h37 := Lib.hid h37
  obtain ⟨q7B, hq7B⟩ : ∃ q : Bool, (q6B && t8B) = q := ⟨_, rfl⟩
  refine list_val (u := .bool q7B) rfl rfl (run_pick (b := q6B) rfl f84 (by rw [f87, ← hq7B]; cases q6B <;> cases t8B <;> simp [cv, eval_const])) ?_
  refine abs_list _ (fun a38 h38 => ?_)
  have z38 := sp h38 z37
  replace f1 := kp h38 (by decide) f1
  have f88 := nw h38 z37 (by decide)
  clear f84 f87 z37
  replace h38 := Lib.hid h38
  refine list_val (u := .bool q7B) rfl rfl (run_assign rfl f88 _) ?_
  refine abs_list _ (fun a39 h39 => ?_)
  have z39 := sp h39 z38
  replace f1 := kp h39 (by decide) f1
  have f3 := nw h39 z38 (by decide)
  clear f88 z38
  replace h39 := Lib.hid h39
  refine wpList_nil ?_
  rw [h39.out, h38.out, h37.out, h36.out, h35.out, h34.out, h33.out, h32.out, h31.out, h30.out, h29.out, h28.out, h27.out, h26.out, h25.out, h24.out, h23.out, h22.out, h21.out, h20.out, h19.out, h18.out, h17.out, h16.out, h15.out, h14.out, h13.out, h12.out, h11.out, h10.out, h9.out, h8.out, h7.out, h6.out, h5.out, h4.out, h3.out, h2.out, h1.out, HB.out]
  simp only [Act.put, List.setIfInBounds_toArray, List.set_cons_zero, List.set_cons_succ]
  clear f1 f3 z39 HB hsz h1 h2 h3 h4 h5 h6 h7 h8 h9 h10 h11 h12 h13 h14 h15 h16 h17 h18 h19 h20 h21 h22 h23 h24 h25 h26 h27 h28 h29 h30 h31 h32 h33 h34 h35 h36 h37 h38 h39
  go_upto_region 25 with fail
  refine wp_region_lit ?_
  refine abs_list _ (fun ac hac => ?_)
  have hsz : ac.tmps.size = 113 := by rw [hac]; rfl
  have f1 : ac.eval (.tmp 1) = .pointer (some ⟨cb, 0, none⟩) := by rw [hac]; rfl
  have f3 : ac.eval (.tmp 3) = .bool q7B := by rw [hac]; rfl
  have HB := Lib.hid hac
  clear hac
  refine list_val (u := .bool q7B) rfl rfl (run_move rfl f3 _) ?_
  refine abs_list _ (fun a1 h1 => ?_)
  have z1 := sp h1 hsz
  replace f1 := kp h1 (by decide) f1
  replace f3 := kp h1 (by decide) f3
  have f89 := nw h1 hsz (by decide)
  replace h1 := Lib.hid h1
  refine list_val (u := .bool q7B) rfl rfl (run_move rfl f89 _) ?_
  refine abs_list _ (fun a2 h2 => ?_)
  have z2 := sp h2 z1
  replace f1 := kp h2 (by decide) f1
  replace f3 := kp h2 (by decide) f3
  have f90 := nw h2 z1 (by decide)
  clear f89 z1
  replace h2 := Lib.hid h2
  refine list_if (u := .pointer (some ⟨cb, 6, none⟩)) (b := q7B) (c := true) (c' := q7B) (dk := 90) rfl (by kernel_rfl) (f90.trans (cv_true _).symm) rfl (by cases q7B <;> rfl) (fun h => run_field (s := .pointer (some ⟨cb, 0, none⟩)) rfl f1 (by kernel_rfl)) ?_
  refine abs_list _ (fun a3 h3 => ?_)
  have z3 := sp h3 z2
  replace f1 := kp h3 (by decide) f1
  replace f3 := kp h3 (by decide) f3
  replace f90 := kp h3 (by decide) f90
  have f91 := nw h3 z2 (by decide)
  clear z2
  replace h3 := Lib.hid h3
  refine list_if (u := .string Z.d) (b := q7B) (c := true) (c' := q7B) (dk := 90) rfl (by kernel_rfl) (f90.trans (cv_true _).symm) rfl (by cases q7B <;> rfl) (fun h => run_load1 (s := .pointer (some ⟨cb, 6, none⟩)) rfl (f91.trans (cv_of h)) (by have c : wz.cell? ⟨cb, 6, none⟩ = some (.string Z.d) := XZ.cell 6; go_simp)) ?_
  refine abs_list _ (fun a4 h4 => ?_)
  have z4 := sp h4 z3
  replace f1 := kp h4 (by decide) f1
  replace f3 := kp h4 (by decide) f3
  replace f90 := kp h4 (by decide) f90
  have f92 := nw h4 z3 (by decide)
  clear f91 z3
  replace h4 := Lib.hid h4
  refine list_if (u := .bool t9B) (b := q7B) (c := true) (c' := q7B) (dk := 90) rfl (by kernel_rfl) (f90.trans (cv_true _).symm) rfl (by cases q7B <;> rfl) (fun h => run_cmp_str (p := Z.d) (q := ⟨#[]⟩) rfl (.inr rfl) (f92.trans (cv_of h)) rfl ((eql_s _ _ _).trans (by rw [ht9B]))) ?_
  refine abs_list _ (fun a5 h5 => ?_)
  have z5 := sp h5 z4
  replace f1 := kp h5 (by decide) f1
  replace f3 := kp h5 (by decide) f3
  replace f90 := kp h5 (by decide) f90
  have f93 := nw h5 z4 (by decide)
  clear f92 z4
  replace h5 := Lib.hid h5
  obtain ⟨q101B, hq101B⟩ : ∃ q : Bool, (q7B && t9B) = q := ⟨_, rfl⟩
  refine list_val (u := .bool q101B) rfl rfl (run_pick (b := q7B) rfl f90 (by rw [f93, ← hq101B]; cases q7B <;> cases t9B <;> simp [cv, eval_const])) ?_
  refine abs_list _ (fun a6 h6 => ?_)
  have z6 := sp h6 z5
  replace f1 := kp h6 (by decide) f1
  replace f3 := kp h6 (by decide) f3
  have f94 := nw h6 z5 (by decide)
  clear f90 f93 z5
  replace h6 := Lib.hid h6
  refine list_val (u := .bool q101B) rfl rfl (run_move rfl f94 _) ?_
  refine abs_list _ (fun a7 h7 => ?_)
  have z7 := sp h7 z6
  replace f1 := kp h7 (by decide) f1
  replace f3 := kp h7 (by decide) f3
  have f95 := nw h7 z6 (by decide)
  clear f94 z6
  replace h7 := Lib.hid h7
  refine list_if (u := .pointer (some ⟨cb, 11, none⟩)) (b := q101B) (c := true) (c' := q101B) (dk := 95) rfl (by kernel_rfl) (f95.trans (cv_true _).symm) rfl (by cases q101B <;> rfl) (fun h => run_field (s := .pointer (some ⟨cb, 0, none⟩)) rfl f1 (by kernel_rfl)) ?_
  refine abs_list _ (fun a8 h8 => ?_)
  have z8 := sp h8 z7
  replace f1 := kp h8 (by decide) f1
  replace f3 := kp h8 (by decide) f3
  replace f95 := kp h8 (by decide) f95
  have f96 := nw h8 z7 (by decide)
  clear z7
  replace h8 := Lib.hid h8
  refine list_if (u := .slice pO pN pC) (b := q101B) (c := true) (c' := q101B) (dk := 95) rfl (by kernel_rfl) (f95.trans (cv_true _).symm) rfl (by cases q101B <;> rfl) (fun h => run_load1 (s := .pointer (some ⟨cb, 11, none⟩)) rfl (f96.trans (cv_of h)) (by have c : wz.cell? ⟨cb, 11, none⟩ = some (.slice pO pN pC) := XZ.cell 11; go_simp)) ?_
  refine abs_list _ (fun a9 h9 => ?_)
  have z9 := sp h9 z8
  replace f1 := kp h9 (by decide) f1
  replace f3 := kp h9 (by decide) f3
  replace f95 := kp h9 (by decide) f95
  have f97 := nw h9 z8 (by decide)
  clear f96 z8
  replace h9 := Lib.hid h9
  refine list_if (u := .int .i64 (pN : Nat)) (b := q101B) (c := true) (c' := q101B) (dk := 95) rfl (by kernel_rfl) (f95.trans (cv_true _).symm) rfl (by cases q101B <;> rfl) (fun h => run_lens (s := .slice pO pN pC) rfl (f97.trans (cv_of h)) (fun cs => len_sl23 _ _ _ _ cs)) ?_
  refine abs_list _ (fun a10 h10 => ?_)
  have z10 := sp h10 z9
  replace f1 := kp h10 (by decide) f1
  replace f3 := kp h10 (by decide) f3
  replace f95 := kp h10 (by decide) f95
  have f98 := nw h10 z9 (by decide)
  clear f97 z9
  replace h10 := Lib.hid h10
  refine list_if (u := .pointer (some ⟨cb, 12, none⟩)) (b := q101B) (c := true) (c' := q101B) (dk := 95) rfl (by kernel_rfl) (f95.trans (cv_true _).symm) rfl (by cases q101B <;> rfl) (fun h => run_field (s := .pointer (some ⟨cb, 0, none⟩)) rfl f1 (by kernel_rfl)) ?_
  refine abs_list _ (fun a11 h11 => ?_)
  have z11 := sp h11 z10
  replace f1 := kp h11 (by decide) f1
  replace f3 := kp h11 (by decide) f3
  replace f95 := kp h11 (by decide) f95
  replace f98 := kp h11 (by decide) f98
  have f99 := nw h11 z10 (by decide)
  clear z10
  replace h11 := Lib.hid h11
  refine list_if (u := .slice kO kN kC) (b := q101B) (c := true) (c' := q101B) (dk := 95) rfl (by kernel_rfl) (f95.trans (cv_true _).symm) rfl (by cases q101B <;> rfl) (fun h => run_load1 (s := .pointer (some ⟨cb, 12, none⟩)) rfl (f99.trans (cv_of h)) (by have c : wz.cell? ⟨cb, 12, none⟩ = some (.slice kO kN kC) := XZ.cell 12; go_simp)) ?_
  refine abs_list _ (fun a12 h12 => ?_)
  have z12 := sp h12 z11
  replace f1 := kp h12 (by decide) f1
  replace f3 := kp h12 (by decide) f3
  replace f95 := kp h12 (by decide) f95
  replace f98 := kp h12 (by decide) f98
  have f100 := nw h12 z11 (by decide)
  clear f99 z11
  replace h12 := Lib.hid h12
  refine list_if (u := .int .i64 (kN : Nat)) (b := q101B) (c := true) (c' := q101B) (dk := 95) rfl (by kernel_rfl) (f95.trans (cv_true _).symm) rfl (by cases q101B <;> rfl) (fun h => run_lens (s := .slice kO kN kC) rfl (f100.trans (cv_of h)) (fun cs => len_sl24 _ _ _ _ cs)) ?_
  refine abs_list _ (fun a13 h13 => ?_)
  have z13 := sp h13 z12
  replace f1 := kp h13 (by decide) f1
  replace f3 := kp h13 (by decide) f3
  replace f95 := kp h13 (by decide) f95
  replace f98 := kp h13 (by decide) f98
  have f101 := nw h13 z12 (by decide)
  clear f100 z12
  replace h13 := Lib.hid h13
  refine list_if (u := .int .i64 ((pN + kN : Nat) : Nat)) (b := q101B) (c := true) (c' := q101B) (dk := 95) rfl (by kernel_rfl) (f95.trans (cv_true _).symm) rfl (by cases q101B <;> rfl) (fun h => run_ord (s := .int .i64 (pN : Nat)) (j := .int .i64 (kN : Nat)) rfl (.inr (.inr (.inr (.inr (.inl rfl))))) (f98.trans (cv_of h)) (f101.trans (cv_of h)) (add_n _ _ (by omega) _)) ?_
  refine abs_list _ (fun a14 h14 => ?_)
  have z14 := sp h14 z13
  replace f1 := kp h14 (by decide) f1
  replace f3 := kp h14 (by decide) f3
  replace f95 := kp h14 (by decide) f95
  have f102 := nw h14 z13 (by decide)
  clear f98 f101 z13
  replace h14 := Lib.hid h14
  refine list_if (u := .pointer (some ⟨cb, 13, none⟩)) (b := q101B) (c := true) (c' := q101B) (dk := 95) rfl (by kernel_rfl) (f95.trans (cv_true _).symm) rfl (by cases q101B <;> rfl) (fun h => run_field (s := .pointer (some ⟨cb, 0, none⟩)) rfl f1 (by kernel_rfl)) ?_
  refine abs_list _ (fun a15 h15 => ?_)
  have z15 := sp h15 z14
  replace f1 := kp h15 (by decide) f1
  replace f3 := kp h15 (by decide) f3
  replace f95 := kp h15 (by decide) f95
  replace f102 := kp h15 (by decide) f102
  have f103 := nw h15 z14 (by decide)
  clear z14
  replace h15 := Lib.hid h15
  refine list_if (u := .slice gO gN gC) (b := q101B) (c := true) (c' := q101B) (dk := 95) rfl (by kernel_rfl) (f95.trans (cv_true _).symm) rfl (by cases q101B <;> rfl) (fun h => run_load1 (s := .pointer (some ⟨cb, 13, none⟩)) rfl (f103.trans (cv_of h)) (by have c : wz.cell? ⟨cb, 13, none⟩ = some (.slice gO gN gC) := XZ.cell 13; go_simp)) ?_
  refine abs_list _ (fun a16 h16 => ?_)
  have z16 := sp h16 z15
  replace f1 := kp h16 (by decide) f1
  replace f3 := kp h16 (by decide) f3
  replace f95 := kp h16 (by decide) f95
  replace f102 := kp h16 (by decide) f102
  have f104 := nw h16 z15 (by decide)
  clear f103 z15
  replace h16 := Lib.hid h16
  refine list_if (u := .int .i64 (gN : Nat)) (b := q101B) (c := true) (c' := q101B) (dk := 95) rfl (by kernel_rfl) (f95.trans (cv_true _).symm) rfl (by cases q101B <;> rfl) (fun h => run_lens (s := .slice gO gN gC) rfl (f104.trans (cv_of h)) (fun cs => len_sl25 _ _ _ _ cs)) ?_
  refine abs_list _ (fun a17 h17 => ?_)
  have z17 := sp h17 z16
  replace f1 := kp h17 (by decide) f1
  replace f3 := kp h17 (by decide) f3
  replace f95 := kp h17 (by decide) f95
  replace f102 := kp h17 (by decide) f102
  have f105 := nw h17 z16 (by decide)
  clear f104 z16
  replace h17 := Lib.hid h17
  refine list_if (u := .int .i64 ((pN + kN + gN : Nat) : Nat)) (b := q101B) (c := true) (c' := q101B) (dk := 95) rfl (by kernel_rfl) (f95.trans (cv_true _).symm) rfl (by cases q101B <;> rfl) (fun h => run_ord (s := .int .i64 ((pN + kN : Nat) : Nat)) (j := .int .i64 (gN : Nat)) rfl (.inr (.inr (.inr (.inr (.inl rfl))))) (f102.trans (cv_of h)) (f105.trans (cv_of h)) (add_n _ _ (by omega) _)) ?_
  refine abs_list _ (fun a18 h18 => ?_)
  have z18 := sp h18 z17
  replace f1 := kp h18 (by decide) f1
  replace f3 := kp h18 (by decide) f3
  replace f95 := kp h18 (by decide) f95
  have f106 := nw h18 z17 (by decide)
  clear f102 f105 z17
  replace h18 := Lib.hid h18
  refine list_if (u := .pointer (some ⟨cb, 14, none⟩)) (b := q101B) (c := true) (c' := q101B) (dk := 95) rfl (by kernel_rfl) (f95.trans (cv_true _).symm) rfl (by cases q101B <;> rfl) (fun h => run_field (s := .pointer (some ⟨cb, 0, none⟩)) rfl f1 (by kernel_rfl)) ?_
  refine abs_list _ (fun a19 h19 => ?_)
  have z19 := sp h19 z18
  replace f1 := kp h19 (by decide) f1
  replace f3 := kp h19 (by decide) f3
  replace f95 := kp h19 (by decide) f95
  replace f106 := kp h19 (by decide) f106
  have f107 := nw h19 z18 (by decide)
  clear z18
  replace h19 := Lib.hid h19
  refine list_if (u := .slice dO dN dC) (b := q101B) (c := true) (c' := q101B) (dk := 95) rfl (by kernel_rfl) (f95.trans (cv_true _).symm) rfl (by cases q101B <;> rfl) (fun h => run_load1 (s := .pointer (some ⟨cb, 14, none⟩)) rfl (f107.trans (cv_of h)) (by have c : wz.cell? ⟨cb, 14, none⟩ = some (.slice dO dN dC) := XZ.cell 14; go_simp)) ?_
  refine abs_list _ (fun a20 h20 => ?_)
  have z20 := sp h20 z19
  replace f1 := kp h20 (by decide) f1
  replace f3 := kp h20 (by decide) f3
  replace f95 := kp h20 (by decide) f95
  replace f106 := kp h20 (by decide) f106
  have f108 := nw h20 z19 (by decide)
  clear f107 z19
  replace h20 := Lib.hid h20
  refine list_if (u := .int .i64 (dN : Nat)) (b := q101B) (c := true) (c' := q101B) (dk := 95) rfl (by kernel_rfl) (f95.trans (cv_true _).symm) rfl (by cases q101B <;> rfl) (fun h => run_lens (s := .slice dO dN dC) rfl (f108.trans (cv_of h)) (fun cs => len_sl26 _ _ _ _ cs)) ?_
  refine abs_list _ (fun a21 h21 => ?_)
  have z21 := sp h21 z20
  replace f1 := kp h21 (by decide) f1
  replace f3 := kp h21 (by decide) f3
  replace f95 := kp h21 (by decide) f95
  replace f106 := kp h21 (by decide) f106
  have f109 := nw h21 z20 (by decide)
  clear f108 z20
  replace h21 := Lib.hid h21
  refine list_if (u := .int .i64 ((pN + kN + gN + dN : Nat) : Nat)) (b := q101B) (c := true) (c' := q101B) (dk := 95) rfl (by kernel_rfl) (f95.trans (cv_true _).symm) rfl (by cases q101B <;> rfl) (fun h => run_ord (s := .int .i64 ((pN + kN + gN : Nat) : Nat)) (j := .int .i64 (dN : Nat)) rfl (.inr (.inr (.inr (.inr (.inl rfl))))) (f106.trans (cv_of h)) (f109.trans (cv_of h)) (add_n _ _ (by omega) _)) ?_
  refine abs_list _ (fun a22 h22 => ?_)
  have z22 := sp h22 z21
  replace f1 := kp h22 (by decide) f1
  replace f3 := kp h22 (by decide) f3
  replace f95 := kp h22 (by decide) f95
  have f110 := nw h22 z21 (by decide)
  clear f106 f109 z21
  replace h22 := Lib.hid h22
  refine list_if (u := .bool t10B) (b := q101B) (c := true) (c' := q101B) (dk := 95) rfl (by kernel_rfl) (f95.trans (cv_true _).symm) rfl (by cases q101B <;> rfl) (fun h => run_cmp_int (k := .i64) (p := ((pN + kN + gN + dN : Nat) : Nat)) (q := 0) rfl (.inr rfl) (f110.trans (cv_of h)) rfl ((eql_i3 _ _ _).trans (by rw [ht10B]))) ?_
  refine abs_list _ (fun a23 h23 => ?_)
  have z23 := sp h23 z22
  replace f1 := kp h23 (by decide) f1
  replace f3 := kp h23 (by decide) f3
  replace f95 := kp h23 (by decide) f95
  have f111 := nw h23 z22 (by decide)
  clear f110 z22
  replace h23 := Lib.hid h23
  obtain ⟨q102B, hq102B⟩ : ∃ q : Bool, (q101B && t10B) = q := ⟨_, rfl⟩
  refine list_val (u := .bool q102B) rfl rfl (run_pick (b := q101B) rfl f95 (by rw [f111, ← hq102B]; cases q101B <;> cases t10B <;> simp [cv, eval_const])) ?_
  refine abs_list _ (fun a24 h24 => ?_)
  have z24 := sp h24 z23
  replace f1 := kp h24 (by decide) f1
  replace f3 := kp h24 (by decide) f3
  have f112 := nw h24 z23 (by decide)
  clear f95 f111 z23
  replace h24 := Lib.hid h24
  refine list_val (u := .bool q102B) rfl rfl (run_assign rfl f112 _) ?_
  refine abs_list _ (fun a25 h25 => ?_)
  have z25 := sp h25 z24
  replace f1 := kp h25 (by decide) f1
  replace f3 := kp h25 (by decide) f3
  have f2 := nw h25 z24 (by decide)
  clear f112 z24
  replace h25 := Lib.hid h25
  refine wpList_nil ?_
  rw [h25.out, h24.out, h23.out, h22.out, h21.out, h20.out, h19.out, h18.out, h17.out, h16.out, h15.out, h14.out, h13.out, h12.out, h11.out, h10.out, h9.out, h8.out, h7.out, h6.out, h5.out, h4.out, h3.out, h2.out, h1.out, HB.out]
  simp only [Act.put, List.setIfInBounds_toArray, List.set_cons_zero, List.set_cons_succ]
  clear f1 f3 f2 z25 HB hsz h1 h2 h3 h4 h5 h6 h7 h8 h9 h10 h11 h12 h13 h14 h15 h16 h17 h18 h19 h20 h21 h22 h23 h24 h25
  have HY := Lib.hid (show rb = q102B by
    rw [← HR2.out]
    unfold bareZ
    rw [ht1B, ht2B, ht3B, ht4B, ht5B, ht6B, ht7B, ht8B, ht9B, ht10B]
    subst_vars
    rfl)
  go_wp2_with fail
  go_ret
  exact ⟨ret_bool HY.out.symm, belz⟩
end Go.Proofs.Ytfpcneekbdcbcaa.ck
/- Layer 6: is all but the number of gaps and dups as it must be, by the program; may a chunk be (gen-ckg.py wrote this). -/
namespace Go.Proofs.Ytfpcneekbdcbcaa.ck
open Go.ChangeShapes Go.WideShapes Go.ChangeAt Go.RowKit kit oct par chk
set_option maxRecDepth 100000

theorem below_if {c : Bool} {w w' : World} {o : Obj} (h1 : c = true → w' = w.alloc o) (h2 : c = false → w' = w) : Below w.heap.size w w' := by
  cases c
  · rw [h2 rfl]; exact Below.refl _ _
  · rw [h1 rfl]; exact (Below.refl _ _).alloc (Nat.le_refl _) _
theorem build4_any (a b c d : Int) (w : World) : (Instr.buildSlice 92 4 #[(0, .int .i64 a), (1, .int .i64 b), (2, .int .i64 c), (3, .int .i64 d)]).run Try.prog w = .ok (.slice (some ⟨w.heap.size, 0, none⟩) 4 4) (w.alloc (.cells #[.int .i64 a, .int .i64 b, .int .i64 c, .int .i64 d] 3)) := by
  kernel_rfl
theorem row_new4 (w : World) (t : TypeId) (a b c d : Int) : Row (w.alloc (.cells #[.int .i64 a, .int .i64 b, .int .i64 c, .int .i64 d] t)) (w.alloc (.cells #[.int .i64 a, .int .i64 b, .int .i64 c, .int .i64 d] t)).heap.size 1 (.slice (some ⟨w.heap.size, 0, none⟩) 4 4) 4 ([a, b, c, d].map (.int .i64)) := by
  have B := Blk.new w t #[.int .i64 a, .int .i64 b, .int .i64 c, .int .i64 d]
  refine ⟨rfl, _, ⟨w.heap.size, 0, none⟩, 4, rfl, by decide, by decide, fun _ => ⟨rfl, B.lt⟩, fun i j hi hj => ?_⟩
  obtain rfl : j = 0 := by omega
  have := B.cell i
  rw [show ((⟨w.heap.size, 0, none⟩ : Addr).add (i * 1)).add 0 = ⟨w.heap.size, i, none⟩ by rw [add_z, Nat.mul_one]; unfold Addr.add; split <;> simp_all]
  rw [this]
  rcases i with _ | _ | _ | _ | i <;> first | rfl | omega
def formedV (t1B t2B t3B t4B t5B t6B t7B t8B t9B t10B t11B : Bool) : Bool := (((((((((t1B && t2B) && t3B) && t4B) && t5B) && t6B) && t7B) && t8B) && (t9B || (!t10B))) && t11B)
def formedF (X : Ck) : Bool := formedV (decide ((0 : Int) ≤ (X.ty : Int))) (decide ((X.ty : Int) ≤ (255 : Int))) (flMay X.ty X.fl) ((!([X.st, X.ss, X.ou, X.ii].any no16))) (decide (((X.d.size : Nat) : Int) ≤ (900 : Int))) ((decide (X.P.length ≤ 16) && X.P.all fun p => mayP p.1 p.2)) ((decide (X.K.length ≤ 16) && X.K.all fun p => mayP p.1 p.2)) ((risO X.G).isSome) (((X.tg : Int) != (0 : Int))) ((decide (kindV X.ty = 1))) ((bareF X X.P.length X.K.length X.G.length X.D.length (kindV X.ty)))
set_option maxHeartbeats 8000000 in
theorem formed_any {X : Ck} {w : World} {B : Nat} {vP vK vG vD : Value} (HWx : CkW X) (M : CkM w B X vP vK vG vD) (hB : B ≤ w.heap.size) : Calls Try.prog 21 #[.agg (ckc X vP vK vG vD)] w fun e w' => e = .returned (.bool (formedF X)) ∧ Below w.heap.size w w' := by
  obtain ⟨rb, hrb⟩ : ∃ rb, formedF X = rb := ⟨_, rfl⟩
  rw [hrb]
  have HRB := Lib.hid hrb
  clear hrb
  have HW := Lib.hid HWx
  obtain ⟨oP, cP, rfl, -, -⟩ := M.P.shape
  obtain ⟨oK, cK, rfl, -, -⟩ := M.K.shape
  obtain ⟨oG, cG, rfl, -, -⟩ := M.G.shape
  obtain ⟨oD, cD, rfl, -, -⟩ := M.D.shape
  have HM := Lib.hid (show ∀ w', Below w.heap.size w w' → CkM w' B X _ _ _ _ from fun w' h => M.below (h.mono hB))
  have HB0 := Lib.hid hB
  have hdz := HWx.d
  clear M hB HWx
  have X0 := Blk.new w 28 (ckc X (.slice oP X.P.length cP) (.slice oK X.K.length cK) (.slice oG X.G.length cG) (.slice oD X.D.length cD))
  have belw0 := (Below.refl w.heap.size w).alloc (Nat.le_refl _) (.cells (ckc X (.slice oP X.P.length cP) (.slice oK X.K.length cK) (.slice oG X.G.length cG) (.slice oD X.D.length cD)) 28)
  unfold ckc at X0 belw0 ⊢
  go_enter Try.func21, Try.ntmps21
  go_upto_region 1 with fail
  obtain ⟨w0, hw0⟩ : ∃ w0, w.alloc (.cells #[.int .i64 X.ty, .int .i64 X.fl, .int .u32 X.tsn, .int .i64 X.st, .int .i64 X.ss, .int .u32 X.pr, .string X.d, .int .u32 X.tg, .int .u32 X.rw, .int .i64 X.ou, .int .i64 X.ii, .slice oP X.P.length cP, .slice oK X.K.length cK, .slice oG X.G.length cG, .slice oD X.D.length cD] 28) = w0 := ⟨_, rfl⟩
  rw [hw0] at X0 belw0
  try rw [hw0]
  clear hw0
  obtain ⟨cb, hcb⟩ : ∃ cb, w.heap.size = cb := ⟨_, rfl⟩
  have hcl := X0.lt
  rw [hcb] at X0 hcl
  try rw [hcb]
  obtain ⟨t1B, ht1B⟩ : ∃ b : Bool, decide ((0 : Int) ≤ (X.ty : Int)) = b := ⟨_, rfl⟩
  obtain ⟨t2B, ht2B⟩ : ∃ b : Bool, decide ((X.ty : Int) ≤ (255 : Int)) = b := ⟨_, rfl⟩
  obtain ⟨t3B, ht3B⟩ : ∃ b : Bool, flMay X.ty X.fl = b := ⟨_, rfl⟩
  obtain ⟨t4B, ht4B⟩ : ∃ b : Bool, (!([X.st, X.ss, X.ou, X.ii].any no16)) = b := ⟨_, rfl⟩
  obtain ⟨t5B, ht5B⟩ : ∃ b : Bool, decide (((X.d.size : Nat) : Int) ≤ (900 : Int)) = b := ⟨_, rfl⟩
  obtain ⟨t6B, ht6B⟩ : ∃ b : Bool, (decide (X.P.length ≤ 16) && X.P.all fun p => mayP p.1 p.2) = b := ⟨_, rfl⟩
  obtain ⟨t7B, ht7B⟩ : ∃ b : Bool, (decide (X.K.length ≤ 16) && X.K.all fun p => mayP p.1 p.2) = b := ⟨_, rfl⟩
  obtain ⟨t8B, ht8B⟩ : ∃ b : Bool, (risO X.G).isSome = b := ⟨_, rfl⟩
  obtain ⟨t9B, ht9B⟩ : ∃ b : Bool, ((X.tg : Int) != (0 : Int)) = b := ⟨_, rfl⟩
  obtain ⟨t10B, ht10B⟩ : ∃ b : Bool, (decide (kindV X.ty = 1)) = b := ⟨_, rfl⟩
  obtain ⟨t11B, ht11B⟩ : ∃ b : Bool, (bareF X X.P.length X.K.length X.G.length X.D.length (kindV X.ty)) = b := ⟨_, rfl⟩
  go_upto_region 1 with fail
  refine wp_region_lit ?_
  refine abs_list _ (fun ac hac => ?_)
  have hsz : ac.tmps.size = 66 := by rw [hac]; rfl
  have f1 : ac.eval (.tmp 1) = .pointer (some ⟨cb, 0, none⟩) := by rw [hac]; rfl
  have HB := Lib.hid hac
  clear hac
  refine list_val (u := .pointer (some ⟨cb, 0, none⟩)) rfl rfl (run_field (s := .pointer (some ⟨cb, 0, none⟩)) rfl f1 (by kernel_rfl)) ?_
  refine abs_list _ (fun a1 h1 => ?_)
  have z1 := sp h1 hsz
  replace f1 := kp h1 (by decide) f1
  have f3 := nw h1 hsz (by decide)
  replace h1 := Lib.hid h1
  refine list_val (u := .int .i64 X.ty) rfl rfl (run_load1 (s := .pointer (some ⟨cb, 0, none⟩)) rfl f3 (by have c : w0.cell? ⟨cb, 0, none⟩ = some (.int .i64 X.ty) := X0.cell 0; go_simp)) ?_
  refine abs_list _ (fun a2 h2 => ?_)
  have z2 := sp h2 z1
  replace f1 := kp h2 (by decide) f1
  have f4 := nw h2 z1 (by decide)
  clear f3 z1
  replace h2 := Lib.hid h2
  refine list_val (u := .bool t1B) rfl rfl (run_ord (s := .int .i64 X.ty) (j := .int .i64 0) rfl (.inr (.inr (.inr (.inl rfl)))) f4 rfl ((geq_i3 _ _ _).trans (by rw [ht1B]))) ?_
  refine abs_list _ (fun a3 h3 => ?_)
  have z3 := sp h3 z2
  replace f1 := kp h3 (by decide) f1
  have f5 := nw h3 z2 (by decide)
  clear f4 z2
  replace h3 := Lib.hid h3
  refine list_val (u := .bool t1B) rfl rfl (run_move rfl f5 _) ?_
  refine abs_list _ (fun a4 h4 => ?_)
  have z4 := sp h4 z3
  replace f1 := kp h4 (by decide) f1
  have f6 := nw h4 z3 (by decide)
  clear f5 z3
  replace h4 := Lib.hid h4
  refine list_if (u := .pointer (some ⟨cb, 0, none⟩)) (b := t1B) (c := true) (c' := t1B) (dk := 6) rfl (by kernel_rfl) (f6.trans (cv_true _).symm) rfl (by cases t1B <;> rfl) (fun h => run_field (s := .pointer (some ⟨cb, 0, none⟩)) rfl f1 (by kernel_rfl)) ?_
  refine abs_list _ (fun a5 h5 => ?_)
  have z5 := sp h5 z4
  replace f1 := kp h5 (by decide) f1
  replace f6 := kp h5 (by decide) f6
  have f7 := nw h5 z4 (by decide)
  clear z4
  replace h5 := Lib.hid h5
  refine list_if (u := .int .i64 X.ty) (b := t1B) (c := true) (c' := t1B) (dk := 6) rfl (by kernel_rfl) (f6.trans (cv_true _).symm) rfl (by cases t1B <;> rfl) (fun h => run_load1 (s := .pointer (some ⟨cb, 0, none⟩)) rfl (f7.trans (cv_of h)) (by have c : w0.cell? ⟨cb, 0, none⟩ = some (.int .i64 X.ty) := X0.cell 0; go_simp)) ?_
  refine abs_list _ (fun a6 h6 => ?_)
  have z6 := sp h6 z5
  replace f1 := kp h6 (by decide) f1
  replace f6 := kp h6 (by decide) f6
  have f8 := nw h6 z5 (by decide)
  clear f7 z5
  replace h6 := Lib.hid h6
  refine list_if (u := .bool t2B) (b := t1B) (c := true) (c' := t1B) (dk := 6) rfl (by kernel_rfl) (f6.trans (cv_true _).symm) rfl (by cases t1B <;> rfl) (fun h => run_ord (s := .int .i64 X.ty) (j := .int .i64 255) rfl (.inr (.inr (.inl rfl))) (f8.trans (cv_of h)) rfl ((leq_i3 _ _ _).trans (by rw [ht2B]))) ?_
  refine abs_list _ (fun a7 h7 => ?_)
  have z7 := sp h7 z6
  replace f1 := kp h7 (by decide) f1
  replace f6 := kp h7 (by decide) f6
  have f9 := nw h7 z6 (by decide)
  clear f8 z6
  replace h7 := Lib.hid h7
  obtain ⟨q1B, hq1B⟩ : ∃ q : Bool, (t1B && t2B) = q := ⟨_, rfl⟩
  refine list_val (u := .bool q1B) rfl rfl (run_pick (b := t1B) rfl f6 (by rw [f9, ← hq1B]; cases t1B <;> cases t2B <;> simp [cv, eval_const])) ?_
  refine abs_list _ (fun a8 h8 => ?_)
  have z8 := sp h8 z7
  replace f1 := kp h8 (by decide) f1
  have f10 := nw h8 z7 (by decide)
  clear f6 f9 z7
  replace h8 := Lib.hid h8
  refine list_val (u := .bool q1B) rfl rfl (run_move rfl f10 _) ?_
  refine abs_list _ (fun a9 h9 => ?_)
  have z9 := sp h9 z8
  replace f1 := kp h9 (by decide) f1
  have f11 := nw h9 z8 (by decide)
  clear f10 z8
  replace h9 := Lib.hid h9
  refine list_if (u := .pointer (some ⟨cb, 0, none⟩)) (b := q1B) (c := true) (c' := q1B) (dk := 11) rfl (by kernel_rfl) (f11.trans (cv_true _).symm) rfl (by cases q1B <;> rfl) (fun h => run_field (s := .pointer (some ⟨cb, 0, none⟩)) rfl f1 (by kernel_rfl)) ?_
  refine abs_list _ (fun a10 h10 => ?_)
  have z10 := sp h10 z9
  replace f1 := kp h10 (by decide) f1
  replace f11 := kp h10 (by decide) f11
  have f12 := nw h10 z9 (by decide)
  clear z9
  replace h10 := Lib.hid h10
  refine list_if (u := .int .i64 X.ty) (b := q1B) (c := true) (c' := q1B) (dk := 11) rfl (by kernel_rfl) (f11.trans (cv_true _).symm) rfl (by cases q1B <;> rfl) (fun h => run_load1 (s := .pointer (some ⟨cb, 0, none⟩)) rfl (f12.trans (cv_of h)) (by have c : w0.cell? ⟨cb, 0, none⟩ = some (.int .i64 X.ty) := X0.cell 0; go_simp)) ?_
  refine abs_list _ (fun a11 h11 => ?_)
  have z11 := sp h11 z10
  replace f1 := kp h11 (by decide) f1
  replace f11 := kp h11 (by decide) f11
  have f13 := nw h11 z10 (by decide)
  clear f12 z10
  replace h11 := Lib.hid h11
  refine list_if (u := .pointer (some ⟨cb, 1, none⟩)) (b := q1B) (c := true) (c' := q1B) (dk := 11) rfl (by kernel_rfl) (f11.trans (cv_true _).symm) rfl (by cases q1B <;> rfl) (fun h => run_field (s := .pointer (some ⟨cb, 0, none⟩)) rfl f1 (by kernel_rfl)) ?_
  refine abs_list _ (fun a12 h12 => ?_)
  have z12 := sp h12 z11
  replace f1 := kp h12 (by decide) f1
  replace f11 := kp h12 (by decide) f11
  replace f13 := kp h12 (by decide) f13
  have f14 := nw h12 z11 (by decide)
  clear z11
  replace h12 := Lib.hid h12
  refine list_if (u := .int .i64 X.fl) (b := q1B) (c := true) (c' := q1B) (dk := 11) rfl (by kernel_rfl) (f11.trans (cv_true _).symm) rfl (by cases q1B <;> rfl) (fun h => run_load1 (s := .pointer (some ⟨cb, 1, none⟩)) rfl (f14.trans (cv_of h)) (by have c : w0.cell? ⟨cb, 1, none⟩ = some (.int .i64 X.fl) := X0.cell 1; go_simp)) ?_
  refine abs_list _ (fun a13 h13 => ?_)
  have z13 := sp h13 z12
  replace f1 := kp h13 (by decide) f1
  replace f11 := kp h13 (by decide) f11
  replace f13 := kp h13 (by decide) f13
  have f15 := nw h13 z12 (by decide)
  clear f14 z12
  replace h13 := Lib.hid h13
  refine list_call_if (u := .bool t3B) (R := Below w0.heap.size w0) (b := q1B) (c := true) (c' := q1B) (dk := 11) rfl (by kernel_rfl) (f11.trans (cv_true _).symm) rfl (by cases q1B <;> rfl) 50 Try.f50 _ _ rfl Try.func50 (by kernel_rfl) (by kernel_rfl) #[.int .i64 X.ty, .int .i64 X.fl] (fun h => by rw [show ((#[.tmp 13, .tmp 15] : Array Operand).map a13.eval) = #[a13.eval (.tmp 13), a13.eval (.tmp 15)] by simp, (f13.trans (cv_of h)), (f15.trans (cv_of h))]) (fun h => by rw [← ht3B]; exact flagsMay_any X.ty X.fl HW.out.fl.1 HW.out.fl.2 w0) (Below.refl _ _) (fun u1 hbu1 => ?_)
  have Xu1 := X0.below hbu1 X0.lt
  have belu1 := belw0.trans (hbu1.mono belw0.size)
  clear X0 belw0 hbu1
  refine abs_list _ (fun a14 h14 => ?_)
  have z14 := sp h14 z13
  replace f1 := kp h14 (by decide) f1
  replace f11 := kp h14 (by decide) f11
  have f16 := nw h14 z13 (by decide)
  clear f13 f15 z13
  replace h14 := Lib.hid h14
  obtain ⟨q2B, hq2B⟩ : ∃ q : Bool, (q1B && t3B) = q := ⟨_, rfl⟩
  refine list_val (u := .bool q2B) rfl rfl (run_pick (b := q1B) rfl f11 (by rw [f16, ← hq2B]; cases q1B <;> cases t3B <;> simp [cv, eval_const])) ?_
  refine abs_list _ (fun a15 h15 => ?_)
  have z15 := sp h15 z14
  replace f1 := kp h15 (by decide) f1
  have f17 := nw h15 z14 (by decide)
  clear f11 f16 z14
  replace h15 := Lib.hid h15
  refine list_val (u := .bool q2B) rfl rfl (run_move rfl f17 _) ?_
  refine abs_list _ (fun a16 h16 => ?_)
  have z16 := sp h16 z15
  replace f1 := kp h16 (by decide) f1
  have f18 := nw h16 z15 (by decide)
  clear f17 z15
  replace h16 := Lib.hid h16
  refine list_if (u := .pointer (some ⟨cb, 3, none⟩)) (b := q2B) (c := true) (c' := q2B) (dk := 18) rfl (by kernel_rfl) (f18.trans (cv_true _).symm) rfl (by cases q2B <;> rfl) (fun h => run_field (s := .pointer (some ⟨cb, 0, none⟩)) rfl f1 (by kernel_rfl)) ?_
  refine abs_list _ (fun a17 h17 => ?_)
  have z17 := sp h17 z16
  replace f1 := kp h17 (by decide) f1
  replace f18 := kp h17 (by decide) f18
  have f19 := nw h17 z16 (by decide)
  clear z16
  replace h17 := Lib.hid h17
  refine list_if (u := .int .i64 X.st) (b := q2B) (c := true) (c' := q2B) (dk := 18) rfl (by kernel_rfl) (f18.trans (cv_true _).symm) rfl (by cases q2B <;> rfl) (fun h => run_load1 (s := .pointer (some ⟨cb, 3, none⟩)) rfl (f19.trans (cv_of h)) (by have c : u1.cell? ⟨cb, 3, none⟩ = some (.int .i64 X.st) := Xu1.cell 3; go_simp)) ?_
  refine abs_list _ (fun a18 h18 => ?_)
  have z18 := sp h18 z17
  replace f1 := kp h18 (by decide) f1
  replace f18 := kp h18 (by decide) f18
  have f20 := nw h18 z17 (by decide)
  clear f19 z17
  replace h18 := Lib.hid h18
  refine list_if (u := .pointer (some ⟨cb, 4, none⟩)) (b := q2B) (c := true) (c' := q2B) (dk := 18) rfl (by kernel_rfl) (f18.trans (cv_true _).symm) rfl (by cases q2B <;> rfl) (fun h => run_field (s := .pointer (some ⟨cb, 0, none⟩)) rfl f1 (by kernel_rfl)) ?_
  refine abs_list _ (fun a19 h19 => ?_)
  have z19 := sp h19 z18
  replace f1 := kp h19 (by decide) f1
  replace f18 := kp h19 (by decide) f18
  replace f20 := kp h19 (by decide) f20
  have f21 := nw h19 z18 (by decide)
  clear z18
  replace h19 := Lib.hid h19
  refine list_if (u := .int .i64 X.ss) (b := q2B) (c := true) (c' := q2B) (dk := 18) rfl (by kernel_rfl) (f18.trans (cv_true _).symm) rfl (by cases q2B <;> rfl) (fun h => run_load1 (s := .pointer (some ⟨cb, 4, none⟩)) rfl (f21.trans (cv_of h)) (by have c : u1.cell? ⟨cb, 4, none⟩ = some (.int .i64 X.ss) := Xu1.cell 4; go_simp)) ?_
  refine abs_list _ (fun a20 h20 => ?_)
  have z20 := sp h20 z19
  replace f1 := kp h20 (by decide) f1
  replace f18 := kp h20 (by decide) f18
  replace f20 := kp h20 (by decide) f20
  have f22 := nw h20 z19 (by decide)
  clear f21 z19
  replace h20 := Lib.hid h20
  refine list_if (u := .pointer (some ⟨cb, 9, none⟩)) (b := q2B) (c := true) (c' := q2B) (dk := 18) rfl (by kernel_rfl) (f18.trans (cv_true _).symm) rfl (by cases q2B <;> rfl) (fun h => run_field (s := .pointer (some ⟨cb, 0, none⟩)) rfl f1 (by kernel_rfl)) ?_
  refine abs_list _ (fun a21 h21 => ?_)
  have z21 := sp h21 z20
  replace f1 := kp h21 (by decide) f1
  replace f18 := kp h21 (by decide) f18
  replace f20 := kp h21 (by decide) f20
  replace f22 := kp h21 (by decide) f22
  have f23 := nw h21 z20 (by decide)
  clear z20
  replace h21 := Lib.hid h21
  refine list_if (u := .int .i64 X.ou) (b := q2B) (c := true) (c' := q2B) (dk := 18) rfl (by kernel_rfl) (f18.trans (cv_true _).symm) rfl (by cases q2B <;> rfl) (fun h => run_load1 (s := .pointer (some ⟨cb, 9, none⟩)) rfl (f23.trans (cv_of h)) (by have c : u1.cell? ⟨cb, 9, none⟩ = some (.int .i64 X.ou) := Xu1.cell 9; go_simp)) ?_
  refine abs_list _ (fun a22 h22 => ?_)
  have z22 := sp h22 z21
  replace f1 := kp h22 (by decide) f1
  replace f18 := kp h22 (by decide) f18
  replace f20 := kp h22 (by decide) f20
  replace f22 := kp h22 (by decide) f22
  have f24 := nw h22 z21 (by decide)
  clear f23 z21
  replace h22 := Lib.hid h22
  refine list_if (u := .pointer (some ⟨cb, 10, none⟩)) (b := q2B) (c := true) (c' := q2B) (dk := 18) rfl (by kernel_rfl) (f18.trans (cv_true _).symm) rfl (by cases q2B <;> rfl) (fun h => run_field (s := .pointer (some ⟨cb, 0, none⟩)) rfl f1 (by kernel_rfl)) ?_
  refine abs_list _ (fun a23 h23 => ?_)
  have z23 := sp h23 z22
  replace f1 := kp h23 (by decide) f1
  replace f18 := kp h23 (by decide) f18
  replace f20 := kp h23 (by decide) f20
  replace f22 := kp h23 (by decide) f22
  replace f24 := kp h23 (by decide) f24
  have f25 := nw h23 z22 (by decide)
  clear z22
  replace h23 := Lib.hid h23
  refine list_if (u := .int .i64 X.ii) (b := q2B) (c := true) (c' := q2B) (dk := 18) rfl (by kernel_rfl) (f18.trans (cv_true _).symm) rfl (by cases q2B <;> rfl) (fun h => run_load1 (s := .pointer (some ⟨cb, 10, none⟩)) rfl (f25.trans (cv_of h)) (by have c : u1.cell? ⟨cb, 10, none⟩ = some (.int .i64 X.ii) := Xu1.cell 10; go_simp)) ?_
  refine abs_list _ (fun a24 h24 => ?_)
  have z24 := sp h24 z23
  replace f1 := kp h24 (by decide) f1
  replace f18 := kp h24 (by decide) f18
  replace f20 := kp h24 (by decide) f20
  replace f22 := kp h24 (by decide) f22
  replace f24 := kp h24 (by decide) f24
  have f26 := nw h24 z23 (by decide)
  clear f25 z23
  replace h24 := Lib.hid h24
  refine list_make_if (u := .slice (some ⟨u1.heap.size, 0, none⟩) 4 4) (w1 := u1.alloc (.cells #[.int .i64 X.st, .int .i64 X.ss, .int .i64 X.ou, .int .i64 X.ii] 3)) (b := q2B) (c := true) (c' := q2B) (dk := 18) rfl (by kernel_rfl) (f18.trans (cv_true _).symm) rfl (by cases q2B <;> rfl) (fun h => run_build4 rfl (f20.trans (cv_of h)) (f22.trans (cv_of h)) (f24.trans (cv_of h)) (f26.trans (cv_of h)) (build4_any _ _ _ _ _)) (fun u2 htu2 hfu2 => ?_)
  have hbu2 := below_if htu2 hfu2
  have Xu2 := Xu1.below hbu2 Xu1.lt
  have belu2 := belu1.trans (hbu2.mono belu1.size)
  clear Xu1 belu1 hbu2
  have hrow : q2B = true → Row u2 u2.heap.size 1 (.slice (some ⟨u1.heap.size, 0, none⟩) 4 4) 4 ([X.st, X.ss, X.ou, X.ii].map (.int .i64)) := fun h => by rw [htu2 h]; exact row_new4 _ _ _ _ _ _
  refine abs_list _ (fun a25 h25 => ?_)
  have z25 := sp h25 z24
  replace f1 := kp h25 (by decide) f1
  replace f18 := kp h25 (by decide) f18
  have f27 := nw h25 z24 (by decide)
  clear f20 f22 f24 f26 z24
  replace h25 := Lib.hid h25
  refine list_call_if (u := .bool t4B) (R := Below u2.heap.size u2) (b := q2B) (c := true) (c' := q2B) (dk := 18) rfl (by kernel_rfl) (f18.trans (cv_true _).symm) rfl (by cases q2B <;> rfl) 51 Try.f51 _ _ rfl Try.func51 (by kernel_rfl) (by kernel_rfl) #[.slice (some ⟨u1.heap.size, 0, none⟩) 4 4] (fun h => by rw [show ((#[.tmp 27] : Array Operand).map a25.eval) = #[a25.eval (.tmp 27)] by simp, (f27.trans (cv_of h))]) (fun h => by rw [← ht4B]; exact within_any (L := [X.st, X.ss, X.ou, X.ii]) (hrow (by first | exact h | (revert h; simp))) (Nat.le_refl _) (show 4 ≤ 20 by decide)) (Below.refl _ _) (fun u3 hbu3 => ?_)
  have Xu3 := Xu2.below hbu3 Xu2.lt
  have belu3 := belu2.trans (hbu3.mono belu2.size)
  clear Xu2 belu2 hbu3
  refine abs_list _ (fun a26 h26 => ?_)
  have z26 := sp h26 z25
  replace f1 := kp h26 (by decide) f1
  replace f18 := kp h26 (by decide) f18
  have f28 := nw h26 z25 (by decide)
  clear f27 z25
  replace h26 := Lib.hid h26
  obtain ⟨q3B, hq3B⟩ : ∃ q : Bool, (q2B && t4B) = q := ⟨_, rfl⟩
  refine list_val (u := .bool q3B) rfl rfl (run_pick (b := q2B) rfl f18 (by rw [f28, ← hq3B]; cases q2B <;> cases t4B <;> simp [cv, eval_const])) ?_
  refine abs_list _ (fun a27 h27 => ?_)
  have z27 := sp h27 z26
  replace f1 := kp h27 (by decide) f1
  have f29 := nw h27 z26 (by decide)
  clear f18 f28 z26
  replace h27 := Lib.hid h27
  refine list_val (u := .bool q3B) rfl rfl (run_move rfl f29 _) ?_
  refine abs_list _ (fun a28 h28 => ?_)
  have z28 := sp h28 z27
  replace f1 := kp h28 (by decide) f1
  have f30 := nw h28 z27 (by decide)
  clear f29 z27
  replace h28 := Lib.hid h28
  refine list_if (u := .pointer (some ⟨cb, 6, none⟩)) (b := q3B) (c := true) (c' := q3B) (dk := 30) rfl (by kernel_rfl) (f30.trans (cv_true _).symm) rfl (by cases q3B <;> rfl) (fun h => run_field (s := .pointer (some ⟨cb, 0, none⟩)) rfl f1 (by kernel_rfl)) ?_
  refine abs_list _ (fun a29 h29 => ?_)
  have z29 := sp h29 z28
  replace f1 := kp h29 (by decide) f1
  replace f30 := kp h29 (by decide) f30
  have f31 := nw h29 z28 (by decide)
  clear z28
  replace h29 := Lib.hid h29
  refine list_if (u := .string X.d) (b := q3B) (c := true) (c' := q3B) (dk := 30) rfl (by kernel_rfl) (f30.trans (cv_true _).symm) rfl (by cases q3B <;> rfl) (fun h => run_load1 (s := .pointer (some ⟨cb, 6, none⟩)) rfl (f31.trans (cv_of h)) (by have c : u3.cell? ⟨cb, 6, none⟩ = some (.string X.d) := Xu3.cell 6; go_simp)) ?_
  refine abs_list _ (fun a30 h30 => ?_)
  have z30 := sp h30 z29
  replace f1 := kp h30 (by decide) f1
  replace f30 := kp h30 (by decide) f30
  have f32 := nw h30 z29 (by decide)
  clear f31 z29
  replace h30 := Lib.hid h30
  refine list_if (u := .int .i64 (X.d.size : Nat)) (b := q3B) (c := true) (c' := q3B) (dk := 30) rfl (by kernel_rfl) (f30.trans (cv_true _).symm) rfl (by cases q3B <;> rfl) (fun h => run_lens (s := .string X.d) rfl (f32.trans (cv_of h)) (fun cs => len_st _ _ cs)) ?_
  refine abs_list _ (fun a31 h31 => ?_)
  have z31 := sp h31 z30
  replace f1 := kp h31 (by decide) f1
  replace f30 := kp h31 (by decide) f30
  have f33 := nw h31 z30 (by decide)
  clear f32 z30
  replace h31 := Lib.hid h31
  refine list_if (u := .bool t5B) (b := q3B) (c := true) (c' := q3B) (dk := 30) rfl (by kernel_rfl) (f30.trans (cv_true _).symm) rfl (by cases q3B <;> rfl) (fun h => run_ord (s := .int .i64 (X.d.size : Nat)) (j := .int .i64 900) rfl (.inr (.inr (.inl rfl))) (f33.trans (cv_of h)) rfl ((leq_i3 _ _ _).trans (by rw [ht5B]))) ?_
  refine abs_list _ (fun a32 h32 => ?_)
  have z32 := sp h32 z31
  replace f1 := kp h32 (by decide) f1
  replace f30 := kp h32 (by decide) f30
  have f34 := nw h32 z31 (by decide)
  clear f33 z31
  replace h32 := Lib.hid h32
  obtain ⟨q4B, hq4B⟩ : ∃ q : Bool, (q3B && t5B) = q := ⟨_, rfl⟩
  refine list_val (u := .bool q4B) rfl rfl (run_pick (b := q3B) rfl f30 (by rw [f34, ← hq4B]; cases q3B <;> cases t5B <;> simp [cv, eval_const])) ?_
  refine abs_list _ (fun a33 h33 => ?_)
  have z33 := sp h33 z32
  replace f1 := kp h33 (by decide) f1
  have f35 := nw h33 z32 (by decide)
  clear f30 f34 z32
  replace h33 := Lib.hid h33
  refine list_val (u := .bool q4B) rfl rfl (run_move rfl f35 _) ?_
  refine abs_list _ (fun a34 h34 => ?_)
  have z34 := sp h34 z33
  replace f1 := kp h34 (by decide) f1
  have f36 := nw h34 z33 (by decide)
  clear f35 z33
  replace h34 := Lib.hid h34
  refine list_if (u := .pointer (some ⟨cb, 11, none⟩)) (b := q4B) (c := true) (c' := q4B) (dk := 36) rfl (by kernel_rfl) (f36.trans (cv_true _).symm) rfl (by cases q4B <;> rfl) (fun h => run_field (s := .pointer (some ⟨cb, 0, none⟩)) rfl f1 (by kernel_rfl)) ?_
  refine abs_list _ (fun a35 h35 => ?_)
  have z35 := sp h35 z34
  replace f1 := kp h35 (by decide) f1
  replace f36 := kp h35 (by decide) f36
  have f37 := nw h35 z34 (by decide)
  clear z34
  replace h35 := Lib.hid h35
  refine list_if (u := .slice oP X.P.length cP) (b := q4B) (c := true) (c' := q4B) (dk := 36) rfl (by kernel_rfl) (f36.trans (cv_true _).symm) rfl (by cases q4B <;> rfl) (fun h => run_load1 (s := .pointer (some ⟨cb, 11, none⟩)) rfl (f37.trans (cv_of h)) (by have c : u3.cell? ⟨cb, 11, none⟩ = some (.slice oP X.P.length cP) := Xu3.cell 11; go_simp)) ?_
  refine abs_list _ (fun a36 h36 => ?_)
  have z36 := sp h36 z35
  replace f1 := kp h36 (by decide) f1
  replace f36 := kp h36 (by decide) f36
  have f38 := nw h36 z35 (by decide)
  clear f37 z35
  replace h36 := Lib.hid h36
  refine list_call_if (u := .bool t6B) (R := Below u3.heap.size u3) (b := q4B) (c := true) (c' := q4B) (dk := 36) rfl (by kernel_rfl) (f36.trans (cv_true _).symm) rfl (by cases q4B <;> rfl) 52 Try.f52 _ _ rfl Try.func52 (by kernel_rfl) (by kernel_rfl) #[.slice oP X.P.length cP] (fun h => by rw [show ((#[.tmp 38] : Array Operand).map a36.eval) = #[a36.eval (.tmp 38)] by simp, (f38.trans (cv_of h))]) (fun h => by rw [← ht6B]; exact paramsMay_any ((HM.out _ belu3).P) (Nat.le_trans HB0.out belu3.size) (by have := HW.out.P; omega)) (Below.refl _ _) (fun u4 hbu4 => ?_)
  have Xu4 := Xu3.below hbu4 Xu3.lt
  have belu4 := belu3.trans (hbu4.mono belu3.size)
  clear Xu3 belu3 hbu4
  refine abs_list _ (fun a37 h37 => ?_)
  have z37 := sp h37 z36
  replace f1 := kp h37 (by decide) f1
  replace f36 := kp h37 (by decide) f36
  have f39 := nw h37 z36 (by decide)
  clear f38 z36
  replace h37 := Lib.hid h37
  obtain ⟨q5B, hq5B⟩ : ∃ q : Bool, (q4B && t6B) = q := ⟨_, rfl⟩
  refine list_val (u := .bool q5B) rfl rfl (run_pick (b := q4B) rfl f36 (by rw [f39, ← hq5B]; cases q4B <;> cases t6B <;> simp [cv, eval_const])) ?_
  refine abs_list _ (fun a38 h38 => ?_)
  have z38 := sp h38 z37
  replace f1 := kp h38 (by decide) f1
  have f40 := nw h38 z37 (by decide)
  clear f36 f39 z37
  replace h38 := Lib.hid h38
  refine list_val (u := .bool q5B) rfl rfl (run_move rfl f40 _) ?_
  refine abs_list _ (fun a39 h39 => ?_)
  have z39 := sp h39 z38
  replace f1 := kp h39 (by decide) f1
  have f41 := nw h39 z38 (by decide)
  clear f40 z38
  replace h39 := Lib.hid h39
  refine list_if (u := .pointer (some ⟨cb, 12, none⟩)) (b := q5B) (c := true) (c' := q5B) (dk := 41) rfl (by kernel_rfl) (f41.trans (cv_true _).symm) rfl (by cases q5B <;> rfl) (fun h => run_field (s := .pointer (some ⟨cb, 0, none⟩)) rfl f1 (by kernel_rfl)) ?_
  refine abs_list _ (fun a40 h40 => ?_)
  have z40 := sp h40 z39
  replace f1 := kp h40 (by decide) f1
  replace f41 := kp h40 (by decide) f41
  have f42 := nw h40 z39 (by decide)
  clear z39
  replace h40 := Lib.hid h40
  refine list_if (u := .slice oK X.K.length cK) (b := q5B) (c := true) (c' := q5B) (dk := 41) rfl (by kernel_rfl) (f41.trans (cv_true _).symm) rfl (by cases q5B <;> rfl) (fun h => run_load1 (s := .pointer (some ⟨cb, 12, none⟩)) rfl (f42.trans (cv_of h)) (by have c : u4.cell? ⟨cb, 12, none⟩ = some (.slice oK X.K.length cK) := Xu4.cell 12; go_simp)) ?_
  refine abs_list _ (fun a41 h41 => ?_)
  have z41 := sp h41 z40
  replace f1 := kp h41 (by decide) f1
  replace f41 := kp h41 (by decide) f41
  have f43 := nw h41 z40 (by decide)
  clear f42 z40
  replace h41 := Lib.hid h41
  refine list_call_if (u := .bool t7B) (R := Below u4.heap.size u4) (b := q5B) (c := true) (c' := q5B) (dk := 41) rfl (by kernel_rfl) (f41.trans (cv_true _).symm) rfl (by cases q5B <;> rfl) 53 Try.f53 _ _ rfl Try.func53 (by kernel_rfl) (by kernel_rfl) #[.slice oK X.K.length cK] (fun h => by rw [show ((#[.tmp 43] : Array Operand).map a41.eval) = #[a41.eval (.tmp 43)] by simp, (f43.trans (cv_of h))]) (fun h => by rw [← ht7B]; exact causesMay_any ((HM.out _ belu4).K) (Nat.le_trans HB0.out belu4.size) (by have := HW.out.K; omega)) (Below.refl _ _) (fun u5 hbu5 => ?_)
  have Xu5 := Xu4.below hbu5 Xu4.lt
  have belu5 := belu4.trans (hbu5.mono belu4.size)
  clear Xu4 belu4 hbu5
  refine abs_list _ (fun a42 h42 => ?_)
  have z42 := sp h42 z41
  replace f1 := kp h42 (by decide) f1
  replace f41 := kp h42 (by decide) f41
  have f44 := nw h42 z41 (by decide)
  clear f43 z41
  replace h42 := Lib.hid h42
  obtain ⟨q6B, hq6B⟩ : ∃ q : Bool, (q5B && t7B) = q := ⟨_, rfl⟩
  refine list_val (u := .bool q6B) rfl rfl (run_pick (b := q5B) rfl f41 (by rw [f44, ← hq6B]; cases q5B <;> cases t7B <;> simp [cv, eval_const])) ?_
  refine abs_list _ (fun a43 h43 => ?_)
  have z43 := sp h43 z42
  replace f1 := kp h43 (by decide) f1
  have f45 := nw h43 z42 (by decide)
  clear f41 f44 z42
  replace h43 := Lib.hid h43
  refine list_val (u := .bool q6B) rfl rfl (run_move rfl f45 _) ?_
  refine abs_list _ (fun a44 h44 => ?_)
  have z44 := sp h44 z43
  replace f1 := kp h44 (by decide) f1
  have f46 := nw h44 z43 (by decide)
  clear f45 z43
  replace h44 := Lib.hid h44
  refine list_if (u := .pointer (some ⟨cb, 13, none⟩)) (b := q6B) (c := true) (c' := q6B) (dk := 46) rfl (by kernel_rfl) (f46.trans (cv_true _).symm) rfl (by cases q6B <;> rfl) (fun h => run_field (s := .pointer (some ⟨cb, 0, none⟩)) rfl f1 (by kernel_rfl)) ?_
  refine abs_list _ (fun a45 h45 => ?_)
  have z45 := sp h45 z44
  replace f1 := kp h45 (by decide) f1
  replace f46 := kp h45 (by decide) f46
  have f47 := nw h45 z44 (by decide)
  clear z44
  replace h45 := Lib.hid h45
  refine list_if (u := .slice oG X.G.length cG) (b := q6B) (c := true) (c' := q6B) (dk := 46) rfl (by kernel_rfl) (f46.trans (cv_true _).symm) rfl (by cases q6B <;> rfl) (fun h => run_load1 (s := .pointer (some ⟨cb, 13, none⟩)) rfl (f47.trans (cv_of h)) (by have c : u5.cell? ⟨cb, 13, none⟩ = some (.slice oG X.G.length cG) := Xu5.cell 13; go_simp)) ?_
  refine abs_list _ (fun a46 h46 => ?_)
  have z46 := sp h46 z45
  replace f1 := kp h46 (by decide) f1
  replace f46 := kp h46 (by decide) f46
  have f48 := nw h46 z45 (by decide)
  clear f47 z45
  replace h46 := Lib.hid h46
  refine list_call_if (u := .bool t8B) (R := Below u5.heap.size u5) (b := q6B) (c := true) (c' := q6B) (dk := 46) rfl (by kernel_rfl) (f46.trans (cv_true _).symm) rfl (by cases q6B <;> rfl) 54 Try.f54 _ _ rfl Try.func54 (by kernel_rfl) (by kernel_rfl) #[.slice oG X.G.length cG] (fun h => by rw [show ((#[.tmp 48] : Array Operand).map a46.eval) = #[a46.eval (.tmp 48)] by simp, (f48.trans (cv_of h))]) (fun h => by rw [← ht8B]; exact rising_any ((HM.out _ belu5).G) (Nat.le_trans HB0.out belu5.size) (by have := HW.out.G; omega)) (Below.refl _ _) (fun u6 hbu6 => ?_)
  have Xu6 := Xu5.below hbu6 Xu5.lt
  have belu6 := belu5.trans (hbu6.mono belu5.size)
  clear Xu5 belu5 hbu6
  refine abs_list _ (fun a47 h47 => ?_)
  have z47 := sp h47 z46
  replace f1 := kp h47 (by decide) f1
  replace f46 := kp h47 (by decide) f46
  have f49 := nw h47 z46 (by decide)
  clear f48 z46
  replace h47 := Lib.hid h47
  obtain ⟨q7B, hq7B⟩ : ∃ q : Bool, (q6B && t8B) = q := ⟨_, rfl⟩
  refine list_val (u := .bool q7B) rfl rfl (run_pick (b := q6B) rfl f46 (by rw [f49, ← hq7B]; cases q6B <;> cases t8B <;> simp [cv, eval_const])) ?_
  refine abs_list _ (fun a48 h48 => ?_)
  have z48 := sp h48 z47
  replace f1 := kp h48 (by decide) f1
  have f50 := nw h48 z47 (by decide)
  clear f46 f49 z47
  replace h48 := Lib.hid h48
  refine list_val (u := .bool q7B) rfl rfl (run_move rfl f50 _) ?_
  refine abs_list _ (fun a49 h49 => ?_)
  have z49 := sp h49 z48
  replace f1 := kp h49 (by decide) f1
  have f51 := nw h49 z48 (by decide)
  clear f50 z48
  replace h49 := Lib.hid h49
  refine list_if (u := .pointer (some ⟨cb, 7, none⟩)) (b := q7B) (c := true) (c' := q7B) (dk := 51) rfl (by kernel_rfl) (f51.trans (cv_true _).symm) rfl (by cases q7B <;> rfl) (fun h => run_field (s := .pointer (some ⟨cb, 0, none⟩)) rfl f1 (by kernel_rfl)) ?_
  refine abs_list _ (fun a50 h50 => ?_)
  have z50 := sp h50 z49
  replace f1 := kp h50 (by decide) f1
  replace f51 := kp h50 (by decide) f51
  have f52 := nw h50 z49 (by decide)
  clear z49
  replace h50 := Lib.hid h50
  refine list_if (u := .int .u32 X.tg) (b := q7B) (c := true) (c' := q7B) (dk := 51) rfl (by kernel_rfl) (f51.trans (cv_true _).symm) rfl (by cases q7B <;> rfl) (fun h => run_load1 (s := .pointer (some ⟨cb, 7, none⟩)) rfl (f52.trans (cv_of h)) (by have c : u6.cell? ⟨cb, 7, none⟩ = some (.int .u32 X.tg) := Xu6.cell 7; go_simp)) ?_
  refine abs_list _ (fun a51 h51 => ?_)
  have z51 := sp h51 z50
  replace f1 := kp h51 (by decide) f1
  replace f51 := kp h51 (by decide) f51
  have f53 := nw h51 z50 (by decide)
  clear f52 z50
  replace h51 := Lib.hid h51
  refine list_if (u := .bool t9B) (b := q7B) (c := true) (c' := q7B) (dk := 51) rfl (by kernel_rfl) (f51.trans (cv_true _).symm) rfl (by cases q7B <;> rfl) (fun h => run_cmp_int (k := .u32) (p := X.tg) (q := 0) rfl (.inl rfl) (f53.trans (cv_of h)) rfl ((neq_i22 _ _ _).trans (by rw [ht9B]))) ?_
  refine abs_list _ (fun a52 h52 => ?_)
  have z52 := sp h52 z51
  replace f1 := kp h52 (by decide) f1
  replace f51 := kp h52 (by decide) f51
  have f54 := nw h52 z51 (by decide)
  clear f53 z51
  replace h52 := Lib.hid h52
  refine list_if (u := .bool t9B) (b := q7B) (c := true) (c' := q7B) (dk := 51) rfl (by kernel_rfl) (f51.trans (cv_true _).symm) rfl (by cases q7B <;> rfl) (fun h => run_move rfl (f54.trans (cv_of h)) _) ?_
  refine abs_list _ (fun a53 h53 => ?_)
  have z53 := sp h53 z52
  replace f1 := kp h53 (by decide) f1
  replace f51 := kp h53 (by decide) f51
  have f55 := nw h53 z52 (by decide)
  clear f54 z52
  replace h53 := Lib.hid h53
  refine list_if (u := .pointer (some ⟨cb, 0, none⟩)) (b := t9B) (c := q7B) (c' := (q7B && (!t9B))) (dk := 55) rfl (by kernel_rfl) f55 rfl (by cases q7B <;> cases t9B <;> rfl) (fun h => run_field (s := .pointer (some ⟨cb, 0, none⟩)) rfl f1 (by kernel_rfl)) ?_
  refine abs_list _ (fun a54 h54 => ?_)
  have z54 := sp h54 z53
  replace f1 := kp h54 (by decide) f1
  replace f51 := kp h54 (by decide) f51
  replace f55 := kp h54 (by decide) f55
  have f56 := nw h54 z53 (by decide)
  clear z53
  replace h54 := Lib.hid h54
  refine list_if (u := .int .i64 X.ty) (b := t9B) (c := q7B) (c' := (q7B && (!t9B))) (dk := 55) rfl (by kernel_rfl) f55 rfl (by cases q7B <;> cases t9B <;> rfl) (fun h => run_load1 (s := .pointer (some ⟨cb, 0, none⟩)) rfl (f56.trans (cv_of h)) (by have c : u6.cell? ⟨cb, 0, none⟩ = some (.int .i64 X.ty) := Xu6.cell 0; go_simp)) ?_
  refine abs_list _ (fun a55 h55 => ?_)
  have z55 := sp h55 z54
  replace f1 := kp h55 (by decide) f1
  replace f51 := kp h55 (by decide) f51
  replace f55 := kp h55 (by decide) f55
  have f57 := nw h55 z54 (by decide)
  clear f56 z54
  replace h55 := Lib.hid h55
  refine list_call_if (u := .bool t10B) (R := Below u6.heap.size u6) (b := t9B) (c := q7B) (c' := (q7B && (!t9B))) (dk := 55) rfl (by kernel_rfl) f55 rfl (by cases q7B <;> cases t9B <;> rfl) 55 Try.f55 _ _ rfl Try.func55 (by kernel_rfl) (by kernel_rfl) #[.int .i64 X.ty] (fun h => by rw [show ((#[.tmp 57] : Array Operand).map a55.eval) = #[a55.eval (.tmp 57)] by simp, (f57.trans (cv_of h))]) (fun h => by rw [← ht10B]; exact begins_any X.ty u6) (Below.refl _ _) (fun u7 hbu7 => ?_)
  have Xu7 := Xu6.below hbu7 Xu6.lt
  have belu7 := belu6.trans (hbu7.mono belu6.size)
  clear Xu6 belu6 hbu7
  refine abs_list _ (fun a56 h56 => ?_)
  have z56 := sp h56 z55
  replace f1 := kp h56 (by decide) f1
  replace f51 := kp h56 (by decide) f51
  replace f55 := kp h56 (by decide) f55
  have f58 := nw h56 z55 (by decide)
  clear f57 z55
  replace h56 := Lib.hid h56
  refine list_if (u := .bool (!t10B)) (b := t9B) (c := q7B) (c' := (q7B && (!t9B))) (dk := 55) rfl (by kernel_rfl) f55 rfl (by cases q7B <;> cases t9B <;> rfl) (fun h => run_not (b := t10B) rfl (f58.trans (cv_of h))) ?_
  refine abs_list _ (fun a57 h57 => ?_)
  have z57 := sp h57 z56
  replace f1 := kp h57 (by decide) f1
  replace f51 := kp h57 (by decide) f51
  replace f55 := kp h57 (by decide) f55
  have f59 := nw h57 z56 (by decide)
  clear f58 z56
  replace h57 := Lib.hid h57
  obtain ⟨q8B, hq8B⟩ : ∃ q : Bool, (t9B || (!t10B)) = q := ⟨_, rfl⟩
  refine list_if (u := .bool q8B) (b := q7B) (c := true) (c' := q7B) (dk := 51) rfl (by kernel_rfl) (f51.trans (cv_true _).symm) rfl (by cases q7B <;> rfl) (fun h => run_pick (b := t9B) rfl (f55.trans (cv_of h)) (by rw [f59, ← hq8B]; revert h; cases q7B <;> cases t10B <;> cases t9B <;> simp [cv, eval_const])) ?_
  refine abs_list _ (fun a58 h58 => ?_)
  have z58 := sp h58 z57
  replace f1 := kp h58 (by decide) f1
  replace f51 := kp h58 (by decide) f51
  have f60 := nw h58 z57 (by decide)
  clear f55 f59 z57
  replace h58 := Lib.hid h58
  obtain ⟨q9B, hq9B⟩ : ∃ q : Bool, (q7B && q8B) = q := ⟨_, rfl⟩
  refine list_val (u := .bool q9B) rfl rfl (run_pick (b := q7B) rfl f51 (by rw [f60, ← hq9B]; cases q7B <;> cases q8B <;> simp [cv, eval_const])) ?_
  refine abs_list _ (fun a59 h59 => ?_)
  have z59 := sp h59 z58
  replace f1 := kp h59 (by decide) f1
  have f61 := nw h59 z58 (by decide)
  clear f51 f60 z58
  replace h59 := Lib.hid h59
  refine list_val (u := .bool q9B) rfl rfl (run_move rfl f61 _) ?_
  refine abs_list _ (fun a60 h60 => ?_)
  have z60 := sp h60 z59
  replace f1 := kp h60 (by decide) f1
  have f62 := nw h60 z59 (by decide)
  clear f61 z59
  replace h60 := Lib.hid h60
  refine list_if (u := .agg #[.int .i64 X.ty, .int .i64 X.fl, .int .u32 X.tsn, .int .i64 X.st, .int .i64 X.ss, .int .u32 X.pr, .string X.d, .int .u32 X.tg, .int .u32 X.rw, .int .i64 X.ou, .int .i64 X.ii, .slice oP X.P.length cP, .slice oK X.K.length cK, .slice oG X.G.length cG, .slice oD X.D.length cD]) (b := q9B) (c := true) (c' := q9B) (dk := 62) rfl (by kernel_rfl) (f62.trans (cv_true _).symm) rfl (by cases q9B <;> rfl) (fun h => run_load_at (h := cb) (off := 0) (cs := #[.int .i64 X.ty, .int .i64 X.fl, .int .u32 X.tsn, .int .i64 X.st, .int .i64 X.ss, .int .u32 X.pr, .string X.d, .int .u32 X.tg, .int .u32 X.rw, .int .i64 X.ou, .int .i64 X.ii, .slice oP X.P.length cP, .slice oK X.K.length cK, .slice oG X.G.length cG, .slice oD X.D.length cD]) rfl f1 _ Try.underlying28 rfl (by kernel_rfl) (Cel.of_blk Xu7)) ?_
  refine abs_list _ (fun a61 h61 => ?_)
  have z61 := sp h61 z60
  replace f1 := kp h61 (by decide) f1
  replace f62 := kp h61 (by decide) f62
  have f63 := nw h61 z60 (by decide)
  clear z60
  replace h61 := Lib.hid h61
  refine list_call_if (u := .bool t11B) (R := Below u7.heap.size u7) (b := q9B) (c := true) (c' := q9B) (dk := 62) rfl (by kernel_rfl) (f62.trans (cv_true _).symm) rfl (by cases q9B <;> rfl) 56 Try.f56 _ _ rfl Try.func56 (by kernel_rfl) (by kernel_rfl) #[.agg #[.int .i64 X.ty, .int .i64 X.fl, .int .u32 X.tsn, .int .i64 X.st, .int .i64 X.ss, .int .u32 X.pr, .string X.d, .int .u32 X.tg, .int .u32 X.rw, .int .i64 X.ou, .int .i64 X.ii, .slice oP X.P.length cP, .slice oK X.K.length cK, .slice oG X.G.length cG, .slice oD X.D.length cD]] (fun h => by rw [show ((#[.tmp 63] : Array Operand).map a61.eval) = #[a61.eval (.tmp 63)] by simp, (f63.trans (cv_of h))]) (fun h => by rw [← ht11B]; exact bare_any X oP oK oG oD X.P.length cP X.K.length cK X.G.length cG X.D.length cD (by have h1 := HW.out.P; have h2 := HW.out.K; have h3 := HW.out.G; have h4 := HW.out.D; omega) u7) (Below.refl _ _) (fun u8 hbu8 => ?_)
  have Xu8 := Xu7.below hbu8 Xu7.lt
  have belu8 := belu7.trans (hbu8.mono belu7.size)
  clear Xu7 belu7 hbu8
  refine abs_list _ (fun a62 h62 => ?_)
  have z62 := sp h62 z61
  replace f1 := kp h62 (by decide) f1
  replace f62 := kp h62 (by decide) f62
  have f64 := nw h62 z61 (by decide)
  clear f63 z61
  replace h62 := Lib.hid h62
  obtain ⟨q10B, hq10B⟩ : ∃ q : Bool, (q9B && t11B) = q := ⟨_, rfl⟩
  refine list_val (u := .bool q10B) rfl rfl (run_pick (b := q9B) rfl f62 (by rw [f64, ← hq10B]; cases q9B <;> cases t11B <;> simp [cv, eval_const])) ?_
  refine abs_list _ (fun a63 h63 => ?_)
  have z63 := sp h63 z62
  replace f1 := kp h63 (by decide) f1
  have f65 := nw h63 z62 (by decide)
  clear f62 f64 z62
  replace h63 := Lib.hid h63
  refine list_val (u := .bool q10B) rfl rfl (run_assign rfl f65 _) ?_
  refine abs_list _ (fun a64 h64 => ?_)
  have z64 := sp h64 z63
  replace f1 := kp h64 (by decide) f1
  have f2 := nw h64 z63 (by decide)
  clear f65 z63
  replace h64 := Lib.hid h64
  refine wpList_nil ?_
  rw [h64.out, h63.out, h62.out, h61.out, h60.out, h59.out, h58.out, h57.out, h56.out, h55.out, h54.out, h53.out, h52.out, h51.out, h50.out, h49.out, h48.out, h47.out, h46.out, h45.out, h44.out, h43.out, h42.out, h41.out, h40.out, h39.out, h38.out, h37.out, h36.out, h35.out, h34.out, h33.out, h32.out, h31.out, h30.out, h29.out, h28.out, h27.out, h26.out, h25.out, h24.out, h23.out, h22.out, h21.out, h20.out, h19.out, h18.out, h17.out, h16.out, h15.out, h14.out, h13.out, h12.out, h11.out, h10.out, h9.out, h8.out, h7.out, h6.out, h5.out, h4.out, h3.out, h2.out, h1.out, HB.out]
  simp only [Act.put, List.setIfInBounds_toArray, List.set_cons_zero, List.set_cons_succ]
  clear f1 f2 z64 HB hsz h1 h2 h3 h4 h5 h6 h7 h8 h9 h10 h11 h12 h13 h14 h15 h16 h17 h18 h19 h20 h21 h22 h23 h24 h25 h26 h27 h28 h29 h30 h31 h32 h33 h34 h35 h36 h37 h38 h39 h40 h41 h42 h43 h44 h45 h46 h47 h48 h49 h50 h51 h52 h53 h54 h55 h56 h57 h58 h59 h60 h61 h62 h63 h64
  have HY := Lib.hid (show rb = q10B by
    rw [← HRB.out]
    unfold formedF
    rw [ht1B, ht2B, ht3B, ht4B, ht5B, ht6B, ht7B, ht8B, ht9B, ht10B, ht11B]
    subst_vars
    rfl)
  clear HW
  go_wp2_with fail
  go_ret
  exact ⟨ret_bool HY.out.symm, belu8⟩
def mayCV (s1B s2B : Bool) : Bool := (s1B && s2B)
def mayF (X : Ck) : Bool := mayCV ((formedF X)) ((fewF X.G.length X.D.length))
set_option maxHeartbeats 4000000 in
theorem cmay_law {X : Ck} {w : World} {B : Nat} {vP vK vG vD : Value} (HWx : CkW X) (M : CkM w B X vP vK vG vD) (hB : B ≤ w.heap.size) : Calls Try.prog 8 #[.agg (ckc X vP vK vG vD)] w fun e w' => e = .returned (.bool (mayF X)) ∧ Below w.heap.size w w' := by
  obtain ⟨rb, hrb⟩ : ∃ rb, mayF X = rb := ⟨_, rfl⟩
  rw [hrb]
  have HRB := Lib.hid hrb
  clear hrb
  have HW := Lib.hid HWx
  obtain ⟨oP, cP, rfl, -, -⟩ := M.P.shape
  obtain ⟨oK, cK, rfl, -, -⟩ := M.K.shape
  obtain ⟨oG, cG, rfl, -, -⟩ := M.G.shape
  obtain ⟨oD, cD, rfl, -, -⟩ := M.D.shape
  have HM := Lib.hid (show ∀ w', Below w.heap.size w w' → CkM w' B X _ _ _ _ from fun w' h => M.below (h.mono hB))
  have HB0 := Lib.hid hB
  clear M hB HWx
  have X0 := Blk.new w 28 (ckc X (.slice oP X.P.length cP) (.slice oK X.K.length cK) (.slice oG X.G.length cG) (.slice oD X.D.length cD))
  have belw0 := (Below.refl w.heap.size w).alloc (Nat.le_refl _) (.cells (ckc X (.slice oP X.P.length cP) (.slice oK X.K.length cK) (.slice oG X.G.length cG) (.slice oD X.D.length cD)) 28)
  unfold ckc at X0 belw0 ⊢
  go_enter Try.func8, Try.ntmps8
  go_upto_region 1 with fail
  obtain ⟨w0, hw0⟩ : ∃ w0, w.alloc (.cells #[.int .i64 X.ty, .int .i64 X.fl, .int .u32 X.tsn, .int .i64 X.st, .int .i64 X.ss, .int .u32 X.pr, .string X.d, .int .u32 X.tg, .int .u32 X.rw, .int .i64 X.ou, .int .i64 X.ii, .slice oP X.P.length cP, .slice oK X.K.length cK, .slice oG X.G.length cG, .slice oD X.D.length cD] 28) = w0 := ⟨_, rfl⟩
  rw [hw0] at X0 belw0
  try rw [hw0]
  clear hw0
  obtain ⟨cb, hcb⟩ : ∃ cb, w.heap.size = cb := ⟨_, rfl⟩
  have hcl := X0.lt
  rw [hcb] at X0 hcl
  try rw [hcb]
  obtain ⟨s1B, hs1B⟩ : ∃ b : Bool, (formedF X) = b := ⟨_, rfl⟩
  obtain ⟨s2B, hs2B⟩ : ∃ b : Bool, (fewF X.G.length X.D.length) = b := ⟨_, rfl⟩
  go_upto_region 1 with fail
  refine wp_region_lit ?_
  refine abs_list _ (fun ac hac => ?_)
  have hsz : ac.tmps.size = 9 := by rw [hac]; rfl
  have f1 : ac.eval (.tmp 1) = .pointer (some ⟨cb, 0, none⟩) := by rw [hac]; rfl
  have HB := Lib.hid hac
  clear hac
  refine list_val (u := .agg #[.int .i64 X.ty, .int .i64 X.fl, .int .u32 X.tsn, .int .i64 X.st, .int .i64 X.ss, .int .u32 X.pr, .string X.d, .int .u32 X.tg, .int .u32 X.rw, .int .i64 X.ou, .int .i64 X.ii, .slice oP X.P.length cP, .slice oK X.K.length cK, .slice oG X.G.length cG, .slice oD X.D.length cD]) rfl rfl (run_load_at (h := cb) (off := 0) (cs := #[.int .i64 X.ty, .int .i64 X.fl, .int .u32 X.tsn, .int .i64 X.st, .int .i64 X.ss, .int .u32 X.pr, .string X.d, .int .u32 X.tg, .int .u32 X.rw, .int .i64 X.ou, .int .i64 X.ii, .slice oP X.P.length cP, .slice oK X.K.length cK, .slice oG X.G.length cG, .slice oD X.D.length cD]) rfl f1 _ Try.underlying28 rfl (by kernel_rfl) (Cel.of_blk X0)) ?_
  refine abs_list _ (fun a1 h1 => ?_)
  have z1 := sp h1 hsz
  replace f1 := kp h1 (by decide) f1
  have f3 := nw h1 hsz (by decide)
  replace h1 := Lib.hid h1
  refine list_call (u := .bool s1B) (R := Below w0.heap.size w0) rfl rfl 21 Try.f21 _ _ rfl Try.func21 (by kernel_rfl) (by kernel_rfl) #[.agg #[.int .i64 X.ty, .int .i64 X.fl, .int .u32 X.tsn, .int .i64 X.st, .int .i64 X.ss, .int .u32 X.pr, .string X.d, .int .u32 X.tg, .int .u32 X.rw, .int .i64 X.ou, .int .i64 X.ii, .slice oP X.P.length cP, .slice oK X.K.length cK, .slice oG X.G.length cG, .slice oD X.D.length cD]] (by rw [show ((#[.tmp 3] : Array Operand).map a1.eval) = #[a1.eval (.tmp 3)] by simp, f3]) (by rw [← hs1B]; exact formed_any HW.out (HM.out _ belw0) (Nat.le_trans HB0.out belw0.size)) (fun u1 hbu1 => ?_)
  have Xu1 := X0.below hbu1 X0.lt
  have belu1 := belw0.trans (hbu1.mono belw0.size)
  clear X0 belw0 hbu1
  refine abs_list _ (fun a2 h2 => ?_)
  have z2 := sp h2 z1
  replace f1 := kp h2 (by decide) f1
  have f4 := nw h2 z1 (by decide)
  clear f3 z1
  replace h2 := Lib.hid h2
  refine list_val (u := .bool s1B) rfl rfl (run_move rfl f4 _) ?_
  refine abs_list _ (fun a3 h3 => ?_)
  have z3 := sp h3 z2
  replace f1 := kp h3 (by decide) f1
  have f5 := nw h3 z2 (by decide)
  clear f4 z2
  replace h3 := Lib.hid h3
  refine list_if (u := .agg #[.int .i64 X.ty, .int .i64 X.fl, .int .u32 X.tsn, .int .i64 X.st, .int .i64 X.ss, .int .u32 X.pr, .string X.d, .int .u32 X.tg, .int .u32 X.rw, .int .i64 X.ou, .int .i64 X.ii, .slice oP X.P.length cP, .slice oK X.K.length cK, .slice oG X.G.length cG, .slice oD X.D.length cD]) (b := s1B) (c := true) (c' := s1B) (dk := 5) rfl (by kernel_rfl) (f5.trans (cv_true _).symm) rfl (by cases s1B <;> rfl) (fun h => run_load_at (h := cb) (off := 0) (cs := #[.int .i64 X.ty, .int .i64 X.fl, .int .u32 X.tsn, .int .i64 X.st, .int .i64 X.ss, .int .u32 X.pr, .string X.d, .int .u32 X.tg, .int .u32 X.rw, .int .i64 X.ou, .int .i64 X.ii, .slice oP X.P.length cP, .slice oK X.K.length cK, .slice oG X.G.length cG, .slice oD X.D.length cD]) rfl f1 _ Try.underlying28 rfl (by kernel_rfl) (Cel.of_blk Xu1)) ?_
  refine abs_list _ (fun a4 h4 => ?_)
  have z4 := sp h4 z3
  replace f1 := kp h4 (by decide) f1
  replace f5 := kp h4 (by decide) f5
  have f6 := nw h4 z3 (by decide)
  clear z3
  replace h4 := Lib.hid h4
  refine list_call_if (u := .bool s2B) (R := Below u1.heap.size u1) (b := s1B) (c := true) (c' := s1B) (dk := 5) rfl (by kernel_rfl) (f5.trans (cv_true _).symm) rfl (by cases s1B <;> rfl) 22 Try.f22 _ _ rfl Try.func22 (by kernel_rfl) (by kernel_rfl) #[.agg #[.int .i64 X.ty, .int .i64 X.fl, .int .u32 X.tsn, .int .i64 X.st, .int .i64 X.ss, .int .u32 X.pr, .string X.d, .int .u32 X.tg, .int .u32 X.rw, .int .i64 X.ou, .int .i64 X.ii, .slice oP X.P.length cP, .slice oK X.K.length cK, .slice oG X.G.length cG, .slice oD X.D.length cD]] (fun h => by rw [show ((#[.tmp 6] : Array Operand).map a4.eval) = #[a4.eval (.tmp 6)] by simp, (f6.trans (cv_of h))]) (fun h => by rw [← hs2B]; exact few_any X oP oK oG oD X.P.length cP X.K.length cK X.G.length cG X.D.length cD u1) (Below.refl _ _) (fun u2 hbu2 => ?_)
  have Xu2 := Xu1.below hbu2 Xu1.lt
  have belu2 := belu1.trans (hbu2.mono belu1.size)
  clear Xu1 belu1 hbu2
  refine abs_list _ (fun a5 h5 => ?_)
  have z5 := sp h5 z4
  replace f1 := kp h5 (by decide) f1
  replace f5 := kp h5 (by decide) f5
  have f7 := nw h5 z4 (by decide)
  clear f6 z4
  replace h5 := Lib.hid h5
  obtain ⟨q1B, hq1B⟩ : ∃ q : Bool, (s1B && s2B) = q := ⟨_, rfl⟩
  refine list_val (u := .bool q1B) rfl rfl (run_pick (b := s1B) rfl f5 (by rw [f7, ← hq1B]; cases s1B <;> cases s2B <;> simp [cv, eval_const])) ?_
  refine abs_list _ (fun a6 h6 => ?_)
  have z6 := sp h6 z5
  replace f1 := kp h6 (by decide) f1
  have f8 := nw h6 z5 (by decide)
  clear f5 f7 z5
  replace h6 := Lib.hid h6
  refine list_val (u := .bool q1B) rfl rfl (run_assign rfl f8 _) ?_
  refine abs_list _ (fun a7 h7 => ?_)
  have z7 := sp h7 z6
  replace f1 := kp h7 (by decide) f1
  have f2 := nw h7 z6 (by decide)
  clear f8 z6
  replace h7 := Lib.hid h7
  refine wpList_nil ?_
  rw [h7.out, h6.out, h5.out, h4.out, h3.out, h2.out, h1.out, HB.out]
  simp only [Act.put, List.setIfInBounds_toArray, List.set_cons_zero, List.set_cons_succ]
  clear f1 f2 z7 HB hsz h1 h2 h3 h4 h5 h6 h7
  have HY := Lib.hid (show rb = q1B by
    rw [← HRB.out]
    unfold mayF
    rw [hs1B, hs2B]
    subst_vars
    rfl)
  clear HW
  go_wp2_with fail
  go_ret
  exact ⟨ret_bool HY.out.symm, belu2⟩
end Go.Proofs.Ytfpcneekbdcbcaa.ck
/- Layer 6: which chunks may be, in words (pure). -/
namespace Go.Proofs.Ytfpcneekbdcbcaa.ck
open Go.ChangeShapes Go.WideShapes Go.ChangeAt Go.RowKit kit oct par chk
set_option maxRecDepth 100000

theorem toList_same (a b : ByteArray) : (a.toList = b.toList) ↔ a = b := by
  refine ⟨fun e => ?_, fun e => by rw [e]⟩
  rw [ByteArray.toList_eq, ByteArray.toList_eq] at e
  exact ByteArray.ext (Array.toList_inj.1 e)
theorem toList_nil (a : ByteArray) : a.toList = [] ↔ a = ByteArray.empty := by
  rw [← toList_same a ByteArray.empty, show ByteArray.empty.toList = [] by rw [ByteArray.toList_eq]; rfl]
/-- Nothing that those of its type have not. -/
def CkZ (X : Ck) (nP nK nG nD : Nat) (k : Int) : Prop :=
  ((k ≠ 0 → k ≠ 1 → k ≠ 3 → k ≠ 7 → k ≠ 16 → X.tsn = 0) ∧ (k ≠ 0 → k ≠ 15 → X.st = 0 ∧ X.ss = 0) ∧ (k ≠ 0 → X.pr = 0) ∧ (k ≠ 0 → k ≠ 4 → k ≠ 10 → k ≠ 15 → k ≠ 20 → X.d = ByteArray.empty)) ∧ ((k ≠ 1 → X.tg = 0 ∧ X.ou = 0 ∧ X.ii = 0) ∧ (k ≠ 1 → k ≠ 3 → X.rw = 0)) ∧ ((k ≠ 1 → k ≠ 16 → nP = 0) ∧ (k ≠ 6 → nK = 0) ∧ (k ≠ 3 → nG = 0 ∧ nD = 0))
set_option maxHeartbeats 4000000 in
theorem has_iff (X : Ck) (nP nK nG nD : Nat) (n : Int) : hasF X nP nK nG nD (kindV n) = false ↔ CkZ X nP nK nG nD (kindV n) := by
  rcases kinds n with h | h | h | h | h | h | h | h | h | h | h <;> rw [h] <;> unfold hasF hasV CkZ <;> simp [← toList_nil] <;> by_cases hd : X.d.toList = [] <;> (try simp [hd]) <;> omega
structure CkOk (X : Ck) : Prop where
  ty : 0 ≤ X.ty ∧ X.ty ≤ 255
  fl : 0 ≤ X.fl ∧ X.fl ≤ flagsV X.ty
  st : 0 ≤ X.st ∧ X.st ≤ 65535
  ss : 0 ≤ X.ss ∧ X.ss ≤ 65535
  ou : 0 ≤ X.ou ∧ X.ou ≤ 65535
  ii : 0 ≤ X.ii ∧ X.ii ≤ 65535
  d : X.d.size ≤ 900
  P : X.P.length ≤ 16
  K : X.K.length ≤ 16
  G : X.G.length ≤ 16
  D : X.D.length ≤ 16
  pm : ∀ p ∈ X.P, mayP p.1 p.2 = true
  km : ∀ p ∈ X.K, mayP p.1 p.2 = true
  ris : (risO X.G).isSome = true
  tg : X.tg ≠ 0 ∨ kindV X.ty ≠ 1
  z : CkZ X X.P.length X.K.length X.G.length X.D.length (kindV X.ty)
theorem no16_iff (n : Int) : no16 n = false ↔ 0 ≤ n ∧ n ≤ 65535 := by
  unfold no16
  rw [decide_eq_false_iff_not]
  omega
theorem may_iff (X : Ck) : mayF X = true ↔ CkOk X := by
  unfold mayF mayCV formedF formedV
  rw [fewF_eq, bare_has]
  simp only [Bool.and_eq_true, Bool.or_eq_true, Bool.not_eq_true', decide_eq_true_eq, bne_iff_ne, ne_eq, List.any_cons, List.any_nil, Bool.or_eq_false_iff, no16_iff, List.all_eq_true, has_iff, flMay, decide_eq_false_iff_not]
  constructor
  · rintro ⟨⟨⟨⟨⟨⟨⟨⟨⟨⟨h1, h2⟩, h3⟩, ⟨s1, s2, s3, s4, -⟩⟩, h5⟩, h6, h6'⟩, h7, h7'⟩, h8⟩, h9⟩, h10⟩, h11, h12⟩
    exact ⟨⟨h1, h2⟩, h3, s1, s2, s3, s4, by omega, h6, h7, h11, h12, h6', h7', h8, h9, h10⟩
  · intro h
    have hd := h.d
    exact ⟨⟨⟨⟨⟨⟨⟨⟨⟨⟨h.ty.1, h.ty.2⟩, h.fl⟩, h.st, h.ss, h.ou, h.ii, trivial⟩, by omega⟩, h.P, h.pm⟩, h.K, h.km⟩, h.ris⟩, h.tg⟩, h.z⟩, h.G, h.D⟩
/-- Gaps that rise lie between 2 and 65535. -/
theorem ris_foldl : ∀ (L : List (Int × Int)) (a : Int), 0 ≤ a → (L.foldl gstep (some a)).isSome = true → ∀ x ∈ L, (2 ≤ x.1 ∧ x.1 ≤ x.2 ∧ x.2 ≤ 65535)
  | [], _, _, _, x, hx => by simp at hx
  | g :: r, a, ha, h, x, hx => by
    rw [List.foldl_cons] at h
    by_cases hb : g.1 < a + 2 ∨ g.2 < g.1 ∨ 65535 < g.2
    · rw [show gstep (some a) g = none from if_pos hb, foldl_none] at h
      simp at h
    · rw [show gstep (some a) g = some g.2 from if_neg hb] at h
      rcases List.mem_cons.1 hx with rfl | hx
      · omega
      · exact ris_foldl r g.2 (by omega) h x hx
theorem CkOk.gap {X : Ck} (h : CkOk X) : ∀ x ∈ X.G, (2 ≤ x.1 ∧ x.1 ≤ x.2 ∧ x.2 ≤ 65535) := ris_foldl X.G 0 (by decide) h.ris
end Go.Proofs.Ytfpcneekbdcbcaa.ck
/- Layer 6: a chunk's bytes in words; rows of parameters and causes to bytes. -/
namespace Go.Proofs.Ytfpcneekbdcbcaa.ck
open Go.ChangeShapes Go.WideShapes Go.ChangeAt Go.RowKit kit oct par chk bld
set_option maxRecDepth 100000

theorem putAll_none (cap : Nat) (w : World) :
    Calls Try.prog 33 #[.slice none 0 cap] w fun e w' => e = .returned (.string (cat [])) ∧ Below w.heap.size w w' := by
  have hS := IsB_string w.heap.size w.heap.size ByteArray.empty _ (Lib.fresh_isBuilder 82 5 w) (by simp)
  have e0 : cat [] = ByteArray.empty := rfl
  rw [e0]
  go_enter Try.func33, Try.ntmps33
  go_wp2_with fail
  refine wp_loop_rounds 1 ?_
  rw [rounds_succ]
  go_wp2_with (go_at_call 61; refine hS.mono ?_; rintro e w2 ⟨rfl, hb2⟩)
  go_ret
  exact ⟨rfl, ((Below.refl _ _).alloc (Nat.le_refl _) _).trans hb2⟩
theorem cputAll_none (cap : Nat) (w : World) :
    Calls Try.prog 36 #[.slice none 0 cap] w fun e w' => e = .returned (.string (cat [])) ∧ Below w.heap.size w w' := by
  have hS := fun w => putAll_nil w
  generalize cat [] = S at *
  go_enter Try.func36, Try.ntmps36
  go_wp2_with fail
  refine wp_loop_rounds 1 ?_
  rw [rounds_succ]
  go_wp2_with (go_at_call 33; refine (hS _).mono ?_; rintro e w2 ⟨rfl, hb2⟩)
  go_ret
  exact ⟨rfl, hb2⟩
/-- A row as BldP has it. -/
theorem Row.rowL {w : World} {B : Nat} {v : Value} {ps : List (Int × ByteArray)} (h : Row w B 2 v ps.length (cellsP ps)) (hB : B ≤ w.heap.size) : (∃ cap, v = .slice none 0 cap ∧ ps = []) ∨ ∃ a cap, v = .slice (some a) ps.length cap ∧ ps.length ≤ cap ∧ cap ≤ maxLen ∧ RowL w a ps := by
  obtain ⟨oa, a, cap, rfl, h2, h3, h4, h5⟩ := h.val
  cases oa with
  | none =>
    have h0 : ps = [] := by
      rcases Nat.eq_zero_or_pos ps.length with q | q
      · exact List.length_eq_zero_iff.1 q
      · exact absurd (h4 q).1 (by simp)
    subst h0
    exact .inl ⟨cap, rfl, rfl⟩
  | some b =>
    refine .inr ⟨b, cap, rfl, h2, h3, fun h0 => ?_, fun ds p qs hp => ?_⟩
    · obtain ⟨e, hb⟩ := h4 h0
      obtain rfl : b = a := by simpa using e
      omega
    · have hl : ps.length = ds.length + 1 + qs.length := by rw [hp]; simp; omega
      obtain ⟨e, hb⟩ := h4 (by omega)
      obtain rfl : b = a := by simpa using e
      obtain ⟨e1, e2⟩ := cellsP_at ds qs p
      rw [← hp] at e1 e2
      have k0 := h5 ds.length 0 (by omega) (by decide)
      have k1 := h5 ds.length 1 (by omega) (by decide)
      exact ⟨by rw [← add_z, k0, Nat.add_zero, e1], by rw [← add_o, k1, e2]⟩
theorem putAll_any {w : World} {B : Nat} {v : Value} {ps : List (Int × ByteArray)} (h : Row w B 2 v ps.length (cellsP ps)) (hB : B ≤ w.heap.size) (hn : ps.length ≤ 16) : Calls Try.prog 33 #[v] w fun e w' => e = .returned (.string (cat ps)) ∧ Below w.heap.size w w' := by
  rcases h.rowL hB with ⟨cap, rfl, rfl⟩ | ⟨a, cap, rfl, h3, h4, h5⟩
  · exact putAll_none cap w
  · exact putAll_row a cap ps w hn h3 h4 h5
theorem cputAll_any {w : World} {B : Nat} {v : Value} {ps : List (Int × ByteArray)} (h : Row w B 2 v ps.length (cellsP ps)) (hB : B ≤ w.heap.size) (hn : ps.length ≤ 16) : Calls Try.prog 36 #[v] w fun e w' => e = .returned (.string (cat ps)) ∧ Below w.heap.size w w' := by
  rcases h.rowL hB with ⟨cap, rfl, rfl⟩ | ⟨a, cap, rfl, h3, h4, h5⟩
  · exact cputAll_none cap w
  · exact cputAll_row a cap ps w hn h3 h4 h5
/-- Gaps' and dups' bytes behind others. -/
def sackG (s : ByteArray) (L : List (Int × Int)) : ByteArray := L.foldl (fun s g => s ++ (p2 g.1 ++ p2 g.2)) s
def sackD (s : ByteArray) (L : List Int) : ByteArray := L.foldl (fun s d => s ++ p4 d) s
def sackF (X : Ck) : ByteArray := sackD (sackG (p4 X.tsn ++ p4 X.rw ++ p2 (X.G.length : Nat) ++ p2 (X.D.length : Nat)) X.G) X.D
theorem sackG_snoc (s : ByteArray) (L : List (Int × Int)) (g : Int × Int) : sackG s (L ++ [g]) = sackG s L ++ (p2 g.1 ++ p2 g.2) := by unfold sackG; rw [List.foldl_append]; rfl
theorem sackD_snoc (s : ByteArray) (L : List Int) (d : Int) : sackD s (L ++ [d]) = sackD s L ++ p4 d := by unfold sackD; rw [List.foldl_append]; rfl
theorem sackG_size : ∀ (L : List (Int × Int)) (s : ByteArray), (sackG s L).size = s.size + 4 * L.length
  | [], s => by simp [sackG]
  | g :: r, s => by
    have := sackG_size r (s ++ (p2 g.1 ++ p2 g.2))
    rw [show sackG s (g :: r) = sackG (s ++ (p2 g.1 ++ p2 g.2)) r from rfl, this]
    simp only [ByteArray.size_append, p2_size, List.length_cons]
    omega
theorem sackD_size : ∀ (L : List Int) (s : ByteArray), (sackD s L).size = s.size + 4 * L.length
  | [], s => by simp [sackD]
  | g :: r, s => by
    have := sackD_size r (s ++ p4 g)
    rw [show sackD s (g :: r) = sackD (s ++ p4 g) r from rfl, this]
    simp only [ByteArray.size_append, p4_size, List.length_cons]
    omega
/-- What a chunk says, as bytes. -/
def bodyF (X : Ck) : ByteArray :=
  if kindV X.ty = 0 then p4 X.tsn ++ p2 X.st ++ p2 X.ss ++ p4 X.pr ++ X.d
  else if kindV X.ty = 1 then p4 X.tg ++ p4 X.rw ++ p2 X.ou ++ p2 X.ii ++ p4 X.tsn ++ cat X.P
  else if kindV X.ty = 3 then sackF X
  else if kindV X.ty = 4 then putP 1 X.d
  else if kindV X.ty = 6 then cat X.K
  else if kindV X.ty = 7 then p4 X.tsn
  else if kindV X.ty = 8 then ByteArray.empty
  else if kindV X.ty = 15 then p2 X.st ++ p2 X.ss ++ X.d
  else if kindV X.ty = 16 then p4 X.tsn ++ cat X.P
  else X.d
def putF (X : Ck) : ByteArray := if mayF X = true then filled (p1 X.ty ++ p1 X.fl ++ p2 ((bodyF X).size + 4 : Nat) ++ bodyF X) else ByteArray.empty
theorem bodyF_le {X : Ck} (h : CkOk X) : (bodyF X).size ≤ 17000 := by
  have hd := h.d
  have hP := h.P
  have hK := h.K
  have hG := h.G
  have hD := h.D
  have c1 := cat_le X.P
  have c2 := cat_le X.K
  have c3 := putP_le 1 X.d
  have c4 := sackD_size X.D (sackG (p4 X.tsn ++ p4 X.rw ++ p2 (X.G.length : Nat) ++ p2 (X.D.length : Nat)) X.G)
  rw [sackG_size] at c4
  unfold bodyF
  (repeat' split) <;> (try unfold sackF) <;> (try simp only [ByteArray.size_append, p2_size, p4_size, ByteArray.size_empty] at c4 ⊢) <;> (try rw [c4]) <;> omega
end Go.Proofs.Ytfpcneekbdcbcaa.ck
/- Layer 6: what a chunk says, as bytes, by the program (gen-ckj.py wrote this). -/
namespace Go.Proofs.Ytfpcneekbdcbcaa.ck
open Go.Sort (grow)
open Go.ChangeShapes Go.WideShapes Go.ChangeAt Go.RowKit kit oct par chk bld
set_option maxRecDepth 100000

theorem ret_str {a b : ByteArray} (h : a = b) : Ending.returned (.string a) = .returned (.string b) := by rw [h]
set_option maxHeartbeats 4000000 in
theorem body_0 {X : Ck} {w : World} {B : Nat} {vP vK vG vD : Value} (HT : X.ty = 0) (H : CkOk X) (HWx : CkW X) (M : CkM w B X vP vK vG vD) (hB : B ≤ w.heap.size) : Calls Try.prog 13 #[.agg (ckc X vP vK vG vD)] w fun e w' => e = .returned (.string (bodyF X)) ∧ Below w.heap.size w w' := by
  obtain ⟨rb, hrb⟩ : ∃ rb, bodyF X = rb := ⟨_, rfl⟩
  rw [hrb]
  have hk : kindV X.ty = 0 := by rw [HT]; rfl
  have e0 : (X.ty == 0) = true := by rw [HT]; rfl
  have e1 : (X.ty == 1) = false := by rw [HT]; rfl
  have e2 : (X.ty == 2) = false := by rw [HT]; rfl
  have e3 : (X.ty == 3) = false := by rw [HT]; rfl
  have e4 : (X.ty == 4) = false := by rw [HT]; rfl
  have e5 : (X.ty == 5) = false := by rw [HT]; rfl
  have e6 : (X.ty == 6) = false := by rw [HT]; rfl
  have e9 : (X.ty == 9) = false := by rw [HT]; rfl
  have e7 : (X.ty == 7) = false := by rw [HT]; rfl
  have e15 : (X.ty == 15) = false := by rw [HT]; rfl
  have e193 : (X.ty == 193) = false := by rw [HT]; rfl
  have e128 : (X.ty == 128) = false := by rw [HT]; rfl
  have e130 : (X.ty == 130) = false := by rw [HT]; rfl
  have HRB := Lib.hid hrb
  clear hrb
  have HW := Lib.hid HWx
  have HO := Lib.hid H
  obtain ⟨oP, cP, rfl, -, -⟩ := M.P.shape
  obtain ⟨oK, cK, rfl, -, -⟩ := M.K.shape
  obtain ⟨oG, cG, rfl, -, -⟩ := M.G.shape
  obtain ⟨oD, cD, rfl, -, -⟩ := M.D.shape
  have HM := Lib.hid (show ∀ w', Below w.heap.size w w' → CkM w' B X _ _ _ _ from fun w' h => M.below (h.mono hB))
  have HB0 := Lib.hid hB
  have HTT := Lib.hid HT
  clear M hB HWx H HT
  have X0 := Blk.new w 28 (ckc X (.slice oP X.P.length cP) (.slice oK X.K.length cK) (.slice oG X.G.length cG) (.slice oD X.D.length cD))
  have belw0 := (Below.refl w.heap.size w).alloc (Nat.le_refl _) (.cells (ckc X (.slice oP X.P.length cP) (.slice oK X.K.length cK) (.slice oG X.G.length cG) (.slice oD X.D.length cD)) 28)
  unfold ckc at X0 belw0 ⊢
  go_enter Try.func13, Try.ntmps13
  go_upto_region 3 with fail
  obtain ⟨w0, hw0⟩ : ∃ w0, w.alloc (.cells #[.int .i64 X.ty, .int .i64 X.fl, .int .u32 X.tsn, .int .i64 X.st, .int .i64 X.ss, .int .u32 X.pr, .string X.d, .int .u32 X.tg, .int .u32 X.rw, .int .i64 X.ou, .int .i64 X.ii, .slice oP X.P.length cP, .slice oK X.K.length cK, .slice oG X.G.length cG, .slice oD X.D.length cD] 28) = w0 := ⟨_, rfl⟩
  rw [hw0] at X0 belw0
  try rw [hw0]
  clear hw0
  obtain ⟨cb, hcb⟩ : ∃ cb, w.heap.size = cb := ⟨_, rfl⟩
  have hcl := X0.lt
  rw [hcb] at X0 hcl
  try rw [hcb]
  have upr := fun w => u32_p X.pr w HW.out.pr.1 HW.out.pr.2
  have uss := fun w => u16_p X.ss w HO.out.ss.1 (by have := HO.out.ss.2; omega)
  have ust := fun w => u16_p X.st w HO.out.st.1 (by have := HO.out.st.2; omega)
  have utsn := fun w => u32_p X.tsn w HW.out.tsn.1 HW.out.tsn.2
  have zpr : (p4 X.pr).size ≤ 4 := by rw [p4_size]; omega
  have zss : (p2 X.ss).size ≤ 2 := by rw [p2_size]; omega
  have zst : (p2 X.st).size ≤ 2 := by rw [p2_size]; omega
  have ztsn : (p4 X.tsn).size ≤ 4 := by rw [p4_size]; omega
  have zd : X.d.size ≤ 900 := HO.out.d
  have k2 := cell_regrown (X0.cell 2)
  have k3 := cell_regrown (X0.cell 3)
  have k4 := cell_regrown (X0.cell 4)
  have k5 := cell_regrown (X0.cell 5)
  have k6 := cell_regrown (X0.cell 6)
  clear X0
  refine wp_region_quiet_below (by kernel_rfl) (by kernel_rfl) ?_
  repeat (any_goals (first | go_big_quiet_step ((first | (go_at_call 16; first | (with_reducible exact Calls.regrown_of (ust _)) | (with_reducible exact Calls.regrown_of (uss _))) | (go_at_call 32; first | (with_reducible exact Calls.regrown_of (utsn _)) | (with_reducible exact Calls.regrown_of (upr _))))) | quiet_step ((first | (go_at_call 16; first | (with_reducible exact Calls.regrown_of (ust _)) | (with_reducible exact Calls.regrown_of (uss _))) | (go_at_call 32; first | (with_reducible exact Calls.regrown_of (utsn _)) | (with_reducible exact Calls.regrown_of (upr _)))))))
  refine wpQuiet_nil ?_
  intro _ hw'
  obtain ⟨⟨dq, osq⟩, hw''⟩ := hw'
  subst hw''
  go_wp2
  go_ret
  exact ⟨ret_str (by rw [← HRB.out]; unfold bodyF; rw [hk]; rfl), belw0.trans ((below_regrown _ dq osq).mono belw0.size)⟩
set_option maxHeartbeats 4000000 in
theorem body_1 {X : Ck} {w : World} {B : Nat} {vP vK vG vD : Value} (HT : X.ty = 1) (H : CkOk X) (HWx : CkW X) (M : CkM w B X vP vK vG vD) (hB : B ≤ w.heap.size) : Calls Try.prog 13 #[.agg (ckc X vP vK vG vD)] w fun e w' => e = .returned (.string (bodyF X)) ∧ Below w.heap.size w w' := by
  obtain ⟨rb, hrb⟩ : ∃ rb, bodyF X = rb := ⟨_, rfl⟩
  rw [hrb]
  have hk : kindV X.ty = 1 := by rw [HT]; rfl
  have e0 : (X.ty == 0) = false := by rw [HT]; rfl
  have e1 : (X.ty == 1) = true := by rw [HT]; rfl
  have e2 : (X.ty == 2) = false := by rw [HT]; rfl
  have e3 : (X.ty == 3) = false := by rw [HT]; rfl
  have e4 : (X.ty == 4) = false := by rw [HT]; rfl
  have e5 : (X.ty == 5) = false := by rw [HT]; rfl
  have e6 : (X.ty == 6) = false := by rw [HT]; rfl
  have e9 : (X.ty == 9) = false := by rw [HT]; rfl
  have e7 : (X.ty == 7) = false := by rw [HT]; rfl
  have e15 : (X.ty == 15) = false := by rw [HT]; rfl
  have e193 : (X.ty == 193) = false := by rw [HT]; rfl
  have e128 : (X.ty == 128) = false := by rw [HT]; rfl
  have e130 : (X.ty == 130) = false := by rw [HT]; rfl
  have HRB := Lib.hid hrb
  clear hrb
  have HW := Lib.hid HWx
  have HO := Lib.hid H
  obtain ⟨oP, cP, rfl, -, -⟩ := M.P.shape
  obtain ⟨oK, cK, rfl, -, -⟩ := M.K.shape
  obtain ⟨oG, cG, rfl, -, -⟩ := M.G.shape
  obtain ⟨oD, cD, rfl, -, -⟩ := M.D.shape
  have HM := Lib.hid (show ∀ w', Below w.heap.size w w' → CkM w' B X _ _ _ _ from fun w' h => M.below (h.mono hB))
  have HB0 := Lib.hid hB
  have HTT := Lib.hid HT
  clear M hB HWx H HT
  have X0 := Blk.new w 28 (ckc X (.slice oP X.P.length cP) (.slice oK X.K.length cK) (.slice oG X.G.length cG) (.slice oD X.D.length cD))
  have belw0 := (Below.refl w.heap.size w).alloc (Nat.le_refl _) (.cells (ckc X (.slice oP X.P.length cP) (.slice oK X.K.length cK) (.slice oG X.G.length cG) (.slice oD X.D.length cD)) 28)
  unfold ckc at X0 belw0 ⊢
  go_enter Try.func13, Try.ntmps13
  go_upto_region 6 with fail
  obtain ⟨w0, hw0⟩ : ∃ w0, w.alloc (.cells #[.int .i64 X.ty, .int .i64 X.fl, .int .u32 X.tsn, .int .i64 X.st, .int .i64 X.ss, .int .u32 X.pr, .string X.d, .int .u32 X.tg, .int .u32 X.rw, .int .i64 X.ou, .int .i64 X.ii, .slice oP X.P.length cP, .slice oK X.K.length cK, .slice oG X.G.length cG, .slice oD X.D.length cD] 28) = w0 := ⟨_, rfl⟩
  rw [hw0] at X0 belw0
  try rw [hw0]
  clear hw0
  obtain ⟨cb, hcb⟩ : ∃ cb, w.heap.size = cb := ⟨_, rfl⟩
  have hcl := X0.lt
  rw [hcb] at X0 hcl
  try rw [hcb]
  have uii := fun w => u16_p X.ii w HO.out.ii.1 (by have := HO.out.ii.2; omega)
  have uou := fun w => u16_p X.ou w HO.out.ou.1 (by have := HO.out.ou.2; omega)
  have urw := fun w => u32_p X.rw w HW.out.rw.1 HW.out.rw.2
  have utg := fun w => u32_p X.tg w HW.out.tg.1 HW.out.tg.2
  have utsn := fun w => u32_p X.tsn w HW.out.tsn.1 HW.out.tsn.2
  have zii : (p2 X.ii).size ≤ 2 := by rw [p2_size]; omega
  have zou : (p2 X.ou).size ≤ 2 := by rw [p2_size]; omega
  have zrw : (p4 X.rw).size ≤ 4 := by rw [p4_size]; omega
  have ztg : (p4 X.tg).size ≤ 4 := by rw [p4_size]; omega
  have ztsn : (p4 X.tsn).size ≤ 4 := by rw [p4_size]; omega
  have zP : (cat X.P).size ≤ 16128 := by have := cat_le X.P; have := HO.out.P; omega
  have hPA := fun d os => putAll_any (HM.out _ (belw0.trans ((below_regrown w0 d os).mono belw0.size))).P (Nat.le_trans HB0.out (belw0.trans ((below_regrown w0 d os).mono belw0.size)).size) HO.out.P
  have k7 := cell_regrown (X0.cell 7)
  have k8 := cell_regrown (X0.cell 8)
  have k9 := cell_regrown (X0.cell 9)
  have k10 := cell_regrown (X0.cell 10)
  have k2 := cell_regrown (X0.cell 2)
  have k11 := cell_regrown (X0.cell 11)
  clear X0
  refine wp_region_quiet_below (by kernel_rfl) (by kernel_rfl) ?_
  repeat (any_goals (first | go_big_quiet_step ((first | (go_at_call 16; first | (with_reducible exact Calls.regrown_of (uou _)) | (with_reducible exact Calls.regrown_of (uii _))) | (go_at_call 32; first | (with_reducible exact Calls.regrown_of (utg _)) | (with_reducible exact Calls.regrown_of (urw _)) | (with_reducible exact Calls.regrown_of (utsn _))) | (go_at_call 33; exact Calls.regrown_of (hPA _ _)))) | quiet_step ((first | (go_at_call 16; first | (with_reducible exact Calls.regrown_of (uou _)) | (with_reducible exact Calls.regrown_of (uii _))) | (go_at_call 32; first | (with_reducible exact Calls.regrown_of (utg _)) | (with_reducible exact Calls.regrown_of (urw _)) | (with_reducible exact Calls.regrown_of (utsn _))) | (go_at_call 33; exact Calls.regrown_of (hPA _ _))))))
  refine wpQuiet_nil ?_
  intro _ hw'
  obtain ⟨⟨dq, osq⟩, hw''⟩ := hw'
  subst hw''
  go_wp2
  go_ret
  exact ⟨ret_str (by rw [← HRB.out]; unfold bodyF; rw [hk]; rfl), belw0.trans ((below_regrown _ dq osq).mono belw0.size)⟩
set_option maxHeartbeats 4000000 in
theorem body_2 {X : Ck} {w : World} {B : Nat} {vP vK vG vD : Value} (HT : X.ty = 2) (H : CkOk X) (HWx : CkW X) (M : CkM w B X vP vK vG vD) (hB : B ≤ w.heap.size) : Calls Try.prog 13 #[.agg (ckc X vP vK vG vD)] w fun e w' => e = .returned (.string (bodyF X)) ∧ Below w.heap.size w w' := by
  obtain ⟨rb, hrb⟩ : ∃ rb, bodyF X = rb := ⟨_, rfl⟩
  rw [hrb]
  have hk : kindV X.ty = 1 := by rw [HT]; rfl
  have e0 : (X.ty == 0) = false := by rw [HT]; rfl
  have e1 : (X.ty == 1) = false := by rw [HT]; rfl
  have e2 : (X.ty == 2) = true := by rw [HT]; rfl
  have e3 : (X.ty == 3) = false := by rw [HT]; rfl
  have e4 : (X.ty == 4) = false := by rw [HT]; rfl
  have e5 : (X.ty == 5) = false := by rw [HT]; rfl
  have e6 : (X.ty == 6) = false := by rw [HT]; rfl
  have e9 : (X.ty == 9) = false := by rw [HT]; rfl
  have e7 : (X.ty == 7) = false := by rw [HT]; rfl
  have e15 : (X.ty == 15) = false := by rw [HT]; rfl
  have e193 : (X.ty == 193) = false := by rw [HT]; rfl
  have e128 : (X.ty == 128) = false := by rw [HT]; rfl
  have e130 : (X.ty == 130) = false := by rw [HT]; rfl
  have HRB := Lib.hid hrb
  clear hrb
  have HW := Lib.hid HWx
  have HO := Lib.hid H
  obtain ⟨oP, cP, rfl, -, -⟩ := M.P.shape
  obtain ⟨oK, cK, rfl, -, -⟩ := M.K.shape
  obtain ⟨oG, cG, rfl, -, -⟩ := M.G.shape
  obtain ⟨oD, cD, rfl, -, -⟩ := M.D.shape
  have HM := Lib.hid (show ∀ w', Below w.heap.size w w' → CkM w' B X _ _ _ _ from fun w' h => M.below (h.mono hB))
  have HB0 := Lib.hid hB
  have HTT := Lib.hid HT
  clear M hB HWx H HT
  have X0 := Blk.new w 28 (ckc X (.slice oP X.P.length cP) (.slice oK X.K.length cK) (.slice oG X.G.length cG) (.slice oD X.D.length cD))
  have belw0 := (Below.refl w.heap.size w).alloc (Nat.le_refl _) (.cells (ckc X (.slice oP X.P.length cP) (.slice oK X.K.length cK) (.slice oG X.G.length cG) (.slice oD X.D.length cD)) 28)
  unfold ckc at X0 belw0 ⊢
  go_enter Try.func13, Try.ntmps13
  go_upto_region 6 with fail
  obtain ⟨w0, hw0⟩ : ∃ w0, w.alloc (.cells #[.int .i64 X.ty, .int .i64 X.fl, .int .u32 X.tsn, .int .i64 X.st, .int .i64 X.ss, .int .u32 X.pr, .string X.d, .int .u32 X.tg, .int .u32 X.rw, .int .i64 X.ou, .int .i64 X.ii, .slice oP X.P.length cP, .slice oK X.K.length cK, .slice oG X.G.length cG, .slice oD X.D.length cD] 28) = w0 := ⟨_, rfl⟩
  rw [hw0] at X0 belw0
  try rw [hw0]
  clear hw0
  obtain ⟨cb, hcb⟩ : ∃ cb, w.heap.size = cb := ⟨_, rfl⟩
  have hcl := X0.lt
  rw [hcb] at X0 hcl
  try rw [hcb]
  have uii := fun w => u16_p X.ii w HO.out.ii.1 (by have := HO.out.ii.2; omega)
  have uou := fun w => u16_p X.ou w HO.out.ou.1 (by have := HO.out.ou.2; omega)
  have urw := fun w => u32_p X.rw w HW.out.rw.1 HW.out.rw.2
  have utg := fun w => u32_p X.tg w HW.out.tg.1 HW.out.tg.2
  have utsn := fun w => u32_p X.tsn w HW.out.tsn.1 HW.out.tsn.2
  have zii : (p2 X.ii).size ≤ 2 := by rw [p2_size]; omega
  have zou : (p2 X.ou).size ≤ 2 := by rw [p2_size]; omega
  have zrw : (p4 X.rw).size ≤ 4 := by rw [p4_size]; omega
  have ztg : (p4 X.tg).size ≤ 4 := by rw [p4_size]; omega
  have ztsn : (p4 X.tsn).size ≤ 4 := by rw [p4_size]; omega
  have zP : (cat X.P).size ≤ 16128 := by have := cat_le X.P; have := HO.out.P; omega
  have hPA := fun d os => putAll_any (HM.out _ (belw0.trans ((below_regrown w0 d os).mono belw0.size))).P (Nat.le_trans HB0.out (belw0.trans ((below_regrown w0 d os).mono belw0.size)).size) HO.out.P
  have k7 := cell_regrown (X0.cell 7)
  have k8 := cell_regrown (X0.cell 8)
  have k9 := cell_regrown (X0.cell 9)
  have k10 := cell_regrown (X0.cell 10)
  have k2 := cell_regrown (X0.cell 2)
  have k11 := cell_regrown (X0.cell 11)
  clear X0
  refine wp_region_quiet_below (by kernel_rfl) (by kernel_rfl) ?_
  repeat (any_goals (first | go_big_quiet_step ((first | (go_at_call 16; first | (with_reducible exact Calls.regrown_of (uou _)) | (with_reducible exact Calls.regrown_of (uii _))) | (go_at_call 32; first | (with_reducible exact Calls.regrown_of (utg _)) | (with_reducible exact Calls.regrown_of (urw _)) | (with_reducible exact Calls.regrown_of (utsn _))) | (go_at_call 33; exact Calls.regrown_of (hPA _ _)))) | quiet_step ((first | (go_at_call 16; first | (with_reducible exact Calls.regrown_of (uou _)) | (with_reducible exact Calls.regrown_of (uii _))) | (go_at_call 32; first | (with_reducible exact Calls.regrown_of (utg _)) | (with_reducible exact Calls.regrown_of (urw _)) | (with_reducible exact Calls.regrown_of (utsn _))) | (go_at_call 33; exact Calls.regrown_of (hPA _ _))))))
  refine wpQuiet_nil ?_
  intro _ hw'
  obtain ⟨⟨dq, osq⟩, hw''⟩ := hw'
  subst hw''
  go_wp2
  go_ret
  exact ⟨ret_str (by rw [← HRB.out]; unfold bodyF; rw [hk]; rfl), belw0.trans ((below_regrown _ dq osq).mono belw0.size)⟩
set_option maxHeartbeats 4000000 in
theorem body_15 {X : Ck} {w : World} {B : Nat} {vP vK vG vD : Value} (HT : X.ty = 15) (H : CkOk X) (HWx : CkW X) (M : CkM w B X vP vK vG vD) (hB : B ≤ w.heap.size) : Calls Try.prog 13 #[.agg (ckc X vP vK vG vD)] w fun e w' => e = .returned (.string (bodyF X)) ∧ Below w.heap.size w w' := by
  obtain ⟨rb, hrb⟩ : ∃ rb, bodyF X = rb := ⟨_, rfl⟩
  rw [hrb]
  have hk : kindV X.ty = 15 := by rw [HT]; rfl
  have e0 : (X.ty == 0) = false := by rw [HT]; rfl
  have e1 : (X.ty == 1) = false := by rw [HT]; rfl
  have e2 : (X.ty == 2) = false := by rw [HT]; rfl
  have e3 : (X.ty == 3) = false := by rw [HT]; rfl
  have e4 : (X.ty == 4) = false := by rw [HT]; rfl
  have e5 : (X.ty == 5) = false := by rw [HT]; rfl
  have e6 : (X.ty == 6) = false := by rw [HT]; rfl
  have e9 : (X.ty == 9) = false := by rw [HT]; rfl
  have e7 : (X.ty == 7) = false := by rw [HT]; rfl
  have e15 : (X.ty == 15) = true := by rw [HT]; rfl
  have e193 : (X.ty == 193) = false := by rw [HT]; rfl
  have e128 : (X.ty == 128) = false := by rw [HT]; rfl
  have e130 : (X.ty == 130) = false := by rw [HT]; rfl
  have HRB := Lib.hid hrb
  clear hrb
  have HW := Lib.hid HWx
  have HO := Lib.hid H
  obtain ⟨oP, cP, rfl, -, -⟩ := M.P.shape
  obtain ⟨oK, cK, rfl, -, -⟩ := M.K.shape
  obtain ⟨oG, cG, rfl, -, -⟩ := M.G.shape
  obtain ⟨oD, cD, rfl, -, -⟩ := M.D.shape
  have HM := Lib.hid (show ∀ w', Below w.heap.size w w' → CkM w' B X _ _ _ _ from fun w' h => M.below (h.mono hB))
  have HB0 := Lib.hid hB
  have HTT := Lib.hid HT
  clear M hB HWx H HT
  have X0 := Blk.new w 28 (ckc X (.slice oP X.P.length cP) (.slice oK X.K.length cK) (.slice oG X.G.length cG) (.slice oD X.D.length cD))
  have belw0 := (Below.refl w.heap.size w).alloc (Nat.le_refl _) (.cells (ckc X (.slice oP X.P.length cP) (.slice oK X.K.length cK) (.slice oG X.G.length cG) (.slice oD X.D.length cD)) 28)
  unfold ckc at X0 belw0 ⊢
  go_enter Try.func13, Try.ntmps13
  go_upto_region 18 with fail
  obtain ⟨w0, hw0⟩ : ∃ w0, w.alloc (.cells #[.int .i64 X.ty, .int .i64 X.fl, .int .u32 X.tsn, .int .i64 X.st, .int .i64 X.ss, .int .u32 X.pr, .string X.d, .int .u32 X.tg, .int .u32 X.rw, .int .i64 X.ou, .int .i64 X.ii, .slice oP X.P.length cP, .slice oK X.K.length cK, .slice oG X.G.length cG, .slice oD X.D.length cD] 28) = w0 := ⟨_, rfl⟩
  rw [hw0] at X0 belw0
  try rw [hw0]
  clear hw0
  obtain ⟨cb, hcb⟩ : ∃ cb, w.heap.size = cb := ⟨_, rfl⟩
  have hcl := X0.lt
  rw [hcb] at X0 hcl
  try rw [hcb]
  have uss := fun w => u16_p X.ss w HO.out.ss.1 (by have := HO.out.ss.2; omega)
  have ust := fun w => u16_p X.st w HO.out.st.1 (by have := HO.out.st.2; omega)
  have zss : (p2 X.ss).size ≤ 2 := by rw [p2_size]; omega
  have zst : (p2 X.st).size ≤ 2 := by rw [p2_size]; omega
  have zd : X.d.size ≤ 900 := HO.out.d
  have k3 := cell_regrown (X0.cell 3)
  have k4 := cell_regrown (X0.cell 4)
  have k6 := cell_regrown (X0.cell 6)
  clear X0
  refine wp_region_quiet_below (by kernel_rfl) (by kernel_rfl) ?_
  repeat (any_goals (first | go_big_quiet_step ((first | (go_at_call 16; first | (with_reducible exact Calls.regrown_of (ust _)) | (with_reducible exact Calls.regrown_of (uss _))))) | quiet_step ((first | (go_at_call 16; first | (with_reducible exact Calls.regrown_of (ust _)) | (with_reducible exact Calls.regrown_of (uss _)))))))
  refine wpQuiet_nil ?_
  intro _ hw'
  obtain ⟨⟨dq, osq⟩, hw''⟩ := hw'
  subst hw''
  go_wp2
  go_ret
  exact ⟨ret_str (by rw [← HRB.out]; unfold bodyF; rw [hk]; rfl), belw0.trans ((below_regrown _ dq osq).mono belw0.size)⟩
set_option maxHeartbeats 4000000 in
theorem body_193 {X : Ck} {w : World} {B : Nat} {vP vK vG vD : Value} (HT : X.ty = 193) (H : CkOk X) (HWx : CkW X) (M : CkM w B X vP vK vG vD) (hB : B ≤ w.heap.size) : Calls Try.prog 13 #[.agg (ckc X vP vK vG vD)] w fun e w' => e = .returned (.string (bodyF X)) ∧ Below w.heap.size w w' := by
  obtain ⟨rb, hrb⟩ : ∃ rb, bodyF X = rb := ⟨_, rfl⟩
  rw [hrb]
  have hk : kindV X.ty = 16 := by rw [HT]; rfl
  have e0 : (X.ty == 0) = false := by rw [HT]; rfl
  have e1 : (X.ty == 1) = false := by rw [HT]; rfl
  have e2 : (X.ty == 2) = false := by rw [HT]; rfl
  have e3 : (X.ty == 3) = false := by rw [HT]; rfl
  have e4 : (X.ty == 4) = false := by rw [HT]; rfl
  have e5 : (X.ty == 5) = false := by rw [HT]; rfl
  have e6 : (X.ty == 6) = false := by rw [HT]; rfl
  have e9 : (X.ty == 9) = false := by rw [HT]; rfl
  have e7 : (X.ty == 7) = false := by rw [HT]; rfl
  have e15 : (X.ty == 15) = false := by rw [HT]; rfl
  have e193 : (X.ty == 193) = true := by rw [HT]; rfl
  have e128 : (X.ty == 128) = false := by rw [HT]; rfl
  have e130 : (X.ty == 130) = false := by rw [HT]; rfl
  have HRB := Lib.hid hrb
  clear hrb
  have HW := Lib.hid HWx
  have HO := Lib.hid H
  obtain ⟨oP, cP, rfl, -, -⟩ := M.P.shape
  obtain ⟨oK, cK, rfl, -, -⟩ := M.K.shape
  obtain ⟨oG, cG, rfl, -, -⟩ := M.G.shape
  obtain ⟨oD, cD, rfl, -, -⟩ := M.D.shape
  have HM := Lib.hid (show ∀ w', Below w.heap.size w w' → CkM w' B X _ _ _ _ from fun w' h => M.below (h.mono hB))
  have HB0 := Lib.hid hB
  have HTT := Lib.hid HT
  clear M hB HWx H HT
  have X0 := Blk.new w 28 (ckc X (.slice oP X.P.length cP) (.slice oK X.K.length cK) (.slice oG X.G.length cG) (.slice oD X.D.length cD))
  have belw0 := (Below.refl w.heap.size w).alloc (Nat.le_refl _) (.cells (ckc X (.slice oP X.P.length cP) (.slice oK X.K.length cK) (.slice oG X.G.length cG) (.slice oD X.D.length cD)) 28)
  unfold ckc at X0 belw0 ⊢
  go_enter Try.func13, Try.ntmps13
  go_upto_region 22 with fail
  obtain ⟨w0, hw0⟩ : ∃ w0, w.alloc (.cells #[.int .i64 X.ty, .int .i64 X.fl, .int .u32 X.tsn, .int .i64 X.st, .int .i64 X.ss, .int .u32 X.pr, .string X.d, .int .u32 X.tg, .int .u32 X.rw, .int .i64 X.ou, .int .i64 X.ii, .slice oP X.P.length cP, .slice oK X.K.length cK, .slice oG X.G.length cG, .slice oD X.D.length cD] 28) = w0 := ⟨_, rfl⟩
  rw [hw0] at X0 belw0
  try rw [hw0]
  clear hw0
  obtain ⟨cb, hcb⟩ : ∃ cb, w.heap.size = cb := ⟨_, rfl⟩
  have hcl := X0.lt
  rw [hcb] at X0 hcl
  try rw [hcb]
  have utsn := fun w => u32_p X.tsn w HW.out.tsn.1 HW.out.tsn.2
  have ztsn : (p4 X.tsn).size ≤ 4 := by rw [p4_size]; omega
  have zP : (cat X.P).size ≤ 16128 := by have := cat_le X.P; have := HO.out.P; omega
  have hPA := fun d os => putAll_any (HM.out _ (belw0.trans ((below_regrown w0 d os).mono belw0.size))).P (Nat.le_trans HB0.out (belw0.trans ((below_regrown w0 d os).mono belw0.size)).size) HO.out.P
  have k2 := cell_regrown (X0.cell 2)
  have k11 := cell_regrown (X0.cell 11)
  clear X0
  refine wp_region_quiet_below (by kernel_rfl) (by kernel_rfl) ?_
  repeat (any_goals (first | go_big_quiet_step ((first | (go_at_call 32; first | (with_reducible exact Calls.regrown_of (utsn _))) | (go_at_call 33; exact Calls.regrown_of (hPA _ _)))) | quiet_step ((first | (go_at_call 32; first | (with_reducible exact Calls.regrown_of (utsn _))) | (go_at_call 33; exact Calls.regrown_of (hPA _ _))))))
  refine wpQuiet_nil ?_
  intro _ hw'
  obtain ⟨⟨dq, osq⟩, hw''⟩ := hw'
  subst hw''
  go_wp2
  go_ret
  exact ⟨ret_str (by rw [← HRB.out]; unfold bodyF; rw [hk]; rfl), belw0.trans ((below_regrown _ dq osq).mono belw0.size)⟩
set_option maxHeartbeats 4000000 in
theorem body_128 {X : Ck} {w : World} {B : Nat} {vP vK vG vD : Value} (HT : X.ty = 128) (H : CkOk X) (HWx : CkW X) (M : CkM w B X vP vK vG vD) (hB : B ≤ w.heap.size) : Calls Try.prog 13 #[.agg (ckc X vP vK vG vD)] w fun e w' => e = .returned (.string (bodyF X)) ∧ Below w.heap.size w w' := by
  obtain ⟨rb, hrb⟩ : ∃ rb, bodyF X = rb := ⟨_, rfl⟩
  rw [hrb]
  have hk : kindV X.ty = 16 := by rw [HT]; rfl
  have e0 : (X.ty == 0) = false := by rw [HT]; rfl
  have e1 : (X.ty == 1) = false := by rw [HT]; rfl
  have e2 : (X.ty == 2) = false := by rw [HT]; rfl
  have e3 : (X.ty == 3) = false := by rw [HT]; rfl
  have e4 : (X.ty == 4) = false := by rw [HT]; rfl
  have e5 : (X.ty == 5) = false := by rw [HT]; rfl
  have e6 : (X.ty == 6) = false := by rw [HT]; rfl
  have e9 : (X.ty == 9) = false := by rw [HT]; rfl
  have e7 : (X.ty == 7) = false := by rw [HT]; rfl
  have e15 : (X.ty == 15) = false := by rw [HT]; rfl
  have e193 : (X.ty == 193) = false := by rw [HT]; rfl
  have e128 : (X.ty == 128) = true := by rw [HT]; rfl
  have e130 : (X.ty == 130) = false := by rw [HT]; rfl
  have HRB := Lib.hid hrb
  clear hrb
  have HW := Lib.hid HWx
  have HO := Lib.hid H
  obtain ⟨oP, cP, rfl, -, -⟩ := M.P.shape
  obtain ⟨oK, cK, rfl, -, -⟩ := M.K.shape
  obtain ⟨oG, cG, rfl, -, -⟩ := M.G.shape
  obtain ⟨oD, cD, rfl, -, -⟩ := M.D.shape
  have HM := Lib.hid (show ∀ w', Below w.heap.size w w' → CkM w' B X _ _ _ _ from fun w' h => M.below (h.mono hB))
  have HB0 := Lib.hid hB
  have HTT := Lib.hid HT
  clear M hB HWx H HT
  have X0 := Blk.new w 28 (ckc X (.slice oP X.P.length cP) (.slice oK X.K.length cK) (.slice oG X.G.length cG) (.slice oD X.D.length cD))
  have belw0 := (Below.refl w.heap.size w).alloc (Nat.le_refl _) (.cells (ckc X (.slice oP X.P.length cP) (.slice oK X.K.length cK) (.slice oG X.G.length cG) (.slice oD X.D.length cD)) 28)
  unfold ckc at X0 belw0 ⊢
  go_enter Try.func13, Try.ntmps13
  go_upto_region 22 with fail
  obtain ⟨w0, hw0⟩ : ∃ w0, w.alloc (.cells #[.int .i64 X.ty, .int .i64 X.fl, .int .u32 X.tsn, .int .i64 X.st, .int .i64 X.ss, .int .u32 X.pr, .string X.d, .int .u32 X.tg, .int .u32 X.rw, .int .i64 X.ou, .int .i64 X.ii, .slice oP X.P.length cP, .slice oK X.K.length cK, .slice oG X.G.length cG, .slice oD X.D.length cD] 28) = w0 := ⟨_, rfl⟩
  rw [hw0] at X0 belw0
  try rw [hw0]
  clear hw0
  obtain ⟨cb, hcb⟩ : ∃ cb, w.heap.size = cb := ⟨_, rfl⟩
  have hcl := X0.lt
  rw [hcb] at X0 hcl
  try rw [hcb]
  have utsn := fun w => u32_p X.tsn w HW.out.tsn.1 HW.out.tsn.2
  have ztsn : (p4 X.tsn).size ≤ 4 := by rw [p4_size]; omega
  have zP : (cat X.P).size ≤ 16128 := by have := cat_le X.P; have := HO.out.P; omega
  have hPA := fun d os => putAll_any (HM.out _ (belw0.trans ((below_regrown w0 d os).mono belw0.size))).P (Nat.le_trans HB0.out (belw0.trans ((below_regrown w0 d os).mono belw0.size)).size) HO.out.P
  have k2 := cell_regrown (X0.cell 2)
  have k11 := cell_regrown (X0.cell 11)
  clear X0
  refine wp_region_quiet_below (by kernel_rfl) (by kernel_rfl) ?_
  repeat (any_goals (first | go_big_quiet_step ((first | (go_at_call 32; first | (with_reducible exact Calls.regrown_of (utsn _))) | (go_at_call 33; exact Calls.regrown_of (hPA _ _)))) | quiet_step ((first | (go_at_call 32; first | (with_reducible exact Calls.regrown_of (utsn _))) | (go_at_call 33; exact Calls.regrown_of (hPA _ _))))))
  refine wpQuiet_nil ?_
  intro _ hw'
  obtain ⟨⟨dq, osq⟩, hw''⟩ := hw'
  subst hw''
  go_wp2
  go_ret
  exact ⟨ret_str (by rw [← HRB.out]; unfold bodyF; rw [hk]; rfl), belw0.trans ((below_regrown _ dq osq).mono belw0.size)⟩
set_option maxHeartbeats 4000000 in
theorem body_130 {X : Ck} {w : World} {B : Nat} {vP vK vG vD : Value} (HT : X.ty = 130) (H : CkOk X) (HWx : CkW X) (M : CkM w B X vP vK vG vD) (hB : B ≤ w.heap.size) : Calls Try.prog 13 #[.agg (ckc X vP vK vG vD)] w fun e w' => e = .returned (.string (bodyF X)) ∧ Below w.heap.size w w' := by
  obtain ⟨rb, hrb⟩ : ∃ rb, bodyF X = rb := ⟨_, rfl⟩
  rw [hrb]
  have hk : kindV X.ty = 16 := by rw [HT]; rfl
  have e0 : (X.ty == 0) = false := by rw [HT]; rfl
  have e1 : (X.ty == 1) = false := by rw [HT]; rfl
  have e2 : (X.ty == 2) = false := by rw [HT]; rfl
  have e3 : (X.ty == 3) = false := by rw [HT]; rfl
  have e4 : (X.ty == 4) = false := by rw [HT]; rfl
  have e5 : (X.ty == 5) = false := by rw [HT]; rfl
  have e6 : (X.ty == 6) = false := by rw [HT]; rfl
  have e9 : (X.ty == 9) = false := by rw [HT]; rfl
  have e7 : (X.ty == 7) = false := by rw [HT]; rfl
  have e15 : (X.ty == 15) = false := by rw [HT]; rfl
  have e193 : (X.ty == 193) = false := by rw [HT]; rfl
  have e128 : (X.ty == 128) = false := by rw [HT]; rfl
  have e130 : (X.ty == 130) = true := by rw [HT]; rfl
  have HRB := Lib.hid hrb
  clear hrb
  have HW := Lib.hid HWx
  have HO := Lib.hid H
  obtain ⟨oP, cP, rfl, -, -⟩ := M.P.shape
  obtain ⟨oK, cK, rfl, -, -⟩ := M.K.shape
  obtain ⟨oG, cG, rfl, -, -⟩ := M.G.shape
  obtain ⟨oD, cD, rfl, -, -⟩ := M.D.shape
  have HM := Lib.hid (show ∀ w', Below w.heap.size w w' → CkM w' B X _ _ _ _ from fun w' h => M.below (h.mono hB))
  have HB0 := Lib.hid hB
  have HTT := Lib.hid HT
  clear M hB HWx H HT
  have X0 := Blk.new w 28 (ckc X (.slice oP X.P.length cP) (.slice oK X.K.length cK) (.slice oG X.G.length cG) (.slice oD X.D.length cD))
  have belw0 := (Below.refl w.heap.size w).alloc (Nat.le_refl _) (.cells (ckc X (.slice oP X.P.length cP) (.slice oK X.K.length cK) (.slice oG X.G.length cG) (.slice oD X.D.length cD)) 28)
  unfold ckc at X0 belw0 ⊢
  go_enter Try.func13, Try.ntmps13
  go_upto_region 22 with fail
  obtain ⟨w0, hw0⟩ : ∃ w0, w.alloc (.cells #[.int .i64 X.ty, .int .i64 X.fl, .int .u32 X.tsn, .int .i64 X.st, .int .i64 X.ss, .int .u32 X.pr, .string X.d, .int .u32 X.tg, .int .u32 X.rw, .int .i64 X.ou, .int .i64 X.ii, .slice oP X.P.length cP, .slice oK X.K.length cK, .slice oG X.G.length cG, .slice oD X.D.length cD] 28) = w0 := ⟨_, rfl⟩
  rw [hw0] at X0 belw0
  try rw [hw0]
  clear hw0
  obtain ⟨cb, hcb⟩ : ∃ cb, w.heap.size = cb := ⟨_, rfl⟩
  have hcl := X0.lt
  rw [hcb] at X0 hcl
  try rw [hcb]
  have utsn := fun w => u32_p X.tsn w HW.out.tsn.1 HW.out.tsn.2
  have ztsn : (p4 X.tsn).size ≤ 4 := by rw [p4_size]; omega
  have zP : (cat X.P).size ≤ 16128 := by have := cat_le X.P; have := HO.out.P; omega
  have hPA := fun d os => putAll_any (HM.out _ (belw0.trans ((below_regrown w0 d os).mono belw0.size))).P (Nat.le_trans HB0.out (belw0.trans ((below_regrown w0 d os).mono belw0.size)).size) HO.out.P
  have k2 := cell_regrown (X0.cell 2)
  have k11 := cell_regrown (X0.cell 11)
  clear X0
  refine wp_region_quiet_below (by kernel_rfl) (by kernel_rfl) ?_
  repeat (any_goals (first | go_big_quiet_step ((first | (go_at_call 32; first | (with_reducible exact Calls.regrown_of (utsn _))) | (go_at_call 33; exact Calls.regrown_of (hPA _ _)))) | quiet_step ((first | (go_at_call 32; first | (with_reducible exact Calls.regrown_of (utsn _))) | (go_at_call 33; exact Calls.regrown_of (hPA _ _))))))
  refine wpQuiet_nil ?_
  intro _ hw'
  obtain ⟨⟨dq, osq⟩, hw''⟩ := hw'
  subst hw''
  go_wp2
  go_ret
  exact ⟨ret_str (by rw [← HRB.out]; unfold bodyF; rw [hk]; rfl), belw0.trans ((below_regrown _ dq osq).mono belw0.size)⟩
end Go.Proofs.Ytfpcneekbdcbcaa.ck
/- Layer 6: what a sack says, as bytes, by the program (gen-ckk.py wrote this). -/
namespace Go.Proofs.Ytfpcneekbdcbcaa.ck
open Go.Sort (grow)
open Go.ChangeShapes Go.WideShapes Go.ChangeAt Go.RowKit kit oct par chk bld
set_option maxRecDepth 100000

set_option maxHeartbeats 8000000 in
theorem sack_any {X : Ck} {w : World} {B : Nat} {vP vK vG vD : Value} (H : CkOk X) (HWx : CkW X) (M : CkM w B X vP vK vG vD) (hB : B ≤ w.heap.size) : Calls Try.prog 34 #[.agg (ckc X vP vK vG vD)] w fun e w' => e = .returned (.string (sackF X)) ∧ Below w.heap.size w w' := by
  obtain ⟨rb, hrb⟩ : ∃ rb, sackF X = rb := ⟨_, rfl⟩
  rw [hrb]
  have HRB := Lib.hid hrb
  clear hrb
  have HW := Lib.hid HWx
  have HO := Lib.hid H
  obtain ⟨oP, cP, rfl, -, -⟩ := M.P.shape
  obtain ⟨oK, cK, rfl, -, -⟩ := M.K.shape
  obtain ⟨oG, cG, rfl, -, -⟩ := M.G.shape
  obtain ⟨oD, cD, rfl, -, -⟩ := M.D.shape
  have HM := Lib.hid (show ∀ w', Below w.heap.size w w' → CkM w' B X _ _ _ _ from fun w' h => M.below (h.mono hB))
  have HB0 := Lib.hid hB
  clear M hB HWx H
  have X0 := Blk.new w 28 (ckc X (.slice oP X.P.length cP) (.slice oK X.K.length cK) (.slice oG X.G.length cG) (.slice oD X.D.length cD))
  have belw0 := (Below.refl w.heap.size w).alloc (Nat.le_refl _) (.cells (ckc X (.slice oP X.P.length cP) (.slice oK X.K.length cK) (.slice oG X.G.length cG) (.slice oD X.D.length cD)) 28)
  unfold ckc at X0 belw0 ⊢
  go_enter Try.func34, Try.ntmps34
  go_upto_region 1 with fail
  obtain ⟨w0, hw0⟩ : ∃ w0, w.alloc (.cells #[.int .i64 X.ty, .int .i64 X.fl, .int .u32 X.tsn, .int .i64 X.st, .int .i64 X.ss, .int .u32 X.pr, .string X.d, .int .u32 X.tg, .int .u32 X.rw, .int .i64 X.ou, .int .i64 X.ii, .slice oP X.P.length cP, .slice oK X.K.length cK, .slice oG X.G.length cG, .slice oD X.D.length cD] 28) = w0 := ⟨_, rfl⟩
  rw [hw0] at X0 belw0
  try rw [hw0]
  clear hw0
  obtain ⟨cb, hcb⟩ : ∃ cb, w.heap.size = cb := ⟨_, rfl⟩
  have hcl := X0.lt
  rw [hcb] at X0 hcl
  try rw [hcb]
  have utsn := fun w => u32_p X.tsn w HW.out.tsn.1 HW.out.tsn.2
  have urw := fun w => u32_p X.rw w HW.out.rw.1 HW.out.rw.2
  have uG := fun w => u16_p (X.G.length : Nat) w (by omega) (by have := HO.out.G; omega)
  have uD := fun w => u16_p (X.D.length : Nat) w (by omega) (by have := HO.out.D; omega)
  have z1 : (p4 X.tsn).size ≤ 4 := by rw [p4_size]; omega
  have z2 : (p4 X.rw).size ≤ 4 := by rw [p4_size]; omega
  have z3 : (p2 (X.G.length : Nat)).size ≤ 2 := by rw [p2_size]; omega
  have z4 : (p2 (X.D.length : Nat)).size ≤ 2 := by rw [p2_size]; omega
  have k2 := cell_regrown (X0.cell 2)
  have k8 := cell_regrown (X0.cell 8)
  have k13 := cell_regrown (X0.cell 13)
  have k14 := cell_regrown (X0.cell 14)
  refine wp_region_quiet_below (by kernel_rfl) (by kernel_rfl) ?_
  repeat (any_goals (first | go_big_quiet_step ((first | (go_at_call 16; first | (with_reducible exact Calls.regrown_of (uG _)) | (with_reducible exact Calls.regrown_of (uD _))) | (go_at_call 32; first | (with_reducible exact Calls.regrown_of (utsn _)) | (with_reducible exact Calls.regrown_of (urw _))))) | quiet_step ((first | (go_at_call 16; first | (with_reducible exact Calls.regrown_of (uG _)) | (with_reducible exact Calls.regrown_of (uD _))) | (go_at_call 32; first | (with_reducible exact Calls.regrown_of (utsn _)) | (with_reducible exact Calls.regrown_of (urw _)))))))
  refine wpQuiet_nil ?_
  intro w1 hw'
  obtain ⟨⟨dq, osq⟩, hw''⟩ := hw'
  have bel1 := below_regrown w0 dq osq
  rw [← hw''] at bel1
  clear hw'' utsn urw uG uD z1 z2 z3 z4 k2 k8 k13 k14
  obtain ⟨S0, hS0⟩ : ∃ S, p4 X.tsn ++ p4 X.rw ++ p2 (X.G.length : Nat) ++ p2 (X.D.length : Nat) = S := ⟨_, rfl⟩
  rw [hS0]
  have zS0 : S0.size = 12 := by rw [← hS0]; simp only [ByteArray.size_append, p2_size, p4_size]
  have X1 := X0.below bel1 X0.lt
  have g13 : w1.cell? ⟨cb, 13, none⟩ = some (.slice oG X.G.length cG) := X1.cell 13
  have HX0 := Lib.hid X0
  clear X0 X1
  have HBw := Lib.hid belw0
  have hn1 : X.G.length ≤ 16 := HO.out.G
  have hn2 : X.D.length ≤ 16 := HO.out.D
  have HS0 := Lib.hid hS0
  clear hS0 belw0
  go_wp2_with fail
  go_loopw [3, 28] (fun s3 s28 wr => ∃ (i : Nat) (S : ByteArray), s28 = .int .i64 (i : Nat) ∧ i ≤ X.G.length ∧ s3 = .string S ∧ sackG S0 (X.G.take i) = S ∧ Below w0.heap.size w0 wr) (fun _ s28 _ => X.G.length - (intOf s28).toNat)
  case atStart => exact ⟨0, S0, rfl, Nat.zero_le _, rfl, by rw [List.take_zero]; rfl, bel1⟩
  case round =>
    rename World => wr
    clear bel1 g13
    obtain ⟨i, S, rfl, hi, rfl, hS, bel⟩ := hrel
    have zS : S.size ≤ 100 := by rw [← hS, sackG_size, zS0]; have := List.length_take_le i X.G; omega
    by_cases hlt : i < X.G.length
    · have hii : (i : Int) < (X.G.length : Int) := by omega
      have hi0 : (0 : Int) ≤ (i : Int) := by omega
      obtain ⟨⟨g1, g2⟩, hx⟩ : ∃ x, X.G[i]? = some x := ⟨_, List.getElem?_eq_getElem hlt⟩
      have hgap := HO.out.gap (g1, g2) (List.mem_of_getElem? hx)
      dsimp only at hgap
      obtain ⟨a, cap', hv, -, c0, c1⟩ := (HM.out _ (HBw.out.trans (bel.mono HBw.out.size))).G.two hlt (cellsG_at hx).1 (cellsG_at hx).2
      injection hv with hv1 hv2 hv3
      subst hv1
      subst hv3
      clear hv2
      have hpc : ∀ (j : Nat) u, (#[.int .i64 g1, .int .i64 g2] : Array Value)[j]? = some u → wr.cell? ((a.add (i * 2)).add j) = some u := fun j u hu => by
        rcases j with _ | _ | j
        · rw [add_z]; simp at hu; rw [← hu]; exact c0
        · rw [add_o]; simp at hu; rw [← hu]; exact c1
        · simp at hu
      have sz := szGa (g1, g2)
      dsimp only at sz
      have HXX := Lib.hid (And.intro hx hS)
      have P2 := Blk.new wr 55 #[.int .i64 g1, .int .i64 g2]
      have bel2 := bel.alloc bel.size (.cells #[.int .i64 g1, .int .i64 g2] 55)
      clear hx hS c0 c1
      go_upto_region 5 with (refine wpList_load_from rfl 55 _ rfl (a.add (i * 2)) rfl #[.int .i64 g1, .int .i64 g2] _ hpc Try.underlying55 rfl sz ?_)
      obtain ⟨w2, hw2⟩ : ∃ w2, wr.alloc (.cells #[.int .i64 g1, .int .i64 g2] 55) = w2 := ⟨_, rfl⟩
      rw [hw2] at P2 bel2
      try rw [hw2]
      clear hw2 bel hpc sz
      obtain ⟨pb, hpb⟩ : ∃ pb, wr.heap.size = pb := ⟨_, rfl⟩
      rw [hpb] at P2
      try rw [hpb]
      clear hpb
      have p0 := cell_regrown (P2.cell 0)
      have p1 := cell_regrown (P2.cell 1)
      clear P2
      have u1 := fun w => u16_p g1 w (by omega) (by omega)
      have u2 := fun w => u16_p g2 w (by omega) (by omega)
      have z1 : (p2 g1).size ≤ 2 := by rw [p2_size]; omega
      have z2 : (p2 g2).size ≤ 2 := by rw [p2_size]; omega
      refine wp_region_quiet_below (by kernel_rfl) (by kernel_rfl) ?_
      repeat (any_goals (first | go_big_quiet_step ((first | (go_at_call 16; first | (with_reducible exact Calls.regrown_of (u1 _)) | (with_reducible exact Calls.regrown_of (u2 _))))) | quiet_step ((first | (go_at_call 16; first | (with_reducible exact Calls.regrown_of (u1 _)) | (with_reducible exact Calls.regrown_of (u2 _)))))))
      refine wpQuiet_nil ?_
      intro w3 hw'
      obtain ⟨⟨dq3, osq3⟩, hw''⟩ := hw'
      have bel3 := bel2.trans ((below_regrown w2 dq3 osq3).mono bel2.size)
      rw [← hw''] at bel3
      clear hw'' p0 p1 u1 u2 bel2
      go_wp2_with fail
      go_roundw
      case rel => exact ⟨i + 1, _, by go_num, by omega, rfl, by rw [take_snoc HXX.out.1, sackG_snoc, HXX.out.2], bel3⟩
      case measure => simp [intOf]; omega
    · obtain rfl : i = X.G.length := by omega
      rw [List.take_length] at hS
      have X2 := HX0.out.below bel HX0.out.lt
      have g14 : wr.cell? ⟨cb, 14, none⟩ = some (.slice oD X.D.length cD) := X2.cell 14
      have zS1 : S.size ≤ 76 := by rw [← hS, sackG_size, zS0]; omega
      clear X2 zS
      have HS := Lib.hid hS
      clear hS
      go_wp2_with fail
      go_loopw [3, 45] (fun s3 s45 wq => ∃ (i : Nat) (T : ByteArray), s45 = .int .i64 (i : Nat) ∧ i ≤ X.D.length ∧ s3 = .string T ∧ sackD S (X.D.take i) = T ∧ Below w0.heap.size w0 wq) (fun _ s45 _ => X.D.length - (intOf s45).toNat)
      case atStart => exact ⟨0, S, rfl, Nat.zero_le _, rfl, by rw [List.take_zero]; rfl, bel⟩
      case round =>
        rename World => wq
        clear bel g14
        obtain ⟨j, T, rfl, hj, rfl, hT, bel⟩ := hrel
        have zT : T.size ≤ 200 := by rw [← hT, sackD_size]; have := List.length_take_le j X.D; omega
        by_cases hlj : j < X.D.length
        · have hjj : (j : Int) < (X.D.length : Int) := by omega
          have hj0 : (0 : Int) ≤ (j : Int) := by omega
          obtain ⟨d1, hx⟩ : ∃ x, X.D[j]? = some x := ⟨_, List.getElem?_eq_getElem hlj⟩
          have hdd := HW.out.dd d1 (List.mem_of_getElem? hx)
          obtain ⟨a, cap', hv, -, c0⟩ := (HM.out _ (HBw.out.trans (bel.mono HBw.out.size))).D.one hlj (u0 := .int .u32 d1) (by rw [List.getElem?_map, hx]; rfl)
          injection hv with hv1 hv2 hv3
          subst hv1
          subst hv3
          clear hv2
          have hu := fun w => u32_p d1 w hdd.1 hdd.2
          have z1 : (p4 d1).size ≤ 4 := by rw [p4_size]; omega
          have HXX := Lib.hid (And.intro hx hT)
          clear hx hT hdd
          go_wp2_with (go_at_call 32; refine (hu _).mono ?_; rintro e w3 ⟨rfl, hb3⟩)
          have bel3 := bel.trans (hb3.mono bel.size)
          go_roundw
          case rel => exact ⟨j + 1, _, by go_num, by omega, rfl, by rw [take_snoc HXX.out.1, sackD_snoc, HXX.out.2], bel3⟩
          case measure => simp [intOf]; omega
        · obtain rfl : j = X.D.length := by omega
          rw [List.take_length] at hT
          have HT := Lib.hid hT
          clear hT
          go_wp2_with fail
          go_ret
          exact ⟨ret_str (by rw [← HT.out, ← HS.out, ← HS0.out, ← HRB.out]; rfl), HBw.out.trans (bel.mono HBw.out.size)⟩
end Go.Proofs.Ytfpcneekbdcbcaa.ck
/- Layer 6: a chunk's bytes, by the program (gen-ckl.py wrote this). -/
namespace Go.Proofs.Ytfpcneekbdcbcaa.ck
open Go.Sort (grow)
open Go.ChangeShapes Go.WideShapes Go.ChangeAt Go.RowKit kit oct par chk bld
set_option maxRecDepth 100000

set_option maxHeartbeats 4000000 in
theorem body_3 {X : Ck} {w : World} {B : Nat} {vP vK vG vD : Value} (HT : X.ty = 3) (H : CkOk X) (HWx : CkW X) (M : CkM w B X vP vK vG vD) (hB : B ≤ w.heap.size) : Calls Try.prog 13 #[.agg (ckc X vP vK vG vD)] w fun e w' => e = .returned (.string (bodyF X)) ∧ Below w.heap.size w w' := by
  obtain ⟨rb, hrb⟩ : ∃ rb, bodyF X = rb := ⟨_, rfl⟩
  rw [hrb]
  have hk : kindV X.ty = 3 := by rw [HT]; rfl
  have e0 : (X.ty == 0) = false := by rw [HT]; rfl
  have e1 : (X.ty == 1) = false := by rw [HT]; rfl
  have e2 : (X.ty == 2) = false := by rw [HT]; rfl
  have e3 : (X.ty == 3) = true := by rw [HT]; rfl
  have e4 : (X.ty == 4) = false := by rw [HT]; rfl
  have e5 : (X.ty == 5) = false := by rw [HT]; rfl
  have e6 : (X.ty == 6) = false := by rw [HT]; rfl
  have e9 : (X.ty == 9) = false := by rw [HT]; rfl
  have e7 : (X.ty == 7) = false := by rw [HT]; rfl
  have e15 : (X.ty == 15) = false := by rw [HT]; rfl
  have e193 : (X.ty == 193) = false := by rw [HT]; rfl
  have e128 : (X.ty == 128) = false := by rw [HT]; rfl
  have e130 : (X.ty == 130) = false := by rw [HT]; rfl
  have HRB := Lib.hid hrb
  clear hrb
  have HW := Lib.hid HWx
  have HO := Lib.hid H
  obtain ⟨oP, cP, rfl, -, -⟩ := M.P.shape
  obtain ⟨oK, cK, rfl, -, -⟩ := M.K.shape
  obtain ⟨oG, cG, rfl, -, -⟩ := M.G.shape
  obtain ⟨oD, cD, rfl, -, -⟩ := M.D.shape
  have HM := Lib.hid (show ∀ w', Below w.heap.size w w' → CkM w' B X _ _ _ _ from fun w' h => M.below (h.mono hB))
  have HB0 := Lib.hid hB
  have HTT := Lib.hid HT
  clear M hB HWx H HT
  have X0 := Blk.new w 28 (ckc X (.slice oP X.P.length cP) (.slice oK X.K.length cK) (.slice oG X.G.length cG) (.slice oD X.D.length cD))
  have belw0 := (Below.refl w.heap.size w).alloc (Nat.le_refl _) (.cells (ckc X (.slice oP X.P.length cP) (.slice oK X.K.length cK) (.slice oG X.G.length cG) (.slice oD X.D.length cD)) 28)
  unfold ckc at X0 belw0 ⊢
  go_enter Try.func13, Try.ntmps13
  go_upto_region 8 with fail
  obtain ⟨w0, hw0⟩ : ∃ w0, w.alloc (.cells #[.int .i64 X.ty, .int .i64 X.fl, .int .u32 X.tsn, .int .i64 X.st, .int .i64 X.ss, .int .u32 X.pr, .string X.d, .int .u32 X.tg, .int .u32 X.rw, .int .i64 X.ou, .int .i64 X.ii, .slice oP X.P.length cP, .slice oK X.K.length cK, .slice oG X.G.length cG, .slice oD X.D.length cD] 28) = w0 := ⟨_, rfl⟩
  rw [hw0] at X0 belw0
  try rw [hw0]
  clear hw0
  obtain ⟨cb, hcb⟩ : ∃ cb, w.heap.size = cb := ⟨_, rfl⟩
  have hcl := X0.lt
  rw [hcb] at X0 hcl
  try rw [hcb]
  have hc := sack_any HO.out HW.out (HM.out _ belw0) (Nat.le_trans HB0.out belw0.size)
  unfold ckc at hc
  go_wp2_with (first | (refine wpList_load_at rfl 28 _ rfl cb 0 rfl #[.int .i64 X.ty, .int .i64 X.fl, .int .u32 X.tsn, .int .i64 X.st, .int .i64 X.ss, .int .u32 X.pr, .string X.d, .int .u32 X.tg, .int .u32 X.rw, .int .i64 X.ou, .int .i64 X.ii, .slice oP X.P.length cP, .slice oK X.K.length cK, .slice oG X.G.length cG, .slice oD X.D.length cD] _ (Cel.of_blk X0) Try.underlying28 rfl (by show _ = some 15; kernel_rfl) ?_) | (go_at_call 34; refine hc.mono ?_; rintro e w3 ⟨rfl, hb3⟩))
  go_ret
  exact ⟨ret_str (by rw [← HRB.out]; unfold bodyF; rw [hk]; rfl), belw0.trans (hb3.mono belw0.size)⟩
set_option maxHeartbeats 4000000 in
theorem body_4 {X : Ck} {w : World} {B : Nat} {vP vK vG vD : Value} (HT : X.ty = 4) (H : CkOk X) (HWx : CkW X) (M : CkM w B X vP vK vG vD) (hB : B ≤ w.heap.size) : Calls Try.prog 13 #[.agg (ckc X vP vK vG vD)] w fun e w' => e = .returned (.string (bodyF X)) ∧ Below w.heap.size w w' := by
  obtain ⟨rb, hrb⟩ : ∃ rb, bodyF X = rb := ⟨_, rfl⟩
  rw [hrb]
  have hk : kindV X.ty = 4 := by rw [HT]; rfl
  have e0 : (X.ty == 0) = false := by rw [HT]; rfl
  have e1 : (X.ty == 1) = false := by rw [HT]; rfl
  have e2 : (X.ty == 2) = false := by rw [HT]; rfl
  have e3 : (X.ty == 3) = false := by rw [HT]; rfl
  have e4 : (X.ty == 4) = true := by rw [HT]; rfl
  have e5 : (X.ty == 5) = false := by rw [HT]; rfl
  have e6 : (X.ty == 6) = false := by rw [HT]; rfl
  have e9 : (X.ty == 9) = false := by rw [HT]; rfl
  have e7 : (X.ty == 7) = false := by rw [HT]; rfl
  have e15 : (X.ty == 15) = false := by rw [HT]; rfl
  have e193 : (X.ty == 193) = false := by rw [HT]; rfl
  have e128 : (X.ty == 128) = false := by rw [HT]; rfl
  have e130 : (X.ty == 130) = false := by rw [HT]; rfl
  have HRB := Lib.hid hrb
  clear hrb
  have HW := Lib.hid HWx
  have HO := Lib.hid H
  obtain ⟨oP, cP, rfl, -, -⟩ := M.P.shape
  obtain ⟨oK, cK, rfl, -, -⟩ := M.K.shape
  obtain ⟨oG, cG, rfl, -, -⟩ := M.G.shape
  obtain ⟨oD, cD, rfl, -, -⟩ := M.D.shape
  have HM := Lib.hid (show ∀ w', Below w.heap.size w w' → CkM w' B X _ _ _ _ from fun w' h => M.below (h.mono hB))
  have HB0 := Lib.hid hB
  have HTT := Lib.hid HT
  clear M hB HWx H HT
  have X0 := Blk.new w 28 (ckc X (.slice oP X.P.length cP) (.slice oK X.K.length cK) (.slice oG X.G.length cG) (.slice oD X.D.length cD))
  have belw0 := (Below.refl w.heap.size w).alloc (Nat.le_refl _) (.cells (ckc X (.slice oP X.P.length cP) (.slice oK X.K.length cK) (.slice oG X.G.length cG) (.slice oD X.D.length cD)) 28)
  unfold ckc at X0 belw0 ⊢
  go_enter Try.func13, Try.ntmps13
  go_upto_region 11 with fail
  obtain ⟨w0, hw0⟩ : ∃ w0, w.alloc (.cells #[.int .i64 X.ty, .int .i64 X.fl, .int .u32 X.tsn, .int .i64 X.st, .int .i64 X.ss, .int .u32 X.pr, .string X.d, .int .u32 X.tg, .int .u32 X.rw, .int .i64 X.ou, .int .i64 X.ii, .slice oP X.P.length cP, .slice oK X.K.length cK, .slice oG X.G.length cG, .slice oD X.D.length cD] 28) = w0 := ⟨_, rfl⟩
  rw [hw0] at X0 belw0
  try rw [hw0]
  clear hw0
  obtain ⟨cb, hcb⟩ : ∃ cb, w.heap.size = cb := ⟨_, rfl⟩
  have hcl := X0.lt
  rw [hcb] at X0 hcl
  try rw [hcb]
  have k6 : w0.cell? ⟨cb, 6, none⟩ = some (.string X.d) := X0.cell 6
  have hc := put_any 1 X.d w0
  go_wp2_with (go_at_call 35; refine hc.mono ?_; rintro e w3 ⟨rfl, hb3⟩)
  go_ret
  exact ⟨ret_str (by rw [← HRB.out]; unfold bodyF; rw [hk]; rfl), belw0.trans (hb3.mono belw0.size)⟩
set_option maxHeartbeats 4000000 in
theorem body_5 {X : Ck} {w : World} {B : Nat} {vP vK vG vD : Value} (HT : X.ty = 5) (H : CkOk X) (HWx : CkW X) (M : CkM w B X vP vK vG vD) (hB : B ≤ w.heap.size) : Calls Try.prog 13 #[.agg (ckc X vP vK vG vD)] w fun e w' => e = .returned (.string (bodyF X)) ∧ Below w.heap.size w w' := by
  obtain ⟨rb, hrb⟩ : ∃ rb, bodyF X = rb := ⟨_, rfl⟩
  rw [hrb]
  have hk : kindV X.ty = 4 := by rw [HT]; rfl
  have e0 : (X.ty == 0) = false := by rw [HT]; rfl
  have e1 : (X.ty == 1) = false := by rw [HT]; rfl
  have e2 : (X.ty == 2) = false := by rw [HT]; rfl
  have e3 : (X.ty == 3) = false := by rw [HT]; rfl
  have e4 : (X.ty == 4) = false := by rw [HT]; rfl
  have e5 : (X.ty == 5) = true := by rw [HT]; rfl
  have e6 : (X.ty == 6) = false := by rw [HT]; rfl
  have e9 : (X.ty == 9) = false := by rw [HT]; rfl
  have e7 : (X.ty == 7) = false := by rw [HT]; rfl
  have e15 : (X.ty == 15) = false := by rw [HT]; rfl
  have e193 : (X.ty == 193) = false := by rw [HT]; rfl
  have e128 : (X.ty == 128) = false := by rw [HT]; rfl
  have e130 : (X.ty == 130) = false := by rw [HT]; rfl
  have HRB := Lib.hid hrb
  clear hrb
  have HW := Lib.hid HWx
  have HO := Lib.hid H
  obtain ⟨oP, cP, rfl, -, -⟩ := M.P.shape
  obtain ⟨oK, cK, rfl, -, -⟩ := M.K.shape
  obtain ⟨oG, cG, rfl, -, -⟩ := M.G.shape
  obtain ⟨oD, cD, rfl, -, -⟩ := M.D.shape
  have HM := Lib.hid (show ∀ w', Below w.heap.size w w' → CkM w' B X _ _ _ _ from fun w' h => M.below (h.mono hB))
  have HB0 := Lib.hid hB
  have HTT := Lib.hid HT
  clear M hB HWx H HT
  have X0 := Blk.new w 28 (ckc X (.slice oP X.P.length cP) (.slice oK X.K.length cK) (.slice oG X.G.length cG) (.slice oD X.D.length cD))
  have belw0 := (Below.refl w.heap.size w).alloc (Nat.le_refl _) (.cells (ckc X (.slice oP X.P.length cP) (.slice oK X.K.length cK) (.slice oG X.G.length cG) (.slice oD X.D.length cD)) 28)
  unfold ckc at X0 belw0 ⊢
  go_enter Try.func13, Try.ntmps13
  go_upto_region 11 with fail
  obtain ⟨w0, hw0⟩ : ∃ w0, w.alloc (.cells #[.int .i64 X.ty, .int .i64 X.fl, .int .u32 X.tsn, .int .i64 X.st, .int .i64 X.ss, .int .u32 X.pr, .string X.d, .int .u32 X.tg, .int .u32 X.rw, .int .i64 X.ou, .int .i64 X.ii, .slice oP X.P.length cP, .slice oK X.K.length cK, .slice oG X.G.length cG, .slice oD X.D.length cD] 28) = w0 := ⟨_, rfl⟩
  rw [hw0] at X0 belw0
  try rw [hw0]
  clear hw0
  obtain ⟨cb, hcb⟩ : ∃ cb, w.heap.size = cb := ⟨_, rfl⟩
  have hcl := X0.lt
  rw [hcb] at X0 hcl
  try rw [hcb]
  have k6 : w0.cell? ⟨cb, 6, none⟩ = some (.string X.d) := X0.cell 6
  have hc := put_any 1 X.d w0
  go_wp2_with (go_at_call 35; refine hc.mono ?_; rintro e w3 ⟨rfl, hb3⟩)
  go_ret
  exact ⟨ret_str (by rw [← HRB.out]; unfold bodyF; rw [hk]; rfl), belw0.trans (hb3.mono belw0.size)⟩
set_option maxHeartbeats 4000000 in
theorem body_6 {X : Ck} {w : World} {B : Nat} {vP vK vG vD : Value} (HT : X.ty = 6) (H : CkOk X) (HWx : CkW X) (M : CkM w B X vP vK vG vD) (hB : B ≤ w.heap.size) : Calls Try.prog 13 #[.agg (ckc X vP vK vG vD)] w fun e w' => e = .returned (.string (bodyF X)) ∧ Below w.heap.size w w' := by
  obtain ⟨rb, hrb⟩ : ∃ rb, bodyF X = rb := ⟨_, rfl⟩
  rw [hrb]
  have hk : kindV X.ty = 6 := by rw [HT]; rfl
  have e0 : (X.ty == 0) = false := by rw [HT]; rfl
  have e1 : (X.ty == 1) = false := by rw [HT]; rfl
  have e2 : (X.ty == 2) = false := by rw [HT]; rfl
  have e3 : (X.ty == 3) = false := by rw [HT]; rfl
  have e4 : (X.ty == 4) = false := by rw [HT]; rfl
  have e5 : (X.ty == 5) = false := by rw [HT]; rfl
  have e6 : (X.ty == 6) = true := by rw [HT]; rfl
  have e9 : (X.ty == 9) = false := by rw [HT]; rfl
  have e7 : (X.ty == 7) = false := by rw [HT]; rfl
  have e15 : (X.ty == 15) = false := by rw [HT]; rfl
  have e193 : (X.ty == 193) = false := by rw [HT]; rfl
  have e128 : (X.ty == 128) = false := by rw [HT]; rfl
  have e130 : (X.ty == 130) = false := by rw [HT]; rfl
  have HRB := Lib.hid hrb
  clear hrb
  have HW := Lib.hid HWx
  have HO := Lib.hid H
  obtain ⟨oP, cP, rfl, -, -⟩ := M.P.shape
  obtain ⟨oK, cK, rfl, -, -⟩ := M.K.shape
  obtain ⟨oG, cG, rfl, -, -⟩ := M.G.shape
  obtain ⟨oD, cD, rfl, -, -⟩ := M.D.shape
  have HM := Lib.hid (show ∀ w', Below w.heap.size w w' → CkM w' B X _ _ _ _ from fun w' h => M.below (h.mono hB))
  have HB0 := Lib.hid hB
  have HTT := Lib.hid HT
  clear M hB HWx H HT
  have X0 := Blk.new w 28 (ckc X (.slice oP X.P.length cP) (.slice oK X.K.length cK) (.slice oG X.G.length cG) (.slice oD X.D.length cD))
  have belw0 := (Below.refl w.heap.size w).alloc (Nat.le_refl _) (.cells (ckc X (.slice oP X.P.length cP) (.slice oK X.K.length cK) (.slice oG X.G.length cG) (.slice oD X.D.length cD)) 28)
  unfold ckc at X0 belw0 ⊢
  go_enter Try.func13, Try.ntmps13
  go_upto_region 14 with fail
  obtain ⟨w0, hw0⟩ : ∃ w0, w.alloc (.cells #[.int .i64 X.ty, .int .i64 X.fl, .int .u32 X.tsn, .int .i64 X.st, .int .i64 X.ss, .int .u32 X.pr, .string X.d, .int .u32 X.tg, .int .u32 X.rw, .int .i64 X.ou, .int .i64 X.ii, .slice oP X.P.length cP, .slice oK X.K.length cK, .slice oG X.G.length cG, .slice oD X.D.length cD] 28) = w0 := ⟨_, rfl⟩
  rw [hw0] at X0 belw0
  try rw [hw0]
  clear hw0
  obtain ⟨cb, hcb⟩ : ∃ cb, w.heap.size = cb := ⟨_, rfl⟩
  have hcl := X0.lt
  rw [hcb] at X0 hcl
  try rw [hcb]
  have k12 : w0.cell? ⟨cb, 12, none⟩ = some (.slice oK X.K.length cK) := X0.cell 12
  have hc := cputAll_any (HM.out _ belw0).K (Nat.le_trans HB0.out belw0.size) HO.out.K
  go_wp2_with (go_at_call 36; refine hc.mono ?_; rintro e w3 ⟨rfl, hb3⟩)
  go_ret
  exact ⟨ret_str (by rw [← HRB.out]; unfold bodyF; rw [hk]; rfl), belw0.trans (hb3.mono belw0.size)⟩
set_option maxHeartbeats 4000000 in
theorem body_9 {X : Ck} {w : World} {B : Nat} {vP vK vG vD : Value} (HT : X.ty = 9) (H : CkOk X) (HWx : CkW X) (M : CkM w B X vP vK vG vD) (hB : B ≤ w.heap.size) : Calls Try.prog 13 #[.agg (ckc X vP vK vG vD)] w fun e w' => e = .returned (.string (bodyF X)) ∧ Below w.heap.size w w' := by
  obtain ⟨rb, hrb⟩ : ∃ rb, bodyF X = rb := ⟨_, rfl⟩
  rw [hrb]
  have hk : kindV X.ty = 6 := by rw [HT]; rfl
  have e0 : (X.ty == 0) = false := by rw [HT]; rfl
  have e1 : (X.ty == 1) = false := by rw [HT]; rfl
  have e2 : (X.ty == 2) = false := by rw [HT]; rfl
  have e3 : (X.ty == 3) = false := by rw [HT]; rfl
  have e4 : (X.ty == 4) = false := by rw [HT]; rfl
  have e5 : (X.ty == 5) = false := by rw [HT]; rfl
  have e6 : (X.ty == 6) = false := by rw [HT]; rfl
  have e9 : (X.ty == 9) = true := by rw [HT]; rfl
  have e7 : (X.ty == 7) = false := by rw [HT]; rfl
  have e15 : (X.ty == 15) = false := by rw [HT]; rfl
  have e193 : (X.ty == 193) = false := by rw [HT]; rfl
  have e128 : (X.ty == 128) = false := by rw [HT]; rfl
  have e130 : (X.ty == 130) = false := by rw [HT]; rfl
  have HRB := Lib.hid hrb
  clear hrb
  have HW := Lib.hid HWx
  have HO := Lib.hid H
  obtain ⟨oP, cP, rfl, -, -⟩ := M.P.shape
  obtain ⟨oK, cK, rfl, -, -⟩ := M.K.shape
  obtain ⟨oG, cG, rfl, -, -⟩ := M.G.shape
  obtain ⟨oD, cD, rfl, -, -⟩ := M.D.shape
  have HM := Lib.hid (show ∀ w', Below w.heap.size w w' → CkM w' B X _ _ _ _ from fun w' h => M.below (h.mono hB))
  have HB0 := Lib.hid hB
  have HTT := Lib.hid HT
  clear M hB HWx H HT
  have X0 := Blk.new w 28 (ckc X (.slice oP X.P.length cP) (.slice oK X.K.length cK) (.slice oG X.G.length cG) (.slice oD X.D.length cD))
  have belw0 := (Below.refl w.heap.size w).alloc (Nat.le_refl _) (.cells (ckc X (.slice oP X.P.length cP) (.slice oK X.K.length cK) (.slice oG X.G.length cG) (.slice oD X.D.length cD)) 28)
  unfold ckc at X0 belw0 ⊢
  go_enter Try.func13, Try.ntmps13
  go_upto_region 14 with fail
  obtain ⟨w0, hw0⟩ : ∃ w0, w.alloc (.cells #[.int .i64 X.ty, .int .i64 X.fl, .int .u32 X.tsn, .int .i64 X.st, .int .i64 X.ss, .int .u32 X.pr, .string X.d, .int .u32 X.tg, .int .u32 X.rw, .int .i64 X.ou, .int .i64 X.ii, .slice oP X.P.length cP, .slice oK X.K.length cK, .slice oG X.G.length cG, .slice oD X.D.length cD] 28) = w0 := ⟨_, rfl⟩
  rw [hw0] at X0 belw0
  try rw [hw0]
  clear hw0
  obtain ⟨cb, hcb⟩ : ∃ cb, w.heap.size = cb := ⟨_, rfl⟩
  have hcl := X0.lt
  rw [hcb] at X0 hcl
  try rw [hcb]
  have k12 : w0.cell? ⟨cb, 12, none⟩ = some (.slice oK X.K.length cK) := X0.cell 12
  have hc := cputAll_any (HM.out _ belw0).K (Nat.le_trans HB0.out belw0.size) HO.out.K
  go_wp2_with (go_at_call 36; refine hc.mono ?_; rintro e w3 ⟨rfl, hb3⟩)
  go_ret
  exact ⟨ret_str (by rw [← HRB.out]; unfold bodyF; rw [hk]; rfl), belw0.trans (hb3.mono belw0.size)⟩
set_option maxHeartbeats 4000000 in
theorem body_7 {X : Ck} {w : World} {B : Nat} {vP vK vG vD : Value} (HT : X.ty = 7) (H : CkOk X) (HWx : CkW X) (M : CkM w B X vP vK vG vD) (hB : B ≤ w.heap.size) : Calls Try.prog 13 #[.agg (ckc X vP vK vG vD)] w fun e w' => e = .returned (.string (bodyF X)) ∧ Below w.heap.size w w' := by
  obtain ⟨rb, hrb⟩ : ∃ rb, bodyF X = rb := ⟨_, rfl⟩
  rw [hrb]
  have hk : kindV X.ty = 7 := by rw [HT]; rfl
  have e0 : (X.ty == 0) = false := by rw [HT]; rfl
  have e1 : (X.ty == 1) = false := by rw [HT]; rfl
  have e2 : (X.ty == 2) = false := by rw [HT]; rfl
  have e3 : (X.ty == 3) = false := by rw [HT]; rfl
  have e4 : (X.ty == 4) = false := by rw [HT]; rfl
  have e5 : (X.ty == 5) = false := by rw [HT]; rfl
  have e6 : (X.ty == 6) = false := by rw [HT]; rfl
  have e9 : (X.ty == 9) = false := by rw [HT]; rfl
  have e7 : (X.ty == 7) = true := by rw [HT]; rfl
  have e15 : (X.ty == 15) = false := by rw [HT]; rfl
  have e193 : (X.ty == 193) = false := by rw [HT]; rfl
  have e128 : (X.ty == 128) = false := by rw [HT]; rfl
  have e130 : (X.ty == 130) = false := by rw [HT]; rfl
  have HRB := Lib.hid hrb
  clear hrb
  have HW := Lib.hid HWx
  have HO := Lib.hid H
  obtain ⟨oP, cP, rfl, -, -⟩ := M.P.shape
  obtain ⟨oK, cK, rfl, -, -⟩ := M.K.shape
  obtain ⟨oG, cG, rfl, -, -⟩ := M.G.shape
  obtain ⟨oD, cD, rfl, -, -⟩ := M.D.shape
  have HM := Lib.hid (show ∀ w', Below w.heap.size w w' → CkM w' B X _ _ _ _ from fun w' h => M.below (h.mono hB))
  have HB0 := Lib.hid hB
  have HTT := Lib.hid HT
  clear M hB HWx H HT
  have X0 := Blk.new w 28 (ckc X (.slice oP X.P.length cP) (.slice oK X.K.length cK) (.slice oG X.G.length cG) (.slice oD X.D.length cD))
  have belw0 := (Below.refl w.heap.size w).alloc (Nat.le_refl _) (.cells (ckc X (.slice oP X.P.length cP) (.slice oK X.K.length cK) (.slice oG X.G.length cG) (.slice oD X.D.length cD)) 28)
  unfold ckc at X0 belw0 ⊢
  go_enter Try.func13, Try.ntmps13
  go_upto_region 16 with fail
  obtain ⟨w0, hw0⟩ : ∃ w0, w.alloc (.cells #[.int .i64 X.ty, .int .i64 X.fl, .int .u32 X.tsn, .int .i64 X.st, .int .i64 X.ss, .int .u32 X.pr, .string X.d, .int .u32 X.tg, .int .u32 X.rw, .int .i64 X.ou, .int .i64 X.ii, .slice oP X.P.length cP, .slice oK X.K.length cK, .slice oG X.G.length cG, .slice oD X.D.length cD] 28) = w0 := ⟨_, rfl⟩
  rw [hw0] at X0 belw0
  try rw [hw0]
  clear hw0
  obtain ⟨cb, hcb⟩ : ∃ cb, w.heap.size = cb := ⟨_, rfl⟩
  have hcl := X0.lt
  rw [hcb] at X0 hcl
  try rw [hcb]
  have k2 : w0.cell? ⟨cb, 2, none⟩ = some (.int .u32 X.tsn) := X0.cell 2
  have hc := fun w => u32_p X.tsn w HW.out.tsn.1 HW.out.tsn.2
  go_wp2_with (go_at_call 32; refine (hc _).mono ?_; rintro e w3 ⟨rfl, hb3⟩)
  go_ret
  exact ⟨ret_str (by rw [← HRB.out]; unfold bodyF; rw [hk]; rfl), belw0.trans (hb3.mono belw0.size)⟩
set_option maxHeartbeats 4000000 in
theorem body_def {X : Ck} {w : World} {B : Nat} {vP vK vG vD : Value} (HT : kindV X.ty = 8 ∨ kindV X.ty = 10 ∨ kindV X.ty = 20) (H : CkOk X) (HWx : CkW X) (M : CkM w B X vP vK vG vD) (hB : B ≤ w.heap.size) : Calls Try.prog 13 #[.agg (ckc X vP vK vG vD)] w fun e w' => e = .returned (.string (bodyF X)) ∧ Below w.heap.size w w' := by
  obtain ⟨rb, hrb⟩ : ∃ rb, bodyF X = rb := ⟨_, rfl⟩
  rw [hrb]
  have e0 : (X.ty == 0) = false := by
    rw [beq_eq_false_iff_ne]
    intro h
    rw [h] at HT
    exact absurd HT (by decide)
  have e1 : (X.ty == 1) = false := by
    rw [beq_eq_false_iff_ne]
    intro h
    rw [h] at HT
    exact absurd HT (by decide)
  have e2 : (X.ty == 2) = false := by
    rw [beq_eq_false_iff_ne]
    intro h
    rw [h] at HT
    exact absurd HT (by decide)
  have e3 : (X.ty == 3) = false := by
    rw [beq_eq_false_iff_ne]
    intro h
    rw [h] at HT
    exact absurd HT (by decide)
  have e4 : (X.ty == 4) = false := by
    rw [beq_eq_false_iff_ne]
    intro h
    rw [h] at HT
    exact absurd HT (by decide)
  have e5 : (X.ty == 5) = false := by
    rw [beq_eq_false_iff_ne]
    intro h
    rw [h] at HT
    exact absurd HT (by decide)
  have e6 : (X.ty == 6) = false := by
    rw [beq_eq_false_iff_ne]
    intro h
    rw [h] at HT
    exact absurd HT (by decide)
  have e9 : (X.ty == 9) = false := by
    rw [beq_eq_false_iff_ne]
    intro h
    rw [h] at HT
    exact absurd HT (by decide)
  have e7 : (X.ty == 7) = false := by
    rw [beq_eq_false_iff_ne]
    intro h
    rw [h] at HT
    exact absurd HT (by decide)
  have e15 : (X.ty == 15) = false := by
    rw [beq_eq_false_iff_ne]
    intro h
    rw [h] at HT
    exact absurd HT (by decide)
  have e193 : (X.ty == 193) = false := by
    rw [beq_eq_false_iff_ne]
    intro h
    rw [h] at HT
    exact absurd HT (by decide)
  have e128 : (X.ty == 128) = false := by
    rw [beq_eq_false_iff_ne]
    intro h
    rw [h] at HT
    exact absurd HT (by decide)
  have e130 : (X.ty == 130) = false := by
    rw [beq_eq_false_iff_ne]
    intro h
    rw [h] at HT
    exact absurd HT (by decide)
  have HRB := Lib.hid hrb
  clear hrb
  have HW := Lib.hid HWx
  have HO := Lib.hid H
  obtain ⟨oP, cP, rfl, -, -⟩ := M.P.shape
  obtain ⟨oK, cK, rfl, -, -⟩ := M.K.shape
  obtain ⟨oG, cG, rfl, -, -⟩ := M.G.shape
  obtain ⟨oD, cD, rfl, -, -⟩ := M.D.shape
  have HM := Lib.hid (show ∀ w', Below w.heap.size w w' → CkM w' B X _ _ _ _ from fun w' h => M.below (h.mono hB))
  have HB0 := Lib.hid hB
  have HTT := Lib.hid HT
  clear M hB HWx H HT
  have X0 := Blk.new w 28 (ckc X (.slice oP X.P.length cP) (.slice oK X.K.length cK) (.slice oG X.G.length cG) (.slice oD X.D.length cD))
  have belw0 := (Below.refl w.heap.size w).alloc (Nat.le_refl _) (.cells (ckc X (.slice oP X.P.length cP) (.slice oK X.K.length cK) (.slice oG X.G.length cG) (.slice oD X.D.length cD)) 28)
  unfold ckc at X0 belw0 ⊢
  go_enter Try.func13, Try.ntmps13
  go_upto_region 23 with fail
  obtain ⟨w0, hw0⟩ : ∃ w0, w.alloc (.cells #[.int .i64 X.ty, .int .i64 X.fl, .int .u32 X.tsn, .int .i64 X.st, .int .i64 X.ss, .int .u32 X.pr, .string X.d, .int .u32 X.tg, .int .u32 X.rw, .int .i64 X.ou, .int .i64 X.ii, .slice oP X.P.length cP, .slice oK X.K.length cK, .slice oG X.G.length cG, .slice oD X.D.length cD] 28) = w0 := ⟨_, rfl⟩
  rw [hw0] at X0 belw0
  try rw [hw0]
  clear hw0
  obtain ⟨cb, hcb⟩ : ∃ cb, w.heap.size = cb := ⟨_, rfl⟩
  have hcl := X0.lt
  rw [hcb] at X0 hcl
  try rw [hcb]
  have k6 : w0.cell? ⟨cb, 6, none⟩ = some (.string X.d) := X0.cell 6
  go_wp2_with fail
  go_ret
  refine ⟨ret_str ?_, belw0⟩
  rw [← HRB.out]
  unfold bodyF
  rcases HTT.out with h | h | h
  · rw [h, HO.out.z.1.2.2.2 (by rw [h]; decide) (by rw [h]; decide) (by rw [h]; decide) (by rw [h]; decide) (by rw [h]; decide)]; rfl
  · rw [h]; rfl
  · rw [h]; rfl
/-- What a chunk says, as bytes. -/
theorem body_any {X : Ck} {w : World} {B : Nat} {vP vK vG vD : Value} (H : CkOk X) (HWx : CkW X) (M : CkM w B X vP vK vG vD) (hB : B ≤ w.heap.size) : Calls Try.prog 13 #[.agg (ckc X vP vK vG vD)] w fun e w' => e = .returned (.string (bodyF X)) ∧ Below w.heap.size w w' := by
  by_cases h0 : X.ty = 0
  · exact body_0 h0 H HWx M hB
  by_cases h1 : X.ty = 1
  · exact body_1 h1 H HWx M hB
  by_cases h2 : X.ty = 2
  · exact body_2 h2 H HWx M hB
  by_cases h3 : X.ty = 3
  · exact body_3 h3 H HWx M hB
  by_cases h4 : X.ty = 4
  · exact body_4 h4 H HWx M hB
  by_cases h5 : X.ty = 5
  · exact body_5 h5 H HWx M hB
  by_cases h6 : X.ty = 6
  · exact body_6 h6 H HWx M hB
  by_cases h9 : X.ty = 9
  · exact body_9 h9 H HWx M hB
  by_cases h7 : X.ty = 7
  · exact body_7 h7 H HWx M hB
  by_cases h15 : X.ty = 15
  · exact body_15 h15 H HWx M hB
  by_cases h193 : X.ty = 193
  · exact body_193 h193 H HWx M hB
  by_cases h128 : X.ty = 128
  · exact body_128 h128 H HWx M hB
  by_cases h130 : X.ty = 130
  · exact body_130 h130 H HWx M hB
  refine body_def ?_ H HWx M hB
  unfold kindV
  (repeat' split) <;> omega
theorem p1_size (n : Int) : (p1 n).size = 1 := by unfold p1; rw [strOfNums_size]; rfl
theorem u8_p (n : Int) (w : World) (h0 : 0 ≤ n) (h1 : n ≤ 9223372036854775807) : Calls Try.prog 15 #[.int .i64 n] w fun e w' => e = .returned (.string (p1 n)) ∧ Below w.heap.size w w' := u8_any n w h0 h1
theorem flagsV_le (t : Int) : flagsV t ≤ 255 := by unfold flagsV; (repeat' split) <;> omega
set_option maxHeartbeats 4000000 in
theorem cput_no {X : Ck} {w : World} {B : Nat} {vP vK vG vD : Value} (H : mayF X = false) (HWx : CkW X) (M : CkM w B X vP vK vG vD) (hB : B ≤ w.heap.size) : Calls Try.prog 5 #[.agg (ckc X vP vK vG vD)] w fun e w' => e = .returned (.string (putF X)) ∧ Below w.heap.size w w' := by
  obtain ⟨rb, hrb⟩ : ∃ rb, putF X = rb := ⟨_, rfl⟩
  rw [hrb]
  unfold putF at hrb
  rw [H] at hrb
  have HRB := Lib.hid hrb
  clear hrb
  have HW := Lib.hid HWx
  have HH := Lib.hid H
  obtain ⟨oP, cP, rfl, -, -⟩ := M.P.shape
  obtain ⟨oK, cK, rfl, -, -⟩ := M.K.shape
  obtain ⟨oG, cG, rfl, -, -⟩ := M.G.shape
  obtain ⟨oD, cD, rfl, -, -⟩ := M.D.shape
  have HM := Lib.hid (show ∀ w', Below w.heap.size w w' → CkM w' B X _ _ _ _ from fun w' h => M.below (h.mono hB))
  have HB0 := Lib.hid hB
  clear M hB HWx H
  have X0 := Blk.new w 28 (ckc X (.slice oP X.P.length cP) (.slice oK X.K.length cK) (.slice oG X.G.length cG) (.slice oD X.D.length cD))
  have belw0 := (Below.refl w.heap.size w).alloc (Nat.le_refl _) (.cells (ckc X (.slice oP X.P.length cP) (.slice oK X.K.length cK) (.slice oG X.G.length cG) (.slice oD X.D.length cD)) 28)
  unfold ckc at X0 belw0 ⊢
  go_enter Try.func5, Try.ntmps5
  go_upto_region 1 with fail
  obtain ⟨w0, hw0⟩ : ∃ w0, w.alloc (.cells #[.int .i64 X.ty, .int .i64 X.fl, .int .u32 X.tsn, .int .i64 X.st, .int .i64 X.ss, .int .u32 X.pr, .string X.d, .int .u32 X.tg, .int .u32 X.rw, .int .i64 X.ou, .int .i64 X.ii, .slice oP X.P.length cP, .slice oK X.K.length cK, .slice oG X.G.length cG, .slice oD X.D.length cD] 28) = w0 := ⟨_, rfl⟩
  rw [hw0] at X0 belw0
  try rw [hw0]
  clear hw0
  obtain ⟨cb, hcb⟩ : ∃ cb, w.heap.size = cb := ⟨_, rfl⟩
  have hcl := X0.lt
  rw [hcb] at X0 hcl
  try rw [hcb]
  have hm := cmay_law HW.out (HM.out _ belw0) (Nat.le_trans HB0.out belw0.size)
  rw [HH.out] at hm
  unfold ckc at hm
  go_wp2_with (first | (refine wpList_load_at rfl 28 _ rfl cb 0 rfl #[.int .i64 X.ty, .int .i64 X.fl, .int .u32 X.tsn, .int .i64 X.st, .int .i64 X.ss, .int .u32 X.pr, .string X.d, .int .u32 X.tg, .int .u32 X.rw, .int .i64 X.ou, .int .i64 X.ii, .slice oP X.P.length cP, .slice oK X.K.length cK, .slice oG X.G.length cG, .slice oD X.D.length cD] _ (Cel.of_blk X0) Try.underlying28 rfl (by show _ = some 15; kernel_rfl) ?_) | (go_at_call 8; refine hm.mono ?_; rintro e w1 ⟨rfl, hb1⟩))
  go_ret
  exact ⟨ret_str (by rw [← HRB.out]; rfl), belw0.trans (hb1.mono belw0.size)⟩
set_option maxHeartbeats 4000000 in
theorem cput_yes {X : Ck} {w : World} {B : Nat} {vP vK vG vD : Value} (H : mayF X = true) (HWx : CkW X) (M : CkM w B X vP vK vG vD) (hB : B ≤ w.heap.size) : Calls Try.prog 5 #[.agg (ckc X vP vK vG vD)] w fun e w' => e = .returned (.string (putF X)) ∧ Below w.heap.size w w' := by
  obtain ⟨rb, hrb⟩ : ∃ rb, putF X = rb := ⟨_, rfl⟩
  rw [hrb]
  unfold putF at hrb
  rw [H] at hrb
  have HRB := Lib.hid hrb
  clear hrb
  have HW := Lib.hid HWx
  have HO := Lib.hid ((may_iff X).1 H)
  have HH := Lib.hid H
  obtain ⟨oP, cP, rfl, -, -⟩ := M.P.shape
  obtain ⟨oK, cK, rfl, -, -⟩ := M.K.shape
  obtain ⟨oG, cG, rfl, -, -⟩ := M.G.shape
  obtain ⟨oD, cD, rfl, -, -⟩ := M.D.shape
  have HM := Lib.hid (show ∀ w', Below w.heap.size w w' → CkM w' B X _ _ _ _ from fun w' h => M.below (h.mono hB))
  have HB0 := Lib.hid hB
  clear M hB HWx H
  have X0 := Blk.new w 28 (ckc X (.slice oP X.P.length cP) (.slice oK X.K.length cK) (.slice oG X.G.length cG) (.slice oD X.D.length cD))
  have belw0 := (Below.refl w.heap.size w).alloc (Nat.le_refl _) (.cells (ckc X (.slice oP X.P.length cP) (.slice oK X.K.length cK) (.slice oG X.G.length cG) (.slice oD X.D.length cD)) 28)
  unfold ckc at X0 belw0 ⊢
  go_enter Try.func5, Try.ntmps5
  go_upto_region 1 with fail
  obtain ⟨w0, hw0⟩ : ∃ w0, w.alloc (.cells #[.int .i64 X.ty, .int .i64 X.fl, .int .u32 X.tsn, .int .i64 X.st, .int .i64 X.ss, .int .u32 X.pr, .string X.d, .int .u32 X.tg, .int .u32 X.rw, .int .i64 X.ou, .int .i64 X.ii, .slice oP X.P.length cP, .slice oK X.K.length cK, .slice oG X.G.length cG, .slice oD X.D.length cD] 28) = w0 := ⟨_, rfl⟩
  rw [hw0] at X0 belw0
  try rw [hw0]
  clear hw0
  obtain ⟨cb, hcb⟩ : ∃ cb, w.heap.size = cb := ⟨_, rfl⟩
  have hcl := X0.lt
  rw [hcb] at X0 hcl
  try rw [hcb]
  have hm := cmay_law HW.out (HM.out _ belw0) (Nat.le_trans HB0.out belw0.size)
  rw [HH.out] at hm
  unfold ckc at hm
  go_upto_region 3 with (first | (refine wpList_load_at rfl 28 _ rfl cb 0 rfl #[.int .i64 X.ty, .int .i64 X.fl, .int .u32 X.tsn, .int .i64 X.st, .int .i64 X.ss, .int .u32 X.pr, .string X.d, .int .u32 X.tg, .int .u32 X.rw, .int .i64 X.ou, .int .i64 X.ii, .slice oP X.P.length cP, .slice oK X.K.length cK, .slice oG X.G.length cG, .slice oD X.D.length cD] _ (Cel.of_blk X0) Try.underlying28 rfl (by show _ = some 15; kernel_rfl) ?_) | (go_at_call 8; refine hm.mono ?_; rintro e w1 ⟨rfl, hb1⟩))
  have X1 := X0.below hb1 X0.lt
  have bel1 := belw0.trans (hb1.mono belw0.size)
  clear X0 belw0 hb1 hm
  have hc := body_any HO.out HW.out (HM.out _ bel1) (Nat.le_trans HB0.out bel1.size)
  unfold ckc at hc
  go_upto_region 4 with (first | (refine wpList_load_at rfl 28 _ rfl cb 0 rfl #[.int .i64 X.ty, .int .i64 X.fl, .int .u32 X.tsn, .int .i64 X.st, .int .i64 X.ss, .int .u32 X.pr, .string X.d, .int .u32 X.tg, .int .u32 X.rw, .int .i64 X.ou, .int .i64 X.ii, .slice oP X.P.length cP, .slice oK X.K.length cK, .slice oG X.G.length cG, .slice oD X.D.length cD] _ (Cel.of_blk X1) Try.underlying28 rfl (by show _ = some 15; kernel_rfl) ?_) | (go_at_call 13; refine hc.mono ?_; rintro e w2 ⟨rfl, hb2⟩))
  have X2 := X1.below hb2 X1.lt
  have bel2 := bel1.trans (hb2.mono bel1.size)
  clear X1 bel1 hb2 hc
  obtain ⟨S, hS⟩ : ∃ S, bodyF X = S := ⟨_, rfl⟩
  have zS : S.size ≤ 17000 := by rw [← hS]; exact bodyF_le HO.out
  rw [hS] at HRB ⊢
  clear hS
  have hty := HO.out.ty
  have hfl := HO.out.fl
  have hfv := flagsV_le X.ty
  have u0 := fun w => u8_p X.ty w (by omega) (by omega)
  have u1 := fun w => u8_p X.fl w (by omega) (by omega)
  have u2 := fun w => u16_p ((S.size : Int) + 4) w (by omega) (by omega)
  have hw4 : IntKind.i64.wrap ((S.size : Int) + 4) = (S.size : Int) + 4 := IntWalk.i64_in _ (by omega)
  have hf := fun w => filled_any (p1 X.ty ++ p1 X.fl ++ p2 ((S.size : Int) + 4) ++ S) w (by simp only [ByteArray.size_append, p1_size, p2_size]; omega)
  have z0 : (p1 X.ty).size ≤ 1 := by rw [p1_size]; omega
  have z1 : (p1 X.fl).size ≤ 1 := by rw [p1_size]; omega
  have z2 : (p2 ((S.size : Int) + 4)).size ≤ 2 := by rw [p2_size]; omega
  have k0 := cell_regrown (X2.cell 0)
  have k1 := cell_regrown (X2.cell 1)
  clear X2
  refine wp_region_quiet_below (by kernel_rfl) (by kernel_rfl) ?_
  repeat (any_goals (first | go_big_quiet_step ((first | (go_at_call 16; with_reducible exact Calls.regrown_of (u2 _)) | (go_at_call 15; first | (with_reducible exact Calls.regrown_of (u0 _)) | (with_reducible exact Calls.regrown_of (u1 _))) | (go_at_call 14; exact Calls.regrown_of (hf _)))) | quiet_step ((first | (go_at_call 16; with_reducible exact Calls.regrown_of (u2 _)) | (go_at_call 15; first | (with_reducible exact Calls.regrown_of (u0 _)) | (with_reducible exact Calls.regrown_of (u1 _))) | (go_at_call 14; exact Calls.regrown_of (hf _))))))
  refine wpQuiet_nil ?_
  intro w3 hw'
  obtain ⟨⟨dq, osq⟩, hw''⟩ := hw'
  have bel3 := bel2.trans ((below_regrown w2 dq osq).mono bel2.size)
  rw [← hw''] at bel3
  clear hw''
  go_wp2
  go_ret
  exact ⟨ret_str (by rw [← HRB.out]; rfl), bel3⟩
/-- A chunk's bytes. -/
theorem cput_any {X : Ck} {w : World} {B : Nat} {vP vK vG vD : Value} (HWx : CkW X) (M : CkM w B X vP vK vG vD) (hB : B ≤ w.heap.size) : Calls Try.prog 5 #[.agg (ckc X vP vK vG vD)] w fun e w' => e = .returned (.string (putF X)) ∧ Below w.heap.size w w' := by
  cases h : mayF X with
  | false => exact cput_no h HWx M hB
  | true => exact cput_yes h HWx M hB
end Go.Proofs.Ytfpcneekbdcbcaa.ck
/- Layer 6: the document's rows of parameters and causes, and their bytes (gen-ckm.py wrote this). -/
namespace Go.Proofs.Ytfpcneekbdcbcaa.ck
open Go.Sort (grow)
open Go.ChangeShapes Go.WideShapes Go.ChangeAt Go.RowKit kit oct par chk bld
set_option maxRecDepth 100000

theorem run_conv {P : Program} {oi : Oper} {a : Act} {x : Operand} {t1 t2 : TypeId} {s u : Value} {v : World} (ho : oi.op = .convert t1 t2 x) (hx : a.eval x = s) (hr : (convert t1 t2 s).run P v = .ok u v) : (execOp a.eval oi).run P v = .ok (.value u) v := by
  unfold execOp
  simp [ho, hx, hr]
theorem run_build2 {P : Program} {oi : Oper} {a : Act} {x0 x1 : Operand} {ty : TypeId} {s0 s1 u : Value} {v : World} (ho : oi.op = .build ty #[(0, x0), (1, x1)]) (h0 : a.eval x0 = s0) (h1 : a.eval x1 = s1) (hr : (Instr.build ty #[(0, s0), (1, s1)]).run P v = .ok u v) : (execOp a.eval oi).run P v = .ok (.value u) v := by
  unfold execOp
  simp [ho, h0, h1, hr]
theorem conv_u32 (d : Int) (h : 0 ≤ d ∧ d ≤ 4294967295) (W : World) : (convert 22 3 (.int .u32 d)).run Try.prog W = .ok (.int .i64 d) W := by
  have hw : IntKind.i64.wrap d = d := IntWalk.i64_in _ (by omega)
  go_simp
theorem add_str (x y : ByteArray) (h : x.size + y.size ≤ 1000000) (W : World) : (binOp .add 9 (.string x) (.string y)).run Try.prog W = .ok (.string (x ++ y)) W := by
  have h2 : x.size + y.size ≤ 9223372036854775807 := by omega
  go_simp
theorem Qo.row {w : World} {b0 size n : Nat} {v : Value} {xs : List Value} (q : Qo w b0 size v n xs) : Row w w.heap.size size v n xs := by
  obtain ⟨oa, cap, rfl, h1, h2, h3⟩ := q.val
  rcases Nat.eq_zero_or_pos cap with h0 | h0
  · obtain rfl : n = 0 := by omega
    exact ⟨q.len, oa, ⟨0, 0, none⟩, cap, rfl, h1, h2, fun h => absurd h (by omega), fun i j hi => absurd hi (by omega)⟩
  · obtain ⟨g, off, rfl, h4, h5, h6, h7⟩ := h3 h0
    refine ⟨q.len, _, ⟨g, off, none⟩, cap, rfl, h1, h2, fun _ => ⟨rfl, h5⟩, fun i j hi hj => ?_⟩
    rw [add_some, add_some, Nat.add_assoc]
    have := Nat.mul_le_mul_right size (show i + 1 ≤ n by omega)
    rw [Nat.add_mul, Nat.one_mul] at this
    exact h7 _ (by omega)
theorem info67 : (Try.prog.info? 67).map (fun i => (i.zero, i.size, i.bytes)) = some (some (.agg #[.int .i64 0, .string ByteArray.empty]), 2, 24) := by kernel_rfl
set_option maxHeartbeats 4000000 in
theorem rparams_any {w : World} {B : Nat} {v : Value} {L : List (Int × ByteArray)} (q : Row w B 2 v L.length (cellsP L)) (hB : B ≤ w.heap.size) (hn : L.length ≤ 20) : Calls Try.prog 43 #[v] w fun e w' => (∃ v', e = .returned v' ∧ Qo w' w.heap.size 2 v' L.length (cellsP L)) ∧ Below w.heap.size w w' := by
  obtain ⟨B0, hB0⟩ : ∃ B0, w.heap.size = B0 := ⟨_, rfl⟩
  have HB0 := Lib.hid hB0
  have HQ := Lib.hid (show ∀ w', Below B0 w w' → Row w' B 2 v L.length (cellsP L) from fun w' h => q.below (h.mono (by omega)))
  obtain ⟨oa, cap, hv, -, -⟩ := q.shape
  subst hv
  have bel0 := (Below.refl B0 w).alloc (by omega) (.cells #[] 67)
  rw [hB0]
  clear q
  go_enter Try.func43, Try.ntmps43
  go_wp2_with fail
  try rw [hB0]
  go_loopw [3, 4] (fun s3 s4 wr => ∃ (i : Nat) (vo : Value), s4 = .int .i64 (i : Nat) ∧ i ≤ L.length ∧ s3 = vo ∧ Qo wr B0 2 vo i (cellsP (L.take i)) ∧ Below B0 w wr) (fun _ s4 _ => L.length - (intOf s4).toNat)
  case atStart => exact ⟨0, _, rfl, Nat.zero_le _, rfl, by rw [List.take_zero]; exact Qo.empty _ _ _ _, bel0⟩
  case round =>
    rename World => wr
    clear bel0
    obtain ⟨i, vo, rfl, hi, rfl, qo, bel⟩ := hrel
    by_cases hlt : i < L.length
    · have hii : (i : Int) < (L.length : Int) := by omega
      have hi0 : (0 : Int) ≤ (i : Int) := by omega
      obtain ⟨⟨e1, e2⟩, hx⟩ : ∃ x, L[i]? = some x := ⟨_, List.getElem?_eq_getElem hlt⟩
      obtain ⟨a, cap', hv, hab, c0, c1⟩ := (HQ.out _ bel).two hlt (cellsP_get hx).1 (cellsP_get hx).2
      injection hv with hv1 hv2 hv3
      subst hv1
      subst hv3
      clear hv2
      have hge : B0 ≤ wr.heap.size := by rw [← HB0.out]; exact bel.size
      obtain ⟨oq, cq, hvq, _, _⟩ := qo.shape
      subst hvq
      obtain ⟨i0, hi0', hz0, hz1, hz2⟩ := info_parts info67
      have q2 := qo.alloc (.cells #[.int .i64 e1, .string e2] 67)
      have I2 := src_item (P := Try.prog) (SL := 63) (sz := 2) Try.underlying63 (Blk.new wr 67 #[.int .i64 e1, .string e2]) (fun u hu => by simp at hu; rcases hu with rfl | rfl <;> rfl) rfl
      obtain ⟨v', w8, hr8, q8, gr, -⟩ := qo_append (P := Try.prog) (t := 63) (ty := 63) Try.underlying63 hi0' hz0 hz1 hz2 rfl q2 I2 (by unfold maxLen; omega) (by omega) (by simp; omega)
      have bel8 := (bel.alloc (by omega) (.cells #[.int .i64 e1, .string e2] 67)).grown gr (by simp; omega) (fun k hk => (q2.lt hk).1)
      have q9 : Qo w8 B0 2 v' (i + 1) (cellsP (L.take (i + 1))) := by rw [take_snoc hx, cellsP_snoc]; exact q8
      have HE := Lib.hid (And.intro q9 bel8)
      clear q9 q8 bel8 gr q2 I2 qo bel hx
      go_wp2_with (at_builtin; refine wpList_append_q rfl _ _ _ rfl rfl rfl hr8 ?_)
      go_roundw
      case rel => exact ⟨i + 1, _, by go_num, by omega, rfl, HE.out.1, HE.out.2⟩
      case measure => simp [intOf]; omega
    · obtain rfl : i = L.length := by omega
      rw [List.take_length] at qo
      obtain ⟨oq, cq, hvq, _, _⟩ := qo.shape
      subst hvq
      have HE := Lib.hid (And.intro qo bel)
      clear qo bel
      go_wp2_with fail
      go_ret
      exact ⟨⟨_, rfl, HE.out.1⟩, HE.out.2⟩
theorem al_cell {w : World} {o : Obj} {p : Addr} {u : Value} (h : w.cell? p = some u) : (w.alloc o).cell? p = some u := (World.cell?_of_block (Below.heap_alloc w o p.block (block_lt_of_cell h))).trans h
set_option maxHeartbeats 4000000 in
theorem rcauses_any {w : World} {B : Nat} {v : Value} {L : List (Int × ByteArray)} (q : Row w B 2 v L.length (cellsP L)) (hB : B ≤ w.heap.size) (hn : L.length ≤ 20) : Calls Try.prog 44 #[v] w fun e w' => (∃ v', e = .returned v' ∧ Qo w' w.heap.size 2 v' L.length (cellsP L)) ∧ Below w.heap.size w w' := by
  obtain ⟨B0, hB0⟩ : ∃ B0, w.heap.size = B0 := ⟨_, rfl⟩
  have HB0 := Lib.hid hB0
  have HQ := Lib.hid (show ∀ w', Below B0 w w' → Row w' B 2 v L.length (cellsP L) from fun w' h => q.below (h.mono (by omega)))
  obtain ⟨oa, cap, hv, -, -⟩ := q.shape
  subst hv
  have bel0 := (Below.refl B0 w).alloc (by omega) (.cells #[] 67)
  rw [hB0]
  clear q
  go_enter Try.func44, Try.ntmps44
  go_wp2_with fail
  try rw [hB0]
  go_loopw [3, 4] (fun s3 s4 wr => ∃ (i : Nat) (vo : Value), s4 = .int .i64 (i : Nat) ∧ i ≤ L.length ∧ s3 = vo ∧ Qo wr B0 2 vo i (cellsP (L.take i)) ∧ Below B0 w wr) (fun _ s4 _ => L.length - (intOf s4).toNat)
  case atStart => exact ⟨0, _, rfl, Nat.zero_le _, rfl, by rw [List.take_zero]; exact Qo.empty _ _ _ _, bel0⟩
  case round =>
    rename World => wr
    clear bel0
    obtain ⟨i, vo, rfl, hi, rfl, qo, bel⟩ := hrel
    by_cases hlt : i < L.length
    · have hii : (i : Int) < (L.length : Int) := by omega
      have hi0 : (0 : Int) ≤ (i : Int) := by omega
      obtain ⟨⟨e1, e2⟩, hx⟩ : ∃ x, L[i]? = some x := ⟨_, List.getElem?_eq_getElem hlt⟩
      obtain ⟨a, cap', hv, hab, c0, c1⟩ := (HQ.out _ bel).two hlt (cellsP_get hx).1 (cellsP_get hx).2
      injection hv with hv1 hv2 hv3
      subst hv1
      subst hv3
      clear hv2
      have hge : B0 ≤ wr.heap.size := by rw [← HB0.out]; exact bel.size
      obtain ⟨oq, cq, hvq, _, _⟩ := qo.shape
      subst hvq
      obtain ⟨i0, hi0', hz0, hz1, hz2⟩ := info_parts info67
      have belwr := bel
      clear bel
      have hab2 : a.block < B0 := by rw [← HB0.out]; omega
      go_upto_region 5 with fail
      refine wp_region_noPanic ?_
      replace belwr := belwr.drew
      replace c0 : wr.drew.cell? (a.add (i * 2)) = some (.int .i64 e1) := c0
      replace c1 : wr.drew.cell? ⟨(a.add (i * 2)).block, (a.add (i * 2)).off + 1, none⟩ = some (.string e2) := c1
      replace qo := qo.drew
      refine wp_region_held_drew (S := fun v => v.cell? (a.add (i * 2)) = some (.int .i64 e1) ∧ v.cell? ⟨(a.add (i * 2)).block, (a.add (i * 2)).off + 1, none⟩ = some (.string e2)) (by kernel_rfl) (And.intro c0 c1) (fun _ => ?_)
      obtain ⟨dw, hdw⟩ : ∃ dw, wr.drew = dw := ⟨_, rfl⟩
      rw [hdw] at belwr c0 c1 qo ⊢
      clear hdw
      have beldw := belwr
      clear belwr
      refine wpAnyH_abs _ (fun ac hac => ?_)
      have hsz : ac.tmps.size = 27 := by rw [hac]; rfl
      have f0 : ac.eval (.tmp 0) = .slice (some a) L.length cap := by rw [hac]; rfl
      have f3 : ac.eval (.tmp 3) = .slice oq i cq := by rw [hac]; rfl
      have f4 : ac.eval (.tmp 4) = .int .i64 (i : Nat) := by rw [hac]; rfl
      have HB := Lib.hid hac
      clear hac
      have hge : B0 ≤ dw.heap.size := by rw [← HB0.out]; exact beldw.size
      refine take_run (i := 0) (u := .slice oq i cq) rfl (by kernel_rfl) (by kernel_rfl) (by kernel_rfl) rfl rfl (fun _ _ _ h => h) (And.intro c0 c1) (fun v hv => run_move rfl f3 _) ?_
      refine wpAnyH_abs _ (fun a1 h1 => ?_)
      have z1 := sp h1 hsz
      replace f0 := kp h1 (by decide) f0
      replace f3 := kp h1 (by decide) f3
      replace f4 := kp h1 (by decide) f4
      have f12 := nw h1 hsz (by decide)
      replace h1 := Lib.hid h1
      refine take_run (i := 1) (u := .slice (some a) L.length cap) rfl (by kernel_rfl) (by kernel_rfl) (by kernel_rfl) rfl rfl (fun _ _ _ h => h) (And.intro c0 c1) (fun v hv => run_move rfl f0 _) ?_
      refine wpAnyH_abs _ (fun a2 h2 => ?_)
      have z2 := sp h2 z1
      replace f0 := kp h2 (by decide) f0
      replace f3 := kp h2 (by decide) f3
      replace f4 := kp h2 (by decide) f4
      replace f12 := kp h2 (by decide) f12
      have f13 := nw h2 z1 (by decide)
      clear z1
      replace h2 := Lib.hid h2
      refine take_run (i := 2) (u := .int .i64 (i : Nat)) rfl (by kernel_rfl) (by kernel_rfl) (by kernel_rfl) rfl rfl (fun _ _ _ h => h) (And.intro c0 c1) (fun v hv => run_move rfl f4 _) ?_
      refine wpAnyH_abs _ (fun a3 h3 => ?_)
      have z3 := sp h3 z2
      replace f0 := kp h3 (by decide) f0
      replace f3 := kp h3 (by decide) f3
      replace f4 := kp h3 (by decide) f4
      replace f12 := kp h3 (by decide) f12
      replace f13 := kp h3 (by decide) f13
      have f14 := nw h3 z2 (by decide)
      clear z2
      replace h3 := Lib.hid h3
      refine take_run (i := 3) (u := .pointer (some (a.add (i * 2)))) rfl (by kernel_rfl) (by kernel_rfl) (by kernel_rfl) rfl rfl (fun _ _ _ h => h) (And.intro c0 c1) (fun v hv => run_index (s := .slice (some a) L.length cap) (j := .int .i64 (i : Nat)) rfl f13 f14 (by go_simp)) ?_
      refine wpAnyH_abs _ (fun a4 h4 => ?_)
      have z4 := sp h4 z3
      replace f0 := kp h4 (by decide) f0
      replace f3 := kp h4 (by decide) f3
      replace f4 := kp h4 (by decide) f4
      replace f12 := kp h4 (by decide) f12
      have f15 := nw h4 z3 (by decide)
      clear f13 f14 z3
      replace h4 := Lib.hid h4
      refine take_run (i := 4) (u := .pointer (some (a.add (i * 2)))) rfl (by kernel_rfl) (by kernel_rfl) (by kernel_rfl) rfl rfl (fun _ _ _ h => h) (And.intro c0 c1) (fun v hv => run_field (s := .pointer (some (a.add (i * 2)))) rfl f15 (by go_simp)) ?_
      refine wpAnyH_abs _ (fun a5 h5 => ?_)
      have z5 := sp h5 z4
      replace f0 := kp h5 (by decide) f0
      replace f3 := kp h5 (by decide) f3
      replace f4 := kp h5 (by decide) f4
      replace f12 := kp h5 (by decide) f12
      have f16 := nw h5 z4 (by decide)
      clear f15 z4
      replace h5 := Lib.hid h5
      refine take_run (i := 5) (u := .int .i64 e1) rfl (by kernel_rfl) (by kernel_rfl) (by kernel_rfl) rfl rfl (fun _ _ _ h => h) (And.intro c0 c1) (fun v hv => run_load1 (s := .pointer (some (a.add (i * 2)))) rfl f16 (by have c := hv.1; go_simp)) ?_
      refine wpAnyH_abs _ (fun a6 h6 => ?_)
      have z6 := sp h6 z5
      replace f0 := kp h6 (by decide) f0
      replace f3 := kp h6 (by decide) f3
      replace f4 := kp h6 (by decide) f4
      replace f12 := kp h6 (by decide) f12
      have f17 := nw h6 z5 (by decide)
      clear f16 z5
      replace h6 := Lib.hid h6
      refine take_run (i := 6) (u := .slice (some a) L.length cap) rfl (by kernel_rfl) (by kernel_rfl) (by kernel_rfl) rfl rfl (fun _ _ _ h => h) (And.intro c0 c1) (fun v hv => run_move rfl f0 _) ?_
      refine wpAnyH_abs _ (fun a7 h7 => ?_)
      have z7 := sp h7 z6
      replace f0 := kp h7 (by decide) f0
      replace f3 := kp h7 (by decide) f3
      replace f4 := kp h7 (by decide) f4
      replace f12 := kp h7 (by decide) f12
      replace f17 := kp h7 (by decide) f17
      have f18 := nw h7 z6 (by decide)
      clear z6
      replace h7 := Lib.hid h7
      refine take_run (i := 7) (u := .int .i64 (i : Nat)) rfl (by kernel_rfl) (by kernel_rfl) (by kernel_rfl) rfl rfl (fun _ _ _ h => h) (And.intro c0 c1) (fun v hv => run_move rfl f4 _) ?_
      refine wpAnyH_abs _ (fun a8 h8 => ?_)
      have z8 := sp h8 z7
      replace f0 := kp h8 (by decide) f0
      replace f3 := kp h8 (by decide) f3
      replace f4 := kp h8 (by decide) f4
      replace f12 := kp h8 (by decide) f12
      replace f17 := kp h8 (by decide) f17
      replace f18 := kp h8 (by decide) f18
      have f19 := nw h8 z7 (by decide)
      clear z7
      replace h8 := Lib.hid h8
      refine take_run (i := 8) (u := .pointer (some (a.add (i * 2)))) rfl (by kernel_rfl) (by kernel_rfl) (by kernel_rfl) rfl rfl (fun _ _ _ h => h) (And.intro c0 c1) (fun v hv => run_index (s := .slice (some a) L.length cap) (j := .int .i64 (i : Nat)) rfl f18 f19 (by go_simp)) ?_
      refine wpAnyH_abs _ (fun a9 h9 => ?_)
      have z9 := sp h9 z8
      replace f0 := kp h9 (by decide) f0
      replace f3 := kp h9 (by decide) f3
      replace f4 := kp h9 (by decide) f4
      replace f12 := kp h9 (by decide) f12
      replace f17 := kp h9 (by decide) f17
      have f20 := nw h9 z8 (by decide)
      clear f18 f19 z8
      replace h9 := Lib.hid h9
      refine take_run (i := 9) (u := .pointer (some ⟨(a.add (i * 2)).block, (a.add (i * 2)).off + 1, none⟩)) rfl (by kernel_rfl) (by kernel_rfl) (by kernel_rfl) rfl rfl (fun _ _ _ h => h) (And.intro c0 c1) (fun v hv => run_field (s := .pointer (some (a.add (i * 2)))) rfl f20 (by go_simp)) ?_
      refine wpAnyH_abs _ (fun a10 h10 => ?_)
      have z10 := sp h10 z9
      replace f0 := kp h10 (by decide) f0
      replace f3 := kp h10 (by decide) f3
      replace f4 := kp h10 (by decide) f4
      replace f12 := kp h10 (by decide) f12
      replace f17 := kp h10 (by decide) f17
      have f21 := nw h10 z9 (by decide)
      clear f20 z9
      replace h10 := Lib.hid h10
      refine take_run (i := 10) (u := .string e2) rfl (by kernel_rfl) (by kernel_rfl) (by kernel_rfl) rfl rfl (fun _ _ _ h => h) (And.intro c0 c1) (fun v hv => run_load1 (s := .pointer (some ⟨(a.add (i * 2)).block, (a.add (i * 2)).off + 1, none⟩)) rfl f21 (by have c := hv.2; go_simp)) ?_
      refine wpAnyH_abs _ (fun a11 h11 => ?_)
      have z11 := sp h11 z10
      replace f0 := kp h11 (by decide) f0
      replace f3 := kp h11 (by decide) f3
      replace f4 := kp h11 (by decide) f4
      replace f12 := kp h11 (by decide) f12
      replace f17 := kp h11 (by decide) f17
      have f22 := nw h11 z10 (by decide)
      clear f21 z10
      replace h11 := Lib.hid h11
      refine take_run (i := 11) (u := .agg #[.int .i64 e1, .string e2]) rfl (by kernel_rfl) (by kernel_rfl) (by kernel_rfl) rfl rfl (fun _ _ _ h => h) (And.intro c0 c1) (fun v hv => run_build2 (s0 := .int .i64 e1) (s1 := .string e2) rfl f17 f22 (by kernel_rfl)) ?_
      refine wpAnyH_abs _ (fun a12 h12 => ?_)
      have z12 := sp h12 z11
      replace f0 := kp h12 (by decide) f0
      replace f3 := kp h12 (by decide) f3
      replace f4 := kp h12 (by decide) f4
      replace f12 := kp h12 (by decide) f12
      have f23 := nw h12 z11 (by decide)
      clear f17 f22 z11
      replace h12 := Lib.hid h12
      have hlt3 : (a.add (i * 2)).block < dw.heap.size := block_lt_of_cell c0
      have q2 := qo.alloc (.cells #[.int .i64 e1, .string e2] 67)
      have I2 := src_item (P := Try.prog) (SL := 63) (sz := 2) Try.underlying63 (Blk.new dw 67 #[.int .i64 e1, .string e2]) (fun u hu => by simp at hu; rcases hu with rfl | rfl <;> rfl) rfl
      have beld2 := beldw.alloc (by omega) (.cells #[.int .i64 e1, .string e2] 67)
      have cc0 := al_cell (o := .cells #[.int .i64 e1, .string e2] 67) c0
      have cc1 := al_cell (o := .cells #[.int .i64 e1, .string e2] 67) c1
      refine step_val (i := 12) (u := .slice (some ⟨dw.heap.size, 0, none⟩) 1 1) (by kernel_rfl) rfl rfl rfl (And.intro cc0 cc1) (run_build1 (u := .agg #[.int .i64 e1, .string e2]) rfl f23 (by kernel_rfl)) ?_
      refine wpAnyH_abs _ (fun a13 h13 => ?_)
      have z13 := sp h13 z12
      replace f0 := kp h13 (by decide) f0
      replace f3 := kp h13 (by decide) f3
      replace f4 := kp h13 (by decide) f4
      replace f12 := kp h13 (by decide) f12
      have f24 := nw h13 z12 (by decide)
      clear f23 z12
      replace h13 := Lib.hid h13
      obtain ⟨v', w8, hr8, q8, gr, -⟩ := qo_append (P := Try.prog) (t := 63) (ty := 63) Try.underlying63 hi0' hz0 hz1 hz2 rfl q2 I2 (by unfold maxLen; omega) (by omega) (by simp; omega)
      have bel8 := beld2.grown gr (by simp; omega) (fun k hk => (q2.lt hk).1)
      have q9 : Qo w8 B0 2 v' (i + 1) (cellsP (L.take (i + 1))) := by rw [take_snoc hx, cellsP_snoc]; exact q8
      have hpb : ∀ p : Addr, p.block = (a.add (i * 2)).block → w8.cell? p = (dw.alloc (.cells #[.int .i64 e1, .string e2] 67)).cell? p := fun p hp => World.cell?_of_block (gr.block _ (by rw [hp]; simp; omega) (fun e => by rw [hp, add_blk] at e; have := (q2.lt e.symm).1; omega))
      obtain ⟨o8, c8, hv8, _, _⟩ := q8.shape
      subst hv8
      refine step_app (i := 13) (by kernel_rfl) rfl rfl rfl rfl f12 f24 (fun ty => hr8) ⟨(hpb _ rfl).trans cc0, (hpb ⟨(a.add (i * 2)).block, (a.add (i * 2)).off + 1, none⟩ rfl).trans cc1⟩ ?_
      refine wpAnyH_abs _ (fun a14 h14 => ?_)
      have z14 := sp h14 z13
      replace f0 := kp h14 (by decide) f0
      replace f3 := kp h14 (by decide) f3
      replace f4 := kp h14 (by decide) f4
      have f25 := nw h14 z13 (by decide)
      clear f12 f24 z13
      replace h14 := Lib.hid h14
      refine take_run (i := 14) (u := .slice o8 (i + 1) c8) rfl (by kernel_rfl) (by kernel_rfl) (by kernel_rfl) rfl rfl (fun _ _ _ h => h) (And.intro ((hpb _ rfl).trans cc0) ((hpb ⟨(a.add (i * 2)).block, (a.add (i * 2)).off + 1, none⟩ rfl).trans cc1)) (fun v hv => run_assign rfl f25 _) ?_
      refine wpAnyH_abs _ (fun a15 h15 => ?_)
      have z15 := sp h15 z14
      replace f0 := kp h15 (by decide) f0
      replace f4 := kp h15 (by decide) f4
      clear f3
      have f3 := nw h15 z14 (by decide)
      clear f25 z14
      replace h15 := Lib.hid h15
      refine wpAnyH_done (by kernel_rfl) ?_ _
      refine NoPanic.normal ?_
      rw [h15.out, h14.out, h13.out, h12.out, h11.out, h10.out, h9.out, h8.out, h7.out, h6.out, h5.out, h4.out, h3.out, h2.out, h1.out, HB.out]
      simp only [Act.put, List.setIfInBounds_toArray, List.set_cons_zero, List.set_cons_succ]
      clear f0 f3 f4 z15 HB hsz h1 h2 h3 h4 h5 h6 h7 h8 h9 h10 h11 h12 h13 h14 h15
      have HE := Lib.hid (And.intro q9 bel8)
      clear q9 q8 bel8 gr q2 I2 qo beldw beld2 hx hr8 hpb cc0 cc1 c0 c1
      go_wp2_with fail
      go_roundw
      case rel => exact ⟨i + 1, _, by go_num, by omega, rfl, HE.out.1, HE.out.2⟩
      case measure => simp [intOf]; omega
    · obtain rfl : i = L.length := by omega
      rw [List.take_length] at qo
      obtain ⟨oq, cq, hvq, _, _⟩ := qo.shape
      subst hvq
      have HE := Lib.hid (And.intro qo bel)
      clear qo bel
      go_wp2_with fail
      go_ret
      exact ⟨⟨_, rfl, HE.out.1⟩, HE.out.2⟩
/-- Bytes of a number. -/
theorem num_any (n : Int) (k : Nat) (hk : k ≤ 8) (h0 : 0 ≤ n) (h1 : n ≤ 9223372036854775807) (w : World) : Calls Try.prog 20 #[.int .i64 n, .int .i64 (k : Nat)] w fun e w' => e = .returned (.string (strOfNums (be n k))) ∧ Below w.heap.size w w' := by
  have hp := fun w => put_at k n (k : Nat) w rfl hk h0 (by omega)
  have hw : IntKind.u64.wrap n = n := IntWalk.u64_in _ (by omega)
  generalize strOfNums (be n k) = S at *
  generalize ((k : Nat) : Int) = kk at *
  go_enter Try.func20, Try.ntmps20
  go_wp2_with (go_at_call 49; refine (hp _).mono ?_; rintro e w1 ⟨rfl, hb⟩)
  go_ret
  exact ⟨rfl, hb⟩
set_option maxHeartbeats 4000000 in
/-- Bytes of all of a row. -/
theorem rputAll_any {w : World} {B : Nat} {v : Value} {L : List (Int × ByteArray)} (q : Row w B 2 v L.length (cellsP L)) (hB : B ≤ w.heap.size) (hn : L.length ≤ 20) : Calls Try.prog 47 #[v] w fun e w' => e = .returned (.string (cat L)) ∧ Below w.heap.size w w' := by
  obtain ⟨B0, hB0⟩ : ∃ B0, w.heap.size = B0 := ⟨_, rfl⟩
  have HB0 := Lib.hid hB0
  have HQ := Lib.hid (show ∀ w', Below B0 w w' → Row w' B 2 v L.length (cellsP L) from fun w' h => q.below (h.mono (by omega)))
  obtain ⟨oa, cap, hv, -, -⟩ := q.shape
  subst hv
  have bel0 := Below.refl B0 w
  rw [hB0]
  clear q hB0
  go_enter Try.func47, Try.ntmps47
  go_wp2_with fail
  go_loopw [3, 4] (fun s3 s4 wr => ∃ (i : Nat) (S : ByteArray), s4 = .int .i64 (i : Nat) ∧ i ≤ L.length ∧ s3 = .string S ∧ cat (L.take i) = S ∧ Below B0 w wr) (fun _ s4 _ => L.length - (intOf s4).toNat)
  case atStart => exact ⟨0, _, rfl, Nat.zero_le _, rfl, rfl, bel0⟩
  case round =>
    rename World => wr
    clear bel0
    obtain ⟨i, S, rfl, hi, rfl, hS, bel⟩ := hrel
    have zS : S.size ≤ 20160 := by rw [← hS]; have := cat_le (L.take i); have := List.length_take_le i L; omega
    by_cases hlt : i < L.length
    · have hii : (i : Int) < (L.length : Int) := by omega
      have hi0 : (0 : Int) ≤ (i : Int) := by omega
      obtain ⟨⟨e1, e2⟩, hx⟩ : ∃ x, L[i]? = some x := ⟨_, List.getElem?_eq_getElem hlt⟩
      obtain ⟨a, cap', hv, hab, c0, c1⟩ := (HQ.out _ bel).two hlt (cellsP_get hx).1 (cellsP_get hx).2
      injection hv with hv1 hv2 hv3
      subst hv1
      subst hv3
      clear hv2
      have hc := fun w => rput_any e1 e2 w
      have zP := putP_le e1 e2
      have HX := Lib.hid (And.intro hx hS)
      clear hx hS
      go_wp2_with (go_at_call 48; refine (hc _).mono ?_; rintro e w1 ⟨rfl, hb1⟩)
      have bel1 := bel.trans (hb1.mono (by rw [← HB0.out]; exact bel.size))
      go_roundw
      case rel => exact ⟨i + 1, _, by go_num, by omega, rfl, by rw [take_snoc HX.out.1, cat_snoc, HX.out.2], bel1⟩
      case measure => simp [intOf]; omega
    · obtain rfl : i = L.length := by omega
      rw [List.take_length] at hS
      have HS := Lib.hid hS
      clear hS
      go_wp2_with fail
      go_ret
      exact ⟨ret_str HS.out.symm, bel⟩
end Go.Proofs.Ytfpcneekbdcbcaa.ck
/- General words: long chains of '&&' and '||' in a region that draws its order (its operations only read, its callees only make), by one walk in the order of the text. -/
namespace Go.Proofs.Ytfpcneekbdcbcaa.kit
open Go.ChangeShapes Go.WideShapes Go.ChangeAt Go.RowKit
section
variable {P : Program} {ops : Array Oper} {C : World → Prop} {Q : Act → Prop}
theorem quiet_val {o : Oper} {rest : List Oper} {a : Act} {u : Value} {d : Nat} (hg : o.guard = none) (hd : o.dst = some d) (hrun : ∀ w, C w → (execOp a.eval o).run P w = .ok (.value u) w) (h : wpQuiet P ops C Q rest (a.put (some d) u)) : wpQuiet P ops C Q (o :: rest) a := by
  refine wpQuiet_step fun K hK => ?_
  rw [if_pos (by simp [Region.wanted, hg])]
  refine ⟨u, fun w hw => ?_, by rw [hd]; exact hK _ h⟩
  unfold Oper.quietAt
  rw [hrun w hw]
  exact ⟨rfl, rfl⟩
theorem quiet_if {o : Oper} {rest : List Oper} {a : Act} {u : Value} {d k dk : Nat} {b bb c c' : Bool} (hg : o.guard = some (k, bb)) (hk : (ops[k]?).bind (·.dst) = some dk) (he : a.eval (.tmp dk) = cv c (.bool b)) (hd : o.dst = some d) (hc : (c && (b == bb)) = c') (hrun : c' = true → ∀ w, C w → (execOp a.eval o).run P w = .ok (.value u) w)
    (h : wpQuiet P ops C Q rest (a.put (some d) (cv c' u))) : wpQuiet P ops C Q (o :: rest) a := by
  have hw : Region.wanted o (yielded ops a.tmps) = c' := by
    rw [← hc]
    cases c with
    | true => rw [cv_true] at he; rw [wanted_eq hg hk he, Bool.true_and]
    | false => rw [wanted_no hg hk he, Bool.false_and]
  refine wpQuiet_step fun K hK => ?_
  by_cases hb : c' = true
  · rw [cv_of hb] at h
    rw [if_pos (by rw [hw, hb])]
    refine ⟨u, fun w hw => ?_, by rw [hd]; exact hK _ h⟩
    unfold Oper.quietAt
    rw [hrun hb w hw]
    exact ⟨rfl, rfl⟩
  · rw [show cv c' u = undef from if_neg hb] at h
    rw [if_neg (by rw [hw]; exact hb)]
    rw [hd]
    exact hK _ h
theorem run_enter {o : Oper} {a : Act} {w : World} (f : FuncId) (fn : Func) (xs : Array Operand) (ts : Array TypeId) (hop : o.op = .call { callee := .value (.func f), args := xs, argTypes := ts })
    (hf : P.funcs[f]? = some fn) (hn : (fn.name == "runtime.NumGoroutine") = false) (hb : fn.body.isNone = false) : (execOp a.eval o).run P w = .ok (.enter f (xs.map a.eval)) w := by
  have h1 : ¬ fn.name = "runtime.NumGoroutine" := by simpa using hn
  have h2 : ¬ fn.body = none := by intro q; rw [q] at hb; cases hb
  simp [execOp, hop, resolve, invoke, Act.eval, Result.andThen, Deferred.ofValue, callFunc, hf, h1, h2]
theorem quiet_call (hCB : ∀ w w', C w → Below w.heap.size w w' → C w') {o : Oper} {rest : List Oper} {a : Act} {u : Value} {d : Nat} (hg : o.guard = none) (hd : o.dst = some d)
    (f : FuncId) (fn : Func) (xs : Array Operand) (ts : Array TypeId) (hop : o.op = .call { callee := .value (.func f), args := xs, argTypes := ts }) (hf : P.funcs[f]? = some fn) (hn : (fn.name == "runtime.NumGoroutine") = false) (hb : fn.body.isNone = false)
    (vs : Array Value) (hx : xs.map a.eval = vs) (hcall : ∀ w, C w → Calls P f vs w fun e w' => e = .returned u ∧ Below w.heap.size w w')
    (h : wpQuiet P ops C Q rest (a.put (some d) u)) : wpQuiet P ops C Q (o :: rest) a := by
  subst hx
  refine wpQuiet_step fun K hK => ?_
  rw [if_pos (by simp [Region.wanted, hg])]
  refine ⟨u, fun w hw => ?_, by rw [hd]; exact hK _ h⟩
  unfold Oper.quietAt
  rw [run_enter f fn xs ts hop hf hn hb]
  exact ⟨rfl, (hcall w hw).mono fun e w' ⟨h1, h2⟩ => ⟨h1, hCB w w' hw h2⟩⟩
theorem quiet_call_if (hCB : ∀ w w', C w → Below w.heap.size w w' → C w') {o : Oper} {rest : List Oper} {a : Act} {u : Value} {d k dk : Nat} {b bb c c' : Bool} (hg : o.guard = some (k, bb)) (hk : (ops[k]?).bind (·.dst) = some dk) (he : a.eval (.tmp dk) = cv c (.bool b)) (hd : o.dst = some d) (hc : (c && (b == bb)) = c')
    (f : FuncId) (fn : Func) (xs : Array Operand) (ts : Array TypeId) (hop : o.op = .call { callee := .value (.func f), args := xs, argTypes := ts }) (hf : P.funcs[f]? = some fn) (hn : (fn.name == "runtime.NumGoroutine") = false) (hb : fn.body.isNone = false)
    (vs : Array Value) (hx : c' = true → xs.map a.eval = vs) (hcall : c' = true → ∀ w, C w → Calls P f vs w fun e w' => e = .returned u ∧ Below w.heap.size w w')
    (h : wpQuiet P ops C Q rest (a.put (some d) (cv c' u))) : wpQuiet P ops C Q (o :: rest) a := by
  have hw : Region.wanted o (yielded ops a.tmps) = c' := by
    rw [← hc]
    cases c with
    | true => rw [cv_true] at he; rw [wanted_eq hg hk he, Bool.true_and]
    | false => rw [wanted_no hg hk he, Bool.false_and]
  refine wpQuiet_step fun K hK => ?_
  by_cases hb' : c' = true
  · rw [cv_of hb'] at h
    rw [if_pos (by rw [hw, hb'])]
    refine ⟨u, fun w hw => ?_, by rw [hd]; exact hK _ h⟩
    unfold Oper.quietAt
    rw [run_enter f fn xs ts hop hf hn hb, hx hb']
    exact ⟨rfl, (hcall hb' w hw).mono fun e w' ⟨h1, h2⟩ => ⟨h1, hCB w w' hw h2⟩⟩
  · rw [show cv c' u = undef from if_neg hb'] at h
    rw [if_neg (by rw [hw]; exact hb')]
    rw [hd]
    exact hK _ h
theorem abs_quiet {rest : List Oper} (a : Act) (h : ∀ b : Act, b = a → wpQuiet P ops C Q rest b) : wpQuiet P ops C Q rest a := h a rfl
/-- The class of worlds of QuietBelow. -/
theorem grown_cb (w0 : World) : ∀ w w' : World, (∃ p : Regrown, w = Sort.grow (redrawn w0 p.d) p.os) → Below w.heap.size w w' → ∃ p : Regrown, w' = Sort.grow (redrawn w0 p.d) p.os := by
  rintro w w' ⟨p, rfl⟩ hb
  exact regrown_of_below ((below_regrown w0 p.d p.os).trans (hb.mono (below_regrown w0 p.d p.os).size))
theorem grown_below (w0 : World) : ∀ w : World, (∃ p : Regrown, w = Sort.grow (redrawn w0 p.d) p.os) → Below w0.heap.size w0 w := by
  rintro w ⟨p, rfl⟩
  exact below_regrown w0 p.d p.os
end
end Go.Proofs.Ytfpcneekbdcbcaa.kit
