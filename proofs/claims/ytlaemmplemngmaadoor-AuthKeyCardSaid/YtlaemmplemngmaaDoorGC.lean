/- Layer 6: is all but the number of gaps and dups as it must be, by the program; may a chunk be (gen-ckg.py wrote this). -/
import Derived.Great.BuildSlice
import Derived.Lib.QuietBelow
import Derived.Laws.BitsAllLaws
import Derived.Test.YtlaemmplemngmaaDoorGB
namespace Go.Proofs.YtlaemmplemngmaaDoor.ck
open Go.ChangeShapes Go.WideShapes Go.ChangeAt Go.RowKit kit oct par chk
set_option maxRecDepth 100000

theorem below_if {c : Bool} {w w' : World} {o : Obj} (h1 : c = true → w' = w.alloc o) (h2 : c = false → w' = w) : Below w.heap.size w w' := by
  cases c
  · rw [h2 rfl]; exact Below.refl _ _
  · rw [h1 rfl]; exact (Below.refl _ _).alloc (Nat.le_refl _) _
theorem build4_any (a b c d : Int) (w : World) : (Instr.buildSlice 101 4 #[(0, .int .i64 a), (1, .int .i64 b), (2, .int .i64 c), (3, .int .i64 d)]).run Tryd.prog w = .ok (.slice (some ⟨w.heap.size, 0, none⟩) 4 4) (w.alloc (.cells #[.int .i64 a, .int .i64 b, .int .i64 c, .int .i64 d] 3)) := by
  kernel_rfl
theorem row_new4 (w : World) (t : TypeId) (a b c d : Int) : Row (w.alloc (.cells #[.int .i64 a, .int .i64 b, .int .i64 c, .int .i64 d] t)) (w.alloc (.cells #[.int .i64 a, .int .i64 b, .int .i64 c, .int .i64 d] t)).heap.size 1 (.slice (some ⟨w.heap.size, 0, none⟩) 4 4) 4 ([a, b, c, d].map (.int .i64)) := by
  have B := Blk.new w t #[.int .i64 a, .int .i64 b, .int .i64 c, .int .i64 d]
  refine ⟨rfl, _, ⟨w.heap.size, 0, none⟩, 4, rfl, by decide, by decide, fun _ => ⟨rfl, B.lt⟩, fun i j hi hj => ?_⟩
  obtain rfl : j = 0 := by omega
  have := B.cell i
  rw [show ((⟨w.heap.size, 0, none⟩ : Addr).add (i * 1)).add 0 = ⟨w.heap.size, i, none⟩ by rw [add_z, Nat.mul_one]; unfold Addr.add; split <;> simp_all]
  rw [this]
  rcases i with _ | _ | _ | _ | i <;> first | rfl | omega
def formedV (t1B t2B t3B t4B t5B t6B t7B t8B t9B t10B t11B : Bool) : Bool := (((((((((t1B && t2B) && t3B) && t4B) && t5B) && t6B) && t7B) && t8B) && (t9B || (!t10B))) && t11B)
def formedF (X : Ck) : Bool := formedV (decide ((0 : Int) ≤ (X.ty : Int))) (decide ((X.ty : Int) ≤ (255 : Int))) (flMay X.ty X.fl) ((!([X.st, X.ss, X.ou, X.ii].any no16))) (decide (((X.d.size : Nat) : Int) ≤ (900 : Int))) ((decide (X.P.length ≤ 16) && X.P.all fun p => mayP p.1 p.2)) ((decide (X.K.length ≤ 16) && X.K.all fun p => mayP p.1 p.2)) ((risO X.G).isSome) (((X.tg : Int) != (0 : Int))) ((decide (kindV X.ty = 1))) ((bareF X X.P.length X.K.length X.G.length X.D.length (kindV X.ty)))
set_option maxHeartbeats 8000000 in
theorem formed_any {X : Ck} {w : World} {B : Nat} {vP vK vG vD : Value} (HWx : CkW X) (M : CkM w B X vP vK vG vD) (hB : B ≤ w.heap.size) : Calls Tryd.prog 21 #[.agg (ckc X vP vK vG vD)] w fun e w' => e = .returned (.bool (formedF X)) ∧ Below w.heap.size w w' := by
  obtain ⟨rb, hrb⟩ : ∃ rb, formedF X = rb := ⟨_, rfl⟩
  rw [hrb]
  have HRB := Lib.hid hrb
  clear hrb
  have HW := Lib.hid HWx
  obtain ⟨oP, cP, rfl, -, -⟩ := M.P.shape
  obtain ⟨oK, cK, rfl, -, -⟩ := M.K.shape
  obtain ⟨oG, cG, rfl, -, -⟩ := M.G.shape
  obtain ⟨oD, cD, rfl, -, -⟩ := M.D.shape
  have HM := Lib.hid (show ∀ w', Below w.heap.size w w' → CkM w' B X _ _ _ _ from fun w' h => M.below (h.mono hB))
  have HB0 := Lib.hid hB
  have hdz := HWx.d
  clear M hB HWx
  have X0 := Blk.new w 33 (ckc X (.slice oP X.P.length cP) (.slice oK X.K.length cK) (.slice oG X.G.length cG) (.slice oD X.D.length cD))
  have belw0 := (Below.refl w.heap.size w).alloc (Nat.le_refl _) (.cells (ckc X (.slice oP X.P.length cP) (.slice oK X.K.length cK) (.slice oG X.G.length cG) (.slice oD X.D.length cD)) 33)
  unfold ckc at X0 belw0 ⊢
  go_enter Tryd.func21, Tryd.ntmps21
  go_upto_region 1 with fail
  obtain ⟨w0, hw0⟩ : ∃ w0, w.alloc (.cells #[.int .i64 X.ty, .int .i64 X.fl, .int .u32 X.tsn, .int .i64 X.st, .int .i64 X.ss, .int .u32 X.pr, .string X.d, .int .u32 X.tg, .int .u32 X.rw, .int .i64 X.ou, .int .i64 X.ii, .slice oP X.P.length cP, .slice oK X.K.length cK, .slice oG X.G.length cG, .slice oD X.D.length cD] 33) = w0 := ⟨_, rfl⟩
  rw [hw0] at X0 belw0
  try rw [hw0]
  clear hw0
  obtain ⟨cb, hcb⟩ : ∃ cb, w.heap.size = cb := ⟨_, rfl⟩
  have hcl := X0.lt
  rw [hcb] at X0 hcl
  try rw [hcb]
  obtain ⟨t1B, ht1B⟩ : ∃ b : Bool, decide ((0 : Int) ≤ (X.ty : Int)) = b := ⟨_, rfl⟩
  obtain ⟨t2B, ht2B⟩ : ∃ b : Bool, decide ((X.ty : Int) ≤ (255 : Int)) = b := ⟨_, rfl⟩
  obtain ⟨t3B, ht3B⟩ : ∃ b : Bool, flMay X.ty X.fl = b := ⟨_, rfl⟩
  obtain ⟨t4B, ht4B⟩ : ∃ b : Bool, (!([X.st, X.ss, X.ou, X.ii].any no16)) = b := ⟨_, rfl⟩
  obtain ⟨t5B, ht5B⟩ : ∃ b : Bool, decide (((X.d.size : Nat) : Int) ≤ (900 : Int)) = b := ⟨_, rfl⟩
  obtain ⟨t6B, ht6B⟩ : ∃ b : Bool, (decide (X.P.length ≤ 16) && X.P.all fun p => mayP p.1 p.2) = b := ⟨_, rfl⟩
  obtain ⟨t7B, ht7B⟩ : ∃ b : Bool, (decide (X.K.length ≤ 16) && X.K.all fun p => mayP p.1 p.2) = b := ⟨_, rfl⟩
  obtain ⟨t8B, ht8B⟩ : ∃ b : Bool, (risO X.G).isSome = b := ⟨_, rfl⟩
  obtain ⟨t9B, ht9B⟩ : ∃ b : Bool, ((X.tg : Int) != (0 : Int)) = b := ⟨_, rfl⟩
  obtain ⟨t10B, ht10B⟩ : ∃ b : Bool, (decide (kindV X.ty = 1)) = b := ⟨_, rfl⟩
  obtain ⟨t11B, ht11B⟩ : ∃ b : Bool, (bareF X X.P.length X.K.length X.G.length X.D.length (kindV X.ty)) = b := ⟨_, rfl⟩
  go_upto_region 1 with fail
  refine wp_region_lit ?_
  refine abs_list _ (fun ac hac => ?_)
  have hsz : ac.tmps.size = 66 := by rw [hac]; rfl
  have f1 : ac.eval (.tmp 1) = .pointer (some ⟨cb, 0, none⟩) := by rw [hac]; rfl
  have HB := Lib.hid hac
  clear hac
  refine list_val (u := .pointer (some ⟨cb, 0, none⟩)) rfl rfl (run_field (s := .pointer (some ⟨cb, 0, none⟩)) rfl f1 (by kernel_rfl)) ?_
  refine abs_list _ (fun a1 h1 => ?_)
  have z1 := sp h1 hsz
  replace f1 := kp h1 (by decide) f1
  have f3 := nw h1 hsz (by decide)
  replace h1 := Lib.hid h1
  refine list_val (u := .int .i64 X.ty) rfl rfl (run_load1 (s := .pointer (some ⟨cb, 0, none⟩)) rfl f3 (by have c : w0.cell? ⟨cb, 0, none⟩ = some (.int .i64 X.ty) := X0.cell 0; go_simp)) ?_
  refine abs_list _ (fun a2 h2 => ?_)
  have z2 := sp h2 z1
  replace f1 := kp h2 (by decide) f1
  have f4 := nw h2 z1 (by decide)
  clear f3 z1
  replace h2 := Lib.hid h2
  refine list_val (u := .bool t1B) rfl rfl (run_ord (s := .int .i64 X.ty) (j := .int .i64 0) rfl (.inr (.inr (.inr (.inl rfl)))) f4 rfl ((geq_i3 _ _ _).trans (by rw [ht1B]))) ?_
  refine abs_list _ (fun a3 h3 => ?_)
  have z3 := sp h3 z2
  replace f1 := kp h3 (by decide) f1
  have f5 := nw h3 z2 (by decide)
  clear f4 z2
  replace h3 := Lib.hid h3
  refine list_val (u := .bool t1B) rfl rfl (run_move rfl f5 _) ?_
  refine abs_list _ (fun a4 h4 => ?_)
  have z4 := sp h4 z3
  replace f1 := kp h4 (by decide) f1
  have f6 := nw h4 z3 (by decide)
  clear f5 z3
  replace h4 := Lib.hid h4
  refine list_if (u := .pointer (some ⟨cb, 0, none⟩)) (b := t1B) (c := true) (c' := t1B) (dk := 6) rfl (by kernel_rfl) (f6.trans (cv_true _).symm) rfl (by cases t1B <;> rfl) (fun h => run_field (s := .pointer (some ⟨cb, 0, none⟩)) rfl f1 (by kernel_rfl)) ?_
  refine abs_list _ (fun a5 h5 => ?_)
  have z5 := sp h5 z4
  replace f1 := kp h5 (by decide) f1
  replace f6 := kp h5 (by decide) f6
  have f7 := nw h5 z4 (by decide)
  clear z4
  replace h5 := Lib.hid h5
  refine list_if (u := .int .i64 X.ty) (b := t1B) (c := true) (c' := t1B) (dk := 6) rfl (by kernel_rfl) (f6.trans (cv_true _).symm) rfl (by cases t1B <;> rfl) (fun h => run_load1 (s := .pointer (some ⟨cb, 0, none⟩)) rfl (f7.trans (cv_of h)) (by have c : w0.cell? ⟨cb, 0, none⟩ = some (.int .i64 X.ty) := X0.cell 0; go_simp)) ?_
  refine abs_list _ (fun a6 h6 => ?_)
  have z6 := sp h6 z5
  replace f1 := kp h6 (by decide) f1
  replace f6 := kp h6 (by decide) f6
  have f8 := nw h6 z5 (by decide)
  clear f7 z5
  replace h6 := Lib.hid h6
  refine list_if (u := .bool t2B) (b := t1B) (c := true) (c' := t1B) (dk := 6) rfl (by kernel_rfl) (f6.trans (cv_true _).symm) rfl (by cases t1B <;> rfl) (fun h => run_ord (s := .int .i64 X.ty) (j := .int .i64 255) rfl (.inr (.inr (.inl rfl))) (f8.trans (cv_of h)) rfl ((leq_i3 _ _ _).trans (by rw [ht2B]))) ?_
  refine abs_list _ (fun a7 h7 => ?_)
  have z7 := sp h7 z6
  replace f1 := kp h7 (by decide) f1
  replace f6 := kp h7 (by decide) f6
  have f9 := nw h7 z6 (by decide)
  clear f8 z6
  replace h7 := Lib.hid h7
  obtain ⟨q1B, hq1B⟩ : ∃ q : Bool, (t1B && t2B) = q := ⟨_, rfl⟩
  refine list_val (u := .bool q1B) rfl rfl (run_pick (b := t1B) rfl f6 (by rw [f9, ← hq1B]; cases t1B <;> cases t2B <;> simp [cv, eval_const])) ?_
  refine abs_list _ (fun a8 h8 => ?_)
  have z8 := sp h8 z7
  replace f1 := kp h8 (by decide) f1
  have f10 := nw h8 z7 (by decide)
  clear f6 f9 z7
  replace h8 := Lib.hid h8
  refine list_val (u := .bool q1B) rfl rfl (run_move rfl f10 _) ?_
  refine abs_list _ (fun a9 h9 => ?_)
  have z9 := sp h9 z8
  replace f1 := kp h9 (by decide) f1
  have f11 := nw h9 z8 (by decide)
  clear f10 z8
  replace h9 := Lib.hid h9
  refine list_if (u := .pointer (some ⟨cb, 0, none⟩)) (b := q1B) (c := true) (c' := q1B) (dk := 11) rfl (by kernel_rfl) (f11.trans (cv_true _).symm) rfl (by cases q1B <;> rfl) (fun h => run_field (s := .pointer (some ⟨cb, 0, none⟩)) rfl f1 (by kernel_rfl)) ?_
  refine abs_list _ (fun a10 h10 => ?_)
  have z10 := sp h10 z9
  replace f1 := kp h10 (by decide) f1
  replace f11 := kp h10 (by decide) f11
  have f12 := nw h10 z9 (by decide)
  clear z9
  replace h10 := Lib.hid h10
  refine list_if (u := .int .i64 X.ty) (b := q1B) (c := true) (c' := q1B) (dk := 11) rfl (by kernel_rfl) (f11.trans (cv_true _).symm) rfl (by cases q1B <;> rfl) (fun h => run_load1 (s := .pointer (some ⟨cb, 0, none⟩)) rfl (f12.trans (cv_of h)) (by have c : w0.cell? ⟨cb, 0, none⟩ = some (.int .i64 X.ty) := X0.cell 0; go_simp)) ?_
  refine abs_list _ (fun a11 h11 => ?_)
  have z11 := sp h11 z10
  replace f1 := kp h11 (by decide) f1
  replace f11 := kp h11 (by decide) f11
  have f13 := nw h11 z10 (by decide)
  clear f12 z10
  replace h11 := Lib.hid h11
  refine list_if (u := .pointer (some ⟨cb, 1, none⟩)) (b := q1B) (c := true) (c' := q1B) (dk := 11) rfl (by kernel_rfl) (f11.trans (cv_true _).symm) rfl (by cases q1B <;> rfl) (fun h => run_field (s := .pointer (some ⟨cb, 0, none⟩)) rfl f1 (by kernel_rfl)) ?_
  refine abs_list _ (fun a12 h12 => ?_)
  have z12 := sp h12 z11
  replace f1 := kp h12 (by decide) f1
  replace f11 := kp h12 (by decide) f11
  replace f13 := kp h12 (by decide) f13
  have f14 := nw h12 z11 (by decide)
  clear z11
  replace h12 := Lib.hid h12
  refine list_if (u := .int .i64 X.fl) (b := q1B) (c := true) (c' := q1B) (dk := 11) rfl (by kernel_rfl) (f11.trans (cv_true _).symm) rfl (by cases q1B <;> rfl) (fun h => run_load1 (s := .pointer (some ⟨cb, 1, none⟩)) rfl (f14.trans (cv_of h)) (by have c : w0.cell? ⟨cb, 1, none⟩ = some (.int .i64 X.fl) := X0.cell 1; go_simp)) ?_
  refine abs_list _ (fun a13 h13 => ?_)
  have z13 := sp h13 z12
  replace f1 := kp h13 (by decide) f1
  replace f11 := kp h13 (by decide) f11
  replace f13 := kp h13 (by decide) f13
  have f15 := nw h13 z12 (by decide)
  clear f14 z12
  replace h13 := Lib.hid h13
  refine list_call_if (u := .bool t3B) (R := Below w0.heap.size w0) (b := q1B) (c := true) (c' := q1B) (dk := 11) rfl (by kernel_rfl) (f11.trans (cv_true _).symm) rfl (by cases q1B <;> rfl) 40 Tryd.f40 _ _ rfl Tryd.func40 (by kernel_rfl) (by kernel_rfl) #[.int .i64 X.ty, .int .i64 X.fl] (fun h => by rw [show ((#[.tmp 13, .tmp 15] : Array Operand).map a13.eval) = #[a13.eval (.tmp 13), a13.eval (.tmp 15)] by simp, (f13.trans (cv_of h)), (f15.trans (cv_of h))]) (fun h => by rw [← ht3B]; exact flagsMay_any X.ty X.fl HW.out.fl.1 HW.out.fl.2 w0) (Below.refl _ _) (fun u1 hbu1 => ?_)
  have Xu1 := X0.below hbu1 X0.lt
  have belu1 := belw0.trans (hbu1.mono belw0.size)
  clear X0 belw0 hbu1
  refine abs_list _ (fun a14 h14 => ?_)
  have z14 := sp h14 z13
  replace f1 := kp h14 (by decide) f1
  replace f11 := kp h14 (by decide) f11
  have f16 := nw h14 z13 (by decide)
  clear f13 f15 z13
  replace h14 := Lib.hid h14
  obtain ⟨q2B, hq2B⟩ : ∃ q : Bool, (q1B && t3B) = q := ⟨_, rfl⟩
  refine list_val (u := .bool q2B) rfl rfl (run_pick (b := q1B) rfl f11 (by rw [f16, ← hq2B]; cases q1B <;> cases t3B <;> simp [cv, eval_const])) ?_
  refine abs_list _ (fun a15 h15 => ?_)
  have z15 := sp h15 z14
  replace f1 := kp h15 (by decide) f1
  have f17 := nw h15 z14 (by decide)
  clear f11 f16 z14
  replace h15 := Lib.hid h15
  refine list_val (u := .bool q2B) rfl rfl (run_move rfl f17 _) ?_
  refine abs_list _ (fun a16 h16 => ?_)
  have z16 := sp h16 z15
  replace f1 := kp h16 (by decide) f1
  have f18 := nw h16 z15 (by decide)
  clear f17 z15
  replace h16 := Lib.hid h16
  refine list_if (u := .pointer (some ⟨cb, 3, none⟩)) (b := q2B) (c := true) (c' := q2B) (dk := 18) rfl (by kernel_rfl) (f18.trans (cv_true _).symm) rfl (by cases q2B <;> rfl) (fun h => run_field (s := .pointer (some ⟨cb, 0, none⟩)) rfl f1 (by kernel_rfl)) ?_
  refine abs_list _ (fun a17 h17 => ?_)
  have z17 := sp h17 z16
  replace f1 := kp h17 (by decide) f1
  replace f18 := kp h17 (by decide) f18
  have f19 := nw h17 z16 (by decide)
  clear z16
  replace h17 := Lib.hid h17
  refine list_if (u := .int .i64 X.st) (b := q2B) (c := true) (c' := q2B) (dk := 18) rfl (by kernel_rfl) (f18.trans (cv_true _).symm) rfl (by cases q2B <;> rfl) (fun h => run_load1 (s := .pointer (some ⟨cb, 3, none⟩)) rfl (f19.trans (cv_of h)) (by have c : u1.cell? ⟨cb, 3, none⟩ = some (.int .i64 X.st) := Xu1.cell 3; go_simp)) ?_
  refine abs_list _ (fun a18 h18 => ?_)
  have z18 := sp h18 z17
  replace f1 := kp h18 (by decide) f1
  replace f18 := kp h18 (by decide) f18
  have f20 := nw h18 z17 (by decide)
  clear f19 z17
  replace h18 := Lib.hid h18
  refine list_if (u := .pointer (some ⟨cb, 4, none⟩)) (b := q2B) (c := true) (c' := q2B) (dk := 18) rfl (by kernel_rfl) (f18.trans (cv_true _).symm) rfl (by cases q2B <;> rfl) (fun h => run_field (s := .pointer (some ⟨cb, 0, none⟩)) rfl f1 (by kernel_rfl)) ?_
  refine abs_list _ (fun a19 h19 => ?_)
  have z19 := sp h19 z18
  replace f1 := kp h19 (by decide) f1
  replace f18 := kp h19 (by decide) f18
  replace f20 := kp h19 (by decide) f20
  have f21 := nw h19 z18 (by decide)
  clear z18
  replace h19 := Lib.hid h19
  refine list_if (u := .int .i64 X.ss) (b := q2B) (c := true) (c' := q2B) (dk := 18) rfl (by kernel_rfl) (f18.trans (cv_true _).symm) rfl (by cases q2B <;> rfl) (fun h => run_load1 (s := .pointer (some ⟨cb, 4, none⟩)) rfl (f21.trans (cv_of h)) (by have c : u1.cell? ⟨cb, 4, none⟩ = some (.int .i64 X.ss) := Xu1.cell 4; go_simp)) ?_
  refine abs_list _ (fun a20 h20 => ?_)
  have z20 := sp h20 z19
  replace f1 := kp h20 (by decide) f1
  replace f18 := kp h20 (by decide) f18
  replace f20 := kp h20 (by decide) f20
  have f22 := nw h20 z19 (by decide)
  clear f21 z19
  replace h20 := Lib.hid h20
  refine list_if (u := .pointer (some ⟨cb, 9, none⟩)) (b := q2B) (c := true) (c' := q2B) (dk := 18) rfl (by kernel_rfl) (f18.trans (cv_true _).symm) rfl (by cases q2B <;> rfl) (fun h => run_field (s := .pointer (some ⟨cb, 0, none⟩)) rfl f1 (by kernel_rfl)) ?_
  refine abs_list _ (fun a21 h21 => ?_)
  have z21 := sp h21 z20
  replace f1 := kp h21 (by decide) f1
  replace f18 := kp h21 (by decide) f18
  replace f20 := kp h21 (by decide) f20
  replace f22 := kp h21 (by decide) f22
  have f23 := nw h21 z20 (by decide)
  clear z20
  replace h21 := Lib.hid h21
  refine list_if (u := .int .i64 X.ou) (b := q2B) (c := true) (c' := q2B) (dk := 18) rfl (by kernel_rfl) (f18.trans (cv_true _).symm) rfl (by cases q2B <;> rfl) (fun h => run_load1 (s := .pointer (some ⟨cb, 9, none⟩)) rfl (f23.trans (cv_of h)) (by have c : u1.cell? ⟨cb, 9, none⟩ = some (.int .i64 X.ou) := Xu1.cell 9; go_simp)) ?_
  refine abs_list _ (fun a22 h22 => ?_)
  have z22 := sp h22 z21
  replace f1 := kp h22 (by decide) f1
  replace f18 := kp h22 (by decide) f18
  replace f20 := kp h22 (by decide) f20
  replace f22 := kp h22 (by decide) f22
  have f24 := nw h22 z21 (by decide)
  clear f23 z21
  replace h22 := Lib.hid h22
  refine list_if (u := .pointer (some ⟨cb, 10, none⟩)) (b := q2B) (c := true) (c' := q2B) (dk := 18) rfl (by kernel_rfl) (f18.trans (cv_true _).symm) rfl (by cases q2B <;> rfl) (fun h => run_field (s := .pointer (some ⟨cb, 0, none⟩)) rfl f1 (by kernel_rfl)) ?_
  refine abs_list _ (fun a23 h23 => ?_)
  have z23 := sp h23 z22
  replace f1 := kp h23 (by decide) f1
  replace f18 := kp h23 (by decide) f18
  replace f20 := kp h23 (by decide) f20
  replace f22 := kp h23 (by decide) f22
  replace f24 := kp h23 (by decide) f24
  have f25 := nw h23 z22 (by decide)
  clear z22
  replace h23 := Lib.hid h23
  refine list_if (u := .int .i64 X.ii) (b := q2B) (c := true) (c' := q2B) (dk := 18) rfl (by kernel_rfl) (f18.trans (cv_true _).symm) rfl (by cases q2B <;> rfl) (fun h => run_load1 (s := .pointer (some ⟨cb, 10, none⟩)) rfl (f25.trans (cv_of h)) (by have c : u1.cell? ⟨cb, 10, none⟩ = some (.int .i64 X.ii) := Xu1.cell 10; go_simp)) ?_
  refine abs_list _ (fun a24 h24 => ?_)
  have z24 := sp h24 z23
  replace f1 := kp h24 (by decide) f1
  replace f18 := kp h24 (by decide) f18
  replace f20 := kp h24 (by decide) f20
  replace f22 := kp h24 (by decide) f22
  replace f24 := kp h24 (by decide) f24
  have f26 := nw h24 z23 (by decide)
  clear f25 z23
  replace h24 := Lib.hid h24
  refine list_make_if (u := .slice (some ⟨u1.heap.size, 0, none⟩) 4 4) (w1 := u1.alloc (.cells #[.int .i64 X.st, .int .i64 X.ss, .int .i64 X.ou, .int .i64 X.ii] 3)) (b := q2B) (c := true) (c' := q2B) (dk := 18) rfl (by kernel_rfl) (f18.trans (cv_true _).symm) rfl (by cases q2B <;> rfl) (fun h => run_build4 rfl (f20.trans (cv_of h)) (f22.trans (cv_of h)) (f24.trans (cv_of h)) (f26.trans (cv_of h)) (build4_any _ _ _ _ _)) (fun u2 htu2 hfu2 => ?_)
  have hbu2 := below_if htu2 hfu2
  have Xu2 := Xu1.below hbu2 Xu1.lt
  have belu2 := belu1.trans (hbu2.mono belu1.size)
  clear Xu1 belu1 hbu2
  have hrow : q2B = true → Row u2 u2.heap.size 1 (.slice (some ⟨u1.heap.size, 0, none⟩) 4 4) 4 ([X.st, X.ss, X.ou, X.ii].map (.int .i64)) := fun h => by rw [htu2 h]; exact row_new4 _ _ _ _ _ _
  refine abs_list _ (fun a25 h25 => ?_)
  have z25 := sp h25 z24
  replace f1 := kp h25 (by decide) f1
  replace f18 := kp h25 (by decide) f18
  have f27 := nw h25 z24 (by decide)
  clear f20 f22 f24 f26 z24
  replace h25 := Lib.hid h25
  refine list_call_if (u := .bool t4B) (R := Below u2.heap.size u2) (b := q2B) (c := true) (c' := q2B) (dk := 18) rfl (by kernel_rfl) (f18.trans (cv_true _).symm) rfl (by cases q2B <;> rfl) 41 Tryd.f41 _ _ rfl Tryd.func41 (by kernel_rfl) (by kernel_rfl) #[.slice (some ⟨u1.heap.size, 0, none⟩) 4 4] (fun h => by rw [show ((#[.tmp 27] : Array Operand).map a25.eval) = #[a25.eval (.tmp 27)] by simp, (f27.trans (cv_of h))]) (fun h => by rw [← ht4B]; exact within_any (L := [X.st, X.ss, X.ou, X.ii]) (hrow (by first | exact h | (revert h; simp))) (Nat.le_refl _) (show 4 ≤ 20 by decide)) (Below.refl _ _) (fun u3 hbu3 => ?_)
  have Xu3 := Xu2.below hbu3 Xu2.lt
  have belu3 := belu2.trans (hbu3.mono belu2.size)
  clear Xu2 belu2 hbu3
  refine abs_list _ (fun a26 h26 => ?_)
  have z26 := sp h26 z25
  replace f1 := kp h26 (by decide) f1
  replace f18 := kp h26 (by decide) f18
  have f28 := nw h26 z25 (by decide)
  clear f27 z25
  replace h26 := Lib.hid h26
  obtain ⟨q3B, hq3B⟩ : ∃ q : Bool, (q2B && t4B) = q := ⟨_, rfl⟩
  refine list_val (u := .bool q3B) rfl rfl (run_pick (b := q2B) rfl f18 (by rw [f28, ← hq3B]; cases q2B <;> cases t4B <;> simp [cv, eval_const])) ?_
  refine abs_list _ (fun a27 h27 => ?_)
  have z27 := sp h27 z26
  replace f1 := kp h27 (by decide) f1
  have f29 := nw h27 z26 (by decide)
  clear f18 f28 z26
  replace h27 := Lib.hid h27
  refine list_val (u := .bool q3B) rfl rfl (run_move rfl f29 _) ?_
  refine abs_list _ (fun a28 h28 => ?_)
  have z28 := sp h28 z27
  replace f1 := kp h28 (by decide) f1
  have f30 := nw h28 z27 (by decide)
  clear f29 z27
  replace h28 := Lib.hid h28
  refine list_if (u := .pointer (some ⟨cb, 6, none⟩)) (b := q3B) (c := true) (c' := q3B) (dk := 30) rfl (by kernel_rfl) (f30.trans (cv_true _).symm) rfl (by cases q3B <;> rfl) (fun h => run_field (s := .pointer (some ⟨cb, 0, none⟩)) rfl f1 (by kernel_rfl)) ?_
  refine abs_list _ (fun a29 h29 => ?_)
  have z29 := sp h29 z28
  replace f1 := kp h29 (by decide) f1
  replace f30 := kp h29 (by decide) f30
  have f31 := nw h29 z28 (by decide)
  clear z28
  replace h29 := Lib.hid h29
  refine list_if (u := .string X.d) (b := q3B) (c := true) (c' := q3B) (dk := 30) rfl (by kernel_rfl) (f30.trans (cv_true _).symm) rfl (by cases q3B <;> rfl) (fun h => run_load1 (s := .pointer (some ⟨cb, 6, none⟩)) rfl (f31.trans (cv_of h)) (by have c : u3.cell? ⟨cb, 6, none⟩ = some (.string X.d) := Xu3.cell 6; go_simp)) ?_
  refine abs_list _ (fun a30 h30 => ?_)
  have z30 := sp h30 z29
  replace f1 := kp h30 (by decide) f1
  replace f30 := kp h30 (by decide) f30
  have f32 := nw h30 z29 (by decide)
  clear f31 z29
  replace h30 := Lib.hid h30
  refine list_if (u := .int .i64 (X.d.size : Nat)) (b := q3B) (c := true) (c' := q3B) (dk := 30) rfl (by kernel_rfl) (f30.trans (cv_true _).symm) rfl (by cases q3B <;> rfl) (fun h => run_lens (s := .string X.d) rfl (f32.trans (cv_of h)) (fun cs => len_st _ _ cs)) ?_
  refine abs_list _ (fun a31 h31 => ?_)
  have z31 := sp h31 z30
  replace f1 := kp h31 (by decide) f1
  replace f30 := kp h31 (by decide) f30
  have f33 := nw h31 z30 (by decide)
  clear f32 z30
  replace h31 := Lib.hid h31
  refine list_if (u := .bool t5B) (b := q3B) (c := true) (c' := q3B) (dk := 30) rfl (by kernel_rfl) (f30.trans (cv_true _).symm) rfl (by cases q3B <;> rfl) (fun h => run_ord (s := .int .i64 (X.d.size : Nat)) (j := .int .i64 900) rfl (.inr (.inr (.inl rfl))) (f33.trans (cv_of h)) rfl ((leq_i3 _ _ _).trans (by rw [ht5B]))) ?_
  refine abs_list _ (fun a32 h32 => ?_)
  have z32 := sp h32 z31
  replace f1 := kp h32 (by decide) f1
  replace f30 := kp h32 (by decide) f30
  have f34 := nw h32 z31 (by decide)
  clear f33 z31
  replace h32 := Lib.hid h32
  obtain ⟨q4B, hq4B⟩ : ∃ q : Bool, (q3B && t5B) = q := ⟨_, rfl⟩
  refine list_val (u := .bool q4B) rfl rfl (run_pick (b := q3B) rfl f30 (by rw [f34, ← hq4B]; cases q3B <;> cases t5B <;> simp [cv, eval_const])) ?_
  refine abs_list _ (fun a33 h33 => ?_)
  have z33 := sp h33 z32
  replace f1 := kp h33 (by decide) f1
  have f35 := nw h33 z32 (by decide)
  clear f30 f34 z32
  replace h33 := Lib.hid h33
  refine list_val (u := .bool q4B) rfl rfl (run_move rfl f35 _) ?_
  refine abs_list _ (fun a34 h34 => ?_)
  have z34 := sp h34 z33
  replace f1 := kp h34 (by decide) f1
  have f36 := nw h34 z33 (by decide)
  clear f35 z33
  replace h34 := Lib.hid h34
  refine list_if (u := .pointer (some ⟨cb, 11, none⟩)) (b := q4B) (c := true) (c' := q4B) (dk := 36) rfl (by kernel_rfl) (f36.trans (cv_true _).symm) rfl (by cases q4B <;> rfl) (fun h => run_field (s := .pointer (some ⟨cb, 0, none⟩)) rfl f1 (by kernel_rfl)) ?_
  refine abs_list _ (fun a35 h35 => ?_)
  have z35 := sp h35 z34
  replace f1 := kp h35 (by decide) f1
  replace f36 := kp h35 (by decide) f36
  have f37 := nw h35 z34 (by decide)
  clear z34
  replace h35 := Lib.hid h35
  refine list_if (u := .slice oP X.P.length cP) (b := q4B) (c := true) (c' := q4B) (dk := 36) rfl (by kernel_rfl) (f36.trans (cv_true _).symm) rfl (by cases q4B <;> rfl) (fun h => run_load1 (s := .pointer (some ⟨cb, 11, none⟩)) rfl (f37.trans (cv_of h)) (by have c : u3.cell? ⟨cb, 11, none⟩ = some (.slice oP X.P.length cP) := Xu3.cell 11; go_simp)) ?_
  refine abs_list _ (fun a36 h36 => ?_)
  have z36 := sp h36 z35
  replace f1 := kp h36 (by decide) f1
  replace f36 := kp h36 (by decide) f36
  have f38 := nw h36 z35 (by decide)
  clear f37 z35
  replace h36 := Lib.hid h36
  refine list_call_if (u := .bool t6B) (R := Below u3.heap.size u3) (b := q4B) (c := true) (c' := q4B) (dk := 36) rfl (by kernel_rfl) (f36.trans (cv_true _).symm) rfl (by cases q4B <;> rfl) 42 Tryd.f42 _ _ rfl Tryd.func42 (by kernel_rfl) (by kernel_rfl) #[.slice oP X.P.length cP] (fun h => by rw [show ((#[.tmp 38] : Array Operand).map a36.eval) = #[a36.eval (.tmp 38)] by simp, (f38.trans (cv_of h))]) (fun h => by rw [← ht6B]; exact paramsMay_any ((HM.out _ belu3).P) (Nat.le_trans HB0.out belu3.size) (by have := HW.out.P; omega)) (Below.refl _ _) (fun u4 hbu4 => ?_)
  have Xu4 := Xu3.below hbu4 Xu3.lt
  have belu4 := belu3.trans (hbu4.mono belu3.size)
  clear Xu3 belu3 hbu4
  refine abs_list _ (fun a37 h37 => ?_)
  have z37 := sp h37 z36
  replace f1 := kp h37 (by decide) f1
  replace f36 := kp h37 (by decide) f36
  have f39 := nw h37 z36 (by decide)
  clear f38 z36
  replace h37 := Lib.hid h37
  obtain ⟨q5B, hq5B⟩ : ∃ q : Bool, (q4B && t6B) = q := ⟨_, rfl⟩
  refine list_val (u := .bool q5B) rfl rfl (run_pick (b := q4B) rfl f36 (by rw [f39, ← hq5B]; cases q4B <;> cases t6B <;> simp [cv, eval_const])) ?_
  refine abs_list _ (fun a38 h38 => ?_)
  have z38 := sp h38 z37
  replace f1 := kp h38 (by decide) f1
  have f40 := nw h38 z37 (by decide)
  clear f36 f39 z37
  replace h38 := Lib.hid h38
  refine list_val (u := .bool q5B) rfl rfl (run_move rfl f40 _) ?_
  refine abs_list _ (fun a39 h39 => ?_)
  have z39 := sp h39 z38
  replace f1 := kp h39 (by decide) f1
  have f41 := nw h39 z38 (by decide)
  clear f40 z38
  replace h39 := Lib.hid h39
  refine list_if (u := .pointer (some ⟨cb, 12, none⟩)) (b := q5B) (c := true) (c' := q5B) (dk := 41) rfl (by kernel_rfl) (f41.trans (cv_true _).symm) rfl (by cases q5B <;> rfl) (fun h => run_field (s := .pointer (some ⟨cb, 0, none⟩)) rfl f1 (by kernel_rfl)) ?_
  refine abs_list _ (fun a40 h40 => ?_)
  have z40 := sp h40 z39
  replace f1 := kp h40 (by decide) f1
  replace f41 := kp h40 (by decide) f41
  have f42 := nw h40 z39 (by decide)
  clear z39
  replace h40 := Lib.hid h40
  refine list_if (u := .slice oK X.K.length cK) (b := q5B) (c := true) (c' := q5B) (dk := 41) rfl (by kernel_rfl) (f41.trans (cv_true _).symm) rfl (by cases q5B <;> rfl) (fun h => run_load1 (s := .pointer (some ⟨cb, 12, none⟩)) rfl (f42.trans (cv_of h)) (by have c : u4.cell? ⟨cb, 12, none⟩ = some (.slice oK X.K.length cK) := Xu4.cell 12; go_simp)) ?_
  refine abs_list _ (fun a41 h41 => ?_)
  have z41 := sp h41 z40
  replace f1 := kp h41 (by decide) f1
  replace f41 := kp h41 (by decide) f41
  have f43 := nw h41 z40 (by decide)
  clear f42 z40
  replace h41 := Lib.hid h41
  refine list_call_if (u := .bool t7B) (R := Below u4.heap.size u4) (b := q5B) (c := true) (c' := q5B) (dk := 41) rfl (by kernel_rfl) (f41.trans (cv_true _).symm) rfl (by cases q5B <;> rfl) 43 Tryd.f43 _ _ rfl Tryd.func43 (by kernel_rfl) (by kernel_rfl) #[.slice oK X.K.length cK] (fun h => by rw [show ((#[.tmp 43] : Array Operand).map a41.eval) = #[a41.eval (.tmp 43)] by simp, (f43.trans (cv_of h))]) (fun h => by rw [← ht7B]; exact causesMay_any ((HM.out _ belu4).K) (Nat.le_trans HB0.out belu4.size) (by have := HW.out.K; omega)) (Below.refl _ _) (fun u5 hbu5 => ?_)
  have Xu5 := Xu4.below hbu5 Xu4.lt
  have belu5 := belu4.trans (hbu5.mono belu4.size)
  clear Xu4 belu4 hbu5
  refine abs_list _ (fun a42 h42 => ?_)
  have z42 := sp h42 z41
  replace f1 := kp h42 (by decide) f1
  replace f41 := kp h42 (by decide) f41
  have f44 := nw h42 z41 (by decide)
  clear f43 z41
  replace h42 := Lib.hid h42
  obtain ⟨q6B, hq6B⟩ : ∃ q : Bool, (q5B && t7B) = q := ⟨_, rfl⟩
  refine list_val (u := .bool q6B) rfl rfl (run_pick (b := q5B) rfl f41 (by rw [f44, ← hq6B]; cases q5B <;> cases t7B <;> simp [cv, eval_const])) ?_
  refine abs_list _ (fun a43 h43 => ?_)
  have z43 := sp h43 z42
  replace f1 := kp h43 (by decide) f1
  have f45 := nw h43 z42 (by decide)
  clear f41 f44 z42
  replace h43 := Lib.hid h43
  refine list_val (u := .bool q6B) rfl rfl (run_move rfl f45 _) ?_
  refine abs_list _ (fun a44 h44 => ?_)
  have z44 := sp h44 z43
  replace f1 := kp h44 (by decide) f1
  have f46 := nw h44 z43 (by decide)
  clear f45 z43
  replace h44 := Lib.hid h44
  refine list_if (u := .pointer (some ⟨cb, 13, none⟩)) (b := q6B) (c := true) (c' := q6B) (dk := 46) rfl (by kernel_rfl) (f46.trans (cv_true _).symm) rfl (by cases q6B <;> rfl) (fun h => run_field (s := .pointer (some ⟨cb, 0, none⟩)) rfl f1 (by kernel_rfl)) ?_
  refine abs_list _ (fun a45 h45 => ?_)
  have z45 := sp h45 z44
  replace f1 := kp h45 (by decide) f1
  replace f46 := kp h45 (by decide) f46
  have f47 := nw h45 z44 (by decide)
  clear z44
  replace h45 := Lib.hid h45
  refine list_if (u := .slice oG X.G.length cG) (b := q6B) (c := true) (c' := q6B) (dk := 46) rfl (by kernel_rfl) (f46.trans (cv_true _).symm) rfl (by cases q6B <;> rfl) (fun h => run_load1 (s := .pointer (some ⟨cb, 13, none⟩)) rfl (f47.trans (cv_of h)) (by have c : u5.cell? ⟨cb, 13, none⟩ = some (.slice oG X.G.length cG) := Xu5.cell 13; go_simp)) ?_
  refine abs_list _ (fun a46 h46 => ?_)
  have z46 := sp h46 z45
  replace f1 := kp h46 (by decide) f1
  replace f46 := kp h46 (by decide) f46
  have f48 := nw h46 z45 (by decide)
  clear f47 z45
  replace h46 := Lib.hid h46
  refine list_call_if (u := .bool t8B) (R := Below u5.heap.size u5) (b := q6B) (c := true) (c' := q6B) (dk := 46) rfl (by kernel_rfl) (f46.trans (cv_true _).symm) rfl (by cases q6B <;> rfl) 44 Tryd.f44 _ _ rfl Tryd.func44 (by kernel_rfl) (by kernel_rfl) #[.slice oG X.G.length cG] (fun h => by rw [show ((#[.tmp 48] : Array Operand).map a46.eval) = #[a46.eval (.tmp 48)] by simp, (f48.trans (cv_of h))]) (fun h => by rw [← ht8B]; exact rising_any ((HM.out _ belu5).G) (Nat.le_trans HB0.out belu5.size) (by have := HW.out.G; omega)) (Below.refl _ _) (fun u6 hbu6 => ?_)
  have Xu6 := Xu5.below hbu6 Xu5.lt
  have belu6 := belu5.trans (hbu6.mono belu5.size)
  clear Xu5 belu5 hbu6
  refine abs_list _ (fun a47 h47 => ?_)
  have z47 := sp h47 z46
  replace f1 := kp h47 (by decide) f1
  replace f46 := kp h47 (by decide) f46
  have f49 := nw h47 z46 (by decide)
  clear f48 z46
  replace h47 := Lib.hid h47
  obtain ⟨q7B, hq7B⟩ : ∃ q : Bool, (q6B && t8B) = q := ⟨_, rfl⟩
  refine list_val (u := .bool q7B) rfl rfl (run_pick (b := q6B) rfl f46 (by rw [f49, ← hq7B]; cases q6B <;> cases t8B <;> simp [cv, eval_const])) ?_
  refine abs_list _ (fun a48 h48 => ?_)
  have z48 := sp h48 z47
  replace f1 := kp h48 (by decide) f1
  have f50 := nw h48 z47 (by decide)
  clear f46 f49 z47
  replace h48 := Lib.hid h48
  refine list_val (u := .bool q7B) rfl rfl (run_move rfl f50 _) ?_
  refine abs_list _ (fun a49 h49 => ?_)
  have z49 := sp h49 z48
  replace f1 := kp h49 (by decide) f1
  have f51 := nw h49 z48 (by decide)
  clear f50 z48
  replace h49 := Lib.hid h49
  refine list_if (u := .pointer (some ⟨cb, 7, none⟩)) (b := q7B) (c := true) (c' := q7B) (dk := 51) rfl (by kernel_rfl) (f51.trans (cv_true _).symm) rfl (by cases q7B <;> rfl) (fun h => run_field (s := .pointer (some ⟨cb, 0, none⟩)) rfl f1 (by kernel_rfl)) ?_
  refine abs_list _ (fun a50 h50 => ?_)
  have z50 := sp h50 z49
  replace f1 := kp h50 (by decide) f1
  replace f51 := kp h50 (by decide) f51
  have f52 := nw h50 z49 (by decide)
  clear z49
  replace h50 := Lib.hid h50
  refine list_if (u := .int .u32 X.tg) (b := q7B) (c := true) (c' := q7B) (dk := 51) rfl (by kernel_rfl) (f51.trans (cv_true _).symm) rfl (by cases q7B <;> rfl) (fun h => run_load1 (s := .pointer (some ⟨cb, 7, none⟩)) rfl (f52.trans (cv_of h)) (by have c : u6.cell? ⟨cb, 7, none⟩ = some (.int .u32 X.tg) := Xu6.cell 7; go_simp)) ?_
  refine abs_list _ (fun a51 h51 => ?_)
  have z51 := sp h51 z50
  replace f1 := kp h51 (by decide) f1
  replace f51 := kp h51 (by decide) f51
  have f53 := nw h51 z50 (by decide)
  clear f52 z50
  replace h51 := Lib.hid h51
  refine list_if (u := .bool t9B) (b := q7B) (c := true) (c' := q7B) (dk := 51) rfl (by kernel_rfl) (f51.trans (cv_true _).symm) rfl (by cases q7B <;> rfl) (fun h => run_cmp_int (k := .u32) (p := X.tg) (q := 0) rfl (.inl rfl) (f53.trans (cv_of h)) rfl ((neq_i22 _ _ _).trans (by rw [ht9B]))) ?_
  refine abs_list _ (fun a52 h52 => ?_)
  have z52 := sp h52 z51
  replace f1 := kp h52 (by decide) f1
  replace f51 := kp h52 (by decide) f51
  have f54 := nw h52 z51 (by decide)
  clear f53 z51
  replace h52 := Lib.hid h52
  refine list_if (u := .bool t9B) (b := q7B) (c := true) (c' := q7B) (dk := 51) rfl (by kernel_rfl) (f51.trans (cv_true _).symm) rfl (by cases q7B <;> rfl) (fun h => run_move rfl (f54.trans (cv_of h)) _) ?_
  refine abs_list _ (fun a53 h53 => ?_)
  have z53 := sp h53 z52
  replace f1 := kp h53 (by decide) f1
  replace f51 := kp h53 (by decide) f51
  have f55 := nw h53 z52 (by decide)
  clear f54 z52
  replace h53 := Lib.hid h53
  refine list_if (u := .pointer (some ⟨cb, 0, none⟩)) (b := t9B) (c := q7B) (c' := (q7B && (!t9B))) (dk := 55) rfl (by kernel_rfl) f55 rfl (by cases q7B <;> cases t9B <;> rfl) (fun h => run_field (s := .pointer (some ⟨cb, 0, none⟩)) rfl f1 (by kernel_rfl)) ?_
  refine abs_list _ (fun a54 h54 => ?_)
  have z54 := sp h54 z53
  replace f1 := kp h54 (by decide) f1
  replace f51 := kp h54 (by decide) f51
  replace f55 := kp h54 (by decide) f55
  have f56 := nw h54 z53 (by decide)
  clear z53
  replace h54 := Lib.hid h54
  refine list_if (u := .int .i64 X.ty) (b := t9B) (c := q7B) (c' := (q7B && (!t9B))) (dk := 55) rfl (by kernel_rfl) f55 rfl (by cases q7B <;> cases t9B <;> rfl) (fun h => run_load1 (s := .pointer (some ⟨cb, 0, none⟩)) rfl (f56.trans (cv_of h)) (by have c : u6.cell? ⟨cb, 0, none⟩ = some (.int .i64 X.ty) := Xu6.cell 0; go_simp)) ?_
  refine abs_list _ (fun a55 h55 => ?_)
  have z55 := sp h55 z54
  replace f1 := kp h55 (by decide) f1
  replace f51 := kp h55 (by decide) f51
  replace f55 := kp h55 (by decide) f55
  have f57 := nw h55 z54 (by decide)
  clear f56 z54
  replace h55 := Lib.hid h55
  refine list_call_if (u := .bool t10B) (R := Below u6.heap.size u6) (b := t9B) (c := q7B) (c' := (q7B && (!t9B))) (dk := 55) rfl (by kernel_rfl) f55 rfl (by cases q7B <;> cases t9B <;> rfl) 45 Tryd.f45 _ _ rfl Tryd.func45 (by kernel_rfl) (by kernel_rfl) #[.int .i64 X.ty] (fun h => by rw [show ((#[.tmp 57] : Array Operand).map a55.eval) = #[a55.eval (.tmp 57)] by simp, (f57.trans (cv_of h))]) (fun h => by rw [← ht10B]; exact begins_any X.ty u6) (Below.refl _ _) (fun u7 hbu7 => ?_)
  have Xu7 := Xu6.below hbu7 Xu6.lt
  have belu7 := belu6.trans (hbu7.mono belu6.size)
  clear Xu6 belu6 hbu7
  refine abs_list _ (fun a56 h56 => ?_)
  have z56 := sp h56 z55
  replace f1 := kp h56 (by decide) f1
  replace f51 := kp h56 (by decide) f51
  replace f55 := kp h56 (by decide) f55
  have f58 := nw h56 z55 (by decide)
  clear f57 z55
  replace h56 := Lib.hid h56
  refine list_if (u := .bool (!t10B)) (b := t9B) (c := q7B) (c' := (q7B && (!t9B))) (dk := 55) rfl (by kernel_rfl) f55 rfl (by cases q7B <;> cases t9B <;> rfl) (fun h => run_not (b := t10B) rfl (f58.trans (cv_of h))) ?_
  refine abs_list _ (fun a57 h57 => ?_)
  have z57 := sp h57 z56
  replace f1 := kp h57 (by decide) f1
  replace f51 := kp h57 (by decide) f51
  replace f55 := kp h57 (by decide) f55
  have f59 := nw h57 z56 (by decide)
  clear f58 z56
  replace h57 := Lib.hid h57
  obtain ⟨q8B, hq8B⟩ : ∃ q : Bool, (t9B || (!t10B)) = q := ⟨_, rfl⟩
  refine list_if (u := .bool q8B) (b := q7B) (c := true) (c' := q7B) (dk := 51) rfl (by kernel_rfl) (f51.trans (cv_true _).symm) rfl (by cases q7B <;> rfl) (fun h => run_pick (b := t9B) rfl (f55.trans (cv_of h)) (by rw [f59, ← hq8B]; revert h; cases q7B <;> cases t10B <;> cases t9B <;> simp [cv, eval_const])) ?_
  refine abs_list _ (fun a58 h58 => ?_)
  have z58 := sp h58 z57
  replace f1 := kp h58 (by decide) f1
  replace f51 := kp h58 (by decide) f51
  have f60 := nw h58 z57 (by decide)
  clear f55 f59 z57
  replace h58 := Lib.hid h58
  obtain ⟨q9B, hq9B⟩ : ∃ q : Bool, (q7B && q8B) = q := ⟨_, rfl⟩
  refine list_val (u := .bool q9B) rfl rfl (run_pick (b := q7B) rfl f51 (by rw [f60, ← hq9B]; cases q7B <;> cases q8B <;> simp [cv, eval_const])) ?_
  refine abs_list _ (fun a59 h59 => ?_)
  have z59 := sp h59 z58
  replace f1 := kp h59 (by decide) f1
  have f61 := nw h59 z58 (by decide)
  clear f51 f60 z58
  replace h59 := Lib.hid h59
  refine list_val (u := .bool q9B) rfl rfl (run_move rfl f61 _) ?_
  refine abs_list _ (fun a60 h60 => ?_)
  have z60 := sp h60 z59
  replace f1 := kp h60 (by decide) f1
  have f62 := nw h60 z59 (by decide)
  clear f61 z59
  replace h60 := Lib.hid h60
  refine list_if (u := .agg #[.int .i64 X.ty, .int .i64 X.fl, .int .u32 X.tsn, .int .i64 X.st, .int .i64 X.ss, .int .u32 X.pr, .string X.d, .int .u32 X.tg, .int .u32 X.rw, .int .i64 X.ou, .int .i64 X.ii, .slice oP X.P.length cP, .slice oK X.K.length cK, .slice oG X.G.length cG, .slice oD X.D.length cD]) (b := q9B) (c := true) (c' := q9B) (dk := 62) rfl (by kernel_rfl) (f62.trans (cv_true _).symm) rfl (by cases q9B <;> rfl) (fun h => run_load_at (h := cb) (off := 0) (cs := #[.int .i64 X.ty, .int .i64 X.fl, .int .u32 X.tsn, .int .i64 X.st, .int .i64 X.ss, .int .u32 X.pr, .string X.d, .int .u32 X.tg, .int .u32 X.rw, .int .i64 X.ou, .int .i64 X.ii, .slice oP X.P.length cP, .slice oK X.K.length cK, .slice oG X.G.length cG, .slice oD X.D.length cD]) rfl f1 _ Tryd.underlying33 rfl (by kernel_rfl) (Cel.of_blk Xu7)) ?_
  refine abs_list _ (fun a61 h61 => ?_)
  have z61 := sp h61 z60
  replace f1 := kp h61 (by decide) f1
  replace f62 := kp h61 (by decide) f62
  have f63 := nw h61 z60 (by decide)
  clear z60
  replace h61 := Lib.hid h61
  refine list_call_if (u := .bool t11B) (R := Below u7.heap.size u7) (b := q9B) (c := true) (c' := q9B) (dk := 62) rfl (by kernel_rfl) (f62.trans (cv_true _).symm) rfl (by cases q9B <;> rfl) 46 Tryd.f46 _ _ rfl Tryd.func46 (by kernel_rfl) (by kernel_rfl) #[.agg #[.int .i64 X.ty, .int .i64 X.fl, .int .u32 X.tsn, .int .i64 X.st, .int .i64 X.ss, .int .u32 X.pr, .string X.d, .int .u32 X.tg, .int .u32 X.rw, .int .i64 X.ou, .int .i64 X.ii, .slice oP X.P.length cP, .slice oK X.K.length cK, .slice oG X.G.length cG, .slice oD X.D.length cD]] (fun h => by rw [show ((#[.tmp 63] : Array Operand).map a61.eval) = #[a61.eval (.tmp 63)] by simp, (f63.trans (cv_of h))]) (fun h => by rw [← ht11B]; exact bare_any X oP oK oG oD X.P.length cP X.K.length cK X.G.length cG X.D.length cD (by have h1 := HW.out.P; have h2 := HW.out.K; have h3 := HW.out.G; have h4 := HW.out.D; omega) u7) (Below.refl _ _) (fun u8 hbu8 => ?_)
  have Xu8 := Xu7.below hbu8 Xu7.lt
  have belu8 := belu7.trans (hbu8.mono belu7.size)
  clear Xu7 belu7 hbu8
  refine abs_list _ (fun a62 h62 => ?_)
  have z62 := sp h62 z61
  replace f1 := kp h62 (by decide) f1
  replace f62 := kp h62 (by decide) f62
  have f64 := nw h62 z61 (by decide)
  clear f63 z61
  replace h62 := Lib.hid h62
  obtain ⟨q10B, hq10B⟩ : ∃ q : Bool, (q9B && t11B) = q := ⟨_, rfl⟩
  refine list_val (u := .bool q10B) rfl rfl (run_pick (b := q9B) rfl f62 (by rw [f64, ← hq10B]; cases q9B <;> cases t11B <;> simp [cv, eval_const])) ?_
  refine abs_list _ (fun a63 h63 => ?_)
  have z63 := sp h63 z62
  replace f1 := kp h63 (by decide) f1
  have f65 := nw h63 z62 (by decide)
  clear f62 f64 z62
  replace h63 := Lib.hid h63
  refine list_val (u := .bool q10B) rfl rfl (run_assign rfl f65 _) ?_
  refine abs_list _ (fun a64 h64 => ?_)
  have z64 := sp h64 z63
  replace f1 := kp h64 (by decide) f1
  have f2 := nw h64 z63 (by decide)
  clear f65 z63
  replace h64 := Lib.hid h64
  refine wpList_nil ?_
  rw [h64.out, h63.out, h62.out, h61.out, h60.out, h59.out, h58.out, h57.out, h56.out, h55.out, h54.out, h53.out, h52.out, h51.out, h50.out, h49.out, h48.out, h47.out, h46.out, h45.out, h44.out, h43.out, h42.out, h41.out, h40.out, h39.out, h38.out, h37.out, h36.out, h35.out, h34.out, h33.out, h32.out, h31.out, h30.out, h29.out, h28.out, h27.out, h26.out, h25.out, h24.out, h23.out, h22.out, h21.out, h20.out, h19.out, h18.out, h17.out, h16.out, h15.out, h14.out, h13.out, h12.out, h11.out, h10.out, h9.out, h8.out, h7.out, h6.out, h5.out, h4.out, h3.out, h2.out, h1.out, HB.out]
  simp only [Act.put, List.setIfInBounds_toArray, List.set_cons_zero, List.set_cons_succ]
  clear f1 f2 z64 HB hsz h1 h2 h3 h4 h5 h6 h7 h8 h9 h10 h11 h12 h13 h14 h15 h16 h17 h18 h19 h20 h21 h22 h23 h24 h25 h26 h27 h28 h29 h30 h31 h32 h33 h34 h35 h36 h37 h38 h39 h40 h41 h42 h43 h44 h45 h46 h47 h48 h49 h50 h51 h52 h53 h54 h55 h56 h57 h58 h59 h60 h61 h62 h63 h64
  have HY := Lib.hid (show rb = q10B by
    rw [← HRB.out]
    unfold formedF
    rw [ht1B, ht2B, ht3B, ht4B, ht5B, ht6B, ht7B, ht8B, ht9B, ht10B, ht11B]
    subst_vars
    rfl)
  clear HW
  go_wp2_with fail
  go_ret
  exact ⟨ret_bool HY.out.symm, belu8⟩
def mayCV (s1B s2B : Bool) : Bool := (s1B && s2B)
def mayF (X : Ck) : Bool := mayCV ((formedF X)) ((fewF X.G.length X.D.length))
set_option maxHeartbeats 4000000 in
theorem cmay_law {X : Ck} {w : World} {B : Nat} {vP vK vG vD : Value} (HWx : CkW X) (M : CkM w B X vP vK vG vD) (hB : B ≤ w.heap.size) : Calls Tryd.prog 12 #[.agg (ckc X vP vK vG vD)] w fun e w' => e = .returned (.bool (mayF X)) ∧ Below w.heap.size w w' := by
  obtain ⟨rb, hrb⟩ : ∃ rb, mayF X = rb := ⟨_, rfl⟩
  rw [hrb]
  have HRB := Lib.hid hrb
  clear hrb
  have HW := Lib.hid HWx
  obtain ⟨oP, cP, rfl, -, -⟩ := M.P.shape
  obtain ⟨oK, cK, rfl, -, -⟩ := M.K.shape
  obtain ⟨oG, cG, rfl, -, -⟩ := M.G.shape
  obtain ⟨oD, cD, rfl, -, -⟩ := M.D.shape
  have HM := Lib.hid (show ∀ w', Below w.heap.size w w' → CkM w' B X _ _ _ _ from fun w' h => M.below (h.mono hB))
  have HB0 := Lib.hid hB
  clear M hB HWx
  have X0 := Blk.new w 33 (ckc X (.slice oP X.P.length cP) (.slice oK X.K.length cK) (.slice oG X.G.length cG) (.slice oD X.D.length cD))
  have belw0 := (Below.refl w.heap.size w).alloc (Nat.le_refl _) (.cells (ckc X (.slice oP X.P.length cP) (.slice oK X.K.length cK) (.slice oG X.G.length cG) (.slice oD X.D.length cD)) 33)
  unfold ckc at X0 belw0 ⊢
  go_enter Tryd.func12, Tryd.ntmps12
  go_upto_region 1 with fail
  obtain ⟨w0, hw0⟩ : ∃ w0, w.alloc (.cells #[.int .i64 X.ty, .int .i64 X.fl, .int .u32 X.tsn, .int .i64 X.st, .int .i64 X.ss, .int .u32 X.pr, .string X.d, .int .u32 X.tg, .int .u32 X.rw, .int .i64 X.ou, .int .i64 X.ii, .slice oP X.P.length cP, .slice oK X.K.length cK, .slice oG X.G.length cG, .slice oD X.D.length cD] 33) = w0 := ⟨_, rfl⟩
  rw [hw0] at X0 belw0
  try rw [hw0]
  clear hw0
  obtain ⟨cb, hcb⟩ : ∃ cb, w.heap.size = cb := ⟨_, rfl⟩
  have hcl := X0.lt
  rw [hcb] at X0 hcl
  try rw [hcb]
  obtain ⟨s1B, hs1B⟩ : ∃ b : Bool, (formedF X) = b := ⟨_, rfl⟩
  obtain ⟨s2B, hs2B⟩ : ∃ b : Bool, (fewF X.G.length X.D.length) = b := ⟨_, rfl⟩
  go_upto_region 1 with fail
  refine wp_region_lit ?_
  refine abs_list _ (fun ac hac => ?_)
  have hsz : ac.tmps.size = 9 := by rw [hac]; rfl
  have f1 : ac.eval (.tmp 1) = .pointer (some ⟨cb, 0, none⟩) := by rw [hac]; rfl
  have HB := Lib.hid hac
  clear hac
  refine list_val (u := .agg #[.int .i64 X.ty, .int .i64 X.fl, .int .u32 X.tsn, .int .i64 X.st, .int .i64 X.ss, .int .u32 X.pr, .string X.d, .int .u32 X.tg, .int .u32 X.rw, .int .i64 X.ou, .int .i64 X.ii, .slice oP X.P.length cP, .slice oK X.K.length cK, .slice oG X.G.length cG, .slice oD X.D.length cD]) rfl rfl (run_load_at (h := cb) (off := 0) (cs := #[.int .i64 X.ty, .int .i64 X.fl, .int .u32 X.tsn, .int .i64 X.st, .int .i64 X.ss, .int .u32 X.pr, .string X.d, .int .u32 X.tg, .int .u32 X.rw, .int .i64 X.ou, .int .i64 X.ii, .slice oP X.P.length cP, .slice oK X.K.length cK, .slice oG X.G.length cG, .slice oD X.D.length cD]) rfl f1 _ Tryd.underlying33 rfl (by kernel_rfl) (Cel.of_blk X0)) ?_
  refine abs_list _ (fun a1 h1 => ?_)
  have z1 := sp h1 hsz
  replace f1 := kp h1 (by decide) f1
  have f3 := nw h1 hsz (by decide)
  replace h1 := Lib.hid h1
  refine list_call (u := .bool s1B) (R := Below w0.heap.size w0) rfl rfl 21 Tryd.f21 _ _ rfl Tryd.func21 (by kernel_rfl) (by kernel_rfl) #[.agg #[.int .i64 X.ty, .int .i64 X.fl, .int .u32 X.tsn, .int .i64 X.st, .int .i64 X.ss, .int .u32 X.pr, .string X.d, .int .u32 X.tg, .int .u32 X.rw, .int .i64 X.ou, .int .i64 X.ii, .slice oP X.P.length cP, .slice oK X.K.length cK, .slice oG X.G.length cG, .slice oD X.D.length cD]] (by rw [show ((#[.tmp 3] : Array Operand).map a1.eval) = #[a1.eval (.tmp 3)] by simp, f3]) (by rw [← hs1B]; exact formed_any HW.out (HM.out _ belw0) (Nat.le_trans HB0.out belw0.size)) (fun u1 hbu1 => ?_)
  have Xu1 := X0.below hbu1 X0.lt
  have belu1 := belw0.trans (hbu1.mono belw0.size)
  clear X0 belw0 hbu1
  refine abs_list _ (fun a2 h2 => ?_)
  have z2 := sp h2 z1
  replace f1 := kp h2 (by decide) f1
  have f4 := nw h2 z1 (by decide)
  clear f3 z1
  replace h2 := Lib.hid h2
  refine list_val (u := .bool s1B) rfl rfl (run_move rfl f4 _) ?_
  refine abs_list _ (fun a3 h3 => ?_)
  have z3 := sp h3 z2
  replace f1 := kp h3 (by decide) f1
  have f5 := nw h3 z2 (by decide)
  clear f4 z2
  replace h3 := Lib.hid h3
  refine list_if (u := .agg #[.int .i64 X.ty, .int .i64 X.fl, .int .u32 X.tsn, .int .i64 X.st, .int .i64 X.ss, .int .u32 X.pr, .string X.d, .int .u32 X.tg, .int .u32 X.rw, .int .i64 X.ou, .int .i64 X.ii, .slice oP X.P.length cP, .slice oK X.K.length cK, .slice oG X.G.length cG, .slice oD X.D.length cD]) (b := s1B) (c := true) (c' := s1B) (dk := 5) rfl (by kernel_rfl) (f5.trans (cv_true _).symm) rfl (by cases s1B <;> rfl) (fun h => run_load_at (h := cb) (off := 0) (cs := #[.int .i64 X.ty, .int .i64 X.fl, .int .u32 X.tsn, .int .i64 X.st, .int .i64 X.ss, .int .u32 X.pr, .string X.d, .int .u32 X.tg, .int .u32 X.rw, .int .i64 X.ou, .int .i64 X.ii, .slice oP X.P.length cP, .slice oK X.K.length cK, .slice oG X.G.length cG, .slice oD X.D.length cD]) rfl f1 _ Tryd.underlying33 rfl (by kernel_rfl) (Cel.of_blk Xu1)) ?_
  refine abs_list _ (fun a4 h4 => ?_)
  have z4 := sp h4 z3
  replace f1 := kp h4 (by decide) f1
  replace f5 := kp h4 (by decide) f5
  have f6 := nw h4 z3 (by decide)
  clear z3
  replace h4 := Lib.hid h4
  refine list_call_if (u := .bool s2B) (R := Below u1.heap.size u1) (b := s1B) (c := true) (c' := s1B) (dk := 5) rfl (by kernel_rfl) (f5.trans (cv_true _).symm) rfl (by cases s1B <;> rfl) 22 Tryd.f22 _ _ rfl Tryd.func22 (by kernel_rfl) (by kernel_rfl) #[.agg #[.int .i64 X.ty, .int .i64 X.fl, .int .u32 X.tsn, .int .i64 X.st, .int .i64 X.ss, .int .u32 X.pr, .string X.d, .int .u32 X.tg, .int .u32 X.rw, .int .i64 X.ou, .int .i64 X.ii, .slice oP X.P.length cP, .slice oK X.K.length cK, .slice oG X.G.length cG, .slice oD X.D.length cD]] (fun h => by rw [show ((#[.tmp 6] : Array Operand).map a4.eval) = #[a4.eval (.tmp 6)] by simp, (f6.trans (cv_of h))]) (fun h => by rw [← hs2B]; exact few_any X oP oK oG oD X.P.length cP X.K.length cK X.G.length cG X.D.length cD u1) (Below.refl _ _) (fun u2 hbu2 => ?_)
  have Xu2 := Xu1.below hbu2 Xu1.lt
  have belu2 := belu1.trans (hbu2.mono belu1.size)
  clear Xu1 belu1 hbu2
  refine abs_list _ (fun a5 h5 => ?_)
  have z5 := sp h5 z4
  replace f1 := kp h5 (by decide) f1
  replace f5 := kp h5 (by decide) f5
  have f7 := nw h5 z4 (by decide)
  clear f6 z4
  replace h5 := Lib.hid h5
  obtain ⟨q1B, hq1B⟩ : ∃ q : Bool, (s1B && s2B) = q := ⟨_, rfl⟩
  refine list_val (u := .bool q1B) rfl rfl (run_pick (b := s1B) rfl f5 (by rw [f7, ← hq1B]; cases s1B <;> cases s2B <;> simp [cv, eval_const])) ?_
  refine abs_list _ (fun a6 h6 => ?_)
  have z6 := sp h6 z5
  replace f1 := kp h6 (by decide) f1
  have f8 := nw h6 z5 (by decide)
  clear f5 f7 z5
  replace h6 := Lib.hid h6
  refine list_val (u := .bool q1B) rfl rfl (run_assign rfl f8 _) ?_
  refine abs_list _ (fun a7 h7 => ?_)
  have z7 := sp h7 z6
  replace f1 := kp h7 (by decide) f1
  have f2 := nw h7 z6 (by decide)
  clear f8 z6
  replace h7 := Lib.hid h7
  refine wpList_nil ?_
  rw [h7.out, h6.out, h5.out, h4.out, h3.out, h2.out, h1.out, HB.out]
  simp only [Act.put, List.setIfInBounds_toArray, List.set_cons_zero, List.set_cons_succ]
  clear f1 f2 z7 HB hsz h1 h2 h3 h4 h5 h6 h7
  have HY := Lib.hid (show rb = q1B by
    rw [← HRB.out]
    unfold mayF
    rw [hs1B, hs2B]
    subst_vars
    rfl)
  clear HW
  go_wp2_with fail
  go_ret
  exact ⟨ret_bool HY.out.symm, belu2⟩
end Go.Proofs.YtlaemmplemngmaaDoor.ck
/- Layer 6: which chunks may be, in words (pure). -/
namespace Go.Proofs.YtlaemmplemngmaaDoor.ck
open Go.ChangeShapes Go.WideShapes Go.ChangeAt Go.RowKit kit oct par chk
set_option maxRecDepth 100000

theorem toList_same (a b : ByteArray) : (a.toList = b.toList) ↔ a = b := by
  refine ⟨fun e => ?_, fun e => by rw [e]⟩
  rw [ByteArray.toList_eq, ByteArray.toList_eq] at e
  exact ByteArray.ext (Array.toList_inj.1 e)
theorem toList_nil (a : ByteArray) : a.toList = [] ↔ a = ByteArray.empty := by
  rw [← toList_same a ByteArray.empty, show ByteArray.empty.toList = [] by rw [ByteArray.toList_eq]; rfl]
/-- Nothing that those of its type have not. -/
def CkZ (X : Ck) (nP nK nG nD : Nat) (k : Int) : Prop :=
  ((k ≠ 0 → k ≠ 1 → k ≠ 3 → k ≠ 7 → k ≠ 16 → X.tsn = 0) ∧ (k ≠ 0 → k ≠ 15 → X.st = 0 ∧ X.ss = 0) ∧ (k ≠ 0 → X.pr = 0) ∧ (k ≠ 0 → k ≠ 4 → k ≠ 10 → k ≠ 15 → k ≠ 20 → X.d = ByteArray.empty)) ∧ ((k ≠ 1 → X.tg = 0 ∧ X.ou = 0 ∧ X.ii = 0) ∧ (k ≠ 1 → k ≠ 3 → X.rw = 0)) ∧ ((k ≠ 1 → k ≠ 16 → nP = 0) ∧ (k ≠ 6 → nK = 0) ∧ (k ≠ 3 → nG = 0 ∧ nD = 0))
set_option maxHeartbeats 4000000 in
theorem has_iff (X : Ck) (nP nK nG nD : Nat) (n : Int) : hasF X nP nK nG nD (kindV n) = false ↔ CkZ X nP nK nG nD (kindV n) := by
  rcases kinds n with h | h | h | h | h | h | h | h | h | h | h <;> rw [h] <;> unfold hasF hasV CkZ <;> simp [← toList_nil] <;> by_cases hd : X.d.toList = [] <;> (try simp [hd]) <;> omega
structure CkOk (X : Ck) : Prop where
  ty : 0 ≤ X.ty ∧ X.ty ≤ 255
  fl : 0 ≤ X.fl ∧ X.fl ≤ flagsV X.ty
  st : 0 ≤ X.st ∧ X.st ≤ 65535
  ss : 0 ≤ X.ss ∧ X.ss ≤ 65535
  ou : 0 ≤ X.ou ∧ X.ou ≤ 65535
  ii : 0 ≤ X.ii ∧ X.ii ≤ 65535
  d : X.d.size ≤ 900
  P : X.P.length ≤ 16
  K : X.K.length ≤ 16
  G : X.G.length ≤ 16
  D : X.D.length ≤ 16
  pm : ∀ p ∈ X.P, mayP p.1 p.2 = true
  km : ∀ p ∈ X.K, mayP p.1 p.2 = true
  ris : (risO X.G).isSome = true
  tg : X.tg ≠ 0 ∨ kindV X.ty ≠ 1
  z : CkZ X X.P.length X.K.length X.G.length X.D.length (kindV X.ty)
theorem no16_iff (n : Int) : no16 n = false ↔ 0 ≤ n ∧ n ≤ 65535 := by
  unfold no16
  rw [decide_eq_false_iff_not]
  omega
theorem may_iff (X : Ck) : mayF X = true ↔ CkOk X := by
  unfold mayF mayCV formedF formedV
  rw [fewF_eq, bare_has]
  simp only [Bool.and_eq_true, Bool.or_eq_true, Bool.not_eq_true', decide_eq_true_eq, bne_iff_ne, ne_eq, List.any_cons, List.any_nil, Bool.or_eq_false_iff, no16_iff, List.all_eq_true, has_iff, flMay, decide_eq_false_iff_not]
  constructor
  · rintro ⟨⟨⟨⟨⟨⟨⟨⟨⟨⟨h1, h2⟩, h3⟩, ⟨s1, s2, s3, s4, -⟩⟩, h5⟩, h6, h6'⟩, h7, h7'⟩, h8⟩, h9⟩, h10⟩, h11, h12⟩
    exact ⟨⟨h1, h2⟩, h3, s1, s2, s3, s4, by omega, h6, h7, h11, h12, h6', h7', h8, h9, h10⟩
  · intro h
    have hd := h.d
    exact ⟨⟨⟨⟨⟨⟨⟨⟨⟨⟨h.ty.1, h.ty.2⟩, h.fl⟩, h.st, h.ss, h.ou, h.ii, trivial⟩, by omega⟩, h.P, h.pm⟩, h.K, h.km⟩, h.ris⟩, h.tg⟩, h.z⟩, h.G, h.D⟩
/-- Gaps that rise lie between 2 and 65535. -/
theorem ris_foldl : ∀ (L : List (Int × Int)) (a : Int), 0 ≤ a → (L.foldl gstep (some a)).isSome = true → ∀ x ∈ L, (2 ≤ x.1 ∧ x.1 ≤ x.2 ∧ x.2 ≤ 65535)
  | [], _, _, _, x, hx => by simp at hx
  | g :: r, a, ha, h, x, hx => by
    rw [List.foldl_cons] at h
    by_cases hb : g.1 < a + 2 ∨ g.2 < g.1 ∨ 65535 < g.2
    · rw [show gstep (some a) g = none from if_pos hb, foldl_none] at h
      simp at h
    · rw [show gstep (some a) g = some g.2 from if_neg hb] at h
      rcases List.mem_cons.1 hx with rfl | hx
      · omega
      · exact ris_foldl r g.2 (by omega) h x hx
theorem CkOk.gap {X : Ck} (h : CkOk X) : ∀ x ∈ X.G, (2 ≤ x.1 ∧ x.1 ≤ x.2 ∧ x.2 ≤ 65535) := ris_foldl X.G 0 (by decide) h.ris
end Go.Proofs.YtlaemmplemngmaaDoor.ck
/- Layer 6: a chunk's bytes in words; rows of parameters and causes to bytes. -/
namespace Go.Proofs.YtlaemmplemngmaaDoor.ck
open Go.ChangeShapes Go.WideShapes Go.ChangeAt Go.RowKit kit oct par chk bld
set_option maxRecDepth 100000

theorem putAll_none (cap : Nat) (w : World) :
    Calls Tryd.prog 54 #[.slice none 0 cap] w fun e w' => e = .returned (.string (cat [])) ∧ Below w.heap.size w w' := by
  have hS := IsB_string w.heap.size w.heap.size ByteArray.empty _ (Lib.fresh_isBuilder 45 5 w) (by simp)
  have e0 : cat [] = ByteArray.empty := rfl
  rw [e0]
  go_enter Tryd.func54, Tryd.ntmps54
  go_wp2_with fail
  refine wp_loop_rounds 1 ?_
  rw [rounds_succ]
  go_wp2_with (go_at_call 20; refine hS.mono ?_; rintro e w2 ⟨rfl, hb2⟩)
  go_ret
  exact ⟨rfl, ((Below.refl _ _).alloc (Nat.le_refl _) _).trans hb2⟩
theorem cputAll_none (cap : Nat) (w : World) :
    Calls Tryd.prog 57 #[.slice none 0 cap] w fun e w' => e = .returned (.string (cat [])) ∧ Below w.heap.size w w' := by
  have hS := fun w => putAll_nil w
  generalize cat [] = S at *
  go_enter Tryd.func57, Tryd.ntmps57
  go_wp2_with fail
  refine wp_loop_rounds 1 ?_
  rw [rounds_succ]
  go_wp2_with (go_at_call 54; refine (hS _).mono ?_; rintro e w2 ⟨rfl, hb2⟩)
  go_ret
  exact ⟨rfl, hb2⟩
/-- A row as BldP has it. -/
theorem Row.rowL {w : World} {B : Nat} {v : Value} {ps : List (Int × ByteArray)} (h : Row w B 2 v ps.length (cellsP ps)) (hB : B ≤ w.heap.size) : (∃ cap, v = .slice none 0 cap ∧ ps = []) ∨ ∃ a cap, v = .slice (some a) ps.length cap ∧ ps.length ≤ cap ∧ cap ≤ maxLen ∧ RowL w a ps := by
  obtain ⟨oa, a, cap, rfl, h2, h3, h4, h5⟩ := h.val
  cases oa with
  | none =>
    have h0 : ps = [] := by
      rcases Nat.eq_zero_or_pos ps.length with q | q
      · exact List.length_eq_zero_iff.1 q
      · exact absurd (h4 q).1 (by simp)
    subst h0
    exact .inl ⟨cap, rfl, rfl⟩
  | some b =>
    refine .inr ⟨b, cap, rfl, h2, h3, fun h0 => ?_, fun ds p qs hp => ?_⟩
    · obtain ⟨e, hb⟩ := h4 h0
      obtain rfl : b = a := by simpa using e
      omega
    · have hl : ps.length = ds.length + 1 + qs.length := by rw [hp]; simp; omega
      obtain ⟨e, hb⟩ := h4 (by omega)
      obtain rfl : b = a := by simpa using e
      obtain ⟨e1, e2⟩ := cellsP_at ds qs p
      rw [← hp] at e1 e2
      have k0 := h5 ds.length 0 (by omega) (by decide)
      have k1 := h5 ds.length 1 (by omega) (by decide)
      exact ⟨by rw [← add_z, k0, Nat.add_zero, e1], by rw [← add_o, k1, e2]⟩
theorem putAll_any {w : World} {B : Nat} {v : Value} {ps : List (Int × ByteArray)} (h : Row w B 2 v ps.length (cellsP ps)) (hB : B ≤ w.heap.size) (hn : ps.length ≤ 16) : Calls Tryd.prog 54 #[v] w fun e w' => e = .returned (.string (cat ps)) ∧ Below w.heap.size w w' := by
  rcases h.rowL hB with ⟨cap, rfl, rfl⟩ | ⟨a, cap, rfl, h3, h4, h5⟩
  · exact putAll_none cap w
  · exact putAll_row a cap ps w hn h3 h4 h5
theorem cputAll_any {w : World} {B : Nat} {v : Value} {ps : List (Int × ByteArray)} (h : Row w B 2 v ps.length (cellsP ps)) (hB : B ≤ w.heap.size) (hn : ps.length ≤ 16) : Calls Tryd.prog 57 #[v] w fun e w' => e = .returned (.string (cat ps)) ∧ Below w.heap.size w w' := by
  rcases h.rowL hB with ⟨cap, rfl, rfl⟩ | ⟨a, cap, rfl, h3, h4, h5⟩
  · exact cputAll_none cap w
  · exact cputAll_row a cap ps w hn h3 h4 h5
/-- Gaps' and dups' bytes behind others. -/
def sackG (s : ByteArray) (L : List (Int × Int)) : ByteArray := L.foldl (fun s g => s ++ (p2 g.1 ++ p2 g.2)) s
def sackD (s : ByteArray) (L : List Int) : ByteArray := L.foldl (fun s d => s ++ p4 d) s
def sackF (X : Ck) : ByteArray := sackD (sackG (p4 X.tsn ++ p4 X.rw ++ p2 (X.G.length : Nat) ++ p2 (X.D.length : Nat)) X.G) X.D
theorem sackG_snoc (s : ByteArray) (L : List (Int × Int)) (g : Int × Int) : sackG s (L ++ [g]) = sackG s L ++ (p2 g.1 ++ p2 g.2) := by unfold sackG; rw [List.foldl_append]; rfl
theorem sackD_snoc (s : ByteArray) (L : List Int) (d : Int) : sackD s (L ++ [d]) = sackD s L ++ p4 d := by unfold sackD; rw [List.foldl_append]; rfl
theorem sackG_size : ∀ (L : List (Int × Int)) (s : ByteArray), (sackG s L).size = s.size + 4 * L.length
  | [], s => by simp [sackG]
  | g :: r, s => by
    have := sackG_size r (s ++ (p2 g.1 ++ p2 g.2))
    rw [show sackG s (g :: r) = sackG (s ++ (p2 g.1 ++ p2 g.2)) r from rfl, this]
    simp only [ByteArray.size_append, p2_size, List.length_cons]
    omega
theorem sackD_size : ∀ (L : List Int) (s : ByteArray), (sackD s L).size = s.size + 4 * L.length
  | [], s => by simp [sackD]
  | g :: r, s => by
    have := sackD_size r (s ++ p4 g)
    rw [show sackD s (g :: r) = sackD (s ++ p4 g) r from rfl, this]
    simp only [ByteArray.size_append, p4_size, List.length_cons]
    omega
/-- What a chunk says, as bytes. -/
def bodyF (X : Ck) : ByteArray :=
  if kindV X.ty = 0 then p4 X.tsn ++ p2 X.st ++ p2 X.ss ++ p4 X.pr ++ X.d
  else if kindV X.ty = 1 then p4 X.tg ++ p4 X.rw ++ p2 X.ou ++ p2 X.ii ++ p4 X.tsn ++ cat X.P
  else if kindV X.ty = 3 then sackF X
  else if kindV X.ty = 4 then putP 1 X.d
  else if kindV X.ty = 6 then cat X.K
  else if kindV X.ty = 7 then p4 X.tsn
  else if kindV X.ty = 8 then ByteArray.empty
  else if kindV X.ty = 15 then p2 X.st ++ p2 X.ss ++ X.d
  else if kindV X.ty = 16 then p4 X.tsn ++ cat X.P
  else X.d
def putF (X : Ck) : ByteArray := if mayF X = true then filled (p1 X.ty ++ p1 X.fl ++ p2 ((bodyF X).size + 4 : Nat) ++ bodyF X) else ByteArray.empty
theorem bodyF_le {X : Ck} (h : CkOk X) : (bodyF X).size ≤ 17000 := by
  have hd := h.d
  have hP := h.P
  have hK := h.K
  have hG := h.G
  have hD := h.D
  have c1 := cat_le X.P
  have c2 := cat_le X.K
  have c3 := putP_le 1 X.d
  have c4 := sackD_size X.D (sackG (p4 X.tsn ++ p4 X.rw ++ p2 (X.G.length : Nat) ++ p2 (X.D.length : Nat)) X.G)
  rw [sackG_size] at c4
  unfold bodyF
  (repeat' split) <;> (try unfold sackF) <;> (try simp only [ByteArray.size_append, p2_size, p4_size, ByteArray.size_empty] at c4 ⊢) <;> (try rw [c4]) <;> omega
end Go.Proofs.YtlaemmplemngmaaDoor.ck
/- Layer 6: what a chunk says, as bytes, by the program (gen-ckj.py wrote this). -/
namespace Go.Proofs.YtlaemmplemngmaaDoor.ck
open Go.Sort (grow)
open Go.ChangeShapes Go.WideShapes Go.ChangeAt Go.RowKit kit oct par chk bld
set_option maxRecDepth 100000

theorem ret_str {a b : ByteArray} (h : a = b) : Ending.returned (.string a) = .returned (.string b) := by rw [h]
set_option maxHeartbeats 4000000 in
theorem body_0 {X : Ck} {w : World} {B : Nat} {vP vK vG vD : Value} (HT : X.ty = 0) (H : CkOk X) (HWx : CkW X) (M : CkM w B X vP vK vG vD) (hB : B ≤ w.heap.size) : Calls Tryd.prog 32 #[.agg (ckc X vP vK vG vD)] w fun e w' => e = .returned (.string (bodyF X)) ∧ Below w.heap.size w w' := by
  obtain ⟨rb, hrb⟩ : ∃ rb, bodyF X = rb := ⟨_, rfl⟩
  rw [hrb]
  have hk : kindV X.ty = 0 := by rw [HT]; rfl
  have e0 : (X.ty == 0) = true := by rw [HT]; rfl
  have e1 : (X.ty == 1) = false := by rw [HT]; rfl
  have e2 : (X.ty == 2) = false := by rw [HT]; rfl
  have e3 : (X.ty == 3) = false := by rw [HT]; rfl
  have e4 : (X.ty == 4) = false := by rw [HT]; rfl
  have e5 : (X.ty == 5) = false := by rw [HT]; rfl
  have e6 : (X.ty == 6) = false := by rw [HT]; rfl
  have e9 : (X.ty == 9) = false := by rw [HT]; rfl
  have e7 : (X.ty == 7) = false := by rw [HT]; rfl
  have e15 : (X.ty == 15) = false := by rw [HT]; rfl
  have e193 : (X.ty == 193) = false := by rw [HT]; rfl
  have e128 : (X.ty == 128) = false := by rw [HT]; rfl
  have e130 : (X.ty == 130) = false := by rw [HT]; rfl
  have HRB := Lib.hid hrb
  clear hrb
  have HW := Lib.hid HWx
  have HO := Lib.hid H
  obtain ⟨oP, cP, rfl, -, -⟩ := M.P.shape
  obtain ⟨oK, cK, rfl, -, -⟩ := M.K.shape
  obtain ⟨oG, cG, rfl, -, -⟩ := M.G.shape
  obtain ⟨oD, cD, rfl, -, -⟩ := M.D.shape
  have HM := Lib.hid (show ∀ w', Below w.heap.size w w' → CkM w' B X _ _ _ _ from fun w' h => M.below (h.mono hB))
  have HB0 := Lib.hid hB
  have HTT := Lib.hid HT
  clear M hB HWx H HT
  have X0 := Blk.new w 33 (ckc X (.slice oP X.P.length cP) (.slice oK X.K.length cK) (.slice oG X.G.length cG) (.slice oD X.D.length cD))
  have belw0 := (Below.refl w.heap.size w).alloc (Nat.le_refl _) (.cells (ckc X (.slice oP X.P.length cP) (.slice oK X.K.length cK) (.slice oG X.G.length cG) (.slice oD X.D.length cD)) 33)
  unfold ckc at X0 belw0 ⊢
  go_enter Tryd.func32, Tryd.ntmps32
  go_upto_region 3 with fail
  obtain ⟨w0, hw0⟩ : ∃ w0, w.alloc (.cells #[.int .i64 X.ty, .int .i64 X.fl, .int .u32 X.tsn, .int .i64 X.st, .int .i64 X.ss, .int .u32 X.pr, .string X.d, .int .u32 X.tg, .int .u32 X.rw, .int .i64 X.ou, .int .i64 X.ii, .slice oP X.P.length cP, .slice oK X.K.length cK, .slice oG X.G.length cG, .slice oD X.D.length cD] 33) = w0 := ⟨_, rfl⟩
  rw [hw0] at X0 belw0
  try rw [hw0]
  clear hw0
  obtain ⟨cb, hcb⟩ : ∃ cb, w.heap.size = cb := ⟨_, rfl⟩
  have hcl := X0.lt
  rw [hcb] at X0 hcl
  try rw [hcb]
  have upr := fun w => u32_p X.pr w HW.out.pr.1 HW.out.pr.2
  have uss := fun w => u16_p X.ss w HO.out.ss.1 (by have := HO.out.ss.2; omega)
  have ust := fun w => u16_p X.st w HO.out.st.1 (by have := HO.out.st.2; omega)
  have utsn := fun w => u32_p X.tsn w HW.out.tsn.1 HW.out.tsn.2
  have zpr : (p4 X.pr).size ≤ 4 := by rw [p4_size]; omega
  have zss : (p2 X.ss).size ≤ 2 := by rw [p2_size]; omega
  have zst : (p2 X.st).size ≤ 2 := by rw [p2_size]; omega
  have ztsn : (p4 X.tsn).size ≤ 4 := by rw [p4_size]; omega
  have zd : X.d.size ≤ 900 := HO.out.d
  have k2 := cell_regrown (X0.cell 2)
  have k3 := cell_regrown (X0.cell 3)
  have k4 := cell_regrown (X0.cell 4)
  have k5 := cell_regrown (X0.cell 5)
  have k6 := cell_regrown (X0.cell 6)
  clear X0
  refine wp_region_quiet_below (by kernel_rfl) (by kernel_rfl) ?_
  repeat (any_goals (first | go_big_quiet_step ((first | (go_at_call 35; first | (with_reducible exact Calls.regrown_of (ust _)) | (with_reducible exact Calls.regrown_of (uss _))) | (go_at_call 30; first | (with_reducible exact Calls.regrown_of (utsn _)) | (with_reducible exact Calls.regrown_of (upr _))))) | quiet_step ((first | (go_at_call 35; first | (with_reducible exact Calls.regrown_of (ust _)) | (with_reducible exact Calls.regrown_of (uss _))) | (go_at_call 30; first | (with_reducible exact Calls.regrown_of (utsn _)) | (with_reducible exact Calls.regrown_of (upr _)))))))
  refine wpQuiet_nil ?_
  intro _ hw'
  obtain ⟨⟨dq, osq⟩, hw''⟩ := hw'
  subst hw''
  go_wp2
  go_ret
  exact ⟨ret_str (by rw [← HRB.out]; unfold bodyF; rw [hk]; rfl), belw0.trans ((below_regrown _ dq osq).mono belw0.size)⟩
set_option maxHeartbeats 4000000 in
theorem body_1 {X : Ck} {w : World} {B : Nat} {vP vK vG vD : Value} (HT : X.ty = 1) (H : CkOk X) (HWx : CkW X) (M : CkM w B X vP vK vG vD) (hB : B ≤ w.heap.size) : Calls Tryd.prog 32 #[.agg (ckc X vP vK vG vD)] w fun e w' => e = .returned (.string (bodyF X)) ∧ Below w.heap.size w w' := by
  obtain ⟨rb, hrb⟩ : ∃ rb, bodyF X = rb := ⟨_, rfl⟩
  rw [hrb]
  have hk : kindV X.ty = 1 := by rw [HT]; rfl
  have e0 : (X.ty == 0) = false := by rw [HT]; rfl
  have e1 : (X.ty == 1) = true := by rw [HT]; rfl
  have e2 : (X.ty == 2) = false := by rw [HT]; rfl
  have e3 : (X.ty == 3) = false := by rw [HT]; rfl
  have e4 : (X.ty == 4) = false := by rw [HT]; rfl
  have e5 : (X.ty == 5) = false := by rw [HT]; rfl
  have e6 : (X.ty == 6) = false := by rw [HT]; rfl
  have e9 : (X.ty == 9) = false := by rw [HT]; rfl
  have e7 : (X.ty == 7) = false := by rw [HT]; rfl
  have e15 : (X.ty == 15) = false := by rw [HT]; rfl
  have e193 : (X.ty == 193) = false := by rw [HT]; rfl
  have e128 : (X.ty == 128) = false := by rw [HT]; rfl
  have e130 : (X.ty == 130) = false := by rw [HT]; rfl
  have HRB := Lib.hid hrb
  clear hrb
  have HW := Lib.hid HWx
  have HO := Lib.hid H
  obtain ⟨oP, cP, rfl, -, -⟩ := M.P.shape
  obtain ⟨oK, cK, rfl, -, -⟩ := M.K.shape
  obtain ⟨oG, cG, rfl, -, -⟩ := M.G.shape
  obtain ⟨oD, cD, rfl, -, -⟩ := M.D.shape
  have HM := Lib.hid (show ∀ w', Below w.heap.size w w' → CkM w' B X _ _ _ _ from fun w' h => M.below (h.mono hB))
  have HB0 := Lib.hid hB
  have HTT := Lib.hid HT
  clear M hB HWx H HT
  have X0 := Blk.new w 33 (ckc X (.slice oP X.P.length cP) (.slice oK X.K.length cK) (.slice oG X.G.length cG) (.slice oD X.D.length cD))
  have belw0 := (Below.refl w.heap.size w).alloc (Nat.le_refl _) (.cells (ckc X (.slice oP X.P.length cP) (.slice oK X.K.length cK) (.slice oG X.G.length cG) (.slice oD X.D.length cD)) 33)
  unfold ckc at X0 belw0 ⊢
  go_enter Tryd.func32, Tryd.ntmps32
  go_upto_region 6 with fail
  obtain ⟨w0, hw0⟩ : ∃ w0, w.alloc (.cells #[.int .i64 X.ty, .int .i64 X.fl, .int .u32 X.tsn, .int .i64 X.st, .int .i64 X.ss, .int .u32 X.pr, .string X.d, .int .u32 X.tg, .int .u32 X.rw, .int .i64 X.ou, .int .i64 X.ii, .slice oP X.P.length cP, .slice oK X.K.length cK, .slice oG X.G.length cG, .slice oD X.D.length cD] 33) = w0 := ⟨_, rfl⟩
  rw [hw0] at X0 belw0
  try rw [hw0]
  clear hw0
  obtain ⟨cb, hcb⟩ : ∃ cb, w.heap.size = cb := ⟨_, rfl⟩
  have hcl := X0.lt
  rw [hcb] at X0 hcl
  try rw [hcb]
  have uii := fun w => u16_p X.ii w HO.out.ii.1 (by have := HO.out.ii.2; omega)
  have uou := fun w => u16_p X.ou w HO.out.ou.1 (by have := HO.out.ou.2; omega)
  have urw := fun w => u32_p X.rw w HW.out.rw.1 HW.out.rw.2
  have utg := fun w => u32_p X.tg w HW.out.tg.1 HW.out.tg.2
  have utsn := fun w => u32_p X.tsn w HW.out.tsn.1 HW.out.tsn.2
  have zii : (p2 X.ii).size ≤ 2 := by rw [p2_size]; omega
  have zou : (p2 X.ou).size ≤ 2 := by rw [p2_size]; omega
  have zrw : (p4 X.rw).size ≤ 4 := by rw [p4_size]; omega
  have ztg : (p4 X.tg).size ≤ 4 := by rw [p4_size]; omega
  have ztsn : (p4 X.tsn).size ≤ 4 := by rw [p4_size]; omega
  have zP : (cat X.P).size ≤ 16128 := by have := cat_le X.P; have := HO.out.P; omega
  have hPA := fun d os => putAll_any (HM.out _ (belw0.trans ((below_regrown w0 d os).mono belw0.size))).P (Nat.le_trans HB0.out (belw0.trans ((below_regrown w0 d os).mono belw0.size)).size) HO.out.P
  have k7 := cell_regrown (X0.cell 7)
  have k8 := cell_regrown (X0.cell 8)
  have k9 := cell_regrown (X0.cell 9)
  have k10 := cell_regrown (X0.cell 10)
  have k2 := cell_regrown (X0.cell 2)
  have k11 := cell_regrown (X0.cell 11)
  clear X0
  refine wp_region_quiet_below (by kernel_rfl) (by kernel_rfl) ?_
  repeat (any_goals (first | go_big_quiet_step ((first | (go_at_call 35; first | (with_reducible exact Calls.regrown_of (uou _)) | (with_reducible exact Calls.regrown_of (uii _))) | (go_at_call 30; first | (with_reducible exact Calls.regrown_of (utg _)) | (with_reducible exact Calls.regrown_of (urw _)) | (with_reducible exact Calls.regrown_of (utsn _))) | (go_at_call 54; exact Calls.regrown_of (hPA _ _)))) | quiet_step ((first | (go_at_call 35; first | (with_reducible exact Calls.regrown_of (uou _)) | (with_reducible exact Calls.regrown_of (uii _))) | (go_at_call 30; first | (with_reducible exact Calls.regrown_of (utg _)) | (with_reducible exact Calls.regrown_of (urw _)) | (with_reducible exact Calls.regrown_of (utsn _))) | (go_at_call 54; exact Calls.regrown_of (hPA _ _))))))
  refine wpQuiet_nil ?_
  intro _ hw'
  obtain ⟨⟨dq, osq⟩, hw''⟩ := hw'
  subst hw''
  go_wp2
  go_ret
  exact ⟨ret_str (by rw [← HRB.out]; unfold bodyF; rw [hk]; rfl), belw0.trans ((below_regrown _ dq osq).mono belw0.size)⟩
set_option maxHeartbeats 4000000 in
theorem body_2 {X : Ck} {w : World} {B : Nat} {vP vK vG vD : Value} (HT : X.ty = 2) (H : CkOk X) (HWx : CkW X) (M : CkM w B X vP vK vG vD) (hB : B ≤ w.heap.size) : Calls Tryd.prog 32 #[.agg (ckc X vP vK vG vD)] w fun e w' => e = .returned (.string (bodyF X)) ∧ Below w.heap.size w w' := by
  obtain ⟨rb, hrb⟩ : ∃ rb, bodyF X = rb := ⟨_, rfl⟩
  rw [hrb]
  have hk : kindV X.ty = 1 := by rw [HT]; rfl
  have e0 : (X.ty == 0) = false := by rw [HT]; rfl
  have e1 : (X.ty == 1) = false := by rw [HT]; rfl
  have e2 : (X.ty == 2) = true := by rw [HT]; rfl
  have e3 : (X.ty == 3) = false := by rw [HT]; rfl
  have e4 : (X.ty == 4) = false := by rw [HT]; rfl
  have e5 : (X.ty == 5) = false := by rw [HT]; rfl
  have e6 : (X.ty == 6) = false := by rw [HT]; rfl
  have e9 : (X.ty == 9) = false := by rw [HT]; rfl
  have e7 : (X.ty == 7) = false := by rw [HT]; rfl
  have e15 : (X.ty == 15) = false := by rw [HT]; rfl
  have e193 : (X.ty == 193) = false := by rw [HT]; rfl
  have e128 : (X.ty == 128) = false := by rw [HT]; rfl
  have e130 : (X.ty == 130) = false := by rw [HT]; rfl
  have HRB := Lib.hid hrb
  clear hrb
  have HW := Lib.hid HWx
  have HO := Lib.hid H
  obtain ⟨oP, cP, rfl, -, -⟩ := M.P.shape
  obtain ⟨oK, cK, rfl, -, -⟩ := M.K.shape
  obtain ⟨oG, cG, rfl, -, -⟩ := M.G.shape
  obtain ⟨oD, cD, rfl, -, -⟩ := M.D.shape
  have HM := Lib.hid (show ∀ w', Below w.heap.size w w' → CkM w' B X _ _ _ _ from fun w' h => M.below (h.mono hB))
  have HB0 := Lib.hid hB
  have HTT := Lib.hid HT
  clear M hB HWx H HT
  have X0 := Blk.new w 33 (ckc X (.slice oP X.P.length cP) (.slice oK X.K.length cK) (.slice oG X.G.length cG) (.slice oD X.D.length cD))
  have belw0 := (Below.refl w.heap.size w).alloc (Nat.le_refl _) (.cells (ckc X (.slice oP X.P.length cP) (.slice oK X.K.length cK) (.slice oG X.G.length cG) (.slice oD X.D.length cD)) 33)
  unfold ckc at X0 belw0 ⊢
  go_enter Tryd.func32, Tryd.ntmps32
  go_upto_region 6 with fail
  obtain ⟨w0, hw0⟩ : ∃ w0, w.alloc (.cells #[.int .i64 X.ty, .int .i64 X.fl, .int .u32 X.tsn, .int .i64 X.st, .int .i64 X.ss, .int .u32 X.pr, .string X.d, .int .u32 X.tg, .int .u32 X.rw, .int .i64 X.ou, .int .i64 X.ii, .slice oP X.P.length cP, .slice oK X.K.length cK, .slice oG X.G.length cG, .slice oD X.D.length cD] 33) = w0 := ⟨_, rfl⟩
  rw [hw0] at X0 belw0
  try rw [hw0]
  clear hw0
  obtain ⟨cb, hcb⟩ : ∃ cb, w.heap.size = cb := ⟨_, rfl⟩
  have hcl := X0.lt
  rw [hcb] at X0 hcl
  try rw [hcb]
  have uii := fun w => u16_p X.ii w HO.out.ii.1 (by have := HO.out.ii.2; omega)
  have uou := fun w => u16_p X.ou w HO.out.ou.1 (by have := HO.out.ou.2; omega)
  have urw := fun w => u32_p X.rw w HW.out.rw.1 HW.out.rw.2
  have utg := fun w => u32_p X.tg w HW.out.tg.1 HW.out.tg.2
  have utsn := fun w => u32_p X.tsn w HW.out.tsn.1 HW.out.tsn.2
  have zii : (p2 X.ii).size ≤ 2 := by rw [p2_size]; omega
  have zou : (p2 X.ou).size ≤ 2 := by rw [p2_size]; omega
  have zrw : (p4 X.rw).size ≤ 4 := by rw [p4_size]; omega
  have ztg : (p4 X.tg).size ≤ 4 := by rw [p4_size]; omega
  have ztsn : (p4 X.tsn).size ≤ 4 := by rw [p4_size]; omega
  have zP : (cat X.P).size ≤ 16128 := by have := cat_le X.P; have := HO.out.P; omega
  have hPA := fun d os => putAll_any (HM.out _ (belw0.trans ((below_regrown w0 d os).mono belw0.size))).P (Nat.le_trans HB0.out (belw0.trans ((below_regrown w0 d os).mono belw0.size)).size) HO.out.P
  have k7 := cell_regrown (X0.cell 7)
  have k8 := cell_regrown (X0.cell 8)
  have k9 := cell_regrown (X0.cell 9)
  have k10 := cell_regrown (X0.cell 10)
  have k2 := cell_regrown (X0.cell 2)
  have k11 := cell_regrown (X0.cell 11)
  clear X0
  refine wp_region_quiet_below (by kernel_rfl) (by kernel_rfl) ?_
  repeat (any_goals (first | go_big_quiet_step ((first | (go_at_call 35; first | (with_reducible exact Calls.regrown_of (uou _)) | (with_reducible exact Calls.regrown_of (uii _))) | (go_at_call 30; first | (with_reducible exact Calls.regrown_of (utg _)) | (with_reducible exact Calls.regrown_of (urw _)) | (with_reducible exact Calls.regrown_of (utsn _))) | (go_at_call 54; exact Calls.regrown_of (hPA _ _)))) | quiet_step ((first | (go_at_call 35; first | (with_reducible exact Calls.regrown_of (uou _)) | (with_reducible exact Calls.regrown_of (uii _))) | (go_at_call 30; first | (with_reducible exact Calls.regrown_of (utg _)) | (with_reducible exact Calls.regrown_of (urw _)) | (with_reducible exact Calls.regrown_of (utsn _))) | (go_at_call 54; exact Calls.regrown_of (hPA _ _))))))
  refine wpQuiet_nil ?_
  intro _ hw'
  obtain ⟨⟨dq, osq⟩, hw''⟩ := hw'
  subst hw''
  go_wp2
  go_ret
  exact ⟨ret_str (by rw [← HRB.out]; unfold bodyF; rw [hk]; rfl), belw0.trans ((below_regrown _ dq osq).mono belw0.size)⟩
set_option maxHeartbeats 4000000 in
theorem body_15 {X : Ck} {w : World} {B : Nat} {vP vK vG vD : Value} (HT : X.ty = 15) (H : CkOk X) (HWx : CkW X) (M : CkM w B X vP vK vG vD) (hB : B ≤ w.heap.size) : Calls Tryd.prog 32 #[.agg (ckc X vP vK vG vD)] w fun e w' => e = .returned (.string (bodyF X)) ∧ Below w.heap.size w w' := by
  obtain ⟨rb, hrb⟩ : ∃ rb, bodyF X = rb := ⟨_, rfl⟩
  rw [hrb]
  have hk : kindV X.ty = 15 := by rw [HT]; rfl
  have e0 : (X.ty == 0) = false := by rw [HT]; rfl
  have e1 : (X.ty == 1) = false := by rw [HT]; rfl
  have e2 : (X.ty == 2) = false := by rw [HT]; rfl
  have e3 : (X.ty == 3) = false := by rw [HT]; rfl
  have e4 : (X.ty == 4) = false := by rw [HT]; rfl
  have e5 : (X.ty == 5) = false := by rw [HT]; rfl
  have e6 : (X.ty == 6) = false := by rw [HT]; rfl
  have e9 : (X.ty == 9) = false := by rw [HT]; rfl
  have e7 : (X.ty == 7) = false := by rw [HT]; rfl
  have e15 : (X.ty == 15) = true := by rw [HT]; rfl
  have e193 : (X.ty == 193) = false := by rw [HT]; rfl
  have e128 : (X.ty == 128) = false := by rw [HT]; rfl
  have e130 : (X.ty == 130) = false := by rw [HT]; rfl
  have HRB := Lib.hid hrb
  clear hrb
  have HW := Lib.hid HWx
  have HO := Lib.hid H
  obtain ⟨oP, cP, rfl, -, -⟩ := M.P.shape
  obtain ⟨oK, cK, rfl, -, -⟩ := M.K.shape
  obtain ⟨oG, cG, rfl, -, -⟩ := M.G.shape
  obtain ⟨oD, cD, rfl, -, -⟩ := M.D.shape
  have HM := Lib.hid (show ∀ w', Below w.heap.size w w' → CkM w' B X _ _ _ _ from fun w' h => M.below (h.mono hB))
  have HB0 := Lib.hid hB
  have HTT := Lib.hid HT
  clear M hB HWx H HT
  have X0 := Blk.new w 33 (ckc X (.slice oP X.P.length cP) (.slice oK X.K.length cK) (.slice oG X.G.length cG) (.slice oD X.D.length cD))
  have belw0 := (Below.refl w.heap.size w).alloc (Nat.le_refl _) (.cells (ckc X (.slice oP X.P.length cP) (.slice oK X.K.length cK) (.slice oG X.G.length cG) (.slice oD X.D.length cD)) 33)
  unfold ckc at X0 belw0 ⊢
  go_enter Tryd.func32, Tryd.ntmps32
  go_upto_region 18 with fail
  obtain ⟨w0, hw0⟩ : ∃ w0, w.alloc (.cells #[.int .i64 X.ty, .int .i64 X.fl, .int .u32 X.tsn, .int .i64 X.st, .int .i64 X.ss, .int .u32 X.pr, .string X.d, .int .u32 X.tg, .int .u32 X.rw, .int .i64 X.ou, .int .i64 X.ii, .slice oP X.P.length cP, .slice oK X.K.length cK, .slice oG X.G.length cG, .slice oD X.D.length cD] 33) = w0 := ⟨_, rfl⟩
  rw [hw0] at X0 belw0
  try rw [hw0]
  clear hw0
  obtain ⟨cb, hcb⟩ : ∃ cb, w.heap.size = cb := ⟨_, rfl⟩
  have hcl := X0.lt
  rw [hcb] at X0 hcl
  try rw [hcb]
  have uss := fun w => u16_p X.ss w HO.out.ss.1 (by have := HO.out.ss.2; omega)
  have ust := fun w => u16_p X.st w HO.out.st.1 (by have := HO.out.st.2; omega)
  have zss : (p2 X.ss).size ≤ 2 := by rw [p2_size]; omega
  have zst : (p2 X.st).size ≤ 2 := by rw [p2_size]; omega
  have zd : X.d.size ≤ 900 := HO.out.d
  have k3 := cell_regrown (X0.cell 3)
  have k4 := cell_regrown (X0.cell 4)
  have k6 := cell_regrown (X0.cell 6)
  clear X0
  refine wp_region_quiet_below (by kernel_rfl) (by kernel_rfl) ?_
  repeat (any_goals (first | go_big_quiet_step ((first | (go_at_call 35; first | (with_reducible exact Calls.regrown_of (ust _)) | (with_reducible exact Calls.regrown_of (uss _))))) | quiet_step ((first | (go_at_call 35; first | (with_reducible exact Calls.regrown_of (ust _)) | (with_reducible exact Calls.regrown_of (uss _)))))))
  refine wpQuiet_nil ?_
  intro _ hw'
  obtain ⟨⟨dq, osq⟩, hw''⟩ := hw'
  subst hw''
  go_wp2
  go_ret
  exact ⟨ret_str (by rw [← HRB.out]; unfold bodyF; rw [hk]; rfl), belw0.trans ((below_regrown _ dq osq).mono belw0.size)⟩
set_option maxHeartbeats 4000000 in
theorem body_193 {X : Ck} {w : World} {B : Nat} {vP vK vG vD : Value} (HT : X.ty = 193) (H : CkOk X) (HWx : CkW X) (M : CkM w B X vP vK vG vD) (hB : B ≤ w.heap.size) : Calls Tryd.prog 32 #[.agg (ckc X vP vK vG vD)] w fun e w' => e = .returned (.string (bodyF X)) ∧ Below w.heap.size w w' := by
  obtain ⟨rb, hrb⟩ : ∃ rb, bodyF X = rb := ⟨_, rfl⟩
  rw [hrb]
  have hk : kindV X.ty = 16 := by rw [HT]; rfl
  have e0 : (X.ty == 0) = false := by rw [HT]; rfl
  have e1 : (X.ty == 1) = false := by rw [HT]; rfl
  have e2 : (X.ty == 2) = false := by rw [HT]; rfl
  have e3 : (X.ty == 3) = false := by rw [HT]; rfl
  have e4 : (X.ty == 4) = false := by rw [HT]; rfl
  have e5 : (X.ty == 5) = false := by rw [HT]; rfl
  have e6 : (X.ty == 6) = false := by rw [HT]; rfl
  have e9 : (X.ty == 9) = false := by rw [HT]; rfl
  have e7 : (X.ty == 7) = false := by rw [HT]; rfl
  have e15 : (X.ty == 15) = false := by rw [HT]; rfl
  have e193 : (X.ty == 193) = true := by rw [HT]; rfl
  have e128 : (X.ty == 128) = false := by rw [HT]; rfl
  have e130 : (X.ty == 130) = false := by rw [HT]; rfl
  have HRB := Lib.hid hrb
  clear hrb
  have HW := Lib.hid HWx
  have HO := Lib.hid H
  obtain ⟨oP, cP, rfl, -, -⟩ := M.P.shape
  obtain ⟨oK, cK, rfl, -, -⟩ := M.K.shape
  obtain ⟨oG, cG, rfl, -, -⟩ := M.G.shape
  obtain ⟨oD, cD, rfl, -, -⟩ := M.D.shape
  have HM := Lib.hid (show ∀ w', Below w.heap.size w w' → CkM w' B X _ _ _ _ from fun w' h => M.below (h.mono hB))
  have HB0 := Lib.hid hB
  have HTT := Lib.hid HT
  clear M hB HWx H HT
  have X0 := Blk.new w 33 (ckc X (.slice oP X.P.length cP) (.slice oK X.K.length cK) (.slice oG X.G.length cG) (.slice oD X.D.length cD))
  have belw0 := (Below.refl w.heap.size w).alloc (Nat.le_refl _) (.cells (ckc X (.slice oP X.P.length cP) (.slice oK X.K.length cK) (.slice oG X.G.length cG) (.slice oD X.D.length cD)) 33)
  unfold ckc at X0 belw0 ⊢
  go_enter Tryd.func32, Tryd.ntmps32
  go_upto_region 22 with fail
  obtain ⟨w0, hw0⟩ : ∃ w0, w.alloc (.cells #[.int .i64 X.ty, .int .i64 X.fl, .int .u32 X.tsn, .int .i64 X.st, .int .i64 X.ss, .int .u32 X.pr, .string X.d, .int .u32 X.tg, .int .u32 X.rw, .int .i64 X.ou, .int .i64 X.ii, .slice oP X.P.length cP, .slice oK X.K.length cK, .slice oG X.G.length cG, .slice oD X.D.length cD] 33) = w0 := ⟨_, rfl⟩
  rw [hw0] at X0 belw0
  try rw [hw0]
  clear hw0
  obtain ⟨cb, hcb⟩ : ∃ cb, w.heap.size = cb := ⟨_, rfl⟩
  have hcl := X0.lt
  rw [hcb] at X0 hcl
  try rw [hcb]
  have utsn := fun w => u32_p X.tsn w HW.out.tsn.1 HW.out.tsn.2
  have ztsn : (p4 X.tsn).size ≤ 4 := by rw [p4_size]; omega
  have zP : (cat X.P).size ≤ 16128 := by have := cat_le X.P; have := HO.out.P; omega
  have hPA := fun d os => putAll_any (HM.out _ (belw0.trans ((below_regrown w0 d os).mono belw0.size))).P (Nat.le_trans HB0.out (belw0.trans ((below_regrown w0 d os).mono belw0.size)).size) HO.out.P
  have k2 := cell_regrown (X0.cell 2)
  have k11 := cell_regrown (X0.cell 11)
  clear X0
  refine wp_region_quiet_below (by kernel_rfl) (by kernel_rfl) ?_
  repeat (any_goals (first | go_big_quiet_step ((first | (go_at_call 30; first | (with_reducible exact Calls.regrown_of (utsn _))) | (go_at_call 54; exact Calls.regrown_of (hPA _ _)))) | quiet_step ((first | (go_at_call 30; first | (with_reducible exact Calls.regrown_of (utsn _))) | (go_at_call 54; exact Calls.regrown_of (hPA _ _))))))
  refine wpQuiet_nil ?_
  intro _ hw'
  obtain ⟨⟨dq, osq⟩, hw''⟩ := hw'
  subst hw''
  go_wp2
  go_ret
  exact ⟨ret_str (by rw [← HRB.out]; unfold bodyF; rw [hk]; rfl), belw0.trans ((below_regrown _ dq osq).mono belw0.size)⟩
set_option maxHeartbeats 4000000 in
theorem body_128 {X : Ck} {w : World} {B : Nat} {vP vK vG vD : Value} (HT : X.ty = 128) (H : CkOk X) (HWx : CkW X) (M : CkM w B X vP vK vG vD) (hB : B ≤ w.heap.size) : Calls Tryd.prog 32 #[.agg (ckc X vP vK vG vD)] w fun e w' => e = .returned (.string (bodyF X)) ∧ Below w.heap.size w w' := by
  obtain ⟨rb, hrb⟩ : ∃ rb, bodyF X = rb := ⟨_, rfl⟩
  rw [hrb]
  have hk : kindV X.ty = 16 := by rw [HT]; rfl
  have e0 : (X.ty == 0) = false := by rw [HT]; rfl
  have e1 : (X.ty == 1) = false := by rw [HT]; rfl
  have e2 : (X.ty == 2) = false := by rw [HT]; rfl
  have e3 : (X.ty == 3) = false := by rw [HT]; rfl
  have e4 : (X.ty == 4) = false := by rw [HT]; rfl
  have e5 : (X.ty == 5) = false := by rw [HT]; rfl
  have e6 : (X.ty == 6) = false := by rw [HT]; rfl
  have e9 : (X.ty == 9) = false := by rw [HT]; rfl
  have e7 : (X.ty == 7) = false := by rw [HT]; rfl
  have e15 : (X.ty == 15) = false := by rw [HT]; rfl
  have e193 : (X.ty == 193) = false := by rw [HT]; rfl
  have e128 : (X.ty == 128) = true := by rw [HT]; rfl
  have e130 : (X.ty == 130) = false := by rw [HT]; rfl
  have HRB := Lib.hid hrb
  clear hrb
  have HW := Lib.hid HWx
  have HO := Lib.hid H
  obtain ⟨oP, cP, rfl, -, -⟩ := M.P.shape
  obtain ⟨oK, cK, rfl, -, -⟩ := M.K.shape
  obtain ⟨oG, cG, rfl, -, -⟩ := M.G.shape
  obtain ⟨oD, cD, rfl, -, -⟩ := M.D.shape
  have HM := Lib.hid (show ∀ w', Below w.heap.size w w' → CkM w' B X _ _ _ _ from fun w' h => M.below (h.mono hB))
  have HB0 := Lib.hid hB
  have HTT := Lib.hid HT
  clear M hB HWx H HT
  have X0 := Blk.new w 33 (ckc X (.slice oP X.P.length cP) (.slice oK X.K.length cK) (.slice oG X.G.length cG) (.slice oD X.D.length cD))
  have belw0 := (Below.refl w.heap.size w).alloc (Nat.le_refl _) (.cells (ckc X (.slice oP X.P.length cP) (.slice oK X.K.length cK) (.slice oG X.G.length cG) (.slice oD X.D.length cD)) 33)
  unfold ckc at X0 belw0 ⊢
  go_enter Tryd.func32, Tryd.ntmps32
  go_upto_region 22 with fail
  obtain ⟨w0, hw0⟩ : ∃ w0, w.alloc (.cells #[.int .i64 X.ty, .int .i64 X.fl, .int .u32 X.tsn, .int .i64 X.st, .int .i64 X.ss, .int .u32 X.pr, .string X.d, .int .u32 X.tg, .int .u32 X.rw, .int .i64 X.ou, .int .i64 X.ii, .slice oP X.P.length cP, .slice oK X.K.length cK, .slice oG X.G.length cG, .slice oD X.D.length cD] 33) = w0 := ⟨_, rfl⟩
  rw [hw0] at X0 belw0
  try rw [hw0]
  clear hw0
  obtain ⟨cb, hcb⟩ : ∃ cb, w.heap.size = cb := ⟨_, rfl⟩
  have hcl := X0.lt
  rw [hcb] at X0 hcl
  try rw [hcb]
  have utsn := fun w => u32_p X.tsn w HW.out.tsn.1 HW.out.tsn.2
  have ztsn : (p4 X.tsn).size ≤ 4 := by rw [p4_size]; omega
  have zP : (cat X.P).size ≤ 16128 := by have := cat_le X.P; have := HO.out.P; omega
  have hPA := fun d os => putAll_any (HM.out _ (belw0.trans ((below_regrown w0 d os).mono belw0.size))).P (Nat.le_trans HB0.out (belw0.trans ((below_regrown w0 d os).mono belw0.size)).size) HO.out.P
  have k2 := cell_regrown (X0.cell 2)
  have k11 := cell_regrown (X0.cell 11)
  clear X0
  refine wp_region_quiet_below (by kernel_rfl) (by kernel_rfl) ?_
  repeat (any_goals (first | go_big_quiet_step ((first | (go_at_call 30; first | (with_reducible exact Calls.regrown_of (utsn _))) | (go_at_call 54; exact Calls.regrown_of (hPA _ _)))) | quiet_step ((first | (go_at_call 30; first | (with_reducible exact Calls.regrown_of (utsn _))) | (go_at_call 54; exact Calls.regrown_of (hPA _ _))))))
  refine wpQuiet_nil ?_
  intro _ hw'
  obtain ⟨⟨dq, osq⟩, hw''⟩ := hw'
  subst hw''
  go_wp2
  go_ret
  exact ⟨ret_str (by rw [← HRB.out]; unfold bodyF; rw [hk]; rfl), belw0.trans ((below_regrown _ dq osq).mono belw0.size)⟩
set_option maxHeartbeats 4000000 in
theorem body_130 {X : Ck} {w : World} {B : Nat} {vP vK vG vD : Value} (HT : X.ty = 130) (H : CkOk X) (HWx : CkW X) (M : CkM w B X vP vK vG vD) (hB : B ≤ w.heap.size) : Calls Tryd.prog 32 #[.agg (ckc X vP vK vG vD)] w fun e w' => e = .returned (.string (bodyF X)) ∧ Below w.heap.size w w' := by
  obtain ⟨rb, hrb⟩ : ∃ rb, bodyF X = rb := ⟨_, rfl⟩
  rw [hrb]
  have hk : kindV X.ty = 16 := by rw [HT]; rfl
  have e0 : (X.ty == 0) = false := by rw [HT]; rfl
  have e1 : (X.ty == 1) = false := by rw [HT]; rfl
  have e2 : (X.ty == 2) = false := by rw [HT]; rfl
  have e3 : (X.ty == 3) = false := by rw [HT]; rfl
  have e4 : (X.ty == 4) = false := by rw [HT]; rfl
  have e5 : (X.ty == 5) = false := by rw [HT]; rfl
  have e6 : (X.ty == 6) = false := by rw [HT]; rfl
  have e9 : (X.ty == 9) = false := by rw [HT]; rfl
  have e7 : (X.ty == 7) = false := by rw [HT]; rfl
  have e15 : (X.ty == 15) = false := by rw [HT]; rfl
  have e193 : (X.ty == 193) = false := by rw [HT]; rfl
  have e128 : (X.ty == 128) = false := by rw [HT]; rfl
  have e130 : (X.ty == 130) = true := by rw [HT]; rfl
  have HRB := Lib.hid hrb
  clear hrb
  have HW := Lib.hid HWx
  have HO := Lib.hid H
  obtain ⟨oP, cP, rfl, -, -⟩ := M.P.shape
  obtain ⟨oK, cK, rfl, -, -⟩ := M.K.shape
  obtain ⟨oG, cG, rfl, -, -⟩ := M.G.shape
  obtain ⟨oD, cD, rfl, -, -⟩ := M.D.shape
  have HM := Lib.hid (show ∀ w', Below w.heap.size w w' → CkM w' B X _ _ _ _ from fun w' h => M.below (h.mono hB))
  have HB0 := Lib.hid hB
  have HTT := Lib.hid HT
  clear M hB HWx H HT
  have X0 := Blk.new w 33 (ckc X (.slice oP X.P.length cP) (.slice oK X.K.length cK) (.slice oG X.G.length cG) (.slice oD X.D.length cD))
  have belw0 := (Below.refl w.heap.size w).alloc (Nat.le_refl _) (.cells (ckc X (.slice oP X.P.length cP) (.slice oK X.K.length cK) (.slice oG X.G.length cG) (.slice oD X.D.length cD)) 33)
  unfold ckc at X0 belw0 ⊢
  go_enter Tryd.func32, Tryd.ntmps32
  go_upto_region 22 with fail
  obtain ⟨w0, hw0⟩ : ∃ w0, w.alloc (.cells #[.int .i64 X.ty, .int .i64 X.fl, .int .u32 X.tsn, .int .i64 X.st, .int .i64 X.ss, .int .u32 X.pr, .string X.d, .int .u32 X.tg, .int .u32 X.rw, .int .i64 X.ou, .int .i64 X.ii, .slice oP X.P.length cP, .slice oK X.K.length cK, .slice oG X.G.length cG, .slice oD X.D.length cD] 33) = w0 := ⟨_, rfl⟩
  rw [hw0] at X0 belw0
  try rw [hw0]
  clear hw0
  obtain ⟨cb, hcb⟩ : ∃ cb, w.heap.size = cb := ⟨_, rfl⟩
  have hcl := X0.lt
  rw [hcb] at X0 hcl
  try rw [hcb]
  have utsn := fun w => u32_p X.tsn w HW.out.tsn.1 HW.out.tsn.2
  have ztsn : (p4 X.tsn).size ≤ 4 := by rw [p4_size]; omega
  have zP : (cat X.P).size ≤ 16128 := by have := cat_le X.P; have := HO.out.P; omega
  have hPA := fun d os => putAll_any (HM.out _ (belw0.trans ((below_regrown w0 d os).mono belw0.size))).P (Nat.le_trans HB0.out (belw0.trans ((below_regrown w0 d os).mono belw0.size)).size) HO.out.P
  have k2 := cell_regrown (X0.cell 2)
  have k11 := cell_regrown (X0.cell 11)
  clear X0
  refine wp_region_quiet_below (by kernel_rfl) (by kernel_rfl) ?_
  repeat (any_goals (first | go_big_quiet_step ((first | (go_at_call 30; first | (with_reducible exact Calls.regrown_of (utsn _))) | (go_at_call 54; exact Calls.regrown_of (hPA _ _)))) | quiet_step ((first | (go_at_call 30; first | (with_reducible exact Calls.regrown_of (utsn _))) | (go_at_call 54; exact Calls.regrown_of (hPA _ _))))))
  refine wpQuiet_nil ?_
  intro _ hw'
  obtain ⟨⟨dq, osq⟩, hw''⟩ := hw'
  subst hw''
  go_wp2
  go_ret
  exact ⟨ret_str (by rw [← HRB.out]; unfold bodyF; rw [hk]; rfl), belw0.trans ((below_regrown _ dq osq).mono belw0.size)⟩
end Go.Proofs.YtlaemmplemngmaaDoor.ck
/- Layer 6: what a sack says, as bytes, by the program (gen-ckk.py wrote this). -/
namespace Go.Proofs.YtlaemmplemngmaaDoor.ck
open Go.Sort (grow)
open Go.ChangeShapes Go.WideShapes Go.ChangeAt Go.RowKit kit oct par chk bld
set_option maxRecDepth 100000

set_option maxHeartbeats 8000000 in
theorem sack_any {X : Ck} {w : World} {B : Nat} {vP vK vG vD : Value} (H : CkOk X) (HWx : CkW X) (M : CkM w B X vP vK vG vD) (hB : B ≤ w.heap.size) : Calls Tryd.prog 55 #[.agg (ckc X vP vK vG vD)] w fun e w' => e = .returned (.string (sackF X)) ∧ Below w.heap.size w w' := by
  obtain ⟨rb, hrb⟩ : ∃ rb, sackF X = rb := ⟨_, rfl⟩
  rw [hrb]
  have HRB := Lib.hid hrb
  clear hrb
  have HW := Lib.hid HWx
  have HO := Lib.hid H
  obtain ⟨oP, cP, rfl, -, -⟩ := M.P.shape
  obtain ⟨oK, cK, rfl, -, -⟩ := M.K.shape
  obtain ⟨oG, cG, rfl, -, -⟩ := M.G.shape
  obtain ⟨oD, cD, rfl, -, -⟩ := M.D.shape
  have HM := Lib.hid (show ∀ w', Below w.heap.size w w' → CkM w' B X _ _ _ _ from fun w' h => M.below (h.mono hB))
  have HB0 := Lib.hid hB
  clear M hB HWx H
  have X0 := Blk.new w 33 (ckc X (.slice oP X.P.length cP) (.slice oK X.K.length cK) (.slice oG X.G.length cG) (.slice oD X.D.length cD))
  have belw0 := (Below.refl w.heap.size w).alloc (Nat.le_refl _) (.cells (ckc X (.slice oP X.P.length cP) (.slice oK X.K.length cK) (.slice oG X.G.length cG) (.slice oD X.D.length cD)) 33)
  unfold ckc at X0 belw0 ⊢
  go_enter Tryd.func55, Tryd.ntmps55
  go_upto_region 1 with fail
  obtain ⟨w0, hw0⟩ : ∃ w0, w.alloc (.cells #[.int .i64 X.ty, .int .i64 X.fl, .int .u32 X.tsn, .int .i64 X.st, .int .i64 X.ss, .int .u32 X.pr, .string X.d, .int .u32 X.tg, .int .u32 X.rw, .int .i64 X.ou, .int .i64 X.ii, .slice oP X.P.length cP, .slice oK X.K.length cK, .slice oG X.G.length cG, .slice oD X.D.length cD] 33) = w0 := ⟨_, rfl⟩
  rw [hw0] at X0 belw0
  try rw [hw0]
  clear hw0
  obtain ⟨cb, hcb⟩ : ∃ cb, w.heap.size = cb := ⟨_, rfl⟩
  have hcl := X0.lt
  rw [hcb] at X0 hcl
  try rw [hcb]
  have utsn := fun w => u32_p X.tsn w HW.out.tsn.1 HW.out.tsn.2
  have urw := fun w => u32_p X.rw w HW.out.rw.1 HW.out.rw.2
  have uG := fun w => u16_p (X.G.length : Nat) w (by omega) (by have := HO.out.G; omega)
  have uD := fun w => u16_p (X.D.length : Nat) w (by omega) (by have := HO.out.D; omega)
  have z1 : (p4 X.tsn).size ≤ 4 := by rw [p4_size]; omega
  have z2 : (p4 X.rw).size ≤ 4 := by rw [p4_size]; omega
  have z3 : (p2 (X.G.length : Nat)).size ≤ 2 := by rw [p2_size]; omega
  have z4 : (p2 (X.D.length : Nat)).size ≤ 2 := by rw [p2_size]; omega
  have k2 := cell_regrown (X0.cell 2)
  have k8 := cell_regrown (X0.cell 8)
  have k13 := cell_regrown (X0.cell 13)
  have k14 := cell_regrown (X0.cell 14)
  refine wp_region_quiet_below (by kernel_rfl) (by kernel_rfl) ?_
  repeat (any_goals (first | go_big_quiet_step ((first | (go_at_call 35; first | (with_reducible exact Calls.regrown_of (uG _)) | (with_reducible exact Calls.regrown_of (uD _))) | (go_at_call 30; first | (with_reducible exact Calls.regrown_of (utsn _)) | (with_reducible exact Calls.regrown_of (urw _))))) | quiet_step ((first | (go_at_call 35; first | (with_reducible exact Calls.regrown_of (uG _)) | (with_reducible exact Calls.regrown_of (uD _))) | (go_at_call 30; first | (with_reducible exact Calls.regrown_of (utsn _)) | (with_reducible exact Calls.regrown_of (urw _)))))))
  refine wpQuiet_nil ?_
  intro w1 hw'
  obtain ⟨⟨dq, osq⟩, hw''⟩ := hw'
  have bel1 := below_regrown w0 dq osq
  rw [← hw''] at bel1
  clear hw'' utsn urw uG uD z1 z2 z3 z4 k2 k8 k13 k14
  obtain ⟨S0, hS0⟩ : ∃ S, p4 X.tsn ++ p4 X.rw ++ p2 (X.G.length : Nat) ++ p2 (X.D.length : Nat) = S := ⟨_, rfl⟩
  rw [hS0]
  have zS0 : S0.size = 12 := by rw [← hS0]; simp only [ByteArray.size_append, p2_size, p4_size]
  have X1 := X0.below bel1 X0.lt
  have g13 : w1.cell? ⟨cb, 13, none⟩ = some (.slice oG X.G.length cG) := X1.cell 13
  have HX0 := Lib.hid X0
  clear X0 X1
  have HBw := Lib.hid belw0
  have hn1 : X.G.length ≤ 16 := HO.out.G
  have hn2 : X.D.length ≤ 16 := HO.out.D
  have HS0 := Lib.hid hS0
  clear hS0 belw0
  go_wp2_with fail
  go_loopw [3, 28] (fun s3 s28 wr => ∃ (i : Nat) (S : ByteArray), s28 = .int .i64 (i : Nat) ∧ i ≤ X.G.length ∧ s3 = .string S ∧ sackG S0 (X.G.take i) = S ∧ Below w0.heap.size w0 wr) (fun _ s28 _ => X.G.length - (intOf s28).toNat)
  case atStart => exact ⟨0, S0, rfl, Nat.zero_le _, rfl, by rw [List.take_zero]; rfl, bel1⟩
  case round =>
    rename World => wr
    clear bel1 g13
    obtain ⟨i, S, rfl, hi, rfl, hS, bel⟩ := hrel
    have zS : S.size ≤ 100 := by rw [← hS, sackG_size, zS0]; have := List.length_take_le i X.G; omega
    by_cases hlt : i < X.G.length
    · have hii : (i : Int) < (X.G.length : Int) := by omega
      have hi0 : (0 : Int) ≤ (i : Int) := by omega
      obtain ⟨⟨g1, g2⟩, hx⟩ : ∃ x, X.G[i]? = some x := ⟨_, List.getElem?_eq_getElem hlt⟩
      have hgap := HO.out.gap (g1, g2) (List.mem_of_getElem? hx)
      dsimp only at hgap
      obtain ⟨a, cap', hv, -, c0, c1⟩ := (HM.out _ (HBw.out.trans (bel.mono HBw.out.size))).G.two hlt (cellsG_at hx).1 (cellsG_at hx).2
      injection hv with hv1 hv2 hv3
      subst hv1
      subst hv3
      clear hv2
      have hpc : ∀ (j : Nat) u, (#[.int .i64 g1, .int .i64 g2] : Array Value)[j]? = some u → wr.cell? ((a.add (i * 2)).add j) = some u := fun j u hu => by
        rcases j with _ | _ | j
        · rw [add_z]; simp at hu; rw [← hu]; exact c0
        · rw [add_o]; simp at hu; rw [← hu]; exact c1
        · simp at hu
      have sz := szGa (g1, g2)
      dsimp only at sz
      have HXX := Lib.hid (And.intro hx hS)
      have P2 := Blk.new wr 61 #[.int .i64 g1, .int .i64 g2]
      have bel2 := bel.alloc bel.size (.cells #[.int .i64 g1, .int .i64 g2] 61)
      clear hx hS c0 c1
      go_upto_region 5 with (refine wpList_load_from rfl 61 _ rfl (a.add (i * 2)) rfl #[.int .i64 g1, .int .i64 g2] _ hpc Tryd.underlying61 rfl sz ?_)
      obtain ⟨w2, hw2⟩ : ∃ w2, wr.alloc (.cells #[.int .i64 g1, .int .i64 g2] 61) = w2 := ⟨_, rfl⟩
      rw [hw2] at P2 bel2
      try rw [hw2]
      clear hw2 bel hpc sz
      obtain ⟨pb, hpb⟩ : ∃ pb, wr.heap.size = pb := ⟨_, rfl⟩
      rw [hpb] at P2
      try rw [hpb]
      clear hpb
      have p0 := cell_regrown (P2.cell 0)
      have p1 := cell_regrown (P2.cell 1)
      clear P2
      have u1 := fun w => u16_p g1 w (by omega) (by omega)
      have u2 := fun w => u16_p g2 w (by omega) (by omega)
      have z1 : (p2 g1).size ≤ 2 := by rw [p2_size]; omega
      have z2 : (p2 g2).size ≤ 2 := by rw [p2_size]; omega
      refine wp_region_quiet_below (by kernel_rfl) (by kernel_rfl) ?_
      repeat (any_goals (first | go_big_quiet_step ((first | (go_at_call 35; first | (with_reducible exact Calls.regrown_of (u1 _)) | (with_reducible exact Calls.regrown_of (u2 _))))) | quiet_step ((first | (go_at_call 35; first | (with_reducible exact Calls.regrown_of (u1 _)) | (with_reducible exact Calls.regrown_of (u2 _)))))))
      refine wpQuiet_nil ?_
      intro w3 hw'
      obtain ⟨⟨dq3, osq3⟩, hw''⟩ := hw'
      have bel3 := bel2.trans ((below_regrown w2 dq3 osq3).mono bel2.size)
      rw [← hw''] at bel3
      clear hw'' p0 p1 u1 u2 bel2
      go_wp2_with fail
      go_roundw
      case rel => exact ⟨i + 1, _, by go_num, by omega, rfl, by rw [take_snoc HXX.out.1, sackG_snoc, HXX.out.2], bel3⟩
      case measure => simp [intOf]; omega
    · obtain rfl : i = X.G.length := by omega
      rw [List.take_length] at hS
      have X2 := HX0.out.below bel HX0.out.lt
      have g14 : wr.cell? ⟨cb, 14, none⟩ = some (.slice oD X.D.length cD) := X2.cell 14
      have zS1 : S.size ≤ 76 := by rw [← hS, sackG_size, zS0]; omega
      clear X2 zS
      have HS := Lib.hid hS
      clear hS
      go_wp2_with fail
      go_loopw [3, 45] (fun s3 s45 wq => ∃ (i : Nat) (T : ByteArray), s45 = .int .i64 (i : Nat) ∧ i ≤ X.D.length ∧ s3 = .string T ∧ sackD S (X.D.take i) = T ∧ Below w0.heap.size w0 wq) (fun _ s45 _ => X.D.length - (intOf s45).toNat)
      case atStart => exact ⟨0, S, rfl, Nat.zero_le _, rfl, by rw [List.take_zero]; rfl, bel⟩
      case round =>
        rename World => wq
        clear bel g14
        obtain ⟨j, T, rfl, hj, rfl, hT, bel⟩ := hrel
        have zT : T.size ≤ 200 := by rw [← hT, sackD_size]; have := List.length_take_le j X.D; omega
        by_cases hlj : j < X.D.length
        · have hjj : (j : Int) < (X.D.length : Int) := by omega
          have hj0 : (0 : Int) ≤ (j : Int) := by omega
          obtain ⟨d1, hx⟩ : ∃ x, X.D[j]? = some x := ⟨_, List.getElem?_eq_getElem hlj⟩
          have hdd := HW.out.dd d1 (List.mem_of_getElem? hx)
          obtain ⟨a, cap', hv, -, c0⟩ := (HM.out _ (HBw.out.trans (bel.mono HBw.out.size))).D.one hlj (u0 := .int .u32 d1) (by rw [List.getElem?_map, hx]; rfl)
          injection hv with hv1 hv2 hv3
          subst hv1
          subst hv3
          clear hv2
          have hu := fun w => u32_p d1 w hdd.1 hdd.2
          have z1 : (p4 d1).size ≤ 4 := by rw [p4_size]; omega
          have HXX := Lib.hid (And.intro hx hT)
          clear hx hT hdd
          go_wp2_with (go_at_call 30; refine (hu _).mono ?_; rintro e w3 ⟨rfl, hb3⟩)
          have bel3 := bel.trans (hb3.mono bel.size)
          go_roundw
          case rel => exact ⟨j + 1, _, by go_num, by omega, rfl, by rw [take_snoc HXX.out.1, sackD_snoc, HXX.out.2], bel3⟩
          case measure => simp [intOf]; omega
        · obtain rfl : j = X.D.length := by omega
          rw [List.take_length] at hT
          have HT := Lib.hid hT
          clear hT
          go_wp2_with fail
          go_ret
          exact ⟨ret_str (by rw [← HT.out, ← HS.out, ← HS0.out, ← HRB.out]; rfl), HBw.out.trans (bel.mono HBw.out.size)⟩
end Go.Proofs.YtlaemmplemngmaaDoor.ck
/- Layer 6: a chunk's bytes, by the program (gen-ckl.py wrote this). -/
namespace Go.Proofs.YtlaemmplemngmaaDoor.ck
open Go.Sort (grow)
open Go.ChangeShapes Go.WideShapes Go.ChangeAt Go.RowKit kit oct par chk bld
set_option maxRecDepth 100000

set_option maxHeartbeats 4000000 in
theorem body_3 {X : Ck} {w : World} {B : Nat} {vP vK vG vD : Value} (HT : X.ty = 3) (H : CkOk X) (HWx : CkW X) (M : CkM w B X vP vK vG vD) (hB : B ≤ w.heap.size) : Calls Tryd.prog 32 #[.agg (ckc X vP vK vG vD)] w fun e w' => e = .returned (.string (bodyF X)) ∧ Below w.heap.size w w' := by
  obtain ⟨rb, hrb⟩ : ∃ rb, bodyF X = rb := ⟨_, rfl⟩
  rw [hrb]
  have hk : kindV X.ty = 3 := by rw [HT]; rfl
  have e0 : (X.ty == 0) = false := by rw [HT]; rfl
  have e1 : (X.ty == 1) = false := by rw [HT]; rfl
  have e2 : (X.ty == 2) = false := by rw [HT]; rfl
  have e3 : (X.ty == 3) = true := by rw [HT]; rfl
  have e4 : (X.ty == 4) = false := by rw [HT]; rfl
  have e5 : (X.ty == 5) = false := by rw [HT]; rfl
  have e6 : (X.ty == 6) = false := by rw [HT]; rfl
  have e9 : (X.ty == 9) = false := by rw [HT]; rfl
  have e7 : (X.ty == 7) = false := by rw [HT]; rfl
  have e15 : (X.ty == 15) = false := by rw [HT]; rfl
  have e193 : (X.ty == 193) = false := by rw [HT]; rfl
  have e128 : (X.ty == 128) = false := by rw [HT]; rfl
  have e130 : (X.ty == 130) = false := by rw [HT]; rfl
  have HRB := Lib.hid hrb
  clear hrb
  have HW := Lib.hid HWx
  have HO := Lib.hid H
  obtain ⟨oP, cP, rfl, -, -⟩ := M.P.shape
  obtain ⟨oK, cK, rfl, -, -⟩ := M.K.shape
  obtain ⟨oG, cG, rfl, -, -⟩ := M.G.shape
  obtain ⟨oD, cD, rfl, -, -⟩ := M.D.shape
  have HM := Lib.hid (show ∀ w', Below w.heap.size w w' → CkM w' B X _ _ _ _ from fun w' h => M.below (h.mono hB))
  have HB0 := Lib.hid hB
  have HTT := Lib.hid HT
  clear M hB HWx H HT
  have X0 := Blk.new w 33 (ckc X (.slice oP X.P.length cP) (.slice oK X.K.length cK) (.slice oG X.G.length cG) (.slice oD X.D.length cD))
  have belw0 := (Below.refl w.heap.size w).alloc (Nat.le_refl _) (.cells (ckc X (.slice oP X.P.length cP) (.slice oK X.K.length cK) (.slice oG X.G.length cG) (.slice oD X.D.length cD)) 33)
  unfold ckc at X0 belw0 ⊢
  go_enter Tryd.func32, Tryd.ntmps32
  go_upto_region 8 with fail
  obtain ⟨w0, hw0⟩ : ∃ w0, w.alloc (.cells #[.int .i64 X.ty, .int .i64 X.fl, .int .u32 X.tsn, .int .i64 X.st, .int .i64 X.ss, .int .u32 X.pr, .string X.d, .int .u32 X.tg, .int .u32 X.rw, .int .i64 X.ou, .int .i64 X.ii, .slice oP X.P.length cP, .slice oK X.K.length cK, .slice oG X.G.length cG, .slice oD X.D.length cD] 33) = w0 := ⟨_, rfl⟩
  rw [hw0] at X0 belw0
  try rw [hw0]
  clear hw0
  obtain ⟨cb, hcb⟩ : ∃ cb, w.heap.size = cb := ⟨_, rfl⟩
  have hcl := X0.lt
  rw [hcb] at X0 hcl
  try rw [hcb]
  have hc := sack_any HO.out HW.out (HM.out _ belw0) (Nat.le_trans HB0.out belw0.size)
  unfold ckc at hc
  go_wp2_with (first | (refine wpList_load_at rfl 33 _ rfl cb 0 rfl #[.int .i64 X.ty, .int .i64 X.fl, .int .u32 X.tsn, .int .i64 X.st, .int .i64 X.ss, .int .u32 X.pr, .string X.d, .int .u32 X.tg, .int .u32 X.rw, .int .i64 X.ou, .int .i64 X.ii, .slice oP X.P.length cP, .slice oK X.K.length cK, .slice oG X.G.length cG, .slice oD X.D.length cD] _ (Cel.of_blk X0) Tryd.underlying33 rfl (by show _ = some 15; kernel_rfl) ?_) | (go_at_call 55; refine hc.mono ?_; rintro e w3 ⟨rfl, hb3⟩))
  go_ret
  exact ⟨ret_str (by rw [← HRB.out]; unfold bodyF; rw [hk]; rfl), belw0.trans (hb3.mono belw0.size)⟩
set_option maxHeartbeats 4000000 in
theorem body_4 {X : Ck} {w : World} {B : Nat} {vP vK vG vD : Value} (HT : X.ty = 4) (H : CkOk X) (HWx : CkW X) (M : CkM w B X vP vK vG vD) (hB : B ≤ w.heap.size) : Calls Tryd.prog 32 #[.agg (ckc X vP vK vG vD)] w fun e w' => e = .returned (.string (bodyF X)) ∧ Below w.heap.size w w' := by
  obtain ⟨rb, hrb⟩ : ∃ rb, bodyF X = rb := ⟨_, rfl⟩
  rw [hrb]
  have hk : kindV X.ty = 4 := by rw [HT]; rfl
  have e0 : (X.ty == 0) = false := by rw [HT]; rfl
  have e1 : (X.ty == 1) = false := by rw [HT]; rfl
  have e2 : (X.ty == 2) = false := by rw [HT]; rfl
  have e3 : (X.ty == 3) = false := by rw [HT]; rfl
  have e4 : (X.ty == 4) = true := by rw [HT]; rfl
  have e5 : (X.ty == 5) = false := by rw [HT]; rfl
  have e6 : (X.ty == 6) = false := by rw [HT]; rfl
  have e9 : (X.ty == 9) = false := by rw [HT]; rfl
  have e7 : (X.ty == 7) = false := by rw [HT]; rfl
  have e15 : (X.ty == 15) = false := by rw [HT]; rfl
  have e193 : (X.ty == 193) = false := by rw [HT]; rfl
  have e128 : (X.ty == 128) = false := by rw [HT]; rfl
  have e130 : (X.ty == 130) = false := by rw [HT]; rfl
  have HRB := Lib.hid hrb
  clear hrb
  have HW := Lib.hid HWx
  have HO := Lib.hid H
  obtain ⟨oP, cP, rfl, -, -⟩ := M.P.shape
  obtain ⟨oK, cK, rfl, -, -⟩ := M.K.shape
  obtain ⟨oG, cG, rfl, -, -⟩ := M.G.shape
  obtain ⟨oD, cD, rfl, -, -⟩ := M.D.shape
  have HM := Lib.hid (show ∀ w', Below w.heap.size w w' → CkM w' B X _ _ _ _ from fun w' h => M.below (h.mono hB))
  have HB0 := Lib.hid hB
  have HTT := Lib.hid HT
  clear M hB HWx H HT
  have X0 := Blk.new w 33 (ckc X (.slice oP X.P.length cP) (.slice oK X.K.length cK) (.slice oG X.G.length cG) (.slice oD X.D.length cD))
  have belw0 := (Below.refl w.heap.size w).alloc (Nat.le_refl _) (.cells (ckc X (.slice oP X.P.length cP) (.slice oK X.K.length cK) (.slice oG X.G.length cG) (.slice oD X.D.length cD)) 33)
  unfold ckc at X0 belw0 ⊢
  go_enter Tryd.func32, Tryd.ntmps32
  go_upto_region 11 with fail
  obtain ⟨w0, hw0⟩ : ∃ w0, w.alloc (.cells #[.int .i64 X.ty, .int .i64 X.fl, .int .u32 X.tsn, .int .i64 X.st, .int .i64 X.ss, .int .u32 X.pr, .string X.d, .int .u32 X.tg, .int .u32 X.rw, .int .i64 X.ou, .int .i64 X.ii, .slice oP X.P.length cP, .slice oK X.K.length cK, .slice oG X.G.length cG, .slice oD X.D.length cD] 33) = w0 := ⟨_, rfl⟩
  rw [hw0] at X0 belw0
  try rw [hw0]
  clear hw0
  obtain ⟨cb, hcb⟩ : ∃ cb, w.heap.size = cb := ⟨_, rfl⟩
  have hcl := X0.lt
  rw [hcb] at X0 hcl
  try rw [hcb]
  have k6 : w0.cell? ⟨cb, 6, none⟩ = some (.string X.d) := X0.cell 6
  have hc := put_any 1 X.d w0
  go_wp2_with (go_at_call 56; refine hc.mono ?_; rintro e w3 ⟨rfl, hb3⟩)
  go_ret
  exact ⟨ret_str (by rw [← HRB.out]; unfold bodyF; rw [hk]; rfl), belw0.trans (hb3.mono belw0.size)⟩
set_option maxHeartbeats 4000000 in
theorem body_5 {X : Ck} {w : World} {B : Nat} {vP vK vG vD : Value} (HT : X.ty = 5) (H : CkOk X) (HWx : CkW X) (M : CkM w B X vP vK vG vD) (hB : B ≤ w.heap.size) : Calls Tryd.prog 32 #[.agg (ckc X vP vK vG vD)] w fun e w' => e = .returned (.string (bodyF X)) ∧ Below w.heap.size w w' := by
  obtain ⟨rb, hrb⟩ : ∃ rb, bodyF X = rb := ⟨_, rfl⟩
  rw [hrb]
  have hk : kindV X.ty = 4 := by rw [HT]; rfl
  have e0 : (X.ty == 0) = false := by rw [HT]; rfl
  have e1 : (X.ty == 1) = false := by rw [HT]; rfl
  have e2 : (X.ty == 2) = false := by rw [HT]; rfl
  have e3 : (X.ty == 3) = false := by rw [HT]; rfl
  have e4 : (X.ty == 4) = false := by rw [HT]; rfl
  have e5 : (X.ty == 5) = true := by rw [HT]; rfl
  have e6 : (X.ty == 6) = false := by rw [HT]; rfl
  have e9 : (X.ty == 9) = false := by rw [HT]; rfl
  have e7 : (X.ty == 7) = false := by rw [HT]; rfl
  have e15 : (X.ty == 15) = false := by rw [HT]; rfl
  have e193 : (X.ty == 193) = false := by rw [HT]; rfl
  have e128 : (X.ty == 128) = false := by rw [HT]; rfl
  have e130 : (X.ty == 130) = false := by rw [HT]; rfl
  have HRB := Lib.hid hrb
  clear hrb
  have HW := Lib.hid HWx
  have HO := Lib.hid H
  obtain ⟨oP, cP, rfl, -, -⟩ := M.P.shape
  obtain ⟨oK, cK, rfl, -, -⟩ := M.K.shape
  obtain ⟨oG, cG, rfl, -, -⟩ := M.G.shape
  obtain ⟨oD, cD, rfl, -, -⟩ := M.D.shape
  have HM := Lib.hid (show ∀ w', Below w.heap.size w w' → CkM w' B X _ _ _ _ from fun w' h => M.below (h.mono hB))
  have HB0 := Lib.hid hB
  have HTT := Lib.hid HT
  clear M hB HWx H HT
  have X0 := Blk.new w 33 (ckc X (.slice oP X.P.length cP) (.slice oK X.K.length cK) (.slice oG X.G.length cG) (.slice oD X.D.length cD))
  have belw0 := (Below.refl w.heap.size w).alloc (Nat.le_refl _) (.cells (ckc X (.slice oP X.P.length cP) (.slice oK X.K.length cK) (.slice oG X.G.length cG) (.slice oD X.D.length cD)) 33)
  unfold ckc at X0 belw0 ⊢
  go_enter Tryd.func32, Tryd.ntmps32
  go_upto_region 11 with fail
  obtain ⟨w0, hw0⟩ : ∃ w0, w.alloc (.cells #[.int .i64 X.ty, .int .i64 X.fl, .int .u32 X.tsn, .int .i64 X.st, .int .i64 X.ss, .int .u32 X.pr, .string X.d, .int .u32 X.tg, .int .u32 X.rw, .int .i64 X.ou, .int .i64 X.ii, .slice oP X.P.length cP, .slice oK X.K.length cK, .slice oG X.G.length cG, .slice oD X.D.length cD] 33) = w0 := ⟨_, rfl⟩
  rw [hw0] at X0 belw0
  try rw [hw0]
  clear hw0
  obtain ⟨cb, hcb⟩ : ∃ cb, w.heap.size = cb := ⟨_, rfl⟩
  have hcl := X0.lt
  rw [hcb] at X0 hcl
  try rw [hcb]
  have k6 : w0.cell? ⟨cb, 6, none⟩ = some (.string X.d) := X0.cell 6
  have hc := put_any 1 X.d w0
  go_wp2_with (go_at_call 56; refine hc.mono ?_; rintro e w3 ⟨rfl, hb3⟩)
  go_ret
  exact ⟨ret_str (by rw [← HRB.out]; unfold bodyF; rw [hk]; rfl), belw0.trans (hb3.mono belw0.size)⟩
set_option maxHeartbeats 4000000 in
theorem body_6 {X : Ck} {w : World} {B : Nat} {vP vK vG vD : Value} (HT : X.ty = 6) (H : CkOk X) (HWx : CkW X) (M : CkM w B X vP vK vG vD) (hB : B ≤ w.heap.size) : Calls Tryd.prog 32 #[.agg (ckc X vP vK vG vD)] w fun e w' => e = .returned (.string (bodyF X)) ∧ Below w.heap.size w w' := by
  obtain ⟨rb, hrb⟩ : ∃ rb, bodyF X = rb := ⟨_, rfl⟩
  rw [hrb]
  have hk : kindV X.ty = 6 := by rw [HT]; rfl
  have e0 : (X.ty == 0) = false := by rw [HT]; rfl
  have e1 : (X.ty == 1) = false := by rw [HT]; rfl
  have e2 : (X.ty == 2) = false := by rw [HT]; rfl
  have e3 : (X.ty == 3) = false := by rw [HT]; rfl
  have e4 : (X.ty == 4) = false := by rw [HT]; rfl
  have e5 : (X.ty == 5) = false := by rw [HT]; rfl
  have e6 : (X.ty == 6) = true := by rw [HT]; rfl
  have e9 : (X.ty == 9) = false := by rw [HT]; rfl
  have e7 : (X.ty == 7) = false := by rw [HT]; rfl
  have e15 : (X.ty == 15) = false := by rw [HT]; rfl
  have e193 : (X.ty == 193) = false := by rw [HT]; rfl
  have e128 : (X.ty == 128) = false := by rw [HT]; rfl
  have e130 : (X.ty == 130) = false := by rw [HT]; rfl
  have HRB := Lib.hid hrb
  clear hrb
  have HW := Lib.hid HWx
  have HO := Lib.hid H
  obtain ⟨oP, cP, rfl, -, -⟩ := M.P.shape
  obtain ⟨oK, cK, rfl, -, -⟩ := M.K.shape
  obtain ⟨oG, cG, rfl, -, -⟩ := M.G.shape
  obtain ⟨oD, cD, rfl, -, -⟩ := M.D.shape
  have HM := Lib.hid (show ∀ w', Below w.heap.size w w' → CkM w' B X _ _ _ _ from fun w' h => M.below (h.mono hB))
  have HB0 := Lib.hid hB
  have HTT := Lib.hid HT
  clear M hB HWx H HT
  have X0 := Blk.new w 33 (ckc X (.slice oP X.P.length cP) (.slice oK X.K.length cK) (.slice oG X.G.length cG) (.slice oD X.D.length cD))
  have belw0 := (Below.refl w.heap.size w).alloc (Nat.le_refl _) (.cells (ckc X (.slice oP X.P.length cP) (.slice oK X.K.length cK) (.slice oG X.G.length cG) (.slice oD X.D.length cD)) 33)
  unfold ckc at X0 belw0 ⊢
  go_enter Tryd.func32, Tryd.ntmps32
  go_upto_region 14 with fail
  obtain ⟨w0, hw0⟩ : ∃ w0, w.alloc (.cells #[.int .i64 X.ty, .int .i64 X.fl, .int .u32 X.tsn, .int .i64 X.st, .int .i64 X.ss, .int .u32 X.pr, .string X.d, .int .u32 X.tg, .int .u32 X.rw, .int .i64 X.ou, .int .i64 X.ii, .slice oP X.P.length cP, .slice oK X.K.length cK, .slice oG X.G.length cG, .slice oD X.D.length cD] 33) = w0 := ⟨_, rfl⟩
  rw [hw0] at X0 belw0
  try rw [hw0]
  clear hw0
  obtain ⟨cb, hcb⟩ : ∃ cb, w.heap.size = cb := ⟨_, rfl⟩
  have hcl := X0.lt
  rw [hcb] at X0 hcl
  try rw [hcb]
  have k12 : w0.cell? ⟨cb, 12, none⟩ = some (.slice oK X.K.length cK) := X0.cell 12
  have hc := cputAll_any (HM.out _ belw0).K (Nat.le_trans HB0.out belw0.size) HO.out.K
  go_wp2_with (go_at_call 57; refine hc.mono ?_; rintro e w3 ⟨rfl, hb3⟩)
  go_ret
  exact ⟨ret_str (by rw [← HRB.out]; unfold bodyF; rw [hk]; rfl), belw0.trans (hb3.mono belw0.size)⟩
set_option maxHeartbeats 4000000 in
theorem body_9 {X : Ck} {w : World} {B : Nat} {vP vK vG vD : Value} (HT : X.ty = 9) (H : CkOk X) (HWx : CkW X) (M : CkM w B X vP vK vG vD) (hB : B ≤ w.heap.size) : Calls Tryd.prog 32 #[.agg (ckc X vP vK vG vD)] w fun e w' => e = .returned (.string (bodyF X)) ∧ Below w.heap.size w w' := by
  obtain ⟨rb, hrb⟩ : ∃ rb, bodyF X = rb := ⟨_, rfl⟩
  rw [hrb]
  have hk : kindV X.ty = 6 := by rw [HT]; rfl
  have e0 : (X.ty == 0) = false := by rw [HT]; rfl
  have e1 : (X.ty == 1) = false := by rw [HT]; rfl
  have e2 : (X.ty == 2) = false := by rw [HT]; rfl
  have e3 : (X.ty == 3) = false := by rw [HT]; rfl
  have e4 : (X.ty == 4) = false := by rw [HT]; rfl
  have e5 : (X.ty == 5) = false := by rw [HT]; rfl
  have e6 : (X.ty == 6) = false := by rw [HT]; rfl
  have e9 : (X.ty == 9) = true := by rw [HT]; rfl
  have e7 : (X.ty == 7) = false := by rw [HT]; rfl
  have e15 : (X.ty == 15) = false := by rw [HT]; rfl
  have e193 : (X.ty == 193) = false := by rw [HT]; rfl
  have e128 : (X.ty == 128) = false := by rw [HT]; rfl
  have e130 : (X.ty == 130) = false := by rw [HT]; rfl
  have HRB := Lib.hid hrb
  clear hrb
  have HW := Lib.hid HWx
  have HO := Lib.hid H
  obtain ⟨oP, cP, rfl, -, -⟩ := M.P.shape
  obtain ⟨oK, cK, rfl, -, -⟩ := M.K.shape
  obtain ⟨oG, cG, rfl, -, -⟩ := M.G.shape
  obtain ⟨oD, cD, rfl, -, -⟩ := M.D.shape
  have HM := Lib.hid (show ∀ w', Below w.heap.size w w' → CkM w' B X _ _ _ _ from fun w' h => M.below (h.mono hB))
  have HB0 := Lib.hid hB
  have HTT := Lib.hid HT
  clear M hB HWx H HT
  have X0 := Blk.new w 33 (ckc X (.slice oP X.P.length cP) (.slice oK X.K.length cK) (.slice oG X.G.length cG) (.slice oD X.D.length cD))
  have belw0 := (Below.refl w.heap.size w).alloc (Nat.le_refl _) (.cells (ckc X (.slice oP X.P.length cP) (.slice oK X.K.length cK) (.slice oG X.G.length cG) (.slice oD X.D.length cD)) 33)
  unfold ckc at X0 belw0 ⊢
  go_enter Tryd.func32, Tryd.ntmps32
  go_upto_region 14 with fail
  obtain ⟨w0, hw0⟩ : ∃ w0, w.alloc (.cells #[.int .i64 X.ty, .int .i64 X.fl, .int .u32 X.tsn, .int .i64 X.st, .int .i64 X.ss, .int .u32 X.pr, .string X.d, .int .u32 X.tg, .int .u32 X.rw, .int .i64 X.ou, .int .i64 X.ii, .slice oP X.P.length cP, .slice oK X.K.length cK, .slice oG X.G.length cG, .slice oD X.D.length cD] 33) = w0 := ⟨_, rfl⟩
  rw [hw0] at X0 belw0
  try rw [hw0]
  clear hw0
  obtain ⟨cb, hcb⟩ : ∃ cb, w.heap.size = cb := ⟨_, rfl⟩
  have hcl := X0.lt
  rw [hcb] at X0 hcl
  try rw [hcb]
  have k12 : w0.cell? ⟨cb, 12, none⟩ = some (.slice oK X.K.length cK) := X0.cell 12
  have hc := cputAll_any (HM.out _ belw0).K (Nat.le_trans HB0.out belw0.size) HO.out.K
  go_wp2_with (go_at_call 57; refine hc.mono ?_; rintro e w3 ⟨rfl, hb3⟩)
  go_ret
  exact ⟨ret_str (by rw [← HRB.out]; unfold bodyF; rw [hk]; rfl), belw0.trans (hb3.mono belw0.size)⟩
set_option maxHeartbeats 4000000 in
theorem body_7 {X : Ck} {w : World} {B : Nat} {vP vK vG vD : Value} (HT : X.ty = 7) (H : CkOk X) (HWx : CkW X) (M : CkM w B X vP vK vG vD) (hB : B ≤ w.heap.size) : Calls Tryd.prog 32 #[.agg (ckc X vP vK vG vD)] w fun e w' => e = .returned (.string (bodyF X)) ∧ Below w.heap.size w w' := by
  obtain ⟨rb, hrb⟩ : ∃ rb, bodyF X = rb := ⟨_, rfl⟩
  rw [hrb]
  have hk : kindV X.ty = 7 := by rw [HT]; rfl
  have e0 : (X.ty == 0) = false := by rw [HT]; rfl
  have e1 : (X.ty == 1) = false := by rw [HT]; rfl
  have e2 : (X.ty == 2) = false := by rw [HT]; rfl
  have e3 : (X.ty == 3) = false := by rw [HT]; rfl
  have e4 : (X.ty == 4) = false := by rw [HT]; rfl
  have e5 : (X.ty == 5) = false := by rw [HT]; rfl
  have e6 : (X.ty == 6) = false := by rw [HT]; rfl
  have e9 : (X.ty == 9) = false := by rw [HT]; rfl
  have e7 : (X.ty == 7) = true := by rw [HT]; rfl
  have e15 : (X.ty == 15) = false := by rw [HT]; rfl
  have e193 : (X.ty == 193) = false := by rw [HT]; rfl
  have e128 : (X.ty == 128) = false := by rw [HT]; rfl
  have e130 : (X.ty == 130) = false := by rw [HT]; rfl
  have HRB := Lib.hid hrb
  clear hrb
  have HW := Lib.hid HWx
  have HO := Lib.hid H
  obtain ⟨oP, cP, rfl, -, -⟩ := M.P.shape
  obtain ⟨oK, cK, rfl, -, -⟩ := M.K.shape
  obtain ⟨oG, cG, rfl, -, -⟩ := M.G.shape
  obtain ⟨oD, cD, rfl, -, -⟩ := M.D.shape
  have HM := Lib.hid (show ∀ w', Below w.heap.size w w' → CkM w' B X _ _ _ _ from fun w' h => M.below (h.mono hB))
  have HB0 := Lib.hid hB
  have HTT := Lib.hid HT
  clear M hB HWx H HT
  have X0 := Blk.new w 33 (ckc X (.slice oP X.P.length cP) (.slice oK X.K.length cK) (.slice oG X.G.length cG) (.slice oD X.D.length cD))
  have belw0 := (Below.refl w.heap.size w).alloc (Nat.le_refl _) (.cells (ckc X (.slice oP X.P.length cP) (.slice oK X.K.length cK) (.slice oG X.G.length cG) (.slice oD X.D.length cD)) 33)
  unfold ckc at X0 belw0 ⊢
  go_enter Tryd.func32, Tryd.ntmps32
  go_upto_region 16 with fail
  obtain ⟨w0, hw0⟩ : ∃ w0, w.alloc (.cells #[.int .i64 X.ty, .int .i64 X.fl, .int .u32 X.tsn, .int .i64 X.st, .int .i64 X.ss, .int .u32 X.pr, .string X.d, .int .u32 X.tg, .int .u32 X.rw, .int .i64 X.ou, .int .i64 X.ii, .slice oP X.P.length cP, .slice oK X.K.length cK, .slice oG X.G.length cG, .slice oD X.D.length cD] 33) = w0 := ⟨_, rfl⟩
  rw [hw0] at X0 belw0
  try rw [hw0]
  clear hw0
  obtain ⟨cb, hcb⟩ : ∃ cb, w.heap.size = cb := ⟨_, rfl⟩
  have hcl := X0.lt
  rw [hcb] at X0 hcl
  try rw [hcb]
  have k2 : w0.cell? ⟨cb, 2, none⟩ = some (.int .u32 X.tsn) := X0.cell 2
  have hc := fun w => u32_p X.tsn w HW.out.tsn.1 HW.out.tsn.2
  go_wp2_with (go_at_call 30; refine (hc _).mono ?_; rintro e w3 ⟨rfl, hb3⟩)
  go_ret
  exact ⟨ret_str (by rw [← HRB.out]; unfold bodyF; rw [hk]; rfl), belw0.trans (hb3.mono belw0.size)⟩
set_option maxHeartbeats 4000000 in
theorem body_def {X : Ck} {w : World} {B : Nat} {vP vK vG vD : Value} (HT : kindV X.ty = 8 ∨ kindV X.ty = 10 ∨ kindV X.ty = 20) (H : CkOk X) (HWx : CkW X) (M : CkM w B X vP vK vG vD) (hB : B ≤ w.heap.size) : Calls Tryd.prog 32 #[.agg (ckc X vP vK vG vD)] w fun e w' => e = .returned (.string (bodyF X)) ∧ Below w.heap.size w w' := by
  obtain ⟨rb, hrb⟩ : ∃ rb, bodyF X = rb := ⟨_, rfl⟩
  rw [hrb]
  have e0 : (X.ty == 0) = false := by
    rw [beq_eq_false_iff_ne]
    intro h
    rw [h] at HT
    exact absurd HT (by decide)
  have e1 : (X.ty == 1) = false := by
    rw [beq_eq_false_iff_ne]
    intro h
    rw [h] at HT
    exact absurd HT (by decide)
  have e2 : (X.ty == 2) = false := by
    rw [beq_eq_false_iff_ne]
    intro h
    rw [h] at HT
    exact absurd HT (by decide)
  have e3 : (X.ty == 3) = false := by
    rw [beq_eq_false_iff_ne]
    intro h
    rw [h] at HT
    exact absurd HT (by decide)
  have e4 : (X.ty == 4) = false := by
    rw [beq_eq_false_iff_ne]
    intro h
    rw [h] at HT
    exact absurd HT (by decide)
  have e5 : (X.ty == 5) = false := by
    rw [beq_eq_false_iff_ne]
    intro h
    rw [h] at HT
    exact absurd HT (by decide)
  have e6 : (X.ty == 6) = false := by
    rw [beq_eq_false_iff_ne]
    intro h
    rw [h] at HT
    exact absurd HT (by decide)
  have e9 : (X.ty == 9) = false := by
    rw [beq_eq_false_iff_ne]
    intro h
    rw [h] at HT
    exact absurd HT (by decide)
  have e7 : (X.ty == 7) = false := by
    rw [beq_eq_false_iff_ne]
    intro h
    rw [h] at HT
    exact absurd HT (by decide)
  have e15 : (X.ty == 15) = false := by
    rw [beq_eq_false_iff_ne]
    intro h
    rw [h] at HT
    exact absurd HT (by decide)
  have e193 : (X.ty == 193) = false := by
    rw [beq_eq_false_iff_ne]
    intro h
    rw [h] at HT
    exact absurd HT (by decide)
  have e128 : (X.ty == 128) = false := by
    rw [beq_eq_false_iff_ne]
    intro h
    rw [h] at HT
    exact absurd HT (by decide)
  have e130 : (X.ty == 130) = false := by
    rw [beq_eq_false_iff_ne]
    intro h
    rw [h] at HT
    exact absurd HT (by decide)
  have HRB := Lib.hid hrb
  clear hrb
  have HW := Lib.hid HWx
  have HO := Lib.hid H
  obtain ⟨oP, cP, rfl, -, -⟩ := M.P.shape
  obtain ⟨oK, cK, rfl, -, -⟩ := M.K.shape
  obtain ⟨oG, cG, rfl, -, -⟩ := M.G.shape
  obtain ⟨oD, cD, rfl, -, -⟩ := M.D.shape
  have HM := Lib.hid (show ∀ w', Below w.heap.size w w' → CkM w' B X _ _ _ _ from fun w' h => M.below (h.mono hB))
  have HB0 := Lib.hid hB
  have HTT := Lib.hid HT
  clear M hB HWx H HT
  have X0 := Blk.new w 33 (ckc X (.slice oP X.P.length cP) (.slice oK X.K.length cK) (.slice oG X.G.length cG) (.slice oD X.D.length cD))
  have belw0 := (Below.refl w.heap.size w).alloc (Nat.le_refl _) (.cells (ckc X (.slice oP X.P.length cP) (.slice oK X.K.length cK) (.slice oG X.G.length cG) (.slice oD X.D.length cD)) 33)
  unfold ckc at X0 belw0 ⊢
  go_enter Tryd.func32, Tryd.ntmps32
  go_upto_region 23 with fail
  obtain ⟨w0, hw0⟩ : ∃ w0, w.alloc (.cells #[.int .i64 X.ty, .int .i64 X.fl, .int .u32 X.tsn, .int .i64 X.st, .int .i64 X.ss, .int .u32 X.pr, .string X.d, .int .u32 X.tg, .int .u32 X.rw, .int .i64 X.ou, .int .i64 X.ii, .slice oP X.P.length cP, .slice oK X.K.length cK, .slice oG X.G.length cG, .slice oD X.D.length cD] 33) = w0 := ⟨_, rfl⟩
  rw [hw0] at X0 belw0
  try rw [hw0]
  clear hw0
  obtain ⟨cb, hcb⟩ : ∃ cb, w.heap.size = cb := ⟨_, rfl⟩
  have hcl := X0.lt
  rw [hcb] at X0 hcl
  try rw [hcb]
  have k6 : w0.cell? ⟨cb, 6, none⟩ = some (.string X.d) := X0.cell 6
  go_wp2_with fail
  go_ret
  refine ⟨ret_str ?_, belw0⟩
  rw [← HRB.out]
  unfold bodyF
  rcases HTT.out with h | h | h
  · rw [h, HO.out.z.1.2.2.2 (by rw [h]; decide) (by rw [h]; decide) (by rw [h]; decide) (by rw [h]; decide) (by rw [h]; decide)]; rfl
  · rw [h]; rfl
  · rw [h]; rfl
/-- What a chunk says, as bytes. -/
theorem body_any {X : Ck} {w : World} {B : Nat} {vP vK vG vD : Value} (H : CkOk X) (HWx : CkW X) (M : CkM w B X vP vK vG vD) (hB : B ≤ w.heap.size) : Calls Tryd.prog 32 #[.agg (ckc X vP vK vG vD)] w fun e w' => e = .returned (.string (bodyF X)) ∧ Below w.heap.size w w' := by
  by_cases h0 : X.ty = 0
  · exact body_0 h0 H HWx M hB
  by_cases h1 : X.ty = 1
  · exact body_1 h1 H HWx M hB
  by_cases h2 : X.ty = 2
  · exact body_2 h2 H HWx M hB
  by_cases h3 : X.ty = 3
  · exact body_3 h3 H HWx M hB
  by_cases h4 : X.ty = 4
  · exact body_4 h4 H HWx M hB
  by_cases h5 : X.ty = 5
  · exact body_5 h5 H HWx M hB
  by_cases h6 : X.ty = 6
  · exact body_6 h6 H HWx M hB
  by_cases h9 : X.ty = 9
  · exact body_9 h9 H HWx M hB
  by_cases h7 : X.ty = 7
  · exact body_7 h7 H HWx M hB
  by_cases h15 : X.ty = 15
  · exact body_15 h15 H HWx M hB
  by_cases h193 : X.ty = 193
  · exact body_193 h193 H HWx M hB
  by_cases h128 : X.ty = 128
  · exact body_128 h128 H HWx M hB
  by_cases h130 : X.ty = 130
  · exact body_130 h130 H HWx M hB
  refine body_def ?_ H HWx M hB
  unfold kindV
  (repeat' split) <;> omega
theorem p1_size (n : Int) : (p1 n).size = 1 := by unfold p1; rw [strOfNums_size]; rfl
theorem u8_p (n : Int) (w : World) (h0 : 0 ≤ n) (h1 : n ≤ 9223372036854775807) : Calls Tryd.prog 34 #[.int .i64 n] w fun e w' => e = .returned (.string (p1 n)) ∧ Below w.heap.size w w' := u8_any n w h0 h1
theorem flagsV_le (t : Int) : flagsV t ≤ 255 := by unfold flagsV; (repeat' split) <;> omega
set_option maxHeartbeats 4000000 in
theorem cput_no {X : Ck} {w : World} {B : Nat} {vP vK vG vD : Value} (H : mayF X = false) (HWx : CkW X) (M : CkM w B X vP vK vG vD) (hB : B ≤ w.heap.size) : Calls Tryd.prog 18 #[.agg (ckc X vP vK vG vD)] w fun e w' => e = .returned (.string (putF X)) ∧ Below w.heap.size w w' := by
  obtain ⟨rb, hrb⟩ : ∃ rb, putF X = rb := ⟨_, rfl⟩
  rw [hrb]
  unfold putF at hrb
  rw [H] at hrb
  have HRB := Lib.hid hrb
  clear hrb
  have HW := Lib.hid HWx
  have HH := Lib.hid H
  obtain ⟨oP, cP, rfl, -, -⟩ := M.P.shape
  obtain ⟨oK, cK, rfl, -, -⟩ := M.K.shape
  obtain ⟨oG, cG, rfl, -, -⟩ := M.G.shape
  obtain ⟨oD, cD, rfl, -, -⟩ := M.D.shape
  have HM := Lib.hid (show ∀ w', Below w.heap.size w w' → CkM w' B X _ _ _ _ from fun w' h => M.below (h.mono hB))
  have HB0 := Lib.hid hB
  clear M hB HWx H
  have X0 := Blk.new w 33 (ckc X (.slice oP X.P.length cP) (.slice oK X.K.length cK) (.slice oG X.G.length cG) (.slice oD X.D.length cD))
  have belw0 := (Below.refl w.heap.size w).alloc (Nat.le_refl _) (.cells (ckc X (.slice oP X.P.length cP) (.slice oK X.K.length cK) (.slice oG X.G.length cG) (.slice oD X.D.length cD)) 33)
  unfold ckc at X0 belw0 ⊢
  go_enter Tryd.func18, Tryd.ntmps18
  go_upto_region 1 with fail
  obtain ⟨w0, hw0⟩ : ∃ w0, w.alloc (.cells #[.int .i64 X.ty, .int .i64 X.fl, .int .u32 X.tsn, .int .i64 X.st, .int .i64 X.ss, .int .u32 X.pr, .string X.d, .int .u32 X.tg, .int .u32 X.rw, .int .i64 X.ou, .int .i64 X.ii, .slice oP X.P.length cP, .slice oK X.K.length cK, .slice oG X.G.length cG, .slice oD X.D.length cD] 33) = w0 := ⟨_, rfl⟩
  rw [hw0] at X0 belw0
  try rw [hw0]
  clear hw0
  obtain ⟨cb, hcb⟩ : ∃ cb, w.heap.size = cb := ⟨_, rfl⟩
  have hcl := X0.lt
  rw [hcb] at X0 hcl
  try rw [hcb]
  have hm := cmay_law HW.out (HM.out _ belw0) (Nat.le_trans HB0.out belw0.size)
  rw [HH.out] at hm
  unfold ckc at hm
  go_wp2_with (first | (refine wpList_load_at rfl 33 _ rfl cb 0 rfl #[.int .i64 X.ty, .int .i64 X.fl, .int .u32 X.tsn, .int .i64 X.st, .int .i64 X.ss, .int .u32 X.pr, .string X.d, .int .u32 X.tg, .int .u32 X.rw, .int .i64 X.ou, .int .i64 X.ii, .slice oP X.P.length cP, .slice oK X.K.length cK, .slice oG X.G.length cG, .slice oD X.D.length cD] _ (Cel.of_blk X0) Tryd.underlying33 rfl (by show _ = some 15; kernel_rfl) ?_) | (go_at_call 12; refine hm.mono ?_; rintro e w1 ⟨rfl, hb1⟩))
  go_ret
  exact ⟨ret_str (by rw [← HRB.out]; rfl), belw0.trans (hb1.mono belw0.size)⟩
set_option maxHeartbeats 4000000 in
theorem cput_yes {X : Ck} {w : World} {B : Nat} {vP vK vG vD : Value} (H : mayF X = true) (HWx : CkW X) (M : CkM w B X vP vK vG vD) (hB : B ≤ w.heap.size) : Calls Tryd.prog 18 #[.agg (ckc X vP vK vG vD)] w fun e w' => e = .returned (.string (putF X)) ∧ Below w.heap.size w w' := by
  obtain ⟨rb, hrb⟩ : ∃ rb, putF X = rb := ⟨_, rfl⟩
  rw [hrb]
  unfold putF at hrb
  rw [H] at hrb
  have HRB := Lib.hid hrb
  clear hrb
  have HW := Lib.hid HWx
  have HO := Lib.hid ((may_iff X).1 H)
  have HH := Lib.hid H
  obtain ⟨oP, cP, rfl, -, -⟩ := M.P.shape
  obtain ⟨oK, cK, rfl, -, -⟩ := M.K.shape
  obtain ⟨oG, cG, rfl, -, -⟩ := M.G.shape
  obtain ⟨oD, cD, rfl, -, -⟩ := M.D.shape
  have HM := Lib.hid (show ∀ w', Below w.heap.size w w' → CkM w' B X _ _ _ _ from fun w' h => M.below (h.mono hB))
  have HB0 := Lib.hid hB
  clear M hB HWx H
  have X0 := Blk.new w 33 (ckc X (.slice oP X.P.length cP) (.slice oK X.K.length cK) (.slice oG X.G.length cG) (.slice oD X.D.length cD))
  have belw0 := (Below.refl w.heap.size w).alloc (Nat.le_refl _) (.cells (ckc X (.slice oP X.P.length cP) (.slice oK X.K.length cK) (.slice oG X.G.length cG) (.slice oD X.D.length cD)) 33)
  unfold ckc at X0 belw0 ⊢
  go_enter Tryd.func18, Tryd.ntmps18
  go_upto_region 1 with fail
  obtain ⟨w0, hw0⟩ : ∃ w0, w.alloc (.cells #[.int .i64 X.ty, .int .i64 X.fl, .int .u32 X.tsn, .int .i64 X.st, .int .i64 X.ss, .int .u32 X.pr, .string X.d, .int .u32 X.tg, .int .u32 X.rw, .int .i64 X.ou, .int .i64 X.ii, .slice oP X.P.length cP, .slice oK X.K.length cK, .slice oG X.G.length cG, .slice oD X.D.length cD] 33) = w0 := ⟨_, rfl⟩
  rw [hw0] at X0 belw0
  try rw [hw0]
  clear hw0
  obtain ⟨cb, hcb⟩ : ∃ cb, w.heap.size = cb := ⟨_, rfl⟩
  have hcl := X0.lt
  rw [hcb] at X0 hcl
  try rw [hcb]
  have hm := cmay_law HW.out (HM.out _ belw0) (Nat.le_trans HB0.out belw0.size)
  rw [HH.out] at hm
  unfold ckc at hm
  go_upto_region 3 with (first | (refine wpList_load_at rfl 33 _ rfl cb 0 rfl #[.int .i64 X.ty, .int .i64 X.fl, .int .u32 X.tsn, .int .i64 X.st, .int .i64 X.ss, .int .u32 X.pr, .string X.d, .int .u32 X.tg, .int .u32 X.rw, .int .i64 X.ou, .int .i64 X.ii, .slice oP X.P.length cP, .slice oK X.K.length cK, .slice oG X.G.length cG, .slice oD X.D.length cD] _ (Cel.of_blk X0) Tryd.underlying33 rfl (by show _ = some 15; kernel_rfl) ?_) | (go_at_call 12; refine hm.mono ?_; rintro e w1 ⟨rfl, hb1⟩))
  have X1 := X0.below hb1 X0.lt
  have bel1 := belw0.trans (hb1.mono belw0.size)
  clear X0 belw0 hb1 hm
  have hc := body_any HO.out HW.out (HM.out _ bel1) (Nat.le_trans HB0.out bel1.size)
  unfold ckc at hc
  go_upto_region 4 with (first | (refine wpList_load_at rfl 33 _ rfl cb 0 rfl #[.int .i64 X.ty, .int .i64 X.fl, .int .u32 X.tsn, .int .i64 X.st, .int .i64 X.ss, .int .u32 X.pr, .string X.d, .int .u32 X.tg, .int .u32 X.rw, .int .i64 X.ou, .int .i64 X.ii, .slice oP X.P.length cP, .slice oK X.K.length cK, .slice oG X.G.length cG, .slice oD X.D.length cD] _ (Cel.of_blk X1) Tryd.underlying33 rfl (by show _ = some 15; kernel_rfl) ?_) | (go_at_call 32; refine hc.mono ?_; rintro e w2 ⟨rfl, hb2⟩))
  have X2 := X1.below hb2 X1.lt
  have bel2 := bel1.trans (hb2.mono bel1.size)
  clear X1 bel1 hb2 hc
  obtain ⟨S, hS⟩ : ∃ S, bodyF X = S := ⟨_, rfl⟩
  have zS : S.size ≤ 17000 := by rw [← hS]; exact bodyF_le HO.out
  rw [hS] at HRB ⊢
  clear hS
  have hty := HO.out.ty
  have hfl := HO.out.fl
  have hfv := flagsV_le X.ty
  have u0 := fun w => u8_p X.ty w (by omega) (by omega)
  have u1 := fun w => u8_p X.fl w (by omega) (by omega)
  have u2 := fun w => u16_p ((S.size : Int) + 4) w (by omega) (by omega)
  have hw4 : IntKind.i64.wrap ((S.size : Int) + 4) = (S.size : Int) + 4 := IntWalk.i64_in _ (by omega)
  have hf := fun w => filled_any (p1 X.ty ++ p1 X.fl ++ p2 ((S.size : Int) + 4) ++ S) w (by simp only [ByteArray.size_append, p1_size, p2_size]; omega)
  have z0 : (p1 X.ty).size ≤ 1 := by rw [p1_size]; omega
  have z1 : (p1 X.fl).size ≤ 1 := by rw [p1_size]; omega
  have z2 : (p2 ((S.size : Int) + 4)).size ≤ 2 := by rw [p2_size]; omega
  have k0 := cell_regrown (X2.cell 0)
  have k1 := cell_regrown (X2.cell 1)
  clear X2
  refine wp_region_quiet_below (by kernel_rfl) (by kernel_rfl) ?_
  repeat (any_goals (first | go_big_quiet_step ((first | (go_at_call 35; with_reducible exact Calls.regrown_of (u2 _)) | (go_at_call 34; first | (with_reducible exact Calls.regrown_of (u0 _)) | (with_reducible exact Calls.regrown_of (u1 _))) | (go_at_call 33; exact Calls.regrown_of (hf _)))) | quiet_step ((first | (go_at_call 35; with_reducible exact Calls.regrown_of (u2 _)) | (go_at_call 34; first | (with_reducible exact Calls.regrown_of (u0 _)) | (with_reducible exact Calls.regrown_of (u1 _))) | (go_at_call 33; exact Calls.regrown_of (hf _))))))
  refine wpQuiet_nil ?_
  intro w3 hw'
  obtain ⟨⟨dq, osq⟩, hw''⟩ := hw'
  have bel3 := bel2.trans ((below_regrown w2 dq osq).mono bel2.size)
  rw [← hw''] at bel3
  clear hw''
  go_wp2
  go_ret
  exact ⟨ret_str (by rw [← HRB.out]; rfl), bel3⟩
/-- A chunk's bytes. -/
theorem cput_any {X : Ck} {w : World} {B : Nat} {vP vK vG vD : Value} (HWx : CkW X) (M : CkM w B X vP vK vG vD) (hB : B ≤ w.heap.size) : Calls Tryd.prog 18 #[.agg (ckc X vP vK vG vD)] w fun e w' => e = .returned (.string (putF X)) ∧ Below w.heap.size w w' := by
  cases h : mayF X with
  | false => exact cput_no h HWx M hB
  | true => exact cput_yes h HWx M hB
end Go.Proofs.YtlaemmplemngmaaDoor.ck
/- General words, over any program: 'append(append([]T{}, q...), item)' in a region that draws its order, q a row wherever it begins (KitX's way). -/
namespace Go.Proofs.YtlaemmplemngmaaDoor.kit
open Go.ChangeShapes Go.WideShapes Go.ChangeAt Go.RowKit
section
variable {P : Program} {ops : Array Oper} {Q : Exit → Act → World → Prop} {S : World → Prop} {cc : Nat}
theorem src_item {SL T : TypeId} {sz : Nat} {ITEM : Array Value} {v : World} {bI : Nat} (ht : P.underlying SL = some (.slice T)) (B : Blk v bI T ITEM) (oneI : ∀ u ∈ ITEM.toList, u.oneCell' = true) (hIT : ITEM.toList.length = 1 * sz) : Src P sz SL (.slice (some ⟨bI, 0, none⟩) 1 1) 1 ITEM.toList v :=
  Src.ofSlice v ht _ 1 1 ITEM.toList hIT (fun j u hu => by rw [add_some, Nat.zero_add, B.cell j]; rwa [Array.getElem?_toList] at hu) oneI
theorem dappq_C {T SL : TypeId} {i0 : TypeInfo} {z : Value} {sz bytes m bq : Nat} {sv xv : Value} {cells : List Value} {ITEM : Array Value} {fuel : Nat} {L0 : Array Bool} {a : Act} {w : World}
    (iE iM iB iA : Nat) (oE oM oB oA : Oper) (tE tM tB tA t1 tx : Nat)
    (hd : dappCB ops L0 iE iM iB iA = true) (htm : dappCT tE tM tB tA t1 tx a.tmps.size = true)
    (hE : ops[iE]? = some oE) (hM : ops[iM]? = some oM) (hB : ops[iB]? = some oB) (hA : ops[iA]? = some oA)
    (gE : oE.guard = none ∧ oE.dst = some tE) (gM : oM.guard = none ∧ oM.dst = some tM) (gB : oB.guard = none ∧ oB.dst = some tB) (gA : oA.guard = none ∧ oA.dst = some tA)
    (oM' : oM.op = .call { callee := .builtin .append, args := #[.tmp tE, .tmp t1], argTypes := #[SL, SL] }) (oA' : oA.op = .call { callee := .builtin .append, args := #[.tmp tM, .tmp tB], argTypes := #[SL, SL] })
    (rE : ∀ (b : Act) (v : World), (execOp b.eval oE).run P v = .ok (.value (.slice (some ⟨v.heap.size, 0, none⟩) 0 0)) (v.alloc (.cells #[] T)))
    (rB : ∀ (b : Act) (v : World), b.eval (.tmp tx) = xv → (execOp b.eval oB).run P v = .ok (.value (.slice (some ⟨v.heap.size, 0, none⟩) 1 1)) (v.alloc (.cells ITEM T)))
    (ht : P.underlying SL = some (.slice T)) (hi : P.info? T = some i0) (hz : i0.zero = some z) (hsize : i0.size = sz) (hby : i0.bytes = bytes) (hzs : z.cells.size = sz)
    (h1 : a.eval (.tmp t1) = sv) (hx : a.eval (.tmp tx) = xv) (src : Qo w bq sz sv m cells) (one1 : ∀ u ∈ cells, u.oneCell' = true) (oneI : ∀ u ∈ ITEM.toList, u.oneCell' = true) (hIT : ITEM.toList.length = 1 * sz)
    (h63 : m + 1 ≤ maxLen) (hbytes : (m + 1) * bytes ≤ 140737488355328) (hS : ∀ v : World, Below w.heap.size w v → S v)
    (fin : ∀ (vE vM vB : Value) (oa : Option Addr) (c : Nat) (v : World), Qo v w.heap.size sz (.slice oa (m + 1) c) (m + 1) (cells ++ ITEM.toList) → Below w.heap.size w v →
      wpAnyC P .any ops Q S cc fuel ((((L0.setIfInBounds iE true).setIfInBounds iM true).setIfInBounds iB true).setIfInBounds iA true) ((((a.put (some tE) vE).put (some tM) vM).put (some tB) vB).put (some tA) (.slice oa (m + 1) c)) v) :
    wpAnyC P .any ops Q S cc (fuel + 4) L0 a w := by
  simp only [dappCB, Bool.and_eq_true, beq_iff_eq, bne_iff_ne, ne_eq] at hd
  obtain ⟨⟨⟨⟨⟨⟨⟨⟨r0, r1⟩, r2⟩, r3⟩, r4⟩, r5⟩, nEM⟩, nEB⟩, nMB⟩ := hd
  simp only [dappCT, Bool.and_eq_true, bne_iff_ne, ne_eq, decide_eq_true_eq] at htm
  obtain ⟨⟨⟨⟨⟨⟨⟨⟨⟨uEM, uEB⟩, uMB⟩, uE1⟩, uEx⟩, uMx⟩, uB1⟩, lE⟩, lM⟩, lB⟩ := htm
  -- what comes last
  have tail : ∀ (vE vM : Value) (bI : Nat) (v : World), Qo v w.heap.size sz vM m cells → Blk v bI T ITEM → Below w.heap.size w v →
      wpAnyC P .any ops Q S cc (fuel + 1) (((L0.setIfInBounds iE true).setIfInBounds iM true).setIfInBounds iB true) (((a.put (some tE) vE).put (some tM) vM).put (some tB) (.slice (some ⟨bI, 0, none⟩) 1 1)) v := by
    intro vE vM bI v own B bel
    refine wpAnyC_step r5 (by simp) fun i hi' => ?_
    obtain rfl : i = iA := by simpa using hi'
    refine wpOp_of hA gA.1 ?_
    obtain ⟨v', w', hr, q', grow, hat⟩ := qo_append (P := P) (ty := oA.type) ht hi hz hsize hby hzs own (src_item (sz := sz) ht B oneI hIT) h63 hbytes bel.size
    obtain ⟨oa, c, rfl, _, _⟩ := q'.shape
    have bel' : Below w.heap.size w w' := bel.grown grow bel.size (fun k hk => (own.lt hk).1)
    refine wp_append_src (.tmp tM) (.tmp tB) SL oA' (by rw [Act.eval_put_ne _ _ _ _ (Ne.symm uMB), Act.eval_put_same _ _ _ (by rw [Act.size_put]; exact lM)]) (Act.eval_put_same _ _ _ (by rw [Act.size_put, Act.size_put]; exact lB)) hr ?_
    rw [gA.2]
    exact ⟨hS _ bel', fin _ _ _ oa c w' q' bel'⟩
  have refl := Below.refl w.heap.size w
  have belE : Below w.heap.size w (w.alloc (.cells #[] T)) := refl.alloc (Nat.le_refl _) _
  have belB : Below w.heap.size w (w.alloc (.cells ITEM T)) := refl.alloc (Nat.le_refl _) _
  have hm1 : 0 + m ≤ maxLen := by omega
  have hm2 : (0 + m) * bytes ≤ 140737488355328 := Nat.le_trans (Nat.mul_le_mul_right _ (by omega)) hbytes
  -- the first append, wherever it comes
  have first : ∀ (e : Nat) (v : World), Below w.heap.size w v → ∃ vM v', (Builtin.append_ #[SL, SL] oM.type #[.slice (some ⟨e, 0, none⟩) 0 0, sv]).run P v = .ok vM v' ∧ Qo v' w.heap.size sz vM m cells ∧ (∀ k, k < v.heap.size → v'.heap[k]? = v.heap[k]?) ∧ Below w.heap.size w v' := by
    intro e v bel
    obtain ⟨vM, v', hr, q', grow, hat⟩ := qo_append (P := P) (ty := oM.type) ht hi hz hsize hby hzs (Qo.empty v w.heap.size sz (some ⟨e, 0, none⟩)) ((src.below bel (Nat.le_refl _)).src ht one1) hm1 hm2 bel.size
    refine ⟨vM, v', hr, by simpa using q', fun k hk => grow.block k hk (fun h => by rw [blkOf_zero] at h; cases h), bel.grown grow bel.size (fun q hq => by rw [blkOf_zero] at hq; cases hq)⟩
  refine wpAnyC_step r0 (by simp) fun i hi' => ?_
  simp only [List.mem_cons, List.not_mem_nil, or_false] at hi'
  rcases hi' with rfl | rfl
  · -- the first slice first
    refine wpOp_of hE gE.1 ?_
    unfold Oper.wp
    rw [rE]
    simp only [Oper.upon]
    rw [gE.2]
    refine ⟨hS _ belE, wpAnyC_step r1 (by simp) fun j hj => ?_⟩
    simp only [List.mem_cons, List.not_mem_nil, or_false] at hj
    rcases hj with rfl | rfl
    · refine wpOp_of hM gM.1 ?_
      obtain ⟨vM, v', hr, own', grow, bel'⟩ := first w.heap.size _ belE
      refine wp_append_src (.tmp tE) (.tmp t1) SL oM' (Act.eval_put_same _ _ _ lE) (by rw [Act.eval_put_ne _ _ _ _ uE1]; exact h1) hr ?_
      rw [gM.2]
      refine ⟨hS _ bel', wpAnyC_step r2 (by simp) fun j hj => ?_⟩
      obtain rfl : j = iB := by simpa using hj
      refine wpOp_of hB gB.1 ?_
      unfold Oper.wp
      rw [rB _ _ (by rw [Act.eval_put_ne _ _ _ _ uMx, Act.eval_put_ne _ _ _ _ uEx]; exact hx)]
      simp only [Oper.upon]
      rw [gB.2]
      have bel'' := bel'.alloc bel'.size (.cells ITEM T)
      exact ⟨hS _ bel'', tail _ _ _ _ (own'.alloc _) (Blk.new _ _ _) bel''⟩
    · refine wpOp_of hB gB.1 ?_
      unfold Oper.wp
      rw [rB _ _ (by rw [Act.eval_put_ne _ _ _ _ uEx]; exact hx)]
      simp only [Oper.upon]
      rw [gB.2]
      have bel1 := belE.alloc (by simp) (.cells ITEM T)
      refine ⟨hS _ bel1, wpAnyC_step r3 (by simp) fun j hj => ?_⟩
      obtain rfl : j = iM := by simpa using hj
      refine wpOp_of hM gM.1 ?_
      obtain ⟨vM, v', hr, own', grow, bel'⟩ := first w.heap.size _ bel1
      have B2 : Blk v' (w.alloc (.cells #[] T)).heap.size T ITEM := (grow _ (by simp)).trans (Blk.new (w.alloc (.cells #[] T)) T ITEM)
      refine wp_append_src (.tmp tE) (.tmp t1) SL oM' (by rw [Act.eval_put_ne _ _ _ _ (Ne.symm uEB)]; exact Act.eval_put_same _ _ _ lE) (by rw [Act.eval_put_ne _ _ _ _ uB1, Act.eval_put_ne _ _ _ _ uE1]; exact h1) hr ?_
      rw [gM.2, Array.setIfInBounds_comm _ _ (Ne.symm nMB), Act.put_comm _ _ _ (fun d hd q => by cases hd; cases q; exact uMB rfl)]
      exact ⟨hS _ bel', tail _ _ _ _ own' B2 bel'⟩
  · -- the item's slice first
    refine wpOp_of hB gB.1 ?_
    unfold Oper.wp
    rw [rB _ _ hx]
    simp only [Oper.upon]
    rw [gB.2]
    refine ⟨hS _ belB, wpAnyC_step r4 (by simp) fun j hj => ?_⟩
    obtain rfl : j = iE := by simpa using hj
    refine wpOp_of hE gE.1 ?_
    unfold Oper.wp
    rw [rE]
    simp only [Oper.upon]
    rw [gE.2]
    have bel1 := belB.alloc (by simp) (.cells #[] T)
    rw [Array.setIfInBounds_comm _ _ (Ne.symm nEB)]
    refine ⟨hS _ bel1, wpAnyC_step r3 (by simp) fun j hj => ?_⟩
    obtain rfl : j = iM := by simpa using hj
    refine wpOp_of hM gM.1 ?_
    obtain ⟨vM, v', hr, own', grow, bel'⟩ := first (w.alloc (.cells ITEM T)).heap.size _ bel1
    have B2 : Blk v' w.heap.size T ITEM := (grow _ (by simp; omega)).trans ((Blk.new w T ITEM).alloc (.cells #[] T))
    refine wp_append_src (.tmp tE) (.tmp t1) SL oM' (Act.eval_put_same _ _ _ (by rw [Act.size_put]; exact lE)) (by rw [Act.eval_put_ne _ _ _ _ uE1, Act.eval_put_ne _ _ _ _ uB1]; exact h1) hr ?_
    rw [gM.2, Array.setIfInBounds_comm _ _ (Ne.symm nMB), Act.put_comm a _ _ (fun d hd q => by cases hd; cases q; exact uEB rfl), Act.put_comm (a.put _ _) _ _ (fun d hd q => by cases hd; cases q; exact uMB rfl)]
    exact ⟨hS _ bel', tail _ _ _ _ own' B2 bel'⟩
end
end Go.Proofs.YtlaemmplemngmaaDoor.kit
/- Layer 27: rows of chunks; copies of a chunk's rows (gen-aka.py wrote this). -/
namespace Go.Proofs.YtlaemmplemngmaaDoor.ck
open Go.ChangeShapes Go.WideShapes Go.ChangeAt Go.RowKit kit oct par chk bld
set_option maxRecDepth 100000

theorem Qo.row {w : World} {b0 size n : Nat} {v : Value} {xs : List Value} (q : Qo w b0 size v n xs) : Row w w.heap.size size v n xs := by
  obtain ⟨oa, cap, rfl, h1, h2, h3⟩ := q.val
  rcases Nat.eq_zero_or_pos cap with h0 | h0
  · obtain rfl : n = 0 := by omega
    exact ⟨q.len, oa, ⟨0, 0, none⟩, cap, rfl, h1, h2, fun h => absurd h (by omega), fun i j hi => absurd hi (by omega)⟩
  · obtain ⟨g, off, rfl, h4, h5, h6, h7⟩ := h3 h0
    refine ⟨q.len, _, ⟨g, off, none⟩, cap, rfl, h1, h2, fun _ => ⟨rfl, h5⟩, fun i j hi hj => ?_⟩
    rw [add_some, add_some, Nat.add_assoc]
    have := Nat.mul_le_mul_right size (show i + 1 ≤ n by omega)
    rw [Nat.add_mul, Nat.one_mul] at this
    exact h7 _ (by omega)
theorem qo_setCells {w : World} {b0 size n : Nat} {v : Value} {xs : List Value} {g : Nat} (q : Qo w b0 size v n xs) (hne : blkOf v ≠ some g) : ∀ (o : Nat) (vs : List Value), Qo (w.setCells g o vs) b0 size v n xs := by
  intro o vs
  induction vs generalizing o w with
  | nil => exact q
  | cons u vs ih => exact ih (q.far (p := ⟨g, o, none⟩) hne u) (o + 1)
/-- A chunk's rows, all of them one's own. -/
structure CkQ (w : World) (b : Nat) (X : Ck) (vP vK vG vD : Value) : Prop where
  P : Qo w b 2 vP X.P.length (cellsP X.P)
  K : Qo w b 2 vK X.K.length (cellsP X.K)
  G : Qo w b 2 vG X.G.length (cellsG X.G)
  D : Qo w b 1 vD X.D.length (X.D.map (.int .u32))
theorem CkQ.ckm {w : World} {b : Nat} {X : Ck} {vP vK vG vD : Value} (h : CkQ w b X vP vK vG vD) : CkM w w.heap.size X vP vK vG vD := ⟨Qo.row h.P, Qo.row h.K, Qo.row h.G, Qo.row h.D⟩
theorem CkQ.below {w w' : World} {b k : Nat} {X : Ck} {vP vK vG vD : Value} (h : CkQ w b X vP vK vG vD) (hb : Below k w w') (hk : w.heap.size ≤ k) : CkQ w' b X vP vK vG vD := ⟨h.P.below hb hk, h.K.below hb hk, h.G.below hb hk, h.D.below hb hk⟩
theorem CkQ.setCells {w : World} {b g : Nat} {X : Ck} {vP vK vG vD : Value} (h : CkQ w b X vP vK vG vD) (hg : g < b) (o : Nat) (vs : List Value) : CkQ (w.setCells g o vs) b X vP vK vG vD :=
  ⟨qo_setCells h.P (fun e => by have := (h.P.lt e).1; omega) o vs, qo_setCells h.K (fun e => by have := (h.K.lt e).1; omega) o vs, qo_setCells h.G (fun e => by have := (h.G.lt e).1; omega) o vs, qo_setCells h.D (fun e => by have := (h.D.lt e).1; omega) o vs⟩
theorem cellsP_one : ∀ (L : List (Int × ByteArray)), ∀ u ∈ cellsP L, u.oneCell' = true
  | [], u, hu => by simp [cellsP] at hu
  | p :: r, u, hu => by
    simp only [cellsP, List.mem_cons] at hu
    rcases hu with rfl | rfl | hu
    · rfl
    · rfl
    · exact cellsP_one r u hu
theorem cellsG_one : ∀ (L : List (Int × Int)), ∀ u ∈ cellsG L, u.oneCell' = true
  | [], u, hu => by simp [cellsG] at hu
  | p :: r, u, hu => by
    simp only [cellsG, List.mem_cons] at hu
    rcases hu with rfl | rfl | hu
    · rfl
    · rfl
    · exact cellsG_one r u hu
theorem cellsD_one (L : List Int) : ∀ u ∈ L.map (Value.int .u32), u.oneCell' = true := fun u hu => by
  obtain ⟨d, _, rfl⟩ := List.mem_map.1 hu
  rfl
/-- A row as what is appended. -/
theorem Row.src {P : Program} {w : World} {B size n : Nat} {v : Value} {xs : List Value} (r : Row w B size v n xs) (hs : 0 < size) {tx e' : TypeId} (hk : P.underlying tx = some (.slice e')) (h1 : ∀ u ∈ xs, u.oneCell' = true) (hn0 : n = 0 → (∃ cap, v = .slice none 0 cap) ∨ ∃ a cap, v = .slice (some a) 0 cap) : Src P size tx v n xs w := by
  obtain ⟨oa, a, cap, rfl, h2, h3, h4, h5⟩ := r.val
  rcases Nat.eq_zero_or_pos n with h0 | h0
  · subst h0
    have hc : xs = [] := List.length_eq_zero_iff.1 (by rw [r.len, Nat.zero_mul])
    subst hc
    cases oa with
    | none => exact Src.ofNil w hk cap
    | some a => exact Src.ofSlice w hk a 0 cap [] (by simp) (fun j u hu => by simp at hu) (fun u hu => by simp at hu)
  · obtain ⟨rfl, hb⟩ := h4 h0
    refine Src.ofSlice w hk a n cap xs r.len (fun j u hu => ?_) h1
    have hj : j < n * size := by rw [← r.len]; exact (List.getElem?_eq_some_iff.1 hu).1
    have hi : j / size < n := Nat.div_lt_of_lt_mul (by rw [Nat.mul_comm]; exact hj)
    have hm : j % size < size := Nat.mod_lt _ hs
    have := h5 (j / size) (j % size) hi hm
    rw [Nat.div_add_mod' j size, hu] at this
    rw [← this, Addr.add_add, Nat.div_add_mod' j size]
theorem sinfoP : (Tryd.prog.info? 55).map (fun i => (i.zero, i.size, i.bytes)) = some (some (.agg #[.int .i64 0, .string ByteArray.empty]), 2, 24) := by kernel_rfl
theorem scloneP {w : World} {B : Nat} {v : Value} {L : List (Int × ByteArray)} (q : Row w B 2 v L.length (cellsP L)) (hB : B ≤ w.heap.size) (hn : L.length ≤ 20) : Calls Tryd.prog 23 #[v] w fun e w' => (∃ v', e = .returned v' ∧ Qo w' w.heap.size 2 v' L.length (cellsP L)) ∧ Below w.heap.size w w' := by
  obtain ⟨oa, cap, hv, h2, h3⟩ := q.shape
  subst hv
  cases oa with
  | none =>
    have h0 : L = [] := by
      obtain ⟨oa, a, cap', e, _, _, h4, _⟩ := q.val
      rcases Nat.eq_zero_or_pos L.length with h | h
      · exact List.length_eq_zero_iff.1 h
      · have := (h4 h).1; subst this; cases e
    subst h0
    have he : ∀ W : World, (binOp .eql 28 (.slice none 0 cap) (.slice none 0 0)).run Tryd.prog W = .ok (.bool true) W := fun W => by kernel_rfl
    dsimp only [List.length_nil]
    go_enter Tryd.func23, Tryd.ntmps23
    go_wp2_with fail
    go_ret
    exact ⟨⟨_, rfl, Qo.nil _ _ _⟩, Below.refl _ _⟩
  | some a =>
    obtain ⟨i0, hi0, hz0, hz1, hz2⟩ := info_parts sinfoP
    have q1 := Qo.empty (w.alloc (.cells #[] 55)) w.heap.size 2 (some ⟨w.heap.size, 0, none⟩)
    have r1 := q.below ((Below.refl B w).alloc hB (.cells #[] 55))
    have s1 := Row.src (P := Tryd.prog) (tx := 28) r1 (by decide) Tryd.underlying28 (cellsP_one L) (fun h => .inr ⟨a, cap, by rw [h]⟩)
    obtain ⟨v', w8, hr8, q8, gr, -⟩ := qo_append (P := Tryd.prog) (t := 28) (ty := 28) Tryd.underlying28 hi0 hz0 hz1 hz2 rfl q1 s1 (by unfold maxLen; omega) (by omega) (by simp)
    have bel8 := ((Below.refl w.heap.size w).alloc (Nat.le_refl _) (.cells #[] 55)).grown gr (by simp) (fun k hk => (q1.lt hk).1)
    rw [Nat.zero_add, List.nil_append] at q8
    obtain ⟨o8, c8, hv8, _, _⟩ := q8.shape
    subst hv8
    have HE := Lib.hid (And.intro q8 bel8)
    clear q8 bel8 gr s1 r1 q1 q
    generalize L.length = n at *
    have he : ∀ W : World, (binOp .eql 28 (.slice (some a) n cap) (.slice none 0 0)).run Tryd.prog W = .ok (.bool false) W := fun W => by kernel_rfl
    go_enter Tryd.func23, Tryd.ntmps23
    go_wp2_with (at_builtin; refine wpList_append_q rfl _ _ _ rfl rfl rfl hr8 ?_)
    go_ret
    exact ⟨⟨_, rfl, HE.out.1⟩, HE.out.2⟩
theorem sinfoK : (Tryd.prog.info? 58).map (fun i => (i.zero, i.size, i.bytes)) = some (some (.agg #[.int .i64 0, .string ByteArray.empty]), 2, 24) := by kernel_rfl
theorem scloneK {w : World} {B : Nat} {v : Value} {L : List (Int × ByteArray)} (q : Row w B 2 v L.length (cellsP L)) (hB : B ≤ w.heap.size) (hn : L.length ≤ 20) : Calls Tryd.prog 24 #[v] w fun e w' => (∃ v', e = .returned v' ∧ Qo w' w.heap.size 2 v' L.length (cellsP L)) ∧ Below w.heap.size w w' := by
  obtain ⟨oa, cap, hv, h2, h3⟩ := q.shape
  subst hv
  cases oa with
  | none =>
    have h0 : L = [] := by
      obtain ⟨oa, a, cap', e, _, _, h4, _⟩ := q.val
      rcases Nat.eq_zero_or_pos L.length with h | h
      · exact List.length_eq_zero_iff.1 h
      · have := (h4 h).1; subst this; cases e
    subst h0
    have he : ∀ W : World, (binOp .eql 29 (.slice none 0 cap) (.slice none 0 0)).run Tryd.prog W = .ok (.bool true) W := fun W => by kernel_rfl
    dsimp only [List.length_nil]
    go_enter Tryd.func24, Tryd.ntmps24
    go_wp2_with fail
    go_ret
    exact ⟨⟨_, rfl, Qo.nil _ _ _⟩, Below.refl _ _⟩
  | some a =>
    obtain ⟨i0, hi0, hz0, hz1, hz2⟩ := info_parts sinfoK
    have q1 := Qo.empty (w.alloc (.cells #[] 58)) w.heap.size 2 (some ⟨w.heap.size, 0, none⟩)
    have r1 := q.below ((Below.refl B w).alloc hB (.cells #[] 58))
    have s1 := Row.src (P := Tryd.prog) (tx := 29) r1 (by decide) Tryd.underlying29 (cellsP_one L) (fun h => .inr ⟨a, cap, by rw [h]⟩)
    obtain ⟨v', w8, hr8, q8, gr, -⟩ := qo_append (P := Tryd.prog) (t := 29) (ty := 29) Tryd.underlying29 hi0 hz0 hz1 hz2 rfl q1 s1 (by unfold maxLen; omega) (by omega) (by simp)
    have bel8 := ((Below.refl w.heap.size w).alloc (Nat.le_refl _) (.cells #[] 58)).grown gr (by simp) (fun k hk => (q1.lt hk).1)
    rw [Nat.zero_add, List.nil_append] at q8
    obtain ⟨o8, c8, hv8, _, _⟩ := q8.shape
    subst hv8
    have HE := Lib.hid (And.intro q8 bel8)
    clear q8 bel8 gr s1 r1 q1 q
    generalize L.length = n at *
    have he : ∀ W : World, (binOp .eql 29 (.slice (some a) n cap) (.slice none 0 0)).run Tryd.prog W = .ok (.bool false) W := fun W => by kernel_rfl
    go_enter Tryd.func24, Tryd.ntmps24
    go_wp2_with (at_builtin; refine wpList_append_q rfl _ _ _ rfl rfl rfl hr8 ?_)
    go_ret
    exact ⟨⟨_, rfl, HE.out.1⟩, HE.out.2⟩
theorem sinfoG : (Tryd.prog.info? 61).map (fun i => (i.zero, i.size, i.bytes)) = some (some (.agg #[.int .i64 0, .int .i64 0]), 2, 16) := by kernel_rfl
theorem scloneG {w : World} {B : Nat} {v : Value} {L : List (Int × Int)} (q : Row w B 2 v L.length (cellsG L)) (hB : B ≤ w.heap.size) (hn : L.length ≤ 20) : Calls Tryd.prog 25 #[v] w fun e w' => (∃ v', e = .returned v' ∧ Qo w' w.heap.size 2 v' L.length (cellsG L)) ∧ Below w.heap.size w w' := by
  obtain ⟨oa, cap, hv, h2, h3⟩ := q.shape
  subst hv
  cases oa with
  | none =>
    have h0 : L = [] := by
      obtain ⟨oa, a, cap', e, _, _, h4, _⟩ := q.val
      rcases Nat.eq_zero_or_pos L.length with h | h
      · exact List.length_eq_zero_iff.1 h
      · have := (h4 h).1; subst this; cases e
    subst h0
    have he : ∀ W : World, (binOp .eql 30 (.slice none 0 cap) (.slice none 0 0)).run Tryd.prog W = .ok (.bool true) W := fun W => by kernel_rfl
    dsimp only [List.length_nil]
    go_enter Tryd.func25, Tryd.ntmps25
    go_wp2_with fail
    go_ret
    exact ⟨⟨_, rfl, Qo.nil _ _ _⟩, Below.refl _ _⟩
  | some a =>
    obtain ⟨i0, hi0, hz0, hz1, hz2⟩ := info_parts sinfoG
    have q1 := Qo.empty (w.alloc (.cells #[] 61)) w.heap.size 2 (some ⟨w.heap.size, 0, none⟩)
    have r1 := q.below ((Below.refl B w).alloc hB (.cells #[] 61))
    have s1 := Row.src (P := Tryd.prog) (tx := 30) r1 (by decide) Tryd.underlying30 (cellsG_one L) (fun h => .inr ⟨a, cap, by rw [h]⟩)
    obtain ⟨v', w8, hr8, q8, gr, -⟩ := qo_append (P := Tryd.prog) (t := 30) (ty := 30) Tryd.underlying30 hi0 hz0 hz1 hz2 rfl q1 s1 (by unfold maxLen; omega) (by omega) (by simp)
    have bel8 := ((Below.refl w.heap.size w).alloc (Nat.le_refl _) (.cells #[] 61)).grown gr (by simp) (fun k hk => (q1.lt hk).1)
    rw [Nat.zero_add, List.nil_append] at q8
    obtain ⟨o8, c8, hv8, _, _⟩ := q8.shape
    subst hv8
    have HE := Lib.hid (And.intro q8 bel8)
    clear q8 bel8 gr s1 r1 q1 q
    generalize L.length = n at *
    have he : ∀ W : World, (binOp .eql 30 (.slice (some a) n cap) (.slice none 0 0)).run Tryd.prog W = .ok (.bool false) W := fun W => by kernel_rfl
    go_enter Tryd.func25, Tryd.ntmps25
    go_wp2_with (at_builtin; refine wpList_append_q rfl _ _ _ rfl rfl rfl hr8 ?_)
    go_ret
    exact ⟨⟨_, rfl, HE.out.1⟩, HE.out.2⟩
theorem sinfoD : (Tryd.prog.info? 27).map (fun i => (i.zero, i.size, i.bytes)) = some (some (.int .u32 0), 1, 4) := by kernel_rfl
theorem scloneD {w : World} {B : Nat} {v : Value} {L : List Int} (q : Row w B 1 v L.length (L.map (.int .u32))) (hB : B ≤ w.heap.size) (hn : L.length ≤ 20) : Calls Tryd.prog 26 #[v] w fun e w' => (∃ v', e = .returned v' ∧ Qo w' w.heap.size 1 v' L.length (L.map (.int .u32))) ∧ Below w.heap.size w w' := by
  obtain ⟨oa, cap, hv, h2, h3⟩ := q.shape
  subst hv
  cases oa with
  | none =>
    have h0 : L = [] := by
      obtain ⟨oa, a, cap', e, _, _, h4, _⟩ := q.val
      rcases Nat.eq_zero_or_pos L.length with h | h
      · exact List.length_eq_zero_iff.1 h
      · have := (h4 h).1; subst this; cases e
    subst h0
    have he : ∀ W : World, (binOp .eql 31 (.slice none 0 cap) (.slice none 0 0)).run Tryd.prog W = .ok (.bool true) W := fun W => by kernel_rfl
    dsimp only [List.length_nil]
    go_enter Tryd.func26, Tryd.ntmps26
    go_wp2_with fail
    go_ret
    exact ⟨⟨_, rfl, Qo.nil _ _ _⟩, Below.refl _ _⟩
  | some a =>
    obtain ⟨i0, hi0, hz0, hz1, hz2⟩ := info_parts sinfoD
    have q1 := Qo.empty (w.alloc (.cells #[] 27)) w.heap.size 1 (some ⟨w.heap.size, 0, none⟩)
    have r1 := q.below ((Below.refl B w).alloc hB (.cells #[] 27))
    have s1 := Row.src (P := Tryd.prog) (tx := 31) r1 (by decide) Tryd.underlying31 (cellsD_one L) (fun h => .inr ⟨a, cap, by rw [h]⟩)
    obtain ⟨v', w8, hr8, q8, gr, -⟩ := qo_append (P := Tryd.prog) (t := 31) (ty := 31) Tryd.underlying31 hi0 hz0 hz1 hz2 rfl q1 s1 (by unfold maxLen; omega) (by omega) (by simp)
    have bel8 := ((Below.refl w.heap.size w).alloc (Nat.le_refl _) (.cells #[] 27)).grown gr (by simp) (fun k hk => (q1.lt hk).1)
    rw [Nat.zero_add, List.nil_append] at q8
    obtain ⟨o8, c8, hv8, _, _⟩ := q8.shape
    subst hv8
    have HE := Lib.hid (And.intro q8 bel8)
    clear q8 bel8 gr s1 r1 q1 q
    generalize L.length = n at *
    have he : ∀ W : World, (binOp .eql 31 (.slice (some a) n cap) (.slice none 0 0)).run Tryd.prog W = .ok (.bool false) W := fun W => by kernel_rfl
    go_enter Tryd.func26, Tryd.ntmps26
    go_wp2_with (at_builtin; refine wpList_append_q rfl _ _ _ rfl rfl rfl hr8 ?_)
    go_ret
    exact ⟨⟨_, rfl, HE.out.1⟩, HE.out.2⟩
set_option maxHeartbeats 4000000 in
theorem cclone_any {X : Ck} {w : World} {B : Nat} {vP vK vG vD : Value} (HWx : CkW X) (M : CkM w B X vP vK vG vD) (hB : B ≤ w.heap.size) : Calls Tryd.prog 14 #[.agg (ckc X vP vK vG vD)] w fun e w' => (∃ v1 v2 v3 v4, e = .returned (.agg (ckc X v1 v2 v3 v4)) ∧ CkQ w' w.heap.size X v1 v2 v3 v4) ∧ Below w.heap.size w w' := by
  have hnP := HWx.P
  have hnK := HWx.K
  have hnG := HWx.G
  have hnD := HWx.D
  clear HWx
  obtain ⟨oP, cP, rfl, -, -⟩ := M.P.shape
  obtain ⟨oK, cK, rfl, -, -⟩ := M.K.shape
  obtain ⟨oG, cG, rfl, -, -⟩ := M.G.shape
  obtain ⟨oD, cD, rfl, -, -⟩ := M.D.shape
  have HM := Lib.hid (show ∀ w', Below w.heap.size w w' → CkM w' B X _ _ _ _ from fun w' h => M.below (h.mono hB))
  have X0 := (Blk.new w 33 #[.int .i64 X.ty, .int .i64 X.fl, .int .u32 X.tsn, .int .i64 X.st, .int .i64 X.ss, .int .u32 X.pr, .string X.d, .int .u32 X.tg, .int .u32 X.rw, .int .i64 X.ou, .int .i64 X.ii, .slice oP X.P.length cP, .slice oK X.K.length cK, .slice oG X.G.length cG, .slice oD X.D.length cD]).alloc (.cells #[.int .i64 0, .int .i64 0, .int .u32 0, .int .i64 0, .int .i64 0, .int .u32 0, .string ⟨#[]⟩, .int .u32 0, .int .u32 0, .int .i64 0, .int .i64 0, .slice none 0 0, .slice none 0 0, .slice none 0 0, .slice none 0 0] 33)
  have R0 := Blk.new (w.alloc (.cells #[.int .i64 X.ty, .int .i64 X.fl, .int .u32 X.tsn, .int .i64 X.st, .int .i64 X.ss, .int .u32 X.pr, .string X.d, .int .u32 X.tg, .int .u32 X.rw, .int .i64 X.ou, .int .i64 X.ii, .slice oP X.P.length cP, .slice oK X.K.length cK, .slice oG X.G.length cG, .slice oD X.D.length cD] 33)) 33 #[.int .i64 0, .int .i64 0, .int .u32 0, .int .i64 0, .int .i64 0, .int .u32 0, .string ⟨#[]⟩, .int .u32 0, .int .u32 0, .int .i64 0, .int .i64 0, .slice none 0 0, .slice none 0 0, .slice none 0 0, .slice none 0 0]
  have bel0 := ((Below.refl w.heap.size w).alloc (Nat.le_refl _) (.cells #[.int .i64 X.ty, .int .i64 X.fl, .int .u32 X.tsn, .int .i64 X.st, .int .i64 X.ss, .int .u32 X.pr, .string X.d, .int .u32 X.tg, .int .u32 X.rw, .int .i64 X.ou, .int .i64 X.ii, .slice oP X.P.length cP, .slice oK X.K.length cK, .slice oG X.G.length cG, .slice oD X.D.length cD] 33)).alloc (by simp) (.cells #[.int .i64 0, .int .i64 0, .int .u32 0, .int .i64 0, .int .i64 0, .int .u32 0, .string ⟨#[]⟩, .int .u32 0, .int .u32 0, .int .i64 0, .int .i64 0, .slice none 0 0, .slice none 0 0, .slice none 0 0, .slice none 0 0] 33)
  rw [show (w.alloc (.cells #[.int .i64 X.ty, .int .i64 X.fl, .int .u32 X.tsn, .int .i64 X.st, .int .i64 X.ss, .int .u32 X.pr, .string X.d, .int .u32 X.tg, .int .u32 X.rw, .int .i64 X.ou, .int .i64 X.ii, .slice oP X.P.length cP, .slice oK X.K.length cK, .slice oG X.G.length cG, .slice oD X.D.length cD] 33)).heap.size = w.heap.size + 1 by simp] at R0
  obtain ⟨cb, hcb⟩ : ∃ cb, w.heap.size = cb := ⟨_, rfl⟩
  unfold ckc
  go_enter Tryd.func14, Tryd.ntmps14
  go_upto_region 1 with fail
  obtain ⟨w0, hw0⟩ : ∃ w0, (w.alloc (.cells #[.int .i64 X.ty, .int .i64 X.fl, .int .u32 X.tsn, .int .i64 X.st, .int .i64 X.ss, .int .u32 X.pr, .string X.d, .int .u32 X.tg, .int .u32 X.rw, .int .i64 X.ou, .int .i64 X.ii, .slice oP X.P.length cP, .slice oK X.K.length cK, .slice oG X.G.length cG, .slice oD X.D.length cD] 33)).alloc (.cells #[.int .i64 0, .int .i64 0, .int .u32 0, .int .i64 0, .int .i64 0, .int .u32 0, .string ⟨#[]⟩, .int .u32 0, .int .u32 0, .int .i64 0, .int .i64 0, .slice none 0 0, .slice none 0 0, .slice none 0 0, .slice none 0 0] 33) = w0 := ⟨_, rfl⟩
  rw [hw0] at X0 R0 bel0
  try rw [hw0]
  clear hw0 M
  rw [hcb] at X0 R0 bel0 HM
  try rw [hcb]
  obtain ⟨db, hdb⟩ : ∃ db, cb + 1 = db := ⟨_, rfl⟩
  rw [hdb] at R0
  try rw [hdb]
  have hdl := R0.lt
  have HB0 := Lib.hid (show B ≤ cb by omega)
  have c0 := scloneP (HM.out _ bel0).P (Nat.le_trans HB0.out (by have := R0.lt; omega)) (by omega)
  have x11 : w0.cell? ⟨cb, 11, none⟩ = some (.slice oP X.P.length cP) := X0.cell 11
  go_wp2_with fail
  clear x11
  refine c0.mono ?_
  rintro e v0 ⟨⟨y0, rfl, q0⟩, hb0⟩
  have Xv0 := X0.below hb0 X0.lt
  have Rv0 := R0.below hb0 R0.lt
  have hs0 := hb0.size
  have bv0 := bel0.trans (hb0.mono (by have := R0.lt; omega))
  obtain ⟨o0, p0, e0, _, _⟩ := q0.shape
  subst e0
  have hR0 := R0.lt
  replace q0 := q0.weaken (b1 := db + 1) (by omega)
  clear c0 X0 R0 bel0
  clear hb0
  have f0 : v0.frozen? ⟨cb, 11, none⟩ = false := Xv0.frozen 11
  have k0 : v0.cell? ⟨cb, 11, none⟩ = some (.slice oP X.P.length cP) := Xv0.cell 11
  have X1 := Xv0.set_ 11 (.slice o0 X.P.length p0)
  have R1 := Rv0.far (p := ⟨cb, 11, none⟩) (show db ≠ cb by omega) (.slice o0 X.P.length p0)
  have bel1 := bv0.setCell (p := ⟨cb, 11, none⟩) (Nat.le_refl cb) (.slice o0 X.P.length p0)
  replace q0 := q0.far (p := ⟨cb, 11, none⟩) (fun e => by have := (q0.lt e).1; have : db + 1 ≤ cb := this; omega) (.slice o0 X.P.length p0)
  have s0 : (v0.setCell ⟨cb, 11, none⟩ (.slice o0 X.P.length p0)).heap.size = v0.heap.size := by simp [World.setCell]
  clear Xv0 Rv0 bv0
  go_upto_region 2 with fail
  obtain ⟨w1, hw1⟩ : ∃ w1, v0.setCell ⟨cb, 11, none⟩ (.slice o0 X.P.length p0) = w1 := ⟨_, rfl⟩
  rw [hw1] at X1 R1 bel1 s0 q0
  try rw [hw1]
  clear hw1 f0 k0
  have c1 := scloneK (HM.out _ bel1).K (Nat.le_trans HB0.out (by have := R1.lt; omega)) (by omega)
  have x12 : w1.cell? ⟨cb, 12, none⟩ = some (.slice oK X.K.length cK) := X1.cell 12
  go_wp2_with fail
  clear x12
  refine c1.mono ?_
  rintro e v1 ⟨⟨y1, rfl, q1⟩, hb1⟩
  have Xv1 := X1.below hb1 X1.lt
  have Rv1 := R1.below hb1 R1.lt
  have hs1 := hb1.size
  have bv1 := bel1.trans (hb1.mono (by have := R1.lt; omega))
  obtain ⟨o1, p1, e1, _, _⟩ := q1.shape
  subst e1
  have hR1 := R1.lt
  replace q1 := q1.weaken (b1 := db + 1) (by omega)
  clear c1 X1 R1 bel1
  replace q0 := q0.below hb1 (Nat.le_refl _)
  clear hb1
  have f1 : v1.frozen? ⟨cb, 12, none⟩ = false := Xv1.frozen 12
  have k1 : v1.cell? ⟨cb, 12, none⟩ = some (.slice oK X.K.length cK) := Xv1.cell 12
  have X2 := Xv1.set_ 12 (.slice o1 X.K.length p1)
  have R2 := Rv1.far (p := ⟨cb, 12, none⟩) (show db ≠ cb by omega) (.slice o1 X.K.length p1)
  have bel2 := bv1.setCell (p := ⟨cb, 12, none⟩) (Nat.le_refl cb) (.slice o1 X.K.length p1)
  replace q0 := q0.far (p := ⟨cb, 12, none⟩) (fun e => by have := (q0.lt e).1; have : db + 1 ≤ cb := this; omega) (.slice o1 X.K.length p1)
  replace q1 := q1.far (p := ⟨cb, 12, none⟩) (fun e => by have := (q1.lt e).1; have : db + 1 ≤ cb := this; omega) (.slice o1 X.K.length p1)
  have s1 : (v1.setCell ⟨cb, 12, none⟩ (.slice o1 X.K.length p1)).heap.size = v1.heap.size := by simp [World.setCell]
  clear Xv1 Rv1 bv1
  go_upto_region 3 with fail
  obtain ⟨w2, hw2⟩ : ∃ w1, v1.setCell ⟨cb, 12, none⟩ (.slice o1 X.K.length p1) = w1 := ⟨_, rfl⟩
  rw [hw2] at X2 R2 bel2 s1 q0 q1
  try rw [hw2]
  clear hw2 f1 k1
  have c2 := scloneG (HM.out _ bel2).G (Nat.le_trans HB0.out (by have := R2.lt; omega)) (by omega)
  have x13 : w2.cell? ⟨cb, 13, none⟩ = some (.slice oG X.G.length cG) := X2.cell 13
  go_wp2_with fail
  clear x13
  refine c2.mono ?_
  rintro e v2 ⟨⟨y2, rfl, q2⟩, hb2⟩
  have Xv2 := X2.below hb2 X2.lt
  have Rv2 := R2.below hb2 R2.lt
  have hs2 := hb2.size
  have bv2 := bel2.trans (hb2.mono (by have := R2.lt; omega))
  obtain ⟨o2, p2, e2, _, _⟩ := q2.shape
  subst e2
  have hR2 := R2.lt
  replace q2 := q2.weaken (b1 := db + 1) (by omega)
  clear c2 X2 R2 bel2
  replace q0 := q0.below hb2 (Nat.le_refl _)
  replace q1 := q1.below hb2 (Nat.le_refl _)
  clear hb2
  have f2 : v2.frozen? ⟨cb, 13, none⟩ = false := Xv2.frozen 13
  have k2 : v2.cell? ⟨cb, 13, none⟩ = some (.slice oG X.G.length cG) := Xv2.cell 13
  have X3 := Xv2.set_ 13 (.slice o2 X.G.length p2)
  have R3 := Rv2.far (p := ⟨cb, 13, none⟩) (show db ≠ cb by omega) (.slice o2 X.G.length p2)
  have bel3 := bv2.setCell (p := ⟨cb, 13, none⟩) (Nat.le_refl cb) (.slice o2 X.G.length p2)
  replace q0 := q0.far (p := ⟨cb, 13, none⟩) (fun e => by have := (q0.lt e).1; have : db + 1 ≤ cb := this; omega) (.slice o2 X.G.length p2)
  replace q1 := q1.far (p := ⟨cb, 13, none⟩) (fun e => by have := (q1.lt e).1; have : db + 1 ≤ cb := this; omega) (.slice o2 X.G.length p2)
  replace q2 := q2.far (p := ⟨cb, 13, none⟩) (fun e => by have := (q2.lt e).1; have : db + 1 ≤ cb := this; omega) (.slice o2 X.G.length p2)
  have s2 : (v2.setCell ⟨cb, 13, none⟩ (.slice o2 X.G.length p2)).heap.size = v2.heap.size := by simp [World.setCell]
  clear Xv2 Rv2 bv2
  go_upto_region 4 with fail
  obtain ⟨w3, hw3⟩ : ∃ w1, v2.setCell ⟨cb, 13, none⟩ (.slice o2 X.G.length p2) = w1 := ⟨_, rfl⟩
  rw [hw3] at X3 R3 bel3 s2 q0 q1 q2
  try rw [hw3]
  clear hw3 f2 k2
  have c3 := scloneD (HM.out _ bel3).D (Nat.le_trans HB0.out (by have := R3.lt; omega)) (by omega)
  have x14 : w3.cell? ⟨cb, 14, none⟩ = some (.slice oD X.D.length cD) := X3.cell 14
  go_wp2_with fail
  clear x14
  refine c3.mono ?_
  rintro e v3 ⟨⟨y3, rfl, q3⟩, hb3⟩
  have Xv3 := X3.below hb3 X3.lt
  have Rv3 := R3.below hb3 R3.lt
  have hs3 := hb3.size
  have bv3 := bel3.trans (hb3.mono (by have := R3.lt; omega))
  obtain ⟨o3, p3, e3, _, _⟩ := q3.shape
  subst e3
  have hR3 := R3.lt
  replace q3 := q3.weaken (b1 := db + 1) (by omega)
  clear c3 X3 R3 bel3
  replace q0 := q0.below hb3 (Nat.le_refl _)
  replace q1 := q1.below hb3 (Nat.le_refl _)
  replace q2 := q2.below hb3 (Nat.le_refl _)
  clear hb3
  have f3 : v3.frozen? ⟨cb, 14, none⟩ = false := Xv3.frozen 14
  have k3 : v3.cell? ⟨cb, 14, none⟩ = some (.slice oD X.D.length cD) := Xv3.cell 14
  have X4 := Xv3.set_ 14 (.slice o3 X.D.length p3)
  have R4 := Rv3.far (p := ⟨cb, 14, none⟩) (show db ≠ cb by omega) (.slice o3 X.D.length p3)
  have bel4 := bv3.setCell (p := ⟨cb, 14, none⟩) (Nat.le_refl cb) (.slice o3 X.D.length p3)
  replace q0 := q0.far (p := ⟨cb, 14, none⟩) (fun e => by have := (q0.lt e).1; have : db + 1 ≤ cb := this; omega) (.slice o3 X.D.length p3)
  replace q1 := q1.far (p := ⟨cb, 14, none⟩) (fun e => by have := (q1.lt e).1; have : db + 1 ≤ cb := this; omega) (.slice o3 X.D.length p3)
  replace q2 := q2.far (p := ⟨cb, 14, none⟩) (fun e => by have := (q2.lt e).1; have : db + 1 ≤ cb := this; omega) (.slice o3 X.D.length p3)
  replace q3 := q3.far (p := ⟨cb, 14, none⟩) (fun e => by have := (q3.lt e).1; have : db + 1 ≤ cb := this; omega) (.slice o3 X.D.length p3)
  have s3 : (v3.setCell ⟨cb, 14, none⟩ (.slice o3 X.D.length p3)).heap.size = v3.heap.size := by simp [World.setCell]
  clear Xv3 Rv3 bv3
  go_upto_region 5 with fail
  obtain ⟨w4, hw4⟩ : ∃ w1, v3.setCell ⟨cb, 14, none⟩ (.slice o3 X.D.length p3) = w1 := ⟨_, rfl⟩
  rw [hw4] at X4 R4 bel4 s3 q0 q1 q2 q3
  try rw [hw4]
  clear hw4 f3 k3
  have hone : (#[.int .i64 X.ty, .int .i64 X.fl, .int .u32 X.tsn, .int .i64 X.st, .int .i64 X.ss, .int .u32 X.pr, .string X.d, .int .u32 X.tg, .int .u32 X.rw, .int .i64 X.ou, .int .i64 X.ii, .slice o0 X.P.length p0, .slice o1 X.K.length p1, .slice o2 X.G.length p2, .slice o3 X.D.length p3] : Array Value).all (·.oneCell') = true := by
    rw [Array.all_eq_true']
    intro x hx
    simp only [List.mem_toArray, List.mem_cons, List.not_mem_nil, or_false] at hx
    rcases hx with rfl | rfl | rfl | rfl | rfl | rfl | rfl | rfl | rfl | rfl | rfl | rfl | rfl | rfl | rfl <;> rfl
  have szY : (Tryd.prog.info? 33).map (·.size) = some (#[.int .i64 X.ty, .int .i64 X.fl, .int .u32 X.tsn, .int .i64 X.st, .int .i64 X.ss, .int .u32 X.pr, .string X.d, .int .u32 X.tg, .int .u32 X.rw, .int .i64 X.ou, .int .i64 X.ii, .slice o0 X.P.length p0, .slice o1 X.K.length p1, .slice o2 X.G.length p2, .slice o3 X.D.length p3] : Array Value).size := by show _ = some 15; kernel_rfl
  have X4' : Blk w4 cb 33 #[.int .i64 X.ty, .int .i64 X.fl, .int .u32 X.tsn, .int .i64 X.st, .int .i64 X.ss, .int .u32 X.pr, .string X.d, .int .u32 X.tg, .int .u32 X.rw, .int .i64 X.ou, .int .i64 X.ii, .slice o0 X.P.length p0, .slice o1 X.K.length p1, .slice o2 X.G.length p2, .slice o3 X.D.length p3] := X4
  have ZR := (Cel.of_blk R4).setCells_same (#[.int .i64 X.ty, .int .i64 X.fl, .int .u32 X.tsn, .int .i64 X.st, .int .i64 X.ss, .int .u32 X.pr, .string X.d, .int .u32 X.tg, .int .u32 X.rw, .int .i64 X.ou, .int .i64 X.ii, .slice o0 X.P.length p0, .slice o1 X.K.length p1, .slice o2 X.G.length p2, .slice o3 X.D.length p3] : Array Value).toList rfl
  have bel10 := below_setCells bel4 (show cb ≤ db by omega) 0 (#[.int .i64 X.ty, .int .i64 X.fl, .int .u32 X.tsn, .int .i64 X.st, .int .i64 X.ss, .int .u32 X.pr, .string X.d, .int .u32 X.tg, .int .u32 X.rw, .int .i64 X.ou, .int .i64 X.ii, .slice o0 X.P.length p0, .slice o1 X.K.length p1, .slice o2 X.G.length p2, .slice o3 X.D.length p3] : Array Value).toList
  have Q4 : CkQ w4 cb X (.slice o0 X.P.length p0) (.slice o1 X.K.length p1) (.slice o2 X.G.length p2) (.slice o3 X.D.length p3) := ⟨q0.weaken (by omega), q1.weaken (by omega), q2.weaken (by omega), q3.weaken (by omega)⟩
  have Q5 : CkQ (w4.setCells db 0 (#[.int .i64 X.ty, .int .i64 X.fl, .int .u32 X.tsn, .int .i64 X.st, .int .i64 X.ss, .int .u32 X.pr, .string X.d, .int .u32 X.tg, .int .u32 X.rw, .int .i64 X.ou, .int .i64 X.ii, .slice o0 X.P.length p0, .slice o1 X.K.length p1, .slice o2 X.G.length p2, .slice o3 X.D.length p3] : Array Value).toList) cb X (.slice o0 X.P.length p0) (.slice o1 X.K.length p1) (.slice o2 X.G.length p2) (.slice o3 X.D.length p3) :=
    ⟨(qo_setCells q0 (fun e => by have := (q0.lt e).1; omega) 0 _).weaken (by omega), (qo_setCells q1 (fun e => by have := (q1.lt e).1; omega) 0 _).weaken (by omega), (qo_setCells q2 (fun e => by have := (q2.lt e).1; omega) 0 _).weaken (by omega), (qo_setCells q3 (fun e => by have := (q3.lt e).1; omega) 0 _).weaken (by omega)⟩
  have HE := Lib.hid (And.intro Q5 bel10)
  clear Q4 Q5 bel10 bel4 q0 q1 q2 q3 X4
  go_wp2_with (first | (refine wpList_load_at rfl 33 _ rfl cb 0 rfl #[.int .i64 X.ty, .int .i64 X.fl, .int .u32 X.tsn, .int .i64 X.st, .int .i64 X.ss, .int .u32 X.pr, .string X.d, .int .u32 X.tg, .int .u32 X.rw, .int .i64 X.ou, .int .i64 X.ii, .slice o0 X.P.length p0, .slice o1 X.K.length p1, .slice o2 X.G.length p2, .slice o3 X.D.length p3] _ (Cel.of_blk X4') Tryd.underlying33 rfl szY ?_) | (refine wpList_store_at rfl 33 _ _ rfl db 0 #[.int .i64 X.ty, .int .i64 X.fl, .int .u32 X.tsn, .int .i64 X.st, .int .i64 X.ss, .int .u32 X.pr, .string X.d, .int .u32 X.tg, .int .u32 X.rw, .int .i64 X.ou, .int .i64 X.ii, .slice o0 X.P.length p0, .slice o1 X.K.length p1, .slice o2 X.G.length p2, .slice o3 X.D.length p3] rfl rfl #[.int .i64 0, .int .i64 0, .int .u32 0, .int .i64 0, .int .i64 0, .int .u32 0, .string ⟨#[]⟩, .int .u32 0, .int .u32 0, .int .i64 0, .int .i64 0, .slice none 0 0, .slice none 0 0, .slice none 0 0, .slice none 0 0] (Cel.of_blk R4) szY rfl hone ?_))
  exact bodyPost_ret (v := .agg #[.int .i64 X.ty, .int .i64 X.fl, .int .u32 X.tsn, .int .i64 X.st, .int .i64 X.ss, .int .u32 X.pr, .string X.d, .int .u32 X.tg, .int .u32 X.rw, .int .i64 X.ou, .int .i64 X.ii, .slice o0 X.P.length p0, .slice o1 X.K.length p1, .slice o2 X.G.length p2, .slice o3 X.D.length p3]) (results_cell_at (p := 2) (ty := 33) rfl _ _ db 0 #[.int .i64 X.ty, .int .i64 X.fl, .int .u32 X.tsn, .int .i64 X.st, .int .i64 X.ss, .int .u32 X.pr, .string X.d, .int .u32 X.tg, .int .u32 X.rw, .int .i64 X.ou, .int .i64 X.ii, .slice o0 X.P.length p0, .slice o1 X.K.length p1, .slice o2 X.G.length p2, .slice o3 X.D.length p3] _ rfl (ZR.congr rfl) Tryd.underlying33 rfl szY) rfl ⟨⟨_, _, _, _, rfl, HE.out.1⟩, HE.out.2⟩
end Go.Proofs.YtlaemmplemngmaaDoor.ck
/- Layer 27: rows of chunks, and copies of them (gen-akb.py wrote this). -/
namespace Go.Proofs.YtlaemmplemngmaaDoor.ck
open Go.ChangeShapes Go.WideShapes Go.ChangeAt Go.RowKit kit oct par chk bld
set_option maxRecDepth 100000

abbrev V4 := Value × Value × Value × Value
def ckm (m : Ck × V4) : Array Value := ckc m.1 m.2.1 m.2.2.1 m.2.2.2.1 m.2.2.2.2
def cellsK : List (Ck × V4) → List Value
  | [] => []
  | m :: r => (ckm m).toList ++ cellsK r
theorem ckm_size (m : Ck × V4) : (ckm m).toList.length = 15 := rfl
theorem cellsK_length (M : List (Ck × V4)) : (cellsK M).length = M.length * 15 := by
  induction M with
  | nil => rfl
  | cons m r ih => simp only [cellsK, List.length_append, ckm_size, ih, List.length_cons]; omega
theorem cellsK_snoc (M : List (Ck × V4)) (m : Ck × V4) : cellsK (M ++ [m]) = cellsK M ++ (ckm m).toList := by
  induction M with
  | nil => simp [cellsK]
  | cons q r ih => simp only [List.cons_append, cellsK, ih, List.append_assoc]
theorem cellsK_at {m : Ck × V4} : ∀ {M : List (Ck × V4)} {k : Nat}, M[k]? = some m → ∀ (j : Nat), j < 15 → (cellsK M)[k * 15 + j]? = (ckm m)[j]?
  | [], _, h, _, _ => by simp at h
  | q :: r, 0, h, j, hj => by
    obtain rfl : q = m := by simpa using h
    show ((ckm q).toList ++ cellsK r)[0 * 15 + j]? = _
    rw [List.getElem?_append_left (by rw [ckm_size]; omega), Nat.zero_mul, Nat.zero_add, Array.getElem?_toList]
  | q :: r, k + 1, h, j, hj => by
    have := cellsK_at (M := r) (k := k) (by simpa using h) j hj
    show ((ckm q).toList ++ cellsK r)[(k + 1) * 15 + j]? = _
    rw [List.getElem?_append_right (by rw [ckm_size]; omega), ckm_size, show (k + 1) * 15 + j - 15 = k * 15 + j by omega]
    exact this
/-- A row of chunks in memory. -/
structure CR (w : World) (B : Nat) (v : Value) (M : List (Ck × V4)) : Prop where
  row : Row w B 15 v M.length (cellsK M)
  ok : ∀ m ∈ M, CkW m.1 ∧ CkM w B m.1 m.2.1 m.2.2.1 m.2.2.2.1 m.2.2.2.2
theorem CR.below {w w' : World} {B : Nat} {v : Value} {M : List (Ck × V4)} (h : CR w B v M) (hb : Below B w w') : CR w' B v M := ⟨h.row.below hb, fun m hm => ⟨(h.ok m hm).1, (h.ok m hm).2.below hb⟩⟩
theorem CR.at {w : World} {B : Nat} {v : Value} {M : List (Ck × V4)} (h : CR w B v M) {i : Nat} {m : Ck × V4} (hx : M[i]? = some m) : ∃ a cap, v = .slice (some a) M.length cap ∧ a.block < B ∧ ∀ (j : Nat) u, (ckm m)[j]? = some u → w.cell? ((a.add (i * 15)).add j) = some u := by
  obtain ⟨oa, a, cap, rfl, _, _, h4, h5⟩ := h.row.val
  have hi : i < M.length := (List.getElem?_eq_some_iff.1 hx).1
  obtain ⟨rfl, hb⟩ := h4 (by omega)
  refine ⟨a, cap, rfl, hb, fun j u hu => ?_⟩
  have hj : j < 15 := by have := (Array.getElem?_eq_some_iff.1 hu).1; exact this
  rw [h5 i j hi hj, cellsK_at hx j hj, hu]
/-- A chunk's own rows, and a row that lies elsewhere. -/
def Ap (m : Ck × V4) (v : Value) : Prop := ∀ k, blkOf v = some k → blkOf m.2.1 ≠ some k ∧ blkOf m.2.2.1 ≠ some k ∧ blkOf m.2.2.2.1 ≠ some k ∧ blkOf m.2.2.2.2 ≠ some k
abbrev CQ (w : World) (b : Nat) (m : Ck × V4) : Prop := CkQ w b m.1 m.2.1 m.2.2.1 m.2.2.2.1 m.2.2.2.2
theorem CQ.grown {w w' : World} {b : Nat} {m : Ck × V4} {v : Value} (h : CQ w b m) (gr : w.grownBy w' (blkOf v)) (ha : Ap m v) : CQ w' b m := by
  have f : ∀ {size n : Nat} {u : Value} {xs : List Value}, Qo w b size u n xs → (∀ k, blkOf v = some k → blkOf u ≠ some k) → Qo w' b size u n xs := fun q hne => q.block gr.size fun g hg => gr.block g (q.lt hg).2 (fun e => hne g e.symm hg)
  exact ⟨f h.P fun k hk => (ha k hk).1, f h.K fun k hk => (ha k hk).2.1, f h.G fun k hk => (ha k hk).2.2.1, f h.D fun k hk => (ha k hk).2.2.2⟩
theorem CQ.ap_low {w : World} {b : Nat} {m : Ck × V4} {v : Value} (h : CQ w b m) (hv : ∀ k, blkOf v = some k → k < b) : Ap m v := fun k hk => by
  have := hv k hk
  exact ⟨fun e => by have := (h.P.lt e).1; omega, fun e => by have := (h.K.lt e).1; omega, fun e => by have := (h.G.lt e).1; omega, fun e => by have := (h.D.lt e).1; omega⟩
theorem CQ.ap_high {w : World} {b : Nat} {m : Ck × V4} {v : Value} (h : CQ w b m) (hv : ∀ k, blkOf v = some k → w.heap.size ≤ k) : Ap m v := fun k hk => by
  have := hv k hk
  exact ⟨fun e => by have := (h.P.lt e).2; omega, fun e => by have := (h.K.lt e).2; omega, fun e => by have := (h.G.lt e).2; omega, fun e => by have := (h.D.lt e).2; omega⟩
theorem infoC : (Tryd.prog.info? 33).map (fun i => (i.zero, i.size, i.bytes)) = some (some (.agg #[.int .i64 0, .int .i64 0, .int .u32 0, .int .i64 0, .int .i64 0, .int .u32 0, .string ByteArray.empty, .int .u32 0, .int .u32 0, .int .i64 0, .int .i64 0, .slice none 0 0, .slice none 0 0, .slice none 0 0, .slice none 0 0]), 15, 184) := by kernel_rfl
theorem one15 {X : Ck} {a b c d : Value} (ha : a.oneCell' = true) (hb : b.oneCell' = true) (hc : c.oneCell' = true) (hd : d.oneCell' = true) : ∀ u ∈ (ckc X a b c d).toList, u.oneCell' = true := fun u hu => by
  simp only [ckc, List.mem_cons, List.not_mem_nil, or_false] at hu
  rcases hu with rfl | rfl | rfl | rfl | rfl | rfl | rfl | rfl | rfl | rfl | rfl | rfl | rfl | rfl | rfl <;> first | rfl | assumption
set_option maxHeartbeats 8000000 in
theorem chunks_any {w : World} {B : Nat} {v : Value} {M : List (Ck × V4)} (q : CR w B v M) (hB : B ≤ w.heap.size) (hn : M.length ≤ 20) : Calls Tryd.prog 11 #[v] w fun e w' => (∃ v' M', e = .returned v' ∧ M'.map Prod.fst = M.map Prod.fst ∧ Qo w' w.heap.size 15 v' M'.length (cellsK M') ∧ (∀ m ∈ M', CQ w' w.heap.size m ∧ Ap m v')) ∧ Below w.heap.size w w' := by
  obtain ⟨B0, hB0⟩ : ∃ B0, w.heap.size = B0 := ⟨_, rfl⟩
  have HB0 := Lib.hid hB0
  have HQ := Lib.hid (show ∀ w', Below B0 w w' → CR w' B v M from fun w' h => q.below (h.mono (by omega)))
  obtain ⟨oa, cap, hv, -, -⟩ := q.row.shape
  subst hv
  have bel0 := Below.refl B0 w
  rw [hB0]
  clear q hB0
  go_enter Tryd.func11, Tryd.ntmps11
  go_wp2_with fail
  go_loopw [3, 8] (fun s3 s8 wr => ∃ (i : Nat) (vo : Value) (M' : List (Ck × V4)), s8 = .int .i64 (i : Nat) ∧ i ≤ M.length ∧ s3 = vo ∧ M'.map Prod.fst = (M.take i).map Prod.fst ∧ Qo wr B0 15 vo i (cellsK M') ∧ (∀ m ∈ M', CQ wr B0 m ∧ Ap m vo) ∧ Below B0 w wr) (fun _ s8 _ => M.length - (intOf s8).toNat)
  case atStart => exact ⟨0, _, [], rfl, Nat.zero_le _, rfl, by simp, Qo.nil _ _ _, fun m hm => by simp at hm, bel0⟩
  case round =>
    rename World => wr
    clear bel0
    obtain ⟨i, vo, M', rfl, hi, rfl, hfst, qo, hall, bel⟩ := hrel
    by_cases hlt : i < M.length
    · have hii : (i : Int) < (M.length : Int) := by omega
      have hi0 : (0 : Int) ≤ (i : Int) := by omega
      obtain ⟨⟨X, u1, u2, u3, u4⟩, hx⟩ : ∃ x, M[i]? = some x := ⟨_, List.getElem?_eq_getElem hlt⟩
      obtain ⟨a, cap', hv, hab, hpc⟩ := (HQ.out _ bel).at hx
      injection hv with hv1 hv2 hv3
      subst hv1
      subst hv3
      clear hv2
      obtain ⟨HWx, MX⟩ := (HQ.out _ bel).ok _ (List.mem_of_getElem? hx)
      dsimp only at HWx MX
      unfold ckm at hpc
      dsimp only at hpc
      obtain ⟨oP, cP, rfl, -, -⟩ := MX.P.shape
      obtain ⟨oK, cK, rfl, -, -⟩ := MX.K.shape
      obtain ⟨oG, cG, rfl, -, -⟩ := MX.G.shape
      obtain ⟨oD, cD, rfl, -, -⟩ := MX.D.shape
      have hge : B0 ≤ wr.heap.size := by rw [← HB0.out]; exact bel.size
      have hBw : B ≤ wr.heap.size := by have := HB0.out; omega
      obtain ⟨oq, cq, hvq, _, _⟩ := qo.shape
      subst hvq
      have sz : (Tryd.prog.info? 33).map (·.size) = some (ckc X (.slice oP X.P.length cP) (.slice oK X.K.length cK) (.slice oG X.G.length cG) (.slice oD X.D.length cD)).size := by show _ = some 15; kernel_rfl
      have P2 := Blk.new wr 33 (ckc X (.slice oP X.P.length cP) (.slice oK X.K.length cK) (.slice oG X.G.length cG) (.slice oD X.D.length cD))
      have al2 := (Below.refl wr.heap.size wr).alloc (Nat.le_refl _) (.cells (ckc X (.slice oP X.P.length cP) (.slice oK X.K.length cK) (.slice oG X.G.length cG) (.slice oD X.D.length cD)) 33)
      have M2 := MX.below (al2.mono hBw)
      have c1 := cclone_any HWx M2 (Nat.le_trans hBw al2.size)
      unfold ckc at c1 P2 al2 sz hpc
      go_upto_region 5 with (refine wpList_load_from rfl 33 _ rfl (a.add (i * 15)) rfl #[.int .i64 X.ty, .int .i64 X.fl, .int .u32 X.tsn, .int .i64 X.st, .int .i64 X.ss, .int .u32 X.pr, .string X.d, .int .u32 X.tg, .int .u32 X.rw, .int .i64 X.ou, .int .i64 X.ii, .slice oP X.P.length cP, .slice oK X.K.length cK, .slice oG X.G.length cG, .slice oD X.D.length cD] _ hpc Tryd.underlying33 rfl sz ?_)
      obtain ⟨w2, hw2⟩ : ∃ w2, wr.alloc (.cells #[.int .i64 X.ty, .int .i64 X.fl, .int .u32 X.tsn, .int .i64 X.st, .int .i64 X.ss, .int .u32 X.pr, .string X.d, .int .u32 X.tg, .int .u32 X.rw, .int .i64 X.ou, .int .i64 X.ii, .slice oP X.P.length cP, .slice oK X.K.length cK, .slice oG X.G.length cG, .slice oD X.D.length cD] 33) = w2 := ⟨_, rfl⟩
      rw [hw2] at P2 al2 c1
      try rw [hw2]
      clear hw2 hpc sz M2 MX
      obtain ⟨pb, hpb⟩ : ∃ pb, wr.heap.size = pb := ⟨_, rfl⟩
      rw [hpb] at P2
      try rw [hpb]
      go_wp2_with (refine wpList_load_at rfl 33 _ rfl pb 0 rfl #[.int .i64 X.ty, .int .i64 X.fl, .int .u32 X.tsn, .int .i64 X.st, .int .i64 X.ss, .int .u32 X.pr, .string X.d, .int .u32 X.tg, .int .u32 X.rw, .int .i64 X.ou, .int .i64 X.ii, .slice oP X.P.length cP, .slice oK X.K.length cK, .slice oG X.G.length cG, .slice oD X.D.length cD] _ (Cel.of_blk P2) Tryd.underlying33 rfl (by show _ = some 15; kernel_rfl) ?_)
      refine c1.mono ?_
      rintro e w3 ⟨⟨y1, y2, y3, y4, rfl, Q3⟩, hb3⟩
      clear c1 P2
      have b23 := al2.trans (hb3.mono al2.size)
      have q3 := qo.below b23 (Nat.le_refl _)
      have hall3 : ∀ m ∈ M', CQ w3 B0 m ∧ Ap m (.slice oq i cq) := fun m hm => ⟨(hall m hm).1.below b23 (Nat.le_refl _), (hall m hm).2⟩
      have bel3 := bel.trans (b23.mono hge)
      obtain ⟨rP, dP, e1, _, _⟩ := Q3.P.shape
      subst e1
      obtain ⟨rK, dK, e2, _, _⟩ := Q3.K.shape
      subst e2
      obtain ⟨rG, dG, e3, _, _⟩ := Q3.G.shape
      subst e3
      obtain ⟨rD, dD, e4, _, _⟩ := Q3.D.shape
      subst e4
      have hlow : ∀ k, blkOf (.slice oq i cq) = some k → k < w2.heap.size := fun k hk => Nat.lt_of_lt_of_le (qo.lt hk).2 al2.size
      have hs3 := b23.size
      have ap3 : Ap (X, (.slice rP X.P.length dP), (.slice rK X.K.length dK), (.slice rG X.G.length dG), (.slice rD X.D.length dD)) (.slice oq i cq) := CQ.ap_low (m := (X, _, _, _, _)) Q3 hlow
      have Q3' : CQ w3 B0 (X, (.slice rP X.P.length dP), (.slice rK X.K.length dK), (.slice rG X.G.length dG), (.slice rD X.D.length dD)) := ⟨Q3.P.weaken (Nat.le_trans hge al2.size), Q3.K.weaken (Nat.le_trans hge al2.size), Q3.G.weaken (Nat.le_trans hge al2.size), Q3.D.weaken (Nat.le_trans hge al2.size)⟩
      clear Q3 qo hall bel al2 hb3
      obtain ⟨i0, hi0', hz0, hz1, hz2⟩ := info_parts infoC
      have IT := Blk.new w3 33 (ckc X (.slice rP X.P.length dP) (.slice rK X.K.length dK) (.slice rG X.G.length dG) (.slice rD X.D.length dD))
      have I4 := src_item (P := Tryd.prog) (SL := 25) (sz := 15) Tryd.underlying25 IT (one15 rfl rfl rfl rfl) rfl
      have al4 := (Below.refl w3.heap.size w3).alloc (Nat.le_refl _) (.cells (ckc X (.slice rP X.P.length dP) (.slice rK X.K.length dK) (.slice rG X.G.length dG) (.slice rD X.D.length dD)) 33)
      have q4 := q3.below al4 (Nat.le_refl _)
      have hge3 : B0 ≤ w3.heap.size := by omega
      obtain ⟨v', w8, hr8, q8, gr, hvn⟩ := qo_append (P := Tryd.prog) (t := 25) (ty := 25) Tryd.underlying25 hi0' hz0 hz1 hz2 rfl q4 I4 (by unfold maxLen; omega) (by omega) (Nat.le_trans hge3 al4.size)
      have bel8 := (bel3.trans (al4.mono hge3)).grown gr (Nat.le_trans hge3 al4.size) (fun k hk => (q4.lt hk).1)
      have apn : ∀ m : Ck × V4, CQ (w3.alloc (.cells (ckc X (.slice rP X.P.length dP) (.slice rK X.K.length dK) (.slice rG X.G.length dG) (.slice rD X.D.length dD)) 33)) B0 m → Ap m (.slice oq i cq) → Ap m v' := fun m hm ha k hk => by
        rcases hvn with e | e | e
        · exact ha k (e ▸ hk)
        · exact CQ.ap_high hm (fun k hk => by rw [e] at hk; injection hk with hk; omega) k hk
        · rw [e] at hk; cases hk
      have hall8 : ∀ m ∈ M' ++ [(X, (.slice rP X.P.length dP), (.slice rK X.K.length dK), (.slice rG X.G.length dG), (.slice rD X.D.length dD))], CQ w8 B0 m ∧ Ap m v' := fun m hm => by
        rcases List.mem_append.1 hm with h | h
        · have h4 := (hall3 m h).1.below al4 (Nat.le_refl _)
          exact ⟨CQ.grown h4 gr (hall3 m h).2, apn m h4 (hall3 m h).2⟩
        · obtain rfl := List.mem_singleton.1 h
          have h4 := Q3'.below al4 (Nat.le_refl _)
          exact ⟨CQ.grown h4 gr ap3, apn _ h4 ap3⟩
      have q9 : Qo w8 B0 15 v' (i + 1) (cellsK (M' ++ [(X, (.slice rP X.P.length dP), (.slice rK X.K.length dK), (.slice rG X.G.length dG), (.slice rD X.D.length dD))])) := by rw [cellsK_snoc]; exact q8
      have hf9 : (M' ++ [(X, (.slice rP X.P.length dP), (.slice rK X.K.length dK), (.slice rG X.G.length dG), (.slice rD X.D.length dD))] : List (Ck × V4)).map Prod.fst = (M.take (i + 1)).map Prod.fst := by rw [take_snoc hx, List.map_append, List.map_append, hfst]; rfl
      have HE := Lib.hid (And.intro hf9 (And.intro q9 (And.intro hall8 bel8)))
      clear hf9 q9 hall8 bel8 apn hvn gr q8 q4 al4 I4 IT q3 hall3 bel3 ap3 Q3' hx hfst
      unfold ckc at hr8
      go_wp2_with (at_builtin; refine wpList_append_q rfl _ _ _ rfl rfl rfl hr8 ?_)
      go_roundw
      case rel => exact ⟨i + 1, _, _, by go_num, by omega, rfl, HE.out.1, HE.out.2.1, HE.out.2.2.1, HE.out.2.2.2⟩
      case measure => simp [intOf]; omega
    · obtain rfl : i = M.length := by omega
      rw [List.take_length] at hfst
      have hlen : M'.length = M.length := by have := congrArg List.length hfst; simpa using this
      obtain ⟨oq, cq, hvq, _, _⟩ := qo.shape
      subst hvq
      have HE := Lib.hid (And.intro hfst (And.intro qo (And.intro hall bel)))
      clear hfst qo hall bel
      go_wp2_with fail
      go_ret
      exact ⟨⟨_, M', rfl, HE.out.1, by rw [hlen]; exact HE.out.2.1, HE.out.2.2.1⟩, HE.out.2.2.2⟩
end Go.Proofs.YtlaemmplemngmaaDoor.ck
/- The document's own reader: numbers, what fills up, the end. -/
namespace Go.Proofs.YtlaemmplemngmaaDoor.oct
open Go.ChangeShapes Go.WideShapes Go.ChangeAt Go.RowKit kit

theorem tkR_le (S : ByteArray) (e : Int) (k : Nat) : (tkR S e k).size ≤ k := by
  unfold tkR; split
  · simp
  · split
    · simp; omega
    · simp
theorem numV_step (T : ByteArray) (i : Nat) (hb : i < T.size) : numV (T.data.toList.take (i + 1)) = numV (T.data.toList.take i) * 256 + T[i].toNat := by
  have e2 : T.data.toList.take (i + 1) = T.data.toList.take i ++ [T[i]] := by
    rw [List.take_succ_eq_append_getElem (by have := len_data T; omega)]
    simp [ByteArray.getElem_eq_getElem_data]
  rw [e2, numV_snoc]

/-- What the document's filling up leaves. -/
def rfV (S' : ByteArray) (e' : Int) (T : ByteArray) : Value := if T = zeros T.size then .agg #[.string S', .int .i64 e'] else .agg #[.string (rfS S' e'), .int .i64 (rfE e' 4)]

theorem zeros_get (k i : Nat) (h : i < (zeros k).size) : (zeros k)[i].toNat = 0 := by
  unfold zeros strOfNums at *
  simp [ByteArray.getElem_eq_getElem_data]

theorem zeros_of (T : ByteArray) (h : ∀ j, (hj : j < T.size) → T[j].toNat = 0) : T = zeros T.size := by
  apply ByteArray.ext
  apply Array.ext
  · show T.size = (zeros T.size).size
    rw [zeros_size]
  · intro i h1 h2
    have a := h i h1
    have b := zeros_get T.size i h2
    rw [ByteArray.getElem_eq_getElem_data] at a b
    exact UInt8.toNat_inj.1 (a.trans b.symm)

end Go.Proofs.YtlaemmplemngmaaDoor.oct
/- The check of layer 2, by plain numbers: bit by bit, by bytes, and that no two states come to one. -/
namespace Go.Proofs.YtlaemmplemngmaaDoor.crc

def word (n : Nat) : Value := .int .u32 (n : Int)

def poly : Nat := 2197175160
def s1 (c : Nat) : Nat := if c % 2 = 1 then c / 2 ^^^ poly else c / 2
def s8 (c : Nat) : Nat := s1 (s1 (s1 (s1 (s1 (s1 (s1 (s1 c)))))))
def hv : List Nat := [0x00000000, 0x105ec76f, 0x20bd8ede, 0x30e349b1, 0x417b1dbc, 0x5125dad3, 0x61c69362, 0x7198540d, 0x82f63b78, 0x92a8fc17, 0xa24bb5a6, 0xb21572c9, 0xc38d26c4, 0xd3d3e1ab, 0xe330a81a, 0xf36e6f75]
def tab (n : Nat) : Nat := hv.getD (n % 16) 0 / 16 ^^^ hv.getD ((n / 16 ^^^ hv.getD (n % 16) 0) % 16) 0

theorem s1_xor (x y : Nat) : s1 (x ^^^ y) = s1 x ^^^ s1 y := by
  have h2 : (x ^^^ y) / 2 = x / 2 ^^^ y / 2 := by
    have := Nat.shiftRight_xor_distrib (a := x) (b := y) (i := 1)
    simpa only [Nat.shiftRight_eq_div_pow, Nat.pow_one] using this
  have hm : (x ^^^ y) % 2 = (x % 2 + y % 2) % 2 := by
    have := Nat.xor_mod_two_pow (a := x) (b := y) (n := 1)
    simp only [Nat.pow_one] at this
    rw [this]
    rcases Nat.mod_two_eq_zero_or_one x with h | h <;> rcases Nat.mod_two_eq_zero_or_one y with h' | h' <;> rw [h, h'] <;> rfl
  unfold s1
  rw [h2, hm]
  rcases Nat.mod_two_eq_zero_or_one x with h | h <;> rcases Nat.mod_two_eq_zero_or_one y with h' | h' <;> simp [h, h']
  · rw [Nat.xor_assoc]
  · rw [Nat.xor_assoc, Nat.xor_assoc, Nat.xor_comm poly]
  · rw [Nat.xor_assoc, Nat.xor_comm poly, Nat.xor_assoc, Nat.xor_self, Nat.xor_zero]
theorem s8_xor (x y : Nat) : s8 (x ^^^ y) = s8 x ^^^ s8 y := by simp only [s8, s1_xor]
theorem s8_hi (h : Nat) : s8 (256 * h) = h := by
  have e : ∀ n, s1 (2 * n) = n := fun n => by unfold s1; rw [if_neg (by omega)]; omega
  unfold s8
  rw [show 256 * h = 2 * (2 * (2 * (2 * (2 * (2 * (2 * (2 * h))))))) by omega, e, e, e, e, e, e, e, e]
theorem s8_lo : ∀ n, n < 256 → s8 n = tab n := by decide +kernel
theorem cut8 (c : Nat) : c = (256 * (c / 256)) ^^^ (c % 256) := by
  apply Nat.eq_of_testBit_eq
  intro i
  have e1 : 256 * (c / 256) = (c >>> 8) <<< 8 := by rw [Nat.shiftLeft_eq, Nat.shiftRight_eq_div_pow]; omega
  rw [Nat.testBit_xor, e1, Nat.testBit_shiftLeft, Nat.testBit_shiftRight, show (256 : Nat) = 2 ^ 8 from rfl, Nat.testBit_mod_two_pow]
  by_cases h : i < 8
  · simp [h, Nat.not_le.2 h]
  · simp [h, Nat.not_lt.1 h, show 8 + (i - 8) = i by omega]
theorem step_eq (c b : Nat) (hb : b < 256) : s8 (c ^^^ b) = c / 256 ^^^ tab (c % 256 ^^^ b) := by
  have h : c ^^^ b = (256 * (c / 256)) ^^^ (c % 256 ^^^ b) := by rw [← Nat.xor_assoc, ← cut8]
  have hlt : c % 256 ^^^ b < 256 := Nat.xor_lt_two_pow (n := 8) (by omega) hb
  rw [h, s8_xor, s8_hi, s8_lo _ hlt]
theorem s1_lt {c : Nat} (h : c < 4294967296) : s1 c < 4294967296 := by
  unfold s1
  split
  · exact Nat.xor_lt_two_pow (n := 32) (by omega) (by decide)
  · omega
theorem s8_lt {c : Nat} (h : c < 4294967296) : s8 c < 4294967296 := s1_lt (s1_lt (s1_lt (s1_lt (s1_lt (s1_lt (s1_lt (s1_lt h)))))))
theorem xor_lt {a b : Nat} (h : a < 4294967296) (h' : b < 4294967296) : a ^^^ b < 4294967296 := Nat.xor_lt_two_pow (n := 32) h h'
theorem xor_zero {a b : Nat} (h : a ^^^ b = 0) : a = b := by
  have := congrArg (a ^^^ ·) h
  simp only [← Nat.xor_assoc, Nat.xor_self, Nat.zero_xor, Nat.xor_zero] at this
  exact this.symm
theorem s1_zero {z : Nat} (h : z < 4294967296) (e : s1 z = 0) : z = 0 := by
  unfold s1 at e
  split at e
  · have := xor_zero e
    unfold poly at this
    omega
  · omega
theorem s8_zero {z : Nat} (h : z < 4294967296) (e : s8 z = 0) : z = 0 :=
  s1_zero h (s1_zero (s1_lt h) (s1_zero (s1_lt (s1_lt h)) (s1_zero (s1_lt (s1_lt (s1_lt h))) (s1_zero (s1_lt (s1_lt (s1_lt (s1_lt h)))) (s1_zero (s1_lt (s1_lt (s1_lt (s1_lt (s1_lt h))))) (s1_zero (s1_lt (s1_lt (s1_lt (s1_lt (s1_lt (s1_lt h)))))) (s1_zero (s1_lt (s1_lt (s1_lt (s1_lt (s1_lt (s1_lt (s1_lt h))))))) e)))))))
theorem s8_inj {x y : Nat} (hx : x < 4294967296) (hy : y < 4294967296) (e : s8 x = s8 y) : x = y := by
  have := s8_zero (xor_lt hx hy) (by rw [s8_xor, e, Nat.xor_self])
  exact xor_zero this

/-- A byte taken in. -/
def tk (c : Nat) (b : UInt8) : Nat := s8 (c ^^^ b.toNat)
def run (l : List UInt8) (c : Nat) : Nat := l.foldl tk c
def ones : Nat := 4294967295
/-- The check of bytes. -/
def of (l : List UInt8) : Nat := ones - run l ones
theorem tk_lt {c : Nat} (b : UInt8) (h : c < 4294967296) : tk c b < 4294967296 := s8_lt (xor_lt h (by have := b.toNat_lt; omega))
theorem run_lt : ∀ (l : List UInt8) {c : Nat}, c < 4294967296 → run l c < 4294967296
  | [], _, h => h
  | b :: l, _, h => run_lt l (tk_lt b h)
theorem run_snoc (l : List UInt8) (b : UInt8) (c : Nat) : run (l ++ [b]) c = tk (run l c) b := by simp [run]
theorem run_append (l m : List UInt8) (c : Nat) : run (l ++ m) c = run m (run l c) := by simp [run]
theorem of_lt (l : List UInt8) : of l < 4294967296 := by unfold of ones; omega
theorem xor_ones (c : Nat) (h : c < 4294967296) : ones ^^^ c = ones - c := by
  have e := congrArg BitVec.toNat (BitVec.allOnes_xor (x := BitVec.ofNat 32 c))
  rw [BitVec.toNat_xor, BitVec.toNat_not, BitVec.toNat_allOnes, BitVec.toNat_ofNat, Nat.mod_eq_of_lt (show c < 2 ^ 32 from h)] at e
  exact e
theorem run_inj : ∀ (l : List UInt8) {c d : Nat}, c < 4294967296 → d < 4294967296 → run l c = run l d → c = d
  | [], _, _, _, _, e => e
  | b :: l, c, d, hc, hd, e => by
    have hb := b.toNat_lt
    have h1 := run_inj l (tk_lt b hc) (tk_lt b hd) e
    have h2 := s8_inj (xor_lt hc (by omega)) (xor_lt hd (by omega)) h1
    have h3 := congrArg (· ^^^ b.toNat) h2
    simpa [Nat.xor_assoc] using h3
/-- Two bytes of which one is another one come to another check. -/
theorem run_other (p q : List UInt8) {a b : UInt8} (hab : a ≠ b) {c : Nat} (hc : c < 4294967296) : run (p ++ a :: q) c ≠ run (p ++ b :: q) c := by
  intro e
  rw [run_append, run_append] at e
  have hp := run_lt p hc
  have ha := a.toNat_lt
  have hb := b.toNat_lt
  have h1 := run_inj q (tk_lt a hp) (tk_lt b hp) e
  have h2 := s8_inj (xor_lt hp (by omega)) (xor_lt hp (by omega)) h1
  have h3 := congrArg (run p c ^^^ ·) h2
  simp only [← Nat.xor_assoc, Nat.xor_self, Nat.zero_xor] at h3
  exact hab (UInt8.toNat_inj.1 h3)
end Go.Proofs.YtlaemmplemngmaaDoor.crc
/- Layer 8: digests of bytes, by plain numbers. -/
namespace Go.Proofs.YtlaemmplemngmaaDoor.dig
open crc (ones xor_ones)

def rot (x k : Nat) : Nat := x * 2 ^ k % 4294967296 ||| x / 2 ^ (32 - k)
theorem or_lt {a b : Nat} (h : a < 4294967296) (h' : b < 4294967296) : a ||| b < 4294967296 := Nat.or_lt_two_pow (n := 32) h h'
theorem and_lt {a b : Nat} (h : a < 4294967296) : a &&& b < 4294967296 := Nat.lt_of_le_of_lt Nat.and_le_left h
theorem xor_lt {a b : Nat} (h : a < 4294967296) (h' : b < 4294967296) : a ^^^ b < 4294967296 := Nat.xor_lt_two_pow (n := 32) h h'
theorem rot_lt {x : Nat} (k : Nat) (h : x < 4294967296) : rot x k < 4294967296 := or_lt (Nat.mod_lt _ (by decide)) (Nat.lt_of_le_of_lt (Nat.div_le_self _ _) h)

/-- A number of bytes, the highest first. -/
def numL (l : List UInt8) : Nat := l.foldl (fun n b => n * 256 + b.toNat) 0
def base (l : List UInt8) (n : Nat) : Nat := numL ((l.drop (4 * n)).take 4)
/-- The first n words of a block. -/
def wl (l : List UInt8) : Nat → List Nat
  | 0 => []
  | n + 1 => wl l n ++ [if n < 16 then base l n else rot ((wl l n).getD (n - 3) 0 ^^^ (wl l n).getD (n - 8) 0 ^^^ (wl l n).getD (n - 14) 0 ^^^ (wl l n).getD (n - 16) 0) 1]
theorem wl_len (l : List UInt8) : ∀ n, (wl l n).length = n
  | 0 => rfl
  | n + 1 => by simp [wl, wl_len l n]
theorem numL_lt4 (l : List UInt8) (h : l.length ≤ 4) : numL l < 4294967296 := by
  have key : ∀ (l : List UInt8) (n k : Nat), n < 256 ^ k → l.foldl (fun n b => n * 256 + b.toNat) n < 256 ^ (k + l.length) := by
    intro l
    induction l with
    | nil => intro n k h; simpa using h
    | cons b l ih =>
      intro n k h
      have hb := b.toNat_lt
      have := ih (n * 256 + b.toNat) (k + 1) (by rw [Nat.pow_succ]; omega)
      simp only [List.foldl_cons, List.length_cons]
      rwa [show k + 1 + l.length = k + (l.length + 1) by omega] at this
  have := key l 0 0 (by decide)
  simp only [Nat.zero_add] at this
  have h2 : 256 ^ l.length ≤ 256 ^ 4 := Nat.pow_le_pow_right (by decide) h
  unfold numL
  omega
theorem base_lt (l : List UInt8) (n : Nat) : base l n < 4294967296 := numL_lt4 _ (by simp; omega)
theorem wl_lt (l : List UInt8) : ∀ n i, (wl l n).getD i 0 < 4294967296
  | 0, i => by simp [wl]
  | n + 1, i => by
    have ih := wl_lt l n
    unfold wl
    rw [List.getD_eq_getElem?_getD, List.getElem?_append]
    split
    · rw [← List.getD_eq_getElem?_getD]; exact ih i
    · by_cases h : i - (wl l n).length = 0
      · rw [h]
        simp only [List.getElem?_cons_zero, Option.getD_some]
        split
        · exact base_lt l n
        · exact rot_lt 1 (xor_lt (xor_lt (xor_lt (ih _) (ih _)) (ih _)) (ih _))
      · rw [List.getElem?_eq_none (by simp; omega)]; decide

structure St where
  a : Nat
  b : Nat
  c : Nat
  d : Nat
  e : Nat
def St.ok (s : St) : Prop := s.a < 4294967296 ∧ s.b < 4294967296 ∧ s.c < 4294967296 ∧ s.d < 4294967296 ∧ s.e < 4294967296
def ch (n b c d : Nat) : Nat := if n / 20 = 0 then b &&& c ||| (ones - b) &&& d else if n / 20 = 2 then b &&& c ||| b &&& d ||| c &&& d else b ^^^ c ^^^ d
def ad (n : Nat) : Nat := [0x5a827999, 0x6ed9eba1, 0x8f1bbcdc, 0xca62c1d6].getD (n / 20) 0
def rd1 (n w : Nat) (s : St) : St := ⟨(rot s.a 5 + ch n s.b s.c s.d + s.e + w + ad n) % 4294967296, s.a, rot s.b 30, s.c, s.d⟩
def rds (W : List Nat) (s : St) : Nat → St
  | 0 => s
  | n + 1 => rd1 n (W.getD n 0) (rds W s n)
theorem ch_lt {n b c d : Nat} (hb : b < 4294967296) (hc : c < 4294967296) (hd : d < 4294967296) : ch n b c d < 4294967296 := by
  unfold ch
  split
  · exact or_lt (and_lt hb) (and_lt (by unfold ones; omega))
  · split
    · exact or_lt (or_lt (and_lt hb) (and_lt hb)) (and_lt hc)
    · exact xor_lt (xor_lt hb hc) hd
theorem rd1_ok (n w : Nat) {s : St} (h : s.ok) : (rd1 n w s).ok := ⟨Nat.mod_lt _ (by decide), h.1, rot_lt 30 h.2.1, h.2.2.1, h.2.2.2.1⟩
theorem rds_ok (W : List Nat) {s : St} (h : s.ok) : ∀ n, (rds W s n).ok
  | 0 => h
  | n + 1 => rd1_ok n _ (rds_ok W h n)
/-- Five words behind a block. -/
def blk (l : List UInt8) (s : St) : St :=
  let t := rds (wl l 80) s 80
  ⟨(s.a + t.a) % 4294967296, (s.b + t.b) % 4294967296, (s.c + t.c) % 4294967296, (s.d + t.d) % 4294967296, (s.e + t.e) % 4294967296⟩
theorem blk_ok (l : List UInt8) (s : St) : (blk l s).ok := ⟨Nat.mod_lt _ (by decide), Nat.mod_lt _ (by decide), Nat.mod_lt _ (by decide), Nat.mod_lt _ (by decide), Nat.mod_lt _ (by decide)⟩
def start : St := ⟨0x67452301, 0xefcdab89, 0x98badcfe, 0x10325476, 0xc3d2e1f0⟩
theorem start_ok : start.ok := ⟨by decide, by decide, by decide, by decide, by decide⟩
/-- Behind so many blocks. -/
def bl (p : List UInt8) : Nat → St
  | 0 => start
  | k + 1 => blk ((p.drop (64 * k)).take 64) (bl p k)
theorem bl_ok (p : List UInt8) : ∀ k, (bl p k).ok
  | 0 => start_ok
  | k + 1 => blk_ok _ _

/-- The document's choice in a round is the same. -/
theorem ones_bit (b i : Nat) (hb : b < 4294967296) : (ones - b).testBit i = (decide (i < 32) && !b.testBit i) := by
  rw [← xor_ones b hb, Nat.testBit_xor]
  have : ones.testBit i = decide (i < 32) := Nat.testBit_two_pow_sub_one 32 i
  rw [this]
  by_cases h : i < 32
  · simp [h]
  · have h2 : b.testBit i = false := Nat.testBit_lt_two_pow (Nat.lt_of_lt_of_le (show b < 2 ^ 32 from hb) (Nat.pow_le_pow_right (by decide) (by omega)))
    simp [h, h2]
theorem ch0 (b c d : Nat) (hb : b < 4294967296) (hd : d < 4294967296) : d ^^^ (b &&& (c ^^^ d)) = b &&& c ||| (ones - b) &&& d := by
  apply Nat.eq_of_testBit_eq
  intro i
  rw [Nat.testBit_xor, Nat.testBit_and, Nat.testBit_xor, Nat.testBit_or, Nat.testBit_and, Nat.testBit_and, ones_bit b i hb]
  by_cases h : i < 32
  · simp only [h, decide_true, Bool.true_and]
    cases b.testBit i <;> cases c.testBit i <;> cases d.testBit i <;> rfl
  · have h2 : d.testBit i = false := Nat.testBit_lt_two_pow (Nat.lt_of_lt_of_le (show d < 2 ^ 32 from hd) (Nat.pow_le_pow_right (by decide) (by omega)))
    have h3 : b.testBit i = false := Nat.testBit_lt_two_pow (Nat.lt_of_lt_of_le (show b < 2 ^ 32 from hb) (Nat.pow_le_pow_right (by decide) (by omega)))
    simp [h2, h3]
theorem ch2 (b c d : Nat) : b &&& c ||| d &&& (b ||| c) = b &&& c ||| b &&& d ||| c &&& d := by
  apply Nat.eq_of_testBit_eq
  intro i
  simp only [Nat.testBit_or, Nat.testBit_and]
  cases b.testBit i <;> cases c.testBit i <;> cases d.testBit i <;> rfl

/-- A number's lowest four, eight bytes, the highest first. -/
def b4 (n : Nat) : List UInt8 := [UInt8.ofNat (n / 16777216 % 256), UInt8.ofNat (n / 65536 % 256), UInt8.ofNat (n / 256 % 256), UInt8.ofNat (n % 256)]
def b8 (n : Nat) : List UInt8 := b4 (n / 4294967296) ++ b4 n
def padL (l : List UInt8) : List UInt8 := l ++ ([0x80] ++ (List.replicate ((119 - l.length % 64) % 64) 0 ++ b8 (8 * l.length)))
theorem padL_len (l : List UInt8) : (padL l).length = 64 * ((padL l).length / 64) := by
  have : (padL l).length = l.length + (1 + ((119 - l.length % 64) % 64 + 8)) := by simp [padL, b8, b4]; omega
  omega
def out (s : St) : List UInt8 := b4 s.a ++ (b4 s.b ++ (b4 s.c ++ (b4 s.d ++ b4 s.e)))
/-- The digest of bytes. -/
def dig (l : List UInt8) : List UInt8 := out (bl (padL l) ((padL l).length / 64))
theorem dig_len (l : List UInt8) : (dig l).length = 20 := rfl
theorem dig_abc : dig [97, 98, 99] = [169, 153, 62, 54, 71, 6, 129, 106, 186, 62, 37, 113, 120, 80, 194, 108, 156, 208, 216, 157] := by decide +kernel
end Go.Proofs.YtlaemmplemngmaaDoor.dig
