/- Layer 6: two chunks that are the same, by the document (gen-ckw.py wrote this). -/
import Derived.Test.YtfpcneekbdcbcaaGE
namespace Go.Proofs.Ytfpcneekbdcbcaa.ck
open Go.Sort (grow)
open Go.ChangeShapes Go.WideShapes Go.ChangeAt Go.RowKit kit oct par chk bld
set_option maxRecDepth 100000

set_option maxHeartbeats 16000000 in
theorem same_any {X : Ck} {w : World} {B : Nat} {v1 v2 v3 v4 u1 u2 u3 u4 : Value} (HWx : CkW X) (M1 : CkM w B X v1 v2 v3 v4) (M2 : CkM w B X u1 u2 u3 u4) (hB : B ≤ w.heap.size) : Calls Try.prog 12 #[.agg (ckc X v1 v2 v3 v4), .agg (ckc X u1 u2 u3 u4)] w fun e w' => e = .returned (.bool true) ∧ Below w.heap.size w w' := by
  have hnP := HWx.P
  have hnK := HWx.K
  have hnG := HWx.G
  have hnD := HWx.D
  clear HWx
  obtain ⟨oP, cP, rfl, -, -⟩ := M1.P.shape
  obtain ⟨oK, cK, rfl, -, -⟩ := M1.K.shape
  obtain ⟨oG, cG, rfl, -, -⟩ := M1.G.shape
  obtain ⟨oD, cD, rfl, -, -⟩ := M1.D.shape
  obtain ⟨uP, eP, rfl, -, -⟩ := M2.P.shape
  obtain ⟨uK, eK, rfl, -, -⟩ := M2.K.shape
  obtain ⟨uG, eG, rfl, -, -⟩ := M2.G.shape
  obtain ⟨uD, eD, rfl, -, -⟩ := M2.D.shape
  have X0 := (Blk.new w 28 #[.int .i64 X.ty, .int .i64 X.fl, .int .u32 X.tsn, .int .i64 X.st, .int .i64 X.ss, .int .u32 X.pr, .string X.d, .int .u32 X.tg, .int .u32 X.rw, .int .i64 X.ou, .int .i64 X.ii, .slice oP X.P.length cP, .slice oK X.K.length cK, .slice oG X.G.length cG, .slice oD X.D.length cD]).alloc (.cells #[.int .i64 X.ty, .int .i64 X.fl, .int .u32 X.tsn, .int .i64 X.st, .int .i64 X.ss, .int .u32 X.pr, .string X.d, .int .u32 X.tg, .int .u32 X.rw, .int .i64 X.ou, .int .i64 X.ii, .slice uP X.P.length eP, .slice uK X.K.length eK, .slice uG X.G.length eG, .slice uD X.D.length eD] 28)
  have Y0 := Blk.new (w.alloc (.cells #[.int .i64 X.ty, .int .i64 X.fl, .int .u32 X.tsn, .int .i64 X.st, .int .i64 X.ss, .int .u32 X.pr, .string X.d, .int .u32 X.tg, .int .u32 X.rw, .int .i64 X.ou, .int .i64 X.ii, .slice oP X.P.length cP, .slice oK X.K.length cK, .slice oG X.G.length cG, .slice oD X.D.length cD] 28)) 28 #[.int .i64 X.ty, .int .i64 X.fl, .int .u32 X.tsn, .int .i64 X.st, .int .i64 X.ss, .int .u32 X.pr, .string X.d, .int .u32 X.tg, .int .u32 X.rw, .int .i64 X.ou, .int .i64 X.ii, .slice uP X.P.length eP, .slice uK X.K.length eK, .slice uG X.G.length eG, .slice uD X.D.length eD]
  have belw0 := ((Below.refl w.heap.size w).alloc (Nat.le_refl _) (.cells #[.int .i64 X.ty, .int .i64 X.fl, .int .u32 X.tsn, .int .i64 X.st, .int .i64 X.ss, .int .u32 X.pr, .string X.d, .int .u32 X.tg, .int .u32 X.rw, .int .i64 X.ou, .int .i64 X.ii, .slice oP X.P.length cP, .slice oK X.K.length cK, .slice oG X.G.length cG, .slice oD X.D.length cD] 28)).alloc (by simp) (.cells #[.int .i64 X.ty, .int .i64 X.fl, .int .u32 X.tsn, .int .i64 X.st, .int .i64 X.ss, .int .u32 X.pr, .string X.d, .int .u32 X.tg, .int .u32 X.rw, .int .i64 X.ou, .int .i64 X.ii, .slice uP X.P.length eP, .slice uK X.K.length eK, .slice uG X.G.length eG, .slice uD X.D.length eD] 28)
  have hs1 : (w.alloc (.cells #[.int .i64 X.ty, .int .i64 X.fl, .int .u32 X.tsn, .int .i64 X.st, .int .i64 X.ss, .int .u32 X.pr, .string X.d, .int .u32 X.tg, .int .u32 X.rw, .int .i64 X.ou, .int .i64 X.ii, .slice oP X.P.length cP, .slice oK X.K.length cK, .slice oG X.G.length cG, .slice oD X.D.length cD] 28)).heap.size = w.heap.size + 1 := by simp
  rw [hs1] at Y0
  clear hs1
  unfold ckc
  go_enter Try.func12, Try.ntmps12
  go_upto_region 1 with fail
  obtain ⟨w0, hw0⟩ : ∃ w0, (w.alloc (.cells #[.int .i64 X.ty, .int .i64 X.fl, .int .u32 X.tsn, .int .i64 X.st, .int .i64 X.ss, .int .u32 X.pr, .string X.d, .int .u32 X.tg, .int .u32 X.rw, .int .i64 X.ou, .int .i64 X.ii, .slice oP X.P.length cP, .slice oK X.K.length cK, .slice oG X.G.length cG, .slice oD X.D.length cD] 28)).alloc (.cells #[.int .i64 X.ty, .int .i64 X.fl, .int .u32 X.tsn, .int .i64 X.st, .int .i64 X.ss, .int .u32 X.pr, .string X.d, .int .u32 X.tg, .int .u32 X.rw, .int .i64 X.ou, .int .i64 X.ii, .slice uP X.P.length eP, .slice uK X.K.length eK, .slice uG X.G.length eG, .slice uD X.D.length eD] 28) = w0 := ⟨_, rfl⟩
  rw [hw0] at X0 Y0 belw0
  try rw [hw0]
  clear hw0
  have HM1 := Lib.hid (show ∀ w', Below w0.heap.size w0 w' → CkM w' B X _ _ _ _ from fun w' h => M1.below ((belw0.trans (h.mono belw0.size)).mono hB))
  have HM2 := Lib.hid (show ∀ w', Below w0.heap.size w0 w' → CkM w' B X _ _ _ _ from fun w' h => M2.below ((belw0.trans (h.mono belw0.size)).mono hB))
  have HBW := Lib.hid belw0
  clear M1 M2 belw0
  obtain ⟨cb, hcb⟩ : ∃ cb, w.heap.size = cb := ⟨_, rfl⟩
  rw [hcb] at X0 Y0
  try rw [hcb]
  obtain ⟨db, hdb⟩ : ∃ db, cb + 1 = db := ⟨_, rfl⟩
  rw [hdb] at Y0
  try rw [hdb]
  clear hcb hdb
  simp only [List.append_eq, List.cons_append, List.nil_append]
  refine wp_region_lit ?_
  refine abs_list _ (fun ac hac => ?_)
  have hsz : ac.tmps.size = 192 := by rw [hac]; rfl
  have f2 : ac.eval (.tmp 2) = .pointer (some ⟨cb, 0, none⟩) := by rw [hac]; rfl
  have f3 : ac.eval (.tmp 3) = .pointer (some ⟨db, 0, none⟩) := by rw [hac]; rfl
  have HB := Lib.hid hac
  clear hac
  refine list_val (u := .pointer (some ⟨cb, 0, none⟩)) rfl rfl (run_field (s := .pointer (some ⟨cb, 0, none⟩)) rfl f2 (by kernel_rfl)) ?_
  refine abs_list _ (fun a1 h1 => ?_)
  have z1 := sp h1 hsz
  replace f2 := kp h1 (by decide) f2
  replace f3 := kp h1 (by decide) f3
  have f9 := nw h1 hsz (by decide)
  replace h1 := Lib.hid h1
  refine list_val (u := .int .i64 X.ty) rfl rfl (run_load1 (s := .pointer (some ⟨cb, 0, none⟩)) rfl f9 (by have c : w0.cell? ⟨cb, 0, none⟩ = some (.int .i64 X.ty) := X0.cell 0; go_simp)) ?_
  refine abs_list _ (fun a2 h2 => ?_)
  have z2 := sp h2 z1
  replace f2 := kp h2 (by decide) f2
  replace f3 := kp h2 (by decide) f3
  have f10 := nw h2 z1 (by decide)
  clear f9 z1
  replace h2 := Lib.hid h2
  refine list_val (u := .pointer (some ⟨db, 0, none⟩)) rfl rfl (run_field (s := .pointer (some ⟨db, 0, none⟩)) rfl f3 (by kernel_rfl)) ?_
  refine abs_list _ (fun a3 h3 => ?_)
  have z3 := sp h3 z2
  replace f2 := kp h3 (by decide) f2
  replace f3 := kp h3 (by decide) f3
  replace f10 := kp h3 (by decide) f10
  have f11 := nw h3 z2 (by decide)
  clear z2
  replace h3 := Lib.hid h3
  refine list_val (u := .int .i64 X.ty) rfl rfl (run_load1 (s := .pointer (some ⟨db, 0, none⟩)) rfl f11 (by have c : w0.cell? ⟨db, 0, none⟩ = some (.int .i64 X.ty) := Y0.cell 0; go_simp)) ?_
  refine abs_list _ (fun a4 h4 => ?_)
  have z4 := sp h4 z3
  replace f2 := kp h4 (by decide) f2
  replace f3 := kp h4 (by decide) f3
  replace f10 := kp h4 (by decide) f10
  have f12 := nw h4 z3 (by decide)
  clear f11 z3
  replace h4 := Lib.hid h4
  refine list_val (u := .bool false) rfl rfl (run_cmp_int (k := .i64) (p := X.ty) (q := X.ty) rfl (.inl rfl) f10 f12 ((neq_i3 _ _ _).trans (by simp))) ?_
  refine abs_list _ (fun a5 h5 => ?_)
  have z5 := sp h5 z4
  replace f2 := kp h5 (by decide) f2
  replace f3 := kp h5 (by decide) f3
  have f13 := nw h5 z4 (by decide)
  clear f10 f12 z4
  replace h5 := Lib.hid h5
  refine list_val (u := .bool false) rfl rfl (run_move rfl f13 _) ?_
  refine abs_list _ (fun a6 h6 => ?_)
  have z6 := sp h6 z5
  replace f2 := kp h6 (by decide) f2
  replace f3 := kp h6 (by decide) f3
  have f14 := nw h6 z5 (by decide)
  clear f13 z5
  replace h6 := Lib.hid h6
  refine list_if (u := .pointer (some ⟨cb, 1, none⟩)) (b := false) (c := true) (c' := true) (dk := 14) rfl (by kernel_rfl) (f14.trans (cv_true _).symm) rfl (by rfl) (fun h => run_field (s := .pointer (some ⟨cb, 0, none⟩)) rfl f2 (by kernel_rfl)) ?_
  refine abs_list _ (fun a7 h7 => ?_)
  have z7 := sp h7 z6
  replace f2 := kp h7 (by decide) f2
  replace f3 := kp h7 (by decide) f3
  replace f14 := kp h7 (by decide) f14
  have f15 := nw h7 z6 (by decide)
  clear z6
  replace h7 := Lib.hid h7
  refine list_if (u := .int .i64 X.fl) (b := false) (c := true) (c' := true) (dk := 14) rfl (by kernel_rfl) (f14.trans (cv_true _).symm) rfl (by rfl) (fun h => run_load1 (s := .pointer (some ⟨cb, 1, none⟩)) rfl f15 (by have c : w0.cell? ⟨cb, 1, none⟩ = some (.int .i64 X.fl) := X0.cell 1; go_simp)) ?_
  refine abs_list _ (fun a8 h8 => ?_)
  have z8 := sp h8 z7
  replace f2 := kp h8 (by decide) f2
  replace f3 := kp h8 (by decide) f3
  replace f14 := kp h8 (by decide) f14
  have f16 := nw h8 z7 (by decide)
  clear f15 z7
  replace h8 := Lib.hid h8
  refine list_if (u := .pointer (some ⟨db, 1, none⟩)) (b := false) (c := true) (c' := true) (dk := 14) rfl (by kernel_rfl) (f14.trans (cv_true _).symm) rfl (by rfl) (fun h => run_field (s := .pointer (some ⟨db, 0, none⟩)) rfl f3 (by kernel_rfl)) ?_
  refine abs_list _ (fun a9 h9 => ?_)
  have z9 := sp h9 z8
  replace f2 := kp h9 (by decide) f2
  replace f3 := kp h9 (by decide) f3
  replace f14 := kp h9 (by decide) f14
  replace f16 := kp h9 (by decide) f16
  have f17 := nw h9 z8 (by decide)
  clear z8
  replace h9 := Lib.hid h9
  refine list_if (u := .int .i64 X.fl) (b := false) (c := true) (c' := true) (dk := 14) rfl (by kernel_rfl) (f14.trans (cv_true _).symm) rfl (by rfl) (fun h => run_load1 (s := .pointer (some ⟨db, 1, none⟩)) rfl f17 (by have c : w0.cell? ⟨db, 1, none⟩ = some (.int .i64 X.fl) := Y0.cell 1; go_simp)) ?_
  refine abs_list _ (fun a10 h10 => ?_)
  have z10 := sp h10 z9
  replace f2 := kp h10 (by decide) f2
  replace f3 := kp h10 (by decide) f3
  replace f14 := kp h10 (by decide) f14
  replace f16 := kp h10 (by decide) f16
  have f18 := nw h10 z9 (by decide)
  clear f17 z9
  replace h10 := Lib.hid h10
  refine list_if (u := .bool false) (b := false) (c := true) (c' := true) (dk := 14) rfl (by kernel_rfl) (f14.trans (cv_true _).symm) rfl (by rfl) (fun h => run_cmp_int (k := .i64) (p := X.fl) (q := X.fl) rfl (.inl rfl) f16 f18 ((neq_i3 _ _ _).trans (by simp))) ?_
  refine abs_list _ (fun a11 h11 => ?_)
  have z11 := sp h11 z10
  replace f2 := kp h11 (by decide) f2
  replace f3 := kp h11 (by decide) f3
  replace f14 := kp h11 (by decide) f14
  have f19 := nw h11 z10 (by decide)
  clear f16 f18 z10
  replace h11 := Lib.hid h11
  refine list_val (u := .bool false) rfl rfl (run_pick (b := false) rfl f14 (by rw [f19]; rfl)) ?_
  refine abs_list _ (fun a12 h12 => ?_)
  have z12 := sp h12 z11
  replace f2 := kp h12 (by decide) f2
  replace f3 := kp h12 (by decide) f3
  have f20 := nw h12 z11 (by decide)
  clear f14 f19 z11
  replace h12 := Lib.hid h12
  refine list_val (u := .bool false) rfl rfl (run_move rfl f20 _) ?_
  refine abs_list _ (fun a13 h13 => ?_)
  have z13 := sp h13 z12
  replace f2 := kp h13 (by decide) f2
  replace f3 := kp h13 (by decide) f3
  have f21 := nw h13 z12 (by decide)
  clear f20 z12
  replace h13 := Lib.hid h13
  refine list_if (u := .pointer (some ⟨cb, 2, none⟩)) (b := false) (c := true) (c' := true) (dk := 21) rfl (by kernel_rfl) (f21.trans (cv_true _).symm) rfl (by rfl) (fun h => run_field (s := .pointer (some ⟨cb, 0, none⟩)) rfl f2 (by kernel_rfl)) ?_
  refine abs_list _ (fun a14 h14 => ?_)
  have z14 := sp h14 z13
  replace f2 := kp h14 (by decide) f2
  replace f3 := kp h14 (by decide) f3
  replace f21 := kp h14 (by decide) f21
  have f22 := nw h14 z13 (by decide)
  clear z13
  replace h14 := Lib.hid h14
  refine list_if (u := .int .u32 X.tsn) (b := false) (c := true) (c' := true) (dk := 21) rfl (by kernel_rfl) (f21.trans (cv_true _).symm) rfl (by rfl) (fun h => run_load1 (s := .pointer (some ⟨cb, 2, none⟩)) rfl f22 (by have c : w0.cell? ⟨cb, 2, none⟩ = some (.int .u32 X.tsn) := X0.cell 2; go_simp)) ?_
  refine abs_list _ (fun a15 h15 => ?_)
  have z15 := sp h15 z14
  replace f2 := kp h15 (by decide) f2
  replace f3 := kp h15 (by decide) f3
  replace f21 := kp h15 (by decide) f21
  have f23 := nw h15 z14 (by decide)
  clear f22 z14
  replace h15 := Lib.hid h15
  refine list_if (u := .pointer (some ⟨db, 2, none⟩)) (b := false) (c := true) (c' := true) (dk := 21) rfl (by kernel_rfl) (f21.trans (cv_true _).symm) rfl (by rfl) (fun h => run_field (s := .pointer (some ⟨db, 0, none⟩)) rfl f3 (by kernel_rfl)) ?_
  refine abs_list _ (fun a16 h16 => ?_)
  have z16 := sp h16 z15
  replace f2 := kp h16 (by decide) f2
  replace f3 := kp h16 (by decide) f3
  replace f21 := kp h16 (by decide) f21
  replace f23 := kp h16 (by decide) f23
  have f24 := nw h16 z15 (by decide)
  clear z15
  replace h16 := Lib.hid h16
  refine list_if (u := .int .u32 X.tsn) (b := false) (c := true) (c' := true) (dk := 21) rfl (by kernel_rfl) (f21.trans (cv_true _).symm) rfl (by rfl) (fun h => run_load1 (s := .pointer (some ⟨db, 2, none⟩)) rfl f24 (by have c : w0.cell? ⟨db, 2, none⟩ = some (.int .u32 X.tsn) := Y0.cell 2; go_simp)) ?_
  refine abs_list _ (fun a17 h17 => ?_)
  have z17 := sp h17 z16
  replace f2 := kp h17 (by decide) f2
  replace f3 := kp h17 (by decide) f3
  replace f21 := kp h17 (by decide) f21
  replace f23 := kp h17 (by decide) f23
  have f25 := nw h17 z16 (by decide)
  clear f24 z16
  replace h17 := Lib.hid h17
  refine list_if (u := .bool false) (b := false) (c := true) (c' := true) (dk := 21) rfl (by kernel_rfl) (f21.trans (cv_true _).symm) rfl (by rfl) (fun h => run_cmp_int (k := .u32) (p := X.tsn) (q := X.tsn) rfl (.inl rfl) f23 f25 ((neq_i22 _ _ _).trans (by simp))) ?_
  refine abs_list _ (fun a18 h18 => ?_)
  have z18 := sp h18 z17
  replace f2 := kp h18 (by decide) f2
  replace f3 := kp h18 (by decide) f3
  replace f21 := kp h18 (by decide) f21
  have f26 := nw h18 z17 (by decide)
  clear f23 f25 z17
  replace h18 := Lib.hid h18
  refine list_val (u := .bool false) rfl rfl (run_pick (b := false) rfl f21 (by rw [f26]; rfl)) ?_
  refine abs_list _ (fun a19 h19 => ?_)
  have z19 := sp h19 z18
  replace f2 := kp h19 (by decide) f2
  replace f3 := kp h19 (by decide) f3
  have f27 := nw h19 z18 (by decide)
  clear f21 f26 z18
  replace h19 := Lib.hid h19
  refine list_val (u := .bool false) rfl rfl (run_move rfl f27 _) ?_
  refine abs_list _ (fun a20 h20 => ?_)
  have z20 := sp h20 z19
  replace f2 := kp h20 (by decide) f2
  replace f3 := kp h20 (by decide) f3
  have f28 := nw h20 z19 (by decide)
  clear f27 z19
  replace h20 := Lib.hid h20
  refine list_if (u := .pointer (some ⟨cb, 3, none⟩)) (b := false) (c := true) (c' := true) (dk := 28) rfl (by kernel_rfl) (f28.trans (cv_true _).symm) rfl (by rfl) (fun h => run_field (s := .pointer (some ⟨cb, 0, none⟩)) rfl f2 (by kernel_rfl)) ?_
  refine abs_list _ (fun a21 h21 => ?_)
  have z21 := sp h21 z20
  replace f2 := kp h21 (by decide) f2
  replace f3 := kp h21 (by decide) f3
  replace f28 := kp h21 (by decide) f28
  have f29 := nw h21 z20 (by decide)
  clear z20
  replace h21 := Lib.hid h21
  refine list_if (u := .int .i64 X.st) (b := false) (c := true) (c' := true) (dk := 28) rfl (by kernel_rfl) (f28.trans (cv_true _).symm) rfl (by rfl) (fun h => run_load1 (s := .pointer (some ⟨cb, 3, none⟩)) rfl f29 (by have c : w0.cell? ⟨cb, 3, none⟩ = some (.int .i64 X.st) := X0.cell 3; go_simp)) ?_
  refine abs_list _ (fun a22 h22 => ?_)
  have z22 := sp h22 z21
  replace f2 := kp h22 (by decide) f2
  replace f3 := kp h22 (by decide) f3
  replace f28 := kp h22 (by decide) f28
  have f30 := nw h22 z21 (by decide)
  clear f29 z21
  replace h22 := Lib.hid h22
  refine list_if (u := .pointer (some ⟨db, 3, none⟩)) (b := false) (c := true) (c' := true) (dk := 28) rfl (by kernel_rfl) (f28.trans (cv_true _).symm) rfl (by rfl) (fun h => run_field (s := .pointer (some ⟨db, 0, none⟩)) rfl f3 (by kernel_rfl)) ?_
  refine abs_list _ (fun a23 h23 => ?_)
  have z23 := sp h23 z22
  replace f2 := kp h23 (by decide) f2
  replace f3 := kp h23 (by decide) f3
  replace f28 := kp h23 (by decide) f28
  replace f30 := kp h23 (by decide) f30
  have f31 := nw h23 z22 (by decide)
  clear z22
  replace h23 := Lib.hid h23
  refine list_if (u := .int .i64 X.st) (b := false) (c := true) (c' := true) (dk := 28) rfl (by kernel_rfl) (f28.trans (cv_true _).symm) rfl (by rfl) (fun h => run_load1 (s := .pointer (some ⟨db, 3, none⟩)) rfl f31 (by have c : w0.cell? ⟨db, 3, none⟩ = some (.int .i64 X.st) := Y0.cell 3; go_simp)) ?_
  refine abs_list _ (fun a24 h24 => ?_)
  have z24 := sp h24 z23
  replace f2 := kp h24 (by decide) f2
  replace f3 := kp h24 (by decide) f3
  replace f28 := kp h24 (by decide) f28
  replace f30 := kp h24 (by decide) f30
  have f32 := nw h24 z23 (by decide)
  clear f31 z23
  replace h24 := Lib.hid h24
  refine list_if (u := .bool false) (b := false) (c := true) (c' := true) (dk := 28) rfl (by kernel_rfl) (f28.trans (cv_true _).symm) rfl (by rfl) (fun h => run_cmp_int (k := .i64) (p := X.st) (q := X.st) rfl (.inl rfl) f30 f32 ((neq_i3 _ _ _).trans (by simp))) ?_
  refine abs_list _ (fun a25 h25 => ?_)
  have z25 := sp h25 z24
  replace f2 := kp h25 (by decide) f2
  replace f3 := kp h25 (by decide) f3
  replace f28 := kp h25 (by decide) f28
  have f33 := nw h25 z24 (by decide)
  clear f30 f32 z24
  replace h25 := Lib.hid h25
  refine list_val (u := .bool false) rfl rfl (run_pick (b := false) rfl f28 (by rw [f33]; rfl)) ?_
  refine abs_list _ (fun a26 h26 => ?_)
  have z26 := sp h26 z25
  replace f2 := kp h26 (by decide) f2
  replace f3 := kp h26 (by decide) f3
  have f34 := nw h26 z25 (by decide)
  clear f28 f33 z25
  replace h26 := Lib.hid h26
  refine list_val (u := .bool false) rfl rfl (run_move rfl f34 _) ?_
  refine abs_list _ (fun a27 h27 => ?_)
  have z27 := sp h27 z26
  replace f2 := kp h27 (by decide) f2
  replace f3 := kp h27 (by decide) f3
  have f35 := nw h27 z26 (by decide)
  clear f34 z26
  replace h27 := Lib.hid h27
  refine list_if (u := .pointer (some ⟨cb, 4, none⟩)) (b := false) (c := true) (c' := true) (dk := 35) rfl (by kernel_rfl) (f35.trans (cv_true _).symm) rfl (by rfl) (fun h => run_field (s := .pointer (some ⟨cb, 0, none⟩)) rfl f2 (by kernel_rfl)) ?_
  refine abs_list _ (fun a28 h28 => ?_)
  have z28 := sp h28 z27
  replace f2 := kp h28 (by decide) f2
  replace f3 := kp h28 (by decide) f3
  replace f35 := kp h28 (by decide) f35
  have f36 := nw h28 z27 (by decide)
  clear z27
  replace h28 := Lib.hid h28
  refine list_if (u := .int .i64 X.ss) (b := false) (c := true) (c' := true) (dk := 35) rfl (by kernel_rfl) (f35.trans (cv_true _).symm) rfl (by rfl) (fun h => run_load1 (s := .pointer (some ⟨cb, 4, none⟩)) rfl f36 (by have c : w0.cell? ⟨cb, 4, none⟩ = some (.int .i64 X.ss) := X0.cell 4; go_simp)) ?_
  refine abs_list _ (fun a29 h29 => ?_)
  have z29 := sp h29 z28
  replace f2 := kp h29 (by decide) f2
  replace f3 := kp h29 (by decide) f3
  replace f35 := kp h29 (by decide) f35
  have f37 := nw h29 z28 (by decide)
  clear f36 z28
  replace h29 := Lib.hid h29
  refine list_if (u := .pointer (some ⟨db, 4, none⟩)) (b := false) (c := true) (c' := true) (dk := 35) rfl (by kernel_rfl) (f35.trans (cv_true _).symm) rfl (by rfl) (fun h => run_field (s := .pointer (some ⟨db, 0, none⟩)) rfl f3 (by kernel_rfl)) ?_
  refine abs_list _ (fun a30 h30 => ?_)
  have z30 := sp h30 z29
  replace f2 := kp h30 (by decide) f2
  replace f3 := kp h30 (by decide) f3
  replace f35 := kp h30 (by decide) f35
  replace f37 := kp h30 (by decide) f37
  have f38 := nw h30 z29 (by decide)
  clear z29
  replace h30 := Lib.hid h30
  refine list_if (u := .int .i64 X.ss) (b := false) (c := true) (c' := true) (dk := 35) rfl (by kernel_rfl) (f35.trans (cv_true _).symm) rfl (by rfl) (fun h => run_load1 (s := .pointer (some ⟨db, 4, none⟩)) rfl f38 (by have c : w0.cell? ⟨db, 4, none⟩ = some (.int .i64 X.ss) := Y0.cell 4; go_simp)) ?_
  refine abs_list _ (fun a31 h31 => ?_)
  have z31 := sp h31 z30
  replace f2 := kp h31 (by decide) f2
  replace f3 := kp h31 (by decide) f3
  replace f35 := kp h31 (by decide) f35
  replace f37 := kp h31 (by decide) f37
  have f39 := nw h31 z30 (by decide)
  clear f38 z30
  replace h31 := Lib.hid h31
  refine list_if (u := .bool false) (b := false) (c := true) (c' := true) (dk := 35) rfl (by kernel_rfl) (f35.trans (cv_true _).symm) rfl (by rfl) (fun h => run_cmp_int (k := .i64) (p := X.ss) (q := X.ss) rfl (.inl rfl) f37 f39 ((neq_i3 _ _ _).trans (by simp))) ?_
  refine abs_list _ (fun a32 h32 => ?_)
  have z32 := sp h32 z31
  replace f2 := kp h32 (by decide) f2
  replace f3 := kp h32 (by decide) f3
  replace f35 := kp h32 (by decide) f35
  have f40 := nw h32 z31 (by decide)
  clear f37 f39 z31
  replace h32 := Lib.hid h32
  refine list_val (u := .bool false) rfl rfl (run_pick (b := false) rfl f35 (by rw [f40]; rfl)) ?_
  refine abs_list _ (fun a33 h33 => ?_)
  have z33 := sp h33 z32
  replace f2 := kp h33 (by decide) f2
  replace f3 := kp h33 (by decide) f3
  have f41 := nw h33 z32 (by decide)
  clear f35 f40 z32
  replace h33 := Lib.hid h33
  refine list_val (u := .bool false) rfl rfl (run_move rfl f41 _) ?_
  refine abs_list _ (fun a34 h34 => ?_)
  have z34 := sp h34 z33
  replace f2 := kp h34 (by decide) f2
  replace f3 := kp h34 (by decide) f3
  have f42 := nw h34 z33 (by decide)
  clear f41 z33
  replace h34 := Lib.hid h34
  refine list_if (u := .pointer (some ⟨cb, 5, none⟩)) (b := false) (c := true) (c' := true) (dk := 42) rfl (by kernel_rfl) (f42.trans (cv_true _).symm) rfl (by rfl) (fun h => run_field (s := .pointer (some ⟨cb, 0, none⟩)) rfl f2 (by kernel_rfl)) ?_
  refine abs_list _ (fun a35 h35 => ?_)
  have z35 := sp h35 z34
  replace f2 := kp h35 (by decide) f2
  replace f3 := kp h35 (by decide) f3
  replace f42 := kp h35 (by decide) f42
  have f43 := nw h35 z34 (by decide)
  clear z34
  replace h35 := Lib.hid h35
  refine list_if (u := .int .u32 X.pr) (b := false) (c := true) (c' := true) (dk := 42) rfl (by kernel_rfl) (f42.trans (cv_true _).symm) rfl (by rfl) (fun h => run_load1 (s := .pointer (some ⟨cb, 5, none⟩)) rfl f43 (by have c : w0.cell? ⟨cb, 5, none⟩ = some (.int .u32 X.pr) := X0.cell 5; go_simp)) ?_
  refine abs_list _ (fun a36 h36 => ?_)
  have z36 := sp h36 z35
  replace f2 := kp h36 (by decide) f2
  replace f3 := kp h36 (by decide) f3
  replace f42 := kp h36 (by decide) f42
  have f44 := nw h36 z35 (by decide)
  clear f43 z35
  replace h36 := Lib.hid h36
  refine list_if (u := .pointer (some ⟨db, 5, none⟩)) (b := false) (c := true) (c' := true) (dk := 42) rfl (by kernel_rfl) (f42.trans (cv_true _).symm) rfl (by rfl) (fun h => run_field (s := .pointer (some ⟨db, 0, none⟩)) rfl f3 (by kernel_rfl)) ?_
  refine abs_list _ (fun a37 h37 => ?_)
  have z37 := sp h37 z36
  replace f2 := kp h37 (by decide) f2
  replace f3 := kp h37 (by decide) f3
  replace f42 := kp h37 (by decide) f42
  replace f44 := kp h37 (by decide) f44
  have f45 := nw h37 z36 (by decide)
  clear z36
  replace h37 := Lib.hid h37
  refine list_if (u := .int .u32 X.pr) (b := false) (c := true) (c' := true) (dk := 42) rfl (by kernel_rfl) (f42.trans (cv_true _).symm) rfl (by rfl) (fun h => run_load1 (s := .pointer (some ⟨db, 5, none⟩)) rfl f45 (by have c : w0.cell? ⟨db, 5, none⟩ = some (.int .u32 X.pr) := Y0.cell 5; go_simp)) ?_
  refine abs_list _ (fun a38 h38 => ?_)
  have z38 := sp h38 z37
  replace f2 := kp h38 (by decide) f2
  replace f3 := kp h38 (by decide) f3
  replace f42 := kp h38 (by decide) f42
  replace f44 := kp h38 (by decide) f44
  have f46 := nw h38 z37 (by decide)
  clear f45 z37
  replace h38 := Lib.hid h38
  refine list_if (u := .bool false) (b := false) (c := true) (c' := true) (dk := 42) rfl (by kernel_rfl) (f42.trans (cv_true _).symm) rfl (by rfl) (fun h => run_cmp_int (k := .u32) (p := X.pr) (q := X.pr) rfl (.inl rfl) f44 f46 ((neq_i22 _ _ _).trans (by simp))) ?_
  refine abs_list _ (fun a39 h39 => ?_)
  have z39 := sp h39 z38
  replace f2 := kp h39 (by decide) f2
  replace f3 := kp h39 (by decide) f3
  replace f42 := kp h39 (by decide) f42
  have f47 := nw h39 z38 (by decide)
  clear f44 f46 z38
  replace h39 := Lib.hid h39
  refine list_val (u := .bool false) rfl rfl (run_pick (b := false) rfl f42 (by rw [f47]; rfl)) ?_
  refine abs_list _ (fun a40 h40 => ?_)
  have z40 := sp h40 z39
  replace f2 := kp h40 (by decide) f2
  replace f3 := kp h40 (by decide) f3
  have f48 := nw h40 z39 (by decide)
  clear f42 f47 z39
  replace h40 := Lib.hid h40
  refine list_val (u := .bool false) rfl rfl (run_move rfl f48 _) ?_
  refine abs_list _ (fun a41 h41 => ?_)
  have z41 := sp h41 z40
  replace f2 := kp h41 (by decide) f2
  replace f3 := kp h41 (by decide) f3
  have f49 := nw h41 z40 (by decide)
  clear f48 z40
  replace h41 := Lib.hid h41
  refine list_if (u := .pointer (some ⟨cb, 6, none⟩)) (b := false) (c := true) (c' := true) (dk := 49) rfl (by kernel_rfl) (f49.trans (cv_true _).symm) rfl (by rfl) (fun h => run_field (s := .pointer (some ⟨cb, 0, none⟩)) rfl f2 (by kernel_rfl)) ?_
  refine abs_list _ (fun a42 h42 => ?_)
  have z42 := sp h42 z41
  replace f2 := kp h42 (by decide) f2
  replace f3 := kp h42 (by decide) f3
  replace f49 := kp h42 (by decide) f49
  have f50 := nw h42 z41 (by decide)
  clear z41
  replace h42 := Lib.hid h42
  refine list_if (u := .string X.d) (b := false) (c := true) (c' := true) (dk := 49) rfl (by kernel_rfl) (f49.trans (cv_true _).symm) rfl (by rfl) (fun h => run_load1 (s := .pointer (some ⟨cb, 6, none⟩)) rfl f50 (by have c : w0.cell? ⟨cb, 6, none⟩ = some (.string X.d) := X0.cell 6; go_simp)) ?_
  refine abs_list _ (fun a43 h43 => ?_)
  have z43 := sp h43 z42
  replace f2 := kp h43 (by decide) f2
  replace f3 := kp h43 (by decide) f3
  replace f49 := kp h43 (by decide) f49
  have f51 := nw h43 z42 (by decide)
  clear f50 z42
  replace h43 := Lib.hid h43
  refine list_if (u := .pointer (some ⟨db, 6, none⟩)) (b := false) (c := true) (c' := true) (dk := 49) rfl (by kernel_rfl) (f49.trans (cv_true _).symm) rfl (by rfl) (fun h => run_field (s := .pointer (some ⟨db, 0, none⟩)) rfl f3 (by kernel_rfl)) ?_
  refine abs_list _ (fun a44 h44 => ?_)
  have z44 := sp h44 z43
  replace f2 := kp h44 (by decide) f2
  replace f3 := kp h44 (by decide) f3
  replace f49 := kp h44 (by decide) f49
  replace f51 := kp h44 (by decide) f51
  have f52 := nw h44 z43 (by decide)
  clear z43
  replace h44 := Lib.hid h44
  refine list_if (u := .string X.d) (b := false) (c := true) (c' := true) (dk := 49) rfl (by kernel_rfl) (f49.trans (cv_true _).symm) rfl (by rfl) (fun h => run_load1 (s := .pointer (some ⟨db, 6, none⟩)) rfl f52 (by have c : w0.cell? ⟨db, 6, none⟩ = some (.string X.d) := Y0.cell 6; go_simp)) ?_
  refine abs_list _ (fun a45 h45 => ?_)
  have z45 := sp h45 z44
  replace f2 := kp h45 (by decide) f2
  replace f3 := kp h45 (by decide) f3
  replace f49 := kp h45 (by decide) f49
  replace f51 := kp h45 (by decide) f51
  have f53 := nw h45 z44 (by decide)
  clear f52 z44
  replace h45 := Lib.hid h45
  refine list_if (u := .bool false) (b := false) (c := true) (c' := true) (dk := 49) rfl (by kernel_rfl) (f49.trans (cv_true _).symm) rfl (by rfl) (fun h => run_cmp_str (p := X.d) (q := X.d) rfl (.inl rfl) f51 f53 ((neq_s _ _ _).trans (by simp))) ?_
  refine abs_list _ (fun a46 h46 => ?_)
  have z46 := sp h46 z45
  replace f2 := kp h46 (by decide) f2
  replace f3 := kp h46 (by decide) f3
  replace f49 := kp h46 (by decide) f49
  have f54 := nw h46 z45 (by decide)
  clear f51 f53 z45
  replace h46 := Lib.hid h46
  refine list_val (u := .bool false) rfl rfl (run_pick (b := false) rfl f49 (by rw [f54]; rfl)) ?_
  refine abs_list _ (fun a47 h47 => ?_)
  have z47 := sp h47 z46
  replace f2 := kp h47 (by decide) f2
  replace f3 := kp h47 (by decide) f3
  have f55 := nw h47 z46 (by decide)
  clear f49 f54 z46
  replace h47 := Lib.hid h47
  refine list_val (u := .bool false) rfl rfl (run_move rfl f55 _) ?_
  refine abs_list _ (fun a48 h48 => ?_)
  have z48 := sp h48 z47
  replace f2 := kp h48 (by decide) f2
  replace f3 := kp h48 (by decide) f3
  have f56 := nw h48 z47 (by decide)
  clear f55 z47
  replace h48 := Lib.hid h48
  refine list_if (u := .pointer (some ⟨cb, 7, none⟩)) (b := false) (c := true) (c' := true) (dk := 56) rfl (by kernel_rfl) (f56.trans (cv_true _).symm) rfl (by rfl) (fun h => run_field (s := .pointer (some ⟨cb, 0, none⟩)) rfl f2 (by kernel_rfl)) ?_
  refine abs_list _ (fun a49 h49 => ?_)
  have z49 := sp h49 z48
  replace f2 := kp h49 (by decide) f2
  replace f3 := kp h49 (by decide) f3
  replace f56 := kp h49 (by decide) f56
  have f57 := nw h49 z48 (by decide)
  clear z48
  replace h49 := Lib.hid h49
  refine list_if (u := .int .u32 X.tg) (b := false) (c := true) (c' := true) (dk := 56) rfl (by kernel_rfl) (f56.trans (cv_true _).symm) rfl (by rfl) (fun h => run_load1 (s := .pointer (some ⟨cb, 7, none⟩)) rfl f57 (by have c : w0.cell? ⟨cb, 7, none⟩ = some (.int .u32 X.tg) := X0.cell 7; go_simp)) ?_
  refine abs_list _ (fun a50 h50 => ?_)
  have z50 := sp h50 z49
  replace f2 := kp h50 (by decide) f2
  replace f3 := kp h50 (by decide) f3
  replace f56 := kp h50 (by decide) f56
  have f58 := nw h50 z49 (by decide)
  clear f57 z49
  replace h50 := Lib.hid h50
  refine list_if (u := .pointer (some ⟨db, 7, none⟩)) (b := false) (c := true) (c' := true) (dk := 56) rfl (by kernel_rfl) (f56.trans (cv_true _).symm) rfl (by rfl) (fun h => run_field (s := .pointer (some ⟨db, 0, none⟩)) rfl f3 (by kernel_rfl)) ?_
  refine abs_list _ (fun a51 h51 => ?_)
  have z51 := sp h51 z50
  replace f2 := kp h51 (by decide) f2
  replace f3 := kp h51 (by decide) f3
  replace f56 := kp h51 (by decide) f56
  replace f58 := kp h51 (by decide) f58
  have f59 := nw h51 z50 (by decide)
  clear z50
  replace h51 := Lib.hid h51
  refine list_if (u := .int .u32 X.tg) (b := false) (c := true) (c' := true) (dk := 56) rfl (by kernel_rfl) (f56.trans (cv_true _).symm) rfl (by rfl) (fun h => run_load1 (s := .pointer (some ⟨db, 7, none⟩)) rfl f59 (by have c : w0.cell? ⟨db, 7, none⟩ = some (.int .u32 X.tg) := Y0.cell 7; go_simp)) ?_
  refine abs_list _ (fun a52 h52 => ?_)
  have z52 := sp h52 z51
  replace f2 := kp h52 (by decide) f2
  replace f3 := kp h52 (by decide) f3
  replace f56 := kp h52 (by decide) f56
  replace f58 := kp h52 (by decide) f58
  have f60 := nw h52 z51 (by decide)
  clear f59 z51
  replace h52 := Lib.hid h52
  refine list_if (u := .bool false) (b := false) (c := true) (c' := true) (dk := 56) rfl (by kernel_rfl) (f56.trans (cv_true _).symm) rfl (by rfl) (fun h => run_cmp_int (k := .u32) (p := X.tg) (q := X.tg) rfl (.inl rfl) f58 f60 ((neq_i22 _ _ _).trans (by simp))) ?_
  refine abs_list _ (fun a53 h53 => ?_)
  have z53 := sp h53 z52
  replace f2 := kp h53 (by decide) f2
  replace f3 := kp h53 (by decide) f3
  replace f56 := kp h53 (by decide) f56
  have f61 := nw h53 z52 (by decide)
  clear f58 f60 z52
  replace h53 := Lib.hid h53
  refine list_val (u := .bool false) rfl rfl (run_pick (b := false) rfl f56 (by rw [f61]; rfl)) ?_
  refine abs_list _ (fun a54 h54 => ?_)
  have z54 := sp h54 z53
  replace f2 := kp h54 (by decide) f2
  replace f3 := kp h54 (by decide) f3
  have f62 := nw h54 z53 (by decide)
  clear f56 f61 z53
  replace h54 := Lib.hid h54
  refine list_val (u := .bool false) rfl rfl (run_move rfl f62 _) ?_
  refine abs_list _ (fun a55 h55 => ?_)
  have z55 := sp h55 z54
  replace f2 := kp h55 (by decide) f2
  replace f3 := kp h55 (by decide) f3
  have f63 := nw h55 z54 (by decide)
  clear f62 z54
  replace h55 := Lib.hid h55
  refine list_if (u := .pointer (some ⟨cb, 8, none⟩)) (b := false) (c := true) (c' := true) (dk := 63) rfl (by kernel_rfl) (f63.trans (cv_true _).symm) rfl (by rfl) (fun h => run_field (s := .pointer (some ⟨cb, 0, none⟩)) rfl f2 (by kernel_rfl)) ?_
  refine abs_list _ (fun a56 h56 => ?_)
  have z56 := sp h56 z55
  replace f2 := kp h56 (by decide) f2
  replace f3 := kp h56 (by decide) f3
  replace f63 := kp h56 (by decide) f63
  have f64 := nw h56 z55 (by decide)
  clear z55
  replace h56 := Lib.hid h56
  refine list_if (u := .int .u32 X.rw) (b := false) (c := true) (c' := true) (dk := 63) rfl (by kernel_rfl) (f63.trans (cv_true _).symm) rfl (by rfl) (fun h => run_load1 (s := .pointer (some ⟨cb, 8, none⟩)) rfl f64 (by have c : w0.cell? ⟨cb, 8, none⟩ = some (.int .u32 X.rw) := X0.cell 8; go_simp)) ?_
  refine abs_list _ (fun a57 h57 => ?_)
  have z57 := sp h57 z56
  replace f2 := kp h57 (by decide) f2
  replace f3 := kp h57 (by decide) f3
  replace f63 := kp h57 (by decide) f63
  have f65 := nw h57 z56 (by decide)
  clear f64 z56
  replace h57 := Lib.hid h57
  refine list_if (u := .pointer (some ⟨db, 8, none⟩)) (b := false) (c := true) (c' := true) (dk := 63) rfl (by kernel_rfl) (f63.trans (cv_true _).symm) rfl (by rfl) (fun h => run_field (s := .pointer (some ⟨db, 0, none⟩)) rfl f3 (by kernel_rfl)) ?_
  refine abs_list _ (fun a58 h58 => ?_)
  have z58 := sp h58 z57
  replace f2 := kp h58 (by decide) f2
  replace f3 := kp h58 (by decide) f3
  replace f63 := kp h58 (by decide) f63
  replace f65 := kp h58 (by decide) f65
  have f66 := nw h58 z57 (by decide)
  clear z57
  replace h58 := Lib.hid h58
  refine list_if (u := .int .u32 X.rw) (b := false) (c := true) (c' := true) (dk := 63) rfl (by kernel_rfl) (f63.trans (cv_true _).symm) rfl (by rfl) (fun h => run_load1 (s := .pointer (some ⟨db, 8, none⟩)) rfl f66 (by have c : w0.cell? ⟨db, 8, none⟩ = some (.int .u32 X.rw) := Y0.cell 8; go_simp)) ?_
  refine abs_list _ (fun a59 h59 => ?_)
  have z59 := sp h59 z58
  replace f2 := kp h59 (by decide) f2
  replace f3 := kp h59 (by decide) f3
  replace f63 := kp h59 (by decide) f63
  replace f65 := kp h59 (by decide) f65
  have f67 := nw h59 z58 (by decide)
  clear f66 z58
  replace h59 := Lib.hid h59
  refine list_if (u := .bool false) (b := false) (c := true) (c' := true) (dk := 63) rfl (by kernel_rfl) (f63.trans (cv_true _).symm) rfl (by rfl) (fun h => run_cmp_int (k := .u32) (p := X.rw) (q := X.rw) rfl (.inl rfl) f65 f67 ((neq_i22 _ _ _).trans (by simp))) ?_
  refine abs_list _ (fun a60 h60 => ?_)
  have z60 := sp h60 z59
  replace f2 := kp h60 (by decide) f2
  replace f3 := kp h60 (by decide) f3
  replace f63 := kp h60 (by decide) f63
  have f68 := nw h60 z59 (by decide)
  clear f65 f67 z59
  replace h60 := Lib.hid h60
  refine list_val (u := .bool false) rfl rfl (run_pick (b := false) rfl f63 (by rw [f68]; rfl)) ?_
  refine abs_list _ (fun a61 h61 => ?_)
  have z61 := sp h61 z60
  replace f2 := kp h61 (by decide) f2
  replace f3 := kp h61 (by decide) f3
  have f69 := nw h61 z60 (by decide)
  clear f63 f68 z60
  replace h61 := Lib.hid h61
  refine list_val (u := .bool false) rfl rfl (run_move rfl f69 _) ?_
  refine abs_list _ (fun a62 h62 => ?_)
  have z62 := sp h62 z61
  replace f2 := kp h62 (by decide) f2
  replace f3 := kp h62 (by decide) f3
  have f70 := nw h62 z61 (by decide)
  clear f69 z61
  replace h62 := Lib.hid h62
  refine list_if (u := .pointer (some ⟨cb, 9, none⟩)) (b := false) (c := true) (c' := true) (dk := 70) rfl (by kernel_rfl) (f70.trans (cv_true _).symm) rfl (by rfl) (fun h => run_field (s := .pointer (some ⟨cb, 0, none⟩)) rfl f2 (by kernel_rfl)) ?_
  refine abs_list _ (fun a63 h63 => ?_)
  have z63 := sp h63 z62
  replace f2 := kp h63 (by decide) f2
  replace f3 := kp h63 (by decide) f3
  replace f70 := kp h63 (by decide) f70
  have f71 := nw h63 z62 (by decide)
  clear z62
  replace h63 := Lib.hid h63
  refine list_if (u := .int .i64 X.ou) (b := false) (c := true) (c' := true) (dk := 70) rfl (by kernel_rfl) (f70.trans (cv_true _).symm) rfl (by rfl) (fun h => run_load1 (s := .pointer (some ⟨cb, 9, none⟩)) rfl f71 (by have c : w0.cell? ⟨cb, 9, none⟩ = some (.int .i64 X.ou) := X0.cell 9; go_simp)) ?_
  refine abs_list _ (fun a64 h64 => ?_)
  have z64 := sp h64 z63
  replace f2 := kp h64 (by decide) f2
  replace f3 := kp h64 (by decide) f3
  replace f70 := kp h64 (by decide) f70
  have f72 := nw h64 z63 (by decide)
  clear f71 z63
  replace h64 := Lib.hid h64
  refine list_if (u := .pointer (some ⟨db, 9, none⟩)) (b := false) (c := true) (c' := true) (dk := 70) rfl (by kernel_rfl) (f70.trans (cv_true _).symm) rfl (by rfl) (fun h => run_field (s := .pointer (some ⟨db, 0, none⟩)) rfl f3 (by kernel_rfl)) ?_
  refine abs_list _ (fun a65 h65 => ?_)
  have z65 := sp h65 z64
  replace f2 := kp h65 (by decide) f2
  replace f3 := kp h65 (by decide) f3
  replace f70 := kp h65 (by decide) f70
  replace f72 := kp h65 (by decide) f72
  have f73 := nw h65 z64 (by decide)
  clear z64
  replace h65 := Lib.hid h65
  refine list_if (u := .int .i64 X.ou) (b := false) (c := true) (c' := true) (dk := 70) rfl (by kernel_rfl) (f70.trans (cv_true _).symm) rfl (by rfl) (fun h => run_load1 (s := .pointer (some ⟨db, 9, none⟩)) rfl f73 (by have c : w0.cell? ⟨db, 9, none⟩ = some (.int .i64 X.ou) := Y0.cell 9; go_simp)) ?_
  refine abs_list _ (fun a66 h66 => ?_)
  have z66 := sp h66 z65
  replace f2 := kp h66 (by decide) f2
  replace f3 := kp h66 (by decide) f3
  replace f70 := kp h66 (by decide) f70
  replace f72 := kp h66 (by decide) f72
  have f74 := nw h66 z65 (by decide)
  clear f73 z65
  replace h66 := Lib.hid h66
  refine list_if (u := .bool false) (b := false) (c := true) (c' := true) (dk := 70) rfl (by kernel_rfl) (f70.trans (cv_true _).symm) rfl (by rfl) (fun h => run_cmp_int (k := .i64) (p := X.ou) (q := X.ou) rfl (.inl rfl) f72 f74 ((neq_i3 _ _ _).trans (by simp))) ?_
  refine abs_list _ (fun a67 h67 => ?_)
  have z67 := sp h67 z66
  replace f2 := kp h67 (by decide) f2
  replace f3 := kp h67 (by decide) f3
  replace f70 := kp h67 (by decide) f70
  have f75 := nw h67 z66 (by decide)
  clear f72 f74 z66
  replace h67 := Lib.hid h67
  refine list_val (u := .bool false) rfl rfl (run_pick (b := false) rfl f70 (by rw [f75]; rfl)) ?_
  refine abs_list _ (fun a68 h68 => ?_)
  have z68 := sp h68 z67
  replace f2 := kp h68 (by decide) f2
  replace f3 := kp h68 (by decide) f3
  have f76 := nw h68 z67 (by decide)
  clear f70 f75 z67
  replace h68 := Lib.hid h68
  refine list_val (u := .bool false) rfl rfl (run_move rfl f76 _) ?_
  refine abs_list _ (fun a69 h69 => ?_)
  have z69 := sp h69 z68
  replace f2 := kp h69 (by decide) f2
  replace f3 := kp h69 (by decide) f3
  have f77 := nw h69 z68 (by decide)
  clear f76 z68
  replace h69 := Lib.hid h69
  refine list_if (u := .pointer (some ⟨cb, 10, none⟩)) (b := false) (c := true) (c' := true) (dk := 77) rfl (by kernel_rfl) (f77.trans (cv_true _).symm) rfl (by rfl) (fun h => run_field (s := .pointer (some ⟨cb, 0, none⟩)) rfl f2 (by kernel_rfl)) ?_
  refine abs_list _ (fun a70 h70 => ?_)
  have z70 := sp h70 z69
  replace f2 := kp h70 (by decide) f2
  replace f3 := kp h70 (by decide) f3
  replace f77 := kp h70 (by decide) f77
  have f78 := nw h70 z69 (by decide)
  clear z69
  replace h70 := Lib.hid h70
  refine list_if (u := .int .i64 X.ii) (b := false) (c := true) (c' := true) (dk := 77) rfl (by kernel_rfl) (f77.trans (cv_true _).symm) rfl (by rfl) (fun h => run_load1 (s := .pointer (some ⟨cb, 10, none⟩)) rfl f78 (by have c : w0.cell? ⟨cb, 10, none⟩ = some (.int .i64 X.ii) := X0.cell 10; go_simp)) ?_
  refine abs_list _ (fun a71 h71 => ?_)
  have z71 := sp h71 z70
  replace f2 := kp h71 (by decide) f2
  replace f3 := kp h71 (by decide) f3
  replace f77 := kp h71 (by decide) f77
  have f79 := nw h71 z70 (by decide)
  clear f78 z70
  replace h71 := Lib.hid h71
  refine list_if (u := .pointer (some ⟨db, 10, none⟩)) (b := false) (c := true) (c' := true) (dk := 77) rfl (by kernel_rfl) (f77.trans (cv_true _).symm) rfl (by rfl) (fun h => run_field (s := .pointer (some ⟨db, 0, none⟩)) rfl f3 (by kernel_rfl)) ?_
  refine abs_list _ (fun a72 h72 => ?_)
  have z72 := sp h72 z71
  replace f2 := kp h72 (by decide) f2
  replace f3 := kp h72 (by decide) f3
  replace f77 := kp h72 (by decide) f77
  replace f79 := kp h72 (by decide) f79
  have f80 := nw h72 z71 (by decide)
  clear z71
  replace h72 := Lib.hid h72
  refine list_if (u := .int .i64 X.ii) (b := false) (c := true) (c' := true) (dk := 77) rfl (by kernel_rfl) (f77.trans (cv_true _).symm) rfl (by rfl) (fun h => run_load1 (s := .pointer (some ⟨db, 10, none⟩)) rfl f80 (by have c : w0.cell? ⟨db, 10, none⟩ = some (.int .i64 X.ii) := Y0.cell 10; go_simp)) ?_
  refine abs_list _ (fun a73 h73 => ?_)
  have z73 := sp h73 z72
  replace f2 := kp h73 (by decide) f2
  replace f3 := kp h73 (by decide) f3
  replace f77 := kp h73 (by decide) f77
  replace f79 := kp h73 (by decide) f79
  have f81 := nw h73 z72 (by decide)
  clear f80 z72
  replace h73 := Lib.hid h73
  refine list_if (u := .bool false) (b := false) (c := true) (c' := true) (dk := 77) rfl (by kernel_rfl) (f77.trans (cv_true _).symm) rfl (by rfl) (fun h => run_cmp_int (k := .i64) (p := X.ii) (q := X.ii) rfl (.inl rfl) f79 f81 ((neq_i3 _ _ _).trans (by simp))) ?_
  refine abs_list _ (fun a74 h74 => ?_)
  have z74 := sp h74 z73
  replace f2 := kp h74 (by decide) f2
  replace f3 := kp h74 (by decide) f3
  replace f77 := kp h74 (by decide) f77
  have f82 := nw h74 z73 (by decide)
  clear f79 f81 z73
  replace h74 := Lib.hid h74
  refine list_val (u := .bool false) rfl rfl (run_pick (b := false) rfl f77 (by rw [f82]; rfl)) ?_
  refine abs_list _ (fun a75 h75 => ?_)
  have z75 := sp h75 z74
  replace f2 := kp h75 (by decide) f2
  replace f3 := kp h75 (by decide) f3
  have f83 := nw h75 z74 (by decide)
  clear f77 f82 z74
  replace h75 := Lib.hid h75
  refine list_val (u := .bool false) rfl rfl (run_move rfl f83 _) ?_
  refine abs_list _ (fun a76 h76 => ?_)
  have z76 := sp h76 z75
  replace f2 := kp h76 (by decide) f2
  replace f3 := kp h76 (by decide) f3
  have f84 := nw h76 z75 (by decide)
  clear f83 z75
  replace h76 := Lib.hid h76
  refine list_if (u := .pointer (some ⟨cb, 11, none⟩)) (b := false) (c := true) (c' := true) (dk := 84) rfl (by kernel_rfl) (f84.trans (cv_true _).symm) rfl (by rfl) (fun h => run_field (s := .pointer (some ⟨cb, 0, none⟩)) rfl f2 (by kernel_rfl)) ?_
  refine abs_list _ (fun a77 h77 => ?_)
  have z77 := sp h77 z76
  replace f2 := kp h77 (by decide) f2
  replace f3 := kp h77 (by decide) f3
  replace f84 := kp h77 (by decide) f84
  have f85 := nw h77 z76 (by decide)
  clear z76
  replace h77 := Lib.hid h77
  refine list_if (u := .slice oP X.P.length cP) (b := false) (c := true) (c' := true) (dk := 84) rfl (by kernel_rfl) (f84.trans (cv_true _).symm) rfl (by rfl) (fun h => run_load1 (s := .pointer (some ⟨cb, 11, none⟩)) rfl f85 (by have c : w0.cell? ⟨cb, 11, none⟩ = some (.slice oP X.P.length cP) := X0.cell 11; go_simp)) ?_
  refine abs_list _ (fun a78 h78 => ?_)
  have z78 := sp h78 z77
  replace f2 := kp h78 (by decide) f2
  replace f3 := kp h78 (by decide) f3
  replace f84 := kp h78 (by decide) f84
  have f86 := nw h78 z77 (by decide)
  clear f85 z77
  replace h78 := Lib.hid h78
  refine list_if (u := .int .i64 (X.P.length : Nat)) (b := false) (c := true) (c' := true) (dk := 84) rfl (by kernel_rfl) (f84.trans (cv_true _).symm) rfl (by rfl) (fun h => run_lens (s := .slice oP X.P.length cP) rfl f86 (fun cs => len_sl23 _ _ _ _ cs)) ?_
  refine abs_list _ (fun a79 h79 => ?_)
  have z79 := sp h79 z78
  replace f2 := kp h79 (by decide) f2
  replace f3 := kp h79 (by decide) f3
  replace f84 := kp h79 (by decide) f84
  have f87 := nw h79 z78 (by decide)
  clear f86 z78
  replace h79 := Lib.hid h79
  refine list_if (u := .pointer (some ⟨db, 11, none⟩)) (b := false) (c := true) (c' := true) (dk := 84) rfl (by kernel_rfl) (f84.trans (cv_true _).symm) rfl (by rfl) (fun h => run_field (s := .pointer (some ⟨db, 0, none⟩)) rfl f3 (by kernel_rfl)) ?_
  refine abs_list _ (fun a80 h80 => ?_)
  have z80 := sp h80 z79
  replace f2 := kp h80 (by decide) f2
  replace f3 := kp h80 (by decide) f3
  replace f84 := kp h80 (by decide) f84
  replace f87 := kp h80 (by decide) f87
  have f88 := nw h80 z79 (by decide)
  clear z79
  replace h80 := Lib.hid h80
  refine list_if (u := .slice uP X.P.length eP) (b := false) (c := true) (c' := true) (dk := 84) rfl (by kernel_rfl) (f84.trans (cv_true _).symm) rfl (by rfl) (fun h => run_load1 (s := .pointer (some ⟨db, 11, none⟩)) rfl f88 (by have c : w0.cell? ⟨db, 11, none⟩ = some (.slice uP X.P.length eP) := Y0.cell 11; go_simp)) ?_
  refine abs_list _ (fun a81 h81 => ?_)
  have z81 := sp h81 z80
  replace f2 := kp h81 (by decide) f2
  replace f3 := kp h81 (by decide) f3
  replace f84 := kp h81 (by decide) f84
  replace f87 := kp h81 (by decide) f87
  have f89 := nw h81 z80 (by decide)
  clear f88 z80
  replace h81 := Lib.hid h81
  refine list_if (u := .int .i64 (X.P.length : Nat)) (b := false) (c := true) (c' := true) (dk := 84) rfl (by kernel_rfl) (f84.trans (cv_true _).symm) rfl (by rfl) (fun h => run_lens (s := .slice uP X.P.length eP) rfl f89 (fun cs => len_sl23 _ _ _ _ cs)) ?_
  refine abs_list _ (fun a82 h82 => ?_)
  have z82 := sp h82 z81
  replace f2 := kp h82 (by decide) f2
  replace f3 := kp h82 (by decide) f3
  replace f84 := kp h82 (by decide) f84
  replace f87 := kp h82 (by decide) f87
  have f90 := nw h82 z81 (by decide)
  clear f89 z81
  replace h82 := Lib.hid h82
  refine list_if (u := .bool false) (b := false) (c := true) (c' := true) (dk := 84) rfl (by kernel_rfl) (f84.trans (cv_true _).symm) rfl (by rfl) (fun h => run_cmp_int (k := .i64) (p := (X.P.length : Nat)) (q := (X.P.length : Nat)) rfl (.inl rfl) f87 f90 ((neq_i3 _ _ _).trans (by simp))) ?_
  refine abs_list _ (fun a83 h83 => ?_)
  have z83 := sp h83 z82
  replace f2 := kp h83 (by decide) f2
  replace f3 := kp h83 (by decide) f3
  replace f84 := kp h83 (by decide) f84
  have f91 := nw h83 z82 (by decide)
  clear f87 f90 z82
  replace h83 := Lib.hid h83
  refine list_val (u := .bool false) rfl rfl (run_pick (b := false) rfl f84 (by rw [f91]; rfl)) ?_
  refine abs_list _ (fun a84 h84 => ?_)
  have z84 := sp h84 z83
  replace f2 := kp h84 (by decide) f2
  replace f3 := kp h84 (by decide) f3
  have f92 := nw h84 z83 (by decide)
  clear f84 f91 z83
  replace h84 := Lib.hid h84
  refine list_val (u := .bool false) rfl rfl (run_move rfl f92 _) ?_
  refine abs_list _ (fun a85 h85 => ?_)
  have z85 := sp h85 z84
  replace f2 := kp h85 (by decide) f2
  replace f3 := kp h85 (by decide) f3
  have f93 := nw h85 z84 (by decide)
  clear f92 z84
  replace h85 := Lib.hid h85
  refine list_if (u := .pointer (some ⟨cb, 12, none⟩)) (b := false) (c := true) (c' := true) (dk := 93) rfl (by kernel_rfl) (f93.trans (cv_true _).symm) rfl (by rfl) (fun h => run_field (s := .pointer (some ⟨cb, 0, none⟩)) rfl f2 (by kernel_rfl)) ?_
  refine abs_list _ (fun a86 h86 => ?_)
  have z86 := sp h86 z85
  replace f2 := kp h86 (by decide) f2
  replace f3 := kp h86 (by decide) f3
  replace f93 := kp h86 (by decide) f93
  have f94 := nw h86 z85 (by decide)
  clear z85
  replace h86 := Lib.hid h86
  refine list_if (u := .slice oK X.K.length cK) (b := false) (c := true) (c' := true) (dk := 93) rfl (by kernel_rfl) (f93.trans (cv_true _).symm) rfl (by rfl) (fun h => run_load1 (s := .pointer (some ⟨cb, 12, none⟩)) rfl f94 (by have c : w0.cell? ⟨cb, 12, none⟩ = some (.slice oK X.K.length cK) := X0.cell 12; go_simp)) ?_
  refine abs_list _ (fun a87 h87 => ?_)
  have z87 := sp h87 z86
  replace f2 := kp h87 (by decide) f2
  replace f3 := kp h87 (by decide) f3
  replace f93 := kp h87 (by decide) f93
  have f95 := nw h87 z86 (by decide)
  clear f94 z86
  replace h87 := Lib.hid h87
  refine list_if (u := .int .i64 (X.K.length : Nat)) (b := false) (c := true) (c' := true) (dk := 93) rfl (by kernel_rfl) (f93.trans (cv_true _).symm) rfl (by rfl) (fun h => run_lens (s := .slice oK X.K.length cK) rfl f95 (fun cs => len_sl24 _ _ _ _ cs)) ?_
  refine abs_list _ (fun a88 h88 => ?_)
  have z88 := sp h88 z87
  replace f2 := kp h88 (by decide) f2
  replace f3 := kp h88 (by decide) f3
  replace f93 := kp h88 (by decide) f93
  have f96 := nw h88 z87 (by decide)
  clear f95 z87
  replace h88 := Lib.hid h88
  refine list_if (u := .pointer (some ⟨db, 12, none⟩)) (b := false) (c := true) (c' := true) (dk := 93) rfl (by kernel_rfl) (f93.trans (cv_true _).symm) rfl (by rfl) (fun h => run_field (s := .pointer (some ⟨db, 0, none⟩)) rfl f3 (by kernel_rfl)) ?_
  refine abs_list _ (fun a89 h89 => ?_)
  have z89 := sp h89 z88
  replace f2 := kp h89 (by decide) f2
  replace f3 := kp h89 (by decide) f3
  replace f93 := kp h89 (by decide) f93
  replace f96 := kp h89 (by decide) f96
  have f97 := nw h89 z88 (by decide)
  clear z88
  replace h89 := Lib.hid h89
  refine list_if (u := .slice uK X.K.length eK) (b := false) (c := true) (c' := true) (dk := 93) rfl (by kernel_rfl) (f93.trans (cv_true _).symm) rfl (by rfl) (fun h => run_load1 (s := .pointer (some ⟨db, 12, none⟩)) rfl f97 (by have c : w0.cell? ⟨db, 12, none⟩ = some (.slice uK X.K.length eK) := Y0.cell 12; go_simp)) ?_
  refine abs_list _ (fun a90 h90 => ?_)
  have z90 := sp h90 z89
  replace f2 := kp h90 (by decide) f2
  replace f3 := kp h90 (by decide) f3
  replace f93 := kp h90 (by decide) f93
  replace f96 := kp h90 (by decide) f96
  have f98 := nw h90 z89 (by decide)
  clear f97 z89
  replace h90 := Lib.hid h90
  refine list_if (u := .int .i64 (X.K.length : Nat)) (b := false) (c := true) (c' := true) (dk := 93) rfl (by kernel_rfl) (f93.trans (cv_true _).symm) rfl (by rfl) (fun h => run_lens (s := .slice uK X.K.length eK) rfl f98 (fun cs => len_sl24 _ _ _ _ cs)) ?_
  refine abs_list _ (fun a91 h91 => ?_)
  have z91 := sp h91 z90
  replace f2 := kp h91 (by decide) f2
  replace f3 := kp h91 (by decide) f3
  replace f93 := kp h91 (by decide) f93
  replace f96 := kp h91 (by decide) f96
  have f99 := nw h91 z90 (by decide)
  clear f98 z90
  replace h91 := Lib.hid h91
  refine list_if (u := .bool false) (b := false) (c := true) (c' := true) (dk := 93) rfl (by kernel_rfl) (f93.trans (cv_true _).symm) rfl (by rfl) (fun h => run_cmp_int (k := .i64) (p := (X.K.length : Nat)) (q := (X.K.length : Nat)) rfl (.inl rfl) f96 f99 ((neq_i3 _ _ _).trans (by simp))) ?_
  refine abs_list _ (fun a92 h92 => ?_)
  have z92 := sp h92 z91
  replace f2 := kp h92 (by decide) f2
  replace f3 := kp h92 (by decide) f3
  replace f93 := kp h92 (by decide) f93
  have f100 := nw h92 z91 (by decide)
  clear f96 f99 z91
  replace h92 := Lib.hid h92
  refine list_val (u := .bool false) rfl rfl (run_pick (b := false) rfl f93 (by rw [f100]; rfl)) ?_
  refine abs_list _ (fun a93 h93 => ?_)
  have z93 := sp h93 z92
  replace f2 := kp h93 (by decide) f2
  replace f3 := kp h93 (by decide) f3
  have f101 := nw h93 z92 (by decide)
  clear f93 f100 z92
  replace h93 := Lib.hid h93
  refine list_val (u := .bool false) rfl rfl (run_move rfl f101 _) ?_
  refine abs_list _ (fun a94 h94 => ?_)
  have z94 := sp h94 z93
  replace f2 := kp h94 (by decide) f2
  replace f3 := kp h94 (by decide) f3
  have f102 := nw h94 z93 (by decide)
  clear f101 z93
  replace h94 := Lib.hid h94
  refine list_if (u := .pointer (some ⟨cb, 13, none⟩)) (b := false) (c := true) (c' := true) (dk := 102) rfl (by kernel_rfl) (f102.trans (cv_true _).symm) rfl (by rfl) (fun h => run_field (s := .pointer (some ⟨cb, 0, none⟩)) rfl f2 (by kernel_rfl)) ?_
  refine abs_list _ (fun a95 h95 => ?_)
  have z95 := sp h95 z94
  replace f2 := kp h95 (by decide) f2
  replace f3 := kp h95 (by decide) f3
  replace f102 := kp h95 (by decide) f102
  have f103 := nw h95 z94 (by decide)
  clear z94
  replace h95 := Lib.hid h95
  refine list_if (u := .slice oG X.G.length cG) (b := false) (c := true) (c' := true) (dk := 102) rfl (by kernel_rfl) (f102.trans (cv_true _).symm) rfl (by rfl) (fun h => run_load1 (s := .pointer (some ⟨cb, 13, none⟩)) rfl f103 (by have c : w0.cell? ⟨cb, 13, none⟩ = some (.slice oG X.G.length cG) := X0.cell 13; go_simp)) ?_
  refine abs_list _ (fun a96 h96 => ?_)
  have z96 := sp h96 z95
  replace f2 := kp h96 (by decide) f2
  replace f3 := kp h96 (by decide) f3
  replace f102 := kp h96 (by decide) f102
  have f104 := nw h96 z95 (by decide)
  clear f103 z95
  replace h96 := Lib.hid h96
  refine list_if (u := .int .i64 (X.G.length : Nat)) (b := false) (c := true) (c' := true) (dk := 102) rfl (by kernel_rfl) (f102.trans (cv_true _).symm) rfl (by rfl) (fun h => run_lens (s := .slice oG X.G.length cG) rfl f104 (fun cs => len_sl25 _ _ _ _ cs)) ?_
  refine abs_list _ (fun a97 h97 => ?_)
  have z97 := sp h97 z96
  replace f2 := kp h97 (by decide) f2
  replace f3 := kp h97 (by decide) f3
  replace f102 := kp h97 (by decide) f102
  have f105 := nw h97 z96 (by decide)
  clear f104 z96
  replace h97 := Lib.hid h97
  refine list_if (u := .pointer (some ⟨db, 13, none⟩)) (b := false) (c := true) (c' := true) (dk := 102) rfl (by kernel_rfl) (f102.trans (cv_true _).symm) rfl (by rfl) (fun h => run_field (s := .pointer (some ⟨db, 0, none⟩)) rfl f3 (by kernel_rfl)) ?_
  refine abs_list _ (fun a98 h98 => ?_)
  have z98 := sp h98 z97
  replace f2 := kp h98 (by decide) f2
  replace f3 := kp h98 (by decide) f3
  replace f102 := kp h98 (by decide) f102
  replace f105 := kp h98 (by decide) f105
  have f106 := nw h98 z97 (by decide)
  clear z97
  replace h98 := Lib.hid h98
  refine list_if (u := .slice uG X.G.length eG) (b := false) (c := true) (c' := true) (dk := 102) rfl (by kernel_rfl) (f102.trans (cv_true _).symm) rfl (by rfl) (fun h => run_load1 (s := .pointer (some ⟨db, 13, none⟩)) rfl f106 (by have c : w0.cell? ⟨db, 13, none⟩ = some (.slice uG X.G.length eG) := Y0.cell 13; go_simp)) ?_
  refine abs_list _ (fun a99 h99 => ?_)
  have z99 := sp h99 z98
  replace f2 := kp h99 (by decide) f2
  replace f3 := kp h99 (by decide) f3
  replace f102 := kp h99 (by decide) f102
  replace f105 := kp h99 (by decide) f105
  have f107 := nw h99 z98 (by decide)
  clear f106 z98
  replace h99 := Lib.hid h99
  refine list_if (u := .int .i64 (X.G.length : Nat)) (b := false) (c := true) (c' := true) (dk := 102) rfl (by kernel_rfl) (f102.trans (cv_true _).symm) rfl (by rfl) (fun h => run_lens (s := .slice uG X.G.length eG) rfl f107 (fun cs => len_sl25 _ _ _ _ cs)) ?_
  refine abs_list _ (fun a100 h100 => ?_)
  have z100 := sp h100 z99
  replace f2 := kp h100 (by decide) f2
  replace f3 := kp h100 (by decide) f3
  replace f102 := kp h100 (by decide) f102
  replace f105 := kp h100 (by decide) f105
  have f108 := nw h100 z99 (by decide)
  clear f107 z99
  replace h100 := Lib.hid h100
  refine list_if (u := .bool false) (b := false) (c := true) (c' := true) (dk := 102) rfl (by kernel_rfl) (f102.trans (cv_true _).symm) rfl (by rfl) (fun h => run_cmp_int (k := .i64) (p := (X.G.length : Nat)) (q := (X.G.length : Nat)) rfl (.inl rfl) f105 f108 ((neq_i3 _ _ _).trans (by simp))) ?_
  refine abs_list _ (fun a101 h101 => ?_)
  have z101 := sp h101 z100
  replace f2 := kp h101 (by decide) f2
  replace f3 := kp h101 (by decide) f3
  replace f102 := kp h101 (by decide) f102
  have f109 := nw h101 z100 (by decide)
  clear f105 f108 z100
  replace h101 := Lib.hid h101
  refine list_val (u := .bool false) rfl rfl (run_pick (b := false) rfl f102 (by rw [f109]; rfl)) ?_
  refine abs_list _ (fun a102 h102 => ?_)
  have z102 := sp h102 z101
  replace f2 := kp h102 (by decide) f2
  replace f3 := kp h102 (by decide) f3
  have f110 := nw h102 z101 (by decide)
  clear f102 f109 z101
  replace h102 := Lib.hid h102
  refine list_val (u := .bool false) rfl rfl (run_move rfl f110 _) ?_
  refine abs_list _ (fun a103 h103 => ?_)
  have z103 := sp h103 z102
  replace f2 := kp h103 (by decide) f2
  replace f3 := kp h103 (by decide) f3
  have f111 := nw h103 z102 (by decide)
  clear f110 z102
  replace h103 := Lib.hid h103
  refine list_if (u := .pointer (some ⟨cb, 14, none⟩)) (b := false) (c := true) (c' := true) (dk := 111) rfl (by kernel_rfl) (f111.trans (cv_true _).symm) rfl (by rfl) (fun h => run_field (s := .pointer (some ⟨cb, 0, none⟩)) rfl f2 (by kernel_rfl)) ?_
  refine abs_list _ (fun a104 h104 => ?_)
  have z104 := sp h104 z103
  replace f2 := kp h104 (by decide) f2
  replace f3 := kp h104 (by decide) f3
  replace f111 := kp h104 (by decide) f111
  have f112 := nw h104 z103 (by decide)
  clear z103
  replace h104 := Lib.hid h104
  refine list_if (u := .slice oD X.D.length cD) (b := false) (c := true) (c' := true) (dk := 111) rfl (by kernel_rfl) (f111.trans (cv_true _).symm) rfl (by rfl) (fun h => run_load1 (s := .pointer (some ⟨cb, 14, none⟩)) rfl f112 (by have c : w0.cell? ⟨cb, 14, none⟩ = some (.slice oD X.D.length cD) := X0.cell 14; go_simp)) ?_
  refine abs_list _ (fun a105 h105 => ?_)
  have z105 := sp h105 z104
  replace f2 := kp h105 (by decide) f2
  replace f3 := kp h105 (by decide) f3
  replace f111 := kp h105 (by decide) f111
  have f113 := nw h105 z104 (by decide)
  clear f112 z104
  replace h105 := Lib.hid h105
  refine list_if (u := .int .i64 (X.D.length : Nat)) (b := false) (c := true) (c' := true) (dk := 111) rfl (by kernel_rfl) (f111.trans (cv_true _).symm) rfl (by rfl) (fun h => run_lens (s := .slice oD X.D.length cD) rfl f113 (fun cs => len_sl26 _ _ _ _ cs)) ?_
  refine abs_list _ (fun a106 h106 => ?_)
  have z106 := sp h106 z105
  replace f2 := kp h106 (by decide) f2
  replace f3 := kp h106 (by decide) f3
  replace f111 := kp h106 (by decide) f111
  have f114 := nw h106 z105 (by decide)
  clear f113 z105
  replace h106 := Lib.hid h106
  refine list_if (u := .pointer (some ⟨db, 14, none⟩)) (b := false) (c := true) (c' := true) (dk := 111) rfl (by kernel_rfl) (f111.trans (cv_true _).symm) rfl (by rfl) (fun h => run_field (s := .pointer (some ⟨db, 0, none⟩)) rfl f3 (by kernel_rfl)) ?_
  refine abs_list _ (fun a107 h107 => ?_)
  have z107 := sp h107 z106
  replace f2 := kp h107 (by decide) f2
  replace f3 := kp h107 (by decide) f3
  replace f111 := kp h107 (by decide) f111
  replace f114 := kp h107 (by decide) f114
  have f115 := nw h107 z106 (by decide)
  clear z106
  replace h107 := Lib.hid h107
  refine list_if (u := .slice uD X.D.length eD) (b := false) (c := true) (c' := true) (dk := 111) rfl (by kernel_rfl) (f111.trans (cv_true _).symm) rfl (by rfl) (fun h => run_load1 (s := .pointer (some ⟨db, 14, none⟩)) rfl f115 (by have c : w0.cell? ⟨db, 14, none⟩ = some (.slice uD X.D.length eD) := Y0.cell 14; go_simp)) ?_
  refine abs_list _ (fun a108 h108 => ?_)
  have z108 := sp h108 z107
  replace f2 := kp h108 (by decide) f2
  replace f3 := kp h108 (by decide) f3
  replace f111 := kp h108 (by decide) f111
  replace f114 := kp h108 (by decide) f114
  have f116 := nw h108 z107 (by decide)
  clear f115 z107
  replace h108 := Lib.hid h108
  refine list_if (u := .int .i64 (X.D.length : Nat)) (b := false) (c := true) (c' := true) (dk := 111) rfl (by kernel_rfl) (f111.trans (cv_true _).symm) rfl (by rfl) (fun h => run_lens (s := .slice uD X.D.length eD) rfl f116 (fun cs => len_sl26 _ _ _ _ cs)) ?_
  refine abs_list _ (fun a109 h109 => ?_)
  have z109 := sp h109 z108
  replace f2 := kp h109 (by decide) f2
  replace f3 := kp h109 (by decide) f3
  replace f111 := kp h109 (by decide) f111
  replace f114 := kp h109 (by decide) f114
  have f117 := nw h109 z108 (by decide)
  clear f116 z108
  replace h109 := Lib.hid h109
  refine list_if (u := .bool false) (b := false) (c := true) (c' := true) (dk := 111) rfl (by kernel_rfl) (f111.trans (cv_true _).symm) rfl (by rfl) (fun h => run_cmp_int (k := .i64) (p := (X.D.length : Nat)) (q := (X.D.length : Nat)) rfl (.inl rfl) f114 f117 ((neq_i3 _ _ _).trans (by simp))) ?_
  refine abs_list _ (fun a110 h110 => ?_)
  have z110 := sp h110 z109
  replace f2 := kp h110 (by decide) f2
  replace f3 := kp h110 (by decide) f3
  replace f111 := kp h110 (by decide) f111
  have f118 := nw h110 z109 (by decide)
  clear f114 f117 z109
  replace h110 := Lib.hid h110
  refine list_val (u := .bool false) rfl rfl (run_pick (b := false) rfl f111 (by rw [f118]; rfl)) ?_
  refine abs_list _ (fun a111 h111 => ?_)
  have z111 := sp h111 z110
  replace f2 := kp h111 (by decide) f2
  replace f3 := kp h111 (by decide) f3
  have f119 := nw h111 z110 (by decide)
  clear f111 f118 z110
  replace h111 := Lib.hid h111
  refine wpList_nil ?_
  rw [h111.out, h110.out, h109.out, h108.out, h107.out, h106.out, h105.out, h104.out, h103.out, h102.out, h101.out, h100.out, h99.out, h98.out, h97.out, h96.out, h95.out, h94.out, h93.out, h92.out, h91.out, h90.out, h89.out, h88.out, h87.out, h86.out, h85.out, h84.out, h83.out, h82.out, h81.out, h80.out, h79.out, h78.out, h77.out, h76.out, h75.out, h74.out, h73.out, h72.out, h71.out, h70.out, h69.out, h68.out, h67.out, h66.out, h65.out, h64.out, h63.out, h62.out, h61.out, h60.out, h59.out, h58.out, h57.out, h56.out, h55.out, h54.out, h53.out, h52.out, h51.out, h50.out, h49.out, h48.out, h47.out, h46.out, h45.out, h44.out, h43.out, h42.out, h41.out, h40.out, h39.out, h38.out, h37.out, h36.out, h35.out, h34.out, h33.out, h32.out, h31.out, h30.out, h29.out, h28.out, h27.out, h26.out, h25.out, h24.out, h23.out, h22.out, h21.out, h20.out, h19.out, h18.out, h17.out, h16.out, h15.out, h14.out, h13.out, h12.out, h11.out, h10.out, h9.out, h8.out, h7.out, h6.out, h5.out, h4.out, h3.out, h2.out, h1.out, HB.out]
  simp only [Act.put, List.setIfInBounds_toArray, List.set_cons_zero, List.set_cons_succ]
  clear f2 f3 f119 z111 HB hsz h1 h2 h3 h4 h5 h6 h7 h8 h9 h10 h11 h12 h13 h14 h15 h16 h17 h18 h19 h20 h21 h22 h23 h24 h25 h26 h27 h28 h29 h30 h31 h32 h33 h34 h35 h36 h37 h38 h39 h40 h41 h42 h43 h44 h45 h46 h47 h48 h49 h50 h51 h52 h53 h54 h55 h56 h57 h58 h59 h60 h61 h62 h63 h64 h65 h66 h67 h68 h69 h70 h71 h72 h73 h74 h75 h76 h77 h78 h79 h80 h81 h82 h83 h84 h85 h86 h87 h88 h89 h90 h91 h92 h93 h94 h95 h96 h97 h98 h99 h100 h101 h102 h103 h104 h105 h106 h107 h108 h109 h110 h111
  have HX := Lib.hid (And.intro X0 Y0)
  clear X0 Y0
  go_wp2_with fail
  go_loopw [5] (fun s5 wr => ∃ i : Nat, s5 = .int .i64 (i : Nat) ∧ i ≤ X.P.length ∧ Below w0.heap.size w0 wr) (fun s5 _ => X.P.length - (intOf s5).toNat)
  case atStart => exact ⟨0, rfl, Nat.zero_le _, Below.refl _ _⟩
  case round =>
    rename World => wr0
    obtain ⟨i0, rfl, hi, bel⟩ := hrel
    have xa : wr0.cell? ⟨cb, 11, none⟩ = some (.slice oP X.P.length cP) := (HX.out.1.below bel HX.out.1.lt).cell 11
    have xb : wr0.cell? ⟨db, 11, none⟩ = some (.slice uP X.P.length eP) := (HX.out.2.below bel HX.out.2.lt).cell 11
    by_cases hlt : i0 < X.P.length
    · have hii : (i0 : Int) < (X.P.length : Int) := by omega
      have hi0 : (0 : Int) ≤ (i0 : Int) := by omega
      obtain ⟨⟨e1, e2⟩, hx⟩ : ∃ x, X.P[i0]? = some x := ⟨_, List.getElem?_eq_getElem hlt⟩
      obtain ⟨aa, capa, hva, -, ca0, ca1⟩ := (HM1.out _ bel).P.two hlt (cellsP_get hx).1 (cellsP_get hx).2
      injection hva with hv1 hv2 hv3
      subst hv1
      subst hv3
      clear hv2
      obtain ⟨ab, capb, hvb, -, cb0, cb1⟩ := (HM2.out _ bel).P.two hlt (cellsP_get hx).1 (cellsP_get hx).2
      injection hvb with hv1 hv2 hv3
      subst hv1
      subst hv3
      clear hv2
      have ka0 := cell_regrown ca0
      have ka1 := cell_regrown ca1
      have kb0 := cell_regrown cb0
      have kb1 := cell_regrown cb1
      have kxa := cell_regrown xa
      have kxb := cell_regrown xb
      clear hx
      go_upto_region 6 with fail
      clear xa xb ca0 ca1 cb0 cb1
      refine wp_region_quiet_below (by kernel_rfl) (by kernel_rfl) ?_
      repeat (any_goals (first | go_big_quiet_step (fail) | quiet_step (fail)))
      refine wpQuiet_nil ?_
      intro w5 hw'
      obtain ⟨⟨dq, osq⟩, hw''⟩ := hw'
      have bel5 := bel.trans ((below_regrown wr0 dq osq).mono bel.size)
      rw [← hw''] at bel5
      clear hw'' ka0 ka1 kb0 kb1 kxa kxb bel
      go_wp2_with fail
      go_roundw
      case rel => exact ⟨i0 + 1, by go_num, by omega, bel5⟩
      case measure => simp [intOf]; omega
    · obtain rfl : i0 = X.P.length := by omega
      go_wp2_with fail
      go_loopw [6] (fun s6 wr => ∃ i : Nat, s6 = .int .i64 (i : Nat) ∧ i ≤ X.K.length ∧ Below w0.heap.size w0 wr) (fun s6 _ => X.K.length - (intOf s6).toNat)
      case atStart => exact ⟨0, rfl, Nat.zero_le _, bel⟩
      case round =>
        rename World => wr1
        clear bel xa xb
        obtain ⟨i1, rfl, hi, bel⟩ := hrel
        have xa : wr1.cell? ⟨cb, 12, none⟩ = some (.slice oK X.K.length cK) := (HX.out.1.below bel HX.out.1.lt).cell 12
        have xb : wr1.cell? ⟨db, 12, none⟩ = some (.slice uK X.K.length eK) := (HX.out.2.below bel HX.out.2.lt).cell 12
        by_cases hlt : i1 < X.K.length
        · have hii : (i1 : Int) < (X.K.length : Int) := by omega
          have hi0 : (0 : Int) ≤ (i1 : Int) := by omega
          obtain ⟨⟨e1, e2⟩, hx⟩ : ∃ x, X.K[i1]? = some x := ⟨_, List.getElem?_eq_getElem hlt⟩
          obtain ⟨aa, capa, hva, -, ca0, ca1⟩ := (HM1.out _ bel).K.two hlt (cellsP_get hx).1 (cellsP_get hx).2
          injection hva with hv1 hv2 hv3
          subst hv1
          subst hv3
          clear hv2
          obtain ⟨ab, capb, hvb, -, cb0, cb1⟩ := (HM2.out _ bel).K.two hlt (cellsP_get hx).1 (cellsP_get hx).2
          injection hvb with hv1 hv2 hv3
          subst hv1
          subst hv3
          clear hv2
          have ka0 := cell_regrown ca0
          have ka1 := cell_regrown ca1
          have kb0 := cell_regrown cb0
          have kb1 := cell_regrown cb1
          have kxa := cell_regrown xa
          have kxb := cell_regrown xb
          clear hx
          go_upto_region 11 with fail
          clear xa xb ca0 ca1 cb0 cb1
          refine wp_region_quiet_below (by kernel_rfl) (by kernel_rfl) ?_
          repeat (any_goals (first | go_big_quiet_step (fail) | quiet_step (fail)))
          refine wpQuiet_nil ?_
          intro w5 hw'
          obtain ⟨⟨dq, osq⟩, hw''⟩ := hw'
          have bel5 := bel.trans ((below_regrown wr1 dq osq).mono bel.size)
          rw [← hw''] at bel5
          clear hw'' ka0 ka1 kb0 kb1 kxa kxb bel
          go_wp2_with fail
          go_roundw
          case rel => exact ⟨i1 + 1, by go_num, by omega, bel5⟩
          case measure => simp [intOf]; omega
        · obtain rfl : i1 = X.K.length := by omega
          go_wp2_with fail
          go_loopw [7] (fun s7 wr => ∃ i : Nat, s7 = .int .i64 (i : Nat) ∧ i ≤ X.G.length ∧ Below w0.heap.size w0 wr) (fun s7 _ => X.G.length - (intOf s7).toNat)
          case atStart => exact ⟨0, rfl, Nat.zero_le _, bel⟩
          case round =>
            rename World => wr2
            clear bel xa xb
            obtain ⟨i2, rfl, hi, bel⟩ := hrel
            have xa : wr2.cell? ⟨cb, 13, none⟩ = some (.slice oG X.G.length cG) := (HX.out.1.below bel HX.out.1.lt).cell 13
            have xb : wr2.cell? ⟨db, 13, none⟩ = some (.slice uG X.G.length eG) := (HX.out.2.below bel HX.out.2.lt).cell 13
            by_cases hlt : i2 < X.G.length
            · have hii : (i2 : Int) < (X.G.length : Int) := by omega
              have hi0 : (0 : Int) ≤ (i2 : Int) := by omega
              obtain ⟨⟨e1, e2⟩, hx⟩ : ∃ x, X.G[i2]? = some x := ⟨_, List.getElem?_eq_getElem hlt⟩
              obtain ⟨aa, capa, hva, -, ca0, ca1⟩ := (HM1.out _ bel).G.two hlt (cellsG_at hx).1 (cellsG_at hx).2
              injection hva with hv1 hv2 hv3
              subst hv1
              subst hv3
              clear hv2
              obtain ⟨ab, capb, hvb, -, cb0, cb1⟩ := (HM2.out _ bel).G.two hlt (cellsG_at hx).1 (cellsG_at hx).2
              injection hvb with hv1 hv2 hv3
              subst hv1
              subst hv3
              clear hv2
              have ka0 := cell_regrown ca0
              have ka1 := cell_regrown ca1
              have kb0 := cell_regrown cb0
              have kb1 := cell_regrown cb1
              have kxa := cell_regrown xa
              have kxb := cell_regrown xb
              clear hx
              go_upto_region 16 with fail
              clear xa xb ca0 ca1 cb0 cb1
              refine wp_region_quiet_below (by kernel_rfl) (by kernel_rfl) ?_
              repeat (any_goals (first | go_big_quiet_step (fail) | quiet_step (fail)))
              refine wpQuiet_nil ?_
              intro w5 hw'
              obtain ⟨⟨dq, osq⟩, hw''⟩ := hw'
              have bel5 := bel.trans ((below_regrown wr2 dq osq).mono bel.size)
              rw [← hw''] at bel5
              clear hw'' ka0 ka1 kb0 kb1 kxa kxb bel
              go_wp2_with fail
              go_roundw
              case rel => exact ⟨i2 + 1, by go_num, by omega, bel5⟩
              case measure => simp [intOf]; omega
            · obtain rfl : i2 = X.G.length := by omega
              go_wp2_with fail
              go_loopw [8] (fun s8 wr => ∃ i : Nat, s8 = .int .i64 (i : Nat) ∧ i ≤ X.D.length ∧ Below w0.heap.size w0 wr) (fun s8 _ => X.D.length - (intOf s8).toNat)
              case atStart => exact ⟨0, rfl, Nat.zero_le _, bel⟩
              case round =>
                rename World => wr3
                clear bel xa xb
                obtain ⟨i3, rfl, hi, bel⟩ := hrel
                have xa : wr3.cell? ⟨cb, 14, none⟩ = some (.slice oD X.D.length cD) := (HX.out.1.below bel HX.out.1.lt).cell 14
                have xb : wr3.cell? ⟨db, 14, none⟩ = some (.slice uD X.D.length eD) := (HX.out.2.below bel HX.out.2.lt).cell 14
                by_cases hlt : i3 < X.D.length
                · have hii : (i3 : Int) < (X.D.length : Int) := by omega
                  have hi0 : (0 : Int) ≤ (i3 : Int) := by omega
                  obtain ⟨e1, hx⟩ : ∃ x, X.D[i3]? = some x := ⟨_, List.getElem?_eq_getElem hlt⟩
                  obtain ⟨aa, capa, hva, -, ca0⟩ := (HM1.out _ bel).D.one hlt (u0 := .int .u32 e1) (by rw [List.getElem?_map, hx]; rfl)
                  injection hva with hv1 hv2 hv3
                  subst hv1
                  subst hv3
                  clear hv2
                  obtain ⟨ab, capb, hvb, -, cb0⟩ := (HM2.out _ bel).D.one hlt (u0 := .int .u32 e1) (by rw [List.getElem?_map, hx]; rfl)
                  injection hvb with hv1 hv2 hv3
                  subst hv1
                  subst hv3
                  clear hv2
                  have ka0 := cell_regrown ca0
                  have kb0 := cell_regrown cb0
                  have kxa := cell_regrown xa
                  have kxb := cell_regrown xb
                  clear hx
                  go_upto_region 21 with fail
                  clear xa xb ca0 cb0
                  refine wp_region_quiet_below (by kernel_rfl) (by kernel_rfl) ?_
                  repeat (any_goals (first | go_big_quiet_step (fail) | quiet_step (fail)))
                  refine wpQuiet_nil ?_
                  intro w5 hw'
                  obtain ⟨⟨dq, osq⟩, hw''⟩ := hw'
                  have bel5 := bel.trans ((below_regrown wr3 dq osq).mono bel.size)
                  rw [← hw''] at bel5
                  clear hw'' ka0 kb0 kxa kxb bel
                  go_wp2_with fail
                  go_roundw
                  case rel => exact ⟨i3 + 1, by go_num, by omega, bel5⟩
                  case measure => simp [intOf]; omega
                · obtain rfl : i3 = X.D.length := by omega
                  go_wp2_with fail
                  go_ret
                  exact ⟨rfl, HBW.out.trans (bel.mono HBW.out.size)⟩

end Go.Proofs.Ytfpcneekbdcbcaa.ck
/- Layer 6: ChunkPuts, walked (gen-ckx.py wrote this). -/
namespace Go.Proofs.Ytfpcneekbdcbcaa.ck
open Go.ChangeShapes Go.WideShapes Go.ChangeAt Go.RowKit kit oct par chk bld cut
set_option maxRecDepth 100000

theorem Row.lift {w : World} {B B' size n : Nat} {v : Value} {xs : List Value} (r : Row w B size v n xs) (h : B ≤ B') : Row w B' size v n xs := by
  obtain ⟨oa, a, cap, e, x1, x2, x3, x4⟩ := r.val
  exact ⟨r.len, oa, a, cap, e, x1, x2, fun h0 => ⟨(x3 h0).1, Nat.lt_of_lt_of_le (x3 h0).2 h⟩, x4⟩
theorem CkM.lift {w : World} {B B' : Nat} {X : Ck} {v1 v2 v3 v4 : Value} (m : CkM w B X v1 v2 v3 v4) (h : B ≤ B') : CkM w B' X v1 v2 v3 v4 := ⟨m.P.lift h, m.K.lift h, m.G.lift h, m.D.lift h⟩
theorem PR.lift {w : World} {B B' : Nat} {oa : Option Addr} {a : Addr} {n c : Nat} {E : Nat → Int × ByteArray} (p : PR w B oa a n c E) (h : B ≤ B') : PR w B' oa a n c E := ⟨p.hc, p.hm, p.ho, fun h0 => Nat.lt_of_lt_of_le (p.hb h0) h, p.cell, p.sz⟩
theorem CkArg.below {w w' : World} {X : Ck} {v1 v2 v3 v4 : Value} (h : CkArg w X v1 v2 v3 v4) (hb : Below w.heap.size w w') : CkArg w' X v1 v2 v3 v4 := by
  obtain ⟨oP, aP, cP, e1, hP⟩ := h.P
  obtain ⟨oK, aK, cK, e2, hK⟩ := h.K
  exact ⟨h.fl, h.tsn, h.pr, h.tg, h.rw, h.d, ⟨oP, aP, cP, e1, PR.lift (hP.below hb) hb.size⟩, ⟨oK, aK, cK, e2, PR.lift (hK.below hb) hb.size⟩, (h.G.below hb).lift hb.size, (h.D.below hb).lift hb.size, h.go, h.do_, h.g, h.dd⟩
/-- The bytes of a chunk that may be; of one that may not. -/
theorem put_ne {X : Ck} (h : mayF X = true) : ((putF X).toList == []) = false := by
  rw [beq_eq_false_iff_ne]
  intro e
  rw [toList_nil] at e
  have := put_split ((may_iff X).1 h)
  rw [e] at this
  have h2 := congrArg ByteArray.size this
  simp only [ByteArray.size_append, p1_size] at h2
  simp at h2
  omega
theorem put_no {X : Ck} (h : mayF X = false) : putF X = ⟨#[]⟩ := by unfold putF; rw [h]; rfl
/-- A cookie's answer. -/
def ck11 : Ck := ⟨11, 0, 0, 0, 0, 0, ⟨#[]⟩, 0, 0, 0, 0, [], [], [], []⟩
theorem ck11_ok : CkOk ck11 :=
  ⟨by decide, by decide, by decide, by decide, by decide, by decide, by decide, by decide, by decide, by decide, by decide, fun p hp => by simp [ck11] at hp, fun p hp => by simp [ck11] at hp, rfl, .inr (by decide), ⟨fun _ _ _ _ _ => rfl, fun _ _ => ⟨rfl, rfl⟩, fun _ => rfl, fun _ _ _ _ _ => rfl⟩, ⟨fun _ => ⟨rfl, rfl, rfl⟩, fun _ _ => rfl⟩, fun _ _ => rfl, fun _ => rfl, fun _ => ⟨rfl, rfl⟩⟩
theorem put11 : putF ck11 = ⟨#[11, 0, 0, 4]⟩ := by
  unfold putF
  rw [if_pos ((may_iff _).2 ck11_ok)]
  decide +kernel
theorem awake6 (w : World) : Calls Try.prog 7 #[] w fun e w' => e = .returned (.bool true) ∧ Below w.heap.size w w' := by
  have hp := fun w : World => cput_any (X := ck11) (w := w) (B := w.heap.size) (vP := .slice none 0 0) (vK := .slice none 0 0) (vG := .slice none 0 0) (vD := .slice none 0 0) ⟨by decide, by decide, by decide, by decide, by decide, by decide, by decide, by decide, by decide, by decide, fun x hx => by simp [ck11] at hx, fun x hx => by simp [ck11] at hx⟩ ⟨Qo.row (Qo.nil w 0 2), Qo.row (Qo.nil w 0 2), Qo.row (Qo.nil w 0 2), Qo.row (Qo.nil w 0 1)⟩ (Nat.le_refl _)
  rw [put11] at hp
  unfold ckc ck11 at hp
  dsimp only at hp
  go_enter Try.func7, Try.ntmps7
  go_wp2_with (go_at_call 5; refine (hp _).mono ?_; rintro e w1 ⟨rfl, hb⟩)
  go_ret
  exact ⟨rfl, hb⟩
set_option maxHeartbeats 8000000 in
theorem chunkputs {X : Ck} {w : World} {vP vK vG vD : Value} (hA : CkArg w X vP vK vG vD) : Calls Try.prog 3 #[.agg (ckc X vP vK vG vD)] w fun e w' => e = .returned (.bool true) ∧ Below w.heap.size w w' := by
  obtain ⟨oP, aP, cP, rfl, -⟩ := hA.P
  obtain ⟨oK, aK, cK, rfl, -⟩ := hA.K
  obtain ⟨oG, cG, rfl, -⟩ := hA.go
  obtain ⟨oD, cD, rfl, -⟩ := hA.do_
  have HWY := Lib.hid (cutK_ok hA)
  have X0 := Blk.new w 28 #[.int .i64 X.ty, .int .i64 X.fl, .int .u32 X.tsn, .int .i64 X.st, .int .i64 X.ss, .int .u32 X.pr, .string X.d, .int .u32 X.tg, .int .u32 X.rw, .int .i64 X.ou, .int .i64 X.ii, .slice oP X.P.length cP, .slice oK X.K.length cK, .slice oG X.G.length cG, .slice oD X.D.length cD]
  have bel0 := (Below.refl w.heap.size w).alloc (Nat.le_refl _) (.cells #[.int .i64 X.ty, .int .i64 X.fl, .int .u32 X.tsn, .int .i64 X.st, .int .i64 X.ss, .int .u32 X.pr, .string X.d, .int .u32 X.tg, .int .u32 X.rw, .int .i64 X.ou, .int .i64 X.ii, .slice oP X.P.length cP, .slice oK X.K.length cK, .slice oG X.G.length cG, .slice oD X.D.length cD] 28)
  have hA0 := hA.below bel0
  have c1 := cut_any hA0
  clear hA hA0
  obtain ⟨Y, hY⟩ : ∃ Y, cutK X = Y := ⟨_, rfl⟩
  rw [hY] at c1 HWY
  clear hY
  unfold ckc at c1
  unfold ckc
  go_enter Try.func3, Try.ntmps3
  go_upto_region 1 with fail
  obtain ⟨w0, hw0⟩ : ∃ w0, w.alloc (.cells #[.int .i64 X.ty, .int .i64 X.fl, .int .u32 X.tsn, .int .i64 X.st, .int .i64 X.ss, .int .u32 X.pr, .string X.d, .int .u32 X.tg, .int .u32 X.rw, .int .i64 X.ou, .int .i64 X.ii, .slice oP X.P.length cP, .slice oK X.K.length cK, .slice oG X.G.length cG, .slice oD X.D.length cD] 28) = w0 := ⟨_, rfl⟩
  rw [hw0] at X0 bel0 c1
  try rw [hw0]
  clear hw0
  obtain ⟨kb, hkb⟩ : ∃ kb, w.heap.size = kb := ⟨_, rfl⟩
  rw [hkb] at X0
  try rw [hkb]
  go_wp2_with (refine wpList_load_at_g (by rfl) 28 _ rfl kb 0 rfl #[.int .i64 X.ty, .int .i64 X.fl, .int .u32 X.tsn, .int .i64 X.st, .int .i64 X.ss, .int .u32 X.pr, .string X.d, .int .u32 X.tg, .int .u32 X.rw, .int .i64 X.ou, .int .i64 X.ii, .slice oP X.P.length cP, .slice oK X.K.length cK, .slice oG X.G.length cG, .slice oD X.D.length cD] _ (Cel.of_blk X0) Try.underlying28 rfl (by show _ = some 15; kernel_rfl) ?_)
  refine c1.mono ?_
  rintro e w1 ⟨⟨v1, v2, v3, v4, rfl, M1⟩, hb1⟩
  have bel1 := bel0.trans (hb1.mono bel0.size)
  clear X0 bel0 c1 hb1
  obtain ⟨pP, qP, e1, _, _⟩ := M1.P.shape
  subst e1
  obtain ⟨pK, qK, e2, _, _⟩ := M1.K.shape
  subst e2
  obtain ⟨pG, qG, e3, _, _⟩ := M1.G.shape
  subst e3
  obtain ⟨pD, qD, e4, _, _⟩ := M1.D.shape
  subst e4
  have X2 := Blk.new w1 28 #[.int .i64 Y.ty, .int .i64 Y.fl, .int .u32 Y.tsn, .int .i64 Y.st, .int .i64 Y.ss, .int .u32 Y.pr, .string Y.d, .int .u32 Y.tg, .int .u32 Y.rw, .int .i64 Y.ou, .int .i64 Y.ii, .slice pP Y.P.length qP, .slice pK Y.K.length qK, .slice pG Y.G.length qG, .slice pD Y.D.length qD]
  have hal := (Below.refl w1.heap.size w1).alloc (Nat.le_refl _) (.cells #[.int .i64 Y.ty, .int .i64 Y.fl, .int .u32 Y.tsn, .int .i64 Y.st, .int .i64 Y.ss, .int .u32 Y.pr, .string Y.d, .int .u32 Y.tg, .int .u32 Y.rw, .int .i64 Y.ou, .int .i64 Y.ii, .slice pP Y.P.length qP, .slice pK Y.K.length qK, .slice pG Y.G.length qG, .slice pD Y.D.length qD] 28)
  have M2 := M1.below hal
  have bel2 := bel1.alloc bel1.size (.cells #[.int .i64 Y.ty, .int .i64 Y.fl, .int .u32 Y.tsn, .int .i64 Y.st, .int .i64 Y.ss, .int .u32 Y.pr, .string Y.d, .int .u32 Y.tg, .int .u32 Y.rw, .int .i64 Y.ou, .int .i64 Y.ii, .slice pP Y.P.length qP, .slice pK Y.K.length qK, .slice pG Y.G.length qG, .slice pD Y.D.length qD] 28)
  clear bel1 M1
  go_upto_region 2 with fail
  obtain ⟨w2, hw2⟩ : ∃ w2, w1.alloc (.cells #[.int .i64 Y.ty, .int .i64 Y.fl, .int .u32 Y.tsn, .int .i64 Y.st, .int .i64 Y.ss, .int .u32 Y.pr, .string Y.d, .int .u32 Y.tg, .int .u32 Y.rw, .int .i64 Y.ou, .int .i64 Y.ii, .slice pP Y.P.length qP, .slice pK Y.K.length qK, .slice pG Y.G.length qG, .slice pD Y.D.length qD] 28) = w2 := ⟨_, rfl⟩
  rw [hw2] at X2 M2 bel2 hal
  try rw [hw2]
  clear hw2
  replace M2 := M2.lift hal.size
  obtain ⟨xb, hxb⟩ : ∃ xb, w1.heap.size = xb := ⟨_, rfl⟩
  rw [hxb] at X2
  try rw [hxb]
  clear hxb hal hkb
  have HM := Lib.hid (show ∀ w', Below w2.heap.size w2 w' → CkM w' w2.heap.size Y _ _ _ _ from fun w' h => M2.below h)
  clear M2
  obtain ⟨S, hS⟩ : ∃ S, putF Y = S := ⟨_, rfl⟩
  have HS := Lib.hid hS
  clear hS
  unfold ckc at *
  have XQ := fun w' (h : ∃ p : Regrown, w' = Sort.grow (redrawn w2 p.d) p.os) => X2.below (grown_below w2 w' h) X2.lt
  refine wp_region_quiet_below (by kernel_rfl) (by kernel_rfl) ?_
  refine abs_quiet _ (fun ac hac => ?_)
  have hsz : ac.tmps.size = 44 := by rw [hac]; rfl
  have f3 : ac.eval (.tmp 3) = .pointer (some ⟨xb, 0, none⟩) := by rw [hac]; rfl
  have HB := Lib.hid hac
  clear hac
  refine quiet_val (u := .agg #[.int .i64 Y.ty, .int .i64 Y.fl, .int .u32 Y.tsn, .int .i64 Y.st, .int .i64 Y.ss, .int .u32 Y.pr, .string Y.d, .int .u32 Y.tg, .int .u32 Y.rw, .int .i64 Y.ou, .int .i64 Y.ii, .slice pP Y.P.length qP, .slice pK Y.K.length qK, .slice pG Y.G.length qG, .slice pD Y.D.length qD]) rfl rfl (fun qw hq => run_load_at (h := xb) (off := 0) (cs := #[.int .i64 Y.ty, .int .i64 Y.fl, .int .u32 Y.tsn, .int .i64 Y.st, .int .i64 Y.ss, .int .u32 Y.pr, .string Y.d, .int .u32 Y.tg, .int .u32 Y.rw, .int .i64 Y.ou, .int .i64 Y.ii, .slice pP Y.P.length qP, .slice pK Y.K.length qK, .slice pG Y.G.length qG, .slice pD Y.D.length qD]) rfl f3 _ Try.underlying28 rfl (by kernel_rfl) (Cel.of_blk (XQ qw hq))) ?_
  refine abs_quiet _ (fun a1 h1 => ?_)
  have z1 := sp h1 hsz
  replace f3 := kp h1 (by decide) f3
  have f10 := nw h1 hsz (by decide)
  replace h1 := Lib.hid h1
  refine quiet_call (grown_cb _) (u := .string S) rfl rfl 5 Try.f5 _ _ rfl Try.func5 (by kernel_rfl) (by kernel_rfl) #[.agg #[.int .i64 Y.ty, .int .i64 Y.fl, .int .u32 Y.tsn, .int .i64 Y.st, .int .i64 Y.ss, .int .u32 Y.pr, .string Y.d, .int .u32 Y.tg, .int .u32 Y.rw, .int .i64 Y.ou, .int .i64 Y.ii, .slice pP Y.P.length qP, .slice pK Y.K.length qK, .slice pG Y.G.length qG, .slice pD Y.D.length qD]] (by rw [show ((#[.tmp 10] : Array Operand).map a1.eval) = #[a1.eval (.tmp 10)] by simp, f10]) (fun qw hq => by rw [← HS.out]; exact cput_any HWY.out (HM.out _ ((grown_below w2 qw hq))) (grown_below w2 qw hq).size) ?_
  refine abs_quiet _ (fun a2 h2 => ?_)
  have z2 := sp h2 z1
  replace f3 := kp h2 (by decide) f3
  have f11 := nw h2 z1 (by decide)
  clear f10 z1
  replace h2 := Lib.hid h2
  refine quiet_val (u := .agg #[.int .i64 Y.ty, .int .i64 Y.fl, .int .u32 Y.tsn, .int .i64 Y.st, .int .i64 Y.ss, .int .u32 Y.pr, .string Y.d, .int .u32 Y.tg, .int .u32 Y.rw, .int .i64 Y.ou, .int .i64 Y.ii, .slice pP Y.P.length qP, .slice pK Y.K.length qK, .slice pG Y.G.length qG, .slice pD Y.D.length qD]) rfl rfl (fun qw hq => run_load_at (h := xb) (off := 0) (cs := #[.int .i64 Y.ty, .int .i64 Y.fl, .int .u32 Y.tsn, .int .i64 Y.st, .int .i64 Y.ss, .int .u32 Y.pr, .string Y.d, .int .u32 Y.tg, .int .u32 Y.rw, .int .i64 Y.ou, .int .i64 Y.ii, .slice pP Y.P.length qP, .slice pK Y.K.length qK, .slice pG Y.G.length qG, .slice pD Y.D.length qD]) rfl f3 _ Try.underlying28 rfl (by kernel_rfl) (Cel.of_blk (XQ qw hq))) ?_
  refine abs_quiet _ (fun a3 h3 => ?_)
  have z3 := sp h3 z2
  replace f3 := kp h3 (by decide) f3
  replace f11 := kp h3 (by decide) f11
  have f12 := nw h3 z2 (by decide)
  clear z2
  replace h3 := Lib.hid h3
  refine quiet_call (grown_cb _) (u := .string S) rfl rfl 6 Try.f6 _ _ rfl Try.func6 (by kernel_rfl) (by kernel_rfl) #[.agg #[.int .i64 Y.ty, .int .i64 Y.fl, .int .u32 Y.tsn, .int .i64 Y.st, .int .i64 Y.ss, .int .u32 Y.pr, .string Y.d, .int .u32 Y.tg, .int .u32 Y.rw, .int .i64 Y.ou, .int .i64 Y.ii, .slice pP Y.P.length qP, .slice pK Y.K.length qK, .slice pG Y.G.length qG, .slice pD Y.D.length qD]] (by rw [show ((#[.tmp 12] : Array Operand).map a3.eval) = #[a3.eval (.tmp 12)] by simp, f12]) (fun qw hq => by rw [← HS.out]; exact rcput_any HWY.out (HM.out _ ((grown_below w2 qw hq))) (grown_below w2 qw hq).size) ?_
  refine abs_quiet _ (fun a4 h4 => ?_)
  have z4 := sp h4 z3
  replace f3 := kp h4 (by decide) f3
  replace f11 := kp h4 (by decide) f11
  have f13 := nw h4 z3 (by decide)
  clear f12 z3
  replace h4 := Lib.hid h4
  refine quiet_val (u := .string S) rfl rfl (fun qw hq => run_assign rfl f11 _) ?_
  refine abs_quiet _ (fun a5 h5 => ?_)
  have z5 := sp h5 z4
  replace f3 := kp h5 (by decide) f3
  replace f13 := kp h5 (by decide) f13
  have f4 := nw h5 z4 (by decide)
  clear f11 z4
  replace h5 := Lib.hid h5
  refine quiet_val (u := .string S) rfl rfl (fun qw hq => run_assign rfl f13 _) ?_
  refine abs_quiet _ (fun a6 h6 => ?_)
  have z6 := sp h6 z5
  replace f3 := kp h6 (by decide) f3
  have f5 := nw h6 z5 (by decide)
  clear f13 f4 z5
  replace h6 := Lib.hid h6
  refine wpQuiet_nil ?_
  rw [h6.out, h5.out, h4.out, h3.out, h2.out, h1.out, HB.out]
  simp only [Act.put, List.setIfInBounds_toArray, List.set_cons_zero, List.set_cons_succ]
  intro w3 hw3
  have X3 := X2.below (grown_below w2 w3 hw3) X2.lt
  have bel3 := bel2.trans ((grown_below w2 w3 hw3).mono bel2.size)
  have b23 := grown_below w2 w3 hw3
  clear hw3 XQ X2 bel2 f3 f5 z6 HB hsz h1 h2 h3 h4 h5 h6
  have ca := awake6
  cases hm : mayF Y with
  | false =>
    have hSe : S = ⟨#[]⟩ := HS.out.symm.trans (put_no hm)
    subst hSe
    have cm := fun w' (h : Below w2.heap.size w2 w') => cmay_law HWY.out (HM.out _ h) h.size
    rw [hm] at cm
    unfold ckc at cm
    clear hm
    go_upto_region 5 with (first | (refine wpList_load_at_g (by rfl) 28 _ rfl xb 0 rfl #[.int .i64 Y.ty, .int .i64 Y.fl, .int .u32 Y.tsn, .int .i64 Y.st, .int .i64 Y.ss, .int .u32 Y.pr, .string Y.d, .int .u32 Y.tg, .int .u32 Y.rw, .int .i64 Y.ou, .int .i64 Y.ii, .slice pP Y.P.length qP, .slice pK Y.K.length qK, .slice pG Y.G.length qG, .slice pD Y.D.length qD] _ (Cel.of_blk X3) Try.underlying28 rfl (by show _ = some 15; kernel_rfl) ?_) | (go_at_call 7; refine (ca _).mono ?_; rintro e w4 ⟨rfl, hb4⟩; have X3 := X3.below hb4 X3.lt; have b24 := b23.trans (hb4.mono b23.size); have bel4 := bel3.trans (hb4.mono bel3.size); have cm4 := cm w4 b24) | (go_at_call 8; refine cm4.mono ?_; rintro e w5 ⟨rfl, hb5⟩))
    have X5 := X3.below hb5 X3.lt
    have b25 := b24.trans (hb5.mono b24.size)
    have bel5 := bel4.trans (hb5.mono bel4.size)
    clear cm4 ca cm X3 bel3 b23 b24 bel4
    have c6 := new_any ⟨#[]⟩ w5
    have h6 := RD.fresh w5 ⟨#[]⟩ 0
    have X6 := X5.alloc (.cells #[.string ⟨#[]⟩, .int .i64 0] 47)
    have b26 := b25.alloc b25.size (.cells #[.string ⟨#[]⟩, .int .i64 0] 47)
    have bel6 := bel5.alloc bel5.size (.cells #[.string ⟨#[]⟩, .int .i64 0] 47)
    have hx5 := X5.lt
    have hs5 := b25.size
    have hl5 := bel5.size
    clear X5 b25 bel5
    go_upto_region 6 with (go_at_call 9; refine c6.mono ?_; rintro e w6 ⟨rfl, rfl⟩)
    obtain ⟨w6, hw6⟩ : ∃ w6, w5.alloc (.cells #[.string ⟨#[]⟩, .int .i64 0] 47) = w6 := ⟨_, rfl⟩
    rw [hw6] at h6 X6 b26 bel6
    try rw [hw6]
    obtain ⟨g, hg⟩ : ∃ g, w5.heap.size = g := ⟨_, rfl⟩
    have hgs : w6.heap.size = g + 1 := by rw [← hw6, ← hg]; simp
    rw [hg] at h6 hx5 hs5 hl5
    try rw [hg]
    clear c6 hw6 hg
    have c7 := take_none h6
    go_wp2_with fail
    refine c7.mono ?_
    rintro e w7 ⟨rfl, hb7⟩
    have bel7 := bel6.trans (hb7.mono hl5)
    clear c7 h6 X6 b26 bel6 hb7
    have bel8 := bel7.alloc bel7.size (.cells #[.int .i64 0, .int .i64 0, .int .u32 0, .int .i64 0, .int .i64 0, .int .u32 0, .string ⟨#[]⟩, .int .u32 0, .int .u32 0, .int .i64 0, .int .i64 0, .slice none 0 0, .slice none 0 0, .slice none 0 0, .slice none 0 0] 28)
    go_wp2_with fail
    go_ret
    exact ⟨rfl, bel8⟩
  | true =>
    have HOY := Lib.hid ((may_iff Y).1 hm)
    have hSn : (S.toList == []) = false := by rw [← HS.out]; exact put_ne hm
    have hSn2 : (S.toList == (⟨#[]⟩ : ByteArray).toList) = false := by rw [(toList_nil ⟨#[]⟩).2 rfl]; exact hSn
    have cm := fun w' (h : Below w2.heap.size w2 w') => cmay_law HWY.out (HM.out _ h) h.size
    rw [hm] at cm
    unfold ckc at cm
    clear hm
    go_upto_region 5 with (first | (refine wpList_load_at_g (by rfl) 28 _ rfl xb 0 rfl #[.int .i64 Y.ty, .int .i64 Y.fl, .int .u32 Y.tsn, .int .i64 Y.st, .int .i64 Y.ss, .int .u32 Y.pr, .string Y.d, .int .u32 Y.tg, .int .u32 Y.rw, .int .i64 Y.ou, .int .i64 Y.ii, .slice pP Y.P.length qP, .slice pK Y.K.length qK, .slice pG Y.G.length qG, .slice pD Y.D.length qD] _ (Cel.of_blk X3) Try.underlying28 rfl (by show _ = some 15; kernel_rfl) ?_) | (go_at_call 7; refine (ca _).mono ?_; rintro e w4 ⟨rfl, hb4⟩; have X3 := X3.below hb4 X3.lt; have b24 := b23.trans (hb4.mono b23.size); have bel4 := bel3.trans (hb4.mono bel3.size); have cm4 := cm w4 b24) | (go_at_call 8; refine cm4.mono ?_; rintro e w5 ⟨rfl, hb5⟩))
    have X5 := X3.below hb5 X3.lt
    have b25 := b24.trans (hb5.mono b24.size)
    have bel5 := bel4.trans (hb5.mono bel4.size)
    clear cm4 ca cm X3 bel3 b23 b24 bel4
    have c6 := new_any S w5
    have h6 := RD.fresh w5 S 0
    have X6 := X5.alloc (.cells #[.string S, .int .i64 0] 47)
    have b26 := b25.alloc b25.size (.cells #[.string S, .int .i64 0] 47)
    have bel6 := bel5.alloc bel5.size (.cells #[.string S, .int .i64 0] 47)
    have hx5 := X5.lt
    have hs5 := b25.size
    have hl5 := bel5.size
    clear X5 b25 bel5
    go_upto_region 6 with (go_at_call 9; refine c6.mono ?_; rintro e w6 ⟨rfl, rfl⟩)
    obtain ⟨w6, hw6⟩ : ∃ w6, w5.alloc (.cells #[.string S, .int .i64 0] 47) = w6 := ⟨_, rfl⟩
    rw [hw6] at h6 X6 b26 bel6
    try rw [hw6]
    obtain ⟨g, hg⟩ : ∃ g, w5.heap.size = g := ⟨_, rfl⟩
    have hgs : w6.heap.size = g + 1 := by rw [← hw6, ← hg]; simp
    rw [hg] at h6 hx5 hs5 hl5
    try rw [hg]
    clear c6 hw6 hg
    have c7 := take_good HOY.out HWY.out (by rw [HS.out]; exact h6)
    go_wp2_with fail
    refine c7.mono ?_
    rintro e w7 ⟨⟨z1, z2, z3, z4, rfl, N7⟩, h7, hb7⟩
    have X7 := X6.below hb7 hx5
    have b27 := b26.trans (hb7.mono hs5)
    have bel7 := bel6.trans (hb7.mono hl5)
    have hs7 := hb7.size
    clear c7 h6 X6 b26 bel6 hb7
    obtain ⟨uP, vP, e1, _, _⟩ := N7.P.shape
    subst e1
    obtain ⟨uK, vK, e2, _, _⟩ := N7.K.shape
    subst e2
    obtain ⟨uG, vG, e3, _, _⟩ := N7.G.shape
    subst e3
    obtain ⟨uD, vD, e4, _, _⟩ := N7.D.shape
    subst e4
    unfold ckc
    have Z8 := Blk.new w7 28 #[.int .i64 Y.ty, .int .i64 Y.fl, .int .u32 Y.tsn, .int .i64 Y.st, .int .i64 Y.ss, .int .u32 Y.pr, .string Y.d, .int .u32 Y.tg, .int .u32 Y.rw, .int .i64 Y.ou, .int .i64 Y.ii, .slice uP Y.P.length vP, .slice uK Y.K.length vK, .slice uG Y.G.length vG, .slice uD Y.D.length vD]
    have al8 := (Below.refl w7.heap.size w7).alloc (Nat.le_refl _) (.cells #[.int .i64 Y.ty, .int .i64 Y.fl, .int .u32 Y.tsn, .int .i64 Y.st, .int .i64 Y.ss, .int .u32 Y.pr, .string Y.d, .int .u32 Y.tg, .int .u32 Y.rw, .int .i64 Y.ou, .int .i64 Y.ii, .slice uP Y.P.length vP, .slice uK Y.K.length vK, .slice uG Y.G.length vG, .slice uD Y.D.length vD] 28)
    have X8 := X7.alloc (.cells #[.int .i64 Y.ty, .int .i64 Y.fl, .int .u32 Y.tsn, .int .i64 Y.st, .int .i64 Y.ss, .int .u32 Y.pr, .string Y.d, .int .u32 Y.tg, .int .u32 Y.rw, .int .i64 Y.ou, .int .i64 Y.ii, .slice uP Y.P.length vP, .slice uK Y.K.length vK, .slice uG Y.G.length vG, .slice uD Y.D.length vD] 28)
    have h8 : RD (w7.alloc (.cells #[.int .i64 Y.ty, .int .i64 Y.fl, .int .u32 Y.tsn, .int .i64 Y.st, .int .i64 Y.ss, .int .u32 Y.pr, .string Y.d, .int .u32 Y.tg, .int .u32 Y.rw, .int .i64 Y.ou, .int .i64 Y.ii, .slice uP Y.P.length vP, .slice uK Y.K.length vK, .slice uG Y.G.length vG, .slice uD Y.D.length vD] 28)) g ByteArray.empty 0 := Blk.alloc h7 (.cells #[.int .i64 Y.ty, .int .i64 Y.fl, .int .u32 Y.tsn, .int .i64 Y.st, .int .i64 Y.ss, .int .u32 Y.pr, .string Y.d, .int .u32 Y.tg, .int .u32 Y.rw, .int .i64 Y.ou, .int .i64 Y.ii, .slice uP Y.P.length vP, .slice uK Y.K.length vK, .slice uG Y.G.length vG, .slice uD Y.D.length vD] 28)
    have N8 := N7.below al8
    have b28 := b27.alloc b27.size (.cells #[.int .i64 Y.ty, .int .i64 Y.fl, .int .u32 Y.tsn, .int .i64 Y.st, .int .i64 Y.ss, .int .u32 Y.pr, .string Y.d, .int .u32 Y.tg, .int .u32 Y.rw, .int .i64 Y.ou, .int .i64 Y.ii, .slice uP Y.P.length vP, .slice uK Y.K.length vK, .slice uG Y.G.length vG, .slice uD Y.D.length vD] 28)
    have bel8 := bel7.alloc bel7.size (.cells #[.int .i64 Y.ty, .int .i64 Y.fl, .int .u32 Y.tsn, .int .i64 Y.st, .int .i64 Y.ss, .int .u32 Y.pr, .string Y.d, .int .u32 Y.tg, .int .u32 Y.rw, .int .i64 Y.ou, .int .i64 Y.ii, .slice uP Y.P.length vP, .slice uK Y.K.length vK, .slice uG Y.G.length vG, .slice uD Y.D.length vD] 28)
    clear X7 h7 N7 b27 bel7
    go_upto_region 7 with fail
    obtain ⟨w8, hw8⟩ : ∃ w8, w7.alloc (.cells #[.int .i64 Y.ty, .int .i64 Y.fl, .int .u32 Y.tsn, .int .i64 Y.st, .int .i64 Y.ss, .int .u32 Y.pr, .string Y.d, .int .u32 Y.tg, .int .u32 Y.rw, .int .i64 Y.ou, .int .i64 Y.ii, .slice uP Y.P.length vP, .slice uK Y.K.length vK, .slice uG Y.G.length vG, .slice uD Y.D.length vD] 28) = w8 := ⟨_, rfl⟩
    rw [hw8] at Z8 al8 X8 h8 N8 b28 bel8
    try rw [hw8]
    obtain ⟨yb, hyb⟩ : ∃ yb, w7.heap.size = yb := ⟨_, rfl⟩
    rw [hyb] at Z8
    try rw [hyb]
    clear hw8 hyb
    have ce := end_any g _ 0 w8 h8
    rw [show endE ByteArray.empty 0 = 0 by unfold endE; rw [if_neg]; intro h; simp at h] at ce
    have cs := same_any HWY.out ((HM.out _ b28).lift b28.size) (N8.lift al8.size) (Nat.le_refl _)
    unfold ckc at cs
    clear N8 b28
    go_wp2_with (first | (refine wpList_load_at_g (by rfl) 28 _ rfl xb 0 rfl #[.int .i64 Y.ty, .int .i64 Y.fl, .int .u32 Y.tsn, .int .i64 Y.st, .int .i64 Y.ss, .int .u32 Y.pr, .string Y.d, .int .u32 Y.tg, .int .u32 Y.rw, .int .i64 Y.ou, .int .i64 Y.ii, .slice pP Y.P.length qP, .slice pK Y.K.length qK, .slice pG Y.G.length qG, .slice pD Y.D.length qD] _ (Cel.of_blk X8) Try.underlying28 rfl (by show _ = some 15; kernel_rfl) ?_) | (refine wpList_load_at_g (by rfl) 28 _ rfl yb 0 rfl #[.int .i64 Y.ty, .int .i64 Y.fl, .int .u32 Y.tsn, .int .i64 Y.st, .int .i64 Y.ss, .int .u32 Y.pr, .string Y.d, .int .u32 Y.tg, .int .u32 Y.rw, .int .i64 Y.ou, .int .i64 Y.ii, .slice uP Y.P.length vP, .slice uK Y.K.length vK, .slice uG Y.G.length vG, .slice uD Y.D.length vD] _ (Cel.of_blk Z8) Try.underlying28 rfl (by show _ = some 15; kernel_rfl) ?_) | (go_at_call 11; refine ce.mono ?_; rintro e w9 ⟨rfl, rfl⟩) | (go_at_call 12; refine cs.mono ?_; rintro e w9 ⟨rfl, hb9⟩))
    go_ret
    exact ⟨rfl, bel8.trans (hb9.mono bel8.size)⟩
end Go.Proofs.Ytfpcneekbdcbcaa.ck
/- Layer 6: ChunkPuts of whatever argument: opened. -/
namespace Go.Proofs.Ytfpcneekbdcbcaa.ck
open Go.ChangeShapes Go.WideShapes Go.ChangeAt Go.RowKit kit oct par chk bld cut
set_option maxRecDepth 100000

theorem puts_open {H : Type} {enc : TypeId × Value → H} {W : World} {base : Nat} {v0 : Value} {d0 : DataW H} {p0 : List MemPlace}
    (o0 : Value.okWide Try.prog W .any base 28 v0) (h0 : DataW.Trod enc Try.prog W 0 (fun _ => true) true 28 v0 d0 p0) :
    Calls Try.prog 3 #[v0] W fun e w' => e = .returned (.bool true) ∧ Below W.heap.size W w' := by
  obtain ⟨l, rfl, hF⟩ := open_struct 4 (sh := [.int .i64, .int .i64, .int .u32, .int .i64, .int .i64, .int .u32, .str, .int .u32, .int .u32, .int .i64, .int .i64, .other 23, .other 24, .other 25, .other 26]) Try.underlying28 (by kernel_rfl) (by kernel_rfl) o0 h0
  obtain ⟨X, vP, vK, vG, vD, rfl, hA⟩ := arg_of hF
  exact chunkputs hA
end Go.Proofs.Ytfpcneekbdcbcaa.ck
