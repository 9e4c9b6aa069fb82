/- Layer 6: gaps and dups, read (gen-ckr.py wrote this). -/
import Derived.Test.YtfpcneekbdcbcaaGD
namespace Go.Proofs.Ytfpcneekbdcbcaa.ck
open Go.Sort (grow)
open Go.ChangeShapes Go.WideShapes Go.ChangeAt Go.RowKit kit oct par chk bld cut
set_option maxRecDepth 100000

theorem call_C {P : Program} {ops : Array Oper} {Q : Exit → Act → World → Prop} {S : World → Prop} {c : Nat} {i : Nat} {o : Oper} {d fuel : Nat} {L : Array Bool} {a : Act} {w : World} (hr : Region.ready .any ops L = [i]) (hi : ops[i]? = some o) (hg : o.guard = none) (hd : o.dst = some d) (f : FuncId) (fn : Func) (xs : Array Operand) (ts : Array TypeId) (hop : o.op = .call { callee := .value (.func f), args := xs, argTypes := ts })
    (hf : P.funcs[f]? = some fn) (hn : (fn.name == "runtime.NumGoroutine") = false) (hb : fn.body.isNone = false) (vs : Array Value) (hx : xs.map a.eval = vs) {R : Ending → World → Prop} (hc : Calls P f vs w R)
    (h : ∀ e w', R e w' → ∃ v, e = .returned v ∧ (i ≠ c → S w') ∧ wpAnyC P .any ops Q S c fuel (L.setIfInBounds i true) (a.put (some d) v) w') : wpAnyC P .any ops Q S c (fuel + 1) L a w :=
  one_C hr hi hg fun K hK => by
    have := step_call2 (ops := ops) (E := True) hg f fn xs ts hop hf hn hb vs hx hc (K := K) (Q := Q) (fun e w' hR => by
      obtain ⟨v, he, h1, h2⟩ := h e w' hR
      exact ⟨v, he, by rw [hd]; exact hK _ _ h1 h2⟩)
    rwa [if_pos (by simp [Region.wanted, hg])] at this
theorem infoG : (Try.prog.info? 55).map (fun i => (i.zero, i.size, i.bytes)) = some (some (.agg #[.int .i64 0, .int .i64 0]), 2, 16) := by kernel_rfl
theorem infoD : (Try.prog.info? 22).map (fun i => (i.zero, i.size, i.bytes)) = some (some (.int .u32 0), 1, 4) := by kernel_rfl
theorem cellsG_snoc (l : List (Int × Int)) (p : Int × Int) : cellsG (l ++ [p]) = cellsG l ++ [.int .i64 p.1, .int .i64 p.2] := by
  induction l with
  | nil => rfl
  | cons q r ih => simp [cellsG, ih]
theorem drop_cons {α : Type} {L : List α} {i : Nat} {x : α} (h : L[i]? = some x) : L.drop i = x :: L.drop (i + 1) := by
  obtain ⟨hi, rfl⟩ := List.getElem?_eq_some_iff.1 h
  exact List.drop_eq_getElem_cons hi
set_option maxHeartbeats 16000000 in
theorem parts_any {X : Ck} {w : World} {B g cb : Nat} (H : CkOk X) (HWx : CkW X) (h : RD w g (p2 (X.G.length : Nat) ++ (p2 (X.D.length : Nat) ++ (catG X.G ++ catD X.D))) 0) (Zx : Blk w cb 28 (numC X (.slice none 0 0) (.slice none 0 0))) (hne : cb ≠ g) (hg : B ≤ g) (hc : B ≤ cb) (hB : B ≤ w.heap.size) : Calls Try.prog 74 #[.pointer (some ⟨g, 0, none⟩), .pointer (some ⟨cb, 0, none⟩)] w fun e w' => e = .returned (.tuple #[]) ∧ NumPost X ByteArray.empty g cb B w w' := by
  have HO := Lib.hid H
  have HW := Lib.hid HWx
  obtain ⟨b1, hb1⟩ : ∃ b1, w.heap.size = b1 := ⟨_, rfl⟩
  have hgl := Blk.lt h
  have hcl := Zx.lt
  have hn1 : X.G.length ≤ 16 := HO.out.G
  have hn2 : X.D.length ≤ 16 := HO.out.D
  have HB1 := Lib.hid hb1
  rw [hb1] at hgl hcl hB
  obtain ⟨nG, hnG⟩ : ∃ n, X.G.length = n := ⟨_, rfl⟩
  obtain ⟨nD, hnD⟩ : ∃ n, X.D.length = n := ⟨_, rfl⟩
  rw [hnG] at h hn1
  rw [hnD] at h hn2
  have hw1 : IntKind.i64.wrap ((nG : Int) * 4) = (nG : Int) * 4 := IntWalk.i64_in _ (by omega)
  have hw2 : IntKind.i64.wrap ((nD : Int) * 4) = (nD : Int) * 4 := IntWalk.i64_in _ (by omega)
  have hw3 : IntKind.i64.wrap ((nG : Int) * 4 + (nD : Int) * 4) = (nG : Int) * 4 + (nD : Int) * 4 := IntWalk.i64_in _ (by omega)
  have hsz : ((catG X.G ++ catD X.D).size : Int) = (nG : Int) * 4 + (nD : Int) * 4 := by simp only [ByteArray.size_append, catG_size, catD_size, hnG, hnD]; omega
  have c1 := g16 (R := p2 (nD : Nat) ++ (catG X.G ++ catD X.D)) (nG : Nat) h (by omega) (by omega) (by simp only [ByteArray.size_append, p2_size, catG_size, catD_size]; omega)
  have HN := Lib.hid (And.intro hnG hnD)
  clear hnG hnD h HWx H hb1
  go_enter Try.func74, Try.ntmps74
  go_wp2_with fail
  refine c1.mono ?_
  rintro e w1 ⟨rfl, h1, ht1⟩
  have c2 := g16 (R := catG X.G ++ catD X.D) (nD : Nat) h1 (by omega) (by omega) (by simp only [ByteArray.size_append, catG_size, catD_size, HN.out.1, HN.out.2]; omega)
  go_wp2_with fail
  refine c2.mono ?_
  rintro e w2 ⟨rfl, h2, ht2⟩
  have c3 := left_any g _ 0 w2 h2
  rw [hsz] at c3
  have bel2 : Below B w w2 := (touch_below ht1 hg (by rw [HB1.out]; exact hB)).trans (touch_below ht2 hg (by have := ht1.size; have := HB1.out; omega))
  have Z2 := touch_blk ht2 (touch_blk ht1 Zx hne) hne
  have hb2 : b1 ≤ w2.heap.size := by have := ht1.size; have := ht2.size; have := HB1.out; omega
  clear c1 c2 Zx h1 ht1 ht2
  go_wp2_with (go_at_call 27; refine c3.mono ?_; rintro e w3 ⟨rfl, rfl⟩)
  clear c3
  go_loopw [21] (fun s21 wr => ∃ (i : Nat) (vG : Value), s21 = .int .i64 (i : Nat) ∧ i ≤ nG ∧ RD wr g (catG (X.G.drop i) ++ catD X.D) 0 ∧ Blk wr cb 28 (numC X vG (.slice none 0 0)) ∧ Qo wr b1 2 vG i (cellsG (X.G.take i)) ∧ Below B w wr ∧ b1 ≤ wr.heap.size) (fun s21 _ => nG - (intOf s21).toNat)
  case atStart => exact ⟨0, _, rfl, Nat.zero_le _, h2, Z2, by rw [List.take_zero]; exact Qo.nil _ _ _, bel2, hb2⟩
  case round =>
    rename World => wr
    clear h2 Z2 bel2 hb2
    obtain ⟨i, vG, rfl, hi, hR, Z, q, bel, hb⟩ := hrel
    by_cases hlt : i < nG
    · have hii : (i : Int) < (nG : Int) := by omega
      have hi0 : (0 : Int) ≤ (i : Int) := by omega
      obtain ⟨⟨g1, g2⟩, hx⟩ : ∃ x, X.G[i]? = some x := ⟨_, List.getElem?_eq_getElem (by rw [HN.out.1]; exact hlt)⟩
      have hgap := HO.out.gap (g1, g2) (List.mem_of_getElem? hx)
      dsimp only at hgap
      rw [drop_cons hx, show catG ((g1, g2) :: X.G.drop (i + 1)) = p2 g1 ++ (p2 g2 ++ catG (X.G.drop (i + 1))) from rfl, ByteArray.append_assoc, ByteArray.append_assoc] at hR
      have hl1 := HN.out.1
      have hl2 := HN.out.2
      obtain ⟨oq, cq, hvq, _, _⟩ := q.shape
      subst hvq
      clear hi0
      obtain ⟨i0, hi0, hz0, hz1, hz2⟩ := info_parts infoG
      go_upto_region 5 with fail
      have Zd := Z.drew
      have Rd := hR.drew
      have qd := q.drew
      have beld := bel.drew
      have hbd : b1 ≤ wr.drew.heap.size := hb
      refine wp_region_noPanic ?_
      refine begin_C (fun v => v.cell? ⟨cb, 13, none⟩ = some (.slice oq i cq)) 14 (by kernel_rfl) ?_
      obtain ⟨dw, hdw⟩ : ∃ dw, wr.drew = dw := ⟨_, rfl⟩
      rw [hdw] at Zd Rd qd beld hbd ⊢
      clear hdw Z hR q bel hb
      refine abs_C _ (fun ac hac => ?_)
      have hsz : ac.tmps.size = 53 := by rw [hac]; rfl
      have f0 : ac.eval (.tmp 0) = .pointer (some ⟨g, 0, none⟩) := by rw [hac]; rfl
      have f1 : ac.eval (.tmp 1) = .pointer (some ⟨cb, 0, none⟩) := by rw [hac]; rfl
      have HB := Lib.hid hac
      clear hac
      refine take_Y (i := 0) (u := .pointer (some ⟨cb, 0, none⟩)) rfl (by kernel_rfl) (by kernel_rfl) (by kernel_rfl) (by decide) rfl rfl (fun _ _ _ h => h) (Zd.cell 13) (fun v => run_move rfl f1 _) ?_
      refine abs_C _ (fun a1 h1 => ?_)
      have z1 := sp h1 hsz
      replace f0 := kp h1 (by decide) f0
      replace f1 := kp h1 (by decide) f1
      have f23 := nw h1 hsz (by decide)
      replace h1 := Lib.hid h1
      refine take_Y (i := 1) (u := .pointer (some ⟨cb, 0, none⟩)) rfl (by kernel_rfl) (by kernel_rfl) (by kernel_rfl) (by decide) rfl rfl (fun _ _ _ h => h) (Zd.cell 13) (fun v => run_move rfl f1 _) ?_
      refine abs_C _ (fun a2 h2 => ?_)
      have z2 := sp h2 z1
      replace f0 := kp h2 (by decide) f0
      replace f1 := kp h2 (by decide) f1
      replace f23 := kp h2 (by decide) f23
      have f24 := nw h2 z1 (by decide)
      clear z1
      replace h2 := Lib.hid h2
      refine take_Y (i := 2) (u := .pointer (some ⟨cb, 0, none⟩)) rfl (by kernel_rfl) (by kernel_rfl) (by kernel_rfl) (by decide) rfl rfl (fun _ _ _ h => h) (Zd.cell 13) (fun v => run_nilc (p := ⟨cb, 0, none⟩) rfl f24) ?_
      refine abs_C _ (fun a3 h3 => ?_)
      have z3 := sp h3 z2
      replace f0 := kp h3 (by decide) f0
      replace f1 := kp h3 (by decide) f1
      replace f23 := kp h3 (by decide) f23
      have f25 := nw h3 z2 (by decide)
      clear f24 z2
      replace h3 := Lib.hid h3
      refine take_Y (i := 3) (u := .pointer (some ⟨cb, 13, none⟩)) rfl (by kernel_rfl) (by kernel_rfl) (by kernel_rfl) (by decide) rfl rfl (fun _ _ _ h => h) (Zd.cell 13) (fun v => run_field (s := .pointer (some ⟨cb, 0, none⟩)) rfl f25 (by kernel_rfl)) ?_
      refine abs_C _ (fun a4 h4 => ?_)
      have z4 := sp h4 z3
      replace f0 := kp h4 (by decide) f0
      replace f1 := kp h4 (by decide) f1
      replace f23 := kp h4 (by decide) f23
      have f26 := nw h4 z3 (by decide)
      clear f25 z3
      replace h4 := Lib.hid h4
      refine take_C (i := 4) [11] (u := .slice oq i cq) rfl (by kernel_rfl) (by kernel_rfl) (by kernel_rfl) (by kernel_rfl) (by kernel_rfl) (by decide) rfl rfl (fun _ _ _ h => h) (Zd.cell 13) (fun v hv => run_load1 (s := .pointer (some ⟨cb, 13, none⟩)) rfl f26 (by have c : v.cell? ⟨cb, 13, none⟩ = some (.slice oq i cq) := hv; go_simp)) ?_
      refine abs_C _ (fun a5 h5 => ?_)
      have z5 := sp h5 z4
      replace f0 := kp h5 (by decide) f0
      replace f1 := kp h5 (by decide) f1
      replace f23 := kp h5 (by decide) f23
      have f27 := nw h5 z4 (by decide)
      clear f26 z4
      replace h5 := Lib.hid h5
      refine take_Y (i := 5) (u := .pointer (some ⟨g, 0, none⟩)) rfl (by kernel_rfl) (by kernel_rfl) (by kernel_rfl) (by decide) rfl rfl (fun _ _ _ h => h) (Zd.cell 13) (fun v => run_move rfl f0 _) ?_
      refine abs_C _ (fun a6 h6 => ?_)
      have z6 := sp h6 z5
      replace f0 := kp h6 (by decide) f0
      replace f1 := kp h6 (by decide) f1
      replace f23 := kp h6 (by decide) f23
      replace f27 := kp h6 (by decide) f27
      have f28 := nw h6 z5 (by decide)
      clear z5
      replace h6 := Lib.hid h6
      refine take_Y (i := 7) (u := .pointer (some ⟨g, 0, none⟩)) rfl (by kernel_rfl) (by kernel_rfl) (by kernel_rfl) (by decide) rfl rfl (fun _ _ _ h => h) (Zd.cell 13) (fun v => run_move rfl f0 _) ?_
      refine abs_C _ (fun a7 h7 => ?_)
      have z7 := sp h7 z6
      replace f0 := kp h7 (by decide) f0
      replace f1 := kp h7 (by decide) f1
      replace f23 := kp h7 (by decide) f23
      replace f27 := kp h7 (by decide) f27
      replace f28 := kp h7 (by decide) f28
      have f30 := nw h7 z6 (by decide)
      clear z6
      replace h7 := Lib.hid h7
      have hc1 := g16 (R := p2 g2 ++ (catG (X.G.drop (i + 1)) ++ catD X.D)) g1 Rd (by omega) (by omega) (by simp only [ByteArray.size_append, p2_size, catG_size, catD_size, List.length_drop]; omega)
      refine call_C (i := 6) (by kernel_rfl) rfl rfl rfl 24 Try.f24 _ _ rfl Try.func24 (by kernel_rfl) (by kernel_rfl) #[.pointer (some ⟨g, 0, none⟩)] (by rw [show ((#[.tmp 28] : Array Operand).map a7.eval) = #[a7.eval (.tmp 28)] by simp, f28]) hc1 ?_
      rintro _ w1_ ⟨rfl, Rd1, ht1⟩
      have Zd1 := touch_blk ht1 Zd hne
      have qd1 := touch_qo ht1 qd (fun e => by have := (qd.lt e).1; omega)
      have beld1 := beld.trans (touch_below ht1 hg (by omega))
      have hbd1 : b1 ≤ w1_.heap.size := Nat.le_trans hbd ht1.size
      clear hc1 Rd Zd qd beld hbd ht1
      have Rd := Rd1
      clear Rd1
      have Zd := Zd1
      clear Zd1
      have qd := qd1
      clear qd1
      have beld := beld1
      clear beld1
      have hbd := hbd1
      clear hbd1
      refine ⟨_, rfl, fun _ => (Zd.cell 13), ?_⟩
      refine abs_C _ (fun a8 h8 => ?_)
      have z8 := sp h8 z7
      replace f0 := kp h8 (by decide) f0
      replace f1 := kp h8 (by decide) f1
      replace f23 := kp h8 (by decide) f23
      replace f27 := kp h8 (by decide) f27
      replace f30 := kp h8 (by decide) f30
      have f29 := nw h8 z7 (by decide)
      clear f28 z7
      replace h8 := Lib.hid h8
      have hc2 := g16 (R := catG (X.G.drop (i + 1)) ++ catD X.D) g2 Rd (by omega) (by omega) (by simp only [ByteArray.size_append, p2_size, catG_size, catD_size, List.length_drop]; omega)
      refine call_C (i := 8) (by kernel_rfl) rfl rfl rfl 24 Try.f24 _ _ rfl Try.func24 (by kernel_rfl) (by kernel_rfl) #[.pointer (some ⟨g, 0, none⟩)] (by rw [show ((#[.tmp 30] : Array Operand).map a8.eval) = #[a8.eval (.tmp 30)] by simp, f30]) hc2 ?_
      rintro _ w2_ ⟨rfl, Rd2, ht2⟩
      have Zd2 := touch_blk ht2 Zd hne
      have qd2 := touch_qo ht2 qd (fun e => by have := (qd.lt e).1; omega)
      have beld2 := beld.trans (touch_below ht2 hg (by omega))
      have hbd2 : b1 ≤ w2_.heap.size := Nat.le_trans hbd ht2.size
      clear hc2 Rd Zd qd beld hbd ht2
      have Rd := Rd2
      clear Rd2
      have Zd := Zd2
      clear Zd2
      have qd := qd2
      clear qd2
      have beld := beld2
      clear beld2
      have hbd := hbd2
      clear hbd2
      refine ⟨_, rfl, fun _ => (Zd.cell 13), ?_⟩
      refine abs_C _ (fun a9 h9 => ?_)
      have z9 := sp h9 z8
      replace f0 := kp h9 (by decide) f0
      replace f1 := kp h9 (by decide) f1
      replace f23 := kp h9 (by decide) f23
      replace f27 := kp h9 (by decide) f27
      replace f29 := kp h9 (by decide) f29
      have f31 := nw h9 z8 (by decide)
      clear f30 z8
      replace h9 := Lib.hid h9
      refine take_Y (i := 9) (u := .agg #[.int .i64 g1, .int .i64 g2]) rfl (by kernel_rfl) (by kernel_rfl) (by kernel_rfl) (by decide) rfl rfl (fun _ _ _ h => h) (Zd.cell 13) (fun v => run_build2 (s0 := .int .i64 g1) (s1 := .int .i64 g2) rfl f29 f31 (by kernel_rfl)) ?_
      refine abs_C _ (fun a10 h10 => ?_)
      have z10 := sp h10 z9
      replace f0 := kp h10 (by decide) f0
      replace f1 := kp h10 (by decide) f1
      replace f23 := kp h10 (by decide) f23
      replace f27 := kp h10 (by decide) f27
      have f32 := nw h10 z9 (by decide)
      clear f29 f31 z9
      replace h10 := Lib.hid h10
      have q3 := qd.alloc (.cells #[.int .i64 g1, .int .i64 g2] 55)
      have Z3 := Zd.alloc (.cells #[.int .i64 g1, .int .i64 g2] 55)
      have R3 := Blk.alloc Rd (.cells #[.int .i64 g1, .int .i64 g2] 55)
      have bel3 := beld.alloc (by omega) (.cells #[.int .i64 g1, .int .i64 g2] 55)
      have I3 := src_item (P := Try.prog) (SL := 25) (sz := 2) Try.underlying25 (Blk.new w2_ 55 #[.int .i64 g1, .int .i64 g2]) (fun u hu => by simp at hu; rcases hu with rfl | rfl <;> rfl) rfl
      refine val_C (i := 10) (u := .slice (some ⟨w2_.heap.size, 0, none⟩) 1 1) (w' := w2_.alloc (.cells #[.int .i64 g1, .int .i64 g2] 55)) (by kernel_rfl) rfl rfl rfl (fun _ => Z3.cell 13) (run_build1 (u := .agg #[.int .i64 g1, .int .i64 g2]) rfl f32 (by kernel_rfl)) ?_
      refine abs_C _ (fun a11 h11 => ?_)
      have z11 := sp h11 z10
      replace f0 := kp h11 (by decide) f0
      replace f1 := kp h11 (by decide) f1
      replace f23 := kp h11 (by decide) f23
      replace f27 := kp h11 (by decide) f27
      have f33 := nw h11 z10 (by decide)
      clear f32 z10
      replace h11 := Lib.hid h11
      have hs3 : b1 ≤ (w2_.alloc (.cells #[.int .i64 g1, .int .i64 g2] 55)).heap.size := by simp; omega
      obtain ⟨v4, w4, hr4, q4, gr, -⟩ := qo_append (P := Try.prog) (t := 25) (ty := 25) Try.underlying25 hi0 hz0 hz1 hz2 rfl q3 I3 (by unfold maxLen; omega) (by omega) (by first | omega | (simp; omega))
      have Z4 := (gr.block cb Z3.lt (fun e => by have := (q3.lt e.symm).1; omega)).trans Z3
      have R4 := (gr.block g (Blk.lt R3) (fun e => by have := (q3.lt e.symm).1; omega)).trans R3
      have bel4 := bel3.grown gr (by omega) (fun k hk => by have := (q3.lt hk).1; omega)
      have hb4 : b1 ≤ w4.heap.size := Nat.le_trans hs3 gr.size
      obtain ⟨o4, c4, hv4, _, _⟩ := q4.shape
      subst hv4
      refine app_C (i := 11) (by kernel_rfl) rfl rfl rfl rfl f27 f33 hr4 (fun _ => show w4.cell? ⟨cb, 13, none⟩ = _ from (show Blk w4 cb 28 _ from Z4).cell 13) ?_
      refine abs_C _ (fun a12 h12 => ?_)
      have z12 := sp h12 z11
      replace f0 := kp h12 (by decide) f0
      replace f1 := kp h12 (by decide) f1
      replace f23 := kp h12 (by decide) f23
      have f34 := nw h12 z11 (by decide)
      clear f27 f33 z11
      replace h12 := Lib.hid h12
      refine take_Y (i := 12) (u := .pointer (some ⟨cb, 0, none⟩)) rfl (by kernel_rfl) (by kernel_rfl) (by kernel_rfl) (by decide) rfl rfl (fun _ _ _ h => h) (show w4.cell? ⟨cb, 13, none⟩ = _ from (show Blk w4 cb 28 _ from Z4).cell 13) (fun v => run_nilc (p := ⟨cb, 0, none⟩) rfl f23) ?_
      refine abs_C _ (fun a13 h13 => ?_)
      have z13 := sp h13 z12
      replace f0 := kp h13 (by decide) f0
      replace f1 := kp h13 (by decide) f1
      replace f34 := kp h13 (by decide) f34
      have f35 := nw h13 z12 (by decide)
      clear f23 z12
      replace h13 := Lib.hid h13
      refine take_Y (i := 13) (u := .pointer (some ⟨cb, 13, none⟩)) rfl (by kernel_rfl) (by kernel_rfl) (by kernel_rfl) (by decide) rfl rfl (fun _ _ _ h => h) (show w4.cell? ⟨cb, 13, none⟩ = _ from (show Blk w4 cb 28 _ from Z4).cell 13) (fun v => run_field (s := .pointer (some ⟨cb, 0, none⟩)) rfl f35 (by kernel_rfl)) ?_
      refine abs_C _ (fun a14 h14 => ?_)
      have z14 := sp h14 z13
      replace f0 := kp h14 (by decide) f0
      replace f1 := kp h14 (by decide) f1
      replace f34 := kp h14 (by decide) f34
      have f36 := nw h14 z13 (by decide)
      clear f35 z13
      replace h14 := Lib.hid h14
      have f4 : w4.frozen? ⟨cb, 13, none⟩ = false := (show Blk w4 cb 28 _ from Z4).frozen 13
      have c4_ : w4.cell? ⟨cb, 13, none⟩ = some (.slice oq i cq) := (show Blk w4 cb 28 _ from Z4).cell 13
      refine store_C (i := 14) (p := .pointer (some ⟨cb, 13, none⟩)) (u := .slice o4 (i + 1) c4) (w' := w4.setCell ⟨cb, 13, none⟩ (.slice o4 (i + 1) c4)) (by kernel_rfl) rfl rfl rfl rfl f36 f34 (fun h => absurd rfl h) (by go_simp) ?_
      refine done_C (by kernel_rfl) ?_ _
      refine NoPanic.normal ?_
      rw [h14.out, h13.out, h12.out, h11.out, h10.out, h9.out, h8.out, h7.out, h6.out, h5.out, h4.out, h3.out, h2.out, h1.out, HB.out]
      simp only [Act.put, List.setIfInBounds_toArray, List.set_cons_zero, List.set_cons_succ]
      clear f0 f1 f34 f36 z14 HB hsz h1 h2 h3 h4 h5 h6 h7 h8 h9 h10 h11 h12 h13 h14
      have Z5 := Blk.set_ Z4 13 (.slice o4 (i + 1) c4)
      have R5 := Blk.far R4 (p := ⟨cb, 13, none⟩) (show g ≠ cb from Ne.symm hne) (.slice o4 (i + 1) c4)
      have q5 := q4.far (p := ⟨cb, 13, none⟩) (fun e => by have : b1 ≤ cb := (q4.lt e).1; omega) (.slice o4 (i + 1) c4)
      have bel5 := bel4.setCell (p := ⟨cb, 13, none⟩) (show B ≤ cb from hc) (.slice o4 (i + 1) c4)
      have hb5 : b1 ≤ (w4.setCell ⟨cb, 13, none⟩ (.slice o4 (i + 1) c4)).heap.size := by simpa [World.setCell] using hb4
      have q6 : Qo (w4.setCell ⟨cb, 13, none⟩ (.slice o4 (i + 1) c4)) b1 2 (.slice o4 (i + 1) c4) (i + 1) (cellsG (X.G.take (i + 1))) := by rw [take_snoc hx, cellsG_snoc]; exact q5
      have HE := Lib.hid (And.intro R5 (And.intro Z5 (And.intro q6 (And.intro bel5 hb5))))
      clear R5 Z5 q6 q5 bel5 hb5 R4 Z4 q4 bel4 hb4 R3 Z3 q3 bel3 hs3 I3 hr4 gr f4 c4_ qd Rd Zd beld hbd hx
      go_wp2_with fail
      go_roundw
      case rel => exact ⟨i + 1, _, by go_num, by omega, HE.out.1, HE.out.2.1, HE.out.2.2.1, HE.out.2.2.2.1, HE.out.2.2.2.2⟩
      case measure => simp [intOf]; omega
    · obtain rfl : i = nG := by omega
      have hdr : X.G.drop i = [] := List.drop_eq_nil_of_le (by rw [HN.out.1]; exact Nat.le_refl _)
      have htk : X.G.take i = X.G := List.take_of_length_le (by rw [HN.out.1]; exact Nat.le_refl _)
      rw [hdr, show catG [] ++ catD X.D = catD X.D by simp [catG]] at hR
      rw [htk] at q
      obtain ⟨oG, cG, hvG', _, _⟩ := q.shape
      subst hvG'
      obtain ⟨b2, hb2⟩ : ∃ b2, wr.heap.size = b2 := ⟨_, rfl⟩
      have hvG : ∀ k, blkOf (.slice oG i cG) = some k → b1 ≤ k ∧ k < b2 := fun k hk => by rw [← hb2]; exact q.lt hk
      have h12 : b1 ≤ b2 := by omega
      have HE := Lib.hid (And.intro hR (And.intro Z (And.intro q (And.intro bel (show b2 ≤ wr.heap.size by omega)))))
      have HV := Lib.hid hvG
      clear hR Z q bel hb hb2 hdr htk hvG
      go_wp2_with fail
      go_loopw [39] (fun s39 wq => ∃ (j : Nat) (vD : Value), s39 = .int .i64 (j : Nat) ∧ j ≤ nD ∧ RD wq g (catD (X.D.drop j)) 0 ∧ Blk wq cb 28 (numC X (.slice oG i cG) vD) ∧ Qo wq b1 2 (.slice oG i cG) i (cellsG X.G) ∧ Qo wq b2 1 vD j ((X.D.take j).map (.int .u32)) ∧ Below B w wq ∧ b2 ≤ wq.heap.size) (fun s39 _ => nD - (intOf s39).toNat)
      case atStart => exact ⟨0, _, rfl, Nat.zero_le _, HE.out.1, HE.out.2.1, HE.out.2.2.1, by rw [List.take_zero]; exact Qo.nil _ _ _, HE.out.2.2.2.1, HE.out.2.2.2.2⟩
      case round =>
        rename World => wq
        clear HE
        obtain ⟨j, vD, rfl, hj, hR, Z, hG, q, bel, hb⟩ := hrel
        have hvG := HV.out
        have hgl2 : g < b2 := by omega
        have hcl2 : cb < b2 := by omega
        by_cases hlj : j < nD
        · have hjj : (j : Int) < (nD : Int) := by omega
          have hj0 : (0 : Int) ≤ (j : Int) := by omega
          obtain ⟨d1, hx⟩ : ∃ x, X.D[j]? = some x := ⟨_, List.getElem?_eq_getElem (by rw [HN.out.2]; exact hlj)⟩
          have hdd := HW.out.dd d1 (List.mem_of_getElem? hx)
          rw [drop_cons hx, show catD (d1 :: X.D.drop (j + 1)) = p4 d1 ++ catD (X.D.drop (j + 1)) from rfl] at hR
          have hl2 := HN.out.2
          obtain ⟨oq, cq, hvq, _, _⟩ := q.shape
          subst hvq
          obtain ⟨i0, hi0, hz0, hz1, hz2⟩ := info_parts infoD
          go_upto_region 9 with fail
          have Zd := Z.drew
          have Rd := hR.drew
          have qd := q.drew
          have beld := bel.drew
          have hbd : b2 ≤ wq.drew.heap.size := hb
          have eG := hG.drew
          refine wp_region_noPanic ?_
          refine begin_C (fun v => v.cell? ⟨cb, 14, none⟩ = some (.slice oq j cq)) 11 (by kernel_rfl) ?_
          obtain ⟨dw, hdw⟩ : ∃ dw, wq.drew = dw := ⟨_, rfl⟩
          rw [hdw] at Zd Rd qd beld hbd eG ⊢
          clear hdw Z hR q bel hb hG
          refine abs_C _ (fun ac hac => ?_)
          have hsz : ac.tmps.size = 53 := by rw [hac]; rfl
          have f0 : ac.eval (.tmp 0) = .pointer (some ⟨g, 0, none⟩) := by rw [hac]; rfl
          have f1 : ac.eval (.tmp 1) = .pointer (some ⟨cb, 0, none⟩) := by rw [hac]; rfl
          have HB := Lib.hid hac
          clear hac
          refine take_Y (i := 0) (u := .pointer (some ⟨cb, 0, none⟩)) rfl (by kernel_rfl) (by kernel_rfl) (by kernel_rfl) (by decide) rfl rfl (fun _ _ _ h => h) (Zd.cell 14) (fun v => run_move rfl f1 _) ?_
          refine abs_C _ (fun a1 h1 => ?_)
          have z1 := sp h1 hsz
          replace f0 := kp h1 (by decide) f0
          replace f1 := kp h1 (by decide) f1
          have f41 := nw h1 hsz (by decide)
          replace h1 := Lib.hid h1
          refine take_Y (i := 1) (u := .pointer (some ⟨cb, 0, none⟩)) rfl (by kernel_rfl) (by kernel_rfl) (by kernel_rfl) (by decide) rfl rfl (fun _ _ _ h => h) (Zd.cell 14) (fun v => run_move rfl f1 _) ?_
          refine abs_C _ (fun a2 h2 => ?_)
          have z2 := sp h2 z1
          replace f0 := kp h2 (by decide) f0
          replace f1 := kp h2 (by decide) f1
          replace f41 := kp h2 (by decide) f41
          have f42 := nw h2 z1 (by decide)
          clear z1
          replace h2 := Lib.hid h2
          refine take_Y (i := 2) (u := .pointer (some ⟨cb, 0, none⟩)) rfl (by kernel_rfl) (by kernel_rfl) (by kernel_rfl) (by decide) rfl rfl (fun _ _ _ h => h) (Zd.cell 14) (fun v => run_nilc (p := ⟨cb, 0, none⟩) rfl f42) ?_
          refine abs_C _ (fun a3 h3 => ?_)
          have z3 := sp h3 z2
          replace f0 := kp h3 (by decide) f0
          replace f1 := kp h3 (by decide) f1
          replace f41 := kp h3 (by decide) f41
          have f43 := nw h3 z2 (by decide)
          clear f42 z2
          replace h3 := Lib.hid h3
          refine take_Y (i := 3) (u := .pointer (some ⟨cb, 14, none⟩)) rfl (by kernel_rfl) (by kernel_rfl) (by kernel_rfl) (by decide) rfl rfl (fun _ _ _ h => h) (Zd.cell 14) (fun v => run_field (s := .pointer (some ⟨cb, 0, none⟩)) rfl f43 (by kernel_rfl)) ?_
          refine abs_C _ (fun a4 h4 => ?_)
          have z4 := sp h4 z3
          replace f0 := kp h4 (by decide) f0
          replace f1 := kp h4 (by decide) f1
          replace f41 := kp h4 (by decide) f41
          have f44 := nw h4 z3 (by decide)
          clear f43 z3
          replace h4 := Lib.hid h4
          refine take_C (i := 4) [8] (u := .slice oq j cq) rfl (by kernel_rfl) (by kernel_rfl) (by kernel_rfl) (by kernel_rfl) (by kernel_rfl) (by decide) rfl rfl (fun _ _ _ h => h) (Zd.cell 14) (fun v hv => run_load1 (s := .pointer (some ⟨cb, 14, none⟩)) rfl f44 (by have c : v.cell? ⟨cb, 14, none⟩ = some (.slice oq j cq) := hv; go_simp)) ?_
          refine abs_C _ (fun a5 h5 => ?_)
          have z5 := sp h5 z4
          replace f0 := kp h5 (by decide) f0
          replace f1 := kp h5 (by decide) f1
          replace f41 := kp h5 (by decide) f41
          have f45 := nw h5 z4 (by decide)
          clear f44 z4
          replace h5 := Lib.hid h5
          refine take_Y (i := 5) (u := .pointer (some ⟨g, 0, none⟩)) rfl (by kernel_rfl) (by kernel_rfl) (by kernel_rfl) (by decide) rfl rfl (fun _ _ _ h => h) (Zd.cell 14) (fun v => run_move rfl f0 _) ?_
          refine abs_C _ (fun a6 h6 => ?_)
          have z6 := sp h6 z5
          replace f0 := kp h6 (by decide) f0
          replace f1 := kp h6 (by decide) f1
          replace f41 := kp h6 (by decide) f41
          replace f45 := kp h6 (by decide) f45
          have f46 := nw h6 z5 (by decide)
          clear z5
          replace h6 := Lib.hid h6
          have hc1 := g32 (R := catD (X.D.drop (j + 1))) d1 Rd hdd.1 hdd.2 (by simp only [catD_size, List.length_drop]; omega)
          refine call_C (i := 6) (by kernel_rfl) rfl rfl rfl 73 Try.f73 _ _ rfl Try.func73 (by kernel_rfl) (by kernel_rfl) #[.pointer (some ⟨g, 0, none⟩)] (by rw [show ((#[.tmp 46] : Array Operand).map a6.eval) = #[a6.eval (.tmp 46)] by simp, f46]) hc1 ?_
          rintro _ w1_ ⟨rfl, Rd1, ht1⟩
          have Zd1 := touch_blk ht1 Zd hne
          have qd1 := touch_qo ht1 qd (fun e => by have := (qd.lt e).1; omega)
          have beld1 := beld.trans (touch_below ht1 hg (by omega))
          have hbd1 : b2 ≤ w1_.heap.size := Nat.le_trans hbd ht1.size
          have eG1 := touch_qo ht1 eG (fun e => by have := (eG.lt e).1; omega)
          clear hc1 Rd Zd qd beld hbd ht1 eG
          have Rd := Rd1
          clear Rd1
          have Zd := Zd1
          clear Zd1
          have qd := qd1
          clear qd1
          have beld := beld1
          clear beld1
          have hbd := hbd1
          clear hbd1
          have eG := eG1
          clear eG1
          refine ⟨_, rfl, fun _ => (Zd.cell 14), ?_⟩
          refine abs_C _ (fun a7 h7 => ?_)
          have z7 := sp h7 z6
          replace f0 := kp h7 (by decide) f0
          replace f1 := kp h7 (by decide) f1
          replace f41 := kp h7 (by decide) f41
          replace f45 := kp h7 (by decide) f45
          have f47 := nw h7 z6 (by decide)
          clear f46 z6
          replace h7 := Lib.hid h7
          have q3 := qd.alloc (.cells #[.int .u32 d1] 22)
          have Z3 := Zd.alloc (.cells #[.int .u32 d1] 22)
          have R3 := Blk.alloc Rd (.cells #[.int .u32 d1] 22)
          have bel3 := beld.alloc (by omega) (.cells #[.int .u32 d1] 22)
          have I3 := src_item (P := Try.prog) (SL := 26) (sz := 1) Try.underlying26 (Blk.new w1_ 22 #[.int .u32 d1]) (fun u hu => by simp at hu; subst hu; rfl) rfl
          have G3 := eG.alloc (.cells #[.int .u32 d1] 22)
          refine val_C (i := 7) (u := .slice (some ⟨w1_.heap.size, 0, none⟩) 1 1) (w' := w1_.alloc (.cells #[.int .u32 d1] 22)) (by kernel_rfl) rfl rfl rfl (fun _ => Z3.cell 14) (run_build1 (u := .int .u32 d1) rfl f47 (by kernel_rfl)) ?_
          refine abs_C _ (fun a8 h8 => ?_)
          have z8 := sp h8 z7
          replace f0 := kp h8 (by decide) f0
          replace f1 := kp h8 (by decide) f1
          replace f41 := kp h8 (by decide) f41
          replace f45 := kp h8 (by decide) f45
          have f48 := nw h8 z7 (by decide)
          clear f47 z7
          replace h8 := Lib.hid h8
          have hs3 : b2 ≤ (w1_.alloc (.cells #[.int .u32 d1] 22)).heap.size := by simp; omega
          obtain ⟨v4, w4, hr4, q4, gr, -⟩ := qo_append (P := Try.prog) (t := 26) (ty := 26) Try.underlying26 hi0 hz0 hz1 hz2 rfl q3 I3 (by unfold maxLen; omega) (by omega) (by first | omega | (simp; omega))
          have Z4 := (gr.block cb Z3.lt (fun e => by have := (q3.lt e.symm).1; omega)).trans Z3
          have R4 := (gr.block g (Blk.lt R3) (fun e => by have := (q3.lt e.symm).1; omega)).trans R3
          have bel4 := bel3.grown gr (by omega) (fun k hk => by have := (q3.lt hk).1; omega)
          have hb4 : b2 ≤ w4.heap.size := Nat.le_trans hs3 gr.size
          have G4 := G3.block gr.size fun k hk => gr.block k (G3.lt hk).2 (fun e => by have := (q3.lt e.symm).1; have := hvG k hk; omega)
          obtain ⟨o4, c4, hv4, _, _⟩ := q4.shape
          subst hv4
          refine app_C (i := 8) (by kernel_rfl) rfl rfl rfl rfl f45 f48 hr4 (fun _ => show w4.cell? ⟨cb, 14, none⟩ = _ from (show Blk w4 cb 28 _ from Z4).cell 14) ?_
          refine abs_C _ (fun a9 h9 => ?_)
          have z9 := sp h9 z8
          replace f0 := kp h9 (by decide) f0
          replace f1 := kp h9 (by decide) f1
          replace f41 := kp h9 (by decide) f41
          have f49 := nw h9 z8 (by decide)
          clear f45 f48 z8
          replace h9 := Lib.hid h9
          refine take_Y (i := 9) (u := .pointer (some ⟨cb, 0, none⟩)) rfl (by kernel_rfl) (by kernel_rfl) (by kernel_rfl) (by decide) rfl rfl (fun _ _ _ h => h) (show w4.cell? ⟨cb, 14, none⟩ = _ from (show Blk w4 cb 28 _ from Z4).cell 14) (fun v => run_nilc (p := ⟨cb, 0, none⟩) rfl f41) ?_
          refine abs_C _ (fun a10 h10 => ?_)
          have z10 := sp h10 z9
          replace f0 := kp h10 (by decide) f0
          replace f1 := kp h10 (by decide) f1
          replace f49 := kp h10 (by decide) f49
          have f50 := nw h10 z9 (by decide)
          clear f41 z9
          replace h10 := Lib.hid h10
          refine take_Y (i := 10) (u := .pointer (some ⟨cb, 14, none⟩)) rfl (by kernel_rfl) (by kernel_rfl) (by kernel_rfl) (by decide) rfl rfl (fun _ _ _ h => h) (show w4.cell? ⟨cb, 14, none⟩ = _ from (show Blk w4 cb 28 _ from Z4).cell 14) (fun v => run_field (s := .pointer (some ⟨cb, 0, none⟩)) rfl f50 (by kernel_rfl)) ?_
          refine abs_C _ (fun a11 h11 => ?_)
          have z11 := sp h11 z10
          replace f0 := kp h11 (by decide) f0
          replace f1 := kp h11 (by decide) f1
          replace f49 := kp h11 (by decide) f49
          have f51 := nw h11 z10 (by decide)
          clear f50 z10
          replace h11 := Lib.hid h11
          have f4 : w4.frozen? ⟨cb, 14, none⟩ = false := (show Blk w4 cb 28 _ from Z4).frozen 14
          have c4_ : w4.cell? ⟨cb, 14, none⟩ = some (.slice oq j cq) := (show Blk w4 cb 28 _ from Z4).cell 14
          refine store_C (i := 11) (p := .pointer (some ⟨cb, 14, none⟩)) (u := .slice o4 (j + 1) c4) (w' := w4.setCell ⟨cb, 14, none⟩ (.slice o4 (j + 1) c4)) (by kernel_rfl) rfl rfl rfl rfl f51 f49 (fun h => absurd rfl h) (by go_simp) ?_
          refine done_C (by kernel_rfl) ?_ _
          refine NoPanic.normal ?_
          rw [h11.out, h10.out, h9.out, h8.out, h7.out, h6.out, h5.out, h4.out, h3.out, h2.out, h1.out, HB.out]
          simp only [Act.put, List.setIfInBounds_toArray, List.set_cons_zero, List.set_cons_succ]
          clear f0 f1 f49 f51 z11 HB hsz h1 h2 h3 h4 h5 h6 h7 h8 h9 h10 h11
          have Z5 := Blk.set_ Z4 14 (.slice o4 (j + 1) c4)
          have R5 := Blk.far R4 (p := ⟨cb, 14, none⟩) (show g ≠ cb from Ne.symm hne) (.slice o4 (j + 1) c4)
          have q5 := q4.far (p := ⟨cb, 14, none⟩) (fun e => by have : b2 ≤ cb := (q4.lt e).1; omega) (.slice o4 (j + 1) c4)
          have bel5 := bel4.setCell (p := ⟨cb, 14, none⟩) (show B ≤ cb from hc) (.slice o4 (j + 1) c4)
          have hb5 : b2 ≤ (w4.setCell ⟨cb, 14, none⟩ (.slice o4 (j + 1) c4)).heap.size := by simpa [World.setCell] using hb4
          have G5 := G4.far (p := ⟨cb, 14, none⟩) (fun e => by have := hvG _ e; have : b1 ≤ cb := this.1; omega) (.slice o4 (j + 1) c4)
          have q6 : Qo (w4.setCell ⟨cb, 14, none⟩ (.slice o4 (j + 1) c4)) b2 1 (.slice o4 (j + 1) c4) (j + 1) ((X.D.take (j + 1)).map (.int .u32)) := by rw [take_snoc hx, List.map_append]; exact q5
          have HE := Lib.hid (And.intro R5 (And.intro Z5 (And.intro G5 (And.intro q6 (And.intro bel5 hb5)))))
          clear R5 Z5 q6 q5 bel5 hb5 R4 Z4 q4 bel4 hb4 R3 Z3 q3 bel3 hs3 I3 hr4 gr f4 c4_ qd Rd Zd beld hbd hx G5 G4 G3 eG
          go_wp2_with fail
          go_roundw
          case rel => exact ⟨j + 1, _, by go_num, by omega, HE.out.1, HE.out.2.1, HE.out.2.2.1, HE.out.2.2.2.1, HE.out.2.2.2.2.1, HE.out.2.2.2.2.2⟩
          case measure => simp [intOf]; omega
        · obtain rfl : j = nD := by omega
          have hdr : X.D.drop j = [] := List.drop_eq_nil_of_le (by rw [HN.out.2]; exact Nat.le_refl _)
          have htk : X.D.take j = X.D := List.take_of_length_le (by rw [HN.out.2]; exact Nat.le_refl _)
          rw [hdr, show catD [] = ByteArray.empty from rfl] at hR
          rw [htk] at q
          have HE := Lib.hid (And.intro hR (And.intro Z (And.intro hG (And.intro (q.weaken h12) bel))))
          clear hR Z hG q bel hb hdr htk hvG
          go_wp2_with fail
          go_end0
          refine ⟨rfl, _, _, HE.out.1, HE.out.2.1, ?_, ?_, HE.out.2.2.2.2⟩
          · rw [HB1.out, HN.out.1]; exact HE.out.2.2.1
          · rw [HB1.out, HN.out.2]; exact HE.out.2.2.2.1
end Go.Proofs.Ytfpcneekbdcbcaa.ck
/- Layer 6: the numbers that a chunk begins with, read (gen-cks.py wrote this). -/
namespace Go.Proofs.Ytfpcneekbdcbcaa.ck
open Go.ChangeShapes Go.WideShapes Go.ChangeAt Go.RowKit kit oct par chk bld cut
set_option maxRecDepth 100000

/-- A chunk of which type and flags are known. -/
def baseC (X : Ck) : Array Value := #[.int .i64 X.ty, .int .i64 X.fl, .int .u32 0, .int .i64 0, .int .i64 0, .int .u32 0, .string ⟨#[]⟩, .int .u32 0, .int .u32 0, .int .i64 0, .int .i64 0, .slice none 0 0, .slice none 0 0, .slice none 0 0, .slice none 0 0]
set_option maxHeartbeats 4000000 in
theorem numbers_0 {X : Ck} {w : World} {B g cb : Nat} {R : ByteArray} (HT : X.ty = 0) (H : CkOk X) (HWx : CkW X) (h : RD w g (numF X ++ R) 0) (hR : kindV X.ty = 3 → R = ByteArray.empty) (hl : (numF X ++ R).size ≤ 60000) (Zx : Blk w cb 28 (baseC X)) (hne : cb ≠ g) (hg : B ≤ g) (hc : B ≤ cb) (hB : B ≤ w.heap.size) : Calls Try.prog 58 #[.pointer (some ⟨g, 0, none⟩), .pointer (some ⟨cb, 0, none⟩)] w fun e w' => e = .returned (.tuple #[]) ∧ NumPost X R g cb B w w' := by
  have hk : kindV X.ty = 0 := by rw [HT]; rfl
  have e0 : (X.ty == 0) = true := by rw [HT]; rfl
  have e1 : (X.ty == 1) = false := by rw [HT]; rfl
  have e2 : (X.ty == 2) = false := by rw [HT]; rfl
  have e3 : (X.ty == 3) = false := by rw [HT]; rfl
  have e7 : (X.ty == 7) = false := by rw [HT]; rfl
  have e193 : (X.ty == 193) = false := by rw [HT]; rfl
  have e128 : (X.ty == 128) = false := by rw [HT]; rfl
  have e130 : (X.ty == 130) = false := by rw [HT]; rfl
  have e15 : (X.ty == 15) = false := by rw [HT]; rfl
  have hnf : numF X ++ R = p4 X.tsn ++ (p2 X.st ++ (p2 X.ss ++ (p4 X.pr ++ (R)))) := by unfold numF; rw [hk]; simp [ByteArray.append_assoc]
  rw [hnf] at h hl
  have HO := Lib.hid H
  have HW := Lib.hid HWx
  have hgl := Blk.lt h
  have hcl := Zx.lt
  have HZ := Lib.hid (And.intro ((HO.out.z.2.1.1 (by rw [hk]; decide)).1) ( And.intro ((HO.out.z.2.1.1 (by rw [hk]; decide)).2.1) ( And.intro ((HO.out.z.2.1.1 (by rw [hk]; decide)).2.2) (HO.out.z.2.1.2 (by rw [hk]; decide) (by rw [hk]; decide)))))
  clear HT H HWx hR hnf
  have hGD := HO.out.z.2.2.2.2 (by rw [hk]; decide)
  have HGD := Lib.hid (And.intro (List.length_eq_zero_iff.1 hGD.1) (List.length_eq_zero_iff.1 hGD.2))
  clear hGD
  have bel0 : Below B w w := Below.refl _ _
  have C0 := fun i => Zx.cell i
  unfold baseC at C0
  go_enter Try.func58, Try.ntmps58
  have x0 : w.cell? ⟨cb, 0, none⟩ = some (.int .i64 X.ty) := Zx.cell 0
  clear C0
  have c1 := g32 (R := p2 X.st ++ (p2 X.ss ++ (p4 X.pr ++ (R)))) X.tsn h HW.out.tsn.1 HW.out.tsn.2 (by have := hl; simp only [ByteArray.size_append] at this ⊢; omega)
  go_wp2_with fail
  clear x0
  refine c1.mono ?_
  rintro e w1 ⟨rfl, h1, ht1⟩
  have Z1 := touch_blk ht1 Zx hne
  have bel1 := bel0.trans (touch_below ht1 hg (Nat.le_trans hB bel0.size))
  clear c1 h Zx bel0 ht1
  have c2 := g16 (R := p2 X.ss ++ (p4 X.pr ++ (R))) X.st h1 HO.out.st.1 HO.out.st.2 (by have := hl; simp only [ByteArray.size_append] at this ⊢; omega)
  go_wp2_with fail
  refine c2.mono ?_
  rintro e w2 ⟨rfl, h2, ht2⟩
  have Z2 := touch_blk ht2 Z1 hne
  have bel2 := bel1.trans (touch_below ht2 hg (Nat.le_trans hB bel1.size))
  clear c2 h1 Z1 bel1 ht2
  have c3 := g16 (R := p4 X.pr ++ (R)) X.ss h2 HO.out.ss.1 HO.out.ss.2 (by have := hl; simp only [ByteArray.size_append] at this ⊢; omega)
  go_wp2_with fail
  refine c3.mono ?_
  rintro e w3 ⟨rfl, h3, ht3⟩
  have Z3 := touch_blk ht3 Z2 hne
  have bel3 := bel2.trans (touch_below ht3 hg (Nat.le_trans hB bel2.size))
  clear c3 h2 Z2 bel2 ht3
  have c4 := g32 (R := R) X.pr h3 HW.out.pr.1 HW.out.pr.2 (by have := hl; simp only [ByteArray.size_append] at this ⊢; omega)
  go_wp2_with fail
  refine c4.mono ?_
  rintro e w4 ⟨rfl, h4, ht4⟩
  have Z4 := touch_blk ht4 Z3 hne
  have bel4 := bel3.trans (touch_below ht4 hg (Nat.le_trans hB bel3.size))
  clear c4 h3 Z3 bel3 ht4
  have CC := fun i => Z4.cell i
  have FF := fun i => Z4.frozen i
  unfold baseC at CC FF
  go_wp2_with fail
  go_end0
  have hfin : numC X (.slice none 0 0) (.slice none 0 0) = #[.int .i64 X.ty, .int .i64 X.fl, .int .u32 X.tsn, .int .i64 X.st, .int .i64 X.ss, .int .u32 X.pr, .string ⟨#[]⟩, .int .u32 0, .int .u32 0, .int .i64 0, .int .i64 0, .slice none 0 0, .slice none 0 0, .slice none 0 0, .slice none 0 0] := by unfold numC; rw [HZ.out.1, HZ.out.2.1, HZ.out.2.2.1, HZ.out.2.2.2]
  refine ⟨rfl, (.slice none 0 0), (.slice none 0 0), (Blk.far (Blk.far (Blk.far (Blk.far h4 (p := ⟨cb, 2, none⟩) (show g ≠ cb from Ne.symm hne) (.int .u32 X.tsn)) (p := ⟨cb, 3, none⟩) (show g ≠ cb from Ne.symm hne) (.int .i64 X.st)) (p := ⟨cb, 4, none⟩) (show g ≠ cb from Ne.symm hne) (.int .i64 X.ss)) (p := ⟨cb, 5, none⟩) (show g ≠ cb from Ne.symm hne) (.int .u32 X.pr)), ?_, ?_, ?_, ((((((((bel4).setCell (p := ⟨cb, 2, none⟩) hc (.int .u32 X.tsn))).setCell (p := ⟨cb, 3, none⟩) hc (.int .i64 X.st))).setCell (p := ⟨cb, 4, none⟩) hc (.int .i64 X.ss))).setCell (p := ⟨cb, 5, none⟩) hc (.int .u32 X.pr))⟩
  · rw [hfin]; exact (Blk.set_ (Blk.set_ (Blk.set_ (Blk.set_ Z4 2 (.int .u32 X.tsn)) 3 (.int .i64 X.st)) 4 (.int .i64 X.ss)) 5 (.int .u32 X.pr))
  · rw [HGD.out.1]; exact Qo.nil _ _ _
  · rw [HGD.out.2]; exact Qo.nil _ _ _
set_option maxHeartbeats 4000000 in
theorem numbers_1 {X : Ck} {w : World} {B g cb : Nat} {R : ByteArray} (HT : X.ty = 1) (H : CkOk X) (HWx : CkW X) (h : RD w g (numF X ++ R) 0) (hR : kindV X.ty = 3 → R = ByteArray.empty) (hl : (numF X ++ R).size ≤ 60000) (Zx : Blk w cb 28 (baseC X)) (hne : cb ≠ g) (hg : B ≤ g) (hc : B ≤ cb) (hB : B ≤ w.heap.size) : Calls Try.prog 58 #[.pointer (some ⟨g, 0, none⟩), .pointer (some ⟨cb, 0, none⟩)] w fun e w' => e = .returned (.tuple #[]) ∧ NumPost X R g cb B w w' := by
  have hk : kindV X.ty = 1 := by rw [HT]; rfl
  have e0 : (X.ty == 0) = false := by rw [HT]; rfl
  have e1 : (X.ty == 1) = true := by rw [HT]; rfl
  have e2 : (X.ty == 2) = false := by rw [HT]; rfl
  have e3 : (X.ty == 3) = false := by rw [HT]; rfl
  have e7 : (X.ty == 7) = false := by rw [HT]; rfl
  have e193 : (X.ty == 193) = false := by rw [HT]; rfl
  have e128 : (X.ty == 128) = false := by rw [HT]; rfl
  have e130 : (X.ty == 130) = false := by rw [HT]; rfl
  have e15 : (X.ty == 15) = false := by rw [HT]; rfl
  have hnf : numF X ++ R = p4 X.tg ++ (p4 X.rw ++ (p2 X.ou ++ (p2 X.ii ++ (p4 X.tsn ++ (R))))) := by unfold numF; rw [hk]; simp [ByteArray.append_assoc]
  rw [hnf] at h hl
  have HO := Lib.hid H
  have HW := Lib.hid HWx
  have hgl := Blk.lt h
  have hcl := Zx.lt
  have HZ := Lib.hid (And.intro ((HO.out.z.1.2.1 (by rw [hk]; decide) (by rw [hk]; decide)).1) ( And.intro ((HO.out.z.1.2.1 (by rw [hk]; decide) (by rw [hk]; decide)).2) (HO.out.z.1.2.2.1 (by rw [hk]; decide))))
  clear HT H HWx hR hnf
  have hGD := HO.out.z.2.2.2.2 (by rw [hk]; decide)
  have HGD := Lib.hid (And.intro (List.length_eq_zero_iff.1 hGD.1) (List.length_eq_zero_iff.1 hGD.2))
  clear hGD
  have bel0 : Below B w w := Below.refl _ _
  have C0 := fun i => Zx.cell i
  unfold baseC at C0
  go_enter Try.func58, Try.ntmps58
  have x0 : w.cell? ⟨cb, 0, none⟩ = some (.int .i64 X.ty) := Zx.cell 0
  clear C0
  have c1 := g32 (R := p4 X.rw ++ (p2 X.ou ++ (p2 X.ii ++ (p4 X.tsn ++ (R))))) X.tg h HW.out.tg.1 HW.out.tg.2 (by have := hl; simp only [ByteArray.size_append] at this ⊢; omega)
  go_wp2_with fail
  clear x0
  refine c1.mono ?_
  rintro e w1 ⟨rfl, h1, ht1⟩
  have Z1 := touch_blk ht1 Zx hne
  have bel1 := bel0.trans (touch_below ht1 hg (Nat.le_trans hB bel0.size))
  clear c1 h Zx bel0 ht1
  have c2 := g32 (R := p2 X.ou ++ (p2 X.ii ++ (p4 X.tsn ++ (R)))) X.rw h1 HW.out.rw.1 HW.out.rw.2 (by have := hl; simp only [ByteArray.size_append] at this ⊢; omega)
  go_wp2_with fail
  refine c2.mono ?_
  rintro e w2 ⟨rfl, h2, ht2⟩
  have Z2 := touch_blk ht2 Z1 hne
  have bel2 := bel1.trans (touch_below ht2 hg (Nat.le_trans hB bel1.size))
  clear c2 h1 Z1 bel1 ht2
  have c3 := g16 (R := p2 X.ii ++ (p4 X.tsn ++ (R))) X.ou h2 HO.out.ou.1 HO.out.ou.2 (by have := hl; simp only [ByteArray.size_append] at this ⊢; omega)
  go_wp2_with fail
  refine c3.mono ?_
  rintro e w3 ⟨rfl, h3, ht3⟩
  have Z3 := touch_blk ht3 Z2 hne
  have bel3 := bel2.trans (touch_below ht3 hg (Nat.le_trans hB bel2.size))
  clear c3 h2 Z2 bel2 ht3
  have c4 := g16 (R := p4 X.tsn ++ (R)) X.ii h3 HO.out.ii.1 HO.out.ii.2 (by have := hl; simp only [ByteArray.size_append] at this ⊢; omega)
  go_wp2_with fail
  refine c4.mono ?_
  rintro e w4 ⟨rfl, h4, ht4⟩
  have Z4 := touch_blk ht4 Z3 hne
  have bel4 := bel3.trans (touch_below ht4 hg (Nat.le_trans hB bel3.size))
  clear c4 h3 Z3 bel3 ht4
  have c5 := g32 (R := R) X.tsn h4 HW.out.tsn.1 HW.out.tsn.2 (by have := hl; simp only [ByteArray.size_append] at this ⊢; omega)
  go_wp2_with fail
  refine c5.mono ?_
  rintro e w5 ⟨rfl, h5, ht5⟩
  have Z5 := touch_blk ht5 Z4 hne
  have bel5 := bel4.trans (touch_below ht5 hg (Nat.le_trans hB bel4.size))
  clear c5 h4 Z4 bel4 ht5
  have CC := fun i => Z5.cell i
  have FF := fun i => Z5.frozen i
  unfold baseC at CC FF
  go_wp2_with fail
  go_end0
  have hfin : numC X (.slice none 0 0) (.slice none 0 0) = #[.int .i64 X.ty, .int .i64 X.fl, .int .u32 X.tsn, .int .i64 0, .int .i64 0, .int .u32 0, .string ⟨#[]⟩, .int .u32 X.tg, .int .u32 X.rw, .int .i64 X.ou, .int .i64 X.ii, .slice none 0 0, .slice none 0 0, .slice none 0 0, .slice none 0 0] := by unfold numC; rw [HZ.out.1, HZ.out.2.1, HZ.out.2.2]
  refine ⟨rfl, (.slice none 0 0), (.slice none 0 0), (Blk.far (Blk.far (Blk.far (Blk.far (Blk.far h5 (p := ⟨cb, 7, none⟩) (show g ≠ cb from Ne.symm hne) (.int .u32 X.tg)) (p := ⟨cb, 8, none⟩) (show g ≠ cb from Ne.symm hne) (.int .u32 X.rw)) (p := ⟨cb, 9, none⟩) (show g ≠ cb from Ne.symm hne) (.int .i64 X.ou)) (p := ⟨cb, 10, none⟩) (show g ≠ cb from Ne.symm hne) (.int .i64 X.ii)) (p := ⟨cb, 2, none⟩) (show g ≠ cb from Ne.symm hne) (.int .u32 X.tsn)), ?_, ?_, ?_, ((((((((((bel5).setCell (p := ⟨cb, 7, none⟩) hc (.int .u32 X.tg))).setCell (p := ⟨cb, 8, none⟩) hc (.int .u32 X.rw))).setCell (p := ⟨cb, 9, none⟩) hc (.int .i64 X.ou))).setCell (p := ⟨cb, 10, none⟩) hc (.int .i64 X.ii))).setCell (p := ⟨cb, 2, none⟩) hc (.int .u32 X.tsn))⟩
  · rw [hfin]; exact (Blk.set_ (Blk.set_ (Blk.set_ (Blk.set_ (Blk.set_ Z5 7 (.int .u32 X.tg)) 8 (.int .u32 X.rw)) 9 (.int .i64 X.ou)) 10 (.int .i64 X.ii)) 2 (.int .u32 X.tsn))
  · rw [HGD.out.1]; exact Qo.nil _ _ _
  · rw [HGD.out.2]; exact Qo.nil _ _ _
set_option maxHeartbeats 4000000 in
theorem numbers_2 {X : Ck} {w : World} {B g cb : Nat} {R : ByteArray} (HT : X.ty = 2) (H : CkOk X) (HWx : CkW X) (h : RD w g (numF X ++ R) 0) (hR : kindV X.ty = 3 → R = ByteArray.empty) (hl : (numF X ++ R).size ≤ 60000) (Zx : Blk w cb 28 (baseC X)) (hne : cb ≠ g) (hg : B ≤ g) (hc : B ≤ cb) (hB : B ≤ w.heap.size) : Calls Try.prog 58 #[.pointer (some ⟨g, 0, none⟩), .pointer (some ⟨cb, 0, none⟩)] w fun e w' => e = .returned (.tuple #[]) ∧ NumPost X R g cb B w w' := by
  have hk : kindV X.ty = 1 := by rw [HT]; rfl
  have e0 : (X.ty == 0) = false := by rw [HT]; rfl
  have e1 : (X.ty == 1) = false := by rw [HT]; rfl
  have e2 : (X.ty == 2) = true := by rw [HT]; rfl
  have e3 : (X.ty == 3) = false := by rw [HT]; rfl
  have e7 : (X.ty == 7) = false := by rw [HT]; rfl
  have e193 : (X.ty == 193) = false := by rw [HT]; rfl
  have e128 : (X.ty == 128) = false := by rw [HT]; rfl
  have e130 : (X.ty == 130) = false := by rw [HT]; rfl
  have e15 : (X.ty == 15) = false := by rw [HT]; rfl
  have hnf : numF X ++ R = p4 X.tg ++ (p4 X.rw ++ (p2 X.ou ++ (p2 X.ii ++ (p4 X.tsn ++ (R))))) := by unfold numF; rw [hk]; simp [ByteArray.append_assoc]
  rw [hnf] at h hl
  have HO := Lib.hid H
  have HW := Lib.hid HWx
  have hgl := Blk.lt h
  have hcl := Zx.lt
  have HZ := Lib.hid (And.intro ((HO.out.z.1.2.1 (by rw [hk]; decide) (by rw [hk]; decide)).1) ( And.intro ((HO.out.z.1.2.1 (by rw [hk]; decide) (by rw [hk]; decide)).2) (HO.out.z.1.2.2.1 (by rw [hk]; decide))))
  clear HT H HWx hR hnf
  have hGD := HO.out.z.2.2.2.2 (by rw [hk]; decide)
  have HGD := Lib.hid (And.intro (List.length_eq_zero_iff.1 hGD.1) (List.length_eq_zero_iff.1 hGD.2))
  clear hGD
  have bel0 : Below B w w := Below.refl _ _
  have C0 := fun i => Zx.cell i
  unfold baseC at C0
  go_enter Try.func58, Try.ntmps58
  have x0 : w.cell? ⟨cb, 0, none⟩ = some (.int .i64 X.ty) := Zx.cell 0
  clear C0
  have c1 := g32 (R := p4 X.rw ++ (p2 X.ou ++ (p2 X.ii ++ (p4 X.tsn ++ (R))))) X.tg h HW.out.tg.1 HW.out.tg.2 (by have := hl; simp only [ByteArray.size_append] at this ⊢; omega)
  go_wp2_with fail
  clear x0
  refine c1.mono ?_
  rintro e w1 ⟨rfl, h1, ht1⟩
  have Z1 := touch_blk ht1 Zx hne
  have bel1 := bel0.trans (touch_below ht1 hg (Nat.le_trans hB bel0.size))
  clear c1 h Zx bel0 ht1
  have c2 := g32 (R := p2 X.ou ++ (p2 X.ii ++ (p4 X.tsn ++ (R)))) X.rw h1 HW.out.rw.1 HW.out.rw.2 (by have := hl; simp only [ByteArray.size_append] at this ⊢; omega)
  go_wp2_with fail
  refine c2.mono ?_
  rintro e w2 ⟨rfl, h2, ht2⟩
  have Z2 := touch_blk ht2 Z1 hne
  have bel2 := bel1.trans (touch_below ht2 hg (Nat.le_trans hB bel1.size))
  clear c2 h1 Z1 bel1 ht2
  have c3 := g16 (R := p2 X.ii ++ (p4 X.tsn ++ (R))) X.ou h2 HO.out.ou.1 HO.out.ou.2 (by have := hl; simp only [ByteArray.size_append] at this ⊢; omega)
  go_wp2_with fail
  refine c3.mono ?_
  rintro e w3 ⟨rfl, h3, ht3⟩
  have Z3 := touch_blk ht3 Z2 hne
  have bel3 := bel2.trans (touch_below ht3 hg (Nat.le_trans hB bel2.size))
  clear c3 h2 Z2 bel2 ht3
  have c4 := g16 (R := p4 X.tsn ++ (R)) X.ii h3 HO.out.ii.1 HO.out.ii.2 (by have := hl; simp only [ByteArray.size_append] at this ⊢; omega)
  go_wp2_with fail
  refine c4.mono ?_
  rintro e w4 ⟨rfl, h4, ht4⟩
  have Z4 := touch_blk ht4 Z3 hne
  have bel4 := bel3.trans (touch_below ht4 hg (Nat.le_trans hB bel3.size))
  clear c4 h3 Z3 bel3 ht4
  have c5 := g32 (R := R) X.tsn h4 HW.out.tsn.1 HW.out.tsn.2 (by have := hl; simp only [ByteArray.size_append] at this ⊢; omega)
  go_wp2_with fail
  refine c5.mono ?_
  rintro e w5 ⟨rfl, h5, ht5⟩
  have Z5 := touch_blk ht5 Z4 hne
  have bel5 := bel4.trans (touch_below ht5 hg (Nat.le_trans hB bel4.size))
  clear c5 h4 Z4 bel4 ht5
  have CC := fun i => Z5.cell i
  have FF := fun i => Z5.frozen i
  unfold baseC at CC FF
  go_wp2_with fail
  go_end0
  have hfin : numC X (.slice none 0 0) (.slice none 0 0) = #[.int .i64 X.ty, .int .i64 X.fl, .int .u32 X.tsn, .int .i64 0, .int .i64 0, .int .u32 0, .string ⟨#[]⟩, .int .u32 X.tg, .int .u32 X.rw, .int .i64 X.ou, .int .i64 X.ii, .slice none 0 0, .slice none 0 0, .slice none 0 0, .slice none 0 0] := by unfold numC; rw [HZ.out.1, HZ.out.2.1, HZ.out.2.2]
  refine ⟨rfl, (.slice none 0 0), (.slice none 0 0), (Blk.far (Blk.far (Blk.far (Blk.far (Blk.far h5 (p := ⟨cb, 7, none⟩) (show g ≠ cb from Ne.symm hne) (.int .u32 X.tg)) (p := ⟨cb, 8, none⟩) (show g ≠ cb from Ne.symm hne) (.int .u32 X.rw)) (p := ⟨cb, 9, none⟩) (show g ≠ cb from Ne.symm hne) (.int .i64 X.ou)) (p := ⟨cb, 10, none⟩) (show g ≠ cb from Ne.symm hne) (.int .i64 X.ii)) (p := ⟨cb, 2, none⟩) (show g ≠ cb from Ne.symm hne) (.int .u32 X.tsn)), ?_, ?_, ?_, ((((((((((bel5).setCell (p := ⟨cb, 7, none⟩) hc (.int .u32 X.tg))).setCell (p := ⟨cb, 8, none⟩) hc (.int .u32 X.rw))).setCell (p := ⟨cb, 9, none⟩) hc (.int .i64 X.ou))).setCell (p := ⟨cb, 10, none⟩) hc (.int .i64 X.ii))).setCell (p := ⟨cb, 2, none⟩) hc (.int .u32 X.tsn))⟩
  · rw [hfin]; exact (Blk.set_ (Blk.set_ (Blk.set_ (Blk.set_ (Blk.set_ Z5 7 (.int .u32 X.tg)) 8 (.int .u32 X.rw)) 9 (.int .i64 X.ou)) 10 (.int .i64 X.ii)) 2 (.int .u32 X.tsn))
  · rw [HGD.out.1]; exact Qo.nil _ _ _
  · rw [HGD.out.2]; exact Qo.nil _ _ _
set_option maxHeartbeats 4000000 in
theorem numbers_3 {X : Ck} {w : World} {B g cb : Nat} {R : ByteArray} (HT : X.ty = 3) (H : CkOk X) (HWx : CkW X) (h : RD w g (numF X ++ R) 0) (hR : kindV X.ty = 3 → R = ByteArray.empty) (hl : (numF X ++ R).size ≤ 60000) (Zx : Blk w cb 28 (baseC X)) (hne : cb ≠ g) (hg : B ≤ g) (hc : B ≤ cb) (hB : B ≤ w.heap.size) : Calls Try.prog 58 #[.pointer (some ⟨g, 0, none⟩), .pointer (some ⟨cb, 0, none⟩)] w fun e w' => e = .returned (.tuple #[]) ∧ NumPost X R g cb B w w' := by
  have hk : kindV X.ty = 3 := by rw [HT]; rfl
  have e0 : (X.ty == 0) = false := by rw [HT]; rfl
  have e1 : (X.ty == 1) = false := by rw [HT]; rfl
  have e2 : (X.ty == 2) = false := by rw [HT]; rfl
  have e3 : (X.ty == 3) = true := by rw [HT]; rfl
  have e7 : (X.ty == 7) = false := by rw [HT]; rfl
  have e193 : (X.ty == 193) = false := by rw [HT]; rfl
  have e128 : (X.ty == 128) = false := by rw [HT]; rfl
  have e130 : (X.ty == 130) = false := by rw [HT]; rfl
  have e15 : (X.ty == 15) = false := by rw [HT]; rfl
  obtain rfl := hR hk
  have hnf : numF X ++ ByteArray.empty = p4 X.tsn ++ (p4 X.rw ++ (p2 (X.G.length : Nat) ++ (p2 (X.D.length : Nat) ++ (catG X.G ++ catD X.D)))) := by unfold numF; rw [hk]; simp [ByteArray.append_assoc]
  rw [hnf] at h hl
  have HO := Lib.hid H
  have HW := Lib.hid HWx
  have hgl := Blk.lt h
  have hcl := Zx.lt
  have HZ := Lib.hid (And.intro ((HO.out.z.1.2.1 (by rw [hk]; decide) (by rw [hk]; decide)).1) ( And.intro ((HO.out.z.1.2.1 (by rw [hk]; decide) (by rw [hk]; decide)).2) ( And.intro (HO.out.z.1.2.2.1 (by rw [hk]; decide)) ( And.intro ((HO.out.z.2.1.1 (by rw [hk]; decide)).1) ( And.intro ((HO.out.z.2.1.1 (by rw [hk]; decide)).2.1) ((HO.out.z.2.1.1 (by rw [hk]; decide)).2.2))))))
  clear HT H HWx hR hnf
  have bel0 : Below B w w := Below.refl _ _
  have C0 := fun i => Zx.cell i
  unfold baseC at C0
  go_enter Try.func58, Try.ntmps58
  have x0 : w.cell? ⟨cb, 0, none⟩ = some (.int .i64 X.ty) := Zx.cell 0
  clear C0
  have c1 := g32 (R := p4 X.rw ++ (p2 (X.G.length : Nat) ++ (p2 (X.D.length : Nat) ++ (catG X.G ++ catD X.D)))) X.tsn h HW.out.tsn.1 HW.out.tsn.2 (by have := hl; simp only [ByteArray.size_append] at this ⊢; omega)
  go_wp2_with fail
  clear x0
  refine c1.mono ?_
  rintro e w1 ⟨rfl, h1, ht1⟩
  have Z1 := touch_blk ht1 Zx hne
  have bel1 := bel0.trans (touch_below ht1 hg (Nat.le_trans hB bel0.size))
  clear c1 h Zx bel0 ht1
  have c2 := g32 (R := p2 (X.G.length : Nat) ++ (p2 (X.D.length : Nat) ++ (catG X.G ++ catD X.D))) X.rw h1 HW.out.rw.1 HW.out.rw.2 (by have := hl; simp only [ByteArray.size_append] at this ⊢; omega)
  go_wp2_with fail
  refine c2.mono ?_
  rintro e w2 ⟨rfl, h2, ht2⟩
  have Z2 := touch_blk ht2 Z1 hne
  have bel2 := bel1.trans (touch_below ht2 hg (Nat.le_trans hB bel1.size))
  clear c2 h1 Z1 bel1 ht2
  have CC := fun i => Z2.cell i
  have FF := fun i => Z2.frozen i
  unfold baseC at CC FF
  have hfin : numC X (.slice none 0 0) (.slice none 0 0) = #[.int .i64 X.ty, .int .i64 X.fl, .int .u32 X.tsn, .int .i64 0, .int .i64 0, .int .u32 0, .string ⟨#[]⟩, .int .u32 0, .int .u32 X.rw, .int .i64 0, .int .i64 0, .slice none 0 0, .slice none 0 0, .slice none 0 0, .slice none 0 0] := by unfold numC; rw [HZ.out.1, HZ.out.2.1, HZ.out.2.2.1, HZ.out.2.2.2.1, HZ.out.2.2.2.2.1, HZ.out.2.2.2.2.2]
  have ZP : Blk ((w2.setCell ⟨cb, 2, none⟩ (.int .u32 X.tsn)).setCell ⟨cb, 8, none⟩ (.int .u32 X.rw)) cb 28 (numC X (.slice none 0 0) (.slice none 0 0)) := by rw [hfin]; exact (Blk.set_ (Blk.set_ Z2 2 (.int .u32 X.tsn)) 8 (.int .u32 X.rw))
  have cp := parts_any HO.out HW.out (Blk.far (Blk.far h2 (p := ⟨cb, 2, none⟩) (show g ≠ cb from Ne.symm hne) (.int .u32 X.tsn)) (p := ⟨cb, 8, none⟩) (show g ≠ cb from Ne.symm hne) (.int .u32 X.rw)) ZP hne hg hc (Nat.le_trans hB (((((bel2).setCell (p := ⟨cb, 2, none⟩) hc (.int .u32 X.tsn))).setCell (p := ⟨cb, 8, none⟩) hc (.int .u32 X.rw))).size)
  have belp := ((((bel2).setCell (p := ⟨cb, 2, none⟩) hc (.int .u32 X.tsn))).setCell (p := ⟨cb, 8, none⟩) hc (.int .u32 X.rw))
  go_wp2_with fail
  refine cp.mono ?_
  rintro e w9 ⟨rfl, vG, vD, r9, z9, q9, d9, b9⟩
  have HE := Lib.hid (And.intro r9 (And.intro z9 (And.intro q9 (And.intro d9 (belp.trans b9)))))
  have hsz := bel2.size
  clear r9 z9 q9 d9 b9 belp ZP cp CC FF Z2 h2 bel2
  go_wp2_with fail
  go_end0
  have hs2 : w.heap.size ≤ ((w2.setCell ⟨cb, 2, none⟩ (.int .u32 X.tsn)).setCell ⟨cb, 8, none⟩ (.int .u32 X.rw)).heap.size := by simp [World.setCell]; exact hsz
  exact ⟨rfl, vG, vD, HE.out.1, HE.out.2.1, HE.out.2.2.1.weaken hs2, HE.out.2.2.2.1.weaken hs2, HE.out.2.2.2.2⟩
set_option maxHeartbeats 4000000 in
theorem numbers_7 {X : Ck} {w : World} {B g cb : Nat} {R : ByteArray} (HT : X.ty = 7) (H : CkOk X) (HWx : CkW X) (h : RD w g (numF X ++ R) 0) (hR : kindV X.ty = 3 → R = ByteArray.empty) (hl : (numF X ++ R).size ≤ 60000) (Zx : Blk w cb 28 (baseC X)) (hne : cb ≠ g) (hg : B ≤ g) (hc : B ≤ cb) (hB : B ≤ w.heap.size) : Calls Try.prog 58 #[.pointer (some ⟨g, 0, none⟩), .pointer (some ⟨cb, 0, none⟩)] w fun e w' => e = .returned (.tuple #[]) ∧ NumPost X R g cb B w w' := by
  have hk : kindV X.ty = 7 := by rw [HT]; rfl
  have e0 : (X.ty == 0) = false := by rw [HT]; rfl
  have e1 : (X.ty == 1) = false := by rw [HT]; rfl
  have e2 : (X.ty == 2) = false := by rw [HT]; rfl
  have e3 : (X.ty == 3) = false := by rw [HT]; rfl
  have e7 : (X.ty == 7) = true := by rw [HT]; rfl
  have e193 : (X.ty == 193) = false := by rw [HT]; rfl
  have e128 : (X.ty == 128) = false := by rw [HT]; rfl
  have e130 : (X.ty == 130) = false := by rw [HT]; rfl
  have e15 : (X.ty == 15) = false := by rw [HT]; rfl
  have hnf : numF X ++ R = p4 X.tsn ++ (R) := by unfold numF; rw [hk]; simp [ByteArray.append_assoc]
  rw [hnf] at h hl
  have HO := Lib.hid H
  have HW := Lib.hid HWx
  have hgl := Blk.lt h
  have hcl := Zx.lt
  have HZ := Lib.hid (And.intro ((HO.out.z.1.2.1 (by rw [hk]; decide) (by rw [hk]; decide)).1) ( And.intro ((HO.out.z.1.2.1 (by rw [hk]; decide) (by rw [hk]; decide)).2) ( And.intro (HO.out.z.1.2.2.1 (by rw [hk]; decide)) ( And.intro ((HO.out.z.2.1.1 (by rw [hk]; decide)).1) ( And.intro ((HO.out.z.2.1.1 (by rw [hk]; decide)).2.1) ( And.intro ((HO.out.z.2.1.1 (by rw [hk]; decide)).2.2) (HO.out.z.2.1.2 (by rw [hk]; decide) (by rw [hk]; decide))))))))
  clear HT H HWx hR hnf
  have hGD := HO.out.z.2.2.2.2 (by rw [hk]; decide)
  have HGD := Lib.hid (And.intro (List.length_eq_zero_iff.1 hGD.1) (List.length_eq_zero_iff.1 hGD.2))
  clear hGD
  have bel0 : Below B w w := Below.refl _ _
  have C0 := fun i => Zx.cell i
  unfold baseC at C0
  go_enter Try.func58, Try.ntmps58
  have x0 : w.cell? ⟨cb, 0, none⟩ = some (.int .i64 X.ty) := Zx.cell 0
  clear C0
  have c1 := g32 (R := R) X.tsn h HW.out.tsn.1 HW.out.tsn.2 (by have := hl; simp only [ByteArray.size_append] at this ⊢; omega)
  go_wp2_with fail
  clear x0
  refine c1.mono ?_
  rintro e w1 ⟨rfl, h1, ht1⟩
  have Z1 := touch_blk ht1 Zx hne
  have bel1 := bel0.trans (touch_below ht1 hg (Nat.le_trans hB bel0.size))
  clear c1 h Zx bel0 ht1
  have CC := fun i => Z1.cell i
  have FF := fun i => Z1.frozen i
  unfold baseC at CC FF
  go_wp2_with fail
  go_end0
  have hfin : numC X (.slice none 0 0) (.slice none 0 0) = #[.int .i64 X.ty, .int .i64 X.fl, .int .u32 X.tsn, .int .i64 0, .int .i64 0, .int .u32 0, .string ⟨#[]⟩, .int .u32 0, .int .u32 0, .int .i64 0, .int .i64 0, .slice none 0 0, .slice none 0 0, .slice none 0 0, .slice none 0 0] := by unfold numC; rw [HZ.out.1, HZ.out.2.1, HZ.out.2.2.1, HZ.out.2.2.2.1, HZ.out.2.2.2.2.1, HZ.out.2.2.2.2.2.1, HZ.out.2.2.2.2.2.2]
  refine ⟨rfl, (.slice none 0 0), (.slice none 0 0), (Blk.far h1 (p := ⟨cb, 2, none⟩) (show g ≠ cb from Ne.symm hne) (.int .u32 X.tsn)), ?_, ?_, ?_, ((bel1).setCell (p := ⟨cb, 2, none⟩) hc (.int .u32 X.tsn))⟩
  · rw [hfin]; exact (Blk.set_ Z1 2 (.int .u32 X.tsn))
  · rw [HGD.out.1]; exact Qo.nil _ _ _
  · rw [HGD.out.2]; exact Qo.nil _ _ _
set_option maxHeartbeats 4000000 in
theorem numbers_193 {X : Ck} {w : World} {B g cb : Nat} {R : ByteArray} (HT : X.ty = 193) (H : CkOk X) (HWx : CkW X) (h : RD w g (numF X ++ R) 0) (hR : kindV X.ty = 3 → R = ByteArray.empty) (hl : (numF X ++ R).size ≤ 60000) (Zx : Blk w cb 28 (baseC X)) (hne : cb ≠ g) (hg : B ≤ g) (hc : B ≤ cb) (hB : B ≤ w.heap.size) : Calls Try.prog 58 #[.pointer (some ⟨g, 0, none⟩), .pointer (some ⟨cb, 0, none⟩)] w fun e w' => e = .returned (.tuple #[]) ∧ NumPost X R g cb B w w' := by
  have hk : kindV X.ty = 16 := by rw [HT]; rfl
  have e0 : (X.ty == 0) = false := by rw [HT]; rfl
  have e1 : (X.ty == 1) = false := by rw [HT]; rfl
  have e2 : (X.ty == 2) = false := by rw [HT]; rfl
  have e3 : (X.ty == 3) = false := by rw [HT]; rfl
  have e7 : (X.ty == 7) = false := by rw [HT]; rfl
  have e193 : (X.ty == 193) = true := by rw [HT]; rfl
  have e128 : (X.ty == 128) = false := by rw [HT]; rfl
  have e130 : (X.ty == 130) = false := by rw [HT]; rfl
  have e15 : (X.ty == 15) = false := by rw [HT]; rfl
  have hnf : numF X ++ R = p4 X.tsn ++ (R) := by unfold numF; rw [hk]; simp [ByteArray.append_assoc]
  rw [hnf] at h hl
  have HO := Lib.hid H
  have HW := Lib.hid HWx
  have hgl := Blk.lt h
  have hcl := Zx.lt
  have HZ := Lib.hid (And.intro ((HO.out.z.1.2.1 (by rw [hk]; decide) (by rw [hk]; decide)).1) ( And.intro ((HO.out.z.1.2.1 (by rw [hk]; decide) (by rw [hk]; decide)).2) ( And.intro (HO.out.z.1.2.2.1 (by rw [hk]; decide)) ( And.intro ((HO.out.z.2.1.1 (by rw [hk]; decide)).1) ( And.intro ((HO.out.z.2.1.1 (by rw [hk]; decide)).2.1) ( And.intro ((HO.out.z.2.1.1 (by rw [hk]; decide)).2.2) (HO.out.z.2.1.2 (by rw [hk]; decide) (by rw [hk]; decide))))))))
  clear HT H HWx hR hnf
  have hGD := HO.out.z.2.2.2.2 (by rw [hk]; decide)
  have HGD := Lib.hid (And.intro (List.length_eq_zero_iff.1 hGD.1) (List.length_eq_zero_iff.1 hGD.2))
  clear hGD
  have bel0 : Below B w w := Below.refl _ _
  have C0 := fun i => Zx.cell i
  unfold baseC at C0
  go_enter Try.func58, Try.ntmps58
  have x0 : w.cell? ⟨cb, 0, none⟩ = some (.int .i64 X.ty) := Zx.cell 0
  clear C0
  have c1 := g32 (R := R) X.tsn h HW.out.tsn.1 HW.out.tsn.2 (by have := hl; simp only [ByteArray.size_append] at this ⊢; omega)
  go_wp2_with fail
  clear x0
  refine c1.mono ?_
  rintro e w1 ⟨rfl, h1, ht1⟩
  have Z1 := touch_blk ht1 Zx hne
  have bel1 := bel0.trans (touch_below ht1 hg (Nat.le_trans hB bel0.size))
  clear c1 h Zx bel0 ht1
  have CC := fun i => Z1.cell i
  have FF := fun i => Z1.frozen i
  unfold baseC at CC FF
  go_wp2_with fail
  go_end0
  have hfin : numC X (.slice none 0 0) (.slice none 0 0) = #[.int .i64 X.ty, .int .i64 X.fl, .int .u32 X.tsn, .int .i64 0, .int .i64 0, .int .u32 0, .string ⟨#[]⟩, .int .u32 0, .int .u32 0, .int .i64 0, .int .i64 0, .slice none 0 0, .slice none 0 0, .slice none 0 0, .slice none 0 0] := by unfold numC; rw [HZ.out.1, HZ.out.2.1, HZ.out.2.2.1, HZ.out.2.2.2.1, HZ.out.2.2.2.2.1, HZ.out.2.2.2.2.2.1, HZ.out.2.2.2.2.2.2]
  refine ⟨rfl, (.slice none 0 0), (.slice none 0 0), (Blk.far h1 (p := ⟨cb, 2, none⟩) (show g ≠ cb from Ne.symm hne) (.int .u32 X.tsn)), ?_, ?_, ?_, ((bel1).setCell (p := ⟨cb, 2, none⟩) hc (.int .u32 X.tsn))⟩
  · rw [hfin]; exact (Blk.set_ Z1 2 (.int .u32 X.tsn))
  · rw [HGD.out.1]; exact Qo.nil _ _ _
  · rw [HGD.out.2]; exact Qo.nil _ _ _
set_option maxHeartbeats 4000000 in
theorem numbers_128 {X : Ck} {w : World} {B g cb : Nat} {R : ByteArray} (HT : X.ty = 128) (H : CkOk X) (HWx : CkW X) (h : RD w g (numF X ++ R) 0) (hR : kindV X.ty = 3 → R = ByteArray.empty) (hl : (numF X ++ R).size ≤ 60000) (Zx : Blk w cb 28 (baseC X)) (hne : cb ≠ g) (hg : B ≤ g) (hc : B ≤ cb) (hB : B ≤ w.heap.size) : Calls Try.prog 58 #[.pointer (some ⟨g, 0, none⟩), .pointer (some ⟨cb, 0, none⟩)] w fun e w' => e = .returned (.tuple #[]) ∧ NumPost X R g cb B w w' := by
  have hk : kindV X.ty = 16 := by rw [HT]; rfl
  have e0 : (X.ty == 0) = false := by rw [HT]; rfl
  have e1 : (X.ty == 1) = false := by rw [HT]; rfl
  have e2 : (X.ty == 2) = false := by rw [HT]; rfl
  have e3 : (X.ty == 3) = false := by rw [HT]; rfl
  have e7 : (X.ty == 7) = false := by rw [HT]; rfl
  have e193 : (X.ty == 193) = false := by rw [HT]; rfl
  have e128 : (X.ty == 128) = true := by rw [HT]; rfl
  have e130 : (X.ty == 130) = false := by rw [HT]; rfl
  have e15 : (X.ty == 15) = false := by rw [HT]; rfl
  have hnf : numF X ++ R = p4 X.tsn ++ (R) := by unfold numF; rw [hk]; simp [ByteArray.append_assoc]
  rw [hnf] at h hl
  have HO := Lib.hid H
  have HW := Lib.hid HWx
  have hgl := Blk.lt h
  have hcl := Zx.lt
  have HZ := Lib.hid (And.intro ((HO.out.z.1.2.1 (by rw [hk]; decide) (by rw [hk]; decide)).1) ( And.intro ((HO.out.z.1.2.1 (by rw [hk]; decide) (by rw [hk]; decide)).2) ( And.intro (HO.out.z.1.2.2.1 (by rw [hk]; decide)) ( And.intro ((HO.out.z.2.1.1 (by rw [hk]; decide)).1) ( And.intro ((HO.out.z.2.1.1 (by rw [hk]; decide)).2.1) ( And.intro ((HO.out.z.2.1.1 (by rw [hk]; decide)).2.2) (HO.out.z.2.1.2 (by rw [hk]; decide) (by rw [hk]; decide))))))))
  clear HT H HWx hR hnf
  have hGD := HO.out.z.2.2.2.2 (by rw [hk]; decide)
  have HGD := Lib.hid (And.intro (List.length_eq_zero_iff.1 hGD.1) (List.length_eq_zero_iff.1 hGD.2))
  clear hGD
  have bel0 : Below B w w := Below.refl _ _
  have C0 := fun i => Zx.cell i
  unfold baseC at C0
  go_enter Try.func58, Try.ntmps58
  have x0 : w.cell? ⟨cb, 0, none⟩ = some (.int .i64 X.ty) := Zx.cell 0
  clear C0
  have c1 := g32 (R := R) X.tsn h HW.out.tsn.1 HW.out.tsn.2 (by have := hl; simp only [ByteArray.size_append] at this ⊢; omega)
  go_wp2_with fail
  clear x0
  refine c1.mono ?_
  rintro e w1 ⟨rfl, h1, ht1⟩
  have Z1 := touch_blk ht1 Zx hne
  have bel1 := bel0.trans (touch_below ht1 hg (Nat.le_trans hB bel0.size))
  clear c1 h Zx bel0 ht1
  have CC := fun i => Z1.cell i
  have FF := fun i => Z1.frozen i
  unfold baseC at CC FF
  go_wp2_with fail
  go_end0
  have hfin : numC X (.slice none 0 0) (.slice none 0 0) = #[.int .i64 X.ty, .int .i64 X.fl, .int .u32 X.tsn, .int .i64 0, .int .i64 0, .int .u32 0, .string ⟨#[]⟩, .int .u32 0, .int .u32 0, .int .i64 0, .int .i64 0, .slice none 0 0, .slice none 0 0, .slice none 0 0, .slice none 0 0] := by unfold numC; rw [HZ.out.1, HZ.out.2.1, HZ.out.2.2.1, HZ.out.2.2.2.1, HZ.out.2.2.2.2.1, HZ.out.2.2.2.2.2.1, HZ.out.2.2.2.2.2.2]
  refine ⟨rfl, (.slice none 0 0), (.slice none 0 0), (Blk.far h1 (p := ⟨cb, 2, none⟩) (show g ≠ cb from Ne.symm hne) (.int .u32 X.tsn)), ?_, ?_, ?_, ((bel1).setCell (p := ⟨cb, 2, none⟩) hc (.int .u32 X.tsn))⟩
  · rw [hfin]; exact (Blk.set_ Z1 2 (.int .u32 X.tsn))
  · rw [HGD.out.1]; exact Qo.nil _ _ _
  · rw [HGD.out.2]; exact Qo.nil _ _ _
set_option maxHeartbeats 4000000 in
theorem numbers_130 {X : Ck} {w : World} {B g cb : Nat} {R : ByteArray} (HT : X.ty = 130) (H : CkOk X) (HWx : CkW X) (h : RD w g (numF X ++ R) 0) (hR : kindV X.ty = 3 → R = ByteArray.empty) (hl : (numF X ++ R).size ≤ 60000) (Zx : Blk w cb 28 (baseC X)) (hne : cb ≠ g) (hg : B ≤ g) (hc : B ≤ cb) (hB : B ≤ w.heap.size) : Calls Try.prog 58 #[.pointer (some ⟨g, 0, none⟩), .pointer (some ⟨cb, 0, none⟩)] w fun e w' => e = .returned (.tuple #[]) ∧ NumPost X R g cb B w w' := by
  have hk : kindV X.ty = 16 := by rw [HT]; rfl
  have e0 : (X.ty == 0) = false := by rw [HT]; rfl
  have e1 : (X.ty == 1) = false := by rw [HT]; rfl
  have e2 : (X.ty == 2) = false := by rw [HT]; rfl
  have e3 : (X.ty == 3) = false := by rw [HT]; rfl
  have e7 : (X.ty == 7) = false := by rw [HT]; rfl
  have e193 : (X.ty == 193) = false := by rw [HT]; rfl
  have e128 : (X.ty == 128) = false := by rw [HT]; rfl
  have e130 : (X.ty == 130) = true := by rw [HT]; rfl
  have e15 : (X.ty == 15) = false := by rw [HT]; rfl
  have hnf : numF X ++ R = p4 X.tsn ++ (R) := by unfold numF; rw [hk]; simp [ByteArray.append_assoc]
  rw [hnf] at h hl
  have HO := Lib.hid H
  have HW := Lib.hid HWx
  have hgl := Blk.lt h
  have hcl := Zx.lt
  have HZ := Lib.hid (And.intro ((HO.out.z.1.2.1 (by rw [hk]; decide) (by rw [hk]; decide)).1) ( And.intro ((HO.out.z.1.2.1 (by rw [hk]; decide) (by rw [hk]; decide)).2) ( And.intro (HO.out.z.1.2.2.1 (by rw [hk]; decide)) ( And.intro ((HO.out.z.2.1.1 (by rw [hk]; decide)).1) ( And.intro ((HO.out.z.2.1.1 (by rw [hk]; decide)).2.1) ( And.intro ((HO.out.z.2.1.1 (by rw [hk]; decide)).2.2) (HO.out.z.2.1.2 (by rw [hk]; decide) (by rw [hk]; decide))))))))
  clear HT H HWx hR hnf
  have hGD := HO.out.z.2.2.2.2 (by rw [hk]; decide)
  have HGD := Lib.hid (And.intro (List.length_eq_zero_iff.1 hGD.1) (List.length_eq_zero_iff.1 hGD.2))
  clear hGD
  have bel0 : Below B w w := Below.refl _ _
  have C0 := fun i => Zx.cell i
  unfold baseC at C0
  go_enter Try.func58, Try.ntmps58
  have x0 : w.cell? ⟨cb, 0, none⟩ = some (.int .i64 X.ty) := Zx.cell 0
  clear C0
  have c1 := g32 (R := R) X.tsn h HW.out.tsn.1 HW.out.tsn.2 (by have := hl; simp only [ByteArray.size_append] at this ⊢; omega)
  go_wp2_with fail
  clear x0
  refine c1.mono ?_
  rintro e w1 ⟨rfl, h1, ht1⟩
  have Z1 := touch_blk ht1 Zx hne
  have bel1 := bel0.trans (touch_below ht1 hg (Nat.le_trans hB bel0.size))
  clear c1 h Zx bel0 ht1
  have CC := fun i => Z1.cell i
  have FF := fun i => Z1.frozen i
  unfold baseC at CC FF
  go_wp2_with fail
  go_end0
  have hfin : numC X (.slice none 0 0) (.slice none 0 0) = #[.int .i64 X.ty, .int .i64 X.fl, .int .u32 X.tsn, .int .i64 0, .int .i64 0, .int .u32 0, .string ⟨#[]⟩, .int .u32 0, .int .u32 0, .int .i64 0, .int .i64 0, .slice none 0 0, .slice none 0 0, .slice none 0 0, .slice none 0 0] := by unfold numC; rw [HZ.out.1, HZ.out.2.1, HZ.out.2.2.1, HZ.out.2.2.2.1, HZ.out.2.2.2.2.1, HZ.out.2.2.2.2.2.1, HZ.out.2.2.2.2.2.2]
  refine ⟨rfl, (.slice none 0 0), (.slice none 0 0), (Blk.far h1 (p := ⟨cb, 2, none⟩) (show g ≠ cb from Ne.symm hne) (.int .u32 X.tsn)), ?_, ?_, ?_, ((bel1).setCell (p := ⟨cb, 2, none⟩) hc (.int .u32 X.tsn))⟩
  · rw [hfin]; exact (Blk.set_ Z1 2 (.int .u32 X.tsn))
  · rw [HGD.out.1]; exact Qo.nil _ _ _
  · rw [HGD.out.2]; exact Qo.nil _ _ _
set_option maxHeartbeats 4000000 in
theorem numbers_15 {X : Ck} {w : World} {B g cb : Nat} {R : ByteArray} (HT : X.ty = 15) (H : CkOk X) (HWx : CkW X) (h : RD w g (numF X ++ R) 0) (hR : kindV X.ty = 3 → R = ByteArray.empty) (hl : (numF X ++ R).size ≤ 60000) (Zx : Blk w cb 28 (baseC X)) (hne : cb ≠ g) (hg : B ≤ g) (hc : B ≤ cb) (hB : B ≤ w.heap.size) : Calls Try.prog 58 #[.pointer (some ⟨g, 0, none⟩), .pointer (some ⟨cb, 0, none⟩)] w fun e w' => e = .returned (.tuple #[]) ∧ NumPost X R g cb B w w' := by
  have hk : kindV X.ty = 15 := by rw [HT]; rfl
  have e0 : (X.ty == 0) = false := by rw [HT]; rfl
  have e1 : (X.ty == 1) = false := by rw [HT]; rfl
  have e2 : (X.ty == 2) = false := by rw [HT]; rfl
  have e3 : (X.ty == 3) = false := by rw [HT]; rfl
  have e7 : (X.ty == 7) = false := by rw [HT]; rfl
  have e193 : (X.ty == 193) = false := by rw [HT]; rfl
  have e128 : (X.ty == 128) = false := by rw [HT]; rfl
  have e130 : (X.ty == 130) = false := by rw [HT]; rfl
  have e15 : (X.ty == 15) = true := by rw [HT]; rfl
  have hnf : numF X ++ R = p2 X.st ++ (p2 X.ss ++ (R)) := by unfold numF; rw [hk]; simp [ByteArray.append_assoc]
  rw [hnf] at h hl
  have HO := Lib.hid H
  have HW := Lib.hid HWx
  have hgl := Blk.lt h
  have hcl := Zx.lt
  have HZ := Lib.hid (And.intro (HO.out.z.1.1 (by rw [hk]; decide) (by rw [hk]; decide) (by rw [hk]; decide) (by rw [hk]; decide) (by rw [hk]; decide)) ( And.intro (HO.out.z.1.2.2.1 (by rw [hk]; decide)) ( And.intro ((HO.out.z.2.1.1 (by rw [hk]; decide)).1) ( And.intro ((HO.out.z.2.1.1 (by rw [hk]; decide)).2.1) ( And.intro ((HO.out.z.2.1.1 (by rw [hk]; decide)).2.2) (HO.out.z.2.1.2 (by rw [hk]; decide) (by rw [hk]; decide)))))))
  clear HT H HWx hR hnf
  have hGD := HO.out.z.2.2.2.2 (by rw [hk]; decide)
  have HGD := Lib.hid (And.intro (List.length_eq_zero_iff.1 hGD.1) (List.length_eq_zero_iff.1 hGD.2))
  clear hGD
  have bel0 : Below B w w := Below.refl _ _
  have C0 := fun i => Zx.cell i
  unfold baseC at C0
  go_enter Try.func58, Try.ntmps58
  have x0 : w.cell? ⟨cb, 0, none⟩ = some (.int .i64 X.ty) := Zx.cell 0
  clear C0
  have c1 := g16 (R := p2 X.ss ++ (R)) X.st h HO.out.st.1 HO.out.st.2 (by have := hl; simp only [ByteArray.size_append] at this ⊢; omega)
  go_wp2_with fail
  clear x0
  refine c1.mono ?_
  rintro e w1 ⟨rfl, h1, ht1⟩
  have Z1 := touch_blk ht1 Zx hne
  have bel1 := bel0.trans (touch_below ht1 hg (Nat.le_trans hB bel0.size))
  clear c1 h Zx bel0 ht1
  have c2 := g16 (R := R) X.ss h1 HO.out.ss.1 HO.out.ss.2 (by have := hl; simp only [ByteArray.size_append] at this ⊢; omega)
  go_wp2_with fail
  refine c2.mono ?_
  rintro e w2 ⟨rfl, h2, ht2⟩
  have Z2 := touch_blk ht2 Z1 hne
  have bel2 := bel1.trans (touch_below ht2 hg (Nat.le_trans hB bel1.size))
  clear c2 h1 Z1 bel1 ht2
  have CC := fun i => Z2.cell i
  have FF := fun i => Z2.frozen i
  unfold baseC at CC FF
  go_wp2_with fail
  go_end0
  have hfin : numC X (.slice none 0 0) (.slice none 0 0) = #[.int .i64 X.ty, .int .i64 X.fl, .int .u32 0, .int .i64 X.st, .int .i64 X.ss, .int .u32 0, .string ⟨#[]⟩, .int .u32 0, .int .u32 0, .int .i64 0, .int .i64 0, .slice none 0 0, .slice none 0 0, .slice none 0 0, .slice none 0 0] := by unfold numC; rw [HZ.out.1, HZ.out.2.1, HZ.out.2.2.1, HZ.out.2.2.2.1, HZ.out.2.2.2.2.1, HZ.out.2.2.2.2.2]
  refine ⟨rfl, (.slice none 0 0), (.slice none 0 0), (Blk.far (Blk.far h2 (p := ⟨cb, 3, none⟩) (show g ≠ cb from Ne.symm hne) (.int .i64 X.st)) (p := ⟨cb, 4, none⟩) (show g ≠ cb from Ne.symm hne) (.int .i64 X.ss)), ?_, ?_, ?_, ((((bel2).setCell (p := ⟨cb, 3, none⟩) hc (.int .i64 X.st))).setCell (p := ⟨cb, 4, none⟩) hc (.int .i64 X.ss))⟩
  · rw [hfin]; exact (Blk.set_ (Blk.set_ Z2 3 (.int .i64 X.st)) 4 (.int .i64 X.ss))
  · rw [HGD.out.1]; exact Qo.nil _ _ _
  · rw [HGD.out.2]; exact Qo.nil _ _ _
set_option maxHeartbeats 4000000 in
theorem numbers_def {X : Ck} {w : World} {B g cb : Nat} {R : ByteArray} (HT : kindV X.ty = 4 ∨ kindV X.ty = 6 ∨ kindV X.ty = 8 ∨ kindV X.ty = 10 ∨ kindV X.ty = 20) (H : CkOk X) (HWx : CkW X) (h : RD w g (numF X ++ R) 0) (hR : kindV X.ty = 3 → R = ByteArray.empty) (hl : (numF X ++ R).size ≤ 60000) (Zx : Blk w cb 28 (baseC X)) (hne : cb ≠ g) (hg : B ≤ g) (hc : B ≤ cb) (hB : B ≤ w.heap.size) : Calls Try.prog 58 #[.pointer (some ⟨g, 0, none⟩), .pointer (some ⟨cb, 0, none⟩)] w fun e w' => e = .returned (.tuple #[]) ∧ NumPost X R g cb B w w' := by
  have hk := HT
  have e0 : (X.ty == 0) = false := by
    rw [beq_eq_false_iff_ne]
    intro h
    rw [h] at HT
    exact absurd HT (by decide)
  have e1 : (X.ty == 1) = false := by
    rw [beq_eq_false_iff_ne]
    intro h
    rw [h] at HT
    exact absurd HT (by decide)
  have e2 : (X.ty == 2) = false := by
    rw [beq_eq_false_iff_ne]
    intro h
    rw [h] at HT
    exact absurd HT (by decide)
  have e3 : (X.ty == 3) = false := by
    rw [beq_eq_false_iff_ne]
    intro h
    rw [h] at HT
    exact absurd HT (by decide)
  have e7 : (X.ty == 7) = false := by
    rw [beq_eq_false_iff_ne]
    intro h
    rw [h] at HT
    exact absurd HT (by decide)
  have e193 : (X.ty == 193) = false := by
    rw [beq_eq_false_iff_ne]
    intro h
    rw [h] at HT
    exact absurd HT (by decide)
  have e128 : (X.ty == 128) = false := by
    rw [beq_eq_false_iff_ne]
    intro h
    rw [h] at HT
    exact absurd HT (by decide)
  have e130 : (X.ty == 130) = false := by
    rw [beq_eq_false_iff_ne]
    intro h
    rw [h] at HT
    exact absurd HT (by decide)
  have e15 : (X.ty == 15) = false := by
    rw [beq_eq_false_iff_ne]
    intro h
    rw [h] at HT
    exact absurd HT (by decide)
  have hnf : numF X ++ R = R := by unfold numF; rcases hk with h | h | h | h | h <;> rw [h] <;> simp
  rw [hnf] at h hl
  have HO := Lib.hid H
  have HW := Lib.hid HWx
  have hgl := Blk.lt h
  have hcl := Zx.lt
  have HZ := Lib.hid (And.intro (HO.out.z.1.1 (by rcases hk with h | h | h | h | h <;> rw [h] <;> decide) (by rcases hk with h | h | h | h | h <;> rw [h] <;> decide) (by rcases hk with h | h | h | h | h <;> rw [h] <;> decide) (by rcases hk with h | h | h | h | h <;> rw [h] <;> decide) (by rcases hk with h | h | h | h | h <;> rw [h] <;> decide)) ( And.intro ((HO.out.z.1.2.1 (by rcases hk with h | h | h | h | h <;> rw [h] <;> decide) (by rcases hk with h | h | h | h | h <;> rw [h] <;> decide)).1) ( And.intro ((HO.out.z.1.2.1 (by rcases hk with h | h | h | h | h <;> rw [h] <;> decide) (by rcases hk with h | h | h | h | h <;> rw [h] <;> decide)).2) ( And.intro (HO.out.z.1.2.2.1 (by rcases hk with h | h | h | h | h <;> rw [h] <;> decide)) ( And.intro ((HO.out.z.2.1.1 (by rcases hk with h | h | h | h | h <;> rw [h] <;> decide)).1) ( And.intro ((HO.out.z.2.1.1 (by rcases hk with h | h | h | h | h <;> rw [h] <;> decide)).2.1) ( And.intro ((HO.out.z.2.1.1 (by rcases hk with h | h | h | h | h <;> rw [h] <;> decide)).2.2) (HO.out.z.2.1.2 (by rcases hk with h | h | h | h | h <;> rw [h] <;> decide) (by rcases hk with h | h | h | h | h <;> rw [h] <;> decide)))))))))
  clear H HWx hR hnf
  have hGD := HO.out.z.2.2.2.2 (by rcases hk with h | h | h | h | h <;> rw [h] <;> decide)
  have HGD := Lib.hid (And.intro (List.length_eq_zero_iff.1 hGD.1) (List.length_eq_zero_iff.1 hGD.2))
  clear hGD
  have bel0 : Below B w w := Below.refl _ _
  have C0 := fun i => Zx.cell i
  unfold baseC at C0
  go_enter Try.func58, Try.ntmps58
  go_wp2_with fail
  go_end0
  have hfin : numC X (.slice none 0 0) (.slice none 0 0) = #[.int .i64 X.ty, .int .i64 X.fl, .int .u32 0, .int .i64 0, .int .i64 0, .int .u32 0, .string ⟨#[]⟩, .int .u32 0, .int .u32 0, .int .i64 0, .int .i64 0, .slice none 0 0, .slice none 0 0, .slice none 0 0, .slice none 0 0] := by unfold numC; rw [HZ.out.1, HZ.out.2.1, HZ.out.2.2.1, HZ.out.2.2.2.1, HZ.out.2.2.2.2.1, HZ.out.2.2.2.2.2.1, HZ.out.2.2.2.2.2.2.1, HZ.out.2.2.2.2.2.2.2]
  refine ⟨rfl, (.slice none 0 0), (.slice none 0 0), h, ?_, ?_, ?_, bel0⟩
  · rw [hfin]; exact Zx
  · rw [HGD.out.1]; exact Qo.nil _ _ _
  · rw [HGD.out.2]; exact Qo.nil _ _ _
/-- The numbers that a chunk begins with. -/
theorem numbers_any {X : Ck} {w : World} {B g cb : Nat} {R : ByteArray} (H : CkOk X) (HWx : CkW X) (h : RD w g (numF X ++ R) 0) (hR : kindV X.ty = 3 → R = ByteArray.empty) (hl : (numF X ++ R).size ≤ 60000) (Zx : Blk w cb 28 (baseC X)) (hne : cb ≠ g) (hg : B ≤ g) (hc : B ≤ cb) (hB : B ≤ w.heap.size) : Calls Try.prog 58 #[.pointer (some ⟨g, 0, none⟩), .pointer (some ⟨cb, 0, none⟩)] w fun e w' => e = .returned (.tuple #[]) ∧ NumPost X R g cb B w w' := by
  by_cases h0 : X.ty = 0
  · exact numbers_0 h0 H HWx h hR hl Zx hne hg hc hB
  by_cases h1 : X.ty = 1
  · exact numbers_1 h1 H HWx h hR hl Zx hne hg hc hB
  by_cases h2 : X.ty = 2
  · exact numbers_2 h2 H HWx h hR hl Zx hne hg hc hB
  by_cases h3 : X.ty = 3
  · exact numbers_3 h3 H HWx h hR hl Zx hne hg hc hB
  by_cases h7 : X.ty = 7
  · exact numbers_7 h7 H HWx h hR hl Zx hne hg hc hB
  by_cases h193 : X.ty = 193
  · exact numbers_193 h193 H HWx h hR hl Zx hne hg hc hB
  by_cases h128 : X.ty = 128
  · exact numbers_128 h128 H HWx h hR hl Zx hne hg hc hB
  by_cases h130 : X.ty = 130
  · exact numbers_130 h130 H HWx h hR hl Zx hne hg hc hB
  by_cases h15 : X.ty = 15
  · exact numbers_15 h15 H HWx h hR hl Zx hne hg hc hB
  refine numbers_def ?_ H HWx h hR hl Zx hne hg hc hB
  unfold kindV
  (repeat' split) <;> omega
end Go.Proofs.Ytfpcneekbdcbcaa.ck
/- Layer 6: what stands behind the numbers, read (gen-ckt.py wrote this). -/
namespace Go.Proofs.Ytfpcneekbdcbcaa.ck
open Go.ChangeShapes Go.WideShapes Go.ChangeAt Go.RowKit kit oct par chk bld cut
set_option maxRecDepth 100000

def RestPost (X : Ck) (vG vD : Value) (g cb B b1 : Nat) (w : World) (w' : World) : Prop := ∃ vP vK, RD w' g ByteArray.empty 0 ∧ Blk w' cb 28 (ckc X vP vK vG vD) ∧ Qo w' b1 2 vP X.P.length (cellsP X.P) ∧ Qo w' b1 2 vK X.K.length (cellsP X.K) ∧ Qo w' b1 2 vG X.G.length (cellsG X.G) ∧ Qo w' b1 1 vD X.D.length (X.D.map (.int .u32)) ∧ Below B w w'
set_option maxHeartbeats 4000000 in
theorem rest_1 {X : Ck} {w : World} {B b1 g cb : Nat} {vG vD : Value} (HT : X.ty = 1) (H : CkOk X) (h : RD w g (restF X) 0) (Zx : Blk w cb 28 (numC X vG vD)) (qG : Qo w b1 2 vG X.G.length (cellsG X.G)) (qD : Qo w b1 1 vD X.D.length (X.D.map (.int .u32))) (hne : cb ≠ g) (hg : B ≤ g) (hc : B ≤ cb) (hB : B ≤ w.heap.size) (hg1 : g < b1) (hc1 : cb < b1) (hb1 : b1 ≤ w.heap.size) : Calls Try.prog 59 #[.pointer (some ⟨g, 0, none⟩), .pointer (some ⟨cb, 0, none⟩)] w fun e w' => e = .returned (.int .i64 0) ∧ RestPost X vG vD g cb B b1 w w' := by
  have hk : kindV X.ty = 1 := by rw [HT]; rfl
  have e1 : (X.ty == 1) = true := by rw [HT]; rfl
  have e2 : (X.ty == 2) = false := by rw [HT]; rfl
  have e193 : (X.ty == 193) = false := by rw [HT]; rfl
  have e128 : (X.ty == 128) = false := by rw [HT]; rfl
  have e130 : (X.ty == 130) = false := by rw [HT]; rfl
  have e6 : (X.ty == 6) = false := by rw [HT]; rfl
  have e9 : (X.ty == 9) = false := by rw [HT]; rfl
  have e4 : (X.ty == 4) = false := by rw [HT]; rfl
  have e5 : (X.ty == 5) = false := by rw [HT]; rfl
  have e3 : (X.ty == 3) = false := by rw [HT]; rfl
  have e7 : (X.ty == 7) = false := by rw [HT]; rfl
  have e8 : (X.ty == 8) = false := by rw [HT]; rfl
  have e11 : (X.ty == 11) = false := by rw [HT]; rfl
  have e14 : (X.ty == 14) = false := by rw [HT]; rfl
  have hrf : restF X = cat X.P := by unfold restF; rw [hk]; rfl
  rw [hrf] at h
  have HO := Lib.hid H
  have hd : X.d = ByteArray.empty := HO.out.z.1.2.2.2 (by rw [hk]; decide) (by rw [hk]; decide) (by rw [hk]; decide) (by rw [hk]; decide) (by rw [hk]; decide)
  have hK : X.K = [] := List.length_eq_zero_iff.1 (HO.out.z.2.2.2.1 (by rw [hk]; decide))
  have hge : blkOf vG ≠ some g := fun e => by have := (qG.lt e).1; omega
  have hde : blkOf vD ≠ some g := fun e => by have := (qD.lt e).1; omega
  have hgc : blkOf vG ≠ some cb := fun e => by have := (qG.lt e).1; omega
  have hdc : blkOf vD ≠ some cb := fun e => by have := (qD.lt e).1; omega
  have bel0 : Below B w w := Below.refl _ _
  have x0 : w.cell? ⟨cb, 0, none⟩ = some (.int .i64 X.ty) := Zx.cell 0
  have HH := Lib.hid (And.intro hd hK)
  clear hd hK hrf H HT
  go_enter Try.func59, Try.ntmps59
  have c1 := rest_any g _ 0 w h (by have := cat_le X.P; have := HO.out.P; unfold maxLen; omega)
  go_wp2_with fail
  clear x0
  refine c1.mono ?_
  rintro e w1 ⟨rfl, h1, ht1⟩
  have Z1 := touch_blk ht1 Zx hne
  have bel1 := bel0.trans (touch_below ht1 hg hB)
  have qG1 := touch_qo ht1 qG hge
  have qD1 := touch_qo ht1 qD hde
  have hs1 := Nat.le_trans hb1 ht1.size
  clear c1 Zx h qG qD ht1 bel0
  have c2 := all_list X.P w1 HO.out.P (fun p hp => HO.out.pm p hp)
  generalize cat X.P = SS at *
  go_wp2_with fail
  refine c2.mono ?_
  rintro e w2 ⟨v, rfl, own2, hb2⟩
  have q2 := (Qo.of_owns own2).weaken (b1 := b1) (by omega)
  have Z2 := Z1.below hb2 Z1.lt
  have h2 : RD w2 g ByteArray.empty 0 := Blk.below h1 hb2 (Blk.lt h1)
  have bel2 := bel1.trans (hb2.mono (Nat.le_trans hB bel1.size))
  have qG2 := qG1.below hb2 (Nat.le_refl _)
  have qD2 := qD1.below hb2 (Nat.le_refl _)
  obtain ⟨o2, cp2, hv2, _, _⟩ := q2.shape
  subst hv2
  clear c2 own2 Z1 h1 bel1 qG1 qD1 hb2
  have CC := Z2.cell 11
  have FF := Z2.frozen 11
  have CC' : w2.cell? ⟨cb, 11, none⟩ = some (.slice none 0 0) := CC
  clear CC
  have qc2 : blkOf (.slice o2 X.P.length cp2) ≠ some cb := fun e => by have := (q2.lt e).1; omega
  have HE := Lib.hid (And.intro (Blk.far h2 (p := ⟨cb, 11, none⟩) (show g ≠ cb from Ne.symm hne) (.slice o2 X.P.length cp2)) (And.intro (Z2.set_ 11 (.slice o2 X.P.length cp2)) (And.intro (q2.far (p := ⟨cb, 11, none⟩) qc2 (.slice o2 X.P.length cp2)) (And.intro (qG2.far (p := ⟨cb, 11, none⟩) hgc (.slice o2 X.P.length cp2)) (And.intro (qD2.far (p := ⟨cb, 11, none⟩) hdc (.slice o2 X.P.length cp2)) (bel2.setCell (p := ⟨cb, 11, none⟩) hc (.slice o2 X.P.length cp2)))))))
  clear q2 qG2 qD2 Z2 h2 bel2
  go_wp2_with fail
  go_ret
  refine ⟨rfl, .slice o2 X.P.length cp2, (.slice none 0 0), HE.out.1, ?_, HE.out.2.2.1, ?_, HE.out.2.2.2.1, HE.out.2.2.2.2.1, HE.out.2.2.2.2.2⟩
  · have := HE.out.2.1
    unfold ckc
    rw [HH.out.1]
    exact this
  · rw [HH.out.2]; exact Qo.nil _ _ _
set_option maxHeartbeats 4000000 in
theorem rest_2 {X : Ck} {w : World} {B b1 g cb : Nat} {vG vD : Value} (HT : X.ty = 2) (H : CkOk X) (h : RD w g (restF X) 0) (Zx : Blk w cb 28 (numC X vG vD)) (qG : Qo w b1 2 vG X.G.length (cellsG X.G)) (qD : Qo w b1 1 vD X.D.length (X.D.map (.int .u32))) (hne : cb ≠ g) (hg : B ≤ g) (hc : B ≤ cb) (hB : B ≤ w.heap.size) (hg1 : g < b1) (hc1 : cb < b1) (hb1 : b1 ≤ w.heap.size) : Calls Try.prog 59 #[.pointer (some ⟨g, 0, none⟩), .pointer (some ⟨cb, 0, none⟩)] w fun e w' => e = .returned (.int .i64 0) ∧ RestPost X vG vD g cb B b1 w w' := by
  have hk : kindV X.ty = 1 := by rw [HT]; rfl
  have e1 : (X.ty == 1) = false := by rw [HT]; rfl
  have e2 : (X.ty == 2) = true := by rw [HT]; rfl
  have e193 : (X.ty == 193) = false := by rw [HT]; rfl
  have e128 : (X.ty == 128) = false := by rw [HT]; rfl
  have e130 : (X.ty == 130) = false := by rw [HT]; rfl
  have e6 : (X.ty == 6) = false := by rw [HT]; rfl
  have e9 : (X.ty == 9) = false := by rw [HT]; rfl
  have e4 : (X.ty == 4) = false := by rw [HT]; rfl
  have e5 : (X.ty == 5) = false := by rw [HT]; rfl
  have e3 : (X.ty == 3) = false := by rw [HT]; rfl
  have e7 : (X.ty == 7) = false := by rw [HT]; rfl
  have e8 : (X.ty == 8) = false := by rw [HT]; rfl
  have e11 : (X.ty == 11) = false := by rw [HT]; rfl
  have e14 : (X.ty == 14) = false := by rw [HT]; rfl
  have hrf : restF X = cat X.P := by unfold restF; rw [hk]; rfl
  rw [hrf] at h
  have HO := Lib.hid H
  have hd : X.d = ByteArray.empty := HO.out.z.1.2.2.2 (by rw [hk]; decide) (by rw [hk]; decide) (by rw [hk]; decide) (by rw [hk]; decide) (by rw [hk]; decide)
  have hK : X.K = [] := List.length_eq_zero_iff.1 (HO.out.z.2.2.2.1 (by rw [hk]; decide))
  have hge : blkOf vG ≠ some g := fun e => by have := (qG.lt e).1; omega
  have hde : blkOf vD ≠ some g := fun e => by have := (qD.lt e).1; omega
  have hgc : blkOf vG ≠ some cb := fun e => by have := (qG.lt e).1; omega
  have hdc : blkOf vD ≠ some cb := fun e => by have := (qD.lt e).1; omega
  have bel0 : Below B w w := Below.refl _ _
  have x0 : w.cell? ⟨cb, 0, none⟩ = some (.int .i64 X.ty) := Zx.cell 0
  have HH := Lib.hid (And.intro hd hK)
  clear hd hK hrf H HT
  go_enter Try.func59, Try.ntmps59
  have c1 := rest_any g _ 0 w h (by have := cat_le X.P; have := HO.out.P; unfold maxLen; omega)
  go_wp2_with fail
  clear x0
  refine c1.mono ?_
  rintro e w1 ⟨rfl, h1, ht1⟩
  have Z1 := touch_blk ht1 Zx hne
  have bel1 := bel0.trans (touch_below ht1 hg hB)
  have qG1 := touch_qo ht1 qG hge
  have qD1 := touch_qo ht1 qD hde
  have hs1 := Nat.le_trans hb1 ht1.size
  clear c1 Zx h qG qD ht1 bel0
  have c2 := all_list X.P w1 HO.out.P (fun p hp => HO.out.pm p hp)
  generalize cat X.P = SS at *
  go_wp2_with fail
  refine c2.mono ?_
  rintro e w2 ⟨v, rfl, own2, hb2⟩
  have q2 := (Qo.of_owns own2).weaken (b1 := b1) (by omega)
  have Z2 := Z1.below hb2 Z1.lt
  have h2 : RD w2 g ByteArray.empty 0 := Blk.below h1 hb2 (Blk.lt h1)
  have bel2 := bel1.trans (hb2.mono (Nat.le_trans hB bel1.size))
  have qG2 := qG1.below hb2 (Nat.le_refl _)
  have qD2 := qD1.below hb2 (Nat.le_refl _)
  obtain ⟨o2, cp2, hv2, _, _⟩ := q2.shape
  subst hv2
  clear c2 own2 Z1 h1 bel1 qG1 qD1 hb2
  have CC := Z2.cell 11
  have FF := Z2.frozen 11
  have CC' : w2.cell? ⟨cb, 11, none⟩ = some (.slice none 0 0) := CC
  clear CC
  have qc2 : blkOf (.slice o2 X.P.length cp2) ≠ some cb := fun e => by have := (q2.lt e).1; omega
  have HE := Lib.hid (And.intro (Blk.far h2 (p := ⟨cb, 11, none⟩) (show g ≠ cb from Ne.symm hne) (.slice o2 X.P.length cp2)) (And.intro (Z2.set_ 11 (.slice o2 X.P.length cp2)) (And.intro (q2.far (p := ⟨cb, 11, none⟩) qc2 (.slice o2 X.P.length cp2)) (And.intro (qG2.far (p := ⟨cb, 11, none⟩) hgc (.slice o2 X.P.length cp2)) (And.intro (qD2.far (p := ⟨cb, 11, none⟩) hdc (.slice o2 X.P.length cp2)) (bel2.setCell (p := ⟨cb, 11, none⟩) hc (.slice o2 X.P.length cp2)))))))
  clear q2 qG2 qD2 Z2 h2 bel2
  go_wp2_with fail
  go_ret
  refine ⟨rfl, .slice o2 X.P.length cp2, (.slice none 0 0), HE.out.1, ?_, HE.out.2.2.1, ?_, HE.out.2.2.2.1, HE.out.2.2.2.2.1, HE.out.2.2.2.2.2⟩
  · have := HE.out.2.1
    unfold ckc
    rw [HH.out.1]
    exact this
  · rw [HH.out.2]; exact Qo.nil _ _ _
set_option maxHeartbeats 4000000 in
theorem rest_193 {X : Ck} {w : World} {B b1 g cb : Nat} {vG vD : Value} (HT : X.ty = 193) (H : CkOk X) (h : RD w g (restF X) 0) (Zx : Blk w cb 28 (numC X vG vD)) (qG : Qo w b1 2 vG X.G.length (cellsG X.G)) (qD : Qo w b1 1 vD X.D.length (X.D.map (.int .u32))) (hne : cb ≠ g) (hg : B ≤ g) (hc : B ≤ cb) (hB : B ≤ w.heap.size) (hg1 : g < b1) (hc1 : cb < b1) (hb1 : b1 ≤ w.heap.size) : Calls Try.prog 59 #[.pointer (some ⟨g, 0, none⟩), .pointer (some ⟨cb, 0, none⟩)] w fun e w' => e = .returned (.int .i64 0) ∧ RestPost X vG vD g cb B b1 w w' := by
  have hk : kindV X.ty = 16 := by rw [HT]; rfl
  have e1 : (X.ty == 1) = false := by rw [HT]; rfl
  have e2 : (X.ty == 2) = false := by rw [HT]; rfl
  have e193 : (X.ty == 193) = true := by rw [HT]; rfl
  have e128 : (X.ty == 128) = false := by rw [HT]; rfl
  have e130 : (X.ty == 130) = false := by rw [HT]; rfl
  have e6 : (X.ty == 6) = false := by rw [HT]; rfl
  have e9 : (X.ty == 9) = false := by rw [HT]; rfl
  have e4 : (X.ty == 4) = false := by rw [HT]; rfl
  have e5 : (X.ty == 5) = false := by rw [HT]; rfl
  have e3 : (X.ty == 3) = false := by rw [HT]; rfl
  have e7 : (X.ty == 7) = false := by rw [HT]; rfl
  have e8 : (X.ty == 8) = false := by rw [HT]; rfl
  have e11 : (X.ty == 11) = false := by rw [HT]; rfl
  have e14 : (X.ty == 14) = false := by rw [HT]; rfl
  have hrf : restF X = cat X.P := by unfold restF; rw [hk]; rfl
  rw [hrf] at h
  have HO := Lib.hid H
  have hd : X.d = ByteArray.empty := HO.out.z.1.2.2.2 (by rw [hk]; decide) (by rw [hk]; decide) (by rw [hk]; decide) (by rw [hk]; decide) (by rw [hk]; decide)
  have hK : X.K = [] := List.length_eq_zero_iff.1 (HO.out.z.2.2.2.1 (by rw [hk]; decide))
  have hge : blkOf vG ≠ some g := fun e => by have := (qG.lt e).1; omega
  have hde : blkOf vD ≠ some g := fun e => by have := (qD.lt e).1; omega
  have hgc : blkOf vG ≠ some cb := fun e => by have := (qG.lt e).1; omega
  have hdc : blkOf vD ≠ some cb := fun e => by have := (qD.lt e).1; omega
  have bel0 : Below B w w := Below.refl _ _
  have x0 : w.cell? ⟨cb, 0, none⟩ = some (.int .i64 X.ty) := Zx.cell 0
  have HH := Lib.hid (And.intro hd hK)
  clear hd hK hrf H HT
  go_enter Try.func59, Try.ntmps59
  have c1 := rest_any g _ 0 w h (by have := cat_le X.P; have := HO.out.P; unfold maxLen; omega)
  go_wp2_with fail
  clear x0
  refine c1.mono ?_
  rintro e w1 ⟨rfl, h1, ht1⟩
  have Z1 := touch_blk ht1 Zx hne
  have bel1 := bel0.trans (touch_below ht1 hg hB)
  have qG1 := touch_qo ht1 qG hge
  have qD1 := touch_qo ht1 qD hde
  have hs1 := Nat.le_trans hb1 ht1.size
  clear c1 Zx h qG qD ht1 bel0
  have c2 := all_list X.P w1 HO.out.P (fun p hp => HO.out.pm p hp)
  generalize cat X.P = SS at *
  go_wp2_with fail
  refine c2.mono ?_
  rintro e w2 ⟨v, rfl, own2, hb2⟩
  have q2 := (Qo.of_owns own2).weaken (b1 := b1) (by omega)
  have Z2 := Z1.below hb2 Z1.lt
  have h2 : RD w2 g ByteArray.empty 0 := Blk.below h1 hb2 (Blk.lt h1)
  have bel2 := bel1.trans (hb2.mono (Nat.le_trans hB bel1.size))
  have qG2 := qG1.below hb2 (Nat.le_refl _)
  have qD2 := qD1.below hb2 (Nat.le_refl _)
  obtain ⟨o2, cp2, hv2, _, _⟩ := q2.shape
  subst hv2
  clear c2 own2 Z1 h1 bel1 qG1 qD1 hb2
  have CC := Z2.cell 11
  have FF := Z2.frozen 11
  have CC' : w2.cell? ⟨cb, 11, none⟩ = some (.slice none 0 0) := CC
  clear CC
  have qc2 : blkOf (.slice o2 X.P.length cp2) ≠ some cb := fun e => by have := (q2.lt e).1; omega
  have HE := Lib.hid (And.intro (Blk.far h2 (p := ⟨cb, 11, none⟩) (show g ≠ cb from Ne.symm hne) (.slice o2 X.P.length cp2)) (And.intro (Z2.set_ 11 (.slice o2 X.P.length cp2)) (And.intro (q2.far (p := ⟨cb, 11, none⟩) qc2 (.slice o2 X.P.length cp2)) (And.intro (qG2.far (p := ⟨cb, 11, none⟩) hgc (.slice o2 X.P.length cp2)) (And.intro (qD2.far (p := ⟨cb, 11, none⟩) hdc (.slice o2 X.P.length cp2)) (bel2.setCell (p := ⟨cb, 11, none⟩) hc (.slice o2 X.P.length cp2)))))))
  clear q2 qG2 qD2 Z2 h2 bel2
  go_wp2_with fail
  go_ret
  refine ⟨rfl, .slice o2 X.P.length cp2, (.slice none 0 0), HE.out.1, ?_, HE.out.2.2.1, ?_, HE.out.2.2.2.1, HE.out.2.2.2.2.1, HE.out.2.2.2.2.2⟩
  · have := HE.out.2.1
    unfold ckc
    rw [HH.out.1]
    exact this
  · rw [HH.out.2]; exact Qo.nil _ _ _
set_option maxHeartbeats 4000000 in
theorem rest_128 {X : Ck} {w : World} {B b1 g cb : Nat} {vG vD : Value} (HT : X.ty = 128) (H : CkOk X) (h : RD w g (restF X) 0) (Zx : Blk w cb 28 (numC X vG vD)) (qG : Qo w b1 2 vG X.G.length (cellsG X.G)) (qD : Qo w b1 1 vD X.D.length (X.D.map (.int .u32))) (hne : cb ≠ g) (hg : B ≤ g) (hc : B ≤ cb) (hB : B ≤ w.heap.size) (hg1 : g < b1) (hc1 : cb < b1) (hb1 : b1 ≤ w.heap.size) : Calls Try.prog 59 #[.pointer (some ⟨g, 0, none⟩), .pointer (some ⟨cb, 0, none⟩)] w fun e w' => e = .returned (.int .i64 0) ∧ RestPost X vG vD g cb B b1 w w' := by
  have hk : kindV X.ty = 16 := by rw [HT]; rfl
  have e1 : (X.ty == 1) = false := by rw [HT]; rfl
  have e2 : (X.ty == 2) = false := by rw [HT]; rfl
  have e193 : (X.ty == 193) = false := by rw [HT]; rfl
  have e128 : (X.ty == 128) = true := by rw [HT]; rfl
  have e130 : (X.ty == 130) = false := by rw [HT]; rfl
  have e6 : (X.ty == 6) = false := by rw [HT]; rfl
  have e9 : (X.ty == 9) = false := by rw [HT]; rfl
  have e4 : (X.ty == 4) = false := by rw [HT]; rfl
  have e5 : (X.ty == 5) = false := by rw [HT]; rfl
  have e3 : (X.ty == 3) = false := by rw [HT]; rfl
  have e7 : (X.ty == 7) = false := by rw [HT]; rfl
  have e8 : (X.ty == 8) = false := by rw [HT]; rfl
  have e11 : (X.ty == 11) = false := by rw [HT]; rfl
  have e14 : (X.ty == 14) = false := by rw [HT]; rfl
  have hrf : restF X = cat X.P := by unfold restF; rw [hk]; rfl
  rw [hrf] at h
  have HO := Lib.hid H
  have hd : X.d = ByteArray.empty := HO.out.z.1.2.2.2 (by rw [hk]; decide) (by rw [hk]; decide) (by rw [hk]; decide) (by rw [hk]; decide) (by rw [hk]; decide)
  have hK : X.K = [] := List.length_eq_zero_iff.1 (HO.out.z.2.2.2.1 (by rw [hk]; decide))
  have hge : blkOf vG ≠ some g := fun e => by have := (qG.lt e).1; omega
  have hde : blkOf vD ≠ some g := fun e => by have := (qD.lt e).1; omega
  have hgc : blkOf vG ≠ some cb := fun e => by have := (qG.lt e).1; omega
  have hdc : blkOf vD ≠ some cb := fun e => by have := (qD.lt e).1; omega
  have bel0 : Below B w w := Below.refl _ _
  have x0 : w.cell? ⟨cb, 0, none⟩ = some (.int .i64 X.ty) := Zx.cell 0
  have HH := Lib.hid (And.intro hd hK)
  clear hd hK hrf H HT
  go_enter Try.func59, Try.ntmps59
  have c1 := rest_any g _ 0 w h (by have := cat_le X.P; have := HO.out.P; unfold maxLen; omega)
  go_wp2_with fail
  clear x0
  refine c1.mono ?_
  rintro e w1 ⟨rfl, h1, ht1⟩
  have Z1 := touch_blk ht1 Zx hne
  have bel1 := bel0.trans (touch_below ht1 hg hB)
  have qG1 := touch_qo ht1 qG hge
  have qD1 := touch_qo ht1 qD hde
  have hs1 := Nat.le_trans hb1 ht1.size
  clear c1 Zx h qG qD ht1 bel0
  have c2 := all_list X.P w1 HO.out.P (fun p hp => HO.out.pm p hp)
  generalize cat X.P = SS at *
  go_wp2_with fail
  refine c2.mono ?_
  rintro e w2 ⟨v, rfl, own2, hb2⟩
  have q2 := (Qo.of_owns own2).weaken (b1 := b1) (by omega)
  have Z2 := Z1.below hb2 Z1.lt
  have h2 : RD w2 g ByteArray.empty 0 := Blk.below h1 hb2 (Blk.lt h1)
  have bel2 := bel1.trans (hb2.mono (Nat.le_trans hB bel1.size))
  have qG2 := qG1.below hb2 (Nat.le_refl _)
  have qD2 := qD1.below hb2 (Nat.le_refl _)
  obtain ⟨o2, cp2, hv2, _, _⟩ := q2.shape
  subst hv2
  clear c2 own2 Z1 h1 bel1 qG1 qD1 hb2
  have CC := Z2.cell 11
  have FF := Z2.frozen 11
  have CC' : w2.cell? ⟨cb, 11, none⟩ = some (.slice none 0 0) := CC
  clear CC
  have qc2 : blkOf (.slice o2 X.P.length cp2) ≠ some cb := fun e => by have := (q2.lt e).1; omega
  have HE := Lib.hid (And.intro (Blk.far h2 (p := ⟨cb, 11, none⟩) (show g ≠ cb from Ne.symm hne) (.slice o2 X.P.length cp2)) (And.intro (Z2.set_ 11 (.slice o2 X.P.length cp2)) (And.intro (q2.far (p := ⟨cb, 11, none⟩) qc2 (.slice o2 X.P.length cp2)) (And.intro (qG2.far (p := ⟨cb, 11, none⟩) hgc (.slice o2 X.P.length cp2)) (And.intro (qD2.far (p := ⟨cb, 11, none⟩) hdc (.slice o2 X.P.length cp2)) (bel2.setCell (p := ⟨cb, 11, none⟩) hc (.slice o2 X.P.length cp2)))))))
  clear q2 qG2 qD2 Z2 h2 bel2
  go_wp2_with fail
  go_ret
  refine ⟨rfl, .slice o2 X.P.length cp2, (.slice none 0 0), HE.out.1, ?_, HE.out.2.2.1, ?_, HE.out.2.2.2.1, HE.out.2.2.2.2.1, HE.out.2.2.2.2.2⟩
  · have := HE.out.2.1
    unfold ckc
    rw [HH.out.1]
    exact this
  · rw [HH.out.2]; exact Qo.nil _ _ _
set_option maxHeartbeats 4000000 in
theorem rest_130 {X : Ck} {w : World} {B b1 g cb : Nat} {vG vD : Value} (HT : X.ty = 130) (H : CkOk X) (h : RD w g (restF X) 0) (Zx : Blk w cb 28 (numC X vG vD)) (qG : Qo w b1 2 vG X.G.length (cellsG X.G)) (qD : Qo w b1 1 vD X.D.length (X.D.map (.int .u32))) (hne : cb ≠ g) (hg : B ≤ g) (hc : B ≤ cb) (hB : B ≤ w.heap.size) (hg1 : g < b1) (hc1 : cb < b1) (hb1 : b1 ≤ w.heap.size) : Calls Try.prog 59 #[.pointer (some ⟨g, 0, none⟩), .pointer (some ⟨cb, 0, none⟩)] w fun e w' => e = .returned (.int .i64 0) ∧ RestPost X vG vD g cb B b1 w w' := by
  have hk : kindV X.ty = 16 := by rw [HT]; rfl
  have e1 : (X.ty == 1) = false := by rw [HT]; rfl
  have e2 : (X.ty == 2) = false := by rw [HT]; rfl
  have e193 : (X.ty == 193) = false := by rw [HT]; rfl
  have e128 : (X.ty == 128) = false := by rw [HT]; rfl
  have e130 : (X.ty == 130) = true := by rw [HT]; rfl
  have e6 : (X.ty == 6) = false := by rw [HT]; rfl
  have e9 : (X.ty == 9) = false := by rw [HT]; rfl
  have e4 : (X.ty == 4) = false := by rw [HT]; rfl
  have e5 : (X.ty == 5) = false := by rw [HT]; rfl
  have e3 : (X.ty == 3) = false := by rw [HT]; rfl
  have e7 : (X.ty == 7) = false := by rw [HT]; rfl
  have e8 : (X.ty == 8) = false := by rw [HT]; rfl
  have e11 : (X.ty == 11) = false := by rw [HT]; rfl
  have e14 : (X.ty == 14) = false := by rw [HT]; rfl
  have hrf : restF X = cat X.P := by unfold restF; rw [hk]; rfl
  rw [hrf] at h
  have HO := Lib.hid H
  have hd : X.d = ByteArray.empty := HO.out.z.1.2.2.2 (by rw [hk]; decide) (by rw [hk]; decide) (by rw [hk]; decide) (by rw [hk]; decide) (by rw [hk]; decide)
  have hK : X.K = [] := List.length_eq_zero_iff.1 (HO.out.z.2.2.2.1 (by rw [hk]; decide))
  have hge : blkOf vG ≠ some g := fun e => by have := (qG.lt e).1; omega
  have hde : blkOf vD ≠ some g := fun e => by have := (qD.lt e).1; omega
  have hgc : blkOf vG ≠ some cb := fun e => by have := (qG.lt e).1; omega
  have hdc : blkOf vD ≠ some cb := fun e => by have := (qD.lt e).1; omega
  have bel0 : Below B w w := Below.refl _ _
  have x0 : w.cell? ⟨cb, 0, none⟩ = some (.int .i64 X.ty) := Zx.cell 0
  have HH := Lib.hid (And.intro hd hK)
  clear hd hK hrf H HT
  go_enter Try.func59, Try.ntmps59
  have c1 := rest_any g _ 0 w h (by have := cat_le X.P; have := HO.out.P; unfold maxLen; omega)
  go_wp2_with fail
  clear x0
  refine c1.mono ?_
  rintro e w1 ⟨rfl, h1, ht1⟩
  have Z1 := touch_blk ht1 Zx hne
  have bel1 := bel0.trans (touch_below ht1 hg hB)
  have qG1 := touch_qo ht1 qG hge
  have qD1 := touch_qo ht1 qD hde
  have hs1 := Nat.le_trans hb1 ht1.size
  clear c1 Zx h qG qD ht1 bel0
  have c2 := all_list X.P w1 HO.out.P (fun p hp => HO.out.pm p hp)
  generalize cat X.P = SS at *
  go_wp2_with fail
  refine c2.mono ?_
  rintro e w2 ⟨v, rfl, own2, hb2⟩
  have q2 := (Qo.of_owns own2).weaken (b1 := b1) (by omega)
  have Z2 := Z1.below hb2 Z1.lt
  have h2 : RD w2 g ByteArray.empty 0 := Blk.below h1 hb2 (Blk.lt h1)
  have bel2 := bel1.trans (hb2.mono (Nat.le_trans hB bel1.size))
  have qG2 := qG1.below hb2 (Nat.le_refl _)
  have qD2 := qD1.below hb2 (Nat.le_refl _)
  obtain ⟨o2, cp2, hv2, _, _⟩ := q2.shape
  subst hv2
  clear c2 own2 Z1 h1 bel1 qG1 qD1 hb2
  have CC := Z2.cell 11
  have FF := Z2.frozen 11
  have CC' : w2.cell? ⟨cb, 11, none⟩ = some (.slice none 0 0) := CC
  clear CC
  have qc2 : blkOf (.slice o2 X.P.length cp2) ≠ some cb := fun e => by have := (q2.lt e).1; omega
  have HE := Lib.hid (And.intro (Blk.far h2 (p := ⟨cb, 11, none⟩) (show g ≠ cb from Ne.symm hne) (.slice o2 X.P.length cp2)) (And.intro (Z2.set_ 11 (.slice o2 X.P.length cp2)) (And.intro (q2.far (p := ⟨cb, 11, none⟩) qc2 (.slice o2 X.P.length cp2)) (And.intro (qG2.far (p := ⟨cb, 11, none⟩) hgc (.slice o2 X.P.length cp2)) (And.intro (qD2.far (p := ⟨cb, 11, none⟩) hdc (.slice o2 X.P.length cp2)) (bel2.setCell (p := ⟨cb, 11, none⟩) hc (.slice o2 X.P.length cp2)))))))
  clear q2 qG2 qD2 Z2 h2 bel2
  go_wp2_with fail
  go_ret
  refine ⟨rfl, .slice o2 X.P.length cp2, (.slice none 0 0), HE.out.1, ?_, HE.out.2.2.1, ?_, HE.out.2.2.2.1, HE.out.2.2.2.2.1, HE.out.2.2.2.2.2⟩
  · have := HE.out.2.1
    unfold ckc
    rw [HH.out.1]
    exact this
  · rw [HH.out.2]; exact Qo.nil _ _ _
set_option maxHeartbeats 4000000 in
theorem rest_6 {X : Ck} {w : World} {B b1 g cb : Nat} {vG vD : Value} (HT : X.ty = 6) (H : CkOk X) (h : RD w g (restF X) 0) (Zx : Blk w cb 28 (numC X vG vD)) (qG : Qo w b1 2 vG X.G.length (cellsG X.G)) (qD : Qo w b1 1 vD X.D.length (X.D.map (.int .u32))) (hne : cb ≠ g) (hg : B ≤ g) (hc : B ≤ cb) (hB : B ≤ w.heap.size) (hg1 : g < b1) (hc1 : cb < b1) (hb1 : b1 ≤ w.heap.size) : Calls Try.prog 59 #[.pointer (some ⟨g, 0, none⟩), .pointer (some ⟨cb, 0, none⟩)] w fun e w' => e = .returned (.int .i64 0) ∧ RestPost X vG vD g cb B b1 w w' := by
  have hk : kindV X.ty = 6 := by rw [HT]; rfl
  have e1 : (X.ty == 1) = false := by rw [HT]; rfl
  have e2 : (X.ty == 2) = false := by rw [HT]; rfl
  have e193 : (X.ty == 193) = false := by rw [HT]; rfl
  have e128 : (X.ty == 128) = false := by rw [HT]; rfl
  have e130 : (X.ty == 130) = false := by rw [HT]; rfl
  have e6 : (X.ty == 6) = true := by rw [HT]; rfl
  have e9 : (X.ty == 9) = false := by rw [HT]; rfl
  have e4 : (X.ty == 4) = false := by rw [HT]; rfl
  have e5 : (X.ty == 5) = false := by rw [HT]; rfl
  have e3 : (X.ty == 3) = false := by rw [HT]; rfl
  have e7 : (X.ty == 7) = false := by rw [HT]; rfl
  have e8 : (X.ty == 8) = false := by rw [HT]; rfl
  have e11 : (X.ty == 11) = false := by rw [HT]; rfl
  have e14 : (X.ty == 14) = false := by rw [HT]; rfl
  have hrf : restF X = cat X.K := by unfold restF; rw [hk]; rfl
  rw [hrf] at h
  have HO := Lib.hid H
  have hd : X.d = ByteArray.empty := HO.out.z.1.2.2.2 (by rw [hk]; decide) (by rw [hk]; decide) (by rw [hk]; decide) (by rw [hk]; decide) (by rw [hk]; decide)
  have hP : X.P = [] := List.length_eq_zero_iff.1 (HO.out.z.2.2.1 (by rw [hk]; decide) (by rw [hk]; decide))
  have hge : blkOf vG ≠ some g := fun e => by have := (qG.lt e).1; omega
  have hde : blkOf vD ≠ some g := fun e => by have := (qD.lt e).1; omega
  have hgc : blkOf vG ≠ some cb := fun e => by have := (qG.lt e).1; omega
  have hdc : blkOf vD ≠ some cb := fun e => by have := (qD.lt e).1; omega
  have bel0 : Below B w w := Below.refl _ _
  have x0 : w.cell? ⟨cb, 0, none⟩ = some (.int .i64 X.ty) := Zx.cell 0
  have HH := Lib.hid (And.intro hd hP)
  clear hd hP hrf H HT
  go_enter Try.func59, Try.ntmps59
  have c1 := rest_any g _ 0 w h (by have := cat_le X.K; have := HO.out.K; unfold maxLen; omega)
  go_wp2_with fail
  clear x0
  refine c1.mono ?_
  rintro e w1 ⟨rfl, h1, ht1⟩
  have Z1 := touch_blk ht1 Zx hne
  have bel1 := bel0.trans (touch_below ht1 hg hB)
  have qG1 := touch_qo ht1 qG hge
  have qD1 := touch_qo ht1 qD hde
  have hs1 := Nat.le_trans hb1 ht1.size
  clear c1 Zx h qG qD ht1 bel0
  have c2 := call_list X.K w1 HO.out.K (fun p hp => HO.out.km p hp)
  generalize cat X.K = SS at *
  go_wp2_with fail
  refine c2.mono ?_
  rintro e w2 ⟨v, rfl, own2, hb2⟩
  have q2 := (Qo.of_owns own2).weaken (b1 := b1) (by omega)
  have Z2 := Z1.below hb2 Z1.lt
  have h2 : RD w2 g ByteArray.empty 0 := Blk.below h1 hb2 (Blk.lt h1)
  have bel2 := bel1.trans (hb2.mono (Nat.le_trans hB bel1.size))
  have qG2 := qG1.below hb2 (Nat.le_refl _)
  have qD2 := qD1.below hb2 (Nat.le_refl _)
  obtain ⟨o2, cp2, hv2, _, _⟩ := q2.shape
  subst hv2
  clear c2 own2 Z1 h1 bel1 qG1 qD1 hb2
  have CC := Z2.cell 12
  have FF := Z2.frozen 12
  have CC' : w2.cell? ⟨cb, 12, none⟩ = some (.slice none 0 0) := CC
  clear CC
  have qc2 : blkOf (.slice o2 X.K.length cp2) ≠ some cb := fun e => by have := (q2.lt e).1; omega
  have HE := Lib.hid (And.intro (Blk.far h2 (p := ⟨cb, 12, none⟩) (show g ≠ cb from Ne.symm hne) (.slice o2 X.K.length cp2)) (And.intro (Z2.set_ 12 (.slice o2 X.K.length cp2)) (And.intro (q2.far (p := ⟨cb, 12, none⟩) qc2 (.slice o2 X.K.length cp2)) (And.intro (qG2.far (p := ⟨cb, 12, none⟩) hgc (.slice o2 X.K.length cp2)) (And.intro (qD2.far (p := ⟨cb, 12, none⟩) hdc (.slice o2 X.K.length cp2)) (bel2.setCell (p := ⟨cb, 12, none⟩) hc (.slice o2 X.K.length cp2)))))))
  clear q2 qG2 qD2 Z2 h2 bel2
  go_wp2_with fail
  go_ret
  refine ⟨rfl, (.slice none 0 0), .slice o2 X.K.length cp2, HE.out.1, ?_, ?_, HE.out.2.2.1, HE.out.2.2.2.1, HE.out.2.2.2.2.1, HE.out.2.2.2.2.2⟩
  · have := HE.out.2.1
    unfold ckc
    rw [HH.out.1]
    exact this
  · rw [HH.out.2]; exact Qo.nil _ _ _
set_option maxHeartbeats 4000000 in
theorem rest_9 {X : Ck} {w : World} {B b1 g cb : Nat} {vG vD : Value} (HT : X.ty = 9) (H : CkOk X) (h : RD w g (restF X) 0) (Zx : Blk w cb 28 (numC X vG vD)) (qG : Qo w b1 2 vG X.G.length (cellsG X.G)) (qD : Qo w b1 1 vD X.D.length (X.D.map (.int .u32))) (hne : cb ≠ g) (hg : B ≤ g) (hc : B ≤ cb) (hB : B ≤ w.heap.size) (hg1 : g < b1) (hc1 : cb < b1) (hb1 : b1 ≤ w.heap.size) : Calls Try.prog 59 #[.pointer (some ⟨g, 0, none⟩), .pointer (some ⟨cb, 0, none⟩)] w fun e w' => e = .returned (.int .i64 0) ∧ RestPost X vG vD g cb B b1 w w' := by
  have hk : kindV X.ty = 6 := by rw [HT]; rfl
  have e1 : (X.ty == 1) = false := by rw [HT]; rfl
  have e2 : (X.ty == 2) = false := by rw [HT]; rfl
  have e193 : (X.ty == 193) = false := by rw [HT]; rfl
  have e128 : (X.ty == 128) = false := by rw [HT]; rfl
  have e130 : (X.ty == 130) = false := by rw [HT]; rfl
  have e6 : (X.ty == 6) = false := by rw [HT]; rfl
  have e9 : (X.ty == 9) = true := by rw [HT]; rfl
  have e4 : (X.ty == 4) = false := by rw [HT]; rfl
  have e5 : (X.ty == 5) = false := by rw [HT]; rfl
  have e3 : (X.ty == 3) = false := by rw [HT]; rfl
  have e7 : (X.ty == 7) = false := by rw [HT]; rfl
  have e8 : (X.ty == 8) = false := by rw [HT]; rfl
  have e11 : (X.ty == 11) = false := by rw [HT]; rfl
  have e14 : (X.ty == 14) = false := by rw [HT]; rfl
  have hrf : restF X = cat X.K := by unfold restF; rw [hk]; rfl
  rw [hrf] at h
  have HO := Lib.hid H
  have hd : X.d = ByteArray.empty := HO.out.z.1.2.2.2 (by rw [hk]; decide) (by rw [hk]; decide) (by rw [hk]; decide) (by rw [hk]; decide) (by rw [hk]; decide)
  have hP : X.P = [] := List.length_eq_zero_iff.1 (HO.out.z.2.2.1 (by rw [hk]; decide) (by rw [hk]; decide))
  have hge : blkOf vG ≠ some g := fun e => by have := (qG.lt e).1; omega
  have hde : blkOf vD ≠ some g := fun e => by have := (qD.lt e).1; omega
  have hgc : blkOf vG ≠ some cb := fun e => by have := (qG.lt e).1; omega
  have hdc : blkOf vD ≠ some cb := fun e => by have := (qD.lt e).1; omega
  have bel0 : Below B w w := Below.refl _ _
  have x0 : w.cell? ⟨cb, 0, none⟩ = some (.int .i64 X.ty) := Zx.cell 0
  have HH := Lib.hid (And.intro hd hP)
  clear hd hP hrf H HT
  go_enter Try.func59, Try.ntmps59
  have c1 := rest_any g _ 0 w h (by have := cat_le X.K; have := HO.out.K; unfold maxLen; omega)
  go_wp2_with fail
  clear x0
  refine c1.mono ?_
  rintro e w1 ⟨rfl, h1, ht1⟩
  have Z1 := touch_blk ht1 Zx hne
  have bel1 := bel0.trans (touch_below ht1 hg hB)
  have qG1 := touch_qo ht1 qG hge
  have qD1 := touch_qo ht1 qD hde
  have hs1 := Nat.le_trans hb1 ht1.size
  clear c1 Zx h qG qD ht1 bel0
  have c2 := call_list X.K w1 HO.out.K (fun p hp => HO.out.km p hp)
  generalize cat X.K = SS at *
  go_wp2_with fail
  refine c2.mono ?_
  rintro e w2 ⟨v, rfl, own2, hb2⟩
  have q2 := (Qo.of_owns own2).weaken (b1 := b1) (by omega)
  have Z2 := Z1.below hb2 Z1.lt
  have h2 : RD w2 g ByteArray.empty 0 := Blk.below h1 hb2 (Blk.lt h1)
  have bel2 := bel1.trans (hb2.mono (Nat.le_trans hB bel1.size))
  have qG2 := qG1.below hb2 (Nat.le_refl _)
  have qD2 := qD1.below hb2 (Nat.le_refl _)
  obtain ⟨o2, cp2, hv2, _, _⟩ := q2.shape
  subst hv2
  clear c2 own2 Z1 h1 bel1 qG1 qD1 hb2
  have CC := Z2.cell 12
  have FF := Z2.frozen 12
  have CC' : w2.cell? ⟨cb, 12, none⟩ = some (.slice none 0 0) := CC
  clear CC
  have qc2 : blkOf (.slice o2 X.K.length cp2) ≠ some cb := fun e => by have := (q2.lt e).1; omega
  have HE := Lib.hid (And.intro (Blk.far h2 (p := ⟨cb, 12, none⟩) (show g ≠ cb from Ne.symm hne) (.slice o2 X.K.length cp2)) (And.intro (Z2.set_ 12 (.slice o2 X.K.length cp2)) (And.intro (q2.far (p := ⟨cb, 12, none⟩) qc2 (.slice o2 X.K.length cp2)) (And.intro (qG2.far (p := ⟨cb, 12, none⟩) hgc (.slice o2 X.K.length cp2)) (And.intro (qD2.far (p := ⟨cb, 12, none⟩) hdc (.slice o2 X.K.length cp2)) (bel2.setCell (p := ⟨cb, 12, none⟩) hc (.slice o2 X.K.length cp2)))))))
  clear q2 qG2 qD2 Z2 h2 bel2
  go_wp2_with fail
  go_ret
  refine ⟨rfl, (.slice none 0 0), .slice o2 X.K.length cp2, HE.out.1, ?_, ?_, HE.out.2.2.1, HE.out.2.2.2.1, HE.out.2.2.2.2.1, HE.out.2.2.2.2.2⟩
  · have := HE.out.2.1
    unfold ckc
    rw [HH.out.1]
    exact this
  · rw [HH.out.2]; exact Qo.nil _ _ _
set_option maxHeartbeats 4000000 in
theorem rest_4 {X : Ck} {w : World} {B b1 g cb : Nat} {vG vD : Value} (HT : X.ty = 4) (H : CkOk X) (h : RD w g (restF X) 0) (Zx : Blk w cb 28 (numC X vG vD)) (qG : Qo w b1 2 vG X.G.length (cellsG X.G)) (qD : Qo w b1 1 vD X.D.length (X.D.map (.int .u32))) (hne : cb ≠ g) (hg : B ≤ g) (hc : B ≤ cb) (hB : B ≤ w.heap.size) (hg1 : g < b1) (hc1 : cb < b1) (hb1 : b1 ≤ w.heap.size) : Calls Try.prog 59 #[.pointer (some ⟨g, 0, none⟩), .pointer (some ⟨cb, 0, none⟩)] w fun e w' => e = .returned (.int .i64 0) ∧ RestPost X vG vD g cb B b1 w w' := by
  have hk : kindV X.ty = 4 := by rw [HT]; rfl
  have e1 : (X.ty == 1) = false := by rw [HT]; rfl
  have e2 : (X.ty == 2) = false := by rw [HT]; rfl
  have e193 : (X.ty == 193) = false := by rw [HT]; rfl
  have e128 : (X.ty == 128) = false := by rw [HT]; rfl
  have e130 : (X.ty == 130) = false := by rw [HT]; rfl
  have e6 : (X.ty == 6) = false := by rw [HT]; rfl
  have e9 : (X.ty == 9) = false := by rw [HT]; rfl
  have e4 : (X.ty == 4) = true := by rw [HT]; rfl
  have e5 : (X.ty == 5) = false := by rw [HT]; rfl
  have e3 : (X.ty == 3) = false := by rw [HT]; rfl
  have e7 : (X.ty == 7) = false := by rw [HT]; rfl
  have e8 : (X.ty == 8) = false := by rw [HT]; rfl
  have e11 : (X.ty == 11) = false := by rw [HT]; rfl
  have e14 : (X.ty == 14) = false := by rw [HT]; rfl
  have hrf : restF X = putP 1 X.d := by unfold restF; rw [hk]; rfl
  rw [hrf] at h
  have HO := Lib.hid H
  have hP : X.P = [] := List.length_eq_zero_iff.1 (HO.out.z.2.2.1 (by rw [hk]; decide) (by rw [hk]; decide))
  have hK : X.K = [] := List.length_eq_zero_iff.1 (HO.out.z.2.2.2.1 (by rw [hk]; decide))
  have hge : blkOf vG ≠ some g := fun e => by have := (qG.lt e).1; omega
  have hde : blkOf vD ≠ some g := fun e => by have := (qD.lt e).1; omega
  have hgc : blkOf vG ≠ some cb := fun e => by have := (qG.lt e).1; omega
  have hdc : blkOf vD ≠ some cb := fun e => by have := (qD.lt e).1; omega
  have bel0 : Below B w w := Below.refl _ _
  have x0 : w.cell? ⟨cb, 0, none⟩ = some (.int .i64 X.ty) := Zx.cell 0
  have HH := Lib.hid (And.intro hP hK)
  clear hP hK hrf H HT
  go_enter Try.func59, Try.ntmps59
  have hmp : mayP 1 X.d = true := mayP_yes (by decide) (by decide) (by have := HO.out.d; omega)
  obtain ⟨t1, t2, t3⟩ := put_take (R := ByteArray.empty) hmp
  rw [ByteArray.append_empty] at t1 t2 t3
  have c1 := par.take_any g _ 0 w h (by have := putP_le 1 X.d; unfold maxLen; omega)
  rw [t1, t2, t3] at c1
  clear t1 t2 t3 hmp
  go_wp2_with fail
  clear x0
  refine c1.mono ?_
  rintro e w1 ⟨rfl, h1, ht1⟩
  have Z1 := touch_blk ht1 Zx hne
  have bel1 := bel0.trans (touch_below ht1 hg hB)
  have qG1 := touch_qo ht1 qG hge
  have qD1 := touch_qo ht1 qD hde
  have P2 := Blk.new w1 40 #[.int .i64 1, .string X.d]
  have Z2 := Z1.alloc (.cells #[.int .i64 1, .string X.d] 40)
  have h2 := Blk.alloc h1 (.cells #[.int .i64 1, .string X.d] 40)
  have bel2 := bel1.alloc (Nat.le_trans hB bel1.size) (.cells #[.int .i64 1, .string X.d] 40)
  have qG2 := qG1.alloc (.cells #[.int .i64 1, .string X.d] 40)
  have qD2 := qD1.alloc (.cells #[.int .i64 1, .string X.d] 40)
  clear c1 Zx h qG qD ht1 bel0 Z1 h1 bel1 qG1 qD1
  go_upto_region 16 with fail
  obtain ⟨w2, hw2⟩ : ∃ w2, w1.alloc (.cells #[.int .i64 1, .string X.d] 40) = w2 := ⟨_, rfl⟩
  rw [hw2] at P2 Z2 h2 bel2 qG2 qD2
  try rw [hw2]
  clear hw2
  obtain ⟨pb, hpb⟩ : ∃ pb, w1.heap.size = pb := ⟨_, rfl⟩
  rw [hpb] at P2
  try rw [hpb]
  clear hpb
  have p0 : w2.cell? ⟨pb, 0, none⟩ = some (.int .i64 1) := P2.cell 0
  have p1 : w2.cell? ⟨pb, 1, none⟩ = some (.string X.d) := P2.cell 1
  have c2 := err_any g _ 0 w2 h2
  have CC' : w2.cell? ⟨cb, 6, none⟩ = some (.string ⟨#[]⟩) := Z2.cell 6
  have FF := Z2.frozen 6
  have HE := Lib.hid (And.intro (Blk.far h2 (p := ⟨cb, 6, none⟩) (show g ≠ cb from Ne.symm hne) (.string X.d)) (And.intro (Z2.set_ 6 (.string X.d)) (And.intro (qG2.far (p := ⟨cb, 6, none⟩) hgc (.string X.d)) (And.intro (qD2.far (p := ⟨cb, 6, none⟩) hdc (.string X.d)) (bel2.setCell (p := ⟨cb, 6, none⟩) hc (.string X.d))))))
  clear qG2 qD2 Z2 h2 bel2 P2
  go_wp2_with (go_at_call 30; refine c2.mono ?_; rintro e w3 ⟨rfl, rfl⟩)
  go_ret
  refine ⟨rfl, (.slice none 0 0), (.slice none 0 0), HE.out.1, HE.out.2.1, ?_, ?_, HE.out.2.2.1, HE.out.2.2.2.1, HE.out.2.2.2.2⟩
  · rw [HH.out.1]; exact Qo.nil _ _ _
  · rw [HH.out.2]; exact Qo.nil _ _ _
set_option maxHeartbeats 4000000 in
theorem rest_5 {X : Ck} {w : World} {B b1 g cb : Nat} {vG vD : Value} (HT : X.ty = 5) (H : CkOk X) (h : RD w g (restF X) 0) (Zx : Blk w cb 28 (numC X vG vD)) (qG : Qo w b1 2 vG X.G.length (cellsG X.G)) (qD : Qo w b1 1 vD X.D.length (X.D.map (.int .u32))) (hne : cb ≠ g) (hg : B ≤ g) (hc : B ≤ cb) (hB : B ≤ w.heap.size) (hg1 : g < b1) (hc1 : cb < b1) (hb1 : b1 ≤ w.heap.size) : Calls Try.prog 59 #[.pointer (some ⟨g, 0, none⟩), .pointer (some ⟨cb, 0, none⟩)] w fun e w' => e = .returned (.int .i64 0) ∧ RestPost X vG vD g cb B b1 w w' := by
  have hk : kindV X.ty = 4 := by rw [HT]; rfl
  have e1 : (X.ty == 1) = false := by rw [HT]; rfl
  have e2 : (X.ty == 2) = false := by rw [HT]; rfl
  have e193 : (X.ty == 193) = false := by rw [HT]; rfl
  have e128 : (X.ty == 128) = false := by rw [HT]; rfl
  have e130 : (X.ty == 130) = false := by rw [HT]; rfl
  have e6 : (X.ty == 6) = false := by rw [HT]; rfl
  have e9 : (X.ty == 9) = false := by rw [HT]; rfl
  have e4 : (X.ty == 4) = false := by rw [HT]; rfl
  have e5 : (X.ty == 5) = true := by rw [HT]; rfl
  have e3 : (X.ty == 3) = false := by rw [HT]; rfl
  have e7 : (X.ty == 7) = false := by rw [HT]; rfl
  have e8 : (X.ty == 8) = false := by rw [HT]; rfl
  have e11 : (X.ty == 11) = false := by rw [HT]; rfl
  have e14 : (X.ty == 14) = false := by rw [HT]; rfl
  have hrf : restF X = putP 1 X.d := by unfold restF; rw [hk]; rfl
  rw [hrf] at h
  have HO := Lib.hid H
  have hP : X.P = [] := List.length_eq_zero_iff.1 (HO.out.z.2.2.1 (by rw [hk]; decide) (by rw [hk]; decide))
  have hK : X.K = [] := List.length_eq_zero_iff.1 (HO.out.z.2.2.2.1 (by rw [hk]; decide))
  have hge : blkOf vG ≠ some g := fun e => by have := (qG.lt e).1; omega
  have hde : blkOf vD ≠ some g := fun e => by have := (qD.lt e).1; omega
  have hgc : blkOf vG ≠ some cb := fun e => by have := (qG.lt e).1; omega
  have hdc : blkOf vD ≠ some cb := fun e => by have := (qD.lt e).1; omega
  have bel0 : Below B w w := Below.refl _ _
  have x0 : w.cell? ⟨cb, 0, none⟩ = some (.int .i64 X.ty) := Zx.cell 0
  have HH := Lib.hid (And.intro hP hK)
  clear hP hK hrf H HT
  go_enter Try.func59, Try.ntmps59
  have hmp : mayP 1 X.d = true := mayP_yes (by decide) (by decide) (by have := HO.out.d; omega)
  obtain ⟨t1, t2, t3⟩ := put_take (R := ByteArray.empty) hmp
  rw [ByteArray.append_empty] at t1 t2 t3
  have c1 := par.take_any g _ 0 w h (by have := putP_le 1 X.d; unfold maxLen; omega)
  rw [t1, t2, t3] at c1
  clear t1 t2 t3 hmp
  go_wp2_with fail
  clear x0
  refine c1.mono ?_
  rintro e w1 ⟨rfl, h1, ht1⟩
  have Z1 := touch_blk ht1 Zx hne
  have bel1 := bel0.trans (touch_below ht1 hg hB)
  have qG1 := touch_qo ht1 qG hge
  have qD1 := touch_qo ht1 qD hde
  have P2 := Blk.new w1 40 #[.int .i64 1, .string X.d]
  have Z2 := Z1.alloc (.cells #[.int .i64 1, .string X.d] 40)
  have h2 := Blk.alloc h1 (.cells #[.int .i64 1, .string X.d] 40)
  have bel2 := bel1.alloc (Nat.le_trans hB bel1.size) (.cells #[.int .i64 1, .string X.d] 40)
  have qG2 := qG1.alloc (.cells #[.int .i64 1, .string X.d] 40)
  have qD2 := qD1.alloc (.cells #[.int .i64 1, .string X.d] 40)
  clear c1 Zx h qG qD ht1 bel0 Z1 h1 bel1 qG1 qD1
  go_upto_region 16 with fail
  obtain ⟨w2, hw2⟩ : ∃ w2, w1.alloc (.cells #[.int .i64 1, .string X.d] 40) = w2 := ⟨_, rfl⟩
  rw [hw2] at P2 Z2 h2 bel2 qG2 qD2
  try rw [hw2]
  clear hw2
  obtain ⟨pb, hpb⟩ : ∃ pb, w1.heap.size = pb := ⟨_, rfl⟩
  rw [hpb] at P2
  try rw [hpb]
  clear hpb
  have p0 : w2.cell? ⟨pb, 0, none⟩ = some (.int .i64 1) := P2.cell 0
  have p1 : w2.cell? ⟨pb, 1, none⟩ = some (.string X.d) := P2.cell 1
  have c2 := err_any g _ 0 w2 h2
  have CC' : w2.cell? ⟨cb, 6, none⟩ = some (.string ⟨#[]⟩) := Z2.cell 6
  have FF := Z2.frozen 6
  have HE := Lib.hid (And.intro (Blk.far h2 (p := ⟨cb, 6, none⟩) (show g ≠ cb from Ne.symm hne) (.string X.d)) (And.intro (Z2.set_ 6 (.string X.d)) (And.intro (qG2.far (p := ⟨cb, 6, none⟩) hgc (.string X.d)) (And.intro (qD2.far (p := ⟨cb, 6, none⟩) hdc (.string X.d)) (bel2.setCell (p := ⟨cb, 6, none⟩) hc (.string X.d))))))
  clear qG2 qD2 Z2 h2 bel2 P2
  go_wp2_with (go_at_call 30; refine c2.mono ?_; rintro e w3 ⟨rfl, rfl⟩)
  go_ret
  refine ⟨rfl, (.slice none 0 0), (.slice none 0 0), HE.out.1, HE.out.2.1, ?_, ?_, HE.out.2.2.1, HE.out.2.2.2.1, HE.out.2.2.2.2⟩
  · rw [HH.out.1]; exact Qo.nil _ _ _
  · rw [HH.out.2]; exact Qo.nil _ _ _
set_option maxHeartbeats 4000000 in
theorem rest_3 {X : Ck} {w : World} {B b1 g cb : Nat} {vG vD : Value} (HT : X.ty = 3) (H : CkOk X) (h : RD w g (restF X) 0) (Zx : Blk w cb 28 (numC X vG vD)) (qG : Qo w b1 2 vG X.G.length (cellsG X.G)) (qD : Qo w b1 1 vD X.D.length (X.D.map (.int .u32))) (hne : cb ≠ g) (hg : B ≤ g) (hc : B ≤ cb) (hB : B ≤ w.heap.size) (hg1 : g < b1) (hc1 : cb < b1) (hb1 : b1 ≤ w.heap.size) : Calls Try.prog 59 #[.pointer (some ⟨g, 0, none⟩), .pointer (some ⟨cb, 0, none⟩)] w fun e w' => e = .returned (.int .i64 0) ∧ RestPost X vG vD g cb B b1 w w' := by
  have hk : kindV X.ty = 3 := by rw [HT]; rfl
  have e1 : (X.ty == 1) = false := by rw [HT]; rfl
  have e2 : (X.ty == 2) = false := by rw [HT]; rfl
  have e193 : (X.ty == 193) = false := by rw [HT]; rfl
  have e128 : (X.ty == 128) = false := by rw [HT]; rfl
  have e130 : (X.ty == 130) = false := by rw [HT]; rfl
  have e6 : (X.ty == 6) = false := by rw [HT]; rfl
  have e9 : (X.ty == 9) = false := by rw [HT]; rfl
  have e4 : (X.ty == 4) = false := by rw [HT]; rfl
  have e5 : (X.ty == 5) = false := by rw [HT]; rfl
  have e3 : (X.ty == 3) = true := by rw [HT]; rfl
  have e7 : (X.ty == 7) = false := by rw [HT]; rfl
  have e8 : (X.ty == 8) = false := by rw [HT]; rfl
  have e11 : (X.ty == 11) = false := by rw [HT]; rfl
  have e14 : (X.ty == 14) = false := by rw [HT]; rfl
  have hrf : restF X = ByteArray.empty := by unfold restF; rw [hk]; rfl
  rw [hrf] at h
  have HO := Lib.hid H
  have hd : X.d = ByteArray.empty := HO.out.z.1.2.2.2 (by rw [hk]; decide) (by rw [hk]; decide) (by rw [hk]; decide) (by rw [hk]; decide) (by rw [hk]; decide)
  have hP : X.P = [] := List.length_eq_zero_iff.1 (HO.out.z.2.2.1 (by rw [hk]; decide) (by rw [hk]; decide))
  have hK : X.K = [] := List.length_eq_zero_iff.1 (HO.out.z.2.2.2.1 (by rw [hk]; decide))
  have hge : blkOf vG ≠ some g := fun e => by have := (qG.lt e).1; omega
  have hde : blkOf vD ≠ some g := fun e => by have := (qD.lt e).1; omega
  have hgc : blkOf vG ≠ some cb := fun e => by have := (qG.lt e).1; omega
  have hdc : blkOf vD ≠ some cb := fun e => by have := (qD.lt e).1; omega
  have bel0 : Below B w w := Below.refl _ _
  have x0 : w.cell? ⟨cb, 0, none⟩ = some (.int .i64 X.ty) := Zx.cell 0
  have HH := Lib.hid (And.intro hd (And.intro hP hK))
  clear hd hP hK hrf H HT
  go_enter Try.func59, Try.ntmps59
  have HE := Lib.hid (And.intro h (And.intro Zx (And.intro qG (And.intro qD bel0))))
  clear h Zx qG qD bel0
  go_wp2_with fail
  go_ret
  refine ⟨rfl, (.slice none 0 0), (.slice none 0 0), HE.out.1, ?_, ?_, ?_, HE.out.2.2.1, HE.out.2.2.2.1, HE.out.2.2.2.2⟩
  · have := HE.out.2.1
    unfold ckc
    rw [HH.out.1]
    exact this
  · rw [HH.out.2.1]; exact Qo.nil _ _ _
  · rw [HH.out.2.2]; exact Qo.nil _ _ _
set_option maxHeartbeats 4000000 in
theorem rest_7 {X : Ck} {w : World} {B b1 g cb : Nat} {vG vD : Value} (HT : X.ty = 7) (H : CkOk X) (h : RD w g (restF X) 0) (Zx : Blk w cb 28 (numC X vG vD)) (qG : Qo w b1 2 vG X.G.length (cellsG X.G)) (qD : Qo w b1 1 vD X.D.length (X.D.map (.int .u32))) (hne : cb ≠ g) (hg : B ≤ g) (hc : B ≤ cb) (hB : B ≤ w.heap.size) (hg1 : g < b1) (hc1 : cb < b1) (hb1 : b1 ≤ w.heap.size) : Calls Try.prog 59 #[.pointer (some ⟨g, 0, none⟩), .pointer (some ⟨cb, 0, none⟩)] w fun e w' => e = .returned (.int .i64 0) ∧ RestPost X vG vD g cb B b1 w w' := by
  have hk : kindV X.ty = 7 := by rw [HT]; rfl
  have e1 : (X.ty == 1) = false := by rw [HT]; rfl
  have e2 : (X.ty == 2) = false := by rw [HT]; rfl
  have e193 : (X.ty == 193) = false := by rw [HT]; rfl
  have e128 : (X.ty == 128) = false := by rw [HT]; rfl
  have e130 : (X.ty == 130) = false := by rw [HT]; rfl
  have e6 : (X.ty == 6) = false := by rw [HT]; rfl
  have e9 : (X.ty == 9) = false := by rw [HT]; rfl
  have e4 : (X.ty == 4) = false := by rw [HT]; rfl
  have e5 : (X.ty == 5) = false := by rw [HT]; rfl
  have e3 : (X.ty == 3) = false := by rw [HT]; rfl
  have e7 : (X.ty == 7) = true := by rw [HT]; rfl
  have e8 : (X.ty == 8) = false := by rw [HT]; rfl
  have e11 : (X.ty == 11) = false := by rw [HT]; rfl
  have e14 : (X.ty == 14) = false := by rw [HT]; rfl
  have hrf : restF X = ByteArray.empty := by unfold restF; rw [hk]; rfl
  rw [hrf] at h
  have HO := Lib.hid H
  have hd : X.d = ByteArray.empty := HO.out.z.1.2.2.2 (by rw [hk]; decide) (by rw [hk]; decide) (by rw [hk]; decide) (by rw [hk]; decide) (by rw [hk]; decide)
  have hP : X.P = [] := List.length_eq_zero_iff.1 (HO.out.z.2.2.1 (by rw [hk]; decide) (by rw [hk]; decide))
  have hK : X.K = [] := List.length_eq_zero_iff.1 (HO.out.z.2.2.2.1 (by rw [hk]; decide))
  have hge : blkOf vG ≠ some g := fun e => by have := (qG.lt e).1; omega
  have hde : blkOf vD ≠ some g := fun e => by have := (qD.lt e).1; omega
  have hgc : blkOf vG ≠ some cb := fun e => by have := (qG.lt e).1; omega
  have hdc : blkOf vD ≠ some cb := fun e => by have := (qD.lt e).1; omega
  have bel0 : Below B w w := Below.refl _ _
  have x0 : w.cell? ⟨cb, 0, none⟩ = some (.int .i64 X.ty) := Zx.cell 0
  have HH := Lib.hid (And.intro hd (And.intro hP hK))
  clear hd hP hK hrf H HT
  go_enter Try.func59, Try.ntmps59
  have HE := Lib.hid (And.intro h (And.intro Zx (And.intro qG (And.intro qD bel0))))
  clear h Zx qG qD bel0
  go_wp2_with fail
  go_ret
  refine ⟨rfl, (.slice none 0 0), (.slice none 0 0), HE.out.1, ?_, ?_, ?_, HE.out.2.2.1, HE.out.2.2.2.1, HE.out.2.2.2.2⟩
  · have := HE.out.2.1
    unfold ckc
    rw [HH.out.1]
    exact this
  · rw [HH.out.2.1]; exact Qo.nil _ _ _
  · rw [HH.out.2.2]; exact Qo.nil _ _ _
set_option maxHeartbeats 4000000 in
theorem rest_8 {X : Ck} {w : World} {B b1 g cb : Nat} {vG vD : Value} (HT : X.ty = 8) (H : CkOk X) (h : RD w g (restF X) 0) (Zx : Blk w cb 28 (numC X vG vD)) (qG : Qo w b1 2 vG X.G.length (cellsG X.G)) (qD : Qo w b1 1 vD X.D.length (X.D.map (.int .u32))) (hne : cb ≠ g) (hg : B ≤ g) (hc : B ≤ cb) (hB : B ≤ w.heap.size) (hg1 : g < b1) (hc1 : cb < b1) (hb1 : b1 ≤ w.heap.size) : Calls Try.prog 59 #[.pointer (some ⟨g, 0, none⟩), .pointer (some ⟨cb, 0, none⟩)] w fun e w' => e = .returned (.int .i64 0) ∧ RestPost X vG vD g cb B b1 w w' := by
  have hk : kindV X.ty = 8 := by rw [HT]; rfl
  have e1 : (X.ty == 1) = false := by rw [HT]; rfl
  have e2 : (X.ty == 2) = false := by rw [HT]; rfl
  have e193 : (X.ty == 193) = false := by rw [HT]; rfl
  have e128 : (X.ty == 128) = false := by rw [HT]; rfl
  have e130 : (X.ty == 130) = false := by rw [HT]; rfl
  have e6 : (X.ty == 6) = false := by rw [HT]; rfl
  have e9 : (X.ty == 9) = false := by rw [HT]; rfl
  have e4 : (X.ty == 4) = false := by rw [HT]; rfl
  have e5 : (X.ty == 5) = false := by rw [HT]; rfl
  have e3 : (X.ty == 3) = false := by rw [HT]; rfl
  have e7 : (X.ty == 7) = false := by rw [HT]; rfl
  have e8 : (X.ty == 8) = true := by rw [HT]; rfl
  have e11 : (X.ty == 11) = false := by rw [HT]; rfl
  have e14 : (X.ty == 14) = false := by rw [HT]; rfl
  have hrf : restF X = ByteArray.empty := by unfold restF; rw [hk]; rfl
  rw [hrf] at h
  have HO := Lib.hid H
  have hd : X.d = ByteArray.empty := HO.out.z.1.2.2.2 (by rw [hk]; decide) (by rw [hk]; decide) (by rw [hk]; decide) (by rw [hk]; decide) (by rw [hk]; decide)
  have hP : X.P = [] := List.length_eq_zero_iff.1 (HO.out.z.2.2.1 (by rw [hk]; decide) (by rw [hk]; decide))
  have hK : X.K = [] := List.length_eq_zero_iff.1 (HO.out.z.2.2.2.1 (by rw [hk]; decide))
  have hge : blkOf vG ≠ some g := fun e => by have := (qG.lt e).1; omega
  have hde : blkOf vD ≠ some g := fun e => by have := (qD.lt e).1; omega
  have hgc : blkOf vG ≠ some cb := fun e => by have := (qG.lt e).1; omega
  have hdc : blkOf vD ≠ some cb := fun e => by have := (qD.lt e).1; omega
  have bel0 : Below B w w := Below.refl _ _
  have x0 : w.cell? ⟨cb, 0, none⟩ = some (.int .i64 X.ty) := Zx.cell 0
  have HH := Lib.hid (And.intro hd (And.intro hP hK))
  clear hd hP hK hrf H HT
  go_enter Try.func59, Try.ntmps59
  have HE := Lib.hid (And.intro h (And.intro Zx (And.intro qG (And.intro qD bel0))))
  clear h Zx qG qD bel0
  go_wp2_with fail
  go_ret
  refine ⟨rfl, (.slice none 0 0), (.slice none 0 0), HE.out.1, ?_, ?_, ?_, HE.out.2.2.1, HE.out.2.2.2.1, HE.out.2.2.2.2⟩
  · have := HE.out.2.1
    unfold ckc
    rw [HH.out.1]
    exact this
  · rw [HH.out.2.1]; exact Qo.nil _ _ _
  · rw [HH.out.2.2]; exact Qo.nil _ _ _
set_option maxHeartbeats 4000000 in
theorem rest_11 {X : Ck} {w : World} {B b1 g cb : Nat} {vG vD : Value} (HT : X.ty = 11) (H : CkOk X) (h : RD w g (restF X) 0) (Zx : Blk w cb 28 (numC X vG vD)) (qG : Qo w b1 2 vG X.G.length (cellsG X.G)) (qD : Qo w b1 1 vD X.D.length (X.D.map (.int .u32))) (hne : cb ≠ g) (hg : B ≤ g) (hc : B ≤ cb) (hB : B ≤ w.heap.size) (hg1 : g < b1) (hc1 : cb < b1) (hb1 : b1 ≤ w.heap.size) : Calls Try.prog 59 #[.pointer (some ⟨g, 0, none⟩), .pointer (some ⟨cb, 0, none⟩)] w fun e w' => e = .returned (.int .i64 0) ∧ RestPost X vG vD g cb B b1 w w' := by
  have hk : kindV X.ty = 8 := by rw [HT]; rfl
  have e1 : (X.ty == 1) = false := by rw [HT]; rfl
  have e2 : (X.ty == 2) = false := by rw [HT]; rfl
  have e193 : (X.ty == 193) = false := by rw [HT]; rfl
  have e128 : (X.ty == 128) = false := by rw [HT]; rfl
  have e130 : (X.ty == 130) = false := by rw [HT]; rfl
  have e6 : (X.ty == 6) = false := by rw [HT]; rfl
  have e9 : (X.ty == 9) = false := by rw [HT]; rfl
  have e4 : (X.ty == 4) = false := by rw [HT]; rfl
  have e5 : (X.ty == 5) = false := by rw [HT]; rfl
  have e3 : (X.ty == 3) = false := by rw [HT]; rfl
  have e7 : (X.ty == 7) = false := by rw [HT]; rfl
  have e8 : (X.ty == 8) = false := by rw [HT]; rfl
  have e11 : (X.ty == 11) = true := by rw [HT]; rfl
  have e14 : (X.ty == 14) = false := by rw [HT]; rfl
  have hrf : restF X = ByteArray.empty := by unfold restF; rw [hk]; rfl
  rw [hrf] at h
  have HO := Lib.hid H
  have hd : X.d = ByteArray.empty := HO.out.z.1.2.2.2 (by rw [hk]; decide) (by rw [hk]; decide) (by rw [hk]; decide) (by rw [hk]; decide) (by rw [hk]; decide)
  have hP : X.P = [] := List.length_eq_zero_iff.1 (HO.out.z.2.2.1 (by rw [hk]; decide) (by rw [hk]; decide))
  have hK : X.K = [] := List.length_eq_zero_iff.1 (HO.out.z.2.2.2.1 (by rw [hk]; decide))
  have hge : blkOf vG ≠ some g := fun e => by have := (qG.lt e).1; omega
  have hde : blkOf vD ≠ some g := fun e => by have := (qD.lt e).1; omega
  have hgc : blkOf vG ≠ some cb := fun e => by have := (qG.lt e).1; omega
  have hdc : blkOf vD ≠ some cb := fun e => by have := (qD.lt e).1; omega
  have bel0 : Below B w w := Below.refl _ _
  have x0 : w.cell? ⟨cb, 0, none⟩ = some (.int .i64 X.ty) := Zx.cell 0
  have HH := Lib.hid (And.intro hd (And.intro hP hK))
  clear hd hP hK hrf H HT
  go_enter Try.func59, Try.ntmps59
  have HE := Lib.hid (And.intro h (And.intro Zx (And.intro qG (And.intro qD bel0))))
  clear h Zx qG qD bel0
  go_wp2_with fail
  go_ret
  refine ⟨rfl, (.slice none 0 0), (.slice none 0 0), HE.out.1, ?_, ?_, ?_, HE.out.2.2.1, HE.out.2.2.2.1, HE.out.2.2.2.2⟩
  · have := HE.out.2.1
    unfold ckc
    rw [HH.out.1]
    exact this
  · rw [HH.out.2.1]; exact Qo.nil _ _ _
  · rw [HH.out.2.2]; exact Qo.nil _ _ _
set_option maxHeartbeats 4000000 in
theorem rest_14 {X : Ck} {w : World} {B b1 g cb : Nat} {vG vD : Value} (HT : X.ty = 14) (H : CkOk X) (h : RD w g (restF X) 0) (Zx : Blk w cb 28 (numC X vG vD)) (qG : Qo w b1 2 vG X.G.length (cellsG X.G)) (qD : Qo w b1 1 vD X.D.length (X.D.map (.int .u32))) (hne : cb ≠ g) (hg : B ≤ g) (hc : B ≤ cb) (hB : B ≤ w.heap.size) (hg1 : g < b1) (hc1 : cb < b1) (hb1 : b1 ≤ w.heap.size) : Calls Try.prog 59 #[.pointer (some ⟨g, 0, none⟩), .pointer (some ⟨cb, 0, none⟩)] w fun e w' => e = .returned (.int .i64 0) ∧ RestPost X vG vD g cb B b1 w w' := by
  have hk : kindV X.ty = 8 := by rw [HT]; rfl
  have e1 : (X.ty == 1) = false := by rw [HT]; rfl
  have e2 : (X.ty == 2) = false := by rw [HT]; rfl
  have e193 : (X.ty == 193) = false := by rw [HT]; rfl
  have e128 : (X.ty == 128) = false := by rw [HT]; rfl
  have e130 : (X.ty == 130) = false := by rw [HT]; rfl
  have e6 : (X.ty == 6) = false := by rw [HT]; rfl
  have e9 : (X.ty == 9) = false := by rw [HT]; rfl
  have e4 : (X.ty == 4) = false := by rw [HT]; rfl
  have e5 : (X.ty == 5) = false := by rw [HT]; rfl
  have e3 : (X.ty == 3) = false := by rw [HT]; rfl
  have e7 : (X.ty == 7) = false := by rw [HT]; rfl
  have e8 : (X.ty == 8) = false := by rw [HT]; rfl
  have e11 : (X.ty == 11) = false := by rw [HT]; rfl
  have e14 : (X.ty == 14) = true := by rw [HT]; rfl
  have hrf : restF X = ByteArray.empty := by unfold restF; rw [hk]; rfl
  rw [hrf] at h
  have HO := Lib.hid H
  have hd : X.d = ByteArray.empty := HO.out.z.1.2.2.2 (by rw [hk]; decide) (by rw [hk]; decide) (by rw [hk]; decide) (by rw [hk]; decide) (by rw [hk]; decide)
  have hP : X.P = [] := List.length_eq_zero_iff.1 (HO.out.z.2.2.1 (by rw [hk]; decide) (by rw [hk]; decide))
  have hK : X.K = [] := List.length_eq_zero_iff.1 (HO.out.z.2.2.2.1 (by rw [hk]; decide))
  have hge : blkOf vG ≠ some g := fun e => by have := (qG.lt e).1; omega
  have hde : blkOf vD ≠ some g := fun e => by have := (qD.lt e).1; omega
  have hgc : blkOf vG ≠ some cb := fun e => by have := (qG.lt e).1; omega
  have hdc : blkOf vD ≠ some cb := fun e => by have := (qD.lt e).1; omega
  have bel0 : Below B w w := Below.refl _ _
  have x0 : w.cell? ⟨cb, 0, none⟩ = some (.int .i64 X.ty) := Zx.cell 0
  have HH := Lib.hid (And.intro hd (And.intro hP hK))
  clear hd hP hK hrf H HT
  go_enter Try.func59, Try.ntmps59
  have HE := Lib.hid (And.intro h (And.intro Zx (And.intro qG (And.intro qD bel0))))
  clear h Zx qG qD bel0
  go_wp2_with fail
  go_ret
  refine ⟨rfl, (.slice none 0 0), (.slice none 0 0), HE.out.1, ?_, ?_, ?_, HE.out.2.2.1, HE.out.2.2.2.1, HE.out.2.2.2.2⟩
  · have := HE.out.2.1
    unfold ckc
    rw [HH.out.1]
    exact this
  · rw [HH.out.2.1]; exact Qo.nil _ _ _
  · rw [HH.out.2.2]; exact Qo.nil _ _ _
set_option maxHeartbeats 4000000 in
theorem rest_def {X : Ck} {w : World} {B b1 g cb : Nat} {vG vD : Value} (HT : kindV X.ty = 0 ∨ kindV X.ty = 10 ∨ kindV X.ty = 15 ∨ kindV X.ty = 20) (H : CkOk X) (h : RD w g (restF X) 0) (Zx : Blk w cb 28 (numC X vG vD)) (qG : Qo w b1 2 vG X.G.length (cellsG X.G)) (qD : Qo w b1 1 vD X.D.length (X.D.map (.int .u32))) (hne : cb ≠ g) (hg : B ≤ g) (hc : B ≤ cb) (hB : B ≤ w.heap.size) (hg1 : g < b1) (hc1 : cb < b1) (hb1 : b1 ≤ w.heap.size) : Calls Try.prog 59 #[.pointer (some ⟨g, 0, none⟩), .pointer (some ⟨cb, 0, none⟩)] w fun e w' => e = .returned (.int .i64 0) ∧ RestPost X vG vD g cb B b1 w w' := by
  have hk := HT
  have e1 : (X.ty == 1) = false := by
    rw [beq_eq_false_iff_ne]
    intro h
    rw [h] at HT
    exact absurd HT (by decide)
  have e2 : (X.ty == 2) = false := by
    rw [beq_eq_false_iff_ne]
    intro h
    rw [h] at HT
    exact absurd HT (by decide)
  have e193 : (X.ty == 193) = false := by
    rw [beq_eq_false_iff_ne]
    intro h
    rw [h] at HT
    exact absurd HT (by decide)
  have e128 : (X.ty == 128) = false := by
    rw [beq_eq_false_iff_ne]
    intro h
    rw [h] at HT
    exact absurd HT (by decide)
  have e130 : (X.ty == 130) = false := by
    rw [beq_eq_false_iff_ne]
    intro h
    rw [h] at HT
    exact absurd HT (by decide)
  have e6 : (X.ty == 6) = false := by
    rw [beq_eq_false_iff_ne]
    intro h
    rw [h] at HT
    exact absurd HT (by decide)
  have e9 : (X.ty == 9) = false := by
    rw [beq_eq_false_iff_ne]
    intro h
    rw [h] at HT
    exact absurd HT (by decide)
  have e4 : (X.ty == 4) = false := by
    rw [beq_eq_false_iff_ne]
    intro h
    rw [h] at HT
    exact absurd HT (by decide)
  have e5 : (X.ty == 5) = false := by
    rw [beq_eq_false_iff_ne]
    intro h
    rw [h] at HT
    exact absurd HT (by decide)
  have e3 : (X.ty == 3) = false := by
    rw [beq_eq_false_iff_ne]
    intro h
    rw [h] at HT
    exact absurd HT (by decide)
  have e7 : (X.ty == 7) = false := by
    rw [beq_eq_false_iff_ne]
    intro h
    rw [h] at HT
    exact absurd HT (by decide)
  have e8 : (X.ty == 8) = false := by
    rw [beq_eq_false_iff_ne]
    intro h
    rw [h] at HT
    exact absurd HT (by decide)
  have e11 : (X.ty == 11) = false := by
    rw [beq_eq_false_iff_ne]
    intro h
    rw [h] at HT
    exact absurd HT (by decide)
  have e14 : (X.ty == 14) = false := by
    rw [beq_eq_false_iff_ne]
    intro h
    rw [h] at HT
    exact absurd HT (by decide)
  have hrf : restF X = X.d := by unfold restF; rcases hk with h | h | h | h <;> rw [h] <;> rfl
  rw [hrf] at h
  have HO := Lib.hid H
  have hP : X.P = [] := List.length_eq_zero_iff.1 (HO.out.z.2.2.1 (by rcases hk with h | h | h | h <;> rw [h] <;> decide) (by rcases hk with h | h | h | h <;> rw [h] <;> decide))
  have hK : X.K = [] := List.length_eq_zero_iff.1 (HO.out.z.2.2.2.1 (by rcases hk with h | h | h | h <;> rw [h] <;> decide))
  have hge : blkOf vG ≠ some g := fun e => by have := (qG.lt e).1; omega
  have hde : blkOf vD ≠ some g := fun e => by have := (qD.lt e).1; omega
  have hgc : blkOf vG ≠ some cb := fun e => by have := (qG.lt e).1; omega
  have hdc : blkOf vD ≠ some cb := fun e => by have := (qD.lt e).1; omega
  have bel0 : Below B w w := Below.refl _ _
  have x0 : w.cell? ⟨cb, 0, none⟩ = some (.int .i64 X.ty) := Zx.cell 0
  have HH := Lib.hid (And.intro hP hK)
  clear hP hK hrf H
  go_enter Try.func59, Try.ntmps59
  have c1 := rest_any g _ 0 w h (by have := HO.out.d; unfold maxLen; omega)
  go_wp2_with fail
  clear x0
  refine c1.mono ?_
  rintro e w1 ⟨rfl, h1, ht1⟩
  have Z1 := touch_blk ht1 Zx hne
  have bel1 := bel0.trans (touch_below ht1 hg hB)
  have qG1 := touch_qo ht1 qG hge
  have qD1 := touch_qo ht1 qD hde
  clear c1 Zx h qG qD ht1 bel0
  have CC' : w1.cell? ⟨cb, 6, none⟩ = some (.string ⟨#[]⟩) := Z1.cell 6
  have FF := Z1.frozen 6
  have HE := Lib.hid (And.intro (Blk.far h1 (p := ⟨cb, 6, none⟩) (show g ≠ cb from Ne.symm hne) (.string X.d)) (And.intro (Z1.set_ 6 (.string X.d)) (And.intro (qG1.far (p := ⟨cb, 6, none⟩) hgc (.string X.d)) (And.intro (qD1.far (p := ⟨cb, 6, none⟩) hdc (.string X.d)) (bel1.setCell (p := ⟨cb, 6, none⟩) hc (.string X.d))))))
  clear qG1 qD1 Z1 h1 bel1
  go_wp2_with fail
  go_ret
  refine ⟨rfl, (.slice none 0 0), (.slice none 0 0), HE.out.1, HE.out.2.1, ?_, ?_, HE.out.2.2.1, HE.out.2.2.2.1, HE.out.2.2.2.2⟩
  · rw [HH.out.1]; exact Qo.nil _ _ _
  · rw [HH.out.2]; exact Qo.nil _ _ _
/-- What stands behind the numbers. -/
theorem rest_of {X : Ck} {w : World} {B b1 g cb : Nat} {vG vD : Value} (H : CkOk X) (h : RD w g (restF X) 0) (Zx : Blk w cb 28 (numC X vG vD)) (qG : Qo w b1 2 vG X.G.length (cellsG X.G)) (qD : Qo w b1 1 vD X.D.length (X.D.map (.int .u32))) (hne : cb ≠ g) (hg : B ≤ g) (hc : B ≤ cb) (hB : B ≤ w.heap.size) (hg1 : g < b1) (hc1 : cb < b1) (hb1 : b1 ≤ w.heap.size) : Calls Try.prog 59 #[.pointer (some ⟨g, 0, none⟩), .pointer (some ⟨cb, 0, none⟩)] w fun e w' => e = .returned (.int .i64 0) ∧ RestPost X vG vD g cb B b1 w w' := by
  by_cases h1 : X.ty = 1
  · exact rest_1 h1 H h Zx qG qD hne hg hc hB hg1 hc1 hb1
  by_cases h2 : X.ty = 2
  · exact rest_2 h2 H h Zx qG qD hne hg hc hB hg1 hc1 hb1
  by_cases h193 : X.ty = 193
  · exact rest_193 h193 H h Zx qG qD hne hg hc hB hg1 hc1 hb1
  by_cases h128 : X.ty = 128
  · exact rest_128 h128 H h Zx qG qD hne hg hc hB hg1 hc1 hb1
  by_cases h130 : X.ty = 130
  · exact rest_130 h130 H h Zx qG qD hne hg hc hB hg1 hc1 hb1
  by_cases h6 : X.ty = 6
  · exact rest_6 h6 H h Zx qG qD hne hg hc hB hg1 hc1 hb1
  by_cases h9 : X.ty = 9
  · exact rest_9 h9 H h Zx qG qD hne hg hc hB hg1 hc1 hb1
  by_cases h4 : X.ty = 4
  · exact rest_4 h4 H h Zx qG qD hne hg hc hB hg1 hc1 hb1
  by_cases h5 : X.ty = 5
  · exact rest_5 h5 H h Zx qG qD hne hg hc hB hg1 hc1 hb1
  by_cases h3 : X.ty = 3
  · exact rest_3 h3 H h Zx qG qD hne hg hc hB hg1 hc1 hb1
  by_cases h7 : X.ty = 7
  · exact rest_7 h7 H h Zx qG qD hne hg hc hB hg1 hc1 hb1
  by_cases h8 : X.ty = 8
  · exact rest_8 h8 H h Zx qG qD hne hg hc hB hg1 hc1 hb1
  by_cases h11 : X.ty = 11
  · exact rest_11 h11 H h Zx qG qD hne hg hc hB hg1 hc1 hb1
  by_cases h14 : X.ty = 14
  · exact rest_14 h14 H h Zx qG qD hne hg hc hB hg1 hc1 hb1
  refine rest_def ?_ H h Zx qG qD hne hg hc hB hg1 hc1 hb1
  unfold kindV
  (repeat' split) <;> omega
end Go.Proofs.Ytfpcneekbdcbcaa.ck
/- Layer 6: what a chunk says, read again (gen-cku.py wrote this). -/
namespace Go.Proofs.Ytfpcneekbdcbcaa.ck
open Go.ChangeShapes Go.WideShapes Go.ChangeAt Go.RowKit kit oct par chk bld cut
set_option maxRecDepth 100000

/-- A chunk's rows, all of them one's own. -/
structure CkQ (w : World) (b : Nat) (X : Ck) (vP vK vG vD : Value) : Prop where
  P : Qo w b 2 vP X.P.length (cellsP X.P)
  K : Qo w b 2 vK X.K.length (cellsP X.K)
  G : Qo w b 2 vG X.G.length (cellsG X.G)
  D : Qo w b 1 vD X.D.length (X.D.map (.int .u32))
theorem CkQ.ckm {w : World} {b : Nat} {X : Ck} {vP vK vG vD : Value} (h : CkQ w b X vP vK vG vD) : CkM w w.heap.size X vP vK vG vD := ⟨Qo.row h.P, Qo.row h.K, Qo.row h.G, Qo.row h.D⟩
theorem CkQ.below {w w' : World} {b k : Nat} {X : Ck} {vP vK vG vD : Value} (h : CkQ w b X vP vK vG vD) (hb : Below k w w') (hk : w.heap.size ≤ k) : CkQ w' b X vP vK vG vD := ⟨h.P.below hb hk, h.K.below hb hk, h.G.below hb hk, h.D.below hb hk⟩
theorem CkQ.setCells {w : World} {b g : Nat} {X : Ck} {vP vK vG vD : Value} (h : CkQ w b X vP vK vG vD) (hg : g < b) (o : Nat) (vs : List Value) : CkQ (w.setCells g o vs) b X vP vK vG vD :=
  ⟨cut.qo_setCells h.P (fun e => by have := (h.P.lt e).1; omega) o vs, cut.qo_setCells h.K (fun e => by have := (h.K.lt e).1; omega) o vs, cut.qo_setCells h.G (fun e => by have := (h.G.lt e).1; omega) o vs, cut.qo_setCells h.D (fun e => by have := (h.D.lt e).1; omega) o vs⟩
theorem ok_formed {X : Ck} (H : CkOk X) : formedF X = true ∧ fewF X.G.length X.D.length = true := by
  have := (may_iff X).2 H
  unfold mayF mayCV at this
  rw [Bool.and_eq_true] at this
  exact this
set_option maxHeartbeats 8000000 in
theorem parsed_any {X : Ck} {w : World} (H : CkOk X) (HWx : CkW X) : Calls Try.prog 31 #[.int .i64 X.ty, .int .i64 X.fl, .string (bodyF X)] w fun e w' => (∃ v1 v2 v3 v4, e = .returned (.tuple #[.agg (ckc X v1 v2 v3 v4), .int .i64 0]) ∧ CkQ w' w.heap.size X v1 v2 v3 v4) ∧ Below w.heap.size w w' := by
  have HO := Lib.hid H
  have HW := Lib.hid HWx
  obtain ⟨SS, hSS⟩ : ∃ SS, bodyF X = SS := ⟨_, rfl⟩
  have hsz : SS.size ≤ 17000 := by rw [← hSS]; exact bodyF_le H
  have HS := Lib.hid hSS
  obtain ⟨rb, hrb⟩ : ∃ rb, w.heap.size = rb := ⟨_, rfl⟩
  have HRB := Lib.hid hrb
  have R0 := (Blk.new w 28 #[.int .i64 0, .int .i64 0, .int .u32 0, .int .i64 0, .int .i64 0, .int .u32 0, .string ⟨#[]⟩, .int .u32 0, .int .u32 0, .int .i64 0, .int .i64 0, .slice none 0 0, .slice none 0 0, .slice none 0 0, .slice none 0 0]).alloc (.cells #[.int .i64 X.ty, .int .i64 X.fl, .int .u32 0, .int .i64 0, .int .i64 0, .int .u32 0, .string ⟨#[]⟩, .int .u32 0, .int .u32 0, .int .i64 0, .int .i64 0, .slice none 0 0, .slice none 0 0, .slice none 0 0, .slice none 0 0] 28)
  have Z0 := Blk.new (w.alloc (.cells #[.int .i64 0, .int .i64 0, .int .u32 0, .int .i64 0, .int .i64 0, .int .u32 0, .string ⟨#[]⟩, .int .u32 0, .int .u32 0, .int .i64 0, .int .i64 0, .slice none 0 0, .slice none 0 0, .slice none 0 0, .slice none 0 0] 28)) 28 #[.int .i64 X.ty, .int .i64 X.fl, .int .u32 0, .int .i64 0, .int .i64 0, .int .u32 0, .string ⟨#[]⟩, .int .u32 0, .int .u32 0, .int .i64 0, .int .i64 0, .slice none 0 0, .slice none 0 0, .slice none 0 0, .slice none 0 0]
  have bel0 := ((Below.refl w.heap.size w).alloc (Nat.le_refl _) (.cells #[.int .i64 0, .int .i64 0, .int .u32 0, .int .i64 0, .int .i64 0, .int .u32 0, .string ⟨#[]⟩, .int .u32 0, .int .u32 0, .int .i64 0, .int .i64 0, .slice none 0 0, .slice none 0 0, .slice none 0 0, .slice none 0 0] 28)).alloc (by simp) (.cells #[.int .i64 X.ty, .int .i64 X.fl, .int .u32 0, .int .i64 0, .int .i64 0, .int .u32 0, .string ⟨#[]⟩, .int .u32 0, .int .u32 0, .int .i64 0, .int .i64 0, .slice none 0 0, .slice none 0 0, .slice none 0 0, .slice none 0 0] 28)
  have hs1 : (w.alloc (.cells #[.int .i64 0, .int .i64 0, .int .u32 0, .int .i64 0, .int .i64 0, .int .u32 0, .string ⟨#[]⟩, .int .u32 0, .int .u32 0, .int .i64 0, .int .i64 0, .slice none 0 0, .slice none 0 0, .slice none 0 0, .slice none 0 0] 28)).heap.size = w.heap.size + 1 := by simp
  rw [hs1] at Z0
  rw [hSS]
  rw [hrb] at R0 Z0 bel0
  clear H HWx hSS hs1
  have hb : ∀ b : Bool, decide (kindV X.ty = 1) = b → Calls Try.prog 31 #[.int .i64 X.ty, .int .i64 X.fl, .string SS] w fun e w' => (∃ v1 v2 v3 v4, e = .returned (.tuple #[.agg (ckc X v1 v2 v3 v4), .int .i64 0]) ∧ CkQ w' w.heap.size X v1 v2 v3 v4) ∧ Below w.heap.size w w' := by
    intro b hb
    have HB := Lib.hid hb
    have htg : b = true → (X.tg == 0) = false := fun e => by
      rw [beq_eq_false_iff_ne]
      rcases HO.out.tg with h | h
      · exact h
      · rw [e, decide_eq_true_iff] at hb; exact absurd hb h
    clear hb
    go_enter Try.func31, Try.ntmps31
    go_upto_region 2 with fail
    try rw [hrb]
    obtain ⟨w1, hw1⟩ : ∃ w1, (w.alloc (.cells #[.int .i64 0, .int .i64 0, .int .u32 0, .int .i64 0, .int .i64 0, .int .u32 0, .string ⟨#[]⟩, .int .u32 0, .int .u32 0, .int .i64 0, .int .i64 0, .slice none 0 0, .slice none 0 0, .slice none 0 0, .slice none 0 0] 28)).alloc (.cells #[.int .i64 X.ty, .int .i64 X.fl, .int .u32 0, .int .i64 0, .int .i64 0, .int .u32 0, .string ⟨#[]⟩, .int .u32 0, .int .u32 0, .int .i64 0, .int .i64 0, .slice none 0 0, .slice none 0 0, .slice none 0 0, .slice none 0 0] 28) = w1 := ⟨_, rfl⟩
    rw [hw1] at R0 Z0 bel0
    try rw [hw1]
    clear hw1
    obtain ⟨cb, hcb⟩ : ∃ cb, rb + 1 = cb := ⟨_, rfl⟩
    rw [hcb] at Z0
    try rw [hcb]
    have hcl := Z0.lt
    have c1 := flagsMay_any X.ty X.fl HW.out.fl.1 HW.out.fl.2 w1
    rw [show flMay X.ty X.fl = true from decide_eq_true HO.out.fl] at c1
    go_upto_region 4 with (go_at_call 50; refine c1.mono ?_; rintro e w2 ⟨rfl, hb2⟩)
    have R2 := R0.below hb2 R0.lt
    have Z2 := Z0.below hb2 Z0.lt
    have bel2 := bel0.trans (hb2.mono (show rb ≤ w1.heap.size by omega))
    have hs2 := hb2.size
    clear c1 R0 Z0 bel0 hb2
    have c2 := new_any SS w2
    have h3 := RD.fresh w2 SS 0
    have R3 := R2.alloc (.cells #[.string SS, .int .i64 0] 47)
    have Z3 := Z2.alloc (.cells #[.string SS, .int .i64 0] 47)
    have bel3 := bel2.alloc (by omega) (.cells #[.string SS, .int .i64 0] 47)
    clear R2 Z2 bel2
    go_upto_region 5 with (go_at_call 9; refine c2.mono ?_; rintro e w3 ⟨rfl, rfl⟩)
    clear c2
    obtain ⟨w3, hw3⟩ : ∃ w3, w2.alloc (.cells #[.string SS, .int .i64 0] 47) = w3 := ⟨_, rfl⟩
    rw [hw3] at h3 R3 Z3 bel3
    try rw [hw3]
    obtain ⟨g, hg⟩ : ∃ g, w2.heap.size = g := ⟨_, rfl⟩
    have hgs : g < w3.heap.size := by rw [← hw3]; simp; omega
    rw [hg] at h3
    try rw [hg]
    have hcg : cb < g := by omega
    clear hw3 hg hs2 hcl
    have h3' : RD w3 g (numF X ++ restF X) 0 := by rw [← body_split, HS.out]; exact h3
    have c3 := numbers_any (B := cb) HO.out HW.out h3' (fun e => by unfold restF; rw [e]; rfl) (by rw [← body_split, HS.out]; omega) Z3 (by omega) (by omega) (Nat.le_refl _) (by omega)
    clear h3 h3'
    go_wp2_with fail
    refine c3.mono ?_
    rintro e w4 ⟨rfl, vG, vD, h4, Z4, qG4, qD4, b4⟩
    go_upto_region 6 with fail
    have R4 := R3.below b4 (by omega)
    have bel4 := bel3.trans (b4.mono (by omega))
    have hs4 := b4.size
    clear c3 R3 Z3 bel3 b4
    have c4 := err_any g _ 0 w4 h4
    have c5 := begins_any X.ty w4
    rw [HB.out] at c5
    have x7 : w4.cell? ⟨cb, 7, none⟩ = some (.int .u32 X.tg) := Z4.cell 7
    cases b with
    | true =>
      have htg := htg rfl
      go_upto_region 8 with (first | (go_at_call 30; refine c4.mono ?_; rintro e w5 ⟨rfl, rfl⟩) | (go_at_call 55; refine c5.mono ?_; rintro e w5 ⟨rfl, hb5⟩; have x7 : w5.cell? ⟨cb, 7, none⟩ = some (.int .u32 X.tg) := (Z4.below hb5 Z4.lt).cell 7))
      have Z5 := Z4.below hb5 Z4.lt
      have R5 := R4.below hb5 R4.lt
      have h5 : RD w5 g (restF X) 0 := Blk.below h4 hb5 (Blk.lt h4)
      have qG5 := qG4.below hb5 (Nat.le_refl _)
      have qD5 := qD4.below hb5 (Nat.le_refl _)
      have hs5 := hb5.size
      have bel5 := bel4.trans (hb5.mono (by omega))
      clear Z4 R4 h4 qG4 qD4 bel4 hb5 c4 c5 x7
      have c6 := rest_of (B := cb) HO.out h5 Z5 qG5 qD5 (by omega) (by omega) (Nat.le_refl _) (by omega) (by omega) (by omega) (by omega)
      go_upto_region 11 with (go_at_call 59; refine c6.mono ?_; rintro e w6 ⟨rfl, vP, vK, h6, Z6, qP6, qK6, qG6, qD6, b6⟩)
      have R6 := R5.below b6 (by omega)
      have bel6 := bel5.trans (b6.mono (by omega))
      have hs6 := b6.size
      clear c6 Z5 R5 h5 qG5 qD5 bel5 b6
      obtain ⟨oP, cP, e1, _, _⟩ := qP6.shape
      subst e1
      obtain ⟨oK, cK, e2, _, _⟩ := qK6.shape
      subst e2
      obtain ⟨oG, cG, e3, _, _⟩ := qG6.shape
      subst e3
      obtain ⟨oD, cD, e4, _, _⟩ := qD6.shape
      subst e4
      have M6 : CkM w6 w6.heap.size X _ _ _ _ := ⟨Qo.row qP6, Qo.row qK6, Qo.row qG6, Qo.row qD6⟩
      have c7 := end_any g _ 0 w6 h6
      rw [show endE ByteArray.empty 0 = 0 by unfold endE; rw [if_neg]; intro h; simp at h] at c7
      have c8 := formed_any HW.out M6 (Nat.le_refl _)
      rw [(ok_formed HO.out).1] at c8
      have c9 := fun w => few_any X oP oK oG oD X.P.length cP X.K.length cK X.G.length cG X.D.length cD w
      rw [(ok_formed HO.out).2] at c9
      have HQ := Lib.hid (And.intro qP6 (And.intro qK6 (And.intro qG6 qD6)))
      clear M6 qP6 qK6 qG6 qD6 h6
      unfold ckc at c8 c9 Z6
      go_upto_region 13 with (first | (refine wpList_load_at_g (by rfl) 28 _ rfl cb 0 rfl #[.int .i64 X.ty, .int .i64 X.fl, .int .u32 X.tsn, .int .i64 X.st, .int .i64 X.ss, .int .u32 X.pr, .string X.d, .int .u32 X.tg, .int .u32 X.rw, .int .i64 X.ou, .int .i64 X.ii, .slice oP X.P.length cP, .slice oK X.K.length cK, .slice oG X.G.length cG, .slice oD X.D.length cD] _ (Cel.of_blk Z6) Try.underlying28 rfl (by show _ = some 15; kernel_rfl) ?_) | (go_at_call 11; refine c7.mono ?_; rintro e w7 ⟨rfl, rfl⟩) | (go_at_call 21; refine c8.mono ?_; rintro e w8 ⟨rfl, hb8⟩))
      have Z8 := Z6.below hb8 Z6.lt
      have R8 := R6.below hb8 R6.lt
      have bel8 := bel6.trans (hb8.mono (by omega))
      have HQ8 := Lib.hid (And.intro (HQ.out.1.below hb8 (Nat.le_refl _)) (And.intro (HQ.out.2.1.below hb8 (Nat.le_refl _)) (And.intro (HQ.out.2.2.1.below hb8 (Nat.le_refl _)) (HQ.out.2.2.2.below hb8 (Nat.le_refl _)))))
      have hs8 := hb8.size
      clear c7 c8 Z6 R6 bel6 HQ
      go_upto_region 15 with (first | (refine wpList_load_at_g (by rfl) 28 _ rfl cb 0 rfl #[.int .i64 X.ty, .int .i64 X.fl, .int .u32 X.tsn, .int .i64 X.st, .int .i64 X.ss, .int .u32 X.pr, .string X.d, .int .u32 X.tg, .int .u32 X.rw, .int .i64 X.ou, .int .i64 X.ii, .slice oP X.P.length cP, .slice oK X.K.length cK, .slice oG X.G.length cG, .slice oD X.D.length cD] _ (Cel.of_blk Z8) Try.underlying28 rfl (by show _ = some 15; kernel_rfl) ?_) | (go_at_call 22; refine (c9 _).mono ?_; rintro e w9 ⟨rfl, hb9⟩))
      have Z9 := Z8.below hb9 Z8.lt
      have R9 := R8.below hb9 R8.lt
      have bel9 := bel8.trans (hb9.mono (by omega))
      have qs := cut.qo_setCells (HQ8.out.1.below hb9 (Nat.le_refl _)) (g := rb) (fun e => by have := (HQ8.out.1.lt e).1; omega) 0 (#[.int .i64 X.ty, .int .i64 X.fl, .int .u32 X.tsn, .int .i64 X.st, .int .i64 X.ss, .int .u32 X.pr, .string X.d, .int .u32 X.tg, .int .u32 X.rw, .int .i64 X.ou, .int .i64 X.ii, .slice oP X.P.length cP, .slice oK X.K.length cK, .slice oG X.G.length cG, .slice oD X.D.length cD] : Array Value).toList
      have qt := cut.qo_setCells (HQ8.out.2.1.below hb9 (Nat.le_refl _)) (g := rb) (fun e => by have := (HQ8.out.2.1.lt e).1; omega) 0 (#[.int .i64 X.ty, .int .i64 X.fl, .int .u32 X.tsn, .int .i64 X.st, .int .i64 X.ss, .int .u32 X.pr, .string X.d, .int .u32 X.tg, .int .u32 X.rw, .int .i64 X.ou, .int .i64 X.ii, .slice oP X.P.length cP, .slice oK X.K.length cK, .slice oG X.G.length cG, .slice oD X.D.length cD] : Array Value).toList
      have qu := cut.qo_setCells (HQ8.out.2.2.1.below hb9 (Nat.le_refl _)) (g := rb) (fun e => by have := (HQ8.out.2.2.1.lt e).1; omega) 0 (#[.int .i64 X.ty, .int .i64 X.fl, .int .u32 X.tsn, .int .i64 X.st, .int .i64 X.ss, .int .u32 X.pr, .string X.d, .int .u32 X.tg, .int .u32 X.rw, .int .i64 X.ou, .int .i64 X.ii, .slice oP X.P.length cP, .slice oK X.K.length cK, .slice oG X.G.length cG, .slice oD X.D.length cD] : Array Value).toList
      have qv := cut.qo_setCells (HQ8.out.2.2.2.below hb9 (Nat.le_refl _)) (g := rb) (fun e => by have := (HQ8.out.2.2.2.lt e).1; omega) 0 (#[.int .i64 X.ty, .int .i64 X.fl, .int .u32 X.tsn, .int .i64 X.st, .int .i64 X.ss, .int .u32 X.pr, .string X.d, .int .u32 X.tg, .int .u32 X.rw, .int .i64 X.ou, .int .i64 X.ii, .slice oP X.P.length cP, .slice oK X.K.length cK, .slice oG X.G.length cG, .slice oD X.D.length cD] : Array Value).toList
      have HQ9 := Lib.hid (And.intro qs (And.intro qt (And.intro qu qv)))
      clear qs qt qu qv
      have hs9 := hb9.size
      clear c9 Z8 R8 bel8 HQ8 hb9 hb8
      have hone : (#[.int .i64 X.ty, .int .i64 X.fl, .int .u32 X.tsn, .int .i64 X.st, .int .i64 X.ss, .int .u32 X.pr, .string X.d, .int .u32 X.tg, .int .u32 X.rw, .int .i64 X.ou, .int .i64 X.ii, .slice oP X.P.length cP, .slice oK X.K.length cK, .slice oG X.G.length cG, .slice oD X.D.length cD] : Array Value).all (·.oneCell') = true := by
        rw [Array.all_eq_true']
        intro x hx
        simp only [List.mem_toArray, List.mem_cons, List.not_mem_nil, or_false] at hx
        rcases hx with rfl | rfl | rfl | rfl | rfl | rfl | rfl | rfl | rfl | rfl | rfl | rfl | rfl | rfl | rfl <;> rfl
      have szY : (Try.prog.info? 28).map (·.size) = some (#[.int .i64 X.ty, .int .i64 X.fl, .int .u32 X.tsn, .int .i64 X.st, .int .i64 X.ss, .int .u32 X.pr, .string X.d, .int .u32 X.tg, .int .u32 X.rw, .int .i64 X.ou, .int .i64 X.ii, .slice oP X.P.length cP, .slice oK X.K.length cK, .slice oG X.G.length cG, .slice oD X.D.length cD] : Array Value).size := by show _ = some 15; kernel_rfl
      have ZR := (Cel.of_blk R9).setCells_same (#[.int .i64 X.ty, .int .i64 X.fl, .int .u32 X.tsn, .int .i64 X.st, .int .i64 X.ss, .int .u32 X.pr, .string X.d, .int .u32 X.tg, .int .u32 X.rw, .int .i64 X.ou, .int .i64 X.ii, .slice oP X.P.length cP, .slice oK X.K.length cK, .slice oG X.G.length cG, .slice oD X.D.length cD] : Array Value).toList rfl
      have hrw : rb ≤ w3.heap.size := by omega
      have bel10 := below_setCells bel9 (Nat.le_refl rb) 0 (#[.int .i64 X.ty, .int .i64 X.fl, .int .u32 X.tsn, .int .i64 X.st, .int .i64 X.ss, .int .u32 X.pr, .string X.d, .int .u32 X.tg, .int .u32 X.rw, .int .i64 X.ou, .int .i64 X.ii, .slice oP X.P.length cP, .slice oK X.K.length cK, .slice oG X.G.length cG, .slice oD X.D.length cD] : Array Value).toList
      go_wp2_with (first | (refine wpList_load_at_g (by rfl) 28 _ rfl cb 0 rfl #[.int .i64 X.ty, .int .i64 X.fl, .int .u32 X.tsn, .int .i64 X.st, .int .i64 X.ss, .int .u32 X.pr, .string X.d, .int .u32 X.tg, .int .u32 X.rw, .int .i64 X.ou, .int .i64 X.ii, .slice oP X.P.length cP, .slice oK X.K.length cK, .slice oG X.G.length cG, .slice oD X.D.length cD] _ (Cel.of_blk Z9) Try.underlying28 rfl (by show _ = some 15; kernel_rfl) ?_) | (refine wpList_store_at rfl 28 _ _ rfl rb 0 #[.int .i64 X.ty, .int .i64 X.fl, .int .u32 X.tsn, .int .i64 X.st, .int .i64 X.ss, .int .u32 X.pr, .string X.d, .int .u32 X.tg, .int .u32 X.rw, .int .i64 X.ou, .int .i64 X.ii, .slice oP X.P.length cP, .slice oK X.K.length cK, .slice oG X.G.length cG, .slice oD X.D.length cD] rfl rfl #[.int .i64 0, .int .i64 0, .int .u32 0, .int .i64 0, .int .i64 0, .int .u32 0, .string ⟨#[]⟩, .int .u32 0, .int .u32 0, .int .i64 0, .int .i64 0, .slice none 0 0, .slice none 0 0, .slice none 0 0, .slice none 0 0] (Cel.of_blk R9) szY rfl hone ?_))
      exact bodyPost_ret (v := .tuple #[.agg #[.int .i64 X.ty, .int .i64 X.fl, .int .u32 X.tsn, .int .i64 X.st, .int .i64 X.ss, .int .u32 X.pr, .string X.d, .int .u32 X.tg, .int .u32 X.rw, .int .i64 X.ou, .int .i64 X.ii, .slice oP X.P.length cP, .slice oK X.K.length cK, .slice oG X.G.length cG, .slice oD X.D.length cD], .int .i64 0]) (results_cell_tmp_at (p := 6) (u := 7) (ty := 28) rfl _ _ rb 0 #[.int .i64 X.ty, .int .i64 X.fl, .int .u32 X.tsn, .int .i64 X.st, .int .i64 X.ss, .int .u32 X.pr, .string X.d, .int .u32 X.tg, .int .u32 X.rw, .int .i64 X.ou, .int .i64 X.ii, .slice oP X.P.length cP, .slice oK X.K.length cK, .slice oG X.G.length cG, .slice oD X.D.length cD] _ rfl (ZR.congr rfl) Try.underlying28 rfl szY) rfl ⟨⟨_, _, _, _, rfl, ⟨HQ9.out.1.weaken hrw, HQ9.out.2.1.weaken hrw, HQ9.out.2.2.1.weaken hrw, HQ9.out.2.2.2.weaken hrw⟩⟩, bel10⟩
    | false =>
      clear htg
      go_upto_region 8 with (first | (go_at_call 30; refine c4.mono ?_; rintro e w5 ⟨rfl, rfl⟩) | (go_at_call 55; refine c5.mono ?_; rintro e w5 ⟨rfl, hb5⟩; have x7 : w5.cell? ⟨cb, 7, none⟩ = some (.int .u32 X.tg) := (Z4.below hb5 Z4.lt).cell 7))
      have Z5 := Z4.below hb5 Z4.lt
      have R5 := R4.below hb5 R4.lt
      have h5 : RD w5 g (restF X) 0 := Blk.below h4 hb5 (Blk.lt h4)
      have qG5 := qG4.below hb5 (Nat.le_refl _)
      have qD5 := qD4.below hb5 (Nat.le_refl _)
      have hs5 := hb5.size
      have bel5 := bel4.trans (hb5.mono (by omega))
      clear Z4 R4 h4 qG4 qD4 bel4 hb5 c4 c5 x7
      have c6 := rest_of (B := cb) HO.out h5 Z5 qG5 qD5 (by omega) (by omega) (Nat.le_refl _) (by omega) (by omega) (by omega) (by omega)
      go_upto_region 11 with (go_at_call 59; refine c6.mono ?_; rintro e w6 ⟨rfl, vP, vK, h6, Z6, qP6, qK6, qG6, qD6, b6⟩)
      have R6 := R5.below b6 (by omega)
      have bel6 := bel5.trans (b6.mono (by omega))
      have hs6 := b6.size
      clear c6 Z5 R5 h5 qG5 qD5 bel5 b6
      obtain ⟨oP, cP, e1, _, _⟩ := qP6.shape
      subst e1
      obtain ⟨oK, cK, e2, _, _⟩ := qK6.shape
      subst e2
      obtain ⟨oG, cG, e3, _, _⟩ := qG6.shape
      subst e3
      obtain ⟨oD, cD, e4, _, _⟩ := qD6.shape
      subst e4
      have M6 : CkM w6 w6.heap.size X _ _ _ _ := ⟨Qo.row qP6, Qo.row qK6, Qo.row qG6, Qo.row qD6⟩
      have c7 := end_any g _ 0 w6 h6
      rw [show endE ByteArray.empty 0 = 0 by unfold endE; rw [if_neg]; intro h; simp at h] at c7
      have c8 := formed_any HW.out M6 (Nat.le_refl _)
      rw [(ok_formed HO.out).1] at c8
      have c9 := fun w => few_any X oP oK oG oD X.P.length cP X.K.length cK X.G.length cG X.D.length cD w
      rw [(ok_formed HO.out).2] at c9
      have HQ := Lib.hid (And.intro qP6 (And.intro qK6 (And.intro qG6 qD6)))
      clear M6 qP6 qK6 qG6 qD6 h6
      unfold ckc at c8 c9 Z6
      go_upto_region 13 with (first | (refine wpList_load_at_g (by rfl) 28 _ rfl cb 0 rfl #[.int .i64 X.ty, .int .i64 X.fl, .int .u32 X.tsn, .int .i64 X.st, .int .i64 X.ss, .int .u32 X.pr, .string X.d, .int .u32 X.tg, .int .u32 X.rw, .int .i64 X.ou, .int .i64 X.ii, .slice oP X.P.length cP, .slice oK X.K.length cK, .slice oG X.G.length cG, .slice oD X.D.length cD] _ (Cel.of_blk Z6) Try.underlying28 rfl (by show _ = some 15; kernel_rfl) ?_) | (go_at_call 11; refine c7.mono ?_; rintro e w7 ⟨rfl, rfl⟩) | (go_at_call 21; refine c8.mono ?_; rintro e w8 ⟨rfl, hb8⟩))
      have Z8 := Z6.below hb8 Z6.lt
      have R8 := R6.below hb8 R6.lt
      have bel8 := bel6.trans (hb8.mono (by omega))
      have HQ8 := Lib.hid (And.intro (HQ.out.1.below hb8 (Nat.le_refl _)) (And.intro (HQ.out.2.1.below hb8 (Nat.le_refl _)) (And.intro (HQ.out.2.2.1.below hb8 (Nat.le_refl _)) (HQ.out.2.2.2.below hb8 (Nat.le_refl _)))))
      have hs8 := hb8.size
      clear c7 c8 Z6 R6 bel6 HQ
      go_upto_region 15 with (first | (refine wpList_load_at_g (by rfl) 28 _ rfl cb 0 rfl #[.int .i64 X.ty, .int .i64 X.fl, .int .u32 X.tsn, .int .i64 X.st, .int .i64 X.ss, .int .u32 X.pr, .string X.d, .int .u32 X.tg, .int .u32 X.rw, .int .i64 X.ou, .int .i64 X.ii, .slice oP X.P.length cP, .slice oK X.K.length cK, .slice oG X.G.length cG, .slice oD X.D.length cD] _ (Cel.of_blk Z8) Try.underlying28 rfl (by show _ = some 15; kernel_rfl) ?_) | (go_at_call 22; refine (c9 _).mono ?_; rintro e w9 ⟨rfl, hb9⟩))
      have Z9 := Z8.below hb9 Z8.lt
      have R9 := R8.below hb9 R8.lt
      have bel9 := bel8.trans (hb9.mono (by omega))
      have qs := cut.qo_setCells (HQ8.out.1.below hb9 (Nat.le_refl _)) (g := rb) (fun e => by have := (HQ8.out.1.lt e).1; omega) 0 (#[.int .i64 X.ty, .int .i64 X.fl, .int .u32 X.tsn, .int .i64 X.st, .int .i64 X.ss, .int .u32 X.pr, .string X.d, .int .u32 X.tg, .int .u32 X.rw, .int .i64 X.ou, .int .i64 X.ii, .slice oP X.P.length cP, .slice oK X.K.length cK, .slice oG X.G.length cG, .slice oD X.D.length cD] : Array Value).toList
      have qt := cut.qo_setCells (HQ8.out.2.1.below hb9 (Nat.le_refl _)) (g := rb) (fun e => by have := (HQ8.out.2.1.lt e).1; omega) 0 (#[.int .i64 X.ty, .int .i64 X.fl, .int .u32 X.tsn, .int .i64 X.st, .int .i64 X.ss, .int .u32 X.pr, .string X.d, .int .u32 X.tg, .int .u32 X.rw, .int .i64 X.ou, .int .i64 X.ii, .slice oP X.P.length cP, .slice oK X.K.length cK, .slice oG X.G.length cG, .slice oD X.D.length cD] : Array Value).toList
      have qu := cut.qo_setCells (HQ8.out.2.2.1.below hb9 (Nat.le_refl _)) (g := rb) (fun e => by have := (HQ8.out.2.2.1.lt e).1; omega) 0 (#[.int .i64 X.ty, .int .i64 X.fl, .int .u32 X.tsn, .int .i64 X.st, .int .i64 X.ss, .int .u32 X.pr, .string X.d, .int .u32 X.tg, .int .u32 X.rw, .int .i64 X.ou, .int .i64 X.ii, .slice oP X.P.length cP, .slice oK X.K.length cK, .slice oG X.G.length cG, .slice oD X.D.length cD] : Array Value).toList
      have qv := cut.qo_setCells (HQ8.out.2.2.2.below hb9 (Nat.le_refl _)) (g := rb) (fun e => by have := (HQ8.out.2.2.2.lt e).1; omega) 0 (#[.int .i64 X.ty, .int .i64 X.fl, .int .u32 X.tsn, .int .i64 X.st, .int .i64 X.ss, .int .u32 X.pr, .string X.d, .int .u32 X.tg, .int .u32 X.rw, .int .i64 X.ou, .int .i64 X.ii, .slice oP X.P.length cP, .slice oK X.K.length cK, .slice oG X.G.length cG, .slice oD X.D.length cD] : Array Value).toList
      have HQ9 := Lib.hid (And.intro qs (And.intro qt (And.intro qu qv)))
      clear qs qt qu qv
      have hs9 := hb9.size
      clear c9 Z8 R8 bel8 HQ8 hb9 hb8
      have hone : (#[.int .i64 X.ty, .int .i64 X.fl, .int .u32 X.tsn, .int .i64 X.st, .int .i64 X.ss, .int .u32 X.pr, .string X.d, .int .u32 X.tg, .int .u32 X.rw, .int .i64 X.ou, .int .i64 X.ii, .slice oP X.P.length cP, .slice oK X.K.length cK, .slice oG X.G.length cG, .slice oD X.D.length cD] : Array Value).all (·.oneCell') = true := by
        rw [Array.all_eq_true']
        intro x hx
        simp only [List.mem_toArray, List.mem_cons, List.not_mem_nil, or_false] at hx
        rcases hx with rfl | rfl | rfl | rfl | rfl | rfl | rfl | rfl | rfl | rfl | rfl | rfl | rfl | rfl | rfl <;> rfl
      have szY : (Try.prog.info? 28).map (·.size) = some (#[.int .i64 X.ty, .int .i64 X.fl, .int .u32 X.tsn, .int .i64 X.st, .int .i64 X.ss, .int .u32 X.pr, .string X.d, .int .u32 X.tg, .int .u32 X.rw, .int .i64 X.ou, .int .i64 X.ii, .slice oP X.P.length cP, .slice oK X.K.length cK, .slice oG X.G.length cG, .slice oD X.D.length cD] : Array Value).size := by show _ = some 15; kernel_rfl
      have ZR := (Cel.of_blk R9).setCells_same (#[.int .i64 X.ty, .int .i64 X.fl, .int .u32 X.tsn, .int .i64 X.st, .int .i64 X.ss, .int .u32 X.pr, .string X.d, .int .u32 X.tg, .int .u32 X.rw, .int .i64 X.ou, .int .i64 X.ii, .slice oP X.P.length cP, .slice oK X.K.length cK, .slice oG X.G.length cG, .slice oD X.D.length cD] : Array Value).toList rfl
      have hrw : rb ≤ w3.heap.size := by omega
      have bel10 := below_setCells bel9 (Nat.le_refl rb) 0 (#[.int .i64 X.ty, .int .i64 X.fl, .int .u32 X.tsn, .int .i64 X.st, .int .i64 X.ss, .int .u32 X.pr, .string X.d, .int .u32 X.tg, .int .u32 X.rw, .int .i64 X.ou, .int .i64 X.ii, .slice oP X.P.length cP, .slice oK X.K.length cK, .slice oG X.G.length cG, .slice oD X.D.length cD] : Array Value).toList
      go_wp2_with (first | (refine wpList_load_at_g (by rfl) 28 _ rfl cb 0 rfl #[.int .i64 X.ty, .int .i64 X.fl, .int .u32 X.tsn, .int .i64 X.st, .int .i64 X.ss, .int .u32 X.pr, .string X.d, .int .u32 X.tg, .int .u32 X.rw, .int .i64 X.ou, .int .i64 X.ii, .slice oP X.P.length cP, .slice oK X.K.length cK, .slice oG X.G.length cG, .slice oD X.D.length cD] _ (Cel.of_blk Z9) Try.underlying28 rfl (by show _ = some 15; kernel_rfl) ?_) | (refine wpList_store_at rfl 28 _ _ rfl rb 0 #[.int .i64 X.ty, .int .i64 X.fl, .int .u32 X.tsn, .int .i64 X.st, .int .i64 X.ss, .int .u32 X.pr, .string X.d, .int .u32 X.tg, .int .u32 X.rw, .int .i64 X.ou, .int .i64 X.ii, .slice oP X.P.length cP, .slice oK X.K.length cK, .slice oG X.G.length cG, .slice oD X.D.length cD] rfl rfl #[.int .i64 0, .int .i64 0, .int .u32 0, .int .i64 0, .int .i64 0, .int .u32 0, .string ⟨#[]⟩, .int .u32 0, .int .u32 0, .int .i64 0, .int .i64 0, .slice none 0 0, .slice none 0 0, .slice none 0 0, .slice none 0 0] (Cel.of_blk R9) szY rfl hone ?_))
      exact bodyPost_ret (v := .tuple #[.agg #[.int .i64 X.ty, .int .i64 X.fl, .int .u32 X.tsn, .int .i64 X.st, .int .i64 X.ss, .int .u32 X.pr, .string X.d, .int .u32 X.tg, .int .u32 X.rw, .int .i64 X.ou, .int .i64 X.ii, .slice oP X.P.length cP, .slice oK X.K.length cK, .slice oG X.G.length cG, .slice oD X.D.length cD], .int .i64 0]) (results_cell_tmp_at (p := 6) (u := 7) (ty := 28) rfl _ _ rb 0 #[.int .i64 X.ty, .int .i64 X.fl, .int .u32 X.tsn, .int .i64 X.st, .int .i64 X.ss, .int .u32 X.pr, .string X.d, .int .u32 X.tg, .int .u32 X.rw, .int .i64 X.ou, .int .i64 X.ii, .slice oP X.P.length cP, .slice oK X.K.length cK, .slice oG X.G.length cG, .slice oD X.D.length cD] _ rfl (ZR.congr rfl) Try.underlying28 rfl szY) rfl ⟨⟨_, _, _, _, rfl, ⟨HQ9.out.1.weaken hrw, HQ9.out.2.1.weaken hrw, HQ9.out.2.2.1.weaken hrw, HQ9.out.2.2.2.weaken hrw⟩⟩, bel10⟩
  exact hb _ rfl
end Go.Proofs.Ytfpcneekbdcbcaa.ck
/- Layer 6: a chunk is read again; of no bytes there is none (gen-ckv.py wrote this). -/
namespace Go.Proofs.Ytfpcneekbdcbcaa.ck
open Go.ChangeShapes Go.WideShapes Go.ChangeAt Go.RowKit kit oct par chk bld cut
set_option maxRecDepth 100000

theorem put_split {X : Ck} (H : CkOk X) : putF X = p1 X.ty ++ (p1 X.fl ++ (p2 ((bodyF X).size + 4 : Nat) ++ (bodyF X ++ zeros (-((bodyF X).size + 4 : Int) % 4).toNat))) := by
  unfold putF
  rw [if_pos ((may_iff X).2 H)]
  unfold filled
  have e : ((p1 X.ty ++ p1 X.fl ++ p2 ((bodyF X).size + 4 : Nat) ++ bodyF X).size : Int) = 8 + (bodyF X).size - 4 := by simp only [ByteArray.size_append, p1_size, p2_size]; omega
  rw [e, show (-(8 + ((bodyF X).size : Int) - 4) % 4) = (-((bodyF X).size + 4 : Int) % 4) by omega]
  simp only [ByteArray.append_assoc]
set_option maxHeartbeats 8000000 in
theorem take_good {X : Ck} {w : World} {g : Nat} (H : CkOk X) (HWx : CkW X) (h : RD w g (putF X) 0) : Calls Try.prog 10 #[.pointer (some ⟨g, 0, none⟩)] w fun e w' => (∃ v1 v2 v3 v4, e = .returned (.agg (ckc X v1 v2 v3 v4)) ∧ CkM w' w'.heap.size X v1 v2 v3 v4) ∧ RD w' g ByteArray.empty 0 ∧ Below g w w' := by
  have HO := Lib.hid H
  have HW := Lib.hid HWx
  rw [put_split H] at h
  have hpa := fun w => parsed_any (w := w) H HWx
  have hsz := bodyF_le H
  obtain ⟨S, hS⟩ : ∃ S, bodyF X = S := ⟨_, rfl⟩
  rw [hS] at h hpa hsz
  obtain ⟨p, hp⟩ : ∃ p : Nat, (-((S.size : Int) + 4) % 4).toNat = p := ⟨_, rfl⟩
  have hp4 : (p : Int) = -((S.size : Int) + 4) % 4 := by omega
  rw [hp] at h
  have hfl := HO.out.fl
  have hfv := flagsV_le X.ty
  have hty := HO.out.ty
  have zz : (zeros p).size = p := zeros_size p
  clear H HWx hS hp
  have hgl := Blk.lt h
  obtain ⟨tb, htb⟩ : ∃ tb, w.heap.size = tb := ⟨_, rfl⟩
  have T0 := Blk.new w 28 #[.int .i64 0, .int .i64 0, .int .u32 0, .int .i64 0, .int .i64 0, .int .u32 0, .string ⟨#[]⟩, .int .u32 0, .int .u32 0, .int .i64 0, .int .i64 0, .slice none 0 0, .slice none 0 0, .slice none 0 0, .slice none 0 0]
  have h0 : RD (w.alloc (.cells #[.int .i64 0, .int .i64 0, .int .u32 0, .int .i64 0, .int .i64 0, .int .u32 0, .string ⟨#[]⟩, .int .u32 0, .int .u32 0, .int .i64 0, .int .i64 0, .slice none 0 0, .slice none 0 0, .slice none 0 0, .slice none 0 0] 28)) g _ 0 := Blk.alloc h (.cells #[.int .i64 0, .int .i64 0, .int .u32 0, .int .i64 0, .int .i64 0, .int .u32 0, .string ⟨#[]⟩, .int .u32 0, .int .u32 0, .int .i64 0, .int .i64 0, .slice none 0 0, .slice none 0 0, .slice none 0 0, .slice none 0 0] 28)
  have bel0 := (Below.refl g w).alloc (by omega) (.cells #[.int .i64 0, .int .i64 0, .int .u32 0, .int .i64 0, .int .i64 0, .int .u32 0, .string ⟨#[]⟩, .int .u32 0, .int .u32 0, .int .i64 0, .int .i64 0, .slice none 0 0, .slice none 0 0, .slice none 0 0, .slice none 0 0] 28)
  rw [htb] at T0 hgl
  go_enter Try.func10, Try.ntmps10
  go_upto_region 1 with fail
  obtain ⟨w0, hw0⟩ : ∃ w0, w.alloc (.cells #[.int .i64 0, .int .i64 0, .int .u32 0, .int .i64 0, .int .i64 0, .int .u32 0, .string ⟨#[]⟩, .int .u32 0, .int .u32 0, .int .i64 0, .int .i64 0, .slice none 0 0, .slice none 0 0, .slice none 0 0, .slice none 0 0] 28) = w0 := ⟨_, rfl⟩
  rw [hw0] at T0 h0 bel0
  try rw [hw0]
  have hs0 : tb < w0.heap.size := by rw [← hw0]; simp; omega
  clear hw0 h
  try rw [htb]
  have c1 := g8 X.ty h0 hty.1 hty.2 (by simp only [ByteArray.size_append, p1_size, p2_size, zz]; omega)
  go_wp2_with fail
  refine c1.mono ?_
  rintro e w1 ⟨rfl, h1, ht1⟩
  have T1 := touch_blk ht1 T0 (by omega)
  have bel1 := bel0.trans (touch_below ht1 (Nat.le_refl g) (by omega))
  have hs1 := ht1.size
  clear c1 T0 bel0 h0 ht1
  have c2 := g8 X.fl h1 hfl.1 (by omega) (by simp only [ByteArray.size_append, p2_size, zz]; omega)
  go_wp2_with fail
  refine c2.mono ?_
  rintro e w2 ⟨rfl, h2, ht2⟩
  have T2 := touch_blk ht2 T1 (by omega)
  have bel2 := bel1.trans (touch_below ht2 (Nat.le_refl g) (by omega))
  have hs2 := ht2.size
  clear c2 T1 bel1 h1 ht2
  have c3 := g16 ((S.size + 4 : Nat) : Int) h2 (by omega) (by omega) (by simp only [ByteArray.size_append, zz]; omega)
  have hw4 : ((S.size + 4 : Nat) : Int) = (S.size : Int) + 4 := by omega
  rw [hw4] at c3
  go_wp2_with fail
  refine c3.mono ?_
  rintro e w3 ⟨rfl, h3, ht3⟩
  have T3 := touch_blk ht3 T2 (by omega)
  have bel3 := bel2.trans (touch_below ht3 (Nat.le_refl g) (by omega))
  have hs3 := ht3.size
  clear c3 T2 bel2 h2 ht3 hw4
  have hge : ¬ (S.size : Int) + 4 < 4 := by omega
  have hw5 : IntKind.i64.wrap ((S.size : Int) + 4 - 4) = (S.size : Int) := by rw [show (S.size : Int) + 4 - 4 = (S.size : Int) by omega]; exact IntWalk.i64_in _ (by omega)
  have c4 := oct.take_any g _ 0 (S.size : Int) w3 h3 (by simp only [ByteArray.size_append, zz]; unfold maxLen; omega)
  have hin : 0 ≤ (S.size : Int) ∧ (S.size : Int) ≤ ((S ++ zeros p).size : Int) := by simp only [ByteArray.size_append, zz]; omega
  rw [if_pos hin, if_pos hin, if_pos hin, Int.toNat_natCast, ext_left S (zeros p) S.size rfl, ext_right S (zeros p) S.size _ rfl rfl] at c4
  go_wp2_with fail
  refine c4.mono ?_
  rintro e w4 ⟨rfl, h4, ht4⟩
  have T4 := touch_blk ht4 T3 (by omega)
  have bel4 := bel3.trans (touch_below ht4 (Nat.le_refl g) (by omega))
  have hs4 := ht4.size
  clear c4 T3 bel3 h3 ht4 hin hw5
  have c5 := left_any g _ 0 w4 h4
  rw [zz] at c5
  have c6 := fun w => pad_any ((S.size : Int) + 4) w (by omega) (by omega)
  have hnl : ¬ (p : Int) < -((S.size : Int) + 4) % 4 := by omega
  have c7 := fill_any g (zeros p) 0 ((S.size : Int) + 4) w4 h4 (by rw [zz]; unfold maxLen; omega) (by omega) (by omega)
  have hfk : fk (zeros p) ((S.size : Int) + 4) = p := by unfold fk; rw [zz]; omega
  have hL : fillL (zeros p) 0 ((S.size : Int) + 4) = ByteArray.empty := by
    unfold fillL
    rw [hfk]
    have e1 : (zeros p).extract 0 p = zeros p := by have := ext_left (zeros p) ByteArray.empty p zz; rwa [ByteArray.append_empty] at this
    have e2 : (zeros p).extract p (zeros p).size = ByteArray.empty := by apply ByteArray.ext; simp [zz]
    rw [if_pos e1, e2]
  have hE : fillE (zeros p) 0 ((S.size : Int) + 4) = 0 := by
    unfold fillE
    rw [hfk]
    have e1 : (zeros p).extract 0 p = zeros p := by have := ext_left (zeros p) ByteArray.empty p zz; rwa [ByteArray.append_empty] at this
    rw [if_pos e1]
  rw [hL, hE] at c7
  clear hL hE hfk
  go_upto_region 8 with (first | (go_at_call 27; refine c5.mono ?_; rintro e w5 ⟨rfl, rfl⟩) | (go_at_call 28; refine (c6 _).mono ?_; rintro e w5 ⟨rfl, rfl⟩) | (go_at_call 29; refine c7.mono ?_; rintro e w5 ⟨rfl, h5, ht5⟩))
  have T5 := touch_blk ht5 T4 (by omega)
  have bel5 := bel4.trans (touch_below ht5 (Nat.le_refl g) (by omega))
  have hs5 := ht5.size
  clear c5 c6 c7 T4 bel4 h4 ht5 hnl
  have c8 := err_any g _ 0 w5 h5
  go_upto_region 10 with (go_at_call 30; refine c8.mono ?_; rintro e w6 ⟨rfl, rfl⟩)
  have c9 := hpa w5
  go_wp2_with fail
  refine c9.mono ?_
  rintro e w6 ⟨⟨v1, v2, v3, v4, rfl, M6⟩, hb6⟩
  have T6 := T5.below hb6 T5.lt
  have h6 : RD w6 g ByteArray.empty 0 := Blk.below h5 hb6 (Blk.lt h5)
  have bel6 := bel5.trans (hb6.mono (by omega))
  have hs6 := hb6.size
  clear c8 c9 T5 bel5 h5 hb6 hpa
  obtain ⟨oP, cP, e1, _, _⟩ := M6.P.shape
  subst e1
  obtain ⟨oK, cK, e2, _, _⟩ := M6.K.shape
  subst e2
  obtain ⟨oG, cG, e3, _, _⟩ := M6.G.shape
  subst e3
  obtain ⟨oD, cD, e4, _, _⟩ := M6.D.shape
  subst e4
  have M7 := M6.below ((Below.refl w6.heap.size w6).alloc (Nat.le_refl _) (.cells #[.int .i64 X.ty, .int .i64 X.fl, .int .u32 X.tsn, .int .i64 X.st, .int .i64 X.ss, .int .u32 X.pr, .string X.d, .int .u32 X.tg, .int .u32 X.rw, .int .i64 X.ou, .int .i64 X.ii, .slice oP X.P.length cP, .slice oK X.K.length cK, .slice oG X.G.length cG, .slice oD X.D.length cD] 28)) (Nat.le_refl _)
  have T7 := T6.alloc (.cells #[.int .i64 X.ty, .int .i64 X.fl, .int .u32 X.tsn, .int .i64 X.st, .int .i64 X.ss, .int .u32 X.pr, .string X.d, .int .u32 X.tg, .int .u32 X.rw, .int .i64 X.ou, .int .i64 X.ii, .slice oP X.P.length cP, .slice oK X.K.length cK, .slice oG X.G.length cG, .slice oD X.D.length cD] 28)
  have h7 := Blk.alloc h6 (.cells #[.int .i64 X.ty, .int .i64 X.fl, .int .u32 X.tsn, .int .i64 X.st, .int .i64 X.ss, .int .u32 X.pr, .string X.d, .int .u32 X.tg, .int .u32 X.rw, .int .i64 X.ou, .int .i64 X.ii, .slice oP X.P.length cP, .slice oK X.K.length cK, .slice oG X.G.length cG, .slice oD X.D.length cD] 28)
  have bel7 := bel6.alloc (by omega) (.cells #[.int .i64 X.ty, .int .i64 X.fl, .int .u32 X.tsn, .int .i64 X.st, .int .i64 X.ss, .int .u32 X.pr, .string X.d, .int .u32 X.tg, .int .u32 X.rw, .int .i64 X.ou, .int .i64 X.ii, .slice oP X.P.length cP, .slice oK X.K.length cK, .slice oG X.G.length cG, .slice oD X.D.length cD] 28)
  have C7 := Blk.new w6 28 #[.int .i64 X.ty, .int .i64 X.fl, .int .u32 X.tsn, .int .i64 X.st, .int .i64 X.ss, .int .u32 X.pr, .string X.d, .int .u32 X.tg, .int .u32 X.rw, .int .i64 X.ou, .int .i64 X.ii, .slice oP X.P.length cP, .slice oK X.K.length cK, .slice oG X.G.length cG, .slice oD X.D.length cD]
  unfold ckc
  clear M6 T6 h6 bel6
  go_upto_region 11 with fail
  obtain ⟨w7, hw7⟩ : ∃ w7, w6.alloc (.cells #[.int .i64 X.ty, .int .i64 X.fl, .int .u32 X.tsn, .int .i64 X.st, .int .i64 X.ss, .int .u32 X.pr, .string X.d, .int .u32 X.tg, .int .u32 X.rw, .int .i64 X.ou, .int .i64 X.ii, .slice oP X.P.length cP, .slice oK X.K.length cK, .slice oG X.G.length cG, .slice oD X.D.length cD] 28) = w7 := ⟨_, rfl⟩
  rw [hw7] at M7 T7 h7 bel7 C7
  try rw [hw7]
  clear hw7
  obtain ⟨kb, hkb⟩ : ∃ kb, w6.heap.size = kb := ⟨_, rfl⟩
  rw [hkb] at C7
  try rw [hkb]
  have hone : (#[.int .i64 X.ty, .int .i64 X.fl, .int .u32 X.tsn, .int .i64 X.st, .int .i64 X.ss, .int .u32 X.pr, .string X.d, .int .u32 X.tg, .int .u32 X.rw, .int .i64 X.ou, .int .i64 X.ii, .slice oP X.P.length cP, .slice oK X.K.length cK, .slice oG X.G.length cG, .slice oD X.D.length cD] : Array Value).all (·.oneCell') = true := by
    rw [Array.all_eq_true']
    intro x hx
    simp only [List.mem_toArray, List.mem_cons, List.not_mem_nil, or_false] at hx
    rcases hx with rfl | rfl | rfl | rfl | rfl | rfl | rfl | rfl | rfl | rfl | rfl | rfl | rfl | rfl | rfl <;> rfl
  have szY : (Try.prog.info? 28).map (·.size) = some (#[.int .i64 X.ty, .int .i64 X.fl, .int .u32 X.tsn, .int .i64 X.st, .int .i64 X.ss, .int .u32 X.pr, .string X.d, .int .u32 X.tg, .int .u32 X.rw, .int .i64 X.ou, .int .i64 X.ii, .slice oP X.P.length cP, .slice oK X.K.length cK, .slice oG X.G.length cG, .slice oD X.D.length cD] : Array Value).size := by show _ = some 15; kernel_rfl
  have ZR := (Cel.of_blk T7).setCells_same (#[.int .i64 X.ty, .int .i64 X.fl, .int .u32 X.tsn, .int .i64 X.st, .int .i64 X.ss, .int .u32 X.pr, .string X.d, .int .u32 X.tg, .int .u32 X.rw, .int .i64 X.ou, .int .i64 X.ii, .slice oP X.P.length cP, .slice oK X.K.length cK, .slice oG X.G.length cG, .slice oD X.D.length cD] : Array Value).toList rfl
  have bel10 := below_setCells bel7 (show g ≤ tb by omega) 0 (#[.int .i64 X.ty, .int .i64 X.fl, .int .u32 X.tsn, .int .i64 X.st, .int .i64 X.ss, .int .u32 X.pr, .string X.d, .int .u32 X.tg, .int .u32 X.rw, .int .i64 X.ou, .int .i64 X.ii, .slice oP X.P.length cP, .slice oK X.K.length cK, .slice oG X.G.length cG, .slice oD X.D.length cD] : Array Value).toList
  have M10 := M7.setCells (show tb < w5.heap.size by omega) 0 (#[.int .i64 X.ty, .int .i64 X.fl, .int .u32 X.tsn, .int .i64 X.st, .int .i64 X.ss, .int .u32 X.pr, .string X.d, .int .u32 X.tg, .int .u32 X.rw, .int .i64 X.ou, .int .i64 X.ii, .slice oP X.P.length cP, .slice oK X.K.length cK, .slice oG X.G.length cG, .slice oD X.D.length cD] : Array Value).toList
  have h10 := blk_setCells h7 (show g ≠ tb by omega) 0 (#[.int .i64 X.ty, .int .i64 X.fl, .int .u32 X.tsn, .int .i64 X.st, .int .i64 X.ss, .int .u32 X.pr, .string X.d, .int .u32 X.tg, .int .u32 X.rw, .int .i64 X.ou, .int .i64 X.ii, .slice oP X.P.length cP, .slice oK X.K.length cK, .slice oG X.G.length cG, .slice oD X.D.length cD] : Array Value).toList
  have HE := Lib.hid (And.intro M10 (And.intro h10 bel10))
  clear M10 h10 bel10 M7 h7 bel7
  go_wp2_with (first | (refine wpList_load_at rfl 28 _ rfl kb 0 rfl #[.int .i64 X.ty, .int .i64 X.fl, .int .u32 X.tsn, .int .i64 X.st, .int .i64 X.ss, .int .u32 X.pr, .string X.d, .int .u32 X.tg, .int .u32 X.rw, .int .i64 X.ou, .int .i64 X.ii, .slice oP X.P.length cP, .slice oK X.K.length cK, .slice oG X.G.length cG, .slice oD X.D.length cD] _ (Cel.of_blk C7) Try.underlying28 rfl szY ?_) | (refine wpList_store_at rfl 28 _ _ rfl tb 0 #[.int .i64 X.ty, .int .i64 X.fl, .int .u32 X.tsn, .int .i64 X.st, .int .i64 X.ss, .int .u32 X.pr, .string X.d, .int .u32 X.tg, .int .u32 X.rw, .int .i64 X.ou, .int .i64 X.ii, .slice oP X.P.length cP, .slice oK X.K.length cK, .slice oG X.G.length cG, .slice oD X.D.length cD] rfl rfl #[.int .i64 0, .int .i64 0, .int .u32 0, .int .i64 0, .int .i64 0, .int .u32 0, .string ⟨#[]⟩, .int .u32 0, .int .u32 0, .int .i64 0, .int .i64 0, .slice none 0 0, .slice none 0 0, .slice none 0 0, .slice none 0 0] (Cel.of_blk T7) szY rfl hone ?_))
  exact bodyPost_ret (v := .agg #[.int .i64 X.ty, .int .i64 X.fl, .int .u32 X.tsn, .int .i64 X.st, .int .i64 X.ss, .int .u32 X.pr, .string X.d, .int .u32 X.tg, .int .u32 X.rw, .int .i64 X.ou, .int .i64 X.ii, .slice oP X.P.length cP, .slice oK X.K.length cK, .slice oG X.G.length cG, .slice oD X.D.length cD]) (results_cell_at (p := 2) (ty := 28) rfl _ _ tb 0 #[.int .i64 X.ty, .int .i64 X.fl, .int .u32 X.tsn, .int .i64 X.st, .int .i64 X.ss, .int .u32 X.pr, .string X.d, .int .u32 X.tg, .int .u32 X.rw, .int .i64 X.ou, .int .i64 X.ii, .slice oP X.P.length cP, .slice oK X.K.length cK, .slice oG X.G.length cG, .slice oD X.D.length cD] _ rfl (ZR.congr rfl) Try.underlying28 rfl szY) rfl ⟨⟨_, _, _, _, rfl, HE.out.1.ckm⟩, HE.out.2.1, HE.out.2.2⟩
set_option maxHeartbeats 8000000 in
theorem take_none {w : World} {g : Nat} (h : RD w g ByteArray.empty 0) : Calls Try.prog 10 #[.pointer (some ⟨g, 0, none⟩)] w fun e w' => e = .returned (.agg #[.int .i64 0, .int .i64 0, .int .u32 0, .int .i64 0, .int .i64 0, .int .u32 0, .string ⟨#[]⟩, .int .u32 0, .int .u32 0, .int .i64 0, .int .i64 0, .slice none 0 0, .slice none 0 0, .slice none 0 0, .slice none 0 0]) ∧ Below g w w' := by
  have hgl := Blk.lt h
  obtain ⟨tb, htb⟩ : ∃ tb, w.heap.size = tb := ⟨_, rfl⟩
  have T0 := Blk.new w 28 #[.int .i64 0, .int .i64 0, .int .u32 0, .int .i64 0, .int .i64 0, .int .u32 0, .string ⟨#[]⟩, .int .u32 0, .int .u32 0, .int .i64 0, .int .i64 0, .slice none 0 0, .slice none 0 0, .slice none 0 0, .slice none 0 0]
  have h0 : RD (w.alloc (.cells #[.int .i64 0, .int .i64 0, .int .u32 0, .int .i64 0, .int .i64 0, .int .u32 0, .string ⟨#[]⟩, .int .u32 0, .int .u32 0, .int .i64 0, .int .i64 0, .slice none 0 0, .slice none 0 0, .slice none 0 0, .slice none 0 0] 28)) g _ 0 := Blk.alloc h (.cells #[.int .i64 0, .int .i64 0, .int .u32 0, .int .i64 0, .int .i64 0, .int .u32 0, .string ⟨#[]⟩, .int .u32 0, .int .u32 0, .int .i64 0, .int .i64 0, .slice none 0 0, .slice none 0 0, .slice none 0 0, .slice none 0 0] 28)
  have bel0 := (Below.refl g w).alloc (by omega) (.cells #[.int .i64 0, .int .i64 0, .int .u32 0, .int .i64 0, .int .i64 0, .int .u32 0, .string ⟨#[]⟩, .int .u32 0, .int .u32 0, .int .i64 0, .int .i64 0, .slice none 0 0, .slice none 0 0, .slice none 0 0, .slice none 0 0] 28)
  rw [htb] at T0 hgl
  go_enter Try.func10, Try.ntmps10
  go_upto_region 1 with fail
  obtain ⟨w0, hw0⟩ : ∃ w0, w.alloc (.cells #[.int .i64 0, .int .i64 0, .int .u32 0, .int .i64 0, .int .i64 0, .int .u32 0, .string ⟨#[]⟩, .int .u32 0, .int .u32 0, .int .i64 0, .int .i64 0, .slice none 0 0, .slice none 0 0, .slice none 0 0, .slice none 0 0] 28) = w0 := ⟨_, rfl⟩
  rw [hw0] at T0 h0 bel0
  try rw [hw0]
  have hs0 : tb < w0.heap.size := by rw [← hw0]; simp; omega
  clear hw0 h
  try rw [htb]
  have hm : ByteArray.empty.size ≤ maxLen := by decide
  have c1 := r8_any g _ 0 w0 h0 hm
  rw [show rdN ByteArray.empty 1 = 0 from by decide, show rdL ByteArray.empty 0 1 = ByteArray.empty from by decide +kernel, show rdE ByteArray.empty 0 1 = 2 from by decide] at c1
  go_wp2_with fail
  refine c1.mono ?_
  rintro e w1 ⟨rfl, h1, ht1⟩
  have T1 := touch_blk ht1 T0 (by omega)
  have bel1 := bel0.trans (touch_below ht1 (Nat.le_refl g) (by omega))
  have hs1 := ht1.size
  clear c1 T0 bel0 h0 ht1
  have c2 := r8_any g _ 2 w1 h1 hm
  rw [show rdN ByteArray.empty 1 = 0 from by decide, show rdL ByteArray.empty 2 1 = ByteArray.empty from by decide +kernel, show rdE ByteArray.empty 2 1 = 2 from by decide] at c2
  go_wp2_with fail
  refine c2.mono ?_
  rintro e w2 ⟨rfl, h2, ht2⟩
  have T2 := touch_blk ht2 T1 (by omega)
  have bel2 := bel1.trans (touch_below ht2 (Nat.le_refl g) (by omega))
  have hs2 := ht2.size
  clear c2 T1 bel1 h1 ht2
  have c3 := r16_any g _ 2 w2 h2 hm
  rw [show rdN ByteArray.empty 2 = 0 from by decide, show rdL ByteArray.empty 2 2 = ByteArray.empty from by decide +kernel, show rdE ByteArray.empty 2 2 = 2 from by decide] at c3
  go_wp2_with fail
  refine c3.mono ?_
  rintro e w3 ⟨rfl, h3, ht3⟩
  have T3 := touch_blk ht3 T2 (by omega)
  have bel3 := bel2.trans (touch_below ht3 (Nat.le_refl g) (by omega))
  have hs3 := ht3.size
  clear c3 T2 bel2 h2 ht3
  have c4 := fail_any g _ 2 3 w3 h3
  rw [show failL ByteArray.empty 2 3 = ByteArray.empty from by decide +kernel, show failE 2 3 = 2 from by decide] at c4
  go_wp2_with fail
  refine c4.mono ?_
  rintro e w4 ⟨rfl, h4, ht4⟩
  have T4 := touch_blk ht4 T3 (by omega)
  have bel4 := bel3.trans (touch_below ht4 (Nat.le_refl g) (by omega))
  have hs4 := ht4.size
  clear c4 T3 bel3 h3 ht4
  have c5 := oct.take_any g _ 2 (-4) w4 h4 hm
  have hno : ¬ (0 ≤ (-4 : Int) ∧ (-4 : Int) ≤ ((ByteArray.empty).size : Int)) := by decide
  rw [if_neg hno, if_neg hno, if_neg hno, show failL ByteArray.empty 2 2 = ByteArray.empty from by decide +kernel, show failE 2 2 = 2 from by decide] at c5
  go_wp2_with fail
  refine c5.mono ?_
  rintro e w5 ⟨rfl, h5, ht5⟩
  have T5 := touch_blk ht5 T4 (by omega)
  have bel5 := bel4.trans (touch_below ht5 (Nat.le_refl g) (by omega))
  have hs5 := ht5.size
  clear c5 T4 bel4 h4 ht5 hno
  have c6 := left_any g _ 2 w5 h5
  rw [show ((ByteArray.empty.size : Nat) : Int) = 0 from rfl] at c6
  have c7 := fun w => pad_any 0 w (by decide) (by decide)
  have c8 := fill_any g ByteArray.empty 2 0 w5 h5 hm (by decide) (by decide)
  rw [show fillL ByteArray.empty 2 0 = ByteArray.empty from by decide +kernel, show fillE ByteArray.empty 2 0 = 2 from by decide +kernel] at c8
  go_upto_region 8 with (first | (go_at_call 27; refine c6.mono ?_; rintro e w6 ⟨rfl, rfl⟩) | (go_at_call 28; refine (c7 _).mono ?_; rintro e w6 ⟨rfl, rfl⟩) | (go_at_call 29; refine c8.mono ?_; rintro e w6 ⟨rfl, h6, ht6⟩))
  have T6 := touch_blk ht6 T5 (by omega)
  have bel6 := bel5.trans (touch_below ht6 (Nat.le_refl g) (by omega))
  have hs6 := ht6.size
  clear c6 c7 c8 T5 bel5 h5 ht6
  have c9 := err_any g _ 2 w6 h6
  have hone : (#[.int .i64 0, .int .i64 0, .int .u32 0, .int .i64 0, .int .i64 0, .int .u32 0, .string ⟨#[]⟩, .int .u32 0, .int .u32 0, .int .i64 0, .int .i64 0, .slice none 0 0, .slice none 0 0, .slice none 0 0, .slice none 0 0] : Array Value).all (·.oneCell') = true := by kernel_rfl
  have szY : (Try.prog.info? 28).map (·.size) = some (#[.int .i64 0, .int .i64 0, .int .u32 0, .int .i64 0, .int .i64 0, .int .u32 0, .string ⟨#[]⟩, .int .u32 0, .int .u32 0, .int .i64 0, .int .i64 0, .slice none 0 0, .slice none 0 0, .slice none 0 0, .slice none 0 0] : Array Value).size := by show _ = some 15; kernel_rfl
  have ZR := (Cel.of_blk T6).setCells_same (#[.int .i64 0, .int .i64 0, .int .u32 0, .int .i64 0, .int .i64 0, .int .u32 0, .string ⟨#[]⟩, .int .u32 0, .int .u32 0, .int .i64 0, .int .i64 0, .slice none 0 0, .slice none 0 0, .slice none 0 0, .slice none 0 0] : Array Value).toList rfl
  have bel10 := below_setCells bel6 (show g ≤ tb by omega) 0 (#[.int .i64 0, .int .i64 0, .int .u32 0, .int .i64 0, .int .i64 0, .int .u32 0, .string ⟨#[]⟩, .int .u32 0, .int .u32 0, .int .i64 0, .int .i64 0, .slice none 0 0, .slice none 0 0, .slice none 0 0, .slice none 0 0] : Array Value).toList
  go_wp2_with (first | (go_at_call 30; refine c9.mono ?_; rintro e w7 ⟨rfl, rfl⟩) | (refine wpList_store_at rfl 28 _ _ rfl tb 0 #[.int .i64 0, .int .i64 0, .int .u32 0, .int .i64 0, .int .i64 0, .int .u32 0, .string ⟨#[]⟩, .int .u32 0, .int .u32 0, .int .i64 0, .int .i64 0, .slice none 0 0, .slice none 0 0, .slice none 0 0, .slice none 0 0] rfl rfl #[.int .i64 0, .int .i64 0, .int .u32 0, .int .i64 0, .int .i64 0, .int .u32 0, .string ⟨#[]⟩, .int .u32 0, .int .u32 0, .int .i64 0, .int .i64 0, .slice none 0 0, .slice none 0 0, .slice none 0 0, .slice none 0 0] (Cel.of_blk T6) szY rfl hone ?_))
  exact bodyPost_ret (v := .agg #[.int .i64 0, .int .i64 0, .int .u32 0, .int .i64 0, .int .i64 0, .int .u32 0, .string ⟨#[]⟩, .int .u32 0, .int .u32 0, .int .i64 0, .int .i64 0, .slice none 0 0, .slice none 0 0, .slice none 0 0, .slice none 0 0]) (results_cell_at (p := 2) (ty := 28) rfl _ _ tb 0 #[.int .i64 0, .int .i64 0, .int .u32 0, .int .i64 0, .int .i64 0, .int .u32 0, .string ⟨#[]⟩, .int .u32 0, .int .u32 0, .int .i64 0, .int .i64 0, .slice none 0 0, .slice none 0 0, .slice none 0 0, .slice none 0 0] _ rfl (ZR.congr rfl) Try.underlying28 rfl szY) rfl ⟨rfl, bel10⟩
end Go.Proofs.Ytfpcneekbdcbcaa.ck
