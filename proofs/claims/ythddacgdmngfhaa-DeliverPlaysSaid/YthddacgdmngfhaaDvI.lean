/- Layer 18: the document's own words: a message put in order (gen-dvi.py wrote this). -/
import Derived.Test.YthddacgdmngfhaaDvH
namespace Go.Proofs.Ythddacgdmngfhaa.del
open Go.Sort (grow)
open Go.ChangeShapes Go.WideShapes Go.ChangeAt Go.RowKit kit
set_option maxRecDepth 100000
theorem mask16 (x : Int) : bits .and .i64 x 65535 = x % 65536 := by
  have h := i64_mask x 16 (by omega)
  rw [show ((2 ^ 16 - 1 : Nat) : Int) = 65535 from rfl] at h
  exact h
/-- A next place. -/
theorem Rp.at_ {b0 bx : Nat} {on : Option Addr} {cn : Nat} {wv ov : Value} {N : List Nat} {W O : List Mg} {x : Mg} {w : World} (h : Rp b0 bx (.slice on N.length cn) wv ov N W O x w) {k : Nat} (hk : k < N.length) : ∃ gn no, on = some ⟨gn, no, none⟩ ∧ gn < w.heap.size ∧ blkOf (.slice on N.length cn) = some gn ∧ w.cell? ⟨gn, no + k, none⟩ = some (.int .i64 (N[k] : Int)) ∧ w.frozen? ⟨gn, no + k, none⟩ = false := by
  obtain ⟨gn, no, cap', e, h1, h2, h3, h4, h5, h6⟩ := h.n.show_ (by omega)
  simp only [Value.slice.injEq, true_and] at e
  obtain ⟨rfl, rfl⟩ := e
  have K := h6 k #[.int .i64 (N[k] : Int)] hk (Nat.le_refl 1) (fun j hj => by
    have : j = 0 := by have : j < 1 := hj; omega
    subst this
    rw [Nat.mul_one, Nat.add_zero, cellsN_get N k hk]; rfl)
  rw [Nat.mul_one] at K
  exact ⟨gn, no, rfl, h4, h5, K.cell 0 (u := .int .i64 (N[k] : Int)) rfl, K.frozen 0 (by show 0 < 1; omega)⟩
/-- One of those that wait. -/
theorem Rp.wt {b0 bx : Nat} {nv ov : Value} {owv : Option Addr} {cw : Nat} {N : List Nat} {W O : List Mg} {x : Mg} {w : World} (h : Rp b0 bx nv (.slice owv W.length cw) ov N W O x w) {i : Nat} {y : Mg} (hy : W[i]? = some y) : ∃ gw wo, owv = some ⟨gw, wo, none⟩ ∧ gw < w.heap.size ∧ Cel w gw (wo + i * 5) (mgc y) := by
  have hi : i < W.length := (List.getElem?_eq_some_iff.1 hy).1
  obtain ⟨gn, no, cap', e, h1, h2, h3, h4, h5, h6⟩ := h.v.show_ (by omega)
  simp only [Value.slice.injEq, true_and] at e
  obtain ⟨rfl, rfl⟩ := e
  exact ⟨gn, no, rfl, h4, h6 i (mgc y) hi (Nat.le_refl 5) (cellsM_get hy)⟩
/-- A next place written. -/
theorem Rp.setAt {b0 bx : Nat} {on : Option Addr} {cn : Nat} {wv ov : Value} {N : List Nat} {W O : List Mg} {x : Mg} {w : World} (h : Rp b0 bx (.slice on N.length cn) wv ov N W O x w) {k gn no : Nat} (hk : k < N.length) (ho : on = some ⟨gn, no, none⟩) (hb : blkOf (.slice on N.length cn) = some gn) (hd : blkOf wv ≠ some gn ∧ blkOf ov ≠ some gn) (p : Nat) : Rp b0 bx (.slice on N.length cn) wv ov (N.set k p) W O x (w.setCell ⟨gn, no + k, none⟩ (.int .i64 (p : Int))) := by
  have hx := h.hn gn hb
  have q := h.n.set_ (congrArg (fun a => Value.slice a N.length cn) ho) k (by omega) (.int .i64 (p : Int))
  rw [cellsN_set] at q
  exact ⟨h.B.far (p := ⟨gn, no + k, none⟩) (by show bx ≠ gn; omega) _, h.M.far (p := ⟨gn, no + k, none⟩) (by show bx + 1 ≠ gn; omega) _, h.Z.far (p := ⟨gn, no + k, none⟩) (by show bx + 2 ≠ gn; omega) _, by rw [List.length_set]; exact q, h.v.far (p := ⟨gn, no + k, none⟩) hd.1 _, h.o.far (p := ⟨gn, no + k, none⟩) hd.2 _, h.hn, h.hv, h.ho⟩
theorem part_false {k n : Nat} {P Oc R Oi : List Mg} (h : part k n P Oc = (false, R, Oi)) : R = P ∧ Oi = Oc := by
  unfold part at h
  cases hp : pick k n P with
  | none => rw [hp] at h; cases h; exact ⟨rfl, rfl⟩
  | some q => rw [hp] at h; cases h
theorem Rp.grown {b0 bx : Nat} {nv wv ov : Value} {N : List Nat} {W O : List Mg} {x : Mg} {w w' : World} {B : Option Nat} (h : Rp b0 bx nv wv ov N W O x w) (gr : w.grownBy w' B) (hB : ∀ i, B = some i → (i < bx ∨ bx + 2 < i) ∧ blkOf nv ≠ some i ∧ blkOf wv ≠ some i ∧ blkOf ov ≠ some i) : Rp b0 bx nv wv ov N W O x w' := by
  have hs := gr.size
  exact ⟨(gr.block bx h.B.lt (fun e => by have := (hB bx e.symm).1; omega)).trans h.B, (gr.block (bx + 1) h.M.lt (fun e => by have := (hB (bx + 1) e.symm).1; omega)).trans h.M, (gr.block (bx + 2) h.Z.lt (fun e => by have := (hB (bx + 2) e.symm).1; omega)).trans h.Z,
    h.n.block hs fun k hk => gr.block k (h.n.lt hk).2 (fun e => (hB k e.symm).2.1 hk), h.v.block hs fun k hk => gr.block k (h.v.lt hk).2 (fun e => (hB k e.symm).2.2.1 hk), h.o.block hs fun k hk => gr.block k (h.o.lt hk).2 (fun e => (hB k e.symm).2.2.2 hk), h.hn, h.hv, h.ho⟩
theorem val_after_C {P : Program} {ops : Array Oper} {Q : Exit → Act → World → Prop} {S : World → Prop} {c i : Nat} {o : Oper} {u : Value} {d fuel : Nat} {L : Array Bool} {a : Act} {w w' : World} (hr : Region.ready .any ops L = [i]) (hi : ops[i]? = some o) (hg : o.guard = none) (hd : o.dst = some d) (hc : L.getD c true = true) (hrun : (execOp a.eval o).run P w = .ok (.value u) w')
    (h : wpAnyC P .any ops Q S c fuel (L.setIfInBounds i true) (a.put (some d) u) w') : wpAnyC P .any ops Q S c (fuel + 1) L a w := by
  refine ⟨fun h0 => absurd (hr.symm.trans h0) (by simp), fun j hj => ?_⟩
  rw [hr] at hj
  obtain rfl : j = i := by simpa using hj
  exact wpOp_of hi hg (wp_val hrun hd ⟨fun _ hf => absurd (hc.symm.trans hf) (by simp), h⟩)
theorem run_and {P : Program} {oi : Oper} {a : Act} {x y : Operand} {tx ty : TypeId} {s j u : Value} {v : World} (ho : oi.op = .binOp .and tx x y ty) (hx : a.eval x = s) (hy : a.eval y = j) (hr : (binOp .and tx s j).run P v = .ok u v) : (execOp a.eval oi).run P v = .ok (.value u) v := by
  unfold execOp
  simp [ho, hx, hy, eqGuard, hr]
/-- What the document's Put comes to, of a message in order. -/
def ROrd (b0 : Nat) (nv wv ov : Value) (w : World) (N : List Nat) (W O : List Mg) (k nk : Nat) (x : Mg) (e : Ending) (w' : World) : Prop :=
  ((32768 < far16 (plc x) nk ∨ ∃ y ∈ ofS k W, plc y = plc x) → RPut b0 nv wv ov w false N W O e w') ∧
  (¬ (32768 < far16 (plc x) nk ∨ ∃ y ∈ ofS k W, plc y = plc x) → RPut b0 nv wv ov w true (N.set k (passes k (W.length + 2) (nk, W ++ [x], O)).1) (passes k (W.length + 2) (nk, W ++ [x], O)).2.1 (passes k (W.length + 2) (nk, W ++ [x], O)).2.2 e w')
set_option maxHeartbeats 16000000 in
theorem rput_ord {b0 : Nat} {nv wv ov : Value} {N : List Nat} {W O : List Mg} {w : World} (n : Qo w b0 1 nv N.length (cellsN N)) (v : Qo w b0 5 wv W.length (cellsM W)) (o : Qo w b0 5 ov O.length (cellsM O)) (hb0 : b0 ≤ w.heap.size) (k : Nat) (hk : k < N.length) (ss pr : Int) (d : ByteArray) (hlen : W.length + O.length ≤ 1000) (hN : ∀ z ∈ N, z < 65536) (hN16 : N.length ≤ 1000) :
    Calls Try.prog 53 #[.agg #[nv, wv, ov], .agg (mgc ⟨(k : Int), ss, false, pr, d⟩)] w (ROrd b0 nv wv ov w N W O k (N[k]) ⟨(k : Int), ss, false, pr, d⟩) := by
  obtain ⟨i0, hi, hz0, hz1, hz2⟩ := info_parts infoM
  obtain ⟨on, cn, hnv, _, _⟩ := n.shape
  obtain ⟨owv, cw, hwv, _, _⟩ := v.shape
  obtain ⟨oo, co, hov, _, _⟩ := o.shape
  subst hnv
  subst hwv
  subst hov
  obtain ⟨R, al⟩ := rp_new ⟨(k : Int), ss, false, pr, d⟩ n v o
  clear n v o
  have hd : decide ((k : Int) < 0) = false := decide_eq_false (by omega)
  have hd2 : decide ((N.length : Int) ≤ (k : Int)) = false := decide_eq_false (by omega)
  go_enter Try.func53, Try.ntmps53
  go_upto_region 1 with fail
  obtain ⟨w1, hw1⟩ : ∃ w1, ((w.alloc (.cells #[.slice on N.length cn, .slice owv W.length cw, .slice oo O.length co] 87)).alloc (.cells (mgc ⟨(k : Int), ss, false, pr, d⟩) 30)).alloc (.cells #[.slice none 0 0, .slice none 0 0, .slice none 0 0] 87) = w1 := ⟨_, rfl⟩
  rw [hw1] at R al ⊢
  obtain ⟨bx, hbx⟩ : ∃ bx, w.heap.size = bx := ⟨_, rfl⟩
  have hs1 : (w.alloc (.cells #[.slice on N.length cn, .slice owv W.length cw, .slice oo O.length co] 87)).heap.size = bx + 1 := by simp [hbx]
  have hs2 : ((w.alloc (.cells #[.slice on N.length cn, .slice owv W.length cw, .slice oo O.length co] 87)).alloc (.cells (mgc ⟨(k : Int), ss, false, pr, d⟩) 30)).heap.size = bx + 2 := by simp [hbx]
  try rw [hs1]
  try rw [hs2]
  rw [hbx] at R al ⊢
  try rw [show bx + 1 + 1 = bx + 2 from rfl]
  clear hw1 hs1 hs2
  have HBX := Lib.hid hbx
  clear hbx
  have x0 : w1.cell? ⟨bx + 1, 0, none⟩ = some (.int .i64 (k : Int)) := R.M.cell 0
  have x2 : w1.cell? ⟨bx + 1, 2, none⟩ = some (.bool false) := R.M.cell 2
  have s0 : w1.cell? ⟨bx, 0, none⟩ = some (.slice on N.length cn) := R.B.cell 0
  have n0 : (0 : Int) ≤ (N.length : Int) := by omega
  have HR := Lib.hid (And.intro R al)
  clear R al
  have x1 : w1.cell? ⟨bx + 1, 1, none⟩ = some (.int .i64 ss) := HR.out.1.M.cell 1
  obtain ⟨p, hp⟩ : ∃ p : Nat, plc ⟨(k : Int), ss, false, pr, d⟩ = p := ⟨_, rfl⟩
  have hpl : p < 65536 := by rw [← hp]; exact plc_lt _
  have hmk : bits .and .i64 ss 65535 = (p : Int) := by rw [mask16, ← hp, plc_cast]
  obtain ⟨gn, no, hon, hgn, hbn, nc, nf⟩ := HR.out.1.at_ hk
  have hnk : N[k] < 65536 := hN _ (List.getElem_mem hk)
  have HN := Lib.hid hN
  generalize hnk' : N[k] = nk at *
  have HNK := Lib.hid hnk'
  have HP := Lib.hid hp
  obtain ⟨fr, hfr⟩ : ∃ fr : Nat, far16 p nk = fr := ⟨_, rfl⟩
  have hfar : bits .and .i64 ((p : Int) - (nk : Int)) 65535 = (fr : Int) := by rw [mask16, ← hfr]; unfold far16; omega
  have hwr : IntKind.i64.wrap ((p : Int) - (nk : Int)) = (p : Int) - (nk : Int) := IntWalk.i64_in _ (by omega)
  have hki : (k : Int) < (N.length : Int) := by omega
  have HFR := Lib.hid hfr
  subst hon
  clear hN hnk' hp hfr hbn nf
  go_upto_region 8 with fail
  try rw [hmk]
  try rw [hfar]
  have hk0 : (0 : Int) ≤ (k : Int) := by omega
  by_cases hf : 32768 < fr
  · have hfi : (32768 : Int) < (fr : Int) := by omega
    have RB := HR.out.1.B
    have RC := HR.out.1.Z
    go_wp2_with (first | (refine wpList_load_at rfl 87 _ rfl bx 0 rfl #[.slice (some ⟨gn, no, none⟩) N.length cn, .slice owv W.length cw, .slice oo O.length co] _ (Cel.of_blk RB) Try.underlying87 rfl (szR _ _ _) ?_) | (refine wpList_store_at rfl 87 _ _ rfl (bx + 2) 0 #[.slice (some ⟨gn, no, none⟩) N.length cn, .slice owv W.length cw, .slice oo O.length co] rfl rfl _ (Cel.of_blk RC) (szR _ _ _) rfl (by kernel_rfl) ?_))
    obtain ⟨KK, o1, o2, o3, b3⟩ := HR.out.1.told
    exact bodyPost_ret (v := .tuple #[.agg #[.slice (some ⟨gn, no, none⟩) N.length cn, .slice owv W.length cw, .slice oo O.length co], .bool false]) (by rw [results_cell_tmp_at rfl _ _ (bx + 2) 0 #[.slice (some ⟨gn, no, none⟩) N.length cn, .slice owv W.length cw, .slice oo O.length co] _ rfl KK Try.underlying87 rfl (szR _ _ _)]; rfl) rfl ⟨fun _ => ⟨_, _, _, rfl, o1, o2, o3, fun k hk => .inl hk, by rw [HBX.out]; exact HR.out.2.trans b3⟩, fun hc => absurd (.inl (by rw [HP.out, HNK.out, HFR.out]; exact hf)) hc⟩
  have hfi : (fr : Int) ≤ 32768 := by omega
  go_upto_region 10 with fail
  clear x0 x1 x2 s0 nc hmk hfar hwr hd hd2
  go_wp2_with fail
  have hW1 : W.length ≤ 1000 := by omega
  go_loopw [8] (fun s8 wr => ∃ i : Nat, s8 = .int .i64 (i : Nat) ∧ i ≤ W.length ∧ (∀ (j : Nat) y, j < i → W[j]? = some y → hit k p y = false) ∧ Rp b0 bx (.slice (some ⟨gn, no, none⟩) N.length cn) (.slice owv W.length cw) (.slice oo O.length co) N W O ⟨(k : Int), ss, false, pr, d⟩ wr ∧ Below bx w wr) (fun s8 _ => W.length - (intOf s8).toNat)
  case atStart => exact ⟨0, rfl, Nat.zero_le _, fun j y hj => absurd hj (Nat.not_lt_zero j), HR.out.1, HR.out.2⟩
  case round =>
    obtain ⟨i, rfl, hi1, hno, R, bel⟩ := hrel
    have m0 : wr.cell? ⟨bx + 1, 0, none⟩ = some (.int .i64 (k : Int)) := R.M.cell 0
    have s1 : wr.cell? ⟨bx, 1, none⟩ = some (.slice owv W.length cw) := R.B.cell 1
    have HRR := Lib.hid (And.intro R (And.intro bel hno))
    by_cases hlt : i < W.length
    · have hii : (i : Int) < (W.length : Int) := by omega
      have hi0 : (0 : Int) ≤ (i : Int) := by omega
      obtain ⟨y, hy⟩ : ∃ y, W[i]? = some y := ⟨_, List.getElem?_eq_getElem hlt⟩
      obtain ⟨gw, wo, how, hgw, C⟩ := R.wt hy
      obtain ⟨ys, yss, yl, yp, yd⟩ := y
      have y0 : wr.cell? ⟨gw, wo + i * 5, none⟩ = some (.int .i64 ys) := C.cell 0 (u := .int .i64 ys) rfl
      have y1 : wr.cell? ⟨gw, wo + i * 5 + 1, none⟩ = some (.int .i64 yss) := C.cell 1 (u := .int .i64 yss) rfl
      obtain ⟨q, hq⟩ : ∃ q : Nat, plc ⟨ys, yss, yl, yp, yd⟩ = q := ⟨_, rfl⟩
      have hmy : bits .and .i64 yss 65535 = (q : Int) := by rw [mask16, ← hq, plc_cast]
      have HY := Lib.hid (And.intro hy hq)
      have hhit : hit k p ⟨ys, yss, yl, yp, yd⟩ = (decide (ys = (k : Int)) && decide (q = p)) := by unfold hit; rw [hq]
      have HH := Lib.hid hhit
      subst how
      clear hy hq hhit C R bel hno HR
      by_cases hs : ys = (k : Int)
      · subst hs
        by_cases hqp : q = p
        · subst hqp
          go_upto_region 13 with fail
          go_quiet ((fail))
          have R2 : Rp b0 bx (.slice (some ⟨gn, no, none⟩) N.length cn) (.slice (some ⟨gw, wo, none⟩) W.length cw) (.slice oo O.length co) N W O ⟨(k : Int), ss, false, pr, d⟩ (wr.drewN nq) := HRR.out.1.same rfl
          have bel2 : Below bx w (wr.drewN nq) := ⟨HRR.out.2.1.os, HRR.out.2.1.tape, HRR.out.2.1.output, HRR.out.2.1.size, HRR.out.2.1.block⟩
          clear m0 s1 y0 y1
          generalize wr.drewN nq = w5 at *
          have RB := R2.B
          have RC := R2.Z
          have HX := Lib.hid (And.intro R2 bel2)
          clear R2 bel2
          go_wp2_with (first | (refine wpList_load_at rfl 87 _ rfl bx 0 rfl #[.slice (some ⟨gn, no, none⟩) N.length cn, .slice (some ⟨gw, wo, none⟩) W.length cw, .slice oo O.length co] _ (Cel.of_blk RB) Try.underlying87 rfl (szR _ _ _) ?_) | (refine wpList_store_at rfl 87 _ _ rfl (bx + 2) 0 #[.slice (some ⟨gn, no, none⟩) N.length cn, .slice (some ⟨gw, wo, none⟩) W.length cw, .slice oo O.length co] rfl rfl _ (Cel.of_blk RC) (szR _ _ _) rfl (by kernel_rfl) ?_))
          obtain ⟨KK, o1, o2, o3, b3⟩ := HX.out.1.told
          exact bodyPost_ret (v := .tuple #[.agg #[.slice (some ⟨gn, no, none⟩) N.length cn, .slice (some ⟨gw, wo, none⟩) W.length cw, .slice oo O.length co], .bool false]) (by rw [results_cell_tmp_at rfl _ _ (bx + 2) 0 #[.slice (some ⟨gn, no, none⟩) N.length cn, .slice (some ⟨gw, wo, none⟩) W.length cw, .slice oo O.length co] _ rfl KK Try.underlying87 rfl (szR _ _ _)]; rfl) rfl ⟨fun _ => ⟨_, _, _, rfl, o1, o2, o3, fun k hk => .inl hk, by rw [HBX.out]; exact HX.out.2.trans b3⟩, fun hc => absurd (.inr ⟨_, mem_ofS.2 ⟨List.mem_of_getElem? HY.out.1, rfl⟩, by rw [HY.out.2, HP.out]⟩) hc⟩
        · have hb : ((q : Int) == (p : Int)) = false := by simp; omega
          go_upto_region 13 with fail
          go_quiet ((fail))
          have R2 : Rp b0 bx (.slice (some ⟨gn, no, none⟩) N.length cn) (.slice (some ⟨gw, wo, none⟩) W.length cw) (.slice oo O.length co) N W O ⟨(k : Int), ss, false, pr, d⟩ (wr.drewN nq) := HRR.out.1.same rfl
          have bel2 : Below bx w (wr.drewN nq) := ⟨HRR.out.2.1.os, HRR.out.2.1.tape, HRR.out.2.1.output, HRR.out.2.1.size, HRR.out.2.1.block⟩
          have HX := Lib.hid (And.intro R2 bel2)
          clear m0 s1 y0 y1 R2 bel2
          generalize wr.drewN nq = w5 at *
          have hh : hit k p ⟨(k : Int), yss, yl, yp, yd⟩ = false := by rw [HH.out]; simp [hqp]
          have HHH := Lib.hid hh
          clear hh
          go_wp2_with fail
          go_roundw
          case rel =>
            refine ⟨i + 1, by go_num, by omega, fun j y hj hy => ?_, HX.out.1, HX.out.2⟩
            by_cases e : j = i
            · subst e; rw [HY.out.1] at hy; cases hy; exact HHH.out
            · exact HRR.out.2.2 j y (by omega) hy
          case measure => simp [intOf]; omega
      · have hb : (ys == (k : Int)) = false := by simp [hs]
        go_upto_region 13 with fail
        go_quiet ((fail))
        have R2 : Rp b0 bx (.slice (some ⟨gn, no, none⟩) N.length cn) (.slice (some ⟨gw, wo, none⟩) W.length cw) (.slice oo O.length co) N W O ⟨(k : Int), ss, false, pr, d⟩ (wr.drewN nq) := HRR.out.1.same rfl
        have bel2 : Below bx w (wr.drewN nq) := ⟨HRR.out.2.1.os, HRR.out.2.1.tape, HRR.out.2.1.output, HRR.out.2.1.size, HRR.out.2.1.block⟩
        have HX := Lib.hid (And.intro R2 bel2)
        clear m0 s1 y0 y1 R2 bel2
        generalize wr.drewN nq = w5 at *
        have hh : hit k p ⟨ys, yss, yl, yp, yd⟩ = false := by rw [HH.out]; simp [hs]
        have HHH := Lib.hid hh
        clear hh
        go_wp2_with fail
        go_roundw
        case rel =>
          refine ⟨i + 1, by go_num, by omega, fun j y hj hy => ?_, HX.out.1, HX.out.2⟩
          by_cases e : j = i
          · subst e; rw [HY.out.1] at hy; cases hy; exact HHH.out
          · exact HRR.out.2.2 j y (by omega) hy
        case measure => simp [intOf]; omega
    · obtain rfl : i = W.length := by omega
      have hnodup : ¬ ∃ y ∈ ofS k W, plc y = plc ⟨(k : Int), ss, false, pr, d⟩ := fun ⟨y, hy, he⟩ => by
        obtain ⟨hm, hst⟩ := mem_ofS.1 hy
        obtain ⟨j, hj⟩ := List.getElem?_of_mem hm
        have h1 := HRR.out.2.2 j y (List.getElem?_eq_some_iff.1 hj).1 hj
        unfold hit at h1
        rw [he, HP.out] at h1
        simp [hst] at h1
      have HND := Lib.hid hnodup
      clear hnodup HR
      have hbxw : bx + 2 < wr.heap.size := HRR.out.1.Z.lt
      go_upto_region 15 with fail
      clear m0 s1
      have HS := Lib.hid (show wr.drew.cell? ⟨bx, 1, none⟩ = some (.slice owv W.length cw) ∧ Cel wr.drew (bx + 1) 0 #[.int .i64 (k : Int), .int .i64 ss, .bool false, .int .u32 pr, .string d] from ⟨HRR.out.1.drew.B.cell 1, Cel.of_blk HRR.out.1.drew.M⟩)
      have HSS := Lib.hid (show ∀ v, Below wr.heap.size wr.drew v → v.cell? ⟨bx, 1, none⟩ = some (.slice owv W.length cw) ∧ Cel v (bx + 1) 0 #[.int .i64 (k : Int), .int .i64 ss, .bool false, .int .u32 pr, .string d] from fun v hb => ⟨(HRR.out.1.drew.below hb (Nat.le_refl _)).B.cell 1, Cel.of_blk (HRR.out.1.drew.below hb (Nat.le_refl _)).M⟩)
      refine wp_region_noPanic ?_
      refine begin_C (fun v => v.cell? ⟨bx, 1, none⟩ = some (.slice owv W.length cw) ∧ Cel v (bx + 1) 0 #[.int .i64 (k : Int), .int .i64 ss, .bool false, .int .u32 pr, .string d]) 8 (by kernel_rfl) ?_
      refine abs_C _ (fun b hb => ?_)
      have hsz : b.tmps.size = 163 := by rw [hb]; rfl
      have e2 : b.eval (.tmp 2) = .pointer (some ⟨bx, 0, none⟩) := by rw [hb]; rfl
      have e3 : b.eval (.tmp 3) = .pointer (some ⟨bx + 1, 0, none⟩) := by rw [hb]; rfl
      have HB := Lib.hid hb
      clear hb
      have EV := And.intro @Act.eval_put_ne (And.intro @Act.eval_put_same (And.intro @Act.size_put (And.intro hsz (And.intro e2 e3))))
      refine take_Y (i := 1) (u := .pointer (some ⟨bx, 1, none⟩)) rfl (by kernel_rfl) (by kernel_rfl) (by kernel_rfl) (by decide) rfl rfl (fun _ _ _ h => h) HS.out (fun v => run_field (s := .pointer (some ⟨bx, 0, none⟩)) rfl (by simp [e2]) (by kernel_rfl)) ?_
      refine take_C (i := 2) [3, 6] (u := .slice owv W.length cw) rfl (by kernel_rfl) (by kernel_rfl) (by kernel_rfl) (by kernel_rfl) (by kernel_rfl) (by decide) rfl rfl (fun _ _ _ h => h) HS.out (fun v hv => run_load1 (s := .pointer (some ⟨bx, 1, none⟩)) rfl (by simp [EV]) (by have c := hv.1; go_simp)) ?_
      refine take_C (i := 4) [5, 6] (u := .agg #[.int .i64 (k : Int), .int .i64 ss, .bool false, .int .u32 pr, .string d]) rfl (by kernel_rfl) (by kernel_rfl) (by kernel_rfl) (by kernel_rfl) (by kernel_rfl) (by decide) rfl rfl (fun _ _ _ h => h) HS.out (fun v hv => run_load_at rfl (h := bx + 1) (off := 0) (by simp [EV]) _ Try.underlying30 rfl (szX ⟨(k : Int), ss, false, pr, d⟩) hv.2) ?_
      refine dappq_C (T := 30) (SL := 85) (fuel := 2) (xv := .agg #[.int .i64 (k : Int), .int .i64 ss, .bool false, .int .u32 pr, .string d]) (sv := .slice owv W.length cw) (ITEM := #[.int .i64 (k : Int), .int .i64 ss, .bool false, .int .u32 pr, .string d]) 0 3 5 6 _ _ _ _ 80 83 85 86 82 84 (by kernel_rfl) (by simp [Act.size_put, hsz, dappCT]) rfl rfl rfl rfl ⟨rfl, rfl⟩ ⟨rfl, rfl⟩ ⟨rfl, rfl⟩ ⟨rfl, rfl⟩ rfl rfl
        (fun b v => by kernel_rfl) (fun b v hb => run_build1 rfl hb (by kernel_rfl)) Try.underlying85 hi hz0 hz1 hz2 rfl (by simp [EV]) (by simp [EV]) (HRR.out.1.drew.v) (cellsM_one W) (mgc_one ⟨(k : Int), ss, false, pr, d⟩) rfl (by unfold maxLen; omega) (by omega)
        (fun v hv => HSS.out v hv) (fun vE vM vB oa cp v q bel => ?_)
      have bel' : Below wr.heap.size wr v := (Below.refl _ _).drew.trans bel
      have R3 := HRR.out.1.below bel' (Nat.le_refl _)
      have q' : Qo v wr.heap.size 5 (.slice oa (W.length + 1) cp) (W ++ [(⟨(k : Int), ss, false, pr, d⟩ : Mg)]).length (cellsM (W ++ [(⟨(k : Int), ss, false, pr, d⟩ : Mg)])) := by
        rw [cellsM_append, List.length_append]
        exact q
      have hbw0 : b0 ≤ wr.heap.size := by have := HBX.out; have := HRR.out.2.1.size; omega
      have R4 := R3.setV q' hbw0 hbxw
      have c3 := R3.B.cell 1
      have f3 := R3.B.frozen 1
      have hSv := HSS.out v bel
      refine take_Y (i := 7) (u := .pointer (some ⟨bx, 1, none⟩)) rfl (by kernel_rfl) (by kernel_rfl) (by kernel_rfl) (by decide) rfl rfl (fun _ _ _ h => h) hSv (fun v => run_field (s := .pointer (some ⟨bx, 0, none⟩)) rfl (by simp [EV]) (by kernel_rfl)) ?_
      refine store_C (i := 8) (p := .pointer (some ⟨bx, 1, none⟩)) (u := .slice oa (W.length + 1) cp) (w' := v.setCell ⟨bx, 1, none⟩ (.slice oa (W.length + 1) cp)) (by kernel_rfl) rfl rfl rfl rfl (by simp [EV]) (by simp [EV]) (fun h => absurd rfl h) (by go_simp) ?_
      have bel4 : Below bx w (v.setCell ⟨bx, 1, none⟩ (.slice oa (W.length + 1) cp)) := (HRR.out.2.1.trans (bel'.mono (by omega))).setCell (p := ⟨bx, 1, none⟩) (Nat.le_refl _) _
      have hq := fun i (hi : blkOf (.slice oa (W.length + 1) cp) = some i) => (show wr.heap.size ≤ i from (q.lt hi).1)
      refine done_C (by kernel_rfl) ?_ _
      refine NoPanic.normal ?_
      rw [HB.out]
      simp only [Act.put, List.setIfInBounds_toArray, List.set_cons_zero, List.set_cons_succ]
      have hs4 : wr.heap.size ≤ (v.setCell ⟨bx, 1, none⟩ (.slice oa (W.length + 1) cp)).heap.size := by have := bel'.size; simpa [World.setCell] using this
      clear HB HS HSS R3 c3 f3 q q' bel bel' hsz EV e2 e3 hSv
      generalize v.setCell ⟨bx, 1, none⟩ (.slice oa (W.length + 1) cp) = w4 at *
      have hwlen : (W ++ [(⟨(k : Int), ss, false, pr, d⟩ : Mg)]).length = W.length + 1 := by simp
      have al8 := (Below.refl w4.heap.size w4).alloc (Nat.le_refl _) (.cells #[] 3)
      have hs8 := al8.size
      obtain ⟨j0, hj, hj0, hj1, hj2⟩ := info_parts infoI
      obtain ⟨v9, w9, hr9, q9, gr9, ha9⟩ := qo_append (P := Try.prog) (t := 25) (ty := 25) Try.underlying25 hj hj0 hj1 hj2 rfl (Qo.empty (w4.alloc (.cells #[] 3)) w4.heap.size 1 (some ⟨w4.heap.size, 0, none⟩)) ((R4.n.below al8 (Nat.le_refl _)).src Try.underlying25 (cellsN_one N)) (by unfold maxLen; omega) (by omega) hs8
      have b9 : Below w4.heap.size w4 w9 := al8.grown gr9 hs8 (fun k hk => by rw [blkOf_zero] at hk; cases hk)
      rw [List.nil_append, Nat.zero_add] at q9
      have R9 := (R4.below b9 (Nat.le_refl _)).setP q9 (by omega) (by omega)
      have bel9 : Below bx w (w9.setCell ⟨bx, 0, none⟩ v9) := (bel4.trans (b9.mono (by omega))).setCell (p := ⟨bx, 0, none⟩) (Nat.le_refl _) _
      have hq9 := fun i (hi : blkOf v9 = some i) => (q9.lt hi).1
      have hz9 : w4.heap.size ≤ (w9.setCell ⟨bx, 0, none⟩ v9).heap.size := by have := b9.size; simpa [World.setCell] using this
      have c9 : w9.cell? ⟨bx, 0, none⟩ = some (.slice (some ⟨gn, no, none⟩) N.length cn) := (R4.below b9 (Nat.le_refl _)).B.cell 0
      have f9 : w9.frozen? ⟨bx, 0, none⟩ = false := (R4.below b9 (Nat.le_refl _)).B.frozen 0
      have c4 : w4.cell? ⟨bx, 0, none⟩ = some (.slice (some ⟨gn, no, none⟩) N.length cn) := R4.B.cell 0
      have c4' : (w4.alloc (.cells #[] 3)).cell? ⟨bx, 0, none⟩ = some (.slice (some ⟨gn, no, none⟩) N.length cn) := (R4.below al8 (Nat.le_refl _)).B.cell 0
      obtain ⟨oa9, cap9, hv9, _, _⟩ := q9.shape
      have HAP := Lib.hid (show (∀ i, blkOf v9 = some i → bx ≤ i ∧ blkOf (.slice oa (W.length + 1) cp) ≠ some i ∧ blkOf (.slice oo O.length co) ≠ some i) ∧ (∀ i, blkOf (.slice oa (W.length + 1) cp) = some i → bx ≤ i) from
        ⟨fun i hi => ⟨by have := hq9 i hi; omega, fun e => by have := (R4.v.lt e).2; have := hq9 i hi; omega, fun e => by have := (R4.o.lt e).2; have := hq9 i hi; omega⟩, fun i hi => by have := hq i hi; omega⟩)
      have HX := Lib.hid (And.intro R9 bel9)
      clear q9 gr9 ha9 b9 al8 R4 bel4 hq hq9 R9 bel9
      subst hv9
      go_upto_region 17 with (at_builtin; refine wpList_append_q rfl _ _ _ rfl rfl rfl hr9 ?_)
      clear c9 f9 c4 c4' hr9 hs8
      generalize w9.setCell ⟨bx, 0, none⟩ (.slice oa9 N.length cap9) = w10 at *
      have s1 : w10.cell? ⟨bx, 1, none⟩ = some (.slice oa (W.length + 1) cp) := HX.out.1.B.cell 1
      have hset : N.set k nk = N := by
        apply List.ext_getElem?
        intro i
        by_cases e : k = i
        · subst e; rw [List.getElem?_set_self hk, List.getElem?_eq_getElem hk, HNK.out]
        · rw [List.getElem?_set_ne e]
      have HSET := Lib.hid hset
      clear hset
      go_wp2_with fail
      go_loopw [9] (fun s9 wr => ∃ (j n : Nat) (Wc Oc : List Mg) (nv wv ov : Value), s9 = .int .i64 ((W.length : Int) + 1 - (j : Int)) ∧ j ≤ W.length + 2 ∧ (n, Wc, Oc) = passes k j (nk, W ++ [⟨(k : Int), ss, false, pr, d⟩], O) ∧ Rp b0 bx nv wv ov (N.set k n) Wc Oc ⟨(k : Int), ss, false, pr, d⟩ wr ∧ ((∀ i, blkOf nv = some i → bx ≤ i ∧ blkOf wv ≠ some i ∧ blkOf ov ≠ some i) ∧ (∀ i, blkOf wv = some i → bx ≤ i) ∧ (∀ i, blkOf ov = some i → blkOf (.slice oo O.length co) = some i ∨ bx ≤ i)) ∧ Below bx w wr) (fun s9 _ => ((intOf s9) + 1).toNat)
      case atStart => exact ⟨0, nk, W ++ [⟨(k : Int), ss, false, pr, d⟩], O, _, _, _, by simp, by omega, rfl, by rw [HSET.out]; exact HX.out.1, ⟨HAP.out.1, HAP.out.2, fun i hi => .inl hi⟩, HX.out.2⟩
      case round =>
        clear HX HAP s1
        obtain ⟨j, n, Wc, Oc, nv, wv, ov, rfl, hj, hS, R, ⟨ap1, ap2, ap3⟩, bel⟩ := hrel
        obtain ⟨on, cnn, hnv, _, _⟩ := R.n.shape
        rw [List.length_set] at hnv
        obtain ⟨ow, cww, hwv, _, _⟩ := R.v.shape
        obtain ⟨oov, coo, hov, _, _⟩ := R.o.shape
        subst hnv
        subst hwv
        have hl2 : Wc.length + Oc.length ≤ 1001 := by
          have h1 := passes_len (s := k) (nk, W ++ [⟨(k : Int), ss, false, pr, d⟩], O) j
          rw [← hS] at h1
          have h2 : Wc.length + Oc.length = (W ++ [(⟨(k : Int), ss, false, pr, d⟩ : Mg)]).length + O.length := h1
          rw [h2, List.length_append]; simp; omega
        have hn5 : n < 65536 := by
          have h1 := passes_lt (s := k) (S := (nk, W ++ [⟨(k : Int), ss, false, pr, d⟩], O)) hnk j
          rw [← hS] at h1; exact h1
        by_cases hc : j ≤ W.length + 1
        · have hci : (0 : Int) ≤ (W.length : Int) + 1 - (j : Int) := by omega
          have hbxr : bx + 2 < wr.heap.size := R.Z.lt
          have hnb : ∀ i, blkOf (.slice on N.length cnn) = some i → i < wr.heap.size := fun i hi => (R.n.lt hi).2
          have hwb : ∀ i, blkOf (.slice ow Wc.length cww) = some i → i < wr.heap.size := fun i hi => (R.v.lt hi).2
          have al := (Below.refl wr.heap.size wr).alloc (Nat.le_refl _) (.cells #[] 30)
          have R1 := R.below al (Nat.le_refl _)
          have bel1 := bel.trans (al.mono (by omega))
          have q1 := Qo.empty (wr.alloc (.cells #[] 30)) wr.heap.size 5 (some ⟨wr.heap.size, 0, none⟩)
          have hsz1 := al.size
          have HOUT := Lib.hid (And.intro hj (And.intro hS (And.intro ap1 (And.intro ap2 (And.intro ap3 (And.intro hnb hwb))))))
          have s1 : (wr.alloc (.cells #[] 30)).cell? ⟨bx, 1, none⟩ = some (.slice ow Wc.length cww) := R1.B.cell 1
          clear R bel al hj hS ap1 ap2 ap3 hnb hwb
          go_wp2_with fail
          clear hci
          generalize hdv97 : decide ((j : Int) ≤ (W.length : Int) + 1) = dv97 at *
          clear hdv97
          generalize wr.alloc (.cells #[] 30) = w11 at *
          generalize wr.heap.size = b1 at *
          go_loopw [10, 11, 12] (fun s10 s11 s12 wi => ∃ (i : Nat) (D : Bool) (Rl Oi : List Mg) (rvv ov' : Value), rvv = s10 ∧ s11 = .bool D ∧ s12 = .int .i64 (i : Nat) ∧ i ≤ Wc.length ∧ part k n (Wc.take i) Oc = (D, Rl, Oi) ∧ Rp b0 bx (.slice on N.length cnn) (.slice ow Wc.length cww) ov' (N.set k n) Wc Oi ⟨(k : Int), ss, false, pr, d⟩ wi ∧ Qo wi b1 5 rvv Rl.length (cellsM Rl) ∧ (∀ i, blkOf ov' = some i → (blkOf ov = some i ∨ b1 ≤ i) ∧ blkOf rvv ≠ some i) ∧ Below bx w wi ∧ b1 ≤ wi.heap.size) (fun _ _ s12 _ => Wc.length - (intOf s12).toNat)
          case atStart => exact ⟨0, false, [], Oc, _, ov, rfl, rfl, rfl, Nat.zero_le _, rfl, R1, q1, fun i hi => ⟨.inl hi, fun e => by cases e⟩, bel1, hsz1⟩
          case round =>
            clear R1 bel1 q1 hsz1 s1
            obtain ⟨i, D, Rl, Oi, rvv, ov', rfl, rfl, rfl, hi1, hpt, R, q, hov', bel, hb1⟩ := hrel
            have hRO := part_len hpt
            obtain ⟨orr, crr, hrvv, _, _⟩ := q.shape
            subst hrvv
            have s1 : wr.cell? ⟨bx, 1, none⟩ = some (.slice ow Wc.length cww) := R.B.cell 1
            by_cases hlt : i < Wc.length
            · have hii : (i : Int) < (Wc.length : Int) := by omega
              have hi0 : (0 : Int) ≤ (i : Int) := by omega
              obtain ⟨y, hy⟩ : ∃ y, Wc[i]? = some y := ⟨_, List.getElem?_eq_getElem hlt⟩
              obtain ⟨gw, wo, how, hgw, C⟩ := R.wt hy
              have htk : Wc.take (i + 1) = Wc.take i ++ [y] := by rw [List.take_add_one, hy]; rfl
              obtain ⟨ys, yss, yl, yp, yd⟩ := y
              have hTL : (Wc.take i).length = i := by rw [List.length_take]; omega
              rw [hTL] at hRO
              have C' : Cel wr gw (wo + i * 5) #[.int .i64 ys, .int .i64 yss, .bool yl, .int .u32 yp, .string yd] := C
              have hb0i : b0 ≤ wr.heap.size := by have := HBX.out; omega
              have R6 := R.below ((Below.refl wr.heap.size wr).alloc (Nat.le_refl _) (.cells #[.int .i64 ys, .int .i64 yss, .bool yl, .int .u32 yp, .string yd] 30)) (Nat.le_refl _)
              have q6 := q.alloc (.cells #[.int .i64 ys, .int .i64 yss, .bool yl, .int .u32 yp, .string yd] 30)
              have Y6 := Blk.new wr 30 #[.int .i64 ys, .int .i64 yss, .bool yl, .int .u32 yp, .string yd]
              have bel6 := bel.alloc (by omega) (.cells #[.int .i64 ys, .int .i64 yss, .bool yl, .int .u32 yp, .string yd] 30)
              have hsz6 : (wr.alloc (.cells #[.int .i64 ys, .int .i64 yss, .bool yl, .int .u32 yp, .string yd] 30)).heap.size = wr.heap.size + 1 := by simp
              subst how
              clear C R q bel hy
              go_upto_region 26 with (refine wpList_load_at rfl 30 _ rfl gw (wo + i * 5) rfl #[.int .i64 ys, .int .i64 yss, .bool yl, .int .u32 yp, .string yd] _ C' Try.underlying30 rfl (szX ⟨ys, yss, yl, yp, yd⟩) ?_)
              clear C' s1
              generalize wr.alloc (.cells #[.int .i64 ys, .int .i64 yss, .bool yl, .int .u32 yp, .string yd] 30) = w6 at *
              obtain ⟨yb, hyb⟩ : ∃ yb, wr.heap.size = yb := ⟨_, rfl⟩
              rw [hyb] at Y6 hsz6 hb1 hb0i hgw ⊢
              clear hyb
              obtain ⟨pl, hpl2⟩ : ∃ q : Nat, plc ⟨ys, yss, yl, yp, yd⟩ = q := ⟨_, rfl⟩
              have hmy : bits .and .i64 yss 65535 = (pl : Int) := by rw [mask16, ← hpl2, plc_cast]
              have hhit : hit k n ⟨ys, yss, yl, yp, yd⟩ = (decide (ys = (k : Int)) && decide (pl = n)) := by unfold hit; rw [hpl2]
              obtain ⟨hb, hhb⟩ : ∃ hb, (!D && hit k n ⟨ys, yss, yl, yp, yd⟩) = hb := ⟨_, rfl⟩
              have HI := Lib.hid (And.intro hpt (And.intro htk (And.intro hov' (And.intro R6 (And.intro q6 (And.intro Y6 bel6))))))
              have HH := Lib.hid hhb
              have HP2 := Lib.hid hpl2
              clear hpt htk hov' q6 bel6 hpl2
              go_cut [133] (fun s133 wx => s133 = .bool hb ∧ ∃ m, wx = w6.drewN m)
              case first =>
                rw [hhit] at hhb
                have m0 : w6.cell? ⟨bx + 1, 0, none⟩ = some (.int .i64 (k : Int)) := R6.M.cell 0
                have s0 : w6.cell? ⟨bx, 0, none⟩ = some (.slice on N.length cnn) := R6.B.cell 0
                obtain ⟨gn2, no2, hon2, _, _, nc2, _⟩ := (show Rp b0 bx (.slice on (N.set k n).length cnn) (.slice (some ⟨gw, wo, none⟩) Wc.length cww) ov' (N.set k n) Wc Oi ⟨(k : Int), ss, false, pr, d⟩ w6 from by rw [List.length_set]; exact R6).at_ (show k < (N.set k n).length by rw [List.length_set]; exact hk)
                rw [List.getElem_set_self] at nc2
                subst hon2
                have y0 : w6.cell? ⟨yb, 0, none⟩ = some (.int .i64 ys) := Y6.cell 0
                have y1 : w6.cell? ⟨yb, 1, none⟩ = some (.int .i64 yss) := Y6.cell 1
                clear R6 Y6 hhit
                cases D
                · by_cases hs : ys = (k : Int)
                  · have hb' : (ys == (k : Int)) = true := by simp [hs]
                    by_cases hq : pl = n
                    · have hbq : ((pl : Int) == (n : Int)) = true := by simp [hq]
                      have hbt : hb = true := by rw [← hhb]; simp [hs, hq]
                      clear hhb hs hq
                      subst hbt
                      go_quiet ((fail))
                      go_wp2_with fail
                      go_meet
                      exact ⟨rfl, _, rfl⟩
                    · have hbq : ((pl : Int) == (n : Int)) = false := by simp; omega
                      have hbt : hb = false := by rw [← hhb]; simp [hq]
                      clear hhb hs hq
                      subst hbt
                      go_quiet ((fail))
                      go_wp2_with fail
                      go_meet
                      exact ⟨rfl, _, rfl⟩
                  · have hb' : (ys == (k : Int)) = false := by simp [hs]
                    have hbt : hb = false := by rw [← hhb]; simp [hs]
                    clear hhb hs
                    subst hbt
                    go_quiet ((fail))
                    go_wp2_with fail
                    go_meet
                    exact ⟨rfl, _, rfl⟩
                · have hbt : hb = false := by rw [← hhb]; rfl
                  clear hhb
                  subst hbt
                  go_quiet ((fail))
                  go_wp2_with fail
                  go_meet
                  exact ⟨rfl, _, rfl⟩
              case rest =>
              obtain ⟨rfl, mq, hwc⟩ := hcut
              have R7 := HI.out.2.2.2.1.same (w' := wc) (by rw [hwc]; rfl)
              have hheap : wc.heap = w6.heap := by rw [hwc]; rfl
              have q7 : Qo wc b1 5 (.slice orr Rl.length crr) Rl.length (cellsM Rl) := HI.out.2.2.2.2.1.block (by rw [hheap]; exact Nat.le_refl _) fun k _ => by rw [hheap]
              have Y7 : Blk wc yb 30 #[.int .i64 ys, .int .i64 yss, .bool yl, .int .u32 yp, .string yd] := (by rw [hheap] : wc.heap[yb]? = w6.heap[yb]?).trans HI.out.2.2.2.2.2.1
              have bel7 : Below bx w wc := by
                have h := HI.out.2.2.2.2.2.2
                rw [hwc]; exact ⟨h.os, h.tape, h.output, h.size, h.block⟩
              have hsz7 : wc.heap.size = yb + 1 := by rw [hheap]; exact hsz6
              clear hwc hheap R6 Y6 hmy hhit hsz6 hhb
              generalize wc = w7 at *
              have hov'' := HI.out.2.2.1
              have hbnd : ∀ i, blkOf (.slice orr Rl.length crr) = some i → (i < bx ∨ bx + 2 < i) ∧ blkOf (.slice on N.length cnn) ≠ some i ∧ blkOf (.slice (some ⟨gw, wo, none⟩) Wc.length cww) ≠ some i ∧ blkOf ov' ≠ some i := fun i hi => by
                have h1 := (q7.lt hi).1
                exact ⟨.inr (by omega), fun e => by have := HOUT.out.2.2.2.2.2.1 i e; omega, fun e => by have := HOUT.out.2.2.2.2.2.2 i e; omega, fun e => (hov'' i e).2 hi⟩
              cases hb with
              | false =>
                have al8 := (Below.refl w7.heap.size w7).alloc (Nat.le_refl _) (.cells #[.int .i64 ys, .int .i64 yss, .bool yl, .int .u32 yp, .string yd] 30)
                have R8 := R7.below al8 (Nat.le_refl _)
                have q8 := q7.alloc (.cells #[.int .i64 ys, .int .i64 yss, .bool yl, .int .u32 yp, .string yd] 30)
                have srcI := src_item (P := Try.prog) (SL := 85) (sz := 5) Try.underlying85 (Blk.new w7 30 #[.int .i64 ys, .int .i64 yss, .bool yl, .int .u32 yp, .string yd]) (mgc_one ⟨ys, yss, yl, yp, yd⟩) rfl
                have hs8 := al8.size
                obtain ⟨v9, w9, hr9, q9, gr9, ha9⟩ := qo_append (P := Try.prog) (t := 85) (ty := 85) Try.underlying85 hi hz0 hz1 hz2 rfl q8 srcI (by unfold maxLen; omega) (by omega) (by omega)
                have R9 := R8.grown gr9 hbnd
                have b9 : Below b1 w7 w9 := (al8.mono (by omega)).grown gr9 (by omega) (fun k hk => (q8.lt hk).1)
                have bel9 := bel7.trans (b9.mono (by omega))
                have q9' : Qo w9 b1 5 v9 (Rl ++ [(⟨ys, yss, yl, yp, yd⟩ : Mg)]).length (cellsM (Rl ++ [(⟨ys, yss, yl, yp, yd⟩ : Mg)])) := by
                  rw [cellsM_append, List.length_append]
                  exact q9
                have hov9 : ∀ i, blkOf ov' = some i → (blkOf ov = some i ∨ b1 ≤ i) ∧ blkOf v9 ≠ some i := fun i hi => ⟨(hov'' i hi).1, fun e => by
                  rcases ha9 with h' | h' | h'
                  · rw [h'] at e; exact (hov'' i hi).2 e
                  · rw [h'] at e; cases e; have := (R7.o.lt hi).2; omega
                  · rw [h'] at e; cases e⟩
                have hb9 : b1 ≤ w9.heap.size := by have := b9.size; omega
                have hpt' := part_leave HI.out.1 (y := ⟨ys, yss, yl, yp, yd⟩) (by
                  have := HH.out
                  cases D
                  · exact .inr (by simpa using this)
                  · exact .inl rfl)
                rw [← HI.out.2.1] at hpt'
                obtain ⟨oa9, cap9, hv9, _, _⟩ := q9.shape
                have HX := Lib.hid (And.intro hpt' (And.intro R9 (And.intro q9' (And.intro hov9 (And.intro bel9 hb9)))))
                subst hv9
                clear hsz7 hpt' R9 q9' hov9 bel9 hb9 q9 gr9 ha9 b9 srcI q8 R8 al8 R7 q7 bel7 hov'' hbnd
                go_wp2_with (first | (refine wpList_load_at rfl 30 _ rfl yb 0 rfl #[.int .i64 ys, .int .i64 yss, .bool yl, .int .u32 yp, .string yd] _ (Cel.of_blk Y7) Try.underlying30 rfl (szX ⟨ys, yss, yl, yp, yd⟩) ?_) | (at_builtin; refine wpList_append_q rfl _ _ _ rfl rfl rfl hr9 ?_))
                go_roundw
                case rel => exact ⟨i + 1, D, Rl ++ [(⟨ys, yss, yl, yp, yd⟩ : Mg)], Oi, _, ov', rfl, rfl, by go_num, by omega, HX.out.1, HX.out.2.1, HX.out.2.2.1, HX.out.2.2.2.1, HX.out.2.2.2.2.1, HX.out.2.2.2.2.2⟩
                case measure => simp [intOf]; omega
              | true =>
                have hD : D = false := by
                  have := HH.out
                  cases D
                  · rfl
                  · cases this
                subst hD
                have hhit : hit k n ⟨ys, yss, yl, yp, yd⟩ = true := by have := HH.out; simpa using this
                have hpt' := part_take HI.out.1 hhit
                rw [← HI.out.2.1] at hpt'
                obtain ⟨oo', co', hov3, _, _⟩ := R7.o.shape
                subst hov3
                have HPT := Lib.hid hpt'
                have HSZ := Lib.hid hsz7
                clear hpt' hhit hsz7
                go_upto_region 27 with fail
                have hsz7 := HSZ.out
                have HS := Lib.hid (show w7.drew.cell? ⟨bx, 2, none⟩ = some (.slice oo' Oi.length co') ∧ Cel w7.drew yb 0 #[.int .i64 ys, .int .i64 yss, .bool yl, .int .u32 yp, .string yd] from ⟨R7.drew.B.cell 2, Cel.of_blk (show Blk w7.drew yb 30 #[.int .i64 ys, .int .i64 yss, .bool yl, .int .u32 yp, .string yd] from Y7)⟩)
                have HSS := Lib.hid (show ∀ v, Below w7.heap.size w7.drew v → v.cell? ⟨bx, 2, none⟩ = some (.slice oo' Oi.length co') ∧ Cel v yb 0 #[.int .i64 ys, .int .i64 yss, .bool yl, .int .u32 yp, .string yd] from fun v hb => ⟨(R7.drew.below hb (Nat.le_refl _)).B.cell 2, (Cel.of_blk (show Blk w7.drew yb 30 #[.int .i64 ys, .int .i64 yss, .bool yl, .int .u32 yp, .string yd] from Y7)).below hb Y7.lt⟩)
                refine wp_region_noPanic ?_
                refine begin_C (fun v => v.cell? ⟨bx, 2, none⟩ = some (.slice oo' Oi.length co') ∧ Cel v (yb) 0 #[.int .i64 ys, .int .i64 yss, .bool yl, .int .u32 yp, .string yd]) 8 (by kernel_rfl) ?_
                refine abs_C _ (fun b hb => ?_)
                have hsz : b.tmps.size = 163 := by rw [hb]; rfl
                have e2 : b.eval (.tmp 2) = .pointer (some ⟨bx, 0, none⟩) := by rw [hb]; rfl
                have e3 : b.eval (.tmp 13) = .pointer (some ⟨yb, 0, none⟩) := by rw [hb]; rfl
                have HB := Lib.hid hb
                clear hb
                have EV := And.intro @Act.eval_put_ne (And.intro @Act.eval_put_same (And.intro @Act.size_put (And.intro hsz (And.intro e2 e3))))
                refine take_Y (i := 1) (u := .pointer (some ⟨bx, 2, none⟩)) rfl (by kernel_rfl) (by kernel_rfl) (by kernel_rfl) (by decide) rfl rfl (fun _ _ _ h => h) HS.out (fun v => run_field (s := .pointer (some ⟨bx, 0, none⟩)) rfl (by simp [e2]) (by kernel_rfl)) ?_
                refine take_C (i := 2) [3, 6] (u := .slice oo' Oi.length co') rfl (by kernel_rfl) (by kernel_rfl) (by kernel_rfl) (by kernel_rfl) (by kernel_rfl) (by decide) rfl rfl (fun _ _ _ h => h) HS.out (fun v hv => run_load1 (s := .pointer (some ⟨bx, 2, none⟩)) rfl (by simp [EV]) (by have c := hv.1; go_simp)) ?_
                refine take_C (i := 4) [5, 6] (u := .agg #[.int .i64 ys, .int .i64 yss, .bool yl, .int .u32 yp, .string yd]) rfl (by kernel_rfl) (by kernel_rfl) (by kernel_rfl) (by kernel_rfl) (by kernel_rfl) (by decide) rfl rfl (fun _ _ _ h => h) HS.out (fun v hv => run_load_at rfl (h := yb) (off := 0) (by simp [EV]) _ Try.underlying30 rfl (szX ⟨ys, yss, yl, yp, yd⟩) hv.2) ?_
                refine dappq_C (T := 30) (SL := 85) (fuel := 3) (xv := .agg #[.int .i64 ys, .int .i64 yss, .bool yl, .int .u32 yp, .string yd]) (sv := .slice oo' Oi.length co') (ITEM := #[.int .i64 ys, .int .i64 yss, .bool yl, .int .u32 yp, .string yd]) 0 3 5 6 _ _ _ _ 134 137 139 140 136 138 (by kernel_rfl) (by simp [Act.size_put, hsz, dappCT]) rfl rfl rfl rfl ⟨rfl, rfl⟩ ⟨rfl, rfl⟩ ⟨rfl, rfl⟩ ⟨rfl, rfl⟩ rfl rfl
                  (fun b v => by kernel_rfl) (fun b v hb => run_build1 rfl hb (by kernel_rfl)) Try.underlying85 hi hz0 hz1 hz2 rfl (by simp [EV]) (by simp [EV]) (R7.drew.o) (cellsM_one Oi) (mgc_one ⟨ys, yss, yl, yp, yd⟩) rfl (by unfold maxLen; omega) (by omega)
                  (fun v hv => HSS.out v hv) (fun vE vM vB oa cp v q bel => ?_)
                have bel' : Below w7.heap.size w7 v := (Below.refl _ _).drew.trans bel
                have R3 := R7.below bel' (Nat.le_refl _)
                have q' : Qo v w7.heap.size 5 (.slice oa (Oi.length + 1) cp) (Oi ++ [(⟨ys, yss, yl, yp, yd⟩ : Mg)]).length (cellsM (Oi ++ [(⟨ys, yss, yl, yp, yd⟩ : Mg)])) := by
                  rw [cellsM_append, List.length_append]
                  exact q
                have R4 := R3.setO q' (by omega) (by omega)
                have c3 := R3.B.cell 2
                have f3 := R3.B.frozen 2
                have hSv := HSS.out v bel
                refine take_Y (i := 7) (u := .pointer (some ⟨bx, 2, none⟩)) rfl (by kernel_rfl) (by kernel_rfl) (by kernel_rfl) (by decide) rfl rfl (fun _ _ _ h => h) hSv (fun v => run_field (s := .pointer (some ⟨bx, 0, none⟩)) rfl (by simp [EV]) (by kernel_rfl)) ?_
                refine store_C (i := 8) (p := .pointer (some ⟨bx, 2, none⟩)) (u := .slice oa (Oi.length + 1) cp) (w' := v.setCell ⟨bx, 2, none⟩ (.slice oa (Oi.length + 1) cp)) (by kernel_rfl) rfl rfl rfl rfl (by simp [EV]) (by simp [EV]) (fun h => absurd rfl h) (by go_simp) ?_
                refine val_after_C (i := 9) (u := .bool true) (by kernel_rfl) rfl rfl rfl (by kernel_rfl) (run_assign (x := .const (.bool true)) rfl rfl _) ?_
                have q5 : Qo (v.setCell ⟨bx, 2, none⟩ (.slice oa (Oi.length + 1) cp)) b1 5 (.slice orr Rl.length crr) Rl.length (cellsM Rl) := (q7.below bel' (Nat.le_refl _)).far (p := ⟨bx, 2, none⟩) (fun e => by have h1 : b1 ≤ bx := (q7.lt e).1; omega) _
                have hov9 : ∀ i, blkOf (.slice oa (Oi.length + 1) cp) = some i → (blkOf ov = some i ∨ b1 ≤ i) ∧ blkOf (.slice orr Rl.length crr) ≠ some i := fun i hi => by
                  have h1 : w7.heap.size ≤ i := (q.lt hi).1
                  exact ⟨.inr (by omega), fun e => by have := (q7.lt e).2; omega⟩
                have bel4 : Below bx w (v.setCell ⟨bx, 2, none⟩ (.slice oa (Oi.length + 1) cp)) := (bel7.trans (bel'.mono (by omega))).setCell (p := ⟨bx, 2, none⟩) (Nat.le_refl _) _
                have hb9 : b1 ≤ (v.setCell ⟨bx, 2, none⟩ (.slice oa (Oi.length + 1) cp)).heap.size := by have := bel'.size; simp only [World.setCell, Array.size_modify]; omega
                have HX := Lib.hid (And.intro R4 (And.intro q5 (And.intro hov9 (And.intro bel4 hb9))))
                refine done_C (by kernel_rfl) ?_ _
                refine NoPanic.normal ?_
                rw [HB.out]
                simp only [Act.put, List.setIfInBounds_toArray, List.set_cons_zero, List.set_cons_succ]
                clear hsz7 HB HS HSS R3 c3 f3 q q' R4 bel4 bel bel' hsz EV e2 e3 hSv hov9 q5 hb9 R7 q7 Y7 bel7 hov'' hbnd
                generalize v.setCell ⟨bx, 2, none⟩ (.slice oa (Oi.length + 1) cp) = w9 at *
                go_wp2_with fail
                go_roundw
                case rel => exact ⟨i + 1, true, Rl, Oi ++ [(⟨ys, yss, yl, yp, yd⟩ : Mg)], _, _, rfl, rfl, by go_num, by omega, HPT.out, HX.out.1, HX.out.2.1, HX.out.2.2.1, HX.out.2.2.2.1, HX.out.2.2.2.2⟩
                case measure => simp [intOf]; omega
            · obtain rfl : i = Wc.length := by omega
              rw [List.take_length] at hpt
              have hps := part_pass hpt
              have hkk : IntKind.i64.wrap ((W.length : Int) + 1 - (j : Int) - 1) = (W.length : Int) + 1 - (j : Int) - 1 := IntWalk.i64_in _ (by omega)
              cases D with
              | false =>
                obtain ⟨rfl, rfl⟩ := part_false hpt
                have HX := Lib.hid (And.intro R (And.intro hov' (And.intro bel hps)))
                clear R q hov' bel hb1 hpt hps
                go_wp2_with fail
                go_roundw
                case rel =>
                  refine ⟨j + 1, n, Rl, Oi, _, _, ov', by first | (congr 1; omega) | (simp; omega), by omega, ?_, HX.out.1, ⟨fun i hi => ?_, HOUT.out.2.2.2.1, fun i hi => ?_⟩, HX.out.2.2.1⟩
                  · show _ = pass k (passes k j _)
                    rw [← HOUT.out.2.1, HX.out.2.2.2]; rfl
                  · have h1 := HOUT.out.2.2.1 i hi
                    refine ⟨h1.1, h1.2.1, fun e => ?_⟩
                    rcases (HX.out.2.1 i e).1 with h' | h'
                    · exact h1.2.2 h'
                    · have := HOUT.out.2.2.2.2.2.1 i hi; omega
                  · rcases (HX.out.2.1 i hi).1 with h' | h'
                    · exact HOUT.out.2.2.2.2.1 i h'
                    · exact .inr (by omega)
                case measure => simp [intOf]; omega
              | true =>
                obtain ⟨gn2, no2, hon2, hgn2, hbn2, nc2, nf2⟩ := (show Rp b0 bx (.slice on (N.set k n).length cnn) (.slice ow Wc.length cww) ov' (N.set k n) Wc Oi ⟨(k : Int), ss, false, pr, d⟩ wr from by rw [List.length_set]; exact R).at_ (show k < (N.set k n).length by rw [List.length_set]; exact hk)
                rw [List.getElem_set_self] at nc2
                rw [List.length_set] at hbn2
                subst hon2
                have hg2 : gn2 < b1 := HOUT.out.2.2.2.2.2.1 gn2 hbn2
                have ha2 := HOUT.out.2.2.1 gn2 hbn2
                have hgx := R.hn gn2 hbn2
                go_upto_region 30 with fail
                clear s1
                have HSS := Lib.hid (show ∀ v : World, v.heap[bx]? = wr.heap[bx]? ∨ True → True from fun _ _ => trivial)
                have s0 : wr.cell? ⟨bx, 0, none⟩ = some (.slice (some ⟨gn2, no2, none⟩) N.length cnn) := R.B.cell 0
                have m0 : wr.cell? ⟨bx + 1, 0, none⟩ = some (.int .i64 (k : Int)) := R.M.cell 0
                have HS := Lib.hid (show wr.drew.cell? ⟨bx, 0, none⟩ = some (.slice (some ⟨gn2, no2, none⟩) N.length cnn) ∧ wr.drew.cell? ⟨bx + 1, 0, none⟩ = some (.int .i64 (k : Int)) ∧ wr.drew.cell? ⟨gn2, no2 + k, none⟩ = some (.int .i64 (n : Int)) from ⟨s0, m0, nc2⟩)
                have hadd : ∀ v, (binOp .add 3 (.int .i64 (n : Int)) (.int .i64 1)).run Try.prog v = .ok (.int .i64 ((n : Int) + 1)) v := fun v => by
                  have h1 : IntKind.i64.wrap ((n : Int) + 1) = (n : Int) + 1 := IntWalk.i64_in _ (by omega)
                  go_simp
                have hand : ∀ v, (binOp .and 3 (.int .i64 ((n : Int) + 1)) (.int .i64 65535)).run Try.prog v = .ok (.int .i64 (((n + 1) % 65536 : Nat) : Int)) v := fun v => by
                  have h1 : bits .and .i64 ((n : Int) + 1) 65535 = (((n + 1) % 65536 : Nat) : Int) := by rw [mask16]; omega
                  rw [← h1]
                  go_simp
                refine wp_region_noPanic ?_
                refine begin_C (fun v => v.cell? ⟨bx, 0, none⟩ = some (.slice (some ⟨gn2, no2, none⟩) N.length cnn) ∧ v.cell? ⟨bx + 1, 0, none⟩ = some (.int .i64 (k : Int)) ∧ v.cell? ⟨gn2, no2 + k, none⟩ = some (.int .i64 (n : Int))) 16 (by kernel_rfl) ?_
                refine abs_C _ (fun b hb => ?_)
                have hsz : b.tmps.size = 163 := by rw [hb]; rfl
                have e2 : b.eval (.tmp 2) = .pointer (some ⟨bx, 0, none⟩) := by rw [hb]; rfl
                have e3 : b.eval (.tmp 3) = .pointer (some ⟨bx + 1, 0, none⟩) := by rw [hb]; rfl
                have e10 : b.eval (.tmp 10) = (.slice orr Rl.length crr) := by rw [hb]; rfl
                have HB := Lib.hid hb
                clear hb
                have EV := And.intro @Act.eval_put_ne (And.intro @Act.eval_put_same (And.intro @Act.size_put (And.intro hsz (And.intro e2 (And.intro e3 e10)))))
                refine take_Y (i := 0) (u := .pointer (some ⟨bx, 0, none⟩)) rfl (by kernel_rfl) (by kernel_rfl) (by kernel_rfl) (by decide) rfl rfl (fun _ _ _ h => h) HS.out (fun v => run_field (s := .pointer (some ⟨bx, 0, none⟩)) rfl (by simp [EV]) (by kernel_rfl)) ?_
                refine take_C (i := 1) [15] (u := .slice (some ⟨gn2, no2, none⟩) N.length cnn) rfl (by kernel_rfl) (by kernel_rfl) (by kernel_rfl) (by kernel_rfl) (by kernel_rfl) (by decide) rfl rfl (fun _ _ _ h => h) HS.out (fun v hv => run_load1 (s := .pointer (some ⟨bx, 0, none⟩)) rfl (by simp [EV]) (by have c := hv.1; go_simp)) ?_
                refine take_Y (i := 2) (u := .pointer (some ⟨bx + 1, 0, none⟩)) rfl (by kernel_rfl) (by kernel_rfl) (by kernel_rfl) (by decide) rfl rfl (fun _ _ _ h => h) HS.out (fun v => run_field (s := .pointer (some ⟨bx + 1, 0, none⟩)) rfl (by simp [EV]) (by kernel_rfl)) ?_
                refine take_C (i := 3) [15] (u := .int .i64 (k : Int)) rfl (by kernel_rfl) (by kernel_rfl) (by kernel_rfl) (by kernel_rfl) (by kernel_rfl) (by decide) rfl rfl (fun _ _ _ h => h) HS.out (fun v hv => run_load1 (s := .pointer (some ⟨bx + 1, 0, none⟩)) rfl (by simp [EV]) (by have c := hv.2.1; go_simp)) ?_
                refine take_Y (i := 4) (u := .slice orr Rl.length crr) rfl (by kernel_rfl) (by kernel_rfl) (by kernel_rfl) (by decide) rfl rfl (fun _ _ _ h => h) HS.out (fun v => run_move rfl (by simp [EV]) v) ?_
                refine take_Y (i := 5) (u := .pointer (some ⟨bx, 0, none⟩)) rfl (by kernel_rfl) (by kernel_rfl) (by kernel_rfl) (by decide) rfl rfl (fun _ _ _ h => h) HS.out (fun v => run_field (s := .pointer (some ⟨bx, 0, none⟩)) rfl (by simp [EV]) (by kernel_rfl)) ?_
                refine take_C (i := 6) [9, 10, 11, 12] (u := .slice (some ⟨gn2, no2, none⟩) N.length cnn) rfl (by kernel_rfl) (by kernel_rfl) (by kernel_rfl) (by kernel_rfl) (by kernel_rfl) (by decide) rfl rfl (fun _ _ _ h => h) HS.out (fun v hv => run_load1 (s := .pointer (some ⟨bx, 0, none⟩)) rfl (by simp [EV]) (by have c := hv.1; go_simp)) ?_
                refine take_Y (i := 7) (u := .pointer (some ⟨bx + 1, 0, none⟩)) rfl (by kernel_rfl) (by kernel_rfl) (by kernel_rfl) (by decide) rfl rfl (fun _ _ _ h => h) HS.out (fun v => run_field (s := .pointer (some ⟨bx + 1, 0, none⟩)) rfl (by simp [EV]) (by kernel_rfl)) ?_
                refine take_C (i := 8) [9, 10, 11, 12] (u := .int .i64 (k : Int)) rfl (by kernel_rfl) (by kernel_rfl) (by kernel_rfl) (by kernel_rfl) (by kernel_rfl) (by decide) rfl rfl (fun _ _ _ h => h) HS.out (fun v hv => run_load1 (s := .pointer (some ⟨bx + 1, 0, none⟩)) rfl (by simp [EV]) (by have c := hv.2.1; go_simp)) ?_
                refine take_Y (i := 9) (u := .pointer (some ⟨gn2, no2 + k, none⟩)) rfl (by kernel_rfl) (by kernel_rfl) (by kernel_rfl) (by decide) rfl rfl (fun _ _ _ h => h) HS.out (fun v => run_index (s := .slice (some ⟨gn2, no2, none⟩) N.length cnn) (j := .int .i64 (k : Int)) rfl (by simp [EV]) (by simp [EV]) (by go_simp)) ?_
                refine take_C (i := 10) [11, 12] (u := .int .i64 (n : Int)) rfl (by kernel_rfl) (by kernel_rfl) (by kernel_rfl) (by kernel_rfl) (by kernel_rfl) (by decide) rfl rfl (fun _ _ _ h => h) HS.out (fun v hv => run_load1 (s := .pointer (some ⟨gn2, no2 + k, none⟩)) rfl (by simp [EV]) (by have c := hv.2.2; go_simp)) ?_
                refine take_Y (i := 11) (u := .int .i64 ((n : Int) + 1)) rfl (by kernel_rfl) (by kernel_rfl) (by kernel_rfl) (by decide) rfl rfl (fun _ _ _ h => h) HS.out (fun v => run_add (s := .int .i64 (n : Int)) (j := .int .i64 1) rfl (by simp [EV]) rfl (hadd v)) ?_
                refine take_Y (i := 12) (u := .int .i64 (((n + 1) % 65536 : Nat) : Int)) rfl (by kernel_rfl) (by kernel_rfl) (by kernel_rfl) (by decide) rfl rfl (fun _ _ _ h => h) HS.out (fun v => run_and (s := .int .i64 ((n : Int) + 1)) (j := .int .i64 65535) rfl (by simp [EV]) rfl (hand v)) ?_
                refine take_Y (i := 13) (u := .pointer (some ⟨bx, 1, none⟩)) rfl (by kernel_rfl) (by kernel_rfl) (by kernel_rfl) (by decide) rfl rfl (fun _ _ _ h => h) HS.out (fun v => run_field (s := .pointer (some ⟨bx, 0, none⟩)) rfl (by simp [EV]) (by kernel_rfl)) ?_
                have R3 := (R.drew.setV q.drew (by have := HBX.out; omega) (by omega))
                have q3 : Qo (wr.drew.setCell ⟨bx, 1, none⟩ (.slice orr Rl.length crr)) b1 5 (.slice orr Rl.length crr) Rl.length (cellsM Rl) := q.drew.far (p := ⟨bx, 1, none⟩) (fun e => by have h1 : b1 ≤ bx := (q.lt e).1; omega) _
                have hn1 : (⟨gn2, no2 + k, none⟩ : Addr) ≠ ⟨bx, 1, none⟩ := by intro e; simp at e; first | done | omega
                have hS3 : (wr.drew.setCell ⟨bx, 1, none⟩ (.slice orr Rl.length crr)).cell? ⟨bx, 0, none⟩ = some (.slice (some ⟨gn2, no2, none⟩) N.length cnn) ∧ (wr.drew.setCell ⟨bx, 1, none⟩ (.slice orr Rl.length crr)).cell? ⟨bx + 1, 0, none⟩ = some (.int .i64 (k : Int)) ∧ (wr.drew.setCell ⟨bx, 1, none⟩ (.slice orr Rl.length crr)).cell? ⟨gn2, no2 + k, none⟩ = some (.int .i64 (n : Int)) := ⟨R3.B.cell 0, R3.M.cell 0, (World.cell?_setCell_other wr.drew _ _ _ (Ne.symm hn1)).trans nc2⟩
                have g1 : wr.drew.cell? ⟨bx, 1, none⟩ = some (.slice ow Wc.length cww) := R.drew.B.cell 1
                have g1f : wr.drew.frozen? ⟨bx, 1, none⟩ = false := R.drew.B.frozen 1
                refine store_C (i := 14) (p := .pointer (some ⟨bx, 1, none⟩)) (u := .slice orr Rl.length crr) (w' := wr.drew.setCell ⟨bx, 1, none⟩ (.slice orr Rl.length crr)) (by kernel_rfl) rfl rfl rfl rfl (by simp [EV]) (by simp [EV]) (fun _ => hS3) (by go_simp) ?_
                refine val_C (i := 15) (u := .pointer (some ⟨gn2, no2 + k, none⟩)) (by kernel_rfl) rfl rfl rfl (fun _ => hS3) (run_index (s := .slice (some ⟨gn2, no2, none⟩) N.length cnn) (j := .int .i64 (k : Int)) rfl (by simp [EV]) (by simp [EV]) (by go_simp)) ?_
                have g2 := hS3.2.2
                have g2f : (wr.drew.setCell ⟨bx, 1, none⟩ (.slice orr Rl.length crr)).frozen? ⟨gn2, no2 + k, none⟩ = false := by rw [World.frozen?_setCell]; exact nf2
                refine store_C (i := 16) (p := .pointer (some ⟨gn2, no2 + k, none⟩)) (u := .int .i64 (((n + 1) % 65536 : Nat) : Int)) (w' := (wr.drew.setCell ⟨bx, 1, none⟩ (.slice orr Rl.length crr)).setCell ⟨gn2, no2 + k, none⟩ (.int .i64 (((n + 1) % 65536 : Nat) : Int))) (by kernel_rfl) rfl rfl rfl rfl (by simp [EV]) (by simp [EV]) (fun h => absurd rfl h) (by go_simp) ?_
                have R4 := (show Rp b0 bx (.slice (some ⟨gn2, no2, none⟩) (N.set k n).length cnn) (.slice orr Rl.length crr) ov' (N.set k n) Rl Oi ⟨(k : Int), ss, false, pr, d⟩ _ from by rw [List.length_set]; exact R3).setAt (k := k) (by rw [List.length_set]; exact hk) rfl (by rw [List.length_set]; exact hbn2) ⟨fun e => by have := (q.lt e).1; omega, fun e => by
                  rcases (hov' gn2 e).1 with h' | h'
                  · exact ha2.2.2 h'
                  · omega⟩ ((n + 1) % 65536)
                rw [List.length_set, List.set_set] at R4
                have bel4 : Below bx w ((wr.drew.setCell ⟨bx, 1, none⟩ (.slice orr Rl.length crr)).setCell ⟨gn2, no2 + k, none⟩ (.int .i64 (((n + 1) % 65536 : Nat) : Int))) := (bel.drew.setCell (p := ⟨bx, 1, none⟩) (Nat.le_refl _) _).setCell (p := ⟨gn2, no2 + k, none⟩) (show bx ≤ gn2 by omega) _
                have hrb := fun i (hi : blkOf (.slice orr Rl.length crr) = some i) => (q.lt hi).1
                have HX := Lib.hid (And.intro R4 (And.intro hov' (And.intro bel4 (And.intro hps hrb))))
                refine done_C (by kernel_rfl) ?_ _
                refine NoPanic.normal ?_
                rw [HB.out]
                simp only [Act.put, List.setIfInBounds_toArray, List.set_cons_zero, List.set_cons_succ]
                clear HB HS HSS R3 q3 hS3 g1 g1f g2 g2f R4 bel4 bel hsz EV e2 e3 e10 hov' R q hps hpt s0 m0 nc2 nf2 hadd hand hrb hb1
                generalize (wr.drew.setCell ⟨bx, 1, none⟩ (.slice orr Rl.length crr)).setCell ⟨gn2, no2 + k, none⟩ (.int .i64 (((n + 1) % 65536 : Nat) : Int)) = w12 at *
                go_wp2_with fail
                go_roundw
                case rel =>
                  refine ⟨j + 1, (n + 1) % 65536, Rl, Oi, _, _, ov', by first | (congr 1; omega) | (simp; omega), by omega, ?_, HX.out.1, ⟨fun i hi => ?_, fun i hi => ?_, fun i hi => ?_⟩, HX.out.2.2.1⟩
                  · show _ = pass k (passes k j _)
                    rw [← HOUT.out.2.1, HX.out.2.2.2.1]; rfl
                  · have h1 := HOUT.out.2.2.1 i hi
                    refine ⟨h1.1, fun e => ?_, fun e => ?_⟩
                    · have := HX.out.2.2.2.2 i e; have := HOUT.out.2.2.2.2.2.1 i hi; omega
                    · rcases (HX.out.2.1 i e).1 with h' | h'
                      · exact h1.2.2 h'
                      · have := HOUT.out.2.2.2.2.2.1 i hi; omega
                  · have := HX.out.2.2.2.2 i hi; omega
                  · rcases (HX.out.2.1 i hi).1 with h' | h'
                    · exact HOUT.out.2.2.2.2.1 i h'
                    · exact .inr (by omega)
                case measure => simp [intOf]; omega
        · obtain rfl : j = W.length + 2 := by omega
          have RB := R.B
          have RC := R.Z
          obtain ⟨oov, coo, hov, _, _⟩ := R.o.shape
          subst hov
          have HX := Lib.hid (And.intro R (And.intro bel (And.intro hS (And.intro ap1 (And.intro ap2 ap3)))))
          have hcn : ¬ ((0 : Int) ≤ (W.length : Int) + 1 - ((W.length + 2 : Nat) : Int)) := by omega
          clear R bel hS ap1 ap2 ap3
          go_wp2_with (first | (refine wpList_load_at rfl 87 _ rfl bx 0 rfl #[.slice on N.length cnn, .slice ow Wc.length cww, .slice oov Oc.length coo] _ (Cel.of_blk RB) Try.underlying87 rfl (szR _ _ _) ?_) | (refine wpList_store_at rfl 87 _ _ rfl (bx + 2) 0 #[.slice on N.length cnn, .slice ow Wc.length cww, .slice oov Oc.length coo] rfl rfl _ (Cel.of_blk RC) (szR _ _ _) rfl (by kernel_rfl) ?_))
          obtain ⟨KK, o1, o2, o3, b3⟩ := HX.out.1.told
          exact bodyPost_ret (v := .tuple #[.agg #[.slice on N.length cnn, .slice ow Wc.length cww, .slice oov Oc.length coo], .bool true]) (by rw [results_cell_tmp_at rfl _ _ (bx + 2) 0 #[.slice on N.length cnn, .slice ow Wc.length cww, .slice oov Oc.length coo] _ rfl KK Try.underlying87 rfl (szR _ _ _)]; rfl) rfl ⟨fun hc => by
            rcases hc with h | h
            · rw [HP.out, HNK.out, HFR.out] at h; omega
            · exact absurd h HND.out, fun _ => by
            rw [HNK.out, ← HX.out.2.2.1]
            exact ⟨_, _, _, rfl, o1, o2, o3, fun i hi => by
              have hw := HBX.out
              rcases hi with h | h | h
              · exact .inr (by have := (HX.out.2.2.2.1 i h).1; omega)
              · exact .inr (by have := HX.out.2.2.2.2.1 i h; omega)
              · rcases HX.out.2.2.2.2.2 i h with h' | h'
                · exact .inl (.inr (.inr h'))
                · exact .inr (by omega), by rw [HBX.out]; exact HX.out.2.1.trans b3⟩⟩
end Go.Proofs.Ythddacgdmngfhaa.del
