/- Layer 15: are paths a list, with the first one there (gen-ppi.py wrote this). -/
import Derived.Test.YthddacgdmngfhaaPpH
import Derived.Test.YthddacgdmngfhaaPatF
namespace Go.Proofs.Ythddacgdmngfhaa.pat
open Go.Sort (grow)
open Go.ChangeShapes Go.WideShapes Go.ChangeAt Go.RowKit kit
set_option maxRecDepth 100000

theorem run_cmp_any {P : Program} {oi : Oper} {a : Act} {x y : Operand} {tx ty : TypeId} {s j : Array Value} {u : Value} {v : World} {op : BinOp} (ho : oi.op = .binOp op tx x y ty) (hop : op = .neq ∨ op = .eql) (hx : a.eval x = .agg s) (hy : a.eval y = .agg j) (hr : (binOp op tx (.agg s) (.agg j)).run P v = .ok u v) (hgt : P.eqGuardType P.depth tx = false) : (execOp a.eval oi).run P v = .ok (.value u) v := by
  unfold execOp
  rcases hop with rfl | rfl <;> simp [ho, hx, hy, hr, eqGuard, hgt]
theorem neqP (x : Px) (W : World) : (binOp .neq 113 (.agg (px x)) (.agg (px x))).run Try.prog W = .ok (.bool false) W := by
  unfold px pth
  go_simp
theorem neqI (a : Int) (W : World) : (binOp .neq 3 (.int .i64 a) (.int .i64 a)).run Try.prog W = .ok (.bool false) W := by go_simp
theorem cel0 {v : World} {h o : Nat} {x : Px} (C : Cel v h o (px x)) : v.cell? ⟨h, o, none⟩ = some (.int .u32 x.a) := by have := C.cell 0 (u := .int .u32 x.a) rfl; exact this
theorem cel1 {v : World} {h o : Nat} {x : Px} (C : Cel v h o (px x)) : v.cell? ⟨h, o + 1, none⟩ = some (.int .u32 x.b) := C.cell 1 (u := .int .u32 x.b) rfl
theorem qo_cel {v : World} {b h o cap i : Nat} {L : List Px} {x : Px} (q : Qo v b 15 (.slice (some ⟨h, o, none⟩) L.length cap) L.length (cellsX L)) (hx : L[i]? = some x) : Cel v h (o + i * 15) (px x) := by
  obtain ⟨h', o', e, _, _, _, X⟩ := row_at q rfl hx
  cases e
  exact X
theorem s_below {b0 g f bq bl : Nat} {L : List Px} {v0 vq vl : Value} {w w' : World} (h : Pw b0 g L f v0 w ∧ Qo w bq 15 vq L.length (cellsX L) ∧ Qo w bl 15 vl L.length (cellsX L)) (hb : Below w.heap.size w w') : Pw b0 g L f v0 w' ∧ Qo w' bq 15 vq L.length (cellsX L) ∧ Qo w' bl 15 vl L.length (cellsX L) := ⟨h.1.below hb (Nat.le_refl _), h.2.1.below hb (Nat.le_refl _), h.2.2.below hb (Nat.le_refl _)⟩
section
variable {b0 g f bq : Nat} {L : List Px} {v0 vq : Value} {w : World}
/-- Is some path of these not down? -/
def anyUp (L : List Px) : Bool := L.any fun x => !decide (x.s = 2)
theorem anyUp_snoc (L : List Px) (x : Px) : anyUp (L ++ [x]) = (anyUp L || !decide (x.s = 2)) := by unfold anyUp; simp
theorem idx_any : ∀ L : List Px, decide (0 ≤ idx (fun x => !decide (x.s = 2)) L) = anyUp L
  | [] => rfl
  | x :: r => by
    have ih := idx_any r
    have h := idx_ge (fun x => !decide (x.s = 2)) r
    unfold anyUp at *
    rw [List.any_cons]
    unfold idx
    by_cases hx : x.s = 2
    · rw [if_neg (by simp [hx])]
      simp only [hx, decide_true, Bool.not_true, Bool.false_or]
      rw [← ih]
      split
      · rw [decide_eq_decide]; omega
      · rw [decide_eq_decide]; omega
    · rw [if_pos (by simp [hx])]
      simp [hx]
def orK (r k : Int) : Int := if 0 ≤ r then r else k
/-- The place for what was lost, looked for from the last one on. -/
def othI (L : List Px) (k i : Nat) : Int := orK (nxt L k 1 (L.length - 1 - i) (i + 1)) k
theorem othI_last {L : List Px} {k i : Nat} (h : L.length ≤ i + 1) : othI L k i = k := by
  unfold othI
  rw [show L.length - 1 - i = 0 by omega]
  rfl
theorem othI_zero (L : List Px) (k : Nat) : othI L k 0 = othO L k := rfl
theorem othI_step {L : List Px} {k i : Nat} (h : i + 1 < L.length) : othI L k i = if stAt L ((k + (i + 1)) % L.length) = 1 then (((k + (i + 1)) % L.length : Nat) : Int) else othI L k (i + 1) := by
  unfold othI
  rw [show L.length - 1 - i = (L.length - 1 - (i + 1)) + 1 by omega]
  have e : nxt L k 1 (L.length - 1 - (i + 1) + 1) (i + 1) = if stAt L ((k + (i + 1)) % L.length) = 1 then (((k + (i + 1)) % L.length : Nat) : Int) else nxt L k 1 (L.length - 1 - (i + 1)) (i + 1 + 1) := rfl
  rw [e]
  by_cases hs : stAt L ((k + (i + 1)) % L.length) = 1
  · rw [if_pos hs, if_pos hs]
    unfold orK
    rw [if_pos (by omega)]
  · rw [if_neg hs, if_neg hs]
set_option maxHeartbeats 16000000 in
theorem same_g (h : Pw b0 g L f v0 w) (q : Qo w bq 15 vq L.length (cellsX L)) (hL : 0 < L.length) (hl8 : L.length ≤ 8) (hf : f < L.length) (hab : ∀ x ∈ L, x.a ≠ 0 ∧ x.a ≠ 99 ∧ x.b ≠ 99) (n : Int) (hn : -9223372036854775808 ≤ n ∧ n ≤ 9223372036854775807) : Calls Try.prog 73 #[.pointer (some ⟨g, 0, none⟩), vq, .int .i64 (f : Nat), .int .i64 n] w fun e w' => e = .returned (.bool true) ∧ Below w.heap.size w w' := by
  obtain ⟨hq, oq, cq, rfl, _, _, _, _, _, _⟩ := q.show_ hL
  obtain ⟨B0, hB0⟩ : ∃ B0, w.heap.size = B0 := ⟨_, rfl⟩
  have HB0 := Lib.hid hB0
  go_enter Try.func73, Try.ntmps73
  go_wp2_with fail
  refine (all_g h hL (by omega)).mono ?_
  rintro e w1 ⟨⟨vl, rfl, ql⟩, b1⟩
  have h1 := h.below b1 (Nat.le_refl _)
  have q1 := q.below b1 (Nat.le_refl _)
  obtain ⟨hl, ol, cl, hvl, _, _, _, _, _, _⟩ := ql.show_ hL
  subst hvl
  clear h q
  go_wp2_with fail
  refine (first_g h1 hL).mono ?_
  rintro e w2 ⟨rfl, hw2⟩
  obtain rfl : w1 = w2 := hw2.symm
  go_wp2_with fail
  refine (use_g h1 hf (by omega)).mono ?_
  rintro e w2 ⟨rfl, b2⟩
  have h2 := h1.below b2 (Nat.le_refl _)
  have q2 := q1.below b2 (Nat.le_refl _)
  have ql2 := ql.below b2 (Nat.le_refl _)
  have bel2 := b1.trans (b2.mono b1.size)
  clear h1 q1 ql b1 b2
  obtain ⟨us, hus⟩ : ∃ us, useO L f = us := ⟨_, rfl⟩
  have hlu := luse_g q2 (by omega) f hf
  rw [hus] at hlu
  try rw [hus]
  clear hus
  go_wp2_with fail
  refine hlu.mono ?_
  rintro e w3 ⟨rfl, hw3⟩
  obtain rfl : w2 = w3 := hw3.symm
  have HS0 := Lib.hid (And.intro (And.intro h2 (And.intro q2 ql2)) bel2)
  clear h2 q2 ql2 bel2 hlu
  rw [hB0] at HS0
  clear hB0
  go_wp2_with fail
  go_loopw [10, 11] (fun s10 s11 wr => ∃ i : Nat, s11 = .int .i64 (i : Nat) ∧ i ≤ L.length ∧ s10 = .bool (anyUp (L.take i)) ∧ (Pw b0 g L f v0 wr ∧ Qo wr bq 15 (.slice (some ⟨hq, oq, none⟩) L.length cq) L.length (cellsX L) ∧ Qo wr B0 15 (.slice (some ⟨hl, ol, none⟩) L.length cl) L.length (cellsX L)) ∧ Below B0 w wr) (fun _ s11 _ => L.length - (intOf s11).toNat)
  case atStart => exact ⟨0, rfl, Nat.zero_le _, rfl, HS0.out.1, HS0.out.2⟩
  case round =>
    clear HS0
    obtain ⟨i, rfl, hi, rfl, S, bel⟩ := hrel
    by_cases hlt : i < L.length
    · have hii : (i : Int) < (L.length : Int) := by omega
      have hi0 : (0 : Int) ≤ (i : Int) := by omega
      obtain ⟨x, hx⟩ : ∃ x, L[i]? = some x := ⟨_, List.getElem?_eq_getElem hlt⟩
      have hxab := hab x (List.mem_of_getElem? hx)
      obtain ⟨fi, hfi⟩ : ∃ fi, idx (fun y => decide (y.a = x.a) && decide (y.b = x.b)) L = fi := ⟨_, rfl⟩
      have hfi2 : idx (fun y => (decide (x.a = 0) || decide (y.a = x.a)) && decide (y.b = x.b)) L = fi := by rw [← hfi]; simp [hxab.1]
      obtain ⟨pi, hpi⟩ : ∃ pi, idx (fun y => decide (y.b = x.b)) L = pi := ⟨_, rfl⟩
      have hpi2 : idx (fun y => (decide ((0 : Int) = 0) || decide (y.a = 0)) && decide (y.b = x.b)) L = pi := by rw [← hpi]; simp
      obtain ⟨au, hau⟩ : ∃ au, anyUp (L.take i) = au := ⟨_, rfl⟩
      have hau2 : anyUp (L.take (i + 1)) = (au || !decide (x.s = 2)) := by rw [List.take_add_one, hx, ← hau]; exact anyUp_snoc _ _
      rw [hau]
      have HAU := Lib.hid hau2
      clear hau hau2
      go_upto_region 8 with fail
      refine wp_region_noPanic ?_
      have HS : Pw b0 g L f v0 wr.drew ∧ Qo wr.drew bq 15 (.slice (some ⟨hq, oq, none⟩) L.length cq) L.length (cellsX L) ∧ Qo wr.drew B0 15 (.slice (some ⟨hl, ol, none⟩) L.length cl) L.length (cellsX L) := ⟨S.1.drew, S.2.1.drew, S.2.2.drew⟩
      refine wp_region_held_drew (S := fun v => Pw b0 g L f v0 v ∧ Qo v bq 15 (.slice (some ⟨hq, oq, none⟩) L.length cq) L.length (cellsX L) ∧ Qo v B0 15 (.slice (some ⟨hl, ol, none⟩) L.length cl) L.length (cellsX L)) (by kernel_rfl) HS (fun _ => ?_)
      refine wpAnyH_abs _ (fun ac hac => ?_)
      have hsz : ac.tmps.size = 173 := by rw [hac]; rfl
      have e0 : ac.eval (.tmp 0) = .pointer (some ⟨g, 0, none⟩) := by rw [hac]; rfl
      have e1 : ac.eval (.tmp 1) = .slice (some ⟨hq, oq, none⟩) L.length cq := by rw [hac]; rfl
      have e9 : ac.eval (.tmp 9) = .slice (some ⟨hl, ol, none⟩) L.length cl := by rw [hac]; rfl
      have e11 : ac.eval (.tmp 11) = .int .i64 (i : Nat) := by rw [hac]; rfl
      have HB := Lib.hid hac
      clear hac
      have EV := And.intro @Act.eval_put_ne (And.intro @Act.eval_put_same (And.intro @Act.size_put (And.intro hsz (And.intro e0 (And.intro e1 (And.intro e9 e11))))))
      refine take_run (i := 0) (u := .slice (some ⟨hl, ol, none⟩) L.length cl) rfl (by kernel_rfl) (by kernel_rfl) (by kernel_rfl) rfl rfl (fun _ _ _ h => h) HS (fun v hv => run_move rfl (by simp [EV]) v) ?_
      refine take_run (i := 1) (u := .int .i64 (i : Nat)) rfl (by kernel_rfl) (by kernel_rfl) (by kernel_rfl) rfl rfl (fun _ _ _ h => h) HS (fun v hv => run_move rfl (by simp [EV]) v) ?_
      refine take_run (i := 2) (u := .pointer (some ⟨hl, ol + i * 15, none⟩)) rfl (by kernel_rfl) (by kernel_rfl) (by kernel_rfl) rfl rfl (fun _ _ _ h => h) HS (fun v hv => run_index (s := .slice (some ⟨hl, ol, none⟩) L.length cl) (j := .int .i64 (i : Nat)) rfl (by simp [EV]) (by simp [EV]) (by go_simp)) ?_
      refine take_run (i := 3) (u := .agg (px x)) rfl (by kernel_rfl) (by kernel_rfl) (by kernel_rfl) rfl rfl (fun _ _ _ h => h) HS (fun v hv => run_load_at rfl (h := hl) (off := ol + i * 15) (cs := px x) (by simp [EV]) _ Try.underlying113 rfl szP (qo_cel hv.2.2 hx)) ?_
      refine take_run (i := 4) (u := .slice (some ⟨hq, oq, none⟩) L.length cq) rfl (by kernel_rfl) (by kernel_rfl) (by kernel_rfl) rfl rfl (fun _ _ _ h => h) HS (fun v hv => run_move rfl (by simp [EV]) v) ?_
      refine take_run (i := 5) (u := .int .i64 (i : Nat)) rfl (by kernel_rfl) (by kernel_rfl) (by kernel_rfl) rfl rfl (fun _ _ _ h => h) HS (fun v hv => run_move rfl (by simp [EV]) v) ?_
      refine take_run (i := 6) (u := .pointer (some ⟨hq, oq + i * 15, none⟩)) rfl (by kernel_rfl) (by kernel_rfl) (by kernel_rfl) rfl rfl (fun _ _ _ h => h) HS (fun v hv => run_index (s := .slice (some ⟨hq, oq, none⟩) L.length cq) (j := .int .i64 (i : Nat)) rfl (by simp [EV]) (by simp [EV]) (by go_simp)) ?_
      refine take_run (i := 7) (u := .agg (px x)) rfl (by kernel_rfl) (by kernel_rfl) (by kernel_rfl) rfl rfl (fun _ _ _ h => h) HS (fun v hv => run_load_at rfl (h := hq) (off := oq + i * 15) (cs := px x) (by simp [EV]) _ Try.underlying113 rfl szP (qo_cel hv.2.1 hx)) ?_
      refine take_run (i := 8) (u := .bool false) rfl (by kernel_rfl) (by kernel_rfl) (by kernel_rfl) rfl rfl (fun _ _ _ h => h) HS (fun v hv => run_cmp_any (s := px x) (j := px x) rfl (.inl rfl) (by simp [EV]) (by simp [EV]) (neqP x v) (by kernel_rfl)) ?_
      refine take_run (i := 9) (u := .bool false) rfl (by kernel_rfl) (by kernel_rfl) (by kernel_rfl) rfl rfl (fun _ _ _ h => h) HS (fun v hv => run_move rfl (by simp [EV]) v) ?_
      refine take_run_g (i := 10) (u := .pointer (some ⟨g, 0, none⟩)) rfl (by kernel_rfl) (by kernel_rfl) (by kernel_rfl) (wanted_of rfl rfl rfl (bb := false) (by simp [EV])) rfl (fun _ _ _ h => h) HS (fun v hv => run_move rfl (by simp [EV]) v) ?_
      refine take_run_g (i := 11) (u := .int .i64 (i : Nat)) rfl (by kernel_rfl) (by kernel_rfl) (by kernel_rfl) (wanted_of rfl rfl rfl (bb := false) (by simp [EV])) rfl (fun _ _ _ h => h) HS (fun v hv => run_move rfl (by simp [EV]) v) ?_
      refine take_run_g (i := 13) (u := .slice (some ⟨hq, oq, none⟩) L.length cq) rfl (by kernel_rfl) (by kernel_rfl) (by kernel_rfl) (wanted_of rfl rfl rfl (bb := false) (by simp [EV])) rfl (fun _ _ _ h => h) HS (fun v hv => run_move rfl (by simp [EV]) v) ?_
      refine take_run_g (i := 14) (u := .int .i64 (i : Nat)) rfl (by kernel_rfl) (by kernel_rfl) (by kernel_rfl) (wanted_of rfl rfl rfl (bb := false) (by simp [EV])) rfl (fun _ _ _ h => h) HS (fun v hv => run_move rfl (by simp [EV]) v) ?_
      refine take_run_g (i := 15) (u := .pointer (some ⟨hq, oq + i * 15, none⟩)) rfl (by kernel_rfl) (by kernel_rfl) (by kernel_rfl) (wanted_of rfl rfl rfl (bb := false) (by simp [EV])) rfl (fun _ _ _ h => h) HS (fun v hv => run_index (s := .slice (some ⟨hq, oq, none⟩) L.length cq) (j := .int .i64 (i : Nat)) rfl (by simp [EV]) (by simp [EV]) (by go_simp)) ?_
      refine take_run_g (i := 16) (u := .agg (px x)) rfl (by kernel_rfl) (by kernel_rfl) (by kernel_rfl) (wanted_of rfl rfl rfl (bb := false) (by simp [EV])) rfl (fun _ _ _ h => h) HS (fun v hv => run_load_at rfl (h := hq) (off := oq + i * 15) (cs := px x) (by simp [EV]) _ Try.underlying113 rfl szP (qo_cel hv.2.1 hx)) ?_
      have hc1 : ∀ W, Pw b0 g L f v0 W ∧ Qo W bq 15 (.slice (some ⟨hq, oq, none⟩) L.length cq) L.length (cellsX L) ∧ Qo W B0 15 (.slice (some ⟨hl, ol, none⟩) L.length cl) L.length (cellsX L) → Calls Try.prog 111 #[.pointer (some ⟨g, 0, none⟩), .int .i64 (i : Nat)] W fun e w' => e = .returned (.agg (px x)) ∧ Below W.heap.size W w' := fun W hW => at_in hW.1 hx
      refine step_calls_g (i := 12) (by kernel_rfl) rfl (wanted_of rfl rfl rfl (bb := false) (by simp [EV])) rfl 111 Try.f111 _ _ rfl Try.func111 (by kernel_rfl) (by kernel_rfl) #[.pointer (some ⟨g, 0, none⟩), .int .i64 (i : Nat)] (by simp [EV]) (hc1 _ HS) (fun u1 hb1 => ?_)
      have HS1 := s_below HS hb1
      refine ⟨HS1, ?_⟩
      refine take_run_g (i := 17) (u := .bool false) rfl (by kernel_rfl) (by kernel_rfl) (by kernel_rfl) (wanted_of rfl rfl rfl (bb := false) (by simp [EV])) rfl (fun _ _ _ h => h) HS1 (fun v hv => run_cmp_any (s := px x) (j := px x) rfl (.inl rfl) (by simp [EV]) (by simp [EV]) (neqP x v) (by kernel_rfl)) ?_
      refine take_run (i := 18) (u := .bool false) rfl (by kernel_rfl) (by kernel_rfl) (by kernel_rfl) rfl rfl (fun _ _ _ h => h) HS1 (fun v hv => run_pick (b := false) rfl (by simp [EV]) (by simp [EV])) ?_
      refine take_run (i := 19) (u := .bool false) rfl (by kernel_rfl) (by kernel_rfl) (by kernel_rfl) rfl rfl (fun _ _ _ h => h) HS1 (fun v hv => run_move rfl (by simp [EV]) v) ?_
      refine take_run_g (i := 20) (u := .pointer (some ⟨g, 0, none⟩)) rfl (by kernel_rfl) (by kernel_rfl) (by kernel_rfl) (wanted_of rfl rfl rfl (bb := false) (by simp [EV])) rfl (fun _ _ _ h => h) HS1 (fun v hv => run_move rfl (by simp [EV]) v) ?_
      refine take_run_g (i := 21) (u := .slice (some ⟨hq, oq, none⟩) L.length cq) rfl (by kernel_rfl) (by kernel_rfl) (by kernel_rfl) (wanted_of rfl rfl rfl (bb := false) (by simp [EV])) rfl (fun _ _ _ h => h) HS1 (fun v hv => run_move rfl (by simp [EV]) v) ?_
      refine take_run_g (i := 22) (u := .int .i64 (i : Nat)) rfl (by kernel_rfl) (by kernel_rfl) (by kernel_rfl) (wanted_of rfl rfl rfl (bb := false) (by simp [EV])) rfl (fun _ _ _ h => h) HS1 (fun v hv => run_move rfl (by simp [EV]) v) ?_
      refine take_run_g (i := 23) (u := .pointer (some ⟨hq, oq + i * 15, none⟩)) rfl (by kernel_rfl) (by kernel_rfl) (by kernel_rfl) (wanted_of rfl rfl rfl (bb := false) (by simp [EV])) rfl (fun _ _ _ h => h) HS1 (fun v hv => run_index (s := .slice (some ⟨hq, oq, none⟩) L.length cq) (j := .int .i64 (i : Nat)) rfl (by simp [EV]) (by simp [EV]) (by go_simp)) ?_
      refine take_run_g (i := 24) (u := .pointer (some ⟨hq, oq + i * 15, none⟩)) rfl (by kernel_rfl) (by kernel_rfl) (by kernel_rfl) (wanted_of rfl rfl rfl (bb := false) (by simp [EV])) rfl (fun _ _ _ h => h) HS1 (fun v hv => run_field (s := .pointer (some ⟨hq, oq + i * 15, none⟩)) rfl (by simp [EV]) (by kernel_rfl)) ?_
      refine take_run_g (i := 25) (u := .int .u32 x.a) rfl (by kernel_rfl) (by kernel_rfl) (by kernel_rfl) (wanted_of rfl rfl rfl (bb := false) (by simp [EV])) rfl (fun _ _ _ h => h) HS1 (fun v hv => run_load1 (s := .pointer (some ⟨hq, oq + i * 15, none⟩)) rfl (by simp [EV]) (by have c : v.cell? ⟨hq, oq + i * 15, none⟩ = some (.int .u32 x.a) := cel0 (qo_cel hv.2.1 hx); go_simp)) ?_
      refine take_run_g (i := 26) (u := .slice (some ⟨hq, oq, none⟩) L.length cq) rfl (by kernel_rfl) (by kernel_rfl) (by kernel_rfl) (wanted_of rfl rfl rfl (bb := false) (by simp [EV])) rfl (fun _ _ _ h => h) HS1 (fun v hv => run_move rfl (by simp [EV]) v) ?_
      refine take_run_g (i := 27) (u := .int .i64 (i : Nat)) rfl (by kernel_rfl) (by kernel_rfl) (by kernel_rfl) (wanted_of rfl rfl rfl (bb := false) (by simp [EV])) rfl (fun _ _ _ h => h) HS1 (fun v hv => run_move rfl (by simp [EV]) v) ?_
      refine take_run_g (i := 28) (u := .pointer (some ⟨hq, oq + i * 15, none⟩)) rfl (by kernel_rfl) (by kernel_rfl) (by kernel_rfl) (wanted_of rfl rfl rfl (bb := false) (by simp [EV])) rfl (fun _ _ _ h => h) HS1 (fun v hv => run_index (s := .slice (some ⟨hq, oq, none⟩) L.length cq) (j := .int .i64 (i : Nat)) rfl (by simp [EV]) (by simp [EV]) (by go_simp)) ?_
      refine take_run_g (i := 29) (u := .pointer (some ⟨hq, oq + i * 15 + 1, none⟩)) rfl (by kernel_rfl) (by kernel_rfl) (by kernel_rfl) (wanted_of rfl rfl rfl (bb := false) (by simp [EV])) rfl (fun _ _ _ h => h) HS1 (fun v hv => run_field (s := .pointer (some ⟨hq, oq + i * 15, none⟩)) rfl (by simp [EV]) (by kernel_rfl)) ?_
      refine take_run_g (i := 30) (u := .int .u32 x.b) rfl (by kernel_rfl) (by kernel_rfl) (by kernel_rfl) (wanted_of rfl rfl rfl (bb := false) (by simp [EV])) rfl (fun _ _ _ h => h) HS1 (fun v hv => run_load1 (s := .pointer (some ⟨hq, oq + i * 15 + 1, none⟩)) rfl (by simp [EV]) (by have c : v.cell? ⟨hq, oq + i * 15 + 1, none⟩ = some (.int .u32 x.b) := cel1 (qo_cel hv.2.1 hx); go_simp)) ?_
      refine take_run_g (i := 32) (u := .slice (some ⟨hq, oq, none⟩) L.length cq) rfl (by kernel_rfl) (by kernel_rfl) (by kernel_rfl) (wanted_of rfl rfl rfl (bb := false) (by simp [EV])) rfl (fun _ _ _ h => h) HS1 (fun v hv => run_move rfl (by simp [EV]) v) ?_
      refine take_run_g (i := 33) (u := .slice (some ⟨hq, oq, none⟩) L.length cq) rfl (by kernel_rfl) (by kernel_rfl) (by kernel_rfl) (wanted_of rfl rfl rfl (bb := false) (by simp [EV])) rfl (fun _ _ _ h => h) HS1 (fun v hv => run_move rfl (by simp [EV]) v) ?_
      refine take_run_g (i := 34) (u := .int .i64 (i : Nat)) rfl (by kernel_rfl) (by kernel_rfl) (by kernel_rfl) (wanted_of rfl rfl rfl (bb := false) (by simp [EV])) rfl (fun _ _ _ h => h) HS1 (fun v hv => run_move rfl (by simp [EV]) v) ?_
      refine take_run_g (i := 35) (u := .pointer (some ⟨hq, oq + i * 15, none⟩)) rfl (by kernel_rfl) (by kernel_rfl) (by kernel_rfl) (wanted_of rfl rfl rfl (bb := false) (by simp [EV])) rfl (fun _ _ _ h => h) HS1 (fun v hv => run_index (s := .slice (some ⟨hq, oq, none⟩) L.length cq) (j := .int .i64 (i : Nat)) rfl (by simp [EV]) (by simp [EV]) (by go_simp)) ?_
      refine take_run_g (i := 36) (u := .pointer (some ⟨hq, oq + i * 15, none⟩)) rfl (by kernel_rfl) (by kernel_rfl) (by kernel_rfl) (wanted_of rfl rfl rfl (bb := false) (by simp [EV])) rfl (fun _ _ _ h => h) HS1 (fun v hv => run_field (s := .pointer (some ⟨hq, oq + i * 15, none⟩)) rfl (by simp [EV]) (by kernel_rfl)) ?_
      refine take_run_g (i := 37) (u := .int .u32 x.a) rfl (by kernel_rfl) (by kernel_rfl) (by kernel_rfl) (wanted_of rfl rfl rfl (bb := false) (by simp [EV])) rfl (fun _ _ _ h => h) HS1 (fun v hv => run_load1 (s := .pointer (some ⟨hq, oq + i * 15, none⟩)) rfl (by simp [EV]) (by have c : v.cell? ⟨hq, oq + i * 15, none⟩ = some (.int .u32 x.a) := cel0 (qo_cel hv.2.1 hx); go_simp)) ?_
      refine take_run_g (i := 38) (u := .slice (some ⟨hq, oq, none⟩) L.length cq) rfl (by kernel_rfl) (by kernel_rfl) (by kernel_rfl) (wanted_of rfl rfl rfl (bb := false) (by simp [EV])) rfl (fun _ _ _ h => h) HS1 (fun v hv => run_move rfl (by simp [EV]) v) ?_
      refine take_run_g (i := 39) (u := .int .i64 (i : Nat)) rfl (by kernel_rfl) (by kernel_rfl) (by kernel_rfl) (wanted_of rfl rfl rfl (bb := false) (by simp [EV])) rfl (fun _ _ _ h => h) HS1 (fun v hv => run_move rfl (by simp [EV]) v) ?_
      refine take_run_g (i := 40) (u := .pointer (some ⟨hq, oq + i * 15, none⟩)) rfl (by kernel_rfl) (by kernel_rfl) (by kernel_rfl) (wanted_of rfl rfl rfl (bb := false) (by simp [EV])) rfl (fun _ _ _ h => h) HS1 (fun v hv => run_index (s := .slice (some ⟨hq, oq, none⟩) L.length cq) (j := .int .i64 (i : Nat)) rfl (by simp [EV]) (by simp [EV]) (by go_simp)) ?_
      refine take_run_g (i := 41) (u := .pointer (some ⟨hq, oq + i * 15 + 1, none⟩)) rfl (by kernel_rfl) (by kernel_rfl) (by kernel_rfl) (wanted_of rfl rfl rfl (bb := false) (by simp [EV])) rfl (fun _ _ _ h => h) HS1 (fun v hv => run_field (s := .pointer (some ⟨hq, oq + i * 15, none⟩)) rfl (by simp [EV]) (by kernel_rfl)) ?_
      refine take_run_g (i := 42) (u := .int .u32 x.b) rfl (by kernel_rfl) (by kernel_rfl) (by kernel_rfl) (wanted_of rfl rfl rfl (bb := false) (by simp [EV])) rfl (fun _ _ _ h => h) HS1 (fun v hv => run_load1 (s := .pointer (some ⟨hq, oq + i * 15 + 1, none⟩)) rfl (by simp [EV]) (by have c : v.cell? ⟨hq, oq + i * 15 + 1, none⟩ = some (.int .u32 x.b) := cel1 (qo_cel hv.2.1 hx); go_simp)) ?_
      have hc2 : ∀ W, Pw b0 g L f v0 W ∧ Qo W bq 15 (.slice (some ⟨hq, oq, none⟩) L.length cq) L.length (cellsX L) ∧ Qo W B0 15 (.slice (some ⟨hl, ol, none⟩) L.length cl) L.length (cellsX L) → Calls Try.prog 113 #[.pointer (some ⟨g, 0, none⟩), .int .u32 x.a, .int .u32 x.b] W fun e w' => e = .returned (.int .i64 fi) ∧ Below W.heap.size W w' := fun W hW => (find_g hW.1 (by omega) x.a x.b).mono fun e w' h => ⟨h.1.trans (ret_int hfi), h.2⟩
      refine step_calls_g (i := 31) (by kernel_rfl) rfl (wanted_of rfl rfl rfl (bb := false) (by simp [EV])) rfl 113 Try.f113 _ _ rfl Try.func113 (by kernel_rfl) (by kernel_rfl) #[.pointer (some ⟨g, 0, none⟩), .int .u32 x.a, .int .u32 x.b] (by simp [EV]) (hc2 _ HS1) (fun u2 hb2 => ?_)
      have HS2 := s_below HS1 hb2
      refine ⟨HS2, ?_⟩
      have hc3 : ∀ W, Pw b0 g L f v0 W ∧ Qo W bq 15 (.slice (some ⟨hq, oq, none⟩) L.length cq) L.length (cellsX L) ∧ Qo W B0 15 (.slice (some ⟨hl, ol, none⟩) L.length cl) L.length (cellsX L) → Calls Try.prog 67 #[.slice (some ⟨hq, oq, none⟩) L.length cq, .int .u32 x.a, .int .u32 x.b] W fun e w' => e = .returned (.int .i64 fi) ∧ Below W.heap.size W w' := fun W hW => (lfind_g hW.2.1 (by omega) x.a x.b).mono fun e w' h => ⟨h.1.trans (ret_int hfi2), h.2 ▸ Below.refl _ _⟩
      refine step_calls_g (i := 43) (by kernel_rfl) rfl (wanted_of rfl rfl rfl (bb := false) (by simp [EV])) rfl 67 Try.f67 _ _ rfl Try.func67 (by kernel_rfl) (by kernel_rfl) #[.slice (some ⟨hq, oq, none⟩) L.length cq, .int .u32 x.a, .int .u32 x.b] (by simp [EV]) (hc3 _ HS2) (fun u3 hb3 => ?_)
      have HS3 := s_below HS2 hb3
      refine ⟨HS3, ?_⟩
      refine take_run_g (i := 44) (u := .bool false) rfl (by kernel_rfl) (by kernel_rfl) (by kernel_rfl) (wanted_of rfl rfl rfl (bb := false) (by simp [EV])) rfl (fun _ _ _ h => h) HS3 (fun v hv => run_cmp_int (k := .i64) (p := fi) (q := fi) rfl (.inl rfl) (by simp [EV]) (by simp [EV]) (neqI _ _)) ?_
      refine take_run (i := 45) (u := .bool false) rfl (by kernel_rfl) (by kernel_rfl) (by kernel_rfl) rfl rfl (fun _ _ _ h => h) HS3 (fun v hv => run_pick (b := false) rfl (by simp [EV]) (by simp [EV])) ?_
      refine take_run (i := 46) (u := .bool false) rfl (by kernel_rfl) (by kernel_rfl) (by kernel_rfl) rfl rfl (fun _ _ _ h => h) HS3 (fun v hv => run_move rfl (by simp [EV]) v) ?_
      refine take_run_g (i := 47) (u := .pointer (some ⟨g, 0, none⟩)) rfl (by kernel_rfl) (by kernel_rfl) (by kernel_rfl) (wanted_of rfl rfl rfl (bb := false) (by simp [EV])) rfl (fun _ _ _ h => h) HS3 (fun v hv => run_move rfl (by simp [EV]) v) ?_
      refine take_run_g (i := 48) (u := .slice (some ⟨hq, oq, none⟩) L.length cq) rfl (by kernel_rfl) (by kernel_rfl) (by kernel_rfl) (wanted_of rfl rfl rfl (bb := false) (by simp [EV])) rfl (fun _ _ _ h => h) HS3 (fun v hv => run_move rfl (by simp [EV]) v) ?_
      refine take_run_g (i := 49) (u := .int .i64 (i : Nat)) rfl (by kernel_rfl) (by kernel_rfl) (by kernel_rfl) (wanted_of rfl rfl rfl (bb := false) (by simp [EV])) rfl (fun _ _ _ h => h) HS3 (fun v hv => run_move rfl (by simp [EV]) v) ?_
      refine take_run_g (i := 50) (u := .pointer (some ⟨hq, oq + i * 15, none⟩)) rfl (by kernel_rfl) (by kernel_rfl) (by kernel_rfl) (wanted_of rfl rfl rfl (bb := false) (by simp [EV])) rfl (fun _ _ _ h => h) HS3 (fun v hv => run_index (s := .slice (some ⟨hq, oq, none⟩) L.length cq) (j := .int .i64 (i : Nat)) rfl (by simp [EV]) (by simp [EV]) (by go_simp)) ?_
      refine take_run_g (i := 51) (u := .pointer (some ⟨hq, oq + i * 15 + 1, none⟩)) rfl (by kernel_rfl) (by kernel_rfl) (by kernel_rfl) (wanted_of rfl rfl rfl (bb := false) (by simp [EV])) rfl (fun _ _ _ h => h) HS3 (fun v hv => run_field (s := .pointer (some ⟨hq, oq + i * 15, none⟩)) rfl (by simp [EV]) (by kernel_rfl)) ?_
      refine take_run_g (i := 52) (u := .int .u32 x.b) rfl (by kernel_rfl) (by kernel_rfl) (by kernel_rfl) (wanted_of rfl rfl rfl (bb := false) (by simp [EV])) rfl (fun _ _ _ h => h) HS3 (fun v hv => run_load1 (s := .pointer (some ⟨hq, oq + i * 15 + 1, none⟩)) rfl (by simp [EV]) (by have c : v.cell? ⟨hq, oq + i * 15 + 1, none⟩ = some (.int .u32 x.b) := cel1 (qo_cel hv.2.1 hx); go_simp)) ?_
      refine take_run_g (i := 54) (u := .slice (some ⟨hq, oq, none⟩) L.length cq) rfl (by kernel_rfl) (by kernel_rfl) (by kernel_rfl) (wanted_of rfl rfl rfl (bb := false) (by simp [EV])) rfl (fun _ _ _ h => h) HS3 (fun v hv => run_move rfl (by simp [EV]) v) ?_
      refine take_run_g (i := 55) (u := .slice (some ⟨hq, oq, none⟩) L.length cq) rfl (by kernel_rfl) (by kernel_rfl) (by kernel_rfl) (wanted_of rfl rfl rfl (bb := false) (by simp [EV])) rfl (fun _ _ _ h => h) HS3 (fun v hv => run_move rfl (by simp [EV]) v) ?_
      refine take_run_g (i := 56) (u := .int .i64 (i : Nat)) rfl (by kernel_rfl) (by kernel_rfl) (by kernel_rfl) (wanted_of rfl rfl rfl (bb := false) (by simp [EV])) rfl (fun _ _ _ h => h) HS3 (fun v hv => run_move rfl (by simp [EV]) v) ?_
      refine take_run_g (i := 57) (u := .pointer (some ⟨hq, oq + i * 15, none⟩)) rfl (by kernel_rfl) (by kernel_rfl) (by kernel_rfl) (wanted_of rfl rfl rfl (bb := false) (by simp [EV])) rfl (fun _ _ _ h => h) HS3 (fun v hv => run_index (s := .slice (some ⟨hq, oq, none⟩) L.length cq) (j := .int .i64 (i : Nat)) rfl (by simp [EV]) (by simp [EV]) (by go_simp)) ?_
      refine take_run_g (i := 58) (u := .pointer (some ⟨hq, oq + i * 15 + 1, none⟩)) rfl (by kernel_rfl) (by kernel_rfl) (by kernel_rfl) (wanted_of rfl rfl rfl (bb := false) (by simp [EV])) rfl (fun _ _ _ h => h) HS3 (fun v hv => run_field (s := .pointer (some ⟨hq, oq + i * 15, none⟩)) rfl (by simp [EV]) (by kernel_rfl)) ?_
      refine take_run_g (i := 59) (u := .int .u32 x.b) rfl (by kernel_rfl) (by kernel_rfl) (by kernel_rfl) (wanted_of rfl rfl rfl (bb := false) (by simp [EV])) rfl (fun _ _ _ h => h) HS3 (fun v hv => run_load1 (s := .pointer (some ⟨hq, oq + i * 15 + 1, none⟩)) rfl (by simp [EV]) (by have c : v.cell? ⟨hq, oq + i * 15 + 1, none⟩ = some (.int .u32 x.b) := cel1 (qo_cel hv.2.1 hx); go_simp)) ?_
      have hc4 : ∀ W, Pw b0 g L f v0 W ∧ Qo W bq 15 (.slice (some ⟨hq, oq, none⟩) L.length cq) L.length (cellsX L) ∧ Qo W B0 15 (.slice (some ⟨hl, ol, none⟩) L.length cl) L.length (cellsX L) → Calls Try.prog 124 #[.pointer (some ⟨g, 0, none⟩), .int .u32 x.b] W fun e w' => e = .returned (.int .i64 pi) ∧ Below W.heap.size W w' := fun W hW => (peer_g hW.1 (by omega) x.b).mono fun e w' h => ⟨h.1.trans (ret_int hpi), h.2⟩
      refine step_calls_g (i := 53) (by kernel_rfl) rfl (wanted_of rfl rfl rfl (bb := false) (by simp [EV])) rfl 124 Try.f124 _ _ rfl Try.func124 (by kernel_rfl) (by kernel_rfl) #[.pointer (some ⟨g, 0, none⟩), .int .u32 x.b] (by simp [EV]) (hc4 _ HS3) (fun u4 hb4 => ?_)
      have HS4 := s_below HS3 hb4
      refine ⟨HS4, ?_⟩
      have hc5 : ∀ W, Pw b0 g L f v0 W ∧ Qo W bq 15 (.slice (some ⟨hq, oq, none⟩) L.length cq) L.length (cellsX L) ∧ Qo W B0 15 (.slice (some ⟨hl, ol, none⟩) L.length cl) L.length (cellsX L) → Calls Try.prog 67 #[.slice (some ⟨hq, oq, none⟩) L.length cq, .int .u32 0, .int .u32 x.b] W fun e w' => e = .returned (.int .i64 pi) ∧ Below W.heap.size W w' := fun W hW => (lfind_g hW.2.1 (by omega) 0 x.b).mono fun e w' h => ⟨h.1.trans (ret_int hpi2), h.2 ▸ Below.refl _ _⟩
      refine step_calls_g (i := 60) (by kernel_rfl) rfl (wanted_of rfl rfl rfl (bb := false) (by simp [EV])) rfl 67 Try.f67 _ _ rfl Try.func67 (by kernel_rfl) (by kernel_rfl) #[.slice (some ⟨hq, oq, none⟩) L.length cq, .int .u32 0, .int .u32 x.b] (by simp [EV]; rfl) (hc5 _ HS4) (fun u5 hb5 => ?_)
      have HS5 := s_below HS4 hb5
      refine ⟨HS5, ?_⟩
      refine take_run_g (i := 61) (u := .bool false) rfl (by kernel_rfl) (by kernel_rfl) (by kernel_rfl) (wanted_of rfl rfl rfl (bb := false) (by simp [EV])) rfl (fun _ _ _ h => h) HS5 (fun v hv => run_cmp_int (k := .i64) (p := pi) (q := pi) rfl (.inl rfl) (by simp [EV]) (by simp [EV]) (neqI _ _)) ?_
      refine take_run (i := 62) (u := .bool false) rfl (by kernel_rfl) (by kernel_rfl) (by kernel_rfl) rfl rfl (fun _ _ _ h => h) HS5 (fun v hv => run_pick (b := false) rfl (by simp [EV]) (by simp [EV])) ?_
      refine wpAnyH_done (by kernel_rfl) ?_ _
      refine NoPanic.normal ?_
      rw [HB.out]
      simp only [Act.put, List.setIfInBounds_toArray, List.set_cons_zero, List.set_cons_succ]
      have hbw : ∀ {a b : World}, Below B0 w a → Below a.heap.size a b → Below B0 w b := fun {a b} h k => h.trans (k.mono (by have := h.size; rw [HB0.out] at this; exact this))
      have bel5 : Below B0 w u5 := hbw (hbw (hbw (hbw (hbw bel.drew hb1) hb2) hb3) hb4) hb5
      have x2 : u5.cell? ⟨hq, oq + i * 15 + 2, none⟩ = some (.int .i64 x.s) := (qo_cel HS5.2.1 hx).cell 2 (u := .int .i64 x.s) rfl
      have HE := Lib.hid (And.intro HS5 bel5)
      clear HB HS HS1 HS2 HS3 HS4 HS5 hb1 hb2 hb3 hb4 hb5 hc1 hc2 hc3 hc4 hc5 EV e0 e1 e9 e11 hsz bel5 S bel hbw hfi hfi2 hpi hpi2 hx hxab
      cases au with
      | true =>
        go_wp2_with fail
        go_roundw
        case rel => exact ⟨i + 1, by go_num, by omega, by rw [HAU.out]; rfl, HE.out.1, HE.out.2⟩
        case measure => simp [intOf]; omega
      | false =>
        by_cases hs : x.s = 2
        · rw [hs] at x2
          have HS := Lib.hid hs
          clear hs
          go_wp2_with fail
          go_roundw
          case rel => exact ⟨i + 1, by go_num, by omega, by rw [HAU.out, HS.out]; rfl, HE.out.1, HE.out.2⟩
          case measure => simp [intOf]; omega
        · have HS := Lib.hid hs
          go_wp2_with fail
          go_roundw
          case rel => exact ⟨i + 1, by go_num, by omega, by rw [HAU.out]; simp [HS.out], HE.out.1, HE.out.2⟩
          case measure => simp [intOf]; omega
    · obtain rfl : i = L.length := by omega
      rw [List.take_length]
      obtain ⟨r, hr⟩ : ∃ r, n.tmod (L.length : Int) = r := ⟨_, rfl⟩
      have hrb : r.natAbs < L.length := by
        rw [← hr, Int.natAbs_tmod, Int.natAbs_natCast]
        exact Nat.mod_lt _ hL
      obtain ⟨kk, hkk⟩ : ∃ kk : Nat, (r + (L.length : Int)) % (L.length : Int) = (kk : Int) := ⟨((r + (L.length : Int)) % (L.length : Int)).toNat, by
        have := Int.emod_nonneg (r + (L.length : Int)) (show (L.length : Int) ≠ 0 by omega)
        omega⟩
      have hkl : kk < L.length := by
        have := Int.emod_lt_of_pos (r + (L.length : Int)) (show (0 : Int) < (L.length : Int) by omega)
        omega
      have hkt : (r + (L.length : Int)).tmod (L.length : Int) = (kk : Int) := by rw [Int.tmod_eq_emod_of_nonneg (by omega)]; exact hkk
      have hw1 : wrap64 (r + (L.length : Int)) = r + (L.length : Int) := by unfold wrap64; omega
      have hw2 : IntKind.i64.wrap (r + (L.length : Int)) = r + (L.length : Int) := IntWalk.i64_in _ (by omega)
      have hne : ¬ (L.length : Int) = 0 := by omega
      have hnm1 : ¬ (L.length : Int) = -1 := by omega
      obtain ⟨au, hau⟩ : ∃ au, anyUp L = au := ⟨_, rfl⟩
      have HAU := Lib.hid hau
      try rw [hau]
      clear hau
      have HS9 := Lib.hid (And.intro S bel)
      clear S bel
      go_upto_region 11 with fail
      go_cut [12] (fun s wx => s = .int .i64 (kk : Nat) ∧ wx = wr)
      case first =>
        go_wp2_with fail
        go_meet
        exact ⟨by first | rfl | (congr 1), rfl⟩
      case rest =>
      obtain ⟨rfl, hwc⟩ := hcut
      obtain rfl : wr = wc := hwc.symm
      clear hkt hw1 hw2 hkk hr hrb
      generalize wr = ws at *
      go_wp2_with fail
      go_loopw [13, 14] (fun s13 s14 wx => ∃ i : Nat, s14 = .int .i64 (i : Nat) ∧ i + 1 ≤ L.length ∧ s13 = .int .i64 (othI L kk i) ∧ wx = ws) (fun _ s14 _ => (intOf s14).toNat)
      case atStart => exact ⟨L.length - 1, by congr 1; omega, by omega, by rw [othI_last (by omega)], rfl⟩
      case round =>
        obtain ⟨i, rfl, hi', rfl, hwr⟩ := hrel
        obtain rfl : ws = wr := hwr.symm
        rcases i with _ | i
        · rw [othI_zero]
          obtain ⟨oo, hoo⟩ : ∃ oo, othO L kk = oo := ⟨_, rfl⟩
          rw [hoo]
          have hoth := other_g HS9.out.1.1 kk hkl (by omega)
          rw [hoo] at hoth
          have hal := alive_g HS9.out.1.1 (by omega)
          rw [idx_any, HAU.out] at hal
          have h99 : idx (fun x => decide (x.a = 99) && decide (x.b = 99)) L = -1 := idx_none fun x hx => by simp [(hab x hx).2.1]
          have p99 : idx (fun x => decide (x.b = 99)) L = -1 := idx_none fun x hx => by simp [(hab x hx).2.2]
          have hq1 := fun w => zero_eq w
          have hq2 := fun w => zero_eql w
          have hqB : ∀ W, (binOp .eql 4 (.bool au) (.bool au)).run Try.prog W = .ok (.bool true) W := fun W => by cases au <;> kernel_rfl
          clear hoo
          go_wp2_with fail
          refine hoth.mono ?_
          rintro e w3 ⟨rfl, hw3⟩
          obtain rfl : ws = w3 := hw3.symm
          go_wp2_with fail
          refine hal.mono ?_
          rintro e w3 ⟨rfl, b3⟩
          have S3 := s_below HS9.out.1 b3
          have hbw : ∀ {a b : World}, Below B0 w a → Below a.heap.size a b → Below B0 w b := fun {a b} h k => h.trans (k.mono (by have := h.size; rw [HB0.out] at this; exact this))
          have bel3 := hbw HS9.out.2 b3
          have hfd := find_g S3.1 (by omega) 99 99
          rw [h99] at hfd
          clear hoth hal b3
          go_wp2_with fail
          refine hfd.mono ?_
          rintro e w4 ⟨rfl, b4⟩
          have S4 := s_below S3 b4
          have bel4 := hbw bel3 b4
          have hpr := peer_g S4.1 (by omega) 99
          rw [p99] at hpr
          clear hfd b4 S3 bel3
          go_wp2_with fail
          refine hpr.mono ?_
          rintro e w5 ⟨rfl, b5⟩
          have S5 := s_below S4 b5
          have bel5 := hbw bel4 b5
          have hat := at_out S5.1 (-1) (.inl (by omega))
          clear hpr b5 S4 bel4
          go_wp2_with fail
          refine hat.mono ?_
          rintro e w6 ⟨rfl, b6⟩
          have bel6 := hbw bel5 b6
          clear hat b6 S5 bel5
          go_wp2_with fail
          go_ret
          exact ⟨rfl, by rw [HB0.out]; exact bel6⟩
        · have hst := othI_step (L := L) (k := kk) (i := i) (by omega)
          obtain ⟨k, hk⟩ : ∃ k, (kk + (i + 1)) % L.length = k := ⟨_, rfl⟩
          have hkl2 : k < L.length := by rw [← hk]; exact Nat.mod_lt _ hL
          have hm1 : ((kk : Int) + ((i : Int) + 1)).tmod (L.length : Int) = (k : Int) := by rw [← hk, ← Int.natCast_add_one, ← Int.natCast_add, ← Int.ofNat_tmod]
          have hm2 : ((kk : Int) + ((i : Int) + 1)) % (L.length : Int) = (k : Int) := by rw [← hk, Int.natCast_emod, Int.natCast_add, Int.natCast_add_one]
          obtain ⟨x, hx⟩ : ∃ x, L[k]? = some x := ⟨_, List.getElem?_eq_getElem hkl2⟩
          have x2 : ws.cell? ⟨hq, oq + k * 15 + 2, none⟩ = some (.int .i64 x.s) := (qo_cel HS9.out.1.2.1 hx).cell 2 (u := .int .i64 x.s) rfl
          have hk0 : (0 : Int) ≤ (k : Int) := by omega
          have hk1 : (k : Int) < (L.length : Int) := by omega
          have hge : (1 : Int) ≤ (i : Int) + 1 := by omega
          rw [hk, stAt_of hx] at hst
          rw [show (((i + 1 : Nat)) : Int) = (i : Int) + 1 by omega]
          by_cases hs : x.s = 1
          · rw [if_pos hs] at hst
            rw [hs] at x2
            have HT := Lib.hid hst
            clear hst hs hx hk
            go_wp2_with fail
            go_roundw
            case rel => exact ⟨i, by first | go_num | (congr 1; omega) | (simp; done), by omega, by rw [HT.out], trivial⟩
            case measure => simp [intOf]
          · rw [if_neg hs] at hst
            have HT := Lib.hid hst
            clear hst hx hk
            go_wp2_with fail
            go_roundw
            case rel => exact ⟨i, by first | go_num | (congr 1; omega) | (simp; done), by omega, by rw [HT.out], trivial⟩
            case measure => simp [intOf]
end
end Go.Proofs.Ythddacgdmngfhaa.pat
