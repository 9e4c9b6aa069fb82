/- Layer 15: paths copied, chosen, set (gen-ppc.py wrote this). -/
import Derived.Test.YthddacgdmngfhaaPpB
import Derived.Test.YthddacgdmngfhaaPatD
import Derived.Test.YthddacgdmngfhaaKitZ
import Derived.Lib.BufferMore
namespace Go.Proofs.Ythddacgdmngfhaa.pat
open Go.Sort (grow)
open Go.ChangeShapes Go.WideShapes Go.ChangeAt Go.RowKit kit
set_option maxRecDepth 100000

theorem heap_setCells' {g k : Nat} (hne : k ≠ g) : ∀ (vs : List Value) (o : Nat) (w : World), (w.setCells g o vs).heap[k]? = w.heap[k]?
  | [], _, _ => rfl
  | v :: r, o, w => (heap_setCells' hne r (o + 1) _).trans (Below.heap_setCell w ⟨g, o, none⟩ v k hne)
theorem infoI : (Try.prog.info? 3).map (fun i => (i.zero, i.size, i.bytes)) = some (some (.int .i64 0), 1, 8) := by kernel_rfl
def cellsI (P : List Nat) : List Value := P.map fun i => .int .i64 (i : Nat)
theorem cellsI_one (P : List Nat) : ∀ u ∈ cellsI P, u.oneCell' = true := fun u hu => by
  obtain ⟨i, _, rfl⟩ := List.mem_map.1 hu
  rfl

theorem clone_paths {b0 n : Nat} {v : Value} {xs : List Value} {w : World} (q : Qo w b0 15 v n xs) (hn : 0 < n) (hn2 : n ≤ 1000) (hone : ∀ u ∈ xs, u.oneCell' = true) : Calls Try.prog 167 #[v] w fun e w' => (∃ v', e = .returned v' ∧ Qo w' w.heap.size 15 v' n xs) ∧ Below w.heap.size w w' := by
  obtain ⟨i0, hi, hz0, hz1, hz2⟩ := info_parts infoP
  obtain ⟨g, off, cap, rfl, _, _, _, _, _, _⟩ := q.show_ hn
  have hq : ∀ W, (binOp .eql 115 (.slice (some ⟨g, off, none⟩) n cap) (.slice none 0 0)).run Try.prog W = .ok (.bool false) W := fun W => Lib.run_eql_slice_some_nil W _ n cap Try.underlying115
  have al := (Below.refl w.heap.size w).alloc (Nat.le_refl _) (.cells #[] 113)
  have hs := al.size
  obtain ⟨v', w', hr, q', gr, ha⟩ := qo_append (P := Try.prog) (t := 115) (ty := 115) Try.underlying115 hi hz0 hz1 hz2 rfl (Qo.empty (w.alloc (.cells #[] 113)) w.heap.size 15 (some ⟨w.heap.size, 0, none⟩)) ((q.alloc (.cells #[] 113)).src Try.underlying115 hone) (by unfold maxLen; omega) (by omega) hs
  have bel : Below w.heap.size w w' := al.grown gr hs (fun k hk => by rw [blkOf_zero] at hk; cases hk)
  rw [List.nil_append, Nat.zero_add] at q'
  obtain ⟨oa, cp, hv, _, _⟩ := q'.shape
  subst hv
  clear q al gr ha hi hz0 hz1 hz2
  go_enter Try.func167, Try.ntmps167
  go_wp2_with (at_builtin; refine wpList_append_q rfl _ _ _ rfl rfl rfl hr ?_)
  go_ret
  exact ⟨⟨_, rfl, q'⟩, bel⟩

theorem clone_ints {b0 n : Nat} {v : Value} {xs : List Value} {w : World} (q : Qo w b0 1 v n xs) (hn : 0 < n) (hn2 : n ≤ 1000) (hone : ∀ u ∈ xs, u.oneCell' = true) : Calls Try.prog 118 #[v] w fun e w' => (∃ v', e = .returned v' ∧ Qo w' w.heap.size 1 v' n xs) ∧ Below w.heap.size w w' := by
  obtain ⟨i0, hi, hz0, hz1, hz2⟩ := info_parts infoI
  obtain ⟨g, off, cap, rfl, _, _, _, _, _, _⟩ := q.show_ hn
  have hq : ∀ W, (binOp .eql 25 (.slice (some ⟨g, off, none⟩) n cap) (.slice none 0 0)).run Try.prog W = .ok (.bool false) W := fun W => Lib.run_eql_slice_some_nil W _ n cap Try.underlying25
  have al := (Below.refl w.heap.size w).alloc (Nat.le_refl _) (.cells #[] 3)
  have hs := al.size
  obtain ⟨v', w', hr, q', gr, ha⟩ := qo_append (P := Try.prog) (t := 25) (ty := 25) Try.underlying25 hi hz0 hz1 hz2 rfl (Qo.empty (w.alloc (.cells #[] 3)) w.heap.size 1 (some ⟨w.heap.size, 0, none⟩)) ((q.alloc (.cells #[] 3)).src Try.underlying25 hone) (by unfold maxLen; omega) (by omega) hs
  have bel : Below w.heap.size w w' := al.grown gr hs (fun k hk => by rw [blkOf_zero] at hk; cases hk)
  rw [List.nil_append, Nat.zero_add] at q'
  obtain ⟨oa, cp, hv, _, _⟩ := q'.shape
  subst hv
  clear q al gr ha hi hz0 hz1 hz2
  go_enter Try.func118, Try.ntmps118
  go_wp2_with (at_builtin; refine wpList_append_q rfl _ _ _ rfl rfl rfl hr ?_)
  go_ret
  exact ⟨⟨_, rfl, q'⟩, bel⟩

/-- Of what was there, the paths alone have turned. -/
structure Fr (g : Nat) (v : Value) (w w' : World) : Prop where
  size : w.heap.size ≤ w'.heap.size
  block : ∀ i, i < w.heap.size → i ≠ g → blkOf v ≠ some i → w'.heap[i]? = w.heap[i]?
theorem Fr.of_below {g : Nat} {v : Value} {w w' : World} (h : Below w.heap.size w w') : Fr g v w w' := ⟨h.size, fun i hi _ _ => h.block i hi⟩
section
variable {P : Program} {ops : Array Oper} {Q : Exit → Act → World → Prop} {S : World → Prop}
theorem unwanted_of {o ok : Oper} {k : Nat} {bb cc : Bool} {d : Nat} {a : Act} (hg : o.guard = some (k, bb)) (hk : ops[k]? = some ok) (hd : ok.dst = some d) (he : a.eval (.tmp d) = .bool cc) (hc : cc = !bb) : Region.wanted o (yielded ops a.tmps) = false := by
  have h : a.tmps[d]? = some (.bool cc) := by
    have he' : a.tmps.getD d undef = .bool cc := he
    rw [Array.getD_eq_getD_getElem?] at he'
    cases hq : a.tmps[d]? with
    | none => rw [hq] at he'; cases he'
    | some u => rw [hq] at he'; exact congrArg some he'
  subst hc
  simp [Region.wanted, hg, yielded, hk, hd, h]
theorem take_skip {i : Nat} {oi : Oper} {d fuel : Nat} {L : Array Bool} {a : Act} {w : World} (hi : ops[i]? = some oi) (hs : Region.noSelect ops = true) (hf : Region.free .any ops L i = true) (hr : (Region.ready .any ops L).contains i = true)
    (hg : Region.wanted oi (yielded ops a.tmps) = false) (hd : oi.dst = some d) (hQ : ∀ c a w, Q (.panic c) (a.put oi.dst undef) w → Q (.panic c) a w) (hS : S w)
    (h : wpAnyH P .any ops Q S fuel (L.setIfInBounds i true) (a.put (some d) undef) w) : wpAnyH P .any ops Q S (fuel + 1) L a w :=
  wpAnyH_take hi hs hf hr hQ (.inr ⟨hg, rfl⟩) hS (hd ▸ h)
theorem run_not {oi : Oper} {a : Act} {x : Operand} {tx : TypeId} {b : Bool} {v : World} (ho : oi.op = .unOp .not tx x) (hx : a.eval x = .bool b) : (execOp a.eval oi).run P v = .ok (.value (.bool !b)) v := by
  unfold execOp
  simp [ho, hx, Op.unary]
end
section
variable {b0 g f : Nat} {L : List Px} {v : Value} {w w' : World}
theorem all_g (h : Pw b0 g L f v w) (hL : 0 < L.length) (hl : L.length ≤ 1000) : Calls Try.prog 121 #[.pointer (some ⟨g, 0, none⟩)] w fun e w' => (∃ v', e = .returned v' ∧ Qo w' w.heap.size 15 v' L.length (cellsX L)) ∧ Below w.heap.size w w' := by
  have c0 : w.cell? ⟨g, 0, none⟩ = some v := h.B.cell 0
  obtain ⟨oa, cap, hv, _, _⟩ := h.q.shape
  have q := h.q
  clear h
  subst hv
  go_enter Try.func121, Try.ntmps121
  go_wp2_with fail
  refine (clone_paths q hL hl (cellsX_one L)).mono ?_
  rintro e w1 ⟨⟨v', rfl, q'⟩, hb⟩
  obtain ⟨oa', cap', hv', _, _⟩ := q'.shape
  subst hv'
  go_wp2_with fail
  go_ret
  exact ⟨⟨_, rfl, q'⟩, hb⟩
theorem choose_in (h : Pw b0 g L f v w) (k : Nat) (hk : k < L.length) : Calls Try.prog 71 #[.pointer (some ⟨g, 0, none⟩), .int .i64 (k : Nat)] w fun e w' => e = .returned (.bool true) ∧ Pw b0 g L k v w' ∧ Below b0 w w' ∧ Fr g v w w' := by
  have c1 : w.cell? ⟨g, 1, none⟩ = some (.int .i64 (f : Nat)) := h.B.cell 1
  have f1 : w.frozen? ⟨g, 1, none⟩ = false := h.B.frozen 1
  go_enter Try.func71, Try.ntmps71
  go_wp2_with fail
  refine (has_in h k hk).mono ?_
  rintro e w1 ⟨rfl, hw⟩
  obtain rfl : w = w1 := hw.symm
  go_wp2_with fail
  go_ret
  exact ⟨rfl, ⟨h.B.set_ 1 _, h.q.far (p := ⟨g, 1, none⟩) h.hn _, h.hg, h.hn⟩, (Below.refl b0 w).setCell (p := ⟨g, 1, none⟩) h.hg _, by simp [World.setCell], fun i hi hg _ => Below.heap_setCell w ⟨g, 1, none⟩ _ i hg⟩
theorem choose_out (h : Pw b0 g L f v w) (k : Int) (hk : k < 0 ∨ (L.length : Int) ≤ k) : Calls Try.prog 71 #[.pointer (some ⟨g, 0, none⟩), .int .i64 k] w fun e w' => e = .returned (.bool false) ∧ w' = w := by
  go_enter Try.func71, Try.ntmps71
  go_wp2_with fail
  refine (has_out h k hk).mono ?_
  rintro e w1 ⟨rfl, hw⟩
  obtain rfl : w = w1 := hw.symm
  go_wp2_with fail
  go_ret
  exact ⟨rfl, rfl⟩
end
/-- A path of addresses alone. -/
def pza (a b : Int) : Array Value := #[.int .u32 a, .int .u32 b, .int .i64 0, .int .i64 0, .int .i64 0, .int .i64 0, .int .i64 0, .bool false, .int .i64 0, .int .i64 0, .int .i64 0, .int .i64 0, .int .i64 0, .int .u32 0, .int .i64 0]
theorem samex (x : Px) (a b : Int) (y : Array Value) (h0 : y[0]? = some (.int .u32 a)) (h1 : y[1]? = some (.int .u32 b)) (w : World) : Calls Try.prog 120 #[.agg (px x), .agg y] w fun e w' => e = .returned (.bool (decide (x.a = a) && decide (x.b = b))) ∧ Below w.heap.size w w' := by
  have X := (Blk.new w 113 (px x)).alloc (.cells y 113)
  have Y : Blk ((w.alloc (.cells (px x) 113)).alloc (.cells y 113)) (w.heap.size + 1) 113 y := blk_new2 _ _ _ _
  have bel := ((Below.refl w.heap.size w).alloc (Nat.le_refl _) (.cells (px x) 113)).alloc (by simp) (.cells y 113)
  go_enter Try.func120, Try.ntmps120
  go_upto_region 1 with fail
  obtain ⟨w1, hw1⟩ : ∃ w1, (w.alloc (.cells (px x) 113)).alloc (.cells y 113) = w1 := ⟨_, rfl⟩
  rw [hw1] at X Y bel
  try rw [hw1]
  clear hw1
  have x0 : w1.cell? ⟨w.heap.size, 0, none⟩ = some (.int .u32 x.a) := X.cell 0
  have x1 : w1.cell? ⟨w.heap.size, 1, none⟩ = some (.int .u32 x.b) := X.cell 1
  have y0 : w1.cell? ⟨w.heap.size + 1, 0, none⟩ = some (.int .u32 a) := (Y.cell 0).trans h0
  have y1 : w1.cell? ⟨w.heap.size + 1, 1, none⟩ = some (.int .u32 b) := (Y.cell 1).trans h1
  clear X Y h0 h1
  by_cases e1 : x.a = a
  · by_cases e2 : x.b = b
    · go_wp2_with fail
      go_ret
      exact ⟨by simp [e1, e2], bel⟩
    · go_wp2_with fail
      go_ret
      exact ⟨by simp [e1, e2], bel⟩
  · go_wp2_with fail
    go_ret
    exact ⟨by simp [e1], bel⟩
/-- Cells written one behind the other. -/
def setL : List Value → Nat → List Value → List Value
  | xs, _, [] => xs
  | xs, j, u :: r => setL (xs.set j u) (j + 1) r
theorem setL_len : ∀ (us : List Value) (xs : List Value) (j : Nat), (setL xs j us).length = xs.length
  | [], _, _ => rfl
  | u :: r, xs, j => by rw [setL, setL_len r, List.length_set]
theorem setL_get : ∀ (us : List Value) (xs : List Value) (j i : Nat), j + us.length ≤ xs.length → (setL xs j us)[i]? = if i < j then xs[i]? else if i < j + us.length then us[i - j]? else xs[i]?
  | [], xs, j, i, h => by
    simp only [setL, List.length_nil, Nat.add_zero]
    split
    · rfl
    · rfl
  | u :: r, xs, j, i, h => by
    rw [List.length_cons] at h ⊢
    rw [setL, setL_get r (xs.set j u) (j + 1) i (by rw [List.length_set]; omega)]
    by_cases h1 : i < j
    · rw [if_pos (by omega), if_pos h1, List.getElem?_set_ne (by omega)]
    · by_cases h2 : i = j
      · subst h2
        rw [if_pos (by omega), if_neg (by omega), if_pos (by omega), List.getElem?_set_self (by omega), Nat.sub_self]
        rfl
      · rw [if_neg (by omega), if_neg h1]
        by_cases h3 : i < j + 1 + r.length
        · rw [if_pos h3, if_pos (by omega), show i - j = (i - (j + 1)) + 1 by omega, List.getElem?_cons_succ]
        · rw [if_neg h3, if_neg (by omega), List.getElem?_set_ne (by omega)]
theorem qo_setCells {b0 size n g off cap : Nat} : ∀ (us : List Value) (j : Nat) (xs : List Value) (w : World), Qo w b0 size (.slice (some ⟨g, off, none⟩) n cap) n xs → j + us.length ≤ n * size → Qo (w.setCells g (off + j) us) b0 size (.slice (some ⟨g, off, none⟩) n cap) n (setL xs j us)
  | [], _, _, _, q, _ => q
  | u :: r, j, xs, w, q, h => by
    rw [List.length_cons] at h
    have := qo_setCells r (j + 1) (xs.set j u) _ (q.set_ rfl j (by omega) u) (by omega)
    rwa [← Nat.add_assoc] at this
theorem cellsX_set (y : Px) : ∀ (L : List Px) (k : Nat), k < L.length → cellsX (L.set k y) = setL (cellsX L) (k * 15) (px y).toList := by
  intro L k hk
  apply List.ext_getElem?
  intro i
  have hlen : k * 15 + (px y).toList.length ≤ (cellsX L).length := by rw [cellsX_len, px_len]; omega
  rw [setL_get _ _ _ _ hlen, px_len]
  have hcl := cellsX_len L
  have key : ∀ (M : List Px) (q j : Nat) (x : Px), M[q]? = some x → j < 15 → (cellsX M)[q * 15 + j]? = (px x)[j]? := fun M q j x hx hj => (cellsX_get hx j hj).symm
  by_cases hi : i < L.length * 15
  · obtain ⟨q, j, hj, rfl⟩ : ∃ q j, j < 15 ∧ i = q * 15 + j := ⟨i / 15, i % 15, by omega, by omega⟩
    have hq : q < L.length := by omega
    by_cases e : q = k
    · subst e
      rw [key (L.set q y) q j y (List.getElem?_set_self hq) hj, if_neg (by omega), if_pos (by omega), show q * 15 + j - q * 15 = j by omega, Array.getElem?_toList]
    · have h1 : (L.set k y)[q]? = some L[q] := by rw [List.getElem?_set_ne (fun h => e h.symm), List.getElem?_eq_getElem hq]
      rw [key _ q j _ h1 hj]
      have h2 := key L q j L[q] (List.getElem?_eq_getElem hq) hj
      by_cases e2 : q < k
      · rw [if_pos (by omega), h2]
      · rw [if_neg (by omega), if_neg (by omega), h2]
  · rw [List.getElem?_eq_none (by rw [cellsX_len, List.length_set]; omega), if_neg (by omega), if_neg (by omega), List.getElem?_eq_none (by omega)]

section
variable {b0 g f : Nat} {L : List Px} {w w' : World}
set_option maxHeartbeats 4000000 in
theorem set_out {v0 : Value} (h : Pw b0 g L f v0 w) (k : Int) (hk : k < 0 ∨ (L.length : Int) ≤ k) (y : Array Value) : Calls Try.prog 72 #[.pointer (some ⟨g, 0, none⟩), .int .i64 k, .agg y] w fun e w' => e = .returned (.bool false) ∧ Below w.heap.size w w' := by
  have h1 := h.alloc (.cells y 113)
  have bel := (Below.refl w.heap.size w).alloc (Nat.le_refl _) (.cells y 113)
  clear h
  go_enter Try.func72, Try.ntmps72
  go_upto_region 1 with fail
  obtain ⟨w1, hw1⟩ : ∃ w1, w.alloc (.cells y 113) = w1 := ⟨_, rfl⟩
  rw [hw1] at h1 bel
  try rw [hw1]
  clear hw1
  refine wp_region_noPanic ?_
  have HS := h1.drew
  refine wp_region_held_drew (S := fun v => Pw b0 g L f v0 v) (by kernel_rfl) HS (fun _ => ?_)
  refine wpAnyH_abs _ (fun ac hac => ?_)
  have hsz : ac.tmps.size = 30 := by rw [hac]; rfl
  have e0 : ac.eval (.tmp 0) = .pointer (some ⟨g, 0, none⟩) := by rw [hac]; rfl
  have e1 : ac.eval (.tmp 1) = .int .i64 k := by rw [hac]; rfl
  have HB := Lib.hid hac
  clear hac
  have EV := And.intro @Act.eval_put_ne (And.intro @Act.eval_put_same (And.intro @Act.size_put (And.intro hsz (And.intro e0 e1))))
  refine take_run (i := 0) (u := .pointer (some ⟨g, 0, none⟩)) rfl (by kernel_rfl) (by kernel_rfl) (by kernel_rfl) rfl rfl (fun _ _ _ h => h) HS (fun v hv => run_move rfl (by simp [EV]) v) ?_
  refine take_run (i := 1) (u := .int .i64 k) rfl (by kernel_rfl) (by kernel_rfl) (by kernel_rfl) rfl rfl (fun _ _ _ h => h) HS (fun v hv => run_move rfl (by simp [EV]) v) ?_
  refine step_calls (i := 2) (by kernel_rfl) rfl rfl rfl 119 Try.f119 _ _ rfl Try.func119 (by kernel_rfl) (by kernel_rfl) #[.pointer (some ⟨g, 0, none⟩), .int .i64 k] (by simp [EV]) (has_out HS k hk) ?_
  rintro e w2 ⟨rfl, hw2⟩
  obtain rfl := hw2
  refine ⟨_, rfl, HS, ?_⟩
  refine take_run (i := 3) (u := .bool true) rfl (by kernel_rfl) (by kernel_rfl) (by kernel_rfl) rfl rfl (fun _ _ _ h => h) HS (fun v hv => run_not (b := false) rfl (by simp [EV])) ?_
  refine take_run (i := 4) (u := .bool true) rfl (by kernel_rfl) (by kernel_rfl) (by kernel_rfl) rfl rfl (fun _ _ _ h => h) HS (fun v hv => run_move rfl (by simp [EV]) v) ?_
  refine take_skip (i := 5) rfl (by kernel_rfl) (by kernel_rfl) (by kernel_rfl) (unwanted_of (bb := false) (cc := true) rfl rfl rfl (by simp [EV]) rfl) rfl (fun _ _ _ h => h) HS ?_
  refine take_skip (i := 6) rfl (by kernel_rfl) (by kernel_rfl) (by kernel_rfl) (unwanted_of (bb := false) (cc := true) rfl rfl rfl (by simp [EV]) rfl) rfl (fun _ _ _ h => h) HS ?_
  refine take_skip (i := 7) rfl (by kernel_rfl) (by kernel_rfl) (by kernel_rfl) (unwanted_of (bb := false) (cc := true) rfl rfl rfl (by simp [EV]) rfl) rfl (fun _ _ _ h => h) HS ?_
  refine take_skip (i := 8) rfl (by kernel_rfl) (by kernel_rfl) (by kernel_rfl) (unwanted_of (bb := false) (cc := true) rfl rfl rfl (by simp [EV]) rfl) rfl (fun _ _ _ h => h) HS ?_
  refine take_skip (i := 9) rfl (by kernel_rfl) (by kernel_rfl) (by kernel_rfl) (unwanted_of (bb := false) (cc := true) rfl rfl rfl (by simp [EV]) rfl) rfl (fun _ _ _ h => h) HS ?_
  refine take_skip (i := 10) rfl (by kernel_rfl) (by kernel_rfl) (by kernel_rfl) (unwanted_of (bb := false) (cc := true) rfl rfl rfl (by simp [EV]) rfl) rfl (fun _ _ _ h => h) HS ?_
  refine take_skip (i := 11) rfl (by kernel_rfl) (by kernel_rfl) (by kernel_rfl) (unwanted_of (bb := false) (cc := true) rfl rfl rfl (by simp [EV]) rfl) rfl (fun _ _ _ h => h) HS ?_
  refine take_skip (i := 12) rfl (by kernel_rfl) (by kernel_rfl) (by kernel_rfl) (unwanted_of (bb := false) (cc := true) rfl rfl rfl (by simp [EV]) rfl) rfl (fun _ _ _ h => h) HS ?_
  refine take_skip (i := 13) rfl (by kernel_rfl) (by kernel_rfl) (by kernel_rfl) (unwanted_of (bb := false) (cc := true) rfl rfl rfl (by simp [EV]) rfl) rfl (fun _ _ _ h => h) HS ?_
  refine take_skip (i := 14) rfl (by kernel_rfl) (by kernel_rfl) (by kernel_rfl) (unwanted_of (bb := false) (cc := true) rfl rfl rfl (by simp [EV]) rfl) rfl (fun _ _ _ h => h) HS ?_
  refine take_run (i := 15) (u := .bool true) rfl (by kernel_rfl) (by kernel_rfl) (by kernel_rfl) rfl rfl (fun _ _ _ h => h) HS (fun v hv => run_pick (b := true) rfl (by simp [EV]) rfl) ?_
  refine wpAnyH_done (by kernel_rfl) ?_ _
  refine NoPanic.normal ?_
  rw [HB.out]
  simp only [Act.put, List.setIfInBounds_toArray, List.set_cons_zero, List.set_cons_succ]
  have belE := bel.drew
  clear HS h1 HB EV e0 e1 hsz bel
  go_wp2_with fail
  go_ret
  exact ⟨rfl, belE⟩

theorem pw_cel {b0 g f hh off cap k : Nat} {L : List Px} {x : Px} {v : World} (h : Pw b0 g L f (.slice (some ⟨hh, off, none⟩) L.length cap) v) (hx : L[k]? = some x) : Cel v hh (off + k * 15) (px x) := by
  obtain ⟨h', off', e, _, _, _, X⟩ := row_at h.q rfl hx
  cases e
  exact X
set_option maxHeartbeats 4000000 in
theorem set_no {v0 : Value} (h : Pw b0 g L f v0 w) {k : Nat} {x : Px} (hx : L[k]? = some x) (a b : Int) (hab : ¬ (x.a = a ∧ x.b = b)) : Calls Try.prog 72 #[.pointer (some ⟨g, 0, none⟩), .int .i64 (k : Nat), .agg (pza a b)] w fun e w' => e = .returned (.bool false) ∧ Below w.heap.size w w' := by
  have hsame : ∀ W, Calls Try.prog 120 #[.agg (px x), .agg (pza a b)] W fun e w' => e = .returned (.bool false) ∧ Below W.heap.size W w' := fun W => (samex x a b (pza a b) rfl rfl W).mono fun e w' h => ⟨h.1.trans (ret_bool (by simpa using hab)), h.2⟩
  obtain ⟨oa, cap, hv, _, hcm⟩ := h.q.shape
  subst hv
  obtain ⟨hh, off, hoa, hhl, hbh, hblk, X⟩ := row_at h.q rfl hx
  subst hoa
  have hk : k < L.length := (List.getElem?_eq_some_iff.1 hx).1
  have hk2 : (k : Int) < (L.length : Int) := by omega
  have hk0 : (0 : Int) ≤ (k : Int) := by omega
  have h1 := h.alloc (.cells (pza a b) 113)
  have Y1 := Cel.of_blk (Blk.new w 113 (pza a b))
  have bel := (Below.refl w.heap.size w).alloc (Nat.le_refl _) (.cells (pza a b) 113)
  have hxb : w.heap.size ≠ hh := by omega
  have hxg : w.heap.size ≠ g := by have := h.B.lt; omega
  clear h X
  go_enter Try.func72, Try.ntmps72
  go_upto_region 1 with fail
  obtain ⟨w1, hw1⟩ : ∃ w1, w.alloc (.cells (pza a b) 113) = w1 := ⟨_, rfl⟩
  rw [hw1] at h1 bel Y1
  try rw [hw1]
  clear hw1
  obtain ⟨xb, hxb'⟩ : ∃ xb, w.heap.size = xb := ⟨_, rfl⟩
  have HXB := Lib.hid hxb'
  rw [hxb'] at Y1 hxb hxg bel
  try rw [hxb']
  clear hxb'
  refine wp_region_noPanic ?_
  have HS : Pw b0 g L f (.slice (some ⟨hh, off, none⟩) L.length cap) w1.drew ∧ Cel w1.drew xb 0 (pza a b) := ⟨h1.drew, Y1.drew⟩
  refine wp_region_held_drew (S := fun v => Pw b0 g L f (.slice (some ⟨hh, off, none⟩) L.length cap) v ∧ Cel v xb 0 (pza a b)) (by kernel_rfl) HS (fun _ => ?_)
  refine wpAnyH_abs _ (fun ac hac => ?_)
  have hsz : ac.tmps.size = 30 := by rw [hac]; rfl
  have e0 : ac.eval (.tmp 0) = .pointer (some ⟨g, 0, none⟩) := by rw [hac]; rfl
  have e1 : ac.eval (.tmp 1) = .int .i64 (k : Nat) := by rw [hac]; rfl
  have e5 : ac.eval (.tmp 5) = .pointer (some ⟨xb, 0, none⟩) := by rw [hac]; rfl
  have HB := Lib.hid hac
  clear hac
  have EV := And.intro @Act.eval_put_ne (And.intro @Act.eval_put_same (And.intro @Act.size_put (And.intro hsz (And.intro e0 (And.intro e1 e5)))))
  refine take_run (i := 0) (u := .pointer (some ⟨g, 0, none⟩)) rfl (by kernel_rfl) (by kernel_rfl) (by kernel_rfl) rfl rfl (fun _ _ _ h => h) HS (fun v hv => run_move rfl (by simp [EV]) v) ?_
  refine take_run (i := 1) (u := .int .i64 (k : Nat)) rfl (by kernel_rfl) (by kernel_rfl) (by kernel_rfl) rfl rfl (fun _ _ _ h => h) HS (fun v hv => run_move rfl (by simp [EV]) v) ?_
  refine step_calls (i := 2) (by kernel_rfl) rfl rfl rfl 119 Try.f119 _ _ rfl Try.func119 (by kernel_rfl) (by kernel_rfl) #[.pointer (some ⟨g, 0, none⟩), .int .i64 (k : Nat)] (by simp [EV]) (has_in HS.1 k hk) ?_
  rintro e w2 ⟨rfl, hw2⟩
  obtain rfl := hw2
  refine ⟨_, rfl, HS, ?_⟩
  refine take_run (i := 3) (u := .bool false) rfl (by kernel_rfl) (by kernel_rfl) (by kernel_rfl) rfl rfl (fun _ _ _ h => h) HS (fun v hv => run_not (b := true) rfl (by simp [EV])) ?_
  refine take_run (i := 4) (u := .bool false) rfl (by kernel_rfl) (by kernel_rfl) (by kernel_rfl) rfl rfl (fun _ _ _ h => h) HS (fun v hv => run_move rfl (by simp [EV]) v) ?_
  refine take_run_g (i := 5) (u := .pointer (some ⟨g, 0, none⟩)) rfl (by kernel_rfl) (by kernel_rfl) (by kernel_rfl) (wanted_of rfl rfl rfl (bb := false) (by simp [EV])) rfl (fun _ _ _ h => h) HS (fun v hv => run_move rfl (by simp [EV]) v) ?_
  refine take_run_g (i := 6) (u := .pointer (some ⟨g, 0, none⟩)) rfl (by kernel_rfl) (by kernel_rfl) (by kernel_rfl) (wanted_of rfl rfl rfl (bb := false) (by simp [EV])) rfl (fun _ _ _ h => h) HS (fun v hv => run_nilc rfl (by simp [EV])) ?_
  refine take_run_g (i := 7) (u := .pointer (some ⟨g, 0, none⟩)) rfl (by kernel_rfl) (by kernel_rfl) (by kernel_rfl) (wanted_of rfl rfl rfl (bb := false) (by simp [EV])) rfl (fun _ _ _ h => h) HS (fun v hv => run_field (s := .pointer (some ⟨g, 0, none⟩)) rfl (by simp [EV]) (by kernel_rfl)) ?_
  refine take_run_g (i := 8) (u := .slice (some ⟨hh, off, none⟩) L.length cap) rfl (by kernel_rfl) (by kernel_rfl) (by kernel_rfl) (wanted_of rfl rfl rfl (bb := false) (by simp [EV])) rfl (fun _ _ _ h => h) HS (fun v hv => run_load1 (s := .pointer (some ⟨g, 0, none⟩)) rfl (by simp [EV]) (by have c : v.cell? ⟨g, 0, none⟩ = some (.slice (some ⟨hh, off, none⟩) L.length cap) := hv.1.B.cell 0; go_simp)) ?_
  refine take_run_g (i := 9) (u := .int .i64 (k : Nat)) rfl (by kernel_rfl) (by kernel_rfl) (by kernel_rfl) (wanted_of rfl rfl rfl (bb := false) (by simp [EV])) rfl (fun _ _ _ h => h) HS (fun v hv => run_move rfl (by simp [EV]) v) ?_
  refine take_run_g (i := 10) (u := .pointer (some ⟨hh, off + k * 15, none⟩)) rfl (by kernel_rfl) (by kernel_rfl) (by kernel_rfl) (wanted_of rfl rfl rfl (bb := false) (by simp [EV])) rfl (fun _ _ _ h => h) HS (fun v hv => run_index (s := .slice (some ⟨hh, off, none⟩) L.length cap) (j := .int .i64 (k : Nat)) rfl (by simp [EV]) (by simp [EV]) (by go_simp)) ?_
  refine take_run_g (i := 11) (u := .agg (px x)) rfl (by kernel_rfl) (by kernel_rfl) (by kernel_rfl) (wanted_of rfl rfl rfl (bb := false) (by simp [EV])) rfl (fun _ _ _ h => h) HS (fun v hv => run_load_at rfl (h := hh) (off := off + k * 15) (cs := px x) (by simp [EV]) _ Try.underlying113 rfl szP (pw_cel hv.1 hx)) ?_
  refine take_run_g (i := 12) (u := .agg (pza a b)) rfl (by kernel_rfl) (by kernel_rfl) (by kernel_rfl) (wanted_of rfl rfl rfl (bb := false) (by simp [EV])) rfl (fun _ _ _ h => h) HS (fun v hv => run_load_at rfl (h := xb) (off := 0) (cs := (pza a b)) (by simp [EV]) _ Try.underlying113 rfl szP hv.2) ?_
  refine step_calls_g (i := 13) (by kernel_rfl) rfl (wanted_of rfl rfl rfl (bb := false) (by simp [EV])) rfl 120 Try.f120 _ _ rfl Try.func120 (by kernel_rfl) (by kernel_rfl) #[.agg (px x), .agg (pza a b)] (by simp [EV]) (hsame w1.drew) (fun w3 hb3 => ?_)
  have HS3 : Pw b0 g L f (.slice (some ⟨hh, off, none⟩) L.length cap) w3 ∧ Cel w3 xb 0 (pza a b) := ⟨HS.1.below hb3 (Nat.le_refl _), HS.2.below hb3 HS.2.lt⟩
  refine ⟨HS3, ?_⟩
  refine take_run_g (i := 14) (u := .bool true) rfl (by kernel_rfl) (by kernel_rfl) (by kernel_rfl) (wanted_of rfl rfl rfl (bb := false) (by simp [EV])) rfl (fun _ _ _ h => h) HS3 (fun v hv => run_not (b := false) rfl (by simp [EV])) ?_
  refine take_run (i := 15) (u := .bool true) rfl (by kernel_rfl) (by kernel_rfl) (by kernel_rfl) rfl rfl (fun _ _ _ h => h) HS3 (fun v hv => run_pick (b := false) rfl (by simp [EV]) (by simp [EV])) ?_
  refine wpAnyH_done (by kernel_rfl) ?_ _
  refine NoPanic.normal ?_
  rw [HB.out]
  simp only [Act.put, List.setIfInBounds_toArray, List.set_cons_zero, List.set_cons_succ]
  have bel3 := bel.drew.trans (hb3.mono (by have := bel.size; rw [HXB.out] at this; exact this))
  clear HS h1 HB EV e0 e1 e5 hsz bel hb3 Y1
  go_wp2_with fail
  go_ret
  exact ⟨rfl, by rw [HXB.out]; exact bel3⟩
set_option maxHeartbeats 4000000 in
theorem set_ok {v0 : Value} (h : Pw b0 g L f v0 w) (hb0 : b0 ≤ w.heap.size) {k : Nat} {x : Px} (hx : L[k]? = some x) (y : Px) (ha : x.a = y.a) (hb : x.b = y.b) : Calls Try.prog 72 #[.pointer (some ⟨g, 0, none⟩), .int .i64 (k : Nat), .agg (px y)] w fun e w' => e = .returned (.bool true) ∧ Pw b0 g (L.set k y) f v0 w' ∧ Below b0 w w' ∧ Fr g v0 w w' := by
  have hsame : ∀ W, Calls Try.prog 120 #[.agg (px x), .agg (px y)] W fun e w' => e = .returned (.bool true) ∧ Below W.heap.size W w' := fun W => (samex x y.a y.b (px y) rfl rfl W).mono fun e w' h => ⟨h.1.trans (ret_bool (by simp [ha, hb])), h.2⟩
  obtain ⟨oa, cap, hv, _, hcm⟩ := h.q.shape
  subst hv
  obtain ⟨hh, off, hoa, hhl, hbh, hblk, X⟩ := row_at h.q rfl hx
  subst hoa
  have hk : k < L.length := (List.getElem?_eq_some_iff.1 hx).1
  have hk2 : (k : Int) < (L.length : Int) := by omega
  have hk0 : (0 : Int) ≤ (k : Int) := by omega
  have h1 := h.alloc (.cells (px y) 113)
  have Y1 := Cel.of_blk (Blk.new w 113 (px y))
  have bel := (Below.refl w.heap.size w).alloc (Nat.le_refl _) (.cells (px y) 113)
  have hxb : w.heap.size ≠ hh := by omega
  have hxg : w.heap.size ≠ g := by have := h.B.lt; omega
  clear h X
  go_enter Try.func72, Try.ntmps72
  go_upto_region 1 with fail
  obtain ⟨w1, hw1⟩ : ∃ w1, w.alloc (.cells (px y) 113) = w1 := ⟨_, rfl⟩
  rw [hw1] at h1 bel Y1
  try rw [hw1]
  clear hw1
  obtain ⟨xb, hxb'⟩ : ∃ xb, w.heap.size = xb := ⟨_, rfl⟩
  have HXB := Lib.hid hxb'
  rw [hxb'] at Y1 hxb hxg bel
  try rw [hxb']
  clear hxb'
  refine wp_region_noPanic ?_
  have HS : Pw b0 g L f (.slice (some ⟨hh, off, none⟩) L.length cap) w1.drew ∧ Cel w1.drew xb 0 (px y) := ⟨h1.drew, Y1.drew⟩
  refine wp_region_held_drew (S := fun v => Pw b0 g L f (.slice (some ⟨hh, off, none⟩) L.length cap) v ∧ Cel v xb 0 (px y)) (by kernel_rfl) HS (fun _ => ?_)
  refine wpAnyH_abs _ (fun ac hac => ?_)
  have hsz : ac.tmps.size = 30 := by rw [hac]; rfl
  have e0 : ac.eval (.tmp 0) = .pointer (some ⟨g, 0, none⟩) := by rw [hac]; rfl
  have e1 : ac.eval (.tmp 1) = .int .i64 (k : Nat) := by rw [hac]; rfl
  have e5 : ac.eval (.tmp 5) = .pointer (some ⟨xb, 0, none⟩) := by rw [hac]; rfl
  have HB := Lib.hid hac
  clear hac
  have EV := And.intro @Act.eval_put_ne (And.intro @Act.eval_put_same (And.intro @Act.size_put (And.intro hsz (And.intro e0 (And.intro e1 e5)))))
  refine take_run (i := 0) (u := .pointer (some ⟨g, 0, none⟩)) rfl (by kernel_rfl) (by kernel_rfl) (by kernel_rfl) rfl rfl (fun _ _ _ h => h) HS (fun v hv => run_move rfl (by simp [EV]) v) ?_
  refine take_run (i := 1) (u := .int .i64 (k : Nat)) rfl (by kernel_rfl) (by kernel_rfl) (by kernel_rfl) rfl rfl (fun _ _ _ h => h) HS (fun v hv => run_move rfl (by simp [EV]) v) ?_
  refine step_calls (i := 2) (by kernel_rfl) rfl rfl rfl 119 Try.f119 _ _ rfl Try.func119 (by kernel_rfl) (by kernel_rfl) #[.pointer (some ⟨g, 0, none⟩), .int .i64 (k : Nat)] (by simp [EV]) (has_in HS.1 k hk) ?_
  rintro e w2 ⟨rfl, hw2⟩
  obtain rfl := hw2
  refine ⟨_, rfl, HS, ?_⟩
  refine take_run (i := 3) (u := .bool false) rfl (by kernel_rfl) (by kernel_rfl) (by kernel_rfl) rfl rfl (fun _ _ _ h => h) HS (fun v hv => run_not (b := true) rfl (by simp [EV])) ?_
  refine take_run (i := 4) (u := .bool false) rfl (by kernel_rfl) (by kernel_rfl) (by kernel_rfl) rfl rfl (fun _ _ _ h => h) HS (fun v hv => run_move rfl (by simp [EV]) v) ?_
  refine take_run_g (i := 5) (u := .pointer (some ⟨g, 0, none⟩)) rfl (by kernel_rfl) (by kernel_rfl) (by kernel_rfl) (wanted_of rfl rfl rfl (bb := false) (by simp [EV])) rfl (fun _ _ _ h => h) HS (fun v hv => run_move rfl (by simp [EV]) v) ?_
  refine take_run_g (i := 6) (u := .pointer (some ⟨g, 0, none⟩)) rfl (by kernel_rfl) (by kernel_rfl) (by kernel_rfl) (wanted_of rfl rfl rfl (bb := false) (by simp [EV])) rfl (fun _ _ _ h => h) HS (fun v hv => run_nilc rfl (by simp [EV])) ?_
  refine take_run_g (i := 7) (u := .pointer (some ⟨g, 0, none⟩)) rfl (by kernel_rfl) (by kernel_rfl) (by kernel_rfl) (wanted_of rfl rfl rfl (bb := false) (by simp [EV])) rfl (fun _ _ _ h => h) HS (fun v hv => run_field (s := .pointer (some ⟨g, 0, none⟩)) rfl (by simp [EV]) (by kernel_rfl)) ?_
  refine take_run_g (i := 8) (u := .slice (some ⟨hh, off, none⟩) L.length cap) rfl (by kernel_rfl) (by kernel_rfl) (by kernel_rfl) (wanted_of rfl rfl rfl (bb := false) (by simp [EV])) rfl (fun _ _ _ h => h) HS (fun v hv => run_load1 (s := .pointer (some ⟨g, 0, none⟩)) rfl (by simp [EV]) (by have c : v.cell? ⟨g, 0, none⟩ = some (.slice (some ⟨hh, off, none⟩) L.length cap) := hv.1.B.cell 0; go_simp)) ?_
  refine take_run_g (i := 9) (u := .int .i64 (k : Nat)) rfl (by kernel_rfl) (by kernel_rfl) (by kernel_rfl) (wanted_of rfl rfl rfl (bb := false) (by simp [EV])) rfl (fun _ _ _ h => h) HS (fun v hv => run_move rfl (by simp [EV]) v) ?_
  refine take_run_g (i := 10) (u := .pointer (some ⟨hh, off + k * 15, none⟩)) rfl (by kernel_rfl) (by kernel_rfl) (by kernel_rfl) (wanted_of rfl rfl rfl (bb := false) (by simp [EV])) rfl (fun _ _ _ h => h) HS (fun v hv => run_index (s := .slice (some ⟨hh, off, none⟩) L.length cap) (j := .int .i64 (k : Nat)) rfl (by simp [EV]) (by simp [EV]) (by go_simp)) ?_
  refine take_run_g (i := 11) (u := .agg (px x)) rfl (by kernel_rfl) (by kernel_rfl) (by kernel_rfl) (wanted_of rfl rfl rfl (bb := false) (by simp [EV])) rfl (fun _ _ _ h => h) HS (fun v hv => run_load_at rfl (h := hh) (off := off + k * 15) (cs := px x) (by simp [EV]) _ Try.underlying113 rfl szP (pw_cel hv.1 hx)) ?_
  refine take_run_g (i := 12) (u := .agg (px y)) rfl (by kernel_rfl) (by kernel_rfl) (by kernel_rfl) (wanted_of rfl rfl rfl (bb := false) (by simp [EV])) rfl (fun _ _ _ h => h) HS (fun v hv => run_load_at rfl (h := xb) (off := 0) (cs := (px y)) (by simp [EV]) _ Try.underlying113 rfl szP hv.2) ?_
  refine step_calls_g (i := 13) (by kernel_rfl) rfl (wanted_of rfl rfl rfl (bb := false) (by simp [EV])) rfl 120 Try.f120 _ _ rfl Try.func120 (by kernel_rfl) (by kernel_rfl) #[.agg (px x), .agg (px y)] (by simp [EV]) (hsame w1.drew) (fun w3 hb3 => ?_)
  have HS3 : Pw b0 g L f (.slice (some ⟨hh, off, none⟩) L.length cap) w3 ∧ Cel w3 xb 0 (px y) := ⟨HS.1.below hb3 (Nat.le_refl _), HS.2.below hb3 HS.2.lt⟩
  refine ⟨HS3, ?_⟩
  refine take_run_g (i := 14) (u := .bool false) rfl (by kernel_rfl) (by kernel_rfl) (by kernel_rfl) (wanted_of rfl rfl rfl (bb := false) (by simp [EV])) rfl (fun _ _ _ h => h) HS3 (fun v hv => run_not (b := true) rfl (by simp [EV])) ?_
  refine take_run (i := 15) (u := .bool false) rfl (by kernel_rfl) (by kernel_rfl) (by kernel_rfl) rfl rfl (fun _ _ _ h => h) HS3 (fun v hv => run_pick (b := false) rfl (by simp [EV]) (by simp [EV])) ?_
  refine wpAnyH_done (by kernel_rfl) ?_ _
  refine NoPanic.normal ?_
  rw [HB.out]
  simp only [Act.put, List.setIfInBounds_toArray, List.set_cons_zero, List.set_cons_succ]
  have bel3 := bel.drew.trans (hb3.mono (by have := bel.size; rw [HXB.out] at this; exact this))
  clear HS h1 HB EV e0 e1 e5 hsz bel hb3 Y1
  go_upto_region 3 with fail
  refine wp_region_noPanic ?_
  have HS : Pw b0 g L f (.slice (some ⟨hh, off, none⟩) L.length cap) w3.drew ∧ Cel w3.drew xb 0 (px y) := ⟨HS3.1.drew, HS3.2.drew⟩
  refine begin_C (fun v => Pw b0 g L f (.slice (some ⟨hh, off, none⟩) L.length cap) v ∧ Cel v xb 0 (px y)) 7 (by kernel_rfl) ?_
  refine abs_C _ (fun ac hac => ?_)
  have hsz : ac.tmps.size = 30 := by rw [hac]; rfl
  have e0 : ac.eval (.tmp 0) = .pointer (some ⟨g, 0, none⟩) := by rw [hac]; rfl
  have e1 : ac.eval (.tmp 1) = .int .i64 (k : Nat) := by rw [hac]; rfl
  have e5 : ac.eval (.tmp 5) = .pointer (some ⟨xb, 0, none⟩) := by rw [hac]; rfl
  have HB := Lib.hid hac
  clear hac
  have EV := And.intro @Act.eval_put_ne (And.intro @Act.eval_put_same (And.intro @Act.size_put (And.intro hsz (And.intro e0 (And.intro e1 e5)))))
  refine take_Y (i := 0) (u := .pointer (some ⟨g, 0, none⟩)) rfl (by kernel_rfl) (by kernel_rfl) (by kernel_rfl) (by decide) rfl rfl (fun _ _ _ h => h) HS (fun v => run_move rfl (by simp [EV]) v) ?_
  refine take_Y (i := 1) (u := .pointer (some ⟨g, 0, none⟩)) rfl (by kernel_rfl) (by kernel_rfl) (by kernel_rfl) (by decide) rfl rfl (fun _ _ _ h => h) HS (fun v => run_nilc rfl (by simp [EV])) ?_
  refine take_Y (i := 2) (u := .pointer (some ⟨g, 0, none⟩)) rfl (by kernel_rfl) (by kernel_rfl) (by kernel_rfl) (by decide) rfl rfl (fun _ _ _ h => h) HS (fun v => run_field (s := .pointer (some ⟨g, 0, none⟩)) rfl (by simp [EV]) (by kernel_rfl)) ?_
  refine take_C (i := 3) [6] (u := .slice (some ⟨hh, off, none⟩) L.length cap) rfl (by kernel_rfl) (by kernel_rfl) (by kernel_rfl) (by kernel_rfl) (by kernel_rfl) (by decide) rfl rfl (fun _ _ _ h => h) HS (fun v hv => run_load1 (s := .pointer (some ⟨g, 0, none⟩)) rfl (by simp [EV]) (by have c : v.cell? ⟨g, 0, none⟩ = some (.slice (some ⟨hh, off, none⟩) L.length cap) := hv.1.B.cell 0; go_simp)) ?_
  refine take_Y (i := 4) (u := .int .i64 (k : Nat)) rfl (by kernel_rfl) (by kernel_rfl) (by kernel_rfl) (by decide) rfl rfl (fun _ _ _ h => h) HS (fun v => run_move rfl (by simp [EV]) v) ?_
  refine take_C (i := 5) [] (u := .agg (px y)) rfl (by kernel_rfl) (by kernel_rfl) (by kernel_rfl) (by kernel_rfl) (by kernel_rfl) (by decide) rfl rfl (fun _ _ _ h => h) HS (fun v hv => run_load_at rfl (h := xb) (off := 0) (cs := px y) (by simp [EV]) _ Try.underlying113 rfl szP hv.2) ?_
  refine take_Y (i := 6) (u := .pointer (some ⟨hh, off + k * 15, none⟩)) rfl (by kernel_rfl) (by kernel_rfl) (by kernel_rfl) (by decide) rfl rfl (fun _ _ _ h => h) HS (fun v => run_index (s := .slice (some ⟨hh, off, none⟩) L.length cap) (j := .int .i64 (k : Nat)) rfl (by simp [EV]) (by simp [EV]) (by go_simp)) ?_
  refine store_C (i := 7) (p := .pointer (some ⟨hh, off + k * 15, none⟩)) (u := .agg (px y)) (w' := w3.drew.setCells hh (off + k * 15) (px y).toList) (by kernel_rfl) rfl rfl rfl rfl (by simp [EV]) (by simp [EV]) (fun h => absurd rfl h) (run_store_at 113 (cs := px y) (pw_cel HS.1 hx) szP rfl (oneP y.a y.b y.s)) ?_
  refine done_C (by kernel_rfl) ?_ _
  refine NoPanic.normal ?_
  rw [HB.out]
  simp only [Act.put, List.setIfInBounds_toArray, List.set_cons_zero, List.set_cons_succ]
  have hgh : g ≠ hh := fun e => HS.1.hn (by rw [hblk, e])
  have bel4 : Below b0 w (w3.drew.setCells hh (off + k * 15) (px y).toList) := below_setCells ((bel3.drew.mono (by rw [← HXB.out]; exact hb0))) hbh _ _
  have P4 : Pw b0 g (L.set k y) f (.slice (some ⟨hh, off, none⟩) L.length cap) (w3.drew.setCells hh (off + k * 15) (px y).toList) := ⟨blk_setCells HS.1.B hgh _ _, by
    have := qo_setCells (px y).toList (k * 15) _ _ HS.1.q (by rw [px_len]; omega)
    rw [List.length_set, cellsX_set y L k hk]
    exact this, HS.1.hg, HS.1.hn⟩
  have F4 : Fr g (.slice (some ⟨hh, off, none⟩) L.length cap) w (w3.drew.setCells hh (off + k * 15) (px y).toList) := ⟨bel4.size, fun i hi h1 h2 => (heap_setCells' (show i ≠ hh from fun e => h2 (by rw [hblk, e])) _ _ _).trans (bel3.drew.block i (by rw [← HXB.out]; exact hi))⟩
  have HE := Lib.hid (And.intro P4 (And.intro bel4 F4))
  clear P4 bel4 F4 HS HB EV HS3 bel3 e0 e1 e5 hsz
  obtain ⟨w5, hw5⟩ : ∃ w5, w3.drew.setCells hh (off + k * 15) (px y).toList = w5 := ⟨_, rfl⟩
  rw [hw5] at HE
  try rw [hw5]
  clear hw5
  go_wp2_with fail
  go_ret
  exact ⟨rfl, HE.out⟩
end
end Go.Proofs.Ythddacgdmngfhaa.pat
