/- Layer 40: what a receiver has of one object's pieces, and which came. -/
import Derived.Test.YthddacgdmngfhaaTkD
namespace Go.Proofs.Ythddacgdmngfhaa.fil
open Go.Sort (grow)
open Go.ChangeShapes Go.WideShapes Go.ChangeAt Go.RowKit kit oct byt
set_option maxRecDepth 100000

/-- How many of M pieces did not come. -/
def lft (M : Nat) (S : List Nat) : Nat := (List.range M).countP (fun j => decide (j ∉ S))
theorem lft_succ (M : Nat) (S : List Nat) : lft (M + 1) S = lft M S + if M ∈ S then 0 else 1 := by
  unfold lft
  rw [List.range_succ, List.countP_append, List.countP_singleton]
  by_cases h : M ∈ S <;> simp [h]
theorem lft_nil : ∀ M, lft M [] = M
  | 0 => rfl
  | M + 1 => by rw [lft_succ, lft_nil M]; simp
theorem lft_le (M : Nat) (S : List Nat) : lft M S ≤ M := by
  have := List.countP_le_length (p := fun j => decide (j ∉ S)) (l := List.range M)
  rw [List.length_range] at this
  exact this
theorem lft_same (M : Nat) {S T : List Nat} (h : ∀ x, x ∈ S ↔ x ∈ T) : lft M S = lft M T := by
  unfold lft
  congr 1
  funext j
  simp [h]
theorem lft_more {q : Nat} {S T : List Nat} (h : ∀ x, x ∈ T ↔ x = q ∨ x ∈ S) (hq : q ∉ S) : ∀ M, lft M S = lft M T + if q < M then 1 else 0
  | 0 => rfl
  | M + 1 => by
    rw [lft_succ, lft_succ, lft_more h hq M]
    by_cases h1 : M = q
    · subst h1
      rw [if_neg (Nat.lt_irrefl M), if_neg hq, if_pos ((h M).2 (.inl rfl)), if_pos (by omega)]
    · by_cases h2 : M ∈ S
      · rw [if_pos h2, if_pos ((h M).2 (.inr h2))]
        by_cases h3 : q < M
        · rw [if_pos h3, if_pos (by omega)]
        · rw [if_neg h3, if_neg (by omega)]
      · rw [if_neg h2, if_neg (fun e => (h M).1 e |>.elim h1 h2)]
        by_cases h3 : q < M
        · rw [if_pos h3, if_pos (by omega)]; try omega
        · rw [if_neg h3, if_neg (by omega)]; try omega
theorem lft_zero (M : Nat) (S : List Nat) : lft M S = 0 ↔ ∀ j, j < M → j ∈ S := by
  unfold lft
  rw [List.countP_eq_zero]
  simp
/-- All is there just if no piece is missing. -/
theorem cov_lft (z : Nat) (S : List Nat) (h0 : 0 ∈ S ∨ 0 < z) : cov z S = z ↔ lft (max 1 ((z + 499) / 500)) S = 0 := by
  rw [lft_zero, cov_full]
  constructor
  · intro h j hj
    by_cases hz : 0 < z
    · have := h (j * 500) (by omega)
      rwa [show j * 500 / 500 = j by omega] at this
    · have : j = 0 := by omega
      subst this
      exact h0.elim id (fun h => absurd h hz)
  · intro h j hj
    exact h (j / 500) (by omega)
/-- Which pieces came, as a row. -/
def cams (M : Nat) (S : List Nat) : Array Value := ((List.range M).map fun j => Value.bool (decide (j ∈ S))).toArray
theorem cams_size (M : Nat) (S : List Nat) : (cams M S).size = M := by simp [cams]
theorem cams_get (M : Nat) (S : List Nat) (j : Nat) (h : j < M) : (cams M S)[j]? = some (.bool (decide (j ∈ S))) := by
  simp [cams, h]
theorem cams_set (M : Nat) {q : Nat} {S T : List Nat} (h : ∀ x, x ∈ T ↔ x = q ∨ x ∈ S) : (cams M S).setIfInBounds q (.bool true) = cams M T := by
  apply Array.ext_getElem?
  intro j
  by_cases hj : j < M
  · rw [cams_get M T j hj]
    by_cases hq : q = j
    · subst hq
      rw [Array.getElem?_setIfInBounds_self_of_lt (by rw [cams_size]; exact hj), decide_eq_true ((h q).2 (.inl rfl))]
    · rw [Array.getElem?_setIfInBounds_ne hq, cams_get M S j hj]
      have : (j ∈ S) = (j ∈ T) := by
        rw [h j]
        simp [Ne.symm hq]
      simp only [this]
  · rw [Array.getElem?_eq_none (by simp [cams_size]; omega), Array.getElem?_eq_none (by rw [cams_size]; omega)]
theorem cams_same (M : Nat) {S T : List Nat} (h : ∀ x, x ∈ T ↔ x ∈ S) : cams M S = cams M T := by
  apply Array.ext_getElem?
  intro j
  by_cases hj : j < M
  · rw [cams_get M T j hj, cams_get M S j hj]
    simp [h]
  · rw [Array.getElem?_eq_none (by rw [cams_size]; omega), Array.getElem?_eq_none (by rw [cams_size]; omega)]
theorem made_cams (M : Nat) : madeCells #[Value.bool false] M = cams M [] := by
  apply Array.ext_getElem?
  intro j
  by_cases hj : j < M
  · rw [cams_get M [] j hj]
    simp [madeCells, hj, Nat.mod_one]
  · rw [Array.getElem?_eq_none (by simp [madeCells]; omega), Array.getElem?_eq_none (by rw [cams_size]; omega)]
theorem cam_run (m : Nat) (w : World) (hm : m ≤ 1000000) : (Instr.makeSlice 65 (.int .i64 m) (.int .i64 m)).run Try.prog w = .ok (.slice (some ⟨w.heap.size, 0, none⟩) m m) (w.alloc (.cells (cams m []) 4)) := by
  have h : (Try.prog.info? 4).map (fun i => (i.zero, i.size, i.bytes)) = some (some (.bool false), 1, 1) := by kernel_rfl
  cases hi : Try.prog.info? 4 with
  | none => rw [hi] at h; cases h
  | some i =>
    rw [hi] at h
    simp only [Option.map_some, Option.some.injEq, Prod.mk.injEq] at h
    obtain ⟨h1, h2, h3⟩ := h
    have := run_make w 65 4 i (.bool false) Try.underlying65 hi h1 .i64 .i64 m m (by omega) (by omega) (by rw [h3]; omega) (by omega)
    rw [this, h2, ← made_cams]
    simp [Value.cells]
/-- A receiver that has these pieces of object 9, and a block beside. -/
structure Rx (b0 g m z cb : Nat) (D : ByteArray) (S : List Nat) (w : World) : Prop where
  nd : S.Nodup
  lt : S ≠ [] → ∀ x ∈ S, x * 500 < z
  gc : g ≠ cb ∧ m ≠ cb
  rx : (S = [] ∧ Rv b0 g m #[] 0 w) ∨ (S ≠ [] ∧ ∃ (k : Nat) (ps : Array MapEntry), Rv b0 g m #[⟨.int .u32 (9 : Nat), .agg #[.int .i64 z, .map (some k)], 0⟩] 1 w ∧ MapB w k ps S.length ∧ ps.toList = ents (9 : Nat) D 0 S ∧ b0 ≤ k ∧ k ≠ g ∧ k ≠ m ∧ k ≠ cb)
theorem Rv.block' {b0 g m c : Nat} {es : Array MapEntry} {w w' : World} (q : Rv b0 g m es c w) (hb : ∀ b, b = g ∨ b = m → w'.heap[b]? = w.heap[b]?) : Rv b0 g m es c w' :=
  ⟨(hb g (.inl rfl)).trans q.B, (hb m (.inr rfl)).trans q.M, q.hg, q.hm, q.ne⟩
theorem Rx.frame {b0 g m z cb : Nat} {D : ByteArray} {S : List Nat} {w w' : World} (h : Rx b0 g m z cb D S w) (hb : ∀ b, b < w.heap.size → b ≠ cb → w'.heap[b]? = w.heap[b]?) : Rx b0 g m z cb D S w' := by
  refine ⟨h.nd, h.lt, h.gc, ?_⟩
  rcases h.rx with ⟨h1, h2⟩ | ⟨h1, k, ps, h2, h3, h4, h5, h6, h7, h8⟩
  · exact .inl ⟨h1, h2.block' fun b hq => hb b (by rcases hq with rfl | rfl; exact h2.B.lt; exact h2.M.lt) (by rcases hq with rfl | rfl; exact h.gc.1; exact h.gc.2)⟩
  · exact .inr ⟨h1, k, ps, h2.block' fun b hq => hb b (by rcases hq with rfl | rfl; exact h2.B.lt; exact h2.M.lt) (by rcases hq with rfl | rfl; exact h.gc.1; exact h.gc.2), (hb k h3.lt h8).trans h3, h4, h5, h6, h7, h8⟩
theorem Rx.below {b0 g m z cb k : Nat} {D : ByteArray} {S : List Nat} {w w' : World} (h : Rx b0 g m z cb D S w) (hb : Below k w w') (hk : w.heap.size ≤ k) : Rx b0 g m z cb D S w' :=
  h.frame fun b hb' _ => hb.block b (Nat.lt_of_lt_of_le hb' hk)
theorem Rx.far {b0 g m z cb : Nat} {D : ByteArray} {S : List Nat} {w : World} (h : Rx b0 g m z cb D S w) (o : Nat) (v : Value) : Rx b0 g m z cb D S (w.setCell ⟨cb, o, none⟩ v) :=
  h.frame fun b _ hne => Below.heap_setCell w ⟨cb, o, none⟩ v b hne
theorem Rx.size {b0 g m z cb : Nat} {D : ByteArray} {S : List Nat} {w : World} (h : Rx b0 g m z cb D S w) : b0 ≤ w.heap.size ∧ g < w.heap.size := by
  rcases h.rx with ⟨h1, h2⟩ | ⟨h1, k, ps, h2, _⟩ <;> exact ⟨by have := h2.B.lt; have := h2.hg; omega, h2.B.lt⟩
theorem Rx.len_ {b0 g m z cb : Nat} {D : ByteArray} {S : List Nat} {w : World} (h : Rx b0 g m z cb D S w) : Calls Try.prog 36 #[.pointer (some ⟨g, 0, none⟩)] w fun e w' => e = .returned (.int .i64 (if S = [] then 0 else 1)) ∧ w' = w := by
  rcases h.rx with ⟨h1, h2⟩ | ⟨h1, k, ps, h2, _⟩
  · have := len_rv w h2
    rw [if_pos h1]
    exact this
  · have := len_rv w h2
    rw [if_neg h1]
    exact this
theorem pcD_all (D : ByteArray) (h : D.size ≤ 500) : pcD D 0 = D := by
  unfold pcD
  apply ByteArray.ext
  rw [ByteArray.data_extract]
  apply Array.ext_getElem?
  intro j
  have hDs : D.data.size = D.size := rfl
  rw [Array.getElem?_extract]
  by_cases hj : j < D.data.size
  · rw [if_pos (by omega)]; simp
  · rw [if_neg (by omega), Array.getElem?_eq_none (by omega)]
/-- A piece taken. -/
theorem take_x {b0 g m z cb : Nat} {D : ByteArray} {S : List Nat} {w : World} (h : Rx b0 g m z cb D S w) (hD : D.size = z) (hz : z ≤ 4095) (hcb : cb < w.heap.size) (q : Nat) (hq : q < max 1 ((z + 499) / 500)) :
    Calls Try.prog 34 #[.pointer (some ⟨g, 0, none⟩), .string (pcsK 9 D q)] w fun e w' => ∃ S' : List Nat, (∀ x, x ∈ S' ↔ x = q ∨ x ∈ S) ∧ w'.heap[cb]? = w.heap[cb]? ∧ Below b0 w w' ∧ cb < w'.heap.size ∧
      ((cov z S' = z ∧ e = .returned (.tuple #[.agg #[.int .u32 (9 : Nat), .string D], .bool true, .int .i64 0]) ∧ ∃ c, Rv b0 g m #[] c w') ∨
       (cov z S' ≠ z ∧ e = .returned (.tuple #[.agg #[.int .u32 (0 : Nat), .string ⟨#[]⟩], .bool false, .int .i64 0]) ∧ Rx b0 g m z cb D S' w')) := by
  have hqk : q * 500 < D.size ∨ q = 0 := by omega
  obtain ⟨k1, k2, k3⟩ := pcsK_ok 9 q D (by omega) hqk (by omega)
  have hds := pcD_size D q
  rcases h.rx with ⟨hS, r⟩ | ⟨hS, k, ps, r, hM, hps, hk1, hk2, hk3, hk4⟩
  · subst hS
    have hmem : ∀ x, x ∈ [q] ↔ x = q ∨ x ∈ ([] : List Nat) := fun x => by simp
    by_cases hz5 : z ≤ 500
    · have hq0 : q = 0 := by omega
      subst hq0
      have hp0 : pcD D 0 = D := pcD_all D (by omega)
      rw [hp0] at k2 hds
      refine (take_one 9 z 0 D (pcsK 9 D 0) w r k3 k1 (by first | (rw [k2, hD]; done) | (rw [k2, hD]; rfl)) (by omega) (by omega) (by omega) hD (by simp) rfl).mono ?_
      rintro e w' ⟨rfl, r', ho, hb⟩
      refine ⟨[0], hmem, ?_, hb, ?_, .inl ⟨?_, ?_, 0, r'⟩⟩
      · exact ho cb hcb (Ne.symm h.gc.2)
      · exact Nat.lt_of_lt_of_le hcb hb.size
      · rw [cov_lft z [0] (.inl (by simp)), lft_zero]
        intro j hj
        have : j = 0 := by omega
        subst this
        simp
      · have hw : whl z 0 D = D := by rw [← hD]; exact whl_all D
        rw [hw]
    · have hdz : (pcD D q).size ≠ z := by omega
      refine (take_first 9 z (q * 500) (pcD D q) (pcsK 9 D q) w r k3 k1 (by rw [k2, hD]) (by omega) (by omega) (by omega) hdz (by simp) rfl).mono ?_
      rintro e w' ⟨rfl, ⟨k, r', M', hk1, hk2, hk3, hk4⟩, ho, hb⟩
      have hcov : cov z [q] ≠ z := by
        have := cov_cons q [] (by simp) z
        rw [cov_nil] at this
        omega
      refine ⟨[q], hmem, ho cb hcb (Ne.symm h.gc.2), hb, Nat.lt_of_lt_of_le hcb hb.size, .inr ⟨hcov, rfl, ⟨by simp, fun _ x hx => ?_, h.gc, .inr ⟨by simp, k, _, r', M', ?_, hk1, hk2, hk3, ?_⟩⟩⟩⟩
      · have : x = q := by simpa using hx
        subst this
        omega
      · rw [← hD]; rfl
      · omega
  · have hlt := h.lt hS
    refine (take_more 9 z q w r (by omega) k3 k1 (by rw [k2, hD]) hD (by
      obtain ⟨x, hx⟩ := List.exists_mem_of_ne_nil S hS
      have := hlt x hx
      omega) (by omega) hM hps h.nd hlt ⟨hk1, hk2, hk3⟩).mono ?_
    rintro e w' ⟨S', hn', hm', hb, ho, hcase⟩
    refine ⟨S', hm', ho cb hcb (Ne.symm h.gc.2) (Ne.symm hk4), hb, Nat.lt_of_lt_of_le hcb hb.size, ?_⟩
    rcases hcase with ⟨h1, h2, h3⟩ | ⟨h1, h2, h3, ps', h4, h5⟩
    · exact .inl ⟨h1, h2, 1, h3⟩
    · refine .inr ⟨h1, h2, ⟨hn', fun _ x hx => ?_, h.gc, .inr ⟨?_, k, ps', h3, h4, h5, hk1, hk2, hk3, hk4⟩⟩⟩
      · rcases (hm' x).1 hx with e | e
        · subst e
          obtain ⟨y, hy⟩ := List.exists_mem_of_ne_nil S hS
          have := hlt y hy
          omega
        · exact hlt x e
      · intro e
        have := (hm' q).2 (.inl rfl)
        rw [e] at this
        cases this
end Go.Proofs.Ythddacgdmngfhaa.fil
