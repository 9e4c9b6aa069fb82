/- Layer 40: which bytes of an object lie in the pieces that came. -/
import Derived.Test.YthddacgdmngfhaaFilC
namespace Go.Proofs.Ythddacgdmngfhaa.fil
open Go.ChangeShapes Go.WideShapes Go.ChangeAt Go.RowKit kit oct byt
set_option maxRecDepth 100000

/-- How many of n bytes lie in the pieces of these numbers. -/
def cov (n : Nat) (l : List Nat) : Nat := (List.range n).countP (fun j => decide (j / 500 ∈ l))
theorem cov_nil (n : Nat) : cov n [] = 0 := by unfold cov; rw [List.countP_eq_zero]; intro a _; simp
theorem cov_le (n : Nat) (l : List Nat) : cov n l ≤ n := by
  have := List.countP_le_length (p := fun j => decide (j / 500 ∈ l)) (l := List.range n)
  rw [List.length_range] at this
  exact this
theorem cov_succ (n : Nat) (l : List Nat) : cov (n + 1) l = cov n l + if n / 500 ∈ l then 1 else 0 := by
  unfold cov
  rw [List.range_succ, List.countP_append, List.countP_singleton]
  simp
theorem cov_cons (k : Nat) (l : List Nat) (h : k ∉ l) : ∀ n, cov n (k :: l) = cov n l + min 500 (n - k * 500)
  | 0 => by simp [cov]
  | n + 1 => by
    rw [cov_succ, cov_succ, cov_cons k l h n]
    by_cases h1 : n / 500 = k
    · have h2 : n / 500 ∉ l := by rw [h1]; exact h
      rw [if_pos (by simp [h1]), if_neg h2]
      omega
    · by_cases h2 : n / 500 ∈ l
      · rw [if_pos (by simp [h2]), if_pos h2]
        omega
      · rw [if_neg (by simp [h2, h1]), if_neg h2]
        omega
theorem cov_full (n : Nat) (l : List Nat) : cov n l = n ↔ ∀ j, j < n → j / 500 ∈ l := by
  have h : cov n l = (List.range n).length ↔ _ := List.countP_eq_length (p := fun j => decide (j / 500 ∈ l)) (l := List.range n)
  rw [List.length_range] at h
  rw [h]
  simp
theorem cov_same (n : Nat) {l m : List Nat} (h : ∀ k, k ∈ l ↔ k ∈ m) : cov n l = cov n m := by
  unfold cov
  congr 1
  funext j
  simp [h]
/-- The bytes of a piece of an object. -/
def pcD (D : ByteArray) (k : Nat) : ByteArray := D.extract (k * 500) (k * 500 + 500)
theorem pcD_size (D : ByteArray) (k : Nat) : (pcD D k).size = min 500 (D.size - k * 500) := by unfold pcD; rw [ByteArray.size_extract]; omega
theorem pcD_get (D : ByteArray) (k j : Nat) (h : j < (pcD D k).size) : (pcD D k).data.toList[j]? = D.data.toList[k * 500 + j]? := by
  have hz := pcD_size D k
  have h1 : k * 500 + j < D.size := by omega
  have h2 : j < 500 := by omega
  show (D.extract (k * 500) (k * 500 + 500)).data.toList[j]? = _
  rw [ByteArray.data_extract]
  simp only [Array.getElem?_toList]
  rw [Array.getElem?_extract]
  rw [if_pos (by have : D.data.size = D.size := rfl; omega)]
/-- Pieces in the order in which they came, as a map's entries. -/
def ents (i : Int) (D : ByteArray) : Nat → List Nat → List MapEntry
  | _, [] => []
  | j, k :: r => ⟨.int .i64 ((k * 500 : Nat) : Int), .agg (pc i D.size ((k * 500 : Nat) : Int) (pcD D k)), j⟩ :: ents i D (j + 1) r
theorem ents_len (i : Int) (D : ByteArray) : ∀ (S : List Nat) (j : Nat), (ents i D j S).length = S.length
  | [], _ => rfl
  | _ :: r, j => by simp [ents, ents_len i D r (j + 1)]
theorem ents_snoc (i : Int) (D : ByteArray) (k : Nat) : ∀ (S : List Nat) (j : Nat), ents i D j (S ++ [k]) = ents i D j S ++ [⟨.int .i64 ((k * 500 : Nat) : Int), .agg (pc i D.size ((k * 500 : Nat) : Int) (pcD D k)), j + S.length⟩]
  | [], j => by simp [ents]
  | x :: r, j => by
    simp only [List.cons_append, ents, ents_snoc i D k r (j + 1), List.length_cons]
    rw [show j + 1 + r.length = j + (r.length + 1) by omega]
theorem ents_mem (i : Int) (D : ByteArray) : ∀ (S : List Nat) (j : Nat) (e : MapEntry), e ∈ ents i D j S → ∃ n k, S[n]? = some k ∧ e = ⟨.int .i64 ((k * 500 : Nat) : Int), .agg (pc i D.size ((k * 500 : Nat) : Int) (pcD D k)), j + n⟩
  | [], _, e, h => by cases h
  | x :: r, j, e, h => by
    unfold ents at h
    rcases List.mem_cons.1 h with h | h
    · exact ⟨0, x, rfl, h⟩
    · obtain ⟨n, k, h1, h2⟩ := ents_mem i D r (j + 1) e h
      exact ⟨n + 1, k, h1, by rw [h2, show j + (n + 1) = j + 1 + n by omega]⟩
theorem ents_born (i : Int) (D : ByteArray) : ∀ (S : List Nat) (j : Nat), (ents i D j S).map (·.born) = List.range' j S.length
  | [], _ => rfl
  | x :: r, j => by
    simp only [ents, List.map_cons, List.length_cons, List.range'_succ]
    rw [ents_born i D r (j + 1)]
theorem ents_nodup (i : Int) (D : ByteArray) (S : List Nat) (j : Nat) : ((ents i D j S).map (·.born)).Nodup := by
  rw [ents_born]
  exact List.nodup_range'
theorem same_i64 (a b : Int) : Instr.sameNow (.int .i64) (.int .i64 a) (.int .i64 b) = some (decide (a = b)) := by
  simp [Instr.sameNow]
  rw [Bool.eq_iff_iff]
  simp
theorem ents_none (i : Int) (D : ByteArray) (q : Nat) : ∀ (S : List Nat) (j o : Nat), q ∉ S → Instr.findNow (.int .i64) (.int .i64 ((q * 500 : Nat) : Int)) (ents i D j S) o = some none
  | [], _, _, _ => rfl
  | x :: r, j, o, h => by
    unfold ents Instr.findNow
    have hne : ¬ ((q * 500 : Nat) : Int) = ((x * 500 : Nat) : Int) := by
      intro e
      apply h
      have : q = x := by omega
      rw [this]
      exact List.mem_cons_self
    rw [same_i64, decide_eq_false hne]
    exact ents_none i D q r (j + 1) (o + 1) (fun h' => h (List.mem_cons_of_mem _ h'))
theorem ents_some (i : Int) (D : ByteArray) (q : Nat) : ∀ (S : List Nat) (j o : Nat), q ∈ S → ∃ n, Instr.findNow (.int .i64) (.int .i64 ((q * 500 : Nat) : Int)) (ents i D j S) o = some (some (o + n, .agg (pc i D.size ((q * 500 : Nat) : Int) (pcD D q)))) ∧ (ents i D j S)[n]? = some ⟨.int .i64 ((q * 500 : Nat) : Int), .agg (pc i D.size ((q * 500 : Nat) : Int) (pcD D q)), j + n⟩
  | [], _, _, h => by cases h
  | x :: r, j, o, h => by
    by_cases hx : q = x
    · subst hx
      refine ⟨0, ?_, rfl⟩
      unfold ents Instr.findNow
      rw [same_i64, decide_eq_true rfl]
      rfl
    · have hne : ¬ ((q * 500 : Nat) : Int) = ((x * 500 : Nat) : Int) := by omega
      obtain ⟨n, h1, h2⟩ := ents_some i D q r (j + 1) (o + 1) (by rcases List.mem_cons.1 h with h | h; exact absurd h hx; exact h)
      refine ⟨n + 1, ?_, ?_⟩
      · unfold ents Instr.findNow
        rw [same_i64, decide_eq_false hne]
        show Instr.findNow _ _ (ents i D (j + 1) r) (o + 1) = _
        rw [h1, show o + 1 + n = o + (n + 1) by omega]
      · unfold ents
        rw [List.getElem?_cons_succ, h2, show j + 1 + n = j + (n + 1) by omega]
/-- An entry that is there written again. -/
theorem up_same {P : Program} {T K E : TypeId} {q : IntKind} {w : World} {B c : Nat} {es : Array MapEntry} {a : Int} (ht : P.underlying T = some (.map K E)) (hk : P.underlying K = some (.int q)) (hb : w.heap[B]? = some (.map es c)) (v : Value) {j b : Nat} (hf : Instr.findNow (.int q) (.int q a) es.toList 0 = some (some (j, v))) (hj : es.toList[j]? = some ⟨.int q a, v, b⟩) :
    (Instr.mapUpdate T (.map (some B)) (.int q a) v).run P w = .ok () w := by
  have hj' : es[j]? = some ⟨.int q a, v, b⟩ := by simpa using hj
  have he : es.modify j (fun e => { e with key := .int q a, val := v }) = es := by
    apply Array.toList_inj.1
    rw [Array.toList_modify, Go.ChangeMaps.modify_eq_set _ _ _ _ hj]
    apply List.ext_getElem?
    intro i
    by_cases hi : j = i
    · subst hi
      rw [List.getElem?_set_self (List.getElem?_eq_some_iff.1 hj).1, hj]
    · rw [List.getElem?_set_ne hi]
  have hw : ({ w with heap := w.heap.setIfInBounds B (.map es c) } : World) = w := by
    have e : w.heap.setIfInBounds B (.map es c) = w.heap := by
      apply Array.ext_getElem?
      intro i
      by_cases hi : i = B
      · subst hi
        exact (Go.MapKept.heap_set hb).1.trans hb.symm
      · exact (Go.MapKept.heap_set hb).2 i hi
    rw [e]
  simp [Instr.mapUpdate, run_underlying ht, Go.MapKept.run_getObj_map hb, Go.MapKept.run_checkKey hk (isKey_int q a), Go.MapKept.run_findKey hk hf, hj', Go.MapKept.run_keyThatStays (isKey_int q a), Go.MapKept.run_setObj_map _ hb, Result.andThen, he, hw]
/-- Which of the pieces were looked at. -/
structure Lk (n : Nat) (D : ByteArray) (S : List Nat) (seen : Array Nat) (T : List Nat) (l : List UInt8) : Prop where
  nd : T.Nodup
  sub : ∀ k ∈ T, k ∈ S
  iff : ∀ j k, S[j]? = some k → (seen.contains j = true ↔ k ∈ T)
  len : l.length = n
  eq : ∀ j, j < n → j / 500 ∈ T → l[j]? = D.data.toList[j]?
theorem Lk.nil {n : Nat} {D : ByteArray} {S : List Nat} {l : List UInt8} (h : l.length = n) : Lk n D S #[] [] l := ⟨List.nodup_nil, fun k h => (by cases h), fun j k _ => by simp, h, fun j _ h => (by cases h)⟩
theorem Lk.cons {n : Nat} {D : ByteArray} {S : List Nat} {seen : Array Nat} {T : List Nat} {l : List UInt8} (h : Lk n D S seen T l) (hS : S.Nodup) (hn : D.size = n) {j k : Nat} (hj : S[j]? = some k) (hk : seen.contains j = false) (hlt : k * 500 < n) : k ∉ T ∧ Lk n D S (seen.push j) (k :: T) (laid l (pcD D k).data.toList (k * 500)) := by
  have hkT : k ∉ T := fun q => by
    rw [(h.iff j k hj).2 q] at hk
    cases hk
  have hz := pcD_size D k
  have hl : (pcD D k).data.toList.length = (pcD D k).size := by simp
  have hfit : k * 500 + (pcD D k).data.toList.length ≤ l.length := by rw [hl, h.len]; omega
  refine ⟨hkT, List.nodup_cons.2 ⟨hkT, h.nd⟩, ?_, ?_, ?_, ?_⟩
  · intro x hx
    rcases List.mem_cons.1 hx with rfl | hx
    · exact List.mem_of_getElem? hj
    · exact h.sub x hx
  · intro j' k' hj'
    rw [Array.contains_push, Bool.or_eq_true, List.mem_cons, h.iff j' k' hj']
    have : (j' == j) = true ↔ k' = k := by
      rw [beq_iff_eq]
      constructor
      · intro e
        subst e
        rw [hj] at hj'
        exact (Option.some.inj hj').symm
      · intro e
        subst e
        exact (List.getElem?_inj (by have := List.getElem?_eq_some_iff.1 hj'; exact this.1) hS).1 (hj'.trans hj.symm)
    have hb : (j == j') = (j' == j) := by rw [Bool.eq_iff_iff, beq_iff_eq, beq_iff_eq]; exact eq_comm
    first
    | (rw [this]; exact or_comm)
    | (rw [hb, this]; exact or_comm)
    | (rw [this])
    | (rw [hb, this])
  · rw [laid_len _ _ _ hfit, h.len]
  · intro x hx hm
    by_cases h1 : x < k * 500
    · rw [laid_lo _ _ _ _ hfit h1]
      refine h.eq x hx ?_
      rcases List.mem_cons.1 hm with e | e
      · exfalso; omega
      · exact e
    · by_cases h2 : x < k * 500 + (pcD D k).data.toList.length
      · have h3 : x - k * 500 < (pcD D k).size := by omega
        rw [laid_mid _ _ _ _ hfit (by omega) h2, pcD_get D k _ h3, show k * 500 + (x - k * 500) = x by omega]
      · rw [laid_hi _ _ _ _ hfit (by omega)]
        refine h.eq x hx ?_
        rcases List.mem_cons.1 hm with e | e
        · exfalso; omega
        · exact e
theorem Lk.all {n : Nat} {D : ByteArray} {S : List Nat} {seen : Array Nat} {T : List Nat} {l : List UInt8} (h : Lk n D S seen T l) (hn : D.size = n) (ha : ∀ j k, S[j]? = some k → seen.contains j = true) : cov n T = cov n S ∧ (cov n S = n → l = D.data.toList) := by
  have hs : ∀ k, k ∈ T ↔ k ∈ S := fun k => ⟨h.sub k, fun q => by
    obtain ⟨j, hj⟩ := List.mem_iff_getElem?.1 q
    exact (h.iff j k hj).1 (ha j k hj)⟩
  refine ⟨cov_same n hs, fun hf => ?_⟩
  have hf' := (cov_full n S).1 hf
  apply List.ext_getElem?
  intro j
  by_cases hj : j < n
  · exact h.eq j hj ((hs _).2 (hf' j hj))
  · have hl := h.len
    have hD : D.data.toList.length = n := by rw [← hn]; simp
    rw [List.getElem?_eq_none (by omega), List.getElem?_eq_none (by omega)]
end Go.Proofs.Ythddacgdmngfhaa.fil
