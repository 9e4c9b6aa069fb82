/- Layer 18, pure: messages that wait, the next places, what can be read; a map's entries that say those that wait of one stream. -/
import Derived.Test.YthddacgdmngfhaaKitM
namespace Go.Proofs.Ythddacgdmngfhaa.del
open Go.ChangeShapes Go.WideShapes Go.ChangeAt Go.RowKit kit
set_option maxRecDepth 100000

/-- What a message says. -/
structure Mg where
  st : Int
  ss : Int
  lo : Bool
  pr : Int
  d : ByteArray
def mgc (x : Mg) : Array Value := #[.int .i64 x.st, .int .i64 x.ss, .bool x.lo, .int .u32 x.pr, .string x.d]
def cellsM : List Mg → List Value
  | [] => []
  | x :: r => (mgc x).toList ++ cellsM r
theorem mgc_len (x : Mg) : (mgc x).toList.length = 5 := rfl
theorem cellsM_len : ∀ L : List Mg, (cellsM L).length = L.length * 5
  | [] => rfl
  | x :: r => by simp only [cellsM, List.length_append, mgc_len, List.length_cons, cellsM_len r]; omega
theorem cellsM_append : ∀ L M : List Mg, cellsM (L ++ M) = cellsM L ++ cellsM M
  | [], _ => rfl
  | x :: r, M => by simp only [List.cons_append, cellsM, cellsM_append r M, List.append_assoc]
theorem cellsM_get {x : Mg} : ∀ {L : List Mg} {k : Nat}, L[k]? = some x → ∀ j, j < (mgc x).size → (mgc x)[j]? = (cellsM L)[k * 5 + j]?
  | [], _, h, _, _ => by simp at h
  | y :: r, 0, h, j, hj => by
    obtain rfl : y = x := by simpa using h
    have hj5 : j < 5 := hj
    rw [cellsM, Nat.zero_mul, Nat.zero_add, List.getElem?_append_left (by rw [mgc_len]; exact hj5), Array.getElem?_toList]
  | y :: r, k + 1, h, j, hj => by
    have ih := cellsM_get (L := r) (k := k) (by simpa using h) j hj
    rw [ih, cellsM, List.getElem?_append_right (by rw [mgc_len]; omega), mgc_len, show (k + 1) * 5 + j - 5 = k * 5 + j by omega]
theorem cellsM_drop (x : Mg) (r : List Mg) : (cellsM (x :: r)).drop 5 = cellsM r := by
  rw [cellsM, ← mgc_len x, List.drop_left']
  rfl
theorem mgc_one (x : Mg) : ∀ u ∈ (mgc x).toList, u.oneCell' = true := by
  intro u hu
  have := Array.all_eq_true'.1 (show (mgc x).all (·.oneCell') = true by kernel_rfl) u (by rwa [← Array.mem_toList_iff])
  exact this
theorem cellsM_one : ∀ (L : List Mg), ∀ u ∈ cellsM L, u.oneCell' = true
  | [], u, h => by cases h
  | x :: r, u, h => by
    rw [cellsM, List.mem_append] at h
    rcases h with h | h
    · exact mgc_one x u h
    · exact cellsM_one r u h
/-- How many bytes messages have. -/
def btm : List Mg → Nat
  | [] => 0
  | x :: r => x.d.size + btm r
theorem btm_append : ∀ L M : List Mg, btm (L ++ M) = btm L + btm M
  | [], M => by simp [btm]
  | x :: r, M => by simp only [List.cons_append, btm, btm_append r M]; omega
/-- A message's place, of 16 bits. -/
def plc (x : Mg) : Nat := (x.ss % 65536).toNat
theorem plc_lt (x : Mg) : plc x < 65536 := by unfold plc; omega
theorem plc_cast (x : Mg) : (plc x : Int) = x.ss % 65536 := by unfold plc; omega
/-- Does it wait at this place of this stream? -/
def hit (s p : Nat) (x : Mg) : Bool := decide (x.st = (s : Int)) && decide (plc x = p)
/-- The first one that waits there, and the others. -/
def pick (s p : Nat) : List Mg → Option (Mg × List Mg)
  | [] => none
  | x :: r => if hit s p x = true then some (x, r) else (pick s p r).map fun q => (q.1, x :: q.2)
theorem pick_none {s p : Nat} : ∀ {l : List Mg}, pick s p l = none ↔ ∀ x ∈ l, hit s p x = false
  | [] => by simp [pick]
  | x :: r => by
    unfold pick
    by_cases h : hit s p x = true
    · rw [if_pos h]; simp [h]
    · rw [if_neg h, Option.map_eq_none_iff, pick_none (l := r)]; simp [h]
theorem pick_split {s p : Nat} : ∀ {l : List Mg} {x : Mg} {r : List Mg}, pick s p l = some (x, r) → ∃ A B, l = A ++ x :: B ∧ r = A ++ B ∧ hit s p x = true ∧ ∀ y ∈ A, hit s p y = false
  | [], x, r, h => by simp [pick] at h
  | y :: l, x, r, h => by
    unfold pick at h
    by_cases hy : hit s p y = true
    · rw [if_pos hy] at h
      cases h
      exact ⟨[], l, rfl, rfl, hy, by simp⟩
    · rw [if_neg hy] at h
      obtain ⟨q, hq, hq2⟩ := Option.map_eq_some_iff.1 h
      obtain ⟨z, r'⟩ := q
      cases hq2
      obtain ⟨A, B, rfl, rfl, h3, h4⟩ := pick_split hq
      refine ⟨y :: A, B, rfl, rfl, h3, fun w hw => ?_⟩
      rcases List.mem_cons.1 hw with rfl | hw
      · simpa using hy
      · exact h4 w hw
theorem pick_of_split {s p : Nat} : ∀ {A : List Mg} {x : Mg} {B : List Mg}, hit s p x = true → (∀ y ∈ A, hit s p y = false) → pick s p (A ++ x :: B) = some (x, A ++ B)
  | [], x, B, h, _ => by simp [pick, h]
  | y :: A, x, B, h, hA => by
    have hy : hit s p y = false := hA y (by simp)
    have := pick_of_split (A := A) (B := B) h (fun z hz => hA z (by simp [hz]))
    simp [pick, hy, this]
theorem pick_len {s p : Nat} {l r : List Mg} {x : Mg} (h : pick s p l = some (x, r)) : r.length + 1 = l.length := by
  obtain ⟨A, B, rfl, rfl, _⟩ := pick_split h
  simp; omega
theorem pick_btm {s p : Nat} {l r : List Mg} {x : Mg} (h : pick s p l = some (x, r)) : x.d.size + btm r = btm l := by
  obtain ⟨A, B, rfl, rfl, _⟩ := pick_split h
  simp only [btm_append, btm]; omega
theorem pick_mem {s p : Nat} {l r : List Mg} {x y : Mg} (h : pick s p l = some (x, r)) (hy : y ∈ r) : y ∈ l := by
  obtain ⟨A, B, rfl, rfl, _⟩ := pick_split h
  simp at hy ⊢
  rcases hy with h | h
  · exact .inl h
  · exact .inr (.inr h)
/-- Those of one stream. -/
def ofS (s : Nat) (l : List Mg) : List Mg := l.filter fun x => decide (x.st = (s : Int))
theorem ofS_append (s : Nat) (A B : List Mg) : ofS s (A ++ B) = ofS s A ++ ofS s B := by unfold ofS; rw [List.filter_append]
theorem ofS_cons_in {s : Nat} {x : Mg} (h : x.st = (s : Int)) (B : List Mg) : ofS s (x :: B) = x :: ofS s B := by unfold ofS; rw [List.filter_cons, if_pos (by simpa using h)]
theorem ofS_cons_out {s : Nat} {x : Mg} (h : x.st ≠ (s : Int)) (B : List Mg) : ofS s (x :: B) = ofS s B := by unfold ofS; rw [List.filter_cons, if_neg (by simpa using h)]
theorem ofS_none {s : Nat} {l : List Mg} (h : ∀ x ∈ l, x.st ≠ (s : Int)) : ofS s l = [] := by
  unfold ofS
  rw [List.filter_eq_nil_iff]
  intro x hx
  simpa using h x hx
theorem hit_st {s p : Nat} {x : Mg} (h : hit s p x = true) : x.st = (s : Int) := by unfold hit at h; simp at h; exact h.1
theorem hit_plc {s p : Nat} {x : Mg} (h : hit s p x = true) : plc x = p := by unfold hit at h; simp at h; exact h.2
theorem mem_ofS {s : Nat} {l : List Mg} {x : Mg} : x ∈ ofS s l ↔ x ∈ l ∧ x.st = (s : Int) := by unfold ofS; rw [List.mem_filter]; simp
theorem pick_ofS_other {s t p : Nat} {l r : List Mg} {x : Mg} (h : pick s p l = some (x, r)) (ht : t ≠ s) : ofS t r = ofS t l := by
  obtain ⟨A, B, rfl, rfl, h3, _⟩ := pick_split h
  rw [ofS_append, ofS_append, ofS_cons_out]
  rw [hit_st h3]
  omega
theorem pick_ofS {s p : Nat} {l r : List Mg} {x : Mg} (h : pick s p l = some (x, r)) : ∃ A B, ofS s l = A ++ x :: B ∧ ofS s r = A ++ B ∧ plc x = p ∧ ∀ y ∈ A, plc y ≠ p := by
  obtain ⟨A, B, rfl, rfl, h3, h4⟩ := pick_split h
  refine ⟨ofS s A, ofS s B, by rw [ofS_append, ofS_cons_in (hit_st h3)], by rw [ofS_append], hit_plc h3, fun y hy e => ?_⟩
  obtain ⟨h5, h6⟩ := mem_ofS.1 hy
  have := h4 y h5
  unfold hit at this
  simp [h6, e] at this
theorem pick_ofS_none {s p : Nat} {l : List Mg} (h : pick s p l = none) : ∀ y ∈ ofS s l, plc y ≠ p := fun y hy e => by
  obtain ⟨h5, h6⟩ := mem_ofS.1 hy
  have := pick_none.1 h y h5
  unfold hit at this
  simp [h6, e] at this
theorem pick_none_of {s p : Nat} {l : List Mg} (h : ∀ y ∈ ofS s l, plc y ≠ p) : pick s p l = none := by
  rw [pick_none]
  intro x hx
  cases hh : hit s p x with
  | false => rfl
  | true => exact absurd (hit_plc hh) (h x (mem_ofS.2 ⟨hx, hit_st hh⟩))
/-- One taken, as far as one waits at the next place; the next place, those that wait, those that can be read. -/
def pass (s : Nat) (S : Nat × List Mg × List Mg) : Nat × List Mg × List Mg :=
  match pick s S.1 S.2.1 with
  | none => S
  | some (x, r) => ((S.1 + 1) % 65536, r, S.2.2 ++ [x])
def passes (s : Nat) : Nat → Nat × List Mg × List Mg → Nat × List Mg × List Mg
  | 0, S => S
  | k + 1, S => pass s (passes s k S)
theorem pass_none {s : Nat} {S : Nat × List Mg × List Mg} (h : pick s S.1 S.2.1 = none) : pass s S = S := by unfold pass; rw [h]
theorem pass_some {s : Nat} {S : Nat × List Mg × List Mg} {x : Mg} {r : List Mg} (h : pick s S.1 S.2.1 = some (x, r)) : pass s S = ((S.1 + 1) % 65536, r, S.2.2 ++ [x]) := by unfold pass; rw [h]
/-- Behind as many as there are nothing is left that is next. -/
theorem passes_done {s : Nat} {S : Nat × List Mg × List Mg} : ∀ k, (passes s k S).2.1.length + k = S.2.1.length ∨ pick s (passes s k S).1 (passes s k S).2.1 = none
  | 0 => .inl rfl
  | k + 1 => by
    rcases hp : pick s (passes s k S).1 (passes s k S).2.1 with _ | ⟨x, r⟩
    · right
      show pick s (pass s (passes s k S)).1 (pass s (passes s k S)).2.1 = none
      rw [pass_none hp]; exact hp
    · rcases passes_done (s := s) (S := S) k with h | h
      · left
        show (pass s (passes s k S)).2.1.length + (k + 1) = _
        rw [pass_some hp]
        have := pick_len hp
        show r.length + (k + 1) = _
        omega
      · rw [hp] at h; cases h
theorem passes_all {s : Nat} (S : Nat × List Mg × List Mg) : pick s (passes s (S.2.1.length + 1) S).1 (passes s (S.2.1.length + 1) S).2.1 = none := by
  rcases passes_done (s := s) (S := S) (S.2.1.length + 1) with h | h
  · omega
  · exact h
theorem passes_stay {s k : Nat} {S : Nat × List Mg × List Mg} (h : pick s (passes s k S).1 (passes s k S).2.1 = none) : ∀ j, passes s (k + j) S = passes s k S
  | 0 => rfl
  | j + 1 => by
    show pass s (passes s (k + j) S) = _
    rw [passes_stay h j]
    exact pass_none h
theorem passes_eq {s k n : Nat} {S : Nat × List Mg × List Mg} (h : pick s (passes s k S).1 (passes s k S).2.1 = none) (hk : k ≤ n) : passes s n S = passes s k S := by
  have := passes_stay h (n - k)
  rwa [show k + (n - k) = n by omega] at this
theorem pass_btm (s : Nat) (S : Nat × List Mg × List Mg) : btm (pass s S).2.1 + btm (pass s S).2.2 = btm S.2.1 + btm S.2.2 := by
  rcases hp : pick s S.1 S.2.1 with _ | ⟨x, r⟩
  · rw [pass_none hp]
  · rw [pass_some hp]
    have := pick_btm hp
    show btm r + btm (S.2.2 ++ [x]) = _
    rw [btm_append]
    simp only [btm]
    omega
theorem passes_btm (s : Nat) (S : Nat × List Mg × List Mg) : ∀ k, btm (passes s k S).2.1 + btm (passes s k S).2.2 = btm S.2.1 + btm S.2.2
  | 0 => rfl
  | k + 1 => (pass_btm s _).trans (passes_btm s S k)
theorem pass_lt {s : Nat} {S : Nat × List Mg × List Mg} (h : S.1 < 65536) : (pass s S).1 < 65536 := by
  rcases hp : pick s S.1 S.2.1 with _ | ⟨x, r⟩
  · rw [pass_none hp]; exact h
  · rw [pass_some hp]; show (S.1 + 1) % 65536 < 65536; omega
theorem passes_lt {s : Nat} {S : Nat × List Mg × List Mg} (h : S.1 < 65536) : ∀ k, (passes s k S).1 < 65536
  | 0 => h
  | k + 1 => pass_lt (passes_lt h k)
theorem pass_other {s t : Nat} (ht : t ≠ s) (S : Nat × List Mg × List Mg) : ofS t (pass s S).2.1 = ofS t S.2.1 := by
  rcases hp : pick s S.1 S.2.1 with _ | ⟨x, r⟩
  · rw [pass_none hp]
  · rw [pass_some hp]; exact pick_ofS_other hp ht
theorem passes_other {s t : Nat} (ht : t ≠ s) (S : Nat × List Mg × List Mg) : ∀ k, ofS t (passes s k S).2.1 = ofS t S.2.1
  | 0 => rfl
  | k + 1 => (pass_other ht _).trans (passes_other ht S k)
theorem pass_len {s : Nat} (S : Nat × List Mg × List Mg) : (pass s S).2.1.length + (pass s S).2.2.length = S.2.1.length + S.2.2.length := by
  rcases hp : pick s S.1 S.2.1 with _ | ⟨x, r⟩
  · rw [pass_none hp]
  · rw [pass_some hp]
    have := pick_len hp
    show r.length + (S.2.2 ++ [x]).length = _
    simp; omega
theorem passes_len {s : Nat} (S : Nat × List Mg × List Mg) : ∀ k, (passes s k S).2.1.length + (passes s k S).2.2.length = S.2.1.length + S.2.2.length
  | 0 => rfl
  | k + 1 => (pass_len _).trans (passes_len S k)
theorem pass_mem {s : Nat} {S : Nat × List Mg × List Mg} {y : Mg} (h : y ∈ (pass s S).2.1) : y ∈ S.2.1 := by
  rcases hp : pick s S.1 S.2.1 with _ | ⟨x, r⟩
  · rw [pass_none hp] at h; exact h
  · rw [pass_some hp] at h; exact pick_mem hp h
theorem passes_mem {s : Nat} {S : Nat × List Mg × List Mg} {y : Mg} : ∀ k, y ∈ (passes s k S).2.1 → y ∈ S.2.1
  | 0, h => h
  | k + 1, h => passes_mem k (pass_mem h)
/-- A map's entries say these messages, each at its place. -/
def EntM : List MapEntry → List Mg → Prop
  | [], [] => True
  | e :: es, x :: L => e.key = .int .u16 (plc x : Nat) ∧ e.val = .agg (mgc x) ∧ EntM es L
  | _, _ => False
theorem entM_none {p : Nat} : ∀ {es : List MapEntry} {L : List Mg}, EntM es L → (∀ x ∈ L, plc x ≠ p) → ∀ i, Instr.findNow (.int .u16) (.int .u16 (p : Nat)) es i = some none
  | [], [], _, _, _ => rfl
  | [], _ :: _, h, _, _ => h.elim
  | _ :: _, [], h, _, _ => h.elim
  | e :: es, x :: L, h, hp, i => by
    obtain ⟨h1, _, h3⟩ := h
    have hx : plc x ≠ p := hp x (by simp)
    have hb : ((p : Int) == (plc x : Int)) = false := by simp; omega
    have := entM_none h3 (fun y hy => hp y (by simp [hy])) (i + 1)
    unfold Instr.findNow
    rw [h1]
    simp only [Instr.sameNow, hb]
    exact this
theorem entM_some {p : Nat} : ∀ {es : List MapEntry} {A : List Mg} {x : Mg} {B : List Mg}, EntM es (A ++ x :: B) → (∀ y ∈ A, plc y ≠ p) → plc x = p → ∀ i, Instr.findNow (.int .u16) (.int .u16 (p : Nat)) es i = some (some (i + A.length, .agg (mgc x)))
  | [], [], _, _, h, _, _, _ => h.elim
  | [], _ :: _, _, _, h, _, _, _ => h.elim
  | e :: es, [], x, B, h, _, hx, i => by
    obtain ⟨h1, h2, _⟩ := h
    have hb : ((p : Int) == (plc x : Int)) = true := by simp; omega
    unfold Instr.findNow
    rw [h1]
    simp only [Instr.sameNow, hb]
    rw [h2]
    rfl
  | e :: es, y :: A, x, B, h, hA, hx, i => by
    obtain ⟨h1, _, h3⟩ := h
    have hy : plc y ≠ p := hA y (by simp)
    have hb : ((p : Int) == (plc y : Int)) = false := by simp; omega
    have := entM_some (A := A) h3 (fun z hz => hA z (by simp [hz])) hx (i + 1)
    unfold Instr.findNow
    rw [h1]
    simp only [Instr.sameNow, hb]
    rw [this, List.length_cons, show i + 1 + A.length = i + (A.length + 1) by omega]
    rfl
theorem entM_erase : ∀ {es : List MapEntry} {A : List Mg} {x : Mg} {B : List Mg}, EntM es (A ++ x :: B) → EntM (es.eraseIdx A.length) (A ++ B)
  | [], [], _, _, h => h.elim
  | [], _ :: _, _, _, h => h.elim
  | e :: es, [], x, B, h => h.2.2
  | e :: es, y :: A, x, B, h => ⟨h.1, h.2.1, entM_erase h.2.2⟩
theorem entM_push {c : Nat} : ∀ {es : List MapEntry} {L : List Mg} {x : Mg}, EntM es L → EntM (es ++ [⟨.int .u16 (plc x : Nat), .agg (mgc x), c⟩]) (L ++ [x])
  | [], [], _, _ => ⟨rfl, rfl, trivial⟩
  | [], _ :: _, _, h => h.elim
  | _ :: _, [], _, h => h.elim
  | e :: es, y :: L, x, h => ⟨h.1, h.2.1, entM_push h.2.2⟩
theorem entM_len : ∀ {es : List MapEntry} {L : List Mg}, EntM es L → es.length = L.length
  | [], [], _ => rfl
  | [], _ :: _, h => h.elim
  | _ :: _, [], h => h.elim
  | e :: es, x :: L, h => by simp [entM_len h.2.2]
theorem toList_eraseIn (es : Array MapEntry) (i : Nat) : (es.eraseIdxIfInBounds i).toList = es.toList.eraseIdx i := by
  unfold Array.eraseIdxIfInBounds
  split
  · simp
  · rename_i h
    rw [List.eraseIdx_of_length_le (by simpa using h)]
end Go.Proofs.Ythddacgdmngfhaa.del
