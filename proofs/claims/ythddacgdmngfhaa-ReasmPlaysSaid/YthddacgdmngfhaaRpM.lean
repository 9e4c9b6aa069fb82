/- Layer 17, pure: parts of messages by how far their numbers are behind; what is whole by one that comes. -/
import Derived.Test.YthddacgdmngfhaaKitM
namespace Go.Proofs.Ythddacgdmngfhaa.rea
open Go.ChangeShapes Go.WideShapes Go.ChangeAt Go.RowKit kit
set_option maxRecDepth 100000

/-- A part: how far its number is behind, its flags, its stream and place, its bytes. -/
structure Pk where
  k : Nat
  f : Nat
  st : Nat
  ss : Nat
  d : ByteArray
/-- A number so far behind. -/
def ts (T k : Nat) : Nat := (T + k) % 4294967296
theorem ts_inj {T a b : Nat} (ha : a < 4294967296) (hb : b < 4294967296) (h : ts T a = ts T b) : a = b := by unfold ts at h; omega
def pkc (T : Nat) (x : Pk) : Array Value := #[.int .i64 0, .int .i64 (x.f : Nat), .int .u32 (ts T x.k : Nat), .int .i64 (x.st : Nat), .int .i64 (x.ss : Nat), .int .u32 (x.k : Nat), .string x.d, .int .u32 0, .int .u32 0, .int .i64 0, .int .i64 0, .slice none 0 0, .slice none 0 0, .slice none 0 0, .slice none 0 0]
def cellsK (T : Nat) : List Pk → List Value
  | [] => []
  | x :: r => (pkc T x).toList ++ cellsK T r
theorem pkc_len (T : Nat) (x : Pk) : (pkc T x).toList.length = 15 := rfl
theorem cellsK_len (T : Nat) : ∀ L : List Pk, (cellsK T L).length = L.length * 15
  | [] => rfl
  | x :: r => by simp only [cellsK, List.length_append, pkc_len, List.length_cons, cellsK_len T r]; omega
theorem cellsK_append (T : Nat) : ∀ L M : List Pk, cellsK T (L ++ M) = cellsK T L ++ cellsK T M
  | [], _ => rfl
  | x :: r, M => by simp only [List.cons_append, cellsK, cellsK_append T r M, List.append_assoc]
theorem cellsK_get {T : Nat} {x : Pk} : ∀ {L : List Pk} {k : Nat}, L[k]? = some x → ∀ j, j < (pkc T x).size → (pkc T x)[j]? = (cellsK T L)[k * 15 + j]?
  | [], _, h, _, _ => by simp at h
  | y :: r, 0, h, j, hj => by
    obtain rfl : y = x := by simpa using h
    have hj15 : j < 15 := hj
    rw [cellsK, Nat.zero_mul, Nat.zero_add, List.getElem?_append_left (by rw [pkc_len]; exact hj15), Array.getElem?_toList]
  | y :: r, k + 1, h, j, hj => by
    have ih := cellsK_get (T := T) (L := r) (k := k) (by simpa using h) j hj
    rw [ih, cellsK, List.getElem?_append_right (by rw [pkc_len]; omega), pkc_len, show (k + 1) * 15 + j - 15 = k * 15 + j by omega]
theorem pkc_one (T : Nat) (x : Pk) : ∀ u ∈ (pkc T x).toList, u.oneCell' = true := by
  intro u hu
  have := Array.all_eq_true'.1 (show (pkc T x).all (·.oneCell') = true by kernel_rfl) u (by rwa [← Array.mem_toList_iff])
  exact this
theorem cellsK_one (T : Nat) : ∀ (L : List Pk), ∀ u ∈ cellsK T L, u.oneCell' = true
  | [], u, h => by cases h
  | x :: r, u, h => by
    rw [cellsK, List.mem_append] at h
    rcases h with h | h
    · exact pkc_one T x u h
    · exact cellsK_one T r u h
def btk : List Pk → Nat
  | [] => 0
  | x :: r => x.d.size + btk r
theorem btk_append : ∀ L M : List Pk, btk (L ++ M) = btk L + btk M
  | [], M => by simp [btk]
  | x :: r, M => by simp only [List.cons_append, btk, btk_append r M]; omega
/-- The part so far behind. -/
def pat : List Pk → Nat → Option Pk
  | [], _ => none
  | x :: r, k => if x.k = k then some x else pat r k
theorem pat_some {k : Nat} {x : Pk} : ∀ {l : List Pk}, pat l k = some x → x ∈ l ∧ x.k = k
  | [], h => by cases h
  | y :: r, h => by
    unfold pat at h
    by_cases hy : y.k = k
    · rw [if_pos hy] at h; cases h; exact ⟨by simp, hy⟩
    · rw [if_neg hy] at h
      obtain ⟨h1, h2⟩ := pat_some h
      exact ⟨by simp [h1], h2⟩
theorem pat_none {k : Nat} : ∀ {l : List Pk}, pat l k = none ↔ ∀ x ∈ l, x.k ≠ k
  | [] => by simp [pat]
  | y :: r => by
    unfold pat
    by_cases hy : y.k = k
    · rw [if_pos hy]; simp [hy]
    · rw [if_neg hy, pat_none (l := r)]; simp [hy]
/-- No two of one number. -/
def Uq (l : List Pk) : Prop := ∀ x ∈ l, ∀ y ∈ l, x.k = y.k → x = y
theorem pat_mem {l : List Pk} (h : Uq l) {x : Pk} (hx : x ∈ l) : pat l x.k = some x := by
  rcases hp : pat l x.k with _ | y
  · exact absurd rfl (pat_none.1 hp x hx)
  · obtain ⟨h1, h2⟩ := pat_some hp
    rw [h y h1 x hx h2]
def alike (a b : Pk) : Bool := decide (a.st = b.st) && decide (a.ss = b.ss) && decide (a.f / 4 % 2 = b.f / 4 % 2)
theorem alike_iff {a b : Pk} : alike a b = true ↔ a.st = b.st ∧ a.ss = b.ss ∧ a.f / 4 % 2 = b.f / 4 % 2 := by unfold alike; simp [and_assoc]
theorem alike_comm (a b : Pk) : alike a b = alike b a := by unfold alike; simp only [eq_comm]
/-- The part ahead of one, of the same message. -/
def prv (l : List Pk) (c : Pk) : Option Pk :=
  match c.k with
  | 0 => none
  | k + 1 => match pat l k with
    | none => none
    | some x => if x.f % 2 = 1 || !alike x c then none else some x
def nxt (l : List Pk) (c : Pk) : Option Pk :=
  match pat l (c.k + 1) with
  | none => none
  | some x => if x.f / 2 % 2 = 1 || !alike x c then none else some x
theorem prv_some {l : List Pk} {c x : Pk} (h : prv l c = some x) : x ∈ l ∧ x.k + 1 = c.k ∧ x.f % 2 = 0 ∧ alike x c = true := by
  unfold prv at h
  rcases hk : c.k with _ | k
  · rw [hk] at h; cases h
  · rw [hk] at h
    dsimp only at h
    rcases hp : pat l k with _ | y
    · rw [hp] at h; cases h
    · rw [hp] at h
      dsimp only at h
      obtain ⟨h1, h2⟩ := pat_some hp
      by_cases hc : (y.f % 2 = 1 || !alike y c) = true
      · simp only [hc, if_true] at h; cases h
      · simp only [hc] at h
        have h' : y = x := by simpa using h
        subst h'
        simp at hc
        exact ⟨h1, by omega, by omega, hc.2⟩
theorem nxt_some {l : List Pk} {c x : Pk} (h : nxt l c = some x) : x ∈ l ∧ x.k = c.k + 1 ∧ x.f / 2 % 2 = 0 ∧ alike x c = true := by
  unfold nxt at h
  rcases hp : pat l (c.k + 1) with _ | y
  · rw [hp] at h; cases h
  · rw [hp] at h
    obtain ⟨h1, h2⟩ := pat_some hp
    by_cases hc : (y.f / 2 % 2 = 1 || !alike y c) = true
    · simp only [hc, if_true] at h; cases h
    · simp only [hc] at h
      have h' : y = x := by simpa using h
      subst h'
      simp at hc
      exact ⟨h1, h2, by omega, hc.2⟩
theorem nxt_of {l : List Pk} (h : Uq l) {c x : Pk} (hx : x ∈ l) (hk : x.k = c.k + 1) (hf : x.f / 2 % 2 = 0) (ha : alike x c = true) : nxt l c = some x := by
  unfold nxt
  rw [← hk, pat_mem h hx]
  simp [hf, ha]
/-- The first part of the message of one. -/
def down (l : List Pk) : Nat → Pk → Option Pk
  | 0, c => if c.f / 2 % 2 = 1 then some c else none
  | n + 1, c => if c.f / 2 % 2 = 1 then some c else match prv l c with
    | none => none
    | some x => down l n x
theorem down_beg {l : List Pk} {c : Pk} (h : c.f / 2 % 2 = 1) : ∀ n, down l n c = some c
  | 0 => by unfold down; rw [if_pos h]
  | n + 1 => by unfold down; rw [if_pos h]
theorem down_step {l : List Pk} {c x : Pk} (h : ¬ c.f / 2 % 2 = 1) (hp : prv l c = some x) : down l c.k c = down l x.k x := by
  obtain ⟨_, hk, _⟩ := prv_some hp
  rw [← hk]
  show (if c.f / 2 % 2 = 1 then some c else match prv l c with | none => none | some x' => down l x.k x') = _
  rw [if_neg h, hp]
theorem down_none {l : List Pk} {c : Pk} (h : ¬ c.f / 2 % 2 = 1) (hp : prv l c = none) : down l c.k c = none := by
  rcases hk : c.k with _ | k
  · unfold down; rw [if_neg h]
  · unfold down; rw [if_neg h, hp]
/-- The last part of the message of one; its fuel is counted from 64 on. -/
def up (l : List Pk) : Nat → Pk → Option Pk
  | 0, c => if c.f % 2 = 1 then some c else none
  | n + 1, c => if c.f % 2 = 1 then some c else match nxt l c with
    | none => none
    | some x => up l n x
theorem up_end {l : List Pk} {c : Pk} (h : c.f % 2 = 1) : ∀ n, up l n c = some c
  | 0 => by unfold up; rw [if_pos h]
  | n + 1 => by unfold up; rw [if_pos h]
theorem up_step {l : List Pk} {c x : Pk} (h : ¬ c.f % 2 = 1) (hp : nxt l c = some x) (h64 : x.k < 64) : up l (64 - c.k) c = up l (64 - x.k) x := by
  obtain ⟨_, hk, _⟩ := nxt_some hp
  rw [show 64 - c.k = (64 - x.k) + 1 by omega]
  show (if c.f % 2 = 1 then some c else match nxt l c with | none => none | some x' => up l (64 - x.k) x') = _
  rw [if_neg h, hp]
theorem up_none {l : List Pk} {c : Pk} (h : ¬ c.f % 2 = 1) (hp : nxt l c = none) : up l (64 - c.k) c = none := by
  rcases hk : 64 - c.k with _ | k
  · unfold up; rw [if_neg h]
  · unfold up; rw [if_neg h, hp]
/-- From the first part on one comes to the last part as from any part of the message. -/
theorem up_down {l : List Pk} (hU : Uq l) (h64 : ∀ x ∈ l, x.k < 64) : ∀ (n : Nat) {c F : Pk}, c ∈ l → c.k = n → down l n c = some F → up l (64 - F.k) F = up l (64 - c.k) c
  | 0, c, F, hc, hk, h => by
    unfold down at h
    by_cases hb : c.f / 2 % 2 = 1
    · rw [if_pos hb] at h; cases h; rfl
    · rw [if_neg hb] at h; cases h
  | n + 1, c, F, hc, hk, h => by
    unfold down at h
    by_cases hb : c.f / 2 % 2 = 1
    · rw [if_pos hb] at h; cases h; rfl
    · rw [if_neg hb] at h
      rcases hp : prv l c with _ | x
      · rw [hp] at h; cases h
      · rw [hp] at h
        obtain ⟨h1, h2, h3, h4⟩ := prv_some hp
        have ih := up_down hU h64 n h1 (by omega) h
        rw [ih]
        exact up_step (by omega) (nxt_of hU hc (by omega) (by omega) (by rw [alike_comm]; exact h4)) (h64 c hc)
theorem down_mem {l : List Pk} : ∀ (n : Nat) {c F : Pk}, c ∈ l → down l n c = some F → F ∈ l ∧ F.k ≤ c.k ∧ F.f / 2 % 2 = 1 ∧ F.st = c.st ∧ F.ss = c.ss ∧ F.f / 4 % 2 = c.f / 4 % 2
  | 0, c, F, hc, h => by
    unfold down at h
    by_cases hb : c.f / 2 % 2 = 1
    · rw [if_pos hb] at h; cases h; exact ⟨hc, Nat.le_refl _, hb, rfl, rfl, rfl⟩
    · rw [if_neg hb] at h; cases h
  | n + 1, c, F, hc, h => by
    unfold down at h
    by_cases hb : c.f / 2 % 2 = 1
    · rw [if_pos hb] at h; cases h; exact ⟨hc, Nat.le_refl _, hb, rfl, rfl, rfl⟩
    · rw [if_neg hb] at h
      rcases hp : prv l c with _ | x
      · rw [hp] at h; cases h
      · rw [hp] at h
        obtain ⟨h1, h2, _, h4⟩ := prv_some hp
        obtain ⟨a1, a2, a3⟩ := alike_iff.1 h4
        obtain ⟨q1, q2, q3, q4, q5, q6⟩ := down_mem n h1 h
        exact ⟨q1, by omega, q3, by omega, by omega, by omega⟩
/-- All parts up to the last one are there. -/
theorem up_mem {l : List Pk} (h64 : ∀ x ∈ l, x.k < 64) : ∀ (n : Nat) {c L : Pk}, c ∈ l → n = 64 - c.k → up l n c = some L → L ∈ l ∧ c.k ≤ L.k ∧ L.f % 2 = 1 ∧ ∀ j, c.k ≤ j → j ≤ L.k → ∃ x ∈ l, x.k = j
  | 0, c, L, hc, hn, h => by have := h64 c hc; omega
  | n + 1, c, L, hc, hn, h => by
    unfold up at h
    by_cases hb : c.f % 2 = 1
    · rw [if_pos hb] at h; cases h; exact ⟨hc, Nat.le_refl _, hb, fun j h1 h2 => ⟨c, hc, by omega⟩⟩
    · rw [if_neg hb] at h
      rcases hp : nxt l c with _ | x
      · rw [hp] at h; cases h
      · rw [hp] at h
        obtain ⟨h1, h2, _, _⟩ := nxt_some hp
        obtain ⟨q1, q2, q3, q4⟩ := up_mem h64 n h1 (by omega) h
        refine ⟨q1, by omega, q3, fun j hj1 hj2 => ?_⟩
        by_cases e : j = c.k
        · exact ⟨c, hc, e.symm⟩
        · exact q4 j (by omega) hj2
/-- The bytes of so many parts from one on. -/
def cat (l : List Pk) (k : Nat) : Nat → ByteArray
  | 0 => ⟨#[]⟩
  | n + 1 => cat l k n ++ (match pat l (k + n) with | some x => x.d | none => ⟨#[]⟩)
/-- Those that are left. -/
def rest (l : List Pk) (F L : Nat) : List Pk := l.filter fun x => decide (x.k < F) || decide (L < x.k)
/-- Of a run of numbers each of which is there, there are as many. -/
theorem run_len : ∀ (n : Nat) (l : List Nat) (a : Nat), (∀ j, j < n → a + j ∈ l) → n ≤ l.length
  | 0, _, _, _ => Nat.zero_le _
  | n + 1, l, a, h => by
    have h1 := h n (Nat.lt_succ_self n)
    have h2 := run_len n (l.erase (a + n)) a (fun j hj => (List.mem_erase_of_ne (by omega)).2 (h j (by omega)))
    rw [List.length_erase_of_mem h1] at h2
    have : 0 < l.length := List.length_pos_of_mem h1
    omega
/-- A map's entries say these parts, each by its number. -/
def EntK (T : Nat) : List MapEntry → List Pk → Prop
  | [], [] => True
  | e :: es, x :: L => e.key = .int .u32 (ts T x.k : Nat) ∧ e.val = .agg (pkc T x) ∧ EntK T es L
  | _, _ => False
theorem entK_find {T k : Nat} (hk : k < 4294967296) : ∀ {es : List MapEntry} {L : List Pk}, EntK T es L → (∀ x ∈ L, x.k < 64) → ∀ i, (pat L k = none → Instr.findNow (.int .u32) (.int .u32 (ts T k : Nat)) es i = some none) ∧ (∀ x, pat L k = some x → ∃ j, Instr.findNow (.int .u32) (.int .u32 (ts T k : Nat)) es i = some (some (i + j, .agg (pkc T x))) ∧ L[j]? = some x ∧ ∀ q y, q < j → L[q]? = some y → y.k ≠ k)
  | [], [], _, _, _ => ⟨fun _ => rfl, fun x h => by cases h⟩
  | [], _ :: _, h, _, _ => h.elim
  | _ :: _, [], h, _, _ => h.elim
  | e :: es, y :: L, h, h64, i => by
    obtain ⟨h1, h2, h3⟩ := h
    have hy := h64 y (by simp)
    have ih := entK_find hk h3 (fun x hx => h64 x (by simp [hx])) (i + 1)
    by_cases hyk : y.k = k
    · have hb : ((ts T k : Int) == (ts T y.k : Int)) = true := by rw [hyk]; simp
      refine ⟨fun hn => ?_, fun x hx => ?_⟩
      · unfold pat at hn; rw [if_pos hyk] at hn; cases hn
      · unfold pat at hx
        rw [if_pos hyk] at hx
        cases hx
        refine ⟨0, ?_, rfl, fun q z hq => absurd hq (Nat.not_lt_zero q)⟩
        unfold Instr.findNow
        rw [h1]
        simp only [Instr.sameNow, hb]
        rw [h2]
        rfl
    · have hb : ((ts T k : Int) == (ts T y.k : Int)) = false := by
        simp
        intro e
        exact hyk (ts_inj (T := T) (by omega) hk (by omega))
      have hp : pat (y :: L) k = pat L k := by show (if y.k = k then some y else pat L k) = _; rw [if_neg hyk]
      have hf : Instr.findNow (.int .u32) (.int .u32 (ts T k : Nat)) (e :: es) i = Instr.findNow (.int .u32) (.int .u32 (ts T k : Nat)) es (i + 1) := by
        conv => lhs; unfold Instr.findNow
        rw [h1]
        simp only [Instr.sameNow, hb]
        rfl
      rw [hp, hf]
      refine ⟨ih.1, fun x hx => ?_⟩
      obtain ⟨j, q1, q2, q3⟩ := ih.2 x hx
      refine ⟨j + 1, by rw [q1, show i + 1 + j = i + (j + 1) by omega], by simpa using q2, fun q z hq hz => ?_⟩
      rcases q with _ | q
      · have : y = z := by simpa using hz
        rw [← this]; exact hyk
      · exact q3 q z (by omega) (by simpa using hz)
end Go.Proofs.Ythddacgdmngfhaa.rea
