/- Layer 15, pure: paths; the first one that is so; the next one round in a state. -/
import Derived.Test.YthddacgdmngfhaaPatB
import Derived.Test.YthddacgdmngfhaaKitQ
namespace Go.Proofs.Ythddacgdmngfhaa.pat
open Go.ChangeShapes Go.WideShapes Go.ChangeAt Go.RowKit kit
set_option maxRecDepth 100000

structure Px where
  a : Int
  b : Int
  s : Int
def px (x : Px) : Array Value := pth x.a x.b x.s
def cellsX : List Px → List Value
  | [] => []
  | x :: r => (px x).toList ++ cellsX r
theorem px_len (x : Px) : (px x).toList.length = 15 := rfl
theorem px_size (x : Px) : (px x).size = 15 := rfl
theorem cellsX_len : ∀ L : List Px, (cellsX L).length = L.length * 15
  | [] => rfl
  | x :: r => by simp only [cellsX, List.length_append, px_len, List.length_cons, cellsX_len r]; omega
theorem cellsX_append : ∀ L M : List Px, cellsX (L ++ M) = cellsX L ++ cellsX M
  | [], _ => rfl
  | x :: r, M => by simp only [List.cons_append, cellsX, cellsX_append r M, List.append_assoc]
theorem cellsX_get {x : Px} : ∀ {L : List Px} {k : Nat}, L[k]? = some x → ∀ j, j < (px x).size → (px x)[j]? = (cellsX L)[k * 15 + j]?
  | [], _, h, _, _ => by simp at h
  | y :: r, 0, h, j, hj => by
    obtain rfl : y = x := by simpa using h
    have hj15 : j < 15 := hj
    rw [cellsX, Nat.zero_mul, Nat.zero_add, List.getElem?_append_left (by rw [px_len]; exact hj15), Array.getElem?_toList]
  | y :: r, k + 1, h, j, hj => by
    have ih := cellsX_get (L := r) (k := k) (by simpa using h) j hj
    rw [ih, cellsX, List.getElem?_append_right (by rw [px_len]; omega), px_len, show (k + 1) * 15 + j - 15 = k * 15 + j by omega]
theorem px_one (x : Px) : ∀ u ∈ (px x).toList, u.oneCell' = true := by
  intro u hu
  have := Array.all_eq_true'.1 (oneP x.a x.b x.s) u (by rwa [← Array.mem_toList_iff])
  exact this
theorem cellsX_one : ∀ (L : List Px), ∀ u ∈ cellsX L, u.oneCell' = true
  | [], u, h => by cases h
  | x :: r, u, h => by
    rw [cellsX, List.mem_append] at h
    rcases h with h | h
    · exact px_one x u h
    · exact cellsX_one r u h
/-- The place of the first one that is so; -1: none is. -/
def idx (p : Px → Bool) : List Px → Int
  | [] => -1
  | x :: r => if p x = true then 0 else if idx p r < 0 then -1 else idx p r + 1
theorem idx_ge (p : Px → Bool) : ∀ L, -1 ≤ idx p L
  | [] => by simp [idx]
  | x :: r => by
    have := idx_ge p r
    unfold idx
    split
    · omega
    · split <;> omega
theorem idx_none {p : Px → Bool} : ∀ {L : List Px}, (∀ x ∈ L, p x = false) → idx p L = -1
  | [], _ => rfl
  | x :: r, h => by
    unfold idx
    rw [if_neg (by rw [h x (by simp)]; simp), idx_none (fun y hy => h y (by simp [hy])), if_pos (by omega)]
theorem idx_hit {p : Px → Bool} : ∀ {L : List Px} {i : Nat} {y : Px}, L[i]? = some y → p y = true → (∀ (j : Nat) x, j < i → L[j]? = some x → p x = false) → idx p L = (i : Int)
  | [], _, _, h, _, _ => by simp at h
  | z :: r, 0, y, h, hp, _ => by
    obtain rfl : z = y := by simpa using h
    unfold idx
    rw [if_pos hp]
    rfl
  | z :: r, i + 1, y, h, hp, hno => by
    have ih := idx_hit (L := r) (i := i) (by simpa using h) hp (fun j x hj hx => hno (j + 1) x (by omega) (by simpa using hx))
    unfold idx
    rw [if_neg (by rw [hno 0 z (by omega) rfl]; simp), ih, if_neg (by omega)]
    omega
theorem idx_never {p : Px → Bool} {L : List Px} (h : ∀ (j : Nat) x, j < L.length → L[j]? = some x → p x = false) : idx p L = -1 := idx_none fun x hx => by
  obtain ⟨j, hj⟩ := List.getElem?_of_mem hx
  exact h j x (List.getElem?_eq_some_iff.1 hj).1 hj
theorem idx_lt (p : Px → Bool) : ∀ L : List Px, idx p L < L.length
  | [] => by simp [idx]
  | x :: r => by
    have := idx_lt p r
    unfold idx
    rw [List.length_cons]
    split
    · omega
    · split <;> omega
/-- The state of the path at a place. -/
def stAt (L : List Px) (i : Nat) : Int := match L[i]? with | some x => x.s | none => 0
theorem stAt_of {L : List Px} {i : Nat} {x : Px} (h : L[i]? = some x) : stAt L i = x.s := by unfold stAt; rw [h]
/-- The next place round, of so many steps, that is in a state; -1: none. -/
def nxt (L : List Px) (n : Nat) (st : Int) : Nat → Nat → Int
  | 0, _ => -1
  | m + 1, t => if stAt L ((n + t) % L.length) = st then (((n + t) % L.length : Nat) : Int) else nxt L n st m (t + 1)
theorem nxt_skip {L : List Px} {n : Nat} {st : Int} : ∀ {m t k : Nat}, k ≤ m → (∀ j, t ≤ j → j < t + k → stAt L ((n + j) % L.length) ≠ st) → nxt L n st m t = nxt L n st (m - k) (t + k)
  | m, t, 0, _, _ => rfl
  | 0, t, k + 1, h, _ => by omega
  | m + 1, t, k + 1, h, hno => by
    have ih := nxt_skip (L := L) (n := n) (st := st) (m := m) (t := t + 1) (k := k) (by omega) (fun j h1 h2 => hno j (by omega) (by omega))
    conv => lhs; unfold nxt
    rw [if_neg (hno t (Nat.le_refl _) (by omega)), ih, show m + 1 - (k + 1) = m - k by omega, show t + 1 + k = t + (k + 1) by omega]
/-- The next one of all others. -/
def nxtO (L : List Px) (n : Nat) (st : Int) : Int := nxt L n st (L.length - 1) 1
theorem nxtO_hit {L : List Px} {n : Nat} {st : Int} {t : Nat} (h1 : 1 ≤ t) (ht : t < L.length) (hs : stAt L ((n + t) % L.length) = st) (hno : ∀ j, 1 ≤ j → j < t → stAt L ((n + j) % L.length) ≠ st) : nxtO L n st = (((n + t) % L.length : Nat) : Int) := by
  unfold nxtO
  rw [nxt_skip (k := t - 1) (by omega) (fun j a b => hno j a (by omega)), show 1 + (t - 1) = t by omega]
  obtain ⟨m, hm⟩ : ∃ m, L.length - 1 - (t - 1) = m + 1 := ⟨L.length - 1 - (t - 1) - 1, by omega⟩
  rw [hm]
  unfold nxt
  rw [if_pos hs]
theorem nxtO_none {L : List Px} {n : Nat} {st : Int} (hno : ∀ j, 1 ≤ j → j < L.length → stAt L ((n + j) % L.length) ≠ st) : nxtO L n st = -1 := by
  unfold nxtO
  rw [nxt_skip (k := L.length - 1) (Nat.le_refl _) (fun j a b => hno j a (by omega)), Nat.sub_self]
  rfl
/-- The place of the path that is used. -/
def useO (L : List Px) (f : Nat) : Int :=
  if stAt L f ≠ 2 then f else if 0 ≤ nxtO L f 1 then nxtO L f 1 else if 0 ≤ nxtO L f 0 then nxtO L f 0 else f
/-- The place of a path for what was lost on one. -/
def othO (L : List Px) (n : Nat) : Int := if 0 ≤ nxtO L n 1 then nxtO L n 1 else n
/-- Does a path go? -/
def goes (l p k : Int) (i : Nat) (x : Px) : Bool := !decide ((i : Int) = k) && (decide (l = 0) || decide (x.a = l)) && (decide (p = 0) || decide (x.b = p))
/-- The places of those that stay, from a place on. -/
def stays (l p k : Int) : Nat → List Px → List Nat
  | _, [] => []
  | i, x :: r => if goes l p k i x = true then stays l p k (i + 1) r else i :: stays l p k (i + 1) r
theorem stays_append (l p k : Int) : ∀ (A B : List Px) (i : Nat), stays l p k i (A ++ B) = stays l p k i A ++ stays l p k (i + A.length) B
  | [], B, i => by simp [stays]
  | x :: r, B, i => by
    have ih := stays_append l p k r B (i + 1)
    simp only [List.cons_append, stays, ih, List.length_cons]
    rw [show i + 1 + r.length = i + (r.length + 1) by omega]
    split <;> simp
theorem stays_len (l p k : Int) : ∀ (A : List Px) (i : Nat), (stays l p k i A).length ≤ A.length
  | [], _ => Nat.le_refl _
  | x :: r, i => by
    have ih := stays_len l p k r (i + 1)
    unfold stays
    split
    · rw [List.length_cons]; omega
    · rw [List.length_cons, List.length_cons]; omega
theorem stays_lt (l p k : Int) : ∀ (A : List Px) (i : Nat), ∀ q ∈ stays l p k i A, i ≤ q ∧ q < i + A.length
  | [], _, q, h => by cases h
  | x :: r, i, q, h => by
    unfold stays at h
    rw [List.length_cons]
    split at h
    · have := stays_lt l p k r (i + 1) q h; omega
    · rcases List.mem_cons.1 h with rfl | h
      · omega
      · have := stays_lt l p k r (i + 1) q h; omega
/-- Those that are left, by their places; if none were left, the first one. -/
def leftO (L : List Px) (f : Nat) (l p k : Int) : List Nat := if stays l p k 0 L = [] then [f] else stays l p k 0 L
theorem leftO_ne (L : List Px) (f : Nat) (l p k : Int) : leftO L f l p k ≠ [] := by
  unfold leftO
  split
  · simp
  · assumption
theorem leftO_lt {L : List Px} {f : Nat} (hf : f < L.length) (l p k : Int) : ∀ q ∈ leftO L f l p k, q < L.length := by
  intro q hq
  unfold leftO at hq
  split at hq
  · simp at hq; omega
  · have := stays_lt l p k L 0 q hq; omega
theorem leftO_len {L : List Px} {f : Nat} (hf : f < L.length) (l p k : Int) : (leftO L f l p k).length ≤ L.length := by
  unfold leftO
  split
  · simp; omega
  · exact stays_len l p k L 0
/-- The paths at places. -/
def pickL (L : List Px) (P : List Nat) : List Px := P.filterMap fun i => L[i]?
theorem pickL_len {L : List Px} : ∀ {P : List Nat}, (∀ q ∈ P, q < L.length) → (pickL L P).length = P.length
  | [], _ => rfl
  | q :: r, h => by
    have ih := pickL_len (L := L) (P := r) (fun x hx => h x (by simp [hx]))
    have hq := h q (by simp)
    unfold pickL at *
    rw [List.filterMap_cons, List.getElem?_eq_getElem hq, List.length_cons, List.length_cons, ih]
theorem pickL_snoc {L : List Px} {P : List Nat} {q : Nat} {x : Px} (h : L[q]? = some x) : pickL L (P ++ [q]) = pickL L P ++ [x] := by
  unfold pickL
  rw [List.filterMap_append, List.filterMap_cons, h]
  rfl
theorem pickL_mem {L : List Px} {P : List Nat} {x : Px} (h : x ∈ pickL L P) : x ∈ L := by
  obtain ⟨i, _, hi⟩ := List.mem_filterMap.1 h
  exact List.mem_of_getElem? hi
/-- Where the first one comes to be: the last of the places that is it; 0: none is. -/
def atO (f : Nat) : List Nat → Nat → Nat → Nat
  | [], _, a => a
  | q :: r, i, a => atO f r (i + 1) (if q = f then i else a)
theorem atO_snoc (f : Nat) : ∀ (P : List Nat) (q i a : Nat), atO f (P ++ [q]) i a = if q = f then i + P.length else atO f P i a
  | [], q, i, a => by simp [atO]
  | x :: r, q, i, a => by
    rw [List.cons_append, atO, atO_snoc f r q (i + 1), atO, List.length_cons]
    split
    · omega
    · rfl
theorem atO_lt (f : Nat) : ∀ (P : List Nat) (i a : Nat), a < i + P.length ∨ a = 0 → atO f P i a < i + P.length ∨ atO f P i a = 0
  | [], i, a, h => h
  | q :: r, i, a, h => by
    rw [List.length_cons] at h ⊢
    have := atO_lt f r (i + 1) (if q = f then i else a) (by split <;> omega)
    rw [atO]
    omega
end Go.Proofs.Ythddacgdmngfhaa.pat
