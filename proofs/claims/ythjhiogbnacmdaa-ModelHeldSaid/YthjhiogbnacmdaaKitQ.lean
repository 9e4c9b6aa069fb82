/- General words, over any program: rows that are shifted ('q = q[1:]') and appended to. -/
import Derived.Test.YthjhiogbnacmdaaKitD
import Derived.Deep.AppendSrc
import Derived.Deep.Upon
import Derived.Laws.IdiomCopy
namespace Go.Proofs.Ythjhiogbnacmdaa.kit
open Go.ChangeShapes Go.WideShapes Go.ChangeAt Go.RowKit

/-- The block in which a slice's cells lie. -/
def blkOf : Value → Option Nat
  | .slice (some a) _ (_ + 1) => some a.block
  | _ => none
theorem blkOf_pos {a : Addr} {n cap : Nat} (h : 0 < cap) : blkOf (.slice (some a) n cap) = some a.block := by
  cases cap with
  | zero => omega
  | succ c => rfl
theorem blkOf_zero {a : Option Addr} {n : Nat} : blkOf (.slice a n 0) = none := by cases a <;> rfl
theorem add_some (g o k : Nat) : (⟨g, o, none⟩ : Addr).add k = ⟨g, o + k, none⟩ := by unfold Addr.add; split <;> simp_all
/-- A row of one's own, wherever it begins in its block. -/
structure Qo (w : World) (b0 size : Nat) (v : Value) (n : Nat) (xs : List Value) : Prop where
  len : xs.length = n * size
  val : ∃ oa cap, v = .slice oa n cap ∧ n ≤ cap ∧ cap ≤ maxLen ∧ (0 < cap → ∃ g off, oa = some ⟨g, off, none⟩ ∧ b0 ≤ g ∧ g < w.heap.size ∧ (∀ j, j < cap * size → (w.cell? ⟨g, off + j, none⟩).isSome = true ∧ w.frozen? ⟨g, off + j, none⟩ = false) ∧ ∀ j, j < n * size → w.cell? ⟨g, off + j, none⟩ = xs[j]?)
section
variable {w w' : World} {b0 size n : Nat} {v : Value} {xs : List Value}
theorem Qo.nil (w : World) (b0 size : Nat) : Qo w b0 size (.slice none 0 0) 0 [] := ⟨by simp, none, 0, rfl, Nat.le_refl _, by unfold maxLen; omega, fun h => absurd h (Nat.lt_irrefl 0)⟩
theorem Qo.empty (w : World) (b0 size : Nat) (a : Option Addr) : Qo w b0 size (.slice a 0 0) 0 [] := ⟨by simp, a, 0, rfl, Nat.le_refl _, by unfold maxLen; omega, fun h => absurd h (Nat.lt_irrefl 0)⟩
theorem Qo.lt (q : Qo w b0 size v n xs) {g : Nat} (h : blkOf v = some g) : b0 ≤ g ∧ g < w.heap.size := by
  obtain ⟨oa, cap, rfl, h1, h2, h3⟩ := q.val
  rcases Nat.eq_zero_or_pos cap with h0 | h0
  · subst h0; rw [blkOf_zero] at h; cases h
  · obtain ⟨g', off, rfl, h4, h5, _⟩ := h3 h0
    rw [blkOf_pos h0] at h
    cases h
    exact ⟨h4, h5⟩
theorem Qo.block (q : Qo w b0 size v n xs) (hs : w.heap.size ≤ w'.heap.size) (hb : ∀ g, blkOf v = some g → w'.heap[g]? = w.heap[g]?) : Qo w' b0 size v n xs := by
  obtain ⟨oa, cap, rfl, h1, h2, h3⟩ := q.val
  refine ⟨q.len, oa, cap, rfl, h1, h2, fun h0 => ?_⟩
  obtain ⟨g, off, rfl, h4, h5, h6, h7⟩ := h3 h0
  have e := hb g (blkOf_pos h0)
  refine ⟨g, off, rfl, h4, Nat.lt_of_lt_of_le h5 hs, fun j hj => ?_, fun j hj => ?_⟩
  · rw [World.cell?_of_block (a := ⟨g, off + j, none⟩) e, World.frozen?_of_block (a := ⟨g, off + j, none⟩) e]
    exact h6 j hj
  · rw [World.cell?_of_block (a := ⟨g, off + j, none⟩) e]
    exact h7 j hj
theorem Qo.below {k : Nat} (q : Qo w b0 size v n xs) (hb : Below k w w') (hk : w.heap.size ≤ k) : Qo w' b0 size v n xs :=
  q.block hb.size fun g hg => hb.block g (Nat.lt_of_lt_of_le (q.lt hg).2 hk)
theorem Qo.alloc (q : Qo w b0 size v n xs) (o : Obj) : Qo (w.alloc o) b0 size v n xs := q.below ((Below.refl w.heap.size w).alloc (Nat.le_refl _) o) (Nat.le_refl _)
theorem Qo.drew (q : Qo w b0 size v n xs) : Qo w.drew b0 size v n xs := q.block (Nat.le_refl _) fun _ _ => rfl
theorem Qo.far (q : Qo w b0 size v n xs) {p : Addr} (hp : blkOf v ≠ some p.block) (u : Value) : Qo (w.setCell p u) b0 size v n xs :=
  q.block (by simp [World.setCell]) fun g hg => Below.heap_setCell w p u g (fun e => hp (by rw [hg, e]))
theorem Qo.weaken {b1 : Nat} (q : Qo w b0 size v n xs) (h : b1 ≤ b0) : Qo w b1 size v n xs := by
  obtain ⟨oa, cap, rfl, h1, h2, h3⟩ := q.val
  refine ⟨q.len, oa, cap, rfl, h1, h2, fun h0 => ?_⟩
  obtain ⟨g, off, e, h4, h5⟩ := h3 h0
  exact ⟨g, off, e, Nat.le_trans h h4, h5⟩
/-- A row at its block's head. -/
theorem Qo.of_owns {t : TypeId} (own : w.ownsRow b0 t size v n xs) : Qo w b0 size v n xs := by
  rcases own.2 with ⟨rfl, rfl⟩ | ⟨g, cap, cur, rfl, hb, hg, hn, hm, hs, ht⟩
  · have hc : xs = [] := List.length_eq_zero_iff.1 (by rw [own.1, Nat.zero_mul])
    subst hc
    exact Qo.nil w b0 size
  · have B : Blk w g t cur := hg
    refine ⟨own.1, _, cap, rfl, hn, hm, fun h0 => ⟨g, 0, rfl, hb, B.lt, fun j hj => ?_, fun j hj => ?_⟩⟩
    · rw [Nat.zero_add]
      exact ⟨by rw [B.cell j, Array.getElem?_eq_getElem (by omega)]; rfl, B.frozen j⟩
    · rw [Nat.zero_add, B.cell j, ← ht, List.getElem?_take, if_pos hj, Array.getElem?_toList]
/-- The row is shown. -/
theorem Qo.shape (q : Qo w b0 size v n xs) : ∃ oa cap, v = .slice oa n cap ∧ n ≤ cap ∧ cap ≤ maxLen := by
  obtain ⟨oa, cap, h, h1, h2, _⟩ := q.val
  exact ⟨oa, cap, h, h1, h2⟩
/-- Where its elements lie. -/
theorem Qo.show_ (q : Qo w b0 size v n xs) (hn : 0 < n) : ∃ g off cap, v = .slice (some ⟨g, off, none⟩) n cap ∧ n ≤ cap ∧ cap ≤ maxLen ∧ b0 ≤ g ∧ g < w.heap.size ∧ blkOf v = some g ∧ (∀ k (cs : Array Value), k < n → cs.size ≤ size → (∀ j, j < cs.size → cs[j]? = xs[k * size + j]?) → Cel w g (off + k * size) cs) := by
  obtain ⟨oa, cap, rfl, h1, h2, h3⟩ := q.val
  obtain ⟨g, off, rfl, h4, h5, h6, h7⟩ := h3 (by omega)
  refine ⟨g, off, cap, rfl, h1, h2, h4, h5, blkOf_pos (by omega), fun k cs hk hc hx => ⟨h5, fun j u hu => ?_⟩⟩
  have hj : j < cs.size := (Array.getElem?_eq_some_iff.1 hu).1
  have hkn : k * size + j < n * size := by
    have : (k + 1) * size ≤ n * size := Nat.mul_le_mul_right _ hk
    rw [Nat.add_mul, Nat.one_mul] at this
    omega
  have hnc : n * size ≤ cap * size := Nat.mul_le_mul_right _ h1
  rw [Nat.add_assoc, h7 _ hkn, ← hx j hj, hu]
  exact ⟨rfl, (h6 _ (by omega)).2⟩
end
section
variable {P : Program} {w w' : World} {b0 size n : Nat} {v : Value} {xs : List Value}
/-- What it yields as what is appended. -/
theorem Qo.src (q : Qo w b0 size v n xs) {tx e' : TypeId} (hk : P.underlying tx = some (.slice e')) (h1 : ∀ u ∈ xs, u.oneCell' = true) : Src P size tx v n xs w := by
  obtain ⟨oa, cap, rfl, hn, hm, h3⟩ := q.val
  rcases Nat.eq_zero_or_pos cap with h0 | h0
  · subst h0
    obtain rfl : n = 0 := by omega
    have hc : xs = [] := List.length_eq_zero_iff.1 (by rw [q.len, Nat.zero_mul])
    subst hc
    cases oa with
    | none => exact Src.ofNil w hk 0
    | some a => exact Src.ofSlice w hk a 0 0 [] (by simp) (fun j u hu => by simp at hu) (fun u hu => by simp at hu)
  · obtain ⟨g, off, rfl, h4, h5, h6, h7⟩ := h3 h0
    exact Src.ofSlice w hk _ n cap xs q.len (fun j u hu => by
      rw [add_some, h7 j (by rw [← q.len]; exact (List.getElem?_eq_some_iff.1 hu).1), hu]) h1
/-- More behind it, out of whatever source. -/
theorem qo_append {t tx ty e : TypeId} {i : TypeInfo} {z : Value} {bytes m : Nat} {x : Value} {news : List Value} (ht : P.underlying t = some (.slice e)) (hi : P.info? e = some i) (hz : i.zero = some z) (hsize : i.size = size) (hby : i.bytes = bytes) (hzs : z.cells.size = size)
    (q : Qo w b0 size v n xs) (s : Src P size tx x m news w) (h63 : n + m ≤ maxLen) (hbytes : (n + m) * bytes ≤ 140737488355328) (hb : b0 ≤ w.heap.size) :
    ∃ v' w', (Builtin.append_ #[t, tx] ty #[v, x]).run P w = .ok v' w' ∧ Qo w' b0 size v' (n + m) (xs ++ news) ∧ w.grownBy w' (blkOf v) ∧ (blkOf v' = blkOf v ∨ blkOf v' = some w.heap.size ∨ blkOf v' = none) := by
  subst hsize
  subst hby
  obtain ⟨oa, cap, rfl, hn, hm, h3⟩ := q.val
  have hl := q.len
  have hnl := s.newsLen
  by_cases hr : n + m ≤ cap
  · rcases Nat.eq_zero_or_pos cap with h0 | h0
    · subst h0
      obtain rfl : n = 0 := by omega
      obtain rfl : m = 0 := by omega
      have hc : news = [] := List.length_eq_zero_iff.1 (by rw [hnl, Nat.zero_mul])
      subst hc
      exact ⟨_, w, run_append_nothing (P := P) w t tx ty e i ht hi oa 0 0 (Nat.le_refl _) x s, by simpa using q, ⟨rfl, rfl, rfl, Nat.le_refl _, fun _ _ _ => rfl⟩, .inl rfl⟩
    · obtain ⟨g, off, rfl, h4, h5, h6, h7⟩ := h3 h0
      have hnm : (n + m) * i.size ≤ cap * i.size := Nat.mul_le_mul_right _ hr
      rw [Nat.add_mul] at hnm
      have hc : ∀ j, j < news.length → (w.cell? ⟨g, off + n * i.size + j, none⟩).isSome = true := fun j hj => by rw [Nat.add_assoc]; exact (h6 _ (by omega)).1
      have hf : ∀ j, j < news.length → w.frozen? ⟨g, off + n * i.size + j, none⟩ = false := fun j hj => by rw [Nat.add_assoc]; exact (h6 _ (by omega)).2
      have hin := World.cell?_setCells_in g news (off + n * i.size) w hc
      have hout := World.cell?_setCells_out g news (off + n * i.size) w
      refine ⟨_, _, run_append_room_src (P := P) w t tx ty e i ht hi g off n cap x m news s hr hc hf, ⟨by rw [List.length_append, hl, hnl, Nat.add_mul], _, cap, rfl, hr, hm, fun _ => ⟨g, off, rfl, h4, by rw [size_setCells (w := w)]; exact h5, fun j hj => ⟨?_, ?_⟩, fun j hj => ?_⟩⟩, ?_, .inl (by rw [blkOf_pos h0, blkOf_pos h0])⟩
      · by_cases hj1 : j < n * i.size
        · rw [hout ⟨g, off + j, none⟩ (fun _ _ => .inl (by show off + j < off + n * i.size; omega))]
          exact (h6 j hj).1
        · by_cases hj2 : j < n * i.size + news.length
          · rw [show off + j = off + n * i.size + (j - n * i.size) by omega, hin _ (by omega)]
            rfl
          · rw [hout ⟨g, off + j, none⟩ (fun _ _ => .inr (by show off + n * i.size + news.length ≤ off + j; omega))]
            exact (h6 j hj).1
      · rw [World.frozen?_setCells]
        exact (h6 j hj).2
      · rw [Nat.add_mul] at hj
        by_cases hj1 : j < n * i.size
        · rw [hout ⟨g, off + j, none⟩ (fun _ _ => .inl (by show off + j < off + n * i.size; omega)), h7 j hj1, List.getElem?_append_left (by omega)]
        · rw [show off + j = off + n * i.size + (j - n * i.size) by omega, hin _ (by omega), List.getElem?_append_right (by omega), hl, List.getElem?_eq_getElem (by omega)]
      · refine ⟨?_, ?_, ?_, by rw [size_setCells (w := w)]; exact Nat.le_refl _, fun k hk hne => ?_⟩
        · exact (below_setCells (Below.refl g w) (Nat.le_refl _) _ news).os
        · exact (below_setCells (Below.refl g w) (Nat.le_refl _) _ news).tape
        · exact (below_setCells (Below.refl g w) (Nat.le_refl _) _ news).output
        · have hkg : k ≠ g := fun e => hne (by rw [blkOf_pos h0, e])
          clear hin hout hc hf
          have : ∀ (vs : List Value) (o : Nat) (w : World), (w.setCells g o vs).heap[k]? = w.heap[k]? := by
            intro vs
            induction vs with
            | nil => intro _ _; rfl
            | cons v r ih => intro o w; exact (ih (o + 1) _).trans (Below.heap_setCell w ⟨g, o, none⟩ v k hkg)
          exact this _ _ _
  · have hold : (Builtin.firstCells i.size n (.slice oa n cap)).run P w.drew = .ok xs.toArray w.drew := by
      rcases Nat.eq_zero_or_pos cap with h0 | h0
      · obtain rfl : n = 0 := by omega
        have hc : xs = [] := List.length_eq_zero_iff.1 (by rw [hl, Nat.zero_mul])
        subst hc
        cases oa with
        | none => exact run_firstCells_none w.drew _ _ _ _
        | some a => exact run_firstCells_some w.drew i.size 0 a 0 cap [] (by simp) (fun j u hu => by simp at hu)
      · obtain ⟨g, off, rfl, h4, h5, h6, h7⟩ := h3 h0
        exact run_firstCells_some w.drew i.size n _ n cap xs hl (fun j u hu => by
          rw [add_some]
          exact (h7 j (by rw [← hl]; exact (List.getElem?_eq_some_iff.1 hu).1)).trans hu)
    have hrun := run_append_grow_src (P := P) w t tx ty e i z ht hi hz oa n cap xs hold x m news s (by omega) (by unfold maxLen at h63; omega) (growslice_fits (by omega) hbytes)
    have hge := grownCap_ge w (n + m) cap e
    have hcm := grownCap_le_maxLen w (n + m) cap e h63
    have hL : (xs ++ news).length = (n + m) * i.size := by rw [List.length_append, hl, hnl, Nat.add_mul]
    have hsz : ((xs ++ news).toArray ++ Builtin.zeroCells z.cells (grownCap w (n + m) cap e - (n + m))).size = grownCap w (n + m) cap e * i.size := by
      rw [Array.size_append, List.size_toArray, hL, size_zeroCells, hzs, ← Nat.add_mul]
      congr 1
      omega
    refine ⟨_, _, hrun, ⟨hL, _, _, rfl, hge, hcm, fun h0 => ⟨w.heap.size, 0, rfl, hb, (by show w.heap.size < _; simp), fun j hj => ?_, fun j hj => ?_⟩⟩, ⟨rfl, rfl, rfl, by simp, fun k hk _ => Below.heap_alloc w.drew _ k hk⟩, ?_⟩
    · have e1 : (w.drew.alloc (.cells ((xs ++ news).toArray ++ Builtin.zeroCells z.cells (grownCap w (n + m) cap e - (n + m))) e)).cell? ⟨w.heap.size, 0 + j, none⟩ = _ := World.cell?_alloc_new w.drew _ _ (0 + j)
      refine ⟨?_, World.frozen?_alloc_new w.drew _ _ (0 + j)⟩
      rw [e1, Array.getElem?_eq_getElem (by rw [hsz]; omega)]
      rfl
    · have e1 : (w.drew.alloc (.cells ((xs ++ news).toArray ++ Builtin.zeroCells z.cells (grownCap w (n + m) cap e - (n + m))) e)).cell? ⟨w.heap.size, 0 + j, none⟩ = _ := World.cell?_alloc_new w.drew _ _ (0 + j)
      rw [e1, Nat.zero_add, Array.getElem?_append_left (by rw [List.size_toArray, hL]; exact hj), List.getElem?_toArray]
    · right
      rcases Nat.eq_zero_or_pos (grownCap w (n + m) cap e) with h0 | h0
      · rw [h0]; exact .inr blkOf_zero
      · exact .inl (blkOf_pos h0)
/-- 'q[1:]'. -/
theorem qo_tail {t e : TypeId} (ht : P.underlying t = some (.slice e)) (hi : (P.info? e).map (·.size) = some size) (q : Qo w b0 size v n xs) (hn : 0 < n) (k : IntKind) : ∃ v', (∀ W, (Instr.slice t v (some (.int k 1)) none none).run P W = .ok v' W) ∧ Qo w b0 size v' (n - 1) (xs.drop size) ∧ (blkOf v' = blkOf v ∨ blkOf v' = none) := by
  obtain ⟨oa, cap, rfl, hc, hm, h3⟩ := q.val
  obtain ⟨g, off, rfl, h4, h5, h6, h7⟩ := h3 (by omega)
  have hl := q.len
  cases hi' : P.info? e with
  | none => rw [hi'] at hi; cases hi
  | some i =>
    have hsz : i.size = size := by rw [hi'] at hi; exact Option.some.inj hi
    refine ⟨.slice (if cap = 1 then some ⟨g, off, none⟩ else some ⟨g, off + size, none⟩) (n - 1) (cap - 1), fun W => ?_, ⟨?_, _, cap - 1, rfl, by omega, by omega, fun h0 => ?_⟩, ?_⟩
    · have h1 : (1 : Int) ≤ (n : Int) := by omega
      have h2 : (cap = 1) = ((cap : Int) = 1) := by simp; omega
      simp [Instr.slice, run_underlying ht, Instr.sliceBounds, run_sliceBound, sizeOf, typeInfo, hi', hsz, h1, add_some]
    · rw [List.length_drop, hl, Nat.sub_mul, Nat.one_mul]
    · rw [if_neg (by omega)]
      have hcs : (cap - 1) * size + size = cap * size := by rw [← Nat.succ_mul, Nat.succ_eq_add_one, show cap - 1 + 1 = cap by omega]
      have hns : (n - 1) * size + size = n * size := by rw [← Nat.succ_mul, Nat.succ_eq_add_one, show n - 1 + 1 = n by omega]
      refine ⟨g, off + size, rfl, h4, h5, fun j hj => ?_, fun j hj => ?_⟩
      · rw [Nat.add_assoc]
        exact h6 _ (by omega)
      · rw [Nat.add_assoc, h7 _ (by omega), List.getElem?_drop]
    · rcases Nat.eq_zero_or_pos (cap - 1) with h0 | h0
      · right; rw [h0]; exact blkOf_zero
      · left
        rw [if_neg (by omega), blkOf_pos h0, blkOf_pos (by omega)]
end
end Go.Proofs.Ythjhiogbnacmdaa.kit
