/- Layer 18: streams that hold whatever messages. -/
import Derived.Test.YthddacgdmngfhaaDvM
import Derived.Test.YthddacgdmngfhaaDelF
import Derived.Test.YthddacgdmngfhaaKitW
namespace Go.Proofs.Ythddacgdmngfhaa.del
open Go.Sort (grow)
open Go.ChangeShapes Go.WideShapes Go.ChangeAt Go.RowKit kit
set_option maxRecDepth 100000

/-- Streams as cells: the next place, and the map of those that wait. -/
def cellsZ : List (Nat × Nat) → List Value
  | [] => []
  | z :: r => .int .u16 (z.1 : Nat) :: .map (some z.2) :: cellsZ r
theorem cellsZ_len : ∀ Z : List (Nat × Nat), (cellsZ Z).length = Z.length * 2
  | [] => rfl
  | z :: r => by simp only [cellsZ, List.length_cons, cellsZ_len r]; omega
theorem cellsZ_append : ∀ Y Z : List (Nat × Nat), cellsZ (Y ++ Z) = cellsZ Y ++ cellsZ Z
  | [], _ => rfl
  | y :: r, Z => by simp only [List.cons_append, cellsZ, cellsZ_append r Z]
theorem cellsZ_get {z : Nat × Nat} : ∀ {Z : List (Nat × Nat)} {k : Nat}, Z[k]? = some z → ∀ j, j < (st (z.1 : Nat) z.2).size → (st (z.1 : Nat) z.2)[j]? = (cellsZ Z)[k * 2 + j]?
  | [], _, h, _, _ => by simp at h
  | y :: r, 0, h, j, hj => by
    obtain rfl : y = z := by simpa using h
    have hj2 : j < 2 := hj
    rcases (by omega : j = 0 ∨ j = 1) with rfl | rfl <;> rfl
  | y :: r, k + 1, h, j, hj => by
    have ih := cellsZ_get (Z := r) (k := k) (by simpa using h) j hj
    rw [ih, cellsZ, show (k + 1) * 2 + j = k * 2 + j + 1 + 1 by omega, List.getElem?_cons_succ, List.getElem?_cons_succ]
theorem cellsZ_set (n : Nat) {z : Nat × Nat} : ∀ {Z : List (Nat × Nat)} {k : Nat}, Z[k]? = some z → (cellsZ Z).set (k * 2) (.int .u16 (n : Nat)) = cellsZ (Z.set k (n, z.2))
  | [], _, h => by simp at h
  | y :: r, 0, h => by
    obtain rfl : y = z := by simpa using h
    rfl
  | y :: r, k + 1, h => by
    have ih := cellsZ_set n (Z := r) (k := k) (by simpa using h)
    rw [cellsZ, show (k + 1) * 2 = k * 2 + 1 + 1 by omega, List.set_cons_succ, List.set_cons_succ, ih]
    rfl
/-- Streams in memory: b bytes are told; these next places and maps; those that wait; those that can be read. -/
structure Dw (b0 g : Nat) (sv rv : Value) (b : Nat) (Z : List (Nat × Nat)) (W O : List Mg) (w : World) : Prop where
  B : Blk w g 199 #[sv, rv, .int .i64 (b : Nat)]
  s : Qo w b0 2 sv Z.length (cellsZ Z)
  r : Qo w b0 5 rv O.length (cellsM O)
  m : ∀ (k : Nat) (z : Nat × Nat), Z[k]? = some z → b0 ≤ z.2 ∧ ∃ es c, MapB w z.2 es c ∧ EntM es.toList (ofS k W)
  mi : ∀ (i j : Nat) (x y : Nat × Nat), Z[i]? = some x → Z[j]? = some y → x.2 = y.2 → i = j
  ns : blkOf sv ≠ some g
  nr : blkOf rv ≠ some g
  sr : ∀ k, blkOf sv = some k → blkOf rv ≠ some k
  mg : ∀ z ∈ Z, z.2 ≠ g ∧ blkOf sv ≠ some z.2 ∧ blkOf rv ≠ some z.2
  hg : b0 ≤ g
  zl : ∀ z ∈ Z, z.1 < 65536
  sw : ∀ x ∈ W, 0 ≤ x.st ∧ x.st < (Z.length : Int)
/-- The blocks of streams. -/
def Foot (g : Nat) (sv rv : Value) (Z : List (Nat × Nat)) (k : Nat) : Prop := k = g ∨ blkOf sv = some k ∨ blkOf rv = some k ∨ ∃ z ∈ Z, z.2 = k
section
variable {b0 g b : Nat} {sv rv : Value} {Z : List (Nat × Nat)} {W O : List Mg} {w w' : World}
theorem Dw.mlt (h : Dw b0 g sv rv b Z W O w) {z : Nat × Nat} (hz : z ∈ Z) : b0 ≤ z.2 ∧ z.2 < w.heap.size := by
  obtain ⟨k, hk⟩ := List.getElem?_of_mem hz
  obtain ⟨h1, es, c, M, _⟩ := h.m k z hk
  exact ⟨h1, M.lt⟩
theorem Dw.foot (h : Dw b0 g sv rv b Z W O w) {k : Nat} (hk : Foot g sv rv Z k) : b0 ≤ k ∧ k < w.heap.size := by
  rcases hk with rfl | hk | hk | ⟨z, hz, rfl⟩
  · exact ⟨h.hg, h.B.lt⟩
  · exact h.s.lt hk
  · exact h.r.lt hk
  · exact h.mlt hz
theorem Dw.frame (h : Dw b0 g sv rv b Z W O w) (hs : w.heap.size ≤ w'.heap.size) (hb : ∀ k, Foot g sv rv Z k → w'.heap[k]? = w.heap[k]?) : Dw b0 g sv rv b Z W O w' :=
  ⟨(hb g (.inl rfl)).trans h.B, h.s.block hs fun k hk => hb k (.inr (.inl hk)), h.r.block hs fun k hk => hb k (.inr (.inr (.inl hk))),
    fun k z hz => by
      obtain ⟨h1, es, c, M, E⟩ := h.m k z hz
      exact ⟨h1, es, c, M.block (hb z.2 (.inr (.inr (.inr ⟨z, List.mem_of_getElem? hz, rfl⟩)))), E⟩,
    h.mi, h.ns, h.nr, h.sr, h.mg, h.hg, h.zl, h.sw⟩
theorem Dw.below {k : Nat} (h : Dw b0 g sv rv b Z W O w) (hb : Below k w w') (hk : w.heap.size ≤ k) : Dw b0 g sv rv b Z W O w' :=
  h.frame hb.size fun j hj => hb.block j (Nat.lt_of_lt_of_le (h.foot hj).2 hk)
theorem Dw.alloc (h : Dw b0 g sv rv b Z W O w) (o : Obj) : Dw b0 g sv rv b Z W O (w.alloc o) := h.below ((Below.refl w.heap.size w).alloc (Nat.le_refl _) o) (Nat.le_refl _)
theorem Dw.drew (h : Dw b0 g sv rv b Z W O w) : Dw b0 g sv rv b Z W O w.drew := h.frame (Nat.le_refl _) fun _ _ => rfl
theorem Dw.weaken {b1 : Nat} (h : Dw b0 g sv rv b Z W O w) (hb : b1 ≤ b0) : Dw b1 g sv rv b Z W O w :=
  ⟨h.B, h.s.weaken hb, h.r.weaken hb, fun k z hz => ⟨Nat.le_trans hb (h.m k z hz).1, (h.m k z hz).2⟩, h.mi, h.ns, h.nr, h.sr, h.mg, Nat.le_trans hb h.hg, h.zl, h.sw⟩
/-- Its number of bytes written. -/
theorem Dw.setB (h : Dw b0 g sv rv b Z W O w) (b' : Nat) : Dw b0 g sv rv b' Z W O (w.setCell ⟨g, 2, none⟩ (.int .i64 (b' : Nat))) :=
  ⟨h.B.set_ 2 _, h.s.far (p := ⟨g, 2, none⟩) h.ns _, h.r.far (p := ⟨g, 2, none⟩) h.nr _, fun k z hz => by
    obtain ⟨h1, es, c, M, E⟩ := h.m k z hz
    exact ⟨h1, es, c, M.far (p := ⟨g, 2, none⟩) (h.mg z (List.mem_of_getElem? hz)).1 _, E⟩, h.mi, h.ns, h.nr, h.sr, h.mg, h.hg, h.zl, h.sw⟩
/-- Another row of those that can be read, of which the cell says so. -/
theorem Dw.setR {rv' : Value} {O' : List Mg} (h : Dw b0 g sv rv b Z W O w) (q : Qo w b0 5 rv' O'.length (cellsM O')) (hn : ∀ k, blkOf rv' = some k → k ≠ g ∧ blkOf sv ≠ some k ∧ ∀ z ∈ Z, z.2 ≠ k) : Dw b0 g sv rv' b Z W O' (w.setCell ⟨g, 1, none⟩ rv') :=
  ⟨h.B.set_ 1 _, h.s.far (p := ⟨g, 1, none⟩) h.ns _, q.far (p := ⟨g, 1, none⟩) (fun e => (hn g e).1 rfl) _, fun k z hz => by
    obtain ⟨h1, es, c, M, E⟩ := h.m k z hz
    exact ⟨h1, es, c, M.far (p := ⟨g, 1, none⟩) (h.mg z (List.mem_of_getElem? hz)).1 _, E⟩, h.mi, h.ns, fun e => (hn g e).1 rfl, fun k hk e => (hn k e).2.1 hk,
    fun z hz => ⟨(h.mg z hz).1, (h.mg z hz).2.1, fun e => (hn z.2 e).2.2 z hz rfl⟩, h.hg, h.zl, h.sw⟩
/-- Where a stream lies. -/
theorem Dw.at_ (h : Dw b0 g sv rv b Z W O w) {k : Nat} {z : Nat × Nat} (hz : Z[k]? = some z) : ∃ hh off cap, sv = .slice (some ⟨hh, off, none⟩) Z.length cap ∧ Z.length ≤ cap ∧ cap ≤ maxLen ∧ b0 ≤ hh ∧ hh < w.heap.size ∧ blkOf sv = some hh ∧ Cel w hh (off + k * 2) (st (z.1 : Nat) z.2) := by
  have hk : k < Z.length := (List.getElem?_eq_some_iff.1 hz).1
  obtain ⟨hh, off, cap, e, h1, h2, h3, h4, h5, h6⟩ := h.s.show_ (by omega)
  exact ⟨hh, off, cap, e, h1, h2, h3, h4, h5, h6 k _ hk (Nat.le_refl 2) (cellsZ_get hz)⟩
/-- A stream's next place written. -/
theorem Dw.setN {k hh off cap : Nat} {z : Nat × Nat} (h : Dw b0 g sv rv b Z W O w) (hz : Z[k]? = some z) (hv : sv = .slice (some ⟨hh, off, none⟩) Z.length cap) (hb : blkOf sv = some hh) (n : Nat) (hn : n < 65536) : Dw b0 g sv rv b (Z.set k (n, z.2)) W O (w.setCell ⟨hh, off + k * 2, none⟩ (.int .u16 (n : Nat))) := by
  have hk : k < Z.length := (List.getElem?_eq_some_iff.1 hz).1
  have q := h.s.set_ hv (k * 2) (by omega) (.int .u16 (n : Nat))
  rw [cellsZ_set n hz] at q
  have hhg : hh ≠ g := fun e => h.ns (by rw [hb, e])
  have hget : ∀ (j : Nat) (y : Nat × Nat), (Z.set k (n, z.2))[j]? = some y → ∃ x, Z[j]? = some x ∧ x.2 = y.2 := fun j y hy => by
    by_cases e : k = j
    · subst e
      rw [List.getElem?_set_self hk] at hy
      cases hy
      exact ⟨z, hz, rfl⟩
    · rw [List.getElem?_set_ne e] at hy
      exact ⟨y, hy, rfl⟩
  refine ⟨h.B.far (p := ⟨hh, off + k * 2, none⟩) (Ne.symm hhg) _, by rw [List.length_set]; exact q, h.r.far (p := ⟨hh, off + k * 2, none⟩) (h.sr hh hb) _, fun j y hy => ?_, fun i j x y hx hy e => ?_, h.ns, h.nr, h.sr, fun y hy => ?_, h.hg, fun y hy => ?_, by rw [List.length_set]; exact h.sw⟩
  · obtain ⟨x, hx, he⟩ := hget j y hy
    obtain ⟨h1, es, c, M, E⟩ := h.m j x hx
    rw [← he]
    exact ⟨h1, es, c, M.far (p := ⟨hh, off + k * 2, none⟩) (fun e => (h.mg x (List.mem_of_getElem? hx)).2.1 (by rw [hb]; exact congrArg some e.symm)) _, E⟩
  · obtain ⟨x', hx', e1⟩ := hget i x hx
    obtain ⟨y', hy', e2⟩ := hget j y hy
    exact h.mi i j x' y' hx' hy' (by rw [e1, e2, e])
  · obtain ⟨j, hj⟩ := List.getElem?_of_mem hy
    obtain ⟨x, hx, he⟩ := hget j y hj
    rw [← he]
    exact h.mg x (List.mem_of_getElem? hx)
  · rcases List.mem_or_eq_of_mem_set hy with h' | h'
    · exact h.zl y h'
    · rw [h']; exact hn
/-- A stream's map written. -/
theorem Dw.setM {k c' : Nat} {z : Nat × Nat} {es' : Array MapEntry} {W' : List Mg} (h : Dw b0 g sv rv b Z W O w) (hz : Z[k]? = some z) (hE : EntM es'.toList (ofS k W')) (ho : ∀ t, t ≠ k → ofS t W' = ofS t W) (hsw : ∀ x ∈ W', 0 ≤ x.st ∧ x.st < (Z.length : Int)) (M' : MapB w' z.2 es' c') (hO : Only z.2 w w') : Dw b0 g sv rv b Z W' O w' := by
  have hzm := List.mem_of_getElem? hz
  obtain ⟨hzg, hzs, hzr⟩ := h.mg z hzm
  refine ⟨hO.blk h.B (Ne.symm hzg), h.s.block hO.size fun j hj => hO.block j (h.s.lt hj).2 (fun e => hzs (by rw [hj, e])), h.r.block hO.size fun j hj => hO.block j (h.r.lt hj).2 (fun e => hzr (by rw [hj, e])), fun j y hy => ?_, h.mi, h.ns, h.nr, h.sr, h.mg, h.hg, h.zl, hsw⟩
  by_cases e : j = k
  · subst e
    rw [hz] at hy
    cases hy
    exact ⟨(h.m j z hz).1, es', c', M', hE⟩
  · obtain ⟨h1, es, c, M, E⟩ := h.m j y hy
    exact ⟨h1, es, c, M.block (hO.block y.2 M.lt (fun e2 => e (h.mi j k y z hy hz e2))), by rw [ho j e]; exact E⟩
theorem dv_many (h : Dw b0 g sv rv b Z W O w) : Calls Try.prog 57 #[.pointer (some ⟨g, 0, none⟩)] w fun e w' => e = .returned (.int .i64 Z.length) ∧ w' = w := by
  obtain ⟨oa, cap, rfl, _, _⟩ := h.s.shape
  have c0 : w.cell? ⟨g, 0, none⟩ = some (.slice oa Z.length cap) := h.B.cell 0
  go_enter Try.func57, Try.ntmps57
  go_wp2_with fail
  go_ret
  exact ⟨rfl, rfl⟩
theorem dv_ready (h : Dw b0 g sv rv b Z W O w) : Calls Try.prog 55 #[.pointer (some ⟨g, 0, none⟩)] w fun e w' => e = .returned (.int .i64 O.length) ∧ w' = w := by
  obtain ⟨oa, cap, rfl, _, _⟩ := h.r.shape
  have c0 : w.cell? ⟨g, 1, none⟩ = some (.slice oa O.length cap) := h.B.cell 1
  go_enter Try.func55, Try.ntmps55
  go_wp2_with fail
  go_ret
  exact ⟨rfl, rfl⟩
theorem dv_bytes (h : Dw b0 g sv rv b Z W O w) : Calls Try.prog 56 #[.pointer (some ⟨g, 0, none⟩)] w fun e w' => e = .returned (.int .i64 (b : Nat)) ∧ w' = w := by
  have c0 : w.cell? ⟨g, 2, none⟩ = some (.int .i64 (b : Nat)) := h.B.cell 2
  go_enter Try.func56, Try.ntmps56
  go_wp2_with fail
  go_ret
  exact ⟨rfl, rfl⟩
end
/-- How far a place is behind another one, of 16 bits. -/
def far16 (p n : Nat) : Nat := (p + 65536 - n) % 65536
theorem less16_gen (a b : Nat) (ha : a < 65536) (hb : b < 65536) (w : World) : Calls Try.prog 156 #[.int .u16 a, .int .u16 b] w fun e w' => e = .returned (.bool (decide (32768 < far16 a b))) ∧ w' = w := by
  unfold far16
  by_cases h : a = b
  · subst h
    rw [decide_eq_false (by omega)]
    go_enter Try.func156, Try.ntmps156
    go_wp2
    go_ret
    exact ⟨rfl, rfl⟩
  · have e1 : ((a : Int) == (b : Int)) = false := by simp; omega
    obtain ⟨d, e2, e3⟩ : ∃ d : Int, IntKind.u16.wrap ((b : Int) - a) = d ∧ d = ((b : Int) - a) % 65536 := ⟨_, rfl, rfl⟩
    by_cases h2 : d < 32768
    · rw [decide_eq_true (by omega)]
      go_enter Try.func156, Try.ntmps156
      go_wp2
      go_ret
      exact ⟨by first | rfl | (congr 1; simp; omega), rfl⟩
    · have h3 : (32768 : Int) ≤ d := by omega
      rw [decide_eq_false (by omega)]
      go_enter Try.func156, Try.ntmps156
      go_wp2
      go_ret
      exact ⟨by first | rfl | (congr 1; simp; omega), rfl⟩
end Go.Proofs.Ythddacgdmngfhaa.del
