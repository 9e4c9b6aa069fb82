/- Layer 20: the world of the statement where a message is put. -/
import Derived.Test.YthddacgdmngfhaaSqS
namespace Go.Proofs.Ythddacgdmngfhaa.fra
open Go.Sort (grow)
open Go.ChangeShapes Go.WideShapes Go.ChangeAt Go.RowKit kit byt fil
set_option maxRecDepth 1000000
/-- A queue, the statement's own rows, and the message. -/
structure So (G g mb : Nat) (pv cv nv lv : Value) (P' : List Nat) (C' : List Ck) (P : List Nat) (C : List Ck) (X : Array Value) (w : World) : Prop where
  s : Sq G g pv cv P' C' w
  n : Qo w G 1 nv P.length (cellsN P)
  l : Qo w G 15 lv C.length (cellsC C)
  m : Blk w mb 30 X
  hg : mb ≠ g
  hm : ∀ v, v = pv ∨ v = cv ∨ v = nv ∨ v = lv → blkOf v ≠ some mb
  d1 : blkOf nv ≠ some g
  d2 : blkOf lv ≠ some g
  d3 : ∀ k, blkOf pv = some k ∨ blkOf cv = some k → blkOf nv ≠ some k ∧ blkOf lv ≠ some k
  d4 : ∀ k, blkOf nv = some k → blkOf lv ≠ some k
  hG : G ≤ mb
section
variable {G g mb : Nat} {pv cv nv lv : Value} {P' P : List Nat} {C' C : List Ck} {X : Array Value} {w w' : World}
theorem So.below {k : Nat} (h : So G g mb pv cv nv lv P' C' P C X w) (hb : Below k w w') (hk : w.heap.size ≤ k) : So G g mb pv cv nv lv P' C' P C X w' :=
  ⟨h.s.below hb hk, h.n.below hb hk, h.l.below hb hk, h.m.below hb (Nat.lt_of_lt_of_le h.m.lt hk), h.hg, h.hm, h.d1, h.d2, h.d3, h.d4, h.hG⟩
theorem So.setM (h : So G g mb pv cv nv lv P' C' P C X w) (j : Nat) (u : Value) : So G g mb pv cv nv lv P' C' P C (X.setIfInBounds j u) (w.setCell ⟨mb, j, none⟩ u) := by
  have hm := h.hm
  refine ⟨h.s.frame (by simp [World.setCell]) (fun b hb => Below.heap_setCell w ⟨mb, j, none⟩ u b ?_), h.n.far (fun e => hm nv (by simp) e) u, h.l.far (fun e => hm lv (by simp) e) u, h.m.set_ j u, h.hg, h.hm, h.d1, h.d2, h.d3, h.d4, h.hG⟩
  show b ≠ mb
  rcases hb with rfl | hb | hb
  · exact fun e => h.hg e.symm
  · exact fun e => hm pv (by simp) (e ▸ hb)
  · exact fun e => hm cv (by simp) (e ▸ hb)
/-- Another row of places, in new memory. -/
theorem So.newN {nv' : Value} {Q : List Nat} (h : So G g mb pv cv nv lv P' C' P C X w) (hb : Below w.heap.size w w') (n : Qo w' w.heap.size 1 nv' Q.length (cellsN Q)) : So G g mb pv cv nv' lv P' C' Q C X w' := by
  have h' := h.below hb (Nat.le_refl _)
  have hG : G ≤ w.heap.size := by have := h.hG; have := h.m.lt; omega
  have hlt : ∀ k, blkOf nv' = some k → w.heap.size ≤ k := fun k hk => (n.lt hk).1
  refine ⟨h'.s, n.weaken hG, h'.l, h'.m, h.hg, ?_, fun e => by have := hlt g e; have := h.s.B.lt; omega, h.d2, fun k hk => ⟨fun e => ?_, (h.d3 k hk).2⟩, fun k hk e => ?_, h.hG⟩
  · rintro v (rfl | rfl | rfl | rfl)
    · exact h.hm _ (by simp)
    · exact h.hm _ (by simp)
    · exact fun e => by have := hlt mb e; have := h.m.lt; omega
    · exact h.hm _ (by simp)
  · have := hlt k e
    rcases hk with hk | hk
    · have := (h.s.p.lt hk).2; omega
    · have := (h.s.c.lt hk).2; omega
  · have := hlt k hk; have := (h.l.lt e).2; omega
/-- Another list, in new memory. -/
theorem So.newL {lv' : Value} {D : List Ck} (h : So G g mb pv cv nv lv P' C' P C X w) (hb : Below w.heap.size w w') (n : Qo w' w.heap.size 15 lv' D.length (cellsC D)) : So G g mb pv cv nv lv' P' C' P D X w' := by
  have h' := h.below hb (Nat.le_refl _)
  have hG : G ≤ w.heap.size := by have := h.hG; have := h.m.lt; omega
  have hlt : ∀ k, blkOf lv' = some k → w.heap.size ≤ k := fun k hk => (n.lt hk).1
  refine ⟨h'.s, h'.n, n.weaken hG, h'.m, h.hg, ?_, h.d1, fun e => by have := hlt g e; have := h.s.B.lt; omega, fun k hk => ⟨(h.d3 k hk).1, fun e => ?_⟩, fun k hk e => ?_, h.hG⟩
  · rintro v (rfl | rfl | rfl | rfl)
    · exact h.hm _ (by simp)
    · exact h.hm _ (by simp)
    · exact h.hm _ (by simp)
    · exact fun e => by have := hlt mb e; have := h.m.lt; omega
  · have := hlt k e
    rcases hk with hk | hk
    · have := (h.s.p.lt hk).2; omega
    · have := (h.s.c.lt hk).2; omega
  · have := hlt k e; have := (h.n.lt hk).2; omega
theorem So.setN {oa : Option Addr} {cap k : Nat} (h : So G g mb pv cv (.slice oa P.length cap) lv P' C' P C X w) (hk : k < P.length) (p : Nat) : ∃ nb no, oa = some ⟨nb, no, none⟩ ∧ G ≤ nb ∧ (w.cell? ⟨nb, no + k, none⟩ = some (.int .i64 (P[k] : Int)) ∧ w.frozen? ⟨nb, no + k, none⟩ = false) ∧ So G g mb pv cv (.slice oa P.length cap) lv P' C' (P.set k p) C X (w.setCell ⟨nb, no + k, none⟩ (.int .i64 (p : Int))) := by
  obtain ⟨nb, no, cap', hv, h1, h2, h3, h4, hb, hK⟩ := h.n.show_ (by omega)
  simp only [Value.slice.injEq, true_and] at hv
  obtain ⟨rfl, rfl⟩ := hv
  have K := hK k #[.int .i64 (P[k] : Int)] hk (by show 1 ≤ 1; omega) (fun j hj => by
    obtain rfl : j = 0 := by simpa using hj
    rw [Nat.mul_one, Nat.add_zero, cellsN_get P k hk]; rfl)
  rw [Nat.mul_one] at K
  have c := K.cell 0 (u := .int .i64 (P[k] : Int)) rfl
  have f := K.frozen 0 (by show 0 < 1; omega)
  have q := h.n.set_ rfl k (by omega) (.int .i64 (p : Int))
  rw [cellsN_set] at q
  have hm := h.hm
  refine ⟨nb, no, rfl, h3, ⟨c, f⟩, ⟨h.s.frame (by simp [World.setCell]) (fun b hb' => Below.heap_setCell w ⟨nb, no + k, none⟩ _ b ?_), by rw [List.length_set]; exact q, h.l.far (fun e => h.d4 nb hb e) _, h.m.far (p := ⟨nb, no + k, none⟩) (fun e => hm _ (.inr (.inr (.inl rfl))) (by rw [hb]; exact congrArg some e.symm)) _, h.hg, h.hm, h.d1, h.d2, h.d3, h.d4, h.hG⟩⟩
  show b ≠ nb
  rcases hb' with rfl | hb' | hb'
  · exact fun e => h.d1 (by rw [hb, e])
  · exact fun e => (h.d3 b (.inl hb')).1 (by rw [hb, e])
  · exact fun e => (h.d3 b (.inr hb')).1 (by rw [hb, e])
theorem So.gs (h : So G g mb pv cv nv lv P C P C X w) : Gs G g pv cv nv lv P C w := ⟨h.s, h.n, h.l, h.d1, h.d2, h.d3, h.d4⟩
end
noncomputable def codeO : Code := ((Try.f3.body.bind (findCond 134)).map (·.2)).getD .skip
end Go.Proofs.Ythddacgdmngfhaa.fra
