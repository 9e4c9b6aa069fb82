/- General words, over any program: a row that is a field of a struct, or of a row's element, opened. -/
import Derived.Test.YthjhiogbnacmdaaKit
namespace Go.Proofs.Ythjhiogbnacmdaa.kit
open Go.ChangeShapes Go.WideShapes Go.ChangeAt Go.RowKit

theorem open_rowT {H : Type} {enc : TypeId × Value → H} {P : Program} {W : World} {b0 : Nat} {sp : Nat → Bool} {hd : Bool} {t e : TypeId} {v : Value} (n : Nat) {sh : List Sh}
    (ht : P.underlying t = some (.slice e)) (hsh : flat P n e = some sh) (hC : P.cellsOf e = sh.length) (hpos : 0 < sh.length)
    (h : ∃ m x, DataW.trod enc P W b0 sp hd m t [v] = some x) : FlatRow enc P W b0 sp hd sh v := by
  obtain ⟨fuel, ⟨d, p⟩, hf⟩ := h
  have hlt : ∀ x ∈ p, x.block < W.heap.size := DataW.trod_lt _ _ _ _ hf
  rcases Go.Deep.open_slice ht hf with ⟨hcs, _⟩ | ⟨a, len, cap, m, k, D, Pl, hcs, _, hl, hm, hmm, hx, hi⟩
  · simp only [List.cons.injEq, and_true] at hcs
    subst hcs
    exact .inl rfl
  · simp only [List.cons.injEq, and_true] at hcs
    subst hcs
    have hlm : len ≤ m := by rw [hmm]; split <;> omega
    obtain ⟨C, hC'⟩ := Go.Deep.choose_lt (α := List Value) (p := fun i cs' => W.cells? b0 (a.add (i * P.cellsOf e)) (P.cellsOf e) = some cs' ∧ DataW.trod enc P W b0 sp hd k e cs' = some (D i, Pl i)) hi
    refine .inr ⟨a, len, cap, C, rfl, hl, hm, fun h0 => ?_, fun i hil => ?_⟩
    · simp only [Prod.mk.injEq] at hx
      have hp := hx.2
      subst hp
      have hmem : (MemPlace.cell a.block (a.off + 0)) ∈ MemPlace.row a (m * P.cellsOf e) ++ (List.range m).flatMap Pl := by
        rw [List.mem_append]; left
        have : 0 < m * P.cellsOf e := by rw [hC]; exact Nat.mul_pos (by omega) hpos
        unfold MemPlace.row
        exact List.mem_map.2 ⟨0, by simpa using this, rfl⟩
      exact hlt _ hmem
    · obtain ⟨h1, h2⟩ := hC' i (by omega)
      have hfl := flat_ok enc P W b0 sp hd n e sh k _ _ hsh hC h2
      refine ⟨hfl, fun j u hu => ?_⟩
      obtain ⟨_, hcl, hat⟩ := World.cells?_some h1
      have hj : j < P.cellsOf e := by
        have := FlatOK.length enc P W b0 sp hd hfl
        have hj2 : j < (C i).length := (List.getElem?_eq_some_iff.1 hu).1
        omega
      have := hat j hj
      rw [hC] at this
      rw [← Go.Deep.add_add, this, hu]
theorem addr_add_block (a : Addr) (i : Nat) : (a.add i).block = a.block := by unfold Addr.add; split <;> rfl
/-- A row's element in a later world. -/
theorem row_cell {W w : World} {a : Addr} {len sz : Nat} {C : Nat → List Value} (hb : Below W.heap.size W w) (hab : 0 < len → a.block < W.heap.size) {i : Nat} (hi : i < len) (hc : ∀ j u, (C i)[j]? = some u → W.cell? (a.add (i * sz + j)) = some u) :
    ∀ (j : Nat) u, (C i)[j]? = some u → w.cell? ((a.add (i * sz)).add j) = some u := by
  intro j u hu
  have h := hc j u hu
  rw [Addr.add_add]
  exact (hb.cell (p := a.add (i * sz + j)) (by rw [addr_add_block]; exact hab (by omega))).trans h
theorem FlatOK.other {H : Type} {enc : TypeId × Value → H} {P : Program} {w : World} {base : Nat} {spare : Nat → Bool} {held : Bool} {t : TypeId} {r : List Sh} {l : List Value} (h : FlatOK enc P w base spare held (.other t :: r) l) :
    ∃ v u, l = v :: u ∧ (∃ m x, DataW.trod enc P w base spare held m t [v] = some x) ∧ FlatOK enc P w base spare held r u := FlatOK.cons enc P w base spare held h
end Go.Proofs.Ythjhiogbnacmdaa.kit
