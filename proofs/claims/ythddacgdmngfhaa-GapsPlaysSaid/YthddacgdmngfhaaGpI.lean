/- Layer 16: a number joined to parts in memory: what leads to it. -/
import Derived.Test.YthddacgdmngfhaaGpH
namespace Go.Proofs.Ythddacgdmngfhaa.gap
open Go.Sort (grow)
open Go.ChangeShapes Go.WideShapes Go.ChangeAt Go.RowKit kit gapm
set_option maxRecDepth 100000
theorem ab_wrap (C y : Nat) : IntKind.u32.wrap (ab C y + 1) = ab C (y + 1) := by
  show (ab C y + 1) % 4294967296 = _
  unfold ab
  omega
theorem ab_eq {C y z : Nat} (hy : y ≤ 536870912) (hz : z ≤ 536870912) : (ab C y == ab C z) = (y == z) := by
  rw [Bool.eq_iff_iff, beq_iff_eq, beq_iff_eq]
  unfold ab
  omega
/-- What a call leaves alone, of what is not this one's. -/
structure Up (g : Nat) (pv dv : Value) (w : World) (pv' dv' : Value) (w' : World) : Prop where
  size : w.heap.size ≤ w'.heap.size
  keep : ∀ k, k < w.heap.size → k ≠ g → pv.ownBlock ≠ some k → dv.ownBlock ≠ some k → w'.heap[k]? = w.heap[k]?
  np : ∀ k, pv'.ownBlock = some k → pv.ownBlock = some k ∨ w.heap.size ≤ k
  nd : ∀ k, dv'.ownBlock = some k → dv.ownBlock = some k ∨ w.heap.size ≤ k
theorem Up.of_below {g : Nat} {pv dv : Value} {w w' : World} (h : Below w.heap.size w w') : Up g pv dv w pv dv w' := ⟨h.size, fun k hk _ _ _ => h.block k hk, fun _ hk => .inl hk, fun _ hk => .inl hk⟩
theorem Up.trans {g : Nat} {p1 p2 p3 d1 d2 d3 : Value} {a b c : World} (h : Up g p1 d1 a p2 d2 b) (k : Up g p2 d2 b p3 d3 c) : Up g p1 d1 a p3 d3 c := by
  refine ⟨Nat.le_trans h.size k.size, fun i hi h1 h2 h3 => ?_, fun i hi => ?_, fun i hi => ?_⟩
  · have hs := h.size
    refine (k.keep i (by omega) h1 (fun e => ?_) (fun e => ?_)).trans (h.keep i hi h1 h2 h3)
    · rcases h.np i e with q | q
      · exact h2 q
      · omega
    · rcases h.nd i e with q | q
      · exact h3 q
      · omega
  · have hs := h.size
    rcases k.np i hi with q | q
    · exact h.np i q
    · exact .inr (by omega)
  · have hs := h.size
    rcases k.nd i hi with q | q
    · exact h.nd i q
    · exact .inr (by omega)
/-- A cell of a row written. -/
theorem own_set {w : World} {b0 n size h cap : Nat} {t : TypeId} {xs : List Value} (own : w.ownsRow b0 t size (.slice (some ⟨h, 0, none⟩) n cap) n xs) (j : Nat) (u : Value) : (w.setCell ⟨h, j, none⟩ u).ownsRow b0 t size (.slice (some ⟨h, 0, none⟩) n cap) n (xs.set j u) := by
  obtain ⟨cur, B, hb, hn, hm, hs, hget⟩ := own_get own
  have hl := own.1
  refine own_of_get (B.set_ j u) hb hn hm (by simpa using hs) (by simpa using hl) (fun i hi => ?_)
  by_cases e : j = i
  · subst e
    have : n * size ≤ cap * size := Nat.mul_le_mul_right _ hn
    rw [Array.getElem?_setIfInBounds_self_of_lt (by omega), List.getElem?_set_self (by omega)]
  · rw [Array.getElem?_setIfInBounds_ne e, List.getElem?_set_ne e, hget i hi]
theorem cellsA_set1 (C u : Nat) : ∀ (P : Pt) (a : Nat) (p : Nat × Nat), P[a]? = some p → (cellsA C P).set (a * 2 + 1) (.int .u32 (ab C u)) = cellsA C (P.set a (p.1, u))
  | [], _, _, h => by simp at h
  | q :: r, 0, p, h => by
    obtain rfl : q = p := by simpa using h
    rfl
  | q :: r, a + 1, p, h => by
    rw [show (a + 1) * 2 + 1 = (a * 2 + 1) + 1 + 1 by omega]
    simp only [cellsA, List.set_cons_succ, cellsA_set1 C u r a p (by simpa using h)]
theorem cellsA_set0 (C u : Nat) : ∀ (P : Pt) (a : Nat) (p : Nat × Nat), P[a]? = some p → (cellsA C P).set (a * 2) (.int .u32 (ab C u)) = cellsA C (P.set a (u, p.2))
  | [], _, _, h => by simp at h
  | q :: r, 0, p, h => by
    obtain rfl : q = p := by simpa using h
    rfl
  | q :: r, a + 1, p, h => by
    rw [show (a + 1) * 2 = (a * 2) + 1 + 1 by omega]
    simp only [cellsA, List.set_cons_succ, cellsA_set0 C u r a p (by simpa using h)]
/-- What a number joined comes to. -/
def Jo (b0 g C : Nat) (c : Nat) (P' : Pt) (D : List Int) (pv dv : Value) (w w' : World) : Prop := ∃ pv', Gt b0 g C ⟨c, P'⟩ D pv' dv w' ∧ Up g pv dv w pv' dv w' ∧ Below b0 w w'
/-- The parts of it are others, in the same memory. -/
theorem Gt.cell {b0 g C h cap j : Nat} {c : Nat} {P P' : Pt} {D : List Int} {dv : Value} {w : World} (q : Gt b0 g C ⟨c, P⟩ D (.slice (some ⟨h, 0, none⟩) P.length cap) dv w) (u : Value) (hl : P'.length = P.length) (hc : (cellsA C P).set j u = cellsA C P') : Gt b0 g C ⟨c, P'⟩ D (.slice (some ⟨h, 0, none⟩) P'.length cap) dv (w.setCell ⟨h, j, none⟩ u) := by
  have hng : h ≠ g := fun e => q.np (by rw [e]; rfl)
  refine ⟨by rw [hl]; exact q.B.far (p := ⟨h, j, none⟩) (Ne.symm hng) u, ?_, own_other q.d (fun k hk => Below.heap_setCell w ⟨h, j, none⟩ u k (fun e => q.pd h rfl (by rw [hk]; exact congrArg some e))), q.np, q.nd, q.pd, q.hg⟩
  have := own_set q.p j u
  rw [hc] at this
  rw [hl]
  exact this
theorem Gt.up_cell {b0 g C h n cap j : Nat} {s : St} {D : List Int} {dv : Value} {w : World} (q : Gt b0 g C s D (.slice (some ⟨h, 0, none⟩) n cap) dv w) (u : Value) (n' : Nat) : Up g (.slice (some ⟨h, 0, none⟩) n cap) dv w (.slice (some ⟨h, 0, none⟩) n' cap) dv (w.setCell ⟨h, j, none⟩ u) :=
  ⟨by simp [World.setCell], fun k _ _ h2 _ => Below.heap_setCell w ⟨h, j, none⟩ u k (fun e => h2 (by show some h = some k; exact congrArg some e.symm)), fun k hk => .inl hk, fun k hk => .inl hk⟩
end Go.Proofs.Ythddacgdmngfhaa.gap
