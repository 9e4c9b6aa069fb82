/- Layer 16: what came twice has been told. -/
import Derived.Test.YthddacgdmngfhaaGqI
import Derived.Test.YthddacgdmngfhaaKitZ
namespace Go.Proofs.Ythddacgdmngfhaa.gap
open Go.Sort (grow)
open Go.ChangeShapes Go.WideShapes Go.ChangeAt Go.RowKit kit gapm
set_option maxRecDepth 100000
structure Rd (G g qx C m : Nat) (s : St) (F : List Nat) (D : List Int) (pv dv fv rv : Value) (w : World) : Prop where
  t : Gt G g C s [] pv (.slice none 0 0) w
  x : w.ownsRow G 28 1 dv D.length (cellsU D)
  B : Blk w qx 72 #[.int .u32 (ab C s.c), fv, rv]
  f : w.ownsRow G 3 1 fv F.length (cellsF F)
  d : w.ownsRow G 28 1 rv D.length (cellsU D)
  ok : s.Ok
  fits : Fits s F
  bd : ∀ z ∈ F, z ≤ 1000
  lf : F.length ≤ m
  lp : s.P.length ≤ m
  ld : D.length ≤ 16
  lc : s.c ≤ m * 1000
  hq : G ≤ qx
  ng : g ≠ qx
theorem Rd.below {G g qx C m k : Nat} {s : St} {F : List Nat} {D : List Int} {pv dv fv rv : Value} {w w' : World} (h : Rd G g qx C m s F D pv dv fv rv w) (hb : Below k w w') (hk : w.heap.size ≤ k) : Rd G g qx C m s F D pv dv fv rv w' :=
  ⟨h.t.below hb hk, own_below h.x hb (fun j hj => Nat.lt_of_lt_of_le (own_lt' h.x hj) hk), h.B.below hb (Nat.lt_of_lt_of_le h.B.lt hk), own_below h.f hb (fun j hj => Nat.lt_of_lt_of_le (own_lt' h.f hj) hk), own_below h.d hb (fun j hj => Nat.lt_of_lt_of_le (own_lt' h.d hj) hk), h.ok, h.fits, h.bd, h.lf, h.lp, h.ld, h.lc, h.hq, h.ng⟩
theorem Re.undup {G g qx C m : Nat} {s : St} {F : List Nat} {D : List Int} {pv dv fv rv : Value} {w : World} (R : Re G g qx C m s F D pv dv fv rv w) : Rd G g qx C m s F D pv dv fv rv (w.setCell ⟨g, 2, none⟩ (.slice none 0 0)) := by
  obtain ⟨h1, h2⟩ := R.t.undup
  have keep : ∀ k, k ≠ g → (w.setCell ⟨g, 2, none⟩ (.slice none 0 0)).heap[k]? = w.heap[k]? := fun k hk => Below.heap_setCell w ⟨g, 2, none⟩ _ k hk
  exact ⟨h1, h2, (keep qx (Ne.symm R.nq.1)).trans R.B, own_other R.f (fun k hk => keep k (fun e => (R.nf g (.inl rfl)).1 (e ▸ hk))), own_other R.d (fun k hk => keep k (fun e => (R.nf g (.inl rfl)).2 (e ▸ hk))), R.ok, R.fits, R.bd, R.lf, R.lp, R.ld, R.lc, R.hq, R.nq.1⟩
theorem Rd.done {G g qx C m : Nat} {s : St} {F : List Nat} {D : List Int} {pv dv fv rv : Value} {w : World} (R : Rd G g qx C m s F D pv dv fv rv w) : Re G g qx C m s F [] pv (.slice none 0 0) fv (.slice none 0 0) (w.setCell ⟨qx, 2, none⟩ (.slice none 0 0)) := by
  have keep : ∀ k, k ≠ qx → (w.setCell ⟨qx, 2, none⟩ (.slice none 0 0)).heap[k]? = w.heap[k]? := fun k hk => Below.heap_setCell w ⟨qx, 2, none⟩ _ k hk
  have nf := own_typ R.f R.B (by decide)
  have np := own_typ R.t.p R.B (by decide)
  refine ⟨R.t.frame (fun k hk => keep k ?_), R.B.set_ 2 _, own_other R.f (fun k hk => keep k (fun e => nf (e ▸ hk))), World.ownsRow_nil _ _ _ _, R.ok, R.fits, R.bd, R.lf, R.lp, by simp, R.lc, R.hq, ⟨R.ng, np, (fun h => by cases h), nf, (fun h => by cases h)⟩, fun k hk => ⟨?_, (fun h => by cases h)⟩⟩
  · rcases hk with rfl | hk | hk
    · exact R.ng
    · exact fun e => np (e ▸ hk)
    · cases hk
  · rcases hk with rfl | hk | hk
    · exact own_typ R.f R.t.B (by decide)
    · exact own_typ2 R.f R.t.p (by decide) k hk
    · cases hk
/-- Both tell the same parts. -/
def GpsA (G : Nat) (s : St) (u : Value) (v : World) : Prop := v.ownsRow G 133 2 u (min s.P.length 16) (cellsGp (gl s.c (s.P.take 16)))
theorem Gt.gapsA {G g C m : Nat} {s : St} {F : List Nat} {D : List Int} {pv dv : Value} {w : World} (t : Gt G g C s D pv dv w) (ok : s.Ok) (fits : Fits s F) (bd : ∀ z ∈ F, z ≤ 1000) (lp : s.P.length ≤ m) (lc : s.c ≤ m * 1000) (hm : m ≤ 100) : Calls Try.prog 46 #[.pointer (some ⟨g, 0, none⟩)] w fun e w' => ∃ u, e = .returned u ∧ GpsA G s u w' ∧ Below w.heap.size w w' := by
  refine (gaps_any t (by omega) (fits_bd ok fits bd (by omega)) (by omega)).mono ?_
  rintro e w' ⟨u, rfl, own, hb⟩
  exact ⟨u, rfl, own_weaken own (by have := t.hg; have := t.B.lt; omega), hb⟩
theorem rgapsA {G m : Nat} {cu : Int} {s : St} {F : List Nat} {fv dv : Value} {w : World} (f : w.ownsRow G 3 1 fv F.length (cellsF F)) (ok : s.Ok) (fits : Fits s F) (bd : ∀ z ∈ F, z ≤ 1000) (lf : F.length ≤ m) (lp : s.P.length ≤ m) (hm : m ≤ 100) (hG : G ≤ w.heap.size) : Calls Try.prog 47 #[.agg #[.int .u32 cu, fv, dv]] w fun e w' => ∃ u, e = .returned u ∧ GpsA G s u w' ∧ Below w.heap.size w w' := by
  refine (rgaps_any (cu := cu) (dv := dv) (Qo.of_owns f) (by omega) fits ok bd (by omega)).mono ?_
  rintro e w' ⟨u, rfl, own, hb⟩
  exact ⟨u, rfl, own_weaken own hG, hb⟩
theorem sameA {G : Nat} {s : St} {u u' : Value} {w : World} (a : GpsA G s u w) (b : GpsA G s u' w) : Calls Try.prog 45 #[u, u'] w fun e w' => e = .returned (.bool true) ∧ Below w.heap.size w w' := by
  have hl : (gl s.c (s.P.take 16)).length = min s.P.length 16 := by simp [gl, Nat.min_comm]
  unfold GpsA at a b
  rw [← hl] at a b
  exact same_any a b (by omega)
theorem gpsA_st {G : Nat} {s : St} (u : Value) (v v' : World) (h : GpsA G s u v) (hb : Below v.heap.size v v') : GpsA G s u v' := own_all h hb
theorem own_atU {w : World} {b0 : Nat} {D : List Int} {oa : Option Addr} {n cap k : Nat} {y : Int} (own : w.ownsRow b0 28 1 (.slice oa n cap) D.length (cellsU D)) (h : D[k]? = some y) : ∃ g, oa = some ⟨g, 0, none⟩ ∧ w.cell? ⟨g, k, none⟩ = some (.int .u32 y) := by
  have hk := (List.getElem?_eq_some_iff.1 h).1
  rcases own.2 with ⟨e, h0⟩ | ⟨g, cap', cur, e, q⟩
  · have : D.length = 0 := h0
    omega
  · have e' := e
    simp only [Value.slice.injEq] at e'
    obtain ⟨e1, -, -⟩ := e'
    refine ⟨g, e1, ?_⟩
    rw [e] at own
    have K := Cel.of_owns own
    have h2 := K.2 k (.int .u32 y) (by rw [List.getElem?_toArray]; simp [cellsU, h])
    rw [Nat.zero_add] at h2
    exact h2.1
end Go.Proofs.Ythddacgdmngfhaa.gap
