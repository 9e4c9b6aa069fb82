/- Layer 16: a number that comes, in the program and in the document's own words: both hold the same still. -/
import Derived.Test.YthddacgdmngfhaaGqF
namespace Go.Proofs.Ythddacgdmngfhaa.gap
open Go.ChangeShapes Go.WideShapes Go.ChangeAt Go.RowKit kit gapm
theorem turn_pure {s : St} {F : List Nat} {d c' : Nat} {F' : List Nat} (hok : s.Ok) (hf : Fits s F) (hbd : ∀ z ∈ F, z ≤ 1000) (h1 : lookF F d ≠ 1 → c' = s.c ∧ F' = F)
    (h2 : lookF F d = 1 → 0 ∉ F' ∧ 1 ∉ F' ∧ (∀ y, hasF c' F' y ↔ hasF s.c (F ++ [d]) y) ∧ F'.length ≤ F.length + 1 ∧ ∀ z ∈ F', z ≤ 1000) :
    (addS s d).Ok ∧ c' = (addS s d).c ∧ Fits (addS s d) F' ∧ (∀ z ∈ F', z ≤ 1000) ∧ F'.length ≤ F.length + 1 ∧ (addS s d).P.length ≤ s.P.length + 1 ∧ (addS s d).c ≤ s.c + 1000 := by
  by_cases h : lookF F d = 1
  · obtain ⟨a, b, q, e, l⟩ := h2 h
    have hv : lookV s d = 1 := by rw [← hf.look]; exact h
    obtain ⟨r1, r2, r3⟩ := fits_add hok hf hv a b q
    obtain ⟨p1, p2, p3⟩ := look_new hv
    have es : addS s d = add s (s.c + d) := by unfold addS; rw [if_pos hv]
    obtain ⟨_, t2, _, t4⟩ := add_ok hok (by omega) p3
    refine ⟨r1, r2, r3, l, e, by rw [es]; exact t4, ?_⟩
    rw [es]
    rcases (t2 (add s (s.c + d)).c).1 (.inl (Nat.le_refl _)) with u | u | u
    · omega
    · omega
    · have hm := Inv.mem hok u
      have := hbd _ ((hf ((add s (s.c + d)).c - s.c)).2 ⟨by omega, by rw [show s.c + ((add s (s.c + d)).c - s.c) = (add s (s.c + d)).c by omega]; exact u⟩)
      omega
  · obtain ⟨rfl, rfl⟩ := h1 h
    have es : addS s d = s := by unfold addS; rw [if_neg (by rw [← hf.look]; exact h)]
    rw [es]
    exact ⟨hok, rfl, hf, hbd, Nat.le_succ _, Nat.le_succ _, Nat.le_add_right _ _⟩
theorem turn_D {s : St} {F : List Nat} {D : List Int} {d : Nat} {t : Int} (hf : Fits s F) : (if lookF F d = 2 ∧ D.length < 16 then D ++ [t] else D) = addD s D d t := by
  unfold addD
  rw [hf.look]
theorem fits_bd {s : St} {F : List Nat} (hok : s.Ok) (hf : Fits s F) (hbd : ∀ z ∈ F, z ≤ 1000) (hc : s.c ≤ 1000000) : Bd s.P :=
  bd_of hok (fun y hy => by
    have hm := Inv.mem hok hy
    have := hbd _ ((hf (y - s.c)).2 ⟨by omega, by rw [show s.c + (y - s.c) = y by omega]; exact hy⟩)
    omega) (Nat.le_refl (536870912 : Nat))
theorem fits_nil : Fits ⟨0, []⟩ [] := fun z => by simp [Mem.nil]
/-- The statement's two, and what they hold. -/
structure Re (G g qx C m : Nat) (s : St) (F : List Nat) (D : List Int) (pv dv fv rv : Value) (w : World) : Prop where
  t : Gt G g C s D pv dv w
  B : Blk w qx 72 #[.int .u32 (ab C s.c), fv, rv]
  f : w.ownsRow G 3 1 fv F.length (cellsF F)
  d : w.ownsRow G 28 1 rv D.length (cellsU D)
  ok : s.Ok
  fits : Fits s F
  bd : ∀ z ∈ F, z ≤ 1000
  lf : F.length ≤ m
  lp : s.P.length ≤ m
  ld : D.length ≤ 16
  lc : s.c ≤ m * 1000
  hq : G ≤ qx
  nq : g ≠ qx ∧ pv.ownBlock ≠ some qx ∧ dv.ownBlock ≠ some qx ∧ fv.ownBlock ≠ some qx ∧ rv.ownBlock ≠ some qx
  nf : ∀ k, (k = g ∨ pv.ownBlock = some k ∨ dv.ownBlock = some k) → fv.ownBlock ≠ some k ∧ rv.ownBlock ≠ some k
theorem Re.below {G g qx C m k : Nat} {s : St} {F : List Nat} {D : List Int} {pv dv fv rv : Value} {w w' : World} (h : Re G g qx C m s F D pv dv fv rv w) (hb : Below k w w') (hk : w.heap.size ≤ k) : Re G g qx C m s F D pv dv fv rv w' :=
  ⟨h.t.below hb hk, h.B.below hb (Nat.lt_of_lt_of_le h.B.lt hk), own_below h.f hb (fun j hj => Nat.lt_of_lt_of_le (own_lt' h.f hj) hk), own_below h.d hb (fun j hj => Nat.lt_of_lt_of_le (own_lt' h.d hj) hk), h.ok, h.fits, h.bd, h.lf, h.lp, h.ld, h.lc, h.hq, h.nq, h.nf⟩
/-- The document's own Add: what it answers with lies apart. -/
theorem Re.radd {G g qx C m : Nat} {s : St} {F : List Nat} {D : List Int} {pv dv fv rv : Value} {w : World} (h : Re G g qx C m s F D pv dv fv rv w) (hm : m ≤ 100) (hG : G ≤ w.heap.size) (d : Nat) (hd : d < 4294967296) :
    Calls Try.prog 40 #[.agg #[.int .u32 (ab C s.c), fv, rv], .int .u32 (ab C (s.c + d))] w (AddR G C s.c F D d rv w) :=
  radd_any h.f h.d hG (by have := h.lf; omega) h.ld d hd h.fits.zero (h.fits.one h.ok) h.bd
theorem Re.look {G g qx C m : Nat} {s : St} {F : List Nat} {D : List Int} {pv dv fv rv : Value} {w : World} (h : Re G g qx C m s F D pv dv fv rv w) (hm : m ≤ 100) (d : Nat) (hd : d < 4294967296) :
    Calls Try.prog 38 #[.pointer (some ⟨g, 0, none⟩), .int .u32 (ab C (s.c + d))] w fun e w' => e = .returned (.int .i64 (lookV s d)) ∧ Below w.heap.size w w' :=
  look_any h.t d hd (by have := h.lp; omega) (fits_bd h.ok h.fits h.bd (by have := h.lc; omega)) (by have := h.lc; omega)
theorem Re.rlook {G g qx C m : Nat} {s : St} {F : List Nat} {D : List Int} {pv dv fv rv : Value} {w : World} (h : Re G g qx C m s F D pv dv fv rv w) (hm : m ≤ 100) (d : Nat) (hd : d < 4294967296) :
    Calls Try.prog 39 #[.agg #[.int .u32 (ab C s.c), fv, rv], .int .u32 (ab C (s.c + d))] w fun e w' => e = .returned (.int .i64 (lookV s d)) ∧ Below w.heap.size w w' := by
  have := rlook_any (dv := rv) C s.c d w (Qo.of_owns h.f) (by have := h.lf; omega) hd
  rw [h.fits.look] at this
  exact this
theorem Re.add {G g qx C m : Nat} {s : St} {F : List Nat} {D : List Int} {pv dv fv rv : Value} {w : World} (h : Re G g qx C m s F D pv dv fv rv w) (hm : m ≤ 100) (d : Nat) (hd : d < 4294967296) :
    Calls Try.prog 41 #[.pointer (some ⟨g, 0, none⟩), .int .u32 (ab C (s.c + d))] w fun e w' => e = .returned (.int .i64 (lookV s d)) ∧ JoS G g C (addS s d) (addD s D d (ab C (s.c + d))) pv dv w w' :=
  add_any h.t d hd h.ok (by have := h.lp; omega) (fits_bd h.ok h.fits h.bd (by have := h.lc; omega)) (by have := h.lc; omega) h.ld
end Go.Proofs.Ythddacgdmngfhaa.gap
