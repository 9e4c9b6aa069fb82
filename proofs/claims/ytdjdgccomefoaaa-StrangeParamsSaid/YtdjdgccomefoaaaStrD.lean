/- Layer 24: which parameters are looked at, and told of. -/
import Derived.Test.YtdjdgccomefoaaaStrC
namespace Go.Proofs.Ytdjdgccomefoaaa.str
open Go.Sort (grow)
open Go.ChangeShapes Go.WideShapes Go.ChangeAt Go.RowKit kit oct par small
set_option maxRecDepth 100000

/-- What is told of one that is not known; whether it stops. -/
def tl (p : Pm) : List Pm := if ruleV (p.1.toNat / 16384) = 3 ∨ ruleV (p.1.toNat / 16384) = 2 then [(8, putP p.1 p.2)] else []
def stp (p : Pm) : Bool := ruleV (p.1.toNat / 16384) = 1 ∨ ruleV (p.1.toNat / 16384) = 3
def sp : List Pm → List Pm × List Pm
  | [] => ([], [])
  | p :: r => if kn p.1 = true then (p :: (sp r).1, (sp r).2) else if stp p = true then ([], tl p) else ((sp r).1, tl p ++ (sp r).2)
theorem ruleV_or (k : Nat) : ruleV k = 1 ∨ ruleV k = 3 ∨ ruleV k = 0 ∨ ruleV k = 2 := by
  rcases k with _ | _ | _ | k
  · exact .inl rfl
  · exact .inr (.inl rfl)
  · exact .inr (.inr (.inl rfl))
  · exact .inr (.inr (.inr rfl))
/-- A parameter of which so many bytes are. -/
structure Ok (p : Pm) : Prop where
  t0 : 0 ≤ p.1
  t1 : p.1 ≤ 65535
  s : p.2.size ≤ 20
theorem ok_put {p : Pm} (h : Ok p) : mayP p.1 p.2 = true := mayP_yes h.t0 h.t1 (by have := h.s; omega)
theorem put_len {p : Pm} (h : Ok p) : 4 ≤ (putP p.1 p.2).size ∧ (putP p.1 p.2).size ≤ 27 := by
  have h1 := putP_size (ok_put h)
  have h2 := h.s
  omega
theorem sp_len (L : List Pm) : (sp L).1.length ≤ L.length ∧ (sp L).2.length ≤ L.length := by
  induction L with
  | nil => exact ⟨Nat.le_refl _, Nat.le_refl _⟩
  | cons p r ih =>
    have ht : (tl p).length ≤ 1 := by unfold tl; split <;> simp
    unfold sp
    split
    · simp; omega
    · split
      · simp; omega
      · simp; omega
theorem drop_at (L : List Pm) (k : Nat) (h : k < L.length) : L.drop k = L.getD k q0 :: L.drop (k + 1) := by
  rw [List.drop_eq_getElem_cons h]
  simp [List.getD, List.getElem?_eq_getElem h]
end Go.Proofs.Ytdjdgccomefoaaa.str
