/- Layer 3's reader: eight bytes, the rest, what fills up, the end; no reader. -/
import Derived.Test.YthddacgdmngfhaaOctC
namespace Go.Proofs.Ythddacgdmngfhaa.oct
open Go.ChangeShapes Go.WideShapes Go.ChangeAt Go.RowKit kit

theorem take_any (g : Nat) (l : ByteArray) (e0 : Int) (n : Int) (w : World) (h : RD w g l e0) (hl : l.size ≤ maxLen) :
    Calls Try.prog 177 #[.pointer (some ⟨g, 0, none⟩), .int .i64 n] w fun x w' => x = .returned (.string (if 0 ≤ n ∧ n ≤ l.size then l.extract 0 n.toNat else ByteArray.empty)) ∧ RD w' g (if 0 ≤ n ∧ n ≤ l.size then l.extract n.toNat l.size else failL l e0 2) (if 0 ≤ n ∧ n ≤ l.size then e0 else failE e0 2) ∧ Touch g w w' := by
  by_cases c : 0 ≤ n ∧ n ≤ l.size
  · rw [if_pos c, if_pos c, if_pos c]
    obtain ⟨m, rfl⟩ : ∃ m : Nat, n = m := ⟨n.toNat, by omega⟩
    exact take_in g l e0 m w h (by omega) hl
  · rw [if_neg c, if_neg c, if_neg c]
    exact take_out g l e0 n w h (by omega) hl

theorem rest_any (g : Nat) (l : ByteArray) (e0 : Int) (w : World) (h : RD w g l e0) (hl : l.size ≤ maxLen) :
    Calls Try.prog 147 #[.pointer (some ⟨g, 0, none⟩)] w fun x w' => x = .returned (.string l) ∧ RD w' g ByteArray.empty e0 ∧ Touch g w w' := by
  have e1 : l.extract 0 l.size = l := by apply ByteArray.ext; simp
  have e2 : l.extract l.size l.size = ByteArray.empty := by apply ByteArray.ext; simp
  have hT := take_in g l e0 l.size w h (Nat.le_refl _) hl
  rw [e1, e2] at hT
  clear e1 e2
  go_enter Try.func147, Try.ntmps147
  go_wp2_with (first | (go_at_call 178; refine (left_any g l e0 _ h).mono ?_; rintro e w1 ⟨rfl, rfl⟩) | (go_at_call 177; refine hT.mono ?_; rintro e w1 ⟨rfl, hr, ht⟩))
  go_ret
  exact ⟨rfl, hr, ht⟩

theorem str_ne {a b : ByteArray} (h : ¬ a = b) : (a.toList == b.toList) = false := by
  rw [beq_eq_false_iff_ne]
  intro q
  rw [Lib.toList_data, Lib.toList_data] at q
  exact h (by rw [← Lib.mk_data a, ← Lib.mk_data b, q])
/-- How many bytes are taken to fill up. -/
def fk (l : ByteArray) (n : Int) : Nat := min (-n % 4).toNat l.size
def fillL (l : ByteArray) (e0 n : Int) : ByteArray := if l.extract 0 (fk l n) = zeros (fk l n) then l.extract (fk l n) l.size else failL (l.extract (fk l n) l.size) e0 4
def fillE (l : ByteArray) (e0 n : Int) : Int := if l.extract 0 (fk l n) = zeros (fk l n) then e0 else failE e0 4

def endE (l : ByteArray) (e0 : Int) : Int := if e0 = 0 ∧ 0 < l.size then 3 else e0
end Go.Proofs.Ythddacgdmngfhaa.oct
