/- Layer 3's reader: eight bytes, the rest, what fills up, the end; no reader. -/
import Derived.Test.YtdocphkpeonldaaOctC
namespace Go.Proofs.Ytdocphkpeonldaa.oct
open Go.ChangeShapes Go.WideShapes Go.ChangeAt Go.RowKit kit

theorem take_any (g : Nat) (l : ByteArray) (e0 : Int) (n : Int) (w : World) (h : RD w g l e0) (hl : l.size ≤ maxLen) :
    Calls Try.prog 102 #[.pointer (some ⟨g, 0, none⟩), .int .i64 n] w fun x w' => x = .returned (.string (if 0 ≤ n ∧ n ≤ l.size then l.extract 0 n.toNat else ByteArray.empty)) ∧ RD w' g (if 0 ≤ n ∧ n ≤ l.size then l.extract n.toNat l.size else failL l e0 2) (if 0 ≤ n ∧ n ≤ l.size then e0 else failE e0 2) ∧ Touch g w w' := by
  by_cases c : 0 ≤ n ∧ n ≤ l.size
  · rw [if_pos c, if_pos c, if_pos c]
    obtain ⟨m, rfl⟩ : ∃ m : Nat, n = m := ⟨n.toNat, by omega⟩
    exact take_in g l e0 m w h (by omega) hl
  · rw [if_neg c, if_neg c, if_neg c]
    exact take_out g l e0 n w h (by omega) hl

theorem rest_any (g : Nat) (l : ByteArray) (e0 : Int) (w : World) (h : RD w g l e0) (hl : l.size ≤ maxLen) :
    Calls Try.prog 141 #[.pointer (some ⟨g, 0, none⟩)] w fun x w' => x = .returned (.string l) ∧ RD w' g ByteArray.empty e0 ∧ Touch g w w' := by
  have e1 : l.extract 0 l.size = l := by apply ByteArray.ext; simp
  have e2 : l.extract l.size l.size = ByteArray.empty := by apply ByteArray.ext; simp
  have hT := take_in g l e0 l.size w h (Nat.le_refl _) hl
  rw [e1, e2] at hT
  clear e1 e2
  go_enter Try.func141, Try.ntmps141
  go_wp2_with (first | (go_at_call 100; refine (left_any g l e0 _ h).mono ?_; rintro e w1 ⟨rfl, rfl⟩) | (go_at_call 102; refine hT.mono ?_; rintro e w1 ⟨rfl, hr, ht⟩))
  go_ret
  exact ⟨rfl, hr, ht⟩

theorem str_ne {a b : ByteArray} (h : ¬ a = b) : (a.toList == b.toList) = false := by
  rw [beq_eq_false_iff_ne]
  intro q
  rw [Lib.toList_data, Lib.toList_data] at q
  exact h (by rw [← Lib.mk_data a, ← Lib.mk_data b, q])
/-- How many bytes are taken to fill up. -/
def fk (l : ByteArray) (n : Int) : Nat := min (-n % 4).toNat l.size
def fillL (l : ByteArray) (e0 n : Int) : ByteArray := if l.extract 0 (fk l n) = zeros (fk l n) then l.extract (fk l n) l.size else failL (l.extract (fk l n) l.size) e0 4
def fillE (l : ByteArray) (e0 n : Int) : Int := if l.extract 0 (fk l n) = zeros (fk l n) then e0 else failE e0 4

def endE (l : ByteArray) (e0 : Int) : Int := if e0 = 0 ∧ 0 < l.size then 3 else e0
theorem end_any (g : Nat) (l : ByteArray) (e0 : Int) (w : World) (h : RD w g l e0) :
    Calls Try.prog 77 #[.pointer (some ⟨g, 0, none⟩)] w fun x w' => x = .returned (.int .i64 (endE l e0)) ∧ w = w' := by
  unfold endE
  by_cases c : e0 = 0
  · subst c
    by_cases d : 0 < l.size
    · rw [if_pos ⟨rfl, d⟩]
      go_enter Try.func77, Try.ntmps77
      go_wp2_with (first | (go_at_call 100; refine (left_any g l 0 _ h).mono ?_; rintro e w1 ⟨rfl, rfl⟩) | (go_at_call 103; refine (err_any g l 0 _ h).mono ?_; rintro e w1 ⟨rfl, rfl⟩))
      go_ret
      exact ⟨rfl, rfl⟩
    · rw [if_neg (by omega)]
      have d2 : l.size = 0 := by omega
      go_enter Try.func77, Try.ntmps77
      go_wp2_with (first | (go_at_call 100; refine (left_any g l 0 _ h).mono ?_; rintro e w1 ⟨rfl, rfl⟩) | (go_at_call 103; refine (err_any g l 0 _ h).mono ?_; rintro e w1 ⟨rfl, rfl⟩))
      go_ret
      exact ⟨rfl, rfl⟩
  · rw [if_neg (by omega)]
    have c2 : (e0 == 0) = false := by simpa using c
    go_enter Try.func77, Try.ntmps77
    go_wp2_with (first | (go_at_call 100; refine (left_any g l e0 _ h).mono ?_; rintro e w1 ⟨rfl, rfl⟩) | (go_at_call 103; refine (err_any g l e0 _ h).mono ?_; rintro e w1 ⟨rfl, rfl⟩))
    go_ret
    exact ⟨rfl, rfl⟩
end Go.Proofs.Ytdocphkpeonldaa.oct
