/- Layer 3's reader: eight bytes, the rest, what fills up, the end; no reader. -/
import Derived.Test.YtlegkbaaklejnaaDoorOctC
namespace Go.Proofs.YtlegkbaaklejnaaDoor.oct
open Go.ChangeShapes Go.WideShapes Go.ChangeAt Go.RowKit kit


theorem take_any (g : Nat) (l : ByteArray) (e0 : Int) (n : Int) (w : World) (h : RD w g l e0) (hl : l.size ≤ maxLen) :
    Calls Tryd.prog 67 #[.pointer (some ⟨g, 0, none⟩), .int .i64 n] w fun x w' => x = .returned (.string (if 0 ≤ n ∧ n ≤ l.size then l.extract 0 n.toNat else ByteArray.empty)) ∧ RD w' g (if 0 ≤ n ∧ n ≤ l.size then l.extract n.toNat l.size else failL l e0 2) (if 0 ≤ n ∧ n ≤ l.size then e0 else failE e0 2) ∧ Touch g w w' := by
  by_cases c : 0 ≤ n ∧ n ≤ l.size
  · rw [if_pos c, if_pos c, if_pos c]
    obtain ⟨m, rfl⟩ : ∃ m : Nat, n = m := ⟨n.toNat, by omega⟩
    exact take_in g l e0 m w h (by omega) hl
  · rw [if_neg c, if_neg c, if_neg c]
    exact take_out g l e0 n w h (by omega) hl

theorem rest_any (g : Nat) (l : ByteArray) (e0 : Int) (w : World) (h : RD w g l e0) (hl : l.size ≤ maxLen) :
    Calls Tryd.prog 94 #[.pointer (some ⟨g, 0, none⟩)] w fun x w' => x = .returned (.string l) ∧ RD w' g ByteArray.empty e0 ∧ Touch g w w' := by
  have e1 : l.extract 0 l.size = l := by apply ByteArray.ext; simp
  have e2 : l.extract l.size l.size = ByteArray.empty := by apply ByteArray.ext; simp
  have hT := take_in g l e0 l.size w h (Nat.le_refl _) hl
  rw [e1, e2] at hT
  clear e1 e2
  go_enter Tryd.func94, Tryd.ntmps94
  go_wp2_with (first | (go_at_call 70; refine (left_any g l e0 _ h).mono ?_; rintro e w1 ⟨rfl, rfl⟩) | (go_at_call 67; refine hT.mono ?_; rintro e w1 ⟨rfl, hr, ht⟩))
  go_ret
  exact ⟨rfl, hr, ht⟩

theorem str_ne {a b : ByteArray} (h : ¬ a = b) : (a.toList == b.toList) = false := by
  rw [beq_eq_false_iff_ne]
  intro q
  rw [Lib.toList_data, Lib.toList_data] at q
  exact h (by rw [← Lib.mk_data a, ← Lib.mk_data b, q])
/-- How many bytes are taken to fill up. -/
def fk (l : ByteArray) (n : Int) : Nat := min (-n % 4).toNat l.size
def fillL (l : ByteArray) (e0 n : Int) : ByteArray := if l.extract 0 (fk l n) = zeros (fk l n) then l.extract (fk l n) l.size else failL (l.extract (fk l n) l.size) e0 4
def fillE (l : ByteArray) (e0 n : Int) : Int := if l.extract 0 (fk l n) = zeros (fk l n) then e0 else failE e0 4

theorem fill_any (g : Nat) (l : ByteArray) (e0 n : Int) (w : World) (h : RD w g l e0) (hl : l.size ≤ maxLen) (h0 : 0 ≤ n) (h1 : n ≤ 1000000) :
    Calls Tryd.prog 79 #[.pointer (some ⟨g, 0, none⟩), .int .i64 n] w fun x w' => x = .returned (.tuple #[]) ∧ RD w' g (fillL l e0 n) (fillE l e0 n) ∧ Touch g w w' := by
  unfold fillL fillE
  have hkl : fk l n ≤ l.size := by unfold fk; omega
  have hk4 : fk l n ≤ 4 := by unfold fk; omega
  have hmin : min (-n % 4) (l.size : Int) = (fk l n : Int) := by unfold fk; omega
  have hT := take_in g l e0 (fk l n) w h hkl hl
  have hsz : (l.extract 0 (fk l n)).size = fk l n := by simp; omega
  have hp := fun w => pad_any n w h0 (by omega)
  generalize l.extract (fk l n) l.size = L at hT ⊢
  generalize fk l n = k at *
  generalize l.extract 0 k = T at *
  have hS : ∀ w : World, RD w g L e0 → Calls Tryd.prog 76 #[.pointer (some ⟨g, 0, none⟩), .int .i64 4] w fun x w' => x = .returned (.tuple #[]) ∧ RD w' g (failL L e0 4) (failE e0 4) ∧ Touch g w w' := fun w hw => fail_any g L e0 4 w hw
  by_cases hz : T = zeros k
  · rw [if_pos hz, if_pos hz]
    subst hz
    clear hS
    go_enter Tryd.func79, Tryd.ntmps79
    go_wp2_with (first | (go_at_call 78; refine (hp _).mono ?_; rintro e w1 ⟨rfl, rfl⟩) | (go_at_call 70; refine (left_any g l e0 _ h).mono ?_; rintro e w1 ⟨rfl, rfl⟩) | (go_at_call 67; refine hT.mono ?_; rintro e w1 ⟨rfl, hr, ht⟩) | (go_at_call 83; refine (noughts_any k _ (by omega)).mono ?_; rintro e w2 ⟨rfl, hb⟩))
    go_end0
    exact ⟨rfl, Blk.below hr hb hr.lt, ht.trans (Touch.of_below hb)⟩
  · rw [if_neg hz, if_neg hz]
    have hz2 := str_ne hz
    go_enter Tryd.func79, Tryd.ntmps79
    go_wp2_with (first | (go_at_call 78; refine (hp _).mono ?_; rintro e w1 ⟨rfl, rfl⟩) | (go_at_call 70; refine (left_any g l e0 _ h).mono ?_; rintro e w1 ⟨rfl, rfl⟩) | (go_at_call 67; refine hT.mono ?_; rintro e w1 ⟨rfl, hr, ht⟩) | (go_at_call 83; refine (noughts_any k _ (by omega)).mono ?_; rintro e w2 ⟨rfl, hb⟩) | (go_at_call 76; refine (hS _ (Blk.below hr hb hr.lt)).mono ?_; rintro e w3 ⟨rfl, hr3, ht3⟩))
    go_end0
    exact ⟨rfl, hr3, (ht.trans (Touch.of_below hb)).trans ht3⟩

def endE (l : ByteArray) (e0 : Int) : Int := if e0 = 0 ∧ 0 < l.size then 3 else e0
theorem end_any (g : Nat) (l : ByteArray) (e0 : Int) (w : World) (h : RD w g l e0) :
    Calls Tryd.prog 88 #[.pointer (some ⟨g, 0, none⟩)] w fun x w' => x = .returned (.int .i64 (endE l e0)) ∧ w = w' := by
  unfold endE
  by_cases c : e0 = 0
  · subst c
    by_cases d : 0 < l.size
    · rw [if_pos ⟨rfl, d⟩]
      go_enter Tryd.func88, Tryd.ntmps88
      go_wp2_with (first | (go_at_call 70; refine (left_any g l 0 _ h).mono ?_; rintro e w1 ⟨rfl, rfl⟩) | (go_at_call 72; refine (err_any g l 0 _ h).mono ?_; rintro e w1 ⟨rfl, rfl⟩))
      go_ret
      exact ⟨rfl, rfl⟩
    · rw [if_neg (by omega)]
      have d2 : l.size = 0 := by omega
      go_enter Tryd.func88, Tryd.ntmps88
      go_wp2_with (first | (go_at_call 70; refine (left_any g l 0 _ h).mono ?_; rintro e w1 ⟨rfl, rfl⟩) | (go_at_call 72; refine (err_any g l 0 _ h).mono ?_; rintro e w1 ⟨rfl, rfl⟩))
      go_ret
      exact ⟨rfl, rfl⟩
  · rw [if_neg (by omega)]
    have c2 : (e0 == 0) = false := by simpa using c
    go_enter Tryd.func88, Tryd.ntmps88
    go_wp2_with (first | (go_at_call 70; refine (left_any g l e0 _ h).mono ?_; rintro e w1 ⟨rfl, rfl⟩) | (go_at_call 72; refine (err_any g l e0 _ h).mono ?_; rintro e w1 ⟨rfl, rfl⟩))
    go_ret
    exact ⟨rfl, rfl⟩
end Go.Proofs.YtlegkbaaklejnaaDoor.oct
