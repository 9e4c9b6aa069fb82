/- The document's own reader, each function by a contract. -/
import Derived.Test.YtbdbcjhahlofiaaDoorRef3
import Derived.RegionTactic
import Derived.BigRegion
namespace Go.Proofs.YtbdbcjhahlofiaaDoor.oct
open Go.ChangeShapes Go.WideShapes Go.ChangeAt Go.RowKit kit

def rfS (S : ByteArray) (e : Int) : ByteArray := if e = 0 then ByteArray.empty else S
def rfE (e x : Int) : Int := if e = 0 then x else e

theorem rfail_any (S : ByteArray) (e x : Int) (w : World) : Calls Tryd.prog 85 #[.agg #[.string S, .int .i64 e], .int .i64 x] w fun y w' => y = .returned (.agg #[.string (rfS S e), .int .i64 (rfE e x)]) ∧ Below w.heap.size w w' := by
  by_cases c : e = 0
  · have e1 : rfS S e = ByteArray.empty := by unfold rfS; rw [if_pos c]
    have e2 : rfE e x = x := by unfold rfE; rw [if_pos c]
    rw [e1, e2]
    subst c
    clear e1 e2
    go_enter Tryd.func85, Tryd.ntmps85
    go_wp2
    exact bodyPost_ret (v := .agg #[.string ByteArray.empty, .int .i64 x]) (by simp [results, Tryd.results85, go_sem] <;> rfl) rfl ⟨rfl, by repeat (first | exact Below.refl _ _ | (refine Below.alloc ?_ (by simp; try omega) _) | (refine Below.setCell ?_ (by simp) _))⟩
  · have e1 : rfS S e = S := by unfold rfS; rw [if_neg c]
    have e2 : rfE e x = e := by unfold rfE; rw [if_neg c]
    rw [e1, e2]
    clear e1 e2
    have c1 : (e == 0) = false := by simpa using c
    go_enter Tryd.func85, Tryd.ntmps85
    go_wp2
    exact bodyPost_ret (v := .agg #[.string S, .int .i64 e]) (by simp [results, Tryd.results85, go_sem] <;> rfl) rfl ⟨rfl, by repeat (first | exact Below.refl _ _ | (refine Below.alloc ?_ (by simp; try omega) _) | (refine Below.setCell ?_ (by simp) _))⟩

def tkS (S : ByteArray) (e n : Int) : ByteArray := if e ≠ 0 then S else if 0 ≤ n ∧ n ≤ S.size then S.extract n.toNat S.size else ByteArray.empty
def tkE (S : ByteArray) (e n : Int) : Int := if e ≠ 0 then e else if 0 ≤ n ∧ n ≤ S.size then 0 else 2
def tkR (S : ByteArray) (e n : Int) : ByteArray := if e ≠ 0 then ByteArray.empty else if 0 ≤ n ∧ n ≤ S.size then S.extract 0 n.toNat else ByteArray.empty

set_option maxRecDepth 100000 in
set_option maxHeartbeats 1000000 in
theorem rtake_any (S : ByteArray) (e n : Int) (w : World) (hl : S.size ≤ maxLen) : Calls Tryd.prog 69 #[.agg #[.string S, .int .i64 e], .int .i64 n] w fun y w' => y = .returned (.tuple #[.agg #[.string (tkS S e n), .int .i64 (tkE S e n)], .string (tkR S e n)]) ∧ Below w.heap.size w w' := by
  unfold maxLen at hl
  by_cases c : e = 0
  · by_cases d : 0 ≤ n ∧ n ≤ S.size
    · obtain ⟨m, rfl⟩ : ∃ m : Nat, n = m := ⟨n.toNat, by omega⟩
      have hm : m ≤ S.size := by omega
      have e1 : tkS S e m = S.extract m S.size := by unfold tkS; rw [if_neg (by simp [c]), if_pos d]; simp
      have e2 : tkE S e m = 0 := by unfold tkE; rw [if_neg (by simp [c]), if_pos d]
      have e3 : tkR S e m = S.extract 0 m := by unfold tkR; rw [if_neg (by simp [c]), if_pos d]; simp
      rw [e1, e2, e3]
      subst c
      clear e1 e2 e3 d
      go_enter Tryd.func69, Tryd.ntmps69
      go_wp2
      go_region
      all_goals
        go_wp2
        exact bodyPost_ret (v := .tuple #[.agg #[.string (S.extract m S.size), .int .i64 0], .string (S.extract 0 m)]) (by simp [results, Tryd.results69, go_sem] <;> rfl) rfl ⟨rfl, by repeat (first | exact Below.refl _ _ | (refine Below.alloc ?_ (by simp; try omega) _) | (refine Below.setCell ?_ (by simp) _) | (refine Below.drew ?_))⟩
    · have e1 : tkS S e n = ByteArray.empty := by unfold tkS; rw [if_neg (by simp [c]), if_neg d]
      have e2 : tkE S e n = 2 := by unfold tkE; rw [if_neg (by simp [c]), if_neg d]
      have e3 : tkR S e n = ByteArray.empty := by unfold tkR; rw [if_neg (by simp [c]), if_neg d]
      rw [e1, e2, e3]
      subst c
      clear e1 e2 e3
      have hf := fun w => rfail_any S 0 2 w
      have g1 : rfS S 0 = ByteArray.empty := rfl
      have g2 : rfE 0 2 = 2 := rfl
      rw [g1, g2] at hf
      clear g1 g2
      rcases (by omega : n < 0 ∨ (0 ≤ n ∧ S.size < n)) with d | ⟨d1, d2⟩
      all_goals
        go_enter Tryd.func69, Tryd.ntmps69
        go_wp2_with (go_at_call 85; refine (hf _).mono ?_; rintro y w1 ⟨rfl, hb⟩; have B1 := (blk_new2 _ _ _ _).below hb (by simp); have C1 := fun i => B1.cell i; have F1 := fun i => B1.frozen i; have hz1 : w.heap.size + 1 < w1.heap.size := (by have := hb.size; simp at this; omega))
        exact bodyPost_ret (v := .tuple #[.agg #[.string ByteArray.empty, .int .i64 2], .string ByteArray.empty]) (by simp [results, Tryd.results69, go_sem, C1, F1, hz1] <;> rfl) rfl ⟨rfl, (((Below.refl w.heap.size w).alloc (Nat.le_refl _) _).alloc (by simp) _ |>.trans (hb.mono (by simp; omega))).setCell (by simp) _ |>.setCell (by simp) _⟩
  · have e1 : tkS S e n = S := by unfold tkS; rw [if_pos c]
    have e2 : tkE S e n = e := by unfold tkE; rw [if_pos c]
    have e3 : tkR S e n = ByteArray.empty := by unfold tkR; rw [if_pos c]
    rw [e1, e2, e3]
    clear e1 e2 e3
    have c1 : (e != 0) = true := by simpa using c
    go_enter Tryd.func69, Tryd.ntmps69
    go_wp2
    exact bodyPost_ret (v := .tuple #[.agg #[.string S, .int .i64 e], .string ByteArray.empty]) (by simp [results, Tryd.results69, go_sem] <;> rfl) rfl ⟨rfl, by repeat (first | exact Below.refl _ _ | (refine Below.alloc ?_ (by simp; try omega) _) | (refine Below.setCell ?_ (by simp) _) | (refine Below.drew ?_))⟩
end Go.Proofs.YtbdbcjhahlofiaaDoor.oct
