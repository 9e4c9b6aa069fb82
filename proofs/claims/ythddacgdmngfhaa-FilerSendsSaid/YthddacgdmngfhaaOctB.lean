/- Layer 3's filling up, and its reader, each by a contract. -/
import Derived.Test.YthddacgdmngfhaaOct
import Derived.Test.YthddacgdmngfhaaShelf
namespace Go.Proofs.Ythddacgdmngfhaa.oct
open Go.ChangeShapes Go.WideShapes Go.ChangeAt Go.RowKit kit

/-- So many noughts. -/
def zeros (n : Nat) : ByteArray := strOfNums (List.replicate n 0)
theorem zeros_size (n : Nat) : (zeros n).size = n := by unfold zeros; rw [strOfNums_size]; simp
theorem repeat_zeros : ∀ n : Nat, (⟨(Lib.repeatL [0] n).toArray⟩ : ByteArray) = zeros n := by
  intro n
  unfold zeros strOfNums
  congr 1
  rw [List.map_replicate]
  congr 1
  induction n with
  | zero => rfl
  | succ n ih => rw [Lib.repeatL, ih]; rfl

/-- Filled up. -/
def filled (s : ByteArray) : ByteArray := s ++ zeros (-(s.size : Int) % 4).toNat

theorem new_any (s : ByteArray) (w : World) : Calls Try.prog 145 #[.string s] w fun e w' => e = .returned (.pointer (some ⟨w.heap.size, 0, none⟩)) ∧ w' = w.alloc (.cells #[.string s, .int .i64 0] 285) := by
  go_enter Try.func145, Try.ntmps145
  go_wp2
  go_ret
  exact ⟨rfl, rfl⟩

/-- Nothing but block g (of those that were there) has turned. -/
structure Touch (g : Nat) (w w' : World) : Prop where
  os : w'.os = w.os
  tape : w'.tape = w.tape
  output : w'.output = w.output
  size : w.heap.size ≤ w'.heap.size
  block : ∀ k, k < w.heap.size → k ≠ g → w'.heap[k]? = w.heap[k]?
theorem Touch.refl (g : Nat) (w : World) : Touch g w w := ⟨rfl, rfl, rfl, Nat.le_refl _, fun _ _ _ => rfl⟩
theorem Touch.trans {g : Nat} {a b c : World} (h : Touch g a b) (k : Touch g b c) : Touch g a c :=
  ⟨k.os.trans h.os, k.tape.trans h.tape, k.output.trans h.output, Nat.le_trans h.size k.size, fun i hi hg => (k.block i (Nat.lt_of_lt_of_le hi h.size) hg).trans (h.block i hi hg)⟩
theorem Touch.of_below {g : Nat} {a b : World} (h : Below a.heap.size a b) : Touch g a b := ⟨h.os, h.tape, h.output, h.size, fun k hk _ => h.block k hk⟩
theorem Touch.set_ (g : Nat) (w : World) (i : Nat) (u : Value) : Touch g w (w.setCell ⟨g, i, none⟩ u) :=
  ⟨rfl, rfl, rfl, by simp [World.setCell], fun k _ hg => Below.heap_setCell _ _ _ _ (by simpa using hg)⟩
theorem Touch.below {g B : Nat} {a w w' : World} (hb : Below B a w) (h : Touch g w w') (hB : B ≤ g) (hw : B ≤ w.heap.size) : Below B a w' :=
  hb.trans ⟨h.os, h.tape, h.output, h.size, fun k hk => h.block k (by omega) (by omega)⟩
theorem Touch.blk {g k : Nat} {w w' : World} {t : TypeId} {cs : Array Value} (h : Touch g w w') (b : Blk w k t cs) (hk : k ≠ g) : Blk w' k t cs := (h.block k b.lt hk).trans b

/-- A reader: what is left, the first error. -/
def RD (w : World) (g : Nat) (l : ByteArray) (e : Int) : Prop := Blk w g 285 #[.string l, .int .i64 e]
theorem RD.set2 {w : World} {g : Nat} {l : ByteArray} {e : Int} (h : RD w g l e) (l' : ByteArray) (e' : Int) : RD ((w.setCell ⟨g, 1, none⟩ (.int .i64 e')).setCell ⟨g, 0, none⟩ (.string l')) g l' e' := by
  have := (Blk.set_ h 1 (.int .i64 e')).set_ 0 (.string l')
  unfold RD
  simpa using this
theorem RD.set1 {w : World} {g : Nat} {l : ByteArray} {e : Int} (h : RD w g l e) (l' : ByteArray) : RD (w.setCell ⟨g, 0, none⟩ (.string l')) g l' e := by
  have := Blk.set_ h 0 (.string l')
  unfold RD
  simpa using this

def failL (l : ByteArray) (e0 e : Int) : ByteArray := if e0 ≠ 0 ∨ e = 0 then l else ByteArray.empty
def failE (e0 e : Int) : Int := if e0 ≠ 0 ∨ e = 0 then e0 else e

theorem fail_any (g : Nat) (l : ByteArray) (e0 e : Int) (w : World) (h : RD w g l e0) :
    Calls Try.prog 185 #[.pointer (some ⟨g, 0, none⟩), .int .i64 e] w fun x w' => x = .returned (.tuple #[]) ∧ RD w' g (failL l e0 e) (failE e0 e) ∧ Touch g w w' := by
  have h0 := Blk.cell h 0
  have h1 := Blk.cell h 1
  have f0 := Blk.frozen h 0
  have f1 := Blk.frozen h 1
  by_cases c : e0 ≠ 0 ∨ e = 0
  · have e1 : failL l e0 e = l := by unfold failL; rw [if_pos c]
    have e2 : failE e0 e = e0 := by unfold failE; rw [if_pos c]
    rw [e1, e2]
    by_cases c0 : e0 = 0
    · have c1 : e = 0 := by rcases c with c | c; exact absurd c0 c; exact c
      subst c0 c1
      go_enter Try.func185, Try.ntmps185
      go_wp2
      exact bodyPost_ret (v := .tuple #[]) (by simp [results, Try.results185, go_sem]) rfl ⟨rfl, h, Touch.refl _ _⟩
    · have c1 : (e0 != 0) = true := by simpa using c0
      go_enter Try.func185, Try.ntmps185
      go_wp2
      exact bodyPost_ret (v := .tuple #[]) (by simp [results, Try.results185, go_sem]) rfl ⟨rfl, h, Touch.refl _ _⟩
  · have c0 : e0 = 0 := Classical.byContradiction fun q => c (.inl q)
    have c1 : ¬ e = 0 := fun q => c (.inr q)
    have e1 : failL l e0 e = ByteArray.empty := by unfold failL; rw [if_neg c]
    have e2 : failE e0 e = e := by unfold failE; rw [if_neg c]
    rw [e1, e2]
    clear c e1 e2
    subst c0
    have c2 : (e == 0) = false := by simpa using c1
    go_enter Try.func185, Try.ntmps185
    go_wp2
    go_end0
    exact ⟨rfl, h.set2 _ _, (Touch.set_ _ _ _ _).trans (Touch.set_ _ _ _ _)⟩

theorem err_any (g : Nat) (l : ByteArray) (e0 : Int) (w : World) (h : RD w g l e0) :
    Calls Try.prog 148 #[.pointer (some ⟨g, 0, none⟩)] w fun x w' => x = .returned (.int .i64 e0) ∧ w = w' := by
  have h1 := Blk.cell h 1
  go_enter Try.func148, Try.ntmps148
  go_wp2
  go_ret
  exact ⟨rfl, rfl⟩
theorem left_any (g : Nat) (l : ByteArray) (e0 : Int) (w : World) (h : RD w g l e0) :
    Calls Try.prog 178 #[.pointer (some ⟨g, 0, none⟩)] w fun x w' => x = .returned (.int .i64 l.size) ∧ w = w' := by
  have h1 := Blk.cell h 0
  go_enter Try.func178, Try.ntmps178
  go_wp2
  go_ret
  exact ⟨rfl, rfl⟩

theorem take_in (g : Nat) (l : ByteArray) (e0 : Int) (n : Nat) (w : World) (h : RD w g l e0) (hn : n ≤ l.size) (hl : l.size ≤ maxLen) :
    Calls Try.prog 177 #[.pointer (some ⟨g, 0, none⟩), .int .i64 n] w fun x w' => x = .returned (.string (l.extract 0 n)) ∧ RD w' g (l.extract n l.size) e0 ∧ Touch g w w' := by
  unfold maxLen at hl
  have h0 := Blk.cell h 0
  have f0 := Blk.frozen h 0
  go_enter Try.func177, Try.ntmps177
  go_wp2
  go_ret
  exact ⟨rfl, h.set1 _, Touch.set_ _ _ _ _⟩
theorem take_out (g : Nat) (l : ByteArray) (e0 : Int) (n : Int) (w : World) (h : RD w g l e0) (hn : n < 0 ∨ l.size < n) (hl : l.size ≤ maxLen) :
    Calls Try.prog 177 #[.pointer (some ⟨g, 0, none⟩), .int .i64 n] w fun x w' => x = .returned (.string ByteArray.empty) ∧ RD w' g (failL l e0 2) (failE e0 2) ∧ Touch g w w' := by
  unfold maxLen at hl
  have h0 := Blk.cell h 0
  have f0 := Blk.frozen h 0
  rcases hn with hn | hn
  all_goals
    go_enter Try.func177, Try.ntmps177
    go_wp2_with (go_at_call 185; refine (fail_any g l e0 2 _ h).mono ?_; rintro e w1 ⟨rfl, hr, ht⟩)
    go_ret
    exact ⟨rfl, hr, ht⟩
end Go.Proofs.Ythddacgdmngfhaa.oct
