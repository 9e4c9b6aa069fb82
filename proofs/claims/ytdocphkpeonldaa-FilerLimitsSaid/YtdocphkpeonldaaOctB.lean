/- Layer 3's filling up, and its reader, each by a contract. -/
import Derived.Test.YtdocphkpeonldaaOct
import Derived.Test.YtdocphkpeonldaaShelf
namespace Go.Proofs.Ytdocphkpeonldaa.oct
open Go.ChangeShapes Go.WideShapes Go.ChangeAt Go.RowKit kit

/-- So many noughts. -/
def zeros (n : Nat) : ByteArray := strOfNums (List.replicate n 0)
theorem zeros_size (n : Nat) : (zeros n).size = n := by unfold zeros; rw [strOfNums_size]; simp
theorem repeat_zeros : ∀ n : Nat, (⟨(Lib.repeatL [0] n).toArray⟩ : ByteArray) = zeros n := by
  intro n
  unfold zeros strOfNums
  congr 1
  rw [List.map_replicate]
  congr 1
  induction n with
  | zero => rfl
  | succ n ih => rw [Lib.repeatL, ih]; rfl

theorem noughts_any (n : Nat) (w : World) (hn : n ≤ 1000000) : Calls Try.prog 129 #[.int .i64 n] w fun e w' => e = .returned (.string (zeros n)) ∧ Below w.heap.size w w' := by
  have h := fun w => Try.strings_Repeat (strOfNums [0]) n w (by omega) (by rw [strOfNums_size]; simp; omega)
  have e0 : (strOfNums [0]).data.toList = [0] := rfl
  rw [e0, repeat_zeros] at h
  go_enter Try.func129, Try.ntmps129
  go_wp2_with (go_at_call 142; refine (h _).mono ?_; rintro e w1 ⟨rfl, hb⟩)
  go_ret
  exact ⟨rfl, hb⟩

/-- Filled up. -/
def filled (s : ByteArray) : ByteArray := s ++ zeros (-(s.size : Int) % 4).toNat

theorem filled_any (s : ByteArray) (w : World) (hs : s.size ≤ 1000000) : Calls Try.prog 79 #[.string s] w fun e w' => e = .returned (.string (filled s)) ∧ Below w.heap.size w w' := by
  obtain ⟨k, hk⟩ : ∃ k : Nat, (k : Int) = -(s.size : Int) % 4 := ⟨(-(s.size : Int) % 4).toNat, by omega⟩
  have ef : filled s = s ++ zeros k := by unfold filled; rw [← hk]; rfl
  rw [ef]
  have hp := fun w => pad_any (s.size : Int) w (by omega) (by omega)
  rw [← hk] at hp
  have hk4 : k < 4 := by omega
  clear ef hk
  have hz := zeros_size k
  go_enter Try.func79, Try.ntmps79
  go_wp2_with (first | (go_at_call 130; refine (hp _).mono ?_; rintro e w' ⟨rfl, rfl⟩) | (go_at_call 129; refine (noughts_any _ _ (by omega)).mono ?_; rintro e w1 ⟨rfl, hb⟩))
  go_ret
  exact ⟨rfl, hb⟩

theorem new_any (s : ByteArray) (w : World) : Calls Try.prog 74 #[.string s] w fun e w' => e = .returned (.pointer (some ⟨w.heap.size, 0, none⟩)) ∧ w' = w.alloc (.cells #[.string s, .int .i64 0] 230) := by
  go_enter Try.func74, Try.ntmps74
  go_wp2
  go_ret
  exact ⟨rfl, rfl⟩

/-- Nothing but block g (of those that were there) has turned. -/
structure Touch (g : Nat) (w w' : World) : Prop where
  os : w'.os = w.os
  tape : w'.tape = w.tape
  output : w'.output = w.output
  size : w.heap.size ≤ w'.heap.size
  block : ∀ k, k < w.heap.size → k ≠ g → w'.heap[k]? = w.heap[k]?
theorem Touch.refl (g : Nat) (w : World) : Touch g w w := ⟨rfl, rfl, rfl, Nat.le_refl _, fun _ _ _ => rfl⟩
theorem Touch.trans {g : Nat} {a b c : World} (h : Touch g a b) (k : Touch g b c) : Touch g a c :=
  ⟨k.os.trans h.os, k.tape.trans h.tape, k.output.trans h.output, Nat.le_trans h.size k.size, fun i hi hg => (k.block i (Nat.lt_of_lt_of_le hi h.size) hg).trans (h.block i hi hg)⟩
theorem Touch.of_below {g : Nat} {a b : World} (h : Below a.heap.size a b) : Touch g a b := ⟨h.os, h.tape, h.output, h.size, fun k hk _ => h.block k hk⟩
theorem Touch.set_ (g : Nat) (w : World) (i : Nat) (u : Value) : Touch g w (w.setCell ⟨g, i, none⟩ u) :=
  ⟨rfl, rfl, rfl, by simp [World.setCell], fun k _ hg => Below.heap_setCell _ _ _ _ (by simpa using hg)⟩
theorem Touch.below {g B : Nat} {a w w' : World} (hb : Below B a w) (h : Touch g w w') (hB : B ≤ g) (hw : B ≤ w.heap.size) : Below B a w' :=
  hb.trans ⟨h.os, h.tape, h.output, h.size, fun k hk => h.block k (by omega) (by omega)⟩
theorem Touch.blk {g k : Nat} {w w' : World} {t : TypeId} {cs : Array Value} (h : Touch g w w') (b : Blk w k t cs) (hk : k ≠ g) : Blk w' k t cs := (h.block k b.lt hk).trans b

/-- A reader: what is left, the first error. -/
def RD (w : World) (g : Nat) (l : ByteArray) (e : Int) : Prop := Blk w g 230 #[.string l, .int .i64 e]
theorem RD.set2 {w : World} {g : Nat} {l : ByteArray} {e : Int} (h : RD w g l e) (l' : ByteArray) (e' : Int) : RD ((w.setCell ⟨g, 1, none⟩ (.int .i64 e')).setCell ⟨g, 0, none⟩ (.string l')) g l' e' := by
  have := (Blk.set_ h 1 (.int .i64 e')).set_ 0 (.string l')
  unfold RD
  simpa using this
theorem RD.set1 {w : World} {g : Nat} {l : ByteArray} {e : Int} (h : RD w g l e) (l' : ByteArray) : RD (w.setCell ⟨g, 0, none⟩ (.string l')) g l' e := by
  have := Blk.set_ h 0 (.string l')
  unfold RD
  simpa using this

def failL (l : ByteArray) (e0 e : Int) : ByteArray := if e0 ≠ 0 ∨ e = 0 then l else ByteArray.empty
def failE (e0 e : Int) : Int := if e0 ≠ 0 ∨ e = 0 then e0 else e

theorem fail_any (g : Nat) (l : ByteArray) (e0 e : Int) (w : World) (h : RD w g l e0) :
    Calls Try.prog 137 #[.pointer (some ⟨g, 0, none⟩), .int .i64 e] w fun x w' => x = .returned (.tuple #[]) ∧ RD w' g (failL l e0 e) (failE e0 e) ∧ Touch g w w' := by
  have h0 := Blk.cell h 0
  have h1 := Blk.cell h 1
  have f0 := Blk.frozen h 0
  have f1 := Blk.frozen h 1
  by_cases c : e0 ≠ 0 ∨ e = 0
  · have e1 : failL l e0 e = l := by unfold failL; rw [if_pos c]
    have e2 : failE e0 e = e0 := by unfold failE; rw [if_pos c]
    rw [e1, e2]
    by_cases c0 : e0 = 0
    · have c1 : e = 0 := by rcases c with c | c; exact absurd c0 c; exact c
      subst c0 c1
      go_enter Try.func137, Try.ntmps137
      go_wp2
      exact bodyPost_ret (v := .tuple #[]) (by simp [results, Try.results137, go_sem]) rfl ⟨rfl, h, Touch.refl _ _⟩
    · have c1 : (e0 != 0) = true := by simpa using c0
      go_enter Try.func137, Try.ntmps137
      go_wp2
      exact bodyPost_ret (v := .tuple #[]) (by simp [results, Try.results137, go_sem]) rfl ⟨rfl, h, Touch.refl _ _⟩
  · have c0 : e0 = 0 := Classical.byContradiction fun q => c (.inl q)
    have c1 : ¬ e = 0 := fun q => c (.inr q)
    have e1 : failL l e0 e = ByteArray.empty := by unfold failL; rw [if_neg c]
    have e2 : failE e0 e = e := by unfold failE; rw [if_neg c]
    rw [e1, e2]
    clear c e1 e2
    subst c0
    have c2 : (e == 0) = false := by simpa using c1
    go_enter Try.func137, Try.ntmps137
    go_wp2
    go_end0
    exact ⟨rfl, h.set2 _ _, (Touch.set_ _ _ _ _).trans (Touch.set_ _ _ _ _)⟩

theorem err_any (g : Nat) (l : ByteArray) (e0 : Int) (w : World) (h : RD w g l e0) :
    Calls Try.prog 103 #[.pointer (some ⟨g, 0, none⟩)] w fun x w' => x = .returned (.int .i64 e0) ∧ w = w' := by
  have h1 := Blk.cell h 1
  go_enter Try.func103, Try.ntmps103
  go_wp2
  go_ret
  exact ⟨rfl, rfl⟩
theorem left_any (g : Nat) (l : ByteArray) (e0 : Int) (w : World) (h : RD w g l e0) :
    Calls Try.prog 100 #[.pointer (some ⟨g, 0, none⟩)] w fun x w' => x = .returned (.int .i64 l.size) ∧ w = w' := by
  have h1 := Blk.cell h 0
  go_enter Try.func100, Try.ntmps100
  go_wp2
  go_ret
  exact ⟨rfl, rfl⟩

theorem take_in (g : Nat) (l : ByteArray) (e0 : Int) (n : Nat) (w : World) (h : RD w g l e0) (hn : n ≤ l.size) (hl : l.size ≤ maxLen) :
    Calls Try.prog 102 #[.pointer (some ⟨g, 0, none⟩), .int .i64 n] w fun x w' => x = .returned (.string (l.extract 0 n)) ∧ RD w' g (l.extract n l.size) e0 ∧ Touch g w w' := by
  unfold maxLen at hl
  have h0 := Blk.cell h 0
  have f0 := Blk.frozen h 0
  go_enter Try.func102, Try.ntmps102
  go_wp2
  go_ret
  exact ⟨rfl, h.set1 _, Touch.set_ _ _ _ _⟩
theorem take_out (g : Nat) (l : ByteArray) (e0 : Int) (n : Int) (w : World) (h : RD w g l e0) (hn : n < 0 ∨ l.size < n) (hl : l.size ≤ maxLen) :
    Calls Try.prog 102 #[.pointer (some ⟨g, 0, none⟩), .int .i64 n] w fun x w' => x = .returned (.string ByteArray.empty) ∧ RD w' g (failL l e0 2) (failE e0 2) ∧ Touch g w w' := by
  unfold maxLen at hl
  have h0 := Blk.cell h 0
  have f0 := Blk.frozen h 0
  rcases hn with hn | hn
  all_goals
    go_enter Try.func102, Try.ntmps102
    go_wp2_with (go_at_call 137; refine (fail_any g l e0 2 _ h).mono ?_; rintro e w1 ⟨rfl, hr, ht⟩)
    go_ret
    exact ⟨rfl, hr, ht⟩
end Go.Proofs.Ytdocphkpeonldaa.oct
