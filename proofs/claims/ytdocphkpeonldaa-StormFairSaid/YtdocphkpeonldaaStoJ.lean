/- Layer 42: no more than so many of one way; the counts as a row. -/
import Derived.Test.YtdocphkpeonldaaStoI
namespace Go.Proofs.Ytdocphkpeonldaa.storm
open Go.Sort (grow)
open Go.ChangeShapes Go.WideShapes Go.ChangeAt Go.RowKit kit
set_option maxRecDepth 100000

/-- The counts of the eight ways. -/
def lr (f : Value → Int) : Array Value := #[.int .i64 (f (wy 0 0 0)), .int .i64 (f (wy 0 0 1)), .int .i64 (f (wy 0 1 0)), .int .i64 (f (wy 0 1 1)), .int .i64 (f (wy 1 0 0)), .int .i64 (f (wy 1 0 1)), .int .i64 (f (wy 1 1 0)), .int .i64 (f (wy 1 1 1))]
theorem lr_nil : lr nil0 = #[.int .i64 0, .int .i64 0, .int .i64 0, .int .i64 0, .int .i64 0, .int .i64 0, .int .i64 0, .int .i64 0] := rfl
theorem up_ne (f : Value → Int) (v u : Value) (n : Int) (h : u ≠ v) : up f v n u = f u := by unfold up; rw [if_neg h]
theorem up_eq (f : Value → Int) (v : Value) (n : Int) : up f v n v = n := by unfold up; rw [if_pos rfl]
theorem lr_at (f : Value → Int) {l a t : Int} {i : Nat} (hl : l = 0 ∨ l = 1) (ha : a = 0 ∨ a = 1) (ht : t = 0 ∨ t = 1) (hi : (i : Int) = l * 4 + a * 2 + t) : (lr f)[i]? = some (.int .i64 (f (wy l a t))) ∧ i < 8 := by
  rcases hl with rfl | rfl <;> rcases ha with rfl | rfl <;> rcases ht with rfl | rfl
  · obtain rfl : i = 0 := by omega
    exact ⟨rfl, by omega⟩
  · obtain rfl : i = 1 := by omega
    exact ⟨rfl, by omega⟩
  · obtain rfl : i = 2 := by omega
    exact ⟨rfl, by omega⟩
  · obtain rfl : i = 3 := by omega
    exact ⟨rfl, by omega⟩
  · obtain rfl : i = 4 := by omega
    exact ⟨rfl, by omega⟩
  · obtain rfl : i = 5 := by omega
    exact ⟨rfl, by omega⟩
  · obtain rfl : i = 6 := by omega
    exact ⟨rfl, by omega⟩
  · obtain rfl : i = 7 := by omega
    exact ⟨rfl, by omega⟩
theorem wy_ne {l a t l' a' t' : Int} (h : ¬ (l = l' ∧ a = a' ∧ t = t')) : wy l a t ≠ wy l' a' t' := fun e => h (wy_inj e)
theorem lr_set (f : Value → Int) (n : Int) {l a t : Int} {i : Nat} (hl : l = 0 ∨ l = 1) (ha : a = 0 ∨ a = 1) (ht : t = 0 ∨ t = 1) (hi : (i : Int) = l * 4 + a * 2 + t) : (lr f).setIfInBounds i (.int .i64 n) = lr (up f (wy l a t) n) := by
  have hu : ∀ l' a' t' : Int, up f (wy l a t) n (wy l' a' t') = if l' = l ∧ a' = a ∧ t' = t then n else f (wy l' a' t') := by
    intro l' a' t'
    split
    · rename_i h
      obtain ⟨rfl, rfl, rfl⟩ := h
      exact up_eq _ _ _
    · rename_i h
      exact up_ne _ _ _ _ (wy_ne h)
  have hr : lr (up f (wy l a t) n) = #[.int .i64 (up f (wy l a t) n (wy 0 0 0)), .int .i64 (up f (wy l a t) n (wy 0 0 1)), .int .i64 (up f (wy l a t) n (wy 0 1 0)), .int .i64 (up f (wy l a t) n (wy 0 1 1)), .int .i64 (up f (wy l a t) n (wy 1 0 0)), .int .i64 (up f (wy l a t) n (wy 1 0 1)), .int .i64 (up f (wy l a t) n (wy 1 1 0)), .int .i64 (up f (wy l a t) n (wy 1 1 1))] := rfl
  rw [hr]
  simp only [hu]
  clear hu hr
  rcases hl with rfl | rfl <;> rcases ha with rfl | rfl <;> rcases ht with rfl | rfl
  · obtain rfl : i = 0 := by omega
    simp [lr]
  · obtain rfl : i = 1 := by omega
    simp [lr]
  · obtain rfl : i = 2 := by omega
    simp [lr]
  · obtain rfl : i = 3 := by omega
    simp [lr]
  · obtain rfl : i = 4 := by omega
    simp [lr]
  · obtain rfl : i = 5 := by omega
    simp [lr]
  · obtain rfl : i = 6 := by omega
    simp [lr]
  · obtain rfl : i = 7 := by omega
    simp [lr]
theorem mk8 (w : World) : (Instr.makeSlice 33 (.int .i64 8) (.int .i64 8)).run Try.prog w = .ok (.slice (some ⟨w.heap.size, 0, none⟩) 8 8) (w.alloc (.cells (lr nil0) 3)) := by kernel_rfl
theorem szW (x l d b m : Int) : (Try.prog.info? 60).map (·.size) = some (#[.int .u64 x, .int .i64 l, .int .i64 d, .int .i64 b, .int .i64 m] : Array Value).size := by show _ = some 5; kernel_rfl
theorem tick_neq (w : World) : (binOp .neq 63 (.agg tick) (.agg tick)).run Try.prog w = .ok (.bool false) w := by kernel_rfl
end Go.Proofs.Ytdocphkpeonldaa.storm
