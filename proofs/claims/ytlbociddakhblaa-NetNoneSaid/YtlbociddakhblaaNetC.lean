/- Layer 31: one packet taken. -/
import Derived.Test.YtlbociddakhblaaNetB
import Derived.StillTailTactics
import Derived.Laws.IdiomCopy
import Derived.Lib.Hide
namespace Go.Proofs.Ytlbociddakhblaa.net
open Go.ChangeShapes Go.WideShapes Go.ChangeAt Go.RowKit kit
set_option maxRecDepth 100000

theorem len_of (g h n cap : Nat) (w : World) (N : Blk w g 119 #[.slice (some ⟨h, 0, none⟩) n cap, .int .i64 0]) : Calls Try.prog 20 #[.pointer (some ⟨g, 0, none⟩)] w fun e w' => e = .returned (.int .i64 n) ∧ w = w' := by
  have c0 : w.cell? ⟨g, 0, none⟩ = some (.slice (some ⟨h, 0, none⟩) n cap) := N.cell 0
  go_enter Try.func20, Try.ntmps20
  go_wp2
  go_ret
  exact ⟨rfl, rfl⟩
theorem has_one (g h cap : Nat) (w : World) (N : Blk w g 119 #[.slice (some ⟨h, 0, none⟩) 1 cap, .int .i64 0]) : Calls Try.prog 87 #[.pointer (some ⟨g, 0, none⟩), .int .i64 0] w fun e w' => e = .returned (.bool true) ∧ w = w' := by
  go_enter Try.func87, Try.ntmps87
  go_wp2_with fail
  refine (len_of g h 1 cap _ N).mono ?_
  rintro e w1 ⟨rfl, rfl⟩
  go_wp2
  go_ret
  exact ⟨rfl, rfl⟩
abbrev item0 : Array Value := item 0 0 0 0 ⟨#[]⟩ false
theorem item_zero (w : World) : (zeroValue 27).run Try.prog w = .ok (.agg item0) w := Try.zeroValue27 w
theorem run_clear_item (w : World) (ty : TypeId) (h c : Nat) (hc : ∀ j, j < 6 → (w.cell? ⟨h, j, none⟩).isSome = true) (hf : ∀ j, j < 6 → w.frozen? ⟨h, j, none⟩ = false) :
    (Builtin.clear_ #[36] ty #[.slice (some ⟨h, 0, none⟩) 1 c]).run Try.prog w = .ok (.tuple #[]) (w.setCells h 0 item0.toList) := by
  have hst := run_storeCells_cells (P := Try.prog) h 0 item0.toList 0 w (fun j hj => by rw [Nat.zero_add]; exact hc j (by simpa using hj)) (fun j hj => by rw [Nat.zero_add]; exact hf j (by simpa using hj)) (by
    intro v hv
    simp at hv
    rcases hv with rfl | rfl | rfl | rfl | rfl | rfl <;> rfl)
  simp only [Nat.add_zero] at hst
  have hzc : (Builtin.zeroCells (Value.agg item0).cells 1).toList = item0.toList := by kernel_rfl
  simp only [Builtin.clear_, run_underlying Try.underlying36, Sem.run_bind, Result.andThen_ok]
  simp [item_zero, hzc, hst]
theorem below_setCells {B g : Nat} {a w : World} (h : Below B a w) (hg : B ≤ g) : ∀ (o : Nat) (vs : List Value), Below B a (w.setCells g o vs) := by
  intro o vs
  induction vs generalizing o w with
  | nil => exact h
  | cons v vs ih => exact ih (h.setCell (p := ⟨g, o, none⟩) hg v) (o + 1)
theorem delete_one (h cap : Nat) (w : World) (hlt : h < w.heap.size) (hc1 : 1 ≤ cap) (hc2 : cap ≤ maxLen) (hI : ∀ j u, (item 0 0 1 0 ⟨#[]⟩ false)[j]? = some u → w.cell? ⟨h, j, none⟩ = some u ∧ w.frozen? ⟨h, j, none⟩ = false) : Calls Try.prog 88 #[.slice (some ⟨h, 0, none⟩) 1 cap, .int .i64 0, .int .i64 1] w fun e w' => e = .returned (.slice (some ⟨h, 0, none⟩) 0 cap) ∧ w' = w.drew.setCells h 0 item0.toList := by
  unfold maxLen at hc2
  go_enter Try.func88, Try.ntmps88
  go_wp2_with fail
  refine wp_region_still_tail 6 (by kernel_rfl) (by kernel_rfl) ?_
  simp only [List.take_succ_cons, List.take_zero, List.drop_succ_cons, List.drop_zero]
  repeat still_step
  refine wpStill_nil ?_
  change wpList _ _ _ _ _ w.drew
  have hcl := fun ty c => run_clear_item w.drew ty h c (fun j hj => by
    have := (hI j ((item 0 0 1 0 ⟨#[]⟩ false)[j]'(by simpa using hj)) (Array.getElem?_eq_getElem _)).1
    show (w.cell? _).isSome = true
    rw [this]; rfl) (fun j hj => (hI j ((item 0 0 1 0 ⟨#[]⟩ false)[j]'(by simpa using hj)) (Array.getElem?_eq_getElem _)).2)
  clear hI
  generalize hw : w.drew = w1 at *
  have HW := Lib.hid hw
  clear hw
  by_cases h1 : cap = 1
  · subst h1
    go_wp2
    go_ret
    exact ⟨rfl, by rw [HW.out]⟩
  · go_wp2
    go_ret
    exact ⟨rfl, by rw [HW.out]⟩
end Go.Proofs.Ytlbociddakhblaa.net
