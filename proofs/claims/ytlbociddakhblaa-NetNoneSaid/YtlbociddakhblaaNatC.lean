/- Layer 11: the first entry of a table. -/
import Derived.Test.YtlbociddakhblaaNatB
import Derived.Deep.AppendLies
import Derived.Deep.RegionHeldLaw
import Derived.RegionTactic
import Derived.Deep.RegionLaw
import Derived.Laws.AppendOwn
namespace Go.Proofs.Ytlbociddakhblaa.nat
open Go.ChangeShapes Go.WideShapes Go.ChangeAt Go.RowKit kit
set_option maxRecDepth 100000

theorem infoE : (Try.prog.info? 58).map (fun i => (i.zero, i.size, i.bytes)) = some (some (.agg (en 0 0 0 0 0 0 0)), 7, 48) := by kernel_rfl
/-- A table of one entry. -/
def OneAt (g : Nat) (w : World) : Prop := ∃ h cap, Blk w g 184 #[.int .i64 3, .slice (some ⟨h, 0, none⟩) 1 cap] ∧ h ≠ g ∧ h < w.heap.size ∧ 1 ≤ cap ∧ cap ≤ maxLen ∧ ∀ j u, (en 1 5 9 7 4 0 0)[j]? = some u → w.cell? ⟨h, j, none⟩ = some u
set_option maxHeartbeats 1000000 in
theorem add_first (g : Nat) (w : World) (B : Blk w g 184 #[.int .i64 3, .slice none 0 0]) : Calls Try.prog 79 #[.pointer (some ⟨g, 0, none⟩), .agg (en 1 5 9 7 4 0 0)] w fun e w' => e = .returned (.int .i64 0) ∧ OneAt g w' ∧ Below g w w' := by
  obtain ⟨i0, hi, hz0, hz1, hz2⟩ := info_parts infoE
  have C0 := fun i => B.cell i
  have hg0 := B.lt
  go_enter Try.func79, Try.ntmps79
  go_wp2_with fail
  refine (find_fresh g 3 _ _ (B.alloc _)).mono ?_
  rintro e w1 ⟨rfl, hb1⟩
  have B1 := (B.alloc (.cells (en 1 5 9 7 4 0 0) 58)).below hb1 (by simp; omega)
  have E1 := (Blk.new w 58 (en 1 5 9 7 4 0 0)).below hb1 (by simp)
  have bel1 : Below w.heap.size w w1 := ((Below.refl _ _).alloc (Nat.le_refl _) _).trans (hb1.mono (by simp))
  have bel : Below g w w1 := bel1.mono (by omega)
  have C := fun i => B1.cell i
  have F := fun i => B1.frozen i
  have CE := fun i => E1.cell i
  have hg1 := B1.lt
  have hx1 := E1.lt
  have bel1s : w.heap.size ≤ w1.heap.size := bel1.size
  clear hb1 bel1
  go_wp2_with fail
  go_region
  all_goals
    go_wp2_with fail
    go_region_law ((refine step_append_lies _ (by rfl) _ _ _ (by rfl) g 58 i0 (.agg (en 0 0 0 0 0 0 0)) 7 48 Try.underlying56 hi hz0 hz1 hz2 rfl (by decide) (.slice none 0 0) 0 [] (by rfl) (World.ownsRow_nil _ _ _ _) ⟨w1.heap.size, 0, none⟩ 1 1 (en 1 5 9 7 4 0 0).toList (by rfl) rfl (World.news_of_block (heap_alloc_new _ _)) (by intro u hu; simp at hu; rcases hu with rfl | rfl | rfl | rfl | rfl | rfl | rfl <;> rfl) (by omega) (by unfold maxLen; omega) (by omega) (by simp; omega) (w1.heap.size + 1) (by simp) ?_; intro h cap w8 hown8 hgrow hat hlt; have B8 : Blk w8 g 184 #[.int .i64 3, .slice none 0 0] := (hgrow.block g (by simp; omega) (by simp [Value.ownBlock])).trans (Blk.alloc B1 (.cells (en 1 5 9 7 4 0 0) 58)); have C8 := fun i => B8.cell i; have F8 := fun i => B8.frozen i))
  all_goals
    go_wp2_with fail
    go_ret
    have hh : h = w1.heap.size + 1 := hat.resolve_left (by simp [Value.ownBlock])
    have bel8 : Below g w w8 := (((bel.alloc (Nat.le_trans (Nat.le_of_lt hg0) bel1s) (.cells (en 1 5 9 7 4 0 0) 58)).drew).drew).grown hgrow (by simp; omega) (fun k hk => by simp [Value.ownBlock] at hk)
    have hne : h ≠ g := by omega
    have hcap : 1 ≤ cap ∧ cap ≤ maxLen := by
      rcases hown8.2 with ⟨q, _⟩ | ⟨g', cap', cur, q, _, _, q1, q2, _⟩
      · simp at q
      · simp at q
        obtain ⟨rfl, rfl⟩ := q
        exact ⟨by omega, q2⟩
    refine ⟨rfl, ⟨h, cap, B8.set_ 1 _, hne, by simpa [World.setCell] using hlt, hcap.1, hcap.2, fun j u hu => ?_⟩, bel8.setCell (Nat.le_refl _) _⟩
    rw [World.cell?_of_block (a := ⟨h, j, none⟩) (Below.heap_setCell w8 ⟨g, 1, none⟩ _ h hne)]
    have hj : j < 7 := by
      rcases Nat.lt_or_ge j 7 with q | q
      · exact q
      · rw [Array.getElem?_eq_none (by simpa using q)] at hu; cases hu
    refine (World.ownsRow.cellAt hown8 j (by omega)).trans ?_
    simpa using hu
end Go.Proofs.Ytlbociddakhblaa.nat
