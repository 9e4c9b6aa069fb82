/- Layer 31: one packet put. -/
import Derived.Test.YtlbociddakhblaaNetA
import Derived.Test.YtlbociddakhblaaNatC
import Derived.Deep.AppendLies
import Derived.Deep.RegionHeldLaw
import Derived.RegionTactic
import Derived.Deep.RegionLaw
import Derived.Laws.AppendOwn
namespace Go.Proofs.Ytlbociddakhblaa.net
open Go.ChangeShapes Go.WideShapes Go.ChangeAt Go.RowKit kit
set_option maxRecDepth 100000

theorem infoI : (Try.prog.info? 27).map (fun i => (i.zero, i.size, i.bytes)) = some (some (.agg (item 0 0 0 0 ⟨#[]⟩ false)), 6, 48) := by kernel_rfl
/-- A net with one packet. -/
def OneAt (g : Nat) (w : World) : Prop := ∃ h cap, Blk w g 119 #[.slice (some ⟨h, 0, none⟩) 1 cap, .int .i64 0] ∧ g < h ∧ h < w.heap.size ∧ 1 ≤ cap ∧ cap ≤ maxLen ∧ ∀ j u, (item 0 0 1 0 ⟨#[]⟩ false)[j]? = some u → w.cell? ⟨h, j, none⟩ = some u ∧ w.frozen? ⟨h, j, none⟩ = false
set_option maxHeartbeats 1000000 in
theorem put_first (g : Nat) (w : World) (B : Blk w g 119 #[.slice none 0 0, .int .i64 0]) : Calls Try.prog 17 #[.pointer (some ⟨g, 0, none⟩), .agg (item 0 0 1 0 ⟨#[]⟩ false)] w fun e w' => e = .returned (.bool true) ∧ OneAt g w' ∧ Below g w w' := by
  obtain ⟨i0, hi, hz0, hz1, hz2⟩ := info_parts infoI
  have C0 := fun i => B.cell i
  have hg0 := B.lt
  go_enter Try.func17, Try.ntmps17
  have B1 := B.alloc (.cells (item 0 0 1 0 ⟨#[]⟩ false) 27)
  have E1 := Blk.new w 27 (item 0 0 1 0 ⟨#[]⟩ false)
  have bel : Below g w (w.alloc (.cells (item 0 0 1 0 ⟨#[]⟩ false) 27)) := (Below.refl _ _).alloc (Nat.le_of_lt hg0) _
  have bel1s : w.heap.size ≤ (w.alloc (.cells (item 0 0 1 0 ⟨#[]⟩ false) 27)).heap.size := by simp
  go_upto_region 1 with (fail)
  generalize w.alloc (.cells (item 0 0 1 0 ⟨#[]⟩ false) 27) = w1 at *
  generalize w.heap.size = n0 at *
  clear C0
  have C := fun i => B1.cell i
  have F := fun i => B1.frozen i
  have CE := fun i => E1.cell i
  have hg1 := B1.lt
  have hx1 := E1.lt
  go_wp2_with fail
  go_region_law ((refine step_append_lies _ (by rfl) _ _ _ (by rfl) g 27 i0 (.agg (item 0 0 0 0 ⟨#[]⟩ false)) 6 48 Try.underlying36 hi hz0 hz1 hz2 rfl (by decide) (.slice none 0 0) 0 [] (by rfl) (World.ownsRow_nil _ _ _ _) ⟨w1.heap.size, 0, none⟩ 1 1 (item 0 0 1 0 ⟨#[]⟩ false).toList (by rfl) rfl (World.news_of_block (heap_alloc_new _ _)) (by intro u hu; simp at hu; rcases hu with rfl | rfl | rfl | rfl | rfl | rfl <;> rfl) (by omega) (by unfold maxLen; omega) (by omega) (by simp; omega) (w1.heap.size + 1) (by simp) ?_; intro h cap w8 hown8 hgrow hat hlt; have B8 : Blk w8 g 119 #[.slice none 0 0, .int .i64 0] := (hgrow.block g (by simp; omega) (by simp [Value.ownBlock])).trans (Blk.alloc B1 (.cells (item 0 0 1 0 ⟨#[]⟩ false) 27)); have C8 := fun i => B8.cell i; have F8 := fun i => B8.frozen i))
  all_goals
    go_wp2_with fail
    go_ret
    have hh : h = w1.heap.size + 1 := hat.resolve_left (by simp [Value.ownBlock])
    have bel8 : Below g w w8 := (((bel.alloc (Nat.le_trans (Nat.le_of_lt hg0) bel1s) (.cells (item 0 0 1 0 ⟨#[]⟩ false) 27)).drew)).grown hgrow (by simp; omega) (fun k hk => by simp [Value.ownBlock] at hk)
    have hne : g < h := by omega
    have hcap : 1 ≤ cap ∧ cap ≤ maxLen := by
      rcases hown8.2 with ⟨q, _⟩ | ⟨g', cap', cur, q, _, _, q1, q2, _⟩
      · simp at q
      · simp at q
        obtain ⟨rfl, rfl⟩ := q
        exact ⟨by omega, q2⟩
    refine ⟨rfl, ⟨h, cap, B8.set_ 0 _, hne, by simpa [World.setCell] using hlt, hcap.1, hcap.2, fun j u hu => ?_⟩, bel8.setCell (Nat.le_refl _) _⟩
    have hj : j < 6 := by
      rcases Nat.lt_or_ge j 6 with q | q
      · exact q
      · rw [Array.getElem?_eq_none (by simpa using q)] at hu; cases hu
    refine ⟨?_, ?_⟩
    · rw [World.cell?_of_block (a := ⟨h, j, none⟩) (Below.heap_setCell w8 ⟨g, 0, none⟩ _ h (Nat.ne_of_gt hne))]
      refine (World.ownsRow.cellAt hown8 j (by omega)).trans ?_
      simpa using hu
    · rw [World.frozen?_setCell]
      exact World.ownsRow.frozenAt hown8 j
end Go.Proofs.Ytlbociddakhblaa.net
