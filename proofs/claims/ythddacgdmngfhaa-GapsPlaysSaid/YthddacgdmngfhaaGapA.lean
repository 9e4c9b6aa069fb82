/- Layer 16: nobody got anything; the first part laid. -/
import Derived.Test.YthddacgdmngfhaaRows
import Derived.Test.YthddacgdmngfhaaKitC
import Derived.Outline
import Derived.OwnWalk
import Derived.BigQuiet
import Derived.LoopTactic
import Derived.Deep.CutBlock
import Derived.Deep.DeepCutAuto
import Derived.Deep.RegionWith
import Derived.BigRegion
import Derived.Deep.AppendLies
import Derived.Deep.RegionLaw
import Derived.StillTailTactics
namespace Go.Proofs.Ythddacgdmngfhaa.gap
open Go.Sort (grow)
open Go.ChangeShapes Go.WideShapes Go.ChangeAt Go.RowKit kit
set_option maxRecDepth 100000

theorem Cum_nil (w : World) : Calls Try.prog 42 #[.pointer none] w fun e w' => e = .returned (.int .u32 0) ∧ w = w' := by
  go_enter Try.func42, Try.ntmps42
  go_wp2
  go_ret
  exact ⟨rfl, rfl⟩
theorem Look_nil (t : Int) (w : World) : Calls Try.prog 38 #[.pointer none, .int .u32 t] w fun e w' => e = .returned (.int .i64 3) ∧ Below w.heap.size w w' := by
  go_enter Try.func38, Try.ntmps38
  go_wp2
  go_ret
  exact ⟨rfl, (Below.refl _ _).alloc (Nat.le_refl _) _⟩
theorem Add_nil (t : Int) (w : World) : Calls Try.prog 41 #[.pointer none, .int .u32 t] w fun e w' => e = .returned (.int .i64 3) ∧ Below w.heap.size w w' := by
  go_enter Try.func41, Try.ntmps41
  go_wp2_with fail
  refine (Look_nil _ _).mono ?_
  rintro e w1 ⟨rfl, hb⟩
  go_wp2
  go_ret
  exact ⟨rfl, hb⟩
theorem Gaps_nil (w : World) : Calls Try.prog 46 #[.pointer none] w fun e w' => e = .returned (.slice none 0 0) ∧ w = w' := by
  go_enter Try.func46, Try.ntmps46
  go_wp2
  go_ret
  exact ⟨rfl, rfl⟩
theorem Dups_nil (w : World) : Calls Try.prog 44 #[.pointer none] w fun e w' => e = .returned (.slice none 0 0) ∧ w = w' := by
  go_enter Try.func44, Try.ntmps44
  go_wp2
  go_ret
  exact ⟨rfl, rfl⟩
theorem Whole_nil (w : World) : Calls Try.prog 43 #[.pointer none] w fun e w' => e = .returned (.bool false) ∧ w = w' := by
  go_enter Try.func43, Try.ntmps43
  go_wp2
  go_ret
  exact ⟨rfl, rfl⟩
theorem diff_10 (w : World) : Calls Try.prog 96 #[.int .u32 1, .int .u32 0] w fun e w' => e = .returned (.int .i64 1) ∧ w = w' := by
  go_enter Try.func96, Try.ntmps96
  go_wp2
  go_ret
  exact ⟨rfl, rfl⟩
theorem diff_31 (w : World) : Calls Try.prog 96 #[.int .u32 3, .int .u32 1] w fun e w' => e = .returned (.int .i64 2) ∧ w = w' := by
  go_enter Try.func96, Try.ntmps96
  go_wp2
  go_ret
  exact ⟨rfl, rfl⟩
abbrev prt (x y : Int) : Array Value := #[.int .u32 x, .int .u32 y]
/-- What may stand for no parts. -/
def Emp (v : Value) : Prop := v = .slice none 0 0 ∨ ∃ h cap, v = .slice (some ⟨h, 0, none⟩) 0 cap
theorem idx_emp (v f : Value) (hv : Emp v) (w : World) : Calls Try.prog 150 #[v, f] w fun e w' => e = .returned (.int .i64 (-1)) ∧ w = w' := by
  rcases hv with rfl | ⟨h, cap, rfl⟩
  all_goals
    go_enter Try.func150, Try.ntmps150
    go_wp2
    refine wp_loop_rounds 1 ?_
    rw [rounds_succ]
    go_wp2
    go_ret
    exact ⟨rfl, rfl⟩
theorem find_emp (g : Nat) (c : Int) (v d f : Value) (hv : Emp v) (w : World) (B : Blk w g 189 #[.int .u32 c, v, d]) : Calls Try.prog 97 #[.pointer (some ⟨g, 0, none⟩), f] w fun e w' => e = .returned (.int .i64 (-1)) ∧ w = w' := by
  have c1 : w.cell? ⟨g, 1, none⟩ = some v := B.cell 1
  go_enter Try.func97, Try.ntmps97
  go_wp2_with fail
  refine (idx_emp v f hv _).mono ?_
  rintro e w1 ⟨rfl, rfl⟩
  go_wp2_with fail
  go_ret
  exact ⟨rfl, rfl⟩
theorem infoP : (Try.prog.info? 193).map (fun i => (i.zero, i.size, i.bytes)) = some (some (.agg (prt 0 0)), 2, 8) := by kernel_rfl
theorem insert_first (b0 p : Nat) (x : Int) (v : Value) (w : World) (own : w.ownsRow b0 193 2 v 0 []) (V : Blk w p 193 (prt x x)) (hb : b0 ≤ w.heap.size) :
    Calls Try.prog 155 #[v, .int .i64 0, .slice (some ⟨p, 0, none⟩) 1 1] w fun e w' => (∃ h cap, e = .returned (.slice (some ⟨h, 0, none⟩) 1 cap) ∧ w'.ownsRow b0 193 2 (.slice (some ⟨h, 0, none⟩) 1 cap) 1 (prt x x).toList ∧ w.grownBy w' v.ownBlock ∧ (v.ownBlock = some h ∨ h = w.heap.size)) := by
  obtain ⟨i0, hi, hz0, hz1, hz2⟩ := info_parts infoP
  have HO := Lib.hid own
  have hnews : ∀ j u, (prt x x).toList[j]? = some u → w.cell? ((⟨p, 0, none⟩ : Addr).add j) = some u := World.news_of_block V
  have HN := Lib.hid hnews
  clear own hnews V
  rcases HO.out.2 with ⟨rfl, _⟩ | ⟨h, cap, cur, rfl, hbh, hg, _, hcm, hcs, _⟩
  · go_enter Try.func155, Try.ntmps155
    go_wp2_with (at_builtin; refine wpList_append_lies _ rfl _ _ 187 rfl b0 193 i0 (.agg (prt 0 0)) 2 8 Try.underlying187 hi hz0 hz1 hz2 rfl (by decide) (.slice none 0 0) 0 [] rfl HO.out ⟨p, 0, none⟩ 1 1 (prt x x).toList rfl rfl HN.out (by intro u hu; simp at hu; rcases hu with rfl | rfl <;> rfl) (by omega) (by unfold maxLen; omega) (by omega) hb w.heap.size rfl ?_; intro h2 cap2 w8 hown8 hgrow hat hlt)
    go_ret
    exact ⟨h2, cap2, rfl, by simpa using hown8, hgrow, hat⟩
  · unfold maxLen at hcm
    clear hg
    go_enter Try.func155, Try.ntmps155
    go_wp2_with (at_builtin; refine wpList_append_lies _ rfl _ _ 187 rfl b0 193 i0 (.agg (prt 0 0)) 2 8 Try.underlying187 hi hz0 hz1 hz2 rfl (by decide) (.slice (some ⟨h, 0, none⟩) 0 cap) 0 [] rfl HO.out ⟨p, 0, none⟩ 1 1 (prt x x).toList rfl rfl HN.out (by intro u hu; simp at hu; rcases hu with rfl | rfl <;> rfl) (by omega) (by unfold maxLen; omega) (by omega) hb w.heap.size rfl ?_; intro h2 cap2 w8 hown8 hgrow hat hlt)
    go_ret
    exact ⟨h2, cap2, rfl, by simpa using hown8, hgrow, hat⟩
end Go.Proofs.Ythddacgdmngfhaa.gap
