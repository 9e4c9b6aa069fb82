/- Layer 38: the statement's own example. -/
import Derived.Test.YthjhiogbnacmdaaAudC
namespace Go.Proofs.Ythjhiogbnacmdaa.aud
open Go.Sort (grow)
open Go.ChangeShapes Go.WideShapes Go.ChangeAt Go.RowKit kit
set_option maxRecDepth 100000

theorem table_nil (w : World) : Calls Try.prog 25 #[.slice none 0 0, .int .i64 0] w fun e w' => e = .returned (.int .i64 0) ∧ Below w.heap.size w w' := by
  have hmk : ∀ w, (Instr.makeMap 91 none).run Try.prog w = .ok (.map (some w.heap.size)) (w.alloc (.map #[] 0)) := fun w => rfl
  have bel := (Below.refl w.heap.size w).alloc (Nat.le_refl _) (.map #[] 0)
  go_enter Try.func25, Try.ntmps25
  go_wp2_with fail
  refine wp_loop_rounds 1 ?_
  rw [rounds_succ]
  go_wp2_with fail
  go_ret
  exact ⟨rfl, bel⟩
def eA : Ent := (0, 0, 0, 0, 3, 0, 0)
def eB : Ent := (5, 0, 0, 0, 3, 0, 0)
theorem wfA : WfE eA := ⟨by decide, by decide, by decide, by decide⟩
theorem wfB : WfE eB := ⟨by decide, by decide, by decide, by decide⟩
theorem tw_two : tw [eA, eB] 5 = 4 := by
  have h : dup [eA, eB] 2 := ⟨1, 0, by decide, by decide, rfl⟩
  unfold tw dd
  rw [if_neg (by decide)]
  exact (congrArg (fun z => (0 : Int) + z) (if_pos h)).trans rfl
theorem tw_one : tw [eA] 0 = 2 := by
  have h : ¬ dup [eA] 1 := by
    rintro ⟨j, i, h1, h2, _⟩
    omega
  unfold tw dd
  rw [if_pos (by decide)]
  exact (congrArg (fun z => (2 : Int) + z) (if_neg h)).trans rfl
theorem awake38_any (w : World) : Calls Try.prog 9 #[] w fun e w' => e = .returned (.bool true) ∧ Below w.heap.size w w' := by
  go_enter Try.func9, Try.ntmps9
  go_upto_region 2 with (fail)
  have B0 : Blk (w.alloc (.cells #[.int .u32 0, .int .i64 0, .int .u32 0, .int .i64 0, .int .u32 3, .int .u32 0, .int .i64 0, .int .u32 5, .int .i64 0, .int .u32 0, .int .i64 0, .int .u32 3, .int .u32 0, .int .i64 0] 30)) w.heap.size 30 #[.int .u32 0, .int .i64 0, .int .u32 0, .int .i64 0, .int .u32 3, .int .u32 0, .int .i64 0, .int .u32 5, .int .i64 0, .int .u32 0, .int .i64 0, .int .u32 3, .int .u32 0, .int .i64 0] := Blk.new w _ _
  have bel0 := (Below.refl w.heap.size w).alloc (Nat.le_refl _) (.cells #[.int .u32 0, .int .i64 0, .int .u32 0, .int .i64 0, .int .u32 3, .int .u32 0, .int .i64 0, .int .u32 5, .int .i64 0, .int .u32 0, .int .i64 0, .int .u32 3, .int .u32 0, .int .i64 0] 30)
  generalize w.alloc (.cells #[.int .u32 0, .int .i64 0, .int .u32 0, .int .i64 0, .int .u32 3, .int .u32 0, .int .i64 0, .int .u32 5, .int .i64 0, .int .u32 0, .int .i64 0, .int .u32 3, .int .u32 0, .int .i64 0] 30) = w1 at *
  have cel2 : ∀ w', Blk w' w.heap.size 30 #[.int .u32 0, .int .i64 0, .int .u32 0, .int .i64 0, .int .u32 3, .int .u32 0, .int .i64 0, .int .u32 5, .int .i64 0, .int .u32 0, .int .i64 0, .int .u32 3, .int .u32 0, .int .i64 0] → ∀ k, k < [eA, eB].length → Cel w' w.heap.size (k * 7) (er ([eA, eB].getD k e0)) := by
    intro w' B k hk
    have hk : k < 2 := hk
    rcases (by omega : k = 0 ∨ k = 1) with rfl | rfl
    · exact ((Cel.of_blk B).sub 0 7).congr rfl
    · exact ((Cel.of_blk B).sub 7 14).congr rfl
  have cel1 : ∀ w', Blk w' w.heap.size 30 #[.int .u32 0, .int .i64 0, .int .u32 0, .int .i64 0, .int .u32 3, .int .u32 0, .int .i64 0, .int .u32 5, .int .i64 0, .int .u32 0, .int .i64 0, .int .u32 3, .int .u32 0, .int .i64 0] → ∀ k, k < [eA].length → Cel w' w.heap.size (k * 7) (er ([eA].getD k e0)) := by
    intro w' B k hk
    have hk : k < 1 := hk
    obtain rfl : k = 0 := by omega
    exact ((Cel.of_blk B).sub 0 7).congr rfl
  have wf2 : ∀ k, k < [eA, eB].length → WfE ([eA, eB].getD k e0) := by
    intro k hk
    have hk : k < 2 := hk
    rcases (by omega : k = 0 ∨ k = 1) with rfl | rfl
    · exact wfA
    · exact wfB
  have wf1 : ∀ k, k < [eA].length → WfE ([eA].getD k e0) := by
    intro k hk
    have hk : k < 1 := hk
    obtain rfl : k = 0 := by omega
    exact wfA
  have HT2 := fun w' B => table_any w.heap.size 2 [eA, eB] 5 w' (by decide) (by decide) (by decide) (Blk.lt B) (cel2 w' B) wf2
  have HT1 := fun w' B => table_any w.heap.size 2 [eA] 0 w' (by decide) (by decide) (by decide) (Blk.lt B) (cel1 w' B) wf1
  rw [tw_two] at HT2
  rw [tw_one] at HT1
  clear cel1 cel2 wf1 wf2
  have HT1' := Lib.hid HT1
  clear HT1
  go_wp2_with fail
  refine (HT2 _ B0).mono ?_
  rintro e w2 ⟨rfl, hb2⟩
  have B2 := B0.below hb2 B0.lt
  have bel2 := bel0.trans (hb2.mono bel0.size)
  clear B0 bel0 hb2 HT2
  go_wp2_with fail
  refine (HT1'.out _ B2).mono ?_
  rintro e w3 ⟨rfl, hb3⟩
  have bel3 := bel2.trans (hb3.mono bel2.size)
  clear B2 bel2 hb3
  go_wp2_with fail
  refine (table_nil _).mono ?_
  rintro e w4 ⟨rfl, hb4⟩
  have bel4 := bel3.trans (hb4.mono bel3.size)
  go_wp2_with fail
  go_ret
  exact ⟨rfl, bel4⟩
end Go.Proofs.Ythjhiogbnacmdaa.aud
