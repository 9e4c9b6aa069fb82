/- Layer 20: a queue of one stream: New. -/
import Derived.Test.YthddacgdmngfhaaSenA
import Derived.Lib.AppendZeros
namespace Go.Proofs.Ythddacgdmngfhaa.sen
open Go.Sort (grow)
open Go.ChangeShapes Go.WideShapes Go.ChangeAt Go.RowKit kit fra
set_option maxRecDepth 100000

theorem infoU : (Try.prog.info? 163).map (fun i => (i.zero, i.size, i.bytes)) = some (some (.int .u16 0), 1, 2) := by kernel_rfl
/-- A queue of one stream with so many bytes: its next place, and what waits. -/
def Q1 (b0 g : Nat) (p : Int) (l : Value) (b : Int) (w : World) : Prop := ∃ h cap, Blk w g 158 #[.slice (some ⟨h, 0, none⟩) 1 cap, l, .int .i64 b] ∧ h ≠ g ∧ b0 ≤ h ∧ 1 ≤ cap ∧ Cel w h 0 #[.int .u16 p] ∧ l.ownBlock ≠ some h ∧ l.ownBlock ≠ some g
theorem grow_one (b0 g : Nat) (w : World) (B : Blk w g 158 #[.slice none 0 0, .slice none 0 0, .int .i64 0]) (hg : b0 ≤ g) :
    Calls Try.prog 19 #[.pointer (some ⟨g, 0, none⟩), .int .i64 1] w fun e w' => e = .returned (.tuple #[]) ∧ Q1 b0 g 0 (.slice none 0 0) 0 w' ∧ Below b0 w w' := by
  obtain ⟨i0, hi, hz0, hz1, hz2⟩ := info_parts infoU
  have hlt := B.lt
  have c0 : w.cell? ⟨g, 0, none⟩ = some (.slice none 0 0) := B.cell 0
  have f0 : w.frozen? ⟨g, 0, none⟩ = false := B.frozen 0
  have hrun := Lib.run_append_nil_zeros w 156 3 156 163 i0 (.int .u16 0) .i64 .i64 Try.underlying156 Try.underlying3 hi hz0 1 (by omega) (by omega) (by omega) (by omega)
  have hcap := grownCap_ge w 1 0 163
  generalize grownCap w 1 0 163 = cap at *
  obtain ⟨zc, hzc, hz0'⟩ : ∃ zc, zc = Builtin.zeroCells (Value.int .u16 0).cells 1 ++ Builtin.zeroCells (Value.int .u16 0).cells (cap - 1) ∧ zc[0]? = some (.int .u16 0) := by
    refine ⟨_, rfl, ?_⟩
    rw [Array.getElem?_append_left (by simp [Builtin.zeroCells, Value.cells])]
    kernel_rfl
  rw [← hzc] at hrun
  have H0 := Lib.hid hz0'
  clear hzc hz0' hz0 hz1 hz2
  have B2 := ((B.set_ 0 (.slice (some ⟨w.heap.size, 0, none⟩) 1 cap)).alloc (.cells zc 163)).drew
  have N := (Blk.new (w.setCell ⟨g, 0, none⟩ (.slice (some ⟨w.heap.size, 0, none⟩) 1 cap)) 163 zc).drew
  have bel : Below b0 w ((w.setCell ⟨g, 0, none⟩ (.slice (some ⟨w.heap.size, 0, none⟩) 1 cap)).alloc (.cells zc 163)).drew := (((Below.refl b0 w).setCell (p := ⟨g, 0, none⟩) hg _).alloc (by simp; omega) _).drew
  have hgl : w.heap.size ≠ g := by omega
  rw [show (w.setCell ⟨g, 0, none⟩ (.slice (some ⟨w.heap.size, 0, none⟩) 1 cap)).heap.size = w.heap.size by simp] at N
  have HN := Lib.hid N
  have HB := Lib.hid B2
  clear N B2
  go_enter Try.func19, Try.ntmps19
  go_wp2_with (at_builtin; refine Lib.wpList_append_run _ rfl _ _ _ _ rfl _ _ rfl rfl _ _ hrun ?_)
  go_end0
  refine ⟨rfl, ⟨w.heap.size, cap, HB.out, hgl, by omega, hcap, ⟨HN.out.lt, fun j u hu => ?_⟩, by simp [Value.ownBlock], by simp [Value.ownBlock]⟩, bel⟩
  match j, hu with
  | 0, hu =>
    obtain rfl : Value.int .u16 0 = u := by simpa using hu
    exact ⟨(HN.out.cell 0).trans H0.out, HN.out.frozen 0⟩
  | j + 1, hu => simp at hu
set_option maxHeartbeats 1000000 in
theorem new_one (w : World) : Calls Try.prog 14 #[.int .i64 1] w fun e w' => ∃ g, e = .returned (.pointer (some ⟨g, 0, none⟩)) ∧ w.heap.size ≤ g ∧ Q1 w.heap.size g 0 (.slice none 0 0) 0 w' ∧ Below w.heap.size w w' := by
  have N := Blk.new w 158 #[.slice none 0 0, .slice none 0 0, .int .i64 0]
  have bel := (Below.refl w.heap.size w).alloc (Nat.le_refl _) (.cells #[.slice none 0 0, .slice none 0 0, .int .i64 0] 158)
  go_enter Try.func14, Try.ntmps14
  go_wp2_with fail
  refine (grow_one w.heap.size w.heap.size _ N (Nat.le_refl _)).mono ?_
  rintro e w1 ⟨rfl, q, hb⟩
  go_wp2_with fail
  go_ret
  exact ⟨w.heap.size, rfl, Nat.le_refl _, q, bel.trans hb⟩
end Go.Proofs.Ythddacgdmngfhaa.sen
