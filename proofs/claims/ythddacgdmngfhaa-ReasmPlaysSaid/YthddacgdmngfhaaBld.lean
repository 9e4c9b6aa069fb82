/- The library's Builder: what is written stands behind what was written. -/
import Derived.Test.YthddacgdmngfhaaRows
import Derived.Test.YthddacgdmngfhaaKit
import Derived.Test.YthddacgdmngfhaaShelf
import Derived.Outline
import Derived.OwnWalk
import Derived.Laws.AppendOwn
import Derived.Lib.AppendStr
import Derived.Lib.Builder
import Derived.Laws.Externs
import Derived.Deep.DeepMust
namespace Go.Proofs.Ythddacgdmngfhaa.bld
open Go.ChangeShapes Go.WideShapes Go.ChangeAt Go.RowKit kit
set_option maxRecDepth 100000

theorem infoB : (Try.prog.info? 270).map (·.size) = some 2 := by kernel_rfl
theorem infoU8 : (Try.prog.info? 5).map (fun i => (i.zero, i.size, i.bytes)) = some (some (.int .u8 0), 1, 1) := by kernel_rfl
theorem liesB : liesAt Try.prog Try.prog.depth 270 (2 / Try.prog.cellsOf 270) 0 270 1 = true := by kernel_rfl

/-- A builder of the call's own. -/
abbrev IsB (B b : Nat) (bs : List Value) (w : World) : Prop := Lib.IsBuilder 270 5 B b bs w
abbrev UsedB (B b : Nat) (bs : List Value) (w : World) : Prop := Lib.BuilderAt 270 5 B b (.pointer (some ⟨b, 0, none⟩)) bs w

theorem check_used (b : Nat) (w : World) (h0 : w.cell? ⟨b, 0, none⟩ = some (.pointer (some ⟨b, 0, none⟩))) :
    Calls Try.prog 181 #[.pointer (some ⟨b, 0, none⟩)] w fun e w' => e = .returned (.tuple #[]) ∧ w' = w := by
  obtain ⟨j, hj, _⟩ := Option.map_eq_some_iff.1 infoB
  go_enter Try.func181, Try.ntmps181
  go_wp2
  rw [Lib.run_neq_ptr_same w _ Try.underlying268 hj]
  go_wp2
  go_end0
  exact ⟨rfl, rfl⟩

theorem check_new (b : Nat) (w : World) (h0 : w.cell? ⟨b, 0, none⟩ = some (.pointer none)) (hsh : w.shape? b = some (270, 2)) (hfz : w.frozen? ⟨b, 0, none⟩ = false) :
    Calls Try.prog 181 #[.pointer (some ⟨b, 0, none⟩)] w fun e w' => e = .returned (.tuple #[]) ∧ w' = w.setCell ⟨b, 0, none⟩ (.pointer (some ⟨b, 0, none⟩)) := by
  obtain ⟨j, hj, hjs⟩ := Option.map_eq_some_iff.1 infoB
  have step1 := Lib.run_to_unsafe w ⟨b, 0, none⟩ Try.underlying268 Try.underlying296 hj (by rw [hjs]; decide) hsh (Nat.zero_lt_succ 1)
  have step3 := Lib.run_from_unsafe w ⟨b, 0, none⟩ Try.underlying296 Try.underlying268 hj hsh liesB
  clear hj hjs
  go_enter Try.func181, Try.ntmps181
  go_wp2
  rw [run_callFunc_extern Try.func187 (by kernel_rfl) (by kernel_rfl) (by kernel_rfl) (e := Extern.AbiNoEscape.same) (by kernel_rfl), Lib.run_noEscape]
  simp only [Result.andThen]
  rw [Oper.upon_value]
  go_wp2
  go_end0
  exact ⟨rfl, rfl⟩

theorem check_any (B b : Nat) (bs : List Value) (w : World) (h : IsB B b bs w) :
    Calls Try.prog 181 #[.pointer (some ⟨b, 0, none⟩)] w fun e w' => e = .returned (.tuple #[]) ∧ UsedB B b bs w' ∧ Below B w w' := by
  rcases h with h | h
  · refine (check_new b w h.cell0 h.shape h.frozen0).mono ?_
    rintro e w' ⟨rfl, rfl⟩
    exact ⟨rfl, h.used _, (Below.refl B w).setCell (p := ⟨b, 0, none⟩) h.1 _⟩
  · refine (check_used b w h.cell0).mono ?_
    rintro e w' ⟨rfl, rfl⟩
    exact ⟨rfl, h, Below.refl B _⟩

set_option maxHeartbeats 2000000 in
theorem write_any (B b : Nat) (bs : List Value) (s : ByteArray) (w : World) (h : IsB B b bs w) (hlen : bs.length + s.size ≤ 100000000) (hB : B ≤ w.heap.size) :
    Calls Try.prog 162 #[.pointer (some ⟨b, 0, none⟩), .string s] w fun e w' => e = .returned (.tuple #[.int .i64 s.size, .nilIface]) ∧ UsedB B b (bs ++ Lib.strCells s) w' ∧ Below B w w' := by
  obtain ⟨i0, hi, hz0, hz1, hz2⟩ := info_parts infoU8
  go_enter Try.func162, Try.ntmps162
  go_wp2_with (go_at_call 181; refine (check_any B b bs _ h).mono ?_)
  rintro e w1 ⟨rfl, hu, hb1⟩
  obtain ⟨hBb, v, hbk, hown, hne⟩ := hu
  have c0 : w1.cell? ⟨b, 0, none⟩ = some (.pointer (some ⟨b, 0, none⟩)) := by rw [Lib.cell_of_heap hbk]; rfl
  have c1 : w1.cell? ⟨b, 1, none⟩ = some v := by rw [Lib.cell_of_heap hbk]; rfl
  have K : Blk w1 b 270 #[.pointer (some ⟨b, 0, none⟩), v] := hbk
  have C := fun i => K.cell i
  have hszB : B ≤ w1.heap.size := Nat.le_trans hB hb1.size
  go_wp2_with (at_builtin; go_must (refine Lib.wpList_append_own_string _ rfl _ _ 45 9 rfl B 5 i0 Try.underlying45 Try.underlying9 hi hz0 hz1 hz2 _ _ _ rfl hown s rfl ?c3 ?c4 ?c5 ?_))
  case c3 => unfold maxLen; omega
  case c4 => omega
  case c5 => exact hszB
  intro v' w2 hown' hgrow _
  have K2 : Blk w2 b 270 #[.pointer (some ⟨b, 0, none⟩), v] := (hgrow.block b K.lt (fun e => hne e.symm)).trans K
  have C2 := fun i => K2.cell i
  have d0 := C2 0
  have d1 := C2 1
  have f1 : w2.frozen? ⟨b, 1, none⟩ = false := K2.frozen 1
  obtain ⟨ao, n', cap, rfl⟩ : ∃ ao n' cap, v' = .slice ao n' cap := by
    rcases hown'.2 with ⟨hv, _⟩ | ⟨g, cap, cur, hv, _⟩
    · exact ⟨_, _, _, hv⟩
    · exact ⟨_, _, _, hv⟩
  have HO := Lib.hid hown'
  clear hown'
  go_wp2_with fail
  go_ret2
  exact ⟨rfl, Lib.BuilderAt.put (T := 270) (e := 5) hBb K2 (bs' := bs ++ Lib.strCells s) (by simpa [Lib.strCells_length] using HO.out) (by decide), (hb1.grown hgrow hszB (fun k hk => (hown.lt k hk).1)).setCell (p := ⟨b, 1, none⟩) hBb _⟩
end Go.Proofs.Ythddacgdmngfhaa.bld
