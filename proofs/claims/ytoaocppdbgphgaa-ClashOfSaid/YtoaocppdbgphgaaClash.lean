/- What is done with a cookie (clash.Of) is what the document's table says, for every cookie and every two tags. No further condition. -/
import Derived.Test.YtoaocppdbgphgaaClashA
import Derived.Deep.CutBlock
namespace Go.Proofs.Ytoaocppdbgphgaa.clash
open Go.ChangeShapes Go.WideShapes Go.ChangeAt Go.RowKit kit

theorem blk_new2 (w : World) (o : Obj) (t : TypeId) (cs : Array Value) : Blk ((w.alloc o).alloc (.cells cs t)) (w.heap.size + 1) t cs := by
  simpa using Blk.new (w.alloc o) t cs

set_option maxRecDepth 100000 in
set_option maxHeartbeats 3000000 in
theorem law_any (made mine0 yours0 mytsn yourtsn peer local' pport mport rwnd out in' tm ty : Int) (r1 r2 : ByteArray) (m y : Int) (w : World) :
   Calls Try.prog 8 #[.agg #[.int .i64 made, .int .u32 mine0, .int .u32 yours0, .int .u32 mytsn, .int .u32 yourtsn, .int .u32 peer, .int .u32 local', .int .i64 pport, .int .i64 mport, .int .u32 rwnd, .int .i64 out, .int .i64 in', .int .u32 tm, .int .u32 ty, .string r1, .string r2], .int .u32 m, .int .u32 y] w fun e w' => e = .returned (.bool true) ∧ Below w.heap.size w w' := by
  obtain ⟨M, hM⟩ : ∃ M, M = bits .and .u32 mine0 1 := ⟨_, rfl⟩
  obtain ⟨Y, hY⟩ : ∃ M, M = bits .and .u32 yours0 1 := ⟨_, rfl⟩
  obtain ⟨TM, hTM⟩ : ∃ M, M = bits .and .u32 tm 1 := ⟨_, rfl⟩
  obtain ⟨TY, hTY⟩ : ∃ M, M = bits .and .u32 ty 1 := ⟨_, rfl⟩
  obtain ⟨m', hm'⟩ : ∃ M, M = bits .and .u32 m 1 := ⟨_, rfl⟩
  obtain ⟨y', hy'⟩ : ∃ M, M = bits .and .u32 y 1 := ⟨_, rfl⟩
  replace hM := hM.symm
  replace hY := hY.symm
  replace hTM := hTM.symm
  replace hTY := hTY.symm
  replace hm' := hm'.symm
  replace hy' := hy'.symm
  go_enter Try.func8, Try.ntmps8
  go_wp2_with fail
  go_region
  go_upto_block 0 with fail
  go_cut [8, 9, 10] (fun s8 s9 s10 wx => s8 = .int .u32 m' ∧ s9 = .int .u32 y' ∧ s10 = .int .i64 (ofV M Y TM TY m' y') ∧ Blk wx (w.heap.size + 1) 53 #[.int .i64 made, .int .u32 M, .int .u32 Y, .int .u32 mytsn, .int .u32 yourtsn, .int .u32 peer, .int .u32 local', .int .i64 pport, .int .i64 mport, .int .u32 rwnd, .int .i64 out, .int .i64 in', .int .u32 TM, .int .u32 TY, .string r1, .string r2] ∧ Below w.heap.size w wx)
  case first =>
    go_wp2
    all_goals
      go_meet
      clear hM hY hTM hTY hm' hy'
      have hof : ∀ {a b : Int}, a = b → Value.int IntKind.i64 a = Value.int IntKind.i64 b := fun h => by rw [h]
      have hou : ∀ {a b : Int}, a = b → Value.int IntKind.u32 a = Value.int IntKind.u32 b := fun h => by rw [h]
      case rel =>
        refine ⟨?_, ?_, ?_, ?_, ?_⟩
        · first | rfl | (refine hou ?_; simp_all)
        · first | rfl | (refine hou ?_; simp_all)
        · refine hof ?_
          unfold ofV
          simp_all
        · first | exact (blk_new2 _ _ _ _).drew | ((repeat (first | rw [‹M = m'›] | rw [‹Y = y'›] | rw [‹TM = 0›] | rw [‹TM = m'›] | rw [‹TY = 0›] | rw [‹TY = y'›])); exact (blk_new2 _ _ _ _).drew)
        · exact (((Below.refl _ _).alloc (Nat.le_refl _) _).alloc (by simp) _).drew
  case rest =>
    obtain ⟨rfl, rfl, rfl, hblk, hbel⟩ := hcut
    obtain ⟨V, hV⟩ : ∃ V, V = ofV M Y TM TY m' y' := ⟨_, rfl⟩
    rw [← hV]
    have H := Lib.hid hV
    clear hV
    have hc1 := fun i => hblk.cell i
    have hlt := hblk.lt
    have g1 := hc1 1
    go_wp2_with (first | (go_at_call 27; refine (awake_any _).mono ?_; rintro e w1 ⟨rfl, hb⟩; obtain ⟨hc, hf⟩ := bcell hb) | (go_at_call 28; refine (of_any _ _ _ _ _ _ _ _ _ _ _ _ _ _ _ _ _ _ _).mono ?_; rintro e w2 ⟨rfl, hb2⟩))
    go_ret
    refine ⟨ret_true ?_, ?_⟩
    · rw [← H.out]; simp
    · exact hbel.trans ((hb.mono (hbel.size)).trans (hb2.mono (Nat.le_trans hbel.size hb.size)))
end Go.Proofs.Ytoaocppdbgphgaa.clash
