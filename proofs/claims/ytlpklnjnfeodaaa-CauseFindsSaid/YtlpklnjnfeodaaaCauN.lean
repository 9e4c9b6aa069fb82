/- Layer 5: the first one of a number; no row, and arguments opened. -/
import Derived.Test.YtlpklnjnfeodaaaCau
namespace Go.Proofs.Ytlpklnjnfeodaaa.par
open Go.ChangeShapes Go.WideShapes Go.ChangeAt Go.RowKit kit oct
set_option maxRecDepth 100000

set_option maxHeartbeats 2000000 in
theorem cfinds_nil (t : Int) (x : Nat) (w : World) (hx : x ≤ 4294967295) :
    Calls Try.prog 9 #[.slice none 0 0, .int .i64 t, .int .u32 x] w fun e w' => e = .returned (.bool true) ∧ Below w.heap.size w w' := by
  go_enter Try.func9, Try.ntmps9
  go_wp2_with fail
  refine (cfind_nil t _).mono ?_
  rintro e w1 ⟨rfl, hb1⟩
  have B1 := Blk.new w1 59 #[.int .i64 0, .string ByteArray.empty]
  have bel1 := hb1.alloc hb1.size (.cells #[.int .i64 0, .string ByteArray.empty] 59)
  go_wp2_with fail
  generalize w1.alloc (.cells #[.int .i64 0, .string ByteArray.empty] 59) = w2 at *
  have k0 := cell_regrown (B1.cell 0)
  have k1 := cell_regrown (B1.cell 1)
  have hHas : ∀ w', Below w2.heap.size w2 w' → Calls Try.prog 35 #[.slice none 0 0, .int .i64 t] w' fun e w'' => e = .returned (.bool false) ∧ Below w'.heap.size w' w'' := fun w' _ => has_core _ t 0 ByteArray.empty false w' (fun w3 _ => cfind_nil t w3)
  refine wp_loop_rounds 1 ?_
  rw [rounds_succ]
  go_upto_region 9 with fail
  go_cut [64] (fun s64 wx => s64 = .bool false ∧ Below w.heap.size w wx)
  case first =>
              refine wp_region_quiet_below (by kernel_rfl) (by kernel_rfl) ?_
              repeat (any_goals (first | go_big_quiet_step ((first | (go_at_call 33; exact Calls.regrown_of (awake5_any _)) | (go_at_call 35; exact Calls.regrown_of (hHas _ (below_regrown _ _ _))))) | quiet_step ((first | (go_at_call 33; exact Calls.regrown_of (awake5_any _)) | (go_at_call 35; exact Calls.regrown_of (hHas _ (below_regrown _ _ _)))))))
              refine wpQuiet_nil ?_
              intro _ hw'
              obtain ⟨⟨dq, osq⟩, hw''⟩ := hw'
              subst hw''
              go_wp2
              go_meet
              exact ⟨rfl, bel1.trans ((below_regrown _ dq osq).mono bel1.size)⟩
  case rest =>
  obtain ⟨rfl, bel3⟩ := hcut
  have hPut : ∀ w, Calls Try.prog 36 #[.int .u64 x, .int .i64 4] w fun e w' => e = .returned (.string (p4 x)) ∧ Below w.heap.size w w' := fun w => put_at 4 x 4 w rfl (by omega) (by omega) (by omega)
  obtain ⟨y, hy, hy1⟩ : ∃ y : Nat, (x : Int) % 65536 = y ∧ y ≤ 65535 := ⟨x % 65536, by omega, by omega⟩
  have hm : bits .and .u32 (x : Int) 65535 = (y : Int) := (u32_mask16 x hx).trans hy
  have hS := fun w => stream_any y w (by omega) (by omega)
  rw [← hy, low2 x (by omega)] at hS
  rw [hy] at hS
  have hN := fun w => noData_any x w (by omega) (by omega)
  have hL := fun w => stale_any x w (by omega) (by omega)
  have hF4 : (p4 x).size = 4 := p4_size _
  generalize p4 (x : Int) = F at *
  clear hy hHas k0 k1
  go_upto_region 12 with (go_at_call 36; refine (hPut _).mono ?_; rintro e w4 ⟨rfl, hb4⟩)
  have bel4 := bel3.trans (hb4.mono bel3.size)
  have hw : IntKind.i64.wrap (y : Int) = y := IntWalk.i64_in _ (by omega)
  have hX : (F.extract 2 4).size ≤ 2 := by simp; omega
  refine wp_region_quiet_below (by kernel_rfl) (by kernel_rfl) ?_
  repeat (any_goals (first | go_big_quiet_step ((first | (go_at_call 37; exact Calls.regrown_of (hN _)) | (go_at_call 38; exact Calls.regrown_of (hL _)) | (go_at_call 39; exact Calls.regrown_of (hS _)))) | quiet_step ((first | (go_at_call 37; exact Calls.regrown_of (hN _)) | (go_at_call 38; exact Calls.regrown_of (hL _)) | (go_at_call 39; exact Calls.regrown_of (hS _))))))
  refine wpQuiet_nil ?_
  intro _ hw'
  obtain ⟨⟨dq, osq⟩, hw''⟩ := hw'
  subst hw''
  go_wp2
  go_ret
  exact ⟨rfl, bel4.trans ((below_regrown _ dq osq).mono bel4.size)⟩

set_option maxRecDepth 100000 in
theorem cfinds_open {H : Type} {enc : TypeId × Value → H} {W : World} {base : Nat} {v0 v1 v2 : Value} {d0 d1 d2 : DataW H} {p0 p1 p2 : List MemPlace}
    (o0 : Value.okWide Try.prog W .any base 57 v0) (o1 : Value.okWide Try.prog W .any base 3 v1) (o2 : Value.okWide Try.prog W .any base 37 v2) (h0 : DataW.Trod enc Try.prog W 0 (fun _ => true) true 57 v0 d0 p0) (h1 : DataW.Trod enc Try.prog W 0 (fun _ => true) true 3 v1 d1 p1) (h2 : DataW.Trod enc Try.prog W 0 (fun _ => true) true 37 v2 d2 p2) :
    Calls Try.prog 9 #[v0, v1, v2] W fun e w' => e = .returned (.bool true) ∧ Below W.heap.size W w' := by
  obtain ⟨t, rfl, _, _, _⟩ := open_int Try.underlying3 o1 h1
  obtain ⟨z, rfl, _, _, wn⟩ := open_int Try.underlying37 o2 h2
  obtain ⟨z1, z2⟩ := bounds_u32 wn
  obtain ⟨x, rfl⟩ : ∃ x : Nat, z = x := ⟨z.toNat, by omega⟩
  rcases open_row 3 (sh := [.int .i64, .str]) Try.underlying57 (by kernel_rfl) (by kernel_rfl) (by decide) o0 h0 with rfl | ⟨a, len, cap, C, rfl, hlc, hcm, hab, hC⟩
  · exact cfinds_nil t x W (by omega)
  · have hx : ∀ i, ∃ x : Int × ByteArray, i < len → W.cell? (a.add (i * 2)) = some (.int .i64 x.1) ∧ W.cell? { block := (a.add (i * 2)).block, off := (a.add (i * 2)).off + 1 } = some (.string x.2) := by
      intro i
      by_cases hi : i < len
      · obtain ⟨hF, hc⟩ := hC i hi
        obtain ⟨x, t, e, hw, hF'⟩ := hF.int
        obtain ⟨y, t', e', hw', hF''⟩ := hF'.str
        refine ⟨(x, y), fun _ => ⟨?_, ?_⟩⟩
        · have := hc 0 (.int .i64 x) (by rw [e]; rfl)
          simpa using this
        · have := hc 1 (.string y) (by rw [e, e']; rfl)
          rw [show ({ block := (a.add (i * 2)).block, off := (a.add (i * 2)).off + 1 } : Addr) = (a.add (i * 2)).add 1 from rfl, Addr.add_add]
          simpa using this
      · exact ⟨(0, ByteArray.empty), fun h => absurd h hi⟩
    have hs := fun i => Classical.choose_spec (hx i)
    exact cfinds_law a len cap (fun i => (Classical.choose (hx i)).1) (fun i => (Classical.choose (hx i)).2) t x W (by omega) hlc hcm ⟨hab, fun i hi => hs i hi⟩
end Go.Proofs.Ytlpklnjnfeodaaa.par
