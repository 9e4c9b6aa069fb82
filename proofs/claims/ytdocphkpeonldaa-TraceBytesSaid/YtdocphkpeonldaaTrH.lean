/- Layer 36: any act's bytes, as the document says, and whether it may be, each by its contract. -/
import Derived.Test.YtdocphkpeonldaaTrG
namespace Go.Proofs.Ytdocphkpeonldaa.tra
open Go.Sort (grow)
open Go.ChangeShapes Go.WideShapes Go.ChangeAt Go.RowKit kit oct
set_option maxRecDepth 100000

abbrev row7 (xa xb xc xd xe xf xh : Int) : Array Value := #[.int .i64 xa, .int .i64 xb, .int .i64 xc, .int .i64 xd, .int .i64 xe, .int .i64 xf, .int .i64 xh]
set_option maxHeartbeats 2000000 in
theorem may_all (r : An) (w : World) (hs : r.s.size ≤ maxLen) : Calls Try.prog 41 #[.agg r.cells] w fun e w' => e = .returned (.bool r.ok) ∧ Below w.heap.size w w' := by
  have ix0 : ∀ W, (Instr.index 168 (.agg (row7 r.a r.b r.c r.d r.e r.f r.h)) (.int .i64 0)).run Try.prog W = .ok (.int .i64 r.a) W := fun W => by kernel_rfl
  have ix1 : ∀ W, (Instr.index 168 (.agg (row7 r.a r.b r.c r.d r.e r.f r.h)) (.int .i64 1)).run Try.prog W = .ok (.int .i64 r.b) W := fun W => by kernel_rfl
  have ix2 : ∀ W, (Instr.index 168 (.agg (row7 r.a r.b r.c r.d r.e r.f r.h)) (.int .i64 2)).run Try.prog W = .ok (.int .i64 r.c) W := fun W => by kernel_rfl
  have ix3 : ∀ W, (Instr.index 168 (.agg (row7 r.a r.b r.c r.d r.e r.f r.h)) (.int .i64 3)).run Try.prog W = .ok (.int .i64 r.d) W := fun W => by kernel_rfl
  have ix4 : ∀ W, (Instr.index 168 (.agg (row7 r.a r.b r.c r.d r.e r.f r.h)) (.int .i64 4)).run Try.prog W = .ok (.int .i64 r.e) W := fun W => by kernel_rfl
  have ix5 : ∀ W, (Instr.index 168 (.agg (row7 r.a r.b r.c r.d r.e r.f r.h)) (.int .i64 5)).run Try.prog W = .ok (.int .i64 r.f) W := fun W => by kernel_rfl
  have ix6 : ∀ W, (Instr.index 168 (.agg (row7 r.a r.b r.c r.d r.e r.f r.h)) (.int .i64 6)).run Try.prog W = .ok (.int .i64 r.h) W := fun W => by kernel_rfl
  have hix : ∀ k : Nat, k < 7 → ∀ W, (Instr.index 168 (.agg (row7 r.a r.b r.c r.d r.e r.f r.h)) (.int .i64 k)).run Try.prog W = .ok (.int .i64 (r.xs.getD k 0)) W := fun k hk W =>
    match k, hk with
    | 0, _ => ix0 W
    | 1, _ => ix1 W
    | 2, _ => ix2 W
    | 3, _ => ix3 W
    | 4, _ => ix4 W
    | 5, _ => ix5 W
    | 6, _ => ix6 W
  clear ix0 ix1 ix2 ix3 ix4 ix5 ix6
  have hno := fun k hk h => An.not_ok (r := r) k hk h
  have hall : r.xs.all smB = true → r.ok = decide (0 ≤ r.wh ∧ r.wh ≤ 255 ∧ r.s.size ≤ 65535) := fun h => by unfold An.ok; rw [h, Bool.true_and]
  have htk := fun k hk => An.xs_take r k hk
  have htl : r.xs.take 7 = r.xs := rfl
  have HALL := Lib.hid hall
  have HTK := Lib.hid (And.intro htk htl)
  have HNO := Lib.hid hno
  have HIX := Lib.hid hix
  clear hall htk htl hno hix
  generalize r.ok = okv at *
  generalize r.xs = xs at *
  obtain ⟨wh, xa, xb, xc, xd, xe, xf, xh, s⟩ := r
  dsimp only at *
  rw [show An.cells ⟨wh, xa, xb, xc, xd, xe, xf, xh, s⟩ = #[.int .i64 wh, .int .i64 xa, .int .i64 xb, .int .i64 xc, .int .i64 xd, .int .i64 xe, .int .i64 xf, .int .i64 xh, .string s] from rfl]
  unfold maxLen at hs
  have X1 := Blk.new w 63 #[.int .i64 wh, .int .i64 xa, .int .i64 xb, .int .i64 xc, .int .i64 xd, .int .i64 xe, .int .i64 xf, .int .i64 xh, .string s]
  have bel1 := (Below.refl w.heap.size w).alloc (Nat.le_refl _) (.cells #[.int .i64 wh, .int .i64 xa, .int .i64 xb, .int .i64 xc, .int .i64 xd, .int .i64 xe, .int .i64 xf, .int .i64 xh, .string s] 63)
  have hnum := fun W => numbers_any wh xa xb xc xd xe xf xh s W
  go_enter Try.func41, Try.ntmps41
  go_upto_region 1 with (fail)
  generalize w.alloc (.cells #[.int .i64 wh, .int .i64 xa, .int .i64 xb, .int .i64 xc, .int .i64 xd, .int .i64 xe, .int .i64 xf, .int .i64 xh, .string s] 63) = w1 at *
  go_wp2_with (refine wpList_load_at rfl 63 _ rfl w.heap.size 0 rfl #[.int .i64 wh, .int .i64 xa, .int .i64 xb, .int .i64 xc, .int .i64 xd, .int .i64 xe, .int .i64 xf, .int .i64 xh, .string s] _ (Cel.of_blk X1) Try.underlying63 rfl (szA _ _ _ _ _ _ _ _ _) ?_)
  refine (hnum _).mono ?_
  rintro e w2 ⟨rfl, hb2⟩
  have X2 := X1.below hb2 X1.lt
  have bel2 := bel1.trans (hb2.mono bel1.size)
  clear X1 bel1 hb2 hnum
  have y0 : w2.cell? ⟨w.heap.size, 0, none⟩ = some (.int .i64 wh) := X2.cell 0
  have y8 : w2.cell? ⟨w.heap.size, 8, none⟩ = some (.string s) := X2.cell 8
  clear X2
  obtain ⟨ra, hra⟩ : ∃ ra, (Value.agg (row7 xa xb xc xd xe xf xh)) = ra := ⟨_, rfl⟩
  rw [hra] at HIX
  rw [hra]
  clear hra
  go_wp2_with fail
  go_loop [7] (fun s7 => ∃ k : Nat, k ≤ 7 ∧ s7 = .int .i64 k ∧ (xs.take k).all smB = true) (fun s7 => 7 - (intOf s7).toNat)
  case atStart => exact ⟨0, by omega, rfl, by simp⟩
  case round =>
    obtain ⟨k, hk, rfl, ha⟩ := hrel
    have HA := Lib.hid ha
    clear ha
    by_cases hlt : k < 7
    · have hx := HIX.out k hlt
      have hsm : smB (xs.getD k 0) = decide (-2147483648 ≤ xs.getD k 0 ∧ xs.getD k 0 ≤ 2147483647) := rfl
      have HSM := Lib.hid hsm
      clear hsm
      have HT := Lib.hid (HTK.out.1 k hlt)
      have HN := Lib.hid (HNO.out k hlt)
      generalize xs.getD k 0 = x at *
      by_cases h1 : -2147483648 ≤ x
      · by_cases h2 : x ≤ 2147483647
        · go_wp2_with fail
          go_round
          case rel => exact ⟨k + 1, by omega, by go_num, by rw [HT.out]; exact all_snoc HA.out (by rw [HSM.out]; exact decide_eq_true ⟨h1, h2⟩)⟩
          case measure => simp [intOf]; omega
        · go_wp2_with fail
          go_ret
          exact ⟨ret_bool (HN.out (by rw [HSM.out]; exact decide_eq_false (by omega))).symm, bel2⟩
      · go_wp2_with fail
        go_ret
        exact ⟨ret_bool (HN.out (by rw [HSM.out]; exact decide_eq_false (by omega))).symm, bel2⟩
    · obtain rfl : k = 7 := by omega
      have hq := HA.out
      rw [HTK.out.2] at hq
      have HO := Lib.hid (HALL.out hq)
      clear hq
      go_wp2_with fail
      all_goals
        go_ret
        refine ⟨?_, bel2⟩
        rw [HO.out]
        refine ret_bool ?_
        rw [Bool.eq_iff_iff]
        first
          | (simp only [decide_eq_true_eq, Bool.false_eq_true]; omega)
          | (simp; omega)
          | (simp only [decide_eq_true_eq, Bool.false_eq_true]; trace_state; fail)
set_option maxHeartbeats 4000000 in
theorem bytes_all (r : An) (w : World) (hs : r.s.size ≤ 70000) : Calls Try.prog 39 #[.agg r.cells] w fun e w' => e = .returned (.string r.bs) ∧ Below w.heap.size w w' := by
  have hsm := fun x W => small_any x W
  have hp4 : ∀ x W, Calls Try.prog 20 #[.int .u64 (IntKind.u64.wrap x), .int .i64 4] W fun e w' => e = .returned (.string (p4 (x % 4294967296))) ∧ Below W.heap.size W w' := fun x W => by
    have := put_at 4 (IntKind.u64.wrap x) 4 W rfl (by omega) (by rw [IntKind.wrap_u64]; omega) (by rw [IntKind.wrap_u64]; omega)
    rwa [p4_wrap] at this
  have hp1 : ∀ x W, Calls Try.prog 20 #[.int .u64 (IntKind.u64.wrap x), .int .i64 1] W fun e w' => e = .returned (.string (p1 (IntKind.u64.wrap x))) ∧ Below W.heap.size W w' := fun x W =>
    put_at 1 (IntKind.u64.wrap x) 1 W rfl (by omega) (by rw [IntKind.wrap_u64]; omega) (by rw [IntKind.wrap_u64]; omega)
  have hp2 : ∀ W, Calls Try.prog 20 #[.int .u64 (r.s.size : Nat), .int .i64 2] W fun e w' => e = .returned (.string (p2 r.s.size)) ∧ Below W.heap.size W w' := fun W =>
    put_at 2 (r.s.size : Nat) 2 W rfl (by omega) (by omega) (by omega)
  have hxc := fun k hk => An.x_cell r k hk
  have hno := fun k hk h => An.not_ok (r := r) k hk h
  have hall : r.xs.all smB = true → r.ok = decide (0 ≤ r.wh ∧ r.wh ≤ 255 ∧ r.s.size ≤ 65535) := fun h => by unfold An.ok; rw [h, Bool.true_and]
  have htk := fun k hk => An.xs_take r k hk
  have htl : r.xs.take 7 = r.xs := rfl
  have hbs : r.ok = false → r.bs = ByteArray.empty := fun h => by unfold An.bs; rw [h]; rfl
  have hbt : r.ok = true → r.bs = p1 (IntKind.u64.wrap r.wh) ++ cat4 r.xs ++ p2 r.s.size ++ r.s := fun h => by
    have o := An.ok_iff.1 h
    have h0 := o.w0
    have h1 := o.w1
    unfold An.bs
    rw [if_pos h]
    unfold Rc.bytes An.rc An.xs
    dsimp only
    simp only [cat4]
    rw [show ((r.wh.toNat : Nat) : Int) = r.wh by omega, show IntKind.u64.wrap r.wh = r.wh by rw [IntKind.wrap_u64]; omega]
    have e : ∀ x : Int, (((x % 4294967296).toNat : Nat) : Int) = x % 4294967296 := fun x => by omega
    simp only [e, ByteArray.append_empty, ByteArray.append_assoc]
  have h1z : ∀ n, (p1 n).size = 1 := p1_size
  have HALL := Lib.hid hall
  have HTK := Lib.hid (And.intro htk htl)
  have HNO := Lib.hid hno
  have HXC := Lib.hid hxc
  have HB := Lib.hid (And.intro hbs hbt)
  have HP1 := Lib.hid (And.intro hp1 h1z)
  clear hall htk htl hno hxc hbs hbt hp1 h1z
  generalize r.ok = okv at *
  generalize r.bs = bsv at *
  generalize r.xs = xs at *
  obtain ⟨wh, xa, xb, xc, xd, xe, xf, xh, s⟩ := r
  dsimp only at *
  rw [show An.cells ⟨wh, xa, xb, xc, xd, xe, xf, xh, s⟩ = #[.int .i64 wh, .int .i64 xa, .int .i64 xb, .int .i64 xc, .int .i64 xd, .int .i64 xe, .int .i64 xf, .int .i64 xh, .string s] from rfl]
  have X1 := Blk.new w 63 #[.int .i64 wh, .int .i64 xa, .int .i64 xb, .int .i64 xc, .int .i64 xd, .int .i64 xe, .int .i64 xf, .int .i64 xh, .string s]
  have bel1 := (Below.refl w.heap.size w).alloc (Nat.le_refl _) (.cells #[.int .i64 wh, .int .i64 xa, .int .i64 xb, .int .i64 xc, .int .i64 xd, .int .i64 xe, .int .i64 xf, .int .i64 xh, .string s] 63)
  go_enter Try.func39, Try.ntmps39
  go_upto_region 1 with (fail)
  generalize w.alloc (.cells #[.int .i64 wh, .int .i64 xa, .int .i64 xb, .int .i64 xc, .int .i64 xd, .int .i64 xe, .int .i64 xf, .int .i64 xh, .string s] 63) = w1 at *
  obtain ⟨y, hy⟩ : ∃ y, w.heap.size = y := ⟨_, rfl⟩
  rw [hy] at X1 bel1
  rw [hy]
  have HY := Lib.hid hy
  clear hy
  have g0 : w1.cell? ⟨y, 0, none⟩ = some (.int .i64 wh) := X1.cell 0
  have g1 : w1.cell? ⟨y, 1, none⟩ = some (.int .i64 xa) := X1.cell 1
  have g2 : w1.cell? ⟨y, 2, none⟩ = some (.int .i64 xb) := X1.cell 2
  have g3 : w1.cell? ⟨y, 3, none⟩ = some (.int .i64 xc) := X1.cell 3
  have g4 : w1.cell? ⟨y, 4, none⟩ = some (.int .i64 xd) := X1.cell 4
  have g5 : w1.cell? ⟨y, 5, none⟩ = some (.int .i64 xe) := X1.cell 5
  have g6 : w1.cell? ⟨y, 6, none⟩ = some (.int .i64 xf) := X1.cell 6
  have g7 : w1.cell? ⟨y, 7, none⟩ = some (.int .i64 xh) := X1.cell 7
  go_upto_region 2 with (fail)
  clear g1 g2 g3 g4 g5 g6 g7
  have X2 := X1.alloc (.cells (row7 xa xb xc xd xe xf xh) 3)
  have L2 := Blk.new w1 3 (row7 xa xb xc xd xe xf xh)
  have hys := X1.lt
  have bel2 := bel1.alloc (by omega) (.cells (row7 xa xb xc xd xe xf xh) 3)
  have g0' : (w1.alloc (.cells (row7 xa xb xc xd xe xf xh) 3)).cell? ⟨y, 0, none⟩ = some (.int .i64 wh) := X2.cell 0
  clear g0 X1 bel1
  obtain ⟨z, hz⟩ : ∃ z, w1.heap.size = z := ⟨_, rfl⟩
  rw [hz] at L2 hys
  rw [hz]
  generalize w1.alloc (.cells (row7 xa xb xc xd xe xf xh) 3) = w2 at *
  clear hz
  have h1c := HP1.out.1 wh
  have h1z := HP1.out.2 (IntKind.u64.wrap wh)
  generalize p1 (IntKind.u64.wrap wh) = P1 at *
  go_wp2_with fail
  refine (h1c _).mono ?_
  rintro e w3 ⟨rfl, hb3⟩
  have X3 := X2.below hb3 X2.lt
  have L3 := L2.below hb3 L2.lt
  have bel3 := bel2.trans (hb3.mono (HY.out ▸ bel2.size))
  clear X2 L2 bel2 hb3 h1c g0' HP1
  go_wp2_with fail
  go_loopw [4, 5] (fun s4 s5 wr => ∃ (k : Nat) (S : ByteArray), k ≤ 7 ∧ s5 = .int .i64 k ∧ s4 = .string S ∧ S = P1 ++ cat4 (xs.take k) ∧ S.size ≤ 1 + 4 * k ∧ (xs.take k).all smB = true ∧ Blk wr y 63 #[.int .i64 wh, .int .i64 xa, .int .i64 xb, .int .i64 xc, .int .i64 xd, .int .i64 xe, .int .i64 xf, .int .i64 xh, .string s] ∧ Blk wr z 3 (row7 xa xb xc xd xe xf xh) ∧ Below y w wr) (fun _ s5 _ => 7 - (intOf s5).toNat)
  case atStart => exact ⟨0, _, by omega, rfl, rfl, by simp [cat4], by rw [h1z]; omega, by simp, X3, L3, bel3⟩
  case round =>
    clear X3 L3 bel3
    obtain ⟨k, S, hk, rfl, rfl, hS, hSz, ha, X4, L4, bel4⟩ := hrel
    have HA := Lib.hid ha
    have HS := Lib.hid hS
    clear ha hS
    by_cases hlt : k < 7
    · have c1 : wr.cell? ⟨z, k, none⟩ = some (.int .i64 (xs.getD k 0)) := (L4.cell k).trans (HXC.out k hlt)
      have HT := Lib.hid (HTK.out.1 k hlt)
      have HN := Lib.hid (HNO.out k hlt)
      generalize xs.getD k 0 = x at *
      go_wp2_with fail
      refine (hsm x _).mono ?_
      rintro e w5 ⟨rfl, rfl⟩
      cases hb : smB x
      · have hof := HN.out hb
        go_wp2_with fail
        go_ret
        exact ⟨by rw [HB.out.1 hof]; rfl, by rw [HY.out]; exact bel4⟩
      · have h4 := hp4 x
        have h4z := p4_size (x % 4294967296)
        have h4c : cat4 (xs.take (k + 1)) = cat4 (xs.take k) ++ p4 (x % 4294967296) := by rw [HT.out, cat4_snoc]
        have hal := all_snoc HA.out hb
        rw [← HT.out] at hal
        have HAL := Lib.hid (And.intro hal h4c)
        clear hal h4c hb
        have hpz : (p4 (x % 4294967296)).size ≤ 4 := by omega
        clear h4z
        generalize p4 (x % 4294967296) = P4 at *
        go_wp2_with fail
        refine (h4 _).mono ?_
        rintro e w5 ⟨rfl, hb5⟩
        have X5 := X4.below hb5 X4.lt
        have L5 := L4.below hb5 L4.lt
        have bel5 := bel4.trans (hb5.mono (HY.out ▸ bel4.size))
        go_wp2_with fail
        go_roundw
        case rel => exact ⟨k + 1, _, by omega, by go_num, rfl, by rw [HAL.out.2, HS.out, ByteArray.append_assoc], by rw [ByteArray.size_append]; omega, HAL.out.1, X5, L5, bel5⟩
        case measure => simp [intOf]; omega
    · obtain rfl : k = 7 := by omega
      have hq := HA.out
      rw [HTK.out.2] at hq
      have HO := Lib.hid (HALL.out hq)
      have hS2 := HS.out
      rw [HTK.out.2] at hS2
      have HS2 := Lib.hid hS2
      clear hq hS2
      have y0 : wr.cell? ⟨y, 0, none⟩ = some (.int .i64 wh) := X4.cell 0
      have y8 : wr.cell? ⟨y, 8, none⟩ = some (.string s) := X4.cell 8
      have hs30 : S.size ≤ 29 := by omega
      by_cases hm : 0 ≤ wh ∧ wh ≤ 255 ∧ s.size ≤ 65535
      · have HBT := Lib.hid (HB.out.2 (by rw [HO.out]; exact decide_eq_true hm))
        obtain ⟨m1, m2, m3⟩ := hm
        have q8 := cell_regrown y8
        have hp2z : (p2 (s.size : Nat)).size ≤ 2 := by rw [p2_size]; omega
        generalize p2 (s.size : Nat) = P2 at *
        go_upto_region 11 with fail
        refine wp_region_quiet_below (by kernel_rfl) (by kernel_rfl) ?_
        repeat (any_goals (first | go_big_quiet_step ((go_at_call 20; exact Calls.regrown_of (hp2 _))) | quiet_step ((go_at_call 20; exact Calls.regrown_of (hp2 _)))))
        refine wpQuiet_nil ?_
        intro _ hw'
        obtain ⟨⟨dq, osq⟩, hw''⟩ := hw'
        subst hw''
        go_wp2_with fail
        go_ret
        exact ⟨by rw [HBT.out, HS2.out]; rfl, by rw [HY.out]; exact bel4.trans ((below_regrown _ dq osq).mono (HY.out ▸ bel4.size))⟩
      · have hbf := HB.out.1 (by rw [HO.out]; exact decide_eq_false hm)
        by_cases m1 : 0 ≤ wh
        · by_cases m2 : wh ≤ 255
          · have m3 : ¬ s.size ≤ 65535 := fun h => hm ⟨m1, m2, h⟩
            go_wp2_with fail
            go_ret
            exact ⟨by first | rfl | (rw [hbf]; rfl), by rw [HY.out]; exact bel4⟩
          · go_wp2_with fail
            go_ret
            exact ⟨by first | rfl | (rw [hbf]; rfl), by rw [HY.out]; exact bel4⟩
        · go_wp2_with fail
          go_ret
          exact ⟨by first | rfl | (rw [hbf]; rfl), by rw [HY.out]; exact bel4⟩
end Go.Proofs.Ytdocphkpeonldaa.tra
