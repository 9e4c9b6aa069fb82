/- Layer 36: an act's bytes, by the program; all of it. -/
import Derived.Test.YtdocphkpeonldaaTrB
namespace Go.Proofs.Ytdocphkpeonldaa.tra
open Go.Sort (grow)
open Go.ChangeShapes Go.WideShapes Go.ChangeAt Go.RowKit kit oct
set_option maxRecDepth 100000

set_option maxHeartbeats 4000000 in
theorem act36_any (wh : Nat) (xa xb xc xd xe xf xh : Int) (ua ub uc ud ue uf uh : Nat) (s : ByteArray) (w : World) (h1 : wh ≤ 255) (hs : s.size ≤ 65535)
    (la : -2147483648 ≤ xa) (ha : xa ≤ 2147483647) (ma : xa % 4294967296 = ua)
    (lb : -2147483648 ≤ xb) (hb : xb ≤ 2147483647) (mb : xb % 4294967296 = ub)
    (lc : -2147483648 ≤ xc) (hc : xc ≤ 2147483647) (mc : xc % 4294967296 = uc)
    (ld : -2147483648 ≤ xd) (hd : xd ≤ 2147483647) (md : xd % 4294967296 = ud)
    (le : -2147483648 ≤ xe) (he : xe ≤ 2147483647) (me : xe % 4294967296 = ue)
    (lf : -2147483648 ≤ xf) (hf : xf ≤ 2147483647) (mf : xf % 4294967296 = uf)
    (lh : -2147483648 ≤ xh) (hh : xh ≤ 2147483647) (mh : xh % 4294967296 = uh)
    : Calls Try.prog 40 #[.agg #[.int .i64 wh, .int .i64 xa, .int .i64 xb, .int .i64 xc, .int .i64 xd, .int .i64 xe, .int .i64 xf, .int .i64 xh, .string s]] w fun e w' => e = .returned (.string (actS wh ua ub uc ud ue uf uh s)) ∧ Below w.heap.size w w' := by
  have X1 := Blk.new w 63 #[.int .i64 wh, .int .i64 xa, .int .i64 xb, .int .i64 xc, .int .i64 xd, .int .i64 xe, .int .i64 xf, .int .i64 xh, .string s]
  have bel1 := (Below.refl w.heap.size w).alloc (Nat.le_refl _) (.cells #[.int .i64 wh, .int .i64 xa, .int .i64 xb, .int .i64 xc, .int .i64 xd, .int .i64 xe, .int .i64 xf, .int .i64 xh, .string s] 63)
  have hnum := fun W => numbers_any wh xa xb xc xd xe xf xh s W
  have hmay := fun W => may36_any wh xa xb xc xd xe xf xh s W (by omega) (by omega) hs la ha lb hb lc hc ld hd le he lf hf lh hh
  have hu8 := fun W => u8_any (wh : Int) W (by omega) (by omega)
  have hu16 := fun W => u16_p (s.size : Int) W (by omega) (by omega)
  have ix0 : ∀ W, (Instr.index 168 (.agg #[.int .i64 xa, .int .i64 xb, .int .i64 xc, .int .i64 xd, .int .i64 xe, .int .i64 xf, .int .i64 xh]) (.int .i64 0)).run Try.prog W = .ok (.int .i64 xa) W := fun W => by kernel_rfl
  have ix1 : ∀ W, (Instr.index 168 (.agg #[.int .i64 xa, .int .i64 xb, .int .i64 xc, .int .i64 xd, .int .i64 xe, .int .i64 xf, .int .i64 xh]) (.int .i64 1)).run Try.prog W = .ok (.int .i64 xb) W := fun W => by kernel_rfl
  have ix2 : ∀ W, (Instr.index 168 (.agg #[.int .i64 xa, .int .i64 xb, .int .i64 xc, .int .i64 xd, .int .i64 xe, .int .i64 xf, .int .i64 xh]) (.int .i64 2)).run Try.prog W = .ok (.int .i64 xc) W := fun W => by kernel_rfl
  have ix3 : ∀ W, (Instr.index 168 (.agg #[.int .i64 xa, .int .i64 xb, .int .i64 xc, .int .i64 xd, .int .i64 xe, .int .i64 xf, .int .i64 xh]) (.int .i64 3)).run Try.prog W = .ok (.int .i64 xd) W := fun W => by kernel_rfl
  have ix4 : ∀ W, (Instr.index 168 (.agg #[.int .i64 xa, .int .i64 xb, .int .i64 xc, .int .i64 xd, .int .i64 xe, .int .i64 xf, .int .i64 xh]) (.int .i64 4)).run Try.prog W = .ok (.int .i64 xe) W := fun W => by kernel_rfl
  have ix5 : ∀ W, (Instr.index 168 (.agg #[.int .i64 xa, .int .i64 xb, .int .i64 xc, .int .i64 xd, .int .i64 xe, .int .i64 xf, .int .i64 xh]) (.int .i64 5)).run Try.prog W = .ok (.int .i64 xf) W := fun W => by kernel_rfl
  have ix6 : ∀ W, (Instr.index 168 (.agg #[.int .i64 xa, .int .i64 xb, .int .i64 xc, .int .i64 xd, .int .i64 xe, .int .i64 xf, .int .i64 xh]) (.int .i64 6)).run Try.prog W = .ok (.int .i64 xh) W := fun W => by kernel_rfl
  have ka : ∀ W, Calls Try.prog 78 #[.int .u32 (ua : Nat)] W fun e w' => e = .returned (.string (p4 ua)) ∧ Below W.heap.size W w' := fun W => u32_p ua W (by omega) (by omega)
  have sa : (p4 ua).size ≤ 4 := by rw [p4_size]; omega
  have kb : ∀ W, Calls Try.prog 78 #[.int .u32 (ub : Nat)] W fun e w' => e = .returned (.string (p4 ub)) ∧ Below W.heap.size W w' := fun W => u32_p ub W (by omega) (by omega)
  have sb : (p4 ub).size ≤ 4 := by rw [p4_size]; omega
  have kc : ∀ W, Calls Try.prog 78 #[.int .u32 (uc : Nat)] W fun e w' => e = .returned (.string (p4 uc)) ∧ Below W.heap.size W w' := fun W => u32_p uc W (by omega) (by omega)
  have sc : (p4 uc).size ≤ 4 := by rw [p4_size]; omega
  have kd : ∀ W, Calls Try.prog 78 #[.int .u32 (ud : Nat)] W fun e w' => e = .returned (.string (p4 ud)) ∧ Below W.heap.size W w' := fun W => u32_p ud W (by omega) (by omega)
  have sd : (p4 ud).size ≤ 4 := by rw [p4_size]; omega
  have ke : ∀ W, Calls Try.prog 78 #[.int .u32 (ue : Nat)] W fun e w' => e = .returned (.string (p4 ue)) ∧ Below W.heap.size W w' := fun W => u32_p ue W (by omega) (by omega)
  have se : (p4 ue).size ≤ 4 := by rw [p4_size]; omega
  have kf : ∀ W, Calls Try.prog 78 #[.int .u32 (uf : Nat)] W fun e w' => e = .returned (.string (p4 uf)) ∧ Below W.heap.size W w' := fun W => u32_p uf W (by omega) (by omega)
  have sf : (p4 uf).size ≤ 4 := by rw [p4_size]; omega
  have kh : ∀ W, Calls Try.prog 78 #[.int .u32 (uh : Nat)] W fun e w' => e = .returned (.string (p4 uh)) ∧ Below W.heap.size W w' := fun W => u32_p uh W (by omega) (by omega)
  have sh : (p4 uh).size ≤ 4 := by rw [p4_size]; omega
  have s1 : (p1 wh).size ≤ 1 := by unfold p1; rw [strOfNums_size]; simp [be]
  have s2 : (p2 s.size).size ≤ 2 := by rw [p2_size]; omega
  have hA : actS wh ua ub uc ud ue uf uh s = p1 wh ++ p4 ua ++ p4 ub ++ p4 uc ++ p4 ud ++ p4 ue ++ p4 uf ++ p4 uh ++ p2 s.size ++ s := rfl
  have HA := Lib.hid hA
  clear hA
  generalize actS wh ua ub uc ud ue uf uh s = AB at *
  have hu8' : ∀ W, Calls Try.prog 95 #[.int .i64 wh] W fun e w' => e = .returned (.string (p1 wh)) ∧ Below W.heap.size W w' := hu8
  clear hu8
  generalize p1 (wh : Int) = P1 at *
  generalize p2 (s.size : Int) = P2 at *
  obtain ⟨Ba, hBa⟩ : ∃ B, p4 (ua : Int) = B := ⟨_, rfl⟩
  rw [hBa] at ka sa HA
  clear hBa
  obtain ⟨Bb, hBb⟩ : ∃ B, p4 (ub : Int) = B := ⟨_, rfl⟩
  rw [hBb] at kb sb HA
  clear hBb
  obtain ⟨Bc, hBc⟩ : ∃ B, p4 (uc : Int) = B := ⟨_, rfl⟩
  rw [hBc] at kc sc HA
  clear hBc
  obtain ⟨Bd, hBd⟩ : ∃ B, p4 (ud : Int) = B := ⟨_, rfl⟩
  rw [hBd] at kd sd HA
  clear hBd
  obtain ⟨Be, hBe⟩ : ∃ B, p4 (ue : Int) = B := ⟨_, rfl⟩
  rw [hBe] at ke se HA
  clear hBe
  obtain ⟨Bf, hBf⟩ : ∃ B, p4 (uf : Int) = B := ⟨_, rfl⟩
  rw [hBf] at kf sf HA
  clear hBf
  obtain ⟨Bh, hBh⟩ : ∃ B, p4 (uh : Int) = B := ⟨_, rfl⟩
  rw [hBh] at kh sh HA
  clear hBh
  go_enter Try.func40, Try.ntmps40
  go_upto_region 1 with (fail)
  generalize w.alloc (.cells #[.int .i64 wh, .int .i64 xa, .int .i64 xb, .int .i64 xc, .int .i64 xd, .int .i64 xe, .int .i64 xf, .int .i64 xh, .string s] 63) = w1 at *
  go_wp2_with (refine wpList_load_at rfl 63 _ rfl w.heap.size 0 rfl #[.int .i64 wh, .int .i64 xa, .int .i64 xb, .int .i64 xc, .int .i64 xd, .int .i64 xe, .int .i64 xf, .int .i64 xh, .string s] _ (Cel.of_blk X1) Try.underlying63 rfl (szA _ _ _ _ _ _ _ _ _) ?_)
  refine (hmay _).mono ?_
  rintro e w2 ⟨rfl, hb2⟩
  have X2 := X1.below hb2 X1.lt
  have bel2 := bel1.trans (hb2.mono bel1.size)
  clear X1 bel1 hb2 hmay
  have y0 : w2.cell? ⟨w.heap.size, 0, none⟩ = some (.int .i64 wh) := X2.cell 0
  go_wp2_with fail
  refine (hu8' _).mono ?_
  rintro e w3 ⟨rfl, hb3⟩
  have X3 := X2.below hb3 X2.lt
  have bel3 := bel2.trans (hb3.mono bel2.size)
  clear X2 bel2 hb3 hu8' y0
  go_wp2_with (refine wpList_load_at rfl 63 _ rfl w.heap.size 0 rfl #[.int .i64 wh, .int .i64 xa, .int .i64 xb, .int .i64 xc, .int .i64 xd, .int .i64 xe, .int .i64 xf, .int .i64 xh, .string s] _ (Cel.of_blk X3) Try.underlying63 rfl (szA _ _ _ _ _ _ _ _ _) ?_)
  refine (hnum _).mono ?_
  rintro e w4 ⟨rfl, hb4⟩
  have X4 := X3.below hb4 X3.lt
  have bel4 := bel3.trans (hb4.mono bel3.size)
  clear X3 bel3 hb4 hnum
  go_wp2_with fail
  refine wp_loop_rounds 8 ?_
  rw [rounds_succ]
  go_wp2_with fail
  refine (ka _).mono ?_
  rintro e w5 ⟨rfl, hb5⟩
  have X5 := X4.below hb5 X4.lt
  have bel5 := bel4.trans (hb5.mono bel4.size)
  clear X4 bel4 hb5 ka ix0
  go_wp2_with fail
  rw [rounds_succ]
  go_wp2_with fail
  refine (kb _).mono ?_
  rintro e w6 ⟨rfl, hb6⟩
  have X6 := X5.below hb6 X5.lt
  have bel6 := bel5.trans (hb6.mono bel5.size)
  clear X5 bel5 hb6 kb ix1
  go_wp2_with fail
  rw [rounds_succ]
  go_wp2_with fail
  refine (kc _).mono ?_
  rintro e w7 ⟨rfl, hb7⟩
  have X7 := X6.below hb7 X6.lt
  have bel7 := bel6.trans (hb7.mono bel6.size)
  clear X6 bel6 hb7 kc ix2
  go_wp2_with fail
  rw [rounds_succ]
  go_wp2_with fail
  refine (kd _).mono ?_
  rintro e w8 ⟨rfl, hb8⟩
  have X8 := X7.below hb8 X7.lt
  have bel8 := bel7.trans (hb8.mono bel7.size)
  clear X7 bel7 hb8 kd ix3
  go_wp2_with fail
  rw [rounds_succ]
  go_wp2_with fail
  refine (ke _).mono ?_
  rintro e w9 ⟨rfl, hb9⟩
  have X9 := X8.below hb9 X8.lt
  have bel9 := bel8.trans (hb9.mono bel8.size)
  clear X8 bel8 hb9 ke ix4
  go_wp2_with fail
  rw [rounds_succ]
  go_wp2_with fail
  refine (kf _).mono ?_
  rintro e w10 ⟨rfl, hb10⟩
  have X10 := X9.below hb10 X9.lt
  have bel10 := bel9.trans (hb10.mono bel9.size)
  clear X9 bel9 hb10 kf ix5
  go_wp2_with fail
  rw [rounds_succ]
  go_wp2_with fail
  refine (kh _).mono ?_
  rintro e w11 ⟨rfl, hb11⟩
  have X11 := X10.below hb11 X10.lt
  have bel11 := bel10.trans (hb11.mono bel10.size)
  clear X10 bel10 hb11 kh ix6
  go_wp2_with fail
  rw [rounds_succ]
  go_wp2_with fail
  have y8 : w11.cell? ⟨w.heap.size, 8, none⟩ = some (.string s) := X11.cell 8
  have q8 := cell_regrown y8
  refine wp_region_quiet_below (by kernel_rfl) (by kernel_rfl) ?_
  repeat (any_goals (first | go_big_quiet_step ((go_at_call 80; exact Calls.regrown_of (hu16 _))) | quiet_step ((go_at_call 80; exact Calls.regrown_of (hu16 _)))))
  refine wpQuiet_nil ?_
  intro _ hw'
  obtain ⟨⟨dq, osq⟩, hw''⟩ := hw'
  subst hw''
  go_wp2_with fail
  go_ret
  exact ⟨by rw [HA.out]; rfl, bel11.trans ((below_regrown _ dq osq).mono bel11.size)⟩
end Go.Proofs.Ytdocphkpeonldaa.tra
