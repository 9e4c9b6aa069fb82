/- Layer 10: cookies as bytes, by the program and by the document. -/
import Derived.Test.YtbdbcjhahlofiaaDoorCooA
import Derived.Test.YtbdbcjhahlofiaaDoorRef3
namespace Go.Proofs.YtbdbcjhahlofiaaDoor.coo
open Go.Sort (grow)
open Go.ChangeShapes Go.WideShapes Go.ChangeAt Go.RowKit kit oct
set_option maxRecDepth 100000

theorem u64_p (n : Int) (w : World) (h0 : 0 ≤ n) (h1 : n ≤ 18446744073709551615) : Calls Tryd.prog 20 #[.int .u64 n] w fun e w' => e = .returned (.string (p8 n)) ∧ Below w.heap.size w w' := by
  go_enter Tryd.func20, Tryd.ntmps20
  go_wp2_with (go_at_call 34; refine (bytes8 _ _ (by omega) (by omega)).mono ?_; rintro e w1 ⟨rfl, hb⟩)
  go_ret
  exact ⟨rfl, hb⟩
theorem app_empty (a : ByteArray) : a ++ ByteArray.empty = a := by apply ByteArray.ext; simp
/-- A cookie's bytes; none of one that may not be. -/
def Ck.bytesS (c : Ck) : ByteArray := if c.may then c.bytes else ByteArray.empty
theorem bytes_no (c : Ck) (h : ¬ c.may) (w : World) : Calls Tryd.prog 11 #[.agg c.cells] w fun e w' => e = .returned (.string ByteArray.empty) ∧ Below w.heap.size w w' := by
  have hm := fun w => may_any c w
  rw [decide_eq_false h] at hm
  obtain ⟨made, mine, yours, myTsn, yourTsn, peer, loc, peerPort, myPort, rwnd, out, inn, tieMine, tieYours, X, Y⟩ := c
  clear h
  have bel := (Below.refl w.heap.size w).alloc (Nat.le_refl _) (.cells (Ck.cells ⟨made, mine, yours, myTsn, yourTsn, peer, loc, peerPort, myPort, rwnd, out, inn, tieMine, tieYours, X, Y⟩) 25)
  have N := Blk.new w 25 (Ck.cells ⟨made, mine, yours, myTsn, yourTsn, peer, loc, peerPort, myPort, rwnd, out, inn, tieMine, tieYours, X, Y⟩)
  have sz : (Tryd.prog.info? 25).map (·.size) = some (Ck.cells ⟨made, mine, yours, myTsn, yourTsn, peer, loc, peerPort, myPort, rwnd, out, inn, tieMine, tieYours, X, Y⟩).size := by show _ = some 16; kernel_rfl
  go_enter Tryd.func11, Tryd.ntmps11
  go_upto_region 1 with (fail)
  generalize w.alloc (.cells (Ck.cells ⟨made, mine, yours, myTsn, yourTsn, peer, loc, peerPort, myPort, rwnd, out, inn, tieMine, tieYours, X, Y⟩) 25) = w1 at *
  go_wp2_with (refine wpList_load_at rfl 25 _ rfl w.heap.size 0 rfl (Ck.cells ⟨made, mine, yours, myTsn, yourTsn, peer, loc, peerPort, myPort, rwnd, out, inn, tieMine, tieYours, X, Y⟩) _ (Cel.of_blk N) Tryd.underlying25 rfl sz ?_)
  refine (hm _).mono ?_
  rintro e w2 ⟨rfl, hb⟩
  go_wp2_with fail
  go_ret
  exact ⟨rfl, bel.trans (hb.mono bel.size)⟩
theorem rbytes_no (c : Ck) (h : ¬ c.may) (w : World) : Calls Tryd.prog 12 #[.agg c.cells] w fun e w' => e = .returned (.string ByteArray.empty) ∧ Below w.heap.size w w' := by
  have hm := fun w => rmay_any c w
  rw [decide_eq_false h] at hm
  obtain ⟨made, mine, yours, myTsn, yourTsn, peer, loc, peerPort, myPort, rwnd, out, inn, tieMine, tieYours, X, Y⟩ := c
  clear h
  have bel := (Below.refl w.heap.size w).alloc (Nat.le_refl _) (.cells (Ck.cells ⟨made, mine, yours, myTsn, yourTsn, peer, loc, peerPort, myPort, rwnd, out, inn, tieMine, tieYours, X, Y⟩) 25)
  have N := Blk.new w 25 (Ck.cells ⟨made, mine, yours, myTsn, yourTsn, peer, loc, peerPort, myPort, rwnd, out, inn, tieMine, tieYours, X, Y⟩)
  have sz : (Tryd.prog.info? 25).map (·.size) = some (Ck.cells ⟨made, mine, yours, myTsn, yourTsn, peer, loc, peerPort, myPort, rwnd, out, inn, tieMine, tieYours, X, Y⟩).size := by show _ = some 16; kernel_rfl
  go_enter Tryd.func12, Tryd.ntmps12
  go_upto_region 1 with (fail)
  generalize w.alloc (.cells (Ck.cells ⟨made, mine, yours, myTsn, yourTsn, peer, loc, peerPort, myPort, rwnd, out, inn, tieMine, tieYours, X, Y⟩) 25) = w1 at *
  go_wp2_with (refine wpList_load_at rfl 25 _ rfl w.heap.size 0 rfl (Ck.cells ⟨made, mine, yours, myTsn, yourTsn, peer, loc, peerPort, myPort, rwnd, out, inn, tieMine, tieYours, X, Y⟩) _ (Cel.of_blk N) Tryd.underlying25 rfl sz ?_)
  refine (hm _).mono ?_
  rintro e w2 ⟨rfl, hb⟩
  go_wp2_with fail
  go_ret
  exact ⟨rfl, bel.trans (hb.mono bel.size)⟩
set_option maxHeartbeats 20000000 in
theorem bytes_yes (c : Ck) (h : c.may) (g : c.wf) (w : World) : Calls Tryd.prog 11 #[.agg c.cells] w fun e w' => e = .returned (.string c.bytes) ∧ Below w.heap.size w w' := by
  have hm := fun w => may_any c w
  rw [decide_eq_true h] at hm
  obtain ⟨made, mine, yours, myTsn, yourTsn, peer, loc, peerPort, myPort, rwnd, out, inn, tieMine, tieYours, X, Y⟩ := c
  obtain ⟨a1, a2, a3, a4, a5, a6, a7, a8, a9⟩ := h
  obtain ⟨b1, b2, b3, b4, b5, b6, b7, b8, b9, b10, b11, _, _, _, _, _, _⟩ := g
  unfold is16 at a4 a5 a6 a7
  unfold is32 at b3 b4 b5 b6 b7 b8 b9 b10 b11
  simp only at *
  have c0 := fun w => u64_p made w (by omega) (by omega)
  have c1 := fun w => u32_p mine w (by omega) (by omega)
  have c2 := fun w => u32_p yours w (by omega) (by omega)
  have c3 := fun w => u32_p myTsn w (by omega) (by omega)
  have c4 := fun w => u32_p yourTsn w (by omega) (by omega)
  have c5 := fun w => u32_p peer w (by omega) (by omega)
  have c6 := fun w => u32_p loc w (by omega) (by omega)
  have c7 := fun w => u16_p peerPort w (by omega) (by omega)
  have c8 := fun w => u16_p myPort w (by omega) (by omega)
  have c9 := fun w => u32_p rwnd w (by omega) (by omega)
  have c10 := fun w => u16_p out w (by omega) (by omega)
  have c11 := fun w => u16_p inn w (by omega) (by omega)
  have c12 := fun w => u32_p tieMine w (by omega) (by omega)
  have c13 := fun w => u32_p tieYours w (by omega) (by omega)
  have hw : IntKind.u64.wrap made = made := IntWalk.u64_in _ (by omega)
  have s0 : (p8 made).size ≤ 8 := by rw [p8_size]; omega
  have s1 : (p4 mine).size ≤ 4 := by rw [p4_size]; omega
  have s2 : (p4 yours).size ≤ 4 := by rw [p4_size]; omega
  have s3 : (p4 myTsn).size ≤ 4 := by rw [p4_size]; omega
  have s4 : (p4 yourTsn).size ≤ 4 := by rw [p4_size]; omega
  have s5 : (p4 peer).size ≤ 4 := by rw [p4_size]; omega
  have s6 : (p4 loc).size ≤ 4 := by rw [p4_size]; omega
  have s7 : (p2 peerPort).size ≤ 2 := by rw [p2_size]; omega
  have s8 : (p2 myPort).size ≤ 2 := by rw [p2_size]; omega
  have s9 : (p4 rwnd).size ≤ 4 := by rw [p4_size]; omega
  have s10 : (p2 out).size ≤ 2 := by rw [p2_size]; omega
  have s11 : (p2 inn).size ≤ 2 := by rw [p2_size]; omega
  have s12 : (p4 tieMine).size ≤ 4 := by rw [p4_size]; omega
  have s13 : (p4 tieYours).size ≤ 4 := by rw [p4_size]; omega
  have s14 : X.size ≤ 16 := by omega
  have s15 : Y.size ≤ 16 := by omega
  have HR := Lib.hid (show Ck.bytes ⟨made, mine, yours, myTsn, yourTsn, peer, loc, peerPort, myPort, rwnd, out, inn, tieMine, tieYours, X, Y⟩ = p8 made ++ p4 mine ++ p4 yours ++ p4 myTsn ++ p4 yourTsn ++ p4 peer ++ p4 loc ++ p2 peerPort ++ p2 myPort ++ p4 rwnd ++ p2 out ++ p2 inn ++ p4 tieMine ++ p4 tieYours ++ X ++ Y by simp only [Ck.bytes, Ck.parts, cat, app_empty, ByteArray.append_assoc])
  obtain ⟨S0, e0⟩ : ∃ S, p8 made = S := ⟨_, rfl⟩
  rw [e0] at c0 s0 HR
  obtain ⟨S1, e1⟩ : ∃ S, p4 mine = S := ⟨_, rfl⟩
  rw [e1] at c1 s1 HR
  obtain ⟨S2, e2⟩ : ∃ S, p4 yours = S := ⟨_, rfl⟩
  rw [e2] at c2 s2 HR
  obtain ⟨S3, e3⟩ : ∃ S, p4 myTsn = S := ⟨_, rfl⟩
  rw [e3] at c3 s3 HR
  obtain ⟨S4, e4⟩ : ∃ S, p4 yourTsn = S := ⟨_, rfl⟩
  rw [e4] at c4 s4 HR
  obtain ⟨S5, e5⟩ : ∃ S, p4 peer = S := ⟨_, rfl⟩
  rw [e5] at c5 s5 HR
  obtain ⟨S6, e6⟩ : ∃ S, p4 loc = S := ⟨_, rfl⟩
  rw [e6] at c6 s6 HR
  obtain ⟨S7, e7⟩ : ∃ S, p2 peerPort = S := ⟨_, rfl⟩
  rw [e7] at c7 s7 HR
  obtain ⟨S8, e8⟩ : ∃ S, p2 myPort = S := ⟨_, rfl⟩
  rw [e8] at c8 s8 HR
  obtain ⟨S9, e9⟩ : ∃ S, p4 rwnd = S := ⟨_, rfl⟩
  rw [e9] at c9 s9 HR
  obtain ⟨S10, e10⟩ : ∃ S, p2 out = S := ⟨_, rfl⟩
  rw [e10] at c10 s10 HR
  obtain ⟨S11, e11⟩ : ∃ S, p2 inn = S := ⟨_, rfl⟩
  rw [e11] at c11 s11 HR
  obtain ⟨S12, e12⟩ : ∃ S, p4 tieMine = S := ⟨_, rfl⟩
  rw [e12] at c12 s12 HR
  obtain ⟨S13, e13⟩ : ∃ S, p4 tieYours = S := ⟨_, rfl⟩
  rw [e13] at c13 s13 HR
  clear e0 e1 e2 e3 e4 e5 e6 e7 e8 e9 e10 e11 e12 e13 a1 a2 a3 a4 a5 a6 a7 a8 a9 b1 b2 b3 b4 b5 b6 b7 b8 b9 b10 b11
  have bel := (Below.refl w.heap.size w).alloc (Nat.le_refl _) (.cells (Ck.cells ⟨made, mine, yours, myTsn, yourTsn, peer, loc, peerPort, myPort, rwnd, out, inn, tieMine, tieYours, X, Y⟩) 25)
  have N := Blk.new w 25 (Ck.cells ⟨made, mine, yours, myTsn, yourTsn, peer, loc, peerPort, myPort, rwnd, out, inn, tieMine, tieYours, X, Y⟩)
  have sz : (Tryd.prog.info? 25).map (·.size) = some (Ck.cells ⟨made, mine, yours, myTsn, yourTsn, peer, loc, peerPort, myPort, rwnd, out, inn, tieMine, tieYours, X, Y⟩).size := by show _ = some 16; kernel_rfl
  go_enter Tryd.func11, Tryd.ntmps11
  go_upto_region 1 with (fail)
  generalize w.alloc (.cells (Ck.cells ⟨made, mine, yours, myTsn, yourTsn, peer, loc, peerPort, myPort, rwnd, out, inn, tieMine, tieYours, X, Y⟩) 25) = w1 at *
  go_wp2_with (refine wpList_load_at rfl 25 _ rfl w.heap.size 0 rfl (Ck.cells ⟨made, mine, yours, myTsn, yourTsn, peer, loc, peerPort, myPort, rwnd, out, inn, tieMine, tieYours, X, Y⟩) _ (Cel.of_blk N) Tryd.underlying25 rfl sz ?_)
  refine (hm _).mono ?_
  rintro e w2 ⟨rfl, hb⟩
  have N2 := N.below hb N.lt
  have bel2 := bel.trans (hb.mono bel.size)
  clear N bel hb hm
  go_upto_region 3 with (fail)
  have x0 : w2.cell? ⟨w.heap.size, 0, none⟩ = some (.int .i64 made) := N2.cell 0
  have k0 := cell_regrown x0
  have x1 : w2.cell? ⟨w.heap.size, 1, none⟩ = some (.int .u32 mine) := N2.cell 1
  have k1 := cell_regrown x1
  have x2 : w2.cell? ⟨w.heap.size, 2, none⟩ = some (.int .u32 yours) := N2.cell 2
  have k2 := cell_regrown x2
  have x3 : w2.cell? ⟨w.heap.size, 3, none⟩ = some (.int .u32 myTsn) := N2.cell 3
  have k3 := cell_regrown x3
  have x4 : w2.cell? ⟨w.heap.size, 4, none⟩ = some (.int .u32 yourTsn) := N2.cell 4
  have k4 := cell_regrown x4
  have x5 : w2.cell? ⟨w.heap.size, 5, none⟩ = some (.int .u32 peer) := N2.cell 5
  have k5 := cell_regrown x5
  have x6 : w2.cell? ⟨w.heap.size, 6, none⟩ = some (.int .u32 loc) := N2.cell 6
  have k6 := cell_regrown x6
  have x7 : w2.cell? ⟨w.heap.size, 7, none⟩ = some (.int .i64 peerPort) := N2.cell 7
  have k7 := cell_regrown x7
  have x8 : w2.cell? ⟨w.heap.size, 8, none⟩ = some (.int .i64 myPort) := N2.cell 8
  have k8 := cell_regrown x8
  have x9 : w2.cell? ⟨w.heap.size, 9, none⟩ = some (.int .u32 rwnd) := N2.cell 9
  have k9 := cell_regrown x9
  have x10 : w2.cell? ⟨w.heap.size, 10, none⟩ = some (.int .i64 out) := N2.cell 10
  have k10 := cell_regrown x10
  have x11 : w2.cell? ⟨w.heap.size, 11, none⟩ = some (.int .i64 inn) := N2.cell 11
  have k11 := cell_regrown x11
  have x12 : w2.cell? ⟨w.heap.size, 12, none⟩ = some (.int .u32 tieMine) := N2.cell 12
  have k12 := cell_regrown x12
  have x13 : w2.cell? ⟨w.heap.size, 13, none⟩ = some (.int .u32 tieYours) := N2.cell 13
  have k13 := cell_regrown x13
  have x14 : w2.cell? ⟨w.heap.size, 14, none⟩ = some (.string X) := N2.cell 14
  have k14 := cell_regrown x14
  have x15 : w2.cell? ⟨w.heap.size, 15, none⟩ = some (.string Y) := N2.cell 15
  have k15 := cell_regrown x15
  clear N2 x0 x1 x2 x3 x4 x5 x6 x7 x8 x9 x10 x11 x12 x13 x14 x15
  refine wp_region_quiet_below (by kernel_rfl) (by kernel_rfl) ?_
  repeat (any_goals (first | go_big_quiet_step ((first | (go_at_call 20; first | (with_reducible exact Calls.regrown_of (c0 _))) | (go_at_call 21; first | (with_reducible exact Calls.regrown_of (c1 _)) | (with_reducible exact Calls.regrown_of (c2 _)) | (with_reducible exact Calls.regrown_of (c3 _)) | (with_reducible exact Calls.regrown_of (c4 _)) | (with_reducible exact Calls.regrown_of (c5 _)) | (with_reducible exact Calls.regrown_of (c6 _)) | (with_reducible exact Calls.regrown_of (c9 _)) | (with_reducible exact Calls.regrown_of (c12 _)) | (with_reducible exact Calls.regrown_of (c13 _))) | (go_at_call 22; first | (with_reducible exact Calls.regrown_of (c7 _)) | (with_reducible exact Calls.regrown_of (c8 _)) | (with_reducible exact Calls.regrown_of (c10 _)) | (with_reducible exact Calls.regrown_of (c11 _))))) | quiet_step ((first | (go_at_call 20; first | (with_reducible exact Calls.regrown_of (c0 _))) | (go_at_call 21; first | (with_reducible exact Calls.regrown_of (c1 _)) | (with_reducible exact Calls.regrown_of (c2 _)) | (with_reducible exact Calls.regrown_of (c3 _)) | (with_reducible exact Calls.regrown_of (c4 _)) | (with_reducible exact Calls.regrown_of (c5 _)) | (with_reducible exact Calls.regrown_of (c6 _)) | (with_reducible exact Calls.regrown_of (c9 _)) | (with_reducible exact Calls.regrown_of (c12 _)) | (with_reducible exact Calls.regrown_of (c13 _))) | (go_at_call 22; first | (with_reducible exact Calls.regrown_of (c7 _)) | (with_reducible exact Calls.regrown_of (c8 _)) | (with_reducible exact Calls.regrown_of (c10 _)) | (with_reducible exact Calls.regrown_of (c11 _)))))))
  refine wpQuiet_nil ?_
  intro _ hw'
  obtain ⟨⟨dq, osq⟩, hw''⟩ := hw'
  subst hw''
  clear k0 k1 k2 k3 k4 k5 k6 k7 k8 k9 k10 k11 k12 k13 k14 k15 c0 c1 c2 c3 c4 c5 c6 c7 c8 c9 c10 c11 c12 c13
  go_wp2
  go_ret
  exact ⟨by rw [HR.out]; rfl, bel2.trans ((below_regrown _ dq osq).mono bel2.size)⟩
set_option maxHeartbeats 20000000 in
theorem rbytes_yes (c : Ck) (h : c.may) (g : c.wf) (w : World) : Calls Tryd.prog 12 #[.agg c.cells] w fun e w' => e = .returned (.string c.bytes) ∧ Below w.heap.size w w' := by
  have hm := fun w => rmay_any c w
  rw [decide_eq_true h] at hm
  obtain ⟨made, mine, yours, myTsn, yourTsn, peer, loc, peerPort, myPort, rwnd, out, inn, tieMine, tieYours, X, Y⟩ := c
  obtain ⟨a1, a2, a3, a4, a5, a6, a7, a8, a9⟩ := h
  obtain ⟨b1, b2, b3, b4, b5, b6, b7, b8, b9, b10, b11, _, _, _, _, _, _⟩ := g
  unfold is16 at a4 a5 a6 a7
  unfold is32 at b3 b4 b5 b6 b7 b8 b9 b10 b11
  simp only at *
  have c0 : ∀ w, Calls Tryd.prog 23 #[.int .u64 made, .int .i64 8] w fun e w' => e = .returned (.string (p8 made)) ∧ Below w.heap.size w w' := fun w => put_at 8 made 8 w rfl (by omega) (by omega) (by omega)
  have hw0 : IntKind.u64.wrap made = made := IntWalk.u64_in _ (by omega)
  have c1 : ∀ w, Calls Tryd.prog 23 #[.int .u64 mine, .int .i64 4] w fun e w' => e = .returned (.string (p4 mine)) ∧ Below w.heap.size w w' := fun w => put_at 4 mine 4 w rfl (by omega) (by omega) (by omega)
  have hw1 : IntKind.u64.wrap mine = mine := IntWalk.u64_in _ (by omega)
  have c2 : ∀ w, Calls Tryd.prog 23 #[.int .u64 yours, .int .i64 4] w fun e w' => e = .returned (.string (p4 yours)) ∧ Below w.heap.size w w' := fun w => put_at 4 yours 4 w rfl (by omega) (by omega) (by omega)
  have hw2 : IntKind.u64.wrap yours = yours := IntWalk.u64_in _ (by omega)
  have c3 : ∀ w, Calls Tryd.prog 23 #[.int .u64 myTsn, .int .i64 4] w fun e w' => e = .returned (.string (p4 myTsn)) ∧ Below w.heap.size w w' := fun w => put_at 4 myTsn 4 w rfl (by omega) (by omega) (by omega)
  have hw3 : IntKind.u64.wrap myTsn = myTsn := IntWalk.u64_in _ (by omega)
  have c4 : ∀ w, Calls Tryd.prog 23 #[.int .u64 yourTsn, .int .i64 4] w fun e w' => e = .returned (.string (p4 yourTsn)) ∧ Below w.heap.size w w' := fun w => put_at 4 yourTsn 4 w rfl (by omega) (by omega) (by omega)
  have hw4 : IntKind.u64.wrap yourTsn = yourTsn := IntWalk.u64_in _ (by omega)
  have c5 : ∀ w, Calls Tryd.prog 23 #[.int .u64 peer, .int .i64 4] w fun e w' => e = .returned (.string (p4 peer)) ∧ Below w.heap.size w w' := fun w => put_at 4 peer 4 w rfl (by omega) (by omega) (by omega)
  have hw5 : IntKind.u64.wrap peer = peer := IntWalk.u64_in _ (by omega)
  have c6 : ∀ w, Calls Tryd.prog 23 #[.int .u64 loc, .int .i64 4] w fun e w' => e = .returned (.string (p4 loc)) ∧ Below w.heap.size w w' := fun w => put_at 4 loc 4 w rfl (by omega) (by omega) (by omega)
  have hw6 : IntKind.u64.wrap loc = loc := IntWalk.u64_in _ (by omega)
  have c7 : ∀ w, Calls Tryd.prog 23 #[.int .u64 peerPort, .int .i64 2] w fun e w' => e = .returned (.string (p2 peerPort)) ∧ Below w.heap.size w w' := fun w => put_at 2 peerPort 2 w rfl (by omega) (by omega) (by omega)
  have hw7 : IntKind.u64.wrap peerPort = peerPort := IntWalk.u64_in _ (by omega)
  have c8 : ∀ w, Calls Tryd.prog 23 #[.int .u64 myPort, .int .i64 2] w fun e w' => e = .returned (.string (p2 myPort)) ∧ Below w.heap.size w w' := fun w => put_at 2 myPort 2 w rfl (by omega) (by omega) (by omega)
  have hw8 : IntKind.u64.wrap myPort = myPort := IntWalk.u64_in _ (by omega)
  have c9 : ∀ w, Calls Tryd.prog 23 #[.int .u64 rwnd, .int .i64 4] w fun e w' => e = .returned (.string (p4 rwnd)) ∧ Below w.heap.size w w' := fun w => put_at 4 rwnd 4 w rfl (by omega) (by omega) (by omega)
  have hw9 : IntKind.u64.wrap rwnd = rwnd := IntWalk.u64_in _ (by omega)
  have c10 : ∀ w, Calls Tryd.prog 23 #[.int .u64 out, .int .i64 2] w fun e w' => e = .returned (.string (p2 out)) ∧ Below w.heap.size w w' := fun w => put_at 2 out 2 w rfl (by omega) (by omega) (by omega)
  have hw10 : IntKind.u64.wrap out = out := IntWalk.u64_in _ (by omega)
  have c11 : ∀ w, Calls Tryd.prog 23 #[.int .u64 inn, .int .i64 2] w fun e w' => e = .returned (.string (p2 inn)) ∧ Below w.heap.size w w' := fun w => put_at 2 inn 2 w rfl (by omega) (by omega) (by omega)
  have hw11 : IntKind.u64.wrap inn = inn := IntWalk.u64_in _ (by omega)
  have c12 : ∀ w, Calls Tryd.prog 23 #[.int .u64 tieMine, .int .i64 4] w fun e w' => e = .returned (.string (p4 tieMine)) ∧ Below w.heap.size w w' := fun w => put_at 4 tieMine 4 w rfl (by omega) (by omega) (by omega)
  have hw12 : IntKind.u64.wrap tieMine = tieMine := IntWalk.u64_in _ (by omega)
  have c13 : ∀ w, Calls Tryd.prog 23 #[.int .u64 tieYours, .int .i64 4] w fun e w' => e = .returned (.string (p4 tieYours)) ∧ Below w.heap.size w w' := fun w => put_at 4 tieYours 4 w rfl (by omega) (by omega) (by omega)
  have hw13 : IntKind.u64.wrap tieYours = tieYours := IntWalk.u64_in _ (by omega)
  have s0 : (p8 made).size ≤ 8 := by rw [p8_size]; omega
  have s1 : (p4 mine).size ≤ 4 := by rw [p4_size]; omega
  have s2 : (p4 yours).size ≤ 4 := by rw [p4_size]; omega
  have s3 : (p4 myTsn).size ≤ 4 := by rw [p4_size]; omega
  have s4 : (p4 yourTsn).size ≤ 4 := by rw [p4_size]; omega
  have s5 : (p4 peer).size ≤ 4 := by rw [p4_size]; omega
  have s6 : (p4 loc).size ≤ 4 := by rw [p4_size]; omega
  have s7 : (p2 peerPort).size ≤ 2 := by rw [p2_size]; omega
  have s8 : (p2 myPort).size ≤ 2 := by rw [p2_size]; omega
  have s9 : (p4 rwnd).size ≤ 4 := by rw [p4_size]; omega
  have s10 : (p2 out).size ≤ 2 := by rw [p2_size]; omega
  have s11 : (p2 inn).size ≤ 2 := by rw [p2_size]; omega
  have s12 : (p4 tieMine).size ≤ 4 := by rw [p4_size]; omega
  have s13 : (p4 tieYours).size ≤ 4 := by rw [p4_size]; omega
  have s14 : X.size ≤ 16 := by omega
  have s15 : Y.size ≤ 16 := by omega
  have HR := Lib.hid (show Ck.bytes ⟨made, mine, yours, myTsn, yourTsn, peer, loc, peerPort, myPort, rwnd, out, inn, tieMine, tieYours, X, Y⟩ = p8 made ++ p4 mine ++ p4 yours ++ p4 myTsn ++ p4 yourTsn ++ p4 peer ++ p4 loc ++ (p2 peerPort ++ p2 myPort ++ p4 rwnd ++ p2 out ++ p2 inn) ++ p4 tieMine ++ p4 tieYours ++ X ++ Y by simp only [Ck.bytes, Ck.parts, cat, app_empty, ByteArray.append_assoc])
  obtain ⟨S0, e0⟩ : ∃ S, p8 made = S := ⟨_, rfl⟩
  rw [e0] at c0 s0 HR
  obtain ⟨S1, e1⟩ : ∃ S, p4 mine = S := ⟨_, rfl⟩
  rw [e1] at c1 s1 HR
  obtain ⟨S2, e2⟩ : ∃ S, p4 yours = S := ⟨_, rfl⟩
  rw [e2] at c2 s2 HR
  obtain ⟨S3, e3⟩ : ∃ S, p4 myTsn = S := ⟨_, rfl⟩
  rw [e3] at c3 s3 HR
  obtain ⟨S4, e4⟩ : ∃ S, p4 yourTsn = S := ⟨_, rfl⟩
  rw [e4] at c4 s4 HR
  obtain ⟨S5, e5⟩ : ∃ S, p4 peer = S := ⟨_, rfl⟩
  rw [e5] at c5 s5 HR
  obtain ⟨S6, e6⟩ : ∃ S, p4 loc = S := ⟨_, rfl⟩
  rw [e6] at c6 s6 HR
  obtain ⟨S7, e7⟩ : ∃ S, p2 peerPort = S := ⟨_, rfl⟩
  rw [e7] at c7 s7 HR
  obtain ⟨S8, e8⟩ : ∃ S, p2 myPort = S := ⟨_, rfl⟩
  rw [e8] at c8 s8 HR
  obtain ⟨S9, e9⟩ : ∃ S, p4 rwnd = S := ⟨_, rfl⟩
  rw [e9] at c9 s9 HR
  obtain ⟨S10, e10⟩ : ∃ S, p2 out = S := ⟨_, rfl⟩
  rw [e10] at c10 s10 HR
  obtain ⟨S11, e11⟩ : ∃ S, p2 inn = S := ⟨_, rfl⟩
  rw [e11] at c11 s11 HR
  obtain ⟨S12, e12⟩ : ∃ S, p4 tieMine = S := ⟨_, rfl⟩
  rw [e12] at c12 s12 HR
  obtain ⟨S13, e13⟩ : ∃ S, p4 tieYours = S := ⟨_, rfl⟩
  rw [e13] at c13 s13 HR
  clear e0 e1 e2 e3 e4 e5 e6 e7 e8 e9 e10 e11 e12 e13 a1 a2 a3 a4 a5 a6 a7 a8 a9 b1 b2 b3 b4 b5 b6 b7 b8 b9 b10 b11
  have bel := (Below.refl w.heap.size w).alloc (Nat.le_refl _) (.cells (Ck.cells ⟨made, mine, yours, myTsn, yourTsn, peer, loc, peerPort, myPort, rwnd, out, inn, tieMine, tieYours, X, Y⟩) 25)
  have N := Blk.new w 25 (Ck.cells ⟨made, mine, yours, myTsn, yourTsn, peer, loc, peerPort, myPort, rwnd, out, inn, tieMine, tieYours, X, Y⟩)
  have sz : (Tryd.prog.info? 25).map (·.size) = some (Ck.cells ⟨made, mine, yours, myTsn, yourTsn, peer, loc, peerPort, myPort, rwnd, out, inn, tieMine, tieYours, X, Y⟩).size := by show _ = some 16; kernel_rfl
  go_enter Tryd.func12, Tryd.ntmps12
  go_upto_region 1 with (fail)
  generalize w.alloc (.cells (Ck.cells ⟨made, mine, yours, myTsn, yourTsn, peer, loc, peerPort, myPort, rwnd, out, inn, tieMine, tieYours, X, Y⟩) 25) = w1 at *
  go_wp2_with (refine wpList_load_at rfl 25 _ rfl w.heap.size 0 rfl (Ck.cells ⟨made, mine, yours, myTsn, yourTsn, peer, loc, peerPort, myPort, rwnd, out, inn, tieMine, tieYours, X, Y⟩) _ (Cel.of_blk N) Tryd.underlying25 rfl sz ?_)
  refine (hm _).mono ?_
  rintro e w2 ⟨rfl, hb⟩
  have N2 := N.below hb N.lt
  have bel2 := bel.trans (hb.mono bel.size)
  clear N bel hb hm
  have x0 : w2.cell? ⟨w.heap.size, 0, none⟩ = some (.int .i64 made) := N2.cell 0
  go_wp2_with fail
  refine (c0 _).mono ?_
  rintro e w3 ⟨rfl, hb⟩
  have N3 := N2.below hb N2.lt
  have bel3 := bel2.trans (hb.mono bel2.size)
  clear N2 bel2 hb x0 c0 hw0
  have x1 : w3.cell? ⟨w.heap.size, 1, none⟩ = some (.int .u32 mine) := N3.cell 1
  have x2 : w3.cell? ⟨w.heap.size, 2, none⟩ = some (.int .u32 yours) := N3.cell 2
  have x3 : w3.cell? ⟨w.heap.size, 3, none⟩ = some (.int .u32 myTsn) := N3.cell 3
  have x4 : w3.cell? ⟨w.heap.size, 4, none⟩ = some (.int .u32 yourTsn) := N3.cell 4
  have x5 : w3.cell? ⟨w.heap.size, 5, none⟩ = some (.int .u32 peer) := N3.cell 5
  have x6 : w3.cell? ⟨w.heap.size, 6, none⟩ = some (.int .u32 loc) := N3.cell 6
  go_upto_region 5 with (fail)
  have N4 := N3.alloc (.cells #[.int .u32 mine, .int .u32 yours, .int .u32 myTsn, .int .u32 yourTsn, .int .u32 peer, .int .u32 loc] 22)
  have R4 := Blk.new w3 22 #[.int .u32 mine, .int .u32 yours, .int .u32 myTsn, .int .u32 yourTsn, .int .u32 peer, .int .u32 loc]
  have bel4 := bel3.alloc bel3.size (.cells #[.int .u32 mine, .int .u32 yours, .int .u32 myTsn, .int .u32 yourTsn, .int .u32 peer, .int .u32 loc] 22)
  clear N3 bel3 x1 x2 x3 x4 x5 x6
  generalize w3.alloc (.cells #[.int .u32 mine, .int .u32 yours, .int .u32 myTsn, .int .u32 yourTsn, .int .u32 peer, .int .u32 loc] 22) = w4 at *
  generalize w3.heap.size = r at *
  go_wp2_with fail
  refine wp_loop_rounds 7 ?_
  have y : w4.cell? ⟨r, 0, none⟩ = some (.int .u32 mine) := R4.cell 0
  rw [rounds_succ]
  go_wp2_with fail
  refine (c1 _).mono ?_
  rintro e u1 ⟨rfl, hb⟩
  have Nu1 := N4.below hb N4.lt
  have Ru1 := R4.below hb R4.lt
  have Bu1 := bel4.trans (hb.mono bel4.size)
  clear N4 R4 bel4 hb y c1 hw1
  go_wp2_with fail
  have y : u1.cell? ⟨r, 1, none⟩ = some (.int .u32 yours) := Ru1.cell 1
  rw [rounds_succ]
  go_wp2_with fail
  refine (c2 _).mono ?_
  rintro e u2 ⟨rfl, hb⟩
  have Nu2 := Nu1.below hb Nu1.lt
  have Ru2 := Ru1.below hb Ru1.lt
  have Bu2 := Bu1.trans (hb.mono Bu1.size)
  clear Nu1 Ru1 Bu1 hb y c2 hw2
  go_wp2_with fail
  have y : u2.cell? ⟨r, 2, none⟩ = some (.int .u32 myTsn) := Ru2.cell 2
  rw [rounds_succ]
  go_wp2_with fail
  refine (c3 _).mono ?_
  rintro e u3 ⟨rfl, hb⟩
  have Nu3 := Nu2.below hb Nu2.lt
  have Ru3 := Ru2.below hb Ru2.lt
  have Bu3 := Bu2.trans (hb.mono Bu2.size)
  clear Nu2 Ru2 Bu2 hb y c3 hw3
  go_wp2_with fail
  have y : u3.cell? ⟨r, 3, none⟩ = some (.int .u32 yourTsn) := Ru3.cell 3
  rw [rounds_succ]
  go_wp2_with fail
  refine (c4 _).mono ?_
  rintro e u4 ⟨rfl, hb⟩
  have Nu4 := Nu3.below hb Nu3.lt
  have Ru4 := Ru3.below hb Ru3.lt
  have Bu4 := Bu3.trans (hb.mono Bu3.size)
  clear Nu3 Ru3 Bu3 hb y c4 hw4
  go_wp2_with fail
  have y : u4.cell? ⟨r, 4, none⟩ = some (.int .u32 peer) := Ru4.cell 4
  rw [rounds_succ]
  go_wp2_with fail
  refine (c5 _).mono ?_
  rintro e u5 ⟨rfl, hb⟩
  have Nu5 := Nu4.below hb Nu4.lt
  have Ru5 := Ru4.below hb Ru4.lt
  have Bu5 := Bu4.trans (hb.mono Bu4.size)
  clear Nu4 Ru4 Bu4 hb y c5 hw5
  go_wp2_with fail
  have y : u5.cell? ⟨r, 5, none⟩ = some (.int .u32 loc) := Ru5.cell 5
  rw [rounds_succ]
  go_wp2_with fail
  refine (c6 _).mono ?_
  rintro e u6 ⟨rfl, hb⟩
  have Nu6 := Nu5.below hb Nu5.lt
  have Ru6 := Ru5.below hb Ru5.lt
  have Bu6 := Bu5.trans (hb.mono Bu5.size)
  clear Nu5 Ru5 Bu5 hb y c6 hw6
  go_wp2_with fail
  rw [rounds_succ]
  go_upto_region 9 with (fail)
  have x7 : u6.cell? ⟨w.heap.size, 7, none⟩ = some (.int .i64 peerPort) := Nu6.cell 7
  have k7 := cell_regrown x7
  have x8 : u6.cell? ⟨w.heap.size, 8, none⟩ = some (.int .i64 myPort) := Nu6.cell 8
  have k8 := cell_regrown x8
  have x9 : u6.cell? ⟨w.heap.size, 9, none⟩ = some (.int .u32 rwnd) := Nu6.cell 9
  have k9 := cell_regrown x9
  have x10 : u6.cell? ⟨w.heap.size, 10, none⟩ = some (.int .i64 out) := Nu6.cell 10
  have k10 := cell_regrown x10
  have x11 : u6.cell? ⟨w.heap.size, 11, none⟩ = some (.int .i64 inn) := Nu6.cell 11
  have k11 := cell_regrown x11
  have x12 : u6.cell? ⟨w.heap.size, 12, none⟩ = some (.int .u32 tieMine) := Nu6.cell 12
  have k12 := cell_regrown x12
  have x13 : u6.cell? ⟨w.heap.size, 13, none⟩ = some (.int .u32 tieYours) := Nu6.cell 13
  have k13 := cell_regrown x13
  have x14 : u6.cell? ⟨w.heap.size, 14, none⟩ = some (.string X) := Nu6.cell 14
  have k14 := cell_regrown x14
  have x15 : u6.cell? ⟨w.heap.size, 15, none⟩ = some (.string Y) := Nu6.cell 15
  have k15 := cell_regrown x15
  clear Ru6 x7 x8 x9 x10 x11 x12 x13 x14 x15
  refine wp_region_quiet_below (by kernel_rfl) (by kernel_rfl) ?_
  repeat (any_goals (first | go_big_quiet_step ((go_at_call 23; first | (with_reducible exact Calls.regrown_of (c7 _)) | (with_reducible exact Calls.regrown_of (c8 _)) | (with_reducible exact Calls.regrown_of (c9 _)) | (with_reducible exact Calls.regrown_of (c10 _)) | (with_reducible exact Calls.regrown_of (c11 _)))) | quiet_step ((go_at_call 23; first | (with_reducible exact Calls.regrown_of (c7 _)) | (with_reducible exact Calls.regrown_of (c8 _)) | (with_reducible exact Calls.regrown_of (c9 _)) | (with_reducible exact Calls.regrown_of (c10 _)) | (with_reducible exact Calls.regrown_of (c11 _))))))
  refine wpQuiet_nil ?_
  intro _ hw'
  obtain ⟨⟨dq, osq⟩, hw''⟩ := hw'
  subst hw''
  have N9 := Nu6.below (below_regrown u6 dq osq) Nu6.lt
  have bel9 := Bu6.trans ((below_regrown u6 dq osq).mono Bu6.size)
  clear Nu6 Bu6 k7 k8 k9 k10 k11 k12 k13 k14 k15 c7 c8 c9 c10 c11 hw7 hw8 hw9 hw10 hw11
  generalize grow (redrawn u6 dq) osq = w9 at *
  go_upto_region 10 with (fail)
  have x12 : w9.cell? ⟨w.heap.size, 12, none⟩ = some (.int .u32 tieMine) := N9.cell 12
  have k12 := cell_regrown x12
  have x13 : w9.cell? ⟨w.heap.size, 13, none⟩ = some (.int .u32 tieYours) := N9.cell 13
  have k13 := cell_regrown x13
  have x14 : w9.cell? ⟨w.heap.size, 14, none⟩ = some (.string X) := N9.cell 14
  have k14 := cell_regrown x14
  have x15 : w9.cell? ⟨w.heap.size, 15, none⟩ = some (.string Y) := N9.cell 15
  have k15 := cell_regrown x15
  clear N9 x12 x13 x14 x15
  refine wp_region_quiet_below (by kernel_rfl) (by kernel_rfl) ?_
  repeat (any_goals (first | go_big_quiet_step ((go_at_call 23; first | (with_reducible exact Calls.regrown_of (c12 _)) | (with_reducible exact Calls.regrown_of (c13 _)))) | quiet_step ((go_at_call 23; first | (with_reducible exact Calls.regrown_of (c12 _)) | (with_reducible exact Calls.regrown_of (c13 _))))))
  refine wpQuiet_nil ?_
  intro _ hw'
  obtain ⟨⟨dq, osq⟩, hw''⟩ := hw'
  subst hw''
  clear k12 k13 k14 k15 c12 c13
  go_wp2
  go_ret
  exact ⟨by rw [HR.out]; rfl, bel9.trans ((below_regrown _ dq osq).mono bel9.size)⟩
end Go.Proofs.YtbdbcjhahlofiaaDoor.coo
