/- Layer 10: cookies there and back. -/
import Derived.Test.YtbdbcjhahlofiaaDoorCooJ
import Derived.Test.YtbdbcjhahlofiaaDoorKitF
namespace Go.Proofs.YtbdbcjhahlofiaaDoor.coo
open Go.Sort (grow)
open Go.ChangeShapes Go.WideShapes Go.ChangeAt Go.RowKit kit oct
open dig (Starts Added)
open mac (macS macS_size mac_any refmac_any is_any firsts firsts_size slice_first)
set_option maxRecDepth 100000

set_option maxHeartbeats 8000000 in
theorem puts_no (key : ByteArray) (c : Ck) (now : Int) (w : World) (S0 : Starts w) (A : Added w) (hk : key.size ≤ maxLen) (g0 : c.wf) (hX : c.X.size ≤ 140737488351232) (hY : c.Y.size ≤ 140737488351232) (hn : now ≤ 9223372036854775807) (hm : ¬ (fix c).may) : Calls Tryd.prog 3 #[.string key, .agg c.cells, .int .i64 now] w fun e w' => e = .returned (.bool true) ∧ Below w.heap.size w w' := by
  have Hhm := Lib.hid hm
  clear hm
  have hK := fun w => slice_first 100 key w
  simp only [show ((100 : Nat) : Int) = 100 from rfl] at hK
  have lK := firsts_size 100 key
  generalize firsts 100 key = KK at *
  unfold maxLen at hk
  have HS := Lib.hid S0
  have HA := Lib.hid A
  have HG0 := Lib.hid g0
  clear S0 A g0
  have HFX := Lib.hid (show fix c = if 3 < c.X.size then { c with X := rnd c.X, Y := rnd c.Y } else c from rfl)
  generalize fix c = FX at *
  obtain ⟨made, mine, yours, myTsn, yourTsn, peer, loc, peerPort, myPort, rwnd, out, inn, tieMine, tieYours, X, Y⟩ := c
  simp only at hX hY HFX
  dsimp only [Ck.cells]
  have N0 := Blk.new w 25 #[.int .i64 made, .int .u32 mine, .int .u32 yours, .int .u32 myTsn, .int .u32 yourTsn, .int .u32 peer, .int .u32 loc, .int .i64 peerPort, .int .i64 myPort, .int .u32 rwnd, .int .i64 out, .int .i64 inn, .int .u32 tieMine, .int .u32 tieYours, .string X, .string Y]
  have bel0 := (Below.refl w.heap.size w).alloc (Nat.le_refl _) (.cells #[.int .i64 made, .int .u32 mine, .int .u32 yours, .int .u32 myTsn, .int .u32 yourTsn, .int .u32 peer, .int .u32 loc, .int .i64 peerPort, .int .i64 myPort, .int .u32 rwnd, .int .i64 out, .int .i64 inn, .int .u32 tieMine, .int .u32 tieYours, .string X, .string Y] 25)
  go_enter Tryd.func3, Tryd.ntmps3
  go_upto_region 1 with (fail)
  generalize w.alloc (.cells #[.int .i64 made, .int .u32 mine, .int .u32 yours, .int .u32 myTsn, .int .u32 yourTsn, .int .u32 peer, .int .u32 loc, .int .i64 peerPort, .int .i64 myPort, .int .u32 rwnd, .int .i64 out, .int .i64 inn, .int .u32 tieMine, .int .u32 tieYours, .string X, .string Y] 25) = w0 at *
  have x0 : w0.cell? ⟨w.heap.size, 0, none⟩ = some (.int .i64 made) := N0.cell 0
  have x1 : w0.cell? ⟨w.heap.size, 1, none⟩ = some (.int .u32 mine) := N0.cell 1
  have x2 : w0.cell? ⟨w.heap.size, 2, none⟩ = some (.int .u32 yours) := N0.cell 2
  have x3 : w0.cell? ⟨w.heap.size, 3, none⟩ = some (.int .u32 myTsn) := N0.cell 3
  have x4 : w0.cell? ⟨w.heap.size, 4, none⟩ = some (.int .u32 yourTsn) := N0.cell 4
  have x5 : w0.cell? ⟨w.heap.size, 5, none⟩ = some (.int .u32 peer) := N0.cell 5
  have x6 : w0.cell? ⟨w.heap.size, 6, none⟩ = some (.int .u32 loc) := N0.cell 6
  have x7 : w0.cell? ⟨w.heap.size, 7, none⟩ = some (.int .i64 peerPort) := N0.cell 7
  have x8 : w0.cell? ⟨w.heap.size, 8, none⟩ = some (.int .i64 myPort) := N0.cell 8
  have x9 : w0.cell? ⟨w.heap.size, 9, none⟩ = some (.int .u32 rwnd) := N0.cell 9
  have x10 : w0.cell? ⟨w.heap.size, 10, none⟩ = some (.int .i64 out) := N0.cell 10
  have x11 : w0.cell? ⟨w.heap.size, 11, none⟩ = some (.int .i64 inn) := N0.cell 11
  have x12 : w0.cell? ⟨w.heap.size, 12, none⟩ = some (.int .u32 tieMine) := N0.cell 12
  have x13 : w0.cell? ⟨w.heap.size, 13, none⟩ = some (.int .u32 tieYours) := N0.cell 13
  have x14 : w0.cell? ⟨w.heap.size, 14, none⟩ = some (.string X) := N0.cell 14
  have x15 : w0.cell? ⟨w.heap.size, 15, none⟩ = some (.string Y) := N0.cell 15
  go_upto_region 3 with (fail)
  have N1 := N0.alloc (.cells #[.int .i64 made, .int .u32 mine, .int .u32 yours, .int .u32 myTsn, .int .u32 yourTsn, .int .u32 peer, .int .u32 loc, .int .i64 peerPort, .int .i64 myPort, .int .u32 rwnd, .int .i64 out, .int .i64 inn, .int .u32 tieMine, .int .u32 tieYours, .string X, .string Y] 25)
  have M1 := Blk.new w0 25 #[.int .i64 made, .int .u32 mine, .int .u32 yours, .int .u32 myTsn, .int .u32 yourTsn, .int .u32 peer, .int .u32 loc, .int .i64 peerPort, .int .i64 myPort, .int .u32 rwnd, .int .i64 out, .int .i64 inn, .int .u32 tieMine, .int .u32 tieYours, .string X, .string Y]
  have bel1 := bel0.alloc bel0.size (.cells #[.int .i64 made, .int .u32 mine, .int .u32 yours, .int .u32 myTsn, .int .u32 yourTsn, .int .u32 peer, .int .u32 loc, .int .i64 peerPort, .int .i64 myPort, .int .u32 rwnd, .int .i64 out, .int .i64 inn, .int .u32 tieMine, .int .u32 tieYours, .string X, .string Y] 25)
  have hwg : w.heap.size < w0.heap.size := N0.lt
  clear N0 bel0 x0 x1 x2 x3 x4 x5 x6 x7 x8 x9 x10 x11 x12 x13 x14 x15
  generalize w0.alloc (.cells #[.int .i64 made, .int .u32 mine, .int .u32 yours, .int .u32 myTsn, .int .u32 yourTsn, .int .u32 peer, .int .u32 loc, .int .i64 peerPort, .int .i64 myPort, .int .u32 rwnd, .int .i64 out, .int .i64 inn, .int .u32 tieMine, .int .u32 tieYours, .string X, .string Y] 25) = w1 at *
  generalize w0.heap.size = g at *
  have x14 : w1.cell? ⟨w.heap.size, 14, none⟩ = some (.string X) := N1.cell 14
  have x15 : w1.cell? ⟨w.heap.size, 15, none⟩ = some (.string Y) := N1.cell 15
  have m14 : w1.cell? ⟨g, 14, none⟩ = some (.string X) := M1.cell 14
  have m15 : w1.cell? ⟨g, 15, none⟩ = some (.string Y) := M1.cell 15
  have f14 : w1.frozen? ⟨g, 14, none⟩ = false := M1.frozen 14
  have f15 : w1.frozen? ⟨g, 15, none⟩ = false := M1.frozen 15
  go_upto_if 22 with (fail)
  go_cut [29] (fun _ wx => ∃ X' Y' : ByteArray, FX = (⟨made, mine, yours, myTsn, yourTsn, peer, loc, peerPort, myPort, rwnd, out, inn, tieMine, tieYours, X', Y'⟩ : Ck) ∧ (⟨made, mine, yours, myTsn, yourTsn, peer, loc, peerPort, myPort, rwnd, out, inn, tieMine, tieYours, X', Y'⟩ : Ck).wf ∧ Blk wx g 25 #[.int .i64 made, .int .u32 mine, .int .u32 yours, .int .u32 myTsn, .int .u32 yourTsn, .int .u32 peer, .int .u32 loc, .int .i64 peerPort, .int .i64 myPort, .int .u32 rwnd, .int .i64 out, .int .i64 inn, .int .u32 tieMine, .int .u32 tieYours, .string X', .string Y'] ∧ Below w.heap.size w wx)
  case first =>
    by_cases h3 : 3 < X.size
    · have hd : decide (3 < (X.size : Int)) = true := decide_eq_true (by omega)
      have r1 := fun w => rnd_any X w hX
      have r2 := fun w => rnd_any Y w hY
      have HW := Lib.hid (wf_rnd (X' := rnd X) (Y' := rnd Y) HG0.out (by rw [rnd_size]; decide) (by rw [rnd_size]; decide))
      have HF2 := Lib.hid (show FX = (⟨made, mine, yours, myTsn, yourTsn, peer, loc, peerPort, myPort, rwnd, out, inn, tieMine, tieYours, (rnd X), (rnd Y)⟩ : Ck) by rw [HFX.out, if_pos h3])
      generalize rnd X = X2 at *
      generalize rnd Y = Y2 at *
      go_upto_region 4 with (fail)
      go_region_with (go_at_call 7; first | ((with_reducible refine (r1 _).mono ?_); rintro e wz ⟨rfl, rfl⟩) | ((with_reducible refine (r2 _).mono ?_); rintro e wz ⟨rfl, rfl⟩))
      all_goals
        have MA : Blk (w1.setCell ⟨g, 14, none⟩ (.string X2)) g 25 #[.int .i64 made, .int .u32 mine, .int .u32 yours, .int .u32 myTsn, .int .u32 yourTsn, .int .u32 peer, .int .u32 loc, .int .i64 peerPort, .int .i64 myPort, .int .u32 rwnd, .int .i64 out, .int .i64 inn, .int .u32 tieMine, .int .u32 tieYours, .string X2, .string Y] := M1.set_ 14 _
        have MB : Blk ((w1.setCell ⟨g, 14, none⟩ (.string X2)).setCell ⟨g, 15, none⟩ (.string Y2)) g 25 #[.int .i64 made, .int .u32 mine, .int .u32 yours, .int .u32 myTsn, .int .u32 yourTsn, .int .u32 peer, .int .u32 loc, .int .i64 peerPort, .int .i64 myPort, .int .u32 rwnd, .int .i64 out, .int .i64 inn, .int .u32 tieMine, .int .u32 tieYours, .string X2, .string Y2] := MA.set_ 15 _
        have bb := ((bel1.setCell (p := ⟨g, 14, none⟩) (by show w.heap.size ≤ g; omega) (.string X2)).setCell (p := ⟨g, 15, none⟩) (by show w.heap.size ≤ g; omega) (.string Y2)).drew
        go_wp2_with fail
        go_meet
        exact ⟨X2, Y2, HF2.out, HW.out, MB.drew, bb⟩
    · have hd : decide (3 < (X.size : Int)) = false := decide_eq_false (by omega)
      go_wp2_with fail
      go_meet
      exact ⟨X, Y, by rw [HFX.out, if_neg h3], HG0.out, M1, bel1⟩
  case rest =>
  clear HFX HG0 hX hY hK N1 M1 bel1 x14 x15 m14 m15 f14 f15
  revert X Y
  intro Xo Yo
  obtain ⟨X, Y, rfl, hwf, M2, bel2⟩ := hcut
  have hm := Hhm.out
  clear Hhm
  have hP := put_all KK (⟨made, mine, yours, myTsn, yourTsn, peer, loc, peerPort, myPort, rwnd, out, inn, tieMine, tieYours, X, Y⟩ : Ck) hwf wc (HS.out.below bel2) (HA.out.below bel2) (by omega)
  have hRP := fun w => rput_all KK (⟨made, mine, yours, myTsn, yourTsn, peer, loc, peerPort, myPort, rwnd, out, inn, tieMine, tieYours, X, Y⟩ : Ck) hwf w (by omega)
  have hB := fun w => bytes_all (⟨made, mine, yours, myTsn, yourTsn, peer, loc, peerPort, myPort, rwnd, out, inn, tieMine, tieYours, X, Y⟩ : Ck) hwf w
  have hRB := fun w => rbytes_all (⟨made, mine, yours, myTsn, yourTsn, peer, loc, peerPort, myPort, rwnd, out, inn, tieMine, tieYours, X, Y⟩ : Ck) hwf w
  have hMy := fun w => may_any (⟨made, mine, yours, myTsn, yourTsn, peer, loc, peerPort, myPort, rwnd, out, inn, tieMine, tieYours, X, Y⟩ : Ck) w
  have heq := fun w => eql_self (⟨made, mine, yours, myTsn, yourTsn, peer, loc, peerPort, myPort, rwnd, out, inn, tieMine, tieYours, X, Y⟩ : Ck) w
  have hG := fun w S0 A => get_any KK (putS KK (⟨made, mine, yours, myTsn, yourTsn, peer, loc, peerPort, myPort, rwnd, out, inn, tieMine, tieYours, X, Y⟩ : Ck)) now w S0 A (by omega) (Nat.le_trans (putS_size KK (⟨made, mine, yours, myTsn, yourTsn, peer, loc, peerPort, myPort, rwnd, out, inn, tieMine, tieYours, X, Y⟩ : Ck)) (by omega)) hn
  have HPUT := Lib.hid (fun hm : Ck.may (⟨made, mine, yours, myTsn, yourTsn, peer, loc, peerPort, myPort, rwnd, out, inn, tieMine, tieYours, X, Y⟩ : Ck) => get_put (key := KK) hm hwf now)
  have HSEQ := Lib.hid (show putS KK (⟨made, mine, yours, myTsn, yourTsn, peer, loc, peerPort, myPort, rwnd, out, inn, tieMine, tieYours, X, Y⟩ : Ck) = if Ck.may (⟨made, mine, yours, myTsn, yourTsn, peer, loc, peerPort, myPort, rwnd, out, inn, tieMine, tieYours, X, Y⟩ : Ck) then Ck.bytes (⟨made, mine, yours, myTsn, yourTsn, peer, loc, peerPort, myPort, rwnd, out, inn, tieMine, tieYours, X, Y⟩ : Ck) ++ macS KK (Ck.bytes (⟨made, mine, yours, myTsn, yourTsn, peer, loc, peerPort, myPort, rwnd, out, inn, tieMine, tieYours, X, Y⟩ : Ck)) else ByteArray.empty from rfl)
  have HZ := Lib.hid (fun hm : Ck.may (⟨made, mine, yours, myTsn, yourTsn, peer, loc, peerPort, myPort, rwnd, out, inn, tieMine, tieYours, X, Y⟩ : Ck) => (show (Ck.bytes (⟨made, mine, yours, myTsn, yourTsn, peer, loc, peerPort, myPort, rwnd, out, inn, tieMine, tieYours, X, Y⟩ : Ck) ++ macS KK (Ck.bytes (⟨made, mine, yours, myTsn, yourTsn, peer, loc, peerPort, myPort, rwnd, out, inn, tieMine, tieYours, X, Y⟩ : Ck))).size = 104 by rw [ByteArray.size_append, macS_size, bytes_size hm]))
  obtain ⟨S, hS⟩ : ∃ S, putS KK (⟨made, mine, yours, myTsn, yourTsn, peer, loc, peerPort, myPort, rwnd, out, inn, tieMine, tieYours, X, Y⟩ : Ck) = S := ⟨_, rfl⟩
  rw [hS] at hP hRP hG HSEQ
  obtain ⟨BS, hBS⟩ : ∃ S, Ck.bytesS (⟨made, mine, yours, myTsn, yourTsn, peer, loc, peerPort, myPort, rwnd, out, inn, tieMine, tieYours, X, Y⟩ : Ck) = S := ⟨_, rfl⟩
  rw [hBS] at hB hRB
  clear hS hBS
  dsimp only [Ck.cells] at hP hRP hB hRB hMy heq
  have szR : (Tryd.prog.info? 25).map (·.size) = some (#[.int .i64 made, .int .u32 mine, .int .u32 yours, .int .u32 myTsn, .int .u32 yourTsn, .int .u32 peer, .int .u32 loc, .int .i64 peerPort, .int .i64 myPort, .int .u32 rwnd, .int .i64 out, .int .i64 inn, .int .u32 tieMine, .int .u32 tieYours, .string X, .string Y] : Array Value).size := by show _ = some 16; kernel_rfl
  go_wp2_with (refine wpList_load_at rfl 25 _ rfl g 0 rfl #[.int .i64 made, .int .u32 mine, .int .u32 yours, .int .u32 myTsn, .int .u32 yourTsn, .int .u32 peer, .int .u32 loc, .int .i64 peerPort, .int .i64 myPort, .int .u32 rwnd, .int .i64 out, .int .i64 inn, .int .u32 tieMine, .int .u32 tieYours, .string X, .string Y] _ (Cel.of_blk M2) Tryd.underlying25 rfl szR ?_)
  refine hP.mono ?_
  rintro e w3 ⟨rfl, hb3⟩
  have M3 := M2.below hb3 M2.lt
  have bel3 := bel2.trans (hb3.mono bel2.size)
  clear hP M2 bel2 hb3
  go_upto_region 6 with (fail)
  have S3 := HS.out.below bel3
  have A3 := HA.out.below bel3
  have hA := fun d os => awake10 (grow (redrawn w3 d) os) (S3.below (below_regrown w3 d os)) (A3.below (below_regrown w3 d os))
  have hn1 : (S.toList != S.toList) = false := bne_self_eq_false _
  have hn2 : (BS.toList != BS.toList) = false := bne_self_eq_false _
  rw [decide_eq_false hm] at hMy
  obtain rfl : S = ByteArray.empty := by rw [HSEQ.out, if_neg hm]
  have hne : ((ByteArray.empty).toList == []) = true := by rw [ByteArray.toList_eq]; rfl
  have hne' : ((ByteArray.empty).toList != []) = false := by rw [bne, hne]; rfl
  have p1 : getC KK ByteArray.empty = Ck.zero := by unfold getC; rw [if_neg (by rintro ⟨h, _⟩; exact absurd h (by decide))]
  have p2 : getE KK ByteArray.empty now = 2 := by unfold getE; rw [if_pos (by decide)]
  rw [p1, p2, zrow_zero] at hG
  unfold zrow at hG
  clear p1 p2 HSEQ HPUT HZ hm
  refine wp_region_quiet_below (by kernel_rfl) (by kernel_rfl) ?_
  repeat (any_goals (first | (refine wpQuiet_load_at (by rfl) 25 _ (by rfl) g 0 (by rfl) #[.int .i64 made, .int .u32 mine, .int .u32 yours, .int .u32 myTsn, .int .u32 yourTsn, .int .u32 peer, .int .u32 loc, .int .i64 peerPort, .int .i64 myPort, .int .u32 rwnd, .int .i64 out, .int .i64 inn, .int .u32 tieMine, .int .u32 tieYours, .string X, .string Y] _ Tryd.underlying25 (by rfl) szR (fun w' hw' => by obtain ⟨p, rfl⟩ := hw'; exact (Cel.of_blk M3).below (below_regrown w3 _ _) M3.lt) ?_) | go_big_quiet_step (((first | (go_at_call 9; exact Calls.regrown_of (hA _ _)) | (go_at_call 10; exact Calls.regrown_of (hRP _)) | (go_at_call 11; exact Calls.regrown_of (hB _)) | (go_at_call 12; exact Calls.regrown_of (hRB _)) | (go_at_call 13; exact Calls.regrown_of (hMy _))))) | quiet_step (((first | (go_at_call 9; exact Calls.regrown_of (hA _ _)) | (go_at_call 10; exact Calls.regrown_of (hRP _)) | (go_at_call 11; exact Calls.regrown_of (hB _)) | (go_at_call 12; exact Calls.regrown_of (hRB _)) | (go_at_call 13; exact Calls.regrown_of (hMy _)))))))
  refine wpQuiet_nil ?_
  intro _ hw'
  obtain ⟨⟨dq, osq⟩, hw''⟩ := hw'
  subst hw''
  have M5 := M3.below (below_regrown w3 dq osq) M3.lt
  have bel5 := bel3.trans ((below_regrown w3 dq osq).mono bel3.size)
  clear M3 bel3 S3 A3 hA hRP hB hRB hMy hn1 hn2
  generalize grow (redrawn w3 dq) osq = w5 at *
  have hG5 := hG w5 (HS.out.below bel5) (HA.out.below bel5)
  clear hG
  go_wp2_with fail
  refine hG5.mono ?_
  rintro e w6 ⟨rfl, hb6⟩
  have bel6 := bel5.trans (hb6.mono bel5.size)
  clear hG5 M5 bel5 hb6
  have bel7 := bel6.alloc bel6.size (.cells #[.int .i64 0, .int .u32 0, .int .u32 0, .int .u32 0, .int .u32 0, .int .u32 0, .int .u32 0, .int .i64 0, .int .i64 0, .int .u32 0, .int .i64 0, .int .i64 0, .int .u32 0, .int .u32 0, .string ⟨#[]⟩, .string ⟨#[]⟩] 25)
  go_wp2_with fail
  go_ret
  exact ⟨ret_true (by simp), bel7⟩
set_option maxHeartbeats 8000000 in
theorem puts_late (key : ByteArray) (c : Ck) (now : Int) (w : World) (S0 : Starts w) (A : Added w) (hk : key.size ≤ maxLen) (g0 : c.wf) (hX : c.X.size ≤ 140737488351232) (hY : c.Y.size ≤ 140737488351232) (hn : now ≤ 9223372036854775807) (hm : (fix c).may) (hl : (fix c).made < now ∧ 600 < now - (fix c).made) : Calls Tryd.prog 3 #[.string key, .agg c.cells, .int .i64 now] w fun e w' => e = .returned (.bool true) ∧ Below w.heap.size w w' := by
  have Hhm := Lib.hid hm
  have Hhl := Lib.hid hl
  clear hm hl
  have hK := fun w => slice_first 100 key w
  simp only [show ((100 : Nat) : Int) = 100 from rfl] at hK
  have lK := firsts_size 100 key
  generalize firsts 100 key = KK at *
  unfold maxLen at hk
  have HS := Lib.hid S0
  have HA := Lib.hid A
  have HG0 := Lib.hid g0
  clear S0 A g0
  have HFX := Lib.hid (show fix c = if 3 < c.X.size then { c with X := rnd c.X, Y := rnd c.Y } else c from rfl)
  generalize fix c = FX at *
  obtain ⟨made, mine, yours, myTsn, yourTsn, peer, loc, peerPort, myPort, rwnd, out, inn, tieMine, tieYours, X, Y⟩ := c
  simp only at hX hY HFX
  dsimp only [Ck.cells]
  have N0 := Blk.new w 25 #[.int .i64 made, .int .u32 mine, .int .u32 yours, .int .u32 myTsn, .int .u32 yourTsn, .int .u32 peer, .int .u32 loc, .int .i64 peerPort, .int .i64 myPort, .int .u32 rwnd, .int .i64 out, .int .i64 inn, .int .u32 tieMine, .int .u32 tieYours, .string X, .string Y]
  have bel0 := (Below.refl w.heap.size w).alloc (Nat.le_refl _) (.cells #[.int .i64 made, .int .u32 mine, .int .u32 yours, .int .u32 myTsn, .int .u32 yourTsn, .int .u32 peer, .int .u32 loc, .int .i64 peerPort, .int .i64 myPort, .int .u32 rwnd, .int .i64 out, .int .i64 inn, .int .u32 tieMine, .int .u32 tieYours, .string X, .string Y] 25)
  go_enter Tryd.func3, Tryd.ntmps3
  go_upto_region 1 with (fail)
  generalize w.alloc (.cells #[.int .i64 made, .int .u32 mine, .int .u32 yours, .int .u32 myTsn, .int .u32 yourTsn, .int .u32 peer, .int .u32 loc, .int .i64 peerPort, .int .i64 myPort, .int .u32 rwnd, .int .i64 out, .int .i64 inn, .int .u32 tieMine, .int .u32 tieYours, .string X, .string Y] 25) = w0 at *
  have x0 : w0.cell? ⟨w.heap.size, 0, none⟩ = some (.int .i64 made) := N0.cell 0
  have x1 : w0.cell? ⟨w.heap.size, 1, none⟩ = some (.int .u32 mine) := N0.cell 1
  have x2 : w0.cell? ⟨w.heap.size, 2, none⟩ = some (.int .u32 yours) := N0.cell 2
  have x3 : w0.cell? ⟨w.heap.size, 3, none⟩ = some (.int .u32 myTsn) := N0.cell 3
  have x4 : w0.cell? ⟨w.heap.size, 4, none⟩ = some (.int .u32 yourTsn) := N0.cell 4
  have x5 : w0.cell? ⟨w.heap.size, 5, none⟩ = some (.int .u32 peer) := N0.cell 5
  have x6 : w0.cell? ⟨w.heap.size, 6, none⟩ = some (.int .u32 loc) := N0.cell 6
  have x7 : w0.cell? ⟨w.heap.size, 7, none⟩ = some (.int .i64 peerPort) := N0.cell 7
  have x8 : w0.cell? ⟨w.heap.size, 8, none⟩ = some (.int .i64 myPort) := N0.cell 8
  have x9 : w0.cell? ⟨w.heap.size, 9, none⟩ = some (.int .u32 rwnd) := N0.cell 9
  have x10 : w0.cell? ⟨w.heap.size, 10, none⟩ = some (.int .i64 out) := N0.cell 10
  have x11 : w0.cell? ⟨w.heap.size, 11, none⟩ = some (.int .i64 inn) := N0.cell 11
  have x12 : w0.cell? ⟨w.heap.size, 12, none⟩ = some (.int .u32 tieMine) := N0.cell 12
  have x13 : w0.cell? ⟨w.heap.size, 13, none⟩ = some (.int .u32 tieYours) := N0.cell 13
  have x14 : w0.cell? ⟨w.heap.size, 14, none⟩ = some (.string X) := N0.cell 14
  have x15 : w0.cell? ⟨w.heap.size, 15, none⟩ = some (.string Y) := N0.cell 15
  go_upto_region 3 with (fail)
  have N1 := N0.alloc (.cells #[.int .i64 made, .int .u32 mine, .int .u32 yours, .int .u32 myTsn, .int .u32 yourTsn, .int .u32 peer, .int .u32 loc, .int .i64 peerPort, .int .i64 myPort, .int .u32 rwnd, .int .i64 out, .int .i64 inn, .int .u32 tieMine, .int .u32 tieYours, .string X, .string Y] 25)
  have M1 := Blk.new w0 25 #[.int .i64 made, .int .u32 mine, .int .u32 yours, .int .u32 myTsn, .int .u32 yourTsn, .int .u32 peer, .int .u32 loc, .int .i64 peerPort, .int .i64 myPort, .int .u32 rwnd, .int .i64 out, .int .i64 inn, .int .u32 tieMine, .int .u32 tieYours, .string X, .string Y]
  have bel1 := bel0.alloc bel0.size (.cells #[.int .i64 made, .int .u32 mine, .int .u32 yours, .int .u32 myTsn, .int .u32 yourTsn, .int .u32 peer, .int .u32 loc, .int .i64 peerPort, .int .i64 myPort, .int .u32 rwnd, .int .i64 out, .int .i64 inn, .int .u32 tieMine, .int .u32 tieYours, .string X, .string Y] 25)
  have hwg : w.heap.size < w0.heap.size := N0.lt
  clear N0 bel0 x0 x1 x2 x3 x4 x5 x6 x7 x8 x9 x10 x11 x12 x13 x14 x15
  generalize w0.alloc (.cells #[.int .i64 made, .int .u32 mine, .int .u32 yours, .int .u32 myTsn, .int .u32 yourTsn, .int .u32 peer, .int .u32 loc, .int .i64 peerPort, .int .i64 myPort, .int .u32 rwnd, .int .i64 out, .int .i64 inn, .int .u32 tieMine, .int .u32 tieYours, .string X, .string Y] 25) = w1 at *
  generalize w0.heap.size = g at *
  have x14 : w1.cell? ⟨w.heap.size, 14, none⟩ = some (.string X) := N1.cell 14
  have x15 : w1.cell? ⟨w.heap.size, 15, none⟩ = some (.string Y) := N1.cell 15
  have m14 : w1.cell? ⟨g, 14, none⟩ = some (.string X) := M1.cell 14
  have m15 : w1.cell? ⟨g, 15, none⟩ = some (.string Y) := M1.cell 15
  have f14 : w1.frozen? ⟨g, 14, none⟩ = false := M1.frozen 14
  have f15 : w1.frozen? ⟨g, 15, none⟩ = false := M1.frozen 15
  go_upto_if 22 with (fail)
  go_cut [29] (fun _ wx => ∃ X' Y' : ByteArray, FX = (⟨made, mine, yours, myTsn, yourTsn, peer, loc, peerPort, myPort, rwnd, out, inn, tieMine, tieYours, X', Y'⟩ : Ck) ∧ (⟨made, mine, yours, myTsn, yourTsn, peer, loc, peerPort, myPort, rwnd, out, inn, tieMine, tieYours, X', Y'⟩ : Ck).wf ∧ Blk wx g 25 #[.int .i64 made, .int .u32 mine, .int .u32 yours, .int .u32 myTsn, .int .u32 yourTsn, .int .u32 peer, .int .u32 loc, .int .i64 peerPort, .int .i64 myPort, .int .u32 rwnd, .int .i64 out, .int .i64 inn, .int .u32 tieMine, .int .u32 tieYours, .string X', .string Y'] ∧ Below w.heap.size w wx)
  case first =>
    by_cases h3 : 3 < X.size
    · have hd : decide (3 < (X.size : Int)) = true := decide_eq_true (by omega)
      have r1 := fun w => rnd_any X w hX
      have r2 := fun w => rnd_any Y w hY
      have HW := Lib.hid (wf_rnd (X' := rnd X) (Y' := rnd Y) HG0.out (by rw [rnd_size]; decide) (by rw [rnd_size]; decide))
      have HF2 := Lib.hid (show FX = (⟨made, mine, yours, myTsn, yourTsn, peer, loc, peerPort, myPort, rwnd, out, inn, tieMine, tieYours, (rnd X), (rnd Y)⟩ : Ck) by rw [HFX.out, if_pos h3])
      generalize rnd X = X2 at *
      generalize rnd Y = Y2 at *
      go_upto_region 4 with (fail)
      go_region_with (go_at_call 7; first | ((with_reducible refine (r1 _).mono ?_); rintro e wz ⟨rfl, rfl⟩) | ((with_reducible refine (r2 _).mono ?_); rintro e wz ⟨rfl, rfl⟩))
      all_goals
        have MA : Blk (w1.setCell ⟨g, 14, none⟩ (.string X2)) g 25 #[.int .i64 made, .int .u32 mine, .int .u32 yours, .int .u32 myTsn, .int .u32 yourTsn, .int .u32 peer, .int .u32 loc, .int .i64 peerPort, .int .i64 myPort, .int .u32 rwnd, .int .i64 out, .int .i64 inn, .int .u32 tieMine, .int .u32 tieYours, .string X2, .string Y] := M1.set_ 14 _
        have MB : Blk ((w1.setCell ⟨g, 14, none⟩ (.string X2)).setCell ⟨g, 15, none⟩ (.string Y2)) g 25 #[.int .i64 made, .int .u32 mine, .int .u32 yours, .int .u32 myTsn, .int .u32 yourTsn, .int .u32 peer, .int .u32 loc, .int .i64 peerPort, .int .i64 myPort, .int .u32 rwnd, .int .i64 out, .int .i64 inn, .int .u32 tieMine, .int .u32 tieYours, .string X2, .string Y2] := MA.set_ 15 _
        have bb := ((bel1.setCell (p := ⟨g, 14, none⟩) (by show w.heap.size ≤ g; omega) (.string X2)).setCell (p := ⟨g, 15, none⟩) (by show w.heap.size ≤ g; omega) (.string Y2)).drew
        go_wp2_with fail
        go_meet
        exact ⟨X2, Y2, HF2.out, HW.out, MB.drew, bb⟩
    · have hd : decide (3 < (X.size : Int)) = false := decide_eq_false (by omega)
      go_wp2_with fail
      go_meet
      exact ⟨X, Y, by rw [HFX.out, if_neg h3], HG0.out, M1, bel1⟩
  case rest =>
  clear HFX HG0 hX hY hK N1 M1 bel1 x14 x15 m14 m15 f14 f15
  revert X Y
  intro Xo Yo
  obtain ⟨X, Y, rfl, hwf, M2, bel2⟩ := hcut
  have hm := Hhm.out
  have hl := Hhl.out
  clear Hhm Hhl
  dsimp only at hl
  have hP := put_all KK (⟨made, mine, yours, myTsn, yourTsn, peer, loc, peerPort, myPort, rwnd, out, inn, tieMine, tieYours, X, Y⟩ : Ck) hwf wc (HS.out.below bel2) (HA.out.below bel2) (by omega)
  have hRP := fun w => rput_all KK (⟨made, mine, yours, myTsn, yourTsn, peer, loc, peerPort, myPort, rwnd, out, inn, tieMine, tieYours, X, Y⟩ : Ck) hwf w (by omega)
  have hB := fun w => bytes_all (⟨made, mine, yours, myTsn, yourTsn, peer, loc, peerPort, myPort, rwnd, out, inn, tieMine, tieYours, X, Y⟩ : Ck) hwf w
  have hRB := fun w => rbytes_all (⟨made, mine, yours, myTsn, yourTsn, peer, loc, peerPort, myPort, rwnd, out, inn, tieMine, tieYours, X, Y⟩ : Ck) hwf w
  have hMy := fun w => may_any (⟨made, mine, yours, myTsn, yourTsn, peer, loc, peerPort, myPort, rwnd, out, inn, tieMine, tieYours, X, Y⟩ : Ck) w
  have heq := fun w => eql_self (⟨made, mine, yours, myTsn, yourTsn, peer, loc, peerPort, myPort, rwnd, out, inn, tieMine, tieYours, X, Y⟩ : Ck) w
  have hG := fun w S0 A => get_any KK (putS KK (⟨made, mine, yours, myTsn, yourTsn, peer, loc, peerPort, myPort, rwnd, out, inn, tieMine, tieYours, X, Y⟩ : Ck)) now w S0 A (by omega) (Nat.le_trans (putS_size KK (⟨made, mine, yours, myTsn, yourTsn, peer, loc, peerPort, myPort, rwnd, out, inn, tieMine, tieYours, X, Y⟩ : Ck)) (by omega)) hn
  have HPUT := Lib.hid (fun hm : Ck.may (⟨made, mine, yours, myTsn, yourTsn, peer, loc, peerPort, myPort, rwnd, out, inn, tieMine, tieYours, X, Y⟩ : Ck) => get_put (key := KK) hm hwf now)
  have HSEQ := Lib.hid (show putS KK (⟨made, mine, yours, myTsn, yourTsn, peer, loc, peerPort, myPort, rwnd, out, inn, tieMine, tieYours, X, Y⟩ : Ck) = if Ck.may (⟨made, mine, yours, myTsn, yourTsn, peer, loc, peerPort, myPort, rwnd, out, inn, tieMine, tieYours, X, Y⟩ : Ck) then Ck.bytes (⟨made, mine, yours, myTsn, yourTsn, peer, loc, peerPort, myPort, rwnd, out, inn, tieMine, tieYours, X, Y⟩ : Ck) ++ macS KK (Ck.bytes (⟨made, mine, yours, myTsn, yourTsn, peer, loc, peerPort, myPort, rwnd, out, inn, tieMine, tieYours, X, Y⟩ : Ck)) else ByteArray.empty from rfl)
  have HZ := Lib.hid (fun hm : Ck.may (⟨made, mine, yours, myTsn, yourTsn, peer, loc, peerPort, myPort, rwnd, out, inn, tieMine, tieYours, X, Y⟩ : Ck) => (show (Ck.bytes (⟨made, mine, yours, myTsn, yourTsn, peer, loc, peerPort, myPort, rwnd, out, inn, tieMine, tieYours, X, Y⟩ : Ck) ++ macS KK (Ck.bytes (⟨made, mine, yours, myTsn, yourTsn, peer, loc, peerPort, myPort, rwnd, out, inn, tieMine, tieYours, X, Y⟩ : Ck))).size = 104 by rw [ByteArray.size_append, macS_size, bytes_size hm]))
  obtain ⟨S, hS⟩ : ∃ S, putS KK (⟨made, mine, yours, myTsn, yourTsn, peer, loc, peerPort, myPort, rwnd, out, inn, tieMine, tieYours, X, Y⟩ : Ck) = S := ⟨_, rfl⟩
  rw [hS] at hP hRP hG HSEQ
  obtain ⟨BS, hBS⟩ : ∃ S, Ck.bytesS (⟨made, mine, yours, myTsn, yourTsn, peer, loc, peerPort, myPort, rwnd, out, inn, tieMine, tieYours, X, Y⟩ : Ck) = S := ⟨_, rfl⟩
  rw [hBS] at hB hRB
  clear hS hBS
  dsimp only [Ck.cells] at hP hRP hB hRB hMy heq
  have szR : (Tryd.prog.info? 25).map (·.size) = some (#[.int .i64 made, .int .u32 mine, .int .u32 yours, .int .u32 myTsn, .int .u32 yourTsn, .int .u32 peer, .int .u32 loc, .int .i64 peerPort, .int .i64 myPort, .int .u32 rwnd, .int .i64 out, .int .i64 inn, .int .u32 tieMine, .int .u32 tieYours, .string X, .string Y] : Array Value).size := by show _ = some 16; kernel_rfl
  go_wp2_with (refine wpList_load_at rfl 25 _ rfl g 0 rfl #[.int .i64 made, .int .u32 mine, .int .u32 yours, .int .u32 myTsn, .int .u32 yourTsn, .int .u32 peer, .int .u32 loc, .int .i64 peerPort, .int .i64 myPort, .int .u32 rwnd, .int .i64 out, .int .i64 inn, .int .u32 tieMine, .int .u32 tieYours, .string X, .string Y] _ (Cel.of_blk M2) Tryd.underlying25 rfl szR ?_)
  refine hP.mono ?_
  rintro e w3 ⟨rfl, hb3⟩
  have M3 := M2.below hb3 M2.lt
  have bel3 := bel2.trans (hb3.mono bel2.size)
  clear hP M2 bel2 hb3
  go_upto_region 6 with (fail)
  have S3 := HS.out.below bel3
  have A3 := HA.out.below bel3
  have hA := fun d os => awake10 (grow (redrawn w3 d) os) (S3.below (below_regrown w3 d os)) (A3.below (below_regrown w3 d os))
  have hn1 : (S.toList != S.toList) = false := bne_self_eq_false _
  have hn2 : (BS.toList != BS.toList) = false := bne_self_eq_false _
  rw [decide_eq_true hm] at hMy
  have hse : S = Ck.bytes (⟨made, mine, yours, myTsn, yourTsn, peer, loc, peerPort, myPort, rwnd, out, inn, tieMine, tieYours, X, Y⟩ : Ck) ++ macS KK (Ck.bytes (⟨made, mine, yours, myTsn, yourTsn, peer, loc, peerPort, myPort, rwnd, out, inn, tieMine, tieYours, X, Y⟩ : Ck)) := by rw [HSEQ.out, if_pos hm]
  obtain ⟨p1, p2, p3⟩ := HPUT.out hm
  rw [← hse] at p1 p2 p3
  have hsz : S.size = 104 := by rw [hse]; exact HZ.out hm
  have hm0 : 0 ≤ made := hm.1
  have hne : (S.toList == []) = false := by
    rw [beq_eq_false_iff_ne, ByteArray.toList_eq]
    intro e
    have h0 : S.data.toList.length = 0 := by rw [e]; rfl
    have h1 : S.data.toList.length = S.size := by simp
    omega
  have hne' : (S.toList != []) = true := by rw [bne, hne]; rfl
  rw [p1] at hG
  clear hse HSEQ HPUT HZ hm p1
  refine wp_region_quiet_below (by kernel_rfl) (by kernel_rfl) ?_
  repeat (any_goals (first | (refine wpQuiet_load_at (by rfl) 25 _ (by rfl) g 0 (by rfl) #[.int .i64 made, .int .u32 mine, .int .u32 yours, .int .u32 myTsn, .int .u32 yourTsn, .int .u32 peer, .int .u32 loc, .int .i64 peerPort, .int .i64 myPort, .int .u32 rwnd, .int .i64 out, .int .i64 inn, .int .u32 tieMine, .int .u32 tieYours, .string X, .string Y] _ Tryd.underlying25 (by rfl) szR (fun w' hw' => by obtain ⟨p, rfl⟩ := hw'; exact (Cel.of_blk M3).below (below_regrown w3 _ _) M3.lt) ?_) | go_big_quiet_step (((first | (go_at_call 9; exact Calls.regrown_of (hA _ _)) | (go_at_call 10; exact Calls.regrown_of (hRP _)) | (go_at_call 11; exact Calls.regrown_of (hB _)) | (go_at_call 12; exact Calls.regrown_of (hRB _)) | (go_at_call 13; exact Calls.regrown_of (hMy _))))) | quiet_step (((first | (go_at_call 9; exact Calls.regrown_of (hA _ _)) | (go_at_call 10; exact Calls.regrown_of (hRP _)) | (go_at_call 11; exact Calls.regrown_of (hB _)) | (go_at_call 12; exact Calls.regrown_of (hRB _)) | (go_at_call 13; exact Calls.regrown_of (hMy _)))))))
  refine wpQuiet_nil ?_
  intro _ hw'
  obtain ⟨⟨dq, osq⟩, hw''⟩ := hw'
  subst hw''
  have M5 := M3.below (below_regrown w3 dq osq) M3.lt
  have bel5 := bel3.trans ((below_regrown w3 dq osq).mono bel3.size)
  clear M3 bel3 S3 A3 hA hRP hB hRB hMy hn1 hn2
  generalize grow (redrawn w3 dq) osq = w5 at *
  have hG5 := hG w5 (HS.out.below bel5) (HA.out.below bel5)
  clear hG
  dsimp only [Ck.cells] at hG5
  have hlate : lateP (⟨made, mine, yours, myTsn, yourTsn, peer, loc, peerPort, myPort, rwnd, out, inn, tieMine, tieYours, X, Y⟩ : Ck) now ↔ (made < now ∧ 600 < now - made) := Iff.rfl
  have HL := Lib.hid (⟨p2, p3⟩ : getE KK S now = _ ∧ getT KK S now = _)
  have HLT := Lib.hid hlate
  clear p2 p3 hlate hsz
  generalize getE KK S now = E at *
  generalize getT KK S now = L at *
  go_wp2_with fail
  refine hG5.mono ?_
  rintro e w6 ⟨rfl, hb6⟩
  have M6 := M5.below hb6 M5.lt
  have bel6 := bel5.trans (hb6.mono bel5.size)
  clear hG5 M5 bel5 hb6
  go_upto_region 9 with (fail)
  have M7 := M6.alloc (.cells #[.int .i64 made, .int .u32 mine, .int .u32 yours, .int .u32 myTsn, .int .u32 yourTsn, .int .u32 peer, .int .u32 loc, .int .i64 peerPort, .int .i64 myPort, .int .u32 rwnd, .int .i64 out, .int .i64 inn, .int .u32 tieMine, .int .u32 tieYours, .string X, .string Y] 25)
  have U7 := Blk.new w6 25 #[.int .i64 made, .int .u32 mine, .int .u32 yours, .int .u32 myTsn, .int .u32 yourTsn, .int .u32 peer, .int .u32 loc, .int .i64 peerPort, .int .i64 myPort, .int .u32 rwnd, .int .i64 out, .int .i64 inn, .int .u32 tieMine, .int .u32 tieYours, .string X, .string Y]
  have bel7 := bel6.alloc bel6.size (.cells #[.int .i64 made, .int .u32 mine, .int .u32 yours, .int .u32 myTsn, .int .u32 yourTsn, .int .u32 peer, .int .u32 loc, .int .i64 peerPort, .int .i64 myPort, .int .u32 rwnd, .int .i64 out, .int .i64 inn, .int .u32 tieMine, .int .u32 tieYours, .string X, .string Y] 25)
  clear M6 bel6
  generalize w6.alloc (.cells #[.int .i64 made, .int .u32 mine, .int .u32 yours, .int .u32 myTsn, .int .u32 yourTsn, .int .u32 peer, .int .u32 loc, .int .i64 peerPort, .int .i64 myPort, .int .u32 rwnd, .int .i64 out, .int .i64 inn, .int .u32 tieMine, .int .u32 tieYours, .string X, .string Y] 25) = w7 at *
  generalize w6.heap.size = v at *
  have m0 : w7.cell? ⟨g, 0, none⟩ = some (.int .i64 made) := M7.cell 0
  obtain ⟨rfl, rfl⟩ : E = 101 ∧ L = now - made - 600 := by
    have h1 := HL.out.1
    have h2 := HL.out.2
    rw [if_pos (HLT.out.2 hl)] at h1 h2
    exact ⟨h1, h2⟩
  clear HL HLT
  obtain ⟨hl1, hl2⟩ := hl
  have d1 : decide (made < now) = true := decide_eq_true hl1
  have d2 : decide (600 < now - made) = true := decide_eq_true hl2
  go_wp2_with (first | (refine wpList_load_at_g (by rfl) 25 _ rfl v 0 rfl #[.int .i64 made, .int .u32 mine, .int .u32 yours, .int .u32 myTsn, .int .u32 yourTsn, .int .u32 peer, .int .u32 loc, .int .i64 peerPort, .int .i64 myPort, .int .u32 rwnd, .int .i64 out, .int .i64 inn, .int .u32 tieMine, .int .u32 tieYours, .string X, .string Y] _ (Cel.of_blk U7) Tryd.underlying25 rfl szR ?_) | (refine wpList_load_at_g (by rfl) 25 _ rfl g 0 rfl #[.int .i64 made, .int .u32 mine, .int .u32 yours, .int .u32 myTsn, .int .u32 yourTsn, .int .u32 peer, .int .u32 loc, .int .i64 peerPort, .int .i64 myPort, .int .u32 rwnd, .int .i64 out, .int .i64 inn, .int .u32 tieMine, .int .u32 tieYours, .string X, .string Y] _ (Cel.of_blk M7) Tryd.underlying25 rfl szR ?_))
  go_ret
  exact ⟨ret_true (by simp), bel7⟩
set_option maxHeartbeats 8000000 in
theorem puts_n1 (key : ByteArray) (c : Ck) (now : Int) (w : World) (S0 : Starts w) (A : Added w) (hk : key.size ≤ maxLen) (g0 : c.wf) (hX : c.X.size ≤ 140737488351232) (hY : c.Y.size ≤ 140737488351232) (hn : now ≤ 9223372036854775807) (hm : (fix c).may) (q : ¬ (fix c).made < now) : Calls Tryd.prog 3 #[.string key, .agg c.cells, .int .i64 now] w fun e w' => e = .returned (.bool true) ∧ Below w.heap.size w w' := by
  have Hhm := Lib.hid hm
  have Hq := Lib.hid q
  clear hm q
  have hK := fun w => slice_first 100 key w
  simp only [show ((100 : Nat) : Int) = 100 from rfl] at hK
  have lK := firsts_size 100 key
  generalize firsts 100 key = KK at *
  unfold maxLen at hk
  have HS := Lib.hid S0
  have HA := Lib.hid A
  have HG0 := Lib.hid g0
  clear S0 A g0
  have HFX := Lib.hid (show fix c = if 3 < c.X.size then { c with X := rnd c.X, Y := rnd c.Y } else c from rfl)
  generalize fix c = FX at *
  obtain ⟨made, mine, yours, myTsn, yourTsn, peer, loc, peerPort, myPort, rwnd, out, inn, tieMine, tieYours, X, Y⟩ := c
  simp only at hX hY HFX
  dsimp only [Ck.cells]
  have N0 := Blk.new w 25 #[.int .i64 made, .int .u32 mine, .int .u32 yours, .int .u32 myTsn, .int .u32 yourTsn, .int .u32 peer, .int .u32 loc, .int .i64 peerPort, .int .i64 myPort, .int .u32 rwnd, .int .i64 out, .int .i64 inn, .int .u32 tieMine, .int .u32 tieYours, .string X, .string Y]
  have bel0 := (Below.refl w.heap.size w).alloc (Nat.le_refl _) (.cells #[.int .i64 made, .int .u32 mine, .int .u32 yours, .int .u32 myTsn, .int .u32 yourTsn, .int .u32 peer, .int .u32 loc, .int .i64 peerPort, .int .i64 myPort, .int .u32 rwnd, .int .i64 out, .int .i64 inn, .int .u32 tieMine, .int .u32 tieYours, .string X, .string Y] 25)
  go_enter Tryd.func3, Tryd.ntmps3
  go_upto_region 1 with (fail)
  generalize w.alloc (.cells #[.int .i64 made, .int .u32 mine, .int .u32 yours, .int .u32 myTsn, .int .u32 yourTsn, .int .u32 peer, .int .u32 loc, .int .i64 peerPort, .int .i64 myPort, .int .u32 rwnd, .int .i64 out, .int .i64 inn, .int .u32 tieMine, .int .u32 tieYours, .string X, .string Y] 25) = w0 at *
  have x0 : w0.cell? ⟨w.heap.size, 0, none⟩ = some (.int .i64 made) := N0.cell 0
  have x1 : w0.cell? ⟨w.heap.size, 1, none⟩ = some (.int .u32 mine) := N0.cell 1
  have x2 : w0.cell? ⟨w.heap.size, 2, none⟩ = some (.int .u32 yours) := N0.cell 2
  have x3 : w0.cell? ⟨w.heap.size, 3, none⟩ = some (.int .u32 myTsn) := N0.cell 3
  have x4 : w0.cell? ⟨w.heap.size, 4, none⟩ = some (.int .u32 yourTsn) := N0.cell 4
  have x5 : w0.cell? ⟨w.heap.size, 5, none⟩ = some (.int .u32 peer) := N0.cell 5
  have x6 : w0.cell? ⟨w.heap.size, 6, none⟩ = some (.int .u32 loc) := N0.cell 6
  have x7 : w0.cell? ⟨w.heap.size, 7, none⟩ = some (.int .i64 peerPort) := N0.cell 7
  have x8 : w0.cell? ⟨w.heap.size, 8, none⟩ = some (.int .i64 myPort) := N0.cell 8
  have x9 : w0.cell? ⟨w.heap.size, 9, none⟩ = some (.int .u32 rwnd) := N0.cell 9
  have x10 : w0.cell? ⟨w.heap.size, 10, none⟩ = some (.int .i64 out) := N0.cell 10
  have x11 : w0.cell? ⟨w.heap.size, 11, none⟩ = some (.int .i64 inn) := N0.cell 11
  have x12 : w0.cell? ⟨w.heap.size, 12, none⟩ = some (.int .u32 tieMine) := N0.cell 12
  have x13 : w0.cell? ⟨w.heap.size, 13, none⟩ = some (.int .u32 tieYours) := N0.cell 13
  have x14 : w0.cell? ⟨w.heap.size, 14, none⟩ = some (.string X) := N0.cell 14
  have x15 : w0.cell? ⟨w.heap.size, 15, none⟩ = some (.string Y) := N0.cell 15
  go_upto_region 3 with (fail)
  have N1 := N0.alloc (.cells #[.int .i64 made, .int .u32 mine, .int .u32 yours, .int .u32 myTsn, .int .u32 yourTsn, .int .u32 peer, .int .u32 loc, .int .i64 peerPort, .int .i64 myPort, .int .u32 rwnd, .int .i64 out, .int .i64 inn, .int .u32 tieMine, .int .u32 tieYours, .string X, .string Y] 25)
  have M1 := Blk.new w0 25 #[.int .i64 made, .int .u32 mine, .int .u32 yours, .int .u32 myTsn, .int .u32 yourTsn, .int .u32 peer, .int .u32 loc, .int .i64 peerPort, .int .i64 myPort, .int .u32 rwnd, .int .i64 out, .int .i64 inn, .int .u32 tieMine, .int .u32 tieYours, .string X, .string Y]
  have bel1 := bel0.alloc bel0.size (.cells #[.int .i64 made, .int .u32 mine, .int .u32 yours, .int .u32 myTsn, .int .u32 yourTsn, .int .u32 peer, .int .u32 loc, .int .i64 peerPort, .int .i64 myPort, .int .u32 rwnd, .int .i64 out, .int .i64 inn, .int .u32 tieMine, .int .u32 tieYours, .string X, .string Y] 25)
  have hwg : w.heap.size < w0.heap.size := N0.lt
  clear N0 bel0 x0 x1 x2 x3 x4 x5 x6 x7 x8 x9 x10 x11 x12 x13 x14 x15
  generalize w0.alloc (.cells #[.int .i64 made, .int .u32 mine, .int .u32 yours, .int .u32 myTsn, .int .u32 yourTsn, .int .u32 peer, .int .u32 loc, .int .i64 peerPort, .int .i64 myPort, .int .u32 rwnd, .int .i64 out, .int .i64 inn, .int .u32 tieMine, .int .u32 tieYours, .string X, .string Y] 25) = w1 at *
  generalize w0.heap.size = g at *
  have x14 : w1.cell? ⟨w.heap.size, 14, none⟩ = some (.string X) := N1.cell 14
  have x15 : w1.cell? ⟨w.heap.size, 15, none⟩ = some (.string Y) := N1.cell 15
  have m14 : w1.cell? ⟨g, 14, none⟩ = some (.string X) := M1.cell 14
  have m15 : w1.cell? ⟨g, 15, none⟩ = some (.string Y) := M1.cell 15
  have f14 : w1.frozen? ⟨g, 14, none⟩ = false := M1.frozen 14
  have f15 : w1.frozen? ⟨g, 15, none⟩ = false := M1.frozen 15
  go_upto_if 22 with (fail)
  go_cut [29] (fun _ wx => ∃ X' Y' : ByteArray, FX = (⟨made, mine, yours, myTsn, yourTsn, peer, loc, peerPort, myPort, rwnd, out, inn, tieMine, tieYours, X', Y'⟩ : Ck) ∧ (⟨made, mine, yours, myTsn, yourTsn, peer, loc, peerPort, myPort, rwnd, out, inn, tieMine, tieYours, X', Y'⟩ : Ck).wf ∧ Blk wx g 25 #[.int .i64 made, .int .u32 mine, .int .u32 yours, .int .u32 myTsn, .int .u32 yourTsn, .int .u32 peer, .int .u32 loc, .int .i64 peerPort, .int .i64 myPort, .int .u32 rwnd, .int .i64 out, .int .i64 inn, .int .u32 tieMine, .int .u32 tieYours, .string X', .string Y'] ∧ Below w.heap.size w wx)
  case first =>
    by_cases h3 : 3 < X.size
    · have hd : decide (3 < (X.size : Int)) = true := decide_eq_true (by omega)
      have r1 := fun w => rnd_any X w hX
      have r2 := fun w => rnd_any Y w hY
      have HW := Lib.hid (wf_rnd (X' := rnd X) (Y' := rnd Y) HG0.out (by rw [rnd_size]; decide) (by rw [rnd_size]; decide))
      have HF2 := Lib.hid (show FX = (⟨made, mine, yours, myTsn, yourTsn, peer, loc, peerPort, myPort, rwnd, out, inn, tieMine, tieYours, (rnd X), (rnd Y)⟩ : Ck) by rw [HFX.out, if_pos h3])
      generalize rnd X = X2 at *
      generalize rnd Y = Y2 at *
      go_upto_region 4 with (fail)
      go_region_with (go_at_call 7; first | ((with_reducible refine (r1 _).mono ?_); rintro e wz ⟨rfl, rfl⟩) | ((with_reducible refine (r2 _).mono ?_); rintro e wz ⟨rfl, rfl⟩))
      all_goals
        have MA : Blk (w1.setCell ⟨g, 14, none⟩ (.string X2)) g 25 #[.int .i64 made, .int .u32 mine, .int .u32 yours, .int .u32 myTsn, .int .u32 yourTsn, .int .u32 peer, .int .u32 loc, .int .i64 peerPort, .int .i64 myPort, .int .u32 rwnd, .int .i64 out, .int .i64 inn, .int .u32 tieMine, .int .u32 tieYours, .string X2, .string Y] := M1.set_ 14 _
        have MB : Blk ((w1.setCell ⟨g, 14, none⟩ (.string X2)).setCell ⟨g, 15, none⟩ (.string Y2)) g 25 #[.int .i64 made, .int .u32 mine, .int .u32 yours, .int .u32 myTsn, .int .u32 yourTsn, .int .u32 peer, .int .u32 loc, .int .i64 peerPort, .int .i64 myPort, .int .u32 rwnd, .int .i64 out, .int .i64 inn, .int .u32 tieMine, .int .u32 tieYours, .string X2, .string Y2] := MA.set_ 15 _
        have bb := ((bel1.setCell (p := ⟨g, 14, none⟩) (by show w.heap.size ≤ g; omega) (.string X2)).setCell (p := ⟨g, 15, none⟩) (by show w.heap.size ≤ g; omega) (.string Y2)).drew
        go_wp2_with fail
        go_meet
        exact ⟨X2, Y2, HF2.out, HW.out, MB.drew, bb⟩
    · have hd : decide (3 < (X.size : Int)) = false := decide_eq_false (by omega)
      go_wp2_with fail
      go_meet
      exact ⟨X, Y, by rw [HFX.out, if_neg h3], HG0.out, M1, bel1⟩
  case rest =>
  clear HFX HG0 hX hY hK N1 M1 bel1 x14 x15 m14 m15 f14 f15
  revert X Y
  intro Xo Yo
  obtain ⟨X, Y, rfl, hwf, M2, bel2⟩ := hcut
  have hm := Hhm.out
  have q := Hq.out
  clear Hhm Hq
  dsimp only at q
  have hP := put_all KK (⟨made, mine, yours, myTsn, yourTsn, peer, loc, peerPort, myPort, rwnd, out, inn, tieMine, tieYours, X, Y⟩ : Ck) hwf wc (HS.out.below bel2) (HA.out.below bel2) (by omega)
  have hRP := fun w => rput_all KK (⟨made, mine, yours, myTsn, yourTsn, peer, loc, peerPort, myPort, rwnd, out, inn, tieMine, tieYours, X, Y⟩ : Ck) hwf w (by omega)
  have hB := fun w => bytes_all (⟨made, mine, yours, myTsn, yourTsn, peer, loc, peerPort, myPort, rwnd, out, inn, tieMine, tieYours, X, Y⟩ : Ck) hwf w
  have hRB := fun w => rbytes_all (⟨made, mine, yours, myTsn, yourTsn, peer, loc, peerPort, myPort, rwnd, out, inn, tieMine, tieYours, X, Y⟩ : Ck) hwf w
  have hMy := fun w => may_any (⟨made, mine, yours, myTsn, yourTsn, peer, loc, peerPort, myPort, rwnd, out, inn, tieMine, tieYours, X, Y⟩ : Ck) w
  have heq := fun w => eql_self (⟨made, mine, yours, myTsn, yourTsn, peer, loc, peerPort, myPort, rwnd, out, inn, tieMine, tieYours, X, Y⟩ : Ck) w
  have hG := fun w S0 A => get_any KK (putS KK (⟨made, mine, yours, myTsn, yourTsn, peer, loc, peerPort, myPort, rwnd, out, inn, tieMine, tieYours, X, Y⟩ : Ck)) now w S0 A (by omega) (Nat.le_trans (putS_size KK (⟨made, mine, yours, myTsn, yourTsn, peer, loc, peerPort, myPort, rwnd, out, inn, tieMine, tieYours, X, Y⟩ : Ck)) (by omega)) hn
  have HPUT := Lib.hid (fun hm : Ck.may (⟨made, mine, yours, myTsn, yourTsn, peer, loc, peerPort, myPort, rwnd, out, inn, tieMine, tieYours, X, Y⟩ : Ck) => get_put (key := KK) hm hwf now)
  have HSEQ := Lib.hid (show putS KK (⟨made, mine, yours, myTsn, yourTsn, peer, loc, peerPort, myPort, rwnd, out, inn, tieMine, tieYours, X, Y⟩ : Ck) = if Ck.may (⟨made, mine, yours, myTsn, yourTsn, peer, loc, peerPort, myPort, rwnd, out, inn, tieMine, tieYours, X, Y⟩ : Ck) then Ck.bytes (⟨made, mine, yours, myTsn, yourTsn, peer, loc, peerPort, myPort, rwnd, out, inn, tieMine, tieYours, X, Y⟩ : Ck) ++ macS KK (Ck.bytes (⟨made, mine, yours, myTsn, yourTsn, peer, loc, peerPort, myPort, rwnd, out, inn, tieMine, tieYours, X, Y⟩ : Ck)) else ByteArray.empty from rfl)
  have HZ := Lib.hid (fun hm : Ck.may (⟨made, mine, yours, myTsn, yourTsn, peer, loc, peerPort, myPort, rwnd, out, inn, tieMine, tieYours, X, Y⟩ : Ck) => (show (Ck.bytes (⟨made, mine, yours, myTsn, yourTsn, peer, loc, peerPort, myPort, rwnd, out, inn, tieMine, tieYours, X, Y⟩ : Ck) ++ macS KK (Ck.bytes (⟨made, mine, yours, myTsn, yourTsn, peer, loc, peerPort, myPort, rwnd, out, inn, tieMine, tieYours, X, Y⟩ : Ck))).size = 104 by rw [ByteArray.size_append, macS_size, bytes_size hm]))
  obtain ⟨S, hS⟩ : ∃ S, putS KK (⟨made, mine, yours, myTsn, yourTsn, peer, loc, peerPort, myPort, rwnd, out, inn, tieMine, tieYours, X, Y⟩ : Ck) = S := ⟨_, rfl⟩
  rw [hS] at hP hRP hG HSEQ
  obtain ⟨BS, hBS⟩ : ∃ S, Ck.bytesS (⟨made, mine, yours, myTsn, yourTsn, peer, loc, peerPort, myPort, rwnd, out, inn, tieMine, tieYours, X, Y⟩ : Ck) = S := ⟨_, rfl⟩
  rw [hBS] at hB hRB
  clear hS hBS
  dsimp only [Ck.cells] at hP hRP hB hRB hMy heq
  have szR : (Tryd.prog.info? 25).map (·.size) = some (#[.int .i64 made, .int .u32 mine, .int .u32 yours, .int .u32 myTsn, .int .u32 yourTsn, .int .u32 peer, .int .u32 loc, .int .i64 peerPort, .int .i64 myPort, .int .u32 rwnd, .int .i64 out, .int .i64 inn, .int .u32 tieMine, .int .u32 tieYours, .string X, .string Y] : Array Value).size := by show _ = some 16; kernel_rfl
  go_wp2_with (refine wpList_load_at rfl 25 _ rfl g 0 rfl #[.int .i64 made, .int .u32 mine, .int .u32 yours, .int .u32 myTsn, .int .u32 yourTsn, .int .u32 peer, .int .u32 loc, .int .i64 peerPort, .int .i64 myPort, .int .u32 rwnd, .int .i64 out, .int .i64 inn, .int .u32 tieMine, .int .u32 tieYours, .string X, .string Y] _ (Cel.of_blk M2) Tryd.underlying25 rfl szR ?_)
  refine hP.mono ?_
  rintro e w3 ⟨rfl, hb3⟩
  have M3 := M2.below hb3 M2.lt
  have bel3 := bel2.trans (hb3.mono bel2.size)
  clear hP M2 bel2 hb3
  go_upto_region 6 with (fail)
  have S3 := HS.out.below bel3
  have A3 := HA.out.below bel3
  have hA := fun d os => awake10 (grow (redrawn w3 d) os) (S3.below (below_regrown w3 d os)) (A3.below (below_regrown w3 d os))
  have hn1 : (S.toList != S.toList) = false := bne_self_eq_false _
  have hn2 : (BS.toList != BS.toList) = false := bne_self_eq_false _
  rw [decide_eq_true hm] at hMy
  have hse : S = Ck.bytes (⟨made, mine, yours, myTsn, yourTsn, peer, loc, peerPort, myPort, rwnd, out, inn, tieMine, tieYours, X, Y⟩ : Ck) ++ macS KK (Ck.bytes (⟨made, mine, yours, myTsn, yourTsn, peer, loc, peerPort, myPort, rwnd, out, inn, tieMine, tieYours, X, Y⟩ : Ck)) := by rw [HSEQ.out, if_pos hm]
  obtain ⟨p1, p2, p3⟩ := HPUT.out hm
  rw [← hse] at p1 p2 p3
  have hsz : S.size = 104 := by rw [hse]; exact HZ.out hm
  have hm0 : 0 ≤ made := hm.1
  have hne : (S.toList == []) = false := by
    rw [beq_eq_false_iff_ne, ByteArray.toList_eq]
    intro e
    have h0 : S.data.toList.length = 0 := by rw [e]; rfl
    have h1 : S.data.toList.length = S.size := by simp
    omega
  have hne' : (S.toList != []) = true := by rw [bne, hne]; rfl
  rw [p1] at hG
  clear hse HSEQ HPUT HZ hm p1
  refine wp_region_quiet_below (by kernel_rfl) (by kernel_rfl) ?_
  repeat (any_goals (first | (refine wpQuiet_load_at (by rfl) 25 _ (by rfl) g 0 (by rfl) #[.int .i64 made, .int .u32 mine, .int .u32 yours, .int .u32 myTsn, .int .u32 yourTsn, .int .u32 peer, .int .u32 loc, .int .i64 peerPort, .int .i64 myPort, .int .u32 rwnd, .int .i64 out, .int .i64 inn, .int .u32 tieMine, .int .u32 tieYours, .string X, .string Y] _ Tryd.underlying25 (by rfl) szR (fun w' hw' => by obtain ⟨p, rfl⟩ := hw'; exact (Cel.of_blk M3).below (below_regrown w3 _ _) M3.lt) ?_) | go_big_quiet_step (((first | (go_at_call 9; exact Calls.regrown_of (hA _ _)) | (go_at_call 10; exact Calls.regrown_of (hRP _)) | (go_at_call 11; exact Calls.regrown_of (hB _)) | (go_at_call 12; exact Calls.regrown_of (hRB _)) | (go_at_call 13; exact Calls.regrown_of (hMy _))))) | quiet_step (((first | (go_at_call 9; exact Calls.regrown_of (hA _ _)) | (go_at_call 10; exact Calls.regrown_of (hRP _)) | (go_at_call 11; exact Calls.regrown_of (hB _)) | (go_at_call 12; exact Calls.regrown_of (hRB _)) | (go_at_call 13; exact Calls.regrown_of (hMy _)))))))
  refine wpQuiet_nil ?_
  intro _ hw'
  obtain ⟨⟨dq, osq⟩, hw''⟩ := hw'
  subst hw''
  have M5 := M3.below (below_regrown w3 dq osq) M3.lt
  have bel5 := bel3.trans ((below_regrown w3 dq osq).mono bel3.size)
  clear M3 bel3 S3 A3 hA hRP hB hRB hMy hn1 hn2
  generalize grow (redrawn w3 dq) osq = w5 at *
  have hG5 := hG w5 (HS.out.below bel5) (HA.out.below bel5)
  clear hG
  dsimp only [Ck.cells] at hG5
  have hlate : lateP (⟨made, mine, yours, myTsn, yourTsn, peer, loc, peerPort, myPort, rwnd, out, inn, tieMine, tieYours, X, Y⟩ : Ck) now ↔ (made < now ∧ 600 < now - made) := Iff.rfl
  have HL := Lib.hid (⟨p2, p3⟩ : getE KK S now = _ ∧ getT KK S now = _)
  have HLT := Lib.hid hlate
  clear p2 p3 hlate hsz
  generalize getE KK S now = E at *
  generalize getT KK S now = L at *
  go_wp2_with fail
  refine hG5.mono ?_
  rintro e w6 ⟨rfl, hb6⟩
  have M6 := M5.below hb6 M5.lt
  have bel6 := bel5.trans (hb6.mono bel5.size)
  clear hG5 M5 bel5 hb6
  go_upto_region 9 with (fail)
  have M7 := M6.alloc (.cells #[.int .i64 made, .int .u32 mine, .int .u32 yours, .int .u32 myTsn, .int .u32 yourTsn, .int .u32 peer, .int .u32 loc, .int .i64 peerPort, .int .i64 myPort, .int .u32 rwnd, .int .i64 out, .int .i64 inn, .int .u32 tieMine, .int .u32 tieYours, .string X, .string Y] 25)
  have U7 := Blk.new w6 25 #[.int .i64 made, .int .u32 mine, .int .u32 yours, .int .u32 myTsn, .int .u32 yourTsn, .int .u32 peer, .int .u32 loc, .int .i64 peerPort, .int .i64 myPort, .int .u32 rwnd, .int .i64 out, .int .i64 inn, .int .u32 tieMine, .int .u32 tieYours, .string X, .string Y]
  have bel7 := bel6.alloc bel6.size (.cells #[.int .i64 made, .int .u32 mine, .int .u32 yours, .int .u32 myTsn, .int .u32 yourTsn, .int .u32 peer, .int .u32 loc, .int .i64 peerPort, .int .i64 myPort, .int .u32 rwnd, .int .i64 out, .int .i64 inn, .int .u32 tieMine, .int .u32 tieYours, .string X, .string Y] 25)
  clear M6 bel6
  generalize w6.alloc (.cells #[.int .i64 made, .int .u32 mine, .int .u32 yours, .int .u32 myTsn, .int .u32 yourTsn, .int .u32 peer, .int .u32 loc, .int .i64 peerPort, .int .i64 myPort, .int .u32 rwnd, .int .i64 out, .int .i64 inn, .int .u32 tieMine, .int .u32 tieYours, .string X, .string Y] 25) = w7 at *
  generalize w6.heap.size = v at *
  have m0 : w7.cell? ⟨g, 0, none⟩ = some (.int .i64 made) := M7.cell 0
  have hl : ¬ (made < now ∧ 600 < now - made) := by omega
  obtain ⟨rfl, rfl⟩ : E = 0 ∧ L = 0 := by
    have h1 := HL.out.1
    have h2 := HL.out.2
    rw [if_neg (fun h => hl (HLT.out.1 h))] at h1 h2
    exact ⟨h1, h2⟩
  clear HL HLT
  have d1 : decide (made < now) = false := decide_eq_false (by omega)
  go_wp2_with (first | (refine wpList_load_at_g (by rfl) 25 _ rfl v 0 rfl #[.int .i64 made, .int .u32 mine, .int .u32 yours, .int .u32 myTsn, .int .u32 yourTsn, .int .u32 peer, .int .u32 loc, .int .i64 peerPort, .int .i64 myPort, .int .u32 rwnd, .int .i64 out, .int .i64 inn, .int .u32 tieMine, .int .u32 tieYours, .string X, .string Y] _ (Cel.of_blk U7) Tryd.underlying25 rfl szR ?_) | (refine wpList_load_at_g (by rfl) 25 _ rfl g 0 rfl #[.int .i64 made, .int .u32 mine, .int .u32 yours, .int .u32 myTsn, .int .u32 yourTsn, .int .u32 peer, .int .u32 loc, .int .i64 peerPort, .int .i64 myPort, .int .u32 rwnd, .int .i64 out, .int .i64 inn, .int .u32 tieMine, .int .u32 tieYours, .string X, .string Y] _ (Cel.of_blk M7) Tryd.underlying25 rfl szR ?_))
  go_ret
  exact ⟨ret_true (by simp), bel7⟩
set_option maxHeartbeats 8000000 in
theorem puts_n2 (key : ByteArray) (c : Ck) (now : Int) (w : World) (S0 : Starts w) (A : Added w) (hk : key.size ≤ maxLen) (g0 : c.wf) (hX : c.X.size ≤ 140737488351232) (hY : c.Y.size ≤ 140737488351232) (hn : now ≤ 9223372036854775807) (hm : (fix c).may) (q : (fix c).made < now) (q2 : ¬ 600 < now - (fix c).made) : Calls Tryd.prog 3 #[.string key, .agg c.cells, .int .i64 now] w fun e w' => e = .returned (.bool true) ∧ Below w.heap.size w w' := by
  have Hhm := Lib.hid hm
  have Hq := Lib.hid q
  have Hq2 := Lib.hid q2
  clear hm q q2
  have hK := fun w => slice_first 100 key w
  simp only [show ((100 : Nat) : Int) = 100 from rfl] at hK
  have lK := firsts_size 100 key
  generalize firsts 100 key = KK at *
  unfold maxLen at hk
  have HS := Lib.hid S0
  have HA := Lib.hid A
  have HG0 := Lib.hid g0
  clear S0 A g0
  have HFX := Lib.hid (show fix c = if 3 < c.X.size then { c with X := rnd c.X, Y := rnd c.Y } else c from rfl)
  generalize fix c = FX at *
  obtain ⟨made, mine, yours, myTsn, yourTsn, peer, loc, peerPort, myPort, rwnd, out, inn, tieMine, tieYours, X, Y⟩ := c
  simp only at hX hY HFX
  dsimp only [Ck.cells]
  have N0 := Blk.new w 25 #[.int .i64 made, .int .u32 mine, .int .u32 yours, .int .u32 myTsn, .int .u32 yourTsn, .int .u32 peer, .int .u32 loc, .int .i64 peerPort, .int .i64 myPort, .int .u32 rwnd, .int .i64 out, .int .i64 inn, .int .u32 tieMine, .int .u32 tieYours, .string X, .string Y]
  have bel0 := (Below.refl w.heap.size w).alloc (Nat.le_refl _) (.cells #[.int .i64 made, .int .u32 mine, .int .u32 yours, .int .u32 myTsn, .int .u32 yourTsn, .int .u32 peer, .int .u32 loc, .int .i64 peerPort, .int .i64 myPort, .int .u32 rwnd, .int .i64 out, .int .i64 inn, .int .u32 tieMine, .int .u32 tieYours, .string X, .string Y] 25)
  go_enter Tryd.func3, Tryd.ntmps3
  go_upto_region 1 with (fail)
  generalize w.alloc (.cells #[.int .i64 made, .int .u32 mine, .int .u32 yours, .int .u32 myTsn, .int .u32 yourTsn, .int .u32 peer, .int .u32 loc, .int .i64 peerPort, .int .i64 myPort, .int .u32 rwnd, .int .i64 out, .int .i64 inn, .int .u32 tieMine, .int .u32 tieYours, .string X, .string Y] 25) = w0 at *
  have x0 : w0.cell? ⟨w.heap.size, 0, none⟩ = some (.int .i64 made) := N0.cell 0
  have x1 : w0.cell? ⟨w.heap.size, 1, none⟩ = some (.int .u32 mine) := N0.cell 1
  have x2 : w0.cell? ⟨w.heap.size, 2, none⟩ = some (.int .u32 yours) := N0.cell 2
  have x3 : w0.cell? ⟨w.heap.size, 3, none⟩ = some (.int .u32 myTsn) := N0.cell 3
  have x4 : w0.cell? ⟨w.heap.size, 4, none⟩ = some (.int .u32 yourTsn) := N0.cell 4
  have x5 : w0.cell? ⟨w.heap.size, 5, none⟩ = some (.int .u32 peer) := N0.cell 5
  have x6 : w0.cell? ⟨w.heap.size, 6, none⟩ = some (.int .u32 loc) := N0.cell 6
  have x7 : w0.cell? ⟨w.heap.size, 7, none⟩ = some (.int .i64 peerPort) := N0.cell 7
  have x8 : w0.cell? ⟨w.heap.size, 8, none⟩ = some (.int .i64 myPort) := N0.cell 8
  have x9 : w0.cell? ⟨w.heap.size, 9, none⟩ = some (.int .u32 rwnd) := N0.cell 9
  have x10 : w0.cell? ⟨w.heap.size, 10, none⟩ = some (.int .i64 out) := N0.cell 10
  have x11 : w0.cell? ⟨w.heap.size, 11, none⟩ = some (.int .i64 inn) := N0.cell 11
  have x12 : w0.cell? ⟨w.heap.size, 12, none⟩ = some (.int .u32 tieMine) := N0.cell 12
  have x13 : w0.cell? ⟨w.heap.size, 13, none⟩ = some (.int .u32 tieYours) := N0.cell 13
  have x14 : w0.cell? ⟨w.heap.size, 14, none⟩ = some (.string X) := N0.cell 14
  have x15 : w0.cell? ⟨w.heap.size, 15, none⟩ = some (.string Y) := N0.cell 15
  go_upto_region 3 with (fail)
  have N1 := N0.alloc (.cells #[.int .i64 made, .int .u32 mine, .int .u32 yours, .int .u32 myTsn, .int .u32 yourTsn, .int .u32 peer, .int .u32 loc, .int .i64 peerPort, .int .i64 myPort, .int .u32 rwnd, .int .i64 out, .int .i64 inn, .int .u32 tieMine, .int .u32 tieYours, .string X, .string Y] 25)
  have M1 := Blk.new w0 25 #[.int .i64 made, .int .u32 mine, .int .u32 yours, .int .u32 myTsn, .int .u32 yourTsn, .int .u32 peer, .int .u32 loc, .int .i64 peerPort, .int .i64 myPort, .int .u32 rwnd, .int .i64 out, .int .i64 inn, .int .u32 tieMine, .int .u32 tieYours, .string X, .string Y]
  have bel1 := bel0.alloc bel0.size (.cells #[.int .i64 made, .int .u32 mine, .int .u32 yours, .int .u32 myTsn, .int .u32 yourTsn, .int .u32 peer, .int .u32 loc, .int .i64 peerPort, .int .i64 myPort, .int .u32 rwnd, .int .i64 out, .int .i64 inn, .int .u32 tieMine, .int .u32 tieYours, .string X, .string Y] 25)
  have hwg : w.heap.size < w0.heap.size := N0.lt
  clear N0 bel0 x0 x1 x2 x3 x4 x5 x6 x7 x8 x9 x10 x11 x12 x13 x14 x15
  generalize w0.alloc (.cells #[.int .i64 made, .int .u32 mine, .int .u32 yours, .int .u32 myTsn, .int .u32 yourTsn, .int .u32 peer, .int .u32 loc, .int .i64 peerPort, .int .i64 myPort, .int .u32 rwnd, .int .i64 out, .int .i64 inn, .int .u32 tieMine, .int .u32 tieYours, .string X, .string Y] 25) = w1 at *
  generalize w0.heap.size = g at *
  have x14 : w1.cell? ⟨w.heap.size, 14, none⟩ = some (.string X) := N1.cell 14
  have x15 : w1.cell? ⟨w.heap.size, 15, none⟩ = some (.string Y) := N1.cell 15
  have m14 : w1.cell? ⟨g, 14, none⟩ = some (.string X) := M1.cell 14
  have m15 : w1.cell? ⟨g, 15, none⟩ = some (.string Y) := M1.cell 15
  have f14 : w1.frozen? ⟨g, 14, none⟩ = false := M1.frozen 14
  have f15 : w1.frozen? ⟨g, 15, none⟩ = false := M1.frozen 15
  go_upto_if 22 with (fail)
  go_cut [29] (fun _ wx => ∃ X' Y' : ByteArray, FX = (⟨made, mine, yours, myTsn, yourTsn, peer, loc, peerPort, myPort, rwnd, out, inn, tieMine, tieYours, X', Y'⟩ : Ck) ∧ (⟨made, mine, yours, myTsn, yourTsn, peer, loc, peerPort, myPort, rwnd, out, inn, tieMine, tieYours, X', Y'⟩ : Ck).wf ∧ Blk wx g 25 #[.int .i64 made, .int .u32 mine, .int .u32 yours, .int .u32 myTsn, .int .u32 yourTsn, .int .u32 peer, .int .u32 loc, .int .i64 peerPort, .int .i64 myPort, .int .u32 rwnd, .int .i64 out, .int .i64 inn, .int .u32 tieMine, .int .u32 tieYours, .string X', .string Y'] ∧ Below w.heap.size w wx)
  case first =>
    by_cases h3 : 3 < X.size
    · have hd : decide (3 < (X.size : Int)) = true := decide_eq_true (by omega)
      have r1 := fun w => rnd_any X w hX
      have r2 := fun w => rnd_any Y w hY
      have HW := Lib.hid (wf_rnd (X' := rnd X) (Y' := rnd Y) HG0.out (by rw [rnd_size]; decide) (by rw [rnd_size]; decide))
      have HF2 := Lib.hid (show FX = (⟨made, mine, yours, myTsn, yourTsn, peer, loc, peerPort, myPort, rwnd, out, inn, tieMine, tieYours, (rnd X), (rnd Y)⟩ : Ck) by rw [HFX.out, if_pos h3])
      generalize rnd X = X2 at *
      generalize rnd Y = Y2 at *
      go_upto_region 4 with (fail)
      go_region_with (go_at_call 7; first | ((with_reducible refine (r1 _).mono ?_); rintro e wz ⟨rfl, rfl⟩) | ((with_reducible refine (r2 _).mono ?_); rintro e wz ⟨rfl, rfl⟩))
      all_goals
        have MA : Blk (w1.setCell ⟨g, 14, none⟩ (.string X2)) g 25 #[.int .i64 made, .int .u32 mine, .int .u32 yours, .int .u32 myTsn, .int .u32 yourTsn, .int .u32 peer, .int .u32 loc, .int .i64 peerPort, .int .i64 myPort, .int .u32 rwnd, .int .i64 out, .int .i64 inn, .int .u32 tieMine, .int .u32 tieYours, .string X2, .string Y] := M1.set_ 14 _
        have MB : Blk ((w1.setCell ⟨g, 14, none⟩ (.string X2)).setCell ⟨g, 15, none⟩ (.string Y2)) g 25 #[.int .i64 made, .int .u32 mine, .int .u32 yours, .int .u32 myTsn, .int .u32 yourTsn, .int .u32 peer, .int .u32 loc, .int .i64 peerPort, .int .i64 myPort, .int .u32 rwnd, .int .i64 out, .int .i64 inn, .int .u32 tieMine, .int .u32 tieYours, .string X2, .string Y2] := MA.set_ 15 _
        have bb := ((bel1.setCell (p := ⟨g, 14, none⟩) (by show w.heap.size ≤ g; omega) (.string X2)).setCell (p := ⟨g, 15, none⟩) (by show w.heap.size ≤ g; omega) (.string Y2)).drew
        go_wp2_with fail
        go_meet
        exact ⟨X2, Y2, HF2.out, HW.out, MB.drew, bb⟩
    · have hd : decide (3 < (X.size : Int)) = false := decide_eq_false (by omega)
      go_wp2_with fail
      go_meet
      exact ⟨X, Y, by rw [HFX.out, if_neg h3], HG0.out, M1, bel1⟩
  case rest =>
  clear HFX HG0 hX hY hK N1 M1 bel1 x14 x15 m14 m15 f14 f15
  revert X Y
  intro Xo Yo
  obtain ⟨X, Y, rfl, hwf, M2, bel2⟩ := hcut
  have hm := Hhm.out
  have q := Hq.out
  have q2 := Hq2.out
  clear Hhm Hq Hq2
  dsimp only at q q2
  have hP := put_all KK (⟨made, mine, yours, myTsn, yourTsn, peer, loc, peerPort, myPort, rwnd, out, inn, tieMine, tieYours, X, Y⟩ : Ck) hwf wc (HS.out.below bel2) (HA.out.below bel2) (by omega)
  have hRP := fun w => rput_all KK (⟨made, mine, yours, myTsn, yourTsn, peer, loc, peerPort, myPort, rwnd, out, inn, tieMine, tieYours, X, Y⟩ : Ck) hwf w (by omega)
  have hB := fun w => bytes_all (⟨made, mine, yours, myTsn, yourTsn, peer, loc, peerPort, myPort, rwnd, out, inn, tieMine, tieYours, X, Y⟩ : Ck) hwf w
  have hRB := fun w => rbytes_all (⟨made, mine, yours, myTsn, yourTsn, peer, loc, peerPort, myPort, rwnd, out, inn, tieMine, tieYours, X, Y⟩ : Ck) hwf w
  have hMy := fun w => may_any (⟨made, mine, yours, myTsn, yourTsn, peer, loc, peerPort, myPort, rwnd, out, inn, tieMine, tieYours, X, Y⟩ : Ck) w
  have heq := fun w => eql_self (⟨made, mine, yours, myTsn, yourTsn, peer, loc, peerPort, myPort, rwnd, out, inn, tieMine, tieYours, X, Y⟩ : Ck) w
  have hG := fun w S0 A => get_any KK (putS KK (⟨made, mine, yours, myTsn, yourTsn, peer, loc, peerPort, myPort, rwnd, out, inn, tieMine, tieYours, X, Y⟩ : Ck)) now w S0 A (by omega) (Nat.le_trans (putS_size KK (⟨made, mine, yours, myTsn, yourTsn, peer, loc, peerPort, myPort, rwnd, out, inn, tieMine, tieYours, X, Y⟩ : Ck)) (by omega)) hn
  have HPUT := Lib.hid (fun hm : Ck.may (⟨made, mine, yours, myTsn, yourTsn, peer, loc, peerPort, myPort, rwnd, out, inn, tieMine, tieYours, X, Y⟩ : Ck) => get_put (key := KK) hm hwf now)
  have HSEQ := Lib.hid (show putS KK (⟨made, mine, yours, myTsn, yourTsn, peer, loc, peerPort, myPort, rwnd, out, inn, tieMine, tieYours, X, Y⟩ : Ck) = if Ck.may (⟨made, mine, yours, myTsn, yourTsn, peer, loc, peerPort, myPort, rwnd, out, inn, tieMine, tieYours, X, Y⟩ : Ck) then Ck.bytes (⟨made, mine, yours, myTsn, yourTsn, peer, loc, peerPort, myPort, rwnd, out, inn, tieMine, tieYours, X, Y⟩ : Ck) ++ macS KK (Ck.bytes (⟨made, mine, yours, myTsn, yourTsn, peer, loc, peerPort, myPort, rwnd, out, inn, tieMine, tieYours, X, Y⟩ : Ck)) else ByteArray.empty from rfl)
  have HZ := Lib.hid (fun hm : Ck.may (⟨made, mine, yours, myTsn, yourTsn, peer, loc, peerPort, myPort, rwnd, out, inn, tieMine, tieYours, X, Y⟩ : Ck) => (show (Ck.bytes (⟨made, mine, yours, myTsn, yourTsn, peer, loc, peerPort, myPort, rwnd, out, inn, tieMine, tieYours, X, Y⟩ : Ck) ++ macS KK (Ck.bytes (⟨made, mine, yours, myTsn, yourTsn, peer, loc, peerPort, myPort, rwnd, out, inn, tieMine, tieYours, X, Y⟩ : Ck))).size = 104 by rw [ByteArray.size_append, macS_size, bytes_size hm]))
  obtain ⟨S, hS⟩ : ∃ S, putS KK (⟨made, mine, yours, myTsn, yourTsn, peer, loc, peerPort, myPort, rwnd, out, inn, tieMine, tieYours, X, Y⟩ : Ck) = S := ⟨_, rfl⟩
  rw [hS] at hP hRP hG HSEQ
  obtain ⟨BS, hBS⟩ : ∃ S, Ck.bytesS (⟨made, mine, yours, myTsn, yourTsn, peer, loc, peerPort, myPort, rwnd, out, inn, tieMine, tieYours, X, Y⟩ : Ck) = S := ⟨_, rfl⟩
  rw [hBS] at hB hRB
  clear hS hBS
  dsimp only [Ck.cells] at hP hRP hB hRB hMy heq
  have szR : (Tryd.prog.info? 25).map (·.size) = some (#[.int .i64 made, .int .u32 mine, .int .u32 yours, .int .u32 myTsn, .int .u32 yourTsn, .int .u32 peer, .int .u32 loc, .int .i64 peerPort, .int .i64 myPort, .int .u32 rwnd, .int .i64 out, .int .i64 inn, .int .u32 tieMine, .int .u32 tieYours, .string X, .string Y] : Array Value).size := by show _ = some 16; kernel_rfl
  go_wp2_with (refine wpList_load_at rfl 25 _ rfl g 0 rfl #[.int .i64 made, .int .u32 mine, .int .u32 yours, .int .u32 myTsn, .int .u32 yourTsn, .int .u32 peer, .int .u32 loc, .int .i64 peerPort, .int .i64 myPort, .int .u32 rwnd, .int .i64 out, .int .i64 inn, .int .u32 tieMine, .int .u32 tieYours, .string X, .string Y] _ (Cel.of_blk M2) Tryd.underlying25 rfl szR ?_)
  refine hP.mono ?_
  rintro e w3 ⟨rfl, hb3⟩
  have M3 := M2.below hb3 M2.lt
  have bel3 := bel2.trans (hb3.mono bel2.size)
  clear hP M2 bel2 hb3
  go_upto_region 6 with (fail)
  have S3 := HS.out.below bel3
  have A3 := HA.out.below bel3
  have hA := fun d os => awake10 (grow (redrawn w3 d) os) (S3.below (below_regrown w3 d os)) (A3.below (below_regrown w3 d os))
  have hn1 : (S.toList != S.toList) = false := bne_self_eq_false _
  have hn2 : (BS.toList != BS.toList) = false := bne_self_eq_false _
  rw [decide_eq_true hm] at hMy
  have hse : S = Ck.bytes (⟨made, mine, yours, myTsn, yourTsn, peer, loc, peerPort, myPort, rwnd, out, inn, tieMine, tieYours, X, Y⟩ : Ck) ++ macS KK (Ck.bytes (⟨made, mine, yours, myTsn, yourTsn, peer, loc, peerPort, myPort, rwnd, out, inn, tieMine, tieYours, X, Y⟩ : Ck)) := by rw [HSEQ.out, if_pos hm]
  obtain ⟨p1, p2, p3⟩ := HPUT.out hm
  rw [← hse] at p1 p2 p3
  have hsz : S.size = 104 := by rw [hse]; exact HZ.out hm
  have hm0 : 0 ≤ made := hm.1
  have hne : (S.toList == []) = false := by
    rw [beq_eq_false_iff_ne, ByteArray.toList_eq]
    intro e
    have h0 : S.data.toList.length = 0 := by rw [e]; rfl
    have h1 : S.data.toList.length = S.size := by simp
    omega
  have hne' : (S.toList != []) = true := by rw [bne, hne]; rfl
  rw [p1] at hG
  clear hse HSEQ HPUT HZ hm p1
  refine wp_region_quiet_below (by kernel_rfl) (by kernel_rfl) ?_
  repeat (any_goals (first | (refine wpQuiet_load_at (by rfl) 25 _ (by rfl) g 0 (by rfl) #[.int .i64 made, .int .u32 mine, .int .u32 yours, .int .u32 myTsn, .int .u32 yourTsn, .int .u32 peer, .int .u32 loc, .int .i64 peerPort, .int .i64 myPort, .int .u32 rwnd, .int .i64 out, .int .i64 inn, .int .u32 tieMine, .int .u32 tieYours, .string X, .string Y] _ Tryd.underlying25 (by rfl) szR (fun w' hw' => by obtain ⟨p, rfl⟩ := hw'; exact (Cel.of_blk M3).below (below_regrown w3 _ _) M3.lt) ?_) | go_big_quiet_step (((first | (go_at_call 9; exact Calls.regrown_of (hA _ _)) | (go_at_call 10; exact Calls.regrown_of (hRP _)) | (go_at_call 11; exact Calls.regrown_of (hB _)) | (go_at_call 12; exact Calls.regrown_of (hRB _)) | (go_at_call 13; exact Calls.regrown_of (hMy _))))) | quiet_step (((first | (go_at_call 9; exact Calls.regrown_of (hA _ _)) | (go_at_call 10; exact Calls.regrown_of (hRP _)) | (go_at_call 11; exact Calls.regrown_of (hB _)) | (go_at_call 12; exact Calls.regrown_of (hRB _)) | (go_at_call 13; exact Calls.regrown_of (hMy _)))))))
  refine wpQuiet_nil ?_
  intro _ hw'
  obtain ⟨⟨dq, osq⟩, hw''⟩ := hw'
  subst hw''
  have M5 := M3.below (below_regrown w3 dq osq) M3.lt
  have bel5 := bel3.trans ((below_regrown w3 dq osq).mono bel3.size)
  clear M3 bel3 S3 A3 hA hRP hB hRB hMy hn1 hn2
  generalize grow (redrawn w3 dq) osq = w5 at *
  have hG5 := hG w5 (HS.out.below bel5) (HA.out.below bel5)
  clear hG
  dsimp only [Ck.cells] at hG5
  have hlate : lateP (⟨made, mine, yours, myTsn, yourTsn, peer, loc, peerPort, myPort, rwnd, out, inn, tieMine, tieYours, X, Y⟩ : Ck) now ↔ (made < now ∧ 600 < now - made) := Iff.rfl
  have HL := Lib.hid (⟨p2, p3⟩ : getE KK S now = _ ∧ getT KK S now = _)
  have HLT := Lib.hid hlate
  clear p2 p3 hlate hsz
  generalize getE KK S now = E at *
  generalize getT KK S now = L at *
  go_wp2_with fail
  refine hG5.mono ?_
  rintro e w6 ⟨rfl, hb6⟩
  have M6 := M5.below hb6 M5.lt
  have bel6 := bel5.trans (hb6.mono bel5.size)
  clear hG5 M5 bel5 hb6
  go_upto_region 9 with (fail)
  have M7 := M6.alloc (.cells #[.int .i64 made, .int .u32 mine, .int .u32 yours, .int .u32 myTsn, .int .u32 yourTsn, .int .u32 peer, .int .u32 loc, .int .i64 peerPort, .int .i64 myPort, .int .u32 rwnd, .int .i64 out, .int .i64 inn, .int .u32 tieMine, .int .u32 tieYours, .string X, .string Y] 25)
  have U7 := Blk.new w6 25 #[.int .i64 made, .int .u32 mine, .int .u32 yours, .int .u32 myTsn, .int .u32 yourTsn, .int .u32 peer, .int .u32 loc, .int .i64 peerPort, .int .i64 myPort, .int .u32 rwnd, .int .i64 out, .int .i64 inn, .int .u32 tieMine, .int .u32 tieYours, .string X, .string Y]
  have bel7 := bel6.alloc bel6.size (.cells #[.int .i64 made, .int .u32 mine, .int .u32 yours, .int .u32 myTsn, .int .u32 yourTsn, .int .u32 peer, .int .u32 loc, .int .i64 peerPort, .int .i64 myPort, .int .u32 rwnd, .int .i64 out, .int .i64 inn, .int .u32 tieMine, .int .u32 tieYours, .string X, .string Y] 25)
  clear M6 bel6
  generalize w6.alloc (.cells #[.int .i64 made, .int .u32 mine, .int .u32 yours, .int .u32 myTsn, .int .u32 yourTsn, .int .u32 peer, .int .u32 loc, .int .i64 peerPort, .int .i64 myPort, .int .u32 rwnd, .int .i64 out, .int .i64 inn, .int .u32 tieMine, .int .u32 tieYours, .string X, .string Y] 25) = w7 at *
  generalize w6.heap.size = v at *
  have m0 : w7.cell? ⟨g, 0, none⟩ = some (.int .i64 made) := M7.cell 0
  have hl : ¬ (made < now ∧ 600 < now - made) := by omega
  obtain ⟨rfl, rfl⟩ : E = 0 ∧ L = 0 := by
    have h1 := HL.out.1
    have h2 := HL.out.2
    rw [if_neg (fun h => hl (HLT.out.1 h))] at h1 h2
    exact ⟨h1, h2⟩
  clear HL HLT
  have d1 : decide (made < now) = true := decide_eq_true (by omega)
  have d2 : decide (600 < now - made) = false := decide_eq_false (by omega)
  go_wp2_with (first | (refine wpList_load_at_g (by rfl) 25 _ rfl v 0 rfl #[.int .i64 made, .int .u32 mine, .int .u32 yours, .int .u32 myTsn, .int .u32 yourTsn, .int .u32 peer, .int .u32 loc, .int .i64 peerPort, .int .i64 myPort, .int .u32 rwnd, .int .i64 out, .int .i64 inn, .int .u32 tieMine, .int .u32 tieYours, .string X, .string Y] _ (Cel.of_blk U7) Tryd.underlying25 rfl szR ?_) | (refine wpList_load_at_g (by rfl) 25 _ rfl g 0 rfl #[.int .i64 made, .int .u32 mine, .int .u32 yours, .int .u32 myTsn, .int .u32 yourTsn, .int .u32 peer, .int .u32 loc, .int .i64 peerPort, .int .i64 myPort, .int .u32 rwnd, .int .i64 out, .int .i64 inn, .int .u32 tieMine, .int .u32 tieYours, .string X, .string Y] _ (Cel.of_blk M7) Tryd.underlying25 rfl szR ?_))
  go_ret
  exact ⟨ret_true (by simp), bel7⟩
theorem puts_law (key : ByteArray) (c : Ck) (now : Int) (w : World) (S0 : Starts w) (A : Added w) (hk : key.size ≤ maxLen) (g0 : c.wf) (hX : c.X.size ≤ 140737488351232) (hY : c.Y.size ≤ 140737488351232) (hn : now ≤ 9223372036854775807) : Calls Tryd.prog 3 #[.string key, .agg c.cells, .int .i64 now] w fun e w' => e = .returned (.bool true) ∧ Below w.heap.size w w' := by
  by_cases hm : (fix c).may
  · by_cases q : (fix c).made < now
    · by_cases q2 : 600 < now - (fix c).made
      · exact puts_late key c now w S0 A hk g0 hX hY hn hm ⟨q, q2⟩
      · exact puts_n2 key c now w S0 A hk g0 hX hY hn hm q q2
    · exact puts_n1 key c now w S0 A hk g0 hX hY hn hm q
  · exact puts_no key c now w S0 A hk g0 hX hY hn hm
end Go.Proofs.YtbdbcjhahlofiaaDoor.coo
