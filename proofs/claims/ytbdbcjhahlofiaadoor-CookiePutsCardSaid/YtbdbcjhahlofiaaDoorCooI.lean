/- Layer 10: a cookie of whose seal one byte is another one is not got. -/
import Derived.Test.YtbdbcjhahlofiaaDoorCooJ
namespace Go.Proofs.YtbdbcjhahlofiaaDoor.coo
open Go.Sort (grow)
open Go.ChangeShapes Go.WideShapes Go.ChangeAt Go.RowKit kit oct byt
open dig (Starts Added)
open mac (macS macS_size mac_any refmac_any is_any firsts firsts_size slice_first str str_data str_len changed xor8)
set_option maxRecDepth 100000

theorem bent_put {B M : ByteArray} (hB : B.size = 84) (k : Nat) (y : UInt8) : str ((B ++ M).data.toList.set (84 + k) y) = B ++ str (M.data.toList.set k y) := by
  apply ByteArray.ext
  apply Array.toList_inj.1
  rw [str_data, ByteArray.data_append, Array.toList_append, ByteArray.data_append, Array.toList_append, str_data]
  have hl : B.data.toList.length = 84 := by simpa using hB
  rw [List.set_append_right _ _ (by omega), hl, Nat.add_sub_cancel_left]
/-- A bent seal is told from the right one. -/
theorem bent_get {key : ByteArray} {c : Ck} (h : c.may) (g : c.wf) (k : Nat) (hk : k < (macS key c.bytes).data.toList.length) (b : UInt8) : getE key (str ((c.bytes ++ macS key c.bytes).data.toList.set (84 + k) ((macS key c.bytes).data.toList[k] ^^^ b))) 0 = if b = 0 then 0 else 100 := by
  have hb := bytes_size h
  have hm := macS_size key c.bytes
  rw [bent_put hb]
  have hch := changed (macS key c.bytes) k _ b hk rfl
  have hml : (macS key c.bytes).data.toList.length = 20 := by simpa using hm
  have hms : (str ((macS key c.bytes).data.toList.set k ((macS key c.bytes).data.toList[k] ^^^ b))).size = 20 := by rw [str_len, List.length_set, hml]
  obtain ⟨e1, e2⟩ := body_put (b := c.bytes) hms
  have hz : (c.bytes ++ str ((macS key c.bytes).data.toList.set k ((macS key c.bytes).data.toList[k] ^^^ b))).size = 104 := by rw [ByteArray.size_append, hms, hb]
  have hl : ¬ lateP (readC c.bytes) 0 := by
    rw [readC_bytes h g]
    rintro ⟨q, _⟩
    have := h.1
    omega
  unfold getE
  rw [e1, e2, if_neg (by omega)]
  by_cases h0 : b = 0
  · rw [if_pos h0]
    have : decide (str ((macS key c.bytes).data.toList.set k ((macS key c.bytes).data.toList[k] ^^^ b)) = macS key c.bytes) = true := by rw [hch, h0]; rfl
    rw [if_pos (of_decide_eq_true this), if_pos (okR_bytes h g), if_neg hl]
  · rw [if_neg h0]
    have : decide (str ((macS key c.bytes).data.toList.set k ((macS key c.bytes).data.toList[k] ^^^ b)) = macS key c.bytes) = false := by
      rw [hch, beq_eq_false_iff_ne]
      intro q
      exact h0 (UInt8.toNat_inj.1 (by simpa using Int.ofNat.inj q))
    rw [if_neg (of_decide_eq_false this)]
/-- A cookie with other bytes that were drawn. -/
def fixB (c : Ck) : Ck := { c with X := rnd c.X, Y := rnd c.Y }
set_option maxHeartbeats 8000000 in
theorem bent_no (key : ByteArray) (c : Ck) (a b : UInt8) (w : World) (S0 : Starts w) (A : Added w) (hk : key.size ≤ maxLen) (g0 : c.wf) (hX : c.X.size ≤ 140737488351232) (hY : c.Y.size ≤ 140737488351232) (hm : ¬ (fixB c).may) : Calls Tryd.prog 5 #[.string key, .agg c.cells, .agg #[.int .u8 (a.toNat : Int), .int .u8 (b.toNat : Int)]] w fun e w' => e = .returned (.bool true) ∧ Below w.heap.size w w' := by
  have hK := fun w => slice_first 70 key w
  simp only [show ((70 : Nat) : Int) = 70 from rfl] at hK
  have lK := firsts_size 70 key
  generalize firsts 70 key = KK at *
  unfold maxLen at hk
  have HS := Lib.hid S0
  have HA := Lib.hid A
  have HG0 := Lib.hid g0
  clear S0 A g0
  have HFX := Lib.hid (show fixB c = { c with X := rnd c.X, Y := rnd c.Y } from rfl)
  generalize fixB c = FX at *
  have HM := Lib.hid hm
  clear hm
  obtain ⟨made, mine, yours, myTsn, yourTsn, peer, loc, peerPort, myPort, rwnd, out, inn, tieMine, tieYours, X, Y⟩ := c
  simp only at hX hY HFX
  dsimp only [Ck.cells]
  have N0 : Blk ((w.alloc (.cells #[.int .i64 made, .int .u32 mine, .int .u32 yours, .int .u32 myTsn, .int .u32 yourTsn, .int .u32 peer, .int .u32 loc, .int .i64 peerPort, .int .i64 myPort, .int .u32 rwnd, .int .i64 out, .int .i64 inn, .int .u32 tieMine, .int .u32 tieYours, .string X, .string Y] 25)).alloc (.cells #[.int .u8 (a.toNat : Int), .int .u8 (b.toNat : Int)] 37)) w.heap.size 25 #[.int .i64 made, .int .u32 mine, .int .u32 yours, .int .u32 myTsn, .int .u32 yourTsn, .int .u32 peer, .int .u32 loc, .int .i64 peerPort, .int .i64 myPort, .int .u32 rwnd, .int .i64 out, .int .i64 inn, .int .u32 tieMine, .int .u32 tieYours, .string X, .string Y] := (Blk.new w _ _).alloc _
  have R0 : Blk ((w.alloc (.cells #[.int .i64 made, .int .u32 mine, .int .u32 yours, .int .u32 myTsn, .int .u32 yourTsn, .int .u32 peer, .int .u32 loc, .int .i64 peerPort, .int .i64 myPort, .int .u32 rwnd, .int .i64 out, .int .i64 inn, .int .u32 tieMine, .int .u32 tieYours, .string X, .string Y] 25)).alloc (.cells #[.int .u8 (a.toNat : Int), .int .u8 (b.toNat : Int)] 37)) (w.heap.size + 1) 37 #[.int .u8 (a.toNat : Int), .int .u8 (b.toNat : Int)] := blk_new2 _ _ _ _
  have bel0 := ((Below.refl w.heap.size w).alloc (Nat.le_refl _) (.cells #[.int .i64 made, .int .u32 mine, .int .u32 yours, .int .u32 myTsn, .int .u32 yourTsn, .int .u32 peer, .int .u32 loc, .int .i64 peerPort, .int .i64 myPort, .int .u32 rwnd, .int .i64 out, .int .i64 inn, .int .u32 tieMine, .int .u32 tieYours, .string X, .string Y] 25)).alloc (by simp) (.cells #[.int .u8 (a.toNat : Int), .int .u8 (b.toNat : Int)] 37)
  go_enter Tryd.func5, Tryd.ntmps5
  go_upto_region 1 with (fail)
  generalize (w.alloc (.cells #[.int .i64 made, .int .u32 mine, .int .u32 yours, .int .u32 myTsn, .int .u32 yourTsn, .int .u32 peer, .int .u32 loc, .int .i64 peerPort, .int .i64 myPort, .int .u32 rwnd, .int .i64 out, .int .i64 inn, .int .u32 tieMine, .int .u32 tieYours, .string X, .string Y] 25)).alloc (.cells #[.int .u8 (a.toNat : Int), .int .u8 (b.toNat : Int)] 37) = w0 at *
  have x0 : w0.cell? ⟨w.heap.size, 0, none⟩ = some (.int .i64 made) := N0.cell 0
  have x1 : w0.cell? ⟨w.heap.size, 1, none⟩ = some (.int .u32 mine) := N0.cell 1
  have x2 : w0.cell? ⟨w.heap.size, 2, none⟩ = some (.int .u32 yours) := N0.cell 2
  have x3 : w0.cell? ⟨w.heap.size, 3, none⟩ = some (.int .u32 myTsn) := N0.cell 3
  have x4 : w0.cell? ⟨w.heap.size, 4, none⟩ = some (.int .u32 yourTsn) := N0.cell 4
  have x5 : w0.cell? ⟨w.heap.size, 5, none⟩ = some (.int .u32 peer) := N0.cell 5
  have x6 : w0.cell? ⟨w.heap.size, 6, none⟩ = some (.int .u32 loc) := N0.cell 6
  have x7 : w0.cell? ⟨w.heap.size, 7, none⟩ = some (.int .i64 peerPort) := N0.cell 7
  have x8 : w0.cell? ⟨w.heap.size, 8, none⟩ = some (.int .i64 myPort) := N0.cell 8
  have x9 : w0.cell? ⟨w.heap.size, 9, none⟩ = some (.int .u32 rwnd) := N0.cell 9
  have x10 : w0.cell? ⟨w.heap.size, 10, none⟩ = some (.int .i64 out) := N0.cell 10
  have x11 : w0.cell? ⟨w.heap.size, 11, none⟩ = some (.int .i64 inn) := N0.cell 11
  have x12 : w0.cell? ⟨w.heap.size, 12, none⟩ = some (.int .u32 tieMine) := N0.cell 12
  have x13 : w0.cell? ⟨w.heap.size, 13, none⟩ = some (.int .u32 tieYours) := N0.cell 13
  have x14 : w0.cell? ⟨w.heap.size, 14, none⟩ = some (.string X) := N0.cell 14
  have x15 : w0.cell? ⟨w.heap.size, 15, none⟩ = some (.string Y) := N0.cell 15
  have hwl := N0.lt
  go_region
  have N1 : Blk (w0.alloc (.cells #[.int .i64 made, .int .u32 mine, .int .u32 yours, .int .u32 myTsn, .int .u32 yourTsn, .int .u32 peer, .int .u32 loc, .int .i64 peerPort, .int .i64 myPort, .int .u32 rwnd, .int .i64 out, .int .i64 inn, .int .u32 tieMine, .int .u32 tieYours, .string X, .string Y] 25)).drew w.heap.size 25 #[.int .i64 made, .int .u32 mine, .int .u32 yours, .int .u32 myTsn, .int .u32 yourTsn, .int .u32 peer, .int .u32 loc, .int .i64 peerPort, .int .i64 myPort, .int .u32 rwnd, .int .i64 out, .int .i64 inn, .int .u32 tieMine, .int .u32 tieYours, .string X, .string Y] := (N0.alloc _).drew
  have R1 : Blk (w0.alloc (.cells #[.int .i64 made, .int .u32 mine, .int .u32 yours, .int .u32 myTsn, .int .u32 yourTsn, .int .u32 peer, .int .u32 loc, .int .i64 peerPort, .int .i64 myPort, .int .u32 rwnd, .int .i64 out, .int .i64 inn, .int .u32 tieMine, .int .u32 tieYours, .string X, .string Y] 25)).drew (w.heap.size + 1) 37 #[.int .u8 (a.toNat : Int), .int .u8 (b.toNat : Int)] := (R0.alloc _).drew
  have M1 : Blk (w0.alloc (.cells #[.int .i64 made, .int .u32 mine, .int .u32 yours, .int .u32 myTsn, .int .u32 yourTsn, .int .u32 peer, .int .u32 loc, .int .i64 peerPort, .int .i64 myPort, .int .u32 rwnd, .int .i64 out, .int .i64 inn, .int .u32 tieMine, .int .u32 tieYours, .string X, .string Y] 25)).drew w0.heap.size 25 #[.int .i64 made, .int .u32 mine, .int .u32 yours, .int .u32 myTsn, .int .u32 yourTsn, .int .u32 peer, .int .u32 loc, .int .i64 peerPort, .int .i64 myPort, .int .u32 rwnd, .int .i64 out, .int .i64 inn, .int .u32 tieMine, .int .u32 tieYours, .string X, .string Y] := (Blk.new w0 _ _).drew
  have bel1 := (bel0.alloc bel0.size (.cells #[.int .i64 made, .int .u32 mine, .int .u32 yours, .int .u32 myTsn, .int .u32 yourTsn, .int .u32 peer, .int .u32 loc, .int .i64 peerPort, .int .i64 myPort, .int .u32 rwnd, .int .i64 out, .int .i64 inn, .int .u32 tieMine, .int .u32 tieYours, .string X, .string Y] 25)).drew
  have hrg : w.heap.size + 1 < w0.heap.size := R0.lt
  clear N0 R0 bel0 hwl x0 x1 x2 x3 x4 x5 x6 x7 x8 x9 x10 x11 x12 x13 x14 x15
  generalize (w0.alloc (.cells #[.int .i64 made, .int .u32 mine, .int .u32 yours, .int .u32 myTsn, .int .u32 yourTsn, .int .u32 peer, .int .u32 loc, .int .i64 peerPort, .int .i64 myPort, .int .u32 rwnd, .int .i64 out, .int .i64 inn, .int .u32 tieMine, .int .u32 tieYours, .string X, .string Y] 25)).drew = w1 at *
  generalize w0.heap.size = g at *
  have hwg : w.heap.size < g := by omega
  have x14 : w1.cell? ⟨w.heap.size, 14, none⟩ = some (.string X) := N1.cell 14
  have x15 : w1.cell? ⟨w.heap.size, 15, none⟩ = some (.string Y) := N1.cell 15
  have m14 : w1.cell? ⟨g, 14, none⟩ = some (.string X) := M1.cell 14
  have m15 : w1.cell? ⟨g, 15, none⟩ = some (.string Y) := M1.cell 15
  have f14 : w1.frozen? ⟨g, 14, none⟩ = false := M1.frozen 14
  have f15 : w1.frozen? ⟨g, 15, none⟩ = false := M1.frozen 15
  have r1 := fun w => rnd_any X w hX
  have r2 := fun w => rnd_any Y w hY
  have HW := Lib.hid (wf_rnd (X' := rnd X) (Y' := rnd Y) HG0.out (by rw [rnd_size]; decide) (by rw [rnd_size]; decide))
  generalize rnd X = X2 at *
  generalize rnd Y = Y2 at *
  go_upto_region 2 with (fail)
  go_cut [25] (fun _ wx => Blk wx g 25 #[.int .i64 made, .int .u32 mine, .int .u32 yours, .int .u32 myTsn, .int .u32 yourTsn, .int .u32 peer, .int .u32 loc, .int .i64 peerPort, .int .i64 myPort, .int .u32 rwnd, .int .i64 out, .int .i64 inn, .int .u32 tieMine, .int .u32 tieYours, .string X2, .string Y2] ∧ Blk wx (w.heap.size + 1) 37 #[.int .u8 (a.toNat : Int), .int .u8 (b.toNat : Int)] ∧ Below w.heap.size w wx)
  case first =>
    go_region_with (go_at_call 7; first | ((with_reducible refine (r1 _).mono ?_); rintro e wz ⟨rfl, rfl⟩) | ((with_reducible refine (r2 _).mono ?_); rintro e wz ⟨rfl, rfl⟩))
    all_goals
      have MA : Blk (w1.setCell ⟨g, 14, none⟩ (.string X2)) g 25 #[.int .i64 made, .int .u32 mine, .int .u32 yours, .int .u32 myTsn, .int .u32 yourTsn, .int .u32 peer, .int .u32 loc, .int .i64 peerPort, .int .i64 myPort, .int .u32 rwnd, .int .i64 out, .int .i64 inn, .int .u32 tieMine, .int .u32 tieYours, .string X2, .string Y] := M1.set_ 14 _
      have MB : Blk ((w1.setCell ⟨g, 14, none⟩ (.string X2)).setCell ⟨g, 15, none⟩ (.string Y2)) g 25 #[.int .i64 made, .int .u32 mine, .int .u32 yours, .int .u32 myTsn, .int .u32 yourTsn, .int .u32 peer, .int .u32 loc, .int .i64 peerPort, .int .i64 myPort, .int .u32 rwnd, .int .i64 out, .int .i64 inn, .int .u32 tieMine, .int .u32 tieYours, .string X2, .string Y2] := MA.set_ 15 _
      have RB := ((R1.far (p := ⟨g, 14, none⟩) (by show w.heap.size + 1 ≠ g; omega) (.string X2)).far (p := ⟨g, 15, none⟩) (by show w.heap.size + 1 ≠ g; omega) (.string Y2)).drew
      have bb := ((bel1.setCell (p := ⟨g, 14, none⟩) (by show w.heap.size ≤ g; omega) (.string X2)).setCell (p := ⟨g, 15, none⟩) (by show w.heap.size ≤ g; omega) (.string Y2)).drew
      go_wp2_with fail
      go_meet
      exact ⟨MB.drew, RB, bb⟩
  case rest =>
  clear HG0 hX hY hK N1 M1 R1 bel1 x14 x15 m14 m15 f14 f15 r1 r2
  have hfx : FX = (⟨made, mine, yours, myTsn, yourTsn, peer, loc, peerPort, myPort, rwnd, out, inn, tieMine, tieYours, X2, Y2⟩ : Ck) := HFX.out
  subst hfx
  clear HFX
  have hwf := HW.out
  have hm := HM.out
  clear HW HM
  obtain ⟨M2, R2, bel2⟩ := hcut
  have hP := put_all KK (⟨made, mine, yours, myTsn, yourTsn, peer, loc, peerPort, myPort, rwnd, out, inn, tieMine, tieYours, X2, Y2⟩ : Ck) hwf wc (HS.out.below bel2) (HA.out.below bel2) (by omega)
  have szR : (Tryd.prog.info? 25).map (·.size) = some (#[.int .i64 made, .int .u32 mine, .int .u32 yours, .int .u32 myTsn, .int .u32 yourTsn, .int .u32 peer, .int .u32 loc, .int .i64 peerPort, .int .i64 myPort, .int .u32 rwnd, .int .i64 out, .int .i64 inn, .int .u32 tieMine, .int .u32 tieYours, .string X2, .string Y2] : Array Value).size := by show _ = some 16; kernel_rfl
  have hS : putS KK (⟨made, mine, yours, myTsn, yourTsn, peer, loc, peerPort, myPort, rwnd, out, inn, tieMine, tieYours, X2, Y2⟩ : Ck) = ByteArray.empty := by unfold putS; rw [if_neg hm]
  rw [hS] at hP
  have hMy := fun w => rmay_any (⟨made, mine, yours, myTsn, yourTsn, peer, loc, peerPort, myPort, rwnd, out, inn, tieMine, tieYours, X2, Y2⟩ : Ck) w
  rw [decide_eq_false hm] at hMy
  dsimp only [Ck.cells] at hP hMy
  clear hS hm hwf
  go_wp2_with (refine wpList_load_at rfl 25 _ rfl g 0 rfl #[.int .i64 made, .int .u32 mine, .int .u32 yours, .int .u32 myTsn, .int .u32 yourTsn, .int .u32 peer, .int .u32 loc, .int .i64 peerPort, .int .i64 myPort, .int .u32 rwnd, .int .i64 out, .int .i64 inn, .int .u32 tieMine, .int .u32 tieYours, .string X2, .string Y2] _ (Cel.of_blk M2) Tryd.underlying25 rfl szR ?_)
  refine hP.mono ?_
  rintro e w3 ⟨rfl, hb3⟩
  have M3 := M2.below hb3 M2.lt
  have bel3 := bel2.trans (hb3.mono bel2.size)
  clear hP M2 bel2 hb3 R2
  have hcv := fun w => run_bytes_of_string (P := Tryd.prog) w 9 38 5 ByteArray.empty Tryd.underlying9 Tryd.underlying38 Tryd.underlying5
  go_upto_region 4 with (fail)
  have M4 := (M3.alloc (.cells (bytesRow ByteArray.empty (grownCap w3 0 0 5)) 5 ((bytesRow ByteArray.empty (grownCap w3 0 0 5)).size, (bytesRow ByteArray.empty (grownCap w3 0 0 5)).size + 1))).drew
  have bel4 := (bel3.alloc bel3.size (.cells (bytesRow ByteArray.empty (grownCap w3 0 0 5)) 5 ((bytesRow ByteArray.empty (grownCap w3 0 0 5)).size, (bytesRow ByteArray.empty (grownCap w3 0 0 5)).size + 1))).drew
  clear M3 bel3 hcv
  generalize (w3.alloc (.cells (bytesRow ByteArray.empty (grownCap w3 0 0 5)) 5 ((bytesRow ByteArray.empty (grownCap w3 0 0 5)).size, (bytesRow ByteArray.empty (grownCap w3 0 0 5)).size + 1))).drew = w4 at *
  go_wp2_with fail
  refine (awake10 w4 (HS.out.below bel4) (HA.out.below bel4)).mono ?_
  rintro e w5 ⟨rfl, hb5⟩
  have M5 := M4.below hb5 M4.lt
  have bel5 := bel4.trans (hb5.mono bel4.size)
  clear M4 bel4 hb5
  go_wp2_with (refine wpList_load_at_g (by rfl) 25 _ rfl g 0 rfl #[.int .i64 made, .int .u32 mine, .int .u32 yours, .int .u32 myTsn, .int .u32 yourTsn, .int .u32 peer, .int .u32 loc, .int .i64 peerPort, .int .i64 myPort, .int .u32 rwnd, .int .i64 out, .int .i64 inn, .int .u32 tieMine, .int .u32 tieYours, .string X2, .string Y2] _ (Cel.of_blk M5) Tryd.underlying25 rfl szR ?_)
  refine (hMy _).mono ?_
  rintro e w6 ⟨rfl, hb6⟩
  have bel6 := bel5.trans (hb6.mono bel5.size)
  go_wp2_with fail
  go_ret
  exact ⟨rfl, bel6⟩
set_option maxHeartbeats 8000000 in
theorem bent_yes (key : ByteArray) (c : Ck) (a b : UInt8) (w : World) (S0 : Starts w) (A : Added w) (hk : key.size ≤ maxLen) (g0 : c.wf) (hX : c.X.size ≤ 140737488351232) (hY : c.Y.size ≤ 140737488351232) (hm : (fixB c).may) : Calls Tryd.prog 5 #[.string key, .agg c.cells, .agg #[.int .u8 (a.toNat : Int), .int .u8 (b.toNat : Int)]] w fun e w' => e = .returned (.bool true) ∧ Below w.heap.size w w' := by
  have hK := fun w => slice_first 70 key w
  simp only [show ((70 : Nat) : Int) = 70 from rfl] at hK
  have lK := firsts_size 70 key
  generalize firsts 70 key = KK at *
  unfold maxLen at hk
  have HS := Lib.hid S0
  have HA := Lib.hid A
  have HG0 := Lib.hid g0
  clear S0 A g0
  have HFX := Lib.hid (show fixB c = { c with X := rnd c.X, Y := rnd c.Y } from rfl)
  generalize fixB c = FX at *
  have HM := Lib.hid hm
  clear hm
  obtain ⟨made, mine, yours, myTsn, yourTsn, peer, loc, peerPort, myPort, rwnd, out, inn, tieMine, tieYours, X, Y⟩ := c
  simp only at hX hY HFX
  dsimp only [Ck.cells]
  have N0 : Blk ((w.alloc (.cells #[.int .i64 made, .int .u32 mine, .int .u32 yours, .int .u32 myTsn, .int .u32 yourTsn, .int .u32 peer, .int .u32 loc, .int .i64 peerPort, .int .i64 myPort, .int .u32 rwnd, .int .i64 out, .int .i64 inn, .int .u32 tieMine, .int .u32 tieYours, .string X, .string Y] 25)).alloc (.cells #[.int .u8 (a.toNat : Int), .int .u8 (b.toNat : Int)] 37)) w.heap.size 25 #[.int .i64 made, .int .u32 mine, .int .u32 yours, .int .u32 myTsn, .int .u32 yourTsn, .int .u32 peer, .int .u32 loc, .int .i64 peerPort, .int .i64 myPort, .int .u32 rwnd, .int .i64 out, .int .i64 inn, .int .u32 tieMine, .int .u32 tieYours, .string X, .string Y] := (Blk.new w _ _).alloc _
  have R0 : Blk ((w.alloc (.cells #[.int .i64 made, .int .u32 mine, .int .u32 yours, .int .u32 myTsn, .int .u32 yourTsn, .int .u32 peer, .int .u32 loc, .int .i64 peerPort, .int .i64 myPort, .int .u32 rwnd, .int .i64 out, .int .i64 inn, .int .u32 tieMine, .int .u32 tieYours, .string X, .string Y] 25)).alloc (.cells #[.int .u8 (a.toNat : Int), .int .u8 (b.toNat : Int)] 37)) (w.heap.size + 1) 37 #[.int .u8 (a.toNat : Int), .int .u8 (b.toNat : Int)] := blk_new2 _ _ _ _
  have bel0 := ((Below.refl w.heap.size w).alloc (Nat.le_refl _) (.cells #[.int .i64 made, .int .u32 mine, .int .u32 yours, .int .u32 myTsn, .int .u32 yourTsn, .int .u32 peer, .int .u32 loc, .int .i64 peerPort, .int .i64 myPort, .int .u32 rwnd, .int .i64 out, .int .i64 inn, .int .u32 tieMine, .int .u32 tieYours, .string X, .string Y] 25)).alloc (by simp) (.cells #[.int .u8 (a.toNat : Int), .int .u8 (b.toNat : Int)] 37)
  go_enter Tryd.func5, Tryd.ntmps5
  go_upto_region 1 with (fail)
  generalize (w.alloc (.cells #[.int .i64 made, .int .u32 mine, .int .u32 yours, .int .u32 myTsn, .int .u32 yourTsn, .int .u32 peer, .int .u32 loc, .int .i64 peerPort, .int .i64 myPort, .int .u32 rwnd, .int .i64 out, .int .i64 inn, .int .u32 tieMine, .int .u32 tieYours, .string X, .string Y] 25)).alloc (.cells #[.int .u8 (a.toNat : Int), .int .u8 (b.toNat : Int)] 37) = w0 at *
  have x0 : w0.cell? ⟨w.heap.size, 0, none⟩ = some (.int .i64 made) := N0.cell 0
  have x1 : w0.cell? ⟨w.heap.size, 1, none⟩ = some (.int .u32 mine) := N0.cell 1
  have x2 : w0.cell? ⟨w.heap.size, 2, none⟩ = some (.int .u32 yours) := N0.cell 2
  have x3 : w0.cell? ⟨w.heap.size, 3, none⟩ = some (.int .u32 myTsn) := N0.cell 3
  have x4 : w0.cell? ⟨w.heap.size, 4, none⟩ = some (.int .u32 yourTsn) := N0.cell 4
  have x5 : w0.cell? ⟨w.heap.size, 5, none⟩ = some (.int .u32 peer) := N0.cell 5
  have x6 : w0.cell? ⟨w.heap.size, 6, none⟩ = some (.int .u32 loc) := N0.cell 6
  have x7 : w0.cell? ⟨w.heap.size, 7, none⟩ = some (.int .i64 peerPort) := N0.cell 7
  have x8 : w0.cell? ⟨w.heap.size, 8, none⟩ = some (.int .i64 myPort) := N0.cell 8
  have x9 : w0.cell? ⟨w.heap.size, 9, none⟩ = some (.int .u32 rwnd) := N0.cell 9
  have x10 : w0.cell? ⟨w.heap.size, 10, none⟩ = some (.int .i64 out) := N0.cell 10
  have x11 : w0.cell? ⟨w.heap.size, 11, none⟩ = some (.int .i64 inn) := N0.cell 11
  have x12 : w0.cell? ⟨w.heap.size, 12, none⟩ = some (.int .u32 tieMine) := N0.cell 12
  have x13 : w0.cell? ⟨w.heap.size, 13, none⟩ = some (.int .u32 tieYours) := N0.cell 13
  have x14 : w0.cell? ⟨w.heap.size, 14, none⟩ = some (.string X) := N0.cell 14
  have x15 : w0.cell? ⟨w.heap.size, 15, none⟩ = some (.string Y) := N0.cell 15
  have hwl := N0.lt
  go_region
  have N1 : Blk (w0.alloc (.cells #[.int .i64 made, .int .u32 mine, .int .u32 yours, .int .u32 myTsn, .int .u32 yourTsn, .int .u32 peer, .int .u32 loc, .int .i64 peerPort, .int .i64 myPort, .int .u32 rwnd, .int .i64 out, .int .i64 inn, .int .u32 tieMine, .int .u32 tieYours, .string X, .string Y] 25)).drew w.heap.size 25 #[.int .i64 made, .int .u32 mine, .int .u32 yours, .int .u32 myTsn, .int .u32 yourTsn, .int .u32 peer, .int .u32 loc, .int .i64 peerPort, .int .i64 myPort, .int .u32 rwnd, .int .i64 out, .int .i64 inn, .int .u32 tieMine, .int .u32 tieYours, .string X, .string Y] := (N0.alloc _).drew
  have R1 : Blk (w0.alloc (.cells #[.int .i64 made, .int .u32 mine, .int .u32 yours, .int .u32 myTsn, .int .u32 yourTsn, .int .u32 peer, .int .u32 loc, .int .i64 peerPort, .int .i64 myPort, .int .u32 rwnd, .int .i64 out, .int .i64 inn, .int .u32 tieMine, .int .u32 tieYours, .string X, .string Y] 25)).drew (w.heap.size + 1) 37 #[.int .u8 (a.toNat : Int), .int .u8 (b.toNat : Int)] := (R0.alloc _).drew
  have M1 : Blk (w0.alloc (.cells #[.int .i64 made, .int .u32 mine, .int .u32 yours, .int .u32 myTsn, .int .u32 yourTsn, .int .u32 peer, .int .u32 loc, .int .i64 peerPort, .int .i64 myPort, .int .u32 rwnd, .int .i64 out, .int .i64 inn, .int .u32 tieMine, .int .u32 tieYours, .string X, .string Y] 25)).drew w0.heap.size 25 #[.int .i64 made, .int .u32 mine, .int .u32 yours, .int .u32 myTsn, .int .u32 yourTsn, .int .u32 peer, .int .u32 loc, .int .i64 peerPort, .int .i64 myPort, .int .u32 rwnd, .int .i64 out, .int .i64 inn, .int .u32 tieMine, .int .u32 tieYours, .string X, .string Y] := (Blk.new w0 _ _).drew
  have bel1 := (bel0.alloc bel0.size (.cells #[.int .i64 made, .int .u32 mine, .int .u32 yours, .int .u32 myTsn, .int .u32 yourTsn, .int .u32 peer, .int .u32 loc, .int .i64 peerPort, .int .i64 myPort, .int .u32 rwnd, .int .i64 out, .int .i64 inn, .int .u32 tieMine, .int .u32 tieYours, .string X, .string Y] 25)).drew
  have hrg : w.heap.size + 1 < w0.heap.size := R0.lt
  clear N0 R0 bel0 hwl x0 x1 x2 x3 x4 x5 x6 x7 x8 x9 x10 x11 x12 x13 x14 x15
  generalize (w0.alloc (.cells #[.int .i64 made, .int .u32 mine, .int .u32 yours, .int .u32 myTsn, .int .u32 yourTsn, .int .u32 peer, .int .u32 loc, .int .i64 peerPort, .int .i64 myPort, .int .u32 rwnd, .int .i64 out, .int .i64 inn, .int .u32 tieMine, .int .u32 tieYours, .string X, .string Y] 25)).drew = w1 at *
  generalize w0.heap.size = g at *
  have hwg : w.heap.size < g := by omega
  have x14 : w1.cell? ⟨w.heap.size, 14, none⟩ = some (.string X) := N1.cell 14
  have x15 : w1.cell? ⟨w.heap.size, 15, none⟩ = some (.string Y) := N1.cell 15
  have m14 : w1.cell? ⟨g, 14, none⟩ = some (.string X) := M1.cell 14
  have m15 : w1.cell? ⟨g, 15, none⟩ = some (.string Y) := M1.cell 15
  have f14 : w1.frozen? ⟨g, 14, none⟩ = false := M1.frozen 14
  have f15 : w1.frozen? ⟨g, 15, none⟩ = false := M1.frozen 15
  have r1 := fun w => rnd_any X w hX
  have r2 := fun w => rnd_any Y w hY
  have HW := Lib.hid (wf_rnd (X' := rnd X) (Y' := rnd Y) HG0.out (by rw [rnd_size]; decide) (by rw [rnd_size]; decide))
  generalize rnd X = X2 at *
  generalize rnd Y = Y2 at *
  go_upto_region 2 with (fail)
  go_cut [25] (fun _ wx => Blk wx g 25 #[.int .i64 made, .int .u32 mine, .int .u32 yours, .int .u32 myTsn, .int .u32 yourTsn, .int .u32 peer, .int .u32 loc, .int .i64 peerPort, .int .i64 myPort, .int .u32 rwnd, .int .i64 out, .int .i64 inn, .int .u32 tieMine, .int .u32 tieYours, .string X2, .string Y2] ∧ Blk wx (w.heap.size + 1) 37 #[.int .u8 (a.toNat : Int), .int .u8 (b.toNat : Int)] ∧ Below w.heap.size w wx)
  case first =>
    go_region_with (go_at_call 7; first | ((with_reducible refine (r1 _).mono ?_); rintro e wz ⟨rfl, rfl⟩) | ((with_reducible refine (r2 _).mono ?_); rintro e wz ⟨rfl, rfl⟩))
    all_goals
      have MA : Blk (w1.setCell ⟨g, 14, none⟩ (.string X2)) g 25 #[.int .i64 made, .int .u32 mine, .int .u32 yours, .int .u32 myTsn, .int .u32 yourTsn, .int .u32 peer, .int .u32 loc, .int .i64 peerPort, .int .i64 myPort, .int .u32 rwnd, .int .i64 out, .int .i64 inn, .int .u32 tieMine, .int .u32 tieYours, .string X2, .string Y] := M1.set_ 14 _
      have MB : Blk ((w1.setCell ⟨g, 14, none⟩ (.string X2)).setCell ⟨g, 15, none⟩ (.string Y2)) g 25 #[.int .i64 made, .int .u32 mine, .int .u32 yours, .int .u32 myTsn, .int .u32 yourTsn, .int .u32 peer, .int .u32 loc, .int .i64 peerPort, .int .i64 myPort, .int .u32 rwnd, .int .i64 out, .int .i64 inn, .int .u32 tieMine, .int .u32 tieYours, .string X2, .string Y2] := MA.set_ 15 _
      have RB := ((R1.far (p := ⟨g, 14, none⟩) (by show w.heap.size + 1 ≠ g; omega) (.string X2)).far (p := ⟨g, 15, none⟩) (by show w.heap.size + 1 ≠ g; omega) (.string Y2)).drew
      have bb := ((bel1.setCell (p := ⟨g, 14, none⟩) (by show w.heap.size ≤ g; omega) (.string X2)).setCell (p := ⟨g, 15, none⟩) (by show w.heap.size ≤ g; omega) (.string Y2)).drew
      go_wp2_with fail
      go_meet
      exact ⟨MB.drew, RB, bb⟩
  case rest =>
  clear HG0 hX hY hK N1 M1 R1 bel1 x14 x15 m14 m15 f14 f15 r1 r2
  have hfx : FX = (⟨made, mine, yours, myTsn, yourTsn, peer, loc, peerPort, myPort, rwnd, out, inn, tieMine, tieYours, X2, Y2⟩ : Ck) := HFX.out
  subst hfx
  clear HFX
  have hwf := HW.out
  have hm := HM.out
  clear HW HM
  obtain ⟨M2, R2, bel2⟩ := hcut
  have hP := put_all KK (⟨made, mine, yours, myTsn, yourTsn, peer, loc, peerPort, myPort, rwnd, out, inn, tieMine, tieYours, X2, Y2⟩ : Ck) hwf wc (HS.out.below bel2) (HA.out.below bel2) (by omega)
  have szR : (Tryd.prog.info? 25).map (·.size) = some (#[.int .i64 made, .int .u32 mine, .int .u32 yours, .int .u32 myTsn, .int .u32 yourTsn, .int .u32 peer, .int .u32 loc, .int .i64 peerPort, .int .i64 myPort, .int .u32 rwnd, .int .i64 out, .int .i64 inn, .int .u32 tieMine, .int .u32 tieYours, .string X2, .string Y2] : Array Value).size := by show _ = some 16; kernel_rfl
  have hS : putS KK (⟨made, mine, yours, myTsn, yourTsn, peer, loc, peerPort, myPort, rwnd, out, inn, tieMine, tieYours, X2, Y2⟩ : Ck) = Ck.bytes (⟨made, mine, yours, myTsn, yourTsn, peer, loc, peerPort, myPort, rwnd, out, inn, tieMine, tieYours, X2, Y2⟩ : Ck) ++ macS KK (Ck.bytes (⟨made, mine, yours, myTsn, yourTsn, peer, loc, peerPort, myPort, rwnd, out, inn, tieMine, tieYours, X2, Y2⟩ : Ck)) := by unfold putS; rw [if_pos hm]
  rw [hS] at hP
  clear hS
  obtain ⟨i, hi⟩ : ∃ i, a.toNat % 20 = i := ⟨_, rfl⟩
  have hi20 : i < 20 := by omega
  have hr : Int.tmod (a.toNat : Int) 20 = (i : Int) := by rw [Int.tmod_eq_emod_of_nonneg (by omega)]; omega
  obtain ⟨k, hk⟩ : ∃ k, 19 - i = k := ⟨_, rfl⟩
  have hml : (macS KK (Ck.bytes (⟨made, mine, yours, myTsn, yourTsn, peer, loc, peerPort, myPort, rwnd, out, inn, tieMine, tieYours, X2, Y2⟩ : Ck))).data.toList.length = 20 := by have := macS_size KK (Ck.bytes (⟨made, mine, yours, myTsn, yourTsn, peer, loc, peerPort, myPort, rwnd, out, inn, tieMine, tieYours, X2, Y2⟩ : Ck)); simpa using this
  have hkl : k < (macS KK (Ck.bytes (⟨made, mine, yours, myTsn, yourTsn, peer, loc, peerPort, myPort, rwnd, out, inn, tieMine, tieYours, X2, Y2⟩ : Ck))).data.toList.length := by omega
  have hbg := bent_get (key := KK) hm hwf k hkl b
  have hSx : (Ck.bytes (⟨made, mine, yours, myTsn, yourTsn, peer, loc, peerPort, myPort, rwnd, out, inn, tieMine, tieYours, X2, Y2⟩ : Ck) ++ macS KK (Ck.bytes (⟨made, mine, yours, myTsn, yourTsn, peer, loc, peerPort, myPort, rwnd, out, inn, tieMine, tieYours, X2, Y2⟩ : Ck))).data.toList[84 + k]? = some ((macS KK (Ck.bytes (⟨made, mine, yours, myTsn, yourTsn, peer, loc, peerPort, myPort, rwnd, out, inn, tieMine, tieYours, X2, Y2⟩ : Ck))).data.toList[k]) := by
    have hl : (Ck.bytes (⟨made, mine, yours, myTsn, yourTsn, peer, loc, peerPort, myPort, rwnd, out, inn, tieMine, tieYours, X2, Y2⟩ : Ck)).data.toList.length = 84 := by have := bytes_size hm; simpa using this
    rw [ByteArray.data_append, Array.toList_append, List.getElem?_append_right (by omega), hl, Nat.add_sub_cancel_left, List.getElem?_eq_getElem hkl]
  have hS104 : (Ck.bytes (⟨made, mine, yours, myTsn, yourTsn, peer, loc, peerPort, myPort, rwnd, out, inn, tieMine, tieYours, X2, Y2⟩ : Ck) ++ macS KK (Ck.bytes (⟨made, mine, yours, myTsn, yourTsn, peer, loc, peerPort, myPort, rwnd, out, inn, tieMine, tieYours, X2, Y2⟩ : Ck))).size = 104 := by rw [ByteArray.size_append, bytes_size hm, macS_size]
  obtain ⟨x, hx⟩ : ∃ x, (macS KK (Ck.bytes (⟨made, mine, yours, myTsn, yourTsn, peer, loc, peerPort, myPort, rwnd, out, inn, tieMine, tieYours, X2, Y2⟩ : Ck))).data.toList[k] = x := ⟨_, rfl⟩
  rw [hx] at hbg hSx
  obtain ⟨S, hS⟩ : ∃ S, Ck.bytes (⟨made, mine, yours, myTsn, yourTsn, peer, loc, peerPort, myPort, rwnd, out, inn, tieMine, tieYours, X2, Y2⟩ : Ck) ++ macS KK (Ck.bytes (⟨made, mine, yours, myTsn, yourTsn, peer, loc, peerPort, myPort, rwnd, out, inn, tieMine, tieYours, X2, Y2⟩ : Ck)) = S := ⟨_, rfl⟩
  rw [hS] at hP hbg hSx hS104
  dsimp only [Ck.cells] at hP
  clear hS hx hkl hml hm hwf
  obtain ⟨j, hj⟩ : ∃ j, 84 + k = j := ⟨_, rfl⟩
  rw [hj] at hbg hSx
  have hji : (103 : Int) - i = j := by omega
  have hj104 : j < 104 := by omega
  have HBG := Lib.hid hbg
  have HSX := Lib.hid hSx
  clear hbg hSx hk hj hi
  have hsl : S.data.toList.length = 104 := by simpa using hS104
  have HSL := Lib.hid hsl
  clear hsl
  go_wp2_with (refine wpList_load_at rfl 25 _ rfl g 0 rfl #[.int .i64 made, .int .u32 mine, .int .u32 yours, .int .u32 myTsn, .int .u32 yourTsn, .int .u32 peer, .int .u32 loc, .int .i64 peerPort, .int .i64 myPort, .int .u32 rwnd, .int .i64 out, .int .i64 inn, .int .u32 tieMine, .int .u32 tieYours, .string X2, .string Y2] _ (Cel.of_blk M2) Tryd.underlying25 rfl szR ?_)
  refine hP.mono ?_
  rintro e w3 ⟨rfl, hb3⟩
  have R3 := R2.below hb3 R2.lt
  have bel3 := bel2.trans (hb3.mono bel2.size)
  clear hP M2 bel2 hb3 R2
  have hcv := fun w => run_bytes_of_string (P := Tryd.prog) w 9 38 5 S Tryd.underlying9 Tryd.underlying38 Tryd.underlying5
  go_upto_region 4 with (fail)
  have I4 := (isBytes_new w3 S (grownCap w3 104 0 5) 5).drew
  have R4 := (R3.alloc (.cells (bytesRow S (grownCap w3 104 0 5)) 5 ((bytesRow S (grownCap w3 104 0 5)).size, (bytesRow S (grownCap w3 104 0 5)).size + 1))).drew
  have bel4 := (bel3.alloc bel3.size (.cells (bytesRow S (grownCap w3 104 0 5)) 5 ((bytesRow S (grownCap w3 104 0 5)).size, (bytesRow S (grownCap w3 104 0 5)).size + 1))).drew
  have hc0 := grownCap_ge w3 104 0 5
  have hwg3 : w.heap.size + 1 < w3.heap.size := R3.lt
  clear R3 bel3 hcv
  generalize (w3.alloc (.cells (bytesRow S (grownCap w3 104 0 5)) 5 ((bytesRow S (grownCap w3 104 0 5)).size, (bytesRow S (grownCap w3 104 0 5)).size + 1))).drew = w4 at *
  generalize grownCap w3 104 0 5 = cap at *
  generalize w3.heap.size = v at *
  go_upto_region 6 with (fail)
  have c0 : w4.cell? ⟨w.heap.size + 1, 0, none⟩ = some (.int .u8 (a.toNat : Int)) := R4.cell 0
  have c1 : w4.cell? ⟨w.heap.size + 1, 1, none⟩ = some (.int .u8 (b.toNat : Int)) := R4.cell 1
  have hjl : j < S.data.toList.length := by rw [HSL.out]; exact hj104
  have hxj : S.data.toList[j] = x := by have := HSX.out; rw [List.getElem?_eq_getElem hjl] at this; exact Option.some.inj this
  have cj : w4.cell? ⟨v, j, none⟩ = some (.int .u8 (x.toNat : Int)) := by rw [I4.cell hjl, hxj]; rfl
  have fj := I4.free hjl
  have hx8 := xor8 x b
  have J := I4.set_ j (x ^^^ b)
  have hlen : (S.data.toList.set j (x ^^^ b)).length = 104 := by rw [List.length_set]; exact HSL.out
  have HLEN := Lib.hid hlen
  have hw0 : IntKind.i64.wrap 103 = 103 := by decide
  have hw1 : IntKind.i64.wrap (103 - (i : Int)) = (j : Int) := by rw [hji]; exact IntWalk.i64_in _ (by omega)
  have hw3 : IntKind.i64.wrap (IntKind.i64.wrap 103 - (i : Int)) = (j : Int) := by rw [hw0, hw1]
  have hw2 : IntKind.i64.wrap (i : Int) = (i : Int) := IntWalk.i64_in _ (by omega)
  have hj2 : (j : Int) < 104 := by omega
  clear hjl hxj hlen hji
  refine wp_region_still_tail 15 (by kernel_rfl) (by kernel_rfl) ?_
  simp only [List.take_succ_cons, List.take_zero, List.drop_succ_cons, List.drop_zero]
  repeat still_step
  refine wpStill_nil ?_
  rw [← UInt8.toNat_xor]
  clear hx8
  generalize x ^^^ b = y at *
  change wpList _ _ _ _ _ w4.drew
  have J2 : IsBytes (w4.drew.setCell ⟨v, j, none⟩ (bv y)) v (S.data.toList.set j y) := J
  have R5 : Blk w4.drew (w.heap.size + 1) 37 #[.int .u8 (a.toNat : Int), .int .u8 (b.toNat : Int)] := R4
  have cj5 : w4.drew.cell? ⟨v, j, none⟩ = some (.int .u8 (x.toNat : Int)) := cj
  have fj5 : w4.drew.frozen? ⟨v, j, none⟩ = false := fj
  have bel5 := bel4.drew
  generalize w4.drew = w5 at *
  clear I4 R4 cj fj bel4 c0 c1 J hr hw0 hw1 hw2 hw3 hj2
  go_upto_region 7 with (fail)
  have R6 : Blk (w5.setCell ⟨v, j, none⟩ (.int .u8 (y.toNat : Int))) (w.heap.size + 1) 37 #[.int .u8 (a.toNat : Int), .int .u8 (b.toNat : Int)] := R5.far (p := ⟨v, j, none⟩) (by show w.heap.size + 1 ≠ v; omega) _
  have J6 : IsBytes (w5.setCell ⟨v, j, none⟩ (.int .u8 (y.toNat : Int))) v (S.data.toList.set j y) := J2
  have bel6 : Below w.heap.size w (w5.setCell ⟨v, j, none⟩ (.int .u8 (y.toNat : Int))) := bel5.setCell (p := ⟨v, j, none⟩) (by show w.heap.size ≤ v; omega) _
  generalize w5.setCell ⟨v, j, none⟩ (.int .u8 (y.toNat : Int)) = w6 at *
  clear R5 J2 cj5 fj5 bel5
  have hcv6 := conv_bytes (P := Tryd.prog) Tryd.underlying38 Tryd.underlying5 Tryd.underlying9 J6 104 cap HLEN.out.symm
  have hQz : (str (S.data.toList.set j y)).size = 104 := by rw [str_len, HLEN.out]
  unfold str at hQz HBG
  generalize (⟨(S.data.toList.set j y).toArray⟩ : ByteArray) = Qs at *
  have hG := get_any KK Qs 0 w6 (HS.out.below bel6) (HA.out.below bel6) (by omega) (by omega) (by omega)
  have hE : (getE KK Qs 0 == 100) = ((b.toNat : Int) != 0) := by
    rw [HBG.out]
    by_cases h0 : b = 0
    · rw [if_pos h0, h0]; rfl
    · rw [if_neg h0]
      have : (b.toNat : Int) ≠ 0 := fun q => h0 (UInt8.toNat_inj.1 (by simpa using Int.ofNat.inj q))
      rw [beq_self_eq_true]
      exact (bne_iff_ne.2 this).symm
  have HE := Lib.hid hE
  clear hE HBG HSX HSL HLEN J6
  generalize getC KK Qs = cc at *
  generalize getE KK Qs 0 = E at *
  generalize getT KK Qs 0 = L at *
  obtain ⟨z0, z1, z2, z3, z4, z5, z6, z7, z8, z9, z10, z11, z12, z13, z14, z15⟩ := cc
  dsimp only [Ck.cells] at hG
  go_wp2_with fail
  refine hG.mono ?_
  rintro e w7 ⟨rfl, hb7⟩
  have R7 := R6.below hb7 R6.lt
  have bel7 := bel6.trans (hb7.mono bel6.size)
  clear hG R6 bel6 hb7 hcv6
  go_upto_region 8 with (fail)
  have R8 := R7.alloc (.cells #[.int .i64 z0, .int .u32 z1, .int .u32 z2, .int .u32 z3, .int .u32 z4, .int .u32 z5, .int .u32 z6, .int .i64 z7, .int .i64 z8, .int .u32 z9, .int .i64 z10, .int .i64 z11, .int .u32 z12, .int .u32 z13, .string z14, .string z15] 25)
  have bel8 := bel7.alloc bel7.size (.cells #[.int .i64 z0, .int .u32 z1, .int .u32 z2, .int .u32 z3, .int .u32 z4, .int .u32 z5, .int .u32 z6, .int .i64 z7, .int .i64 z8, .int .u32 z9, .int .i64 z10, .int .i64 z11, .int .u32 z12, .int .u32 z13, .string z14, .string z15] 25)
  clear R7 bel7
  generalize w7.alloc (.cells #[.int .i64 z0, .int .u32 z1, .int .u32 z2, .int .u32 z3, .int .u32 z4, .int .u32 z5, .int .u32 z6, .int .i64 z7, .int .i64 z8, .int .u32 z9, .int .i64 z10, .int .i64 z11, .int .u32 z12, .int .u32 z13, .string z14, .string z15] 25) = w8 at *
  go_wp2_with fail
  refine (awake10 w8 (HS.out.below bel8) (HA.out.below bel8)).mono ?_
  rintro e w9 ⟨rfl, hb9⟩
  have R9 := R8.below hb9 R8.lt
  have bel9 := bel8.trans (hb9.mono bel8.size)
  clear R8 bel8 hb9
  have c1 : w9.cell? ⟨w.heap.size + 1, 1, none⟩ = some (.int .u8 (b.toNat : Int)) := R9.cell 1
  have hE := HE.out
  obtain ⟨Bb, hB⟩ : ∃ B, ((b.toNat : Int) != 0) = B := ⟨_, rfl⟩
  rw [hB] at hE
  go_wp2_with fail
  go_ret
  exact ⟨ret_true (by simp), bel9⟩
end Go.Proofs.YtbdbcjhahlofiaaDoor.coo
