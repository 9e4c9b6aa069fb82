/- Layer 10: bytes read as a cookie. -/
import Derived.Test.YtbdbcjhahlofiaaDoorCooC
namespace Go.Proofs.YtbdbcjhahlofiaaDoor.coo
open Go.Sort (grow)
open Go.ChangeShapes Go.WideShapes Go.ChangeAt Go.RowKit kit oct
set_option maxRecDepth 100000

theorem r64_x (g : Nat) (l : ByteArray) (e0 : Int) (w : World) (h : RD w g l e0) (hl : l.size ≤ maxLen) :
    Calls Tryd.prog 36 #[.pointer (some ⟨g, 0, none⟩)] w fun x w' => ∃ (n : Int) (l' : ByteArray) (e' : Int), x = .returned (.int .u64 n) ∧ Hid (n = ((rdN l 8 : Nat) : Int) ∧ l' = rdL l e0 8 ∧ e' = rdE l e0 8) ∧ l'.size ≤ maxLen ∧ RD w' g l' e' ∧ oct.Touch g w w' :=
  (r64_any g l e0 w h hl).mono fun e w' ⟨he, hr, ht⟩ => ⟨_, _, _, he, Lib.hid ⟨rfl, rfl, rfl⟩, Nat.le_trans (rdL_size _ _ _) hl, hr, ht⟩
theorem r32_x (g : Nat) (l : ByteArray) (e0 : Int) (w : World) (h : RD w g l e0) (hl : l.size ≤ maxLen) :
    Calls Tryd.prog 37 #[.pointer (some ⟨g, 0, none⟩)] w fun x w' => ∃ (n : Int) (l' : ByteArray) (e' : Int), x = .returned (.int .u32 n) ∧ Hid (n = ((rdN l 4 : Nat) : Int) ∧ l' = rdL l e0 4 ∧ e' = rdE l e0 4) ∧ l'.size ≤ maxLen ∧ RD w' g l' e' ∧ oct.Touch g w w' :=
  (r32_any g l e0 w h hl).mono fun e w' ⟨he, hr, ht⟩ => ⟨_, _, _, he, Lib.hid ⟨rfl, rfl, rfl⟩, Nat.le_trans (rdL_size _ _ _) hl, hr, ht⟩
theorem r16_x (g : Nat) (l : ByteArray) (e0 : Int) (w : World) (h : RD w g l e0) (hl : l.size ≤ maxLen) :
    Calls Tryd.prog 38 #[.pointer (some ⟨g, 0, none⟩)] w fun x w' => ∃ (n : Int) (l' : ByteArray) (e' : Int), x = .returned (.int .i64 n) ∧ Hid (n = ((rdN l 2 : Nat) : Int) ∧ l' = rdL l e0 2 ∧ e' = rdE l e0 2) ∧ l'.size ≤ maxLen ∧ RD w' g l' e' ∧ oct.Touch g w w' :=
  (r16_any g l e0 w h hl).mono fun e w' ⟨he, hr, ht⟩ => ⟨_, _, _, he, Lib.hid ⟨rfl, rfl, rfl⟩, Nat.le_trans (rdL_size _ _ _) hl, hr, ht⟩
theorem rS_x (g : Nat) (l : ByteArray) (e0 : Int) (w : World) (h : RD w g l e0) (hl : l.size ≤ maxLen) :
    Calls Tryd.prog 39 #[.pointer (some ⟨g, 0, none⟩), .int .i64 16] w fun x w' => ∃ (n : ByteArray) (l' : ByteArray) (e' : Int), x = .returned (.string n) ∧ Hid (n = rdS l 16 ∧ l' = rdL l e0 16 ∧ e' = rdE l e0 16) ∧ l'.size ≤ maxLen ∧ RD w' g l' e' ∧ oct.Touch g w w' :=
  (take16 g l e0 w h hl).mono fun e w' ⟨he, hr, ht⟩ => ⟨_, _, _, he, Lib.hid ⟨rfl, rfl, rfl⟩, Nat.le_trans (rdL_size _ _ _) hl, hr, ht⟩
def zrow : Array Value := #[.int .i64 0, .int .u32 0, .int .u32 0, .int .u32 0, .int .u32 0, .int .u32 0, .int .u32 0, .int .i64 0, .int .i64 0, .int .u32 0, .int .i64 0, .int .i64 0, .int .u32 0, .int .u32 0, .string ⟨#[]⟩, .string ⟨#[]⟩]
theorem zrow_zero : Ck.zero.cells = zrow := rfl
theorem szZ : (Tryd.prog.info? 25).map (·.size) = some zrow.size := by show _ = some 16; kernel_rfl
set_option maxHeartbeats 40000000 in
theorem read_any (s : ByteArray) (w : World) (hs : s.size ≤ maxLen) : Calls Tryd.prog 26 #[.string s] w fun e w' => e = .returned (.tuple #[.agg (readC s).cells, .int .i64 (readE s)]) ∧ Below w.heap.size w w' := by
  have Z0 := Blk.new w 25 #[.int .i64 0, .int .u32 0, .int .u32 0, .int .u32 0, .int .u32 0, .int .u32 0, .int .u32 0, .int .i64 0, .int .i64 0, .int .u32 0, .int .i64 0, .int .i64 0, .int .u32 0, .int .u32 0, .string ⟨#[]⟩, .string ⟨#[]⟩]
  have bel0 := (Below.refl w.heap.size w).alloc (Nat.le_refl _) (.cells #[.int .i64 0, .int .u32 0, .int .u32 0, .int .u32 0, .int .u32 0, .int .u32 0, .int .u32 0, .int .i64 0, .int .i64 0, .int .u32 0, .int .i64 0, .int .i64 0, .int .u32 0, .int .u32 0, .string ⟨#[]⟩, .string ⟨#[]⟩] 25)
  go_enter Tryd.func26, Tryd.ntmps26
  go_upto_region 1 with (fail)
  generalize w.alloc (.cells #[.int .i64 0, .int .u32 0, .int .u32 0, .int .u32 0, .int .u32 0, .int .u32 0, .int .u32 0, .int .i64 0, .int .i64 0, .int .u32 0, .int .i64 0, .int .i64 0, .int .u32 0, .int .u32 0, .string ⟨#[]⟩, .string ⟨#[]⟩] 25) = w0 at *
  go_wp2_with fail
  refine (new_any s _).mono ?_
  rintro e u0 ⟨rfl, hu0⟩
  have R0 : RD u0 w0.heap.size s 0 := by rw [hu0]; exact RD.fresh _ _ _
  have Z1 : Blk u0 w.heap.size 25 #[.int .i64 0, .int .u32 0, .int .u32 0, .int .u32 0, .int .u32 0, .int .u32 0, .int .u32 0, .int .i64 0, .int .i64 0, .int .u32 0, .int .i64 0, .int .i64 0, .int .u32 0, .int .u32 0, .string ⟨#[]⟩, .string ⟨#[]⟩] := by rw [hu0]; exact Z0.alloc _
  have bel1 : Below w.heap.size w u0 := by rw [hu0]; exact bel0.alloc bel0.size _
  have hzg : w.heap.size < w0.heap.size := Z0.lt
  clear hu0 Z0 bel0
  generalize w0.heap.size = g at *
  have hzne : w.heap.size ≠ g := by omega
  go_wp2_with fail
  refine (r64_x g s 0 _ R0 hs).mono ?_
  rintro e v0 ⟨n0, l1, e1, rfl, H0, hs1, R1, t0⟩
  have Zv0 := oct.Touch.blk t0 Z1 hzne
  have Bv0 := oct.Touch.below bel1 t0 (by omega) bel1.size
  clear t0 R0 Z1 bel1
  go_wp2_with fail
  refine (r32_x g l1 e1 _ R1 hs1).mono ?_
  rintro e v1 ⟨n1, l2, e2, rfl, H1, hs2, R2, t1⟩
  have Zv1 := oct.Touch.blk t1 Zv0 hzne
  have Bv1 := oct.Touch.below Bv0 t1 (by omega) Bv0.size
  clear t1 R1 Zv0 Bv0
  go_wp2_with fail
  refine (r32_x g l2 e2 _ R2 hs2).mono ?_
  rintro e v2 ⟨n2, l3, e3, rfl, H2, hs3, R3, t2⟩
  have Zv2 := oct.Touch.blk t2 Zv1 hzne
  have Bv2 := oct.Touch.below Bv1 t2 (by omega) Bv1.size
  clear t2 R2 Zv1 Bv1
  go_wp2_with fail
  refine (r32_x g l3 e3 _ R3 hs3).mono ?_
  rintro e v3 ⟨n3, l4, e4, rfl, H3, hs4, R4, t3⟩
  have Zv3 := oct.Touch.blk t3 Zv2 hzne
  have Bv3 := oct.Touch.below Bv2 t3 (by omega) Bv2.size
  clear t3 R3 Zv2 Bv2
  go_wp2_with fail
  refine (r32_x g l4 e4 _ R4 hs4).mono ?_
  rintro e v4 ⟨n4, l5, e5, rfl, H4, hs5, R5, t4⟩
  have Zv4 := oct.Touch.blk t4 Zv3 hzne
  have Bv4 := oct.Touch.below Bv3 t4 (by omega) Bv3.size
  clear t4 R4 Zv3 Bv3
  go_wp2_with fail
  refine (r32_x g l5 e5 _ R5 hs5).mono ?_
  rintro e v5 ⟨n5, l6, e6, rfl, H5, hs6, R6, t5⟩
  have Zv5 := oct.Touch.blk t5 Zv4 hzne
  have Bv5 := oct.Touch.below Bv4 t5 (by omega) Bv4.size
  clear t5 R5 Zv4 Bv4
  go_wp2_with fail
  refine (r32_x g l6 e6 _ R6 hs6).mono ?_
  rintro e v6 ⟨n6, l7, e7, rfl, H6, hs7, R7, t6⟩
  have Zv6 := oct.Touch.blk t6 Zv5 hzne
  have Bv6 := oct.Touch.below Bv5 t6 (by omega) Bv5.size
  clear t6 R6 Zv5 Bv5
  go_upto_region 4 with (fail)
  have K0 := Blk.new v6 25 #[.int .i64 0, .int .u32 n1, .int .u32 n2, .int .u32 n3, .int .u32 n4, .int .u32 n5, .int .u32 n6, .int .i64 0, .int .i64 0, .int .u32 0, .int .i64 0, .int .i64 0, .int .u32 0, .int .u32 0, .string ⟨#[]⟩, .string ⟨#[]⟩]
  have Z2 := Zv6.alloc (.cells #[.int .i64 0, .int .u32 n1, .int .u32 n2, .int .u32 n3, .int .u32 n4, .int .u32 n5, .int .u32 n6, .int .i64 0, .int .i64 0, .int .u32 0, .int .i64 0, .int .i64 0, .int .u32 0, .int .u32 0, .string ⟨#[]⟩, .string ⟨#[]⟩] 25)
  have RR := (Blk.alloc R7 (.cells #[.int .i64 0, .int .u32 n1, .int .u32 n2, .int .u32 n3, .int .u32 n4, .int .u32 n5, .int .u32 n6, .int .i64 0, .int .i64 0, .int .u32 0, .int .i64 0, .int .i64 0, .int .u32 0, .int .u32 0, .string ⟨#[]⟩, .string ⟨#[]⟩] 25) : RD (v6.alloc (.cells #[.int .i64 0, .int .u32 n1, .int .u32 n2, .int .u32 n3, .int .u32 n4, .int .u32 n5, .int .u32 n6, .int .i64 0, .int .i64 0, .int .u32 0, .int .i64 0, .int .i64 0, .int .u32 0, .int .u32 0, .string ⟨#[]⟩, .string ⟨#[]⟩] 25)) g l7 e7)
  have bel2 := Bv6.alloc Bv6.size (.cells #[.int .i64 0, .int .u32 n1, .int .u32 n2, .int .u32 n3, .int .u32 n4, .int .u32 n5, .int .u32 n6, .int .i64 0, .int .i64 0, .int .u32 0, .int .i64 0, .int .i64 0, .int .u32 0, .int .u32 0, .string ⟨#[]⟩, .string ⟨#[]⟩] 25)
  have hzk : w.heap.size < v6.heap.size := Zv6.lt
  have hgk : g < v6.heap.size := Blk.lt R7
  clear Zv6 Bv6 R7
  generalize v6.alloc (.cells #[.int .i64 0, .int .u32 n1, .int .u32 n2, .int .u32 n3, .int .u32 n4, .int .u32 n5, .int .u32 n6, .int .i64 0, .int .i64 0, .int .u32 0, .int .i64 0, .int .i64 0, .int .u32 0, .int .u32 0, .string ⟨#[]⟩, .string ⟨#[]⟩] 25) = u1 at *
  generalize v6.heap.size = k at *
  have hkne : k ≠ g := by omega
  have R7 := RR
  clear RR
  go_wp2_with fail
  refine (r16_x g l7 e7 _ R7 hs7).mono ?_
  rintro e v7 ⟨n7, l8, e8, rfl, H7, hs8, R8, t7⟩
  have Zv7 := oct.Touch.blk t7 Z2 hzne
  have Bv7 := oct.Touch.below bel2 t7 (by omega) bel2.size
  have Kv7 := oct.Touch.blk t7 K0 hkne
  clear t7 R7 Z2 bel2 K0
  go_wp2_with fail
  refine (r16_x g l8 e8 _ R8 hs8).mono ?_
  rintro e v8 ⟨n8, l9, e9, rfl, H8, hs9, R9, t8⟩
  have Zv8 := oct.Touch.blk t8 Zv7 hzne
  have Bv8 := oct.Touch.below Bv7 t8 (by omega) Bv7.size
  have Kv8 := oct.Touch.blk t8 Kv7 hkne
  clear t8 R8 Zv7 Bv7 Kv7
  have k7 : v8.cell? ⟨k, 7, none⟩ = some (.int .i64 0) := Kv8.cell 7
  have f7 : v8.frozen? ⟨k, 7, none⟩ = false := Kv8.frozen 7
  have k8 : v8.cell? ⟨k, 8, none⟩ = some (.int .i64 0) := Kv8.cell 8
  have f8 : v8.frozen? ⟨k, 8, none⟩ = false := Kv8.frozen 8
  go_upto_region 5 with (fail)
  have KN : Blk ((v8.setCell ⟨k, 7, none⟩ (.int .i64 n7)).setCell ⟨k, 8, none⟩ (.int .i64 n8)) k 25 #[.int .i64 0, .int .u32 n1, .int .u32 n2, .int .u32 n3, .int .u32 n4, .int .u32 n5, .int .u32 n6, .int .i64 n7, .int .i64 n8, .int .u32 0, .int .i64 0, .int .i64 0, .int .u32 0, .int .u32 0, .string ⟨#[]⟩, .string ⟨#[]⟩] := ((Kv8.set_ 7 (.int .i64 n7)).set_ 8 (.int .i64 n8))
  have ZN := ((Zv8.far (p := ⟨k, 7, none⟩) (by show w.heap.size ≠ k; omega) (.int .i64 n7)).far (p := ⟨k, 8, none⟩) (by show w.heap.size ≠ k; omega) (.int .i64 n8))
  have RN : RD ((v8.setCell ⟨k, 7, none⟩ (.int .i64 n7)).setCell ⟨k, 8, none⟩ (.int .i64 n8)) g l9 e9 := (Blk.far (p := ⟨k, 8, none⟩) (Blk.far (p := ⟨k, 7, none⟩) R9 (by show g ≠ k; omega) (.int .i64 n7)) (by show g ≠ k; omega) (.int .i64 n8))
  have BN := ((Bv8.setCell (p := ⟨k, 7, none⟩) (by show w.heap.size ≤ k; omega) (.int .i64 n7)).setCell (p := ⟨k, 8, none⟩) (by show w.heap.size ≤ k; omega) (.int .i64 n8))
  clear Kv8 Zv8 Bv8 R9 k7 f7 k8 f8
  generalize ((v8.setCell ⟨k, 7, none⟩ (.int .i64 n7)).setCell ⟨k, 8, none⟩ (.int .i64 n8)) = x5 at *
  have K105 := KN
  have Z105 := ZN
  have R9 := RN
  have B105 := BN
  clear KN ZN RN BN
  go_wp2_with fail
  refine (r32_x g l9 e9 _ R9 hs9).mono ?_
  rintro e v9 ⟨n9, l10, e10, rfl, H9, hs10, R10, t9⟩
  have Zv9 := oct.Touch.blk t9 Z105 hzne
  have Bv9 := oct.Touch.below B105 t9 (by omega) B105.size
  have Kv9 := oct.Touch.blk t9 K105 hkne
  clear t9 R9 Z105 B105 K105
  have k9 : v9.cell? ⟨k, 9, none⟩ = some (.int .u32 0) := Kv9.cell 9
  have f9 : v9.frozen? ⟨k, 9, none⟩ = false := Kv9.frozen 9
  go_upto_region 6 with (fail)
  have KN : Blk (v9.setCell ⟨k, 9, none⟩ (.int .u32 n9)) k 25 #[.int .i64 0, .int .u32 n1, .int .u32 n2, .int .u32 n3, .int .u32 n4, .int .u32 n5, .int .u32 n6, .int .i64 n7, .int .i64 n8, .int .u32 n9, .int .i64 0, .int .i64 0, .int .u32 0, .int .u32 0, .string ⟨#[]⟩, .string ⟨#[]⟩] := (Kv9.set_ 9 (.int .u32 n9))
  have ZN := (Zv9.far (p := ⟨k, 9, none⟩) (by show w.heap.size ≠ k; omega) (.int .u32 n9))
  have RN : RD (v9.setCell ⟨k, 9, none⟩ (.int .u32 n9)) g l10 e10 := (Blk.far (p := ⟨k, 9, none⟩) R10 (by show g ≠ k; omega) (.int .u32 n9))
  have BN := (Bv9.setCell (p := ⟨k, 9, none⟩) (by show w.heap.size ≤ k; omega) (.int .u32 n9))
  clear Kv9 Zv9 Bv9 R10 k9 f9
  generalize (v9.setCell ⟨k, 9, none⟩ (.int .u32 n9)) = x6 at *
  have K106 := KN
  have Z106 := ZN
  have R10 := RN
  have B106 := BN
  clear KN ZN RN BN
  go_wp2_with fail
  refine (r16_x g l10 e10 _ R10 hs10).mono ?_
  rintro e v10 ⟨n10, l11, e11, rfl, H10, hs11, R11, t10⟩
  have Zv10 := oct.Touch.blk t10 Z106 hzne
  have Bv10 := oct.Touch.below B106 t10 (by omega) B106.size
  have Kv10 := oct.Touch.blk t10 K106 hkne
  clear t10 R10 Z106 B106 K106
  go_wp2_with fail
  refine (r16_x g l11 e11 _ R11 hs11).mono ?_
  rintro e v11 ⟨n11, l12, e12, rfl, H11, hs12, R12, t11⟩
  have Zv11 := oct.Touch.blk t11 Zv10 hzne
  have Bv11 := oct.Touch.below Bv10 t11 (by omega) Bv10.size
  have Kv11 := oct.Touch.blk t11 Kv10 hkne
  clear t11 R11 Zv10 Bv10 Kv10
  have k10 : v11.cell? ⟨k, 10, none⟩ = some (.int .i64 0) := Kv11.cell 10
  have f10 : v11.frozen? ⟨k, 10, none⟩ = false := Kv11.frozen 10
  have k11 : v11.cell? ⟨k, 11, none⟩ = some (.int .i64 0) := Kv11.cell 11
  have f11 : v11.frozen? ⟨k, 11, none⟩ = false := Kv11.frozen 11
  go_upto_region 7 with (fail)
  have KN : Blk ((v11.setCell ⟨k, 10, none⟩ (.int .i64 n10)).setCell ⟨k, 11, none⟩ (.int .i64 n11)) k 25 #[.int .i64 0, .int .u32 n1, .int .u32 n2, .int .u32 n3, .int .u32 n4, .int .u32 n5, .int .u32 n6, .int .i64 n7, .int .i64 n8, .int .u32 n9, .int .i64 n10, .int .i64 n11, .int .u32 0, .int .u32 0, .string ⟨#[]⟩, .string ⟨#[]⟩] := ((Kv11.set_ 10 (.int .i64 n10)).set_ 11 (.int .i64 n11))
  have ZN := ((Zv11.far (p := ⟨k, 10, none⟩) (by show w.heap.size ≠ k; omega) (.int .i64 n10)).far (p := ⟨k, 11, none⟩) (by show w.heap.size ≠ k; omega) (.int .i64 n11))
  have RN : RD ((v11.setCell ⟨k, 10, none⟩ (.int .i64 n10)).setCell ⟨k, 11, none⟩ (.int .i64 n11)) g l12 e12 := (Blk.far (p := ⟨k, 11, none⟩) (Blk.far (p := ⟨k, 10, none⟩) R12 (by show g ≠ k; omega) (.int .i64 n10)) (by show g ≠ k; omega) (.int .i64 n11))
  have BN := ((Bv11.setCell (p := ⟨k, 10, none⟩) (by show w.heap.size ≤ k; omega) (.int .i64 n10)).setCell (p := ⟨k, 11, none⟩) (by show w.heap.size ≤ k; omega) (.int .i64 n11))
  clear Kv11 Zv11 Bv11 R12 k10 f10 k11 f11
  generalize ((v11.setCell ⟨k, 10, none⟩ (.int .i64 n10)).setCell ⟨k, 11, none⟩ (.int .i64 n11)) = x7 at *
  have K107 := KN
  have Z107 := ZN
  have R12 := RN
  have B107 := BN
  clear KN ZN RN BN
  go_wp2_with fail
  refine (r32_x g l12 e12 _ R12 hs12).mono ?_
  rintro e v12 ⟨n12, l13, e13, rfl, H12, hs13, R13, t12⟩
  have Zv12 := oct.Touch.blk t12 Z107 hzne
  have Bv12 := oct.Touch.below B107 t12 (by omega) B107.size
  have Kv12 := oct.Touch.blk t12 K107 hkne
  clear t12 R12 Z107 B107 K107
  go_wp2_with fail
  refine (r32_x g l13 e13 _ R13 hs13).mono ?_
  rintro e v13 ⟨n13, l14, e14, rfl, H13, hs14, R14, t13⟩
  have Zv13 := oct.Touch.blk t13 Zv12 hzne
  have Bv13 := oct.Touch.below Bv12 t13 (by omega) Bv12.size
  have Kv13 := oct.Touch.blk t13 Kv12 hkne
  clear t13 R13 Zv12 Bv12 Kv12
  have k12 : v13.cell? ⟨k, 12, none⟩ = some (.int .u32 0) := Kv13.cell 12
  have f12 : v13.frozen? ⟨k, 12, none⟩ = false := Kv13.frozen 12
  have k13 : v13.cell? ⟨k, 13, none⟩ = some (.int .u32 0) := Kv13.cell 13
  have f13 : v13.frozen? ⟨k, 13, none⟩ = false := Kv13.frozen 13
  go_upto_region 8 with (fail)
  have KN : Blk ((v13.setCell ⟨k, 12, none⟩ (.int .u32 n12)).setCell ⟨k, 13, none⟩ (.int .u32 n13)) k 25 #[.int .i64 0, .int .u32 n1, .int .u32 n2, .int .u32 n3, .int .u32 n4, .int .u32 n5, .int .u32 n6, .int .i64 n7, .int .i64 n8, .int .u32 n9, .int .i64 n10, .int .i64 n11, .int .u32 n12, .int .u32 n13, .string ⟨#[]⟩, .string ⟨#[]⟩] := ((Kv13.set_ 12 (.int .u32 n12)).set_ 13 (.int .u32 n13))
  have ZN := ((Zv13.far (p := ⟨k, 12, none⟩) (by show w.heap.size ≠ k; omega) (.int .u32 n12)).far (p := ⟨k, 13, none⟩) (by show w.heap.size ≠ k; omega) (.int .u32 n13))
  have RN : RD ((v13.setCell ⟨k, 12, none⟩ (.int .u32 n12)).setCell ⟨k, 13, none⟩ (.int .u32 n13)) g l14 e14 := (Blk.far (p := ⟨k, 13, none⟩) (Blk.far (p := ⟨k, 12, none⟩) R14 (by show g ≠ k; omega) (.int .u32 n12)) (by show g ≠ k; omega) (.int .u32 n13))
  have BN := ((Bv13.setCell (p := ⟨k, 12, none⟩) (by show w.heap.size ≤ k; omega) (.int .u32 n12)).setCell (p := ⟨k, 13, none⟩) (by show w.heap.size ≤ k; omega) (.int .u32 n13))
  clear Kv13 Zv13 Bv13 R14 k12 f12 k13 f13
  generalize ((v13.setCell ⟨k, 12, none⟩ (.int .u32 n12)).setCell ⟨k, 13, none⟩ (.int .u32 n13)) = x8 at *
  have K108 := KN
  have Z108 := ZN
  have R14 := RN
  have B108 := BN
  clear KN ZN RN BN
  go_wp2_with fail
  refine (rS_x g l14 e14 _ R14 hs14).mono ?_
  rintro e v14 ⟨X, l15, e15, rfl, H14, hs15, R15, t14⟩
  have Zv14 := oct.Touch.blk t14 Z108 hzne
  have Bv14 := oct.Touch.below B108 t14 (by omega) B108.size
  have Kv14 := oct.Touch.blk t14 K108 hkne
  clear t14 R14 Z108 B108 K108
  go_wp2_with fail
  refine (rS_x g l15 e15 _ R15 hs15).mono ?_
  rintro e v15 ⟨Y, l16, e16, rfl, H15, hs16, R16, t15⟩
  have Zv15 := oct.Touch.blk t15 Zv14 hzne
  have Bv15 := oct.Touch.below Bv14 t15 (by omega) Bv14.size
  have Kv15 := oct.Touch.blk t15 Kv14 hkne
  clear t15 R15 Zv14 Bv14 Kv14
  have k14 : v15.cell? ⟨k, 14, none⟩ = some (.string ⟨#[]⟩) := Kv15.cell 14
  have f14 : v15.frozen? ⟨k, 14, none⟩ = false := Kv15.frozen 14
  have k15 : v15.cell? ⟨k, 15, none⟩ = some (.string ⟨#[]⟩) := Kv15.cell 15
  have f15 : v15.frozen? ⟨k, 15, none⟩ = false := Kv15.frozen 15
  go_upto_region 9 with (fail)
  have KN : Blk ((v15.setCell ⟨k, 14, none⟩ (.string X)).setCell ⟨k, 15, none⟩ (.string Y)) k 25 #[.int .i64 0, .int .u32 n1, .int .u32 n2, .int .u32 n3, .int .u32 n4, .int .u32 n5, .int .u32 n6, .int .i64 n7, .int .i64 n8, .int .u32 n9, .int .i64 n10, .int .i64 n11, .int .u32 n12, .int .u32 n13, .string X, .string Y] := ((Kv15.set_ 14 (.string X)).set_ 15 (.string Y))
  have ZN := ((Zv15.far (p := ⟨k, 14, none⟩) (by show w.heap.size ≠ k; omega) (.string X)).far (p := ⟨k, 15, none⟩) (by show w.heap.size ≠ k; omega) (.string Y))
  have RN : RD ((v15.setCell ⟨k, 14, none⟩ (.string X)).setCell ⟨k, 15, none⟩ (.string Y)) g l16 e16 := (Blk.far (p := ⟨k, 15, none⟩) (Blk.far (p := ⟨k, 14, none⟩) R16 (by show g ≠ k; omega) (.string X)) (by show g ≠ k; omega) (.string Y))
  have BN := ((Bv15.setCell (p := ⟨k, 14, none⟩) (by show w.heap.size ≤ k; omega) (.string X)).setCell (p := ⟨k, 15, none⟩) (by show w.heap.size ≤ k; omega) (.string Y))
  clear Kv15 Zv15 Bv15 R16 k14 f14 k15 f15
  generalize ((v15.setCell ⟨k, 14, none⟩ (.string X)).setCell ⟨k, 15, none⟩ (.string Y)) = x9 at *
  have K109 := KN
  have Z109 := ZN
  have R16 := RN
  have B109 := BN
  clear KN ZN RN BN
  have HE := Lib.hid (chain_end H0.out.2.1 H0.out.2.2 H1.out.2.1 H1.out.2.2 H2.out.2.1 H2.out.2.2 H3.out.2.1 H3.out.2.2 H4.out.2.1 H4.out.2.2 H5.out.2.1 H5.out.2.2 H6.out.2.1 H6.out.2.2 H7.out.2.1 H7.out.2.2 H8.out.2.1 H8.out.2.2 H9.out.2.1 H9.out.2.2 H10.out.2.1 H10.out.2.2 H11.out.2.1 H11.out.2.2 H12.out.2.1 H12.out.2.2 H13.out.2.1 H13.out.2.2 H14.out.2.1 H14.out.2.2 H15.out.2.1 H15.out.2.2)
  have HP := Lib.hid (show s.size = 84 → (⟨n0, n1, n2, n3, n4, n5, n6, n7, n8, n9, n10, n11, n12, n13, X, Y⟩ : Ck) = parse s from fun hz => by rw [H0.out.1, H1.out.1, H2.out.1, H3.out.1, H4.out.1, H5.out.1, H6.out.1, H7.out.1, H8.out.1, H9.out.1, H10.out.1, H11.out.1, H12.out.1, H13.out.1, H14.out.1, H15.out.1]; exact chain_parse H0.out.2.1 H0.out.2.2 H1.out.2.1 H1.out.2.2 H2.out.2.1 H2.out.2.2 H3.out.2.1 H3.out.2.2 H4.out.2.1 H4.out.2.2 H5.out.2.1 H5.out.2.2 H6.out.2.1 H6.out.2.2 H7.out.2.1 H7.out.2.2 H8.out.2.1 H8.out.2.2 H9.out.2.1 H9.out.2.2 H10.out.2.1 H10.out.2.2 H11.out.2.1 H11.out.2.2 H12.out.2.1 H12.out.2.2 H13.out.2.1 H13.out.2.2 H14.out.2.1 H14.out.2.2 H15.out.2.1 H15.out.2.2 hz)
  have HB0 := Lib.hid (show 0 ≤ n0 ∧ n0 < 18446744073709551616 from by have := rdN_lt s 8 (by omega); rw [H0.out.1]; omega)
  clear H0 H1 H2 H3 H4 H5 H6 H7 H8 H9 H10 H11 H12 H13 H14 H15 hs1 hs2 hs3 hs4 hs5 hs6 hs7 hs8 hs9 hs10 hs11 hs12 hs13 hs14 hs15 hs16
  obtain ⟨E, hE⟩ : ∃ E, endE l16 e16 = E := ⟨_, rfl⟩
  rw [hE] at HE
  have hend := fun w h => end_any g l16 e16 w h
  rw [hE] at hend
  clear hE
  go_wp2_with fail
  refine (hend _ R16).mono ?_
  rintro e y0 ⟨rfl, rfl⟩
  clear hend R16
  have ZQ : Blk x9 w.heap.size 25 #[.int .i64 0, .int .u32 0, .int .u32 0, .int .u32 0, .int .u32 0, .int .u32 0, .int .u32 0, .int .i64 0, .int .i64 0, .int .u32 0, .int .i64 0, .int .i64 0, .int .u32 0, .int .u32 0, .string ⟨#[]⟩, .string ⟨#[]⟩] := Z109
  have BQ : Below w.heap.size w x9 := B109
  have KQ : Blk x9 k 25 #[.int .i64 0, .int .u32 n1, .int .u32 n2, .int .u32 n3, .int .u32 n4, .int .u32 n5, .int .u32 n6, .int .i64 n7, .int .i64 n8, .int .u32 n9, .int .i64 n10, .int .i64 n11, .int .u32 n12, .int .u32 n13, .string X, .string Y] := K109
  clear Z109 B109 K109
  rcases (by omega : s.size < 84 ∨ s.size = 84 ∨ 84 < s.size) with hz | hz | hz
  · obtain rfl : E = 2 := by rw [HE.out]; rw [if_pos hz]
    have hres : readC s = Ck.zero ∧ readE s = 2 := ⟨by unfold readC; rw [if_neg (by intro h; have := h.1; omega)], by unfold readE; rw [if_pos hz]⟩
    clear HE HP HB0 KQ
    go_wp2_with (refine wpList_store_at rfl 25 _ _ rfl w.heap.size 0 #[.int .i64 0, .int .u32 0, .int .u32 0, .int .u32 0, .int .u32 0, .int .u32 0, .int .u32 0, .int .i64 0, .int .i64 0, .int .u32 0, .int .i64 0, .int .i64 0, .int .u32 0, .int .u32 0, .string ⟨#[]⟩, .string ⟨#[]⟩] rfl rfl _ (Cel.of_blk ZQ) szZ rfl (by kernel_rfl) ?_)
    have KK := (Cel.of_blk ZQ).setCells_same (Array.toList #[.int .i64 0, .int .u32 0, .int .u32 0, .int .u32 0, .int .u32 0, .int .u32 0, .int .u32 0, .int .i64 0, .int .i64 0, .int .u32 0, .int .i64 0, .int .i64 0, .int .u32 0, .int .u32 0, .string ⟨#[]⟩, .string ⟨#[]⟩]) rfl
    have belE := below_setCells BQ (Nat.le_refl _) 0 (Array.toList #[.int .i64 0, .int .u32 0, .int .u32 0, .int .u32 0, .int .u32 0, .int .u32 0, .int .u32 0, .int .i64 0, .int .i64 0, .int .u32 0, .int .i64 0, .int .i64 0, .int .u32 0, .int .u32 0, .string ⟨#[]⟩, .string ⟨#[]⟩])
    exact bodyPost_ret (v := .tuple #[.agg #[.int .i64 0, .int .u32 0, .int .u32 0, .int .u32 0, .int .u32 0, .int .u32 0, .int .u32 0, .int .i64 0, .int .i64 0, .int .u32 0, .int .i64 0, .int .i64 0, .int .u32 0, .int .u32 0, .string ⟨#[]⟩, .string ⟨#[]⟩], .int .i64 2]) (by rw [results_cell_tmp_at rfl _ _ w.heap.size 0 #[.int .i64 0, .int .u32 0, .int .u32 0, .int .u32 0, .int .u32 0, .int .u32 0, .int .u32 0, .int .i64 0, .int .i64 0, .int .u32 0, .int .i64 0, .int .i64 0, .int .u32 0, .int .u32 0, .string ⟨#[]⟩, .string ⟨#[]⟩] _ rfl KK Tryd.underlying25 rfl szZ]; rfl) rfl ⟨by rw [hres.1, hres.2]; rfl, belE⟩
  · obtain rfl : E = 0 := by rw [HE.out, if_neg (by omega), if_pos hz]
    have hp := HP.out hz
    have hmade : (parse s).made = n0 := by rw [← hp]
    obtain ⟨hb0, hb1⟩ := HB0.out
    clear HE HP HB0
    by_cases hbig : n0 ≤ 9223372036854775807
    · have hd : decide (9223372036854775807 < n0) = false := decide_eq_false (by omega)
      have hw : IntKind.i64.wrap n0 = n0 := IntWalk.i64_in _ (by omega)
      have c0 : x9.cell? ⟨k, 0, none⟩ = some (.int .i64 0) := KQ.cell 0
      have f0 : x9.frozen? ⟨k, 0, none⟩ = false := KQ.frozen 0
      go_upto_region 15 with (fail)
      have KN : Blk (x9.setCell ⟨k, 0, none⟩ (.int .i64 n0)) k 25 (Ck.cells (⟨n0, n1, n2, n3, n4, n5, n6, n7, n8, n9, n10, n11, n12, n13, X, Y⟩ : Ck)) := KQ.set_ 0 _
      have ZN := ZQ.far (p := ⟨k, 0, none⟩) (by show w.heap.size ≠ k; omega) (.int .i64 n0)
      have BN := BQ.setCell (p := ⟨k, 0, none⟩) (by show w.heap.size ≤ k; omega) (.int .i64 n0)
      rw [hp] at KN
      clear KQ ZQ BQ c0 f0 hw hd
      generalize x9.setCell ⟨k, 0, none⟩ (.int .i64 n0) = x15 at *
      have hres : ((parse s).may → readC s = parse s ∧ readE s = 0) ∧ (¬ (parse s).may → readC s = Ck.zero ∧ readE s = 3) := by
        refine ⟨fun hm => ?_, fun hm => ?_⟩
        · have ho : okR s := ⟨hz, by omega, hm⟩
          exact ⟨by unfold readC; rw [if_pos ho], readE_zero.2 ho⟩
        · have ho : ¬ okR s := fun h => hm h.2.2
          exact ⟨by unfold readC; rw [if_neg ho], by unfold readE; rw [if_neg (by omega), if_neg ho]⟩
      clear hp hmade
      generalize parse s = c at *
      have sz := szK c
      have one := one_all c
      go_wp2_with (refine wpList_load_at rfl 25 _ rfl k 0 rfl c.cells _ (Cel.of_blk KN) Tryd.underlying25 rfl sz ?_)
      have hmay := fun w => may_any c w
      by_cases hm : c.may
      · rw [decide_eq_true hm] at hmay
        have hres := hres.1 hm
        refine (hmay _).mono ?_
        rintro e y1 ⟨rfl, hb⟩
        have KM := KN.below hb KN.lt
        have ZM := ZN.below hb ZN.lt
        have BM := BN.trans (hb.mono BN.size)
        clear KN ZN BN hb hmay
        go_wp2_with (first | (refine wpList_load_at rfl 25 _ rfl k 0 rfl c.cells _ (Cel.of_blk KM) Tryd.underlying25 rfl sz ?_) | (refine wpList_store_at rfl 25 _ _ rfl w.heap.size 0 c.cells rfl rfl _ (Cel.of_blk ZM) sz rfl one ?_))
        have KK := (Cel.of_blk ZM).setCells_same c.cells.toList rfl
        have belE := below_setCells BM (Nat.le_refl _) 0 c.cells.toList
        exact bodyPost_ret (v := .tuple #[.agg c.cells, .int .i64 0]) (by rw [results_cell_tmp_at rfl _ _ w.heap.size 0 c.cells _ rfl (KK.congr (by simp)) Tryd.underlying25 rfl sz]; rfl) rfl ⟨by rw [hres.1, hres.2], belE⟩
      · rw [decide_eq_false hm] at hmay
        have hres := hres.2 hm
        refine (hmay _).mono ?_
        rintro e y1 ⟨rfl, hb⟩
        have ZQ := ZN.below hb ZN.lt
        have BQ := BN.trans (hb.mono BN.size)
        clear KN ZN BN hb hmay sz one
        go_wp2_with (refine wpList_store_at rfl 25 _ _ rfl w.heap.size 0 #[.int .i64 0, .int .u32 0, .int .u32 0, .int .u32 0, .int .u32 0, .int .u32 0, .int .u32 0, .int .i64 0, .int .i64 0, .int .u32 0, .int .i64 0, .int .i64 0, .int .u32 0, .int .u32 0, .string ⟨#[]⟩, .string ⟨#[]⟩] rfl rfl _ (Cel.of_blk ZQ) szZ rfl (by kernel_rfl) ?_)
        have KK := (Cel.of_blk ZQ).setCells_same (Array.toList #[.int .i64 0, .int .u32 0, .int .u32 0, .int .u32 0, .int .u32 0, .int .u32 0, .int .u32 0, .int .i64 0, .int .i64 0, .int .u32 0, .int .i64 0, .int .i64 0, .int .u32 0, .int .u32 0, .string ⟨#[]⟩, .string ⟨#[]⟩]) rfl
        have belE := below_setCells BQ (Nat.le_refl _) 0 (Array.toList #[.int .i64 0, .int .u32 0, .int .u32 0, .int .u32 0, .int .u32 0, .int .u32 0, .int .u32 0, .int .i64 0, .int .i64 0, .int .u32 0, .int .i64 0, .int .i64 0, .int .u32 0, .int .u32 0, .string ⟨#[]⟩, .string ⟨#[]⟩])
        exact bodyPost_ret (v := .tuple #[.agg #[.int .i64 0, .int .u32 0, .int .u32 0, .int .u32 0, .int .u32 0, .int .u32 0, .int .u32 0, .int .i64 0, .int .i64 0, .int .u32 0, .int .i64 0, .int .i64 0, .int .u32 0, .int .u32 0, .string ⟨#[]⟩, .string ⟨#[]⟩], .int .i64 3]) (by rw [results_cell_tmp_at rfl _ _ w.heap.size 0 #[.int .i64 0, .int .u32 0, .int .u32 0, .int .u32 0, .int .u32 0, .int .u32 0, .int .u32 0, .int .i64 0, .int .i64 0, .int .u32 0, .int .i64 0, .int .i64 0, .int .u32 0, .int .u32 0, .string ⟨#[]⟩, .string ⟨#[]⟩] _ rfl KK Tryd.underlying25 rfl szZ]; rfl) rfl ⟨by rw [hres.1, hres.2]; rfl, belE⟩
    · have hd : decide (9223372036854775807 < n0) = true := decide_eq_true (by omega)
      have hres : readC s = Ck.zero ∧ readE s = 3 := by
        have ho : ¬ okR s := fun h => by have := h.2.1; omega
        exact ⟨by unfold readC; rw [if_neg ho], by unfold readE; rw [if_neg (by omega), if_neg ho]⟩
      clear KQ hp hmade
      go_wp2_with (refine wpList_store_at rfl 25 _ _ rfl w.heap.size 0 #[.int .i64 0, .int .u32 0, .int .u32 0, .int .u32 0, .int .u32 0, .int .u32 0, .int .u32 0, .int .i64 0, .int .i64 0, .int .u32 0, .int .i64 0, .int .i64 0, .int .u32 0, .int .u32 0, .string ⟨#[]⟩, .string ⟨#[]⟩] rfl rfl _ (Cel.of_blk ZQ) szZ rfl (by kernel_rfl) ?_)
      have KK := (Cel.of_blk ZQ).setCells_same (Array.toList #[.int .i64 0, .int .u32 0, .int .u32 0, .int .u32 0, .int .u32 0, .int .u32 0, .int .u32 0, .int .i64 0, .int .i64 0, .int .u32 0, .int .i64 0, .int .i64 0, .int .u32 0, .int .u32 0, .string ⟨#[]⟩, .string ⟨#[]⟩]) rfl
      have belE := below_setCells BQ (Nat.le_refl _) 0 (Array.toList #[.int .i64 0, .int .u32 0, .int .u32 0, .int .u32 0, .int .u32 0, .int .u32 0, .int .u32 0, .int .i64 0, .int .i64 0, .int .u32 0, .int .i64 0, .int .i64 0, .int .u32 0, .int .u32 0, .string ⟨#[]⟩, .string ⟨#[]⟩])
      exact bodyPost_ret (v := .tuple #[.agg #[.int .i64 0, .int .u32 0, .int .u32 0, .int .u32 0, .int .u32 0, .int .u32 0, .int .u32 0, .int .i64 0, .int .i64 0, .int .u32 0, .int .i64 0, .int .i64 0, .int .u32 0, .int .u32 0, .string ⟨#[]⟩, .string ⟨#[]⟩], .int .i64 3]) (by rw [results_cell_tmp_at rfl _ _ w.heap.size 0 #[.int .i64 0, .int .u32 0, .int .u32 0, .int .u32 0, .int .u32 0, .int .u32 0, .int .u32 0, .int .i64 0, .int .i64 0, .int .u32 0, .int .i64 0, .int .i64 0, .int .u32 0, .int .u32 0, .string ⟨#[]⟩, .string ⟨#[]⟩] _ rfl KK Tryd.underlying25 rfl szZ]; rfl) rfl ⟨by rw [hres.1, hres.2]; rfl, belE⟩
  · obtain rfl : E = 3 := by rw [HE.out]; rw [if_neg (by omega), if_neg (by omega)]
    have hres : readC s = Ck.zero ∧ readE s = 3 := ⟨by unfold readC; rw [if_neg (by intro h; have := h.1; omega)], by unfold readE; rw [if_neg (by omega), if_neg (by intro h; have := h.1; omega)]⟩
    clear HE HP HB0 KQ
    go_wp2_with (refine wpList_store_at rfl 25 _ _ rfl w.heap.size 0 #[.int .i64 0, .int .u32 0, .int .u32 0, .int .u32 0, .int .u32 0, .int .u32 0, .int .u32 0, .int .i64 0, .int .i64 0, .int .u32 0, .int .i64 0, .int .i64 0, .int .u32 0, .int .u32 0, .string ⟨#[]⟩, .string ⟨#[]⟩] rfl rfl _ (Cel.of_blk ZQ) szZ rfl (by kernel_rfl) ?_)
    have KK := (Cel.of_blk ZQ).setCells_same (Array.toList #[.int .i64 0, .int .u32 0, .int .u32 0, .int .u32 0, .int .u32 0, .int .u32 0, .int .u32 0, .int .i64 0, .int .i64 0, .int .u32 0, .int .i64 0, .int .i64 0, .int .u32 0, .int .u32 0, .string ⟨#[]⟩, .string ⟨#[]⟩]) rfl
    have belE := below_setCells BQ (Nat.le_refl _) 0 (Array.toList #[.int .i64 0, .int .u32 0, .int .u32 0, .int .u32 0, .int .u32 0, .int .u32 0, .int .u32 0, .int .i64 0, .int .i64 0, .int .u32 0, .int .i64 0, .int .i64 0, .int .u32 0, .int .u32 0, .string ⟨#[]⟩, .string ⟨#[]⟩])
    exact bodyPost_ret (v := .tuple #[.agg #[.int .i64 0, .int .u32 0, .int .u32 0, .int .u32 0, .int .u32 0, .int .u32 0, .int .u32 0, .int .i64 0, .int .i64 0, .int .u32 0, .int .i64 0, .int .i64 0, .int .u32 0, .int .u32 0, .string ⟨#[]⟩, .string ⟨#[]⟩], .int .i64 3]) (by rw [results_cell_tmp_at rfl _ _ w.heap.size 0 #[.int .i64 0, .int .u32 0, .int .u32 0, .int .u32 0, .int .u32 0, .int .u32 0, .int .u32 0, .int .i64 0, .int .i64 0, .int .u32 0, .int .i64 0, .int .i64 0, .int .u32 0, .int .u32 0, .string ⟨#[]⟩, .string ⟨#[]⟩] _ rfl KK Tryd.underlying25 rfl szZ]; rfl) rfl ⟨by rw [hres.1, hres.2]; rfl, belE⟩
end Go.Proofs.YtbdbcjhahlofiaaDoor.coo
