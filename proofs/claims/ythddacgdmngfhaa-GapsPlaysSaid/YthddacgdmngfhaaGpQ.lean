/- Layer 16: numbers in one order and in another one: the statement walked. -/
import Derived.Test.YthddacgdmngfhaaGpP
namespace Go.Proofs.Ythddacgdmngfhaa.gap
open Go.Sort (grow)
open Go.ChangeShapes Go.WideShapes Go.ChangeAt Go.RowKit kit gapm
set_option maxRecDepth 100000
theorem u32_1 (C v : Nat) : ((C : Int) + 1 + (v : Int)) % 4294967296 = ab C (v + 1) := by
  unfold ab
  omega
theorem eqB (b : Bool) (W : World) : (binOp .eql 4 (.bool b) (.bool b)).run Try.prog W = .ok (.bool true) W := by
  cases b <;> kernel_rfl
set_option maxHeartbeats 8000000 in
theorem order_walk (C : Nat) (hC : C < 4294967296) (oa : Option Addr) (a : Addr) (len cap : Nat) (v : Nat → Nat) (w : World) (hlc : len ≤ cap) (hcm : cap ≤ maxLen) (hoa : 0 < len → oa = some a) (hab : 0 < len → a.block < w.heap.size)
    (hv : ∀ i, i < len → v i ≤ 255 ∧ w.cell? (a.add i) = some (.int .u8 (v i))) :
    Calls Try.prog 7 #[.int .u32 (C : Int), .slice oa len cap] w fun e w' => e = .returned (.bool true) ∧ Below w.heap.size w w' := by
  unfold maxLen at hcm
  have HV := Lib.hid (And.intro hoa (And.intro hab hv))
  clear hoa hab hv
  obtain ⟨n, hn⟩ : ∃ n, min len 60 = n := ⟨_, rfl⟩
  obtain ⟨G, hG⟩ : ∃ G, w.heap.size = G := ⟨_, rfl⟩
  go_enter Try.func7, Try.ntmps7
  go_wp2_with fail
  refine (new_gt C hC _).mono ?_
  rintro e w1 ⟨rfl, G1, b1⟩
  go_wp2_with fail
  refine (new_gt C hC _).mono ?_
  rintro e w2 ⟨rfl, G2, b2⟩
  have hs1 := b1.size
  have A2 := (G1.below b2 (Nat.le_refl _))
  have hga : w.heap.size < w1.heap.size := G1.B.lt
  have bel2 : Below G w w2 := by rw [← hG]; exact b1.trans (b2.mono hs1)
  have A3 : Gt G w.heap.size C ⟨0, []⟩ [] (.slice none 0 0) (.slice none 0 0) w2 := A2.weaken (by omega)
  have B3 : Gt G w1.heap.size C ⟨0, []⟩ [] (.slice none 0 0) (.slice none 0 0) w2 := G2.weaken (by omega)
  clear G1 G2 A2 b1 b2
  obtain ⟨gb, hgb'⟩ : ∃ gb, w1.heap.size = gb := ⟨_, rfl⟩
  rw [hG] at A3 hga
  rw [hgb'] at B3 hga ⊢
  go_upto_region 2 with fail
  go_cut [7] (fun s7 wx => s7 = .int .i64 n ∧ wx = w2)
  case first =>
    by_cases h60 : (len : Int) ≤ 60
    · obtain rfl : n = len := by omega
      go_wp2_with fail
      all_goals
        go_meet
        exact ⟨by first | rfl | (congr 1; omega), rfl⟩
    · obtain rfl : n = 60 := by omega
      go_wp2_with fail
      all_goals
        go_meet
        exact ⟨by first | rfl | (congr 1; omega), rfl⟩
  case rest =>
  obtain ⟨rfl, hwc⟩ := hcut
  obtain rfl : w2 = wc := hwc.symm
  have hn2 : n ≤ len ∧ n ≤ 60 := by omega
  go_wp2_with fail
  go_loopw [8] (fun s8 wr => ∃ (i : Nat) (sa sb : St) (Da Db : List Int) (pa da pb db : Value), i ≤ n ∧ s8 = .int .i64 i ∧ Cm G G C (fun y => ∃ j, j < i ∧ v j + 1 = y) i sa Da pa da wr ∧ Cm G gb C (fun y => ∃ j, j < i ∧ v (n - 1 - j) + 1 = y) i sb Db pb db wr ∧ Apart G gb pa da pb db ∧ Below G w wr) (fun s8 _ => n - (intOf s8).toNat)
  case atStart =>
    have em : ∀ y, (⟨0, []⟩ : St).has y ↔ y = 0 ∨ False := fun y => by
      show (y ≤ 0 ∨ Mem y []) ↔ _
      simp only [Mem.nil, or_false]
      omega
    refine ⟨0, ⟨0, []⟩, ⟨0, []⟩, [], [], _, _, _, _, by omega, rfl, ⟨A3, trivial, fun y => by rw [em]; simp, fun y hy => by simp at hy, Nat.le_refl _, by simp⟩, ⟨B3, trivial, fun y => by rw [em]; simp, fun y hy => by simp at hy, Nat.le_refl _, by simp⟩, ?_, bel2⟩
    rintro k (rfl | hk | hk)
    · exact ⟨by omega, (fun e => by cases e), (fun e => by cases e)⟩
    · cases hk
    · cases hk
  case round =>
    clear A3 B3 bel2
    obtain ⟨i, sa, sb, Da, Db, pa, da, pb, db, hi, rfl, cA, cB, hap, bel⟩ := hrel
    by_cases hlt : i < n
    · have ho := HV.out.1 (by omega)
      subst ho
      have hab := HV.out.2.1 (by omega)
      obtain ⟨hv1, hc1⟩ := HV.out.2.2 i (by omega)
      obtain ⟨hv2, hc2⟩ := HV.out.2.2 (n - 1 - i) (by omega)
      have k1 : wr.cell? (a.add i) = some (.int .u8 (v i)) := (bel.cell (p := a.add i) (by rw [show (a.add i).block = a.block by unfold Addr.add; split <;> rfl]; omega)).trans hc1
      have HK2 := Lib.hid (show ∀ wx, Below G w wx → wx.cell? (a.add (n - 1 - i)) = some (.int .u8 (v (n - 1 - i))) from fun wx hb => (hb.cell (p := a.add (n - 1 - i)) (by rw [show (a.add (n - 1 - i)).block = a.block by unfold Addr.add; split <;> rfl]; omega)).trans hc2)
      have hadd := cA.add (by omega) (v i + 1) (by omega)
      have hw1 := u32_1 C (v i)
      have hli : (i : Int) < (len : Int) := by omega
      have HA := Lib.hid (And.intro cA (And.intro cB (And.intro hap bel)))
      clear cA cB hap bel hc1 hc2
      go_wp2_with fail
      refine hadd.mono ?_
      rintro e w3 ⟨r, rfl, pa', da', G3, U3, B3⟩
      go_upto_region 7 with fail
      obtain ⟨hB3, hap3⟩ := HA.out.1.t.stays HA.out.2.1.t U3 HA.out.2.2.1
      have cA3 : Cm G G C (fun y => ∃ j, j < i + 1 ∧ v j + 1 = y) (i + 1) _ _ pa' da' w3 := HA.out.1.turn (v i + 1) (by omega) (fun y => by
        constructor
        · rintro ⟨j, hj, rfl⟩
          by_cases e : j = i
          · exact .inl (by rw [e])
          · exact .inr ⟨j, by omega, rfl⟩
        · rintro (rfl | ⟨j, hj, rfl⟩)
          · exact ⟨i, by omega, rfl⟩
          · exact ⟨j, by omega, rfl⟩) G3
      have cB3 : Cm G gb C (fun y => ∃ j, j < i ∧ v (n - 1 - j) + 1 = y) i sb Db pb db w3 := ⟨hB3, HA.out.2.1.ok, HA.out.2.1.has, HA.out.2.1.bd, HA.out.2.1.len, HA.out.2.1.dl⟩
      have bel3 := HA.out.2.2.2.trans B3
      have HX := Lib.hid (And.intro cA3 (And.intro cB3 (And.intro hap3 bel3)))
      have k2 := HK2.out w3 bel3
      have hadd2 := cB3.add (by omega) (v (n - 1 - i) + 1) (by omega)
      have hw2 := u32_1 C (v (n - 1 - i))
      obtain ⟨m, hm⟩ : ∃ m, n - 1 - i = m := ⟨_, rfl⟩
      have hmi : (n : Int) - 1 - (i : Int) = (m : Int) := by omega
      have hmw : IntKind.i64.wrap (IntKind.i64.wrap ((n : Int) - 1) - (i : Int)) = (m : Int) := by rw [IntKind.wrap_i64, IntKind.wrap_i64]; omega
      have hmw1 : IntKind.i64.wrap ((n : Int) - 1) = (n : Int) - 1 := by rw [IntKind.wrap_i64]; omega
      have hlm : (m : Int) < (len : Int) := by omega
      have HM := Lib.hid hm
      rw [hm] at k2 hadd2 hw2
      clear HK2 hm cA3 cB3 hap3 bel3 hadd hw1 k1 G3 U3 B3 hB3 hv2
      go_wp2_with fail
      refine hadd2.mono ?_
      rintro e w4 ⟨r2, rfl, pb', db', G4, U4, B4⟩
      obtain ⟨hA4, hap4⟩ := HX.out.2.1.t.stays HX.out.1.t U4 HX.out.2.2.1.symm
      have cB4 : Cm G gb C (fun y => ∃ j, j < i + 1 ∧ v (n - 1 - j) + 1 = y) (i + 1) _ _ pb' db' w4 := HX.out.2.1.turn (v m + 1) (by have := (HV.out.2.2 m (by have := HM.out; omega)).1; omega) (fun y => by
        have hm := HM.out
        constructor
        · rintro ⟨j, hj, rfl⟩
          by_cases e : j = i
          · exact .inl (by rw [e, hm])
          · exact .inr ⟨j, by omega, rfl⟩
        · rintro (rfl | ⟨j, hj, rfl⟩)
          · exact ⟨i, by omega, by rw [hm]⟩
          · exact ⟨j, by omega, rfl⟩) G4
      have cA4 : Cm G G C (fun y => ∃ j, j < i + 1 ∧ v j + 1 = y) (i + 1) _ _ pa' da' w4 := ⟨hA4, HX.out.1.ok, HX.out.1.has, HX.out.1.bd, HX.out.1.len, HX.out.1.dl⟩
      have HY := Lib.hid (And.intro cA4 (And.intro cB4 (And.intro hap4.symm (HX.out.2.2.2.trans B4))))
      clear hadd2 hw2 k2 G4 U4 B4 hA4 hap4 cB4 cA4
      go_wp2_with fail
      go_roundw
      case rel => exact ⟨i + 1, _, _, _, _, pa', da', pb', db', by omega, by go_num, HY.out.1, HY.out.2.1, HY.out.2.2.1, HY.out.2.2.2⟩
      case measure => simp [intOf]; omega
    · obtain rfl : i = n := by omega
      have hs : sa = sb := st_eq cA.ok cB.ok fun y => by
        rw [cA.has, cB.has]
        constructor
        · rintro (h | ⟨j, hj, rfl⟩)
          · exact .inl h
          · exact .inr ⟨i - 1 - j, by omega, by rw [show i - 1 - (i - 1 - j) = j by omega]⟩
        · rintro (h | ⟨j, hj, rfl⟩)
          · exact .inl h
          · exact .inr ⟨i - 1 - j, by omega, rfl⟩
      subst hs
      have HA := Lib.hid (And.intro cA (And.intro cB bel))
      clear cA cB hap bel
      go_wp2_with fail
      refine (awake16_any _).mono ?_
      rintro e w3 ⟨rfl, hb3⟩
      obtain ⟨hfc, hfP⟩ := HA.out.1.fine
      have hlen := HA.out.1.len
      have A4 := HA.out.1.t.below hb3 (Nat.le_refl _)
      have B4 := HA.out.2.1.t.below hb3 (Nat.le_refl _)
      have bel4 : Below G w w3 := HA.out.2.2.trans (hb3.mono (by have := HA.out.2.2.size; omega))
      have heq := eqB sa.P.isEmpty
      have hll : (gl sa.c (sa.P.take 16)).length = min sa.P.length 16 := by simp [gl, Nat.min_comm]
      have HL := Lib.hid hll
      clear hb3 HA hll
      go_wp2_with fail
      refine (cum_any A4).mono ?_
      rintro e wz ⟨rfl, hwz⟩
      obtain rfl : w3 = wz := hwz
      go_wp2_with fail
      refine (cum_any B4).mono ?_
      rintro e wz ⟨rfl, hwz⟩
      obtain rfl : w3 = wz := hwz
      go_wp2_with fail
      refine (gaps_any A4 (by omega) hfP (by omega)).mono ?_
      rintro e w5 ⟨va, rfl, oA5, b5⟩
      have A5 := A4.below b5 (Nat.le_refl _)
      have B5 := B4.below b5 (Nat.le_refl _)
      have bel5 : Below G w w5 := bel4.trans (b5.mono (by have := bel4.size; omega))
      have HO5 := Lib.hid oA5
      clear A4 B4 bel4 b5 oA5
      go_wp2_with fail
      refine (gaps_any B5 (by omega) hfP (by omega)).mono ?_
      rintro e w6 ⟨vb, rfl, oB6, b6⟩
      have A6 := A5.below b6 (Nat.le_refl _)
      have B6 := B5.below b6 (Nat.le_refl _)
      have bel6 : Below G w w6 := bel5.trans (b6.mono (by have := bel5.size; omega))
      have oA6 := own_below HO5.out b6 (fun k hk => own_lt' HO5.out hk)
      rw [← HL.out] at oA6 oB6
      have hsm := same_any oA6 oB6 (by rw [HL.out]; omega)
      clear A5 B5 bel5 b6 oA6 oB6 HO5
      go_wp2_with fail
      refine hsm.mono ?_
      rintro e w7 ⟨rfl, b7⟩
      have A7 := A6.below b7 (Nat.le_refl _)
      have B7 := B6.below b7 (Nat.le_refl _)
      have bel7 : Below G w w7 := bel6.trans (b7.mono (by have := bel6.size; omega))
      clear A6 B6 bel6 b7 hsm
      go_wp2_with fail
      refine (whole_any A7).mono ?_
      rintro e wz ⟨rfl, hwz⟩
      obtain rfl : w7 = wz := hwz
      go_wp2_with fail
      refine (whole_any B7).mono ?_
      rintro e wz ⟨rfl, hwz⟩
      obtain rfl : w7 = wz := hwz
      go_wp2_with fail
      go_ret
      exact ⟨by first | rfl | (simp; done), by rw [hG]; exact bel7⟩
end Go.Proofs.Ythddacgdmngfhaa.gap
