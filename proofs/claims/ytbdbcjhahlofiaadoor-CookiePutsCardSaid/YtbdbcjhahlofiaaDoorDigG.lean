/- Layer 8: the digest of bytes, by the document. -/
import Derived.Test.YtbdbcjhahlofiaaDoorDigF
namespace Go.Proofs.YtbdbcjhahlofiaaDoor.dig
open Go.ChangeShapes Go.WideShapes Go.ChangeAt Go.RowKit kit
open crc (ones xor_ones word)
open oct

theorem block_blk (B : ByteArray) (s : St) (w : World) (hs : s.ok) (hB : B.size = 64) : Calls Tryd.prog 41 #[.agg #[.int .u32 (s.a : Int), .int .u32 (s.b : Int), .int .u32 (s.c : Int), .int .u32 (s.d : Int), .int .u32 (s.e : Int)], .string B] w fun e w' => e = .returned (.agg #[.int .u32 ((blk B.data.toList s).a : Int), .int .u32 ((blk B.data.toList s).b : Int), .int .u32 ((blk B.data.toList s).c : Int), .int .u32 ((blk B.data.toList s).d : Int), .int .u32 ((blk B.data.toList s).e : Int)]) ∧ Below w.heap.size w w' :=
  block_any s B w hs hB

set_option maxRecDepth 100000 in
set_option maxHeartbeats 4000000 in
theorem ref_dig (s : ByteArray) (w : World) (hs : s.size ≤ 1000000) : Calls Tryd.prog 27 #[.string s] w fun e w' => e = .returned (.string (digS s)) ∧ Below w.heap.size w w' := by
  obtain ⟨z, hz⟩ : ∃ z, (119 - s.size % 64) % 64 = z := ⟨_, rfl⟩
  have hz64 : z < 64 := by omega
  have hps := pad_size s
  obtain ⟨n, hn⟩ : ∃ n, (pad s).size = 64 * n := ⟨(pad s).size / 64, by omega⟩
  have hn2 : n ≤ 20000 := by omega
  have HN := Lib.hid hn
  have h8 := fun w => put_at 8 ((8 * s.size : Nat) : Int) 8 w rfl (by omega) (by omega) (by omega)
  have HP := Lib.hid (show pad s = s ++ ⟨#[128]⟩ ++ zeros z ++ strOfNums (be ((8 * s.size : Nat) : Int) 8) by unfold pad; rw [hz])
  have hc : ((8 * s.size : Nat) : Int) = (s.size : Int) * 8 := by omega
  have h8s : (strOfNums (be ((8 * s.size : Nat) : Int) 8)).size ≤ 8 := by rw [strOfNums_size, be_length]; omega
  rw [hc] at h8 HP h8s
  generalize strOfNums (be ((s.size : Int) * 8) 8) = Y at *
  have HZ := Lib.hid hz
  clear hps hn hc hz
  go_enter Tryd.func27, Tryd.ntmps27
  go_wp2
  go_loop [3] (fun s3 => ∃ (j : Nat) (T : ByteArray), j ≤ z ∧ T = s ++ ⟨#[128]⟩ ++ zeros j ∧ s3 = .string T) (fun s3 => 2000000 - strLen s3)
  case atStart => exact ⟨0, _, by omega, by rw [show zeros 0 = ByteArray.empty from rfl, ByteArray.append_empty], rfl⟩
  case round =>
    obtain ⟨j, T, hj, hT, rfl⟩ := hrel
    have hTs : T.size = s.size + 1 + j := by rw [hT, ByteArray.size_append, ByteArray.size_append, zeros_size]; rfl
    have hTm : T.size ≤ 1000100 := by omega
    have hT2 : T ++ ⟨#[0]⟩ = s ++ ⟨#[128]⟩ ++ zeros (j + 1) := by rw [hT]; exact zeros_snoc _ _
    by_cases hlt : j < z
    · have hb : ((T.size : Int) % 64 != 56) = true := by rw [bne_iff_ne]; have := HZ.out; omega
      have H2 := Lib.hid hT2
      have HTs := Lib.hid hTs
      clear hT hT2 hTs
      go_wp2
      clear hb
      go_round
      case rel => exact ⟨j + 1, _, by omega, H2.out, rfl⟩
      case measure => simp only [strLen, ByteArray.size_append]; have : (⟨#[0]⟩ : ByteArray).size = 1 := rfl; omega
    · have hb : ((T.size : Int) % 64 != 56) = false := by rw [bne_eq_false_iff_eq]; have := HZ.out; omega
      have hTY : T ++ Y = pad s := by rw [HP.out, hT, show j = z by omega]
      have HTY := Lib.hid hTY
      clear hT hT2 hTs hlt hj hTY
      go_wp2_with fail
      refine (h8 _).mono ?_
      rintro e w1 ⟨rfl, hb1⟩
      clear h8 hb
      go_upto_region 5 with (fail)
      rw [HTY.out]
      have HD := Lib.hid (dig_str s n HN.out)
      have hPm : (pad s).size ≤ 1280000 := by rw [HN.out]; omega
      clear HTY HP HZ hTm h8s hz64
      generalize pad s = P at *
      go_upto_region 6 with (fail)
      have B0 : Blk (w1.alloc (.cells #[.int .u32 1732584193, .int .u32 4023233417, .int .u32 2562383102, .int .u32 271733878, .int .u32 3285377520] 65)) w1.heap.size 65 (cells5 (bl P.data.toList 0)) := Blk.new w1 _ _
      have bel0 := hb1.alloc hb1.size (.cells #[.int .u32 1732584193, .int .u32 4023233417, .int .u32 2562383102, .int .u32 271733878, .int .u32 3285377520] 65)
      have hg := hb1.size
      generalize w1.alloc (.cells #[.int .u32 1732584193, .int .u32 4023233417, .int .u32 2562383102, .int .u32 271733878, .int .u32 3285377520] 65) = w2 at *
      generalize w1.heap.size = g at *
      clear hb1
      go_wp2
      go_loopw [5] (fun s5 wr => ∃ k m : Nat, k ≤ n ∧ m = 64 * k ∧ s5 = .int .i64 m ∧ Blk wr g 65 (cells5 (bl P.data.toList k)) ∧ Below w.heap.size w wr) (fun s5 _ => 1280000 - (intOf s5).toNat)
      case atStart => exact ⟨0, 0, by omega, rfl, rfl, B0, bel0⟩
      case round =>
        clear B0 bel0
        obtain ⟨k, m, hk, hm, rfl, B1, bel⟩ := hrel
        have hPs := HN.out
        by_cases hlt : k < n
        · have h1 : m < P.size := by omega
          have h2 : m + 64 ≤ P.size := by omega
          have hx : (P.extract m (m + 64)).size = 64 := by rw [ByteArray.size_extract]; omega
          have hb := bl_succ P k (by omega)
          rw [← hm] at hb
          obtain ⟨t, ht⟩ : ∃ t, bl P.data.toList k = t := ⟨_, rfl⟩
          have htok : t.ok := by rw [← ht]; exact bl_ok _ k
          have hM := fun w => block_blk (P.extract m (m + 64)) t w htok hx
          rw [ht] at hb B1
          rw [← hb] at hM
          obtain ⟨t1, ht1⟩ : ∃ t, bl P.data.toList (k + 1) = t := ⟨_, rfl⟩
          have HT1 := Lib.hid ht1
          rw [ht1] at hM
          have HM := Lib.hid hm
          clear ht1 hm hx ht htok hb hPs
          have c0 : wr.cell? ⟨g, 0, none⟩ = some (.int .u32 (t.a : Int)) := B1.cell 0
          have c1 : wr.cell? ⟨g, 1, none⟩ = some (.int .u32 (t.b : Int)) := B1.cell 1
          have c2 : wr.cell? ⟨g, 2, none⟩ = some (.int .u32 (t.c : Int)) := B1.cell 2
          have c3 : wr.cell? ⟨g, 3, none⟩ = some (.int .u32 (t.d : Int)) := B1.cell 3
          have c4 : wr.cell? ⟨g, 4, none⟩ = some (.int .u32 (t.e : Int)) := B1.cell 4
          have Bd := B1.drew
          have beld := bel.drew
          obtain ⟨q, hq⟩ : ∃ q, m + 64 = q := ⟨_, rfl⟩
          have hw : IntKind.i64.wrap ((m : Int) + 64) = (q : Int) := by rw [IntWalk.i64_in _ (by omega)]; omega
          have hqP : q ≤ P.size := by omega
          have hmq : m ≤ q := by omega
          rw [hq] at hM
          have HQ := Lib.hid hq
          clear hq h2
          go_upto_region 9 with (fail)
          go_region_with (go_at_call 41; refine (hM _).mono ?_; rintro e w7 ⟨rfl, hb7⟩; have B7 := Bd.below hb7 Bd.lt; have bel7 := beld.trans (hb7.mono beld.size); have k0 : w7.cell? ⟨g, 0, none⟩ = some (.int .u32 (t.a : Int)) := B7.cell 0; have k1 : w7.cell? ⟨g, 1, none⟩ = some (.int .u32 (t.b : Int)) := B7.cell 1; have k2 : w7.cell? ⟨g, 2, none⟩ = some (.int .u32 (t.c : Int)) := B7.cell 2; have k3 : w7.cell? ⟨g, 3, none⟩ = some (.int .u32 (t.d : Int)) := B7.cell 3; have k4 : w7.cell? ⟨g, 4, none⟩ = some (.int .u32 (t.e : Int)) := B7.cell 4; have f0 := B7.frozen 0; have f1 := B7.frozen 1; have f2 := B7.frozen 2; have f3 := B7.frozen 3; have f4 := B7.frozen 4)
          all_goals
            clear hw
            have HQ2 := HQ.out
            subst HQ2
            go_wp2
            clear k0 k1 k2 k3 k4 f0 f1 f2 f3 f4
            go_roundw
            case rel => exact ⟨k + 1, m + 64, by omega, by rw [HM.out]; omega, by go_num, by rw [HT1.out]; exact set5 B7 t1, belset5 bel7 hg _ _ _ _ _⟩
            case measure => simp [intOf]; omega
        · have hk' : k = n := by omega
          subst hk'
          have hmp : ¬ m < P.size := by omega
          clear hm hPs hlt hk HN hn2
          obtain ⟨t, ht⟩ : ∃ t, bl P.data.toList k = t := ⟨_, rfl⟩
          rw [ht] at HD B1
          have hok : t.ok := by rw [← ht]; exact bl_ok _ k
          clear ht
          obtain ⟨o1, o2, o3, o4, o5⟩ := hok
          have u0 := fun w => put_at 4 (t.a : Int) 4 w rfl (by omega) (by omega) (by omega)
          have u1 := fun w => put_at 4 (t.b : Int) 4 w rfl (by omega) (by omega) (by omega)
          have u2 := fun w => put_at 4 (t.c : Int) 4 w rfl (by omega) (by omega) (by omega)
          have u3 := fun w => put_at 4 (t.d : Int) 4 w rfl (by omega) (by omega) (by omega)
          have u4 := fun w => put_at 4 (t.e : Int) 4 w rfl (by omega) (by omega) (by omega)
          have z0 := s4_size t.a
          have z1 := s4_size t.b
          have z2 := s4_size t.c
          have z3 := s4_size t.d
          have z4 := s4_size t.e
          rw [← out_str] at HD
          unfold s4 at z0 z1 z2 z3 z4 HD
          have o1' : ((t.a : Nat) : Int) < 18446744073709551616 := by omega
          have o2' : ((t.b : Nat) : Int) < 18446744073709551616 := by omega
          have o3' : ((t.c : Nat) : Int) < 18446744073709551616 := by omega
          have o4' : ((t.d : Nat) : Int) < 18446744073709551616 := by omega
          have o5' : ((t.e : Nat) : Int) < 18446744073709551616 := by omega
          clear o1 o2 o3 o4 o5
          generalize strOfNums (be (t.a : Int) 4) = y0 at *
          generalize strOfNums (be (t.b : Int) 4) = y1 at *
          generalize strOfNums (be (t.c : Int) 4) = y2 at *
          generalize strOfNums (be (t.d : Int) 4) = y3 at *
          generalize strOfNums (be (t.e : Int) 4) = y4 at *
          have c0 : wr.cell? ⟨g, 0, none⟩ = some (.int .u32 (t.a : Int)) := B1.cell 0
          go_wp2
          refine wp_loop_rounds 6 ?_
          rw [rounds_succ]
          go_wp2_with fail
          refine (u0 _).mono ?_
          rintro e w2 ⟨rfl, hb2⟩
          have B2 := B1.below hb2 B1.lt
          have q2 := bel.trans (hb2.mono bel.size)
          clear c0 B1 bel hb2 u0
          have c0 : w2.cell? ⟨g, 1, none⟩ = some (.int .u32 (t.b : Int)) := B2.cell 1
          go_wp2
          rw [rounds_succ]
          go_wp2_with fail
          refine (u1 _).mono ?_
          rintro e w3 ⟨rfl, hb3⟩
          have B3 := B2.below hb3 B2.lt
          have q3 := q2.trans (hb3.mono q2.size)
          clear c0 B2 q2 hb3 u1
          have c0 : w3.cell? ⟨g, 2, none⟩ = some (.int .u32 (t.c : Int)) := B3.cell 2
          go_wp2
          rw [rounds_succ]
          go_wp2_with fail
          refine (u2 _).mono ?_
          rintro e w4 ⟨rfl, hb4⟩
          have B4 := B3.below hb4 B3.lt
          have q4 := q3.trans (hb4.mono q3.size)
          clear c0 B3 q3 hb4 u2
          have c0 : w4.cell? ⟨g, 3, none⟩ = some (.int .u32 (t.d : Int)) := B4.cell 3
          go_wp2
          rw [rounds_succ]
          go_wp2_with fail
          refine (u3 _).mono ?_
          rintro e w5 ⟨rfl, hb5⟩
          have B5 := B4.below hb5 B4.lt
          have q5 := q4.trans (hb5.mono q4.size)
          clear c0 B4 q4 hb5 u3
          have c0 : w5.cell? ⟨g, 4, none⟩ = some (.int .u32 (t.e : Int)) := B5.cell 4
          go_wp2
          rw [rounds_succ]
          go_wp2_with fail
          refine (u4 _).mono ?_
          rintro e w6 ⟨rfl, hb6⟩
          clear c0 B5 u4
          go_wp2
          rw [rounds_succ]
          go_wp2
          go_ret
          rw [HD.out]
          exact ⟨rfl, q5.trans (hb6.mono q5.size)⟩
end Go.Proofs.YtbdbcjhahlofiaaDoor.dig
