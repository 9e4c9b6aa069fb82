/- Layer 21: a chunk that three sacks miss; the statement walked. -/
import Derived.Test.YthddacgdmngfhaaFfK
namespace Go.Proofs.Ythddacgdmngfhaa.fli
open Go.Sort (grow)
open Go.ChangeShapes Go.WideShapes Go.ChangeAt Go.RowKit kit
set_option maxRecDepth 100000

theorem build_ch (W : World) : (Instr.build 40 #[(0, .int .i64 0), (6, .string ⟨#[120]⟩)]).run Try.prog W = .ok (.agg (ch 0 0 ⟨#[120]⟩)) W := by kernel_rfl
theorem nx_zero (c : Int) : nx c 0 = (c + 1) % 4294967296 := by unfold nx; omega
set_option maxHeartbeats 8000000 in
theorem fast_walk (c many : Int) (w : World) : Calls Try.prog 11 #[.int .u32 c, .int .i64 many] w fun e w' => e = .returned (.bool true) ∧ Below w.heap.size w w' := by
  obtain ⟨k, hk, hk7⟩ : ∃ k : Nat, bits .and .i64 many 7 = k ∧ k ≤ 7 := ⟨(many % (2 ^ 3 : Nat)).toNat, by have := i64_mask many 3 (by omega); rw [show ((2 ^ 3 - 1 : Nat) : Int) = 7 from rfl] at this; rw [this]; omega, by omega⟩
  obtain ⟨n, hn⟩ : ∃ n : Nat, n = k + 4 := ⟨_, rfl⟩
  have hkn : IntKind.i64.wrap ((k : Int) + 4) = (n : Int) := by rw [IntWalk.i64_in _ (by omega)]; omega
  have hkn2 : (k : Int) + 4 = (n : Int) := by omega
  have h4n : 4 ≤ n := by omega
  have hn11 : n ≤ 11 := by omega
  clear hn hk7
  obtain ⟨G0, hG⟩ : ∃ G0, w.heap.size = G0 := ⟨_, rfl⟩
  have HG := Lib.hid hG
  have B1 := Blk.new w 229 #[.int .u32 c, .slice none 0 0]
  have bel1 := (Below.refl w.heap.size w).alloc (Nat.le_refl _) (.cells #[.int .u32 c, .slice none 0 0] 229)
  have F1 : Fw G0 G0 c (fun i => it c i) 0 (.slice none 0 0) (w.alloc (.cells #[.int .u32 c, .slice none 0 0] 229)) := ⟨by rw [← hG]; exact B1, Qo.nil _ _ _, Nat.le_refl _, by simp [blkOf]⟩
  rw [hG] at bel1
  go_enter Try.func11, Try.ntmps11
  go_wp2_with fail
  refine (new_flg c w).mono ?_
  rintro e w1 ⟨rfl, hw1⟩
  rw [← hw1] at F1 bel1
  rw [hG]
  clear hw1 hG B1
  have HF1 := Lib.hid (And.intro F1 bel1)
  clear F1 bel1
  go_upto_region 3 with fail
  clear hk hkn hkn2
  go_wp2_with fail
  go_outline
  go_loopw [7] (fun s7 wr => ∃ (i : Nat) (v : Value), s7 = .int .i64 (i : Nat) ∧ i ≤ n ∧ Fw G0 G0 c (fun i => it c i) i v wr ∧ Below G0 w wr) (fun s7 _ => n - (intOf s7).toNat)
  case atStart => exact ⟨0, _, rfl, Nat.zero_le _, HF1.out.1, HF1.out.2⟩
  case round =>
    clear HF1
    obtain ⟨i, v, rfl, hi, F, bel⟩ := hrel
    by_cases hlt : i < n
    · have hii : (i : Int) < (n : Int) := by omega
      have hb := fun W => build_ch W
      have hadd := add_f F (by have := F.B.lt; omega) (by omega) 1 0
      rw [show upd (fun i => it c i) i ⟨nx c i, 1, 0, 1, 0, false, false, false⟩ = (fun i => it c i) from st_upd c i] at hadd
      clear F
      go_wp2_with fail
      refine hadd.mono ?_
      rintro e w3 ⟨rfl, ⟨v', F3⟩, b3⟩
      have HE := Lib.hid (And.intro F3 (bel.trans b3))
      clear F3 b3 bel hadd hb
      go_wp2_with fail
      go_roundw
      case rel => exact ⟨i + 1, v', by go_num, by omega, HE.out.1, HE.out.2⟩
      case measure => simp [intOf]; omega
    · obtain rfl : n = i := by omega
      rw [st_it] at F
      have HF2 := Lib.hid (And.intro F bel)
      clear F bel
      go_upto_region 8 with fail
      go_wp2_with fail
      go_outline
      go_loopw [8, 9] (fun s8 s9 wr => ∃ (i : Nat) (v : Value), s9 = .int .i64 (i : Nat) ∧ i ≤ 3 ∧ s8 = .int .i64 (if i = 3 then 1 else 0) ∧ Fw G0 G0 c (st c (x0 c i) (i + 1)) n v wr ∧ Below G0 w wr) (fun _ s9 _ => 3 - (intOf s9).toNat)
      case atStart => exact ⟨0, v, rfl, by omega, rfl, HF2.out.1, HF2.out.2⟩
      case round =>
        rename World => wx
        clear HF2 hlt hi v
        obtain ⟨i, v, rfl, hi, rfl, F, bel⟩ := hrel
        have hgl := F.B.lt
        by_cases hlt : i < 3
        · rw [if_neg (show ¬ i = 3 by omega)]
          have hii : (i : Int) < 3 := by omega
          have hwi : IntKind.i64.wrap (2 + (i : Int)) = 2 + (i : Int) := IntWalk.i64_in _ (by omega)
          have hq : (2 : Int) + (i : Int) = ((i + 2 : Nat) : Int) := by omega
          have Q2 : Blk (wx.alloc (.cells #[.int .i64 2, .int .i64 (2 + (i : Int))] 133)) wx.heap.size 133 #[.int .i64 2, .int .i64 ((i + 2 : Nat) : Int)] := by rw [← hq]; exact Blk.new wx 133 #[.int .i64 2, .int .i64 (2 + (i : Int))]
          have F2 := F.alloc (.cells #[.int .i64 2, .int .i64 (2 + (i : Int))] 133)
          have bel2 := bel.alloc (by omega) (.cells #[.int .i64 2, .int .i64 (2 + (i : Int))] 133)
          have hqv : blkOf v ≠ some wx.heap.size := fun e => by have := (F.q.lt e).2; omega
          have hs2 : wx.heap.size < (wx.alloc (.cells #[.int .i64 2, .int .i64 (2 + (i : Int))] 133)).heap.size := by simp
          have hsk := sack_f F2 (by omega) Q2 hqv (by omega) (show 2 ≤ i + 2 by omega) (by omega) (fun j h1 _ => st_items c (x0 c i) (i + 1) j h1) (by
            rw [st_zero]
            rcases (show i = 0 ∨ i = 1 ∨ i = 2 by omega) with rfl | rfl | rfl
            · exact ⟨rfl, rfl, (by show (0 : Int) ≤ 0; omega), (by show (0 : Int) ≤ 100; omega)⟩
            · rw [x1_]; exact ⟨rfl, rfl, (by show (0 : Int) ≤ 1; omega), (by show (1 : Int) ≤ 100; omega)⟩
            · rw [x2_]; exact ⟨rfl, rfl, (by show (0 : Int) ≤ 2; omega), (by show (2 : Int) ≤ 100; omega)⟩)
          clear F Q2 F2 hqv hq
          go_wp2_with fail
          refine hsk.mono ?_
          rintro e w3 ⟨g1, g2, g3, rfl, F3, G3, b3, _⟩
          rw [show acd false g1 g2 g3 = #[.bool false, .slice (some ⟨g1, 0, none⟩) 2 2, .slice (some ⟨g2, 0, none⟩) 2 2, .slice (some ⟨g3, 0, none⟩) 2 2] from rfl]
          rw [st_zero] at G3
          have F3' := F3.congr (st_sack c (x0 c i) (show i + 1 ≤ i + 2 by omega) (show i + 2 ≤ n by omega))
          have bel3 := bel2.trans b3
          have A4 := Blk.new w3 130 #[.bool false, .slice (some ⟨g1, 0, none⟩) 2 2, .slice (some ⟨g2, 0, none⟩) 2 2, .slice (some ⟨g3, 0, none⟩) 2 2]
          have F4 : Fw G0 G0 c (st c (x0 c (i + 1)) (i + 1 + 1)) n v (w3.alloc (.cells #[.bool false, .slice (some ⟨g1, 0, none⟩) 2 2, .slice (some ⟨g2, 0, none⟩) 2 2, .slice (some ⟨g3, 0, none⟩) 2 2] 130)) := F3'.alloc _
          have G4 := G3.alloc (.cells #[.bool false, .slice (some ⟨g1, 0, none⟩) 2 2, .slice (some ⟨g2, 0, none⟩) 2 2, .slice (some ⟨g3, 0, none⟩) 2 2] 130)
          have bel4 := bel3.alloc (by have := F3.B.lt; omega) (.cells #[.bool false, .slice (some ⟨g1, 0, none⟩) 2 2, .slice (some ⟨g2, 0, none⟩) 2 2, .slice (some ⟨g3, 0, none⟩) 2 2] 130)
          clear F3 F3' G3 b3 bel3 bel2 hsk bel hs2 hwi
          go_upto_region 12 with fail
          obtain ⟨w4, hw4⟩ : ∃ w4, w3.alloc (.cells #[.bool false, .slice (some ⟨g1, 0, none⟩) 2 2, .slice (some ⟨g2, 0, none⟩) 2 2, .slice (some ⟨g3, 0, none⟩) 2 2] 130) = w4 := ⟨_, rfl⟩
          rw [hw4] at A4 F4 G4 bel4
          try rw [hw4]
          clear hw4
          have a3 : w4.cell? ⟨w3.heap.size, 3, none⟩ = some (.slice (some ⟨g3, 0, none⟩) 2 2) := A4.cell 3
          by_cases h2 : i < 2
          · have hi2 : ¬ (i : Int) = 2 := by omega
            have hlo : lo1 (x0 c i) false = false := by
              rcases (show i = 0 ∨ i = 1 by omega) with rfl | rfl <;> rfl
            have hag : (x0 c (i + 1)).ag = false := by
              rcases (show i = 0 ∨ i = 1 by omega) with rfl | rfl <;> rfl
            rw [hlo] at G4
            have l1 : w4.cell? ⟨g3, 1, none⟩ = some (.bool false) := G4.cell 1
            have hpk := peek_no F4 (by omega) (fun j _ => st_none c _ (i + 1 + 1) hag j)
            clear A4 G4 hlo hag
            go_wp2_with fail
            refine hpk.mono ?_
            rintro e w5 ⟨rfl, b5⟩
            have HE := Lib.hid (And.intro (F4.below b5 (Nat.le_refl _)) (bel4.trans (b5.mono (by have := F4.B.lt; omega))))
            clear F4 bel4 b5 hpk a3 l1
            go_wp2_with fail
            go_roundw
            case rel => exact ⟨i + 1, v, by go_num, by omega, by rw [if_neg (by omega)], HE.out.1, HE.out.2⟩
            case measure => simp [intOf]; omega
          · obtain rfl : i = 2 := by omega
            have hlo : lo1 (x0 c 2) false = true := rfl
            rw [hlo] at G4
            have l1 : w4.cell? ⟨g3, 1, none⟩ = some (.bool true) := G4.cell 1
            have hpk := peek_yes F4 (by omega) (by omega) (show (st c (x0 c 3) 4 0).ag = true by rw [st_zero]; rfl)
            clear A4 G4 hlo
            go_wp2_with fail
            refine hpk.mono ?_
            rintro e w5 ⟨rfl, b5⟩
            have HE := Lib.hid (And.intro (F4.below b5 (Nat.le_refl _)) (bel4.trans (b5.mono (by have := F4.B.lt; omega))))
            clear F4 bel4 b5 hpk a3 l1
            go_wp2_with fail
            go_roundw
            case rel => exact ⟨3, v, by go_num, by omega, rfl, HE.out.1, HE.out.2⟩
            case measure => simp [intOf]
        · obtain rfl : i = 3 := by omega
          rw [if_pos rfl]
          have hag := again_f F (by omega) (by omega) (by omega) (show (st c (x0 c 3) 4 0).ag = true by rw [st_zero]; rfl) (by rw [st_zero, x3_]; exact ⟨(by show (0 : Int) ≤ 1; omega), (by show (1 : Int) ≤ 100; omega)⟩)
          rw [st_zero] at hag
          obtain ⟨t, ht⟩ : ∃ t, nx c 0 = t := ⟨_, rfl⟩
          have hct : (c + 1) % 4294967296 = t := by rw [← ht, nx_zero]
          have hct2 : IntKind.u32.wrap (c + 1) = t := hct
          rw [show (x0 c 3).t = t from ht] at hag
          clear ht F
          go_wp2_with fail
          refine hag.mono ?_
          rintro e w3 ⟨rfl, F3, b3⟩
          rw [show ch 0 t ⟨#[120]⟩ = #[.int .i64 0, .int .i64 0, .int .u32 t, .int .i64 0, .int .i64 0, .int .u32 0, .string ⟨#[120]⟩, .int .u32 0, .int .u32 0, .int .i64 0, .int .i64 0, .slice none 0 0, .slice none 0 0, .slice none 0 0, .slice none 0 0] from rfl]
          have bel3 := bel.trans b3
          have F3' : Fw G0 G0 c (st c (sg (x0 c 3)) 4) n v w3 := F3.congr (fun j _ => by unfold upd; by_cases e : j = 0; (subst e; rw [if_pos rfl, st_zero]); (rw [if_neg e]; unfold st; rw [if_neg e, if_neg e]))
          have C4 := Blk.new w3 40 #[.int .i64 0, .int .i64 0, .int .u32 t, .int .i64 0, .int .i64 0, .int .u32 0, .string ⟨#[120]⟩, .int .u32 0, .int .u32 0, .int .i64 0, .int .i64 0, .slice none 0 0, .slice none 0 0, .slice none 0 0, .slice none 0 0]
          have F4 := F3'.alloc (.cells #[.int .i64 0, .int .i64 0, .int .u32 t, .int .i64 0, .int .i64 0, .int .u32 0, .string ⟨#[120]⟩, .int .u32 0, .int .u32 0, .int .i64 0, .int .i64 0, .slice none 0 0, .slice none 0 0, .slice none 0 0, .slice none 0 0] 40)
          have bel4 := bel3.alloc (by have := F3.B.lt; omega) (.cells #[.int .i64 0, .int .i64 0, .int .u32 t, .int .i64 0, .int .i64 0, .int .u32 0, .string ⟨#[120]⟩, .int .u32 0, .int .u32 0, .int .i64 0, .int .i64 0, .slice none 0 0, .slice none 0 0, .slice none 0 0, .slice none 0 0] 40)
          have hvc : blkOf v ≠ some w3.heap.size := fun e => by have := (F3.q.lt e).2; omega
          have hgc : G0 < w3.heap.size := F3.B.lt
          clear F3 F3' b3 bel3 hag bel
          go_upto_region 18 with fail
          obtain ⟨w4, hw4⟩ : ∃ w4, w3.alloc (.cells #[.int .i64 0, .int .i64 0, .int .u32 t, .int .i64 0, .int .i64 0, .int .u32 0, .string ⟨#[120]⟩, .int .u32 0, .int .u32 0, .int .i64 0, .int .i64 0, .slice none 0 0, .slice none 0 0, .slice none 0 0, .slice none 0 0] 40) = w4 := ⟨_, rfl⟩
          rw [hw4] at C4 F4 bel4
          try rw [hw4]
          clear hw4
          obtain ⟨cb, hcb⟩ : ∃ cb, w3.heap.size = cb := ⟨_, rfl⟩
          rw [hcb] at C4 hvc hgc
          try rw [hcb]
          clear hcb
          have hcl := C4.lt
          have Q5 := Blk.new w4 133 #[.int .i64 2, .int .i64 4]
          have F5 := F4.alloc (.cells #[.int .i64 2, .int .i64 4] 133)
          have C5 := C4.alloc (.cells #[.int .i64 2, .int .i64 4] 133)
          have bel5 := bel4.alloc (by omega) (.cells #[.int .i64 2, .int .i64 4] 133)
          have hqv : blkOf v ≠ some w4.heap.size := fun e => by have := (F4.q.lt e).2; omega
          have hsk := sack_f (h := 4) F5 (by simp; omega) Q5 hqv (by omega) (by omega) (by omega) (fun j h1 _ => st_items c (sg (x0 c 3)) 4 j h1) (by rw [st_zero]; exact ⟨rfl, rfl, (by show (0 : Int) ≤ 3; omega), (by show (3 : Int) ≤ 100; omega)⟩)
          have hcl5 := C5.lt
          clear F4 C4 bel4 Q5 F5 hqv
          go_wp2_with fail
          refine hsk.mono ?_
          rintro e w6 ⟨g1, g2, g3, rfl, F6, _, b6, fr6⟩
          have F7 := F6.congr (st_sack c (sg (x0 c 3)) (show 4 ≤ 4 by omega) (show 4 ≤ n by omega))
          have C7 : Blk w6 cb 40 #[.int .i64 0, .int .i64 0, .int .u32 t, .int .i64 0, .int .i64 0, .int .u32 0, .string ⟨#[120]⟩, .int .u32 0, .int .u32 0, .int .i64 0, .int .i64 0, .slice none 0 0, .slice none 0 0, .slice none 0 0, .slice none 0 0] := (fr6.block cb hcl5 (by omega) hvc).trans C5
          have bel7 := bel5.trans b6
          have hpk := peek_no F7 (by omega) (fun j _ => st_none c _ 4 rfl j)
          clear F6 b6 fr6 C5 bel5 hsk hcl hcl5
          go_wp2_with fail
          refine hpk.mono ?_
          rintro e w8 ⟨rfl, b8⟩
          have C8 := C7.below b8 C7.lt
          have bel8 := bel7.trans (b8.mono (by have := F7.B.lt; omega))
          clear F7 C7 bel7 b8 hpk
          go_wp2_with fail
          refine (awake21 w8).mono ?_
          rintro e w9 ⟨rfl, b9⟩
          have C9 := C8.below b9 C8.lt
          have bel9 := bel8.trans (b9.mono (by have := C8.lt; omega))
          have c2 : w9.cell? ⟨cb, 2, none⟩ = some (.int .u32 t) := C9.cell 2
          clear C8 bel8 b9 C9
          go_wp2_with fail
          go_ret
          exact ⟨rfl, by rw [HG.out]; exact bel9⟩
theorem fast_open {H : Type} {enc : TypeId × Value → H} {W : World} {base : Nat} {v0 v1 : Value} {d0 d1 : DataW H} {p0 p1 : List MemPlace}
    (o0 : Value.okWide Try.prog W .any base 28 v0) (o1 : Value.okWide Try.prog W .any base 3 v1) (h0 : DataW.Trod enc Try.prog W 0 (fun _ => true) true 28 v0 d0 p0) (h1 : DataW.Trod enc Try.prog W 0 (fun _ => true) true 3 v1 d1 p1) :
    Calls Try.prog 11 #[v0, v1] W fun e w' => e = .returned (.bool true) ∧ Below W.heap.size W w' := by
  obtain ⟨c, rfl, _, _, _⟩ := open_int Try.underlying28 o0 h0
  obtain ⟨m, rfl, _, _, _⟩ := open_int Try.underlying3 o1 h1
  exact fast_walk c m W
end Go.Proofs.Ythddacgdmngfhaa.fli
