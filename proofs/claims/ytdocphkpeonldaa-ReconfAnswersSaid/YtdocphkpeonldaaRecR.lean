/- Layer 28: one request at a time; the statement walked. -/
import Derived.Test.YtdocphkpeonldaaRecQ
namespace Go.Proofs.Ytdocphkpeonldaa.rec_
open Go.Sort (grow)
open Go.ChangeShapes Go.WideShapes Go.ChangeAt Go.RowKit kit oct
set_option maxRecDepth 100000

theorem add_blk (a : Addr) (i : Nat) : (a.add i).block = a.block := by unfold Addr.add; split <;> rfl
theorem mS_sum (id m : Nat) : p4 id ++ p2 m ++ ⟨#[0, 0]⟩ = mS id m := by
  unfold mS
  rw [ByteArray.append_assoc]
  rfl
set_option maxHeartbeats 8000000 in
theorem asks_walk (mine : Nat) (hmine : mine ≤ 4294967295) (oa : Option Addr) (a : Addr) (len cap : Nat) (v : Nat → Int) (w : World) (hlc : len ≤ cap) (hcm : cap ≤ maxLen) (hoa : 0 < len → oa = some a) (hab : 0 < len → a.block < w.heap.size)
    (hv : ∀ i, i < len → w.cell? (a.add i) = some (.int .i64 (v i))) :
    Calls Try.prog 4 #[.int .u32 mine, .slice oa len cap] w fun e w' => e = .returned (.bool true) ∧ Below w.heap.size w w' := by
  unfold maxLen at hcm
  have HV := Lib.hid (And.intro hoa (And.intro hab hv))
  clear hoa hab hv
  go_enter Try.func4, Try.ntmps4
  go_wp2_with fail
  refine (new_any mine 0 _).mono ?_
  rintro e w1 ⟨rfl, rfl⟩
  have B1 := Blk.new w 149 (st mine 0 0 0 0)
  have bel1 := (Below.refl w.heap.size w).alloc (Nat.le_refl _) (.cells (st mine 0 0 0 0) 149)
  generalize w.alloc (.cells (st mine 0 0 0 0) 149) = w1 at *
  obtain ⟨g, hg⟩ : ∃ g, w.heap.size = g := ⟨_, rfl⟩
  rw [hg] at B1 bel1
  rw [hg]
  go_wp2_with fail
  refine (awake28 _).mono ?_
  rintro e w2 ⟨rfl, hb2⟩
  have B2 := B1.below hb2 B1.lt
  have bel2 := bel1.trans (hb2.mono (by have := B1.lt; omega))
  clear B1 bel1 hb2
  go_wp2_with fail
  go_loopw [6, 7, 8, 9] (fun s6 s7 s8 s9 wr => ∃ (i nx wa ti : Nat) (x : Int), i ≤ len ∧ i ≤ 50 ∧ nx ≤ 4294967295 ∧ wa ≤ 16 ∧ ti ≤ i ∧ (wa = 0 → ti = 0) ∧ s6 = .int .u32 nx ∧ s7 = .int .i64 wa ∧ s8 = .int .i64 ti ∧ s9 = .int .i64 i ∧ Blk wr g 149 (st nx 0 wa ti x) ∧ Below g w wr) (fun _ _ _ s9 _ => 50 - (intOf s9).toNat)
  case atStart => exact ⟨0, mine, 0, 0, 0, by omega, by omega, hmine, by omega, by omega, fun _ => rfl, rfl, rfl, rfl, rfl, B2, bel2⟩
  case round =>
    obtain ⟨i, nx, wa, ti, x, hil, hi5, hnx, hwa, hti, hwt, rfl, rfl, rfl, rfl, B, bel⟩ := hrel
    clear B2 bel2
    by_cases hlt : i < len
    · by_cases h50 : i < 50
      · have hoa := HV.out.1 (by omega)
        subst hoa
        have hbl := HV.out.2.1 (by omega)
        have hc : wr.cell? (a.add i) = some (.int .i64 (v i)) := (bel.cell (p := a.add i) (by rw [add_blk]; omega)).trans (HV.out.2.2 i hlt)
        have hm3 := i64_mask (v i) 2 (by omega)
        obtain ⟨q, hq⟩ : ∃ q : Nat, (v i) % (2 ^ 2 : Nat) = (q : Int) := ⟨((v i) % (2 ^ 2 : Nat)).toNat, by omega⟩
        have hq4 : q ≤ 3 := by omega
        rw [hq] at hm3
        simp only [show ((2 ^ 2 - 1 : Nat) : Int) = 3 from rfl] at hm3
        clear hq
        generalize v i = vi at *
        go_upto_region 7 with fail
        go_cut [10] (fun s10 wx => ∃ n : Int, s10 = .int .i64 n ∧ wr = wx)
        case first =>
          go_wp2_with fail
          all_goals
            go_meet
            exact ⟨_, rfl, rfl⟩
        case rest =>
        obtain ⟨n, rfl, hwc⟩ := hcut
        subst hwc
        go_upto_block 2 with fail
        go_cut [6, 7, 8] (fun s6 s7 s8 wx => ∃ (nx wa ti : Nat) (x : Int), nx ≤ 4294967295 ∧ wa ≤ 16 ∧ ti ≤ i + 1 ∧ (wa = 0 → ti = 0) ∧ s6 = .int .u32 nx ∧ s7 = .int .i64 wa ∧ s8 = .int .i64 ti ∧ Blk wx g 149 (st nx 0 wa ti x) ∧ Below g w wx)
        case first =>
          have hgl := B.lt
          have hgw : g ≤ wr.heap.size := by omega
          obtain ⟨nx', hnx', hnxb, hnxn⟩ : ∃ nx' : Nat, IntKind.u32.wrap ((nx : Int) + 1) = nx' ∧ nx' ≤ 4294967295 ∧ nx' ≠ nx := by
            refine ⟨(nx + 1) % 4294967296, ?_, by omega, by omega⟩
            show ((nx : Int) + 1) % 4294967296 = _
            omega
          have HN := Lib.hid (And.intro hnx' (And.intro hnxb hnxn))
          clear hnx' hnxb hnxn
          rcases (show q = 0 ∨ q = 1 ∨ q = 2 ∨ q = 3 by omega) with rfl | rfl | rfl | rfl
          · as_aux_lemma =>
            clear HN HV
            by_cases hn : n < 1 ∨ 16 < n
            · have hA := fun w B => ask_bad g nx 0 wa ti x n w B hn
              go_wp2_with fail
              refine (hA _ B).mono ?_
              rintro e w3 ⟨rfl, rfl⟩
              clear hA
              rcases hn with hn | hn
              · go_wp2_with fail
                all_goals first | (exfalso; omega) | (go_meet; exact ⟨nx, wa, ti, x, hnx, hwa, by omega, hwt, rfl, rfl, rfl, B, bel⟩)
              · have hn1 : ¬ n < 1 := by omega
                go_wp2_with fail
                all_goals first | (exfalso; omega) | (go_meet; exact ⟨nx, wa, ti, x, hnx, hwa, by omega, hwt, rfl, rfl, rfl, B, bel⟩)
            · have hn1 : ¬ n < 1 := by omega
              have hn2 : ¬ 16 < n := by omega
              by_cases hw0 : wa = 0
              · subst hw0
                obtain rfl := hwt rfl
                have hA := fun w B => ask_ok g nx 0 0 x n w B (by omega)
                have B3 : Blk (wr.setCell ⟨g, 2, none⟩ (.int .i64 n)) g 149 (st nx 0 n 0 x) := B.set_ 2 (.int .i64 n)
                have bel3 := bel.setCell (p := ⟨g, 2, none⟩) (Nat.le_refl g) (.int .i64 n)
                obtain ⟨m, rfl⟩ : ∃ m : Nat, n = m := ⟨n.toNat, by omega⟩
                go_wp2_with fail
                refine (hA _ B).mono ?_
                rintro e w3 ⟨rfl, hw3⟩
                rw [← hw3] at B3 bel3
                clear hw3 hA
                go_wp2_with fail
                all_goals first | (exfalso; omega) | (go_meet; exact ⟨nx, m, 0, x, hnx, by omega, by omega, fun _ => rfl, rfl, rfl, rfl, B3, bel3⟩)
              · have hA := fun w B => ask_full g nx 0 wa ti x n w B (by omega) (by omega)
                have hw1 : (0 : Int) < wa := by omega
                go_wp2_with fail
                refine (hA _ B).mono ?_
                rintro e w3 ⟨rfl, rfl⟩
                clear hA
                go_wp2_with fail
                all_goals first | (exfalso; omega) | (go_meet; exact ⟨nx, wa, ti, x, hnx, hwa, by omega, hwt, rfl, rfl, rfl, B, bel⟩)
          · as_aux_lemma =>
            clear HN HV
            have hF := fun w => four_any nx hnx w
            have hP := fun w => put2 wa (by omega) w
            have u1 : IntKind.u64.wrap (wa : Int) = wa := by show (wa : Int) % 18446744073709551616 = wa; omega
            have hms := mS_sum nx wa
            by_cases hw0 : wa = 0
            · subst hw0
              obtain rfl := hwt rfl
              go_wp2_with fail
              refine (send_none g g nx 0 0 x i _ B hgw).mono ?_
              rintro e w3 ⟨rfl, k3, bel3⟩
              have B3 := k3.blk B hgl (by omega)
              have bel4 := bel.trans bel3
              unfold c0
              go_upto_region 32 with (fail)
              have B5 := B3.alloc (.cells c0 43)
              have bel5 := bel4.alloc (by have := B3.lt; omega) (.cells c0 43)
              unfold c0 at B5 bel5
              clear B3 bel4 k3 bel3
              generalize w3.alloc _ = w5 at *
              go_wp2_with fail
              refine (hF _).mono ?_
              rintro e w6 ⟨rfl, hb6⟩
              have B6 := B5.below hb6 B5.lt
              have bel6 := bel5.trans (hb6.mono (by have := B5.lt; omega))
              go_wp2_with fail
              refine (hP _).mono ?_
              rintro e w7 ⟨rfl, hb7⟩
              have B7 := B6.below hb7 B6.lt
              have bel7 := bel6.trans (hb7.mono (by have := B6.lt; omega))
              have hz4 := p4_size nx
              have hz2 := p2_size ((0 : Nat) : Int)
              go_wp2_with fail
              go_meet
              exact ⟨nx, 0, 0, x, hnx, by omega, by omega, fun _ => rfl, rfl, rfl, rfl, B7.alloc _, bel7.alloc (by have := B7.lt; omega) _⟩
            · have hw1 : (0 : Int) < wa := by omega
              have ht1 : IntKind.i64.wrap ((ti : Int) + 1) = ((ti + 1 : Nat) : Int) := by
                rw [show ((ti + 1 : Nat) : Int) = (ti : Int) + 1 by omega]
                exact IntWalk.i64_in _ (by omega)
              go_wp2_with fail
              refine (send_all g g nx wa 0 ti ((ti + 1 : Nat) : Int) x i hnx (by omega) (by omega) ht1 _ B (Nat.le_refl g)).mono ?_
              rintro e w3 ⟨h, rfl, hh, P3, B3, k3, bel3⟩
              have bel4 := bel.trans bel3
              rw [show cc 130 nx h = #[.int .i64 130, .int .i64 0, .int .u32 nx, .int .i64 0, .int .i64 0, .int .u32 0, .string ⟨#[]⟩, .int .u32 0, .int .u32 0, .int .i64 0, .int .i64 0, .slice (some ⟨h, 0, none⟩) 1 1, .slice none 0 0, .slice none 0 0, .slice none 0 0] from rfl]
              go_upto_region 32 with (fail)
              have X5 := Blk.new w3 43 (cd 130 nx h 1)
              have P5 := P3.alloc (.cells (cd 130 nx h 1) 43)
              have B5 := B3.alloc (.cells (cd 130 nx h 1) 43)
              have bel5 := bel4.alloc (by have := B3.lt; omega) (.cells (cd 130 nx h 1) 43)
              rw [show w3.alloc (.cells #[.int .i64 130, .int .i64 0, .int .u32 nx, .int .i64 0, .int .i64 0, .int .u32 0, .string ⟨#[]⟩, .int .u32 0, .int .u32 0, .int .i64 0, .int .i64 0, .slice (some ⟨h, 0, none⟩) 1 1, .slice none 0 0, .slice none 0 0, .slice none 0 0] 43) = w3.alloc (.cells (cd 130 nx h 1) 43) from rfl]
              clear P3 B3 bel4 k3 bel3
              generalize w3.alloc (.cells (cd 130 nx h 1) 43) = w5 at *
              generalize w3.heap.size = y at *
              go_wp2_with fail
              refine (hF _).mono ?_
              rintro e w6 ⟨rfl, hb6⟩
              have X6 := X5.below hb6 X5.lt
              have P6 := P5.below hb6 P5.lt
              have B6 := B5.below hb6 B5.lt
              have bel6 := bel5.trans (hb6.mono (by have := B5.lt; omega))
              clear X5 P5 B5 bel5 hb6
              go_wp2_with fail
              refine (hP _).mono ?_
              rintro e w7 ⟨rfl, hb7⟩
              have X7 := X6.below hb7 X6.lt
              have P7 := P6.below hb7 P6.lt
              have B7 := B6.below hb7 B6.lt
              have bel7 := bel6.trans (hb7.mono (by have := B6.lt; omega))
              clear X6 P6 B6 bel6 hb7
              have hz4 := p4_size nx
              have hz2 := p2_size wa
              have hzm := mS_size nx wa
              generalize mS nx wa = M at *
              generalize p4 (nx : Int) = S4 at *
              generalize p2 (wa : Int) = S2 at *
              go_upto_region 33 with (fail)
              try rw [hms]
              clear hF hP
              have X8 := X7.alloc (.cells #[.int .i64 17, .string M] 23)
              have P8 := P7.alloc (.cells #[.int .i64 17, .string M] 23)
              have B8 := B7.alloc (.cells #[.int .i64 17, .string M] 23)
              have Q8 := Blk.new w7 23 #[.int .i64 17, .string M]
              have bel8 := bel7.alloc (by have := B7.lt; omega) (.cells #[.int .i64 17, .string M] 23)
              clear X7 P7 B7 bel7
              generalize w7.alloc (.cells #[.int .i64 17, .string M] 23) = w8 at *
              generalize w7.heap.size = z at *
              have Q9 := Blk.new w8 23 #[.int .i64 17, .string M]
              have P9 := P8.alloc (.cells #[.int .i64 17, .string M] 23)
              have B9 := B8.alloc (.cells #[.int .i64 17, .string M] 23)
              have bel9 := bel8.alloc (by have := B8.lt; omega) (.cells #[.int .i64 17, .string M] 23)
              have q80 : w8.cell? ⟨z, 0, none⟩ = some (.int .i64 17) := Q8.cell 0
              have q81 : w8.cell? ⟨z, 1, none⟩ = some (.string M) := Q8.cell 1
              go_wp2_with (first | (refine wpList_load_at_g (by rfl) 43 _ rfl y 0 rfl (cd 130 nx h 1) _ (Cel.of_blk X8) Try.underlying43 rfl (szD _ _ _ _) ?_))
              refine (same_true 130 nx h 1 w8.heap.size 1 17 M _ (Cel.of_blk P9) (Cel.of_blk Q9)).mono ?_
              rintro e w10 ⟨rfl, hb10⟩
              have B10 := B9.below hb10 B9.lt
              have bel10 := bel9.trans (hb10.mono (by have := B9.lt; omega))
              go_wp2_with fail
              go_meet
              exact ⟨nx, wa, ti + 1, i, hnx, hwa, by omega, fun h => absurd h hw0, rfl, rfl, rfl, B10, bel10⟩
          · as_aux_lemma =>
            obtain ⟨hnx', hnxb, hnxn⟩ := HN.out
            clear HN HV
            have he := i64_mask n 1 (by omega)
            obtain ⟨e1, he1⟩ : ∃ e : Nat, n % (2 ^ 1 : Nat) = (e : Int) := ⟨(n % (2 ^ 1 : Nat)).toNat, by omega⟩
            have he2 : e1 ≤ 1 := by omega
            rw [he1] at he
            simp only [show ((2 ^ 1 - 1 : Nat) : Int) = 1 from rfl] at he
            clear he1
            rcases (show e1 = 0 ∨ e1 = 1 by omega) with rfl | rfl
            · by_cases ht0 : ti = 0
              · as_aux_lemma =>
                subst ht0
                have hF1 : ∀ w, Calls Try.prog 21 #[.int .u32 1] w fun e w' => e = .returned (.string (p4 1)) ∧ Below w.heap.size w w' := fun w => four_any 1 (by omega) w
                have hF := fun w => four_any nx (by omega) w
                have hA := fun k cap w B => answer_no g g k cap nx nx 0 wa ((0 : Nat) : Int) x w (Or.inl rfl) B (Nat.le_refl g)
                clear hnx' hnxb hnxn
                go_wp2_with fail
                refine (hF _).mono ?_
                rintro e w3 ⟨rfl, hb3⟩
                have B3 := B.below hb3 hgl
                have bel3 := bel.trans (hb3.mono hgw)
                go_wp2_with fail
                refine (hF1 _).mono ?_
                rintro e w4 ⟨rfl, hb4⟩
                have B4 := B3.below hb4 B3.lt
                have bel4 := bel3.trans (hb4.mono (by have := B3.lt; omega))
                have hz4 := p4_size nx
                have hz1 : (p4 1).size = 4 := p4_size 1
                have hrs : p4 nx ++ p4 1 = rS nx 1 := rfl
                generalize p4 (nx : Int) = S4 at *
                generalize p4 1 = S1 at *
                generalize rS nx 1 = R at *
                clear hF hF1 B B3 hb3 hb4 bel bel3
                have B5 := B4.alloc (.cells #[.int .i64 16, .string R] 23)
                have bel5 := bel4.alloc (by have := B4.lt; omega) (.cells #[.int .i64 16, .string R] 23)
                have K5 := Blk.new w4 23 #[.int .i64 16, .string R]
                go_wp2_with fail
                refine (hA _ 1 _ B5).mono ?_
                rintro e w6 ⟨rfl, B6, bl6⟩
                have bel6 := bel5.trans bl6
                clear hA B5 bel5 K5
                go_wp2_with fail
                all_goals first | (exfalso; omega) | (go_meet; exact ⟨nx, wa, 0, x, hnx, hwa, by omega, fun _ => rfl, rfl, rfl, rfl, B6, bel6⟩)
              · as_aux_lemma =>
                have hF1 : ∀ w, Calls Try.prog 21 #[.int .u32 1] w fun e w' => e = .returned (.string (p4 1)) ∧ Below w.heap.size w w' := fun w => four_any 1 (by omega) w
                have hF := fun w => four_any nx (by omega) w
                have hA := fun cap w k B K hk => answer_yes g g k cap nx 1 0 wa ti x (if 1 = 1 then (wa : Int) else 0) nx' w hnx (by omega) (by omega) rfl hnx' B K hk (Nat.le_refl g)
                simp only [if_true] at hA
                go_wp2_with fail
                refine (hF _).mono ?_
                rintro e w3 ⟨rfl, hb3⟩
                have B3 := B.below hb3 hgl
                have bel3 := bel.trans (hb3.mono hgw)
                go_wp2_with fail
                refine (hF1 _).mono ?_
                rintro e w4 ⟨rfl, hb4⟩
                have B4 := B3.below hb4 B3.lt
                have bel4 := bel3.trans (hb4.mono (by have := B3.lt; omega))
                have hz4 := p4_size nx
                have hz1 : (p4 1).size = 4 := p4_size 1
                have hrs : p4 nx ++ p4 1 = rS nx 1 := rfl
                generalize p4 (nx : Int) = S4 at *
                generalize p4 1 = S1 at *
                generalize rS nx 1 = R at *
                clear hF hF1 B B3 hb3 hb4 bel bel3
                have B5 := B4.alloc (.cells #[.int .i64 16, .string R] 23)
                have bel5 := bel4.alloc (by have := B4.lt; omega) (.cells #[.int .i64 16, .string R] 23)
                have K5 := Blk.new w4 23 #[.int .i64 16, .string R]
                go_wp2_with fail
                try rw [hrs]
                refine (hA 1 _ _ B5 (Cel.of_blk K5) (by have := B4.lt; omega)).mono ?_
                rintro e w6 ⟨rfl, B6, bl6⟩
                have bel6 := bel5.trans bl6
                clear hA B5 bel5 K5
                have ht1 : (0 : Int) < ti := by omega
                go_wp2_with fail
                all_goals first | (exfalso; omega) | (go_meet; exact ⟨nx', 0, 0, 0, hnxb, by omega, by omega, fun _ => rfl, rfl, rfl, rfl, B6, bel6⟩)
            · by_cases ht0 : ti = 0
              · as_aux_lemma =>
                subst ht0
                have hF1 : ∀ w, Calls Try.prog 21 #[.int .u32 2] w fun e w' => e = .returned (.string (p4 2)) ∧ Below w.heap.size w w' := fun w => four_any 2 (by omega) w
                have hF := fun w => four_any nx (by omega) w
                have hA := fun k cap w B => answer_no g g k cap nx nx 0 wa ((0 : Nat) : Int) x w (Or.inl rfl) B (Nat.le_refl g)
                clear hnx' hnxb hnxn
                go_wp2_with fail
                refine (hF _).mono ?_
                rintro e w3 ⟨rfl, hb3⟩
                have B3 := B.below hb3 hgl
                have bel3 := bel.trans (hb3.mono hgw)
                go_wp2_with fail
                refine (hF1 _).mono ?_
                rintro e w4 ⟨rfl, hb4⟩
                have B4 := B3.below hb4 B3.lt
                have bel4 := bel3.trans (hb4.mono (by have := B3.lt; omega))
                have hz4 := p4_size nx
                have hz1 : (p4 2).size = 4 := p4_size 2
                have hrs : p4 nx ++ p4 2 = rS nx 2 := rfl
                generalize p4 (nx : Int) = S4 at *
                generalize p4 2 = S1 at *
                generalize rS nx 2 = R at *
                clear hF hF1 B B3 hb3 hb4 bel bel3
                have B5 := B4.alloc (.cells #[.int .i64 16, .string R] 23)
                have bel5 := bel4.alloc (by have := B4.lt; omega) (.cells #[.int .i64 16, .string R] 23)
                have K5 := Blk.new w4 23 #[.int .i64 16, .string R]
                go_wp2_with fail
                refine (hA _ 1 _ B5).mono ?_
                rintro e w6 ⟨rfl, B6, bl6⟩
                have bel6 := bel5.trans bl6
                clear hA B5 bel5 K5
                go_wp2_with fail
                all_goals first | (exfalso; omega) | (go_meet; exact ⟨nx, wa, 0, x, hnx, hwa, by omega, fun _ => rfl, rfl, rfl, rfl, B6, bel6⟩)
              · as_aux_lemma =>
                have hF1 : ∀ w, Calls Try.prog 21 #[.int .u32 2] w fun e w' => e = .returned (.string (p4 2)) ∧ Below w.heap.size w w' := fun w => four_any 2 (by omega) w
                have hF := fun w => four_any nx (by omega) w
                have hA := fun cap w k B K hk => answer_yes g g k cap nx 2 0 wa ti x (if 2 = 1 then (wa : Int) else 0) nx' w hnx (by omega) (by omega) rfl hnx' B K hk (Nat.le_refl g)
                simp only [show ¬ (2 = 1) by decide, if_false] at hA
                go_wp2_with fail
                refine (hF _).mono ?_
                rintro e w3 ⟨rfl, hb3⟩
                have B3 := B.below hb3 hgl
                have bel3 := bel.trans (hb3.mono hgw)
                go_wp2_with fail
                refine (hF1 _).mono ?_
                rintro e w4 ⟨rfl, hb4⟩
                have B4 := B3.below hb4 B3.lt
                have bel4 := bel3.trans (hb4.mono (by have := B3.lt; omega))
                have hz4 := p4_size nx
                have hz1 : (p4 2).size = 4 := p4_size 2
                have hrs : p4 nx ++ p4 2 = rS nx 2 := rfl
                generalize p4 (nx : Int) = S4 at *
                generalize p4 2 = S1 at *
                generalize rS nx 2 = R at *
                clear hF hF1 B B3 hb3 hb4 bel bel3
                have B5 := B4.alloc (.cells #[.int .i64 16, .string R] 23)
                have bel5 := bel4.alloc (by have := B4.lt; omega) (.cells #[.int .i64 16, .string R] 23)
                have K5 := Blk.new w4 23 #[.int .i64 16, .string R]
                go_wp2_with fail
                try rw [hrs]
                refine (hA 1 _ _ B5 (Cel.of_blk K5) (by have := B4.lt; omega)).mono ?_
                rintro e w6 ⟨rfl, B6, bl6⟩
                have bel6 := bel5.trans bl6
                clear hA B5 bel5 K5
                have ht1 : (0 : Int) < ti := by omega
                go_wp2_with fail
                all_goals first | (exfalso; omega) | (go_meet; exact ⟨nx', 0, 0, 0, hnxb, by omega, by omega, fun _ => rfl, rfl, rfl, rfl, B6, bel6⟩)
          · as_aux_lemma =>
            obtain ⟨hnx', hnxb, hnxn⟩ := HN.out
            clear HN HV
            have he := i64_mask n 1 (by omega)
            obtain ⟨e1, he1⟩ : ∃ e : Nat, n % (2 ^ 1 : Nat) = (e : Int) := ⟨(n % (2 ^ 1 : Nat)).toNat, by omega⟩
            have he2 : e1 ≤ 1 := by omega
            rw [he1] at he
            simp only [show ((2 ^ 1 - 1 : Nat) : Int) = 1 from rfl] at he
            clear he1
            rcases (show e1 = 0 ∨ e1 = 1 by omega) with rfl | rfl
            · as_aux_lemma =>
              have hF1 : ∀ w, Calls Try.prog 21 #[.int .u32 1] w fun e w' => e = .returned (.string (p4 1)) ∧ Below w.heap.size w w' := fun w => four_any 1 (by omega) w
              have hF := fun w => four_any nx' (by omega) w
              have hA := fun k cap w B => answer_no g g k cap nx nx' 0 wa ti x w (by omega) B (Nat.le_refl g)
              have hne : ((nx' : Int) == (nx : Int)) = false := by simp; omega
              go_wp2_with fail
              refine (hF _).mono ?_
              rintro e w3 ⟨rfl, hb3⟩
              have B3 := B.below hb3 hgl
              have bel3 := bel.trans (hb3.mono hgw)
              go_wp2_with fail
              refine (hF1 _).mono ?_
              rintro e w4 ⟨rfl, hb4⟩
              have B4 := B3.below hb4 B3.lt
              have bel4 := bel3.trans (hb4.mono (by have := B3.lt; omega))
              have hz4 := p4_size nx'
              have hz1 : (p4 1).size = 4 := p4_size 1
              have hrs : p4 nx' ++ p4 1 = rS nx' 1 := rfl
              generalize p4 (nx' : Int) = S4 at *
              generalize p4 1 = S1 at *
              generalize rS nx' 1 = R at *
              clear hF hF1 B B3 hb3 hb4 bel bel3
              have B5 := B4.alloc (.cells #[.int .i64 16, .string R] 23)
              have bel5 := bel4.alloc (by have := B4.lt; omega) (.cells #[.int .i64 16, .string R] 23)
              have K5 := Blk.new w4 23 #[.int .i64 16, .string R]
              go_wp2_with fail
              refine (hA _ 1 _ B5).mono ?_
              rintro e w6 ⟨rfl, B6, bl6⟩
              have bel6 := bel5.trans bl6
              clear hA B5 bel5 K5
              go_wp2_with fail
              all_goals first | (exfalso; omega) | (go_meet; exact ⟨nx, wa, ti, x, hnx, hwa, by omega, hwt, rfl, rfl, rfl, B6, bel6⟩)
            · as_aux_lemma =>
              have hF1 : ∀ w, Calls Try.prog 21 #[.int .u32 2] w fun e w' => e = .returned (.string (p4 2)) ∧ Below w.heap.size w w' := fun w => four_any 2 (by omega) w
              have hF := fun w => four_any nx' (by omega) w
              have hA := fun k cap w B => answer_no g g k cap nx nx' 0 wa ti x w (by omega) B (Nat.le_refl g)
              have hne : ((nx' : Int) == (nx : Int)) = false := by simp; omega
              go_wp2_with fail
              refine (hF _).mono ?_
              rintro e w3 ⟨rfl, hb3⟩
              have B3 := B.below hb3 hgl
              have bel3 := bel.trans (hb3.mono hgw)
              go_wp2_with fail
              refine (hF1 _).mono ?_
              rintro e w4 ⟨rfl, hb4⟩
              have B4 := B3.below hb4 B3.lt
              have bel4 := bel3.trans (hb4.mono (by have := B3.lt; omega))
              have hz4 := p4_size nx'
              have hz1 : (p4 2).size = 4 := p4_size 2
              have hrs : p4 nx' ++ p4 2 = rS nx' 2 := rfl
              generalize p4 (nx' : Int) = S4 at *
              generalize p4 2 = S1 at *
              generalize rS nx' 2 = R at *
              clear hF hF1 B B3 hb3 hb4 bel bel3
              have B5 := B4.alloc (.cells #[.int .i64 16, .string R] 23)
              have bel5 := bel4.alloc (by have := B4.lt; omega) (.cells #[.int .i64 16, .string R] 23)
              have K5 := Blk.new w4 23 #[.int .i64 16, .string R]
              go_wp2_with fail
              refine (hA _ 1 _ B5).mono ?_
              rintro e w6 ⟨rfl, B6, bl6⟩
              have bel6 := bel5.trans bl6
              clear hA B5 bel5 K5
              go_wp2_with fail
              all_goals first | (exfalso; omega) | (go_meet; exact ⟨nx, wa, ti, x, hnx, hwa, by omega, hwt, rfl, rfl, rfl, B6, bel6⟩)
        case rest =>
        clear B bel hnx hwa hti hwt hm3
        obtain ⟨nx, wa, ti, x, hnx, hwa, hti, hwt, rfl, rfl, rfl, B, bel⟩ := hcut
        have hA := fun w B => at_of g nx 0 wa ti x w B
        have hW := fun w B => want_of g nx 0 wa ti x w B
        have hT := fun w B => times_of g nx 0 wa ti x w B
        by_cases ht0 : ti = 0
        · subst ht0
          simp only [show (((0 : Nat) : Int) = 0) from rfl, if_true, show decide ((0 : Int) ≠ 0) = false from rfl] at hA
          go_wp2_with fail
          refine (hA _ B).mono ?_
          rintro e w3 ⟨rfl, hw⟩
          subst hw
          go_wp2_with fail
          refine (hW _ B).mono ?_
          rintro e w4 ⟨rfl, hw⟩
          subst hw
          go_wp2_with fail
          refine (hT _ B).mono ?_
          rintro e w5 ⟨rfl, hw⟩
          subst hw
          go_wp2_with fail
          go_roundw
          case rel => exact ⟨i + 1, nx, wa, 0, x, by omega, by omega, hnx, hwa, by omega, fun _ => rfl, rfl, rfl, rfl, by go_num, B, bel⟩
          case measure => simp [intOf]; omega
        · have ht1 : (0 : Int) < ti := by omega
          have ht5 : 0 < ti := by omega
          have ht2 : decide ((ti : Int) ≠ 0) = true := decide_eq_true (by omega)
          rw [if_neg (show ¬ (ti : Int) = 0 by omega), ht2] at hA
          go_wp2_with fail
          refine (hA _ B).mono ?_
          rintro e w3 ⟨rfl, hw⟩
          subst hw
          go_wp2_with fail
          refine (hW _ B).mono ?_
          rintro e w4 ⟨rfl, hw⟩
          subst hw
          go_wp2_with fail
          refine (hT _ B).mono ?_
          rintro e w5 ⟨rfl, hw⟩
          subst hw
          go_wp2_with fail
          go_roundw
          case rel => exact ⟨i + 1, nx, wa, ti, x, by omega, by omega, hnx, hwa, by omega, hwt, rfl, rfl, rfl, by go_num, B, bel⟩
          case measure => simp [intOf]; omega
      · go_wp2_with fail
        go_ret
        exact ⟨rfl, by rw [hg]; exact bel⟩
    · go_wp2_with fail
      go_ret
      exact ⟨rfl, by rw [hg]; exact bel⟩
end Go.Proofs.Ytdocphkpeonldaa.rec_
