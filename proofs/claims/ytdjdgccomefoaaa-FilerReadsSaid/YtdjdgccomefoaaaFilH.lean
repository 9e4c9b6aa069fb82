/- Layer 40: whatever bytes come; the statement walked. -/
import Derived.Test.YtdjdgccomefoaaaFilG
namespace Go.Proofs.Ytdjdgccomefoaaa.fil
open Go.Sort (grow)
open Go.ChangeShapes Go.WideShapes Go.ChangeAt Go.RowKit kit oct byt
set_option maxRecDepth 100000

theorem put4 (n : Int) (w : World) (h0 : 0 ≤ n) (h1 : n ≤ 18446744073709551615) : Calls Try.prog 40 #[.int .u64 n, .int .i64 4] w fun e w' => e = .returned (.string (p4 n)) ∧ Below w.heap.size w w' :=
  put_at 4 n 4 w rfl (by omega) h0 h1
/-- Is it a piece? -/
def wnt (n k : Nat) (T : ByteArray) : Bool := decide (k % 500 = 0 ∧ k ≤ n ∧ (T.size : Int) = min ((n : Int) - k) 500 ∧ (0 < T.size ∨ n = 0))
theorem ok_wnt (i n k : Nat) (T : ByteArray) (hi : i ≤ 4294967295) (hn : n ≤ 1023) (hk : k ≤ 1023) : okR (p4 i ++ p4 n ++ p4 k ++ T) = wnt n k T := by
  obtain ⟨_, b, c, d, e⟩ := parse i n k T hi (by omega) (by omega)
  unfold okR wnt beg
  rw [b, c, d, e]
  rw [Bool.eq_iff_iff]
  simp only [decide_true, Bool.true_and, Bool.and_eq_true, decide_eq_true_eq]
  omega
theorem pc_wnt (i n k : Nat) (T : ByteArray) (hi : i ≤ 4294967295) (hn : n ≤ 1023) (hk : k ≤ 1023) (h : wnt n k T = true) : pcR (p4 i ++ p4 n ++ p4 k ++ T) = pc i n k T := by
  obtain ⟨a, b, c, d, _⟩ := parse i n k T hi (by omega) (by omega)
  unfold pcR
  rw [if_pos (by rw [ok_wnt i n k T hi hn hk, h]), a, b, c, d]
set_option maxHeartbeats 2000000 in
theorem reads_law (s : ByteArray) (i : Nat) (x y : Int) (w : World) (hs : s.size ≤ maxLen) (hi : i ≤ 4294967295) :
    Calls Try.prog 6 #[.string s, .int .u32 i, .agg #[.int .i64 x, .int .i64 y]] w fun e w' => e = .returned (.bool true) ∧ Below w.heap.size w w' := by
  have hmx := i64_mask x 10 (by omega)
  have hmy := i64_mask y 10 (by omega)
  rw [show ((2 ^ 10 - 1 : Nat) : Int) = 1023 from rfl] at hmx hmy
  obtain ⟨n, hn, hn1⟩ : ∃ n : Nat, bits .and .i64 x 1023 = n ∧ n ≤ 1023 := ⟨(x % (2 ^ 10 : Nat)).toNat, by rw [hmx]; omega, by omega⟩
  obtain ⟨k, hk, hk1⟩ : ∃ k : Nat, bits .and .i64 y 1023 = k ∧ k ≤ 1023 := ⟨(y % (2 ^ 10 : Nat)).toNat, by rw [hmy]; omega, by omega⟩
  clear hmx hmy
  obtain ⟨T, hT, hT1⟩ : ∃ T, s.extract 0 (min (s.size : Int) 600).toNat = T ∧ T.size ≤ 600 := ⟨_, rfl, by simp; omega⟩
  obtain ⟨U, hU, hU1⟩ : ∃ U, T.extract 0 (min (T.size : Int) 11).toNat = U ∧ U.size < 12 := ⟨_, rfl, by simp; omega⟩
  obtain ⟨X, hX⟩ : ∃ X, X = p4 i ++ p4 n ++ p4 k ++ T := ⟨_, rfl⟩
  have hXs : X.size ≤ maxLen := by rw [hX]; unfold maxLen; simp [p4_size]; omega
  have hok : okR X = wnt n k T := by rw [hX]; exact ok_wnt i n k T hi hn1 hk1
  have hpc : wnt n k T = true → pcR X = pc i n k T := by rw [hX]; exact pc_wnt i n k T hi hn1 hk1
  have hU2 : U.size ≤ maxLen := by unfold maxLen; omega
  have hub := fun (g : Nat) W => take_bad (some ⟨g, 0, none⟩) U W hU2 (.inr ⟨⟨_, rfl⟩, short_no U hU1⟩)
  have HUB := Lib.hid hub
  have HOK := Lib.hid hok
  have HPC := Lib.hid hpc
  have HX := Lib.hid hX
  have HXS := Lib.hid hXs
  have HT := Lib.hid hT
  have HT1 := Lib.hid hT1
  have HU := Lib.hid hU
  unfold maxLen at hs
  clear hub hok hpc hX hXs hU1 hU2 hT hT1 hU
  have HS := Lib.hid hs
  have Y1 := Blk.new w 68 #[.int .i64 x, .int .i64 y]
  have bel1 := (Below.refl w.heap.size w).alloc (Nat.le_refl _) (.cells #[.int .i64 x, .int .i64 y] 68)
  go_enter Try.func6, Try.ntmps6
  go_upto_region 2 with (fail)
  rw [HT.out]
  generalize w.alloc (.cells #[.int .i64 x, .int .i64 y] 68) = w1 at *
  have y0 : w1.cell? ⟨w.heap.size, 0, none⟩ = some (.int .i64 x) := Y1.cell 0
  have y1 : w1.cell? ⟨w.heap.size, 1, none⟩ = some (.int .i64 y) := Y1.cell 1
  go_cut [8, 9] (fun s8 s9 wx => s8 = .int .i64 n ∧ s9 = .int .i64 k ∧ Below w.heap.size w wx)
  case first =>
    go_region
    all_goals
      go_wp2_with fail
      go_meet
      exact ⟨rfl, rfl, bel1.drew⟩
  case rest =>
  obtain ⟨rfl, rfl, bel2⟩ := hcut
  clear Y1 bel1 y0 y1 hn hk
  generalize wc = w2 at *
  go_wp2_with fail
  refine (put4 _ _ (by omega) (by omega)).mono ?_
  rintro e w3 ⟨rfl, hb3⟩
  have bel3 := bel2.trans (hb3.mono bel2.size)
  clear bel2 hb3
  go_wp2_with fail
  refine (put4 _ _ (by omega) (by omega)).mono ?_
  rintro e w4 ⟨rfl, hb4⟩
  have bel4 := bel3.trans (hb4.mono bel3.size)
  clear bel3 hb4
  have sA : (p4 i).size ≤ 4 := by rw [p4_size]; omega
  have sB : (p4 n).size ≤ 4 := by rw [p4_size]; omega
  have sC : (p4 k).size ≤ 4 := by rw [p4_size]; omega
  have hT6 := HT1.out
  go_wp2_with fail
  refine (put4 _ _ (by omega) (by omega)).mono ?_
  rintro e w5 ⟨rfl, hb5⟩
  have bel5 := bel4.trans (hb5.mono bel4.size)
  clear bel4 hb5
  go_upto_region 4 with (fail)
  rw [← HX.out]
  clear sA sB sC hT6 HX HT HS hs
  go_wp2_with fail
  refine (new_rv _).mono ?_
  rintro e w6 ⟨rfl, q6, hb6⟩
  have bel6 := bel5.trans (hb6.mono bel5.size)
  have hw5 : w.heap.size ≤ w5.heap.size := bel5.size
  clear bel5 hb6
  generalize w5.heap.size = r at *
  have htk : (k : Int).tmod 500 = (k : Int) % 500 := Int.tmod_eq_emod_of_nonneg (by omega)
  obtain ⟨km, hkm, hkm1⟩ : ∃ km : Nat, (k : Int) % 500 = km ∧ km = k % 500 := ⟨k % 500, by omega, rfl⟩
  rw [hkm] at htk
  have HKM := Lib.hid hkm1
  clear hkm hkm1
  have hT6 := HT1.out
  have hmn : ∀ wc : World, True := fun _ => trivial
  clear hmn
  have hcutW : ∀ b : Bool, b = wnt n k T → b = decide (k % 500 = 0 ∧ k ≤ n ∧ (T.size : Int) = min ((n : Int) - k) 500 ∧ (0 < T.size ∨ n = 0)) := fun b h => h
  clear hcutW
  cases hw : wnt n k T with
  | false =>
    have hokx : okR X = false := by rw [HOK.out, hw]
    have htb := fun (g : Nat) W => take_bad (some ⟨g, 0, none⟩) X W HXS.out (.inr ⟨⟨_, rfl⟩, hokx⟩)
    have HW := Lib.hid hw
    clear hokx hw HPC HOK HXS
    go_wp2_with fail
    refine (htb _ _).mono ?_
    rintro e w7 ⟨rfl, hb7⟩
    have q7 := q6.below hb7 (Nat.le_refl _)
    have bel7 := bel6.trans (hb7.mono bel6.size)
    clear q6 bel6 hb7 htb
    go_upto_region 6 with (fail)
    have q8 := q7.alloc (.cells #[.int .u32 0, .string ⟨#[]⟩] 58)
    have bel8 := bel7.alloc bel7.size (.cells #[.int .u32 0, .string ⟨#[]⟩] 58)
    clear q7 bel7
    generalize w7.alloc (.cells #[.int .u32 0, .string ⟨#[]⟩] 58) = w8 at *
    go_cut [15] (fun s15 wx => s15 = .bool false ∧ wx = w8)
    case first =>
      have hwo := HW.out
      unfold wnt at hwo
      have hwo := of_decide_eq_false hwo
      clear q8 bel8 HUB HU HW
      by_cases c1 : km = 0
      · subst c1
        by_cases c2 : k ≤ n
        · obtain ⟨z, hz⟩ : ∃ z : Nat, n = k + z := ⟨n - k, by omega⟩
          have hsub : IntKind.i64.wrap ((n : Int) - k) = (n : Int) - k := IntWalk.i64_in _ (by omega)
          by_cases c3 : (T.size : Int) = min ((n : Int) - k) 500
          · have c4 : T.size = 0 := by
              by_cases h : 0 < T.size
              · exact absurd ⟨HKM.out.symm, c2, c3, .inl h⟩ hwo
              · omega
            have c5 : ¬ n = 0 := fun h => hwo ⟨HKM.out.symm, c2, c3, .inr h⟩
            clear hwo hz
            go_wp2_with fail
            go_meet
            exact ⟨by first | rfl | (simp [c4]; omega), rfl⟩
          · have c3' := c3
            clear hwo hz
            go_wp2_with fail
            go_meet
            exact ⟨by first | rfl | (simp [c3']), rfl⟩
        · clear hwo
          go_wp2_with fail
          go_meet
          exact ⟨by first | rfl | (simp; omega), rfl⟩
      · clear hwo
        go_wp2_with fail
        go_meet
        exact ⟨by first | rfl | (simp; omega), rfl⟩
    case rest =>
    obtain ⟨rfl, rfl⟩ := hcut
    go_wp2_with fail
    rw [HU.out]
    refine (HUB.out _ _).mono ?_
    rintro e w9 ⟨rfl, hb9⟩
    have q9 := q8.below hb9 (Nat.le_refl _)
    have bel9 := bel8.trans (hb9.mono bel8.size)
    clear q8 bel8 hb9 HUB HU HW htk HKM
    go_upto_region 8 with (fail)
    have q10 := q9.alloc (.cells #[.int .u32 0, .string ⟨#[]⟩] 58)
    have bel10 := bel9.alloc bel9.size (.cells #[.int .u32 0, .string ⟨#[]⟩] 58)
    clear q9 bel9
    generalize w9.alloc (.cells #[.int .u32 0, .string ⟨#[]⟩] 58) = w10 at *
    go_wp2_with fail
    refine (awake40_any _).mono ?_
    rintro e w11 ⟨rfl, hb11⟩
    have q11 := q10.below hb11 (Nat.le_refl _)
    have bel11 := bel10.trans (hb11.mono bel10.size)
    clear q10 bel10 hb11
    go_wp2_with fail
    refine (len_rv _ q11).mono ?_
    rintro e w12 ⟨rfl, rfl⟩
    go_wp2_with fail
    go_ret
    exact ⟨rfl, bel11⟩
  | true =>
    have hokx : okR X = true := by rw [HOK.out, hw]
    have hpx := HPC.out hw
    have hwo := hw
    unfold wnt at hwo
    obtain ⟨w1', w2', w3', w4'⟩ := of_decide_eq_true hwo
    have hst : ∃ (oi : Int) (od : ByteArray) (wh : Bool), (∀ (b0 g m : Nat) W, Rv b0 g m #[] 0 W → Calls Try.prog 35 #[.pointer (some ⟨g, 0, none⟩), .string X] W fun e w' => e = .returned (.tuple #[.agg #[.int .u32 oi, .string od], .bool wh, .int .i64 0]) ∧ Below b0 W w') ∧ ((wh = true ∧ (n : Int) ≤ 500 ∧ oi = i ∧ od = T) ∨ (wh = false ∧ ¬ (n : Int) ≤ 500)) := by
      by_cases hz : T.size = n
      · refine ⟨i, T, true, fun b0 g m W q => ?_, .inl ⟨rfl, by omega, rfl, rfl⟩⟩
        have hk0 : k = 0 := by omega
        have h := take_good i n k T X W q HXS.out hokx hpx (by omega) (by omega) (by omega)
        have e1 : decide (T.size = n) = true := decide_eq_true hz
        rw [if_pos hz, if_pos hz, e1] at h
        have hwl : whl n k T = T := by rw [hk0, ← hz]; exact whl_all T
        rw [hwl] at h
        exact h
      · refine ⟨0, ⟨#[]⟩, false, fun b0 g m W q => ?_, .inr ⟨rfl, by omega⟩⟩
        have h := take_good i n k T X W q HXS.out hokx hpx (by omega) (by omega) (by omega)
        have e1 : decide (T.size = n) = false := decide_eq_false hz
        rw [if_neg hz, if_neg hz, e1] at h
        exact h
    obtain ⟨oi, od, wh, htb, hcase⟩ := hst
    have HW := Lib.hid (And.intro w1' (And.intro w2' (And.intro w3' w4')))
    have HC := Lib.hid hcase
    clear hokx hw HPC HOK HXS hwo w1' w2' w3' w4' hpx hcase
    go_wp2_with fail
    refine (htb _ _ _ _ q6).mono ?_
    rintro e w7 ⟨rfl, hb7⟩
    have bel7 := bel6.trans (hb7.mono hw5)
    clear q6 bel6 hb7 htb
    go_upto_region 6 with (fail)
    have O8 := Blk.new w7 58 #[.int .u32 oi, .string od]
    have bel8 := bel7.alloc bel7.size (.cells #[.int .u32 oi, .string od] 58)
    clear bel7
    generalize w7.alloc (.cells #[.int .u32 oi, .string od] 58) = w8 at *
    generalize w7.heap.size = p at *
    go_cut [15] (fun s15 wx => s15 = .bool true ∧ wx = w8)
    case first =>
      obtain ⟨c1, c2, c3, c4⟩ := HW.out
      have c1' : km = 0 := by rw [HKM.out]; exact c1
      subst c1'
      clear O8 bel8 HUB HU HW HC HKM c1
      have hsub : IntKind.i64.wrap ((n : Int) - k) = (n : Int) - k := IntWalk.i64_in _ (by omega)
      by_cases c5 : 0 < T.size
      · clear c4
        go_wp2_with fail
        go_meet
        exact ⟨by first | rfl | simp [c3], rfl⟩
      · have c6 : n = 0 := c4.resolve_left c5
        subst c6
        have c7 : k = 0 := by omega
        subst c7
        clear c4
        go_wp2_with fail
        go_meet
        exact ⟨by first | rfl | simp [c3], rfl⟩
    case rest =>
    obtain ⟨rfl, rfl⟩ := hcut
    go_wp2_with fail
    rw [HU.out]
    refine (HUB.out _ _).mono ?_
    rintro e w9 ⟨rfl, hb9⟩
    have O9 := O8.below hb9 O8.lt
    have bel9 := bel8.trans (hb9.mono bel8.size)
    clear O8 bel8 hb9 HUB HU HW htk HKM
    go_upto_region 8 with (fail)
    have O10 := O9.alloc (.cells #[.int .u32 0, .string ⟨#[]⟩] 58)
    have bel10 := bel9.alloc bel9.size (.cells #[.int .u32 0, .string ⟨#[]⟩] 58)
    clear O9 bel9
    generalize w9.alloc (.cells #[.int .u32 0, .string ⟨#[]⟩] 58) = w10 at *
    go_wp2_with fail
    refine (awake40_any _).mono ?_
    rintro e w11 ⟨rfl, hb11⟩
    have O11 := O10.below hb11 O10.lt
    have bel11 := bel10.trans (hb11.mono bel10.size)
    clear O10 bel10 hb11
    have o0 : w11.cell? ⟨p, 0, none⟩ = some (.int .u32 oi) := O11.cell 0
    have o1 : w11.cell? ⟨p, 1, none⟩ = some (.string od) := O11.cell 1
    rcases HC.out with ⟨rfl, h500, rfl, rfl⟩ | ⟨rfl, h500⟩
    · clear HC
      go_wp2_with fail
      go_ret
      exact ⟨rfl, bel11⟩
    · clear HC
      go_wp2_with fail
      go_ret
      exact ⟨ret_bool (by simp; omega), bel11⟩
theorem reads_open {H : Type} {enc : TypeId × Value → H} {W : World} {base : Nat} {v0 v1 v2 : Value} {d0 d1 d2 : DataW H} {p0 p1 p2 : List MemPlace}
    (o0 : Value.okWide Try.prog W .any base 9 v0) (o1 : Value.okWide Try.prog W .any base 23 v1) (o2 : Value.okWide Try.prog W .any base 68 v2) (h0 : DataW.Trod enc Try.prog W 0 (fun _ => true) true 9 v0 d0 p0) (h1 : DataW.Trod enc Try.prog W 0 (fun _ => true) true 23 v1 d1 p1) (h2 : DataW.Trod enc Try.prog W 0 (fun _ => true) true 68 v2 d2 p2) :
    Calls Try.prog 6 #[v0, v1, v2] W fun e w' => e = .returned (.bool true) ∧ Below W.heap.size W w' := by
  obtain ⟨s, rfl, _, _, hs⟩ := ChangeMaps.open_string Try.underlying9 o0 h0
  obtain ⟨i, rfl, _, _, wi⟩ := open_int Try.underlying23 o1 h1
  obtain ⟨l, rfl, F0⟩ := open_array 3 (sh := [.int .i64, .int .i64]) Try.underlying68 (by kernel_rfl) (by kernel_rfl) o2 h2
  obtain ⟨x, l0, rfl, _, F1⟩ := F0.int
  obtain ⟨y, l1, rfl, _, F2⟩ := F1.int
  obtain rfl := F2.nil
  obtain ⟨z1, z2⟩ := bounds_u32 wi
  obtain ⟨j, rfl⟩ : ∃ j : Nat, i = j := ⟨i.toNat, by omega⟩
  exact reads_law s j x y W hs (by omega)
end Go.Proofs.Ytdjdgccomefoaaa.fil
