/- Layer 40: an object is told when all its pieces came; the statement walked. -/
import Derived.Test.YthddacgdmngfhaaTkE
import Derived.Deep.RegionLaw
import Derived.Deep.DeepCutAuto
namespace Go.Proofs.Ythddacgdmngfhaa.fil
open Go.Sort (grow)
open Go.ChangeShapes Go.WideShapes Go.ChangeAt Go.RowKit kit oct byt
set_option maxRecDepth 100000

theorem add_blk' (a : Addr) (i : Nat) : (a.add i).block = a.block := by unfold Addr.add; split <;> rfl
set_option maxHeartbeats 8000000 in
theorem takes_walk (s : ByteArray) (x : Int) (oa : Option Addr) (a : Addr) (len cap : Nat) (v : Nat → Int) (w : World) (hs : s.size ≤ maxLen) (hlc : len ≤ cap) (hcm : cap ≤ maxLen) (hoa : 0 < len → oa = some a) (hab : 0 < len → a.block < w.heap.size)
    (hv : ∀ i, i < len → w.cell? (a.add i) = some (.int .i64 (v i))) :
    Calls Try.prog 5 #[.string s, .int .i64 x, .slice oa len cap] w fun e w' => e = .returned (.bool true) ∧ Below w.heap.size w w' := by
  have hmx := i64_mask x 12 (by omega)
  rw [show ((2 ^ 12 - 1 : Nat) : Int) = 4095 from rfl] at hmx
  obtain ⟨z, hz, hz1⟩ : ∃ z : Nat, bits .and .i64 x 4095 = z ∧ z ≤ 4095 := ⟨(x % (2 ^ 12 : Nat)).toNat, by rw [hmx]; omega, by omega⟩
  have hby := fun W => bytes_any s x z hz hz1 hs W
  clear hmx hz
  unfold maxLen at hcm
  have HV := Lib.hid (And.intro hoa (And.intro hab hv))
  clear hoa hab hv hs
  go_enter Try.func5, Try.ntmps5
  go_wp2_with fail
  refine (hby _).mono ?_
  rintro e w1 ⟨D, hD, rfl, bel1⟩
  subst hD
  clear hby
  go_upto_region 2 with fail
  have O2 := Blk.new w1 57 #[.int .u32 9, .string D]
  have bel2 := bel1.alloc bel1.size (.cells #[.int .u32 9, .string D] 57)
  have hgo : w.heap.size ≤ w1.heap.size := bel1.size
  clear bel1
  generalize w1.alloc (.cells #[.int .u32 9, .string D] 57) = w2 at *
  generalize w1.heap.size = ob at *
  obtain ⟨g, hg⟩ : ∃ g, w.heap.size = g := ⟨_, rfl⟩
  have htd : ((D.size : Int) + 500 - 1).tdiv 500 = (((D.size + 499) / 500 : Nat) : Int) := by
    rw [Int.tdiv_eq_ediv_of_nonneg (by omega)]
    omega
  have hw1 : IntKind.i64.wrap ((D.size : Int) + 500) = (D.size : Int) + 500 := IntWalk.i64_in _ (by omega)
  have hw2 : IntKind.i64.wrap ((D.size : Int) + 500 - 1) = (D.size : Int) + 500 - 1 := IntWalk.i64_in _ (by omega)
  have hw3 : IntKind.i64.wrap (((D.size : Int) + 499) / 500) = ((D.size : Int) + 499) / 500 := IntWalk.i64_in _ (by omega)
  obtain ⟨M, hM⟩ : ∃ M : Nat, max 1 ((D.size + 499) / 500) = M := ⟨_, rfl⟩
  go_cut [8, 9] (fun s8 s9 wx => s8 = .pointer (some ⟨w2.heap.size + 1, 0, none⟩) ∧ s9 = .int .i64 M ∧ Rv w2.heap.size (w2.heap.size + 1) w2.heap.size #[] 0 wx ∧ Below w2.heap.size w2 wx)
  case first =>
    have o1 : w2.cell? ⟨ob, 1, none⟩ = some (.string D) := O2.cell 1
    have hnr := new_rv w2.drew
    have hob : ob < w2.heap.size := O2.lt
    clear HV O2 bel2
    go_region_law ((refine step_call2 (by rfl) 33 Try.f33 _ _ (by rfl) Try.func33 (by kernel_rfl) (by kernel_rfl) #[] (by simp) hnr ?_; rintro e w3 ⟨rfl, q3, hb3⟩; refine ⟨_, rfl, ?_⟩; have o3 : w3.cell? ⟨ob, 1, none⟩ = some (.string D) := (hb3.cell (p := ⟨ob, 1, none⟩) hob).trans o1))
    all_goals
      go_wp2_with fail
      all_goals
        go_meet
        exact ⟨rfl, by first | rfl | (congr 1; omega), q3, (Below.refl w2.heap.size w2).drew.trans hb3⟩
  case rest =>
  obtain ⟨rfl, rfl, q3, hb3⟩ := hcut
  generalize wc = w3 at *
  have O3 := O2.below hb3 O2.lt
  have bel3 := bel2.trans (hb3.mono bel2.size)
  have hob : ob < w2.heap.size := O2.lt
  have hbg : g ≤ w2.heap.size := by rw [← hg]; exact bel2.size
  have hgG : w2.heap.size + 1 < w3.heap.size := q3.B.lt
  have hM1 : 1 ≤ M := by omega
  have hM2 : M ≤ 9 := by omega
  clear O2 bel2 hb3 htd hw1 hw2 hw3
  generalize w2.heap.size = G at *
  have hmk := cam_run M w3 (by omega)
  go_upto_region 4 with fail
  have C4 := Blk.new w3 4 (cams M [])
  have al4 := (Below.refl w3.heap.size w3).alloc (Nat.le_refl _) (.cells (cams M []) 4)
  have O4 := O3.alloc (.cells (cams M []) 4)
  have q4 := q3.alloc (.cells (cams M []) 4)
  have bel4 := bel3.alloc bel3.size (.cells (cams M []) 4)
  clear hmk C4 al4 O3 q3 bel3
  have C4 := Blk.new w3 4 (cams M [])
  generalize w3.alloc (.cells (cams M []) 4) = w4 at *
  generalize w3.heap.size = cb at *
  have R4 : Rx G (G + 1) G D.size cb D [] w4 := ⟨List.nodup_nil, fun h => absurd rfl h, ⟨by omega, by omega⟩, .inl ⟨rfl, q4⟩⟩
  rw [hg] at bel4
  go_wp2_with fail
  go_loopw [11, 12] (fun s11 s12 wr => ∃ (i : Nat) (S : List Nat), i ≤ len ∧ i ≤ 60 ∧ s11 = .int .i64 (lft M S : Nat) ∧ s12 = .int .i64 i ∧ (S = [] → i = 0) ∧ Rx G (G + 1) G D.size cb D S wr ∧ Blk wr cb 4 (cams M S) ∧ Blk wr ob 57 #[.int .u32 9, .string D] ∧ Below g w wr) (fun _ s12 _ => 60 - (intOf s12).toNat)
  case atStart => exact ⟨0, [], by omega, by omega, by rw [lft_nil], rfl, fun _ => rfl, R4, C4, O4, bel4⟩
  case round =>
    clear R4 C4 O4 bel4 q4
    obtain ⟨i, S, hil, hi6, rfl, rfl, hS0, R, C, O, bel⟩ := hrel
    have hRs := R.size
    by_cases hlt : i < len
    · by_cases h60 : i < 60
      · have hoa := HV.out.1 (by omega)
        subst hoa
        have hbl := HV.out.2.1 (by omega)
        have hc : wr.cell? (a.add i) = some (.int .i64 (v i)) := (bel.cell (p := a.add i) (by rw [add_blk']; omega)).trans (HV.out.2.2 i hlt)
        obtain ⟨q, r, hr, hr1, hr2, hq, hqM⟩ : ∃ (q : Nat) (r : Int), (v i).tmod (M : Int) = r ∧ -(M : Int) < r ∧ r < (M : Int) ∧ (r + (M : Int)).tmod (M : Int) = (q : Int) ∧ q < M := by
          have h1 := Int.tmod_lt_of_pos (v i) (show (0 : Int) < (M : Int) by omega)
          have h2 : -(M : Int) < (v i).tmod (M : Int) := Int.lt_tmod_of_pos (v i) (by omega)
          have h3 : 0 ≤ (v i).tmod (M : Int) + (M : Int) := by omega
          have h4 : ((v i).tmod (M : Int) + (M : Int)).tmod (M : Int) = ((v i).tmod (M : Int) + (M : Int)) % (M : Int) := Int.tmod_eq_emod_of_nonneg h3
          have h5 := Int.emod_nonneg ((v i).tmod (M : Int) + (M : Int)) (show (M : Int) ≠ 0 by omega)
          have h6 := Int.emod_lt_of_pos ((v i).tmod (M : Int) + (M : Int)) (show (0 : Int) < (M : Int) by omega)
          exact ⟨(((v i).tmod (M : Int) + (M : Int)) % (M : Int)).toNat, _, rfl, h2, h1, by rw [h4]; omega, by omega⟩
        generalize v i = vi at *
        have hnz : ¬ (M : Int) = 0 := by omega
        have hlft : lft M S ≤ M := lft_le M S
        have hqk : q < max 1 ((D.size + 499) / 500) := by omega
        have htk := fun (W : World) (R' : Rx G (G + 1) G D.size cb D S W) (hc' : cb < W.heap.size) => take_x R' rfl hz1 hc' q hqk
        have hpc := fun W => piece_at 9 q D W (by omega) (by omega) (by omega)
        obtain ⟨A, hA⟩ : ∃ A : Nat, q * 500 = A := ⟨_, rfl⟩
        have hqA : (q : Int) * 500 = (A : Int) := by omega
        rw [hA] at hpc
        generalize pcsK 9 D q = PC at *
        have HT := Lib.hid (And.intro htk (And.intro hpc (And.intro hqk hA)))
        clear htk hpc hqk hA
        go_upto_region 9 with fail
        clear hr hr1 hr2 hq hc hbl
        have hqi : (q : Int) < (M : Int) := by omega
        have hgl := R.gc
        -- the place is marked
        obtain ⟨b, hb⟩ : ∃ b, decide (q ∈ S) = b := ⟨_, rfl⟩
        have hcq : wr.cell? ⟨cb, q, none⟩ = some (.bool b) := (C.cell q).trans (by rw [cams_get M S q hqM, hb])
        go_upto_if 56 with fail
        clear hcq
        go_cut [11] (fun s11 wx => ∃ S1 : List Nat, s11 = .int .i64 (lft M S1 : Nat) ∧ (∀ y, y ∈ S1 ↔ y = q ∨ y ∈ S) ∧ Rx G (G + 1) G D.size cb D S wx ∧ Blk wx cb 4 (cams M S1) ∧ Blk wx ob 57 #[.int .u32 9, .string D] ∧ Below g w wx)
        case first =>
          clear HV HT
          cases b with
          | true =>
            have hqS : q ∈ S := of_decide_eq_true hb
            go_wp2_with fail
            go_meet
            exact ⟨S, rfl, fun y => ⟨fun h => .inr h, fun h => h.elim (fun e => e ▸ hqS) id⟩, R, C, O, bel⟩
          | false =>
            have hqS : q ∉ S := of_decide_eq_false hb
            have hfq : wr.frozen? ⟨cb, q, none⟩ = false := C.frozen q
            have hcq : wr.cell? ⟨cb, q, none⟩ = some (.bool false) := (C.cell q).trans (by rw [cams_get M S q hqM, hb])
            have hmem : ∀ y, y ∈ q :: S ↔ y = q ∨ y ∈ S := fun y => List.mem_cons
            have hl := lft_more hmem hqS M
            rw [if_pos hqM] at hl
            have hlw : IntKind.i64.wrap ((lft M S : Int) - 1) = (lft M (q :: S) : Int) := by rw [IntWalk.i64_in _ (by omega)]; omega
            have hcs := cams_set M hmem
            have C1 := C.set_ q (.bool true)
            rw [hcs] at C1
            have R1 := R.far q (.bool true)
            have O1 := O.far (p := ⟨cb, q, none⟩) (show ob ≠ cb by omega) (.bool true)
            have bel1 := bel.setCell (p := ⟨cb, q, none⟩) (show g ≤ cb by omega) (.bool true)
            go_wp2_with fail
            go_meet
            exact ⟨q :: S, by first | rfl | (rw [hlw]; done) | (congr 1; omega), hmem, R1, C1, O1, bel1⟩
        case rest =>
        obtain ⟨S1, rfl, hS1, R1, C1, O1, bel1⟩ := hcut
        generalize wc = w5 at *
        clear R C O bel
        have o0 : w5.cell? ⟨ob, 0, none⟩ = some (.int .u32 9) := O1.cell 0
        have o1 : w5.cell? ⟨ob, 1, none⟩ = some (.string D) := O1.cell 1
        have hGs := R1.size
        go_wp2_with fail
        refine (HT.out.2.1 _).mono ?_
        rintro e w6 ⟨rfl, hb6⟩
        have R6 := R1.below hb6 (Nat.le_refl _)
        have C6 := C1.below hb6 C1.lt
        have O6 := O1.below hb6 O1.lt
        have hgw5 : g ≤ w5.heap.size := by have := C1.lt; omega
        have bel6 := bel1.trans (hb6.mono hgw5)
        have htk := HT.out.1 w6 R6 C6.lt
        clear R1 C1 O1 bel1 hb6 o0 o1
        go_wp2_with fail
        refine htk.mono ?_
        rintro e w7 ⟨S2, hS2, hcb7, hb7, hcl7, hcase⟩
        have C7 : Blk w7 cb 4 (cams M S2) := by
          have := hcb7.trans C6
          rwa [cams_same M (S := S1) (T := S2) (fun y => by rw [hS2 y, hS1 y])] at this
        have O7 := O6.below hb7 hob
        have bel7 := bel6.trans (hb7.mono hbg)
        have hgw7 : g ≤ w7.heap.size := by omega
        have hl12 : lft M S1 = lft M S2 := lft_same M (fun y => by rw [hS2 y, hS1 y])
        have hl2 := lft_le M S2
        rw [hl12]
        have hcl : cov D.size S2 = D.size ↔ lft M S2 = 0 := by
          rw [← hM]
          refine cov_lft D.size S2 ?_
          by_cases h0 : 0 < D.size
          · exact .inr h0
          · refine .inl ((hS2 0).2 (.inl ?_))
            omega
        have hq2 : q ∈ S2 := (hS2 q).2 (.inl rfl)
        clear htk hcb7 hb7 hl12 C6 O6 bel6 R6
        have O8 := Blk.new w7 57
        rcases hcase with ⟨hcv, rfl, c, R7⟩ | ⟨hcv, rfl, R7⟩
        · have hl0 := hcl.1 hcv
          have hl0' : (lft M S2 : Int) = 0 := by omega
          rw [hl0']
          clear hl0' hl0 hcv hcl
          have X8 := O8 #[.int .u32 9, .string D]
          have al8 := (Below.refl w7.heap.size w7).alloc (Nat.le_refl _) (.cells #[.int .u32 9, .string D] 57)
          have O9 := O7.alloc (.cells #[.int .u32 9, .string D] 57)
          have R9 := R7.alloc (.cells #[.int .u32 9, .string D] 57)
          have bel9 := bel7.trans (al8.mono hgw7)
          clear O8 O7 R7 bel7 al8
          go_upto_region 12 with fail
          generalize w7.alloc (.cells #[.int .u32 9, .string D] 57) = w9 at *
          have o0 : w9.cell? ⟨ob, 0, none⟩ = some (.int .u32 9) := O9.cell 0
          have o1 : w9.cell? ⟨ob, 1, none⟩ = some (.string D) := O9.cell 1
          have x0 : w9.cell? ⟨w7.heap.size, 0, none⟩ = some (.int .u32 9) := X8.cell 0
          have x1 : w9.cell? ⟨w7.heap.size, 1, none⟩ = some (.string D) := X8.cell 1
          have hgw9 : g ≤ w9.heap.size := by have := R9.B.lt; omega
          go_wp2_with fail
          refine (awake40_any _).mono ?_
          rintro e w10 ⟨rfl, hb10⟩
          have R10 := R9.below hb10 (Nat.le_refl _)
          have bel10 := bel9.trans (hb10.mono hgw9)
          clear o0 o1 x0 x1 R9 bel9 hb10
          go_wp2_with fail
          refine (len_rv _ R10).mono ?_
          rintro e w11 ⟨rfl, rfl⟩
          go_wp2_with fail
          go_ret
          exact ⟨rfl, by rw [hg]; exact bel10⟩
        · have hl0 : ¬ (lft M S2 : Int) = 0 := by
            intro h
            exact hcv (hcl.2 (by omega))
          clear hcv hcl
          have X8 := O8 #[.int .u32 0, .string ⟨#[]⟩]
          have al8 := (Below.refl w7.heap.size w7).alloc (Nat.le_refl _) (.cells #[.int .u32 0, .string ⟨#[]⟩] 57)
          have O9 := O7.alloc (.cells #[.int .u32 0, .string ⟨#[]⟩] 57)
          have C9 := C7.alloc (.cells #[.int .u32 0, .string ⟨#[]⟩] 57)
          have R9 := R7.below al8 (Nat.le_refl _)
          have bel9 := bel7.trans (al8.mono hgw7)
          clear O8 O7 R7 bel7 al8 X8 C7
          go_upto_region 12 with fail
          generalize w7.alloc (.cells #[.int .u32 0, .string ⟨#[]⟩] 57) = w9 at *
          have HR := Lib.hid (And.intro R9 (And.intro C9 (And.intro O9 bel9)))
          clear R9 C9 O9 bel9
          go_wp2_with fail
          go_roundw
          case rel => exact ⟨i + 1, S2, by omega, by omega, rfl, by go_num, fun h => by (rw [h] at hq2; cases hq2), HR.out.1, HR.out.2.1, HR.out.2.2.1, HR.out.2.2.2⟩
          case measure => simp [intOf]; omega
      · obtain rfl : i = 60 := by omega
        have hSn : S ≠ [] := fun h => by have := hS0 h; omega
        have hnl : ¬ (len : Int) = 0 := by omega
        go_wp2_with fail
        refine (awake40_any _).mono ?_
        rintro e w10 ⟨rfl, hb10⟩
        have R10 := R.below hb10 (Nat.le_refl _)
        have hgw : g ≤ wr.heap.size := by have := C.lt; omega
        have bel10 := bel.trans (hb10.mono hgw)
        have hln := R10.len_
        rw [if_neg hSn] at hln
        go_wp2_with fail
        refine hln.mono ?_
        rintro e w11 ⟨rfl, rfl⟩
        go_wp2_with fail
        go_ret
        exact ⟨rfl, by rw [hg]; exact bel10⟩
    · obtain rfl : i = len := by omega
      have hi60 : (i : Int) ≤ 60 := by omega
      go_wp2_with fail
      refine (awake40_any _).mono ?_
      rintro e w10 ⟨rfl, hb10⟩
      have R10 := R.below hb10 (Nat.le_refl _)
      have hgw : g ≤ wr.heap.size := by have := C.lt; omega
      have bel10 := bel.trans (hb10.mono hgw)
      have hln := R10.len_
      by_cases hSn : S = []
      · rw [if_pos hSn] at hln
        obtain rfl : i = 0 := hS0 hSn
        go_wp2_with fail
        refine hln.mono ?_
        rintro e w11 ⟨rfl, rfl⟩
        go_wp2_with fail
        go_ret
        exact ⟨rfl, by rw [hg]; exact bel10⟩
      · rw [if_neg hSn] at hln
        go_wp2_with fail
        refine hln.mono ?_
        rintro e w11 ⟨rfl, rfl⟩
        go_wp2_with fail
        go_ret
        exact ⟨rfl, by rw [hg]; exact bel10⟩
theorem open_nums {H : Type} {enc : TypeId × Value → H} {W : World} {base : Nat} {v0 : Value} {d0 : DataW H} {p0 : List MemPlace}
    (o0 : Value.okWide Try.prog W .any base 25 v0) (h0 : DataW.Trod enc Try.prog W 0 (fun _ => true) true 25 v0 d0 p0) :
    ∃ (oa : Option Addr) (a : Addr) (len cap : Nat) (v : Nat → Int), v0 = .slice oa len cap ∧ len ≤ cap ∧ cap ≤ maxLen ∧ (0 < len → oa = some a) ∧ (0 < len → a.block < W.heap.size) ∧ ∀ i, i < len → W.cell? (a.add i) = some (.int .i64 (v i)) := by
  rcases open_row 2 (sh := [.int .i64]) Try.underlying25 (by kernel_rfl) (by kernel_rfl) (by decide) o0 h0 with rfl | ⟨a, len, cap, C, rfl, hlc, hcm, hab, hC⟩
  · exact ⟨none, ⟨0, 0, none⟩, 0, 0, fun _ => 0, rfl, Nat.le_refl _, Nat.zero_le _, fun h => absurd h (by omega), fun h => absurd h (by omega), fun i h => absurd h (by omega)⟩
  · have hx : ∀ i, ∃ x : Int, i < len → W.cell? (a.add i) = some (.int .i64 x) := by
      intro i
      by_cases hi : i < len
      · obtain ⟨hF, hc⟩ := hC i hi
        obtain ⟨x, t, e, _, hF'⟩ := hF.int
        refine ⟨x, fun _ => ?_⟩
        have := hc 0 (.int .i64 x) (by rw [e]; rfl)
        simpa using this
      · exact ⟨0, fun h => absurd h hi⟩
    have hs := fun i => Classical.choose_spec (hx i)
    exact ⟨some a, a, len, cap, fun i => Classical.choose (hx i), rfl, hlc, hcm, fun _ => rfl, hab, fun i hi => hs i hi⟩
theorem takes_open {H : Type} {enc : TypeId × Value → H} {W : World} {base : Nat} {v0 v1 v2 : Value} {d2 : DataW H} {p2 : List MemPlace}
    (o0 : Value.okWide Try.prog W .any base 9 v0) (o1 : Value.okWide Try.prog W .any base 3 v1) (o2 : Value.okWide Try.prog W .any base 25 v2) {d0 d1 : DataW H} {p0 p1 : List MemPlace} (h0 : DataW.Trod enc Try.prog W 0 (fun _ => true) true 9 v0 d0 p0) (h1 : DataW.Trod enc Try.prog W 0 (fun _ => true) true 3 v1 d1 p1) (h2 : DataW.Trod enc Try.prog W 0 (fun _ => true) true 25 v2 d2 p2) :
    Calls Try.prog 5 #[v0, v1, v2] W fun e w' => e = .returned (.bool true) ∧ Below W.heap.size W w' := by
  obtain ⟨s, rfl, _, _, hs⟩ := Go.ChangeMaps.open_string Try.underlying9 o0 h0
  obtain ⟨x, rfl, _, _, _⟩ := open_int Try.underlying3 o1 h1
  obtain ⟨oa, a, len, cap, v, rfl, hlc, hcm, hoa, hab, hv⟩ := open_nums o2 h2
  exact takes_walk s x oa a len cap v W hs hlc hcm hoa hab hv
end Go.Proofs.Ythddacgdmngfhaa.fil
