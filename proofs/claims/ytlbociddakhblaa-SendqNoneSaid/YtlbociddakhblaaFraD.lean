/- Layer 19: a message in parts: the law. -/
import Derived.Test.YtlbociddakhblaaFraC
namespace Go.Proofs.Ytlbociddakhblaa.fra
open Go.Sort (grow)
open Go.ChangeShapes Go.WideShapes Go.ChangeAt Go.RowKit kit
set_option maxRecDepth 100000

theorem ext_min (D : ByteArray) (a b : Nat) : D.extract a b = D.extract a (min b D.size) := by
  apply ByteArray.ext
  simp only [ByteArray.data_extract]
  apply Array.ext'
  simp only [Array.toList_extract, List.extract_eq_take_drop]
  apply List.ext_getElem?
  intro k
  have hl : D.data.toList.length = D.size := by simp
  simp only [List.getElem?_take, List.getElem?_drop]
  by_cases hk : a + k < D.size
  · by_cases hz : k < b - a
    · rw [if_pos hz, if_pos (by omega)]
    · rw [if_neg hz, if_neg (by omega)]
  · have : D.data.toList[a + k]? = none := List.getElem?_eq_none (by omega)
    rw [this]
    simp
theorem szC : (Try.prog.info? 71).map (·.size) = some 15 := by kernel_rfl
theorem split_any (st ss pr size : Int) (lo : Bool) (D : ByteArray) (z : Nat) (F : Int) (hz : (z : Int) = max 1 size) (hF : F = if lo then 4 else 0) (h1 : -9223372036854775808 ≤ size) (h2 : size ≤ 9223372036854775807) (hD : D.size ≤ 100000) (w : World) :
    Calls Try.prog 33 #[.agg (ms st ss lo pr D), .int .i64 size] w fun e w' => Splits w.heap.size F st ss pr D z e w' ∧ Below w.heap.size w w' := by
  subst hF
  by_cases hs : 1 < size
  · cases lo
    · exact split_pos_false w.heap.size z st ss pr size D hs (by omega) h2 hD w (Nat.le_refl _)
    · exact split_pos_true w.heap.size z st ss pr size D hs (by omega) h2 hD w (Nat.le_refl _)
  · cases lo
    · exact split_low_false w.heap.size z st ss pr size D hs (by omega) h1 hD w (Nat.le_refl _)
    · exact split_low_true w.heap.size z st ss pr size D hs (by omega) h1 hD w (Nat.le_refl _)
theorem Parts.below {b0 B : Nat} {f st ss pr : Int} {D : ByteArray} {z n : Nat} {v : Value} {w w' : World} (hp : Parts b0 f st ss pr D z n v w) (hb : Below B w w') (hB : w.heap.size ≤ B) : Parts b0 f st ss pr D z n v w' := by
  rcases hp with h | ⟨h, cap, e, h1, h2, h3, h4, K⟩
  · exact Or.inl h
  · exact Or.inr ⟨h, cap, e, h1, h2, h3, h4, fun i hi => (K i hi).below hb (Nat.lt_of_lt_of_le (K i hi).lt hB)⟩
def L3 : ByteArray := ⟨#[97, 98, 99]⟩
theorem awake19_any (w : World) : Calls Try.prog 34 #[] w fun e w' => e = .returned (.bool true) ∧ Below w.heap.size w w' := by
  go_enter Try.func34, Try.ntmps34
  go_wp2_with fail
  refine (split_any 0 0 0 2 false L3 2 0 (by rfl) (by rfl) (by omega) (by omega) (by decide) _).mono ?_
  rintro e w1 ⟨⟨v, n, rfl, hp, hk, hd⟩, bel⟩
  have hs : L3.size = 3 := by rfl
  rw [hs] at hk hd
  obtain rfl : n = 2 := by
    have : n < 3 := by
      rcases Nat.lt_or_ge n 3 with q | q
      · exact q
      · have := hk 2 (by omega); omega
    omega
  clear hk hd
  rcases hp with ⟨h0, _⟩ | ⟨h, cap, rfl, h1, h2, h3, h4, K⟩
  · exact absurd h0 (by omega)
  have K0 := K 0 (by omega)
  have K1 := K 1 (by omega)
  have c0 : w1.cell? ⟨h, 6, none⟩ = some (.string ⟨#[97, 98]⟩) := by
    have := K0.cell 6 (u := .string ⟨#[97, 98]⟩) (by show some (Value.string (L3.extract 0 2)) = _; rw [show L3.extract 0 2 = ⟨#[97, 98]⟩ by decide +kernel])
    simpa using this
  have c1 : w1.cell? ⟨h, 16, none⟩ = some (.int .i64 1) := by
    have := K1.cell 1 (u := .int .i64 1) (by rfl)
    simpa using this
  clear K K0 K1 hs
  unfold maxLen at h3
  go_wp2_with fail
  go_ret
  exact ⟨rfl, bel⟩
/-- Where a part ends. -/
theorem part_ends (i z n s : Nat) (hn : n = min z 900) (hz : 1 ≤ z) (hs : s ≤ 900) (hi : i * z < s) : min (i * z + n) s = min ((i + 1) * z) s ∧ i * z < min (i * z + n) s := by
  rw [Nat.succ_mul]
  rcases Nat.eq_zero_or_pos i with rfl | hp
  · rw [Nat.zero_mul] at *
    omega
  · have h := Nat.le_mul_of_pos_left z hp
    omega
set_option maxHeartbeats 4000000 in
theorem splits_law (st ss pr size : Int) (lo : Bool) (D0 : ByteArray) (hd0 : D0.size ≤ 9223372036854775807) (h1 : -9223372036854775808 ≤ size) (h2 : size ≤ 9223372036854775807) (w : World) :
    Calls Try.prog 8 #[.agg (ms st ss lo pr D0), .int .i64 size] w fun e w' => e = .returned (.bool true) ∧ Below w.heap.size w w' := by
  obtain ⟨z, hz⟩ : ∃ z : Nat, (z : Int) = max 1 size := ⟨(max 1 size).toNat, by omega⟩
  obtain ⟨n, hn⟩ : ∃ n : Nat, n = min z 900 := ⟨_, rfl⟩
  obtain ⟨F, hF⟩ : ∃ F : Int, F = if lo then 4 else 0 := ⟨_, rfl⟩
  obtain ⟨D, hD⟩ : ∃ D, D = D0.extract 0 (min D0.size 900) := ⟨_, rfl⟩
  have hD9 : D.size ≤ 900 := by rw [hD]; simp; omega
  have hn0 : 1 ≤ n := by omega
  have hn9 : n ≤ 900 := by omega
  have HZ := Lib.hid hz
  have HN := Lib.hid hn
  have HF := Lib.hid hF
  have hlo : (lo = true ∧ F = 4) ∨ (lo = false ∧ F = 0) := by rw [hF]; cases lo <;> simp
  have HLO := Lib.hid hlo
  have HD := Lib.hid hD
  clear hz hn hF hD hlo
  go_enter Try.func8, Try.ntmps8
  go_upto_region 2 with (fail)
  have M0 : Blk ((w.alloc (.cells (ms st ss lo pr D0) 63)).alloc (.cells (ms st ss lo pr D0) 63)) w.heap.size 63 (ms st ss lo pr D0) := (Blk.new _ _ _).alloc _
  have X0 : Blk ((w.alloc (.cells (ms st ss lo pr D0) 63)).alloc (.cells (ms st ss lo pr D0) 63)) (w.heap.size + 1) 63 (ms st ss lo pr D0) := by
    have q := Blk.new (w.alloc (.cells (ms st ss lo pr D0) 63)) 63 (ms st ss lo pr D0)
    simpa using q
  have bel0 : Below w.heap.size w ((w.alloc (.cells (ms st ss lo pr D0) 63)).alloc (.cells (ms st ss lo pr D0) 63)) := ((Below.refl _ _).alloc (Nat.le_refl _) _).alloc (by simp) _
  generalize ((w.alloc (.cells (ms st ss lo pr D0) 63)).alloc (.cells (ms st ss lo pr D0) 63)) = w1 at *
  go_cut [] (fun wx => Blk wx w.heap.size 63 (ms st ss lo pr D0) ∧ Blk wx (w.heap.size + 1) 63 (ms st ss lo pr D) ∧ Below w.heap.size w wx)
  case first =>
    have c0 : w1.cell? ⟨w.heap.size, 4, none⟩ = some (.string D0) := M0.cell 4
    have c1 : w1.cell? ⟨w.heap.size + 1, 4, none⟩ = some (.string D0) := X0.cell 4
    have f1 : w1.frozen? ⟨w.heap.size + 1, 4, none⟩ = false := X0.frozen 4
    have X1 : Blk (w1.setCell ⟨w.heap.size + 1, 4, none⟩ (.string D)) (w.heap.size + 1) 63 (ms st ss lo pr D) := X0.set_ 4 (.string D)
    have M1 : Blk (w1.setCell ⟨w.heap.size + 1, 4, none⟩ (.string D)) w.heap.size 63 (ms st ss lo pr D0) := M0.far (p := ⟨w.heap.size + 1, 4, none⟩) (by simp) _
    have bel1 : Below w.heap.size w (w1.setCell ⟨w.heap.size + 1, 4, none⟩ (.string D)) := bel0.setCell (p := ⟨w.heap.size + 1, 4, none⟩) (by simp) _
    have hdd := HD.out
    have hmm : (D0.size : Int) ≤ 900 ∨ ¬ (D0.size : Int) ≤ 900 := by omega
    have H1 := Lib.hid X1
    clear M0 X0 X1 bel0 HD
    rcases hmm with q | q
    · obtain rfl : D0 = D := by rw [hdd, Nat.min_eq_left (by omega)]; simp
      clear hdd
      go_wp2_with fail
      go_meet
      exact ⟨M1, H1.out, bel1⟩
    · have e : D0.extract 0 900 = D := by rw [hdd, Nat.min_eq_right (by omega)]
      clear hdd
      go_wp2_with fail
      go_meet
      exact ⟨M1, H1.out, bel1⟩
  case rest =>
  clear M0 X0 bel0
  obtain ⟨M, X, bel⟩ := hcut
  go_upto_region 3 with (fail)
  go_cut [6] (fun s6 wx => s6 = .int .i64 (n : Nat) ∧ wx = wc)
  case first =>
    have hzz := HZ.out
    have hnn := HN.out
    clear M X bel
    rcases (by omega : size ≤ 1 ∨ (¬ size ≤ 1 ∧ size ≤ 900) ∨ (¬ size ≤ 1 ∧ ¬ size ≤ 900)) with q | ⟨q, q2⟩ | ⟨q, q2⟩
    · have hx0 : n = 1 := by omega
      have hx := Lib.hid hx0
      clear hzz hnn HN hx0
      rcases (by omega : size = 1 ∨ size < 1) with rfl | q1
      all_goals
        go_wp2_with fail
        go_meet
        exact ⟨by rw [hx.out]; rfl, rfl⟩
    · have hx0 : (n : Int) = size := by omega
      have hx := Lib.hid hx0
      clear hzz hnn HN hx0
      go_wp2_with fail
      go_meet
      exact ⟨by rw [hx.out], rfl⟩
    · have hx0 : n = 900 := by omega
      have hx := Lib.hid hx0
      clear hzz hnn HN hx0
      go_wp2_with fail
      go_meet
      exact ⟨by rw [hx.out]; rfl, rfl⟩
  case rest =>
  obtain ⟨rfl, rfl⟩ := hcut
  have x0 : wc.cell? ⟨w.heap.size + 1, 0, none⟩ = some (.int .i64 st) := X.cell 0
  have x1 : wc.cell? ⟨w.heap.size + 1, 1, none⟩ = some (.int .i64 ss) := X.cell 1
  have x2 : wc.cell? ⟨w.heap.size + 1, 2, none⟩ = some (.bool lo) := X.cell 2
  have x3 : wc.cell? ⟨w.heap.size + 1, 3, none⟩ = some (.int .u32 pr) := X.cell 3
  have x4 : wc.cell? ⟨w.heap.size + 1, 4, none⟩ = some (.string D) := X.cell 4
  go_wp2_with fail
  clear x0 x1 x2 x3 x4
  refine (split_any st ss pr size lo D z F HZ.out HF.out h1 h2 (by omega) _).mono ?_
  rintro e w2 ⟨⟨v, k, rfl, hp, hk, hd⟩, bel2⟩
  have M2 : Blk w2 w.heap.size 63 (ms st ss lo pr D0) := (bel2.block _ M.lt).trans M
  have X2 : Blk w2 (w.heap.size + 1) 63 (ms st ss lo pr D) := (bel2.block _ X.lt).trans X
  have bel3 := bel.trans (bel2.mono bel.size)
  clear M X bel bel2
  rcases hp with ⟨rfl, hp⟩ | ⟨h, cap, rfl, hk0, hkc, hcm, hbh, K⟩
  · have hd0' : D.size = 0 := by omega
    have HD0 := Lib.hid hd0'
    clear hd hk hd0'
    rcases hp with rfl | ⟨h, cap, rfl⟩
    all_goals
      go_wp2_with fail
      refine wp_loop_rounds 1 ?_
      rw [rounds_succ]
      go_wp2_with fail
      refine (awake19_any _).mono ?_
      rintro e w3 ⟨rfl, hb3⟩
      have X3 : Blk w3 (w.heap.size + 1) 63 (ms st ss lo pr D) := (hb3.block _ X2.lt).trans X2
      have c4 : w3.cell? ⟨w.heap.size + 1, 4, none⟩ = some (.string D) := X3.cell 4
      have bel4 := bel3.trans (hb3.mono bel3.size)
      clear X2 X3 M2 bel3 hb3
      go_wp2_with fail
      go_ret
      exact ⟨by simp; exact (congrArg Int.ofNat HD0.out).symm, bel4⟩
  · have HKH := Lib.hid hk
    have HK := Lib.hid K
    have HDD := Lib.hid hd
    have hks : k ≤ 9223372036854775807 := by unfold maxLen at hcm; omega
    clear hk K hd
    go_wp2_with fail
    go_loopw [8, 9] (fun s8 s9 wr => ∃ (i a : Nat), i ≤ k ∧ a = min (i * z) D.size ∧ s9 = .int .i64 i ∧ s8 = .int .i64 a ∧ (∀ j, j < k → Cel wr h (j * 15) (ck (fl F j k) st ss pr (D.extract (j * z) (j * z + z)))) ∧ Blk wr w.heap.size 63 (ms st ss lo pr D0) ∧ Blk wr (w.heap.size + 1) 63 (ms st ss lo pr D) ∧ Below w.heap.size w wr) (fun _ s9 _ => k - (intOf s9).toNat)
    case atStart => exact ⟨0, 0, by omega, by simp, rfl, rfl, HK.out, M2, X2, bel3⟩
    case round =>
      clear HK M2 X2 bel3
      obtain ⟨i, a, hi, ha, rfl, rfl, K, M2, X2, bel3⟩ := hrel
      have HK := Lib.hid K
      have HA := Lib.hid ha
      clear K ha
      by_cases hlt : i < k
      · have hiz := HKH.out i hlt
        have pe := part_ends i z n D.size HN.out (by have := HZ.out; omega) hD9 hiz
        have ha1 : a = i * z := by rw [HA.out]; omega
        obtain ⟨t, ht⟩ : ∃ t : Nat, t = min (a + n) D.size := ⟨_, rfl⟩
        have ht1 : t = min ((i + 1) * z) D.size := by rw [ht, ha1]; exact pe.1
        have hat : a < t := by rw [ht, ha1]; exact pe.2
        have htD : t ≤ D.size := by omega
        have hPD : D.extract (i * z) (i * z + z) = D.extract a t := by rw [ext_min D (i * z), ht1, Nat.succ_mul, ha1]
        have Ki := HK.out i hlt
        rw [hPD] at Ki
        have HKi := Lib.hid Ki
        have HT := Lib.hid ht
        have HT1 := Lib.hid ht1
        clear hiz pe ha1 ht ht1 hPD Ki
        obtain ⟨G, hG⟩ : ∃ G : Int, G = if i = 0 then F + 2 else F := ⟨_, rfl⟩
        have hg : (i = 0 ∧ F = 4 ∧ G = 6) ∨ (i = 0 ∧ F = 0 ∧ G = 2) ∨ (¬ i = 0 ∧ F = 4 ∧ G = 4) ∨ (¬ i = 0 ∧ F = 0 ∧ G = 0) := by
          rw [hG]
          rcases HLO.out with ⟨_, rfl⟩ | ⟨_, rfl⟩ <;> split <;> omega
        have HG := Lib.hid hg
        clear hG hg
        have cl : wr.cell? ⟨w.heap.size, 2, none⟩ = some (.bool lo) := M2.cell 2
        go_upto_if 35 with (fail)
        go_cut [10] (fun s10 wx => s10 = .int .i64 F ∧ wx = wr)
        case first =>
          clear HF HK HKi HT HT1 HA HDD HKH HZ HN HD M2 X2 bel3
          rcases HLO.out with ⟨rfl, rfl⟩ | ⟨rfl, rfl⟩
          all_goals
            go_wp2_with fail
            go_meet
            exact ⟨rfl, rfl⟩
        case rest =>
        obtain ⟨rfl, rfl⟩ := hcut
        clear cl
        go_upto_if 39 with (fail)
        go_cut [10] (fun s10 wx => s10 = .int .i64 G ∧ wx = wc)
        case first =>
          clear HF HK HKi HT HT1 HA HDD HKH HZ HN HD M2 X2 bel3
          rcases HG.out with ⟨rfl, rfl, rfl⟩ | ⟨rfl, rfl, rfl⟩ | ⟨p, rfl, rfl⟩ | ⟨p, rfl, rfl⟩
          all_goals
            go_wp2_with fail
            go_meet
            exact ⟨rfl, rfl⟩
        case rest =>
        obtain ⟨rfl, rfl⟩ := hcut
        go_upto_if 46 with (fail)
        go_cut [10] (fun s10 wx => s10 = .int .i64 (fl F i k) ∧ wx = wc)
        case first =>
          clear HF HK HKi HT HT1 HA HDD HKH HZ HN HD M2 X2 bel3
          rcases HG.out with ⟨rfl, rfl, rfl⟩ | ⟨rfl, rfl, rfl⟩ | ⟨p, rfl, rfl⟩ | ⟨p, rfl, rfl⟩
          · by_cases q : k = 1
            · subst q
              go_wp2_with fail
              go_meet
              exact ⟨rfl, rfl⟩
            · go_wp2_with fail
              go_meet
              refine ⟨?_, rfl⟩
              unfold fl
              rw [if_pos rfl, if_neg (by omega)]
              rfl
          · by_cases q : k = 1
            · subst q
              go_wp2_with fail
              go_meet
              exact ⟨rfl, rfl⟩
            · go_wp2_with fail
              go_meet
              refine ⟨?_, rfl⟩
              unfold fl
              rw [if_pos rfl, if_neg (by omega)]
              rfl
          all_goals
            by_cases q : k = i + 1
            · subst q
              go_wp2_with fail
              go_meet
              refine ⟨?_, rfl⟩
              unfold fl
              rw [if_neg p, if_pos rfl]
              rfl
            · go_wp2_with fail
              go_meet
              refine ⟨?_, rfl⟩
              unfold fl
              rw [if_neg p, if_neg (by omega)]
        case rest =>
        obtain ⟨rfl, rfl⟩ := hcut
        clear HG
        have x4 : wc.cell? ⟨w.heap.size + 1, 4, none⟩ = some (.string D) := X2.cell 4
        go_upto_region 15 with (fail)
        go_cut [11] (fun s11 wx => s11 = .int .i64 (t : Nat) ∧ wx = wc)
        case first =>
          have htt := HT.out
          clear HF HK HKi HT HT1 HA HDD HKH HZ HN HD M2 X2 bel3
          by_cases q : ((a : Int) + n) ≤ D.size
          · have hx0 : t = a + n := by omega
            have hx := Lib.hid hx0
            clear htt hx0
            go_wp2_with fail
            go_meet
            exact ⟨by rw [hx.out]; rfl, rfl⟩
          · have hx0 : t = D.size := by omega
            have hx := Lib.hid hx0
            clear htt hx0
            go_wp2_with fail
            go_meet
            exact ⟨by rw [hx.out], rfl⟩
        case rest =>
        obtain ⟨rfl, rfl⟩ := hcut
        clear x4
        unfold maxLen at hcm
        have C0 : Cel (wc.alloc (.cells (ck 0 0 0 0 ⟨#[]⟩) 71)) wc.heap.size 0 (ck 0 0 0 0 ⟨#[]⟩) := Cel.of_blk (Blk.new _ _ _)
        go_upto_region 17 with (first | (refine wpList_load_at rfl 71 _ rfl h (i * 15) rfl (ck (fl F i k) st ss pr (D.extract a t)) _ HKi.out Try.underlying71 rfl szC ?_) | (refine wpList_store_at rfl 71 _ _ rfl wc.heap.size 0 (ck (fl F i k) st ss pr (D.extract a t)) rfl rfl (ck 0 0 0 0 ⟨#[]⟩) C0 szC rfl (ck_one _ _ _ _ _) ?_))
        rw [show wc.alloc (.cells #[.int .i64 0, .int .i64 0, .int .u32 0, .int .i64 0, .int .i64 0, .int .u32 0, .string ⟨#[]⟩, .int .u32 0, .int .u32 0, .int .i64 0, .int .i64 0, .slice none 0 0, .slice none 0 0, .slice none 0 0, .slice none 0 0] 71) = wc.alloc (.cells (ck 0 0 0 0 ⟨#[]⟩) 71) from rfl]
        have C5 := C0.setCells_same (ck (fl F i k) st ss pr (D.extract a t)).toList rfl
        have bel5 : Below wc.heap.size wc ((wc.alloc (.cells (ck 0 0 0 0 ⟨#[]⟩) 71)).setCells wc.heap.size 0 (ck (fl F i k) st ss pr (D.extract a t)).toList) := below_setCells ((Below.refl _ _).alloc (Nat.le_refl _) _) (Nat.le_refl _) _ _
        clear C0 HKi
        rw [show (ck (fl F i k) st ss pr (D.extract a t)).toList.toArray = ck (fl F i k) st ss pr (D.extract a t) from rfl] at C5
        generalize (wc.alloc (.cells (ck 0 0 0 0 ⟨#[]⟩) 71)).setCells wc.heap.size 0 (ck (fl F i k) st ss pr (D.extract a t)).toList = w5 at *
        have M5 : Blk w5 w.heap.size 63 (ms st ss lo pr D0) := (bel5.block _ M2.lt).trans M2
        have X5 : Blk w5 (w.heap.size + 1) 63 (ms st ss lo pr D) := (bel5.block _ X2.lt).trans X2
        have K5 : ∀ j, j < k → Cel w5 h (j * 15) (ck (fl F j k) st ss pr (D.extract (j * z) (j * z + z))) := fun j hj => (HK.out j hj).below bel5 (HK.out j hj).lt
        have HK5 := Lib.hid K5
        have belw := bel3.trans (bel5.mono bel3.size)
        clear HK K5 bel3 bel5 M2 X2
        have hat2 : a ≤ t := by omega
        have hat3 : (a : Int) ≤ (t : Int) := by omega
        have htD3 : (t : Int) ≤ (D.size : Int) := by omega
        have hab : ((a : Int) == (t : Int)) = false := by simp; omega
        have kq0 := cell_regrown (C5.cell0 0 (u := .int .i64 0) rfl)
        have kq1 := cell_regrown (C5.cell0 1 (u := .int .i64 (fl F i k)) rfl)
        have kq2 := cell_regrown (C5.cell0 2 (u := .int .u32 0) rfl)
        have kq3 := cell_regrown (C5.cell0 3 (u := .int .i64 st) rfl)
        have kq4 := cell_regrown (C5.cell0 4 (u := .int .i64 ss) rfl)
        have kq5 := cell_regrown (C5.cell0 5 (u := .int .u32 pr) rfl)
        have kq6 := cell_regrown (C5.cell0 6 (u := .string (D.extract a t)) rfl)
        have kq7 := cell_regrown ((M5.cell 0 : w5.cell? ⟨w.heap.size, 0, none⟩ = some (.int .i64 st)))
        have kq8 := cell_regrown ((M5.cell 1 : w5.cell? ⟨w.heap.size, 1, none⟩ = some (.int .i64 ss)))
        have kq9 := cell_regrown ((M5.cell 3 : w5.cell? ⟨w.heap.size, 3, none⟩ = some (.int .u32 pr)))
        have kq10 := cell_regrown ((X5.cell 4 : w5.cell? ⟨w.heap.size + 1, 4, none⟩ = some (.string D)))
        refine wp_region_quiet_below (by kernel_rfl) (by kernel_rfl) ?_
        repeat (any_goals (first | go_big_quiet_step (fail) | quiet_step (fail)))
        refine wpQuiet_nil ?_
        intro _ hw'
        obtain ⟨⟨dq, osq⟩, hw''⟩ := hw'
        subst hw''
        have hbq := below_regrown w5 dq osq
        clear kq0 kq1 kq2 kq3 kq4 kq5 kq6 kq7 kq8 kq9 kq10
        generalize grow (redrawn w5 dq) osq = w6 at *
        go_wp2_with fail
        go_roundw
        case rel => exact ⟨i + 1, t, by omega, HT1.out, by go_num, rfl, fun j hj => (HK5.out j hj).below hbq (HK5.out j hj).lt, (hbq.block _ M5.lt).trans M5, (hbq.block _ X5.lt).trans X5, belw.trans (hbq.mono belw.size)⟩
        case measure => simp [intOf]; omega
      · obtain rfl : i = k := by omega
        have had : a = D.size := by rw [HA.out]; have := HDD.out; omega
        subst had
        clear HK HA HDD
        go_wp2_with fail
        refine (awake19_any _).mono ?_
        rintro e w3 ⟨rfl, hb3⟩
        have X3 : Blk w3 (w.heap.size + 1) 63 (ms st ss lo pr D) := (hb3.block _ X2.lt).trans X2
        have c4 : w3.cell? ⟨w.heap.size + 1, 4, none⟩ = some (.string D) := X3.cell 4
        have bel4 := bel3.trans (hb3.mono bel3.size)
        clear X2 X3 M2 bel3 hb3
        go_wp2_with fail
        go_ret
        exact ⟨by simp, bel4⟩
theorem splits_open {H : Type} {enc : TypeId × Value → H} {W : World} {base : Nat} {v0 v1 : Value} {d0 d1 : DataW H} {p0 p1 : List MemPlace}
    (o0 : Value.okWide Try.prog W .any base 63 v0) (o1 : Value.okWide Try.prog W .any base 3 v1) (h0 : DataW.Trod enc Try.prog W 0 (fun _ => true) true 63 v0 d0 p0) (h1 : DataW.Trod enc Try.prog W 0 (fun _ => true) true 3 v1 d1 p1) :
    Calls Try.prog 8 #[v0, v1] W fun e w' => e = .returned (.bool true) ∧ Below W.heap.size W w' := by
  obtain ⟨n, rfl, _, _, wn⟩ := open_int Try.underlying3 o1 h1
  obtain ⟨l, rfl, hF⟩ := open_struct 4 (sh := [.int .i64, .int .i64, .bool, .int .u32, .str]) Try.underlying63 (by kernel_rfl) (by kernel_rfl) o0 h0
  obtain ⟨a, l1, rfl, _, hF⟩ := hF.int
  obtain ⟨b, l2, rfl, _, hF⟩ := hF.int
  obtain ⟨x, l3, rfl, hB⟩ := hF.bool
  obtain ⟨d, l4, rfl, _, hC⟩ := hB.int
  obtain ⟨q, l5, rfl, hq, hG⟩ := hC.str
  obtain rfl := hG.nil
  unfold maxLen at hq
  have hb := bounds_i64 wn
  exact splits_law a b d n x q hq hb.1 hb.2 W
end Go.Proofs.Ytlbociddakhblaa.fra
