/- Layer 36: a record of acts has the document's bytes; the statement walked. -/
import Derived.Test.YtdocphkpeonldaaTrJ
import Derived.Test.YtdocphkpeonldaaKitF
import Derived.Test.YtdocphkpeonldaaKitS
namespace Go.Proofs.Ytdocphkpeonldaa.tra
open Go.Sort (grow)
open Go.ChangeShapes Go.WideShapes Go.ChangeAt Go.RowKit kit oct bld
set_option maxRecDepth 100000

theorem bs_emp (r : An) : r.bs.toList.isEmpty = !r.ok := by
  rw [ByteArray.toList_eq]
  cases h : r.ok
  · have h0 := An.bs_ne.2 h
    have : r.bs.data.toList = [] := by
      apply List.eq_nil_of_length_eq_zero
      simpa using h0
    rw [this]
    rfl
  · have h0 : ¬ r.bs.size = 0 := fun q => by have := An.bs_ne.1 q; rw [h] at this; cases this
    cases hq : r.bs.data.toList with
    | nil =>
      exfalso
      apply h0
      have := congrArg List.length hq
      simpa using this
    | cons _ _ => rfl
theorem one9 (r : An) : ∀ y ∈ r.cells.toList, y.oneCell' = true := by
  intro y hy
  simp [An.cells] at hy
  rcases hy with rfl | rfl | rfl | rfl | rfl | rfl | rfl | rfl | rfl <;> rfl
set_option maxHeartbeats 8000000 in
theorem bytes36_law (oa : Option Addr) (a : Addr) (len cap : Nat) (E : Nat → An) (w : World) (hlc : len ≤ cap) (hcm : cap ≤ maxLen) (hoa : 0 < len → oa = some a) (hr : RowE w a len E) (hE : ∀ i, i < len → (E i).s.size ≤ maxLen) :
    Calls Try.prog 9 #[.slice oa len cap] w fun e w' => e = .returned (.bool true) ∧ Below w.heap.size w w' := by
  unfold maxLen at hcm
  obtain ⟨i0, hi, hz0, hz1, hz2⟩ := info_parts infoR
  have HV := Lib.hid (And.intro hoa (And.intro hr hE))
  clear hoa hr hE
  go_enter Try.func9, Try.ntmps9
  go_upto_region 2 with fail
  obtain ⟨g, hg⟩ : ∃ g, w.heap.size = g := ⟨_, rfl⟩
  have K0 : RowN ((w.alloc (.cells #[] 63)).alloc (.cells #[] 63)) g (.slice (some ⟨g, 0, none⟩) 0 0) [] := by
    rw [← hg]
    exact own_none ((Blk.new w 63 #[]).alloc _) (Nat.le_refl _) (by unfold maxLen; omega) rfl
  have F0 : RowR ((w.alloc (.cells #[] 63)).alloc (.cells #[] 63)) g (.slice (some ⟨g + 1, 0, none⟩) 0 0) [] := by
    rw [← hg]
    exact own_none (blk_new2 w _ 63 #[]) (by omega) (by unfold maxLen; omega) rfl
  have bel0 : Below g w ((w.alloc (.cells #[] 63)).alloc (.cells #[] 63)) := by
    rw [← hg]
    exact ((Below.refl _ _).alloc (Nat.le_refl _) _).alloc (by simp) _
  rw [hg]
  have AP0 : Apt (.slice (some ⟨g, 0, none⟩) 0 0) (.slice (some ⟨g + 1, 0, none⟩) 0 0) := fun k hk => by simp [Value.ownBlock] at hk ⊢; omega
  generalize (w.alloc (.cells #[] 63)).alloc (.cells #[] 63) = w0 at *
  obtain ⟨vk0, hvk0⟩ : ∃ v, Value.slice (some ⟨g, 0, none⟩) 0 0 = v := ⟨_, rfl⟩
  obtain ⟨vf0, hvf0⟩ : ∃ v, Value.slice (some ⟨g + 1, 0, none⟩) 0 0 = v := ⟨_, rfl⟩
  rw [hvk0] at K0 AP0
  rw [hvf0] at F0 AP0
  rw [hvk0, hvf0]
  clear hvk0 hvf0
  have HG := Lib.hid hg
  clear hg
  go_wp2_with fail
  go_loopw [3, 4, 5, 6] (fun s3 s4 s5 s6 wr => ∃ (i : Nat) (L : List An) (v3 v5 : Value), v3 = s3 ∧ v5 = s5 ∧ i ≤ len ∧ i ≤ 30 ∧ s6 = .int .i64 i ∧ L.length = i ∧ (∀ r ∈ L, r.s.size ≤ 30) ∧ s4 = .string (catA L) ∧ RowN wr g v3 L ∧ RowR wr g v5 (fineA L) ∧ Apt v3 v5 ∧ Below g w wr) (fun _ _ _ s6 _ => 30 - (intOf s6).toNat)
  case atStart => exact ⟨0, [], _, _, rfl, rfl, by omega, by omega, rfl, rfl, (fun r hr => by cases hr), rfl, K0, F0, AP0, bel0⟩
  case round =>
    clear K0 F0 AP0 bel0
    obtain ⟨i, L, v3, v5, rfl, rfl, hil, hi30, rfl, hLi, hL30, rfl, K, F, AP, bel⟩ := hrel
    have hgw : g ≤ wr.heap.size := by have := bel.size; rw [HG.out] at this; exact this
    have HL := Lib.hid (And.intro hLi hL30)
    have HKF := Lib.hid (And.intro K (And.intro F AP))
    clear hLi hL30 K F AP
    by_cases hlt : i < len
    · by_cases h30 : i < 30
      · have hoa := HV.out.1 (by omega)
        subst hoa
        have hbl := HV.out.2.1.lt (by omega)
        have hcs := (HV.out.2.1.below bel (fun _ => by have := HG.out; omega)).cell i hlt
        have hxs := HV.out.2.2 i hlt
        have hfz := An.few_size (E i)
        have hfew : (E i).few.s = (E i).s.extract 0 (min ((E i).s.size : Int) 30).toNat := rfl
        have hfc : (E i).few.cells = (E i).cells.setIfInBounds 8 (.string (E i).few.s) := rfl
        have ho9 := one9 (E i).few
        have hby := fun W => bytes_all (E i).few W (by omega)
        have hact := fun W => act_all (E i).few W (by omega)
        have hmy := fun W => may_all (E i).few W (by unfold maxLen; omega)
        have hbn := An.bs_ne (r := (E i).few)
        have hcat : catA (L ++ [(E i).few]) = catA L ++ (E i).few.bs := catA_snoc _ _
        have hfin := fineA_snoc L (E i).few
        have hkn := cellsN_snoc L (E i).few
        have hokc : (E i).few.ok = true → (E i).few.rc.cells = (E i).few.cells := fun h => An.rc_cells (An.ok_iff.1 h)
        have hbz := An.bs_size (E i).few
        have hcz : (catA L).size ≤ 1830 := by
          have h1 := catA_len L HL.out.2
          have h2 := HL.out.1
          omega
        have hbs70 : (E i).few.bs.size ≤ 61 := by omega
        clear hbz
        generalize (E i).few = r at *
        generalize E i = act at *
        obtain ⟨wh, xa, xb, xc, xd, xe, xf, xq, s⟩ := act
        dsimp only at hxs hfew
        have hcs' : ∀ (j : Nat) u, (#[.int .i64 wh, .int .i64 xa, .int .i64 xb, .int .i64 xc, .int .i64 xd, .int .i64 xe, .int .i64 xf, .int .i64 xq, .string s] : Array Value)[j]? = some u → wr.cell? ((a.add (i * 9)).add j) = some u := hcs
        have hrc : r.cells = #[.int .i64 wh, .int .i64 xa, .int .i64 xb, .int .i64 xc, .int .i64 xd, .int .i64 xe, .int .i64 xf, .int .i64 xq, .string r.s] := hfc
        rw [hrc] at ho9 hby hact hmy hkn hokc
        have HN := Lib.hid (And.intro hcat (And.intro hfin (And.intro hkn hokc)))
        clear hcat hfin hkn hokc
        clear hcs hfc
        have HFEW := Lib.hid hfew
        clear hfew
        unfold maxLen at hxs
        go_upto_region 6 with (refine wpList_load_from rfl 63 _ rfl (a.add (i * 9)) rfl #[.int .i64 wh, .int .i64 xa, .int .i64 xb, .int .i64 xc, .int .i64 xd, .int .i64 xe, .int .i64 xf, .int .i64 xq, .string s] _ hcs' Try.underlying63 rfl (szA _ _ _ _ _ _ _ _ _) ?_)
        have Y1 : Blk (wr.alloc (.cells #[.int .i64 wh, .int .i64 xa, .int .i64 xb, .int .i64 xc, .int .i64 xd, .int .i64 xe, .int .i64 xf, .int .i64 xq, .string s] 63)) wr.heap.size 63 #[.int .i64 wh, .int .i64 xa, .int .i64 xb, .int .i64 xc, .int .i64 xd, .int .i64 xe, .int .i64 xf, .int .i64 xq, .string s] := Blk.new wr _ _
        have alc := (Below.refl wr.heap.size wr).alloc (Nat.le_refl _) (.cells #[.int .i64 wh, .int .i64 xa, .int .i64 xb, .int .i64 xc, .int .i64 xd, .int .i64 xe, .int .i64 xf, .int .i64 xq, .string s] 63)
        have bel1 := bel.alloc hgw (.cells #[.int .i64 wh, .int .i64 xa, .int .i64 xb, .int .i64 xc, .int .i64 xd, .int .i64 xe, .int .i64 xf, .int .i64 xq, .string s] 63)
        have hab : a.block < wr.heap.size := by have := bel.size; omega
        have c8 : (wr.alloc (.cells #[.int .i64 wh, .int .i64 xa, .int .i64 xb, .int .i64 xc, .int .i64 xd, .int .i64 xe, .int .i64 xf, .int .i64 xq, .string s] 63)).cell? ⟨(a.add (i * 9)).block, (a.add (i * 9)).off + 8, none⟩ = some (.string s) := by
          have h1 := hcs' 8 (.string s) rfl
          have h2 : (a.add (i * 9)).add 8 = ⟨(a.add (i * 9)).block, (a.add (i * 9)).off + 8, none⟩ := rfl
          rw [← h2]
          exact (alc.cell (p := (a.add (i * 9)).add 8) (by rw [add_block, add_block]; exact hab)).trans h1
        have c8d : (wr.alloc (.cells #[.int .i64 wh, .int .i64 xa, .int .i64 xb, .int .i64 xc, .int .i64 xd, .int .i64 xe, .int .i64 xf, .int .i64 xq, .string s] 63)).drew.cell? ⟨(a.add (i * 9)).block, (a.add (i * 9)).off + 8, none⟩ = some (.string s) := c8
        have f8 : (wr.alloc (.cells #[.int .i64 wh, .int .i64 xa, .int .i64 xb, .int .i64 xc, .int .i64 xd, .int .i64 xe, .int .i64 xf, .int .i64 xq, .string s] 63)).drew.frozen? ⟨wr.heap.size, 8, none⟩ = false := Y1.frozen 8
        have d8 : (wr.alloc (.cells #[.int .i64 wh, .int .i64 xa, .int .i64 xb, .int .i64 xc, .int .i64 xd, .int .i64 xe, .int .i64 xf, .int .i64 xq, .string s] 63)).drew.cell? ⟨wr.heap.size, 8, none⟩ = some (.string s) := Y1.cell 8
        go_region
        go_upto_region 7 with fail
        rw [← HFEW.out]
        have Y2 : Blk ((wr.alloc (.cells #[.int .i64 wh, .int .i64 xa, .int .i64 xb, .int .i64 xc, .int .i64 xd, .int .i64 xe, .int .i64 xf, .int .i64 xq, .string r.s] 63)).drew) wr.heap.size 63 #[.int .i64 wh, .int .i64 xa, .int .i64 xb, .int .i64 xc, .int .i64 xd, .int .i64 xe, .int .i64 xf, .int .i64 xq, .string r.s] := Blk.new wr _ _
        have alc2 := ((Below.refl wr.heap.size wr).alloc (Nat.le_refl _) (.cells #[.int .i64 wh, .int .i64 xa, .int .i64 xb, .int .i64 xc, .int .i64 xd, .int .i64 xe, .int .i64 xf, .int .i64 xq, .string r.s] 63)).drew
        have KF := HKF.out
        have K2 := own_all KF.1 alc2
        have F2 := own_all KF.2.1 alc2
        have bel2 := bel.trans (alc2.mono hgw)
        have hky := fun k hk => own_lt KF.1 k hk
        have hfy := fun k hk => own_lt KF.2.1 k hk
        have hyw : wr.heap.size < ((wr.alloc (.cells #[.int .i64 wh, .int .i64 xa, .int .i64 xb, .int .i64 xc, .int .i64 xd, .int .i64 xe, .int .i64 xf, .int .i64 xq, .string r.s] 63)).drew).heap.size := Y2.lt
        have H2 := Lib.hid (And.intro K2 (And.intro F2 (And.intro KF.2.2 (And.intro hky hfy))))
        clear KF K2 F2 hky hfy hcs' Y1 alc bel1 c8 HKF c8d f8 d8 alc2 bel hab
        generalize (wr.alloc (.cells #[.int .i64 wh, .int .i64 xa, .int .i64 xb, .int .i64 xc, .int .i64 xd, .int .i64 xe, .int .i64 xf, .int .i64 xq, .string r.s] 63)).drew = w2 at *
        obtain ⟨y, hy⟩ : ∃ y, wr.heap.size = y := ⟨_, rfl⟩
        rw [hy] at Y2 hgw hyw H2
        rw [hy]
        clear hy
        have hL29 : L.length ≤ 29 := by have := HL.out.1; omega
        have hnf30 : (fineA L).length ≤ i := by
          rw [← HL.out.1]
          unfold fineA
          rw [List.length_map]
          exact List.length_filter_le _ _
        -- k = append(k, a)
        have HKA := Lib.hid (own_all H2.out.1 ((Below.refl w2.heap.size w2).alloc (Nat.le_refl _) (.cells #[.int .i64 wh, .int .i64 xa, .int .i64 xb, .int .i64 xc, .int .i64 xd, .int .i64 xe, .int .i64 xf, .int .i64 xq, .string r.s] 63)))
        have HNA := Lib.hid (World.news_of_block (Blk.new w2 63 #[.int .i64 wh, .int .i64 xa, .int .i64 xb, .int .i64 xc, .int .i64 xd, .int .i64 xe, .int .i64 xf, .int .i64 xq, .string r.s]))
        have HSA := Lib.hid (show (w2.alloc (.cells #[.int .i64 wh, .int .i64 xa, .int .i64 xb, .int .i64 xc, .int .i64 xd, .int .i64 xe, .int .i64 xf, .int .i64 xq, .string r.s] 63)).heap.size = w2.heap.size + 1 by simp)
        have HBA := Lib.hid (show g ≤ (w2.alloc (.cells #[.int .i64 wh, .int .i64 xa, .int .i64 xb, .int .i64 xc, .int .i64 xd, .int .i64 xe, .int .i64 xf, .int .i64 xq, .string r.s] 63)).heap.size by simp; omega)
        clear hrc hbl
        go_upto_region 8 with (first | (refine wpList_load_at rfl 63 _ rfl y 0 rfl #[.int .i64 wh, .int .i64 xa, .int .i64 xb, .int .i64 xc, .int .i64 xd, .int .i64 xe, .int .i64 xf, .int .i64 xq, .string r.s] _ (Cel.of_blk Y2) Try.underlying63 rfl (szA _ _ _ _ _ _ _ _ _) ?_) | (at_builtin; refine wpList_append_lies _ rfl _ _ 82 rfl g 63 i0 (.agg #[.int .i64 0, .int .i64 0, .int .i64 0, .int .i64 0, .int .i64 0, .int .i64 0, .int .i64 0, .int .i64 0, .string ByteArray.empty]) 9 80 Try.underlying82 hi hz0 hz1 hz2 rfl (by decide) v3 L.length (cellsN L) rfl HKA.out ⟨w2.heap.size, 0, none⟩ 1 1 (#[.int .i64 wh, .int .i64 xa, .int .i64 xb, .int .i64 xc, .int .i64 xd, .int .i64 xe, .int .i64 xf, .int .i64 xq, .string r.s] : Array Value).toList rfl rfl HNA.out ho9 (by omega) (by unfold maxLen; omega) (by omega) HBA.out (w2.heap.size + 1) HSA.out ?_; intro g3 c3 w3 own3 grow3 hat3 hlt3))
        have hgw2 : g ≤ w2.heap.size := by omega
        have K3 : RowN w3 g (.slice (some ⟨g3, 0, none⟩) (L.length + 1) c3) (L ++ [r]) := by
          show w3.ownsRow g 63 9 _ (L ++ [r]).length (cellsN (L ++ [r]))
          rw [HN.out.2.2.1, List.length_append]
          exact own3
        have h3y : ∀ k, y ≤ k → some k ≠ v3.ownBlock := fun k hk e => by have := H2.out.2.2.2.1 k e.symm; omega
        have al3 := (Below.refl w2.heap.size w2).alloc (Nat.le_refl _) (.cells #[.int .i64 wh, .int .i64 xa, .int .i64 xb, .int .i64 xc, .int .i64 xd, .int .i64 xe, .int .i64 xf, .int .i64 xq, .string r.s] 63)
        have F3 := own_apt (own_all H2.out.2.1 al3) (fun k hk e => H2.out.2.2.1 k e hk) grow3
        have Y3 : Blk w3 y 63 #[.int .i64 wh, .int .i64 xa, .int .i64 xb, .int .i64 xc, .int .i64 xd, .int .i64 xe, .int .i64 xf, .int .i64 xq, .string r.s] := (grow3.block y (by simp; omega) (h3y y (Nat.le_refl _))).trans (Y2.alloc _)
        have bel3 := (bel2.alloc hgw2 (.cells #[.int .i64 wh, .int .i64 xa, .int .i64 xb, .int .i64 xc, .int .i64 xd, .int .i64 xe, .int .i64 xf, .int .i64 xq, .string r.s] 63)).grown grow3 (by simp; omega) (fun k hk => own_ge H2.out.1 k hk)
        have AP3 : Apt (.slice (some ⟨g3, 0, none⟩) (L.length + 1) c3) v5 := fun k hk e => by
          obtain rfl : g3 = k := by simpa [Value.ownBlock] using hk
          rcases hat3 with q | q
          · exact H2.out.2.2.1 g3 q e
          · have := H2.out.2.2.2.2 g3 e; omega
        have hg3y : g3 ≠ y := by
          rcases hat3 with q | q
          · have := H2.out.2.2.2.1 g3 q; omega
          · omega
        have hy3 : y < w3.heap.size := Y3.lt
        have H3 := Lib.hid (And.intro K3 (And.intro F3 (And.intro AP3 (And.intro H2.out.2.2.2.2 bel3))))
        clear K3 F3 AP3 bel3 al3 grow3 own3 hat3 hlt3 H2 bel2 Y2 HKA HNA HSA HBA h3y hgw2 hyw
        go_wp2_with (refine wpList_load_at rfl 63 _ rfl y 0 rfl #[.int .i64 wh, .int .i64 xa, .int .i64 xb, .int .i64 xc, .int .i64 xd, .int .i64 xe, .int .i64 xf, .int .i64 xq, .string r.s] _ (Cel.of_blk Y3) Try.underlying63 rfl (szA _ _ _ _ _ _ _ _ _) ?_)
        refine (hby _).mono ?_
        rintro e w4 ⟨rfl, hb4⟩
        have Y4 := Y3.below hb4 Y3.lt
        clear Y3
        go_wp2_with (refine wpList_load_at rfl 63 _ rfl y 0 rfl #[.int .i64 wh, .int .i64 xa, .int .i64 xb, .int .i64 xc, .int .i64 xd, .int .i64 xe, .int .i64 xf, .int .i64 xq, .string r.s] _ (Cel.of_blk Y4) Try.underlying63 rfl (szA _ _ _ _ _ _ _ _ _) ?_)
        refine (hby _).mono ?_
        rintro e w5 ⟨rfl, hb5⟩
        have b35 := hb4.trans (hb5.mono hb4.size)
        have Y5 := Y4.below hb5 Y4.lt
        clear Y4 hb4 hb5
        go_upto_if 52 with fail
        rw [bs_emp r, Bool.not_not]
        have H5 := Lib.hid (And.intro (own_all H3.out.1 b35) (And.intro (own_all H3.out.2.1 b35) (And.intro H3.out.2.2.1 (And.intro H3.out.2.2.2.1 (H3.out.2.2.2.2.trans (b35.mono (by omega)))))))
        have hg5 : g ≤ w5.heap.size := by have := Y5.lt; omega
        have hg35 : g3 < w5.heap.size := by have := own_lt H5.out.1 g3 rfl; exact this
        have hyw5 : y < w5.heap.size := Y5.lt
        clear H3 b35 hy3
        obtain ⟨v3n, hv3n⟩ : ∃ v, Value.slice (some ⟨g3, 0, none⟩) (L.length + 1) c3 = v := ⟨_, rfl⟩
        have HV3 := Lib.hid hv3n
        rw [hv3n] at H5
        rw [hv3n]
        clear hv3n
        go_cut [5] (fun s5 wx => ∃ v5' : Value, v5' = s5 ∧ RowN wx g v3n (L ++ [r]) ∧ RowR wx g v5' (fineA (L ++ [r])) ∧ Apt v3n v5' ∧ Blk wx y 63 #[.int .i64 wh, .int .i64 xa, .int .i64 xb, .int .i64 xc, .int .i64 xd, .int .i64 xe, .int .i64 xf, .int .i64 xq, .string r.s] ∧ Below g w wx)
        case first =>
          cases hok : r.ok
          · have h1 := HN.out.2.1
            rw [hok, if_neg (by decide), List.append_nil] at h1
            have H1 := Lib.hid h1
            clear h1 hok
            go_wp2_with fail
            go_meet
            exact ⟨v5, rfl, H5.out.1, by rw [H1.out]; exact H5.out.2.1, H5.out.2.2.1, Y5, H5.out.2.2.2.2⟩
          · have h1 := HN.out.2.1
            have h2 := HN.out.2.2.2 hok
            rw [hok, if_pos rfl] at h1
            have H1 := Lib.hid (And.intro h1 h2)
            clear h1 h2 hok
            have HKA := Lib.hid (own_all H5.out.2.1 ((Below.refl w5.heap.size w5).alloc (Nat.le_refl _) (.cells #[.int .i64 wh, .int .i64 xa, .int .i64 xb, .int .i64 xc, .int .i64 xd, .int .i64 xe, .int .i64 xf, .int .i64 xq, .string r.s] 63)))
            have HNA := Lib.hid (World.news_of_block (Blk.new w5 63 #[.int .i64 wh, .int .i64 xa, .int .i64 xb, .int .i64 xc, .int .i64 xd, .int .i64 xe, .int .i64 xf, .int .i64 xq, .string r.s]))
            have HSA := Lib.hid (show (w5.alloc (.cells #[.int .i64 wh, .int .i64 xa, .int .i64 xb, .int .i64 xc, .int .i64 xd, .int .i64 xe, .int .i64 xf, .int .i64 xq, .string r.s] 63)).heap.size = w5.heap.size + 1 by simp)
            have HBA := Lib.hid (show g ≤ (w5.alloc (.cells #[.int .i64 wh, .int .i64 xa, .int .i64 xb, .int .i64 xc, .int .i64 xd, .int .i64 xe, .int .i64 xf, .int .i64 xq, .string r.s] 63)).heap.size by simp; omega)
            have hf29 : (fineA L).length ≤ 29 := by omega
            go_wp2_with (first | (refine wpList_load_at rfl 63 _ rfl y 0 rfl #[.int .i64 wh, .int .i64 xa, .int .i64 xb, .int .i64 xc, .int .i64 xd, .int .i64 xe, .int .i64 xf, .int .i64 xq, .string r.s] _ (Cel.of_blk Y5) Try.underlying63 rfl (szA _ _ _ _ _ _ _ _ _) ?_) | (at_builtin; refine wpList_append_lies _ rfl _ _ 82 rfl g 63 i0 (.agg #[.int .i64 0, .int .i64 0, .int .i64 0, .int .i64 0, .int .i64 0, .int .i64 0, .int .i64 0, .int .i64 0, .string ByteArray.empty]) 9 80 Try.underlying82 hi hz0 hz1 hz2 rfl (by decide) v5 (fineA L).length (cellsR (fineA L)) rfl HKA.out ⟨w5.heap.size, 0, none⟩ 1 1 (#[.int .i64 wh, .int .i64 xa, .int .i64 xb, .int .i64 xc, .int .i64 xd, .int .i64 xe, .int .i64 xf, .int .i64 xq, .string r.s] : Array Value).toList rfl rfl HNA.out ho9 (by omega) (by unfold maxLen; omega) (by omega) HBA.out (w5.heap.size + 1) HSA.out ?_; intro g6 c6 w6 own6 grow6 hat6 hlt6))
            have al5 := (Below.refl w5.heap.size w5).alloc (Nat.le_refl _) (.cells #[.int .i64 wh, .int .i64 xa, .int .i64 xb, .int .i64 xc, .int .i64 xd, .int .i64 xe, .int .i64 xf, .int .i64 xq, .string r.s] 63)
            have h5y : some y ≠ v5.ownBlock := fun e => by have := H5.out.2.2.2.1 y e.symm; omega
            have F6 : RowR w6 g (.slice (some ⟨g6, 0, none⟩) ((fineA L).length + 1) c6) (fineA (L ++ [r])) := by
              show w6.ownsRow g 63 9 _ (fineA (L ++ [r])).length (cellsR (fineA (L ++ [r])))
              rw [H1.out.1, cellsR_snoc, H1.out.2, List.length_append]
              exact own6
            have K6 := own_apt (own_all H5.out.1 al5) H5.out.2.2.1 grow6
            have Y6 : Blk w6 y 63 #[.int .i64 wh, .int .i64 xa, .int .i64 xb, .int .i64 xc, .int .i64 xd, .int .i64 xe, .int .i64 xf, .int .i64 xq, .string r.s] := (grow6.block y (by simp; omega) h5y).trans (Y5.alloc _)
            have A6 : Apt v3n (.slice (some ⟨g6, 0, none⟩) ((fineA L).length + 1) c6) := fun k hk e => by
              obtain rfl : g6 = k := by simpa [Value.ownBlock] using e
              rcases hat6 with q | q
              · exact H5.out.2.2.1 g6 hk q
              · rw [← HV3.out] at hk
                obtain rfl : g3 = g6 := by simpa [Value.ownBlock] using hk
                omega
            have bel6 := (H5.out.2.2.2.2.alloc hg5 (.cells #[.int .i64 wh, .int .i64 xa, .int .i64 xb, .int .i64 xc, .int .i64 xd, .int .i64 xe, .int .i64 xf, .int .i64 xq, .string r.s] 63)).grown grow6 (by simp; omega) (fun k hk => own_ge H5.out.2.1 k hk)
            go_meet
            exact ⟨_, rfl, K6, F6, A6, Y6, bel6⟩
        case rest =>
        clear H5 Y5 hg5 hg35 hyw5
        obtain ⟨v5', rfl, K7, F7, A7, Y7, bel7⟩ := hcut
        have hcat := HN.out.1
        rw [← hcat]
        have H7 := Lib.hid (And.intro K7 (And.intro F7 (And.intro A7 bel7)))
        have hgc : g ≤ wc.heap.size := by have := Y7.lt; omega
        have hmyb : ∀ W, Calls Try.prog 41 #[.agg #[.int .i64 wh, .int .i64 xa, .int .i64 xb, .int .i64 xc, .int .i64 xd, .int .i64 xe, .int .i64 xf, .int .i64 xq, .string r.s]] W fun e w' => e = .returned (.bool r.ok) ∧ Below W.heap.size W w' := hmy
        have hbe := bs_emp r
        have HL2 := Lib.hid (show ∀ q ∈ L ++ [r], q.s.size ≤ 30 from fun q hq => by
          rcases List.mem_append.1 hq with h | h
          · exact HL.out.2 q h
          · obtain rfl : q = r := by simpa using h
            exact hfz)
        clear K7 F7 A7 bel7 hmy hcat
        go_upto_region 11 with fail
        refine wp_region_quiet_below (by kernel_rfl) (by kernel_rfl) ?_
        repeat (any_goals (first | (refine wpQuiet_load_at (by rfl) 63 _ (by rfl) y 0 (by rfl) #[.int .i64 wh, .int .i64 xa, .int .i64 xb, .int .i64 xc, .int .i64 xd, .int .i64 xe, .int .i64 xf, .int .i64 xq, .string r.s] _ Try.underlying63 (by rfl) (szA _ _ _ _ _ _ _ _ _) (fun w' hw' => by obtain ⟨p, rfl⟩ := hw'; exact (Cel.of_blk Y7).below (below_regrown wc _ _) Y7.lt) ?_) | go_big_quiet_step ((first | (go_at_call 40; exact Calls.regrown_of (hact _)) | (go_at_call 39; exact Calls.regrown_of (hby _)) | (go_at_call 41; exact Calls.regrown_of (hmyb _)))) | quiet_step ((first | (go_at_call 40; exact Calls.regrown_of (hact _)) | (go_at_call 39; exact Calls.regrown_of (hby _)) | (go_at_call 41; exact Calls.regrown_of (hmyb _))))))
        refine wpQuiet_nil ?_
        intro _ hw'
        obtain ⟨⟨dq, osq⟩, hw''⟩ := hw'
        subst hw''
        have hb8 := below_regrown wc dq osq
        have H8 := Lib.hid (And.intro (own_all H7.out.1 hb8) (And.intro (own_all H7.out.2.1 hb8) (And.intro H7.out.2.2.1 (H7.out.2.2.2.trans (hb8.mono hgc)))))
        clear hb8
        go_wp2_with fail
        go_roundw
        case rel => exact ⟨i + 1, L ++ [r], v3n, v5', rfl, rfl, by omega, by omega, by go_num, by have := HL.out.1; simp [this], HL2.out, rfl, H8.out.1, H8.out.2.1, H8.out.2.2.1, H8.out.2.2.2⟩
        case measure => simp [intOf]; omega
      · obtain ⟨K, F, AP⟩ := HKF.out
        obtain ⟨ok, gk, ck, rfl, k1, k2, k3, k4, k5⟩ := rowN_shape K
        have hLn : L.length ≤ 30 := by have := HL.out.1; omega
        have hput := put_all ok gk ck L wr hLn k1 k2 k3 k4 k5 HL.out.2
        have hcz : (catA L).size ≤ 1830 := by
          have h1 := catA_len L HL.out.2
          omega
        have hpg := pg_cat 2500 (fineA L) (fineA_ok L) (by rw [cat_fine]; omega)
        rw [cat_fine] at hpg
        have hget := fun W => get36_any (catA L) W (by omega)
        have HPG := Lib.hid hpg
        have hfn : (fineA L).length ≤ 30 := by
          unfold fineA
          rw [List.length_map]
          exact Nat.le_trans (List.length_filter_le _ _) hLn
        have HF := Lib.hid F
        clear K F AP HKF hpg k1 k2 k3 k4 k5
        go_wp2_with fail
        refine hput.mono ?_
        rintro e w1 ⟨rfl, hb1⟩
        have HF1 := Lib.hid (own_all HF.out hb1)
        have bel1 := bel.trans (hb1.mono hgw)
        clear HF hput
        go_wp2_with fail
        refine (hget _).mono ?_
        rintro e w2 ⟨hc, hb2⟩
        have hg1 : g ≤ w1.heap.size := Nat.le_trans hgw hb1.size
        have HF2 := Lib.hid (own_all HF1.out hb2)
        have bel2 := bel1.trans (hb2.mono hg1)
        have hg2 : g ≤ w2.heap.size := Nat.le_trans hg1 hb2.size
        clear HF1 hget bel hb1 bel1
        rcases hc with ⟨vm, acts, h1, rfl, own, _⟩ | ⟨h1, _⟩
        · rw [HPG.out] at h1
          obtain rfl : fineA L = acts := Option.some.inj h1
          have HO := Lib.hid own
          clear own h1 HPG
          generalize fineA L = M at *
          go_wp2_with fail
          refine (awake36_any _).mono ?_
          rintro e w3 ⟨rfl, hb3⟩
          have own3 := own_all HO.out hb3
          have F3 := own_all HF2.out hb3
          have bel3 := bel2.trans (hb3.mono hg2)
          clear HO HF2 hb2 hb3 bel2
          obtain ⟨om, gm, cm, rfl, m1, m2, m3, m4, m5⟩ := row_shape own3
          obtain ⟨of, gf, cf, rfl, f1, f2, f3, f4, f5⟩ := row_shape F3
          obtain ⟨n, hn⟩ : ∃ n, M.length = n := ⟨_, rfl⟩
          rw [hn] at m1 m3 m4 m5 f1 f3 f4 f5 hfn
          rw [hn]
          have HM := Lib.hid (And.intro m3 (And.intro m4 m5))
          have HF := Lib.hid (And.intro f3 (And.intro f4 f5))
          clear own3 F3 m3 m4 m5 f3 f4 f5 hn
          unfold maxLen at m2 f2
          go_wp2_with fail
          go_loopw [11] (fun s11 wx => ∃ j : Nat, j ≤ n ∧ s11 = .int .i64 j ∧ Below w3.heap.size w3 wx ∧ Below g w wx) (fun s11 _ => n - (intOf s11).toNat)
          case atStart => exact ⟨0, by omega, rfl, Below.refl _ _, bel3⟩
          case round =>
            clear bel3
            obtain ⟨j, hj, rfl, hbx, bel4⟩ := hrel
            by_cases hjn : j < n
            · obtain rfl := HM.out.1 (by omega)
              obtain rfl := HF.out.1 (by omega)
              have CM := (HM.out.2.2 j hjn).below hbx (HM.out.2.1 (by omega))
              have CF := (HF.out.2.2 j hjn).below hbx (HF.out.2.1 (by omega))
              have hbd := hbx.drew
              have bel5 := bel4.drew
              generalize M.getD j rc0 = x at *
              obtain ⟨n0, u1, u2, u3, u4, u5, u6, u7, s⟩ := x
              unfold Rc.cells at CM CF
              dsimp only at CM CF
              generalize ((n0 : Nat) : Int) = wh at *
              generalize sg u1 = xa at *
              generalize sg u2 = xb at *
              generalize sg u3 = xc at *
              generalize sg u4 = xd at *
              generalize sg u5 = xe at *
              generalize sg u6 = xf at *
              generalize sg u7 = xq at *
              have C1 := fun (i : Nat) (u : Value) (h : (#[.int .i64 wh, .int .i64 xa, .int .i64 xb, .int .i64 xc, .int .i64 xd, .int .i64 xe, .int .i64 xf, .int .i64 xq, .string s] : Array Value)[i]? = some u) => CM.cell i h
              have C2 := fun (i : Nat) (u : Value) (h : (#[.int .i64 wh, .int .i64 xa, .int .i64 xb, .int .i64 xc, .int .i64 xd, .int .i64 xe, .int .i64 xf, .int .i64 xq, .string s] : Array Value)[i]? = some u) => CF.cell i h
              have hji : (j : Int) < n := by omega
              have p0 : wr.cell? ⟨gm, j * 9, none⟩ = some (.int .i64 wh) := C1 0 _ rfl
              have p0d : wr.drew.cell? ⟨gm, j * 9, none⟩ = some (.int .i64 wh) := p0
              have p1 : wr.cell? ⟨gm, j * 9 + 1, none⟩ = some (.int .i64 xa) := C1 1 _ rfl
              have p1d : wr.drew.cell? ⟨gm, j * 9 + 1, none⟩ = some (.int .i64 xa) := p1
              have p2 : wr.cell? ⟨gm, j * 9 + 2, none⟩ = some (.int .i64 xb) := C1 2 _ rfl
              have p2d : wr.drew.cell? ⟨gm, j * 9 + 2, none⟩ = some (.int .i64 xb) := p2
              have p3 : wr.cell? ⟨gm, j * 9 + 3, none⟩ = some (.int .i64 xc) := C1 3 _ rfl
              have p3d : wr.drew.cell? ⟨gm, j * 9 + 3, none⟩ = some (.int .i64 xc) := p3
              have p4 : wr.cell? ⟨gm, j * 9 + 4, none⟩ = some (.int .i64 xd) := C1 4 _ rfl
              have p4d : wr.drew.cell? ⟨gm, j * 9 + 4, none⟩ = some (.int .i64 xd) := p4
              have p5 : wr.cell? ⟨gm, j * 9 + 5, none⟩ = some (.int .i64 xe) := C1 5 _ rfl
              have p5d : wr.drew.cell? ⟨gm, j * 9 + 5, none⟩ = some (.int .i64 xe) := p5
              have p6 : wr.cell? ⟨gm, j * 9 + 6, none⟩ = some (.int .i64 xf) := C1 6 _ rfl
              have p6d : wr.drew.cell? ⟨gm, j * 9 + 6, none⟩ = some (.int .i64 xf) := p6
              have p7 : wr.cell? ⟨gm, j * 9 + 7, none⟩ = some (.int .i64 xq) := C1 7 _ rfl
              have p7d : wr.drew.cell? ⟨gm, j * 9 + 7, none⟩ = some (.int .i64 xq) := p7
              have p8 : wr.cell? ⟨gm, j * 9 + 8, none⟩ = some (.string s) := C1 8 _ rfl
              have p8d : wr.drew.cell? ⟨gm, j * 9 + 8, none⟩ = some (.string s) := p8
              have q0 : wr.cell? ⟨gf, j * 9, none⟩ = some (.int .i64 wh) := C2 0 _ rfl
              have q0d : wr.drew.cell? ⟨gf, j * 9, none⟩ = some (.int .i64 wh) := q0
              have q1 : wr.cell? ⟨gf, j * 9 + 1, none⟩ = some (.int .i64 xa) := C2 1 _ rfl
              have q1d : wr.drew.cell? ⟨gf, j * 9 + 1, none⟩ = some (.int .i64 xa) := q1
              have q2 : wr.cell? ⟨gf, j * 9 + 2, none⟩ = some (.int .i64 xb) := C2 2 _ rfl
              have q2d : wr.drew.cell? ⟨gf, j * 9 + 2, none⟩ = some (.int .i64 xb) := q2
              have q3 : wr.cell? ⟨gf, j * 9 + 3, none⟩ = some (.int .i64 xc) := C2 3 _ rfl
              have q3d : wr.drew.cell? ⟨gf, j * 9 + 3, none⟩ = some (.int .i64 xc) := q3
              have q4 : wr.cell? ⟨gf, j * 9 + 4, none⟩ = some (.int .i64 xd) := C2 4 _ rfl
              have q4d : wr.drew.cell? ⟨gf, j * 9 + 4, none⟩ = some (.int .i64 xd) := q4
              have q5 : wr.cell? ⟨gf, j * 9 + 5, none⟩ = some (.int .i64 xe) := C2 5 _ rfl
              have q5d : wr.drew.cell? ⟨gf, j * 9 + 5, none⟩ = some (.int .i64 xe) := q5
              have q6 : wr.cell? ⟨gf, j * 9 + 6, none⟩ = some (.int .i64 xf) := C2 6 _ rfl
              have q6d : wr.drew.cell? ⟨gf, j * 9 + 6, none⟩ = some (.int .i64 xf) := q6
              have q7 : wr.cell? ⟨gf, j * 9 + 7, none⟩ = some (.int .i64 xq) := C2 7 _ rfl
              have q7d : wr.drew.cell? ⟨gf, j * 9 + 7, none⟩ = some (.int .i64 xq) := q7
              have q8 : wr.cell? ⟨gf, j * 9 + 8, none⟩ = some (.string s) := C2 8 _ rfl
              have q8d : wr.drew.cell? ⟨gf, j * 9 + 8, none⟩ = some (.string s) := q8
              clear CM CF C1 C2
              go_upto_region 20 with fail
              go_region
              go_wp2_with fail
              go_roundw
              case rel => exact ⟨j + 1, by omega, by go_num, hbd, bel5⟩
              case measure => simp [intOf]; omega
            · obtain rfl : j = n := by omega
              go_wp2_with fail
              go_ret
              exact ⟨rfl, by rw [HG.out]; exact bel4⟩
        · rw [HPG.out] at h1
          cases h1

    · obtain ⟨K, F, AP⟩ := HKF.out
      obtain ⟨ok, gk, ck, rfl, k1, k2, k3, k4, k5⟩ := rowN_shape K
      have hLn : L.length ≤ 30 := by have := HL.out.1; omega
      have hput := put_all ok gk ck L wr hLn k1 k2 k3 k4 k5 HL.out.2
      have hcz : (catA L).size ≤ 1830 := by
        have h1 := catA_len L HL.out.2
        omega
      have hpg := pg_cat 2500 (fineA L) (fineA_ok L) (by rw [cat_fine]; omega)
      rw [cat_fine] at hpg
      have hget := fun W => get36_any (catA L) W (by omega)
      have HPG := Lib.hid hpg
      have hfn : (fineA L).length ≤ 30 := by
        unfold fineA
        rw [List.length_map]
        exact Nat.le_trans (List.length_filter_le _ _) hLn
      have HF := Lib.hid F
      clear K F AP HKF hpg k1 k2 k3 k4 k5
      go_wp2_with fail
      refine hput.mono ?_
      rintro e w1 ⟨rfl, hb1⟩
      have HF1 := Lib.hid (own_all HF.out hb1)
      have bel1 := bel.trans (hb1.mono hgw)
      clear HF hput
      go_wp2_with fail
      refine (hget _).mono ?_
      rintro e w2 ⟨hc, hb2⟩
      have hg1 : g ≤ w1.heap.size := Nat.le_trans hgw hb1.size
      have HF2 := Lib.hid (own_all HF1.out hb2)
      have bel2 := bel1.trans (hb2.mono hg1)
      have hg2 : g ≤ w2.heap.size := Nat.le_trans hg1 hb2.size
      clear HF1 hget bel hb1 bel1
      rcases hc with ⟨vm, acts, h1, rfl, own, _⟩ | ⟨h1, _⟩
      · rw [HPG.out] at h1
        obtain rfl : fineA L = acts := Option.some.inj h1
        have HO := Lib.hid own
        clear own h1 HPG
        generalize fineA L = M at *
        go_wp2_with fail
        refine (awake36_any _).mono ?_
        rintro e w3 ⟨rfl, hb3⟩
        have own3 := own_all HO.out hb3
        have F3 := own_all HF2.out hb3
        have bel3 := bel2.trans (hb3.mono hg2)
        clear HO HF2 hb2 hb3 bel2
        obtain ⟨om, gm, cm, rfl, m1, m2, m3, m4, m5⟩ := row_shape own3
        obtain ⟨of, gf, cf, rfl, f1, f2, f3, f4, f5⟩ := row_shape F3
        obtain ⟨n, hn⟩ : ∃ n, M.length = n := ⟨_, rfl⟩
        rw [hn] at m1 m3 m4 m5 f1 f3 f4 f5 hfn
        rw [hn]
        have HM := Lib.hid (And.intro m3 (And.intro m4 m5))
        have HF := Lib.hid (And.intro f3 (And.intro f4 f5))
        clear own3 F3 m3 m4 m5 f3 f4 f5 hn
        unfold maxLen at m2 f2
        go_wp2_with fail
        go_loopw [11] (fun s11 wx => ∃ j : Nat, j ≤ n ∧ s11 = .int .i64 j ∧ Below w3.heap.size w3 wx ∧ Below g w wx) (fun s11 _ => n - (intOf s11).toNat)
        case atStart => exact ⟨0, by omega, rfl, Below.refl _ _, bel3⟩
        case round =>
          clear bel3
          obtain ⟨j, hj, rfl, hbx, bel4⟩ := hrel
          by_cases hjn : j < n
          · obtain rfl := HM.out.1 (by omega)
            obtain rfl := HF.out.1 (by omega)
            have CM := (HM.out.2.2 j hjn).below hbx (HM.out.2.1 (by omega))
            have CF := (HF.out.2.2 j hjn).below hbx (HF.out.2.1 (by omega))
            have hbd := hbx.drew
            have bel5 := bel4.drew
            generalize M.getD j rc0 = x at *
            obtain ⟨n0, u1, u2, u3, u4, u5, u6, u7, s⟩ := x
            unfold Rc.cells at CM CF
            dsimp only at CM CF
            generalize ((n0 : Nat) : Int) = wh at *
            generalize sg u1 = xa at *
            generalize sg u2 = xb at *
            generalize sg u3 = xc at *
            generalize sg u4 = xd at *
            generalize sg u5 = xe at *
            generalize sg u6 = xf at *
            generalize sg u7 = xq at *
            have C1 := fun (i : Nat) (u : Value) (h : (#[.int .i64 wh, .int .i64 xa, .int .i64 xb, .int .i64 xc, .int .i64 xd, .int .i64 xe, .int .i64 xf, .int .i64 xq, .string s] : Array Value)[i]? = some u) => CM.cell i h
            have C2 := fun (i : Nat) (u : Value) (h : (#[.int .i64 wh, .int .i64 xa, .int .i64 xb, .int .i64 xc, .int .i64 xd, .int .i64 xe, .int .i64 xf, .int .i64 xq, .string s] : Array Value)[i]? = some u) => CF.cell i h
            have hji : (j : Int) < n := by omega
            have p0 : wr.cell? ⟨gm, j * 9, none⟩ = some (.int .i64 wh) := C1 0 _ rfl
            have p0d : wr.drew.cell? ⟨gm, j * 9, none⟩ = some (.int .i64 wh) := p0
            have p1 : wr.cell? ⟨gm, j * 9 + 1, none⟩ = some (.int .i64 xa) := C1 1 _ rfl
            have p1d : wr.drew.cell? ⟨gm, j * 9 + 1, none⟩ = some (.int .i64 xa) := p1
            have p2 : wr.cell? ⟨gm, j * 9 + 2, none⟩ = some (.int .i64 xb) := C1 2 _ rfl
            have p2d : wr.drew.cell? ⟨gm, j * 9 + 2, none⟩ = some (.int .i64 xb) := p2
            have p3 : wr.cell? ⟨gm, j * 9 + 3, none⟩ = some (.int .i64 xc) := C1 3 _ rfl
            have p3d : wr.drew.cell? ⟨gm, j * 9 + 3, none⟩ = some (.int .i64 xc) := p3
            have p4 : wr.cell? ⟨gm, j * 9 + 4, none⟩ = some (.int .i64 xd) := C1 4 _ rfl
            have p4d : wr.drew.cell? ⟨gm, j * 9 + 4, none⟩ = some (.int .i64 xd) := p4
            have p5 : wr.cell? ⟨gm, j * 9 + 5, none⟩ = some (.int .i64 xe) := C1 5 _ rfl
            have p5d : wr.drew.cell? ⟨gm, j * 9 + 5, none⟩ = some (.int .i64 xe) := p5
            have p6 : wr.cell? ⟨gm, j * 9 + 6, none⟩ = some (.int .i64 xf) := C1 6 _ rfl
            have p6d : wr.drew.cell? ⟨gm, j * 9 + 6, none⟩ = some (.int .i64 xf) := p6
            have p7 : wr.cell? ⟨gm, j * 9 + 7, none⟩ = some (.int .i64 xq) := C1 7 _ rfl
            have p7d : wr.drew.cell? ⟨gm, j * 9 + 7, none⟩ = some (.int .i64 xq) := p7
            have p8 : wr.cell? ⟨gm, j * 9 + 8, none⟩ = some (.string s) := C1 8 _ rfl
            have p8d : wr.drew.cell? ⟨gm, j * 9 + 8, none⟩ = some (.string s) := p8
            have q0 : wr.cell? ⟨gf, j * 9, none⟩ = some (.int .i64 wh) := C2 0 _ rfl
            have q0d : wr.drew.cell? ⟨gf, j * 9, none⟩ = some (.int .i64 wh) := q0
            have q1 : wr.cell? ⟨gf, j * 9 + 1, none⟩ = some (.int .i64 xa) := C2 1 _ rfl
            have q1d : wr.drew.cell? ⟨gf, j * 9 + 1, none⟩ = some (.int .i64 xa) := q1
            have q2 : wr.cell? ⟨gf, j * 9 + 2, none⟩ = some (.int .i64 xb) := C2 2 _ rfl
            have q2d : wr.drew.cell? ⟨gf, j * 9 + 2, none⟩ = some (.int .i64 xb) := q2
            have q3 : wr.cell? ⟨gf, j * 9 + 3, none⟩ = some (.int .i64 xc) := C2 3 _ rfl
            have q3d : wr.drew.cell? ⟨gf, j * 9 + 3, none⟩ = some (.int .i64 xc) := q3
            have q4 : wr.cell? ⟨gf, j * 9 + 4, none⟩ = some (.int .i64 xd) := C2 4 _ rfl
            have q4d : wr.drew.cell? ⟨gf, j * 9 + 4, none⟩ = some (.int .i64 xd) := q4
            have q5 : wr.cell? ⟨gf, j * 9 + 5, none⟩ = some (.int .i64 xe) := C2 5 _ rfl
            have q5d : wr.drew.cell? ⟨gf, j * 9 + 5, none⟩ = some (.int .i64 xe) := q5
            have q6 : wr.cell? ⟨gf, j * 9 + 6, none⟩ = some (.int .i64 xf) := C2 6 _ rfl
            have q6d : wr.drew.cell? ⟨gf, j * 9 + 6, none⟩ = some (.int .i64 xf) := q6
            have q7 : wr.cell? ⟨gf, j * 9 + 7, none⟩ = some (.int .i64 xq) := C2 7 _ rfl
            have q7d : wr.drew.cell? ⟨gf, j * 9 + 7, none⟩ = some (.int .i64 xq) := q7
            have q8 : wr.cell? ⟨gf, j * 9 + 8, none⟩ = some (.string s) := C2 8 _ rfl
            have q8d : wr.drew.cell? ⟨gf, j * 9 + 8, none⟩ = some (.string s) := q8
            clear CM CF C1 C2
            go_upto_region 20 with fail
            go_region
            go_wp2_with fail
            go_roundw
            case rel => exact ⟨j + 1, by omega, by go_num, hbd, bel5⟩
            case measure => simp [intOf]; omega
          · obtain rfl : j = n := by omega
            go_wp2_with fail
            go_ret
            exact ⟨rfl, by rw [HG.out]; exact bel4⟩
      · rw [HPG.out] at h1
        cases h1

end Go.Proofs.Ytdocphkpeonldaa.tra
