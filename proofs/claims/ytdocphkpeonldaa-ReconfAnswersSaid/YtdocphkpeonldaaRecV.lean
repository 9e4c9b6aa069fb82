/- Layer 28: requests are answered; the statement walked. -/
import Derived.Test.YtdocphkpeonldaaRecU
import Derived.Test.YtdocphkpeonldaaRecS
namespace Go.Proofs.Ytdocphkpeonldaa.rec_
open Go.Sort (grow)
open Go.ChangeShapes Go.WideShapes Go.ChangeAt Go.RowKit kit oct
set_option maxRecDepth 100000

theorem u32_nat (z : Int) : ∃ n : Nat, IntKind.u32.wrap z = n ∧ n ≤ 4294967295 := by
  refine ⟨(z % 4294967296).toNat, ?_, by omega⟩
  show z % 4294967296 = _
  omega
/-- What the one that is asked knows: which number comes next, what the last one got. -/
def Kno (b0 g nx last : Nat) (w : World) : Prop :=
  (last = 0 ∧ ∃ L, Blk w g 149 (sv nx L false)) ∨
  ((last = 1 ∨ last = 2) ∧ ∃ pr hh : Nat, pr ≤ 4294967295 ∧ IntKind.u32.wrap ((nx : Int) - 1) = pr ∧ b0 ≤ hh ∧ hh ≠ g ∧ Blk w g 149 (sv nx (fun j => (cc 130 pr hh).getD j undef) true) ∧ Blk w hh 23 #[.int .i64 16, .string (rS pr last)])
theorem Kno.below {b0 g nx last n : Nat} {w w' : World} (K : Kno b0 g nx last w) (hb : Below n w w') (hn : n = w.heap.size) : Kno b0 g nx last w' := by
  subst hn
  rcases K with ⟨h, L, B⟩ | ⟨h, pr, hh, h1, h2, h3, h4, B, P⟩
  · exact .inl ⟨h, L, B.below hb B.lt⟩
  · exact .inr ⟨h, pr, hh, h1, h2, h3, h4, B.below hb B.lt, P.below hb P.lt⟩
theorem Kno.alloc {b0 g nx last : Nat} {w : World} (K : Kno b0 g nx last w) (o : Obj) : Kno b0 g nx last (w.alloc o) := K.below ((Below.refl _ _).alloc (Nat.le_refl _) o) rfl
theorem Kno.drew {b0 g nx last : Nat} {w : World} (K : Kno b0 g nx last w) : Kno b0 g nx last w.drew := K.below (Below.refl _ _).drew rfl
theorem back_next (id : Nat) (hi : id ≤ 4294967295) (ny : Nat) (h : IntKind.u32.wrap ((id : Int) + 1) = ny) : IntKind.u32.wrap ((ny : Int) - 1) = id := by
  have h' : ((id : Int) + 1) % 4294967296 = ny := h
  show ((ny : Int) - 1) % 4294967296 = id
  omega
set_option maxHeartbeats 8000000 in
theorem answers_walk (yours : Nat) (hyours : yours ≤ 4294967295) (oa : Option Addr) (a : Addr) (len cap : Nat) (v : Nat → Int) (have_ : Int) (w : World) (hlc : len ≤ cap) (hcm : cap ≤ maxLen) (hoa : 0 < len → oa = some a) (hab : 0 < len → a.block < w.heap.size)
    (hv : ∀ i, i < len → w.cell? (a.add i) = some (.int .i64 (v i))) :
    Calls Try.prog 5 #[.int .u32 yours, .slice oa len cap, .int .i64 have_] w fun e w' => e = .returned (.bool true) ∧ Below w.heap.size w w' := by
  unfold maxLen at hcm
  have HV := Lib.hid (And.intro hoa (And.intro hab hv))
  clear hoa hab hv
  have hm15 := i64_mask have_ 4 (by omega)
  obtain ⟨no, hno⟩ : ∃ q : Nat, have_ % (2 ^ 4 : Nat) = (q : Int) := ⟨(have_ % (2 ^ 4 : Nat)).toNat, by omega⟩
  have hno16 : no ≤ 16 := by omega
  rw [hno] at hm15
  simp only [show ((2 ^ 4 - 1 : Nat) : Int) = 15 from rfl] at hm15
  clear hno
  go_enter Try.func5, Try.ntmps5
  go_wp2_with fail
  refine (new_any 0 yours _).mono ?_
  rintro e w1 ⟨rfl, rfl⟩
  have B1 : Kno w.heap.size w.heap.size yours 0 (w.alloc (.cells (st 0 yours 0 0 0) 149)) := .inl ⟨rfl, fun j => c0.getD j undef, (show Blk _ _ _ (sv yours (fun j => c0.getD j undef) false) from Blk.new w 149 (st 0 yours 0 0 0))⟩
  have bel1 := (Below.refl w.heap.size w).alloc (Nat.le_refl _) (.cells (st 0 yours 0 0 0) 149)
  generalize w.alloc (.cells (st 0 yours 0 0 0) 149) = w1 at *
  obtain ⟨g, hg⟩ : ∃ g, w.heap.size = g := ⟨_, rfl⟩
  rw [hg] at B1 bel1
  rw [hg]
  go_wp2_with fail
  refine (awake28 _).mono ?_
  rintro e w2 ⟨rfl, hb2⟩
  have B2 := B1.below hb2 rfl
  have bel2 := bel1.trans (hb2.mono (by have := bel1.size; omega))
  clear B1 bel1 hb2
  go_wp2_with fail
  go_loopw [8, 9, 10, 11] (fun s8 s9 s10 s11 wr => ∃ (i nx no last : Nat), i ≤ len ∧ i ≤ 40 ∧ nx ≤ 4294967295 ∧ no ≤ 16 ∧ s8 = .int .u32 nx ∧ s9 = .int .i64 no ∧ s10 = .int .i64 last ∧ s11 = .int .i64 i ∧ Kno g g nx last wr ∧ Below g w wr) (fun _ _ _ s11 _ => 40 - (intOf s11).toNat)
  case atStart => exact ⟨0, yours, no, 0, by omega, by omega, hyours, hno16, rfl, rfl, rfl, rfl, B2, bel2⟩
  case round =>
    clear hm15 hno16 B2 bel2
    obtain ⟨i, nx, no, last, hil, hi40, hnx, hno, rfl, rfl, rfl, rfl, B, bel⟩ := hrel
    have hgw : g ≤ wr.heap.size := by have := bel.size; omega
    have hno' : (no : Int) ≤ 16 := by omega
    by_cases hlt : i < len
    · by_cases h40 : i < 40
      · have hoa := HV.out.1 (by omega)
        subst hoa
        have hbl := HV.out.2.1 (by omega)
        have hc : wr.cell? (a.add i) = some (.int .i64 (v i)) := (bel.cell (p := a.add i) (by rw [add_blk]; omega)).trans (HV.out.2.2 i hlt)
        have hc2 : wr.drew.cell? (a.add i) = some (.int .i64 (v i)) := hc
        have hm3 := i64_mask (v i) 2 (by omega)
        obtain ⟨q, hq⟩ : ∃ q : Nat, (v i) % (2 ^ 2 : Nat) = (q : Int) := ⟨((v i) % (2 ^ 2 : Nat)).toNat, by omega⟩
        have hq4 : q ≤ 3 := by omega
        rw [hq] at hm3
        simp only [show ((2 ^ 2 - 1 : Nat) : Int) = 3 from rfl] at hm3
        clear hq
        generalize v i = vi at *
        have hm7 := i64_mask (vi / 4) 3 (by omega)
        obtain ⟨c7, hc7⟩ : ∃ q : Nat, (vi / 4) % (2 ^ 3 : Nat) = (q : Int) := ⟨((vi / 4) % (2 ^ 3 : Nat)).toNat, by omega⟩
        have hc8 : c7 ≤ 7 := by omega
        rw [hc7] at hm7
        simp only [show ((2 ^ 3 - 1 : Nat) : Int) = 7 from rfl] at hm7
        clear hc7
        have u1 : IntKind.u32.wrap (q : Int) = q := by show (q : Int) % 4294967296 = q; omega
        obtain ⟨s1, hs1, _⟩ := u32_nat ((nx : Int) + q)
        obtain ⟨id, hid, hid2⟩ := u32_nat ((s1 : Int) - 1)
        go_upto_region 8 with fail
        go_cut [12, 13] (fun s12 s13 wx => ∃ m : Nat, s12 = .int .u32 id ∧ s13 = .int .i64 m ∧ 1 ≤ m ∧ m ≤ 8 ∧ wr.drew = wx)
        case first =>
          go_region
          all_goals
            go_wp2_with fail
            go_meet
            exact ⟨c7 + 1, rfl, by first | rfl | go_num, by omega, by omega, rfl⟩
        case rest =>
        obtain ⟨m, rfl, rfl, hm1, hm8, hwc⟩ := hcut
        have B := B.drew
        have bel := bel.drew
        rw [hwc] at B bel
        clear hc hc2 hm3 hm7 hc8 u1 hs1 hid hwc
        have hM := fun w => more_any id m hid2 (by omega) w
        go_wp2_with fail
        refine (hM _).mono ?_
        rintro e w3 ⟨rfl, hb3⟩
        have B3 := B.below hb3 rfl
        have bel3 := bel.trans (hb3.mono (by have := bel.size; omega))
        have hg3 : g ≤ w3.heap.size := by have := bel3.size; omega
        clear B bel hb3 hM
        go_upto_region 10 with fail
        have G5 := (Blk.new w3 23 #[.int .i64 17, .string (mS id m)]).alloc (.cells (cc 130 id w3.heap.size) 43)
        have X5 := blk_new2 w3 (.cells #[.int .i64 17, .string (mS id m)] 23) 43 (cc 130 id w3.heap.size)
        have B5 := (B3.alloc (.cells #[.int .i64 17, .string (mS id m)] 23)).alloc (.cells (cc 130 id w3.heap.size) 43)
        have bel5 := (bel3.alloc hg3 (.cells #[.int .i64 17, .string (mS id m)] 23)).alloc (by simp; omega) (.cells (cc 130 id w3.heap.size) 43)
        have hgn : w3.heap.size ≠ g := by rcases B3 with ⟨_, L, Bk⟩ | ⟨_, _, _, _, _, _, _, Bk, _⟩ <;> (have := Bk.lt; omega)
        unfold cc at G5 X5 B5 bel5
        generalize (w3.alloc (.cells #[.int .i64 17, .string (mS id m)] 23)).alloc _ = w5 at *
        have X5 : Blk w5 (w3.heap.size + 1) 43 (cc 130 id w3.heap.size) := X5
        have hg5 : g ≤ w5.heap.size := by have := bel5.size; omega
        generalize hy : w3.heap.size + 1 = y at *
        generalize w3.heap.size = h at *
        clear B3 bel3
        go_wp2_with (refine wpList_load_at rfl 43 _ rfl y 0 rfl (cc 130 id h) _ (Cel.of_blk X5) Try.underlying43 rfl (szC _ _ _) ?_)
        clear X5
        by_cases hidn : id = nx
        · subst hidn
          obtain ⟨nn, hny, hnn⟩ := u32_nat ((id : Int) + 1)
          have hbk := back_next id hid2 nn hny
          obtain ⟨L, gv, Bg⟩ : ∃ L gv, Blk w5 g 149 (sv id L gv) := by
            rcases B5 with ⟨_, L, Bk⟩ | ⟨_, _, _, _, _, _, _, Bk, _⟩
            · exact ⟨L, false, Bk⟩
            · exact ⟨_, true, Bk⟩
          by_cases hmn : no + m ≤ 16
          · as_aux_lemma =>

            refine (asked_done g g h id m no nn L gv hid2 (by omega) (by omega) hmn hny _ Bg G5 (Nat.le_refl g)).mono ?_
            rintro e w7 ⟨k, cp, hh, rfl, hhh, K7, P7, Bq, bl7⟩
            have bel7 := bel5.trans bl7
            have B7 : Kno g g nn 1 w7 := .inr ⟨by omega, id, hh, hid2, hbk, by omega, by have := Bg.lt; omega, Bq, P7⟩
            clear Bg G5 B5 bel5 Bq P7 bl7
            rw [show cd 130 id k cp = #[.int .i64 130, .int .i64 0, .int .u32 id, .int .i64 0, .int .i64 0, .int .u32 0, .string ⟨#[]⟩, .int .u32 0, .int .u32 0, .int .i64 0, .int .i64 0, .slice (some ⟨k, 0, none⟩) 1 cp, .slice none 0 0, .slice none 0 0, .slice none 0 0] from rfl]
            go_upto_region 13 with fail
            have K8 := K7.alloc (.cells #[.int .i64 130, .int .i64 0, .int .u32 id, .int .i64 0, .int .i64 0, .int .u32 0, .string ⟨#[]⟩, .int .u32 0, .int .u32 0, .int .i64 0, .int .i64 0, .slice (some ⟨k, 0, none⟩) 1 cp, .slice none 0 0, .slice none 0 0, .slice none 0 0] 43)
            have X8 : Blk (w7.alloc (.cells #[.int .i64 130, .int .i64 0, .int .u32 id, .int .i64 0, .int .i64 0, .int .u32 0, .string ⟨#[]⟩, .int .u32 0, .int .u32 0, .int .i64 0, .int .i64 0, .slice (some ⟨k, 0, none⟩) 1 cp, .slice none 0 0, .slice none 0 0, .slice none 0 0] 43)) w7.heap.size 43 (cd 130 id k cp) := Blk.new w7 43 (cd 130 id k cp)
            have B8 := B7.alloc (.cells #[.int .i64 130, .int .i64 0, .int .u32 id, .int .i64 0, .int .i64 0, .int .u32 0, .string ⟨#[]⟩, .int .u32 0, .int .u32 0, .int .i64 0, .int .i64 0, .slice (some ⟨k, 0, none⟩) 1 cp, .slice none 0 0, .slice none 0 0, .slice none 0 0] 43)
            have bel8 := bel7.alloc (by have := bel7.size; omega) (.cells #[.int .i64 130, .int .i64 0, .int .u32 id, .int .i64 0, .int .i64 0, .int .u32 0, .string ⟨#[]⟩, .int .u32 0, .int .u32 0, .int .i64 0, .int .i64 0, .slice (some ⟨k, 0, none⟩) 1 cp, .slice none 0 0, .slice none 0 0, .slice none 0 0] 43)
            clear K7 B7 bel7
            generalize w7.alloc _ = w8 at *
            generalize w7.heap.size = z at *
            have hF := fun w => four_any id hid2 w
            have hF1 : ∀ w, Calls Try.prog 21 #[.int .u32 1] w fun e w' => e = .returned (.string (p4 1)) ∧ Below w.heap.size w w' := fun w => four_any 1 (by omega) w
            have c1 : decide ((16 : Int) - no < m) = false := decide_eq_false (by omega)
            have c2 : ¬ (16 : Int) - no < m := by omega
            have c3 : IntKind.i64.wrap ((no : Int) + m) = ((no + m : Nat) : Int) := by rw [show ((no + m : Nat) : Int) = (no : Int) + m by omega]; exact IntWalk.i64_in _ (by omega)
            go_wp2_with fail
            refine (hF _).mono ?_
            rintro e w9 ⟨rfl, hb9⟩
            have K9 := K8.below hb9 K8.lt
            have X9 := X8.below hb9 X8.lt
            have B9 := B8.below hb9 rfl
            have bel9 := bel8.trans (hb9.mono (by have := bel8.size; omega))
            clear K8 X8 B8 bel8 hb9
            go_wp2_with fail
            refine (hF1 _).mono ?_
            rintro e w10 ⟨rfl, hb10⟩
            have K10 := K9.below hb10 K9.lt
            have X10 := X9.below hb10 X9.lt
            have B10 := B9.below hb10 rfl
            have bel10 := bel9.trans (hb10.mono (by have := bel9.size; omega))
            clear K9 X9 B9 bel9 hb10 hF hF1
            have hz4 := p4_size id
            have hz1 : (p4 1).size = 4 := p4_size 1
            have hrs : p4 id ++ p4 1 = rS id 1 := rfl
            generalize p4 (id : Int) = S4 at *
            generalize p4 1 = S1 at *
            generalize hR : rS id 1 = R at *
            go_upto_region 22 with fail
            try rw [hrs]
            have Q11 := (Blk.new w10 23 #[.int .i64 16, .string R]).alloc (.cells #[.int .i64 130, .int .i64 0, .int .u32 id, .int .i64 0, .int .i64 0, .int .u32 0, .string ⟨#[]⟩, .int .u32 0, .int .u32 0, .int .i64 0, .int .i64 0, .slice (some ⟨w10.heap.size, 0, none⟩) 1 1, .slice none 0 0, .slice none 0 0, .slice none 0 0] 43)
            have Y11 : Blk ((w10.alloc (.cells #[.int .i64 16, .string R] 23)).alloc (.cells #[.int .i64 130, .int .i64 0, .int .u32 id, .int .i64 0, .int .i64 0, .int .u32 0, .string ⟨#[]⟩, .int .u32 0, .int .u32 0, .int .i64 0, .int .i64 0, .slice (some ⟨w10.heap.size, 0, none⟩) 1 1, .slice none 0 0, .slice none 0 0, .slice none 0 0] 43)) (w10.heap.size + 1) 43 (cd 130 id w10.heap.size 1) := blk_new2 w10 (.cells #[.int .i64 16, .string R] 23) 43 (cd 130 id w10.heap.size 1)
            have K11 := (K10.alloc (.cells #[.int .i64 16, .string R] 23)).alloc (.cells #[.int .i64 130, .int .i64 0, .int .u32 id, .int .i64 0, .int .i64 0, .int .u32 0, .string ⟨#[]⟩, .int .u32 0, .int .u32 0, .int .i64 0, .int .i64 0, .slice (some ⟨w10.heap.size, 0, none⟩) 1 1, .slice none 0 0, .slice none 0 0, .slice none 0 0] 43)
            have X11 := (X10.alloc (.cells #[.int .i64 16, .string R] 23)).alloc (.cells #[.int .i64 130, .int .i64 0, .int .u32 id, .int .i64 0, .int .i64 0, .int .u32 0, .string ⟨#[]⟩, .int .u32 0, .int .u32 0, .int .i64 0, .int .i64 0, .slice (some ⟨w10.heap.size, 0, none⟩) 1 1, .slice none 0 0, .slice none 0 0, .slice none 0 0] 43)
            have B11 := (B10.alloc (.cells #[.int .i64 16, .string R] 23)).alloc (.cells #[.int .i64 130, .int .i64 0, .int .u32 id, .int .i64 0, .int .i64 0, .int .u32 0, .string ⟨#[]⟩, .int .u32 0, .int .u32 0, .int .i64 0, .int .i64 0, .slice (some ⟨w10.heap.size, 0, none⟩) 1 1, .slice none 0 0, .slice none 0 0, .slice none 0 0] 43)
            have bel11 := (bel10.alloc (by have := bel10.size; omega) (.cells #[.int .i64 16, .string R] 23)).alloc (by have := bel10.size; simp; omega) (.cells #[.int .i64 130, .int .i64 0, .int .u32 id, .int .i64 0, .int .i64 0, .int .u32 0, .string ⟨#[]⟩, .int .u32 0, .int .u32 0, .int .i64 0, .int .i64 0, .slice (some ⟨w10.heap.size, 0, none⟩) 1 1, .slice none 0 0, .slice none 0 0, .slice none 0 0] 43)
            clear K10 X10 B10 bel10
            generalize (w10.alloc (.cells #[.int .i64 16, .string R] 23)).alloc _ = w11 at *
            generalize w10.heap.size + 1 = y2 at *
            generalize w10.heap.size = h2 at *
            go_wp2_with (first | (refine wpList_load_at_g (by rfl) 43 _ rfl z 0 rfl (cd 130 id k cp) _ (Cel.of_blk X11) Try.underlying43 rfl (szD _ _ _ _) ?_) | (refine wpList_load_at_g (by rfl) 43 _ rfl y2 0 rfl (cd 130 id h2 1) _ (Cel.of_blk Y11) Try.underlying43 rfl (szD _ _ _ _) ?_))
            refine (same_true 130 id k cp h2 1 16 R _ K11 (Cel.of_blk Q11)).mono ?_
            rintro e w12 ⟨rfl, hb12⟩
            have B12 := B11.below hb12 rfl
            have bel12 := bel11.trans (hb12.mono (by have := bel11.size; omega))
            clear K11 X11 Q11 Y11 B11 bel11 hb12
            go_wp2_with fail
            go_roundw
            case rel => exact ⟨i + 1, nn, no + m, 1, by omega, by omega, hnn, by omega, rfl, by first | rfl | go_num, rfl, by go_num, B12, bel12⟩
            case measure => simp [intOf]; omega
          · as_aux_lemma =>

            refine (asked_denied g g h id m no nn L gv hid2 (by omega) (by omega) (by omega) (by omega) hny _ Bg G5 (Nat.le_refl g)).mono ?_
            rintro e w7 ⟨k, cp, hh, rfl, hhh, K7, P7, Bq, bl7⟩
            have bel7 := bel5.trans bl7
            have B7 : Kno g g nn 2 w7 := .inr ⟨by omega, id, hh, hid2, hbk, by omega, by have := Bg.lt; omega, Bq, P7⟩
            clear Bg G5 B5 bel5 Bq P7 bl7
            rw [show cd 130 id k cp = #[.int .i64 130, .int .i64 0, .int .u32 id, .int .i64 0, .int .i64 0, .int .u32 0, .string ⟨#[]⟩, .int .u32 0, .int .u32 0, .int .i64 0, .int .i64 0, .slice (some ⟨k, 0, none⟩) 1 cp, .slice none 0 0, .slice none 0 0, .slice none 0 0] from rfl]
            go_upto_region 13 with fail
            have K8 := K7.alloc (.cells #[.int .i64 130, .int .i64 0, .int .u32 id, .int .i64 0, .int .i64 0, .int .u32 0, .string ⟨#[]⟩, .int .u32 0, .int .u32 0, .int .i64 0, .int .i64 0, .slice (some ⟨k, 0, none⟩) 1 cp, .slice none 0 0, .slice none 0 0, .slice none 0 0] 43)
            have X8 : Blk (w7.alloc (.cells #[.int .i64 130, .int .i64 0, .int .u32 id, .int .i64 0, .int .i64 0, .int .u32 0, .string ⟨#[]⟩, .int .u32 0, .int .u32 0, .int .i64 0, .int .i64 0, .slice (some ⟨k, 0, none⟩) 1 cp, .slice none 0 0, .slice none 0 0, .slice none 0 0] 43)) w7.heap.size 43 (cd 130 id k cp) := Blk.new w7 43 (cd 130 id k cp)
            have B8 := B7.alloc (.cells #[.int .i64 130, .int .i64 0, .int .u32 id, .int .i64 0, .int .i64 0, .int .u32 0, .string ⟨#[]⟩, .int .u32 0, .int .u32 0, .int .i64 0, .int .i64 0, .slice (some ⟨k, 0, none⟩) 1 cp, .slice none 0 0, .slice none 0 0, .slice none 0 0] 43)
            have bel8 := bel7.alloc (by have := bel7.size; omega) (.cells #[.int .i64 130, .int .i64 0, .int .u32 id, .int .i64 0, .int .i64 0, .int .u32 0, .string ⟨#[]⟩, .int .u32 0, .int .u32 0, .int .i64 0, .int .i64 0, .slice (some ⟨k, 0, none⟩) 1 cp, .slice none 0 0, .slice none 0 0, .slice none 0 0] 43)
            clear K7 B7 bel7
            generalize w7.alloc _ = w8 at *
            generalize w7.heap.size = z at *
            have hF := fun w => four_any id hid2 w
            have hF1 : ∀ w, Calls Try.prog 21 #[.int .u32 2] w fun e w' => e = .returned (.string (p4 2)) ∧ Below w.heap.size w w' := fun w => four_any 2 (by omega) w
            have c1 : decide ((16 : Int) - no < m) = true := decide_eq_true (by omega)
            have c2 : (16 : Int) - no < m := by omega
            go_wp2_with fail
            refine (hF _).mono ?_
            rintro e w9 ⟨rfl, hb9⟩
            have K9 := K8.below hb9 K8.lt
            have X9 := X8.below hb9 X8.lt
            have B9 := B8.below hb9 rfl
            have bel9 := bel8.trans (hb9.mono (by have := bel8.size; omega))
            clear K8 X8 B8 bel8 hb9
            go_wp2_with fail
            refine (hF1 _).mono ?_
            rintro e w10 ⟨rfl, hb10⟩
            have K10 := K9.below hb10 K9.lt
            have X10 := X9.below hb10 X9.lt
            have B10 := B9.below hb10 rfl
            have bel10 := bel9.trans (hb10.mono (by have := bel9.size; omega))
            clear K9 X9 B9 bel9 hb10 hF hF1
            have hz4 := p4_size id
            have hz1 : (p4 2).size = 4 := p4_size 2
            have hrs : p4 id ++ p4 2 = rS id 2 := rfl
            generalize p4 (id : Int) = S4 at *
            generalize p4 2 = S1 at *
            generalize hR : rS id 2 = R at *
            go_upto_region 22 with fail
            try rw [hrs]
            have Q11 := (Blk.new w10 23 #[.int .i64 16, .string R]).alloc (.cells #[.int .i64 130, .int .i64 0, .int .u32 id, .int .i64 0, .int .i64 0, .int .u32 0, .string ⟨#[]⟩, .int .u32 0, .int .u32 0, .int .i64 0, .int .i64 0, .slice (some ⟨w10.heap.size, 0, none⟩) 1 1, .slice none 0 0, .slice none 0 0, .slice none 0 0] 43)
            have Y11 : Blk ((w10.alloc (.cells #[.int .i64 16, .string R] 23)).alloc (.cells #[.int .i64 130, .int .i64 0, .int .u32 id, .int .i64 0, .int .i64 0, .int .u32 0, .string ⟨#[]⟩, .int .u32 0, .int .u32 0, .int .i64 0, .int .i64 0, .slice (some ⟨w10.heap.size, 0, none⟩) 1 1, .slice none 0 0, .slice none 0 0, .slice none 0 0] 43)) (w10.heap.size + 1) 43 (cd 130 id w10.heap.size 1) := blk_new2 w10 (.cells #[.int .i64 16, .string R] 23) 43 (cd 130 id w10.heap.size 1)
            have K11 := (K10.alloc (.cells #[.int .i64 16, .string R] 23)).alloc (.cells #[.int .i64 130, .int .i64 0, .int .u32 id, .int .i64 0, .int .i64 0, .int .u32 0, .string ⟨#[]⟩, .int .u32 0, .int .u32 0, .int .i64 0, .int .i64 0, .slice (some ⟨w10.heap.size, 0, none⟩) 1 1, .slice none 0 0, .slice none 0 0, .slice none 0 0] 43)
            have X11 := (X10.alloc (.cells #[.int .i64 16, .string R] 23)).alloc (.cells #[.int .i64 130, .int .i64 0, .int .u32 id, .int .i64 0, .int .i64 0, .int .u32 0, .string ⟨#[]⟩, .int .u32 0, .int .u32 0, .int .i64 0, .int .i64 0, .slice (some ⟨w10.heap.size, 0, none⟩) 1 1, .slice none 0 0, .slice none 0 0, .slice none 0 0] 43)
            have B11 := (B10.alloc (.cells #[.int .i64 16, .string R] 23)).alloc (.cells #[.int .i64 130, .int .i64 0, .int .u32 id, .int .i64 0, .int .i64 0, .int .u32 0, .string ⟨#[]⟩, .int .u32 0, .int .u32 0, .int .i64 0, .int .i64 0, .slice (some ⟨w10.heap.size, 0, none⟩) 1 1, .slice none 0 0, .slice none 0 0, .slice none 0 0] 43)
            have bel11 := (bel10.alloc (by have := bel10.size; omega) (.cells #[.int .i64 16, .string R] 23)).alloc (by have := bel10.size; simp; omega) (.cells #[.int .i64 130, .int .i64 0, .int .u32 id, .int .i64 0, .int .i64 0, .int .u32 0, .string ⟨#[]⟩, .int .u32 0, .int .u32 0, .int .i64 0, .int .i64 0, .slice (some ⟨w10.heap.size, 0, none⟩) 1 1, .slice none 0 0, .slice none 0 0, .slice none 0 0] 43)
            clear K10 X10 B10 bel10
            generalize (w10.alloc (.cells #[.int .i64 16, .string R] 23)).alloc _ = w11 at *
            generalize w10.heap.size + 1 = y2 at *
            generalize w10.heap.size = h2 at *
            go_wp2_with (first | (refine wpList_load_at_g (by rfl) 43 _ rfl z 0 rfl (cd 130 id k cp) _ (Cel.of_blk X11) Try.underlying43 rfl (szD _ _ _ _) ?_) | (refine wpList_load_at_g (by rfl) 43 _ rfl y2 0 rfl (cd 130 id h2 1) _ (Cel.of_blk Y11) Try.underlying43 rfl (szD _ _ _ _) ?_))
            refine (same_true 130 id k cp h2 1 16 R _ K11 (Cel.of_blk Q11)).mono ?_
            rintro e w12 ⟨rfl, hb12⟩
            have B12 := B11.below hb12 rfl
            have bel12 := bel11.trans (hb12.mono (by have := bel11.size; omega))
            clear K11 X11 Q11 Y11 B11 bel11 hb12
            go_wp2_with fail
            go_roundw
            case rel => exact ⟨i + 1, nn, no, 2, by omega, by omega, hnn, by omega, rfl, by first | rfl | go_num, rfl, by go_num, B12, bel12⟩
            case measure => simp [intOf]; omega

        · have hidn2 : ((id : Int) == (nx : Int)) = false := by simp; omega
          obtain ⟨pr, hpr, hpr2⟩ := u32_nat ((nx : Int) - 1)
          rcases B5 with ⟨rfl, L, Bg⟩ | ⟨hl12, pr', hh, hp1, hp2, hp3, hp4, Bg, P5⟩
          · as_aux_lemma =>
            refine (asked_no g g h id m no nx pr L false hid2 (by omega) (by omega) hno hidn hpr (.inl rfl) _ Bg G5 (Nat.le_refl g)).mono ?_
            rintro e w7 ⟨rfl, bl7⟩
            have bel7 := bel5.trans (bl7.mono hg5)
            have B7 : Kno g g nx 0 w7 := Kno.below (w := w5) (.inl ⟨rfl, L, Bg⟩) bl7 rfl
            unfold c0
            clear Bg G5 bel5 bl7
            go_upto_region 13 with fail
            have B8 := B7.alloc (.cells #[.int .i64 0, .int .i64 0, .int .u32 0, .int .i64 0, .int .i64 0, .int .u32 0, .string ⟨#[]⟩, .int .u32 0, .int .u32 0, .int .i64 0, .int .i64 0, .slice none 0 0, .slice none 0 0, .slice none 0 0, .slice none 0 0] 43)
            have bel8 := bel7.alloc (by have := bel7.size; omega) (.cells #[.int .i64 0, .int .i64 0, .int .u32 0, .int .i64 0, .int .i64 0, .int .u32 0, .string ⟨#[]⟩, .int .u32 0, .int .u32 0, .int .i64 0, .int .i64 0, .slice none 0 0, .slice none 0 0, .slice none 0 0, .slice none 0 0] 43)
            clear B7 bel7
            generalize w7.alloc _ = w8 at *
            go_wp2_with fail
            all_goals
              go_roundw
              case rel => exact ⟨i + 1, nx, no, 0, by omega, by omega, hnx, hno, rfl, rfl, rfl, by go_num, B8, bel8⟩
              case measure => simp [intOf]; omega
          · obtain rfl : pr' = pr := by omega
            by_cases hip : id = pr'
            · subst hip
              rcases hl12 with rfl | rfl
              · as_aux_lemma =>
                refine (asked_again g g h id m no nx hh 1 hid2 (by omega) (by omega) hno hidn hp2 _ Bg P5 G5 (Nat.le_refl g)).mono ?_
                rintro e w7 ⟨k, cp, rfl, K7, bl7⟩
                have bel7 := bel5.trans (bl7.mono hg5)
                have B7 : Kno g g nx 1 w7 := Kno.below (w := w5) (.inr ⟨by omega, id, hh, hp1, hp2, hp3, hp4, Bg, P5⟩) bl7 rfl
                clear Bg G5 P5 bel5 bl7

                rw [show cd 130 id k cp = #[.int .i64 130, .int .i64 0, .int .u32 id, .int .i64 0, .int .i64 0, .int .u32 0, .string ⟨#[]⟩, .int .u32 0, .int .u32 0, .int .i64 0, .int .i64 0, .slice (some ⟨k, 0, none⟩) 1 cp, .slice none 0 0, .slice none 0 0, .slice none 0 0] from rfl]
                go_upto_region 13 with fail
                have K8 := K7.alloc (.cells #[.int .i64 130, .int .i64 0, .int .u32 id, .int .i64 0, .int .i64 0, .int .u32 0, .string ⟨#[]⟩, .int .u32 0, .int .u32 0, .int .i64 0, .int .i64 0, .slice (some ⟨k, 0, none⟩) 1 cp, .slice none 0 0, .slice none 0 0, .slice none 0 0] 43)
                have X8 : Blk (w7.alloc (.cells #[.int .i64 130, .int .i64 0, .int .u32 id, .int .i64 0, .int .i64 0, .int .u32 0, .string ⟨#[]⟩, .int .u32 0, .int .u32 0, .int .i64 0, .int .i64 0, .slice (some ⟨k, 0, none⟩) 1 cp, .slice none 0 0, .slice none 0 0, .slice none 0 0] 43)) w7.heap.size 43 (cd 130 id k cp) := Blk.new w7 43 (cd 130 id k cp)
                have B8 := B7.alloc (.cells #[.int .i64 130, .int .i64 0, .int .u32 id, .int .i64 0, .int .i64 0, .int .u32 0, .string ⟨#[]⟩, .int .u32 0, .int .u32 0, .int .i64 0, .int .i64 0, .slice (some ⟨k, 0, none⟩) 1 cp, .slice none 0 0, .slice none 0 0, .slice none 0 0] 43)
                have bel8 := bel7.alloc (by have := bel7.size; omega) (.cells #[.int .i64 130, .int .i64 0, .int .u32 id, .int .i64 0, .int .i64 0, .int .u32 0, .string ⟨#[]⟩, .int .u32 0, .int .u32 0, .int .i64 0, .int .i64 0, .slice (some ⟨k, 0, none⟩) 1 cp, .slice none 0 0, .slice none 0 0, .slice none 0 0] 43)
                clear K7 B7 bel7
                generalize w7.alloc _ = w8 at *
                generalize w7.heap.size = z at *
                have hF := fun w => four_any id hid2 w
                have hF1 : ∀ w, Calls Try.prog 21 #[.int .u32 1] w fun e w' => e = .returned (.string (p4 1)) ∧ Below w.heap.size w w' := fun w => four_any 1 (by omega) w

                go_wp2_with fail
                refine (hF _).mono ?_
                rintro e w9 ⟨rfl, hb9⟩
                have K9 := K8.below hb9 K8.lt
                have X9 := X8.below hb9 X8.lt
                have B9 := B8.below hb9 rfl
                have bel9 := bel8.trans (hb9.mono (by have := bel8.size; omega))
                clear K8 X8 B8 bel8 hb9
                go_wp2_with fail
                refine (hF1 _).mono ?_
                rintro e w10 ⟨rfl, hb10⟩
                have K10 := K9.below hb10 K9.lt
                have X10 := X9.below hb10 X9.lt
                have B10 := B9.below hb10 rfl
                have bel10 := bel9.trans (hb10.mono (by have := bel9.size; omega))
                clear K9 X9 B9 bel9 hb10 hF hF1
                have hz4 := p4_size id
                have hz1 : (p4 1).size = 4 := p4_size 1
                have hrs : p4 id ++ p4 1 = rS id 1 := rfl
                generalize p4 (id : Int) = S4 at *
                generalize p4 1 = S1 at *
                generalize hR : rS id 1 = R at *
                go_upto_region 22 with fail
                try rw [hrs]
                have Q11 := (Blk.new w10 23 #[.int .i64 16, .string R]).alloc (.cells #[.int .i64 130, .int .i64 0, .int .u32 id, .int .i64 0, .int .i64 0, .int .u32 0, .string ⟨#[]⟩, .int .u32 0, .int .u32 0, .int .i64 0, .int .i64 0, .slice (some ⟨w10.heap.size, 0, none⟩) 1 1, .slice none 0 0, .slice none 0 0, .slice none 0 0] 43)
                have Y11 : Blk ((w10.alloc (.cells #[.int .i64 16, .string R] 23)).alloc (.cells #[.int .i64 130, .int .i64 0, .int .u32 id, .int .i64 0, .int .i64 0, .int .u32 0, .string ⟨#[]⟩, .int .u32 0, .int .u32 0, .int .i64 0, .int .i64 0, .slice (some ⟨w10.heap.size, 0, none⟩) 1 1, .slice none 0 0, .slice none 0 0, .slice none 0 0] 43)) (w10.heap.size + 1) 43 (cd 130 id w10.heap.size 1) := blk_new2 w10 (.cells #[.int .i64 16, .string R] 23) 43 (cd 130 id w10.heap.size 1)
                have K11 := (K10.alloc (.cells #[.int .i64 16, .string R] 23)).alloc (.cells #[.int .i64 130, .int .i64 0, .int .u32 id, .int .i64 0, .int .i64 0, .int .u32 0, .string ⟨#[]⟩, .int .u32 0, .int .u32 0, .int .i64 0, .int .i64 0, .slice (some ⟨w10.heap.size, 0, none⟩) 1 1, .slice none 0 0, .slice none 0 0, .slice none 0 0] 43)
                have X11 := (X10.alloc (.cells #[.int .i64 16, .string R] 23)).alloc (.cells #[.int .i64 130, .int .i64 0, .int .u32 id, .int .i64 0, .int .i64 0, .int .u32 0, .string ⟨#[]⟩, .int .u32 0, .int .u32 0, .int .i64 0, .int .i64 0, .slice (some ⟨w10.heap.size, 0, none⟩) 1 1, .slice none 0 0, .slice none 0 0, .slice none 0 0] 43)
                have B11 := (B10.alloc (.cells #[.int .i64 16, .string R] 23)).alloc (.cells #[.int .i64 130, .int .i64 0, .int .u32 id, .int .i64 0, .int .i64 0, .int .u32 0, .string ⟨#[]⟩, .int .u32 0, .int .u32 0, .int .i64 0, .int .i64 0, .slice (some ⟨w10.heap.size, 0, none⟩) 1 1, .slice none 0 0, .slice none 0 0, .slice none 0 0] 43)
                have bel11 := (bel10.alloc (by have := bel10.size; omega) (.cells #[.int .i64 16, .string R] 23)).alloc (by have := bel10.size; simp; omega) (.cells #[.int .i64 130, .int .i64 0, .int .u32 id, .int .i64 0, .int .i64 0, .int .u32 0, .string ⟨#[]⟩, .int .u32 0, .int .u32 0, .int .i64 0, .int .i64 0, .slice (some ⟨w10.heap.size, 0, none⟩) 1 1, .slice none 0 0, .slice none 0 0, .slice none 0 0] 43)
                clear K10 X10 B10 bel10
                generalize (w10.alloc (.cells #[.int .i64 16, .string R] 23)).alloc _ = w11 at *
                generalize w10.heap.size + 1 = y2 at *
                generalize w10.heap.size = h2 at *
                go_wp2_with (first | (refine wpList_load_at_g (by rfl) 43 _ rfl z 0 rfl (cd 130 id k cp) _ (Cel.of_blk X11) Try.underlying43 rfl (szD _ _ _ _) ?_) | (refine wpList_load_at_g (by rfl) 43 _ rfl y2 0 rfl (cd 130 id h2 1) _ (Cel.of_blk Y11) Try.underlying43 rfl (szD _ _ _ _) ?_))
                refine (same_true 130 id k cp h2 1 16 R _ K11 (Cel.of_blk Q11)).mono ?_
                rintro e w12 ⟨rfl, hb12⟩
                have B12 := B11.below hb12 rfl
                have bel12 := bel11.trans (hb12.mono (by have := bel11.size; omega))
                clear K11 X11 Q11 Y11 B11 bel11 hb12
                go_wp2_with fail
                go_roundw
                case rel => exact ⟨i + 1, nx, no, 1, by omega, by omega, hnx, by omega, rfl, by first | rfl | go_num, rfl, by go_num, B12, bel12⟩
                case measure => simp [intOf]; omega
              · as_aux_lemma =>
                refine (asked_again g g h id m no nx hh 2 hid2 (by omega) (by omega) hno hidn hp2 _ Bg P5 G5 (Nat.le_refl g)).mono ?_
                rintro e w7 ⟨k, cp, rfl, K7, bl7⟩
                have bel7 := bel5.trans (bl7.mono hg5)
                have B7 : Kno g g nx 2 w7 := Kno.below (w := w5) (.inr ⟨by omega, id, hh, hp1, hp2, hp3, hp4, Bg, P5⟩) bl7 rfl
                clear Bg G5 P5 bel5 bl7

                rw [show cd 130 id k cp = #[.int .i64 130, .int .i64 0, .int .u32 id, .int .i64 0, .int .i64 0, .int .u32 0, .string ⟨#[]⟩, .int .u32 0, .int .u32 0, .int .i64 0, .int .i64 0, .slice (some ⟨k, 0, none⟩) 1 cp, .slice none 0 0, .slice none 0 0, .slice none 0 0] from rfl]
                go_upto_region 13 with fail
                have K8 := K7.alloc (.cells #[.int .i64 130, .int .i64 0, .int .u32 id, .int .i64 0, .int .i64 0, .int .u32 0, .string ⟨#[]⟩, .int .u32 0, .int .u32 0, .int .i64 0, .int .i64 0, .slice (some ⟨k, 0, none⟩) 1 cp, .slice none 0 0, .slice none 0 0, .slice none 0 0] 43)
                have X8 : Blk (w7.alloc (.cells #[.int .i64 130, .int .i64 0, .int .u32 id, .int .i64 0, .int .i64 0, .int .u32 0, .string ⟨#[]⟩, .int .u32 0, .int .u32 0, .int .i64 0, .int .i64 0, .slice (some ⟨k, 0, none⟩) 1 cp, .slice none 0 0, .slice none 0 0, .slice none 0 0] 43)) w7.heap.size 43 (cd 130 id k cp) := Blk.new w7 43 (cd 130 id k cp)
                have B8 := B7.alloc (.cells #[.int .i64 130, .int .i64 0, .int .u32 id, .int .i64 0, .int .i64 0, .int .u32 0, .string ⟨#[]⟩, .int .u32 0, .int .u32 0, .int .i64 0, .int .i64 0, .slice (some ⟨k, 0, none⟩) 1 cp, .slice none 0 0, .slice none 0 0, .slice none 0 0] 43)
                have bel8 := bel7.alloc (by have := bel7.size; omega) (.cells #[.int .i64 130, .int .i64 0, .int .u32 id, .int .i64 0, .int .i64 0, .int .u32 0, .string ⟨#[]⟩, .int .u32 0, .int .u32 0, .int .i64 0, .int .i64 0, .slice (some ⟨k, 0, none⟩) 1 cp, .slice none 0 0, .slice none 0 0, .slice none 0 0] 43)
                clear K7 B7 bel7
                generalize w7.alloc _ = w8 at *
                generalize w7.heap.size = z at *
                have hF := fun w => four_any id hid2 w
                have hF1 : ∀ w, Calls Try.prog 21 #[.int .u32 2] w fun e w' => e = .returned (.string (p4 2)) ∧ Below w.heap.size w w' := fun w => four_any 2 (by omega) w

                go_wp2_with fail
                refine (hF _).mono ?_
                rintro e w9 ⟨rfl, hb9⟩
                have K9 := K8.below hb9 K8.lt
                have X9 := X8.below hb9 X8.lt
                have B9 := B8.below hb9 rfl
                have bel9 := bel8.trans (hb9.mono (by have := bel8.size; omega))
                clear K8 X8 B8 bel8 hb9
                go_wp2_with fail
                refine (hF1 _).mono ?_
                rintro e w10 ⟨rfl, hb10⟩
                have K10 := K9.below hb10 K9.lt
                have X10 := X9.below hb10 X9.lt
                have B10 := B9.below hb10 rfl
                have bel10 := bel9.trans (hb10.mono (by have := bel9.size; omega))
                clear K9 X9 B9 bel9 hb10 hF hF1
                have hz4 := p4_size id
                have hz1 : (p4 2).size = 4 := p4_size 2
                have hrs : p4 id ++ p4 2 = rS id 2 := rfl
                generalize p4 (id : Int) = S4 at *
                generalize p4 2 = S1 at *
                generalize hR : rS id 2 = R at *
                go_upto_region 22 with fail
                try rw [hrs]
                have Q11 := (Blk.new w10 23 #[.int .i64 16, .string R]).alloc (.cells #[.int .i64 130, .int .i64 0, .int .u32 id, .int .i64 0, .int .i64 0, .int .u32 0, .string ⟨#[]⟩, .int .u32 0, .int .u32 0, .int .i64 0, .int .i64 0, .slice (some ⟨w10.heap.size, 0, none⟩) 1 1, .slice none 0 0, .slice none 0 0, .slice none 0 0] 43)
                have Y11 : Blk ((w10.alloc (.cells #[.int .i64 16, .string R] 23)).alloc (.cells #[.int .i64 130, .int .i64 0, .int .u32 id, .int .i64 0, .int .i64 0, .int .u32 0, .string ⟨#[]⟩, .int .u32 0, .int .u32 0, .int .i64 0, .int .i64 0, .slice (some ⟨w10.heap.size, 0, none⟩) 1 1, .slice none 0 0, .slice none 0 0, .slice none 0 0] 43)) (w10.heap.size + 1) 43 (cd 130 id w10.heap.size 1) := blk_new2 w10 (.cells #[.int .i64 16, .string R] 23) 43 (cd 130 id w10.heap.size 1)
                have K11 := (K10.alloc (.cells #[.int .i64 16, .string R] 23)).alloc (.cells #[.int .i64 130, .int .i64 0, .int .u32 id, .int .i64 0, .int .i64 0, .int .u32 0, .string ⟨#[]⟩, .int .u32 0, .int .u32 0, .int .i64 0, .int .i64 0, .slice (some ⟨w10.heap.size, 0, none⟩) 1 1, .slice none 0 0, .slice none 0 0, .slice none 0 0] 43)
                have X11 := (X10.alloc (.cells #[.int .i64 16, .string R] 23)).alloc (.cells #[.int .i64 130, .int .i64 0, .int .u32 id, .int .i64 0, .int .i64 0, .int .u32 0, .string ⟨#[]⟩, .int .u32 0, .int .u32 0, .int .i64 0, .int .i64 0, .slice (some ⟨w10.heap.size, 0, none⟩) 1 1, .slice none 0 0, .slice none 0 0, .slice none 0 0] 43)
                have B11 := (B10.alloc (.cells #[.int .i64 16, .string R] 23)).alloc (.cells #[.int .i64 130, .int .i64 0, .int .u32 id, .int .i64 0, .int .i64 0, .int .u32 0, .string ⟨#[]⟩, .int .u32 0, .int .u32 0, .int .i64 0, .int .i64 0, .slice (some ⟨w10.heap.size, 0, none⟩) 1 1, .slice none 0 0, .slice none 0 0, .slice none 0 0] 43)
                have bel11 := (bel10.alloc (by have := bel10.size; omega) (.cells #[.int .i64 16, .string R] 23)).alloc (by have := bel10.size; simp; omega) (.cells #[.int .i64 130, .int .i64 0, .int .u32 id, .int .i64 0, .int .i64 0, .int .u32 0, .string ⟨#[]⟩, .int .u32 0, .int .u32 0, .int .i64 0, .int .i64 0, .slice (some ⟨w10.heap.size, 0, none⟩) 1 1, .slice none 0 0, .slice none 0 0, .slice none 0 0] 43)
                clear K10 X10 B10 bel10
                generalize (w10.alloc (.cells #[.int .i64 16, .string R] 23)).alloc _ = w11 at *
                generalize w10.heap.size + 1 = y2 at *
                generalize w10.heap.size = h2 at *
                go_wp2_with (first | (refine wpList_load_at_g (by rfl) 43 _ rfl z 0 rfl (cd 130 id k cp) _ (Cel.of_blk X11) Try.underlying43 rfl (szD _ _ _ _) ?_) | (refine wpList_load_at_g (by rfl) 43 _ rfl y2 0 rfl (cd 130 id h2 1) _ (Cel.of_blk Y11) Try.underlying43 rfl (szD _ _ _ _) ?_))
                refine (same_true 130 id k cp h2 1 16 R _ K11 (Cel.of_blk Q11)).mono ?_
                rintro e w12 ⟨rfl, hb12⟩
                have B12 := B11.below hb12 rfl
                have bel12 := bel11.trans (hb12.mono (by have := bel11.size; omega))
                clear K11 X11 Q11 Y11 B11 bel11 hb12
                go_wp2_with fail
                go_roundw
                case rel => exact ⟨i + 1, nx, no, 2, by omega, by omega, hnx, by omega, rfl, by first | rfl | go_num, rfl, by go_num, B12, bel12⟩
                case measure => simp [intOf]; omega
            · as_aux_lemma =>
              have hip2 : ((id : Int) == (pr' : Int)) = false := by simp; omega
              refine (asked_no g g h id m no nx pr' _ true hid2 (by omega) (by omega) hno hidn hpr (.inr hip) _ Bg G5 (Nat.le_refl g)).mono ?_
              rintro e w7 ⟨rfl, bl7⟩
              have bel7 := bel5.trans (bl7.mono hg5)
              have B7 : Kno g g nx last w7 := Kno.below (w := w5) (.inr ⟨hl12, pr', hh, hp1, hp2, hp3, hp4, Bg, P5⟩) bl7 rfl
              unfold c0
              clear Bg G5 bel5 bl7 P5
              go_upto_region 13 with fail
              have B8 := B7.alloc (.cells #[.int .i64 0, .int .i64 0, .int .u32 0, .int .i64 0, .int .i64 0, .int .u32 0, .string ⟨#[]⟩, .int .u32 0, .int .u32 0, .int .i64 0, .int .i64 0, .slice none 0 0, .slice none 0 0, .slice none 0 0, .slice none 0 0] 43)
              have bel8 := bel7.alloc (by have := bel7.size; omega) (.cells #[.int .i64 0, .int .i64 0, .int .u32 0, .int .i64 0, .int .i64 0, .int .u32 0, .string ⟨#[]⟩, .int .u32 0, .int .u32 0, .int .i64 0, .int .i64 0, .slice none 0 0, .slice none 0 0, .slice none 0 0, .slice none 0 0] 43)
              clear B7 bel7
              generalize w7.alloc _ = w8 at *
              go_wp2_with fail
              all_goals
                go_roundw
                case rel => exact ⟨i + 1, nx, no, last, by omega, by omega, hnx, hno, rfl, rfl, rfl, by go_num, B8, bel8⟩
                case measure => simp [intOf]; omega
      · go_wp2_with fail
        go_ret
        exact ⟨rfl, by rw [hg]; exact bel⟩
    · go_wp2_with fail
      go_ret
      exact ⟨rfl, by rw [hg]; exact bel⟩
end Go.Proofs.Ytdocphkpeonldaa.rec_
