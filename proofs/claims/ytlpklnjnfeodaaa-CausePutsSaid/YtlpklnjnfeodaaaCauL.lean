/- Layer 5: causes have the document's bytes, and are read again. -/
import Derived.Test.YtlpklnjnfeodaaaCauR
import Derived.Test.YtlpklnjnfeodaaaPutP
namespace Go.Proofs.Ytlpklnjnfeodaaa.par
open Go.ChangeShapes Go.WideShapes Go.ChangeAt Go.RowKit kit oct bld
set_option maxRecDepth 100000

theorem cmay_any (t : Int) (s : ByteArray) (w : World) : Calls Try.prog 29 #[.agg #[.int .i64 t, .string s]] w fun e w' => e = .returned (.bool (mayP t s)) ∧ Below w.heap.size w w' := by
  have hm := fun w => may_any t s w
  generalize mayP t s = b at *
  go_enter Try.func29, Try.ntmps29
  go_wp2_with fail
  refine (asParam_any t s _).mono ?_
  rintro e w1 ⟨rfl, hb1⟩
  go_wp2_with fail
  refine (hm _).mono ?_
  rintro e w2 ⟨rfl, hb2⟩
  go_wp2_with fail
  go_ret
  have b1 : Below w.heap.size w w1 := ((Below.refl _ _).alloc (Nat.le_refl _) _).trans (hb1.mono (by simp))
  exact ⟨rfl, b1.trans (hb2.mono b1.size)⟩
theorem ref5_any (t : Int) (s : ByteArray) (w : World) : Calls Try.prog 28 #[.agg #[.int .i64 t, .string s]] w fun e w' => e = .returned (.agg #[.int .i64 t, .string s]) ∧ Below w.heap.size w w' := by
  go_enter Try.func28, Try.ntmps28
  go_wp2
  exact bodyPost_ret (v := .agg #[.int .i64 t, .string s]) (by simp [results, Try.results28, go_sem] <;> rfl) rfl ⟨rfl, by repeat (first | exact Below.refl _ _ | (refine Below.alloc ?_ (by simp; try omega) _) | (refine Below.setCell ?_ (by simp) _) | (refine Below.drew ?_))⟩
theorem cputAll_nil (w : World) :
    Calls Try.prog 31 #[.slice none 0 0] w fun e w' => e = .returned (.string (cat [])) ∧ Below w.heap.size w w' := by
  have hS := fun w => putAll_nil w
  generalize cat [] = S at *
  go_enter Try.func31, Try.ntmps31
  go_wp2_with fail
  refine wp_loop_rounds 1 ?_
  rw [rounds_succ]
  go_wp2_with (go_at_call 62; refine (hS _).mono ?_; rintro e w2 ⟨rfl, hb2⟩)
  go_ret
  exact ⟨rfl, hb2⟩
theorem cputAll_own (B : Nat) (v : Value) (ps : List (Int × ByteArray)) (w : World) (hn : ps.length ≤ 16) (h : w.ownsRow B 59 2 v ps.length (cellsP ps)) :
    Calls Try.prog 31 #[v] w fun e w' => e = .returned (.string (cat ps)) ∧ Below w.heap.size w w' := by
  rcases own_rowL h with ⟨rfl, rfl⟩ | ⟨g, cap, rfl, _, _, h3, h4, h5⟩
  · exact cputAll_nil w
  · exact cputAll_row _ cap ps w hn h3 h4 h5

/-- Those that may be; are all of them such? -/
def goods (l : List (Int × ByteArray)) : List (Int × ByteArray) := l.filter fun p => mayP p.1 p.2
def allM (l : List (Int × ByteArray)) : Bool := l.all fun p => mayP p.1 p.2
theorem goods_may (l : List (Int × ByteArray)) : ∀ p, p ∈ goods l → mayP p.1 p.2 = true := by intro p hp; unfold goods at hp; simpa using (List.mem_filter.1 hp).2
theorem goods_le (l : List (Int × ByteArray)) : (goods l).length ≤ l.length := List.length_filter_le _ _
theorem goods_all {l : List (Int × ByteArray)} (h : allM l = true) : goods l = l := by
  unfold allM at h
  unfold goods
  rw [List.filter_eq_self]
  simpa using h
theorem cat_goods (l : List (Int × ByteArray)) : cat (goods l) = cat l := by
  induction l with
  | nil => rfl
  | cons p r ih =>
    unfold goods at *
    cases h : mayP p.1 p.2 with
    | true => rw [List.filter_cons_of_pos (by simpa using h)]; simp only [cat, ih]
    | false =>
      rw [List.filter_cons_of_neg (by simp [h])]
      rw [ih]
      simp only [cat]
      unfold putP
      rw [if_neg (by rw [h]; simp), ByteArray.empty_append]
theorem allM_snoc (l : List (Int × ByteArray)) (p : Int × ByteArray) : allM (l ++ [p]) = (allM l && mayP p.1 p.2) := by unfold allM; simp

theorem own_form {w : World} {B e : Nat} {v : Value} {ps : List (Int × ByteArray)} (h : w.ownsRow B e 2 v ps.length (cellsP ps)) :
    ∃ ao cap, v = .slice ao ps.length cap ∧ ps.length ≤ cap ∧ cap ≤ maxLen ∧ (0 < ps.length → ∃ g, ao = some ⟨g, 0, none⟩ ∧ g < w.heap.size ∧ RowL w ⟨g, 0, none⟩ ps) := by
  rcases own_rowL h with ⟨rfl, rfl⟩ | ⟨g, cap, rfl, _, h2, h3, h4, h5⟩
  · exact ⟨none, 0, rfl, Nat.le_refl _, by unfold maxLen; omega, fun q => absurd q (by simp)⟩
  · exact ⟨_, cap, rfl, h3, h4, fun _ => ⟨g, rfl, h2, h5⟩⟩

set_option maxHeartbeats 2000000 in
theorem cputs_law (a : Addr) (len cap : Nat) (T : Nat → Int) (S : Nat → ByteArray) (w : World) (hlc : len ≤ cap) (hcm : cap ≤ maxLen) (hr : Row2 w a len T S) (hs : ∀ i, i < len → (S i).size ≤ maxLen) :
    Calls Try.prog 8 #[.slice (some a) len cap] w fun e w' => e = .returned (.bool true) ∧ Below w.heap.size w w' := by
  unfold maxLen at hcm
  obtain ⟨i0, hi, hz0, hz1, hz2⟩ := info_parts info59
  have HR := Lib.hid hr
  have HZ := Lib.hid hs
  clear hr hs
  go_enter Try.func8, Try.ntmps8
  go_wp2_with fail
  have own0 : (w.alloc (.cells #[] 59)).ownsRow w.heap.size 59 2 (.slice (some ⟨w.heap.size, 0, none⟩) 0 0) 0 (cellsP []) := ⟨rfl, .inr ⟨w.heap.size, 0, #[], rfl, Nat.le_refl _, heap_alloc_new w _, Nat.le_refl _, by unfold maxLen; omega, rfl, rfl⟩⟩
  have HO0 := Lib.hid own0
  clear own0
  go_loopw [3, 4, 5, 6] (fun sk sw sm si wr => ∃ (ds : List (Int × ByteArray)) (v : Value), ds.length ≤ 16 ∧ ds.length ≤ len ∧ si = .int .i64 (ds.length : Nat) ∧ sw = .string (cat ds) ∧ sm = .bool (allM ds) ∧ v = sk ∧ wr.ownsRow w.heap.size 59 2 v ds.length (cellsP ds) ∧ Below w.heap.size w wr) (fun _ _ _ si _ => 16 - (intOf si).toNat)
  case atStart => exact ⟨[], _, by simp, by simp, rfl, rfl, rfl, rfl, HO0.out, (Below.refl _ _).alloc (Nat.le_refl _) _⟩
  case round =>
    clear HO0
    obtain ⟨ds, v, hd16, hdl, rfl, rfl, rfl, rfl, hown, bel⟩ := hrel
    have HO := Lib.hid hown
    clear hown
    go_upto_region 4 with fail
    go_cut [20] (fun s20 wx => wx = wr ∧ ∃ b : Bool, s20 = .bool b ∧ (b = true → ds.length < len ∧ ds.length < 16))
    case first =>
      rcases (by omega : (ds.length < len ∧ ds.length < 16) ∨ ¬ ds.length < len ∨ (ds.length < len ∧ ¬ ds.length < 16)) with ⟨h1, h2⟩ | h1 | ⟨h1, h2⟩
      · go_wp2_with fail
        go_meet
        exact ⟨rfl, _, rfl, fun _ => ⟨h1, h2⟩⟩
      · go_wp2_with fail
        go_meet
        exact ⟨rfl, _, rfl, fun q => by simp at q⟩
      · go_wp2_with fail
        go_meet
        exact ⟨rfl, _, rfl, fun q => by simp at q; omega⟩
    case rest =>
    obtain ⟨rfl, b, rfl, hb⟩ := hcut
    cases b with
    | true =>
      obtain ⟨h1, h2⟩ := hb rfl
      clear hb
      obtain ⟨c0, c1⟩ := (HR.out.below bel HR.out.1).2 ds.length h1
      have hz := HZ.out ds.length h1
      unfold maxLen at hz
      obtain ⟨n, hn, hn1⟩ : ∃ n : Nat, min ((S ds.length).size : Int) 1100 = n ∧ n ≤ (S ds.length).size := ⟨min (S ds.length).size 1100, by omega, by omega⟩
      have hab : a.block < wc.heap.size := (HR.out.below bel HR.out.1).1 (by omega)
      have d0 := ((Below.refl wc.heap.size wc).alloc (Nat.le_refl _) (.cells #[.int .i64 0, .string ⟨#[]⟩] 59)).cell (p := a.add (ds.length * 2)) (by rw [add_block]; exact hab)
      have d1 := ((Below.refl wc.heap.size wc).alloc (Nat.le_refl _) (.cells #[.int .i64 0, .string ⟨#[]⟩] 59)).cell (p := { block := (a.add (ds.length * 2)).block, off := (a.add (ds.length * 2)).off + 1 }) (by show (a.add (ds.length * 2)).block < _; rw [add_block]; exact hab)
      rw [c0] at d0
      rw [c1] at d1
      generalize T ds.length = t at *
      generalize S ds.length = s at *
      have hltO := HO.out.lt
      obtain ⟨wo, rfl⟩ : ∃ wo, wo = wc := ⟨_, rfl⟩
      go_upto_region 6 with fail
      go_cut [7] (fun s7 wx => s7 = .pointer (some ⟨wo.heap.size, 0, none⟩) ∧ ∃ p : Int × ByteArray, Blk wx wo.heap.size 59 #[.int .i64 p.1, .string p.2] ∧ wx.ownsRow w.heap.size 59 2 v ds.length (cellsP ds) ∧ Below w.heap.size w wx)
      case first =>
        go_region
        all_goals
          go_wp2_with fail
          go_meet
          exact ⟨rfl, (t, _), (Blk.new _ _ _).drew, HO.out.alloc _, (bel.alloc bel.size _).drew⟩
      case rest =>
      obtain ⟨rfl, p, B, own, bel6⟩ := hcut
      have hg : w.heap.size ≤ wo.heap.size := bel.size
      have hne : some wo.heap.size ≠ v.ownBlock := fun q => by have := (hltO _ q.symm).2; omega
      clear c0 c1 d0 d1 bel HO hltO hn hn1 hz hab
      generalize wo.heap.size = g at *
      have C := fun i => B.cell i
      have h63 : ds.length + 1 ≤ maxLen := by unfold maxLen; omega
      have HO := Lib.hid own
      have HN := Lib.hid hne
      have HB := Lib.hid B
      have hgl := B.lt
      clear own hne B
      go_upto_region 7 with fail
      go_cut [3] (fun s3 wx => wx.ownsRow w.heap.size 59 2 s3 (ds.length + 1) (cellsP ds ++ [.int .i64 p.1, .string p.2]) ∧ Blk wx g 59 #[.int .i64 p.1, .string p.2] ∧ Below w.heap.size w wx)
      case first =>
        go_wp2_with (at_builtin; refine wpList_append_own _ rfl _ _ 57 rfl w.heap.size 59 i0 (.agg #[.int .i64 0, .string ByteArray.empty]) 2 24 Try.underlying57 hi hz0 hz1 hz2 rfl (by decide) v ds.length (cellsP ds) rfl (HO.out.alloc _) ⟨wc.heap.size, 0, none⟩ 1 1 [.int .i64 p.1, .string p.2] rfl rfl (cell_two_new _ _ _ _) (by intro u hu; simp at hu; rcases hu with rfl | rfl <;> rfl) h63 (by omega) (by simp; have := bel6.size; omega) ?_; intro v' w8 hown8 hgrow hnil)
        go_wp2_with fail
        go_meet
        exact ⟨hown8, (hgrow.block g (by simp; omega) HN.out).trans (Blk.alloc HB.out _), (bel6.alloc bel6.size (.cells #[.int .i64 p.1, .string p.2] 59)).grown hgrow (by simp; have := bel6.size; omega) (fun k hk => (HO.out.lt k hk).1)⟩
      case rest =>
      obtain ⟨own8, B8, bel8⟩ := hcut
      clear HO HN HB C
      have hsn := cat_snoc ds p
      have han := allM_snoc ds p
      have hcz := cat_le ds
      have hpz := putP_le p.1 p.2
      have hRef := fun w => ref5_any p.1 p.2 w
      have hRp := fun w => rput_any p.1 p.2 w
      have hRm := fun w => rmay_any p.1 p.2 w
      have hCp := fun w => cput_any p.1 p.2 w
      have hCm := fun w => cmay_any p.1 p.2 w
      have HS := Lib.hid hsn
      have HA := Lib.hid han
      have HO8 := Lib.hid own8
      clear hsn han own8
      have hcz2 : (cat ds).size ≤ 20000 := by omega
      clear hcz
      generalize putP p.1 p.2 = Z at *
      generalize mayP p.1 p.2 = M at *
      generalize cat ds = K at *
      have C8 := fun i => B8.cell i
      go_upto_region 8 with fail
      go_cut [4] (fun s4 wx => s4 = .string (K ++ Z) ∧ wx.ownsRow w.heap.size 59 2 u3 (ds.length + 1) (cellsP ds ++ [.int .i64 p.1, .string p.2]) ∧ Blk wx g 59 #[.int .i64 p.1, .string p.2] ∧ Below w.heap.size w wx)
      case first =>
        go_wp2_with fail
        refine (hRef _).mono ?_
        rintro e w9 ⟨rfl, hb9⟩
        go_wp2_with fail
        refine (hRp _).mono ?_
        rintro e w10 ⟨rfl, hb10⟩
        go_wp2_with fail
        go_meet
        have B9 := B8.below hb9 B8.lt
        have B10 := B9.below hb10 B9.lt
        have bel9 := bel8.trans (hb9.mono bel8.size)
        exact ⟨rfl, (HO8.out.kept (below_grown hb9) (by cases u3.ownBlock <;> simp)).kept (below_grown hb10) (by cases u3.ownBlock <;> simp), B10, bel9.trans (hb10.mono bel9.size)⟩
      case rest =>
      clear C8 B8 bel8 HO8
      obtain ⟨rfl, own8, B8, bel8⟩ := hcut
      have HO8 := Lib.hid own8
      clear own8
      have C8 := fun i => B8.cell i
      go_upto_region 9 with fail
      go_cut [5] (fun s5 wx => s5 = .bool (allM ds && M) ∧ wx.ownsRow w.heap.size 59 2 u3 (ds.length + 1) (cellsP ds ++ [.int .i64 p.1, .string p.2]) ∧ Blk wx g 59 #[.int .i64 p.1, .string p.2] ∧ Below w.heap.size w wx)
      case first =>
        cases ham : allM ds with
        | false =>
          go_wp2_with fail
          go_meet
          exact ⟨by rw [ham]; rfl, HO8.out, B8, bel8⟩
        | true =>
          go_wp2_with fail
          refine (hRef _).mono ?_
          rintro e w9 ⟨rfl, hb9⟩
          go_wp2_with fail
          refine (hRm _).mono ?_
          rintro e w10 ⟨rfl, hb10⟩
          go_wp2_with fail
          go_meet
          have B9 := B8.below hb9 B8.lt
          have B10 := B9.below hb10 B9.lt
          have bel9 := bel8.trans (hb9.mono bel8.size)
          exact ⟨by rw [ham]; simp, (HO8.out.kept (below_grown hb9) (by cases u3.ownBlock <;> simp)).kept (below_grown hb10) (by cases u3.ownBlock <;> simp), B10, bel9.trans (hb10.mono bel9.size)⟩
      case rest =>
      clear C8 B8 bel8 HO8
      obtain ⟨rfl, own8, B8, bel8⟩ := hcut
      have HO8 := Lib.hid own8
      clear own8
      have k0 := cell_regrown (B8.cell 0)
      have k1 := cell_regrown (B8.cell 1)
      have hlen1 : (ds ++ [p]).length = ds.length + 1 := by simp
      have HL := Lib.hid hlen1
      clear hlen1
      go_upto_region 10 with fail
      go_cut [70] (fun s70 wx => s70 = .bool false ∧ wx.ownsRow w.heap.size 59 2 u3 (ds.length + 1) (cellsP ds ++ [.int .i64 p.1, .string p.2]) ∧ Below w.heap.size w wx)
      case first =>
        refine wp_region_quiet_below (by kernel_rfl) (by kernel_rfl) ?_
        repeat (any_goals (first | go_big_quiet_step ((first | (go_at_call 29; exact Calls.regrown_of (hCm _)) | (go_at_call 30; exact Calls.regrown_of (hCp _)) | (go_at_call 28; exact Calls.regrown_of (hRef _)) | (go_at_call 16; exact Calls.regrown_of (hRm _)) | (go_at_call 17; exact Calls.regrown_of (hRp _)))) | quiet_step ((first | (go_at_call 29; exact Calls.regrown_of (hCm _)) | (go_at_call 30; exact Calls.regrown_of (hCp _)) | (go_at_call 28; exact Calls.regrown_of (hRef _)) | (go_at_call 16; exact Calls.regrown_of (hRm _)) | (go_at_call 17; exact Calls.regrown_of (hRp _))))))
        refine wpQuiet_nil ?_
        intro _ hw'
        obtain ⟨⟨dq, osq⟩, hw''⟩ := hw'
        subst hw''
        go_wp2
        go_meet
        exact ⟨rfl, HO8.out.kept (below_grown (below_regrown _ dq osq)) (by cases u3.ownBlock <;> simp), bel8.trans ((below_regrown _ dq osq).mono bel8.size)⟩
      case rest =>
      clear k0 k1 B8 bel8 HO8
      obtain ⟨rfl, own8, bel8⟩ := hcut
      have own9 : wc.ownsRow w.heap.size 59 2 u3 (ds ++ [p]).length (cellsP (ds ++ [p])) := by rw [HL.out, cellsP_snoc]; exact own8
      have HO9 := Lib.hid own9
      clear own8 own9
      go_wp2_with fail
      go_roundw
      case rel => exact ⟨ds ++ [p], _, by rw [HL.out]; omega, by rw [HL.out]; omega, by rw [HL.out]; go_num, by rw [HS.out], by rw [HA.out], rfl, HO9.out, bel8⟩
      case measure => simp [intOf]; omega
    | false =>
      clear hb
      have hP := cputAll_own w.heap.size v ds wc hd16 HO.out
      have hAl := fun w => call_list (goods ds) w (by have := goods_le ds; omega) (goods_may ds)
      simp only [cat_goods] at hAl
      have own := HO.out
      obtain ⟨ao, ca, rfl, f1, f2, f3⟩ := own_form own
      have HF := Lib.hid f3
      have hga := goods_all (l := ds)
      obtain ⟨bm, hbm⟩ : ∃ b, allM ds = b := ⟨_, rfl⟩
      rw [hbm] at hga ⊢
      clear own HO f3 hbm HR HZ
      generalize cat ds = K at *
      cases bm with
      | false =>
        clear hga
        generalize goods ds = gs at *
        go_wp2_with fail
        refine hP.mono ?_
        rintro e w1 ⟨rfl, hb1⟩
        go_wp2_with fail
        refine (hAl _).mono ?_
        rintro e w2 ⟨m, rfl, ownm, hb2⟩
        obtain ⟨am, cm, rfl, m1, m2, m3⟩ := own_form ownm
        clear ownm m3
        go_wp2_with (go_at_call 33; refine (awake5_any _).mono ?_; rintro e w3 ⟨rfl, hb3⟩)
        refine wp_loop_rounds 1 ?_
        rw [rounds_succ]
        go_wp2_with fail
        all_goals
          go_ret
          have bel1 := bel.trans (hb1.mono bel.size)
          have bel2 := bel1.trans (hb2.mono bel1.size)
          exact ⟨rfl, bel2.trans (hb3.mono bel2.size)⟩
      | true =>
        rw [hga rfl] at hAl
        clear hga
        go_wp2_with fail
        refine hP.mono ?_
        rintro e w1 ⟨rfl, hb1⟩
        go_wp2_with fail
        refine (hAl _).mono ?_
        rintro e w2 ⟨m, rfl, ownm, hb2⟩
        obtain ⟨am, cm, rfl, m1, m2, m3⟩ := own_form ownm
        have HM := Lib.hid m3
        clear ownm m3
        have bel1 := bel.trans (hb1.mono bel.size)
        have bel2 := bel1.trans (hb2.mono bel1.size)
        go_wp2_with (go_at_call 33; refine (awake5_any _).mono ?_; rintro e w3 ⟨rfl, hb3⟩)
        have bel3 := bel2.trans (hb3.mono bel2.size)
        go_loopw [11] (fun sj wr => ∃ j : Nat, j ≤ ds.length ∧ sj = .int .i64 j ∧ Below w3.heap.size w3 wr) (fun sj _ => ds.length - (intOf sj).toNat)
        case atStart => exact ⟨0, by omega, rfl, Below.refl _ _⟩
        case round =>
          obtain ⟨j, hj, rfl, belr⟩ := hrel
          by_cases hlt : j < ds.length
          · obtain ⟨es, fs, p, rfl, hps⟩ : ∃ (es fs : List (Int × ByteArray)) (p : Int × ByteArray), j = es.length ∧ ds = es ++ p :: fs := by
              refine ⟨ds.take j, ds.drop (j + 1), ds[j], ?_, ?_⟩
              · simp; omega
              · rw [List.getElem_cons_drop, List.take_append_drop]
            obtain ⟨g, rfl, hg, rk⟩ := HF.out (by omega)
            obtain ⟨h, rfl, hh, rm⟩ := HM.out (by omega)
            have belm : Below w2.heap.size w2 wr := hb3.trans (belr.mono hb3.size)
            have bel12 : Below wc.heap.size wc w2 := hb1.trans (hb2.mono hb1.size)
            have belk : Below wc.heap.size wc wr := bel12.trans (belm.mono bel12.size)
            obtain ⟨c0, c1⟩ := (rk.below belk (fun _ => hg)).2 es p fs hps
            obtain ⟨e0, e1⟩ := (rm.below belm (fun _ => hh)).2 es p fs hps
            rw [add_zero'] at c0 c1 e0 e1
            dsimp only at c1 e1
            have k0 := cell_regrown c0
            have k1 := cell_regrown c1
            have k2 := cell_regrown e0
            have k3 := cell_regrown e1
            have hj16 : es.length ≤ 16 := by omega
            clear rk rm hps HF HM c0 c1 e0 e1 bel12 belk belm
            go_upto_region 19 with fail
            go_cut [116] (fun s116 wx => s116 = .bool false ∧ Below w3.heap.size w3 wx)
            case first =>
              refine wp_region_quiet_below (by kernel_rfl) (by kernel_rfl) ?_
              repeat (any_goals (first | go_big_quiet_step (fail) | quiet_step (fail)))
              refine wpQuiet_nil ?_
              intro _ hw'
              obtain ⟨⟨dq, osq⟩, hw''⟩ := hw'
              subst hw''
              go_wp2
              go_meet
              exact ⟨rfl, belr.trans ((below_regrown _ dq osq).mono belr.size)⟩
            case rest =>
            obtain ⟨rfl, belx⟩ := hcut
            clear k0 k1 k2 k3
            go_wp2_with fail
            go_roundw
            case rel => exact ⟨es.length + 1, by omega, by go_num, belx⟩
            case measure => simp [intOf]; omega
          · obtain rfl : j = ds.length := by omega
            generalize ds.length = n at *
            go_wp2_with fail
            go_ret
            exact ⟨rfl, bel3.trans (belr.mono bel3.size)⟩
end Go.Proofs.Ytlpklnjnfeodaaa.par
