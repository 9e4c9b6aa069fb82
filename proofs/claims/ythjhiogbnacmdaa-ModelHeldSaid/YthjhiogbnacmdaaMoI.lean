/- Layer 37: is what was read in order right, as the program says (gen-moi.py wrote this). -/
import Derived.Test.YthjhiogbnacmdaaMoH
namespace Go.Proofs.Ythjhiogbnacmdaa.mo
open Go.Sort (grow)
open Go.ChangeShapes Go.WideShapes Go.ChangeAt Go.RowKit kit cut
set_option maxRecDepth 100000

theorem uMap : Try.prog.underlying 95 = some (.map 3 35) := by kernel_rfl
theorem zSl (u : World) : (zeroValue 35).run Try.prog u = .ok (.slice none 0 0) u := by kernel_rfl
theorem eq_sd (x y : Ms) (W : World) : (binOp .neq 97 (.agg (sd x)) (.agg (sd y))).run Try.prog W = .ok (.bool (!(decide (x.s = y.s) && decide (x.d = y.d)))) W := by
  have ht : x.d.toList = y.d.toList ↔ x.d = y.d := by have h := str_same x.d y.d; by_cases e : x.d = y.d <;> simp_all
  unfold sd
  go_simp
  by_cases h1 : x.s = y.s <;> by_cases h3 : x.d = y.d <;> simp [h1, h3, ht]
/-- What is answered. -/
def OrdQ (A R : List Ms) (e : Ending) : Prop := ∃ b, e = .returned (.bool b) ∧ (b = true ↔ Ord A R)
theorem OrdQ.no {A R : List Ms} {e : Ending} (he : e = .returned (.bool false)) (h : ¬ Ord A R) : OrdQ A R e := ⟨false, he, fun q => absurd q Bool.false_ne_true, fun q => absurd q h⟩
theorem drop_head {α : Type} {L : List α} {k : Nat} {y : α} {r : List α} (h : L.drop k = y :: r) : L[k]? = some y ∧ L.drop (k + 1) = r := by
  constructor
  · have : (L.drop k)[0]? = some y := by rw [h]; rfl
    rw [List.getElem?_drop] at this
    exact this
  · rw [← List.drop_drop, h]
    rfl
theorem take_fil {L : List Ms} {i : Nat} {x : Ms} (hx : L[i]? = some x) (h : x.lo = false) : (fun s => fil s (L.take (i + 1))) = fun y => if y = x.s then fil x.s (L.take i) ++ [x] else fil y (L.take i) := by
  funext s
  rw [take_snoc hx, fil_snoc, h]
  by_cases e : s = x.s
  · subst e; simp
  · have : ¬ x.s = s := fun q => e q.symm
    simp [e, this]
set_option maxHeartbeats 8000000 in
theorem ordered_any {w : World} {bA bR : Nat} {vA vR : Value} {A R : List Ms} (qA : QM w bA vA A) (qR : QM w bR vR R) (hA : A.length ≤ 20) (hR : R.length ≤ 20) (lA : ∀ x ∈ A, x.lo = false) (lR : ∀ x ∈ R, x.lo = false) :
    Calls Try.prog 28 #[vA, vR] w fun e w' => OrdQ A R e ∧ Below w.heap.size w w' := by
  have W0 := Wo.new w
  obtain ⟨B0, hB0⟩ : ∃ B0, w.heap.size = B0 := ⟨_, rfl⟩
  have HA := Lib.hid (show ∀ w', Below B0 w w' → QM w' bA vA A from fun w' h => qA.below h (by omega))
  have HR := Lib.hid (show ∀ w', Below B0 w w' → QM w' bR vR R from fun w' h => qR.below h (by omega))
  obtain ⟨oA, cA, hva, -, -⟩ := qA.shape
  obtain ⟨oR, cR, hvr, -, -⟩ := qR.shape
  obtain ⟨nA, hnA⟩ : ∃ n, A.length = n := ⟨_, rfl⟩
  obtain ⟨nR, hnR⟩ : ∃ n, R.length = n := ⟨_, rfl⟩
  rw [hnA] at hva
  rw [hnR] at hvr
  subst hva hvr
  rw [hB0] at W0 ⊢
  have HB0 := Lib.hid hB0
  have HNA := Lib.hid hnA
  have HNR := Lib.hid hnR
  have HLA := Lib.hid lA
  have HLR := Lib.hid lR
  have hA20 : nA ≤ 20 := by omega
  have hR20 : nR ≤ 20 := by omega
  have hmk : ∀ w, (Instr.makeMap 95 none).run Try.prog w = .ok (.map (some w.heap.size)) (w.alloc (.map #[] 0)) := fun w => rfl
  clear qA qR hA hR hnA hnR lA lR
  go_enter Try.func28, Try.ntmps28
  go_upto_region 2 with fail
  try rw [hB0]
  obtain ⟨w1, hw1⟩ : ∃ w1, w.alloc (.map #[] 0) = w1 := ⟨_, rfl⟩
  rw [hw1] at W0
  try rw [hw1]
  clear hw1 hmk hB0
  go_upto_block 0 with fail
  go_cut [] (fun wx => ∃ f, Wo B0 w wx f (fun s => fil s A))
  case first =>
    go_wp2_with fail
    go_loopw [14] (fun s14 wr => ∃ i : Nat, s14 = .int .i64 (i : Nat) ∧ i ≤ nA ∧ ∃ f, Wo B0 w wr f (fun s => fil s (A.take i))) (fun s14 _ => nA - (intOf s14).toNat)
    case atStart => exact ⟨0, rfl, Nat.zero_le _, _, by rw [List.take_zero]; exact W0⟩
    case round =>
      rename World => wr
      clear W0
      obtain ⟨i, rfl, hi, f, wo⟩ := hrel
      by_cases hlt : i < nA
      · obtain ⟨x, hx⟩ : ∃ x, A[i]? = some x := ⟨_, List.getElem?_eq_getElem (by rw [HNA.out]; exact hlt)⟩
        obtain ⟨hh, off, hoa, -, -, -, -, CX⟩ := msg_at (HA.out _ wo.bel) hx
        subst hoa
        have hi0 : (0 : Int) ≤ (i : Int) := by omega
        have hi1 : (i : Int) < (nA : Int) := by omega
        have HX := Lib.hid hx
        have szm := szMe x
        unfold me at szm CX
        clear hx

        go_upto_region 5 with (refine wpList_load_at rfl 71 _ rfl hh (off + i * 5) rfl #[.int .i64 x.s, .int .i64 0, .bool x.lo, .int .u32 0, .string x.d] _ CX Try.underlying71 rfl szm ?_)
        have P2 := Blk.new wr 71 #[.int .i64 x.s, .int .i64 0, .bool x.lo, .int .u32 0, .string x.d]
        have al2 := (Below.refl wr.heap.size wr).alloc (Nat.le_refl _) (.cells #[.int .i64 x.s, .int .i64 0, .bool x.lo, .int .u32 0, .string x.d] 71)
        have wo2 := wo.below al2 (Nat.le_refl _)
        have hfb : ∀ b, blkOf (f x.s) = some b → b < wr.heap.size := fun b hb => ((wo.rows x.s).lt hb).2
        have hml := wo.M.lt
        obtain ⟨w2, hw2⟩ : ∃ w2, wr.alloc (.cells #[.int .i64 x.s, .int .i64 0, .bool x.lo, .int .u32 0, .string x.d] 71) = w2 := ⟨_, rfl⟩
        rw [hw2] at P2 al2 wo2
        try rw [hw2]
        clear hw2 wo CX
        obtain ⟨pb, hpb⟩ : ∃ pb, wr.heap.size = pb := ⟨_, rfl⟩
        rw [hpb] at P2 hml hfb
        try rw [hpb]
        clear hpb al2

        have woD := wo2.drew
        have CD : Cel w2.drew pb 0 #[.int .i64 x.s, .int .i64 0, .bool x.lo, .int .u32 0, .string x.d] := (Cel.of_blk P2).drew
        clear wo2 P2
        refine wp_region_noPanic ?_
        refine begin_C (fun v => Cel v pb 0 #[.int .i64 x.s, .int .i64 0, .bool x.lo, .int .u32 0, .string x.d] ∧ WM v B0 f (.slice none 0 0)) 10 (by kernel_rfl) ?_
        obtain ⟨w6, hw6⟩ : ∃ w6, w2.drew = w6 := ⟨_, rfl⟩
        rw [hw6] at woD CD
        rw [hw6]
        clear hw6
        have HS : ((fun v => Cel v pb 0 #[.int .i64 x.s, .int .i64 0, .bool x.lo, .int .u32 0, .string x.d] ∧ WM v B0 f (.slice none 0 0)) : World → Prop) w6 := ⟨CD, woD.M⟩
        obtain ⟨of, cf, hfs, _, _⟩ := (woD.rows x.s).shape
        obtain ⟨v7, w7, hr7, hsz7, hm7, hq7, ho7, hv7, hb7, hfr7⟩ := woD.app x.s x (by have := List.length_filter_le (fun y => !y.lo && decide (y.s = x.s)) (A.take i); unfold fil; rw [List.length_take] at this; omega)
        obtain ⟨w8, hr8, wo8, -, -⟩ := woD.put hsz7 hm7 hq7 ho7 hv7 hb7
        have C7 : Cel w7 pb 0 #[.int .i64 x.s, .int .i64 0, .bool x.lo, .int .u32 0, .string x.d] := CD.block (hfr7 pb CD.1 (fun e => absurd (hfb pb e) (Nat.lt_irrefl _))) (Nat.lt_of_lt_of_le CD.1 hsz7)
        unfold me at hr7
        have al6 : Cel (w6.alloc (.cells #[.int .i64 x.s, .int .i64 0, .bool x.lo, .int .u32 0, .string x.d] 71)) pb 0 #[.int .i64 x.s, .int .i64 0, .bool x.lo, .int .u32 0, .string x.d] := CD.alloc _
        have am6 : WM (w6.alloc (.cells #[.int .i64 x.s, .int .i64 0, .bool x.lo, .int .u32 0, .string x.d] 71)) B0 f (.slice none 0 0) := woD.M.below ((Below.refl w6.heap.size w6).alloc (Nat.le_refl _) _) woD.M.lt
        rw [hfs] at hr7
        refine abs_C _ (fun ac hac => ?_)
        have hsz : ac.tmps.size = 57 := by rw [hac]; rfl
        have ea : ac.eval (.tmp 5) = .map (some B0) := by rw [hac]; rfl
        have eb : ac.eval (.tmp 7) = .pointer (some ⟨pb, 0, none⟩) := by rw [hac]; rfl
        have HB := Lib.hid hac
        clear hac
        have EV := And.intro @Act.eval_put_ne (And.intro @Act.eval_put_same (And.intro @Act.size_put (And.intro hsz (And.intro ea eb))))
        refine take_Y (i := 0) (u := .map (some B0)) rfl (by kernel_rfl) (by kernel_rfl) (by kernel_rfl) (by decide) rfl rfl (fun _ _ _ h => h) HS (fun v => run_move rfl (by simp [EV]) v) ?_
        refine take_Y (i := 1) (u := .pointer (some ⟨pb, 0, none⟩)) rfl (by kernel_rfl) (by kernel_rfl) (by kernel_rfl) (by decide) rfl rfl (fun _ _ _ h => h) HS (fun v => run_field (s := .pointer (some ⟨pb, 0, none⟩)) rfl (by simp [EV]) (by kernel_rfl)) ?_
        refine take_C (i := 2) [] (u := .int .i64 x.s) rfl (by kernel_rfl) (by kernel_rfl) (by kernel_rfl) (by kernel_rfl) (by kernel_rfl) (by decide) rfl rfl (fun _ _ _ h => h) HS (fun v hv => run_load1 (s := .pointer (some ⟨pb, 0, none⟩)) rfl (by simp [EV]) (by have c : v.cell? ⟨pb, 0, none⟩ = some (.int .i64 x.s) := hv.1.cell0 0 rfl; go_simp)) ?_
        refine take_Y (i := 3) (u := .map (some B0)) rfl (by kernel_rfl) (by kernel_rfl) (by kernel_rfl) (by decide) rfl rfl (fun _ _ _ h => h) HS (fun v => run_move rfl (by simp [EV]) v) ?_
        refine take_Y (i := 4) (u := .pointer (some ⟨pb, 0, none⟩)) rfl (by kernel_rfl) (by kernel_rfl) (by kernel_rfl) (by decide) rfl rfl (fun _ _ _ h => h) HS (fun v => run_field (s := .pointer (some ⟨pb, 0, none⟩)) rfl (by simp [EV]) (by kernel_rfl)) ?_
        refine take_C (i := 5) [6, 9] (u := .int .i64 x.s) rfl (by kernel_rfl) (by kernel_rfl) (by kernel_rfl) (by kernel_rfl) (by kernel_rfl) (by decide) rfl rfl (fun _ _ _ h => h) HS (fun v hv => run_load1 (s := .pointer (some ⟨pb, 0, none⟩)) rfl (by simp [EV]) (by have c : v.cell? ⟨pb, 0, none⟩ = some (.int .i64 x.s) := hv.1.cell0 0 rfl; go_simp)) ?_
        refine take_C (i := 6) [9] (u := f x.s) rfl (by kernel_rfl) (by kernel_rfl) (by kernel_rfl) (by kernel_rfl) (by kernel_rfl) (by decide) rfl rfl (fun _ _ _ h => h) HS (fun v hv => run_lookup rfl (by simp [EV]) (by simp [EV]) (hv.2.look (E := 35) uMap (by kernel_rfl) zSl x.s)) ?_
        refine take_C (i := 7) [8, 9] (u := .agg #[.int .i64 x.s, .int .i64 0, .bool x.lo, .int .u32 0, .string x.d]) rfl (by kernel_rfl) (by kernel_rfl) (by kernel_rfl) (by kernel_rfl) (by kernel_rfl) (by decide) rfl rfl (fun _ _ _ h => h) HS (fun v hv => run_load_at rfl (h := pb) (off := 0) (by simp [EV]) _ Try.underlying71 rfl szm hv.1) ?_
        refine val_C (i := 8) (u := .slice (some ⟨w6.heap.size, 0, none⟩) 1 1) (w' := w6.alloc (.cells #[.int .i64 x.s, .int .i64 0, .bool x.lo, .int .u32 0, .string x.d] 71)) (by kernel_rfl) rfl rfl rfl (fun _ => ⟨al6, am6⟩) (run_build1 (u := .agg #[.int .i64 x.s, .int .i64 0, .bool x.lo, .int .u32 0, .string x.d]) rfl (by simp [EV]) (by kernel_rfl)) ?_
        refine app_C (i := 9) (by kernel_rfl) rfl rfl rfl rfl (by simp [EV, hfs]) (by simp [EV]) hr7 (fun _ => ⟨C7, hm7⟩) ?_
        refine unit_C (i := 10) (w' := w8) (by kernel_rfl) rfl rfl rfl (fun h => absurd rfl h) (run_upd rfl (by simp [EV]) (by simp [EV]) (by simp [EV]) hr8) ?_
        refine done_C (by kernel_rfl) ?_ _
        refine NoPanic.normal ?_
        rw [HB.out]
        simp only [Act.put, List.setIfInBounds_toArray, List.set_cons_zero, List.set_cons_succ]
        have HW := Lib.hid (show ∃ f, Wo B0 w w8 f (fun s => fil s (A.take (i + 1))) from ⟨_, by rw [take_fil HX.out (HLA.out x (List.mem_of_getElem? HX.out))]; exact wo8⟩)
        obtain ⟨o7, c7, hv7e, _, _⟩ := hq7.shape
        rw [hfs]
        clear HB HS EV ea eb hsz hr7 hr8 woD CD wo8 C7 al6 am6 hsz7 hm7 hq7 ho7 hv7 hb7 hfr7 hfs
        subst hv7e
        go_wp2_with fail
        go_roundw
        case rel => exact ⟨i + 1, by go_num, by omega, HW.out⟩
        case measure => simp [intOf]; omega
      · obtain rfl : i = nA := by omega
        have hta : A.take i = A := by rw [← HNA.out]; exact List.take_length
        rw [hta] at wo
        have HW := Lib.hid wo
        clear wo hta
        go_wp2_with fail
        go_meet
        exact ⟨f, HW.out⟩
  case rest =>
  clear W0
  obtain ⟨f, wo⟩ := hcut
  generalize wc = w3 at *
  have e0 : (fun s => (fil s A).drop (fil s (R.take 0)).length) = fun s => fil s A := by
    funext s
    rw [List.take_zero]
    exact List.drop_zero
  have wo0 : Wo B0 w w3 f (fun s => (fil s A).drop (fil s (R.take 0)).length) := by rw [e0]; exact wo
  clear wo e0
  go_upto_block 2 with fail
  go_wp2_with fail
  go_loopw [31] (fun s31 wr => ∃ i : Nat, s31 = .int .i64 (i : Nat) ∧ i ≤ nR ∧ (∀ s, OrdS s A (R.take i)) ∧ ∃ f, Wo B0 w wr f (fun s => (fil s A).drop (fil s (R.take i)).length)) (fun s31 _ => nR - (intOf s31).toNat)
  case atStart => exact ⟨0, rfl, Nat.zero_le _, (by rw [List.take_zero]; exact fun s => ord_nil s A), f, wo0⟩
  case round =>
    rename World => wr
    clear wo0
    obtain ⟨i, rfl, hi, ho, f, wo⟩ := hrel
    by_cases hlt : i < nR
    · obtain ⟨x, hx⟩ : ∃ x, R[i]? = some x := ⟨_, List.getElem?_eq_getElem (by rw [HNR.out]; exact hlt)⟩
      obtain ⟨hh, off, hoa, -, -, -, -, CX⟩ := msg_at (HR.out _ wo.bel) hx
      subst hoa
      have hi0 : (0 : Int) ≤ (i : Int) := by omega
      have hi1 : (i : Int) < (nR : Int) := by omega
      have HX := Lib.hid hx
      have szm := szMe x
      unfold me at szm CX
      clear hx

      have HO := Lib.hid ho
      clear ho
      go_upto_region 10 with (refine wpList_load_at rfl 71 _ rfl hh (off + i * 5) rfl #[.int .i64 x.s, .int .i64 0, .bool x.lo, .int .u32 0, .string x.d] _ CX Try.underlying71 rfl szm ?_)
      have P2 := Blk.new wr 71 #[.int .i64 x.s, .int .i64 0, .bool x.lo, .int .u32 0, .string x.d]
      have al2 := (Below.refl wr.heap.size wr).alloc (Nat.le_refl _) (.cells #[.int .i64 x.s, .int .i64 0, .bool x.lo, .int .u32 0, .string x.d] 71)
      have wo2 := wo.below al2 (Nat.le_refl _)
      have hml := wo.M.lt
      obtain ⟨w2, hw2⟩ : ∃ w2, wr.alloc (.cells #[.int .i64 x.s, .int .i64 0, .bool x.lo, .int .u32 0, .string x.d] 71) = w2 := ⟨_, rfl⟩
      rw [hw2] at P2 al2 wo2
      try rw [hw2]
      clear hw2 wo CX
      obtain ⟨pb, hpb⟩ : ∃ pb, wr.heap.size = pb := ⟨_, rfl⟩
      rw [hpb] at P2 hml
      try rw [hpb]
      clear hpb al2

      have hxl : x.lo = false := HLR.out x (List.mem_of_getElem? HX.out)
      have HMX := Lib.hid (show (!x.lo && decide (x.s = x.s)) = true by rw [hxl]; simp)
      have HXL := Lib.hid hxl
      obtain ⟨k, hk⟩ : ∃ k, (fil x.s (R.take i)).length = k := ⟨_, rfl⟩
      obtain ⟨L, hL⟩ : ∃ L, (fil x.s A).drop k = L := ⟨_, rfl⟩
      have hq : QM w2 (B0 + 1) (f x.s) L := by have this : QM w2 (B0 + 1) (f x.s) ((fil x.s A).drop (fil x.s (R.take i)).length) := wo2.rows x.s; rw [hk, hL] at this; exact this
      obtain ⟨of, cf, hfs, _, _⟩ := hq.shape
      have hlk := wo2.M.look (P := Try.prog) (E := 35) uMap (by kernel_rfl) zSl x.s
      rw [hfs] at hlk hq
      have hml2 : L.length ≤ 20 := by rw [← hL, List.length_drop]; have := List.length_filter_le (fun y => !y.lo && decide (y.s = x.s)) A; rw [HNA.out] at this; unfold fil; omega
      obtain ⟨m0, hm0⟩ : ∃ m0, L.length = m0 := ⟨_, rfl⟩
      have p0 : w2.cell? ⟨pb, 0, none⟩ = some (.int .i64 x.s) := P2.cell 0
      have HK := Lib.hid (And.intro hk hL)
      have HM0 := Lib.hid hm0
      rw [hm0] at hlk hml2
      have HFS := Lib.hid hfs
      clear hxl hk hL hm0 hfs
      go_upto_region 11 with fail
      clear hlk p0
      have CP := Cel.of_blk P2
      have hsx : ∀ W, Calls Try.prog 42 #[.agg #[.int .i64 x.s, .int .i64 0, .bool x.lo, .int .u32 0, .string x.d]] W fun e w' => e = .returned (.agg #[.int .i64 x.s, .int .u32 0, .string x.d]) ∧ Below W.heap.size W w' := said_any x
      rcases hLc : L with _ | ⟨y, r⟩
      · have HNO := Lib.hid (show ¬ Ord A R from fun h => by
          have h1 := ord_take (h x.s) (i + 1)
          rw [take_snoc HX.out] at h1
          obtain ⟨_, y, hy, _⟩ := (ord_step HMX.out).1 h1
          have h2 := HK.out.2
          rw [hLc, List.drop_eq_nil_iff] at h2
          rw [HK.out.1, List.getElem?_eq_none h2] at hy
          cases hy)
        obtain rfl : m0 = 0 := by rw [← HM0.out, hLc]; rfl
        clear hq hLc
        refine wp_region_quiet_below (by kernel_rfl) (by kernel_rfl) ?_
        repeat (any_goals (first | go_big_quiet_step (fail) | quiet_step (fail)))
        refine wpQuiet_nil ?_
        intro _ hw'
        obtain ⟨⟨dq, osq⟩, hw''⟩ := hw'
        subst hw''
        have wo3 := wo2.below (below_regrown w2 dq osq) (Nat.le_refl _)

        have HB := Lib.hid wo3.bel
        clear wo3 wo2 P2 CP hsx
        generalize grow (redrawn w2 dq) osq = w9 at *
        go_wp2_with fail
        go_ret
        exact ⟨OrdQ.no rfl HNO.out, HB.out⟩
      · have hm0 : m0 = r.length + 1 := by rw [← HM0.out, hLc]; rfl
        have hdh := drop_head (HK.out.2.trans hLc)
        have hym : y ∈ fil x.s A := List.mem_of_getElem? hdh.1
        have hys : y.s = x.s := by
          have := (List.mem_filter.1 hym).2
          simp only [Bool.and_eq_true, decide_eq_true_eq] at this
          exact this.2
        obtain ⟨yh, yoff, hof, -, -, -, -, CY0⟩ := msg_at hq (show L[0]? = some y by rw [hLc]; rfl)
        have CY : Cel w2 yh yoff (me y) := by simpa using CY0
        subst hof
        have szy := szMe y
        unfold me at szy CY
        have hsy : ∀ W, Calls Try.prog 42 #[.agg #[.int .i64 y.s, .int .i64 0, .bool y.lo, .int .u32 0, .string y.d]] W fun e w' => e = .returned (.agg #[.int .i64 y.s, .int .u32 0, .string y.d]) ∧ Below W.heap.size W w' := said_any y
        have hne : ¬ (m0 : Int) = 0 := by omega
        have hnz : (0 : Int) < (m0 : Int) := by omega
        have hne' : ((m0 : Int) == 0) = false := beq_eq_false_iff_ne.2 hne
        have HDH := Lib.hid hdh
        have HYS := Lib.hid hys
        have HLC := Lib.hid hLc
        have HM1 := Lib.hid hm0
        obtain ⟨bb, hbb⟩ : ∃ bb, (decide (y.s = x.s) && decide (y.d = x.d)) = bb := ⟨_, rfl⟩
        have heq : ∀ W, (binOp .neq 97 (.agg #[.int .i64 y.s, .int .u32 0, .string y.d]) (.agg #[.int .i64 x.s, .int .u32 0, .string x.d])).run Try.prog W = .ok (.bool (!bb)) W := fun W => by rw [← hbb]; exact eq_sd y x W
        have HBB := Lib.hid hbb
        have HQ := Lib.hid hq
        clear hdh hym hys CY0 hLc hm0 hbb hq
        cases bb
        · have HNO := Lib.hid (show ¬ Ord A R from fun h => by
            have h1 := ord_take (h x.s) (i + 1)
            rw [take_snoc HX.out] at h1
            obtain ⟨_, z, hz, hzd⟩ := (ord_step HMX.out).1 h1
            rw [HK.out.1, HDH.out.1] at hz
            cases hz
            have := HBB.out
            rw [HYS.out, hzd] at this
            simp at this)
          have heq2 : ∀ W, (binOp .neq 97 (.agg #[.int .i64 y.s, .int .u32 0, .string y.d]) (.agg #[.int .i64 x.s, .int .u32 0, .string x.d])).run Try.prog W = .ok (.bool true) W := heq
          clear heq
          refine wp_region_quiet_below (by kernel_rfl) (by kernel_rfl) ?_
          repeat (any_goals (first | (refine wpQuiet_load_at (by rfl) 71 (.tmp 44) (by rfl) yh (yoff) (by rfl) #[.int .i64 y.s, .int .i64 0, .bool y.lo, .int .u32 0, .string y.d] _ Try.underlying71 (by rfl) szy (fun w' hw' => by obtain ⟨q, rfl⟩ := hw'; exact CY.below (below_regrown w2 _ _) CY.lt) ?_) | (refine wpQuiet_load_at (by rfl) 71 (.tmp 9) (by rfl) pb (0) (by rfl) #[.int .i64 x.s, .int .i64 0, .bool x.lo, .int .u32 0, .string x.d] _ Try.underlying71 (by rfl) szm (fun w' hw' => by obtain ⟨q, rfl⟩ := hw'; exact CP.below (below_regrown w2 _ _) CP.lt) ?_) | go_big_quiet_step ((go_at_call 42; first | (with_reducible exact Calls.regrown_of (hsy _)) | (with_reducible exact Calls.regrown_of (hsx _)) | fail)) | quiet_step ((go_at_call 42; first | (with_reducible exact Calls.regrown_of (hsy _)) | (with_reducible exact Calls.regrown_of (hsx _)) | fail))))
          refine wpQuiet_nil ?_
          intro _ hw'
          obtain ⟨⟨dq, osq⟩, hw''⟩ := hw'
          subst hw''
          have wo3 := wo2.below (below_regrown w2 dq osq) (Nat.le_refl _)

          have HB := Lib.hid wo3.bel
          clear wo3 wo2 P2 CP hsx hsy heq2 CY szy
          generalize grow (redrawn w2 dq) osq = w9 at *
          go_wp2_with fail
          go_ret
          exact ⟨OrdQ.no rfl HNO.out, HB.out⟩
        · have heq2 : ∀ W, (binOp .neq 97 (.agg #[.int .i64 y.s, .int .u32 0, .string y.d]) (.agg #[.int .i64 x.s, .int .u32 0, .string x.d])).run Try.prog W = .ok (.bool false) W := heq
          clear heq
          have hyd : y.d = x.d := by
            have := HBB.out
            simp only [Bool.and_eq_true, decide_eq_true_eq] at this
            exact this.2
          have HO2 := Lib.hid (show ∀ s, OrdS s A (R.take (i + 1)) from fun s => by
            rw [take_snoc HX.out]
            by_cases e : s = x.s
            · subst e
              exact (ord_step HMX.out).2 ⟨HO.out x.s, y, by rw [HK.out.1]; exact HDH.out.1, hyd⟩
            · exact (ord_skip (by simp; intro _ q; exact e q.symm)).2 (HO.out s))
          clear hyd
          refine wp_region_quiet_below (by kernel_rfl) (by kernel_rfl) ?_
          repeat (any_goals (first | (refine wpQuiet_load_at (by rfl) 71 (.tmp 44) (by rfl) yh (yoff) (by rfl) #[.int .i64 y.s, .int .i64 0, .bool y.lo, .int .u32 0, .string y.d] _ Try.underlying71 (by rfl) szy (fun w' hw' => by obtain ⟨q, rfl⟩ := hw'; exact CY.below (below_regrown w2 _ _) CY.lt) ?_) | (refine wpQuiet_load_at (by rfl) 71 (.tmp 9) (by rfl) pb (0) (by rfl) #[.int .i64 x.s, .int .i64 0, .bool x.lo, .int .u32 0, .string x.d] _ Try.underlying71 (by rfl) szm (fun w' hw' => by obtain ⟨q, rfl⟩ := hw'; exact CP.below (below_regrown w2 _ _) CP.lt) ?_) | go_big_quiet_step ((go_at_call 42; first | (with_reducible exact Calls.regrown_of (hsy _)) | (with_reducible exact Calls.regrown_of (hsx _)) | fail)) | quiet_step ((go_at_call 42; first | (with_reducible exact Calls.regrown_of (hsy _)) | (with_reducible exact Calls.regrown_of (hsx _)) | fail))))
          refine wpQuiet_nil ?_
          intro _ hw'
          obtain ⟨⟨dq, osq⟩, hw''⟩ := hw'
          subst hw''
          have wo3 := wo2.below (below_regrown w2 dq osq) (Nat.le_refl _)

          have hb9 := below_regrown w2 dq osq
          have hq9 : QM (grow (redrawn w2 dq) osq) (B0 + 1) (.slice (some ⟨yh, yoff, none⟩) L.length cf) L := HQ.out.below hb9 (Nat.le_refl _)
          have CP9 := CP.below hb9 CP.lt
          clear wo2 P2 CP hsx hsy heq2 CY szy hb9
          generalize grow (redrawn w2 dq) osq = w9 at *
          go_upto_region 13 with fail
          have woD := wo3.drew
          have CD := CP9.drew
          have hqD := hq9.drew
          clear wo3 CP9 hq9
          refine wp_region_noPanic ?_
          refine begin_C (fun v => Cel v pb 0 #[.int .i64 x.s, .int .i64 0, .bool x.lo, .int .u32 0, .string x.d]) 5 (by kernel_rfl) ?_
          obtain ⟨w6, hw6⟩ : ∃ w6, w9.drew = w6 := ⟨_, rfl⟩
          rw [hw6] at woD CD hqD
          rw [hw6]
          clear hw6
          have HS := CD
          obtain ⟨vt, hrt, qt, hbt⟩ := qo_tail (P := Try.prog) (t := 35) (e := 71) Try.underlying35 (by kernel_rfl) hqD (by rw [HM0.out]; omega) .i64
          have qt' : QM w6 (B0 + 1) vt (L.drop 1) := by
            show Qo w6 (B0 + 1) 5 vt (L.drop 1).length (cellsMe (L.drop 1))
            rw [cellsMe_drop, List.length_drop]
            exact qt
          have hvf : ∀ b, blkOf vt = some b → blkOf (f x.s) = some b := fun b hb => by
            rw [HFS.out]
            rcases hbt with q1 | q1
            · rw [← q1]; exact hb
            · rw [q1] at hb; cases hb
          obtain ⟨w8, hr8, wo8, -, -⟩ := woD.put (s := x.s) (Nat.le_refl _) woD.M qt' (fun t _ => woD.rows t) (fun b hb t ht e => woD.apart t x.s ht b e (hvf b hb)) woD.bel
          rw [HM0.out] at hrt
          refine abs_C _ (fun ac hac => ?_)
          have hsz : ac.tmps.size = 57 := by rw [hac]; rfl
          have ea : ac.eval (.tmp 5) = .map (some B0) := by rw [hac]; rfl
          have eb : ac.eval (.tmp 9) = .pointer (some ⟨pb, 0, none⟩) := by rw [hac]; rfl
          have ec : ac.eval (.tmp 10) = .slice (some ⟨yh, yoff, none⟩) m0 cf := by rw [hac]; rfl
          have HB := Lib.hid hac
          clear hac
          have EV := And.intro @Act.eval_put_ne (And.intro @Act.eval_put_same (And.intro @Act.size_put (And.intro hsz (And.intro ea (And.intro eb ec)))))
          refine take_Y (i := 0) (u := .map (some B0)) rfl (by kernel_rfl) (by kernel_rfl) (by kernel_rfl) (by decide) rfl rfl (fun _ _ _ h => h) HS (fun v => run_move rfl (by simp [EV]) v) ?_
          refine take_Y (i := 1) (u := .pointer (some ⟨pb, 0, none⟩)) rfl (by kernel_rfl) (by kernel_rfl) (by kernel_rfl) (by decide) rfl rfl (fun _ _ _ h => h) HS (fun v => run_field (s := .pointer (some ⟨pb, 0, none⟩)) rfl (by simp [EV]) (by kernel_rfl)) ?_
          refine take_C (i := 2) [] (u := .int .i64 x.s) rfl (by kernel_rfl) (by kernel_rfl) (by kernel_rfl) (by kernel_rfl) (by kernel_rfl) (by decide) rfl rfl (fun _ _ _ h => h) HS (fun v hv => run_load1 (s := .pointer (some ⟨pb, 0, none⟩)) rfl (by simp [EV]) (by have c : v.cell? ⟨pb, 0, none⟩ = some (.int .i64 x.s) := hv.cell0 0 rfl; go_simp)) ?_
          refine take_Y (i := 3) (u := .slice (some ⟨yh, yoff, none⟩) m0 cf) rfl (by kernel_rfl) (by kernel_rfl) (by kernel_rfl) (by decide) rfl rfl (fun _ _ _ h => h) HS (fun v => run_move rfl (by simp [EV]) v) ?_
          refine take_Y (i := 4) (u := vt) rfl (by kernel_rfl) (by kernel_rfl) (by kernel_rfl) (by decide) rfl rfl (fun _ _ _ h => h) HS (fun v => run_slice_lo (s := .slice (some ⟨yh, yoff, none⟩) m0 cf) (j := .int .i64 1) rfl (by simp [EV]) (by rfl) (by kernel_rfl) (hrt v)) ?_
          refine unit_C (i := 5) (w' := w8) (by kernel_rfl) rfl rfl rfl (fun h => absurd rfl h) (run_upd rfl (by simp [EV]) (by simp [EV]) (by simp [EV]) hr8) ?_
          refine done_C (by kernel_rfl) ?_ _
          refine NoPanic.normal ?_
          rw [HB.out]
          simp only [Act.put, List.setIfInBounds_toArray, List.set_cons_zero, List.set_cons_succ]
          have hg : (fun s => (fil s A).drop (fil s (R.take (i + 1))).length) = fun y => if y = x.s then L.drop 1 else (fil y A).drop (fil y (R.take i)).length := by
            funext s
            rw [congrFun (take_fil HX.out HXL.out) s]
            by_cases e : s = x.s
            · subst e
              simp only [if_true, List.length_append, List.length_cons, List.length_nil]
              rw [HK.out.1, ← HK.out.2, List.drop_drop]
            · simp only [if_neg e]
          have HW := Lib.hid (show ∃ f, Wo B0 w w8 f (fun s => (fil s A).drop (fil s (R.take (i + 1))).length) from ⟨_, by rw [hg]; exact wo8⟩)
          obtain ⟨o7, c7, hv7e, _, _⟩ := qt'.shape
          clear HB HS EV ea eb ec hsz hr8 woD CD wo8 hqD hrt qt qt' hvf hbt hg
          subst hv7e
          go_wp2_with fail
          go_roundw
          case rel => exact ⟨i + 1, by go_num, by omega, HO2.out, HW.out⟩
          case measure => simp [intOf]; omega
    · obtain rfl : i = nR := by omega
      have hta : R.take i = R := by rw [← HNR.out]; exact List.take_length
      rw [hta] at ho
      have HO := Lib.hid ho
      have HB := Lib.hid wo.bel
      clear wo ho hta
      go_wp2_with fail
      go_ret
      exact ⟨⟨true, rfl, fun _ => HO.out, fun _ => rfl⟩, HB.out⟩
end Go.Proofs.Ythjhiogbnacmdaa.mo
