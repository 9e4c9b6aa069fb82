/- Layer 18: whatever messages come; the statement walked (gen-dvo.py wrote this). -/
import Derived.Test.YthddacgdmngfhaaDvKA
import Derived.Test.YthddacgdmngfhaaDvKB
import Derived.Test.YthddacgdmngfhaaDvKG
import Derived.Test.YthddacgdmngfhaaDvKP
import Derived.Test.YthddacgdmngfhaaDvN
namespace Go.Proofs.Ythddacgdmngfhaa.del
open Go.Sort (grow)
open Go.ChangeShapes Go.WideShapes Go.ChangeAt Go.RowKit kit
set_option maxRecDepth 1000000
theorem add_blk (a : Addr) (i : Nat) : (a.add i).block = a.block := by unfold Addr.add; split <;> rfl
theorem wp_cond_t {P : Program} {c : Operand} {x y : Code} {Q : Exit → Act → World → Prop} {a : Act} {w : World} (hc : a.eval c = .bool true) (h : x.wp P Q a w) : (Code.cond c x y).wp P Q a w := wp_cond hc (by simpa using h)
theorem wp_cond_f {P : Program} {c : Operand} {x y : Code} {Q : Exit → Act → World → Prop} {a : Act} {w : World} (hc : a.eval c = .bool false) (h : y.wp P Q a w) : (Code.cond c x y).wp P Q a w := wp_cond hc (by simpa using h)
theorem bytes_of (g : Nat) (b : Int) (w : World) (c2 : w.cell? ⟨g, 2, none⟩ = some (.int .i64 b)) : Calls Try.prog 56 #[.pointer (some ⟨g, 0, none⟩)] w fun e w' => e = .returned (.int .i64 b) ∧ w' = w := by
  go_enter Try.func56, Try.ntmps56
  go_wp2
  go_ret
  exact ⟨rfl, rfl⟩
theorem row_at {w : World} {G n cap : Nat} {oa : Option Addr} {L : List Mg} {k : Nat} {y : Mg} (q : Qo w G 5 (.slice oa n cap) n (cellsM L)) (hn : L.length = n) (hy : L[k]? = some y) : ∃ gw wo, oa = some ⟨gw, wo, none⟩ ∧ w.cell? ⟨gw, wo + k * 5 + 4, none⟩ = some (.string y.d) := by
  have hk : k < L.length := (List.getElem?_eq_some_iff.1 hy).1
  obtain ⟨gn, no, cap', e, h1, h2, h3, h4, h5, h6⟩ := q.show_ (by omega)
  simp only [Value.slice.injEq, true_and] at e
  obtain ⟨rfl, rfl⟩ := e
  have K := h6 k (mgc y) (by omega) (Nat.le_refl 5) (cellsM_get hy)
  exact ⟨gn, no, rfl, K.cell 4 (u := .string y.d) rfl⟩
theorem btm_take {L : List Mg} {k : Nat} {y : Mg} (hy : L[k]? = some y) : btm (L.take (k + 1)) = btm (L.take k) + y.d.size := by
  rw [List.take_add_one, hy, btm_append]
  simp [btm]
theorem btm_take_le (L : List Mg) (k : Nat) : btm (L.take k) ≤ btm L := by
  have h := btm_append (L.take k) (L.drop k)
  rw [List.take_append_drop] at h
  omega
set_option maxHeartbeats 8000000 in
theorem plays_walk (many : Int) (oa : Option Addr) (ad : Addr) (len cap : Nat) (av : Nat → Ad) (w : World) (hlc : len ≤ cap) (hcm : cap ≤ maxLen) (hoa : 0 < len → oa = some ad) (hab : 0 < len → ad.block < w.heap.size)
    (hv : ∀ i, i < len → ∀ (j : Nat) u, (adc (av i))[j]? = some u → w.cell? ((ad.add (i * 6)).add j) = some u) (hvs : ∀ i, i < len → (av i).d.size ≤ maxLen) :
    Calls Try.prog 8 #[.int .i64 many, .slice oa len cap] w fun e w' => e = .returned (.bool true) ∧ Below w.heap.size w w' := by
  have hmx := i64_mask many 5 (by omega)
  rw [show ((2 ^ 5 - 1 : Nat) : Int) = 31 from rfl] at hmx
  obtain ⟨b, hb, hb1⟩ : ∃ b : Nat, bits .and .i64 many 31 = b ∧ b ≤ 31 := ⟨(many % (2 ^ 5 : Nat)).toNat, by rw [hmx]; omega, by omega⟩
  clear hmx
  obtain ⟨m, hm⟩ : ∃ m : Nat, min (max 1 b) 16 = m := ⟨_, rfl⟩
  have hm1 : 1 ≤ m ∧ m ≤ 16 := by omega
  unfold maxLen at hcm
  have HV := Lib.hid (And.intro hoa (And.intro hv (And.intro hvs hab)))
  clear hoa hv hvs hab
  go_enter Try.func8, Try.ntmps8
  go_upto_region 1 with fail
  go_cut [5] (fun s5 wx => s5 = .int .i64 m ∧ wx = w)
  case first =>
    by_cases h1 : (1 : Int) ≤ (b : Int)
    · by_cases h2 : (b : Int) ≤ 16
      · go_wp2_with fail
        all_goals
          go_meet
          exact ⟨by first | rfl | (congr 1; omega), rfl⟩
      · go_wp2_with fail
        all_goals
          go_meet
          exact ⟨by first | rfl | (congr 1; omega), rfl⟩
    · go_wp2_with fail
      all_goals
        go_meet
        exact ⟨by first | rfl | (congr 1; omega), rfl⟩
  case rest =>
  obtain ⟨rfl, hwc⟩ := hcut
  obtain rfl : w = wc := hwc.symm
  go_upto_region 2 with fail
  refine begin2 _ w many b m hb hb1 hm rfl rfl rfl _ ?_ _ (by kernel_rfl)
  intro c w2 s6 s7 u23 u24 u25 u26 u27 u28 hB hcs
  simp only [Act.put, List.setIfInBounds_toArray, List.set_cons_zero, List.set_cons_succ, or_self] at hcs
  subst hcs
  obtain ⟨g, qb, sv, nv, Y, rfl, rfl, hY, hY0, L0, bel0⟩ := hB
  have hG2 : w.heap.size ≤ w2.heap.size := bel0.size
  have hrn0 : Rn w.heap.size g qb 0 w w2 := ⟨sv, _, nv, _, _, Y, [], [], by omega, by simp, by simp [btm], fun k z _ => rfl, L0, bel0⟩
  have HR0 := Lib.hid (And.intro hrn0 hG2)
  clear hrn0 L0 bel0 hY hY0
  go_wp2_with fail
  refine (awake18_any _).mono ?_
  rintro e w3 ⟨rfl, hb3⟩
  have hrn3 : Rn w.heap.size g qb 0 w w3 := by
    obtain ⟨sv, rv, nv, wv, ov, Z, W, O, h1, h2, h3, h4, F, bel⟩ := HR0.out.1
    exact ⟨sv, rv, nv, wv, ov, Z, W, O, h1, h2, h3, h4, F.below hb3 (Nat.le_refl _), bel.trans (hb3.mono HR0.out.2)⟩
  have HR3 := Lib.hid hrn3
  clear HR0 hb3 hrn3 hG2
  go_wp2_with fail
  go_loopw [8] (fun s8 wr => ∃ i : Nat, s8 = .int .i64 (i : Nat) ∧ i ≤ len ∧ i ≤ 60 ∧ Rn w.heap.size g qb i w wr) (fun s8 _ => 60 - (intOf s8).toNat)
  case atStart => exact ⟨0, rfl, by omega, by omega, HR3.out⟩
  case round =>
    clear HR3
    obtain ⟨i, rfl, hil, hi6, hRn⟩ := hrel
    by_cases hlt : i < len
    · by_cases h60 : i < 60
      · obtain ⟨sv, rv, nv, wv, ov, Z, W, O, hZ, hlen, hbt, hdr, F, bel⟩ := hRn
        have hoa := HV.out.1 (by omega)
        subst hoa
        obtain ⟨a, hA⟩ : ∃ a, av i = a := ⟨_, rfl⟩
        have KA := HV.out.2.1 i hlt
        have hds := HV.out.2.2.1 i hlt
        have hadb := HV.out.2.2.2 (by omega)
        rw [hA] at KA hds
        obtain ⟨aw, st, ss, lo, pr, d⟩ := a
        have KA' : ∀ (j : Nat) u, (#[.int .i64 aw, .int .i64 st, .int .i64 ss, .bool lo, .int .u32 pr, .string d] : Array Value)[j]? = some u → wr.cell? ((ad.add (i * 6)).add j) = some u := fun j u hu => (bel.cell (p := (ad.add (i * 6)).add j) (by rw [add_blk, add_blk]; omega)).trans (KA j u hu)
        clear KA hA
        go_upto_region 9 with (refine wpList_load_from rfl 89 _ rfl (ad.add (i * 6)) rfl #[.int .i64 aw, .int .i64 st, .int .i64 ss, .bool lo, .int .u32 pr, .string d] _ KA' Try.underlying89 rfl (szA ⟨aw, st, ss, lo, pr, d⟩) ?_)
        clear KA'
        have A5 := Blk.new wr 89 #[.int .i64 aw, .int .i64 st, .int .i64 ss, .bool lo, .int .u32 pr, .string d]
        have al5 := (Below.refl wr.heap.size wr).alloc (Nat.le_refl _) (.cells #[.int .i64 aw, .int .i64 st, .int .i64 ss, .bool lo, .int .u32 pr, .string d] 89)
        have F5 := F.below al5 (Nat.le_refl _)
        have hgr : w.heap.size ≤ wr.heap.size := bel.size
        have bel5 := bel.trans (al5.mono hgr)
        clear F bel al5 hgr
        generalize wr.alloc (.cells #[.int .i64 aw, .int .i64 st, .int .i64 ss, .bool lo, .int .u32 pr, .string d] 89) = w5 at *
        generalize wr.heap.size = ab at *
        have a0 : w5.cell? ⟨ab, 0, none⟩ = some (.int .i64 aw) := A5.cell 0
        obtain ⟨r, hr⟩ : ∃ r : Int, aw.tmod 5 = r := ⟨_, rfl⟩
        go_upto_block 2 with fail
        go_cut [] (fun wx => Rn w.heap.size g qb (i + 1) w wx)
        case first =>
          as_aux_lemma =>
            have HAA := Lib.hid (And.intro F5 (And.intro bel5 A5))
            clear F5 bel5 A5 HV a0
            obtain ⟨b3, hb3⟩ : ∃ b3, (r == 3) = b3 := ⟨_, rfl⟩
            go_upto_if 77 with fail
            try rw [hb3]
            cases b3 with
            | true =>
              refine wp_cond_t (by first | rfl | simp [hb3]) ?_
              cases O with
              | nil =>
                as_aux_lemma =>
                  refine armR_nil _ _ _ _ _ _ _ _ _ _ _ _ _ _ _ _ _ _ _ _ _ _ _ _ _ _ _ _ _ _ _ _ _ _ _ _ _ _ _ _ _ _ _ _ _ _ _ _ _ _ _ _ _ _ _ _ _ _ _ _ _ _ _ _ _ _ _ _ _ _ _ _ _ _ _ _ _ _ _ _ _ _ _ _ _ _ _ _ _ _ _ _ _ _ _ _ _ _ _ _ _ _ _ _ _ _ _ _ _ _ _ _ _ _ _ _ _ _ _ _ _ _ _ _ _ _ _ _ _ _ _ _ _ _ _ _ _ _ _ _ _ _ _ _ _ _ _ _ _ _ _ _ _ _ _ _ _ _ _ _ _ _ _ _ _ _ _ _ _ _ _ _ _ _ _ _ _ (i := i) hZ hdr h60 hlen hbt HAA.out.1 HAA.out.2.1 _ ?_ _ (by kernel_rfl)
                  intro _ _ _ _ _ _ _ _ _ _ _ _ _ _ _ _ _ _ _ _ _ _ _ _ _ _ _ _ _ _ w' hRn
                  have HRn := Lib.hid hRn
                  clear hRn
                  go_wp2_with fail
                  go_meet
                  exact HRn.out
              | cons x r' =>
                as_aux_lemma =>
                  refine armR_cons _ _ _ _ _ _ _ _ _ _ _ _ _ _ _ _ _ _ _ _ _ _ _ _ _ _ _ _ _ _ _ _ _ _ _ _ _ _ _ _ _ _ _ _ _ _ _ _ _ _ _ _ _ _ _ _ _ _ _ _ _ _ _ _ _ _ _ _ _ _ _ _ _ _ _ _ _ _ _ _ _ _ _ _ _ _ _ _ _ _ _ _ _ _ _ _ _ _ _ _ _ _ _ _ _ _ _ _ _ _ _ _ _ _ _ _ _ _ _ _ _ _ _ _ _ _ _ _ _ _ _ _ _ _ _ _ _ _ _ _ _ _ _ _ _ _ _ _ _ _ _ _ _ _ _ _ _ _ _ _ _ _ _ _ _ _ _ _ _ _ _ _ _ _ _ _ _ (i := i) hZ hdr h60 hlen hbt HAA.out.1 HAA.out.2.1 _ ?_ _ (by kernel_rfl)
                  intro _ _ _ _ _ _ _ _ _ _ _ _ _ _ _ _ _ _ _ _ _ _ _ _ _ _ _ _ _ _ w' hRn
                  have HRn := Lib.hid hRn
                  clear hRn
                  go_wp2_with fail
                  go_meet
                  exact HRn.out
            | false =>
              refine wp_cond_f (by first | rfl | simp [hb3]) ?_
              obtain ⟨b4, hb4⟩ : ∃ b4, (r == 4) = b4 := ⟨_, rfl⟩
              go_upto_if 106 with fail
              try rw [hb4]
              cases b4 with
              | true =>
                refine wp_cond_t (by first | rfl | simp [hb4]) ?_
                as_aux_lemma =>
                  refine armG _ _ _ _ _ _ _ _ _ _ _ _ _ _ _ _ _ _ _ _ _ _ _ _ _ _ _ _ _ _ _ _ _ _ _ _ _ _ _ _ _ _ _ _ _ _ _ _ _ _ _ _ _ _ _ _ _ _ _ _ _ _ _ _ _ _ _ _ _ _ _ _ _ _ _ _ _ _ _ _ _ _ _ _ _ _ _ _ _ _ _ _ _ _ _ _ _ _ _ _ _ _ _ _ _ _ _ _ _ _ _ _ _ _ _ _ _ _ _ _ _ _ _ _ _ _ _ _ _ _ _ _ _ _ _ _ _ _ _ _ _ _ _ _ _ _ _ _ _ _ _ _ _ _ _ _ _ _ _ _ _ _ _ _ _ _ _ _ _ _ _ _ _ _ _ _ (i := i) hZ hdr h60 hlen hbt HAA.out.2.2 HAA.out.1 HAA.out.2.1 _ ?_ _ (by kernel_rfl)
                  intro _ _ _ _ _ _ _ _ _ _ _ _ _ _ _ _ _ _ _ _ w' hRn
                  have HRn := Lib.hid hRn
                  clear hRn
                  go_wp2_with fail
                  go_meet
                  exact HRn.out
              | false =>
                refine wp_cond_f (by first | rfl | simp [hb4]) ?_
                as_aux_lemma =>
                  refine armP _ _ _ _ _ _ _ _ _ _ _ _ _ _ _ _ _ _ _ _ _ _ _ _ _ _ _ _ _ _ _ _ _ _ _ _ _ _ _ _ _ _ _ _ _ _ _ _ _ _ _ _ _ _ _ _ _ _ _ _ _ _ _ _ _ _ _ _ _ _ _ _ _ _ _ _ _ _ _ _ _ _ _ _ _ _ _ _ _ _ _ _ _ _ _ _ _ _ _ _ _ _ _ _ _ _ _ _ _ _ _ _ _ _ _ _ _ _ _ _ _ _ _ _ _ _ _ _ _ _ _ _ _ _ _ _ _ _ _ _ _ _ _ _ _ _ _ _ _ _ _ _ _ _ _ _ _ _ _ _ _ _ _ _ _ _ _ _ _ _ _ _ _ _ _ _ (i := i) hZ hdr h60 hlen hbt hds HAA.out.2.2 HAA.out.1 HAA.out.2.1 _ ?_ _ (by kernel_rfl)
                  intro _ _ _ _ _ _ _ _ _ _ _ _ _ _ _ _ _ _ _ _ _ _ _ _ _ _ _ _ _ _ _ _ _ w' hRn
                  have HRn := Lib.hid hRn
                  clear hRn
                  go_wp2_with fail
                  go_meet
                  exact HRn.out
        case rest =>
        clear F5 bel5 A5 a0
        obtain ⟨sv1, rv1, nv1, wv1, ov1, Z1, W1, O1, hZ1, hlen1, hbt1, hdr1, F8, bel8⟩ := hcut
        obtain ⟨on1, cn1, hnv1, _, _⟩ := F8.n.shape
        obtain ⟨ow1, cw1, hwv1, _, _⟩ := F8.v.shape
        obtain ⟨oo1, co1, hov1, _, _⟩ := F8.o.shape
        obtain ⟨os1, cs1, hsv1, _, _⟩ := F8.D.s.shape
        obtain ⟨or1, cr1, hrv1, _, _⟩ := F8.D.r.shape
        rw [List.length_map] at hnv1
        subst hnv1
        subst hwv1
        subst hov1
        subst hsv1
        subst hrv1
        generalize wc = w8 at *
        as_aux_lemma =>
          have q0 : w8.cell? ⟨qb, 0, none⟩ = some (.slice on1 Z1.length cn1) := F8.q.cell 0
          have q1 : w8.cell? ⟨qb, 1, none⟩ = some (.slice ow1 W1.length cw1) := F8.q.cell 1
          have q2 : w8.cell? ⟨qb, 2, none⟩ = some (.slice oo1 O1.length co1) := F8.q.cell 2
          have g0 : w8.cell? ⟨g, 0, none⟩ = some (.slice os1 Z1.length cs1) := F8.D.B.cell 0
          have g1 : w8.cell? ⟨g, 1, none⟩ = some (.slice or1 O1.length cr1) := F8.D.B.cell 1
          have g2 : w8.cell? ⟨g, 2, none⟩ = some (.int .i64 ((btm W1 + btm O1 : Nat) : Int)) := F8.D.B.cell 2
          have HFF := Lib.hid (And.intro F8 (And.intro bel8 hdr1))
          clear F8 bel8 hdr1
          go_wp2_with fail
          go_loopw [16, 17] (fun s16 s17 wr => ∃ k : Nat, s16 = .int .i64 ((btm (W1.take k) : Nat) : Int) ∧ s17 = .int .i64 (k : Nat) ∧ k ≤ W1.length ∧ wr = w8) (fun _ s17 _ => W1.length - (intOf s17).toNat)
          case atStart => exact ⟨0, rfl, rfl, Nat.zero_le _, rfl⟩
          case round =>
            obtain ⟨k, rfl, rfl, hk, hwr⟩ := hrel
            obtain rfl : w8 = wr := hwr.symm
            by_cases hkl : k < W1.length
            · obtain ⟨y, hy⟩ : ∃ y, W1[k]? = some y := ⟨_, List.getElem?_eq_getElem hkl⟩
              obtain ⟨gw, wo, how, yc⟩ := row_at HFF.out.1.v rfl hy
              subst how
              have hbk := btm_take hy
              have hble := btm_take_le W1 (k + 1)
              have hki : (k : Int) < (W1.length : Int) := by omega
              have hk0 : (0 : Int) ≤ (k : Int) := by omega
              have hwr1 : IntKind.i64.wrap ((btm (W1.take k) : Nat) + (y.d.size : Int)) = ((btm (W1.take (k + 1)) : Nat) : Int) := by rw [IntWalk.i64_in _ (by omega)]; omega
              have hwr2 : ((btm (W1.take k) : Nat) : Int) + (y.d.size : Int) = ((btm (W1.take (k + 1)) : Nat) : Int) := by omega
              have HW1 := Lib.hid (And.intro hwr1 hwr2)
              have hbs : btm (W1.take k) ≤ 1000 ∧ y.d.size ≤ 1000 := by omega
              clear hy hbk hwr1 hwr2 hble
              go_wp2_with fail
              go_roundw
              case rel => exact ⟨k + 1, by first | (rw [HW1.out.2]) | (rw [HW1.out.1]), by go_num, by omega, trivial⟩
              case measure => simp [intOf]; omega
            · obtain rfl : k = W1.length := by omega
              rw [List.take_length]
              go_wp2_with fail
              go_loopw [16, 18] (fun s16 s18 wr => ∃ k : Nat, s16 = .int .i64 ((btm W1 + btm (O1.take k) : Nat) : Int) ∧ s18 = .int .i64 (k : Nat) ∧ k ≤ O1.length ∧ wr = w8) (fun _ s18 _ => O1.length - (intOf s18).toNat)
              case atStart => exact ⟨0, rfl, rfl, Nat.zero_le _, rfl⟩
              case round =>
                obtain ⟨k, rfl, rfl, hk, hwr⟩ := hrel
                obtain rfl : w8 = wr := hwr.symm
                by_cases hkl : k < O1.length
                · obtain ⟨y, hy⟩ : ∃ y, O1[k]? = some y := ⟨_, List.getElem?_eq_getElem hkl⟩
                  obtain ⟨gw, wo, how, yc⟩ := row_at HFF.out.1.o rfl hy
                  subst how
                  have hbk := btm_take hy
                  have hble := btm_take_le O1 (k + 1)
                  have hki : (k : Int) < (O1.length : Int) := by omega
                  have hk0 : (0 : Int) ≤ (k : Int) := by omega
                  obtain ⟨T, hT⟩ : ∃ T, btm W1 + btm (O1.take k) = T := ⟨_, rfl⟩
                  have hT2 : T + y.d.size = btm W1 + btm (O1.take (k + 1)) := by omega
                  have hwr2 : (T : Int) + (y.d.size : Int) = ((btm W1 + btm (O1.take (k + 1)) : Nat) : Int) := by omega
                  have HW1 := Lib.hid hwr2
                  have hbs : T ≤ 1000 ∧ y.d.size ≤ 1000 := by omega
                  rw [hT]
                  clear hy hbk hble hwr2 hT2 hT
                  go_wp2_with fail
                  go_roundw
                  case rel => exact ⟨k + 1, by rw [HW1.out], by go_num, by omega, trivial⟩
                  case measure => simp [intOf]; omega
                · obtain rfl : k = O1.length := by omega
                  rw [List.take_length]
                  generalize hT : btm W1 + btm O1 = T at *
                  go_upto_region 35 with fail
                  go_quiet ((first | (go_at_call 55; exact Calls.quiet_of_same (ready_of g or1 O1.length cr1 _ g1)) | (go_at_call 56; exact Calls.quiet_of_same (bytes_of g (T : Int) _ g2)) | (go_at_call 57; exact Calls.quiet_of_same (many_of g os1 Z1.length cs1 _ g0))))
                  have hrn9 : Rn w.heap.size g qb (i + 1) w (w8.drewN nq) := ⟨_, _, _, _, _, Z1, W1, O1, hZ1, hlen1, by omega, HFF.out.2.2, by have := HFF.out.1.same (w' := w8.drewN nq) rfl; rw [hT]; exact this, by have h := HFF.out.2.1; exact ⟨h.os, h.tape, h.output, h.size, h.block⟩⟩
                  have HX := Lib.hid hrn9
                  clear hrn9 HFF q0 q1 q2 g0 g1 g2
                  generalize w8.drewN nq = w9 at *
                  go_wp2_with fail
                  go_roundw
                  case rel => exact ⟨i + 1, by go_num, by omega, by omega, HX.out⟩
                  case measure => simp [intOf]; omega
      · obtain rfl : i = 60 := by omega
        obtain ⟨_, _, _, _, _, _, _, _, _, _, _, _, _, bel⟩ := hRn
        go_wp2_with fail
        go_ret
        exact ⟨rfl, bel⟩
    · obtain rfl : i = len := by omega
      obtain ⟨_, _, _, _, _, _, _, _, _, _, _, _, _, bel⟩ := hRn
      go_wp2_with fail
      go_ret
      exact ⟨rfl, bel⟩
end Go.Proofs.Ythddacgdmngfhaa.del
