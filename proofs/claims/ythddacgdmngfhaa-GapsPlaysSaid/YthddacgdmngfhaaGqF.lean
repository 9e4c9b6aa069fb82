/- Layer 16: the document's own words: the parts behind. -/
import Derived.Test.YthddacgdmngfhaaGqE
namespace Go.Proofs.Ythddacgdmngfhaa.gap
open Go.Sort (grow)
open Go.ChangeShapes Go.WideShapes Go.ChangeAt Go.RowKit kit gapm
set_option maxRecDepth 100000
theorem cellsGp_oneI (a b : Int) : ∀ u ∈ (#[.int .i64 a, .int .i64 b] : Array Value).toList, u.oneCell' = true := by
  intro u hu
  simp at hu
  rcases hu with rfl | rfl <;> rfl
theorem cellsGp_take : ∀ (L : List (Int × Int)) (k : Nat), (cellsGp L).take (k * 2) = cellsGp (L.take k)
  | [], k => by simp [cellsGp]
  | p :: r, 0 => by simp [cellsGp]
  | p :: r, k + 1 => by
    rw [show (k + 1) * 2 = k * 2 + 1 + 1 by omega]
    simp only [cellsGp, List.take_succ_cons, cellsGp_take r k]
structure Gq (bx : Nat) (cu : Int) (F : List Nat) (fv dv : Value) (w : World) : Prop where
  B : Blk w bx 72 #[.int .u32 cu, fv, dv]
  f : Qo w 0 1 fv F.length (cellsF F)
  l : ∀ g, blkOf fv = some g → g < bx
theorem Gq.keep {bx k : Nat} {cu : Int} {F : List Nat} {fv dv : Value} {w w' : World} (h : Gq bx cu F fv dv w) (hb : Below k w w') (hk : bx < k) : Gq bx cu F fv dv w' :=
  ⟨h.B.below hb hk, h.f.block hb.size (fun g hg => hb.block g (by have := h.l g hg; omega)), h.l⟩
theorem Gq.has {bx : Nat} {cu : Int} {F : List Nat} {fv dv : Value} {w : World} (h : Gq bx cu F fv dv w) (hn : F.length ≤ 2000) (y : Nat) : Calls Try.prog 100 #[.agg #[.int .u32 cu, fv, dv], .int .i64 (y : Int)] w fun e w' => e = .returned (.bool (hasB F y)) ∧ Below w.heap.size w w' := has_any cu y w h.f hn
set_option maxHeartbeats 4000000 in
theorem rgaps_any {b0 : Nat} {cu : Int} {s : St} {F : List Nat} {fv dv : Value} {w : World} (q : Qo w b0 1 fv F.length (cellsF F)) (hn : F.length ≤ 2000) (hf : Fits s F) (hok : s.Ok) (hbd : ∀ z ∈ F, z ≤ 1000) (hP : s.P.length ≤ 2000) :
    Calls Try.prog 47 #[.agg #[.int .u32 cu, fv, dv]] w fun e w' => ∃ v, e = .returned v ∧ w'.ownsRow w.heap.size 133 2 v (min s.P.length 16) (cellsGp (gl s.c (s.P.take 16))) ∧ Below w.heap.size w w' := by
  obtain ⟨oa, cap, hfv, hc, hcm⟩ := q.shape
  subst hfv
  have al := (Below.refl w.heap.size w).alloc (Nat.le_refl _) (.cells #[.int .u32 cu, .slice oa F.length cap, dv] 72)
  have B1 := Blk.new w 72 #[.int .u32 cu, .slice oa F.length cap, dv]
  have G1 : Gq w.heap.size cu F (.slice oa F.length cap) dv (w.alloc (.cells #[.int .u32 cu, .slice oa F.length cap, dv] 72)) := ⟨B1, (q.below al (Nat.le_refl _)).weaken (Nat.zero_le _), fun g hg => (q.lt hg).2⟩
  go_enter Try.func47, Try.ntmps47
  go_upto_region 1 with fail
  obtain ⟨w1, hw1⟩ : ∃ w1, w.alloc (.cells #[.int .u32 cu, .slice oa F.length cap, dv] 72) = w1 := ⟨_, rfl⟩
  rw [hw1] at al G1 ⊢
  obtain ⟨bx, hbx⟩ : ∃ bx, w.heap.size = bx := ⟨_, rfl⟩
  rw [hbx] at G1 ⊢
  have hbl := G1.B.lt
  have HBX := Lib.hid hbx
  have HAL := Lib.hid al
  have HG := Lib.hid G1
  clear hw1 al B1 G1 q hbx
  have al2 : Below w1.heap.size w1 (w1.alloc (.cells #[] 133)) := (Below.refl _ _).alloc (Nat.le_refl _) _
  have own2 : (w1.alloc (.cells #[] 133)).ownsRow (bx + 1) 133 2 (.slice (some ⟨w1.heap.size, 0, none⟩) 0 0) 0 (cellsGp (gl s.c (s.P.take 0))) := own_none (Blk.new w1 133 #[]) (by omega) (by unfold maxLen; omega) (by simp)
  have G2 := HG.out.keep al2 hbl
  have bel2 : Below bx w (w1.alloc (.cells #[] 133)) := HBX.out ▸ HAL.out.trans (al2.mono HAL.out.size)
  have hs2 : bx + 1 ≤ (w1.alloc (.cells #[] 133)).heap.size := by have := al2.size; omega
  have HX := Lib.hid (And.intro own2 (And.intro G2 (And.intro bel2 hs2)))
  clear own2 G2 bel2 hs2 al2 HG HAL
  obtain ⟨i0, hi, hz0, hz1, hz2⟩ := info_parts infoG
  have HF := Lib.hid (And.intro hf (And.intro hok hbd))
  clear hf hok hbd
  obtain ⟨c, P⟩ := s
  dsimp only at *
  go_upto_region 2 with fail
  generalize w1.alloc (.cells #[] 133) = w2 at *
  generalize w1.heap.size = x1 at *
  go_wp2_with fail
  go_loopw [3, 4] (fun s3 s4 wr => ∃ (n j : Nat) (lv : Value), lv = s3 ∧ s4 = .int .i64 n ∧ 1 ≤ n ∧ n ≤ 1001 ∧ Jn c P j n ∧ wr.ownsRow (bx + 1) 133 2 lv j (cellsGp (gl c (P.take j))) ∧ Gq bx cu F (.slice oa F.length cap) dv wr ∧ Below bx w wr ∧ bx + 1 ≤ wr.heap.size) (fun _ s4 _ => 1001 - (intOf s4).toNat)
  case atStart => exact ⟨1, 0, _, rfl, rfl, by omega, by omega, jn_start HF.out.2.1, HX.out.1, HX.out.2.1, HX.out.2.2.1, HX.out.2.2.2⟩
  case round =>
    clear HX
    obtain ⟨n, j, lv, rfl, rfl, hn1, hn2, hJ, own, G, bel, hsz⟩ := hrel
    by_cases hlt : n ≤ 1000
    · have hlt' : (n : Int) ≤ 1000 := by omega
      have hc1 := G.has hn n
      have HR := Lib.hid (And.intro hJ (And.intro own (And.intro G bel)))
      have hw1 : IntKind.i64.wrap ((n : Int) - 1) = ((n - 1 : Nat) : Int) := by rw [IntKind.wrap_i64]; omega
      obtain ⟨m, hm⟩ : ∃ m, n - 1 = m := ⟨_, rfl⟩
      rw [hm] at hw1
      have HM := Lib.hid hm
      clear hJ own G bel hm
      obtain ⟨h1, hh1⟩ : ∃ h1, hasB F n = h1 := ⟨_, rfl⟩
      rw [hh1] at hc1
      have HH1 := Lib.hid hh1
      clear hh1
      go_upto_region 5 with fail
      cases h1 with
      | false =>
        go_wp2_with (refine wpList_load_at rfl 72 _ rfl bx 0 rfl #[.int .u32 cu, .slice oa F.length cap, dv] _ (Cel.of_blk HR.out.2.2.1.B) Try.underlying72 rfl (szGt _ _ _) ?_)
        refine hc1.mono ?_
        rintro e w3 ⟨rfl, hb3⟩
        have G3 := HR.out.2.2.1.keep hb3 (by omega)
        have own3 := own_all HR.out.2.1 hb3
        have bel3 := HR.out.2.2.2.trans (hb3.mono (by omega))
        have hs3 : bx + 1 ≤ w3.heap.size := by have := hb3.size; omega
        have HJ := Lib.hid (jn_skip HR.out.1 (fun i p hp e => by
          have := ((fits_start HF.out.1 HF.out.2.1 hn1).2 ⟨i, p, hp, e⟩).1
          rw [HH1.out] at this
          cases this))
        have HZ := Lib.hid (And.intro own3 (And.intro G3 (And.intro bel3 hs3)))
        clear hc1 hb3 G3 own3 bel3 hs3
        go_wp2_with fail
        go_roundw
        case rel => exact ⟨n + 1, j, lv, rfl, by go_num, by omega, by omega, HJ.out, HZ.out.1, HZ.out.2.1, HZ.out.2.2.1, HZ.out.2.2.2⟩
        case measure => simp [intOf]; omega
      | true =>
        go_wp2_with (refine wpList_load_at rfl 72 _ rfl bx 0 rfl #[.int .u32 cu, .slice oa F.length cap, dv] _ (Cel.of_blk HR.out.2.2.1.B) Try.underlying72 rfl (szGt _ _ _) ?_)
        refine hc1.mono ?_
        rintro e w3 ⟨rfl, hb3⟩
        have G3 := HR.out.2.2.1.keep hb3 (by omega)
        have own3 := own_all HR.out.2.1 hb3
        have bel3 := HR.out.2.2.2.trans (hb3.mono (by omega))
        have hs3 : bx + 1 ≤ w3.heap.size := by have := hb3.size; omega
        have hc2 := G3.has hn m
        have HZ := Lib.hid (And.intro own3 (And.intro G3 bel3))
        clear hc1 hb3 G3 own3 bel3
        obtain ⟨h2, hh2⟩ : ∃ h2, hasB F m = h2 := ⟨_, rfl⟩
        rw [hh2] at hc2
        have HH2 := Lib.hid hh2
        clear hh2
        cases h2 with
        | true =>
          go_wp2_with (refine wpList_load_at_g (by rfl) 72 _ rfl bx 0 rfl #[.int .u32 cu, .slice oa F.length cap, dv] _ (Cel.of_blk HZ.out.2.1.B) Try.underlying72 rfl (szGt _ _ _) ?_)
          refine hc2.mono ?_
          rintro e w4 ⟨rfl, hb4⟩
          have G4 := HZ.out.2.1.keep hb4 (by omega)
          have own4 := own_all HZ.out.1 hb4
          have bel4 := HZ.out.2.2.trans (hb4.mono (by omega))
          have hs4 : bx + 1 ≤ w4.heap.size := by have := hb4.size; omega
          have HJ := Lib.hid (jn_skip HR.out.1 (fun i p hp e => by
            have := ((fits_start HF.out.1 HF.out.2.1 hn1).2 ⟨i, p, hp, e⟩).2
            rw [HM.out, HH2.out] at this
            cases this))
          have HY := Lib.hid (And.intro own4 (And.intro G4 (And.intro bel4 hs4)))
          clear hc2 hb4 G4 own4 bel4 hs4
          go_wp2_with fail
          go_roundw
          case rel => exact ⟨n + 1, j, lv, rfl, by go_num, by omega, by omega, HJ.out, HY.out.1, HY.out.2.1, HY.out.2.2.1, HY.out.2.2.2⟩
          case measure => simp [intOf]; omega
        | false =>
          obtain ⟨i, p, hp, hpe⟩ := (fits_start HF.out.1 HF.out.2.1 hn1).1 ⟨HH1.out, by rw [HM.out]; exact HH2.out⟩
          obtain ⟨hij, hJ⟩ := jn_take HF.out.2.1 HR.out.1 hp hpe
          subst hij
          have hle := inv_le HF.out.2.1 p (List.mem_of_getElem? hp)
          have HP := Lib.hid (And.intro hp (And.intro hpe (And.intro hJ hle)))
          dsimp only at hpe hle
          clear hp hJ
          go_wp2_with (refine wpList_load_at_g (by rfl) 72 _ rfl bx 0 rfl #[.int .u32 cu, .slice oa F.length cap, dv] _ (Cel.of_blk HZ.out.2.1.B) Try.underlying72 rfl (szGt _ _ _) ?_)
          refine hc2.mono ?_
          rintro e w4 ⟨rfl, hb4⟩
          have G4 := HZ.out.2.1.keep hb4 (by omega)
          have own4 := own_all HZ.out.1 hb4
          have bel4 := HZ.out.2.2.trans (hb4.mono (by omega))
          have hs4 : bx + 1 ≤ w4.heap.size := by have := hb4.size; omega
          have HY := Lib.hid (And.intro own4 (And.intro G4 (And.intro bel4 hs4)))
          have hpn : c + n ≤ p.2 := by omega
          clear hc2 hb4 G4 own4 bel4 hs4 hpe hle
          go_wp2_with fail
          go_loopw [5] (fun s5 wi => ∃ tq : Nat, s5 = .int .i64 tq ∧ n ≤ tq ∧ c + tq ≤ p.2 ∧ tq ≤ 1000 ∧ wi.ownsRow (bx + 1) 133 2 lv i (cellsGp (gl c (P.take i))) ∧ Gq bx cu F (.slice oa F.length cap) dv wi ∧ Below bx w wi ∧ bx + 1 ≤ wi.heap.size) (fun s5 _ => 1001 - (intOf s5).toNat)
          case atStart => exact ⟨n, rfl, Nat.le_refl _, hpn, by omega, HY.out.1, HY.out.2.1, HY.out.2.2.1, HY.out.2.2.2⟩
          case round =>
            clear HY
            obtain ⟨tq, rfl, hnt, htp, hto, own, G, bel, hsi⟩ := hrel
            have hnx : hasB F (tq + 1) = decide (c + tq < p.2) := fits_next HF.out.1 HF.out.2.1 HP.out.1 (by have := HP.out.2.1; dsimp only at this ⊢; omega) htp
            have hc3 : Calls Try.prog 100 #[.agg #[.int .u32 cu, .slice oa F.length cap, dv], .int .i64 ((tq : Int) + 1)] wr fun e w' => e = .returned (.bool (decide (c + tq < p.2))) ∧ Below wr.heap.size wr w' := hnx ▸ G.has hn (tq + 1)
            have HW := Lib.hid (And.intro own (And.intro G bel))
            have HN := Lib.hid hnx
            clear own G bel hnx
            by_cases hlt2 : c + tq < p.2
            · rw [decide_eq_true hlt2] at hc3
              have hto2 : tq + 1 ≤ 1000 := HF.out.2.2 _ (hasB_iff.1 (by rw [HN.out, decide_eq_true hlt2]))
              go_wp2_with (refine wpList_load_at rfl 72 _ rfl bx 0 rfl #[.int .u32 cu, .slice oa F.length cap, dv] _ (Cel.of_blk HW.out.2.1.B) Try.underlying72 rfl (szGt _ _ _) ?_)
              refine hc3.mono ?_
              rintro e w5 ⟨rfl, hb5⟩
              have G5 := HW.out.2.1.keep hb5 (by omega)
              have own5 := own_all HW.out.1 hb5
              have bel5 := HW.out.2.2.trans (hb5.mono (by omega))
              have hs5 : bx + 1 ≤ w5.heap.size := by have := hb5.size; omega
              have HV := Lib.hid (And.intro own5 (And.intro G5 (And.intro bel5 hs5)))
              clear hc3 hb5 G5 own5 bel5 hs5
              go_wp2_with fail
              go_roundw
              case rel => exact ⟨tq + 1, by go_num, by omega, by omega, hto2, HV.out.1, HV.out.2.1, HV.out.2.2.1, HV.out.2.2.2⟩
              case measure => simp [intOf]; omega
            · rw [decide_eq_false hlt2] at hc3
              go_wp2_with (refine wpList_load_at rfl 72 _ rfl bx 0 rfl #[.int .u32 cu, .slice oa F.length cap, dv] _ (Cel.of_blk HW.out.2.1.B) Try.underlying72 rfl (szGt _ _ _) ?_)
              refine hc3.mono ?_
              rintro e w5 ⟨rfl, hb5⟩
              have G5 := HW.out.2.1.keep hb5 (by omega)
              have own5 := own_all HW.out.1 hb5
              have bel5 := HW.out.2.2.trans (hb5.mono (by omega))
              have hs5 : bx + 1 ≤ w5.heap.size := by have := hb5.size; omega
              have al6 := (Below.refl w5.heap.size w5).alloc (Nat.le_refl _) (.cells #[.int .i64 (n : Int), .int .i64 (tq : Int)] 133)
              have hge : ∀ k, lv.ownBlock = some k → bx + 1 ≤ k := fun k hk => own_ge own5 k hk
              have hil : i ≤ 2000 := by have h1 : i + 1 ≤ P.length := HP.out.2.2.1.1; have h2 : P.length ≤ 2000 := hP; omega
              obtain ⟨h8, cap8, w8, hr8, own8, gr8, hat8, hlt8⟩ := run_append_lies (P := Try.prog) (w5.alloc (.cells #[.int .i64 (n : Int), .int .i64 (tq : Int)] 133)) 37 37 (bx + 1) 133 i0 (.agg #[.int .i64 0, .int .i64 0]) 2 16 Try.underlying37 hi hz0 hz1 hz2 rfl (by decide) lv i (cellsGp (gl c (P.take i))) (own_all own5 al6) ⟨w5.heap.size, 0, none⟩ 1 1 (#[.int .i64 (n : Int), .int .i64 (tq : Int)] : Array Value).toList rfl (World.news_of_block (Blk.new _ _ _)) (cellsGp_oneI _ _) (by omega) (by unfold maxLen; omega) (by omega) (by have := al6.size; omega) _ rfl
              have b8 : Below (bx + 1) w5 w8 := ((Below.refl (bx + 1) w5).alloc hs5 (.cells #[.int .i64 (n : Int), .int .i64 (tq : Int)] 133)).grown gr8 (by have := al6.size; omega) hge
              have htk : cellsGp (gl c (P.take (i + 1))) = cellsGp (gl c (P.take i)) ++ (#[.int .i64 (n : Int), .int .i64 (tq : Int)] : Array Value).toList := by
                have hpi : P[i]? = some p := HP.out.1
                have e1 : (p.1 : Int) - (c : Int) = (n : Int) := by have h1 : p.1 = c + n := HP.out.2.1; omega
                have e2 : (p.2 : Int) - (c : Int) = (tq : Int) := by omega
                rw [List.take_add_one, hpi]
                simp [gl, cellsGp_append, cellsGp, e1, e2]
              have own9 : w8.ownsRow (bx + 1) 133 2 (.slice (some ⟨h8, 0, none⟩) (i + 1) cap8) (i + 1) (cellsGp (gl c (P.take (i + 1)))) := by rw [htk]; exact own8
              have G8 := G5.keep b8 (Nat.lt_succ_self _)
              have bel8 := bel5.trans (b8.mono (Nat.le_succ _))
              have HV := Lib.hid (And.intro own9 (And.intro G8 (And.intro bel8 (Nat.le_trans hs5 b8.size))))
              clear hc3 hb5 G5 own5 bel5 hs5 al6 own8 gr8 hat8 b8 htk own9 G8 bel8 hge
              go_wp2_with (at_builtin; refine wpList_append_q rfl _ _ _ rfl rfl rfl hr8 ?_)
              go_roundw
              case rel => exact ⟨n + 1, i + 1, _, rfl, by go_num, by omega, by omega, HP.out.2.2.1, HV.out.1, HV.out.2.1, HV.out.2.2.1, HV.out.2.2.2⟩
              case measure => simp [intOf]; omega
    · obtain rfl : n = 1001 := by omega
      have hj : j = P.length := jn_all hJ (fun i p hp => by
        have hok : Inv c P := HF.out.2.1
        have hle := inv_le hok p (List.mem_of_getElem? hp)
        have hm := idx_mem hp (Nat.le_refl _) hle
        have h1 := Inv.mem hok hm
        have h2 := HF.out.2.2 (p.1 - c) ((HF.out.1 _).2 ⟨by omega, by show Mem (c + (p.1 - c)) P; rw [show c + (p.1 - c) = p.1 by omega]; exact hm⟩)
        omega)
      subst hj
      clear hJ G
      have htl : P.take P.length = P := List.take_length
      rw [htl] at own
      by_cases h16 : 16 < P.length
      · have h16' : (16 : Int) < (P.length : Int) := by omega
        obtain ⟨g, gcap, cur, rfl, hg1, hg2, hg3, hg4, hg5⟩ : ∃ g gcap cur, lv = .slice (some ⟨g, 0, none⟩) P.length gcap ∧ _ := by
          rcases own.2 with ⟨_, h0⟩ | h
          · omega
          · exact h
        have own16 := own_take own (k := 16) (by omega)
        rw [cellsGp_take] at own16
        have HO := Lib.hid own16
        unfold maxLen at hg4
        clear own own16 hg5 hg2
        go_wp2_with fail
        go_ret
        refine ⟨_, rfl, ?_, by rw [HBX.out]; exact bel⟩
        rw [HBX.out, show min P.length 16 = 16 by omega, show gl c (P.take 16) = (gl c P).take 16 by simp [gl, List.map_take]]
        exact own_weaken HO.out (Nat.le_succ _)
      · have h16' : (P.length : Int) ≤ 16 := by omega
        obtain ⟨oo, ocap, hlv⟩ : ∃ oo ocap, lv = .slice oo P.length ocap := by
          rcases own.2 with ⟨e, h0⟩ | ⟨g, gcap, cur, e, _⟩
          · exact ⟨none, 0, by rw [e, h0]⟩
          · exact ⟨_, gcap, e⟩
        subst hlv
        have HO := Lib.hid own
        clear own
        go_wp2_with fail
        go_ret
        refine ⟨_, rfl, ?_, by rw [HBX.out]; exact bel⟩
        rw [HBX.out, show min P.length 16 = P.length by omega, List.take_of_length_le (by omega)]
        exact own_weaken HO.out (Nat.le_succ _)
end Go.Proofs.Ythddacgdmngfhaa.gap
