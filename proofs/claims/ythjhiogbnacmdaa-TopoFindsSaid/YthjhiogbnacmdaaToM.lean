/- Layer 32: topo.Check of whatever topology. -/
import Derived.Test.YthjhiogbnacmdaaToL
namespace Go.Proofs.Ythjhiogbnacmdaa.top
open Go.Sort (grow)
open Go.ChangeShapes Go.WideShapes Go.ChangeAt Go.RowKit kit
set_option maxRecDepth 100000

/-- What is answered of a topology. -/
def CheckR (n : Nat) (hs : Nat → List (Int × Int)) (ns : List (Int × Int)) (e : Ending) : Prop := ∃ c : Int, e = .returned (.int .i64 c) ∧ (c = 0 ∨ c = 1) ∧ (c = 0 ↔ Fine n hs ns)
theorem CheckR.no {n : Nat} {hs : Nat → List (Int × Int)} {ns : List (Int × Int)} {e : Ending} (he : e = .returned (.int .i64 1)) (h : ¬ Fine n hs ns) : CheckR n hs ns e := ⟨1, he, .inr rfl, fun q => absurd q (by decide), fun q => absurd q h⟩
/-- What stays while a topology is looked at. -/
structure Ks (B0 : Nat) (w wr : World) (l : List (Int × Int)) (vH vN : Value) : Prop where
  C : Cnt Try.prog 74 wr (B0 + 1) (cn l)
  K : Blk wr (B0 + 1 + 1) 72 #[.map (some (B0 + 1))]
  X : Blk wr B0 42 #[vH, vN]
  bel : Below B0 w wr
theorem Ks.below {B0 k : Nat} {w wr w' : World} {l : List (Int × Int)} {vH vN : Value} (h : Ks B0 w wr l vH vN) (b : Below k wr w') (hk : wr.heap.size ≤ k) : Ks B0 w w' l vH vN :=
  ⟨h.C.below b (by have := h.C.lt; omega), h.K.below b (by have := h.K.lt; omega), h.X.below b (by have := h.X.lt; omega), h.bel.trans (b.mono (by have := h.X.lt; omega))⟩
theorem Ks.step {B0 : Nat} {w wr w' : World} {l l' : List (Int × Int)} {vH vN : Value} (h : Ks B0 w wr l vH vN) (C' : Cnt Try.prog 74 w' (B0 + 1) (cn l')) (o : Only (B0 + 1) wr w') (b : Below (B0 + 1) wr w') : Ks B0 w w' l' vH vN :=
  ⟨C', o.blk h.K (by omega), h.X.below b (by omega), h.bel.trans (b.mono (by omega))⟩
section
variable {w : World} {b0 : Nat} {vH vN : Value} {pv : Nat → Value} {hs : Nat → List (Int × Int)} {n : Nat} {ns : List (Int × Int)}
set_option maxHeartbeats 8000000 in
theorem check_any (h : TM w b0 vH vN pv hs n ns) (wfN : ∀ x ∈ ns, (Lit.int .u32 x.1).wf = true) (wfH : ∀ i, i < n → ∀ x ∈ hs i, (Lit.int .u32 x.1).wf = true) :
    Calls Try.prog 18 #[.agg #[vH, vN]] w fun e w' => CheckR n hs ns e ∧ Below w.heap.size w w' := by
  obtain ⟨B0, hB0⟩ : ∃ B0, w.heap.size = B0 := ⟨_, rfl⟩
  have HT := Lib.hid (show ∀ w', Below B0 w w' → TM w' b0 vH vN pv hs n ns from fun w' hb => h.below hb (by omega))
  have HBK := Lib.hid (show ∀ i, i < n → ∀ g, blkOf (pv i) = some g → g < B0 from fun i hi g hg => by have := ((h.P i hi).lt hg).2; omega)
  have HWN := Lib.hid wfN
  have HWH := Lib.hid wfH
  have hn8 := h.n8
  have hns6 := h.s6
  have hp6 := h.p6
  obtain ⟨oH, cH, hvH, _, _⟩ := h.H.shape
  obtain ⟨oN, cN, hvN, _, _⟩ := h.N.shape
  subst hvH hvN
  have X0 : Blk (w.alloc (.cells #[.slice oH n cH, .slice oN ns.length cN] 42)) B0 42 #[.slice oH n cH, .slice oN ns.length cN] := by rw [← hB0]; exact Blk.new _ _ _
  have bel0 : Below B0 w (w.alloc (.cells #[.slice oH n cH, .slice oN ns.length cN] 42)) := by rw [← hB0]; exact (Below.refl w.heap.size w).alloc (Nat.le_refl _) _
  have hs0 : (w.alloc (.cells #[.slice oH n cH, .slice oN ns.length cN] 42)).heap.size = B0 + 1 := by simp [hB0]
  clear h wfN wfH
  rw [hB0]
  go_enter Try.func18, Try.ntmps18
  go_upto_region 1 with fail
  obtain ⟨w1, hw1⟩ : ∃ w1, w.alloc (.cells #[.slice oH n cH, .slice oN ns.length cN] 42) = w1 := ⟨_, rfl⟩
  rw [hw1] at X0 bel0 hs0
  try rw [hw1]
  clear hw1 hB0
  have x0 : w1.cell? ⟨B0, 0, none⟩ = some (.slice oH n cH) := X0.cell 0
  have x1 : w1.cell? ⟨B0, 1, none⟩ = some (.slice oN ns.length cN) := X0.cell 1
  by_cases e1 : (n : Int) < 1
  · have HF := Lib.hid bel0
    clear X0 bel0 hs0
    go_wp2_with fail
    go_ret
    exact ⟨CheckR.no rfl (fun f => absurd f.n1 (by omega)), HF.out⟩
  · by_cases e2 : (6 : Int) < (n : Int)
    · have HF := Lib.hid bel0
      clear X0 bel0 hs0
      go_wp2_with fail
      go_ret
      exact ⟨CheckR.no rfl (fun f => absurd f.n6 (by omega)), HF.out⟩
    · by_cases e3 : (4 : Int) < (ns.length : Int)
      · have HF := Lib.hid bel0
        clear X0 bel0 hs0
        go_wp2_with fail
        go_ret
        exact ⟨CheckR.no rfl (fun f => absurd f.ns4 (by omega)), HF.out⟩
      · have hmk : ∀ w, (Instr.makeMap 72 none).run Try.prog w = .ok (.map (some w.heap.size)) (w.alloc (.map #[] 0)) := fun w => rfl
        go_upto_region 4 with fail
        have hs1 : (w1.alloc (.map #[] 0)).heap.size = B0 + 1 + 1 := by simp [hs0]
        have C1 : Cnt Try.prog 74 (w1.alloc (.map #[] 0)) (B0 + 1) (cn []) := by rw [cn_nil, ← hs0]; exact Cnt.new w1
        have al1 := (Below.refl w1.heap.size w1).alloc (Nat.le_refl _) (.map #[] 0)
        have al2 := al1.alloc al1.size (.cells #[.map (some (B0 + 1))] 72)
        have K1 : Ks B0 w ((w1.alloc (.map #[] 0)).alloc (.cells #[.map (some (B0 + 1))] 72)) [] (.slice oH n cH) (.slice oN ns.length cN) :=
          ⟨C1.below ((Below.refl _ _).alloc (Nat.le_refl _) _) C1.lt, by rw [← hs1]; exact Blk.new _ _ _, X0.below al2 X0.lt, bel0.trans (al2.mono (by omega))⟩
        clear C1 al1 al2 X0 bel0 hs1 hs0
        clear x0 x1 hmk
        generalize (w1.alloc (.map #[] 0)).alloc (.cells #[.map (some (B0 + 1))] 72) = w2 at *
        have x1 : w2.cell? ⟨B0, 1, none⟩ = some (.slice oN ns.length cN) := K1.X.cell 1
        go_upto_block 0 with fail
        clear x1
        have e1' : 1 ≤ n := by omega
        have e2' : n ≤ 6 := by omega
        have e3' : ns.length ≤ 4 := by omega
        clear e1 e2 e3
        go_cut [] (fun wx => Most ns ∧ Good (spN ns) ∧ Ks B0 w wx (spN ns) (.slice oH n cH) (.slice oN ns.length cN))
        case first =>
          go_wp2_with fail
          go_loopw [30] (fun s30 wr => ∃ i : Nat, s30 = .int .i64 (i : Nat) ∧ i ≤ ns.length ∧ Most (ns.take i) ∧ Good (spN (ns.take i)) ∧ Ks B0 w wr (spN (ns.take i)) (.slice oH n cH) (.slice oN ns.length cN)) (fun s30 _ => ns.length - (intOf s30).toNat)
          case atStart => exact ⟨0, rfl, Nat.zero_le _, (by rw [List.take_zero]; exact fun y h => absurd h List.not_mem_nil), (by rw [List.take_zero]; exact good_nil), (by rw [List.take_zero]; exact K1)⟩
          case round =>
            rename World => wr
            clear K1
            obtain ⟨i, rfl, hi, hm, hg, F⟩ := hrel
            by_cases hlt : i < ns.length
            · obtain ⟨y, hy⟩ : ∃ y, ns[i]? = some y := ⟨_, List.getElem?_eq_getElem hlt⟩
              have T := HT.out _ F.bel
              obtain ⟨nh, noff, hoN, _, _, CN⟩ := row_at T.N rfl hy
              subst hoN
              have hi0 : (0 : Int) ≤ (i : Int) := by omega
              have hi1 : (i : Int) < (ns.length : Int) := by omega
              have HY := Lib.hid hy
              have HM := Lib.hid (And.intro hm hg)
              have hno : ∀ f : Fine n hs ns, (0 ≤ y.2 ∧ y.2 ≤ 256) ∧ Good (spN (ns.take i) ++ [(-1, y.1)]) := fun f =>
                ⟨f.most y (List.mem_of_getElem? hy), by rw [← spN_snoc, ← take_snoc hy]; exact f.goodN (i + 1)⟩
              have HNO := Lib.hid hno
              have szn := szNs y
              unfold pl at szn CN
              clear T hy hm hg hno
              go_upto_region 8 with (refine wpList_load_at rfl 54 _ rfl nh (noff + i * 2) rfl #[.int .u32 y.1, .int .i64 y.2] _ CN Try.underlying54 rfl szn ?_)
              have P2 := Blk.new wr 54 #[.int .u32 y.1, .int .i64 y.2]
              have al2 := (Below.refl wr.heap.size wr).alloc (Nat.le_refl _) (.cells #[.int .u32 y.1, .int .i64 y.2] 54)
              have S2 := F.below al2 (Nat.le_refl _)
              obtain ⟨w3, hw3⟩ : ∃ w3, wr.alloc (.cells #[.int .u32 y.1, .int .i64 y.2] 54) = w3 := ⟨_, rfl⟩
              rw [hw3] at P2 al2 S2
              try rw [hw3]
              clear hw3 F CN szn
              obtain ⟨pb, hpb⟩ : ∃ pb, wr.heap.size = pb := ⟨_, rfl⟩
              rw [hpb] at P2
              try rw [hpb]
              clear hpb al2
              have p0 : w3.cell? ⟨pb, 0, none⟩ = some (.int .u32 y.1) := P2.cell 0
              have p1 : w3.cell? ⟨pb, 1, none⟩ = some (.int .i64 y.2) := P2.cell 1
              clear P2
              by_cases e1 : y.2 < 0
              · have HF := Lib.hid S2.bel
                clear S2
                go_wp2_with fail
                go_ret
                exact ⟨CheckR.no rfl (fun f => absurd (HNO.out f).1 (by omega)), HF.out⟩
              · by_cases e2 : 256 < y.2
                · have HF := Lib.hid S2.bel
                  clear S2
                  go_wp2_with fail
                  go_ret
                  exact ⟨CheckR.no rfl (fun f => absurd (HNO.out f).1 (by omega)), HF.out⟩
                · have hll : (spN (ns.take i)).length ≤ 100 := by
                    simp only [spN, List.length_map, List.length_take]
                    omega
                  have hfr := fresh_any (-1, y.1) hll S2.C S2.K (small_wf (by show (-1 : Int) ≤ -1; decide) (by show (-1 : Int) < 100; decide)) (HWN.out y (List.mem_of_getElem? HY.out))
                  obtain ⟨fb, hfb⟩ : ∃ fb, frB (spN (ns.take i)) (-1, y.1) = fb := ⟨_, rfl⟩
                  rw [hfb] at hfr
                  have HFB := Lib.hid (show fb = true ↔ y.1 ≠ 0 ∧ (-1, y.1) ∉ spN (ns.take i) by
                    rw [← hfb]
                    unfold frB
                    rw [decide_eq_true_eq])
                  dsimp only at hfr
                  have e1'' : 0 ≤ y.2 := by omega
                  have e2'' : y.2 ≤ 256 := by omega
                  clear hfb hll
                  go_wp2_with fail
                  refine hfr.mono ?_
                  rintro e w4 ⟨rfl, hC4, hO4, hB4⟩
                  have HS := Lib.hid (S2.step hC4 hO4 hB4)
                  clear hfr hC4 hO4 hB4 S2 p0 p1
                  cases fb
                  · go_wp2_with fail
                    go_ret
                    refine ⟨CheckR.no rfl (fun f => ?_), HS.out.bel⟩
                    have h6 := good_snoc.1 (HNO.out f).2
                    exact absurd (HFB.out.2 ⟨h6.2.2, h6.2.1⟩) Bool.false_ne_true
                  · have h7 := HFB.out.1 rfl
                    have HR := Lib.hid (show Most (ns.take (i + 1)) ∧ Good (spN (ns.take (i + 1))) ∧ Ks B0 w w4 (spN (ns.take (i + 1))) (.slice oH n cH) (.slice (some ⟨nh, noff, none⟩) ns.length cN) by
                      rw [take_snoc HY.out, spN_snoc]
                      exact ⟨most_snoc.2 ⟨HM.out.1, e1'', e2''⟩, good_snoc.2 ⟨HM.out.2, h7.2, h7.1⟩, HS.out⟩)
                    clear h7
                    go_wp2_with fail
                    go_roundw
                    case rel => exact ⟨i + 1, by go_num, by omega, HR.out.1, HR.out.2.1, HR.out.2.2⟩
                    case measure => simp [intOf]; omega
            · obtain rfl : i = ns.length := by omega
              rw [List.take_length] at hm hg F
              have HF := Lib.hid (And.intro hm (And.intro hg F))
              clear F hm hg
              go_wp2_with fail
              go_meet
              exact HF.out
        case rest =>
        clear K1
        obtain ⟨hm, hg, F⟩ := hcut
        have HM := Lib.hid (And.intro hm hg)
        generalize wc = w3 at *
        have x0 : w3.cell? ⟨B0, 0, none⟩ = some (.slice oH n cH) := F.X.cell 0
        clear hm hg
        go_upto_block 2 with fail
        clear x0
        go_wp2_with fail
        go_loopw [53] (fun s53 wr => ∃ i : Nat, s53 = .int .i64 (i : Nat) ∧ i ≤ n ∧ Pre i hs ns ∧ Good (spA ns hs i) ∧ Ks B0 w wr (spA ns hs i) (.slice oH n cH) (.slice oN ns.length cN)) (fun s53 _ => n - (intOf s53).toNat)
        case atStart => exact ⟨0, rfl, Nat.zero_le _, ⟨HM.out.1, fun j hj => absurd hj (Nat.not_lt_zero j), fun j hj => absurd hj (Nat.not_lt_zero j)⟩, HM.out.2, F⟩
        case round =>
          rename World => wr
          clear F
          obtain ⟨i, rfl, hi, hp, hg, F⟩ := hrel
          by_cases hlt : i < n
          · have T := HT.out _ F.bel
            obtain ⟨hh, off, cap, hv, C⟩ := T.host hlt
            injection hv with hv1 hv2 hv3
            subst hv1
            subst hv3
            obtain ⟨oP, cP, hvp, _, _⟩ := (T.P i hlt).shape
            rw [hvp] at C
            have hi0 : (0 : Int) ≤ (i : Int) := by omega
            have hi1 : (i : Int) < (n : Int) := by omega
            have szh := szHo (.slice oP (hs i).length cP)
            unfold hos at C szh
            have HP := Lib.hid (And.intro hp hg)
            have HV := Lib.hid hvp
            have hll : (spA ns hs i).length ≤ 60 := by
              have := spA_len (ns := ns) (hs := hs) (i := i) (fun j hj => (hp.len j hj).2)
              omega
            clear T hvp hp hg
            go_upto_region 14 with (refine wpList_load_at rfl 50 _ rfl hh (off + i * 3) rfl #[.slice oP (hs i).length cP, .string ⟨#[]⟩, .slice none 0 0] _ C Try.underlying50 rfl szh ?_)
            have P2 := Blk.new wr 50 #[.slice oP (hs i).length cP, .string ⟨#[]⟩, .slice none 0 0]
            have al2 := (Below.refl wr.heap.size wr).alloc (Nat.le_refl _) (.cells #[.slice oP (hs i).length cP, .string ⟨#[]⟩, .slice none 0 0] 50)
            have S2 := F.below al2 (Nat.le_refl _)
            obtain ⟨w4, hw4⟩ : ∃ w4, wr.alloc (.cells #[.slice oP (hs i).length cP, .string ⟨#[]⟩, .slice none 0 0] 50) = w4 := ⟨_, rfl⟩
            rw [hw4] at P2 al2 S2
            try rw [hw4]
            clear hw4 F C
            obtain ⟨pb, hpb⟩ : ∃ pb, wr.heap.size = pb := ⟨_, rfl⟩
            rw [hpb] at P2
            try rw [hpb]
            clear hpb al2
            have T2 := HT.out _ S2.bel
            have hq := T2.P i hlt
            rw [HV.out] at hq
            have hhm := hostMay_any (mb := B0 + 1) (cb := B0 + 1 + 1) (m := ns.length) hq (hp6 i hlt) (by omega) hll HP.out.2 (fun e => by have := HBK.out i hlt (B0 + 1) (by rw [HV.out]; exact e); omega) (by omega) S2.C S2.K (HWH.out i hlt)
            unfold hos at hhm
            have x1 : w4.cell? ⟨B0, 1, none⟩ = some (.slice oN ns.length cN) := S2.X.cell 1
            have C2 := Cel.of_blk P2
            clear T2 hq hll P2
            go_wp2_with (refine wpList_load_at rfl 50 _ rfl pb 0 rfl #[.slice oP (hs i).length cP, .string ⟨#[]⟩, .slice none 0 0] _ C2 Try.underlying50 rfl szh ?_)
            refine hhm.mono ?_
            rintro e w5 ⟨⟨b, rfl, hb, hC⟩, hO5, hB5⟩
            have HB := Lib.hid (And.intro hb hC)
            have HO := Lib.hid (And.intro hO5 hB5)
            have HS := Lib.hid S2
            clear hhm C2 szh x1 hb hC hO5 hB5 S2
            cases b
            · go_wp2_with fail
              go_ret
              refine ⟨CheckR.no rfl (fun f => ?_), HS.out.bel.trans (HO.out.2.mono (by omega))⟩
              have hgh := f.goodH hlt (hs i).length
              rw [List.take_length] at hgh
              exact absurd (HB.out.1.2 ⟨(f.len i hlt).1, (f.len i hlt).2, f.host i hlt, hgh⟩) Bool.false_ne_true
            · have h7 := HB.out.1.1 rfl
              have HR := Lib.hid (show Pre (i + 1) hs ns ∧ Good (spA ns hs (i + 1)) ∧ Ks B0 w w5 (spA ns hs (i + 1)) (.slice (some ⟨hh, off, none⟩) n cH) (.slice oN ns.length cN) from
                ⟨HP.out.1.next h7.1 h7.2.1 h7.2.2.1, h7.2.2.2, HS.out.step (HB.out.2 rfl) HO.out.1 HO.out.2⟩)
              clear h7
              go_wp2_with fail
              go_roundw
              case rel => exact ⟨i + 1, by go_num, by omega, HR.out.1, HR.out.2.1, HR.out.2.2⟩
              case measure => simp [intOf]; omega
          · obtain rfl : i = n := by omega
            have HF := Lib.hid (And.intro hp (And.intro hg F.bel))
            clear F hp hg
            go_wp2_with fail
            go_ret
            exact ⟨⟨0, rfl, .inl rfl, fun _ => ⟨HF.out.1.most, HF.out.1.len, HF.out.1.host, HF.out.2.1, e1', e2', e3'⟩, fun _ => rfl⟩, HF.out.2.2⟩
end
end Go.Proofs.Ythjhiogbnacmdaa.top
