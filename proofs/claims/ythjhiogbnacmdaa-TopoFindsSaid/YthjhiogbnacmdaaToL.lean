/- Layer 32: may a host's places be? -/
import Derived.Test.YthjhiogbnacmdaaToK
namespace Go.Proofs.Ythjhiogbnacmdaa.top
open Go.Sort (grow)
open Go.ChangeShapes Go.WideShapes Go.ChangeAt Go.RowKit kit
set_option maxRecDepth 100000

theorem small_wf {a : Int} (h1 : -1 ≤ a) (h2 : a < 100) : (Lit.int .i64 a).wf = true := by
  simp only [Lit.wf, Bool.and_eq_true, decide_eq_true_eq]
  show (-9223372036854775808 : Int) ≤ _ ∧ _ ≤ (9223372036854775807 : Int)
  omega
theorem idxA_le {α : Type} {p : α → Bool} : ∀ {L : List α} {j : Nat} {y : α}, L[j]? = some y → p y = true → 0 ≤ idxA p L ∧ idxA p L ≤ (j : Int)
  | [], _, _, h, _ => by simp at h
  | z :: r, 0, y, h, hp => by
    obtain rfl : z = y := by simpa using h
    unfold idxA
    rw [if_pos hp]
    exact ⟨Int.le_refl _, Int.le_refl _⟩
  | z :: r, j + 1, y, h, hp => by
    have ih := idxA_le (L := r) (j := j) (by simpa using h) hp
    unfold idxA
    split
    · omega
    · rw [if_neg (by omega)]
      omega
theorem first_iff {L : List (Int × Int)} {k : Nat} {x : Int × Int} (hx : L[k]? = some x) : idxA (fun y : Int × Int => decide (y.1 = x.1)) L = (k : Int) ↔ ∀ y ∈ L.take k, y.1 ≠ x.1 := by
  constructor
  · intro h y hy e
    obtain ⟨j, hj⟩ := List.getElem?_of_mem hy
    have hjk : j < k := by
      have := (List.getElem?_eq_some_iff.1 hj).1
      rw [List.length_take] at this
      omega
    rw [List.getElem?_take_of_lt hjk] at hj
    have := idxA_le (p := fun y : Int × Int => decide (y.1 = x.1)) hj (decide_eq_true e)
    omega
  · intro h
    refine idxA_hit hx (decide_eq_true rfl) fun j y hj hy => decide_eq_false (h y ?_)
    exact List.mem_of_getElem? (i := j) (by rw [List.getElem?_take_of_lt hj]; exact hy)
/-- What is answered of a host. -/
def HostR (l : List (Int × Int)) (L : List (Int × Int)) (m mb : Nat) (e : Ending) (w' : World) : Prop :=
  ∃ b, e = .returned (.bool b) ∧ (b = true ↔ (1 ≤ L.length ∧ L.length ≤ 4 ∧ HostP m L ∧ Good (l ++ spH L))) ∧ (b = true → Cnt Try.prog 74 w' mb (cn (l ++ spH L)))
theorem HostR.no {l L : List (Int × Int)} {m mb : Nat} {e : Ending} {w' : World} (he : e = .returned (.bool false)) (h : ¬ (1 ≤ L.length ∧ L.length ≤ 4 ∧ HostP m L ∧ Good (l ++ spH L))) : HostR l L m mb e w' :=
  ⟨false, he, ⟨fun q => absurd q Bool.false_ne_true, fun q => absurd q h⟩, fun q => absurd q Bool.false_ne_true⟩
/-- What stays while a host is looked at. -/
structure Hs (mb cb hb : Nat) (w wr : World) (v : Value) (l : List (Int × Int)) : Prop where
  C : Cnt Try.prog 74 wr mb (cn l)
  K : Blk wr cb 72 #[.map (some mb)]
  H : Blk wr hb 50 (hos v)
  O : Only mb w wr
  bel : Below mb w wr
theorem Hs.below {mb cb hb k : Nat} {w wr w' : World} {v : Value} {l : List (Int × Int)} (h : Hs mb cb hb w wr v l) (b : Below k wr w') (hk : wr.heap.size ≤ k) : Hs mb cb hb w w' v l :=
  ⟨h.C.below b (by have := h.C.lt; omega), h.K.below b (by have := h.K.lt; omega), h.H.below b (by have := h.H.lt; omega), h.O.trans (Only.of_below (b.mono hk)), h.bel.trans (b.mono (by have := h.C.lt; omega))⟩
set_option maxHeartbeats 4000000 in
theorem hostMay_any {w : World} {b0 mb cb m : Nat} {v : Value} {L l : List (Int × Int)} (q : Qo w b0 2 v L.length (cellsPl L)) (hn : L.length ≤ 6) (hm : m ≤ 6) (hl : l.length ≤ 60) (hg : Good l) (hv : blkOf v ≠ some mb) (hcm : cb ≠ mb)
    (C : Cnt Try.prog 74 w mb (cn l)) (K : Blk w cb 72 #[.map (some mb)]) (wf : ∀ x ∈ L, (Lit.int .u32 x.1).wf = true) :
    Calls Try.prog 33 #[.agg (hos v), .int .i64 (m : Nat), .func (.func 32) #[] #[.pointer (some ⟨cb, 0, none⟩)]] w fun e w' => HostR l L m mb e w' ∧ Only mb w w' ∧ Below mb w w' := by
  have HQ := Lib.hid (show ∀ w', Only mb w w' → Qo w' b0 2 v L.length (cellsPl L) from fun w' o => q.block o.size fun g hg => o.block g (q.lt hg).2 fun e => hv (by rw [hg, e]))
  have HW := Lib.hid wf
  have HG := Lib.hid hg
  obtain ⟨hb, hhb⟩ : ∃ hb, w.heap.size = hb := ⟨_, rfl⟩
  have hbm : hb ≠ mb := by have := C.lt; omega
  obtain ⟨oP, cP, hvp, _, _⟩ := q.shape
  subst hvp
  have al1 := (Below.refl w.heap.size w).alloc (Nat.le_refl _) (.cells (hos (.slice oP L.length cP)) 50)
  have S1 : Hs mb cb hb w (w.alloc (.cells (hos (.slice oP L.length cP)) 50)) (.slice oP L.length cP) l := ⟨C.below al1 C.lt, K.below al1 K.lt, by rw [← hhb]; exact Blk.new _ _ _, Only.of_below al1, al1.mono (by have := C.lt; omega)⟩
  clear q wf hg C K al1
  unfold hos at S1 ⊢
  go_enter Try.func33, Try.ntmps33
  go_upto_region 1 with fail
  obtain ⟨w1, hw1⟩ : ∃ w1, w.alloc (.cells #[.slice oP L.length cP, .string ⟨#[]⟩, .slice none 0 0] 50) = w1 := ⟨_, rfl⟩
  rw [hw1] at S1
  try rw [hw1]
  clear hw1
  try rw [hhb]
  have h0 : w1.cell? ⟨hb, 0, none⟩ = some (.slice oP L.length cP) := S1.H.cell 0
  clear hhb
  by_cases e1 : L.length < 1
  · have HF := Lib.hid S1
    have e1' : (L.length : Int) < 1 := by omega
    clear S1
    go_wp2_with fail
    go_ret
    exact ⟨HostR.no rfl (by omega), HF.out.O, HF.out.bel⟩
  · by_cases e2 : 4 < L.length
    · have HF := Lib.hid S1
      have e1' : ¬ (L.length : Int) < 1 := by omega
      have e2' : (4 : Int) < (L.length : Int) := by omega
      clear S1
      go_wp2_with fail
      go_ret
      exact ⟨HostR.no rfl (by omega), HF.out.O, HF.out.bel⟩
    · have e1' : ¬ (L.length : Int) < 1 := by omega
      have e2' : ¬ (4 : Int) < (L.length : Int) := by omega
      go_upto_block 0 with fail
      clear h0
      go_wp2_with fail
      go_loopw [24] (fun s24 wr => ∃ k : Nat, s24 = .int .i64 (k : Nat) ∧ k ≤ L.length ∧ HostP m (L.take k) ∧ Good (l ++ spH (L.take k)) ∧ Hs mb cb hb w wr (.slice oP L.length cP) (l ++ spH (L.take k))) (fun s24 _ => L.length - (intOf s24).toNat)
      case atStart => exact ⟨0, rfl, Nat.zero_le _, (by rw [List.take_zero]; exact hostP_nil _), (by rw [List.take_zero]; show Good (l ++ []); rw [List.append_nil]; exact HG.out), (by rw [List.take_zero]; show Hs mb cb hb w w1 (.slice oP L.length cP) (l ++ []); rw [List.append_nil]; exact S1)⟩
      case round =>
        rename World => wr
        clear S1
        obtain ⟨k, rfl, hk, hp, hg, S⟩ := hrel
        by_cases hlt : k < L.length
        · have q := HQ.out _ S.O
          obtain ⟨x, hx⟩ : ∃ x, L[k]? = some x := ⟨_, List.getElem?_eq_getElem hlt⟩
          obtain ⟨ph, poff, hoP, _, _, CP⟩ := row_at q rfl hx
          subst hoP
          have hk0 : (0 : Int) ≤ (k : Int) := by omega
          have hk1 : (k : Int) < (L.length : Int) := by omega
          have HX := Lib.hid hx
          have HP := Lib.hid (And.intro hp hg)
          have szp := szPl x
          unfold pl at szp CP
          clear hx hp hg
          go_upto_region 6 with (refine wpList_load_at rfl 52 _ rfl ph (poff + k * 2) rfl #[.int .u32 x.1, .int .i64 x.2] _ CP Try.underlying52 rfl szp ?_)
          have P2 := Blk.new wr 52 #[.int .u32 x.1, .int .i64 x.2]
          have al2 := (Below.refl wr.heap.size wr).alloc (Nat.le_refl _) (.cells #[.int .u32 x.1, .int .i64 x.2] 52)
          have S2 := S.below al2 (Nat.le_refl _)
          obtain ⟨w2, hw2⟩ : ∃ w2, wr.alloc (.cells #[.int .u32 x.1, .int .i64 x.2] 52) = w2 := ⟨_, rfl⟩
          rw [hw2] at P2 al2 S2
          try rw [hw2]
          clear hw2 S CP szp q
          obtain ⟨pb, hpb⟩ : ∃ pb, wr.heap.size = pb := ⟨_, rfl⟩
          rw [hpb] at P2
          try rw [hpb]
          clear hpb al2
          have q2 := HQ.out _ S2.O
          have hpl := place_any q2 (by omega) x.1
          obtain ⟨ri, hri⟩ : ∃ ri, idxA (fun y : Int × Int => decide (y.1 = x.1)) L = ri := ⟨_, rfl⟩
          obtain ⟨rb, hrb⟩ : ∃ rb, behindA x.1 L = rb := ⟨_, rfl⟩
          rw [hri, hrb] at hpl
          have HRI := Lib.hid (show ri = (k : Int) ↔ ∀ y ∈ L.take k, y.1 ≠ x.1 by rw [← hri]; exact first_iff HX.out)
          have p0 : w2.cell? ⟨pb, 0, none⟩ = some (.int .u32 x.1) := P2.cell 0
          have p1 : w2.cell? ⟨pb, 1, none⟩ = some (.int .i64 x.2) := P2.cell 1
          have CH := Cel.of_blk S2.H
          have szh := szHo (.slice (some ⟨ph, poff, none⟩) L.length cP)
          unfold hos at CH szh hpl
          clear hri hrb q2
          go_wp2_with (refine wpList_load_at rfl 50 _ rfl hb 0 rfl #[.slice (some ⟨ph, poff, none⟩) L.length cP, .string ⟨#[]⟩, .slice none 0 0] _ CH Try.underlying50 rfl szh ?_)
          refine hpl.mono ?_
          rintro e w3 ⟨rfl, hb3⟩
          have S3 := S2.below hb3 (Nat.le_refl _)
          have P3 := P2.below hb3 P2.lt
          clear hpl S2 P2 CH szh hb3 p0 p1
          have p0 : w3.cell? ⟨pb, 0, none⟩ = some (.int .u32 x.1) := P3.cell 0
          have p1 : w3.cell? ⟨pb, 1, none⟩ = some (.int .i64 x.2) := P3.cell 1
          have hno : ∀ h : 1 ≤ L.length ∧ L.length ≤ 4 ∧ HostP m L ∧ Good (l ++ spH L), (-1 ≤ x.2 ∧ x.2 < (m : Int)) ∧ (∀ y ∈ L.take k, y.1 ≠ x.1) ∧ Good (l ++ spH (L.take k) ++ [(x.2, x.1)]) := fun ⟨_, _, h3, h4⟩ => by
            have h5 := hostP_snoc.1 (by rw [← take_snoc HX.out]; exact hostP_take h3 (k + 1) : HostP m (L.take k ++ [x]))
            refine ⟨h5.2.1, h5.2.2, ?_⟩
            rw [List.append_assoc, ← spH_snoc, ← take_snoc HX.out]
            exact good_sub (List.Sublist.append (List.Sublist.refl _) ((List.take_sublist (k + 1) L).map _)) h4
          have HNO := Lib.hid hno
          clear hno
          by_cases e3 : x.2 < -1
          · have HF := Lib.hid S3
            clear S3 P3
            go_wp2_with fail
            go_ret
            exact ⟨HostR.no rfl (fun h => absurd (HNO.out h).1 (by omega)), HF.out.O, HF.out.bel⟩
          · by_cases e4 : (m : Int) ≤ x.2
            · have HF := Lib.hid S3
              clear S3 P3
              go_wp2_with fail
              go_ret
              exact ⟨HostR.no rfl (fun h => absurd (HNO.out h).1 (by omega)), HF.out.O, HF.out.bel⟩
            · by_cases e5 : ri = (k : Int)
              · subst e5
                have hll : (l ++ spH (L.take k)).length ≤ 100 := by
                  rw [List.length_append]
                  simp only [spH, List.length_map, List.length_take]
                  omega
                have hfr := fresh_any (x.2, x.1) hll S3.C S3.K (small_wf (by show -1 ≤ x.2; omega) (by show x.2 < 100; omega)) (HW.out x (List.mem_of_getElem? HX.out))
                obtain ⟨fb, hfb⟩ : ∃ fb, frB (l ++ spH (L.take k)) (x.2, x.1) = fb := ⟨_, rfl⟩
                rw [hfb] at hfr
                have HFB := Lib.hid (show fb = true ↔ x.1 ≠ 0 ∧ (x.2, x.1) ∉ l ++ spH (L.take k) by
                  rw [← hfb]
                  unfold frB
                  rw [decide_eq_true_eq])
                dsimp only at hfr
                have e4' : x.2 < (m : Int) := by omega
                have e3' : -1 ≤ x.2 := by omega
                clear hfb hll P3
                go_wp2_with fail
                refine hfr.mono ?_
                rintro e w4 ⟨rfl, hC4, hO4, hB4⟩
                have HS := Lib.hid (show Hs mb cb hb w w4 (.slice (some ⟨ph, poff, none⟩) L.length cP) (l ++ spH (L.take k) ++ [(x.2, x.1)]) from ⟨hC4, hO4.blk S3.K hcm, hO4.blk S3.H hbm, S3.O.trans hO4, S3.bel.trans hB4⟩)
                clear hfr hC4 hO4 hB4 S3 p0 p1
                cases fb
                · go_wp2_with fail
                  go_ret
                  refine ⟨HostR.no rfl (fun h => ?_), HS.out.O, HS.out.bel⟩
                  have h6 := good_snoc.1 (HNO.out h).2.2
                  exact absurd (HFB.out.2 ⟨h6.2.2, h6.2.1⟩) Bool.false_ne_true
                · have h7 := HFB.out.1 rfl
                  have HG7 := Lib.hid (show Good (l ++ spH (L.take (k + 1))) by
                    rw [take_snoc HX.out, spH_snoc, ← List.append_assoc]
                    exact good_snoc.2 ⟨HP.out.2, h7.2, h7.1⟩)
                  have HP7 := Lib.hid (show HostP m (L.take (k + 1)) by
                    rw [take_snoc HX.out]
                    exact hostP_snoc.2 ⟨HP.out.1, ⟨e3', e4'⟩, HRI.out.1 (by first | trivial | rfl)⟩)
                  have HS7 := Lib.hid (show Hs mb cb hb w w4 (.slice (some ⟨ph, poff, none⟩) L.length cP) (l ++ spH (L.take (k + 1))) by
                    rw [take_snoc HX.out, spH_snoc, ← List.append_assoc]
                    exact HS.out)
                  clear h7
                  go_wp2_with fail
                  go_roundw
                  case rel => exact ⟨k + 1, by go_num, by omega, HP7.out, HG7.out, HS7.out⟩
                  case measure => simp [intOf]; omega
              · have HF := Lib.hid S3
                have HE5 := Lib.hid e5
                clear S3 P3
                go_wp2_with fail
                go_ret
                exact ⟨HostR.no rfl (fun h => absurd (HRI.out.2 (HNO.out h).2.1) HE5.out), HF.out.O, HF.out.bel⟩
        · obtain rfl : k = L.length := by omega
          rw [List.take_length] at hp hg S
          have HF := Lib.hid (And.intro hp (And.intro hg S))
          clear hp hg S
          go_wp2_with fail
          go_ret
          exact ⟨⟨true, rfl, ⟨fun _ => ⟨by omega, by omega, HF.out.1, HF.out.2.1⟩, fun _ => rfl⟩, fun _ => HF.out.2.2.C⟩, HF.out.2.2.O, HF.out.2.2.bel⟩
end Go.Proofs.Ythjhiogbnacmdaa.top
