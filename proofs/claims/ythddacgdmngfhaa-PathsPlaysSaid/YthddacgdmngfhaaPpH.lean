/- Layer 15: the statement's own words: which path is used, where one is, which ones stay (gen-pph.py wrote this). -/
import Derived.Test.YthddacgdmngfhaaPpG
namespace Go.Proofs.Ythddacgdmngfhaa.pat
open Go.Sort (grow)
open Go.ChangeShapes Go.WideShapes Go.ChangeAt Go.RowKit kit
set_option maxRecDepth 100000

section
variable {b0 : Nat} {L : List Px} {v : Value} {w : World}
set_option maxHeartbeats 2000000 in
theorem lfind_g (q : Qo w b0 15 v L.length (cellsX L)) (hl : L.length ≤ 1000) (a b : Int) : Calls Try.prog 67 #[v, .int .u32 a, .int .u32 b] w fun e w' => e = .returned (.int .i64 (idx (fun x => (decide (a = 0) || decide (x.a = a)) && decide (x.b = b)) L)) ∧ w' = w := by
  obtain ⟨oa, cap, rfl, _, _⟩ := q.shape
  go_enter Try.func67, Try.ntmps67
  go_wp2_with fail
  go_loopw [7] (fun s7 wr => ∃ i : Nat, s7 = .int .i64 (i : Nat) ∧ i ≤ L.length ∧ (∀ (j : Nat) x, j < i → L[j]? = some x → ((decide (a = 0) || decide (x.a = a)) && decide (x.b = b)) = false) ∧ wr = w) (fun s7 _ => L.length - (intOf s7).toNat)
  case atStart => exact ⟨0, rfl, Nat.zero_le _, fun j x hj => absurd hj (Nat.not_lt_zero j), rfl⟩
  case round =>
    obtain ⟨i, rfl, hi, hno, hwr⟩ := hrel
    obtain rfl : w = wr := hwr.symm
    by_cases hlt : i < L.length
    · have hii : (i : Int) < (L.length : Int) := by omega
      have hi0 : (0 : Int) ≤ (i : Int) := by omega
      obtain ⟨x, hx⟩ : ∃ x, L[i]? = some x := ⟨_, List.getElem?_eq_getElem hlt⟩
      obtain ⟨hh, off, rfl, _, _, _, X⟩ := row_at q rfl hx
      have x0 : w.cell? ⟨hh, off + i * 15, none⟩ = some (.int .u32 x.a) := by have := X.cell 0 (u := .int .u32 x.a) rfl; exact this
      have x1 : w.cell? ⟨hh, off + i * 15 + 1, none⟩ = some (.int .u32 x.b) := X.cell 1 (u := .int .u32 x.b) rfl
      have HX := Lib.hid (And.intro hx hno)
      clear hx hno X
      go_upto_region 4 with fail
      go_cut [33] (fun s wx => s = .bool ((decide (a = 0) || decide (x.a = a)) && decide (x.b = b)) ∧ wx = w)
      case first =>
        by_cases e1 : a = 0
        · subst e1
          by_cases e3 : x.b = b
          · go_wp2_with fail
            go_meet
            exact ⟨by simp [e3], rfl⟩
          · go_wp2_with fail
            go_meet
            exact ⟨by simp [e3], rfl⟩
        · by_cases e2 : x.a = a
          · by_cases e3 : x.b = b
            · go_wp2_with fail
              go_meet
              exact ⟨by simp [e1, e2, e3], rfl⟩
            · go_wp2_with fail
              go_meet
              exact ⟨by simp [e1, e2, e3], rfl⟩
          · go_wp2_with fail
            go_meet
            exact ⟨by simp [e1, e2], rfl⟩
      case rest =>
      obtain ⟨rfl, hwc⟩ := hcut
      obtain rfl : w = wc := hwc.symm
      clear x0 x1
      rcases hp : ((decide (a = 0) || decide (x.a = a)) && decide (x.b = b)) with _ | _
      · have HP := Lib.hid hp
        clear hp
        go_wp2_with fail
        go_roundw
        case rel => exact ⟨i + 1, by go_num, by omega, fun j y hj hy => by
          by_cases e : j = i
          · subst e
            have : y = x := by have := HX.out.1; rw [hy] at this; exact Option.some.inj this
            rw [this]; exact HP.out
          · exact HX.out.2 j y (by omega) hy, trivial⟩
        case measure => simp [intOf]; omega
      · have hres := idx_hit (p := fun x => (decide (a = 0) || decide (x.a = a)) && decide (x.b = b)) HX.out.1 hp HX.out.2
        have HR := Lib.hid hres
        clear hres hp
        go_wp2_with fail
        go_ret
        exact ⟨ret_int HR.out.symm, rfl⟩
    · obtain rfl : i = L.length := by omega
      have hres := idx_never (p := fun x => (decide (a = 0) || decide (x.a = a)) && decide (x.b = b)) hno
      have HR := Lib.hid hres
      clear hres hno
      go_wp2_with fail
      go_ret
      exact ⟨ret_int HR.out.symm, rfl⟩
set_option maxHeartbeats 4000000 in
theorem luse_g (q : Qo w b0 15 v L.length (cellsX L)) (hl : L.length ≤ 1000) (f : Nat) (hf : f < L.length) : Calls Try.prog 123 #[v, .int .i64 (f : Nat)] w fun e w' => e = .returned (.int .i64 (useO L f)) ∧ w' = w := by
  obtain ⟨oa, cap, rfl, _, _⟩ := q.shape
  obtain ⟨y, hy⟩ : ∃ y, L[f]? = some y := ⟨_, List.getElem?_eq_getElem hf⟩
  obtain ⟨h0, off0, rfl, _, _, _, Y⟩ := row_at q rfl hy
  have y2 : w.cell? ⟨h0, off0 + f * 15 + 2, none⟩ = some (.int .i64 y.s) := Y.cell 2 (u := .int .i64 y.s) rfl
  have hfst := stAt_of hy
  have hf0 : (0 : Int) ≤ (f : Int) := by omega
  have hf1 : (f : Int) < (L.length : Int) := by omega
  clear Y hy
  go_enter Try.func123, Try.ntmps123
  by_cases hs2 : y.s = 2
  · have hfst2 : stAt L f = 2 := by rw [hfst, hs2]
    have HF := Lib.hid hfst2
    rw [hs2] at y2
    clear hfst hfst2 hs2
    go_wp2_with fail
    clear y2
    go_loopw [5] (fun s wr => ∃ t : Nat, s = .int .i64 (t : Nat) ∧ 1 ≤ t ∧ t ≤ L.length + 1 ∧ (∀ j, 1 ≤ j → j < t → stAt L ((f + j) % L.length) ≠ 1) ∧ wr = w) (fun s _ => L.length + 2 - (intOf s).toNat)
    case atStart => exact ⟨1, rfl, Nat.le_refl _, by omega, fun j h1 h2 => by omega, rfl⟩
    case round =>
      obtain ⟨t, rfl, h1, h2, hno, hwr⟩ := hrel
      obtain rfl : w = wr := hwr.symm
      by_cases hlt : t ≤ L.length
      · have hti : (t : Int) ≤ (L.length : Int) := by omega
        obtain ⟨k, hk⟩ : ∃ k, (f + t) % L.length = k := ⟨_, rfl⟩
        have hkl : k < L.length := by rw [← hk]; exact Nat.mod_lt _ (by omega)
        have hm1 : ((f : Int) + (t : Int)).tmod (L.length : Int) = (k : Int) := by rw [← hk, ← Int.natCast_add, ← Int.ofNat_tmod]
        have hm2 : ((f : Int) + (t : Int)) % (L.length : Int) = (k : Int) := by rw [← hk, Int.natCast_emod, Int.natCast_add]
        obtain ⟨x, hx⟩ : ∃ x, L[k]? = some x := ⟨_, List.getElem?_eq_getElem hkl⟩
        obtain ⟨hh, off, he, _, _, _, X⟩ := row_at q rfl hx
        cases he
        have x2 : w.cell? ⟨h0, off0 + k * 15 + 2, none⟩ = some (.int .i64 x.s) := X.cell 2 (u := .int .i64 x.s) rfl
        have hst := stAt_of hx
        have hk0 : (0 : Int) ≤ (k : Int) := by omega
        have hk1 : (k : Int) < (L.length : Int) := by omega
        have hne : ¬ (L.length : Int) = 0 := by omega
        by_cases hs : x.s = 1
        · have htl : t < L.length := by
            rcases Nat.lt_or_eq_of_le hlt with h | h
            · exact h
            · exfalso
              have e : k = f := by rw [← hk, h, Nat.add_mod_right, Nat.mod_eq_of_lt hf]
              rw [e, HF.out] at hst
              omega
          have hres := nxtO_hit h1 htl (by rw [hk, hst, hs]) hno
          rw [hk] at hres
          have HX := Lib.hid hres
          clear hres hno hst X hx htl
          go_wp2_with fail
          go_ret
          refine ⟨ret_int ?_, rfl⟩
          unfold useO
          rw [HF.out, if_neg (by simp), HX.out, if_pos (by omega)]
        · have HX := Lib.hid (And.intro hno (And.intro hst (And.intro hk hs)))
          clear hno hst X hx hk
          go_wp2_with fail
          go_roundw
          case rel => exact ⟨t + 1, by go_num, by omega, by omega, fun j a b => by
            by_cases e : j = t
            · subst e; rw [HX.out.2.2.1, HX.out.2.1]; exact HX.out.2.2.2
            · exact HX.out.1 j a (by omega), trivial⟩
          case measure => simp [intOf]; omega
      · have hti : ¬ (t : Int) ≤ (L.length : Int) := by omega
        have hres5 := nxtO_none (L := L) (n := f) (st := 1) (fun j a b => hno j a (by omega))
        have HN5 := Lib.hid hres5
        clear hres5 hno
        go_wp2_with fail
        go_loopw [7] (fun s wr => ∃ t : Nat, s = .int .i64 (t : Nat) ∧ 1 ≤ t ∧ t ≤ L.length + 1 ∧ (∀ j, 1 ≤ j → j < t → stAt L ((f + j) % L.length) ≠ 0) ∧ wr = w) (fun s _ => L.length + 2 - (intOf s).toNat)
        case atStart => exact ⟨1, rfl, Nat.le_refl _, by omega, fun j h1 h2 => by omega, rfl⟩
        case round =>
          obtain ⟨t, rfl, h1, h2, hno, hwr⟩ := hrel
          obtain rfl : w = wr := hwr.symm
          by_cases hlt : t ≤ L.length
          · have hti : (t : Int) ≤ (L.length : Int) := by omega
            obtain ⟨k, hk⟩ : ∃ k, (f + t) % L.length = k := ⟨_, rfl⟩
            have hkl : k < L.length := by rw [← hk]; exact Nat.mod_lt _ (by omega)
            have hm1 : ((f : Int) + (t : Int)).tmod (L.length : Int) = (k : Int) := by rw [← hk, ← Int.natCast_add, ← Int.ofNat_tmod]
            have hm2 : ((f : Int) + (t : Int)) % (L.length : Int) = (k : Int) := by rw [← hk, Int.natCast_emod, Int.natCast_add]
            obtain ⟨x, hx⟩ : ∃ x, L[k]? = some x := ⟨_, List.getElem?_eq_getElem hkl⟩
            obtain ⟨hh, off, he, _, _, _, X⟩ := row_at q rfl hx
            cases he
            have x2 : w.cell? ⟨h0, off0 + k * 15 + 2, none⟩ = some (.int .i64 x.s) := X.cell 2 (u := .int .i64 x.s) rfl
            have hst := stAt_of hx
            have hk0 : (0 : Int) ≤ (k : Int) := by omega
            have hk1 : (k : Int) < (L.length : Int) := by omega
            have hne : ¬ (L.length : Int) = 0 := by omega
            by_cases hs : x.s = 0
            · have htl : t < L.length := by
                rcases Nat.lt_or_eq_of_le hlt with h | h
                · exact h
                · exfalso
                  have e : k = f := by rw [← hk, h, Nat.add_mod_right, Nat.mod_eq_of_lt hf]
                  rw [e, HF.out] at hst
                  omega
              have hres := nxtO_hit h1 htl (by rw [hk, hst, hs]) hno
              rw [hk] at hres
              have HX := Lib.hid hres
              clear hres hno hst X hx htl
              go_wp2_with fail
              go_ret
              refine ⟨ret_int ?_, rfl⟩
              unfold useO
              rw [HF.out, if_neg (by simp), HN5.out, if_neg (by omega), HX.out, if_pos (by omega)]
            · have HX := Lib.hid (And.intro hno (And.intro hst (And.intro hk hs)))
              clear hno hst X hx hk
              go_wp2_with fail
              go_roundw
              case rel => exact ⟨t + 1, by go_num, by omega, by omega, fun j a b => by
                by_cases e : j = t
                · subst e; rw [HX.out.2.2.1, HX.out.2.1]; exact HX.out.2.2.2
                · exact HX.out.1 j a (by omega), trivial⟩
              case measure => simp [intOf]; omega
          · have hti : ¬ (t : Int) ≤ (L.length : Int) := by omega
            have hres7 := nxtO_none (L := L) (n := f) (st := 0) (fun j a b => hno j a (by omega))
            have HN7 := Lib.hid hres7
            clear hres7 hno
            go_wp2_with fail
            go_ret
            refine ⟨ret_int ?_, rfl⟩
            unfold useO
            rw [HF.out, if_neg (by simp), HN5.out, if_neg (by omega), HN7.out, if_neg (by omega)]
  · have HF := Lib.hid hfst
    have HS := Lib.hid hs2
    clear hfst
    go_wp2_with fail
    go_ret
    refine ⟨ret_int ?_, rfl⟩
    unfold useO
    rw [HF.out, if_pos HS.out]
set_option maxHeartbeats 4000000 in
theorem ldrop_g (q : Qo w b0 15 v L.length (cellsX L)) (hl : L.length ≤ 8) (l p k : Int) (f : Nat) : Calls Try.prog 69 #[v, .int .u32 l, .int .u32 p, .int .i64 k, .int .i64 (f : Nat)] w fun e w' => (∃ v', e = .returned v' ∧ Qo w' w.heap.size 1 v' (leftO L f l p k).length (cellsI (leftO L f l p k))) ∧ Below w.heap.size w w' := by
  obtain ⟨oa, cap, rfl, _, _⟩ := q.shape
  obtain ⟨B0, hB0⟩ : ∃ B0, w.heap.size = B0 := ⟨_, rfl⟩
  have HB0 := Lib.hid hB0
  have al := (Below.refl w.heap.size w).alloc (Nat.le_refl _) (.cells #[] 3)
  have q1 := q.below al (Nat.le_refl _)
  have e1 := Qo.empty (w.alloc (.cells #[] 3)) w.heap.size 1 (some ⟨w.heap.size, 0, none⟩)
  have hbl := fun i (hi : blkOf (.slice oa L.length cap) = some i) => (q.lt hi).2
  clear q
  go_enter Try.func69, Try.ntmps69
  go_upto_region 2 with fail
  obtain ⟨w1, hw1⟩ : ∃ w1, w.alloc (.cells #[] 3) = w1 := ⟨_, rfl⟩
  rw [hw1] at al q1 e1
  try rw [hw1]
  clear hw1
  rw [hB0] at al e1 hbl
  try rw [hB0]
  clear hB0
  have HS := Lib.hid (And.intro q1 (And.intro e1 al))
  clear q1 e1 al
  go_wp2_with fail
  go_loopw [11, 12] (fun s11 s12 wr => ∃ (i : Nat) (ol : Option Addr) (cl : Nat), s12 = .int .i64 (i : Nat) ∧ i ≤ L.length ∧ s11 = .slice ol (stays l p k 0 (L.take i)).length cl ∧ Qo wr B0 1 (.slice ol (stays l p k 0 (L.take i)).length cl) (stays l p k 0 (L.take i)).length (cellsI (stays l p k 0 (L.take i))) ∧ Qo wr b0 15 (.slice oa L.length cap) L.length (cellsX L) ∧ Below B0 w wr) (fun _ s12 _ => L.length - (intOf s12).toNat)
  case atStart => exact ⟨0, some ⟨B0, 0, none⟩, 0, rfl, Nat.zero_le _, rfl, HS.out.2.1, HS.out.1, HS.out.2.2⟩
  case round =>
    clear HS
    obtain ⟨i, ol, cl, rfl, hi, rfl, ql, q, bel⟩ := hrel
    by_cases hlt : i < L.length
    · have hii : (i : Int) < (L.length : Int) := by omega
      have hi0 : (0 : Int) ≤ (i : Int) := by omega
      obtain ⟨x, hx⟩ : ∃ x, L[i]? = some x := ⟨_, List.getElem?_eq_getElem hlt⟩
      obtain ⟨hh, off, rfl, _, _, _, X⟩ := row_at q rfl hx
      have x0 : wr.cell? ⟨hh, off + i * 15, none⟩ = some (.int .u32 x.a) := by have := X.cell 0 (u := .int .u32 x.a) rfl; exact this
      have x1 : wr.cell? ⟨hh, off + i * 15 + 1, none⟩ = some (.int .u32 x.b) := X.cell 1 (u := .int .u32 x.b) rfl
      have htk : L.take (i + 1) = L.take i ++ [x] := by rw [List.take_add_one, hx]; rfl
      have htl : (L.take i).length = i := by rw [List.length_take]; omega
      have hst : stays l p k 0 (L.take (i + 1)) = if goes l p k i x = true then stays l p k 0 (L.take i) else stays l p k 0 (L.take i) ++ [i] := by
        rw [htk, stays_append, htl, Nat.zero_add]
        simp only [stays]
        split <;> simp
      have hsl := stays_len l p k (L.take i) 0
      rw [htl] at hsl
      obtain ⟨S0, hS0⟩ : ∃ S0, stays l p k 0 (L.take i) = S0 := ⟨_, rfl⟩
      rw [hS0] at hst hsl ql
      try rw [hS0]
      have HT := Lib.hid (And.intro hst (And.intro ql (And.intro q bel)))
      clear hst htk htl ql q bel X hx hS0
      go_upto_region 5 with fail
      go_cut [48] (fun s wx => s = .bool (!goes l p k i x) ∧ wx = wr)
      case first =>
        by_cases e1 : (i : Int) = k
        · go_wp2_with fail
          go_meet
          exact ⟨by simp [goes, e1], rfl⟩
        · by_cases e2 : l = 0
          · subst e2
            by_cases e4 : p = 0
            · subst e4
              go_wp2_with fail
              go_meet
              exact ⟨by simp [goes, e1], rfl⟩
            · by_cases e5 : x.b = p
              · go_wp2_with fail
                go_meet
                exact ⟨by simp [goes, e1, e4, e5], rfl⟩
              · go_wp2_with fail
                go_meet
                exact ⟨by simp [goes, e1, e4, e5], rfl⟩
          · by_cases e3 : x.a = l
            · by_cases e4 : p = 0
              · subst e4
                go_wp2_with fail
                go_meet
                exact ⟨by simp [goes, e1, e2, e3], rfl⟩
              · by_cases e5 : x.b = p
                · go_wp2_with fail
                  go_meet
                  exact ⟨by simp [goes, e1, e2, e3, e4, e5], rfl⟩
                · go_wp2_with fail
                  go_meet
                  exact ⟨by simp [goes, e1, e2, e3, e4, e5], rfl⟩
            · go_wp2_with fail
              go_meet
              exact ⟨by simp [goes, e1, e2, e3], rfl⟩
      case rest =>
      obtain ⟨rfl, hwc⟩ := hcut
      obtain rfl : wr = wc := hwc.symm
      clear x0 x1
      rcases hg : goes l p k i x with _ | _
      · have hst := HT.out.1
        rw [hg, if_neg (by simp)] at hst
        have hgr : B0 ≤ wr.heap.size := by have := HT.out.2.2.2.size; rw [HB0.out] at this; exact this
        have al := (Below.refl wr.heap.size wr).alloc (Nat.le_refl _) (.cells #[.int .i64 (i : Nat)] 3)
        have srcI := src_item (P := Try.prog) (SL := 25) (sz := 1) Try.underlying25 (Blk.new wr 3 #[.int .i64 (i : Nat)]) (fun u hu => by simp at hu; subst hu; rfl) rfl
        obtain ⟨i0, hi0', hz0, hz1, hz2⟩ := info_parts infoI
        obtain ⟨v9, w9, hr9, q9, gr9, ha9⟩ := qo_append (P := Try.prog) (t := 25) (ty := 25) Try.underlying25 hi0' hz0 hz1 hz2 rfl (HT.out.2.1.below al (Nat.le_refl _)) srcI (by unfold maxLen; omega) (by omega) (by have := al.size; omega)
        have b9 : Below B0 wr w9 := (al.mono hgr).grown gr9 (by have := al.size; omega) (fun k hk => ((HT.out.2.1.below al (Nat.le_refl _)).lt hk).1)
        obtain ⟨o9, c9, hv9, _, _⟩ := q9.shape
        subst hv9
        have hl9 : (stays l p k 0 (L.take (i + 1))).length = S0.length + 1 := by rw [hst, List.length_append]; rfl
        have q9' : Qo w9 B0 1 (.slice o9 (stays l p k 0 (L.take (i + 1))).length c9) (stays l p k 0 (L.take (i + 1))).length (cellsI (stays l p k 0 (L.take (i + 1)))) := by
          rw [hst, List.length_append]
          simpa [cellsI] using q9
        have HE := Lib.hid (And.intro q9' (And.intro (HT.out.2.2.1.block b9.size fun j hj => b9.block j (hbl j hj)) (And.intro (HT.out.2.2.2.trans b9) hl9)))
        clear q9 q9' al srcI gr9 ha9 b9 hi0' hz0 hz1 hz2 hst hl9 hg HT
        go_upto_region 4 with (at_builtin; refine wpList_append_q rfl _ _ _ rfl rfl rfl hr9 ?_)
        clear hr9
        go_wp2_with fail
        go_roundw
        case rel => exact ⟨i + 1, o9, c9, by go_num, by omega, by rw [HE.out.2.2.2], HE.out.1, HE.out.2.1, HE.out.2.2.1⟩
        case measure => simp [intOf]; omega
      · have hst := HT.out.1
        rw [hg, if_pos rfl] at hst
        have HG := Lib.hid (And.intro hst (And.intro HT.out.2.1 (And.intro HT.out.2.2.1 HT.out.2.2.2)))
        clear hst hg HT
        go_wp2_with fail
        go_roundw
        case rel => exact ⟨i + 1, ol, cl, by go_num, by omega, by rw [HG.out.1], by rw [HG.out.1]; exact HG.out.2.1, HG.out.2.2.1, HG.out.2.2.2⟩
        case measure => simp [intOf]; omega
    · obtain rfl : i = L.length := by omega
      rw [List.take_length] at ql ⊢
      obtain ⟨S0, hS0⟩ : ∃ S0, stays l p k 0 L = S0 := ⟨_, rfl⟩
      have HS0 := Lib.hid hS0
      rw [hS0] at ql
      try rw [hS0]
      clear hS0
      by_cases hn : S0 = []
      · have hlf : leftO L f l p k = [f] := by unfold leftO; rw [HS0.out, if_pos hn]
        have hz : S0.length = 0 := by rw [hn]; rfl
        have hgr : B0 ≤ wr.heap.size := by have := bel.size; rw [HB0.out] at this; exact this
        have N := Blk.new wr 3 #[.int .i64 (f : Nat)]
        have qN : Qo (wr.alloc (.cells #[.int .i64 (f : Nat)] 3)) B0 1 (.slice (some ⟨wr.heap.size, 0, none⟩) 1 1) 1 (cellsI [f]) := ⟨rfl, _, 1, rfl, Nat.le_refl _, by unfold maxLen; omega, fun _ => ⟨wr.heap.size, 0, rfl, hgr, N.lt, fun j hj => by
          obtain rfl : j = 0 := by omega
          exact ⟨by rw [N.cell 0]; rfl, N.frozen 0⟩, fun j hj => by
          obtain rfl : j = 0 := by omega
          exact N.cell 0⟩⟩
        have HE := Lib.hid (And.intro hlf (And.intro qN (bel.alloc hgr (.cells #[.int .i64 (f : Nat)] 3))))
        rw [hz]
        clear hlf N qN ql q bel hn hz
        go_wp2_with fail
        go_ret
        exact ⟨⟨_, rfl, by rw [HE.out.1, HB0.out]; exact HE.out.2.1⟩, by rw [HB0.out]; exact HE.out.2.2⟩
      · have hlf : leftO L f l p k = S0 := by unfold leftO; rw [HS0.out, if_neg hn]
        have hln := List.length_pos_iff.2 hn
        have hz2 : ((S0.length : Int) == 0) = false := beq_eq_false_iff_ne.2 (by omega)
        have HE := Lib.hid (And.intro hlf (And.intro ql bel))
        clear hlf ql q bel hn
        go_wp2_with fail
        go_ret
        exact ⟨⟨_, rfl, by rw [HE.out.1, HB0.out]; exact HE.out.2.1⟩, by rw [HB0.out]; exact HE.out.2.2⟩
end
end Go.Proofs.Ythddacgdmngfhaa.pat
