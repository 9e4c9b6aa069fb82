/- Layer 15: which paths stay; those kept (gen-ppe.py wrote this). -/
import Derived.Test.YthddacgdmngfhaaPpD
namespace Go.Proofs.Ythddacgdmngfhaa.pat
open Go.Sort (grow)
open Go.ChangeShapes Go.WideShapes Go.ChangeAt Go.RowKit kit
set_option maxRecDepth 100000

set_option maxHeartbeats 2000000 in
theorem clg_goes (i : Nat) (x : Px) (l p k : Int) (kb lb pb : Nat) (W : World) (K : Blk W kb 3 #[.int .i64 k]) (Lb : Blk W lb 109 #[.int .u32 l]) (Pb : Blk W pb 109 #[.int .u32 p]) : Calls Try.prog 115 #[.int .i64 (i : Nat), .agg (px x), .pointer (some ⟨kb, 0, none⟩), .pointer (some ⟨lb, 0, none⟩), .pointer (some ⟨pb, 0, none⟩)] W fun e w' => e = .returned (.bool (goes l p k i x)) ∧ Below W.heap.size W w' := by
  have K1 := K.alloc (.cells (px x) 113)
  have L1 := Lb.alloc (.cells (px x) 113)
  have P1 := Pb.alloc (.cells (px x) 113)
  have X1 := Blk.new W 113 (px x)
  have bel := (Below.refl W.heap.size W).alloc (Nat.le_refl _) (.cells (px x) 113)
  go_enter Try.func115, Try.ntmps115
  go_upto_region 1 with fail
  obtain ⟨w1, hw1⟩ : ∃ w1, W.alloc (.cells (px x) 113) = w1 := ⟨_, rfl⟩
  rw [hw1] at K1 L1 P1 X1 bel
  try rw [hw1]
  clear hw1
  have k0 : w1.cell? ⟨kb, 0, none⟩ = some (.int .i64 k) := K1.cell 0
  have l0 : w1.cell? ⟨lb, 0, none⟩ = some (.int .u32 l) := L1.cell 0
  have p0 : w1.cell? ⟨pb, 0, none⟩ = some (.int .u32 p) := P1.cell 0
  have x0 : w1.cell? ⟨W.heap.size, 0, none⟩ = some (.int .u32 x.a) := X1.cell 0
  have x1 : w1.cell? ⟨W.heap.size, 1, none⟩ = some (.int .u32 x.b) := X1.cell 1
  clear K1 L1 P1 X1 K Lb Pb
  by_cases e1 : (i : Int) = k
  · go_wp2_with fail
    go_ret
    exact ⟨ret_bool (by simp [goes, e1]), bel⟩
  · by_cases e2 : l = 0
    · subst e2
      by_cases e4 : p = 0
      · subst e4
        go_wp2_with fail
        go_ret
        exact ⟨ret_bool (by simp [goes, e1]), bel⟩
      · by_cases e5 : x.b = p
        · go_wp2_with fail
          go_ret
          exact ⟨ret_bool (by simp [goes, e1, e4, e5]), bel⟩
        · go_wp2_with fail
          go_ret
          exact ⟨ret_bool (by simp [goes, e1, e4, e5]), bel⟩
    · by_cases e3 : x.a = l
      · by_cases e4 : p = 0
        · subst e4
          go_wp2_with fail
          go_ret
          exact ⟨ret_bool (by simp [goes, e1, e2, e3]), bel⟩
        · by_cases e5 : x.b = p
          · go_wp2_with fail
            go_ret
            exact ⟨ret_bool (by simp [goes, e1, e2, e3, e4, e5]), bel⟩
          · go_wp2_with fail
            go_ret
            exact ⟨ret_bool (by simp [goes, e1, e2, e3, e4, e5]), bel⟩
      · go_wp2_with fail
        go_ret
        exact ⟨ret_bool (by simp [goes, e1, e2, e3]), bel⟩
/-- Places in an array of eight. -/
def arr8 (P : List Nat) : Array Value := (cellsI P ++ List.replicate (8 - P.length) (Value.int .i64 0)).toArray
theorem arr8_size {P : List Nat} (h : P.length ≤ 8) : (arr8 P).size = 8 := by unfold arr8 cellsI; simp; omega
theorem arr8_get {P : List Nat} (j : Nat) (h : j < P.length) : (arr8 P)[j]? = some (.int .i64 (P[j] : Nat)) := by
  unfold arr8 cellsI
  rw [List.getElem?_toArray, List.getElem?_append_left (by simpa using h), List.getElem?_map, List.getElem?_eq_getElem h]
  rfl
theorem arr8_set {P : List Nat} (h : P.length < 8) (n : Nat) : (arr8 P).setIfInBounds P.length (.int .i64 (n : Nat)) = arr8 (P ++ [n]) := by
  apply Array.ext_getElem?
  intro i
  have h8 := arr8_size (P := P) (by omega)
  have h8' : (arr8 (P ++ [n])).size = 8 := arr8_size (by simp; omega)
  rw [Array.getElem?_setIfInBounds]
  by_cases e : P.length = i
  · subst e
    rw [if_pos rfl, if_pos (by omega), arr8_get _ (by simp)]
    simp
  · rw [if_neg e]
    unfold arr8 cellsI
    rw [List.getElem?_toArray, List.getElem?_toArray, List.map_append, List.length_append]
    by_cases e2 : i < P.length
    · rw [List.getElem?_append_left (by simpa using e2), List.append_assoc, List.getElem?_append_left (by simpa using e2)]
    · rw [List.getElem?_append_right (by simp; omega), List.getElem?_append_right (by simp; omega)]
      simp only [List.length_map, List.length_append, List.length_cons, List.length_nil]
      by_cases e3 : i < 8
      · rw [List.getElem?_replicate, List.getElem?_replicate, if_pos (by omega), if_pos (by omega)]
      · rw [List.getElem?_eq_none (by simp; omega), List.getElem?_eq_none (by simp; omega)]
theorem arr8_one (P : List Nat) : (arr8 P).all (·.oneCell') = true := by
  rw [Array.all_eq_true_iff_forall_mem]
  intro u hu
  unfold arr8 cellsI at hu
  simp only [List.mem_toArray, List.mem_append, List.mem_map, List.mem_replicate] at hu
  rcases hu with ⟨i, _, rfl⟩ | ⟨_, rfl⟩
  · rfl
  · rfl
theorem szA (P : List Nat) (h : P.length ≤ 8) : (Try.prog.info? 217).map (·.size) = some (arr8 P).size := by rw [arr8_size h]; kernel_rfl
theorem arr8_nil : arr8 [] = #[.int .i64 0, .int .i64 0, .int .i64 0, .int .i64 0, .int .i64 0, .int .i64 0, .int .i64 0, .int .i64 0] := by kernel_rfl
section
variable {b0 g f : Nat} {L : List Px} {w w' : World}
set_option maxHeartbeats 4000000 in
theorem staying_g {v0 : Value} (h : Pw b0 g L f v0 w) (hl : L.length ≤ 8) (l p k : Int) (kb lb pb : Nat) (K : Blk w kb 3 #[.int .i64 k]) (Lb : Blk w lb 109 #[.int .u32 l]) (Pb : Blk w pb 109 #[.int .u32 p]) : Calls Try.prog 116 #[.pointer (some ⟨g, 0, none⟩), .func (.func 115) #[] #[.pointer (some ⟨kb, 0, none⟩), .pointer (some ⟨lb, 0, none⟩), .pointer (some ⟨pb, 0, none⟩)]] w fun e w' => e = .returned (.tuple #[.agg (arr8 (stays l p k 0 L)), .int .i64 ((stays l p k 0 L).length : Nat)]) ∧ Below w.heap.size w w' := by
  obtain ⟨oa, cap, hv, _, _⟩ := h.q.shape
  subst hv
  obtain ⟨B0, hB0⟩ : ∃ B0, w.heap.size = B0 := ⟨_, rfl⟩
  have HB0 := Lib.hid hB0
  have al := ((Below.refl w.heap.size w).alloc (Nat.le_refl _) (.cells #[.int .i64 0, .int .i64 0, .int .i64 0, .int .i64 0, .int .i64 0, .int .i64 0, .int .i64 0, .int .i64 0] 217)).alloc (by simp) (.cells #[.int .i64 0, .int .i64 0, .int .i64 0, .int .i64 0, .int .i64 0, .int .i64 0, .int .i64 0, .int .i64 0] 217)
  have R1 := (Blk.new w 217 #[.int .i64 0, .int .i64 0, .int .i64 0, .int .i64 0, .int .i64 0, .int .i64 0, .int .i64 0, .int .i64 0]).alloc (.cells #[.int .i64 0, .int .i64 0, .int .i64 0, .int .i64 0, .int .i64 0, .int .i64 0, .int .i64 0, .int .i64 0] 217)
  have A1 : Blk ((w.alloc (.cells #[.int .i64 0, .int .i64 0, .int .i64 0, .int .i64 0, .int .i64 0, .int .i64 0, .int .i64 0, .int .i64 0] 217)).alloc (.cells #[.int .i64 0, .int .i64 0, .int .i64 0, .int .i64 0, .int .i64 0, .int .i64 0, .int .i64 0, .int .i64 0] 217)) (w.heap.size + 1) 217 #[.int .i64 0, .int .i64 0, .int .i64 0, .int .i64 0, .int .i64 0, .int .i64 0, .int .i64 0, .int .i64 0] := blk_new2 _ _ _ _
  have hgl := h.B.lt
  have hkl := K.lt
  have hll := Lb.lt
  have hpl := Pb.lt
  have hbl := fun i (hi : blkOf (.slice oa L.length cap) = some i) => (h.q.lt hi).2
  have h1 := h.below al (Nat.le_refl _)
  have K1 := K.below al hkl
  have L1 := Lb.below al hll
  have P1 := Pb.below al hpl
  clear h K Lb Pb
  go_enter Try.func116, Try.ntmps116
  go_upto_region 3 with fail
  obtain ⟨w1, hw1⟩ : ∃ w1, (w.alloc (.cells #[.int .i64 0, .int .i64 0, .int .i64 0, .int .i64 0, .int .i64 0, .int .i64 0, .int .i64 0, .int .i64 0] 217)).alloc (.cells #[.int .i64 0, .int .i64 0, .int .i64 0, .int .i64 0, .int .i64 0, .int .i64 0, .int .i64 0, .int .i64 0] 217) = w1 := ⟨_, rfl⟩
  rw [hw1] at al R1 A1 h1 K1 L1 P1
  try rw [hw1]
  clear hw1
  rw [hB0] at al R1 A1 hgl hkl hll hpl hbl
  try rw [hB0]
  clear hB0
  rw [← arr8_nil] at A1
  have c0 : w1.cell? ⟨g, 0, none⟩ = some (.slice oa L.length cap) := h1.B.cell 0
  have HS := Lib.hid (And.intro h1.q (And.intro K1 (And.intro L1 (And.intro P1 (And.intro R1 (And.intro A1 al))))))
  clear h1 K1 L1 P1 R1 A1 al
  go_wp2_with fail
  go_loopw [7, 15] (fun s7 s15 wr => ∃ i : Nat, s15 = .int .i64 (i : Nat) ∧ i ≤ L.length ∧ s7 = .int .i64 ((stays l p k 0 (L.take i)).length : Nat) ∧ Qo wr b0 15 (.slice oa L.length cap) L.length (cellsX L) ∧ Blk wr kb 3 #[.int .i64 k] ∧ Blk wr lb 109 #[.int .u32 l] ∧ Blk wr pb 109 #[.int .u32 p] ∧ Blk wr B0 217 #[.int .i64 0, .int .i64 0, .int .i64 0, .int .i64 0, .int .i64 0, .int .i64 0, .int .i64 0, .int .i64 0] ∧ Blk wr (B0 + 1) 217 (arr8 (stays l p k 0 (L.take i))) ∧ Below B0 w wr) (fun _ s15 _ => L.length - (intOf s15).toNat)
  case atStart => exact ⟨0, rfl, Nat.zero_le _, rfl, HS.out.1, HS.out.2.1, HS.out.2.2.1, HS.out.2.2.2.1, HS.out.2.2.2.2.1, HS.out.2.2.2.2.2.1, HS.out.2.2.2.2.2.2⟩
  case round =>
    clear HS c0
    obtain ⟨i, rfl, hi, rfl, q, K, Lb, Pb, R, A, bel⟩ := hrel
    by_cases hlt : i < L.length
    · have hii : (i : Int) < (L.length : Int) := by omega
      have hi0 : (0 : Int) ≤ (i : Int) := by omega
      obtain ⟨x, hx⟩ : ∃ x, L[i]? = some x := ⟨_, List.getElem?_eq_getElem hlt⟩
      obtain ⟨hh, off, rfl, _, _, _, X⟩ := row_at q rfl hx
      have htk : L.take (i + 1) = L.take i ++ [x] := by rw [List.take_add_one, hx]; rfl
      have htl : (L.take i).length = i := by rw [List.length_take]; omega
      have hst : stays l p k 0 (L.take (i + 1)) = if goes l p k i x = true then stays l p k 0 (L.take i) else stays l p k 0 (L.take i) ++ [i] := by
        rw [htk, stays_append, htl, Nat.zero_add]
        simp only [stays]
        split <;> simp
      have hsl := stays_len l p k (L.take i) 0
      rw [htl] at hsl
      have szX : (Try.prog.info? 113).map (·.size) = some (#[.int .u32 x.a, .int .u32 x.b, .int .i64 x.s, .int .i64 0, .int .i64 0, .int .i64 0, .int .i64 30, .bool false, .int .i64 1800, .int .i64 60000, .int .i64 0, .int .i64 0, .int .i64 0, .int .u32 0, .int .i64 0] : Array Value).size := by show _ = some 15; kernel_rfl
      have HT := Lib.hid hst
      clear hst htk htl
      go_upto_region 6 with (refine wpList_load_at rfl 113 _ rfl hh (off + i * 15) rfl #[.int .u32 x.a, .int .u32 x.b, .int .i64 x.s, .int .i64 0, .int .i64 0, .int .i64 0, .int .i64 30, .bool false, .int .i64 1800, .int .i64 60000, .int .i64 0, .int .i64 0, .int .i64 0, .int .u32 0, .int .i64 0] _ X Try.underlying113 rfl szX ?_)
      have al := (Below.refl wr.heap.size wr).alloc (Nat.le_refl _) (.cells #[.int .u32 x.a, .int .u32 x.b, .int .i64 x.s, .int .i64 0, .int .i64 0, .int .i64 0, .int .i64 30, .bool false, .int .i64 1800, .int .i64 60000, .int .i64 0, .int .i64 0, .int .i64 0, .int .u32 0, .int .i64 0] 113)
      have Y := Cel.of_blk (Blk.new wr 113 #[.int .u32 x.a, .int .u32 x.b, .int .i64 x.s, .int .i64 0, .int .i64 0, .int .i64 0, .int .i64 30, .bool false, .int .i64 1800, .int .i64 60000, .int .i64 0, .int .i64 0, .int .i64 0, .int .u32 0, .int .i64 0])
      have q1 := q.below al (Nat.le_refl _)
      have K1 := K.below al K.lt
      have L1 := Lb.below al Lb.lt
      have P1 := Pb.below al Pb.lt
      have R1 := R.below al R.lt
      have A1 := A.below al A.lt
      have hAl := A.lt
      have bel1 := bel.trans (al.mono (by omega))
      clear q K Lb Pb R A bel al X
      obtain ⟨w2, hw2⟩ : ∃ w2, wr.alloc (.cells #[.int .u32 x.a, .int .u32 x.b, .int .i64 x.s, .int .i64 0, .int .i64 0, .int .i64 0, .int .i64 30, .bool false, .int .i64 1800, .int .i64 60000, .int .i64 0, .int .i64 0, .int .i64 0, .int .u32 0, .int .i64 0] 113) = w2 := ⟨_, rfl⟩
      rw [hw2] at Y q1 K1 L1 P1 R1 A1 bel1
      try rw [hw2]
      clear hw2
      obtain ⟨xb, hxb⟩ : ∃ xb, wr.heap.size = xb := ⟨_, rfl⟩
      rw [hxb] at Y hAl
      try rw [hxb]
      clear hxb
      have hcl := clg_goes i x l p k kb lb pb w2 K1 L1 P1
      go_wp2_with (refine wpList_load_at rfl 113 _ rfl xb 0 rfl #[.int .u32 x.a, .int .u32 x.b, .int .i64 x.s, .int .i64 0, .int .i64 0, .int .i64 0, .int .i64 30, .bool false, .int .i64 1800, .int .i64 60000, .int .i64 0, .int .i64 0, .int .i64 0, .int .u32 0, .int .i64 0] _ Y Try.underlying113 rfl szX ?_)
      refine hcl.mono ?_
      rintro e w3 ⟨he, hb3⟩
      have q3 := q1.below hb3 (Nat.le_refl _)
      have K3 := K1.below hb3 K1.lt
      have L3 := L1.below hb3 L1.lt
      have P3 := P1.below hb3 P1.lt
      have R3 := R1.below hb3 R1.lt
      have A3 := A1.below hb3 A1.lt
      have bel3 := bel1.trans (hb3.mono (by have := A1.lt; omega))
      clear q1 K1 L1 P1 R1 A1 bel1 hb3 Y hcl
      rcases hg : goes l p k i x with _ | _
      · rw [hg] at he
        subst he
        obtain ⟨m, hm⟩ : ∃ m, (stays l p k 0 (L.take i)).length = m := ⟨_, rfl⟩
        have hm8 : m < 8 := by omega
        have hst := HT.out
        rw [hg, if_neg (by simp)] at hst
        have A4 : Blk (w3.setCell ⟨B0 + 1, m, none⟩ (.int .i64 (i : Nat))) (B0 + 1) 217 (arr8 (stays l p k 0 (L.take (i + 1)))) := by
          rw [hst, ← arr8_set (by rw [hm]; exact hm8), hm]
          exact A3.set_ m _
        have hlen : (stays l p k 0 (L.take (i + 1))).length = m + 1 := by rw [hst, List.length_append, hm]; rfl
        have ac : ∃ u, w3.cell? ⟨B0 + 1, m, none⟩ = some u := ⟨_, (A3.cell m).trans (Array.getElem?_eq_getElem (by rw [arr8_size (by omega)]; exact hm8))⟩
        obtain ⟨u0, ac⟩ := ac
        have af : w3.frozen? ⟨B0 + 1, m, none⟩ = false := A3.frozen m
        have hm0 : (0 : Int) ≤ (m : Int) := by omega
        have hm1 : (m : Int) < 8 := by omega
        have HE := Lib.hid (And.intro (q3.far (p := ⟨B0 + 1, m, none⟩) (fun e => by have := hbl _ e; exact absurd this (by show ¬ (B0 + 1 < B0); omega)) (.int .i64 (i : Nat))) (And.intro (K3.far (p := ⟨B0 + 1, m, none⟩) (by show kb ≠ B0 + 1; omega) (.int .i64 (i : Nat))) (And.intro (L3.far (p := ⟨B0 + 1, m, none⟩) (by show lb ≠ B0 + 1; omega) (.int .i64 (i : Nat))) (And.intro (P3.far (p := ⟨B0 + 1, m, none⟩) (by show pb ≠ B0 + 1; omega) (.int .i64 (i : Nat))) (And.intro (R3.far (p := ⟨B0 + 1, m, none⟩) (by show B0 ≠ B0 + 1; omega) (.int .i64 (i : Nat))) (And.intro A4 (And.intro (bel3.setCell (p := ⟨B0 + 1, m, none⟩) (by show B0 ≤ B0 + 1; omega) (.int .i64 (i : Nat))) hlen)))))))
        clear q3 K3 L3 P3 R3 A3 bel3 A4 hst hg hlen HT
        rw [hm] at hsl ⊢
        clear hm
        go_upto_region 8 with fail
        obtain ⟨w4, hw4⟩ : ∃ w4, w3.setCell ⟨B0 + 1, m, none⟩ (.int .i64 (i : Nat)) = w4 := ⟨_, rfl⟩
        rw [hw4] at HE
        try rw [hw4]
        clear hw4 ac af
        go_wp2_with fail
        go_roundw
        case rel => exact ⟨i + 1, by go_num, by omega, by rw [HE.out.2.2.2.2.2.2.2]; go_num, HE.out.1, HE.out.2.1, HE.out.2.2.1, HE.out.2.2.2.1, HE.out.2.2.2.2.1, HE.out.2.2.2.2.2.1, HE.out.2.2.2.2.2.2.1⟩
        case measure => simp [intOf]; omega
      · rw [hg] at he
        subst he
        have hst := HT.out
        rw [hg, if_pos rfl] at hst
        rw [← hst] at A3
        have HE := Lib.hid (And.intro q3 (And.intro K3 (And.intro L3 (And.intro P3 (And.intro R3 (And.intro A3 (And.intro bel3 hst)))))))
        clear q3 K3 L3 P3 R3 A3 bel3 hst hg HT
        go_wp2_with fail
        go_roundw
        case rel => exact ⟨i + 1, by go_num, by omega, by rw [HE.out.2.2.2.2.2.2.2], HE.out.1, HE.out.2.1, HE.out.2.2.1, HE.out.2.2.2.1, HE.out.2.2.2.2.1, HE.out.2.2.2.2.2.1, HE.out.2.2.2.2.2.2.1⟩
        case measure => simp [intOf]; omega
    · obtain rfl : i = L.length := by omega
      rw [List.take_length] at A ⊢
      have hsl := stays_len l p k L 0
      have sA := szA (stays l p k 0 L) (by omega)
      have h8 := arr8_size (P := stays l p k 0 L) (by omega)
      have one := arr8_one (stays l p k 0 L)
      have HB := Lib.hid bel
      clear q K Lb Pb bel
      obtain ⟨m, hm⟩ : ∃ m, (stays l p k 0 L).length = m := ⟨_, rfl⟩
      obtain ⟨Q8, hQ8⟩ : ∃ Q8, arr8 (stays l p k 0 L) = Q8 := ⟨_, rfl⟩
      rw [hQ8] at A sA h8 one
      try rw [hQ8]
      try rw [hm]
      have HQ := Lib.hid (And.intro hQ8 hm)
      clear hm hQ8
      go_wp2_with (first | (refine wpList_load_at rfl 217 _ rfl (B0 + 1) 0 rfl Q8 _ (Cel.of_blk A) Try.underlying217 rfl sA ?_) | (refine wpList_store_at rfl 217 _ _ rfl B0 0 Q8 rfl rfl #[.int .i64 0, .int .i64 0, .int .i64 0, .int .i64 0, .int .i64 0, .int .i64 0, .int .i64 0, .int .i64 0] (Cel.of_blk R) sA (by rw [h8]; rfl) one ?_))
      have KC := (Cel.of_blk R).setCells_same Q8.toList (by rw [Array.length_toList, h8]; rfl)
      refine bodyPost_ret (v := .tuple #[.agg Q8, .int .i64 (m : Nat)]) (by rw [results_cell_tmp_at rfl _ _ B0 0 Q8 _ rfl (KC.congr (by simp)) Try.underlying217 rfl sA]; rfl) rfl ?_
      exact ⟨by rw [HQ.out.1, HQ.out.2], by rw [HB0.out]; exact below_setCells HB.out (Nat.le_refl _) _ _⟩
end
end Go.Proofs.Ythddacgdmngfhaa.pat
