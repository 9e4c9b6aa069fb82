/- Layer 37: those of a list that are in order, those that are loose (gen-mod.py wrote this). -/
import Derived.Test.YthjhiogbnacmdaaMoC
namespace Go.Proofs.Ythjhiogbnacmdaa.mo
open Go.Sort (grow)
open Go.ChangeShapes Go.WideShapes Go.ChangeAt Go.RowKit kit cut
set_option maxRecDepth 100000

theorem cl_ord (x : Ms) (W : World) : Calls Try.prog 44 #[.agg (me x)] W fun e w' => e = .returned (.bool (!x.lo)) ∧ Below W.heap.size W w' := by
  have X1 := Blk.new W 71 (me x)
  have bel := (Below.refl W.heap.size W).alloc (Nat.le_refl _) (.cells (me x) 71)
  unfold me at X1 bel ⊢
  go_enter Try.func44, Try.ntmps44
  go_upto_region 1 with fail
  obtain ⟨w1, hw1⟩ : ∃ w1, W.alloc (.cells #[.int .i64 x.s, .int .i64 0, .bool x.lo, .int .u32 0, .string x.d] 71) = w1 := ⟨_, rfl⟩
  rw [hw1] at X1 bel
  try rw [hw1]
  clear hw1
  have x2 : w1.cell? ⟨W.heap.size, 2, none⟩ = some (.bool x.lo) := X1.cell 2
  clear X1
  go_wp2_with fail
  go_ret
  exact ⟨rfl, bel⟩
set_option maxHeartbeats 2000000 in
theorem sift_ord {w : World} {b0 : Nat} {v : Value} {L : List Ms} (q : QM w b0 v L) (hn : L.length ≤ 20) :
    Calls Try.prog 43 #[v, .func (.func 44) #[] #[]] w fun e w' => (∃ v' : Value, e = .returned v' ∧ QM w' w.heap.size v' (L.filter (fun y : Ms => !y.lo))) ∧ Below w.heap.size w w' := by
  obtain ⟨B0, hB0⟩ : ∃ B0, w.heap.size = B0 := ⟨_, rfl⟩
  have HQ := Lib.hid (show ∀ w', Below B0 w w' → QM w' b0 v L from fun w' h => q.below h (by omega))
  obtain ⟨oa, ca, hva, _, _⟩ := q.shape
  subst hva
  rw [hB0]
  have HB0 := Lib.hid hB0
  have q1 : QM w B0 (.slice none 0 0) [] := Qo.nil _ _ _
  have bel1 : Below B0 w w := Below.refl _ _
  obtain ⟨m, hmm⟩ : ∃ m, L.length = m := ⟨_, rfl⟩
  rw [hmm] at HQ ⊢
  have HMM := Lib.hid hmm
  have hm20 : m ≤ 20 := by omega
  clear q hB0 hmm hn
  go_enter Try.func43, Try.ntmps43
  go_wp2_with fail
  go_loopw [5, 10] (fun s5 s10 wr => ∃ i : Nat, s10 = .int .i64 (i : Nat) ∧ i ≤ m ∧ QM wr B0 s5 ((L.take i).filter (fun y : Ms => !y.lo)) ∧ Below B0 w wr) (fun _ s10 _ => m - (intOf s10).toNat)
  case atStart => exact ⟨0, rfl, Nat.zero_le _, (by rw [List.take_zero]; exact q1), bel1⟩
  case round =>
    rename World => wr
    clear q1 bel1
    obtain ⟨i, rfl, hi, q, bel⟩ := hrel
    by_cases hlt : i < m
    · obtain ⟨x, hx⟩ : ∃ x, L[i]? = some x := ⟨_, List.getElem?_eq_getElem (by rw [HMM.out]; exact hlt)⟩
      obtain ⟨hh, off, hoa, -, -, -, -, CX⟩ := msg_at (HQ.out _ bel) hx
      subst hoa
      have hi0 : (0 : Int) ≤ (i : Int) := by omega
      have hi1 : (i : Int) < (m : Int) := by omega
      have hbs := bel.size
      have HX := Lib.hid hx
      have szm := szMe x
      have hB := HB0.out
      unfold me at szm CX
      clear hx
      go_upto_region 5 with (refine wpList_load_at rfl 71 _ rfl hh (off + i * 5) rfl #[.int .i64 x.s, .int .i64 0, .bool x.lo, .int .u32 0, .string x.d] _ CX Try.underlying71 rfl szm ?_)
      have P2 := Blk.new wr 71 #[.int .i64 x.s, .int .i64 0, .bool x.lo, .int .u32 0, .string x.d]
      have al2 := (Below.refl wr.heap.size wr).alloc (Nat.le_refl _) (.cells #[.int .i64 x.s, .int .i64 0, .bool x.lo, .int .u32 0, .string x.d] 71)
      have q2 : QM _ B0 _ _ := q.below al2 (Nat.le_refl _)
      have bel2 := bel.trans (al2.mono (by omega))
      obtain ⟨w2, hw2⟩ : ∃ w2, wr.alloc (.cells #[.int .i64 x.s, .int .i64 0, .bool x.lo, .int .u32 0, .string x.d] 71) = w2 := ⟨_, rfl⟩
      rw [hw2] at P2 al2 q2 bel2
      try rw [hw2]
      clear hw2 q bel CX
      obtain ⟨pb, hpb⟩ : ∃ pb, wr.heap.size = pb := ⟨_, rfl⟩
      rw [hpb] at P2
      try rw [hpb]
      clear hpb al2
      have C2 := Cel.of_blk P2
      have hc := cl_ord x w2
      unfold me at hc
      go_wp2_with (refine wpList_load_at rfl 71 _ rfl pb 0 rfl #[.int .i64 x.s, .int .i64 0, .bool x.lo, .int .u32 0, .string x.d] _ C2 Try.underlying71 rfl szm ?_)
      refine hc.mono ?_
      rintro e w3 ⟨he, hb3⟩
      have P3 := P2.below hb3 P2.lt
      have q3 : QM _ B0 _ _ := q2.below hb3 (Nat.le_refl _)
      have bel3 := bel2.trans (hb3.mono (by have := bel2.size; omega))
      clear hc C2 P2 q2 bel2 hb3
      rcases hp : !x.lo with _ | _
      · rw [hp] at he
        subst he
        have HQ3 := Lib.hid (show QM w3 B0 _ ((L.take (i + 1)).filter (fun y : Ms => !y.lo)) by rw [take_snoc HX.out, List.filter_append]; simpa [hp] using q3)
        have HB3 := Lib.hid bel3
        clear q3 bel3 P3 hp
        go_wp2_with fail
        go_roundw
        case rel => exact ⟨i + 1, by go_num, by omega, HQ3.out, HB3.out⟩
        case measure => simp [intOf]; omega
      · rw [hp] at he
        subst he
        obtain ⟨v7, w7, hr7, q7, gr7, _⟩ := me_app q3 (by have := bel3.size; omega) x (by have := List.length_filter_le (fun y : Ms => !y.lo) (L.take i); rw [List.length_take] at this; omega)
        unfold me at hr7 gr7
        have al7 := (Below.refl w3.heap.size w3).alloc (Nat.le_refl _) (.cells #[.int .i64 x.s, .int .i64 0, .bool x.lo, .int .u32 0, .string x.d] 71)
        have hql := fun j hj => (q3.lt (g := j) hj).1
        have bel7 : Below B0 w w7 := (bel3.trans (al7.mono (by have := bel3.size; omega))).grown gr7 (by have := bel3.size; simp; omega) (fun j hj => hql j hj)
        obtain ⟨oq, cq, hvq, _, _⟩ := q3.shape
        subst hvq
        have C3 := Cel.of_blk P3
        have HQ3 := Lib.hid (show QM w7 B0 v7 ((L.take (i + 1)).filter (fun y : Ms => !y.lo)) by
          rw [take_snoc HX.out, List.filter_append, show [x].filter (fun y : Ms => !y.lo) = [x] by simp [hp]]
          exact q7)
        have HB3 := Lib.hid bel7
        obtain ⟨o7, c7, hv7, _, _⟩ := q7.shape
        subst hv7
        clear q3 bel3 P3 hp q7 gr7 al7 hql bel7
        generalize ((L.take i).filter (fun y : Ms => !y.lo)).length = ln at *
        generalize ((L.take i).filter (fun y : Ms => !y.lo) ++ [x]).length = ln1 at *
        go_upto_region 7 with (first | (refine wpList_load_at rfl 71 _ rfl pb 0 rfl #[.int .i64 x.s, .int .i64 0, .bool x.lo, .int .u32 0, .string x.d] _ C3 Try.underlying71 rfl szm ?_) | (at_builtin; refine wpList_append_q rfl _ _ _ rfl rfl rfl hr7 ?_) | fail)
        clear hr7 C3
        go_wp2_with fail
        go_roundw
        case rel => exact ⟨i + 1, by go_num, by omega, HQ3.out, HB3.out⟩
        case measure => simp [intOf]; omega
    · obtain rfl : i = m := by omega
      have hta : L.take i = L := by rw [← HMM.out]; exact List.take_length
      rw [hta] at q
      have HQ3 := Lib.hid q
      have HB3 := Lib.hid bel
      clear q bel
      go_wp2_with fail
      go_ret
      exact ⟨⟨_, rfl, HQ3.out⟩, HB3.out⟩
theorem inOrder_any {w : World} {b0 : Nat} {v : Value} {L : List Ms} (q : QM w b0 v L) (hn : L.length ≤ 20) :
    Calls Try.prog 29 #[v] w fun e w' => (∃ v' : Value, e = .returned v' ∧ QM w' w.heap.size v' (L.filter (fun y : Ms => !y.lo))) ∧ Below w.heap.size w w' := by
  have hs := sift_ord q hn
  obtain ⟨oa, ca, hva, _, _⟩ := q.shape
  subst hva
  clear q hn
  generalize L.length = m at *
  go_enter Try.func29, Try.ntmps29
  go_wp2_with fail
  refine hs.mono ?_
  rintro e w3 ⟨⟨v', rfl, q⟩, hb⟩
  obtain ⟨o7, c7, hv7, _, _⟩ := q.shape
  subst hv7
  have HQ := Lib.hid q
  clear hs q
  generalize (L.filter (fun y : Ms => !y.lo)).length = ln at *
  go_wp2_with fail
  go_ret
  exact ⟨⟨_, rfl, HQ.out⟩, hb⟩
theorem cl_lse (x : Ms) (W : World) : Calls Try.prog 45 #[.agg (me x)] W fun e w' => e = .returned (.bool (x.lo)) ∧ Below W.heap.size W w' := by
  have X1 := Blk.new W 71 (me x)
  have bel := (Below.refl W.heap.size W).alloc (Nat.le_refl _) (.cells (me x) 71)
  unfold me at X1 bel ⊢
  go_enter Try.func45, Try.ntmps45
  go_upto_region 1 with fail
  obtain ⟨w1, hw1⟩ : ∃ w1, W.alloc (.cells #[.int .i64 x.s, .int .i64 0, .bool x.lo, .int .u32 0, .string x.d] 71) = w1 := ⟨_, rfl⟩
  rw [hw1] at X1 bel
  try rw [hw1]
  clear hw1
  have x2 : w1.cell? ⟨W.heap.size, 2, none⟩ = some (.bool x.lo) := X1.cell 2
  clear X1
  go_wp2_with fail
  go_ret
  exact ⟨rfl, bel⟩
set_option maxHeartbeats 2000000 in
theorem sift_lse {w : World} {b0 : Nat} {v : Value} {L : List Ms} (q : QM w b0 v L) (hn : L.length ≤ 20) :
    Calls Try.prog 43 #[v, .func (.func 45) #[] #[]] w fun e w' => (∃ v' : Value, e = .returned v' ∧ QM w' w.heap.size v' (L.filter (fun y : Ms => y.lo))) ∧ Below w.heap.size w w' := by
  obtain ⟨B0, hB0⟩ : ∃ B0, w.heap.size = B0 := ⟨_, rfl⟩
  have HQ := Lib.hid (show ∀ w', Below B0 w w' → QM w' b0 v L from fun w' h => q.below h (by omega))
  obtain ⟨oa, ca, hva, _, _⟩ := q.shape
  subst hva
  rw [hB0]
  have HB0 := Lib.hid hB0
  have q1 : QM w B0 (.slice none 0 0) [] := Qo.nil _ _ _
  have bel1 : Below B0 w w := Below.refl _ _
  obtain ⟨m, hmm⟩ : ∃ m, L.length = m := ⟨_, rfl⟩
  rw [hmm] at HQ ⊢
  have HMM := Lib.hid hmm
  have hm20 : m ≤ 20 := by omega
  clear q hB0 hmm hn
  go_enter Try.func43, Try.ntmps43
  go_wp2_with fail
  go_loopw [5, 10] (fun s5 s10 wr => ∃ i : Nat, s10 = .int .i64 (i : Nat) ∧ i ≤ m ∧ QM wr B0 s5 ((L.take i).filter (fun y : Ms => y.lo)) ∧ Below B0 w wr) (fun _ s10 _ => m - (intOf s10).toNat)
  case atStart => exact ⟨0, rfl, Nat.zero_le _, (by rw [List.take_zero]; exact q1), bel1⟩
  case round =>
    rename World => wr
    clear q1 bel1
    obtain ⟨i, rfl, hi, q, bel⟩ := hrel
    by_cases hlt : i < m
    · obtain ⟨x, hx⟩ : ∃ x, L[i]? = some x := ⟨_, List.getElem?_eq_getElem (by rw [HMM.out]; exact hlt)⟩
      obtain ⟨hh, off, hoa, -, -, -, -, CX⟩ := msg_at (HQ.out _ bel) hx
      subst hoa
      have hi0 : (0 : Int) ≤ (i : Int) := by omega
      have hi1 : (i : Int) < (m : Int) := by omega
      have hbs := bel.size
      have HX := Lib.hid hx
      have szm := szMe x
      have hB := HB0.out
      unfold me at szm CX
      clear hx
      go_upto_region 5 with (refine wpList_load_at rfl 71 _ rfl hh (off + i * 5) rfl #[.int .i64 x.s, .int .i64 0, .bool x.lo, .int .u32 0, .string x.d] _ CX Try.underlying71 rfl szm ?_)
      have P2 := Blk.new wr 71 #[.int .i64 x.s, .int .i64 0, .bool x.lo, .int .u32 0, .string x.d]
      have al2 := (Below.refl wr.heap.size wr).alloc (Nat.le_refl _) (.cells #[.int .i64 x.s, .int .i64 0, .bool x.lo, .int .u32 0, .string x.d] 71)
      have q2 : QM _ B0 _ _ := q.below al2 (Nat.le_refl _)
      have bel2 := bel.trans (al2.mono (by omega))
      obtain ⟨w2, hw2⟩ : ∃ w2, wr.alloc (.cells #[.int .i64 x.s, .int .i64 0, .bool x.lo, .int .u32 0, .string x.d] 71) = w2 := ⟨_, rfl⟩
      rw [hw2] at P2 al2 q2 bel2
      try rw [hw2]
      clear hw2 q bel CX
      obtain ⟨pb, hpb⟩ : ∃ pb, wr.heap.size = pb := ⟨_, rfl⟩
      rw [hpb] at P2
      try rw [hpb]
      clear hpb al2
      have C2 := Cel.of_blk P2
      have hc := cl_lse x w2
      unfold me at hc
      go_wp2_with (refine wpList_load_at rfl 71 _ rfl pb 0 rfl #[.int .i64 x.s, .int .i64 0, .bool x.lo, .int .u32 0, .string x.d] _ C2 Try.underlying71 rfl szm ?_)
      refine hc.mono ?_
      rintro e w3 ⟨he, hb3⟩
      have P3 := P2.below hb3 P2.lt
      have q3 : QM _ B0 _ _ := q2.below hb3 (Nat.le_refl _)
      have bel3 := bel2.trans (hb3.mono (by have := bel2.size; omega))
      clear hc C2 P2 q2 bel2 hb3
      rcases hp : x.lo with _ | _
      · rw [hp] at he
        subst he
        have HQ3 := Lib.hid (show QM w3 B0 _ ((L.take (i + 1)).filter (fun y : Ms => y.lo)) by rw [take_snoc HX.out, List.filter_append]; simpa [hp] using q3)
        have HB3 := Lib.hid bel3
        clear q3 bel3 P3 hp
        go_wp2_with fail
        go_roundw
        case rel => exact ⟨i + 1, by go_num, by omega, HQ3.out, HB3.out⟩
        case measure => simp [intOf]; omega
      · rw [hp] at he
        subst he
        obtain ⟨v7, w7, hr7, q7, gr7, _⟩ := me_app q3 (by have := bel3.size; omega) x (by have := List.length_filter_le (fun y : Ms => y.lo) (L.take i); rw [List.length_take] at this; omega)
        unfold me at hr7 gr7
        have al7 := (Below.refl w3.heap.size w3).alloc (Nat.le_refl _) (.cells #[.int .i64 x.s, .int .i64 0, .bool x.lo, .int .u32 0, .string x.d] 71)
        have hql := fun j hj => (q3.lt (g := j) hj).1
        have bel7 : Below B0 w w7 := (bel3.trans (al7.mono (by have := bel3.size; omega))).grown gr7 (by have := bel3.size; simp; omega) (fun j hj => hql j hj)
        obtain ⟨oq, cq, hvq, _, _⟩ := q3.shape
        subst hvq
        have C3 := Cel.of_blk P3
        have HQ3 := Lib.hid (show QM w7 B0 v7 ((L.take (i + 1)).filter (fun y : Ms => y.lo)) by
          rw [take_snoc HX.out, List.filter_append, show [x].filter (fun y : Ms => y.lo) = [x] by simp [hp]]
          exact q7)
        have HB3 := Lib.hid bel7
        obtain ⟨o7, c7, hv7, _, _⟩ := q7.shape
        subst hv7
        clear q3 bel3 P3 hp q7 gr7 al7 hql bel7
        generalize ((L.take i).filter (fun y : Ms => y.lo)).length = ln at *
        generalize ((L.take i).filter (fun y : Ms => y.lo) ++ [x]).length = ln1 at *
        go_upto_region 7 with (first | (refine wpList_load_at rfl 71 _ rfl pb 0 rfl #[.int .i64 x.s, .int .i64 0, .bool x.lo, .int .u32 0, .string x.d] _ C3 Try.underlying71 rfl szm ?_) | (at_builtin; refine wpList_append_q rfl _ _ _ rfl rfl rfl hr7 ?_) | fail)
        clear hr7 C3
        go_wp2_with fail
        go_roundw
        case rel => exact ⟨i + 1, by go_num, by omega, HQ3.out, HB3.out⟩
        case measure => simp [intOf]; omega
    · obtain rfl : i = m := by omega
      have hta : L.take i = L := by rw [← HMM.out]; exact List.take_length
      rw [hta] at q
      have HQ3 := Lib.hid q
      have HB3 := Lib.hid bel
      clear q bel
      go_wp2_with fail
      go_ret
      exact ⟨⟨_, rfl, HQ3.out⟩, HB3.out⟩
theorem loose_any {w : World} {b0 : Nat} {v : Value} {L : List Ms} (q : QM w b0 v L) (hn : L.length ≤ 20) :
    Calls Try.prog 31 #[v] w fun e w' => (∃ v' : Value, e = .returned v' ∧ QM w' w.heap.size v' (L.filter (fun y : Ms => y.lo))) ∧ Below w.heap.size w w' := by
  have hs := sift_lse q hn
  obtain ⟨oa, ca, hva, _, _⟩ := q.shape
  subst hva
  clear q hn
  generalize L.length = m at *
  go_enter Try.func31, Try.ntmps31
  go_wp2_with fail
  refine hs.mono ?_
  rintro e w3 ⟨⟨v', rfl, q⟩, hb⟩
  obtain ⟨o7, c7, hv7, _, _⟩ := q.shape
  subst hv7
  have HQ := Lib.hid q
  clear hs q
  generalize (L.filter (fun y : Ms => y.lo)).length = ln at *
  go_wp2_with fail
  go_ret
  exact ⟨⟨_, rfl, HQ.out⟩, hb⟩
end Go.Proofs.Ythjhiogbnacmdaa.mo
