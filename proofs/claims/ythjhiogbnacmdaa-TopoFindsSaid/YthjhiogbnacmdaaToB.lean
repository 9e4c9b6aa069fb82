/- Layer 32: the first place of an address, the first one between (gen-tob.py wrote this). -/
import Derived.Test.YthjhiogbnacmdaaToA
namespace Go.Proofs.Ythjhiogbnacmdaa.top
open Go.Sort (grow)
open Go.ChangeShapes Go.WideShapes Go.ChangeAt Go.RowKit kit
set_option maxRecDepth 100000

theorem ix_place {w : World} {b0 : Nat} {v : Value} {L : List (Int × Int)} (q : Qo w b0 2 v L.length (cellsPl L)) (hn : L.length ≤ 100) (a : Int) (pc : Nat) (hP : Blk w pc 28 #[.int .u32 a]) : Calls Try.prog 34 #[v, .func (.func 35) #[] #[.pointer (some ⟨pc, 0, none⟩)]] w fun e w' => e = .returned (.int .i64 (idxA (fun x => decide (x.1 = a)) L)) ∧ Below w.heap.size w w' := by
  obtain ⟨oa, cap, rfl, _, _⟩ := q.shape
  obtain ⟨B0, hB0⟩ : ∃ B0, w.heap.size = B0 := ⟨_, rfl⟩
  have HB0 := Lib.hid hB0
  obtain ⟨ri, hri⟩ : ∃ ri, idxA (fun x : Int × Int => decide (x.1 = a)) L = ri := ⟨_, rfl⟩
  rw [hri]
  have HRI := Lib.hid hri
  clear hri
  go_enter Try.func34, Try.ntmps34
  go_wp2_with fail
  go_loopw [8] (fun s8 wr => ∃ i : Nat, s8 = .int .i64 (i : Nat) ∧ i ≤ L.length ∧ (∀ (j : Nat) x, j < i → L[j]? = some x → decide (x.1 = a) = false) ∧ Qo wr b0 2 (.slice oa L.length cap) L.length (cellsPl L) ∧ Below B0 w wr ∧ Blk wr pc 28 #[.int .u32 a]) (fun s8 _ => L.length - (intOf s8).toNat)
  case atStart => exact ⟨0, rfl, Nat.zero_le _, fun j x hj => absurd hj (Nat.not_lt_zero j), q, Below.refl _ _, hP⟩
  case round =>
    clear q hP
    obtain ⟨i, rfl, hi, hno, q, bel, hPr⟩ := hrel
    by_cases hlt : i < L.length
    · have hii : (i : Int) < (L.length : Int) := by omega
      have hi0 : (0 : Int) ≤ (i : Int) := by omega
      obtain ⟨x, hx⟩ : ∃ x, L[i]? = some x := ⟨_, List.getElem?_eq_getElem hlt⟩
      obtain ⟨hh, off, rfl, _, _, X⟩ := row_at q rfl hx
      have HX := Lib.hid (And.intro hx hno)
      clear hx hno
      go_wp2_with (refine wpList_load_at rfl 52 _ rfl hh (off + i * 2) rfl (pl x) _ X Try.underlying52 rfl (szPl x) ?_)
      refine (clg_place x a pc wr hPr).mono ?_
      rintro e w3 ⟨he, hb3⟩
      have HR := Lib.hid (And.intro (q.below hb3 (Nat.le_refl _)) (And.intro (bel.trans (hb3.mono (by have := bel.size; omega))) (hPr.below hb3 hPr.lt)))
      clear q X bel hb3 hPr
      by_cases hp : x.1 = a
      · rw [decide_eq_true hp] at he
        subst he
        have HY := Lib.hid (idxA_hit (p := fun x : Int × Int => decide (x.1 = a)) HX.out.1 (decide_eq_true hp) HX.out.2)
        clear hp
        go_wp2_with fail
        go_ret
        exact ⟨ret_int (HY.out.symm.trans HRI.out), by rw [HB0.out]; exact HR.out.2.1⟩
      · rw [decide_eq_false hp] at he
        subst he
        have HP := Lib.hid (decide_eq_false hp)
        clear hp
        go_wp2_with fail
        go_roundw
        case rel => exact ⟨i + 1, by go_num, by omega, fun j y hj hy => by
          by_cases e : j = i
          · subst e
            have : y = x := by have := HX.out.1; rw [hy] at this; exact Option.some.inj this
            rw [this]; exact HP.out
          · exact HX.out.2 j y (by omega) hy, HR.out.1, HR.out.2.1, HR.out.2.2⟩
        case measure => simp [intOf]; omega
    · obtain rfl : i = L.length := by omega
      have HY := Lib.hid (idxA_never (p := fun x : Int × Int => decide (x.1 = a)) hno)
      clear q hno hPr
      go_wp2_with fail
      go_ret
      exact ⟨ret_int (HY.out.symm.trans HRI.out), by rw [HB0.out]; exact bel⟩
theorem ix_nat {w : World} {b0 : Nat} {v : Value} {L : List (Int × Int)} (q : Qo w b0 2 v L.length (cellsPl L)) (hn : L.length ≤ 100) (a : Int) (pc : Nat) (hP : Blk w pc 28 #[.int .u32 a]) : Calls Try.prog 39 #[v, .func (.func 40) #[] #[.pointer (some ⟨pc, 0, none⟩)]] w fun e w' => e = .returned (.int .i64 (idxA (fun x => decide (x.1 = a)) L)) ∧ Below w.heap.size w w' := by
  obtain ⟨oa, cap, rfl, _, _⟩ := q.shape
  obtain ⟨B0, hB0⟩ : ∃ B0, w.heap.size = B0 := ⟨_, rfl⟩
  have HB0 := Lib.hid hB0
  obtain ⟨ri, hri⟩ : ∃ ri, idxA (fun x : Int × Int => decide (x.1 = a)) L = ri := ⟨_, rfl⟩
  rw [hri]
  have HRI := Lib.hid hri
  clear hri
  go_enter Try.func39, Try.ntmps39
  go_wp2_with fail
  go_loopw [8] (fun s8 wr => ∃ i : Nat, s8 = .int .i64 (i : Nat) ∧ i ≤ L.length ∧ (∀ (j : Nat) x, j < i → L[j]? = some x → decide (x.1 = a) = false) ∧ Qo wr b0 2 (.slice oa L.length cap) L.length (cellsPl L) ∧ Below B0 w wr ∧ Blk wr pc 28 #[.int .u32 a]) (fun s8 _ => L.length - (intOf s8).toNat)
  case atStart => exact ⟨0, rfl, Nat.zero_le _, fun j x hj => absurd hj (Nat.not_lt_zero j), q, Below.refl _ _, hP⟩
  case round =>
    clear q hP
    obtain ⟨i, rfl, hi, hno, q, bel, hPr⟩ := hrel
    by_cases hlt : i < L.length
    · have hii : (i : Int) < (L.length : Int) := by omega
      have hi0 : (0 : Int) ≤ (i : Int) := by omega
      obtain ⟨x, hx⟩ : ∃ x, L[i]? = some x := ⟨_, List.getElem?_eq_getElem hlt⟩
      obtain ⟨hh, off, rfl, _, _, X⟩ := row_at q rfl hx
      have HX := Lib.hid (And.intro hx hno)
      clear hx hno
      go_wp2_with (refine wpList_load_at rfl 54 _ rfl hh (off + i * 2) rfl (pl x) _ X Try.underlying54 rfl (szNs x) ?_)
      refine (clg_nat x a pc wr hPr).mono ?_
      rintro e w3 ⟨he, hb3⟩
      have HR := Lib.hid (And.intro (q.below hb3 (Nat.le_refl _)) (And.intro (bel.trans (hb3.mono (by have := bel.size; omega))) (hPr.below hb3 hPr.lt)))
      clear q X bel hb3 hPr
      by_cases hp : x.1 = a
      · rw [decide_eq_true hp] at he
        subst he
        have HY := Lib.hid (idxA_hit (p := fun x : Int × Int => decide (x.1 = a)) HX.out.1 (decide_eq_true hp) HX.out.2)
        clear hp
        go_wp2_with fail
        go_ret
        exact ⟨ret_int (HY.out.symm.trans HRI.out), by rw [HB0.out]; exact HR.out.2.1⟩
      · rw [decide_eq_false hp] at he
        subst he
        have HP := Lib.hid (decide_eq_false hp)
        clear hp
        go_wp2_with fail
        go_roundw
        case rel => exact ⟨i + 1, by go_num, by omega, fun j y hj hy => by
          by_cases e : j = i
          · subst e
            have : y = x := by have := HX.out.1; rw [hy] at this; exact Option.some.inj this
            rw [this]; exact HP.out
          · exact HX.out.2 j y (by omega) hy, HR.out.1, HR.out.2.1, HR.out.2.2⟩
        case measure => simp [intOf]; omega
    · obtain rfl : i = L.length := by omega
      have HY := Lib.hid (idxA_never (p := fun x : Int × Int => decide (x.1 = a)) hno)
      clear q hno hPr
      go_wp2_with fail
      go_ret
      exact ⟨ret_int (HY.out.symm.trans HRI.out), by rw [HB0.out]; exact bel⟩
/-- topo.Nat. -/
theorem nat_any {w : World} {b0 : Nat} {v : Value} {L : List (Int × Int)} (vH : Value) (q : Qo w b0 2 v L.length (cellsPl L)) (hn : L.length ≤ 100) (a : Int) : Calls Try.prog 23 #[.agg #[vH, v], .int .u32 a] w fun e w' => e = .returned (.int .i64 (idxA (fun x => decide (x.1 = a)) L)) ∧ Below w.heap.size w w' := by
  obtain ⟨ri, hri⟩ : ∃ ri, idxA (fun x : Int × Int => decide (x.1 = a)) L = ri := ⟨_, rfl⟩
  rw [hri]
  have HRI := Lib.hid hri
  clear hri
  have T1 := (Blk.new w 42 #[vH, v]).alloc (.cells #[.int .u32 a] 28)
  have A1 := blk_new2 w (.cells #[vH, v] 42) 28 #[.int .u32 a]
  have q1 := (q.alloc (.cells #[vH, v] 42)).alloc (.cells #[.int .u32 a] 28)
  have bel1 := ((Below.refl w.heap.size w).alloc (Nat.le_refl _) (.cells #[vH, v] 42)).alloc (by simp) (.cells #[.int .u32 a] 28)
  go_enter Try.func23, Try.ntmps23
  go_upto_region 1 with fail
  obtain ⟨w1, hw1⟩ : ∃ w1, (w.alloc (.cells #[vH, v] 42)).alloc (.cells #[.int .u32 a] 28) = w1 := ⟨_, rfl⟩
  rw [hw1] at T1 A1 q1 bel1
  try rw [hw1]
  clear hw1
  have t1 : w1.cell? ⟨w.heap.size, 1, none⟩ = some v := T1.cell 1
  have hix := ix_nat q1 hn a (w.heap.size + 1) A1
  rw [HRI.out] at hix
  clear T1 A1 q1 q
  go_wp2_with fail
  refine hix.mono ?_
  rintro e w2 ⟨rfl, hb⟩
  have bel2 := bel1.trans (hb.mono bel1.size)
  clear hix
  go_wp2_with fail
  go_ret
  exact ⟨rfl, bel2⟩
/-- The number at the first place of an address; -1: none. -/
def behindA (a : Int) (L : List (Int × Int)) : Int := match L[(idxA (fun x : Int × Int => decide (x.1 = a)) L).toNat]? with
  | some x => if idxA (fun x : Int × Int => decide (x.1 = a)) L < 0 then -1 else x.2
  | none => -1
/-- topo.Place. -/
theorem place_any {w : World} {b0 : Nat} {v : Value} {L : List (Int × Int)} (q : Qo w b0 2 v L.length (cellsPl L)) (hn : L.length ≤ 100) (a : Int) : Calls Try.prog 21 #[.agg (hos v), .int .u32 a] w fun e w' => e = .returned (.tuple #[.int .i64 (idxA (fun x => decide (x.1 = a)) L), .int .i64 (behindA a L)]) ∧ Below w.heap.size w w' := by
  obtain ⟨ri, hri⟩ : ∃ ri, idxA (fun x : Int × Int => decide (x.1 = a)) L = ri := ⟨_, rfl⟩
  obtain ⟨rb, hrb⟩ : ∃ rb, behindA a L = rb := ⟨_, rfl⟩
  rw [hri, hrb]
  have hge := idxA_ge (fun x : Int × Int => decide (x.1 = a)) L
  have hlt := idxA_lt (fun x : Int × Int => decide (x.1 = a)) L
  rw [hri] at hge hlt
  unfold behindA at hrb
  rw [hri] at hrb
  have HRB := Lib.hid hrb
  have HRI := Lib.hid hri
  clear hri hrb
  unfold hos
  have T1 := (Blk.new w 50 #[v, .string ⟨#[]⟩, .slice none 0 0]).alloc (.cells #[.int .u32 a] 28)
  have A1 := blk_new2 w (.cells #[v, .string ⟨#[]⟩, .slice none 0 0] 50) 28 #[.int .u32 a]
  have q1 := (q.alloc (.cells #[v, .string ⟨#[]⟩, .slice none 0 0] 50)).alloc (.cells #[.int .u32 a] 28)
  have bel1 := ((Below.refl w.heap.size w).alloc (Nat.le_refl _) (.cells #[v, .string ⟨#[]⟩, .slice none 0 0] 50)).alloc (by simp) (.cells #[.int .u32 a] 28)
  go_enter Try.func21, Try.ntmps21
  go_upto_region 1 with fail
  obtain ⟨w1, hw1⟩ : ∃ w1, (w.alloc (.cells #[v, .string ⟨#[]⟩, .slice none 0 0] 50)).alloc (.cells #[.int .u32 a] 28) = w1 := ⟨_, rfl⟩
  rw [hw1] at T1 A1 q1 bel1
  try rw [hw1]
  clear hw1
  have t0 : w1.cell? ⟨w.heap.size, 0, none⟩ = some v := T1.cell 0
  have hix := ix_place q1 hn a (w.heap.size + 1) A1
  rw [HRI.out] at hix
  have htl := T1.lt
  clear A1 q t0
  have t0 : w1.cell? ⟨w.heap.size, 0, none⟩ = some v := T1.cell 0
  go_wp2_with fail
  refine hix.mono ?_
  rintro e w2 ⟨rfl, hb⟩
  have bel2 := bel1.trans (hb.mono bel1.size)
  have T2 := T1.below hb htl
  have q2 := q1.below hb (Nat.le_refl _)
  clear hix t0 T1 q1 hb bel1
  by_cases h0 : ri < 0
  · obtain rfl : ri = -1 := by omega
    have HY := Lib.hid (show rb = -1 by
      rw [← HRB.out]
      split
      · rw [if_pos (by omega)]
      · rfl)
    clear T2 q2
    go_wp2_with fail
    go_ret2
    exact ⟨by rw [HY.out]; rfl, bel2⟩
  · obtain ⟨k, rfl⟩ : ∃ k : Nat, ri = (k : Int) := ⟨ri.toNat, by omega⟩
    obtain ⟨x, hx⟩ : ∃ x, L[k]? = some x := ⟨_, List.getElem?_eq_getElem (by omega)⟩
    have HY := Lib.hid (show rb = x.2 by
      rw [← HRB.out, Int.toNat_natCast, hx]
      show (if (k : Int) < 0 then (-1 : Int) else x.2) = x.2
      rw [if_neg (by omega)])
    obtain ⟨oa, cap, hv, _, _⟩ := q2.shape
    subst hv
    obtain ⟨hh, off, rfl, _, _, X⟩ := row_at q2 rfl hx
    have t0 : w2.cell? ⟨w.heap.size, 0, none⟩ = some (.slice (some ⟨hh, off, none⟩) L.length cap) := T2.cell 0
    have x1 : w2.cell? ⟨hh, off + k * 2 + 1, none⟩ = some (.int .i64 x.2) := X.cell 1 rfl
    have hk0 : (0 : Int) ≤ (k : Int) := by omega
    clear T2 q2 X hx hge
    go_upto_region 4 with fail
    go_region
    all_goals
      go_wp2_with fail
      go_ret2
      exact ⟨by rw [HY.out]; rfl, bel2.drew⟩
end Go.Proofs.Ythjhiogbnacmdaa.top
