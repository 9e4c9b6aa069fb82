/- Layer 32: the host that has an address behind one between. -/
import Derived.Test.YthjhiogbnacmdaaToD
namespace Go.Proofs.Ythjhiogbnacmdaa.top
open Go.Sort (grow)
open Go.ChangeShapes Go.WideShapes Go.ChangeAt Go.RowKit kit
set_option maxRecDepth 100000

/-- Has a host this place? -/
def hasP (y : Int × Int) (L : List (Int × Int)) : Bool := decide (0 ≤ idxA (isP y) L)
theorem contains_any {w : World} {b0 : Nat} {v : Value} {L : List (Int × Int)} (q : Qo w b0 2 v L.length (cellsPl L)) (hn : L.length ≤ 100) (y : Int × Int) : Calls Try.prog 38 #[v, .agg (pl y)] w fun e w' => e = .returned (.bool (hasP y L)) ∧ Below w.heap.size w w' := by
  obtain ⟨rb, hrb⟩ : ∃ rb, hasP y L = rb := ⟨_, rfl⟩
  rw [hrb]
  unfold hasP at hrb
  obtain ⟨ri, hri⟩ : ∃ ri, idxA (isP y) L = ri := ⟨_, rfl⟩
  rw [hri] at hrb
  have HRB := Lib.hid hrb
  clear hrb
  have q1 := q.alloc (.cells (pl y) 52)
  have Y1 := Blk.new w 52 (pl y)
  have bel1 := (Below.refl w.heap.size w).alloc (Nat.le_refl _) (.cells (pl y) 52)
  go_enter Try.func38, Try.ntmps38
  go_upto_region 1 with fail
  obtain ⟨w1, hw1⟩ : ∃ w1, w.alloc (.cells (pl y) 52) = w1 := ⟨_, rfl⟩
  rw [hw1] at Y1 q1 bel1
  try rw [hw1]
  clear hw1
  have hix := ix_eq q1 hn y
  rw [hri] at hix
  have CY := Cel.of_blk Y1
  clear q1 Y1 q hri
  go_wp2_with (refine wpList_load_at rfl 52 _ rfl w.heap.size 0 rfl (pl y) _ CY Try.underlying52 rfl (szPl y) ?_)
  refine hix.mono ?_
  rintro e w2 ⟨rfl, hb⟩
  have bel2 := bel1.trans (hb.mono bel1.size)
  clear hix CY hb
  by_cases h0 : 0 ≤ ri
  · have HY := Lib.hid ((decide_eq_true h0).symm.trans HRB.out)
    go_wp2_with fail
    go_ret
    exact ⟨ret_bool HY.out, bel2⟩
  · have HY := Lib.hid ((decide_eq_false h0).symm.trans HRB.out)
    go_wp2_with fail
    go_ret
    exact ⟨ret_bool (by first | exact HY.out | exact (decide_eq_false (by omega)).trans HY.out), bel2⟩
theorem clg_inside {w : World} {b0 : Nat} {v : Value} {L : List (Int × Int)} (q : Qo w b0 2 v L.length (cellsPl L)) (hn : L.length ≤ 100) (a nt : Int) (ab nb : Nat) (HA : Blk w ab 28 #[.int .u32 a]) (HN : Blk w nb 3 #[.int .i64 nt]) :
    Calls Try.prog 37 #[.agg (hos v), .pointer (some ⟨ab, 0, none⟩), .pointer (some ⟨nb, 0, none⟩)] w fun e w' => e = .returned (.bool (hasP (a, nt) L)) ∧ Below w.heap.size w w' := by
  unfold hos
  have X1 := Blk.new w 50 #[v, .string ⟨#[]⟩, .slice none 0 0]
  have q1 := q.alloc (.cells #[v, .string ⟨#[]⟩, .slice none 0 0] 50)
  have A1 := HA.alloc (.cells #[v, .string ⟨#[]⟩, .slice none 0 0] 50)
  have N1 := HN.alloc (.cells #[v, .string ⟨#[]⟩, .slice none 0 0] 50)
  have bel1 := (Below.refl w.heap.size w).alloc (Nat.le_refl _) (.cells #[v, .string ⟨#[]⟩, .slice none 0 0] 50)
  go_enter Try.func37, Try.ntmps37
  go_upto_region 1 with fail
  obtain ⟨w1, hw1⟩ : ∃ w1, w.alloc (.cells #[v, .string ⟨#[]⟩, .slice none 0 0] 50) = w1 := ⟨_, rfl⟩
  rw [hw1] at X1 q1 A1 N1 bel1
  try rw [hw1]
  clear hw1
  have x0 : w1.cell? ⟨w.heap.size, 0, none⟩ = some v := X1.cell 0
  have a0 : w1.cell? ⟨ab, 0, none⟩ = some (.int .u32 a) := A1.cell 0
  have n0 : w1.cell? ⟨nb, 0, none⟩ = some (.int .i64 nt) := N1.cell 0
  have hc := contains_any q1 hn (a, nt)
  unfold pl at hc
  dsimp only at hc
  clear X1 q1 A1 N1 q HA HN
  go_wp2_with fail
  refine hc.mono ?_
  rintro e w2 ⟨rfl, hb⟩
  have bel2 := bel1.trans (hb.mono bel1.size)
  clear hc hb
  go_wp2_with fail
  go_ret
  exact ⟨rfl, bel2⟩
/-- The hosts as a list. -/
def hol (hs : Nat → List (Int × Int)) (n : Nat) : List (List (Int × Int)) := (List.range n).map hs
theorem hol_len (hs : Nat → List (Int × Int)) (n : Nat) : (hol hs n).length = n := by simp [hol]
theorem hol_get (hs : Nat → List (Int × Int)) {n i : Nat} (h : i < n) : (hol hs n)[i]? = some (hs i) := by simp [hol, h]
theorem szHo (v : Value) : (Try.prog.info? 50).map (·.size) = some (hos v).size := by show _ = some 3; kernel_rfl
section
variable {w : World} {b0 : Nat} {vH vN : Value} {pv : Nat → Value} {hs : Nat → List (Int × Int)} {n : Nat} {ns : List (Int × Int)}
set_option maxHeartbeats 1000000 in
theorem ix_host (h : TM w b0 vH vN pv hs n ns) (a nt : Int) (ab nb : Nat) (HA : Blk w ab 28 #[.int .u32 a]) (HN : Blk w nb 3 #[.int .i64 nt]) :
    Calls Try.prog 36 #[vH, .func (.func 37) #[] #[.pointer (some ⟨ab, 0, none⟩), .pointer (some ⟨nb, 0, none⟩)]] w fun e w' => e = .returned (.int .i64 (idxA (hasP (a, nt)) (hol hs n))) ∧ Below w.heap.size w w' := by
  obtain ⟨oa, cap, rfl, _, _⟩ := h.H.shape
  obtain ⟨B0, hB0⟩ : ∃ B0, w.heap.size = B0 := ⟨_, rfl⟩
  have HB0 := Lib.hid hB0
  obtain ⟨ri, hri⟩ : ∃ ri, idxA (hasP (a, nt)) (hol hs n) = ri := ⟨_, rfl⟩
  rw [hri]
  have HRI := Lib.hid hri
  clear hri
  have hn8 := h.n8
  go_enter Try.func36, Try.ntmps36
  go_wp2_with fail
  go_loopw [8] (fun s8 wr => ∃ i : Nat, s8 = .int .i64 (i : Nat) ∧ i ≤ n ∧ (∀ (j : Nat) x, j < i → (hol hs n)[j]? = some x → hasP (a, nt) x = false) ∧ TM wr b0 (.slice oa n cap) vN pv hs n ns ∧ Below B0 w wr ∧ Blk wr ab 28 #[.int .u32 a] ∧ Blk wr nb 3 #[.int .i64 nt]) (fun s8 _ => n - (intOf s8).toNat)
  case atStart => exact ⟨0, rfl, Nat.zero_le _, fun j x hj => absurd hj (Nat.not_lt_zero j), h, Below.refl _ _, HA, HN⟩
  case round =>
    clear h HA HN
    obtain ⟨i, rfl, hi, hno, h, bel, HA, HN⟩ := hrel
    by_cases hlt : i < n
    · have hii : (i : Int) < (n : Int) := by omega
      have hi0 : (0 : Int) ≤ (i : Int) := by omega
      obtain ⟨hh, off, cap', hv, X⟩ := h.host hlt
      injection hv with hv1 hv2 hv3
      subst hv1
      have hcl := clg_inside (h.P i hlt) (by have := h.p6 i hlt; omega) a nt ab nb HA HN
      have HX := Lib.hid (And.intro (hol_get hs hlt) hno)
      clear hno hv2 hv3
      go_wp2_with (refine wpList_load_at rfl 50 _ rfl hh (off + i * 3) rfl (hos (pv i)) _ X Try.underlying50 rfl (szHo (pv i)) ?_)
      refine hcl.mono ?_
      rintro e w3 ⟨he, hb3⟩
      have HR := Lib.hid (And.intro (h.below hb3 (Nat.le_refl _)) (And.intro (bel.trans (hb3.mono (by have := bel.size; omega))) (And.intro (HA.below hb3 HA.lt) (HN.below hb3 HN.lt))))
      clear h X bel hb3 HA HN hcl
      rcases hp : hasP (a, nt) (hs i) with _ | _
      · rw [hp] at he
        subst he
        have HP := Lib.hid hp
        clear hp
        go_wp2_with fail
        go_roundw
        case rel => exact ⟨i + 1, by go_num, by omega, fun j z hj hz => by
          by_cases e : j = i
          · subst e
            have : z = hs j := by have := HX.out.1; rw [hz] at this; exact Option.some.inj this
            rw [this]; exact HP.out
          · exact HX.out.2 j z (by omega) hz, HR.out.1, HR.out.2.1, HR.out.2.2.1, HR.out.2.2.2⟩
        case measure => simp [intOf]; omega
      · rw [hp] at he
        subst he
        have HY := Lib.hid (idxA_hit (p := hasP (a, nt)) HX.out.1 hp HX.out.2)
        clear hp
        go_wp2_with fail
        go_ret
        exact ⟨ret_int (HY.out.symm.trans HRI.out), by first | exact HR.out.2.1 | (rw [HB0.out]; exact HR.out.2.1)⟩
    · obtain rfl : i = n := by omega
      have HY := Lib.hid (idxA_never (p := hasP (a, nt)) (L := hol hs i) (fun j x hj hx => hno j x (by rw [hol_len] at hj; exact hj) hx))
      clear h hno HA HN
      go_wp2_with fail
      go_ret
      exact ⟨ret_int (HY.out.symm.trans HRI.out), by first | exact bel | (rw [HB0.out]; exact bel)⟩
/-- topo.Inside. -/
theorem inside_any (h : TM w b0 vH vN pv hs n ns) (a nt : Int) : Calls Try.prog 22 #[.agg #[vH, vN], .int .i64 nt, .int .u32 a] w fun e w' => e = .returned (.int .i64 (idxA (hasP (a, nt)) (hol hs n))) ∧ Below w.heap.size w w' := by
  obtain ⟨ri, hri⟩ : ∃ ri, idxA (hasP (a, nt)) (hol hs n) = ri := ⟨_, rfl⟩
  rw [hri]
  have HRI := Lib.hid hri
  clear hri
  have T1 := ((Blk.new w 42 #[vH, vN]).alloc (.cells #[.int .i64 nt] 3)).alloc (.cells #[.int .u32 a] 28)
  have N1 := (blk_new2 w (.cells #[vH, vN] 42) 3 #[.int .i64 nt]).alloc (.cells #[.int .u32 a] 28)
  have A1 := Blk.new ((w.alloc (.cells #[vH, vN] 42)).alloc (.cells #[.int .i64 nt] 3)) 28 #[.int .u32 a]
  have hs1 : ((w.alloc (.cells #[vH, vN] 42)).alloc (.cells #[.int .i64 nt] 3)).heap.size = w.heap.size + 1 + 1 := by simp
  rw [hs1] at A1
  have h1 := ((h.alloc (.cells #[vH, vN] 42)).alloc (.cells #[.int .i64 nt] 3)).alloc (.cells #[.int .u32 a] 28)
  have bel1 := (((Below.refl w.heap.size w).alloc (Nat.le_refl _) (.cells #[vH, vN] 42)).alloc (by simp) (.cells #[.int .i64 nt] 3)).alloc (by simp; omega) (.cells #[.int .u32 a] 28)
  clear hs1
  go_enter Try.func22, Try.ntmps22
  go_upto_region 1 with fail
  obtain ⟨w1, hw1⟩ : ∃ w1, ((w.alloc (.cells #[vH, vN] 42)).alloc (.cells #[.int .i64 nt] 3)).alloc (.cells #[.int .u32 a] 28) = w1 := ⟨_, rfl⟩
  rw [hw1] at T1 N1 A1 h1 bel1
  try rw [hw1]
  clear hw1
  have t0 : w1.cell? ⟨w.heap.size, 0, none⟩ = some vH := T1.cell 0
  have hix := ix_host h1 a nt (w.heap.size + 1 + 1) (w.heap.size + 1) A1 N1
  rw [HRI.out] at hix
  clear T1 N1 A1 h1 h
  go_wp2_with fail
  refine hix.mono ?_
  rintro e w2 ⟨rfl, hb⟩
  have bel2 := bel1.trans (hb.mono bel1.size)
  clear hix hb
  go_wp2_with fail
  go_ret
  exact ⟨rfl, bel2⟩
end
end Go.Proofs.Ythjhiogbnacmdaa.top
