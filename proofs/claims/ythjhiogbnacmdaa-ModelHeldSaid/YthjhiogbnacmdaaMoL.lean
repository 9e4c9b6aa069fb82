/- Layer 37: what must be so at the statement's beginning. -/
import Derived.Test.YthjhiogbnacmdaaMoK
namespace Go.Proofs.Ythjhiogbnacmdaa.mo
open Go.Sort (grow)
open Go.ChangeShapes Go.WideShapes Go.ChangeAt Go.RowKit kit cut
set_option maxRecDepth 100000

def mA : Ms := ⟨0, false, ⟨#[97]⟩⟩
def mB : Ms := ⟨0, false, ⟨#[98]⟩⟩
def mL : Ms := ⟨0, true, ⟨#[]⟩⟩
theorem fewA : Few [mA] := ⟨by decide, fun x hx => by
  rw [List.mem_singleton] at hx
  subst hx
  exact ⟨.inl rfl, by decide⟩⟩
theorem fewB : Few [mB] := ⟨by decide, fun x hx => by
  rw [List.mem_singleton] at hx
  subst hx
  exact ⟨.inl rfl, by decide⟩⟩
theorem fewL : Few [mL] := ⟨by decide, fun x hx => by
  rw [List.mem_singleton] at hx
  subst hx
  exact ⟨.inl rfl, by decide⟩⟩
theorem fewN : Few [] := ⟨by decide, fun x hx => absurd hx List.not_mem_nil⟩
theorem fewAB : Few [mA, mB] := ⟨by decide, fun x hx => by
  simp only [List.mem_cons, List.not_mem_nil, or_false] at hx
  rcases hx with rfl | rfl
  · exact ⟨.inl rfl, by decide⟩
  · exact ⟨.inl rfl, by decide⟩⟩
theorem held1 : oV [mA, mB] [mA] + lV [mA, mB] [mA] = 0 := by
  rw [oV_yes ((ord_two (fun x hx => (fewA.2 x hx).1)).2 ⟨⟨[⟨#[98]⟩], rfl⟩, List.nil_prefix⟩), lV_yes (fun x hx hl => by
    rw [List.mem_singleton] at hx
    subst hx
    cases hl)]
  rfl
theorem held2 : oV [mA, mB] [mB] + lV [mA, mB] [mB] = 1 := by
  rw [oV_no (fun h => by
    have h0 := h 0
    obtain ⟨t, ht⟩ := h0
    have h1 : (⟨#[98]⟩ : ByteArray) :: t = [⟨#[97]⟩, ⟨#[98]⟩] := ht
    injection h1 with h2
    exact absurd (congrArg (fun b : ByteArray => b.data) h2) (by decide)), lV_yes (fun x hx hl => by
    rw [List.mem_singleton] at hx
    subst hx
    cases hl)]
  rfl
theorem held3 : oV [] [mL] + lV [] [mL] = 2 := by
  rw [oV_yes ((ord_two (fun x hx => (fewL.2 x hx).1)).2 ⟨List.nil_prefix, List.nil_prefix⟩), lV_no (fun h => by
    have := h mL (by simp) rfl
    have h1 : cM mL [mL] = 1 := by
      have h2 := cM_snoc mL [] mL
      rw [if_pos ((eqM_iff mL mL).2 rfl)] at h2
      exact h2
    have h3 : cM mL [] = 0 := rfl
    omega)]
  rfl
/-- A part of a block as a row. -/
theorem qo_part {w : World} {b0 g off n cap size : Nat} {t : TypeId} {cs : Array Value} {xs : List Value} (B : Blk w g t cs) (hb : b0 ≤ g) (hn : n ≤ cap) (hc : off + cap * size ≤ cs.size) (hm : cap ≤ maxLen) (hx : xs.length = n * size) (hj : ∀ j, j < n * size → cs[off + j]? = xs[j]?) : Qo w b0 size (.slice (some ⟨g, off, none⟩) n cap) n xs :=
  ⟨hx, _, cap, rfl, hn, hm, fun _ => ⟨g, off, rfl, hb, B.lt, fun j hj => ⟨by rw [B.cell, Array.getElem?_eq_getElem (by omega)]; rfl, B.frozen _⟩, fun j h => by rw [B.cell, hj j h]⟩⟩
def two : Array Value := #[.int .i64 0, .int .i64 0, .bool false, .int .u32 0, .string ⟨#[97]⟩, .int .i64 0, .int .i64 0, .bool false, .int .u32 0, .string ⟨#[98]⟩]
def lone : Array Value := #[.int .i64 0, .int .i64 0, .bool true, .int .u32 0, .string ⟨#[]⟩]
set_option maxHeartbeats 2000000 in
theorem awake_mo (w : World) : Calls Try.prog 14 #[] w fun e w' => e = .returned (.bool true) ∧ Below w.heap.size w w' := by
  obtain ⟨B0, hB0⟩ : ∃ B0, w.heap.size = B0 := ⟨_, rfl⟩
  have T1 : Blk (w.alloc (.cells two 71)) B0 71 two := by rw [← hB0]; exact Blk.new _ _ _
  have bel1 : Below B0 w (w.alloc (.cells two 71)) := by rw [← hB0]; exact (Below.refl w.heap.size w).alloc (Nat.le_refl _) _
  unfold two at T1 bel1
  rw [hB0]
  go_enter Try.func14, Try.ntmps14
  go_upto_region 2 with fail
  obtain ⟨w1, hw1⟩ : ∃ w1, w.alloc (.cells #[.int .i64 0, .int .i64 0, .bool false, .int .u32 0, .string ⟨#[97]⟩, .int .i64 0, .int .i64 0, .bool false, .int .u32 0, .string ⟨#[98]⟩] 71) = w1 := ⟨_, rfl⟩
  rw [hw1] at T1 bel1
  try rw [hw1]
  clear hw1
  have HT := Lib.hid (show ∀ w', Blk w' B0 71 two → QM w' B0 (.slice (some ⟨B0, 0, none⟩) 2 2) [mA, mB] ∧ QM w' B0 (.slice (some ⟨B0, 0, none⟩) 1 2) [mA] ∧ QM w' B0 (.slice (some ⟨B0, 5, none⟩) 1 1) [mB] from fun w' T =>
    ⟨qo_part (size := 5) T (Nat.le_refl _) (by decide) (by decide) (by unfold maxLen; omega) rfl (fun j hj => by
      have : j = 0 ∨ j = 1 ∨ j = 2 ∨ j = 3 ∨ j = 4 ∨ j = 5 ∨ j = 6 ∨ j = 7 ∨ j = 8 ∨ j = 9 := by have h : j < 10 := hj; omega
      rcases this with rfl | rfl | rfl | rfl | rfl | rfl | rfl | rfl | rfl | rfl <;> rfl),
     qo_part (size := 5) T (Nat.le_refl _) (by decide) (by decide) (by unfold maxLen; omega) rfl (fun j hj => by
      have : j = 0 ∨ j = 1 ∨ j = 2 ∨ j = 3 ∨ j = 4 := by have h : j < 5 := hj; omega
      rcases this with rfl | rfl | rfl | rfl | rfl <;> rfl),
     qo_part (size := 5) T (Nat.le_refl _) (by decide) (by decide) (by unfold maxLen; omega) rfl (fun j hj => by
      have : j = 0 ∨ j = 1 ∨ j = 2 ∨ j = 3 ∨ j = 4 := by have h : j < 5 := hj; omega
      rcases this with rfl | rfl | rfl | rfl | rfl <;> rfl)⟩)
  have h1 := held_any (HT.out _ T1).1 (HT.out _ T1).2.1 fewAB fewA
  rw [held1] at h1
  have hl1 := T1.lt
  go_wp2_with fail
  refine h1.mono ?_
  rintro e w2 ⟨rfl, hb2⟩
  have T2 := T1.below hb2 hl1
  have bel2 := bel1.trans (hb2.mono (by omega))
  have h2 := held_any (HT.out _ T2).1 (HT.out _ T2).2.2 fewAB fewB
  rw [held2] at h2
  have hl2 := T2.lt
  clear h1 hb2 T1 bel1 hl1
  go_wp2_with fail
  refine h2.mono ?_
  rintro e w3 ⟨rfl, hb3⟩
  have T3 := T2.below hb3 hl2
  have bel3 := bel2.trans (hb3.mono (by omega))
  have hl3 := T3.lt
  have S4 := Blk.new w3 71 lone
  have al4 := (Below.refl w3.heap.size w3).alloc (Nat.le_refl _) (.cells lone 71)
  have bel4 := bel3.trans (al4.mono (by omega))
  have q4 : QM (w3.alloc (.cells lone 71)) 0 (.slice (some ⟨w3.heap.size, 0, none⟩) 1 1) [mL] := qo_part (size := 5) S4 (Nat.zero_le _) (by decide) (by decide) (by unfold maxLen; omega) rfl (fun j hj => by
      have : j = 0 ∨ j = 1 ∨ j = 2 ∨ j = 3 ∨ j = 4 := by have h : j < 5 := hj; omega
      rcases this with rfl | rfl | rfl | rfl | rfl <;> rfl)
  have qN : QM (w3.alloc (.cells lone 71)) 0 (.slice none 0 0) [] := Qo.nil _ _ _
  have h3 := held_any qN q4 fewN fewL
  rw [held3] at h3
  unfold lone at h3 bel4
  have hs4 := al4.size
  unfold lone at hs4
  clear h2 hb3 T2 bel2 T3 bel3 S4 al4 q4 qN hl2
  go_wp2_with fail
  refine h3.mono ?_
  rintro e w5 ⟨rfl, hb5⟩
  have bel5 := bel4.trans (hb5.mono (by omega))
  clear h3 hb5 bel4 hs4
  go_wp2_with fail
  go_ret
  exact ⟨rfl, bel5⟩
end Go.Proofs.Ythjhiogbnacmdaa.mo
