/- Layer 32: the two topologies at the statements' beginning. -/
import Derived.Test.YthjhiogbnacmdaaToM
import Derived.Test.YthjhiogbnacmdaaToJ
namespace Go.Proofs.Ythjhiogbnacmdaa.top
open Go.Sort (grow)
open Go.ChangeShapes Go.WideShapes Go.ChangeAt Go.RowKit kit
set_option maxRecDepth 100000

open Classical in
/-- May it be? -/
noncomputable def fineB (n : Nat) (hs : Nat → List (Int × Int)) (ns : List (Int × Int)) : Bool := decide (Fine n hs ns)
open Classical in
theorem fineB_iff (n : Nat) (hs : Nat → List (Int × Int)) (ns : List (Int × Int)) : fineB n hs ns = true ↔ Fine n hs ns := by
  unfold fineB
  rw [decide_eq_true_eq]
noncomputable def chkC (n : Nat) (hs : Nat → List (Int × Int)) (ns : List (Int × Int)) : Int := if fineB n hs ns = true then 0 else 1
section
variable {w : World} {b0 : Nat} {vH vN : Value} {pv : Nat → Value} {hs : Nat → List (Int × Int)} {n : Nat} {ns : List (Int × Int)}
theorem fine_val (h : TM w b0 vH vN pv hs n ns) : Calls Try.prog 19 #[.agg #[vH, vN]] w fun e w' => e = .returned (.bool (fineB n hs ns)) ∧ Below w.heap.size w w' := by
  refine (fine_any h).mono ?_
  rintro e w' ⟨⟨b, rfl, hb⟩, bel⟩
  refine ⟨ret_bool ?_, bel⟩
  rw [Bool.eq_iff_iff, hb, fineB_iff]
theorem check_val (h : TM w b0 vH vN pv hs n ns) (wfN : ∀ x ∈ ns, (Lit.int .u32 x.1).wf = true) (wfH : ∀ i, i < n → ∀ x ∈ hs i, (Lit.int .u32 x.1).wf = true) : Calls Try.prog 18 #[.agg #[vH, vN]] w fun e w' => e = .returned (.int .i64 (chkC n hs ns)) ∧ Below w.heap.size w w' := by
  refine (check_any h wfN wfH).mono ?_
  rintro e w' ⟨⟨c, rfl, h01, hc⟩, bel⟩
  refine ⟨ret_int ?_, bel⟩
  unfold chkC
  by_cases hf : Fine n hs ns
  · rw [if_pos ((fineB_iff n hs ns).2 hf)]
    exact hc.2 hf
  · rw [if_neg (fun e => hf ((fineB_iff n hs ns).1 e))]
    rcases h01 with e | e
    · exact absurd (hc.1 e) hf
    · exact e
end
/-- A row that fills its block. -/
theorem Qo.of_blk {w : World} {b0 g n size : Nat} {t : TypeId} {cs : Array Value} (B : Blk w g t cs) (hb : b0 ≤ g) (hs : cs.size = n * size) (hn : n ≤ maxLen) : Qo w b0 size (.slice (some ⟨g, 0, none⟩) n n) n cs.toList :=
  ⟨by rw [Array.length_toList]; exact hs, _, n, rfl, Nat.le_refl _, hn, fun _ => ⟨g, 0, rfl, hb, B.lt, fun j hj => by
    rw [Nat.zero_add]
    exact ⟨by rw [B.cell j, Array.getElem?_eq_getElem (by omega)]; rfl, B.frozen j⟩, fun j hj => by
    rw [Nat.zero_add, B.cell j, Array.getElem?_toList]⟩⟩
theorem fine_one : Fine 1 (fun _ => [(1, -1)]) [] :=
  ⟨fun y h => absurd h List.not_mem_nil, fun i _ => ⟨by decide, by decide⟩, fun i _ => ⟨fun x hx => by
    rw [List.mem_singleton] at hx
    subst hx
    decide, by simp⟩, ⟨by decide, fun x hx => by
    rw [show spA [] (fun _ => [(1, -1)]) 1 = [(-1, 1)] from rfl, List.mem_singleton] at hx
    subst hx
    decide⟩, by decide, by decide, by decide⟩
theorem fine_two : ¬ Fine 2 (fun _ => [(1, -1)]) [] := fun f => by
  have h := f.good.1
  rw [show spA [] (fun _ => [(1, -1)]) 2 = [(-1, 1), (-1, 1)] from rfl] at h
  simp at h
theorem wf_one : (Lit.int .u32 1).wf = true := by decide
theorem awake_any (w : World) : Calls Try.prog 17 #[] w fun e w' => e = .returned (.bool true) ∧ Below w.heap.size w w' := by
  obtain ⟨B0, hB0⟩ : ∃ B0, w.heap.size = B0 := ⟨_, rfl⟩
  have P1 : Blk ((w.alloc (.cells #[.int .u32 1, .int .i64 (-1)] 52)).alloc (.cells #[.slice (some ⟨B0, 0, none⟩) 1 1, .string ⟨#[]⟩, .slice none 0 0] 50)) B0 52 #[.int .u32 1, .int .i64 (-1)] := by rw [← hB0]; exact (Blk.new _ _ _).alloc _
  have H1 : Blk ((w.alloc (.cells #[.int .u32 1, .int .i64 (-1)] 52)).alloc (.cells #[.slice (some ⟨B0, 0, none⟩) 1 1, .string ⟨#[]⟩, .slice none 0 0] 50)) (B0 + 1) 50 #[.slice (some ⟨B0, 0, none⟩) 1 1, .string ⟨#[]⟩, .slice none 0 0] := by rw [← hB0]; exact blk_new2 _ _ _ _
  have bel1 : Below B0 w ((w.alloc (.cells #[.int .u32 1, .int .i64 (-1)] 52)).alloc (.cells #[.slice (some ⟨B0, 0, none⟩) 1 1, .string ⟨#[]⟩, .slice none 0 0] 50)) := by rw [← hB0]; exact ((Below.refl w.heap.size w).alloc (Nat.le_refl _) _).alloc (by simp) _
  rw [hB0]
  go_enter Try.func17, Try.ntmps17
  go_upto_region 2 with fail
  obtain ⟨w2, hw2⟩ : ∃ w2, (w.alloc (.cells #[.int .u32 1, .int .i64 (-1)] 52)).alloc (.cells #[.slice (some ⟨B0, 0, none⟩) 1 1, .string ⟨#[]⟩, .slice none 0 0] 50) = w2 := ⟨_, rfl⟩
  rw [hw2] at P1 H1 bel1
  try rw [hw2]
  clear hw2
  have hpl := P1.lt
  have hhl := H1.lt
  obtain ⟨hb, hhb⟩ : ∃ hb, w2.heap.size = hb := ⟨_, rfl⟩
  have a0 : w2.cell? ⟨B0 + 1, 0, none⟩ = some (.slice (some ⟨B0, 0, none⟩) 1 1) := H1.cell 0
  have a1 : w2.cell? ⟨B0 + 1, 1, none⟩ = some (.string ⟨#[]⟩) := H1.cell 1
  have a2 : w2.cell? ⟨B0 + 1, 2, none⟩ = some (.slice none 0 0) := H1.cell 2
  have R3 := Blk.new w2 50 (hos (.slice (some ⟨B0, 0, none⟩) 1 1))
  have al3 := (Below.refl w2.heap.size w2).alloc (Nat.le_refl _) (.cells (hos (.slice (some ⟨B0, 0, none⟩) 1 1)) 50)
  have P3 := P1.below al3 hpl
  have H3 := H1.below al3 hhl
  have bel3 := bel1.trans (al3.mono (by omega))
  obtain ⟨w3, hw3⟩ : ∃ w3, w2.alloc (.cells (hos (.slice (some ⟨B0, 0, none⟩) 1 1)) 50) = w3 := ⟨_, rfl⟩
  rw [hw3] at R3 al3 P3 H3 bel3
  rw [hhb] at R3
  have T3 : TM w3 B0 (.slice (some ⟨hb, 0, none⟩) 1 1) (.slice none 0 0) (fun _ => .slice (some ⟨B0, 0, none⟩) 1 1) (fun _ => [(1, -1)]) 1 [] :=
    ⟨Qo.of_blk R3 (by omega) rfl (by unfold maxLen; omega), fun i _ => Qo.of_blk P3 (Nat.le_refl _) rfl (by unfold maxLen; omega), Qo.nil _ _ _, by decide, fun i _ => by show 1 ≤ 6; decide, by decide⟩
  have hc3 := check_val T3 (fun x hx => absurd hx List.not_mem_nil) (fun i _ x hx => by rw [List.mem_singleton] at hx; subst hx; exact wf_one)
  rw [show chkC 1 (fun _ => [(1, -1)]) [] = 0 from if_pos ((fineB_iff _ _ _).2 fine_one)] at hc3
  unfold hos at hw3
  have hpl3 := P3.lt
  have hhl3 := H3.lt
  clear T3 R3 P1 H1 bel1
  go_wp2_with fail
  try rw [hhb]
  try rw [hw3]
  refine hc3.mono ?_
  rintro e w4 ⟨rfl, hb4⟩
  have P4 := P3.below hb4 hpl3
  have H4 := H3.below hb4 hhl3
  have bel4 := bel3.trans (hb4.mono (by have := al3.size; omega))
  clear hc3 hb4 P3 H3 bel3 al3 hw3 a0 a1 a2
  have a0 : w4.cell? ⟨B0 + 1, 0, none⟩ = some (.slice (some ⟨B0, 0, none⟩) 1 1) := H4.cell 0
  have a1 : w4.cell? ⟨B0 + 1, 1, none⟩ = some (.string ⟨#[]⟩) := H4.cell 1
  have a2 : w4.cell? ⟨B0 + 1, 2, none⟩ = some (.slice none 0 0) := H4.cell 2
  have hpl4 := P4.lt
  have R5 := Blk.new w4 50 #[.slice (some ⟨B0, 0, none⟩) 1 1, .string ⟨#[]⟩, .slice none 0 0, .slice (some ⟨B0, 0, none⟩) 1 1, .string ⟨#[]⟩, .slice none 0 0]
  have al5 := (Below.refl w4.heap.size w4).alloc (Nat.le_refl _) (.cells #[.slice (some ⟨B0, 0, none⟩) 1 1, .string ⟨#[]⟩, .slice none 0 0, .slice (some ⟨B0, 0, none⟩) 1 1, .string ⟨#[]⟩, .slice none 0 0] 50)
  have P5 := P4.below al5 hpl4
  have bel5 := bel4.trans (al5.mono (by omega))
  have hs5 := al5.size
  obtain ⟨w5, hw5⟩ : ∃ w5, w4.alloc (.cells #[.slice (some ⟨B0, 0, none⟩) 1 1, .string ⟨#[]⟩, .slice none 0 0, .slice (some ⟨B0, 0, none⟩) 1 1, .string ⟨#[]⟩, .slice none 0 0] 50) = w5 := ⟨_, rfl⟩
  rw [hw5] at R5 P5 bel5 hs5
  have T5 : TM w5 B0 (.slice (some ⟨w4.heap.size, 0, none⟩) 2 2) (.slice none 0 0) (fun _ => .slice (some ⟨B0, 0, none⟩) 1 1) (fun _ => [(1, -1)]) 2 [] :=
    ⟨Qo.of_blk R5 (by omega) rfl (by unfold maxLen; omega), fun i _ => Qo.of_blk P5 (Nat.le_refl _) rfl (by unfold maxLen; omega), Qo.nil _ _ _, by decide, fun i _ => by show 1 ≤ 6; decide, by decide⟩
  have hc5 := check_val T5 (fun x hx => absurd hx List.not_mem_nil) (fun i _ x hx => by rw [List.mem_singleton] at hx; subst hx; exact wf_one)
  rw [show chkC 2 (fun _ => [(1, -1)]) [] = 1 from if_neg (fun e => fine_two ((fineB_iff _ _ _).1 e))] at hc5
  clear T5 R5 P5 P4 H4 bel4
  go_wp2_with fail
  try rw [hw5]
  refine hc5.mono ?_
  rintro e w6 ⟨rfl, hb6⟩
  have bel6 := bel5.trans (hb6.mono (by omega))
  clear hc5 hb6 bel5 al5 hw5 a0 a1 a2
  go_wp2_with fail
  go_ret
  exact ⟨rfl, bel6⟩
end Go.Proofs.Ythjhiogbnacmdaa.top
