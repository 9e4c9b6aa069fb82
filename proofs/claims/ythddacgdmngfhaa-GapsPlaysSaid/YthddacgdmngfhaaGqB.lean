/- Layer 16: the document's own words: what a number would be; what came twice, asked of the program. -/
import Derived.Test.YthddacgdmngfhaaGqA
import Derived.Test.YthddacgdmngfhaaGpN
namespace Go.Proofs.Ythddacgdmngfhaa.gap
open Go.Sort (grow)
open Go.ChangeShapes Go.WideShapes Go.ChangeAt Go.RowKit kit gapm
set_option maxRecDepth 100000
def lookF (F : List Nat) (d : Nat) : Int := if d = 0 ∨ 2147483648 < d then 2 else if 1000 < d then 3 else if hasB F d = true then 2 else 1
theorem szGt (a b c : Value) : (Try.prog.info? 72).map (·.size) = some (#[a, b, c] : Array Value).size := by show _ = some 3; kernel_rfl
set_option maxHeartbeats 1000000 in
theorem rlook_any {b0 : Nat} {F : List Nat} {fv dv : Value} (C c d : Nat) (w : World) (q : Qo w b0 1 fv F.length (cellsF F)) (hn : F.length ≤ 2000) (hd : d < 4294967296) :
    Calls Try.prog 39 #[.agg #[.int .u32 (ab C c), fv, dv], .int .u32 (ab C (c + d))] w fun e w' => e = .returned (.int .i64 (lookF F d)) ∧ Below w.heap.size w w' := by
  have hsub : (ab C (c + d) - ab C c) % 4294967296 = (d : Int) := by unfold ab; omega
  have hL : lookF F d = if d = 0 ∨ 2147483648 < d then 2 else if 1000 < d then 3 else if hasB F d = true then 2 else 1 := rfl
  obtain ⟨lv, hlv⟩ : ∃ lv, lookF F d = lv := ⟨_, rfl⟩
  rw [hlv] at hL ⊢
  clear hlv
  generalize ab C (c + d) = t at *
  generalize ab C c = a0 at *
  obtain ⟨oa, cap, hfv, hc, hcm⟩ := q.shape
  subst hfv
  have al := (Below.refl w.heap.size w).alloc (Nat.le_refl _) (.cells #[.int .u32 a0, .slice oa F.length cap, dv] 72)
  have B1 := Blk.new w 72 #[.int .u32 a0, .slice oa F.length cap, dv]
  have q1 := q.below al (Nat.le_refl _)
  have hh := has_any (dv := dv) a0 d _ q1 hn
  have HH := Lib.hid hh
  have HV := Lib.hid hL
  clear hh hL q q1
  go_enter Try.func39, Try.ntmps39
  go_upto_region 1 with fail
  obtain ⟨w1, hw1⟩ : ∃ w1, w.alloc (.cells #[.int .u32 a0, .slice oa F.length cap, dv] 72) = w1 := ⟨_, rfl⟩
  rw [hw1] at al B1 HH ⊢
  clear hw1
  obtain ⟨bx, hbx⟩ : ∃ bx, w.heap.size = bx := ⟨_, rfl⟩
  rw [hbx] at B1 ⊢
  have HBX := Lib.hid hbx
  have HAL := Lib.hid al
  have c0 : w1.cell? ⟨bx, 0, none⟩ = some (.int .u32 a0) := B1.cell 0
  have HB1 := Lib.hid B1
  clear al B1 hbx
  by_cases h0 : d = 0
  · subst h0
    have hv : lv = 2 := by rw [HV.out, if_pos (.inl rfl)]
    subst hv
    go_wp2_with fail
    go_ret
    exact ⟨rfl, HBX.out ▸ HAL.out⟩
  · have hd0 : ¬ (d : Int) = 0 := by omega
    have hd0b : ((d : Int) == 0) = false := by simpa using h0
    by_cases h1 : 2147483648 < d
    · have hv : lv = 2 := by rw [HV.out, if_pos (.inr h1)]
      subst hv
      have h1' : (2147483648 : Int) < (d : Int) := by omega
      go_wp2_with fail
      go_ret
      exact ⟨rfl, HBX.out ▸ HAL.out⟩
    · have h1' : (d : Int) ≤ (2147483648 : Int) := by omega
      have h1b : decide ((2147483648 : Int) < (d : Int)) = false := decide_eq_false (by omega)
      have hv := HV.out
      rw [if_neg (by omega)] at hv
      by_cases h2 : 1000 < d
      · rw [if_pos h2] at hv
        subst hv
        have h2' : (1000 : Int) < (d : Int) := by omega
        go_wp2_with fail
        go_ret
        exact ⟨rfl, HBX.out ▸ HAL.out⟩
      · rw [if_neg h2] at hv
        have h2' : (d : Int) ≤ 1000 := by omega
        have HW := Lib.hid hv
        have hcall := HH.out
        clear hv HV
        generalize hasB F d = hb at *
        cases hb with
        | true =>
          have hv : lv = 2 := by rw [HW.out, if_pos rfl]
          subst hv
          go_wp2_with (refine wpList_load_at rfl 72 _ rfl bx 0 rfl #[.int .u32 a0, .slice oa F.length cap, dv] _ (Cel.of_blk HB1.out) Try.underlying72 rfl (szGt _ _ _) ?_)
          refine hcall.mono ?_
          rintro e w3 ⟨rfl, hb3⟩
          go_wp2_with fail
          go_ret
          exact ⟨rfl, HBX.out ▸ HAL.out.trans (hb3.mono HAL.out.size)⟩
        | false =>
          have hv : lv = 1 := by rw [HW.out, if_neg (by simp)]
          subst hv
          go_wp2_with (refine wpList_load_at rfl 72 _ rfl bx 0 rfl #[.int .u32 a0, .slice oa F.length cap, dv] _ (Cel.of_blk HB1.out) Try.underlying72 rfl (szGt _ _ _) ?_)
          refine hcall.mono ?_
          rintro e w3 ⟨rfl, hb3⟩
          go_wp2_with fail
          go_ret
          exact ⟨rfl, HBX.out ▸ HAL.out.trans (hb3.mono HAL.out.size)⟩
set_option maxHeartbeats 1000000 in
/-- What came twice: told, and forgotten. -/
theorem dups_any {b0 g C : Nat} {s : St} {D : List Int} {pv dv : Value} {w : World} (h : Gt b0 g C s D pv dv w) : Calls Try.prog 44 #[.pointer (some ⟨g, 0, none⟩)] w fun e w' => e = .returned dv ∧ w' = w.setCell ⟨g, 2, none⟩ (.slice none 0 0) := by
  obtain ⟨oa, cap, hdv⟩ := own_arr h.d
  have c2 : w.cell? ⟨g, 2, none⟩ = some dv := h.B.cell 2
  have f2 := h.B.frozen 2
  rw [hdv] at c2 ⊢
  clear h hdv
  go_enter Try.func44, Try.ntmps44
  go_wp2
  go_ret
  exact ⟨rfl, rfl⟩
theorem Gt.undup {b0 g C : Nat} {s : St} {D : List Int} {pv dv : Value} {w : World} (h : Gt b0 g C s D pv dv w) : Gt b0 g C s [] pv (.slice none 0 0) (w.setCell ⟨g, 2, none⟩ (.slice none 0 0)) ∧ (w.setCell ⟨g, 2, none⟩ (.slice none 0 0)).ownsRow b0 28 1 dv D.length (cellsU D) :=
  ⟨⟨h.B.set_ 2 _, own_other h.p (fun k hk => Below.heap_setCell w ⟨g, 2, none⟩ _ k (fun e => h.np (by have e' : k = g := e; rw [← e']; exact hk))), World.ownsRow_nil _ _ _ _, h.np, (fun q => by cases q), (fun k _ q => by cases q), h.hg⟩,
   own_other h.d (fun k hk => Below.heap_setCell w ⟨g, 2, none⟩ _ k (fun e => h.nd (by have e' : k = g := e; rw [← e']; exact hk)))⟩
end Go.Proofs.Ythddacgdmngfhaa.gap
