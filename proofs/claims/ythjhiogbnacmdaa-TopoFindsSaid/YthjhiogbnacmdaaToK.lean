/- Layer 32: is an address a new one? The program's map of spots. -/
import Derived.Test.YthjhiogbnacmdaaToI
import Derived.Test.YthjhiogbnacmdaaKitN
import Derived.RegionTactic
namespace Go.Proofs.Ythjhiogbnacmdaa.top
open Go.Sort (grow)
open Go.ChangeShapes Go.WideShapes Go.ChangeAt Go.RowKit kit
open Go.WideMaps (KeyLaw)
set_option maxRecDepth 100000

theorem laidOut : laidOutB Try.prog = true := by kernel_rfl
theorem keyLaw : KeyLaw Try.prog 74 := deep_law_laid laidOut (m := 3) (by decide) (of_decide_eq_true (by kernel_rfl)) (by kernel_rfl) (by kernel_rfl)
/-- A spot as a key. -/
def skv (x : Int × Int) : Value := .agg #[.int .i64 x.1, .int .u32 x.2]
theorem skv_inj {x y : Int × Int} (h : skv x = skv y) : x = y := by
  obtain ⟨a, b⟩ := x
  obtain ⟨c, d⟩ := y
  have : a = c ∧ b = d := by simpa [skv] using h
  rw [this.1, this.2]
theorem skv_key {x : Int × Int} (wc : (Lit.int .i64 x.1).wf = true) (wd : (Lit.int .u32 x.2).wf = true) : ∃ l, keyOf Try.prog 74 (skv x) = some l := by
  have s0 : Try.prog.cellsOf 74 = 2 := by kernel_rfl
  have s1 : Try.prog.cellsOf 28 = 1 := by kernel_rfl
  have s2 : Try.prog.cellsOf 3 = 1 := by kernel_rfl
  have hk : ∀ n, Try.prog.keyLits (n + 2) 74 [.int .i64 x.1, .int .u32 x.2] = some [.int .i64 x.1, .int .u32 x.2] := fun n => by
    simp [Program.keyLits, Try.underlying74, Try.underlying28, Try.underlying3, s0, s1, s2, wc, wd]
  have ht : 0 < Try.prog.types.size := of_decide_eq_true (by kernel_rfl)
  obtain ⟨n, hn⟩ : ∃ n, Try.prog.types.size + 1 = n + 2 := ⟨Try.prog.types.size - 1, by omega⟩
  have hf : (Try.prog.keyType 74 && (skv x).formed Try.prog 74) = true := by kernel_rfl
  unfold keyOf
  rw [Try.underlying74]
  simp only [hf, hn, if_true]
  rw [show (skv x).cells.toList = [.int .i64 x.1, .int .u32 x.2] from rfl, hk n]
  exact ⟨_, rfl⟩
open Classical in
/-- How many have a key. -/
noncomputable def cn (l : List (Int × Int)) (v : Value) : Int := ((l.countP fun x => decide (skv x = v) : Nat) : Int)
theorem cn_nil : cn [] = fun _ => 0 := by
  funext v
  simp [cn]
open Classical in
theorem cn_snoc (l : List (Int × Int)) (x : Int × Int) : (fun y => if y = skv x then cn l (skv x) + 1 else cn l y) = cn (l ++ [x]) := by
  funext y
  unfold cn
  rw [List.countP_append]
  by_cases h : y = skv x
  · subst h
    simp
  · rw [if_neg h]
    have : ¬ skv x = y := fun e => h e.symm
    simp [this]
theorem cn_le (l : List (Int × Int)) (v : Value) : 0 ≤ cn l v ∧ cn l v ≤ l.length := by
  unfold cn
  exact ⟨Int.natCast_nonneg _, by exact_mod_cast List.countP_le_length⟩
theorem cn_zero (l : List (Int × Int)) (x : Int × Int) : cn l (skv x) = 0 ↔ x ∉ l := by
  unfold cn
  rw [Int.natCast_eq_zero, List.countP_eq_zero]
  constructor
  · intro h hx
    exact absurd (h x hx) (by simp)
  · intro h y hy
    simp only [decide_eq_true_eq]
    intro e
    rw [skv_inj e] at hy
    exact h hy
theorem uM : Try.prog.underlying 72 = some (.map 74 3) := by kernel_rfl
theorem zI (w : World) : (zeroValue 3).run Try.prog w = .ok (.int .i64 0) w := by kernel_rfl
open Classical in
noncomputable def frB (l : List (Int × Int)) (x : Int × Int) : Bool := decide (x.2 ≠ 0 ∧ x ∉ l)
set_option maxHeartbeats 4000000 in
theorem fresh_any {l : List (Int × Int)} {mb cb : Nat} {w : World} (x : Int × Int) (hl : l.length ≤ 100) (C : Cnt Try.prog 74 w mb (cn l)) (K : Blk w cb 72 #[.map (some mb)]) (wc : (Lit.int .i64 x.1).wf = true) (wd : (Lit.int .u32 x.2).wf = true) :
    Calls Try.prog 32 #[.int .i64 x.1, .int .u32 x.2, .pointer (some ⟨cb, 0, none⟩)] w fun e w' => e = .returned (.bool (frB l x)) ∧ Cnt Try.prog 74 w' mb (cn (l ++ [x])) ∧ Only mb w w' ∧ Below mb w w' := by
  obtain ⟨rb, hrb⟩ : ∃ rb, frB l x = rb := ⟨_, rfl⟩
  rw [hrb]
  have HRB := Lib.hid hrb
  clear hrb
  obtain ⟨lk, hlk⟩ := skv_key wc wd
  have hmlt := C.lt
  have N1 := Blk.new w 74 #[.int .i64 x.1, .int .u32 x.2]
  have al1 := (Below.refl w.heap.size w).alloc (Nat.le_refl _) (.cells #[.int .i64 x.1, .int .u32 x.2] 74)
  have C1 := C.below al1 hmlt
  have K1 := K.below al1 K.lt
  have O1 : Only mb w (w.alloc (.cells #[.int .i64 x.1, .int .u32 x.2] 74)) := Only.of_below al1
  have bel1 : Below mb w (w.alloc (.cells #[.int .i64 x.1, .int .u32 x.2] 74)) := al1.mono (by omega)
  clear C K wc wd
  go_enter Try.func32, Try.ntmps32
  go_upto_region 2 with fail
  obtain ⟨w1, hw1⟩ : ∃ w1, w.alloc (.cells #[.int .i64 x.1, .int .u32 x.2] 74) = w1 := ⟨_, rfl⟩
  rw [hw1] at N1 al1 C1 K1 O1 bel1
  try rw [hw1]
  clear hw1
  obtain ⟨v, hv⟩ : ∃ v, w.heap.size = v := ⟨_, rfl⟩
  rw [hv] at N1 al1 hmlt
  try rw [hv]
  have k0 : w1.cell? ⟨v, 0, none⟩ = some (.int .i64 x.1) := N1.cell 0
  have k1 : w1.cell? ⟨v, 1, none⟩ = some (.int .u32 x.2) := N1.cell 1
  have p0 : w1.cell? ⟨cb, 0, none⟩ = some (.map (some mb)) := K1.cell 0
  obtain ⟨n0, hn0⟩ : ∃ n0, n0 = cn l (skv x) := ⟨_, rfl⟩
  have hcl0 : 0 ≤ n0 ∧ n0 ≤ l.length := by rw [hn0]; exact cn_le _ _
  obtain ⟨es0, c0, M0, _⟩ := id C1
  obtain ⟨st, es1, c1, hE, CE, hS⟩ := C1.drew.entry keyLaw uM zI hlk
  obtain ⟨es2, c2, hS2, CF⟩ := hS _ (n0 + 1) (M0.drew.set_ es1 c1)
  have lk1 := C1.look keyLaw uM zI hlk
  have lk2 := C1.drew.look keyLaw uM zI hlk
  have lk3 := CE.look keyLaw uM zI hlk
  have CF2 : Cnt Try.prog 74 (Go.ChangeMaps.setBlock (Go.ChangeMaps.setBlock w1.drew mb (.map es1 c1)) mb (.map es2 c2)) mb (cn (l ++ [x])) := by
    rw [hn0] at CF
    exact cn_snoc l x ▸ CF
  rw [← hn0] at lk1 lk2 lk3 hE
  unfold skv at lk1 lk2 lk3 hE
  have M1 := M0.drew.set_ es1 c1
  have N4 := blk_map M1 (blk_map M0.drew N1.drew es1 c1) es2 c2
  have K4 := blk_map M1 (blk_map M0.drew K1.drew es1 c1) es2 c2
  have bel4 : Below mb w _ := M1.bel (M0.drew.bel bel1.drew (Nat.le_refl _) es1 c1) (Nat.le_refl _) es2 c2
  have O4 : Only mb w (Go.ChangeMaps.setBlock (Go.ChangeMaps.setBlock w1.drew mb (.map es1 c1)) mb (.map es2 c2)) := O1.trans ⟨by rw [MapB.size, MapB.size]; exact Nat.le_refl _, fun k hk hne => (M1.other es2 c2 hne).trans (M0.drew.other es1 c1 hne)⟩
  have HN := Lib.hid (show (rb = true ↔ x.2 ≠ 0 ∧ n0 = 0) by
    rw [← HRB.out, hn0, cn_zero]
    unfold frB
    rw [decide_eq_true_eq])
  have hsn := cn_snoc l x
  have hup : cn (l ++ [x]) (skv x) = n0 + 1 := by
    rw [← hsn, hn0]
    simp
  have HUP := Lib.hid hup
  clear CE CF hS C1 hn0 O1 bel1 hsn hup
  unfold goInt at hE hS2
  go_region
  all_goals
    clear lk1 lk2 lk3 hE hS2 k0 k1 p0 N1 M0 M1 K1
    generalize Go.ChangeMaps.setBlock (Go.ChangeMaps.setBlock w1.drew mb (.map es1 c1)) mb (.map es2 c2) = w4 at *
    have k0 : w4.cell? ⟨v, 0, none⟩ = some (.int .i64 x.1) := N4.cell 0
    have k1 : w4.cell? ⟨v, 1, none⟩ = some (.int .u32 x.2) := N4.cell 1
    have p0 : w4.cell? ⟨cb, 0, none⟩ = some (.map (some mb)) := K4.cell 0
    have lk4 := CF2.look keyLaw uM zI hlk
    rw [HUP.out] at lk4
    unfold skv at lk4
    by_cases e1 : x.2 = 0
    · have HY := Lib.hid (show rb = false by
        rcases hb : rb with _ | _
        · rfl
        · exact absurd e1 (HN.out.1 hb).1)
      have d0 : (x.2 != 0) = false := by rw [e1]; rfl
      have HZ := Lib.hid (And.intro CF2 (And.intro O4 bel4))
      clear CF2 O4 bel4
      go_wp2_with fail
      go_ret
      exact ⟨ret_bool HY.out.symm, HZ.out.1, HZ.out.2.1, HZ.out.2.2⟩
    · have d0 : (x.2 != 0) = true := by simp [e1]
      by_cases e2 : n0 = 0
      · have HY := Lib.hid (HN.out.2 ⟨e1, e2⟩)
        have HZ := Lib.hid (And.intro CF2 (And.intro O4 bel4))
        clear CF2 O4 bel4
        subst e2
        go_wp2_with fail
        go_ret
        exact ⟨ret_bool HY.out.symm, HZ.out.1, HZ.out.2.1, HZ.out.2.2⟩
      · have HY := Lib.hid (show rb = false by
          rcases hb : rb with _ | _
          · rfl
          · exact absurd (HN.out.1 hb).2 e2)
        have HZ := Lib.hid (And.intro CF2 (And.intro O4 bel4))
        have e3 : ¬ n0 + 1 = 1 := by omega
        have d1 : (n0 + 1 == 1) = false := beq_eq_false_iff_ne.2 e3
        clear CF2 O4 bel4
        go_wp2_with fail
        go_ret
        exact ⟨ret_bool (by first | exact HY.out.symm | (simp [e2, HY.out])), HZ.out.1, HZ.out.2.1, HZ.out.2.2⟩
end Go.Proofs.Ythjhiogbnacmdaa.top
