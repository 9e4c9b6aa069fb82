/- Layer 21: a chunk comes. -/
import Derived.Test.YthddacgdmngfhaaFfD
namespace Go.Proofs.Ythddacgdmngfhaa.fli
open Go.Sort (grow)
open Go.ChangeShapes Go.WideShapes Go.ChangeAt Go.RowKit kit
set_option maxRecDepth 100000

theorem since_two (w : World) : Calls Try.prog 170 #[.int .i64 0, .int .i64 5] w fun e w' => e = .returned (.int .i64 5) ∧ w' = w := by
  go_enter Try.func170, Try.ntmps170
  go_wp2_with fail
  go_ret
  exact ⟨rfl, rfl⟩
/-- A chunk that came. -/
def cm (x : Sx) : Sx := { x with ca := true, ag := false }
section
variable {N : Nat} {w0 : World} {b0 g n hh off cap qg a g1 g2 g3 r : Nat} {c lo hi : Int} {f : Nat → Sx} {l : Bool} {w : World}
theorem upd_upd (f : Nat → Sx) (i : Nat) (x y : Sx) : upd (upd f i x) i y = upd f i y := by funext k; unfold upd; split <;> rfl
theorem upd_at (f : Nat → Sx) (i : Nat) (x : Sx) : upd f i x i = x := by unfold upd; rw [if_pos rfl]
theorem Kf.came (K : Kf N w0 b0 g c f n hh off cap qg lo hi a g1 g2 g3 r l w) (D : Df N b0 g hh qg a g1 g2 g3 r) {j : Nat} (hj : j < n) :
    Kf N w0 b0 g c (upd f j (cm (f j))) n hh off cap qg lo hi a g1 g2 g3 r l ((w.setCell ⟨hh, off + j * 22 + 20, none⟩ (.bool true)).setCell ⟨hh, off + j * 22 + 19, none⟩ (.bool false)) := by
  have K1 := K.setH D hj (show 20 < 22 by omega) (.bool true) { f j with ca := true } rfl
  have K2 := K1.setH D hj (show 19 < 22 by omega) (.bool false) (cm (f j)) (by rw [upd_at]; rfl)
  rw [upd_upd] at K2
  exact K2
set_option maxHeartbeats 2000000 in
theorem come_old (D : Df N b0 g hh qg a g1 g2 g3 r) (K : Kf N w0 b0 g c f n hh off cap qg lo hi a g1 g2 g3 r l w) {j : Nat} (hj : j < n) (hca : (f j).ca = true) :
    Calls Try.prog 129 #[.pointer (some ⟨hh, off + j * 22, none⟩), .pointer (some ⟨a, 0, none⟩), .int .i64 5] w fun e w' => e = .returned (.tuple #[]) ∧ Kf N w0 b0 g c (upd f j (cm (f j))) n hh off cap qg lo hi a g1 g2 g3 r l w' ∧ Below b0 w w' := by
  have C := K.cel hj
  have h20 : w.cell? ⟨hh, off + j * 22 + 20, none⟩ = some (.bool true) := by rw [← hca]; exact C.cell 20 rfl
  go_enter Try.func129, Try.ntmps129
  go_wp2_with fail
  go_region
  have K1 := K.drew
  have bel1 : Below b0 w w.drew := (Below.refl _ _).drew
  have C1 := K1.cel hj
  clear h20 C K
  generalize w.drew = w1 at *
  have i20 : w1.cell? ⟨hh, off + j * 22 + 20, none⟩ = some (.bool true) := by rw [← hca]; exact C1.cell 20 rfl
  have f20 : w1.frozen? ⟨hh, off + j * 22 + 20, none⟩ = false := C1.frozen 20 (by rw [sx_size]; decide)
  have i19 : w1.cell? ⟨hh, off + j * 22 + 19, none⟩ = some (.bool (f j).ag) := C1.cell 19 rfl
  have f19 : w1.frozen? ⟨hh, off + j * 22 + 19, none⟩ = false := C1.frozen 19 (by rw [sx_size]; decide)
  have HE := Lib.hid (And.intro (K1.came D hj) ((bel1.setCell (p := ⟨hh, off + j * 22 + 20, none⟩) D.bh (.bool true)).setCell (p := ⟨hh, off + j * 22 + 19, none⟩) D.bh (.bool false)))
  clear K1 C1 bel1
  go_wp2_with fail
  go_end0
  exact ⟨rfl, HE.out.1, HE.out.2⟩
set_option maxHeartbeats 4000000 in
theorem come_new (D : Df N b0 g hh qg a g1 g2 g3 r) (K : Kf N w0 b0 g c f n hh off cap qg lo hi a g1 g2 g3 r l w) {j : Nat} (hj : j < n) (hca : (f j).ca = false) (hp : (f j).p = 1) (ha : (f j).a = 0) (hm : (f j).m = 1) :
    Calls Try.prog 129 #[.pointer (some ⟨hh, off + j * 22, none⟩), .pointer (some ⟨a, 0, none⟩), .int .i64 5] w fun e w' => e = .returned (.tuple #[]) ∧ Kf N w0 b0 g c (upd f j (cm (f j))) n hh off cap qg lo hi a g1 g2 g3 r l w' ∧ Below b0 w w' := by
  have hn0 : 0 < n := by omega
  have C := K.cel hj
  have h20 : w.cell? ⟨hh, off + j * 22 + 20, none⟩ = some (.bool false) := by rw [← hca]; exact C.cell 20 rfl
  have h15 : w.cell? ⟨hh, off + j * 22 + 15, none⟩ = some (.int .i64 1) := by rw [← hp]; exact C.cell 15 rfl
  have a1 : w.cell? ⟨a, 1, none⟩ = some (.slice (some ⟨g1, 0, none⟩) 2 2) := K.A.cell 1
  have hs1 : (⟨#[120]⟩ : ByteArray).size = 1 := rfl
  go_enter Try.func129, Try.ntmps129
  go_wp2_with fail
  go_region
  go_upto_region 1 with (fail)
  have K1 := K.drew
  have bel1 : Below b0 w w.drew := (Below.refl _ _).drew
  clear K h20 h15 a1 C
  generalize w.drew = w1 at *
  have C1 := K1.cel hj
  obtain ⟨x0, y0, G1⟩ := K1.G1
  have h15 : w1.cell? ⟨hh, off + j * 22 + 15, none⟩ = some (.int .i64 1) := by rw [← hp]; exact C1.cell 15 rfl
  have h6 : w1.cell? ⟨hh, off + j * 22 + 6, none⟩ = some (.string ⟨#[120]⟩) := C1.cell 6 rfl
  have a1 : w1.cell? ⟨a, 1, none⟩ = some (.slice (some ⟨g1, 0, none⟩) 2 2) := K1.A.cell 1
  have c1 : w1.cell? ⟨g1, 1, none⟩ = some (.int .i64 y0) := G1.cell 1
  have c1f : w1.frozen? ⟨g1, 1, none⟩ = false := G1.frozen 1
  obtain ⟨z, hz⟩ : ∃ z, IntKind.i64.wrap (y0 + 1) = z := ⟨_, rfl⟩
  go_region
  go_upto_region 2 with (fail)
  have K2 := (K1.set1 D hn0 z).drew
  have bel2 := (bel1.setCell (p := ⟨g1, 1, none⟩) D.b1 (.int .i64 z)).drew
  clear K1 h15 h6 a1 c1 c1f bel1 C1 G1
  clear hz
  generalize (w1.setCell ⟨g1, 1, none⟩ (.int .i64 z)).drew = w2 at *
  have C2 := K2.cel hj
  obtain ⟨x2, y2, G2⟩ := K2.G2
  have h17 : w2.cell? ⟨hh, off + j * 22 + 17, none⟩ = some (.int .i64 1) := by rw [← hm]; exact C2.cell 17 rfl
  have h15 : w2.cell? ⟨hh, off + j * 22 + 15, none⟩ = some (.int .i64 1) := by rw [← hp]; exact C2.cell 15 rfl
  have a2 : w2.cell? ⟨a, 2, none⟩ = some (.slice (some ⟨g2, 0, none⟩) 2 2) := K2.A.cell 2
  have c2 : w2.cell? ⟨g2, 1, none⟩ = some (.int .i64 y2) := G2.cell 1
  by_cases hy : y2 < 0
  · go_region
    go_upto_region 3 with (fail)
    have K3 := K2.drew
    have bel3 := bel2.drew
    clear K2 h17 h15 a2 c2 bel2 C2 G2
    generalize w2.drew = w3 at *
    have C3 := K3.cel hj
    obtain ⟨x3, y3, G3⟩ := K3.G2
    have h15 : w3.cell? ⟨hh, off + j * 22 + 15, none⟩ = some (.int .i64 1) := by rw [← hp]; exact C3.cell 15 rfl
    have h16 : w3.cell? ⟨hh, off + j * 22 + 16, none⟩ = some (.int .i64 0) := by rw [← ha]; exact C3.cell 16 rfl
    have a2 : w3.cell? ⟨a, 2, none⟩ = some (.slice (some ⟨g2, 0, none⟩) 2 2) := K3.A.cell 2
    have c2 : w3.cell? ⟨g2, 1, none⟩ = some (.int .i64 y3) := G3.cell 1
    have c2f : w3.frozen? ⟨g2, 1, none⟩ = false := G3.frozen 1
    have hS := fun w => since_two w
    go_region_law ((refine step_call (by rfl) 170 Try.f170 _ _ (by rfl) Try.func170 (by kernel_rfl) (by kernel_rfl) #[.int .i64 0, .int .i64 5] (by simp [Act.eval, Act.put]) (hS _) ?_; rintro w9 rfl))
    all_goals
      have K4 := (K3.set2 D hn0 5).drew
      have bel4 := (bel3.setCell (p := ⟨g2, 1, none⟩) D.b2 (.int .i64 5)).drew
      clear K3 h15 h16 a2 c2 c2f bel3 hS C3 G3
      generalize (w3.setCell ⟨g2, 1, none⟩ (.int .i64 5)).drew = w4 at *
      have C4 := K4.cel hj
      have i20 : w4.cell? ⟨hh, off + j * 22 + 20, none⟩ = some (.bool false) := by rw [← hca]; exact C4.cell 20 rfl
      have f20 : w4.frozen? ⟨hh, off + j * 22 + 20, none⟩ = false := C4.frozen 20 (by rw [sx_size]; decide)
      have i19 : w4.cell? ⟨hh, off + j * 22 + 19, none⟩ = some (.bool (f j).ag) := C4.cell 19 rfl
      have f19 : w4.frozen? ⟨hh, off + j * 22 + 19, none⟩ = false := C4.frozen 19 (by rw [sx_size]; decide)
      have HE := Lib.hid (And.intro (K4.came D hj) ((bel4.setCell (p := ⟨hh, off + j * 22 + 20, none⟩) D.bh (.bool true)).setCell (p := ⟨hh, off + j * 22 + 19, none⟩) D.bh (.bool false)))
      clear K4 C4 bel4
      go_wp2_with fail
      go_end0
      exact ⟨rfl, HE.out.1, HE.out.2⟩
  · go_region
    go_upto_region 4 with (fail)
    have K4 := K2.drew
    have bel4 := bel2.drew
    clear K2 h17 h15 a2 c2 bel2 C2 G2
    generalize w2.drew = w4 at *
    have C4 := K4.cel hj
    have i20 : w4.cell? ⟨hh, off + j * 22 + 20, none⟩ = some (.bool false) := by rw [← hca]; exact C4.cell 20 rfl
    have f20 : w4.frozen? ⟨hh, off + j * 22 + 20, none⟩ = false := C4.frozen 20 (by rw [sx_size]; decide)
    have i19 : w4.cell? ⟨hh, off + j * 22 + 19, none⟩ = some (.bool (f j).ag) := C4.cell 19 rfl
    have f19 : w4.frozen? ⟨hh, off + j * 22 + 19, none⟩ = false := C4.frozen 19 (by rw [sx_size]; decide)
    have HE := Lib.hid (And.intro (K4.came D hj) ((bel4.setCell (p := ⟨hh, off + j * 22 + 20, none⟩) D.bh (.bool true)).setCell (p := ⟨hh, off + j * 22 + 19, none⟩) D.bh (.bool false)))
    clear K4 C4 bel4
    go_wp2_with fail
    go_end0
    exact ⟨rfl, HE.out.1, HE.out.2⟩
end
end Go.Proofs.Ythddacgdmngfhaa.fli
