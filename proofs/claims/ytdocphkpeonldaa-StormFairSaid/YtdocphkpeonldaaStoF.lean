/- Layer 42: a way is noted. -/
import Derived.Test.YtdocphkpeonldaaStoE
namespace Go.Proofs.Ytdocphkpeonldaa.storm
open Go.Sort (grow)
open Go.ChangeShapes Go.WideShapes Go.ChangeAt Go.RowKit kit
open Go.WideMaps (KeyLaw)
set_option maxRecDepth 100000

set_option maxHeartbeats 2000000 in
theorem note_gen (b0 g mp : Nat) (l d b m a t k : Int) (f : Value → Int) (w : World) (S : Stm w g mp l d b m f) (hg : b0 ≤ g) (hm : b0 ≤ mp) (hgm : mp ≠ g) {li : Lit} (hl : keyOf Try.prog 162 (wy a t k) = some li) (h0 : 0 ≤ f (wy a t k)) (h1 : f (wy a t k) ≤ 1000) :
    Calls Try.prog 89 #[.pointer (some ⟨g, 0, none⟩), .agg #[.int .i64 a, .int .u32 t, .int .u32 k]] w fun e w' => e = .returned (.tuple #[]) ∧ Stm w' g mp l d b m (up f (wy a t k) (f (wy a t k) + 1)) ∧ Mv b0 g mp w w' := by
  obtain ⟨⟨x, B⟩, C⟩ := S
  have hbw : b0 ≤ w.heap.size := by have := B.lt; omega
  have hgl := B.lt
  have hml := C.lt
  have bel := (Below.refl w.heap.size w).alloc (Nat.le_refl _) (.cells #[.int .i64 a, .int .u32 t, .int .u32 k] 162)
  have N1 := Blk.new w 162 #[.int .i64 a, .int .u32 t, .int .u32 k]
  have B1 := B.below bel hgl
  have C1 := C.below bel hml
  have M1 := (Mv.refl b0 g mp w).below bel hbw
  have hq : ∀ w : World, (binOp .eql 158 (.map (some mp)) (.map none)).run Try.prog w = .ok (.bool false) w := fun w => by kernel_rfl
  go_enter Try.func89, Try.ntmps89
  go_upto_region 1 with (fail)
  clear B C bel
  generalize w.alloc (.cells #[.int .i64 a, .int .u32 t, .int .u32 k] 162) = w1 at *
  generalize hv : w.heap.size = v at *
  have x5 : w1.cell? ⟨g, 5, none⟩ = some (.map (some mp)) := B1.cell 5
  have k0 : w1.cell? ⟨v, 0, none⟩ = some (.int .i64 a) := N1.cell 0
  have k1 : w1.cell? ⟨v, 1, none⟩ = some (.int .u32 t) := N1.cell 1
  have k2 : w1.cell? ⟨v, 2, none⟩ = some (.int .u32 k) := N1.cell 2
  obtain ⟨n0, hn0⟩ : ∃ n0, n0 = f (wy a t k) := ⟨_, rfl⟩
  rw [← hn0] at h0 h1
  obtain ⟨es0, c0, M0, _⟩ := id C1
  obtain ⟨st, es1, c1, hE, CE, hS⟩ := C1.drew.entry keyLaw uM zI hl
  obtain ⟨es2, c2, hS2, CF⟩ := hS _ (n0 + 1) (M0.drew.set_ es1 c1)
  have lk1 := C1.look keyLaw uM zI hl
  have lk2 := C1.drew.look keyLaw uM zI hl
  have lk3 := CE.look keyLaw uM zI hl
  rw [← hn0] at lk1 lk2 lk3 hE
  unfold wy at lk1 lk2 lk3 hE
  have MM := M0.drew.set_ es1 c1
  have B4 := blk_map MM (blk_map M0.drew B1.drew es1 c1) es2 c2
  have M4 := (M1.drew.setM hm M0.drew es1 c1).setM hm MM es2 c2
  have HCF := Lib.hid CF
  have HB4 := Lib.hid B4
  have HM4 := Lib.hid M4
  have HN := Lib.hid hn0
  clear CE CF hS C1 hn0 B4 M4 MM M1 M0 N1 hl
  unfold goInt at hE hS2
  go_upto_region 3 with (fail)
  go_region
  all_goals
    go_wp2_with fail
    go_end0
    exact ⟨rfl, ⟨⟨x, HB4.out⟩, by rw [← HN.out]; exact HCF.out⟩, HM4.out⟩
end Go.Proofs.Ytdocphkpeonldaa.storm
