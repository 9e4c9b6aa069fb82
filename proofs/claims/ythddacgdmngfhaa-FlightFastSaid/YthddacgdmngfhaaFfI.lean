/- Layer 21: the first chunk that is to be sent again. -/
import Derived.Test.YthddacgdmngfhaaFfH
namespace Go.Proofs.Ythddacgdmngfhaa.fli
open Go.Sort (grow)
open Go.ChangeShapes Go.WideShapes Go.ChangeAt Go.RowKit kit
set_option maxRecDepth 100000

theorem clg_again (x : Sx) (W : World) : Calls Try.prog 174 #[.agg (sx x)] W fun e w' => e = .returned (.bool x.ag) ∧ Below W.heap.size W w' := by
  have X1 := Blk.new W 231 (sx x)
  have bel := (Below.refl W.heap.size W).alloc (Nat.le_refl _) (.cells (sx x) 231)
  go_enter Try.func174, Try.ntmps174
  go_upto_region 1 with fail
  obtain ⟨w1, hw1⟩ : ∃ w1, W.alloc (.cells (sx x) 231) = w1 := ⟨_, rfl⟩
  rw [hw1] at X1 bel
  try rw [hw1]
  clear hw1
  have x5 : w1.cell? ⟨W.heap.size, 19, none⟩ = some (.bool x.ag) := X1.cell 19
  clear X1
  go_wp2_with fail
  go_ret
  exact ⟨rfl, bel⟩
section
variable {b0 g n : Nat} {c : Int} {f : Nat → Sx} {v : Value} {w : World}
theorem ix_no (h : Fw b0 g c f n v w) (hn : n ≤ 100) (hall : ∀ i, i < n → (f i).ag = false) : Calls Try.prog 184 #[v, .func (.func 174) #[] #[]] w fun e w' => e = .returned (.int .i64 (-1)) ∧ Below w.heap.size w w' := by
  obtain ⟨oa, cap, rfl, _, _⟩ := h.q.shape
  obtain ⟨B0, hB0⟩ : ∃ B0, w.heap.size = B0 := ⟨_, rfl⟩
  have HB0 := Lib.hid hB0
  have HALL := Lib.hid hall
  clear hall
  go_enter Try.func184, Try.ntmps184
  go_wp2_with fail
  go_loopw [8] (fun s8 wr => ∃ i : Nat, s8 = .int .i64 (i : Nat) ∧ i ≤ n ∧ Fw b0 g c f n (.slice oa n cap) wr ∧ Below B0 w wr) (fun s8 _ => n - (intOf s8).toNat)
  case atStart => exact ⟨0, rfl, Nat.zero_le _, h, Below.refl _ _⟩
  case round =>
    clear h
    obtain ⟨i, rfl, hi, F, bel⟩ := hrel
    by_cases hlt : i < n
    · have hii : (i : Int) < (n : Int) := by omega
      have hi0 : (0 : Int) ≤ (i : Int) := by omega
      obtain ⟨hh, off, cap', hv, h1, h2, h3, h4, h5, X⟩ := F.at_ hlt
      injection hv with hv1 hv2 hv3
      subst hv1
      have hcl := clg_again (f i) wr
      rw [HALL.out i hlt] at hcl
      clear hv2 hv3 h1 h2 h3 h4 h5
      go_wp2_with (refine wpList_load_at rfl 231 _ rfl hh (off + i * 22) rfl (sx (f i)) _ X Try.underlying231 rfl (szX (f i)) ?_)
      refine hcl.mono ?_
      rintro e w3 ⟨rfl, hb3⟩
      have HR := Lib.hid (And.intro (F.below hb3 (Nat.le_refl _)) (bel.trans (hb3.mono (by have := bel.size; omega))))
      clear F X bel hb3 hcl
      go_wp2_with fail
      go_roundw
      case rel => exact ⟨i + 1, by go_num, by omega, HR.out.1, HR.out.2⟩
      case measure => simp [intOf]; omega
    · obtain rfl : i = n := by omega
      clear F
      go_wp2_with fail
      go_ret
      exact ⟨rfl, by rw [HB0.out]; exact bel⟩
theorem ix_yes (h : Fw b0 g c f n v w) (hn : n ≤ 100) (h0 : 0 < n) (hag : (f 0).ag = true) : Calls Try.prog 184 #[v, .func (.func 174) #[] #[]] w fun e w' => e = .returned (.int .i64 0) ∧ Below w.heap.size w w' := by
  obtain ⟨hh, off, cap, rfl, _, _, _, _, _, X⟩ := h.at_ h0
  rw [Nat.zero_mul, Nat.add_zero] at X
  have hii : (0 : Int) < (n : Int) := by omega
  have hcl := clg_again (f 0) w
  rw [hag] at hcl
  clear h
  go_enter Try.func184, Try.ntmps184
  go_wp2_with fail
  refine wp_loop_rounds 1 ?_
  rw [rounds_succ]
  go_wp2_with (refine wpList_load_at rfl 231 _ rfl hh off rfl (sx (f 0)) _ X Try.underlying231 rfl (szX (f 0)) ?_)
  refine hcl.mono ?_
  rintro e w3 ⟨rfl, hb3⟩
  go_wp2_with fail
  go_ret
  exact ⟨rfl, hb3⟩
theorem again_of {k : Int} (h : Fw b0 g c f n v w) (hix : Calls Try.prog 184 #[v, .func (.func 174) #[] #[]] w fun e w' => e = .returned (.int .i64 k) ∧ Below w.heap.size w w') : Calls Try.prog 133 #[.pointer (some ⟨g, 0, none⟩)] w fun e w' => e = .returned (.int .i64 k) ∧ Below w.heap.size w w' := by
  obtain ⟨oa, cap, rfl, _, _⟩ := h.q.shape
  have c1 : w.cell? ⟨g, 1, none⟩ = some (.slice oa n cap) := h.B.cell 1
  have hfi : Calls Try.prog 173 #[.pointer (some ⟨g, 0, none⟩), .func (.func 174) #[] #[]] w fun e w' => e = .returned (.int .i64 k) ∧ Below w.heap.size w w' := by
    go_enter Try.func173, Try.ntmps173
    go_wp2_with fail
    refine hix.mono ?_
    rintro e w1 ⟨rfl, hb⟩
    go_wp2_with fail
    go_ret
    exact ⟨rfl, hb⟩
  clear hix c1
  go_enter Try.func133, Try.ntmps133
  go_wp2_with fail
  refine hfi.mono ?_
  rintro e w1 ⟨rfl, hb⟩
  go_wp2_with fail
  go_ret
  exact ⟨rfl, hb⟩
theorem peek_no (h : Fw b0 g c f n v w) (hn : n ≤ 100) (hall : ∀ i, i < n → (f i).ag = false) : Calls Try.prog 77 #[.pointer (some ⟨g, 0, none⟩)] w fun e w' => e = .returned (.tuple #[.int .i64 0, .bool false]) ∧ Below w.heap.size w w' := by
  have hag := again_of h (ix_no h hn hall)
  go_enter Try.func77, Try.ntmps77
  go_wp2_with fail
  refine hag.mono ?_
  rintro e w1 ⟨rfl, hb⟩
  go_wp2_with fail
  go_ret2
  exact ⟨rfl, hb⟩
theorem peek_yes (h : Fw b0 g c f n v w) (hn : n ≤ 100) (h0 : 0 < n) (hag : (f 0).ag = true) : Calls Try.prog 77 #[.pointer (some ⟨g, 0, none⟩)] w fun e w' => e = .returned (.tuple #[.int .i64 1, .bool true]) ∧ Below w.heap.size w w' := by
  have hag := again_of h (ix_yes h hn h0 hag)
  have hii : (0 : Int) < (n : Int) := by omega
  have hs1 : (⟨#[120]⟩ : ByteArray).size = 1 := rfl
  go_enter Try.func77, Try.ntmps77
  go_wp2_with fail
  refine hag.mono ?_
  rintro e w1 ⟨rfl, hb⟩
  have h1 := h.below hb (Nat.le_refl _)
  obtain ⟨hh, off, cap, rfl, _, _, _, _, _, X⟩ := h1.at_ h0
  rw [Nat.zero_mul, Nat.add_zero] at X
  have c1 : w1.cell? ⟨g, 1, none⟩ = some (.slice (some ⟨hh, off, none⟩) n cap) := h1.B.cell 1
  have x6 : w1.cell? ⟨hh, off + 6, none⟩ = some (.string ⟨#[120]⟩) := X.cell 6 rfl
  clear X h1 h hag
  go_wp2_with fail
  go_ret2
  exact ⟨rfl, hb⟩
end
theorem cel_ch {w : World} {hh off : Nat} {x : Sx} (C : Cel w hh off (sx x)) : Cel w hh off (ch 0 x.t ⟨#[120]⟩) :=
  ⟨C.lt, fun j u hu => ⟨C.cell j (by
    have e : sx x = ch 0 x.t ⟨#[120]⟩ ++ #[.int .i64 x.p, .int .i64 x.a, .int .i64 x.m, .int .i64 x.mi, .bool x.ag, .bool x.ca, .bool x.fa] := rfl
    rw [e, Array.getElem?_append_left (Array.getElem?_eq_some_iff.1 hu).1]
    exact hu), C.frozen j (by have h : j < (ch 0 x.t ⟨#[120]⟩).size := (Array.getElem?_eq_some_iff.1 hu).1; have h2 : (ch 0 x.t ⟨#[120]⟩).size = 15 := rfl; rw [sx_size]; omega)⟩⟩
/-- A field of the first chunk is written. -/
theorem Fw.setF {b0 g n : Nat} {c : Int} {f : Nat → Sx} {w : World} {hh off cap : Nat} (h : Fw b0 g c f n (.slice (some ⟨hh, off, none⟩) n cap) w) (h0 : 0 < n) (hhg : hh ≠ g) (hbk : blkOf (.slice (some ⟨hh, off, none⟩) n cap) = some hh) {j : Nat} (hj : j < 22) (u : Value) (y : Sx) (hy : (sx (f 0)).setIfInBounds j u = sx y) :
    Fw b0 g c (upd f 0 y) n (.slice (some ⟨hh, off, none⟩) n cap) (w.setCell ⟨hh, off + j, none⟩ u) := by
  refine ⟨h.B.far (p := ⟨hh, off + j, none⟩) (Ne.symm hhg) _, ?_, h.hg, h.hn⟩
  have := h.q.set_ rfl (0 * 22 + j) (by omega) u
  rw [cellsF_set f h0 hj u y hy, Nat.zero_mul, Nat.zero_add] at this
  exact this
/-- The first chunk is sent again. -/
def sg (x : Sx) : Sx := { x with p := 1, a := 6, ag := false, m := x.m + 1 }
end Go.Proofs.Ythddacgdmngfhaa.fli
