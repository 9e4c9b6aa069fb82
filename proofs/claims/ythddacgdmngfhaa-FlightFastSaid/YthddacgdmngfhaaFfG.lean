/- Layer 21: those ahead of the last one that came are missed. -/
import Derived.Test.YthddacgdmngfhaaFfF
namespace Go.Proofs.Ythddacgdmngfhaa.fli
open Go.Sort (grow)
open Go.ChangeShapes Go.WideShapes Go.ChangeAt Go.RowKit kit
set_option maxRecDepth 100000

/-- A chunk that was missed. -/
def ms (x : Sx) : Sx := if x.mi + 1 < 3 ∨ x.fa = true then { x with mi := x.mi + 1 } else { x with mi := x.mi + 1, fa := true, ag := true }
def lo1 (x : Sx) (l : Bool) : Bool := if x.mi + 1 < 3 ∨ x.fa = true then l else true
section
variable {N : Nat} {w0 : World} {b0 g n hh off cap qg a g1 g2 g3 r : Nat} {c lo hi : Int} {f : Nat → Sx} {l : Bool} {w : World}
set_option maxHeartbeats 4000000 in
theorem miss_f {h : Nat} (D : Df N b0 g hh qg a g1 g2 g3 r) (K : Kf N w0 b0 g c f n hh off cap qg lo hi a g1 g2 g3 r l w) (hn : n ≤ 100) (h2 : 2 ≤ h) (hhn : h ≤ n) (h0 : (f 0).ca = false ∧ (f 0).p = 1 ∧ 0 ≤ (f 0).mi ∧ (f 0).mi ≤ 100) (hit : ∀ i, 1 ≤ i → i < h → (f i).ca = true) :
    Calls Try.prog 131 #[.pointer (some ⟨g, 0, none⟩), .int .i64 ((h : Int) - 1), .pointer (some ⟨a, 0, none⟩)] w fun e w' => e = .returned (.tuple #[]) ∧ Kf N w0 b0 g c (upd f 0 (ms (f 0))) n hh off cap qg lo hi a g1 g2 g3 r (lo1 (f 0) l) w' ∧ Below b0 w w' := by
  have HIT := Lib.hid hit
  have HHH := Lib.hid (And.intro h2 hhn)
  have H00 := Lib.hid h0
  obtain ⟨m, hm⟩ : ∃ m : Nat, m = h - 1 := ⟨_, rfl⟩
  have hmi : (h : Int) - 1 = (m : Int) := by omega
  rw [hmi]
  have hm0 : (0 : Int) ≤ (m : Int) := by omega
  have hmn : m ≤ n := by omega
  have hm1 : 1 ≤ m := by omega
  have HM := Lib.hid hm
  clear hit hmi hm h0
  go_enter Try.func131, Try.ntmps131
  go_upto_region 1 with fail
  try rw [show (if 0 < m then (m : Int) else 0) = (m : Int) by split <;> omega]
  go_outline
  go_loopw [10] (fun s10 wr => ∃ j : Nat, s10 = .int .i64 (j : Nat) ∧ j ≤ m ∧ Kf N w0 b0 g c (if j = 0 then f else upd f 0 (ms (f 0))) n hh off cap qg lo hi a g1 g2 g3 r (if j = 0 then l else lo1 (f 0) l) wr ∧ Below b0 w wr) (fun s10 _ => m - (intOf s10).toNat)
  case atStart => exact ⟨0, rfl, Nat.zero_le _, K, Below.refl _ _⟩
  case round =>
    clear K
    obtain ⟨j, rfl, hj, K, bel⟩ := hrel
    by_cases hlt : j < m
    · have hjj : (j : Int) < (m : Int) := by omega
      have hj0 : (0 : Int) ≤ (j : Int) := by omega
      have hjn : j < n := by omega
      have hjni : (j : Int) < (n : Int) := by omega
      have hg1 : wr.cell? ⟨g, 1, none⟩ = some (.slice (some ⟨hh, off, none⟩) n cap) := K.F.B.cell 1
      by_cases e : j = 0
      · rw [if_pos e, if_pos e] at K
        have C := K.cel hjn
        have hx : (f j).ca = false ∧ (f j).p = 1 ∧ 0 ≤ (f j).mi ∧ (f j).mi ≤ 100 := by rw [e]; exact H00.out
        have HE0 := Lib.hid e
        clear e
        obtain ⟨x, hxx⟩ : ∃ x, f j = x := ⟨_, rfl⟩
        rw [hxx] at C hx
        obtain ⟨hca, hp, hm0', hm1'⟩ := hx
        have i20 : wr.cell? ⟨hh, off + j * 22 + 20, none⟩ = some (.bool false) := by rw [← hca]; exact C.cell 20 rfl
        have i18 : wr.cell? ⟨hh, off + j * 22 + 18, none⟩ = some (.int .i64 x.mi) := C.cell 18 rfl
        have f18 : wr.frozen? ⟨hh, off + j * 22 + 18, none⟩ = false := C.frozen 18 (by rw [sx_size]; decide)
        have hw : IntKind.i64.wrap (x.mi + 1) = x.mi + 1 := IntWalk.i64_in _ (by omega)
        have K1 := K.setH D hjn (show 18 < 22 by omega) (.int .i64 (x.mi + 1)) { x with mi := x.mi + 1 } (by rw [hxx]; rfl)
        have bel1 := bel.setCell (p := ⟨hh, off + j * 22 + 18, none⟩) D.bh (.int .i64 (x.mi + 1))
        clear K bel C
        go_upto_region 6 with fail
        clear i20 i18 f18 hw hg1
        obtain ⟨w1, hw1⟩ : ∃ w1, wr.setCell ⟨hh, off + j * 22 + 18, none⟩ (.int .i64 (x.mi + 1)) = w1 := ⟨_, rfl⟩
        rw [hw1] at K1 bel1
        try rw [hw1]
        clear hw1
        have C1 := K1.cel hjn
        rw [upd_at] at C1
        have i18 : w1.cell? ⟨hh, off + j * 22 + 18, none⟩ = some (.int .i64 (x.mi + 1)) := C1.cell 18 rfl
        have i21 : w1.cell? ⟨hh, off + j * 22 + 21, none⟩ = some (.bool x.fa) := C1.cell 21 rfl
        have HXX := Lib.hid hxx
        clear hxx
        by_cases h3 : x.mi + 1 < 3
        · have hres : upd f j { x with mi := x.mi + 1 } = upd f 0 (ms (f 0)) := by
            have e := HE0.out
            subst e
            rw [HXX.out]; unfold ms; rw [if_pos (.inl h3)]
          have hres2 : lo1 (f 0) l = l := by
            have e := HE0.out
            subst e
            rw [HXX.out]; unfold lo1; rw [if_pos (.inl h3)]
          rw [hres] at K1
          have HE := Lib.hid (And.intro K1 (And.intro bel1 hres2))
          clear K1 bel1 hres hres2 C1
          go_wp2_with fail
          go_roundw
          case rel => exact ⟨j + 1, by go_num, by omega, by rw [if_neg (by omega), if_neg (by omega), HE.out.2.2]; exact HE.out.1, HE.out.2.1⟩
          case measure => simp [intOf]; omega
        · rcases hfa : x.fa with _ | _
          · rw [hfa] at i21
            have i19 : w1.cell? ⟨hh, off + j * 22 + 19, none⟩ = some (.bool x.ag) := C1.cell 19 rfl
            have f21 : w1.frozen? ⟨hh, off + j * 22 + 21, none⟩ = false := C1.frozen 21 (by rw [sx_size]; decide)
            have f19 : w1.frozen? ⟨hh, off + j * 22 + 19, none⟩ = false := C1.frozen 19 (by rw [sx_size]; decide)
            have K2 := K1.setH D hjn (show 21 < 22 by omega) (.bool true) { x with mi := x.mi + 1, fa := true } (by rw [upd_at]; rfl)
            rw [upd_upd] at K2
            have K3 := K2.setH D hjn (show 19 < 22 by omega) (.bool true) { x with mi := x.mi + 1, fa := true, ag := true } (by rw [upd_at]; rfl)
            rw [upd_upd] at K3
            have bel3 := (bel1.setCell (p := ⟨hh, off + j * 22 + 21, none⟩) D.bh (.bool true)).setCell (p := ⟨hh, off + j * 22 + 19, none⟩) D.bh (.bool true)
            clear K1 K2 C1 bel1
            go_upto_region 8 with fail
            clear i18 i21 i19 f21 f19
            obtain ⟨w3, hw3⟩ : ∃ w3, (w1.setCell ⟨hh, off + j * 22 + 21, none⟩ (.bool true)).setCell ⟨hh, off + j * 22 + 19, none⟩ (.bool true) = w3 := ⟨_, rfl⟩
            rw [hw3] at K3 bel3
            try rw [hw3]
            clear hw3
            have hres : upd f j { x with mi := x.mi + 1, fa := true, ag := true } = upd f 0 (ms (f 0)) := by
              have e := HE0.out
              subst e
              rw [HXX.out]; unfold ms; rw [if_neg (by rw [hfa]; simp; omega)]
            have hres2 : lo1 (f 0) l = true := by
              have e := HE0.out
              subst e
              rw [HXX.out]; unfold lo1; rw [if_neg (by rw [hfa]; simp; omega)]
            have C3 := K3.cel hjn
            rw [upd_at] at C3
            have i15 : w3.cell? ⟨hh, off + j * 22 + 15, none⟩ = some (.int .i64 1) := by rw [← hp]; exact C3.cell 15 rfl
            have a3 : w3.cell? ⟨a, 3, none⟩ = some (.slice (some ⟨g3, 0, none⟩) 2 2) := K3.A.cell 3
            clear C3
            go_region
            go_upto_region 9 with fail
            have K4 := K3.drew
            have bel4 := bel3.drew
            clear K3 bel3 i15 a3
            generalize w3.drew = w4 at *
            have C4 := K4.cel hjn
            rw [upd_at] at C4
            have i15 : w4.cell? ⟨hh, off + j * 22 + 15, none⟩ = some (.int .i64 1) := by rw [← hp]; exact C4.cell 15 rfl
            have a3 : w4.cell? ⟨a, 3, none⟩ = some (.slice (some ⟨g3, 0, none⟩) 2 2) := K4.A.cell 3
            have c3 : w4.cell? ⟨g3, 1, none⟩ = some (.bool l) := K4.G3.cell 1
            have c3f : w4.frozen? ⟨g3, 1, none⟩ = false := K4.G3.frozen 1
            have K5 := (K4.set3 D (by omega)).drew
            have bel5 := (bel4.setCell (p := ⟨g3, 1, none⟩) D.b3 (.bool true)).drew
            rw [hres] at K5
            have HE := Lib.hid (And.intro K5 (And.intro bel5 hres2))
            clear K4 bel4 C4 K5 bel5 hres hres2
            go_region
            go_wp2_with fail
            go_roundw
            case rel => exact ⟨j + 1, by go_num, by omega, by rw [if_neg (by omega), if_neg (by omega), HE.out.2.2]; exact HE.out.1, HE.out.2.1⟩
            case measure => simp [intOf]; omega
          · rw [hfa] at i21
            have hres : upd f j { x with mi := x.mi + 1 } = upd f 0 (ms (f 0)) := by
              have e := HE0.out
              subst e
              rw [HXX.out]; unfold ms; rw [if_pos (.inr hfa)]
            have hres2 : lo1 (f 0) l = l := by
              have e := HE0.out
              subst e
              rw [HXX.out]; unfold lo1; rw [if_pos (.inr hfa)]
            rw [hres] at K1
            have HE := Lib.hid (And.intro K1 (And.intro bel1 hres2))
            clear K1 bel1 hres hres2 C1
            go_wp2_with fail
            go_roundw
            case rel => exact ⟨j + 1, by go_num, by omega, by rw [if_neg (by omega), if_neg (by omega), HE.out.2.2]; exact HE.out.1, HE.out.2.1⟩
            case measure => simp [intOf]; omega
      · rw [if_neg e, if_neg e] at K
        have C := K.cel hjn
        have hca : (upd f 0 (ms (f 0)) j).ca = true := by
          unfold upd
          rw [if_neg e]
          exact HIT.out j (by omega) (by have := HM.out; omega)
        have i20 : wr.cell? ⟨hh, off + j * 22 + 20, none⟩ = some (.bool true) := by rw [← hca]; exact C.cell 20 rfl
        have HE := Lib.hid (And.intro K bel)
        clear K bel C hca
        go_wp2_with fail
        go_roundw
        case rel => exact ⟨j + 1, by go_num, by omega, by rw [if_neg (by omega), if_neg (by omega)]; exact HE.out.1, HE.out.2⟩
        case measure => simp [intOf]; omega
    · obtain rfl : j = m := by omega
      rw [if_neg (by omega), if_neg (by omega)] at K
      have HE := Lib.hid (And.intro K bel)
      clear K bel
      go_wp2_with fail
      go_end0
      exact ⟨rfl, HE.out.1, HE.out.2⟩
end
end Go.Proofs.Ythddacgdmngfhaa.fli
