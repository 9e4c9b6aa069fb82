/- Layer 15: whatever is done to paths: the statement walked (gen-ppk.py wrote this). -/
import Derived.Test.YthddacgdmngfhaaPpK0
import Derived.Test.YthddacgdmngfhaaPpK1
import Derived.Test.YthddacgdmngfhaaPpK2
import Derived.Test.YthddacgdmngfhaaPpK3
namespace Go.Proofs.Ythddacgdmngfhaa.pat
open Go.Sort (grow)
open Go.ChangeShapes Go.WideShapes Go.ChangeAt Go.RowKit kit
set_option maxRecDepth 1000000
theorem wp_cond_t {P : Program} {c : Operand} {x y : Code} {Q : Exit → Act → World → Prop} {a : Act} {w : World} (hc : a.eval c = .bool true) (h : x.wp P Q a w) : (Code.cond c x y).wp P Q a w := wp_cond hc (by simpa using h)
theorem wp_cond_f {P : Program} {c : Operand} {x y : Code} {Q : Exit → Act → World → Prop} {a : Act} {w : World} (hc : a.eval c = .bool false) (h : y.wp P Q a w) : (Code.cond c x y).wp P Q a w := wp_cond hc (by simpa using h)
set_option maxHeartbeats 16000000 in
theorem plays_walk (oa : Option Addr) (ad : Addr) (len cap : Nat) (av : Nat → Az) (w : World) (hlc : len ≤ cap) (hcm : cap ≤ maxLen) (hoa : 0 < len → oa = some ad) (hab : 0 < len → ad.block < w.heap.size)
    (hv : ∀ i, i < len → ∀ (j : Nat) u, (azc (av i))[j]? = some u → w.cell? ((ad.add (i * 4)).add j) = some u) (hvs : ∀ i, i < len → -9223372036854775808 ≤ (av i).n ∧ (av i).n ≤ 9223372036854775807) :
    Calls Try.prog 10 #[.slice oa len cap] w fun e w' => e = .returned (.bool true) ∧ Below w.heap.size w w' := by
  unfold maxLen at hcm
  have HV := Lib.hid (And.intro hoa (And.intro hv (And.intro hvs hab)))
  clear hoa hv hvs hab
  have hN := fun W => new_any 1 9 W
  simp only [pth] at hN
  go_enter Try.func10, Try.ntmps10
  go_wp2_with fail
  refine (news_any 1 9 w).mono ?_
  rintro e w1 ⟨⟨h, hh, rfl, B1, X1⟩, b1⟩
  go_wp2_with fail
  refine (hN w1).mono ?_
  rintro e w2 ⟨rfl, b2⟩
  go_upto_region 2 with fail
  have B2 := B1.below b2 B1.lt
  have X2 := X1.below b2 X1.lt
  have bel2 := b1.trans (b2.mono b1.size)
  have e9 : (#[Value.int .u32 1, Value.int .u32 9, Value.int .i64 0, Value.int .i64 0, Value.int .i64 0, Value.int .i64 0, Value.int .i64 30, Value.bool false, Value.int .i64 1800, Value.int .i64 60000, Value.int .i64 0, Value.int .i64 0, Value.int .i64 0, Value.int .u32 0, Value.int .i64 0] : Array Value) = px ⟨1, 9, 0⟩ := rfl
  try rw [e9]
  have Q3 := Blk.new w2 113 (px ⟨1, 9, 0⟩)
  have al3 := (Below.refl w2.heap.size w2).alloc (Nat.le_refl _) (.cells (px ⟨1, 9, 0⟩) 113)
  have B3 := B2.below al3 B2.lt
  have X3 := X2.below al3 X2.lt
  have bel3 := bel2.trans (al3.mono bel2.size)
  have hhl := X2.lt
  have hgl := B2.lt
  clear B1 X1 b1 b2 B2 X2 al3 hN e9
  have PS3 : Ps w.heap.size (h + 1) [⟨1, 9, 0⟩] 0 (.slice (some ⟨h, 0, none⟩) 1 1) (.slice (some ⟨w2.heap.size, 0, none⟩) 1 1) w (w2.alloc (.cells (px ⟨1, 9, 0⟩) 113)) := by
    have one : ∀ {k : Nat} {W : World} (hk : w.heap.size ≤ k), Blk W k 113 (px ⟨1, 9, 0⟩) → Qo W w.heap.size 15 (.slice (some ⟨k, 0, none⟩) 1 1) 1 (cellsX [⟨1, 9, 0⟩]) := fun {k W} hk B => ⟨rfl, _, 1, rfl, Nat.le_refl _, by unfold maxLen; omega, fun _ => ⟨k, 0, rfl, hk, B.lt, fun j hj => by
      rw [Nat.zero_add]
      exact ⟨by rw [B.cell j, Array.getElem?_eq_getElem (by rw [px_size]; omega)]; rfl, B.frozen j⟩, fun j hj => by
      rw [Nat.zero_add, B.cell j]
      show _ = ((px ⟨1, 9, 0⟩).toList ++ [])[j]?
      rw [List.append_nil, Array.getElem?_toList]⟩⟩
    refine ⟨⟨B3, one hh X3, by omega, fun e => by simp [blkOf] at e <;> omega⟩, one (bel2.size) Q3, fun e => by simp [blkOf] at e <;> omega, fun i hi e => by simp [blkOf] at e hi <;> omega, by simp, by simp, fun x hx => by simp at hx; subst hx; decide, bel3⟩
  clear B3 X3 Q3 bel3 bel2
  obtain ⟨w3, hw3⟩ : ∃ w3, w2.alloc (.cells (px ⟨1, 9, 0⟩) 113) = w3 := ⟨_, rfl⟩
  rw [hw3] at PS3
  try rw [hw3]
  clear hw3
  obtain ⟨qb, hqb⟩ : ∃ qb, w2.heap.size = qb := ⟨_, rfl⟩
  rw [hqb] at PS3
  try rw [hqb]
  clear hqb
  go_wp2_with fail
  refine (awake15_any w3).mono ?_
  rintro e w4 ⟨rfl, b4⟩
  have PS4 := PS3.below b4 (Nat.le_refl _)
  obtain ⟨G0, hG⟩ : ∃ G0, w.heap.size = G0 := ⟨_, rfl⟩
  have HG := Lib.hid hG
  rw [hG] at PS4
  clear PS3 b4 hG hhl hgl
  obtain ⟨g, hg⟩ : ∃ g, h + 1 = g := ⟨_, rfl⟩
  rw [hg] at PS4
  try rw [hg]
  clear hg hh
  have HS4 := Lib.hid PS4
  clear PS4
  go_wp2_with fail
  go_loopw [4, 5, 6] (fun s4 s5 s6 wr => ∃ (i : Nat) (L : List Px) (f : Nat) (v0 : Value) (oq : Option Addr) (cq : Nat), s6 = .int .i64 (i : Nat) ∧ i ≤ len ∧ i ≤ 50 ∧ s4 = .slice oq L.length cq ∧ s5 = .int .i64 (f : Nat) ∧ Ps G0 g L f v0 (.slice oq L.length cq) w wr) (fun _ _ s6 _ => 50 - (intOf s6).toNat)
  case atStart => exact ⟨0, _, 0, _, some ⟨qb, 0, none⟩, 1, rfl, by omega, by omega, rfl, rfl, HS4.out⟩
  case round =>
    clear HS4
    obtain ⟨i, L, f, v0, oq, cq, rfl, hil, hi5, rfl, rfl, PS⟩ := hrel
    by_cases hlt : i < len
    · by_cases h50 : i < 50
      · have hoa := HV.out.1 (by omega)
        subst hoa
        obtain ⟨a, hA⟩ : ∃ a, av i = a := ⟨_, rfl⟩
        have KA := HV.out.2.1 i hlt
        have hnb := HV.out.2.2.1 i hlt
        have hadb := HV.out.2.2.2 (by omega)
        rw [hA] at KA hnb
        obtain ⟨aw, al, ap, n⟩ := a
        have hnb' : -9223372036854775808 ≤ n ∧ n ≤ 9223372036854775807 := hnb
        have KA' : ∀ (j : Nat) u, (#[.int .i64 aw, .int .i64 al, .int .i64 ap, .int .i64 n] : Array Value)[j]? = some u → wr.cell? ((ad.add (i * 4)).add j) = some u := fun j u hu => (PS.bel.cell (p := (ad.add (i * 4)).add j) (by rw [add_blk, add_blk, ← HG.out]; omega)).trans (KA j u hu)
        clear KA hA hnb
        go_upto_region 8 with (refine wpList_load_from rfl 117 _ rfl (ad.add (i * 4)) rfl #[.int .i64 aw, .int .i64 al, .int .i64 ap, .int .i64 n] _ KA' Try.underlying117 rfl (szAz ⟨aw, al, ap, n⟩) ?_)
        clear KA'
        have A5 := Blk.new wr 117 #[.int .i64 aw, .int .i64 al, .int .i64 ap, .int .i64 n]
        have PS5 := PS.below ((Below.refl wr.heap.size wr).alloc (Nat.le_refl _) (.cells #[.int .i64 aw, .int .i64 al, .int .i64 ap, .int .i64 n] 117)) (Nat.le_refl _)
        have hab := fun j (hj : blkOf v0 = some j ∨ blkOf (.slice oq L.length cq) = some j) => (show j < wr.heap.size from hj.elim (fun h => (PS.P.q.lt h).2) (fun h => (PS.q.lt h).2))
        have hgab := PS.P.B.lt
        clear PS
        obtain ⟨w5, hw5⟩ : ∃ w5, wr.alloc (.cells #[.int .i64 aw, .int .i64 al, .int .i64 ap, .int .i64 n] 117) = w5 := ⟨_, rfl⟩
        rw [hw5] at A5 PS5
        try rw [hw5]
        clear hw5
        obtain ⟨ab, hab'⟩ : ∃ ab, wr.heap.size = ab := ⟨_, rfl⟩
        rw [hab'] at A5 hab hgab
        try rw [hab']
        clear hab'
        have m3 := fun x => i64_mask x 2 (by omega)
        obtain ⟨l, hl, hl4⟩ : ∃ l : Nat, bits .and .i64 al 3 = l ∧ l ≤ 3 := ⟨(al % (2 ^ 2 : Nat)).toNat, by have := m3 al; rw [show ((2 ^ 2 - 1 : Nat) : Int) = 3 from rfl] at this; rw [this]; omega, by omega⟩
        obtain ⟨p, hp, hp4⟩ : ∃ p : Nat, bits .and .i64 ap 3 = p ∧ p ≤ 3 := ⟨(ap % (2 ^ 2 : Nat)).toNat, by have := m3 ap; rw [show ((2 ^ 2 - 1 : Nat) : Int) = 3 from rfl] at this; rw [this]; omega, by omega⟩
        obtain ⟨k, hk, hk4⟩ : ∃ k : Nat, bits .and .i64 aw 3 = k ∧ k ≤ 3 := ⟨(aw % (2 ^ 2 : Nat)).toNat, by have := m3 aw; rw [show ((2 ^ 2 - 1 : Nat) : Int) = 3 from rfl] at this; rw [this]; omega, by omega⟩
        clear m3
        have a0 : w5.cell? ⟨ab, 0, none⟩ = some (.int .i64 aw) := A5.cell 0
        have a1 : w5.cell? ⟨ab, 1, none⟩ = some (.int .i64 al) := A5.cell 1
        have a2 : w5.cell? ⟨ab, 2, none⟩ = some (.int .i64 ap) := A5.cell 2
        have cl1 : IntKind.u32.wrap ((l : Nat) : Int) = ((l : Nat) : Int) := by show ((l : Nat) : Int) % 4294967296 = _; omega
        have cp1 : IntKind.u32.wrap ((p : Nat) : Int) = ((p : Nat) : Int) := by show ((p : Nat) : Int) % 4294967296 = _; omega
        have cl2 : ((l : Nat) : Int) % 4294967296 = ((l : Nat) : Int) := by omega
        have cp2 : ((p : Nat) : Int) % 4294967296 = ((p : Nat) : Int) := by omega
        go_upto_region 8 with fail
        go_region
        have PS6 := PS5.below (Below.refl _ _).drew (Nat.le_refl _)
        have A6 : Blk w5.drew ab 117 #[.int .i64 aw, .int .i64 al, .int .i64 ap, .int .i64 n] := A5
        clear PS5 A5 a0 a1 a2 cl1 cp1 cl2 cp2
        obtain ⟨w6, hw6⟩ : ∃ w6, w5.drew = w6 := ⟨_, rfl⟩
        rw [hw6] at A6 PS6
        try rw [hw6]
        clear hw6
        have a0 : w6.cell? ⟨ab, 0, none⟩ = some (.int .i64 aw) := A6.cell 0
        go_upto_block 2 with fail
        have HPB := Lib.hid hp
        clear a0 hk hl hp
        have HA := Lib.hid A6
        have HPS := Lib.hid PS6
        have hgv := PS6.P.hn
        have hfL := PS6.hf
        have hL8 := PS6.h8
        clear A6 PS6
        go_cut [4, 5] (fun s4 s5 wx => Cn G0 g ab #[.int .i64 aw, .int .i64 al, .int .i64 ap, .int .i64 n] w s4 s5 wx)
        case first =>
          rcases (show k = 0 ∨ k = 1 ∨ k = 2 ∨ k = 3 by omega) with rfl | rfl | rfl | rfl
          · focus
            go_upto_if 97 with fail
            refine wp_cond_t rfl ?_
            refine arm0 _ _ _ _ _ _ _ _ _ _ _ _ _ _ _ _ _ _ _ _ _ _ _ _ _ _ _ _ _ _ _ _ _ _ _ _ _ _ _ _ _ _ _ _ _ _ _ _ _ _ _ _ _ _ _ _ _ _ _ _ _ _ _ _ _ _ _ _ _ _ _ _ _ _ _ _ _ _ _ _ _ _ _ _ _ _ _ _ _ _ _ _ _ _ _ _ _ _ _ _ _ _ _ _ _ _ _ _ _ _ _ _ _ _ _ _ _ _ _ _ _ _ _ _ _ _ _ _ _ _ _ _ _ _ _ _ _ _ _ _ _ _ _ _ _ _ _ _ _ _ _ _ _ _ _ _ _ _ _ _ _ _ _ _ _ _ _ _ _ _ _ _ _ _ _ _ _ _ _ _ _ _ _ _ _ _ _ _ _ _ _ _ _ _ _ _ _ _ _ _ _ _ _ _ _ _ _ _ _ _ _ _ _ _ _ _ _ _ _ _ _ _ _ _ _ _ _ hl4 hp4 hnb' hab hgab HPB.out HA.out HPS.out _ ?_ _ (by kernel_rfl)
            intro _ _ _ _ _ _ _ _ _ _ _ _ _ _ _ _ _ _ _ _ _ _ _ _ _ _ _ _ _ _ _ _ _ _ _ _ w' hCn
            have HCn := Lib.hid hCn
            clear hCn
            go_wp2_with fail
            go_meet
            exact HCn.out
          · focus
            go_upto_if 97 with fail
            refine wp_cond_f rfl ?_
            go_upto_if 132 with fail
            refine wp_cond_t rfl ?_
            refine arm1 _ _ _ _ _ _ _ _ _ _ _ _ _ _ _ _ _ _ _ _ _ _ _ _ _ _ _ _ _ _ _ _ _ _ _ _ _ _ _ _ _ _ _ _ _ _ _ _ _ _ _ _ _ _ _ _ _ _ _ _ _ _ _ _ _ _ _ _ _ _ _ _ _ _ _ _ _ _ _ _ _ _ _ _ _ _ _ _ _ _ _ _ _ _ _ _ _ _ _ _ _ _ _ _ _ _ _ _ _ _ _ _ _ _ _ _ _ _ _ _ _ _ _ _ _ _ _ _ _ _ _ _ _ _ _ _ _ _ _ _ _ _ _ _ _ _ _ _ _ _ _ _ _ _ _ _ _ _ _ _ _ _ _ _ _ _ _ _ _ _ _ _ _ _ _ _ _ _ _ _ _ _ _ _ _ _ _ _ _ _ _ _ _ _ _ _ _ _ _ _ _ _ _ _ _ _ _ _ _ _ _ _ _ _ _ _ _ _ _ _ _ _ _ _ _ _ _ hl4 hp4 hnb' hab hgab HPB.out HA.out HPS.out _ ?_ _ (by kernel_rfl)
            intro _ _ _ _ _ _ _ _ _ _ _ _ _ _ _ _ _ _ _ _ _ _ _ _ _ _ _ _ _ _ _ _ _ _ _ _ _ _ _ _ _ _ _ _ _ _ _ _ _ _ _ _ _ _ _ _ _ _ _ _ _ _ _ _ _ _ _ _ _ _ _ _ w' hCn
            have HCn := Lib.hid hCn
            clear hCn
            go_wp2_with fail
            go_meet
            exact HCn.out
          · focus
            go_upto_if 97 with fail
            refine wp_cond_f rfl ?_
            go_upto_if 132 with fail
            refine wp_cond_f rfl ?_
            go_upto_if 197 with fail
            refine wp_cond_t rfl ?_
            refine arm2 _ _ _ _ _ _ _ _ _ _ _ _ _ _ _ _ _ _ _ _ _ _ _ _ _ _ _ _ _ _ _ _ _ _ _ _ _ _ _ _ _ _ _ _ _ _ _ _ _ _ _ _ _ _ _ _ _ _ _ _ _ _ _ _ _ _ _ _ _ _ _ _ _ _ _ _ _ _ _ _ _ _ _ _ _ _ _ _ _ _ _ _ _ _ _ _ _ _ _ _ _ _ _ _ _ _ _ _ _ _ _ _ _ _ _ _ _ _ _ _ _ _ _ _ _ _ _ _ _ _ _ _ _ _ _ _ _ _ _ _ _ _ _ _ _ _ _ _ _ _ _ _ _ _ _ _ _ _ _ _ _ _ _ _ _ _ _ _ _ _ _ _ _ _ _ _ _ _ _ _ _ _ _ _ _ _ _ _ _ _ _ _ _ _ _ _ _ _ _ _ _ _ _ _ _ _ _ _ _ _ _ _ _ _ _ _ _ _ _ _ _ _ _ _ _ _ _ hl4 hp4 hnb' hab hgab HPB.out HA.out HPS.out _ ?_ _ (by kernel_rfl)
            intro _ _ _ _ _ _ _ _ _ _ _ _ _ _ _ _ _ _ _ _ _ _ _ _ _ _ _ _ _ w' hCn
            have HCn := Lib.hid hCn
            clear hCn
            go_wp2_with fail
            go_meet
            exact HCn.out
          · focus
            go_upto_if 97 with fail
            refine wp_cond_f rfl ?_
            go_upto_if 132 with fail
            refine wp_cond_f rfl ?_
            go_upto_if 197 with fail
            refine wp_cond_f rfl ?_
            refine arm3 _ _ _ _ _ _ _ _ _ _ _ _ _ _ _ _ _ _ _ _ _ _ _ _ _ _ _ _ _ _ _ _ _ _ _ _ _ _ _ _ _ _ _ _ _ _ _ _ _ _ _ _ _ _ _ _ _ _ _ _ _ _ _ _ _ _ _ _ _ _ _ _ _ _ _ _ _ _ _ _ _ _ _ _ _ _ _ _ _ _ _ _ _ _ _ _ _ _ _ _ _ _ _ _ _ _ _ _ _ _ _ _ _ _ _ _ _ _ _ _ _ _ _ _ _ _ _ _ _ _ _ _ _ _ _ _ _ _ _ _ _ _ _ _ _ _ _ _ _ _ _ _ _ _ _ _ _ _ _ _ _ _ _ _ _ _ _ _ _ _ _ _ _ _ _ _ _ _ _ _ _ _ _ _ _ _ _ _ _ _ _ _ _ _ _ _ _ _ _ _ _ _ _ _ _ _ _ _ _ _ _ _ _ _ _ _ _ _ _ _ _ _ _ _ _ _ _ hl4 hp4 hnb' hab hgab HPB.out HA.out HPS.out _ ?_ _ (by kernel_rfl)
            intro _ _ _ _ _ _ _ _ _ _ _ _ _ _ _ _ _ _ _ _ _ _ _ _ _ _ _ _ _ _ _ _ _ _ _ _ _ _ _ _ _ _ _ _ _ _ _ _ _ _ _ _ w' hCn
            have HCn := Lib.hid hCn
            clear hCn
            go_wp2_with fail
            go_meet
            exact HCn.out
        case rest =>
        obtain ⟨L1, f1, v1, oq1, cq1, rfl, rfl, PS1, A1⟩ := hcut
        have a3 : wc.cell? ⟨ab, 3, none⟩ = some (.int .i64 n) := A1.cell 3
        have hsame := same_g PS1.P PS1.q (by have := PS1.hf; omega) PS1.h8 PS1.hf (fun x hx => by have := PS1.hx x hx; omega) n hnb'
        have HPS1 := Lib.hid PS1
        clear PS1 A1 HA HPS hgv hfL hL8 hab hgab
        go_wp2_with fail
        refine hsame.mono ?_
        rintro e w9 ⟨rfl, b9⟩
        have HF := Lib.hid (HPS1.out.below b9 (Nat.le_refl _))
        clear b9 hsame a3 HPS1
        go_wp2_with fail
        go_roundw
        case rel => exact ⟨i + 1, L1, f1, v1, oq1, cq1, by go_num, by omega, by omega, rfl, rfl, HF.out⟩
        case measure => simp [intOf]; omega
      · obtain rfl : i = 50 := by omega
        have bel := PS.bel
        clear PS
        go_wp2_with fail
        go_ret
        exact ⟨rfl, by rw [HG.out]; exact bel⟩
    · obtain rfl : i = len := by omega
      have bel := PS.bel
      clear PS
      go_wp2_with fail
      go_ret
      exact ⟨rfl, by rw [HG.out]; exact bel⟩
end Go.Proofs.Ythddacgdmngfhaa.pat
