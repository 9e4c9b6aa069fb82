/- Layer 4: a parameter is taken from whatever is left. -/
import Derived.LoopTactic
import Derived.OwnWalk
import Derived.Laws.AppendOwn
import Derived.Lib.QuietBelow
import Derived.BigQuiet
import Derived.Deep.CutBlock
import Derived.Deep.DeepCutAuto
import Derived.Outline
import Derived.Test.YtfpcneekbdcbcaaGA
namespace Go.Proofs.Ytfpcneekbdcbcaa.par
open Go.ChangeShapes Go.WideShapes Go.ChangeAt Go.RowKit kit oct
set_option maxRecDepth 100000

/-- What is read as a parameter of (l, e): step by step. -/
def tN (l : ByteArray) : Int := (rdN l 2 : Nat)
def tl1 (l : ByteArray) (e : Int) : ByteArray := rdL l e 2
def te1 (l : ByteArray) (e : Int) : Int := rdE l e 2
def tZ (l : ByteArray) (e : Int) : Int := (rdN (tl1 l e) 2 : Nat)
def tl2 (l : ByteArray) (e : Int) : ByteArray := rdL (tl1 l e) (te1 l e) 2
def te2 (l : ByteArray) (e : Int) : Int := rdE (tl1 l e) (te1 l e) 2
/-- behind the test of the size -/
def fL (b : Bool) (l : ByteArray) (e x : Int) : ByteArray := if b = true then failL l e x else l
def fE (b : Bool) (e x : Int) : Int := if b = true then failE e x else e
def zB (z : Int) : Bool := decide (z < 4 ∨ 1004 < z)
def kL (l : ByteArray) (e n : Int) : ByteArray := if 0 ≤ n ∧ n ≤ l.size then l.extract n.toNat l.size else failL l e 2
def kE (l : ByteArray) (e n : Int) : Int := if 0 ≤ n ∧ n ≤ l.size then e else failE e 2
def kV (l : ByteArray) (n : Int) : ByteArray := if 0 ≤ n ∧ n ≤ l.size then l.extract 0 n.toNat else ByteArray.empty

theorem size_fail (l : ByteArray) (e x : Int) : (failL l e x).size ≤ l.size := by unfold failL; split <;> simp
theorem size_rd (l : ByteArray) (e : Int) (k : Nat) : (rdL l e k).size ≤ l.size := by
  unfold rdL; split
  · simp
  · exact size_fail _ _ _
theorem size_f (b : Bool) (l : ByteArray) (e x : Int) : (fL b l e x).size ≤ l.size := by
  unfold fL; split
  · exact size_fail _ _ _
  · exact Nat.le_refl _
theorem size_k (l : ByteArray) (e n : Int) : (kL l e n).size ≤ l.size := by
  unfold kL; split
  · simp
  · exact size_fail _ _ _

theorem failB (b : Bool) (g : Nat) (l : ByteArray) (e x : Int) (w : World) (h : RD w g l e) : b = true →
    Calls Try.prog 25 #[.pointer (some ⟨g, 0, none⟩), .int .i64 x] w fun y w' => y = .returned (.tuple #[]) ∧ RD w' g (fL b l e x) (fE b e x) ∧ oct.Touch g w w' := by
  rintro rfl
  exact fail_any g l e x w h

/-- The size, the value, what is left, the error. -/
def pl3 (l : ByteArray) (e : Int) : ByteArray := fL (zB (tZ l e)) (tl2 l e) (te2 l e) 3
def pe3 (l : ByteArray) (e : Int) : Int := fE (zB (tZ l e)) (te2 l e) 3
def pl4 (l : ByteArray) (e : Int) : ByteArray := kL (pl3 l e) (pe3 l e) (tZ l e - 4)
def pe4 (l : ByteArray) (e : Int) : Int := kE (pl3 l e) (pe3 l e) (tZ l e - 4)
def pV (l : ByteArray) (e : Int) : ByteArray := kV (pl3 l e) (tZ l e - 4)
def pB (l : ByteArray) (e : Int) : Bool := decide (((pl4 l e).size : Int) < -(tZ l e) % 4)
def pl5 (l : ByteArray) (e : Int) : ByteArray := fL (pB l e) (pl4 l e) (pe4 l e) 2
def pe5 (l : ByteArray) (e : Int) : Int := fE (pB l e) (pe4 l e) 2
def pl6 (l : ByteArray) (e : Int) : ByteArray := fillL (pl5 l e) (pe5 l e) (tZ l e)
def pe6 (l : ByteArray) (e : Int) : Int := fillE (pl5 l e) (pe5 l e) (tZ l e)
def pT (l : ByteArray) (e : Int) : Value := if pe6 l e = 0 then .agg #[.int .i64 (tN l), .string (pV l e)] else .agg #[.int .i64 0, .string ByteArray.empty]

theorem takeT {g : Nat} {w w' : World} (hg : g < w.heap.size) (h : oct.Touch g w w') (u v : Value) : oct.Touch g w ((w'.setCell ⟨w.heap.size, 0, none⟩ u).setCell ⟨w.heap.size, 1, none⟩ v) :=
  ⟨h.os, h.tape, h.output, by simpa [World.setCell] using h.size, fun k hk hne => (Below.heap_setCell _ _ _ _ (by simp; omega)).trans ((Below.heap_setCell _ _ _ _ (by simp; omega)).trans (h.block k hk hne))⟩

set_option maxHeartbeats 2000000 in
theorem take_core (g : Nat) (l : ByteArray) (e : Int) (l1 l2 l3 l4 l5 l6 V : ByteArray) (e1 e2 e3 e4 e5 e6 n z : Int) (b b' : Bool) (P : Value) (w : World) (h : RD w g l e)
    (hl : l.size ≤ maxLen) (h1 : l1.size ≤ maxLen) (h2 : l2.size ≤ maxLen) (h3 : l3.size ≤ maxLen) (h4 : l4.size ≤ maxLen) (h5 : l5.size ≤ maxLen) (z0 : 0 ≤ z) (z1 : z ≤ 65535)
    (c1 : ∀ w, RD w g l e → Calls Try.prog 24 #[.pointer (some ⟨g, 0, none⟩)] w fun x w' => x = .returned (.int .i64 n) ∧ RD w' g l1 e1 ∧ oct.Touch g w w')
    (c2 : ∀ w, RD w g l1 e1 → Calls Try.prog 24 #[.pointer (some ⟨g, 0, none⟩)] w fun x w' => x = .returned (.int .i64 z) ∧ RD w' g l2 e2 ∧ oct.Touch g w w')
    (hb : b = zB z) (c3 : ∀ w, RD w g l2 e2 → b = true → Calls Try.prog 25 #[.pointer (some ⟨g, 0, none⟩), .int .i64 3] w fun y w' => y = .returned (.tuple #[]) ∧ RD w' g l3 e3 ∧ oct.Touch g w w')
    (c3' : b = false → l2 = l3 ∧ e2 = e3)
    (c4 : ∀ w, RD w g l3 e3 → Calls Try.prog 26 #[.pointer (some ⟨g, 0, none⟩), .int .i64 (z - 4)] w fun y w' => y = .returned (.string V) ∧ RD w' g l4 e4 ∧ oct.Touch g w w')
    (hb' : b' = decide ((l4.size : Int) < -z % 4)) (c5 : ∀ w, RD w g l4 e4 → b' = true → Calls Try.prog 25 #[.pointer (some ⟨g, 0, none⟩), .int .i64 2] w fun y w' => y = .returned (.tuple #[]) ∧ RD w' g l5 e5 ∧ oct.Touch g w w')
    (c5' : b' = false → l4 = l5 ∧ e4 = e5)
    (c6 : ∀ w, RD w g l5 e5 → Calls Try.prog 29 #[.pointer (some ⟨g, 0, none⟩), .int .i64 z] w fun y w' => y = .returned (.tuple #[]) ∧ RD w' g l6 e6 ∧ oct.Touch g w w')
    (hP : P = if e6 = 0 then .agg #[.int .i64 n, .string V] else .agg #[.int .i64 0, .string ByteArray.empty]) :
    Calls Try.prog 78 #[.pointer (some ⟨g, 0, none⟩)] w fun x w' => x = .returned P ∧ RD w' g l6 e6 ∧ oct.Touch g w w' := by
  have hp := fun w => pad_any z w z0 (by omega)
  have hp1 : -z % 4 ≤ 3 := by omega
  have hp0 : 0 ≤ -z % 4 := by omega
  have P1 : e6 = 0 → P = .agg #[.int .i64 n, .string V] := fun q => by rw [hP, if_pos q]
  have P0 : e6 ≠ 0 → P = .agg #[.int .i64 0, .string ByteArray.empty] := fun q => by rw [hP, if_neg q]
  have HP1 := Lib.hid P1
  have HP0 := Lib.hid P0
  have HC3 := Lib.hid c3'
  have HC5 := Lib.hid c5'
  have HB := Lib.hid hb
  have HB' := Lib.hid hb'
  have hg := Blk.lt h
  clear hP P1 P0 c3' c5' hb hb'
  go_enter Try.func78, Try.ntmps78
  go_wp2_with fail
  have R0 : RD (w.alloc (.cells #[.int .i64 0, .string ByteArray.empty] 40)) g l e := Blk.alloc h _
  refine (c1 _ R0).mono ?_
  rintro x w1 ⟨rfl, R1, t1⟩
  go_wp2_with fail
  refine (c2 _ R1).mono ?_
  rintro x w2 ⟨rfl, R2, t2⟩
  have B2 := t2.blk (t1.blk (Blk.new w 40 #[.int .i64 0, .string ByteArray.empty]) (by omega)) (by omega)
  have T0 : oct.Touch g w (w.alloc (.cells #[.int .i64 0, .string ByteArray.empty] 40)) := oct.Touch.of_below ((Below.refl _ _).alloc (Nat.le_refl _) _)
  have T2 : oct.Touch g w w2 := (T0.trans t1).trans t2
  clear t1 t2 R0 R1 T0 h c1 c2
  go_upto_region 2 with fail
  go_cut [15] (fun s15 wx => s15 = .bool b ∧ wx = w2)
  case first =>
    cases b with
    | true =>
      have hz : z < 4 ∨ 1004 < z := by have := HB.out; unfold zB at this; simpa using this.symm
      rcases hz with hz | hz
      · go_wp2_with fail
        go_meet
        exact ⟨rfl, rfl⟩
      · go_wp2_with fail
        go_meet
        exact ⟨rfl, rfl⟩
    | false =>
      have hz : 4 ≤ z ∧ z ≤ 1004 := by
        have := HB.out; unfold zB at this
        have h2 : ¬ (z < 4 ∨ 1004 < z) := by simpa using this.symm
        omega
      obtain ⟨hz1, hz2⟩ := hz
      go_wp2_with fail
      go_meet
      exact ⟨congrArg Value.bool (by simp; omega), rfl⟩
  case rest =>
  obtain ⟨rfl, rfl⟩ := hcut
  go_upto_if 15 with fail
  go_cut [] (fun wx => RD wx g l3 e3 ∧ Blk wx w.heap.size 40 #[.int .i64 0, .string ByteArray.empty] ∧ oct.Touch g w wx)
  case first =>
    cases b with
    | true =>
      go_wp2_with fail
      refine (c3 _ R2 (by trivial)).mono ?_
      rintro x w3 ⟨rfl, R3, t3⟩
      go_wp2_with fail
      go_meet
      exact ⟨R3, t3.blk B2 (by omega), T2.trans t3⟩
    | false =>
      obtain ⟨rfl, rfl⟩ := HC3.out rfl
      go_wp2_with fail
      go_meet
      exact ⟨R2, B2, T2⟩
  case rest =>
  obtain ⟨R3, B3, T3⟩ := hcut
  clear R2 B2 T2
  have hzw : IntKind.i64.wrap (z - 4) = z - 4 := IntWalk.i64_in _ (by omega)
  go_wp2_with fail
  refine (c4 _ R3).mono ?_
  rintro x w4 ⟨rfl, R4, t4⟩
  have B4 := t4.blk B3 (by omega)
  have T4 := T3.trans t4
  clear R3 B3 T3 t4 hzw
  go_upto_if 26 with (first | (go_at_call 27; refine (left_any g l4 e4 _ R4).mono ?_; rintro x w5 ⟨rfl, rfl⟩) | (go_at_call 28; refine (hp _).mono ?_; rintro x w5 ⟨rfl, rfl⟩))
  go_cut [] (fun wx => RD wx g l5 e5 ∧ Blk wx w.heap.size 40 #[.int .i64 0, .string ByteArray.empty] ∧ oct.Touch g w wx)
  case first =>
    cases b' with
    | true =>
      have hz : (l4.size : Int) < -z % 4 := by have := HB'.out; simpa using this.symm
      go_wp2_with fail
      refine (c5 _ R4 (by trivial)).mono ?_
      rintro x w5 ⟨rfl, R5, t5⟩
      go_wp2_with fail
      go_meet
      exact ⟨R5, t5.blk B4 (by omega), T4.trans t5⟩
    | false =>
      have hz : -z % 4 ≤ (l4.size : Int) := by have := HB'.out; have h2 : ¬ (l4.size : Int) < -z % 4 := by simpa using this.symm
                                               omega
      obtain ⟨rfl, rfl⟩ := HC5.out rfl
      go_wp2_with fail
      go_meet
      exact ⟨R4, B4, T4⟩
  case rest =>
  obtain ⟨R5, B5, T5⟩ := hcut
  clear R4 B4 T4
  go_wp2_with fail
  refine (c6 _ R5).mono ?_
  rintro x w6 ⟨rfl, R6, t6⟩
  have B6 := t6.blk B5 (by omega)
  have T6 := T5.trans t6
  have C6 := fun i => B6.cell i
  have F6 := fun i => B6.frozen i
  have hz6 := B6.lt
  clear R5 B5 T5 t6
  by_cases he : e6 = 0
  · have HV := Lib.hid (HP1.out he)
    subst he
    go_wp2_with (go_at_call 30; refine (err_any g l6 0 _ R6).mono ?_; rintro x w7 ⟨rfl, rfl⟩)
    exact bodyPost_ret (v := .agg #[.int .i64 n, .string V]) (by simp [results, Try.results78, go_sem, C6, F6, hz6] <;> rfl) rfl ⟨congrArg Ending.returned HV.out.symm, Blk.far (Blk.far R6 (by simp; omega) _) (by simp; omega) _, takeT hg T6 _ _⟩
  · have HV := Lib.hid (HP0.out he)
    have hx : (e6 != 0) = true := by simpa using he
    clear he
    go_wp2_with (go_at_call 30; refine (err_any g l6 e6 _ R6).mono ?_; rintro x w7 ⟨rfl, rfl⟩)
    exact bodyPost_ret (v := .agg #[.int .i64 0, .string ByteArray.empty]) (by simp [results, Try.results78, go_sem, C6, F6, hz6] <;> rfl) rfl ⟨congrArg Ending.returned HV.out.symm, Blk.far (Blk.far R6 (by simp; omega) _) (by simp; omega) _, takeT hg T6 _ _⟩

theorem take_any (g : Nat) (l : ByteArray) (e : Int) (w : World) (h : RD w g l e) (hl : l.size ≤ maxLen) :
    Calls Try.prog 78 #[.pointer (some ⟨g, 0, none⟩)] w fun x w' => x = .returned (pT l e) ∧ RD w' g (pl6 l e) (pe6 l e) ∧ oct.Touch g w w' := by
  have s1 := size_rd l e 2
  have s2 := size_rd (tl1 l e) (te1 l e) 2
  have s3 := size_f (zB (tZ l e)) (tl2 l e) (te2 l e) 3
  have s4 := size_k (pl3 l e) (pe3 l e) (tZ l e - 4)
  have s5 := size_f (pB l e) (pl4 l e) (pe4 l e) 2
  have a1 : (tl1 l e).size ≤ maxLen := Nat.le_trans s1 hl
  have a2 : (tl2 l e).size ≤ maxLen := Nat.le_trans s2 a1
  have a3 : (pl3 l e).size ≤ maxLen := Nat.le_trans s3 a2
  have a4 : (pl4 l e).size ≤ maxLen := Nat.le_trans s4 a3
  have a5 : (pl5 l e).size ≤ maxLen := Nat.le_trans s5 a4
  have b2 := rdN_lt (tl1 l e) 2 (by omega)
  have z0 : 0 ≤ tZ l e := by unfold tZ; omega
  have z1 : tZ l e ≤ 65535 := by unfold tZ; omega
  refine take_core g l e (tl1 l e) (tl2 l e) (pl3 l e) (pl4 l e) (pl5 l e) (pl6 l e) (pV l e) (te1 l e) (te2 l e) (pe3 l e) (pe4 l e) (pe5 l e) (pe6 l e) (tN l) (tZ l e) (zB (tZ l e)) (pB l e) (pT l e) w h hl a1 a2 a3 a4 a5 z0 z1
    (fun w h => r16_any g l e w h hl) (fun w h => r16_any g (tl1 l e) (te1 l e) w h a1) rfl (fun w h hb => failB _ g _ _ 3 w h hb) (fun hb => ?_) (fun w h => oct.take_any g _ _ _ w h a3) rfl (fun w h hb => failB _ g _ _ 2 w h hb) (fun hb => ?_) (fun w h => fill_any g _ _ _ w h a5 z0 (by omega)) rfl
  · unfold pl3 pe3 fL fE; rw [hb]; exact ⟨rfl, rfl⟩
  · unfold pl5 pe5 fL fE; rw [hb]; exact ⟨rfl, rfl⟩
end Go.Proofs.Ytfpcneekbdcbcaa.par
/- Layer 4: which bytes are a parameter, and which one (no walk). -/
namespace Go.Proofs.Ytfpcneekbdcbcaa.par
open Go.ChangeShapes Go.WideShapes Go.ChangeAt Go.RowKit kit oct

theorem failE_ne {e x : Int} (hx : x ≠ 0) : failE e x ≠ 0 := by
  unfold failE; split
  · rename_i h; rcases h with h | h
    · exact h
    · exact absurd h hx
  · exact hx
theorem rdE_0 {l : ByteArray} {e : Int} {k : Nat} (h : rdE l e k = 0) : k ≤ l.size ∧ e = 0 := by
  unfold rdE at h
  by_cases c : k ≤ l.size
  · rw [if_pos c] at h; exact ⟨c, h⟩
  · rw [if_neg c] at h; exact absurd h (failE_ne (by decide))
theorem fE_0 {b : Bool} {e x : Int} (hx : x ≠ 0) (h : fE b e x = 0) : b = false ∧ e = 0 := by
  cases b with
  | true => exact absurd h (failE_ne hx)
  | false => exact ⟨rfl, h⟩
theorem kE_0 {l : ByteArray} {e n : Int} (h : kE l e n = 0) : (0 ≤ n ∧ n ≤ l.size) ∧ e = 0 := by
  unfold kE at h
  by_cases c : 0 ≤ n ∧ n ≤ l.size
  · rw [if_pos c] at h; exact ⟨c, h⟩
  · rw [if_neg c] at h; exact absurd h (failE_ne (by decide))
theorem fillE_0 {l : ByteArray} {e n : Int} (h : fillE l e n = 0) : l.extract 0 (fk l n) = zeros (fk l n) ∧ e = 0 := by
  unfold fillE at h
  by_cases c : l.extract 0 (fk l n) = zeros (fk l n)
  · rw [if_pos c] at h; exact ⟨c, h⟩
  · rw [if_neg c] at h; exact absurd h (failE_ne (by decide))

/-- That bytes begin with a parameter of Z bytes, filled up by p. -/
structure IsP (l : ByteArray) (Z p : Nat) : Prop where
  four : 4 ≤ l.size
  size : numV (l.extract 2 4).data.toList = Z
  lo : 4 ≤ Z
  hi : Z ≤ 1004
  pad : (p : Int) = -(Z : Int) % 4
  room : Z + p ≤ l.size
  noughts : l.extract Z (Z + p) = zeros p

theorem ext_ext (l : ByteArray) (a b c d : Nat) (hb : b = l.size) (hd : a + d ≤ l.size) : (l.extract a b).extract c d = l.extract (a + c) (a + d) := by
  subst hb
  apply ByteArray.ext
  simp
  congr 1
  have : l.data.size = l.size := rfl
  omega

theorem head_of {l : ByteArray} (h : 4 ≤ l.size) : tl1 l 0 = l.extract 2 l.size ∧ te1 l 0 = 0 ∧ tZ l 0 = (numV (l.extract 2 4).data.toList : Nat) ∧ tl2 l 0 = l.extract 4 l.size ∧ te2 l 0 = 0 ∧ tN l = (numV (l.extract 0 2).data.toList : Nat) := by
  have q1 : tl1 l 0 = l.extract 2 l.size := by unfold tl1 rdL; rw [if_pos (by omega)]
  have z1 : (l.extract 2 l.size).size = l.size - 2 := by simp
  have q2 : te1 l 0 = 0 := by unfold te1 rdE; rw [if_pos (by omega)]
  refine ⟨q1, q2, ?_, ?_, ?_, ?_⟩
  · unfold tZ rdN; rw [q1, if_pos (by omega), take_data, ext_ext l 2 l.size 0 2 rfl (by omega)]
  · unfold tl2 rdL; rw [q1, if_pos (by omega), z1, ext_ext l 2 l.size 2 (l.size - 2) rfl (by omega), show 2 + (l.size - 2) = l.size by omega]
  · unfold te2 rdE; rw [q1, q2, if_pos (by omega)]
  · unfold tN rdN; rw [if_pos (by omega), take_data]

theorem take_good {l : ByteArray} {Z p : Nat} (H : IsP l Z p) : pe6 l 0 = 0 ∧ pV l 0 = l.extract 4 Z ∧ pl6 l 0 = l.extract (Z + p) l.size := by
  obtain ⟨h4, hZ, lo, hi, hp, hs, hz⟩ := H
  obtain ⟨q1, q2, q3, q4, q5, q6⟩ := head_of h4
  rw [hZ] at q3
  have zb : zB (tZ l 0) = false := by rw [q3]; unfold zB; simp; omega
  have r3 : pl3 l 0 = l.extract 4 l.size := by unfold pl3 fL; rw [zb, q4]; rfl
  have s3 : pe3 l 0 = 0 := by unfold pe3 fE; rw [zb, q5]; rfl
  have z3 : (l.extract 4 l.size).size = l.size - 4 := by simp
  have inr : 0 ≤ tZ l 0 - 4 ∧ tZ l 0 - 4 ≤ ((l.extract 4 l.size).size : Int) := by rw [q3, z3]; omega
  have tn : (tZ l 0 - 4).toNat = Z - 4 := by rw [q3]; omega
  have r4 : pl4 l 0 = l.extract Z l.size := by
    unfold pl4 kL; rw [r3, if_pos inr, tn, z3, ext_ext l 4 l.size (Z - 4) (l.size - 4) rfl (by omega), show 4 + (Z - 4) = Z by omega, show 4 + (l.size - 4) = l.size by omega]
  have s4 : pe4 l 0 = 0 := by unfold pe4 kE; rw [r3, if_pos inr, s3]
  have v4 : pV l 0 = l.extract 4 Z := by
    unfold pV kV; rw [r3, if_pos inr, tn, ext_ext l 4 l.size 0 (Z - 4) rfl (by omega), show 4 + (Z - 4) = Z by omega]
  have z4 : (l.extract Z l.size).size = l.size - Z := by simp
  have pb : pB l 0 = false := by unfold pB; rw [r4, z4, q3]; simp; omega
  have r5 : pl5 l 0 = l.extract Z l.size := by unfold pl5 fL; rw [pb, r4]; rfl
  have s5 : pe5 l 0 = 0 := by unfold pe5 fE; rw [pb, s4]; rfl
  have fkp : fk (l.extract Z l.size) (tZ l 0) = p := by unfold fk; rw [q3, z4]; omega
  have cond : (l.extract Z l.size).extract 0 p = zeros p := by rw [ext_ext l Z l.size 0 p rfl (by omega)]; exact hz
  refine ⟨?_, v4, ?_⟩
  · unfold pe6 fillE; rw [r5, fkp, if_pos cond, s5]
  · unfold pl6 fillL; rw [r5, fkp, if_pos cond, z4, ext_ext l Z l.size p (l.size - Z) rfl (by omega), show Z + (l.size - Z) = l.size by omega]

theorem take_ok {l : ByteArray} {e : Int} (h : pe6 l e = 0) : e = 0 ∧ ∃ Z p, IsP l Z p := by
  obtain ⟨h6, h5⟩ := fillE_0 (show fillE (pl5 l e) (pe5 l e) (tZ l e) = 0 from h)
  obtain ⟨hb, h4⟩ := fE_0 (by decide) (show fE (pB l e) (pe4 l e) 2 = 0 from h5)
  obtain ⟨hr, h3⟩ := kE_0 (show kE (pl3 l e) (pe3 l e) (tZ l e - 4) = 0 from h4)
  obtain ⟨hz, h2⟩ := fE_0 (by decide) (show fE (zB (tZ l e)) (te2 l e) 3 = 0 from h3)
  obtain ⟨g2, h1⟩ := rdE_0 (show rdE (tl1 l e) (te1 l e) 2 = 0 from h2)
  obtain ⟨g1, h0⟩ := rdE_0 (show rdE l e 2 = 0 from h1)
  subst h0
  have q1 : tl1 l 0 = l.extract 2 l.size := by unfold tl1 rdL; rw [if_pos g1]
  have z1 : (l.extract 2 l.size).size = l.size - 2 := by simp
  have f4 : 4 ≤ l.size := by rw [q1, z1] at g2; omega
  obtain ⟨_, _, q3, q4, q5, q6⟩ := head_of f4
  obtain ⟨Z, hZ⟩ : ∃ Z, numV (l.extract 2 4).data.toList = Z := ⟨_, rfl⟩
  rw [hZ] at q3
  have lohi : 4 ≤ Z ∧ Z ≤ 1004 := by
    rw [q3] at hz; unfold zB at hz
    have : ¬ ((Z : Int) < 4 ∨ 1004 < (Z : Int)) := by simpa using hz
    omega
  have zb : zB (tZ l 0) = false := hz
  have r3 : pl3 l 0 = l.extract 4 l.size := by unfold pl3 fL; rw [zb, q4]; rfl
  have z3 : (l.extract 4 l.size).size = l.size - 4 := by simp
  rw [r3, z3, q3] at hr
  have tn : (tZ l 0 - 4).toNat = Z - 4 := by rw [q3]; omega
  have inr : 0 ≤ tZ l 0 - 4 ∧ tZ l 0 - 4 ≤ ((l.extract 4 l.size).size : Int) := by rw [q3, z3]; omega
  have r4 : pl4 l 0 = l.extract Z l.size := by
    unfold pl4 kL; rw [r3, if_pos inr, tn, z3, ext_ext l 4 l.size (Z - 4) (l.size - 4) rfl (by omega), show 4 + (Z - 4) = Z by omega, show 4 + (l.size - 4) = l.size by omega]
  have z4 : (l.extract Z l.size).size = l.size - Z := by simp
  have pb : pB l 0 = false := hb
  have pb' := pb
  unfold pB at pb'
  rw [r4, z4, q3] at pb'
  have pb2 : ¬ (((l.size - Z : Nat) : Int) < -(Z : Int) % 4) := by simpa using pb'
  obtain ⟨p, hp⟩ : ∃ p : Nat, (p : Int) = -(Z : Int) % 4 := ⟨(-(Z : Int) % 4).toNat, by omega⟩
  have r5 : pl5 l 0 = l.extract Z l.size := by unfold pl5 fL; rw [pb, r4]; rfl
  have fkp : fk (l.extract Z l.size) (tZ l 0) = p := by unfold fk; rw [q3, z4]; omega
  rw [r5, fkp, ext_ext l Z l.size 0 p rfl (by omega)] at h6
  exact ⟨rfl, Z, p, f4, hZ, lohi.1, lohi.2, hp, by omega, h6⟩
end Go.Proofs.Ytfpcneekbdcbcaa.par
/- Layer 4: parameters one behind the other are read again. -/
namespace Go.Proofs.Ytfpcneekbdcbcaa.par
open Go.ChangeShapes Go.WideShapes Go.ChangeAt Go.RowKit kit oct
set_option maxRecDepth 100000

theorem putP_size {t : Int} {v : ByteArray} (h : mayP t v = true) : ((putP t v).size : Int) = 4 + v.size + -((v.size : Int) + 4) % 4 := by
  unfold putP
  rw [if_pos h]
  unfold filled
  rw [ByteArray.size_append, zeros_size]
  have e : (p2 t ++ p2 ((v.size : Int) + 4) ++ v).size = v.size + 4 := by simp [p2_size]; omega
  rw [e]
  omega
theorem may_of {t : Int} {v : ByteArray} (h : mayP t v = true) : 0 ≤ t ∧ t ≤ 65535 ∧ v.size ≤ 1000 := by unfold mayP at h; simpa using h

/-- The bytes of a parameter, and whatever behind them: it is taken again. -/
theorem put_take {t : Int} {v R : ByteArray} (h : mayP t v = true) : pe6 (putP t v ++ R) 0 = 0 ∧ pT (putP t v ++ R) 0 = .agg #[.int .i64 t, .string v] ∧ pl6 (putP t v ++ R) 0 = R := by
  obtain ⟨t0, t1, v1⟩ := may_of h
  obtain ⟨n, rfl⟩ : ∃ n : Nat, t = n := ⟨t.toNat, by omega⟩
  obtain ⟨p, hp⟩ : ∃ p : Nat, (p : Int) = -((v.size + 4 : Nat) : Int) % 4 := ⟨(-((v.size + 4 : Nat) : Int) % 4).toNat, by omega⟩
  have s2 : ∀ x : Int, (p2 x).size = 2 := p2_size
  have e0 : putP n v ++ R = p2 n ++ (p2 ((v.size + 4 : Nat) : Int) ++ (v ++ (zeros p ++ R))) := by
    unfold putP
    rw [if_pos h]
    unfold filled
    have e : (p2 (n : Int) ++ p2 ((v.size : Int) + 4) ++ v).size = v.size + 4 := by simp [p2_size]; omega
    rw [e, ← hp]
    simp only [ByteArray.append_assoc]
    rfl
  rw [e0]
  have zs : (zeros p).size = p := zeros_size p
  obtain ⟨L, hL⟩ : ∃ L, L = p2 (n : Int) ++ (p2 ((v.size + 4 : Nat) : Int) ++ (v ++ (zeros p ++ R))) := ⟨_, rfl⟩
  have hsz : L.size = 4 + v.size + p + R.size := by rw [hL]; simp only [ByteArray.size_append, s2, zs]; omega
  have x1 : L.extract 0 2 = p2 n := by rw [hL]; exact ext_left _ _ 2 (s2 _)
  have key : ∀ (S : ByteArray) (a b c : Nat), S.extract (a + b) (a + c) = (S.extract a S.size).extract b c ∨ S.size < a + c := fun S a b c => by
    by_cases q : a + c ≤ S.size
    · left; rw [ext_ext S a S.size b c rfl q]
    · right; omega
  have t2 : L.extract 2 L.size = p2 ((v.size + 4 : Nat) : Int) ++ (v ++ (zeros p ++ R)) := by
    rw [hL]; exact ext_right _ _ 2 _ (s2 _) rfl
  have x2 : L.extract 2 4 = p2 ((v.size + 4 : Nat) : Int) := by
    have := ext_ext L 2 L.size 0 2 rfl (by omega)
    rw [t2] at this
    rw [← this]; exact ext_left _ _ 2 (s2 _)
  have t4 : L.extract 4 L.size = v ++ (zeros p ++ R) := by
    have := ext_ext L 2 L.size 2 (L.size - 2) rfl (by omega)
    rw [t2, show 2 + (L.size - 2) = L.size by omega] at this
    rw [← this]
    exact ext_right _ _ 2 _ (s2 _) (by simp only [ByteArray.size_append, s2, zs]; omega)
  have x3 : L.extract 4 (v.size + 4) = v := by
    have := ext_ext L 4 L.size 0 v.size rfl (by omega)
    rw [t4, show 4 + v.size = v.size + 4 by omega] at this
    rw [← this]; exact ext_left _ _ _ rfl
  have tv : L.extract (v.size + 4) L.size = zeros p ++ R := by
    have := ext_ext L 4 L.size v.size (L.size - 4) rfl (by omega)
    rw [t4, show 4 + v.size = v.size + 4 by omega, show 4 + (L.size - 4) = L.size by omega] at this
    rw [← this]
    exact ext_right _ _ _ _ rfl (by simp only [ByteArray.size_append, zs]; omega)
  have x4 : L.extract (v.size + 4) (v.size + 4 + p) = zeros p := by
    have := ext_ext L (v.size + 4) L.size 0 p rfl (by omega)
    rw [tv] at this
    rw [← this]; exact ext_left _ _ _ zs
  have x5 : L.extract (v.size + 4 + p) L.size = R := by
    have := ext_ext L (v.size + 4) L.size p (L.size - (v.size + 4)) rfl (by omega)
    rw [tv, show v.size + 4 + (L.size - (v.size + 4)) = L.size by omega] at this
    rw [← this]
    exact ext_right _ _ _ _ zs (by simp only [ByteArray.size_append, zs]; omega)
  rw [← hL]
  have H : IsP L (v.size + 4) p := ⟨by omega, by rw [x2]; exact numV_p2 (v.size + 4) (by omega), by omega, by omega, hp, by omega, x4⟩
  obtain ⟨g1, g2, g3⟩ := take_good H
  obtain ⟨_, _, _, _, _, q6⟩ := head_of H.four
  have hT : tN L = n := by rw [q6, x1, numV_p2 n (by omega)]
  refine ⟨g1, ?_, ?_⟩
  · unfold pT; rw [if_pos g1, hT, g2, x3]
  · rw [g3, x5]

def cat : List (Int × ByteArray) → ByteArray
  | [] => ByteArray.empty
  | p :: r => putP p.1 p.2 ++ cat r
def cellsP : List (Int × ByteArray) → List Value
  | [] => []
  | p :: r => .int .i64 p.1 :: .string p.2 :: cellsP r
theorem cellsP_snoc (l : List (Int × ByteArray)) (p : Int × ByteArray) : cellsP (l ++ [p]) = cellsP l ++ [.int .i64 p.1, .string p.2] := by
  induction l with
  | nil => rfl
  | cons q r ih => simp [cellsP, ih]
theorem cellsP_length (l : List (Int × ByteArray)) : (cellsP l).length = l.length * 2 := by
  induction l with
  | nil => rfl
  | cons q r ih => simp [cellsP, ih]; omega
theorem cat_size (l : List (Int × ByteArray)) (h : ∀ p, p ∈ l → mayP p.1 p.2 = true) : (cat l).size ≤ l.length * 1008 := by
  induction l with
  | nil => simp [cat]
  | cons p r ih =>
    have h1 := putP_size (h p (by simp))
    have h2 := may_of (h p (by simp))
    have h3 := ih (fun q hq => h q (by simp [hq]))
    simp only [cat, ByteArray.size_append, List.length_cons]
    omega
theorem cat_pos (p : Int × ByteArray) (r : List (Int × ByteArray)) (h : mayP p.1 p.2 = true) : 0 < (cat (p :: r)).size := by
  have h1 := putP_size h
  simp only [cat, ByteArray.size_append]
  omega

theorem touch_grown {g : Nat} {w w' : World} (h : oct.Touch g w w') : w.grownBy w' (some g) := ⟨h.os, h.tape, h.output, h.size, fun k hk hne => h.block k hk (fun e => hne (by rw [e]))⟩
theorem info23 : (Try.prog.info? 40).map (fun i => (i.zero, i.size, i.bytes)) = some (some (.agg #[.int .i64 0, .string ByteArray.empty]), 2, 24) := by kernel_rfl

/-- What All comes to. -/
def AllPost (w : World) (ps : List (Int × ByteArray)) (e : Ending) (w' : World) : Prop :=
  ∃ v, e = .returned (.tuple #[v, .int .i64 0]) ∧ w'.ownsRow (w.heap.size + 1) 40 2 v ps.length (cellsP ps) ∧ Below w.heap.size w w'

set_option maxHeartbeats 2000000 in
theorem all_list (ps : List (Int × ByteArray)) (w : World) (hk : ps.length ≤ 16) (hm : ∀ p, p ∈ ps → mayP p.1 p.2 = true) :
    Calls Try.prog 75 #[.string (cat ps)] w (AllPost w ps) := by
  obtain ⟨i0, hi, hz0, hz1, hz2⟩ := info_parts info23
  have hfin : ∀ v w', w'.ownsRow (w.heap.size + 1) 40 2 v ps.length (cellsP ps) → Below w.heap.size w w' → AllPost w ps (.returned (.tuple #[v, .int .i64 0])) w' := fun v w' h1 h2 => ⟨v, rfl, h1, h2⟩
  have HM := Lib.hid hm
  have HF := Lib.hid hfin
  clear hm hfin
  obtain ⟨S, hS⟩ : ∃ S, S = cat ps := ⟨_, rfl⟩
  rw [← hS]
  have HS := Lib.hid hS
  clear hS
  go_enter Try.func75, Try.ntmps75
  go_wp2_with (go_at_call 9; refine (new_any _ _).mono ?_; rintro e w1 ⟨rfl, rfl⟩)
  have R0 : RD (w.alloc (.cells #[.string S, .int .i64 0] 47)) w.heap.size S 0 := RD.fresh w S 0
  have bel0 : Below w.heap.size w (w.alloc (.cells #[.string S, .int .i64 0] 47)) := (Below.refl w.heap.size w).alloc (Nat.le_refl _) _
  have hs0 : w.heap.size + 1 ≤ (w.alloc (.cells #[.string S, .int .i64 0] 47)).heap.size := by simp
  generalize w.alloc (.cells #[.string S, .int .i64 0] 47) = w0 at *
  go_loopw [4, 5] (fun sl sm wr => ∃ (ds qs : List (Int × ByteArray)) (v : Value), ps = ds ++ qs ∧ sm = .int .i64 (ds.length : Nat) ∧ v = sl ∧ wr.ownsRow (w.heap.size + 1) 40 2 v ds.length (cellsP ds) ∧ RD wr w.heap.size (cat qs) 0 ∧ Below w.heap.size w wr ∧ w.heap.size + 1 ≤ wr.heap.size) (fun _ sm _ => ps.length - (intOf sm).toNat)
  case atStart => exact ⟨[], ps, _, rfl, rfl, rfl, World.ownsRow_nil _ _ _ _, by rw [← HS.out]; exact R0, bel0, hs0⟩
  case round =>
    clear R0 bel0 hs0
    obtain ⟨ds, qs, v, hps, rfl, rfl, hown, R, bel, hsz⟩ := hrel
    have HP := Lib.hid hps
    have hlen : ds.length + qs.length = ps.length := by rw [hps]; simp
    clear hps
    cases qs with
    | nil =>
      have hd : ds.length = ps.length := by simpa using hlen
      have hd16 : ds.length ≤ 16 := by omega
      have hq := HP.out
      simp only [List.append_nil] at hq
      have HO := Lib.hid hown
      have HQ := Lib.hid hq
      have e1 : cat [] = ByteArray.empty := rfl
      rw [e1] at R
      clear e1 hq hown hlen hd HP
      go_wp2_with (go_at_call 27; refine (left_any _ _ _ _ R).mono ?_; rintro x w5 ⟨rfl, rfl⟩)
      go_ret2
      refine HF.out _ _ ?_ bel
      rw [HQ.out]
      exact HO.out
    | cons p qs =>
      have hp : mayP p.1 p.2 = true := HM.out p (by rw [HP.out]; simp)
      have hq : ∀ q, q ∈ p :: qs → mayP q.1 q.2 = true := fun q hq => HM.out q (by rw [HP.out]; simp [hq])
      have hc := cat_size (p :: qs) hq
      have hpos := cat_pos p qs hp
      have hd16 : ds.length < 16 := by simp at hlen; omega
      obtain ⟨z1, z2, z3⟩ := put_take (R := cat qs) hp
      have hmx : (cat (p :: qs)).size ≤ maxLen := by unfold maxLen; simp at hlen hc; omega
      have hT := fun (W : World) (h : RD W w.heap.size (cat (p :: qs)) 0) => par.take_any w.heap.size (cat (p :: qs)) 0 W h hmx
      have ec : cat (p :: qs) = putP p.1 p.2 ++ cat qs := rfl
      rw [ec, z1, z2, z3] at hT
      rw [← ec] at hT
      have HL := Lib.hid hlen
      have HO := Lib.hid hown
      clear z1 z2 z3 ec hp hq hc hlen hown hmx
      generalize cat (p :: qs) = L at *
      go_upto_region 6 with (go_at_call 27; refine (left_any _ _ _ _ R).mono ?_; rintro x w5 ⟨rfl, rfl⟩)
      go_wp2_with fail
      refine (hT _ R).mono ?_
      rintro x w6 ⟨rfl, R6, t6⟩
      have bel6 := t6.below bel (Nat.le_refl _) bel.size
      have hsz6 : w.heap.size + 1 ≤ w6.heap.size := Nat.le_trans hsz t6.size
      have own6 := HO.out.kept (touch_grown t6) (by
        cases hv : v.ownBlock with
        | none => exact .inl rfl
        | some k => right; intro q; have := (HO.out.lt k hv).1; simp at q; omega)
      have R7 := Blk.alloc R6 (.cells #[.int .i64 p.1, .string p.2] 40)
      have own7 := own6.alloc (.cells #[.int .i64 p.1, .string p.2] 40)
      have N7 := Blk.new w6 40 #[.int .i64 p.1, .string p.2]
      have bel7 := bel6.alloc bel6.size (.cells #[.int .i64 p.1, .string p.2] 40)
      have hsz7 : w.heap.size + 1 ≤ (w6.alloc (.cells #[.int .i64 p.1, .string p.2] 40)).heap.size := by simp; omega
      clear own6 R6 t6 hT R bel6 hsz
      have HN7 := Lib.hid own7
      clear own7
      go_upto_region 10 with (go_at_call 30; refine (err_any _ _ _ _ R7).mono ?_; rintro x w8 ⟨rfl, rfl⟩)
      generalize w6.alloc (.cells #[.int .i64 p.1, .string p.2] 40) = w7 at *
      have C7 := fun i => N7.cell i
      have hneA : some w.heap.size ≠ v.ownBlock := fun q => by have := (HN7.out.lt _ q.symm).1; omega
      have HNE := Lib.hid hneA
      have h63 : ds.length + 1 ≤ maxLen := by unfold maxLen; omega
      clear hneA
      go_wp2_with (at_builtin; refine wpList_append_own _ rfl _ _ 23 rfl (w.heap.size + 1) 40 i0 (.agg #[.int .i64 0, .string ByteArray.empty]) 2 24 Try.underlying23 hi hz0 hz1 hz2 rfl (by decide) v ds.length (cellsP ds) rfl (HN7.out.alloc _) ⟨w7.heap.size, 0, none⟩ 1 1 [.int .i64 p.1, .string p.2] rfl rfl (cell_two_new _ _ _ _) (by intro u hu; simp at hu; rcases hu with rfl | rfl <;> rfl) h63 (by omega) (by simp; omega) ?_; intro v' w8 hown8 hgrow hnil)
      have bel8 := (bel7.alloc bel7.size (.cells #[.int .i64 p.1, .string p.2] 40)).grown hgrow (by simp; have := bel7.size; omega) (fun k hk => by have := (HN7.out.lt k hk).1; omega)
      have hsz8 : w.heap.size + 1 ≤ w8.heap.size := by have := hgrow.size; simp at this; omega
      have R8 : RD w8 w.heap.size (cat qs) 0 := (hgrow.block w.heap.size (by simp; omega) HNE.out).trans (Blk.alloc R7 _)
      have hlen9 : (ds ++ [p]).length = ds.length + 1 := by simp
      have own9 : w8.ownsRow (w.heap.size + 1) 40 2 v' (ds ++ [p]).length (cellsP (ds ++ [p])) := by rw [hlen9, cellsP_snoc]; exact hown8
      have hps9 : ps = (ds ++ [p]) ++ qs := by rw [HP.out]; simp
      have HO9 := Lib.hid own9
      have HP9 := Lib.hid hps9
      have HL9 := Lib.hid hlen9
      clear own9 hps9 hlen9 hown8 hgrow hnil
      go_wp2_with fail
      go_roundw
      case rel => exact ⟨ds ++ [p], qs, v', HP9.out, by rw [HL9.out]; go_num, rfl, HO9.out, R8, bel8, hsz8⟩
      case measure => have := HL.out; simp at this; simp [intOf]; omega
end Go.Proofs.Ytfpcneekbdcbcaa.par
/- Layer 4: the bytes of parameters one behind the other; a row of them anywhere. -/
namespace Go.Proofs.Ytfpcneekbdcbcaa.par
open Go.ChangeShapes Go.WideShapes Go.ChangeAt Go.RowKit kit oct bld
set_option maxRecDepth 100000

theorem add_blk (a : Addr) (k : Nat) : (a.add k).block = a.block := by unfold Addr.add; split <;> rfl
theorem add_zero' (g k : Nat) : (⟨g, 0, none⟩ : Addr).add k = ⟨g, k, none⟩ := by unfold Addr.add; split <;> simp_all
/-- A row of parameters (or causes) anywhere in memory. -/
def RowL (w : World) (a : Addr) (ps : List (Int × ByteArray)) : Prop :=
  (0 < ps.length → a.block < w.heap.size) ∧ ∀ ds p qs, ps = ds ++ p :: qs → w.cell? (a.add (ds.length * 2)) = some (.int .i64 p.1) ∧ w.cell? { block := (a.add (ds.length * 2)).block, off := (a.add (ds.length * 2)).off + 1 } = some (.string p.2)
theorem RowL.below {w w' : World} {a : Addr} {ps : List (Int × ByteArray)} {B : Nat} (h : RowL w a ps) (hb : Below B w w') (hB : 0 < ps.length → a.block < B) : RowL w' a ps := by
  refine ⟨fun h0 => Nat.lt_of_lt_of_le (h.1 h0) hb.size, fun ds p qs hp => ?_⟩
  obtain ⟨h1, h2⟩ := h.2 ds p qs hp
  have hlt := hB (by rw [hp]; simp; omega)
  exact ⟨(hb.cell (p := a.add (ds.length * 2)) (by rw [add_blk]; exact hlt)).trans h1, (hb.cell (p := { block := (a.add (ds.length * 2)).block, off := (a.add (ds.length * 2)).off + 1 }) (by show (a.add (ds.length * 2)).block < B; rw [add_blk]; exact hlt)).trans h2⟩
theorem cellsP_append (l m : List (Int × ByteArray)) : cellsP (l ++ m) = cellsP l ++ cellsP m := by
  induction l with
  | nil => rfl
  | cons q r ih => simp [cellsP, ih]
theorem cellsP_at (ds qs : List (Int × ByteArray)) (p : Int × ByteArray) : (cellsP (ds ++ p :: qs))[ds.length * 2]? = some (.int .i64 p.1) ∧ (cellsP (ds ++ p :: qs))[ds.length * 2 + 1]? = some (.string p.2) := by
  rw [cellsP_append]
  have := cellsP_length ds
  exact ⟨by rw [List.getElem?_append_right (by omega), this, Nat.sub_self]; rfl, by rw [List.getElem?_append_right (by omega), this, show ds.length * 2 + 1 - ds.length * 2 = 1 by omega]; rfl⟩
/-- An owned row is one. -/
theorem own_rowL {w : World} {B e : Nat} {v : Value} {ps : List (Int × ByteArray)} (h : w.ownsRow B e 2 v ps.length (cellsP ps)) : (v = .slice none 0 0 ∧ ps = []) ∨ ∃ g cap, v = .slice (some ⟨g, 0, none⟩) ps.length cap ∧ B ≤ g ∧ g < w.heap.size ∧ ps.length ≤ cap ∧ cap ≤ maxLen ∧ RowL w ⟨g, 0, none⟩ ps := by
  have h' := h
  rcases h'.2 with ⟨rfl, h0⟩ | ⟨g, cap, cur, rfl, hbg, hg, hc1, hc2, _⟩
  · exact .inl ⟨rfl, List.length_eq_zero_iff.1 h0⟩
  · have hlt : g < w.heap.size := by
      rcases Nat.lt_or_ge g w.heap.size with q | q
      · exact q
      · rw [Array.getElem?_eq_none q] at hg; cases hg
    refine .inr ⟨g, cap, rfl, hbg, hlt, hc1, hc2, fun _ => hlt, fun ds p qs hp => ?_⟩
    have hl : ps.length = ds.length + 1 + qs.length := by rw [hp]; simp; omega
    obtain ⟨e1, e2⟩ := cellsP_at ds qs p
    rw [← hp] at e1 e2
    have k1 := h.cellAt (ds.length * 2) (by omega)
    have k2 := h.cellAt (ds.length * 2 + 1) (by omega)
    rw [e1] at k1
    rw [e2] at k2
    rw [add_zero']
    exact ⟨k1, k2⟩
theorem putP_le (t : Int) (v : ByteArray) : (putP t v).size ≤ 1008 := by
  cases h : mayP t v with
  | false => unfold putP; rw [if_neg (by rw [h]; simp)]; simp
  | true => have := putP_size h; have := may_of h; omega
theorem cat_le (l : List (Int × ByteArray)) : (cat l).size ≤ l.length * 1008 := by
  induction l with
  | nil => simp [cat]
  | cons p r ih =>
    have := putP_le p.1 p.2
    simp only [cat, ByteArray.size_append, List.length_cons]
    omega
theorem cat_snoc (l : List (Int × ByteArray)) (p : Int × ByteArray) : cat (l ++ [p]) = cat l ++ putP p.1 p.2 := by
  induction l with
  | nil => simp [cat]
  | cons q r ih => simp only [List.cons_append, cat, ih, ByteArray.append_assoc]
theorem strCells_append (s t : ByteArray) : Lib.strCells (s ++ t) = Lib.strCells s ++ Lib.strCells t := by
  unfold Lib.strCells
  rw [← List.map_append]
  simp
theorem below_grown {w w' : World} (h : Below w.heap.size w w') : w.grownBy w' none := ⟨h.os, h.tape, h.output, h.size, fun k hk _ => h.block k hk⟩
theorem BAt_below {p : Value} {B b : Nat} {bs : List Value} {w w' : World} (h : Lib.BuilderAt 82 5 B b p bs w) (hb : Below w.heap.size w w') : Lib.BuilderAt 82 5 B b p bs w' := by
  obtain ⟨h1, v, hk, hown, hne⟩ := h
  have K : Blk w b 82 #[p, v] := hk
  exact ⟨h1, v, K.below hb K.lt, hown.kept (below_grown hb) (by cases v.ownBlock <;> simp), hne⟩
theorem IsB_below {B b : Nat} {bs : List Value} {w w' : World} (h : IsB B b bs w) (hb : Below w.heap.size w w') : IsB B b bs w' := h.imp (fun h => BAt_below h hb) (fun h => BAt_below h hb)
theorem IsB_string (B b : Nat) (s : ByteArray) (w : World) (h : IsB B b (Lib.strCells s) w) (hB : B ≤ w.heap.size) :
    Calls Try.prog 61 #[.pointer (some ⟨b, 0, none⟩)] w fun e w' => e = .returned (.string s) ∧ Below B w w' := by
  have := Try.Builder_String_any B b s.data.toList w h hB
  simpa using this
theorem put_call (p : Int × ByteArray) (w : World) : Calls Try.prog 35 #[.agg #[.int .i64 p.1, .string p.2]] w fun e w' => e = .returned (.string (putP p.1 p.2)) ∧ Below w.heap.size w w' := put_any p.1 p.2 w

set_option maxHeartbeats 1000000 in
theorem putAll_row (a : Addr) (cap : Nat) (ps : List (Int × ByteArray)) (w : World) (hn : ps.length ≤ 16) (hc : ps.length ≤ cap) (hcm : cap ≤ maxLen) (hr : RowL w a ps) :
    Calls Try.prog 33 #[.slice (some a) ps.length cap] w fun e w' => e = .returned (.string (cat ps)) ∧ Below w.heap.size w w' := by
  unfold maxLen at hcm
  go_enter Try.func33, Try.ntmps33
  go_wp2_with fail
  go_loopw [8] (fun si wr => ∃ (ds qs : List (Int × ByteArray)), ps = ds ++ qs ∧ si = .int .i64 (ds.length : Nat) ∧ IsB w.heap.size w.heap.size (Lib.strCells (cat ds)) wr ∧ Below w.heap.size w wr) (fun si _ => ps.length - (intOf si).toNat)
  case atStart => exact ⟨[], ps, rfl, rfl, Lib.fresh_isBuilder _ _ w, (Below.refl _ _).alloc (Nat.le_refl _) _⟩
  case round =>
    obtain ⟨ds, qs, hps, rfl, hI, bel⟩ := hrel
    have hlen : ds.length + qs.length = ps.length := by rw [hps]; simp
    have HP := Lib.hid hps
    have HI := Lib.hid hI
    have HR := Lib.hid hr
    clear hps hI hr
    cases qs with
    | nil =>
      have hd : ds.length = ps.length := by simpa using hlen
      have hB : w.heap.size ≤ wr.heap.size := bel.size
      have hq := HP.out
      simp only [List.append_nil] at hq
      have hS := IsB_string w.heap.size w.heap.size (cat ds) wr HI.out hB
      rw [← hq] at hS
      clear HP HI HR hlen hq
      obtain ⟨S, hSe⟩ : ∃ S, S = cat ps := ⟨_, rfl⟩
      rw [← hSe] at hS
      have HE := Lib.hid hSe
      clear hSe
      generalize ps.length = n at *
      rw [hd]
      go_wp2_with (go_at_call 61; refine hS.mono ?_; rintro e w2 ⟨rfl, hb2⟩)
      go_ret
      exact ⟨congrArg (fun s => Ending.returned (.string s)) HE.out, bel.trans hb2⟩
    | cons p qs =>
      obtain ⟨c0, c1⟩ := (HR.out.below bel HR.out.1).2 ds p qs HP.out
      have hlt : ds.length < ps.length := by simp at hlen; omega
      have hB : w.heap.size ≤ wr.heap.size := bel.size
      have hsz : (Lib.strCells (cat ds)).length + (putP p.1 p.2).size ≤ 100000000 := by
        have := cat_le ds; have := putP_le p.1 p.2; rw [Lib.strCells_length]; omega
      have N1 := Blk.new wr 40 #[.int .i64 p.1, .string p.2]
      have C1 := fun i => N1.cell i
      have bel1 := bel.alloc hB (.cells #[.int .i64 p.1, .string p.2] 40)
      have I1 := IsB_below HI.out ((Below.refl _ _).alloc (Nat.le_refl _) (.cells #[.int .i64 p.1, .string p.2] 40))
      have hput := put_call p
      have hps : ps = (ds ++ [p]) ++ qs := by rw [HP.out]; simp
      have hlen1 : (ds ++ [p]).length = ds.length + 1 := by simp
      have HP1 := Lib.hid hps
      have HL1 := Lib.hid hlen1
      have HLen := Lib.hid hlen
      have HI1 := Lib.hid I1
      clear HI HP hps hlen1 I1 HR hlen
      have hsn := cat_snoc ds p
      have HSn := Lib.hid hsn
      clear hsn
      generalize putP p.1 p.2 = Z at *
      go_wp2_with fail
      generalize wr.alloc (.cells #[.int .i64 p.1, .string p.2] 40) = w1 at *
      refine (hput _).mono ?_
      rintro e w2 ⟨rfl, hb2⟩
      have bel2 := bel1.trans (hb2.mono bel1.size)
      have I2 := IsB_below HI1.out hb2
      clear HI1
      have hW := write_any w.heap.size w.heap.size _ Z w2 I2 hsz bel2.size
      clear I2
      go_wp2_with fail
      refine hW.mono ?_
      rintro e w3 ⟨rfl, hu, hb3⟩
      have bel3 := bel2.trans hb3
      have HU := Lib.hid hu
      clear hu hW
      go_wp2_with fail
      go_roundw
      case rel => exact ⟨ds ++ [p], qs, HP1.out, by rw [HL1.out]; go_num, .inr (by rw [HSn.out, strCells_append]; exact HU.out), bel3⟩
      case measure => have := HLen.out; simp at this; simp [intOf]; omega
end Go.Proofs.Ytfpcneekbdcbcaa.par
/- Layer 4: the first one of a type is found. -/
namespace Go.Proofs.Ytfpcneekbdcbcaa.par
open Go.ChangeShapes Go.WideShapes Go.ChangeAt Go.RowKit kit oct
set_option maxRecDepth 100000

/-- The first place of a number among n, n if there is none. -/
def IsFst (T : Nat → Int) (t : Int) (n j : Nat) : Prop := j ≤ n ∧ (∀ i, i < j → T i ≠ t) ∧ (j < n → T j = t)
theorem fst_ex (T : Nat → Int) (t : Int) (n : Nat) : ∃ j, IsFst T t n j := by
  induction n with
  | zero => exact ⟨0, by omega, fun i h => by omega, fun h => by omega⟩
  | succ n ih =>
    obtain ⟨j, h1, h2, h3⟩ := ih
    by_cases hj : j < n
    · exact ⟨j, by omega, h2, fun _ => h3 hj⟩
    · obtain rfl : j = n := by omega
      by_cases hT : T j = t
      · exact ⟨j, by omega, h2, fun _ => hT⟩
      · refine ⟨j + 1, by omega, fun i hi => ?_, fun h => by omega⟩
        by_cases e : i = j
        · rw [e]; exact hT
        · exact h2 i (by omega)

/-- A row of structs of a number and a string. -/
def Row2 (w : World) (a : Addr) (n : Nat) (T : Nat → Int) (S : Nat → ByteArray) : Prop :=
  (0 < n → a.block < w.heap.size) ∧ ∀ i, i < n → w.cell? (a.add (i * 2)) = some (.int .i64 (T i)) ∧ w.cell? { block := (a.add (i * 2)).block, off := (a.add (i * 2)).off + 1 } = some (.string (S i))
theorem add_block (a : Addr) (k : Nat) : (a.add k).block = a.block := by unfold Addr.add; split <;> rfl
theorem Row2.below {w w' : World} {a : Addr} {n : Nat} {T : Nat → Int} {S : Nat → ByteArray} {B : Nat} (h : Row2 w a n T S) (hb : Below B w w') (hB : 0 < n → a.block < B) : Row2 w' a n T S := by
  refine ⟨fun h0 => Nat.lt_of_lt_of_le (h.1 h0) hb.size, fun i hi => ?_⟩
  obtain ⟨h1, h2⟩ := h.2 i hi
  have hlt := hB (by omega)
  exact ⟨(hb.cell (p := a.add (i * 2)) (by rw [add_block]; exact hlt)).trans h1, (hb.cell (p := { block := (a.add (i * 2)).block, off := (a.add (i * 2)).off + 1 }) (by show (a.add (i * 2)).block < B; rw [add_block]; exact hlt)).trans h2⟩

/-- The place that is found from behind. -/
def AtI (T : Nat → Int) (t : Int) (m n : Nat) (x : Int) : Prop := (x = -1 ∧ ∀ q, m ≤ q → q < n → T q ≠ t) ∨ (∃ q : Nat, x = q ∧ m ≤ q ∧ q < n ∧ T q = t ∧ ∀ p, m ≤ p → p < q → T p ≠ t)
theorem AtI.end_ {T : Nat → Int} {t : Int} {n j : Nat} {x : Int} (h : AtI T t 0 n x) (hj : IsFst T t n j) : x = if j < n then (j : Int) else -1 := by
  obtain ⟨j1, j2, j3⟩ := hj
  rcases h with ⟨rfl, h⟩ | ⟨q, rfl, _, hq, hT, hp⟩
  · rw [if_neg]
    intro hjn
    exact h j (by omega) hjn (j3 hjn)
  · have h1 : ¬ q < j := fun k => j2 q k hT
    have h2 : ¬ j < q := fun k => hp j (by omega) k (j3 (by omega))
    obtain rfl : q = j := by omega
    rw [if_pos hq]
theorem AtI.hit {T : Nat → Int} {t : Int} {m n : Nat} (hm : m < n) (hT : T m = t) : AtI T t m n (m : Int) :=
  .inr ⟨m, rfl, Nat.le_refl _, hm, hT, fun p h1 h2 => by omega⟩
theorem AtI.miss {T : Nat → Int} {t : Int} {m n : Nat} {x : Int} (h : AtI T t (m + 1) n x) (hT : T m ≠ t) : AtI T t m n x := by
  rcases h with ⟨e, h⟩ | ⟨q, e, h1, hq, h2, hp⟩
  · refine .inl ⟨e, fun q a b => ?_⟩
    by_cases k : q = m
    · rw [k]; exact hT
    · exact h q (by omega) b
  · refine .inr ⟨q, e, by omega, hq, h2, fun p a b => ?_⟩
    by_cases k : p = m
    · rw [k]; exact hT
    · exact hp p (by omega) b

end Go.Proofs.Ytfpcneekbdcbcaa.par
/- Layer 5: causes that are made by themselves, and the first one of a number. -/
namespace Go.Proofs.Ytfpcneekbdcbcaa.par
open Go.ChangeShapes Go.WideShapes Go.ChangeAt Go.RowKit kit oct
set_option maxRecDepth 100000

theorem asParam_any (t : Int) (s : ByteArray) (w : World) : Calls Try.prog 63 #[.agg #[.int .i64 t, .string s]] w fun e w' => e = .returned (.agg #[.int .i64 t, .string s]) ∧ Below w.heap.size w w' := by
  go_enter Try.func63, Try.ntmps63
  go_wp2
  exact bodyPost_ret (v := .agg #[.int .i64 t, .string s]) (by simp [results, Try.results63, go_sem] <;> rfl) rfl ⟨rfl, by repeat (first | exact Below.refl _ _ | (refine Below.alloc ?_ (by simp; try omega) _) | (refine Below.setCell ?_ (by simp) _) | (refine Below.drew ?_))⟩
theorem u32_mask16 (x : Nat) (hx : x ≤ 4294967295) : bits .and .u32 (x : Int) 65535 = (x : Int) % 65536 := by
  have h := u32_and_nat x 65535 (by omega) (by omega)
  have e : x &&& 65535 = x % 65536 := Nat.and_two_pow_sub_one_eq_mod x 16
  rw [e] at h
  rw [show (65535 : Int) = ((65535 : Nat) : Int) from rfl, h]
  omega

theorem low2 (n : Int) (h0 : 0 ≤ n) : filled (p2 (n % 65536)) = (p4 n).extract 2 4 ++ ⟨#[0, 0]⟩ := by
  have e2 : p2 (n % 65536) = strOfNums [n / 256 % 256, n % 256] := by
    unfold p2 be be be
    congr 1
    simp only [List.nil_append, List.cons_append, List.cons.injEq, and_true]
    omega
  have e4 : p4 n = strOfNums [n / 16777216 % 256, n / 65536 % 256, n / 256 % 256, n % 256] := by
    unfold p4 be be be be be
    congr 1
    simp only [List.nil_append, List.cons_append, List.cons.injEq, and_true]
    omega
  have z : zeros 2 = ⟨#[0, 0]⟩ := by decide +kernel
  unfold filled
  rw [p2_size]
  have : (-((2 : Nat) : Int) % 4).toNat = 2 := by decide
  rw [this, z, e2, e4]
  congr 1

end Go.Proofs.Ytfpcneekbdcbcaa.par
/- Layer 5: causes one behind the other, to bytes and back. -/
namespace Go.Proofs.Ytfpcneekbdcbcaa.par
open Go.ChangeShapes Go.WideShapes Go.ChangeAt Go.RowKit kit oct bld
set_option maxRecDepth 100000

theorem putAll_nil (w : World) :
    Calls Try.prog 33 #[.slice none 0 0] w fun e w' => e = .returned (.string (cat [])) ∧ Below w.heap.size w w' := by
  have hS := IsB_string w.heap.size w.heap.size ByteArray.empty _ (Lib.fresh_isBuilder 82 5 w) (by simp)
  have e0 : cat [] = ByteArray.empty := rfl
  rw [e0]
  go_enter Try.func33, Try.ntmps33
  go_wp2_with fail
  refine wp_loop_rounds 1 ?_
  rw [rounds_succ]
  go_wp2_with (go_at_call 61; refine hS.mono ?_; rintro e w2 ⟨rfl, hb2⟩)
  go_ret
  exact ⟨rfl, ((Below.refl _ _).alloc (Nat.le_refl _) _).trans hb2⟩
theorem putAll_own (B : Nat) (v : Value) (ps : List (Int × ByteArray)) (w : World) (hn : ps.length ≤ 16) (h : w.ownsRow B 40 2 v ps.length (cellsP ps)) :
    Calls Try.prog 33 #[v] w fun e w' => e = .returned (.string (cat ps)) ∧ Below w.heap.size w w' := by
  rcases own_rowL h with ⟨rfl, rfl⟩ | ⟨g, cap, rfl, _, _, h3, h4, h5⟩
  · exact putAll_nil w
  · exact putAll_row _ cap ps w hn h3 h4 h5

theorem info59 : (Try.prog.info? 42).map (fun i => (i.zero, i.size, i.bytes)) = some (some (.agg #[.int .i64 0, .string ByteArray.empty]), 2, 24) := by kernel_rfl
theorem asP_call (p : Int × ByteArray) (w : World) : Calls Try.prog 63 #[.agg #[.int .i64 p.1, .string p.2]] w fun e w' => e = .returned (.agg #[.int .i64 p.1, .string p.2]) ∧ Below w.heap.size w w' := asParam_any p.1 p.2 w

set_option maxHeartbeats 2000000 in
theorem cputAll_row (a : Addr) (cap : Nat) (ps : List (Int × ByteArray)) (w : World) (hn : ps.length ≤ 16) (hc : ps.length ≤ cap) (hcm : cap ≤ maxLen) (hr : RowL w a ps) :
    Calls Try.prog 36 #[.slice (some a) ps.length cap] w fun e w' => e = .returned (.string (cat ps)) ∧ Below w.heap.size w w' := by
  unfold maxLen at hcm
  obtain ⟨i0, hi, hz0, hz1, hz2⟩ := info_parts info23
  have HR := Lib.hid hr
  clear hr
  go_enter Try.func36, Try.ntmps36
  go_wp2_with fail
  go_loopw [3, 8] (fun sl si wr => ∃ (ds qs : List (Int × ByteArray)) (v : Value), ps = ds ++ qs ∧ si = .int .i64 (ds.length : Nat) ∧ v = sl ∧ wr.ownsRow w.heap.size 40 2 v ds.length (cellsP ds) ∧ Below w.heap.size w wr) (fun _ si _ => ps.length - (intOf si).toNat)
  case atStart => exact ⟨[], ps, _, rfl, rfl, rfl, World.ownsRow_nil _ _ _ _, Below.refl _ _⟩
  case round =>
    obtain ⟨ds, qs, v, hps, rfl, rfl, hown, bel⟩ := hrel
    have hlen : ds.length + qs.length = ps.length := by rw [hps]; simp
    have HP := Lib.hid hps
    have HO := Lib.hid hown
    clear hps hown
    cases qs with
    | nil =>
      have hd : ds.length = ps.length := by simpa using hlen
      have hq := HP.out
      simp only [List.append_nil] at hq
      have hO := HO.out
      rw [← hq] at hO
      have hS := putAll_own w.heap.size v ps wr hn hO
      obtain ⟨S, hSe⟩ : ∃ S, S = cat ps := ⟨_, rfl⟩
      rw [← hSe] at hS
      have HE := Lib.hid hSe
      clear HP HO HR hlen hq hO hSe
      generalize ps.length = n at *
      rw [hd]
      go_wp2_with (go_at_call 33; refine hS.mono ?_; rintro e w2 ⟨rfl, hb2⟩)
      go_ret
      exact ⟨congrArg (fun s => Ending.returned (.string s)) HE.out, bel.trans (hb2.mono bel.size)⟩
    | cons p qs =>
      obtain ⟨c0, c1⟩ := (HR.out.below bel HR.out.1).2 ds p qs HP.out
      have hlt : ds.length < ps.length := by simp at hlen; omega
      have hB : w.heap.size ≤ wr.heap.size := bel.size
      have N1 := Blk.new wr 42 #[.int .i64 p.1, .string p.2]
      have C1 := fun i => N1.cell i
      have bel1 := bel.alloc hB (.cells #[.int .i64 p.1, .string p.2] 42)
      have own1 := HO.out.alloc (.cells #[.int .i64 p.1, .string p.2] 42)
      have hps : ps = (ds ++ [p]) ++ qs := by rw [HP.out]; simp
      have hlen1 : (ds ++ [p]).length = ds.length + 1 := by simp
      have HP1 := Lib.hid hps
      have HL1 := Lib.hid hlen1
      have HLen := Lib.hid hlen
      have HO1 := Lib.hid own1
      have hAs := asP_call p
      clear HO HP hps hlen1 own1 hlen
      go_wp2_with fail
      generalize wr.alloc (.cells #[.int .i64 p.1, .string p.2] 42) = w1 at *
      refine (hAs _).mono ?_
      rintro e w2 ⟨rfl, hb2⟩
      have bel2 := bel1.trans (hb2.mono bel1.size)
      have own2 := HO1.out.kept (below_grown hb2) (by cases v.ownBlock <;> simp)
      have h63 : ds.length + 1 ≤ maxLen := by unfold maxLen; omega
      clear HO1 N1 C1 hAs
      go_wp2_with (at_builtin; refine wpList_append_own _ rfl _ _ 23 rfl w.heap.size 40 i0 (.agg #[.int .i64 0, .string ByteArray.empty]) 2 24 Try.underlying23 hi hz0 hz1 hz2 rfl (by decide) v ds.length (cellsP ds) rfl (own2.alloc _) ⟨w2.heap.size, 0, none⟩ 1 1 [.int .i64 p.1, .string p.2] rfl rfl (cell_two_new _ _ _ _) (by intro u hu; simp at hu; rcases hu with rfl | rfl <;> rfl) h63 (by omega) (by simp; have := bel2.size; omega) ?_; intro v' w8 hown8 hgrow hnil)
      have bel8 := (bel2.alloc bel2.size (.cells #[.int .i64 p.1, .string p.2] 40)).grown hgrow (by simp; have := bel2.size; omega) (fun k hk => (own2.lt k hk).1)
      have own9 : w8.ownsRow w.heap.size 40 2 v' (ds ++ [p]).length (cellsP (ds ++ [p])) := by rw [HL1.out, cellsP_snoc]; exact hown8
      have HO9 := Lib.hid own9
      clear own9 hown8 hgrow hnil own2
      go_wp2_with fail
      go_roundw
      case rel => exact ⟨ds ++ [p], qs, v', HP1.out, by rw [HL1.out]; go_num, rfl, HO9.out, bel8⟩
      case measure => have := HLen.out; simp at this; simp [intOf]; omega
end Go.Proofs.Ytfpcneekbdcbcaa.par
/- Layer 5: causes one behind the other are read again. -/
namespace Go.Proofs.Ytfpcneekbdcbcaa.par
open Go.ChangeShapes Go.WideShapes Go.ChangeAt Go.RowKit kit oct bld
set_option maxRecDepth 100000

theorem own_mono {w : World} {B B' e : Nat} {v : Value} {n : Nat} {xs : List Value} (h : w.ownsRow B e 2 v n xs) (hB : B' ≤ B) : w.ownsRow B' e 2 v n xs := by
  refine ⟨h.1, ?_⟩
  rcases h.2 with h2 | ⟨g, cap, cur, rfl, hb, rest⟩
  · exact .inl h2
  · exact .inr ⟨g, cap, cur, rfl, Nat.le_trans hB hb, rest⟩

/-- What cause.All comes to. -/
def CAllPost (w : World) (ps : List (Int × ByteArray)) (e : Ending) (w' : World) : Prop :=
  ∃ v, e = .returned (.tuple #[v, .int .i64 0]) ∧ w'.ownsRow w.heap.size 42 2 v ps.length (cellsP ps) ∧ Below w.heap.size w w'

set_option maxHeartbeats 2000000 in
theorem call_list (ps : List (Int × ByteArray)) (w : World) (hk : ps.length ≤ 16) (hm : ∀ p, p ∈ ps → mayP p.1 p.2 = true) :
    Calls Try.prog 77 #[.string (cat ps)] w (CAllPost w ps) := by
  obtain ⟨i0, hi, hz0, hz1, hz2⟩ := info_parts info59
  have hfin : ∀ v w', w'.ownsRow w.heap.size 42 2 v ps.length (cellsP ps) → Below w.heap.size w w' → CAllPost w ps (.returned (.tuple #[v, .int .i64 0])) w' := fun v w' h1 h2 => ⟨v, rfl, h1, h2⟩
  have hA := fun w => all_list ps w hk hm
  have HF := Lib.hid hfin
  clear hm hfin
  generalize cat ps = S at *
  go_enter Try.func77, Try.ntmps77
  go_wp2_with fail
  refine (hA _).mono ?_
  rintro e w1 ⟨v, rfl, hown, hb1⟩
  rcases own_rowL hown with ⟨rfl, rfl⟩ | ⟨g, cap, rfl, hg1, hg2, hc, hcm, hr⟩
  · clear hA hown
    go_wp2_with fail
    refine wp_loop_rounds 1 ?_
    rw [rounds_succ]
    go_wp2_with fail
    go_ret2
    exact HF.out _ _ (World.ownsRow_nil _ _ _ _) hb1
  · unfold maxLen at hcm
    have HR := Lib.hid hr
    clear hA hown hr
    go_wp2_with fail
    go_loopw [6, 16] (fun sl si wr => ∃ (ds qs : List (Int × ByteArray)) (v : Value), ps = ds ++ qs ∧ si = .int .i64 (ds.length : Nat) ∧ v = sl ∧ wr.ownsRow w1.heap.size 42 2 v ds.length (cellsP ds) ∧ Below w1.heap.size w1 wr) (fun _ si _ => ps.length - (intOf si).toNat)
    case atStart => exact ⟨[], ps, _, rfl, rfl, rfl, World.ownsRow_nil _ _ _ _, Below.refl _ _⟩
    case round =>
      obtain ⟨ds, qs, v, hps, rfl, rfl, hown, bel⟩ := hrel
      have hlen : ds.length + qs.length = ps.length := by rw [hps]; simp
      have HP := Lib.hid hps
      have HO := Lib.hid hown
      clear hps hown
      cases qs with
      | nil =>
        have hd : ds.length = ps.length := by simpa using hlen
        have hq := HP.out
        simp only [List.append_nil] at hq
        have hO := HO.out
        rw [← hq] at hO
        have HO2 := Lib.hid hO
        clear HP HO HR hlen hq hO
        generalize ps.length = n at *
        rw [hd]
        go_wp2_with fail
        go_ret2
        exact HF.out _ _ (own_mono HO2.out hb1.size) (hb1.trans (bel.mono hb1.size))
      | cons p qs =>
        obtain ⟨c0, c1⟩ := (HR.out.below bel (fun _ => hg2)).2 ds p qs HP.out
        rw [add_zero'] at c0 c1
        dsimp only at c1
        have hlt : ds.length < ps.length := by simp at hlen; omega
        have hB : w1.heap.size ≤ wr.heap.size := bel.size
        have N1 := Blk.new wr 40 #[.int .i64 p.1, .string p.2]
        have C1 := fun i => N1.cell i
        have bel1 := bel.alloc hB (.cells #[.int .i64 p.1, .string p.2] 40)
        have own1 := HO.out.alloc (.cells #[.int .i64 p.1, .string p.2] 40)
        have hps : ps = (ds ++ [p]) ++ qs := by rw [HP.out]; simp
        have hlen1 : (ds ++ [p]).length = ds.length + 1 := by simp
        have HP1 := Lib.hid hps
        have HL1 := Lib.hid hlen1
        have HLen := Lib.hid hlen
        have HO1 := Lib.hid own1
        have h63 : ds.length + 1 ≤ maxLen := by unfold maxLen; omega
        clear HO HP hps hlen1 own1 hlen
        go_upto_region 6 with fail
        generalize wr.alloc (.cells #[.int .i64 p.1, .string p.2] 40) = w2 at *
        have own2 := HO1.out
        go_wp2_with (at_builtin; refine wpList_append_own _ rfl _ _ 24 rfl w1.heap.size 42 i0 (.agg #[.int .i64 0, .string ByteArray.empty]) 2 24 Try.underlying24 hi hz0 hz1 hz2 rfl (by decide) v ds.length (cellsP ds) rfl (own2.alloc _) ⟨w2.heap.size, 0, none⟩ 1 1 [.int .i64 p.1, .string p.2] rfl rfl (cell_two_new _ _ _ _) (by intro u hu; simp at hu; rcases hu with rfl | rfl <;> rfl) h63 (by omega) (by simp; have := bel1.size; omega) ?_; intro v' w8 hown8 hgrow hnil)
        have bel8 := (bel1.alloc bel1.size (.cells #[.int .i64 p.1, .string p.2] 42)).grown hgrow (by simp; have := bel1.size; omega) (fun k hk => (own2.lt k hk).1)
        have own9 : w8.ownsRow w1.heap.size 42 2 v' (ds ++ [p]).length (cellsP (ds ++ [p])) := by rw [HL1.out, cellsP_snoc]; exact hown8
        have HO9 := Lib.hid own9
        clear own9 hown8 hgrow hnil own2 HO1
        go_wp2_with fail
        go_roundw
        case rel => exact ⟨ds ++ [p], qs, v', HP1.out, by rw [HL1.out]; go_num, rfl, HO9.out, bel8⟩
        case measure => have := HLen.out; simp at this; simp [intOf]; omega

end Go.Proofs.Ytfpcneekbdcbcaa.par
/- Layer 4: a parameter has the document's bytes, and is read again; one that may not be has none. -/
namespace Go.Proofs.Ytfpcneekbdcbcaa.par
open Go.ChangeShapes Go.WideShapes Go.ChangeAt Go.RowKit kit oct
set_option maxRecDepth 100000

theorem rmay_any (t : Int) (s : ByteArray) (w : World) : Calls Try.prog 45 #[.agg #[.int .i64 t, .string s]] w fun e w' => e = .returned (.bool (mayP t s)) ∧ Below w.heap.size w w' := by
  rcases (by omega : t < 0 ∨ 65535 < t ∨ (0 ≤ t ∧ t ≤ 65535)) with h | h | ⟨h1, h2⟩
  · rw [mayP_no (by omega)]
    go_enter Try.func45, Try.ntmps45
    go_wp2
    go_ret
    exact ⟨rfl, (Below.refl _ _).alloc (Nat.le_refl _) _⟩
  · rw [mayP_no (by omega)]
    go_enter Try.func45, Try.ntmps45
    go_wp2
    go_ret
    exact ⟨rfl, (Below.refl _ _).alloc (Nat.le_refl _) _⟩
  · by_cases h3 : s.size ≤ 1000
    · rw [mayP_yes h1 h2 h3]
      go_enter Try.func45, Try.ntmps45
      go_wp2
      go_ret
      exact ⟨ret_bool (by simp; omega), (Below.refl _ _).alloc (Nat.le_refl _) _⟩
    · rw [mayP_no (by omega)]
      go_enter Try.func45, Try.ntmps45
      go_wp2
      go_ret
      exact ⟨ret_bool (by simp; omega), (Below.refl _ _).alloc (Nat.le_refl _) _⟩

theorem rput_any (t : Int) (s : ByteArray) (w : World) : Calls Try.prog 48 #[.agg #[.int .i64 t, .string s]] w fun e w' => e = .returned (.string (putP t s)) ∧ Below w.heap.size w w' := by
  unfold putP
  have hc := fun w => rmay_any t s w
  cases hm : mayP t s with
  | false =>
    rw [if_neg (by simp)]
    rw [hm] at hc
    clear hm
    go_enter Try.func48, Try.ntmps48
    go_wp2_with (go_at_call 45; refine (hc _).mono ?_; rintro e w1 ⟨rfl, hb⟩)
    go_ret
    exact ⟨rfl, ((Below.refl _ _).alloc (Nat.le_refl _) _).trans (hb.mono (by simp))⟩
  | true =>
    rw [if_pos rfl]
    rw [hm] at hc
    obtain ⟨h1, h2, h3⟩ := may_of hm
    clear hm
    have u1 : ∀ w, Calls Try.prog 49 #[.int .u64 t, .int .i64 2] w fun e w' => e = .returned (.string (p2 t)) ∧ Below w.heap.size w w' := fun w => put_at 2 t 2 w rfl (by omega) h1 (by omega)
    have u2 : ∀ w, Calls Try.prog 49 #[.int .u64 ((s.size : Int) + 4), .int .i64 2] w fun e w' => e = .returned (.string (p2 ((s.size : Int) + 4))) ∧ Below w.heap.size w w' := fun w => put_at 2 ((s.size : Int) + 4) 2 w rfl (by omega) (by omega) (by omega)
    have hs1 := p2_size t
    have hs2 := p2_size ((s.size : Int) + 4)
    have hw : IntKind.i64.wrap ((s.size : Int) + 4) = (s.size : Int) + 4 := IntWalk.i64_in _ (by omega)
    have hw2 : IntKind.u64.wrap ((s.size : Int) + 4) = (s.size : Int) + 4 := IntWalk.u64_in _ (by omega)
    have hw3 : IntKind.u64.wrap t = t := IntWalk.u64_in _ (by omega)
    have hf := fun w => rfilled (p2 t ++ p2 ((s.size : Int) + 4) ++ s) w (by simp; omega)
    have hf' : ∀ w, Calls Try.prog 19 #[.string (p2 t ++ p2 ((s.size : Int) + 4) ++ s)] w fun e w' => e = .returned (.string (filled (p2 t ++ p2 ((s.size : Int) + 4) ++ s))) ∧ Below w.heap.size w w' := fun w => (hf w).mono fun _ _ ⟨a, b⟩ => ⟨a, by rw [← b]; exact Below.refl _ _⟩
    have hs1' : (p2 t).size ≤ 2 := by omega
    have hs2' : (p2 ((s.size : Int) + 4)).size ≤ 2 := by omega
    clear hs1 hs2 hf
    go_enter Try.func48, Try.ntmps48
    go_wp2_with (go_at_call 45; refine (hc _).mono ?_; rintro e w1 ⟨rfl, hb⟩)
    have B1 := (Blk.new _ _ _).below hb (by simp)
    have bel1 : Below w.heap.size w w1 := ((Below.refl _ _).alloc (Nat.le_refl _) _).trans (hb.mono (by simp))
    have k0 := cell_regrown (B1.cell 0)
    have k1 := cell_regrown (B1.cell 1)
    clear hb
    refine wp_region_quiet_below (by kernel_rfl) (by kernel_rfl) ?_
    repeat (any_goals (first | go_big_quiet_step ((first | (go_at_call 49; first | (with_reducible exact Calls.regrown_of (u1 _)) | (with_reducible exact Calls.regrown_of (u2 _))) | (go_at_call 19; exact Calls.regrown_of (hf' _)))) | quiet_step ((first | (go_at_call 49; first | (with_reducible exact Calls.regrown_of (u1 _)) | (with_reducible exact Calls.regrown_of (u2 _))) | (go_at_call 19; exact Calls.regrown_of (hf' _))))))
    refine wpQuiet_nil ?_
    intro _ hw'
    obtain ⟨⟨dq, osq⟩, hw''⟩ := hw'
    subst hw''
    go_wp2
    go_ret
    exact ⟨rfl, bel1.trans ((below_regrown _ dq osq).mono bel1.size)⟩

end Go.Proofs.Ytfpcneekbdcbcaa.par
/- General words, over any program: a struct loaded in a region that only reads and makes memory. -/
namespace Go.Proofs.Ytfpcneekbdcbcaa.kit
/-- A struct loaded out of any place, in a region that only reads and makes memory, behind a guard that lets it. -/
theorem wpQuiet_load_at {P : Program} {ops : Array Oper} {C : World → Prop} {Q : Act → Prop} {a : Act} {o : Oper} {rest : List Oper} (hgd : Region.wanted o (yielded ops a.tmps) = true) (ty : TypeId) (x : Operand) (ho : o.op = .load ty x)
    (h off : Nat) (hx : a.eval x = .pointer (some ⟨h, off, none⟩)) (cs : Array Value) (d : TypeDesc) (hu : P.underlying ty = some d) (hd : (match d with | .struct _ | .array _ _ => true | _ => false) = true) (hi : (P.info? ty).map (·.size) = some cs.size)
    (hc : ∀ w, C w → Cel w h off cs) (k : wpQuiet P ops C Q rest (a.put o.dst (.agg cs))) : wpQuiet P ops C Q (o :: rest) a :=
  wpQuiet_step fun K hK => by
    rw [if_pos hgd]
    refine ⟨.agg cs, fun w hw => ?_, hK _ k⟩
    unfold Oper.quietAt execOp
    simp only [ho, hx, Instr.loadAt, Instr.sureAddr, Sem.run_bind, Sem.run_pure, Result.andThen_ok, run_loadVar_at ty d (hc w hw) hu hd hi]
    exact ⟨rfl, rfl⟩
end Go.Proofs.Ytfpcneekbdcbcaa.kit
/- Layer 6: chunks in memory, and which may be. -/
namespace Go.Proofs.Ytfpcneekbdcbcaa.ck
open Go.ChangeShapes Go.WideShapes Go.ChangeAt Go.RowKit kit oct par
set_option maxRecDepth 100000

theorem take_snoc {α : Type} {L : List α} {k : Nat} {x : α} (h : L[k]? = some x) : L.take (k + 1) = L.take k ++ [x] := by
  rw [List.take_add_one, h]; rfl
/-- A row that is read, wherever it lies. -/
structure Row (w : World) (B size : Nat) (v : Value) (n : Nat) (xs : List Value) : Prop where
  len : xs.length = n * size
  val : ∃ (oa : Option Addr) (a : Addr) (cap : Nat), v = .slice oa n cap ∧ n ≤ cap ∧ cap ≤ maxLen ∧ (0 < n → oa = some a ∧ a.block < B) ∧ ∀ i j, i < n → j < size → w.cell? ((a.add (i * size)).add j) = xs[i * size + j]?
theorem Row.below {w w' : World} {B size n : Nat} {v : Value} {xs : List Value} (h : Row w B size v n xs) (hb : Below B w w') : Row w' B size v n xs := by
  obtain ⟨oa, a, cap, h1, h2, h3, h4, h5⟩ := h.val
  refine ⟨h.len, oa, a, cap, h1, h2, h3, h4, fun i j hi hj => ?_⟩
  rw [← h5 i j hi hj]
  exact hb.cell (p := (a.add (i * size)).add j) (by rw [add_blk, add_blk]; exact (h4 (by omega)).2)
theorem Row.shape {w : World} {B size n : Nat} {v : Value} {xs : List Value} (h : Row w B size v n xs) : ∃ oa cap, v = .slice oa n cap ∧ n ≤ cap ∧ cap ≤ maxLen := by
  obtain ⟨oa, a, cap, h1, h2, h3, _⟩ := h.val
  exact ⟨oa, cap, h1, h2, h3⟩
/-- Gaps' cells. -/
def cellsG : List (Int × Int) → List Value
  | [] => []
  | g :: r => .int .i64 g.1 :: .int .i64 g.2 :: cellsG r
theorem cellsG_length (l : List (Int × Int)) : (cellsG l).length = l.length * 2 := by
  induction l with
  | nil => rfl
  | cons q r ih => simp [cellsG, ih]; omega
theorem cellsG_at {g : Int × Int} : ∀ {l : List (Int × Int)} {k : Nat}, l[k]? = some g → (cellsG l)[k * 2]? = some (.int .i64 g.1) ∧ (cellsG l)[k * 2 + 1]? = some (.int .i64 g.2)
  | [], _, h => by simp at h
  | q :: r, 0, h => by
    obtain rfl : q = g := by simpa using h
    exact ⟨rfl, rfl⟩
  | q :: r, k + 1, h => by
    have := cellsG_at (l := r) (k := k) (by simpa using h)
    rw [show (k + 1) * 2 = k * 2 + 1 + 1 by omega]
    exact this
theorem cellsP_get {p : Int × ByteArray} : ∀ {l : List (Int × ByteArray)} {k : Nat}, l[k]? = some p → (cellsP l)[k * 2]? = some (.int .i64 p.1) ∧ (cellsP l)[k * 2 + 1]? = some (.string p.2)
  | [], _, h => by simp at h
  | q :: r, 0, h => by
    obtain rfl : q = p := by simpa using h
    exact ⟨rfl, rfl⟩
  | q :: r, k + 1, h => by
    have := cellsP_get (l := r) (k := k) (by simpa using h)
    rw [show (k + 1) * 2 = k * 2 + 1 + 1 by omega]
    exact this
theorem add_z (a : Addr) (k : Nat) : (a.add k).add 0 = a.add k := by unfold Addr.add; split <;> simp_all
theorem add_o (a : Addr) (k : Nat) : (a.add k).add 1 = ⟨(a.add k).block, (a.add k).off + 1, none⟩ := by unfold Addr.add; split <;> simp_all
/-- A pair in a row. -/
theorem Row.two {w : World} {B n : Nat} {v : Value} {xs : List Value} (h : Row w B 2 v n xs) {i : Nat} (hi : i < n) {u0 u1 : Value} (h0 : xs[i * 2]? = some u0) (h1 : xs[i * 2 + 1]? = some u1) :
    ∃ a cap, v = .slice (some a) n cap ∧ a.block < B ∧ w.cell? (a.add (i * 2)) = some u0 ∧ w.cell? ⟨(a.add (i * 2)).block, (a.add (i * 2)).off + 1, none⟩ = some u1 := by
  obtain ⟨oa, a, cap, rfl, _, _, h4, h5⟩ := h.val
  obtain ⟨rfl, hb⟩ := h4 (by omega)
  refine ⟨a, cap, rfl, hb, ?_, ?_⟩
  · rw [← add_z, h5 i 0 hi (by decide), Nat.add_zero, h0]
  · rw [← add_o, h5 i 1 hi (by decide), h1]
theorem Row.one {w : World} {B n : Nat} {v : Value} {xs : List Value} (h : Row w B 1 v n xs) {i : Nat} (hi : i < n) {u0 : Value} (h0 : xs[i]? = some u0) :
    ∃ a cap, v = .slice (some a) n cap ∧ a.block < B ∧ w.cell? (a.add i) = some u0 := by
  obtain ⟨oa, a, cap, rfl, _, _, h4, h5⟩ := h.val
  obtain ⟨rfl, hb⟩ := h4 (by omega)
  refine ⟨a, cap, rfl, hb, ?_⟩
  have := h5 i 0 hi (by decide)
  rw [add_z, Nat.mul_one, Nat.add_zero, h0] at this
  exact this
/-- A chunk. -/
structure Ck where
  ty : Int
  fl : Int
  tsn : Int
  st : Int
  ss : Int
  pr : Int
  d : ByteArray
  tg : Int
  rw : Int
  ou : Int
  ii : Int
  P : List (Int × ByteArray)
  K : List (Int × ByteArray)
  G : List (Int × Int)
  D : List Int
def ckc (X : Ck) (vP vK vG vD : Value) : Array Value := #[.int .i64 X.ty, .int .i64 X.fl, .int .u32 X.tsn, .int .i64 X.st, .int .i64 X.ss, .int .u32 X.pr, .string X.d, .int .u32 X.tg, .int .u32 X.rw, .int .i64 X.ou, .int .i64 X.ii, vP, vK, vG, vD]
structure CkM (w : World) (B : Nat) (X : Ck) (vP vK vG vD : Value) : Prop where
  P : Row w B 2 vP X.P.length (cellsP X.P)
  K : Row w B 2 vK X.K.length (cellsP X.K)
  G : Row w B 2 vG X.G.length (cellsG X.G)
  D : Row w B 1 vD X.D.length (X.D.map (.int .u32))
theorem CkM.below {w w' : World} {B : Nat} {X : Ck} {vP vK vG vD : Value} (h : CkM w B X vP vK vG vD) (hb : Below B w w') : CkM w' B X vP vK vG vD := ⟨h.P.below hb, h.K.below hb, h.G.below hb, h.D.below hb⟩
/-- Numbers as they may be of their types, and rows that are not too great. -/
structure CkW (X : Ck) : Prop where
  fl : -9223372036854775808 ≤ X.fl ∧ X.fl ≤ 9223372036854775807
  tsn : 0 ≤ X.tsn ∧ X.tsn ≤ 4294967295
  pr : 0 ≤ X.pr ∧ X.pr ≤ 4294967295
  tg : 0 ≤ X.tg ∧ X.tg ≤ 4294967295
  rw : 0 ≤ X.rw ∧ X.rw ≤ 4294967295
  d : X.d.size ≤ 950
  P : X.P.length ≤ 18
  K : X.K.length ≤ 18
  G : X.G.length ≤ 18
  D : X.D.length ≤ 18
  g : ∀ x ∈ X.G, (-9223372036854775808 ≤ x.1 ∧ x.1 ≤ 9223372036854775807) ∧ (-9223372036854775808 ≤ x.2 ∧ x.2 ≤ 9223372036854775807)
  dd : ∀ x ∈ X.D, 0 ≤ x ∧ x ≤ 4294967295
/-! ### what the document says of types -/
def kindV (n : Int) : Int := if n = 0 then 0 else if n = 1 ∨ n = 2 then 1 else if n = 3 then 3 else if n = 4 ∨ n = 5 then 4 else if n = 6 ∨ n = 9 then 6 else if n = 7 then 7 else if n = 8 ∨ n = 11 ∨ n = 14 then 8 else if n = 10 then 10 else if n = 15 then 15 else if n = 193 ∨ n = 128 ∨ n = 130 then 16 else 20
def flagsV (n : Int) : Int := if n = 0 then 7 else if n = 6 ∨ n = 9 then 3 else if n = 14 then 1 else if kindV n = 20 then 255 else 0
theorem kind_val (n : Int) (w : World) : Calls Try.prog 42 #[.int .i64 n] w fun e w' => e = .returned (.int .i64 (kindV n)) ∧ Below w.heap.size w w' := by
  obtain ⟨r, hr⟩ : ∃ r, kindV n = r := ⟨_, rfl⟩
  rw [hr]
  have HRR := Lib.hid hr
  clear hr
  go_enter Try.func42, Try.ntmps42
  go_wp2
  all_goals
    go_ret
    refine ⟨ret_int ?_, Below.refl _ _⟩
    simp only [beq_iff_eq, beq_eq_false_iff_ne, ne_eq] at *
    rw [← HRR.out]
    unfold kindV
    first | (subst_vars; rfl) | (repeat' split) <;> omega
theorem flags_val (n : Int) (w : World) : Calls Try.prog 39 #[.int .i64 n] w fun e w' => e = .returned (.int .i64 (flagsV n)) ∧ Below w.heap.size w w' := by
  obtain ⟨r, hr⟩ : ∃ r, flagsV n = r := ⟨_, rfl⟩
  rw [hr]
  have HRR := Lib.hid hr
  clear hr
  have hk := kind_val n w
  obtain ⟨k, hkk⟩ : ∃ k, kindV n = k := ⟨_, rfl⟩
  rw [hkk] at hk
  have HKK := Lib.hid hkk
  clear hkk
  by_cases e1 : n = 0
  · subst e1
    have HY := Lib.hid (show r = 7 from HRR.out.symm)
    clear hk
    go_enter Try.func39, Try.ntmps39
    go_wp2_with fail
    go_ret
    exact ⟨ret_int HY.out.symm, Below.refl _ _⟩
  · by_cases e2 : n = 6 ∨ n = 9
    · have HY := Lib.hid (show r = 3 by rw [← HRR.out]; unfold flagsV; rw [if_neg e1, if_pos e2])
      clear hk
      rcases e2 with rfl | rfl
      · go_enter Try.func39, Try.ntmps39
        go_wp2_with fail
        go_ret
        exact ⟨ret_int HY.out.symm, Below.refl _ _⟩
      · go_enter Try.func39, Try.ntmps39
        go_wp2_with fail
        go_ret
        exact ⟨ret_int HY.out.symm, Below.refl _ _⟩
    · by_cases e3 : n = 14
      · subst e3
        have HY := Lib.hid (show r = 1 from HRR.out.symm)
        clear hk
        go_enter Try.func39, Try.ntmps39
        go_wp2_with fail
        go_ret
        exact ⟨ret_int HY.out.symm, Below.refl _ _⟩
      · have f1 : (n == 0) = false := beq_eq_false_iff_ne.2 e1
        have f2 : (n == 6) = false := beq_eq_false_iff_ne.2 (fun h => e2 (.inl h))
        have f3 : (n == 9) = false := beq_eq_false_iff_ne.2 (fun h => e2 (.inr h))
        have f4 : (n == 14) = false := beq_eq_false_iff_ne.2 e3
        by_cases e4 : k = 20
        · have HY := Lib.hid (show r = 255 by rw [← HRR.out]; unfold flagsV; rw [if_neg e1, if_neg e2, if_neg e3, if_pos (by rw [HKK.out]; exact e4)])
          subst e4
          clear e1 e2 e3
          go_enter Try.func39, Try.ntmps39
          go_wp2_with fail
          refine hk.mono ?_
          rintro e w' ⟨rfl, hb⟩
          clear hk
          go_wp2_with fail
          go_ret
          exact ⟨ret_int HY.out.symm, hb⟩
        · have HY := Lib.hid (show r = 0 by rw [← HRR.out]; unfold flagsV; rw [if_neg e1, if_neg e2, if_neg e3, if_neg (by rw [HKK.out]; exact e4)])
          have f5 : (k == 20) = false := beq_eq_false_iff_ne.2 e4
          clear e1 e2 e3 e4
          go_enter Try.func39, Try.ntmps39
          go_wp2_with fail
          refine hk.mono ?_
          rintro e w' ⟨rfl, hb⟩
          clear hk
          go_wp2_with fail
          go_ret
          exact ⟨ret_int HY.out.symm, hb⟩
end Go.Proofs.Ytfpcneekbdcbcaa.ck
/- Layer 6: is one of a row so? Numbers of 16 bits, parameters and causes that may be (gen-ckb.py wrote this). -/
namespace Go.Proofs.Ytfpcneekbdcbcaa.ck
open Go.ChangeShapes Go.WideShapes Go.ChangeAt Go.RowKit kit oct par
set_option maxRecDepth 100000

/-- The place of the first one that is so; -1: none is. -/
def idxA {α : Type} (p : α → Bool) : List α → Int
  | [] => -1
  | x :: r => if p x = true then 0 else if idxA p r < 0 then -1 else idxA p r + 1
theorem idxA_ge {α : Type} (p : α → Bool) : ∀ L, -1 ≤ idxA p L
  | [] => by simp [idxA]
  | x :: r => by
    have := idxA_ge p r
    unfold idxA
    split
    · omega
    · split <;> omega
theorem idxA_none {α : Type} {p : α → Bool} : ∀ {L : List α}, (∀ x ∈ L, p x = false) → idxA p L = -1
  | [], _ => rfl
  | x :: r, h => by
    unfold idxA
    rw [if_neg (by rw [h x (by simp)]; simp), idxA_none (fun y hy => h y (by simp [hy])), if_pos (by omega)]
theorem idxA_hit {α : Type} {p : α → Bool} : ∀ {L : List α} {i : Nat} {y : α}, L[i]? = some y → p y = true → (∀ (j : Nat) x, j < i → L[j]? = some x → p x = false) → idxA p L = (i : Int)
  | [], _, _, h, _, _ => by simp at h
  | z :: r, 0, y, h, hp, _ => by
    obtain rfl : z = y := by simpa using h
    unfold idxA
    rw [if_pos hp]
    rfl
  | z :: r, i + 1, y, h, hp, hno => by
    have ih := idxA_hit (L := r) (i := i) (by simpa using h) hp (fun j x hj hx => hno (j + 1) x (by omega) (by simpa using hx))
    unfold idxA
    rw [if_neg (by rw [hno 0 z (by omega) rfl]; simp), ih, if_neg (by omega)]
    omega
theorem idxA_never {α : Type} {p : α → Bool} {L : List α} (h : ∀ (j : Nat) x, j < L.length → L[j]? = some x → p x = false) : idxA p L = -1 := idxA_none fun x hx => by
  obtain ⟨j, hj⟩ := List.getElem?_of_mem hx
  exact h j x (List.getElem?_eq_some_iff.1 hj).1 hj
theorem idxA_any {α : Type} (p : α → Bool) (L : List α) : decide (0 ≤ idxA p L) = L.any p := by
  induction L with
  | nil => rfl
  | cons x r ih =>
    have hge := idxA_ge p r
    rw [List.any_cons, ← ih]
    show decide (0 ≤ (if p x = true then (0 : Int) else if idxA p r < 0 then -1 else idxA p r + 1)) = _
    by_cases h : p x = true
    · rw [if_pos h, h]; rfl
    · rw [if_neg h, Bool.eq_false_iff.2 h, Bool.false_or]
      by_cases h0 : idxA p r < 0
      · rw [if_pos h0, decide_eq_false (by decide), decide_eq_false (by omega)]
      · rw [if_neg h0, decide_eq_true (by omega), decide_eq_true (by omega)]
theorem szPa (p : Int × ByteArray) : (Try.prog.info? 40).map (·.size) = some (#[.int .i64 p.1, .string p.2] : Array Value).size := by show _ = some 2; kernel_rfl
theorem szCa (p : Int × ByteArray) : (Try.prog.info? 42).map (·.size) = some (#[.int .i64 p.1, .string p.2] : Array Value).size := by show _ = some 2; kernel_rfl
/-- Is it no number of 16 bits? -/
def no16 (x : Int) : Bool := decide (x < 0 ∨ 65535 < x)
theorem cl_16 (x : Int) (W : World) : Calls Try.prog 67 #[.int .i64 x] W fun e w' => e = .returned (.bool (no16 x)) ∧ Below W.heap.size W w' := by
  obtain ⟨rb, hrb⟩ : ∃ rb, no16 x = rb := ⟨_, rfl⟩
  rw [hrb]
  have HRB := Lib.hid hrb
  clear hrb
  go_enter Try.func67, Try.ntmps67
  by_cases h0 : x < 0
  · have HY := Lib.hid ((show no16 x = true from decide_eq_true (.inl h0)).symm.trans HRB.out)
    go_wp2_with fail
    go_ret
    exact ⟨ret_bool HY.out, Below.refl _ _⟩
  · by_cases h1 : 65535 < x
    · have HY := Lib.hid ((show no16 x = true from decide_eq_true (.inr h1)).symm.trans HRB.out)
      go_wp2_with fail
      go_ret
      exact ⟨ret_bool HY.out, Below.refl _ _⟩
    · have HY := Lib.hid ((show no16 x = false from decide_eq_false (by omega)).symm.trans HRB.out)
      go_wp2_with fail
      go_ret
      exact ⟨ret_bool HY.out, Below.refl _ _⟩
set_option maxHeartbeats 1000000 in
theorem ix_16 {w : World} {B : Nat} {v : Value} {L : List (Int)} (q : Row w B 1 v L.length (L.map (.int .i64))) (hB : B ≤ w.heap.size) (hn : L.length ≤ 20) : Calls Try.prog 84 #[v, .func (.func 67) #[] #[]] w fun e w' => e = .returned (.int .i64 (idxA no16 L)) ∧ Below w.heap.size w w' := by
  obtain ⟨B0, hB0⟩ : ∃ B0, w.heap.size = B0 := ⟨_, rfl⟩
  have HB0 := Lib.hid hB0
  have HQ := Lib.hid (show ∀ w', Below B0 w w' → Row w' B 1 v L.length (L.map (.int .i64)) from fun w' h => q.below (h.mono (by omega)))
  obtain ⟨ri, hri⟩ : ∃ ri, idxA no16 L = ri := ⟨_, rfl⟩
  rw [hri]
  have HRI := Lib.hid hri
  obtain ⟨oa, cap, hv, -, -⟩ := q.shape
  subst hv
  have bel0 : Below B0 w w := Below.refl _ _
  rw [hB0]
  clear hri q hB0
  go_enter Try.func84, Try.ntmps84
  go_wp2_with fail
  go_loopw [8] (fun s8 wr => ∃ i : Nat, s8 = .int .i64 (i : Nat) ∧ i ≤ L.length ∧ (∀ (j : Nat) x, j < i → L[j]? = some x → no16 x = false) ∧ Below B0 w wr) (fun s8 _ => L.length - (intOf s8).toNat)
  case atStart => exact ⟨0, rfl, Nat.zero_le _, fun j x hj => absurd hj (Nat.not_lt_zero j), bel0⟩
  case round =>
    rename World => wr
    clear bel0
    obtain ⟨i, rfl, hi, hno, bel⟩ := hrel
    by_cases hlt : i < L.length
    · have hii : (i : Int) < (L.length : Int) := by omega
      have hi0 : (0 : Int) ≤ (i : Int) := by omega
      obtain ⟨x, hx⟩ : ∃ x, L[i]? = some x := ⟨_, List.getElem?_eq_getElem hlt⟩
      have q := HQ.out _ bel
      obtain ⟨a, cap', hv, -, c0⟩ := q.one hlt (u0 := .int .i64 x) (by rw [List.getElem?_map, hx]; rfl)
      injection hv with hv1 hv2 hv3
      subst hv1
      subst hv3
      clear hv2
      have HX := Lib.hid (And.intro hx hno)
      have hcl := cl_16 x
      clear hx hno q
      go_wp2_with fail
      refine (hcl wr).mono ?_
      rintro e w3 ⟨he, hb3⟩
      have HBL := Lib.hid (bel.trans (hb3.mono (by rw [← HB0.out]; exact bel.size)))
      clear bel hb3 hcl c0
      rcases hp : no16 x with _ | _
      · have he2 : e = .returned (.bool false) := by rw [he]; exact congrArg (fun b => Ending.returned (.bool b)) hp
        clear he
        subst he2
        have HP := Lib.hid hp
        clear hp
        go_wp2_with fail
        go_roundw
        case rel => exact ⟨i + 1, by go_num, by omega, fun j y hj hy => by
          by_cases e : j = i
          · subst e
            have : y = x := by have := HX.out.1; rw [hy] at this; exact Option.some.inj this
            rw [this]; exact HP.out
          · exact HX.out.2 j y (by omega) hy, HBL.out⟩
        case measure => simp [intOf]; omega
      · have he2 : e = .returned (.bool true) := by rw [he]; exact congrArg (fun b => Ending.returned (.bool b)) hp
        clear he
        subst he2
        have HY := Lib.hid (idxA_hit (p := no16) HX.out.1 hp HX.out.2)
        clear hp
        go_wp2_with fail
        go_ret
        exact ⟨ret_int (HY.out.symm.trans HRI.out), HBL.out⟩
    · obtain rfl : i = L.length := by omega
      have HY := Lib.hid (idxA_never (p := no16) hno)
      have HBL := Lib.hid bel
      clear hno bel
      go_wp2_with fail
      go_ret
      exact ⟨ret_int (HY.out.symm.trans HRI.out), HBL.out⟩
theorem con_16 {w : World} {B : Nat} {v : Value} {L : List (Int)} (q : Row w B 1 v L.length (L.map (.int .i64))) (hB : B ≤ w.heap.size) (hn : L.length ≤ 20) : Calls Try.prog 66 #[v, .func (.func 67) #[] #[]] w fun e w' => e = .returned (.bool (L.any no16)) ∧ Below w.heap.size w w' := by
  have hi := ix_16 q hB hn
  rw [← idxA_any]
  obtain ⟨ri, hri⟩ : ∃ ri, idxA no16 L = ri := ⟨_, rfl⟩
  rw [hri] at hi ⊢
  obtain ⟨rb, hrb⟩ : ∃ rb, decide (0 ≤ ri) = rb := ⟨_, rfl⟩
  rw [hrb]
  have HRB := Lib.hid hrb
  clear hrb
  obtain ⟨oa, cap, hv, -, -⟩ := q.shape
  subst hv
  clear hri q hn
  go_enter Try.func66, Try.ntmps66
  go_wp2_with fail
  refine hi.mono ?_
  rintro e w1 ⟨rfl, hb1⟩
  clear hi
  by_cases h : 0 ≤ ri
  · have HY := Lib.hid ((decide_eq_true h).symm.trans HRB.out)
    go_wp2_with fail
    go_ret
    exact ⟨ret_bool HY.out, hb1⟩
  · have HY := Lib.hid ((decide_eq_false h).symm.trans HRB.out)
    go_wp2_with fail
    go_ret
    exact ⟨ret_bool (by first | exact HY.out | exact (decide_eq_false (by omega)).trans HY.out), hb1⟩
theorem within_any {w : World} {B : Nat} {v : Value} {L : List Int} (q : Row w B 1 v L.length (L.map (.int .i64))) (hB : B ≤ w.heap.size) (hn : L.length ≤ 20) : Calls Try.prog 51 #[v] w fun e w' => e = .returned (.bool (!(L.any no16))) ∧ Below w.heap.size w w' := by
  have hc := con_16 q hB hn
  obtain ⟨rb, hrb⟩ : ∃ rb, L.any no16 = rb := ⟨_, rfl⟩
  rw [hrb] at hc ⊢
  obtain ⟨oa, cap, hv, -, -⟩ := q.shape
  subst hv
  clear hrb q hn
  go_enter Try.func51, Try.ntmps51
  go_wp2_with fail
  refine hc.mono ?_
  rintro e w1 ⟨rfl, hb1⟩
  clear hc
  go_wp2_with fail
  go_ret
  exact ⟨rfl, hb1⟩
theorem cl_pm (x : Int × ByteArray) (W : World) : Calls Try.prog 69 #[.agg #[.int .i64 x.1, .string x.2]] W fun e w' => e = .returned (.bool (!mayP x.1 x.2)) ∧ Below W.heap.size W w' := by
  have X1 := Blk.new W 40 #[.int .i64 x.1, .string x.2]
  have bel := (Below.refl W.heap.size W).alloc (Nat.le_refl _) (.cells #[.int .i64 x.1, .string x.2] 40)
  have hm := fun W => may_any x.1 x.2 W
  obtain ⟨rb, hrb⟩ : ∃ rb, mayP x.1 x.2 = rb := ⟨_, rfl⟩
  rw [hrb] at hm ⊢
  clear hrb
  go_enter Try.func69, Try.ntmps69
  go_upto_region 1 with fail
  obtain ⟨w1, hw1⟩ : ∃ w1, W.alloc (.cells #[.int .i64 x.1, .string x.2] 40) = w1 := ⟨_, rfl⟩
  rw [hw1] at X1 bel
  try rw [hw1]
  clear hw1
  have C1 := Cel.of_blk X1
  have sz := szPa x
  go_wp2_with (refine wpList_load_at rfl 40 _ rfl W.heap.size 0 rfl #[.int .i64 x.1, .string x.2] _ C1 Try.underlying40 rfl sz ?_)
  refine (hm w1).mono ?_
  rintro e w2 ⟨rfl, hb⟩
  have bel2 := bel.trans (hb.mono bel.size)
  clear C1 X1 hm
  go_wp2_with fail
  go_ret
  exact ⟨rfl, bel2⟩
set_option maxHeartbeats 1000000 in
theorem ix_pm {w : World} {B : Nat} {v : Value} {L : List (Int × ByteArray)} (q : Row w B 2 v L.length (cellsP L)) (hB : B ≤ w.heap.size) (hn : L.length ≤ 20) : Calls Try.prog 85 #[v, .func (.func 69) #[] #[]] w fun e w' => e = .returned (.int .i64 (idxA (fun p : Int × ByteArray => !mayP p.1 p.2) L)) ∧ Below w.heap.size w w' := by
  obtain ⟨B0, hB0⟩ : ∃ B0, w.heap.size = B0 := ⟨_, rfl⟩
  have HB0 := Lib.hid hB0
  have HQ := Lib.hid (show ∀ w', Below B0 w w' → Row w' B 2 v L.length (cellsP L) from fun w' h => q.below (h.mono (by omega)))
  obtain ⟨ri, hri⟩ : ∃ ri, idxA (fun p : Int × ByteArray => !mayP p.1 p.2) L = ri := ⟨_, rfl⟩
  rw [hri]
  have HRI := Lib.hid hri
  obtain ⟨oa, cap, hv, -, -⟩ := q.shape
  subst hv
  have bel0 : Below B0 w w := Below.refl _ _
  rw [hB0]
  clear hri q hB0
  go_enter Try.func85, Try.ntmps85
  go_wp2_with fail
  go_loopw [8] (fun s8 wr => ∃ i : Nat, s8 = .int .i64 (i : Nat) ∧ i ≤ L.length ∧ (∀ (j : Nat) x, j < i → L[j]? = some x → (fun p : Int × ByteArray => !mayP p.1 p.2) x = false) ∧ Below B0 w wr) (fun s8 _ => L.length - (intOf s8).toNat)
  case atStart => exact ⟨0, rfl, Nat.zero_le _, fun j x hj => absurd hj (Nat.not_lt_zero j), bel0⟩
  case round =>
    rename World => wr
    clear bel0
    obtain ⟨i, rfl, hi, hno, bel⟩ := hrel
    by_cases hlt : i < L.length
    · have hii : (i : Int) < (L.length : Int) := by omega
      have hi0 : (0 : Int) ≤ (i : Int) := by omega
      obtain ⟨x, hx⟩ : ∃ x, L[i]? = some x := ⟨_, List.getElem?_eq_getElem hlt⟩
      have q := HQ.out _ bel
      obtain ⟨a, cap', hv, -, c0, c1⟩ := q.two hlt (cellsP_get hx).1 (cellsP_get hx).2
      injection hv with hv1 hv2 hv3
      subst hv1
      subst hv3
      clear hv2
      have hpc : ∀ (j : Nat) u, (#[.int .i64 x.1, .string x.2] : Array Value)[j]? = some u → wr.cell? ((a.add (i * 2)).add j) = some u := fun j u hu => by
        rcases j with _ | _ | j
        · rw [add_z]; simp at hu; rw [← hu]; exact c0
        · rw [add_o]; simp at hu; rw [← hu]; exact c1
        · simp at hu
      have sz := szPa x
      have HX := Lib.hid (And.intro hx hno)
      have hcl := cl_pm x
      clear hx hno q
      go_wp2_with (refine wpList_load_from rfl 40 _ rfl (a.add (i * 2)) rfl #[.int .i64 x.1, .string x.2] _ hpc Try.underlying40 rfl sz ?_)
      refine (hcl wr).mono ?_
      rintro e w3 ⟨he, hb3⟩
      have HBL := Lib.hid (bel.trans (hb3.mono (by rw [← HB0.out]; exact bel.size)))
      clear bel hb3 hcl hpc sz c0 c1
      rcases hp : (fun p : Int × ByteArray => !mayP p.1 p.2) x with _ | _
      · have he2 : e = .returned (.bool false) := by rw [he]; exact congrArg (fun b => Ending.returned (.bool b)) hp
        clear he
        subst he2
        have HP := Lib.hid hp
        clear hp
        go_wp2_with fail
        go_roundw
        case rel => exact ⟨i + 1, by go_num, by omega, fun j y hj hy => by
          by_cases e : j = i
          · subst e
            have : y = x := by have := HX.out.1; rw [hy] at this; exact Option.some.inj this
            rw [this]; exact HP.out
          · exact HX.out.2 j y (by omega) hy, HBL.out⟩
        case measure => simp [intOf]; omega
      · have he2 : e = .returned (.bool true) := by rw [he]; exact congrArg (fun b => Ending.returned (.bool b)) hp
        clear he
        subst he2
        have HY := Lib.hid (idxA_hit (p := (fun p : Int × ByteArray => !mayP p.1 p.2)) HX.out.1 hp HX.out.2)
        clear hp
        go_wp2_with fail
        go_ret
        exact ⟨ret_int (HY.out.symm.trans HRI.out), HBL.out⟩
    · obtain rfl : i = L.length := by omega
      have HY := Lib.hid (idxA_never (p := (fun p : Int × ByteArray => !mayP p.1 p.2)) hno)
      have HBL := Lib.hid bel
      clear hno bel
      go_wp2_with fail
      go_ret
      exact ⟨ret_int (HY.out.symm.trans HRI.out), HBL.out⟩
theorem con_pm {w : World} {B : Nat} {v : Value} {L : List (Int × ByteArray)} (q : Row w B 2 v L.length (cellsP L)) (hB : B ≤ w.heap.size) (hn : L.length ≤ 20) : Calls Try.prog 68 #[v, .func (.func 69) #[] #[]] w fun e w' => e = .returned (.bool (L.any (fun p : Int × ByteArray => !mayP p.1 p.2))) ∧ Below w.heap.size w w' := by
  have hi := ix_pm q hB hn
  rw [← idxA_any]
  obtain ⟨ri, hri⟩ : ∃ ri, idxA (fun p : Int × ByteArray => !mayP p.1 p.2) L = ri := ⟨_, rfl⟩
  rw [hri] at hi ⊢
  obtain ⟨rb, hrb⟩ : ∃ rb, decide (0 ≤ ri) = rb := ⟨_, rfl⟩
  rw [hrb]
  have HRB := Lib.hid hrb
  clear hrb
  obtain ⟨oa, cap, hv, -, -⟩ := q.shape
  subst hv
  clear hri q hn
  go_enter Try.func68, Try.ntmps68
  go_wp2_with fail
  refine hi.mono ?_
  rintro e w1 ⟨rfl, hb1⟩
  clear hi
  by_cases h : 0 ≤ ri
  · have HY := Lib.hid ((decide_eq_true h).symm.trans HRB.out)
    go_wp2_with fail
    go_ret
    exact ⟨ret_bool HY.out, hb1⟩
  · have HY := Lib.hid ((decide_eq_false h).symm.trans HRB.out)
    go_wp2_with fail
    go_ret
    exact ⟨ret_bool (by first | exact HY.out | exact (decide_eq_false (by omega)).trans HY.out), hb1⟩
theorem paramsMay_any {w : World} {B : Nat} {v : Value} {L : List (Int × ByteArray)} (q : Row w B 2 v L.length (cellsP L)) (hB : B ≤ w.heap.size) (hn : L.length ≤ 20) : Calls Try.prog 52 #[v] w fun e w' => e = .returned (.bool (decide (L.length ≤ 16) && L.all fun p => mayP p.1 p.2)) ∧ Below w.heap.size w w' := by
  have hc := con_pm q hB hn
  rw [show (L.all fun p => mayP p.1 p.2) = !(L.any (fun p : Int × ByteArray => !mayP p.1 p.2)) by rw [List.not_any_eq_all_not]; simp]
  obtain ⟨rb, hrb⟩ : ∃ rb, L.any (fun p : Int × ByteArray => !mayP p.1 p.2) = rb := ⟨_, rfl⟩
  rw [hrb] at hc ⊢
  obtain ⟨oa, cap, hv, -, -⟩ := q.shape
  subst hv
  obtain ⟨m, hm⟩ : ∃ m, L.length = m := ⟨_, rfl⟩
  rw [hm] at hc ⊢
  clear hrb q hn hm
  go_enter Try.func52, Try.ntmps52
  by_cases h : m ≤ 16
  · have h' : (m : Int) ≤ 16 := by omega
    rw [decide_eq_true h]
    go_wp2_with fail
    refine hc.mono ?_
    rintro e w1 ⟨rfl, hb1⟩
    clear hc
    go_wp2_with fail
    go_ret
    exact ⟨by simp, hb1⟩
  · have h' : ¬ (m : Int) ≤ 16 := by omega
    rw [decide_eq_false h]
    clear hc
    go_wp2_with fail
    go_ret
    exact ⟨by simp, Below.refl _ _⟩
theorem cmay_any (t : Int) (s : ByteArray) (w : World) : Calls Try.prog 72 #[.agg #[.int .i64 t, .string s]] w fun e w' => e = .returned (.bool (mayP t s)) ∧ Below w.heap.size w w' := by
  have X1 := Blk.new w 42 #[.int .i64 t, .string s]
  have bel := (Below.refl w.heap.size w).alloc (Nat.le_refl _) (.cells #[.int .i64 t, .string s] 42)
  have hm := may_any t s
  have ha := asParam_any t s
  obtain ⟨rb, hrb⟩ : ∃ rb, mayP t s = rb := ⟨_, rfl⟩
  rw [hrb] at hm ⊢
  clear hrb
  go_enter Try.func72, Try.ntmps72
  go_upto_region 1 with fail
  obtain ⟨w1, hw1⟩ : ∃ w1, w.alloc (.cells #[.int .i64 t, .string s] 42) = w1 := ⟨_, rfl⟩
  rw [hw1] at X1 bel
  try rw [hw1]
  clear hw1
  have C1 := Cel.of_blk X1
  have sz := szCa (t, s)
  dsimp only at sz
  go_wp2_with (refine wpList_load_at rfl 42 _ rfl w.heap.size 0 rfl #[.int .i64 t, .string s] _ C1 Try.underlying42 rfl sz ?_)
  refine (ha w1).mono ?_
  rintro e w2 ⟨rfl, hb⟩
  have bel2 := bel.trans (hb.mono bel.size)
  clear C1 X1 ha bel hb
  go_wp2_with fail
  refine (hm w2).mono ?_
  rintro e w3 ⟨rfl, hb⟩
  have bel3 := bel2.trans (hb.mono bel2.size)
  clear hm
  go_wp2_with fail
  go_ret
  exact ⟨rfl, bel3⟩
theorem cl_cm (x : Int × ByteArray) (W : World) : Calls Try.prog 71 #[.agg #[.int .i64 x.1, .string x.2]] W fun e w' => e = .returned (.bool (!mayP x.1 x.2)) ∧ Below W.heap.size W w' := by
  have X1 := Blk.new W 42 #[.int .i64 x.1, .string x.2]
  have bel := (Below.refl W.heap.size W).alloc (Nat.le_refl _) (.cells #[.int .i64 x.1, .string x.2] 42)
  have hm := fun W => cmay_any x.1 x.2 W
  obtain ⟨rb, hrb⟩ : ∃ rb, mayP x.1 x.2 = rb := ⟨_, rfl⟩
  rw [hrb] at hm ⊢
  clear hrb
  go_enter Try.func71, Try.ntmps71
  go_upto_region 1 with fail
  obtain ⟨w1, hw1⟩ : ∃ w1, W.alloc (.cells #[.int .i64 x.1, .string x.2] 42) = w1 := ⟨_, rfl⟩
  rw [hw1] at X1 bel
  try rw [hw1]
  clear hw1
  have C1 := Cel.of_blk X1
  have sz := szCa x
  go_wp2_with (refine wpList_load_at rfl 42 _ rfl W.heap.size 0 rfl #[.int .i64 x.1, .string x.2] _ C1 Try.underlying42 rfl sz ?_)
  refine (hm w1).mono ?_
  rintro e w2 ⟨rfl, hb⟩
  have bel2 := bel.trans (hb.mono bel.size)
  clear C1 X1 hm
  go_wp2_with fail
  go_ret
  exact ⟨rfl, bel2⟩
set_option maxHeartbeats 1000000 in
theorem ix_cm {w : World} {B : Nat} {v : Value} {L : List (Int × ByteArray)} (q : Row w B 2 v L.length (cellsP L)) (hB : B ≤ w.heap.size) (hn : L.length ≤ 20) : Calls Try.prog 86 #[v, .func (.func 71) #[] #[]] w fun e w' => e = .returned (.int .i64 (idxA (fun p : Int × ByteArray => !mayP p.1 p.2) L)) ∧ Below w.heap.size w w' := by
  obtain ⟨B0, hB0⟩ : ∃ B0, w.heap.size = B0 := ⟨_, rfl⟩
  have HB0 := Lib.hid hB0
  have HQ := Lib.hid (show ∀ w', Below B0 w w' → Row w' B 2 v L.length (cellsP L) from fun w' h => q.below (h.mono (by omega)))
  obtain ⟨ri, hri⟩ : ∃ ri, idxA (fun p : Int × ByteArray => !mayP p.1 p.2) L = ri := ⟨_, rfl⟩
  rw [hri]
  have HRI := Lib.hid hri
  obtain ⟨oa, cap, hv, -, -⟩ := q.shape
  subst hv
  have bel0 : Below B0 w w := Below.refl _ _
  rw [hB0]
  clear hri q hB0
  go_enter Try.func86, Try.ntmps86
  go_wp2_with fail
  go_loopw [8] (fun s8 wr => ∃ i : Nat, s8 = .int .i64 (i : Nat) ∧ i ≤ L.length ∧ (∀ (j : Nat) x, j < i → L[j]? = some x → (fun p : Int × ByteArray => !mayP p.1 p.2) x = false) ∧ Below B0 w wr) (fun s8 _ => L.length - (intOf s8).toNat)
  case atStart => exact ⟨0, rfl, Nat.zero_le _, fun j x hj => absurd hj (Nat.not_lt_zero j), bel0⟩
  case round =>
    rename World => wr
    clear bel0
    obtain ⟨i, rfl, hi, hno, bel⟩ := hrel
    by_cases hlt : i < L.length
    · have hii : (i : Int) < (L.length : Int) := by omega
      have hi0 : (0 : Int) ≤ (i : Int) := by omega
      obtain ⟨x, hx⟩ : ∃ x, L[i]? = some x := ⟨_, List.getElem?_eq_getElem hlt⟩
      have q := HQ.out _ bel
      obtain ⟨a, cap', hv, -, c0, c1⟩ := q.two hlt (cellsP_get hx).1 (cellsP_get hx).2
      injection hv with hv1 hv2 hv3
      subst hv1
      subst hv3
      clear hv2
      have hpc : ∀ (j : Nat) u, (#[.int .i64 x.1, .string x.2] : Array Value)[j]? = some u → wr.cell? ((a.add (i * 2)).add j) = some u := fun j u hu => by
        rcases j with _ | _ | j
        · rw [add_z]; simp at hu; rw [← hu]; exact c0
        · rw [add_o]; simp at hu; rw [← hu]; exact c1
        · simp at hu
      have sz := szCa x
      have HX := Lib.hid (And.intro hx hno)
      have hcl := cl_cm x
      clear hx hno q
      go_wp2_with (refine wpList_load_from rfl 42 _ rfl (a.add (i * 2)) rfl #[.int .i64 x.1, .string x.2] _ hpc Try.underlying42 rfl sz ?_)
      refine (hcl wr).mono ?_
      rintro e w3 ⟨he, hb3⟩
      have HBL := Lib.hid (bel.trans (hb3.mono (by rw [← HB0.out]; exact bel.size)))
      clear bel hb3 hcl hpc sz c0 c1
      rcases hp : (fun p : Int × ByteArray => !mayP p.1 p.2) x with _ | _
      · have he2 : e = .returned (.bool false) := by rw [he]; exact congrArg (fun b => Ending.returned (.bool b)) hp
        clear he
        subst he2
        have HP := Lib.hid hp
        clear hp
        go_wp2_with fail
        go_roundw
        case rel => exact ⟨i + 1, by go_num, by omega, fun j y hj hy => by
          by_cases e : j = i
          · subst e
            have : y = x := by have := HX.out.1; rw [hy] at this; exact Option.some.inj this
            rw [this]; exact HP.out
          · exact HX.out.2 j y (by omega) hy, HBL.out⟩
        case measure => simp [intOf]; omega
      · have he2 : e = .returned (.bool true) := by rw [he]; exact congrArg (fun b => Ending.returned (.bool b)) hp
        clear he
        subst he2
        have HY := Lib.hid (idxA_hit (p := (fun p : Int × ByteArray => !mayP p.1 p.2)) HX.out.1 hp HX.out.2)
        clear hp
        go_wp2_with fail
        go_ret
        exact ⟨ret_int (HY.out.symm.trans HRI.out), HBL.out⟩
    · obtain rfl : i = L.length := by omega
      have HY := Lib.hid (idxA_never (p := (fun p : Int × ByteArray => !mayP p.1 p.2)) hno)
      have HBL := Lib.hid bel
      clear hno bel
      go_wp2_with fail
      go_ret
      exact ⟨ret_int (HY.out.symm.trans HRI.out), HBL.out⟩
theorem con_cm {w : World} {B : Nat} {v : Value} {L : List (Int × ByteArray)} (q : Row w B 2 v L.length (cellsP L)) (hB : B ≤ w.heap.size) (hn : L.length ≤ 20) : Calls Try.prog 70 #[v, .func (.func 71) #[] #[]] w fun e w' => e = .returned (.bool (L.any (fun p : Int × ByteArray => !mayP p.1 p.2))) ∧ Below w.heap.size w w' := by
  have hi := ix_cm q hB hn
  rw [← idxA_any]
  obtain ⟨ri, hri⟩ : ∃ ri, idxA (fun p : Int × ByteArray => !mayP p.1 p.2) L = ri := ⟨_, rfl⟩
  rw [hri] at hi ⊢
  obtain ⟨rb, hrb⟩ : ∃ rb, decide (0 ≤ ri) = rb := ⟨_, rfl⟩
  rw [hrb]
  have HRB := Lib.hid hrb
  clear hrb
  obtain ⟨oa, cap, hv, -, -⟩ := q.shape
  subst hv
  clear hri q hn
  go_enter Try.func70, Try.ntmps70
  go_wp2_with fail
  refine hi.mono ?_
  rintro e w1 ⟨rfl, hb1⟩
  clear hi
  by_cases h : 0 ≤ ri
  · have HY := Lib.hid ((decide_eq_true h).symm.trans HRB.out)
    go_wp2_with fail
    go_ret
    exact ⟨ret_bool HY.out, hb1⟩
  · have HY := Lib.hid ((decide_eq_false h).symm.trans HRB.out)
    go_wp2_with fail
    go_ret
    exact ⟨ret_bool (by first | exact HY.out | exact (decide_eq_false (by omega)).trans HY.out), hb1⟩
theorem causesMay_any {w : World} {B : Nat} {v : Value} {L : List (Int × ByteArray)} (q : Row w B 2 v L.length (cellsP L)) (hB : B ≤ w.heap.size) (hn : L.length ≤ 20) : Calls Try.prog 53 #[v] w fun e w' => e = .returned (.bool (decide (L.length ≤ 16) && L.all fun p => mayP p.1 p.2)) ∧ Below w.heap.size w w' := by
  have hc := con_cm q hB hn
  rw [show (L.all fun p => mayP p.1 p.2) = !(L.any (fun p : Int × ByteArray => !mayP p.1 p.2)) by rw [List.not_any_eq_all_not]; simp]
  obtain ⟨rb, hrb⟩ : ∃ rb, L.any (fun p : Int × ByteArray => !mayP p.1 p.2) = rb := ⟨_, rfl⟩
  rw [hrb] at hc ⊢
  obtain ⟨oa, cap, hv, -, -⟩ := q.shape
  subst hv
  obtain ⟨m, hm⟩ : ∃ m, L.length = m := ⟨_, rfl⟩
  rw [hm] at hc ⊢
  clear hrb q hn hm
  go_enter Try.func53, Try.ntmps53
  by_cases h : m ≤ 16
  · have h' : (m : Int) ≤ 16 := by omega
    rw [decide_eq_true h]
    go_wp2_with fail
    refine hc.mono ?_
    rintro e w1 ⟨rfl, hb1⟩
    clear hc
    go_wp2_with fail
    go_ret
    exact ⟨by simp, hb1⟩
  · have h' : ¬ (m : Int) ≤ 16 := by omega
    rw [decide_eq_false h]
    clear hc
    go_wp2_with fail
    go_ret
    exact ⟨by simp, Below.refl _ _⟩
end Go.Proofs.Ytfpcneekbdcbcaa.ck
/- Layer 6: flags, gaps, words, as they may be. -/
namespace Go.Proofs.Ytfpcneekbdcbcaa.ck
open Go.Sort (grow)
open Go.ChangeShapes Go.WideShapes Go.ChangeAt Go.RowKit kit oct par
set_option maxRecDepth 100000

theorem bv_sub (X M : BitVec 64) : X &&& ~~~M = 0#64 ↔ X &&& M = X := by
  constructor
  · intro h
    apply BitVec.eq_of_getLsbD_eq
    intro i hi
    have := congrArg (fun b : BitVec 64 => b.getLsbD i) h
    simp only [BitVec.getLsbD_and, BitVec.getLsbD_not, hi, decide_true, Bool.true_and, BitVec.getLsbD_zero] at this ⊢
    cases hX : X.getLsbD i <;> cases hM : M.getLsbD i <;> simp_all
  · intro h
    apply BitVec.eq_of_getLsbD_eq
    intro i hi
    have := congrArg (fun b : BitVec 64 => b.getLsbD i) h
    simp only [BitVec.getLsbD_and, BitVec.getLsbD_not, hi, decide_true, Bool.true_and, BitVec.getLsbD_zero] at this ⊢
    cases hX : X.getLsbD i <;> cases hM : M.getLsbD i <;> simp_all
theorem andNot_i64 (x : Int) (k : Nat) (hk : k ≤ 8) (h1 : -9223372036854775808 ≤ x) (h2 : x ≤ 9223372036854775807) : bits .andNot .i64 x ((2 ^ k - 1 : Nat) : Int) = 0 ↔ 0 ≤ x ∧ x ≤ ((2 ^ k - 1 : Nat) : Int) := by
  have hp : 2 ^ k ≤ 256 := by
    have := Nat.pow_le_pow_right (show 0 < 2 by decide) hk
    have e8 : (2 : Nat) ^ 8 = 256 := rfl
    omega
  have hp0 : 0 < 2 ^ k := Nat.two_pow_pos k
  have e : bits .andNot .i64 x ((2 ^ k - 1 : Nat) : Int) = IntKind.i64.wrap ((BitVec.ofInt 64 x &&& ~~~ BitVec.ofInt 64 ((2 ^ k - 1 : Nat) : Int)).toNat : Int) := rfl
  rw [e]
  generalize hX : BitVec.ofInt 64 x = X
  have hXn : (X.toNat : Int) = x % 18446744073709551616 := by
    rw [← hX, BitVec.toNat_ofInt]
    have : 0 ≤ x % ((2 ^ 64 : Nat) : Int) := Int.emod_nonneg _ (by decide)
    omega
  have hM : (BitVec.ofInt 64 ((2 ^ k - 1 : Nat) : Int)).toNat = 2 ^ k - 1 := ofInt_i64 _ (by omega)
  generalize BitVec.ofInt 64 ((2 ^ k - 1 : Nat) : Int) = M at hM
  have hw : ∀ n : Nat, n < 18446744073709551616 → (IntKind.i64.wrap (n : Int) = 0 ↔ n = 0) := fun n hn => by
    rw [IntKind.wrap_i64]
    omega
  rw [hw _ (X &&& ~~~M).isLt]
  have h3 : (X &&& ~~~M).toNat = 0 ↔ X &&& ~~~M = 0#64 := ⟨fun h => BitVec.eq_of_toNat_eq h, fun h => by rw [h]; rfl⟩
  rw [h3, bv_sub]
  have h4 : X &&& M = X ↔ X.toNat % 2 ^ k = X.toNat := by
    rw [← Nat.and_two_pow_sub_one_eq_mod, ← hM, ← BitVec.toNat_and]
    exact ⟨fun h => by rw [h], fun h => BitVec.eq_of_toNat_eq h⟩
  rw [h4]
  have h5 : X.toNat % 2 ^ k = X.toNat ↔ X.toNat < 2 ^ k := ⟨fun h => by rw [← h]; exact Nat.mod_lt _ hp0, fun h => Nat.mod_eq_of_lt h⟩
  rw [h5]
  omega
/-- Flags that those of a type may have. -/
def flMay (t f : Int) : Bool := decide (0 ≤ f ∧ f ≤ flagsV t)
theorem begins_any (n : Int) (w : World) : Calls Try.prog 55 #[.int .i64 n] w fun e w' => e = .returned (.bool (decide (kindV n = 1))) ∧ Below w.heap.size w w' := by
  obtain ⟨rb, hrb⟩ : ∃ rb, decide (kindV n = 1) = rb := ⟨_, rfl⟩
  rw [hrb]
  have HRB := Lib.hid hrb
  clear hrb
  go_enter Try.func55, Try.ntmps55
  by_cases h1 : n = 1
  · subst h1
    have HY := Lib.hid ((show decide (kindV 1 = 1) = true by decide).symm.trans HRB.out)
    go_wp2_with fail
    go_ret
    exact ⟨ret_bool HY.out, Below.refl _ _⟩
  · by_cases h2 : n = 2
    · subst h2
      have HY := Lib.hid ((show decide (kindV 2 = 1) = true by decide).symm.trans HRB.out)
      go_wp2_with fail
      go_ret
      exact ⟨ret_bool HY.out, Below.refl _ _⟩
    · have HY := Lib.hid ((show decide (kindV n = 1) = false from decide_eq_false (by unfold kindV; (repeat' split) <;> omega)).symm.trans HRB.out)
      have f1 : (n == 1) = false := beq_eq_false_iff_ne.2 h1
      have f2 : (n == 2) = false := beq_eq_false_iff_ne.2 h2
      clear h1 h2
      go_wp2_with fail
      go_ret
      exact ⟨ret_bool HY.out, Below.refl _ _⟩
theorem word_any (n : Int) (w : World) : Calls Try.prog 46 #[.int .i64 n] w fun e w' => e = .returned (.bool (!no16 n)) ∧ Below w.heap.size w w' := by
  obtain ⟨rb, hrb⟩ : ∃ rb, (!no16 n) = rb := ⟨_, rfl⟩
  rw [hrb]
  have HRB := Lib.hid hrb
  clear hrb
  go_enter Try.func46, Try.ntmps46
  by_cases h0 : 0 ≤ n
  · by_cases h1 : n ≤ 65535
    · have HY := Lib.hid ((show (!no16 n) = true by unfold no16; rw [decide_eq_false (by omega)]; rfl).symm.trans HRB.out)
      go_wp2_with fail
      go_ret
      exact ⟨ret_bool HY.out, Below.refl _ _⟩
    · have HY := Lib.hid ((show (!no16 n) = false by unfold no16; rw [decide_eq_true (by omega)]; rfl).symm.trans HRB.out)
      go_wp2_with fail
      go_ret
      exact ⟨ret_bool HY.out, Below.refl _ _⟩
  · have HY := Lib.hid ((show (!no16 n) = false by unfold no16; rw [decide_eq_true (by omega)]; rfl).symm.trans HRB.out)
    go_wp2_with fail
    go_ret
    exact ⟨ret_bool HY.out, Below.refl _ _⟩
/-- Behind so many gaps that rise: the last one's end. -/
def gstep (a : Option Int) (g : Int × Int) : Option Int := match a with
  | none => none
  | some last => if g.1 < last + 2 ∨ g.2 < g.1 ∨ 65535 < g.2 then none else some g.2
def risO (L : List (Int × Int)) : Option Int := L.foldl gstep (some 0)
theorem risO_snoc (L : List (Int × Int)) (g : Int × Int) : risO (L ++ [g]) = gstep (risO L) g := by unfold risO; rw [List.foldl_append]; rfl
theorem foldl_none (L : List (Int × Int)) : L.foldl gstep none = none := by
  induction L with
  | nil => rfl
  | cons g r ih => exact ih
theorem risO_none {L : List (Int × Int)} {i : Nat} (h : risO (L.take i) = none) : risO L = none := by
  have e : L = L.take i ++ L.drop i := (List.take_append_drop i L).symm
  rw [e]
  unfold risO at h ⊢
  rw [List.foldl_append, h]
  exact foldl_none _
theorem szGa (g : Int × Int) : (Try.prog.info? 55).map (·.size) = some (#[.int .i64 g.1, .int .i64 g.2] : Array Value).size := by show _ = some 2; kernel_rfl
set_option maxHeartbeats 2000000 in
theorem rising_any {w : World} {B : Nat} {v : Value} {L : List (Int × Int)} (q : Row w B 2 v L.length (cellsG L)) (hB : B ≤ w.heap.size) (hn : L.length ≤ 20) : Calls Try.prog 54 #[v] w fun e w' => e = .returned (.bool (risO L).isSome) ∧ Below w.heap.size w w' := by
  obtain ⟨B0, hB0⟩ : ∃ B0, w.heap.size = B0 := ⟨_, rfl⟩
  have HB0 := Lib.hid hB0
  have HQ := Lib.hid (show ∀ w', Below B0 w w' → Row w' B 2 v L.length (cellsG L) from fun w' h => q.below (h.mono (by omega)))
  obtain ⟨rb, hrb⟩ : ∃ rb, (risO L).isSome = rb := ⟨_, rfl⟩
  rw [hrb]
  have HRB := Lib.hid hrb
  obtain ⟨oa, cap, hv, -, -⟩ := q.shape
  subst hv
  have bel0 : Below B0 w w := Below.refl _ _
  rw [hB0]
  clear hrb q hB0
  go_enter Try.func54, Try.ntmps54
  go_wp2_with fail
  go_loopw [3, 8] (fun s3 s8 wr => ∃ (i : Nat) (last : Int), s8 = .int .i64 (i : Nat) ∧ i ≤ L.length ∧ s3 = .int .i64 last ∧ (0 ≤ last ∧ last ≤ 65535) ∧ risO (L.take i) = some last ∧ Below B0 w wr) (fun _ s8 _ => L.length - (intOf s8).toNat)
  case atStart => exact ⟨0, 0, rfl, Nat.zero_le _, rfl, by decide, (by rw [List.take_zero]; rfl), bel0⟩
  case round =>
    rename World => wr
    clear bel0
    obtain ⟨i, last, rfl, hi, rfl, hlr, hris, bel⟩ := hrel
    by_cases hlt : i < L.length
    · have hii : (i : Int) < (L.length : Int) := by omega
      have hi0 : (0 : Int) ≤ (i : Int) := by omega
      obtain ⟨⟨g1, g2⟩, hx⟩ : ∃ x, L[i]? = some x := ⟨_, List.getElem?_eq_getElem hlt⟩
      obtain ⟨a, cap', hv, -, c0, c1⟩ := (HQ.out _ bel).two hlt (cellsG_at hx).1 (cellsG_at hx).2
      injection hv with hv1 hv2 hv3
      subst hv1
      subst hv3
      clear hv2
      have hpc : ∀ (j : Nat) u, (#[.int .i64 g1, .int .i64 g2] : Array Value)[j]? = some u → wr.cell? ((a.add (i * 2)).add j) = some u := fun j u hu => by
        rcases j with _ | _ | j
        · rw [add_z]; simp at hu; rw [← hu]; exact c0
        · rw [add_o]; simp at hu; rw [← hu]; exact c1
        · simp at hu
      have sz := szGa (g1, g2)
      dsimp only at sz
      have HX := Lib.hid (And.intro hx hris)
      have P2 := Blk.new wr 55 #[.int .i64 g1, .int .i64 g2]
      have bel2 := bel.alloc (by rw [← HB0.out]; exact bel.size) (.cells #[.int .i64 g1, .int .i64 g2] 55)
      clear hx hris c0 c1
      go_upto_region 5 with (refine wpList_load_from rfl 55 _ rfl (a.add (i * 2)) rfl #[.int .i64 g1, .int .i64 g2] _ hpc Try.underlying55 rfl sz ?_)
      obtain ⟨w2, hw2⟩ : ∃ w2, wr.alloc (.cells #[.int .i64 g1, .int .i64 g2] 55) = w2 := ⟨_, rfl⟩
      rw [hw2] at P2 bel2
      try rw [hw2]
      clear hw2 bel hpc sz
      obtain ⟨pb, hpb⟩ : ∃ pb, wr.heap.size = pb := ⟨_, rfl⟩
      rw [hpb] at P2
      try rw [hpb]
      clear hpb
      have p0 : w2.cell? ⟨pb, 0, none⟩ = some (.int .i64 g1) := P2.cell 0
      have p1 : w2.cell? ⟨pb, 1, none⟩ = some (.int .i64 g2) := P2.cell 1
      clear P2
      have HBL := Lib.hid bel2
      clear bel2
      by_cases hbad : g1 < last + 2 ∨ g2 < g1 ∨ 65535 < g2
      · have HY := Lib.hid (show rb = false by
          rw [← HRB.out, risO_none (i := i + 1) (by rw [take_snoc HX.out.1, risO_snoc, HX.out.2]; show (if g1 < last + 2 ∨ g2 < g1 ∨ 65535 < g2 then none else some g2) = none; rw [if_pos hbad])]
          rfl)
        by_cases e1 : g1 < last + 2
        · clear hbad
          go_wp2_with fail
          go_ret
          exact ⟨ret_bool HY.out.symm, HBL.out⟩
        · by_cases e2 : g2 < g1
          · clear hbad
            go_wp2_with fail
            go_ret
            exact ⟨ret_bool HY.out.symm, HBL.out⟩
          · have e3 : 65535 < g2 := by omega
            clear hbad
            go_wp2_with fail
            go_ret
            exact ⟨ret_bool HY.out.symm, HBL.out⟩
      · have e1 : ¬ g1 < last + 2 := by omega
        have e2 : ¬ g2 < g1 := by omega
        have e3 : ¬ 65535 < g2 := by omega
        have HR := Lib.hid (show risO (L.take (i + 1)) = some g2 by
          rw [take_snoc HX.out.1, risO_snoc, HX.out.2]
          show (if g1 < last + 2 ∨ g2 < g1 ∨ 65535 < g2 then none else some g2) = some g2
          rw [if_neg hbad])
        clear hbad
        go_wp2_with fail
        go_roundw
        case rel => exact ⟨i + 1, g2, by go_num, by omega, rfl, by omega, HR.out, HBL.out⟩
        case measure => simp [intOf]; omega
    · obtain rfl : i = L.length := by omega
      rw [List.take_length] at hris
      have HY := Lib.hid (show rb = true by rw [← HRB.out, hris]; rfl)
      have HBL := Lib.hid bel
      clear hris bel
      go_wp2_with fail
      go_ret
      exact ⟨ret_bool HY.out.symm, HBL.out⟩
set_option maxHeartbeats 2000000 in
theorem gaps_any {w : World} {B : Nat} {v : Value} {L : List (Int × Int)} (q : Row w B 2 v L.length (cellsG L)) (hB : B ≤ w.heap.size) (hn : L.length ≤ 20) (hg : ∀ x ∈ L, -9223372036854775808 ≤ x.1 ∧ x.1 ≤ 9223372036854775807) : Calls Try.prog 41 #[v] w fun e w' => e = .returned (.bool ((risO L).isSome && decide (L.length ≤ 16))) ∧ Below w.heap.size w w' := by
  obtain ⟨B0, hB0⟩ : ∃ B0, w.heap.size = B0 := ⟨_, rfl⟩
  have HB0 := Lib.hid hB0
  have HQ := Lib.hid (show ∀ w', Below B0 w w' → Row w' B 2 v L.length (cellsG L) from fun w' h => q.below (h.mono (by omega)))
  obtain ⟨rb, hrb⟩ : ∃ rb, ((risO L).isSome && decide (L.length ≤ 16)) = rb := ⟨_, rfl⟩
  rw [hrb]
  have HRB := Lib.hid hrb
  obtain ⟨oa, cap, hv, -, -⟩ := q.shape
  subst hv
  have bel0 : Below B0 w w := Below.refl _ _
  rw [hB0]
  have HGG := Lib.hid hg
  clear hrb q hB0 hg
  go_enter Try.func41, Try.ntmps41
  go_wp2_with fail
  go_loopw [3, 4] (fun s3 s4 wr => ∃ (i : Nat) (last : Int), s4 = .int .i64 (i : Nat) ∧ i ≤ L.length ∧ s3 = .int .i64 last ∧ (0 ≤ last ∧ last ≤ 65535) ∧ risO (L.take i) = some last ∧ Below B0 w wr) (fun _ s4 _ => L.length - (intOf s4).toNat)
  case atStart => exact ⟨0, 0, rfl, Nat.zero_le _, rfl, by decide, (by rw [List.take_zero]; rfl), bel0⟩
  case round =>
    rename World => wr
    clear bel0
    obtain ⟨i, last, rfl, hi, rfl, hlr, hris, bel⟩ := hrel
    by_cases hlt : i < L.length
    · have hii : (i : Int) < (L.length : Int) := by omega
      have hi0 : (0 : Int) ≤ (i : Int) := by omega
      obtain ⟨⟨g1, g2⟩, hx⟩ : ∃ x, L[i]? = some x := ⟨_, List.getElem?_eq_getElem hlt⟩
      obtain ⟨a, cap', hv, hab, c0, c1⟩ := (HQ.out _ bel).two hlt (cellsG_at hx).1 (cellsG_at hx).2
      injection hv with hv1 hv2 hv3
      subst hv1
      subst hv3
      clear hv2
      have HX := Lib.hid (And.intro hx hris)
      have HG := Lib.hid (HGG.out _ (List.mem_of_getElem? hx))
      have hbs := bel.size
      have HBL := Lib.hid bel
      have q0 := cell_regrown c0
      have q1 := cell_regrown c1
      have p0 := c0
      have p1 := c1
      clear hx hris c0 c1 bel
      go_upto_region 5 with fail
      by_cases hbad : g1 < last + 2 ∨ g2 < g1 ∨ 65535 < g2
      · have HY := Lib.hid (show rb = false by
          rw [← HRB.out, risO_none (i := i + 1) (by rw [take_snoc HX.out.1, risO_snoc, HX.out.2]; show (if g1 < last + 2 ∨ g2 < g1 ∨ 65535 < g2 then none else some g2) = none; rw [if_pos hbad])]
          rfl)
        by_cases e0 : g1 < 2
        · clear hbad
          refine wp_region_quiet_below (by kernel_rfl) (by kernel_rfl) ?_
          repeat (any_goals (first | go_big_quiet_step (fail) | quiet_step (fail)))
          refine wpQuiet_nil ?_
          intro _ hw'
          obtain ⟨⟨dq, osq⟩, hw''⟩ := hw'
          subst hw''
          have HB2 := Lib.hid (HBL.out.trans ((below_regrown wr dq osq).mono (by rw [← HB0.out]; exact hbs)))
          clear q0 q1 p0 p1
          generalize grow (redrawn wr dq) osq = w9 at *
          go_wp2_with fail
          go_ret
          exact ⟨ret_bool HY.out.symm, HB2.out⟩
        · have hsub : IntKind.i64.wrap (g1 - 2) = g1 - 2 := IntWalk.i64_in _ (by have := HG.out; omega)
          by_cases e1 : g1 - 2 < last
          · clear hbad
            refine wp_region_quiet_below (by kernel_rfl) (by kernel_rfl) ?_
            repeat (any_goals (first | go_big_quiet_step (fail) | quiet_step (fail)))
            refine wpQuiet_nil ?_
            intro _ hw'
            obtain ⟨⟨dq, osq⟩, hw''⟩ := hw'
            subst hw''
            have HB2 := Lib.hid (HBL.out.trans ((below_regrown wr dq osq).mono (by rw [← HB0.out]; exact hbs)))
            clear q0 q1 p0 p1
            generalize grow (redrawn wr dq) osq = w9 at *
            go_wp2_with fail
            go_ret
            exact ⟨ret_bool HY.out.symm, HB2.out⟩
          · by_cases e2 : g2 < g1
            · clear hbad
              refine wp_region_quiet_below (by kernel_rfl) (by kernel_rfl) ?_
              repeat (any_goals (first | go_big_quiet_step (fail) | quiet_step (fail)))
              refine wpQuiet_nil ?_
              intro _ hw'
              obtain ⟨⟨dq, osq⟩, hw''⟩ := hw'
              subst hw''
              have HB2 := Lib.hid (HBL.out.trans ((below_regrown wr dq osq).mono (by rw [← HB0.out]; exact hbs)))
              clear q0 q1 p0 p1
              generalize grow (redrawn wr dq) osq = w9 at *
              go_wp2_with fail
              go_ret
              exact ⟨ret_bool HY.out.symm, HB2.out⟩
            · have e3 : 65535 < g2 := by omega
              clear hbad
              refine wp_region_quiet_below (by kernel_rfl) (by kernel_rfl) ?_
              repeat (any_goals (first | go_big_quiet_step (fail) | quiet_step (fail)))
              refine wpQuiet_nil ?_
              intro _ hw'
              obtain ⟨⟨dq, osq⟩, hw''⟩ := hw'
              subst hw''
              have HB2 := Lib.hid (HBL.out.trans ((below_regrown wr dq osq).mono (by rw [← HB0.out]; exact hbs)))
              clear q0 q1 p0 p1
              generalize grow (redrawn wr dq) osq = w9 at *
              go_wp2_with fail
              go_ret
              exact ⟨ret_bool HY.out.symm, HB2.out⟩
      · have e0 : ¬ g1 < 2 := by omega
        have hsub : IntKind.i64.wrap (g1 - 2) = g1 - 2 := IntWalk.i64_in _ (by have := HG.out; omega)
        have e1 : ¬ g1 - 2 < last := by omega
        have e2 : ¬ g2 < g1 := by omega
        have e3 : ¬ 65535 < g2 := by omega
        have HR := Lib.hid (show risO (L.take (i + 1)) = some g2 by
          rw [take_snoc HX.out.1, risO_snoc, HX.out.2]
          show (if g1 < last + 2 ∨ g2 < g1 ∨ 65535 < g2 then none else some g2) = some g2
          rw [if_neg hbad])
        clear hbad
        refine wp_region_quiet_below (by kernel_rfl) (by kernel_rfl) ?_
        repeat (any_goals (first | go_big_quiet_step (fail) | quiet_step (fail)))
        refine wpQuiet_nil ?_
        intro _ hw'
        obtain ⟨⟨dq, osq⟩, hw''⟩ := hw'
        subst hw''
        have HB2 := Lib.hid (HBL.out.trans ((below_regrown wr dq osq).mono (by rw [← HB0.out]; exact hbs)))
        have p1' := q1 dq osq
        clear q0 q1 p0 p1
        generalize grow (redrawn wr dq) osq = w9 at *
        go_wp2_with fail
        go_roundw
        case rel => exact ⟨i + 1, g2, by go_num, by omega, rfl, by omega, HR.out, HB2.out⟩
        case measure => simp [intOf]; omega
    · obtain rfl : i = L.length := by omega
      rw [List.take_length] at hris
      have HY := Lib.hid (show rb = decide (L.length ≤ 16) by rw [← HRB.out, hris]; rfl)
      have HBL := Lib.hid bel
      clear hris bel
      by_cases e : L.length ≤ 16
      · have e' : (L.length : Int) ≤ 16 := by omega
        go_wp2_with fail
        go_ret
        exact ⟨ret_bool (by rw [HY.out, decide_eq_true e]), HBL.out⟩
      · have e' : ¬ (L.length : Int) ≤ 16 := by omega
        go_wp2_with fail
        go_ret
        exact ⟨ret_bool (by rw [HY.out, decide_eq_false e]), HBL.out⟩
end Go.Proofs.Ytfpcneekbdcbcaa.ck
/- General words, over any program: long chains of '&&' and '||', operation by operation, with conditions that are not known. -/
namespace Go.Proofs.Ytfpcneekbdcbcaa.kit
open Go.ChangeShapes Go.WideShapes Go.ChangeAt Go.RowKit
section
variable {P : Program} {ops : Array Oper} {Q : Exit → Act → World → Prop}
theorem kp {a b : Act} {d t : Nat} {u v : Value} (h : b = a.put (some d) u) (hne : d ≠ t) (f : a.eval (.tmp t) = v) : b.eval (.tmp t) = v := by rw [h]; exact (Act.eval_put_ne _ d t _ hne).trans f
theorem nw {a b : Act} {d n : Nat} {u : Value} (h : b = a.put (some d) u) (hz : a.tmps.size = n) (hd : d < n) : b.eval (.tmp d) = u := by rw [h]; exact Act.eval_put_same _ _ _ (by rw [hz]; exact hd)
theorem sp {a b : Act} {d n : Nat} {u : Value} (h : b = a.put (some d) u) (hz : a.tmps.size = n) : b.tmps.size = n := by rw [h]; exact (Act.size_put _ _ _).trans hz
theorem tmp_of {a : Act} {d : Nat} {b : Bool} (he : a.eval (.tmp d) = .bool b) : a.tmps[d]? = some (.bool b) := by
  have he' : a.tmps.getD d undef = .bool b := he
  rw [Array.getD_eq_getD_getElem?] at he'
  cases hq : a.tmps[d]? with
  | none => rw [hq] at he'; cases he'
  | some u => rw [hq] at he'; exact congrArg some he'
theorem wanted_eq {o : Oper} {k : Nat} {bb b : Bool} {dk : Nat} {a : Act} (hg : o.guard = some (k, bb)) (hk : (ops[k]?).bind (·.dst) = some dk) (he : a.eval (.tmp dk) = .bool b) : Region.wanted o (yielded ops a.tmps) = (b == bb) := by
  have h := tmp_of he
  cases b <;> cases bb <;> simp [Region.wanted, hg, yielded, hk, h]
theorem list_val {o : Oper} {rest : List Oper} {a : Act} {w : World} {u : Value} {d : Nat} (hg : o.guard = none) (hd : o.dst = some d) (hrun : (execOp a.eval o).run P w = .ok (.value u) w) (h : wpList P ops Q rest (a.put (some d) u) w) : wpList P ops Q (o :: rest) a w :=
  wpList_plain hg fun _ hK => wp_val hrun hd (hK _ _ h)
/-- What stands in a slot, if a condition holds. -/
def cv (c : Bool) (u : Value) : Value := if c = true then u else undef
theorem cv_true (u : Value) : cv true u = u := rfl
theorem cv_of {c : Bool} {u : Value} (h : c = true) : cv c u = u := if_pos h
theorem wanted_no {o : Oper} {k : Nat} {bb : Bool} {dk : Nat} {a : Act} (hg : o.guard = some (k, bb)) (hk : (ops[k]?).bind (·.dst) = some dk) (he : a.eval (.tmp dk) = undef) : Region.wanted o (yielded ops a.tmps) = false := by
  have he' : a.tmps.getD dk undef = undef := he
  rw [Array.getD_eq_getD_getElem?] at he'
  cases hq : a.tmps[dk]? with
  | none => simp [Region.wanted, hg, yielded, hk, hq]
  | some u =>
    rw [hq] at he'
    have hu : u = undef := he'
    subst hu
    simp [Region.wanted, hg, yielded, hk, hq, undef]
theorem list_if {o : Oper} {rest : List Oper} {a : Act} {w : World} {u : Value} {d k dk : Nat} {b bb c c' : Bool} (hg : o.guard = some (k, bb)) (hk : (ops[k]?).bind (·.dst) = some dk) (he : a.eval (.tmp dk) = cv c (.bool b)) (hd : o.dst = some d) (hc : (c && (b == bb)) = c') (hrun : c' = true → (execOp a.eval o).run P w = .ok (.value u) w)
    (h : wpList P ops Q rest (a.put (some d) (cv c' u)) w) : wpList P ops Q (o :: rest) a w := by
  have hw : Region.wanted o (yielded ops a.tmps) = c' := by
    rw [← hc]
    cases c with
    | true => rw [cv_true] at he; rw [wanted_eq hg hk he, Bool.true_and]
    | false => rw [wanted_no hg hk he, Bool.false_and]
  by_cases hb : c' = true
  · rw [cv_of hb] at h
    refine wpList_step fun K hK => ?_
    rw [if_pos (by rw [hw, hb])]
    exact wp_val (hrun hb) hd (hK _ _ h)
  · rw [show cv c' u = undef from if_neg hb] at h
    refine wpList_step fun K hK => ?_
    rw [if_neg (by rw [hw]; exact hb)]
    rw [hd]
    exact hK _ _ h
theorem abs_list {rest : List Oper} (a : Act) {w : World} (h : ∀ b : Act, b = a → wpList P ops Q rest b w) : wpList P ops Q rest a w := h a rfl
theorem run_not {oi : Oper} {a : Act} {x : Operand} {ty : TypeId} {b : Bool} {v : World} (ho : oi.op = .unOp .not ty x) (hx : a.eval x = .bool b) : (execOp a.eval oi).run P v = .ok (.value (.bool (!b))) v := by
  unfold execOp
  simp [ho, hx, Op.unary, asBool]
theorem run_ord {oi : Oper} {a : Act} {x y : Operand} {tx ty : TypeId} {s j u : Value} {v : World} {op : BinOp} (ho : oi.op = .binOp op tx x y ty) (hop : op = .lss ∨ op = .gtr ∨ op = .leq ∨ op = .geq ∨ op = .add ∨ op = .sub ∨ op = .and ∨ op = .andNot) (hx : a.eval x = s) (hy : a.eval y = j) (hr : (binOp op tx s j).run P v = .ok u v) : (execOp a.eval oi).run P v = .ok (.value u) v := by
  unfold execOp
  rcases hop with rfl | rfl | rfl | rfl | rfl | rfl | rfl | rfl <;> simp [ho, hx, hy, eqGuard, hr]
theorem run_cmp_str {oi : Oper} {a : Act} {x y : Operand} {tx ty : TypeId} {p q : ByteArray} {u : Value} {v : World} {op : BinOp} (ho : oi.op = .binOp op tx x y ty) (hop : op = .neq ∨ op = .eql) (hx : a.eval x = .string p) (hy : a.eval y = .string q) (hr : (binOp op tx (.string p) (.string q)).run P v = .ok u v) : (execOp a.eval oi).run P v = .ok (.value u) v := by
  unfold execOp
  rcases hop with rfl | rfl <;> simp [ho, hx, hy, eqGuard, hr]
end
end Go.Proofs.Ytfpcneekbdcbcaa.kit
/- Layer 6: has a chunk what those of its type have not? The document's chain (gen-ckd.py wrote this). -/
namespace Go.Proofs.Ytfpcneekbdcbcaa.ck
open Go.ChangeShapes Go.WideShapes Go.ChangeAt Go.RowKit kit oct par
set_option maxRecDepth 100000

theorem eval_const (a : Act) (v : Value) : a.eval (.const v) = v := rfl
theorem neq_i3 (x y : Int) (W : World) : (binOp .neq 3 (.int .i64 x) (.int .i64 y)).run Try.prog W = .ok (.bool (x != y)) W := by go_simp
theorem eql_i3 (x y : Int) (W : World) : (binOp .eql 3 (.int .i64 x) (.int .i64 y)).run Try.prog W = .ok (.bool (x == y)) W := by go_simp
theorem neq_i22 (x y : Int) (W : World) : (binOp .neq 22 (.int .u32 x) (.int .u32 y)).run Try.prog W = .ok (.bool (x != y)) W := by go_simp
theorem eql_i22 (x y : Int) (W : World) : (binOp .eql 22 (.int .u32 x) (.int .u32 y)).run Try.prog W = .ok (.bool (x == y)) W := by go_simp
theorem neq_s (x y : ByteArray) (W : World) : (binOp .neq 9 (.string x) (.string y)).run Try.prog W = .ok (.bool (!(x.toList == y.toList))) W := by go_simp
theorem eql_s (x y : ByteArray) (W : World) : (binOp .eql 9 (.string x) (.string y)).run Try.prog W = .ok (.bool (x.toList == y.toList)) W := by go_simp
theorem lss_i3 (x y : Int) (W : World) : (binOp .lss 3 (.int .i64 x) (.int .i64 y)).run Try.prog W = .ok (.bool (decide (x < y))) W := by go_simp
theorem gtr_i3 (x y : Int) (W : World) : (binOp .gtr 3 (.int .i64 x) (.int .i64 y)).run Try.prog W = .ok (.bool (decide (y < x))) W := by go_simp
theorem leq_i3 (x y : Int) (W : World) : (binOp .leq 3 (.int .i64 x) (.int .i64 y)).run Try.prog W = .ok (.bool (decide (x ≤ y))) W := by go_simp
theorem geq_i3 (x y : Int) (W : World) : (binOp .geq 3 (.int .i64 x) (.int .i64 y)).run Try.prog W = .ok (.bool (decide (y ≤ x))) W := by go_simp
theorem add_n (x y : Nat) (h : x + y ≤ 1000000) (W : World) : (binOp .add 3 (.int .i64 (x : Nat)) (.int .i64 (y : Nat))).run Try.prog W = .ok (.int .i64 ((x + y : Nat) : Nat)) W := by
  have h1 : IntKind.i64.wrap ((x : Int) + (y : Int)) = ((x + y : Nat) : Int) := by rw [IntWalk.i64_in _ (by omega)]; omega
  go_simp
theorem len_sl23 (o : Option Addr) (n c : Nat) (W : World) (cs) : (builtin .len #[23] 3 cs #[.slice o n c]).run Try.prog W = .ok (.value (.int .i64 (n : Nat))) W := by go_simp
theorem len_sl24 (o : Option Addr) (n c : Nat) (W : World) (cs) : (builtin .len #[24] 3 cs #[.slice o n c]).run Try.prog W = .ok (.value (.int .i64 (n : Nat))) W := by go_simp
theorem len_sl25 (o : Option Addr) (n c : Nat) (W : World) (cs) : (builtin .len #[25] 3 cs #[.slice o n c]).run Try.prog W = .ok (.value (.int .i64 (n : Nat))) W := by go_simp
theorem len_sl26 (o : Option Addr) (n c : Nat) (W : World) (cs) : (builtin .len #[26] 3 cs #[.slice o n c]).run Try.prog W = .ok (.value (.int .i64 (n : Nat))) W := by go_simp
theorem len_st (s : ByteArray) (W : World) (cs) : (builtin .len #[9] 3 cs #[.string s]).run Try.prog W = .ok (.value (.int .i64 (s.size : Nat))) W := by go_simp
def hasV (t1B t2B t3B t4B t5B t6B t7B t8B t9B t10B t11B t12B t13B t14B t15B t16B t17B t18B t19B t20B t21B t22B t23B t24B t25B t26B t27B : Bool) : Bool := ((((((((((t10B && (!((((t1B || t2B) || t3B) || t4B) || t5B))) || ((t11B && t12B) && t13B)) || ((t14B && t12B) && t13B)) || (t15B && t12B)) || (t16B && (!((((t1B || t6B) || t7B) || t8B) || t9B)))) || (((t17B || t18B) || t19B) && t20B)) || ((t21B && t20B) && t22B)) || ((t23B && t20B) && t24B)) || (t25B && t26B)) || (t27B && t22B))
def hasF (X : Ck) (nP nK nG nD : Nat) (kv : Int) : Bool := hasV (((kv : Int) == (0 : Int))) (((kv : Int) == (1 : Int))) (((kv : Int) == (3 : Int))) (((kv : Int) == (7 : Int))) (((kv : Int) == (16 : Int))) (((kv : Int) == (4 : Int))) (((kv : Int) == (10 : Int))) (((kv : Int) == (15 : Int))) (((kv : Int) == (20 : Int))) (((X.tsn : Int) != (0 : Int))) (((X.st : Int) != (0 : Int))) (((kv : Int) != (0 : Int))) (((kv : Int) != (15 : Int))) (((X.ss : Int) != (0 : Int))) (((X.pr : Int) != (0 : Int))) ((!(X.d.toList == (⟨#[]⟩ : ByteArray).toList))) (((X.tg : Int) != (0 : Int))) (((X.ou : Int) != (0 : Int))) (((X.ii : Int) != (0 : Int))) (((kv : Int) != (1 : Int))) (((X.rw : Int) != (0 : Int))) (((kv : Int) != (3 : Int))) (decide ((0 : Int) < ((nP : Nat) : Int))) (((kv : Int) != (16 : Int))) (decide ((0 : Int) < ((nK : Nat) : Int))) (((kv : Int) != (6 : Int))) (decide ((0 : Int) < (((nG + nD : Nat) : Nat) : Int)))
set_option maxHeartbeats 8000000 in
theorem has_any (X : Ck) (oP oK oG oD : Option Addr) (nP cP nK cK nG cG nD cD : Nat) (hG : nG ≤ 18) (hD : nD ≤ 18) (w : World) : Calls Try.prog 40 #[.agg (ckc X (.slice oP nP cP) (.slice oK nK cK) (.slice oG nG cG) (.slice oD nD cD))] w fun e w' => e = .returned (.bool (hasF X nP nK nG nD (kindV X.ty))) ∧ Below w.heap.size w w' := by
  have hk := kind_val X.ty
  obtain ⟨kv, hkv⟩ : ∃ kv, kindV X.ty = kv := ⟨_, rfl⟩
  rw [hkv] at hk ⊢
  clear hkv
  obtain ⟨rb, hrb⟩ : ∃ rb, hasF X nP nK nG nD kv = rb := ⟨_, rfl⟩
  rw [hrb]
  have HRB := Lib.hid hrb
  clear hrb
  have X0 := Blk.new w 28 (ckc X (.slice oP nP cP) (.slice oK nK cK) (.slice oG nG cG) (.slice oD nD cD))
  have bel0 := (Below.refl w.heap.size w).alloc (Nat.le_refl _) (.cells (ckc X (.slice oP nP cP) (.slice oK nK cK) (.slice oG nG cG) (.slice oD nD cD)) 28)
  unfold ckc at X0 bel0 ⊢
  go_enter Try.func40, Try.ntmps40
  go_upto_region 1 with fail
  obtain ⟨w0, hw0⟩ : ∃ w0, w.alloc (.cells #[.int .i64 X.ty, .int .i64 X.fl, .int .u32 X.tsn, .int .i64 X.st, .int .i64 X.ss, .int .u32 X.pr, .string X.d, .int .u32 X.tg, .int .u32 X.rw, .int .i64 X.ou, .int .i64 X.ii, .slice oP nP cP, .slice oK nK cK, .slice oG nG cG, .slice oD nD cD] 28) = w0 := ⟨_, rfl⟩
  rw [hw0] at X0 bel0
  try rw [hw0]
  clear hw0
  obtain ⟨cb, hcb⟩ : ∃ cb, w.heap.size = cb := ⟨_, rfl⟩
  have hcl := X0.lt
  rw [hcb] at X0 hcl
  try rw [hcb]
  have x0 : w0.cell? ⟨cb, 0, none⟩ = some (.int .i64 X.ty) := X0.cell 0
  go_wp2_with fail
  refine (hk w0).mono ?_
  rintro e w1 ⟨rfl, hb1⟩
  have X1 := X0.below hb1 hcl
  have bel1 := bel0.trans (hb1.mono bel0.size)
  clear X0 bel0 hk hb1 x0
  obtain ⟨t1B, ht1B⟩ : ∃ b : Bool, ((kv : Int) == (0 : Int)) = b := ⟨_, rfl⟩
  obtain ⟨t2B, ht2B⟩ : ∃ b : Bool, ((kv : Int) == (1 : Int)) = b := ⟨_, rfl⟩
  obtain ⟨t3B, ht3B⟩ : ∃ b : Bool, ((kv : Int) == (3 : Int)) = b := ⟨_, rfl⟩
  obtain ⟨t4B, ht4B⟩ : ∃ b : Bool, ((kv : Int) == (7 : Int)) = b := ⟨_, rfl⟩
  obtain ⟨t5B, ht5B⟩ : ∃ b : Bool, ((kv : Int) == (16 : Int)) = b := ⟨_, rfl⟩
  obtain ⟨t6B, ht6B⟩ : ∃ b : Bool, ((kv : Int) == (4 : Int)) = b := ⟨_, rfl⟩
  obtain ⟨t7B, ht7B⟩ : ∃ b : Bool, ((kv : Int) == (10 : Int)) = b := ⟨_, rfl⟩
  obtain ⟨t8B, ht8B⟩ : ∃ b : Bool, ((kv : Int) == (15 : Int)) = b := ⟨_, rfl⟩
  obtain ⟨t9B, ht9B⟩ : ∃ b : Bool, ((kv : Int) == (20 : Int)) = b := ⟨_, rfl⟩
  obtain ⟨t10B, ht10B⟩ : ∃ b : Bool, ((X.tsn : Int) != (0 : Int)) = b := ⟨_, rfl⟩
  obtain ⟨t11B, ht11B⟩ : ∃ b : Bool, ((X.st : Int) != (0 : Int)) = b := ⟨_, rfl⟩
  obtain ⟨t12B, ht12B⟩ : ∃ b : Bool, ((kv : Int) != (0 : Int)) = b := ⟨_, rfl⟩
  obtain ⟨t13B, ht13B⟩ : ∃ b : Bool, ((kv : Int) != (15 : Int)) = b := ⟨_, rfl⟩
  obtain ⟨t14B, ht14B⟩ : ∃ b : Bool, ((X.ss : Int) != (0 : Int)) = b := ⟨_, rfl⟩
  obtain ⟨t15B, ht15B⟩ : ∃ b : Bool, ((X.pr : Int) != (0 : Int)) = b := ⟨_, rfl⟩
  obtain ⟨t16B, ht16B⟩ : ∃ b : Bool, (!(X.d.toList == (⟨#[]⟩ : ByteArray).toList)) = b := ⟨_, rfl⟩
  obtain ⟨t17B, ht17B⟩ : ∃ b : Bool, ((X.tg : Int) != (0 : Int)) = b := ⟨_, rfl⟩
  obtain ⟨t18B, ht18B⟩ : ∃ b : Bool, ((X.ou : Int) != (0 : Int)) = b := ⟨_, rfl⟩
  obtain ⟨t19B, ht19B⟩ : ∃ b : Bool, ((X.ii : Int) != (0 : Int)) = b := ⟨_, rfl⟩
  obtain ⟨t20B, ht20B⟩ : ∃ b : Bool, ((kv : Int) != (1 : Int)) = b := ⟨_, rfl⟩
  obtain ⟨t21B, ht21B⟩ : ∃ b : Bool, ((X.rw : Int) != (0 : Int)) = b := ⟨_, rfl⟩
  obtain ⟨t22B, ht22B⟩ : ∃ b : Bool, ((kv : Int) != (3 : Int)) = b := ⟨_, rfl⟩
  obtain ⟨t23B, ht23B⟩ : ∃ b : Bool, decide ((0 : Int) < ((nP : Nat) : Int)) = b := ⟨_, rfl⟩
  obtain ⟨t24B, ht24B⟩ : ∃ b : Bool, ((kv : Int) != (16 : Int)) = b := ⟨_, rfl⟩
  obtain ⟨t25B, ht25B⟩ : ∃ b : Bool, decide ((0 : Int) < ((nK : Nat) : Int)) = b := ⟨_, rfl⟩
  obtain ⟨t26B, ht26B⟩ : ∃ b : Bool, ((kv : Int) != (6 : Int)) = b := ⟨_, rfl⟩
  obtain ⟨t27B, ht27B⟩ : ∃ b : Bool, decide ((0 : Int) < (((nG + nD : Nat) : Nat) : Int)) = b := ⟨_, rfl⟩
  go_upto_region 2 with fail
  refine wp_region_lit ?_
  refine abs_list _ (fun ac hac => ?_)
  have hsz : ac.tmps.size = 166 := by rw [hac]; rfl
  have f1 : ac.eval (.tmp 1) = .pointer (some ⟨cb, 0, none⟩) := by rw [hac]; rfl
  have f3 : ac.eval (.tmp 3) = .int .i64 kv := by rw [hac]; rfl
  have HB := Lib.hid hac
  clear hac
  refine list_val (u := .int .i64 kv) rfl rfl (run_move rfl f3 _) ?_
  refine abs_list _ (fun a1 h1 => ?_)
  have z1 := sp h1 hsz
  replace f1 := kp h1 (by decide) f1
  replace f3 := kp h1 (by decide) f3
  have f9 := nw h1 hsz (by decide)
  replace h1 := Lib.hid h1
  refine list_val (u := .bool t1B) rfl rfl (run_cmp_int (k := .i64) (p := kv) (q := 0) rfl (.inr rfl) f9 rfl ((eql_i3 _ _ _).trans (by rw [ht1B]))) ?_
  refine abs_list _ (fun a2 h2 => ?_)
  have z2 := sp h2 z1
  replace f1 := kp h2 (by decide) f1
  replace f3 := kp h2 (by decide) f3
  have f10 := nw h2 z1 (by decide)
  clear f9 z1
  replace h2 := Lib.hid h2
  refine list_val (u := .bool t1B) rfl rfl (run_move rfl f10 _) ?_
  refine abs_list _ (fun a3 h3 => ?_)
  have z3 := sp h3 z2
  replace f1 := kp h3 (by decide) f1
  replace f3 := kp h3 (by decide) f3
  have f11 := nw h3 z2 (by decide)
  clear f10 z2
  replace h3 := Lib.hid h3
  refine list_if (u := .int .i64 kv) (b := t1B) (c := true) (c' := (!t1B)) (dk := 11) rfl (by kernel_rfl) (f11.trans (cv_true _).symm) rfl (by cases t1B <;> rfl) (fun h => run_move rfl f3 _) ?_
  refine abs_list _ (fun a4 h4 => ?_)
  have z4 := sp h4 z3
  replace f1 := kp h4 (by decide) f1
  replace f3 := kp h4 (by decide) f3
  replace f11 := kp h4 (by decide) f11
  have f12 := nw h4 z3 (by decide)
  clear z3
  replace h4 := Lib.hid h4
  refine list_if (u := .bool t2B) (b := t1B) (c := true) (c' := (!t1B)) (dk := 11) rfl (by kernel_rfl) (f11.trans (cv_true _).symm) rfl (by cases t1B <;> rfl) (fun h => run_cmp_int (k := .i64) (p := kv) (q := 1) rfl (.inr rfl) (f12.trans (cv_of h)) rfl ((eql_i3 _ _ _).trans (by rw [ht2B]))) ?_
  refine abs_list _ (fun a5 h5 => ?_)
  have z5 := sp h5 z4
  replace f1 := kp h5 (by decide) f1
  replace f3 := kp h5 (by decide) f3
  replace f11 := kp h5 (by decide) f11
  have f13 := nw h5 z4 (by decide)
  clear f12 z4
  replace h5 := Lib.hid h5
  obtain ⟨q1B, hq1B⟩ : ∃ q : Bool, (t1B || t2B) = q := ⟨_, rfl⟩
  refine list_val (u := .bool q1B) rfl rfl (run_pick (b := t1B) rfl f11 (by rw [f13, ← hq1B]; cases t1B <;> cases t2B <;> simp [cv, eval_const])) ?_
  refine abs_list _ (fun a6 h6 => ?_)
  have z6 := sp h6 z5
  replace f1 := kp h6 (by decide) f1
  replace f3 := kp h6 (by decide) f3
  have f14 := nw h6 z5 (by decide)
  clear f11 f13 z5
  replace h6 := Lib.hid h6
  refine list_val (u := .bool q1B) rfl rfl (run_move rfl f14 _) ?_
  refine abs_list _ (fun a7 h7 => ?_)
  have z7 := sp h7 z6
  replace f1 := kp h7 (by decide) f1
  replace f3 := kp h7 (by decide) f3
  have f15 := nw h7 z6 (by decide)
  clear f14 z6
  replace h7 := Lib.hid h7
  refine list_if (u := .int .i64 kv) (b := q1B) (c := true) (c' := (!q1B)) (dk := 15) rfl (by kernel_rfl) (f15.trans (cv_true _).symm) rfl (by cases q1B <;> rfl) (fun h => run_move rfl f3 _) ?_
  refine abs_list _ (fun a8 h8 => ?_)
  have z8 := sp h8 z7
  replace f1 := kp h8 (by decide) f1
  replace f3 := kp h8 (by decide) f3
  replace f15 := kp h8 (by decide) f15
  have f16 := nw h8 z7 (by decide)
  clear z7
  replace h8 := Lib.hid h8
  refine list_if (u := .bool t3B) (b := q1B) (c := true) (c' := (!q1B)) (dk := 15) rfl (by kernel_rfl) (f15.trans (cv_true _).symm) rfl (by cases q1B <;> rfl) (fun h => run_cmp_int (k := .i64) (p := kv) (q := 3) rfl (.inr rfl) (f16.trans (cv_of h)) rfl ((eql_i3 _ _ _).trans (by rw [ht3B]))) ?_
  refine abs_list _ (fun a9 h9 => ?_)
  have z9 := sp h9 z8
  replace f1 := kp h9 (by decide) f1
  replace f3 := kp h9 (by decide) f3
  replace f15 := kp h9 (by decide) f15
  have f17 := nw h9 z8 (by decide)
  clear f16 z8
  replace h9 := Lib.hid h9
  obtain ⟨q2B, hq2B⟩ : ∃ q : Bool, (q1B || t3B) = q := ⟨_, rfl⟩
  refine list_val (u := .bool q2B) rfl rfl (run_pick (b := q1B) rfl f15 (by rw [f17, ← hq2B]; cases q1B <;> cases t3B <;> simp [cv, eval_const])) ?_
  refine abs_list _ (fun a10 h10 => ?_)
  have z10 := sp h10 z9
  replace f1 := kp h10 (by decide) f1
  replace f3 := kp h10 (by decide) f3
  have f18 := nw h10 z9 (by decide)
  clear f15 f17 z9
  replace h10 := Lib.hid h10
  refine list_val (u := .bool q2B) rfl rfl (run_move rfl f18 _) ?_
  refine abs_list _ (fun a11 h11 => ?_)
  have z11 := sp h11 z10
  replace f1 := kp h11 (by decide) f1
  replace f3 := kp h11 (by decide) f3
  have f19 := nw h11 z10 (by decide)
  clear f18 z10
  replace h11 := Lib.hid h11
  refine list_if (u := .int .i64 kv) (b := q2B) (c := true) (c' := (!q2B)) (dk := 19) rfl (by kernel_rfl) (f19.trans (cv_true _).symm) rfl (by cases q2B <;> rfl) (fun h => run_move rfl f3 _) ?_
  refine abs_list _ (fun a12 h12 => ?_)
  have z12 := sp h12 z11
  replace f1 := kp h12 (by decide) f1
  replace f3 := kp h12 (by decide) f3
  replace f19 := kp h12 (by decide) f19
  have f20 := nw h12 z11 (by decide)
  clear z11
  replace h12 := Lib.hid h12
  refine list_if (u := .bool t4B) (b := q2B) (c := true) (c' := (!q2B)) (dk := 19) rfl (by kernel_rfl) (f19.trans (cv_true _).symm) rfl (by cases q2B <;> rfl) (fun h => run_cmp_int (k := .i64) (p := kv) (q := 7) rfl (.inr rfl) (f20.trans (cv_of h)) rfl ((eql_i3 _ _ _).trans (by rw [ht4B]))) ?_
  refine abs_list _ (fun a13 h13 => ?_)
  have z13 := sp h13 z12
  replace f1 := kp h13 (by decide) f1
  replace f3 := kp h13 (by decide) f3
  replace f19 := kp h13 (by decide) f19
  have f21 := nw h13 z12 (by decide)
  clear f20 z12
  replace h13 := Lib.hid h13
  obtain ⟨q3B, hq3B⟩ : ∃ q : Bool, (q2B || t4B) = q := ⟨_, rfl⟩
  refine list_val (u := .bool q3B) rfl rfl (run_pick (b := q2B) rfl f19 (by rw [f21, ← hq3B]; cases q2B <;> cases t4B <;> simp [cv, eval_const])) ?_
  refine abs_list _ (fun a14 h14 => ?_)
  have z14 := sp h14 z13
  replace f1 := kp h14 (by decide) f1
  replace f3 := kp h14 (by decide) f3
  have f22 := nw h14 z13 (by decide)
  clear f19 f21 z13
  replace h14 := Lib.hid h14
  refine list_val (u := .bool q3B) rfl rfl (run_move rfl f22 _) ?_
  refine abs_list _ (fun a15 h15 => ?_)
  have z15 := sp h15 z14
  replace f1 := kp h15 (by decide) f1
  replace f3 := kp h15 (by decide) f3
  have f23 := nw h15 z14 (by decide)
  clear f22 z14
  replace h15 := Lib.hid h15
  refine list_if (u := .int .i64 kv) (b := q3B) (c := true) (c' := (!q3B)) (dk := 23) rfl (by kernel_rfl) (f23.trans (cv_true _).symm) rfl (by cases q3B <;> rfl) (fun h => run_move rfl f3 _) ?_
  refine abs_list _ (fun a16 h16 => ?_)
  have z16 := sp h16 z15
  replace f1 := kp h16 (by decide) f1
  replace f3 := kp h16 (by decide) f3
  replace f23 := kp h16 (by decide) f23
  have f24 := nw h16 z15 (by decide)
  clear z15
  replace h16 := Lib.hid h16
  refine list_if (u := .bool t5B) (b := q3B) (c := true) (c' := (!q3B)) (dk := 23) rfl (by kernel_rfl) (f23.trans (cv_true _).symm) rfl (by cases q3B <;> rfl) (fun h => run_cmp_int (k := .i64) (p := kv) (q := 16) rfl (.inr rfl) (f24.trans (cv_of h)) rfl ((eql_i3 _ _ _).trans (by rw [ht5B]))) ?_
  refine abs_list _ (fun a17 h17 => ?_)
  have z17 := sp h17 z16
  replace f1 := kp h17 (by decide) f1
  replace f3 := kp h17 (by decide) f3
  replace f23 := kp h17 (by decide) f23
  have f25 := nw h17 z16 (by decide)
  clear f24 z16
  replace h17 := Lib.hid h17
  obtain ⟨q4B, hq4B⟩ : ∃ q : Bool, (q3B || t5B) = q := ⟨_, rfl⟩
  refine list_val (u := .bool q4B) rfl rfl (run_pick (b := q3B) rfl f23 (by rw [f25, ← hq4B]; cases q3B <;> cases t5B <;> simp [cv, eval_const])) ?_
  refine abs_list _ (fun a18 h18 => ?_)
  have z18 := sp h18 z17
  replace f1 := kp h18 (by decide) f1
  replace f3 := kp h18 (by decide) f3
  have f26 := nw h18 z17 (by decide)
  clear f23 f25 z17
  replace h18 := Lib.hid h18
  refine list_val (u := .bool q4B) rfl rfl (run_assign rfl f26 _) ?_
  refine abs_list _ (fun a19 h19 => ?_)
  have z19 := sp h19 z18
  replace f1 := kp h19 (by decide) f1
  replace f3 := kp h19 (by decide) f3
  have f4 := nw h19 z18 (by decide)
  clear f26 z18
  replace h19 := Lib.hid h19
  refine wpList_nil ?_
  rw [h19.out, h18.out, h17.out, h16.out, h15.out, h14.out, h13.out, h12.out, h11.out, h10.out, h9.out, h8.out, h7.out, h6.out, h5.out, h4.out, h3.out, h2.out, h1.out, HB.out]
  simp only [Act.put, List.setIfInBounds_toArray, List.set_cons_zero, List.set_cons_succ]
  clear f1 f3 f4 z19 HB hsz h1 h2 h3 h4 h5 h6 h7 h8 h9 h10 h11 h12 h13 h14 h15 h16 h17 h18 h19
  go_upto_region 3 with fail
  refine wp_region_lit ?_
  refine abs_list _ (fun ac hac => ?_)
  have hsz : ac.tmps.size = 166 := by rw [hac]; rfl
  have f1 : ac.eval (.tmp 1) = .pointer (some ⟨cb, 0, none⟩) := by rw [hac]; rfl
  have f3 : ac.eval (.tmp 3) = .int .i64 kv := by rw [hac]; rfl
  have f4 : ac.eval (.tmp 4) = .bool q4B := by rw [hac]; rfl
  have HB := Lib.hid hac
  clear hac
  refine list_val (u := .int .i64 kv) rfl rfl (run_move rfl f3 _) ?_
  refine abs_list _ (fun a1 h1 => ?_)
  have z1 := sp h1 hsz
  replace f1 := kp h1 (by decide) f1
  replace f3 := kp h1 (by decide) f3
  replace f4 := kp h1 (by decide) f4
  have f27 := nw h1 hsz (by decide)
  replace h1 := Lib.hid h1
  refine list_val (u := .bool t1B) rfl rfl (run_cmp_int (k := .i64) (p := kv) (q := 0) rfl (.inr rfl) f27 rfl ((eql_i3 _ _ _).trans (by rw [ht1B]))) ?_
  refine abs_list _ (fun a2 h2 => ?_)
  have z2 := sp h2 z1
  replace f1 := kp h2 (by decide) f1
  replace f3 := kp h2 (by decide) f3
  replace f4 := kp h2 (by decide) f4
  have f28 := nw h2 z1 (by decide)
  clear f27 z1
  replace h2 := Lib.hid h2
  refine list_val (u := .bool t1B) rfl rfl (run_move rfl f28 _) ?_
  refine abs_list _ (fun a3 h3 => ?_)
  have z3 := sp h3 z2
  replace f1 := kp h3 (by decide) f1
  replace f3 := kp h3 (by decide) f3
  replace f4 := kp h3 (by decide) f4
  have f29 := nw h3 z2 (by decide)
  clear f28 z2
  replace h3 := Lib.hid h3
  refine list_if (u := .int .i64 kv) (b := t1B) (c := true) (c' := (!t1B)) (dk := 29) rfl (by kernel_rfl) (f29.trans (cv_true _).symm) rfl (by cases t1B <;> rfl) (fun h => run_move rfl f3 _) ?_
  refine abs_list _ (fun a4 h4 => ?_)
  have z4 := sp h4 z3
  replace f1 := kp h4 (by decide) f1
  replace f3 := kp h4 (by decide) f3
  replace f4 := kp h4 (by decide) f4
  replace f29 := kp h4 (by decide) f29
  have f30 := nw h4 z3 (by decide)
  clear z3
  replace h4 := Lib.hid h4
  refine list_if (u := .bool t6B) (b := t1B) (c := true) (c' := (!t1B)) (dk := 29) rfl (by kernel_rfl) (f29.trans (cv_true _).symm) rfl (by cases t1B <;> rfl) (fun h => run_cmp_int (k := .i64) (p := kv) (q := 4) rfl (.inr rfl) (f30.trans (cv_of h)) rfl ((eql_i3 _ _ _).trans (by rw [ht6B]))) ?_
  refine abs_list _ (fun a5 h5 => ?_)
  have z5 := sp h5 z4
  replace f1 := kp h5 (by decide) f1
  replace f3 := kp h5 (by decide) f3
  replace f4 := kp h5 (by decide) f4
  replace f29 := kp h5 (by decide) f29
  have f31 := nw h5 z4 (by decide)
  clear f30 z4
  replace h5 := Lib.hid h5
  obtain ⟨q101B, hq101B⟩ : ∃ q : Bool, (t1B || t6B) = q := ⟨_, rfl⟩
  refine list_val (u := .bool q101B) rfl rfl (run_pick (b := t1B) rfl f29 (by rw [f31, ← hq101B]; cases t1B <;> cases t6B <;> simp [cv, eval_const])) ?_
  refine abs_list _ (fun a6 h6 => ?_)
  have z6 := sp h6 z5
  replace f1 := kp h6 (by decide) f1
  replace f3 := kp h6 (by decide) f3
  replace f4 := kp h6 (by decide) f4
  have f32 := nw h6 z5 (by decide)
  clear f29 f31 z5
  replace h6 := Lib.hid h6
  refine list_val (u := .bool q101B) rfl rfl (run_move rfl f32 _) ?_
  refine abs_list _ (fun a7 h7 => ?_)
  have z7 := sp h7 z6
  replace f1 := kp h7 (by decide) f1
  replace f3 := kp h7 (by decide) f3
  replace f4 := kp h7 (by decide) f4
  have f33 := nw h7 z6 (by decide)
  clear f32 z6
  replace h7 := Lib.hid h7
  refine list_if (u := .int .i64 kv) (b := q101B) (c := true) (c' := (!q101B)) (dk := 33) rfl (by kernel_rfl) (f33.trans (cv_true _).symm) rfl (by cases q101B <;> rfl) (fun h => run_move rfl f3 _) ?_
  refine abs_list _ (fun a8 h8 => ?_)
  have z8 := sp h8 z7
  replace f1 := kp h8 (by decide) f1
  replace f3 := kp h8 (by decide) f3
  replace f4 := kp h8 (by decide) f4
  replace f33 := kp h8 (by decide) f33
  have f34 := nw h8 z7 (by decide)
  clear z7
  replace h8 := Lib.hid h8
  refine list_if (u := .bool t7B) (b := q101B) (c := true) (c' := (!q101B)) (dk := 33) rfl (by kernel_rfl) (f33.trans (cv_true _).symm) rfl (by cases q101B <;> rfl) (fun h => run_cmp_int (k := .i64) (p := kv) (q := 10) rfl (.inr rfl) (f34.trans (cv_of h)) rfl ((eql_i3 _ _ _).trans (by rw [ht7B]))) ?_
  refine abs_list _ (fun a9 h9 => ?_)
  have z9 := sp h9 z8
  replace f1 := kp h9 (by decide) f1
  replace f3 := kp h9 (by decide) f3
  replace f4 := kp h9 (by decide) f4
  replace f33 := kp h9 (by decide) f33
  have f35 := nw h9 z8 (by decide)
  clear f34 z8
  replace h9 := Lib.hid h9
  obtain ⟨q102B, hq102B⟩ : ∃ q : Bool, (q101B || t7B) = q := ⟨_, rfl⟩
  refine list_val (u := .bool q102B) rfl rfl (run_pick (b := q101B) rfl f33 (by rw [f35, ← hq102B]; cases q101B <;> cases t7B <;> simp [cv, eval_const])) ?_
  refine abs_list _ (fun a10 h10 => ?_)
  have z10 := sp h10 z9
  replace f1 := kp h10 (by decide) f1
  replace f3 := kp h10 (by decide) f3
  replace f4 := kp h10 (by decide) f4
  have f36 := nw h10 z9 (by decide)
  clear f33 f35 z9
  replace h10 := Lib.hid h10
  refine list_val (u := .bool q102B) rfl rfl (run_move rfl f36 _) ?_
  refine abs_list _ (fun a11 h11 => ?_)
  have z11 := sp h11 z10
  replace f1 := kp h11 (by decide) f1
  replace f3 := kp h11 (by decide) f3
  replace f4 := kp h11 (by decide) f4
  have f37 := nw h11 z10 (by decide)
  clear f36 z10
  replace h11 := Lib.hid h11
  refine list_if (u := .int .i64 kv) (b := q102B) (c := true) (c' := (!q102B)) (dk := 37) rfl (by kernel_rfl) (f37.trans (cv_true _).symm) rfl (by cases q102B <;> rfl) (fun h => run_move rfl f3 _) ?_
  refine abs_list _ (fun a12 h12 => ?_)
  have z12 := sp h12 z11
  replace f1 := kp h12 (by decide) f1
  replace f3 := kp h12 (by decide) f3
  replace f4 := kp h12 (by decide) f4
  replace f37 := kp h12 (by decide) f37
  have f38 := nw h12 z11 (by decide)
  clear z11
  replace h12 := Lib.hid h12
  refine list_if (u := .bool t8B) (b := q102B) (c := true) (c' := (!q102B)) (dk := 37) rfl (by kernel_rfl) (f37.trans (cv_true _).symm) rfl (by cases q102B <;> rfl) (fun h => run_cmp_int (k := .i64) (p := kv) (q := 15) rfl (.inr rfl) (f38.trans (cv_of h)) rfl ((eql_i3 _ _ _).trans (by rw [ht8B]))) ?_
  refine abs_list _ (fun a13 h13 => ?_)
  have z13 := sp h13 z12
  replace f1 := kp h13 (by decide) f1
  replace f3 := kp h13 (by decide) f3
  replace f4 := kp h13 (by decide) f4
  replace f37 := kp h13 (by decide) f37
  have f39 := nw h13 z12 (by decide)
  clear f38 z12
  replace h13 := Lib.hid h13
  obtain ⟨q103B, hq103B⟩ : ∃ q : Bool, (q102B || t8B) = q := ⟨_, rfl⟩
  refine list_val (u := .bool q103B) rfl rfl (run_pick (b := q102B) rfl f37 (by rw [f39, ← hq103B]; cases q102B <;> cases t8B <;> simp [cv, eval_const])) ?_
  refine abs_list _ (fun a14 h14 => ?_)
  have z14 := sp h14 z13
  replace f1 := kp h14 (by decide) f1
  replace f3 := kp h14 (by decide) f3
  replace f4 := kp h14 (by decide) f4
  have f40 := nw h14 z13 (by decide)
  clear f37 f39 z13
  replace h14 := Lib.hid h14
  refine list_val (u := .bool q103B) rfl rfl (run_move rfl f40 _) ?_
  refine abs_list _ (fun a15 h15 => ?_)
  have z15 := sp h15 z14
  replace f1 := kp h15 (by decide) f1
  replace f3 := kp h15 (by decide) f3
  replace f4 := kp h15 (by decide) f4
  have f41 := nw h15 z14 (by decide)
  clear f40 z14
  replace h15 := Lib.hid h15
  refine list_if (u := .int .i64 kv) (b := q103B) (c := true) (c' := (!q103B)) (dk := 41) rfl (by kernel_rfl) (f41.trans (cv_true _).symm) rfl (by cases q103B <;> rfl) (fun h => run_move rfl f3 _) ?_
  refine abs_list _ (fun a16 h16 => ?_)
  have z16 := sp h16 z15
  replace f1 := kp h16 (by decide) f1
  replace f3 := kp h16 (by decide) f3
  replace f4 := kp h16 (by decide) f4
  replace f41 := kp h16 (by decide) f41
  have f42 := nw h16 z15 (by decide)
  clear z15
  replace h16 := Lib.hid h16
  refine list_if (u := .bool t9B) (b := q103B) (c := true) (c' := (!q103B)) (dk := 41) rfl (by kernel_rfl) (f41.trans (cv_true _).symm) rfl (by cases q103B <;> rfl) (fun h => run_cmp_int (k := .i64) (p := kv) (q := 20) rfl (.inr rfl) (f42.trans (cv_of h)) rfl ((eql_i3 _ _ _).trans (by rw [ht9B]))) ?_
  refine abs_list _ (fun a17 h17 => ?_)
  have z17 := sp h17 z16
  replace f1 := kp h17 (by decide) f1
  replace f3 := kp h17 (by decide) f3
  replace f4 := kp h17 (by decide) f4
  replace f41 := kp h17 (by decide) f41
  have f43 := nw h17 z16 (by decide)
  clear f42 z16
  replace h17 := Lib.hid h17
  obtain ⟨q104B, hq104B⟩ : ∃ q : Bool, (q103B || t9B) = q := ⟨_, rfl⟩
  refine list_val (u := .bool q104B) rfl rfl (run_pick (b := q103B) rfl f41 (by rw [f43, ← hq104B]; cases q103B <;> cases t9B <;> simp [cv, eval_const])) ?_
  refine abs_list _ (fun a18 h18 => ?_)
  have z18 := sp h18 z17
  replace f1 := kp h18 (by decide) f1
  replace f3 := kp h18 (by decide) f3
  replace f4 := kp h18 (by decide) f4
  have f44 := nw h18 z17 (by decide)
  clear f41 f43 z17
  replace h18 := Lib.hid h18
  refine list_val (u := .bool q104B) rfl rfl (run_assign rfl f44 _) ?_
  refine abs_list _ (fun a19 h19 => ?_)
  have z19 := sp h19 z18
  replace f1 := kp h19 (by decide) f1
  replace f3 := kp h19 (by decide) f3
  replace f4 := kp h19 (by decide) f4
  have f5 := nw h19 z18 (by decide)
  clear f44 z18
  replace h19 := Lib.hid h19
  refine wpList_nil ?_
  rw [h19.out, h18.out, h17.out, h16.out, h15.out, h14.out, h13.out, h12.out, h11.out, h10.out, h9.out, h8.out, h7.out, h6.out, h5.out, h4.out, h3.out, h2.out, h1.out, HB.out]
  simp only [Act.put, List.setIfInBounds_toArray, List.set_cons_zero, List.set_cons_succ]
  clear f1 f3 f4 f5 z19 HB hsz h1 h2 h3 h4 h5 h6 h7 h8 h9 h10 h11 h12 h13 h14 h15 h16 h17 h18 h19
  go_upto_region 4 with fail
  refine wp_region_lit ?_
  refine abs_list _ (fun ac hac => ?_)
  have hsz : ac.tmps.size = 166 := by rw [hac]; rfl
  have f1 : ac.eval (.tmp 1) = .pointer (some ⟨cb, 0, none⟩) := by rw [hac]; rfl
  have f3 : ac.eval (.tmp 3) = .int .i64 kv := by rw [hac]; rfl
  have f4 : ac.eval (.tmp 4) = .bool q4B := by rw [hac]; rfl
  have f5 : ac.eval (.tmp 5) = .bool q104B := by rw [hac]; rfl
  have HB := Lib.hid hac
  clear hac
  refine list_val (u := .pointer (some ⟨cb, 2, none⟩)) rfl rfl (run_field (s := .pointer (some ⟨cb, 0, none⟩)) rfl f1 (by kernel_rfl)) ?_
  refine abs_list _ (fun a1 h1 => ?_)
  have z1 := sp h1 hsz
  replace f1 := kp h1 (by decide) f1
  replace f3 := kp h1 (by decide) f3
  replace f4 := kp h1 (by decide) f4
  replace f5 := kp h1 (by decide) f5
  have f45 := nw h1 hsz (by decide)
  replace h1 := Lib.hid h1
  refine list_val (u := .int .u32 X.tsn) rfl rfl (run_load1 (s := .pointer (some ⟨cb, 2, none⟩)) rfl f45 (by have c : w1.cell? ⟨cb, 2, none⟩ = some (.int .u32 X.tsn) := X1.cell 2; go_simp)) ?_
  refine abs_list _ (fun a2 h2 => ?_)
  have z2 := sp h2 z1
  replace f1 := kp h2 (by decide) f1
  replace f3 := kp h2 (by decide) f3
  replace f4 := kp h2 (by decide) f4
  replace f5 := kp h2 (by decide) f5
  have f46 := nw h2 z1 (by decide)
  clear f45 z1
  replace h2 := Lib.hid h2
  refine list_val (u := .bool t10B) rfl rfl (run_cmp_int (k := .u32) (p := X.tsn) (q := 0) rfl (.inl rfl) f46 rfl ((neq_i22 _ _ _).trans (by rw [ht10B]))) ?_
  refine abs_list _ (fun a3 h3 => ?_)
  have z3 := sp h3 z2
  replace f1 := kp h3 (by decide) f1
  replace f3 := kp h3 (by decide) f3
  replace f4 := kp h3 (by decide) f4
  replace f5 := kp h3 (by decide) f5
  have f47 := nw h3 z2 (by decide)
  clear f46 z2
  replace h3 := Lib.hid h3
  refine list_val (u := .bool t10B) rfl rfl (run_move rfl f47 _) ?_
  refine abs_list _ (fun a4 h4 => ?_)
  have z4 := sp h4 z3
  replace f1 := kp h4 (by decide) f1
  replace f3 := kp h4 (by decide) f3
  replace f4 := kp h4 (by decide) f4
  replace f5 := kp h4 (by decide) f5
  have f48 := nw h4 z3 (by decide)
  clear f47 z3
  replace h4 := Lib.hid h4
  refine list_if (u := .bool q4B) (b := t10B) (c := true) (c' := t10B) (dk := 48) rfl (by kernel_rfl) (f48.trans (cv_true _).symm) rfl (by cases t10B <;> rfl) (fun h => run_move rfl f4 _) ?_
  refine abs_list _ (fun a5 h5 => ?_)
  have z5 := sp h5 z4
  replace f1 := kp h5 (by decide) f1
  replace f3 := kp h5 (by decide) f3
  replace f4 := kp h5 (by decide) f4
  replace f5 := kp h5 (by decide) f5
  replace f48 := kp h5 (by decide) f48
  have f49 := nw h5 z4 (by decide)
  clear z4
  replace h5 := Lib.hid h5
  refine list_if (u := .bool (!q4B)) (b := t10B) (c := true) (c' := t10B) (dk := 48) rfl (by kernel_rfl) (f48.trans (cv_true _).symm) rfl (by cases t10B <;> rfl) (fun h => run_not (b := q4B) rfl (f49.trans (cv_of h))) ?_
  refine abs_list _ (fun a6 h6 => ?_)
  have z6 := sp h6 z5
  replace f1 := kp h6 (by decide) f1
  replace f3 := kp h6 (by decide) f3
  replace f4 := kp h6 (by decide) f4
  replace f5 := kp h6 (by decide) f5
  replace f48 := kp h6 (by decide) f48
  have f50 := nw h6 z5 (by decide)
  clear f49 z5
  replace h6 := Lib.hid h6
  obtain ⟨q201B, hq201B⟩ : ∃ q : Bool, (t10B && (!q4B)) = q := ⟨_, rfl⟩
  refine list_val (u := .bool q201B) rfl rfl (run_pick (b := t10B) rfl f48 (by rw [f50, ← hq201B]; cases q4B <;> cases t10B <;> simp [cv, eval_const])) ?_
  refine abs_list _ (fun a7 h7 => ?_)
  have z7 := sp h7 z6
  replace f1 := kp h7 (by decide) f1
  replace f3 := kp h7 (by decide) f3
  replace f4 := kp h7 (by decide) f4
  replace f5 := kp h7 (by decide) f5
  have f51 := nw h7 z6 (by decide)
  clear f48 f50 z6
  replace h7 := Lib.hid h7
  refine list_val (u := .bool q201B) rfl rfl (run_move rfl f51 _) ?_
  refine abs_list _ (fun a8 h8 => ?_)
  have z8 := sp h8 z7
  replace f1 := kp h8 (by decide) f1
  replace f3 := kp h8 (by decide) f3
  replace f4 := kp h8 (by decide) f4
  replace f5 := kp h8 (by decide) f5
  have f52 := nw h8 z7 (by decide)
  clear f51 z7
  replace h8 := Lib.hid h8
  refine list_if (u := .pointer (some ⟨cb, 3, none⟩)) (b := q201B) (c := true) (c' := (!q201B)) (dk := 52) rfl (by kernel_rfl) (f52.trans (cv_true _).symm) rfl (by cases q201B <;> rfl) (fun h => run_field (s := .pointer (some ⟨cb, 0, none⟩)) rfl f1 (by kernel_rfl)) ?_
  refine abs_list _ (fun a9 h9 => ?_)
  have z9 := sp h9 z8
  replace f1 := kp h9 (by decide) f1
  replace f3 := kp h9 (by decide) f3
  replace f4 := kp h9 (by decide) f4
  replace f5 := kp h9 (by decide) f5
  replace f52 := kp h9 (by decide) f52
  have f53 := nw h9 z8 (by decide)
  clear z8
  replace h9 := Lib.hid h9
  refine list_if (u := .int .i64 X.st) (b := q201B) (c := true) (c' := (!q201B)) (dk := 52) rfl (by kernel_rfl) (f52.trans (cv_true _).symm) rfl (by cases q201B <;> rfl) (fun h => run_load1 (s := .pointer (some ⟨cb, 3, none⟩)) rfl (f53.trans (cv_of h)) (by have c : w1.cell? ⟨cb, 3, none⟩ = some (.int .i64 X.st) := X1.cell 3; go_simp)) ?_
  refine abs_list _ (fun a10 h10 => ?_)
  have z10 := sp h10 z9
  replace f1 := kp h10 (by decide) f1
  replace f3 := kp h10 (by decide) f3
  replace f4 := kp h10 (by decide) f4
  replace f5 := kp h10 (by decide) f5
  replace f52 := kp h10 (by decide) f52
  have f54 := nw h10 z9 (by decide)
  clear f53 z9
  replace h10 := Lib.hid h10
  refine list_if (u := .bool t11B) (b := q201B) (c := true) (c' := (!q201B)) (dk := 52) rfl (by kernel_rfl) (f52.trans (cv_true _).symm) rfl (by cases q201B <;> rfl) (fun h => run_cmp_int (k := .i64) (p := X.st) (q := 0) rfl (.inl rfl) (f54.trans (cv_of h)) rfl ((neq_i3 _ _ _).trans (by rw [ht11B]))) ?_
  refine abs_list _ (fun a11 h11 => ?_)
  have z11 := sp h11 z10
  replace f1 := kp h11 (by decide) f1
  replace f3 := kp h11 (by decide) f3
  replace f4 := kp h11 (by decide) f4
  replace f5 := kp h11 (by decide) f5
  replace f52 := kp h11 (by decide) f52
  have f55 := nw h11 z10 (by decide)
  clear f54 z10
  replace h11 := Lib.hid h11
  refine list_if (u := .bool t11B) (b := q201B) (c := true) (c' := (!q201B)) (dk := 52) rfl (by kernel_rfl) (f52.trans (cv_true _).symm) rfl (by cases q201B <;> rfl) (fun h => run_move rfl (f55.trans (cv_of h)) _) ?_
  refine abs_list _ (fun a12 h12 => ?_)
  have z12 := sp h12 z11
  replace f1 := kp h12 (by decide) f1
  replace f3 := kp h12 (by decide) f3
  replace f4 := kp h12 (by decide) f4
  replace f5 := kp h12 (by decide) f5
  replace f52 := kp h12 (by decide) f52
  have f56 := nw h12 z11 (by decide)
  clear f55 z11
  replace h12 := Lib.hid h12
  refine list_if (u := .int .i64 kv) (b := t11B) (c := (!q201B)) (c' := ((!q201B) && t11B)) (dk := 56) rfl (by kernel_rfl) f56 rfl (by cases q201B <;> cases t11B <;> rfl) (fun h => run_move rfl f3 _) ?_
  refine abs_list _ (fun a13 h13 => ?_)
  have z13 := sp h13 z12
  replace f1 := kp h13 (by decide) f1
  replace f3 := kp h13 (by decide) f3
  replace f4 := kp h13 (by decide) f4
  replace f5 := kp h13 (by decide) f5
  replace f52 := kp h13 (by decide) f52
  replace f56 := kp h13 (by decide) f56
  have f57 := nw h13 z12 (by decide)
  clear z12
  replace h13 := Lib.hid h13
  refine list_if (u := .bool t12B) (b := t11B) (c := (!q201B)) (c' := ((!q201B) && t11B)) (dk := 56) rfl (by kernel_rfl) f56 rfl (by cases q201B <;> cases t11B <;> rfl) (fun h => run_cmp_int (k := .i64) (p := kv) (q := 0) rfl (.inl rfl) (f57.trans (cv_of h)) rfl ((neq_i3 _ _ _).trans (by rw [ht12B]))) ?_
  refine abs_list _ (fun a14 h14 => ?_)
  have z14 := sp h14 z13
  replace f1 := kp h14 (by decide) f1
  replace f3 := kp h14 (by decide) f3
  replace f4 := kp h14 (by decide) f4
  replace f5 := kp h14 (by decide) f5
  replace f52 := kp h14 (by decide) f52
  replace f56 := kp h14 (by decide) f56
  have f58 := nw h14 z13 (by decide)
  clear f57 z13
  replace h14 := Lib.hid h14
  obtain ⟨q202B, hq202B⟩ : ∃ q : Bool, (t11B && t12B) = q := ⟨_, rfl⟩
  refine list_if (u := .bool q202B) (b := q201B) (c := true) (c' := (!q201B)) (dk := 52) rfl (by kernel_rfl) (f52.trans (cv_true _).symm) rfl (by cases q201B <;> rfl) (fun h => run_pick (b := t11B) rfl (f56.trans (cv_of h)) (by rw [f58, ← hq202B]; revert h; cases q201B <;> cases t11B <;> cases t12B <;> simp [cv, eval_const])) ?_
  refine abs_list _ (fun a15 h15 => ?_)
  have z15 := sp h15 z14
  replace f1 := kp h15 (by decide) f1
  replace f3 := kp h15 (by decide) f3
  replace f4 := kp h15 (by decide) f4
  replace f5 := kp h15 (by decide) f5
  replace f52 := kp h15 (by decide) f52
  have f59 := nw h15 z14 (by decide)
  clear f56 f58 z14
  replace h15 := Lib.hid h15
  refine list_if (u := .bool q202B) (b := q201B) (c := true) (c' := (!q201B)) (dk := 52) rfl (by kernel_rfl) (f52.trans (cv_true _).symm) rfl (by cases q201B <;> rfl) (fun h => run_move rfl (f59.trans (cv_of h)) _) ?_
  refine abs_list _ (fun a16 h16 => ?_)
  have z16 := sp h16 z15
  replace f1 := kp h16 (by decide) f1
  replace f3 := kp h16 (by decide) f3
  replace f4 := kp h16 (by decide) f4
  replace f5 := kp h16 (by decide) f5
  replace f52 := kp h16 (by decide) f52
  have f60 := nw h16 z15 (by decide)
  clear f59 z15
  replace h16 := Lib.hid h16
  refine list_if (u := .int .i64 kv) (b := q202B) (c := (!q201B)) (c' := ((!q201B) && q202B)) (dk := 60) rfl (by kernel_rfl) f60 rfl (by cases q201B <;> cases q202B <;> rfl) (fun h => run_move rfl f3 _) ?_
  refine abs_list _ (fun a17 h17 => ?_)
  have z17 := sp h17 z16
  replace f1 := kp h17 (by decide) f1
  replace f3 := kp h17 (by decide) f3
  replace f4 := kp h17 (by decide) f4
  replace f5 := kp h17 (by decide) f5
  replace f52 := kp h17 (by decide) f52
  replace f60 := kp h17 (by decide) f60
  have f61 := nw h17 z16 (by decide)
  clear z16
  replace h17 := Lib.hid h17
  refine list_if (u := .bool t13B) (b := q202B) (c := (!q201B)) (c' := ((!q201B) && q202B)) (dk := 60) rfl (by kernel_rfl) f60 rfl (by cases q201B <;> cases q202B <;> rfl) (fun h => run_cmp_int (k := .i64) (p := kv) (q := 15) rfl (.inl rfl) (f61.trans (cv_of h)) rfl ((neq_i3 _ _ _).trans (by rw [ht13B]))) ?_
  refine abs_list _ (fun a18 h18 => ?_)
  have z18 := sp h18 z17
  replace f1 := kp h18 (by decide) f1
  replace f3 := kp h18 (by decide) f3
  replace f4 := kp h18 (by decide) f4
  replace f5 := kp h18 (by decide) f5
  replace f52 := kp h18 (by decide) f52
  replace f60 := kp h18 (by decide) f60
  have f62 := nw h18 z17 (by decide)
  clear f61 z17
  replace h18 := Lib.hid h18
  obtain ⟨q203B, hq203B⟩ : ∃ q : Bool, (q202B && t13B) = q := ⟨_, rfl⟩
  refine list_if (u := .bool q203B) (b := q201B) (c := true) (c' := (!q201B)) (dk := 52) rfl (by kernel_rfl) (f52.trans (cv_true _).symm) rfl (by cases q201B <;> rfl) (fun h => run_pick (b := q202B) rfl (f60.trans (cv_of h)) (by rw [f62, ← hq203B]; revert h; cases q201B <;> cases q202B <;> cases t13B <;> simp [cv, eval_const])) ?_
  refine abs_list _ (fun a19 h19 => ?_)
  have z19 := sp h19 z18
  replace f1 := kp h19 (by decide) f1
  replace f3 := kp h19 (by decide) f3
  replace f4 := kp h19 (by decide) f4
  replace f5 := kp h19 (by decide) f5
  replace f52 := kp h19 (by decide) f52
  have f63 := nw h19 z18 (by decide)
  clear f60 f62 z18
  replace h19 := Lib.hid h19
  obtain ⟨q204B, hq204B⟩ : ∃ q : Bool, (q201B || q203B) = q := ⟨_, rfl⟩
  refine list_val (u := .bool q204B) rfl rfl (run_pick (b := q201B) rfl f52 (by rw [f63, ← hq204B]; cases q201B <;> cases q203B <;> simp [cv, eval_const])) ?_
  refine abs_list _ (fun a20 h20 => ?_)
  have z20 := sp h20 z19
  replace f1 := kp h20 (by decide) f1
  replace f3 := kp h20 (by decide) f3
  replace f4 := kp h20 (by decide) f4
  replace f5 := kp h20 (by decide) f5
  have f64 := nw h20 z19 (by decide)
  clear f52 f63 z19
  replace h20 := Lib.hid h20
  refine list_val (u := .bool q204B) rfl rfl (run_move rfl f64 _) ?_
  refine abs_list _ (fun a21 h21 => ?_)
  have z21 := sp h21 z20
  replace f1 := kp h21 (by decide) f1
  replace f3 := kp h21 (by decide) f3
  replace f4 := kp h21 (by decide) f4
  replace f5 := kp h21 (by decide) f5
  have f65 := nw h21 z20 (by decide)
  clear f64 z20
  replace h21 := Lib.hid h21
  refine list_if (u := .pointer (some ⟨cb, 4, none⟩)) (b := q204B) (c := true) (c' := (!q204B)) (dk := 65) rfl (by kernel_rfl) (f65.trans (cv_true _).symm) rfl (by cases q204B <;> rfl) (fun h => run_field (s := .pointer (some ⟨cb, 0, none⟩)) rfl f1 (by kernel_rfl)) ?_
  refine abs_list _ (fun a22 h22 => ?_)
  have z22 := sp h22 z21
  replace f1 := kp h22 (by decide) f1
  replace f3 := kp h22 (by decide) f3
  replace f4 := kp h22 (by decide) f4
  replace f5 := kp h22 (by decide) f5
  replace f65 := kp h22 (by decide) f65
  have f66 := nw h22 z21 (by decide)
  clear z21
  replace h22 := Lib.hid h22
  refine list_if (u := .int .i64 X.ss) (b := q204B) (c := true) (c' := (!q204B)) (dk := 65) rfl (by kernel_rfl) (f65.trans (cv_true _).symm) rfl (by cases q204B <;> rfl) (fun h => run_load1 (s := .pointer (some ⟨cb, 4, none⟩)) rfl (f66.trans (cv_of h)) (by have c : w1.cell? ⟨cb, 4, none⟩ = some (.int .i64 X.ss) := X1.cell 4; go_simp)) ?_
  refine abs_list _ (fun a23 h23 => ?_)
  have z23 := sp h23 z22
  replace f1 := kp h23 (by decide) f1
  replace f3 := kp h23 (by decide) f3
  replace f4 := kp h23 (by decide) f4
  replace f5 := kp h23 (by decide) f5
  replace f65 := kp h23 (by decide) f65
  have f67 := nw h23 z22 (by decide)
  clear f66 z22
  replace h23 := Lib.hid h23
  refine list_if (u := .bool t14B) (b := q204B) (c := true) (c' := (!q204B)) (dk := 65) rfl (by kernel_rfl) (f65.trans (cv_true _).symm) rfl (by cases q204B <;> rfl) (fun h => run_cmp_int (k := .i64) (p := X.ss) (q := 0) rfl (.inl rfl) (f67.trans (cv_of h)) rfl ((neq_i3 _ _ _).trans (by rw [ht14B]))) ?_
  refine abs_list _ (fun a24 h24 => ?_)
  have z24 := sp h24 z23
  replace f1 := kp h24 (by decide) f1
  replace f3 := kp h24 (by decide) f3
  replace f4 := kp h24 (by decide) f4
  replace f5 := kp h24 (by decide) f5
  replace f65 := kp h24 (by decide) f65
  have f68 := nw h24 z23 (by decide)
  clear f67 z23
  replace h24 := Lib.hid h24
  refine list_if (u := .bool t14B) (b := q204B) (c := true) (c' := (!q204B)) (dk := 65) rfl (by kernel_rfl) (f65.trans (cv_true _).symm) rfl (by cases q204B <;> rfl) (fun h => run_move rfl (f68.trans (cv_of h)) _) ?_
  refine abs_list _ (fun a25 h25 => ?_)
  have z25 := sp h25 z24
  replace f1 := kp h25 (by decide) f1
  replace f3 := kp h25 (by decide) f3
  replace f4 := kp h25 (by decide) f4
  replace f5 := kp h25 (by decide) f5
  replace f65 := kp h25 (by decide) f65
  have f69 := nw h25 z24 (by decide)
  clear f68 z24
  replace h25 := Lib.hid h25
  refine list_if (u := .int .i64 kv) (b := t14B) (c := (!q204B)) (c' := ((!q204B) && t14B)) (dk := 69) rfl (by kernel_rfl) f69 rfl (by cases q204B <;> cases t14B <;> rfl) (fun h => run_move rfl f3 _) ?_
  refine abs_list _ (fun a26 h26 => ?_)
  have z26 := sp h26 z25
  replace f1 := kp h26 (by decide) f1
  replace f3 := kp h26 (by decide) f3
  replace f4 := kp h26 (by decide) f4
  replace f5 := kp h26 (by decide) f5
  replace f65 := kp h26 (by decide) f65
  replace f69 := kp h26 (by decide) f69
  have f70 := nw h26 z25 (by decide)
  clear z25
  replace h26 := Lib.hid h26
  refine list_if (u := .bool t12B) (b := t14B) (c := (!q204B)) (c' := ((!q204B) && t14B)) (dk := 69) rfl (by kernel_rfl) f69 rfl (by cases q204B <;> cases t14B <;> rfl) (fun h => run_cmp_int (k := .i64) (p := kv) (q := 0) rfl (.inl rfl) (f70.trans (cv_of h)) rfl ((neq_i3 _ _ _).trans (by rw [ht12B]))) ?_
  refine abs_list _ (fun a27 h27 => ?_)
  have z27 := sp h27 z26
  replace f1 := kp h27 (by decide) f1
  replace f3 := kp h27 (by decide) f3
  replace f4 := kp h27 (by decide) f4
  replace f5 := kp h27 (by decide) f5
  replace f65 := kp h27 (by decide) f65
  replace f69 := kp h27 (by decide) f69
  have f71 := nw h27 z26 (by decide)
  clear f70 z26
  replace h27 := Lib.hid h27
  obtain ⟨q205B, hq205B⟩ : ∃ q : Bool, (t14B && t12B) = q := ⟨_, rfl⟩
  refine list_if (u := .bool q205B) (b := q204B) (c := true) (c' := (!q204B)) (dk := 65) rfl (by kernel_rfl) (f65.trans (cv_true _).symm) rfl (by cases q204B <;> rfl) (fun h => run_pick (b := t14B) rfl (f69.trans (cv_of h)) (by rw [f71, ← hq205B]; revert h; cases q204B <;> cases t12B <;> cases t14B <;> simp [cv, eval_const])) ?_
  refine abs_list _ (fun a28 h28 => ?_)
  have z28 := sp h28 z27
  replace f1 := kp h28 (by decide) f1
  replace f3 := kp h28 (by decide) f3
  replace f4 := kp h28 (by decide) f4
  replace f5 := kp h28 (by decide) f5
  replace f65 := kp h28 (by decide) f65
  have f72 := nw h28 z27 (by decide)
  clear f69 f71 z27
  replace h28 := Lib.hid h28
  refine list_if (u := .bool q205B) (b := q204B) (c := true) (c' := (!q204B)) (dk := 65) rfl (by kernel_rfl) (f65.trans (cv_true _).symm) rfl (by cases q204B <;> rfl) (fun h => run_move rfl (f72.trans (cv_of h)) _) ?_
  refine abs_list _ (fun a29 h29 => ?_)
  have z29 := sp h29 z28
  replace f1 := kp h29 (by decide) f1
  replace f3 := kp h29 (by decide) f3
  replace f4 := kp h29 (by decide) f4
  replace f5 := kp h29 (by decide) f5
  replace f65 := kp h29 (by decide) f65
  have f73 := nw h29 z28 (by decide)
  clear f72 z28
  replace h29 := Lib.hid h29
  refine list_if (u := .int .i64 kv) (b := q205B) (c := (!q204B)) (c' := ((!q204B) && q205B)) (dk := 73) rfl (by kernel_rfl) f73 rfl (by cases q204B <;> cases q205B <;> rfl) (fun h => run_move rfl f3 _) ?_
  refine abs_list _ (fun a30 h30 => ?_)
  have z30 := sp h30 z29
  replace f1 := kp h30 (by decide) f1
  replace f3 := kp h30 (by decide) f3
  replace f4 := kp h30 (by decide) f4
  replace f5 := kp h30 (by decide) f5
  replace f65 := kp h30 (by decide) f65
  replace f73 := kp h30 (by decide) f73
  have f74 := nw h30 z29 (by decide)
  clear z29
  replace h30 := Lib.hid h30
  refine list_if (u := .bool t13B) (b := q205B) (c := (!q204B)) (c' := ((!q204B) && q205B)) (dk := 73) rfl (by kernel_rfl) f73 rfl (by cases q204B <;> cases q205B <;> rfl) (fun h => run_cmp_int (k := .i64) (p := kv) (q := 15) rfl (.inl rfl) (f74.trans (cv_of h)) rfl ((neq_i3 _ _ _).trans (by rw [ht13B]))) ?_
  refine abs_list _ (fun a31 h31 => ?_)
  have z31 := sp h31 z30
  replace f1 := kp h31 (by decide) f1
  replace f3 := kp h31 (by decide) f3
  replace f4 := kp h31 (by decide) f4
  replace f5 := kp h31 (by decide) f5
  replace f65 := kp h31 (by decide) f65
  replace f73 := kp h31 (by decide) f73
  have f75 := nw h31 z30 (by decide)
  clear f74 z30
  replace h31 := Lib.hid h31
  obtain ⟨q206B, hq206B⟩ : ∃ q : Bool, (q205B && t13B) = q := ⟨_, rfl⟩
  refine list_if (u := .bool q206B) (b := q204B) (c := true) (c' := (!q204B)) (dk := 65) rfl (by kernel_rfl) (f65.trans (cv_true _).symm) rfl (by cases q204B <;> rfl) (fun h => run_pick (b := q205B) rfl (f73.trans (cv_of h)) (by rw [f75, ← hq206B]; revert h; cases q204B <;> cases q205B <;> cases t13B <;> simp [cv, eval_const])) ?_
  refine abs_list _ (fun a32 h32 => ?_)
  have z32 := sp h32 z31
  replace f1 := kp h32 (by decide) f1
  replace f3 := kp h32 (by decide) f3
  replace f4 := kp h32 (by decide) f4
  replace f5 := kp h32 (by decide) f5
  replace f65 := kp h32 (by decide) f65
  have f76 := nw h32 z31 (by decide)
  clear f73 f75 z31
  replace h32 := Lib.hid h32
  obtain ⟨q207B, hq207B⟩ : ∃ q : Bool, (q204B || q206B) = q := ⟨_, rfl⟩
  refine list_val (u := .bool q207B) rfl rfl (run_pick (b := q204B) rfl f65 (by rw [f76, ← hq207B]; cases q204B <;> cases q206B <;> simp [cv, eval_const])) ?_
  refine abs_list _ (fun a33 h33 => ?_)
  have z33 := sp h33 z32
  replace f1 := kp h33 (by decide) f1
  replace f3 := kp h33 (by decide) f3
  replace f4 := kp h33 (by decide) f4
  replace f5 := kp h33 (by decide) f5
  have f77 := nw h33 z32 (by decide)
  clear f65 f76 z32
  replace h33 := Lib.hid h33
  refine list_val (u := .bool q207B) rfl rfl (run_move rfl f77 _) ?_
  refine abs_list _ (fun a34 h34 => ?_)
  have z34 := sp h34 z33
  replace f1 := kp h34 (by decide) f1
  replace f3 := kp h34 (by decide) f3
  replace f4 := kp h34 (by decide) f4
  replace f5 := kp h34 (by decide) f5
  have f78 := nw h34 z33 (by decide)
  clear f77 z33
  replace h34 := Lib.hid h34
  refine list_if (u := .pointer (some ⟨cb, 5, none⟩)) (b := q207B) (c := true) (c' := (!q207B)) (dk := 78) rfl (by kernel_rfl) (f78.trans (cv_true _).symm) rfl (by cases q207B <;> rfl) (fun h => run_field (s := .pointer (some ⟨cb, 0, none⟩)) rfl f1 (by kernel_rfl)) ?_
  refine abs_list _ (fun a35 h35 => ?_)
  have z35 := sp h35 z34
  replace f1 := kp h35 (by decide) f1
  replace f3 := kp h35 (by decide) f3
  replace f4 := kp h35 (by decide) f4
  replace f5 := kp h35 (by decide) f5
  replace f78 := kp h35 (by decide) f78
  have f79 := nw h35 z34 (by decide)
  clear z34
  replace h35 := Lib.hid h35
  refine list_if (u := .int .u32 X.pr) (b := q207B) (c := true) (c' := (!q207B)) (dk := 78) rfl (by kernel_rfl) (f78.trans (cv_true _).symm) rfl (by cases q207B <;> rfl) (fun h => run_load1 (s := .pointer (some ⟨cb, 5, none⟩)) rfl (f79.trans (cv_of h)) (by have c : w1.cell? ⟨cb, 5, none⟩ = some (.int .u32 X.pr) := X1.cell 5; go_simp)) ?_
  refine abs_list _ (fun a36 h36 => ?_)
  have z36 := sp h36 z35
  replace f1 := kp h36 (by decide) f1
  replace f3 := kp h36 (by decide) f3
  replace f4 := kp h36 (by decide) f4
  replace f5 := kp h36 (by decide) f5
  replace f78 := kp h36 (by decide) f78
  have f80 := nw h36 z35 (by decide)
  clear f79 z35
  replace h36 := Lib.hid h36
  refine list_if (u := .bool t15B) (b := q207B) (c := true) (c' := (!q207B)) (dk := 78) rfl (by kernel_rfl) (f78.trans (cv_true _).symm) rfl (by cases q207B <;> rfl) (fun h => run_cmp_int (k := .u32) (p := X.pr) (q := 0) rfl (.inl rfl) (f80.trans (cv_of h)) rfl ((neq_i22 _ _ _).trans (by rw [ht15B]))) ?_
  refine abs_list _ (fun a37 h37 => ?_)
  have z37 := sp h37 z36
  replace f1 := kp h37 (by decide) f1
  replace f3 := kp h37 (by decide) f3
  replace f4 := kp h37 (by decide) f4
  replace f5 := kp h37 (by decide) f5
  replace f78 := kp h37 (by decide) f78
  have f81 := nw h37 z36 (by decide)
  clear f80 z36
  replace h37 := Lib.hid h37
  refine list_if (u := .bool t15B) (b := q207B) (c := true) (c' := (!q207B)) (dk := 78) rfl (by kernel_rfl) (f78.trans (cv_true _).symm) rfl (by cases q207B <;> rfl) (fun h => run_move rfl (f81.trans (cv_of h)) _) ?_
  refine abs_list _ (fun a38 h38 => ?_)
  have z38 := sp h38 z37
  replace f1 := kp h38 (by decide) f1
  replace f3 := kp h38 (by decide) f3
  replace f4 := kp h38 (by decide) f4
  replace f5 := kp h38 (by decide) f5
  replace f78 := kp h38 (by decide) f78
  have f82 := nw h38 z37 (by decide)
  clear f81 z37
  replace h38 := Lib.hid h38
  refine list_if (u := .int .i64 kv) (b := t15B) (c := (!q207B)) (c' := ((!q207B) && t15B)) (dk := 82) rfl (by kernel_rfl) f82 rfl (by cases q207B <;> cases t15B <;> rfl) (fun h => run_move rfl f3 _) ?_
  refine abs_list _ (fun a39 h39 => ?_)
  have z39 := sp h39 z38
  replace f1 := kp h39 (by decide) f1
  replace f3 := kp h39 (by decide) f3
  replace f4 := kp h39 (by decide) f4
  replace f5 := kp h39 (by decide) f5
  replace f78 := kp h39 (by decide) f78
  replace f82 := kp h39 (by decide) f82
  have f83 := nw h39 z38 (by decide)
  clear z38
  replace h39 := Lib.hid h39
  refine list_if (u := .bool t12B) (b := t15B) (c := (!q207B)) (c' := ((!q207B) && t15B)) (dk := 82) rfl (by kernel_rfl) f82 rfl (by cases q207B <;> cases t15B <;> rfl) (fun h => run_cmp_int (k := .i64) (p := kv) (q := 0) rfl (.inl rfl) (f83.trans (cv_of h)) rfl ((neq_i3 _ _ _).trans (by rw [ht12B]))) ?_
  refine abs_list _ (fun a40 h40 => ?_)
  have z40 := sp h40 z39
  replace f1 := kp h40 (by decide) f1
  replace f3 := kp h40 (by decide) f3
  replace f4 := kp h40 (by decide) f4
  replace f5 := kp h40 (by decide) f5
  replace f78 := kp h40 (by decide) f78
  replace f82 := kp h40 (by decide) f82
  have f84 := nw h40 z39 (by decide)
  clear f83 z39
  replace h40 := Lib.hid h40
  obtain ⟨q208B, hq208B⟩ : ∃ q : Bool, (t15B && t12B) = q := ⟨_, rfl⟩
  refine list_if (u := .bool q208B) (b := q207B) (c := true) (c' := (!q207B)) (dk := 78) rfl (by kernel_rfl) (f78.trans (cv_true _).symm) rfl (by cases q207B <;> rfl) (fun h => run_pick (b := t15B) rfl (f82.trans (cv_of h)) (by rw [f84, ← hq208B]; revert h; cases q207B <;> cases t12B <;> cases t15B <;> simp [cv, eval_const])) ?_
  refine abs_list _ (fun a41 h41 => ?_)
  have z41 := sp h41 z40
  replace f1 := kp h41 (by decide) f1
  replace f3 := kp h41 (by decide) f3
  replace f4 := kp h41 (by decide) f4
  replace f5 := kp h41 (by decide) f5
  replace f78 := kp h41 (by decide) f78
  have f85 := nw h41 z40 (by decide)
  clear f82 f84 z40
  replace h41 := Lib.hid h41
  obtain ⟨q209B, hq209B⟩ : ∃ q : Bool, (q207B || q208B) = q := ⟨_, rfl⟩
  refine list_val (u := .bool q209B) rfl rfl (run_pick (b := q207B) rfl f78 (by rw [f85, ← hq209B]; cases q207B <;> cases q208B <;> simp [cv, eval_const])) ?_
  refine abs_list _ (fun a42 h42 => ?_)
  have z42 := sp h42 z41
  replace f1 := kp h42 (by decide) f1
  replace f3 := kp h42 (by decide) f3
  replace f4 := kp h42 (by decide) f4
  replace f5 := kp h42 (by decide) f5
  have f86 := nw h42 z41 (by decide)
  clear f78 f85 z41
  replace h42 := Lib.hid h42
  refine list_val (u := .bool q209B) rfl rfl (run_move rfl f86 _) ?_
  refine abs_list _ (fun a43 h43 => ?_)
  have z43 := sp h43 z42
  replace f1 := kp h43 (by decide) f1
  replace f3 := kp h43 (by decide) f3
  replace f4 := kp h43 (by decide) f4
  replace f5 := kp h43 (by decide) f5
  have f87 := nw h43 z42 (by decide)
  clear f86 z42
  replace h43 := Lib.hid h43
  refine list_if (u := .pointer (some ⟨cb, 6, none⟩)) (b := q209B) (c := true) (c' := (!q209B)) (dk := 87) rfl (by kernel_rfl) (f87.trans (cv_true _).symm) rfl (by cases q209B <;> rfl) (fun h => run_field (s := .pointer (some ⟨cb, 0, none⟩)) rfl f1 (by kernel_rfl)) ?_
  refine abs_list _ (fun a44 h44 => ?_)
  have z44 := sp h44 z43
  replace f1 := kp h44 (by decide) f1
  replace f3 := kp h44 (by decide) f3
  replace f4 := kp h44 (by decide) f4
  replace f5 := kp h44 (by decide) f5
  replace f87 := kp h44 (by decide) f87
  have f88 := nw h44 z43 (by decide)
  clear z43
  replace h44 := Lib.hid h44
  refine list_if (u := .string X.d) (b := q209B) (c := true) (c' := (!q209B)) (dk := 87) rfl (by kernel_rfl) (f87.trans (cv_true _).symm) rfl (by cases q209B <;> rfl) (fun h => run_load1 (s := .pointer (some ⟨cb, 6, none⟩)) rfl (f88.trans (cv_of h)) (by have c : w1.cell? ⟨cb, 6, none⟩ = some (.string X.d) := X1.cell 6; go_simp)) ?_
  refine abs_list _ (fun a45 h45 => ?_)
  have z45 := sp h45 z44
  replace f1 := kp h45 (by decide) f1
  replace f3 := kp h45 (by decide) f3
  replace f4 := kp h45 (by decide) f4
  replace f5 := kp h45 (by decide) f5
  replace f87 := kp h45 (by decide) f87
  have f89 := nw h45 z44 (by decide)
  clear f88 z44
  replace h45 := Lib.hid h45
  refine list_if (u := .bool t16B) (b := q209B) (c := true) (c' := (!q209B)) (dk := 87) rfl (by kernel_rfl) (f87.trans (cv_true _).symm) rfl (by cases q209B <;> rfl) (fun h => run_cmp_str (p := X.d) (q := ⟨#[]⟩) rfl (.inl rfl) (f89.trans (cv_of h)) rfl ((neq_s _ _ _).trans (by rw [ht16B]))) ?_
  refine abs_list _ (fun a46 h46 => ?_)
  have z46 := sp h46 z45
  replace f1 := kp h46 (by decide) f1
  replace f3 := kp h46 (by decide) f3
  replace f4 := kp h46 (by decide) f4
  replace f5 := kp h46 (by decide) f5
  replace f87 := kp h46 (by decide) f87
  have f90 := nw h46 z45 (by decide)
  clear f89 z45
  replace h46 := Lib.hid h46
  refine list_if (u := .bool t16B) (b := q209B) (c := true) (c' := (!q209B)) (dk := 87) rfl (by kernel_rfl) (f87.trans (cv_true _).symm) rfl (by cases q209B <;> rfl) (fun h => run_move rfl (f90.trans (cv_of h)) _) ?_
  refine abs_list _ (fun a47 h47 => ?_)
  have z47 := sp h47 z46
  replace f1 := kp h47 (by decide) f1
  replace f3 := kp h47 (by decide) f3
  replace f4 := kp h47 (by decide) f4
  replace f5 := kp h47 (by decide) f5
  replace f87 := kp h47 (by decide) f87
  have f91 := nw h47 z46 (by decide)
  clear f90 z46
  replace h47 := Lib.hid h47
  refine list_if (u := .bool q104B) (b := t16B) (c := (!q209B)) (c' := ((!q209B) && t16B)) (dk := 91) rfl (by kernel_rfl) f91 rfl (by cases q209B <;> cases t16B <;> rfl) (fun h => run_move rfl f5 _) ?_
  refine abs_list _ (fun a48 h48 => ?_)
  have z48 := sp h48 z47
  replace f1 := kp h48 (by decide) f1
  replace f3 := kp h48 (by decide) f3
  replace f4 := kp h48 (by decide) f4
  replace f5 := kp h48 (by decide) f5
  replace f87 := kp h48 (by decide) f87
  replace f91 := kp h48 (by decide) f91
  have f92 := nw h48 z47 (by decide)
  clear z47
  replace h48 := Lib.hid h48
  refine list_if (u := .bool (!q104B)) (b := t16B) (c := (!q209B)) (c' := ((!q209B) && t16B)) (dk := 91) rfl (by kernel_rfl) f91 rfl (by cases q209B <;> cases t16B <;> rfl) (fun h => run_not (b := q104B) rfl (f92.trans (cv_of h))) ?_
  refine abs_list _ (fun a49 h49 => ?_)
  have z49 := sp h49 z48
  replace f1 := kp h49 (by decide) f1
  replace f3 := kp h49 (by decide) f3
  replace f4 := kp h49 (by decide) f4
  replace f5 := kp h49 (by decide) f5
  replace f87 := kp h49 (by decide) f87
  replace f91 := kp h49 (by decide) f91
  have f93 := nw h49 z48 (by decide)
  clear f92 z48
  replace h49 := Lib.hid h49
  obtain ⟨q210B, hq210B⟩ : ∃ q : Bool, (t16B && (!q104B)) = q := ⟨_, rfl⟩
  refine list_if (u := .bool q210B) (b := q209B) (c := true) (c' := (!q209B)) (dk := 87) rfl (by kernel_rfl) (f87.trans (cv_true _).symm) rfl (by cases q209B <;> rfl) (fun h => run_pick (b := t16B) rfl (f91.trans (cv_of h)) (by rw [f93, ← hq210B]; revert h; cases q104B <;> cases q209B <;> cases t16B <;> simp [cv, eval_const])) ?_
  refine abs_list _ (fun a50 h50 => ?_)
  have z50 := sp h50 z49
  replace f1 := kp h50 (by decide) f1
  replace f3 := kp h50 (by decide) f3
  replace f4 := kp h50 (by decide) f4
  replace f5 := kp h50 (by decide) f5
  replace f87 := kp h50 (by decide) f87
  have f94 := nw h50 z49 (by decide)
  clear f91 f93 z49
  replace h50 := Lib.hid h50
  obtain ⟨q211B, hq211B⟩ : ∃ q : Bool, (q209B || q210B) = q := ⟨_, rfl⟩
  refine list_val (u := .bool q211B) rfl rfl (run_pick (b := q209B) rfl f87 (by rw [f94, ← hq211B]; cases q209B <;> cases q210B <;> simp [cv, eval_const])) ?_
  refine abs_list _ (fun a51 h51 => ?_)
  have z51 := sp h51 z50
  replace f1 := kp h51 (by decide) f1
  replace f3 := kp h51 (by decide) f3
  replace f4 := kp h51 (by decide) f4
  replace f5 := kp h51 (by decide) f5
  have f95 := nw h51 z50 (by decide)
  clear f87 f94 z50
  replace h51 := Lib.hid h51
  refine list_val (u := .bool q211B) rfl rfl (run_move rfl f95 _) ?_
  refine abs_list _ (fun a52 h52 => ?_)
  have z52 := sp h52 z51
  replace f1 := kp h52 (by decide) f1
  replace f3 := kp h52 (by decide) f3
  replace f4 := kp h52 (by decide) f4
  replace f5 := kp h52 (by decide) f5
  have f96 := nw h52 z51 (by decide)
  clear f95 z51
  replace h52 := Lib.hid h52
  refine list_if (u := .pointer (some ⟨cb, 7, none⟩)) (b := q211B) (c := true) (c' := (!q211B)) (dk := 96) rfl (by kernel_rfl) (f96.trans (cv_true _).symm) rfl (by cases q211B <;> rfl) (fun h => run_field (s := .pointer (some ⟨cb, 0, none⟩)) rfl f1 (by kernel_rfl)) ?_
  refine abs_list _ (fun a53 h53 => ?_)
  have z53 := sp h53 z52
  replace f1 := kp h53 (by decide) f1
  replace f3 := kp h53 (by decide) f3
  replace f4 := kp h53 (by decide) f4
  replace f5 := kp h53 (by decide) f5
  replace f96 := kp h53 (by decide) f96
  have f97 := nw h53 z52 (by decide)
  clear z52
  replace h53 := Lib.hid h53
  refine list_if (u := .int .u32 X.tg) (b := q211B) (c := true) (c' := (!q211B)) (dk := 96) rfl (by kernel_rfl) (f96.trans (cv_true _).symm) rfl (by cases q211B <;> rfl) (fun h => run_load1 (s := .pointer (some ⟨cb, 7, none⟩)) rfl (f97.trans (cv_of h)) (by have c : w1.cell? ⟨cb, 7, none⟩ = some (.int .u32 X.tg) := X1.cell 7; go_simp)) ?_
  refine abs_list _ (fun a54 h54 => ?_)
  have z54 := sp h54 z53
  replace f1 := kp h54 (by decide) f1
  replace f3 := kp h54 (by decide) f3
  replace f4 := kp h54 (by decide) f4
  replace f5 := kp h54 (by decide) f5
  replace f96 := kp h54 (by decide) f96
  have f98 := nw h54 z53 (by decide)
  clear f97 z53
  replace h54 := Lib.hid h54
  refine list_if (u := .bool t17B) (b := q211B) (c := true) (c' := (!q211B)) (dk := 96) rfl (by kernel_rfl) (f96.trans (cv_true _).symm) rfl (by cases q211B <;> rfl) (fun h => run_cmp_int (k := .u32) (p := X.tg) (q := 0) rfl (.inl rfl) (f98.trans (cv_of h)) rfl ((neq_i22 _ _ _).trans (by rw [ht17B]))) ?_
  refine abs_list _ (fun a55 h55 => ?_)
  have z55 := sp h55 z54
  replace f1 := kp h55 (by decide) f1
  replace f3 := kp h55 (by decide) f3
  replace f4 := kp h55 (by decide) f4
  replace f5 := kp h55 (by decide) f5
  replace f96 := kp h55 (by decide) f96
  have f99 := nw h55 z54 (by decide)
  clear f98 z54
  replace h55 := Lib.hid h55
  refine list_if (u := .bool t17B) (b := q211B) (c := true) (c' := (!q211B)) (dk := 96) rfl (by kernel_rfl) (f96.trans (cv_true _).symm) rfl (by cases q211B <;> rfl) (fun h => run_move rfl (f99.trans (cv_of h)) _) ?_
  refine abs_list _ (fun a56 h56 => ?_)
  have z56 := sp h56 z55
  replace f1 := kp h56 (by decide) f1
  replace f3 := kp h56 (by decide) f3
  replace f4 := kp h56 (by decide) f4
  replace f5 := kp h56 (by decide) f5
  replace f96 := kp h56 (by decide) f96
  have f100 := nw h56 z55 (by decide)
  clear f99 z55
  replace h56 := Lib.hid h56
  refine list_if (u := .pointer (some ⟨cb, 9, none⟩)) (b := t17B) (c := (!q211B)) (c' := ((!q211B) && (!t17B))) (dk := 100) rfl (by kernel_rfl) f100 rfl (by cases q211B <;> cases t17B <;> rfl) (fun h => run_field (s := .pointer (some ⟨cb, 0, none⟩)) rfl f1 (by kernel_rfl)) ?_
  refine abs_list _ (fun a57 h57 => ?_)
  have z57 := sp h57 z56
  replace f1 := kp h57 (by decide) f1
  replace f3 := kp h57 (by decide) f3
  replace f4 := kp h57 (by decide) f4
  replace f5 := kp h57 (by decide) f5
  replace f96 := kp h57 (by decide) f96
  replace f100 := kp h57 (by decide) f100
  have f101 := nw h57 z56 (by decide)
  clear z56
  replace h57 := Lib.hid h57
  refine list_if (u := .int .i64 X.ou) (b := t17B) (c := (!q211B)) (c' := ((!q211B) && (!t17B))) (dk := 100) rfl (by kernel_rfl) f100 rfl (by cases q211B <;> cases t17B <;> rfl) (fun h => run_load1 (s := .pointer (some ⟨cb, 9, none⟩)) rfl (f101.trans (cv_of h)) (by have c : w1.cell? ⟨cb, 9, none⟩ = some (.int .i64 X.ou) := X1.cell 9; go_simp)) ?_
  refine abs_list _ (fun a58 h58 => ?_)
  have z58 := sp h58 z57
  replace f1 := kp h58 (by decide) f1
  replace f3 := kp h58 (by decide) f3
  replace f4 := kp h58 (by decide) f4
  replace f5 := kp h58 (by decide) f5
  replace f96 := kp h58 (by decide) f96
  replace f100 := kp h58 (by decide) f100
  have f102 := nw h58 z57 (by decide)
  clear f101 z57
  replace h58 := Lib.hid h58
  refine list_if (u := .bool t18B) (b := t17B) (c := (!q211B)) (c' := ((!q211B) && (!t17B))) (dk := 100) rfl (by kernel_rfl) f100 rfl (by cases q211B <;> cases t17B <;> rfl) (fun h => run_cmp_int (k := .i64) (p := X.ou) (q := 0) rfl (.inl rfl) (f102.trans (cv_of h)) rfl ((neq_i3 _ _ _).trans (by rw [ht18B]))) ?_
  refine abs_list _ (fun a59 h59 => ?_)
  have z59 := sp h59 z58
  replace f1 := kp h59 (by decide) f1
  replace f3 := kp h59 (by decide) f3
  replace f4 := kp h59 (by decide) f4
  replace f5 := kp h59 (by decide) f5
  replace f96 := kp h59 (by decide) f96
  replace f100 := kp h59 (by decide) f100
  have f103 := nw h59 z58 (by decide)
  clear f102 z58
  replace h59 := Lib.hid h59
  obtain ⟨q212B, hq212B⟩ : ∃ q : Bool, (t17B || t18B) = q := ⟨_, rfl⟩
  refine list_if (u := .bool q212B) (b := q211B) (c := true) (c' := (!q211B)) (dk := 96) rfl (by kernel_rfl) (f96.trans (cv_true _).symm) rfl (by cases q211B <;> rfl) (fun h => run_pick (b := t17B) rfl (f100.trans (cv_of h)) (by rw [f103, ← hq212B]; revert h; cases q211B <;> cases t17B <;> cases t18B <;> simp [cv, eval_const])) ?_
  refine abs_list _ (fun a60 h60 => ?_)
  have z60 := sp h60 z59
  replace f1 := kp h60 (by decide) f1
  replace f3 := kp h60 (by decide) f3
  replace f4 := kp h60 (by decide) f4
  replace f5 := kp h60 (by decide) f5
  replace f96 := kp h60 (by decide) f96
  have f104 := nw h60 z59 (by decide)
  clear f100 f103 z59
  replace h60 := Lib.hid h60
  refine list_if (u := .bool q212B) (b := q211B) (c := true) (c' := (!q211B)) (dk := 96) rfl (by kernel_rfl) (f96.trans (cv_true _).symm) rfl (by cases q211B <;> rfl) (fun h => run_move rfl (f104.trans (cv_of h)) _) ?_
  refine abs_list _ (fun a61 h61 => ?_)
  have z61 := sp h61 z60
  replace f1 := kp h61 (by decide) f1
  replace f3 := kp h61 (by decide) f3
  replace f4 := kp h61 (by decide) f4
  replace f5 := kp h61 (by decide) f5
  replace f96 := kp h61 (by decide) f96
  have f105 := nw h61 z60 (by decide)
  clear f104 z60
  replace h61 := Lib.hid h61
  refine list_if (u := .pointer (some ⟨cb, 10, none⟩)) (b := q212B) (c := (!q211B)) (c' := ((!q211B) && (!q212B))) (dk := 105) rfl (by kernel_rfl) f105 rfl (by cases q211B <;> cases q212B <;> rfl) (fun h => run_field (s := .pointer (some ⟨cb, 0, none⟩)) rfl f1 (by kernel_rfl)) ?_
  refine abs_list _ (fun a62 h62 => ?_)
  have z62 := sp h62 z61
  replace f1 := kp h62 (by decide) f1
  replace f3 := kp h62 (by decide) f3
  replace f4 := kp h62 (by decide) f4
  replace f5 := kp h62 (by decide) f5
  replace f96 := kp h62 (by decide) f96
  replace f105 := kp h62 (by decide) f105
  have f106 := nw h62 z61 (by decide)
  clear z61
  replace h62 := Lib.hid h62
  refine list_if (u := .int .i64 X.ii) (b := q212B) (c := (!q211B)) (c' := ((!q211B) && (!q212B))) (dk := 105) rfl (by kernel_rfl) f105 rfl (by cases q211B <;> cases q212B <;> rfl) (fun h => run_load1 (s := .pointer (some ⟨cb, 10, none⟩)) rfl (f106.trans (cv_of h)) (by have c : w1.cell? ⟨cb, 10, none⟩ = some (.int .i64 X.ii) := X1.cell 10; go_simp)) ?_
  refine abs_list _ (fun a63 h63 => ?_)
  have z63 := sp h63 z62
  replace f1 := kp h63 (by decide) f1
  replace f3 := kp h63 (by decide) f3
  replace f4 := kp h63 (by decide) f4
  replace f5 := kp h63 (by decide) f5
  replace f96 := kp h63 (by decide) f96
  replace f105 := kp h63 (by decide) f105
  have f107 := nw h63 z62 (by decide)
  clear f106 z62
  replace h63 := Lib.hid h63
  refine list_if (u := .bool t19B) (b := q212B) (c := (!q211B)) (c' := ((!q211B) && (!q212B))) (dk := 105) rfl (by kernel_rfl) f105 rfl (by cases q211B <;> cases q212B <;> rfl) (fun h => run_cmp_int (k := .i64) (p := X.ii) (q := 0) rfl (.inl rfl) (f107.trans (cv_of h)) rfl ((neq_i3 _ _ _).trans (by rw [ht19B]))) ?_
  refine abs_list _ (fun a64 h64 => ?_)
  have z64 := sp h64 z63
  replace f1 := kp h64 (by decide) f1
  replace f3 := kp h64 (by decide) f3
  replace f4 := kp h64 (by decide) f4
  replace f5 := kp h64 (by decide) f5
  replace f96 := kp h64 (by decide) f96
  replace f105 := kp h64 (by decide) f105
  have f108 := nw h64 z63 (by decide)
  clear f107 z63
  replace h64 := Lib.hid h64
  obtain ⟨q213B, hq213B⟩ : ∃ q : Bool, (q212B || t19B) = q := ⟨_, rfl⟩
  refine list_if (u := .bool q213B) (b := q211B) (c := true) (c' := (!q211B)) (dk := 96) rfl (by kernel_rfl) (f96.trans (cv_true _).symm) rfl (by cases q211B <;> rfl) (fun h => run_pick (b := q212B) rfl (f105.trans (cv_of h)) (by rw [f108, ← hq213B]; revert h; cases q211B <;> cases q212B <;> cases t19B <;> simp [cv, eval_const])) ?_
  refine abs_list _ (fun a65 h65 => ?_)
  have z65 := sp h65 z64
  replace f1 := kp h65 (by decide) f1
  replace f3 := kp h65 (by decide) f3
  replace f4 := kp h65 (by decide) f4
  replace f5 := kp h65 (by decide) f5
  replace f96 := kp h65 (by decide) f96
  have f109 := nw h65 z64 (by decide)
  clear f105 f108 z64
  replace h65 := Lib.hid h65
  refine list_if (u := .bool q213B) (b := q211B) (c := true) (c' := (!q211B)) (dk := 96) rfl (by kernel_rfl) (f96.trans (cv_true _).symm) rfl (by cases q211B <;> rfl) (fun h => run_move rfl (f109.trans (cv_of h)) _) ?_
  refine abs_list _ (fun a66 h66 => ?_)
  have z66 := sp h66 z65
  replace f1 := kp h66 (by decide) f1
  replace f3 := kp h66 (by decide) f3
  replace f4 := kp h66 (by decide) f4
  replace f5 := kp h66 (by decide) f5
  replace f96 := kp h66 (by decide) f96
  have f110 := nw h66 z65 (by decide)
  clear f109 z65
  replace h66 := Lib.hid h66
  refine list_if (u := .int .i64 kv) (b := q213B) (c := (!q211B)) (c' := ((!q211B) && q213B)) (dk := 110) rfl (by kernel_rfl) f110 rfl (by cases q211B <;> cases q213B <;> rfl) (fun h => run_move rfl f3 _) ?_
  refine abs_list _ (fun a67 h67 => ?_)
  have z67 := sp h67 z66
  replace f1 := kp h67 (by decide) f1
  replace f3 := kp h67 (by decide) f3
  replace f4 := kp h67 (by decide) f4
  replace f5 := kp h67 (by decide) f5
  replace f96 := kp h67 (by decide) f96
  replace f110 := kp h67 (by decide) f110
  have f111 := nw h67 z66 (by decide)
  clear z66
  replace h67 := Lib.hid h67
  refine list_if (u := .bool t20B) (b := q213B) (c := (!q211B)) (c' := ((!q211B) && q213B)) (dk := 110) rfl (by kernel_rfl) f110 rfl (by cases q211B <;> cases q213B <;> rfl) (fun h => run_cmp_int (k := .i64) (p := kv) (q := 1) rfl (.inl rfl) (f111.trans (cv_of h)) rfl ((neq_i3 _ _ _).trans (by rw [ht20B]))) ?_
  refine abs_list _ (fun a68 h68 => ?_)
  have z68 := sp h68 z67
  replace f1 := kp h68 (by decide) f1
  replace f3 := kp h68 (by decide) f3
  replace f4 := kp h68 (by decide) f4
  replace f5 := kp h68 (by decide) f5
  replace f96 := kp h68 (by decide) f96
  replace f110 := kp h68 (by decide) f110
  have f112 := nw h68 z67 (by decide)
  clear f111 z67
  replace h68 := Lib.hid h68
  obtain ⟨q214B, hq214B⟩ : ∃ q : Bool, (q213B && t20B) = q := ⟨_, rfl⟩
  refine list_if (u := .bool q214B) (b := q211B) (c := true) (c' := (!q211B)) (dk := 96) rfl (by kernel_rfl) (f96.trans (cv_true _).symm) rfl (by cases q211B <;> rfl) (fun h => run_pick (b := q213B) rfl (f110.trans (cv_of h)) (by rw [f112, ← hq214B]; revert h; cases q211B <;> cases q213B <;> cases t20B <;> simp [cv, eval_const])) ?_
  refine abs_list _ (fun a69 h69 => ?_)
  have z69 := sp h69 z68
  replace f1 := kp h69 (by decide) f1
  replace f3 := kp h69 (by decide) f3
  replace f4 := kp h69 (by decide) f4
  replace f5 := kp h69 (by decide) f5
  replace f96 := kp h69 (by decide) f96
  have f113 := nw h69 z68 (by decide)
  clear f110 f112 z68
  replace h69 := Lib.hid h69
  obtain ⟨q215B, hq215B⟩ : ∃ q : Bool, (q211B || q214B) = q := ⟨_, rfl⟩
  refine list_val (u := .bool q215B) rfl rfl (run_pick (b := q211B) rfl f96 (by rw [f113, ← hq215B]; cases q211B <;> cases q214B <;> simp [cv, eval_const])) ?_
  refine abs_list _ (fun a70 h70 => ?_)
  have z70 := sp h70 z69
  replace f1 := kp h70 (by decide) f1
  replace f3 := kp h70 (by decide) f3
  replace f4 := kp h70 (by decide) f4
  replace f5 := kp h70 (by decide) f5
  have f114 := nw h70 z69 (by decide)
  clear f96 f113 z69
  replace h70 := Lib.hid h70
  refine list_val (u := .bool q215B) rfl rfl (run_move rfl f114 _) ?_
  refine abs_list _ (fun a71 h71 => ?_)
  have z71 := sp h71 z70
  replace f1 := kp h71 (by decide) f1
  replace f3 := kp h71 (by decide) f3
  replace f4 := kp h71 (by decide) f4
  replace f5 := kp h71 (by decide) f5
  have f115 := nw h71 z70 (by decide)
  clear f114 z70
  replace h71 := Lib.hid h71
  refine list_if (u := .pointer (some ⟨cb, 8, none⟩)) (b := q215B) (c := true) (c' := (!q215B)) (dk := 115) rfl (by kernel_rfl) (f115.trans (cv_true _).symm) rfl (by cases q215B <;> rfl) (fun h => run_field (s := .pointer (some ⟨cb, 0, none⟩)) rfl f1 (by kernel_rfl)) ?_
  refine abs_list _ (fun a72 h72 => ?_)
  have z72 := sp h72 z71
  replace f1 := kp h72 (by decide) f1
  replace f3 := kp h72 (by decide) f3
  replace f4 := kp h72 (by decide) f4
  replace f5 := kp h72 (by decide) f5
  replace f115 := kp h72 (by decide) f115
  have f116 := nw h72 z71 (by decide)
  clear z71
  replace h72 := Lib.hid h72
  refine list_if (u := .int .u32 X.rw) (b := q215B) (c := true) (c' := (!q215B)) (dk := 115) rfl (by kernel_rfl) (f115.trans (cv_true _).symm) rfl (by cases q215B <;> rfl) (fun h => run_load1 (s := .pointer (some ⟨cb, 8, none⟩)) rfl (f116.trans (cv_of h)) (by have c : w1.cell? ⟨cb, 8, none⟩ = some (.int .u32 X.rw) := X1.cell 8; go_simp)) ?_
  refine abs_list _ (fun a73 h73 => ?_)
  have z73 := sp h73 z72
  replace f1 := kp h73 (by decide) f1
  replace f3 := kp h73 (by decide) f3
  replace f4 := kp h73 (by decide) f4
  replace f5 := kp h73 (by decide) f5
  replace f115 := kp h73 (by decide) f115
  have f117 := nw h73 z72 (by decide)
  clear f116 z72
  replace h73 := Lib.hid h73
  refine list_if (u := .bool t21B) (b := q215B) (c := true) (c' := (!q215B)) (dk := 115) rfl (by kernel_rfl) (f115.trans (cv_true _).symm) rfl (by cases q215B <;> rfl) (fun h => run_cmp_int (k := .u32) (p := X.rw) (q := 0) rfl (.inl rfl) (f117.trans (cv_of h)) rfl ((neq_i22 _ _ _).trans (by rw [ht21B]))) ?_
  refine abs_list _ (fun a74 h74 => ?_)
  have z74 := sp h74 z73
  replace f1 := kp h74 (by decide) f1
  replace f3 := kp h74 (by decide) f3
  replace f4 := kp h74 (by decide) f4
  replace f5 := kp h74 (by decide) f5
  replace f115 := kp h74 (by decide) f115
  have f118 := nw h74 z73 (by decide)
  clear f117 z73
  replace h74 := Lib.hid h74
  refine list_if (u := .bool t21B) (b := q215B) (c := true) (c' := (!q215B)) (dk := 115) rfl (by kernel_rfl) (f115.trans (cv_true _).symm) rfl (by cases q215B <;> rfl) (fun h => run_move rfl (f118.trans (cv_of h)) _) ?_
  refine abs_list _ (fun a75 h75 => ?_)
  have z75 := sp h75 z74
  replace f1 := kp h75 (by decide) f1
  replace f3 := kp h75 (by decide) f3
  replace f4 := kp h75 (by decide) f4
  replace f5 := kp h75 (by decide) f5
  replace f115 := kp h75 (by decide) f115
  have f119 := nw h75 z74 (by decide)
  clear f118 z74
  replace h75 := Lib.hid h75
  refine list_if (u := .int .i64 kv) (b := t21B) (c := (!q215B)) (c' := ((!q215B) && t21B)) (dk := 119) rfl (by kernel_rfl) f119 rfl (by cases q215B <;> cases t21B <;> rfl) (fun h => run_move rfl f3 _) ?_
  refine abs_list _ (fun a76 h76 => ?_)
  have z76 := sp h76 z75
  replace f1 := kp h76 (by decide) f1
  replace f3 := kp h76 (by decide) f3
  replace f4 := kp h76 (by decide) f4
  replace f5 := kp h76 (by decide) f5
  replace f115 := kp h76 (by decide) f115
  replace f119 := kp h76 (by decide) f119
  have f120 := nw h76 z75 (by decide)
  clear z75
  replace h76 := Lib.hid h76
  refine list_if (u := .bool t20B) (b := t21B) (c := (!q215B)) (c' := ((!q215B) && t21B)) (dk := 119) rfl (by kernel_rfl) f119 rfl (by cases q215B <;> cases t21B <;> rfl) (fun h => run_cmp_int (k := .i64) (p := kv) (q := 1) rfl (.inl rfl) (f120.trans (cv_of h)) rfl ((neq_i3 _ _ _).trans (by rw [ht20B]))) ?_
  refine abs_list _ (fun a77 h77 => ?_)
  have z77 := sp h77 z76
  replace f1 := kp h77 (by decide) f1
  replace f3 := kp h77 (by decide) f3
  replace f4 := kp h77 (by decide) f4
  replace f5 := kp h77 (by decide) f5
  replace f115 := kp h77 (by decide) f115
  replace f119 := kp h77 (by decide) f119
  have f121 := nw h77 z76 (by decide)
  clear f120 z76
  replace h77 := Lib.hid h77
  obtain ⟨q216B, hq216B⟩ : ∃ q : Bool, (t21B && t20B) = q := ⟨_, rfl⟩
  refine list_if (u := .bool q216B) (b := q215B) (c := true) (c' := (!q215B)) (dk := 115) rfl (by kernel_rfl) (f115.trans (cv_true _).symm) rfl (by cases q215B <;> rfl) (fun h => run_pick (b := t21B) rfl (f119.trans (cv_of h)) (by rw [f121, ← hq216B]; revert h; cases q215B <;> cases t20B <;> cases t21B <;> simp [cv, eval_const])) ?_
  refine abs_list _ (fun a78 h78 => ?_)
  have z78 := sp h78 z77
  replace f1 := kp h78 (by decide) f1
  replace f3 := kp h78 (by decide) f3
  replace f4 := kp h78 (by decide) f4
  replace f5 := kp h78 (by decide) f5
  replace f115 := kp h78 (by decide) f115
  have f122 := nw h78 z77 (by decide)
  clear f119 f121 z77
  replace h78 := Lib.hid h78
  refine list_if (u := .bool q216B) (b := q215B) (c := true) (c' := (!q215B)) (dk := 115) rfl (by kernel_rfl) (f115.trans (cv_true _).symm) rfl (by cases q215B <;> rfl) (fun h => run_move rfl (f122.trans (cv_of h)) _) ?_
  refine abs_list _ (fun a79 h79 => ?_)
  have z79 := sp h79 z78
  replace f1 := kp h79 (by decide) f1
  replace f3 := kp h79 (by decide) f3
  replace f4 := kp h79 (by decide) f4
  replace f5 := kp h79 (by decide) f5
  replace f115 := kp h79 (by decide) f115
  have f123 := nw h79 z78 (by decide)
  clear f122 z78
  replace h79 := Lib.hid h79
  refine list_if (u := .int .i64 kv) (b := q216B) (c := (!q215B)) (c' := ((!q215B) && q216B)) (dk := 123) rfl (by kernel_rfl) f123 rfl (by cases q215B <;> cases q216B <;> rfl) (fun h => run_move rfl f3 _) ?_
  refine abs_list _ (fun a80 h80 => ?_)
  have z80 := sp h80 z79
  replace f1 := kp h80 (by decide) f1
  replace f3 := kp h80 (by decide) f3
  replace f4 := kp h80 (by decide) f4
  replace f5 := kp h80 (by decide) f5
  replace f115 := kp h80 (by decide) f115
  replace f123 := kp h80 (by decide) f123
  have f124 := nw h80 z79 (by decide)
  clear z79
  replace h80 := Lib.hid h80
  refine list_if (u := .bool t22B) (b := q216B) (c := (!q215B)) (c' := ((!q215B) && q216B)) (dk := 123) rfl (by kernel_rfl) f123 rfl (by cases q215B <;> cases q216B <;> rfl) (fun h => run_cmp_int (k := .i64) (p := kv) (q := 3) rfl (.inl rfl) (f124.trans (cv_of h)) rfl ((neq_i3 _ _ _).trans (by rw [ht22B]))) ?_
  refine abs_list _ (fun a81 h81 => ?_)
  have z81 := sp h81 z80
  replace f1 := kp h81 (by decide) f1
  replace f3 := kp h81 (by decide) f3
  replace f4 := kp h81 (by decide) f4
  replace f5 := kp h81 (by decide) f5
  replace f115 := kp h81 (by decide) f115
  replace f123 := kp h81 (by decide) f123
  have f125 := nw h81 z80 (by decide)
  clear f124 z80
  replace h81 := Lib.hid h81
  obtain ⟨q217B, hq217B⟩ : ∃ q : Bool, (q216B && t22B) = q := ⟨_, rfl⟩
  refine list_if (u := .bool q217B) (b := q215B) (c := true) (c' := (!q215B)) (dk := 115) rfl (by kernel_rfl) (f115.trans (cv_true _).symm) rfl (by cases q215B <;> rfl) (fun h => run_pick (b := q216B) rfl (f123.trans (cv_of h)) (by rw [f125, ← hq217B]; revert h; cases q215B <;> cases q216B <;> cases t22B <;> simp [cv, eval_const])) ?_
  refine abs_list _ (fun a82 h82 => ?_)
  have z82 := sp h82 z81
  replace f1 := kp h82 (by decide) f1
  replace f3 := kp h82 (by decide) f3
  replace f4 := kp h82 (by decide) f4
  replace f5 := kp h82 (by decide) f5
  replace f115 := kp h82 (by decide) f115
  have f126 := nw h82 z81 (by decide)
  clear f123 f125 z81
  replace h82 := Lib.hid h82
  obtain ⟨q218B, hq218B⟩ : ∃ q : Bool, (q215B || q217B) = q := ⟨_, rfl⟩
  refine list_val (u := .bool q218B) rfl rfl (run_pick (b := q215B) rfl f115 (by rw [f126, ← hq218B]; cases q215B <;> cases q217B <;> simp [cv, eval_const])) ?_
  refine abs_list _ (fun a83 h83 => ?_)
  have z83 := sp h83 z82
  replace f1 := kp h83 (by decide) f1
  replace f3 := kp h83 (by decide) f3
  replace f4 := kp h83 (by decide) f4
  replace f5 := kp h83 (by decide) f5
  have f127 := nw h83 z82 (by decide)
  clear f115 f126 z82
  replace h83 := Lib.hid h83
  refine list_val (u := .bool q218B) rfl rfl (run_move rfl f127 _) ?_
  refine abs_list _ (fun a84 h84 => ?_)
  have z84 := sp h84 z83
  replace f1 := kp h84 (by decide) f1
  replace f3 := kp h84 (by decide) f3
  replace f4 := kp h84 (by decide) f4
  replace f5 := kp h84 (by decide) f5
  have f128 := nw h84 z83 (by decide)
  clear f127 z83
  replace h84 := Lib.hid h84
  refine list_if (u := .pointer (some ⟨cb, 11, none⟩)) (b := q218B) (c := true) (c' := (!q218B)) (dk := 128) rfl (by kernel_rfl) (f128.trans (cv_true _).symm) rfl (by cases q218B <;> rfl) (fun h => run_field (s := .pointer (some ⟨cb, 0, none⟩)) rfl f1 (by kernel_rfl)) ?_
  refine abs_list _ (fun a85 h85 => ?_)
  have z85 := sp h85 z84
  replace f1 := kp h85 (by decide) f1
  replace f3 := kp h85 (by decide) f3
  replace f4 := kp h85 (by decide) f4
  replace f5 := kp h85 (by decide) f5
  replace f128 := kp h85 (by decide) f128
  have f129 := nw h85 z84 (by decide)
  clear z84
  replace h85 := Lib.hid h85
  refine list_if (u := .slice oP nP cP) (b := q218B) (c := true) (c' := (!q218B)) (dk := 128) rfl (by kernel_rfl) (f128.trans (cv_true _).symm) rfl (by cases q218B <;> rfl) (fun h => run_load1 (s := .pointer (some ⟨cb, 11, none⟩)) rfl (f129.trans (cv_of h)) (by have c : w1.cell? ⟨cb, 11, none⟩ = some (.slice oP nP cP) := X1.cell 11; go_simp)) ?_
  refine abs_list _ (fun a86 h86 => ?_)
  have z86 := sp h86 z85
  replace f1 := kp h86 (by decide) f1
  replace f3 := kp h86 (by decide) f3
  replace f4 := kp h86 (by decide) f4
  replace f5 := kp h86 (by decide) f5
  replace f128 := kp h86 (by decide) f128
  have f130 := nw h86 z85 (by decide)
  clear f129 z85
  replace h86 := Lib.hid h86
  refine list_if (u := .int .i64 (nP : Nat)) (b := q218B) (c := true) (c' := (!q218B)) (dk := 128) rfl (by kernel_rfl) (f128.trans (cv_true _).symm) rfl (by cases q218B <;> rfl) (fun h => run_lens (s := .slice oP nP cP) rfl (f130.trans (cv_of h)) (fun cs => len_sl23 _ _ _ _ cs)) ?_
  refine abs_list _ (fun a87 h87 => ?_)
  have z87 := sp h87 z86
  replace f1 := kp h87 (by decide) f1
  replace f3 := kp h87 (by decide) f3
  replace f4 := kp h87 (by decide) f4
  replace f5 := kp h87 (by decide) f5
  replace f128 := kp h87 (by decide) f128
  have f131 := nw h87 z86 (by decide)
  clear f130 z86
  replace h87 := Lib.hid h87
  refine list_if (u := .bool t23B) (b := q218B) (c := true) (c' := (!q218B)) (dk := 128) rfl (by kernel_rfl) (f128.trans (cv_true _).symm) rfl (by cases q218B <;> rfl) (fun h => run_ord (s := .int .i64 (nP : Nat)) (j := .int .i64 0) rfl (.inr (.inl rfl)) (f131.trans (cv_of h)) rfl ((gtr_i3 _ _ _).trans (by rw [ht23B]))) ?_
  refine abs_list _ (fun a88 h88 => ?_)
  have z88 := sp h88 z87
  replace f1 := kp h88 (by decide) f1
  replace f3 := kp h88 (by decide) f3
  replace f4 := kp h88 (by decide) f4
  replace f5 := kp h88 (by decide) f5
  replace f128 := kp h88 (by decide) f128
  have f132 := nw h88 z87 (by decide)
  clear f131 z87
  replace h88 := Lib.hid h88
  refine list_if (u := .bool t23B) (b := q218B) (c := true) (c' := (!q218B)) (dk := 128) rfl (by kernel_rfl) (f128.trans (cv_true _).symm) rfl (by cases q218B <;> rfl) (fun h => run_move rfl (f132.trans (cv_of h)) _) ?_
  refine abs_list _ (fun a89 h89 => ?_)
  have z89 := sp h89 z88
  replace f1 := kp h89 (by decide) f1
  replace f3 := kp h89 (by decide) f3
  replace f4 := kp h89 (by decide) f4
  replace f5 := kp h89 (by decide) f5
  replace f128 := kp h89 (by decide) f128
  have f133 := nw h89 z88 (by decide)
  clear f132 z88
  replace h89 := Lib.hid h89
  refine list_if (u := .int .i64 kv) (b := t23B) (c := (!q218B)) (c' := ((!q218B) && t23B)) (dk := 133) rfl (by kernel_rfl) f133 rfl (by cases q218B <;> cases t23B <;> rfl) (fun h => run_move rfl f3 _) ?_
  refine abs_list _ (fun a90 h90 => ?_)
  have z90 := sp h90 z89
  replace f1 := kp h90 (by decide) f1
  replace f3 := kp h90 (by decide) f3
  replace f4 := kp h90 (by decide) f4
  replace f5 := kp h90 (by decide) f5
  replace f128 := kp h90 (by decide) f128
  replace f133 := kp h90 (by decide) f133
  have f134 := nw h90 z89 (by decide)
  clear z89
  replace h90 := Lib.hid h90
  refine list_if (u := .bool t20B) (b := t23B) (c := (!q218B)) (c' := ((!q218B) && t23B)) (dk := 133) rfl (by kernel_rfl) f133 rfl (by cases q218B <;> cases t23B <;> rfl) (fun h => run_cmp_int (k := .i64) (p := kv) (q := 1) rfl (.inl rfl) (f134.trans (cv_of h)) rfl ((neq_i3 _ _ _).trans (by rw [ht20B]))) ?_
  refine abs_list _ (fun a91 h91 => ?_)
  have z91 := sp h91 z90
  replace f1 := kp h91 (by decide) f1
  replace f3 := kp h91 (by decide) f3
  replace f4 := kp h91 (by decide) f4
  replace f5 := kp h91 (by decide) f5
  replace f128 := kp h91 (by decide) f128
  replace f133 := kp h91 (by decide) f133
  have f135 := nw h91 z90 (by decide)
  clear f134 z90
  replace h91 := Lib.hid h91
  obtain ⟨q219B, hq219B⟩ : ∃ q : Bool, (t23B && t20B) = q := ⟨_, rfl⟩
  refine list_if (u := .bool q219B) (b := q218B) (c := true) (c' := (!q218B)) (dk := 128) rfl (by kernel_rfl) (f128.trans (cv_true _).symm) rfl (by cases q218B <;> rfl) (fun h => run_pick (b := t23B) rfl (f133.trans (cv_of h)) (by rw [f135, ← hq219B]; revert h; cases q218B <;> cases t20B <;> cases t23B <;> simp [cv, eval_const])) ?_
  refine abs_list _ (fun a92 h92 => ?_)
  have z92 := sp h92 z91
  replace f1 := kp h92 (by decide) f1
  replace f3 := kp h92 (by decide) f3
  replace f4 := kp h92 (by decide) f4
  replace f5 := kp h92 (by decide) f5
  replace f128 := kp h92 (by decide) f128
  have f136 := nw h92 z91 (by decide)
  clear f133 f135 z91
  replace h92 := Lib.hid h92
  refine list_if (u := .bool q219B) (b := q218B) (c := true) (c' := (!q218B)) (dk := 128) rfl (by kernel_rfl) (f128.trans (cv_true _).symm) rfl (by cases q218B <;> rfl) (fun h => run_move rfl (f136.trans (cv_of h)) _) ?_
  refine abs_list _ (fun a93 h93 => ?_)
  have z93 := sp h93 z92
  replace f1 := kp h93 (by decide) f1
  replace f3 := kp h93 (by decide) f3
  replace f4 := kp h93 (by decide) f4
  replace f5 := kp h93 (by decide) f5
  replace f128 := kp h93 (by decide) f128
  have f137 := nw h93 z92 (by decide)
  clear f136 z92
  replace h93 := Lib.hid h93
  refine list_if (u := .int .i64 kv) (b := q219B) (c := (!q218B)) (c' := ((!q218B) && q219B)) (dk := 137) rfl (by kernel_rfl) f137 rfl (by cases q218B <;> cases q219B <;> rfl) (fun h => run_move rfl f3 _) ?_
  refine abs_list _ (fun a94 h94 => ?_)
  have z94 := sp h94 z93
  replace f1 := kp h94 (by decide) f1
  replace f3 := kp h94 (by decide) f3
  replace f4 := kp h94 (by decide) f4
  replace f5 := kp h94 (by decide) f5
  replace f128 := kp h94 (by decide) f128
  replace f137 := kp h94 (by decide) f137
  have f138 := nw h94 z93 (by decide)
  clear z93
  replace h94 := Lib.hid h94
  refine list_if (u := .bool t24B) (b := q219B) (c := (!q218B)) (c' := ((!q218B) && q219B)) (dk := 137) rfl (by kernel_rfl) f137 rfl (by cases q218B <;> cases q219B <;> rfl) (fun h => run_cmp_int (k := .i64) (p := kv) (q := 16) rfl (.inl rfl) (f138.trans (cv_of h)) rfl ((neq_i3 _ _ _).trans (by rw [ht24B]))) ?_
  refine abs_list _ (fun a95 h95 => ?_)
  have z95 := sp h95 z94
  replace f1 := kp h95 (by decide) f1
  replace f3 := kp h95 (by decide) f3
  replace f4 := kp h95 (by decide) f4
  replace f5 := kp h95 (by decide) f5
  replace f128 := kp h95 (by decide) f128
  replace f137 := kp h95 (by decide) f137
  have f139 := nw h95 z94 (by decide)
  clear f138 z94
  replace h95 := Lib.hid h95
  obtain ⟨q220B, hq220B⟩ : ∃ q : Bool, (q219B && t24B) = q := ⟨_, rfl⟩
  refine list_if (u := .bool q220B) (b := q218B) (c := true) (c' := (!q218B)) (dk := 128) rfl (by kernel_rfl) (f128.trans (cv_true _).symm) rfl (by cases q218B <;> rfl) (fun h => run_pick (b := q219B) rfl (f137.trans (cv_of h)) (by rw [f139, ← hq220B]; revert h; cases q218B <;> cases q219B <;> cases t24B <;> simp [cv, eval_const])) ?_
  refine abs_list _ (fun a96 h96 => ?_)
  have z96 := sp h96 z95
  replace f1 := kp h96 (by decide) f1
  replace f3 := kp h96 (by decide) f3
  replace f4 := kp h96 (by decide) f4
  replace f5 := kp h96 (by decide) f5
  replace f128 := kp h96 (by decide) f128
  have f140 := nw h96 z95 (by decide)
  clear f137 f139 z95
  replace h96 := Lib.hid h96
  obtain ⟨q221B, hq221B⟩ : ∃ q : Bool, (q218B || q220B) = q := ⟨_, rfl⟩
  refine list_val (u := .bool q221B) rfl rfl (run_pick (b := q218B) rfl f128 (by rw [f140, ← hq221B]; cases q218B <;> cases q220B <;> simp [cv, eval_const])) ?_
  refine abs_list _ (fun a97 h97 => ?_)
  have z97 := sp h97 z96
  replace f1 := kp h97 (by decide) f1
  replace f3 := kp h97 (by decide) f3
  replace f4 := kp h97 (by decide) f4
  replace f5 := kp h97 (by decide) f5
  have f141 := nw h97 z96 (by decide)
  clear f128 f140 z96
  replace h97 := Lib.hid h97
  refine list_val (u := .bool q221B) rfl rfl (run_move rfl f141 _) ?_
  refine abs_list _ (fun a98 h98 => ?_)
  have z98 := sp h98 z97
  replace f1 := kp h98 (by decide) f1
  replace f3 := kp h98 (by decide) f3
  replace f4 := kp h98 (by decide) f4
  replace f5 := kp h98 (by decide) f5
  have f142 := nw h98 z97 (by decide)
  clear f141 z97
  replace h98 := Lib.hid h98
  refine list_if (u := .pointer (some ⟨cb, 12, none⟩)) (b := q221B) (c := true) (c' := (!q221B)) (dk := 142) rfl (by kernel_rfl) (f142.trans (cv_true _).symm) rfl (by cases q221B <;> rfl) (fun h => run_field (s := .pointer (some ⟨cb, 0, none⟩)) rfl f1 (by kernel_rfl)) ?_
  refine abs_list _ (fun a99 h99 => ?_)
  have z99 := sp h99 z98
  replace f1 := kp h99 (by decide) f1
  replace f3 := kp h99 (by decide) f3
  replace f4 := kp h99 (by decide) f4
  replace f5 := kp h99 (by decide) f5
  replace f142 := kp h99 (by decide) f142
  have f143 := nw h99 z98 (by decide)
  clear z98
  replace h99 := Lib.hid h99
  refine list_if (u := .slice oK nK cK) (b := q221B) (c := true) (c' := (!q221B)) (dk := 142) rfl (by kernel_rfl) (f142.trans (cv_true _).symm) rfl (by cases q221B <;> rfl) (fun h => run_load1 (s := .pointer (some ⟨cb, 12, none⟩)) rfl (f143.trans (cv_of h)) (by have c : w1.cell? ⟨cb, 12, none⟩ = some (.slice oK nK cK) := X1.cell 12; go_simp)) ?_
  refine abs_list _ (fun a100 h100 => ?_)
  have z100 := sp h100 z99
  replace f1 := kp h100 (by decide) f1
  replace f3 := kp h100 (by decide) f3
  replace f4 := kp h100 (by decide) f4
  replace f5 := kp h100 (by decide) f5
  replace f142 := kp h100 (by decide) f142
  have f144 := nw h100 z99 (by decide)
  clear f143 z99
  replace h100 := Lib.hid h100
  refine list_if (u := .int .i64 (nK : Nat)) (b := q221B) (c := true) (c' := (!q221B)) (dk := 142) rfl (by kernel_rfl) (f142.trans (cv_true _).symm) rfl (by cases q221B <;> rfl) (fun h => run_lens (s := .slice oK nK cK) rfl (f144.trans (cv_of h)) (fun cs => len_sl24 _ _ _ _ cs)) ?_
  refine abs_list _ (fun a101 h101 => ?_)
  have z101 := sp h101 z100
  replace f1 := kp h101 (by decide) f1
  replace f3 := kp h101 (by decide) f3
  replace f4 := kp h101 (by decide) f4
  replace f5 := kp h101 (by decide) f5
  replace f142 := kp h101 (by decide) f142
  have f145 := nw h101 z100 (by decide)
  clear f144 z100
  replace h101 := Lib.hid h101
  refine list_if (u := .bool t25B) (b := q221B) (c := true) (c' := (!q221B)) (dk := 142) rfl (by kernel_rfl) (f142.trans (cv_true _).symm) rfl (by cases q221B <;> rfl) (fun h => run_ord (s := .int .i64 (nK : Nat)) (j := .int .i64 0) rfl (.inr (.inl rfl)) (f145.trans (cv_of h)) rfl ((gtr_i3 _ _ _).trans (by rw [ht25B]))) ?_
  refine abs_list _ (fun a102 h102 => ?_)
  have z102 := sp h102 z101
  replace f1 := kp h102 (by decide) f1
  replace f3 := kp h102 (by decide) f3
  replace f4 := kp h102 (by decide) f4
  replace f5 := kp h102 (by decide) f5
  replace f142 := kp h102 (by decide) f142
  have f146 := nw h102 z101 (by decide)
  clear f145 z101
  replace h102 := Lib.hid h102
  refine list_if (u := .bool t25B) (b := q221B) (c := true) (c' := (!q221B)) (dk := 142) rfl (by kernel_rfl) (f142.trans (cv_true _).symm) rfl (by cases q221B <;> rfl) (fun h => run_move rfl (f146.trans (cv_of h)) _) ?_
  refine abs_list _ (fun a103 h103 => ?_)
  have z103 := sp h103 z102
  replace f1 := kp h103 (by decide) f1
  replace f3 := kp h103 (by decide) f3
  replace f4 := kp h103 (by decide) f4
  replace f5 := kp h103 (by decide) f5
  replace f142 := kp h103 (by decide) f142
  have f147 := nw h103 z102 (by decide)
  clear f146 z102
  replace h103 := Lib.hid h103
  refine list_if (u := .int .i64 kv) (b := t25B) (c := (!q221B)) (c' := ((!q221B) && t25B)) (dk := 147) rfl (by kernel_rfl) f147 rfl (by cases q221B <;> cases t25B <;> rfl) (fun h => run_move rfl f3 _) ?_
  refine abs_list _ (fun a104 h104 => ?_)
  have z104 := sp h104 z103
  replace f1 := kp h104 (by decide) f1
  replace f3 := kp h104 (by decide) f3
  replace f4 := kp h104 (by decide) f4
  replace f5 := kp h104 (by decide) f5
  replace f142 := kp h104 (by decide) f142
  replace f147 := kp h104 (by decide) f147
  have f148 := nw h104 z103 (by decide)
  clear z103
  replace h104 := Lib.hid h104
  refine list_if (u := .bool t26B) (b := t25B) (c := (!q221B)) (c' := ((!q221B) && t25B)) (dk := 147) rfl (by kernel_rfl) f147 rfl (by cases q221B <;> cases t25B <;> rfl) (fun h => run_cmp_int (k := .i64) (p := kv) (q := 6) rfl (.inl rfl) (f148.trans (cv_of h)) rfl ((neq_i3 _ _ _).trans (by rw [ht26B]))) ?_
  refine abs_list _ (fun a105 h105 => ?_)
  have z105 := sp h105 z104
  replace f1 := kp h105 (by decide) f1
  replace f3 := kp h105 (by decide) f3
  replace f4 := kp h105 (by decide) f4
  replace f5 := kp h105 (by decide) f5
  replace f142 := kp h105 (by decide) f142
  replace f147 := kp h105 (by decide) f147
  have f149 := nw h105 z104 (by decide)
  clear f148 z104
  replace h105 := Lib.hid h105
  obtain ⟨q222B, hq222B⟩ : ∃ q : Bool, (t25B && t26B) = q := ⟨_, rfl⟩
  refine list_if (u := .bool q222B) (b := q221B) (c := true) (c' := (!q221B)) (dk := 142) rfl (by kernel_rfl) (f142.trans (cv_true _).symm) rfl (by cases q221B <;> rfl) (fun h => run_pick (b := t25B) rfl (f147.trans (cv_of h)) (by rw [f149, ← hq222B]; revert h; cases q221B <;> cases t25B <;> cases t26B <;> simp [cv, eval_const])) ?_
  refine abs_list _ (fun a106 h106 => ?_)
  have z106 := sp h106 z105
  replace f1 := kp h106 (by decide) f1
  replace f3 := kp h106 (by decide) f3
  replace f4 := kp h106 (by decide) f4
  replace f5 := kp h106 (by decide) f5
  replace f142 := kp h106 (by decide) f142
  have f150 := nw h106 z105 (by decide)
  clear f147 f149 z105
  replace h106 := Lib.hid h106
  obtain ⟨q223B, hq223B⟩ : ∃ q : Bool, (q221B || q222B) = q := ⟨_, rfl⟩
  refine list_val (u := .bool q223B) rfl rfl (run_pick (b := q221B) rfl f142 (by rw [f150, ← hq223B]; cases q221B <;> cases q222B <;> simp [cv, eval_const])) ?_
  refine abs_list _ (fun a107 h107 => ?_)
  have z107 := sp h107 z106
  replace f1 := kp h107 (by decide) f1
  replace f3 := kp h107 (by decide) f3
  replace f4 := kp h107 (by decide) f4
  replace f5 := kp h107 (by decide) f5
  have f151 := nw h107 z106 (by decide)
  clear f142 f150 z106
  replace h107 := Lib.hid h107
  refine list_val (u := .bool q223B) rfl rfl (run_move rfl f151 _) ?_
  refine abs_list _ (fun a108 h108 => ?_)
  have z108 := sp h108 z107
  replace f1 := kp h108 (by decide) f1
  replace f3 := kp h108 (by decide) f3
  replace f4 := kp h108 (by decide) f4
  replace f5 := kp h108 (by decide) f5
  have f152 := nw h108 z107 (by decide)
  clear f151 z107
  replace h108 := Lib.hid h108
  refine list_if (u := .pointer (some ⟨cb, 13, none⟩)) (b := q223B) (c := true) (c' := (!q223B)) (dk := 152) rfl (by kernel_rfl) (f152.trans (cv_true _).symm) rfl (by cases q223B <;> rfl) (fun h => run_field (s := .pointer (some ⟨cb, 0, none⟩)) rfl f1 (by kernel_rfl)) ?_
  refine abs_list _ (fun a109 h109 => ?_)
  have z109 := sp h109 z108
  replace f1 := kp h109 (by decide) f1
  replace f3 := kp h109 (by decide) f3
  replace f4 := kp h109 (by decide) f4
  replace f5 := kp h109 (by decide) f5
  replace f152 := kp h109 (by decide) f152
  have f153 := nw h109 z108 (by decide)
  clear z108
  replace h109 := Lib.hid h109
  refine list_if (u := .slice oG nG cG) (b := q223B) (c := true) (c' := (!q223B)) (dk := 152) rfl (by kernel_rfl) (f152.trans (cv_true _).symm) rfl (by cases q223B <;> rfl) (fun h => run_load1 (s := .pointer (some ⟨cb, 13, none⟩)) rfl (f153.trans (cv_of h)) (by have c : w1.cell? ⟨cb, 13, none⟩ = some (.slice oG nG cG) := X1.cell 13; go_simp)) ?_
  refine abs_list _ (fun a110 h110 => ?_)
  have z110 := sp h110 z109
  replace f1 := kp h110 (by decide) f1
  replace f3 := kp h110 (by decide) f3
  replace f4 := kp h110 (by decide) f4
  replace f5 := kp h110 (by decide) f5
  replace f152 := kp h110 (by decide) f152
  have f154 := nw h110 z109 (by decide)
  clear f153 z109
  replace h110 := Lib.hid h110
  refine list_if (u := .int .i64 (nG : Nat)) (b := q223B) (c := true) (c' := (!q223B)) (dk := 152) rfl (by kernel_rfl) (f152.trans (cv_true _).symm) rfl (by cases q223B <;> rfl) (fun h => run_lens (s := .slice oG nG cG) rfl (f154.trans (cv_of h)) (fun cs => len_sl25 _ _ _ _ cs)) ?_
  refine abs_list _ (fun a111 h111 => ?_)
  have z111 := sp h111 z110
  replace f1 := kp h111 (by decide) f1
  replace f3 := kp h111 (by decide) f3
  replace f4 := kp h111 (by decide) f4
  replace f5 := kp h111 (by decide) f5
  replace f152 := kp h111 (by decide) f152
  have f155 := nw h111 z110 (by decide)
  clear f154 z110
  replace h111 := Lib.hid h111
  refine list_if (u := .pointer (some ⟨cb, 14, none⟩)) (b := q223B) (c := true) (c' := (!q223B)) (dk := 152) rfl (by kernel_rfl) (f152.trans (cv_true _).symm) rfl (by cases q223B <;> rfl) (fun h => run_field (s := .pointer (some ⟨cb, 0, none⟩)) rfl f1 (by kernel_rfl)) ?_
  refine abs_list _ (fun a112 h112 => ?_)
  have z112 := sp h112 z111
  replace f1 := kp h112 (by decide) f1
  replace f3 := kp h112 (by decide) f3
  replace f4 := kp h112 (by decide) f4
  replace f5 := kp h112 (by decide) f5
  replace f152 := kp h112 (by decide) f152
  replace f155 := kp h112 (by decide) f155
  have f156 := nw h112 z111 (by decide)
  clear z111
  replace h112 := Lib.hid h112
  refine list_if (u := .slice oD nD cD) (b := q223B) (c := true) (c' := (!q223B)) (dk := 152) rfl (by kernel_rfl) (f152.trans (cv_true _).symm) rfl (by cases q223B <;> rfl) (fun h => run_load1 (s := .pointer (some ⟨cb, 14, none⟩)) rfl (f156.trans (cv_of h)) (by have c : w1.cell? ⟨cb, 14, none⟩ = some (.slice oD nD cD) := X1.cell 14; go_simp)) ?_
  refine abs_list _ (fun a113 h113 => ?_)
  have z113 := sp h113 z112
  replace f1 := kp h113 (by decide) f1
  replace f3 := kp h113 (by decide) f3
  replace f4 := kp h113 (by decide) f4
  replace f5 := kp h113 (by decide) f5
  replace f152 := kp h113 (by decide) f152
  replace f155 := kp h113 (by decide) f155
  have f157 := nw h113 z112 (by decide)
  clear f156 z112
  replace h113 := Lib.hid h113
  refine list_if (u := .int .i64 (nD : Nat)) (b := q223B) (c := true) (c' := (!q223B)) (dk := 152) rfl (by kernel_rfl) (f152.trans (cv_true _).symm) rfl (by cases q223B <;> rfl) (fun h => run_lens (s := .slice oD nD cD) rfl (f157.trans (cv_of h)) (fun cs => len_sl26 _ _ _ _ cs)) ?_
  refine abs_list _ (fun a114 h114 => ?_)
  have z114 := sp h114 z113
  replace f1 := kp h114 (by decide) f1
  replace f3 := kp h114 (by decide) f3
  replace f4 := kp h114 (by decide) f4
  replace f5 := kp h114 (by decide) f5
  replace f152 := kp h114 (by decide) f152
  replace f155 := kp h114 (by decide) f155
  have f158 := nw h114 z113 (by decide)
  clear f157 z113
  replace h114 := Lib.hid h114
  refine list_if (u := .int .i64 ((nG + nD : Nat) : Nat)) (b := q223B) (c := true) (c' := (!q223B)) (dk := 152) rfl (by kernel_rfl) (f152.trans (cv_true _).symm) rfl (by cases q223B <;> rfl) (fun h => run_ord (s := .int .i64 (nG : Nat)) (j := .int .i64 (nD : Nat)) rfl (.inr (.inr (.inr (.inr (.inl rfl))))) (f155.trans (cv_of h)) (f158.trans (cv_of h)) (add_n _ _ (by omega) _)) ?_
  refine abs_list _ (fun a115 h115 => ?_)
  have z115 := sp h115 z114
  replace f1 := kp h115 (by decide) f1
  replace f3 := kp h115 (by decide) f3
  replace f4 := kp h115 (by decide) f4
  replace f5 := kp h115 (by decide) f5
  replace f152 := kp h115 (by decide) f152
  have f159 := nw h115 z114 (by decide)
  clear f155 f158 z114
  replace h115 := Lib.hid h115
  refine list_if (u := .bool t27B) (b := q223B) (c := true) (c' := (!q223B)) (dk := 152) rfl (by kernel_rfl) (f152.trans (cv_true _).symm) rfl (by cases q223B <;> rfl) (fun h => run_ord (s := .int .i64 ((nG + nD : Nat) : Nat)) (j := .int .i64 0) rfl (.inr (.inl rfl)) (f159.trans (cv_of h)) rfl ((gtr_i3 _ _ _).trans (by rw [ht27B]))) ?_
  refine abs_list _ (fun a116 h116 => ?_)
  have z116 := sp h116 z115
  replace f1 := kp h116 (by decide) f1
  replace f3 := kp h116 (by decide) f3
  replace f4 := kp h116 (by decide) f4
  replace f5 := kp h116 (by decide) f5
  replace f152 := kp h116 (by decide) f152
  have f160 := nw h116 z115 (by decide)
  clear f159 z115
  replace h116 := Lib.hid h116
  refine list_if (u := .bool t27B) (b := q223B) (c := true) (c' := (!q223B)) (dk := 152) rfl (by kernel_rfl) (f152.trans (cv_true _).symm) rfl (by cases q223B <;> rfl) (fun h => run_move rfl (f160.trans (cv_of h)) _) ?_
  refine abs_list _ (fun a117 h117 => ?_)
  have z117 := sp h117 z116
  replace f1 := kp h117 (by decide) f1
  replace f3 := kp h117 (by decide) f3
  replace f4 := kp h117 (by decide) f4
  replace f5 := kp h117 (by decide) f5
  replace f152 := kp h117 (by decide) f152
  have f161 := nw h117 z116 (by decide)
  clear f160 z116
  replace h117 := Lib.hid h117
  refine list_if (u := .int .i64 kv) (b := t27B) (c := (!q223B)) (c' := ((!q223B) && t27B)) (dk := 161) rfl (by kernel_rfl) f161 rfl (by cases q223B <;> cases t27B <;> rfl) (fun h => run_move rfl f3 _) ?_
  refine abs_list _ (fun a118 h118 => ?_)
  have z118 := sp h118 z117
  replace f1 := kp h118 (by decide) f1
  replace f3 := kp h118 (by decide) f3
  replace f4 := kp h118 (by decide) f4
  replace f5 := kp h118 (by decide) f5
  replace f152 := kp h118 (by decide) f152
  replace f161 := kp h118 (by decide) f161
  have f162 := nw h118 z117 (by decide)
  clear z117
  replace h118 := Lib.hid h118
  refine list_if (u := .bool t22B) (b := t27B) (c := (!q223B)) (c' := ((!q223B) && t27B)) (dk := 161) rfl (by kernel_rfl) f161 rfl (by cases q223B <;> cases t27B <;> rfl) (fun h => run_cmp_int (k := .i64) (p := kv) (q := 3) rfl (.inl rfl) (f162.trans (cv_of h)) rfl ((neq_i3 _ _ _).trans (by rw [ht22B]))) ?_
  refine abs_list _ (fun a119 h119 => ?_)
  have z119 := sp h119 z118
  replace f1 := kp h119 (by decide) f1
  replace f3 := kp h119 (by decide) f3
  replace f4 := kp h119 (by decide) f4
  replace f5 := kp h119 (by decide) f5
  replace f152 := kp h119 (by decide) f152
  replace f161 := kp h119 (by decide) f161
  have f163 := nw h119 z118 (by decide)
  clear f162 z118
  replace h119 := Lib.hid h119
  obtain ⟨q224B, hq224B⟩ : ∃ q : Bool, (t27B && t22B) = q := ⟨_, rfl⟩
  refine list_if (u := .bool q224B) (b := q223B) (c := true) (c' := (!q223B)) (dk := 152) rfl (by kernel_rfl) (f152.trans (cv_true _).symm) rfl (by cases q223B <;> rfl) (fun h => run_pick (b := t27B) rfl (f161.trans (cv_of h)) (by rw [f163, ← hq224B]; revert h; cases q223B <;> cases t22B <;> cases t27B <;> simp [cv, eval_const])) ?_
  refine abs_list _ (fun a120 h120 => ?_)
  have z120 := sp h120 z119
  replace f1 := kp h120 (by decide) f1
  replace f3 := kp h120 (by decide) f3
  replace f4 := kp h120 (by decide) f4
  replace f5 := kp h120 (by decide) f5
  replace f152 := kp h120 (by decide) f152
  have f164 := nw h120 z119 (by decide)
  clear f161 f163 z119
  replace h120 := Lib.hid h120
  obtain ⟨q225B, hq225B⟩ : ∃ q : Bool, (q223B || q224B) = q := ⟨_, rfl⟩
  refine list_val (u := .bool q225B) rfl rfl (run_pick (b := q223B) rfl f152 (by rw [f164, ← hq225B]; cases q223B <;> cases q224B <;> simp [cv, eval_const])) ?_
  refine abs_list _ (fun a121 h121 => ?_)
  have z121 := sp h121 z120
  replace f1 := kp h121 (by decide) f1
  replace f3 := kp h121 (by decide) f3
  replace f4 := kp h121 (by decide) f4
  replace f5 := kp h121 (by decide) f5
  have f165 := nw h121 z120 (by decide)
  clear f152 f164 z120
  replace h121 := Lib.hid h121
  refine list_val (u := .bool q225B) rfl rfl (run_assign rfl f165 _) ?_
  refine abs_list _ (fun a122 h122 => ?_)
  have z122 := sp h122 z121
  replace f1 := kp h122 (by decide) f1
  replace f3 := kp h122 (by decide) f3
  replace f4 := kp h122 (by decide) f4
  replace f5 := kp h122 (by decide) f5
  have f2 := nw h122 z121 (by decide)
  clear f165 z121
  replace h122 := Lib.hid h122
  refine wpList_nil ?_
  rw [h122.out, h121.out, h120.out, h119.out, h118.out, h117.out, h116.out, h115.out, h114.out, h113.out, h112.out, h111.out, h110.out, h109.out, h108.out, h107.out, h106.out, h105.out, h104.out, h103.out, h102.out, h101.out, h100.out, h99.out, h98.out, h97.out, h96.out, h95.out, h94.out, h93.out, h92.out, h91.out, h90.out, h89.out, h88.out, h87.out, h86.out, h85.out, h84.out, h83.out, h82.out, h81.out, h80.out, h79.out, h78.out, h77.out, h76.out, h75.out, h74.out, h73.out, h72.out, h71.out, h70.out, h69.out, h68.out, h67.out, h66.out, h65.out, h64.out, h63.out, h62.out, h61.out, h60.out, h59.out, h58.out, h57.out, h56.out, h55.out, h54.out, h53.out, h52.out, h51.out, h50.out, h49.out, h48.out, h47.out, h46.out, h45.out, h44.out, h43.out, h42.out, h41.out, h40.out, h39.out, h38.out, h37.out, h36.out, h35.out, h34.out, h33.out, h32.out, h31.out, h30.out, h29.out, h28.out, h27.out, h26.out, h25.out, h24.out, h23.out, h22.out, h21.out, h20.out, h19.out, h18.out, h17.out, h16.out, h15.out, h14.out, h13.out, h12.out, h11.out, h10.out, h9.out, h8.out, h7.out, h6.out, h5.out, h4.out, h3.out, h2.out, h1.out, HB.out]
  simp only [Act.put, List.setIfInBounds_toArray, List.set_cons_zero, List.set_cons_succ]
  clear f1 f3 f4 f5 f2 z122 HB hsz h1 h2 h3 h4 h5 h6 h7 h8 h9 h10 h11 h12 h13 h14 h15 h16 h17 h18 h19 h20 h21 h22 h23 h24 h25 h26 h27 h28 h29 h30 h31 h32 h33 h34 h35 h36 h37 h38 h39 h40 h41 h42 h43 h44 h45 h46 h47 h48 h49 h50 h51 h52 h53 h54 h55 h56 h57 h58 h59 h60 h61 h62 h63 h64 h65 h66 h67 h68 h69 h70 h71 h72 h73 h74 h75 h76 h77 h78 h79 h80 h81 h82 h83 h84 h85 h86 h87 h88 h89 h90 h91 h92 h93 h94 h95 h96 h97 h98 h99 h100 h101 h102 h103 h104 h105 h106 h107 h108 h109 h110 h111 h112 h113 h114 h115 h116 h117 h118 h119 h120 h121 h122
  have HY := Lib.hid (show rb = q225B by
    rw [← HRB.out]
    unfold hasF
    rw [ht1B, ht2B, ht3B, ht4B, ht5B, ht6B, ht7B, ht8B, ht9B, ht10B, ht11B, ht12B, ht13B, ht14B, ht15B, ht16B, ht17B, ht18B, ht19B, ht20B, ht21B, ht22B, ht23B, ht24B, ht25B, ht26B, ht27B]
    subst_vars
    rfl)
  go_wp2_with fail
  go_ret
  exact ⟨ret_bool HY.out.symm, bel1⟩
end Go.Proofs.Ytfpcneekbdcbcaa.ck
/- General words: a call, and a row that is built, in a long chain, where it is not known whether they happen. -/
namespace Go.Proofs.Ytfpcneekbdcbcaa.kit
open Go.ChangeShapes Go.WideShapes Go.ChangeAt Go.RowKit
section
variable {P : Program} {ops : Array Oper} {Q : Exit → Act → World → Prop}
theorem list_call_if {o : Oper} {rest : List Oper} {a : Act} {w : World} {u : Value} {d k dk : Nat} {b bb c c' : Bool} (hg : o.guard = some (k, bb)) (hk : (ops[k]?).bind (·.dst) = some dk) (he : a.eval (.tmp dk) = cv c (.bool b)) (hd : o.dst = some d) (hc : (c && (b == bb)) = c')
    (f : FuncId) (fn : Func) (xs : Array Operand) (ts : Array TypeId) (hop : o.op = .call { callee := .value (.func f), args := xs, argTypes := ts }) (hf : P.funcs[f]? = some fn) (hn : (fn.name == "runtime.NumGoroutine") = false) (hb : fn.body.isNone = false)
    (vs : Array Value) (hx : c' = true → xs.map a.eval = vs) {R : World → Prop} (hcall : c' = true → Calls P f vs w fun e w' => e = .returned u ∧ R w') (hR0 : R w)
    (h : ∀ w', R w' → wpList P ops Q rest (a.put (some d) (cv c' u)) w') : wpList P ops Q (o :: rest) a w := by
  have hw : Region.wanted o (yielded ops a.tmps) = c' := by
    rw [← hc]
    cases c with
    | true => rw [cv_true] at he; rw [wanted_eq hg hk he, Bool.true_and]
    | false => rw [wanted_no hg hk he, Bool.false_and]
  refine wpList_step fun K hK => ?_
  by_cases hb' : c' = true
  · rw [cv_of hb'] at h
    exact step_callg (hw.trans hb') f fn xs ts hop hf hn hb vs (hx hb') (hcall hb') (fun w' hR => by rw [hd]; exact hK _ _ (h w' hR))
  · rw [show cv c' u = undef from if_neg hb'] at h
    rw [if_neg (by rw [hw]; exact hb')]
    rw [hd]
    exact hK _ _ (h w hR0)
theorem list_call {o : Oper} {rest : List Oper} {a : Act} {w : World} {u : Value} {d : Nat} (hg : o.guard = none) (hd : o.dst = some d)
    (f : FuncId) (fn : Func) (xs : Array Operand) (ts : Array TypeId) (hop : o.op = .call { callee := .value (.func f), args := xs, argTypes := ts }) (hf : P.funcs[f]? = some fn) (hn : (fn.name == "runtime.NumGoroutine") = false) (hb : fn.body.isNone = false)
    (vs : Array Value) (hx : xs.map a.eval = vs) {R : World → Prop} (hcall : Calls P f vs w fun e w' => e = .returned u ∧ R w')
    (h : ∀ w', R w' → wpList P ops Q rest (a.put (some d) u) w') : wpList P ops Q (o :: rest) a w :=
  wpList_step fun K hK => step_call hg f fn xs ts hop hf hn hb vs hx hcall (fun w' hR => by rw [hd]; exact hK _ _ (h w' hR))
/-- A row, or none. -/
theorem list_make_if {o : Oper} {rest : List Oper} {a : Act} {w w1 : World} {u : Value} {d k dk : Nat} {b bb c c' : Bool} (hg : o.guard = some (k, bb)) (hk : (ops[k]?).bind (·.dst) = some dk) (he : a.eval (.tmp dk) = cv c (.bool b)) (hd : o.dst = some d) (hc : (c && (b == bb)) = c') (hrun : c' = true → (execOp a.eval o).run P w = .ok (.value u) w1)
    (h : ∀ w', (c' = true → w' = w1) → (c' = false → w' = w) → wpList P ops Q rest (a.put (some d) (cv c' u)) w') : wpList P ops Q (o :: rest) a w := by
  have hw : Region.wanted o (yielded ops a.tmps) = c' := by
    rw [← hc]
    cases c with
    | true => rw [cv_true] at he; rw [wanted_eq hg hk he, Bool.true_and]
    | false => rw [wanted_no hg hk he, Bool.false_and]
  refine wpList_step fun K hK => ?_
  by_cases hb : c' = true
  · rw [cv_of hb] at h
    rw [if_pos (by rw [hw, hb])]
    exact wp_val (hrun hb) hd (hK _ _ (h _ (fun _ => rfl) (fun q => by rw [hb] at q; cases q)))
  · rw [show cv c' u = undef from if_neg hb] at h
    rw [if_neg (by rw [hw]; exact hb)]
    rw [hd]
    exact hK _ _ (h _ (fun q => absurd q hb) (fun _ => rfl))
theorem run_build4 {oi : Oper} {a : Act} {x0 x1 x2 x3 : Operand} {ty : TypeId} {u0 u1 u2 u3 s : Value} {v v' : World} (ho : oi.op = .buildSlice ty 4 #[(0, x0), (1, x1), (2, x2), (3, x3)]) (h0 : a.eval x0 = u0) (h1 : a.eval x1 = u1) (h2 : a.eval x2 = u2) (h3 : a.eval x3 = u3) (hr : (Instr.buildSlice ty 4 #[(0, u0), (1, u1), (2, u2), (3, u3)]).run P v = .ok s v') : (execOp a.eval oi).run P v = .ok (.value s) v' := by
  unfold execOp
  simp [ho, h0, h1, h2, h3, hr]
/-- A slot's value handed back at the end. -/
theorem results_slot {fn : Func} {a : Act} {w : World} {k : Nat} {u : Value} (hfn : ∀ W : World, (results fn a.tmps).run P W = (pure (f := Sem) (a.tmps.getD k undef)).run P W) (he : a.eval (.tmp k) = u) : (results fn a.tmps).run P w = .ok u w := by
  rw [hfn]
  have he' : a.tmps.getD k undef = u := he
  rw [he']
  rfl
end
end Go.Proofs.Ytfpcneekbdcbcaa.kit
/- Layer 6: flags that may be, by the program. -/
namespace Go.Proofs.Ytfpcneekbdcbcaa.ck
open Go.ChangeShapes Go.WideShapes Go.ChangeAt Go.RowKit kit oct par chk
set_option maxRecDepth 100000

theorem andN (f : Int) (k : Nat) (m : Int) (hm : m = ((2 ^ k - 1 : Nat) : Int)) (hk : k ≤ 8) (h1 : -9223372036854775808 ≤ f) (h2 : f ≤ 9223372036854775807) : (bits .andNot .i64 f m == 0) = decide (0 ≤ f ∧ f ≤ m) := by
  subst hm
  rw [Bool.eq_iff_iff, beq_iff_eq, decide_eq_true_iff]
  exact andNot_i64 f k hk h1 h2
theorem kn_kind (t : Int) : knB t = !(decide (kindV t = 20)) := by
  unfold knB kindV
  rw [Bool.eq_iff_iff, decide_eq_true_iff, Bool.not_eq_true', decide_eq_false_iff_not]
  (repeat' split) <;> omega
theorem flagsMay_any (t f : Int) (h1 : -9223372036854775808 ≤ f) (h2 : f ≤ 9223372036854775807) (w : World) : Calls Try.prog 50 #[.int .i64 t, .int .i64 f] w fun e w' => e = .returned (.bool (flMay t f)) ∧ Below w.heap.size w w' := by
  obtain ⟨rb, hrb⟩ : ∃ rb, flMay t f = rb := ⟨_, rfl⟩
  rw [hrb]
  have e0 := andN f 0 0 rfl (by decide) h1 h2
  have e1 := andN f 1 1 rfl (by decide) h1 h2
  have e3 := andN f 2 3 rfl (by decide) h1 h2
  have e7 := andN f 3 7 rfl (by decide) h1 h2
  have e8 := andN f 8 255 rfl (by decide) h1 h2
  have HE := Lib.hid (And.intro e0 (And.intro e1 (And.intro e3 (And.intro e7 e8))))
  clear e0 e1 e3 e7 e8 h1 h2
  have HRB := Lib.hid hrb
  clear hrb
  have hk := known_any t w
  have hkk := kn_kind t
  obtain ⟨kn, hkn⟩ : ∃ kn, knB t = kn := ⟨_, rfl⟩
  rw [hkn] at hk hkk
  clear hkn
  by_cases t0 : t = 0
  · subst t0
    have HY := Lib.hid (show rb = _ from HRB.out.symm.trans (show flMay 0 f = _ from HE.out.2.2.2.1.symm))
    clear hk hkk
    go_enter Try.func50, Try.ntmps50
    go_wp2_with fail
    go_ret
    exact ⟨ret_bool HY.out.symm, Below.refl _ _⟩
  by_cases t6 : t = 6
  · subst t6
    have HY := Lib.hid (show rb = _ from HRB.out.symm.trans (show flMay 6 f = _ from HE.out.2.2.1.symm))
    clear hk hkk
    go_enter Try.func50, Try.ntmps50
    go_wp2_with fail
    go_ret
    exact ⟨ret_bool HY.out.symm, Below.refl _ _⟩
  by_cases t9 : t = 9
  · subst t9
    have HY := Lib.hid (show rb = _ from HRB.out.symm.trans (show flMay 9 f = _ from HE.out.2.2.1.symm))
    clear hk hkk
    go_enter Try.func50, Try.ntmps50
    go_wp2_with fail
    go_ret
    exact ⟨ret_bool HY.out.symm, Below.refl _ _⟩
  by_cases t14 : t = 14
  · subst t14
    have HY := Lib.hid (show rb = _ from HRB.out.symm.trans (show flMay 14 f = _ from HE.out.2.1.symm))
    clear hk hkk
    go_enter Try.func50, Try.ntmps50
    go_wp2_with fail
    go_ret
    exact ⟨ret_bool HY.out.symm, Below.refl _ _⟩
  have f1 : (t == 0) = false := beq_eq_false_iff_ne.2 t0
  have f2 : (t == 6) = false := beq_eq_false_iff_ne.2 t6
  have f3 : (t == 9) = false := beq_eq_false_iff_ne.2 t9
  have f4 : (t == 14) = false := beq_eq_false_iff_ne.2 t14
  have HF : flMay t f = if kindV t = 20 then decide (0 ≤ f ∧ f ≤ 255) else decide (0 ≤ f ∧ f ≤ 0) := by
    unfold flMay flagsV
    rw [if_neg t0, if_neg (by omega), if_neg t14]
    split <;> rfl
  rcases kn with _ | _
  · have k20 : kindV t = 20 := by simpa using hkk
    have HY := Lib.hid (show rb = _ from HRB.out.symm.trans (HF.trans ((if_pos k20).trans HE.out.2.2.2.2.symm)))
    clear t0 t6 t9 t14 HF hkk k20
    go_enter Try.func50, Try.ntmps50
    go_wp2_with fail
    refine hk.mono ?_
    rintro e w' ⟨rfl, hb⟩
    clear hk
    go_wp2_with fail
    go_ret
    exact ⟨ret_bool HY.out.symm, hb⟩
  · have k20 : ¬ kindV t = 20 := by simpa using hkk
    have HY := Lib.hid (show rb = _ from HRB.out.symm.trans (HF.trans ((if_neg k20).trans HE.out.1.symm)))
    clear t0 t6 t9 t14 HF hkk k20
    go_enter Try.func50, Try.ntmps50
    go_wp2_with fail
    refine hk.mono ?_
    rintro e w' ⟨rfl, hb⟩
    clear hk
    go_wp2_with fail
    go_ret
    exact ⟨ret_bool HY.out.symm, hb⟩
end Go.Proofs.Ytfpcneekbdcbcaa.ck
