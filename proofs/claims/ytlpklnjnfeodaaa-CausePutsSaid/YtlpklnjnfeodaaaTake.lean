/- Layer 4: a parameter is taken from whatever is left. -/
import Derived.Test.YtlpklnjnfeodaaaTagL
namespace Go.Proofs.Ytlpklnjnfeodaaa.par
open Go.ChangeShapes Go.WideShapes Go.ChangeAt Go.RowKit kit oct
set_option maxRecDepth 100000

/-- What is read as a parameter of (l, e): step by step. -/
def tN (l : ByteArray) : Int := (rdN l 2 : Nat)
def tl1 (l : ByteArray) (e : Int) : ByteArray := rdL l e 2
def te1 (l : ByteArray) (e : Int) : Int := rdE l e 2
def tZ (l : ByteArray) (e : Int) : Int := (rdN (tl1 l e) 2 : Nat)
def tl2 (l : ByteArray) (e : Int) : ByteArray := rdL (tl1 l e) (te1 l e) 2
def te2 (l : ByteArray) (e : Int) : Int := rdE (tl1 l e) (te1 l e) 2
/-- behind the test of the size -/
def fL (b : Bool) (l : ByteArray) (e x : Int) : ByteArray := if b = true then failL l e x else l
def fE (b : Bool) (e x : Int) : Int := if b = true then failE e x else e
def zB (z : Int) : Bool := decide (z < 4 ∨ 1004 < z)
def kL (l : ByteArray) (e n : Int) : ByteArray := if 0 ≤ n ∧ n ≤ l.size then l.extract n.toNat l.size else failL l e 2
def kE (l : ByteArray) (e n : Int) : Int := if 0 ≤ n ∧ n ≤ l.size then e else failE e 2
def kV (l : ByteArray) (n : Int) : ByteArray := if 0 ≤ n ∧ n ≤ l.size then l.extract 0 n.toNat else ByteArray.empty

theorem size_fail (l : ByteArray) (e x : Int) : (failL l e x).size ≤ l.size := by unfold failL; split <;> simp
theorem size_rd (l : ByteArray) (e : Int) (k : Nat) : (rdL l e k).size ≤ l.size := by
  unfold rdL; split
  · simp
  · exact size_fail _ _ _
theorem size_f (b : Bool) (l : ByteArray) (e x : Int) : (fL b l e x).size ≤ l.size := by
  unfold fL; split
  · exact size_fail _ _ _
  · exact Nat.le_refl _
theorem size_k (l : ByteArray) (e n : Int) : (kL l e n).size ≤ l.size := by
  unfold kL; split
  · simp
  · exact size_fail _ _ _

theorem failB (b : Bool) (g : Nat) (l : ByteArray) (e x : Int) (w : World) (h : RD w g l e) : b = true →
    Calls Try.prog 72 #[.pointer (some ⟨g, 0, none⟩), .int .i64 x] w fun y w' => y = .returned (.tuple #[]) ∧ RD w' g (fL b l e x) (fE b e x) ∧ oct.Touch g w w' := by
  rintro rfl
  exact fail_any g l e x w h

/-- The size, the value, what is left, the error. -/
def pl3 (l : ByteArray) (e : Int) : ByteArray := fL (zB (tZ l e)) (tl2 l e) (te2 l e) 3
def pe3 (l : ByteArray) (e : Int) : Int := fE (zB (tZ l e)) (te2 l e) 3
def pl4 (l : ByteArray) (e : Int) : ByteArray := kL (pl3 l e) (pe3 l e) (tZ l e - 4)
def pe4 (l : ByteArray) (e : Int) : Int := kE (pl3 l e) (pe3 l e) (tZ l e - 4)
def pV (l : ByteArray) (e : Int) : ByteArray := kV (pl3 l e) (tZ l e - 4)
def pB (l : ByteArray) (e : Int) : Bool := decide (((pl4 l e).size : Int) < -(tZ l e) % 4)
def pl5 (l : ByteArray) (e : Int) : ByteArray := fL (pB l e) (pl4 l e) (pe4 l e) 2
def pe5 (l : ByteArray) (e : Int) : Int := fE (pB l e) (pe4 l e) 2
def pl6 (l : ByteArray) (e : Int) : ByteArray := fillL (pl5 l e) (pe5 l e) (tZ l e)
def pe6 (l : ByteArray) (e : Int) : Int := fillE (pl5 l e) (pe5 l e) (tZ l e)
def pT (l : ByteArray) (e : Int) : Value := if pe6 l e = 0 then .agg #[.int .i64 (tN l), .string (pV l e)] else .agg #[.int .i64 0, .string ByteArray.empty]

theorem takeT {g : Nat} {w w' : World} (hg : g < w.heap.size) (h : oct.Touch g w w') (u v : Value) : oct.Touch g w ((w'.setCell ⟨w.heap.size, 0, none⟩ u).setCell ⟨w.heap.size, 1, none⟩ v) :=
  ⟨h.os, h.tape, h.output, by simpa [World.setCell] using h.size, fun k hk hne => (Below.heap_setCell _ _ _ _ (by simp; omega)).trans ((Below.heap_setCell _ _ _ _ (by simp; omega)).trans (h.block k hk hne))⟩

set_option maxHeartbeats 2000000 in
theorem take_core (g : Nat) (l : ByteArray) (e : Int) (l1 l2 l3 l4 l5 l6 V : ByteArray) (e1 e2 e3 e4 e5 e6 n z : Int) (b b' : Bool) (P : Value) (w : World) (h : RD w g l e)
    (hl : l.size ≤ maxLen) (h1 : l1.size ≤ maxLen) (h2 : l2.size ≤ maxLen) (h3 : l3.size ≤ maxLen) (h4 : l4.size ≤ maxLen) (h5 : l5.size ≤ maxLen) (z0 : 0 ≤ z) (z1 : z ≤ 65535)
    (c1 : ∀ w, RD w g l e → Calls Try.prog 63 #[.pointer (some ⟨g, 0, none⟩)] w fun x w' => x = .returned (.int .i64 n) ∧ RD w' g l1 e1 ∧ oct.Touch g w w')
    (c2 : ∀ w, RD w g l1 e1 → Calls Try.prog 63 #[.pointer (some ⟨g, 0, none⟩)] w fun x w' => x = .returned (.int .i64 z) ∧ RD w' g l2 e2 ∧ oct.Touch g w w')
    (hb : b = zB z) (c3 : ∀ w, RD w g l2 e2 → b = true → Calls Try.prog 72 #[.pointer (some ⟨g, 0, none⟩), .int .i64 3] w fun y w' => y = .returned (.tuple #[]) ∧ RD w' g l3 e3 ∧ oct.Touch g w w')
    (c3' : b = false → l2 = l3 ∧ e2 = e3)
    (c4 : ∀ w, RD w g l3 e3 → Calls Try.prog 73 #[.pointer (some ⟨g, 0, none⟩), .int .i64 (z - 4)] w fun y w' => y = .returned (.string V) ∧ RD w' g l4 e4 ∧ oct.Touch g w w')
    (hb' : b' = decide ((l4.size : Int) < -z % 4)) (c5 : ∀ w, RD w g l4 e4 → b' = true → Calls Try.prog 72 #[.pointer (some ⟨g, 0, none⟩), .int .i64 2] w fun y w' => y = .returned (.tuple #[]) ∧ RD w' g l5 e5 ∧ oct.Touch g w w')
    (c5' : b' = false → l4 = l5 ∧ e4 = e5)
    (c6 : ∀ w, RD w g l5 e5 → Calls Try.prog 74 #[.pointer (some ⟨g, 0, none⟩), .int .i64 z] w fun y w' => y = .returned (.tuple #[]) ∧ RD w' g l6 e6 ∧ oct.Touch g w w')
    (hP : P = if e6 = 0 then .agg #[.int .i64 n, .string V] else .agg #[.int .i64 0, .string ByteArray.empty]) :
    Calls Try.prog 53 #[.pointer (some ⟨g, 0, none⟩)] w fun x w' => x = .returned P ∧ RD w' g l6 e6 ∧ oct.Touch g w w' := by
  have hp := fun w => pad_any z w z0 (by omega)
  have hp1 : -z % 4 ≤ 3 := by omega
  have hp0 : 0 ≤ -z % 4 := by omega
  have P1 : e6 = 0 → P = .agg #[.int .i64 n, .string V] := fun q => by rw [hP, if_pos q]
  have P0 : e6 ≠ 0 → P = .agg #[.int .i64 0, .string ByteArray.empty] := fun q => by rw [hP, if_neg q]
  have HP1 := Lib.hid P1
  have HP0 := Lib.hid P0
  have HC3 := Lib.hid c3'
  have HC5 := Lib.hid c5'
  have HB := Lib.hid hb
  have HB' := Lib.hid hb'
  have hg := Blk.lt h
  clear hP P1 P0 c3' c5' hb hb'
  go_enter Try.func53, Try.ntmps53
  go_wp2_with fail
  have R0 : RD (w.alloc (.cells #[.int .i64 0, .string ByteArray.empty] 23)) g l e := Blk.alloc h _
  refine (c1 _ R0).mono ?_
  rintro x w1 ⟨rfl, R1, t1⟩
  go_wp2_with fail
  refine (c2 _ R1).mono ?_
  rintro x w2 ⟨rfl, R2, t2⟩
  have B2 := t2.blk (t1.blk (Blk.new w 23 #[.int .i64 0, .string ByteArray.empty]) (by omega)) (by omega)
  have T0 : oct.Touch g w (w.alloc (.cells #[.int .i64 0, .string ByteArray.empty] 23)) := oct.Touch.of_below ((Below.refl _ _).alloc (Nat.le_refl _) _)
  have T2 : oct.Touch g w w2 := (T0.trans t1).trans t2
  clear t1 t2 R0 R1 T0 h c1 c2
  go_upto_region 2 with fail
  go_cut [15] (fun s15 wx => s15 = .bool b ∧ wx = w2)
  case first =>
    cases b with
    | true =>
      have hz : z < 4 ∨ 1004 < z := by have := HB.out; unfold zB at this; simpa using this.symm
      rcases hz with hz | hz
      · go_wp2_with fail
        go_meet
        exact ⟨rfl, rfl⟩
      · go_wp2_with fail
        go_meet
        exact ⟨rfl, rfl⟩
    | false =>
      have hz : 4 ≤ z ∧ z ≤ 1004 := by
        have := HB.out; unfold zB at this
        have h2 : ¬ (z < 4 ∨ 1004 < z) := by simpa using this.symm
        omega
      obtain ⟨hz1, hz2⟩ := hz
      go_wp2_with fail
      go_meet
      exact ⟨congrArg Value.bool (by simp; omega), rfl⟩
  case rest =>
  obtain ⟨rfl, rfl⟩ := hcut
  go_upto_if 15 with fail
  go_cut [] (fun wx => RD wx g l3 e3 ∧ Blk wx w.heap.size 23 #[.int .i64 0, .string ByteArray.empty] ∧ oct.Touch g w wx)
  case first =>
    cases b with
    | true =>
      go_wp2_with fail
      refine (c3 _ R2 (by trivial)).mono ?_
      rintro x w3 ⟨rfl, R3, t3⟩
      go_wp2_with fail
      go_meet
      exact ⟨R3, t3.blk B2 (by omega), T2.trans t3⟩
    | false =>
      obtain ⟨rfl, rfl⟩ := HC3.out rfl
      go_wp2_with fail
      go_meet
      exact ⟨R2, B2, T2⟩
  case rest =>
  obtain ⟨R3, B3, T3⟩ := hcut
  clear R2 B2 T2
  have hzw : IntKind.i64.wrap (z - 4) = z - 4 := IntWalk.i64_in _ (by omega)
  go_wp2_with fail
  refine (c4 _ R3).mono ?_
  rintro x w4 ⟨rfl, R4, t4⟩
  have B4 := t4.blk B3 (by omega)
  have T4 := T3.trans t4
  clear R3 B3 T3 t4 hzw
  go_upto_if 26 with (first | (go_at_call 52; refine (left_any g l4 e4 _ R4).mono ?_; rintro x w5 ⟨rfl, rfl⟩) | (go_at_call 71; refine (hp _).mono ?_; rintro x w5 ⟨rfl, rfl⟩))
  go_cut [] (fun wx => RD wx g l5 e5 ∧ Blk wx w.heap.size 23 #[.int .i64 0, .string ByteArray.empty] ∧ oct.Touch g w wx)
  case first =>
    cases b' with
    | true =>
      have hz : (l4.size : Int) < -z % 4 := by have := HB'.out; simpa using this.symm
      go_wp2_with fail
      refine (c5 _ R4 (by trivial)).mono ?_
      rintro x w5 ⟨rfl, R5, t5⟩
      go_wp2_with fail
      go_meet
      exact ⟨R5, t5.blk B4 (by omega), T4.trans t5⟩
    | false =>
      have hz : -z % 4 ≤ (l4.size : Int) := by have := HB'.out; have h2 : ¬ (l4.size : Int) < -z % 4 := by simpa using this.symm
                                               omega
      obtain ⟨rfl, rfl⟩ := HC5.out rfl
      go_wp2_with fail
      go_meet
      exact ⟨R4, B4, T4⟩
  case rest =>
  obtain ⟨R5, B5, T5⟩ := hcut
  clear R4 B4 T4
  go_wp2_with fail
  refine (c6 _ R5).mono ?_
  rintro x w6 ⟨rfl, R6, t6⟩
  have B6 := t6.blk B5 (by omega)
  have T6 := T5.trans t6
  have C6 := fun i => B6.cell i
  have F6 := fun i => B6.frozen i
  have hz6 := B6.lt
  clear R5 B5 T5 t6
  by_cases he : e6 = 0
  · have HV := Lib.hid (HP1.out he)
    subst he
    go_wp2_with (go_at_call 54; refine (err_any g l6 0 _ R6).mono ?_; rintro x w7 ⟨rfl, rfl⟩)
    exact bodyPost_ret (v := .agg #[.int .i64 n, .string V]) (by simp [results, Try.results53, go_sem, C6, F6, hz6] <;> rfl) rfl ⟨congrArg Ending.returned HV.out.symm, Blk.far (Blk.far R6 (by simp; omega) _) (by simp; omega) _, takeT hg T6 _ _⟩
  · have HV := Lib.hid (HP0.out he)
    have hx : (e6 != 0) = true := by simpa using he
    clear he
    go_wp2_with (go_at_call 54; refine (err_any g l6 e6 _ R6).mono ?_; rintro x w7 ⟨rfl, rfl⟩)
    exact bodyPost_ret (v := .agg #[.int .i64 0, .string ByteArray.empty]) (by simp [results, Try.results53, go_sem, C6, F6, hz6] <;> rfl) rfl ⟨congrArg Ending.returned HV.out.symm, Blk.far (Blk.far R6 (by simp; omega) _) (by simp; omega) _, takeT hg T6 _ _⟩

theorem take_any (g : Nat) (l : ByteArray) (e : Int) (w : World) (h : RD w g l e) (hl : l.size ≤ maxLen) :
    Calls Try.prog 53 #[.pointer (some ⟨g, 0, none⟩)] w fun x w' => x = .returned (pT l e) ∧ RD w' g (pl6 l e) (pe6 l e) ∧ oct.Touch g w w' := by
  have s1 := size_rd l e 2
  have s2 := size_rd (tl1 l e) (te1 l e) 2
  have s3 := size_f (zB (tZ l e)) (tl2 l e) (te2 l e) 3
  have s4 := size_k (pl3 l e) (pe3 l e) (tZ l e - 4)
  have s5 := size_f (pB l e) (pl4 l e) (pe4 l e) 2
  have a1 : (tl1 l e).size ≤ maxLen := Nat.le_trans s1 hl
  have a2 : (tl2 l e).size ≤ maxLen := Nat.le_trans s2 a1
  have a3 : (pl3 l e).size ≤ maxLen := Nat.le_trans s3 a2
  have a4 : (pl4 l e).size ≤ maxLen := Nat.le_trans s4 a3
  have a5 : (pl5 l e).size ≤ maxLen := Nat.le_trans s5 a4
  have b2 := rdN_lt (tl1 l e) 2 (by omega)
  have z0 : 0 ≤ tZ l e := by unfold tZ; omega
  have z1 : tZ l e ≤ 65535 := by unfold tZ; omega
  refine take_core g l e (tl1 l e) (tl2 l e) (pl3 l e) (pl4 l e) (pl5 l e) (pl6 l e) (pV l e) (te1 l e) (te2 l e) (pe3 l e) (pe4 l e) (pe5 l e) (pe6 l e) (tN l) (tZ l e) (zB (tZ l e)) (pB l e) (pT l e) w h hl a1 a2 a3 a4 a5 z0 z1
    (fun w h => r16_any g l e w h hl) (fun w h => r16_any g (tl1 l e) (te1 l e) w h a1) rfl (fun w h hb => failB _ g _ _ 3 w h hb) (fun hb => ?_) (fun w h => oct.take_any g _ _ _ w h a3) rfl (fun w h hb => failB _ g _ _ 2 w h hb) (fun hb => ?_) (fun w h => fill_any g _ _ _ w h a5 z0 (by omega)) rfl
  · unfold pl3 pe3 fL fE; rw [hb]; exact ⟨rfl, rfl⟩
  · unfold pl5 pe5 fL fE; rw [hb]; exact ⟨rfl, rfl⟩
end Go.Proofs.Ytlpklnjnfeodaaa.par
