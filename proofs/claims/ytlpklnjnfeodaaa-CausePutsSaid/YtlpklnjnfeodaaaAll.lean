/- Layer 4: parameters one behind the other are read again. -/
import Derived.Test.YtlpklnjnfeodaaaTakeP
import Derived.LoopTactic
import Derived.OwnWalk
import Derived.Laws.AppendOwn
namespace Go.Proofs.Ytlpklnjnfeodaaa.par
open Go.ChangeShapes Go.WideShapes Go.ChangeAt Go.RowKit kit oct
set_option maxRecDepth 100000

theorem putP_size {t : Int} {v : ByteArray} (h : mayP t v = true) : ((putP t v).size : Int) = 4 + v.size + -((v.size : Int) + 4) % 4 := by
  unfold putP
  rw [if_pos h]
  unfold filled
  rw [ByteArray.size_append, zeros_size]
  have e : (p2 t ++ p2 ((v.size : Int) + 4) ++ v).size = v.size + 4 := by simp [p2_size]; omega
  rw [e]
  omega
theorem may_of {t : Int} {v : ByteArray} (h : mayP t v = true) : 0 ≤ t ∧ t ≤ 65535 ∧ v.size ≤ 1000 := by unfold mayP at h; simpa using h

/-- The bytes of a parameter, and whatever behind them: it is taken again. -/
theorem put_take {t : Int} {v R : ByteArray} (h : mayP t v = true) : pe6 (putP t v ++ R) 0 = 0 ∧ pT (putP t v ++ R) 0 = .agg #[.int .i64 t, .string v] ∧ pl6 (putP t v ++ R) 0 = R := by
  obtain ⟨t0, t1, v1⟩ := may_of h
  obtain ⟨n, rfl⟩ : ∃ n : Nat, t = n := ⟨t.toNat, by omega⟩
  obtain ⟨p, hp⟩ : ∃ p : Nat, (p : Int) = -((v.size + 4 : Nat) : Int) % 4 := ⟨(-((v.size + 4 : Nat) : Int) % 4).toNat, by omega⟩
  have s2 : ∀ x : Int, (p2 x).size = 2 := p2_size
  have e0 : putP n v ++ R = p2 n ++ (p2 ((v.size + 4 : Nat) : Int) ++ (v ++ (zeros p ++ R))) := by
    unfold putP
    rw [if_pos h]
    unfold filled
    have e : (p2 (n : Int) ++ p2 ((v.size : Int) + 4) ++ v).size = v.size + 4 := by simp [p2_size]; omega
    rw [e, ← hp]
    simp only [ByteArray.append_assoc]
    rfl
  rw [e0]
  have zs : (zeros p).size = p := zeros_size p
  obtain ⟨L, hL⟩ : ∃ L, L = p2 (n : Int) ++ (p2 ((v.size + 4 : Nat) : Int) ++ (v ++ (zeros p ++ R))) := ⟨_, rfl⟩
  have hsz : L.size = 4 + v.size + p + R.size := by rw [hL]; simp only [ByteArray.size_append, s2, zs]; omega
  have x1 : L.extract 0 2 = p2 n := by rw [hL]; exact ext_left _ _ 2 (s2 _)
  have key : ∀ (S : ByteArray) (a b c : Nat), S.extract (a + b) (a + c) = (S.extract a S.size).extract b c ∨ S.size < a + c := fun S a b c => by
    by_cases q : a + c ≤ S.size
    · left; rw [ext_ext S a S.size b c rfl q]
    · right; omega
  have t2 : L.extract 2 L.size = p2 ((v.size + 4 : Nat) : Int) ++ (v ++ (zeros p ++ R)) := by
    rw [hL]; exact ext_right _ _ 2 _ (s2 _) rfl
  have x2 : L.extract 2 4 = p2 ((v.size + 4 : Nat) : Int) := by
    have := ext_ext L 2 L.size 0 2 rfl (by omega)
    rw [t2] at this
    rw [← this]; exact ext_left _ _ 2 (s2 _)
  have t4 : L.extract 4 L.size = v ++ (zeros p ++ R) := by
    have := ext_ext L 2 L.size 2 (L.size - 2) rfl (by omega)
    rw [t2, show 2 + (L.size - 2) = L.size by omega] at this
    rw [← this]
    exact ext_right _ _ 2 _ (s2 _) (by simp only [ByteArray.size_append, s2, zs]; omega)
  have x3 : L.extract 4 (v.size + 4) = v := by
    have := ext_ext L 4 L.size 0 v.size rfl (by omega)
    rw [t4, show 4 + v.size = v.size + 4 by omega] at this
    rw [← this]; exact ext_left _ _ _ rfl
  have tv : L.extract (v.size + 4) L.size = zeros p ++ R := by
    have := ext_ext L 4 L.size v.size (L.size - 4) rfl (by omega)
    rw [t4, show 4 + v.size = v.size + 4 by omega, show 4 + (L.size - 4) = L.size by omega] at this
    rw [← this]
    exact ext_right _ _ _ _ rfl (by simp only [ByteArray.size_append, zs]; omega)
  have x4 : L.extract (v.size + 4) (v.size + 4 + p) = zeros p := by
    have := ext_ext L (v.size + 4) L.size 0 p rfl (by omega)
    rw [tv] at this
    rw [← this]; exact ext_left _ _ _ zs
  have x5 : L.extract (v.size + 4 + p) L.size = R := by
    have := ext_ext L (v.size + 4) L.size p (L.size - (v.size + 4)) rfl (by omega)
    rw [tv, show v.size + 4 + (L.size - (v.size + 4)) = L.size by omega] at this
    rw [← this]
    exact ext_right _ _ _ _ zs (by simp only [ByteArray.size_append, zs]; omega)
  rw [← hL]
  have H : IsP L (v.size + 4) p := ⟨by omega, by rw [x2]; exact numV_p2 (v.size + 4) (by omega), by omega, by omega, hp, by omega, x4⟩
  obtain ⟨g1, g2, g3⟩ := take_good H
  obtain ⟨_, _, _, _, _, q6⟩ := head_of H.four
  have hT : tN L = n := by rw [q6, x1, numV_p2 n (by omega)]
  refine ⟨g1, ?_, ?_⟩
  · unfold pT; rw [if_pos g1, hT, g2, x3]
  · rw [g3, x5]

def cat : List (Int × ByteArray) → ByteArray
  | [] => ByteArray.empty
  | p :: r => putP p.1 p.2 ++ cat r
def cellsP : List (Int × ByteArray) → List Value
  | [] => []
  | p :: r => .int .i64 p.1 :: .string p.2 :: cellsP r
theorem cellsP_snoc (l : List (Int × ByteArray)) (p : Int × ByteArray) : cellsP (l ++ [p]) = cellsP l ++ [.int .i64 p.1, .string p.2] := by
  induction l with
  | nil => rfl
  | cons q r ih => simp [cellsP, ih]
theorem cellsP_length (l : List (Int × ByteArray)) : (cellsP l).length = l.length * 2 := by
  induction l with
  | nil => rfl
  | cons q r ih => simp [cellsP, ih]; omega
theorem cat_size (l : List (Int × ByteArray)) (h : ∀ p, p ∈ l → mayP p.1 p.2 = true) : (cat l).size ≤ l.length * 1008 := by
  induction l with
  | nil => simp [cat]
  | cons p r ih =>
    have h1 := putP_size (h p (by simp))
    have h2 := may_of (h p (by simp))
    have h3 := ih (fun q hq => h q (by simp [hq]))
    simp only [cat, ByteArray.size_append, List.length_cons]
    omega
theorem cat_pos (p : Int × ByteArray) (r : List (Int × ByteArray)) (h : mayP p.1 p.2 = true) : 0 < (cat (p :: r)).size := by
  have h1 := putP_size h
  simp only [cat, ByteArray.size_append]
  omega

theorem touch_grown {g : Nat} {w w' : World} (h : oct.Touch g w w') : w.grownBy w' (some g) := ⟨h.os, h.tape, h.output, h.size, fun k hk hne => h.block k hk (fun e => hne (by rw [e]))⟩
theorem info23 : (Try.prog.info? 23).map (fun i => (i.zero, i.size, i.bytes)) = some (some (.agg #[.int .i64 0, .string ByteArray.empty]), 2, 24) := by kernel_rfl

/-- What All comes to. -/
def AllPost (w : World) (ps : List (Int × ByteArray)) (e : Ending) (w' : World) : Prop :=
  ∃ v, e = .returned (.tuple #[v, .int .i64 0]) ∧ w'.ownsRow (w.heap.size + 1) 23 2 v ps.length (cellsP ps) ∧ Below w.heap.size w w'

set_option maxHeartbeats 2000000 in
theorem all_list (ps : List (Int × ByteArray)) (w : World) (hk : ps.length ≤ 16) (hm : ∀ p, p ∈ ps → mayP p.1 p.2 = true) :
    Calls Try.prog 13 #[.string (cat ps)] w (AllPost w ps) := by
  obtain ⟨i0, hi, hz0, hz1, hz2⟩ := info_parts info23
  have hfin : ∀ v w', w'.ownsRow (w.heap.size + 1) 23 2 v ps.length (cellsP ps) → Below w.heap.size w w' → AllPost w ps (.returned (.tuple #[v, .int .i64 0])) w' := fun v w' h1 h2 => ⟨v, rfl, h1, h2⟩
  have HM := Lib.hid hm
  have HF := Lib.hid hfin
  clear hm hfin
  obtain ⟨S, hS⟩ : ∃ S, S = cat ps := ⟨_, rfl⟩
  rw [← hS]
  have HS := Lib.hid hS
  clear hS
  go_enter Try.func13, Try.ntmps13
  go_wp2_with (go_at_call 51; refine (new_any _ _).mono ?_; rintro e w1 ⟨rfl, rfl⟩)
  have R0 : RD (w.alloc (.cells #[.string S, .int .i64 0] 112)) w.heap.size S 0 := RD.fresh w S 0
  have bel0 : Below w.heap.size w (w.alloc (.cells #[.string S, .int .i64 0] 112)) := (Below.refl w.heap.size w).alloc (Nat.le_refl _) _
  have hs0 : w.heap.size + 1 ≤ (w.alloc (.cells #[.string S, .int .i64 0] 112)).heap.size := by simp
  generalize w.alloc (.cells #[.string S, .int .i64 0] 112) = w0 at *
  go_loopw [4, 5] (fun sl sm wr => ∃ (ds qs : List (Int × ByteArray)) (v : Value), ps = ds ++ qs ∧ sm = .int .i64 (ds.length : Nat) ∧ v = sl ∧ wr.ownsRow (w.heap.size + 1) 23 2 v ds.length (cellsP ds) ∧ RD wr w.heap.size (cat qs) 0 ∧ Below w.heap.size w wr ∧ w.heap.size + 1 ≤ wr.heap.size) (fun _ sm _ => ps.length - (intOf sm).toNat)
  case atStart => exact ⟨[], ps, _, rfl, rfl, rfl, World.ownsRow_nil _ _ _ _, by rw [← HS.out]; exact R0, bel0, hs0⟩
  case round =>
    clear R0 bel0 hs0
    obtain ⟨ds, qs, v, hps, rfl, rfl, hown, R, bel, hsz⟩ := hrel
    have HP := Lib.hid hps
    have hlen : ds.length + qs.length = ps.length := by rw [hps]; simp
    clear hps
    cases qs with
    | nil =>
      have hd : ds.length = ps.length := by simpa using hlen
      have hd16 : ds.length ≤ 16 := by omega
      have hq := HP.out
      simp only [List.append_nil] at hq
      have HO := Lib.hid hown
      have HQ := Lib.hid hq
      have e1 : cat [] = ByteArray.empty := rfl
      rw [e1] at R
      clear e1 hq hown hlen hd HP
      go_wp2_with (go_at_call 52; refine (left_any _ _ _ _ R).mono ?_; rintro x w5 ⟨rfl, rfl⟩)
      go_ret2
      refine HF.out _ _ ?_ bel
      rw [HQ.out]
      exact HO.out
    | cons p qs =>
      have hp : mayP p.1 p.2 = true := HM.out p (by rw [HP.out]; simp)
      have hq : ∀ q, q ∈ p :: qs → mayP q.1 q.2 = true := fun q hq => HM.out q (by rw [HP.out]; simp [hq])
      have hc := cat_size (p :: qs) hq
      have hpos := cat_pos p qs hp
      have hd16 : ds.length < 16 := by simp at hlen; omega
      obtain ⟨z1, z2, z3⟩ := put_take (R := cat qs) hp
      have hmx : (cat (p :: qs)).size ≤ maxLen := by unfold maxLen; simp at hlen hc; omega
      have hT := fun (W : World) (h : RD W w.heap.size (cat (p :: qs)) 0) => par.take_any w.heap.size (cat (p :: qs)) 0 W h hmx
      have ec : cat (p :: qs) = putP p.1 p.2 ++ cat qs := rfl
      rw [ec, z1, z2, z3] at hT
      rw [← ec] at hT
      have HL := Lib.hid hlen
      have HO := Lib.hid hown
      clear z1 z2 z3 ec hp hq hc hlen hown hmx
      generalize cat (p :: qs) = L at *
      go_upto_region 6 with (go_at_call 52; refine (left_any _ _ _ _ R).mono ?_; rintro x w5 ⟨rfl, rfl⟩)
      go_wp2_with fail
      refine (hT _ R).mono ?_
      rintro x w6 ⟨rfl, R6, t6⟩
      have bel6 := t6.below bel (Nat.le_refl _) bel.size
      have hsz6 : w.heap.size + 1 ≤ w6.heap.size := Nat.le_trans hsz t6.size
      have own6 := HO.out.kept (touch_grown t6) (by
        cases hv : v.ownBlock with
        | none => exact .inl rfl
        | some k => right; intro q; have := (HO.out.lt k hv).1; simp at q; omega)
      have R7 := Blk.alloc R6 (.cells #[.int .i64 p.1, .string p.2] 23)
      have own7 := own6.alloc (.cells #[.int .i64 p.1, .string p.2] 23)
      have N7 := Blk.new w6 23 #[.int .i64 p.1, .string p.2]
      have bel7 := bel6.alloc bel6.size (.cells #[.int .i64 p.1, .string p.2] 23)
      have hsz7 : w.heap.size + 1 ≤ (w6.alloc (.cells #[.int .i64 p.1, .string p.2] 23)).heap.size := by simp; omega
      clear own6 R6 t6 hT R bel6 hsz
      have HN7 := Lib.hid own7
      clear own7
      go_upto_region 10 with (go_at_call 54; refine (err_any _ _ _ _ R7).mono ?_; rintro x w8 ⟨rfl, rfl⟩)
      generalize w6.alloc (.cells #[.int .i64 p.1, .string p.2] 23) = w7 at *
      have C7 := fun i => N7.cell i
      have hneA : some w.heap.size ≠ v.ownBlock := fun q => by have := (HN7.out.lt _ q.symm).1; omega
      have HNE := Lib.hid hneA
      have h63 : ds.length + 1 ≤ maxLen := by unfold maxLen; omega
      clear hneA
      go_wp2_with (at_builtin; refine wpList_append_own _ rfl _ _ 25 rfl (w.heap.size + 1) 23 i0 (.agg #[.int .i64 0, .string ByteArray.empty]) 2 24 Try.underlying25 hi hz0 hz1 hz2 rfl (by decide) v ds.length (cellsP ds) rfl (HN7.out.alloc _) ⟨w7.heap.size, 0, none⟩ 1 1 [.int .i64 p.1, .string p.2] rfl rfl (cell_two_new _ _ _ _) (by intro u hu; simp at hu; rcases hu with rfl | rfl <;> rfl) h63 (by omega) (by simp; omega) ?_; intro v' w8 hown8 hgrow hnil)
      have bel8 := (bel7.alloc bel7.size (.cells #[.int .i64 p.1, .string p.2] 23)).grown hgrow (by simp; have := bel7.size; omega) (fun k hk => by have := (HN7.out.lt k hk).1; omega)
      have hsz8 : w.heap.size + 1 ≤ w8.heap.size := by have := hgrow.size; simp at this; omega
      have R8 : RD w8 w.heap.size (cat qs) 0 := (hgrow.block w.heap.size (by simp; omega) HNE.out).trans (Blk.alloc R7 _)
      have hlen9 : (ds ++ [p]).length = ds.length + 1 := by simp
      have own9 : w8.ownsRow (w.heap.size + 1) 23 2 v' (ds ++ [p]).length (cellsP (ds ++ [p])) := by rw [hlen9, cellsP_snoc]; exact hown8
      have hps9 : ps = (ds ++ [p]) ++ qs := by rw [HP.out]; simp
      have HO9 := Lib.hid own9
      have HP9 := Lib.hid hps9
      have HL9 := Lib.hid hlen9
      clear own9 hps9 hlen9 hown8 hgrow hnil
      go_wp2_with fail
      go_roundw
      case rel => exact ⟨ds ++ [p], qs, v', HP9.out, by rw [HL9.out]; go_num, rfl, HO9.out, R8, bel8, hsz8⟩
      case measure => have := HL.out; simp at this; simp [intOf]; omega
end Go.Proofs.Ytlpklnjnfeodaaa.par
