/- Layer 16: the first part of which something holds; what a number would be (gen-gpb.py wrote this). -/
import Derived.Test.YthddacgdmngfhaaGpA
namespace Go.Proofs.Ythddacgdmngfhaa.gap
open Go.Sort (grow)
open Go.ChangeShapes Go.WideShapes Go.ChangeAt Go.RowKit kit
set_option maxRecDepth 100000

theorem own_row {w : World} {b0 C : Nat} {P : List (Nat × Nat)} {v : Value} (own : w.ownsRow b0 193 2 v P.length (cellsA C P)) : ∃ (h : Nat) (oa : Option Addr) (cap : Nat), v = .slice oa P.length cap ∧ P.length ≤ cap ∧ cap ≤ maxLen ∧ (0 < P.length → oa = some ⟨h, 0, none⟩ ∧ h < w.heap.size ∧ v.ownBlock = some h ∧ ∀ k p, P[k]? = some p → Cel w h (k * 2) (prt (ab C p.1) (ab C p.2))) := by
  rcases own.2 with ⟨rfl, h0⟩ | ⟨h, cap, cur, rfl, hb, hg, hn, hm, hs, ht⟩
  · have hP : P.length = 0 := by omega
    exact ⟨0, none, 0, by rw [hP], by omega, by unfold maxLen; omega, fun h => absurd h (by omega)⟩
  · refine ⟨h, _, cap, rfl, hn, hm, fun h0 => ⟨rfl, (Blk.lt (show Blk w h 193 cur from hg)), rfl, fun k p hp => ?_⟩⟩
    have K := Cel.of_owns own
    have hk := (List.getElem?_eq_some_iff.1 hp).1
    refine ⟨K.lt, fun j u hu => ?_⟩
    have hj : j < 2 := (Array.getElem?_eq_some_iff.1 hu).1
    have := cellsA_get (C := C) hp j hj
    rw [hu] at this
    have h2 := K.2 (k * 2 + j) u (by rw [List.getElem?_toArray]; exact this.symm)
    rw [Nat.zero_add] at h2
    exact h2
set_option maxHeartbeats 1000000 in
theorem idxL {b0 C : Nat} {P : List (Nat × Nat)} {v : Value} (y ob : Nat) (w : World) (own : w.ownsRow b0 193 2 v P.length (cellsA C P)) (hn : P.length ≤ 2000) (hP : Bd P) (hy : y < 536870912) (B : Blk w ob 28 #[.int .u32 (ab C y)]) :
    Calls Try.prog 150 #[v, .func (.func 98) #[] #[.pointer (some ⟨ob, 0, none⟩)]] w fun e w' => ∃ r : Int, e = .returned (.int .i64 r) ∧ Fst P (fun p => decide (p.1 ≤ y) && decide (y ≤ p.2)) r ∧ Below w.heap.size w w' := by
  obtain ⟨h, oa, cap, rfl, hc, hcm, hC⟩ := own_row own
  obtain ⟨n, hLn⟩ : ∃ n, P.length = n := ⟨_, rfl⟩
  unfold maxLen at hcm
  have HH := Lib.hid hC
  rw [hLn] at hn hc ⊢
  have HL := Lib.hid hLn
  have HP := Lib.hid hP
  clear hC own hLn hP
  go_enter Try.func150, Try.ntmps150
  go_wp2_with fail
  go_loopw [8] (fun s8 wr => ∃ k : Nat, k ≤ n ∧ s8 = .int .i64 k ∧ (∀ j p, j < k → P[j]? = some p → (fun p : Nat × Nat => decide (p.1 ≤ y) && decide (y ≤ p.2)) p = false) ∧ Below w.heap.size w wr) (fun s8 _ => n - (intOf s8).toNat)
  case atStart => exact ⟨0, by omega, rfl, fun j x h => absurd h (by omega), Below.refl _ _⟩
  case round =>
    obtain ⟨k, hk, rfl, hno, bel⟩ := hrel
    by_cases hlt : k < n
    · obtain ⟨ho, hh, _, hC⟩ := HH.out (by rw [HL.out]; omega)
      subst ho
      have hkL : k < P.length := by rw [HL.out]; exact hlt
      obtain ⟨x, hx⟩ : ∃ x, P[k]? = some x := ⟨_, List.getElem?_eq_getElem hkL⟩
      have hxb := HP.out x (List.mem_of_getElem? hx)
      have K : Cel wr h (k * 2) (prt (ab C x.1) (ab C x.2)) := (hC k x hx).below bel hh
      have B2 := B.below bel B.lt
      have hcl := clL x.1 x.2 y ob hxb.1 hxb.2 hy wr B2
      have HX := Lib.hid (And.intro hx hno)
      clear hx hno hC hkL
      obtain ⟨pb, hpb⟩ : ∃ pb : Bool, (decide (x.1 ≤ y) && decide (y ≤ x.2)) = pb := ⟨_, rfl⟩
      rw [hpb] at hcl
      go_wp2_with (refine wpList_load_at rfl 193 _ rfl h (k * 2) rfl (prt (ab C x.1) (ab C x.2)) _ K Try.underlying193 rfl (szP _ _) ?_)
      refine hcl.mono ?_
      rintro e w2 ⟨rfl, hb2⟩
      have bel2 := bel.trans (hb2.mono bel.size)
      have HPB := Lib.hid hpb
      clear hcl bel hb2 K B2 hpb
      cases pb with
      | true =>
        go_wp2_with fail
        go_ret
        refine ⟨_, rfl, .inr ⟨k, rfl, by rw [HL.out]; exact hlt, fun p hp => ?_, HX.out.2⟩, bel2⟩
        obtain rfl : p = x := Option.some.inj (hp.symm.trans HX.out.1)
        exact HPB.out
      | false =>
        go_wp2_with fail
        go_roundw
        case rel =>
          refine ⟨k + 1, by omega, by go_num, fun j z hj hz => ?_, bel2⟩
          by_cases hjk : j < k
          · exact HX.out.2 j z hjk hz
          · obtain rfl : j = k := by omega
            obtain rfl : z = x := Option.some.inj (hz.symm.trans HX.out.1)
            exact HPB.out
        case measure => simp [intOf]; omega
    · obtain rfl : k = n := by omega
      go_wp2_with fail
      go_ret
      refine ⟨-1, rfl, .inl ⟨rfl, fun p hp => ?_⟩, bel⟩
      obtain ⟨j, hj⟩ := List.mem_iff_getElem?.1 hp
      exact hno j p (by rw [← HL.out]; exact (List.getElem?_eq_some_iff.1 hj).1) hj
theorem findL {b0 C g : Nat} {P : List (Nat × Nat)} {v cv d : Value} (y ob : Nat) (w : World) (G : Blk w g 189 #[cv, v, d]) (own : w.ownsRow b0 193 2 v P.length (cellsA C P)) (hn : P.length ≤ 2000) (hP : Bd P) (hy : y < 536870912) (B : Blk w ob 28 #[.int .u32 (ab C y)]) :
    Calls Try.prog 97 #[.pointer (some ⟨g, 0, none⟩), .func (.func 98) #[] #[.pointer (some ⟨ob, 0, none⟩)]] w fun e w' => ∃ r : Int, e = .returned (.int .i64 r) ∧ Fst P (fun p => decide (p.1 ≤ y) && decide (y ≤ p.2)) r ∧ Below w.heap.size w w' := by
  have c1 : w.cell? ⟨g, 1, none⟩ = some v := G.cell 1
  have hi := idxL y ob w own hn hP hy B
  have HI := Lib.hid hi
  obtain ⟨h, oa, cap, rfl, _, _, _⟩ := own_row own
  clear hi own G B hP
  go_enter Try.func97, Try.ntmps97
  go_wp2_with fail
  refine HI.out.mono ?_
  rintro e w1 ⟨r, rfl, hr, hb⟩
  have HR := Lib.hid (And.intro hr hb)
  clear hr hb
  go_wp2_with fail
  go_ret
  exact ⟨r, rfl, HR.out.1, HR.out.2⟩
set_option maxHeartbeats 1000000 in
theorem idxJ {b0 C : Nat} {P : List (Nat × Nat)} {v : Value} (y ob : Nat) (w : World) (own : w.ownsRow b0 193 2 v P.length (cellsA C P)) (hn : P.length ≤ 2000) (hP : Bd P) (hy : y < 536870912) (B : Blk w ob 28 #[.int .u32 (ab C y)]) :
    Calls Try.prog 150 #[v, .func (.func 152) #[] #[.pointer (some ⟨ob, 0, none⟩)]] w fun e w' => ∃ r : Int, e = .returned (.int .i64 r) ∧ Fst P (fun p => decide (y < p.1)) r ∧ Below w.heap.size w w' := by
  obtain ⟨h, oa, cap, rfl, hc, hcm, hC⟩ := own_row own
  obtain ⟨n, hLn⟩ : ∃ n, P.length = n := ⟨_, rfl⟩
  unfold maxLen at hcm
  have HH := Lib.hid hC
  rw [hLn] at hn hc ⊢
  have HL := Lib.hid hLn
  have HP := Lib.hid hP
  clear hC own hLn hP
  go_enter Try.func150, Try.ntmps150
  go_wp2_with fail
  go_loopw [8] (fun s8 wr => ∃ k : Nat, k ≤ n ∧ s8 = .int .i64 k ∧ (∀ j p, j < k → P[j]? = some p → (fun p : Nat × Nat => decide (y < p.1)) p = false) ∧ Below w.heap.size w wr) (fun s8 _ => n - (intOf s8).toNat)
  case atStart => exact ⟨0, by omega, rfl, fun j x h => absurd h (by omega), Below.refl _ _⟩
  case round =>
    obtain ⟨k, hk, rfl, hno, bel⟩ := hrel
    by_cases hlt : k < n
    · obtain ⟨ho, hh, _, hC⟩ := HH.out (by rw [HL.out]; omega)
      subst ho
      have hkL : k < P.length := by rw [HL.out]; exact hlt
      obtain ⟨x, hx⟩ : ∃ x, P[k]? = some x := ⟨_, List.getElem?_eq_getElem hkL⟩
      have hxb := HP.out x (List.mem_of_getElem? hx)
      have K : Cel wr h (k * 2) (prt (ab C x.1) (ab C x.2)) := (hC k x hx).below bel hh
      have B2 := B.below bel B.lt
      have hcl := clJ x.1 x.2 y ob hxb.1 hy wr B2
      have HX := Lib.hid (And.intro hx hno)
      clear hx hno hC hkL
      obtain ⟨pb, hpb⟩ : ∃ pb : Bool, (decide (y < x.1)) = pb := ⟨_, rfl⟩
      rw [hpb] at hcl
      go_wp2_with (refine wpList_load_at rfl 193 _ rfl h (k * 2) rfl (prt (ab C x.1) (ab C x.2)) _ K Try.underlying193 rfl (szP _ _) ?_)
      refine hcl.mono ?_
      rintro e w2 ⟨rfl, hb2⟩
      have bel2 := bel.trans (hb2.mono bel.size)
      have HPB := Lib.hid hpb
      clear hcl bel hb2 K B2 hpb
      cases pb with
      | true =>
        go_wp2_with fail
        go_ret
        refine ⟨_, rfl, .inr ⟨k, rfl, by rw [HL.out]; exact hlt, fun p hp => ?_, HX.out.2⟩, bel2⟩
        obtain rfl : p = x := Option.some.inj (hp.symm.trans HX.out.1)
        exact HPB.out
      | false =>
        go_wp2_with fail
        go_roundw
        case rel =>
          refine ⟨k + 1, by omega, by go_num, fun j z hj hz => ?_, bel2⟩
          by_cases hjk : j < k
          · exact HX.out.2 j z hjk hz
          · obtain rfl : j = k := by omega
            obtain rfl : z = x := Option.some.inj (hz.symm.trans HX.out.1)
            exact HPB.out
        case measure => simp [intOf]; omega
    · obtain rfl : k = n := by omega
      go_wp2_with fail
      go_ret
      refine ⟨-1, rfl, .inl ⟨rfl, fun p hp => ?_⟩, bel⟩
      obtain ⟨j, hj⟩ := List.mem_iff_getElem?.1 hp
      exact hno j p (by rw [← HL.out]; exact (List.getElem?_eq_some_iff.1 hj).1) hj
theorem findJ {b0 C g : Nat} {P : List (Nat × Nat)} {v cv d : Value} (y ob : Nat) (w : World) (G : Blk w g 189 #[cv, v, d]) (own : w.ownsRow b0 193 2 v P.length (cellsA C P)) (hn : P.length ≤ 2000) (hP : Bd P) (hy : y < 536870912) (B : Blk w ob 28 #[.int .u32 (ab C y)]) :
    Calls Try.prog 97 #[.pointer (some ⟨g, 0, none⟩), .func (.func 152) #[] #[.pointer (some ⟨ob, 0, none⟩)]] w fun e w' => ∃ r : Int, e = .returned (.int .i64 r) ∧ Fst P (fun p => decide (y < p.1)) r ∧ Below w.heap.size w w' := by
  have c1 : w.cell? ⟨g, 1, none⟩ = some v := G.cell 1
  have hi := idxJ y ob w own hn hP hy B
  have HI := Lib.hid hi
  obtain ⟨h, oa, cap, rfl, _, _, _⟩ := own_row own
  clear hi own G B hP
  go_enter Try.func97, Try.ntmps97
  go_wp2_with fail
  refine HI.out.mono ?_
  rintro e w1 ⟨r, rfl, hr, hb⟩
  have HR := Lib.hid (And.intro hr hb)
  clear hr hb
  go_wp2_with fail
  go_ret
  exact ⟨r, rfl, HR.out.1, HR.out.2⟩
end Go.Proofs.Ythddacgdmngfhaa.gap
