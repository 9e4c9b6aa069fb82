/- Layer 24: parameters looked at, and told of, by the program. -/
import Derived.Test.YtdjdgccomefoaaaStrD
namespace Go.Proofs.Ytdjdgccomefoaaa.str
open Go.Sort (grow)
open Go.ChangeShapes Go.WideShapes Go.ChangeAt Go.RowKit kit oct par small
set_option maxRecDepth 100000

theorem row_snoc {w : World} {b0 n : Nat} {v : Value} {L : List Pm} {p : Pm} (hn : L.length = n) (h : w.ownsRow b0 94 2 v (n + 1) (cellsQ L ++ (prm p).toList)) : Row w b0 v (L ++ [p]) := by
  show w.ownsRow b0 94 2 v (L ++ [p]).length (cellsQ (L ++ [p]))
  rw [cellsQ_snoc, List.length_append, hn]
  exact h
theorem sp_step_known {L : List Pm} {k : Nat} (h : k < L.length) (hk : kn (L.getD k q0).1 = true) : sp (L.drop k) = (L.getD k q0 :: (sp (L.drop (k + 1))).1, (sp (L.drop (k + 1))).2) := by
  rw [drop_at L k h]
  show (if kn (L.getD k q0).1 = true then _ else _) = _
  rw [if_pos hk]
theorem sp_step_stop {L : List Pm} {k : Nat} (h : k < L.length) (hk : ¬ kn (L.getD k q0).1 = true) (hs : stp (L.getD k q0) = true) : sp (L.drop k) = ([], tl (L.getD k q0)) := by
  rw [drop_at L k h]
  show (if kn (L.getD k q0).1 = true then _ else _) = _
  rw [if_neg hk, if_pos hs]
theorem sp_step_go {L : List Pm} {k : Nat} (h : k < L.length) (hk : ¬ kn (L.getD k q0).1 = true) (hs : ¬ stp (L.getD k q0) = true) : sp (L.drop k) = ((sp (L.drop (k + 1))).1, tl (L.getD k q0) ++ (sp (L.drop (k + 1))).2) := by
  rw [drop_at L k h]
  show (if kn (L.getD k q0).1 = true then _ else _) = _
  rw [if_neg hk, if_neg hs]
theorem nemp {s : ByteArray} (h : 4 ≤ s.size) : s.toList.isEmpty = false := by
  cases hs : s.toList.isEmpty with
  | false => rfl
  | true =>
    rw [ByteArray.toList_eq, List.isEmpty_iff] at hs
    have h2 : s.data.size = 0 := by rw [← Array.length_toList, hs]; rfl
    have h3 : s.size = s.data.size := rfl
    omega
set_option maxHeartbeats 4000000 in
theorem params_any (h cap : Nat) (L : List Pm) (w : World) (hn : L.length ≤ 12) (hcap : L.length ≤ cap) (hcm : cap ≤ maxLen) (hh : h < w.heap.size) (hL : ∀ k, k < L.length → Cel w h (k * 2) (prm (L.getD k q0))) (hok : ∀ k, k < L.length → Ok (L.getD k q0)) :
    Calls Try.prog 53 #[.slice (some ⟨h, 0, none⟩) L.length cap] w fun e w' => ∃ v u, e = .returned (.tuple #[v, u]) ∧ Row w' w.heap.size v (sp L).1 ∧ Row w' w.heap.size u (sp L).2 ∧ Below w.heap.size w w' := by
  obtain ⟨i0, hi, hz0, hz1, hz2⟩ := info_parts infoQ
  unfold maxLen at hcm
  obtain ⟨n, hnl⟩ : ∃ n, L.length = n := ⟨_, rfl⟩
  rw [hnl] at hn hcap hL hok ⊢
  have HNL := Lib.hid hnl
  have HL := Lib.hid hL
  have HOK := Lib.hid hok
  clear hnl hL hok
  go_enter Try.func53, Try.ntmps53
  go_wp2_with fail
  go_loopw [4, 5, 12] (fun s4 s5 s12 wr => ∃ (k : Nat) (U V : List Pm) (v u : Value), k ≤ n ∧ s12 = .int .i64 k ∧ v = s4 ∧ u = s5 ∧ Row wr w.heap.size v U ∧ Row wr w.heap.size u V ∧ Dis v u ∧ U ++ (sp (L.drop k)).1 = (sp L).1 ∧ V ++ (sp (L.drop k)).2 = (sp L).2 ∧ U.length ≤ k ∧ V.length ≤ k ∧ Below w.heap.size w wr) (fun _ _ s12 _ => n - (intOf s12).toNat)
  case atStart => exact ⟨0, [], [], _, _, by omega, rfl, rfl, rfl, World.ownsRow_nil _ _ _ _, World.ownsRow_nil _ _ _ _, fun g hg => by simp [Value.ownBlock] at hg, rfl, rfl, Nat.le_refl _, Nat.le_refl _, Below.refl _ _⟩
  case round =>
    obtain ⟨k, U, V, v, u, hk, rfl, rfl, rfl, hv, hu, hd, e1, e2, l1, l2, bel⟩ := hrel
    have HV := Lib.hid hv
    have HU := Lib.hid hu
    have HD := Lib.hid hd
    have HE := Lib.hid (And.intro e1 e2)
    clear hv hu hd e1 e2
    by_cases hlt : k < n
    · have K := (HL.out k hlt).below bel hh
      have hkk := HOK.out k hlt
      have hlL : k < L.length := by rw [HNL.out]; exact hlt
      have s1 := fun a => sp_step_known hlL a
      have s2 := fun a b => sp_step_stop hlL a b
      have s3 := fun a b => sp_step_go hlL a b
      rcases hp : L.getD k q0 with ⟨t, s⟩
      rw [hp] at K hkk s1 s2 s3
      have HS := Lib.hid (And.intro s1 (And.intro s2 s3))
      have HP := Lib.hid hp
      have hput := put_len hkk
      have HOk := Lib.hid hkk
      clear s1 s2 s3 hp hlL
      obtain ⟨nt, rfl⟩ : ∃ nt : Nat, t = nt := ⟨t.toNat, by have := hkk.t0; omega⟩
      have hnt : nt < 65536 := by have := hkk.t1; omega
      have a0 : wr.cell? ⟨h, k * 2, none⟩ = some (.int .i64 nt) := K.cell 0 (u := .int .i64 nt) rfl
      have a1 : wr.cell? ⟨h, k * 2 + 1, none⟩ = some (.string s) := K.cell 1 (u := .string s) rfl
      clear K hkk
      go_upto_region 5 with (fail)
      have X1 := Blk.new wr 94 #[.int .i64 nt, .string s]
      have al1 := (Below.refl wr.heap.size wr).alloc (Nat.le_refl _) (.cells #[.int .i64 nt, .string s] 94)
      have HV1 := Lib.hid (own_all HV.out al1)
      have HU1 := Lib.hid (own_all HU.out al1)
      have bel1 := bel.alloc bel.size (.cells #[.int .i64 nt, .string s] 94)
      have hwx : w.heap.size ≤ wr.heap.size := bel.size
      clear HV HU bel al1 a0 a1
      generalize wr.alloc (.cells #[.int .i64 nt, .string s] 94) = w1 at *
      generalize wr.heap.size = x at *
      have x0 : w1.cell? ⟨x, 0, none⟩ = some (.int .i64 nt) := X1.cell 0
      have x1 : w1.cell? ⟨x, 1, none⟩ = some (.string s) := X1.cell 1
      have hkn := fun W => known_any (nt : Int) W
      cases hkt : kn (nt : Int) with
      | true =>
        rw [hkt] at hkn
        have HKT := Lib.hid hkt
        clear hkt
        go_wp2_with fail
        refine (hkn _).mono ?_
        rintro e w2 ⟨rfl, rfl⟩
        have N2 := Blk.new w2 94 #[.int .i64 nt, .string s]
        have al2 := (Below.refl w2.heap.size w2).alloc (Nat.le_refl _) (.cells #[.int .i64 nt, .string s] 94)
        have HO2 := Lib.hid (own_all HV1.out al2)
        have HU2 := Lib.hid (own_all HU1.out al2)
        have HN2 := Lib.hid (World.news_of_block N2)
        have HS2 := Lib.hid (show (w2.alloc (.cells #[.int .i64 nt, .string s] 94)).heap.size = w2.heap.size + 1 by simp)
        have HB2 := Lib.hid (show w.heap.size ≤ (w2.alloc (.cells #[.int .i64 nt, .string s] 94)).heap.size from (bel1.alloc bel1.size (.cells #[.int .i64 nt, .string s] 94)).size)
        have HBB := Lib.hid (show Below w.heap.size w (w2.alloc (.cells #[.int .i64 nt, .string s] 94)) from bel1.alloc bel1.size (.cells #[.int .i64 nt, .string s] 94))
        have hrl : ∀ y ∈ (#[.int .i64 nt, .string s] : Array Value).toList, y.oneCell' = true := prm_one ((nt : Int), s)
        clear HV1 HU1 bel1 N2 al2 X1 hkn
        go_wp2_with (at_builtin; refine wpList_append_lies _ rfl _ _ 31 rfl w.heap.size 94 i0 (.agg #[.int .i64 0, .string ByteArray.empty]) 2 24 Try.underlying31 hi hz0 hz1 hz2 rfl (by decide) v U.length (cellsQ U) rfl HO2.out ⟨w2.heap.size, 0, none⟩ 1 1 (#[.int .i64 nt, .string s] : Array Value).toList rfl rfl HN2.out hrl (by omega) (by unfold maxLen; omega) (by omega) HB2.out (w2.heap.size + 1) HS2.out ?_; intro g8 c8 w8 own8 grow8 hat8 hlt8)
        have bel8 := HBB.out.grown grow8 HB2.out (own_ge HO2.out)
        have hu8 := own_grow HU2.out grow8 HD.out
        have hd8 : Dis (.slice (some ⟨g8, 0, none⟩) (U.length + 1) c8) u := dis_grow HU2.out HD.out hat8 HS2.out
        have hv8 : Row w8 w.heap.size (.slice (some ⟨g8, 0, none⟩) (U.length + 1) c8) (U ++ [((nt : Int), s)]) := row_snoc rfl own8
        have e1 := HE.out.1
        have e2 := HE.out.2
        rw [HS.out.1 HKT.out] at e1 e2
        have HR := Lib.hid (And.intro hv8 (And.intro hu8 (And.intro hd8 (And.intro e1 e2))))
        clear HU2 HO2 HN2 HS2 HB2 HBB hrl grow8 hat8 hlt8 own8 hu8 hd8 hv8 e1 e2 HE HS HD x0 x1
        go_roundw
        case rel => exact ⟨k + 1, U ++ [((nt : Int), s)], V, _, _, by omega, by go_num, rfl, rfl, HR.out.1, HR.out.2.1, HR.out.2.2.1, by rw [List.append_assoc]; exact HR.out.2.2.2.1, HR.out.2.2.2.2, by simp; omega, by omega, bel8⟩
        case measure => simp [intOf]; omega
      | false =>
        rw [hkt] at hkn
        have hkn' : ¬ kn (nt : Int) = true := by rw [hkt]; decide
        have HKT := Lib.hid hkn'
        clear hkt hkn'
        have hpm := fun W => param_any nt hnt W
        have hpt := fun W => put_any (nt : Int) s W
        have hst : stp ((nt : Int), s) = decide (ruleV (nt / 16384) = 1 ∨ ruleV (nt / 16384) = 3) := by unfold stp; rw [Int.toNat_natCast]
        have htl : tl ((nt : Int), s) = if ruleV (nt / 16384) = 3 ∨ ruleV (nt / 16384) = 2 then [(8, putP nt s)] else [] := by unfold tl; rw [Int.toNat_natCast]
        have hem := nemp hput.1
        have hpz := hput.2
        have hrv := ruleV_or (nt / 16384)
        generalize ruleV (nt / 16384) = rv at *
        have HPP := Lib.hid hput
        clear hput
        obtain ⟨Ps, hPs⟩ : ∃ Ps, putP (nt : Int) s = Ps := ⟨_, rfl⟩
        dsimp only at hem hpz
        rw [hPs] at hpt htl hem hpz
        go_wp2_with fail
        refine (hkn _).mono ?_
        rintro e w2 ⟨rfl, rfl⟩
        clear hkn
        go_wp2_with fail
        refine (hpm _).mono ?_
        rintro e w3 ⟨rfl, rfl⟩
        clear hpm
        go_wp2_with fail
        refine (hpt _).mono ?_
        rintro e w3 ⟨rfl, hb3⟩
        have HV3 := Lib.hid (own_all HV1.out hb3)
        have HU3 := Lib.hid (own_all HU1.out hb3)
        have X3 := X1.below hb3 X1.lt
        have bel3 := bel1.trans (hb3.mono bel1.size)
        clear HV1 HU1 X1 bel1 hb3 hpt x0 x1
        have x0 : w3.cell? ⟨x, 0, none⟩ = some (.int .i64 nt) := X3.cell 0
        have x1 : w3.cell? ⟨x, 1, none⟩ = some (.string s) := X3.cell 1
        have b01 : bits .and .i64 0 1 = 0 := by decide
        have b02 : bits .and .i64 0 2 = 0 := by decide
        have b11 : bits .and .i64 1 1 = 1 := by decide
        have b12 : bits .and .i64 1 2 = 0 := by decide
        have b21 : bits .and .i64 2 1 = 0 := by decide
        have b22 : bits .and .i64 2 2 = 2 := by decide
        have b31 : bits .and .i64 3 1 = 1 := by decide
        have b32 : bits .and .i64 3 2 = 2 := by decide
        rcases hrv with rfl | rfl | rfl | rfl
        · have HTE := Lib.hid (show U = (sp L).1 ∧ V = (sp L).2 by
            have e1 := HE.out.1
            have e2 := HE.out.2
            rw [HS.out.2.1 HKT.out (by rw [hst]; decide), htl] at e1 e2
            exact ⟨by simpa using e1, by simpa using e2⟩)
          clear hst htl HE HS HD
          go_wp2_with fail
          go_ret2
          exact ⟨_, _, rfl, by rw [← HTE.out.1]; exact HV3.out, by rw [← HTE.out.2]; exact HU3.out, bel3⟩
        · have HTE := Lib.hid (show U = (sp L).1 ∧ V ++ [((8 : Int), Ps)] = (sp L).2 by
            have e1 := HE.out.1
            have e2 := HE.out.2
            rw [HS.out.2.1 HKT.out (by rw [hst]; decide), htl] at e1 e2
            exact ⟨by simpa using e1, by simpa using e2⟩)
          clear hst htl
          have N4 := Blk.new w3 94 #[.int .i64 8, .string Ps]
          have al4 := (Below.refl w3.heap.size w3).alloc (Nat.le_refl _) (.cells #[.int .i64 8, .string Ps] 94)
          have HO4 := Lib.hid (own_all HU3.out al4)
          have HV4 := Lib.hid (own_all HV3.out al4)
          have HN4 := Lib.hid (World.news_of_block N4)
          have HS4 := Lib.hid (show (w3.alloc (.cells #[.int .i64 8, .string Ps] 94)).heap.size = w3.heap.size + 1 by simp)
          have HBB := Lib.hid (show Below w.heap.size w (w3.alloc (.cells #[.int .i64 8, .string Ps] 94)) from bel3.alloc bel3.size _)
          have HB4 := Lib.hid (show w.heap.size ≤ (w3.alloc (.cells #[.int .i64 8, .string Ps] 94)).heap.size from HBB.out.size)
          have hrl : ∀ y ∈ (#[.int .i64 8, .string Ps] : Array Value).toList, y.oneCell' = true := prm_one ((8 : Int), Ps)
          clear HV3 HU3 bel3 N4 al4 X3 x0 x1
          go_wp2_with (at_builtin; refine wpList_append_lies _ rfl _ _ 31 rfl w.heap.size 94 i0 (.agg #[.int .i64 0, .string ByteArray.empty]) 2 24 Try.underlying31 hi hz0 hz1 hz2 rfl (by decide) u V.length (cellsQ V) rfl HO4.out ⟨w3.heap.size, 0, none⟩ 1 1 (#[.int .i64 8, .string Ps] : Array Value).toList rfl rfl HN4.out hrl (by omega) (by unfold maxLen; omega) (by omega) HB4.out (w3.heap.size + 1) HS4.out ?_; intro g8 c8 w8 own8 grow8 hat8 hlt8)
          have bel8 := HBB.out.grown grow8 HB4.out (own_ge HO4.out)
          have hv8 := own_grow HV4.out grow8 HD.out.symm
          have hd8 : Dis v (.slice (some ⟨g8, 0, none⟩) (V.length + 1) c8) := (dis_grow HV4.out HD.out.symm hat8 HS4.out).symm
          have hu8 : Row w8 w.heap.size (.slice (some ⟨g8, 0, none⟩) (V.length + 1) c8) (V ++ [((8 : Int), Ps)]) := row_snoc rfl own8
          have HR := Lib.hid (And.intro hv8 (And.intro hu8 (And.intro hd8 HTE.out)))
          clear HO4 HV4 HN4 HS4 HB4 HBB hrl grow8 hat8 hlt8 own8 hv8 hu8 hd8 HTE HE HS HD
          go_wp2_with fail
          go_ret2
          exact ⟨_, _, rfl, by rw [← HR.out.2.2.2.1]; exact HR.out.1, by rw [← HR.out.2.2.2.2]; exact HR.out.2.1, bel8⟩
        · have HTE := Lib.hid (show U ++ (sp (L.drop (k + 1))).1 = (sp L).1 ∧ V ++ (sp (L.drop (k + 1))).2 = (sp L).2 by
            have e1 := HE.out.1
            have e2 := HE.out.2
            rw [HS.out.2.2 HKT.out (by rw [hst]; decide), htl] at e1 e2
            exact ⟨by simpa using e1, by simpa using e2⟩)
          clear hst htl HE HS
          go_wp2_with fail
          go_roundw
          case rel => exact ⟨k + 1, U, V, _, _, by omega, by go_num, rfl, rfl, HV3.out, HU3.out, HD.out, HTE.out.1, HTE.out.2, by omega, by omega, bel3⟩
          case measure => simp [intOf]; omega
        · have HTE := Lib.hid (show U ++ (sp (L.drop (k + 1))).1 = (sp L).1 ∧ V ++ ((8 : Int), Ps) :: (sp (L.drop (k + 1))).2 = (sp L).2 by
            have e1 := HE.out.1
            have e2 := HE.out.2
            rw [HS.out.2.2 HKT.out (by rw [hst]; decide), htl] at e1 e2
            exact ⟨by simpa using e1, by simpa using e2⟩)
          clear hst htl
          have N4 := Blk.new w3 94 #[.int .i64 8, .string Ps]
          have al4 := (Below.refl w3.heap.size w3).alloc (Nat.le_refl _) (.cells #[.int .i64 8, .string Ps] 94)
          have HO4 := Lib.hid (own_all HU3.out al4)
          have HV4 := Lib.hid (own_all HV3.out al4)
          have HN4 := Lib.hid (World.news_of_block N4)
          have HS4 := Lib.hid (show (w3.alloc (.cells #[.int .i64 8, .string Ps] 94)).heap.size = w3.heap.size + 1 by simp)
          have HBB := Lib.hid (show Below w.heap.size w (w3.alloc (.cells #[.int .i64 8, .string Ps] 94)) from bel3.alloc bel3.size _)
          have HB4 := Lib.hid (show w.heap.size ≤ (w3.alloc (.cells #[.int .i64 8, .string Ps] 94)).heap.size from HBB.out.size)
          have hrl : ∀ y ∈ (#[.int .i64 8, .string Ps] : Array Value).toList, y.oneCell' = true := prm_one ((8 : Int), Ps)
          clear HV3 HU3 bel3 N4 al4 X3 x0 x1
          go_wp2_with (at_builtin; refine wpList_append_lies _ rfl _ _ 31 rfl w.heap.size 94 i0 (.agg #[.int .i64 0, .string ByteArray.empty]) 2 24 Try.underlying31 hi hz0 hz1 hz2 rfl (by decide) u V.length (cellsQ V) rfl HO4.out ⟨w3.heap.size, 0, none⟩ 1 1 (#[.int .i64 8, .string Ps] : Array Value).toList rfl rfl HN4.out hrl (by omega) (by unfold maxLen; omega) (by omega) HB4.out (w3.heap.size + 1) HS4.out ?_; intro g8 c8 w8 own8 grow8 hat8 hlt8)
          have bel8 := HBB.out.grown grow8 HB4.out (own_ge HO4.out)
          have hv8 := own_grow HV4.out grow8 HD.out.symm
          have hd8 : Dis v (.slice (some ⟨g8, 0, none⟩) (V.length + 1) c8) := (dis_grow HV4.out HD.out.symm hat8 HS4.out).symm
          have hu8 : Row w8 w.heap.size (.slice (some ⟨g8, 0, none⟩) (V.length + 1) c8) (V ++ [((8 : Int), Ps)]) := row_snoc rfl own8
          have HR := Lib.hid (And.intro hv8 (And.intro hu8 (And.intro hd8 HTE.out)))
          clear HO4 HV4 HN4 HS4 HB4 HBB hrl grow8 hat8 hlt8 own8 hv8 hu8 hd8 HTE HE HS HD
          go_wp2_with fail
          go_roundw
          case rel => exact ⟨k + 1, U, V ++ [((8 : Int), Ps)], _, _, by omega, by go_num, rfl, rfl, HR.out.1, HR.out.2.1, HR.out.2.2.1, HR.out.2.2.2.1, by rw [List.append_assoc]; exact HR.out.2.2.2.2, by omega, by simp; omega, bel8⟩
          case measure => simp [intOf]; omega
    · obtain rfl : k = n := by omega
      have e1 := HE.out.1
      have e2 := HE.out.2
      have hdr : L.drop k = [] := List.drop_eq_nil_of_le (by rw [HNL.out]; exact Nat.le_refl _)
      rw [hdr] at e1 e2
      have E1 : U = (sp L).1 := by simpa [sp] using e1
      have E2 : V = (sp L).2 := by simpa [sp] using e2
      have HE1 := Lib.hid E1
      have HE2 := Lib.hid E2
      clear e1 e2 E1 E2 hdr
      go_wp2_with fail
      go_ret2
      exact ⟨_, _, rfl, by rw [← HE1.out]; exact HV.out, by rw [← HE2.out]; exact HU.out, bel⟩
end Go.Proofs.Ytdjdgccomefoaaa.str
