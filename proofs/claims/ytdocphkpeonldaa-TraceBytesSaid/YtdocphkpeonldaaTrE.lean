/- Layer 36: acts read. -/
import Derived.Test.YtdocphkpeonldaaTrD
import Derived.Deep.AppendLies
import Derived.Test.YtdocphkpeonldaaKitC
import Derived.Deep.RegionLaw
namespace Go.Proofs.Ytdocphkpeonldaa.tra
open Go.Sort (grow)
open Go.ChangeShapes Go.WideShapes Go.ChangeAt Go.RowKit kit oct bld
set_option maxRecDepth 100000

/-- The acts that bytes say. -/
def pg : Nat → ByteArray → Option (List Rc)
  | 0, _ => none
  | f + 1, L => if L.size = 0 then some [] else if (nx L).e = 0 then (pg f (nx L).l).map ((nx L).rc :: ·) else none
theorem pg_ok : ∀ (f : Nat) (L : ByteArray) (l : List Rc), pg f L = some l → cat36 l = L ∧ ∀ r, r ∈ l → r.Ok
  | 0, _, _, h => by cases h
  | f + 1, L, l, h => by
    unfold pg at h
    by_cases h0 : L.size = 0
    · rw [if_pos h0] at h
      cases h
      refine ⟨?_, fun r hr => by cases hr⟩
      apply ByteArray.ext
      exact (Array.eq_empty_of_size_eq_zero h0).symm
    · rw [if_neg h0] at h
      by_cases h1 : (nx L).e = 0
      · rw [if_pos h1] at h
        obtain ⟨q, hq, rfl⟩ := Option.map_eq_some_iff.1 h
        obtain ⟨e1, e2⟩ := pg_ok f (nx L).l q hq
        obtain ⟨y1, y2⟩ := nx_ok L h1
        refine ⟨?_, fun r hr => ?_⟩
        · show (nx L).rc.bytes ++ cat36 q = L
          rw [e1]
          exact y1.symm
        · rcases List.mem_cons.1 hr with rfl | hr
          · exact y2
          · exact e2 r hr
      · rw [if_neg h1] at h
        cases h
def cellsR : List Rc → List Value
  | [] => []
  | r :: l => r.cells.toList ++ cellsR l
theorem cellsR_snoc (L : List Rc) (r : Rc) : cellsR (L ++ [r]) = cellsR L ++ r.cells.toList := by
  induction L with
  | nil => simp [cellsR]
  | cons q l ih => simp [cellsR, ih]
theorem cellsR_at : ∀ (L : List Rc) (k j : Nat) (u : Value), k < L.length → (L.getD k rc0).cells[j]? = some u → (cellsR L)[k * 9 + j]? = some u
  | [], _, _, _, h, _ => absurd h (Nat.not_lt_zero _)
  | e :: r, 0, j, u, _, hu => by
    have hj : j < 9 := by have := (Array.getElem?_eq_some_iff.1 hu).1; exact this
    show (e.cells.toList ++ cellsR r)[0 * 9 + j]? = some u
    rw [List.getElem?_append_left (by show _ < 9; omega)]
    simpa using hu
  | e :: r, k + 1, j, u, h, hu => by
    show (e.cells.toList ++ cellsR r)[(k + 1) * 9 + j]? = some u
    rw [List.getElem?_append_right (by show 9 ≤ _; omega), show (k + 1) * 9 + j - e.cells.toList.length = k * 9 + j by show (k + 1) * 9 + j - 9 = _; omega]
    exact cellsR_at r k j u (by simpa using h) (by simpa using hu)
theorem cel_r {w : World} {h : Nat} {L : List Rc} (C : Cel w h 0 (cellsR L).toArray) (k : Nat) (hk : k < L.length) : Cel w h (k * 9) (L.getD k rc0).cells :=
  ⟨C.1, fun j u hu => by
    have := C.2 (k * 9 + j) u (by simpa using cellsR_at L k j u hk hu)
    rwa [Nat.zero_add] at this⟩
theorem infoR : (Try.prog.info? 63).map (fun i => (i.zero, i.size, i.bytes)) = some (some (.agg #[.int .i64 0, .int .i64 0, .int .i64 0, .int .i64 0, .int .i64 0, .int .i64 0, .int .i64 0, .int .i64 0, .string ByteArray.empty]), 9, 80) := by kernel_rfl
def lenV : Value → Nat
  | .slice _ n _ => n
  | _ => 0
abbrev RowR (w : World) (b0 : Nat) (v : Value) (L : List Rc) : Prop := w.ownsRow b0 63 9 v L.length (cellsR L)
theorem nx_parts (L : ByteArray) : ∃ (a1 a2 a3 a4 a5 a6 a7 a8 a9 a10 s : ByteArray) (e1 e2 e3 e4 e5 e6 e7 e8 e9 e10 : Int) (n0 n1 n2 n3 n4 n5 n6 n7 ln : Nat), rdL L 0 1 = a1 ∧ rdE L 0 1 = e1 ∧ rdN L 1 = n0 ∧ rdL a1 e1 4 = a2 ∧ rdE a1 e1 4 = e2 ∧ rdN a1 4 = n1 ∧ rdL a2 e2 4 = a3 ∧ rdE a2 e2 4 = e3 ∧ rdN a2 4 = n2 ∧ rdL a3 e3 4 = a4 ∧ rdE a3 e3 4 = e4 ∧ rdN a3 4 = n3 ∧ rdL a4 e4 4 = a5 ∧ rdE a4 e4 4 = e5 ∧ rdN a4 4 = n4 ∧ rdL a5 e5 4 = a6 ∧ rdE a5 e5 4 = e6 ∧ rdN a5 4 = n5 ∧ rdL a6 e6 4 = a7 ∧ rdE a6 e6 4 = e7 ∧ rdN a6 4 = n6 ∧ rdL a7 e7 4 = a8 ∧ rdE a7 e7 4 = e8 ∧ rdN a7 4 = n7 ∧ rdL a8 e8 2 = a9 ∧ rdE a8 e8 2 = e9 ∧ rdN a8 2 = ln ∧ (if 0 ≤ (ln : Int) ∧ (ln : Int) ≤ a9.size then a9.extract 0 (ln : Int).toNat else ByteArray.empty) = s ∧ (if 0 ≤ (ln : Int) ∧ (ln : Int) ≤ a9.size then a9.extract (ln : Int).toNat a9.size else failL a9 e9 2) = a10 ∧ (if 0 ≤ (ln : Int) ∧ (ln : Int) ≤ a9.size then e9 else failE e9 2) = e10 ∧ nx L = ⟨⟨n0, n1, n2, n3, n4, n5, n6, n7, s⟩, a10, e10⟩ :=
  ⟨_, _, _, _, _, _, _, _, _, _, _, _, _, _, _, _, _, _, _, _, _, _, _, _, _, _, _, _, _, _, rfl, rfl, rfl, rfl, rfl, rfl, rfl, rfl, rfl, rfl, rfl, rfl, rfl, rfl, rfl, rfl, rfl, rfl, rfl, rfl, rfl, rfl, rfl, rfl, rfl, rfl, rfl, rfl, rfl, rfl, rfl⟩
theorem rdE_02 (l : ByteArray) (e : Int) (k : Nat) (h : e = 0 ∨ e = 2) : rdE l e k = 0 ∨ rdE l e k = 2 := by
  unfold rdE failE
  split
  · exact h
  · split
    · exact h
    · exact .inr rfl
theorem nx_e (L : ByteArray) : (nx L).e = 0 ∨ (nx L).e = 2 := by
  obtain ⟨a1, a2, a3, a4, a5, a6, a7, a8, a9, a10, s, e1, e2, e3, e4, e5, e6, e7, e8, e9, e10, n0, n1, n2, n3, n4, n5, n6, n7, ln, A1, E1, _, A2, E2, _, A3, E3, _, A4, E4, _, A5, E5, _, A6, E6, _, A7, E7, _, A8, E8, _, A9, E9, _, _, _, E10, HNX⟩ := nx_parts L
  rw [HNX]
  show e10 = 0 ∨ e10 = 2
  have q1 : e1 = 0 ∨ e1 = 2 := by rw [← E1]; exact rdE_02 L 0 1 (.inl rfl)
  have q2 : e2 = 0 ∨ e2 = 2 := by rw [← E2]; exact rdE_02 a1 e1 4 q1
  have q3 : e3 = 0 ∨ e3 = 2 := by rw [← E3]; exact rdE_02 a2 e2 4 q2
  have q4 : e4 = 0 ∨ e4 = 2 := by rw [← E4]; exact rdE_02 a3 e3 4 q3
  have q5 : e5 = 0 ∨ e5 = 2 := by rw [← E5]; exact rdE_02 a4 e4 4 q4
  have q6 : e6 = 0 ∨ e6 = 2 := by rw [← E6]; exact rdE_02 a5 e5 4 q5
  have q7 : e7 = 0 ∨ e7 = 2 := by rw [← E7]; exact rdE_02 a6 e6 4 q6
  have q8 : e8 = 0 ∨ e8 = 2 := by rw [← E8]; exact rdE_02 a7 e7 4 q7
  have q9 : e9 = 0 ∨ e9 = 2 := by rw [← E9]; exact rdE_02 a8 e8 2 q8
  rw [← E10]
  split
  · exact q9
  · unfold failE
    split
    · exact q9
    · exact .inr rfl
theorem sgn_wrap (n : Nat) (h : n ≤ 4294967295) : IntKind.i32.wrap (n : Int) = sg n := by
  unfold sg
  split
  · exact IntWalk.i32_in _ (by omega)
  · rw [IntKind.wrap_i32]
    omega
set_option maxHeartbeats 1000000 in
theorem sgn_any (gr gb : Nat) (l : ByteArray) (e : Int) (w : World) (G : Blk w gb 142 #[.pointer (some ⟨gr, 0, none⟩)]) (R : RD w gr l e) (hl : l.size ≤ maxLen) :
    Calls Try.prog 99 #[.pointer (some ⟨gb, 0, none⟩)] w fun x w' => x = .returned (.int .i64 (sg (rdN l 4))) ∧ RD w' gr (rdL l e 4) (rdE l e 4) ∧ oct.Touch gr w w' := by
  have g0 : w.cell? ⟨gb, 0, none⟩ = some (.pointer (some ⟨gr, 0, none⟩)) := G.cell 0
  have hb := rdN_lt l 4 (by omega)
  have hk := r32_any gr l e w R hl
  have hw := sgn_wrap (rdN l 4) (by omega)
  have hlo := sg_lo (rdN l 4) (by omega)
  have hhi : sg (rdN l 4) ≤ 2147483647 := by have := sg_hi (rdN l 4); omega
  generalize rdN l 4 = n at *
  generalize hsg : sg n = x at *
  have hn : (n : Int) ≤ 4294967295 := by omega
  clear hsg hb
  go_enter Try.func99, Try.ntmps99
  go_wp2_with fail
  refine hk.mono ?_
  rintro e1 w1 ⟨rfl, R1, t1⟩
  go_wp2_with fail
  go_ret
  exact ⟨rfl, R1, t1⟩
set_option maxHeartbeats 4000000 in
theorem get36_any (S : ByteArray) (w : World) (hs : S.size ≤ 1860) : Calls Try.prog 43 #[.string S] w fun e w' => ((∃ v acts, pg 2500 S = some acts ∧ e = .returned (.tuple #[v, .int .i64 0]) ∧ RowR w' (w.heap.size + 2) v acts ∧ acts.length ≤ 60) ∨ (pg 2500 S = none ∧ e = .returned (.tuple #[.slice none 0 0, .int .i64 2]))) ∧ Below w.heap.size w w' := by
  obtain ⟨i0, hi, hz0, hz1, hz2⟩ := info_parts infoR
  have hs' : S.size ≤ 65536 := by omega
  go_enter Try.func43, Try.ntmps43
  go_wp2_with (go_at_call 74; refine (new_any _ _).mono ?_; rintro e w1 ⟨rfl, rfl⟩)
  have R0 : RD ((w.alloc (.cells #[.string S, .int .i64 0] 230)).alloc (.cells #[.pointer (some ⟨w.heap.size, 0, none⟩)] 142)) w.heap.size S 0 := Blk.alloc (RD.fresh w S 0) _
  have G0 : Blk ((w.alloc (.cells #[.string S, .int .i64 0] 230)).alloc (.cells #[.pointer (some ⟨w.heap.size, 0, none⟩)] 142)) (w.heap.size + 1) 142 #[.pointer (some ⟨w.heap.size, 0, none⟩)] := blk_new2 _ _ _ _
  have bel0 := ((Below.refl w.heap.size w).alloc (Nat.le_refl _) (.cells #[.string S, .int .i64 0] 230)).alloc (by simp) (.cells #[.pointer (some ⟨w.heap.size, 0, none⟩)] 142)
  generalize (w.alloc (.cells #[.string S, .int .i64 0] 230)).alloc (.cells #[.pointer (some ⟨w.heap.size, 0, none⟩)] 142) = w0 at *
  obtain ⟨gr, hgr⟩ : ∃ gr, w.heap.size = gr := ⟨_, rfl⟩
  rw [hgr] at R0 G0 bel0 ⊢
  have HGR := Lib.hid hgr
  clear hgr
  go_loopw [4] (fun s4 wr => ∃ (acts : List Rc) (L : ByteArray) (f : Nat) (v : Value), v = s4 ∧ pg 2500 S = (pg f L).map (acts ++ ·) ∧ RD wr gr L 0 ∧ Blk wr (gr + 1) 142 #[.pointer (some ⟨gr, 0, none⟩)] ∧ RowR wr (gr + 2) v acts ∧ lenV v = acts.length ∧ acts.length * 31 + L.size ≤ 1860 ∧ L.size < f ∧ Below gr w wr) (fun s4 _ => 70 - lenV s4)
  case atStart => exact ⟨[], S, 2500, _, rfl, by simp, R0, G0, World.ownsRow_nil _ _ _ _, rfl, by simpa using hs, by omega, bel0⟩
  case round =>
    clear R0 G0 bel0
    obtain ⟨acts, L, f, v, rfl, hpg, R, G, own, hlen, hsz, hf, bel⟩ := hrel
    have HO := Lib.hid own
    have HPG := Lib.hid hpg
    have HLN := Lib.hid hlen
    clear own hpg hlen
    have g0 : wr.cell? ⟨gr + 1, 0, none⟩ = some (.pointer (some ⟨gr, 0, none⟩)) := G.cell 0
    go_wp2_with fail
    refine (left_any _ _ _ _ R).mono ?_
    rintro e w1 ⟨rfl, rfl⟩
    by_cases h0 : L.size = 0
    · have hpg2 : pg 2500 S = some acts := by
        obtain ⟨f', rfl⟩ : ∃ f', f = f' + 1 := ⟨f - 1, by omega⟩
        rw [HPG.out]
        show (if L.size = 0 then some [] else _).map _ = _
        rw [if_pos h0]
        simp
      have HPG2 := Lib.hid hpg2
      have hz0' : ¬ (0 : Int) < (L.size : Int) := by omega
      clear HPG hpg2
      go_wp2_with fail
      go_ret2
      exact ⟨.inl ⟨_, acts, HPG2.out, rfl, by rw [HGR.out]; exact HO.out, by omega⟩, by rw [HGR.out]; exact bel⟩
    · have hpos : (0 : Int) < (L.size : Int) := by omega
      have hlm : L.size ≤ maxLen := by unfold maxLen; omega
      have hne := nx_e L
      have hnok := nx_ok L
      have hpgf : pg f L = if (nx L).e = 0 then (pg (f - 1) (nx L).l).map ((nx L).rc :: ·) else none := by
        obtain ⟨f', rfl⟩ : ∃ f', f = f' + 1 := ⟨f - 1, by omega⟩
        show (if L.size = 0 then some [] else if (nx L).e = 0 then (pg f' (nx L).l).map ((nx L).rc :: ·) else none) = _
        rw [if_neg h0]
        rfl
      obtain ⟨a1, a2, a3, a4, a5, a6, a7, a8, a9, a10, s, e1, e2, e3, e4, e5, e6, e7, e8, e9, e10, n0, n1, n2, n3, n4, n5, n6, n7, ln, A1, E1, N0, A2, E2, N1, A3, E3, N2, A4, E4, N3, A5, E5, N4, A6, E6, N5, A7, E7, N6, A8, E8, N7, A9, E9, NL, HSx, A10, E10, HNX⟩ := nx_parts L
      rw [HNX] at hne hnok hpgf
      dsimp only at hne hnok hpgf
      have i1 := rd_inv L 0 1 (by simp) (by omega)
      have z1 := Nat.le_trans (rd_size L 0 1 (by simp) (by omega)) hlm
      have k1 := fun W (R : RD W gr L 0) => r8_any gr L 0 W R hlm
      rw [A1, E1] at i1
      rw [A1] at z1
      rw [A1, E1, N0] at k1
      have i2 := rd_inv a1 e1 4 i1 (by omega)
      have z2 := Nat.le_trans (rd_size a1 e1 4 i1 (by omega)) z1
      have k2 := fun W (G : Blk W (gr + 1) 142 #[.pointer (some ⟨gr, 0, none⟩)]) (R : RD W gr a1 e1) => sgn_any gr (gr + 1) a1 e1 W G R z1
      rw [A2, E2] at i2
      rw [A2] at z2
      rw [A2, E2, N1] at k2
      have i3 := rd_inv a2 e2 4 i2 (by omega)
      have z3 := Nat.le_trans (rd_size a2 e2 4 i2 (by omega)) z2
      have k3 := fun W (G : Blk W (gr + 1) 142 #[.pointer (some ⟨gr, 0, none⟩)]) (R : RD W gr a2 e2) => sgn_any gr (gr + 1) a2 e2 W G R z2
      rw [A3, E3] at i3
      rw [A3] at z3
      rw [A3, E3, N2] at k3
      have i4 := rd_inv a3 e3 4 i3 (by omega)
      have z4 := Nat.le_trans (rd_size a3 e3 4 i3 (by omega)) z3
      have k4 := fun W (G : Blk W (gr + 1) 142 #[.pointer (some ⟨gr, 0, none⟩)]) (R : RD W gr a3 e3) => sgn_any gr (gr + 1) a3 e3 W G R z3
      rw [A4, E4] at i4
      rw [A4] at z4
      rw [A4, E4, N3] at k4
      have i5 := rd_inv a4 e4 4 i4 (by omega)
      have z5 := Nat.le_trans (rd_size a4 e4 4 i4 (by omega)) z4
      have k5 := fun W (G : Blk W (gr + 1) 142 #[.pointer (some ⟨gr, 0, none⟩)]) (R : RD W gr a4 e4) => sgn_any gr (gr + 1) a4 e4 W G R z4
      rw [A5, E5] at i5
      rw [A5] at z5
      rw [A5, E5, N4] at k5
      have i6 := rd_inv a5 e5 4 i5 (by omega)
      have z6 := Nat.le_trans (rd_size a5 e5 4 i5 (by omega)) z5
      have k6 := fun W (G : Blk W (gr + 1) 142 #[.pointer (some ⟨gr, 0, none⟩)]) (R : RD W gr a5 e5) => sgn_any gr (gr + 1) a5 e5 W G R z5
      rw [A6, E6] at i6
      rw [A6] at z6
      rw [A6, E6, N5] at k6
      have i7 := rd_inv a6 e6 4 i6 (by omega)
      have z7 := Nat.le_trans (rd_size a6 e6 4 i6 (by omega)) z6
      have k7 := fun W (G : Blk W (gr + 1) 142 #[.pointer (some ⟨gr, 0, none⟩)]) (R : RD W gr a6 e6) => sgn_any gr (gr + 1) a6 e6 W G R z6
      rw [A7, E7] at i7
      rw [A7] at z7
      rw [A7, E7, N6] at k7
      have i8 := rd_inv a7 e7 4 i7 (by omega)
      have z8 := Nat.le_trans (rd_size a7 e7 4 i7 (by omega)) z7
      have k8 := fun W (G : Blk W (gr + 1) 142 #[.pointer (some ⟨gr, 0, none⟩)]) (R : RD W gr a7 e7) => sgn_any gr (gr + 1) a7 e7 W G R z7
      rw [A8, E8] at i8
      rw [A8] at z8
      rw [A8, E8, N7] at k8
      have z9 := Nat.le_trans (rd_size a8 e8 2 i8 (by omega)) z8
      have k9 := fun W (R : RD W gr a8 e8) => r16_any gr a8 e8 W R z8
      rw [A9] at z9
      rw [A9, E9, NL] at k9
      have k10 := fun W (R : RD W gr a9 e9) => take_any gr a9 e9 (ln : Int) W R z9
      rw [HSx, A10, E10] at k10
      have K1 := Lib.hid k1
      have K2 := Lib.hid k2
      have K3 := Lib.hid k3
      have K4 := Lib.hid k4
      have K5 := Lib.hid k5
      have K6 := Lib.hid k6
      have K7 := Lib.hid k7
      have K8 := Lib.hid k8
      have K9 := Lib.hid k9
      have K10 := Lib.hid k10
      have HNO := Lib.hid hnok
      have HPF := Lib.hid hpgf
      have HNE := Lib.hid hne
      clear hne hnok hpgf HNX A1 E1 N0 A2 E2 N1 A3 E3 N2 A4 E4 N3 A5 E5 N4 A6 E6 N5 A7 E7 N6 A8 E8 N7 A9 E9 NL HSx A10 E10 k1 k2 k3 k4 k5 k6 k7 k8 k9 k10 i1 i2 i3 i4 i5 i6 i7 i8 z1 z2 z3 z4 z5 z6 z7 z8 z9
      have g0 : wr.cell? ⟨gr + 1, 0, none⟩ = some (.pointer (some ⟨gr, 0, none⟩)) := G.cell 0
      go_wp2_with fail
      refine (K1.out _ R).mono ?_
      rintro e w1 ⟨rfl, R1, t1⟩
      have G1 := t1.blk G (by omega)
      have T1 := t1
      clear R G K1 g0
      have g1 : w1.cell? ⟨gr + 1, 0, none⟩ = some (.pointer (some ⟨gr, 0, none⟩)) := G1.cell 0
      go_wp2_with fail
      refine (K2.out _ G1 R1).mono ?_
      rintro e w2 ⟨rfl, R2, t2⟩
      have G2 := t2.blk G1 (by omega)
      have T2 := T1.trans t2
      clear R1 G1 K2 g1 t2 T1 t1
      have g2 : w2.cell? ⟨gr + 1, 0, none⟩ = some (.pointer (some ⟨gr, 0, none⟩)) := G2.cell 0
      go_wp2_with fail
      refine (K3.out _ G2 R2).mono ?_
      rintro e w3 ⟨rfl, R3, t3⟩
      have G3 := t3.blk G2 (by omega)
      have T3 := T2.trans t3
      clear R2 G2 K3 g2 t3 T2
      have g3 : w3.cell? ⟨gr + 1, 0, none⟩ = some (.pointer (some ⟨gr, 0, none⟩)) := G3.cell 0
      go_wp2_with fail
      refine (K4.out _ G3 R3).mono ?_
      rintro e w4 ⟨rfl, R4, t4⟩
      have G4 := t4.blk G3 (by omega)
      have T4 := T3.trans t4
      clear R3 G3 K4 g3 t4 T3
      have g4 : w4.cell? ⟨gr + 1, 0, none⟩ = some (.pointer (some ⟨gr, 0, none⟩)) := G4.cell 0
      go_wp2_with fail
      refine (K5.out _ G4 R4).mono ?_
      rintro e w5 ⟨rfl, R5, t5⟩
      have G5 := t5.blk G4 (by omega)
      have T5 := T4.trans t5
      clear R4 G4 K5 g4 t5 T4
      have g5 : w5.cell? ⟨gr + 1, 0, none⟩ = some (.pointer (some ⟨gr, 0, none⟩)) := G5.cell 0
      go_wp2_with fail
      refine (K6.out _ G5 R5).mono ?_
      rintro e w6 ⟨rfl, R6, t6⟩
      have G6 := t6.blk G5 (by omega)
      have T6 := T5.trans t6
      clear R5 G5 K6 g5 t6 T5
      have g6 : w6.cell? ⟨gr + 1, 0, none⟩ = some (.pointer (some ⟨gr, 0, none⟩)) := G6.cell 0
      go_wp2_with fail
      refine (K7.out _ G6 R6).mono ?_
      rintro e w7 ⟨rfl, R7, t7⟩
      have G7 := t7.blk G6 (by omega)
      have T7 := T6.trans t7
      clear R6 G6 K7 g6 t7 T6
      have g7 : w7.cell? ⟨gr + 1, 0, none⟩ = some (.pointer (some ⟨gr, 0, none⟩)) := G7.cell 0
      go_wp2_with fail
      refine (K8.out _ G7 R7).mono ?_
      rintro e w8 ⟨rfl, R8, t8⟩
      have G8 := t8.blk G7 (by omega)
      have T8 := T7.trans t8
      clear R7 G7 K8 g7 t8 T7
      go_upto_region 8 with (fail)
      have bel8 : Below gr w w8 := T8.below bel (Nat.le_refl _) (by rw [← HGR.out]; exact bel.size)
      have HO8 := Lib.hid (own_other HO.out (fun k hk => T8.block k (own_lt HO.out k hk) (by have := own_ge HO.out k hk; omega)))
      obtain ⟨x1, X1⟩ : ∃ x, sg n1 = x := ⟨_, rfl⟩
      rw [X1]
      obtain ⟨x2, X2⟩ : ∃ x, sg n2 = x := ⟨_, rfl⟩
      rw [X2]
      obtain ⟨x3, X3⟩ : ∃ x, sg n3 = x := ⟨_, rfl⟩
      rw [X3]
      obtain ⟨x4, X4⟩ : ∃ x, sg n4 = x := ⟨_, rfl⟩
      rw [X4]
      obtain ⟨x5, X5⟩ : ∃ x, sg n5 = x := ⟨_, rfl⟩
      rw [X5]
      obtain ⟨x6, X6⟩ : ∃ x, sg n6 = x := ⟨_, rfl⟩
      rw [X6]
      obtain ⟨x7, X7⟩ : ∃ x, sg n7 = x := ⟨_, rfl⟩
      rw [X7]
      have HXS := Lib.hid (And.intro X1 (And.intro X2 (And.intro X3 (And.intro X4 (And.intro X5 (And.intro X6 X7))))))
      clear X1 X2 X3 X4 X5 X6 X7 T8 HO bel
      have P9 := Blk.new w8 63 #[.int .i64 n0, .int .i64 x1, .int .i64 x2, .int .i64 x3, .int .i64 x4, .int .i64 x5, .int .i64 x6, .int .i64 x7, .string ⟨#[]⟩]
      have R9 : RD (w8.alloc (.cells #[.int .i64 n0, .int .i64 x1, .int .i64 x2, .int .i64 x3, .int .i64 x4, .int .i64 x5, .int .i64 x6, .int .i64 x7, .string ⟨#[]⟩] 63)) gr a8 e8 := Blk.alloc R8 _
      have G9 := G8.alloc (.cells #[.int .i64 n0, .int .i64 x1, .int .i64 x2, .int .i64 x3, .int .i64 x4, .int .i64 x5, .int .i64 x6, .int .i64 x7, .string ⟨#[]⟩] 63)
      have al9 := (Below.refl w8.heap.size w8).alloc (Nat.le_refl _) (.cells #[.int .i64 n0, .int .i64 x1, .int .i64 x2, .int .i64 x3, .int .i64 x4, .int .i64 x5, .int .i64 x6, .int .i64 x7, .string ⟨#[]⟩] 63)
      have HO9 := Lib.hid (own_all HO8.out al9)
      have bel9 := bel8.alloc (by have := G8.lt; omega) (.cells #[.int .i64 n0, .int .i64 x1, .int .i64 x2, .int .i64 x3, .int .i64 x4, .int .i64 x5, .int .i64 x6, .int .i64 x7, .string ⟨#[]⟩] 63)
      have hg8 : gr + 1 < w8.heap.size := G8.lt
      have hovp : ∀ k, v.ownBlock = some k → k < w8.heap.size := own_lt HO8.out
      clear R8 G8 bel8 al9 HO8
      generalize w8.alloc (.cells #[.int .i64 n0, .int .i64 x1, .int .i64 x2, .int .i64 x3, .int .i64 x4, .int .i64 x5, .int .i64 x6, .int .i64 x7, .string ⟨#[]⟩] 63) = w9 at *
      generalize w8.heap.size = p at *
      go_cut [37] (fun s37 wx => s37 = .string s ∧ RD wx gr a10 e10 ∧ Blk wx p 63 #[.int .i64 n0, .int .i64 x1, .int .i64 x2, .int .i64 x3, .int .i64 x4, .int .i64 x5, .int .i64 x6, .int .i64 x7, .string s] ∧ Blk wx (gr + 1) 142 #[.pointer (some ⟨gr, 0, none⟩)] ∧ RowR wx (gr + 2) v acts ∧ Below gr w wx)
      case first =>
        have R9d : RD w9.drew gr a8 e8 := R9
        have G9d := G9.drew
        have P9d := P9.drew
        have g9 : w9.cell? ⟨gr + 1, 0, none⟩ = some (.pointer (some ⟨gr, 0, none⟩)) := G9.cell 0
        have hk9 := fun W R => K9.out W R
        have hk10 := fun W R => K10.out W R
        go_region_law
          ((first | (refine step_call2 (by rfl) 76 Try.f76 _ _ (by rfl) Try.func76 (by kernel_rfl) (by kernel_rfl) #[.pointer (some ⟨gr, 0, none⟩)] (by simp [Act.eval, Act.put]) (hk9 _ R9d) ?_; rintro e y1 ⟨rfl, Ry1, ty1⟩; refine ⟨_, rfl, ?_⟩; have Gy1 := ty1.blk G9d (by omega); have Py1 := ty1.blk P9d (by omega); have gy1 : y1.cell? ⟨gr + 1, 0, none⟩ = some (.pointer (some ⟨gr, 0, none⟩)) := Gy1.cell 0)
                  | (refine step_call2 (by rfl) 102 Try.f102 _ _ (by rfl) Try.func102 (by kernel_rfl) (by kernel_rfl) #[.pointer (some ⟨gr, 0, none⟩), .int .i64 ln] (by simp [Act.eval, Act.put]) (hk10 _ Ry1) ?_; rintro e y2 ⟨rfl, Ry2, ty2⟩; refine ⟨_, rfl, ?_⟩; have Gy2 := ty2.blk Gy1 (by omega); have Py2 := ty2.blk Py1 (by omega); have py2 : y2.cell? ⟨p, 8, none⟩ = some (.string ⟨#[]⟩) := Py2.cell 8; have pf2 : y2.frozen? ⟨p, 8, none⟩ = false := Py2.frozen 8)))
        all_goals
          have R11 := Blk.far (p := ⟨p, 8, none⟩) Ry2 (show gr ≠ p by omega) (.string s)
          have P11 := Py2.set_ 8 (.string s)
          have G11 := Gy2.far (p := ⟨p, 8, none⟩) (show gr + 1 ≠ p by omega) (.string s)
          have Ty := ty1.trans ty2
          have O11 := own_other (w' := y2.setCell ⟨p, 8, none⟩ (.string s)) HO9.out (fun k hk => (Below.heap_setCell y2 ⟨p, 8, none⟩ (.string s) k (by have := hovp k hk; show k ≠ p; omega)).trans (Ty.block k (own_lt HO9.out k hk) (by have := own_ge HO9.out k hk; omega)))
          have bel11 : Below gr w (y2.setCell ⟨p, 8, none⟩ (.string s)) := (Ty.below bel9.drew (Nat.le_refl _) (by have := R9.lt; show gr ≤ w9.heap.size; omega)).setCell (p := ⟨p, 8, none⟩) (by show gr ≤ p; omega) _
          have HH := Lib.hid (And.intro R11 (And.intro P11 (And.intro G11 (And.intro O11 bel11))))
          clear R11 P11 G11 O11 bel11
          go_wp2_with fail
          go_meet
          exact ⟨rfl, HH.out.1, by simpa using HH.out.2.1, HH.out.2.2.1, HH.out.2.2.2.1, HH.out.2.2.2.2⟩
      case rest =>
      obtain ⟨rfl, R10, P10, G10, own10, bel10⟩ := hcut
      clear R9 G9 P9 HO9 bel9 K9 K10
      have HO10 := Lib.hid own10
      clear own10
      have g10 : wc.cell? ⟨gr + 1, 0, none⟩ = some (.pointer (some ⟨gr, 0, none⟩)) := G10.cell 0
      rcases HNE.out with rfl | rfl
      · obtain ⟨hno, hok⟩ := HNO.out rfl
        have hpf := HPF.out
        rw [if_pos rfl] at hpf
        have hbz := bytes_size (Rc.mk n0 n1 n2 n3 n4 n5 n6 n7 s)
        have hLs : L.size = 31 + s.size + a10.size := by
          have h1 := congrArg ByteArray.size hno
          rw [ByteArray.size_append, hbz] at h1
          exact h1
        have hpg2 : pg 2500 S = (pg (f - 1) a10).map ((acts ++ [(Rc.mk n0 n1 n2 n3 n4 n5 n6 n7 s)]) ++ ·) := by
          rw [HPG.out, hpf, Option.map_map]
          congr 1
          funext l
          simp
        have HPG2 := Lib.hid hpg2
        obtain ⟨nv, hnv⟩ : ∃ nv, acts.length = nv := ⟨_, rfl⟩
        obtain ⟨oa, cv, hvv⟩ : ∃ oa c, v = .slice oa nv c := by
          rcases HO10.out.2 with ⟨rfl, h⟩ | ⟨h', cap', cur', rfl, _⟩
          · exact ⟨none, 0, by rw [← hnv, h]⟩
          · exact ⟨_, _, by rw [← hnv]⟩
        subst hvv
        have hnv20 : nv ≤ 60 := by omega
        have HNV := Lib.hid hnv
        have h11 : wc.ownsRow (gr + 2) 63 9 (.slice oa nv cv) acts.length (cellsR acts) := HO10.out
        rw [hnv] at h11
        have HO11 := Lib.hid h11
        clear h11
        clear HNO HPF HNE HPG HO10 hno hok hpf hbz hpg2 hovp hnv
        go_wp2_with fail
        refine (err_any _ _ _ _ R10).mono ?_
        rintro e w11 ⟨rfl, rfl⟩
        have N12 := Blk.new wc 63 #[.int .i64 n0, .int .i64 x1, .int .i64 x2, .int .i64 x3, .int .i64 x4, .int .i64 x5, .int .i64 x6, .int .i64 x7, .string s]
        have al12 := (Below.refl wc.heap.size wc).alloc (Nat.le_refl _) (.cells #[.int .i64 n0, .int .i64 x1, .int .i64 x2, .int .i64 x3, .int .i64 x4, .int .i64 x5, .int .i64 x6, .int .i64 x7, .string s] 63)
        have HO12 := Lib.hid (own_all HO11.out al12)
        have HN12 := Lib.hid (World.news_of_block N12)
        have HS12 := Lib.hid (show (wc.alloc (.cells #[.int .i64 n0, .int .i64 x1, .int .i64 x2, .int .i64 x3, .int .i64 x4, .int .i64 x5, .int .i64 x6, .int .i64 x7, .string s] 63)).heap.size = wc.heap.size + 1 by simp)
        have hgrw : gr + 1 < wc.heap.size := G10.lt
        have HB12 := Lib.hid (show gr + 2 ≤ (wc.alloc (.cells #[.int .i64 n0, .int .i64 x1, .int .i64 x2, .int .i64 x3, .int .i64 x4, .int .i64 x5, .int .i64 x6, .int .i64 x7, .string s] 63)).heap.size by simp; omega)
        have HBB := Lib.hid (show Below gr w (wc.alloc (.cells #[.int .i64 n0, .int .i64 x1, .int .i64 x2, .int .i64 x3, .int .i64 x4, .int .i64 x5, .int .i64 x6, .int .i64 x7, .string s] 63)) from bel10.alloc (by omega) _)
        have R12 : RD (wc.alloc (.cells #[.int .i64 n0, .int .i64 x1, .int .i64 x2, .int .i64 x3, .int .i64 x4, .int .i64 x5, .int .i64 x6, .int .i64 x7, .string s] 63)) gr a10 0 := Blk.alloc R10 _
        have G12 := G10.alloc (.cells #[.int .i64 n0, .int .i64 x1, .int .i64 x2, .int .i64 x3, .int .i64 x4, .int .i64 x5, .int .i64 x6, .int .i64 x7, .string s] 63)
        have hrl : ∀ y ∈ (#[.int .i64 n0, .int .i64 x1, .int .i64 x2, .int .i64 x3, .int .i64 x4, .int .i64 x5, .int .i64 x6, .int .i64 x7, .string s] : Array Value).toList, y.oneCell' = true := by
          intro y hy
          simp at hy
          rcases hy with rfl | rfl | rfl | rfl | rfl | rfl | rfl | rfl | rfl <;> rfl
        clear HO11 N12 al12 G10 R10 bel10 g10
        go_wp2_with (first | (refine wpList_load_at rfl 63 _ rfl p 0 rfl #[.int .i64 n0, .int .i64 x1, .int .i64 x2, .int .i64 x3, .int .i64 x4, .int .i64 x5, .int .i64 x6, .int .i64 x7, .string s] _ (Cel.of_blk P10) Try.underlying63 rfl (szA _ _ _ _ _ _ _ _ _) ?_) | (at_builtin; refine wpList_append_lies _ rfl _ _ 82 rfl (gr + 2) 63 i0 (.agg #[.int .i64 0, .int .i64 0, .int .i64 0, .int .i64 0, .int .i64 0, .int .i64 0, .int .i64 0, .int .i64 0, .string ByteArray.empty]) 9 80 Try.underlying82 hi hz0 hz1 hz2 rfl (by decide) (.slice oa nv cv) nv (cellsR acts) rfl HO12.out ⟨wc.heap.size, 0, none⟩ 1 1 (#[.int .i64 n0, .int .i64 x1, .int .i64 x2, .int .i64 x3, .int .i64 x4, .int .i64 x5, .int .i64 x6, .int .i64 x7, .string s] : Array Value).toList rfl rfl HN12.out hrl (by omega) (by unfold maxLen; omega) (by omega) HB12.out (wc.heap.size + 1) HS12.out ?_; intro g13 c13 w13 own13 grow13 hat13 hlt13))
        have bel13 := HBB.out.grown grow13 (by have := HB12.out; omega) (fun k hk => by have := own_ge HO12.out k hk; omega)
        have hneg : ∀ k, k < gr + 2 → some k ≠ (Value.slice oa nv cv).ownBlock := fun k hk q => by have := own_ge HO12.out k q.symm; omega
        have R13 : RD w13 gr a10 0 := (grow13.block gr R12.lt (hneg gr (by omega))).trans R12
        have G13 : Blk w13 (gr + 1) 142 #[.pointer (some ⟨gr, 0, none⟩)] := (grow13.block (gr + 1) G12.lt (hneg (gr + 1) (by omega))).trans G12
        have hcs : (#[.int .i64 n0, .int .i64 x1, .int .i64 x2, .int .i64 x3, .int .i64 x4, .int .i64 x5, .int .i64 x6, .int .i64 x7, .string s] : Array Value) = (Rc.mk n0 n1 n2 n3 n4 n5 n6 n7 s).cells := by
          unfold Rc.cells
          obtain ⟨y1, y2, y3, y4, y5, y6, y7⟩ := HXS.out
          dsimp only
          rw [y1, y2, y3, y4, y5, y6, y7]
        have own14 : RowR w13 (gr + 2) (.slice (some ⟨g13, 0, none⟩) (nv + 1) c13) (acts ++ [(Rc.mk n0 n1 n2 n3 n4 n5 n6 n7 s)]) := by
          show w13.ownsRow (gr + 2) 63 9 _ (acts ++ [(Rc.mk n0 n1 n2 n3 n4 n5 n6 n7 s)]).length (cellsR (acts ++ [(Rc.mk n0 n1 n2 n3 n4 n5 n6 n7 s)]))
          rw [cellsR_snoc, List.length_append, HNV.out, ← hcs]
          exact own13
        have HR := Lib.hid (And.intro R13 (And.intro G13 own14))
        clear own13 grow13 hat13 hlt13 own14 R13 G13 hcs HO12 HN12 HS12 HB12 HBB R12 G12 hrl hneg P10 HXS
        go_roundw
        case rel => exact ⟨acts ++ [(Rc.mk n0 n1 n2 n3 n4 n5 n6 n7 s)], a10, f - 1, _, rfl, HPG2.out, HR.out.1, HR.out.2.1, HR.out.2.2, by simp [lenV, HNV.out], by simp [HNV.out]; have := HNV.out; omega, by omega, bel13⟩
        case measure => simp [lenV]; omega
      · have hpf := HPF.out
        rw [if_neg (by decide)] at hpf
        have hpg2 : pg 2500 S = none := by rw [HPG.out, hpf]; rfl
        have HPG2 := Lib.hid hpg2
        clear HNO HPF HNE HPG HO10 hpf hpg2
        go_wp2_with fail
        refine (err_any _ _ _ _ R10).mono ?_
        rintro e w11 ⟨rfl, rfl⟩
        go_wp2_with fail
        refine (err_any _ _ _ _ R10).mono ?_
        rintro e w11 ⟨rfl, rfl⟩
        go_wp2_with fail
        go_ret2
        exact ⟨.inr ⟨HPG2.out, rfl⟩, by rw [HGR.out]; exact bel10⟩
end Go.Proofs.Ytdocphkpeonldaa.tra
