/- Layer 32: a topology in memory; topo.Outer. -/
import Derived.Test.YthjhiogbnacmdaaToB
namespace Go.Proofs.Ythjhiogbnacmdaa.top
open Go.Sort (grow)
open Go.ChangeShapes Go.WideShapes Go.ChangeAt Go.RowKit kit
set_option maxRecDepth 100000

/-- The cells of so many hosts, by their places' rows. -/
def hoc (pv : Nat → Value) : Nat → List Value
  | 0 => []
  | n + 1 => hoc pv n ++ (hos (pv n)).toList
theorem hos_len (v : Value) : (hos v).toList.length = 3 := rfl
theorem hoc_len (pv : Nat → Value) : ∀ n, (hoc pv n).length = n * 3
  | 0 => rfl
  | n + 1 => by rw [hoc, List.length_append, hoc_len pv n, hos_len]; omega
theorem hoc_get (pv : Nat → Value) : ∀ {n i j : Nat}, i < n → j < 3 → (hoc pv n)[i * 3 + j]? = (hos (pv i))[j]?
  | 0, _, _, h, _ => by omega
  | n + 1, i, j, h, hj => by
    rw [hoc]
    by_cases hi : i < n
    · rw [List.getElem?_append_left (by rw [hoc_len]; omega), hoc_get pv hi hj]
    · obtain rfl : i = n := by omega
      rw [List.getElem?_append_right (by rw [hoc_len]; omega), hoc_len, show i * 3 + j - i * 3 = j by omega, Array.getElem?_toList]
/-- A topology: hosts, those between. -/
structure TM (w : World) (b0 : Nat) (vH vN : Value) (pv : Nat → Value) (hs : Nat → List (Int × Int)) (n : Nat) (ns : List (Int × Int)) : Prop where
  H : Qo w b0 3 vH n (hoc pv n)
  P : ∀ i, i < n → Qo w b0 2 (pv i) (hs i).length (cellsPl (hs i))
  N : Qo w b0 2 vN ns.length (cellsPl ns)
  n8 : n ≤ 8
  p6 : ∀ i, i < n → (hs i).length ≤ 6
  s6 : ns.length ≤ 6
section
variable {w w' : World} {b0 : Nat} {vH vN : Value} {pv : Nat → Value} {hs : Nat → List (Int × Int)} {n : Nat} {ns : List (Int × Int)}
theorem TM.below (h : TM w b0 vH vN pv hs n ns) {k : Nat} (hb : Below k w w') (hk : w.heap.size ≤ k) : TM w' b0 vH vN pv hs n ns :=
  ⟨h.H.below hb hk, fun i hi => (h.P i hi).below hb hk, h.N.below hb hk, h.n8, h.p6, h.s6⟩
theorem TM.alloc (h : TM w b0 vH vN pv hs n ns) (o : Obj) : TM (w.alloc o) b0 vH vN pv hs n ns := h.below ((Below.refl w.heap.size w).alloc (Nat.le_refl _) o) (Nat.le_refl _)
theorem TM.host (h : TM w b0 vH vN pv hs n ns) {i : Nat} (hi : i < n) : ∃ hh off cap, vH = .slice (some ⟨hh, off, none⟩) n cap ∧ Cel w hh (off + i * 3) (hos (pv i)) := by
  obtain ⟨hh, off, cap, hv, _, _, _, _, _, h6⟩ := h.H.show_ (by omega)
  exact ⟨hh, off, cap, hv, h6 i (hos (pv i)) hi (Nat.le_refl _) (fun j hj => (hoc_get pv hi (by exact hj)).symm)⟩
/-- A host's place. -/
theorem TM.place (h : TM w b0 vH vN pv hs n ns) {i k : Nat} {x : Int × Int} (hi : i < n) (hx : (hs i)[k]? = some x) : ∃ ph poff pcap, pv i = .slice (some ⟨ph, poff, none⟩) (hs i).length pcap ∧ Cel w ph (poff + k * 2) (pl x) := by
  have q := h.P i hi
  obtain ⟨oa, cap, hv, _, _⟩ := q.shape
  rw [hv] at q
  obtain ⟨ph, poff, rfl, _, _, C⟩ := row_at q rfl hx
  exact ⟨ph, poff, cap, hv, C⟩
theorem outer_out1 (h : TM w b0 vH vN pv hs n ns) (i k : Int) (hi : i < 0 ∨ (n : Int) ≤ i) : Calls Try.prog 20 #[.agg #[vH, vN], .int .i64 i, .int .i64 k] w fun e w' => e = .returned (.int .u32 0) ∧ Below w.heap.size w w' := by
  obtain ⟨oH, cH, hv, _, _⟩ := h.H.shape
  subst hv
  have T1 := Blk.new w 42 #[.slice oH n cH, vN]
  have bel1 := (Below.refl w.heap.size w).alloc (Nat.le_refl _) (.cells #[.slice oH n cH, vN] 42)
  go_enter Try.func20, Try.ntmps20
  go_upto_region 1 with fail
  obtain ⟨w1, hw1⟩ : ∃ w1, w.alloc (.cells #[.slice oH n cH, vN] 42) = w1 := ⟨_, rfl⟩
  rw [hw1] at T1 bel1
  try rw [hw1]
  clear hw1
  have t0 : w1.cell? ⟨w.heap.size, 0, none⟩ = some (.slice oH n cH) := T1.cell 0
  clear T1 h
  by_cases h0 : i < 0
  · go_wp2_with fail
    go_ret
    exact ⟨rfl, bel1⟩
  · have h1 : (n : Int) ≤ i := by omega
    go_wp2_with fail
    go_ret
    exact ⟨rfl, bel1⟩
set_option maxHeartbeats 1000000 in
theorem outer_out2 (h : TM w b0 vH vN pv hs n ns) (i : Nat) (k : Int) (hi : i < n) (hk : ((hs i).length : Int) ≤ k) : Calls Try.prog 20 #[.agg #[vH, vN], .int .i64 (i : Nat), .int .i64 k] w fun e w' => e = .returned (.int .u32 0) ∧ Below w.heap.size w w' := by
  have h1 := h.alloc (.cells #[vH, vN] 42)
  have T1 := Blk.new w 42 #[vH, vN]
  have bel1 := (Below.refl w.heap.size w).alloc (Nat.le_refl _) (.cells #[vH, vN] 42)
  obtain ⟨hh, off, cap, rfl, _⟩ := h.host hi
  go_enter Try.func20, Try.ntmps20
  go_upto_region 1 with fail
  obtain ⟨w1, hw1⟩ : ∃ w1, w.alloc (.cells #[.slice (some ⟨hh, off, none⟩) n cap, vN] 42) = w1 := ⟨_, rfl⟩
  rw [hw1] at T1 bel1 h1
  try rw [hw1]
  clear hw1
  obtain ⟨hh', off', cap', hv, C⟩ := h1.host hi
  injection hv with hv1 hv2 hv3
  injection hv1 with hv4
  injection hv4 with hv5 hv6
  subst hv5 hv6
  obtain ⟨oP, cP, hvp, _, _⟩ := (h1.P i hi).shape
  have t0 : w1.cell? ⟨w.heap.size, 0, none⟩ = some (.slice (some ⟨hh, off, none⟩) n cap) := T1.cell 0
  have c0 : w1.cell? ⟨hh, off + i * 3, none⟩ = some (.slice oP (hs i).length cP) := by rw [← hvp]; exact C.cell 0 rfl
  have hi0 : (0 : Int) ≤ (i : Int) := by omega
  have hi1 : (i : Int) < (n : Int) := by omega
  have hi2 : ¬ (n : Int) ≤ (i : Int) := by omega
  have hk0 : ¬ k < 0 := by omega
  clear T1 h h1 C hvp hv2 hv3
  go_wp2_with fail
  go_ret
  exact ⟨rfl, bel1⟩
/-- How a place is seen outside. -/
def outO (ns : List (Int × Int)) (x : Int × Int) : Int := if x.2 = -1 then x.1 else if x.2 < 0 then 0 else match ns[x.2.toNat]? with
  | some y => y.1
  | none => 0
set_option maxHeartbeats 2000000 in
theorem outer_in (h : TM w b0 vH vN pv hs n ns) (i k : Nat) (x : Int × Int) (hi : i < n) (hx : (hs i)[k]? = some x) : Calls Try.prog 20 #[.agg #[vH, vN], .int .i64 (i : Nat), .int .i64 (k : Nat)] w fun e w' => e = .returned (.int .u32 (outO ns x)) ∧ Below w.heap.size w w' := by
  obtain ⟨r, hr⟩ : ∃ r, outO ns x = r := ⟨_, rfl⟩
  rw [hr]
  have HRR := Lib.hid hr
  clear hr
  have hk : k < (hs i).length := (List.getElem?_eq_some_iff.1 hx).1
  have h1 := h.alloc (.cells #[vH, vN] 42)
  have T1 := Blk.new w 42 #[vH, vN]
  have bel1 := (Below.refl w.heap.size w).alloc (Nat.le_refl _) (.cells #[vH, vN] 42)
  obtain ⟨hh, off, cap, rfl, _⟩ := h.host hi
  obtain ⟨oN, cN, rfl, _, _⟩ := h.N.shape
  go_enter Try.func20, Try.ntmps20
  go_upto_region 1 with fail
  obtain ⟨w1, hw1⟩ : ∃ w1, w.alloc (.cells #[.slice (some ⟨hh, off, none⟩) n cap, .slice oN ns.length cN] 42) = w1 := ⟨_, rfl⟩
  rw [hw1] at T1 bel1 h1
  try rw [hw1]
  clear hw1
  obtain ⟨hh', off', cap', hv, C⟩ := h1.host hi
  injection hv with hv1 hv2 hv3
  injection hv1 with hv4
  injection hv4 with hv5 hv6
  subst hv5 hv6
  obtain ⟨ph, poff, pcap, hvp, CP⟩ := h1.place hi hx
  have t0 : w1.cell? ⟨w.heap.size, 0, none⟩ = some (.slice (some ⟨hh, off, none⟩) n cap) := T1.cell 0
  have c0 : w1.cell? ⟨hh, off + i * 3, none⟩ = some (.slice (some ⟨ph, poff, none⟩) (hs i).length pcap) := by rw [← hvp]; exact C.cell 0 rfl
  have hi0 : (0 : Int) ≤ (i : Int) := by omega
  have hi1 : (i : Int) < (n : Int) := by omega
  have hi2 : ¬ (n : Int) ≤ (i : Int) := by omega
  have hk0 : (0 : Int) ≤ (k : Int) := by omega
  have hk1 : (k : Int) < ((hs i).length : Int) := by omega
  have hk2 : ¬ ((hs i).length : Int) ≤ (k : Int) := by omega
  have htl := T1.lt
  clear h C hvp hv2 hv3 hx
  obtain ⟨x1, x2⟩ := x
  unfold pl at CP
  dsimp only at CP
  have szp := szPl (x1, x2)
  unfold pl at szp
  dsimp only at szp
  go_upto_region 4 with (refine wpList_load_at rfl 52 _ rfl ph (poff + k * 2) rfl #[.int .u32 x1, .int .i64 x2] _ CP Try.underlying52 rfl szp ?_)
  have P2 := Blk.new w1 52 #[.int .u32 x1, .int .i64 x2]
  have T2 := T1.alloc (.cells #[.int .u32 x1, .int .i64 x2] 52)
  have h2 := h1.alloc (.cells #[.int .u32 x1, .int .i64 x2] 52)
  have bel2 := bel1.alloc bel1.size (.cells #[.int .u32 x1, .int .i64 x2] 52)
  obtain ⟨w2, hw2⟩ : ∃ w2, w1.alloc (.cells #[.int .u32 x1, .int .i64 x2] 52) = w2 := ⟨_, rfl⟩
  rw [hw2] at P2 T2 h2 bel2
  try rw [hw2]
  clear hw2 t0 c0 CP szp T1 h1 bel1
  have p0 : w2.cell? ⟨w1.heap.size, 0, none⟩ = some (.int .u32 x1) := P2.cell 0
  have p1 : w2.cell? ⟨w1.heap.size, 1, none⟩ = some (.int .i64 x2) := P2.cell 1
  have t1 : w2.cell? ⟨w.heap.size, 1, none⟩ = some (.slice oN ns.length cN) := T2.cell 1
  clear P2 T2
  by_cases e1 : x2 = -1
  · subst e1
    have HY := Lib.hid (show r = x1 by rw [← HRR.out]; rfl)
    clear h2
    go_wp2_with fail
    go_ret
    exact ⟨ret_int HY.out.symm, bel2⟩
  · by_cases e2 : x2 < 0
    · have HY := Lib.hid (show r = 0 by rw [← HRR.out]; unfold outO; rw [if_neg e1, if_pos e2])
      clear h2
      go_wp2_with fail
      go_ret
      exact ⟨ret_int HY.out.symm, bel2⟩
    · obtain ⟨m, rfl⟩ : ∃ m : Nat, x2 = (m : Int) := ⟨x2.toNat, by omega⟩
      by_cases e3 : m < ns.length
      · obtain ⟨y, hy⟩ : ∃ y, ns[m]? = some y := ⟨_, List.getElem?_eq_getElem e3⟩
        have HY := Lib.hid (show r = y.1 by rw [← HRR.out]; unfold outO; rw [if_neg e1, if_neg e2]; simp only [Int.toNat_natCast, hy])
        obtain ⟨nh, noff, rfl, _, _, CN⟩ := row_at h2.N rfl hy
        have y0 : w2.cell? ⟨nh, noff + m * 2, none⟩ = some (.int .u32 y.1) := CN.cell 0 rfl
        have m0 : (0 : Int) ≤ (m : Int) := by omega
        have m1 : (m : Int) < (ns.length : Int) := by omega
        have m2 : ¬ (ns.length : Int) ≤ (m : Int) := by omega
        clear h2 CN hy
        go_wp2_with fail
        go_ret
        exact ⟨ret_int HY.out.symm, bel2⟩
      · have HY := Lib.hid (show r = 0 by rw [← HRR.out]; unfold outO; rw [if_neg e1, if_neg e2]; simp only [Int.toNat_natCast, List.getElem?_eq_none (show ns.length ≤ m by omega)])
        have m2 : (ns.length : Int) ≤ (m : Int) := by omega
        clear h2
        go_wp2_with fail
        go_ret
        exact ⟨ret_int HY.out.symm, bel2⟩
end
end Go.Proofs.Ythjhiogbnacmdaa.top
