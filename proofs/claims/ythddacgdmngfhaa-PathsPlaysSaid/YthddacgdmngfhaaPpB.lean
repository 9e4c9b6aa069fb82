/- Layer 15: what is read of paths, whatever they are (gen-ppb.py wrote this). -/
import Derived.Test.YthddacgdmngfhaaPpA
import Derived.Test.YthddacgdmngfhaaKitV
namespace Go.Proofs.Ythddacgdmngfhaa.pat
open Go.Sort (grow)
open Go.ChangeShapes Go.WideShapes Go.ChangeAt Go.RowKit kit
set_option maxRecDepth 100000

/-- Paths in memory: a list, and which one is the first. -/
structure Pw (b0 g : Nat) (L : List Px) (f : Nat) (v : Value) (w : World) : Prop where
  B : Blk w g 214 #[v, .int .i64 (f : Nat)]
  q : Qo w b0 15 v L.length (cellsX L)
  hg : b0 ≤ g
  hn : blkOf v ≠ some g
section
variable {b0 g f : Nat} {L : List Px} {v : Value} {w w' : World}
theorem Pw.below (h : Pw b0 g L f v w) {k : Nat} (hb : Below k w w') (hk : w.heap.size ≤ k) : Pw b0 g L f v w' := ⟨h.B.below hb (Nat.lt_of_lt_of_le h.B.lt hk), h.q.below hb hk, h.hg, h.hn⟩
theorem Pw.alloc (h : Pw b0 g L f v w) (o : Obj) : Pw b0 g L f v (w.alloc o) := h.below ((Below.refl w.heap.size w).alloc (Nat.le_refl _) o) (Nat.le_refl _)
theorem Pw.drew (h : Pw b0 g L f v w) : Pw b0 g L f v w.drew := ⟨h.B, h.q.drew, h.hg, h.hn⟩
/-- A path at a place. -/
theorem row_at {n cap : Nat} {oa : Option Addr} {i : Nat} {x : Px} (q : Qo w b0 15 (.slice oa n cap) n (cellsX L)) (hn : L.length = n) (hx : L[i]? = some x) : ∃ h off, oa = some ⟨h, off, none⟩ ∧ h < w.heap.size ∧ b0 ≤ h ∧ blkOf (.slice oa n cap) = some h ∧ Cel w h (off + i * 15) (px x) := by
  have hi : i < L.length := (List.getElem?_eq_some_iff.1 hx).1
  obtain ⟨gn, no, cap', e, h1, h2, h3, h4, h5, h6⟩ := q.show_ (by omega)
  simp only [Value.slice.injEq, true_and] at e
  obtain ⟨rfl, rfl⟩ := e
  exact ⟨gn, no, rfl, h4, h3, h5, h6 i (px x) (by omega) (Nat.le_refl 15) (cellsX_get hx)⟩
theorem many_g (h : Pw b0 g L f v w) : Calls Try.prog 114 #[.pointer (some ⟨g, 0, none⟩)] w fun e w' => e = .returned (.int .i64 (L.length : Nat)) ∧ w' = w := by
  obtain ⟨oa, cap, rfl, _, _⟩ := h.q.shape
  have c0 : w.cell? ⟨g, 0, none⟩ = some (.slice oa L.length cap) := h.B.cell 0
  go_enter Try.func114, Try.ntmps114
  go_wp2
  go_ret
  exact ⟨rfl, rfl⟩
theorem has_in (h : Pw b0 g L f v w) (k : Nat) (hk : k < L.length) : Calls Try.prog 119 #[.pointer (some ⟨g, 0, none⟩), .int .i64 (k : Nat)] w fun e w' => e = .returned (.bool true) ∧ w' = w := by
  have hk2 : (k : Int) < (L.length : Int) := by omega
  go_enter Try.func119, Try.ntmps119
  go_wp2_with fail
  refine (many_g h).mono ?_
  rintro e w1 ⟨rfl, hw⟩
  obtain rfl : w = w1 := hw.symm
  go_wp2
  go_ret
  exact ⟨rfl, rfl⟩
theorem has_out (h : Pw b0 g L f v w) (k : Int) (hk : k < 0 ∨ (L.length : Int) ≤ k) : Calls Try.prog 119 #[.pointer (some ⟨g, 0, none⟩), .int .i64 k] w fun e w' => e = .returned (.bool false) ∧ w' = w := by
  by_cases h0 : k < 0
  · have h1 : ¬ 0 ≤ k := by omega
    go_enter Try.func119, Try.ntmps119
    go_wp2_with fail
    go_ret
    exact ⟨rfl, rfl⟩
  · have h1 : 0 ≤ k := by omega
    have h2 : ¬ k < (L.length : Int) := by omega
    go_enter Try.func119, Try.ntmps119
    go_wp2_with fail
    refine (many_g h).mono ?_
    rintro e w1 ⟨rfl, hw⟩
    obtain rfl : w = w1 := hw.symm
    go_wp2
    go_ret
    exact ⟨ret_bool (decide_eq_false (by omega)), rfl⟩
theorem first_g (h : Pw b0 g L f v w) (hL : 0 < L.length) : Calls Try.prog 122 #[.pointer (some ⟨g, 0, none⟩)] w fun e w' => e = .returned (.int .i64 (f : Nat)) ∧ w' = w := by
  have c1 : w.cell? ⟨g, 1, none⟩ = some (.int .i64 (f : Nat)) := h.B.cell 1
  have hz : ((L.length : Int) == 0) = false := beq_eq_false_iff_ne.2 (by omega)
  go_enter Try.func122, Try.ntmps122
  go_wp2_with fail
  refine (many_g h).mono ?_
  rintro e w1 ⟨rfl, hw⟩
  obtain rfl : w = w1 := hw.symm
  go_wp2
  go_ret
  exact ⟨rfl, rfl⟩
theorem at_in (h : Pw b0 g L f v w) {k : Nat} {x : Px} (hx : L[k]? = some x) : Calls Try.prog 111 #[.pointer (some ⟨g, 0, none⟩), .int .i64 (k : Nat)] w fun e w' => e = .returned (.agg (px x)) ∧ Below w.heap.size w w' := by
  have hk : k < L.length := (List.getElem?_eq_some_iff.1 hx).1
  have hk2 : (k : Int) < (L.length : Int) := by omega
  obtain ⟨oa, cap, rfl, _, _⟩ := h.q.shape
  go_enter Try.func111, Try.ntmps111
  go_wp2_with fail
  refine (has_in (h.alloc _) k hk).mono ?_
  rintro e w1 ⟨rfl, hw⟩
  obtain rfl := hw
  have R1 := Blk.new w 113 pz
  have h1 := h.alloc (.cells pz 113)
  obtain ⟨hh, off, rfl, _, _, _, X1⟩ := row_at h1.q rfl hx
  have bel := (Below.refl w.heap.size w).alloc (Nat.le_refl _) (.cells pz 113)
  rw [show w.alloc (.cells #[.int .u32 0, .int .u32 0, .int .i64 0, .int .i64 0, .int .i64 0, .int .i64 0, .int .i64 0, .bool false, .int .i64 0, .int .i64 0, .int .i64 0, .int .i64 0, .int .i64 0, .int .u32 0, .int .i64 0] 113) = w.alloc (.cells pz 113) from rfl]
  have c0 : (w.alloc (.cells pz 113)).cell? ⟨g, 0, none⟩ = some (.slice (some ⟨hh, off, none⟩) L.length cap) := h1.B.cell 0
  clear h h1
  generalize w.alloc (.cells pz 113) = w1 at *
  go_wp2_with (first | (refine wpList_load_at rfl 113 _ rfl hh (off + k * 15) rfl (px x) _ X1 Try.underlying113 rfl szP ?_) | (refine wpList_store_row rfl 113 _ _ rfl _ _ rfl rfl _ _ R1 szP rfl (oneP x.a x.b x.s) ?_))
  exact bodyPost_ret (v := .agg (px x)) (results_cell_row rfl _ _ w.heap.size 113 (px x) (0, 0) _ rfl (setRow_heap _ _ _ _ _ _ R1) Try.underlying113 rfl szP) rfl ⟨rfl, below_setRow bel (Nat.le_refl _) _⟩
theorem at_out (h : Pw b0 g L f v w) (k : Int) (hk : k < 0 ∨ (L.length : Int) ≤ k) : Calls Try.prog 111 #[.pointer (some ⟨g, 0, none⟩), .int .i64 k] w fun e w' => e = .returned (.agg pz) ∧ Below w.heap.size w w' := by
  go_enter Try.func111, Try.ntmps111
  go_wp2_with fail
  refine (has_out (h.alloc _) k hk).mono ?_
  rintro e w1 ⟨rfl, hw⟩
  obtain rfl := hw
  have R1 := Blk.new w 113 pz
  have bel := (Below.refl w.heap.size w).alloc (Nat.le_refl _) (.cells pz 113)
  rw [show w.alloc (.cells #[.int .u32 0, .int .u32 0, .int .i64 0, .int .i64 0, .int .i64 0, .int .i64 0, .int .i64 0, .bool false, .int .i64 0, .int .i64 0, .int .i64 0, .int .i64 0, .int .i64 0, .int .u32 0, .int .i64 0] 113) = w.alloc (.cells pz 113) from rfl]
  clear h
  generalize w.alloc (.cells pz 113) = w1 at *
  go_wp2_with (refine wpList_store_row rfl 113 _ _ rfl _ _ rfl rfl _ _ R1 szP rfl onePz ?_)
  exact bodyPost_ret (v := .agg pz) (results_cell_row rfl _ _ w.heap.size 113 pz (0, 0) _ rfl (setRow_heap _ _ _ _ _ _ R1) Try.underlying113 rfl szP) rfl ⟨rfl, below_setRow bel (Nat.le_refl _) _⟩
theorem next_g (h : Pw b0 g L f v w) (n : Nat) (hn : n < L.length) (hl : L.length ≤ 1000) (st : Int) : Calls Try.prog 164 #[.pointer (some ⟨g, 0, none⟩), .int .i64 (n : Nat), .int .i64 st] w fun e w' => e = .returned (.int .i64 (nxtO L n st)) ∧ w' = w := by
  obtain ⟨oa, cap, rfl, _, _⟩ := h.q.shape
  have c0 : w.cell? ⟨g, 0, none⟩ = some (.slice oa L.length cap) := h.B.cell 0
  have HP := Lib.hid h
  go_enter Try.func164, Try.ntmps164
  go_wp2_with fail
  go_loopw [7] (fun s7 wr => ∃ t : Nat, s7 = .int .i64 (t : Nat) ∧ 1 ≤ t ∧ (t ≤ L.length ∨ t = 1) ∧ (∀ j, 1 ≤ j → j < t → stAt L ((n + j) % L.length) ≠ st) ∧ wr = w) (fun s7 _ => L.length + 1 - (intOf s7).toNat)
  case atStart => exact ⟨1, rfl, Nat.le_refl _, .inr rfl, fun j h1 h2 => by omega, rfl⟩
  case round =>
    obtain ⟨t, rfl, h1, h2, hno, hwr⟩ := hrel
    obtain rfl : w = wr := hwr.symm
    go_wp2_with fail
    refine (many_g HP.out).mono ?_
    rintro e w1 ⟨rfl, hw⟩
    obtain rfl : w = w1 := hw.symm
    by_cases hlt : t < L.length
    · have hti : (t : Int) < (L.length : Int) := by omega
      obtain ⟨k, hk⟩ : ∃ k, (n + t) % L.length = k := ⟨_, rfl⟩
      have hkl : k < L.length := by rw [← hk]; exact Nat.mod_lt _ (by omega)
      have hm1 : ((n : Int) + (t : Int)).tmod (L.length : Int) = (k : Int) := by rw [← hk, ← Int.natCast_add, ← Int.ofNat_tmod]
      have hm2 : ((n : Int) + (t : Int)) % (L.length : Int) = (k : Int) := by rw [← hk, Int.natCast_emod, Int.natCast_add]
      obtain ⟨x, hx⟩ : ∃ x, L[k]? = some x := ⟨_, List.getElem?_eq_getElem hkl⟩
      obtain ⟨hh, off, rfl, _, _, _, X⟩ := row_at HP.out.q rfl hx
      have x2 : w.cell? ⟨hh, off + k * 15 + 2, none⟩ = some (.int .i64 x.s) := X.cell 2 (u := .int .i64 x.s) rfl
      have hst := stAt_of hx
      have hk0 : (0 : Int) ≤ (k : Int) := by omega
      have hk1 : (k : Int) < (L.length : Int) := by omega
      have hne : ¬ (L.length : Int) = 0 := by omega
      by_cases hs : x.s = st
      · have hres := nxtO_hit h1 hlt (by rw [hk, hst, hs]) hno
        rw [hk] at hres
        have HX := Lib.hid hres
        clear hres hno hst X hx
        go_wp2_with fail
        go_ret
        exact ⟨ret_int HX.out.symm, rfl⟩
      · have HX := Lib.hid (And.intro hno (And.intro hst hk))
        clear hno hst X hx hk
        go_wp2_with fail
        go_roundw
        case rel => exact ⟨t + 1, by go_num, by omega, .inl (by omega), fun j a b => by
          by_cases e : j = t
          · subst e; rw [HX.out.2.2, HX.out.2.1]; exact hs
          · exact HX.out.1 j a (by omega), trivial⟩
        case measure => simp [intOf]; omega
    · have hti : ¬ (t : Int) < (L.length : Int) := by omega
      have hres := nxtO_none (L := L) (n := n) (st := st) (fun j a b => hno j a (by omega))
      have HX := Lib.hid hres
      clear hres hno
      go_wp2_with fail
      go_ret
      exact ⟨ret_int HX.out.symm, rfl⟩
theorem use_g (h : Pw b0 g L f v w) (hf : f < L.length) (hl : L.length ≤ 1000) : Calls Try.prog 112 #[.pointer (some ⟨g, 0, none⟩)] w fun e w' => e = .returned (.int .i64 (useO L f)) ∧ Below w.heap.size w w' := by
  obtain ⟨x, hx⟩ : ∃ x, L[f]? = some x := ⟨_, List.getElem?_eq_getElem hf⟩
  have hst := stAt_of hx
  go_enter Try.func112, Try.ntmps112
  go_wp2_with fail
  refine (first_g h (by omega)).mono ?_
  rintro e w1 ⟨rfl, hw⟩
  obtain rfl : w = w1 := hw.symm
  go_wp2_with fail
  refine (at_in h hx).mono ?_
  rintro e w1 ⟨rfl, hb1⟩
  have P1 := h.below hb1 (Nat.le_refl _)
  have hfld : ∀ W, (Instr.field 113 (.agg (px x)) 2).run Try.prog W = .ok (.int .i64 x.s) W := fun W => by kernel_rfl
  have HX := Lib.hid (And.intro hst hb1)
  clear h hst hb1 hx
  by_cases hs : x.s = 2 <;> have HS := Lib.hid hs
  · go_wp2_with fail
    refine (next_g P1 f hf hl 1).mono ?_
    rintro e w2 ⟨rfl, hw⟩
    obtain rfl : w1 = w2 := hw.symm
    obtain ⟨n1, hn1⟩ : ∃ n1, nxtO L f 1 = n1 := ⟨_, rfl⟩
    have H1 := Lib.hid hn1
    rw [hn1]
    clear hn1
    by_cases h1 : 0 ≤ n1 <;> have HH1 := Lib.hid h1
    · go_wp2_with fail
      go_ret
      refine ⟨ret_int ?_, HX.out.2⟩
      unfold useO
      rw [HX.out.1, HS.out, if_neg (by simp), H1.out, if_pos (by have := HH1.out; omega)]
    · go_wp2_with fail
      refine (next_g P1 f hf hl 0).mono ?_
      rintro e w2 ⟨rfl, hw⟩
      obtain rfl : w1 = w2 := hw.symm
      obtain ⟨n0, hn0⟩ : ∃ n0, nxtO L f 0 = n0 := ⟨_, rfl⟩
      have H0 := Lib.hid hn0
      rw [hn0]
      clear hn0
      by_cases h0 : 0 ≤ n0 <;> have HH0 := Lib.hid h0
      · go_wp2_with fail
        go_ret
        refine ⟨ret_int ?_, HX.out.2⟩
        unfold useO
        rw [HX.out.1, HS.out, if_neg (by simp), H1.out, if_neg (by have := HH1.out; omega), H0.out, if_pos (by have := HH0.out; omega)]
      · go_wp2_with fail
        go_ret
        refine ⟨ret_int ?_, HX.out.2⟩
        unfold useO
        rw [HX.out.1, HS.out, if_neg (by simp), H1.out, if_neg (by have := HH1.out; omega), H0.out, if_neg (by have := HH0.out; omega)]
  · go_wp2_with fail
    go_ret
    refine ⟨ret_int ?_, HX.out.2⟩
    unfold useO
    rw [HX.out.1, if_pos (by have := HS.out; omega)]
theorem other_g (h : Pw b0 g L f v w) (n : Nat) (hn : n < L.length) (hl : L.length ≤ 1000) : Calls Try.prog 125 #[.pointer (some ⟨g, 0, none⟩), .int .i64 (n : Nat)] w fun e w' => e = .returned (.int .i64 (othO L n)) ∧ w' = w := by
  go_enter Try.func125, Try.ntmps125
  go_wp2_with fail
  refine (has_in h n hn).mono ?_
  rintro e w1 ⟨rfl, hw⟩
  obtain rfl : w = w1 := hw.symm
  go_wp2_with fail
  refine (next_g h n hn hl 1).mono ?_
  rintro e w1 ⟨rfl, hw⟩
  obtain rfl : w = w1 := hw.symm
  obtain ⟨n1, hn1⟩ : ∃ n1, nxtO L n 1 = n1 := ⟨_, rfl⟩
  have H1 := Lib.hid hn1
  rw [hn1]
  clear hn1
  by_cases h1 : 0 ≤ n1 <;> have HH1 := Lib.hid h1
  · go_wp2_with fail
    go_ret
    refine ⟨ret_int ?_, rfl⟩
    unfold othO
    rw [H1.out, if_pos (by have := HH1.out; omega)]
  · go_wp2_with fail
    go_ret
    refine ⟨ret_int ?_, rfl⟩
    unfold othO
    rw [H1.out, if_neg (by have := HH1.out; omega)]

theorem clg_find (x : Px) (a b : Int) (p q : Nat) (W : World) (P : Blk W p 109 #[.int .u32 a]) (Q : Blk W q 109 #[.int .u32 b]) : Calls Try.prog 166 #[.agg (px x), .pointer (some ⟨p, 0, none⟩), .pointer (some ⟨q, 0, none⟩)] W fun e w' => e = .returned (.bool (decide (x.a = a) && decide (x.b = b))) ∧ Below W.heap.size W w' := by
  have P1 := P.alloc (.cells (px x) 113)
  have Q1 := Q.alloc (.cells (px x) 113)
  have X1 := Blk.new W 113 (px x)
  have bel := (Below.refl W.heap.size W).alloc (Nat.le_refl _) (.cells (px x) 113)
  go_enter Try.func166, Try.ntmps166
  go_upto_region 1 with fail
  obtain ⟨w1, hw1⟩ : ∃ w1, W.alloc (.cells (px x) 113) = w1 := ⟨_, rfl⟩
  rw [hw1] at P1 Q1 X1 bel
  try rw [hw1]
  clear hw1
  have p0 : w1.cell? ⟨p, 0, none⟩ = some (.int .u32 a) := P1.cell 0
  have q0 : w1.cell? ⟨q, 0, none⟩ = some (.int .u32 b) := Q1.cell 0
  have x0 : w1.cell? ⟨W.heap.size, 0, none⟩ = some (.int .u32 x.a) := X1.cell 0
  have x1 : w1.cell? ⟨W.heap.size, 1, none⟩ = some (.int .u32 x.b) := X1.cell 1
  clear P1 Q1 P Q X1
  by_cases h1 : x.a = a
  · by_cases h2 : x.b = b
    · go_wp2_with fail
      go_ret
      exact ⟨by simp [h1, h2], bel⟩
    · go_wp2_with fail
      go_ret
      exact ⟨by simp [h1, h2], bel⟩
  · go_wp2_with fail
    go_ret
    exact ⟨by simp [h1], bel⟩
theorem clg_peer (x : Px) (b : Int) (p : Nat) (W : World) (P : Blk W p 109 #[.int .u32 b]) : Calls Try.prog 168 #[.agg (px x), .pointer (some ⟨p, 0, none⟩)] W fun e w' => e = .returned (.bool (decide (x.b = b))) ∧ Below W.heap.size W w' := by
  have P1 := P.alloc (.cells (px x) 113)
  have X1 := Blk.new W 113 (px x)
  have bel := (Below.refl W.heap.size W).alloc (Nat.le_refl _) (.cells (px x) 113)
  go_enter Try.func168, Try.ntmps168
  go_upto_region 1 with fail
  obtain ⟨w1, hw1⟩ : ∃ w1, W.alloc (.cells (px x) 113) = w1 := ⟨_, rfl⟩
  rw [hw1] at P1 X1 bel
  try rw [hw1]
  clear hw1
  have p0 : w1.cell? ⟨p, 0, none⟩ = some (.int .u32 b) := P1.cell 0
  have x1 : w1.cell? ⟨W.heap.size, 1, none⟩ = some (.int .u32 x.b) := X1.cell 1
  clear P1 P X1
  by_cases h2 : x.b = b
  · go_wp2_with fail
    go_ret
    exact ⟨by simp [h2], bel⟩
  · go_wp2_with fail
    go_ret
    exact ⟨by simp [h2], bel⟩
theorem clg_alive (x : Px) (W : World) : Calls Try.prog 169 #[.agg (px x)] W fun e w' => e = .returned (.bool (!decide (x.s = 2))) ∧ Below W.heap.size W w' := by
  have X1 := Blk.new W 113 (px x)
  have bel := (Below.refl W.heap.size W).alloc (Nat.le_refl _) (.cells (px x) 113)
  go_enter Try.func169, Try.ntmps169
  go_upto_region 1 with fail
  obtain ⟨w1, hw1⟩ : ∃ w1, W.alloc (.cells (px x) 113) = w1 := ⟨_, rfl⟩
  rw [hw1] at X1 bel
  try rw [hw1]
  clear hw1
  have x2 : w1.cell? ⟨W.heap.size, 2, none⟩ = some (.int .i64 x.s) := X1.cell 2
  clear X1
  by_cases h2 : x.s = 2
  · go_wp2_with fail
    go_ret
    exact ⟨by simp [h2], bel⟩
  · go_wp2_with fail
    go_ret
    exact ⟨by simp [h2], bel⟩

theorem ix_find (h : Qo w b0 15 v L.length (cellsX L)) (hl : L.length ≤ 1000) (a b : Int) (pc qc : Nat) (hP : Blk w pc 109 #[.int .u32 a]) (hQ : Blk w qc 109 #[.int .u32 b]) : Calls Try.prog 182 #[v, .func (.func 166) #[] #[.pointer (some ⟨pc, 0, none⟩), .pointer (some ⟨qc, 0, none⟩)]] w fun e w' => e = .returned (.int .i64 (idx (fun x => decide (x.a = a) && decide (x.b = b)) L)) ∧ Below w.heap.size w w' := by
  obtain ⟨oa, cap, rfl, _, _⟩ := h.shape
  obtain ⟨B0, hB0⟩ : ∃ B0, w.heap.size = B0 := ⟨_, rfl⟩
  have HB0 := Lib.hid hB0
  go_enter Try.func182, Try.ntmps182
  go_wp2_with fail
  go_loopw [8] (fun s8 wr => ∃ i : Nat, s8 = .int .i64 (i : Nat) ∧ i ≤ L.length ∧ (∀ (j : Nat) x, j < i → L[j]? = some x → (decide (x.a = a) && decide (x.b = b)) = false) ∧ Qo wr b0 15 (.slice oa L.length cap) L.length (cellsX L) ∧ Below B0 w wr ∧ Blk wr pc 109 #[.int .u32 a] ∧ Blk wr qc 109 #[.int .u32 b]) (fun s8 _ => L.length - (intOf s8).toNat)
  case atStart => exact ⟨0, rfl, Nat.zero_le _, fun j x hj => absurd hj (Nat.not_lt_zero j), h, Below.refl _ _, hP, hQ⟩
  case round =>
    clear h hP hQ
    obtain ⟨i, rfl, hi, hno, q, bel, hPr, hQr⟩ := hrel
    by_cases hlt : i < L.length
    · have hii : (i : Int) < (L.length : Int) := by omega
      have hi0 : (0 : Int) ≤ (i : Int) := by omega
      obtain ⟨x, hx⟩ : ∃ x, L[i]? = some x := ⟨_, List.getElem?_eq_getElem hlt⟩
      obtain ⟨hh, off, rfl, _, _, _, X⟩ := row_at q rfl hx
      have HX := Lib.hid (And.intro hx hno)
      clear hx hno
      go_wp2_with (refine wpList_load_at rfl 113 _ rfl hh (off + i * 15) rfl (px x) _ X Try.underlying113 rfl szP ?_)
      refine (clg_find x a b pc qc wr hPr hQr).mono ?_
      rintro e w3 ⟨he, hb3⟩
      have q3 := q.below hb3 (Nat.le_refl _)
      have bel3 := bel.trans (hb3.mono (by have := bel.size; omega))
      rcases hp : (decide (x.a = a) && decide (x.b = b)) with _ | _
      · rw [hp] at he
        subst he
        have HR := Lib.hid (And.intro q3 (And.intro bel3 hp))
        have hP3 := hPr.below hb3 hPr.lt
        have hQ3 := hQr.below hb3 hQr.lt
        clear q X bel hb3 q3 bel3 hp hPr hQr
        go_wp2_with fail
        go_roundw
        case rel => exact ⟨i + 1, by go_num, by omega, fun j y hj hy => by
          by_cases e : j = i
          · subst e
            have : y = x := by have := HX.out.1; rw [hy] at this; exact Option.some.inj this
            rw [this]; exact HR.out.2.2
          · exact HX.out.2 j y (by omega) hy, HR.out.1, HR.out.2.1, hP3, hQ3⟩
        case measure => simp [intOf]; omega
      · rw [hp] at he
        subst he
        have hres : idx (fun x => decide (x.a = a) && decide (x.b = b)) L = (i : Int) := idx_hit HX.out.1 hp HX.out.2
        have HR := Lib.hid (And.intro hres bel3)
        clear q X bel hb3 q3 bel3 hp hres hPr hQr
        go_wp2_with fail
        go_ret
        exact ⟨ret_int HR.out.1.symm, by rw [HB0.out]; exact HR.out.2⟩
    · obtain rfl : i = L.length := by omega
      have hres : idx (fun x => decide (x.a = a) && decide (x.b = b)) L = -1 := idx_never hno
      have HR := Lib.hid (And.intro hres bel)
      clear q bel hno hres hPr hQr
      go_wp2_with fail
      go_ret
      exact ⟨ret_int HR.out.1.symm, by rw [HB0.out]; exact HR.out.2⟩
theorem fd_find (h : Pw b0 g L f v w) (hl : L.length ≤ 1000) (a b : Int) (pc qc : Nat) (hP : Blk w pc 109 #[.int .u32 a]) (hQ : Blk w qc 109 #[.int .u32 b]) : Calls Try.prog 165 #[.pointer (some ⟨g, 0, none⟩), .func (.func 166) #[] #[.pointer (some ⟨pc, 0, none⟩), .pointer (some ⟨qc, 0, none⟩)]] w fun e w' => e = .returned (.int .i64 (idx (fun x => decide (x.a = a) && decide (x.b = b)) L)) ∧ Below w.heap.size w w' := by
  have c0 : w.cell? ⟨g, 0, none⟩ = some v := h.B.cell 0
  obtain ⟨oa, cap, hv, _, _⟩ := h.q.shape
  have q := h.q
  clear h
  subst hv
  go_enter Try.func165, Try.ntmps165
  go_wp2_with fail
  refine (ix_find q hl a b pc qc hP hQ).mono ?_
  rintro e w1 ⟨rfl, hb⟩
  go_wp2_with fail
  go_ret
  exact ⟨rfl, hb⟩

theorem ix_peer (h : Qo w b0 15 v L.length (cellsX L)) (hl : L.length ≤ 1000) (b : Int) (pc : Nat) (hP : Blk w pc 109 #[.int .u32 b]) : Calls Try.prog 182 #[v, .func (.func 168) #[] #[.pointer (some ⟨pc, 0, none⟩)]] w fun e w' => e = .returned (.int .i64 (idx (fun x => decide (x.b = b)) L)) ∧ Below w.heap.size w w' := by
  obtain ⟨oa, cap, rfl, _, _⟩ := h.shape
  obtain ⟨B0, hB0⟩ : ∃ B0, w.heap.size = B0 := ⟨_, rfl⟩
  have HB0 := Lib.hid hB0
  go_enter Try.func182, Try.ntmps182
  go_wp2_with fail
  go_loopw [8] (fun s8 wr => ∃ i : Nat, s8 = .int .i64 (i : Nat) ∧ i ≤ L.length ∧ (∀ (j : Nat) x, j < i → L[j]? = some x → (decide (x.b = b)) = false) ∧ Qo wr b0 15 (.slice oa L.length cap) L.length (cellsX L) ∧ Below B0 w wr ∧ Blk wr pc 109 #[.int .u32 b]) (fun s8 _ => L.length - (intOf s8).toNat)
  case atStart => exact ⟨0, rfl, Nat.zero_le _, fun j x hj => absurd hj (Nat.not_lt_zero j), h, Below.refl _ _, hP⟩
  case round =>
    clear h hP
    obtain ⟨i, rfl, hi, hno, q, bel, hPr⟩ := hrel
    by_cases hlt : i < L.length
    · have hii : (i : Int) < (L.length : Int) := by omega
      have hi0 : (0 : Int) ≤ (i : Int) := by omega
      obtain ⟨x, hx⟩ : ∃ x, L[i]? = some x := ⟨_, List.getElem?_eq_getElem hlt⟩
      obtain ⟨hh, off, rfl, _, _, _, X⟩ := row_at q rfl hx
      have HX := Lib.hid (And.intro hx hno)
      clear hx hno
      go_wp2_with (refine wpList_load_at rfl 113 _ rfl hh (off + i * 15) rfl (px x) _ X Try.underlying113 rfl szP ?_)
      refine (clg_peer x b pc wr hPr).mono ?_
      rintro e w3 ⟨he, hb3⟩
      have q3 := q.below hb3 (Nat.le_refl _)
      have bel3 := bel.trans (hb3.mono (by have := bel.size; omega))
      rcases hp : (decide (x.b = b)) with _ | _
      · rw [hp] at he
        subst he
        have HR := Lib.hid (And.intro q3 (And.intro bel3 hp))
        have hP3 := hPr.below hb3 hPr.lt
        clear q X bel hb3 q3 bel3 hp hPr
        go_wp2_with fail
        go_roundw
        case rel => exact ⟨i + 1, by go_num, by omega, fun j y hj hy => by
          by_cases e : j = i
          · subst e
            have : y = x := by have := HX.out.1; rw [hy] at this; exact Option.some.inj this
            rw [this]; exact HR.out.2.2
          · exact HX.out.2 j y (by omega) hy, HR.out.1, HR.out.2.1, hP3⟩
        case measure => simp [intOf]; omega
      · rw [hp] at he
        subst he
        have hres : idx (fun x => decide (x.b = b)) L = (i : Int) := idx_hit HX.out.1 hp HX.out.2
        have HR := Lib.hid (And.intro hres bel3)
        clear q X bel hb3 q3 bel3 hp hres hPr
        go_wp2_with fail
        go_ret
        exact ⟨ret_int HR.out.1.symm, by rw [HB0.out]; exact HR.out.2⟩
    · obtain rfl : i = L.length := by omega
      have hres : idx (fun x => decide (x.b = b)) L = -1 := idx_never hno
      have HR := Lib.hid (And.intro hres bel)
      clear q bel hno hres hPr
      go_wp2_with fail
      go_ret
      exact ⟨ret_int HR.out.1.symm, by rw [HB0.out]; exact HR.out.2⟩
theorem fd_peer (h : Pw b0 g L f v w) (hl : L.length ≤ 1000) (b : Int) (pc : Nat) (hP : Blk w pc 109 #[.int .u32 b]) : Calls Try.prog 165 #[.pointer (some ⟨g, 0, none⟩), .func (.func 168) #[] #[.pointer (some ⟨pc, 0, none⟩)]] w fun e w' => e = .returned (.int .i64 (idx (fun x => decide (x.b = b)) L)) ∧ Below w.heap.size w w' := by
  have c0 : w.cell? ⟨g, 0, none⟩ = some v := h.B.cell 0
  obtain ⟨oa, cap, hv, _, _⟩ := h.q.shape
  have q := h.q
  clear h
  subst hv
  go_enter Try.func165, Try.ntmps165
  go_wp2_with fail
  refine (ix_peer q hl b pc hP).mono ?_
  rintro e w1 ⟨rfl, hb⟩
  go_wp2_with fail
  go_ret
  exact ⟨rfl, hb⟩

theorem ix_alive (h : Qo w b0 15 v L.length (cellsX L)) (hl : L.length ≤ 1000)   : Calls Try.prog 182 #[v, .func (.func 169) #[] #[]] w fun e w' => e = .returned (.int .i64 (idx (fun x => !decide (x.s = 2)) L)) ∧ Below w.heap.size w w' := by
  obtain ⟨oa, cap, rfl, _, _⟩ := h.shape
  obtain ⟨B0, hB0⟩ : ∃ B0, w.heap.size = B0 := ⟨_, rfl⟩
  have HB0 := Lib.hid hB0
  go_enter Try.func182, Try.ntmps182
  go_wp2_with fail
  go_loopw [8] (fun s8 wr => ∃ i : Nat, s8 = .int .i64 (i : Nat) ∧ i ≤ L.length ∧ (∀ (j : Nat) x, j < i → L[j]? = some x → (!decide (x.s = 2)) = false) ∧ Qo wr b0 15 (.slice oa L.length cap) L.length (cellsX L) ∧ Below B0 w wr) (fun s8 _ => L.length - (intOf s8).toNat)
  case atStart => exact ⟨0, rfl, Nat.zero_le _, fun j x hj => absurd hj (Nat.not_lt_zero j), h, Below.refl _ _⟩
  case round =>
    clear h 
    obtain ⟨i, rfl, hi, hno, q, bel⟩ := hrel
    by_cases hlt : i < L.length
    · have hii : (i : Int) < (L.length : Int) := by omega
      have hi0 : (0 : Int) ≤ (i : Int) := by omega
      obtain ⟨x, hx⟩ : ∃ x, L[i]? = some x := ⟨_, List.getElem?_eq_getElem hlt⟩
      obtain ⟨hh, off, rfl, _, _, _, X⟩ := row_at q rfl hx
      have HX := Lib.hid (And.intro hx hno)
      clear hx hno
      go_wp2_with (refine wpList_load_at rfl 113 _ rfl hh (off + i * 15) rfl (px x) _ X Try.underlying113 rfl szP ?_)
      refine (clg_alive x wr ).mono ?_
      rintro e w3 ⟨he, hb3⟩
      have q3 := q.below hb3 (Nat.le_refl _)
      have bel3 := bel.trans (hb3.mono (by have := bel.size; omega))
      rcases hp : (!decide (x.s = 2)) with _ | _
      · rw [hp] at he
        subst he
        have HR := Lib.hid (And.intro q3 (And.intro bel3 hp))
        clear q X bel hb3 q3 bel3 hp 
        go_wp2_with fail
        go_roundw
        case rel => exact ⟨i + 1, by go_num, by omega, fun j y hj hy => by
          by_cases e : j = i
          · subst e
            have : y = x := by have := HX.out.1; rw [hy] at this; exact Option.some.inj this
            rw [this]; exact HR.out.2.2
          · exact HX.out.2 j y (by omega) hy, HR.out.1, HR.out.2.1⟩
        case measure => simp [intOf]; omega
      · rw [hp] at he
        subst he
        have hres : idx (fun x => !decide (x.s = 2)) L = (i : Int) := idx_hit HX.out.1 hp HX.out.2
        have HR := Lib.hid (And.intro hres bel3)
        clear q X bel hb3 q3 bel3 hp hres 
        go_wp2_with fail
        go_ret
        exact ⟨ret_int HR.out.1.symm, by rw [HB0.out]; exact HR.out.2⟩
    · obtain rfl : i = L.length := by omega
      have hres : idx (fun x => !decide (x.s = 2)) L = -1 := idx_never hno
      have HR := Lib.hid (And.intro hres bel)
      clear q bel hno hres 
      go_wp2_with fail
      go_ret
      exact ⟨ret_int HR.out.1.symm, by rw [HB0.out]; exact HR.out.2⟩
theorem fd_alive (h : Pw b0 g L f v w) (hl : L.length ≤ 1000)   : Calls Try.prog 165 #[.pointer (some ⟨g, 0, none⟩), .func (.func 169) #[] #[]] w fun e w' => e = .returned (.int .i64 (idx (fun x => !decide (x.s = 2)) L)) ∧ Below w.heap.size w w' := by
  have c0 : w.cell? ⟨g, 0, none⟩ = some v := h.B.cell 0
  obtain ⟨oa, cap, hv, _, _⟩ := h.q.shape
  have q := h.q
  clear h
  subst hv
  go_enter Try.func165, Try.ntmps165
  go_wp2_with fail
  refine (ix_alive q hl ).mono ?_
  rintro e w1 ⟨rfl, hb⟩
  go_wp2_with fail
  go_ret
  exact ⟨rfl, hb⟩

theorem find_g (h : Pw b0 g L f v w) (hl : L.length ≤ 1000) (a b : Int) : Calls Try.prog 113 #[.pointer (some ⟨g, 0, none⟩), .int .u32 a, .int .u32 b] w fun e w' => e = .returned (.int .i64 (idx (fun x => decide (x.a = a) && decide (x.b = b)) L)) ∧ Below w.heap.size w w' := by
  have h2 := (h.alloc (.cells #[.int .u32 a] 109)).alloc (.cells #[.int .u32 b] 109)
  have P2 : Blk ((w.alloc (.cells #[.int .u32 a] 109)).alloc (.cells #[.int .u32 b] 109)) w.heap.size 109 #[.int .u32 a] := (Blk.new _ _ _).alloc _
  have Q2 : Blk ((w.alloc (.cells #[.int .u32 a] 109)).alloc (.cells #[.int .u32 b] 109)) (w.heap.size + 1) 109 #[.int .u32 b] := blk_new2 _ _ _ _
  have bel := ((Below.refl w.heap.size w).alloc (Nat.le_refl _) (.cells #[.int .u32 a] 109)).alloc (by simp) (.cells #[.int .u32 b] 109)
  go_enter Try.func113, Try.ntmps113
  go_wp2_with fail
  have hF : Calls Try.prog 165 #[.pointer (some ⟨g, 0, none⟩), .func (.func 166) #[] #[.pointer (some ⟨w.heap.size, 0, none⟩), .pointer (some ⟨w.heap.size + 1, 0, none⟩)]] _ _ := fd_find h2 hl a b _ _ P2 Q2
  refine hF.mono ?_
  rintro e w1 ⟨rfl, hb⟩
  go_wp2_with fail
  go_ret
  exact ⟨rfl, bel.trans (hb.mono bel.size)⟩
theorem peer_g (h : Pw b0 g L f v w) (hl : L.length ≤ 1000) (b : Int) : Calls Try.prog 124 #[.pointer (some ⟨g, 0, none⟩), .int .u32 b] w fun e w' => e = .returned (.int .i64 (idx (fun x => decide (x.b = b)) L)) ∧ Below w.heap.size w w' := by
  have h2 := h.alloc (.cells #[.int .u32 b] 109)
  have P2 := Blk.new w 109 #[.int .u32 b]
  have bel := (Below.refl w.heap.size w).alloc (Nat.le_refl _) (.cells #[.int .u32 b] 109)
  go_enter Try.func124, Try.ntmps124
  go_wp2_with fail
  have hF : Calls Try.prog 165 #[.pointer (some ⟨g, 0, none⟩), .func (.func 168) #[] #[.pointer (some ⟨w.heap.size, 0, none⟩)]] _ _ := fd_peer h2 hl b _ P2
  refine hF.mono ?_
  rintro e w1 ⟨rfl, hb⟩
  go_wp2_with fail
  go_ret
  exact ⟨rfl, bel.trans (hb.mono bel.size)⟩
theorem alive_g (h : Pw b0 g L f v w) (hl : L.length ≤ 1000) : Calls Try.prog 126 #[.pointer (some ⟨g, 0, none⟩)] w fun e w' => e = .returned (.bool (decide (0 ≤ idx (fun x => !decide (x.s = 2)) L))) ∧ Below w.heap.size w w' := by
  go_enter Try.func126, Try.ntmps126
  go_wp2_with fail
  have hF : Calls Try.prog 165 #[.pointer (some ⟨g, 0, none⟩), .func (.func 169) #[] #[]] _ _ := fd_alive h hl
  refine hF.mono ?_
  rintro e w1 ⟨rfl, hb⟩
  go_wp2_with fail
  go_ret
  exact ⟨rfl, hb⟩
end
end Go.Proofs.Ythddacgdmngfhaa.pat
