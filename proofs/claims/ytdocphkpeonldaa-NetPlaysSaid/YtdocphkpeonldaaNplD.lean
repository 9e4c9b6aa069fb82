/- Layer 31: packets under way as a list: all of them; a bit turned. -/
import Derived.Test.YtdocphkpeonldaaNplC
import Derived.Test.YtdocphkpeonldaaByt
import Derived.IntWalk
namespace Go.Proofs.Ytdocphkpeonldaa.npl
open Go.Sort (grow)
open Go.ChangeShapes Go.WideShapes Go.ChangeAt Go.RowKit kit storm byt
set_option maxRecDepth 100000

/-- Which bit is turned. -/
def kof (n : Nat) (b : Int) : Nat := ((b.tmod (8 * (n : Int)) + 8 * (n : Int)).tmod (8 * (n : Int))).toNat
theorem kof_ok (n : Nat) (hn : 0 < n) (b : Int) : ∃ r : Int, b.tmod (8 * (n : Int)) = r ∧ -(8 * (n : Int)) < r ∧ r < 8 * (n : Int) ∧ (r + 8 * (n : Int)).tmod (8 * (n : Int)) = (kof n b : Nat) ∧ kof n b < 8 * n := by
  have h0 : (0 : Int) < 8 * (n : Int) := by omega
  have h1 := Int.tmod_lt_of_pos b h0
  have h2 : -(8 * (n : Int)) < b.tmod (8 * (n : Int)) := by
    have h3 := Int.tmod_lt_of_pos (-b) h0
    rw [Int.neg_tmod] at h3
    omega
  have h4 : 0 ≤ (b.tmod (8 * (n : Int)) + 8 * (n : Int)).tmod (8 * (n : Int)) := Int.tmod_nonneg _ (by omega)
  have h5 := Int.tmod_lt_of_pos (b.tmod (8 * (n : Int)) + 8 * (n : Int)) h0
  refine ⟨_, rfl, h2, h1, ?_, ?_⟩
  · unfold kof
    omega
  · unfold kof
    omega
/-- A byte of which one bit is turned. -/
def turn (b : UInt8) (i : Nat) : UInt8 := UInt8.ofNat (b.toNat ^^^ 2 ^ i)
theorem turn_nat (b : UInt8) (i : Nat) (h : i < 8) : (turn b i).toNat = b.toNat ^^^ 2 ^ i := by
  unfold turn
  have hb := b.toNat_lt
  have h2 : 2 ^ i < 2 ^ 8 := Nat.pow_lt_pow_right (by omega) h
  have := Nat.xor_lt_two_pow (n := 8) hb h2
  rw [UInt8.toNat_ofNat']
  exact Nat.mod_eq_of_lt this
theorem turn_bits (b : UInt8) (m : Nat) : bits .xor .u8 (b.toNat : Int) ((2 : Int) ^ (m % 8) % 256) = ((turn b (m % 8)).toNat : Int) := by
  have h : m % 8 < 8 := Nat.mod_lt _ (by decide)
  have h2 : 2 ^ (m % 8) < 2 ^ 8 := Nat.pow_lt_pow_right (by omega) h
  have e : (2 : Int) ^ (m % 8) % 256 = ((2 ^ (m % 8) : Nat) : Int) := by
    have e1 : ((2 ^ (m % 8) : Nat) : Int) = (2 : Int) ^ (m % 8) := by simp
    rw [← e1]
    generalize 2 ^ (m % 8) = p at *
    omega
  rw [e, turn_nat b _ h]
  exact u8_xor_nat _ _ b.toNat_lt h2
/-- The bytes of which one bit is turned. -/
def bentL (s : ByteArray) (b : Int) : List UInt8 := s.data.toList.set (kof s.size b / 8) (turn (s.data.toList.getD (kof s.size b / 8) 0) (kof s.size b % 8))
def bentS (s : ByteArray) (b : Int) : ByteArray := ⟨(bentL s b).toArray⟩
theorem bentL_len (s : ByteArray) (b : Int) : (bentL s b).length = s.size := by unfold bentL; rw [List.length_set]; simp
theorem bentS_size (s : ByteArray) (b : Int) : (bentS s b).size = s.size := by
  show (bentL s b).toArray.size = s.size
  rw [List.size_toArray]
  exact bentL_len s b
set_option maxHeartbeats 2000000 in
theorem bent_any (s : ByteArray) (b : Int) (hs : 0 < s.size) (hm : s.size ≤ 10) (w : World) : Calls Try.prog 58 #[.string s, .int .i64 b] w fun e w' => e = .returned (.string (bentS s b)) ∧ Below w.heap.size w w' := by
  obtain ⟨r, hr, hr1, hr2, hr3, hk⟩ := kof_ok s.size hs b
  have hbl := bentL_len s b
  unfold bentL at hbl
  unfold bentS bentL
  generalize kof s.size b = k at *
  have hcv := fun w => run_bytes_of_string (P := Try.prog) w 9 122 5 s Try.underlying9 Try.underlying122 Try.underlying5
  go_enter Try.func58, Try.ntmps58
  go_upto_region 4 with fail
  have I0 := (isBytes_new w s (grownCap w s.size 0 5) 5).drew
  have bel0 := ((Below.refl w.heap.size w).alloc (Nat.le_refl _) (.cells (bytesRow s (grownCap w s.size 0 5)) 5 ((bytesRow s (grownCap w s.size 0 5)).size, (bytesRow s (grownCap w s.size 0 5)).size + 1))).drew
  generalize (w.alloc (.cells (bytesRow s (grownCap w s.size 0 5)) 5 ((bytesRow s (grownCap w s.size 0 5)).size, (bytesRow s (grownCap w s.size 0 5)).size + 1))).drew = w2 at *
  generalize grownCap w s.size 0 5 = cap at *
  generalize hg : w.heap.size = g at *
  clear hcv hr hr1 hr2 hr3
  have hl : s.data.toList.length = s.size := by simp
  have hj : k / 8 < s.data.toList.length := by omega
  have hgd : s.data.toList.getD (k / 8) 0 = s.data.toList[k / 8] := by rw [List.getD_eq_getElem?_getD, List.getElem?_eq_getElem hj]; rfl
  rw [hgd] at hbl
  obtain ⟨c, hc⟩ : ∃ c, s.data.toList[k / 8] = c := ⟨_, rfl⟩
  have c0 := I0.cell hj
  have f0 := I0.free hj
  rw [hc] at c0 hbl
  unfold bv at c0
  have hj2 : k / 8 < s.size := by omega
  have HE := Lib.hid (hgd.trans hc)
  clear hgd hj hl hc
  have hx := turn_bits c k
  go_upto_region 5 with (fail)
  clear hx c0 f0
  have I3 := I0.set_ (k / 8) (turn c (k % 8))
  have bel3 := bel0.setCell (p := ⟨g, k / 8, none⟩) (Nat.le_refl g) (bv (turn c (k % 8)))
  unfold bv at I3 bel3
  generalize w2.setCell ⟨g, k / 8, none⟩ (.int .u8 ((turn c (k % 8)).toNat : Int)) = w3 at *
  have hcv := conv_bytes (P := Try.prog) Try.underlying122 Try.underlying5 Try.underlying9 I3 s.size cap hbl.symm
  go_wp2_with fail
  go_ret
  exact ⟨by rw [HE.out]; rfl, by first | exact bel3 | (rw [hg]; exact bel3)⟩
/-- A packet of which one bit is turned. -/
def bentI (x : It) (b : Int) : It := { x with s := bentS x.s b, bent := true }
theorem bend_no {b0 g : Nat} {l : Value} {L : List It} {w : World} (n : NS b0 g l L w) (x b : Int) (hx : ¬ (0 ≤ x ∧ x < L.length)) : Calls Try.prog 57 #[.pointer (some ⟨g, 0, none⟩), .int .i64 x, .int .i64 b] w fun e w' => e = .returned (.bool false) ∧ w' = w := by
  have hh := has_ns n x
  rw [decide_eq_false hx] at hh
  go_enter Try.func57, Try.ntmps57
  go_wp2_with fail
  refine hh.mono ?_
  rintro e w1 ⟨rfl, rfl⟩
  go_wp2
  go_ret
  exact ⟨rfl, rfl⟩
theorem bend_not {b0 g : Nat} {l : Value} {L : List It} {w : World} (n : NS b0 g l L w) (k : Nat) (b : Int) (hk : k < L.length) (hx : (L.getD k it0).bent = true ∨ (L.getD k it0).s.size = 0) : Calls Try.prog 57 #[.pointer (some ⟨g, 0, none⟩), .int .i64 k, .int .i64 b] w fun e w' => e = .returned (.bool false) ∧ w' = w := by
  have hh := has_ns n k
  rw [in_range hk] at hh
  obtain ⟨oa, cap, hl, hlc, hcm, ho, _⟩ := own_shape n.own
  obtain ⟨h, rfl⟩ := ho (by omega)
  have own := n.own
  rw [hl] at own
  have K := cel_of_cells (own_cel own rfl) k hk
  have c0 : w.cell? ⟨g, 0, none⟩ = some l := n.B.cell 0
  rw [hl] at c0
  obtain ⟨m, hm⟩ : ∃ m, L.length = m := ⟨_, rfl⟩
  rw [hm] at c0 hk
  rw [hm] at hlc
  clear n own hl ho
  generalize L.getD k it0 = x at *
  obtain ⟨xl, xn, xf, xt, xs, xb⟩ := x
  have k4 : w.cell? ⟨h, k * 6 + 4, none⟩ = some (.string xs) := K.cell 4 rfl
  have k5 : w.cell? ⟨h, k * 6 + 5, none⟩ = some (.bool xb) := K.cell 5 rfl
  dsimp only at hx
  unfold maxLen at hcm
  go_enter Try.func57, Try.ntmps57
  go_wp2_with fail
  refine hh.mono ?_
  rintro e w1 ⟨rfl, hw⟩
  subst hw
  cases xb
  · have hx0 : xs.size = 0 := by rcases hx with h | h; cases h; exact h
    go_wp2_with fail
    go_ret
    exact ⟨rfl, rfl⟩
  · go_wp2_with fail
    all_goals
      go_ret
      exact ⟨rfl, rfl⟩
theorem cellsI_set (L : List It) (k : Nat) (x : It) (hk : k < L.length) (j : Nat) : (cellsI (L.set k x))[j]? = if k * 6 ≤ j ∧ j < k * 6 + 6 then (ir x)[j - k * 6]? else (cellsI L)[j]? := by
  induction L generalizing k j with
  | nil => simp at hk
  | cons q r ih =>
    cases k with
    | zero =>
      rw [List.set_cons_zero, cellsI, cellsI]
      by_cases h : j < 6
      · rw [if_pos (by omega), List.getElem?_append_left (by rw [ir_len]; omega)]
        simp
      · rw [if_neg (by omega), List.getElem?_append_right (by rw [ir_len]; omega), List.getElem?_append_right (by rw [ir_len]; omega), ir_len, ir_len]
    | succ k =>
      rw [List.set_cons_succ, cellsI, cellsI]
      by_cases h : j < 6
      · rw [if_neg (by omega), List.getElem?_append_left (by rw [ir_len]; omega), List.getElem?_append_left (by rw [ir_len]; omega)]
      · rw [List.getElem?_append_right (by rw [ir_len]; omega), ir_len, ih k (by simpa using hk)]
        by_cases h2 : (k + 1) * 6 ≤ j ∧ j < (k + 1) * 6 + 6
        · rw [if_pos h2, if_pos (by omega)]
          congr 1
          omega
        · rw [if_neg h2, if_neg (by omega), List.getElem?_append_right (by rw [ir_len]; omega), ir_len]
/-- One cell of one packet is another one. -/
theorem cells_turn (L : List It) (k i : Nat) (x y : It) (v : Value) (hk : k < L.length) (hX : L.getD k it0 = x) (hi : i < 6) (hd : ∀ q, q < 6 → (ir y)[q]? = if q = i then some v else (ir x)[q]?) (j : Nat) : (cellsI (L.set k y))[j]? = if j = k * 6 + i then some v else (cellsI L)[j]? := by
  rw [cellsI_set L k y hk]
  by_cases h : k * 6 ≤ j ∧ j < k * 6 + 6
  · rw [if_pos h, hd _ (by omega)]
    by_cases e : j = k * 6 + i
    · rw [if_pos e, if_pos (by omega)]
    · rw [if_neg e, if_neg (by omega)]
      obtain ⟨q, hq, hq6⟩ : ∃ q, j = k * 6 + q ∧ q < 6 := ⟨j - k * 6, by omega, by omega⟩
      subst hq
      rw [show k * 6 + q - k * 6 = q by omega]
      have hs : q < (ir x).size := hq6
      rw [Array.getElem?_eq_getElem hs]
      exact (cellsI_at L k q _ hk (by rw [hX]; exact Array.getElem?_eq_getElem hs)).symm
  · rw [if_neg h, if_neg (by omega)]
/-- One cell of an owned row written: the row of other cells. -/
theorem own_set {w : World} {b0 n size h cap : Nat} {t : TypeId} {xs ys : List Value} (own : w.ownsRow b0 t size (.slice (some ⟨h, 0, none⟩) n cap) n xs) (i : Nat) (v : Value) (hi : i < n * size) (hy : ys.length = n * size) (hj : ∀ j, j < n * size → ys[j]? = if j = i then some v else xs[j]?) : (w.setCell ⟨h, i, none⟩ v).ownsRow b0 t size (.slice (some ⟨h, 0, none⟩) n cap) n ys := by
  obtain ⟨cur, B, hb, hn, hm, hs, hg⟩ := own_get own
  have hle : n * size ≤ cap * size := Nat.mul_le_mul_right _ hn
  refine own_of_get (B.set_ i v) hb hn hm (by simpa using hs) hy (fun j hjn => ?_)
  rw [hj j hjn]
  by_cases e : j = i
  · subst e
    rw [if_pos rfl, Array.getElem?_setIfInBounds_self_of_lt (by omega)]
  · rw [if_neg e, Array.getElem?_setIfInBounds_ne (fun q => e q.symm), hg j hjn]
set_option maxHeartbeats 4000000 in
theorem bend_ns {b0 g : Nat} {l : Value} {L : List It} {w : World} (n : NS b0 g l L w) (k : Nat) (b : Int) (hk : k < L.length) (hx : (L.getD k it0).bent = false) (hs0 : 0 < (L.getD k it0).s.size) (hs10 : (L.getD k it0).s.size ≤ 10) : Calls Try.prog 57 #[.pointer (some ⟨g, 0, none⟩), .int .i64 k, .int .i64 b] w fun e w' => e = .returned (.bool true) ∧ NS b0 g l (L.set k (bentI (L.getD k it0) b)) w' ∧ Frm g l w w' ∧ Below b0 w w' := by
  have hh := has_ns n k
  rw [in_range hk] at hh
  obtain ⟨oa, cap, hl, hlc, hcm, ho, _⟩ := own_shape n.own
  obtain ⟨h, rfl⟩ := ho (by omega)
  have own := n.own
  rw [hl] at own
  have K := cel_of_cells (own_cel own rfl) k hk
  have hne := n.ne h (by rw [hl]; rfl)
  have hhl := own_lt n.own h (by rw [hl]; rfl)
  have hgl := n.B.lt
  have hb0h := own_ge n.own h (by rw [hl]; rfl)
  have hg := n.hg
  have B := n.B
  have c0 : w.cell? ⟨g, 0, none⟩ = some l := n.B.cell 0
  rw [hl] at c0
  obtain ⟨m, hm⟩ : ∃ m, L.length = m := ⟨_, rfl⟩
  have hkm : k < m := by omega
  rw [hm] at c0 own hlc
  have HL := Lib.hid hl
  obtain ⟨x, hX⟩ : ∃ x, L.getD k it0 = x := ⟨_, rfl⟩
  rw [hX] at K hx hs0 hs10 ⊢
  clear n hl ho
  obtain ⟨xl, xn, xf, xt, xs, xb⟩ := x
  dsimp only at hx hs0 hs10
  subst hx
  have HXX := Lib.hid hX
  clear hX
  have k4 : w.cell? ⟨h, k * 6 + 4, none⟩ = some (.string xs) := K.cell 4 rfl
  have k5 : w.cell? ⟨h, k * 6 + 5, none⟩ = some (.bool false) := K.cell 5 rfl
  obtain ⟨r, hr, hr1, hr2, hr3, hkb⟩ := kof_ok xs.size hs0 b
  have hbl := bentL_len xs b
  have hcv := fun w => run_bytes_of_string (P := Try.prog) w 9 122 5 xs Try.underlying9 Try.underlying122 Try.underlying5
  have hz8 : ((8 * (xs.size : Int)) == 0) = false := by rw [beq_eq_false_iff_ne]; omega
  unfold maxLen at hcm
  go_enter Try.func57, Try.ntmps57
  go_wp2_with fail
  refine hh.mono ?_
  rintro e w1 ⟨rfl, hw⟩
  subst hw
  go_upto_region 9 with fail
  have I0 := (isBytes_new w1 xs (grownCap w1 xs.size 0 5) 5).drew
  have bw0 := ((Below.refl w1.heap.size w1).alloc (Nat.le_refl _) (.cells (bytesRow xs (grownCap w1 xs.size 0 5)) 5 ((bytesRow xs (grownCap w1 xs.size 0 5)).size, (bytesRow xs (grownCap w1 xs.size 0 5)).size + 1))).drew
  generalize (w1.alloc (.cells (bytesRow xs (grownCap w1 xs.size 0 5)) 5 ((bytesRow xs (grownCap w1 xs.size 0 5)).size, (bytesRow xs (grownCap w1 xs.size 0 5)).size + 1))).drew = w2 at *
  generalize grownCap w1 xs.size 0 5 = cp at *
  obtain ⟨q, hq⟩ : ∃ q, w1.heap.size = q := ⟨_, rfl⟩
  rw [hq] at I0 bw0 hgl hhl
  rw [hq]
  clear hcv hr hr1 hr2 hr3 c0 k4 k5 hz8
  unfold bentL at hbl
  have HB := Lib.hid (show bentI ⟨xl, xn, xf, xt, xs, false⟩ b = ⟨xl, xn, xf, xt, ⟨(xs.data.toList.set (kof xs.size b / 8) (turn (xs.data.toList.getD (kof xs.size b / 8) 0) (kof xs.size b % 8))).toArray⟩, true⟩ from rfl)
  generalize kof xs.size b = kb at *
  have hl : xs.data.toList.length = xs.size := by simp
  have hj : kb / 8 < xs.data.toList.length := by omega
  have hgd : xs.data.toList.getD (kb / 8) 0 = xs.data.toList[kb / 8] := by rw [List.getD_eq_getElem?_getD, List.getElem?_eq_getElem hj]; rfl
  rw [hgd] at hbl
  obtain ⟨c, hc⟩ : ∃ c, xs.data.toList[kb / 8] = c := ⟨_, rfl⟩
  have d0 := I0.cell hj
  have f0 := I0.free hj
  rw [hc] at d0 hbl
  unfold bv at d0
  have e0 : w2.drew.cell? ⟨q, kb / 8, none⟩ = some (.int .u8 (c.toNat : Int)) := d0
  have hj2 : kb / 8 < xs.size := by omega
  have hj3 : ((kb / 8 : Nat) : Int) < xs.size := by omega
  have HE := Lib.hid (hgd.trans hc)
  clear hgd hj hl hc
  have hx := turn_bits c kb
  go_region
  have I3 := (I0.set_ (kb / 8) (turn c (kb % 8))).drew
  have bw3 := (bw0.setCell (p := ⟨q, kb / 8, none⟩) (Nat.le_refl q) (bv (turn c (kb % 8)))).drew
  unfold bv at I3 bw3
  generalize (w2.setCell ⟨q, kb / 8, none⟩ (.int .u8 ((turn c (kb % 8)).toNat : Int))).drew = w3 at *
  have hcv := conv_bytes (P := Try.prog) Try.underlying122 Try.underlying5 Try.underlying9 I3 xs.size cp hbl.symm
  have K3 := K.below bw3 hhl
  have B3 := B.below bw3 hgl
  have own3 := own_below own bw3 (fun y hy => by simp [Value.ownBlock] at hy; omega)
  clear I0 bw0 d0 f0 e0 hx K B own I3
  rw [HE.out] at HB
  have k4 : w3.cell? ⟨h, k * 6 + 4, none⟩ = some (.string xs) := K3.cell 4 rfl
  have k5 : w3.cell? ⟨h, k * 6 + 5, none⟩ = some (.bool false) := K3.cell 5 rfl
  have f4 : w3.frozen? ⟨h, k * 6 + 4, none⟩ = false := K3.frozen 4 (by show 4 < 6; omega)
  have f5 : w3.frozen? ⟨h, k * 6 + 5, none⟩ = false := K3.frozen 5 (by show 5 < 6; omega)
  generalize (⟨(xs.data.toList.set (kb / 8) (turn c (kb % 8))).toArray⟩ : ByteArray) = S at *
  have t1 := cells_turn L k 4 ⟨xl, xn, xf, xt, xs, false⟩ ⟨xl, xn, xf, xt, S, false⟩ (.string S) hk HXX.out (by omega) (fun z hz => by rcases (by omega : z = 0 ∨ z = 1 ∨ z = 2 ∨ z = 3 ∨ z = 4 ∨ z = 5) with rfl | rfl | rfl | rfl | rfl | rfl <;> rfl)
  have t2 := cells_turn (L.set k ⟨xl, xn, xf, xt, S, false⟩) k 5 ⟨xl, xn, xf, xt, S, false⟩ ⟨xl, xn, xf, xt, S, true⟩ (.bool true) (by rw [List.length_set]; exact hk) (by rw [List.getD_eq_getElem?_getD, List.getElem?_set_self hk]; rfl) (by omega) (fun z hz => by rcases (by omega : z = 0 ∨ z = 1 ∨ z = 2 ∨ z = 3 ∨ z = 4 ∨ z = 5) with rfl | rfl | rfl | rfl | rfl | rfl <;> rfl)
  rw [List.set_set] at t2
  have own4 := own_set own3 (k * 6 + 4) (.string S) (by omega) (by rw [cellsI_len, List.length_set, hm]) (fun j _ => t1 j)
  have own5 := own_set own4 (k * 6 + 5) (.bool true) (by omega) (by rw [cellsI_len, List.length_set, hm]) (fun j _ => t2 j)
  have B5 := (B3.far (p := ⟨h, k * 6 + 4, none⟩) (Ne.symm hne) (.string S)).far (p := ⟨h, k * 6 + 5, none⟩) (Ne.symm hne) (.bool true)
  have bel5 : Below b0 w1 ((w3.setCell ⟨h, k * 6 + 4, none⟩ (.string S)).setCell ⟨h, k * 6 + 5, none⟩ (.bool true)) := ((bw3.mono (by omega)).setCell (p := ⟨h, k * 6 + 4, none⟩) hb0h _).setCell (p := ⟨h, k * 6 + 5, none⟩) hb0h _
  have fr5 : Frm g l w1 ((w3.setCell ⟨h, k * 6 + 4, none⟩ (.string S)).setCell ⟨h, k * 6 + 5, none⟩ (.bool true)) := by
    refine ⟨?_, fun y hy hyg hyl => ?_⟩
    · have := bw3.size
      simp [World.setCell]
      omega
    · have hyh : y ≠ h := fun e => hyl (by rw [HL.out, e]; rfl)
      rw [Below.heap_setCell _ _ _ y hyh, Below.heap_setCell _ _ _ y hyh]
      exact bw3.block y (by omega)
  have HX := Lib.hid (And.intro own5 (And.intro B5 (And.intro fr5 bel5)))
  clear own3 own4 own5 B5 fr5 bel5 t1 t2 B3 K3 bw3
  go_wp2_with fail
  go_ret
  obtain ⟨o5, b5, f5, l5⟩ := HX.out
  refine ⟨rfl, ⟨?_, ?_, ?_, hg⟩, f5, l5⟩
  · rw [HL.out, hm]
    rw [HL.out, hm] at b5
    exact b5
  · rw [List.length_set, HB.out, hm, HL.out, hm]
    exact o5
  · intro y hy
    rw [HL.out] at hy
    simp [Value.ownBlock] at hy
    omega
end Go.Proofs.Ytdocphkpeonldaa.npl
