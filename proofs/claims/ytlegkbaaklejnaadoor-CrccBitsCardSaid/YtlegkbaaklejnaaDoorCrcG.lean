/- Layer 2: when one bit of sealed bytes is turned, they are not sealed any more: walked. -/
import Derived.Test.YtlegkbaaklejnaaDoorCrcF
import Derived.IntWalk
import Derived.Lib.Strings
import Derived.Deep.DeepCutAuto
namespace Go.Proofs.YtlegkbaaklejnaaDoor.crc
open Go.ChangeShapes Go.WideShapes Go.ChangeAt Go.RowKit kit byt

theorem rem_bd (a m : Int) (hm : 0 < m) : -m < a.tmod m ∧ a.tmod m < m := by
  rw [tmod_eq_if]
  split
  · have := Int.emod_nonneg a (show m ≠ 0 by omega)
    have := Int.emod_lt_of_pos a hm
    omega
  · have := Int.emod_nonneg (-a) (show m ≠ 0 by omega)
    have := Int.emod_lt_of_pos (-a) hm
    omega
theorem rem_nat (x m : Int) (hm : 0 < m) (hx : 0 ≤ x) : ∃ k : Nat, (k : Int) < m ∧ x.tmod m = k := by
  refine ⟨(x.tmod m).toNat, ?_, ?_⟩
  · have := rem_bd x m hm
    have h : 0 ≤ x.tmod m := Int.tmod_nonneg m hx
    omega
  · have h : 0 ≤ x.tmod m := Int.tmod_nonneg m hx
    omega
theorem place (a : Int) (n : Nat) (h0 : 4 ≤ n) (h1 : n ≤ 1504) : ∃ k : Nat, k + 4 ≤ n ∧ (wrap64 (wrap64 (a.tmod (n - 3) + n) - 3)).tmod (n - 3) = k := by
  have hb := rem_bd a (n - 3) (by omega)
  rw [IntWalk.wrap64_in (a.tmod (n - 3) + n) (by omega), IntWalk.wrap64_in _ (by omega)]
  obtain ⟨k, h2, h3⟩ := rem_nat (a.tmod (n - 3) + n - 3) (n - 3) (by omega) (by omega)
  exact ⟨k, by omega, h3⟩
theorem bit_place (q : Int) (n : Nat) (h0 : 4 ≤ n) (h1 : n ≤ 1504) : ∃ m : Nat, m < 8 * n ∧ (wrap64 (q.tmod (8 * n) + 8 * n)).tmod (8 * n) = m := by
  have hb := rem_bd q (8 * n) (by omega)
  rw [IntWalk.wrap64_in _ (by omega)]
  obtain ⟨k, h2, h3⟩ := rem_nat (q.tmod (8 * n) + 8 * n) (8 * n) (by omega) (by omega)
  exact ⟨k, by omega, h3⟩

/-- A byte of which one bit is turned. -/
def turn (b : UInt8) (i : Nat) : UInt8 := UInt8.ofNat (b.toNat ^^^ 2 ^ i)
theorem turn_nat (b : UInt8) (i : Nat) (h : i < 8) : (turn b i).toNat = b.toNat ^^^ 2 ^ i := by
  unfold turn
  have hb := b.toNat_lt
  have h2 : 2 ^ i < 2 ^ 8 := Nat.pow_lt_pow_right (by omega) h
  have := Nat.xor_lt_two_pow (n := 8) hb h2
  rw [UInt8.toNat_ofNat']
  exact Nat.mod_eq_of_lt this
theorem turn_ne (b : UInt8) (i : Nat) (h : i < 8) : turn b i ≠ b := by
  intro e
  have := congrArg UInt8.toNat e
  rw [turn_nat b i h] at this
  have h2 := congrArg (b.toNat ^^^ ·) this
  simp only [← Nat.xor_assoc, Nat.xor_self, Nat.zero_xor] at h2
  have : 0 < 2 ^ i := Nat.two_pow_pos i
  omega
theorem turn_bits (b : UInt8) (m : Nat) : bits .xor .u8 (b.toNat : Int) ((2 : Int) ^ (m % 8) % 256) = ((turn b (m % 8)).toNat : Int) := by
  have h : m % 8 < 8 := Nat.mod_lt _ (by decide)
  have h2 : 2 ^ (m % 8) < 2 ^ 8 := Nat.pow_lt_pow_right (by omega) h
  have e : (2 : Int) ^ (m % 8) % 256 = ((2 ^ (m % 8) : Nat) : Int) := by
    have e1 : ((2 ^ (m % 8) : Nat) : Int) = (2 : Int) ^ (m % 8) := by simp
    rw [← e1]
    generalize 2 ^ (m % 8) = p at *
    omega
  rw [e, turn_nat b _ h]
  exact u8_xor_nat _ _ b.toNat_lt h2
theorem sealed_bent (t : ByteArray) (k j : Nat) (b : UInt8) (h : k + 4 ≤ t.size) (hj : j < t.size) (hb : (str (sealL t.data.toList k)).data.toList[j]? ≠ some b) : sealedB (str ((str (sealL t.data.toList k)).data.toList.set j b)) k = false := by
  rw [str_data] at hb ⊢
  have hB := bent t.data.toList k j b (by simpa using h) (by simpa using hj) hb
  unfold sealedB
  rw [beq_eq_false_iff_ne]
  intro e
  rw [str_data, Lib.toList_data, Lib.toList_data, str_data, str_data] at e
  exact hB e

set_option maxRecDepth 100000 in
set_option maxHeartbeats 1000000 in
theorem bits_law (s : ByteArray) (a q : Int) (w : World) (H : Halves w) (hs : s.size ≤ maxLen) : Calls Tryd.prog 5 #[.string s, .int .i64 a, .int .i64 q] w fun e w' => e = .returned (.bool true) ∧ Below w.heap.size w w' := by
  have hf := few_size s
  have hFe := fun w => few_any s w hs
  have HH := Lib.hid H
  clear H hs
  go_enter Tryd.func5, Tryd.ntmps5
  go_upto_region 2 with (refine (hFe _).mono ?_; rintro e w1 ⟨rfl, rfl⟩)
  have hn : (few s ++ ⟨#[49, 50, 51, 52]⟩ : ByteArray).size = (few s).size + 4 := by rw [ByteArray.size_append]; rfl
  obtain ⟨t, ht⟩ : ∃ t, (few s ++ ⟨#[49, 50, 51, 52]⟩ : ByteArray) = t := ⟨_, rfl⟩
  rw [ht] at hn ⊢
  clear ht hFe
  have hn4 : 4 ≤ t.size := by omega
  have hn5 : t.size ≤ 1504 := by omega
  clear hn hf
  generalize few s = s' at *
  obtain ⟨k, hk, hp⟩ := place a t.size hn4 hn5
  go_cut [8] (fun s8 wx => s8 = .int .i64 k ∧ w = wx)
  case first =>
    go_wp2_with fail
    go_meet
    exact ⟨rfl, rfl⟩
  case rest =>
  obtain ⟨rfl, rfl⟩ := hcut
  clear hp
  have hS := fun w H => seal_yes t k w H (by unfold maxLen; omega) hk
  have hY : (str (sealL t.data.toList k)).size = t.size := by rw [str_len, seal_len]; simp
  obtain ⟨y, hy⟩ : ∃ y, str (sealL t.data.toList k) = y := ⟨_, rfl⟩
  have HY := Lib.hid hy
  rw [hy] at hS hY
  have HYS := Lib.hid hY
  have hn6 : 4 ≤ y.size := by omega
  have hn7 : y.size ≤ 1504 := by omega
  have HN := Lib.hid (And.intro hn6 hn7)
  clear hy hY hn4 hn5 hn6 hn7
  have hcv := fun w => run_bytes_of_string (P := Tryd.prog) w 9 30 5 y Tryd.underlying9 Tryd.underlying30 Tryd.underlying5
  go_wp2_with fail
  refine (hS _ HH.out).mono ?_
  rintro e w1 ⟨rfl, hb1⟩
  clear hS
  go_upto_region 4 with (fail)
  have I0 := (isBytes_new w1 y (grownCap w1 y.size 0 5) 5).drew
  have bel0 := (hb1.alloc hb1.size (.cells (bytesRow y (grownCap w1 y.size 0 5)) 5 ((bytesRow y (grownCap w1 y.size 0 5)).size, (bytesRow y (grownCap w1 y.size 0 5)).size + 1))).drew
  have hg := hb1.size
  generalize (w1.alloc (.cells (bytesRow y (grownCap w1 y.size 0 5)) 5 ((bytesRow y (grownCap w1 y.size 0 5)).size, (bytesRow y (grownCap w1 y.size 0 5)).size + 1))).drew = w2 at *
  generalize grownCap w1 y.size 0 5 = cap at *
  generalize w1.heap.size = g at *
  clear hcv hb1
  obtain ⟨hn6, hn7⟩ := HN.out
  obtain ⟨m, hm, hq⟩ := bit_place q y.size hn6 hn7
  go_upto_region 6 with (fail)
  go_cut [10] (fun s10 wx => s10 = .int .i64 m ∧ w2 = wx)
  case first =>
    go_wp2_with fail
    go_meet
    exact ⟨rfl, rfl⟩
  case rest =>
  obtain ⟨rfl, rfl⟩ := hcut
  clear hq
  have hl : y.data.toList.length = y.size := by simp
  have hj : m / 8 < y.data.toList.length := by omega
  obtain ⟨b, hb⟩ : ∃ b, y.data.toList[m / 8] = b := ⟨_, rfl⟩
  have c0 := I0.cell hj
  have f0 := I0.free hj
  rw [hb] at c0
  unfold bv at c0
  have HB := Lib.hid (show y.data.toList[m / 8]? = some b by rw [List.getElem?_eq_getElem hj, hb])
  clear hl hb
  have hj2 : m / 8 < y.size := by simpa using hj
  clear hj
  have hx := turn_bits b m
  go_upto_region 8 with (fail)
  clear hx c0 f0 HN
  have I3 := I0.set_ (m / 8) (turn b (m % 8))
  have bel3 := bel0.setCell (p := ⟨g, m / 8, none⟩) hg (bv (turn b (m % 8)))
  have H3 := HH.out.below bel3
  unfold bv at I3 bel3 H3
  generalize w2.setCell ⟨g, m / 8, none⟩ (.int .u8 ((turn b (m % 8)).toNat : Int)) = w3 at *
  have hcv := conv_bytes (P := Tryd.prog) Tryd.underlying30 Tryd.underlying5 Tryd.underlying9 I3 y.size cap (by simp)
  have hl : (str (y.data.toList.set (m / 8) (turn b (m % 8)))).size = t.size := by rw [str_len, List.length_set, ← HYS.out]; simp
  have hSd := fun w H => sealed_yes (str (y.data.toList.set (m / 8) (turn b (m % 8)))) k w H (by rw [hl, ← HYS.out]; unfold maxLen; omega) (by rw [hl]; exact hk)
  have hE : sealedB (str (y.data.toList.set (m / 8) (turn b (m % 8)))) k = false := by
    have := sealed_bent t k (m / 8) (turn b (m % 8)) hk (by rw [← HYS.out]; exact hj2) (by rw [HY.out, HB.out]; exact fun e => turn_ne b (m % 8) (Nat.mod_lt _ (by decide)) (Option.some.inj e).symm)
    rwa [HY.out] at this
  rw [hE] at hSd
  unfold str at hSd
  have HL := Lib.hid (show y.size = (y.data.toList.set (m / 8) (turn b (m % 8))).length by simp)
  clear hE hl I0 bel0 HB HY HYS hm hn6 hn7 hk hj2 hg
  generalize y.data.toList.set (m / 8) (turn b (m % 8)) = l' at *
  go_wp2_with fail
  refine (awake_any _ H3).mono ?_
  rintro e w4 ⟨rfl, hb4⟩
  have H4 := H3.below hb4
  have I4 := I3.below hb4 I3.lt
  have bel4 := bel3.trans (hb4.mono bel3.size)
  clear hcv
  have hcv : ∀ n cap, n = l'.length → (convert 30 9 (.slice (some ⟨g, 0, none⟩) n cap)).run Tryd.prog w4 = .ok (.string ⟨l'.toArray⟩) w4 := fun n cap hn => conv_bytes (P := Tryd.prog) Tryd.underlying30 Tryd.underlying5 Tryd.underlying9 I4 n cap hn
  go_wp2_with fail
  rw [hcv _ _ HL.out]
  clear hcv
  go_wp2_with fail
  refine (hSd _ H4).mono ?_
  rintro e w5 ⟨rfl, hb5⟩
  clear hSd
  go_wp2_with fail
  go_ret
  exact ⟨rfl, bel4.trans (hb5.mono bel4.size)⟩
end Go.Proofs.YtlegkbaaklejnaaDoor.crc
