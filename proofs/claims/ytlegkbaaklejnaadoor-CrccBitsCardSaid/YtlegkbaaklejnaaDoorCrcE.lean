/- Layer 2: the same where the check fits. -/
import Derived.Test.YtlegkbaaklejnaaDoorCrcD
namespace Go.Proofs.YtlegkbaaklejnaaDoor.crc
open Go.ChangeShapes Go.WideShapes Go.ChangeAt Go.RowKit kit byt

theorem set4 (a b c d : UInt8) : ∀ (k : Nat) (l : List UInt8), k + 4 ≤ l.length → (((l.set k a).set (k + 1) b).set (k + 2) c).set (k + 3) d = l.take k ++ ([a, b, c, d] ++ l.drop (k + 4))
  | 0, l, h => by
    match l, h with
    | x0 :: x1 :: x2 :: x3 :: r, _ => simp
  | k + 1, l, h => by
    match l, h with
    | x :: r, h =>
      have := set4 a b c d k r (by simp at h; omega)
      simp only [List.set_cons_succ, List.take_succ_cons, List.cons_append, Nat.add_right_comm k 1, List.drop_succ_cons]
      rw [this]
      rfl
theorem zer_eq (l : List UInt8) (k : Nat) (h : k + 4 ≤ l.length) : zer l k = l.take k ++ ([0, 0, 0, 0] ++ l.drop (k + 4)) := set4 0 0 0 0 k l h
theorem put4_eq (l : List UInt8) (k c : Nat) (h : k + 4 ≤ l.length) : put4 l k c = l.take k ++ ([le4 c 0, le4 c 1, le4 c 2, le4 c 3] ++ l.drop (k + 4)) := set4 _ _ _ _ k l h
theorem zer_put4 (l : List UInt8) (k c : Nat) (h : k + 4 ≤ l.length) : zer (put4 l k c) k = zer l k := by
  rw [zer_eq _ _ (by rw [put4_len]; exact h), zer_eq l k h, put4_eq l k c h]
  have hk : (l.take k).length = k := by simp; omega
  congr 1
  · rw [List.take_append_of_le_length (by omega), List.take_of_length_le (by omega)]
  · congr 1
    rw [← List.append_assoc, List.drop_append_of_le_length (by simp; omega), List.drop_of_length_le (by simp; omega)]
    simp
theorem zer_zer (l : List UInt8) (k : Nat) (h : k + 4 ≤ l.length) : zer (zer l k) k = zer l k := by
  have e : put4 l k 0 = zer l k := rfl
  rw [← e, zer_put4 l k 0 h]
  rfl
theorem seal_eq (l : List UInt8) (k : Nat) (h : k + 4 ≤ l.length) : sealL l k = l.take k ++ ([le4 (of (zer l k)) 0, le4 (of (zer l k)) 1, le4 (of (zer l k)) 2, le4 (of (zer l k)) 3] ++ l.drop (k + 4)) := by
  unfold sealL
  have hz : k + 4 ≤ (zer l k).length := by rw [zer_len]; exact h
  rw [put4_eq _ _ _ hz]
  have hk : (l.take k).length = k := by simp; omega
  congr 1
  · rw [zer_eq l k h, List.take_append_of_le_length (by omega), List.take_of_length_le (by omega)]
  · congr 1
    rw [zer_eq l k h, ← List.append_assoc, List.drop_append_of_le_length (by simp; omega), List.drop_of_length_le (by simp; omega)]
    simp
theorem seal_seal (l : List UInt8) (k : Nat) (h : k + 4 ≤ l.length) : sealL (sealL l k) k = sealL l k := by
  have hz : k + 4 ≤ (zer l k).length := by rw [zer_len]; exact h
  have e : zer (sealL l k) k = zer l k := by
    unfold sealL
    rw [zer_put4 _ _ _ hz, zer_zer l k h]
  show put4 (zer (sealL l k) k) k (of (zer (sealL l k) k)) = _
  rw [e]
  rfl
theorem str_list (t : ByteArray) : str t.data.toList = t := by
  unfold str; rfl
/-- The document's bytes with noughts there, as it puts them together. -/
theorem zs_eq (t : ByteArray) (k : Nat) (h : k + 4 ≤ t.size) : t.extract 0 k ++ ⟨#[0, 0, 0, 0]⟩ ++ t.extract (k + 4) t.size = str (zer t.data.toList k) := by
  rw [zer_eq _ _ (by simpa using h)]
  apply ByteArray.ext
  apply Array.toList_inj.1
  simp [str]
  exact List.take_of_length_le (by simp)
theorem ws_eq (t : ByteArray) (k c : Nat) (h : k + 4 ≤ t.size) (hc : c = of (zer t.data.toList k)) : t.extract 0 k ++ ⟨#[le4 c 0, le4 c 1, le4 c 2, le4 c 3]⟩ ++ t.extract (k + 4) t.size = str (sealL t.data.toList k) := by
  subst hc
  rw [seal_eq _ _ (by simpa using h)]
  apply ByteArray.ext
  apply Array.toList_inj.1
  simp [str]
  exact List.take_of_length_le (by simp)

theorem str_data (l : List UInt8) : (str l).data.toList = l := by simp [str]
theorem str_len (l : List UInt8) : (str l).size = l.length := by simp [str, ByteArray.size]
/-- What was sealed is sealed. -/
theorem sealed_own (t : ByteArray) (k : Nat) (w : World) (H : Halves w) (hs : t.size ≤ maxLen) (h : k + 4 ≤ t.size) : Calls Tryd.prog 17 #[.string (str (sealL t.data.toList k)), .int .i64 k] w fun e w' => e = .returned (.bool true) ∧ Below w.heap.size w w' := by
  have hl : (str (sealL t.data.toList k)).size = t.size := by rw [str_len, seal_len]; simp
  have := sealed_yes (str (sealL t.data.toList k)) k w H (by rw [hl]; exact hs) (by rw [hl]; exact h)
  have e : sealedB (str (sealL t.data.toList k)) k = true := by
    unfold sealedB
    rw [str_data, seal_seal _ _ (by simpa using h)]
    simp
  rwa [e] at this
theorem str_size (t : ByteArray) (k : Nat) : (str (zer t.data.toList k)).size = t.size := by
  have : (str (zer t.data.toList k)).size = (zer t.data.toList k).length := by simp [str, ByteArray.size]
  rw [this, zer_len]; simp
set_option maxRecDepth 100000 in
set_option maxHeartbeats 1000000 in
theorem seals_yes (s : ByteArray) (k : Nat) (w : World) (H : Halves w) (hs : s.size ≤ maxLen) (h : k + 4 ≤ (few s).size) : Calls Tryd.prog 4 #[.string s, .int .i64 k] w fun e w' => e = .returned (.bool true) ∧ Below w.heap.size w w' := by
  have hf := few_size s
  have hf' : (few s).size ≤ maxLen := by unfold maxLen; omega
  have HF' := Lib.hid hf'
  have hSe := fun w H => seal_yes (few s) k w H hf' h
  have hSd := fun w H => sealed_yes (few s) k w H hf' h
  have hFe := fun w => few_any s w hs
  have HH := Lib.hid H
  clear H hf' hs
  generalize few s = t at *
  have h0 : decide ((k : Int) < 0) = false := decide_eq_false (by omega)
  have h1 : decide ((t.size : Int) - 4 < k) = false := decide_eq_false (by omega)
  have h2 : ¬ t.size < 4 := by omega
  have h3 : ¬ t.size = k := by omega
  have h4 : ¬ t.size = k + 4 ∨ t.size = k + 4 := by omega
  have hM : t.size ≤ 1500 := hf
  go_enter Tryd.func4, Tryd.ntmps4
  go_wp2_with fail
  refine (hFe _).mono ?_
  rintro e w1 ⟨rfl, rfl⟩
  go_wp2_with fail
  refine (hSe _ HH.out).mono ?_
  rintro e w1 ⟨rfl, hb1⟩
  have H1 := HH.out.below hb1
  go_wp2
  clear h0 h1
  go_quiet (fail)
  go_wp2_with fail
  rw [zs_eq t k h]
  have hzl : (str (zer t.data.toList k)).size = t.size := str_size t k
  have bel2 : Below w.heap.size w (w1.drewN nq) := ⟨hb1.os, hb1.tape, hb1.output, hb1.size, hb1.block⟩
  have H2 : Halves (w1.drewN nq) := H1
  generalize w1.drewN nq = w2 at *
  refine (ref_any _ _ (by rw [hzl]; exact HF'.out)).mono ?_
  rintro e w3 ⟨rfl, rfl⟩
  obtain ⟨c, hc⟩ : ∃ c, ofS (str (zer t.data.toList k)) = c := ⟨_, rfl⟩
  have hc' : c = of (zer t.data.toList k) := by rw [← hc]; simp [ofS, str]
  have HC := Lib.hid hc'
  rw [hc]
  clear hc hc' hzl hb1 H1
  go_upto_region 7 with (fail)
  have I5 := isBytes_cells w2 [le4 c 0, le4 c 1, le4 c 2, le4 c 3] 5
  simp only [List.map_cons, List.map_nil, le4_0, le4_1, le4_2, le4_3] at I5
  have hcv := conv_bytes (P := Tryd.prog) Tryd.underlying30 Tryd.underlying5 Tryd.underlying9 I5.drew 4 4 rfl
  have hk : k ≤ t.size := by omega
  go_region
  rw [ws_eq t k c h HC.out]
  have bel3 := (bel2.alloc bel2.size (.cells #[.int .u8 ((c : Int) % 256), .int .u8 ((c : Int) / 256 % 256), .int .u8 ((c : Int) / 65536 % 256), .int .u8 ((c : Int) / 16777216 % 256)] 5)).drew
  have H3 := HH.out.below bel3
  have hSt := fun w H => sealed_own t k w H HF'.out h
  clear hcv I5 H2 bel2 hSe HC
  generalize (w2.alloc (.cells #[.int .u8 ((c : Int) % 256), .int .u8 ((c : Int) / 256 % 256), .int .u8 ((c : Int) / 65536 % 256), .int .u8 ((c : Int) / 16777216 % 256)] 5)).drew = w3 at *
  have hq : (t.toList == (str (sealL t.data.toList k)).toList) = sealedB t k := by
    exact Bool.eq_iff_iff.2 ⟨fun e => beq_iff_eq.2 (beq_iff_eq.1 e).symm, fun e => beq_iff_eq.2 (beq_iff_eq.1 e).symm⟩
  generalize str (sealL t.data.toList k) = y at *
  generalize sealedB t k = b at *
  generalize str (zer t.data.toList k) = z at *
  go_wp2_with fail
  refine (awake_any _ H3).mono ?_
  rintro e w4 ⟨rfl, hb4⟩
  have H4 := H3.below hb4
  have bel4 := bel3.trans (hb4.mono bel3.size)
  go_wp2_with fail
  refine (hSt _ H4).mono ?_
  rintro e w5 ⟨rfl, hb5⟩
  have H5 := H4.below hb5
  have bel5 := bel4.trans (hb5.mono bel4.size)
  go_wp2_with fail
  refine (hSd _ H5).mono ?_
  rintro e w6 ⟨rfl, hb6⟩
  have bel6 := bel5.trans (hb6.mono bel5.size)
  go_wp2_with fail
  go_ret
  refine ⟨?_, bel6⟩
  simp
theorem seals_law (s : ByteArray) (a : Int) (w : World) (H : Halves w) (hs : s.size ≤ maxLen) : Calls Tryd.prog 4 #[.string s, .int .i64 a] w fun e w' => e = .returned (.bool true) ∧ Below w.heap.size w w' := by
  by_cases h : 0 ≤ a ∧ a + 4 ≤ (few s).size
  · obtain ⟨k, rfl⟩ : ∃ k : Nat, a = k := ⟨a.toNat, by omega⟩
    exact seals_yes s k w H hs (by omega)
  · exact seals_no s a w H hs h
end Go.Proofs.YtlegkbaaklejnaaDoor.crc
