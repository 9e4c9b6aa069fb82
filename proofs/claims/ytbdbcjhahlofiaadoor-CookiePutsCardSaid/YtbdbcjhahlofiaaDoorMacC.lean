/- Layer 9: seals of bytes by a key, by the program and by the document. -/
import Derived.Test.YtbdbcjhahlofiaaDoorMacB
import Derived.Lib.QuietBelow
namespace Go.Proofs.YtbdbcjhahlofiaaDoor.mac
open Go.ChangeShapes Go.WideShapes Go.ChangeAt Go.RowKit kit byt dig
open oct

def macS (key s : ByteArray) : ByteArray := str (hmac key.data.toList s.data.toList)
theorem macS_size (key s : ByteArray) : (macS key s).size = 20 := by unfold macS; rw [str_len, hmac_len]
theorem macS_eq (key s : ByteArray) : digS (str (mask key.data.toList 92) ++ digS (str (mask key.data.toList 54) ++ s)) = macS key s := by
  unfold macS hmac
  rw [digS_eq, digS_eq]
  simp only [ByteArray.data_append, Array.toList_append, str_data]
theorem masked_92 (key : ByteArray) (w : World) (S0 : Starts w) (A : Added w) (hk : key.size ≤ 1000000) : Calls Tryd.prog 33 #[.string key, .int .u8 92] w fun e w' => e = .returned (.string (str (mask key.data.toList 92))) ∧ Below w.heap.size w w' := masked_any key 92 w S0 A hk
theorem masked_54 (key : ByteArray) (w : World) (S0 : Starts w) (A : Added w) (hk : key.size ≤ 1000000) : Calls Tryd.prog 33 #[.string key, .int .u8 54] w fun e w' => e = .returned (.string (str (mask key.data.toList 54))) ∧ Below w.heap.size w w' := masked_any key 54 w S0 A hk
theorem pad_92 (key : ByteArray) (w : World) (hk : key.size ≤ 1000000) : Calls Tryd.prog 28 #[.string key, .int .u8 92] w fun e w' => e = .returned (.string (str (mask key.data.toList 92))) ∧ Below w.heap.size w w' := pad_any key 92 w hk
theorem pad_54 (key : ByteArray) (w : World) (hk : key.size ≤ 1000000) : Calls Tryd.prog 28 #[.string key, .int .u8 54] w fun e w' => e = .returned (.string (str (mask key.data.toList 54))) ∧ Below w.heap.size w w' := pad_any key 54 w hk

set_option maxRecDepth 100000 in
set_option maxHeartbeats 1000000 in
theorem mac_any (key s : ByteArray) (w : World) (S0 : Starts w) (A : Added w) (hk : key.size ≤ 1000000) (hs : s.size ≤ 900000) : Calls Tryd.prog 19 #[.string key, .string s] w fun e w' => e = .returned (.string (macS key s)) ∧ Below w.heap.size w w' := by
  have h9 := fun w S0 A => masked_92 key w S0 A hk
  have h5 := fun w S0 A => masked_54 key w S0 A hk
  have l9 : (str (mask key.data.toList 92)).size ≤ 64 := by rw [str_len, mask_len]; omega
  have l5 : (str (mask key.data.toList 54)).size ≤ 64 := by rw [str_len, mask_len]; omega
  have HM := Lib.hid (macS_eq key s)
  have HS := Lib.hid S0
  have HA := Lib.hid A
  obtain ⟨M9, e9⟩ : ∃ M, str (mask key.data.toList 92) = M := ⟨_, rfl⟩
  obtain ⟨M5, e5⟩ : ∃ M, str (mask key.data.toList 54) = M := ⟨_, rfl⟩
  rw [e9] at h9 l9 HM
  rw [e5] at h5 l5 HM
  clear e9 e5
  have hO1 := fun w S0 A => of_dig (M5 ++ s) w S0 A (by rw [ByteArray.size_append]; omega)
  have lD : (digS (M5 ++ s)).size ≤ 20 := by rw [digS_size]; omega
  obtain ⟨D, hD⟩ : ∃ D, digS (M5 ++ s) = D := ⟨_, rfl⟩
  rw [hD] at hO1 HM lD
  clear hD
  have hO2 := fun w S0 A => of_dig (M9 ++ D) w S0 A (by rw [ByteArray.size_append]; omega)
  obtain ⟨E, hE⟩ : ∃ E, digS (M9 ++ D) = E := ⟨_, rfl⟩
  rw [hE] at hO2 HM
  clear hE S0 A hk
  go_enter Tryd.func19, Tryd.ntmps19
  go_wp2_with fail
  refine (h9 w HS.out HA.out).mono ?_
  rintro e w1 ⟨rfl, hb1⟩
  go_wp2_with fail
  refine (h5 _ (HS.out.below hb1) (HA.out.below hb1)).mono ?_
  rintro e w2 ⟨rfl, hb2⟩
  have b2 := hb1.trans (hb2.mono hb1.size)
  clear h9 h5
  go_wp2_with fail
  refine (hO1 _ (HS.out.below b2) (HA.out.below b2)).mono ?_
  rintro e w3 ⟨rfl, hb3⟩
  have b3 := b2.trans (hb3.mono b2.size)
  go_wp2_with fail
  refine (hO2 _ (HS.out.below b3) (HA.out.below b3)).mono ?_
  rintro e w4 ⟨rfl, hb4⟩
  clear hO1 hO2
  go_wp2
  go_ret
  exact ⟨by rw [HM.out]; rfl, b3.trans (hb4.mono b3.size)⟩

set_option maxRecDepth 100000 in
set_option maxHeartbeats 1000000 in
theorem refmac_any (key s : ByteArray) (w : World) (hk : key.size ≤ 1000000) (hs : s.size ≤ 900000) : Calls Tryd.prog 15 #[.string key, .string s] w fun e w' => e = .returned (.string (macS key s)) ∧ Below w.heap.size w w' := by
  have h9 := fun w => pad_92 key w hk
  have h5 := fun w => pad_54 key w hk
  have l9 : (str (mask key.data.toList 92)).size ≤ 64 := by rw [str_len, mask_len]; omega
  have l5 : (str (mask key.data.toList 54)).size ≤ 64 := by rw [str_len, mask_len]; omega
  have HM := Lib.hid (macS_eq key s)
  obtain ⟨M9, e9⟩ : ∃ M, str (mask key.data.toList 92) = M := ⟨_, rfl⟩
  obtain ⟨M5, e5⟩ : ∃ M, str (mask key.data.toList 54) = M := ⟨_, rfl⟩
  rw [e9] at h9 l9 HM
  rw [e5] at h5 l5 HM
  clear e9 e5
  have hO1 := fun w => ref_dig (M5 ++ s) w (by rw [ByteArray.size_append]; omega)
  have lD : (digS (M5 ++ s)).size ≤ 20 := by rw [digS_size]; omega
  obtain ⟨D, hD⟩ : ∃ D, digS (M5 ++ s) = D := ⟨_, rfl⟩
  rw [hD] at hO1 HM lD
  clear hD
  have hO2 := fun w => ref_dig (M9 ++ D) w (by rw [ByteArray.size_append]; omega)
  obtain ⟨E, hE⟩ : ∃ E, digS (M9 ++ D) = E := ⟨_, rfl⟩
  rw [hE] at hO2 HM
  clear hE hk
  go_enter Tryd.func15, Tryd.ntmps15
  go_wp2_with fail
  refine (h9 w).mono ?_
  rintro e w1 ⟨rfl, hb1⟩
  go_wp2_with fail
  refine (h5 _).mono ?_
  rintro e w2 ⟨rfl, hb2⟩
  have b2 := hb1.trans (hb2.mono hb1.size)
  clear h9 h5
  go_wp2_with fail
  refine (hO1 _).mono ?_
  rintro e w3 ⟨rfl, hb3⟩
  have b3 := b2.trans (hb3.mono b2.size)
  go_wp2_with fail
  refine (hO2 _).mono ?_
  rintro e w4 ⟨rfl, hb4⟩
  clear hO1 hO2
  go_wp2
  go_ret
  exact ⟨by rw [HM.out]; rfl, b3.trans (hb4.mono b3.size)⟩

theorem mac_none : macS ⟨#[]⟩ ⟨#[]⟩ = ⟨#[251, 219, 29, 27, 24, 170, 108, 8, 50, 75, 125, 100, 183, 31, 183, 99, 112, 105, 14, 29]⟩ := by
  unfold macS
  show str (hmac [] []) = _
  rw [hmac_nil]
  rfl
end Go.Proofs.YtbdbcjhahlofiaaDoor.mac
