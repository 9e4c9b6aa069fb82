/- Layer 9: seals of bytes by a key, by the program and by the document. -/
import Derived.Test.YtbdbcjhahlofiaaDoorMacA
namespace Go.Proofs.YtbdbcjhahlofiaaDoor.mac
open Go.ChangeShapes Go.WideShapes Go.ChangeAt Go.RowKit kit byt dig
open oct

theorem take_str (l : List UInt8) (i : Nat) (h : i < l.length) : str (l.take i) ++ ⟨#[l[i]]⟩ = str (l.take (i + 1)) := by
  apply ByteArray.ext
  apply Array.toList_inj.1
  rw [ByteArray.data_append, Array.toList_append, str_data, str_data, List.take_succ_eq_append_getElem h]
theorem mask_at (k : List UInt8) (b : UInt8) (i : Nat) (h : i < 64) : ∃ hh, (mask k b)[i]'hh = (keyL k).getD i 0 ^^^ b := ⟨by rw [mask_len]; exact h, by simp [mask]⟩

set_option maxRecDepth 100000 in
set_option maxHeartbeats 1000000 in
theorem pad_any (key : ByteArray) (b : UInt8) (w : World) (hk : key.size ≤ 1000000) : Calls Tryd.prog 28 #[.string key, .int .u8 (b.toNat : Int)] w fun e w' => e = .returned (.string (str (mask key.data.toList b))) ∧ Below w.heap.size w w' := by
  have hO := ref_dig key w hk
  have hks := key_str key
  have hks' := key_str' key
  have hKl := keyL_len key.data.toList
  have hKs : (str (keyL key.data.toList)).size = (keyL key.data.toList).length := str_len _
  have hat := fun i h => mask_at key.data.toList b i h
  have hml := mask_len key.data.toList b
  have HAT := Lib.hid hat
  have HML := Lib.hid hml
  have HKL := Lib.hid hKl
  have HKS := Lib.hid hKs
  clear hat hml hKl hKs
  obtain ⟨K, hK⟩ : ∃ K, str (keyL key.data.toList) = K := ⟨_, rfl⟩
  have HKD := Lib.hid (show K.data.toList = keyL key.data.toList by rw [← hK, str_data])
  rw [hK] at hks hks' HKS
  have hK64 : K.size ≤ 64 := by rw [HKS.out]; exact HKL.out
  clear hK
  generalize keyL key.data.toList = kl at *
  obtain ⟨ml, hm⟩ : ∃ ml, mask key.data.toList b = ml := ⟨_, rfl⟩
  have HM := Lib.hid hm
  rw [hm] at HML
  have HAT2 := Lib.hid (show ∀ i (h : i < 64), ∃ hh, ml[i]'hh = kl.getD i 0 ^^^ b by rw [← hm]; exact HAT.out)
  clear hm HAT
  go_enter Tryd.func28, Tryd.ntmps28
  go_upto_if 12 with (fail)
  go_cut [5] (fun s0 wx => s0 = .string K ∧ Below w.heap.size w wx)
  case first =>
    by_cases h : 64 < key.size
    · have HK := Lib.hid (hks h)
      have hd : decide ((64 : Int) < key.size) = true := decide_eq_true (by omega)
      clear hks hks'
      go_wp2_with fail
      refine hO.mono ?_
      rintro e w1 ⟨rfl, hb1⟩
      rw [HK.out]
      go_wp2
      go_meet
      exact ⟨rfl, hb1⟩
    · have HK := Lib.hid (hks' h)
      have hd : decide ((64 : Int) < key.size) = false := decide_eq_false (by omega)
      clear hks hks' hO
      go_wp2
      go_meet
      exact ⟨by rw [← HK.out], Below.refl _ _⟩
  case rest =>
  obtain ⟨rfl, bel⟩ := hcut
  clear hks hks' hO
  go_wp2
  go_loopw [6, 7] (fun s6 s7 wr => ∃ (i : Nat) (T : ByteArray), i ≤ 64 ∧ s7 = .int .i64 i ∧ T = str (ml.take i) ∧ s6 = .string T ∧ Below w.heap.size w wr) (fun _ s7 _ => 64 - (intOf s7).toNat)
  case atStart => exact ⟨0, _, by omega, rfl, rfl, rfl, bel⟩
  case round =>
    clear bel
    obtain ⟨i, T, hi, rfl, hT, rfl, bel⟩ := hrel
    by_cases hlt : i < 64
    · obtain ⟨hh, he⟩ := HAT2.out i hlt
      have HT := Lib.hid (show T ++ ⟨#[ml[i]]⟩ = str (ml.take (i + 1)) by rw [hT]; exact take_str ml i hh)
      have hTs : T.size ≤ 64 := by rw [hT, str_len]; simp; omega
      obtain ⟨c, hc⟩ : ∃ c, ml[i]'hh = c := ⟨_, rfl⟩
      rw [hc] at HT he
      have hcv := fun W => conv_bytes (P := Tryd.prog) Tryd.underlying38 Tryd.underlying5 Tryd.underlying9 (isBytes_cells W [c] 5) 1 1 rfl
      simp only [List.map_cons, List.map_nil] at hcv
      unfold bv at hcv
      have hsz : (⟨#[c]⟩ : ByteArray).size ≤ 1 := Nat.le_refl 1
      have hd64 : decide ((i : Int) < 64) = true := decide_eq_true (by omega)
      clear hT hc
      by_cases hik : i < K.size
      · have hx : K[i] = kl.getD i 0 := by
          have := HKD.out
          rw [← this, List.getD_eq_getElem?_getD, List.getElem?_eq_getElem (by simpa using hik)]
          rfl
        have h1 : bits .xor .u8 (b.toNat : Int) (K[i].toNat : Int) = (c.toNat : Int) := by
          rw [xor8, hx, he, UInt8.xor_comm]
        clear hx he
        go_wp2
        clear h1 hcv hd64
        go_roundw
        case rel => exact ⟨i + 1, _, by omega, by go_num, HT.out, rfl, bel.alloc bel.size _⟩
        case measure => simp [intOf]; omega
      · have hx : kl.getD i 0 = 0 := by
          have : kl.length ≤ i := by rw [← HKS.out]; omega
          rw [List.getD_eq_getElem?_getD, List.getElem?_eq_none this]; rfl
        have hcb : b = c := by rw [he, hx, UInt8.zero_xor]
        subst hcb
        clear hx he
        go_wp2
        clear hcv hd64
        go_roundw
        case rel => exact ⟨i + 1, _, by omega, by go_num, HT.out, rfl, bel.alloc bel.size _⟩
        case measure => simp [intOf]; omega
    · have hi' : i = 64 := by omega
      have HTT := Lib.hid (show T = str (mask key.data.toList b) by rw [hT, HM.out, List.take_of_length_le (by rw [HML.out]; omega)])
      clear hT
      go_wp2
      go_ret
      rw [HTT.out]
      exact ⟨rfl, bel⟩
end Go.Proofs.YtbdbcjhahlofiaaDoor.mac
