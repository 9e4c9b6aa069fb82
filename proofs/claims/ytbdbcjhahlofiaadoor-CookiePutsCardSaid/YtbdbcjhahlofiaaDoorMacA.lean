/- Layer 9: a key as a block, each byte changed; by the program and by the document. -/
import Derived.Test.YtbdbcjhahlofiaaDoorDigI
import Derived.Laws.IdiomCopy
namespace Go.Proofs.YtbdbcjhahlofiaaDoor.mac
open Go.ChangeShapes Go.WideShapes Go.ChangeAt Go.RowKit kit byt dig
open oct

def keyL (k : List UInt8) : List UInt8 := if 64 < k.length then dig k else k
def mask (k : List UInt8) (b : UInt8) : List UInt8 := (List.range 64).map fun i => (keyL k).getD i 0 ^^^ b
def hmac (k s : List UInt8) : List UInt8 := dig (mask k 92 ++ dig (mask k 54 ++ s))
theorem keyL_len (k : List UInt8) : (keyL k).length ≤ 64 := by
  unfold keyL
  split
  · rw [dig_len]; decide
  · omega
theorem mask_len (k : List UInt8) (b : UInt8) : (mask k b).length = 64 := by simp [mask]
theorem hmac_len (k s : List UInt8) : (hmac k s).length = 20 := dig_len _
def str (l : List UInt8) : ByteArray := ⟨l.toArray⟩
theorem str_data (l : List UInt8) : (str l).data.toList = l := by simp [str]
theorem str_len (l : List UInt8) : (str l).size = l.length := by simp [str, ByteArray.size]
theorem str_self (s : ByteArray) : str s.data.toList = s := rfl
theorem digS_eq (s : ByteArray) : digS s = str (dig s.data.toList) := rfl
theorem hmac_nil : hmac [] [] = [251, 219, 29, 27, 24, 170, 108, 8, 50, 75, 125, 100, 183, 31, 183, 99, 112, 105, 14, 29] := by decide +kernel

/-- 'copy(b, s)' of a string that fits. -/
theorem run_copy_str {P : Program} (w : World) (dT sT ty elem : TypeId) (g cap : Nat) (s : ByteArray) (dl : Nat) (hu : P.underlying dT = some (.slice elem)) (hz : (P.info? elem).map (·.size) = some 1) (hs : s.size ≤ dl)
    {l : List UInt8} (I : IsBytes w g l) (hl : l.length = dl) :
    (Builtin.copy_ #[dT, sT] ty #[.slice (some ⟨g, 0, none⟩) dl cap, .string s]).run P w = .ok (.int .i64 s.size) (w.setCells g 0 (s.data.toList.map bv)) := by
  have hst := run_storeCells_cells (P := P) g 0 (s.data.toList.map bv) 0 w (fun j hj => by
      have hj' : j < s.size := by simpa using hj
      simp only [Nat.zero_add]
      rw [I.cell (by omega)]; rfl) (fun j hj => by
      have hj' : j < s.size := by simpa using hj
      simp only [Nat.zero_add]
      exact I.free (by omega)) (by
      intro v hv
      obtain ⟨b, _, rfl⟩ := List.mem_map.1 hv
      rfl)
  cases hi : P.info? elem with
  | none => rw [hi] at hz; cases hz
  | some i =>
    have hmin : Nat.min s.size dl = s.size := Nat.min_eq_left hs
    have hc : List.take s.size (s.data.toList.map fun b => Value.int .u8 (b.toNat : Int)) = s.data.toList.map bv := by
      rw [List.take_of_length_le (by simp)]
      rfl
    rw [Nat.zero_add] at hst
    simp [Builtin.copy_, run_underlying hu, Builtin.lenOf, sizeOf, typeInfo, hi, Builtin.firstCells, hmin, goInt, hc, hst]

theorem set_cells {w : World} {g : Nat} {l : List UInt8} (I : IsBytes w g l) (m : List UInt8) (h : m.length ≤ l.length) : IsBytes (w.setCells g 0 (m.map bv)) g (m ++ l.drop m.length) := by
  have hin := World.cell?_setCells_in g (m.map bv) 0 w (fun j hj => by
    have hj' : j < m.length := by simpa using hj
    rw [Nat.zero_add, I.cell (by omega)]; rfl)
  refine ⟨?_, fun j hj => ⟨?_, ?_⟩⟩
  · have : ∀ (vs : List Value) (o : Nat) (w : World), (w.setCells g o vs).heap.size = w.heap.size := by
      intro vs
      induction vs with
      | nil => intro o w; rfl
      | cons v vs ih => intro o w; show ((w.setCell ⟨g, o, none⟩ v).setCells g (o + 1) vs).heap.size = _; rw [ih]; simp
    rw [this]; exact I.lt
  · by_cases hm : j < m.length
    · have := hin j (by simpa using hm)
      rw [Nat.zero_add] at this
      rw [this]
      simp [List.getElem_append, hm]
    · have hjl : j < l.length := by simp at hj; omega
      rw [World.cell?_setCells_out g (m.map bv) 0 w ⟨g, j, none⟩ (fun _ _ => .inr (by simp; omega)), I.cell hjl]
      congr 2
      rw [List.getElem_append_right (by omega), List.getElem_drop]
      congr 1
      omega
  · rw [World.frozen?_setCells]
    exact I.free (by simp at hj; omega)
theorem xor8 (x b : UInt8) : bits .xor .u8 (x.toNat : Int) (b.toNat : Int) = ((x ^^^ b).toNat : Int) := by
  rw [u8_xor_nat _ _ x.toNat_lt b.toNat_lt, UInt8.toNat_xor]
/-- The block while it is changed: up to n it is. -/
def mixL (k : List UInt8) (b : UInt8) (n : Nat) : List UInt8 := (List.range 64).map fun i => if i < n then (keyL k).getD i 0 ^^^ b else (keyL k).getD i 0
theorem mix_len (k : List UInt8) (b : UInt8) (n : Nat) : (mixL k b n).length = 64 := by simp [mixL]
theorem mix_at (k : List UInt8) (b : UInt8) (n i : Nat) (h : i < 64) : (mixL k b n)[i]? = some (if i < n then (keyL k).getD i 0 ^^^ b else (keyL k).getD i 0) := by simp [mixL, h]
theorem mix_set (k : List UInt8) (b : UInt8) (n : Nat) (h : n < 64) : (mixL k b n).set n ((keyL k).getD n 0 ^^^ b) = mixL k b (n + 1) := by
  apply List.ext_getElem?
  intro i
  by_cases hi : i < 64
  · rw [mix_at k b (n + 1) i hi]
    by_cases e : n = i
    · subst e
      rw [List.getElem?_set_self (by rw [mix_len]; exact h), if_pos (by omega)]
    · rw [List.getElem?_set_ne e, mix_at k b n i hi]
      by_cases h1 : i < n
      · rw [if_pos h1, if_pos (by omega)]
      · rw [if_neg h1, if_neg (by omega)]
  · rw [List.getElem?_eq_none (by rw [List.length_set, mix_len]; omega), List.getElem?_eq_none (by rw [mix_len]; omega)]
theorem mix_zero (k : List UInt8) (b : UInt8) : keyL k ++ (List.replicate 64 (0 : UInt8)).drop (keyL k).length = mixL k b 0 := by
  have hk := keyL_len k
  apply List.ext_getElem?
  intro i
  by_cases hi : i < 64
  · rw [mix_at k b 0 i hi, if_neg (by omega), List.getElem?_append]
    split
    · rename_i h; rw [List.getD_eq_getElem?_getD, List.getElem?_eq_getElem h]; rfl
    · rename_i h
      rw [List.drop_replicate, List.getElem?_replicate, if_pos (by omega), List.getD_eq_getElem?_getD, List.getElem?_eq_none (by omega)]; rfl
  · rw [List.getElem?_eq_none (by simp; omega), List.getElem?_eq_none (by rw [mix_len]; omega)]
theorem mix_all (k : List UInt8) (b : UInt8) : mixL k b 64 = mask k b := by
  unfold mixL mask
  apply List.map_congr_left
  intro i hi
  rw [if_pos (by simpa using hi)]
theorem key_str (key : ByteArray) (h : 64 < key.size) : digS key = str (keyL key.data.toList) := by
  unfold keyL
  rw [if_pos (by simpa using h)]
  rfl
theorem key_str' (key : ByteArray) (h : ¬ 64 < key.size) : key = str (keyL key.data.toList) := by
  unfold keyL
  rw [if_neg (by simpa using h)]
  rfl

theorem below_setCells {B g : Nat} {a w : World} (h : Below B a w) (hg : B ≤ g) : ∀ (o : Nat) (vs : List Value), Below B a (w.setCells g o vs) := by
  intro o vs
  induction vs generalizing o w with
  | nil => exact h
  | cons v vs ih => exact ih (h.setCell (p := ⟨g, o, none⟩) hg v) (o + 1)

set_option maxRecDepth 100000 in
set_option maxHeartbeats 1000000 in
theorem masked_any (key : ByteArray) (b : UInt8) (w : World) (S0 : Starts w) (A : Added w) (hk : key.size ≤ 1000000) : Calls Tryd.prog 33 #[.string key, .int .u8 (b.toNat : Int)] w fun e w' => e = .returned (.string (str (mask key.data.toList b))) ∧ Below w.heap.size w w' := by
  have hO := of_dig key w S0 A hk
  have hks := key_str key
  have hks' := key_str' key
  have hKl := keyL_len key.data.toList
  have hKs : (str (keyL key.data.toList)).size = (keyL key.data.toList).length := str_len _
  have HM := Lib.hid (show mask key.data.toList b = mixL key.data.toList b 64 from (mix_all _ _).symm)
  have hset := fun n h => mix_set key.data.toList b n h
  have hat := fun n i h => mix_at key.data.toList b n i h
  have hz := mix_zero key.data.toList b
  have hml := fun n => mix_len key.data.toList b n
  have HSET := Lib.hid hset
  have HAT := Lib.hid hat
  have HZ := Lib.hid hz
  have HML := Lib.hid hml
  have HKL := Lib.hid hKl
  have HKS := Lib.hid hKs
  clear S0 A hset hat hz hml hKl hKs
  obtain ⟨K, hK⟩ : ∃ K, str (keyL key.data.toList) = K := ⟨_, rfl⟩
  have HKD := Lib.hid (show K.data.toList = keyL key.data.toList by rw [← hK, str_data])
  rw [hK] at hks hks' HKS
  have hK64 : K.size ≤ 64 := by rw [HKS.out]; exact HKL.out
  clear hK
  generalize keyL key.data.toList = kl at *
  go_enter Tryd.func33, Tryd.ntmps33
  go_upto_if 9 with (fail)
  go_cut [0] (fun s0 wx => s0 = .string K ∧ Below w.heap.size w wx)
  case first =>
    by_cases h : 64 < key.size
    · have HK := Lib.hid (hks h)
      have hd : decide ((64 : Int) < key.size) = true := decide_eq_true (by omega)
      clear hks hks'
      go_wp2_with fail
      refine hO.mono ?_
      rintro e w1 ⟨rfl, hb1⟩
      rw [HK.out]
      go_wp2
      go_meet
      exact ⟨rfl, hb1⟩
    · have HK := Lib.hid (hks' h)
      have hd : decide ((64 : Int) < key.size) = false := decide_eq_false (by omega)
      clear hks hks' hO
      go_wp2
      go_meet
      exact ⟨by rw [← HK.out], Below.refl _ _⟩
  case rest =>
  obtain ⟨rfl, bel⟩ := hcut
  clear hks hks' hO
  go_upto_region 4 with (fail)
  have hin : List.replicate 64 (0 : UInt8) = [0, 0, 0, 0, 0, 0, 0, 0, 0, 0, 0, 0, 0, 0, 0, 0, 0, 0, 0, 0, 0, 0, 0, 0, 0, 0, 0, 0, 0, 0, 0, 0, 0, 0, 0, 0, 0, 0, 0, 0, 0, 0, 0, 0, 0, 0, 0, 0, 0, 0, 0, 0, 0, 0, 0, 0, 0, 0, 0, 0, 0, 0, 0, 0] := rfl
  have I0 : IsBytes (wc.alloc (.cells #[.int .u8 0, .int .u8 0, .int .u8 0, .int .u8 0, .int .u8 0, .int .u8 0, .int .u8 0, .int .u8 0, .int .u8 0, .int .u8 0, .int .u8 0, .int .u8 0, .int .u8 0, .int .u8 0, .int .u8 0, .int .u8 0, .int .u8 0, .int .u8 0, .int .u8 0, .int .u8 0, .int .u8 0, .int .u8 0, .int .u8 0, .int .u8 0, .int .u8 0, .int .u8 0, .int .u8 0, .int .u8 0, .int .u8 0, .int .u8 0, .int .u8 0, .int .u8 0, .int .u8 0, .int .u8 0, .int .u8 0, .int .u8 0, .int .u8 0, .int .u8 0, .int .u8 0, .int .u8 0, .int .u8 0, .int .u8 0, .int .u8 0, .int .u8 0, .int .u8 0, .int .u8 0, .int .u8 0, .int .u8 0, .int .u8 0, .int .u8 0, .int .u8 0, .int .u8 0, .int .u8 0, .int .u8 0, .int .u8 0, .int .u8 0, .int .u8 0, .int .u8 0, .int .u8 0, .int .u8 0, .int .u8 0, .int .u8 0, .int .u8 0, .int .u8 0] 75)) wc.heap.size (List.replicate 64 0) := by rw [hin]; exact isBytes_cells wc [0, 0, 0, 0, 0, 0, 0, 0, 0, 0, 0, 0, 0, 0, 0, 0, 0, 0, 0, 0, 0, 0, 0, 0, 0, 0, 0, 0, 0, 0, 0, 0, 0, 0, 0, 0, 0, 0, 0, 0, 0, 0, 0, 0, 0, 0, 0, 0, 0, 0, 0, 0, 0, 0, 0, 0, 0, 0, 0, 0, 0, 0, 0, 0] _
  have bel0 := bel.alloc bel.size (.cells #[.int .u8 0, .int .u8 0, .int .u8 0, .int .u8 0, .int .u8 0, .int .u8 0, .int .u8 0, .int .u8 0, .int .u8 0, .int .u8 0, .int .u8 0, .int .u8 0, .int .u8 0, .int .u8 0, .int .u8 0, .int .u8 0, .int .u8 0, .int .u8 0, .int .u8 0, .int .u8 0, .int .u8 0, .int .u8 0, .int .u8 0, .int .u8 0, .int .u8 0, .int .u8 0, .int .u8 0, .int .u8 0, .int .u8 0, .int .u8 0, .int .u8 0, .int .u8 0, .int .u8 0, .int .u8 0, .int .u8 0, .int .u8 0, .int .u8 0, .int .u8 0, .int .u8 0, .int .u8 0, .int .u8 0, .int .u8 0, .int .u8 0, .int .u8 0, .int .u8 0, .int .u8 0, .int .u8 0, .int .u8 0, .int .u8 0, .int .u8 0, .int .u8 0, .int .u8 0, .int .u8 0, .int .u8 0, .int .u8 0, .int .u8 0, .int .u8 0, .int .u8 0, .int .u8 0, .int .u8 0, .int .u8 0, .int .u8 0, .int .u8 0, .int .u8 0] 75)
  have hg := bel.size
  generalize wc.alloc (.cells #[.int .u8 0, .int .u8 0, .int .u8 0, .int .u8 0, .int .u8 0, .int .u8 0, .int .u8 0, .int .u8 0, .int .u8 0, .int .u8 0, .int .u8 0, .int .u8 0, .int .u8 0, .int .u8 0, .int .u8 0, .int .u8 0, .int .u8 0, .int .u8 0, .int .u8 0, .int .u8 0, .int .u8 0, .int .u8 0, .int .u8 0, .int .u8 0, .int .u8 0, .int .u8 0, .int .u8 0, .int .u8 0, .int .u8 0, .int .u8 0, .int .u8 0, .int .u8 0, .int .u8 0, .int .u8 0, .int .u8 0, .int .u8 0, .int .u8 0, .int .u8 0, .int .u8 0, .int .u8 0, .int .u8 0, .int .u8 0, .int .u8 0, .int .u8 0, .int .u8 0, .int .u8 0, .int .u8 0, .int .u8 0, .int .u8 0, .int .u8 0, .int .u8 0, .int .u8 0, .int .u8 0, .int .u8 0, .int .u8 0, .int .u8 0, .int .u8 0, .int .u8 0, .int .u8 0, .int .u8 0, .int .u8 0, .int .u8 0, .int .u8 0, .int .u8 0] 75) = w1 at *
  generalize wc.heap.size = g at *
  clear bel hin
  have hcp := fun ty => run_copy_str (P := Tryd.prog) w1 38 9 ty 5 g 64 K 64 Tryd.underlying38 (by kernel_rfl) hK64 I0 rfl
  have I1 : IsBytes (w1.setCells g 0 (K.data.toList.map bv)) g (mixL key.data.toList b 0) := by
    have h := set_cells I0 K.data.toList (by have := hK64; simpa using this)
    rw [show K.data.toList ++ (List.replicate 64 (0 : UInt8)).drop K.data.toList.length = mixL key.data.toList b 0 by rw [HKD.out]; exact HZ.out] at h
    exact h
  have bel1 : Below w.heap.size w (w1.setCells g 0 (K.data.toList.map bv)) := below_setCells bel0 hg _ _
  go_upto_region 5 with (fail)
  generalize w1.setCells g 0 (K.data.toList.map bv) = w2 at *
  clear hcp I0 bel0 HKD HZ HKL HKS hK64
  go_wp2
  go_loopw [15] (fun s15 wr => ∃ n : Nat, n ≤ 64 ∧ s15 = .int .i64 n ∧ IsBytes wr g (mixL key.data.toList b n) ∧ Below w.heap.size w wr) (fun s15 _ => 64 - (intOf s15).toNat)
  case atStart => exact ⟨0, by omega, rfl, I1, bel1⟩
  case round =>
    clear I1 bel1
    obtain ⟨n, hn, rfl, I, bel⟩ := hrel
    have hl := HML.out n
    by_cases hlt : n < 64
    · have c0 := I.cell (j := n) (by omega)
      have f0 := I.free (j := n) (by omega)
      have ha := HAT.out n n hlt
      rw [if_neg (by omega)] at ha
      obtain ⟨x, hx⟩ : ∃ x, kl.getD n 0 = x := ⟨_, rfl⟩
      have HS := Lib.hid (HSET.out n hlt)
      rw [hx] at ha HS
      rw [List.getElem?_eq_getElem (by omega)] at ha
      rw [Option.some.inj ha] at c0
      unfold bv at c0
      have hx8 := xor8 x b
      have hd : decide ((n : Int) < 64) = true := decide_eq_true (by omega)
      clear ha hx hl
      go_wp2
      clear c0 f0 hx8 hd
      go_roundw
      case rel => exact ⟨n + 1, by omega, by go_num, by have h := I.set_ n (x ^^^ b); rw [HS.out] at h; exact h, bel.setCell (p := ⟨g, n, none⟩) hg _⟩
      case measure => simp [intOf]; omega
    · have hn' : n = 64 := by omega
      subst hn'
      have hcv := conv_bytes (P := Tryd.prog) Tryd.underlying38 Tryd.underlying5 Tryd.underlying9 I 64 64 hl.symm
      clear hl
      go_wp2
      go_ret
      rw [HM.out]
      exact ⟨rfl, bel⟩
end Go.Proofs.YtbdbcjhahlofiaaDoor.mac
