/- Layer 2: a check put into its place, and whether it stands there. -/
import Derived.Test.YtlegkbaaklejnaaDoorCrcB
import Derived.Test.YtlegkbaaklejnaaDoorByt
import Derived.Deep.CutRange
namespace Go.Proofs.YtlegkbaaklejnaaDoor.crc
open Go.ChangeShapes Go.WideShapes Go.ChangeAt Go.RowKit kit byt

def zer (l : List UInt8) (k : Nat) : List UInt8 := (((l.set k 0).set (k + 1) 0).set (k + 2) 0).set (k + 3) 0
def le4 (c : Nat) (n : Nat) : UInt8 := UInt8.ofNat (c / 256 ^ n % 256)
/-- Bytes in which the check of all, with noughts in its place, stands at k. -/
def put4 (l : List UInt8) (k c : Nat) : List UInt8 := (((l.set k (le4 c 0)).set (k + 1) (le4 c 1)).set (k + 2) (le4 c 2)).set (k + 3) (le4 c 3)
def sealL (l : List UInt8) (k : Nat) : List UInt8 := put4 (zer l k) k (of (zer l k))
def str (l : List UInt8) : ByteArray := ⟨l.toArray⟩
theorem zer_len (l : List UInt8) (k : Nat) : (zer l k).length = l.length := by simp [zer]
theorem put4_len (l : List UInt8) (k c : Nat) : (put4 l k c).length = l.length := by simp [put4]
theorem seal_len (l : List UInt8) (k : Nat) : (sealL l k).length = l.length := by simp [sealL, put4_len, zer_len]
theorem bv_le4 (c n : Nat) : bv (le4 c n) = .int .u8 (((c / 256 ^ n % 256 : Nat)) : Int) := by
  unfold bv le4
  rw [UInt8.toNat_ofNat']
  congr 2
  omega

theorem le4_0 (c : Nat) : bv (le4 c 0) = .int .u8 ((c : Int) % 256) := by rw [bv_le4]; congr 1; simp
theorem le4_1 (c : Nat) : bv (le4 c 1) = .int .u8 ((c : Int) / 256 % 256) := by rw [bv_le4]; congr 1
theorem le4_2 (c : Nat) : bv (le4 c 2) = .int .u8 ((c : Int) / 65536 % 256) := by rw [bv_le4]; congr 1
theorem le4_3 (c : Nat) : bv (le4 c 3) = .int .u8 ((c : Int) / 16777216 % 256) := by rw [bv_le4]; congr 1

theorem fits_yes (s : ByteArray) (k : Nat) (w : World) (hs : s.size ≤ maxLen) (h : k + 4 ≤ s.size) : Calls Tryd.prog 30 #[.string s, .int .i64 k] w fun e w' => e = .returned (.bool true) ∧ w = w' := by
  unfold maxLen at hs
  have h2 : decide ((k : Int) ≤ (s.size : Int) - 4) = true := decide_eq_true (by omega)
  go_enter Tryd.func30, Tryd.ntmps30
  go_wp2
  go_ret
  exact ⟨rfl, rfl⟩
theorem fits_no (s : ByteArray) (a : Int) (w : World) (hs : s.size ≤ maxLen) (h : ¬ (0 ≤ a ∧ a + 4 ≤ s.size)) : Calls Tryd.prog 30 #[.string s, .int .i64 a] w fun e w' => e = .returned (.bool false) ∧ w = w' := by
  unfold maxLen at hs
  by_cases h0 : 0 ≤ a
  · have h1 : ¬ a ≤ s.size - 4 := by omega
    clear h
    go_enter Tryd.func30, Tryd.ntmps30
    go_wp2
    go_ret
    exact ⟨rfl, rfl⟩
  · clear h
    have h1 : decide (0 ≤ a) = false := by simpa using h0
    go_enter Tryd.func30, Tryd.ntmps30
    go_wp2
    go_ret
    exact ⟨rfl, rfl⟩
theorem seal_no (s : ByteArray) (a : Int) (w : World) (hs : s.size ≤ maxLen) (h : ¬ (0 ≤ a ∧ a + 4 ≤ s.size)) : Calls Tryd.prog 16 #[.string s, .int .i64 a] w fun e w' => e = .returned (.string ByteArray.empty) ∧ w = w' := by
  have hF := fun w => fits_no s a w hs h
  clear h
  go_enter Tryd.func16, Tryd.ntmps16
  go_wp2_with fail
  refine (hF _).mono ?_
  rintro e w1 ⟨rfl, rfl⟩
  clear hF
  go_wp2
  go_ret
  exact ⟨rfl, rfl⟩
set_option maxRecDepth 100000 in
set_option maxHeartbeats 1000000 in
theorem seal_yes (s : ByteArray) (k : Nat) (w : World) (H : Halves w) (hs : s.size ≤ maxLen) (h : k + 4 ≤ s.size) : Calls Tryd.prog 16 #[.string s, .int .i64 k] w fun e w' => e = .returned (.string (str (sealL s.data.toList k))) ∧ Below w.heap.size w w' := by
  have hF := fun w => fits_yes s k w hs h
  have hS := Lib.hid hs
  have HH := Lib.hid H
  unfold maxLen at hs
  clear H
  have hcv := fun w => run_bytes_of_string (P := Tryd.prog) w 9 30 5 s Tryd.underlying9 Tryd.underlying30 Tryd.underlying5
  go_enter Tryd.func16, Tryd.ntmps16
  go_wp2_with fail
  refine (hF _).mono ?_
  rintro e w1 ⟨rfl, rfl⟩
  clear hF
  go_upto_region 4 with (fail)
  have I0 := (isBytes_new w s (grownCap w s.size 0 5) 5).drew
  have bel0 := (((Below.refl w.heap.size w).alloc (Nat.le_refl _) (.cells (bytesRow s (grownCap w s.size 0 5)) 5 ((bytesRow s (grownCap w s.size 0 5)).size, (bytesRow s (grownCap w s.size 0 5)).size + 1)))).drew
  have hc0 := grownCap_ge w s.size 0 5
  generalize (w.alloc (.cells (bytesRow s (grownCap w s.size 0 5)) 5 ((bytesRow s (grownCap w s.size 0 5)).size, (bytesRow s (grownCap w s.size 0 5)).size + 1))).drew = w1 at *
  generalize grownCap w s.size 0 5 = cap at *
  clear hcv
  have hcl := fun ty c => Lib.run_clear_slice (P := Tryd.prog) w1 30 5 ty (bv 0) Tryd.underlying30 Tryd.zeroValue5 rfl rfl w.heap.size k 4 c (by decide) (fun j hj => by rw [I0.cell (by simp; omega)]; rfl) (fun j hj => I0.free (by simp; omega))
  have hne : ¬ cap = k := by omega
  go_upto_region 5 with (fail)
  clear hcl hne
  have I2 : IsBytes (w1.setCells w.heap.size k [bv 0, bv 0, bv 0, bv 0]) w.heap.size (zer s.data.toList k) := (((I0.set_ k 0).set_ (k + 1) 0).set_ (k + 2) 0).set_ (k + 3) 0
  have bel2 : Below w.heap.size w (w1.setCells w.heap.size k [bv 0, bv 0, bv 0, bv 0]) := (((bel0.setCell (p := ⟨w.heap.size, k, none⟩) (Nat.le_refl _) (bv 0)).setCell (p := ⟨w.heap.size, k + 1, none⟩) (Nat.le_refl _) (bv 0)).setCell (p := ⟨w.heap.size, k + 2, none⟩) (Nat.le_refl _) (bv 0)).setCell (p := ⟨w.heap.size, k + 3, none⟩) (Nat.le_refl _) (bv 0)
  generalize w1.setCells w.heap.size k [bv 0, bv 0, bv 0, bv 0] = w2 at *
  clear I0 bel0
  have hz := zer_len s.data.toList k
  have hl : s.data.toList.length = s.size := by simp
  obtain ⟨z, hzz⟩ : ∃ z, zer s.data.toList k = z := ⟨_, rfl⟩
  have HZ := Lib.hid hzz
  rw [hzz] at I2 hz
  have hcb := conv_bytes (P := Tryd.prog) Tryd.underlying30 Tryd.underlying5 Tryd.underlying9 I2 s.size cap (by omega)
  have hO := of_any (str z) w2 (HH.out.below bel2) (by rw [show (str z).size = z.length from by simp [str, ByteArray.size], hz, hl]; exact hS.out)
  have ez : ofS (str z) = of z := by simp [ofS, str]
  rw [ez] at hO
  have hzl : z.length = s.size := by omega
  have HL := Lib.hid hzl
  clear hzz hz hl ez hzl
  unfold str at hO
  go_wp2_with fail
  refine hO.mono ?_
  rintro e w3 ⟨rfl, hb3⟩
  have I3 := I2.below hb3 I2.lt
  have bel3 := bel2.trans (hb3.mono bel2.size)
  obtain ⟨c, hc⟩ : ∃ c, of z = c := ⟨_, rfl⟩
  have HC := Lib.hid hc
  rw [hc]
  clear hc hcb hO hb3 I2 bel2
  have hl := HL.out
  obtain ⟨u0, c0⟩ : ∃ u, w3.cell? ⟨w.heap.size, k, none⟩ = some u := ⟨_, I3.cell (j := k) (by omega)⟩
  obtain ⟨u1, c1⟩ : ∃ u, w3.cell? ⟨w.heap.size, k + 1, none⟩ = some u := ⟨_, I3.cell (j := k + 1) (by omega)⟩
  obtain ⟨u2, c2⟩ : ∃ u, w3.cell? ⟨w.heap.size, k + 2, none⟩ = some u := ⟨_, I3.cell (j := k + 2) (by omega)⟩
  obtain ⟨u3, c3⟩ : ∃ u, w3.cell? ⟨w.heap.size, k + 3, none⟩ = some u := ⟨_, I3.cell (j := k + 3) (by omega)⟩
  have f0 := I3.free (j := k) (by omega)
  have f1 := I3.free (j := k + 1) (by omega)
  have f2 := I3.free (j := k + 2) (by omega)
  have f3 := I3.free (j := k + 3) (by omega)
  clear hl
  go_wp2
  refine wp_loop_rounds 5 ?_
  iterate 5 (rw [rounds_succ]; go_wp2)
  have I4 := (((I3.set_ k (le4 c 0)).set_ (k + 1) (le4 c 1)).set_ (k + 2) (le4 c 2)).set_ (k + 3) (le4 c 3)
  rw [le4_0, le4_1, le4_2, le4_3] at I4
  rw [conv_bytes (P := Tryd.prog) Tryd.underlying30 Tryd.underlying5 Tryd.underlying9 I4 s.size cap (by simp [HL.out])]
  go_wp2
  go_ret
  unfold sealL
  rw [HZ.out, HC.out]
  exact ⟨rfl, (((bel3.setCell (p := ⟨w.heap.size, k, none⟩) (Nat.le_refl _) _).setCell (p := ⟨w.heap.size, k + 1, none⟩) (Nat.le_refl _) _).setCell (p := ⟨w.heap.size, k + 2, none⟩) (Nat.le_refl _) _).setCell (p := ⟨w.heap.size, k + 3, none⟩) (Nat.le_refl _) _⟩

theorem sealed_no (s : ByteArray) (a : Int) (w : World) (hs : s.size ≤ maxLen) (h : ¬ (0 ≤ a ∧ a + 4 ≤ s.size)) : Calls Tryd.prog 17 #[.string s, .int .i64 a] w fun e w' => e = .returned (.bool false) ∧ w = w' := by
  have hF := fun w => fits_no s a w hs h
  clear h
  go_enter Tryd.func17, Tryd.ntmps17
  go_wp2_with fail
  refine (hF _).mono ?_
  rintro e w1 ⟨rfl, rfl⟩
  clear hF
  go_wp2
  go_ret
  exact ⟨rfl, rfl⟩
/-- Does a check stand at k? -/
def sealedB (s : ByteArray) (k : Nat) : Bool := (str (sealL s.data.toList k)).toList == s.toList
theorem sealed_yes (s : ByteArray) (k : Nat) (w : World) (H : Halves w) (hs : s.size ≤ maxLen) (h : k + 4 ≤ s.size) : Calls Tryd.prog 17 #[.string s, .int .i64 k] w fun e w' => e = .returned (.bool (sealedB s k)) ∧ Below w.heap.size w w' := by
  have hF := fun w => fits_yes s k w hs h
  have hS := seal_yes s k w H hs h
  clear h
  unfold sealedB
  go_enter Tryd.func17, Tryd.ntmps17
  go_wp2_with fail
  refine (hF _).mono ?_
  rintro e w1 ⟨rfl, rfl⟩
  clear hF
  go_wp2_with fail
  refine hS.mono ?_
  rintro e w1 ⟨rfl, hb⟩
  clear hS
  go_wp2
  go_ret
  exact ⟨rfl, hb⟩
end Go.Proofs.YtlegkbaaklejnaaDoor.crc
