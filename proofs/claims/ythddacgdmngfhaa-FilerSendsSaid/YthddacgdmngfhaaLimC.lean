/- Layer 40: a sender that holds objects; an object's first piece. -/
import Derived.Test.YthddacgdmngfhaaLimB
namespace Go.Proofs.Ythddacgdmngfhaa.fil
open Go.Sort (grow)
open Go.ChangeShapes Go.WideShapes Go.ChangeAt Go.RowKit kit oct byt
set_option maxRecDepth 100000

def X1s : ByteArray := ⟨#[120]⟩
/-- The objects 0, 1, .. that wait. -/
def sdr (i : Int) : Array Value := #[.int .u32 i, .string ⟨#[120]⟩, .int .i64 0]
def cellsD : Nat → List Value
  | 0 => []
  | n + 1 => cellsD n ++ (sdr n).toList
theorem cellsD_len (n : Nat) : (cellsD n).length = n * 3 := by
  induction n with
  | zero => rfl
  | succ n ih => rw [cellsD, List.length_append, ih]; show n * 3 + 3 = _; omega
theorem cellsD_at (n k j : Nat) (u : Value) (hk : k < n) (hu : (sdr k)[j]? = some u) : (cellsD n)[k * 3 + j]? = some u := by
  induction n with
  | zero => omega
  | succ n ih =>
    have hj : j < 3 := (Array.getElem?_eq_some_iff.1 hu).1
    rw [cellsD]
    by_cases h : k < n
    · rw [List.getElem?_append_left (by rw [cellsD_len]; omega)]
      exact ih h
    · obtain rfl : k = n := by omega
      rw [List.getElem?_append_right (by rw [cellsD_len]; omega), cellsD_len, show k * 3 + j - k * 3 = j by omega]
      simpa using hu
theorem cel_d {w : World} {h n : Nat} (C : Cel w h 0 (cellsD n).toArray) (k : Nat) (hk : k < n) : Cel w h (k * 3) (sdr k) :=
  ⟨C.1, fun j u hu => by
    have := C.2 (k * 3 + j) u (by simpa using cellsD_at n k j u hk hu)
    rwa [Nat.zero_add] at this⟩
theorem szD (i : Int) : (Try.prog.info? 168).map (·.size) = some (#[.int .u32 i, .string ⟨#[120]⟩, .int .i64 0] : Array Value).size := by show _ = some 3; kernel_rfl
theorem same_any (x y a : Int) (d D : ByteArray) (ob : Nat) (w : World) (B : Blk w ob 57 #[.int .u32 y, .string D]) : Calls Try.prog 88 #[.agg #[.int .u32 x, .string d, .int .i64 a], .pointer (some ⟨ob, 0, none⟩)] w fun e w' => e = .returned (.bool (decide (x = y))) ∧ Below w.heap.size w w' := by
  have b0 : (w.alloc (.cells #[.int .u32 x, .string d, .int .i64 a] 168)).cell? ⟨ob, 0, none⟩ = some (.int .u32 y) := (B.alloc _).cell 0
  go_enter Try.func88, Try.ntmps88
  go_wp2_with fail
  all_goals
    go_ret
    exact ⟨by first | rfl | exact ret_bool (by simp), (Below.refl _ _).alloc (Nat.le_refl _) _⟩
set_option maxHeartbeats 1000000 in
theorem idx_none (oa : Option Addr) (h n cap i ob : Nat) (D : ByteArray) (w : World) (hn : n ≤ 16) (hc : n ≤ cap) (hcm : cap ≤ maxLen) (hoa : 0 < n → oa = some ⟨h, 0, none⟩) (hh : 0 < n → h < w.heap.size) (hC : ∀ k, k < n → Cel w h (k * 3) (sdr k)) (hi : n ≤ i) (B : Blk w ob 57 #[.int .u32 i, .string D]) :
    Calls Try.prog 144 #[.slice oa n cap, .func (.func 88) #[] #[.pointer (some ⟨ob, 0, none⟩)]] w fun e w' => e = .returned (.int .i64 (-1)) ∧ Below w.heap.size w w' := by
  unfold maxLen at hcm
  have HH := Lib.hid (And.intro hoa (And.intro hh hC))
  clear hoa hh hC
  go_enter Try.func144, Try.ntmps144
  go_wp2_with fail
  go_loopw [8] (fun s8 wr => ∃ k : Nat, k ≤ n ∧ s8 = .int .i64 k ∧ Below w.heap.size w wr) (fun s8 _ => n - (intOf s8).toNat)
  case atStart => exact ⟨0, by omega, rfl, Below.refl _ _⟩
  case round =>
    obtain ⟨k, hk, rfl, bel⟩ := hrel
    by_cases hlt : k < n
    · obtain rfl := HH.out.1 (by omega)
      have K : Cel wr h (k * 3) #[.int .u32 (k : Nat), .string ⟨#[120]⟩, .int .i64 0] := (HH.out.2.2 k hlt).below bel (HH.out.2.1 (by omega))
      have B2 := B.below bel B.lt
      have hcl := same_any k i 0 ⟨#[120]⟩ D ob wr B2
      have hne : decide ((k : Int) = (i : Int)) = false := decide_eq_false (by omega)
      rw [hne] at hcl
      clear hne
      go_wp2_with (refine wpList_load_at rfl 168 _ rfl h (k * 3) rfl #[.int .u32 (k : Nat), .string ⟨#[120]⟩, .int .i64 0] _ K Try.underlying168 rfl (szD _) ?_)
      refine hcl.mono ?_
      rintro e w2 ⟨rfl, hb2⟩
      have bel2 := bel.trans (hb2.mono bel.size)
      clear hcl bel hb2 K B2
      go_wp2_with fail
      go_roundw
      case rel => exact ⟨k + 1, by omega, by go_num, bel2⟩
      case measure => simp [intOf]; omega
    · obtain rfl : k = n := by omega
      go_wp2_with fail
      go_ret
      exact ⟨rfl, bel⟩
theorem ctn_none (oa : Option Addr) (h n cap i ob : Nat) (D : ByteArray) (w : World) (hn : n ≤ 16) (hc : n ≤ cap) (hcm : cap ≤ maxLen) (hoa : 0 < n → oa = some ⟨h, 0, none⟩) (hh : 0 < n → h < w.heap.size) (hC : ∀ k, k < n → Cel w h (k * 3) (sdr k)) (hi : n ≤ i) (B : Blk w ob 57 #[.int .u32 i, .string D]) :
    Calls Try.prog 89 #[.slice oa n cap, .func (.func 88) #[] #[.pointer (some ⟨ob, 0, none⟩)]] w fun e w' => e = .returned (.bool false) ∧ Below w.heap.size w w' := by
  have HI := Lib.hid (idx_none oa h n cap i ob D w hn hc hcm hoa hh hC hi B)
  clear hoa hh hC hi B
  go_enter Try.func89, Try.ntmps89
  go_wp2_with fail
  refine HI.out.mono ?_
  rintro e w2 ⟨rfl, hb2⟩
  go_wp2_with fail
  go_ret
  exact ⟨rfl, hb2⟩
end Go.Proofs.Ythddacgdmngfhaa.fil
