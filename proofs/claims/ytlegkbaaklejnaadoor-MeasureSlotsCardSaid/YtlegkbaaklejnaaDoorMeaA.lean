/- Layer 41: the place of a type in a tally, by the program and by the document. -/
import Derived.Test.YtlegkbaaklejnaaDoorCrcA
import Derived.Lib.Hide
import Derived.Outline
import Derived.LoopTactic
import Derived.Deep.DeepCutAuto
import Derived.Deep.CutRange
namespace Go.Proofs.YtlegkbaaklejnaaDoor.mea
open Go.ChangeShapes Go.WideShapes Go.ChangeAt Go.RowKit kit
set_option maxRecDepth 100000

def slotF (n : Nat) : Nat := if n ≤ 11 then n else if n = 14 then 12 else if n = 15 then 13 else if n = 193 then 14 else if n = 128 then 15 else if n = 130 then 16 else 17
set_option maxHeartbeats 1000000 in
theorem slot_any (n : Nat) (w : World) (hn : n < 256) : Calls Tryd.prog 26 #[.int .i64 n] w fun e w' => e = .returned (.int .i64 (slotF n : Nat)) ∧ w = w' := by
  by_cases hs : n = 10 ∨ n = 11 ∨ n = 14 ∨ n = 15 ∨ n = 193 ∨ n = 128 ∨ n = 130
  · rcases hs with rfl | rfl | rfl | rfl | rfl | rfl | rfl
    all_goals
      go_enter Tryd.func26, Tryd.ntmps26
      go_wp2
      go_ret
      exact ⟨rfl, rfl⟩
  · have e (c : Nat) (h : n ≠ c) : ((n : Int) == (c : Int)) = false := by rw [beq_eq_false_iff_ne]; omega
    have e1 : ((n : Int) == 10) = false := e 10 (by omega)
    have e2 : ((n : Int) == 11) = false := e 11 (by omega)
    have e3 : ((n : Int) == 14) = false := e 14 (by omega)
    have e4 : ((n : Int) == 15) = false := e 15 (by omega)
    have e5 : ((n : Int) == 193) = false := e 193 (by omega)
    have e6 : ((n : Int) == 128) = false := e 128 (by omega)
    have e7 : ((n : Int) == 130) = false := e 130 (by omega)
    have e8 : decide ((n : Int) < 0) = false := decide_eq_false (by omega)
    clear e
    by_cases h9 : n ≤ 9
    · have e9 : decide ((9 : Int) < n) = false := decide_eq_false (by omega)
      have hF : slotF n = n := by unfold slotF; rw [if_pos (by omega)]
      rw [hF]
      clear hF hs
      go_enter Tryd.func26, Tryd.ntmps26
      go_wp2
      go_ret
      exact ⟨rfl, rfl⟩
    · have e9 : decide ((9 : Int) < n) = true := decide_eq_true (by omega)
      have hF : slotF n = 17 := by unfold slotF; rw [if_neg (by omega), if_neg (by omega), if_neg (by omega), if_neg (by omega), if_neg (by omega), if_neg (by omega)]
      rw [hF]
      clear hF hs
      go_enter Tryd.func26, Tryd.ntmps26
      go_wp2
      go_ret
      exact ⟨rfl, rfl⟩
def typL : List Nat := [0, 1, 2, 3, 4, 5, 6, 7, 8, 9, 10, 11, 14, 15, 193, 128, 130]
theorem typ_hit : ∀ k, k < 17 → slotF (typL.getD k 0) = k := by decide +kernel
theorem typ_none : ∀ n, n < 256 → (∀ k, k < 17 → typL.getD k 0 ≠ n) → slotF n = 17 := by decide +kernel
theorem typ_row : ∀ k, k < 17 → (#[.int .i64 0, .int .i64 1, .int .i64 2, .int .i64 3, .int .i64 4, .int .i64 5, .int .i64 6, .int .i64 7, .int .i64 8, .int .i64 9, .int .i64 10, .int .i64 11, .int .i64 14, .int .i64 15, .int .i64 193, .int .i64 128, .int .i64 130] : Array Value)[k]? = some (.int .i64 ((typL.getD k 0 : Nat) : Int)) := by
  intro k hk
  rcases (by omega : k = 0 ∨ k = 1 ∨ k = 2 ∨ k = 3 ∨ k = 4 ∨ k = 5 ∨ k = 6 ∨ k = 7 ∨ k = 8 ∨ k = 9 ∨ k = 10 ∨ k = 11 ∨ k = 12 ∨ k = 13 ∨ k = 14 ∨ k = 15 ∨ k = 16) with rfl | rfl | rfl | rfl | rfl | rfl | rfl | rfl | rfl | rfl | rfl | rfl | rfl | rfl | rfl | rfl | rfl <;> rfl
set_option maxHeartbeats 1000000 in
theorem slot2_any (n : Nat) (w : World) (hn : n < 256) : Calls Tryd.prog 27 #[.int .i64 n] w fun e w' => e = .returned (.int .i64 (slotF n : Nat)) ∧ Below w.heap.size w w' := by
  have HN := Lib.hid (typ_none n hn)
  have HR := Lib.hid typ_row
  clear hn
  go_enter Tryd.func27, Tryd.ntmps27
  go_upto_region 2 with (fail)
  have B := Blk.new w 3 #[.int .i64 0, .int .i64 1, .int .i64 2, .int .i64 3, .int .i64 4, .int .i64 5, .int .i64 6, .int .i64 7, .int .i64 8, .int .i64 9, .int .i64 10, .int .i64 11, .int .i64 14, .int .i64 15, .int .i64 193, .int .i64 128, .int .i64 130]
  have bel := (Below.refl w.heap.size w).alloc (Nat.le_refl _) (.cells #[.int .i64 0, .int .i64 1, .int .i64 2, .int .i64 3, .int .i64 4, .int .i64 5, .int .i64 6, .int .i64 7, .int .i64 8, .int .i64 9, .int .i64 10, .int .i64 11, .int .i64 14, .int .i64 15, .int .i64 193, .int .i64 128, .int .i64 130] 3)
  have hr := HR.out
  generalize (#[.int .i64 0, .int .i64 1, .int .i64 2, .int .i64 3, .int .i64 4, .int .i64 5, .int .i64 6, .int .i64 7, .int .i64 8, .int .i64 9, .int .i64 10, .int .i64 11, .int .i64 14, .int .i64 15, .int .i64 193, .int .i64 128, .int .i64 130] : Array Value) = row at *
  generalize w.alloc (.cells row 3) = w1 at *
  clear HR
  go_wp2
  go_loopw [4] (fun s4 wr => ∃ k : Nat, k ≤ 17 ∧ s4 = .int .i64 k ∧ wr = w1 ∧ ∀ j, j < k → typL.getD j 0 ≠ n) (fun s4 _ => 17 - (intOf s4).toNat)
  case atStart => exact ⟨0, by omega, rfl, rfl, fun j hj => by omega⟩
  case round =>
    obtain ⟨k, hk, rfl, rfl, hne⟩ := hrel
    have HE := Lib.hid hne
    clear hne
    by_cases hlt : k < 17
    · have c0 := (B.cell k).trans (hr k hlt)
      have hd : decide ((k : Int) < 17) = true := decide_eq_true (by omega)
      have hi : (k : Int) < 17 := by omega
      by_cases hT : typL.getD k 0 = n
      · have hF : slotF n = k := by rw [← hT]; exact typ_hit k hlt
        rw [hT] at c0
        have HF := Lib.hid hF
        clear hr hF hT HN HE
        go_wp2
        go_ret
        exact ⟨by rw [HF.out]; rfl, bel⟩
      · have hq : (((typL.getD k 0 : Nat) : Int) == (n : Int)) = false := by rw [beq_eq_false_iff_ne]; omega
        have HT := Lib.hid hT
        clear hr hT
        obtain ⟨y, hy⟩ : ∃ y, typL.getD k 0 = y := ⟨_, rfl⟩
        rw [hy] at c0 hq
        clear hy
        go_wp2
        clear hd hq c0 hi
        go_roundw
        case rel => exact ⟨k + 1, by omega, by go_num, trivial, fun j hj => by
          by_cases e : j = k
          · subst e; exact HT.out
          · exact HE.out j (by omega)⟩
        case measure => simp [intOf]; omega
    · have hk' : k = 17 := by omega
      subst hk'
      have hF : slotF n = 17 := HN.out HE.out
      have HF := Lib.hid hF
      clear HE HN hr hF
      go_wp2
      go_ret
      exact ⟨by rw [HF.out]; rfl, bel⟩
end Go.Proofs.YtlegkbaaklejnaaDoor.mea
