/- The document's own numbers as bytes, each function by a contract. -/
import Derived.Test.YthddacgdmngfhaaOctC
import Derived.Deep.RegionWith
import Derived.BigRegion
namespace Go.Proofs.Ythddacgdmngfhaa.oct
open Go.ChangeShapes Go.WideShapes Go.ChangeAt Go.RowKit kit

theorem be_length : ∀ (k : Nat) (n : Int), (be n k).length = k := by
  intro k
  induction k with
  | zero => intro n; rfl
  | succ k ih => intro n; simp [be, ih]

set_option maxRecDepth 100000 in
set_option maxHeartbeats 1000000 in
theorem put_at (k : Nat) : ∀ (n m : Int) (w : World), m = k → k ≤ 8 → 0 ≤ n → n ≤ 18446744073709551615 →
    Calls Try.prog 90 #[.int .u64 n, .int .i64 m] w fun e w' => e = .returned (.string (strOfNums (be n k))) ∧ Below w.heap.size w w' := by
  induction k with
  | zero =>
    intro n m w hm _ _ _
    have hm' : m ≤ 0 := by omega
    clear hm
    go_enter Try.func90, Try.ntmps90
    go_wp2
    go_ret
    exact ⟨rfl, Below.refl _ _⟩
  | succ k ih =>
    intro n m w hm hk h0 h1
    have hr : ∀ w, Calls Try.prog 90 #[.int .u64 (n / 256), .int .i64 (m - 1)] w fun e w' => e = .returned (.string (strOfNums (be (n / 256) k))) ∧ Below w.heap.size w w' := fun w => ih (n / 256) (m - 1) w (by omega) (by omega) (by omega) (by omega)
    have hsz : (strOfNums (be (n / 256) k)).size ≤ 8 := by rw [strOfNums_size, be_length]; omega
    have hm1 : 1 ≤ m := by omega
    have hm2 : m ≤ 8 := by omega
    have eb : strOfNums (be n (k + 1)) = strOfNums (be (n / 256) k) ++ strOfNums [n % 256] := by rw [strOfNums_append]; rfl
    rw [eb]
    clear ih hm eb
    obtain ⟨A, hA⟩ : ∃ A, A = strOfNums (be (n / 256) k) := ⟨_, rfl⟩
    rw [← hA] at hr hsz ⊢
    clear hA
    have hcv : ∀ W : World, (convert 45 9 (.slice (some ⟨W.heap.size, 0, none⟩) 1 1)).run Try.prog (W.alloc (.cells #[.int .u8 (n % 256)] 5)) = .ok (.string (strOfNums [n % 256])) (W.alloc (.cells #[.int .u8 (n % 256)] 5)) :=
      fun W => conv_blk Try.underlying45 Try.underlying5 Try.underlying9 (Blk.new W 5 _) 1 1 [n % 256] rfl (fun i hi => by have := Nat.lt_one_iff.1 hi; subst this; rfl)
    have hcw : ∀ W : World, (convert 45 9 (.slice (some ⟨W.heap.size, 0, none⟩) 1 1)).run Try.prog (W.alloc (.cells #[.int .u8 (n % 256)] 5)).drew = .ok (.string (strOfNums [n % 256])) (W.alloc (.cells #[.int .u8 (n % 256)] 5)).drew :=
      fun W => conv_blk Try.underlying45 Try.underlying5 Try.underlying9 (Blk.new W 5 _).drew 1 1 [n % 256] rfl (fun i hi => by have := Nat.lt_one_iff.1 hi; subst this; rfl)
    have a1 : IntKind.i64.wrap (m - 1) = m - 1 := IntWalk.i64_in _ (by omega)
    have a2 : n.tmod 256 = n % 256 := Int.tmod_eq_emod_of_nonneg h0
    have a3 : IntKind.u64.wrap (n.tdiv 256) = n / 256 := by rw [Int.tdiv_eq_ediv_of_nonneg h0]; exact IntWalk.u64_in _ (by omega)
    have a4 : IntKind.u8.wrap (n % 256) = n % 256 := by rw [IntKind.wrap_u8']; omega
    have hszc : (strOfNums [n % 256]).size = 1 := by rw [strOfNums_size]; rfl
    go_enter Try.func90, Try.ntmps90
    go_wp2_with fail
    go_region_with (go_at_call 90; (with_reducible refine (hr _).mono ?_); rintro e w1 ⟨rfl, hb⟩; (try have hc2 := conv_blk Try.underlying45 Try.underlying5 Try.underlying9 ((Blk.new _ 5 _).drew.below hb (by simp)) 1 1 [n % 256] rfl (fun i hi => by have := Nat.lt_one_iff.1 hi; subst this; rfl)))
    all_goals
      go_wp2
      go_ret
      first
        | exact ⟨rfl, ((Below.refl _ _).drew.trans hb).alloc hb.size _⟩
        | exact ⟨rfl, ((Below.refl _ _).alloc (Nat.le_refl _) _).drew.trans (hb.mono (by simp))⟩

end Go.Proofs.Ythddacgdmngfhaa.oct
