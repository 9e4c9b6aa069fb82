/- Layer 40: whatever bytes come; the statement walked. -/
import Derived.Test.YthddacgdmngfhaaFilG
namespace Go.Proofs.Ythddacgdmngfhaa.fil
open Go.Sort (grow)
open Go.ChangeShapes Go.WideShapes Go.ChangeAt Go.RowKit kit oct byt
set_option maxRecDepth 100000

theorem put4 (n : Int) (w : World) (h0 : 0 ≤ n) (h1 : n ≤ 18446744073709551615) : Calls Try.prog 90 #[.int .u64 n, .int .i64 4] w fun e w' => e = .returned (.string (p4 n)) ∧ Below w.heap.size w w' :=
  put_at 4 n 4 w rfl (by omega) h0 h1
/-- Is it a piece? -/
def wnt (n k : Nat) (T : ByteArray) : Bool := decide (k % 500 = 0 ∧ k ≤ n ∧ (T.size : Int) = min ((n : Int) - k) 500 ∧ (0 < T.size ∨ n = 0))
theorem ok_wnt (i n k : Nat) (T : ByteArray) (hi : i ≤ 4294967295) (hn : n ≤ 1023) (hk : k ≤ 1023) : okR (p4 i ++ p4 n ++ p4 k ++ T) = wnt n k T := by
  obtain ⟨_, b, c, d, e⟩ := parse i n k T hi (by omega) (by omega)
  unfold okR wnt beg
  rw [b, c, d, e]
  rw [Bool.eq_iff_iff]
  simp only [decide_true, Bool.true_and, Bool.and_eq_true, decide_eq_true_eq]
  omega
theorem pc_wnt (i n k : Nat) (T : ByteArray) (hi : i ≤ 4294967295) (hn : n ≤ 1023) (hk : k ≤ 1023) (h : wnt n k T = true) : pcR (p4 i ++ p4 n ++ p4 k ++ T) = pc i n k T := by
  obtain ⟨a, b, c, d, _⟩ := parse i n k T hi (by omega) (by omega)
  unfold pcR
  rw [if_pos (by rw [ok_wnt i n k T hi hn hk, h]), a, b, c, d]
end Go.Proofs.Ythddacgdmngfhaa.fil
