/- Small words of layer 3 that later layers use. -/
import Derived.Test.YthddacgdmngfhaaReadB
import Derived.Lib.QuietBelow
namespace Go.Proofs.Ythddacgdmngfhaa.oct
open Go.ChangeShapes Go.WideShapes Go.ChangeAt Go.RowKit kit

theorem u64_mask (x : Int) (k : Nat) (hk : k < 63) : bits .and .u64 x ((2 ^ k - 1 : Nat) : Int) = x % (2 ^ k : Nat) := by
  have e : bits .and .i64 x ((2 ^ k - 1 : Nat) : Int) = x % (2 ^ k : Nat) := i64_mask x k hk
  have h : bits .and .u64 x ((2 ^ k - 1 : Nat) : Int) = IntKind.u64.wrap ((BitVec.ofInt 64 x &&& BitVec.ofInt 64 ((2 ^ k - 1 : Nat) : Int)).toNat : Int) := rfl
  have h' : bits .and .i64 x ((2 ^ k - 1 : Nat) : Int) = IntKind.i64.wrap ((BitVec.ofInt 64 x &&& BitVec.ofInt 64 ((2 ^ k - 1 : Nat) : Int)).toNat : Int) := rfl
  rw [h'] at e
  rw [h]
  have hp : 0 < 2 ^ k := Nat.two_pow_pos k
  have h1 : 2 ^ k ≤ 2 ^ 62 := Nat.pow_le_pow_right (by omega) (by omega)
  have hlt := (BitVec.ofInt 64 x &&& BitVec.ofInt 64 ((2 ^ k - 1 : Nat) : Int)).isLt
  have h3 := Int.emod_nonneg x (b := ((2 ^ k : Nat) : Int)) (by omega)
  have h4 := Int.emod_lt_of_pos x (b := ((2 ^ k : Nat) : Int)) (by omega)
  rw [IntKind.wrap_i64] at e
  rw [IntKind.wrap_u64]
  generalize (BitVec.ofInt 64 x &&& BitVec.ofInt 64 ((2 ^ k - 1 : Nat) : Int)).toNat = m at *
  generalize x % ((2 ^ k : Nat) : Int) = r at *
  omega

theorem RD.fresh (w : World) (l : ByteArray) (e : Int) : RD (w.alloc (.cells #[.string l, .int .i64 e] 285)) w.heap.size l e := Blk.new w _ _
/-- What a new reader reads turns nothing that was there. -/
theorem Touch.fresh {w w' : World} {b : Obj} (h : Touch w.heap.size (w.alloc b) w') : Below w.heap.size w w' :=
  h.below ((Below.refl _ _).alloc (Nat.le_refl _) _) (Nat.le_refl _) (by simp)

def p1 (n : Int) : ByteArray := strOfNums (be n 1)
def p2 (n : Int) : ByteArray := strOfNums (be n 2)
def p4 (n : Int) : ByteArray := strOfNums (be n 4)
def p8 (n : Int) : ByteArray := strOfNums (be n 8)

theorem p2_size (n : Int) : (p2 n).size = 2 := by unfold p2; rw [strOfNums_size]; rfl
theorem p4_size (n : Int) : (p4 n).size = 4 := by unfold p4; rw [strOfNums_size]; rfl
theorem u32_p (n : Int) (w : World) (h0 : 0 ≤ n) (h1 : n ≤ 4294967295) : Calls Try.prog 95 #[.int .u32 n] w fun e w' => e = .returned (.string (p4 n)) ∧ Below w.heap.size w w' := u32_any n w h0 h1
end Go.Proofs.Ythddacgdmngfhaa.oct
