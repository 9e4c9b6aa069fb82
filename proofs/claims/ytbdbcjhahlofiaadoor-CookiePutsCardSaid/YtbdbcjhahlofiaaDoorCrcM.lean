/- The check of layer 2, by plain numbers: bit by bit, by bytes, and that no two states come to one. -/
import Derived.Laws.BitsAllLaws
namespace Go.Proofs.YtbdbcjhahlofiaaDoor.crc

def word (n : Nat) : Value := .int .u32 (n : Int)

def poly : Nat := 2197175160
def s1 (c : Nat) : Nat := if c % 2 = 1 then c / 2 ^^^ poly else c / 2
def s8 (c : Nat) : Nat := s1 (s1 (s1 (s1 (s1 (s1 (s1 (s1 c)))))))
def hv : List Nat := [0x00000000, 0x105ec76f, 0x20bd8ede, 0x30e349b1, 0x417b1dbc, 0x5125dad3, 0x61c69362, 0x7198540d, 0x82f63b78, 0x92a8fc17, 0xa24bb5a6, 0xb21572c9, 0xc38d26c4, 0xd3d3e1ab, 0xe330a81a, 0xf36e6f75]
def tab (n : Nat) : Nat := hv.getD (n % 16) 0 / 16 ^^^ hv.getD ((n / 16 ^^^ hv.getD (n % 16) 0) % 16) 0

theorem s1_xor (x y : Nat) : s1 (x ^^^ y) = s1 x ^^^ s1 y := by
  have h2 : (x ^^^ y) / 2 = x / 2 ^^^ y / 2 := by
    have := Nat.shiftRight_xor_distrib (a := x) (b := y) (i := 1)
    simpa only [Nat.shiftRight_eq_div_pow, Nat.pow_one] using this
  have hm : (x ^^^ y) % 2 = (x % 2 + y % 2) % 2 := by
    have := Nat.xor_mod_two_pow (a := x) (b := y) (n := 1)
    simp only [Nat.pow_one] at this
    rw [this]
    rcases Nat.mod_two_eq_zero_or_one x with h | h <;> rcases Nat.mod_two_eq_zero_or_one y with h' | h' <;> rw [h, h'] <;> rfl
  unfold s1
  rw [h2, hm]
  rcases Nat.mod_two_eq_zero_or_one x with h | h <;> rcases Nat.mod_two_eq_zero_or_one y with h' | h' <;> simp [h, h']
  · rw [Nat.xor_assoc]
  · rw [Nat.xor_assoc, Nat.xor_assoc, Nat.xor_comm poly]
  · rw [Nat.xor_assoc, Nat.xor_comm poly, Nat.xor_assoc, Nat.xor_self, Nat.xor_zero]
theorem s8_xor (x y : Nat) : s8 (x ^^^ y) = s8 x ^^^ s8 y := by simp only [s8, s1_xor]
theorem s8_hi (h : Nat) : s8 (256 * h) = h := by
  have e : ∀ n, s1 (2 * n) = n := fun n => by unfold s1; rw [if_neg (by omega)]; omega
  unfold s8
  rw [show 256 * h = 2 * (2 * (2 * (2 * (2 * (2 * (2 * (2 * h))))))) by omega, e, e, e, e, e, e, e, e]
theorem s8_lo : ∀ n, n < 256 → s8 n = tab n := by decide +kernel
theorem cut8 (c : Nat) : c = (256 * (c / 256)) ^^^ (c % 256) := by
  apply Nat.eq_of_testBit_eq
  intro i
  have e1 : 256 * (c / 256) = (c >>> 8) <<< 8 := by rw [Nat.shiftLeft_eq, Nat.shiftRight_eq_div_pow]; omega
  rw [Nat.testBit_xor, e1, Nat.testBit_shiftLeft, Nat.testBit_shiftRight, show (256 : Nat) = 2 ^ 8 from rfl, Nat.testBit_mod_two_pow]
  by_cases h : i < 8
  · simp [h, Nat.not_le.2 h]
  · simp [h, Nat.not_lt.1 h, show 8 + (i - 8) = i by omega]
theorem step_eq (c b : Nat) (hb : b < 256) : s8 (c ^^^ b) = c / 256 ^^^ tab (c % 256 ^^^ b) := by
  have h : c ^^^ b = (256 * (c / 256)) ^^^ (c % 256 ^^^ b) := by rw [← Nat.xor_assoc, ← cut8]
  have hlt : c % 256 ^^^ b < 256 := Nat.xor_lt_two_pow (n := 8) (by omega) hb
  rw [h, s8_xor, s8_hi, s8_lo _ hlt]
theorem s1_lt {c : Nat} (h : c < 4294967296) : s1 c < 4294967296 := by
  unfold s1
  split
  · exact Nat.xor_lt_two_pow (n := 32) (by omega) (by decide)
  · omega
theorem s8_lt {c : Nat} (h : c < 4294967296) : s8 c < 4294967296 := s1_lt (s1_lt (s1_lt (s1_lt (s1_lt (s1_lt (s1_lt (s1_lt h)))))))
theorem xor_lt {a b : Nat} (h : a < 4294967296) (h' : b < 4294967296) : a ^^^ b < 4294967296 := Nat.xor_lt_two_pow (n := 32) h h'
theorem xor_zero {a b : Nat} (h : a ^^^ b = 0) : a = b := by
  have := congrArg (a ^^^ ·) h
  simp only [← Nat.xor_assoc, Nat.xor_self, Nat.zero_xor, Nat.xor_zero] at this
  exact this.symm
theorem s1_zero {z : Nat} (h : z < 4294967296) (e : s1 z = 0) : z = 0 := by
  unfold s1 at e
  split at e
  · have := xor_zero e
    unfold poly at this
    omega
  · omega
theorem s8_zero {z : Nat} (h : z < 4294967296) (e : s8 z = 0) : z = 0 :=
  s1_zero h (s1_zero (s1_lt h) (s1_zero (s1_lt (s1_lt h)) (s1_zero (s1_lt (s1_lt (s1_lt h))) (s1_zero (s1_lt (s1_lt (s1_lt (s1_lt h)))) (s1_zero (s1_lt (s1_lt (s1_lt (s1_lt (s1_lt h))))) (s1_zero (s1_lt (s1_lt (s1_lt (s1_lt (s1_lt (s1_lt h)))))) (s1_zero (s1_lt (s1_lt (s1_lt (s1_lt (s1_lt (s1_lt (s1_lt h))))))) e)))))))
theorem s8_inj {x y : Nat} (hx : x < 4294967296) (hy : y < 4294967296) (e : s8 x = s8 y) : x = y := by
  have := s8_zero (xor_lt hx hy) (by rw [s8_xor, e, Nat.xor_self])
  exact xor_zero this

/-- A byte taken in. -/
def tk (c : Nat) (b : UInt8) : Nat := s8 (c ^^^ b.toNat)
def run (l : List UInt8) (c : Nat) : Nat := l.foldl tk c
def ones : Nat := 4294967295
/-- The check of bytes. -/
def of (l : List UInt8) : Nat := ones - run l ones
theorem tk_lt {c : Nat} (b : UInt8) (h : c < 4294967296) : tk c b < 4294967296 := s8_lt (xor_lt h (by have := b.toNat_lt; omega))
theorem run_lt : ∀ (l : List UInt8) {c : Nat}, c < 4294967296 → run l c < 4294967296
  | [], _, h => h
  | b :: l, _, h => run_lt l (tk_lt b h)
theorem run_snoc (l : List UInt8) (b : UInt8) (c : Nat) : run (l ++ [b]) c = tk (run l c) b := by simp [run]
theorem run_append (l m : List UInt8) (c : Nat) : run (l ++ m) c = run m (run l c) := by simp [run]
theorem of_lt (l : List UInt8) : of l < 4294967296 := by unfold of ones; omega
theorem xor_ones (c : Nat) (h : c < 4294967296) : ones ^^^ c = ones - c := by
  have e := congrArg BitVec.toNat (BitVec.allOnes_xor (x := BitVec.ofNat 32 c))
  rw [BitVec.toNat_xor, BitVec.toNat_not, BitVec.toNat_allOnes, BitVec.toNat_ofNat, Nat.mod_eq_of_lt (show c < 2 ^ 32 from h)] at e
  exact e
theorem run_inj : ∀ (l : List UInt8) {c d : Nat}, c < 4294967296 → d < 4294967296 → run l c = run l d → c = d
  | [], _, _, _, _, e => e
  | b :: l, c, d, hc, hd, e => by
    have hb := b.toNat_lt
    have h1 := run_inj l (tk_lt b hc) (tk_lt b hd) e
    have h2 := s8_inj (xor_lt hc (by omega)) (xor_lt hd (by omega)) h1
    have h3 := congrArg (· ^^^ b.toNat) h2
    simpa [Nat.xor_assoc] using h3
/-- Two bytes of which one is another one come to another check. -/
theorem run_other (p q : List UInt8) {a b : UInt8} (hab : a ≠ b) {c : Nat} (hc : c < 4294967296) : run (p ++ a :: q) c ≠ run (p ++ b :: q) c := by
  intro e
  rw [run_append, run_append] at e
  have hp := run_lt p hc
  have ha := a.toNat_lt
  have hb := b.toNat_lt
  have h1 := run_inj q (tk_lt a hp) (tk_lt b hp) e
  have h2 := s8_inj (xor_lt hp (by omega)) (xor_lt hp (by omega)) h1
  have h3 := congrArg (run p c ^^^ ·) h2
  simp only [← Nat.xor_assoc, Nat.xor_self, Nat.zero_xor] at h3
  exact hab (UInt8.toNat_inj.1 h3)
end Go.Proofs.YtbdbcjhahlofiaaDoor.crc
