/- Layer 8: digests of bytes, by plain numbers. -/
import Derived.Test.YtbdbcjhahlofiaaDoorCrcM
namespace Go.Proofs.YtbdbcjhahlofiaaDoor.dig
open crc (ones xor_ones)

def rot (x k : Nat) : Nat := x * 2 ^ k % 4294967296 ||| x / 2 ^ (32 - k)
theorem or_lt {a b : Nat} (h : a < 4294967296) (h' : b < 4294967296) : a ||| b < 4294967296 := Nat.or_lt_two_pow (n := 32) h h'
theorem and_lt {a b : Nat} (h : a < 4294967296) : a &&& b < 4294967296 := Nat.lt_of_le_of_lt Nat.and_le_left h
theorem xor_lt {a b : Nat} (h : a < 4294967296) (h' : b < 4294967296) : a ^^^ b < 4294967296 := Nat.xor_lt_two_pow (n := 32) h h'
theorem rot_lt {x : Nat} (k : Nat) (h : x < 4294967296) : rot x k < 4294967296 := or_lt (Nat.mod_lt _ (by decide)) (Nat.lt_of_le_of_lt (Nat.div_le_self _ _) h)

/-- A number of bytes, the highest first. -/
def numL (l : List UInt8) : Nat := l.foldl (fun n b => n * 256 + b.toNat) 0
def base (l : List UInt8) (n : Nat) : Nat := numL ((l.drop (4 * n)).take 4)
/-- The first n words of a block. -/
def wl (l : List UInt8) : Nat → List Nat
  | 0 => []
  | n + 1 => wl l n ++ [if n < 16 then base l n else rot ((wl l n).getD (n - 3) 0 ^^^ (wl l n).getD (n - 8) 0 ^^^ (wl l n).getD (n - 14) 0 ^^^ (wl l n).getD (n - 16) 0) 1]
theorem wl_len (l : List UInt8) : ∀ n, (wl l n).length = n
  | 0 => rfl
  | n + 1 => by simp [wl, wl_len l n]
theorem numL_lt4 (l : List UInt8) (h : l.length ≤ 4) : numL l < 4294967296 := by
  have key : ∀ (l : List UInt8) (n k : Nat), n < 256 ^ k → l.foldl (fun n b => n * 256 + b.toNat) n < 256 ^ (k + l.length) := by
    intro l
    induction l with
    | nil => intro n k h; simpa using h
    | cons b l ih =>
      intro n k h
      have hb := b.toNat_lt
      have := ih (n * 256 + b.toNat) (k + 1) (by rw [Nat.pow_succ]; omega)
      simp only [List.foldl_cons, List.length_cons]
      rwa [show k + 1 + l.length = k + (l.length + 1) by omega] at this
  have := key l 0 0 (by decide)
  simp only [Nat.zero_add] at this
  have h2 : 256 ^ l.length ≤ 256 ^ 4 := Nat.pow_le_pow_right (by decide) h
  unfold numL
  omega
theorem base_lt (l : List UInt8) (n : Nat) : base l n < 4294967296 := numL_lt4 _ (by simp; omega)
theorem wl_lt (l : List UInt8) : ∀ n i, (wl l n).getD i 0 < 4294967296
  | 0, i => by simp [wl]
  | n + 1, i => by
    have ih := wl_lt l n
    unfold wl
    rw [List.getD_eq_getElem?_getD, List.getElem?_append]
    split
    · rw [← List.getD_eq_getElem?_getD]; exact ih i
    · by_cases h : i - (wl l n).length = 0
      · rw [h]
        simp only [List.getElem?_cons_zero, Option.getD_some]
        split
        · exact base_lt l n
        · exact rot_lt 1 (xor_lt (xor_lt (xor_lt (ih _) (ih _)) (ih _)) (ih _))
      · rw [List.getElem?_eq_none (by simp; omega)]; decide

structure St where
  a : Nat
  b : Nat
  c : Nat
  d : Nat
  e : Nat
def St.ok (s : St) : Prop := s.a < 4294967296 ∧ s.b < 4294967296 ∧ s.c < 4294967296 ∧ s.d < 4294967296 ∧ s.e < 4294967296
def ch (n b c d : Nat) : Nat := if n / 20 = 0 then b &&& c ||| (ones - b) &&& d else if n / 20 = 2 then b &&& c ||| b &&& d ||| c &&& d else b ^^^ c ^^^ d
def ad (n : Nat) : Nat := [0x5a827999, 0x6ed9eba1, 0x8f1bbcdc, 0xca62c1d6].getD (n / 20) 0
def rd1 (n w : Nat) (s : St) : St := ⟨(rot s.a 5 + ch n s.b s.c s.d + s.e + w + ad n) % 4294967296, s.a, rot s.b 30, s.c, s.d⟩
def rds (W : List Nat) (s : St) : Nat → St
  | 0 => s
  | n + 1 => rd1 n (W.getD n 0) (rds W s n)
theorem ch_lt {n b c d : Nat} (hb : b < 4294967296) (hc : c < 4294967296) (hd : d < 4294967296) : ch n b c d < 4294967296 := by
  unfold ch
  split
  · exact or_lt (and_lt hb) (and_lt (by unfold ones; omega))
  · split
    · exact or_lt (or_lt (and_lt hb) (and_lt hb)) (and_lt hc)
    · exact xor_lt (xor_lt hb hc) hd
theorem rd1_ok (n w : Nat) {s : St} (h : s.ok) : (rd1 n w s).ok := ⟨Nat.mod_lt _ (by decide), h.1, rot_lt 30 h.2.1, h.2.2.1, h.2.2.2.1⟩
theorem rds_ok (W : List Nat) {s : St} (h : s.ok) : ∀ n, (rds W s n).ok
  | 0 => h
  | n + 1 => rd1_ok n _ (rds_ok W h n)
/-- Five words behind a block. -/
def blk (l : List UInt8) (s : St) : St :=
  let t := rds (wl l 80) s 80
  ⟨(s.a + t.a) % 4294967296, (s.b + t.b) % 4294967296, (s.c + t.c) % 4294967296, (s.d + t.d) % 4294967296, (s.e + t.e) % 4294967296⟩
theorem blk_ok (l : List UInt8) (s : St) : (blk l s).ok := ⟨Nat.mod_lt _ (by decide), Nat.mod_lt _ (by decide), Nat.mod_lt _ (by decide), Nat.mod_lt _ (by decide), Nat.mod_lt _ (by decide)⟩
def start : St := ⟨0x67452301, 0xefcdab89, 0x98badcfe, 0x10325476, 0xc3d2e1f0⟩
theorem start_ok : start.ok := ⟨by decide, by decide, by decide, by decide, by decide⟩
/-- Behind so many blocks. -/
def bl (p : List UInt8) : Nat → St
  | 0 => start
  | k + 1 => blk ((p.drop (64 * k)).take 64) (bl p k)
theorem bl_ok (p : List UInt8) : ∀ k, (bl p k).ok
  | 0 => start_ok
  | k + 1 => blk_ok _ _

/-- The document's choice in a round is the same. -/
theorem ones_bit (b i : Nat) (hb : b < 4294967296) : (ones - b).testBit i = (decide (i < 32) && !b.testBit i) := by
  rw [← xor_ones b hb, Nat.testBit_xor]
  have : ones.testBit i = decide (i < 32) := Nat.testBit_two_pow_sub_one 32 i
  rw [this]
  by_cases h : i < 32
  · simp [h]
  · have h2 : b.testBit i = false := Nat.testBit_lt_two_pow (Nat.lt_of_lt_of_le (show b < 2 ^ 32 from hb) (Nat.pow_le_pow_right (by decide) (by omega)))
    simp [h, h2]
theorem ch0 (b c d : Nat) (hb : b < 4294967296) (hd : d < 4294967296) : d ^^^ (b &&& (c ^^^ d)) = b &&& c ||| (ones - b) &&& d := by
  apply Nat.eq_of_testBit_eq
  intro i
  rw [Nat.testBit_xor, Nat.testBit_and, Nat.testBit_xor, Nat.testBit_or, Nat.testBit_and, Nat.testBit_and, ones_bit b i hb]
  by_cases h : i < 32
  · simp only [h, decide_true, Bool.true_and]
    cases b.testBit i <;> cases c.testBit i <;> cases d.testBit i <;> rfl
  · have h2 : d.testBit i = false := Nat.testBit_lt_two_pow (Nat.lt_of_lt_of_le (show d < 2 ^ 32 from hd) (Nat.pow_le_pow_right (by decide) (by omega)))
    have h3 : b.testBit i = false := Nat.testBit_lt_two_pow (Nat.lt_of_lt_of_le (show b < 2 ^ 32 from hb) (Nat.pow_le_pow_right (by decide) (by omega)))
    simp [h2, h3]
theorem ch2 (b c d : Nat) : b &&& c ||| d &&& (b ||| c) = b &&& c ||| b &&& d ||| c &&& d := by
  apply Nat.eq_of_testBit_eq
  intro i
  simp only [Nat.testBit_or, Nat.testBit_and]
  cases b.testBit i <;> cases c.testBit i <;> cases d.testBit i <;> rfl

/-- A number's lowest four, eight bytes, the highest first. -/
def b4 (n : Nat) : List UInt8 := [UInt8.ofNat (n / 16777216 % 256), UInt8.ofNat (n / 65536 % 256), UInt8.ofNat (n / 256 % 256), UInt8.ofNat (n % 256)]
def b8 (n : Nat) : List UInt8 := b4 (n / 4294967296) ++ b4 n
def padL (l : List UInt8) : List UInt8 := l ++ ([0x80] ++ (List.replicate ((119 - l.length % 64) % 64) 0 ++ b8 (8 * l.length)))
theorem padL_len (l : List UInt8) : (padL l).length = 64 * ((padL l).length / 64) := by
  have : (padL l).length = l.length + (1 + ((119 - l.length % 64) % 64 + 8)) := by simp [padL, b8, b4]; omega
  omega
def out (s : St) : List UInt8 := b4 s.a ++ (b4 s.b ++ (b4 s.c ++ (b4 s.d ++ b4 s.e)))
/-- The digest of bytes. -/
def dig (l : List UInt8) : List UInt8 := out (bl (padL l) ((padL l).length / 64))
theorem dig_len (l : List UInt8) : (dig l).length = 20 := rfl
theorem dig_abc : dig [97, 98, 99] = [169, 153, 62, 54, 71, 6, 129, 106, 186, 62, 37, 113, 120, 80, 194, 108, 156, 208, 216, 157] := by decide +kernel
end Go.Proofs.YtbdbcjhahlofiaaDoor.dig
