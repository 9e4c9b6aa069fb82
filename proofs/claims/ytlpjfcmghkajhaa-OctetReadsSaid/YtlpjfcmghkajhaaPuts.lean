/- The statement on numbers as bytes, and on filling up. -/
import Derived.Test.YtlpjfcmghkajhaaRef3C
import Derived.Lib.QuietBelow
namespace Go.Proofs.Ytlpjfcmghkajhaa.oct
open Go.ChangeShapes Go.WideShapes Go.ChangeAt Go.RowKit kit

theorem u64_mask (x : Int) (k : Nat) (hk : k < 63) : bits .and .u64 x ((2 ^ k - 1 : Nat) : Int) = x % (2 ^ k : Nat) := by
  have e : bits .and .i64 x ((2 ^ k - 1 : Nat) : Int) = x % (2 ^ k : Nat) := i64_mask x k hk
  have h : bits .and .u64 x ((2 ^ k - 1 : Nat) : Int) = IntKind.u64.wrap ((BitVec.ofInt 64 x &&& BitVec.ofInt 64 ((2 ^ k - 1 : Nat) : Int)).toNat : Int) := rfl
  have h' : bits .and .i64 x ((2 ^ k - 1 : Nat) : Int) = IntKind.i64.wrap ((BitVec.ofInt 64 x &&& BitVec.ofInt 64 ((2 ^ k - 1 : Nat) : Int)).toNat : Int) := rfl
  rw [h'] at e
  rw [h]
  have hp : 0 < 2 ^ k := Nat.two_pow_pos k
  have h1 : 2 ^ k ≤ 2 ^ 62 := Nat.pow_le_pow_right (by omega) (by omega)
  have hlt := (BitVec.ofInt 64 x &&& BitVec.ofInt 64 ((2 ^ k - 1 : Nat) : Int)).isLt
  have h3 := Int.emod_nonneg x (b := ((2 ^ k : Nat) : Int)) (by omega)
  have h4 := Int.emod_lt_of_pos x (b := ((2 ^ k : Nat) : Int)) (by omega)
  rw [IntKind.wrap_i64] at e
  rw [IntKind.wrap_u64]
  generalize (BitVec.ofInt 64 x &&& BitVec.ofInt 64 ((2 ^ k - 1 : Nat) : Int)).toNat = m at *
  generalize x % ((2 ^ k : Nat) : Int) = r at *
  omega

theorem u64_any (n : Int) (w : World) (h0 : 0 ≤ n) (h1 : n ≤ 18446744073709551615) : Calls Try.prog 23 #[.int .u64 n] w fun e w' => e = .returned (.string (strOfNums (be n 8))) ∧ Below w.heap.size w w' := by
  go_enter Try.func23, Try.ntmps23
  go_wp2_with (go_at_call 43; refine (bytes8 _ _ (by omega) (by omega)).mono ?_; rintro e w1 ⟨rfl, hb⟩)
  go_ret
  exact ⟨rfl, hb⟩

theorem RD.fresh (w : World) (l : ByteArray) (e : Int) : RD (w.alloc (.cells #[.string l, .int .i64 e] 65)) w.heap.size l e := Blk.new w _ _
/-- What a new reader reads turns nothing that was there. -/
theorem Touch.fresh {w w' : World} {b : Obj} (h : Touch w.heap.size (w.alloc b) w') : Below w.heap.size w w' :=
  h.below ((Below.refl _ _).alloc (Nat.le_refl _) _) (Nat.le_refl _) (by simp)

theorem awake3_any (w : World) : Calls Try.prog 18 #[] w fun e w' => e = .returned (.bool true) ∧ Below w.heap.size w w' := by
  have h1 := fun w => u32_any 258 w (by omega) (by omega)
  have e1 : strOfNums (be 258 4) = ⟨#[0, 0, 1, 2]⟩ := rfl
  rw [e1] at h1
  clear e1
  have e2 : rdN ⟨#[1, 2]⟩ 2 = 258 := rfl
  have h2 := fun (w : World) => r16_any w.heap.size ⟨#[1, 2]⟩ 0 _ (RD.fresh w _ _) (by decide)
  rw [e2] at h2
  clear e2
  go_enter Try.func18, Try.ntmps18
  go_wp2_with (first | (go_at_call 22; refine (h1 _).mono ?_; rintro e w1 ⟨rfl, hb⟩) | (go_at_call 27; refine (new_any _ _).mono ?_; rintro e w1 ⟨rfl, rfl⟩) | (go_at_call 30; refine (h2 _).mono ?_; rintro e w1 ⟨rfl, hr, ht⟩))
  go_ret
  exact ⟨rfl, hb.trans (ht.fresh.mono hb.size)⟩

def p1 (n : Int) : ByteArray := strOfNums (be n 1)
def p2 (n : Int) : ByteArray := strOfNums (be n 2)
def p4 (n : Int) : ByteArray := strOfNums (be n 4)
def p8 (n : Int) : ByteArray := strOfNums (be n 8)

theorem puts_law (n : Int) (s : ByteArray) (w : World) (h0 : 0 ≤ n) (h1 : n ≤ 18446744073709551615) : Calls Try.prog 7 #[.int .u64 n, .string s] w fun e w' => e = .returned (.bool true) ∧ Below w.heap.size w w' := by
  have a1 : bits .and .u64 n 65535 = n % 65536 := u64_mask n 16 (by omega)
  have a2 : bits .and .u64 n 16777215 = n % 16777216 := u64_mask n 24 (by omega)
  have q1 : be (n % 65536) 1 = be n 1 := by simp only [be]; simp
  have q2 : be (n % 16777216) 2 = be n 2 := by simp only [be]; simp; omega
  have q4 : be (n % 4294967296) 4 = be n 4 := by simp only [be]; simp; omega
  have c1 : ∀ w, Calls Try.prog 19 #[.int .i64 (n % 65536)] w fun e w' => e = .returned (.string (p1 n)) ∧ Below w.heap.size w w' := by
    intro w; unfold p1; rw [← q1]; exact u8_any _ w (by omega) (by omega)
  have c2 : ∀ w, Calls Try.prog 21 #[.int .i64 (n % 16777216)] w fun e w' => e = .returned (.string (p2 n)) ∧ Below w.heap.size w w' := by
    intro w; unfold p2; rw [← q2]; exact u16_any _ w (by omega) (by omega)
  have c4 : ∀ w, Calls Try.prog 22 #[.int .u32 (n % 4294967296)] w fun e w' => e = .returned (.string (p4 n)) ∧ Below w.heap.size w w' := by
    intro w; unfold p4; rw [← q4]; exact u32_any _ w (by omega) (by omega)
  have c8 : ∀ w, Calls Try.prog 23 #[.int .u64 n] w fun e w' => e = .returned (.string (p8 n)) ∧ Below w.heap.size w w' := fun w => u64_any _ w h0 h1
  have r1 : ∀ w, Calls Try.prog 20 #[.int .u64 n, .int .i64 1] w fun e w' => e = .returned (.string (p1 n)) ∧ Below w.heap.size w w' := fun w => put_at 1 n 1 w rfl (by omega) h0 h1
  have r2 : ∀ w, Calls Try.prog 20 #[.int .u64 n, .int .i64 2] w fun e w' => e = .returned (.string (p2 n)) ∧ Below w.heap.size w w' := fun w => put_at 2 n 2 w rfl (by omega) h0 h1
  have r4 : ∀ w, Calls Try.prog 20 #[.int .u64 n, .int .i64 4] w fun e w' => e = .returned (.string (p4 n)) ∧ Below w.heap.size w w' := fun w => put_at 4 n 4 w rfl (by omega) h0 h1
  have r8 : ∀ w, Calls Try.prog 20 #[.int .u64 n, .int .i64 8] w fun e w' => e = .returned (.string (p8 n)) ∧ Below w.heap.size w w' := fun w => put_at 8 n 8 w rfl (by omega) h0 h1
  clear q1 q2 q4
  have x4 : IntKind.u32.wrap n = n % 4294967296 := by rw [IntKind.wrap_u32']
  go_enter Try.func7, Try.ntmps7
  go_wp2_with (first | (go_at_call 18; refine (awake3_any _).mono ?_; rintro e w1 ⟨rfl, hb⟩; have bel := hb; clear hb) | (go_at_call 19; refine (c1 _).mono ?_; rintro e w1 ⟨rfl, hb⟩; replace bel := bel.trans (hb.mono bel.size); clear hb) | (go_at_call 21; refine (c2 _).mono ?_; rintro e w1 ⟨rfl, hb⟩; replace bel := bel.trans (hb.mono bel.size); clear hb) | (go_at_call 22; refine (c4 _).mono ?_; rintro e w1 ⟨rfl, hb⟩; replace bel := bel.trans (hb.mono bel.size); clear hb) | (go_at_call 23; refine (c8 _).mono ?_; rintro e w1 ⟨rfl, hb⟩; replace bel := bel.trans (hb.mono bel.size); clear hb) | (go_at_call 20; (first | (with_reducible refine (r1 _).mono ?_) | (with_reducible refine (r2 _).mono ?_) | (with_reducible refine (r4 _).mono ?_) | (with_reducible refine (r8 _).mono ?_)); rintro e w1 ⟨rfl, hb⟩; replace bel := bel.trans (hb.mono bel.size); clear hb))
  have hT : (s.extract 0 (min (s.size : Int) 50).toNat).size ≤ 50 := by simp; omega
  generalize s.extract 0 (min (s.size : Int) 50).toNat = T at hT ⊢
  have hF : ((filled T).size : Int) = T.size + -(T.size : Int) % 4 := by unfold filled; simp [zeros_size]; omega
  have hp : ∀ w, Calls Try.prog 26 #[.int .i64 T.size] w fun e w' => e = .returned (.int .i64 (-(T.size : Int) % 4)) ∧ w = w' := fun w => pad_any _ w (by omega) (by omega)
  go_wp2_with (first | (go_at_call 24; refine (filled_any T _ (by omega)).mono ?_; rintro e w1 ⟨rfl, hb⟩; replace bel := bel.trans (hb.mono bel.size); clear hb) | (go_at_call 25; refine (rfilled T _ (by omega)).mono ?_; rintro e w1 ⟨rfl, rfl⟩) | (go_at_call 26; refine (hp _).mono ?_; rintro e w1 ⟨rfl, rfl⟩))
  go_ret
  exact ⟨rfl, bel⟩

theorem puts_open {H : Type} {enc : TypeId × Value → H} {W : World} {base : Nat} {v0 v1 : Value} {d0 : DataW H} {p0 : List MemPlace}
    (o0 : Value.okWide Try.prog W .any base 33 v0) (o1 : Value.okWide Try.prog W .any base 9 v1) (h0 : DataW.Trod enc Try.prog W 0 (fun _ => true) true 33 v0 d0 p0) :
    Calls Try.prog 7 #[v0, v1] W fun e w' => e = .returned (.bool true) ∧ Below W.heap.size W w' := by
  obtain ⟨n, rfl, _, _, wn⟩ := open_int Try.underlying33 o0 h0
  obtain ⟨s, rfl⟩ := okWide_string Try.underlying9 o1
  exact puts_law n s W (bounds_u64 wn).1 (bounds_u64 wn).2
end Go.Proofs.Ytlpjfcmghkajhaa.oct
