/- Layer 36: any act's bytes; whether it may be. -/
import Derived.Test.YtdocphkpeonldaaTrE
namespace Go.Proofs.Ytdocphkpeonldaa.tra
open Go.Sort (grow)
open Go.ChangeShapes Go.WideShapes Go.ChangeAt Go.RowKit kit oct
set_option maxRecDepth 100000

/-- Any act. -/
structure An where
  wh : Int
  a : Int
  b : Int
  c : Int
  d : Int
  e : Int
  f : Int
  h : Int
  s : ByteArray
def An.cells (r : An) : Array Value := #[.int .i64 r.wh, .int .i64 r.a, .int .i64 r.b, .int .i64 r.c, .int .i64 r.d, .int .i64 r.e, .int .i64 r.f, .int .i64 r.h, .string r.s]
def smB (x : Int) : Bool := decide (-2147483648 ≤ x ∧ x ≤ 2147483647)
def An.xs (r : An) : List Int := [r.a, r.b, r.c, r.d, r.e, r.f, r.h]
def An.ok (r : An) : Bool := r.xs.all smB && decide (0 ≤ r.wh ∧ r.wh ≤ 255 ∧ r.s.size ≤ 65535)
def An.rc (r : An) : Rc := ⟨r.wh.toNat, (r.a % 4294967296).toNat, (r.b % 4294967296).toNat, (r.c % 4294967296).toNat, (r.d % 4294967296).toNat, (r.e % 4294967296).toNat, (r.f % 4294967296).toNat, (r.h % 4294967296).toNat, r.s⟩
def An.bs (r : An) : ByteArray := if r.ok then r.rc.bytes else ByteArray.empty
theorem smB_iff {x : Int} : smB x = true ↔ -2147483648 ≤ x ∧ x ≤ 2147483647 := by unfold smB; simp
theorem sg_of {x : Int} (h : smB x = true) : sg (x % 4294967296).toNat = x := by
  rw [smB_iff] at h
  unfold sg
  split <;> omega
structure An.Ok (r : An) : Prop where
  a : smB r.a = true
  b : smB r.b = true
  c : smB r.c = true
  d : smB r.d = true
  e : smB r.e = true
  f : smB r.f = true
  h : smB r.h = true
  w0 : 0 ≤ r.wh
  w1 : r.wh ≤ 255
  s : r.s.size ≤ 65535
theorem An.ok_iff {r : An} : r.ok = true ↔ r.Ok := by
  unfold An.ok An.xs
  simp only [List.all_cons, List.all_nil, Bool.and_true, Bool.and_eq_true, decide_eq_true_eq]
  constructor
  · rintro ⟨⟨h1, h2, h3, h4, h5, h6, h7⟩, h8, h9, h10⟩
    exact ⟨h1, h2, h3, h4, h5, h6, h7, h8, h9, h10⟩
  · rintro ⟨h1, h2, h3, h4, h5, h6, h7, h8, h9, h10⟩
    exact ⟨⟨h1, h2, h3, h4, h5, h6, h7⟩, h8, h9, h10⟩
theorem An.rc_cells {r : An} (h : r.Ok) : r.rc.cells = r.cells := by
  unfold An.rc Rc.cells An.cells
  simp only [sg_of h.a, sg_of h.b, sg_of h.c, sg_of h.d, sg_of h.e, sg_of h.f, sg_of h.h]
  have := h.w0
  rw [show ((r.wh.toNat : Nat) : Int) = r.wh by omega]
theorem An.rc_ok {r : An} (h : r.Ok) : r.rc.Ok := by
  have := h.w0
  have := h.w1
  exact ⟨by show r.wh.toNat ≤ 255; omega, by show (r.a % 4294967296).toNat ≤ _; omega, by show (r.b % 4294967296).toNat ≤ _; omega, by show (r.c % 4294967296).toNat ≤ _; omega, by show (r.d % 4294967296).toNat ≤ _; omega, by show (r.e % 4294967296).toNat ≤ _; omega, by show (r.f % 4294967296).toNat ≤ _; omega, by show (r.h % 4294967296).toNat ≤ _; omega, h.s⟩
theorem An.bs_size (r : An) : r.bs.size ≤ 31 + r.s.size := by
  unfold An.bs
  split
  · exact Nat.le_of_eq (bytes_size r.rc)
  · show 0 ≤ _; omega
theorem An.bs_ne {r : An} : (r.bs.size = 0) ↔ r.ok = false := by
  unfold An.bs
  split
  · rename_i h
    rw [bytes_size]
    simp [h]
  · rename_i h
    simpa using h

/-- Numbers of four bytes, one behind the other. -/
def cat4 : List Int → ByteArray
  | [] => ByteArray.empty
  | x :: l => p4 (x % 4294967296) ++ cat4 l
theorem cat4_snoc (l : List Int) (x : Int) : cat4 (l ++ [x]) = cat4 l ++ p4 (x % 4294967296) := by
  induction l with
  | nil => simp [cat4]
  | cons y l ih => simp only [List.cons_append, cat4, ih, ByteArray.append_assoc]
theorem cat4_size (l : List Int) : (cat4 l).size = 4 * l.length := by
  induction l with
  | nil => rfl
  | cons y l ih => simp only [cat4, ByteArray.size_append, p4_size, ih, List.length_cons]; omega
theorem be_mod4 (n : Int) : be n 4 = be (n % 4294967296) 4 := by
  simp only [be, List.nil_append, List.cons_append, List.cons.injEq, and_true]
  omega
theorem be_mod1 (n : Int) : be n 1 = be (n % 256) 1 := by
  simp only [be, List.nil_append, List.cons.injEq, and_true]
  omega
theorem p4_wrap (x : Int) : strOfNums (be (IntKind.u64.wrap x) 4) = p4 (x % 4294967296) := by
  rw [be_mod4, IntKind.wrap_u64]
  unfold p4
  congr 2
  omega
theorem small_any (x : Int) (w : World) : Calls Try.prog 94 #[.int .i64 x] w fun e w' => e = .returned (.bool (smB x)) ∧ w = w' := by
  have h1 : smB x = decide (-2147483648 ≤ x ∧ x ≤ 2147483647) := rfl
  by_cases a : -2147483648 ≤ x
  · by_cases b : x ≤ 2147483647
    · have h2 : smB x = true := by rw [h1]; simp [a, b]
      rw [h2]
      clear h1 h2
      go_enter Try.func94, Try.ntmps94
      go_wp2
      go_ret
      exact ⟨by first | rfl | exact ret_bool (by simp; omega), rfl⟩
    · have h2 : smB x = false := by rw [h1]; simp [a, b]
      rw [h2]
      clear h1 h2
      go_enter Try.func94, Try.ntmps94
      go_wp2
      go_ret
      exact ⟨by first | rfl | exact ret_bool (by simp; omega), rfl⟩
  · have h2 : smB x = false := by rw [h1]; simp [a]
    rw [h2]
    clear h1 h2
    go_enter Try.func94, Try.ntmps94
    go_wp2
    go_ret
    exact ⟨by first | rfl | exact ret_bool (by simp; omega), rfl⟩
theorem An.x_cell (r : An) (k : Nat) (hk : k < 7) : (#[.int .i64 r.a, .int .i64 r.b, .int .i64 r.c, .int .i64 r.d, .int .i64 r.e, .int .i64 r.f, .int .i64 r.h] : Array Value)[k]? = some (.int .i64 (r.xs.getD k 0)) := by
  match k, hk with
  | 0, _ => rfl
  | 1, _ => rfl
  | 2, _ => rfl
  | 3, _ => rfl
  | 4, _ => rfl
  | 5, _ => rfl
  | 6, _ => rfl
theorem An.xs_take (r : An) (k : Nat) (hk : k < 7) : r.xs.take (k + 1) = r.xs.take k ++ [r.xs.getD k 0] := by
  match k, hk with
  | 0, _ => rfl
  | 1, _ => rfl
  | 2, _ => rfl
  | 3, _ => rfl
  | 4, _ => rfl
  | 5, _ => rfl
  | 6, _ => rfl
theorem all_snoc {l : List Int} {x : Int} (h : l.all smB = true) (k : smB x = true) : (l ++ [x]).all smB = true := by simp_all
theorem An.not_ok {r : An} (k : Nat) (hk : k < 7) (h : smB (r.xs.getD k 0) = false) : r.ok = false := by
  cases hr : r.ok
  · rfl
  · have o := An.ok_iff.1 hr
    have q : ∀ x ∈ r.xs, smB x = true := fun x hx => by
      simp only [An.xs, List.mem_cons, List.not_mem_nil, or_false] at hx
      rcases hx with rfl | rfl | rfl | rfl | rfl | rfl | rfl
      · exact o.a
      · exact o.b
      · exact o.c
      · exact o.d
      · exact o.e
      · exact o.f
      · exact o.h
    have hk' : k < r.xs.length := hk
    rw [q _ (by rw [List.getD_eq_getElem?_getD, List.getElem?_eq_getElem hk']; exact List.getElem_mem hk')] at h
    cases h
end Go.Proofs.Ytdocphkpeonldaa.tra
