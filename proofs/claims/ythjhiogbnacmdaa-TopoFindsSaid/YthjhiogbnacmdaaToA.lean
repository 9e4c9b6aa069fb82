/- Layer 32: places and those between as rows; the first one that is so. -/
import Derived.Test.YthjhiogbnacmdaaRows
import Derived.Test.YthjhiogbnacmdaaKitQ
import Derived.Test.YthjhiogbnacmdaaKitV
import Derived.LoopTactic
import Derived.Deep.CutBlock
import Derived.Deep.DeepCutAuto
import Derived.Outline
namespace Go.Proofs.Ythjhiogbnacmdaa.top
open Go.Sort (grow)
open Go.ChangeShapes Go.WideShapes Go.ChangeAt Go.RowKit kit
set_option maxRecDepth 100000

/-- The place of the first one that is so; -1: none is. -/
def idxA {α : Type} (p : α → Bool) : List α → Int
  | [] => -1
  | x :: r => if p x = true then 0 else if idxA p r < 0 then -1 else idxA p r + 1
theorem idxA_ge {α : Type} (p : α → Bool) : ∀ L, -1 ≤ idxA p L
  | [] => by simp [idxA]
  | x :: r => by
    have := idxA_ge p r
    unfold idxA
    split
    · omega
    · split <;> omega
theorem idxA_none {α : Type} {p : α → Bool} : ∀ {L : List α}, (∀ x ∈ L, p x = false) → idxA p L = -1
  | [], _ => rfl
  | x :: r, h => by
    unfold idxA
    rw [if_neg (by rw [h x (by simp)]; simp), idxA_none (fun y hy => h y (by simp [hy])), if_pos (by omega)]
theorem idxA_hit {α : Type} {p : α → Bool} : ∀ {L : List α} {i : Nat} {y : α}, L[i]? = some y → p y = true → (∀ (j : Nat) x, j < i → L[j]? = some x → p x = false) → idxA p L = (i : Int)
  | [], _, _, h, _, _ => by simp at h
  | z :: r, 0, y, h, hp, _ => by
    obtain rfl : z = y := by simpa using h
    unfold idxA
    rw [if_pos hp]
    rfl
  | z :: r, i + 1, y, h, hp, hno => by
    have ih := idxA_hit (L := r) (i := i) (by simpa using h) hp (fun j x hj hx => hno (j + 1) x (by omega) (by simpa using hx))
    unfold idxA
    rw [if_neg (by rw [hno 0 z (by omega) rfl]; simp), ih, if_neg (by omega)]
    omega
theorem idxA_never {α : Type} {p : α → Bool} {L : List α} (h : ∀ (j : Nat) x, j < L.length → L[j]? = some x → p x = false) : idxA p L = -1 := idxA_none fun x hx => by
  obtain ⟨j, hj⟩ := List.getElem?_of_mem hx
  exact h j x (List.getElem?_eq_some_iff.1 hj).1 hj
theorem idxA_lt {α : Type} (p : α → Bool) : ∀ L : List α, idxA p L < L.length
  | [] => by simp [idxA]
  | x :: r => by
    have := idxA_lt p r
    unfold idxA
    rw [List.length_cons]
    split
    · omega
    · split <;> omega
/-- An address and a number: a place, or one between. -/
def pl (x : Int × Int) : Array Value := #[.int .u32 x.1, .int .i64 x.2]
theorem pl_len (x : Int × Int) : (pl x).toList.length = 2 := rfl
theorem pl_size (x : Int × Int) : (pl x).size = 2 := rfl
theorem pl_one (x : Int × Int) : ∀ u ∈ (pl x).toList, u.oneCell' = true := by
  intro u hu
  simp only [pl, List.mem_cons, List.not_mem_nil, or_false] at hu
  rcases hu with rfl | rfl <;> rfl
theorem szPl (x : Int × Int) : (Try.prog.info? 52).map (·.size) = some (pl x).size := by show _ = some 2; kernel_rfl
theorem szNs (x : Int × Int) : (Try.prog.info? 54).map (·.size) = some (pl x).size := by show _ = some 2; kernel_rfl
def cellsPl : List (Int × Int) → List Value
  | [] => []
  | x :: r => (pl x).toList ++ cellsPl r
theorem cellsPl_len : ∀ L : List (Int × Int), (cellsPl L).length = L.length * 2
  | [] => rfl
  | x :: r => by simp only [cellsPl, List.length_append, pl_len, List.length_cons, cellsPl_len r]; omega
theorem cellsPl_append : ∀ L M : List (Int × Int), cellsPl (L ++ M) = cellsPl L ++ cellsPl M
  | [], _ => rfl
  | x :: r, M => by simp only [List.cons_append, cellsPl, cellsPl_append r M, List.append_assoc]
theorem cellsPl_get {x : Int × Int} : ∀ {L : List (Int × Int)} {k : Nat}, L[k]? = some x → ∀ j, j < (pl x).size → (pl x)[j]? = (cellsPl L)[k * 2 + j]?
  | [], _, h, _, _ => by simp at h
  | y :: r, 0, h, j, hj => by
    obtain rfl : y = x := by simpa using h
    have hj2 : j < 2 := hj
    rw [cellsPl, Nat.zero_mul, Nat.zero_add, List.getElem?_append_left (by rw [pl_len]; exact hj2), Array.getElem?_toList]
  | y :: r, k + 1, h, j, hj => by
    have ih := cellsPl_get (L := r) (k := k) (by simpa using h) j hj
    rw [ih, cellsPl, List.getElem?_append_right (by rw [pl_len]; omega), pl_len, show (k + 1) * 2 + j - 2 = k * 2 + j by omega]
theorem row_at {w : World} {b0 n cap : Nat} {oa : Option Addr} {i : Nat} {x : Int × Int} {L : List (Int × Int)} (q : Qo w b0 2 (.slice oa n cap) n (cellsPl L)) (hn : L.length = n) (hx : L[i]? = some x) : ∃ h off, oa = some ⟨h, off, none⟩ ∧ h < w.heap.size ∧ b0 ≤ h ∧ Cel w h (off + i * 2) (pl x) := by
  have hi : i < L.length := (List.getElem?_eq_some_iff.1 hx).1
  obtain ⟨h, off, cap', e, _, _, h1, h2, h3, h4⟩ := q.show_ (by omega)
  injection e with e1 e2 e3
  subst e1
  exact ⟨h, off, rfl, h2, h1, h4 i (pl x) (by omega) (Nat.le_refl _) (cellsPl_get hx)⟩
/-- A host: its places. -/
def hos (v : Value) : Array Value := #[v, .string ⟨#[]⟩, .slice none 0 0]
theorem clg_place (x : Int × Int) (a : Int) (p : Nat) (W : World) (P : Blk W p 28 #[.int .u32 a]) : Calls Try.prog 35 #[.agg (pl x), .pointer (some ⟨p, 0, none⟩)] W fun e w' => e = .returned (.bool (decide (x.1 = a))) ∧ Below W.heap.size W w' := by
  obtain ⟨rb, hrb⟩ : ∃ rb, decide (x.1 = a) = rb := ⟨_, rfl⟩
  rw [hrb]
  have HRB := Lib.hid hrb
  clear hrb
  have P1 := P.alloc (.cells (pl x) 52)
  have X1 := Blk.new W 52 (pl x)
  have bel := (Below.refl W.heap.size W).alloc (Nat.le_refl _) (.cells (pl x) 52)
  go_enter Try.func35, Try.ntmps35
  go_upto_region 1 with fail
  obtain ⟨w1, hw1⟩ : ∃ w1, W.alloc (.cells (pl x) 52) = w1 := ⟨_, rfl⟩
  rw [hw1] at P1 X1 bel
  try rw [hw1]
  clear hw1
  have p0 : w1.cell? ⟨p, 0, none⟩ = some (.int .u32 a) := P1.cell 0
  have x0 : w1.cell? ⟨W.heap.size, 0, none⟩ = some (.int .u32 x.1) := X1.cell 0
  clear P1 P X1
  by_cases h : x.1 = a
  · have HY := Lib.hid (decide_eq_true h)
    go_wp2_with fail
    go_ret
    exact ⟨ret_bool (HY.out.symm.trans HRB.out), bel⟩
  · have HY := Lib.hid (decide_eq_false h)
    go_wp2_with fail
    go_ret
    exact ⟨ret_bool (by first | exact HY.out.symm.trans HRB.out | exact (beq_eq_false_iff_ne.2 h).trans (HY.out.symm.trans HRB.out)), bel⟩
theorem clg_nat (x : Int × Int) (a : Int) (p : Nat) (W : World) (P : Blk W p 28 #[.int .u32 a]) : Calls Try.prog 40 #[.agg (pl x), .pointer (some ⟨p, 0, none⟩)] W fun e w' => e = .returned (.bool (decide (x.1 = a))) ∧ Below W.heap.size W w' := by
  obtain ⟨rb, hrb⟩ : ∃ rb, decide (x.1 = a) = rb := ⟨_, rfl⟩
  rw [hrb]
  have HRB := Lib.hid hrb
  clear hrb
  have P1 := P.alloc (.cells (pl x) 54)
  have X1 := Blk.new W 54 (pl x)
  have bel := (Below.refl W.heap.size W).alloc (Nat.le_refl _) (.cells (pl x) 54)
  go_enter Try.func40, Try.ntmps40
  go_upto_region 1 with fail
  obtain ⟨w1, hw1⟩ : ∃ w1, W.alloc (.cells (pl x) 54) = w1 := ⟨_, rfl⟩
  rw [hw1] at P1 X1 bel
  try rw [hw1]
  clear hw1
  have p0 : w1.cell? ⟨p, 0, none⟩ = some (.int .u32 a) := P1.cell 0
  have x0 : w1.cell? ⟨W.heap.size, 0, none⟩ = some (.int .u32 x.1) := X1.cell 0
  clear P1 P X1
  by_cases h : x.1 = a
  · have HY := Lib.hid (decide_eq_true h)
    go_wp2_with fail
    go_ret
    exact ⟨ret_bool (HY.out.symm.trans HRB.out), bel⟩
  · have HY := Lib.hid (decide_eq_false h)
    go_wp2_with fail
    go_ret
    exact ⟨ret_bool (by first | exact HY.out.symm.trans HRB.out | exact (beq_eq_false_iff_ne.2 h).trans (HY.out.symm.trans HRB.out)), bel⟩
end Go.Proofs.Ythjhiogbnacmdaa.top
