/- Layer 21: chunks under way as a row; the next number; one more. -/
import Derived.Test.YthddacgdmngfhaaFliI
import Derived.Test.YthddacgdmngfhaaKitV
import Derived.Test.YthddacgdmngfhaaKitX
import Derived.Test.YthddacgdmngfhaaKitY
import Derived.Test.YthddacgdmngfhaaKitDq
import Derived.Test.YthddacgdmngfhaaPpD
namespace Go.Proofs.Ythddacgdmngfhaa.fli
open Go.Sort (grow)
open Go.ChangeShapes Go.WideShapes Go.ChangeAt Go.RowKit kit
set_option maxRecDepth 100000

/-- A chunk under way: its number, path, time, how often it was sent, missed, whether it is to be sent again, came, was sent at once. -/
structure Sx where
  t : Int
  p : Int
  a : Int
  m : Int
  mi : Int
  ag : Bool
  ca : Bool
  fa : Bool
def sx (x : Sx) : Array Value := #[.int .i64 0, .int .i64 0, .int .u32 x.t, .int .i64 0, .int .i64 0, .int .u32 0, .string ⟨#[120]⟩, .int .u32 0, .int .u32 0, .int .i64 0, .int .i64 0, .slice none 0 0, .slice none 0 0, .slice none 0 0, .slice none 0 0, .int .i64 x.p, .int .i64 x.a, .int .i64 x.m, .int .i64 x.mi, .bool x.ag, .bool x.ca, .bool x.fa]
theorem sx_size (x : Sx) : (sx x).size = 22 := rfl
theorem sx_len (x : Sx) : (sx x).toList.length = 22 := rfl
theorem oneS (x : Sx) : (sx x).all (·.oneCell') = true := by kernel_rfl
theorem sx_one (x : Sx) : ∀ u ∈ (sx x).toList, u.oneCell' = true := by
  intro u hu
  exact Array.all_eq_true'.1 (oneS x) u (by rwa [← Array.mem_toList_iff])
theorem szX (x : Sx) : (Try.prog.info? 231).map (·.size) = some (sx x).size := by show _ = some 22; kernel_rfl
def cellsF (f : Nat → Sx) : Nat → List Value
  | 0 => []
  | n + 1 => cellsF f n ++ (sx (f n)).toList
theorem cellsF_len (f : Nat → Sx) : ∀ n, (cellsF f n).length = n * 22
  | 0 => rfl
  | n + 1 => by rw [cellsF, List.length_append, cellsF_len f n, sx_len]; omega
theorem cellsF_get (f : Nat → Sx) : ∀ {n i j : Nat}, i < n → j < 22 → (cellsF f n)[i * 22 + j]? = (sx (f i))[j]?
  | 0, _, _, h, _ => by omega
  | n + 1, i, j, h, hj => by
    rw [cellsF]
    by_cases hi : i < n
    · rw [List.getElem?_append_left (by rw [cellsF_len]; omega), cellsF_get f hi hj]
    · obtain rfl : i = n := by omega
      rw [List.getElem?_append_right (by rw [cellsF_len]; omega), cellsF_len, show i * 22 + j - i * 22 = j by omega, Array.getElem?_toList]
theorem cellsF_congr {f g : Nat → Sx} : ∀ {n : Nat}, (∀ i, i < n → f i = g i) → cellsF f n = cellsF g n
  | 0, _ => rfl
  | n + 1, h => by rw [cellsF, cellsF, cellsF_congr (n := n) (fun i hi => h i (by omega)), h n (by omega)]
theorem cellsF_one (f : Nat → Sx) : ∀ n, ∀ u ∈ cellsF f n, u.oneCell' = true
  | 0, u, h => by cases h
  | n + 1, u, h => by
    rw [cellsF, List.mem_append] at h
    rcases h with h | h
    · exact cellsF_one f n u h
    · exact sx_one _ u h
/-- One chunk put in another one's place. -/
def upd (f : Nat → Sx) (i : Nat) (y : Sx) : Nat → Sx := fun k => if k = i then y else f k
theorem cellsF_set (f : Nat → Sx) {n i j : Nat} (hi : i < n) (hj : j < 22) (u : Value) (y : Sx) (hy : (sx (f i)).setIfInBounds j u = sx y) : (cellsF f n).set (i * 22 + j) u = cellsF (upd f i y) n := by
  apply List.ext_getElem?
  intro k
  by_cases hk : k < n * 22
  · obtain ⟨a, b, hb, rfl⟩ : ∃ a b, b < 22 ∧ k = a * 22 + b := ⟨k / 22, k % 22, by omega, by omega⟩
    rw [cellsF_get (upd f i y) (by omega) hb, List.getElem?_set]
    by_cases e : i * 22 + j = a * 22 + b
    · obtain ⟨rfl, rfl⟩ : i = a ∧ j = b := by omega
      rw [if_pos rfl, if_pos (by rw [cellsF_len]; omega), upd, if_pos rfl, ← hy]
      have hs : j < (sx (f i)).size := by rw [sx_size]; exact hj
      simp [hs]
    · rw [if_neg e, cellsF_get f (by omega) hb, upd]
      by_cases hai : a = i
      · subst hai
        rw [if_pos rfl, ← hy, Array.getElem?_setIfInBounds, if_neg (by omega)]
      · rw [if_neg hai]
  · rw [List.getElem?_eq_none (by rw [List.length_set, cellsF_len]; omega), List.getElem?_eq_none (by rw [cellsF_len]; omega)]
/-- A flight. -/
structure Fw (b0 g : Nat) (c : Int) (f : Nat → Sx) (n : Nat) (v : Value) (w : World) : Prop where
  B : Blk w g 229 #[.int .u32 c, v]
  q : Qo w b0 22 v n (cellsF f n)
  hg : b0 ≤ g
  hn : blkOf v ≠ some g
section
variable {b0 g n : Nat} {c : Int} {f : Nat → Sx} {v : Value} {w w' : World}
theorem Fw.below (h : Fw b0 g c f n v w) {k : Nat} (hb : Below k w w') (hk : w.heap.size ≤ k) : Fw b0 g c f n v w' := ⟨h.B.below hb (Nat.lt_of_lt_of_le h.B.lt hk), h.q.below hb hk, h.hg, h.hn⟩
theorem Fw.alloc (h : Fw b0 g c f n v w) (o : Obj) : Fw b0 g c f n v (w.alloc o) := h.below ((Below.refl w.heap.size w).alloc (Nat.le_refl _) o) (Nat.le_refl _)
theorem Fw.drew (h : Fw b0 g c f n v w) : Fw b0 g c f n v w.drew := ⟨h.B, h.q.drew, h.hg, h.hn⟩
theorem Fw.congr {f' : Nat → Sx} (h : Fw b0 g c f n v w) (e : ∀ i, i < n → f i = f' i) : Fw b0 g c f' n v w := ⟨h.B, by rw [← cellsF_congr e]; exact h.q, h.hg, h.hn⟩
/-- Where a chunk lies. -/
theorem Fw.at_ (h : Fw b0 g c f n v w) {i : Nat} (hi : i < n) : ∃ hh off cap, v = .slice (some ⟨hh, off, none⟩) n cap ∧ n ≤ cap ∧ cap ≤ maxLen ∧ hh ≠ g ∧ b0 ≤ hh ∧ hh < w.heap.size ∧ Cel w hh (off + i * 22) (sx (f i)) := by
  obtain ⟨hh, off, cap, hv, h1, h2, h3, h4, h5, h6⟩ := h.q.show_ (by omega)
  exact ⟨hh, off, cap, hv, h1, h2, fun e => h.hn (by rw [h5, e]), h3, h4, h6 i (sx (f i)) hi (Nat.le_refl _) (fun j hj => (cellsF_get f hi (by rw [sx_size] at hj; exact hj)).symm)⟩
end
/-- The number behind so many. -/
def nx (c : Int) (n : Nat) : Int := ((c + n) % 4294967296 + 1) % 4294967296
set_option maxHeartbeats 2000000 in
theorem next_g {b0 g n : Nat} {c : Int} {f : Nat → Sx} {v : Value} {w : World} (h : Fw b0 g c f n v w) (hn : n ≤ 1000) : Calls Try.prog 127 #[.pointer (some ⟨g, 0, none⟩)] w fun e w' => e = .returned (.int .u32 (nx c n)) ∧ Below w.heap.size w w' := by
  obtain ⟨oa, cap, hv, _, _⟩ := h.q.shape
  subst hv
  have c0 : w.cell? ⟨g, 0, none⟩ = some (.int .u32 c) := h.B.cell 0
  have c1 : w.cell? ⟨g, 1, none⟩ = some (.slice oa n cap) := h.B.cell 1
  have hw : IntKind.u32.wrap (n : Int) = (n : Int) := by show (n : Int) % 4294967296 = _; omega
  have hw2 : (n : Int) % 4294967296 = (n : Int) := by omega
  go_enter Try.func127, Try.ntmps127
  go_wp2_with fail
  go_region
  all_goals
    go_wp2_with fail
    go_ret
    exact ⟨by unfold nx; rfl, (Below.refl _ _).drew⟩
theorem infoX : (Try.prog.info? 231).map (fun i => (i.zero, i.size, i.bytes)) = some (some (.agg zS), 22, 224) := infoS
theorem new_flg (c : Int) (w : World) : Calls Try.prog 74 #[.int .u32 c] w fun e w' => e = .returned (.pointer (some ⟨w.heap.size, 0, none⟩)) ∧ w' = w.alloc (.cells #[.int .u32 c, .slice none 0 0] 229) := by
  go_enter Try.func74, Try.ntmps74
  go_wp2_with fail
  go_ret
  exact ⟨rfl, rfl⟩
end Go.Proofs.Ythddacgdmngfhaa.fli
