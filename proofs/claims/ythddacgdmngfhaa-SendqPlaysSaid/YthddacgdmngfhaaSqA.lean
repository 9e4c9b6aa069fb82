/- Layer 20: a queue that holds whatever chunks. -/
import Derived.Test.YthddacgdmngfhaaSenE
import Derived.Test.YthddacgdmngfhaaKitW
import Derived.Test.YthddacgdmngfhaaKitF
namespace Go.Proofs.Ythddacgdmngfhaa.fra
open Go.Sort (grow)
open Go.ChangeShapes Go.WideShapes Go.ChangeAt Go.RowKit kit
set_option maxRecDepth 100000

/-- What a chunk of a message says. -/
structure Ck where
  f : Int
  st : Int
  ss : Int
  pr : Int
  d : ByteArray
def ckc (x : Ck) : Array Value := #[.int .i64 0, .int .i64 x.f, .int .u32 0, .int .i64 x.st, .int .i64 x.ss, .int .u32 x.pr, .string x.d, .int .u32 0, .int .u32 0, .int .i64 0, .int .i64 0, .slice none 0 0, .slice none 0 0, .slice none 0 0, .slice none 0 0]
def cellsC : List Ck → List Value
  | [] => []
  | x :: r => (ckc x).toList ++ cellsC r
theorem ckc_len (x : Ck) : (ckc x).toList.length = 15 := rfl
theorem cellsC_len : ∀ L : List Ck, (cellsC L).length = L.length * 15
  | [] => rfl
  | x :: r => by simp only [cellsC, List.length_append, ckc_len, List.length_cons, cellsC_len r]; omega
theorem cellsC_append : ∀ L M : List Ck, cellsC (L ++ M) = cellsC L ++ cellsC M
  | [], _ => rfl
  | x :: r, M => by simp only [List.cons_append, cellsC, cellsC_append r M, List.append_assoc]
theorem cellsC_get {x : Ck} : ∀ {L : List Ck} {k : Nat}, L[k]? = some x → ∀ j, j < (ckc x).size → (ckc x)[j]? = (cellsC L)[k * 15 + j]?
  | [], _, h, _, _ => by simp at h
  | y :: r, 0, h, j, hj => by
    obtain rfl : y = x := by simpa using h
    have hj15 : j < 15 := hj
    rw [cellsC, Nat.zero_mul, Nat.zero_add, List.getElem?_append_left (by rw [ckc_len]; exact hj15), Array.getElem?_toList]
  | y :: r, k + 1, h, j, hj => by
    have ih := cellsC_get (L := r) (k := k) (by simpa using h) j hj
    rw [ih, cellsC, List.getElem?_append_right (by rw [ckc_len]; omega), ckc_len, show (k + 1) * 15 + j - 15 = k * 15 + j by omega]
theorem cellsC_drop (x : Ck) (r : List Ck) : (cellsC (x :: r)).drop 15 = cellsC r := by
  rw [cellsC, ← ckc_len x, List.drop_left']
  rfl
theorem cellsC_one : ∀ (L : List Ck), ∀ u ∈ cellsC L, u.oneCell' = true
  | [], u, h => by cases h
  | x :: r, u, h => by
    rw [cellsC, List.mem_append] at h
    rcases h with h | h
    · have := Array.all_eq_true'.1 (show (ckc x).all (·.oneCell') = true by kernel_rfl) u (by rwa [← Array.mem_toList_iff])
      exact this
    · exact cellsC_one r u h
theorem szK (x : Ck) : (Try.prog.info? 40).map (·.size) = some (ckc x).size := by show _ = some 15; kernel_rfl
theorem infoK : (Try.prog.info? 40).map (fun i => (i.zero, i.size, i.bytes)) = some (some (.agg (ck 0 0 0 0 ⟨#[]⟩)), 15, 184) := by kernel_rfl
/-- How many bytes chunks have. -/
def bts : List Ck → Nat
  | [] => 0
  | x :: r => x.d.size + bts r
theorem bts_append : ∀ L M : List Ck, bts (L ++ M) = bts L + bts M
  | [], M => by simp [bts]
  | x :: r, M => by simp only [List.cons_append, bts, bts_append r M]; omega
/-- Places, of 16 bits, and as the statement has them. -/
def cellsP (P : List Nat) : List Value := P.map fun (p : Nat) => Value.int .u16 (p : Int)
def cellsN (P : List Nat) : List Value := P.map fun (p : Nat) => Value.int .i64 (p : Int)
theorem cellsP_len (P : List Nat) : (cellsP P).length = P.length * 1 := by simp [cellsP]
theorem cellsN_len (P : List Nat) : (cellsN P).length = P.length * 1 := by simp [cellsN]
theorem cellsN_one (P : List Nat) : ∀ u ∈ cellsN P, u.oneCell' = true := by
  intro u hu
  obtain ⟨p, _, rfl⟩ := List.mem_map.1 hu
  rfl
theorem cellsP_zero (P : List Nat) (m : Nat) : cellsP P ++ List.replicate m (.int .u16 0) = cellsP (P ++ List.replicate m 0) := by simp [cellsP]
theorem cellsN_zero (P : List Nat) (m : Nat) : cellsN P ++ List.replicate m (.int .i64 0) = cellsN (P ++ List.replicate m 0) := by simp [cellsN]
theorem cellsP_get (P : List Nat) (k : Nat) (h : k < P.length) : (cellsP P)[k]? = some (.int .u16 (P[k] : Int)) := by simp [cellsP, h]
theorem cellsN_get (P : List Nat) (k : Nat) (h : k < P.length) : (cellsN P)[k]? = some (.int .i64 (P[k] : Int)) := by simp [cellsN, h]
theorem cellsP_set (P : List Nat) (k p : Nat) : (cellsP P).set k (.int .u16 (p : Int)) = cellsP (P.set k p) := by simp [cellsP, List.map_set]
theorem cellsN_set (P : List Nat) (k p : Nat) : (cellsN P).set k (.int .i64 (p : Int)) = cellsN (P.set k p) := by simp [cellsN, List.map_set]
/-- A queue in memory. -/
structure Sq (b0 g : Nat) (pv cv : Value) (P : List Nat) (C : List Ck) (w : World) : Prop where
  B : Blk w g 158 #[pv, cv, .int .i64 (bts C : Nat)]
  p : Qo w b0 1 pv P.length (cellsP P)
  c : Qo w b0 15 cv C.length (cellsC C)
  np : blkOf pv ≠ some g
  nc : blkOf cv ≠ some g
  pc : ∀ k, blkOf pv = some k → blkOf cv ≠ some k
  hg : b0 ≤ g
section
variable {b0 g : Nat} {pv cv : Value} {P : List Nat} {C : List Ck} {w w' : World}
theorem Sq.below {k : Nat} (h : Sq b0 g pv cv P C w) (hb : Below k w w') (hk : w.heap.size ≤ k) : Sq b0 g pv cv P C w' :=
  ⟨h.B.below hb (Nat.lt_of_lt_of_le h.B.lt hk), h.p.below hb hk, h.c.below hb hk, h.np, h.nc, h.pc, h.hg⟩
theorem Sq.frame (h : Sq b0 g pv cv P C w) (hs : w.heap.size ≤ w'.heap.size) (hb : ∀ b, b = g ∨ blkOf pv = some b ∨ blkOf cv = some b → w'.heap[b]? = w.heap[b]?) : Sq b0 g pv cv P C w' :=
  ⟨(hb g (.inl rfl)).trans h.B, h.p.block hs fun b hq => hb b (.inr (.inl hq)), h.c.block hs fun b hq => hb b (.inr (.inr hq)), h.np, h.nc, h.pc, h.hg⟩
theorem sq_streams (h : Sq b0 g pv cv P C w) : Calls Try.prog 24 #[.pointer (some ⟨g, 0, none⟩)] w fun e w' => e = .returned (.int .i64 P.length) ∧ w' = w := by
  obtain ⟨oa, cap, rfl, _, _⟩ := h.p.shape
  have c0 : w.cell? ⟨g, 0, none⟩ = some (.slice oa P.length cap) := h.B.cell 0
  go_enter Try.func24, Try.ntmps24
  go_wp2_with fail
  go_ret
  exact ⟨rfl, rfl⟩
theorem sq_len (h : Sq b0 g pv cv P C w) : Calls Try.prog 23 #[.pointer (some ⟨g, 0, none⟩)] w fun e w' => e = .returned (.int .i64 C.length) ∧ w' = w := by
  obtain ⟨oa, cap, rfl, _, _⟩ := h.c.shape
  have c0 : w.cell? ⟨g, 1, none⟩ = some (.slice oa C.length cap) := h.B.cell 1
  go_enter Try.func23, Try.ntmps23
  go_wp2_with fail
  go_ret
  exact ⟨rfl, rfl⟩
theorem sq_bytes (h : Sq b0 g pv cv P C w) : Calls Try.prog 22 #[.pointer (some ⟨g, 0, none⟩)] w fun e w' => e = .returned (.int .i64 (bts C : Nat)) ∧ w' = w := by
  have c0 : w.cell? ⟨g, 2, none⟩ = some (.int .i64 (bts C : Nat)) := h.B.cell 2
  go_enter Try.func22, Try.ntmps22
  go_wp2_with fail
  go_ret
  exact ⟨rfl, rfl⟩
theorem sq_peek_nil (h : Sq b0 g pv cv P [] w) : Calls Try.prog 16 #[.pointer (some ⟨g, 0, none⟩)] w fun e w' => e = .returned (.tuple #[.int .i64 0, .bool false]) ∧ w' = w := by
  have hl : ∀ w', w' = w → Calls Try.prog 23 #[.pointer (some ⟨g, 0, none⟩)] w' fun e w'' => e = .returned (.int .i64 0) ∧ w'' = w := by
    rintro w' rfl
    exact sq_len h
  go_enter Try.func16, Try.ntmps16
  go_wp2_with fail
  refine (hl _ rfl).mono ?_
  rintro e w1 ⟨rfl, rfl⟩
  go_wp2_with fail
  go_ret2
  exact ⟨rfl, rfl⟩
theorem sq_take_nil (h : Sq b0 g pv cv P [] w) : Calls Try.prog 17 #[.pointer (some ⟨g, 0, none⟩)] w fun e w' => e = .returned (.tuple #[.agg #[.int .i64 0, .int .i64 0, .int .u32 0, .int .i64 0, .int .i64 0, .int .u32 0, .string ⟨#[]⟩, .int .u32 0, .int .u32 0, .int .i64 0, .int .i64 0, .slice none 0 0, .slice none 0 0, .slice none 0 0, .slice none 0 0], .bool false]) ∧ Below w.heap.size w w' := by
  have al := (Below.refl w.heap.size w).alloc (Nat.le_refl _) (.cells #[.int .i64 0, .int .i64 0, .int .u32 0, .int .i64 0, .int .i64 0, .int .u32 0, .string ⟨#[]⟩, .int .u32 0, .int .u32 0, .int .i64 0, .int .i64 0, .slice none 0 0, .slice none 0 0, .slice none 0 0, .slice none 0 0] 40)
  have hl := sq_len (h.below al (Nat.le_refl _))
  go_enter Try.func17, Try.ntmps17
  go_wp2_with fail
  refine hl.mono ?_
  rintro e w1 ⟨rfl, rfl⟩
  go_wp2
  have B := Blk.new w 40 (ck 0 0 0 0 ⟨#[]⟩)
  have bel := (Below.refl w.heap.size w).alloc (Nat.le_refl _) (.cells (ck 0 0 0 0 ⟨#[]⟩) 40)
  refine bodyPost_ret (v := .tuple #[.agg (ck 0 0 0 0 ⟨#[]⟩), .bool false]) ?_ rfl ⟨rfl, bel⟩
  rw [results_cell_tmp rfl]
  have h := run_loadVar_row (w.alloc (.cells (ck 0 0 0 0 ⟨#[]⟩) 40)) w.heap.size 40 40 _ (0, 0) _ B Try.underlying40 rfl (by kernel_rfl)
  have h2 : w.alloc (.cells (ck 0 0 0 0 ⟨#[]⟩) 40) = w.alloc (.cells #[.int .i64 0, .int .i64 0, .int .u32 0, .int .i64 0, .int .i64 0, .int .u32 0, .string ⟨#[]⟩, .int .u32 0, .int .u32 0, .int .i64 0, .int .i64 0, .slice none 0 0, .slice none 0 0, .slice none 0 0, .slice none 0 0] 40) := rfl
  rw [h2] at h
  simp [asAddr, h]
theorem sq_peek {x : Ck} {r : List Ck} (h : Sq b0 g pv cv P (x :: r) w) : Calls Try.prog 16 #[.pointer (some ⟨g, 0, none⟩)] w fun e w' => e = .returned (.tuple #[.int .i64 x.d.size, .bool true]) ∧ w' = w := by
  have hl := sq_len h
  obtain ⟨gc, off, cap, hv, h1, h2, _, _, _, h6⟩ := h.c.show_ (by simp)
  have K := h6 0 (ckc x) (by simp) (by show 15 ≤ 15; omega) (cellsC_get (by rfl))
  have s1 : w.cell? ⟨g, 1, none⟩ = some (.slice (some ⟨gc, off, none⟩) (r.length + 1) cap) := (h.B.cell 1).trans (congrArg some hv)
  have y6 : w.cell? ⟨gc, off + 6, none⟩ = some (.string x.d) := by have := K.cell 6 (u := .string x.d) rfl; simpa using this
  have hlen : ((x :: r : List Ck).length : Int) = (r.length : Int) + 1 := by simp
  rw [hlen] at hl
  have h10 : ¬ (r.length : Int) + 1 = 0 := by omega
  have hn1 : (0 : Int) < (r.length : Int) + 1 := by omega
  clear h6 K h hv hlen
  go_enter Try.func16, Try.ntmps16
  go_wp2_with fail
  refine hl.mono ?_
  rintro e w1 ⟨rfl, hw⟩
  obtain rfl : w = w1 := hw.symm
  go_wp2_with fail
  go_ret2
  exact ⟨rfl, rfl⟩
end
end Go.Proofs.Ythddacgdmngfhaa.fra
