/- Layer 32: which topologies may be. -/
import Derived.Test.YthjhiogbnacmdaaToF
namespace Go.Proofs.Ythjhiogbnacmdaa.top
open Go.Sort (grow)
open Go.ChangeShapes Go.WideShapes Go.ChangeAt Go.RowKit kit
set_option maxRecDepth 100000

theorem take_snoc {α : Type} {L : List α} {k : Nat} {x : α} (h : L[k]? = some x) : L.take (k + 1) = L.take k ++ [x] := by
  rw [List.take_add_one, h]; rfl
theorem low_wf (a : Int) : (Lit.int .u32 (bits .and .u32 a 31)).wf = true := by
  have h : bits .and .u32 a 31 = IntKind.u32.wrap ((BitVec.ofInt 32 a &&& BitVec.ofInt 32 31).toNat : Int) := rfl
  rw [h, IntKind.wrap_u32']
  simp only [Lit.wf, Bool.and_eq_true, decide_eq_true_eq]
  show (0 : Int) ≤ _ ∧ _ ≤ (4294967295 : Int)
  omega
/-- All apart, none of address 0. -/
def Good (l : List (Int × Int)) : Prop := l.Nodup ∧ ∀ x ∈ l, x.2 ≠ 0
theorem good_nil : Good [] := ⟨List.nodup_nil, fun x h => by cases h⟩
theorem good_snoc {l : List (Int × Int)} {x : Int × Int} : Good (l ++ [x]) ↔ Good l ∧ x ∉ l ∧ x.2 ≠ 0 := by
  unfold Good
  rw [List.nodup_append]
  constructor
  · rintro ⟨⟨h1, _, h3⟩, h4⟩
    exact ⟨⟨h1, fun y hy => h4 y (by simp [hy])⟩, fun hx => h3 x hx x (by simp) rfl, h4 x (by simp)⟩
  · rintro ⟨⟨h1, h2⟩, h3, h4⟩
    refine ⟨⟨h1, by simp, fun a ha b hb e => ?_⟩, fun y hy => ?_⟩
    · rw [List.mem_singleton] at hb
      subst hb
      subst e
      exact h3 ha
    · rw [List.mem_append, List.mem_singleton] at hy
      rcases hy with hy | rfl
      · exact h2 y hy
      · exact h4
theorem good_sub {l m : List (Int × Int)} (h : l.Sublist m) (g : Good m) : Good l := ⟨h.nodup g.1, fun x hx => g.2 x (h.subset hx)⟩
theorem apart_snoc {l : List (Int × Int)} {y : Int × Int} {c : Int} (h : ∀ a ∈ l, a.1 ≠ c) (hy : y.1 ≠ c) : ∀ a ∈ l ++ [y], a.1 ≠ c := by
  intro a ha
  rw [List.mem_append, List.mem_singleton] at ha
  rcases ha with ha | rfl
  · exact h a ha
  · exact hy
/-- How many, and how many are behind one: those between. -/
def Most (ns : List (Int × Int)) : Prop := ∀ y ∈ ns, 0 ≤ y.2 ∧ y.2 ≤ 256
theorem most_snoc {l : List (Int × Int)} {x : Int × Int} : Most (l ++ [x]) ↔ Most l ∧ 0 ≤ x.2 ∧ x.2 ≤ 256 := by
  unfold Most
  constructor
  · intro h
    exact ⟨fun y hy => h y (by simp [hy]), h x (by simp)⟩
  · rintro ⟨h1, h2⟩ y hy
    rw [List.mem_append, List.mem_singleton] at hy
    rcases hy with hy | rfl
    · exact h1 y hy
    · exact h2
theorem most_take {l : List (Int × Int)} (h : Most l) (k : Nat) : Most (l.take k) := fun y hy => h y (List.mem_of_mem_take hy)
/-- Places of one host. -/
def HostP (m : Nat) (L : List (Int × Int)) : Prop := (∀ x ∈ L, -1 ≤ x.2 ∧ x.2 < (m : Int)) ∧ (L.map (·.1)).Nodup
theorem hostP_nil (m : Nat) : HostP m [] := ⟨(fun x h => absurd h (List.not_mem_nil)), List.Pairwise.nil⟩
theorem hostP_snoc {m : Nat} {L : List (Int × Int)} {x : Int × Int} : HostP m (L ++ [x]) ↔ HostP m L ∧ (-1 ≤ x.2 ∧ x.2 < (m : Int)) ∧ ∀ y ∈ L, y.1 ≠ x.1 := by
  unfold HostP
  rw [List.map_append, List.nodup_append]
  constructor
  · rintro ⟨h1, h2, _, h4⟩
    exact ⟨⟨fun y hy => h1 y (by simp [hy]), h2⟩, h1 x (by simp), fun y hy => h4 y.1 (List.mem_map_of_mem hy) x.1 (by simp)⟩
  · rintro ⟨⟨h1, h2⟩, h3, h4⟩
    refine ⟨fun y hy => ?_, h2, by simp, fun a ha b hb => ?_⟩
    · rw [List.mem_append, List.mem_singleton] at hy
      rcases hy with hy | rfl
      · exact h1 y hy
      · exact h3
    · obtain ⟨y, hy, rfl⟩ := List.mem_map.1 ha
      simp only [List.map_cons, List.map_nil, List.mem_singleton] at hb
      subst hb
      exact h4 y hy
theorem hostP_take {m : Nat} {L : List (Int × Int)} (h : HostP m L) (k : Nat) : HostP m (L.take k) := ⟨fun y hy => h.1 y (List.mem_of_mem_take hy), by rw [List.map_take]; exact (List.take_sublist _ _).nodup h.2⟩
/-- Spots: behind which one between, and which address. -/
def spN (ns : List (Int × Int)) : List (Int × Int) := ns.map fun y => (-1, y.1)
def spH (L : List (Int × Int)) : List (Int × Int) := L.map fun x => (x.2, x.1)
def spA (ns : List (Int × Int)) (hs : Nat → List (Int × Int)) : Nat → List (Int × Int)
  | 0 => spN ns
  | n + 1 => spA ns hs n ++ spH (hs n)
theorem spN_snoc (l : List (Int × Int)) (x : Int × Int) : spN (l ++ [x]) = spN l ++ [(-1, x.1)] := by simp [spN]
theorem spH_snoc (l : List (Int × Int)) (x : Int × Int) : spH (l ++ [x]) = spH l ++ [(x.2, x.1)] := by simp [spH]
theorem spA_sub (ns : List (Int × Int)) (hs : Nat → List (Int × Int)) {i : Nat} : ∀ {n : Nat}, i ≤ n → (spA ns hs i).Sublist (spA ns hs n)
  | 0, h => by
    obtain rfl : i = 0 := by omega
    exact List.Sublist.refl _
  | n + 1, h => by
    by_cases e : i = n + 1
    · subst e; exact List.Sublist.refl _
    · exact (spA_sub ns hs (n := n) (by omega)).trans (List.sublist_append_left _ _)
/-- Which topologies may be. -/
structure Fine (n : Nat) (hs : Nat → List (Int × Int)) (ns : List (Int × Int)) : Prop where
  most : Most ns
  len : ∀ i, i < n → 1 ≤ (hs i).length ∧ (hs i).length ≤ 4
  host : ∀ i, i < n → HostP ns.length (hs i)
  good : Good (spA ns hs n)
  n1 : 1 ≤ n
  n6 : n ≤ 6
  ns4 : ns.length ≤ 4
section
variable {n : Nat} {hs : Nat → List (Int × Int)} {ns : List (Int × Int)}
theorem Fine.goodN (h : Fine n hs ns) (k : Nat) : Good (spN (ns.take k)) := good_sub (((List.take_sublist k ns).map _).trans (spA_sub ns hs (i := 0) (Nat.zero_le n))) h.good
theorem Fine.goodH (h : Fine n hs ns) {i : Nat} (hi : i < n) (k : Nat) : Good (spA ns hs i ++ spH ((hs i).take k)) :=
  good_sub ((List.Sublist.append (List.Sublist.refl _) ((List.take_sublist k (hs i)).map _)).trans (spA_sub ns hs (i := i + 1) hi)) h.good
/-- Behind so many hosts all was right. -/
structure Pre (i : Nat) (hs : Nat → List (Int × Int)) (ns : List (Int × Int)) : Prop where
  most : Most ns
  len : ∀ j, j < i → 1 ≤ (hs j).length ∧ (hs j).length ≤ 4
  host : ∀ j, j < i → HostP ns.length (hs j)
theorem Pre.next {i : Nat} (h : Pre i hs ns) (h1 : 1 ≤ (hs i).length) (h2 : (hs i).length ≤ 4) (h3 : HostP ns.length (hs i)) : Pre (i + 1) hs ns :=
  ⟨h.most, fun j hj => by
    by_cases e : j = i
    · subst e; exact ⟨h1, h2⟩
    · exact h.len j (by omega), fun j hj => by
    by_cases e : j = i
    · subst e; exact h3
    · exact h.host j (by omega)⟩
theorem spA_len : ∀ {i : Nat}, (∀ j, j < i → (hs j).length ≤ 4) → (spA ns hs i).length ≤ ns.length + i * 4
  | 0, _ => by simp [spA, spN]
  | i + 1, h => by
    have := spA_len (i := i) (fun j hj => h j (by omega))
    have := h i (by omega)
    rw [spA, List.length_append]
    simp only [spH, List.length_map]
    omega
end
theorem run_build2 {P : Program} {oi : Oper} {a : Act} {x0 x1 : Operand} {ty : TypeId} {s0 s1 u : Value} {v : World} (ho : oi.op = .build ty #[(0, x0), (1, x1)]) (h0 : a.eval x0 = s0) (h1 : a.eval x1 = s1) (hr : (Instr.build ty #[(0, s0), (1, s1)]).run P v = .ok u v) : (execOp a.eval oi).run P v = .ok (.value u) v := by
  unfold execOp
  simp [ho, h0, h1, hr]
/-! ### a row of spots -/
def sp (x : Int × Int) : Array Value := #[.int .i64 x.1, .int .u32 x.2]
theorem sp_len (x : Int × Int) : (sp x).toList.length = 2 := rfl
theorem sp_one (x : Int × Int) : ∀ u ∈ (sp x).toList, u.oneCell' = true := by
  intro u hu
  simp only [sp, List.mem_cons, List.not_mem_nil, or_false] at hu
  rcases hu with rfl | rfl <;> rfl
def cellsSp : List (Int × Int) → List Value
  | [] => []
  | x :: r => (sp x).toList ++ cellsSp r
theorem cellsSp_len : ∀ L : List (Int × Int), (cellsSp L).length = L.length * 2
  | [] => rfl
  | x :: r => by simp only [cellsSp, List.length_append, sp_len, List.length_cons, cellsSp_len r]; omega
theorem cellsSp_append : ∀ L M : List (Int × Int), cellsSp (L ++ M) = cellsSp L ++ cellsSp M
  | [], _ => rfl
  | x :: r, M => by simp only [List.cons_append, cellsSp, cellsSp_append r M, List.append_assoc]
theorem cellsSp_get {x : Int × Int} : ∀ {L : List (Int × Int)} {k : Nat}, L[k]? = some x → ∀ j, j < (sp x).size → (sp x)[j]? = (cellsSp L)[k * 2 + j]?
  | [], _, h, _, _ => by simp at h
  | y :: r, 0, h, j, hj => by
    obtain rfl : y = x := by simpa using h
    have hj2 : j < 2 := hj
    rw [cellsSp, Nat.zero_mul, Nat.zero_add, List.getElem?_append_left (by rw [sp_len]; exact hj2), Array.getElem?_toList]
  | y :: r, k + 1, h, j, hj => by
    have ih := cellsSp_get (L := r) (k := k) (by simpa using h) j hj
    rw [ih, cellsSp, List.getElem?_append_right (by rw [sp_len]; omega), sp_len, show (k + 1) * 2 + j - 2 = k * 2 + j by omega]
theorem spot_at {w : World} {b0 n cap : Nat} {oa : Option Addr} {i : Nat} {x : Int × Int} {L : List (Int × Int)} (q : Qo w b0 2 (.slice oa n cap) n (cellsSp L)) (hn : L.length = n) (hx : L[i]? = some x) : ∃ h off, oa = some ⟨h, off, none⟩ ∧ h < w.heap.size ∧ b0 ≤ h ∧ Cel w h (off + i * 2) (sp x) := by
  have hi : i < L.length := (List.getElem?_eq_some_iff.1 hx).1
  obtain ⟨h, off, cap', e, _, _, h1, h2, h3, h4⟩ := q.show_ (by omega)
  injection e with e1 e2 e3
  subst e1
  exact ⟨h, off, rfl, h2, h1, h4 i (sp x) (by omega) (Nat.le_refl _) (cellsSp_get hx)⟩
/-- What is remembered of spots. -/
structure Fs (B0 : Nat) (w wr : World) (v : Value) (l : List (Int × Int)) (vH vN : Value) : Prop where
  q : Qo wr (B0 + 1) 2 v l.length (cellsSp l)
  X : Blk wr B0 42 #[vH, vN]
  bel : Below B0 w wr
theorem infoSp : (Try.prog.info? 79).map (fun i => (i.zero, i.size, i.bytes)) = some (some (.agg #[.int .i64 0, .int .u32 0]), 2, 16) := by kernel_rfl
theorem szSp (x : Int × Int) : (Try.prog.info? 79).map (·.size) = some (sp x).size := by show _ = some 2; kernel_rfl
theorem Fs.drew {B0 : Nat} {w wr : World} {v vH vN : Value} {l : List (Int × Int)} (h : Fs B0 w wr v l vH vN) : Fs B0 w wr.drew v l vH vN := ⟨h.q.drew, h.X.drew, h.bel.drew⟩
theorem Fs.below {B0 k : Nat} {w wr w' : World} {v vH vN : Value} {l : List (Int × Int)} (h : Fs B0 w wr v l vH vN) (hb : Below k wr w') (hk : wr.heap.size ≤ k) : Fs B0 w w' v l vH vN := ⟨h.q.below hb hk, h.X.below hb (by have := h.X.lt; omega), h.bel.trans (hb.mono (by have := h.X.lt; omega))⟩
theorem Fs.app {B0 : Nat} {w wr : World} {v vH vN : Value} {l : List (Int × Int)} (h : Fs B0 w wr v l vH vN) (x : Int × Int) (hl : l.length ≤ 100) :
    ∃ v' w', (Builtin.append_ #[77, 77] 77 #[v, .slice (some ⟨wr.heap.size, 0, none⟩) 1 1]).run Try.prog (wr.alloc (.cells (sp x) 79)) = .ok v' w' ∧ Fs B0 w w' v' (l ++ [x]) vH vN := by
  obtain ⟨i0, hi0', hz0, hz1, hz2⟩ := info_parts infoSp
  have al6 := (Below.refl wr.heap.size wr).alloc (Nat.le_refl _) (.cells (sp x) 79)
  have hxl := h.X.lt
  have hs6 := al6.size
  have I6 := src_item (P := Try.prog) (SL := 77) (sz := 2) Try.underlying77 (Blk.new wr 79 (sp x)) (sp_one x) rfl
  obtain ⟨v7, w7, hr7, q7, gr7, ha7⟩ := qo_append (P := Try.prog) (t := 77) (ty := 77) Try.underlying77 hi0' hz0 hz1 hz2 rfl (h.q.below al6 (Nat.le_refl _)) I6 (by unfold maxLen; omega) (by omega) (by omega)
  have hql := fun j (hj : blkOf v = some j) => (h.q.lt hj).1
  refine ⟨v7, w7, hr7, ⟨?_, (gr7.block B0 (by omega) (fun e => by have := hql _ e.symm; omega)).trans (h.X.below al6 hxl), (h.bel.trans (al6.mono (by omega))).grown gr7 (by omega) (fun j hj => by have := hql j hj; omega)⟩⟩
  rw [cellsSp_append, List.length_append]
  show Qo w7 (B0 + 1) 2 v7 (l.length + 1) (cellsSp l ++ ((sp x).toList ++ []))
  rw [List.append_nil]
  exact q7
end Go.Proofs.Ythjhiogbnacmdaa.top
