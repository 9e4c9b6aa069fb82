/- Layer 37: messages as a row. -/
import Derived.Test.YthjhiogbnacmdaaCutA
import Derived.Test.YthjhiogbnacmdaaKitF
import Derived.BigQuiet
import Derived.Lib.QuietBelow
namespace Go.Proofs.Ythjhiogbnacmdaa.mo
open Go.Sort (grow)
open Go.ChangeShapes Go.WideShapes Go.ChangeAt Go.RowKit kit cut
set_option maxRecDepth 100000

theorem take_snoc {α : Type} {L : List α} {k : Nat} {x : α} (h : L[k]? = some x) : L.take (k + 1) = L.take k ++ [x] := by
  rw [List.take_add_one, h]; rfl
/-- A message: its stream, is it loose, its data. -/
structure Ms where
  s : Int
  lo : Bool
  d : ByteArray
theorem Ms.ext' {x y : Ms} (h1 : x.s = y.s) (h2 : x.lo = y.lo) (h3 : x.d = y.d) : x = y := by
  cases x
  cases y
  simp_all
def me (x : Ms) : Array Value := #[.int .i64 x.s, .int .i64 0, .bool x.lo, .int .u32 0, .string x.d]
theorem me_len (x : Ms) : (me x).toList.length = 5 := rfl
theorem me_one (x : Ms) : ∀ u ∈ (me x).toList, u.oneCell' = true := by
  intro u hu
  simp only [me, List.mem_cons, List.not_mem_nil, or_false] at hu
  rcases hu with rfl | rfl | rfl | rfl | rfl <;> rfl
theorem szMe (x : Ms) : (Try.prog.info? 71).map (·.size) = some (me x).size := by show _ = some 5; kernel_rfl
theorem infoMe : (Try.prog.info? 71).map (fun i => (i.zero, i.size, i.bytes)) = some (some (.agg #[.int .i64 0, .int .i64 0, .bool false, .int .u32 0, .string ByteArray.empty]), 5, 40) := by kernel_rfl
def cellsMe : List Ms → List Value
  | [] => []
  | x :: r => (me x).toList ++ cellsMe r
theorem cellsMe_len : ∀ L : List Ms, (cellsMe L).length = L.length * 5
  | [] => rfl
  | x :: r => by simp only [cellsMe, List.length_append, me_len, List.length_cons, cellsMe_len r]; omega
theorem cellsMe_append : ∀ L M : List Ms, cellsMe (L ++ M) = cellsMe L ++ cellsMe M
  | [], _ => rfl
  | x :: r, M => by simp only [List.cons_append, cellsMe, cellsMe_append r M, List.append_assoc]
theorem cellsMe_get {x : Ms} : ∀ {L : List Ms} {k : Nat}, L[k]? = some x → ∀ j, j < (me x).size → (me x)[j]? = (cellsMe L)[k * 5 + j]?
  | [], _, h, _, _ => by simp at h
  | y :: r, 0, h, j, hj => by
    obtain rfl : y = x := by simpa using h
    have hj2 : j < 5 := hj
    rw [cellsMe, Nat.zero_mul, Nat.zero_add, List.getElem?_append_left (by rw [me_len]; exact hj2), Array.getElem?_toList]
  | y :: r, k + 1, h, j, hj => by
    have ih := cellsMe_get (L := r) (k := k) (by simpa using h) j hj
    rw [ih, cellsMe, List.getElem?_append_right (by rw [me_len]; omega), me_len, show (k + 1) * 5 + j - 5 = k * 5 + j by omega]
theorem cellsMe_drop (L : List Ms) : cellsMe (L.drop 1) = (cellsMe L).drop 5 := by
  cases L with
  | nil => rfl
  | cons x r => rfl
theorem cellsMe_take (L : List Ms) : cellsMe (L.take 1) = (cellsMe L).take 5 := by
  cases L with
  | nil => rfl
  | cons x r =>
    show (me x).toList ++ cellsMe (r.take 0) = _
    rw [List.take_zero]
    rfl
/-- A row of messages. -/
abbrev QM (w : World) (b0 : Nat) (v : Value) (L : List Ms) : Prop := Qo w b0 5 v L.length (cellsMe L)
theorem msg_at {w : World} {b0 n cap : Nat} {oa : Option Addr} {i : Nat} {x : Ms} {L : List Ms} (q : Qo w b0 5 (.slice oa n cap) L.length (cellsMe L)) (hx : L[i]? = some x) : ∃ h off, oa = some ⟨h, off, none⟩ ∧ n = L.length ∧ h < w.heap.size ∧ b0 ≤ h ∧ blkOf (.slice oa n cap) = some h ∧ Cel w h (off + i * 5) (me x) := by
  have hi : i < L.length := (List.getElem?_eq_some_iff.1 hx).1
  obtain ⟨h, off, cap', e, _, _, h1, h2, h3, h4⟩ := q.show_ (by omega)
  injection e with e1 e2 e3
  subst e1
  exact ⟨h, off, rfl, e2, h2, h1, h3, h4 i (me x) (by omega) (Nat.le_refl _) (cellsMe_get hx)⟩
theorem me_app {w : World} {b0 : Nat} {v : Value} {L : List Ms} (q : QM w b0 v L) (hb : b0 ≤ w.heap.size) (x : Ms) (hl : L.length ≤ 100) :
    ∃ v' w', (Builtin.append_ #[35, 35] 35 #[v, .slice (some ⟨w.heap.size, 0, none⟩) 1 1]).run Try.prog (w.alloc (.cells (me x) 71)) = .ok v' w' ∧ QM w' b0 v' (L ++ [x]) ∧ (w.alloc (.cells (me x) 71)).grownBy w' (blkOf v) ∧ (blkOf v' = blkOf v ∨ blkOf v' = some (w.heap.size + 1) ∨ blkOf v' = none) := by
  obtain ⟨i0, hi0', hz0, hz1, hz2⟩ := info_parts infoMe
  have al6 := (Below.refl w.heap.size w).alloc (Nat.le_refl _) (.cells (me x) 71)
  have hs6 : (w.alloc (.cells (me x) 71)).heap.size = w.heap.size + 1 := by simp
  have I6 := src_item (P := Try.prog) (SL := 35) (sz := 5) Try.underlying35 (Blk.new w 71 (me x)) (me_one x) rfl
  obtain ⟨v7, w7, hr7, q7, gr7, ha7⟩ := qo_append (P := Try.prog) (t := 35) (ty := 35) Try.underlying35 hi0' hz0 hz1 hz2 rfl (q.below al6 (Nat.le_refl _)) I6 (by unfold maxLen; omega) (by omega) (by omega)
  rw [hs6] at ha7
  refine ⟨v7, w7, hr7, ?_, gr7, ha7⟩
  show Qo w7 b0 5 v7 (L ++ [x]).length (cellsMe (L ++ [x]))
  rw [cellsMe_append, List.length_append]
  show Qo w7 b0 5 v7 (L.length + 1) (cellsMe L ++ ((me x).toList ++ []))
  rw [List.append_nil]
  exact q7
theorem run_build3 {P : Program} {oi : Oper} {a : Act} {x0 x1 x2 : Operand} {i0 i1 i2 : Nat} {ty : TypeId} {s0 s1 s2 u : Value} {v : World} (ho : oi.op = .build ty #[(i0, x0), (i1, x1), (i2, x2)]) (h0 : a.eval x0 = s0) (h1 : a.eval x1 = s1) (h2 : a.eval x2 = s2) (hr : (Instr.build ty #[(i0, s0), (i1, s1), (i2, s2)]).run P v = .ok u v) : (execOp a.eval oi).run P v = .ok (.value u) v := by
  unfold execOp
  simp [ho, h0, h1, h2, hr]
/-- A message as an argument has it. -/
structure Ma where
  s : Int
  ss : Int
  lo : Bool
  pr : Int
  d : ByteArray
def mea (x : Ma) : Array Value := #[.int .i64 x.s, .int .i64 x.ss, .bool x.lo, .int .u32 x.pr, .string x.d]
/-- A row of messages, as an argument has it. -/
structure MsR (w : World) (B : Nat) (oa : Option Addr) (a : Addr) (n c : Nat) (E : Nat → Ma) : Prop where
  hc : n ≤ c
  hm : c ≤ maxLen
  ho : 0 < n → oa = some a
  hb : 0 < n → a.block < B
  cell : ∀ i, i < n → ∀ (j : Nat) u, (mea (E i))[j]? = some u → w.cell? ((a.add (i * 5)).add j) = some u
  sz : ∀ i, i < n → (E i).d.size ≤ maxLen
theorem MsR.below {w w' : World} {B : Nat} {oa : Option Addr} {a : Addr} {n c : Nat} {E : Nat → Ma} (h : MsR w B oa a n c E) (hb : Below B w w') : MsR w' B oa a n c E :=
  ⟨h.hc, h.hm, h.ho, h.hb, fun i hi j u hu => (hb.cell (p := (a.add (i * 5)).add j) (by rw [addr_add_block, addr_add_block]; exact h.hb (by omega))).trans (h.cell i hi j u hu), h.sz⟩
/-- Of few streams and bytes. -/
def lowM (x : Ma) : Ms := ⟨bits .and .i64 x.s 1, x.lo, x.d.extract 0 (min x.d.size 2)⟩
def tm (E : Nat → Ma) : Nat → List Ms
  | 0 => []
  | n + 1 => tm E n ++ [lowM (E n)]
theorem tm_len (E : Nat → Ma) : ∀ n, (tm E n).length = n
  | 0 => rfl
  | n + 1 => by rw [tm, List.length_append, tm_len E n]; rfl
theorem low_s (x : Ma) : (lowM x).s = 0 ∨ (lowM x).s = 1 := by
  have h : bits .and .i64 x.s 1 = x.s % 2 := i64_mask x.s 1 (by decide)
  show bits .and .i64 x.s 1 = 0 ∨ bits .and .i64 x.s 1 = 1
  omega
theorem tm_s (E : Nat → Ma) : ∀ n, ∀ x ∈ tm E n, x.s = 0 ∨ x.s = 1
  | 0, x, h => absurd h List.not_mem_nil
  | n + 1, x, h => by
    rw [tm, List.mem_append, List.mem_singleton] at h
    rcases h with h | rfl
    · exact tm_s E n x h
    · exact low_s _
theorem run_and9 {P : Program} {oi : Oper} {a : Act} {x y : Operand} {tx ty : TypeId} {s j u : Value} {v : World} (ho : oi.op = .binOp .and tx x y ty) (hx : a.eval x = s) (hy : a.eval y = j) (hr : (binOp .and tx s j).run P v = .ok u v) : (execOp a.eval oi).run P v = .ok (.value u) v := by
  unfold execOp
  simp [ho, hx, hy, eqGuard, hr]
theorem andI9 (x y : Int) (W : World) : (binOp .and 3 (.int .i64 x) (.int .i64 y)).run Try.prog W = .ok (.int .i64 (bits .and .i64 x y)) W := by go_simp
theorem add_off (a : Addr) (k j : Nat) (hj : 0 < j) : (a.add k).add j = ⟨(a.add k).block, (a.add k).off + j, none⟩ := by unfold Addr.add; split <;> simp_all <;> omega
end Go.Proofs.Ythjhiogbnacmdaa.mo
