/- Layer 6: a chunk that is not too great: whatever chunk comes, one is made (gen-cut.py wrote this). -/
import Derived.Test.YthjhiogbnacmdaaRows
import Derived.Test.YthjhiogbnacmdaaKitNs
import Derived.Test.YthjhiogbnacmdaaKitV
import Derived.Test.YthjhiogbnacmdaaKitX
import Derived.Test.YthjhiogbnacmdaaKitY
import Derived.Test.YthjhiogbnacmdaaKitDq
import Derived.Test.YthjhiogbnacmdaaKitS
import Derived.LoopTactic
import Derived.Deep.CutBlock
import Derived.Deep.DeepCutAuto
import Derived.Outline
namespace Go.Proofs.Ythjhiogbnacmdaa.cut
open Go.Sort (grow)
open Go.ChangeShapes Go.WideShapes Go.ChangeAt Go.RowKit kit
set_option maxRecDepth 100000

/-- A row of pairs of a number and a text, as an argument has it. -/
structure PR (w : World) (B : Nat) (oa : Option Addr) (a : Addr) (n c : Nat) (E : Nat → Int × ByteArray) : Prop where
  hc : n ≤ c
  hm : c ≤ maxLen
  ho : 0 < n → oa = some a
  hb : 0 < n → a.block < B
  cell : ∀ i, i < n → ∀ (j : Nat) u, (#[.int .i64 (E i).1, .string (E i).2] : Array Value)[j]? = some u → w.cell? ((a.add (i * 2)).add j) = some u
  sz : ∀ i, i < n → (E i).2.size ≤ maxLen
theorem PR.below {w w' : World} {B : Nat} {oa : Option Addr} {a : Addr} {n c : Nat} {E : Nat → Int × ByteArray} (h : PR w B oa a n c E) (hb : Below B w w') : PR w' B oa a n c E :=
  ⟨h.hc, h.hm, h.ho, h.hb, fun i hi j u hu => (hb.cell (p := (a.add (i * 2)).add j) (by rw [addr_add_block, addr_add_block]; exact h.hb (by omega))).trans (h.cell i hi j u hu), h.sz⟩
theorem run_min {P : Program} {oi : Oper} {a : Act} {x y : Operand} {t1 t2 : TypeId} {s j u : Value} {v : World} (ho : oi.op = .call { callee := .builtin .min, args := #[x, y], argTypes := #[t1, t2] }) (hx : a.eval x = s) (hy : a.eval y = j) (hr : ∀ cs, (builtin .min #[t1, t2] oi.type cs #[s, j]).run P v = .ok (.value u) v) : (execOp a.eval oi).run P v = .ok (.value u) v := by
  unfold execOp
  simp [ho, resolve, invoke, hx, hy, hr]
theorem run_slice_s {P : Program} {oi : Oper} {a : Act} {x h : Operand} {ty : TypeId} {j u : Value} {s : ByteArray} {v : World} (hu : P.underlying ty = some .string) (ho : oi.op = .slice ty x none (some h) none) (hx : a.eval x = .string s) (hh : a.eval h = j) (hr : (Instr.slice ty (.string s) none (some j) none).run P v = .ok u v) : (execOp a.eval oi).run P v = .ok (.value u) v := by
  unfold execOp
  simp [ho, hx, hh, Instr.sliceAt, run_underlying hu, hr]
theorem min_run (n m k : Nat) (M : Int) (hM : M = (m : Int)) (hk : min n m = k) (W : World) (cs) : (builtin .min #[3, 3] 3 cs #[.int .i64 (n : Nat), .int .i64 M]).run Try.prog W = .ok (.value (.int .i64 (k : Nat))) W := by
  subst hk
  subst hM
  by_cases h : (n : Int) ≤ (m : Int)
  · rw [show min n m = n by omega]; go_simp; intro; omega
  · rw [show min n m = m by omega]; go_simp; intro; omega
theorem slice_s (s : ByteArray) (k : Nat) (hk : k ≤ s.size) (hs : s.size ≤ maxLen) (W : World) : (Instr.slice 9 (.string s) none (some (.int .i64 (k : Nat))) none).run Try.prog W = .ok (.string (s.extract 0 k)) W := by
  unfold maxLen at hs
  have h0 : (0 : Int) ≤ (k : Int) := by omega
  have h1 : (k : Int) ≤ (s.size : Int) := by omega
  go_simp
theorem len_s (s : ByteArray) (W : World) (cs) : (builtin .len #[9] 3 cs #[.string s]).run Try.prog W = .ok (.value (.int .i64 (s.size : Nat))) W := by go_simp
theorem add_zz (a : Addr) (k : Nat) : (a.add k).add 0 = a.add k := by unfold Addr.add; split <;> simp_all
theorem add_zo (a : Addr) (k : Nat) : (a.add k).add 1 = ⟨(a.add k).block, (a.add k).off + 1, none⟩ := by unfold Addr.add; split <;> simp_all
theorem run_build2 {P : Program} {oi : Oper} {a : Act} {x0 x1 : Operand} {ty : TypeId} {s0 s1 u : Value} {v : World} (ho : oi.op = .build ty #[(0, x0), (1, x1)]) (h0 : a.eval x0 = s0) (h1 : a.eval x1 = s1) (hr : (Instr.build ty #[(0, s0), (1, s1)]).run P v = .ok u v) : (execOp a.eval oi).run P v = .ok (.value u) v := by
  unfold execOp
  simp [ho, h0, h1, hr]
theorem al_cell {w : World} {o : Obj} {p : Addr} {u : Value} (h : w.cell? p = some u) : (w.alloc o).cell? p = some u := by
  have hlt : p.block < w.heap.size := by
    rcases Nat.lt_or_ge p.block w.heap.size with h1 | h1
    · exact h1
    · unfold World.cell? at h
      rw [Array.getElem?_eq_none h1] at h
      cases h
  exact (World.cell?_of_block (Below.heap_alloc w o p.block hlt)).trans h
theorem slice_g (o : Option Addr) (n c m : Nat) (h1 : m ≤ n) (h2 : n ≤ c) (h3 : c ≤ maxLen) (h4 : o = none → c = 0) : ∃ o' c', ∀ W, (Instr.slice 63 (.slice o n c) none (some (.int .i64 (m : Nat))) none).run Try.prog W = .ok (.slice o' m c') W := by
  unfold maxLen at h3
  cases o with
  | none =>
    obtain rfl := h4 rfl
    obtain rfl : n = 0 := by omega
    obtain rfl : m = 0 := by omega
    exact ⟨none, 0, fun W => by go_simp⟩
  | some a =>
    have i1 : (m : Int) ≤ (n : Int) := by omega
    have i2 : (m : Int) ≤ (c : Int) := by omega
    have i3 : (0 : Int) ≤ (m : Int) := by omega
    exact ⟨some a, c, fun W => by go_simp⟩
theorem slice_d (o : Option Addr) (n c m : Nat) (h1 : m ≤ n) (h2 : n ≤ c) (h3 : c ≤ maxLen) (h4 : o = none → c = 0) : ∃ o' c', ∀ W, (Instr.slice 48 (.slice o n c) none (some (.int .i64 (m : Nat))) none).run Try.prog W = .ok (.slice o' m c') W := by
  unfold maxLen at h3
  cases o with
  | none =>
    obtain rfl := h4 rfl
    obtain rfl : n = 0 := by omega
    obtain rfl : m = 0 := by omega
    exact ⟨none, 0, fun W => by go_simp⟩
  | some a =>
    have i1 : (m : Int) ≤ (n : Int) := by omega
    have i2 : (m : Int) ≤ (c : Int) := by omega
    have i3 : (0 : Int) ≤ (m : Int) := by omega
    exact ⟨some a, c, fun W => by go_simp⟩
theorem len_g (o : Option Addr) (n c : Nat) (W : World) (cs) : (builtin .len #[63] 3 cs #[.slice o n c]).run Try.prog W = .ok (.value (.int .i64 (n : Nat))) W := by go_simp
theorem len_d (o : Option Addr) (n c : Nat) (W : World) (cs) : (builtin .len #[48] 3 cs #[.slice o n c]).run Try.prog W = .ok (.value (.int .i64 (n : Nat))) W := by go_simp
def ccv (ty fl t st ss pr tg rw ou ii : Int) (d : ByteArray) (P C G D : Value) : Array Value := #[.int .i64 ty, .int .i64 fl, .int .u32 t, .int .i64 st, .int .i64 ss, .int .u32 pr, .string d, .int .u32 tg, .int .u32 rw, .int .i64 ou, .int .i64 ii, P, C, G, D]
theorem sz_cc (ty fl t st ss pr tg rw ou ii : Int) (d : ByteArray) (P C G D : Value) : (Try.prog.info? 65).map (·.size) = some (ccv ty fl t st ss pr tg rw ou ii d P C G D).size := by show _ = some 15; kernel_rfl
theorem info11 : (Try.prog.info? 88).map (fun i => (i.zero, i.size, i.bytes)) = some (some (.agg #[.int .i64 0, .string ByteArray.empty]), 2, 24) := by kernel_rfl
theorem info12 : (Try.prog.info? 90).map (fun i => (i.zero, i.size, i.bytes)) = some (some (.agg #[.int .i64 0, .string ByteArray.empty]), 2, 24) := by kernel_rfl
end Go.Proofs.Ythjhiogbnacmdaa.cut
