/- Layer 42: ways as keys; packets under way as cells. -/
import Derived.Test.YtdocphkpeonldaaStoB
import Derived.Test.YtdocphkpeonldaaKitO
import Derived.Test.YtdocphkpeonldaaKitD
import Derived.Deep.AppendLies
namespace Go.Proofs.Ytdocphkpeonldaa.storm
open Go.Sort (grow)
open Go.ChangeShapes Go.WideShapes Go.ChangeAt Go.RowKit kit
open Go.WideMaps (KeyLaw)
set_option maxRecDepth 100000

theorem laidOut : laidOutB Try.prog = true := by kernel_rfl
theorem keyLaw : KeyLaw Try.prog 162 := deep_law_laid laidOut (m := 3) (by decide) (of_decide_eq_true (by kernel_rfl)) (by kernel_rfl) (by kernel_rfl)
/-- A way's value. -/
def wy (l a b : Int) : Value := .agg #[.int .i64 l, .int .u32 a, .int .u32 b]
theorem wy_inj {c d b c' d' b' : Int} (h : wy c d b = wy c' d' b') : c = c' ∧ d = d' ∧ b = b' := by
  simpa [wy] using h
theorem wy_key {c d b : Int} (wc : (Lit.int .i64 c).wf = true) (wd : (Lit.int .u32 d).wf = true) (wb : (Lit.int .u32 b).wf = true) : ∃ l, keyOf Try.prog 162 (wy c d b) = some l := by
  have s0 : Try.prog.cellsOf 162 = 3 := by kernel_rfl
  have s1 : Try.prog.cellsOf 66 = 1 := by kernel_rfl
  have s2 : Try.prog.cellsOf 3 = 1 := by kernel_rfl
  have hk : ∀ n, Try.prog.keyLits (n + 2) 162 [.int .i64 c, .int .u32 d, .int .u32 b] = some [.int .i64 c, .int .u32 d, .int .u32 b] := fun n => by
    simp [Program.keyLits, Try.underlying162, Try.underlying66, Try.underlying3, s0, s1, s2, wc, wd, wb]
  have ht : 0 < Try.prog.types.size := of_decide_eq_true (by kernel_rfl)
  obtain ⟨n, hn⟩ : ∃ n, Try.prog.types.size + 1 = n + 2 := ⟨Try.prog.types.size - 1, by omega⟩
  have hf : (Try.prog.keyType 162 && (wy c d b).formed Try.prog 162) = true := by kernel_rfl
  unfold keyOf
  rw [Try.underlying162]
  simp only [hf, hn, if_true]
  rw [show (wy c d b).cells.toList = [.int .i64 c, .int .u32 d, .int .u32 b] from rfl, hk n]
  exact ⟨_, rfl⟩
theorem uM : Try.prog.underlying 158 = some (.map 162 3) := by kernel_rfl
theorem zI (w : World) : (zeroValue 3).run Try.prog w = .ok (.int .i64 0) w := by kernel_rfl
/-- A packet under way: a leg, one between, from, to, bytes, bent. -/
structure It where
  leg : Int
  nat : Int
  fr : Int
  to : Int
  s : ByteArray
  bent : Bool
def ir (x : It) : Array Value := #[.int .i64 x.leg, .int .i64 x.nat, .int .u32 x.fr, .int .u32 x.to, .string x.s, .bool x.bent]
def iw (x : It) : Value := wy x.leg x.fr x.to
def it0 : It := ⟨0, 0, 0, 0, ByteArray.empty, false⟩
structure WfI (x : It) : Prop where
  l : (Lit.int .i64 x.leg).wf = true
  f : (Lit.int .u32 x.fr).wf = true
  t : (Lit.int .u32 x.to).wf = true
theorem iw_key {x : It} (h : WfI x) : ∃ l, keyOf Try.prog 162 (iw x) = some l := wy_key h.l h.f h.t
theorem szI (x : It) : (Try.prog.info? 70).map (·.size) = some (ir x).size := by show _ = some 6; kernel_rfl
/-- The cells of packets. -/
def cellsI : List It → List Value
  | [] => []
  | e :: r => (ir e).toList ++ cellsI r
theorem cellsI_snoc (L : List It) (e : It) : cellsI (L ++ [e]) = cellsI L ++ (ir e).toList := by
  induction L with
  | nil => simp [cellsI]
  | cons q r ih => simp [cellsI, ih]
theorem ir_len (e : It) : (ir e).toList.length = 6 := rfl
theorem cellsI_at : ∀ (L : List It) (k j : Nat) (u : Value), k < L.length → (ir (L.getD k it0))[j]? = some u → (cellsI L)[k * 6 + j]? = some u
  | [], _, _, _, h, _ => absurd h (Nat.not_lt_zero _)
  | e :: r, 0, j, u, _, hu => by
    have hj : j < 6 := by have := (Array.getElem?_eq_some_iff.1 hu).1; exact this
    show ((ir e).toList ++ cellsI r)[0 * 6 + j]? = some u
    rw [List.getElem?_append_left (by rw [ir_len]; omega)]
    simpa using hu
  | e :: r, k + 1, j, u, h, hu => by
    show ((ir e).toList ++ cellsI r)[(k + 1) * 6 + j]? = some u
    rw [List.getElem?_append_right (by rw [ir_len]; omega), ir_len, show (k + 1) * 6 + j - 6 = k * 6 + j by omega]
    exact cellsI_at r k j u (by simpa using h) (by simpa using hu)
theorem cel_of_cells {w : World} {h : Nat} {L : List It} (C : Cel w h 0 (cellsI L).toArray) (k : Nat) (hk : k < L.length) : Cel w h (k * 6) (ir (L.getD k it0)) :=
  ⟨C.1, fun j u hu => by
    have := C.2 (k * 6 + j) u (by simpa using cellsI_at L k j u hk hu)
    rwa [Nat.zero_add] at this⟩
/-- Packets lie in memory. -/
structure Net (w : World) (h : Nat) (L : List It) : Prop where
  lt : h < w.heap.size
  cel : ∀ k, k < L.length → Cel w h (k * 6) (ir (L.getD k it0))
theorem Net.block {w w' : World} {h : Nat} {L : List It} (n : Net w h L) (e : w'.heap[h]? = w.heap[h]?) (hs : w.heap.size ≤ w'.heap.size) : Net w' h L :=
  ⟨Nat.lt_of_lt_of_le n.lt hs, fun k hk => (n.cel k hk).block e (Nat.lt_of_lt_of_le n.lt hs)⟩
/-- A storm: its weather, and what it counts. -/
def sr (x l d b m : Int) (mp : Nat) : Array Value := #[.int .u64 x, .int .i64 l, .int .i64 d, .int .i64 b, .int .i64 m, .map (some mp)]
/-- Two blocks alone turn. -/
structure Two (g m : Nat) (w w' : World) : Prop where
  size : w.heap.size ≤ w'.heap.size
  block : ∀ k, k < w.heap.size → k ≠ g → k ≠ m → w'.heap[k]? = w.heap[k]?
theorem Two.refl (g m : Nat) (w : World) : Two g m w w := ⟨Nat.le_refl _, fun _ _ _ _ => rfl⟩
theorem Two.trans {g m : Nat} {a b c : World} (h : Two g m a b) (k : Two g m b c) : Two g m a c := ⟨Nat.le_trans h.size k.size, fun i hi hg hm => (k.block i (Nat.lt_of_lt_of_le hi h.size) hg hm).trans (h.block i hi hg hm)⟩
theorem Two.below {g m B : Nat} {a b c : World} (h : Two g m a b) (hb : Below B b c) (hB : a.heap.size ≤ B) : Two g m a c := ⟨Nat.le_trans h.size hb.size, fun i hi hg hm => (hb.block i (by omega)).trans (h.block i hi hg hm)⟩
theorem Two.alloc {g m : Nat} {a b : World} (h : Two g m a b) (o : Obj) : Two g m a (b.alloc o) := h.below ((Below.refl b.heap.size b).alloc (Nat.le_refl _) o) h.size
theorem Two.drew {g m : Nat} {a b : World} (h : Two g m a b) : Two g m a b.drew := ⟨h.size, h.block⟩
theorem Two.setG {g m : Nat} {a b : World} (h : Two g m a b) (o : Nat) (v : Value) : Two g m a (b.setCell ⟨g, o, none⟩ v) := ⟨by simpa [World.setCell] using h.size, fun i hi hg hm => (Below.heap_setCell b ⟨g, o, none⟩ v i hg).trans (h.block i hi hg hm)⟩
theorem Two.setM {g m : Nat} {a b : World} (h : Two g m a b) {es : Array MapEntry} {c : Nat} (M : MapB b m es c) (es' : Array MapEntry) (c' : Nat) : Two g m a (Go.ChangeMaps.setBlock b m (.map es' c')) := ⟨by rw [MapB.size]; exact h.size, fun i hi hg hm => (M.other es' c' hm).trans (h.block i hi hg hm)⟩
theorem Two.blk {g m k : Nat} {w w' : World} {t : TypeId} {cs : Array Value} (h : Two g m w w') (B : Blk w k t cs) (hg : k ≠ g) (hm : k ≠ m) : Blk w' k t cs := (h.block k B.lt hg hm).trans B
theorem Two.net {g m k : Nat} {w w' : World} {L : List It} (h : Two g m w w') (n : Net w k L) (hg : k ≠ g) (hm : k ≠ m) : Net w' k L := n.block (h.block k n.lt hg hm) h.size
end Go.Proofs.Ytdocphkpeonldaa.storm
