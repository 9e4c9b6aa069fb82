/- Layer 32: a topology that is not too great, made out of whatever one (gen-tof.py wrote this). -/
import Derived.Test.YthjhiogbnacmdaaToE
import Derived.Test.YthjhiogbnacmdaaCutC
namespace Go.Proofs.Ythjhiogbnacmdaa.top
open Go.Sort (grow)
open Go.ChangeShapes Go.WideShapes Go.ChangeAt Go.RowKit kit
set_option maxRecDepth 100000

/-- A row of addresses and numbers, as an argument has it. -/
structure PlR (w : World) (B : Nat) (oa : Option Addr) (a : Addr) (n c : Nat) (E : Nat → Int × Int) : Prop where
  hc : n ≤ c
  hm : c ≤ maxLen
  ho : 0 < n → oa = some a
  hb : 0 < n → a.block < B
  cell : ∀ i, i < n → ∀ (j : Nat) u, (pl (E i))[j]? = some u → w.cell? ((a.add (i * 2)).add j) = some u
theorem PlR.below {w w' : World} {B : Nat} {oa : Option Addr} {a : Addr} {n c : Nat} {E : Nat → Int × Int} (h : PlR w B oa a n c E) (hb : Below B w w') : PlR w' B oa a n c E :=
  ⟨h.hc, h.hm, h.ho, h.hb, fun i hi j u hu => (hb.cell (p := (a.add (i * 2)).add j) (by rw [addr_add_block, addr_add_block]; exact h.hb (by omega))).trans (h.cell i hi j u hu)⟩
/-- A host as an argument has it. -/
structure HoA where
  oP : Option Addr
  aP : Addr
  nP : Nat
  cP : Nat
  EP : Nat → Int × Int
  key : ByteArray
  dr : Value
def hoa (x : HoA) : Array Value := #[.slice x.oP x.nP x.cP, .string x.key, x.dr]
/-- A row of hosts, as an argument has it. -/
structure HoR (w : World) (B : Nat) (oa : Option Addr) (a : Addr) (n c : Nat) (E : Nat → HoA) : Prop where
  hc : n ≤ c
  hm : c ≤ maxLen
  ho : 0 < n → oa = some a
  hb : 0 < n → a.block < B
  cell : ∀ i, i < n → ∀ (j : Nat) u, (hoa (E i))[j]? = some u → w.cell? ((a.add (i * 3)).add j) = some u
  ok : ∀ i, i < n → PlR w B (E i).oP (E i).aP (E i).nP (E i).cP (E i).EP
theorem HoR.below {w w' : World} {B : Nat} {oa : Option Addr} {a : Addr} {n c : Nat} {E : Nat → HoA} (h : HoR w B oa a n c E) (hb : Below B w w') : HoR w' B oa a n c E :=
  ⟨h.hc, h.hm, h.ho, h.hb, fun i hi j u hu => (hb.cell (p := (a.add (i * 3)).add j) (by rw [addr_add_block, addr_add_block]; exact h.hb (by omega))).trans (h.cell i hi j u hu), fun i hi => (h.ok i hi).below hb⟩
/-- Of few addresses. -/
def lowP (x : Int × Int) : Int × Int := (bits .and .u32 x.1 31, x.2)
def tk (E : Nat → Int × Int) : Nat → List (Int × Int)
  | 0 => []
  | n + 1 => tk E n ++ [lowP (E n)]
theorem tk_len (E : Nat → Int × Int) : ∀ n, (tk E n).length = n
  | 0 => rfl
  | n + 1 => by rw [tk, List.length_append, tk_len E n]; rfl
theorem cells_tk (E : Nat → Int × Int) (n : Nat) : cellsPl (tk E (n + 1)) = cellsPl (tk E n) ++ (pl (lowP (E n))).toList := by
  rw [tk, cellsPl_append]
  show _ ++ ((pl (lowP (E n))).toList ++ []) = _
  rw [List.append_nil]
theorem infoPl : (Try.prog.info? 52).map (fun i => (i.zero, i.size, i.bytes)) = some (some (.agg #[.int .u32 0, .int .i64 0]), 2, 16) := by kernel_rfl
theorem infoHo : (Try.prog.info? 50).map (fun i => (i.zero, i.size, i.bytes)) = some (some (.agg #[.slice none 0 0, .string ByteArray.empty, .slice none 0 0]), 3, 64) := by kernel_rfl
/-- What holds behind so many hosts. -/
structure Hc (G b1 cb rb ob : Nat) (E : Nat → HoA) (oH : Option Addr) (nH cH : Nat) (vN : Value) (i : Nat) (vH : Value) (pv : Nat → Value) (w wr : World) : Prop where
  H : Qo wr b1 3 vH i (hoc pv i)
  P : ∀ j, j < i → Qo wr b1 2 (pv j) (min (E j).nP 6) (cellsPl (tk (E j).EP (min (E j).nP 6)))
  D : ∀ j, j < i → ∀ k, blkOf (pv j) = some k → blkOf vH ≠ some k
  O : Blk wr ob 42 #[vH, .slice none 0 0]
  X : Blk wr cb 42 #[.slice oH nH cH, vN]
  R : Blk wr rb 42 #[.slice none 0 0, .slice none 0 0]
  bel : Below G w wr
theorem Hc.below {G b1 cb rb ob : Nat} {E : Nat → HoA} {oH : Option Addr} {nH cH : Nat} {vN : Value} {i : Nat} {vH : Value} {pv : Nat → Value} {w wr w' : World} (h : Hc G b1 cb rb ob E oH nH cH vN i vH pv w wr) {k : Nat} (hb : Below k wr w') (hk : wr.heap.size ≤ k) (hG : G ≤ wr.heap.size) : Hc G b1 cb rb ob E oH nH cH vN i vH pv w w' :=
  ⟨h.H.below hb hk, fun j hj => (h.P j hj).below hb hk, h.D, h.O.below hb (by have := h.O.lt; omega), h.X.below hb (by have := h.X.lt; omega), h.R.below hb (by have := h.R.lt; omega), h.bel.trans (hb.mono (Nat.le_trans hG hk))⟩
end Go.Proofs.Ythjhiogbnacmdaa.top
