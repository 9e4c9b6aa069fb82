/- Layer 16: between the two Adds, and behind them. -/
import Derived.Test.YthddacgdmngfhaaGqG
import Derived.Test.YthddacgdmngfhaaKitY
namespace Go.Proofs.Ythddacgdmngfhaa.gap
open Go.Sort (grow)
open Go.ChangeShapes Go.WideShapes Go.ChangeAt Go.RowKit kit gapm
set_option maxRecDepth 100000
/-- Between the two Adds: the document's answer lies at a place of its own. -/
structure Rm (G bk C : Nat) (s : St) (F : List Nat) (D : List Int) (d : Nat) (t : Int) (rv : Value) (b1 : Nat) (c' : Nat) (F' : List Nat) (D' : List Int) (fv' rv' : Value) (w : World) : Prop where
  Z : Cel w bk 0 #[.int .u32 (ab C c'), fv', rv']
  f : w.ownsRow G 3 1 fv' F'.length (cellsF F')
  r : w.ownsRow G 28 1 rv' D'.length (cellsU D')
  n : lookF F d ≠ 1 → c' = s.c ∧ F' = F
  o : lookF F d = 1 → 0 ∉ F' ∧ 1 ∉ F' ∧ (∀ y, hasF c' F' y ↔ hasF s.c (F ++ [d]) y) ∧ F'.length ≤ F.length + 1 ∧ ∀ z ∈ F', z ≤ 1000
  l : ∀ k, rv'.ownBlock = some k → rv.ownBlock = some k ∨ b1 ≤ k
  b : b1 ≤ bk
  e : (if lookF F d = 2 ∧ D.length < 16 then D ++ [t] else D) = D'
theorem setCells_other (g k : Nat) : ∀ (vs : List Value) (o : Nat) (w : World), k ≠ g → (w.setCells g o vs).heap[k]? = w.heap[k]?
  | [], _, _, _ => rfl
  | v :: r, o, w, h => (setCells_other g k r (o + 1) _ h).trans (Below.heap_setCell w ⟨g, o, none⟩ v k h)
theorem one3 (x : Int) (o1 : Option Addr) (n1 c1 : Nat) (o2 : Option Addr) (n2 c2 : Nat) : (#[Value.int .u32 x, .slice o1 n1 c1, .slice o2 n2 c2] : Array Value).all (·.oneCell') = true := by kernel_rfl
theorem own_typ {w : World} {b0 size n g : Nat} {t t' : TypeId} {v : Value} {xs : List Value} {cs : Array Value} (own : w.ownsRow b0 t size v n xs) (B : Blk w g t' cs) (h : t ≠ t') : v.ownBlock ≠ some g := by
  intro e
  rcases own.2 with ⟨rfl, _⟩ | ⟨k, cap, cur, rfl, _, hk, _⟩
  · cases e
  · obtain rfl : k = g := by simpa [Value.ownBlock] using e
    have B' : w.heap[k]? = some (.cells cs t' (0, 0)) := B
    rw [hk] at B'
    simp only [Option.some.injEq, Obj.cells.injEq] at B'
    exact h B'.2.1
theorem own_typ2 {w : World} {b0 b1 size1 size2 n1 n2 : Nat} {t t' : TypeId} {v u : Value} {xs ys : List Value} (own : w.ownsRow b0 t size1 v n1 xs) (own' : w.ownsRow b1 t' size2 u n2 ys) (h : t ≠ t') : ∀ k, u.ownBlock = some k → v.ownBlock ≠ some k := by
  intro k hk
  rcases own'.2 with ⟨rfl, _⟩ | ⟨j, cap, cur, rfl, _, hj, _⟩
  · cases hk
  · obtain rfl : j = k := by simpa [Value.ownBlock] using hk
    exact own_typ own (show Blk w j t' cur from hj) h
/-- The document's cells written over: the program's rest stands. -/
theorem Re.mid {G g qx C m bk d b1 c' : Nat} {s : St} {F F' : List Nat} {D D' : List Int} {t : Int} {pv dv fv rv fv' rv' : Value} {w : World} (R : Re G g qx C m s F D pv dv fv rv w) (M : Rm G bk C s F D d t rv b1 c' F' D' fv' rv' w) :
    Gt G g C s D pv dv (((w.setCell ⟨qx, 0, none⟩ (.int .u32 (ab C c'))).setCell ⟨qx, 1, none⟩ fv').setCell ⟨qx, 2, none⟩ rv') ∧ Blk (((w.setCell ⟨qx, 0, none⟩ (.int .u32 (ab C c'))).setCell ⟨qx, 1, none⟩ fv').setCell ⟨qx, 2, none⟩ rv') qx 72 #[.int .u32 (ab C c'), fv', rv']
      ∧ (((w.setCell ⟨qx, 0, none⟩ (.int .u32 (ab C c'))).setCell ⟨qx, 1, none⟩ fv').setCell ⟨qx, 2, none⟩ rv').ownsRow G 3 1 fv' F'.length (cellsF F') ∧ (((w.setCell ⟨qx, 0, none⟩ (.int .u32 (ab C c'))).setCell ⟨qx, 1, none⟩ fv').setCell ⟨qx, 2, none⟩ rv').ownsRow G 28 1 rv' D'.length (cellsU D') := by
  have keep : ∀ k, k ≠ qx → (((w.setCell ⟨qx, 0, none⟩ (.int .u32 (ab C c'))).setCell ⟨qx, 1, none⟩ fv').setCell ⟨qx, 2, none⟩ rv').heap[k]? = w.heap[k]? := fun k hk => (Below.heap_setCell _ ⟨qx, 2, none⟩ _ k hk).trans ((Below.heap_setCell _ ⟨qx, 1, none⟩ _ k hk).trans (Below.heap_setCell _ ⟨qx, 0, none⟩ _ k hk))
  refine ⟨R.t.frame (fun k hk => keep k ?_), ((R.B.set_ 0 _).set_ 1 _).set_ 2 _, own_other M.f (fun k hk => keep k (fun e => own_typ M.f R.B (by decide) (e ▸ hk))), own_other M.r (fun k hk => keep k (fun e => own_typ M.r R.B (by decide) (e ▸ hk)))⟩
  rcases hk with rfl | hk | hk
  · exact R.nq.1
  · exact fun e => R.nq.2.1 (e ▸ hk)
  · exact fun e => R.nq.2.2.1 (e ▸ hk)
/-- Both have added: they hold the same still. -/
theorem Re.turn {G g qx C m bk d b1 c' : Nat} {s : St} {F F' : List Nat} {D D' : List Int} {pv dv fv rv fv' rv' pv' dv' : Value} {w w5 w6 : World} (R : Re G g qx C m s F D pv dv fv rv w) (M : Rm G bk C s F D d (ab C (s.c + d)) rv b1 c' F' D' fv' rv' w) (hb1 : ∀ k, dv.ownBlock = some k → k < b1)
    (G5 : Gt G g C s D pv dv w5) (B5 : Blk w5 qx 72 #[.int .u32 (ab C c'), fv', rv']) (f5 : w5.ownsRow G 3 1 fv' F'.length (cellsF F')) (r5 : w5.ownsRow G 28 1 rv' D'.length (cellsU D'))
    (G6 : Gt G g C (addS s d) (addD s D d (ab C (s.c + d))) pv' dv' w6) (U : Up g pv dv w5 pv' dv' w6) : Re G g qx C (m + 1) (addS s d) F' D' pv' dv' fv' rv' w6 ∧ c' = (addS s d).c := by
  obtain ⟨h1, h2, h3, h4, h5, h6, h7⟩ := turn_pure R.ok R.fits R.bd M.n M.o
  have hD : addD s D d (ab C (s.c + d)) = D' := by rw [← turn_D R.fits]; exact M.e
  rw [hD] at G6
  have hrd : ∀ k, rv'.ownBlock = some k → dv.ownBlock ≠ some k := fun k hk e => by
    rcases M.l k hk with q | q
    · exact (R.nf k (.inr (.inr e))).2 q
    · have := hb1 k e; omega
  have B6 : Blk w6 qx 72 #[.int .u32 (ab C c'), fv', rv'] := (U.keep qx B5.lt (Ne.symm R.nq.1) R.nq.2.1 R.nq.2.2.1).trans B5
  have f6 : w6.ownsRow G 3 1 fv' F'.length (cellsF F') := own_other f5 (fun k hk => U.keep k (own_lt' f5 hk) (fun e => own_typ f5 G5.B (by decide) (e ▸ hk)) (own_typ2 G5.p f5 (by decide) k hk) (own_typ2 G5.d f5 (by decide) k hk))
  have r6 : w6.ownsRow G 28 1 rv' D'.length (cellsU D') := own_other r5 (fun k hk => U.keep k (own_lt' r5 hk) (fun e => own_typ r5 G5.B (by decide) (e ▸ hk)) (own_typ2 G5.p r5 (by decide) k hk) (hrd k hk))
  have hl : D'.length ≤ 16 := by rw [← hD]; exact addD_len _ _ _ _ R.ld
  refine ⟨⟨G6, by rw [← h2]; exact B6, f6, r6, h1, h3, h4, by have := R.lf; omega, by have := R.lp; omega, hl, by have := R.lc; omega, R.hq, ⟨R.nq.1, own_typ G6.p B6 (by decide), own_typ G6.d B6 (by decide), own_typ f6 B6 (by decide), own_typ r6 B6 (by decide)⟩, fun k hk => ?_⟩, h2⟩
  rcases hk with rfl | hk | hk
  · exact ⟨own_typ f6 G6.B (by decide), own_typ r6 G6.B (by decide)⟩
  · exact ⟨own_typ2 f6 G6.p (by decide) k hk, own_typ2 r6 G6.p (by decide) k hk⟩
  · refine ⟨own_typ2 f6 G6.d (by decide) k hk, fun e => ?_⟩
    rcases U.nd k hk with q | q
    · exact hrd k e q
    · have := own_lt' r5 e; omega
end Go.Proofs.Ythddacgdmngfhaa.gap
