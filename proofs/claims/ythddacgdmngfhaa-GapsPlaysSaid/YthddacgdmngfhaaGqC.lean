/- Layer 16: the document's own words: a number that comes: where what they hold lies; what came twice. -/
import Derived.Test.YthddacgdmngfhaaGqM
import Derived.Test.YthddacgdmngfhaaKitX
namespace Go.Proofs.Ythddacgdmngfhaa.gap
open Go.Sort (grow)
open Go.ChangeShapes Go.WideShapes Go.ChangeAt Go.RowKit kit gapm
set_option maxRecDepth 100000
theorem infoInt : (Try.prog.info? 3).map (fun i => (i.zero, i.size, i.bytes)) = some (some (.int .i64 0), 1, 8) := by kernel_rfl
theorem cellsU_one (D : List Int) : ∀ u ∈ cellsU D, u.oneCell' = true := by
  intro u hu
  obtain ⟨y, _, rfl⟩ := List.mem_map.1 hu
  rfl
/-- The document's own words in a call: the copy, and the answer's cells. -/
structure Rg (b0 bx C c : Nat) (F : List Nat) (D : List Int) (fv dv : Value) (w : World) : Prop where
  B : Blk w bx 72 #[.int .u32 (ab C c), fv, dv]
  Z : Blk w (bx + 1) 72 #[.int .u32 0, .slice none 0 0, .slice none 0 0]
  f : w.ownsRow b0 3 1 fv F.length (cellsF F)
  d : w.ownsRow b0 28 1 dv D.length (cellsU D)
  nf : ∀ k, fv.ownBlock = some k → k < bx ∨ bx + 1 < k
  nd : ∀ k, dv.ownBlock = some k → k < bx ∨ bx + 1 < k
  hb : b0 ≤ bx
theorem Rg.below {b0 bx C c k : Nat} {F : List Nat} {D : List Int} {fv dv : Value} {w w' : World} (h : Rg b0 bx C c F D fv dv w) (hb : Below k w w') (hk : w.heap.size ≤ k) : Rg b0 bx C c F D fv dv w' :=
  ⟨h.B.below hb (Nat.lt_of_lt_of_le h.B.lt hk), h.Z.below hb (Nat.lt_of_lt_of_le h.Z.lt hk), own_below h.f hb (fun j hj => Nat.lt_of_lt_of_le (own_lt' h.f hj) hk), own_below h.d hb (fun j hj => Nat.lt_of_lt_of_le (own_lt' h.d hj) hk), h.nf, h.nd, h.hb⟩
theorem Rg.setD {b0 bx C c : Nat} {F : List Nat} {D D' : List Int} {fv dv dv' : Value} {w : World} (h : Rg b0 bx C c F D fv dv w) (own : w.ownsRow b0 28 1 dv' D'.length (cellsU D')) (hn : ∀ k, dv'.ownBlock = some k → k < bx ∨ bx + 1 < k) : Rg b0 bx C c F D' fv dv' (w.setCell ⟨bx, 2, none⟩ dv') := by
  have keep : ∀ k, k ≠ bx → (w.setCell ⟨bx, 2, none⟩ dv').heap[k]? = w.heap[k]? := fun k hk => Below.heap_setCell w ⟨bx, 2, none⟩ _ k hk
  exact ⟨h.B.set_ 2 _, (keep _ (by omega)).trans h.Z, own_other h.f (fun k hk => keep k (by have := h.nf k hk; omega)), own_other own (fun k hk => keep k (by have := hn k hk; omega)), h.nf, hn, h.hb⟩
theorem Rg.setF {b0 bx C c : Nat} {F F' : List Nat} {D : List Int} {fv dv fv' : Value} {w : World} (h : Rg b0 bx C c F D fv dv w) (own : w.ownsRow b0 3 1 fv' F'.length (cellsF F')) (hn : ∀ k, fv'.ownBlock = some k → k < bx ∨ bx + 1 < k) : Rg b0 bx C c F' D fv' dv (w.setCell ⟨bx, 1, none⟩ fv') := by
  have keep : ∀ k, k ≠ bx → (w.setCell ⟨bx, 1, none⟩ fv').heap[k]? = w.heap[k]? := fun k hk => Below.heap_setCell w ⟨bx, 1, none⟩ _ k hk
  exact ⟨h.B.set_ 1 _, (keep _ (by omega)).trans h.Z, own_other own (fun k hk => keep k (by have := hn k hk; omega)), own_other h.d (fun k hk => keep k (by have := h.nd k hk; omega)), hn, h.nd, h.hb⟩
theorem Rg.setC {b0 bx C c c' : Nat} {F : List Nat} {D : List Int} {fv dv : Value} {w : World} (h : Rg b0 bx C c F D fv dv w) : Rg b0 bx C c' F D fv dv (w.setCell ⟨bx, 0, none⟩ (.int .u32 (ab C c'))) := by
  have keep : ∀ k, k ≠ bx → (w.setCell ⟨bx, 0, none⟩ (.int .u32 (ab C c'))).heap[k]? = w.heap[k]? := fun k hk => Below.heap_setCell w ⟨bx, 0, none⟩ _ k hk
  exact ⟨h.B.set_ 0 _, (keep _ (by omega)).trans h.Z, own_other h.f (fun k hk => keep k (by have := h.nf k hk; omega)), own_other h.d (fun k hk => keep k (by have := h.nd k hk; omega)), h.nf, h.nd, h.hb⟩
/-- Both are made at the call's beginning. -/
theorem Rg.new {b0 C c : Nat} {F : List Nat} {D : List Int} {fv dv : Value} {w : World} (f : w.ownsRow b0 3 1 fv F.length (cellsF F)) (d : w.ownsRow b0 28 1 dv D.length (cellsU D)) (hb : b0 ≤ w.heap.size) :
    Rg b0 w.heap.size C c F D fv dv ((w.alloc (.cells #[.int .u32 (ab C c), fv, dv] 72)).alloc (.cells #[.int .u32 0, .slice none 0 0, .slice none 0 0] 72)) := by
  have al := ((Below.refl w.heap.size w).alloc (Nat.le_refl _) (.cells #[.int .u32 (ab C c), fv, dv] 72)).alloc (by simp) (.cells #[.int .u32 0, .slice none 0 0, .slice none 0 0] 72)
  refine ⟨(Blk.new w _ _).alloc _, ?_, own_all f al, own_all d al, fun k hk => .inl (own_lt' f hk), fun k hk => .inl (own_lt' d hk), hb⟩
  have := Blk.new (w.alloc (.cells #[.int .u32 (ab C c), fv, dv] 72)) 72 #[.int .u32 0, .slice none 0 0, .slice none 0 0]
  simpa using this
/-- What the call tells of its cells at its end. -/
theorem Rg.told {b0 bx C c : Nat} {F : List Nat} {D : List Int} {fv dv : Value} {w : World} (h : Rg b0 bx C c F D fv dv w) : Cel (w.setCells (bx + 1) 0 [.int .u32 (ab C c), fv, dv]) (bx + 1) 0 #[.int .u32 (ab C c), fv, dv] ∧ (w.setCells (bx + 1) 0 [.int .u32 (ab C c), fv, dv]).ownsRow b0 3 1 fv F.length (cellsF F) ∧ (w.setCells (bx + 1) 0 [.int .u32 (ab C c), fv, dv]).ownsRow b0 28 1 dv D.length (cellsU D) ∧ Below bx w (w.setCells (bx + 1) 0 [.int .u32 (ab C c), fv, dv]) := by
  have hb := below_setCells (Below.refl (bx + 1) w) (Nat.le_refl _) 0 [.int .u32 (ab C c), fv, dv]
  have keep : ∀ k, k ≠ bx + 1 → (w.setCells (bx + 1) 0 [.int .u32 (ab C c), fv, dv]).heap[k]? = w.heap[k]? := fun k hk => by
    have : ∀ (vs : List Value) (o : Nat) (w : World), (w.setCells (bx + 1) o vs).heap[k]? = w.heap[k]? := by
      intro vs
      induction vs with
      | nil => intro _ _; rfl
      | cons v r ih => intro o w; exact (ih (o + 1) _).trans (Below.heap_setCell w ⟨bx + 1, o, none⟩ v k hk)
    exact this _ _ _
  exact ⟨(Cel.of_blk h.Z).setCells_same [.int .u32 (ab C c), fv, dv] rfl, own_other h.f (fun k hk => keep k (by have := h.nf k hk; omega)), own_other h.d (fun k hk => keep k (by have := h.nd k hk; omega)), hb.mono (Nat.le_succ _)⟩
/-- The three cells one by one. -/
theorem Rg.told3 {b0 bx C c : Nat} {F : List Nat} {D : List Int} {fv dv : Value} {w : World} (h : Rg b0 bx C c F D fv dv w) : Cel (((w.setCell ⟨bx + 1, 0, none⟩ (.int .u32 (ab C c))).setCell ⟨bx + 1, 1, none⟩ fv).setCell ⟨bx + 1, 2, none⟩ dv) (bx + 1) 0 #[.int .u32 (ab C c), fv, dv] ∧ (((w.setCell ⟨bx + 1, 0, none⟩ (.int .u32 (ab C c))).setCell ⟨bx + 1, 1, none⟩ fv).setCell ⟨bx + 1, 2, none⟩ dv).ownsRow b0 3 1 fv F.length (cellsF F) ∧ (((w.setCell ⟨bx + 1, 0, none⟩ (.int .u32 (ab C c))).setCell ⟨bx + 1, 1, none⟩ fv).setCell ⟨bx + 1, 2, none⟩ dv).ownsRow b0 28 1 dv D.length (cellsU D) ∧ Below bx w (((w.setCell ⟨bx + 1, 0, none⟩ (.int .u32 (ab C c))).setCell ⟨bx + 1, 1, none⟩ fv).setCell ⟨bx + 1, 2, none⟩ dv) := h.told
end Go.Proofs.Ythddacgdmngfhaa.gap
