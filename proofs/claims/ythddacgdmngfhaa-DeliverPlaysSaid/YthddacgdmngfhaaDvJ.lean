/- Layer 18: whatever messages come: the world of the statement, and its arms' code. -/
import Derived.Test.YthddacgdmngfhaaDvI
import Derived.Test.YthddacgdmngfhaaKitF
import Derived.Great.Frames
namespace Go.Proofs.Ythddacgdmngfhaa.del
open Go.Sort (grow)
open Go.ChangeShapes Go.WideShapes Go.ChangeAt Go.RowKit kit
set_option maxRecDepth 100000

/-- The program's streams, and the document's. -/
structure Lw (G g qb : Nat) (sv rv : Value) (b : Nat) (Z : List (Nat × Nat)) (W O : List Mg) (nv wv ov : Value) (N' : List Nat) (W' O' : List Mg) (w : World) : Prop where
  D : Dw G g sv rv b Z W O w
  q : Blk w qb 87 #[nv, wv, ov]
  n : Qo w G 1 nv N'.length (cellsN N')
  v : Qo w G 5 wv W'.length (cellsM W')
  o : Qo w G 5 ov O'.length (cellsM O')
  ap : ∀ i, Foot g sv rv Z i → i ≠ qb ∧ blkOf nv ≠ some i ∧ blkOf wv ≠ some i ∧ blkOf ov ≠ some i
  aq : blkOf nv ≠ some qb ∧ blkOf wv ≠ some qb ∧ blkOf ov ≠ some qb
  hq : G ≤ qb
section
variable {G g qb b : Nat} {sv rv nv wv ov : Value} {Z : List (Nat × Nat)} {W O W' O' : List Mg} {N' : List Nat} {w w' : World}
theorem Lw.below {k : Nat} (h : Lw G g qb sv rv b Z W O nv wv ov N' W' O' w) (hb : Below k w w') (hk : w.heap.size ≤ k) : Lw G g qb sv rv b Z W O nv wv ov N' W' O' w' :=
  ⟨h.D.below hb hk, h.q.below hb (Nat.lt_of_lt_of_le h.q.lt hk), h.n.below hb hk, h.v.below hb hk, h.o.below hb hk, h.ap, h.aq, h.hq⟩
theorem Lw.same (h : Lw G g qb sv rv b Z W O nv wv ov N' W' O' w) (hh : w'.heap = w.heap) : Lw G g qb sv rv b Z W O nv wv ov N' W' O' w' := by
  have e : ∀ k : Nat, w'.heap[k]? = w.heap[k]? := fun k => by rw [hh]
  have hs : w.heap.size ≤ w'.heap.size := by rw [hh]; exact Nat.le_refl _
  exact ⟨h.D.frame hs fun k _ => e k, (e _).trans h.q, h.n.block hs fun k _ => e k, h.v.block hs fun k _ => e k, h.o.block hs fun k _ => e k, h.ap, h.aq, h.hq⟩
/-- The program's streams turned. -/
theorem Lw.stepD {sv' rv' : Value} {b' : Nat} {Z' : List (Nat × Nat)} {W1 O1 : List Mg} (h : Lw G g qb sv rv b Z W O nv wv ov N' W' O' w) (D' : Dw G g sv' rv' b' Z' W1 O1 w') (hs : w.heap.size ≤ w'.heap.size) (hf : ∀ i, i < w.heap.size → ¬ Foot g sv rv Z i → w'.heap[i]? = w.heap[i]?) (hF : ∀ i, Foot g sv' rv' Z' i → Foot g sv rv Z i ∨ w.heap.size ≤ i) : Lw G g qb sv' rv' b' Z' W1 O1 nv wv ov N' W' O' w' := by
  have hql := h.q.lt
  refine ⟨D', (hf qb hql (fun hF' => (h.ap qb hF').1 rfl)).trans h.q, h.n.block hs fun k hk => hf k (h.n.lt hk).2 (fun hF' => (h.ap k hF').2.1 hk), h.v.block hs fun k hk => hf k (h.v.lt hk).2 (fun hF' => (h.ap k hF').2.2.1 hk), h.o.block hs fun k hk => hf k (h.o.lt hk).2 (fun hF' => (h.ap k hF').2.2.2 hk), fun i hi => ?_, h.aq, h.hq⟩
  rcases hF i hi with h' | h'
  · exact h.ap i h'
  · exact ⟨fun e => by omega, fun e => by have := (h.n.lt e).2; omega, fun e => by have := (h.v.lt e).2; omega, fun e => by have := (h.o.lt e).2; omega⟩
/-- The document's streams turned. -/
theorem Lw.stepQ {nv' wv' ov' : Value} {N1 : List Nat} {W1 O1 : List Mg} (h : Lw G g qb sv rv b Z W O nv wv ov N' W' O' w) (hb : Below w.heap.size w w') (n : Qo w' G 1 nv' N1.length (cellsN N1)) (v : Qo w' G 5 wv' W1.length (cellsM W1)) (o : Qo w' G 5 ov' O1.length (cellsM O1))
    (hn : ∀ k, blkOf nv' = some k ∨ blkOf wv' = some k ∨ blkOf ov' = some k → (blkOf nv = some k ∨ blkOf wv = some k ∨ blkOf ov = some k) ∨ w.heap.size ≤ k) : Lw G g qb sv rv b Z W O nv' wv' ov' N1 W1 O1 (w'.setCells qb 0 [nv', wv', ov']) := by
  have h' := h.below hb (Nat.le_refl _)
  have hql := h.q.lt
  have hs : ∀ k : Nat, k ≠ qb → (w'.setCells qb 0 [nv', wv', ov']).heap[k]? = w'.heap[k]? := fun k hk => heap_setCells' hk _ _ _
  have hz : w'.heap.size ≤ (w'.setCells qb 0 [nv', wv', ov']).heap.size := by rw [size_setCells (w := w')]; exact Nat.le_refl _
  have hno : ∀ k, (blkOf nv' = some k ∨ blkOf wv' = some k ∨ blkOf ov' = some k) → (Foot g sv rv Z k ∨ k = qb) → False := fun k hk hF => by
    rcases hn k hk with hk' | hk'
    · rcases hF with hF | rfl
      · obtain ⟨_, a1, a2, a3⟩ := h.ap k hF
        rcases hk' with e | e | e
        · exact a1 e
        · exact a2 e
        · exact a3 e
      · obtain ⟨a1, a2, a3⟩ := h.aq
        rcases hk' with e | e | e
        · exact a1 e
        · exact a2 e
        · exact a3 e
    · rcases hF with hF | rfl
      · have := (h.D.foot hF).2; omega
      · omega
  have K := (Cel.of_blk h'.q).setCells_same [nv', wv', ov'] rfl
  refine ⟨h'.D.frame hz fun k hk => hs k (h.ap k hk).1, ?_, n.block hz fun k hk => hs k (fun e => hno k (.inl hk) (.inr e)), v.block hz fun k hk => hs k (fun e => hno k (.inr (.inl hk)) (.inr e)), o.block hz fun k hk => hs k (fun e => hno k (.inr (.inr hk)) (.inr e)), fun i hi => ⟨(h.ap i hi).1, fun e => hno i (.inl e) (.inl hi), fun e => hno i (.inr (.inl e)) (.inl hi), fun e => hno i (.inr (.inr e)) (.inl hi)⟩, ⟨fun e => hno qb (.inl e) (.inr rfl), fun e => hno qb (.inr (.inl e)) (.inr rfl), fun e => hno qb (.inr (.inr e)) (.inr rfl)⟩, h.hq⟩
  have h0 : Blk w' qb 87 #[nv, wv, ov] := h'.q
  have := ((h0.set_ 0 nv').set_ 1 wv').set_ 2 ov'
  simpa [World.setCells] using this
/-- Another row of the document's that can be read, within the same memory. -/
theorem Lw.setO {ov' : Value} {O1 : List Mg} (h : Lw G g qb sv rv b Z W O nv wv ov N' W' O' w) (q : Qo w G 5 ov' O1.length (cellsM O1)) (hn : ∀ k, blkOf ov' = some k → blkOf ov = some k) : Lw G g qb sv rv b Z W O nv wv ov' N' W' O1 (w.setCell ⟨qb, 2, none⟩ ov') :=
  ⟨h.D.frame (by simp [World.setCell]) fun k hk => Below.heap_setCell w ⟨qb, 2, none⟩ _ k (h.ap k hk).1, h.q.set_ 2 _, h.n.far (p := ⟨qb, 2, none⟩) h.aq.1 _, h.v.far (p := ⟨qb, 2, none⟩) h.aq.2.1 _, q.far (p := ⟨qb, 2, none⟩) (fun e => h.aq.2.2 (hn qb e)) _, fun i hi => ⟨(h.ap i hi).1, (h.ap i hi).2.1, (h.ap i hi).2.2.1, fun e => (h.ap i hi).2.2.2 (hn i e)⟩, ⟨h.aq.1, h.aq.2.1, fun e => h.aq.2.2 (hn qb e)⟩, h.hq⟩
/-- Another row of next places, in new memory. -/
theorem Lw.setNx {nv' : Value} {N1 : List Nat} {k0 : Nat} (h : Lw G g qb sv rv b Z W O nv wv ov N' W' O' w) (q : Qo w k0 1 nv' N1.length (cellsN N1)) (hG : G ≤ k0) (hk : ∀ i, Foot g sv rv Z i → i < k0) (hq0 : qb < k0) : Lw G g qb sv rv b Z W O nv' wv ov N1 W' O' (w.setCell ⟨qb, 0, none⟩ nv') := by
  have hlt : ∀ i, blkOf nv' = some i → k0 ≤ i := fun i hi => (q.lt hi).1
  exact ⟨h.D.frame (by simp [World.setCell]) fun k hk => Below.heap_setCell w ⟨qb, 0, none⟩ _ k (h.ap k hk).1, h.q.set_ 0 _, (q.weaken hG).far (p := ⟨qb, 0, none⟩) (fun e => by have := hlt qb e; omega) _, h.v.far (p := ⟨qb, 0, none⟩) h.aq.2.1 _, h.o.far (p := ⟨qb, 0, none⟩) h.aq.2.2 _, fun i hi => ⟨(h.ap i hi).1, fun e => by have := hlt i e; have := hk i hi; omega, (h.ap i hi).2.2.1, (h.ap i hi).2.2.2⟩, ⟨fun e => by have := hlt qb e; omega, h.aq.2.1, h.aq.2.2⟩, h.hq⟩
end
/-- Nothing that waits is next. -/
def Dr (Z : List (Nat × Nat)) (W : List Mg) : Prop := ∀ (k : Nat) (z : Nat × Nat), Z[k]? = some z → pick k z.1 W = none
/-- What holds behind an arm. -/
def Rn (G g qb i : Nat) (w0 w' : World) : Prop := ∃ (sv rv nv wv ov : Value) (Z : List (Nat × Nat)) (W O : List Mg), Z.length ≤ 16 ∧ W.length + O.length ≤ i ∧ btm W + btm O ≤ 5 * i ∧ Dr Z W ∧ Lw G g qb sv rv (btm W + btm O) Z W O nv wv ov (Z.map (·.1)) W O w' ∧ Below G w0 w'
theorem Dr.set {Z : List (Nat × Nat)} {W : List Mg} (h : Dr Z W) {k : Nat} {z : Nat × Nat} (hz : Z[k]? = some z) (x : Mg) (hx : x.st = (k : Int)) (O : List Mg) (n : Nat) (hn : W.length + 2 = n) :
    Dr (Z.set k ((passes k n (z.1, W ++ [x], O)).1, z.2)) (passes k n (z.1, W ++ [x], O)).2.1 := by
  subst hn
  have hkl := (List.getElem?_eq_some_iff.1 hz).1
  have hall := passes_all (s := k) (z.1, W ++ [x], O)
  have hl : (z.1, W ++ [x], O).2.1.length + 1 = W.length + 2 := by show (W ++ [x]).length + 1 = _; simp
  rw [hl] at hall
  intro j y hy
  by_cases e : k = j
  · subst e
    rw [List.getElem?_set_self hkl] at hy
    cases hy
    exact hall
  · rw [List.getElem?_set_ne e] at hy
    refine pick_none_of fun m hm => ?_
    rw [passes_other (s := k) (t := j) (fun e2 => e e2.symm) (z.1, W ++ [x], O), ofS_append, ofS_cons_out (by rw [hx]; omega), show ofS j [] = [] from rfl, List.append_nil] at hm
    exact pick_ofS_none (h j y hy) m hm
theorem Dr.more {Z : List (Nat × Nat)} {W : List Mg} (h : Dr Z W) (hw : ∀ x ∈ W, x.st < (Z.length : Int)) (Y : List (Nat × Nat)) : Dr (Z ++ Y) W := by
  intro k z hz
  by_cases e : k < Z.length
  · rw [List.getElem?_append_left e] at hz
    exact h k z hz
  · rw [pick_none]
    intro x hx
    unfold hit
    have := hw x hx
    simp
    intro e2
    omega
/-- An act: what, a message. -/
structure Ad where
  a : Int
  st : Int
  ss : Int
  lo : Bool
  pr : Int
  d : ByteArray
def adc (x : Ad) : Array Value := #[.int .i64 x.a, .int .i64 x.st, .int .i64 x.ss, .bool x.lo, .int .u32 x.pr, .string x.d]
theorem szA (x : Ad) : (Try.prog.info? 89).map (·.size) = some (adc x).size := by show _ = some 6; kernel_rfl
theorem neqM (x : Mg) (W : World) : (binOp .neq 30 (.agg (mgc x)) (.agg (mgc x))).run Try.prog W = .ok (.bool false) W := by
  unfold mgc
  go_simp
def notSkip : Code → Bool
  | .skip => false
  | _ => true
/-- The first 'if' on a slot that does something. -/
def findCond (k : Nat) : Code → Option (Code × Code)
  | .loop c => findCond k c
  | .seq a b => match findCond k a with
    | some c => some c
    | none => findCond k b
  | .block _ c => findCond k c
  | .scope c => findCond k c
  | .cond (.tmp t) a b => if t = k ∧ notSkip a = true then some (a, b) else match findCond k a with
    | some c => some c
    | none => findCond k b
  | _ => none
noncomputable def codeR : Code := ((Try.f8.body.bind (findCond 77)).map (·.1)).getD .skip
noncomputable def codeG : Code := ((Try.f8.body.bind (findCond 106)).map (·.1)).getD .skip
noncomputable def codeP : Code := ((Try.f8.body.bind (findCond 106)).map (·.2)).getD .skip
end Go.Proofs.Ythddacgdmngfhaa.del
