/- General words, over any program: arguments of flat structs and arrays opened; small laws on endings and worlds. -/
import Derived.WalkKit
import Derived.ProofKit
import Derived.OpenShut
import Derived.ShutString
import Derived.Below
import Derived.WalkSmall
import Derived.Deep.Slices
import Derived.Lib.Hide
import Derived.Laws.OwnMore
import Derived.Deep.Draws
import Derived.Laws.Rows
import Derived.Laws.BytesArg
import Derived.Lib.QuietBelow
import Derived.Laws.BitsAllLaws
import Derived.Laws.BitsLemmas
import Derived.Test.YtlaemmplemngmaaDoorRows
import Derived.Outline
import Derived.OwnWalk
import Derived.Shelf.Strings.Builder1
import Derived.Shelf.Strings.Builder2
import Derived.Shelf.Strings.BuilderF
import Derived.Shelf.Strings.BuilderK
import Derived.Shelf.Strings.Builder2Cap
import Derived.Shelf.Strings.Prefix
import Derived.Shelf.Bits.Mul64
import Derived.Shelf.Strings.Repeat
import Derived.Shelf.Strings.BuilderCap
import Derived.Ground.SlgnProg
import Derived.Shelf.SlicesE.Clone
import Derived.Test.YtlaemmplemngmaaDoorProg
import Derived.Laws.AppendOwn
import Derived.Lib.AppendStr
import Derived.Lib.Builder
import Derived.Laws.Externs
import Derived.Deep.DeepMust
import Derived.WalkLawsBesides
import Derived.LoopTactic
import Derived.WalkSpells
import Derived.Deep.RegionWith
import Derived.BigRegion
import Derived.RegionTactic
import Derived.BigQuiet
import Derived.Deep.CutBlock
import Derived.Deep.DeepCutAuto
import Derived.Laws.Tables
import Derived.Laws.ResultCell
import Derived.Laws.IdiomCopy
import Derived.Laws.World
import Derived.Deep.RegionLaw
import Derived.Deep.AppendSrc
import Derived.Deep.Upon
import Derived.Great.Frames
import Derived.Maps.AppendAt
import Derived.Deep.RegionHeld3
import Derived.Deep.AppendLies
namespace Go.Proofs.YtlaemmplemngmaaDoor.kit
open Go.ChangeShapes Go.WideShapes Go.ChangeAt Go.RowKit

theorem ret_int {k : IntKind} {a b : Int} (h : a = b) : Ending.returned (.int k a) = .returned (.int k b) := by rw [h]
theorem ret_bool {a b : Bool} (h : a = b) : Ending.returned (.bool a) = .returned (.bool b) := by rw [h]
theorem ret_true {b : Bool} (h : b = true) : Ending.returned (.bool b) = .returned (.bool true) := by rw [h]

/-- What one flat cell may hold. 'other': whatever reads at that type. -/
inductive Sh where
  | int (k : IntKind)
  | bool
  | str
  | other (t : TypeId)

/-- The flat shape of a type: structs and arrays laid out. -/
def flat (P : Program) : Nat → TypeId → Option (List Sh)
  | 0, _ => none
  | n + 1, t => match P.underlying t with
    | some (.int k) => some [.int k]
    | some .bool => some [.bool]
    | some .string => some [.str]
    | some (.slice _) => some [.other t]
    | some (.pointer _) => some [.other t]
    | some (.struct fs) =>
      (fs.toList.foldl (fun acc f => match acc with
        | none => none
        | some l => if f.offset = l.length then match flat P n f.type with
            | some m => if P.cellsOf f.type = m.length then some (l ++ m) else none
            | none => none
          else none) (some []))
    | some (.array k e) => match flat P n e with
        | some m => if P.cellsOf e = m.length then some ((List.replicate k m).flatten) else none
        | none => none
    | _ => none

section
variable {H : Type} (enc : TypeId × Value → H) (P : Program) (w : World) (base : Nat) (spare : Nat → Bool) (held : Bool)

def Fits : Sh → Value → Prop
  | .int k, v => ∃ a, v = .int k a ∧ (Lit.int k a).wf = true
  | .bool, v => ∃ b, v = .bool b
  | .str, v => ∃ s : ByteArray, v = .string s ∧ s.size ≤ maxLen
  | .other t, v => ∃ m x, DataW.trod enc P w base spare held m t [v] = some x

def FlatOK : List Sh → List Value → Prop
  | [], [] => True
  | s :: r, v :: vs => Fits enc P w base spare held s v ∧ FlatOK r vs
  | _, _ => False

theorem FlatOK.append : ∀ {a b : List Sh} {u v : List Value}, FlatOK enc P w base spare held a u → FlatOK enc P w base spare held b v → FlatOK enc P w base spare held (a ++ b) (u ++ v)
  | [], _, [], _, _, h => h
  | [], _, _ :: _, _, h, _ => h.elim
  | _ :: _, _, [], _, h, _ => h.elim
  | _ :: _, _, _ :: _, _, h, k => ⟨h.1, FlatOK.append h.2 k⟩

theorem FlatOK.length : ∀ {a : List Sh} {u : List Value}, FlatOK enc P w base spare held a u → u.length = a.length
  | [], [], _ => rfl
  | [], _ :: _, h => h.elim
  | _ :: _, [], h => h.elim
  | _ :: _, _ :: _, h => by simp [FlatOK.length h.2]

theorem FlatOK.cons {s : Sh} {r : List Sh} {l : List Value} (h : FlatOK enc P w base spare held (s :: r) l) : ∃ v t, l = v :: t ∧ Fits enc P w base spare held s v ∧ FlatOK enc P w base spare held r t := by
  cases l with
  | nil => exact h.elim
  | cons v t => exact ⟨v, t, rfl, h.1, h.2⟩
theorem FlatOK.int {k : IntKind} {r : List Sh} {l : List Value} (h : FlatOK enc P w base spare held (.int k :: r) l) : ∃ a t, l = .int k a :: t ∧ (Lit.int k a).wf = true ∧ FlatOK enc P w base spare held r t := by
  obtain ⟨v, t, rfl, ⟨a, rfl, wa⟩, h2⟩ := FlatOK.cons enc P w base spare held h
  exact ⟨a, t, rfl, wa, h2⟩
theorem FlatOK.bool {r : List Sh} {l : List Value} (h : FlatOK enc P w base spare held (.bool :: r) l) : ∃ b t, l = .bool b :: t ∧ FlatOK enc P w base spare held r t := by
  obtain ⟨v, t, rfl, ⟨a, rfl⟩, h2⟩ := FlatOK.cons enc P w base spare held h
  exact ⟨a, t, rfl, h2⟩
theorem FlatOK.str {r : List Sh} {l : List Value} (h : FlatOK enc P w base spare held (.str :: r) l) : ∃ (s : ByteArray) (t : List Value), l = .string s :: t ∧ s.size ≤ maxLen ∧ FlatOK enc P w base spare held r t := by
  obtain ⟨v, t, rfl, ⟨a, rfl, wa⟩, h2⟩ := FlatOK.cons enc P w base spare held h
  exact ⟨a, t, rfl, wa, h2⟩
theorem FlatOK.nil {l : List Value} (h : FlatOK enc P w base spare held [] l) : l = [] := by
  cases l with
  | nil => rfl
  | cons v t => exact h.elim

theorem flat_ok : ∀ (n : Nat) (t : TypeId) (sh : List Sh) (fuel : Nat) (cs : List Value) (x : DataW H × List MemPlace), flat P n t = some sh →
    P.cellsOf t = sh.length → DataW.trod enc P w base spare held fuel t cs = some x → FlatOK enc P w base spare held sh cs := by
  intro n
  induction n with
  | zero => intro t sh fuel cs x h; simp [flat] at h
  | succ n ih =>
    intro t sh fuel cs x h hC hx
    unfold flat at h
    cases hu : P.underlying t with
    | none => rw [hu] at h; simp at h
    | some T =>
      rw [hu] at h
      cases T with
      | int k =>
        simp at h; subst h
        obtain ⟨a, rfl, _, wa⟩ := DataW.trod_int hu hx
        exact ⟨⟨a, rfl, wa⟩, trivial⟩
      | bool =>
        simp at h; subst h
        obtain ⟨b, rfl, _⟩ := DataW.trod_bool hu hx
        exact ⟨⟨b, rfl⟩, trivial⟩
      | string =>
        simp at h; subst h
        obtain ⟨s, rfl, _, ws⟩ := DataW.trod_string hu hx
        exact ⟨⟨s, rfl, ws⟩, trivial⟩
      | slice e =>
        simp at h; subst h
        have hl : ∃ v, cs = [v] := by
          rcases Go.Deep.open_slice hu hx with ⟨rfl, _⟩ | ⟨a, len, cap, _, _, _, _, rfl, _⟩
          · exact ⟨_, rfl⟩
          · exact ⟨_, rfl⟩
        obtain ⟨v, rfl⟩ := hl
        exact ⟨⟨fuel, x, hx⟩, trivial⟩
      | pointer e =>
        simp at h; subst h
        have hl : ∃ v, cs = [v] := by
          rcases DataW.trod_pointer hu hx with ⟨rfl, _⟩ | ⟨a, cs', y, n', _, rfl, _⟩
          · exact ⟨_, rfl⟩
          · exact ⟨_, rfl⟩
        obtain ⟨v, rfl⟩ := hl
        exact ⟨⟨fuel, x, hx⟩, trivial⟩
      | struct fs =>
        simp only at h
        obtain ⟨xs, m, _, _, hlen, hxl, hf⟩ := DataW.trod_struct hu hx
        -- along the fields
        have key : ∀ (l : List Field) (pre : List Sh) (out : List Sh) (k : Nat),
            (∀ i f, l[i]? = some f → DataW.trod enc P w base spare held m f.type ((cs.drop f.offset).take (P.cellsOf f.type)) = xs[k + i]?) → k + l.length ≤ xs.length →
            FlatOK enc P w base spare held pre (cs.take pre.length) →
            l.foldl (fun acc f => match acc with
              | none => none
              | some l => if f.offset = l.length then match flat P n f.type with
                  | some m => if P.cellsOf f.type = m.length then some (l ++ m) else none
                  | none => none
                else none) (some pre) = some out → FlatOK enc P w base spare held out (cs.take out.length) := by
          intro l
          induction l with
          | nil => intro pre out k _ _ hp he; simp at he; subst he; exact hp
          | cons f l ihl =>
            intro pre out k hi hk hp he
            simp only [List.foldl_cons] at he
            by_cases ho : f.offset = pre.length
            · rw [if_pos ho] at he
              cases hm : flat P n f.type with
              | none =>
                rw [hm] at he
                exfalso
                have : ∀ (l : List Field), l.foldl (fun acc f => match acc with
                  | none => none
                  | some l => if f.offset = l.length then match flat P n f.type with
                      | some m => if P.cellsOf f.type = m.length then some (l ++ m) else none
                      | none => none
                    else none) (none : Option (List Sh)) = none := by intro l; induction l <;> simp_all
                simp only [this] at he
                cases he
              | some mm =>
                rw [hm] at he
                simp only at he
                by_cases hc : P.cellsOf f.type = mm.length
                · rw [if_pos hc] at he
                  have h0 := hi 0 f rfl
                  have hlt : k + 0 < xs.length := by simp at hk; omega
                  rw [List.getElem?_eq_getElem hlt] at h0
                  have hsub := ih f.type mm m _ _ hm hc h0
                  refine ihl (pre ++ mm) out (k + 1) (fun i g hg => ?_) (by simp at hk; omega) ?_ he
                  · rw [hi (i + 1) g (by simpa using hg)]; congr 1; omega
                  · have e1 : cs.take (pre ++ mm).length = cs.take pre.length ++ ((cs.drop f.offset).take (P.cellsOf f.type)) := by
                      rw [ho, hc, List.length_append, List.take_add]
                    rw [e1]
                    exact FlatOK.append enc P w base spare held hp hsub
                · rw [if_neg hc] at he
                  exfalso
                  have : ∀ (l : List Field), l.foldl (fun acc f => match acc with
                    | none => none
                    | some l => if f.offset = l.length then match flat P n f.type with
                        | some m => if P.cellsOf f.type = m.length then some (l ++ m) else none
                        | none => none
                      else none) (none : Option (List Sh)) = none := by intro l; induction l <;> simp_all
                  simp only [this] at he
                  cases he
            · rw [if_neg ho] at he
              exfalso
              have : ∀ (l : List Field), l.foldl (fun acc f => match acc with
                | none => none
                | some l => if f.offset = l.length then match flat P n f.type with
                    | some m => if P.cellsOf f.type = m.length then some (l ++ m) else none
                    | none => none
                  else none) (none : Option (List Sh)) = none := by intro l; induction l <;> simp_all
              simp only [this] at he
              cases he
        have := key fs.toList [] sh 0 (fun i f hfi => by rw [Nat.zero_add]; exact hf i f (by simpa using hfi)) (by simp [hxl]) (by simp [FlatOK]) h
        have hcs : cs.length = sh.length := by rw [hlen, hC]
        rwa [← hcs, List.take_length] at this
      | array k e =>
        simp only at h
        cases hm : flat P n e with
        | none => rw [hm] at h; simp at h
        | some mm =>
          rw [hm] at h
          simp only at h
          by_cases hc : P.cellsOf e = mm.length
          · rw [if_pos hc] at h
            simp at h
            subst h
            obtain ⟨xs, m, _, _, hlen, hxl, hf⟩ := DataW.trod_array hu hx
            have key : ∀ j, j ≤ k → FlatOK enc P w base spare held ((List.replicate j mm).flatten) (cs.take (j * mm.length)) := by
              intro j
              induction j with
              | zero => intro _; simp [FlatOK]
              | succ j ihj =>
                intro hj
                have h0 := hf j (by omega)
                rw [List.getElem?_eq_getElem (by omega)] at h0
                have hsub := ih e mm m _ _ hm hc h0
                have e1 : (List.replicate (j + 1) mm).flatten = (List.replicate j mm).flatten ++ mm := by
                  rw [List.replicate_succ', List.flatten_append]; simp
                have e2 : cs.take ((j + 1) * mm.length) = cs.take (j * mm.length) ++ (cs.drop (j * P.cellsOf e)).take (P.cellsOf e) := by
                  rw [hc, Nat.succ_mul, List.take_add]
                rw [e1, e2]
                exact FlatOK.append enc P w base spare held (ihj (by omega)) hsub
            have := key k (Nat.le_refl _)
            have hcs : cs.length = k * mm.length := by rw [hlen, hC]; simp
            rwa [← hcs, List.take_length] at this
          · rw [if_neg hc] at h; cases h
      | _ => simp at h

end

/-- A struct by value, opened to its flat cells. -/
theorem open_struct {H : Type} {enc : TypeId × Value → H} {P : Program} {W : World} {base b0 : Nat} {sp : Nat → Bool} {hd : Bool} {r : Reach} {t : TypeId} {fs : Array Field} {v : Value} {d : DataW H} {p : List MemPlace} (n : Nat) {sh : List Sh}
    (ht : P.underlying t = some (.struct fs)) (hsh : flat P n t = some sh) (hC : P.cellsOf t = sh.length) (hv : Value.okWide P W r base t v)
    (h : DataW.Trod enc P W b0 sp hd t v d p) : ∃ l : List Value, v = .agg ⟨l⟩ ∧ FlatOK enc P W b0 sp hd sh l := by
  obtain ⟨cs, rfl, hn⟩ := okWide_struct ht hv
  obtain ⟨l⟩ := cs
  obtain ⟨fuel, hf⟩ := h
  exact ⟨l, rfl, flat_ok enc P W b0 sp hd n t sh fuel l _ hsh hC hf⟩

/-- An array by value, opened to its flat cells. -/
theorem open_array {H : Type} {enc : TypeId × Value → H} {P : Program} {W : World} {base b0 : Nat} {sp : Nat → Bool} {hd : Bool} {r : Reach} {t e : TypeId} {k : Nat} {v : Value} {d : DataW H} {p : List MemPlace} (n : Nat) {sh : List Sh}
    (ht : P.underlying t = some (.array k e)) (hsh : flat P n t = some sh) (hC : P.cellsOf t = sh.length) (hv : Value.okWide P W r base t v)
    (h : DataW.Trod enc P W b0 sp hd t v d p) : ∃ l : List Value, v = .agg ⟨l⟩ ∧ FlatOK enc P W b0 sp hd sh l := by
  have hv' := hv
  simp only [Value.okWide, ht] at hv'
  obtain ⟨⟨l⟩, rfl, _⟩ := hv'
  obtain ⟨fuel, hf⟩ := h
  exact ⟨l, rfl, flat_ok enc P W b0 sp hd n t sh fuel l _ hsh hC hf⟩

/-- A slice of whatever flat type: nil, or a row whose elements' cells fit. -/
def FlatRow {H : Type} (enc : TypeId × Value → H) (P : Program) (W : World) (b0 : Nat) (sp : Nat → Bool) (hd : Bool) (sh : List Sh) (v : Value) : Prop :=
  v = .slice none 0 0 ∨ ∃ (a : Addr) (len cap : Nat) (C : Nat → List Value), v = .slice (some a) len cap ∧ len ≤ cap ∧ cap ≤ maxLen ∧ (0 < len → a.block < W.heap.size) ∧
    ∀ i, i < len → FlatOK enc P W b0 sp hd sh (C i) ∧ ∀ j u, (C i)[j]? = some u → W.cell? (a.add (i * sh.length + j)) = some u

theorem open_row {H : Type} {enc : TypeId × Value → H} {P : Program} {W : World} {base b0 : Nat} {sp : Nat → Bool} {hd : Bool} {r : Reach} {t e : TypeId} {v : Value} {d : DataW H} {p : List MemPlace} (n : Nat) {sh : List Sh}
    (ht : P.underlying t = some (.slice e)) (hsh : flat P n e = some sh) (hC : P.cellsOf e = sh.length) (hpos : 0 < sh.length) (hv : Value.okWide P W r base t v)
    (h : DataW.Trod enc P W b0 sp hd t v d p) : FlatRow enc P W b0 sp hd sh v := by
  obtain ⟨a0, len0, cap0, rfl⟩ := okWide_slice ht hv
  obtain ⟨fuel, hf⟩ := h
  have hlt : ∀ x ∈ p, x.block < W.heap.size := DataW.trod_lt _ _ _ _ hf
  simp only [Value.cells] at hf
  rcases Go.Deep.open_slice ht hf with ⟨hcs, _⟩ | ⟨a, len, cap, m, k, D, Pl, hcs, _, hl, hm, hmm, hx, hi⟩
  · simp at hcs
    obtain ⟨rfl, rfl, rfl⟩ := hcs
    exact .inl rfl
  · simp at hcs
    obtain ⟨rfl, rfl, rfl⟩ := hcs
    have hlm : len0 ≤ m := by rw [hmm]; split <;> omega
    obtain ⟨C, hC'⟩ := Go.Deep.choose_lt (α := List Value) (p := fun i cs' => W.cells? b0 (a.add (i * P.cellsOf e)) (P.cellsOf e) = some cs' ∧ DataW.trod enc P W b0 sp hd k e cs' = some (D i, Pl i)) hi
    refine .inr ⟨a, len0, cap0, C, rfl, hl, hm, fun h0 => ?_, fun i hil => ?_⟩
    · simp only [Prod.mk.injEq] at hx
      have hp := hx.2
      subst hp
      have hmem : (MemPlace.cell a.block (a.off + 0)) ∈ MemPlace.row a (m * P.cellsOf e) ++ (List.range m).flatMap Pl := by
        rw [List.mem_append]; left
        have : 0 < m * P.cellsOf e := by rw [hC]; exact Nat.mul_pos (by omega) hpos
        unfold MemPlace.row
        exact List.mem_map.2 ⟨0, by simpa using this, rfl⟩
      exact hlt _ hmem
    · obtain ⟨h1, h2⟩ := hC' i (by omega)
      have hfl := flat_ok enc P W b0 sp hd n e sh k _ _ hsh hC h2
      refine ⟨hfl, fun j u hu => ?_⟩
      obtain ⟨_, hcl, hat⟩ := World.cells?_some h1
      have hj : j < P.cellsOf e := by
        have := FlatOK.length enc P W b0 sp hd hfl
        have hj2 : j < (C i).length := (List.getElem?_eq_some_iff.1 hu).1
        omega
      have := hat j hj
      rw [hC] at this
      rw [← Go.Deep.add_add, this, hu]

/-- Behind a contract that ends in 'Below': every old cell, every old mark reads as before. -/
theorem bcell {W w1 : World} (hb : Below W.heap.size W w1) : (∀ b o, b < W.heap.size → w1.cell? ⟨b, o, none⟩ = W.cell? ⟨b, o, none⟩) ∧ (∀ b o, b < W.heap.size → w1.frozen? ⟨b, o, none⟩ = W.frozen? ⟨b, o, none⟩) :=
  ⟨fun b o h => hb.cell (p := ⟨b, o, none⟩) h, fun b o h => hb.frozen (p := ⟨b, o, none⟩) h⟩

/-- A block known whole: its cells, its element type, none of them frozen. -/
def Blk (w : World) (g : Nat) (t : TypeId) (cs : Array Value) : Prop := w.heap[g]? = some (.cells cs t (0, 0))
section
variable {w w' : World} {g : Nat} {t : TypeId} {cs : Array Value}
theorem Blk.lt (h : Blk w g t cs) : g < w.heap.size := by
  rcases Nat.lt_or_ge g w.heap.size with hlt | hge
  · exact hlt
  · unfold Blk at h; rw [Array.getElem?_eq_none hge] at h; cases h
theorem Blk.cell (h : Blk w g t cs) (i : Nat) : w.cell? ⟨g, i, none⟩ = cs[i]? := cell_of_row w g i cs t (0, 0) h
theorem Blk.frozen (h : Blk w g t cs) (i : Nat) : w.frozen? ⟨g, i, none⟩ = false := by
  unfold Blk at h
  simp [World.frozen?, h]
theorem Blk.new (w : World) (t : TypeId) (cs : Array Value) : Blk (w.alloc (.cells cs t)) w.heap.size t cs := heap_alloc_new w _
theorem blk_new2 (w : World) (o : Obj) (t : TypeId) (cs : Array Value) : Blk ((w.alloc o).alloc (.cells cs t)) (w.heap.size + 1) t cs := by
  simpa using Blk.new (w.alloc o) t cs
theorem Blk.drew (h : Blk w g t cs) : Blk w.drew g t cs := h
theorem Blk.drewN (h : Blk w g t cs) (n : Nat) : Blk (w.drewN n) g t cs := h
theorem Blk.alloc (h : Blk w g t cs) (o : Obj) : Blk (w.alloc o) g t cs := (Below.heap_alloc w o g h.lt).trans h
theorem Blk.set_ (h : Blk w g t cs) (i : Nat) (u : Value) : Blk (w.setCell ⟨g, i, none⟩ u) g t (cs.setIfInBounds i u) := by
  unfold Blk at h ⊢
  simp [World.setCell, Array.getElem?_modify, h]
theorem Blk.far (h : Blk w g t cs) {p : Addr} (hp : g ≠ p.block) (u : Value) : Blk (w.setCell p u) g t cs := (Below.heap_setCell w p u g hp).trans h
theorem Blk.below {B : Nat} (h : Blk w g t cs) (hb : Below B w w') (hg : g < B) : Blk w' g t cs := (hb.block g hg).trans h
end

/-! ### bits of int, both sides not below 0 -/
theorem ofInt_i64 (a : Nat) (ha : a < 9223372036854775808) : (BitVec.ofInt 64 (a : Int)).toNat = a := by
  rw [BitVec.ofInt_natCast, BitVec.toNat_ofNat]; exact Nat.mod_eq_of_lt (by omega)
theorem i64_and_nat (a b : Nat) (ha : a < 9223372036854775808) (hb : b < 9223372036854775808) : bits .and .i64 (a : Int) (b : Int) = ((a &&& b : Nat) : Int) := by
  have hx : a &&& b < 2 ^ 63 := Nat.and_lt_two_pow _ (by omega)
  show IntKind.i64.wrap ((BitVec.ofInt 64 (a : Int) &&& BitVec.ofInt 64 (b : Int)).toNat : Int) = _
  rw [BitVec.toNat_and, ofInt_i64 a ha, ofInt_i64 b hb, IntKind.wrap_i64]
  omega
/-- 'x & m' of whatever int, m = 2^k - 1: what is left of x by 2^k. -/
theorem i64_mask (x : Int) (k : Nat) (hk : k < 63) : bits .and .i64 x ((2 ^ k - 1 : Nat) : Int) = x % (2 ^ k : Nat) := by
  show IntKind.i64.wrap ((BitVec.ofInt 64 x &&& BitVec.ofInt 64 ((2 ^ k - 1 : Nat) : Int)).toNat : Int) = _
  have h1 : 2 ^ k ≤ 2 ^ 62 := Nat.pow_le_pow_right (by omega) (by omega)
  have hp : 0 < 2 ^ k := Nat.two_pow_pos k
  rw [BitVec.toNat_and, ofInt_i64 (2 ^ k - 1) (by omega), Nat.and_two_pow_sub_one_eq_mod]
  have h2 : (BitVec.ofInt 64 x).toNat % 2 ^ k < 2 ^ k := Nat.mod_lt _ hp
  rw [IntKind.wrap_i64]
  have h3 : ((BitVec.ofInt 64 x).toNat : Int) = x % (2 ^ 64 : Nat) := by
    rw [BitVec.toNat_ofInt]
    have : 0 ≤ x % ((2 ^ 64 : Nat) : Int) := Int.emod_nonneg _ (by decide)
    omega
  have h4 : (((BitVec.ofInt 64 x).toNat % 2 ^ k : Nat) : Int) = x % (2 ^ k : Nat) := by
    rw [Int.natCast_emod, h3]
    exact Int.emod_emod_of_dvd x (by exact_mod_cast Nat.pow_dvd_pow 2 (by omega))
  rw [h4]
  have h5 : 0 ≤ x % ((2 ^ k : Nat) : Int) := Int.emod_nonneg _ (by omega)
  have h6 : x % ((2 ^ k : Nat) : Int) < (2 ^ k : Nat) := Int.emod_lt_of_pos _ (by omega)
  omega
/-- one bit of a number -/
theorem and_pow (n k : Nat) : n &&& 2 ^ k = if n / 2 ^ k % 2 = 1 then 2 ^ k else 0 := by
  have e : n.testBit k = decide (n / 2 ^ k % 2 = 1) := Nat.testBit_eq_decide_div_mod_eq
  apply Nat.eq_of_testBit_eq
  intro i
  rw [Nat.testBit_and, Nat.testBit_two_pow]
  by_cases hik : k = i
  · subst hik
    by_cases h : n / 2 ^ k % 2 = 1 <;> simp [e, h]
  · by_cases h : n / 2 ^ k % 2 = 1 <;> simp [h, hik]

/-- 'string(b[:len])' of a block that is known whole. -/
theorem conv_blk {P : Program} {w : World} {src e dst : TypeId} (hs : P.underlying src = some (.slice e)) (he : P.underlying e = some (.int .u8)) (hd : P.underlying dst = some .string)
    {g : Nat} {t : TypeId} {cs : Array Value} (h : Blk w g t cs) (len cap : Nat) (xs : List Int) (hl : xs.length = len) (hx : ∀ i, i < len → cs[i]? = some (.int .u8 (xs.getD i 0))) :
    (convert src dst (.slice (some ⟨g, 0, none⟩) len cap)).run P w = .ok (.string (strOfNums xs)) w :=
  run_convert_bytes_arg w src e hs he g 0 len cap xs hl (fun i hi => by rw [Nat.zero_add, h.cell, hx i hi]) dst hd
theorem strOfNums_append (xs ys : List Int) : strOfNums xs ++ strOfNums ys = strOfNums (xs ++ ys) := by
  simp only [strOfNums]
  apply ByteArray.ext
  simp
end Go.Proofs.YtlaemmplemngmaaDoor.kit
/- Layer 6: which types are known; each switch by a contract. -/
namespace Go.Proofs.YtlaemmplemngmaaDoor.chk
open Go.ChangeShapes Go.WideShapes Go.ChangeAt Go.RowKit kit
set_option maxRecDepth 100000

/-- The types that are known. -/
def knB (n : Int) : Bool := decide (n = 0 ∨ n = 1 ∨ n = 2 ∨ n = 3 ∨ n = 4 ∨ n = 5 ∨ n = 6 ∨ n = 7 ∨ n = 8 ∨ n = 9 ∨ n = 10 ∨ n = 11 ∨ n = 14 ∨ n = 15 ∨ n = 193 ∨ n = 128 ∨ n = 130)
theorem kn_t {n : Int} (h : n = 0 ∨ n = 1 ∨ n = 2 ∨ n = 3 ∨ n = 4 ∨ n = 5 ∨ n = 6 ∨ n = 7 ∨ n = 8 ∨ n = 9 ∨ n = 10 ∨ n = 11 ∨ n = 14 ∨ n = 15 ∨ n = 193 ∨ n = 128 ∨ n = 130) : knB n = true := decide_eq_true h
theorem kn_f {n : Int} (h : ¬ (n = 0 ∨ n = 1 ∨ n = 2 ∨ n = 3 ∨ n = 4 ∨ n = 5 ∨ n = 6 ∨ n = 7 ∨ n = 8 ∨ n = 9 ∨ n = 10 ∨ n = 11 ∨ n = 14 ∨ n = 15 ∨ n = 193 ∨ n = 128 ∨ n = 130)) : knB n = false := decide_eq_false h
theorem known_any (n : Int) (w : World) : Calls Tryd.prog 64 #[.int .i64 n] w fun e w' => e = .returned (.bool (knB n)) ∧ Below w.heap.size w w' := by
  go_enter Tryd.func64, Tryd.ntmps64
  go_wp2
  all_goals
    go_ret
    refine ⟨ret_bool ?_, Below.refl _ _⟩
    simp only [beq_iff_eq, beq_eq_false_iff_ne, ne_eq] at *
    first | exact (kn_t (by omega)).symm | exact (kn_f (by omega)).symm
end Go.Proofs.YtlaemmplemngmaaDoor.chk
/-
  DERIVED: THE SHELF's CONTRACTS AT THIS DUMP, IN PLAIN WORDS (tools/lay-plain.mjs out of 'TrydShelf.lean', which tools/lay-shelf.mjs wrote): THE SAME DECLARATIONS UNDER THE SAME NAMES: 'import', 'namespace', 'open', 'def', 'theorem' AND NOTHING ELSE: no command of the shelf's: FOR A HAND-IN. Each laying: the table of numbers ('.._ren') and one theorem, a field a fact of the dump's own or the kernel's comparison; each contract: ONE APPLICATION.
-/
namespace Go.Proofs
open Go.Shelf
def Tryd.lays170_ren : Go.Shelf.Ren := ⟨fun | 170 => 39 | n => n, fun | 70 => 42 | 3 => 3 | 0 => 0 | 72 => 45 | 37 => 43 | 5 => 5 | n => n, fun | n => n⟩
theorem Tryd.lays170 : Go.Proofs.Lays.n170 Tryd.prog Tryd.lays170_ren := {
  mixed := by kernel_rfl
  f170 := Tryd.func39.trans (congrArg some (by kernel_rfl))
  t0 := Tryd.underlying0
  a0 := Tryd.isAgg0
  z0 := Tryd.sizeOf0
  v0 := Tryd.zeroValue0
  t3 := Tryd.underlying3
  a3 := Tryd.isAgg3
  z3 := Tryd.sizeOf3
  v3 := Tryd.zeroValue3
  t37 := Tryd.underlying43
  a37 := Tryd.isAgg43
  z37 := Tryd.sizeOf43
  v37 := Tryd.zeroValue43
  t70 := Tryd.underlying42
  a70 := Tryd.isAgg42
  z70 := Tryd.sizeOf42
  v70 := Tryd.zeroValue42
  t72 := Tryd.underlying45
  a72 := Tryd.isAgg45
  z72 := Tryd.sizeOf45
  v72 := Tryd.zeroValue45 }
open Go.RowKit in
/-- (*strings.Builder).Len: "Len returns the number of accumulated bytes; b.Len() == len(b.String()).": the world is as it was. (LAID: no walk: one application.) -/
theorem Tryd.Builder_Len (B b : Nat) (bs : List Value) (w : World) (h : Lib.IsBuilder 45 5 B b bs w) :
    Calls Tryd.prog 39 #[.pointer (some ⟨b, 0, none⟩)] w fun e w' => e = .returned (.int .i64 bs.length) ∧ w' = w := Any.Builder_Len Tryd.lays170 B b bs w h
def Tryd.lays169_ren : Go.Shelf.Ren := ⟨fun | 169 => 20 | n => n, fun | 70 => 42 | 9 => 9 | 0 => 0 | 72 => 45 | 37 => 43 | 127 => 75 | 3 => 3 | 5 => 5 | n => n, fun | n => n⟩
theorem Tryd.lays169 : Go.Proofs.Lays.n169 Tryd.prog Tryd.lays169_ren := {
  mixed := by kernel_rfl
  f169 := Tryd.func20.trans (congrArg some (by kernel_rfl))
  t0 := Tryd.underlying0
  a0 := Tryd.isAgg0
  z0 := Tryd.sizeOf0
  v0 := Tryd.zeroValue0
  t3 := Tryd.underlying3
  a3 := Tryd.isAgg3
  z3 := Tryd.sizeOf3
  v3 := Tryd.zeroValue3
  t9 := Tryd.underlying9
  a9 := Tryd.isAgg9
  z9 := Tryd.sizeOf9
  v9 := Tryd.zeroValue9
  t37 := Tryd.underlying43
  a37 := Tryd.isAgg43
  z37 := Tryd.sizeOf43
  v37 := Tryd.zeroValue43
  t70 := Tryd.underlying42
  a70 := Tryd.isAgg42
  z70 := Tryd.sizeOf42
  v70 := Tryd.zeroValue42
  t72 := Tryd.underlying45
  a72 := Tryd.isAgg45
  z72 := Tryd.sizeOf45
  v72 := Tryd.zeroValue45
  t127 := Tryd.underlying75
  a127 := Tryd.isAgg75
  z127 := Tryd.sizeOf75
  v127 := Tryd.zeroValue75 }
theorem Tryd.Builder_Extra_169 : Builder.Extra Tryd.prog Tryd.lays169_ren := {
  sizeBuilder := by kernel_rfl
  liesBuilder := by kernel_rfl
  t5 := Tryd.underlying5
  a5 := Tryd.isAgg5
  z5 := Tryd.sizeOf5
  v5 := Tryd.zeroValue5
  infoByte := by kernel_rfl
  cellsByte := by kernel_rfl
  sizeByte := by kernel_rfl
  neB5 := by decide }
open Go.RowKit in
/-- (*strings.Builder).String: "String returns the accumulated string.": OF A BUILDER THAT HOLDS AT LEAST ONE BYTE. ✋ THE MODEL FREEZES THOSE BYTES IN THE BUFFER (unsafe.String): a later write INTO them ends the model's run without an answer; a later append BEHIND them goes on. The statement's order of evaluation is drawn: one draw. (LAID: no walk: one application.) -/
theorem Tryd.Builder_String (B b : Nat) (l : List UInt8) (w : World) (h : Lib.IsBuilder 45 5 B b (Lib.byteCells l) w) (h0 : l ≠ []) :
    Calls Tryd.prog 20 #[.pointer (some ⟨b, 0, none⟩)] w fun e w' => e = .returned (.string ⟨l.toArray⟩) ∧ Below B w w' := Any.Builder_String Tryd.lays169 Tryd.Builder_Extra_169 B b l w h h0
open Go.RowKit in
/-- (*strings.Builder).String OF A BUILDER THAT HOLDS NO BYTE: the empty string. (Its buffer is nil, or a row of which it has taken nothing yet; where that row has NO capacity the model lays one new block for unsafe.SliceData's 'some address'.) One draw. (LAID: no walk: one application.) -/
theorem Tryd.Builder_String_empty (B b : Nat) (w : World) (h : Lib.IsBuilder 45 5 B b [] w) (hBw : B ≤ w.heap.size) :
    Calls Tryd.prog 20 #[.pointer (some ⟨b, 0, none⟩)] w fun e w' => e = .returned (.string ⟨#[]⟩) ∧ Below B w w' := Any.Builder_String_empty Tryd.lays169 Tryd.Builder_Extra_169 B b w h hBw
open Go.RowKit in
/-- (*strings.Builder).String: "String returns the accumulated string.": WHATEVER THE BUILDER HOLDS. (LAID: no walk: one application.) -/
theorem Tryd.Builder_String_any (B b : Nat) (l : List UInt8) (w : World) (h : Lib.IsBuilder 45 5 B b (Lib.byteCells l) w) (hBw : B ≤ w.heap.size) :
    Calls Tryd.prog 20 #[.pointer (some ⟨b, 0, none⟩)] w fun e w' => e = .returned (.string ⟨l.toArray⟩) ∧ Below B w w' := Any.Builder_String_any Tryd.lays169 Tryd.Builder_Extra_169 B b l w h hBw
def Tryd.lays241_ren : Go.Shelf.Ren := ⟨fun | 241 => 63 | 277 => 75 | n => n, fun | 70 => 42 | 3 => 3 | 0 => 0 | 72 => 45 | 37 => 43 | 5 => 5 | n => n, fun | n => n⟩
theorem Tryd.lays241 : Go.Proofs.Lays.n241 Tryd.prog Tryd.lays241_ren := {
  mixed := by kernel_rfl
  f241 := Tryd.func63.trans (congrArg some (by kernel_rfl))
  f277 := Tryd.func75.trans (congrArg some (by kernel_rfl))
  t0 := Tryd.underlying0
  a0 := Tryd.isAgg0
  z0 := Tryd.sizeOf0
  v0 := Tryd.zeroValue0
  t3 := Tryd.underlying3
  a3 := Tryd.isAgg3
  z3 := Tryd.sizeOf3
  v3 := Tryd.zeroValue3
  t37 := Tryd.underlying43
  a37 := Tryd.isAgg43
  z37 := Tryd.sizeOf43
  v37 := Tryd.zeroValue43
  t70 := Tryd.underlying42
  a70 := Tryd.isAgg42
  z70 := Tryd.sizeOf42
  v70 := Tryd.zeroValue42
  t72 := Tryd.underlying45
  a72 := Tryd.isAgg45
  z72 := Tryd.sizeOf45
  v72 := Tryd.zeroValue45 }
theorem Tryd.Builder_Extra_241 : Builder.Extra Tryd.prog Tryd.lays241_ren := {
  sizeBuilder := by kernel_rfl
  liesBuilder := by kernel_rfl
  t5 := Tryd.underlying5
  a5 := Tryd.isAgg5
  z5 := Tryd.sizeOf5
  v5 := Tryd.zeroValue5
  infoByte := by kernel_rfl
  cellsByte := by kernel_rfl
  sizeByte := by kernel_rfl
  neB5 := by decide }
open Go.RowKit in
/-- (*strings.Builder).grow (no doc but "grow copies the buffer to a new, larger buffer so that there are at least n bytes of capacity beyond len(b.buf)."): AT A BUILDER WITHOUT A BUFFER: a new row of whatever bytes for its buffer, none of them its own yet. Three draws. (LAID: no walk: one application.) -/
theorem Tryd.Builder_grow_fresh (B b n : Nat) (w : World) (hB : B ≤ b) (hbk : w.heap[b]? = some (.cells #[.pointer (some ⟨b, 0, none⟩), .slice none 0 0] 45 (0, 0))) (hBw : B ≤ w.heap.size) (hn : n ≤ 281474976710656) :
    Calls Tryd.prog 63 #[.pointer (some ⟨b, 0, none⟩), .int .i64 n] w fun e w' => e = .returned (.tuple #[]) ∧ (Lib.BuilderAt 45 5 B b (.pointer (some ⟨b, 0, none⟩)) [] w' ∧ Below B w w') := Any.Builder_grow_fresh Tryd.lays241 Tryd.Builder_Extra_241 B b n w hB hbk hBw hn
def Tryd.lays165_ren : Go.Shelf.Ren := ⟨fun | 165 => 38 | 240 => 31 | 241 => 63 | 276 => 53 | 277 => 75 | n => n, fun | 70 => 42 | 3 => 3 | 0 => 0 | 4 => 4 | 9 => 9 | 20 => 20 | 72 => 45 | 37 => 43 | 164 => 91 | 5 => 5 | n => n, fun | n => n⟩
theorem Tryd.lays165 : Go.Proofs.Lays.n165 Tryd.prog Tryd.lays165_ren := {
  mixed := by kernel_rfl
  f165 := Tryd.func38.trans (congrArg some (by kernel_rfl))
  f240 := Tryd.func31.trans (congrArg some (by kernel_rfl))
  f241 := Tryd.func63.trans (congrArg some (by kernel_rfl))
  f276 := Tryd.func53.trans (congrArg some (by kernel_rfl))
  f277 := Tryd.func75.trans (congrArg some (by kernel_rfl))
  t0 := Tryd.underlying0
  a0 := Tryd.isAgg0
  z0 := Tryd.sizeOf0
  v0 := Tryd.zeroValue0
  t3 := Tryd.underlying3
  a3 := Tryd.isAgg3
  z3 := Tryd.sizeOf3
  v3 := Tryd.zeroValue3
  t4 := Tryd.underlying4
  a4 := Tryd.isAgg4
  z4 := Tryd.sizeOf4
  v4 := Tryd.zeroValue4
  t9 := Tryd.underlying9
  a9 := Tryd.isAgg9
  z9 := Tryd.sizeOf9
  v9 := Tryd.zeroValue9
  t20 := Tryd.underlying20
  a20 := Tryd.isAgg20
  z20 := Tryd.sizeOf20
  v20 := Tryd.zeroValue20
  t37 := Tryd.underlying43
  a37 := Tryd.isAgg43
  z37 := Tryd.sizeOf43
  v37 := Tryd.zeroValue43
  t70 := Tryd.underlying42
  a70 := Tryd.isAgg42
  z70 := Tryd.sizeOf42
  v70 := Tryd.zeroValue42
  t72 := Tryd.underlying45
  a72 := Tryd.isAgg45
  z72 := Tryd.sizeOf45
  v72 := Tryd.zeroValue45
  t164 := Tryd.underlying91
  a164 := Tryd.isAgg91
  z164 := Tryd.sizeOf91
  v164 := Tryd.zeroValue91 }
theorem Tryd.Builder_Extra_165 : Builder.Extra Tryd.prog Tryd.lays165_ren := {
  sizeBuilder := by kernel_rfl
  liesBuilder := by kernel_rfl
  t5 := Tryd.underlying5
  a5 := Tryd.isAgg5
  z5 := Tryd.sizeOf5
  v5 := Tryd.zeroValue5
  infoByte := by kernel_rfl
  cellsByte := by kernel_rfl
  sizeByte := by kernel_rfl
  neB5 := by decide }
open Go.RowKit in
/-- (*strings.Builder).Grow AT A BUILDER THAT HAS NOT BEEN WRITTEN ('var b strings.Builder; b.Grow(n)'): "Grow grows b's capacity, if necessary, to guarantee space for another n bytes.": it holds no byte behind it as before it. (LAID: no walk: one application.) -/
theorem Tryd.Builder_Grow_fresh (B b n : Nat) (w : World) (hB : B ≤ b) (hbk : w.heap[b]? = some (.cells #[.pointer none, .slice none 0 0] 45 (0, 0))) (hBw : B ≤ w.heap.size) (hn : n ≤ 281474976710656) :
    Calls Tryd.prog 38 #[.pointer (some ⟨b, 0, none⟩), .int .i64 n] w fun e w' => e = .returned (.tuple #[]) ∧ (Lib.BuilderAt 45 5 B b (.pointer (some ⟨b, 0, none⟩)) [] w' ∧ Below B w w') := Any.Builder_Grow_fresh Tryd.lays165 Tryd.Builder_Extra_165 B b n w hB hbk hBw hn
open Go.RowKit in
/-- (*strings.Builder).Len: "Len returns the number of accumulated bytes; b.Len() == len(b.String()).": the world is as it was. (THE FORM '_f': 'Lib.IsBuilderF'.) (LAID: no walk: one application.) -/
theorem Tryd.Builder_Len_f (B b : Nat) (bs : List Value) (w : World) (h : Lib.IsBuilderF 45 5 B b bs w) :
    Calls Tryd.prog 39 #[.pointer (some ⟨b, 0, none⟩)] w fun e w' => e = .returned (.int .i64 bs.length) ∧ w' = w := Any.Builder_Len_f Tryd.lays170 B b bs w h
open Go.RowKit in
/-- (*strings.Builder).String: "String returns the accumulated string.": OF A BUILDER THAT HOLDS AT LEAST ONE BYTE. ✋ THE MODEL FREEZES THOSE BYTES IN THE BUFFER (unsafe.String): a later write INTO them ends the model's run without an answer; a later append BEHIND them goes on. The statement's order of evaluation is drawn: one draw. THE FORM '_f': IT SAYS BESIDES THAT THE BUILDER IS A BUILDER STILL ('Lib.IsBuilderF', the same bytes): SO IT CAN BE WRITTEN ON: 'b.WriteString(b.String()[:k])'. (LAID: no walk: one application.) -/
theorem Tryd.Builder_String_f (B b : Nat) (l : List UInt8) (w : World) (h : Lib.IsBuilderF 45 5 B b (Lib.byteCells l) w) (h0 : l ≠ []) :
    Calls Tryd.prog 20 #[.pointer (some ⟨b, 0, none⟩)] w fun e w' => e = .returned (.string ⟨l.toArray⟩) ∧ (Lib.IsBuilderF 45 5 B b (Lib.byteCells l) w' ∧ Below B w w') := Any.Builder_String_f Tryd.lays169 Tryd.Builder_Extra_169 B b l w h h0
open Go.RowKit in
/-- (*strings.Builder).String OF A BUILDER THAT HOLDS NO BYTE: the empty string; THE FORM '_f': a builder still. (LAID: no walk: one application.) -/
theorem Tryd.Builder_String_empty_f (B b : Nat) (w : World) (h : Lib.IsBuilderF 45 5 B b [] w) (hBw : B ≤ w.heap.size) :
    Calls Tryd.prog 20 #[.pointer (some ⟨b, 0, none⟩)] w fun e w' => e = .returned (.string ⟨#[]⟩) ∧ (Lib.IsBuilderF 45 5 B b [] w' ∧ Below B w w') := Any.Builder_String_empty_f Tryd.lays169 Tryd.Builder_Extra_169 B b w h hBw
open Go.RowKit in
/-- (*strings.Builder).String: "String returns the accumulated string.": WHATEVER THE BUILDER HOLDS; THE FORM '_f': OF A BUILDER THAT MAY HAVE BEEN READ BEFORE; AND IT IS A BUILDER STILL, holding the same bytes: it can be written on. (LAID: no walk: one application.) -/
theorem Tryd.Builder_String_any_f (B b : Nat) (l : List UInt8) (w : World) (h : Lib.IsBuilderF 45 5 B b (Lib.byteCells l) w) (hBw : B ≤ w.heap.size) :
    Calls Tryd.prog 20 #[.pointer (some ⟨b, 0, none⟩)] w fun e w' => e = .returned (.string ⟨l.toArray⟩) ∧ (Lib.IsBuilderF 45 5 B b (Lib.byteCells l) w' ∧ Below B w w') := Any.Builder_String_any_f Tryd.lays169 Tryd.Builder_Extra_169 B b l w h hBw
open Go.RowKit in
/-- (*strings.Builder).String: "String returns the accumulated string.": OF A BUILDER THAT HOLDS AT LEAST ONE BYTE. ✋ THE MODEL FREEZES THOSE BYTES IN THE BUFFER (unsafe.String): a later write INTO them ends the model's run without an answer; a later append BEHIND them goes on. The statement's order of evaluation is drawn: one draw. THE FORM '_k': OVER 'Lib.IsBuilderF' (a builder that 'String()' may have read), AND WITH THE FRAME THAT REACHES ABOVE THE BUILDER: 'Lib.OthersKept': every block that is not b and is no row of uint8's stands as it stood: the iterator of a range among them. (LAID: no walk: one application.) -/
theorem Tryd.Builder_String_k (B b : Nat) (l : List UInt8) (w : World) (h : Lib.IsBuilderF 45 5 B b (Lib.byteCells l) w) (h0 : l ≠ []) :
    Calls Tryd.prog 20 #[.pointer (some ⟨b, 0, none⟩)] w fun e w' => e = .returned (.string ⟨l.toArray⟩) ∧ (Lib.IsBuilderF 45 5 B b (Lib.byteCells l) w' ∧ Below B w w' ∧ Lib.OthersKept 5 (some b) w w') := Any.Builder_String_k Tryd.lays169 Tryd.Builder_Extra_169 B b l w h h0
open Go.RowKit in
/-- (*strings.Builder).String OF A BUILDER THAT HOLDS NO BYTE: the empty string; THE FORM '_k': OVER 'Lib.IsBuilderF' (a builder that 'String()' may have read), AND WITH THE FRAME THAT REACHES ABOVE THE BUILDER: 'Lib.OthersKept': every block that is not b and is no row of uint8's stands as it stood: the iterator of a range among them. (LAID: no walk: one application.) -/
theorem Tryd.Builder_String_empty_k (B b : Nat) (w : World) (h : Lib.IsBuilderF 45 5 B b [] w) (hBw : B ≤ w.heap.size) :
    Calls Tryd.prog 20 #[.pointer (some ⟨b, 0, none⟩)] w fun e w' => e = .returned (.string ⟨#[]⟩) ∧ (Lib.IsBuilderF 45 5 B b [] w' ∧ Below B w w' ∧ Lib.OthersKept 5 (some b) w w') := Any.Builder_String_empty_k Tryd.lays169 Tryd.Builder_Extra_169 B b w h hBw
open Go.RowKit in
/-- (*strings.Builder).String: "String returns the accumulated string.": WHATEVER THE BUILDER HOLDS; THE FORM '_k': OVER 'Lib.IsBuilderF' (a builder that 'String()' may have read), AND WITH THE FRAME THAT REACHES ABOVE THE BUILDER: 'Lib.OthersKept': every block that is not b and is no row of uint8's stands as it stood: the iterator of a range among them. (LAID: no walk: one application.) -/
theorem Tryd.Builder_String_any_k (B b : Nat) (l : List UInt8) (w : World) (h : Lib.IsBuilderF 45 5 B b (Lib.byteCells l) w) (hBw : B ≤ w.heap.size) :
    Calls Tryd.prog 20 #[.pointer (some ⟨b, 0, none⟩)] w fun e w' => e = .returned (.string ⟨l.toArray⟩) ∧ (Lib.IsBuilderF 45 5 B b (Lib.byteCells l) w' ∧ Below B w w' ∧ Lib.OthersKept 5 (some b) w w') := Any.Builder_String_any_k Tryd.lays169 Tryd.Builder_Extra_169 B b l w h hBw
open Go.RowKit in
/-- (*strings.Builder).grow (no doc but "grow copies the buffer to a new, larger buffer so that there are at least n bytes of capacity beyond len(b.buf)."): AT A BUILDER WITHOUT A BUFFER: a new row of whatever bytes for its buffer, none of them its own yet. Three draws. (LAID: no walk: one application.) -/
theorem Tryd.Builder_grow_fresh_cap (B b n : Nat) (w : World) (hB : B ≤ b) (hbk : w.heap[b]? = some (.cells #[.pointer (some ⟨b, 0, none⟩), .slice none 0 0] 45 (0, 0))) (hBw : B ≤ w.heap.size) (hn : n ≤ 281474976710656) :
    Calls Tryd.prog 63 #[.pointer (some ⟨b, 0, none⟩), .int .i64 n] w fun e w' => e = .returned (.tuple #[]) ∧ (Lib.BuilderAt 45 5 B b (.pointer (some ⟨b, 0, none⟩)) [] w' ∧ Below B w w') ∧ ∃ p cap, w'.cell? ⟨b, 1, none⟩ = some (.slice p 0 cap) ∧ n ≤ cap := Any.Builder_grow_fresh_cap Tryd.lays241 Tryd.Builder_Extra_241 B b n w hB hbk hBw hn
open Go.RowKit in
/-- (*strings.Builder).Grow AT A BUILDER THAT HAS NOT BEEN WRITTEN ('var b strings.Builder; b.Grow(n)'): "Grow grows b's capacity, if necessary, to guarantee space for another n bytes.": it holds no byte behind it as before it. (LAID: no walk: one application.) -/
theorem Tryd.Builder_Grow_fresh_cap (B b n : Nat) (w : World) (hB : B ≤ b) (hbk : w.heap[b]? = some (.cells #[.pointer none, .slice none 0 0] 45 (0, 0))) (hBw : B ≤ w.heap.size) (hn : n ≤ 281474976710656) :
    Calls Tryd.prog 38 #[.pointer (some ⟨b, 0, none⟩), .int .i64 n] w fun e w' => e = .returned (.tuple #[]) ∧ (Lib.BuilderAt 45 5 B b (.pointer (some ⟨b, 0, none⟩)) [] w' ∧ Below B w w') ∧ ∃ p cap, w'.cell? ⟨b, 1, none⟩ = some (.slice p 0 cap) ∧ n ≤ cap := Any.Builder_Grow_fresh_cap Tryd.lays165 Tryd.Builder_Extra_165 B b n w hB hbk hBw hn
def Tryd.lays206_ren : Go.Shelf.Ren := ⟨fun | 206 => 62 | n => n, fun | 9 => 9 | 4 => 4 | 3 => 3 | n => n, fun | n => n⟩
theorem Tryd.lays206 : Go.Proofs.Lays.n206 Tryd.prog Tryd.lays206_ren := {
  mixed := by kernel_rfl
  f206 := Tryd.func62.trans (congrArg some (by kernel_rfl))
  t3 := Tryd.underlying3
  a3 := Tryd.isAgg3
  z3 := Tryd.sizeOf3
  v3 := Tryd.zeroValue3
  t4 := Tryd.underlying4
  a4 := Tryd.isAgg4
  z4 := Tryd.sizeOf4
  v4 := Tryd.zeroValue4
  t9 := Tryd.underlying9
  a9 := Tryd.isAgg9
  z9 := Tryd.sizeOf9
  v9 := Tryd.zeroValue9 }
open Go.RowKit Go.Lib in
/-- internal/stringslite.HasPrefix (what strings.HasPrefix calls). (LAID: no walk: one application.) -/
theorem Tryd.stringslite_HasPrefix (s p : ByteArray) (w : World) :
    Calls Tryd.prog 62 #[.string s, .string p] w fun e w' => e = .returned (.bool (Lib.hasPrefix s.data.toList p.data.toList)) ∧ w' = w := Any.stringslite_HasPrefix Tryd.lays206 s p w
def Tryd.lays99_ren : Go.Shelf.Ren := ⟨fun | 99 => 37 | 206 => 62 | n => n, fun | 9 => 9 | 4 => 4 | 3 => 3 | n => n, fun | n => n⟩
theorem Tryd.lays99 : Go.Proofs.Lays.n99 Tryd.prog Tryd.lays99_ren := {
  mixed := by kernel_rfl
  f99 := Tryd.func37.trans (congrArg some (by kernel_rfl))
  f206 := Tryd.func62.trans (congrArg some (by kernel_rfl))
  t3 := Tryd.underlying3
  a3 := Tryd.isAgg3
  z3 := Tryd.sizeOf3
  v3 := Tryd.zeroValue3
  t4 := Tryd.underlying4
  a4 := Tryd.isAgg4
  z4 := Tryd.sizeOf4
  v4 := Tryd.zeroValue4
  t9 := Tryd.underlying9
  a9 := Tryd.isAgg9
  z9 := Tryd.sizeOf9
  v9 := Tryd.zeroValue9 }
open Go.RowKit Go.Lib in
/-- strings.HasPrefix: "HasPrefix reports whether the string s begins with prefix.": IT RETURNS 'Lib.hasPrefix s prefix'; the world is as it was. (LAID: no walk: one application.) -/
theorem Tryd.strings_HasPrefix (s p : ByteArray) (w : World) :
    Calls Tryd.prog 37 #[.string s, .string p] w fun e w' => e = .returned (.bool (Lib.hasPrefix s.data.toList p.data.toList)) ∧ w' = w := Any.strings_HasPrefix Tryd.lays99 s p w
def Tryd.lays264_ren : Go.Shelf.Ren := ⟨fun | 264 => 61 | n => n, fun | 53 => 83 | 46 => 70 | n => n, fun | n => n⟩
theorem Tryd.lays264 : Go.Proofs.Lays.n264 Tryd.prog Tryd.lays264_ren := {
  mixed := by kernel_rfl
  f264 := Tryd.func61.trans (congrArg some (by kernel_rfl))
  t46 := Tryd.underlying70
  a46 := Tryd.isAgg70
  z46 := Tryd.sizeOf70
  v46 := Tryd.zeroValue70
  t53 := Tryd.underlying83
  a53 := Tryd.isAgg83
  z53 := Tryd.sizeOf83
  v53 := Tryd.zeroValue83 }
open Go.RowKit Go.Lib in
theorem Tryd.bits_Mul64 (x y : Nat) (hx : x < 18446744073709551616) (hy : y < 18446744073709551616) (w : World) :
    Calls Tryd.prog 61 #[.int .u64 x, .int .u64 y] w fun e w' => e = .returned (.tuple #[.int .u64 ((x * y / 18446744073709551616 : Nat) : Int), .int .u64 ((x * y % 18446744073709551616 : Nat) : Int)]) ∧ w' = w := Any.bits_Mul64 Tryd.lays264 x y hx hy w
def Tryd.lays212_ren : Go.Shelf.Ren := ⟨fun | 212 => 36 | 263 => 60 | 264 => 61 | n => n, fun | 46 => 70 | 51 => 27 | 146 => 97 | 53 => 83 | 148 => 99 | n => n, fun | n => n⟩
theorem Tryd.lays212 : Go.Proofs.Lays.n212 Tryd.prog Tryd.lays212_ren := {
  mixed := by kernel_rfl
  f212 := Tryd.func36.trans (congrArg some (by kernel_rfl))
  f263 := Tryd.func60.trans (congrArg some (by kernel_rfl))
  f264 := Tryd.func61.trans (congrArg some (by kernel_rfl))
  t46 := Tryd.underlying70
  a46 := Tryd.isAgg70
  z46 := Tryd.sizeOf70
  v46 := Tryd.zeroValue70
  t51 := Tryd.underlying27
  a51 := Tryd.isAgg27
  z51 := Tryd.sizeOf27
  v51 := Tryd.zeroValue27
  t53 := Tryd.underlying83
  a53 := Tryd.isAgg83
  z53 := Tryd.sizeOf83
  v53 := Tryd.zeroValue83
  t146 := Tryd.underlying97
  a146 := Tryd.isAgg97
  z146 := Tryd.sizeOf97
  v146 := Tryd.zeroValue97
  t148 := Tryd.underlying99
  a148 := Tryd.isAgg99
  z148 := Tryd.sizeOf99
  v148 := Tryd.zeroValue99 }
open Go.RowKit Go.Lib in
/-- math/bits.Mul: "Mul returns the full-width product of x and y": on a machine of 64 bits: Mul64's. (LAID: no walk: one application.) -/
theorem Tryd.bits_Mul (x y : Nat) (hx : x < 18446744073709551616) (hy : y < 18446744073709551616) (w : World) :
    Calls Tryd.prog 36 #[.int .u64 x, .int .u64 y] w fun e w' => e = .returned (.tuple #[.int .u64 ((x * y / 18446744073709551616 : Nat) : Int), .int .u64 ((x * y % 18446744073709551616 : Nat) : Int)]) ∧ w' = w := Any.bits_Mul Tryd.lays212 x y hx hy w
def Tryd.lays105_ren : Go.Shelf.Ren := ⟨fun | 105 => 19 | 212 => 36 | 99 => 37 | 165 => 38 | 166 => 17 | 170 => 39 | 169 => 20 | 263 => 60 | 264 => 61 | 206 => 62 | 240 => 31 | 241 => 63 | 276 => 53 | 277 => 75 | n => n, fun | 9 => 9 | 3 => 3 | 4 => 4 | 20 => 20 | 0 => 0 | 46 => 70 | 109 => 71 | 5 => 5 | 72 => 45 | 76 => 48 | 51 => 27 | 146 => 97 | 53 => 83 | 148 => 99 | 70 => 42 | 37 => 43 | 75 => 47 | 127 => 75 | 164 => 91 | 80 => 52 | n => n, fun | n => n⟩
theorem Tryd.lays105 : Go.Proofs.Lays.n105 Tryd.prog Tryd.lays105_ren := {
  mixed := by kernel_rfl
  f99 := Tryd.func37.trans (congrArg some (by kernel_rfl))
  f105 := Tryd.func19.trans (congrArg some (by kernel_rfl))
  f165 := Tryd.func38.trans (congrArg some (by kernel_rfl))
  f166 := Tryd.func17.trans (congrArg some (by kernel_rfl))
  f169 := Tryd.func20.trans (congrArg some (by kernel_rfl))
  f170 := Tryd.func39.trans (congrArg some (by kernel_rfl))
  f206 := Tryd.func62.trans (congrArg some (by kernel_rfl))
  f212 := Tryd.func36.trans (congrArg some (by kernel_rfl))
  f240 := Tryd.func31.trans (congrArg some (by kernel_rfl))
  f241 := Tryd.func63.trans (congrArg some (by kernel_rfl))
  f263 := Tryd.func60.trans (congrArg some (by kernel_rfl))
  f264 := Tryd.func61.trans (congrArg some (by kernel_rfl))
  f276 := Tryd.func53.trans (congrArg some (by kernel_rfl))
  f277 := Tryd.func75.trans (congrArg some (by kernel_rfl))
  t0 := Tryd.underlying0
  a0 := Tryd.isAgg0
  z0 := Tryd.sizeOf0
  v0 := Tryd.zeroValue0
  t3 := Tryd.underlying3
  a3 := Tryd.isAgg3
  z3 := Tryd.sizeOf3
  v3 := Tryd.zeroValue3
  t4 := Tryd.underlying4
  a4 := Tryd.isAgg4
  z4 := Tryd.sizeOf4
  v4 := Tryd.zeroValue4
  t5 := Tryd.underlying5
  a5 := Tryd.isAgg5
  z5 := Tryd.sizeOf5
  v5 := Tryd.zeroValue5
  t9 := Tryd.underlying9
  a9 := Tryd.isAgg9
  z9 := Tryd.sizeOf9
  v9 := Tryd.zeroValue9
  t20 := Tryd.underlying20
  a20 := Tryd.isAgg20
  z20 := Tryd.sizeOf20
  v20 := Tryd.zeroValue20
  t37 := Tryd.underlying43
  a37 := Tryd.isAgg43
  z37 := Tryd.sizeOf43
  v37 := Tryd.zeroValue43
  t46 := Tryd.underlying70
  a46 := Tryd.isAgg70
  z46 := Tryd.sizeOf70
  v46 := Tryd.zeroValue70
  t51 := Tryd.underlying27
  a51 := Tryd.isAgg27
  z51 := Tryd.sizeOf27
  v51 := Tryd.zeroValue27
  t53 := Tryd.underlying83
  a53 := Tryd.isAgg83
  z53 := Tryd.sizeOf83
  v53 := Tryd.zeroValue83
  t70 := Tryd.underlying42
  a70 := Tryd.isAgg42
  z70 := Tryd.sizeOf42
  v70 := Tryd.zeroValue42
  t72 := Tryd.underlying45
  a72 := Tryd.isAgg45
  z72 := Tryd.sizeOf45
  v72 := Tryd.zeroValue45
  t75 := Tryd.underlying47
  a75 := Tryd.isAgg47
  z75 := Tryd.sizeOf47
  v75 := Tryd.zeroValue47
  t76 := Tryd.underlying48
  a76 := Tryd.isAgg48
  z76 := Tryd.sizeOf48
  v76 := Tryd.zeroValue48
  t109 := Tryd.underlying71
  a109 := Tryd.isAgg71
  z109 := Tryd.sizeOf71
  v109 := Tryd.zeroValue71
  t127 := Tryd.underlying75
  a127 := Tryd.isAgg75
  z127 := Tryd.sizeOf75
  v127 := Tryd.zeroValue75
  t146 := Tryd.underlying97
  a146 := Tryd.isAgg97
  z146 := Tryd.sizeOf97
  v146 := Tryd.zeroValue97
  t148 := Tryd.underlying99
  a148 := Tryd.isAgg99
  z148 := Tryd.sizeOf99
  v148 := Tryd.zeroValue99
  t164 := Tryd.underlying91
  a164 := Tryd.isAgg91
  z164 := Tryd.sizeOf91
  v164 := Tryd.zeroValue91 }
theorem Tryd.Builder_Extra_105 : Builder.Extra Tryd.prog Tryd.lays105_ren := {
  sizeBuilder := by kernel_rfl
  liesBuilder := by kernel_rfl
  t5 := Tryd.underlying5
  a5 := Tryd.isAgg5
  z5 := Tryd.sizeOf5
  v5 := Tryd.zeroValue5
  infoByte := by kernel_rfl
  cellsByte := by kernel_rfl
  sizeByte := by kernel_rfl
  neB5 := by decide }
open Go.RowKit Go.Lib in
/-- THE MAIN CASE: at least two copies of a string that is not empty. (LAID: no walk: one application.) -/
theorem Tryd.strings_Repeat_main (s : ByteArray) (c : Nat) (w : World) (hc2 : 2 ≤ c) (hc : c ≤ 9223372036854775807) (hlen : s.size * c ≤ 140737488355328) (h0 : 0 < s.size) :
    Calls Tryd.prog 19 #[.string s, .int .i64 c] w fun e w' => e = .returned (.string ⟨(Lib.repeatL s.data.toList c).toArray⟩) ∧ Below w.heap.size w w' := Any.strings_Repeat_main Tryd.lays105 Tryd.Builder_Extra_105 s c w hc2 hc hlen h0
open Go.RowKit Go.Lib in
theorem Tryd.strings_Repeat_zero (s : ByteArray) (w : World) :
    Calls Tryd.prog 19 #[.string s, .int .i64 0] w fun e w' => e = .returned (.string ⟨#[]⟩) ∧ w' = w := Any.strings_Repeat_zero Tryd.lays105 s w
open Go.RowKit Go.Lib in
theorem Tryd.strings_Repeat_one (s : ByteArray) (w : World) :
    Calls Tryd.prog 19 #[.string s, .int .i64 1] w fun e w' => e = .returned (.string s) ∧ w' = w := Any.strings_Repeat_one Tryd.lays105 s w
open Go.RowKit Go.Lib in
/-- Copies of the empty string. (LAID: no walk: one application.) -/
theorem Tryd.strings_Repeat_empty (s : ByteArray) (c : Nat) (w : World) (hc2 : 2 ≤ c) (hc : c ≤ 9223372036854775807) (h0 : s.size = 0) :
    Calls Tryd.prog 19 #[.string s, .int .i64 c] w fun e w' => e = .returned (.string ⟨#[]⟩) ∧ w' = w := Any.strings_Repeat_empty Tryd.lays105 s c w hc2 hc h0
open Go.RowKit Go.Lib in
/-- count < 0: "It panics if count is negative". (LAID: no walk: one application.) -/
theorem Tryd.strings_Repeat_negative (s : ByteArray) (c : Int) (w : World) (hc : c < 0) :
    Calls Tryd.prog 19 #[.string s, .int .i64 c] w fun e w' => e = .panicked [{ v := repeatPanic Tryd.lays105_ren "strings: negative Repeat count", recovered := false }] ∧ w' = w := Any.strings_Repeat_negative Tryd.lays105 s c w hc
open Go.RowKit Go.Lib in
/-- len(s) * count is no int: ".. or if the result of (len(s) * count) overflows". (LAID: no walk: one application.) -/
theorem Tryd.strings_Repeat_overflow (s : ByteArray) (c : Nat) (w : World) (hc : c ≤ 9223372036854775807) (hs : s.size ≤ 9223372036854775807) (hbig : 9223372036854775807 < s.size * c) :
    Calls Tryd.prog 19 #[.string s, .int .i64 c] w fun e w' => e = .panicked [{ v := repeatPanic Tryd.lays105_ren "strings: Repeat output length overflow", recovered := false }] ∧ w' = w := Any.strings_Repeat_overflow Tryd.lays105 s c w hc hs hbig
open Go.RowKit Go.Lib in
/-- **strings.Repeat: count ≥ 0, the result within one allocation: count copies of s.** (LAID: no walk: one application.) -/
theorem Tryd.strings_Repeat (s : ByteArray) (c : Nat) (w : World) (hc : c ≤ 9223372036854775807) (hlen : s.size * c ≤ 140737488355328) :
    Calls Tryd.prog 19 #[.string s, .int .i64 c] w fun e w' => e = .returned (.string ⟨(Lib.repeatL s.data.toList c).toArray⟩) ∧ Below w.heap.size w w' := Any.strings_Repeat Tryd.lays105 Tryd.Builder_Extra_105 s c w hc hlen
def Tryd.laysSlE041_f26_ren : Go.Shelf.Ren := ⟨fun | 41 => 26 | n => n, fun | 22 => 31 | 23 => 27 | 4 => 4 | n => n, fun | n => n⟩
theorem Tryd.laysSlE041_f26 : Go.Proofs.SlLaysE0.n41 Tryd.prog Tryd.laysSlE041_f26_ren := {
  mixed := by kernel_rfl
  f41 := ⟨Tryd.f26.name, by decide, Tryd.func26.trans (congrArg some (by kernel_rfl))⟩
  t4 := Tryd.underlying4
  a4 := Tryd.isAgg4
  z4 := Tryd.sizeOf4
  v4 := Tryd.zeroValue4
  t22 := Tryd.underlying31
  a22 := Tryd.isAgg31
  z22 := Tryd.sizeOf31
  v22 := Tryd.zeroValue31 }
open Go.RowKit Go.Lib in
/-- slices.Clone: "Clone returns a copy of the slice. The elements are copied using assignment, so this is a shallow clone. The result may have additional unused capacity. The result preserves the nilness of s.": OF A SLICE THAT IS NOT nil IT RETURNS A SLICE THAT IS NOT nil, OF THE SAME CELLS, IN MEMORY OF THE CALL's OWN ('ownsRow': the how-to's 6f); below the heap's size at the call all is as it was. (LAID AT THE INSTANCE 'slices.Clone[[]uint32,uint32]': no walk: one application.) -/
theorem Tryd.slices_Clone (i0 : TypeInfo) (z : Value) (size bytes : Nat) (hi : Tryd.prog.info? 27 = some i0) (hz0 : i0.zero = some z) (hz1 : i0.size = size) (hz2 : i0.bytes = bytes) (hzs : z.cells.size = size) (hsz : 0 < size) (z23 : ∀ w, (Go.sizeOf 27).run Tryd.prog w = .ok size w) (b off n c : Nat) (news : List Value) (w : World) (hl : news.length = n * size) (hn : n ≤ maxLen) (hbig : n * bytes ≤ 140737488355328) (hc : ∀ j u, news[j]? = some u → w.cell? ⟨b, off + j, none⟩ = some u) (h1 : ∀ u ∈ news, u.oneCell' = true) :
    Calls Tryd.prog 26 #[.slice (some ⟨b, off, none⟩) n c] w fun e w' => ∃ v', e = .returned v' ∧ w'.ownsRow w.heap.size 27 size v' n news ∧ v' ≠ .slice none 0 0 ∧ Below w.heap.size w w' := AnyE.slices_Clone Tryd.laysSlE041_f26 i0 z size bytes hi hz0 hz1 hz2 hzs hsz z23 b off n c news w hl hn hbig hc h1
open Go.RowKit Go.Lib in
/-- The same at nil: nil comes back; the world is as it was; nothing is asked of the element's type. (LAID AT THE INSTANCE 'slices.Clone[[]uint32,uint32]': no walk: one application.) -/
theorem Tryd.slices_Clone_nil (n c : Nat) (w : World) :
    Calls Tryd.prog 26 #[.slice none n c] w fun e w' => e = .returned (.slice none 0 0) ∧ w' = w := AnyE.slices_Clone_nil Tryd.laysSlE041_f26 n c w
end Go.Proofs
/- The library's Builder: what is written stands behind what was written. -/
namespace Go.Proofs.YtlaemmplemngmaaDoor.bld
open Go.ChangeShapes Go.WideShapes Go.ChangeAt Go.RowKit kit
set_option maxRecDepth 100000

theorem infoB : (Tryd.prog.info? 45).map (·.size) = some 2 := by kernel_rfl
theorem infoU8 : (Tryd.prog.info? 5).map (fun i => (i.zero, i.size, i.bytes)) = some (some (.int .u8 0), 1, 1) := by kernel_rfl
theorem liesB : liesAt Tryd.prog Tryd.prog.depth 45 (2 / Tryd.prog.cellsOf 45) 0 45 1 = true := by kernel_rfl

/-- A builder of the call's own. -/
abbrev IsB (B b : Nat) (bs : List Value) (w : World) : Prop := Lib.IsBuilder 45 5 B b bs w
abbrev UsedB (B b : Nat) (bs : List Value) (w : World) : Prop := Lib.BuilderAt 45 5 B b (.pointer (some ⟨b, 0, none⟩)) bs w

theorem check_used (b : Nat) (w : World) (h0 : w.cell? ⟨b, 0, none⟩ = some (.pointer (some ⟨b, 0, none⟩))) :
    Calls Tryd.prog 31 #[.pointer (some ⟨b, 0, none⟩)] w fun e w' => e = .returned (.tuple #[]) ∧ w' = w := by
  obtain ⟨j, hj, _⟩ := Option.map_eq_some_iff.1 infoB
  go_enter Tryd.func31, Tryd.ntmps31
  go_wp2
  rw [Lib.run_neq_ptr_same w _ Tryd.underlying42 hj]
  go_wp2
  go_end0
  exact ⟨rfl, rfl⟩

theorem check_new (b : Nat) (w : World) (h0 : w.cell? ⟨b, 0, none⟩ = some (.pointer none)) (hsh : w.shape? b = some (45, 2)) (hfz : w.frozen? ⟨b, 0, none⟩ = false) :
    Calls Tryd.prog 31 #[.pointer (some ⟨b, 0, none⟩)] w fun e w' => e = .returned (.tuple #[]) ∧ w' = w.setCell ⟨b, 0, none⟩ (.pointer (some ⟨b, 0, none⟩)) := by
  obtain ⟨j, hj, hjs⟩ := Option.map_eq_some_iff.1 infoB
  have step1 := Lib.run_to_unsafe w ⟨b, 0, none⟩ Tryd.underlying42 Tryd.underlying91 hj (by rw [hjs]; decide) hsh (Nat.zero_lt_succ 1)
  have step3 := Lib.run_from_unsafe w ⟨b, 0, none⟩ Tryd.underlying91 Tryd.underlying42 hj hsh liesB
  clear hj hjs
  go_enter Tryd.func31, Tryd.ntmps31
  go_wp2
  rw [run_callFunc_extern Tryd.func53 (by kernel_rfl) (by kernel_rfl) (by kernel_rfl) (e := Extern.AbiNoEscape.same) (by kernel_rfl), Lib.run_noEscape]
  simp only [Result.andThen]
  rw [Oper.upon_value]
  go_wp2
  go_end0
  exact ⟨rfl, rfl⟩

theorem check_any (B b : Nat) (bs : List Value) (w : World) (h : IsB B b bs w) :
    Calls Tryd.prog 31 #[.pointer (some ⟨b, 0, none⟩)] w fun e w' => e = .returned (.tuple #[]) ∧ UsedB B b bs w' ∧ Below B w w' := by
  rcases h with h | h
  · refine (check_new b w h.cell0 h.shape h.frozen0).mono ?_
    rintro e w' ⟨rfl, rfl⟩
    exact ⟨rfl, h.used _, (Below.refl B w).setCell (p := ⟨b, 0, none⟩) h.1 _⟩
  · refine (check_used b w h.cell0).mono ?_
    rintro e w' ⟨rfl, rfl⟩
    exact ⟨rfl, h, Below.refl B _⟩

set_option maxHeartbeats 2000000 in
theorem write_any (B b : Nat) (bs : List Value) (s : ByteArray) (w : World) (h : IsB B b bs w) (hlen : bs.length + s.size ≤ 100000000) (hB : B ≤ w.heap.size) :
    Calls Tryd.prog 17 #[.pointer (some ⟨b, 0, none⟩), .string s] w fun e w' => e = .returned (.tuple #[.int .i64 s.size, .nilIface]) ∧ UsedB B b (bs ++ Lib.strCells s) w' ∧ Below B w w' := by
  obtain ⟨i0, hi, hz0, hz1, hz2⟩ := info_parts infoU8
  go_enter Tryd.func17, Tryd.ntmps17
  go_wp2_with (go_at_call 31; refine (check_any B b bs _ h).mono ?_)
  rintro e w1 ⟨rfl, hu, hb1⟩
  obtain ⟨hBb, v, hbk, hown, hne⟩ := hu
  have c0 : w1.cell? ⟨b, 0, none⟩ = some (.pointer (some ⟨b, 0, none⟩)) := by rw [Lib.cell_of_heap hbk]; rfl
  have c1 : w1.cell? ⟨b, 1, none⟩ = some v := by rw [Lib.cell_of_heap hbk]; rfl
  have K : Blk w1 b 45 #[.pointer (some ⟨b, 0, none⟩), v] := hbk
  have C := fun i => K.cell i
  have hszB : B ≤ w1.heap.size := Nat.le_trans hB hb1.size
  go_wp2_with (at_builtin; go_must (refine Lib.wpList_append_own_string _ rfl _ _ 43 9 rfl B 5 i0 Tryd.underlying43 Tryd.underlying9 hi hz0 hz1 hz2 _ _ _ rfl hown s rfl ?c3 ?c4 ?c5 ?_))
  case c3 => unfold maxLen; omega
  case c4 => omega
  case c5 => exact hszB
  intro v' w2 hown' hgrow _
  have K2 : Blk w2 b 45 #[.pointer (some ⟨b, 0, none⟩), v] := (hgrow.block b K.lt (fun e => hne e.symm)).trans K
  have C2 := fun i => K2.cell i
  have d0 := C2 0
  have d1 := C2 1
  have f1 : w2.frozen? ⟨b, 1, none⟩ = false := K2.frozen 1
  obtain ⟨ao, n', cap, rfl⟩ : ∃ ao n' cap, v' = .slice ao n' cap := by
    rcases hown'.2 with ⟨hv, _⟩ | ⟨g, cap, cur, hv, _⟩
    · exact ⟨_, _, _, hv⟩
    · exact ⟨_, _, _, hv⟩
  have HO := Lib.hid hown'
  clear hown'
  go_wp2_with fail
  go_ret2
  exact ⟨rfl, Lib.BuilderAt.put (T := 45) (e := 5) hBb K2 (bs' := bs ++ Lib.strCells s) (by simpa [Lib.strCells_length] using HO.out) (by decide), (hb1.grown hgrow hszB (fun k hk => (hown.lt k hk).1)).setCell (p := ⟨b, 1, none⟩) hBb _⟩
end Go.Proofs.YtlaemmplemngmaaDoor.bld
/- Layer 3's numbers as bytes, each by a contract. -/
namespace Go.Proofs.YtlaemmplemngmaaDoor.oct
open Go.ChangeShapes Go.WideShapes Go.ChangeAt Go.RowKit kit

/-- A number's lowest k bytes, the highest first. -/
def be (n : Int) : Nat → List Int
  | 0 => []
  | k + 1 => be (n / 256) k ++ [n % 256]

set_option maxRecDepth 100000 in
theorem bytes1 (n : Int) (w : World) (h0 : 0 ≤ n) (h1 : n ≤ 18446744073709551615) : Calls Tryd.prog 52 #[.int .u64 n, .int .i64 1] w fun e w' => e = .returned (.string (strOfNums (be n 1))) ∧ Below w.heap.size w w' := by
  go_enter Tryd.func52, Tryd.ntmps52
  go_wp2
  refine wp_loop_rounds 2 ?_
  iterate 2 (rw [rounds_succ]; go_wp2)
  rw [conv_blk Tryd.underlying43 Tryd.underlying5 Tryd.underlying9 (Blk.new _ _ _) 1 8 [n % 256] rfl (fun i hi => by have := Nat.lt_one_iff.1 hi; subst this; rfl)]
  go_wp2
  go_ret
  exact ⟨rfl, (Below.refl _ _).alloc (Nat.le_refl _) _⟩
set_option maxRecDepth 100000 in
theorem bytes2 (n : Int) (w : World) (h0 : 0 ≤ n) (h1 : n ≤ 18446744073709551615) : Calls Tryd.prog 52 #[.int .u64 n, .int .i64 2] w fun e w' => e = .returned (.string (strOfNums (be n 2))) ∧ Below w.heap.size w w' := by
  go_enter Tryd.func52, Tryd.ntmps52
  go_wp2
  refine wp_loop_rounds 3 ?_
  iterate 3 (rw [rounds_succ]; go_wp2)
  rw [conv_blk Tryd.underlying43 Tryd.underlying5 Tryd.underlying9 (Blk.new _ _ _) 2 8 [n / 256 % 256, n % 256] rfl (fun i hi => by rcases (by omega : i = 0 ∨ i = 1) with rfl | rfl <;> rfl)]
  go_wp2
  go_ret
  exact ⟨rfl, (Below.refl _ _).alloc (Nat.le_refl _) _⟩
set_option maxRecDepth 100000 in
set_option maxHeartbeats 400000 in
theorem bytes4 (n : Int) (w : World) (h0 : 0 ≤ n) (h1 : n ≤ 18446744073709551615) : Calls Tryd.prog 52 #[.int .u64 n, .int .i64 4] w fun e w' => e = .returned (.string (strOfNums (be n 4))) ∧ Below w.heap.size w w' := by
  go_enter Tryd.func52, Tryd.ntmps52
  go_wp2
  refine wp_loop_rounds 5 ?_
  iterate 5 (rw [rounds_succ]; go_wp2)
  rw [conv_blk Tryd.underlying43 Tryd.underlying5 Tryd.underlying9 (Blk.new _ _ _) 4 8 [n / 16777216 % 256, n / 65536 % 256, n / 256 % 256, n % 256] rfl (fun i hi => by rcases (by omega : i = 0 ∨ i = 1 ∨ i = 2 ∨ i = 3) with rfl | rfl | rfl | rfl <;> rfl)]
  go_wp2
  go_ret
  have e : be n 4 = [n / 16777216 % 256, n / 65536 % 256, n / 256 % 256, n % 256] := by
    simp only [be, List.nil_append, List.cons_append, List.cons.injEq, and_true]
    omega
  rw [e]
  exact ⟨rfl, (Below.refl _ _).alloc (Nat.le_refl _) _⟩
set_option maxRecDepth 100000 in
set_option maxHeartbeats 1000000 in
theorem bytes8 (n : Int) (w : World) (h0 : 0 ≤ n) (h1 : n ≤ 18446744073709551615) : Calls Tryd.prog 52 #[.int .u64 n, .int .i64 8] w fun e w' => e = .returned (.string (strOfNums (be n 8))) ∧ Below w.heap.size w w' := by
  go_enter Tryd.func52, Tryd.ntmps52
  go_wp2
  refine wp_loop_rounds 9 ?_
  iterate 9 (rw [rounds_succ]; go_wp2)
  rw [conv_blk Tryd.underlying43 Tryd.underlying5 Tryd.underlying9 (Blk.new _ _ _) 8 8 [n / 72057594037927936, n / 281474976710656 % 256, n / 1099511627776 % 256, n / 4294967296 % 256, n / 16777216 % 256, n / 65536 % 256, n / 256 % 256, n % 256] rfl (fun i hi => by rcases (by omega : i = 0 ∨ i = 1 ∨ i = 2 ∨ i = 3 ∨ i = 4 ∨ i = 5 ∨ i = 6 ∨ i = 7) with rfl | rfl | rfl | rfl | rfl | rfl | rfl | rfl <;> rfl)]
  go_wp2
  go_ret
  have e : be n 8 = [n / 72057594037927936, n / 281474976710656 % 256, n / 1099511627776 % 256, n / 4294967296 % 256, n / 16777216 % 256, n / 65536 % 256, n / 256 % 256, n % 256] := by
    simp only [be, List.nil_append, List.cons_append, List.cons.injEq, and_true]
    omega
  rw [e]
  exact ⟨rfl, (Below.refl _ _).alloc (Nat.le_refl _) _⟩

theorem u8_any (n : Int) (w : World) (h0 : 0 ≤ n) (h1 : n ≤ 9223372036854775807) : Calls Tryd.prog 34 #[.int .i64 n] w fun e w' => e = .returned (.string (strOfNums (be n 1))) ∧ Below w.heap.size w w' := by
  go_enter Tryd.func34, Tryd.ntmps34
  go_wp2_with (go_at_call 52; refine (bytes1 _ _ (by omega) (by omega)).mono ?_; rintro e w1 ⟨rfl, hb⟩)
  go_ret
  exact ⟨rfl, hb⟩
theorem u16_any (n : Int) (w : World) (h0 : 0 ≤ n) (h1 : n ≤ 9223372036854775807) : Calls Tryd.prog 35 #[.int .i64 n] w fun e w' => e = .returned (.string (strOfNums (be n 2))) ∧ Below w.heap.size w w' := by
  go_enter Tryd.func35, Tryd.ntmps35
  go_wp2_with (go_at_call 52; refine (bytes2 _ _ (by omega) (by omega)).mono ?_; rintro e w1 ⟨rfl, hb⟩)
  go_ret
  exact ⟨rfl, hb⟩
theorem u32_any (n : Int) (w : World) (h0 : 0 ≤ n) (h1 : n ≤ 4294967295) : Calls Tryd.prog 30 #[.int .u32 n] w fun e w' => e = .returned (.string (strOfNums (be n 4))) ∧ Below w.heap.size w w' := by
  go_enter Tryd.func30, Tryd.ntmps30
  go_wp2_with (go_at_call 52; refine (bytes4 _ _ (by omega) (by omega)).mono ?_; rintro e w1 ⟨rfl, hb⟩)
  go_ret
  exact ⟨rfl, hb⟩
theorem pad_any (n : Int) (w : World) (h0 : 0 ≤ n) (h1 : n ≤ 9223372036854775807) : Calls Tryd.prog 59 #[.int .i64 n] w fun e w' => e = .returned (.int .i64 (-n % 4)) ∧ w = w' := by
  have e1 : bits .and .i64 (-n) 3 = -n % 4 := i64_mask (-n) 2 (by omega)
  go_enter Tryd.func59, Tryd.ntmps59
  go_wp2
  go_ret
  exact ⟨rfl, rfl⟩
end Go.Proofs.YtlaemmplemngmaaDoor.oct
/- Layer 3's filling up, and its reader, each by a contract. -/
namespace Go.Proofs.YtlaemmplemngmaaDoor.oct
open Go.ChangeShapes Go.WideShapes Go.ChangeAt Go.RowKit kit

/-- So many noughts. -/
def zeros (n : Nat) : ByteArray := strOfNums (List.replicate n 0)
theorem zeros_size (n : Nat) : (zeros n).size = n := by unfold zeros; rw [strOfNums_size]; simp
theorem repeat_zeros : ∀ n : Nat, (⟨(Lib.repeatL [0] n).toArray⟩ : ByteArray) = zeros n := by
  intro n
  unfold zeros strOfNums
  congr 1
  rw [List.map_replicate]
  congr 1
  induction n with
  | zero => rfl
  | succ n ih => rw [Lib.repeatL, ih]; rfl

theorem noughts_any (n : Nat) (w : World) (hn : n ≤ 1000000) : Calls Tryd.prog 58 #[.int .i64 n] w fun e w' => e = .returned (.string (zeros n)) ∧ Below w.heap.size w w' := by
  have h := fun w => Tryd.strings_Repeat (strOfNums [0]) n w (by omega) (by rw [strOfNums_size]; simp; omega)
  have e0 : (strOfNums [0]).data.toList = [0] := rfl
  rw [e0, repeat_zeros] at h
  go_enter Tryd.func58, Tryd.ntmps58
  go_wp2_with (go_at_call 19; refine (h _).mono ?_; rintro e w1 ⟨rfl, hb⟩)
  go_ret
  exact ⟨rfl, hb⟩

/-- Filled up. -/
def filled (s : ByteArray) : ByteArray := s ++ zeros (-(s.size : Int) % 4).toNat

theorem filled_any (s : ByteArray) (w : World) (hs : s.size ≤ 1000000) : Calls Tryd.prog 33 #[.string s] w fun e w' => e = .returned (.string (filled s)) ∧ Below w.heap.size w w' := by
  obtain ⟨k, hk⟩ : ∃ k : Nat, (k : Int) = -(s.size : Int) % 4 := ⟨(-(s.size : Int) % 4).toNat, by omega⟩
  have ef : filled s = s ++ zeros k := by unfold filled; rw [← hk]; rfl
  rw [ef]
  have hp := fun w => pad_any (s.size : Int) w (by omega) (by omega)
  rw [← hk] at hp
  have hk4 : k < 4 := by omega
  clear ef hk
  have hz := zeros_size k
  go_enter Tryd.func33, Tryd.ntmps33
  go_wp2_with (first | (go_at_call 59; refine (hp _).mono ?_; rintro e w' ⟨rfl, rfl⟩) | (go_at_call 58; refine (noughts_any _ _ (by omega)).mono ?_; rintro e w1 ⟨rfl, hb⟩))
  go_ret
  exact ⟨rfl, hb⟩

theorem new_any (s : ByteArray) (w : World) : Calls Tryd.prog 50 #[.string s] w fun e w' => e = .returned (.pointer (some ⟨w.heap.size, 0, none⟩)) ∧ w' = w.alloc (.cells #[.string s, .int .i64 0] 109) := by
  go_enter Tryd.func50, Tryd.ntmps50
  go_wp2
  go_ret
  exact ⟨rfl, rfl⟩

/-- Nothing but block g (of those that were there) has turned. -/
structure Touch (g : Nat) (w w' : World) : Prop where
  os : w'.os = w.os
  tape : w'.tape = w.tape
  output : w'.output = w.output
  size : w.heap.size ≤ w'.heap.size
  block : ∀ k, k < w.heap.size → k ≠ g → w'.heap[k]? = w.heap[k]?
theorem Touch.refl (g : Nat) (w : World) : Touch g w w := ⟨rfl, rfl, rfl, Nat.le_refl _, fun _ _ _ => rfl⟩
theorem Touch.trans {g : Nat} {a b c : World} (h : Touch g a b) (k : Touch g b c) : Touch g a c :=
  ⟨k.os.trans h.os, k.tape.trans h.tape, k.output.trans h.output, Nat.le_trans h.size k.size, fun i hi hg => (k.block i (Nat.lt_of_lt_of_le hi h.size) hg).trans (h.block i hi hg)⟩
theorem Touch.of_below {g : Nat} {a b : World} (h : Below a.heap.size a b) : Touch g a b := ⟨h.os, h.tape, h.output, h.size, fun k hk _ => h.block k hk⟩
theorem Touch.set_ (g : Nat) (w : World) (i : Nat) (u : Value) : Touch g w (w.setCell ⟨g, i, none⟩ u) :=
  ⟨rfl, rfl, rfl, by simp [World.setCell], fun k _ hg => Below.heap_setCell _ _ _ _ (by simpa using hg)⟩
theorem Touch.below {g B : Nat} {a w w' : World} (hb : Below B a w) (h : Touch g w w') (hB : B ≤ g) (hw : B ≤ w.heap.size) : Below B a w' :=
  hb.trans ⟨h.os, h.tape, h.output, h.size, fun k hk => h.block k (by omega) (by omega)⟩
theorem Touch.blk {g k : Nat} {w w' : World} {t : TypeId} {cs : Array Value} (h : Touch g w w') (b : Blk w k t cs) (hk : k ≠ g) : Blk w' k t cs := (h.block k b.lt hk).trans b

/-- A reader: what is left, the first error. -/
def RD (w : World) (g : Nat) (l : ByteArray) (e : Int) : Prop := Blk w g 109 #[.string l, .int .i64 e]
theorem RD.set2 {w : World} {g : Nat} {l : ByteArray} {e : Int} (h : RD w g l e) (l' : ByteArray) (e' : Int) : RD ((w.setCell ⟨g, 1, none⟩ (.int .i64 e')).setCell ⟨g, 0, none⟩ (.string l')) g l' e' := by
  have := (Blk.set_ h 1 (.int .i64 e')).set_ 0 (.string l')
  unfold RD
  simpa using this
theorem RD.set1 {w : World} {g : Nat} {l : ByteArray} {e : Int} (h : RD w g l e) (l' : ByteArray) : RD (w.setCell ⟨g, 0, none⟩ (.string l')) g l' e := by
  have := Blk.set_ h 0 (.string l')
  unfold RD
  simpa using this

def failL (l : ByteArray) (e0 e : Int) : ByteArray := if e0 ≠ 0 ∨ e = 0 then l else ByteArray.empty
def failE (e0 e : Int) : Int := if e0 ≠ 0 ∨ e = 0 then e0 else e

theorem fail_any (g : Nat) (l : ByteArray) (e0 e : Int) (w : World) (h : RD w g l e0) :
    Calls Tryd.prog 80 #[.pointer (some ⟨g, 0, none⟩), .int .i64 e] w fun x w' => x = .returned (.tuple #[]) ∧ RD w' g (failL l e0 e) (failE e0 e) ∧ Touch g w w' := by
  have h0 := Blk.cell h 0
  have h1 := Blk.cell h 1
  have f0 := Blk.frozen h 0
  have f1 := Blk.frozen h 1
  by_cases c : e0 ≠ 0 ∨ e = 0
  · have e1 : failL l e0 e = l := by unfold failL; rw [if_pos c]
    have e2 : failE e0 e = e0 := by unfold failE; rw [if_pos c]
    rw [e1, e2]
    by_cases c0 : e0 = 0
    · have c1 : e = 0 := by rcases c with c | c; exact absurd c0 c; exact c
      subst c0 c1
      go_enter Tryd.func80, Tryd.ntmps80
      go_wp2
      exact bodyPost_ret (v := .tuple #[]) (by simp [results, Tryd.results80, go_sem]) rfl ⟨rfl, h, Touch.refl _ _⟩
    · have c1 : (e0 != 0) = true := by simpa using c0
      go_enter Tryd.func80, Tryd.ntmps80
      go_wp2
      exact bodyPost_ret (v := .tuple #[]) (by simp [results, Tryd.results80, go_sem]) rfl ⟨rfl, h, Touch.refl _ _⟩
  · have c0 : e0 = 0 := Classical.byContradiction fun q => c (.inl q)
    have c1 : ¬ e = 0 := fun q => c (.inr q)
    have e1 : failL l e0 e = ByteArray.empty := by unfold failL; rw [if_neg c]
    have e2 : failE e0 e = e := by unfold failE; rw [if_neg c]
    rw [e1, e2]
    clear c e1 e2
    subst c0
    have c2 : (e == 0) = false := by simpa using c1
    go_enter Tryd.func80, Tryd.ntmps80
    go_wp2
    go_end0
    exact ⟨rfl, h.set2 _ _, (Touch.set_ _ _ _ _).trans (Touch.set_ _ _ _ _)⟩

theorem take_in (g : Nat) (l : ByteArray) (e0 : Int) (n : Nat) (w : World) (h : RD w g l e0) (hn : n ≤ l.size) (hl : l.size ≤ maxLen) :
    Calls Tryd.prog 79 #[.pointer (some ⟨g, 0, none⟩), .int .i64 n] w fun x w' => x = .returned (.string (l.extract 0 n)) ∧ RD w' g (l.extract n l.size) e0 ∧ Touch g w w' := by
  unfold maxLen at hl
  have h0 := Blk.cell h 0
  have f0 := Blk.frozen h 0
  go_enter Tryd.func79, Tryd.ntmps79
  go_wp2
  go_ret
  exact ⟨rfl, h.set1 _, Touch.set_ _ _ _ _⟩
theorem take_out (g : Nat) (l : ByteArray) (e0 : Int) (n : Int) (w : World) (h : RD w g l e0) (hn : n < 0 ∨ l.size < n) (hl : l.size ≤ maxLen) :
    Calls Tryd.prog 79 #[.pointer (some ⟨g, 0, none⟩), .int .i64 n] w fun x w' => x = .returned (.string ByteArray.empty) ∧ RD w' g (failL l e0 2) (failE e0 2) ∧ Touch g w w' := by
  unfold maxLen at hl
  have h0 := Blk.cell h 0
  have f0 := Blk.frozen h 0
  rcases hn with hn | hn
  all_goals
    go_enter Tryd.func79, Tryd.ntmps79
    go_wp2_with (go_at_call 80; refine (fail_any g l e0 2 _ h).mono ?_; rintro e w1 ⟨rfl, hr, ht⟩)
    go_ret
    exact ⟨rfl, hr, ht⟩
end Go.Proofs.YtlaemmplemngmaaDoor.oct
/- Layer 3's reader: numbers, the rest, what fills up, the end. -/
namespace Go.Proofs.YtlaemmplemngmaaDoor.oct
open Go.ChangeShapes Go.WideShapes Go.ChangeAt Go.RowKit kit

/-- The number that bytes say. -/
def numV : List UInt8 → Nat
  | [] => 0
  | l => l.foldl (fun n b => n * 256 + b.toNat) 0
theorem numV_snoc (l : List UInt8) (b : UInt8) : numV (l ++ [b]) = numV l * 256 + b.toNat := by
  have h : ∀ l, numV l = l.foldl (fun n b => n * 256 + b.toNat) 0 := fun l => by cases l <;> rfl
  rw [h, h, List.foldl_append]; rfl
theorem numV_lt : ∀ (k : Nat) (l : List UInt8), l.length = k → numV l < 256 ^ k := by
  intro k
  induction k with
  | zero => intro l h; rw [List.length_eq_zero_iff.1 h]; simp [numV]
  | succ k ih =>
    intro l h
    obtain ⟨m, b, rfl⟩ : ∃ m b, l = m ++ [b] := by
      rcases List.eq_nil_or_concat l with rfl | ⟨m, b, rfl⟩
      · simp at h
      · exact ⟨m, b, by simp⟩
    rw [numV_snoc, Nat.pow_succ]
    have h1 := ih m (by simpa using h)
    have h2 := b.toNat_lt
    omega

theorem pow_le (i : Nat) (h : i ≤ 7) : (256 : Nat) ^ i ≤ 72057594037927936 := by
  have := Nat.pow_le_pow_right (n := 256) (by omega) h
  simpa using this
theorem or_step (n b : Nat) (hn : n < 72057594037927936) (hb : b < 256) : bits .or .u64 ((n : Int) * 256) (b : Int) = ((n * 256 + b : Nat) : Int) := by
  have h1 : (n : Int) * 256 = ((n * 256 : Nat) : Int) := by omega
  have h2 : n * 256 + b = n * 256 ||| b := by
    have := Nat.two_pow_add_eq_or_of_lt (i := 8) (b := b) (by omega) n
    rw [show (2 : Nat) ^ 8 = 256 from rfl] at this
    rw [Nat.mul_comm n 256]
    exact this
  rw [h1, h2]
  exact u64_or_nat _ _ (by omega) (by omega)

theorem len_data (l : ByteArray) : l.data.toList.length = l.size := Array.length_toList

theorem step_eq (l : ByteArray) (k i : Nat) (hk : k ≤ l.size) (hi : i < k) (hb : i < (l.extract 0 k).size) (hn : numV (l.data.toList.take i) < 72057594037927936) :
    bits .or .u64 ((numV (l.data.toList.take i) : Int) * 256) (IntKind.u64.wrap ((l.extract 0 k)[i].toNat : Int)) = ((numV (l.data.toList.take (i + 1)) : Nat) : Int) := by
  have hlt := ((l.extract 0 k)[i]).toNat_lt
  rw [IntWalk.u64_in _ (by omega), or_step _ _ hn (by omega)]
  have e1 : (l.extract 0 k)[i] = l[i]'(by omega) := by simp [ByteArray.getElem_eq_getElem_data]
  have e2 : l.data.toList.take (i + 1) = l.data.toList.take i ++ [l[i]'(by omega)] := by
    rw [List.take_succ_eq_append_getElem (by have := len_data l; omega)]
    simp [ByteArray.getElem_eq_getElem_data]
  rw [e2, numV_snoc, e1]

theorem number_in (g : Nat) (l : ByteArray) (e0 : Int) (k : Nat) (w : World) (h : RD w g l e0) (hk : k ≤ l.size) (hk8 : k ≤ 8) (hl : l.size ≤ maxLen) :
    Calls Tryd.prog 73 #[.pointer (some ⟨g, 0, none⟩), .int .i64 k] w fun x w' => x = .returned (.int .u64 (numV (l.data.toList.take k))) ∧ RD w' g (l.extract k l.size) e0 ∧ Touch g w w' := by
  have hsz : (l.extract 0 k).size = k := by simp; omega
  go_enter Tryd.func73, Tryd.ntmps73
  go_wp2_with (go_at_call 79; refine (take_in g l e0 k _ h hk hl).mono ?_; rintro e w1 ⟨rfl, hr, ht⟩)
  go_loop [6, 13] (fun nv iv => ∃ i : Nat, i ≤ k ∧ iv = .int .i64 i ∧ nv = .int .u64 (numV (l.data.toList.take i))) (fun _ iv => k - (intOf iv).toNat)
  case atStart => exact ⟨0, Nat.zero_le _, rfl, rfl⟩
  case round =>
    obtain ⟨i, hi, rfl, rfl⟩ := hrel
    by_cases hlt : i < k
    · have hb0 := numV_lt i (l.data.toList.take i) (by simp; omega)
      have hb1 := pow_le i (by omega)
      have hb2 : numV (l.data.toList.take i) < 72057594037927936 := by omega
      clear hb0 hb1
      go_wp2
      go_round
      case rel => exact ⟨i + 1, by omega, by go_num, by rw [step_eq l k i hk hlt (by omega) hb2]⟩
      case measure => simp [intOf]; omega
    · have : i = k := by omega
      subst this
      go_wp2
      go_ret
      exact ⟨rfl, hr, ht⟩

theorem number_out (g : Nat) (l : ByteArray) (e0 : Int) (k : Nat) (w : World) (h : RD w g l e0) (hk : l.size < k) (hk8 : k ≤ 8) (hl : l.size ≤ maxLen) :
    Calls Tryd.prog 73 #[.pointer (some ⟨g, 0, none⟩), .int .i64 k] w fun x w' => x = .returned (.int .u64 0) ∧ RD w' g (failL l e0 2) (failE e0 2) ∧ Touch g w w' := by
  go_enter Tryd.func73, Tryd.ntmps73
  go_wp2_with (go_at_call 79; refine (take_out g l e0 k _ h (by omega) hl).mono ?_; rintro e w1 ⟨rfl, hr, ht⟩)
  refine wp_loop_rounds 1 ?_
  rw [rounds_succ]
  go_wp2
  go_ret
  exact ⟨rfl, hr, ht⟩

/-- What is read of a reader, as a number of k bytes: it, what is left, the error. -/
def rdN (l : ByteArray) (k : Nat) : Nat := if k ≤ l.size then numV (l.data.toList.take k) else 0
def rdL (l : ByteArray) (e0 : Int) (k : Nat) : ByteArray := if k ≤ l.size then l.extract k l.size else failL l e0 2
def rdE (l : ByteArray) (e0 : Int) (k : Nat) : Int := if k ≤ l.size then e0 else failE e0 2
theorem rdN_lt (l : ByteArray) (k : Nat) (hk : k ≤ 8) : rdN l k < 256 ^ k := by
  unfold rdN; split
  · exact numV_lt k _ (by have := len_data l; simp; omega)
  · exact Nat.pow_pos (by omega)

theorem number_any (g : Nat) (l : ByteArray) (e0 : Int) (k : Nat) (w : World) (h : RD w g l e0) (hk8 : k ≤ 8) (hl : l.size ≤ maxLen) :
    Calls Tryd.prog 73 #[.pointer (some ⟨g, 0, none⟩), .int .i64 k] w fun x w' => x = .returned (.int .u64 (rdN l k)) ∧ RD w' g (rdL l e0 k) (rdE l e0 k) ∧ Touch g w w' := by
  unfold rdN rdL rdE
  by_cases c : k ≤ l.size
  · rw [if_pos c, if_pos c, if_pos c]; exact number_in g l e0 k w h c hk8 hl
  · rw [if_neg c, if_neg c, if_neg c]; exact number_out g l e0 k w h (by omega) hk8 hl

theorem r32_any (g : Nat) (l : ByteArray) (e0 : Int) (w : World) (h : RD w g l e0) (hl : l.size ≤ maxLen) :
    Calls Tryd.prog 51 #[.pointer (some ⟨g, 0, none⟩)] w fun x w' => x = .returned (.int .u32 (rdN l 4)) ∧ RD w' g (rdL l e0 4) (rdE l e0 4) ∧ Touch g w w' := by
  have hb := rdN_lt l 4 (by omega)
  go_enter Tryd.func51, Tryd.ntmps51
  go_wp2_with (go_at_call 73; refine (number_any g l e0 4 _ h (by omega) hl).mono ?_; rintro e w1 ⟨rfl, hr, ht⟩)
  go_ret
  exact ⟨rfl, hr, ht⟩
end Go.Proofs.YtlaemmplemngmaaDoor.oct
/- Layer 3's reader: eight bytes, the rest, what fills up, the end; no reader. -/
namespace Go.Proofs.YtlaemmplemngmaaDoor.oct
open Go.ChangeShapes Go.WideShapes Go.ChangeAt Go.RowKit kit

theorem take_any (g : Nat) (l : ByteArray) (e0 : Int) (n : Int) (w : World) (h : RD w g l e0) (hl : l.size ≤ maxLen) :
    Calls Tryd.prog 79 #[.pointer (some ⟨g, 0, none⟩), .int .i64 n] w fun x w' => x = .returned (.string (if 0 ≤ n ∧ n ≤ l.size then l.extract 0 n.toNat else ByteArray.empty)) ∧ RD w' g (if 0 ≤ n ∧ n ≤ l.size then l.extract n.toNat l.size else failL l e0 2) (if 0 ≤ n ∧ n ≤ l.size then e0 else failE e0 2) ∧ Touch g w w' := by
  by_cases c : 0 ≤ n ∧ n ≤ l.size
  · rw [if_pos c, if_pos c, if_pos c]
    obtain ⟨m, rfl⟩ : ∃ m : Nat, n = m := ⟨n.toNat, by omega⟩
    exact take_in g l e0 m w h (by omega) hl
  · rw [if_neg c, if_neg c, if_neg c]
    exact take_out g l e0 n w h (by omega) hl

theorem str_ne {a b : ByteArray} (h : ¬ a = b) : (a.toList == b.toList) = false := by
  rw [beq_eq_false_iff_ne]
  intro q
  rw [Lib.toList_data, Lib.toList_data] at q
  exact h (by rw [← Lib.mk_data a, ← Lib.mk_data b, q])
/-- How many bytes are taken to fill up. -/
def fk (l : ByteArray) (n : Int) : Nat := min (-n % 4).toNat l.size
def fillL (l : ByteArray) (e0 n : Int) : ByteArray := if l.extract 0 (fk l n) = zeros (fk l n) then l.extract (fk l n) l.size else failL (l.extract (fk l n) l.size) e0 4
def fillE (l : ByteArray) (e0 n : Int) : Int := if l.extract 0 (fk l n) = zeros (fk l n) then e0 else failE e0 4

def endE (l : ByteArray) (e0 : Int) : Int := if e0 = 0 ∧ 0 < l.size then 3 else e0
end Go.Proofs.YtlaemmplemngmaaDoor.oct
/- Small words of layer 3 that later layers use. -/
namespace Go.Proofs.YtlaemmplemngmaaDoor.oct
open Go.ChangeShapes Go.WideShapes Go.ChangeAt Go.RowKit kit

theorem u64_mask (x : Int) (k : Nat) (hk : k < 63) : bits .and .u64 x ((2 ^ k - 1 : Nat) : Int) = x % (2 ^ k : Nat) := by
  have e : bits .and .i64 x ((2 ^ k - 1 : Nat) : Int) = x % (2 ^ k : Nat) := i64_mask x k hk
  have h : bits .and .u64 x ((2 ^ k - 1 : Nat) : Int) = IntKind.u64.wrap ((BitVec.ofInt 64 x &&& BitVec.ofInt 64 ((2 ^ k - 1 : Nat) : Int)).toNat : Int) := rfl
  have h' : bits .and .i64 x ((2 ^ k - 1 : Nat) : Int) = IntKind.i64.wrap ((BitVec.ofInt 64 x &&& BitVec.ofInt 64 ((2 ^ k - 1 : Nat) : Int)).toNat : Int) := rfl
  rw [h'] at e
  rw [h]
  have hp : 0 < 2 ^ k := Nat.two_pow_pos k
  have h1 : 2 ^ k ≤ 2 ^ 62 := Nat.pow_le_pow_right (by omega) (by omega)
  have hlt := (BitVec.ofInt 64 x &&& BitVec.ofInt 64 ((2 ^ k - 1 : Nat) : Int)).isLt
  have h3 := Int.emod_nonneg x (b := ((2 ^ k : Nat) : Int)) (by omega)
  have h4 := Int.emod_lt_of_pos x (b := ((2 ^ k : Nat) : Int)) (by omega)
  rw [IntKind.wrap_i64] at e
  rw [IntKind.wrap_u64]
  generalize (BitVec.ofInt 64 x &&& BitVec.ofInt 64 ((2 ^ k - 1 : Nat) : Int)).toNat = m at *
  generalize x % ((2 ^ k : Nat) : Int) = r at *
  omega

theorem RD.fresh (w : World) (l : ByteArray) (e : Int) : RD (w.alloc (.cells #[.string l, .int .i64 e] 109)) w.heap.size l e := Blk.new w _ _
/-- What a new reader reads turns nothing that was there. -/
theorem Touch.fresh {w w' : World} {b : Obj} (h : Touch w.heap.size (w.alloc b) w') : Below w.heap.size w w' :=
  h.below ((Below.refl _ _).alloc (Nat.le_refl _) _) (Nat.le_refl _) (by simp)

def p1 (n : Int) : ByteArray := strOfNums (be n 1)
def p2 (n : Int) : ByteArray := strOfNums (be n 2)
def p4 (n : Int) : ByteArray := strOfNums (be n 4)
def p8 (n : Int) : ByteArray := strOfNums (be n 8)

theorem p2_size (n : Int) : (p2 n).size = 2 := by unfold p2; rw [strOfNums_size]; rfl
theorem p4_size (n : Int) : (p4 n).size = 4 := by unfold p4; rw [strOfNums_size]; rfl
theorem u16_p (n : Int) (w : World) (h0 : 0 ≤ n) (h1 : n ≤ 9223372036854775807) : Calls Tryd.prog 35 #[.int .i64 n] w fun e w' => e = .returned (.string (p2 n)) ∧ Below w.heap.size w w' := u16_any n w h0 h1
theorem u32_p (n : Int) (w : World) (h0 : 0 ≤ n) (h1 : n ≤ 4294967295) : Calls Tryd.prog 30 #[.int .u32 n] w fun e w' => e = .returned (.string (p4 n)) ∧ Below w.heap.size w w' := u32_any n w h0 h1
end Go.Proofs.YtlaemmplemngmaaDoor.oct
/- The document's own numbers as bytes, each function by a contract. -/
namespace Go.Proofs.YtlaemmplemngmaaDoor.oct
open Go.ChangeShapes Go.WideShapes Go.ChangeAt Go.RowKit kit

theorem be_length : ∀ (k : Nat) (n : Int), (be n k).length = k := by
  intro k
  induction k with
  | zero => intro n; rfl
  | succ k ih => intro n; simp [be, ih]

end Go.Proofs.YtlaemmplemngmaaDoor.oct
/- The document's own reader, each function by a contract. -/
namespace Go.Proofs.YtlaemmplemngmaaDoor.oct
open Go.ChangeShapes Go.WideShapes Go.ChangeAt Go.RowKit kit

def rfS (S : ByteArray) (e : Int) : ByteArray := if e = 0 then ByteArray.empty else S
def rfE (e x : Int) : Int := if e = 0 then x else e

def tkS (S : ByteArray) (e n : Int) : ByteArray := if e ≠ 0 then S else if 0 ≤ n ∧ n ≤ S.size then S.extract n.toNat S.size else ByteArray.empty
def tkE (S : ByteArray) (e n : Int) : Int := if e ≠ 0 then e else if 0 ≤ n ∧ n ≤ S.size then 0 else 2
def tkR (S : ByteArray) (e n : Int) : ByteArray := if e ≠ 0 then ByteArray.empty else if 0 ≤ n ∧ n ≤ S.size then S.extract 0 n.toNat else ByteArray.empty

end Go.Proofs.YtlaemmplemngmaaDoor.oct
/- The document's filling up, and the statement on it. -/
namespace Go.Proofs.YtlaemmplemngmaaDoor.oct
open Go.ChangeShapes Go.WideShapes Go.ChangeAt Go.RowKit kit

def strLen : Value → Nat
  | .string s => s.size
  | _ => 0
theorem zeros_snoc (s : ByteArray) (k : Nat) : s ++ zeros k ++ (⟨#[0]⟩ : ByteArray) = s ++ zeros (k + 1) := by
  apply ByteArray.ext
  unfold zeros strOfNums
  apply Array.toList_inj.mp
  simp [List.replicate_succ']

end Go.Proofs.YtlaemmplemngmaaDoor.oct
/- Layer 4: a parameter's bytes, an address; each by a contract. -/
namespace Go.Proofs.YtlaemmplemngmaaDoor.par
open Go.ChangeShapes Go.WideShapes Go.ChangeAt Go.RowKit kit oct
set_option maxRecDepth 100000

/-- May a parameter be? -/
def mayP (t : Int) (s : ByteArray) : Bool := decide (0 ≤ t ∧ t ≤ 65535 ∧ s.size ≤ 1000)
theorem mayP_yes {t : Int} {s : ByteArray} (a : 0 ≤ t) (b : t ≤ 65535) (c : s.size ≤ 1000) : mayP t s = true := by unfold mayP; simp [a, b, c]
theorem mayP_no {t : Int} {s : ByteArray} (h : ¬ (0 ≤ t ∧ t ≤ 65535 ∧ s.size ≤ 1000)) : mayP t s = false := by unfold mayP; simpa using h

theorem may_any (t : Int) (s : ByteArray) (w : World) : Calls Tryd.prog 69 #[.agg #[.int .i64 t, .string s]] w fun e w' => e = .returned (.bool (mayP t s)) ∧ Below w.heap.size w w' := by
  rcases (by omega : t < 0 ∨ 65535 < t ∨ (0 ≤ t ∧ t ≤ 65535)) with h | h | ⟨h1, h2⟩
  · rw [mayP_no (by omega)]
    go_enter Tryd.func69, Tryd.ntmps69
    go_wp2
    go_ret
    exact ⟨rfl, (Below.refl _ _).alloc (Nat.le_refl _) _⟩
  · rw [mayP_no (by omega)]
    go_enter Tryd.func69, Tryd.ntmps69
    go_wp2
    go_ret
    exact ⟨rfl, (Below.refl _ _).alloc (Nat.le_refl _) _⟩
  · by_cases h3 : s.size ≤ 1000
    · rw [mayP_yes h1 h2 h3]
      go_enter Tryd.func69, Tryd.ntmps69
      go_wp2
      go_ret
      exact ⟨ret_bool (by simp; omega), (Below.refl _ _).alloc (Nat.le_refl _) _⟩
    · rw [mayP_no (by omega)]
      go_enter Tryd.func69, Tryd.ntmps69
      go_wp2
      go_ret
      exact ⟨ret_bool (by simp; omega), (Below.refl _ _).alloc (Nat.le_refl _) _⟩

/-- A parameter's bytes. -/
def putP (t : Int) (s : ByteArray) : ByteArray := if mayP t s = true then filled (p2 t ++ p2 ((s.size : Int) + 4) ++ s) else ByteArray.empty

theorem put_any (t : Int) (s : ByteArray) (w : World) : Calls Tryd.prog 56 #[.agg #[.int .i64 t, .string s]] w fun e w' => e = .returned (.string (putP t s)) ∧ Below w.heap.size w w' := by
  unfold putP
  have hc := fun w => may_any t s w
  cases hm : mayP t s with
  | false =>
    rw [if_neg (by simp)]
    rw [hm] at hc
    clear hm
    go_enter Tryd.func56, Tryd.ntmps56
    go_wp2_with (go_at_call 69; refine (hc _).mono ?_; rintro e w1 ⟨rfl, hb⟩)
    go_ret
    exact ⟨rfl, ((Below.refl _ _).alloc (Nat.le_refl _) _).trans (hb.mono (by simp))⟩
  | true =>
    rw [if_pos rfl]
    rw [hm] at hc
    obtain ⟨h1, h2, h3⟩ : 0 ≤ t ∧ t ≤ 65535 ∧ s.size ≤ 1000 := by unfold mayP at hm; simpa using hm
    clear hm
    have u1 := fun w => u16_p t w h1 (by omega)
    have u2 := fun w => u16_p ((s.size : Int) + 4) w (by omega) (by omega)
    have hs1 := p2_size t
    have hs2 := p2_size ((s.size : Int) + 4)
    have hw : IntKind.i64.wrap ((s.size : Int) + 4) = (s.size : Int) + 4 := IntWalk.i64_in _ (by omega)
    have hf := fun w => filled_any (p2 t ++ p2 ((s.size : Int) + 4) ++ s) w (by simp; omega)
    have hs1' : (p2 t).size ≤ 2 := by omega
    have hs2' : (p2 ((s.size : Int) + 4)).size ≤ 2 := by omega
    clear hs1 hs2
    go_enter Tryd.func56, Tryd.ntmps56
    go_wp2_with (go_at_call 69; refine (hc _).mono ?_; rintro e w1 ⟨rfl, hb⟩)
    have B1 := (Blk.new _ _ _).below hb (by simp)
    have bel1 : Below w.heap.size w w1 := ((Below.refl _ _).alloc (Nat.le_refl _) _).trans (hb.mono (by simp))
    have k0 := cell_regrown (B1.cell 0)
    have k1 := cell_regrown (B1.cell 1)
    clear hb
    refine wp_region_quiet_below (by kernel_rfl) (by kernel_rfl) ?_
    repeat (any_goals (first | go_big_quiet_step ((first | (go_at_call 35; first | (with_reducible exact Calls.regrown_of (u1 _)) | (with_reducible exact Calls.regrown_of (u2 _))) | (go_at_call 33; exact Calls.regrown_of (hf _)))) | quiet_step ((first | (go_at_call 35; first | (with_reducible exact Calls.regrown_of (u1 _)) | (with_reducible exact Calls.regrown_of (u2 _))) | (go_at_call 33; exact Calls.regrown_of (hf _))))))
    refine wpQuiet_nil ?_
    intro _ hw'
    obtain ⟨⟨dq, osq⟩, hw''⟩ := hw'
    subst hw''
    go_wp2
    go_ret
    exact ⟨rfl, bel1.trans ((below_regrown _ dq osq).mono bel1.size)⟩

end Go.Proofs.YtlaemmplemngmaaDoor.par
/- Numbers as bytes and bytes as numbers are each other's. -/
namespace Go.Proofs.YtlaemmplemngmaaDoor.oct
open Go.ChangeShapes Go.WideShapes Go.ChangeAt Go.RowKit kit

theorem numV_be : ∀ (k n : Nat), numV (strOfNums (be n k)).data.toList = n % 256 ^ k := by
  intro k
  induction k with
  | zero => intro n; simp [be, strOfNums_data, numV, Nat.mod_one]
  | succ k ih =>
    intro n
    have e : (strOfNums (be n (k + 1))).data.toList = (strOfNums (be ((n / 256 : Nat) : Int) k)).data.toList ++ [UInt8.ofNat (n % 256)] := by
      have e1 : ((n : Int) % 256).toNat = n % 256 := by omega
      simp only [strOfNums_data, be, List.map_append, List.map_cons, List.map_nil, e1]
      rfl
    have h2 : (UInt8.ofNat (n % 256)).toNat = n % 256 := by simp [UInt8.toNat_ofNat]
    rw [e, numV_snoc, ih, h2, Nat.pow_succ, Nat.mul_comm (256 ^ k) 256, Nat.mod_mul]
    omega

theorem be_numV (l : List UInt8) : be (numV l) l.length = l.map fun b => (b.toNat : Int) := by
  have key : ∀ (k : Nat) (l : List UInt8), l.length = k → be (numV l) k = l.map fun b => (b.toNat : Int) := by
    intro k
    induction k with
    | zero => intro l h; rw [List.length_eq_zero_iff.1 h]; rfl
    | succ k ih =>
      intro l h
      obtain ⟨m, b, rfl⟩ : ∃ m b, l = m ++ [b] := by
        rcases List.eq_nil_or_concat l with rfl | ⟨m, b, rfl⟩
        · simp at h
        · exact ⟨m, b, by simp⟩
      have hb := b.toNat_lt
      rw [numV_snoc, List.map_append, ← ih m (by simpa using h)]
      have e1 : ((numV m * 256 + b.toNat : Nat) : Int) / 256 = (numV m : Int) := by omega
      have e2 : ((numV m * 256 + b.toNat : Nat) : Int) % 256 = (b.toNat : Int) := by omega
      rw [be, e1, e2]
      rfl
  exact key _ l rfl

theorem str_map (s : ByteArray) : strOfNums (s.data.toList.map fun b => (b.toNat : Int)) = s := by
  apply ByteArray.ext
  apply Array.toList_inj.1
  rw [strOfNums_data, List.map_map]
  have : ((fun n : Int => UInt8.ofNat n.toNat) ∘ fun b : UInt8 => (b.toNat : Int)) = id := by funext b; simp
  rw [this, List.map_id]

theorem p4_of {s : ByteArray} (h : s.size = 4) : p4 (numV s.data.toList) = s := by
  have e := be_numV s.data.toList
  rw [len_data, h] at e
  unfold p4
  rw [e, str_map]
theorem p2_of {s : ByteArray} (h : s.size = 2) : p2 (numV s.data.toList) = s := by
  have e := be_numV s.data.toList
  rw [len_data, h] at e
  unfold p2
  rw [e, str_map]
theorem numV_p4 (n : Nat) (h : n ≤ 4294967295) : numV (p4 n).data.toList = n := by unfold p4; rw [numV_be]; omega
theorem numV_p2 (n : Nat) (h : n ≤ 65535) : numV (p2 n).data.toList = n := by unfold p2; rw [numV_be]; omega

/-- What is cut out of bytes that were put together. -/
theorem ext_left (a b : ByteArray) (n : Nat) (h : a.size = n) : (a ++ b).extract 0 n = a := by
  exact ByteArray.extract_append_eq_left h.symm
theorem ext_right (a b : ByteArray) (n m : Nat) (h : a.size = n) (hm : (a ++ b).size = m) : (a ++ b).extract n m = b := by
  exact ByteArray.extract_append_eq_right h.symm (by rw [← hm, ByteArray.size_append])
theorem take_data (l : ByteArray) (k : Nat) : l.data.toList.take k = (l.extract 0 k).data.toList := by simp
end Go.Proofs.YtlaemmplemngmaaDoor.oct
/- Layer 4: both tags with a number, as a parameter and back. -/
namespace Go.Proofs.YtlaemmplemngmaaDoor.par
open Go.ChangeShapes Go.WideShapes Go.ChangeAt Go.RowKit kit oct
set_option maxRecDepth 100000

/-- Three numbers of four bytes, one behind the other: what is left, the error, the numbers. -/
def l1 (s : ByteArray) : ByteArray := rdL s 0 4
def e1 (s : ByteArray) : Int := rdE s 0 4
def l2 (s : ByteArray) : ByteArray := rdL (l1 s) (e1 s) 4
def e2 (s : ByteArray) : Int := rdE (l1 s) (e1 s) 4
def l3 (s : ByteArray) : ByteArray := rdL (l2 s) (e2 s) 4
def e3 (s : ByteArray) : Int := rdE (l2 s) (e2 s) 4
def n1 (s : ByteArray) : Nat := rdN s 4
def n2 (s : ByteArray) : Nat := rdN (l1 s) 4
def n3 (s : ByteArray) : Nat := rdN (l2 s) 4

theorem l1_size (s : ByteArray) : (l1 s).size ≤ s.size := by unfold l1 rdL failL; split <;> simp
theorem l2_size (s : ByteArray) : (l2 s).size ≤ s.size := by
  have h := l1_size s
  unfold l2 rdL failL
  split
  · simp; omega
  · split
    · exact h
    · simp

theorem three_end (s : ByteArray) : endE (l3 s) (e3 s) = 0 ↔ s.size = 12 := by
  unfold endE l3 e3 l2 e2 l1 e1 rdL rdE failL failE
  by_cases a : 4 ≤ s.size
  · simp only [a, if_true]
    by_cases b : 4 ≤ (s.extract 4 s.size).size
    · simp only [b, if_true]
      by_cases c : 4 ≤ ((s.extract 4 s.size).extract 4 (s.extract 4 s.size).size).size
      · simp only [c, if_true]
        simp at a b c ⊢
        omega
      · simp only [c, if_false]
        simp at a b c ⊢
        omega
    · simp only [b, if_false]
      simp at a b ⊢
      omega
  · simp only [a, if_false]
    simp at a ⊢
    omega

theorem three_nums (s : ByteArray) (h : s.size = 12) : n1 s = numV (s.extract 0 4).data.toList ∧ n2 s = numV (s.extract 4 8).data.toList ∧ n3 s = numV (s.extract 8 12).data.toList := by
  have a : 4 ≤ s.size := by omega
  have q1 : l1 s = s.extract 4 12 := by unfold l1 rdL; rw [if_pos a, h]
  have z1 : (s.extract 4 12).size = 8 := by simp; omega
  have q2 : l2 s = s.extract 8 12 := by
    unfold l2 rdL
    rw [q1, if_pos (by omega), z1]
    apply ByteArray.ext
    simp
  have z2 : (s.extract 8 12).size = 4 := by simp; omega
  have x1 : (s.extract 4 12).extract 0 4 = s.extract 4 8 := by apply ByteArray.ext; simp
  have x2 : (s.extract 8 12).extract 0 4 = s.extract 8 12 := by apply ByteArray.ext; simp
  have y1 : n1 s = numV (s.data.toList.take 4) := by unfold n1 rdN; exact if_pos a
  have y2 : n2 s = numV ((l1 s).data.toList.take 4) := by unfold n2 rdN; exact if_pos (by rw [q1]; omega)
  have y3 : n3 s = numV ((l2 s).data.toList.take 4) := by unfold n3 rdN; exact if_pos (by rw [q2]; omega)
  refine ⟨?_, ?_, ?_⟩
  · rw [y1, take_data]
  · rw [y2, q1, take_data, x1]
  · rw [y3, q2, take_data, x2]

theorem three_put (a b c : Nat) (ha : a ≤ 4294967295) (hb : b ≤ 4294967295) (hc : c ≤ 4294967295) : (p4 a ++ p4 b ++ p4 c).size = 12 ∧ n1 (p4 a ++ p4 b ++ p4 c) = a ∧ n2 (p4 a ++ p4 b ++ p4 c) = b ∧ n3 (p4 a ++ p4 b ++ p4 c) = c := by
  have sa := p4_size a
  have sb := p4_size b
  have sc := p4_size c
  have hs : (p4 a ++ p4 b ++ p4 c).size = 12 := by simp [sa, sb, sc]
  obtain ⟨q1, q2, q3⟩ := three_nums _ hs
  refine ⟨hs, ?_, ?_, ?_⟩
  · rw [q1, ByteArray.append_assoc, ext_left _ _ 4 sa, numV_p4 a ha]
  · have e : (p4 a ++ p4 b ++ p4 c).extract 4 8 = p4 b := by
      have key : ∀ S : ByteArray, S.extract 4 8 = (S.extract 4 12).extract 0 4 := fun S => by apply ByteArray.ext; simp
      rw [key, ByteArray.append_assoc, ext_right _ _ 4 12 sa (by simp [sa, sb, sc]), ext_left _ _ 4 sb]
    rw [q2, e, numV_p4 b hb]
  · rw [q3, ext_right _ _ 8 12 (by simp [sa, sb]) hs, numV_p4 c hc]

/-- What both tags of a parameter come to. -/
def tagsV (t : Int) (s : ByteArray) : Value := if t = 49160 ∧ s.size = 12 ∧ n2 s ≠ 0 ∧ n3 s ≠ 0 then .tuple #[.int .u32 (n1 s), .int .u32 (n2 s), .int .u32 (n3 s), .bool true] else .tuple #[.int .u32 0, .int .u32 0, .int .u32 0, .bool false]
theorem results_tmp4 {fn : Func} {t u v x : Tmp} (h : fn.results = #[.tmp t, .tmp u, .tmp v, .tmp x]) (tmps : Array Value) (P : Program) (w : World) :
    (results fn tmps).run P w = .ok (.tuple #[tmps.getD t undef, tmps.getD u undef, tmps.getD v undef, tmps.getD x undef]) w := by simp [results, h]

end Go.Proofs.YtlaemmplemngmaaDoor.par
/- Layer 4: tags say three numbers; without one of both tags there are none. -/
namespace Go.Proofs.YtlaemmplemngmaaDoor.par
open Go.ChangeShapes Go.WideShapes Go.ChangeAt Go.RowKit kit oct
set_option maxRecDepth 100000

theorem blk_new3 (w : World) (o p : Obj) (t : TypeId) (cs : Array Value) : Blk (((w.alloc o).alloc p).alloc (.cells cs t)) (w.heap.size + 1 + 1) t cs := by
  simpa using Blk.new ((w.alloc o).alloc p) t cs
theorem zero4 {s : ByteArray} (h : s.size = 4) : numV s.data.toList = 0 ↔ s = ⟨#[0, 0, 0, 0]⟩ := by
  constructor
  · intro q
    rw [← p4_of h, q]
    decide +kernel
  · rintro rfl
    decide +kernel
theorem ne_zero4 {s : ByteArray} (h : ¬ s = ⟨#[0, 0, 0, 0]⟩) : (s.toList == [0, 0, 0, 0]) = false := by
  have e : (⟨#[0, 0, 0, 0]⟩ : ByteArray).toList = [0, 0, 0, 0] := by rw [Lib.toList_data]
  have := str_ne h
  rwa [e] at this
theorem cut3 {T : ByteArray} (h : T.size = 12) : T.extract 0 4 ++ T.extract 4 8 ++ T.extract 8 12 = T := by
  have e1 : T.extract 0 4 ++ T.extract 4 8 = T.extract 0 8 := by rw [ByteArray.extract_append_extract]; rfl
  have e2 : T.extract 0 8 ++ T.extract 8 12 = T.extract 0 12 := by rw [ByteArray.extract_append_extract]; rfl
  rw [e1, e2, ← h]
  apply ByteArray.ext
  simp

end Go.Proofs.YtlaemmplemngmaaDoor.par
/- Layer 4: a parameter is taken from whatever is left. -/
namespace Go.Proofs.YtlaemmplemngmaaDoor.par
open Go.ChangeShapes Go.WideShapes Go.ChangeAt Go.RowKit kit oct
set_option maxRecDepth 100000

/-- What is read as a parameter of (l, e): step by step. -/
def tN (l : ByteArray) : Int := (rdN l 2 : Nat)
def tl1 (l : ByteArray) (e : Int) : ByteArray := rdL l e 2
def te1 (l : ByteArray) (e : Int) : Int := rdE l e 2
def tZ (l : ByteArray) (e : Int) : Int := (rdN (tl1 l e) 2 : Nat)
def tl2 (l : ByteArray) (e : Int) : ByteArray := rdL (tl1 l e) (te1 l e) 2
def te2 (l : ByteArray) (e : Int) : Int := rdE (tl1 l e) (te1 l e) 2
/-- behind the test of the size -/
def fL (b : Bool) (l : ByteArray) (e x : Int) : ByteArray := if b = true then failL l e x else l
def fE (b : Bool) (e x : Int) : Int := if b = true then failE e x else e
def zB (z : Int) : Bool := decide (z < 4 ∨ 1004 < z)
def kL (l : ByteArray) (e n : Int) : ByteArray := if 0 ≤ n ∧ n ≤ l.size then l.extract n.toNat l.size else failL l e 2
def kE (l : ByteArray) (e n : Int) : Int := if 0 ≤ n ∧ n ≤ l.size then e else failE e 2
def kV (l : ByteArray) (n : Int) : ByteArray := if 0 ≤ n ∧ n ≤ l.size then l.extract 0 n.toNat else ByteArray.empty

theorem size_fail (l : ByteArray) (e x : Int) : (failL l e x).size ≤ l.size := by unfold failL; split <;> simp
theorem size_rd (l : ByteArray) (e : Int) (k : Nat) : (rdL l e k).size ≤ l.size := by
  unfold rdL; split
  · simp
  · exact size_fail _ _ _
theorem size_f (b : Bool) (l : ByteArray) (e x : Int) : (fL b l e x).size ≤ l.size := by
  unfold fL; split
  · exact size_fail _ _ _
  · exact Nat.le_refl _
theorem size_k (l : ByteArray) (e n : Int) : (kL l e n).size ≤ l.size := by
  unfold kL; split
  · simp
  · exact size_fail _ _ _

theorem failB (b : Bool) (g : Nat) (l : ByteArray) (e x : Int) (w : World) (h : RD w g l e) : b = true →
    Calls Tryd.prog 80 #[.pointer (some ⟨g, 0, none⟩), .int .i64 x] w fun y w' => y = .returned (.tuple #[]) ∧ RD w' g (fL b l e x) (fE b e x) ∧ oct.Touch g w w' := by
  rintro rfl
  exact fail_any g l e x w h

/-- The size, the value, what is left, the error. -/
def pl3 (l : ByteArray) (e : Int) : ByteArray := fL (zB (tZ l e)) (tl2 l e) (te2 l e) 3
def pe3 (l : ByteArray) (e : Int) : Int := fE (zB (tZ l e)) (te2 l e) 3
def pl4 (l : ByteArray) (e : Int) : ByteArray := kL (pl3 l e) (pe3 l e) (tZ l e - 4)
def pe4 (l : ByteArray) (e : Int) : Int := kE (pl3 l e) (pe3 l e) (tZ l e - 4)
def pV (l : ByteArray) (e : Int) : ByteArray := kV (pl3 l e) (tZ l e - 4)
def pB (l : ByteArray) (e : Int) : Bool := decide (((pl4 l e).size : Int) < -(tZ l e) % 4)
def pl5 (l : ByteArray) (e : Int) : ByteArray := fL (pB l e) (pl4 l e) (pe4 l e) 2
def pe5 (l : ByteArray) (e : Int) : Int := fE (pB l e) (pe4 l e) 2
def pl6 (l : ByteArray) (e : Int) : ByteArray := fillL (pl5 l e) (pe5 l e) (tZ l e)
def pe6 (l : ByteArray) (e : Int) : Int := fillE (pl5 l e) (pe5 l e) (tZ l e)
def pT (l : ByteArray) (e : Int) : Value := if pe6 l e = 0 then .agg #[.int .i64 (tN l), .string (pV l e)] else .agg #[.int .i64 0, .string ByteArray.empty]

theorem takeT {g : Nat} {w w' : World} (hg : g < w.heap.size) (h : oct.Touch g w w') (u v : Value) : oct.Touch g w ((w'.setCell ⟨w.heap.size, 0, none⟩ u).setCell ⟨w.heap.size, 1, none⟩ v) :=
  ⟨h.os, h.tape, h.output, by simpa [World.setCell] using h.size, fun k hk hne => (Below.heap_setCell _ _ _ _ (by simp; omega)).trans ((Below.heap_setCell _ _ _ _ (by simp; omega)).trans (h.block k hk hne))⟩

end Go.Proofs.YtlaemmplemngmaaDoor.par
/- Layer 4: which bytes are a parameter, and which one (no walk). -/
namespace Go.Proofs.YtlaemmplemngmaaDoor.par
open Go.ChangeShapes Go.WideShapes Go.ChangeAt Go.RowKit kit oct

theorem failE_ne {e x : Int} (hx : x ≠ 0) : failE e x ≠ 0 := by
  unfold failE; split
  · rename_i h; rcases h with h | h
    · exact h
    · exact absurd h hx
  · exact hx
theorem rdE_0 {l : ByteArray} {e : Int} {k : Nat} (h : rdE l e k = 0) : k ≤ l.size ∧ e = 0 := by
  unfold rdE at h
  by_cases c : k ≤ l.size
  · rw [if_pos c] at h; exact ⟨c, h⟩
  · rw [if_neg c] at h; exact absurd h (failE_ne (by decide))
theorem fE_0 {b : Bool} {e x : Int} (hx : x ≠ 0) (h : fE b e x = 0) : b = false ∧ e = 0 := by
  cases b with
  | true => exact absurd h (failE_ne hx)
  | false => exact ⟨rfl, h⟩
theorem kE_0 {l : ByteArray} {e n : Int} (h : kE l e n = 0) : (0 ≤ n ∧ n ≤ l.size) ∧ e = 0 := by
  unfold kE at h
  by_cases c : 0 ≤ n ∧ n ≤ l.size
  · rw [if_pos c] at h; exact ⟨c, h⟩
  · rw [if_neg c] at h; exact absurd h (failE_ne (by decide))
theorem fillE_0 {l : ByteArray} {e n : Int} (h : fillE l e n = 0) : l.extract 0 (fk l n) = zeros (fk l n) ∧ e = 0 := by
  unfold fillE at h
  by_cases c : l.extract 0 (fk l n) = zeros (fk l n)
  · rw [if_pos c] at h; exact ⟨c, h⟩
  · rw [if_neg c] at h; exact absurd h (failE_ne (by decide))

/-- That bytes begin with a parameter of Z bytes, filled up by p. -/
structure IsP (l : ByteArray) (Z p : Nat) : Prop where
  four : 4 ≤ l.size
  size : numV (l.extract 2 4).data.toList = Z
  lo : 4 ≤ Z
  hi : Z ≤ 1004
  pad : (p : Int) = -(Z : Int) % 4
  room : Z + p ≤ l.size
  noughts : l.extract Z (Z + p) = zeros p

theorem ext_ext (l : ByteArray) (a b c d : Nat) (hb : b = l.size) (hd : a + d ≤ l.size) : (l.extract a b).extract c d = l.extract (a + c) (a + d) := by
  subst hb
  apply ByteArray.ext
  simp
  congr 1
  have : l.data.size = l.size := rfl
  omega

theorem head_of {l : ByteArray} (h : 4 ≤ l.size) : tl1 l 0 = l.extract 2 l.size ∧ te1 l 0 = 0 ∧ tZ l 0 = (numV (l.extract 2 4).data.toList : Nat) ∧ tl2 l 0 = l.extract 4 l.size ∧ te2 l 0 = 0 ∧ tN l = (numV (l.extract 0 2).data.toList : Nat) := by
  have q1 : tl1 l 0 = l.extract 2 l.size := by unfold tl1 rdL; rw [if_pos (by omega)]
  have z1 : (l.extract 2 l.size).size = l.size - 2 := by simp
  have q2 : te1 l 0 = 0 := by unfold te1 rdE; rw [if_pos (by omega)]
  refine ⟨q1, q2, ?_, ?_, ?_, ?_⟩
  · unfold tZ rdN; rw [q1, if_pos (by omega), take_data, ext_ext l 2 l.size 0 2 rfl (by omega)]
  · unfold tl2 rdL; rw [q1, if_pos (by omega), z1, ext_ext l 2 l.size 2 (l.size - 2) rfl (by omega), show 2 + (l.size - 2) = l.size by omega]
  · unfold te2 rdE; rw [q1, q2, if_pos (by omega)]
  · unfold tN rdN; rw [if_pos (by omega), take_data]

theorem take_good {l : ByteArray} {Z p : Nat} (H : IsP l Z p) : pe6 l 0 = 0 ∧ pV l 0 = l.extract 4 Z ∧ pl6 l 0 = l.extract (Z + p) l.size := by
  obtain ⟨h4, hZ, lo, hi, hp, hs, hz⟩ := H
  obtain ⟨q1, q2, q3, q4, q5, q6⟩ := head_of h4
  rw [hZ] at q3
  have zb : zB (tZ l 0) = false := by rw [q3]; unfold zB; simp; omega
  have r3 : pl3 l 0 = l.extract 4 l.size := by unfold pl3 fL; rw [zb, q4]; rfl
  have s3 : pe3 l 0 = 0 := by unfold pe3 fE; rw [zb, q5]; rfl
  have z3 : (l.extract 4 l.size).size = l.size - 4 := by simp
  have inr : 0 ≤ tZ l 0 - 4 ∧ tZ l 0 - 4 ≤ ((l.extract 4 l.size).size : Int) := by rw [q3, z3]; omega
  have tn : (tZ l 0 - 4).toNat = Z - 4 := by rw [q3]; omega
  have r4 : pl4 l 0 = l.extract Z l.size := by
    unfold pl4 kL; rw [r3, if_pos inr, tn, z3, ext_ext l 4 l.size (Z - 4) (l.size - 4) rfl (by omega), show 4 + (Z - 4) = Z by omega, show 4 + (l.size - 4) = l.size by omega]
  have s4 : pe4 l 0 = 0 := by unfold pe4 kE; rw [r3, if_pos inr, s3]
  have v4 : pV l 0 = l.extract 4 Z := by
    unfold pV kV; rw [r3, if_pos inr, tn, ext_ext l 4 l.size 0 (Z - 4) rfl (by omega), show 4 + (Z - 4) = Z by omega]
  have z4 : (l.extract Z l.size).size = l.size - Z := by simp
  have pb : pB l 0 = false := by unfold pB; rw [r4, z4, q3]; simp; omega
  have r5 : pl5 l 0 = l.extract Z l.size := by unfold pl5 fL; rw [pb, r4]; rfl
  have s5 : pe5 l 0 = 0 := by unfold pe5 fE; rw [pb, s4]; rfl
  have fkp : fk (l.extract Z l.size) (tZ l 0) = p := by unfold fk; rw [q3, z4]; omega
  have cond : (l.extract Z l.size).extract 0 p = zeros p := by rw [ext_ext l Z l.size 0 p rfl (by omega)]; exact hz
  refine ⟨?_, v4, ?_⟩
  · unfold pe6 fillE; rw [r5, fkp, if_pos cond, s5]
  · unfold pl6 fillL; rw [r5, fkp, if_pos cond, z4, ext_ext l Z l.size p (l.size - Z) rfl (by omega), show Z + (l.size - Z) = l.size by omega]

theorem take_ok {l : ByteArray} {e : Int} (h : pe6 l e = 0) : e = 0 ∧ ∃ Z p, IsP l Z p := by
  obtain ⟨h6, h5⟩ := fillE_0 (show fillE (pl5 l e) (pe5 l e) (tZ l e) = 0 from h)
  obtain ⟨hb, h4⟩ := fE_0 (by decide) (show fE (pB l e) (pe4 l e) 2 = 0 from h5)
  obtain ⟨hr, h3⟩ := kE_0 (show kE (pl3 l e) (pe3 l e) (tZ l e - 4) = 0 from h4)
  obtain ⟨hz, h2⟩ := fE_0 (by decide) (show fE (zB (tZ l e)) (te2 l e) 3 = 0 from h3)
  obtain ⟨g2, h1⟩ := rdE_0 (show rdE (tl1 l e) (te1 l e) 2 = 0 from h2)
  obtain ⟨g1, h0⟩ := rdE_0 (show rdE l e 2 = 0 from h1)
  subst h0
  have q1 : tl1 l 0 = l.extract 2 l.size := by unfold tl1 rdL; rw [if_pos g1]
  have z1 : (l.extract 2 l.size).size = l.size - 2 := by simp
  have f4 : 4 ≤ l.size := by rw [q1, z1] at g2; omega
  obtain ⟨_, _, q3, q4, q5, q6⟩ := head_of f4
  obtain ⟨Z, hZ⟩ : ∃ Z, numV (l.extract 2 4).data.toList = Z := ⟨_, rfl⟩
  rw [hZ] at q3
  have lohi : 4 ≤ Z ∧ Z ≤ 1004 := by
    rw [q3] at hz; unfold zB at hz
    have : ¬ ((Z : Int) < 4 ∨ 1004 < (Z : Int)) := by simpa using hz
    omega
  have zb : zB (tZ l 0) = false := hz
  have r3 : pl3 l 0 = l.extract 4 l.size := by unfold pl3 fL; rw [zb, q4]; rfl
  have z3 : (l.extract 4 l.size).size = l.size - 4 := by simp
  rw [r3, z3, q3] at hr
  have tn : (tZ l 0 - 4).toNat = Z - 4 := by rw [q3]; omega
  have inr : 0 ≤ tZ l 0 - 4 ∧ tZ l 0 - 4 ≤ ((l.extract 4 l.size).size : Int) := by rw [q3, z3]; omega
  have r4 : pl4 l 0 = l.extract Z l.size := by
    unfold pl4 kL; rw [r3, if_pos inr, tn, z3, ext_ext l 4 l.size (Z - 4) (l.size - 4) rfl (by omega), show 4 + (Z - 4) = Z by omega, show 4 + (l.size - 4) = l.size by omega]
  have z4 : (l.extract Z l.size).size = l.size - Z := by simp
  have pb : pB l 0 = false := hb
  have pb' := pb
  unfold pB at pb'
  rw [r4, z4, q3] at pb'
  have pb2 : ¬ (((l.size - Z : Nat) : Int) < -(Z : Int) % 4) := by simpa using pb'
  obtain ⟨p, hp⟩ : ∃ p : Nat, (p : Int) = -(Z : Int) % 4 := ⟨(-(Z : Int) % 4).toNat, by omega⟩
  have r5 : pl5 l 0 = l.extract Z l.size := by unfold pl5 fL; rw [pb, r4]; rfl
  have fkp : fk (l.extract Z l.size) (tZ l 0) = p := by unfold fk; rw [q3, z4]; omega
  rw [r5, fkp, ext_ext l Z l.size 0 p rfl (by omega)] at h6
  exact ⟨rfl, Z, p, f4, hZ, lohi.1, lohi.2, hp, by omega, h6⟩
end Go.Proofs.YtlaemmplemngmaaDoor.par
/- Layer 4: parameters one behind the other are read again. -/
namespace Go.Proofs.YtlaemmplemngmaaDoor.par
open Go.ChangeShapes Go.WideShapes Go.ChangeAt Go.RowKit kit oct
set_option maxRecDepth 100000

theorem putP_size {t : Int} {v : ByteArray} (h : mayP t v = true) : ((putP t v).size : Int) = 4 + v.size + -((v.size : Int) + 4) % 4 := by
  unfold putP
  rw [if_pos h]
  unfold filled
  rw [ByteArray.size_append, zeros_size]
  have e : (p2 t ++ p2 ((v.size : Int) + 4) ++ v).size = v.size + 4 := by simp [p2_size]; omega
  rw [e]
  omega
theorem may_of {t : Int} {v : ByteArray} (h : mayP t v = true) : 0 ≤ t ∧ t ≤ 65535 ∧ v.size ≤ 1000 := by unfold mayP at h; simpa using h

/-- The bytes of a parameter, and whatever behind them: it is taken again. -/
theorem put_take {t : Int} {v R : ByteArray} (h : mayP t v = true) : pe6 (putP t v ++ R) 0 = 0 ∧ pT (putP t v ++ R) 0 = .agg #[.int .i64 t, .string v] ∧ pl6 (putP t v ++ R) 0 = R := by
  obtain ⟨t0, t1, v1⟩ := may_of h
  obtain ⟨n, rfl⟩ : ∃ n : Nat, t = n := ⟨t.toNat, by omega⟩
  obtain ⟨p, hp⟩ : ∃ p : Nat, (p : Int) = -((v.size + 4 : Nat) : Int) % 4 := ⟨(-((v.size + 4 : Nat) : Int) % 4).toNat, by omega⟩
  have s2 : ∀ x : Int, (p2 x).size = 2 := p2_size
  have e0 : putP n v ++ R = p2 n ++ (p2 ((v.size + 4 : Nat) : Int) ++ (v ++ (zeros p ++ R))) := by
    unfold putP
    rw [if_pos h]
    unfold filled
    have e : (p2 (n : Int) ++ p2 ((v.size : Int) + 4) ++ v).size = v.size + 4 := by simp [p2_size]; omega
    rw [e, ← hp]
    simp only [ByteArray.append_assoc]
    rfl
  rw [e0]
  have zs : (zeros p).size = p := zeros_size p
  obtain ⟨L, hL⟩ : ∃ L, L = p2 (n : Int) ++ (p2 ((v.size + 4 : Nat) : Int) ++ (v ++ (zeros p ++ R))) := ⟨_, rfl⟩
  have hsz : L.size = 4 + v.size + p + R.size := by rw [hL]; simp only [ByteArray.size_append, s2, zs]; omega
  have x1 : L.extract 0 2 = p2 n := by rw [hL]; exact ext_left _ _ 2 (s2 _)
  have key : ∀ (S : ByteArray) (a b c : Nat), S.extract (a + b) (a + c) = (S.extract a S.size).extract b c ∨ S.size < a + c := fun S a b c => by
    by_cases q : a + c ≤ S.size
    · left; rw [ext_ext S a S.size b c rfl q]
    · right; omega
  have t2 : L.extract 2 L.size = p2 ((v.size + 4 : Nat) : Int) ++ (v ++ (zeros p ++ R)) := by
    rw [hL]; exact ext_right _ _ 2 _ (s2 _) rfl
  have x2 : L.extract 2 4 = p2 ((v.size + 4 : Nat) : Int) := by
    have := ext_ext L 2 L.size 0 2 rfl (by omega)
    rw [t2] at this
    rw [← this]; exact ext_left _ _ 2 (s2 _)
  have t4 : L.extract 4 L.size = v ++ (zeros p ++ R) := by
    have := ext_ext L 2 L.size 2 (L.size - 2) rfl (by omega)
    rw [t2, show 2 + (L.size - 2) = L.size by omega] at this
    rw [← this]
    exact ext_right _ _ 2 _ (s2 _) (by simp only [ByteArray.size_append, s2, zs]; omega)
  have x3 : L.extract 4 (v.size + 4) = v := by
    have := ext_ext L 4 L.size 0 v.size rfl (by omega)
    rw [t4, show 4 + v.size = v.size + 4 by omega] at this
    rw [← this]; exact ext_left _ _ _ rfl
  have tv : L.extract (v.size + 4) L.size = zeros p ++ R := by
    have := ext_ext L 4 L.size v.size (L.size - 4) rfl (by omega)
    rw [t4, show 4 + v.size = v.size + 4 by omega, show 4 + (L.size - 4) = L.size by omega] at this
    rw [← this]
    exact ext_right _ _ _ _ rfl (by simp only [ByteArray.size_append, zs]; omega)
  have x4 : L.extract (v.size + 4) (v.size + 4 + p) = zeros p := by
    have := ext_ext L (v.size + 4) L.size 0 p rfl (by omega)
    rw [tv] at this
    rw [← this]; exact ext_left _ _ _ zs
  have x5 : L.extract (v.size + 4 + p) L.size = R := by
    have := ext_ext L (v.size + 4) L.size p (L.size - (v.size + 4)) rfl (by omega)
    rw [tv, show v.size + 4 + (L.size - (v.size + 4)) = L.size by omega] at this
    rw [← this]
    exact ext_right _ _ _ _ zs (by simp only [ByteArray.size_append, zs]; omega)
  rw [← hL]
  have H : IsP L (v.size + 4) p := ⟨by omega, by rw [x2]; exact numV_p2 (v.size + 4) (by omega), by omega, by omega, hp, by omega, x4⟩
  obtain ⟨g1, g2, g3⟩ := take_good H
  obtain ⟨_, _, _, _, _, q6⟩ := head_of H.four
  have hT : tN L = n := by rw [q6, x1, numV_p2 n (by omega)]
  refine ⟨g1, ?_, ?_⟩
  · unfold pT; rw [if_pos g1, hT, g2, x3]
  · rw [g3, x5]

def cat : List (Int × ByteArray) → ByteArray
  | [] => ByteArray.empty
  | p :: r => putP p.1 p.2 ++ cat r
def cellsP : List (Int × ByteArray) → List Value
  | [] => []
  | p :: r => .int .i64 p.1 :: .string p.2 :: cellsP r
theorem cellsP_snoc (l : List (Int × ByteArray)) (p : Int × ByteArray) : cellsP (l ++ [p]) = cellsP l ++ [.int .i64 p.1, .string p.2] := by
  induction l with
  | nil => rfl
  | cons q r ih => simp [cellsP, ih]
theorem cellsP_length (l : List (Int × ByteArray)) : (cellsP l).length = l.length * 2 := by
  induction l with
  | nil => rfl
  | cons q r ih => simp [cellsP, ih]; omega
theorem cat_size (l : List (Int × ByteArray)) (h : ∀ p, p ∈ l → mayP p.1 p.2 = true) : (cat l).size ≤ l.length * 1008 := by
  induction l with
  | nil => simp [cat]
  | cons p r ih =>
    have h1 := putP_size (h p (by simp))
    have h2 := may_of (h p (by simp))
    have h3 := ih (fun q hq => h q (by simp [hq]))
    simp only [cat, ByteArray.size_append, List.length_cons]
    omega
theorem cat_pos (p : Int × ByteArray) (r : List (Int × ByteArray)) (h : mayP p.1 p.2 = true) : 0 < (cat (p :: r)).size := by
  have h1 := putP_size h
  simp only [cat, ByteArray.size_append]
  omega

theorem touch_grown {g : Nat} {w w' : World} (h : oct.Touch g w w') : w.grownBy w' (some g) := ⟨h.os, h.tape, h.output, h.size, fun k hk hne => h.block k hk (fun e => hne (by rw [e]))⟩
theorem info23 : (Tryd.prog.info? 55).map (fun i => (i.zero, i.size, i.bytes)) = some (some (.agg #[.int .i64 0, .string ByteArray.empty]), 2, 24) := by kernel_rfl

/-- What All comes to. -/
def AllPost (w : World) (ps : List (Int × ByteArray)) (e : Ending) (w' : World) : Prop :=
  ∃ v, e = .returned (.tuple #[v, .int .i64 0]) ∧ w'.ownsRow (w.heap.size + 1) 55 2 v ps.length (cellsP ps) ∧ Below w.heap.size w w'

end Go.Proofs.YtlaemmplemngmaaDoor.par
/- Layer 4: the bytes of parameters one behind the other; a row of them anywhere. -/
namespace Go.Proofs.YtlaemmplemngmaaDoor.par
open Go.ChangeShapes Go.WideShapes Go.ChangeAt Go.RowKit kit oct bld
set_option maxRecDepth 100000

theorem add_blk (a : Addr) (k : Nat) : (a.add k).block = a.block := by unfold Addr.add; split <;> rfl
theorem add_zero' (g k : Nat) : (⟨g, 0, none⟩ : Addr).add k = ⟨g, k, none⟩ := by unfold Addr.add; split <;> simp_all
/-- A row of parameters (or causes) anywhere in memory. -/
def RowL (w : World) (a : Addr) (ps : List (Int × ByteArray)) : Prop :=
  (0 < ps.length → a.block < w.heap.size) ∧ ∀ ds p qs, ps = ds ++ p :: qs → w.cell? (a.add (ds.length * 2)) = some (.int .i64 p.1) ∧ w.cell? { block := (a.add (ds.length * 2)).block, off := (a.add (ds.length * 2)).off + 1 } = some (.string p.2)
theorem RowL.below {w w' : World} {a : Addr} {ps : List (Int × ByteArray)} {B : Nat} (h : RowL w a ps) (hb : Below B w w') (hB : 0 < ps.length → a.block < B) : RowL w' a ps := by
  refine ⟨fun h0 => Nat.lt_of_lt_of_le (h.1 h0) hb.size, fun ds p qs hp => ?_⟩
  obtain ⟨h1, h2⟩ := h.2 ds p qs hp
  have hlt := hB (by rw [hp]; simp; omega)
  exact ⟨(hb.cell (p := a.add (ds.length * 2)) (by rw [add_blk]; exact hlt)).trans h1, (hb.cell (p := { block := (a.add (ds.length * 2)).block, off := (a.add (ds.length * 2)).off + 1 }) (by show (a.add (ds.length * 2)).block < B; rw [add_blk]; exact hlt)).trans h2⟩
theorem cellsP_append (l m : List (Int × ByteArray)) : cellsP (l ++ m) = cellsP l ++ cellsP m := by
  induction l with
  | nil => rfl
  | cons q r ih => simp [cellsP, ih]
theorem cellsP_at (ds qs : List (Int × ByteArray)) (p : Int × ByteArray) : (cellsP (ds ++ p :: qs))[ds.length * 2]? = some (.int .i64 p.1) ∧ (cellsP (ds ++ p :: qs))[ds.length * 2 + 1]? = some (.string p.2) := by
  rw [cellsP_append]
  have := cellsP_length ds
  exact ⟨by rw [List.getElem?_append_right (by omega), this, Nat.sub_self]; rfl, by rw [List.getElem?_append_right (by omega), this, show ds.length * 2 + 1 - ds.length * 2 = 1 by omega]; rfl⟩
/-- An owned row is one. -/
theorem own_rowL {w : World} {B e : Nat} {v : Value} {ps : List (Int × ByteArray)} (h : w.ownsRow B e 2 v ps.length (cellsP ps)) : (v = .slice none 0 0 ∧ ps = []) ∨ ∃ g cap, v = .slice (some ⟨g, 0, none⟩) ps.length cap ∧ B ≤ g ∧ g < w.heap.size ∧ ps.length ≤ cap ∧ cap ≤ maxLen ∧ RowL w ⟨g, 0, none⟩ ps := by
  have h' := h
  rcases h'.2 with ⟨rfl, h0⟩ | ⟨g, cap, cur, rfl, hbg, hg, hc1, hc2, _⟩
  · exact .inl ⟨rfl, List.length_eq_zero_iff.1 h0⟩
  · have hlt : g < w.heap.size := by
      rcases Nat.lt_or_ge g w.heap.size with q | q
      · exact q
      · rw [Array.getElem?_eq_none q] at hg; cases hg
    refine .inr ⟨g, cap, rfl, hbg, hlt, hc1, hc2, fun _ => hlt, fun ds p qs hp => ?_⟩
    have hl : ps.length = ds.length + 1 + qs.length := by rw [hp]; simp; omega
    obtain ⟨e1, e2⟩ := cellsP_at ds qs p
    rw [← hp] at e1 e2
    have k1 := h.cellAt (ds.length * 2) (by omega)
    have k2 := h.cellAt (ds.length * 2 + 1) (by omega)
    rw [e1] at k1
    rw [e2] at k2
    rw [add_zero']
    exact ⟨k1, k2⟩
theorem putP_le (t : Int) (v : ByteArray) : (putP t v).size ≤ 1008 := by
  cases h : mayP t v with
  | false => unfold putP; rw [if_neg (by rw [h]; simp)]; simp
  | true => have := putP_size h; have := may_of h; omega
theorem cat_le (l : List (Int × ByteArray)) : (cat l).size ≤ l.length * 1008 := by
  induction l with
  | nil => simp [cat]
  | cons p r ih =>
    have := putP_le p.1 p.2
    simp only [cat, ByteArray.size_append, List.length_cons]
    omega
theorem cat_snoc (l : List (Int × ByteArray)) (p : Int × ByteArray) : cat (l ++ [p]) = cat l ++ putP p.1 p.2 := by
  induction l with
  | nil => simp [cat]
  | cons q r ih => simp only [List.cons_append, cat, ih, ByteArray.append_assoc]
theorem strCells_append (s t : ByteArray) : Lib.strCells (s ++ t) = Lib.strCells s ++ Lib.strCells t := by
  unfold Lib.strCells
  rw [← List.map_append]
  simp
theorem below_grown {w w' : World} (h : Below w.heap.size w w') : w.grownBy w' none := ⟨h.os, h.tape, h.output, h.size, fun k hk _ => h.block k hk⟩
theorem BAt_below {p : Value} {B b : Nat} {bs : List Value} {w w' : World} (h : Lib.BuilderAt 45 5 B b p bs w) (hb : Below w.heap.size w w') : Lib.BuilderAt 45 5 B b p bs w' := by
  obtain ⟨h1, v, hk, hown, hne⟩ := h
  have K : Blk w b 45 #[p, v] := hk
  exact ⟨h1, v, K.below hb K.lt, hown.kept (below_grown hb) (by cases v.ownBlock <;> simp), hne⟩
theorem IsB_below {B b : Nat} {bs : List Value} {w w' : World} (h : IsB B b bs w) (hb : Below w.heap.size w w') : IsB B b bs w' := h.imp (fun h => BAt_below h hb) (fun h => BAt_below h hb)
theorem IsB_string (B b : Nat) (s : ByteArray) (w : World) (h : IsB B b (Lib.strCells s) w) (hB : B ≤ w.heap.size) :
    Calls Tryd.prog 20 #[.pointer (some ⟨b, 0, none⟩)] w fun e w' => e = .returned (.string s) ∧ Below B w w' := by
  have := Tryd.Builder_String_any B b s.data.toList w h hB
  simpa using this
theorem put_call (p : Int × ByteArray) (w : World) : Calls Tryd.prog 56 #[.agg #[.int .i64 p.1, .string p.2]] w fun e w' => e = .returned (.string (putP p.1 p.2)) ∧ Below w.heap.size w w' := put_any p.1 p.2 w

set_option maxHeartbeats 1000000 in
theorem putAll_row (a : Addr) (cap : Nat) (ps : List (Int × ByteArray)) (w : World) (hn : ps.length ≤ 16) (hc : ps.length ≤ cap) (hcm : cap ≤ maxLen) (hr : RowL w a ps) :
    Calls Tryd.prog 54 #[.slice (some a) ps.length cap] w fun e w' => e = .returned (.string (cat ps)) ∧ Below w.heap.size w w' := by
  unfold maxLen at hcm
  go_enter Tryd.func54, Tryd.ntmps54
  go_wp2_with fail
  go_loopw [8] (fun si wr => ∃ (ds qs : List (Int × ByteArray)), ps = ds ++ qs ∧ si = .int .i64 (ds.length : Nat) ∧ IsB w.heap.size w.heap.size (Lib.strCells (cat ds)) wr ∧ Below w.heap.size w wr) (fun si _ => ps.length - (intOf si).toNat)
  case atStart => exact ⟨[], ps, rfl, rfl, Lib.fresh_isBuilder _ _ w, (Below.refl _ _).alloc (Nat.le_refl _) _⟩
  case round =>
    obtain ⟨ds, qs, hps, rfl, hI, bel⟩ := hrel
    have hlen : ds.length + qs.length = ps.length := by rw [hps]; simp
    have HP := Lib.hid hps
    have HI := Lib.hid hI
    have HR := Lib.hid hr
    clear hps hI hr
    cases qs with
    | nil =>
      have hd : ds.length = ps.length := by simpa using hlen
      have hB : w.heap.size ≤ wr.heap.size := bel.size
      have hq := HP.out
      simp only [List.append_nil] at hq
      have hS := IsB_string w.heap.size w.heap.size (cat ds) wr HI.out hB
      rw [← hq] at hS
      clear HP HI HR hlen hq
      obtain ⟨S, hSe⟩ : ∃ S, S = cat ps := ⟨_, rfl⟩
      rw [← hSe] at hS
      have HE := Lib.hid hSe
      clear hSe
      generalize ps.length = n at *
      rw [hd]
      go_wp2_with (go_at_call 20; refine hS.mono ?_; rintro e w2 ⟨rfl, hb2⟩)
      go_ret
      exact ⟨congrArg (fun s => Ending.returned (.string s)) HE.out, bel.trans hb2⟩
    | cons p qs =>
      obtain ⟨c0, c1⟩ := (HR.out.below bel HR.out.1).2 ds p qs HP.out
      have hlt : ds.length < ps.length := by simp at hlen; omega
      have hB : w.heap.size ≤ wr.heap.size := bel.size
      have hsz : (Lib.strCells (cat ds)).length + (putP p.1 p.2).size ≤ 100000000 := by
        have := cat_le ds; have := putP_le p.1 p.2; rw [Lib.strCells_length]; omega
      have N1 := Blk.new wr 55 #[.int .i64 p.1, .string p.2]
      have C1 := fun i => N1.cell i
      have bel1 := bel.alloc hB (.cells #[.int .i64 p.1, .string p.2] 55)
      have I1 := IsB_below HI.out ((Below.refl _ _).alloc (Nat.le_refl _) (.cells #[.int .i64 p.1, .string p.2] 55))
      have hput := put_call p
      have hps : ps = (ds ++ [p]) ++ qs := by rw [HP.out]; simp
      have hlen1 : (ds ++ [p]).length = ds.length + 1 := by simp
      have HP1 := Lib.hid hps
      have HL1 := Lib.hid hlen1
      have HLen := Lib.hid hlen
      have HI1 := Lib.hid I1
      clear HI HP hps hlen1 I1 HR hlen
      have hsn := cat_snoc ds p
      have HSn := Lib.hid hsn
      clear hsn
      generalize putP p.1 p.2 = Z at *
      go_wp2_with fail
      generalize wr.alloc (.cells #[.int .i64 p.1, .string p.2] 55) = w1 at *
      refine (hput _).mono ?_
      rintro e w2 ⟨rfl, hb2⟩
      have bel2 := bel1.trans (hb2.mono bel1.size)
      have I2 := IsB_below HI1.out hb2
      clear HI1
      have hW := write_any w.heap.size w.heap.size _ Z w2 I2 hsz bel2.size
      clear I2
      go_wp2_with fail
      refine hW.mono ?_
      rintro e w3 ⟨rfl, hu, hb3⟩
      have bel3 := bel2.trans hb3
      have HU := Lib.hid hu
      clear hu hW
      go_wp2_with fail
      go_roundw
      case rel => exact ⟨ds ++ [p], qs, HP1.out, by rw [HL1.out]; go_num, .inr (by rw [HSn.out, strCells_append]; exact HU.out), bel3⟩
      case measure => have := HLen.out; simp at this; simp [intOf]; omega
end Go.Proofs.YtlaemmplemngmaaDoor.par
/- Layer 4: the first one of a type is found. -/
namespace Go.Proofs.YtlaemmplemngmaaDoor.par
open Go.ChangeShapes Go.WideShapes Go.ChangeAt Go.RowKit kit oct
set_option maxRecDepth 100000

/-- The first place of a number among n, n if there is none. -/
def IsFst (T : Nat → Int) (t : Int) (n j : Nat) : Prop := j ≤ n ∧ (∀ i, i < j → T i ≠ t) ∧ (j < n → T j = t)
theorem fst_ex (T : Nat → Int) (t : Int) (n : Nat) : ∃ j, IsFst T t n j := by
  induction n with
  | zero => exact ⟨0, by omega, fun i h => by omega, fun h => by omega⟩
  | succ n ih =>
    obtain ⟨j, h1, h2, h3⟩ := ih
    by_cases hj : j < n
    · exact ⟨j, by omega, h2, fun _ => h3 hj⟩
    · obtain rfl : j = n := by omega
      by_cases hT : T j = t
      · exact ⟨j, by omega, h2, fun _ => hT⟩
      · refine ⟨j + 1, by omega, fun i hi => ?_, fun h => by omega⟩
        by_cases e : i = j
        · rw [e]; exact hT
        · exact h2 i (by omega)

/-- A row of structs of a number and a string. -/
def Row2 (w : World) (a : Addr) (n : Nat) (T : Nat → Int) (S : Nat → ByteArray) : Prop :=
  (0 < n → a.block < w.heap.size) ∧ ∀ i, i < n → w.cell? (a.add (i * 2)) = some (.int .i64 (T i)) ∧ w.cell? { block := (a.add (i * 2)).block, off := (a.add (i * 2)).off + 1 } = some (.string (S i))
theorem add_block (a : Addr) (k : Nat) : (a.add k).block = a.block := by unfold Addr.add; split <;> rfl
theorem Row2.below {w w' : World} {a : Addr} {n : Nat} {T : Nat → Int} {S : Nat → ByteArray} {B : Nat} (h : Row2 w a n T S) (hb : Below B w w') (hB : 0 < n → a.block < B) : Row2 w' a n T S := by
  refine ⟨fun h0 => Nat.lt_of_lt_of_le (h.1 h0) hb.size, fun i hi => ?_⟩
  obtain ⟨h1, h2⟩ := h.2 i hi
  have hlt := hB (by omega)
  exact ⟨(hb.cell (p := a.add (i * 2)) (by rw [add_block]; exact hlt)).trans h1, (hb.cell (p := { block := (a.add (i * 2)).block, off := (a.add (i * 2)).off + 1 }) (by show (a.add (i * 2)).block < B; rw [add_block]; exact hlt)).trans h2⟩

/-- The place that is found from behind. -/
def AtI (T : Nat → Int) (t : Int) (m n : Nat) (x : Int) : Prop := (x = -1 ∧ ∀ q, m ≤ q → q < n → T q ≠ t) ∨ (∃ q : Nat, x = q ∧ m ≤ q ∧ q < n ∧ T q = t ∧ ∀ p, m ≤ p → p < q → T p ≠ t)
theorem AtI.end_ {T : Nat → Int} {t : Int} {n j : Nat} {x : Int} (h : AtI T t 0 n x) (hj : IsFst T t n j) : x = if j < n then (j : Int) else -1 := by
  obtain ⟨j1, j2, j3⟩ := hj
  rcases h with ⟨rfl, h⟩ | ⟨q, rfl, _, hq, hT, hp⟩
  · rw [if_neg]
    intro hjn
    exact h j (by omega) hjn (j3 hjn)
  · have h1 : ¬ q < j := fun k => j2 q k hT
    have h2 : ¬ j < q := fun k => hp j (by omega) k (j3 (by omega))
    obtain rfl : q = j := by omega
    rw [if_pos hq]
theorem AtI.hit {T : Nat → Int} {t : Int} {m n : Nat} (hm : m < n) (hT : T m = t) : AtI T t m n (m : Int) :=
  .inr ⟨m, rfl, Nat.le_refl _, hm, hT, fun p h1 h2 => by omega⟩
theorem AtI.miss {T : Nat → Int} {t : Int} {m n : Nat} {x : Int} (h : AtI T t (m + 1) n x) (hT : T m ≠ t) : AtI T t m n x := by
  rcases h with ⟨e, h⟩ | ⟨q, e, h1, hq, h2, hp⟩
  · refine .inl ⟨e, fun q a b => ?_⟩
    by_cases k : q = m
    · rw [k]; exact hT
    · exact h q (by omega) b
  · refine .inr ⟨q, e, by omega, hq, h2, fun p a b => ?_⟩
    by_cases k : p = m
    · rw [k]; exact hT
    · exact hp p (by omega) b

end Go.Proofs.YtlaemmplemngmaaDoor.par
/- Layer 5: causes that are made by themselves, and the first one of a number. -/
namespace Go.Proofs.YtlaemmplemngmaaDoor.par
open Go.ChangeShapes Go.WideShapes Go.ChangeAt Go.RowKit kit oct
set_option maxRecDepth 100000

theorem asParam_any (t : Int) (s : ByteArray) (w : World) : Calls Tryd.prog 74 #[.agg #[.int .i64 t, .string s]] w fun e w' => e = .returned (.agg #[.int .i64 t, .string s]) ∧ Below w.heap.size w w' := by
  go_enter Tryd.func74, Tryd.ntmps74
  go_wp2
  exact bodyPost_ret (v := .agg #[.int .i64 t, .string s]) (by simp [results, Tryd.results74, go_sem] <;> rfl) rfl ⟨rfl, by repeat (first | exact Below.refl _ _ | (refine Below.alloc ?_ (by simp; try omega) _) | (refine Below.setCell ?_ (by simp) _) | (refine Below.drew ?_))⟩
theorem u32_mask16 (x : Nat) (hx : x ≤ 4294967295) : bits .and .u32 (x : Int) 65535 = (x : Int) % 65536 := by
  have h := u32_and_nat x 65535 (by omega) (by omega)
  have e : x &&& 65535 = x % 65536 := Nat.and_two_pow_sub_one_eq_mod x 16
  rw [e] at h
  rw [show (65535 : Int) = ((65535 : Nat) : Int) from rfl, h]
  omega

theorem low2 (n : Int) (h0 : 0 ≤ n) : filled (p2 (n % 65536)) = (p4 n).extract 2 4 ++ ⟨#[0, 0]⟩ := by
  have e2 : p2 (n % 65536) = strOfNums [n / 256 % 256, n % 256] := by
    unfold p2 be be be
    congr 1
    simp only [List.nil_append, List.cons_append, List.cons.injEq, and_true]
    omega
  have e4 : p4 n = strOfNums [n / 16777216 % 256, n / 65536 % 256, n / 256 % 256, n % 256] := by
    unfold p4 be be be be be
    congr 1
    simp only [List.nil_append, List.cons_append, List.cons.injEq, and_true]
    omega
  have z : zeros 2 = ⟨#[0, 0]⟩ := by decide +kernel
  unfold filled
  rw [p2_size]
  have : (-((2 : Nat) : Int) % 4).toNat = 2 := by decide
  rw [this, z, e2, e4]
  congr 1

end Go.Proofs.YtlaemmplemngmaaDoor.par
/- Layer 5: causes one behind the other, to bytes and back. -/
namespace Go.Proofs.YtlaemmplemngmaaDoor.par
open Go.ChangeShapes Go.WideShapes Go.ChangeAt Go.RowKit kit oct bld
set_option maxRecDepth 100000

theorem putAll_nil (w : World) :
    Calls Tryd.prog 54 #[.slice none 0 0] w fun e w' => e = .returned (.string (cat [])) ∧ Below w.heap.size w w' := by
  have hS := IsB_string w.heap.size w.heap.size ByteArray.empty _ (Lib.fresh_isBuilder 45 5 w) (by simp)
  have e0 : cat [] = ByteArray.empty := rfl
  rw [e0]
  go_enter Tryd.func54, Tryd.ntmps54
  go_wp2_with fail
  refine wp_loop_rounds 1 ?_
  rw [rounds_succ]
  go_wp2_with (go_at_call 20; refine hS.mono ?_; rintro e w2 ⟨rfl, hb2⟩)
  go_ret
  exact ⟨rfl, ((Below.refl _ _).alloc (Nat.le_refl _) _).trans hb2⟩
theorem putAll_own (B : Nat) (v : Value) (ps : List (Int × ByteArray)) (w : World) (hn : ps.length ≤ 16) (h : w.ownsRow B 55 2 v ps.length (cellsP ps)) :
    Calls Tryd.prog 54 #[v] w fun e w' => e = .returned (.string (cat ps)) ∧ Below w.heap.size w w' := by
  rcases own_rowL h with ⟨rfl, rfl⟩ | ⟨g, cap, rfl, _, _, h3, h4, h5⟩
  · exact putAll_nil w
  · exact putAll_row _ cap ps w hn h3 h4 h5

theorem info59 : (Tryd.prog.info? 58).map (fun i => (i.zero, i.size, i.bytes)) = some (some (.agg #[.int .i64 0, .string ByteArray.empty]), 2, 24) := by kernel_rfl
theorem asP_call (p : Int × ByteArray) (w : World) : Calls Tryd.prog 74 #[.agg #[.int .i64 p.1, .string p.2]] w fun e w' => e = .returned (.agg #[.int .i64 p.1, .string p.2]) ∧ Below w.heap.size w w' := asParam_any p.1 p.2 w

set_option maxHeartbeats 2000000 in
theorem cputAll_row (a : Addr) (cap : Nat) (ps : List (Int × ByteArray)) (w : World) (hn : ps.length ≤ 16) (hc : ps.length ≤ cap) (hcm : cap ≤ maxLen) (hr : RowL w a ps) :
    Calls Tryd.prog 57 #[.slice (some a) ps.length cap] w fun e w' => e = .returned (.string (cat ps)) ∧ Below w.heap.size w w' := by
  unfold maxLen at hcm
  obtain ⟨i0, hi, hz0, hz1, hz2⟩ := info_parts info23
  have HR := Lib.hid hr
  clear hr
  go_enter Tryd.func57, Tryd.ntmps57
  go_wp2_with fail
  go_loopw [3, 8] (fun sl si wr => ∃ (ds qs : List (Int × ByteArray)) (v : Value), ps = ds ++ qs ∧ si = .int .i64 (ds.length : Nat) ∧ v = sl ∧ wr.ownsRow w.heap.size 55 2 v ds.length (cellsP ds) ∧ Below w.heap.size w wr) (fun _ si _ => ps.length - (intOf si).toNat)
  case atStart => exact ⟨[], ps, _, rfl, rfl, rfl, World.ownsRow_nil _ _ _ _, Below.refl _ _⟩
  case round =>
    obtain ⟨ds, qs, v, hps, rfl, rfl, hown, bel⟩ := hrel
    have hlen : ds.length + qs.length = ps.length := by rw [hps]; simp
    have HP := Lib.hid hps
    have HO := Lib.hid hown
    clear hps hown
    cases qs with
    | nil =>
      have hd : ds.length = ps.length := by simpa using hlen
      have hq := HP.out
      simp only [List.append_nil] at hq
      have hO := HO.out
      rw [← hq] at hO
      have hS := putAll_own w.heap.size v ps wr hn hO
      obtain ⟨S, hSe⟩ : ∃ S, S = cat ps := ⟨_, rfl⟩
      rw [← hSe] at hS
      have HE := Lib.hid hSe
      clear HP HO HR hlen hq hO hSe
      generalize ps.length = n at *
      rw [hd]
      go_wp2_with (go_at_call 54; refine hS.mono ?_; rintro e w2 ⟨rfl, hb2⟩)
      go_ret
      exact ⟨congrArg (fun s => Ending.returned (.string s)) HE.out, bel.trans (hb2.mono bel.size)⟩
    | cons p qs =>
      obtain ⟨c0, c1⟩ := (HR.out.below bel HR.out.1).2 ds p qs HP.out
      have hlt : ds.length < ps.length := by simp at hlen; omega
      have hB : w.heap.size ≤ wr.heap.size := bel.size
      have N1 := Blk.new wr 58 #[.int .i64 p.1, .string p.2]
      have C1 := fun i => N1.cell i
      have bel1 := bel.alloc hB (.cells #[.int .i64 p.1, .string p.2] 58)
      have own1 := HO.out.alloc (.cells #[.int .i64 p.1, .string p.2] 58)
      have hps : ps = (ds ++ [p]) ++ qs := by rw [HP.out]; simp
      have hlen1 : (ds ++ [p]).length = ds.length + 1 := by simp
      have HP1 := Lib.hid hps
      have HL1 := Lib.hid hlen1
      have HLen := Lib.hid hlen
      have HO1 := Lib.hid own1
      have hAs := asP_call p
      clear HO HP hps hlen1 own1 hlen
      go_wp2_with fail
      generalize wr.alloc (.cells #[.int .i64 p.1, .string p.2] 58) = w1 at *
      refine (hAs _).mono ?_
      rintro e w2 ⟨rfl, hb2⟩
      have bel2 := bel1.trans (hb2.mono bel1.size)
      have own2 := HO1.out.kept (below_grown hb2) (by cases v.ownBlock <;> simp)
      have h63 : ds.length + 1 ≤ maxLen := by unfold maxLen; omega
      clear HO1 N1 C1 hAs
      go_wp2_with (at_builtin; refine wpList_append_own _ rfl _ _ 28 rfl w.heap.size 55 i0 (.agg #[.int .i64 0, .string ByteArray.empty]) 2 24 Tryd.underlying28 hi hz0 hz1 hz2 rfl (by decide) v ds.length (cellsP ds) rfl (own2.alloc _) ⟨w2.heap.size, 0, none⟩ 1 1 [.int .i64 p.1, .string p.2] rfl rfl (cell_two_new _ _ _ _) (by intro u hu; simp at hu; rcases hu with rfl | rfl <;> rfl) h63 (by omega) (by simp; have := bel2.size; omega) ?_; intro v' w8 hown8 hgrow hnil)
      have bel8 := (bel2.alloc bel2.size (.cells #[.int .i64 p.1, .string p.2] 55)).grown hgrow (by simp; have := bel2.size; omega) (fun k hk => (own2.lt k hk).1)
      have own9 : w8.ownsRow w.heap.size 55 2 v' (ds ++ [p]).length (cellsP (ds ++ [p])) := by rw [HL1.out, cellsP_snoc]; exact hown8
      have HO9 := Lib.hid own9
      clear own9 hown8 hgrow hnil own2
      go_wp2_with fail
      go_roundw
      case rel => exact ⟨ds ++ [p], qs, v', HP1.out, by rw [HL1.out]; go_num, rfl, HO9.out, bel8⟩
      case measure => have := HLen.out; simp at this; simp [intOf]; omega
end Go.Proofs.YtlaemmplemngmaaDoor.par
/- Layer 5: causes one behind the other are read again. -/
namespace Go.Proofs.YtlaemmplemngmaaDoor.par
open Go.ChangeShapes Go.WideShapes Go.ChangeAt Go.RowKit kit oct bld
set_option maxRecDepth 100000

theorem own_mono {w : World} {B B' e : Nat} {v : Value} {n : Nat} {xs : List Value} (h : w.ownsRow B e 2 v n xs) (hB : B' ≤ B) : w.ownsRow B' e 2 v n xs := by
  refine ⟨h.1, ?_⟩
  rcases h.2 with h2 | ⟨g, cap, cur, rfl, hb, rest⟩
  · exact .inl h2
  · exact .inr ⟨g, cap, cur, rfl, Nat.le_trans hB hb, rest⟩

/-- What cause.All comes to. -/
def CAllPost (w : World) (ps : List (Int × ByteArray)) (e : Ending) (w' : World) : Prop :=
  ∃ v, e = .returned (.tuple #[v, .int .i64 0]) ∧ w'.ownsRow w.heap.size 58 2 v ps.length (cellsP ps) ∧ Below w.heap.size w w'

end Go.Proofs.YtlaemmplemngmaaDoor.par
/- Layer 4: a parameter has the document's bytes, and is read again; one that may not be has none. -/
namespace Go.Proofs.YtlaemmplemngmaaDoor.par
open Go.ChangeShapes Go.WideShapes Go.ChangeAt Go.RowKit kit oct
set_option maxRecDepth 100000

end Go.Proofs.YtlaemmplemngmaaDoor.par
/- General words, over any program: cells known one by one; structs of many cells loaded and stored at any place. -/
namespace Go.Proofs.YtlaemmplemngmaaDoor.kit
open Go.ChangeShapes Go.WideShapes Go.ChangeAt Go.RowKit

/-- Cells known one by one, from a place of a block on; none of them frozen. -/
def Cel (w : World) (h o : Nat) (cs : Array Value) : Prop := h < w.heap.size ∧ ∀ j u, cs[j]? = some u → w.cell? ⟨h, o + j, none⟩ = some u ∧ w.frozen? ⟨h, o + j, none⟩ = false
section
variable {w w' : World} {h o g : Nat} {cs : Array Value}
theorem Cel.lt (C : Cel w h o cs) : h < w.heap.size := C.1
theorem Cel.cell (C : Cel w h o cs) (j : Nat) {u : Value} (hu : cs[j]? = some u) : w.cell? ⟨h, o + j, none⟩ = some u := (C.2 j u hu).1
theorem Cel.cell0 (C : Cel w h 0 cs) (j : Nat) {u : Value} (hu : cs[j]? = some u) : w.cell? ⟨h, j, none⟩ = some u := by have := (C.2 j u hu).1; rwa [Nat.zero_add] at this
theorem Cel.frozen (C : Cel w h o cs) (j : Nat) (hj : j < cs.size) : w.frozen? ⟨h, o + j, none⟩ = false := (C.2 j _ (Array.getElem?_eq_getElem hj)).2
theorem Cel.frozen0 (C : Cel w h 0 cs) (j : Nat) (hj : j < cs.size) : w.frozen? ⟨h, j, none⟩ = false := by have := C.frozen j hj; rwa [Nat.zero_add] at this
theorem Cel.isSome (C : Cel w h o cs) (j : Nat) (hj : j < cs.size) : (w.cell? ⟨h, o + j, none⟩).isSome = true := by rw [C.cell j (Array.getElem?_eq_getElem hj)]; rfl
theorem Cel.of_blk {t : TypeId} (B : Blk w g t cs) : Cel w g 0 cs := ⟨B.lt, fun j u hu => by rw [Nat.zero_add]; exact ⟨(B.cell j).trans hu, B.frozen j⟩⟩
theorem Cel.drew (C : Cel w h o cs) : Cel w.drew h o cs := C
theorem Cel.below {B : Nat} (C : Cel w h o cs) (hb : Below B w w') (hg : h < B) : Cel w' h o cs :=
  ⟨Nat.lt_of_lt_of_le C.1 hb.size, fun j u hu => ⟨(hb.cell (p := ⟨h, o + j, none⟩) hg).trans (C.2 j u hu).1, (hb.frozen (p := ⟨h, o + j, none⟩) hg).trans (C.2 j u hu).2⟩⟩
theorem Cel.alloc (C : Cel w h o cs) (b : Obj) : Cel (w.alloc b) h o cs := C.below ((Below.refl _ _).alloc (Nat.le_refl _) b) C.1
theorem Cel.far (C : Cel w h o cs) {p : Addr} (hp : h ≠ p.block) (v : Value) : Cel (w.setCell p v) h o cs :=
  ⟨by simpa [World.setCell] using C.1, fun j u hu => ⟨(World.cell?_of_block (a := ⟨h, o + j, none⟩) (Below.heap_setCell w p v h hp)).trans (C.2 j u hu).1, by rw [World.frozen?_setCell]; exact (C.2 j u hu).2⟩⟩
theorem Cel.block (C : Cel w h o cs) (hb : w'.heap[h]? = w.heap[h]?) (hs : h < w'.heap.size) : Cel w' h o cs :=
  ⟨hs, fun j u hu => ⟨(World.cell?_of_block (a := ⟨h, o + j, none⟩) hb).trans (C.2 j u hu).1, (World.frozen?_of_block (a := ⟨h, o + j, none⟩) hb).trans (C.2 j u hu).2⟩⟩
theorem Cel.set_ (C : Cel w h o cs) (i : Nat) (v : Value) : Cel (w.setCell ⟨h, o + i, none⟩ v) h o (cs.setIfInBounds i v) := by
  refine ⟨by simpa [World.setCell] using C.1, fun j u hu => ?_⟩
  rw [World.frozen?_setCell]
  have hj : j < cs.size := by
    have := (Array.getElem?_eq_some_iff.1 hu).1
    simpa using this
  by_cases hij : i = j
  · subst hij
    rw [Array.getElem?_setIfInBounds_self_of_lt hj] at hu
    refine ⟨?_, C.frozen i hj⟩
    rw [World.cell?_setCell_same _ _ _ (C.cell i (Array.getElem?_eq_getElem hj))]
    exact hu
  · rw [Array.getElem?_setIfInBounds_ne hij] at hu
    refine ⟨?_, C.frozen j hj⟩
    rw [World.cell?_setCell_other w _ _ v (by intro e; simp at e; first | done | omega)]
    exact C.cell j hu
theorem size_setCells {w : World} : ∀ (vs : List Value) (o : Nat) (w : World), (w.setCells h o vs).heap.size = w.heap.size
  | [], _, _ => rfl
  | v :: r, o, w => by rw [World.setCells, size_setCells (w := w) r]; simp [World.setCell]
theorem Cel.setCells_same (C : Cel w h o cs) (vs : List Value) (hl : vs.length = cs.size) : Cel (w.setCells h o vs) h o vs.toArray := by
  refine ⟨by rw [size_setCells (w := w)]; exact C.1, fun j u hu => ?_⟩
  have hj : j < vs.length := by simpa using (Array.getElem?_eq_some_iff.1 hu).1
  rw [World.frozen?_setCells]
  refine ⟨?_, C.frozen j (by omega)⟩
  rw [World.cell?_setCells_in h vs o w (fun k hk => C.isSome k (by omega)) j hj]
  simpa [List.getElem?_eq_getElem hj] using hu
theorem Cel.setCells_far (C : Cel w h o cs) (hne : h ≠ g) (k : Nat) (vs : List Value) : Cel (w.setCells g k vs) h o cs := by
  refine ⟨by rw [size_setCells (w := w)]; exact C.1, fun j u hu => ?_⟩
  rw [World.frozen?_setCells, World.cell?_setCells_out g vs k w _ (fun q _ => absurd q hne)]
  exact C.2 j u hu
theorem Cel.setCells_apart (C : Cel w h o cs) (k : Nat) (vs : List Value) (ha : o + cs.size ≤ k ∨ k + vs.length ≤ o) : Cel (w.setCells h k vs) h o cs := by
  refine ⟨by rw [size_setCells (w := w)]; exact C.1, fun j u hu => ?_⟩
  have hj := (Array.getElem?_eq_some_iff.1 hu).1
  rw [World.frozen?_setCells, World.cell?_setCells_out h vs k w _ (fun _ _ => by show o + j < k ∨ k + vs.length ≤ o + j; omega)]
  exact C.2 j u hu
theorem Cel.sub (C : Cel w h o cs) (k n : Nat) : Cel w h (o + k) (cs.extract k n) := by
  refine ⟨C.1, fun j u hu => ?_⟩
  rw [Array.getElem?_extract] at hu
  split at hu
  · have := C.2 (k + j) u hu
    rwa [← Nat.add_assoc] at this
  · cases hu
theorem Cel.of_owns {base : Nat} {e : TypeId} {size n cap : Nat} {xs : List Value} (H : w.ownsRow base e size (.slice (some ⟨g, 0, none⟩) n cap) n xs) : Cel w g 0 xs.toArray := by
  refine ⟨?_, fun j u hu => ?_⟩
  · rcases H.2 with ⟨h', _⟩ | ⟨g', cap', cur, h', _, hg, _⟩
    · simp at h'
    · simp only [Value.slice.injEq, Option.some.injEq, Addr.mk.injEq, and_true, true_and] at h'
      obtain ⟨rfl, rfl⟩ := h'
      exact (Array.getElem?_eq_some_iff.1 hg).1
  · rw [Nat.zero_add]
    have hj : j < n * size := by have := (Array.getElem?_eq_some_iff.1 hu).1; have := H.1; simp at *; omega
    refine ⟨(World.ownsRow.cellAt H j hj).trans ?_, World.ownsRow.frozenAt H j⟩
    simpa using hu
theorem Cel.congr {ds : Array Value} (C : Cel w h o cs) (e : cs = ds) : Cel w h o ds := e ▸ C
end
theorem blk_setCells {w : World} {g h : Nat} {t : TypeId} {cs : Array Value} (B : Blk w g t cs) (hne : g ≠ h) : ∀ (o : Nat) (vs : List Value), Blk (w.setCells h o vs) g t cs := by
  intro o vs
  induction vs generalizing o w with
  | nil => exact B
  | cons v vs ih => exact ih (B.far (p := ⟨h, o, none⟩) hne v) (o + 1)
theorem below_setCells {B g : Nat} {a w : World} (h : Below B a w) (hg : B ≤ g) : ∀ (o : Nat) (vs : List Value), Below B a (w.setCells g o vs) := by
  intro o vs
  induction vs generalizing o w with
  | nil => exact h
  | cons v vs ih => exact ih (h.setCell (p := ⟨g, o, none⟩) hg v) (o + 1)
theorem blk_setRow {w : World} {g h : Nat} {t : TypeId} {cs : Array Value} (B : Blk w g t cs) (hne : g ≠ h) (xs : Array Value) : Blk (w.setRow h xs) g t cs := by
  unfold Blk at *
  unfold World.setRow
  simp [Array.getElem?_modify, Ne.symm hne, B]
theorem cel_setRow {w : World} {g h o : Nat} {cs : Array Value} (C : Cel w g o cs) (hne : g ≠ h) (xs : Array Value) : Cel (w.setRow h xs) g o cs :=
  C.block (setRow_other w h g xs hne) (by simpa using C.1)
theorem below_setRow {B g : Nat} {a w : World} (h : Below B a w) (hg : B ≤ g) (cs : Array Value) : Below B a (w.setRow g cs) := by
  refine ⟨h.os, h.tape, h.output, by simpa using h.size, fun k hk => ?_⟩
  rw [setRow_other w g k cs (by omega)]
  exact h.block k hk

/-- Of what was there, one block alone has turned. -/
structure Only (g : Nat) (w w' : World) : Prop where
  size : w.heap.size ≤ w'.heap.size
  block : ∀ k, k < w.heap.size → k ≠ g → w'.heap[k]? = w.heap[k]?
theorem Only.blk {g k : Nat} {w w' : World} {t : TypeId} {cs : Array Value} (O : Only g w w') (B : Blk w k t cs) (hk : k ≠ g) : Blk w' k t cs := (O.block k B.lt hk).trans B
theorem Only.cel {g h o : Nat} {w w' : World} {cs : Array Value} (O : Only g w w') (C : Cel w h o cs) (hk : h ≠ g) : Cel w' h o cs := C.block (O.block h C.1 hk) (Nat.lt_of_lt_of_le C.1 O.size)
theorem Only.of_below {g : Nat} {w w' : World} (hb : Below w.heap.size w w') : Only g w w' := ⟨hb.size, fun k hk _ => hb.block k hk⟩
theorem Only.trans {g : Nat} {a b c : World} (h : Only g a b) (k : Only g b c) : Only g a c := ⟨Nat.le_trans h.size k.size, fun i hi hg => (k.block i (Nat.lt_of_lt_of_le hi h.size) hg).trans (h.block i hi hg)⟩
theorem Only.setCell {g : Nat} {a b : World} (h : Only g a b) (o : Nat) (v : Value) : Only g a (b.setCell ⟨g, o, none⟩ v) :=
  ⟨by simpa [World.setCell] using h.size, fun i hi hg => (Below.heap_setCell b ⟨g, o, none⟩ v i hg).trans (h.block i hi hg)⟩
theorem Only.alloc {g : Nat} {a b : World} (h : Only g a b) (o : Obj) : Only g a (b.alloc o) := h.trans (Only.of_below ((Below.refl _ _).alloc (Nat.le_refl _) o))
theorem Only.drew {g : Nat} {a b : World} (h : Only g a b) : Only g a b.drew := ⟨h.size, h.block⟩
theorem Only.refl (g : Nat) (w : World) : Only g w w := ⟨Nat.le_refl _, fun _ _ _ => rfl⟩

section
variable {P : Program}
theorem run_loadVar_at {w : World} {h o : Nat} (ty : TypeId) {cs : Array Value} (d : TypeDesc) (C : Cel w h o cs)
    (hu : P.underlying ty = some d) (hd : (match d with | .struct _ | .array _ _ => true | _ => false) = true) (hi : (P.info? ty).map (·.size) = some cs.size) :
    (loadVar ty ⟨h, o, none⟩).run P w = .ok (.agg cs) w := by
  have hl : (loadCells ⟨h, o, none⟩ cs.toList.length).run P w = .ok cs.toList.toArray w :=
    run_loadCells_list (P := P) w ⟨h, o, none⟩ cs.toList (fun j v hv => by
      have hadd : (⟨h, o, none⟩ : Addr).add j = ⟨h, o + j, none⟩ := by unfold Addr.add; split <;> simp_all
      rw [hadd]
      exact C.cell j (by simpa using hv))
  cases hq : P.info? ty with
  | none => simp [hq] at hi
  | some i =>
    have hs : i.size = cs.size := by simpa [hq] using hi
    have hagg : (isAgg ty).run P w = .ok true w := by
      unfold isAgg
      rw [Sem.run_bind, run_underlying hu w]
      cases d <;> simp_all
    simp only [Array.length_toList, Array.toArray_toList] at hl
    simp [loadVar, Sem.run_bind, hagg, sizeOf, typeInfo, hq, hs, hl]
/-- A struct or array loaded out of any place. -/
theorem wpList_load_at {ops : Array Oper} {rest : List Oper} {q : Oper} {a : Act} {w : World} {Q : Exit → Act → World → Prop} (hgd : q.guard = none) (ty : TypeId) (x : Operand) (ho : q.op = .load ty x)
    (h o : Nat) (hx : a.eval x = .pointer (some ⟨h, o, none⟩)) (cs : Array Value) (d : TypeDesc) (C : Cel w h o cs)
    (hu : P.underlying ty = some d) (hd : (match d with | .struct _ | .array _ _ => true | _ => false) = true) (hi : (P.info? ty).map (·.size) = some cs.size)
    (k : wpList P ops Q rest (a.put q.dst (.agg cs)) w) : wpList P ops Q (q :: rest) a w :=
  wpList_plain hgd fun _ hK => by
    unfold Oper.wp execOp
    simp only [ho, hx, Instr.loadAt, Instr.sureAddr, Sem.run_bind, Sem.run_pure, Result.andThen_ok, run_loadVar_at ty d C hu hd hi]
    exact hK _ _ k
theorem run_storeVar_at {w : World} {h o : Nat} (ty : TypeId) {old cs : Array Value} (C : Cel w h o old) (hi : (P.info? ty).map (·.size) = some cs.size)
    (hs : old.size = cs.size) (h1 : cs.all (·.oneCell') = true) :
    (storeVar ty ⟨h, o, none⟩ (.agg cs)).run P w = .ok () (w.setCells h o cs.toList) := by
  have := run_storeCells_cells (P := P) h o cs.toList 0 w (fun j hj => by rw [Nat.add_zero]; exact C.isSome j (by simp at hj; omega)) (fun j hj => by rw [Nat.add_zero]; exact C.frozen j (by simp at hj; omega)) (fun v hv => (Array.all_eq_true_iff_forall_mem.1 h1) v (by simpa using hv))
  rw [Nat.add_zero] at this
  cases hq : P.info? ty with
  | none => simp [hq] at hi
  | some i =>
    have hs : cs.size = i.size := by simp [hq] at hi; omega
    simp [storeVar, sizeOf, typeInfo, hq, Value.cells, hs, this]
/-- A struct or array stored at any place. -/
theorem wpList_store_at {ops : Array Oper} {rest : List Oper} {q : Oper} {a : Act} {w : World} {Q : Exit → Act → World → Prop} (hgd : q.guard = none) (ty : TypeId) (x y : Operand) (ho : q.op = .store ty x y)
    (h o : Nat) (cs : Array Value) (hx : a.eval x = .pointer (some ⟨h, o, none⟩)) (hy : a.eval y = .agg cs)
    (old : Array Value) (C : Cel w h o old) (hi : (P.info? ty).map (·.size) = some cs.size) (hs : old.size = cs.size) (h1 : cs.all (·.oneCell') = true)
    (k : wpList P ops Q rest (a.put q.dst undef) (w.setCells h o cs.toList)) : wpList P ops Q (q :: rest) a w :=
  wpList_plain hgd fun _ hK => by
    unfold Oper.wp execOp
    simp only [ho, hx, hy, Instr.storeAt, Instr.sureAddr, Sem.run_bind, Sem.run_pure, Result.andThen_ok, run_storeVar_at ty C hi hs h1]
    exact hK _ _ k
/-- A result that lies in memory. -/
theorem results_cell_at {fn : Func} {p : Tmp} {ty : TypeId} (hr : fn.results = #[.cell p ty]) (tmps : Array Value) (w : World) (h o : Nat) (cs : Array Value) (d : TypeDesc)
    (hp : tmps.getD p undef = .pointer (some ⟨h, o, none⟩)) (C : Cel w h o cs)
    (hu : P.underlying ty = some d) (hd : (match d with | .struct _ | .array _ _ => true | _ => false) = true) (hi : (P.info? ty).map (·.size) = some cs.size) :
    (results fn tmps).run P w = .ok (.agg cs) w := by
  have hp' : tmps[p]?.getD undef = .pointer (some ⟨h, o, none⟩) := by simpa using hp
  simp [results, hr, hp', asAddr, run_loadVar_at ty d C hu hd hi]
/-- Two results, the first of which lies in memory. -/
theorem results_cell_tmp_at {fn : Func} {p u : Tmp} {ty : TypeId} (hr : fn.results = #[.cell p ty, .tmp u]) (tmps : Array Value) (w : World) (h o : Nat) (cs : Array Value) (d : TypeDesc)
    (hp : tmps.getD p undef = .pointer (some ⟨h, o, none⟩)) (C : Cel w h o cs)
    (hu : P.underlying ty = some d) (hd : (match d with | .struct _ | .array _ _ => true | _ => false) = true) (hi : (P.info? ty).map (·.size) = some cs.size) :
    (results fn tmps).run P w = .ok (.tuple #[.agg cs, tmps.getD u undef]) w := by
  rw [results_cell_tmp hr, hp]
  simp [asAddr, run_loadVar_at ty d C hu hd hi]
end
end Go.Proofs.YtlaemmplemngmaaDoor.kit
/- General words, over any program: a call by its contract, as one step of a region that draws its order. -/
namespace Go.Proofs.YtlaemmplemngmaaDoor.kit
theorem step_call {P : Program} {ops : Array Oper} {o : Oper} {a : Act} {w : World} {K : Act → World → Prop} {Q : Exit → Act → World → Prop} {E : Prop}
    (hg : o.guard = none) (f : FuncId) (fn : Func) (xs : Array Operand) (ts : Array TypeId) (hop : o.op = .call { callee := .value (.func f), args := xs, argTypes := ts })
    (hf : P.funcs[f]? = some fn) (hn : (fn.name == "runtime.NumGoroutine") = false) (hb : fn.body.isNone = false)
    (vs : Array Value) (hx : xs.map a.eval = vs) {v : Value} {R : World → Prop} (h : Calls P f vs w fun e w' => e = .returned v ∧ R w') (k : ∀ w', R w' → K (a.put o.dst v) w') :
    if Region.wanted o (yielded ops a.tmps) = true then Oper.wp P o a w K Q else E := by
  subst hx
  have hw : Region.wanted o (yielded ops a.tmps) = true := by simp [Region.wanted, hg]
  rw [if_pos hw]
  have hrun : (execOp a.eval o).run P w = .ok (.enter f (xs.map a.eval)) w := by
    have h1 : ¬ fn.name = "runtime.NumGoroutine" := by simpa using hn
    have h2 : ¬ fn.body = none := by intro q; rw [q] at hb; cases hb
    simp [execOp, hop, resolve, invoke, Act.eval, Result.andThen, Deferred.ofValue, callFunc, hf, h1, h2]
  unfold Oper.wp
  rw [hrun]
  exact h.mono fun e w' ⟨he, hr⟩ => by subst he; exact k w' hr
/-- The same of a call that stands behind a guard. -/
theorem step_callg {P : Program} {ops : Array Oper} {o : Oper} {a : Act} {w : World} {K : Act → World → Prop} {Q : Exit → Act → World → Prop} {E : Prop}
    (hw : Region.wanted o (yielded ops a.tmps) = true) (f : FuncId) (fn : Func) (xs : Array Operand) (ts : Array TypeId) (hop : o.op = .call { callee := .value (.func f), args := xs, argTypes := ts })
    (hf : P.funcs[f]? = some fn) (hn : (fn.name == "runtime.NumGoroutine") = false) (hb : fn.body.isNone = false)
    (vs : Array Value) (hx : xs.map a.eval = vs) {v : Value} {R : World → Prop} (h : Calls P f vs w fun e w' => e = .returned v ∧ R w') (k : ∀ w', R w' → K (a.put o.dst v) w') :
    if Region.wanted o (yielded ops a.tmps) = true then Oper.wp P o a w K Q else E := by
  subst hx
  rw [if_pos hw]
  have hrun : (execOp a.eval o).run P w = .ok (.enter f (xs.map a.eval)) w := by
    have h1 : ¬ fn.name = "runtime.NumGoroutine" := by simpa using hn
    have h2 : ¬ fn.body = none := by intro q; rw [q] at hb; cases hb
    simp [execOp, hop, resolve, invoke, Act.eval, Result.andThen, Deferred.ofValue, callFunc, hf, h1, h2]
  unfold Oper.wp
  rw [hrun]
  exact h.mono fun e w' ⟨he, hr⟩ => by subst he; exact k w' hr
/-- The same by a contract of any form. -/
theorem step_call2 {P : Program} {ops : Array Oper} {o : Oper} {a : Act} {w : World} {K : Act → World → Prop} {Q : Exit → Act → World → Prop} {E : Prop}
    (hg : o.guard = none) (f : FuncId) (fn : Func) (xs : Array Operand) (ts : Array TypeId) (hop : o.op = .call { callee := .value (.func f), args := xs, argTypes := ts })
    (hf : P.funcs[f]? = some fn) (hn : (fn.name == "runtime.NumGoroutine") = false) (hb : fn.body.isNone = false)
    (vs : Array Value) (hx : xs.map a.eval = vs) {R : Ending → World → Prop} (h : Calls P f vs w R) (k : ∀ e w', R e w' → ∃ v, e = .returned v ∧ K (a.put o.dst v) w') :
    if Region.wanted o (yielded ops a.tmps) = true then Oper.wp P o a w K Q else E := by
  subst hx
  have hw : Region.wanted o (yielded ops a.tmps) = true := by simp [Region.wanted, hg]
  rw [if_pos hw]
  have hrun : (execOp a.eval o).run P w = .ok (.enter f (xs.map a.eval)) w := by
    have h1 : ¬ fn.name = "runtime.NumGoroutine" := by simpa using hn
    have h2 : ¬ fn.body = none := by intro q; rw [q] at hb; cases hb
    simp [execOp, hop, resolve, invoke, Act.eval, Result.andThen, Deferred.ofValue, callFunc, hf, h1, h2]
  unfold Oper.wp
  rw [hrun]
  exact h.mono fun e w' hr => by obtain ⟨v, rfl, hk⟩ := k e w' hr; exact hk
/-- A struct or array loaded out of any place, behind a guard that lets it. -/
theorem wpList_load_at_g {P : Program} {ops : Array Oper} {rest : List Oper} {q : Oper} {a : Act} {w : World} {Q : Exit → Act → World → Prop} (hgd : Region.wanted q (yielded ops a.tmps) = true) (ty : TypeId) (x : Operand) (ho : q.op = .load ty x)
    (h o : Nat) (hx : a.eval x = .pointer (some ⟨h, o, none⟩)) (cs : Array Value) (d : TypeDesc) (C : Cel w h o cs)
    (hu : P.underlying ty = some d) (hd : (match d with | .struct _ | .array _ _ => true | _ => false) = true) (hi : (P.info? ty).map (·.size) = some cs.size)
    (k : wpList P ops Q rest (a.put q.dst (.agg cs)) w) : wpList P ops Q (q :: rest) a w :=
  wpList_step fun K hK => by
    rw [if_pos hgd]
    unfold Oper.wp execOp
    simp only [ho, hx, Instr.loadAt, Instr.sureAddr, Sem.run_bind, Sem.run_pure, Result.andThen_ok, run_loadVar_at ty d C hu hd hi]
    exact hK _ _ k
end Go.Proofs.YtlaemmplemngmaaDoor.kit
/- General words, over any program: rows that are owned. -/
namespace Go.Proofs.YtlaemmplemngmaaDoor.kit
open Go.ChangeShapes Go.WideShapes Go.ChangeAt Go.RowKit

theorem blk_setCells_own {h : Nat} {t : TypeId} : ∀ (vs : List Value) (o : Nat) (w : World) (cur : Array Value), Blk w h t cur → ∃ cur', Blk (w.setCells h o vs) h t cur' ∧ cur'.size = cur.size
  | [], _, _, cur, B => ⟨cur, B, rfl⟩
  | v :: r, o, w, cur, B => by
    obtain ⟨c, B', hs⟩ := blk_setCells_own r (o + 1) _ _ (B.set_ o v)
    exact ⟨c, B', by simpa using hs⟩
section
variable {w w' : World} {b0 n size : Nat} {t : TypeId} {v : Value} {xs : List Value}
theorem own_blk {h cap : Nat} (own : w.ownsRow b0 t size (.slice (some ⟨h, 0, none⟩) n cap) n xs) : ∃ cur, Blk w h t cur ∧ b0 ≤ h ∧ n ≤ cap ∧ cap ≤ maxLen ∧ cur.size = cap * size := by
  rcases own.2 with ⟨q, _⟩ | ⟨h', cap', cur, q, hb, hg, hn, hm, hs, _⟩
  · simp at q
  · simp only [Value.slice.injEq, Option.some.injEq, Addr.mk.injEq, and_true, true_and] at q
    obtain ⟨rfl, rfl⟩ := q
    exact ⟨cur, hg, hb, hn, hm, hs⟩
/-- Nobody's part: the row is there still. -/
theorem own_none {h cap : Nat} {cur : Array Value} (B : Blk w h t cur) (hb : b0 ≤ h) (hm : cap ≤ maxLen) (hs : cur.size = cap * size) : w.ownsRow b0 t size (.slice (some ⟨h, 0, none⟩) 0 cap) 0 [] :=
  ⟨by simp, .inr ⟨h, cap, cur, rfl, hb, B, Nat.zero_le _, hm, hs, by simp⟩⟩
theorem own_below {B : Nat} (own : w.ownsRow b0 t size v n xs) (hb : Below B w w') (hv : ∀ k, v.ownBlock = some k → k < B) : w'.ownsRow b0 t size v n xs := by
  refine ⟨own.1, ?_⟩
  rcases own.2 with q | ⟨h, cap, cur, rfl, q1, q2, q3⟩
  · exact .inl q
  · exact .inr ⟨h, cap, cur, rfl, q1, (hb.block h (hv h rfl)).trans q2, q3⟩
theorem own_lt (own : w.ownsRow b0 t size v n xs) : ∀ k, v.ownBlock = some k → k < w.heap.size := by
  intro k hk
  rcases own.2 with ⟨rfl, _⟩ | ⟨h, cap, cur, rfl, q1, q2, _⟩
  · cases hk
  · cases hk; exact (Array.getElem?_eq_some_iff.1 q2).1
theorem own_ge (own : w.ownsRow b0 t size v n xs) : ∀ k, v.ownBlock = some k → b0 ≤ k := by
  intro k hk
  rcases own.2 with ⟨rfl, _⟩ | ⟨h, cap, cur, rfl, q1, _⟩
  · cases hk
  · cases hk; exact q1
theorem own_other (own : w.ownsRow b0 t size v n xs) (hb : ∀ k, v.ownBlock = some k → w'.heap[k]? = w.heap[k]?) : w'.ownsRow b0 t size v n xs := by
  refine ⟨own.1, ?_⟩
  rcases own.2 with q | ⟨h, cap, cur, rfl, q1, q2, q3⟩
  · exact .inl q
  · exact .inr ⟨h, cap, cur, rfl, q1, (hb h rfl).trans q2, q3⟩
theorem own_all (own : w.ownsRow b0 t size v n xs) (hb : Below w.heap.size w w') : w'.ownsRow b0 t size v n xs := own_below own hb (own_lt own)
end
end Go.Proofs.YtlaemmplemngmaaDoor.kit
/- General words, over any program: rows that are shifted ('q = q[1:]') and appended to. -/
namespace Go.Proofs.YtlaemmplemngmaaDoor.kit
open Go.ChangeShapes Go.WideShapes Go.ChangeAt Go.RowKit

/-- The block in which a slice's cells lie. -/
def blkOf : Value → Option Nat
  | .slice (some a) _ (_ + 1) => some a.block
  | _ => none
theorem blkOf_pos {a : Addr} {n cap : Nat} (h : 0 < cap) : blkOf (.slice (some a) n cap) = some a.block := by
  cases cap with
  | zero => omega
  | succ c => rfl
theorem blkOf_zero {a : Option Addr} {n : Nat} : blkOf (.slice a n 0) = none := by cases a <;> rfl
theorem add_some (g o k : Nat) : (⟨g, o, none⟩ : Addr).add k = ⟨g, o + k, none⟩ := by unfold Addr.add; split <;> simp_all
/-- A row of one's own, wherever it begins in its block. -/
structure Qo (w : World) (b0 size : Nat) (v : Value) (n : Nat) (xs : List Value) : Prop where
  len : xs.length = n * size
  val : ∃ oa cap, v = .slice oa n cap ∧ n ≤ cap ∧ cap ≤ maxLen ∧ (0 < cap → ∃ g off, oa = some ⟨g, off, none⟩ ∧ b0 ≤ g ∧ g < w.heap.size ∧ (∀ j, j < cap * size → (w.cell? ⟨g, off + j, none⟩).isSome = true ∧ w.frozen? ⟨g, off + j, none⟩ = false) ∧ ∀ j, j < n * size → w.cell? ⟨g, off + j, none⟩ = xs[j]?)
section
variable {w w' : World} {b0 size n : Nat} {v : Value} {xs : List Value}
theorem Qo.nil (w : World) (b0 size : Nat) : Qo w b0 size (.slice none 0 0) 0 [] := ⟨by simp, none, 0, rfl, Nat.le_refl _, by unfold maxLen; omega, fun h => absurd h (Nat.lt_irrefl 0)⟩
theorem Qo.empty (w : World) (b0 size : Nat) (a : Option Addr) : Qo w b0 size (.slice a 0 0) 0 [] := ⟨by simp, a, 0, rfl, Nat.le_refl _, by unfold maxLen; omega, fun h => absurd h (Nat.lt_irrefl 0)⟩
theorem Qo.lt (q : Qo w b0 size v n xs) {g : Nat} (h : blkOf v = some g) : b0 ≤ g ∧ g < w.heap.size := by
  obtain ⟨oa, cap, rfl, h1, h2, h3⟩ := q.val
  rcases Nat.eq_zero_or_pos cap with h0 | h0
  · subst h0; rw [blkOf_zero] at h; cases h
  · obtain ⟨g', off, rfl, h4, h5, _⟩ := h3 h0
    rw [blkOf_pos h0] at h
    cases h
    exact ⟨h4, h5⟩
theorem Qo.block (q : Qo w b0 size v n xs) (hs : w.heap.size ≤ w'.heap.size) (hb : ∀ g, blkOf v = some g → w'.heap[g]? = w.heap[g]?) : Qo w' b0 size v n xs := by
  obtain ⟨oa, cap, rfl, h1, h2, h3⟩ := q.val
  refine ⟨q.len, oa, cap, rfl, h1, h2, fun h0 => ?_⟩
  obtain ⟨g, off, rfl, h4, h5, h6, h7⟩ := h3 h0
  have e := hb g (blkOf_pos h0)
  refine ⟨g, off, rfl, h4, Nat.lt_of_lt_of_le h5 hs, fun j hj => ?_, fun j hj => ?_⟩
  · rw [World.cell?_of_block (a := ⟨g, off + j, none⟩) e, World.frozen?_of_block (a := ⟨g, off + j, none⟩) e]
    exact h6 j hj
  · rw [World.cell?_of_block (a := ⟨g, off + j, none⟩) e]
    exact h7 j hj
theorem Qo.below {k : Nat} (q : Qo w b0 size v n xs) (hb : Below k w w') (hk : w.heap.size ≤ k) : Qo w' b0 size v n xs :=
  q.block hb.size fun g hg => hb.block g (Nat.lt_of_lt_of_le (q.lt hg).2 hk)
theorem Qo.alloc (q : Qo w b0 size v n xs) (o : Obj) : Qo (w.alloc o) b0 size v n xs := q.below ((Below.refl w.heap.size w).alloc (Nat.le_refl _) o) (Nat.le_refl _)
theorem Qo.drew (q : Qo w b0 size v n xs) : Qo w.drew b0 size v n xs := q.block (Nat.le_refl _) fun _ _ => rfl
theorem Qo.far (q : Qo w b0 size v n xs) {p : Addr} (hp : blkOf v ≠ some p.block) (u : Value) : Qo (w.setCell p u) b0 size v n xs :=
  q.block (by simp [World.setCell]) fun g hg => Below.heap_setCell w p u g (fun e => hp (by rw [hg, e]))
theorem Qo.weaken {b1 : Nat} (q : Qo w b0 size v n xs) (h : b1 ≤ b0) : Qo w b1 size v n xs := by
  obtain ⟨oa, cap, rfl, h1, h2, h3⟩ := q.val
  refine ⟨q.len, oa, cap, rfl, h1, h2, fun h0 => ?_⟩
  obtain ⟨g, off, e, h4, h5⟩ := h3 h0
  exact ⟨g, off, e, Nat.le_trans h h4, h5⟩
/-- A row at its block's head. -/
theorem Qo.of_owns {t : TypeId} (own : w.ownsRow b0 t size v n xs) : Qo w b0 size v n xs := by
  rcases own.2 with ⟨rfl, rfl⟩ | ⟨g, cap, cur, rfl, hb, hg, hn, hm, hs, ht⟩
  · have hc : xs = [] := List.length_eq_zero_iff.1 (by rw [own.1, Nat.zero_mul])
    subst hc
    exact Qo.nil w b0 size
  · have B : Blk w g t cur := hg
    refine ⟨own.1, _, cap, rfl, hn, hm, fun h0 => ⟨g, 0, rfl, hb, B.lt, fun j hj => ?_, fun j hj => ?_⟩⟩
    · rw [Nat.zero_add]
      exact ⟨by rw [B.cell j, Array.getElem?_eq_getElem (by omega)]; rfl, B.frozen j⟩
    · rw [Nat.zero_add, B.cell j, ← ht, List.getElem?_take, if_pos hj, Array.getElem?_toList]
/-- The row is shown. -/
theorem Qo.shape (q : Qo w b0 size v n xs) : ∃ oa cap, v = .slice oa n cap ∧ n ≤ cap ∧ cap ≤ maxLen := by
  obtain ⟨oa, cap, h, h1, h2, _⟩ := q.val
  exact ⟨oa, cap, h, h1, h2⟩
/-- Where its elements lie. -/
theorem Qo.show_ (q : Qo w b0 size v n xs) (hn : 0 < n) : ∃ g off cap, v = .slice (some ⟨g, off, none⟩) n cap ∧ n ≤ cap ∧ cap ≤ maxLen ∧ b0 ≤ g ∧ g < w.heap.size ∧ blkOf v = some g ∧ (∀ k (cs : Array Value), k < n → cs.size ≤ size → (∀ j, j < cs.size → cs[j]? = xs[k * size + j]?) → Cel w g (off + k * size) cs) := by
  obtain ⟨oa, cap, rfl, h1, h2, h3⟩ := q.val
  obtain ⟨g, off, rfl, h4, h5, h6, h7⟩ := h3 (by omega)
  refine ⟨g, off, cap, rfl, h1, h2, h4, h5, blkOf_pos (by omega), fun k cs hk hc hx => ⟨h5, fun j u hu => ?_⟩⟩
  have hj : j < cs.size := (Array.getElem?_eq_some_iff.1 hu).1
  have hkn : k * size + j < n * size := by
    have : (k + 1) * size ≤ n * size := Nat.mul_le_mul_right _ hk
    rw [Nat.add_mul, Nat.one_mul] at this
    omega
  have hnc : n * size ≤ cap * size := Nat.mul_le_mul_right _ h1
  rw [Nat.add_assoc, h7 _ hkn, ← hx j hj, hu]
  exact ⟨rfl, (h6 _ (by omega)).2⟩
end
section
variable {P : Program} {w w' : World} {b0 size n : Nat} {v : Value} {xs : List Value}
/-- What it yields as what is appended. -/
theorem Qo.src (q : Qo w b0 size v n xs) {tx e' : TypeId} (hk : P.underlying tx = some (.slice e')) (h1 : ∀ u ∈ xs, u.oneCell' = true) : Src P size tx v n xs w := by
  obtain ⟨oa, cap, rfl, hn, hm, h3⟩ := q.val
  rcases Nat.eq_zero_or_pos cap with h0 | h0
  · subst h0
    obtain rfl : n = 0 := by omega
    have hc : xs = [] := List.length_eq_zero_iff.1 (by rw [q.len, Nat.zero_mul])
    subst hc
    cases oa with
    | none => exact Src.ofNil w hk 0
    | some a => exact Src.ofSlice w hk a 0 0 [] (by simp) (fun j u hu => by simp at hu) (fun u hu => by simp at hu)
  · obtain ⟨g, off, rfl, h4, h5, h6, h7⟩ := h3 h0
    exact Src.ofSlice w hk _ n cap xs q.len (fun j u hu => by
      rw [add_some, h7 j (by rw [← q.len]; exact (List.getElem?_eq_some_iff.1 hu).1), hu]) h1
/-- More behind it, out of whatever source. -/
theorem qo_append {t tx ty e : TypeId} {i : TypeInfo} {z : Value} {bytes m : Nat} {x : Value} {news : List Value} (ht : P.underlying t = some (.slice e)) (hi : P.info? e = some i) (hz : i.zero = some z) (hsize : i.size = size) (hby : i.bytes = bytes) (hzs : z.cells.size = size)
    (q : Qo w b0 size v n xs) (s : Src P size tx x m news w) (h63 : n + m ≤ maxLen) (hbytes : (n + m) * bytes ≤ 140737488355328) (hb : b0 ≤ w.heap.size) :
    ∃ v' w', (Builtin.append_ #[t, tx] ty #[v, x]).run P w = .ok v' w' ∧ Qo w' b0 size v' (n + m) (xs ++ news) ∧ w.grownBy w' (blkOf v) ∧ (blkOf v' = blkOf v ∨ blkOf v' = some w.heap.size ∨ blkOf v' = none) := by
  subst hsize
  subst hby
  obtain ⟨oa, cap, rfl, hn, hm, h3⟩ := q.val
  have hl := q.len
  have hnl := s.newsLen
  by_cases hr : n + m ≤ cap
  · rcases Nat.eq_zero_or_pos cap with h0 | h0
    · subst h0
      obtain rfl : n = 0 := by omega
      obtain rfl : m = 0 := by omega
      have hc : news = [] := List.length_eq_zero_iff.1 (by rw [hnl, Nat.zero_mul])
      subst hc
      exact ⟨_, w, run_append_nothing (P := P) w t tx ty e i ht hi oa 0 0 (Nat.le_refl _) x s, by simpa using q, ⟨rfl, rfl, rfl, Nat.le_refl _, fun _ _ _ => rfl⟩, .inl rfl⟩
    · obtain ⟨g, off, rfl, h4, h5, h6, h7⟩ := h3 h0
      have hnm : (n + m) * i.size ≤ cap * i.size := Nat.mul_le_mul_right _ hr
      rw [Nat.add_mul] at hnm
      have hc : ∀ j, j < news.length → (w.cell? ⟨g, off + n * i.size + j, none⟩).isSome = true := fun j hj => by rw [Nat.add_assoc]; exact (h6 _ (by omega)).1
      have hf : ∀ j, j < news.length → w.frozen? ⟨g, off + n * i.size + j, none⟩ = false := fun j hj => by rw [Nat.add_assoc]; exact (h6 _ (by omega)).2
      have hin := World.cell?_setCells_in g news (off + n * i.size) w hc
      have hout := World.cell?_setCells_out g news (off + n * i.size) w
      refine ⟨_, _, run_append_room_src (P := P) w t tx ty e i ht hi g off n cap x m news s hr hc hf, ⟨by rw [List.length_append, hl, hnl, Nat.add_mul], _, cap, rfl, hr, hm, fun _ => ⟨g, off, rfl, h4, by rw [size_setCells (w := w)]; exact h5, fun j hj => ⟨?_, ?_⟩, fun j hj => ?_⟩⟩, ?_, .inl (by rw [blkOf_pos h0, blkOf_pos h0])⟩
      · by_cases hj1 : j < n * i.size
        · rw [hout ⟨g, off + j, none⟩ (fun _ _ => .inl (by show off + j < off + n * i.size; omega))]
          exact (h6 j hj).1
        · by_cases hj2 : j < n * i.size + news.length
          · rw [show off + j = off + n * i.size + (j - n * i.size) by omega, hin _ (by omega)]
            rfl
          · rw [hout ⟨g, off + j, none⟩ (fun _ _ => .inr (by show off + n * i.size + news.length ≤ off + j; omega))]
            exact (h6 j hj).1
      · rw [World.frozen?_setCells]
        exact (h6 j hj).2
      · rw [Nat.add_mul] at hj
        by_cases hj1 : j < n * i.size
        · rw [hout ⟨g, off + j, none⟩ (fun _ _ => .inl (by show off + j < off + n * i.size; omega)), h7 j hj1, List.getElem?_append_left (by omega)]
        · rw [show off + j = off + n * i.size + (j - n * i.size) by omega, hin _ (by omega), List.getElem?_append_right (by omega), hl, List.getElem?_eq_getElem (by omega)]
      · refine ⟨?_, ?_, ?_, by rw [size_setCells (w := w)]; exact Nat.le_refl _, fun k hk hne => ?_⟩
        · exact (below_setCells (Below.refl g w) (Nat.le_refl _) _ news).os
        · exact (below_setCells (Below.refl g w) (Nat.le_refl _) _ news).tape
        · exact (below_setCells (Below.refl g w) (Nat.le_refl _) _ news).output
        · have hkg : k ≠ g := fun e => hne (by rw [blkOf_pos h0, e])
          clear hin hout hc hf
          have : ∀ (vs : List Value) (o : Nat) (w : World), (w.setCells g o vs).heap[k]? = w.heap[k]? := by
            intro vs
            induction vs with
            | nil => intro _ _; rfl
            | cons v r ih => intro o w; exact (ih (o + 1) _).trans (Below.heap_setCell w ⟨g, o, none⟩ v k hkg)
          exact this _ _ _
  · have hold : (Builtin.firstCells i.size n (.slice oa n cap)).run P w.drew = .ok xs.toArray w.drew := by
      rcases Nat.eq_zero_or_pos cap with h0 | h0
      · obtain rfl : n = 0 := by omega
        have hc : xs = [] := List.length_eq_zero_iff.1 (by rw [hl, Nat.zero_mul])
        subst hc
        cases oa with
        | none => exact run_firstCells_none w.drew _ _ _ _
        | some a => exact run_firstCells_some w.drew i.size 0 a 0 cap [] (by simp) (fun j u hu => by simp at hu)
      · obtain ⟨g, off, rfl, h4, h5, h6, h7⟩ := h3 h0
        exact run_firstCells_some w.drew i.size n _ n cap xs hl (fun j u hu => by
          rw [add_some]
          exact (h7 j (by rw [← hl]; exact (List.getElem?_eq_some_iff.1 hu).1)).trans hu)
    have hrun := run_append_grow_src (P := P) w t tx ty e i z ht hi hz oa n cap xs hold x m news s (by omega) (by unfold maxLen at h63; omega) (growslice_fits (by omega) hbytes)
    have hge := grownCap_ge w (n + m) cap e
    have hcm := grownCap_le_maxLen w (n + m) cap e h63
    have hL : (xs ++ news).length = (n + m) * i.size := by rw [List.length_append, hl, hnl, Nat.add_mul]
    have hsz : ((xs ++ news).toArray ++ Builtin.zeroCells z.cells (grownCap w (n + m) cap e - (n + m))).size = grownCap w (n + m) cap e * i.size := by
      rw [Array.size_append, List.size_toArray, hL, size_zeroCells, hzs, ← Nat.add_mul]
      congr 1
      omega
    refine ⟨_, _, hrun, ⟨hL, _, _, rfl, hge, hcm, fun h0 => ⟨w.heap.size, 0, rfl, hb, (by show w.heap.size < _; simp), fun j hj => ?_, fun j hj => ?_⟩⟩, ⟨rfl, rfl, rfl, by simp, fun k hk _ => Below.heap_alloc w.drew _ k hk⟩, ?_⟩
    · have e1 : (w.drew.alloc (.cells ((xs ++ news).toArray ++ Builtin.zeroCells z.cells (grownCap w (n + m) cap e - (n + m))) e)).cell? ⟨w.heap.size, 0 + j, none⟩ = _ := World.cell?_alloc_new w.drew _ _ (0 + j)
      refine ⟨?_, World.frozen?_alloc_new w.drew _ _ (0 + j)⟩
      rw [e1, Array.getElem?_eq_getElem (by rw [hsz]; omega)]
      rfl
    · have e1 : (w.drew.alloc (.cells ((xs ++ news).toArray ++ Builtin.zeroCells z.cells (grownCap w (n + m) cap e - (n + m))) e)).cell? ⟨w.heap.size, 0 + j, none⟩ = _ := World.cell?_alloc_new w.drew _ _ (0 + j)
      rw [e1, Nat.zero_add, Array.getElem?_append_left (by rw [List.size_toArray, hL]; exact hj), List.getElem?_toArray]
    · right
      rcases Nat.eq_zero_or_pos (grownCap w (n + m) cap e) with h0 | h0
      · rw [h0]; exact .inr blkOf_zero
      · exact .inl (blkOf_pos h0)
/-- 'q[1:]'. -/
theorem qo_tail {t e : TypeId} (ht : P.underlying t = some (.slice e)) (hi : (P.info? e).map (·.size) = some size) (q : Qo w b0 size v n xs) (hn : 0 < n) (k : IntKind) : ∃ v', (∀ W, (Instr.slice t v (some (.int k 1)) none none).run P W = .ok v' W) ∧ Qo w b0 size v' (n - 1) (xs.drop size) ∧ (blkOf v' = blkOf v ∨ blkOf v' = none) := by
  obtain ⟨oa, cap, rfl, hc, hm, h3⟩ := q.val
  obtain ⟨g, off, rfl, h4, h5, h6, h7⟩ := h3 (by omega)
  have hl := q.len
  cases hi' : P.info? e with
  | none => rw [hi'] at hi; cases hi
  | some i =>
    have hsz : i.size = size := by rw [hi'] at hi; exact Option.some.inj hi
    refine ⟨.slice (if cap = 1 then some ⟨g, off, none⟩ else some ⟨g, off + size, none⟩) (n - 1) (cap - 1), fun W => ?_, ⟨?_, _, cap - 1, rfl, by omega, by omega, fun h0 => ?_⟩, ?_⟩
    · have h1 : (1 : Int) ≤ (n : Int) := by omega
      have h2 : (cap = 1) = ((cap : Int) = 1) := by simp; omega
      simp [Instr.slice, run_underlying ht, Instr.sliceBounds, run_sliceBound, sizeOf, typeInfo, hi', hsz, h1, add_some]
    · rw [List.length_drop, hl, Nat.sub_mul, Nat.one_mul]
    · rw [if_neg (by omega)]
      have hcs : (cap - 1) * size + size = cap * size := by rw [← Nat.succ_mul, Nat.succ_eq_add_one, show cap - 1 + 1 = cap by omega]
      have hns : (n - 1) * size + size = n * size := by rw [← Nat.succ_mul, Nat.succ_eq_add_one, show n - 1 + 1 = n by omega]
      refine ⟨g, off + size, rfl, h4, h5, fun j hj => ?_, fun j hj => ?_⟩
      · rw [Nat.add_assoc]
        exact h6 _ (by omega)
      · rw [Nat.add_assoc, h7 _ (by omega), List.getElem?_drop]
    · rcases Nat.eq_zero_or_pos (cap - 1) with h0 | h0
      · right; rw [h0]; exact blkOf_zero
      · left
        rw [if_neg (by omega), blkOf_pos h0, blkOf_pos (by omega)]
end
end Go.Proofs.YtlaemmplemngmaaDoor.kit
/- General words, over any program: a region that draws its order and appends twice: 'q = append(append([]T{}, src...), item)'. -/
namespace Go.Proofs.YtlaemmplemngmaaDoor.kit
open Go.ChangeShapes Go.WideShapes Go.ChangeAt Go.RowKit

section
variable {P : Program} {ops : Array Oper} {Q : Exit → Act → World → Prop} {S : World → Prop}

/-- 'append(v, src...)', src a row of one's own, or nil. -/
theorem run_append_src {w : World} (t ty : TypeId) {e : TypeId} {i : TypeInfo} {z : Value} {size bytes base bq n m : Nat} (ht : P.underlying t = some (.slice e)) (hi : P.info? e = some i) (hz : i.zero = some z)
    (hsize : i.size = size) (hby : i.bytes = bytes) (hzs : z.cells.size = size) (hsz : 0 < size)
    {v sv : Value} {xs cells : List Value} (hown : w.ownsRow base e size v n xs) (hsrc : w.ownsRow bq e size sv m cells) (h1 : ∀ u ∈ cells, u.oneCell' = true)
    (h63 : n + m ≤ maxLen) (hbytes : (n + m) * bytes ≤ 140737488355328) (hbase : base ≤ w.heap.size) :
    ∃ v' w', (Builtin.append_ #[t, t] ty #[v, sv]).run P w = .ok v' w' ∧ w'.ownsRow base e size v' (n + m) (xs ++ cells) ∧ w.grownBy w' v.ownBlock ∧ (v'.ownBlock = v.ownBlock ∨ v'.ownBlock = some w.heap.size) := by
  rcases hsrc.2 with ⟨rfl, rfl⟩ | ⟨g, cap, cur, rfl, _⟩
  · have hc : cells = [] := List.length_eq_zero_iff.1 (by rw [hsrc.1, Nat.zero_mul])
    subst hc
    exact ⟨v, w, run_append_owned_none (P := P) w base t ty e i size ht hi v n xs hown, by simpa using hown, ⟨rfl, rfl, rfl, Nat.le_refl _, fun _ _ _ => rfl⟩, .inl rfl⟩
  · have C := Cel.of_owns hsrc
    obtain ⟨v', w', hr, h2, h3, _, h5⟩ := run_append_own_at (P := P) w base t ty e i z size bytes ht hi hz hsize hby hzs hsz v n xs hown ⟨g, 0, none⟩ m cap cells hsrc.1 (fun j u hu => by
      rw [show (⟨g, 0, none⟩ : Addr).add j = ⟨g, j, none⟩ by unfold Addr.add; split <;> simp_all]
      exact C.cell0 j (by simpa using hu)) h1 h63 hbytes hbase
    exact ⟨v', w', hr, h2, h3, h5⟩
theorem wp_append_src {o : Oper} {a : Act} {w : World} {K : Act → World → Prop} (s x : Operand) (t : TypeId)
    (ho : o.op = .call { callee := .builtin .append, args := #[s, x], argTypes := #[t, t] }) {v sv v' : Value} {w' : World} (hs : a.eval s = v) (hx : a.eval x = sv)
    (hr : (Builtin.append_ #[t, t] o.type #[v, sv]).run P w = .ok v' w') (h : K (a.put o.dst v') w') : o.wp P a w K Q := by
  unfold Oper.wp execOp
  simp only [ho, resolve, invoke, builtin, Sem.run_bind, Sem.run_pure, Result.andThen_ok, List.map_toArray, List.map_cons, List.map_nil, hs, hx, hr]
  exact h
theorem wpOp_of {i : Nat} {o : Oper} {K : Act → World → Prop} {a : Act} {w : World} (hi : ops[i]? = some o) (hg : o.guard = none) (h : o.wp P a w K Q) : wpOp P ops Q i K a w := by
  unfold wpOp
  simp only [hi, Region.wanted, hg]
  exact .inl h
theorem wpOp_of_if {i : Nat} {o : Oper} {K : Act → World → Prop} {a : Act} {w : World} (hi : ops[i]? = some o) (h : if Region.wanted o (yielded ops a.tmps) = true then o.wp P a w K Q else K (a.put o.dst undef) w) : wpOp P ops Q i K a w := by
  unfold wpOp
  simp only [hi]
  by_cases hw : Region.wanted o (yielded ops a.tmps) = true
  · rw [if_pos hw] at h ⊢
    exact .inl h
  · rw [if_neg hw] at h ⊢
    exact h
theorem wp_val {o : Oper} {a : Act} {w w' : World} {K : Act → World → Prop} {u : Value} {d : Nat} (hr : (execOp a.eval o).run P w = .ok (.value u) w') (hd : o.dst = some d) (h : K (a.put (some d) u) w') : o.wp P a w K Q := by
  unfold Oper.wp
  rw [hr]
  simp only [Oper.upon]
  rw [hd]
  exact h
theorem wp_store1 {o : Oper} {a : Act} {w w' : World} {K : Act → World → Prop} {x y : Operand} {ty : TypeId} {p u : Value} (ho : o.op = .store ty x y) (hd : o.dst = none) (hx : a.eval x = p) (hy : a.eval y = u) (hr : (Instr.storeAt ty p u).run P w = .ok () w') (h : K a w') : o.wp P a w K Q := by
  unfold Oper.wp execOp
  simp only [ho, hx, hy, Sem.run_bind, Sem.run_pure, Result.andThen_ok, hr, Oper.upon]
  rw [hd]
  exact h
/-- The orders in which a region's last operations may come: a first slice made, what is appended to it; another one made beside; the second append, and what takes it. -/
def dappB (ops : Array Oper) (L0 : Array Bool) (iE iM iB iA iL : Nat) : Bool :=
  Region.ready .any ops L0 == [iE, iB] && Region.ready .any ops (L0.setIfInBounds iE true) == [iM, iB] && Region.ready .any ops ((L0.setIfInBounds iE true).setIfInBounds iM true) == [iB]
    && Region.ready .any ops ((L0.setIfInBounds iE true).setIfInBounds iB true) == [iM] && Region.ready .any ops (L0.setIfInBounds iB true) == [iE]
    && Region.ready .any ops (((L0.setIfInBounds iE true).setIfInBounds iM true).setIfInBounds iB true) == [iA]
    && Region.ready .any ops ((((L0.setIfInBounds iE true).setIfInBounds iM true).setIfInBounds iB true).setIfInBounds iA true) == [iL]
    && Region.ready .any ops (((((L0.setIfInBounds iE true).setIfInBounds iM true).setIfInBounds iB true).setIfInBounds iA true).setIfInBounds iL true) == []
    && iE != iM && iE != iB && iM != iB
/-- The slots, all of them others. -/
def dappT (tE tM tB tA tq t1 tx n : Nat) : Bool :=
  tE != tM && tE != tB && tM != tB && tE != t1 && tE != tx && tM != tx && tB != t1 && decide (tE < n) && decide (tM < n) && decide (tB < n) && decide (tA < n) && decide (tq < n)
theorem wpAnyH_step {rs : List Nat} {fuel : Nat} {listed : Array Bool} {a : Act} {w : World} (hr : Region.ready .any ops listed = rs) (hne : rs ≠ [])
    (h : ∀ i ∈ rs, wpOp P ops Q i (fun a' w' => S w' ∧ wpAnyH P .any ops Q S fuel (listed.setIfInBounds i true) a' w') a w) : wpAnyH P .any ops Q S (fuel + 1) listed a w := wpAnyH_all hr hne h
theorem step_val {i : Nat} {o : Oper} {u : Value} {d fuel : Nat} {L : Array Bool} {a : Act} {w w' : World} (hr : Region.ready .any ops L = [i]) (hi : ops[i]? = some o) (hg : o.guard = none) (hd : o.dst = some d) (hS : S w') (hrun : (execOp a.eval o).run P w = .ok (.value u) w')
    (h : wpAnyH P .any ops Q S fuel (L.setIfInBounds i true) (a.put (some d) u) w') : wpAnyH P .any ops Q S (fuel + 1) L a w :=
  wpAnyH_step hr (by simp) fun j hj => by
    obtain rfl : j = i := by simpa using hj
    exact wpOp_of hi hg (wp_val hrun hd ⟨hS, h⟩)
theorem step_store {i : Nat} {o : Oper} {x y : Operand} {ty : TypeId} {p u : Value} {fuel : Nat} {L : Array Bool} {a : Act} {w w' : World} (hr : Region.ready .any ops L = [i]) (hi : ops[i]? = some o) (hg : o.guard = none) (ho : o.op = .store ty x y) (hd : o.dst = none) (hx : a.eval x = p) (hy : a.eval y = u) (hS : S w') (hrun : (Instr.storeAt ty p u).run P w = .ok () w')
    (h : wpAnyH P .any ops Q S fuel (L.setIfInBounds i true) a w') : wpAnyH P .any ops Q S (fuel + 1) L a w :=
  wpAnyH_step hr (by simp) fun j hj => by
    obtain rfl : j = i := by simpa using hj
    exact wpOp_of hi hg (wp_store1 ho hd hx hy hrun ⟨hS, h⟩)
theorem step_calls {i : Nat} {o : Oper} {d fuel : Nat} {L : Array Bool} {a : Act} {w : World} (hr : Region.ready .any ops L = [i]) (hi : ops[i]? = some o) (hg : o.guard = none) (hd : o.dst = some d) (f : FuncId) (fn : Func) (xs : Array Operand) (ts : Array TypeId) (hop : o.op = .call { callee := .value (.func f), args := xs, argTypes := ts })
    (hf : P.funcs[f]? = some fn) (hn : (fn.name == "runtime.NumGoroutine") = false) (hb : fn.body.isNone = false) (vs : Array Value) (hx : xs.map a.eval = vs) {R : Ending → World → Prop} (hc : Calls P f vs w R)
    (h : ∀ e w', R e w' → ∃ v, e = .returned v ∧ S w' ∧ wpAnyH P .any ops Q S fuel (L.setIfInBounds i true) (a.put (some d) v) w') : wpAnyH P .any ops Q S (fuel + 1) L a w :=
  wpAnyH_step hr (by simp) fun j hj => by
    obtain rfl : j = i := by simpa using hj
    refine wpOp_of_if hi (step_call2 hg f fn xs ts hop hf hn hb vs hx hc fun e w' hR => ?_)
    obtain ⟨v, he, h1, h2⟩ := h e w' hR
    exact ⟨v, he, h1, hd ▸ h2⟩
theorem wpAnyH_abs {fuel : Nat} {L : Array Bool} (a : Act) {w : World} (h : ∀ b : Act, b = a → wpAnyH P .any ops Q S fuel L b w) : wpAnyH P .any ops Q S fuel L a w := h a rfl
/-- An operation that yields in every world that meets S, taken first. -/
theorem take_run {i : Nat} {oi : Oper} {u : Value} {d : Nat} {fuel : Nat} {L : Array Bool} {a : Act} {w : World} (hi : ops[i]? = some oi) (hs : Region.noSelect ops = true) (hf : Region.free .any ops L i = true) (hr : (Region.ready .any ops L).contains i = true)
    (hg : oi.guard = none) (hd : oi.dst = some d) (hQ : ∀ c a w, Q (.panic c) (a.put oi.dst u) w → Q (.panic c) a w) (hS : S w) (hrun : ∀ v, S v → (execOp a.eval oi).run P v = .ok (.value u) v)
    (h : wpAnyH P .any ops Q S fuel (L.setIfInBounds i true) (a.put (some d) u) w) : wpAnyH P .any ops Q S (fuel + 1) L a w :=
  wpAnyH_take hi hs hf hr hQ (.inl ⟨by simp [Region.wanted, hg], hrun⟩) hS (hd ▸ h)
theorem run_move {oi : Oper} {a : Act} {x : Operand} {u : Value} (ho : oi.op = .move x) (hv : a.eval x = u) (v : World) : (execOp a.eval oi).run P v = .ok (.value u) v := by
  unfold execOp
  rw [ho]
  simp only [hv, Sem.run_bind, Sem.run_pure, Result.andThen_ok]
theorem run_field {oi : Oper} {a : Act} {x : Operand} {ty : TypeId} {f : Nat} {s u : Value} {v : World} (ho : oi.op = .fieldAddr ty x f) (hx : a.eval x = s) (hr : (Instr.fieldAt ty s f).run P v = .ok u v) : (execOp a.eval oi).run P v = .ok (.value u) v := by
  unfold execOp
  simp only [ho, hx, Sem.run_bind, Sem.run_pure, Result.andThen_ok, hr]
theorem run_index {oi : Oper} {a : Act} {x ix : Operand} {ty : TypeId} {s j u : Value} {v : World} (ho : oi.op = .indexAddr ty x ix) (hx : a.eval x = s) (hj : a.eval ix = j) (hr : (Instr.indexAt ty s j).run P v = .ok u v) : (execOp a.eval oi).run P v = .ok (.value u) v := by
  unfold execOp
  simp only [ho, hx, hj, Sem.run_bind, Sem.run_pure, Result.andThen_ok, hr]
theorem run_load1 {oi : Oper} {a : Act} {x : Operand} {ty : TypeId} {s u : Value} {v : World} (ho : oi.op = .load ty x) (hx : a.eval x = s) (hr : (Instr.loadAt ty s).run P v = .ok u v) : (execOp a.eval oi).run P v = .ok (.value u) v := by
  unfold execOp
  simp only [ho, hx, Sem.run_bind, Sem.run_pure, Result.andThen_ok, hr]
theorem run_build1 {oi : Oper} {a : Act} {x : Operand} {ty : TypeId} {u s : Value} {v v' : World} (ho : oi.op = .buildSlice ty 1 #[(0, x)]) (hx : a.eval x = u) (hr : (Instr.buildSlice ty 1 #[(0, u)]).run P v = .ok s v') : (execOp a.eval oi).run P v = .ok (.value s) v' := by
  unfold execOp
  simp only [ho, List.map_toArray, List.map_cons, List.map_nil, hx, Sem.run_bind, Sem.run_pure, Result.andThen_ok, hr]
theorem run_load_at {oi : Oper} {a : Act} {x : Operand} {ty : TypeId} (ho : oi.op = .load ty x) {h off : Nat} (hx : a.eval x = .pointer (some ⟨h, off, none⟩)) {cs : Array Value} (d : TypeDesc) (hu : P.underlying ty = some d) (hd : (match d with | .struct _ | .array _ _ => true | _ => false) = true) (hi : (P.info? ty).map (·.size) = some cs.size)
    {v : World} (C : Cel v h off cs) : (execOp a.eval oi).run P v = .ok (.value (.agg cs)) v := by
  unfold execOp
  simp only [ho, hx, Instr.loadAt, Instr.sureAddr, Sem.run_bind, Sem.run_pure, Result.andThen_ok, run_loadVar_at ty d C hu hd hi]
theorem dapp {T SL : TypeId} {i0 : TypeInfo} {z : Value} {sz bytes g m bq : Nat} {sv xv : Value} {cells : List Value} {ITEM : Array Value} {fuel : Nat} {L0 : Array Bool} {a : Act} {w : World}
    (iE iM iB iA iL : Nat) (oE oM oB oA oL : Oper) (tE tM tB tA tq t1 tx : Nat)
    (hd : dappB ops L0 iE iM iB iA iL = true) (htm : dappT tE tM tB tA tq t1 tx a.tmps.size = true)
    (hE : ops[iE]? = some oE) (hM : ops[iM]? = some oM) (hB : ops[iB]? = some oB) (hA : ops[iA]? = some oA) (hL : ops[iL]? = some oL)
    (gE : oE.guard = none ∧ oE.dst = some tE) (gM : oM.guard = none ∧ oM.dst = some tM) (gB : oB.guard = none ∧ oB.dst = some tB) (gA : oA.guard = none ∧ oA.dst = some tA) (gL : oL.guard = none ∧ oL.dst = some tq)
    (oM' : oM.op = .call { callee := .builtin .append, args := #[.tmp tE, .tmp t1], argTypes := #[SL, SL] }) (oA' : oA.op = .call { callee := .builtin .append, args := #[.tmp tM, .tmp tB], argTypes := #[SL, SL] }) (oL' : oL.op = .assign (.tmp tA))
    (rE : ∀ (b : Act) (v : World), (execOp b.eval oE).run P v = .ok (.value (.slice (some ⟨v.heap.size, 0, none⟩) 0 0)) (v.alloc (.cells #[] T)))
    (rB : ∀ (b : Act) (v : World), b.eval (.tmp tx) = xv → (execOp b.eval oB).run P v = .ok (.value (.slice (some ⟨v.heap.size, 0, none⟩) 1 1)) (v.alloc (.cells ITEM T)))
    (ht : P.underlying SL = some (.slice T)) (hi : P.info? T = some i0) (hz : i0.zero = some z) (hsize : i0.size = sz) (hby : i0.bytes = bytes) (hzs : z.cells.size = sz) (hsz : 0 < sz)
    (h1 : a.eval (.tmp t1) = sv) (hx : a.eval (.tmp tx) = xv) (src : w.ownsRow bq T sz sv m cells) (one1 : ∀ u ∈ cells, u.oneCell' = true) (oneI : ∀ u ∈ ITEM.toList, u.oneCell' = true) (hIT : ITEM.toList.length = 1 * sz)
    (h63 : m + 1 ≤ maxLen) (hbytes : (m + 1) * bytes ≤ 140737488355328) (hg : g ≤ w.heap.size) (hS : ∀ v : World, Below w.heap.size w v → S v)
    (fin : ∀ (vE vM vB : Value) (h c : Nat) (v : World), v.ownsRow g T sz (.slice (some ⟨h, 0, none⟩) (m + 1) c) (m + 1) (cells ++ ITEM.toList) → w.heap.size ≤ h → Below w.heap.size w v →
      Q .normal (((((a.put (some tE) vE).put (some tM) vM).put (some tB) vB).put (some tA) (.slice (some ⟨h, 0, none⟩) (m + 1) c)).put (some tq) (.slice (some ⟨h, 0, none⟩) (m + 1) c)) v) :
    wpAnyH P .any ops Q S (fuel + 5) L0 a w := by
  simp only [dappB, Bool.and_eq_true, beq_iff_eq, bne_iff_ne, ne_eq] at hd
  obtain ⟨⟨⟨⟨⟨⟨⟨⟨⟨⟨r0, r1⟩, r2⟩, r3⟩, r4⟩, r5⟩, r6⟩, r7⟩, nEM⟩, nEB⟩, nMB⟩ := hd
  simp only [dappT, Bool.and_eq_true, bne_iff_ne, ne_eq, decide_eq_true_eq] at htm
  obtain ⟨⟨⟨⟨⟨⟨⟨⟨⟨⟨⟨uEM, uEB⟩, uMB⟩, uE1⟩, uEx⟩, uMx⟩, uB1⟩, lE⟩, lM⟩, lB⟩, lA⟩, lq⟩ := htm
  -- what comes last
  have tail : ∀ (vE vM : Value) (bI : Nat) (v : World), v.ownsRow g T sz vM m cells → (∀ k, vM.ownBlock = some k → w.heap.size ≤ k) → Blk v bI T ITEM → Below w.heap.size w v →
      wpAnyH P .any ops Q S (fuel + 2) (((L0.setIfInBounds iE true).setIfInBounds iM true).setIfInBounds iB true) (((a.put (some tE) vE).put (some tM) vM).put (some tB) (.slice (some ⟨bI, 0, none⟩) 1 1)) v := by
    intro vE vM bI v own hge B bel
    refine wpAnyH_step r5 (by simp) fun i hi' => ?_
    obtain rfl : i = iA := by simpa using hi'
    refine wpOp_of hA gA.1 ?_
    obtain ⟨h, c, v', hr, own', grow, hat, hlt⟩ := run_append_lies (P := P) v SL oA.type g T i0 z sz bytes ht hi hz hsize hby hzs hsz vM m cells own ⟨bI, 0, none⟩ 1 1 ITEM.toList hIT (World.news_of_block B) oneI (by omega) h63 hbytes (by have := bel.size; omega) v.heap.size rfl
    have bel' : Below w.heap.size w v' := bel.grown grow (by have := bel.size; omega) hge
    refine wp_append_src (.tmp tM) (.tmp tB) SL oA' (by rw [Act.eval_put_ne _ _ _ _ (Ne.symm uMB), Act.eval_put_same _ _ _ (by rw [Act.size_put]; exact lM)]) (Act.eval_put_same _ _ _ (by rw [Act.size_put, Act.size_put]; exact lB)) hr ?_
    rw [gA.2]
    refine ⟨hS _ bel', wpAnyH_step r6 (by simp) fun i hi' => ?_⟩
    obtain rfl : i = iL := by simpa using hi'
    refine wpOp_of hL gL.1 ?_
    unfold Oper.wp execOp
    rw [oL']
    have hv : ((((a.put (some tE) vE).put (some tM) vM).put (some tB) (.slice (some ⟨bI, 0, none⟩) 1 1)).put (some tA) (.slice (some ⟨h, 0, none⟩) (m + 1) c)).eval (.tmp tA) = .slice (some ⟨h, 0, none⟩) (m + 1) c := Act.eval_put_same _ _ _ (by rw [Act.size_put, Act.size_put, Act.size_put]; exact lA)
    simp only [hv, Sem.run_bind, Sem.run_pure, Result.andThen_ok, Oper.upon]
    rw [gL.2]
    refine ⟨hS _ bel', wpAnyH_done r7 ?_ _⟩
    exact fin _ _ _ h c v' own' (hat.elim (hge h) (fun q => q ▸ bel.size)) bel'
  have refl := Below.refl w.heap.size w
  have belE : Below w.heap.size w (w.alloc (.cells #[] T)) := refl.alloc (Nat.le_refl _) _
  have belB : Below w.heap.size w (w.alloc (.cells ITEM T)) := refl.alloc (Nat.le_refl _) _
  have hm1 : 0 + m ≤ maxLen := by omega
  have hm2 : (0 + m) * bytes ≤ 140737488355328 := Nat.le_trans (Nat.mul_le_mul_right _ (by omega)) hbytes
  -- the first append, wherever it comes
  have first : ∀ (e : Nat) (v : World), Blk v e T #[] → w.heap.size ≤ e → Below w.heap.size w v → ∃ vM v', (Builtin.append_ #[SL, SL] oM.type #[.slice (some ⟨e, 0, none⟩) 0 0, sv]).run P v = .ok vM v' ∧ v'.ownsRow g T sz vM m cells ∧ v.grownBy v' (some e) ∧ (∀ k, vM.ownBlock = some k → w.heap.size ≤ k) ∧ Below w.heap.size w v' := by
    intro e v B he bel
    have own0 : v.ownsRow g T sz (.slice (some ⟨e, 0, none⟩) 0 0) 0 [] := own_none B (by omega) (by unfold maxLen; omega) (by simp)
    obtain ⟨vM, v', hr, own', grow, hat⟩ := run_append_src (P := P) SL oM.type ht hi hz hsize hby hzs hsz own0 (own_all src bel) one1 hm1 hm2 (by have := bel.size; omega)
    refine ⟨vM, v', hr, by simpa using own', grow, fun k hk => ?_, bel.grown grow (by have := bel.size; omega) (fun q hq => by simp [Value.ownBlock] at hq; omega)⟩
    rcases hat with q | q
    · rw [q] at hk; simp [Value.ownBlock] at hk; omega
    · rw [q] at hk; have := bel.size; simp at hk; omega
  refine wpAnyH_step r0 (by simp) fun i hi' => ?_
  simp only [List.mem_cons, List.not_mem_nil, or_false] at hi'
  rcases hi' with rfl | rfl
  · -- the first slice first
    refine wpOp_of hE gE.1 ?_
    unfold Oper.wp
    rw [rE]
    simp only [Oper.upon]
    rw [gE.2]
    refine ⟨hS _ belE, wpAnyH_step r1 (by simp) fun j hj => ?_⟩
    have B1 := Blk.new w T #[]
    simp only [List.mem_cons, List.not_mem_nil, or_false] at hj
    rcases hj with rfl | rfl
    · refine wpOp_of hM gM.1 ?_
      obtain ⟨vM, v', hr, own', grow, hge, bel'⟩ := first w.heap.size _ B1 (Nat.le_refl _) belE
      refine wp_append_src (.tmp tE) (.tmp t1) SL oM' (Act.eval_put_same _ _ _ lE) (by rw [Act.eval_put_ne _ _ _ _ uE1]; exact h1) hr ?_
      rw [gM.2]
      refine ⟨hS _ bel', wpAnyH_step r2 (by simp) fun j hj => ?_⟩
      obtain rfl : j = iB := by simpa using hj
      refine wpOp_of hB gB.1 ?_
      unfold Oper.wp
      rw [rB _ _ (by rw [Act.eval_put_ne _ _ _ _ uMx, Act.eval_put_ne _ _ _ _ uEx]; exact hx)]
      simp only [Oper.upon]
      rw [gB.2]
      have bel'' := bel'.alloc (by have := bel'.size; omega) (.cells ITEM T)
      exact ⟨hS _ bel'', tail _ _ _ _ (own_all own' ((Below.refl _ _).alloc (Nat.le_refl _) _)) hge (Blk.new _ _ _) bel''⟩
    · refine wpOp_of hB gB.1 ?_
      unfold Oper.wp
      rw [rB _ _ (by rw [Act.eval_put_ne _ _ _ _ uEx]; exact hx)]
      simp only [Oper.upon]
      rw [gB.2]
      have bel1 := belE.alloc (by simp) (.cells ITEM T)
      refine ⟨hS _ bel1, wpAnyH_step r3 (by simp) fun j hj => ?_⟩
      obtain rfl : j = iM := by simpa using hj
      refine wpOp_of hM gM.1 ?_
      obtain ⟨vM, v', hr, own', grow, hge, bel'⟩ := first w.heap.size _ (B1.alloc (.cells ITEM T)) (Nat.le_refl _) bel1
      have B2 : Blk v' (w.alloc (.cells #[] T)).heap.size T ITEM := (grow.block _ (by simp) (by simp)).trans (Blk.new (w.alloc (.cells #[] T)) T ITEM)
      refine wp_append_src (.tmp tE) (.tmp t1) SL oM' (by rw [Act.eval_put_ne _ _ _ _ (Ne.symm uEB)]; exact Act.eval_put_same _ _ _ lE) (by rw [Act.eval_put_ne _ _ _ _ uB1, Act.eval_put_ne _ _ _ _ uE1]; exact h1) hr ?_
      rw [gM.2, Array.setIfInBounds_comm _ _ (Ne.symm nMB), Act.put_comm _ _ _ (fun d hd q => by cases hd; cases q; exact uMB rfl)]
      exact ⟨hS _ bel', tail _ _ _ _ own' hge B2 bel'⟩
  · -- the item's slice first
    refine wpOp_of hB gB.1 ?_
    unfold Oper.wp
    rw [rB _ _ hx]
    simp only [Oper.upon]
    rw [gB.2]
    refine ⟨hS _ belB, wpAnyH_step r4 (by simp) fun j hj => ?_⟩
    obtain rfl : j = iE := by simpa using hj
    refine wpOp_of hE gE.1 ?_
    unfold Oper.wp
    rw [rE]
    simp only [Oper.upon]
    rw [gE.2]
    have bel1 := belB.alloc (by simp) (.cells #[] T)
    rw [Array.setIfInBounds_comm _ _ (Ne.symm nEB)]
    refine ⟨hS _ bel1, wpAnyH_step r3 (by simp) fun j hj => ?_⟩
    obtain rfl : j = iM := by simpa using hj
    refine wpOp_of hM gM.1 ?_
    obtain ⟨vM, v', hr, own', grow, hge, bel'⟩ := first _ _ (Blk.new (w.alloc (.cells ITEM T)) T #[]) (by simp) bel1
    have B2 : Blk v' w.heap.size T ITEM := (grow.block _ (by simp; omega) (by simp)).trans ((Blk.new w T ITEM).alloc (.cells #[] T))
    refine wp_append_src (.tmp tE) (.tmp t1) SL oM' (Act.eval_put_same _ _ _ (by rw [Act.size_put]; exact lE)) (by rw [Act.eval_put_ne _ _ _ _ uE1, Act.eval_put_ne _ _ _ _ uB1]; exact h1) hr ?_
    rw [gM.2, Array.setIfInBounds_comm _ _ (Ne.symm nMB), Act.put_comm a _ _ (fun d hd q => by cases hd; cases q; exact uEB rfl), Act.put_comm (a.put _ _) _ _ (fun d hd q => by cases hd; cases q; exact uMB rfl)]
    exact ⟨hS _ bel', tail _ _ _ _ own' hge B2 bel'⟩
end
end Go.Proofs.YtlaemmplemngmaaDoor.kit
