/- General words, over any program: arguments of flat structs and arrays opened; small laws on endings and worlds. -/
import Derived.WalkKit
import Derived.ProofKit
import Derived.OpenShut
import Derived.ShutString
import Derived.Below
import Derived.WalkSmall
import Derived.Deep.Slices
import Derived.Lib.Hide
import Derived.Laws.OwnMore
import Derived.Deep.Draws
import Derived.Laws.Rows
import Derived.Laws.BytesArg
import Derived.Lib.QuietBelow
import Derived.Laws.BitsAllLaws
import Derived.Laws.BitsLemmas
namespace Go.Proofs.Ythjhiogbnacmdaa.kit
open Go.ChangeShapes Go.WideShapes Go.ChangeAt Go.RowKit

theorem ret_int {k : IntKind} {a b : Int} (h : a = b) : Ending.returned (.int k a) = .returned (.int k b) := by rw [h]
theorem ret_bool {a b : Bool} (h : a = b) : Ending.returned (.bool a) = .returned (.bool b) := by rw [h]
theorem ret_true {b : Bool} (h : b = true) : Ending.returned (.bool b) = .returned (.bool true) := by rw [h]

/-- What one flat cell may hold. 'other': whatever reads at that type. -/
inductive Sh where
  | int (k : IntKind)
  | bool
  | str
  | other (t : TypeId)

/-- The flat shape of a type: structs and arrays laid out. -/
def flat (P : Program) : Nat → TypeId → Option (List Sh)
  | 0, _ => none
  | n + 1, t => match P.underlying t with
    | some (.int k) => some [.int k]
    | some .bool => some [.bool]
    | some .string => some [.str]
    | some (.slice _) => some [.other t]
    | some (.pointer _) => some [.other t]
    | some (.struct fs) =>
      (fs.toList.foldl (fun acc f => match acc with
        | none => none
        | some l => if f.offset = l.length then match flat P n f.type with
            | some m => if P.cellsOf f.type = m.length then some (l ++ m) else none
            | none => none
          else none) (some []))
    | some (.array k e) => match flat P n e with
        | some m => if P.cellsOf e = m.length then some ((List.replicate k m).flatten) else none
        | none => none
    | _ => none

section
variable {H : Type} (enc : TypeId × Value → H) (P : Program) (w : World) (base : Nat) (spare : Nat → Bool) (held : Bool)

def Fits : Sh → Value → Prop
  | .int k, v => ∃ a, v = .int k a ∧ (Lit.int k a).wf = true
  | .bool, v => ∃ b, v = .bool b
  | .str, v => ∃ s : ByteArray, v = .string s ∧ s.size ≤ maxLen
  | .other t, v => ∃ m x, DataW.trod enc P w base spare held m t [v] = some x

def FlatOK : List Sh → List Value → Prop
  | [], [] => True
  | s :: r, v :: vs => Fits enc P w base spare held s v ∧ FlatOK r vs
  | _, _ => False

theorem FlatOK.append : ∀ {a b : List Sh} {u v : List Value}, FlatOK enc P w base spare held a u → FlatOK enc P w base spare held b v → FlatOK enc P w base spare held (a ++ b) (u ++ v)
  | [], _, [], _, _, h => h
  | [], _, _ :: _, _, h, _ => h.elim
  | _ :: _, _, [], _, h, _ => h.elim
  | _ :: _, _, _ :: _, _, h, k => ⟨h.1, FlatOK.append h.2 k⟩

theorem FlatOK.length : ∀ {a : List Sh} {u : List Value}, FlatOK enc P w base spare held a u → u.length = a.length
  | [], [], _ => rfl
  | [], _ :: _, h => h.elim
  | _ :: _, [], h => h.elim
  | _ :: _, _ :: _, h => by simp [FlatOK.length h.2]

theorem FlatOK.cons {s : Sh} {r : List Sh} {l : List Value} (h : FlatOK enc P w base spare held (s :: r) l) : ∃ v t, l = v :: t ∧ Fits enc P w base spare held s v ∧ FlatOK enc P w base spare held r t := by
  cases l with
  | nil => exact h.elim
  | cons v t => exact ⟨v, t, rfl, h.1, h.2⟩
theorem FlatOK.int {k : IntKind} {r : List Sh} {l : List Value} (h : FlatOK enc P w base spare held (.int k :: r) l) : ∃ a t, l = .int k a :: t ∧ (Lit.int k a).wf = true ∧ FlatOK enc P w base spare held r t := by
  obtain ⟨v, t, rfl, ⟨a, rfl, wa⟩, h2⟩ := FlatOK.cons enc P w base spare held h
  exact ⟨a, t, rfl, wa, h2⟩
theorem FlatOK.bool {r : List Sh} {l : List Value} (h : FlatOK enc P w base spare held (.bool :: r) l) : ∃ b t, l = .bool b :: t ∧ FlatOK enc P w base spare held r t := by
  obtain ⟨v, t, rfl, ⟨a, rfl⟩, h2⟩ := FlatOK.cons enc P w base spare held h
  exact ⟨a, t, rfl, h2⟩
theorem FlatOK.str {r : List Sh} {l : List Value} (h : FlatOK enc P w base spare held (.str :: r) l) : ∃ (s : ByteArray) (t : List Value), l = .string s :: t ∧ s.size ≤ maxLen ∧ FlatOK enc P w base spare held r t := by
  obtain ⟨v, t, rfl, ⟨a, rfl, wa⟩, h2⟩ := FlatOK.cons enc P w base spare held h
  exact ⟨a, t, rfl, wa, h2⟩
theorem FlatOK.nil {l : List Value} (h : FlatOK enc P w base spare held [] l) : l = [] := by
  cases l with
  | nil => rfl
  | cons v t => exact h.elim

theorem flat_ok : ∀ (n : Nat) (t : TypeId) (sh : List Sh) (fuel : Nat) (cs : List Value) (x : DataW H × List MemPlace), flat P n t = some sh →
    P.cellsOf t = sh.length → DataW.trod enc P w base spare held fuel t cs = some x → FlatOK enc P w base spare held sh cs := by
  intro n
  induction n with
  | zero => intro t sh fuel cs x h; simp [flat] at h
  | succ n ih =>
    intro t sh fuel cs x h hC hx
    unfold flat at h
    cases hu : P.underlying t with
    | none => rw [hu] at h; simp at h
    | some T =>
      rw [hu] at h
      cases T with
      | int k =>
        simp at h; subst h
        obtain ⟨a, rfl, _, wa⟩ := DataW.trod_int hu hx
        exact ⟨⟨a, rfl, wa⟩, trivial⟩
      | bool =>
        simp at h; subst h
        obtain ⟨b, rfl, _⟩ := DataW.trod_bool hu hx
        exact ⟨⟨b, rfl⟩, trivial⟩
      | string =>
        simp at h; subst h
        obtain ⟨s, rfl, _, ws⟩ := DataW.trod_string hu hx
        exact ⟨⟨s, rfl, ws⟩, trivial⟩
      | slice e =>
        simp at h; subst h
        have hl : ∃ v, cs = [v] := by
          rcases Go.Deep.open_slice hu hx with ⟨rfl, _⟩ | ⟨a, len, cap, _, _, _, _, rfl, _⟩
          · exact ⟨_, rfl⟩
          · exact ⟨_, rfl⟩
        obtain ⟨v, rfl⟩ := hl
        exact ⟨⟨fuel, x, hx⟩, trivial⟩
      | pointer e =>
        simp at h; subst h
        have hl : ∃ v, cs = [v] := by
          rcases DataW.trod_pointer hu hx with ⟨rfl, _⟩ | ⟨a, cs', y, n', _, rfl, _⟩
          · exact ⟨_, rfl⟩
          · exact ⟨_, rfl⟩
        obtain ⟨v, rfl⟩ := hl
        exact ⟨⟨fuel, x, hx⟩, trivial⟩
      | struct fs =>
        simp only at h
        obtain ⟨xs, m, _, _, hlen, hxl, hf⟩ := DataW.trod_struct hu hx
        -- along the fields
        have key : ∀ (l : List Field) (pre : List Sh) (out : List Sh) (k : Nat),
            (∀ i f, l[i]? = some f → DataW.trod enc P w base spare held m f.type ((cs.drop f.offset).take (P.cellsOf f.type)) = xs[k + i]?) → k + l.length ≤ xs.length →
            FlatOK enc P w base spare held pre (cs.take pre.length) →
            l.foldl (fun acc f => match acc with
              | none => none
              | some l => if f.offset = l.length then match flat P n f.type with
                  | some m => if P.cellsOf f.type = m.length then some (l ++ m) else none
                  | none => none
                else none) (some pre) = some out → FlatOK enc P w base spare held out (cs.take out.length) := by
          intro l
          induction l with
          | nil => intro pre out k _ _ hp he; simp at he; subst he; exact hp
          | cons f l ihl =>
            intro pre out k hi hk hp he
            simp only [List.foldl_cons] at he
            by_cases ho : f.offset = pre.length
            · rw [if_pos ho] at he
              cases hm : flat P n f.type with
              | none =>
                rw [hm] at he
                exfalso
                have : ∀ (l : List Field), l.foldl (fun acc f => match acc with
                  | none => none
                  | some l => if f.offset = l.length then match flat P n f.type with
                      | some m => if P.cellsOf f.type = m.length then some (l ++ m) else none
                      | none => none
                    else none) (none : Option (List Sh)) = none := by intro l; induction l <;> simp_all
                simp only [this] at he
                cases he
              | some mm =>
                rw [hm] at he
                simp only at he
                by_cases hc : P.cellsOf f.type = mm.length
                · rw [if_pos hc] at he
                  have h0 := hi 0 f rfl
                  have hlt : k + 0 < xs.length := by simp at hk; omega
                  rw [List.getElem?_eq_getElem hlt] at h0
                  have hsub := ih f.type mm m _ _ hm hc h0
                  refine ihl (pre ++ mm) out (k + 1) (fun i g hg => ?_) (by simp at hk; omega) ?_ he
                  · rw [hi (i + 1) g (by simpa using hg)]; congr 1; omega
                  · have e1 : cs.take (pre ++ mm).length = cs.take pre.length ++ ((cs.drop f.offset).take (P.cellsOf f.type)) := by
                      rw [ho, hc, List.length_append, List.take_add]
                    rw [e1]
                    exact FlatOK.append enc P w base spare held hp hsub
                · rw [if_neg hc] at he
                  exfalso
                  have : ∀ (l : List Field), l.foldl (fun acc f => match acc with
                    | none => none
                    | some l => if f.offset = l.length then match flat P n f.type with
                        | some m => if P.cellsOf f.type = m.length then some (l ++ m) else none
                        | none => none
                      else none) (none : Option (List Sh)) = none := by intro l; induction l <;> simp_all
                  simp only [this] at he
                  cases he
            · rw [if_neg ho] at he
              exfalso
              have : ∀ (l : List Field), l.foldl (fun acc f => match acc with
                | none => none
                | some l => if f.offset = l.length then match flat P n f.type with
                    | some m => if P.cellsOf f.type = m.length then some (l ++ m) else none
                    | none => none
                  else none) (none : Option (List Sh)) = none := by intro l; induction l <;> simp_all
              simp only [this] at he
              cases he
        have := key fs.toList [] sh 0 (fun i f hfi => by rw [Nat.zero_add]; exact hf i f (by simpa using hfi)) (by simp [hxl]) (by simp [FlatOK]) h
        have hcs : cs.length = sh.length := by rw [hlen, hC]
        rwa [← hcs, List.take_length] at this
      | array k e =>
        simp only at h
        cases hm : flat P n e with
        | none => rw [hm] at h; simp at h
        | some mm =>
          rw [hm] at h
          simp only at h
          by_cases hc : P.cellsOf e = mm.length
          · rw [if_pos hc] at h
            simp at h
            subst h
            obtain ⟨xs, m, _, _, hlen, hxl, hf⟩ := DataW.trod_array hu hx
            have key : ∀ j, j ≤ k → FlatOK enc P w base spare held ((List.replicate j mm).flatten) (cs.take (j * mm.length)) := by
              intro j
              induction j with
              | zero => intro _; simp [FlatOK]
              | succ j ihj =>
                intro hj
                have h0 := hf j (by omega)
                rw [List.getElem?_eq_getElem (by omega)] at h0
                have hsub := ih e mm m _ _ hm hc h0
                have e1 : (List.replicate (j + 1) mm).flatten = (List.replicate j mm).flatten ++ mm := by
                  rw [List.replicate_succ', List.flatten_append]; simp
                have e2 : cs.take ((j + 1) * mm.length) = cs.take (j * mm.length) ++ (cs.drop (j * P.cellsOf e)).take (P.cellsOf e) := by
                  rw [hc, Nat.succ_mul, List.take_add]
                rw [e1, e2]
                exact FlatOK.append enc P w base spare held (ihj (by omega)) hsub
            have := key k (Nat.le_refl _)
            have hcs : cs.length = k * mm.length := by rw [hlen, hC]; simp
            rwa [← hcs, List.take_length] at this
          · rw [if_neg hc] at h; cases h
      | _ => simp at h

end

/-- A struct by value, opened to its flat cells. -/
theorem open_struct {H : Type} {enc : TypeId × Value → H} {P : Program} {W : World} {base b0 : Nat} {sp : Nat → Bool} {hd : Bool} {r : Reach} {t : TypeId} {fs : Array Field} {v : Value} {d : DataW H} {p : List MemPlace} (n : Nat) {sh : List Sh}
    (ht : P.underlying t = some (.struct fs)) (hsh : flat P n t = some sh) (hC : P.cellsOf t = sh.length) (hv : Value.okWide P W r base t v)
    (h : DataW.Trod enc P W b0 sp hd t v d p) : ∃ l : List Value, v = .agg ⟨l⟩ ∧ FlatOK enc P W b0 sp hd sh l := by
  obtain ⟨cs, rfl, hn⟩ := okWide_struct ht hv
  obtain ⟨l⟩ := cs
  obtain ⟨fuel, hf⟩ := h
  exact ⟨l, rfl, flat_ok enc P W b0 sp hd n t sh fuel l _ hsh hC hf⟩

/-- An array by value, opened to its flat cells. -/
theorem open_array {H : Type} {enc : TypeId × Value → H} {P : Program} {W : World} {base b0 : Nat} {sp : Nat → Bool} {hd : Bool} {r : Reach} {t e : TypeId} {k : Nat} {v : Value} {d : DataW H} {p : List MemPlace} (n : Nat) {sh : List Sh}
    (ht : P.underlying t = some (.array k e)) (hsh : flat P n t = some sh) (hC : P.cellsOf t = sh.length) (hv : Value.okWide P W r base t v)
    (h : DataW.Trod enc P W b0 sp hd t v d p) : ∃ l : List Value, v = .agg ⟨l⟩ ∧ FlatOK enc P W b0 sp hd sh l := by
  have hv' := hv
  simp only [Value.okWide, ht] at hv'
  obtain ⟨⟨l⟩, rfl, _⟩ := hv'
  obtain ⟨fuel, hf⟩ := h
  exact ⟨l, rfl, flat_ok enc P W b0 sp hd n t sh fuel l _ hsh hC hf⟩

/-- A slice of whatever flat type: nil, or a row whose elements' cells fit. -/
def FlatRow {H : Type} (enc : TypeId × Value → H) (P : Program) (W : World) (b0 : Nat) (sp : Nat → Bool) (hd : Bool) (sh : List Sh) (v : Value) : Prop :=
  v = .slice none 0 0 ∨ ∃ (a : Addr) (len cap : Nat) (C : Nat → List Value), v = .slice (some a) len cap ∧ len ≤ cap ∧ cap ≤ maxLen ∧ (0 < len → a.block < W.heap.size) ∧
    ∀ i, i < len → FlatOK enc P W b0 sp hd sh (C i) ∧ ∀ j u, (C i)[j]? = some u → W.cell? (a.add (i * sh.length + j)) = some u

theorem open_row {H : Type} {enc : TypeId × Value → H} {P : Program} {W : World} {base b0 : Nat} {sp : Nat → Bool} {hd : Bool} {r : Reach} {t e : TypeId} {v : Value} {d : DataW H} {p : List MemPlace} (n : Nat) {sh : List Sh}
    (ht : P.underlying t = some (.slice e)) (hsh : flat P n e = some sh) (hC : P.cellsOf e = sh.length) (hpos : 0 < sh.length) (hv : Value.okWide P W r base t v)
    (h : DataW.Trod enc P W b0 sp hd t v d p) : FlatRow enc P W b0 sp hd sh v := by
  obtain ⟨a0, len0, cap0, rfl⟩ := okWide_slice ht hv
  obtain ⟨fuel, hf⟩ := h
  have hlt : ∀ x ∈ p, x.block < W.heap.size := DataW.trod_lt _ _ _ _ hf
  simp only [Value.cells] at hf
  rcases Go.Deep.open_slice ht hf with ⟨hcs, _⟩ | ⟨a, len, cap, m, k, D, Pl, hcs, _, hl, hm, hmm, hx, hi⟩
  · simp at hcs
    obtain ⟨rfl, rfl, rfl⟩ := hcs
    exact .inl rfl
  · simp at hcs
    obtain ⟨rfl, rfl, rfl⟩ := hcs
    have hlm : len0 ≤ m := by rw [hmm]; split <;> omega
    obtain ⟨C, hC'⟩ := Go.Deep.choose_lt (α := List Value) (p := fun i cs' => W.cells? b0 (a.add (i * P.cellsOf e)) (P.cellsOf e) = some cs' ∧ DataW.trod enc P W b0 sp hd k e cs' = some (D i, Pl i)) hi
    refine .inr ⟨a, len0, cap0, C, rfl, hl, hm, fun h0 => ?_, fun i hil => ?_⟩
    · simp only [Prod.mk.injEq] at hx
      have hp := hx.2
      subst hp
      have hmem : (MemPlace.cell a.block (a.off + 0)) ∈ MemPlace.row a (m * P.cellsOf e) ++ (List.range m).flatMap Pl := by
        rw [List.mem_append]; left
        have : 0 < m * P.cellsOf e := by rw [hC]; exact Nat.mul_pos (by omega) hpos
        unfold MemPlace.row
        exact List.mem_map.2 ⟨0, by simpa using this, rfl⟩
      exact hlt _ hmem
    · obtain ⟨h1, h2⟩ := hC' i (by omega)
      have hfl := flat_ok enc P W b0 sp hd n e sh k _ _ hsh hC h2
      refine ⟨hfl, fun j u hu => ?_⟩
      obtain ⟨_, hcl, hat⟩ := World.cells?_some h1
      have hj : j < P.cellsOf e := by
        have := FlatOK.length enc P W b0 sp hd hfl
        have hj2 : j < (C i).length := (List.getElem?_eq_some_iff.1 hu).1
        omega
      have := hat j hj
      rw [hC] at this
      rw [← Go.Deep.add_add, this, hu]

/-- Behind a contract that ends in 'Below': every old cell, every old mark reads as before. -/
theorem bcell {W w1 : World} (hb : Below W.heap.size W w1) : (∀ b o, b < W.heap.size → w1.cell? ⟨b, o, none⟩ = W.cell? ⟨b, o, none⟩) ∧ (∀ b o, b < W.heap.size → w1.frozen? ⟨b, o, none⟩ = W.frozen? ⟨b, o, none⟩) :=
  ⟨fun b o h => hb.cell (p := ⟨b, o, none⟩) h, fun b o h => hb.frozen (p := ⟨b, o, none⟩) h⟩

/-- A block known whole: its cells, its element type, none of them frozen. -/
def Blk (w : World) (g : Nat) (t : TypeId) (cs : Array Value) : Prop := w.heap[g]? = some (.cells cs t (0, 0))
section
variable {w w' : World} {g : Nat} {t : TypeId} {cs : Array Value}
theorem Blk.lt (h : Blk w g t cs) : g < w.heap.size := by
  rcases Nat.lt_or_ge g w.heap.size with hlt | hge
  · exact hlt
  · unfold Blk at h; rw [Array.getElem?_eq_none hge] at h; cases h
theorem Blk.cell (h : Blk w g t cs) (i : Nat) : w.cell? ⟨g, i, none⟩ = cs[i]? := cell_of_row w g i cs t (0, 0) h
theorem Blk.frozen (h : Blk w g t cs) (i : Nat) : w.frozen? ⟨g, i, none⟩ = false := by
  unfold Blk at h
  simp [World.frozen?, h]
theorem Blk.new (w : World) (t : TypeId) (cs : Array Value) : Blk (w.alloc (.cells cs t)) w.heap.size t cs := heap_alloc_new w _
theorem blk_new2 (w : World) (o : Obj) (t : TypeId) (cs : Array Value) : Blk ((w.alloc o).alloc (.cells cs t)) (w.heap.size + 1) t cs := by
  simpa using Blk.new (w.alloc o) t cs
theorem Blk.drew (h : Blk w g t cs) : Blk w.drew g t cs := h
theorem Blk.drewN (h : Blk w g t cs) (n : Nat) : Blk (w.drewN n) g t cs := h
theorem Blk.alloc (h : Blk w g t cs) (o : Obj) : Blk (w.alloc o) g t cs := (Below.heap_alloc w o g h.lt).trans h
theorem Blk.set_ (h : Blk w g t cs) (i : Nat) (u : Value) : Blk (w.setCell ⟨g, i, none⟩ u) g t (cs.setIfInBounds i u) := by
  unfold Blk at h ⊢
  simp [World.setCell, Array.getElem?_modify, h]
theorem Blk.far (h : Blk w g t cs) {p : Addr} (hp : g ≠ p.block) (u : Value) : Blk (w.setCell p u) g t cs := (Below.heap_setCell w p u g hp).trans h
theorem Blk.below {B : Nat} (h : Blk w g t cs) (hb : Below B w w') (hg : g < B) : Blk w' g t cs := (hb.block g hg).trans h
end

/-! ### bits of int, both sides not below 0 -/
theorem ofInt_i64 (a : Nat) (ha : a < 9223372036854775808) : (BitVec.ofInt 64 (a : Int)).toNat = a := by
  rw [BitVec.ofInt_natCast, BitVec.toNat_ofNat]; exact Nat.mod_eq_of_lt (by omega)
theorem i64_and_nat (a b : Nat) (ha : a < 9223372036854775808) (hb : b < 9223372036854775808) : bits .and .i64 (a : Int) (b : Int) = ((a &&& b : Nat) : Int) := by
  have hx : a &&& b < 2 ^ 63 := Nat.and_lt_two_pow _ (by omega)
  show IntKind.i64.wrap ((BitVec.ofInt 64 (a : Int) &&& BitVec.ofInt 64 (b : Int)).toNat : Int) = _
  rw [BitVec.toNat_and, ofInt_i64 a ha, ofInt_i64 b hb, IntKind.wrap_i64]
  omega
/-- 'x & m' of whatever int, m = 2^k - 1: what is left of x by 2^k. -/
theorem i64_mask (x : Int) (k : Nat) (hk : k < 63) : bits .and .i64 x ((2 ^ k - 1 : Nat) : Int) = x % (2 ^ k : Nat) := by
  show IntKind.i64.wrap ((BitVec.ofInt 64 x &&& BitVec.ofInt 64 ((2 ^ k - 1 : Nat) : Int)).toNat : Int) = _
  have h1 : 2 ^ k ≤ 2 ^ 62 := Nat.pow_le_pow_right (by omega) (by omega)
  have hp : 0 < 2 ^ k := Nat.two_pow_pos k
  rw [BitVec.toNat_and, ofInt_i64 (2 ^ k - 1) (by omega), Nat.and_two_pow_sub_one_eq_mod]
  have h2 : (BitVec.ofInt 64 x).toNat % 2 ^ k < 2 ^ k := Nat.mod_lt _ hp
  rw [IntKind.wrap_i64]
  have h3 : ((BitVec.ofInt 64 x).toNat : Int) = x % (2 ^ 64 : Nat) := by
    rw [BitVec.toNat_ofInt]
    have : 0 ≤ x % ((2 ^ 64 : Nat) : Int) := Int.emod_nonneg _ (by decide)
    omega
  have h4 : (((BitVec.ofInt 64 x).toNat % 2 ^ k : Nat) : Int) = x % (2 ^ k : Nat) := by
    rw [Int.natCast_emod, h3]
    exact Int.emod_emod_of_dvd x (by exact_mod_cast Nat.pow_dvd_pow 2 (by omega))
  rw [h4]
  have h5 : 0 ≤ x % ((2 ^ k : Nat) : Int) := Int.emod_nonneg _ (by omega)
  have h6 : x % ((2 ^ k : Nat) : Int) < (2 ^ k : Nat) := Int.emod_lt_of_pos _ (by omega)
  omega
/-- one bit of a number -/
theorem and_pow (n k : Nat) : n &&& 2 ^ k = if n / 2 ^ k % 2 = 1 then 2 ^ k else 0 := by
  have e : n.testBit k = decide (n / 2 ^ k % 2 = 1) := Nat.testBit_eq_decide_div_mod_eq
  apply Nat.eq_of_testBit_eq
  intro i
  rw [Nat.testBit_and, Nat.testBit_two_pow]
  by_cases hik : k = i
  · subst hik
    by_cases h : n / 2 ^ k % 2 = 1 <;> simp [e, h]
  · by_cases h : n / 2 ^ k % 2 = 1 <;> simp [h, hik]

/-- 'string(b[:len])' of a block that is known whole. -/
theorem conv_blk {P : Program} {w : World} {src e dst : TypeId} (hs : P.underlying src = some (.slice e)) (he : P.underlying e = some (.int .u8)) (hd : P.underlying dst = some .string)
    {g : Nat} {t : TypeId} {cs : Array Value} (h : Blk w g t cs) (len cap : Nat) (xs : List Int) (hl : xs.length = len) (hx : ∀ i, i < len → cs[i]? = some (.int .u8 (xs.getD i 0))) :
    (convert src dst (.slice (some ⟨g, 0, none⟩) len cap)).run P w = .ok (.string (strOfNums xs)) w :=
  run_convert_bytes_arg w src e hs he g 0 len cap xs hl (fun i hi => by rw [Nat.zero_add, h.cell, hx i hi]) dst hd
theorem strOfNums_append (xs ys : List Int) : strOfNums xs ++ strOfNums ys = strOfNums (xs ++ ys) := by
  simp only [strOfNums]
  apply ByteArray.ext
  simp
end Go.Proofs.Ythjhiogbnacmdaa.kit
