/- General words, over any program: a map that counts by keys that are structs. -/
import Derived.Test.YthjhiogbnacmdaaKitM
import Derived.WideKeyEntry
import Derived.DeepKeys4
namespace Go.Proofs.Ythjhiogbnacmdaa.kit
open Go.ChangeShapes Go.WideShapes Go.ChangeAt Go.RowKit Go.ChangeMaps Go.MapKept
open Go.WideMaps (KeyLaw)
section
variable {P : Program} {T K E : TypeId} {w : World} {B : Nat}
/-- Block B counts: of each key so many; of one that it hasn't none. -/
def Cnt (P : Program) (K : TypeId) (w : World) (B : Nat) (f : Value → Int) : Prop :=
  ∃ es c, MapB w B es c ∧ Stamped es c ∧ (∀ x ∈ es.toList, ∃ l, keyOf P K x.key = some l) ∧ (∀ x ∈ es.toList, x.val = .int .i64 (f x.key)) ∧ ∀ v, (∀ x ∈ es.toList, x.key ≠ v) → f v = 0
theorem Cnt.lt {f : Value → Int} (h : Cnt P K w B f) : B < w.heap.size := by obtain ⟨es, c, hm, _⟩ := h; exact hm.lt
theorem Cnt.block {f : Value → Int} {w' : World} (h : Cnt P K w B f) (e : w'.heap[B]? = w.heap[B]?) : Cnt P K w' B f := by
  obtain ⟨es, c, hm, r⟩ := h
  exact ⟨es, c, hm.block e, r⟩
theorem Cnt.below {f : Value → Int} {k : Nat} {w' : World} (h : Cnt P K w B f) (hb : Below k w w') (hk : B < k) : Cnt P K w' B f := h.block (hb.block B hk)
theorem Cnt.drew {f : Value → Int} (h : Cnt P K w B f) : Cnt P K w.drew B f := h
theorem Cnt.new (w : World) : Cnt P K (w.alloc (.map #[] 0)) w.heap.size (fun _ => 0) := ⟨#[], 0, MapB.new w, stamped_empty 0, by simp, by simp, fun _ _ => rfl⟩
theorem Cnt.look {f : Value → Int} (h : Cnt P K w B f) (L : KeyLaw P K) (ht : P.underlying T = some (.map K E)) (hz : ∀ u : World, (zeroValue E).run P u = .ok (.int .i64 0) u) {v : Value} {l : Lit} (hv : keyOf P K v = some l) :
    (Instr.lookup T (.map (some B)) v false).run P w = .ok (.int .i64 (f v)) w := by
  obtain ⟨es, c, hm, _, hk, hx, h0⟩ := h
  rcases L.find w hv es.toList hk with ⟨h1, h2⟩ | ⟨j, e0, h1, h2, h3⟩
  · rw [h0 v h2]
    simp [Instr.lookup, run_underlying ht, MapKept.run_getObj_map hm, L.check w _ hv, h1, hz, Result.andThen]
  · have h4 := hx e0 (List.mem_of_getElem? h2)
    rw [h3] at h4
    simp [Instr.lookup, run_underlying ht, MapKept.run_getObj_map hm, L.check w _ hv, h1, h4, Result.andThen]
open Classical in
theorem Cnt.entry {f : Value → Int} (h : Cnt P K w B f) (L : KeyLaw P K) (ht : P.underlying T = some (.map K E)) (hz : ∀ u : World, (zeroValue E).run P u = .ok (.int .i64 0) u) {v : Value} {l : Lit} (hv : keyOf P K v = some l) :
    ∃ (st : Nat) (es1 : Array MapEntry) (c1 : Nat), (Instr.mapEntry T (.map (some B)) v).run P w = .ok (.tuple #[.int .i64 (f v), goInt st]) (setBlock w B (.map es1 c1)) ∧ Cnt P K (setBlock w B (.map es1 c1)) B f ∧
      ∀ (w2 : World) (n : Int), MapB w2 B es1 c1 → ∃ es' c', (Instr.entryStore T (.map (some B)) (goInt st) (.int .i64 n)).run P w2 = .ok () (setBlock w2 B (.map es' c')) ∧ Cnt P K (setBlock w2 B (.map es' c')) B (fun y => if y = v then n else f y) := by
  obtain ⟨es, c, hm, hs, hk, hx, h0⟩ := h
  obtain ⟨s1, s2, s3⟩ := hs
  rcases L.find w hv es.toList hk with ⟨h1, h2⟩ | ⟨j, e0, h1, h2, h3⟩
  · have hfv := h0 v h2
    have hst : ∀ z, Stamped (es.push ⟨v, z, c⟩) (c + 1) := fun z => stamped_push ⟨s1, s2, s3⟩ h2
    refine ⟨c, es.push ⟨v, .int .i64 0, c⟩, c + 1, ?_, ⟨_, _, hm.set_ _ _, hst _, ?_, ?_, ?_⟩, fun w2 n hw2 => ⟨es.push ⟨v, .int .i64 n, c⟩, c + 1, ?_, ⟨_, _, hw2.set_ _ _, hst _, ?_, ?_, ?_⟩⟩⟩
    · rw [hfv]
      simp [Instr.mapEntry, run_underlying ht, MapKept.run_getObj_map hm, L.check w false hv, h1, hz, MapKept.run_setObj_map _ hm, Result.andThen, setBlock]
    · intro x hx'
      rw [Array.toList_push, List.mem_append] at hx'
      rcases hx' with q | q
      · exact hk x q
      · rw [List.mem_singleton] at q; subst q; exact ⟨l, hv⟩
    · intro x hx'
      rw [Array.toList_push, List.mem_append] at hx'
      rcases hx' with q | q
      · exact hx x q
      · rw [List.mem_singleton] at q; subst q; rw [hfv]
    · intro y hy
      exact h0 y (fun x q => hy x (by rw [Array.toList_push, List.mem_append]; exact .inl q))
    · have hidx : (es.push ⟨v, .int .i64 0, c⟩).findIdx? (fun e => ((e.born : Nat) : Int) == ((c : Nat) : Int)) = some es.size := by
        rw [Go.WideElems.findIdx_arr]
        exact Go.WideElems.findIdx_born (l := (es.push ⟨v, .int .i64 0, c⟩).toList) (j := es.size) (e0 := ⟨v, .int .i64 0, c⟩) (hst _).2.1 (by simp)
      have hmod : (es.push ⟨v, .int .i64 0, c⟩).modify es.size (fun e => { e with val := .int .i64 n }) = es.push ⟨v, .int .i64 n, c⟩ := by
        apply Array.ext'
        rw [Array.toList_modify, Array.toList_push, Array.toList_push, ← Array.length_toList, Go.WideElems.modify_last]
      simp [Instr.entryStore, MapKept.run_getObj_map hw2, asInt, asIntOf, goInt, hidx, hmod, MapKept.run_setObj_map _ hw2, Result.andThen, setBlock]
    · intro x hx'
      rw [Array.toList_push, List.mem_append] at hx'
      rcases hx' with q | q
      · exact hk x q
      · rw [List.mem_singleton] at q; subst q; exact ⟨l, hv⟩
    · intro x hx'
      rw [Array.toList_push, List.mem_append] at hx'
      rcases hx' with q | q
      · simp only []; rw [if_neg (h2 x q)]; exact hx x q
      · rw [List.mem_singleton] at q; subst q; simp
    · intro y hy
      have hne : v ≠ y := hy ⟨v, .int .i64 n, c⟩ (by simp)
      simp only []
      rw [if_neg (Ne.symm hne)]
      exact h0 y (fun x q => hy x (by rw [Array.toList_push, List.mem_append]; exact .inl q))
  · have hj : es[j]? = some e0 := by simpa using h2
    have hmem := List.mem_of_getElem? h2
    have h4 := hx e0 hmem
    rw [h3] at h4
    have hsame : es.modify j (fun e => { e with key := v }) = es := by
      apply Array.ext'
      rw [Array.toList_modify, modify_eq_set _ _ _ _ h2]
      have : ({ e0 with key := v } : MapEntry) = e0 := by rw [← h3]
      rw [this]
      exact Go.WideElems.set_self _ _ _ h2
    have hmod : ∀ n, es.modify j (fun e => { e with val := Value.int .i64 n }) = (es.toList.set j ⟨v, .int .i64 n, e0.born⟩).toArray := fun n => by
      apply Array.ext'
      rw [Array.toList_modify, modify_eq_set _ _ _ _ h2, ← h3]
    have hlj : j < es.toList.length := (List.getElem?_eq_some_iff.1 h2).1
    have hkeys : ∀ n, (es.toList.set j ⟨v, .int .i64 n, e0.born⟩).map (·.key) = es.toList.map (·.key) := fun n => by
      rw [List.map_set]
      exact Go.WideElems.set_self _ _ _ (by rw [List.getElem?_map, h2, ← h3]; rfl)
    have hborn : ∀ n, (es.toList.set j ⟨v, .int .i64 n, e0.born⟩).map (·.born) = es.toList.map (·.born) := fun n => by
      rw [List.map_set]
      exact Go.WideElems.set_self _ _ _ (by rw [List.getElem?_map, h2]; rfl)
    refine ⟨e0.born, es, c, ?_, ⟨es, c, hm.set_ _ _, ⟨s1, s2, s3⟩, hk, hx, h0⟩, fun w2 n hw2 => ⟨es.modify j (fun e => { e with val := .int .i64 n }), c, ?_, ?_⟩⟩
    · simp [Instr.mapEntry, run_underlying ht, MapKept.run_getObj_map hm, L.check w false hv, h1, hj, h3, h4, L.stays w hv, hsame, MapKept.run_setObj_map _ hm, Result.andThen, setBlock]
    · have hidx : es.findIdx? (fun e => ((e.born : Nat) : Int) == ((e0.born : Nat) : Int)) = some j := by
        rw [Go.WideElems.findIdx_arr]
        exact Go.WideElems.findIdx_born s2 h2
      simp [Instr.entryStore, MapKept.run_getObj_map hw2, asInt, asIntOf, goInt, hidx, MapKept.run_setObj_map _ hw2, Result.andThen, setBlock]
    · rw [hmod n]
      have hmem2 : ∀ x ∈ es.toList.set j ⟨v, .int .i64 n, e0.born⟩, x = ⟨v, .int .i64 n, e0.born⟩ ∨ (x ∈ es.toList ∧ x.key ≠ v) := by
        intro x hx'
        obtain ⟨i, hi, rfl⟩ := List.mem_iff_getElem.1 hx'
        rw [List.getElem_set]
        split
        · exact .inl rfl
        · rename_i hne
          have hi' : i < es.toList.length := by simpa using hi
          refine .inr ⟨List.getElem_mem hi', fun e => hne ?_⟩
          have hnd : (es.toList.map (·.key)).Nodup := s3
          have a1 : (es.toList.map (·.key))[i]? = some v := by rw [List.getElem?_map, List.getElem?_eq_getElem hi']; exact congrArg some e
          have a2 : (es.toList.map (·.key))[j]? = some v := by rw [List.getElem?_map, h2]; simp [h3]
          exact ((List.getElem?_inj (by simpa using hi') hnd).1 (a1.trans a2.symm)).symm
      refine ⟨_, _, hw2.set_ _ _, (stamped_iff _ _).2 ⟨?_, ?_, ?_⟩, ?_, ?_, ?_⟩
      · intro x hx'
        rcases hmem2 x (by simpa using hx') with rfl | ⟨q, _⟩
        · exact s1 e0 hmem
        · exact s1 x q
      · simpa [hborn n] using s2
      · have : ((es.toList.set j ⟨v, .int .i64 n, e0.born⟩).map (·.key)).Nodup := by rw [hkeys n]; exact s3
        exact List.pairwise_map.1 this
      · intro x hx'
        rcases hmem2 x (by simpa using hx') with rfl | ⟨q, _⟩
        · exact ⟨l, hv⟩
        · exact hk x q
      · intro x hx'
        rcases hmem2 x (by simpa using hx') with rfl | ⟨q, qv⟩
        · simp
        · simp only []; rw [if_neg qv]; exact hx x q
      · intro y hy
        have hne : v ≠ y := hy ⟨v, .int .i64 n, e0.born⟩ (by simpa using List.mem_iff_getElem.2 ⟨j, by simpa using hlj, by simp⟩)
        simp only []
        rw [if_neg (Ne.symm hne)]
        refine h0 y (fun x q e => ?_)
        subst e
        have : x.key ∈ (es.toList.set j ⟨v, .int .i64 n, e0.born⟩).map (·.key) := by rw [hkeys n]; exact List.mem_map.2 ⟨x, q, rfl⟩
        obtain ⟨x', hx', e'⟩ := List.mem_map.1 this
        exact hy x' (by simpa using hx') e'
end
end Go.Proofs.Ythjhiogbnacmdaa.kit
