/- General words, over any program: a map that counts by keys that are structs: an entry taken away. -/
import Derived.Test.YtdocphkpeonldaaKitN
namespace Go.Proofs.Ytdocphkpeonldaa.kit
open Go.ChangeShapes Go.WideShapes Go.ChangeAt Go.RowKit Go.ChangeMaps Go.MapKept
open Go.WideMaps (KeyLaw)
section
variable {P : Program} {T K E : TypeId} {w : World} {B : Nat}
open Classical in
theorem Cnt.del {f : Value → Int} (h : Cnt P K w B f) (L : KeyLaw P K) (ht : P.underlying T = some (.map K E)) {v : Value} {l : Lit} (hv : keyOf P K v = some l) (ts : Array TypeId) (hts : ts[0]? = some T) (ty : TypeId) :
    ∃ es c, (Builtin.delete_ ts ty #[.map (some B), v]).run P w = .ok (.tuple #[]) (setBlock w B (.map es c)) ∧ Cnt P K (setBlock w B (.map es c)) B (fun y => if y = v then 0 else f y) := by
  obtain ⟨es, c, hm, hs, hk, hx, h0⟩ := h
  rcases L.find w hv es.toList hk with ⟨h1, h2⟩ | ⟨j, e0, h1, h2, h3⟩
  · refine ⟨es, c, ?_, ⟨es, c, hm.set_ _ _, hs, hk, fun x q => ?_, fun y hy => ?_⟩⟩
    · simp [Builtin.delete_, hts, run_underlying ht, MapKept.run_getObj_map hm, L.check w _ hv, h1, MapKept.run_setObj_map _ hm, Result.andThen, setBlock]
    · simp only []
      rw [if_neg (h2 x q)]
      exact hx x q
    · simp only []
      split
      · rfl
      · exact h0 y hy
  · have hjl : j < es.toList.length := (List.getElem?_eq_some_iff.1 h2).1
    have hjs : j < es.size := by simpa using hjl
    have hsub : (es.eraseIdxIfInBounds j).toList = es.toList.eraseIdx j := by
      unfold Array.eraseIdxIfInBounds
      rw [dif_pos hjs]
      simp
    have hne : ∀ x ∈ (es.eraseIdxIfInBounds j).toList, x ∈ es.toList ∧ x.key ≠ v := by
      intro x q
      rw [hsub, List.mem_eraseIdx_iff_getElem] at q
      obtain ⟨i, hi, hij, rfl⟩ := q
      refine ⟨List.getElem_mem hi, fun e => hij ?_⟩
      have hnd : (es.toList.map (·.key)).Nodup := by
        have := hs.2.2
        exact this
      have a1 : (es.toList.map (·.key))[i]? = some v := by rw [List.getElem?_map, List.getElem?_eq_getElem hi]; exact congrArg some e
      have a2 : (es.toList.map (·.key))[j]? = some v := by rw [List.getElem?_map, h2]; simp [h3]
      exact (List.getElem?_inj (by simpa using hi) hnd).1 (a1.trans a2.symm)
    refine ⟨es.eraseIdxIfInBounds j, c, ?_, ⟨_, _, hm.set_ _ _, stamped_erase hs j, fun x q => hk x (hne x q).1, fun x q => ?_, fun y hy => ?_⟩⟩
    · simp [Builtin.delete_, hts, run_underlying ht, MapKept.run_getObj_map hm, L.check w _ hv, h1, MapKept.run_setObj_map _ hm, Result.andThen, setBlock]
    · simp only []
      rw [if_neg (hne x q).2]
      exact hx x (hne x q).1
    · simp only []
      split
      · rfl
      · rename_i hyv
        refine h0 y (fun x q e => ?_)
        refine hy x ?_ e
        rw [hsub, List.mem_eraseIdx_iff_getElem]
        obtain ⟨i, hi, rfl⟩ := List.mem_iff_getElem.1 q
        refine ⟨i, hi, fun hij => hyv ?_, rfl⟩
        subst hij
        rw [List.getElem?_eq_getElem hi] at h2
        have := Option.some.inj h2
        rw [← e, this, h3]
end
end Go.Proofs.Ytdocphkpeonldaa.kit
