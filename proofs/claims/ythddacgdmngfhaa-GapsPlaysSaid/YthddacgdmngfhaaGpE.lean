/- Layer 16: a part put among parts. -/
import Derived.Test.YthddacgdmngfhaaGpD
import Derived.Lib.Overlaps
import Derived.Lib.AppendZerosOnto
import Derived.Laws.IdiomCopy
namespace Go.Proofs.Ythddacgdmngfhaa.gap
open Go.Sort (grow)
open Go.ChangeShapes Go.WideShapes Go.ChangeAt Go.RowKit kit
set_option maxRecDepth 100000
section
variable {P : Program}
theorem wpList_copy_q {w w' : World} {ops : Array Oper} {rest : List Oper} {o : Oper} {a : Act} {Q : Exit → Act → World → Prop} (hgd : o.guard = none) (d s : Operand) (t t' : TypeId)
    (ho : o.op = .call { callee := .builtin .copy, args := #[d, s], argTypes := #[t, t'] }) {v u v' : Value} (hd : a.eval d = v) (hs : a.eval s = u)
    (hr : (Builtin.copy_ #[t, t'] o.type #[v, u]).run P w = .ok v' w') (h : wpList P ops Q rest (a.put o.dst v') w') : wpList P ops Q (o :: rest) a w :=
  wpList_plain hgd fun _ hK => by
    unfold Oper.wp execOp
    simp only [ho, resolve, invoke, builtin, Sem.run_bind, Sem.run_pure, Result.andThen_ok, List.map_toArray, List.map_cons, List.map_nil, hd, hs, hr]
    exact hK _ _ h
theorem step_copy_q {ops : Array Oper} {o : Oper} {a : Act} {w w' : World} {K : Act → World → Prop} {Q : Exit → Act → World → Prop} {E : Prop}
    (hg : o.guard = none) (d x : Operand) (dT sT : TypeId) (hop : o.op = Op.call { callee := Callee.builtin Builtin.copy, args := #[d, x], argTypes := #[dT, sT] })
    {v u v' : Value} (hd : a.eval d = v) (hx : a.eval x = u) (hr : (Builtin.copy_ #[dT, sT] o.type #[v, u]).run P w = .ok v' w') (hK : K (a.put o.dst v') w') :
    if Region.wanted o (yielded ops a.tmps) = true then Oper.wp P o a w K Q else E := by
  have hw : Region.wanted o (yielded ops a.tmps) = true := by simp [Region.wanted, hg]
  rw [if_pos hw]
  unfold Oper.wp
  simp [execOp, hop, resolve, invoke, builtin, hd, hx, hr, Result.andThen]
  exact hK
/-- All is read before anything is written. -/
theorem run_copy_size (w : World) (dT sT ty elem : TypeId) (b o dLen dCap : Nat) (a : Addr) (sLen sCap size : Nat) (cs : List Value)
    (hu : P.underlying dT = some (.slice elem)) (hs : (P.info? elem).map (·.size) = some size) (hn : cs.length = Nat.min sLen dLen * size)
    (hsrc : ∀ j v, cs[j]? = some v → w.cell? (a.add j) = some v) (hc : ∀ j, j < cs.length → (w.cell? ⟨b, o + j, none⟩).isSome = true) (hf : ∀ j, j < cs.length → w.frozen? ⟨b, o + j, none⟩ = false) (h1 : ∀ v ∈ cs, v.oneCell' = true) :
    (Builtin.copy_ #[dT, sT] ty #[.slice (some ⟨b, o, none⟩) dLen dCap, .slice (some a) sLen sCap]).run P w = .ok (goInt (Nat.min sLen dLen)) (w.setCells b o cs) := by
  have hl := run_loadCells_list (P := P) w a cs hsrc
  have hst := run_storeCells_cells (P := P) b o cs 0 w (by simpa using hc) (by simpa using hf) h1
  cases hq : P.info? elem with
  | none => simp [hq] at hs
  | some i =>
    have hi : i.size = size := by simpa [hq] using hs
    simp [Builtin.copy_, run_underlying hu, Builtin.lenOf, Builtin.firstCells, sizeOf, typeInfo, hq, hi, ← hn, hl, hst]
end
/-- What comes of a part that is put among parts. -/
def Ins (b0 C : Nat) (v : Value) (L' : List (Nat × Nat)) (w : World) (e : Ending) (w' : World) : Prop := ∃ h cap, e = .returned (.slice (some ⟨h, 0, none⟩) L'.length cap) ∧ w'.ownsRow b0 193 2 (.slice (some ⟨h, 0, none⟩) L'.length cap) L'.length (cellsA C L') ∧ (v.ownBlock = some h ∨ w.heap.size ≤ h) ∧ (∀ j, j < w.heap.size → v.ownBlock ≠ some j → w'.heap[j]? = w.heap[j]?) ∧ w.heap.size ≤ w'.heap.size ∧ Below b0 w w'
def insL (k x : Nat) (L : List (Nat × Nat)) : List (Nat × Nat) := L.take k ++ (x, x) :: L.drop k
theorem insL_len (k x : Nat) (L : List (Nat × Nat)) : (insL k x L).length = L.length + 1 := by
  unfold insL
  simp
  omega
set_option maxHeartbeats 1000000 in
theorem ins_end (b0 C p x : Nat) (L : List (Nat × Nat)) (v : Value) (w : World) (own : w.ownsRow b0 193 2 v L.length (cellsA C L)) (V : Blk w p 193 (prt (ab C x) (ab C x))) (hb : b0 ≤ w.heap.size) (hL : L.length ≤ 2000) :
    Calls Try.prog 155 #[v, .int .i64 L.length, .slice (some ⟨p, 0, none⟩) 1 1] w fun e w' => Ins b0 C v (insL L.length x L) w e w' := by
  obtain ⟨i0, hi, hz0, hz1, hz2⟩ := info_parts infoP
  have hnews : ∀ j u, (prt (ab C x) (ab C x)).toList[j]? = some u → w.cell? ((⟨p, 0, none⟩ : Addr).add j) = some u := World.news_of_block V
  have hI : insL L.length x L = L ++ [(x, x)] := by unfold insL; simp
  have HR := Lib.hid (show ∀ h cap w', w'.ownsRow b0 193 2 (.slice (some ⟨h, 0, none⟩) (L.length + 1) cap) (L.length + 1) (cellsA C L ++ (prt (ab C x) (ab C x)).toList) → w.grownBy w' v.ownBlock → (v.ownBlock = some h ∨ h = w.heap.size) → Ins b0 C v (insL L.length x L) w (.returned (.slice (some ⟨h, 0, none⟩) (L.length + 1) cap)) w' from fun h cap w' ho hg ha => by
    have hl : (insL L.length x L).length = L.length + 1 := insL_len _ _ _
    refine ⟨h, cap, by rw [hl], ?_, ha.imp id (fun e => by omega), fun j hj hne => hg.block j hj (fun e => hne e.symm), hg.size, (Below.refl b0 w).grown hg hb (fun k hk => own_ge own k hk)⟩
    rw [hl, hI, cellsA_append]
    exact ho)
  have HO := Lib.hid own
  have HN := Lib.hid hnews
  obtain ⟨h, oa, cap, rfl, hc, hcm, _⟩ := own_row own
  clear own hnews V hI
  generalize L.length = n at *
  unfold maxLen at hcm
  go_enter Try.func155, Try.ntmps155
  cases oa with
  | none =>
    go_wp2_with (at_builtin; refine wpList_append_lies _ rfl _ _ 187 rfl b0 193 i0 (.agg (prt 0 0)) 2 8 Try.underlying187 hi hz0 hz1 hz2 rfl (by decide) _ n _ rfl HO.out ⟨p, 0, none⟩ 1 1 (prt (ab C x) (ab C x)).toList rfl rfl HN.out (by intro u hu; simp at hu; rcases hu with rfl | rfl <;> rfl) (by omega) (by unfold maxLen; omega) (by omega) hb w.heap.size rfl ?_; intro h2 cap2 w8 hown8 hgrow hat hlt)
    all_goals
      go_ret
      exact HR.out h2 cap2 w8 hown8 hgrow hat
  | some a =>
    obtain ⟨ab1, ao, asp⟩ := a
    go_wp2_with (at_builtin; refine wpList_append_lies _ rfl _ _ 187 rfl b0 193 i0 (.agg (prt 0 0)) 2 8 Try.underlying187 hi hz0 hz1 hz2 rfl (by decide) _ n _ rfl HO.out ⟨p, 0, none⟩ 1 1 (prt (ab C x) (ab C x)).toList rfl rfl HN.out (by intro u hu; simp at hu; rcases hu with rfl | rfl <;> rfl) (by omega) (by unfold maxLen; omega) (by omega) hb w.heap.size rfl ?_; intro h2 cap2 w8 hown8 hgrow hat hlt)
    all_goals
      go_ret
      exact HR.out h2 cap2 w8 hown8 hgrow hat
end Go.Proofs.Ythddacgdmngfhaa.gap
