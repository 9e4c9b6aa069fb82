/- Layer 20: more streams; an empty queue. -/
import Derived.Test.YthddacgdmngfhaaSqB
namespace Go.Proofs.Ythddacgdmngfhaa.fra
open Go.Sort (grow)
open Go.ChangeShapes Go.WideShapes Go.ChangeAt Go.RowKit kit
set_option maxRecDepth 100000

/-- An append of a number at a plain region's list. -/
theorem wpList_append_n {P : Program} {w w' : World} {ops : Array Oper} {rest : List Oper} {o : Oper} {a : Act} {Q : Exit → Act → World → Prop} (hgd : o.guard = none) (s x : Operand) (t tn : TypeId)
    (ho : o.op = .call { callee := .builtin .append, args := #[s, x], argTypes := #[t, tn] }) {v sv v' : Value} (hs : a.eval s = v) (hx : a.eval x = sv)
    (hr : (Builtin.append_ #[t, tn] o.type #[v, sv]).run P w = .ok v' w') (h : wpList P ops Q rest (a.put o.dst v') w') : wpList P ops Q (o :: rest) a w :=
  wpList_plain hgd fun _ hK => by
    unfold Oper.wp execOp
    simp only [ho, resolve, invoke, builtin, Sem.run_bind, Sem.run_pure, Result.andThen_ok, List.map_toArray, List.map_cons, List.map_nil, hs, hx, hr]
    exact hK _ _ h
theorem infoU16 : (Try.prog.info? 163).map (fun i => (i.zero, i.size, i.bytes)) = some (some (.int .u16 0), 1, 2) := by kernel_rfl
set_option maxHeartbeats 1000000 in
theorem sq_grow {b0 g : Nat} {pv cv : Value} {P : List Nat} {C : List Ck} {w : World} (h : Sq b0 g pv cv P C w) (b m : Nat) (hP : P.length ≤ 16) (hm : min b (16 - P.length) = m) (hb : b ≤ 100) : Calls Try.prog 19 #[.pointer (some ⟨g, 0, none⟩), .int .i64 b] w fun e w' => e = .returned (.tuple #[]) ∧ (∃ pv', Sq b0 g pv' cv (P ++ List.replicate m 0) C w' ∧ ∀ k, blkOf pv' = some k → blkOf pv = some k ∨ w.heap.size ≤ k) ∧ (∀ k, k < w.heap.size → k ≠ g → blkOf pv ≠ some k → w'.heap[k]? = w.heap[k]?) ∧ w.heap.size ≤ w'.heap.size ∧ Below b0 w w' := by
  obtain ⟨i0, hi, hz0, hz1, hz2⟩ := info_parts infoU16
  obtain ⟨oa, cap, hv, hc, hcm⟩ := h.p.shape
  have hgl := h.B.lt
  have hb0 : b0 ≤ w.heap.size := by have := h.hg; omega
  obtain ⟨v', w1, hr, q1, gr, hat⟩ := qo_zeros (P := Try.prog) (t := 156) (tn := 3) (ty := 156) (kq := .i64) (kn := .i64) Try.underlying156 Try.underlying3 hi hz0 hz1 hz2 rfl rfl (by omega) h.p m (by omega) (by omega) hb0
  rw [cellsP_zero] at q1
  obtain ⟨oa', cap', rfl, _, _⟩ := q1.shape
  have hs1 := gr.size
  have B1 : Blk w1 g 158 #[pv, cv, .int .i64 (bts C : Nat)] := (gr.block g hgl (fun e => h.np e.symm)).trans h.B
  have hbv : ∀ k, blkOf (.slice oa' (P.length + m) cap') = some k → blkOf pv = some k ∨ w.heap.size ≤ k := fun k hk => by
    rcases hat with e | e | e
    · exact .inl (e ▸ hk)
    · rw [e] at hk; cases hk; exact .inr (Nat.le_refl _)
    · rw [e] at hk; cases hk
  have hvg : blkOf (.slice oa' (P.length + m) cap') ≠ some g := fun e => by
    rcases hbv g e with h' | h'
    · exact h.np h'
    · omega
  have c1 : Qo w1 b0 15 cv C.length (cellsC C) := h.c.block hs1 fun k hk => gr.block k (h.c.lt hk).2 (fun e => h.pc k e.symm hk)
  have hvc : ∀ k, blkOf (.slice oa' (P.length + m) cap') = some k → blkOf cv ≠ some k := fun k hk e => by
    rcases hbv k hk with h' | h'
    · exact h.pc k h' e
    · have := (h.c.lt e).2; omega
  have F2 : Sq b0 g (.slice oa' (P.length + m) cap') cv (P ++ List.replicate m 0) C (w1.setCell ⟨g, 0, none⟩ (.slice oa' (P.length + m) cap')) := ⟨B1.set_ 0 _, by rw [List.length_append, List.length_replicate]; exact q1.far hvg _, c1.far (fun e => h.nc e) _, hvg, h.nc, hvc, h.hg⟩
  have bel2 : Below b0 w (w1.setCell ⟨g, 0, none⟩ (.slice oa' (P.length + m) cap')) := ((Below.refl b0 w).grown gr hb0 (fun k hk => (h.p.lt hk).1)).setCell (p := ⟨g, 0, none⟩) h.hg _
  have fr2 : ∀ k, k < w.heap.size → k ≠ g → blkOf pv ≠ some k → (w1.setCell ⟨g, 0, none⟩ (.slice oa' (P.length + m) cap')).heap[k]? = w.heap[k]? := fun k hk hkg hkp => (Below.heap_setCell w1 ⟨g, 0, none⟩ _ k hkg).trans (gr.block k hk (fun e => hkp e.symm))
  have hs2 : w.heap.size ≤ (w1.setCell ⟨g, 0, none⟩ (.slice oa' (P.length + m) cap')).heap.size := by simpa [World.setCell] using hs1
  have HR := Lib.hid (And.intro F2 (And.intro hbv (And.intro fr2 (And.intro hs2 bel2))))
  have c0 : w.cell? ⟨g, 0, none⟩ = some (.slice oa P.length cap) := (h.B.cell 0).trans (congrArg some hv)
  have d0 : w1.cell? ⟨g, 0, none⟩ = some (.slice oa P.length cap) := (B1.cell 0).trans (congrArg some hv)
  have d1 : w1.frozen? ⟨g, 0, none⟩ = false := B1.frozen 0
  rw [hv] at hr
  clear h q1 gr B1 hbv hvg c1 hvc F2 bel2 fr2 hs2 hat hv
  generalize P.length = n at *
  go_enter Try.func19, Try.ntmps19
  go_upto_region 1 with fail
  go_cut [4] (fun s4 wx => s4 = .int .i64 m ∧ wx = w)
  case first =>
    have hw1 : IntKind.i64.wrap (16 - (n : Int)) = 16 - (n : Int) := IntWalk.i64_in _ (by omega)
    go_wp2_with fail
    all_goals
      go_meet
      exact ⟨by first | rfl | (congr 1; omega), rfl⟩
  case rest =>
  obtain ⟨rfl, rfl⟩ := hcut
  go_wp2_with (at_builtin; refine wpList_append_n rfl _ _ _ _ rfl rfl rfl hr ?_)
  go_end0
  exact ⟨rfl, ⟨_, HR.out.1, HR.out.2.1⟩, HR.out.2.2.1, HR.out.2.2.2.1, HR.out.2.2.2.2⟩
theorem sq_new (b m : Nat) (w : World) (hb : b ≤ 31) (hm : min (max 1 b) 16 = m) : Calls Try.prog 14 #[.int .i64 b] w fun e w' => e = .returned (.pointer (some ⟨w.heap.size, 0, none⟩)) ∧ (∃ pv, Sq w.heap.size w.heap.size pv (.slice none 0 0) (List.replicate m 0) [] w') ∧ Below w.heap.size w w' := by
  have S1 : Sq w.heap.size w.heap.size (.slice none 0 0) (.slice none 0 0) [] [] (w.alloc (.cells #[.slice none 0 0, .slice none 0 0, .int .i64 0] 158)) := ⟨Blk.new _ _ _, Qo.nil _ _ _, Qo.nil _ _ _, (fun e => by cases e), (fun e => by cases e), (fun k e => by cases e), Nat.le_refl _⟩
  have bel1 := (Below.refl w.heap.size w).alloc (Nat.le_refl _) (.cells #[.slice none 0 0, .slice none 0 0, .int .i64 0] 158)
  obtain ⟨c, hc⟩ : ∃ c : Nat, max 1 b = c := ⟨_, rfl⟩
  have hg := sq_grow S1 c m (by simp) (by simp; omega) (by omega)
  have hmx : max (1 : Int) (b : Int) = (c : Int) := by omega
  clear S1
  go_enter Try.func14, Try.ntmps14
  go_upto_region 2 with fail
  generalize w.alloc (.cells #[.slice none 0 0, .slice none 0 0, .int .i64 0] 158) = w1 at *
  by_cases h1 : (1 : Int) < (b : Int)
  · obtain rfl : c = b := by omega
    go_wp2_with fail
    refine hg.mono ?_
    rintro e w2 ⟨rfl, ⟨pv, s2, _⟩, _, hs, hb2⟩
    go_wp2_with fail
    go_ret
    exact ⟨rfl, ⟨pv, s2⟩, bel1.trans hb2⟩
  · obtain rfl : c = 1 := by omega
    have h2 : (b : Int) ≤ 1 := by omega
    go_wp2_with fail
    refine hg.mono ?_
    rintro e w2 ⟨rfl, ⟨pv, s2, _⟩, _, hs, hb2⟩
    go_wp2_with fail
    go_ret
    exact ⟨rfl, ⟨pv, s2⟩, bel1.trans hb2⟩
end Go.Proofs.Ythddacgdmngfhaa.fra
