/- Layer 20: the statement's own list behind a message: a region over any act (gen-sqs.py wrote this). -/
import Derived.Test.YthddacgdmngfhaaSqR
namespace Go.Proofs.Ythddacgdmngfhaa.fra
open Go.Sort (grow)
open Go.ChangeShapes Go.WideShapes Go.ChangeAt Go.RowKit kit byt fil
set_option maxRecDepth 1000000
theorem step_app2 {P : Program} {ops : Array Oper} {Q : Exit → Act → World → Prop} {S : World → Prop} {i : Nat} {o : Oper} {d fuel : Nat} {L : Array Bool} {a : Act} {w w' : World} {s x : Operand} {t : TypeId} {v sv v' : Value} (hr : Region.ready .any ops L = [i]) (hi : ops[i]? = some o) (hg : o.guard = none) (hd : o.dst = some d) (ho : o.op = .call { callee := .builtin .append, args := #[s, x], argTypes := #[t, t] })
    (hs : a.eval s = v) (hx : a.eval x = sv) (hrun : (Builtin.append_ #[t, t] o.type #[v, sv]).run P w = .ok v' w') (hS : S w') (h : wpAnyH P .any ops Q S fuel (L.setIfInBounds i true) (a.put (some d) v') w') : wpAnyH P .any ops Q S (fuel + 1) L a w :=
  wpAnyH_step hr (by simp) fun j hj => by
    obtain rfl : j = i := by simpa using hj
    exact wpOp_of hi hg (wp_append_src s x t ho hs hx hrun ⟨hS, hd ▸ h⟩)
noncomputable def reg19 : Code := (Try.f3.body.bind (findReg 19)).getD .skip
set_option maxHeartbeats 4000000 in
theorem r19 (a : Act) (w : World) (G mb : Nat) (k s pr : Int) (lo : Bool) (D : ByteArray) (L : List Ck) (lv : Value) (hD : D.size ≤ 100000) (hL : L.length ≤ 6000) (q : Qo w G 15 lv L.length (cellsC L)) (M : Blk w mb 30 #[.int .i64 k, .int .i64 s, .bool lo, .int .u32 pr, .string D])
    (hsz : a.tmps.size = 231) (h8 : a.eval (.tmp 8) = lv) (h17 : a.eval (.tmp 17) = .pointer (some ⟨mb, 0, none⟩))
    (Q : Exit → Act → World → Prop) (hfin : ∀ (u97 u99 u101 u102 : Value) (w' : World), Qo w' w.heap.size 15 u102 (L ++ pts (if lo then 4 else 0) k s pr D).length (cellsC (L ++ pts (if lo then 4 else 0) k s pr D)) → Below w.heap.size w w' →
      Q .normal (((((((a.put (some 98) lv).put (some 100) (.agg #[.int .i64 k, .int .i64 s, .bool lo, .int .u32 pr, .string D])).put (some 97) u97).put (some 99) u99).put (some 101) u101).put (some 102) u102).put (some 8) u102) w')
    (c : Code) (hc : c = reg19) : Code.wp Try.prog c Q a w := by
  subst hc
  conv => arg 2; whnf
  have HF := Lib.hid hfin
  clear hfin
  obtain ⟨i0, hi, hz0, hz1, hz2⟩ := info_parts infoK
  have hsp := fun W => split_any k s pr 200 lo D 200 (if lo then 4 else 0) (by omega) rfl (by omega) (by omega) hD W
  have HM := Lib.hid (show ∀ v, Below w.heap.size w v → Cel v mb 0 #[.int .i64 k, .int .i64 s, .bool lo, .int .u32 pr, .string D] from fun v hb => (Cel.of_blk M).below hb M.lt)
  refine wp_region_noPanic ?_
  refine wp_region_held_drew (S := fun v => Below w.heap.size w v) (by kernel_rfl) (Below.refl _ _).drew (fun _ => ?_)
  have b0 : Below w.heap.size w w.drew := (Below.refl _ _).drew
  refine take_run (i := 1) (u := lv) rfl (by kernel_rfl) (by kernel_rfl) (by kernel_rfl) rfl rfl (fun _ _ _ h => h) b0 (fun v hv => run_move rfl (by simp [Act.eval_put_ne, Act.eval_put_same, Act.size_put, hsz, h8, h17]) v) ?_
  refine take_run (i := 3) (u := .agg #[.int .i64 k, .int .i64 s, .bool lo, .int .u32 pr, .string D]) rfl (by kernel_rfl) (by kernel_rfl) (by kernel_rfl) rfl rfl (fun _ _ _ h => h) b0 (fun v hv => run_load_at rfl (h := mb) (off := 0) (by simp [Act.eval_put_ne, Act.eval_put_same, Act.size_put, hsz, h8, h17]) _ Try.underlying30 rfl (szM _ _ _ _ _) (HM.out v hv)) ?_
  have al1 : Below w.heap.size w (w.drew.alloc (.cells #[] 40)) := b0.alloc (Nat.le_refl _) _
  refine step_val (i := 0) (u := .slice (some ⟨w.drew.heap.size, 0, none⟩) 0 0) (w' := w.drew.alloc (.cells #[] 40)) (by kernel_rfl) rfl rfl rfl al1 (run_build0 rfl (by go_simp)) ?_
  have qE := Qo.empty (w.drew.alloc (.cells #[] 40)) w.heap.size 15 (some ⟨w.drew.heap.size, 0, none⟩)
  obtain ⟨v2, w2, hr2, q2, gr2, ha2⟩ := qo_append (P := Try.prog) (t := 26) (ty := 26) Try.underlying26 hi hz0 hz1 hz2 rfl qE ((q.below al1 (Nat.le_refl _)).src Try.underlying26 (cellsC_one L)) (by unfold maxLen; omega) (by omega) al1.size
  have bel2 : Below w.heap.size w w2 := al1.grown gr2 al1.size (fun k hk => by rw [blkOf_zero] at hk; cases hk)
  refine step_app2 (i := 2) (v := .slice (some ⟨w.drew.heap.size, 0, none⟩) 0 0) (sv := lv) (v' := v2) (w' := w2) (by kernel_rfl) rfl rfl rfl rfl (by simp [Act.eval_put_ne, Act.eval_put_same, Act.size_put, hsz, h8, h17]) (by simp [Act.eval_put_ne, Act.eval_put_same, Act.size_put, hsz, h8, h17]) hr2 bel2 ?_
  refine step_calls (i := 4) (by kernel_rfl) rfl rfl rfl 21 Try.f21 _ _ rfl Try.func21 (by kernel_rfl) (by kernel_rfl) #[.agg #[.int .i64 k, .int .i64 s, .bool lo, .int .u32 pr, .string D], .int .i64 200] (by simp [Act.eval_put_same, Act.eval_put_ne, Act.size_put, hsz]; rfl) (hsp _) ?_
  rintro e w3 ⟨⟨vp, np, rfl, hparts, hn1, hn2⟩, hb3⟩
  have hnp : np = (D.size + 199) / 200 := by
    rcases Nat.eq_zero_or_pos np with h' | h'
    · omega
    · have := hn1 (np - 1) (by omega)
      omega
  have hs2 := bel2.size
  have bel3 : Below w.heap.size w w3 := bel2.trans (hb3.mono hs2)
  refine ⟨vp, rfl, bel3, ?_⟩
  have q3 := q2.below hb3 (Nat.le_refl _)
  have srcA := src_parts (P := Try.prog) (tx := 26) Try.underlying26 hnp hparts
  have hs3 := bel3.size
  obtain ⟨v5, w5, hr5, q5, gr5, ha5⟩ := qo_append (P := Try.prog) (t := 26) (ty := 26) Try.underlying26 hi hz0 hz1 hz2 rfl q3 srcA (by unfold maxLen; omega) (by omega) hs3
  have bel5 : Below w.heap.size w w5 := bel3.grown gr5 hs3 (fun k hk => (q3.lt hk).1)
  refine step_app2 (i := 5) (v := v2) (sv := vp) (v' := v5) (w' := w5) (by kernel_rfl) rfl rfl rfl rfl (by simp [Act.eval_put_ne, Act.eval_put_same, Act.size_put, hsz, h8, h17]) (by simp [Act.eval_put_ne, Act.eval_put_same, Act.size_put, hsz, h8, h17]) hr5 bel5 ?_
  refine step_val (i := 6) (u := v5) (w' := w5) (by kernel_rfl) rfl rfl rfl bel5 (run_assign rfl (by simp [Act.eval_put_ne, Act.eval_put_same, Act.size_put, hsz, h8, h17]) _) ?_
  refine wpAnyH_done (by kernel_rfl) ?_ _
  refine NoPanic.normal ?_
  refine HF.out _ _ _ _ _ ?_ bel5
  have hl : (L ++ pts (if lo then 4 else 0) k s pr D).length = 0 + L.length + np := by rw [List.length_append, pts_len, hnp]; omega
  rw [hl, cellsC_append]
  rw [List.nil_append] at q5
  exact q5
end Go.Proofs.Ythddacgdmngfhaa.fra
