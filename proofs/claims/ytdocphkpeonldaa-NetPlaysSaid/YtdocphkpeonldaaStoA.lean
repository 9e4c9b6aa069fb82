/- Layer 42: numbers that are drawn. -/
import Derived.Test.YtdocphkpeonldaaRows
import Derived.Test.YtdocphkpeonldaaKit
import Derived.LoopTactic
import Derived.Outline
import Derived.Deep.RegionHeld3
import Derived.Deep.RegionWith
import Derived.BigRegion
import Derived.BigQuiet
import Derived.Laws.IdiomCopy
namespace Go.Proofs.Ytdocphkpeonldaa.storm
open Go.Sort (grow)
open Go.ChangeShapes Go.WideShapes Go.ChangeAt Go.RowKit kit
set_option maxRecDepth 100000

theorem percent_any (n : Int) (w : World) (h0 : 0 ≤ n) (h1 : n ≤ 100) : Calls Try.prog 85 #[.int .i64 n] w fun e w' => e = .returned (.int .i64 n) ∧ w = w' := by
  go_enter Try.func85, Try.ntmps85
  go_wp2
  all_goals
    go_ret
    exact ⟨by first | rfl | (refine ret_int ?_; omega) | (refine ret_int ?_; simp; omega), rfl⟩

/-- A store of what is there already turns nothing. -/
theorem setCell_self {w : World} {b o : Nat} {v : Value} (h : w.cell? ⟨b, o, none⟩ = some v) : w.setCell ⟨b, o, none⟩ v = w := by
  cases w with
  | mk heap tape drawn os output =>
    simp only [World.cell?] at h
    unfold World.setCell
    congr 1
    apply Array.ext
    · simp
    · intro k h1 h2
      simp only [Array.getElem_modify]
      split
      · rename_i hk
        subst hk
        rw [Array.getElem?_eq_getElem h2] at h
        cases hb : heap[b] with
        | cells cs e f =>
          rw [hb] at h
          simp at h
          simp only [Obj.cells.injEq, and_true]
          show (if (none : Option Nat).isSome = true then cs else cs.setIfInBounds o v) = cs
          rw [if_neg (by simp)]
          apply Array.ext
          · simp
          · intro i q1 q2
            rw [Array.getElem_setIfInBounds]
            · split
              · rename_i hi; subst hi
                rw [Array.getElem?_eq_getElem q2] at h
                exact (Option.some.inj h).symm
              · rfl
        | _ => rfl
      · rfl
theorem run_storeVar_one {P : Program} {w : World} {b k : Nat} (ty : TypeId) {u v : Value} (hi : (P.info? ty).map (·.size) = some 1) (hv : v.cells = #[v]) (h1 : v.oneCell' = true) (hc : w.cell? ⟨b, k, none⟩ = some u) (hf : w.frozen? ⟨b, k, none⟩ = false) :
    (storeVar ty ⟨b, k, none⟩ v).run P w = .ok () (w.setCell ⟨b, k, none⟩ v) := by
  have := run_storeCells_cells (P := P) b k [v] 0 w (fun j hj => by obtain rfl : j = 0 := (by simpa using hj); exact (congrArg Option.isSome hc).trans rfl) (fun j hj => by obtain rfl : j = 0 := (by simpa using hj); exact hf) (fun x hx => by obtain rfl : x = v := (by simpa using hx); exact h1)
  rw [Nat.add_zero] at this
  cases hq : P.info? ty with
  | none => simp [hq] at hi
  | some i =>
    have hs : i.size = 1 := by simpa [hq] using hi
    simpa [storeVar, sizeOf, typeInfo, hq, hv, hs, World.setCells] using this
/-- A store of what is there already is quiet. -/
theorem wpQuiet_store_same {P : Program} {ops : Array Oper} {C : World → Prop} {Q : Act → Prop} {a : Act} {o : Oper} {rest : List Oper} (hgd : o.guard = none) (ty : TypeId) (x y : Operand) (ho : o.op = .store ty x y)
    (b k : Nat) (hx : a.eval x = .pointer (some ⟨b, k, none⟩)) (v : Value) (hy : a.eval y = v) (hi : (P.info? ty).map (·.size) = some 1) (hv : v.cells = #[v]) (h1 : v.oneCell' = true)
    (hc : ∀ w, C w → w.cell? ⟨b, k, none⟩ = some v ∧ w.frozen? ⟨b, k, none⟩ = false) (h : wpQuiet P ops C Q rest (a.put o.dst undef)) : wpQuiet P ops C Q (o :: rest) a :=
  wpQuiet_step fun K hK => by
    simp only [Region.wanted, hgd, if_true]
    refine ⟨undef, fun w hw => ?_, hK _ h⟩
    obtain ⟨c, f⟩ := hc w hw
    unfold Oper.quietAt execOp
    simp only [ho, hx, hy, Instr.storeAt, Instr.sureAddr, Sem.run_bind, Sem.run_pure, Result.andThen_ok, run_storeVar_one ty hi hv h1 c f, setCell_self c]
    exact ⟨rfl, rfl⟩
theorem szI3 : (Try.prog.info? 3).map (·.size) = some 1 := by kernel_rfl
set_option maxHeartbeats 2000000 in
theorem new_any (s l : Int) (w : World) (h0 : 0 ≤ l) (h1 : l ≤ 100) : Calls Try.prog 31 #[.agg #[.int .u64 s, .int .i64 l, .int .i64 0, .int .i64 0, .int .i64 0]] w fun e w' => ∃ g m : Nat, e = .returned (.pointer (some ⟨g, 0, none⟩)) ∧ w.heap.size ≤ g ∧ Blk w' g 160 #[.int .u64 s, .int .i64 l, .int .i64 0, .int .i64 0, .int .i64 0, .map (some m)] ∧ Below w.heap.size w w' := by
  have p0 : ∀ w, Calls Try.prog 85 #[.int .i64 0] w fun e w' => e = .returned (.int .i64 0) ∧ Below w.heap.size w w' := fun w => (percent_any 0 w (by omega) (by omega)).mono fun e w' ⟨he, hw⟩ => ⟨he, hw ▸ Below.refl _ _⟩
  have pl : ∀ w, Calls Try.prog 85 #[.int .i64 l] w fun e w' => e = .returned (.int .i64 l) ∧ Below w.heap.size w w' := fun w => (percent_any l w h0 h1).mono fun e w' ⟨he, hw⟩ => ⟨he, hw ▸ Below.refl _ _⟩
  have hmk : ∀ w, (Instr.makeMap 158 none).run Try.prog w = .ok (.map (some w.heap.size)) (w.alloc (.map #[] 0)) := fun w => rfl
  go_enter Try.func31, Try.ntmps31
  go_wp2_with fail
  have B0 := Blk.new w 60 #[.int .u64 s, .int .i64 l, .int .i64 0, .int .i64 0, .int .i64 0]
  have bel0 := (Below.refl w.heap.size w).alloc (Nat.le_refl _) (.cells #[.int .u64 s, .int .i64 l, .int .i64 0, .int .i64 0, .int .i64 0] 60)
  generalize w.alloc (.cells #[.int .u64 s, .int .i64 l, .int .i64 0, .int .i64 0, .int .i64 0] 60) = w1 at *
  have k1 := cell_regrown (B0.cell 1)
  have k2 := cell_regrown (B0.cell 2)
  have k3 := cell_regrown (B0.cell 3)
  have k4 := cell_regrown (B0.cell 4)
  have f1 := fun d os => ((below_regrown w1 d os).frozen (p := ⟨w.heap.size, 1, none⟩) B0.lt).trans (B0.frozen 1)
  have f2 := fun d os => ((below_regrown w1 d os).frozen (p := ⟨w.heap.size, 2, none⟩) B0.lt).trans (B0.frozen 2)
  have f3 := fun d os => ((below_regrown w1 d os).frozen (p := ⟨w.heap.size, 3, none⟩) B0.lt).trans (B0.frozen 3)
  have f4 := fun d os => ((below_regrown w1 d os).frozen (p := ⟨w.heap.size, 4, none⟩) B0.lt).trans (B0.frozen 4)
  refine wp_region_quiet_below (by kernel_rfl) (by kernel_rfl) ?_
  repeat (any_goals (first | go_big_quiet_step ((go_at_call 85; first | (with_reducible exact Calls.regrown_of (pl _)) | (with_reducible exact Calls.regrown_of (p0 _)))) | quiet_step ((go_at_call 85; first | (with_reducible exact Calls.regrown_of (pl _)) | (with_reducible exact Calls.regrown_of (p0 _)))) | (first | (refine wpQuiet_store_same (by rfl) 3 _ _ (by rfl) w.heap.size 1 (by rfl) _ (by rfl) szI3 (by rfl) (by rfl) (fun w' hw' => by obtain ⟨p, rfl⟩ := hw'; exact ⟨k1 _ _, f1 _ _⟩) ?_) | (refine wpQuiet_store_same (by rfl) 3 _ _ (by rfl) w.heap.size 2 (by rfl) _ (by rfl) szI3 (by rfl) (by rfl) (fun w' hw' => by obtain ⟨p, rfl⟩ := hw'; exact ⟨k2 _ _, f2 _ _⟩) ?_) | (refine wpQuiet_store_same (by rfl) 3 _ _ (by rfl) w.heap.size 3 (by rfl) _ (by rfl) szI3 (by rfl) (by rfl) (fun w' hw' => by obtain ⟨p, rfl⟩ := hw'; exact ⟨k3 _ _, f3 _ _⟩) ?_) | (refine wpQuiet_store_same (by rfl) 3 _ _ (by rfl) w.heap.size 4 (by rfl) _ (by rfl) szI3 (by rfl) (by rfl) (fun w' hw' => by obtain ⟨p, rfl⟩ := hw'; exact ⟨k4 _ _, f4 _ _⟩) ?_))))
  refine wpQuiet_nil ?_
  intro _ hw'
  obtain ⟨⟨dq, osq⟩, hw''⟩ := hw'
  subst hw''
  have B2 := B0.below (below_regrown w1 dq osq) B0.lt
  have bel2 := bel0.trans ((below_regrown w1 dq osq).mono bel0.size)
  clear k1 k2 k3 k4 f1 f2 f3 f4 B0 bel0
  generalize grow (redrawn w1 dq) osq = w2 at *
  have C := fun i => B2.cell i
  go_wp2_with fail
  go_ret
  exact ⟨w2.heap.size + 1, w2.heap.size, rfl, by have := bel2.size; omega, blk_new2 _ _ _ _, (bel2.alloc bel2.size _).alloc (by simp; have := bel2.size; omega) _⟩
theorem u64_pos (n : Int) (h0 : 1 ≤ n) (h1 : n ≤ 9223372036854775807) : IntKind.u64.wrap n = n := by
  show n % 18446744073709551616 = n
  omega
theorem draw_none (g : Nat) (n : Int) (hn : n < 1) (w : World) : Calls Try.prog 86 #[.pointer (some ⟨g, 0, none⟩), .int .i64 n] w fun e w' => e = .returned (.int .i64 0) ∧ w = w' := by
  go_enter Try.func86, Try.ntmps86
  go_wp2
  go_ret
  exact ⟨rfl, rfl⟩
theorem draw_some (g : Nat) (n x l : Int) (m : Value) (hn : 1 ≤ n) (hn1 : n ≤ 9223372036854775807) (w : World) (B : Blk w g 160 #[.int .u64 x, .int .i64 l, .int .i64 0, .int .i64 0, .int .i64 0, m]) : Calls Try.prog 86 #[.pointer (some ⟨g, 0, none⟩), .int .i64 n] w fun e w' => e = .returned (.int .i64 (wrap64 ((IntKind.u64.wrap (IntKind.u64.wrap (x * 6364136223846793005) + 1442695040888963407) / 8589934592).tmod n))) ∧ w' = w.setCell ⟨g, 0, none⟩ (.int .u64 (IntKind.u64.wrap (IntKind.u64.wrap (x * 6364136223846793005) + 1442695040888963407))) := by
  have c0 : w.cell? ⟨g, 0, none⟩ = some (.int .u64 x) := B.cell 0
  have f0 := B.frozen 0
  have hu := u64_pos n hn hn1
  have hz : (n == 0) = false := beq_eq_false_iff_ne.2 (by omega)
  have hz1 : ¬ n = 0 := by omega
  go_enter Try.func86, Try.ntmps86
  go_wp2
  go_ret
  exact ⟨rfl, rfl⟩
end Go.Proofs.Ytdocphkpeonldaa.storm
