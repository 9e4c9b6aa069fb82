/- Layer 10: the statements' arguments opened. -/
import Derived.Test.YtbdbcjhahlofiaaDoorCooI
import Derived.Test.YtbdbcjhahlofiaaDoorMacG
import Derived.SizedLaws
namespace Go.Proofs.YtbdbcjhahlofiaaDoor.coo
open Go.ChangeShapes Go.WideShapes Go.ChangeAt Go.RowKit kit oct
set_option maxRecDepth 100000

/-- The form's own reach, of a string in a struct. -/
theorem sized_field {H : Type} {enc : TypeId × Value → H} {P : Program} {w : World} {base : Nat} {sp : Nat → Bool} {held : Bool} {ts : List TypeId} {ds : List (DataW H)} (hsz : (DataW.weightsEach P ts ds).all (· ≤ reachBytes) = true) {j : Nat} {T : TypeId} {cs : Array Value} {d : DataW H} {p : List MemPlace}
    (ht : ts[j]? = some T) (hd : ds[j]? = some d) (h : DataW.Trod enc P w base sp held T (.agg cs) d p) {fs : Array Field} (hu : P.underlying T = some (.struct fs)) (i : Nat) {f : Field} (hf : fs[i]? = some f) (hs : P.underlying f.type = some .string) (h1 : P.cellsOf f.type = 1) {s : ByteArray} (hcell : cs.toList[f.offset]? = some (.string s)) : s.size ≤ reachBytes := by
  obtain ⟨m, hm⟩ := h
  obtain ⟨xs, n, _, hx, _, hxl, hfl⟩ := DataW.trod_struct hu hm
  simp only [Prod.mk.injEq] at hx
  have hi : i < xs.length := by rw [hxl]; exact (Array.getElem?_eq_some_iff.1 hf).1
  have hfi := hfl i f hf
  rw [List.getElem?_eq_getElem hi, h1] at hfi
  obtain ⟨s', e1, e2, _⟩ := DataW.trod_string hs hfi
  have e3 : ((Value.agg cs).cells.toList.drop f.offset).take 1 = [.string s] := by
    have hlt : f.offset < cs.toList.length := (List.getElem?_eq_some_iff.1 hcell).1
    show (cs.toList.drop f.offset).take 1 = _
    rw [List.drop_eq_getElem_cons hlt, List.take_succ_cons, List.take_zero]
    rw [List.getElem?_eq_getElem hlt] at hcell
    rw [Option.some.inj hcell]
  rw [e3] at e1
  obtain rfl : s = s' := by simpa using e1
  have hmem : s.data.toList.length ∈ d.weights P T := by
    rw [hx.1]
    simp only [DataW.weights, hu]
    refine DataW.weights_mem_each (j := i) (t := f.type) (d := .lit (.string s.data.toList)) ?_ ?_ _ (by simp [DataW.weights])
    · simp [hf]
    · rw [List.getElem?_map, List.getElem?_eq_getElem hi]
      show some xs[i].1 = _
      rw [e2]
  have := List.all_eq_true.1 hsz _ (DataW.weights_mem_each ht hd _ hmem)
  simpa using this
theorem ck_open {H : Type} {enc : TypeId × Value → H} {W : World} {base : Nat} {v : Value} {d : DataW H} {p : List MemPlace} {ts : List TypeId} {ds : List (DataW H)} (hsz : (DataW.weightsEach Tryd.prog ts ds).all (· ≤ reachBytes) = true) {j : Nat} (ht : ts[j]? = some 25) (hd : ds[j]? = some d)
    (o : Value.okWide Tryd.prog W .any base 25 v) (h : DataW.Trod enc Tryd.prog W 0 (fun _ => true) true 25 v d p) : ∃ c : Ck, v = .agg c.cells ∧ c.wf ∧ c.X.size ≤ 140737488351232 ∧ c.Y.size ≤ 140737488351232 := by
  obtain ⟨l, rfl, hF⟩ := open_struct 4 (sh := [.int .i64, .int .u32, .int .u32, .int .u32, .int .u32, .int .u32, .int .u32, .int .i64, .int .i64, .int .u32, .int .i64, .int .i64, .int .u32, .int .u32, .str, .str]) Tryd.underlying25 (by kernel_rfl) (by kernel_rfl) o h
  obtain ⟨a0, l, rfl, w0, hF⟩ := hF.int
  obtain ⟨a1, l, rfl, w1, hF⟩ := hF.int
  obtain ⟨a2, l, rfl, w2, hF⟩ := hF.int
  obtain ⟨a3, l, rfl, w3, hF⟩ := hF.int
  obtain ⟨a4, l, rfl, w4, hF⟩ := hF.int
  obtain ⟨a5, l, rfl, w5, hF⟩ := hF.int
  obtain ⟨a6, l, rfl, w6, hF⟩ := hF.int
  obtain ⟨a7, l, rfl, w7, hF⟩ := hF.int
  obtain ⟨a8, l, rfl, w8, hF⟩ := hF.int
  obtain ⟨a9, l, rfl, w9, hF⟩ := hF.int
  obtain ⟨a10, l, rfl, w10, hF⟩ := hF.int
  obtain ⟨a11, l, rfl, w11, hF⟩ := hF.int
  obtain ⟨a12, l, rfl, w12, hF⟩ := hF.int
  obtain ⟨a13, l, rfl, w13, hF⟩ := hF.int
  obtain ⟨X, l, rfl, hX, hF⟩ := hF.str
  obtain ⟨Y, l, rfl, hY, hF⟩ := hF.str
  obtain rfl := hF.nil
  have sX : X.size ≤ reachBytes := sized_field hsz ht hd h Tryd.underlying25 14 rfl Tryd.underlying9 (by kernel_rfl) rfl
  have sY : Y.size ≤ reachBytes := sized_field hsz ht hd h Tryd.underlying25 15 rfl Tryd.underlying9 (by kernel_rfl) rfl
  unfold reachBytes at sX sY
  have b0 := bounds_i64 w0
  have b1 := bounds_u32 w1
  have b2 := bounds_u32 w2
  have b3 := bounds_u32 w3
  have b4 := bounds_u32 w4
  have b5 := bounds_u32 w5
  have b6 := bounds_u32 w6
  have b7 := bounds_i64 w7
  have b8 := bounds_i64 w8
  have b9 := bounds_u32 w9
  have b10 := bounds_i64 w10
  have b11 := bounds_i64 w11
  have b12 := bounds_u32 w12
  have b13 := bounds_u32 w13
  exact ⟨⟨a0, a1, a2, a3, a4, a5, a6, a7, a8, a9, a10, a11, a12, a13, X, Y⟩, rfl, ⟨b0.1, b0.2, b1, b2, b3, b4, b5, b6, b9, b12, b13, b7, b8, b10, b11, hX, hY⟩, sX, sY⟩
theorem bent_law (key : ByteArray) (c : Ck) (a b : UInt8) (w : World) (S0 : dig.Starts w) (A : dig.Added w) (hk : key.size ≤ maxLen) (g0 : c.wf) (hX : c.X.size ≤ 140737488351232) (hY : c.Y.size ≤ 140737488351232) : Calls Tryd.prog 5 #[.string key, .agg c.cells, .agg #[.int .u8 (a.toNat : Int), .int .u8 (b.toNat : Int)]] w fun e w' => e = .returned (.bool true) ∧ Below w.heap.size w w' := by
  by_cases hm : (fixB c).may
  · exact bent_yes key c a b w S0 A hk g0 hX hY hm
  · exact bent_no key c a b w S0 A hk g0 hX hY hm
end Go.Proofs.YtbdbcjhahlofiaaDoor.coo
