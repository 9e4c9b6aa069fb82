/- serial.Less16 and serial.Max answer by the steps between two numbers, for every two of 16 and every two of 32 bits. No further condition. -/
import Derived.Test.YtlpjfcmghkajhaaSerial
import Derived.Deep.QuietTactic
import Derived.BigQuiet
import Derived.WalkSmall
namespace Go.Proofs.Ytlpjfcmghkajhaa.ser
open Go.ChangeShapes Go.WideShapes Go.ChangeAt Go.RowKit
theorem words_walk (x y c d : Int) (w : World) (hx0 : 0 ≤ x) (hx : x ≤ 65535) (hy0 : 0 ≤ y) (hy : y ≤ 65535) (ha0 : 0 ≤ c) (ha : c ≤ 4294967295) (hb0 : 0 ≤ d) (hb : d ≤ 4294967295) :
    Calls Try.prog 6 #[.agg #[.int .u16 x, .int .u16 y], .int .u32 c, .int .u32 d] w fun e w' => e = .returned (.bool true) ∧ Below w.heap.size w w' := by
  have A : (less16B x y = true ∧ 0 < (y - x) % 65536 ∧ (y - x) % 65536 < 32768) ∨ (less16B x y = false ∧ (y - x) % 65536 ≤ 0) ∨ (less16B x y = false ∧ 0 < (y - x) % 65536 ∧ 32768 ≤ (y - x) % 65536) := by
    unfold less16B; by_cases h : 0 < (y - x + 65536) % 65536 ∧ (y - x + 65536) % 65536 < 32768 <;> simp [h] <;> omega
  have B : (maxV c d = d ∧ 0 < steps c d ∧ steps c d < 2147483648) ∨ (maxV c d = c ∧ steps c d ≤ 0) ∨ (maxV c d = c ∧ 0 < steps c d ∧ 2147483648 ≤ steps c d) := by
    unfold maxV lessB; by_cases h : 0 < steps c d ∧ steps c d < 2147483648 <;> simp [h] <;> omega
  rcases A with ⟨hl, h1, h2⟩ | ⟨hl, h1⟩ | ⟨hl, h1, h2⟩ <;> rcases B with ⟨hm, g1, g2⟩ | ⟨hm, g1⟩ | ⟨hm, g1, g2⟩
  all_goals
    go_enter Try.func6, Try.ntmps6
    go_wp2
    go_quiet (fail)
    go_wp2_with (first | (go_at_call 10; refine (steps_any _ _ _ (by omega) (by omega) (by omega) (by omega)).mono ?_; rintro e w' ⟨rfl, rfl⟩) | (go_at_call 11; refine (awake_any _).mono ?_; rintro e w' ⟨rfl, rfl⟩) | (go_at_call 16; refine (max_any _ _ _ (by omega) (by omega) (by omega) (by omega)).mono ?_; rintro e w' ⟨rfl, rfl⟩) | (go_at_call 17; refine (less16_any _ _ _ (by omega) (by omega) (by omega) (by omega)).mono ?_; rintro e w' ⟨rfl, rfl⟩))
    go_ret
    exact ⟨ret_bool (by first | rfl | (simp; omega)), below_drewN ((Below.refl _ _).alloc (Nat.le_refl _) _) _⟩

theorem okWide_array {P : Program} {w : World} {r : Reach} {base : Nat} {t e : TypeId} {n : Nat} {v : Value} (ht : P.underlying t = some (.array n e)) (h : Value.okWide P w r base t v) : ∃ cs, v = .agg cs ∧ cs.size = P.cellsOf t := by
  simp only [Value.okWide, ht] at h
  obtain ⟨cs, h1, h2, _⟩ := h
  exact ⟨cs, h1, h2⟩

/-- An array of two integers of one kind, opened. -/
theorem open_pair {H : Type} {enc : TypeId × Value → H} {P : Program} {W : World} {base b0 : Nat} {sp : Nat → Bool} {hd : Bool} {r : Reach} {t e : TypeId} {k : IntKind} {v : Value} {d : DataW H} {p : List MemPlace}
    (ht : P.underlying t = some (.array 2 e)) (he : P.underlying e = some (.int k)) (hc : P.cellsOf t = 2) (hce : P.cellsOf e = 1) (hv : Value.okWide P W r base t v)
    (h : DataW.Trod enc P W b0 sp hd t v d p) : ∃ x y : Int, v = .agg #[.int k x, .int k y] ∧ (Lit.int k x).wf = true ∧ (Lit.int k y).wf = true := by
  obtain ⟨cs, rfl, hn⟩ := okWide_array ht hv
  obtain ⟨l⟩ := cs
  match l, hn.trans hc with
  | [a, b], _ =>
    obtain ⟨fuel, hf⟩ := h
    obtain ⟨xs, m, _, _, _, hl, hi⟩ := DataW.trod_array ht hf
    match xs, hl with
    | [u, z], _ =>
      have h0 := hi 0 (by omega)
      have h1 := hi 1 (by omega)
      simp [hce, Value.cells] at h0 h1
      obtain ⟨x, e0, _, w0⟩ := DataW.trod_int he h0
      obtain ⟨y, e1, _, w1⟩ := DataW.trod_int he h1
      simp only [List.cons.injEq, and_true] at e0 e1
      subst e0 e1
      exact ⟨x, y, rfl, w0, w1⟩

theorem words_open {H : Type} {enc : TypeId × Value → H} {W : World} {base : Nat} {v0 v1 v2 : Value} {d0 d1 d2 : DataW H} {p0 p1 p2 : List MemPlace}
    (o0 : Value.okWide Try.prog W .any base 29 v0) (o1 : Value.okWide Try.prog W .any base 22 v1) (o2 : Value.okWide Try.prog W .any base 22 v2)
    (h0 : DataW.Trod enc Try.prog W 0 (fun _ => true) true 29 v0 d0 p0) (h1 : DataW.Trod enc Try.prog W 0 (fun _ => true) true 22 v1 d1 p1) (h2 : DataW.Trod enc Try.prog W 0 (fun _ => true) true 22 v2 d2 p2) :
    Calls Try.prog 6 #[v0, v1, v2] W fun e w' => e = .returned (.bool true) ∧ Below W.heap.size W w' := by
  obtain ⟨x, y, rfl, wx, wy⟩ := open_pair Try.underlying29 Try.underlying28 (by kernel_rfl) (by kernel_rfl) o0 h0
  obtain ⟨c, rfl, _, _, wc⟩ := open_int Try.underlying22 o1 h1
  obtain ⟨d, rfl, _, _, wd⟩ := open_int Try.underlying22 o2 h2
  exact words_walk x y c d W (bounds_u16 wx).1 (bounds_u16 wx).2 (bounds_u16 wy).1 (bounds_u16 wy).2 (bounds_u32 wc).1 (bounds_u32 wc).2 (bounds_u32 wd).1 (bounds_u32 wd).2
end Go.Proofs.Ytlpjfcmghkajhaa.ser
