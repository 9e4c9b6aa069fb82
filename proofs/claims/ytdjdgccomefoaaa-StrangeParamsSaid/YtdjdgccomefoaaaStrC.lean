/- Layer 24: the document's own list of what is known; two rows of one list are the same. -/
import Derived.Test.YtdjdgccomefoaaaStrB
namespace Go.Proofs.Ytdjdgccomefoaaa.str
open Go.Sort (grow)
open Go.ChangeShapes Go.WideShapes Go.ChangeAt Go.RowKit kit oct par small
set_option maxRecDepth 100000

def KL : List Int := [1, 5, 7, 8, 16, 17, 32770, 49153, 49154, 49155, 49156, 49157, 49159, 49160]
def KC : Array Value := #[.int .i64 1, .int .i64 5, .int .i64 7, .int .i64 8, .int .i64 16, .int .i64 17, .int .i64 32770, .int .i64 49153, .int .i64 49154, .int .i64 49155, .int .i64 49156, .int .i64 49157, .int .i64 49159, .int .i64 49160]
theorem KC_at (i : Nat) (h : i < 14) : KC[i]? = some (.int .i64 (KL.getD i 0)) := by
  have : ∀ i, i < 14 → KC[i]? = some (.int .i64 (KL.getD i 0)) := by
    intro i hi
    rcases (by omega : i = 0 ∨ i = 1 ∨ i = 2 ∨ i = 3 ∨ i = 4 ∨ i = 5 ∨ i = 6 ∨ i = 7 ∨ i = 8 ∨ i = 9 ∨ i = 10 ∨ i = 11 ∨ i = 12 ∨ i = 13) with rfl | rfl | rfl | rfl | rfl | rfl | rfl | rfl | rfl | rfl | rfl | rfl | rfl | rfl <;> rfl
  exact this i h
theorem kn_mem (t : Int) : kn t = true ↔ ∃ i, i < 14 ∧ KL.getD i 0 = t := by
  constructor
  · intro h
    have hm : t ∈ KL := by simpa [kn, KL] using h
    obtain ⟨i, hi, e⟩ := List.getElem_of_mem hm
    exact ⟨i, hi, by simp [List.getD, List.getElem?_eq_getElem hi, e]⟩
  · rintro ⟨i, hi, rfl⟩
    have : KL.getD i 0 ∈ KL := by
      have hl : i < KL.length := hi
      simp [List.getD, List.getElem?_eq_getElem hl]
    simpa [kn, KL] using this
set_option maxHeartbeats 1000000 in
theorem rknown_any (t : Int) (w : World) : Calls Try.prog 50 #[.int .i64 t] w fun e w' => e = .returned (.bool (kn t)) ∧ Below w.heap.size w w' := by
  have hk := kn_mem t
  have HK := Lib.hid hk
  clear hk
  have B0 := Blk.new w 3 KC
  have bel0 := (Below.refl w.heap.size w).alloc (Nat.le_refl _) (.cells KC 3)
  go_enter Try.func50, Try.ntmps50
  go_upto_region 2 with (fail)
  rw [show w.alloc (.cells #[.int .i64 1, .int .i64 5, .int .i64 7, .int .i64 8, .int .i64 16, .int .i64 17, .int .i64 32770, .int .i64 49153, .int .i64 49154, .int .i64 49155, .int .i64 49156, .int .i64 49157, .int .i64 49159, .int .i64 49160] 3) = w.alloc (.cells KC 3) from rfl]
  generalize w.alloc (.cells KC 3) = w1 at *
  go_wp2_with fail
  go_loop [4] (fun s4 => ∃ i : Nat, i ≤ 14 ∧ s4 = .int .i64 i ∧ ∀ j, j < i → ¬ KL.getD j 0 = t) (fun s4 => 14 - (intOf s4).toNat)
  case atStart => exact ⟨0, by omega, rfl, fun j hj => absurd hj (Nat.not_lt_zero j)⟩
  case round =>
    obtain ⟨i, hi, rfl, hno⟩ := hrel
    have HN := Lib.hid hno
    clear hno
    by_cases hlt : i < 14
    · have c0 : w1.cell? ⟨w.heap.size, i, none⟩ = some (.int .i64 (KL.getD i 0)) := (B0.cell i).trans (KC_at i hlt)
      by_cases hq : KL.getD i 0 = t
      · rw [hq] at c0
        have hkt : kn t = true := HK.out.2 ⟨i, hlt, hq⟩
        have HH := Lib.hid hkt
        clear hkt hq
        go_wp2_with fail
        go_ret
        exact ⟨by rw [HH.out]; rfl, bel0⟩
      · obtain ⟨ki, hki⟩ : ∃ ki, KL.getD i 0 = ki := ⟨_, rfl⟩
        rw [hki] at c0
        have hq' : ¬ ki = t := by rw [← hki]; exact hq
        have HQ := Lib.hid hq
        clear hq hki
        go_wp2_with fail
        go_round
        case rel => exact ⟨i + 1, by omega, by go_num, fun j hj => by
          rcases Nat.lt_succ_iff_lt_or_eq.1 hj with q | q
          · exact HN.out j q
          · subst q; exact HQ.out⟩
        case measure => simp [intOf]; omega
    · obtain rfl : i = 14 := by omega
      have hkt : kn t = false := by
        cases hb : kn t with
        | false => rfl
        | true =>
          obtain ⟨j, hj, e⟩ := HK.out.1 hb
          exact absurd e (HN.out j hj)
      have HH := Lib.hid hkt
      clear hkt
      go_wp2_with fail
      go_ret
      exact ⟨by rw [HH.out]; rfl, bel0⟩
set_option maxHeartbeats 1000000 in
theorem same_any (b1 b2 : Nat) (v u : Value) (L : List Pm) (w : World) (hl : L.length ≤ 100000) (hv : Row w b1 v L) (hu : Row w b2 u L) :
    Calls Try.prog 55 #[v, u] w fun e w' => e = .returned (.bool true) ∧ Below w.heap.size w w' := by
  have hv2 := hv.2
  have hu2 := hu.2
  rcases hv2 with ⟨rfl, hz⟩ | ⟨h, cap, cur, rfl, _⟩
  · rcases hu2 with ⟨rfl, hz'⟩ | ⟨h', cap', cur', rfl, _⟩
    · go_enter Try.func55, Try.ntmps55
      go_wp2_with fail
      refine wp_loop_rounds 1 ?_
      rw [rounds_succ]
      go_wp2_with fail
      go_ret
      exact ⟨rfl, Below.refl _ _⟩
    · rw [hz]
      go_enter Try.func55, Try.ntmps55
      go_wp2_with fail
      refine wp_loop_rounds 1 ?_
      rw [rounds_succ]
      go_wp2_with fail
      go_ret
      exact ⟨rfl, Below.refl _ _⟩
  · rcases hu2 with ⟨rfl, hz'⟩ | ⟨h', cap', cur', rfl, _⟩
    · rw [hz']
      go_enter Try.func55, Try.ntmps55
      go_wp2_with fail
      refine wp_loop_rounds 1 ?_
      rw [rounds_succ]
      go_wp2_with fail
      go_ret
      exact ⟨rfl, Below.refl _ _⟩
    · have C1 := Cel.of_owns hv
      have C2 := Cel.of_owns hu
      have H1 := Lib.hid C1
      have H2 := Lib.hid C2
      obtain ⟨n, hn⟩ : ∃ n, L.length = n := ⟨_, rfl⟩
      have HNL := Lib.hid hn
      rw [hn] at hl ⊢
      clear hv hu C1 C2 hn
      go_enter Try.func55, Try.ntmps55
      go_wp2_with fail
      go_loopw [5] (fun s5 wr => ∃ i : Nat, i ≤ n ∧ s5 = .int .i64 i ∧ Below w.heap.size w wr) (fun s5 _ => n - (intOf s5).toNat)
      case atStart => exact ⟨0, by omega, rfl, Below.refl _ _⟩
      case round =>
        obtain ⟨i, hi, rfl, bel⟩ := hrel
        by_cases hlt : i < n
        · have D1 := cel_q (H1.out.below bel H1.out.lt) i (by rw [HNL.out]; exact hlt)
          have D2 := cel_q (H2.out.below bel H2.out.lt) i (by rw [HNL.out]; exact hlt)
          rcases hp : L.getD i q0 with ⟨t, s⟩
          rw [hp] at D1 D2
          clear hp
          have a0 : wr.cell? ⟨h, i * 2, none⟩ = some (.int .i64 t) := D1.cell 0 (u := .int .i64 t) rfl
          have a1 : wr.cell? ⟨h, i * 2 + 1, none⟩ = some (.string s) := D1.cell 1 (u := .string s) rfl
          have d0 : wr.cell? ⟨h', i * 2, none⟩ = some (.int .i64 t) := D2.cell 0 (u := .int .i64 t) rfl
          have d1 : wr.cell? ⟨h', i * 2 + 1, none⟩ = some (.string s) := D2.cell 1 (u := .string s) rfl
          clear D1 D2
          go_upto_region 6 with (fail)
          go_region
          all_goals
            go_wp2_with fail
            go_roundw
            case rel => exact ⟨i + 1, by omega, by go_num, bel.drew⟩
            case measure => simp [intOf]; omega
        · obtain rfl : i = n := by omega
          go_wp2_with fail
          go_ret
          exact ⟨rfl, bel⟩
end Go.Proofs.Ytdjdgccomefoaaa.str
