/- Layer 24: which are known; two lists of parameters held against each other. -/
import Derived.Test.YtdjdgccomefoaaaStrA
namespace Go.Proofs.Ytdjdgccomefoaaa.str
open Go.Sort (grow)
open Go.ChangeShapes Go.WideShapes Go.ChangeAt Go.RowKit kit oct par small
set_option maxRecDepth 100000

abbrev Pm := Int × ByteArray
def q0 : Pm := (0, ByteArray.empty)
/-- The cells of parameters. -/
def prm (p : Pm) : Array Value := #[.int .i64 p.1, .string p.2]
def cellsQ : List Pm → List Value
  | [] => []
  | p :: r => (prm p).toList ++ cellsQ r
theorem cellsQ_snoc (L : List Pm) (p : Pm) : cellsQ (L ++ [p]) = cellsQ L ++ (prm p).toList := by
  induction L with
  | nil => simp [cellsQ]
  | cons q r ih => simp [cellsQ, ih]
theorem cellsQ_at : ∀ (L : List Pm) (k j : Nat) (u : Value), k < L.length → (prm (L.getD k q0))[j]? = some u → (cellsQ L)[k * 2 + j]? = some u
  | [], _, _, _, h, _ => absurd h (Nat.not_lt_zero _)
  | e :: r, 0, j, u, _, hu => by
    have hj : j < 2 := by have := (Array.getElem?_eq_some_iff.1 hu).1; exact this
    show ((prm e).toList ++ cellsQ r)[0 * 2 + j]? = some u
    rw [List.getElem?_append_left (by show _ < 2; omega)]
    simpa using hu
  | e :: r, k + 1, j, u, h, hu => by
    show ((prm e).toList ++ cellsQ r)[(k + 1) * 2 + j]? = some u
    rw [List.getElem?_append_right (by show 2 ≤ _; omega), show (k + 1) * 2 + j - (prm e).toList.length = k * 2 + j by show (k + 1) * 2 + j - 2 = _; omega]
    exact cellsQ_at r k j u (by simpa using h) (by simpa using hu)
theorem cel_q {w : World} {h : Nat} {L : List Pm} (C : Cel w h 0 (cellsQ L).toArray) (k : Nat) (hk : k < L.length) : Cel w h (k * 2) (prm (L.getD k q0)) :=
  ⟨C.1, fun j u hu => by
    have := C.2 (k * 2 + j) u (by simpa using cellsQ_at L k j u hk hu)
    rwa [Nat.zero_add] at this⟩
theorem prm_one (p : Pm) : ∀ u ∈ (prm p).toList, u.oneCell' = true := by
  intro u hu
  simp [prm] at hu
  rcases hu with rfl | rfl <;> rfl
theorem infoQ : (Try.prog.info? 94).map (fun i => (i.zero, i.size, i.bytes)) = some (some (.agg #[.int .i64 0, .string ByteArray.empty]), 2, 24) := by kernel_rfl
theorem szQ (t : Int) (s : ByteArray) : (Try.prog.info? 94).map (·.size) = some (#[.int .i64 t, .string s] : Array Value).size := by show _ = some 2; kernel_rfl
/-- A row of parameters that is one's own. -/
abbrev Row (w : World) (b0 : Nat) (v : Value) (L : List Pm) : Prop := w.ownsRow b0 94 2 v L.length (cellsQ L)
/-- Two rows lie apart. -/
def Dis (v u : Value) : Prop := ∀ g, v.ownBlock = some g → u.ownBlock ≠ some g
theorem Dis.symm {v u : Value} (h : Dis v u) : Dis u v := fun g hu hv => h g hv hu
theorem own_grow {w w' : World} {b0 n size : Nat} {t : TypeId} {v u : Value} {xs : List Value} (h : w.ownsRow b0 t size u n xs) (hg : w.grownBy w' v.ownBlock) (hd : Dis v u) : w'.ownsRow b0 t size u n xs :=
  own_other h fun k hk => hg.block k (own_lt h k hk) (fun e => hd k e.symm hk)
theorem dis_grow {w : World} {b0 n size g c m H : Nat} {t : TypeId} {v u : Value} {xs : List Value} (h : w.ownsRow b0 t size u n xs) (hd : Dis v u) (hat : v.ownBlock = some g ∨ g = H) (hH : w.heap.size = H) : Dis (.slice (some ⟨g, 0, none⟩) m c) u := by
  intro k hk hu
  simp [Value.ownBlock] at hk
  subst hk
  rcases hat with q | q
  · exact hd _ q hu
  · have := own_lt h _ hu
    omega
/-- Which are known. -/
def kn (t : Int) : Bool := [1, 5, 7, 8, 16, 17, 32770, 49153, 49154, 49155, 49156, 49157, 49159, 49160].contains t
theorem kn_iff (t : Int) : kn t = true ↔ (t = 1 ∨ t = 5 ∨ t = 7 ∨ t = 8 ∨ t = 16 ∨ t = 17 ∨ t = 32770 ∨ t = 49153 ∨ t = 49154 ∨ t = 49155 ∨ t = 49156 ∨ t = 49157 ∨ t = 49159 ∨ t = 49160) := by simp [kn]
set_option maxHeartbeats 1000000 in
theorem known_any (t : Int) (w : World) : Calls Try.prog 121 #[.int .i64 t] w fun e w' => e = .returned (.bool (kn t)) ∧ w' = w := by
  have hk := kn_iff t
  cases hb : kn t with
  | true =>
    have ht := hk.1 hb
    clear hk hb
    rcases ht with rfl | rfl | rfl | rfl | rfl | rfl | rfl | rfl | rfl | rfl | rfl | rfl | rfl | rfl
    all_goals
      go_enter Try.func121, Try.ntmps121
      go_wp2_with fail
      go_ret
      exact ⟨rfl, rfl⟩
  | false =>
    have ht : ¬ (t = 1 ∨ t = 5 ∨ t = 7 ∨ t = 8 ∨ t = 16 ∨ t = 17 ∨ t = 32770 ∨ t = 49153 ∨ t = 49154 ∨ t = 49155 ∨ t = 49156 ∨ t = 49157 ∨ t = 49159 ∨ t = 49160) := fun q => by rw [hk.2 q] at hb; cases hb
    simp only [not_or] at ht
    obtain ⟨h1, h2, h3, h4, h5, h6, h7, h8, h9, h10, h11, h12, h13, h14⟩ := ht
    clear hk hb
    go_enter Try.func121, Try.ntmps121
    go_wp2_with fail
    go_ret
    exact ⟨rfl, rfl⟩
end Go.Proofs.Ytdjdgccomefoaaa.str
