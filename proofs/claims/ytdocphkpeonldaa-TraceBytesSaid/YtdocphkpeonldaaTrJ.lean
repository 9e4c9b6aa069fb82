/- Layer 36: acts' bytes say these acts; words of the statement's walk. -/
import Derived.Test.YtdocphkpeonldaaTrI
namespace Go.Proofs.Ytdocphkpeonldaa.tra
open Go.Sort (grow)
open Go.ChangeShapes Go.WideShapes Go.ChangeAt Go.RowKit kit oct bld
set_option maxRecDepth 100000

theorem rdL_put (B T : ByteArray) (e : Int) (k : Nat) (h : B.size = k) : rdL (B ++ T) e k = T := by
  unfold rdL
  rw [if_pos (by rw [ByteArray.size_append]; omega)]
  exact ByteArray.extract_append_eq_right h.symm ByteArray.size_append
theorem rdE_put (B T : ByteArray) (e : Int) (k : Nat) (h : B.size = k) : rdE (B ++ T) e k = e := by
  unfold rdE
  rw [if_pos (by rw [ByteArray.size_append]; omega)]
theorem rdN_put (B T : ByteArray) (k : Nat) (h : B.size = k) : rdN (B ++ T) k = numV B.data.toList := by
  unfold rdN
  rw [if_pos (by rw [ByteArray.size_append]; omega)]
  congr 1
  rw [ByteArray.data_append, Array.toList_append, List.take_left' (by simpa using h)]
theorem numV_p1 (n : Nat) (h : n ≤ 255) : numV (p1 n).data.toList = n := by unfold p1; rw [numV_be]; omega
theorem nx_bytes (r : Rc) (T : ByteArray) (h : r.Ok) : nx (r.bytes ++ T) = ⟨r, T, 0⟩ := by
  obtain ⟨wh, a, b, c, d, e, f, q, s⟩ := r
  obtain ⟨h0, h1, h2, h3, h4, h5, h6, h7, h8⟩ := h
  unfold Rc.bytes
  dsimp only at *
  simp only [ByteArray.append_assoc]
  unfold nx
  have w1 := fun n T e => rdL_put (p1 n) T e 1 (p1_size n)
  have w2 := fun n T e => rdE_put (p1 n) T e 1 (p1_size n)
  have w3 := fun n T => rdN_put (p1 n) T 1 (p1_size n)
  have u1 := fun n T e => rdL_put (p4 n) T e 4 (p4_size n)
  have u2 := fun n T e => rdE_put (p4 n) T e 4 (p4_size n)
  have u3 := fun n T => rdN_put (p4 n) T 4 (p4_size n)
  have v1 := fun n T e => rdL_put (p2 n) T e 2 (p2_size n)
  have v2 := fun n T e => rdE_put (p2 n) T e 2 (p2_size n)
  have v3 := fun n T => rdN_put (p2 n) T 2 (p2_size n)
  simp only [w1, w2, w3, u1, u2, u3, v1, v2, v3, numV_p1 _ h0, numV_p4 _ h1, numV_p4 _ h2, numV_p4 _ h3, numV_p4 _ h4, numV_p4 _ h5, numV_p4 _ h6, numV_p4 _ h7, numV_p2 _ h8]
  rw [if_pos (by rw [ByteArray.size_append]; omega), if_pos (by rw [ByteArray.size_append]; omega), if_pos (by rw [ByteArray.size_append]; omega)]
  rw [show ((s.size : Nat) : Int).toNat = s.size by omega, ByteArray.extract_append_eq_left rfl, ByteArray.extract_append_eq_right rfl ByteArray.size_append]
theorem pg_cat : ∀ (f : Nat) (l : List Rc), (∀ r ∈ l, r.Ok) → (cat36 l).size < f → pg f (cat36 l) = some l
  | 0, _, _, h => absurd h (Nat.not_lt_zero _)
  | f + 1, [], _, _ => by
    unfold pg
    exact if_pos rfl
  | f + 1, r :: l, hl, h => by
    have hz := bytes_size r
    have hn := nx_bytes r (cat36 l) (hl r (by simp))
    have hs : (cat36 (r :: l)).size = r.bytes.size + (cat36 l).size := by simp only [cat36, ByteArray.size_append]
    unfold pg
    rw [if_neg (by omega)]
    show (if (nx (r.bytes ++ cat36 l)).e = 0 then (pg f (nx (r.bytes ++ cat36 l)).l).map ((nx (r.bytes ++ cat36 l)).rc :: ·) else none) = _
    rw [hn]
    dsimp only
    rw [if_pos rfl, pg_cat f l (fun q hq => hl q (by simp [hq])) (by omega)]
    rfl
def cellsN : List An → List Value
  | [] => []
  | r :: l => r.cells.toList ++ cellsN l
theorem cellsN_snoc (L : List An) (r : An) : cellsN (L ++ [r]) = cellsN L ++ r.cells.toList := by
  induction L with
  | nil => simp [cellsN]
  | cons q l ih => simp [cellsN, ih]
theorem cellsN_at : ∀ (L : List An) (k j : Nat) (u : Value), k < L.length → (L.getD k an0).cells[j]? = some u → (cellsN L)[k * 9 + j]? = some u
  | [], _, _, _, h, _ => absurd h (Nat.not_lt_zero _)
  | e :: r, 0, j, u, _, hu => by
    have hj : j < 9 := by have := (Array.getElem?_eq_some_iff.1 hu).1; exact this
    show (e.cells.toList ++ cellsN r)[0 * 9 + j]? = some u
    rw [List.getElem?_append_left (by show _ < 9; omega)]
    simpa using hu
  | e :: r, k + 1, j, u, h, hu => by
    show (e.cells.toList ++ cellsN r)[(k + 1) * 9 + j]? = some u
    rw [List.getElem?_append_right (by show 9 ≤ _; omega), show (k + 1) * 9 + j - e.cells.toList.length = k * 9 + j by show (k + 1) * 9 + j - 9 = _; omega]
    exact cellsN_at r k j u (by simpa using h) (by simpa using hu)
theorem cel_n {w : World} {h : Nat} {L : List An} (C : Cel w h 0 (cellsN L).toArray) (k : Nat) (hk : k < L.length) : Cel w h (k * 9) (L.getD k an0).cells :=
  ⟨C.1, fun j u hu => by
    have := C.2 (k * 9 + j) u (by simpa using cellsN_at L k j u hk hu)
    rwa [Nat.zero_add] at this⟩
abbrev RowN (w : World) (b0 : Nat) (v : Value) (L : List An) : Prop := w.ownsRow b0 63 9 v L.length (cellsN L)
theorem rowN_shape {w : World} {b0 : Nat} {v : Value} {L : List An} (h : RowN w b0 v L) : ∃ oa g cap, v = .slice oa L.length cap ∧ L.length ≤ cap ∧ cap ≤ maxLen ∧ (0 < L.length → oa = some ⟨g, 0, none⟩) ∧ (0 < L.length → g < w.heap.size) ∧ ∀ k, k < L.length → Cel w g (k * 9) (L.getD k an0).cells := by
  have h2 := h.2
  rcases h2 with ⟨rfl, hz⟩ | ⟨g, cap, cur, rfl, hb, hg, hn, hm, _⟩
  · exact ⟨none, 0, 0, by rw [hz], by omega, by unfold maxLen; omega, fun q => by omega, fun q => by omega, fun k hk => by omega⟩
  · exact ⟨_, g, cap, rfl, hn, hm, fun _ => rfl, fun _ => own_lt h g rfl, fun k hk => cel_n (Cel.of_owns h) k hk⟩
/-- A row of acts that came in. -/
structure RowE (w : World) (a : Addr) (len : Nat) (E : Nat → An) : Prop where
  lt : 0 < len → a.block < w.heap.size
  cell : ∀ i, i < len → ∀ (j : Nat) u, (E i).cells[j]? = some u → w.cell? ((a.add (i * 9)).add j) = some u
theorem add_block (a : Addr) (i : Nat) : (a.add i).block = a.block := by unfold Addr.add; split <;> rfl
theorem RowE.below {w w' : World} {a : Addr} {len B : Nat} {E : Nat → An} (h : RowE w a len E) (hb : Below B w w') (hB : 0 < len → a.block < B) : RowE w' a len E :=
  ⟨fun h0 => Nat.lt_of_lt_of_le (h.lt h0) hb.size, fun i hi j u hu => (hb.cell (p := (a.add (i * 9)).add j) (by rw [add_block, add_block]; exact hB (by omega))).trans (h.cell i hi j u hu)⟩
/-- An act with few bytes. -/
def An.few (r : An) : An := { r with s := r.s.extract 0 (min (r.s.size : Int) 30).toNat }
theorem An.few_size (r : An) : r.few.s.size ≤ 30 := by
  show (r.s.extract 0 (min (r.s.size : Int) 30).toNat).size ≤ 30
  simp
  omega
/-- Two rows that lie apart. -/
def Apt (v u : Value) : Prop := ∀ k, v.ownBlock = some k → u.ownBlock ≠ some k
/-- A row of one's own behind an append to another one that lies apart. -/
theorem own_apt {w w' : World} {b0 n size : Nat} {t : TypeId} {v u : Value} {xs : List Value} (own : w.ownsRow b0 t size v n xs) (h : Apt v u) (g : w.grownBy w' u.ownBlock) : w'.ownsRow b0 t size v n xs :=
  own_other own (fun k hk => g.block k (own_lt own k hk) (fun e => h k hk e.symm))
end Go.Proofs.Ytdocphkpeonldaa.tra
