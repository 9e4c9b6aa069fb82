/- Layer 17, pure: parts taken out one by one. -/
import Derived.Test.YthddacgdmngfhaaRpM
namespace Go.Proofs.Ythddacgdmngfhaa.rea
open Go.ChangeShapes Go.WideShapes Go.ChangeAt Go.RowKit kit
set_option maxRecDepth 100000

/-- No number twice. -/
def Nd (l : List Pk) : Prop := (l.map Pk.k).Nodup
theorem nd_cons {x : Pk} {r : List Pk} : Nd (x :: r) ↔ (∀ y ∈ r, y.k ≠ x.k) ∧ Nd r := by
  unfold Nd
  rw [List.map_cons, List.nodup_cons]
  constructor
  · rintro ⟨h1, h2⟩
    exact ⟨fun y hy e => h1 (List.mem_map.2 ⟨y, hy, e⟩), h2⟩
  · rintro ⟨h1, h2⟩
    refine ⟨fun h => ?_, h2⟩
    obtain ⟨y, hy, e⟩ := List.mem_map.1 h
    exact h1 y hy e
theorem uq_of_nd : ∀ {l : List Pk}, Nd l → Uq l
  | [], _ => fun x hx => by cases hx
  | z :: r, h => by
    obtain ⟨h1, h2⟩ := nd_cons.1 h
    have ih := uq_of_nd h2
    intro x hx y hy e
    rcases List.mem_cons.1 hx with ex | hx'
    · rcases List.mem_cons.1 hy with ey | hy'
      · rw [ex, ey]
      · exact absurd (by rw [← e, ex]) (h1 y hy')
    · rcases List.mem_cons.1 hy with ey | hy'
      · exact absurd (by rw [e, ey]) (h1 x hx')
      · exact ih x hx' y hy' e
theorem nd_filter {l : List Pk} (h : Nd l) (p : Pk → Bool) : Nd (l.filter p) := h.sublist (List.filter_sublist.map _)
theorem erase_filter : ∀ {l : List Pk} {j : Nat} {x : Pk}, Nd l → l[j]? = some x → l.eraseIdx j = l.filter fun y => decide (y.k ≠ x.k)
  | [], _, _, _, h => by simp at h
  | z :: r, 0, x, h, hj => by
    obtain rfl : z = x := by simpa using hj
    obtain ⟨h1, _⟩ := nd_cons.1 h
    rw [List.eraseIdx_cons_zero, List.filter_cons_of_neg (by simp), List.filter_eq_self.2]
    intro y hy
    simpa using h1 y hy
  | z :: r, j + 1, x, h, hj => by
    obtain ⟨h1, h2⟩ := nd_cons.1 h
    have hj' : r[j]? = some x := by simpa using hj
    have hx : x ∈ r := List.mem_of_getElem? hj'
    rw [List.eraseIdx_cons_succ, erase_filter h2 hj', List.filter_cons_of_pos (by simpa using fun e => h1 x hx e.symm)]
theorem btk_erase : ∀ {l : List Pk} {j : Nat} {x : Pk}, l[j]? = some x → x.d.size + btk (l.eraseIdx j) = btk l
  | [], _, _, h => by simp at h
  | z :: r, 0, x, hj => by
    obtain rfl : z = x := by simpa using hj
    rfl
  | z :: r, j + 1, x, hj => by
    have ih := btk_erase (l := r) (j := j) (x := x) (by simpa using hj)
    rw [List.eraseIdx_cons_succ]
    show _ + (_ + _) = _ + btk r
    omega
theorem entK_erase {T : Nat} : ∀ {es : List MapEntry} {L : List Pk} {j : Nat}, EntK T es L → EntK T (es.eraseIdx j) (L.eraseIdx j)
  | [], [], _, _ => trivial
  | [], _ :: _, _, h => h.elim
  | _ :: _, [], _, h => h.elim
  | e :: es, x :: L, 0, h => h.2.2
  | e :: es, x :: L, j + 1, h => ⟨h.1, h.2.1, entK_erase h.2.2⟩
theorem entK_len {T : Nat} : ∀ {es : List MapEntry} {L : List Pk}, EntK T es L → es.length = L.length
  | [], [], _ => rfl
  | [], _ :: _, h => h.elim
  | _ :: _, [], h => h.elim
  | e :: es, x :: L, h => by rw [List.length_cons, List.length_cons, entK_len h.2.2]
theorem entK_snoc {T : Nat} {e : MapEntry} {x : Pk} (h1 : e.key = .int .u32 (ts T x.k : Nat)) (h2 : e.val = .agg (pkc T x)) : ∀ {es : List MapEntry} {L : List Pk}, EntK T es L → EntK T (es ++ [e]) (L ++ [x])
  | [], [], _ => ⟨h1, h2, trivial⟩
  | [], _ :: _, h => h.elim
  | _ :: _, [], h => h.elim
  | f :: es, y :: L, h => ⟨h.1, h.2.1, entK_snoc h1 h2 h.2.2⟩
theorem pat_filter {k : Nat} {p : Pk → Bool} (hp : ∀ x : Pk, x.k = k → p x = true) : ∀ l : List Pk, pat (l.filter p) k = pat l k
  | [] => rfl
  | y :: r => by
    by_cases hy : y.k = k
    · rw [List.filter_cons_of_pos (hp y hy)]
      unfold pat
      rw [if_pos hy, if_pos hy]
    · rcases hq : p y with _ | _
      · rw [List.filter_cons_of_neg (by simp [hq]), pat_filter hp r]
        conv => rhs; unfold pat
        rw [if_neg hy]
      · rw [List.filter_cons_of_pos hq]
        unfold pat
        rw [if_neg hy, if_neg hy]
        exact pat_filter hp r
/-- Those that are left behind so many from one on. -/
def cut (l : List Pk) (a i : Nat) : List Pk := l.filter fun x => decide (x.k < a) || decide (a + i ≤ x.k)
theorem cut_zero (l : List Pk) (a : Nat) : cut l a 0 = l := List.filter_eq_self.2 fun x _ => by simp; omega
theorem cut_pat (l : List Pk) (a i : Nat) : pat (cut l a i) (a + i) = pat l (a + i) := pat_filter (fun x e => by simp [e]) l
theorem cut_nd {l : List Pk} (h : Nd l) (a i : Nat) : Nd (cut l a i) := nd_filter h _
theorem cut_succ {l : List Pk} (h : Nd l) {a i j : Nat} {x : Pk} (hj : (cut l a i)[j]? = some x) (hx : x.k = a + i) : (cut l a i).eraseIdx j = cut l a (i + 1) := by
  rw [erase_filter (cut_nd h a i) hj, cut, cut, List.filter_filter]
  congr 1
  funext y
  rw [hx, Bool.eq_iff_iff]
  simp
  omega
theorem cut_rest {l : List Pk} {F L : Nat} (h : F ≤ L) : cut l F (L + 1 - F) = rest l F L := by
  unfold cut rest
  congr 1
  funext y
  rw [Bool.eq_iff_iff]
  simp
  omega
theorem cut_mem {l : List Pk} {a i : Nat} {x : Pk} (h : x ∈ cut l a i) : x ∈ l := (List.mem_filter.1 h).1
theorem cat_size {l : List Pk} (h6 : ∀ x ∈ l, x.d.size ≤ 6) (a : Nat) : ∀ n, (cat l a n).size ≤ 6 * n
  | 0 => Nat.le_refl _
  | n + 1 => by
    have ih := cat_size h6 a n
    unfold cat
    rw [ByteArray.size_append]
    rcases hp : pat l (a + n) with _ | x
    · show _ + 0 ≤ _; omega
    · have := h6 x (pat_some hp).1
      show _ + x.d.size ≤ _
      omega
theorem toList_eraseIn (es : Array MapEntry) (i : Nat) : (es.eraseIdxIfInBounds i).toList = es.toList.eraseIdx i := by
  unfold Array.eraseIdxIfInBounds
  split
  · simp
  · rename_i h
    rw [List.eraseIdx_of_length_le (by simpa using h)]
end Go.Proofs.Ythddacgdmngfhaa.rea
