/- Layer 20: a message put into a queue. -/
import Derived.Test.YthddacgdmngfhaaSqC
import Derived.Test.YthddacgdmngfhaaFraD
import Derived.Deep.DeepCutAuto
namespace Go.Proofs.Ythddacgdmngfhaa.fra
open Go.Sort (grow)
open Go.ChangeShapes Go.WideShapes Go.ChangeAt Go.RowKit kit
set_option maxRecDepth 100000

/-- A message's chunks. -/
def ptm (F st ss pr : Int) (D : ByteArray) (n m : Nat) : List Ck := (List.range m).map fun i => ⟨fl F i n, st, ss, pr, D.extract (i * 200) (i * 200 + 200)⟩
def pts (F st ss pr : Int) (D : ByteArray) : List Ck := ptm F st ss pr D ((D.size + 199) / 200) ((D.size + 199) / 200)
theorem ptm_len (F st ss pr : Int) (D : ByteArray) (n m : Nat) : (ptm F st ss pr D n m).length = m := by simp [ptm]
theorem bts_ptm (F st ss pr : Int) (D : ByteArray) (n : Nat) : ∀ m, bts (ptm F st ss pr D n m) = min (m * 200) D.size
  | 0 => by simp [ptm, bts]
  | m + 1 => by
    have h : ptm F st ss pr D n (m + 1) = ptm F st ss pr D n m ++ [⟨fl F m n, st, ss, pr, D.extract (m * 200) (m * 200 + 200)⟩] := by simp [ptm, List.range_succ]
    rw [h, bts_append, bts_ptm F st ss pr D n m]
    simp only [bts, ByteArray.size_extract]
    omega
theorem bts_pts (F st ss pr : Int) (D : ByteArray) : bts (pts F st ss pr D) = D.size := by
  unfold pts
  rw [bts_ptm]
  omega
theorem pts_len (F st ss pr : Int) (D : ByteArray) : (pts F st ss pr D).length = (D.size + 199) / 200 := ptm_len _ _ _ _ _ _ _
theorem ck_ckc (f st ss pr : Int) (d : ByteArray) : ck f st ss pr d = ckc ⟨f, st, ss, pr, d⟩ := rfl
/-- What is yielded where they are appended. -/
theorem src_parts {P : Program} {w : World} {b0 n : Nat} {F st ss pr : Int} {D : ByteArray} {v : Value} {tx e' : TypeId} (hk : P.underlying tx = some (.slice e')) (hn : n = (D.size + 199) / 200) (h : Parts b0 F st ss pr D 200 n v w) : Src P 15 tx v n (cellsC (pts F st ss pr D)) w := by
  have hl : (cellsC (pts F st ss pr D)).length = n * 15 := by rw [cellsC_len, pts_len, hn]
  rcases h with ⟨h0, hE⟩ | ⟨g, cap, rfl, h1, h2, h3, h4, K⟩
  · subst h0
    have hc : cellsC (pts F st ss pr D) = [] := List.length_eq_zero_iff.1 (by rw [hl, Nat.zero_mul])
    rw [hc]
    rcases hE with rfl | ⟨g, cap, rfl⟩
    · exact Src.ofNil w hk 0
    · exact Src.ofSlice w hk _ 0 cap [] (by simp) (fun j u hu => by simp at hu) (fun u hu => by simp at hu)
  · refine Src.ofSlice w hk _ n cap _ hl (fun j u hu => ?_) (cellsC_one _)
    have hj : j < n * 15 := by rw [← hl]; exact (List.getElem?_eq_some_iff.1 hu).1
    rw [add_some, Nat.zero_add]
    have hi : j / 15 < n := by omega
    have hget : (pts F st ss pr D)[j / 15]? = some ⟨fl F (j / 15) n, st, ss, pr, D.extract (j / 15 * 200) (j / 15 * 200 + 200)⟩ := by
      unfold pts ptm
      rw [← hn]
      simp [hi]
    have hc := cellsC_get hget (j % 15) (by show j % 15 < 15; omega)
    rw [show j / 15 * 15 + j % 15 = j by omega, hu] at hc
    have := (K (j / 15) hi).cell (j % 15) (u := u) (by rw [ck_ckc]; exact hc)
    rwa [show j / 15 * 15 + j % 15 = j by omega] at this
/-- A call that comes alone, where loads go ahead (KitU). -/
theorem call_C {P : Program} {ops : Array Oper} {Q : Exit → Act → World → Prop} {S : World → Prop} {c : Nat} {i : Nat} {o : Oper} {d fuel : Nat} {L : Array Bool} {a : Act} {w : World} (hr : Region.ready .any ops L = [i]) (hi : ops[i]? = some o) (hg : o.guard = none) (hd : o.dst = some d) (f : FuncId) (fn : Func) (xs : Array Operand) (ts : Array TypeId) (hop : o.op = .call { callee := .value (.func f), args := xs, argTypes := ts })
    (hf : P.funcs[f]? = some fn) (hn : (fn.name == "runtime.NumGoroutine") = false) (hb : fn.body.isNone = false) (vs : Array Value) (hx : xs.map a.eval = vs) {R : Ending → World → Prop} (hc : Calls P f vs w R)
    (h : ∀ e w', R e w' → ∃ v, e = .returned v ∧ (i ≠ c → S w') ∧ wpAnyC P .any ops Q S c fuel (L.setIfInBounds i true) (a.put (some d) v) w') : wpAnyC P .any ops Q S c (fuel + 1) L a w :=
  one_C hr hi hg fun K hK => by
    have := step_call2 (ops := ops) (E := True) hg f fn xs ts hop hf hn hb vs hx hc (K := K) (Q := Q) (fun e w' hR => by
      obtain ⟨v, he, h1, h2⟩ := h e w' hR
      exact ⟨v, he, by rw [hd]; exact hK _ _ h1 h2⟩)
    rwa [if_pos (by simp [Region.wanted, hg])] at this
end Go.Proofs.Ythddacgdmngfhaa.fra
