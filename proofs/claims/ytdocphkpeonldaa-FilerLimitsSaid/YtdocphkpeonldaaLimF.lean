/- Layer 40: what a receiver holds of so many objects. -/
import Derived.Test.YtdocphkpeonldaaLimE
namespace Go.Proofs.Ytdocphkpeonldaa.fil
open Go.Sort (grow)
open Go.ChangeShapes Go.WideShapes Go.ChangeAt Go.RowKit kit oct byt
set_option maxRecDepth 100000

theorem same_u32 (a b : Int) : Instr.sameNow (.int .u32) (.int .u32 a) (.int .u32 b) = some (decide (a = b)) := by
  simp [Instr.sameNow]
  rw [Bool.eq_iff_iff]
  simp
theorem find_none (a : Int) : ∀ (l : List MapEntry) (i : Nat), (∀ e ∈ l, ∃ b : Int, e.key = .int .u32 b ∧ a ≠ b) → Instr.findNow (.int .u32) (.int .u32 a) l i = some none
  | [], _, _ => rfl
  | e :: l, i, h => by
    obtain ⟨b, hb, hne⟩ := h e (by simp)
    unfold Instr.findNow
    rw [hb, same_u32, decide_eq_false hne]
    exact find_none a l (i + 1) (fun x hx => h x (by simp [hx]))
theorem find_head (a : Int) (e : MapEntry) (l : List MapEntry) (i : Nat) (h : e.key = .int .u32 a) : Instr.findNow (.int .u32) (.int .u32 a) (e :: l) i = some (some (i, e.val)) := by
  unfold Instr.findNow
  rw [h, same_u32, decide_eq_true rfl]
/-- The entries of the objects 0 to n - 1, of 900 bytes each. -/
structure Es (n : Nat) (es : Array MapEntry) : Prop where
  size : es.size = n
  keys : ∀ e ∈ es.toList, ∃ b : Nat, b < n ∧ e.key = .int .u32 b
  zero : 0 < n → ∃ (e : MapEntry) (l : List MapEntry) (k : Nat), es.toList = e :: l ∧ e.key = .int .u32 0 ∧ e.val = .agg #[.int .i64 (900 : Nat), .map (some k)]
theorem Es.nil : Es 0 #[] := ⟨rfl, fun e he => (by simp at he), fun h => absurd h (Nat.lt_irrefl 0)⟩
theorem Es.none {n : Nat} {es : Array MapEntry} (h : Es n es) {i : Nat} (hi : n ≤ i) : Instr.findNow (.int .u32) (.int .u32 i) es.toList 0 = some none :=
  find_none _ _ _ fun e he => by
    obtain ⟨b, hb, hk⟩ := h.keys e he
    exact ⟨b, hk, by omega⟩
theorem Es.push {n : Nat} {es : Array MapEntry} (h : Es n es) (k c : Nat) : Es (n + 1) (es.push ⟨.int .u32 n, .agg #[.int .i64 (900 : Nat), .map (some k)], c⟩) := by
  refine ⟨by simp [h.size], fun e he => ?_, fun _ => ?_⟩
  · rw [Array.toList_push, List.mem_append] at he
    rcases he with he | he
    · obtain ⟨b, hb, hk⟩ := h.keys e he
      exact ⟨b, by omega, hk⟩
    · obtain rfl := List.mem_singleton.1 he
      exact ⟨n, by omega, rfl⟩
  · rw [Array.toList_push]
    rcases Nat.eq_zero_or_pos n with h0 | h0
    · subst h0
      have : es.toList = [] := List.length_eq_zero_iff.1 (by simpa using h.size)
      rw [this]
      exact ⟨_, [], k, rfl, rfl, rfl⟩
    · obtain ⟨e, l, k', h1, h2, h3⟩ := h.zero h0
      exact ⟨e, l ++ [⟨.int .u32 n, .agg #[.int .i64 (900 : Nat), .map (some k)], c⟩], k', by rw [h1]; rfl, h2, h3⟩
theorem Es.found {n : Nat} {es : Array MapEntry} (h : Es n es) (h0 : 0 < n) : ∃ k : Nat, Instr.findNow (.int .u32) (.int .u32 (0 : Nat)) es.toList 0 = some (some (0, .agg #[.int .i64 (900 : Nat), .map (some k)])) := by
  obtain ⟨e, l, k, h1, h2, h3⟩ := h.zero h0
  exact ⟨k, by rw [h1]; exact (find_head _ e l 0 h2).trans (by rw [h3])⟩
/-- A piece of noughts says what it must. -/
theorem pcs_ok (i m : Nat) (hi : i ≤ 4294967295) (h0 : 500 ≤ m) (h1 : m ≤ 1023) : okR (pcs i (Zs m)) = true ∧ pcR (pcs i (Zs m)) = pc i m 0 ((Zs m).extract 0 500) ∧ (pcs i (Zs m)).size = 512 ∧ ((Zs m).extract 0 500).size = 500 := by
  have hz := Zs_size m
  have he : ((Zs m).extract 0 500).size = 500 := by simp [hz]; omega
  have hw : wnt m 0 ((Zs m).extract 0 500) = true := by unfold wnt; exact decide_eq_true ⟨by omega, by omega, by rw [he]; omega, .inl (by omega)⟩
  have e : pcs i (Zs m) = p4 i ++ p4 m ++ p4 (0 : Nat) ++ (Zs m).extract 0 500 := by unfold pcs; rw [hz]; rfl
  refine ⟨?_, ?_, ?_, he⟩
  · rw [e, ok_wnt i m 0 _ hi h1 (by omega)]; exact hw
  · rw [e]; exact pc_wnt i m 0 _ hi h1 (by omega) hw
  · rw [e]; simp only [ByteArray.size_append, p4_size, he]
end Go.Proofs.Ytdocphkpeonldaa.fil
