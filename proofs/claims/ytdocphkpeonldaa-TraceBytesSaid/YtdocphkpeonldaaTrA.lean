/- Layer 36: an act's bytes, read and put. -/
import Derived.Test.YtdocphkpeonldaaReadsA
import Derived.Test.YtdocphkpeonldaaNum
import Derived.Test.YtdocphkpeonldaaPar
import Derived.Test.YtdocphkpeonldaaKitD
namespace Go.Proofs.Ytdocphkpeonldaa.tra
open Go.ChangeShapes Go.WideShapes Go.ChangeAt Go.RowKit kit oct
set_option maxRecDepth 100000

/-- A number of 32 bits with its sign. -/
def sg (u : Nat) : Int := if u < 2147483648 then u else (u : Int) - 4294967296
/-- An act as it is read. -/
structure Rc where
  wh : Nat
  a : Nat
  b : Nat
  c : Nat
  d : Nat
  e : Nat
  f : Nat
  h : Nat
  s : ByteArray
structure Rc.Ok (r : Rc) : Prop where
  wh : r.wh ≤ 255
  a : r.a ≤ 4294967295
  b : r.b ≤ 4294967295
  c : r.c ≤ 4294967295
  d : r.d ≤ 4294967295
  e : r.e ≤ 4294967295
  f : r.f ≤ 4294967295
  h : r.h ≤ 4294967295
  s : r.s.size ≤ 65535
def Rc.cells (r : Rc) : Array Value := #[.int .i64 r.wh, .int .i64 (sg r.a), .int .i64 (sg r.b), .int .i64 (sg r.c), .int .i64 (sg r.d), .int .i64 (sg r.e), .int .i64 (sg r.f), .int .i64 (sg r.h), .string r.s]
def Rc.bytes (r : Rc) : ByteArray := p1 r.wh ++ p4 r.a ++ p4 r.b ++ p4 r.c ++ p4 r.d ++ p4 r.e ++ p4 r.f ++ p4 r.h ++ (p2 r.s.size ++ r.s)
/-- The next act, what is left, the first error. -/
structure Nx where
  rc : Rc
  l : ByteArray
  e : Int
def nx (L : ByteArray) : Nx :=
  let a1 := rdL L 0 1; let e1 := rdE L 0 1
  let a2 := rdL a1 e1 4; let e2 := rdE a1 e1 4
  let a3 := rdL a2 e2 4; let e3 := rdE a2 e2 4
  let a4 := rdL a3 e3 4; let e4 := rdE a3 e3 4
  let a5 := rdL a4 e4 4; let e5 := rdE a4 e4 4
  let a6 := rdL a5 e5 4; let e6 := rdE a5 e5 4
  let a7 := rdL a6 e6 4; let e7 := rdE a6 e6 4
  let a8 := rdL a7 e7 4; let e8 := rdE a7 e7 4
  let a9 := rdL a8 e8 2; let e9 := rdE a8 e8 2
  let n : Int := rdN a8 2
  ⟨⟨rdN L 1, rdN a1 4, rdN a2 4, rdN a3 4, rdN a4 4, rdN a5 4, rdN a6 4, rdN a7 4, if 0 ≤ n ∧ n ≤ a9.size then a9.extract 0 n.toNat else ByteArray.empty⟩,
    if 0 ≤ n ∧ n ≤ a9.size then a9.extract n.toNat a9.size else failL a9 e9 2, if 0 ≤ n ∧ n ≤ a9.size then e9 else failE e9 2⟩
theorem p1_of {s : ByteArray} (h : s.size = 1) : p1 (numV s.data.toList) = s := by
  unfold p1
  have := be_numV s.data.toList
  rw [len_data, h] at this
  rw [this]
  exact str_map s
/-- A read without an error: what was read stands ahead. -/
theorem rd_ok {l : ByteArray} {e : Int} {k : Nat} (h : rdE l e k = 0) : e = 0 ∧ k ≤ l.size ∧ l = l.extract 0 k ++ rdL l e k ∧ rdN l k = numV (l.extract 0 k).data.toList ∧ (l.extract 0 k).size = k := by
  unfold rdE at h
  by_cases hk : k ≤ l.size
  · rw [if_pos hk] at h
    refine ⟨h, hk, ?_, ?_, by simp; omega⟩
    · unfold rdL
      rw [if_pos hk, ← ByteArray.extract_eq_extract_append_extract k (by omega) hk]
      exact ByteArray.extract_zero_size.symm
    · unfold rdN
      rw [if_pos hk, take_data]
  · rw [if_neg hk] at h
    unfold failE at h
    split at h
    · rename_i q
      rcases q with q | q
      · exact absurd h q
      · cases q
    · cases h
theorem rd4 {l : ByteArray} {e : Int} (h : rdE l e 4 = 0) : e = 0 ∧ l = p4 (rdN l 4) ++ rdL l e 4 ∧ rdN l 4 ≤ 4294967295 := by
  obtain ⟨h1, h2, h3, h4, h5⟩ := rd_ok h
  refine ⟨h1, ?_, by have := rdN_lt l 4 (by omega); omega⟩
  rw [h4, p4_of h5]
  exact h3
theorem rd2 {l : ByteArray} {e : Int} (h : rdE l e 2 = 0) : e = 0 ∧ l = p2 (rdN l 2) ++ rdL l e 2 ∧ rdN l 2 ≤ 65535 := by
  obtain ⟨h1, h2, h3, h4, h5⟩ := rd_ok h
  refine ⟨h1, ?_, by have := rdN_lt l 2 (by omega); omega⟩
  rw [h4, p2_of h5]
  exact h3
theorem rd1 {l : ByteArray} {e : Int} (h : rdE l e 1 = 0) : e = 0 ∧ l = p1 (rdN l 1) ++ rdL l e 1 ∧ rdN l 1 ≤ 255 := by
  obtain ⟨h1, h2, h3, h4, h5⟩ := rd_ok h
  refine ⟨h1, ?_, by have := rdN_lt l 1 (by omega); omega⟩
  rw [h4, p1_of h5]
  exact h3
/-- An act that was read has these bytes. -/
theorem nx_ok (L : ByteArray) (h : (nx L).e = 0) : L = (nx L).rc.bytes ++ (nx L).l ∧ (nx L).rc.Ok := by
  unfold nx at h ⊢
  dsimp only at h ⊢
  generalize hb1 : rdL L 0 1 = a1 at *
  generalize hc1 : rdE L 0 1 = e1 at *
  generalize hb2 : rdL a1 e1 4 = a2 at *
  generalize hc2 : rdE a1 e1 4 = e2 at *
  generalize hb3 : rdL a2 e2 4 = a3 at *
  generalize hc3 : rdE a2 e2 4 = e3 at *
  generalize hb4 : rdL a3 e3 4 = a4 at *
  generalize hc4 : rdE a3 e3 4 = e4 at *
  generalize hb5 : rdL a4 e4 4 = a5 at *
  generalize hc5 : rdE a4 e4 4 = e5 at *
  generalize hb6 : rdL a5 e5 4 = a6 at *
  generalize hc6 : rdE a5 e5 4 = e6 at *
  generalize hb7 : rdL a6 e6 4 = a7 at *
  generalize hc7 : rdE a6 e6 4 = e7 at *
  generalize hb8 : rdL a7 e7 4 = a8 at *
  generalize hc8 : rdE a7 e7 4 = e8 at *
  generalize hb9 : rdL a8 e8 2 = a9 at *
  generalize hc9 : rdE a8 e8 2 = e9 at *
  obtain ⟨n, hn⟩ : ∃ n, rdN a8 2 = n := ⟨_, rfl⟩
  rw [hn] at h ⊢
  by_cases hq : 0 ≤ (n : Int) ∧ (n : Int) ≤ a9.size
  · rw [if_pos hq] at h
    subst h
    obtain ⟨z8, y9, x9⟩ := rd2 hc9
    subst z8
    obtain ⟨z7, y8, x8⟩ := rd4 hc8
    subst z7
    obtain ⟨z6, y7, x7⟩ := rd4 hc7
    subst z6
    obtain ⟨z5, y6, x6⟩ := rd4 hc6
    subst z5
    obtain ⟨z4, y5, x5⟩ := rd4 hc5
    subst z4
    obtain ⟨z3, y4, x4⟩ := rd4 hc4
    subst z3
    obtain ⟨z2, y3, x3⟩ := rd4 hc3
    subst z2
    obtain ⟨z1, y2, x2⟩ := rd4 hc2
    subst z1
    obtain ⟨_, y1, x1⟩ := rd1 hc1
    rw [hn] at y9 x9
    rw [if_pos hq, if_pos hq]
    have hsz : (a9.extract 0 (n : Int).toNat).size = n := by simp; omega
    refine ⟨?_, ⟨x1, x2, x3, x4, x5, x6, x7, x8, by rw [hsz]; exact x9⟩⟩
    unfold Rc.bytes
    dsimp only
    rw [hsz]
    have hcut : a9 = a9.extract 0 (n : Int).toNat ++ a9.extract (n : Int).toNat a9.size := by
      rw [← ByteArray.extract_eq_extract_append_extract (n : Int).toNat (by omega) (by omega)]
      exact ByteArray.extract_zero_size.symm
    rw [hb1] at y1
    rw [hb2] at y2
    rw [hb3] at y3
    rw [hb4] at y4
    rw [hb5] at y5
    rw [hb6] at y6
    rw [hb7] at y7
    rw [hb8] at y8
    rw [hb9] at y9
    simp only [ByteArray.append_assoc]
    rw [← hcut, ← y9, ← y8, ← y7, ← y6, ← y5, ← y4, ← y3, ← y2]
    exact y1
  · rw [if_neg hq] at h
    exfalso
    unfold failE at h
    split at h
    · rename_i q
      rcases q with q | q
      · exact q h
      · cases q
    · cases h
end Go.Proofs.Ytdocphkpeonldaa.tra
