/- Layer 10: cookies as bytes, and back: the words. -/
import Derived.Test.YtbdbcjhahlofiaaDoorNum
namespace Go.Proofs.YtbdbcjhahlofiaaDoor.coo
open Go.ChangeShapes Go.WideShapes Go.ChangeAt Go.RowKit kit oct

/-- A reader that reads so many bytes, one part behind the other. -/
def run : List Nat → ByteArray × Int → ByteArray × Int
  | [], x => x
  | k :: ks, x => run ks (rdL x.1 x.2 k, rdE x.1 x.2 k)
theorem fail_step (k : Nat) : rdL ByteArray.empty 2 k = ByteArray.empty ∧ rdE ByteArray.empty 2 k = 2 := by
  have e0 : ByteArray.empty.size = 0 := rfl
  unfold rdL rdE failL failE
  by_cases c : k ≤ ByteArray.empty.size
  · rw [if_pos c, if_pos c]
    exact ⟨by apply ByteArray.ext; simp, rfl⟩
  · rw [if_neg c, if_neg c]
    exact ⟨by simp, by simp⟩
theorem run_fail : ∀ ks, run ks (ByteArray.empty, 2) = (ByteArray.empty, 2)
  | [] => rfl
  | k :: ks => by
    show run ks (rdL ByteArray.empty 2 k, rdE ByteArray.empty 2 k) = _
    rw [(fail_step k).1, (fail_step k).2]
    exact run_fail ks
theorem ext_ext (l : ByteArray) (a b c : Nat) (h : b ≤ l.size) : (l.extract a b).extract c (b - a) = l.extract (a + c) b := by
  rw [ByteArray.extract_extract]
  congr 1
  omega
theorem run_ok : ∀ (ks : List Nat) (l : ByteArray), ks.sum ≤ l.size → run ks (l, 0) = (l.extract ks.sum l.size, 0)
  | [], l, _ => by
    show (l, (0 : Int)) = _
    congr 1
    apply ByteArray.ext
    simp
  | k :: ks, l, h => by
    rw [List.sum_cons] at h ⊢
    have hk : k ≤ l.size := by omega
    have hz : (l.extract k l.size).size = l.size - k := by simp
    show run ks (rdL l 0 k, rdE l 0 k) = _
    unfold rdL rdE
    rw [if_pos hk, if_pos hk, run_ok ks _ (by rw [hz]; omega), hz, ext_ext l k l.size ks.sum (Nat.le_refl _)]
theorem run_short : ∀ (ks : List Nat) (l : ByteArray), l.size < ks.sum → run ks (l, 0) = (ByteArray.empty, 2)
  | [], l, h => by simp at h
  | k :: ks, l, h => by
    rw [List.sum_cons] at h
    have hz : (l.extract k l.size).size = l.size - k := by simp
    show run ks (rdL l 0 k, rdE l 0 k) = _
    unfold rdL rdE
    by_cases hk : k ≤ l.size
    · rw [if_pos hk, if_pos hk]
      exact run_short ks _ (by rw [hz]; omega)
    · rw [if_neg hk, if_neg hk]
      exact run_fail ks

/-- Bytes in parts of so many. -/
def cut : List Nat → ByteArray → List ByteArray
  | [], _ => []
  | k :: ks, l => l.extract 0 k :: cut ks (l.extract k l.size)
def cat : List ByteArray → ByteArray
  | [] => ByteArray.empty
  | p :: ps => p ++ cat ps
theorem cat_cut : ∀ (ks : List Nat) (l : ByteArray), ks.sum = l.size → cat (cut ks l) = l
  | [], l, h => by
    have h0 : l.size = 0 := by simpa using h.symm
    apply ByteArray.ext
    apply Array.ext'
    have : l.data.toList = [] := List.length_eq_zero_iff.1 (by simpa using h0)
    rw [this]
    rfl
  | k :: ks, l, h => by
    rw [List.sum_cons] at h
    have hz : (l.extract k l.size).size = l.size - k := by simp
    show l.extract 0 k ++ cat (cut ks (l.extract k l.size)) = l
    rw [cat_cut ks _ (by rw [hz]; omega), ByteArray.extract_append_extract]
    apply ByteArray.ext
    simp
theorem cat_size : ∀ ps : List ByteArray, (cat ps).size = (ps.map ByteArray.size).sum
  | [] => rfl
  | p :: ps => by
    show (p ++ cat ps).size = _
    rw [ByteArray.size_append, cat_size ps]
    simp
theorem cut_cat : ∀ ps : List ByteArray, cut (ps.map ByteArray.size) (cat ps) = ps
  | [] => rfl
  | p :: ps => by
    show (p ++ cat ps).extract 0 p.size :: cut (ps.map ByteArray.size) ((p ++ cat ps).extract p.size (p ++ cat ps).size) = _
    rw [ext_left _ _ _ rfl, ext_right _ _ _ _ rfl rfl, cut_cat ps]

/-- A cookie. -/
structure Ck where
  made : Int
  mine : Int
  yours : Int
  myTsn : Int
  yourTsn : Int
  peer : Int
  loc : Int
  peerPort : Int
  myPort : Int
  rwnd : Int
  out : Int
  inn : Int
  tieMine : Int
  tieYours : Int
  X : ByteArray
  Y : ByteArray
def Ck.cells (c : Ck) : Array Value := #[.int .i64 c.made, .int .u32 c.mine, .int .u32 c.yours, .int .u32 c.myTsn, .int .u32 c.yourTsn, .int .u32 c.peer, .int .u32 c.loc, .int .i64 c.peerPort, .int .i64 c.myPort, .int .u32 c.rwnd, .int .i64 c.out, .int .i64 c.inn, .int .u32 c.tieMine, .int .u32 c.tieYours, .string c.X, .string c.Y]
def Ck.zero : Ck := ⟨0, 0, 0, 0, 0, 0, 0, 0, 0, 0, 0, 0, 0, 0, ByteArray.empty, ByteArray.empty⟩
def is16 (n : Int) : Prop := 0 ≤ n ∧ n ≤ 65535
def is32 (n : Int) : Prop := 0 ≤ n ∧ n ≤ 4294967295
instance (n : Int) : Decidable (is16 n) := by unfold is16; infer_instance
def Ck.may (c : Ck) : Prop := 0 ≤ c.made ∧ c.mine ≠ 0 ∧ c.yours ≠ 0 ∧ is16 c.peerPort ∧ is16 c.myPort ∧ is16 c.out ∧ is16 c.inn ∧ c.X.size = 16 ∧ c.Y.size = 16
instance (c : Ck) : Decidable c.may := by unfold Ck.may; infer_instance
structure Ck.wf (c : Ck) : Prop where
  made0 : -9223372036854775808 ≤ c.made
  made1 : c.made ≤ 9223372036854775807
  mine : is32 c.mine
  yours : is32 c.yours
  myTsn : is32 c.myTsn
  yourTsn : is32 c.yourTsn
  peer : is32 c.peer
  loc : is32 c.loc
  rwnd : is32 c.rwnd
  tieMine : is32 c.tieMine
  tieYours : is32 c.tieYours
  peerPort : -9223372036854775808 ≤ c.peerPort ∧ c.peerPort ≤ 9223372036854775807
  myPort : -9223372036854775808 ≤ c.myPort ∧ c.myPort ≤ 9223372036854775807
  out : -9223372036854775808 ≤ c.out ∧ c.out ≤ 9223372036854775807
  inn : -9223372036854775808 ≤ c.inn ∧ c.inn ≤ 9223372036854775807
  X : c.X.size ≤ maxLen
  Y : c.Y.size ≤ maxLen
def Ck.parts (c : Ck) : List ByteArray := [p8 c.made, p4 c.mine, p4 c.yours, p4 c.myTsn, p4 c.yourTsn, p4 c.peer, p4 c.loc, p2 c.peerPort, p2 c.myPort, p4 c.rwnd, p2 c.out, p2 c.inn, p4 c.tieMine, p4 c.tieYours, c.X, c.Y]
def sizes : List Nat := [8, 4, 4, 4, 4, 4, 4, 2, 2, 4, 2, 2, 4, 4, 16, 16]
/-- A cookie's bytes. -/
def Ck.bytes (c : Ck) : ByteArray := cat c.parts
def num (s : ByteArray) : Int := (numV s.data.toList : Int)
/-- The cookie that bytes say. -/
def ofParts (q : List ByteArray) : Ck :=
  ⟨num (q.getD 0 ByteArray.empty), num (q.getD 1 ByteArray.empty), num (q.getD 2 ByteArray.empty), num (q.getD 3 ByteArray.empty), num (q.getD 4 ByteArray.empty), num (q.getD 5 ByteArray.empty), num (q.getD 6 ByteArray.empty), num (q.getD 7 ByteArray.empty), num (q.getD 8 ByteArray.empty), num (q.getD 9 ByteArray.empty), num (q.getD 10 ByteArray.empty), num (q.getD 11 ByteArray.empty), num (q.getD 12 ByteArray.empty), num (q.getD 13 ByteArray.empty), q.getD 14 ByteArray.empty, q.getD 15 ByteArray.empty⟩
def parse (s : ByteArray) : Ck := ofParts (cut sizes s)

theorem p8_size (n : Int) : (p8 n).size = 8 := by unfold p8; rw [strOfNums_size]; rfl
theorem num_p8 {n : Int} (h0 : 0 ≤ n) (h1 : n ≤ 18446744073709551615) : num (p8 n) = n := by
  obtain ⟨m, rfl⟩ : ∃ m : Nat, n = m := ⟨n.toNat, by omega⟩
  unfold num p8; rw [numV_be]; omega
theorem num_p4 {n : Int} (h : is32 n) : num (p4 n) = n := by
  obtain ⟨h0, h1⟩ := h
  obtain ⟨m, rfl⟩ : ∃ m : Nat, n = m := ⟨n.toNat, by omega⟩
  unfold num; rw [numV_p4 m (by omega)]
theorem num_p2 {n : Int} (h : is16 n) : num (p2 n) = n := by
  obtain ⟨h0, h1⟩ := h
  obtain ⟨m, rfl⟩ : ∃ m : Nat, n = m := ⟨n.toNat, by omega⟩
  unfold num; rw [numV_p2 m (by omega)]
theorem p8_num {s : ByteArray} (h : s.size = 8) : p8 (num s) = s := by
  have e := be_numV s.data.toList
  rw [len_data, h] at e
  unfold p8 num
  rw [e, str_map]
theorem p4_num {s : ByteArray} (h : s.size = 4) : p4 (num s) = s := p4_of h
theorem p2_num {s : ByteArray} (h : s.size = 2) : p2 (num s) = s := p2_of h
theorem num_lt (s : ByteArray) (k : Nat) (h : s.size = k) : 0 ≤ num s ∧ num s < (256 ^ k : Nat) := by
  have := numV_lt k s.data.toList (by rw [len_data]; exact h)
  unfold num
  omega

theorem parts_sizes {c : Ck} (h : c.may) : c.parts.map ByteArray.size = sizes := by
  unfold Ck.parts sizes
  simp only [List.map_cons, List.map_nil, p8_size, p4_size, p2_size, h.2.2.2.2.2.2.2.1, h.2.2.2.2.2.2.2.2]
theorem bytes_size {c : Ck} (h : c.may) : c.bytes.size = 84 := by
  unfold Ck.bytes
  rw [cat_size, parts_sizes h]
  rfl
/-- What was put is read again. -/
theorem parse_bytes {c : Ck} (h : c.may) (w : c.wf) : parse c.bytes = c := by
  unfold parse Ck.bytes
  rw [← parts_sizes h, cut_cat]
  obtain ⟨h1, h2, h3, h4, h5, h6, h7, h8, h9⟩ := h
  unfold ofParts Ck.parts
  simp only [List.getD_cons_zero, List.getD_cons_succ]
  rw [num_p8 h1 (by have := w.made1; omega), num_p4 w.mine, num_p4 w.yours, num_p4 w.myTsn, num_p4 w.yourTsn, num_p4 w.peer, num_p4 w.loc, num_p2 h4, num_p2 h5, num_p4 w.rwnd, num_p2 h6, num_p2 h7, num_p4 w.tieMine, num_p4 w.tieYours]

theorem cut_sizes : ∀ (ks : List Nat) (l : ByteArray), ks.sum ≤ l.size → (cut ks l).map ByteArray.size = ks
  | [], _, _ => rfl
  | k :: ks, l, h => by
    rw [List.sum_cons] at h
    have hz : (l.extract k l.size).size = l.size - k := by simp
    show (l.extract 0 k).size :: (cut ks (l.extract k l.size)).map ByteArray.size = _
    rw [cut_sizes ks _ (by rw [hz]; omega)]
    congr 1
    simp
    omega
theorem map_cons' {ks : List Nat} {k : Nat} {q : List ByteArray} (h : q.map ByteArray.size = k :: ks) : ∃ a r, q = a :: r ∧ a.size = k ∧ r.map ByteArray.size = ks := by
  cases q with
  | nil => cases h
  | cons a r =>
    rw [List.map_cons, List.cons.injEq] at h
    exact ⟨a, r, rfl, h.1, h.2⟩
theorem parts16 {q : List ByteArray} (h : q.map ByteArray.size = sizes) : ∃ q0 q1 q2 q3 q4 q5 q6 q7 q8 q9 q10 q11 q12 q13 q14 q15 : ByteArray, q = [q0, q1, q2, q3, q4, q5, q6, q7, q8, q9, q10, q11, q12, q13, q14, q15] ∧
    q0.size = 8 ∧ q1.size = 4 ∧ q2.size = 4 ∧ q3.size = 4 ∧ q4.size = 4 ∧ q5.size = 4 ∧ q6.size = 4 ∧ q7.size = 2 ∧ q8.size = 2 ∧ q9.size = 4 ∧ q10.size = 2 ∧ q11.size = 2 ∧ q12.size = 4 ∧ q13.size = 4 ∧ q14.size = 16 ∧ q15.size = 16 := by
  unfold sizes at h
  obtain ⟨q0, r, rfl, a0, h⟩ := map_cons' h
  obtain ⟨q1, r, rfl, a1, h⟩ := map_cons' h
  obtain ⟨q2, r, rfl, a2, h⟩ := map_cons' h
  obtain ⟨q3, r, rfl, a3, h⟩ := map_cons' h
  obtain ⟨q4, r, rfl, a4, h⟩ := map_cons' h
  obtain ⟨q5, r, rfl, a5, h⟩ := map_cons' h
  obtain ⟨q6, r, rfl, a6, h⟩ := map_cons' h
  obtain ⟨q7, r, rfl, a7, h⟩ := map_cons' h
  obtain ⟨q8, r, rfl, a8, h⟩ := map_cons' h
  obtain ⟨q9, r, rfl, a9, h⟩ := map_cons' h
  obtain ⟨q10, r, rfl, a10, h⟩ := map_cons' h
  obtain ⟨q11, r, rfl, a11, h⟩ := map_cons' h
  obtain ⟨q12, r, rfl, a12, h⟩ := map_cons' h
  obtain ⟨q13, r, rfl, a13, h⟩ := map_cons' h
  obtain ⟨q14, r, rfl, a14, h⟩ := map_cons' h
  obtain ⟨q15, r, rfl, a15, h⟩ := map_cons' h
  obtain rfl : r = [] := List.map_eq_nil_iff.1 h
  exact ⟨q0, q1, q2, q3, q4, q5, q6, q7, q8, q9, q10, q11, q12, q13, q14, q15, rfl, a0, a1, a2, a3, a4, a5, a6, a7, a8, a9, a10, a11, a12, a13, a14, a15⟩
theorem sixteen {q : List ByteArray} (h : q.map ByteArray.size = sizes) : (ofParts q).parts = q := by
  obtain ⟨q0, q1, q2, q3, q4, q5, q6, q7, q8, q9, q10, q11, q12, q13, q14, q15, rfl, a0, a1, a2, a3, a4, a5, a6, a7, a8, a9, a10, a11, a12, a13, a14, a15⟩ := parts16 h
  · unfold ofParts Ck.parts
    simp only [List.getD_cons_zero, List.getD_cons_succ]
    rw [p8_num a0, p4_num a1, p4_num a2, p4_num a3, p4_num a4, p4_num a5, p4_num a6, p2_num a7, p2_num a8, p4_num a9, p2_num a10, p2_num a11, p4_num a12, p4_num a13]
/-- What was read was put so. -/
theorem bytes_parse {s : ByteArray} (h : s.size = 84) : (parse s).bytes = s := by
  have hs : sizes.sum = 84 := rfl
  unfold parse Ck.bytes
  rw [sixteen (cut_sizes sizes s (by omega)), cat_cut sizes s (by omega)]
theorem num_sixteen {q : List ByteArray} (h : q.map ByteArray.size = sizes) : is16 (ofParts q).peerPort ∧ is16 (ofParts q).myPort ∧ is16 (ofParts q).out ∧ is16 (ofParts q).inn ∧ (ofParts q).X.size = 16 ∧ (ofParts q).Y.size = 16 ∧ 0 ≤ (ofParts q).made := by
  obtain ⟨q0, q1, q2, q3, q4, q5, q6, q7, q8, q9, q10, q11, q12, q13, q14, q15, rfl, a0, a1, a2, a3, a4, a5, a6, a7, a8, a9, a10, a11, a12, a13, a14, a15⟩ := parts16 h
  · skip
    have b7 := num_lt q7 2 a7
    have b8 := num_lt q8 2 a8
    have b10 := num_lt q10 2 a10
    have b11 := num_lt q11 2 a11
    have b0 := num_lt q0 8 a0
    have e2 : (256 ^ 2 : Nat) = 65536 := rfl
    rw [e2] at b7 b8 b10 b11
    unfold ofParts is16
    simp only [List.getD_cons_zero, List.getD_cons_succ]
    exact ⟨by omega, by omega, by omega, by omega, a14, a15, b0.1⟩
/-- Which bytes say a cookie. -/
theorem parse_may {s : ByteArray} (h : s.size = 84) : (parse s).may ↔ (parse s).mine ≠ 0 ∧ (parse s).yours ≠ 0 := by
  have hs : sizes.sum = 84 := rfl
  obtain ⟨b7, b8, b10, b11, b14, b15, b0⟩ := num_sixteen (cut_sizes sizes s (by omega))
  exact ⟨fun q => ⟨q.2.1, q.2.2.1⟩, fun q => ⟨b0, q.1, q.2, b7, b8, b10, b11, b14, b15⟩⟩

/-- What bytes are read as: the cookie, the error. -/
def okR (s : ByteArray) : Prop := s.size = 84 ∧ (parse s).made ≤ 9223372036854775807 ∧ (parse s).may
instance (s : ByteArray) : Decidable (okR s) := by unfold okR; infer_instance
def readE (s : ByteArray) : Int := if s.size < 84 then 2 else if okR s then 0 else 3
def readC (s : ByteArray) : Ck := if okR s then parse s else Ck.zero
theorem readE_zero {s : ByteArray} : readE s = 0 ↔ okR s := by
  unfold readE
  by_cases a : s.size < 84
  · rw [if_pos a]
    exact ⟨fun h => absurd h (by decide), fun h => absurd a (by have := h.1; omega)⟩
  · rw [if_neg a]
    by_cases h : okR s
    · rw [if_pos h]; exact ⟨fun _ => h, fun _ => rfl⟩
    · rw [if_neg h]; exact ⟨fun q => absurd q (by decide), fun q => absurd q h⟩
theorem okR_bytes {c : Ck} (h : c.may) (w : c.wf) : okR c.bytes := by
  unfold okR
  rw [parse_bytes h w]
  exact ⟨bytes_size h, w.made1, h⟩
theorem readC_bytes {c : Ck} (h : c.may) (w : c.wf) : readC c.bytes = c := by
  unfold readC
  rw [if_pos (okR_bytes h w), parse_bytes h w]
end Go.Proofs.YtbdbcjhahlofiaaDoor.coo
