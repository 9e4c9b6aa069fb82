/- Layer 28: requests and answers as parameters. -/
import Derived.Test.YtdocphkpeonldaaRecA
namespace Go.Proofs.Ytdocphkpeonldaa.rec_
open Go.ChangeShapes Go.WideShapes Go.ChangeAt Go.RowKit kit oct
set_option maxRecDepth 100000

/-- A request's bytes, an answer's bytes. -/
def mS (id m : Nat) : ByteArray := p4 id ++ (p2 m ++ p2 0)
def rS (id k : Nat) : ByteArray := p4 id ++ p4 k
theorem fill2 (m : Nat) : filled (p2 m) = p2 m ++ p2 0 := by
  unfold filled
  rw [p2_size]
  rfl
theorem p2p2_size (m k : Int) : (p2 m ++ p2 k).size = 4 := by rw [ByteArray.size_append, p2_size, p2_size]
theorem mS_size (id m : Nat) : (mS id m).size = 8 := by unfold mS; rw [ByteArray.size_append, p4_size, p2p2_size]
theorem rS_size (id k : Nat) : (rS id k).size = 8 := by unfold rS; rw [ByteArray.size_append, p4_size, p4_size]
theorem rdN_app (a b : ByteArray) (k : Nat) (h : a.size = k) : rdN (a ++ b) k = numV a.data.toList := by
  unfold rdN
  rw [if_pos (by rw [ByteArray.size_append]; omega), take_data, ext_left a b k h]
theorem rdN_all (a : ByteArray) (k : Nat) (h : a.size = k) : rdN a k = numV a.data.toList := by
  unfold rdN
  rw [if_pos (by omega), List.take_of_length_le (by rw [len_data]; omega)]
theorem rdL_app (a b : ByteArray) (k : Nat) (e : Int) (h : a.size = k) : rdL (a ++ b) e k = b ∧ rdE (a ++ b) e k = e := by
  have hk : k ≤ (a ++ b).size := by rw [ByteArray.size_append]; omega
  exact ⟨by rw [(rd_in hk).1, ext_right a b k _ h rfl], (rd_in hk).2⟩
theorem mS_all (id m : Nat) (hi : id ≤ 4294967295) (hm : m ≤ 65535) : rdN (mS id m) 4 = id ∧ n1 (mS id m) = m ∧ n2 (mS id m) = 0 := by
  unfold mS n1 n2
  rw [(rdL_app _ _ 4 0 (p4_size _)).1, (rdL_app _ _ 4 0 (p4_size _)).2, (rdL_app _ _ 2 0 (p2_size _)).1, rdN_app _ _ 4 (p4_size _), rdN_app _ _ 2 (p2_size _), rdN_all _ 2 (p2_size _), numV_p4 id hi, numV_p2 m hm]
  exact ⟨rfl, rfl, numV_p2 0 (by omega)⟩
theorem rS_all (id k : Nat) (hi : id ≤ 4294967295) (hk : k ≤ 4294967295) : rdN (rS id k) 4 = id ∧ n4 (rS id k) = k := by
  unfold rS n4
  rw [(rdL_app _ _ 4 0 (p4_size _)).1, rdN_app _ _ 4 (p4_size _), rdN_all _ 4 (p4_size _), numV_p4 id hi, numV_p4 k hk]
  exact ⟨rfl, rfl⟩
theorem isM_mS (id m : Nat) (hi : id ≤ 4294967295) (hm : m ≤ 65535) : isM 17 (mS id m) = decide (m ≠ 0) := by
  unfold isM
  rw [(mS_all id m hi hm).2.1, (mS_all id m hi hm).2.2, mS_size]
  simp
theorem isR_rS (id k : Nat) (hi : id ≤ 4294967295) (hk : k ≤ 4294967295) : isR 16 (rS id k) = decide (k = 1 ∨ k = 2) := by
  unfold isR
  rw [(rS_all id k hi hk).2, rS_size]
  simp
theorem szP (t : Int) (s : ByteArray) : (Try.prog.info? 23).map (·.size) = some (#[.int .i64 t, .string s] : Array Value).size := by show _ = some 2; kernel_rfl
theorem more_any (id m : Nat) (hi : id ≤ 4294967295) (hm : m ≤ 65535) (w : World) : Calls Try.prog 16 #[.int .u32 id, .int .i64 m] w fun e w' => e = .returned (.agg #[.int .i64 17, .string (mS id m)]) ∧ Below w.heap.size w w' := by
  have M0 := Blk.new w 23 #[.int .i64 0, .string ⟨#[]⟩]
  have bel0 := (Below.refl w.heap.size w).alloc (Nat.le_refl _) (.cells #[.int .i64 0, .string ⟨#[]⟩] 23)
  have hp2 := p2_size m
  go_enter Try.func16, Try.ntmps16
  go_upto_region 1 with (fail)
  generalize w.alloc (.cells #[.int .i64 0, .string ⟨#[]⟩] 23) = w0 at *
  generalize hx : w.heap.size = x at *
  go_wp2_with fail
  refine (u32_p _ _ (by omega) (by omega)).mono ?_
  rintro e w1 ⟨rfl, hb1⟩
  have M1 := M0.below hb1 M0.lt
  have bel1 := bel0.trans (hb1.mono (by have := M0.lt; omega))
  clear M0 bel0 hb1
  go_wp2_with fail
  refine (u16_p _ _ (by omega) (by omega)).mono ?_
  rintro e w2 ⟨rfl, hb2⟩
  have M2 := M1.below hb2 M1.lt
  have bel2 := bel1.trans (hb2.mono (by have := M1.lt; omega))
  clear M1 bel1 hb2
  go_wp2_with fail
  refine (filled_any _ _ (by omega)).mono ?_
  rintro e w3 ⟨rfl, hb3⟩
  have M3 := M2.below hb3 M2.lt
  have bel3 := bel2.trans (hb3.mono (by have := M2.lt; omega))
  clear M2 bel2 hb3
  rw [fill2 m]
  have hz : (p4 id).size = 4 := p4_size id
  have hz2 : (p2 m ++ p2 0).size = 4 := p2p2_size m 0
  generalize hA : p4 id = A at *
  generalize hC : p2 m ++ p2 0 = C at *
  have f0 : w3.frozen? ⟨x, 0, none⟩ = false := M3.frozen 0
  have f1 : w3.frozen? ⟨x, 1, none⟩ = false := M3.frozen 1
  have c0 : w3.cell? ⟨x, 0, none⟩ = some (.int .i64 0) := M3.cell 0
  have c1 : w3.cell? ⟨x, 1, none⟩ = some (.string ⟨#[]⟩) := M3.cell 1
  go_wp2_with fail
  have M4 := (M3.set_ 0 (.int .i64 17)).set_ 1 (.string (A ++ C))
  have bel4 := (bel3.setCell (p := ⟨x, 0, none⟩) (Nat.le_refl _) (.int .i64 17)).setCell (p := ⟨x, 1, none⟩) (Nat.le_refl _) (.string (A ++ C))
  exact bodyPost_ret (v := .agg #[.int .i64 17, .string (A ++ C)]) (results_cell_at rfl _ _ x 0 #[.int .i64 17, .string (A ++ C)] _ rfl ((Cel.of_blk M4).congr (by simp)) Try.underlying23 rfl (szP _ _)) rfl ⟨by rw [← hA, ← hC]; rfl, by first | exact bel4 | (rw [hx]; exact bel4)⟩
theorem result_any (id k : Nat) (hi : id ≤ 4294967295) (hk : k ≤ 4294967295) (w : World) : Calls Try.prog 18 #[.int .u32 id, .int .i64 k] w fun e w' => e = .returned (.agg #[.int .i64 16, .string (rS id k)]) ∧ Below w.heap.size w w' := by
  have M0 := Blk.new w 23 #[.int .i64 0, .string ⟨#[]⟩]
  have bel0 := (Below.refl w.heap.size w).alloc (Nat.le_refl _) (.cells #[.int .i64 0, .string ⟨#[]⟩] 23)
  go_enter Try.func18, Try.ntmps18
  go_upto_region 1 with (fail)
  generalize w.alloc (.cells #[.int .i64 0, .string ⟨#[]⟩] 23) = w0 at *
  generalize hx : w.heap.size = x at *
  go_wp2_with fail
  refine (u32_p _ _ (by omega) (by omega)).mono ?_
  rintro e w1 ⟨rfl, hb1⟩
  have M1 := M0.below hb1 M0.lt
  have bel1 := bel0.trans (hb1.mono (by have := M0.lt; omega))
  clear M0 bel0 hb1
  go_wp2_with fail
  refine (u32_p _ _ (by omega) (by omega)).mono ?_
  rintro e w3 ⟨rfl, hb2⟩
  have M3 := M1.below hb2 M1.lt
  have bel3 := bel1.trans (hb2.mono (by have := M1.lt; omega))
  clear M1 bel1 hb2
  have hz : (p4 id).size = 4 := p4_size id
  have hz2 : (p4 k).size = 4 := p4_size k
  generalize hA : p4 id = A at *
  generalize hC : p4 k = C at *
  have f0 : w3.frozen? ⟨x, 0, none⟩ = false := M3.frozen 0
  have f1 : w3.frozen? ⟨x, 1, none⟩ = false := M3.frozen 1
  have c0 : w3.cell? ⟨x, 0, none⟩ = some (.int .i64 0) := M3.cell 0
  have c1 : w3.cell? ⟨x, 1, none⟩ = some (.string ⟨#[]⟩) := M3.cell 1
  go_wp2_with fail
  have M4 := (M3.set_ 0 (.int .i64 16)).set_ 1 (.string (A ++ C))
  have bel4 := (bel3.setCell (p := ⟨x, 0, none⟩) (Nat.le_refl _) (.int .i64 16)).setCell (p := ⟨x, 1, none⟩) (Nat.le_refl _) (.string (A ++ C))
  exact bodyPost_ret (v := .agg #[.int .i64 16, .string (A ++ C)]) (results_cell_at rfl _ _ x 0 #[.int .i64 16, .string (A ++ C)] _ rfl ((Cel.of_blk M4).congr (by simp)) Try.underlying23 rfl (szP _ _)) rfl ⟨by rw [← hA, ← hC]; rfl, by first | exact bel4 | (rw [hx]; exact bel4)⟩
/-- The cells of who asks for streams: numbers, how many, how often and when, the last answer. -/
def stL : List Value := [.int .i64 0, .int .i64 0, .int .u32 0, .int .i64 0, .int .i64 0, .int .u32 0, .string ⟨#[]⟩, .int .u32 0, .int .u32 0, .int .i64 0, .int .i64 0, .slice none 0 0, .slice none 0 0, .slice none 0 0, .slice none 0 0, .bool false]
def st (a b : Int) (n t x : Int) : Array Value := #[.int .u32 a, .int .u32 b, .int .i64 n, .int .i64 t, .int .i64 x, .int .i64 0, .int .i64 0, .int .u32 0, .int .i64 0, .int .i64 0, .int .u32 0, .string ⟨#[]⟩, .int .u32 0, .int .u32 0, .int .i64 0, .int .i64 0, .slice none 0 0, .slice none 0 0, .slice none 0 0, .slice none 0 0, .bool false]
theorem new_any (a b : Int) (w : World) : Calls Try.prog 22 #[.int .u32 a, .int .u32 b] w fun e w' => e = .returned (.pointer (some ⟨w.heap.size, 0, none⟩)) ∧ w' = w.alloc (.cells (st a b 0 0 0) 149) := by
  go_enter Try.func22, Try.ntmps22
  go_wp2_with fail
  go_ret
  exact ⟨rfl, rfl⟩
theorem ask_one (g : Nat) (w : World) (B : Blk w g 149 (st 5 9 0 0 0)) : Calls Try.prog 23 #[.pointer (some ⟨g, 0, none⟩), .int .i64 3] w fun e w' => e = .returned (.int .i64 0) ∧ w' = w.setCell ⟨g, 2, none⟩ (.int .i64 3) := by
  have c2 : w.cell? ⟨g, 2, none⟩ = some (.int .i64 0) := B.cell 2
  have f2 : w.frozen? ⟨g, 2, none⟩ = false := B.frozen 2
  go_enter Try.func23, Try.ntmps23
  go_wp2_with fail
  go_ret
  exact ⟨rfl, rfl⟩
theorem want_of (g : Nat) (a b n t x : Int) (w : World) (B : Blk w g 149 (st a b n t x)) : Calls Try.prog 28 #[.pointer (some ⟨g, 0, none⟩)] w fun e w' => e = .returned (.int .i64 n) ∧ w' = w := by
  have c2 : w.cell? ⟨g, 2, none⟩ = some (.int .i64 n) := B.cell 2
  go_enter Try.func28, Try.ntmps28
  go_wp2_with fail
  go_ret
  exact ⟨rfl, rfl⟩
theorem times_of (g : Nat) (a b n t x : Int) (w : World) (B : Blk w g 149 (st a b n t x)) : Calls Try.prog 29 #[.pointer (some ⟨g, 0, none⟩)] w fun e w' => e = .returned (.int .i64 t) ∧ w' = w := by
  have c3 : w.cell? ⟨g, 3, none⟩ = some (.int .i64 t) := B.cell 3
  go_enter Try.func29, Try.ntmps29
  go_wp2_with fail
  go_ret
  exact ⟨rfl, rfl⟩
end Go.Proofs.Ytdocphkpeonldaa.rec_
