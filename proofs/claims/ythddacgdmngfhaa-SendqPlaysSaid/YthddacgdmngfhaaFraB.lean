/- Layer 19: a message in parts: what Split gives. -/
import Derived.Test.YthddacgdmngfhaaFraA
namespace Go.Proofs.Ythddacgdmngfhaa.fra
open Go.Sort (grow)
open Go.ChangeShapes Go.WideShapes Go.ChangeAt Go.RowKit kit
set_option maxRecDepth 100000

theorem cells_keep {w w' : World} {g : Nat} {t : TypeId} {cs : Array Value} {row : Option Nat} (B : Blk w g t cs) (hg : w.grownBy w' row) (hr : some g ≠ row) : Blk w' g t cs := (hg.block g B.lt hr).trans B
def strLen : Value → Nat
  | .string s => s.size
  | _ => 0
theorem ne_list (S : ByteArray) (h : 0 < S.size) : S.toList.isEmpty = false := by
  rw [ByteArray.toList_eq, List.isEmpty_eq_false_iff]
  intro e
  have h0 : S.data.toList.length = 0 := by rw [e]; rfl
  have h1 : S.data.toList.length = S.size := by simp
  omega
theorem emp_list (S : ByteArray) (h : S.size = 0) : S.toList.isEmpty = true := by
  rw [ByteArray.toList_eq, List.isEmpty_iff]
  exact List.length_eq_zero_iff.1 (by simpa using h)
/-- What may stand for no chunks. -/
def Emp (v : Value) : Prop := v = .slice none 0 0 ∨ ∃ h cap, v = .slice (some ⟨h, 0, none⟩) 0 cap
/-- The flags of a part: the first one, the last one. -/
def fl (f : Int) (i n : Nat) : Int := if i = 0 then (if i + 1 = n then f + 3 else f + 2) else (if i + 1 = n then f + 1 else f)
/-- So many chunks of a message. -/
def Parts (b0 : Nat) (f st ss pr : Int) (D : ByteArray) (z n : Nat) (v : Value) (w : World) : Prop := (n = 0 ∧ Emp v) ∨ ∃ h cap, v = .slice (some ⟨h, 0, none⟩) n cap ∧ 0 < n ∧ n ≤ cap ∧ cap ≤ maxLen ∧ b0 ≤ h ∧ ∀ i, i < n → Cel w h (i * 15) (ck (fl f i n) st ss pr (D.extract (i * z) (i * z + z)))
/-- All of it, in as few parts as may be. -/
def Splits (b0 : Nat) (f st ss pr : Int) (D : ByteArray) (z : Nat) (e : Ending) (w : World) : Prop := ∃ v n, e = .returned v ∧ Parts b0 f st ss pr D z n v w ∧ (∀ i, i < n → i * z < D.size) ∧ D.size ≤ n * z
/-- One round: the bytes that are left behind it. -/
theorem left_next (D : ByteArray) (a z : Nat) : (D.extract a D.size).extract (min z (D.size - a)) (D.size - a) = D.extract (a + z) D.size := by
  rw [ByteArray.extract_extract]
  rcases Nat.le_total z (D.size - a) with h | h
  · rw [Nat.min_eq_left h]
    congr 1
    omega
  · rw [Nat.min_eq_right h]
    rcases Nat.le_total a D.size with q | q
    · rw [show a + (D.size - a) = D.size by omega, show min D.size D.size = D.size by simp]
      rw [ByteArray.extract_eq_empty_iff.2 (by omega), ByteArray.extract_eq_empty_iff.2 (by omega)]
    · rw [ByteArray.extract_eq_empty_iff.2 (by omega), ByteArray.extract_eq_empty_iff.2 (by omega)]
theorem left_part (D : ByteArray) (a z : Nat) : (D.extract a D.size).extract 0 (min z (D.size - a)) = D.extract a (a + z) := by
  rw [ByteArray.extract_extract]
  apply ByteArray.ext
  simp only [ByteArray.data_extract, Nat.add_zero]
  apply Array.ext'
  simp only [Array.toList_extract, List.extract_eq_take_drop]
  apply List.ext_getElem?
  intro k
  simp only [List.getElem?_take, List.getElem?_drop]
  by_cases hk : a + k < D.size
  · have : D.data.toList.length = D.size := by simp
    by_cases hz : k < z
    · rw [if_pos (by omega), if_pos (by omega)]
    · rw [if_neg (by omega), if_neg (by omega)]
  · have : D.data.toList[a + k]? = none := List.getElem?_eq_none (by simp at *; omega)
    rw [this]
    simp
set_option maxHeartbeats 4000000 in
theorem split_pos_false (b0 z : Nat) (st ss pr size : Int) (D : ByteArray) (hz : 1 < size) (hs : size = z) (hz2 : size ≤ 9223372036854775807) (hD : D.size ≤ 100000) (w : World) (hb : b0 ≤ w.heap.size) :
    Calls Try.prog 21 #[.agg (ms st ss false pr D), .int .i64 size] w fun e w' => Splits w.heap.size 0 st ss pr D z e w' ∧ Below w.heap.size w w' := by
  have HZ := Lib.hid hs
  clear hs
  have N1 := Blk.new w 30 (ms st ss false pr D)
  have bel1 := (Below.refl w.heap.size w).alloc (Nat.le_refl _) (.cells (ms st ss false pr D) 30)
  have hs1 : (w.alloc (.cells (ms st ss false pr D) 30)).heap.size = w.heap.size + 1 := by simp
  have HS1 := Lib.hid hs1
  clear hs1
  go_enter Try.func21, Try.ntmps21
  go_wp2_with fail
  generalize w.alloc (.cells (ms st ss false pr D) 30) = w1 at *
  go_loopw [6, 7] (fun s6 s7 wr => ∃ (k : Nat) (v : Value) (T : ByteArray), k ≤ D.size ∧ (∀ i, i < k → i * z < D.size) ∧ T = D.extract (k * z) D.size ∧ s7 = .string T ∧ v = s6 ∧ wr.ownsRow (w.heap.size + 1) 40 15 v k (rows 0 st ss pr D z k) ∧ Blk wr w.heap.size 30 (ms st ss false pr D) ∧ Below w.heap.size w wr) (fun _ s7 _ => strLen s7)
  case atStart => exact ⟨0, _, D, by omega, by intro i hi; omega, by simp, rfl, rfl, World.ownsRow_nil _ _ _ _, N1, bel1⟩
  case round =>
    clear N1 bel1
    obtain ⟨k, v, T, hk, hki, hT, rfl, rfl, own, N, bel⟩ := hrel
    have HO := Lib.hid own
    have HK := Lib.hid hki
    have HT := Lib.hid hT
    have hTs : T.size = D.size - k * z := by rw [hT]; simp
    have HTS := Lib.hid hTs
    clear own hki hT hTs
    by_cases hlt : k * z < D.size
    · have t1 : 0 < T.size := by rw [HTS.out]; omega
      have t2 : T.toList.isEmpty = false := ne_list T t1
      obtain ⟨m, hm⟩ : ∃ m : Nat, m = min z T.size := ⟨_, rfl⟩
      have hmT : m ≤ T.size := by omega
      have hm1 : 1 ≤ m := by have := HZ.out; omega
      obtain ⟨P, hP⟩ : ∃ P, T.extract 0 m = P := ⟨_, rfl⟩
      have hPD : P = D.extract (k * z) (k * z + z) := by rw [← hP, hm, HTS.out, HT.out]; exact left_part D (k * z) z
      have hN : T.extract m T.size = D.extract ((k + 1) * z) D.size := by rw [hm, HTS.out, HT.out, Nat.succ_mul]; exact left_next D (k * z) z
      have HPD := Lib.hid hPD
      have HN := Lib.hid hN
      have HM := Lib.hid hm
      have TB : T.size ≤ 100000 := by rw [HTS.out]; omega
      clear hPD hN hm
      go_upto_region 8 with (fail)
      go_cut [8] (fun s8 wx => s8 = .int .i64 (m : Nat) ∧ wx = wr)
      case first =>
        have hmm := HM.out
        have hzz := HZ.out
        by_cases hq : (T.size : Int) < size
        · have hx : m = T.size := by omega
          have HX := Lib.hid hx
          clear hx hmm hzz
          go_wp2_with fail
          go_meet
          exact ⟨by rw [HX.out], rfl⟩
        · have hx : size = (m : Int) := by omega
          have HX := Lib.hid hx
          clear hx hmm hzz
          go_wp2_with fail
          go_meet
          exact ⟨by rw [← HX.out], rfl⟩
      case rest =>
      obtain ⟨rfl, rfl⟩ := hcut
      obtain ⟨i0, hi, hz0, hz1, hz2x⟩ := info_parts infoCb
      have c0 : wc.cell? ⟨w.heap.size, 0, none⟩ = some (.int .i64 st) := N.cell 0
      have c1 : wc.cell? ⟨w.heap.size, 1, none⟩ = some (.int .i64 ss) := N.cell 1
      have c3 : wc.cell? ⟨w.heap.size, 3, none⟩ = some (.int .u32 pr) := N.cell 3
      have hlw := N.lt
      have hge : some w.heap.size ≠ v.ownBlock := fun q => by have := own_ge HO.out _ q.symm; omega
      have al := (Below.refl wc.heap.size wc).alloc (Nat.le_refl _) (.cells (ck 0 st ss pr P) 40)
      have own4 := Lib.hid (own_all (w' := (wc.alloc (.cells (ck 0 st ss pr P) 40)).drew) HO.out al.drew)
      have h63 : k + 1 ≤ maxLen := by unfold maxLen; omega
      have hbs : w.heap.size + 1 ≤ wc.heap.size := by omega
      go_upto_region 9 with (fail)
      go_region_held3 (fun w' => w'.cell? ⟨w.heap.size, 0, none⟩ = some (.int .i64 st) ∧ w'.cell? ⟨w.heap.size, 1, none⟩ = some (.int .i64 ss) ∧ w'.cell? ⟨w.heap.size, 3, none⟩ = some (.int .u32 pr))
        (first
          | go_keep
          | (go_split_ands
             refine ⟨?_, ?_, ?_⟩
             · (rw [hgrow.cell_far _ (by simp; omega) hge]; assumption)
             · (rw [hgrow.cell_far _ (by simp; omega) hge]; assumption)
             · (rw [hgrow.cell_far _ (by simp; omega) hge]; assumption)))
        ((refine step_append_lies _ (by rfl) _ _ _ (by rfl) (w.heap.size + 1) 40 i0 (.agg (ck 0 0 0 0 ⟨#[]⟩)) 15 184 Try.underlying26 hi hz0 hz1 hz2x (by rfl) (by decide) v k (rows 0 st ss pr D z k) (by rfl) own4.out ⟨wc.heap.size, 0, none⟩ 1 1 (ck 0 st ss pr P).toList (by rfl) (by rfl) (World.news_of_block (cs := ck 0 st ss pr P) (heap_alloc_new _ _)) (fun x hx => (Array.all_eq_true_iff_forall_mem.1 (ck_one 0 st ss pr P)) x (by simpa using hx)) (by omega) h63 (by omega) (by simp; omega) (wc.heap.size + 1) (by simp) ?_; intro h2 cap2 w8 hown8 hgrow hat hlt))
      have bel8 : Below w.heap.size w w8 := ((bel.alloc bel.size _).drew).grown hgrow (by simp; omega) (fun k hk => by have := own_ge HO.out k hk; omega)
      have N8 : Blk w8 w.heap.size 30 (ms st ss false pr D) := (hgrow.block _ (by simp; omega) hge).trans (N.alloc _)
      have hown9 : w8.ownsRow (w.heap.size + 1) 40 15 (.slice (some ⟨h2, 0, none⟩) (k + 1) cap2) (k + 1) (rows 0 st ss pr D z (k + 1)) := by rw [rows_succ, ← HPD.out]; exact hown8
      have HO9 := Lib.hid hown9
      clear hown8 hown9 own4 hgrow hat c0 c1 c3
      go_wp2_with fail
      go_roundw
      case rel =>
        have hzp : 0 < z := by have := HZ.out; omega
        have hkz : k ≤ k * z := Nat.le_mul_of_pos_right k hzp
        have hall : ∀ i, i < k + 1 → i * z < D.size := by
          intro i hi
          rcases Nat.lt_or_ge i k with q | q
          · exact HK.out i q
          · obtain rfl : i = k := by omega
            exact hlt
        exact ⟨k + 1, _, _, by omega, hall, HN.out, rfl, rfl, HO9.out, N8, bel8⟩
      case measure => simp [strLen]; omega
    · have t2 : T.toList.isEmpty = true := emp_list T (by rw [HTS.out]; omega)
      rcases HO.out.2 with ⟨rfl, hk0⟩ | ⟨h, cap, cur, rfl, hbh, hg, hkc, hcm, hcs, _⟩
      · clear HT HTS
        go_wp2_with fail
        go_ret
        exact ⟨⟨_, k, rfl, Or.inl ⟨hk0, Or.inl rfl⟩, HK.out, by omega⟩, bel⟩
      · clear hg
        by_cases hk0 : k = 0
        · subst hk0
          clear HT HTS
          go_wp2_with fail
          go_ret
          exact ⟨⟨_, 0, rfl, Or.inl ⟨rfl, Or.inr ⟨h, cap, rfl⟩⟩, HK.out, by omega⟩, bel⟩
        · have K : Cel wr h 0 (rows 0 st ss pr D z k).toArray := Cel.of_owns HO.out
          obtain ⟨j, rfl⟩ : ∃ j, k = j + 1 := ⟨k - 1, by omega⟩
          have K0 := rows_cel K 0 (by omega)
          have KA : ∀ i, i < j + 1 → Cel wr h (i * 15) (ck 0 st ss pr (D.extract (i * z) (i * z + z))) := fun i hi => rows_cel K i hi
          have HKA := Lib.hid KA
          have e0 : wr.cell? ⟨h, 1, none⟩ = some (.int .i64 0) := by have := K0.cell 1 (u := .int .i64 0) rfl; simpa using this
          have f0 : wr.frozen? ⟨h, 1, none⟩ = false := by have := K0.frozen 1 (by show 1 < 15; omega); simpa using this
          unfold maxLen at hcm
          clear HT HTS HO K K0 KA
          have b1 : bits .or .i64 0 2 = 2 := by kernel_rfl
          have b2 : bits .or .i64 2 1 = 3 := by kernel_rfl
          have b3 : bits .or .i64 0 1 = 1 := by kernel_rfl
          go_upto_region 13 with (fail)
          have bel2 : Below w.heap.size w (wr.setCell ⟨h, 1, none⟩ (.int .i64 2)) := bel.setCell (p := ⟨h, 1, none⟩) (by show w.heap.size ≤ h; omega) _
          have A2 : Cel (wr.setCell ⟨h, 1, none⟩ (.int .i64 2)) h 0 (ck 2 st ss pr (D.extract (0 * z) (0 * z + z))) := by
            have q := (HKA.out 0 (by omega)).set_ 1 (.int .i64 2)
            simpa [ck] using q
          have R2 : ∀ i, 0 < i → i < j + 1 → Cel (wr.setCell ⟨h, 1, none⟩ (.int .i64 2)) h (i * 15) (ck 0 st ss pr (D.extract (i * z) (i * z + z))) := fun i hi0 hi => by
            have q := (HKA.out i hi).setCells_apart 1 [.int .i64 2] (.inr (by simp; omega))
            simpa [World.setCells] using q
          have HR2 := Lib.hid R2
          clear R2 e0 f0 HKA bel
          generalize wr.setCell ⟨h, 1, none⟩ (.int .i64 2) = w2 at *
          have hDn : D.size ≤ (j + 1) * z := by omega
          have HDN := Lib.hid hDn
          clear hDn hlt
          by_cases hj : j = 0
          · subst hj
            have c2 : w2.cell? ⟨h, 1, none⟩ = some (.int .i64 2) := by have := A2.cell 1 (u := .int .i64 2) rfl; simpa using this
            have f2 : w2.frozen? ⟨h, 1, none⟩ = false := by have := A2.frozen 1 (by show 1 < 15; omega); simpa using this
            go_wp2_with fail
            go_ret
            refine ⟨⟨_, 1, rfl, Or.inr ⟨h, cap, rfl, by omega, by omega, by unfold maxLen; omega, by omega, fun i hi => ?_⟩, HK.out, HDN.out⟩, bel2.setCell (p := ⟨h, 1, none⟩) (by show w.heap.size ≤ h; omega) _⟩
            obtain rfl : i = 0 := by omega
            have q := A2.set_ 1 (.int .i64 3)
            simpa [ck, fl] using q
          · have RJ := HR2.out j (by omega) (by omega)
            have c2 : w2.cell? ⟨h, j * 15 + 1, none⟩ = some (.int .i64 0) := RJ.cell 1 (u := .int .i64 0) rfl
            have f2 : w2.frozen? ⟨h, j * 15 + 1, none⟩ = false := RJ.frozen 1 (by show 1 < 15; omega)
            go_wp2_with fail
            go_ret
            refine ⟨⟨_, j + 1, rfl, Or.inr ⟨h, cap, rfl, by omega, by omega, by unfold maxLen; omega, by omega, fun i hi => ?_⟩, HK.out, HDN.out⟩, bel2.setCell (p := ⟨h, j * 15 + 1, none⟩) (by show w.heap.size ≤ h; omega) _⟩
            rcases Nat.eq_zero_or_pos i with rfl | hi0
            · have q := A2.setCells_apart (j * 15 + 1) [.int .i64 1] (.inl (by show 0 + 15 ≤ j * 15 + 1; omega))
              have e : fl 0 0 (j + 1) = 2 := by unfold fl; rw [if_pos rfl, if_neg (by omega)]; rfl
              rw [e]
              simpa [World.setCells] using q
            · by_cases hij : i = j
              · subst hij
                have q := RJ.set_ 1 (.int .i64 1)
                have e : fl 0 i (i + 1) = 1 := by unfold fl; rw [if_neg (by omega), if_pos rfl]; rfl
                rw [e]
                simpa [ck] using q
              · have q := (HR2.out i hi0 hi).setCells_apart (j * 15 + 1) [.int .i64 1] (.inl (by show i * 15 + 15 ≤ j * 15 + 1; omega))
                have e : fl 0 i (j + 1) = 0 := by unfold fl; rw [if_neg (by omega), if_neg (by omega)]
                rw [e]
                simpa [World.setCells] using q
set_option maxHeartbeats 4000000 in
theorem split_pos_true (b0 z : Nat) (st ss pr size : Int) (D : ByteArray) (hz : 1 < size) (hs : size = z) (hz2 : size ≤ 9223372036854775807) (hD : D.size ≤ 100000) (w : World) (hb : b0 ≤ w.heap.size) :
    Calls Try.prog 21 #[.agg (ms st ss true pr D), .int .i64 size] w fun e w' => Splits w.heap.size 4 st ss pr D z e w' ∧ Below w.heap.size w w' := by
  have HZ := Lib.hid hs
  clear hs
  have N1 := Blk.new w 30 (ms st ss true pr D)
  have bel1 := (Below.refl w.heap.size w).alloc (Nat.le_refl _) (.cells (ms st ss true pr D) 30)
  have hs1 : (w.alloc (.cells (ms st ss true pr D) 30)).heap.size = w.heap.size + 1 := by simp
  have HS1 := Lib.hid hs1
  clear hs1
  go_enter Try.func21, Try.ntmps21
  go_wp2_with fail
  generalize w.alloc (.cells (ms st ss true pr D) 30) = w1 at *
  go_loopw [6, 7] (fun s6 s7 wr => ∃ (k : Nat) (v : Value) (T : ByteArray), k ≤ D.size ∧ (∀ i, i < k → i * z < D.size) ∧ T = D.extract (k * z) D.size ∧ s7 = .string T ∧ v = s6 ∧ wr.ownsRow (w.heap.size + 1) 40 15 v k (rows 4 st ss pr D z k) ∧ Blk wr w.heap.size 30 (ms st ss true pr D) ∧ Below w.heap.size w wr) (fun _ s7 _ => strLen s7)
  case atStart => exact ⟨0, _, D, by omega, by intro i hi; omega, by simp, rfl, rfl, World.ownsRow_nil _ _ _ _, N1, bel1⟩
  case round =>
    clear N1 bel1
    obtain ⟨k, v, T, hk, hki, hT, rfl, rfl, own, N, bel⟩ := hrel
    have HO := Lib.hid own
    have HK := Lib.hid hki
    have HT := Lib.hid hT
    have hTs : T.size = D.size - k * z := by rw [hT]; simp
    have HTS := Lib.hid hTs
    clear own hki hT hTs
    by_cases hlt : k * z < D.size
    · have t1 : 0 < T.size := by rw [HTS.out]; omega
      have t2 : T.toList.isEmpty = false := ne_list T t1
      obtain ⟨m, hm⟩ : ∃ m : Nat, m = min z T.size := ⟨_, rfl⟩
      have hmT : m ≤ T.size := by omega
      have hm1 : 1 ≤ m := by have := HZ.out; omega
      obtain ⟨P, hP⟩ : ∃ P, T.extract 0 m = P := ⟨_, rfl⟩
      have hPD : P = D.extract (k * z) (k * z + z) := by rw [← hP, hm, HTS.out, HT.out]; exact left_part D (k * z) z
      have hN : T.extract m T.size = D.extract ((k + 1) * z) D.size := by rw [hm, HTS.out, HT.out, Nat.succ_mul]; exact left_next D (k * z) z
      have HPD := Lib.hid hPD
      have HN := Lib.hid hN
      have HM := Lib.hid hm
      have TB : T.size ≤ 100000 := by rw [HTS.out]; omega
      clear hPD hN hm
      go_upto_region 8 with (fail)
      go_cut [8] (fun s8 wx => s8 = .int .i64 (m : Nat) ∧ wx = wr)
      case first =>
        have hmm := HM.out
        have hzz := HZ.out
        by_cases hq : (T.size : Int) < size
        · have hx : m = T.size := by omega
          have HX := Lib.hid hx
          clear hx hmm hzz
          go_wp2_with fail
          go_meet
          exact ⟨by rw [HX.out], rfl⟩
        · have hx : size = (m : Int) := by omega
          have HX := Lib.hid hx
          clear hx hmm hzz
          go_wp2_with fail
          go_meet
          exact ⟨by rw [← HX.out], rfl⟩
      case rest =>
      obtain ⟨rfl, rfl⟩ := hcut
      obtain ⟨i0, hi, hz0, hz1, hz2x⟩ := info_parts infoCb
      have c0 : wc.cell? ⟨w.heap.size, 0, none⟩ = some (.int .i64 st) := N.cell 0
      have c1 : wc.cell? ⟨w.heap.size, 1, none⟩ = some (.int .i64 ss) := N.cell 1
      have c3 : wc.cell? ⟨w.heap.size, 3, none⟩ = some (.int .u32 pr) := N.cell 3
      have hlw := N.lt
      have hge : some w.heap.size ≠ v.ownBlock := fun q => by have := own_ge HO.out _ q.symm; omega
      have al := (Below.refl wc.heap.size wc).alloc (Nat.le_refl _) (.cells (ck 4 st ss pr P) 40)
      have own4 := Lib.hid (own_all (w' := (wc.alloc (.cells (ck 4 st ss pr P) 40)).drew) HO.out al.drew)
      have h63 : k + 1 ≤ maxLen := by unfold maxLen; omega
      have hbs : w.heap.size + 1 ≤ wc.heap.size := by omega
      go_upto_region 9 with (fail)
      go_region_held3 (fun w' => w'.cell? ⟨w.heap.size, 0, none⟩ = some (.int .i64 st) ∧ w'.cell? ⟨w.heap.size, 1, none⟩ = some (.int .i64 ss) ∧ w'.cell? ⟨w.heap.size, 3, none⟩ = some (.int .u32 pr))
        (first
          | go_keep
          | (go_split_ands
             refine ⟨?_, ?_, ?_⟩
             · (rw [hgrow.cell_far _ (by simp; omega) hge]; assumption)
             · (rw [hgrow.cell_far _ (by simp; omega) hge]; assumption)
             · (rw [hgrow.cell_far _ (by simp; omega) hge]; assumption)))
        ((refine step_append_lies _ (by rfl) _ _ _ (by rfl) (w.heap.size + 1) 40 i0 (.agg (ck 0 0 0 0 ⟨#[]⟩)) 15 184 Try.underlying26 hi hz0 hz1 hz2x (by rfl) (by decide) v k (rows 4 st ss pr D z k) (by rfl) own4.out ⟨wc.heap.size, 0, none⟩ 1 1 (ck 4 st ss pr P).toList (by rfl) (by rfl) (World.news_of_block (cs := ck 4 st ss pr P) (heap_alloc_new _ _)) (fun x hx => (Array.all_eq_true_iff_forall_mem.1 (ck_one 4 st ss pr P)) x (by simpa using hx)) (by omega) h63 (by omega) (by simp; omega) (wc.heap.size + 1) (by simp) ?_; intro h2 cap2 w8 hown8 hgrow hat hlt))
      have bel8 : Below w.heap.size w w8 := ((bel.alloc bel.size _).drew).grown hgrow (by simp; omega) (fun k hk => by have := own_ge HO.out k hk; omega)
      have N8 : Blk w8 w.heap.size 30 (ms st ss true pr D) := (hgrow.block _ (by simp; omega) hge).trans (N.alloc _)
      have hown9 : w8.ownsRow (w.heap.size + 1) 40 15 (.slice (some ⟨h2, 0, none⟩) (k + 1) cap2) (k + 1) (rows 4 st ss pr D z (k + 1)) := by rw [rows_succ, ← HPD.out]; exact hown8
      have HO9 := Lib.hid hown9
      clear hown8 hown9 own4 hgrow hat c0 c1 c3
      go_wp2_with fail
      go_roundw
      case rel =>
        have hzp : 0 < z := by have := HZ.out; omega
        have hkz : k ≤ k * z := Nat.le_mul_of_pos_right k hzp
        have hall : ∀ i, i < k + 1 → i * z < D.size := by
          intro i hi
          rcases Nat.lt_or_ge i k with q | q
          · exact HK.out i q
          · obtain rfl : i = k := by omega
            exact hlt
        exact ⟨k + 1, _, _, by omega, hall, HN.out, rfl, rfl, HO9.out, N8, bel8⟩
      case measure => simp [strLen]; omega
    · have t2 : T.toList.isEmpty = true := emp_list T (by rw [HTS.out]; omega)
      rcases HO.out.2 with ⟨rfl, hk0⟩ | ⟨h, cap, cur, rfl, hbh, hg, hkc, hcm, hcs, _⟩
      · clear HT HTS
        go_wp2_with fail
        go_ret
        exact ⟨⟨_, k, rfl, Or.inl ⟨hk0, Or.inl rfl⟩, HK.out, by omega⟩, bel⟩
      · clear hg
        by_cases hk0 : k = 0
        · subst hk0
          clear HT HTS
          go_wp2_with fail
          go_ret
          exact ⟨⟨_, 0, rfl, Or.inl ⟨rfl, Or.inr ⟨h, cap, rfl⟩⟩, HK.out, by omega⟩, bel⟩
        · have K : Cel wr h 0 (rows 4 st ss pr D z k).toArray := Cel.of_owns HO.out
          obtain ⟨j, rfl⟩ : ∃ j, k = j + 1 := ⟨k - 1, by omega⟩
          have K0 := rows_cel K 0 (by omega)
          have KA : ∀ i, i < j + 1 → Cel wr h (i * 15) (ck 4 st ss pr (D.extract (i * z) (i * z + z))) := fun i hi => rows_cel K i hi
          have HKA := Lib.hid KA
          have e0 : wr.cell? ⟨h, 1, none⟩ = some (.int .i64 4) := by have := K0.cell 1 (u := .int .i64 4) rfl; simpa using this
          have f0 : wr.frozen? ⟨h, 1, none⟩ = false := by have := K0.frozen 1 (by show 1 < 15; omega); simpa using this
          unfold maxLen at hcm
          clear HT HTS HO K K0 KA
          have b1 : bits .or .i64 4 2 = 6 := by kernel_rfl
          have b2 : bits .or .i64 6 1 = 7 := by kernel_rfl
          have b3 : bits .or .i64 4 1 = 5 := by kernel_rfl
          go_upto_region 13 with (fail)
          have bel2 : Below w.heap.size w (wr.setCell ⟨h, 1, none⟩ (.int .i64 6)) := bel.setCell (p := ⟨h, 1, none⟩) (by show w.heap.size ≤ h; omega) _
          have A2 : Cel (wr.setCell ⟨h, 1, none⟩ (.int .i64 6)) h 0 (ck 6 st ss pr (D.extract (0 * z) (0 * z + z))) := by
            have q := (HKA.out 0 (by omega)).set_ 1 (.int .i64 6)
            simpa [ck] using q
          have R2 : ∀ i, 0 < i → i < j + 1 → Cel (wr.setCell ⟨h, 1, none⟩ (.int .i64 6)) h (i * 15) (ck 4 st ss pr (D.extract (i * z) (i * z + z))) := fun i hi0 hi => by
            have q := (HKA.out i hi).setCells_apart 1 [.int .i64 6] (.inr (by simp; omega))
            simpa [World.setCells] using q
          have HR2 := Lib.hid R2
          clear R2 e0 f0 HKA bel
          generalize wr.setCell ⟨h, 1, none⟩ (.int .i64 6) = w2 at *
          have hDn : D.size ≤ (j + 1) * z := by omega
          have HDN := Lib.hid hDn
          clear hDn hlt
          by_cases hj : j = 0
          · subst hj
            have c2 : w2.cell? ⟨h, 1, none⟩ = some (.int .i64 6) := by have := A2.cell 1 (u := .int .i64 6) rfl; simpa using this
            have f2 : w2.frozen? ⟨h, 1, none⟩ = false := by have := A2.frozen 1 (by show 1 < 15; omega); simpa using this
            go_wp2_with fail
            go_ret
            refine ⟨⟨_, 1, rfl, Or.inr ⟨h, cap, rfl, by omega, by omega, by unfold maxLen; omega, by omega, fun i hi => ?_⟩, HK.out, HDN.out⟩, bel2.setCell (p := ⟨h, 1, none⟩) (by show w.heap.size ≤ h; omega) _⟩
            obtain rfl : i = 0 := by omega
            have q := A2.set_ 1 (.int .i64 7)
            simpa [ck, fl] using q
          · have RJ := HR2.out j (by omega) (by omega)
            have c2 : w2.cell? ⟨h, j * 15 + 1, none⟩ = some (.int .i64 4) := RJ.cell 1 (u := .int .i64 4) rfl
            have f2 : w2.frozen? ⟨h, j * 15 + 1, none⟩ = false := RJ.frozen 1 (by show 1 < 15; omega)
            go_wp2_with fail
            go_ret
            refine ⟨⟨_, j + 1, rfl, Or.inr ⟨h, cap, rfl, by omega, by omega, by unfold maxLen; omega, by omega, fun i hi => ?_⟩, HK.out, HDN.out⟩, bel2.setCell (p := ⟨h, j * 15 + 1, none⟩) (by show w.heap.size ≤ h; omega) _⟩
            rcases Nat.eq_zero_or_pos i with rfl | hi0
            · have q := A2.setCells_apart (j * 15 + 1) [.int .i64 5] (.inl (by show 0 + 15 ≤ j * 15 + 1; omega))
              have e : fl 4 0 (j + 1) = 6 := by unfold fl; rw [if_pos rfl, if_neg (by omega)]; rfl
              rw [e]
              simpa [World.setCells] using q
            · by_cases hij : i = j
              · subst hij
                have q := RJ.set_ 1 (.int .i64 5)
                have e : fl 4 i (i + 1) = 5 := by unfold fl; rw [if_neg (by omega), if_pos rfl]; rfl
                rw [e]
                simpa [ck] using q
              · have q := (HR2.out i hi0 hi).setCells_apart (j * 15 + 1) [.int .i64 5] (.inl (by show i * 15 + 15 ≤ j * 15 + 1; omega))
                have e : fl 4 i (j + 1) = 4 := by unfold fl; rw [if_neg (by omega), if_neg (by omega)]
                rw [e]
                simpa [World.setCells] using q
end Go.Proofs.Ythddacgdmngfhaa.fra
