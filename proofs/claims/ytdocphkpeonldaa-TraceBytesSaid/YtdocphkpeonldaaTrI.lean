/- Layer 36: acts of any kind one behind the other. -/
import Derived.Test.YtdocphkpeonldaaTrH
import Derived.Test.YtdocphkpeonldaaTrF
namespace Go.Proofs.Ytdocphkpeonldaa.tra
open Go.Sort (grow)
open Go.ChangeShapes Go.WideShapes Go.ChangeAt Go.RowKit kit oct bld
set_option maxRecDepth 100000

theorem szR (r : An) : (Try.prog.info? 63).map (·.size) = some r.cells.size := by show _ = some 9; kernel_rfl
set_option maxHeartbeats 1000000 in
theorem act_all (r : An) (w : World) (hs : r.s.size ≤ 70000) : Calls Try.prog 40 #[.agg r.cells] w fun e w' => e = .returned (.string r.bs) ∧ Below w.heap.size w w' := by
  cases hr : r.ok
  · have hm := fun W => may_all r W (by unfold maxLen; omega)
    rw [hr] at hm
    have hb : r.bs = ByteArray.empty := by unfold An.bs; rw [hr]; rfl
    rw [hb]
    have szz := szR r
    have hone : r.cells.size = 9 := rfl
    clear hr hb
    generalize r.cells = row at *
    have X1 := Blk.new w 63 row
    have bel1 := (Below.refl w.heap.size w).alloc (Nat.le_refl _) (.cells row 63)
    go_enter Try.func40, Try.ntmps40
    go_upto_region 1 with (fail)
    go_wp2_with (refine wpList_load_at rfl 63 _ rfl w.heap.size 0 rfl row _ (Cel.of_blk X1) Try.underlying63 rfl szz ?_)
    refine (hm _).mono ?_
    rintro e w2 ⟨rfl, hb2⟩
    have bel2 := bel1.trans (hb2.mono bel1.size)
    go_wp2_with fail
    go_ret
    exact ⟨rfl, bel2⟩
  · have o := An.ok_iff.1 hr
    have h0 := o.w0
    have h1 := o.w1
    have e := An.rc_cells o
    have hb : r.bs = actS r.rc.wh r.rc.a r.rc.b r.rc.c r.rc.d r.rc.e r.rc.f r.rc.h r.rc.s := by rw [actS_bytes]; unfold An.bs; rw [hr]; rfl
    rw [hb, ← e]
    have k := An.rc_ok o
    exact act36_any r.rc.wh (sg r.rc.a) (sg r.rc.b) (sg r.rc.c) (sg r.rc.d) (sg r.rc.e) (sg r.rc.f) (sg r.rc.h) r.rc.a r.rc.b r.rc.c r.rc.d r.rc.e r.rc.f r.rc.h r.rc.s w k.wh k.s (sg_lo _ k.a) (by have := sg_hi r.rc.a; have := k.a; omega) (sg_mod _ k.a) (sg_lo _ k.b) (by have := sg_hi r.rc.b; have := k.b; omega) (sg_mod _ k.b) (sg_lo _ k.c) (by have := sg_hi r.rc.c; have := k.c; omega) (sg_mod _ k.c) (sg_lo _ k.d) (by have := sg_hi r.rc.d; have := k.d; omega) (sg_mod _ k.d) (sg_lo _ k.e) (by have := sg_hi r.rc.e; have := k.e; omega) (sg_mod _ k.e) (sg_lo _ k.f) (by have := sg_hi r.rc.f; have := k.f; omega) (sg_mod _ k.f) (sg_lo _ k.h) (by have := sg_hi r.rc.h; have := k.h; omega) (sg_mod _ k.h)
def an0 : An := ⟨0, 0, 0, 0, 0, 0, 0, 0, ByteArray.empty⟩
/-- The bytes of acts, without those that may not be. -/
def catA : List An → ByteArray
  | [] => ByteArray.empty
  | r :: l => r.bs ++ catA l
theorem catA_snoc (l : List An) (r : An) : catA (l ++ [r]) = catA l ++ r.bs := by
  induction l with
  | nil => simp [catA]
  | cons q l ih => simp only [List.cons_append, catA, ih, ByteArray.append_assoc]
theorem catA_len (l : List An) (h : ∀ r, r ∈ l → r.s.size ≤ 30) : (catA l).size ≤ l.length * 61 := by
  induction l with
  | nil => simp [catA]
  | cons r l ih =>
    have h1 := An.bs_size r
    have h2 := h r (by simp)
    have h3 := ih (fun q hq => h q (by simp [hq]))
    simp only [catA, ByteArray.size_append, List.length_cons]
    omega
theorem getA_mem {l : List An} {k : Nat} (h : k < l.length) : l.getD k an0 ∈ l := by
  simp [List.getD, List.getElem?_eq_getElem h]
theorem takeA_snoc (l : List An) (k : Nat) (h : k < l.length) : l.take (k + 1) = l.take k ++ [l.getD k an0] := by
  rw [List.take_succ_eq_append_getElem h]
  simp [List.getD, List.getElem?_eq_getElem h]
/-- The acts that may be. -/
def fineA (l : List An) : List Rc := (l.filter An.ok).map An.rc
theorem fineA_snoc (l : List An) (r : An) : fineA (l ++ [r]) = fineA l ++ if r.ok then [r.rc] else [] := by
  unfold fineA
  rw [List.filter_append, List.map_append]
  cases h : r.ok <;> simp [h]
theorem fineA_ok (l : List An) : ∀ q ∈ fineA l, q.Ok := by
  intro q hq
  unfold fineA at hq
  obtain ⟨r, hr, rfl⟩ := List.mem_map.1 hq
  exact An.rc_ok (An.ok_iff.1 (List.mem_filter.1 hr).2)
theorem cat_fine (l : List An) : cat36 (fineA l) = catA l := by
  induction l with
  | nil => rfl
  | cons r l ih =>
    unfold fineA at *
    cases h : r.ok
    · simp only [List.filter_cons, h, catA]
      rw [show r.bs = ByteArray.empty by unfold An.bs; rw [h]; rfl]
      simpa using ih
    · simp only [List.filter_cons, h, catA, if_true, List.map_cons, cat36]
      rw [ih, show r.bs = r.rc.bytes by unfold An.bs; rw [h]; rfl]
set_option maxHeartbeats 4000000 in
theorem put_all (oa : Option Addr) (h cap : Nat) (L : List An) (w : World) (hn : L.length ≤ 30) (hc : L.length ≤ cap) (hcm : cap ≤ maxLen) (hoa : 0 < L.length → oa = some ⟨h, 0, none⟩) (hh : 0 < L.length → h < w.heap.size) (hL : ∀ k, k < L.length → Cel w h (k * 9) (L.getD k an0).cells) (hok : ∀ r, r ∈ L → r.s.size ≤ 30) :
    Calls Try.prog 42 #[.slice oa L.length cap] w fun e w' => e = .returned (.string (catA L)) ∧ Below w.heap.size w w' := by
  unfold maxLen at hcm
  obtain ⟨n, hnl⟩ : ∃ n, L.length = n := ⟨_, rfl⟩
  rw [hnl] at hn hc hoa hh hL ⊢
  have HNL := Lib.hid hnl
  have HL := Lib.hid hL
  have HOK := Lib.hid hok
  clear hnl hL hok
  go_enter Try.func42, Try.ntmps42
  go_wp2_with fail
  go_loopw [8] (fun si wr => ∃ k : Nat, k ≤ n ∧ si = .int .i64 k ∧ IsB w.heap.size w.heap.size (Lib.strCells (catA (L.take k))) wr ∧ Below w.heap.size w wr) (fun si _ => n - (intOf si).toNat)
  case atStart => exact ⟨0, by omega, rfl, Lib.fresh_isBuilder _ _ w, (Below.refl _ _).alloc (Nat.le_refl _) _⟩
  case round =>
    obtain ⟨k, hk, rfl, hI, bel⟩ := hrel
    have HI := Lib.hid hI
    clear hI
    have hB : w.heap.size ≤ wr.heap.size := bel.size
    by_cases hlt : k < n
    · obtain rfl := hoa (by omega)
      have K := (HL.out k hlt).below bel (hh (by omega))
      have hkL : k < L.length := by rw [HNL.out]; exact hlt
      have ho := HOK.out _ (getA_mem hkL)
      have hts : catA (L.take (k + 1)) = catA (L.take k) ++ (L.getD k an0).bs := by rw [takeA_snoc L k hkL, catA_snoc]
      have hln : (Lib.strCells (catA (L.take k))).length ≤ 1830 := by
        rw [Lib.strCells_length]
        have h1 := catA_len (L.take k) (fun r hr => HOK.out r (List.mem_of_mem_take hr))
        have h2 : (L.take k).length ≤ 30 := by simp; omega
        show (catA (L.take k)).size ≤ _
        omega
      have hact := fun W => act_all (L.getD k an0) W (by omega)
      have hbz := An.bs_size (L.getD k an0)
      have szz := szR (L.getD k an0)
      generalize L.getD k an0 = r at *
      have hbz2 : r.bs.size ≤ 61 := by omega
      generalize r.bs = Z at *
      obtain ⟨wh, xa, xb, xc, xd, xe, xf, xq, s⟩ := r
      have K' : Cel wr h (k * 9) #[.int .i64 wh, .int .i64 xa, .int .i64 xb, .int .i64 xc, .int .i64 xd, .int .i64 xe, .int .i64 xf, .int .i64 xq, .string s] := K
      have hact' : ∀ W, Calls Try.prog 40 #[.agg #[.int .i64 wh, .int .i64 xa, .int .i64 xb, .int .i64 xc, .int .i64 xd, .int .i64 xe, .int .i64 xf, .int .i64 xq, .string s]] W fun e w' => e = .returned (.string Z) ∧ Below W.heap.size W w' := hact
      have HCS := Lib.hid hts
      clear hts hkL hbz K hact szz ho
      go_upto_region 5 with (refine wpList_load_at rfl 63 _ rfl h (k * 9) rfl #[.int .i64 wh, .int .i64 xa, .int .i64 xb, .int .i64 xc, .int .i64 xd, .int .i64 xe, .int .i64 xf, .int .i64 xq, .string s] _ K' Try.underlying63 rfl (szA _ _ _ _ _ _ _ _ _) ?_)
      have X1 := Blk.new wr 63 #[.int .i64 wh, .int .i64 xa, .int .i64 xb, .int .i64 xc, .int .i64 xd, .int .i64 xe, .int .i64 xf, .int .i64 xq, .string s]
      have bel1 := bel.alloc hB (.cells #[.int .i64 wh, .int .i64 xa, .int .i64 xb, .int .i64 xc, .int .i64 xd, .int .i64 xe, .int .i64 xf, .int .i64 xq, .string s] 63)
      have HI1 := Lib.hid (IsB_below HI.out ((Below.refl _ _).alloc (Nat.le_refl _) (.cells #[.int .i64 wh, .int .i64 xa, .int .i64 xb, .int .i64 xc, .int .i64 xd, .int .i64 xe, .int .i64 xf, .int .i64 xq, .string s] 63)))
      clear HI K' bel
      generalize wr.alloc (.cells #[.int .i64 wh, .int .i64 xa, .int .i64 xb, .int .i64 xc, .int .i64 xd, .int .i64 xe, .int .i64 xf, .int .i64 xq, .string s] 63) = w1 at *
      go_wp2_with (refine wpList_load_at rfl 63 _ rfl wr.heap.size 0 rfl #[.int .i64 wh, .int .i64 xa, .int .i64 xb, .int .i64 xc, .int .i64 xd, .int .i64 xe, .int .i64 xf, .int .i64 xq, .string s] _ (Cel.of_blk X1) Try.underlying63 rfl (szA _ _ _ _ _ _ _ _ _) ?_)
      refine (hact' _).mono ?_
      rintro e2 w2 ⟨rfl, hb2⟩
      have HI2 := Lib.hid (IsB_below HI1.out hb2)
      have bel2 := bel1.trans (hb2.mono bel1.size)
      clear HI1 bel1 hb2 hact' X1
      go_wp2_with fail
      refine (write_any w.heap.size w.heap.size _ Z w2 HI2.out (by omega) bel2.size).mono ?_
      rintro e3 w3 ⟨rfl, hU3, hb3⟩
      have bel3 := bel2.trans hb3
      have HI3 : Hid (IsB w.heap.size w.heap.size (Lib.strCells (catA (L.take (k + 1)))) w3) := by
        rw [HCS.out, strCells_append]
        exact .inr hU3
      clear HI2 bel2 hb3 hU3
      go_wp2_with fail
      go_roundw
      case rel => exact ⟨k + 1, by omega, by go_num, HI3.out, bel3⟩
      case measure => simp [intOf]; omega
    · obtain rfl : k = n := by omega
      have hq : catA (L.take k) = catA L := by rw [List.take_of_length_le (by rw [HNL.out]; exact Nat.le_refl _)]
      have hS := IsB_string w.heap.size w.heap.size (catA (L.take k)) wr HI.out hB
      rw [hq] at hS
      have HSS := Lib.hid hS
      clear hS hq
      go_wp2_with fail
      refine HSS.out.mono ?_
      rintro e w2 ⟨rfl, hb2⟩
      go_wp2_with fail
      go_ret
      exact ⟨rfl, bel.trans hb2⟩
end Go.Proofs.Ytdocphkpeonldaa.tra
