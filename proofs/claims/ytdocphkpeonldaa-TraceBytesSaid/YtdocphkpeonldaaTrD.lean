/- Layer 36: acts one behind the other. -/
import Derived.Test.YtdocphkpeonldaaTrC
import Derived.Test.YtdocphkpeonldaaBld
namespace Go.Proofs.Ytdocphkpeonldaa.tra
open Go.Sort (grow)
open Go.ChangeShapes Go.WideShapes Go.ChangeAt Go.RowKit kit oct bld
set_option maxRecDepth 100000

theorem strCells_append (s t : ByteArray) : Lib.strCells (s ++ t) = Lib.strCells s ++ Lib.strCells t := by
  unfold Lib.strCells
  rw [← List.map_append]
  simp
theorem below_grown {w w' : World} (h : Below w.heap.size w w') : w.grownBy w' none := ⟨h.os, h.tape, h.output, h.size, fun k hk _ => h.block k hk⟩
theorem BAt_below {p : Value} {B b : Nat} {bs : List Value} {w w' : World} (h : Lib.BuilderAt 172 5 B b p bs w) (hb : Below w.heap.size w w') : Lib.BuilderAt 172 5 B b p bs w' := by
  obtain ⟨h1, v, hk, hown, hne⟩ := h
  have K : Blk w b 172 #[p, v] := hk
  exact ⟨h1, v, K.below hb K.lt, hown.kept (below_grown hb) (by cases v.ownBlock <;> simp), hne⟩
theorem IsB_below {B b : Nat} {bs : List Value} {w w' : World} (h : IsB B b bs w) (hb : Below w.heap.size w w') : IsB B b bs w' := h.imp (fun h => BAt_below h hb) (fun h => BAt_below h hb)
theorem IsB_string (B b : Nat) (s : ByteArray) (w : World) (h : IsB B b (Lib.strCells s) w) (hB : B ≤ w.heap.size) :
    Calls Try.prog 98 #[.pointer (some ⟨b, 0, none⟩)] w fun e w' => e = .returned (.string s) ∧ Below B w w' := by
  have := Try.Builder_String_any B b s.data.toList w h hB
  simpa using this

def rc0 : Rc := ⟨0, 0, 0, 0, 0, 0, 0, 0, ByteArray.empty⟩
def cat36 : List Rc → ByteArray
  | [] => ByteArray.empty
  | r :: l => r.bytes ++ cat36 l
theorem cat36_snoc (l : List Rc) (r : Rc) : cat36 (l ++ [r]) = cat36 l ++ r.bytes := by
  induction l with
  | nil => simp [cat36]
  | cons q l ih => simp only [List.cons_append, cat36, ih, ByteArray.append_assoc]
theorem p1_size (n : Int) : (p1 n).size = 1 := by unfold p1; rw [strOfNums_size]; rfl
theorem bytes_size (r : Rc) : r.bytes.size = 31 + r.s.size := by
  unfold Rc.bytes
  simp only [ByteArray.size_append, p1_size, p4_size, p2_size]
  omega
theorem actS_bytes (r : Rc) : actS r.wh r.a r.b r.c r.d r.e r.f r.h r.s = r.bytes := by
  unfold actS Rc.bytes
  rw [ByteArray.append_assoc]
theorem cat36_len (l : List Rc) (h : ∀ r, r ∈ l → r.Ok) : (cat36 l).size ≤ l.length * 70000 := by
  induction l with
  | nil => simp [cat36]
  | cons r l ih =>
    have h1 := bytes_size r
    have h2 := (h r (by simp)).s
    have h3 := ih (fun q hq => h q (by simp [hq]))
    simp only [cat36, ByteArray.size_append, List.length_cons]
    omega
theorem getD_mem {l : List Rc} {k : Nat} (h : k < l.length) : l.getD k rc0 ∈ l := by
  simp [List.getD, List.getElem?_eq_getElem h]
theorem take_snoc (l : List Rc) (k : Nat) (h : k < l.length) : l.take (k + 1) = l.take k ++ [l.getD k rc0] := by
  rw [List.take_succ_eq_append_getElem h]
  simp [List.getD, List.getElem?_eq_getElem h]
theorem szB : True := trivial
set_option maxHeartbeats 4000000 in
theorem put36_any (oa : Option Addr) (h cap : Nat) (L : List Rc) (w : World) (hn : L.length ≤ 60) (hc : L.length ≤ cap) (hcm : cap ≤ maxLen) (hoa : 0 < L.length → oa = some ⟨h, 0, none⟩) (hh : 0 < L.length → h < w.heap.size) (hL : ∀ k, k < L.length → Cel w h (k * 9) (L.getD k rc0).cells) (hok : ∀ r, r ∈ L → r.Ok) :
    Calls Try.prog 42 #[.slice oa L.length cap] w fun e w' => e = .returned (.string (cat36 L)) ∧ Below w.heap.size w w' := by
  unfold maxLen at hcm
  obtain ⟨n, hnl⟩ : ∃ n, L.length = n := ⟨_, rfl⟩
  rw [hnl] at hn hc hoa hh hL ⊢
  have HNL := Lib.hid hnl
  have HL := Lib.hid hL
  have HOK := Lib.hid hok
  clear hnl hL hok
  go_enter Try.func42, Try.ntmps42
  go_wp2_with fail
  go_loopw [8] (fun si wr => ∃ k : Nat, k ≤ n ∧ si = .int .i64 k ∧ IsB w.heap.size w.heap.size (Lib.strCells (cat36 (L.take k))) wr ∧ Below w.heap.size w wr) (fun si _ => n - (intOf si).toNat)
  case atStart => exact ⟨0, by omega, rfl, Lib.fresh_isBuilder _ _ w, (Below.refl _ _).alloc (Nat.le_refl _) _⟩
  case round =>
    obtain ⟨k, hk, rfl, hI, bel⟩ := hrel
    have HI := Lib.hid hI
    clear hI
    have hB : w.heap.size ≤ wr.heap.size := bel.size
    by_cases hlt : k < n
    · obtain rfl := hoa (by omega)
      have K := (HL.out k hlt).below bel (hh (by omega))
      have hkL : k < L.length := by rw [HNL.out]; exact hlt
      have ho := HOK.out _ (getD_mem hkL)
      have hts : cat36 (L.take (k + 1)) = cat36 (L.take k) ++ (L.getD k rc0).bytes := by rw [take_snoc L k hkL, cat36_snoc]
      have hln : (Lib.strCells (cat36 (L.take k))).length ≤ 60 * 70000 := by
        rw [Lib.strCells_length]
        have h1 := cat36_len (L.take k) (fun r hr => HOK.out r (List.mem_of_mem_take hr))
        have h2 : (L.take k).length ≤ k := by simp; omega
        have h3 : (L.take k).length * 70000 ≤ 60 * 70000 := Nat.mul_le_mul_right _ (Nat.le_trans h2 (by omega))
        exact Nat.le_trans h1 h3
      have hbs := actS_bytes (L.getD k rc0)
      rcases hr : L.getD k rc0 with ⟨wh, a, b, c, d, e, f, q, s⟩
      rw [hr] at K ho hts hbs
      obtain ⟨o1, o2, o3, o4, o5, o6, o7, o8, o9⟩ := ho
      dsimp only at o1 o2 o3 o4 o5 o6 o7 o8 o9 hbs
      have hact := fun W => act36_any wh (sg a) (sg b) (sg c) (sg d) (sg e) (sg f) (sg q) a b c d e f q s W o1 o9 (sg_lo _ o2) (by have := sg_hi a; omega) (sg_mod _ o2) (sg_lo _ o3) (by have := sg_hi b; omega) (sg_mod _ o3) (sg_lo _ o4) (by have := sg_hi c; omega) (sg_mod _ o4) (sg_lo _ o5) (by have := sg_hi d; omega) (sg_mod _ o5) (sg_lo _ o6) (by have := sg_hi e; omega) (sg_mod _ o6) (sg_lo _ o7) (by have := sg_hi f; omega) (sg_mod _ o7) (sg_lo _ o8) (by have := sg_hi q; omega) (sg_mod _ o8)
      rw [hbs] at hact
      have hbz : (actS wh a b c d e f q s).size ≤ 70000 := by rw [hbs, bytes_size]; show 31 + s.size ≤ 70000; omega
      rw [hbs] at hbz
      have K' : Cel wr h (k * 9) #[.int .i64 wh, .int .i64 (sg a), .int .i64 (sg b), .int .i64 (sg c), .int .i64 (sg d), .int .i64 (sg e), .int .i64 (sg f), .int .i64 (sg q), .string s] := K
      generalize Rc.bytes ⟨wh, a, b, c, d, e, f, q, s⟩ = Z at *
      generalize sg a = xa at *
      generalize sg b = xb at *
      generalize sg c = xc at *
      generalize sg d = xd at *
      generalize sg e = xe at *
      generalize sg f = xf at *
      generalize sg q = xq at *
      have HCS := Lib.hid hts
      clear hts K hr hbs o1 o2 o3 o4 o5 o6 o7 o8 o9 hkL
      go_upto_region 5 with (refine wpList_load_at rfl 63 _ rfl h (k * 9) rfl #[.int .i64 wh, .int .i64 xa, .int .i64 xb, .int .i64 xc, .int .i64 xd, .int .i64 xe, .int .i64 xf, .int .i64 xq, .string s] _ K' Try.underlying63 rfl (szA _ _ _ _ _ _ _ _ _) ?_)
      have X1 := Blk.new wr 63 #[.int .i64 wh, .int .i64 xa, .int .i64 xb, .int .i64 xc, .int .i64 xd, .int .i64 xe, .int .i64 xf, .int .i64 xq, .string s]
      have bel1 := bel.alloc hB (.cells #[.int .i64 wh, .int .i64 xa, .int .i64 xb, .int .i64 xc, .int .i64 xd, .int .i64 xe, .int .i64 xf, .int .i64 xq, .string s] 63)
      have HI1 := Lib.hid (IsB_below HI.out ((Below.refl _ _).alloc (Nat.le_refl _) (.cells #[.int .i64 wh, .int .i64 xa, .int .i64 xb, .int .i64 xc, .int .i64 xd, .int .i64 xe, .int .i64 xf, .int .i64 xq, .string s] 63)))
      clear HI K' bel
      generalize wr.alloc (.cells #[.int .i64 wh, .int .i64 xa, .int .i64 xb, .int .i64 xc, .int .i64 xd, .int .i64 xe, .int .i64 xf, .int .i64 xq, .string s] 63) = w1 at *
      go_wp2_with (refine wpList_load_at rfl 63 _ rfl wr.heap.size 0 rfl #[.int .i64 wh, .int .i64 xa, .int .i64 xb, .int .i64 xc, .int .i64 xd, .int .i64 xe, .int .i64 xf, .int .i64 xq, .string s] _ (Cel.of_blk X1) Try.underlying63 rfl (szA _ _ _ _ _ _ _ _ _) ?_)
      refine (hact _).mono ?_
      rintro e2 w2 ⟨rfl, hb2⟩
      have HI2 := Lib.hid (IsB_below HI1.out hb2)
      have bel2 := bel1.trans (hb2.mono bel1.size)
      clear HI1 bel1 hb2 hact X1
      go_wp2_with fail
      refine (write_any w.heap.size w.heap.size _ Z w2 HI2.out (by omega) bel2.size).mono ?_
      rintro e3 w3 ⟨rfl, hU3, hb3⟩
      have bel3 := bel2.trans hb3
      have HI3 : Hid (IsB w.heap.size w.heap.size (Lib.strCells (cat36 (L.take (k + 1)))) w3) := by
        rw [HCS.out, strCells_append]
        exact .inr hU3
      clear HI2 bel2 hb3 hU3
      go_wp2_with fail
      go_roundw
      case rel => exact ⟨k + 1, by omega, by go_num, HI3.out, bel3⟩
      case measure => simp [intOf]; omega
    · obtain rfl : k = n := by omega
      have hq : cat36 (L.take k) = cat36 L := by rw [List.take_of_length_le (by rw [HNL.out]; exact Nat.le_refl _)]
      have hS := IsB_string w.heap.size w.heap.size (cat36 (L.take k)) wr HI.out hB
      rw [hq] at hS
      have HSS := Lib.hid hS
      clear hS hq
      go_wp2_with fail
      refine HSS.out.mono ?_
      rintro e w2 ⟨rfl, hb2⟩
      go_wp2_with fail
      go_ret
      exact ⟨rfl, bel.trans hb2⟩
end Go.Proofs.Ytdocphkpeonldaa.tra
