/- Layer 4: the bytes of parameters one behind the other; a row of them anywhere. -/
import Derived.Test.YtlpklnjnfeodaaaBld
import Derived.Test.YtlpklnjnfeodaaaAll
namespace Go.Proofs.Ytlpklnjnfeodaaa.par
open Go.ChangeShapes Go.WideShapes Go.ChangeAt Go.RowKit kit oct bld
set_option maxRecDepth 100000

theorem add_blk (a : Addr) (k : Nat) : (a.add k).block = a.block := by unfold Addr.add; split <;> rfl
theorem add_zero' (g k : Nat) : (⟨g, 0, none⟩ : Addr).add k = ⟨g, k, none⟩ := by unfold Addr.add; split <;> simp_all
/-- A row of parameters (or causes) anywhere in memory. -/
def RowL (w : World) (a : Addr) (ps : List (Int × ByteArray)) : Prop :=
  (0 < ps.length → a.block < w.heap.size) ∧ ∀ ds p qs, ps = ds ++ p :: qs → w.cell? (a.add (ds.length * 2)) = some (.int .i64 p.1) ∧ w.cell? { block := (a.add (ds.length * 2)).block, off := (a.add (ds.length * 2)).off + 1 } = some (.string p.2)
theorem RowL.below {w w' : World} {a : Addr} {ps : List (Int × ByteArray)} {B : Nat} (h : RowL w a ps) (hb : Below B w w') (hB : 0 < ps.length → a.block < B) : RowL w' a ps := by
  refine ⟨fun h0 => Nat.lt_of_lt_of_le (h.1 h0) hb.size, fun ds p qs hp => ?_⟩
  obtain ⟨h1, h2⟩ := h.2 ds p qs hp
  have hlt := hB (by rw [hp]; simp; omega)
  exact ⟨(hb.cell (p := a.add (ds.length * 2)) (by rw [add_blk]; exact hlt)).trans h1, (hb.cell (p := { block := (a.add (ds.length * 2)).block, off := (a.add (ds.length * 2)).off + 1 }) (by show (a.add (ds.length * 2)).block < B; rw [add_blk]; exact hlt)).trans h2⟩
theorem cellsP_append (l m : List (Int × ByteArray)) : cellsP (l ++ m) = cellsP l ++ cellsP m := by
  induction l with
  | nil => rfl
  | cons q r ih => simp [cellsP, ih]
theorem cellsP_at (ds qs : List (Int × ByteArray)) (p : Int × ByteArray) : (cellsP (ds ++ p :: qs))[ds.length * 2]? = some (.int .i64 p.1) ∧ (cellsP (ds ++ p :: qs))[ds.length * 2 + 1]? = some (.string p.2) := by
  rw [cellsP_append]
  have := cellsP_length ds
  exact ⟨by rw [List.getElem?_append_right (by omega), this, Nat.sub_self]; rfl, by rw [List.getElem?_append_right (by omega), this, show ds.length * 2 + 1 - ds.length * 2 = 1 by omega]; rfl⟩
/-- An owned row is one. -/
theorem own_rowL {w : World} {B e : Nat} {v : Value} {ps : List (Int × ByteArray)} (h : w.ownsRow B e 2 v ps.length (cellsP ps)) : (v = .slice none 0 0 ∧ ps = []) ∨ ∃ g cap, v = .slice (some ⟨g, 0, none⟩) ps.length cap ∧ B ≤ g ∧ g < w.heap.size ∧ ps.length ≤ cap ∧ cap ≤ maxLen ∧ RowL w ⟨g, 0, none⟩ ps := by
  have h' := h
  rcases h'.2 with ⟨rfl, h0⟩ | ⟨g, cap, cur, rfl, hbg, hg, hc1, hc2, _⟩
  · exact .inl ⟨rfl, List.length_eq_zero_iff.1 h0⟩
  · have hlt : g < w.heap.size := by
      rcases Nat.lt_or_ge g w.heap.size with q | q
      · exact q
      · rw [Array.getElem?_eq_none q] at hg; cases hg
    refine .inr ⟨g, cap, rfl, hbg, hlt, hc1, hc2, fun _ => hlt, fun ds p qs hp => ?_⟩
    have hl : ps.length = ds.length + 1 + qs.length := by rw [hp]; simp; omega
    obtain ⟨e1, e2⟩ := cellsP_at ds qs p
    rw [← hp] at e1 e2
    have k1 := h.cellAt (ds.length * 2) (by omega)
    have k2 := h.cellAt (ds.length * 2 + 1) (by omega)
    rw [e1] at k1
    rw [e2] at k2
    rw [add_zero']
    exact ⟨k1, k2⟩
theorem putP_le (t : Int) (v : ByteArray) : (putP t v).size ≤ 1008 := by
  cases h : mayP t v with
  | false => unfold putP; rw [if_neg (by rw [h]; simp)]; simp
  | true => have := putP_size h; have := may_of h; omega
theorem cat_le (l : List (Int × ByteArray)) : (cat l).size ≤ l.length * 1008 := by
  induction l with
  | nil => simp [cat]
  | cons p r ih =>
    have := putP_le p.1 p.2
    simp only [cat, ByteArray.size_append, List.length_cons]
    omega
theorem cat_snoc (l : List (Int × ByteArray)) (p : Int × ByteArray) : cat (l ++ [p]) = cat l ++ putP p.1 p.2 := by
  induction l with
  | nil => simp [cat]
  | cons q r ih => simp only [List.cons_append, cat, ih, ByteArray.append_assoc]
theorem strCells_append (s t : ByteArray) : Lib.strCells (s ++ t) = Lib.strCells s ++ Lib.strCells t := by
  unfold Lib.strCells
  rw [← List.map_append]
  simp
theorem below_grown {w w' : World} (h : Below w.heap.size w w') : w.grownBy w' none := ⟨h.os, h.tape, h.output, h.size, fun k hk _ => h.block k hk⟩
theorem BAt_below {p : Value} {B b : Nat} {bs : List Value} {w w' : World} (h : Lib.BuilderAt 121 5 B b p bs w) (hb : Below w.heap.size w w') : Lib.BuilderAt 121 5 B b p bs w' := by
  obtain ⟨h1, v, hk, hown, hne⟩ := h
  have K : Blk w b 121 #[p, v] := hk
  exact ⟨h1, v, K.below hb K.lt, hown.kept (below_grown hb) (by cases v.ownBlock <;> simp), hne⟩
theorem IsB_below {B b : Nat} {bs : List Value} {w w' : World} (h : IsB B b bs w) (hb : Below w.heap.size w w') : IsB B b bs w' := h.imp (fun h => BAt_below h hb) (fun h => BAt_below h hb)
theorem IsB_string (B b : Nat) (s : ByteArray) (w : World) (h : IsB B b (Lib.strCells s) w) (hB : B ≤ w.heap.size) :
    Calls Try.prog 78 #[.pointer (some ⟨b, 0, none⟩)] w fun e w' => e = .returned (.string s) ∧ Below B w w' := by
  have := Try.Builder_String_any B b s.data.toList w h hB
  simpa using this
theorem put_call (p : Int × ByteArray) (w : World) : Calls Try.prog 12 #[.agg #[.int .i64 p.1, .string p.2]] w fun e w' => e = .returned (.string (putP p.1 p.2)) ∧ Below w.heap.size w w' := put_any p.1 p.2 w

set_option maxHeartbeats 1000000 in
theorem putAll_row (a : Addr) (cap : Nat) (ps : List (Int × ByteArray)) (w : World) (hn : ps.length ≤ 16) (hc : ps.length ≤ cap) (hcm : cap ≤ maxLen) (hr : RowL w a ps) :
    Calls Try.prog 62 #[.slice (some a) ps.length cap] w fun e w' => e = .returned (.string (cat ps)) ∧ Below w.heap.size w w' := by
  unfold maxLen at hcm
  go_enter Try.func62, Try.ntmps62
  go_wp2_with fail
  go_loopw [8] (fun si wr => ∃ (ds qs : List (Int × ByteArray)), ps = ds ++ qs ∧ si = .int .i64 (ds.length : Nat) ∧ IsB w.heap.size w.heap.size (Lib.strCells (cat ds)) wr ∧ Below w.heap.size w wr) (fun si _ => ps.length - (intOf si).toNat)
  case atStart => exact ⟨[], ps, rfl, rfl, Lib.fresh_isBuilder _ _ w, (Below.refl _ _).alloc (Nat.le_refl _) _⟩
  case round =>
    obtain ⟨ds, qs, hps, rfl, hI, bel⟩ := hrel
    have hlen : ds.length + qs.length = ps.length := by rw [hps]; simp
    have HP := Lib.hid hps
    have HI := Lib.hid hI
    have HR := Lib.hid hr
    clear hps hI hr
    cases qs with
    | nil =>
      have hd : ds.length = ps.length := by simpa using hlen
      have hB : w.heap.size ≤ wr.heap.size := bel.size
      have hq := HP.out
      simp only [List.append_nil] at hq
      have hS := IsB_string w.heap.size w.heap.size (cat ds) wr HI.out hB
      rw [← hq] at hS
      clear HP HI HR hlen hq
      obtain ⟨S, hSe⟩ : ∃ S, S = cat ps := ⟨_, rfl⟩
      rw [← hSe] at hS
      have HE := Lib.hid hSe
      clear hSe
      generalize ps.length = n at *
      rw [hd]
      go_wp2_with (go_at_call 78; refine hS.mono ?_; rintro e w2 ⟨rfl, hb2⟩)
      go_ret
      exact ⟨congrArg (fun s => Ending.returned (.string s)) HE.out, bel.trans hb2⟩
    | cons p qs =>
      obtain ⟨c0, c1⟩ := (HR.out.below bel HR.out.1).2 ds p qs HP.out
      have hlt : ds.length < ps.length := by simp at hlen; omega
      have hB : w.heap.size ≤ wr.heap.size := bel.size
      have hsz : (Lib.strCells (cat ds)).length + (putP p.1 p.2).size ≤ 100000000 := by
        have := cat_le ds; have := putP_le p.1 p.2; rw [Lib.strCells_length]; omega
      have N1 := Blk.new wr 23 #[.int .i64 p.1, .string p.2]
      have C1 := fun i => N1.cell i
      have bel1 := bel.alloc hB (.cells #[.int .i64 p.1, .string p.2] 23)
      have I1 := IsB_below HI.out ((Below.refl _ _).alloc (Nat.le_refl _) (.cells #[.int .i64 p.1, .string p.2] 23))
      have hput := put_call p
      have hps : ps = (ds ++ [p]) ++ qs := by rw [HP.out]; simp
      have hlen1 : (ds ++ [p]).length = ds.length + 1 := by simp
      have HP1 := Lib.hid hps
      have HL1 := Lib.hid hlen1
      have HLen := Lib.hid hlen
      have HI1 := Lib.hid I1
      clear HI HP hps hlen1 I1 HR hlen
      have hsn := cat_snoc ds p
      have HSn := Lib.hid hsn
      clear hsn
      generalize putP p.1 p.2 = Z at *
      go_wp2_with fail
      generalize wr.alloc (.cells #[.int .i64 p.1, .string p.2] 23) = w1 at *
      refine (hput _).mono ?_
      rintro e w2 ⟨rfl, hb2⟩
      have bel2 := bel1.trans (hb2.mono bel1.size)
      have I2 := IsB_below HI1.out hb2
      clear HI1
      have hW := write_any w.heap.size w.heap.size _ Z w2 I2 hsz bel2.size
      clear I2
      go_wp2_with fail
      refine hW.mono ?_
      rintro e w3 ⟨rfl, hu, hb3⟩
      have bel3 := bel2.trans hb3
      have HU := Lib.hid hu
      clear hu hW
      go_wp2_with fail
      go_roundw
      case rel => exact ⟨ds ++ [p], qs, HP1.out, by rw [HL1.out]; go_num, .inr (by rw [HSn.out, strCells_append]; exact HU.out), bel3⟩
      case measure => have := HLen.out; simp at this; simp [intOf]; omega
end Go.Proofs.Ytlpklnjnfeodaaa.par
