/- Layer 18: messages of one stream in whatever order: which wait, which can be read. -/
import Derived.Test.YtdocphkpeonldaaDelF
namespace Go.Proofs.Ytdocphkpeonldaa.del
open Go.Sort (grow)
open Go.ChangeShapes Go.WideShapes Go.ChangeAt Go.RowKit kit
set_option maxRecDepth 100000

/-- The message with a number, that says nothing. -/
def mz (n : Int) : Value := .agg (ms 0 n false 0 ⟨#[]⟩)
/-- Those that wait are the messages with these numbers. -/
structure Hold (es : Array MapEntry) (S : Nat → Bool) : Prop where
  key : ∀ x ∈ es.toList, ∃ n : Nat, n < 64 ∧ S n = true ∧ x.key = .int .u16 n ∧ x.val = mz n
  nodup : (es.toList.map (·.key)).Nodup
  all : ∀ n, S n = true → ∃ x ∈ es.toList, x.key = .int .u16 n
theorem Hold.isKey {es : Array MapEntry} {S : Nat → Bool} (h : Hold es S) : ∀ x ∈ es.toList, Go.MapKept.IsKey (.int .u16) x.key := by
  intro x hx
  obtain ⟨n, _, _, e, _⟩ := h.key x hx
  rw [e]
  exact isKey_int _ _
theorem key_inj {a b : Nat} (h : Value.int .u16 (a : Int) = .int .u16 (b : Int)) : a = b := by
  simp only [Value.int.injEq, true_and] at h
  omega
theorem Hold.has {es : Array MapEntry} {S : Nat → Bool} (h : Hold es S) {n : Nat} (hn : S n = true) : ∃ i, Instr.findNow (.int .u16) (.int .u16 n) es.toList 0 = some (some (i, mz n)) ∧ Hold (es.eraseIdxIfInBounds i) (fun k => if k = n then false else S k) := by
  rcases Go.MapKept.findNow_spec (isKey_int .u16 (n : Int)) es.toList 0 h.isKey with ⟨_, h2⟩ | ⟨j, e0, h1, h2, h3⟩
  · obtain ⟨x, hx, e⟩ := h.all n hn
    exact absurd e (h2 x hx)
  · obtain ⟨n', _, _, he, hv⟩ := h.key e0 (List.mem_of_getElem? h2)
    obtain rfl : n' = n := key_inj (he.symm.trans h3)
    rw [Nat.zero_add, hv] at h1
    refine ⟨j, h1, ?_⟩
    have hjl : j < es.toList.length := (List.getElem?_eq_some_iff.1 h2).1
    have hjs : j < es.size := by simpa using hjl
    have hsub : (es.eraseIdxIfInBounds j).toList = es.toList.eraseIdx j := by
      unfold Array.eraseIdxIfInBounds
      rw [dif_pos hjs]
      simp
    have hne : ∀ x ∈ (es.eraseIdxIfInBounds j).toList, x ∈ es.toList ∧ x.key ≠ .int .u16 n' := by
      intro x q
      rw [hsub, List.mem_eraseIdx_iff_getElem] at q
      obtain ⟨i, hi, hij, rfl⟩ := q
      refine ⟨List.getElem_mem hi, fun e => hij ?_⟩
      have a1 : (es.toList.map (·.key))[i]? = some (.int .u16 n') := by rw [List.getElem?_map, List.getElem?_eq_getElem hi]; exact congrArg some e
      have a2 : (es.toList.map (·.key))[j]? = some (.int .u16 n') := by rw [List.getElem?_map, h2]; simp [h3]
      exact (List.getElem?_inj (by simpa using hi) h.nodup).1 (a1.trans a2.symm)
    refine ⟨fun x q => ?_, ?_, fun k hk => ?_⟩
    · obtain ⟨k, q1, q2, q3, q4⟩ := h.key x (hne x q).1
      refine ⟨k, q1, ?_, q3, q4⟩
      rw [if_neg (fun e => (hne x q).2 (by rw [q3, e]))]
      exact q2
    · rw [hsub]
      exact ((List.eraseIdx_sublist _ _).map _).nodup h.nodup
    · by_cases hkn : k = n'
      · simp [hkn] at hk
      · rw [if_neg hkn] at hk
        obtain ⟨x, hx, e⟩ := h.all k hk
        refine ⟨x, ?_, e⟩
        rw [hsub, List.mem_eraseIdx_iff_getElem]
        obtain ⟨i, hi, rfl⟩ := List.mem_iff_getElem.1 hx
        refine ⟨i, hi, fun hij => hkn ?_, rfl⟩
        subst hij
        rw [List.getElem?_eq_getElem hi] at h2
        have := Option.some.inj h2
        exact key_inj (e.symm.trans (by rw [this, h3]))
theorem Hold.hasnt {es : Array MapEntry} {S : Nat → Bool} (h : Hold es S) {n : Nat} (hn : S n = false) : Instr.findNow (.int .u16) (.int .u16 n) es.toList 0 = some none := by
  rcases Go.MapKept.findNow_spec (isKey_int .u16 (n : Int)) es.toList 0 h.isKey with ⟨h1, _⟩ | ⟨j, e0, _, h2, h3⟩
  · exact h1
  · obtain ⟨n', _, hs, he, _⟩ := h.key e0 (List.mem_of_getElem? h2)
    obtain rfl : n' = n := key_inj (he.symm.trans h3)
    rw [hn] at hs
    cases hs
theorem Hold.push {es : Array MapEntry} {S : Nat → Bool} (h : Hold es S) {n : Nat} (h64 : n < 64) (hn : S n = false) (c : Nat) : Hold (es.push ⟨.int .u16 n, mz n, c⟩) (fun k => if k = n then true else S k) := by
  refine ⟨fun x q => ?_, ?_, fun k hk => ?_⟩
  · rw [Array.toList_push, List.mem_append] at q
    rcases q with q | q
    · obtain ⟨k, q1, q2, q3, q4⟩ := h.key x q
      refine ⟨k, q1, ?_, q3, q4⟩
      by_cases hkn : k = n
      · rw [if_pos hkn]
      · rw [if_neg hkn]; exact q2
    · simp at q
      subst q
      exact ⟨n, h64, by rw [if_pos rfl], rfl, rfl⟩
  · rw [Array.toList_push, List.map_append, List.nodup_append]
    refine ⟨h.nodup, by simp, fun a ha b hb => ?_⟩
    simp at hb
    subst hb
    obtain ⟨x, hx, e⟩ := List.mem_map.1 ha
    obtain ⟨k, _, q2, q3, _⟩ := h.key x hx
    rw [← e, q3]
    intro e'
    have := key_inj e'
    subst this
    rw [hn] at q2
    cases q2
  · rw [Array.toList_push]
    by_cases hkn : k = n
    · exact ⟨_, List.mem_append_right _ (List.mem_singleton.2 rfl), by rw [hkn]⟩
    · rw [if_neg hkn] at hk
      obtain ⟨x, hx, e⟩ := h.all k hk
      exact ⟨x, List.mem_append_left _ hx, e⟩
theorem Hold.empty : Hold #[] (fun _ => false) := ⟨fun x q => by simp at q, by simp, fun n h => by cases h⟩
theorem Hold.congr {es : Array MapEntry} {S S' : Nat → Bool} (h : Hold es S) (e : ∀ k, S k = S' k) : Hold es S' := by
  have : S = S' := funext e
  exact this ▸ h
/-- One stream with a next place and messages that wait. -/
structure O (cb : Nat) (ob : Obj) (b0 g h m : Nat) (n : Int) (es : Array MapEntry) (c : Nat) (rl : Value) (w : World) : Prop where
  B : ∃ cap, Blk w g 200 #[.slice (some ⟨h, 0, none⟩) 1 cap, rl, .int .i64 0] ∧ 1 ≤ cap ∧ cap ≤ maxLen
  C : Cel w h 0 (st n m)
  M : MapB w m es c
  hg : b0 ≤ g
  hh : b0 ≤ h
  hm : b0 ≤ m
  ne1 : h ≠ g
  ne2 : m ≠ g
  ne3 : m ≠ h
  G : w.heap[cb]? = some ob
  ne4 : cb ≠ g
  ne5 : cb ≠ h
  ne6 : cb ≠ m
theorem O.below {cb : Nat} {ob : Obj} {b0 g h m c k : Nat} {n : Int} {es : Array MapEntry} {rl : Value} {w w' : World} (q : O cb ob b0 g h m n es c rl w) (hb : Below k w w') (hk : w.heap.size ≤ k) : O cb ob b0 g h m n es c rl w' := by
  obtain ⟨⟨cap, B, h1, h2⟩, C, M, a1, a2, a3, a4, a5, a6, G, a7, a8, a9⟩ := q
  exact ⟨⟨cap, B.below hb (by have := B.lt; omega), h1, h2⟩, C.below hb (by have := C.lt; omega), M.below hb (by have := M.lt; omega), a1, a2, a3, a4, a5, a6, (hb.block cb (by have := (Array.getElem?_eq_some_iff.1 G).1; omega)).trans G, a7, a8, a9⟩
theorem O.only {cb : Nat} {ob : Obj} {b0 g h m c : Nat} {n : Int} {es es' : Array MapEntry} {c' : Nat} {rl : Value} {w w' : World} (q : O cb ob b0 g h m n es c rl w) (hO : Only m w w') (M : MapB w' m es' c') : O cb ob b0 g h m n es' c' rl w' := by
  obtain ⟨⟨cap, B, h1, h2⟩, C, _, a1, a2, a3, a4, a5, a6, G, a7, a8, a9⟩ := q
  exact ⟨⟨cap, hO.blk B (Ne.symm a5), h1, h2⟩, hO.cel C (Ne.symm a6), M, a1, a2, a3, a4, a5, a6, (hO.block cb (Array.getElem?_eq_some_iff.1 G).1 a9).trans G, a7, a8, a9⟩
theorem O.drewN {cb : Nat} {ob : Obj} {b0 g h m c : Nat} {n : Int} {es : Array MapEntry} {rl : Value} {w : World} (q : O cb ob b0 g h m n es c rl w) (k : Nat) : O cb ob b0 g h m n es c rl (w.drewN k) := ⟨q.B, q.C, q.M, q.hg, q.hh, q.hm, q.ne1, q.ne2, q.ne3, q.G, q.ne4, q.ne5, q.ne6⟩
theorem O.drew {cb : Nat} {ob : Obj} {b0 g h m c : Nat} {n : Int} {es : Array MapEntry} {rl : Value} {w : World} (q : O cb ob b0 g h m n es c rl w) : O cb ob b0 g h m n es c rl w.drew := ⟨q.B, q.C, q.M, q.hg, q.hh, q.hm, q.ne1, q.ne2, q.ne3, q.G, q.ne4, q.ne5, q.ne6⟩
theorem less16_any (a b : Nat) (ha : a ≤ 64) (hb : b ≤ 64) (w : World) : Calls Try.prog 139 #[.int .u16 a, .int .u16 b] w fun e w' => e = .returned (.bool (decide (a < b))) ∧ w' = w := by
  rcases (by omega : a = b ∨ a < b ∨ b < a) with rfl | h | h
  · rw [show decide (a < a) = false by simp]
    go_enter Try.func139, Try.ntmps139
    go_wp2
    go_ret
    exact ⟨rfl, rfl⟩
  · rw [show decide (a < b) = true from decide_eq_true h]
    have e1 : ((a : Int) == (b : Int)) = false := by simp; omega
    have e2 : IntKind.u16.wrap ((b : Int) - a) = (b : Int) - a := by show ((b : Int) - a) % 65536 = _; omega
    have e3 : (b : Int) - a < 32768 := by omega
    go_enter Try.func139, Try.ntmps139
    go_wp2
    go_ret
    exact ⟨by first | rfl | (congr 1; simp; omega), rfl⟩
  · rw [show decide (a < b) = false from decide_eq_false (by omega)]
    have e1 : ((a : Int) == (b : Int)) = false := by simp; omega
    obtain ⟨d, e2, e3⟩ : ∃ d : Int, IntKind.u16.wrap ((b : Int) - a) = d ∧ 32768 ≤ d := ⟨_, rfl, by show 32768 ≤ ((b : Int) - a) % 65536; omega⟩
    have e4 : ¬ d < 32768 := by omega
    go_enter Try.func139, Try.ntmps139
    go_wp2
    go_ret
    exact ⟨by first | rfl | (congr 1; simp; omega), rfl⟩
set_option maxHeartbeats 2000000 in
theorem stput_new (h m c p k : Nat) (hp : p < 64) (hk : k ≤ p) (es : Array MapEntry) (hf : Instr.findNow (.int .u16) (.int .u16 p) es.toList 0 = some none) (w : World) (C : Cel w h 0 (st k m)) (M : MapB w m es c) (hmh : m ≠ h) :
    Calls Try.prog 118 #[.pointer (some ⟨h, 0, none⟩), .agg (ms 0 p false 0 ⟨#[]⟩)] w fun e w' => e = .returned (.bool true) ∧ MapB w' m (es.push ⟨.int .u16 p, .agg (ms 0 p false 0 ⟨#[]⟩), c⟩) (c + 1) ∧ Only m w w' ∧ ∀ b0, b0 ≤ m → Below b0 w w' := by
  have X1 := Blk.new w 128 (ms 0 p false 0 ⟨#[]⟩)
  have C1 := C.alloc (.cells (ms 0 p false 0 ⟨#[]⟩) 128)
  have M1 := M.alloc (.cells (ms 0 p false 0 ⟨#[]⟩) 128)
  have O1 : Only m w (w.alloc (.cells (ms 0 p false 0 ⟨#[]⟩) 128)) := (Only.refl m w).alloc _
  have bel1 : Below w.heap.size w (w.alloc (.cells (ms 0 p false 0 ⟨#[]⟩) 128)) := (Below.refl _ _).alloc (Nat.le_refl _) _
  have hml := M.lt
  have hhl := C.lt
  have hconv : (convert 3 202 (.int .i64 p)).run Try.prog = (convert 3 202 (.int .i64 p)).run Try.prog := rfl
  have hw16 : IntKind.u16.wrap (p : Int) = p := by show (p : Int) % 65536 = p; omega
  go_enter Try.func118, Try.ntmps118
  go_upto_region 1 with (fail)
  generalize w.alloc (.cells (ms 0 p false 0 ⟨#[]⟩) 128) = w1 at *
  clear M C hconv
  have x0 : w1.cell? ⟨w.heap.size, 0, none⟩ = some (.int .i64 0) := X1.cell 0
  have x1 : w1.cell? ⟨w.heap.size, 1, none⟩ = some (.int .i64 p) := X1.cell 1
  have c0 : w1.cell? ⟨h, 0, none⟩ = some (.int .u16 k) := C1.cell0 0 (u := .int .u16 k) rfl
  have c1 : w1.cell? ⟨h, 1, none⟩ = some (.map (some m)) := C1.cell0 1 (u := .map (some m)) rfl
  have lk1 : (Instr.lookup 203 (.map (some m)) (.int .u16 p) true).run Try.prog w1 = .ok (.tuple #[.agg #[.int .i64 0, .int .i64 0, .bool false, .int .u32 0, .string ⟨#[]⟩], .bool false]) w1 := lk_none uM uK M1 (zeroM _) hf
  go_upto_region 3 with (fail)
  have X2 := X1.alloc (.cells #[.int .i64 0, .int .i64 0, .bool false, .int .u32 0, .string ⟨#[]⟩] 128)
  have C2 := C1.alloc (.cells #[.int .i64 0, .int .i64 0, .bool false, .int .u32 0, .string ⟨#[]⟩] 128)
  have M2 := M1.alloc (.cells #[.int .i64 0, .int .i64 0, .bool false, .int .u32 0, .string ⟨#[]⟩] 128)
  have O2 := O1.alloc (.cells #[.int .i64 0, .int .i64 0, .bool false, .int .u32 0, .string ⟨#[]⟩] 128)
  have bel2 := bel1.alloc bel1.size (.cells #[.int .i64 0, .int .i64 0, .bool false, .int .u32 0, .string ⟨#[]⟩] 128)
  clear X1 C1 M1 O1 bel1 x0 x1 c0 c1 lk1
  generalize w1.alloc (.cells #[.int .i64 0, .int .i64 0, .bool false, .int .u32 0, .string ⟨#[]⟩] 128) = w2 at *
  have c0 : w2.cell? ⟨h, 0, none⟩ = some (.int .u16 k) := C2.cell0 0 (u := .int .u16 k) rfl
  go_wp2_with fail
  refine (less16_any p k (by omega) (by omega) _).mono ?_
  rintro e w2 ⟨rfl, rfl⟩
  rw [show decide (p < k) = false from decide_eq_false (by omega)]
  go_upto_region 5 with (fail)
  have c1 : w2.cell? ⟨h, 1, none⟩ = some (.map (some m)) := C2.cell0 1 (u := .map (some m)) rfl
  have x0 : w2.cell? ⟨w.heap.size, 0, none⟩ = some (.int .i64 0) := X2.cell 0
  have x1 : w2.cell? ⟨w.heap.size, 1, none⟩ = some (.int .i64 p) := X2.cell 1
  have x2 : w2.cell? ⟨w.heap.size, 2, none⟩ = some (.bool false) := X2.cell 2
  have x3 : w2.cell? ⟨w.heap.size, 3, none⟩ = some (.int .u32 0) := X2.cell 3
  have x4 : w2.cell? ⟨w.heap.size, 4, none⟩ = some (.string ⟨#[]⟩) := X2.cell 4
  have u1 : (Instr.mapUpdate 203 (.map (some m)) (.int .u16 p) (.agg #[.int .i64 0, .int .i64 p, .bool false, .int .u32 0, .string ⟨#[]⟩])).run Try.prog w2 = .ok () (Go.ChangeMaps.setBlock w2 m (.map (es.push ⟨.int .u16 p, .agg (ms 0 p false 0 ⟨#[]⟩), c⟩) (c + 1))) := up_new uM uK M2 _ hf
  have u2 : (Instr.mapUpdate 203 (.map (some m)) (.int .u16 p) (.agg #[.int .i64 0, .int .i64 p, .bool false, .int .u32 0, .string ⟨#[]⟩])).run Try.prog w2.drew = .ok () (Go.ChangeMaps.setBlock w2.drew m (.map (es.push ⟨.int .u16 p, .agg (ms 0 p false 0 ⟨#[]⟩), c⟩) (c + 1))) := up_new uM uK M2.drew _ hf
  go_region
  all_goals
    go_wp2_with fail
    go_ret
    refine ⟨rfl, M2.set_ _ _, ⟨by rw [show (Go.ChangeMaps.setBlock _ _ _).heap.size = _ from MapB.size _ _ _]; exact O2.size, fun y hk hkm => (M2.other _ _ hkm).trans (O2.block y hk hkm)⟩, fun b0 hb0 => ?_⟩
    exact M2.drew.bel (bel2.drew.mono (by omega)) hb0 _ _
set_option maxHeartbeats 2000000 in
theorem stput_old (h m c p k : Nat) (hp : p < 64) (hk64 : k ≤ 64) (es : Array MapEntry) (S : Nat → Bool) (H : Hold es S) (hor : S p = true ∨ p < k) (w : World) (C : Cel w h 0 (st k m)) (M : MapB w m es c) :
    Calls Try.prog 118 #[.pointer (some ⟨h, 0, none⟩), .agg (ms 0 p false 0 ⟨#[]⟩)] w fun e w' => e = .returned (.bool false) ∧ Below w.heap.size w w' := by
  have X1 := Blk.new w 128 (ms 0 p false 0 ⟨#[]⟩)
  have C1 := C.alloc (.cells (ms 0 p false 0 ⟨#[]⟩) 128)
  have M1 := M.alloc (.cells (ms 0 p false 0 ⟨#[]⟩) 128)
  have bel1 : Below w.heap.size w (w.alloc (.cells (ms 0 p false 0 ⟨#[]⟩) 128)) := (Below.refl _ _).alloc (Nat.le_refl _) _
  have hhl := C.lt
  have hw16 : IntKind.u16.wrap (p : Int) = p := by show (p : Int) % 65536 = p; omega
  go_enter Try.func118, Try.ntmps118
  go_upto_region 1 with (fail)
  generalize w.alloc (.cells (ms 0 p false 0 ⟨#[]⟩) 128) = w1 at *
  clear M C
  have x0 : w1.cell? ⟨w.heap.size, 0, none⟩ = some (.int .i64 0) := X1.cell 0
  have x1 : w1.cell? ⟨w.heap.size, 1, none⟩ = some (.int .i64 p) := X1.cell 1
  have c0 : w1.cell? ⟨h, 0, none⟩ = some (.int .u16 k) := C1.cell0 0 (u := .int .u16 k) rfl
  have c1 : w1.cell? ⟨h, 1, none⟩ = some (.map (some m)) := C1.cell0 1 (u := .map (some m)) rfl
  cases hS : S p
  · have hlt : p < k := by rcases hor with h | h; rw [hS] at h; cases h; exact h
    have lk1 : (Instr.lookup 203 (.map (some m)) (.int .u16 p) true).run Try.prog w1 = .ok (.tuple #[.agg #[.int .i64 0, .int .i64 0, .bool false, .int .u32 0, .string ⟨#[]⟩], .bool false]) w1 := lk_none uM uK M1 (zeroM _) (H.hasnt hS)
    go_upto_region 3 with (fail)
    have C2 := C1.alloc (.cells #[.int .i64 0, .int .i64 0, .bool false, .int .u32 0, .string ⟨#[]⟩] 128)
    have bel2 := bel1.alloc bel1.size (.cells #[.int .i64 0, .int .i64 0, .bool false, .int .u32 0, .string ⟨#[]⟩] 128)
    clear X1 C1 M1 bel1 x0 x1 c0 c1 lk1
    generalize w1.alloc (.cells #[.int .i64 0, .int .i64 0, .bool false, .int .u32 0, .string ⟨#[]⟩] 128) = w2 at *
    have c0 : w2.cell? ⟨h, 0, none⟩ = some (.int .u16 k) := C2.cell0 0 (u := .int .u16 k) rfl
    go_wp2_with fail
    refine (less16_any p k (by omega) (by omega) _).mono ?_
    rintro e w2 ⟨rfl, rfl⟩
    rw [show decide (p < k) = true from decide_eq_true hlt]
    go_wp2_with fail
    go_ret
    exact ⟨rfl, bel2⟩
  · obtain ⟨j, hf, _⟩ := H.has hS
    have lk1 : (Instr.lookup 203 (.map (some m)) (.int .u16 p) true).run Try.prog w1 = .ok (.tuple #[.agg #[.int .i64 0, .int .i64 p, .bool false, .int .u32 0, .string ⟨#[]⟩], .bool true]) w1 := lk_some uM uK M1 hf
    go_upto_region 3 with (fail)
    have bel2 := bel1.alloc bel1.size (.cells #[.int .i64 0, .int .i64 p, .bool false, .int .u32 0, .string ⟨#[]⟩] 128)
    clear X1 C1 M1 bel1 x0 x1 c0 c1 lk1
    generalize w1.alloc (.cells #[.int .i64 0, .int .i64 p, .bool false, .int .u32 0, .string ⟨#[]⟩] 128) = w2 at *
    go_wp2_with fail
    go_ret
    exact ⟨rfl, bel2⟩
/-- The messages that can be read, as cells. -/
def rws : Nat → List Value
  | 0 => []
  | n + 1 => rws n ++ [.int .i64 0, .int .i64 n, .bool false, .int .u32 0, .string ⟨#[]⟩]
theorem mz_one (n : Int) : ∀ u ∈ (#[.int .i64 0, .int .i64 n, .bool false, .int .u32 0, .string ⟨#[]⟩] : Array Value).toList, u.oneCell' = true := by
  intro u hu
  simp only [List.mem_cons, List.not_mem_nil, or_false] at hu
  rcases hu with rfl | rfl | rfl | rfl | rfl <;> rfl
theorem drop_one (f : Nat → Bool) (i : Nat) : ∀ k, (if k = i then false else if k < i then false else f k) = (if k < i + 1 then false else f k) := by
  intro k
  by_cases e : k = i
  · rw [if_pos e, if_pos (by omega)]
  · rw [if_neg e]
    by_cases e2 : k < i
    · rw [if_pos e2, if_pos (by omega)]
    · rw [if_neg e2, if_neg (by omega)]
def left (h : Nat) (w : World) : Nat := match w.cell? ⟨h, 0, none⟩ with | some (.int _ k) => 64 - k.toNat | _ => 0
/-- What stands where so many messages followed: f tells which ones came. -/
def Fo (cb : Nat) (ob : Obj) (f : Nat → Bool) (b0 g h m i : Nat) (w : World) : Prop := ∃ l es c, O cb ob b0 g h m i es c l w ∧ Hold es (fun j => if j < i then false else f j) ∧ w.ownsRow b0 128 5 l i (rws i) ∧ (∀ k, l.ownBlock = some k → k ≠ g ∧ k ≠ h ∧ k ≠ m ∧ k ≠ cb)
theorem Fo.below {cb : Nat} {ob : Obj} {f : Nat → Bool} {b0 g h m i k : Nat} {w w' : World} (F : Fo cb ob f b0 g h m i w) (hb : Below k w w') (hk : k = w.heap.size) : Fo cb ob f b0 g h m i w' := by
  subst hk
  obtain ⟨l, es, c, q, H, own, hne⟩ := F
  exact ⟨l, es, c, q.below hb (Nat.le_refl _), H, own_all own hb, hne⟩
set_option maxHeartbeats 8000000 in
theorem follow_any (cb : Nat) (ob : Obj) (f : Nat → Bool) (h64 : ∀ j, 64 ≤ j → f j = false) (b0 g h m i0' : Nat) (hi0 : i0' ≤ 64) (hpre : ∀ j, j < i0' → f j = true) (w : World) (F : Fo cb ob f b0 g h m i0' w) :
    Calls Try.prog 119 #[.pointer (some ⟨g, 0, none⟩), .pointer (some ⟨h, 0, none⟩)] w fun e w' => e = .returned (.tuple #[]) ∧ (∃ i, i ≤ 64 ∧ (∀ j, j < i → f j = true) ∧ f i = false ∧ Fo cb ob f b0 g h m i w') ∧ Below b0 w w' := by
  obtain ⟨i0, hi, hz0, hz1, hz2⟩ := info_parts infoM
  have HPRE0 := Lib.hid hpre
  clear hpre
  go_enter Try.func119, Try.ntmps119
  go_wp2_with fail
  go_loopw [6] (fun _ wr => ∃ i, i ≤ 64 ∧ (∀ j, j < i → f j = true) ∧ Fo cb ob f b0 g h m i wr ∧ Below b0 w wr) (fun _ wr => left h wr)
  case atStart => exact ⟨i0', hi0, HPRE0.out, F, Below.refl _ _⟩
  case round =>
    clear F HPRE0
    obtain ⟨i, hi64, hpre, ⟨l, es, c, q, H, own, hne⟩, bel⟩ := hrel
    have HPRE := Lib.hid hpre
    have HO := Lib.hid own
    have HNE := Lib.hid hne
    clear own hne hpre
    have C := q.C
    have M := q.M
    have hl := C.lt
    have HNX0 := Lib.hid (show left h wr = 64 - i by unfold left; rw [C.cell0 0 (u := .int .u16 i) rfl]; simp)
    cases hfi : f i
    · have hf := H.hasnt (n := i) (by rw [if_neg (Nat.lt_irrefl i)]; exact hfi)
      have HHO := Lib.hid H
      clear H
      have c0 : wr.cell? ⟨h, 0, none⟩ = some (.int .u16 i) := C.cell0 0 (u := .int .u16 i) rfl
      have c1 : wr.cell? ⟨h, 1, none⟩ = some (.map (some m)) := C.cell0 1 (u := .map (some m)) rfl
      have lk1 : (Instr.lookup 203 (.map (some m)) (.int .u16 i) true).run Try.prog wr = .ok (.tuple #[.agg #[.int .i64 0, .int .i64 0, .bool false, .int .u32 0, .string ⟨#[]⟩], .bool false]) wr := lk_none uM uK M (zeroM _) hf
      have lk2 : ∀ o, (Instr.lookup 203 (.map (some m)) (.int .u16 i) true).run Try.prog (wr.alloc o) = .ok (.tuple #[.agg #[.int .i64 0, .int .i64 0, .bool false, .int .u32 0, .string ⟨#[]⟩], .bool false]) (wr.alloc o) := fun o => lk_none uM uK (M.alloc o) (zeroM _) hf
      have lk3 : ∀ o, (Instr.lookup 203 (.map (some m)) (.int .u16 i) true).run Try.prog (wr.alloc o).drew = .ok (.tuple #[.agg #[.int .i64 0, .int .i64 0, .bool false, .int .u32 0, .string ⟨#[]⟩], .bool false]) (wr.alloc o).drew := fun o => lk_none uM uK (M.alloc o).drew (zeroM _) hf
      have lk4 : (Instr.lookup 203 (.map (some m)) (.int .u16 i) true).run Try.prog wr.drew = .ok (.tuple #[.agg #[.int .i64 0, .int .i64 0, .bool false, .int .u32 0, .string ⟨#[]⟩], .bool false]) wr.drew := lk_none uM uK M.drew (zeroM _) hf
      have q9 := (q.below ((Below.refl wr.heap.size wr).alloc (Nat.le_refl _) (.cells #[.int .i64 0, .int .i64 0, .bool false, .int .u32 0, .string ⟨#[]⟩] 128)) (Nat.le_refl _)).drew
      have HO9 := Lib.hid (own_all HO.out (((Below.refl wr.heap.size wr).alloc (Nat.le_refl _) (.cells #[.int .i64 0, .int .i64 0, .bool false, .int .u32 0, .string ⟨#[]⟩] 128)).drew))
      have hgl : g < wr.heap.size := by obtain ⟨cap, B, _⟩ := q.B; exact B.lt
      have bel9 := (bel.alloc (by have := q.hg; omega) (.cells #[.int .i64 0, .int .i64 0, .bool false, .int .u32 0, .string ⟨#[]⟩] 128)).drew
      go_upto_region 0 with (fail)
      go_region
      go_wp2_with fail
      refine bodyPost_ret (v := .tuple #[]) (by simp [results]) rfl ⟨rfl, ⟨i, hi64, HPRE.out, hfi, ⟨l, es, c, q9, HHO.out, HO9.out, HNE.out⟩⟩, bel9⟩
    · have hf64 : i < 64 := by
        rcases (by omega : i < 64 ∨ 64 ≤ i) with h | h
        · exact h
        · rw [h64 i h] at hfi; cases hfi
      have hw16 : IntKind.u16.wrap ((i : Int) + 1) = (i : Int) + 1 := by show ((i : Int) + 1) % 65536 = _; omega
      have hss : (if i < i then false else f i) = true := by rw [if_neg (Nat.lt_irrefl i)]; exact hfi
      obtain ⟨j, hf, hH⟩ := H.has hss
      unfold mz ms at hf
      have HHO := Lib.hid (hH.congr (drop_one f i))
      clear hH hss H
      have HNX := Lib.hid (show left h wr = 64 - i from HNX0.out)
      clear HNX0
      have c0 : wr.cell? ⟨h, 0, none⟩ = some (.int .u16 i) := C.cell0 0 (u := .int .u16 i) rfl
      have c1 : wr.cell? ⟨h, 1, none⟩ = some (.map (some m)) := C.cell0 1 (u := .map (some m)) rfl
      have lk1 : (Instr.lookup 203 (.map (some m)) (.int .u16 i) true).run Try.prog wr = .ok (.tuple #[.agg #[.int .i64 0, .int .i64 i, .bool false, .int .u32 0, .string ⟨#[]⟩], .bool true]) wr := lk_some uM uK M hf
      have lk2 : ∀ o, (Instr.lookup 203 (.map (some m)) (.int .u16 i) true).run Try.prog (wr.alloc o) = .ok (.tuple #[.agg #[.int .i64 0, .int .i64 i, .bool false, .int .u32 0, .string ⟨#[]⟩], .bool true]) (wr.alloc o) := fun o => lk_some uM uK (M.alloc o) hf
      have lk3 : ∀ o, (Instr.lookup 203 (.map (some m)) (.int .u16 i) true).run Try.prog (wr.alloc o).drew = .ok (.tuple #[.agg #[.int .i64 0, .int .i64 i, .bool false, .int .u32 0, .string ⟨#[]⟩], .bool true]) (wr.alloc o).drew := fun o => lk_some uM uK (M.alloc o).drew hf
      have lk4 : (Instr.lookup 203 (.map (some m)) (.int .u16 i) true).run Try.prog wr.drew = .ok (.tuple #[.agg #[.int .i64 0, .int .i64 i, .bool false, .int .u32 0, .string ⟨#[]⟩], .bool true]) wr.drew := lk_some uM uK M.drew hf
      go_upto_region 0 with (fail)
      go_region
      have V1 : Blk (wr.alloc (.cells #[.int .i64 0, .int .i64 i, .bool false, .int .u32 0, .string ⟨#[]⟩] 128)).drew wr.heap.size 128 #[.int .i64 0, .int .i64 i, .bool false, .int .u32 0, .string ⟨#[]⟩] := (Blk.new wr 128 #[.int .i64 0, .int .i64 i, .bool false, .int .u32 0, .string ⟨#[]⟩]).drew
      have q1 := (q.below ((Below.refl wr.heap.size wr).alloc (Nat.le_refl _) (.cells #[.int .i64 0, .int .i64 i, .bool false, .int .u32 0, .string ⟨#[]⟩] 128)) (Nat.le_refl _)).drew
      have hgl : g < wr.heap.size := by obtain ⟨cap, B, _⟩ := q.B; exact B.lt
      have hml : m < wr.heap.size := q.M.lt
      have bel1 := (bel.alloc (by have := q.hg; omega) (.cells #[.int .i64 0, .int .i64 i, .bool false, .int .u32 0, .string ⟨#[]⟩] 128)).drew
      have HO1 := Lib.hid (show (wr.alloc (.cells #[.int .i64 0, .int .i64 i, .bool false, .int .u32 0, .string ⟨#[]⟩] 128)).drew.ownsRow b0 128 5 l i (rws i) from own_all HO.out (((Below.refl wr.heap.size wr).alloc (Nat.le_refl _) (.cells #[.int .i64 0, .int .i64 i, .bool false, .int .u32 0, .string ⟨#[]⟩] 128)).drew))
      have hv0 : wr.heap.size ≠ g := by omega
      have hv1 : wr.heap.size ≠ h := by omega
      have hv2 : wr.heap.size ≠ m := by omega
      clear HO q C M bel c0 c1 lk1 lk2 lk3 lk4 hl
      generalize (wr.alloc (.cells #[.int .i64 0, .int .i64 i, .bool false, .int .u32 0, .string ⟨#[]⟩] 128)).drew = w1 at *
      generalize wr.heap.size = v at *
      have C := q1.C
      have M := q1.M
      have c0 : w1.cell? ⟨h, 0, none⟩ = some (.int .u16 i) := C.cell0 0 (u := .int .u16 i) rfl
      have c1 : w1.cell? ⟨h, 1, none⟩ = some (.map (some m)) := C.cell0 1 (u := .map (some m)) rfl
      have dl1 : ∀ ty, (Builtin.delete_ #[203, 202] ty #[.map (some m), .int .u16 i]).run Try.prog w1 = .ok (.tuple #[]) (Go.ChangeMaps.setBlock w1 m (.map (es.eraseIdxIfInBounds j) c)) := fun ty => by rw [del_some uM uK M #[203, 202] rfl ty hf]
      have dl2 : ∀ ty, (Builtin.delete_ #[203, 202] ty #[.map (some m), .int .u16 i]).run Try.prog w1.drew = .ok (.tuple #[]) (Go.ChangeMaps.setBlock w1.drew m (.map (es.eraseIdxIfInBounds j) c)) := fun ty => by rw [del_some uM uK M.drew #[203, 202] rfl ty hf]
      go_upto_region 2 with (fail)
      go_region
      have q2 : O cb ob b0 g h m i (es.eraseIdxIfInBounds j) c l (Go.ChangeMaps.setBlock w1.drew m (.map (es.eraseIdxIfInBounds j) c)) := ⟨by obtain ⟨cap, B, e⟩ := q1.B; exact ⟨cap, blk_map M.drew B.drew _ _, e⟩, cel_map M.drew C.drew (Ne.symm q1.ne3) _ _, M.drew.set_ _ _, q1.hg, q1.hh, q1.hm, q1.ne1, q1.ne2, q1.ne3, (M.drew.other _ _ q1.ne6).trans q1.G, q1.ne4, q1.ne5, q1.ne6⟩
      have V2 : Blk (Go.ChangeMaps.setBlock w1.drew m (.map (es.eraseIdxIfInBounds j) c)) v 128 #[.int .i64 0, .int .i64 i, .bool false, .int .u32 0, .string ⟨#[]⟩] := blk_map M.drew V1.drew _ _
      have bel2 : Below b0 w (Go.ChangeMaps.setBlock w1.drew m (.map (es.eraseIdxIfInBounds j) c)) := M.drew.bel bel1.drew q1.hm _ _
      have HO2 := Lib.hid (show (Go.ChangeMaps.setBlock w1.drew m (.map (es.eraseIdxIfInBounds j) c)).ownsRow b0 128 5 l i (rws i) from own_other HO1.out (fun k hk => M.drew.other _ _ ((HNE.out k hk).2.2.1)))
      clear HO1 q1 V1 bel1 C M c0 c1 dl1 dl2
      generalize Go.ChangeMaps.setBlock w1.drew m (.map (es.eraseIdxIfInBounds j) c) = w2 at *
      have C := q2.C
      have c0 : w2.cell? ⟨h, 0, none⟩ = some (.int .u16 i) := C.cell0 0 (u := .int .u16 i) rfl
      have f0 : w2.frozen? ⟨h, 0, none⟩ = false := C.frozen0 0 (by show 0 < 2; omega)
      go_upto_region 4 with (fail)
      have q3 : O cb ob b0 g h m ((i : Int) + 1) (es.eraseIdxIfInBounds j) c l (w2.setCell ⟨h, 0, none⟩ (.int .u16 ((i : Int) + 1))) := ⟨by obtain ⟨cap, B, e⟩ := q2.B; exact ⟨cap, B.far (p := ⟨h, 0, none⟩) (Ne.symm q2.ne1) _, e⟩, C.set_ 0 _, q2.M.far (p := ⟨h, 0, none⟩) q2.ne3 _, q2.hg, q2.hh, q2.hm, q2.ne1, q2.ne2, q2.ne3, (Below.heap_setCell w2 ⟨h, 0, none⟩ _ cb q2.ne5).trans q2.G, q2.ne4, q2.ne5, q2.ne6⟩
      have V3 : Blk (w2.setCell ⟨h, 0, none⟩ (.int .u16 ((i : Int) + 1))) v 128 #[.int .i64 0, .int .i64 i, .bool false, .int .u32 0, .string ⟨#[]⟩] := V2.far (p := ⟨h, 0, none⟩) hv1 _
      have bel3 : Below b0 w (w2.setCell ⟨h, 0, none⟩ (.int .u16 ((i : Int) + 1))) := bel2.setCell (p := ⟨h, 0, none⟩) q2.hh _
      have HO3 := Lib.hid (show (w2.setCell ⟨h, 0, none⟩ (.int .u16 ((i : Int) + 1))).ownsRow b0 128 5 l i (rws i) from own_other HO2.out (fun k hk => Below.heap_setCell _ _ _ _ ((HNE.out k hk).2.1)))
      clear HO2 q2 V2 bel2 C c0 f0
      generalize w2.setCell ⟨h, 0, none⟩ (.int .u16 ((i : Int) + 1)) = w3 at *
      obtain ⟨cap, B3, hc1, hc2⟩ := q3.B
      have hgl3 := B3.lt
      have hhl3 := q3.C.lt
      have hml3 := q3.M.lt
      have g1 : w3.cell? ⟨g, 1, none⟩ = some l := B3.cell 1
      have g1f : w3.frozen? ⟨g, 1, none⟩ = false := B3.frozen 1
      have y0 : w3.cell? ⟨v, 0, none⟩ = some (.int .i64 0) := V3.cell 0
      have y1 : w3.cell? ⟨v, 1, none⟩ = some (.int .i64 i) := V3.cell 1
      have y2 : w3.cell? ⟨v, 2, none⟩ = some (.bool false) := V3.cell 2
      have y3 : w3.cell? ⟨v, 3, none⟩ = some (.int .u32 0) := V3.cell 3
      have y4 : w3.cell? ⟨v, 4, none⟩ = some (.string ⟨#[]⟩) := V3.cell 4
      have hb3 : b0 ≤ w3.heap.size := by have := q3.hg; omega
      have B4 := B3.alloc (.cells #[.int .i64 0, .int .i64 i, .bool false, .int .u32 0, .string ⟨#[]⟩] 128)
      have g4 : (w3.alloc (.cells #[.int .i64 0, .int .i64 i, .bool false, .int .u32 0, .string ⟨#[]⟩] 128)).cell? ⟨g, 1, none⟩ = some l := B4.cell 1
      have HOA := Lib.hid (own_all HO3.out ((Below.refl w3.heap.size w3).alloc (Nat.le_refl _) (.cells #[.int .i64 0, .int .i64 i, .bool false, .int .u32 0, .string ⟨#[]⟩] 128)))
      have hvl := V3.lt
      have hcbl : cb < w3.heap.size := (Array.getElem?_eq_some_iff.1 q3.G).1
      have GA : (w3.alloc (.cells #[.int .i64 0, .int .i64 i, .bool false, .int .u32 0, .string ⟨#[]⟩] 128)).drew.heap[cb]? = some ob := (((Below.refl w3.heap.size w3).alloc (Nat.le_refl _) (.cells #[.int .i64 0, .int .i64 i, .bool false, .int .u32 0, .string ⟨#[]⟩] 128)).block cb hcbl).trans q3.G
      go_region_law ((refine step_append_lies _ (by rfl) _ _ _ (by rfl) b0 128 i0 (.agg (ms 0 0 false 0 ⟨#[]⟩)) 5 40 Try.underlying198 hi hz0 hz1 hz2 (by rfl) (by decide) l i (rws i) (by rfl) HOA.out ⟨w3.heap.size, 0, none⟩ 1 1 (Array.toList #[.int .i64 0, .int .i64 i, .bool false, .int .u32 0, .string ⟨#[]⟩]) (by rfl) (by rfl) (World.news_of_block (cs := #[.int .i64 0, .int .i64 i, .bool false, .int .u32 0, .string ⟨#[]⟩]) (heap_alloc_new _ _)) (mz_one i) (by omega) (by unfold maxLen; omega) (by omega) (by simp; omega) (w3.heap.size + 1) (by simp) ?_; intro h8 cap8 w8 hown8 hgrow hat hlt; have B8 : Blk w8 g 200 #[.slice (some ⟨h, 0, none⟩) 1 cap, l, .int .i64 0] := (hgrow.block g (by simp; omega) (fun e => (HNE.out g e.symm).1 rfl)).trans B4; have c8 : w8.cell? ⟨g, 1, none⟩ = some l := B8.cell 1; have f8 : w8.frozen? ⟨g, 1, none⟩ = false := B8.frozen 1))
      all_goals
        have hne8 : h8 ≠ g ∧ h8 ≠ h ∧ h8 ≠ m ∧ h8 ≠ cb := by
          rcases hat with e | e
          · exact HNE.out h8 e
          · omega
        have G8 : w8.heap[cb]? = some ob := (hgrow.block cb (by simp; omega) (fun e => (HNE.out cb e.symm).2.2.2 rfl)).trans GA
        have C8 : Cel w8 h 0 (st ((i : Int) + 1) m) := (q3.C.alloc (.cells #[.int .i64 0, .int .i64 i, .bool false, .int .u32 0, .string ⟨#[]⟩] 128)).block (hgrow.block h (by simp; omega) (fun e => (HNE.out h e.symm).2.1 rfl)) (Nat.lt_of_lt_of_le (by simp; omega) hgrow.size)
        have M8 : MapB w8 m (es.eraseIdxIfInBounds j) c := (q3.M.alloc (.cells #[.int .i64 0, .int .i64 i, .bool false, .int .u32 0, .string ⟨#[]⟩] 128)).block (hgrow.block m (by simp; omega) (fun e => (HNE.out m e.symm).2.2.1 rfl))
        have bel8 : Below b0 w w8 := ((bel3.alloc hb3 (.cells #[.int .i64 0, .int .i64 i, .bool false, .int .u32 0, .string ⟨#[]⟩] 128)).drew).grown hgrow (by simp; omega) (fun k hk => own_ge HO3.out k hk)
        have q9 : O cb ob b0 g h m ((i : Int) + 1) (es.eraseIdxIfInBounds j) c (.slice (some ⟨h8, 0, none⟩) (i + 1) cap8) (w8.setCell ⟨g, 1, none⟩ (.slice (some ⟨h8, 0, none⟩) (i + 1) cap8)) := ⟨⟨cap, B8.set_ 1 _, hc1, hc2⟩, C8.far (p := ⟨g, 1, none⟩) q3.ne1 _, M8.far (p := ⟨g, 1, none⟩) q3.ne2 _, q3.hg, q3.hh, q3.hm, q3.ne1, q3.ne2, q3.ne3, (Below.heap_setCell w8 ⟨g, 1, none⟩ _ cb q3.ne4).trans G8, q3.ne4, q3.ne5, q3.ne6⟩
        have own9 : (w8.setCell ⟨g, 1, none⟩ (.slice (some ⟨h8, 0, none⟩) (i + 1) cap8)).ownsRow b0 128 5 (.slice (some ⟨h8, 0, none⟩) (i + 1) cap8) (i + 1) (rws (i + 1)) := own_other hown8 (fun k hk => Below.heap_setCell _ _ _ _ (by simp [Value.ownBlock] at hk; show k ≠ g; omega))
        have bel9 : Below b0 w (w8.setCell ⟨g, 1, none⟩ (.slice (some ⟨h8, 0, none⟩) (i + 1) cap8)) := bel8.setCell (p := ⟨g, 1, none⟩) q3.hg _
        have HX := Lib.hid (show ∃ i', i' ≤ 64 ∧ (∀ j, j < i' → f j = true) ∧ Fo cb ob f b0 g h m i' (w8.setCell ⟨g, 1, none⟩ (.slice (some ⟨h8, 0, none⟩) (i + 1) cap8)) ∧ Below b0 w (w8.setCell ⟨g, 1, none⟩ (.slice (some ⟨h8, 0, none⟩) (i + 1) cap8)) from ⟨i + 1, by omega, fun y hy => by rcases (by omega : y < i ∨ y = i) with e | e; exact HPRE.out y e; rw [e]; exact hfi, ⟨_, _, _, (show O _ _ _ _ _ _ ((i + 1 : Nat) : Int) _ _ _ _ from q9), HHO.out, own9, fun k hk => by simp [Value.ownBlock] at hk; omega⟩, bel9⟩)
        have hn9 : left h (w8.setCell ⟨g, 1, none⟩ (.slice (some ⟨h8, 0, none⟩) (i + 1) cap8)) = 64 - (i + 1) := by unfold left; rw [q9.C.cell0 0 (u := .int .u16 ((i : Int) + 1)) rfl]; show 64 - ((i : Int) + 1).toNat = 64 - (i + 1); omega
        have HN9 := Lib.hid hn9
        clear hown8 q9 own9 bel9 bel8 M8 C8 hn9
        go_wp2_with fail
        go_roundw
        case rel => exact HX.out
        case measure => rw [show left h wr = _ from HNX.out]; have := HN9.out; omega
end Go.Proofs.Ytdocphkpeonldaa.del
