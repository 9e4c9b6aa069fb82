/- Layer 10: a cookie got out of sealed bytes. -/
import Derived.Test.YtbdbcjhahlofiaaDoorCooD
import Derived.Test.YtbdbcjhahlofiaaDoorKitE
namespace Go.Proofs.YtbdbcjhahlofiaaDoor.coo
open Go.Sort (grow)
open Go.ChangeShapes Go.WideShapes Go.ChangeAt Go.RowKit kit oct
open dig (Starts Added)
open mac (macS macS_size mac_any refmac_any is_any)
set_option maxRecDepth 100000

/-- Bytes without their seal; their seal. -/
def body (s : ByteArray) : ByteArray := s.extract 0 (s.size - 20)
def tail (s : ByteArray) : ByteArray := s.extract (s.size - 20) s.size
def lateP (c : Ck) (now : Int) : Prop := c.made < now ∧ 600 < now - c.made
instance (c : Ck) (now : Int) : Decidable (lateP c now) := by unfold lateP; infer_instance
/-- What bytes are got as: the cookie, by how much it is too old, the error. -/
def getC (key s : ByteArray) : Ck := if 20 ≤ s.size ∧ tail s = macS key (body s) then readC (body s) else Ck.zero
def getE (key s : ByteArray) (now : Int) : Int := if s.size < 20 then 2 else if tail s = macS key (body s) then (if okR (body s) then (if lateP (readC (body s)) now then 101 else 0) else readE (body s)) else 100
def getT (key s : ByteArray) (now : Int) : Int := if 20 ≤ s.size ∧ tail s = macS key (body s) ∧ okR (body s) ∧ lateP (readC (body s)) now then now - (readC (body s)).made - 600 else 0
theorem readC_bad {s : ByteArray} (h : ¬ okR s) : readC s = Ck.zero := by unfold readC; rw [if_neg h]
theorem slice_body (s : ByteArray) (h : 20 ≤ s.size) (w : World) : (Instr.slice 9 (.string s) none (some (.int .i64 ((s.size : Int) - 20))) none).run Tryd.prog w = .ok (.string (body s)) w := by
  have := run_slice_string_h (P := Tryd.prog) w 9 s Tryd.underlying9 .i64 ((s.size : Int) - 20) (by omega) (by omega)
  rw [this]
  unfold body
  congr 3
  omega
theorem slice_tail (s : ByteArray) (h : 20 ≤ s.size) (w : World) : (Instr.slice 9 (.string s) (some (.int .i64 ((s.size : Int) - 20))) none none).run Tryd.prog w = .ok (.string (tail s)) w := by
  have := run_slice_string_l (P := Tryd.prog) w 9 s Tryd.underlying9 .i64 ((s.size : Int) - 20) (by omega) (by omega)
  rw [this]
  unfold tail
  congr 3
  omega
/-- Three results, the first of which lies in memory. -/
theorem results_cell_2 {P : Program} {fn : Func} {p u v : Tmp} {ty : TypeId} (hr : fn.results = #[.cell p ty, .tmp u, .tmp v]) (tmps : Array Value) (w : World) (h o : Nat) (cs : Array Value) (d : TypeDesc)
    (hp : tmps.getD p undef = .pointer (some ⟨h, o, none⟩)) (C : Cel w h o cs)
    (hu : P.underlying ty = some d) (hd : (match d with | .struct _ | .array _ _ => true | _ => false) = true) (hi : (P.info? ty).map (·.size) = some cs.size) :
    (results fn tmps).run P w = .ok (.tuple #[.agg cs, tmps.getD u undef, tmps.getD v undef]) w := by
  have hp' : tmps[p]?.getD undef = .pointer (some ⟨h, o, none⟩) := by simpa using hp
  simp [results, hr, hp', asAddr, run_loadVar_at ty d C hu hd hi, Sem.run_bind, Array.mapM_eq_mapM_toList]
set_option maxHeartbeats 4000000 in
theorem get_any (key s : ByteArray) (now : Int) (w : World) (S0 : Starts w) (A : Added w) (hk : key.size ≤ 1000000) (hs : s.size ≤ 900000) (hn : now ≤ 9223372036854775807) : Calls Tryd.prog 14 #[.string key, .string s, .int .i64 now] w fun e w' => e = .returned (.tuple #[.agg (getC key s).cells, .int .i64 (getT key s now), .int .i64 (getE key s now)]) ∧ Below w.heap.size w w' := by
  have Z0 := Blk.new w 25 #[.int .i64 0, .int .u32 0, .int .u32 0, .int .u32 0, .int .u32 0, .int .u32 0, .int .u32 0, .int .i64 0, .int .i64 0, .int .u32 0, .int .i64 0, .int .i64 0, .int .u32 0, .int .u32 0, .string ⟨#[]⟩, .string ⟨#[]⟩]
  have bel0 := (Below.refl w.heap.size w).alloc (Nat.le_refl _) (.cells #[.int .i64 0, .int .u32 0, .int .u32 0, .int .u32 0, .int .u32 0, .int .u32 0, .int .u32 0, .int .i64 0, .int .i64 0, .int .u32 0, .int .i64 0, .int .i64 0, .int .u32 0, .int .u32 0, .string ⟨#[]⟩, .string ⟨#[]⟩] 25)
  go_enter Tryd.func14, Tryd.ntmps14
  go_upto_region 1 with (fail)
  generalize w.alloc (.cells #[.int .i64 0, .int .u32 0, .int .u32 0, .int .u32 0, .int .u32 0, .int .u32 0, .int .u32 0, .int .i64 0, .int .i64 0, .int .u32 0, .int .i64 0, .int .i64 0, .int .u32 0, .int .u32 0, .string ⟨#[]⟩, .string ⟨#[]⟩] 25) = w0 at *
  by_cases h20 : s.size < 20
  · have hd : decide ((s.size : Int) < 20) = true := decide_eq_true (by omega)
    have hres : getC key s = Ck.zero ∧ getT key s now = 0 ∧ getE key s now = 2 := ⟨by unfold getC; rw [if_neg (by omega)], by unfold getT; rw [if_neg (by omega)], by unfold getE; rw [if_pos (by omega)]⟩
    have ZQ := Z0
    have BQ := bel0
    clear Z0 bel0
    go_wp2_with (refine wpList_store_at rfl 25 _ _ rfl w.heap.size 0 #[.int .i64 0, .int .u32 0, .int .u32 0, .int .u32 0, .int .u32 0, .int .u32 0, .int .u32 0, .int .i64 0, .int .i64 0, .int .u32 0, .int .i64 0, .int .i64 0, .int .u32 0, .int .u32 0, .string ⟨#[]⟩, .string ⟨#[]⟩] rfl rfl _ (Cel.of_blk ZQ) szZ rfl (by kernel_rfl) ?_)
    have KK := (Cel.of_blk ZQ).setCells_same (Array.toList #[.int .i64 0, .int .u32 0, .int .u32 0, .int .u32 0, .int .u32 0, .int .u32 0, .int .u32 0, .int .i64 0, .int .i64 0, .int .u32 0, .int .i64 0, .int .i64 0, .int .u32 0, .int .u32 0, .string ⟨#[]⟩, .string ⟨#[]⟩]) rfl
    have belE := below_setCells BQ (Nat.le_refl _) 0 (Array.toList #[.int .i64 0, .int .u32 0, .int .u32 0, .int .u32 0, .int .u32 0, .int .u32 0, .int .u32 0, .int .i64 0, .int .i64 0, .int .u32 0, .int .i64 0, .int .i64 0, .int .u32 0, .int .u32 0, .string ⟨#[]⟩, .string ⟨#[]⟩])
    exact bodyPost_ret (v := .tuple #[.agg #[.int .i64 0, .int .u32 0, .int .u32 0, .int .u32 0, .int .u32 0, .int .u32 0, .int .u32 0, .int .i64 0, .int .i64 0, .int .u32 0, .int .i64 0, .int .i64 0, .int .u32 0, .int .u32 0, .string ⟨#[]⟩, .string ⟨#[]⟩], .int .i64 0, .int .i64 2]) (by rw [results_cell_2 rfl _ _ w.heap.size 0 #[.int .i64 0, .int .u32 0, .int .u32 0, .int .u32 0, .int .u32 0, .int .u32 0, .int .u32 0, .int .i64 0, .int .i64 0, .int .u32 0, .int .i64 0, .int .i64 0, .int .u32 0, .int .u32 0, .string ⟨#[]⟩, .string ⟨#[]⟩] _ rfl KK Tryd.underlying25 rfl szZ]; rfl) rfl ⟨by first | (rw [hres.1, hres.2.1, hres.2.2]; rfl) | rfl, belE⟩
  · have h20 : 20 ≤ s.size := by omega
    have hd : decide ((s.size : Int) < 20) = false := decide_eq_false (by omega)
    have sl1 := fun w => slice_body s h20 w
    have sl2 := fun w => slice_tail s h20 w
    have hbz : (body s).size ≤ 900000 := by unfold body; simp; omega
    have htz : (tail s).size ≤ maxLen := by unfold tail maxLen; simp; omega
    have S1 := S0.below bel0
    have A1 := A.below bel0
    have hI := fun d os => is_any key (body s) (tail s) (grow (redrawn w0 d) os) (S1.below (below_regrown w0 d os)) (A1.below (below_regrown w0 d os)) hk hbz htz
    have hR := fun w => read_any (body s) w (by unfold maxLen; omega)
    have HG := Lib.hid (show getC key s = (if tail s = macS key (body s) then readC (body s) else Ck.zero) ∧ getE key s now = (if tail s = macS key (body s) then (if okR (body s) then (if lateP (readC (body s)) now then 101 else 0) else readE (body s)) else 100) ∧ getT key s now = (if tail s = macS key (body s) ∧ okR (body s) ∧ lateP (readC (body s)) now then now - (readC (body s)).made - 600 else 0) from ⟨by unfold getC; simp only [h20, true_and], by unfold getE; rw [if_neg (by omega)], by unfold getT; simp only [h20, true_and]⟩)
    go_upto_region 4 with (fail)
    by_cases hq : tail s = macS key (body s)
    · have HQ := Lib.hid hq
      rw [decide_eq_true hq] at hI
      clear hq
      refine wp_region_quiet_below (by kernel_rfl) (by kernel_rfl) ?_
      repeat (any_goals (first | go_big_quiet_step (((go_at_call 25; exact Calls.regrown_of (hI _ _)))) | quiet_step (((go_at_call 25; exact Calls.regrown_of (hI _ _))))))
      refine wpQuiet_nil ?_
      intro _ hw'
      obtain ⟨⟨dq, osq⟩, hw''⟩ := hw'
      subst hw''
      have ZQ := Z0.below (below_regrown w0 dq osq) Z0.lt
      have BQ := bel0.trans ((below_regrown w0 dq osq).mono bel0.size)
      clear Z0 bel0 hI S1 A1
      generalize grow (redrawn w0 dq) osq = w1 at *
      go_wp2_with fail
      refine (hR _).mono ?_
      rintro e w2 ⟨rfl, hb2⟩
      have Z2 := ZQ.below hb2 ZQ.lt
      have B2 := BQ.trans (hb2.mono BQ.size)
      clear ZQ BQ hb2 hR sl1 sl2 hd
      obtain ⟨c, hc⟩ : ∃ c, readC (body s) = c := ⟨_, rfl⟩
      obtain ⟨er, her⟩ : ∃ e, readE (body s) = e := ⟨_, rfl⟩
      rw [hc, her]
      rw [hc, her] at HG
      have HC := Lib.hid hc
      have HER := Lib.hid her
      clear hc her
      obtain ⟨made, mine, yours, myTsn, yourTsn, peer, loc, peerPort, myPort, rwnd, out, inn, tieMine, tieYours, X, Y⟩ := c
      dsimp only [Ck.cells]
      have ZN : Blk (w2.alloc (.cells #[.int .i64 made, .int .u32 mine, .int .u32 yours, .int .u32 myTsn, .int .u32 yourTsn, .int .u32 peer, .int .u32 loc, .int .i64 peerPort, .int .i64 myPort, .int .u32 rwnd, .int .i64 out, .int .i64 inn, .int .u32 tieMine, .int .u32 tieYours, .string X, .string Y] 25)) w.heap.size 25 #[.int .i64 0, .int .u32 0, .int .u32 0, .int .u32 0, .int .u32 0, .int .u32 0, .int .u32 0, .int .i64 0, .int .i64 0, .int .u32 0, .int .i64 0, .int .i64 0, .int .u32 0, .int .u32 0, .string ⟨#[]⟩, .string ⟨#[]⟩] := Z2.alloc _
      have UN := Blk.new w2 25 #[.int .i64 made, .int .u32 mine, .int .u32 yours, .int .u32 myTsn, .int .u32 yourTsn, .int .u32 peer, .int .u32 loc, .int .i64 peerPort, .int .i64 myPort, .int .u32 rwnd, .int .i64 out, .int .i64 inn, .int .u32 tieMine, .int .u32 tieYours, .string X, .string Y]
      have BN := B2.alloc B2.size (.cells #[.int .i64 made, .int .u32 mine, .int .u32 yours, .int .u32 myTsn, .int .u32 yourTsn, .int .u32 peer, .int .u32 loc, .int .i64 peerPort, .int .i64 myPort, .int .u32 rwnd, .int .i64 out, .int .i64 inn, .int .u32 tieMine, .int .u32 tieYours, .string X, .string Y] 25)
      have hw2 : w.heap.size < w2.heap.size := Z2.lt
      clear Z2 B2
      go_upto_region 7 with (fail)
      generalize w2.alloc (.cells #[.int .i64 made, .int .u32 mine, .int .u32 yours, .int .u32 myTsn, .int .u32 yourTsn, .int .u32 peer, .int .u32 loc, .int .i64 peerPort, .int .i64 myPort, .int .u32 rwnd, .int .i64 out, .int .i64 inn, .int .u32 tieMine, .int .u32 tieYours, .string X, .string Y] 25) = w3 at *
      have hok := Lib.hid (Classical.em (okR (body s)))
      by_cases ho : okR (body s)
      · have hE0 : er = 0 := by rw [← HER.out]; exact readE_zero.2 ho
        have hm0 : 0 ≤ made := by
          have h1 : readC (body s) = parse (body s) := by unfold readC; rw [if_pos ho]
          have h2 : (parse (body s)).made = made := by rw [← h1, HC.out]
          have := ho.2.2.1
          omega
        have hG : getC key s = (⟨made, mine, yours, myTsn, yourTsn, peer, loc, peerPort, myPort, rwnd, out, inn, tieMine, tieYours, X, Y⟩ : Ck) ∧ getE key s now = (if lateP (⟨made, mine, yours, myTsn, yourTsn, peer, loc, peerPort, myPort, rwnd, out, inn, tieMine, tieYours, X, Y⟩ : Ck) now then 101 else 0) ∧ getT key s now = (if lateP (⟨made, mine, yours, myTsn, yourTsn, peer, loc, peerPort, myPort, rwnd, out, inn, tieMine, tieYours, X, Y⟩ : Ck) now then now - made - 600 else 0) := ⟨by rw [HG.out.1, if_pos HQ.out], by rw [HG.out.2.1, if_pos HQ.out, if_pos ho], by rw [HG.out.2.2]; by_cases hl : lateP (⟨made, mine, yours, myTsn, yourTsn, peer, loc, peerPort, myPort, rwnd, out, inn, tieMine, tieYours, X, Y⟩ : Ck) now; rw [if_pos ⟨HQ.out, ho, hl⟩, if_pos hl]; rw [if_neg (fun h => hl h.2.2), if_neg hl]⟩
        subst hE0
        clear HG HQ HC HER hok ho
        have szR : (Tryd.prog.info? 25).map (·.size) = some (#[.int .i64 made, .int .u32 mine, .int .u32 yours, .int .u32 myTsn, .int .u32 yourTsn, .int .u32 peer, .int .u32 loc, .int .i64 peerPort, .int .i64 myPort, .int .u32 rwnd, .int .i64 out, .int .i64 inn, .int .u32 tieMine, .int .u32 tieYours, .string X, .string Y] : Array Value).size := by show _ = some 16; kernel_rfl
        have c0 : w3.cell? ⟨w2.heap.size, 0, none⟩ = some (.int .i64 made) := UN.cell 0
        have hw1 : IntKind.i64.wrap (now - made) = now - made ∨ ¬ made < now := by by_cases q : made < now; exact .inl (IntWalk.i64_in _ (by omega)); exact .inr q
        by_cases hl : lateP (⟨made, mine, yours, myTsn, yourTsn, peer, loc, peerPort, myPort, rwnd, out, inn, tieMine, tieYours, X, Y⟩ : Ck) now
        · obtain ⟨hl1, hl2⟩ := hl
          simp only at hl1 hl2
          have hres : getC key s = (⟨made, mine, yours, myTsn, yourTsn, peer, loc, peerPort, myPort, rwnd, out, inn, tieMine, tieYours, X, Y⟩ : Ck) ∧ getT key s now = now - made - 600 ∧ getE key s now = 101 := ⟨hG.1, by rw [hG.2.2, if_pos ⟨hl1, hl2⟩], by rw [hG.2.1, if_pos ⟨hl1, hl2⟩]⟩
          have hw2 := hw1.resolve_right (fun h => h hl1)
          have hw3 : IntKind.i64.wrap (now - made - 600) = now - made - 600 := IntWalk.i64_in _ (by omega)
          have d1 : decide (made < now) = true := decide_eq_true hl1
          have d2 : decide (600 < now - made) = true := decide_eq_true hl2
          clear hG hw1
          go_upto_region 10 with (fail)
          have u0 : w3.cell? ⟨w2.heap.size, 0, none⟩ = some (.int .i64 made) := UN.cell 0
          have z0 : w3.cell? ⟨w.heap.size, 0, none⟩ = some (.int .i64 0) := ZN.cell 0
          have y0 : w3.frozen? ⟨w.heap.size, 0, none⟩ = false := ZN.frozen 0
          have u1 : w3.cell? ⟨w2.heap.size, 1, none⟩ = some (.int .u32 mine) := UN.cell 1
          have z1 : w3.cell? ⟨w.heap.size, 1, none⟩ = some (.int .u32 0) := ZN.cell 1
          have y1 : w3.frozen? ⟨w.heap.size, 1, none⟩ = false := ZN.frozen 1
          have u2 : w3.cell? ⟨w2.heap.size, 2, none⟩ = some (.int .u32 yours) := UN.cell 2
          have z2 : w3.cell? ⟨w.heap.size, 2, none⟩ = some (.int .u32 0) := ZN.cell 2
          have y2 : w3.frozen? ⟨w.heap.size, 2, none⟩ = false := ZN.frozen 2
          have u3 : w3.cell? ⟨w2.heap.size, 3, none⟩ = some (.int .u32 myTsn) := UN.cell 3
          have z3 : w3.cell? ⟨w.heap.size, 3, none⟩ = some (.int .u32 0) := ZN.cell 3
          have y3 : w3.frozen? ⟨w.heap.size, 3, none⟩ = false := ZN.frozen 3
          have u4 : w3.cell? ⟨w2.heap.size, 4, none⟩ = some (.int .u32 yourTsn) := UN.cell 4
          have z4 : w3.cell? ⟨w.heap.size, 4, none⟩ = some (.int .u32 0) := ZN.cell 4
          have y4 : w3.frozen? ⟨w.heap.size, 4, none⟩ = false := ZN.frozen 4
          have u5 : w3.cell? ⟨w2.heap.size, 5, none⟩ = some (.int .u32 peer) := UN.cell 5
          have z5 : w3.cell? ⟨w.heap.size, 5, none⟩ = some (.int .u32 0) := ZN.cell 5
          have y5 : w3.frozen? ⟨w.heap.size, 5, none⟩ = false := ZN.frozen 5
          have u6 : w3.cell? ⟨w2.heap.size, 6, none⟩ = some (.int .u32 loc) := UN.cell 6
          have z6 : w3.cell? ⟨w.heap.size, 6, none⟩ = some (.int .u32 0) := ZN.cell 6
          have y6 : w3.frozen? ⟨w.heap.size, 6, none⟩ = false := ZN.frozen 6
          have u7 : w3.cell? ⟨w2.heap.size, 7, none⟩ = some (.int .i64 peerPort) := UN.cell 7
          have z7 : w3.cell? ⟨w.heap.size, 7, none⟩ = some (.int .i64 0) := ZN.cell 7
          have y7 : w3.frozen? ⟨w.heap.size, 7, none⟩ = false := ZN.frozen 7
          have u8 : w3.cell? ⟨w2.heap.size, 8, none⟩ = some (.int .i64 myPort) := UN.cell 8
          have z8 : w3.cell? ⟨w.heap.size, 8, none⟩ = some (.int .i64 0) := ZN.cell 8
          have y8 : w3.frozen? ⟨w.heap.size, 8, none⟩ = false := ZN.frozen 8
          have u9 : w3.cell? ⟨w2.heap.size, 9, none⟩ = some (.int .u32 rwnd) := UN.cell 9
          have z9 : w3.cell? ⟨w.heap.size, 9, none⟩ = some (.int .u32 0) := ZN.cell 9
          have y9 : w3.frozen? ⟨w.heap.size, 9, none⟩ = false := ZN.frozen 9
          have u10 : w3.cell? ⟨w2.heap.size, 10, none⟩ = some (.int .i64 out) := UN.cell 10
          have z10 : w3.cell? ⟨w.heap.size, 10, none⟩ = some (.int .i64 0) := ZN.cell 10
          have y10 : w3.frozen? ⟨w.heap.size, 10, none⟩ = false := ZN.frozen 10
          have u11 : w3.cell? ⟨w2.heap.size, 11, none⟩ = some (.int .i64 inn) := UN.cell 11
          have z11 : w3.cell? ⟨w.heap.size, 11, none⟩ = some (.int .i64 0) := ZN.cell 11
          have y11 : w3.frozen? ⟨w.heap.size, 11, none⟩ = false := ZN.frozen 11
          have u12 : w3.cell? ⟨w2.heap.size, 12, none⟩ = some (.int .u32 tieMine) := UN.cell 12
          have z12 : w3.cell? ⟨w.heap.size, 12, none⟩ = some (.int .u32 0) := ZN.cell 12
          have y12 : w3.frozen? ⟨w.heap.size, 12, none⟩ = false := ZN.frozen 12
          have u13 : w3.cell? ⟨w2.heap.size, 13, none⟩ = some (.int .u32 tieYours) := UN.cell 13
          have z13 : w3.cell? ⟨w.heap.size, 13, none⟩ = some (.int .u32 0) := ZN.cell 13
          have y13 : w3.frozen? ⟨w.heap.size, 13, none⟩ = false := ZN.frozen 13
          have u14 : w3.cell? ⟨w2.heap.size, 14, none⟩ = some (.string X) := UN.cell 14
          have z14 : w3.cell? ⟨w.heap.size, 14, none⟩ = some (.string ⟨#[]⟩) := ZN.cell 14
          have y14 : w3.frozen? ⟨w.heap.size, 14, none⟩ = false := ZN.frozen 14
          have u15 : w3.cell? ⟨w2.heap.size, 15, none⟩ = some (.string Y) := UN.cell 15
          have z15 : w3.cell? ⟨w.heap.size, 15, none⟩ = some (.string ⟨#[]⟩) := ZN.cell 15
          have y15 : w3.frozen? ⟨w.heap.size, 15, none⟩ = false := ZN.frozen 15
          have ZS0 : Blk (w3.setCell ⟨w.heap.size, 0, none⟩ (.int .i64 made)) w.heap.size 25 #[.int .i64 made, .int .u32 0, .int .u32 0, .int .u32 0, .int .u32 0, .int .u32 0, .int .u32 0, .int .i64 0, .int .i64 0, .int .u32 0, .int .i64 0, .int .i64 0, .int .u32 0, .int .u32 0, .string ⟨#[]⟩, .string ⟨#[]⟩] := ZN.set_ 0 (.int .i64 made)
          have BS0 := BN.setCell (p := ⟨w.heap.size, 0, none⟩) (Nat.le_refl _) (.int .i64 made)
          have ZS1 : Blk ((w3.setCell ⟨w.heap.size, 0, none⟩ (.int .i64 made)).setCell ⟨w.heap.size, 1, none⟩ (.int .u32 mine)) w.heap.size 25 #[.int .i64 made, .int .u32 mine, .int .u32 0, .int .u32 0, .int .u32 0, .int .u32 0, .int .u32 0, .int .i64 0, .int .i64 0, .int .u32 0, .int .i64 0, .int .i64 0, .int .u32 0, .int .u32 0, .string ⟨#[]⟩, .string ⟨#[]⟩] := ZS0.set_ 1 (.int .u32 mine)
          have BS1 := BS0.setCell (p := ⟨w.heap.size, 1, none⟩) (Nat.le_refl _) (.int .u32 mine)
          clear ZS0 BS0
          have ZS2 : Blk (((w3.setCell ⟨w.heap.size, 0, none⟩ (.int .i64 made)).setCell ⟨w.heap.size, 1, none⟩ (.int .u32 mine)).setCell ⟨w.heap.size, 2, none⟩ (.int .u32 yours)) w.heap.size 25 #[.int .i64 made, .int .u32 mine, .int .u32 yours, .int .u32 0, .int .u32 0, .int .u32 0, .int .u32 0, .int .i64 0, .int .i64 0, .int .u32 0, .int .i64 0, .int .i64 0, .int .u32 0, .int .u32 0, .string ⟨#[]⟩, .string ⟨#[]⟩] := ZS1.set_ 2 (.int .u32 yours)
          have BS2 := BS1.setCell (p := ⟨w.heap.size, 2, none⟩) (Nat.le_refl _) (.int .u32 yours)
          clear ZS1 BS1
          have ZS3 : Blk ((((w3.setCell ⟨w.heap.size, 0, none⟩ (.int .i64 made)).setCell ⟨w.heap.size, 1, none⟩ (.int .u32 mine)).setCell ⟨w.heap.size, 2, none⟩ (.int .u32 yours)).setCell ⟨w.heap.size, 3, none⟩ (.int .u32 myTsn)) w.heap.size 25 #[.int .i64 made, .int .u32 mine, .int .u32 yours, .int .u32 myTsn, .int .u32 0, .int .u32 0, .int .u32 0, .int .i64 0, .int .i64 0, .int .u32 0, .int .i64 0, .int .i64 0, .int .u32 0, .int .u32 0, .string ⟨#[]⟩, .string ⟨#[]⟩] := ZS2.set_ 3 (.int .u32 myTsn)
          have BS3 := BS2.setCell (p := ⟨w.heap.size, 3, none⟩) (Nat.le_refl _) (.int .u32 myTsn)
          clear ZS2 BS2
          have ZS4 : Blk (((((w3.setCell ⟨w.heap.size, 0, none⟩ (.int .i64 made)).setCell ⟨w.heap.size, 1, none⟩ (.int .u32 mine)).setCell ⟨w.heap.size, 2, none⟩ (.int .u32 yours)).setCell ⟨w.heap.size, 3, none⟩ (.int .u32 myTsn)).setCell ⟨w.heap.size, 4, none⟩ (.int .u32 yourTsn)) w.heap.size 25 #[.int .i64 made, .int .u32 mine, .int .u32 yours, .int .u32 myTsn, .int .u32 yourTsn, .int .u32 0, .int .u32 0, .int .i64 0, .int .i64 0, .int .u32 0, .int .i64 0, .int .i64 0, .int .u32 0, .int .u32 0, .string ⟨#[]⟩, .string ⟨#[]⟩] := ZS3.set_ 4 (.int .u32 yourTsn)
          have BS4 := BS3.setCell (p := ⟨w.heap.size, 4, none⟩) (Nat.le_refl _) (.int .u32 yourTsn)
          clear ZS3 BS3
          have ZS5 : Blk ((((((w3.setCell ⟨w.heap.size, 0, none⟩ (.int .i64 made)).setCell ⟨w.heap.size, 1, none⟩ (.int .u32 mine)).setCell ⟨w.heap.size, 2, none⟩ (.int .u32 yours)).setCell ⟨w.heap.size, 3, none⟩ (.int .u32 myTsn)).setCell ⟨w.heap.size, 4, none⟩ (.int .u32 yourTsn)).setCell ⟨w.heap.size, 5, none⟩ (.int .u32 peer)) w.heap.size 25 #[.int .i64 made, .int .u32 mine, .int .u32 yours, .int .u32 myTsn, .int .u32 yourTsn, .int .u32 peer, .int .u32 0, .int .i64 0, .int .i64 0, .int .u32 0, .int .i64 0, .int .i64 0, .int .u32 0, .int .u32 0, .string ⟨#[]⟩, .string ⟨#[]⟩] := ZS4.set_ 5 (.int .u32 peer)
          have BS5 := BS4.setCell (p := ⟨w.heap.size, 5, none⟩) (Nat.le_refl _) (.int .u32 peer)
          clear ZS4 BS4
          have ZS6 : Blk (((((((w3.setCell ⟨w.heap.size, 0, none⟩ (.int .i64 made)).setCell ⟨w.heap.size, 1, none⟩ (.int .u32 mine)).setCell ⟨w.heap.size, 2, none⟩ (.int .u32 yours)).setCell ⟨w.heap.size, 3, none⟩ (.int .u32 myTsn)).setCell ⟨w.heap.size, 4, none⟩ (.int .u32 yourTsn)).setCell ⟨w.heap.size, 5, none⟩ (.int .u32 peer)).setCell ⟨w.heap.size, 6, none⟩ (.int .u32 loc)) w.heap.size 25 #[.int .i64 made, .int .u32 mine, .int .u32 yours, .int .u32 myTsn, .int .u32 yourTsn, .int .u32 peer, .int .u32 loc, .int .i64 0, .int .i64 0, .int .u32 0, .int .i64 0, .int .i64 0, .int .u32 0, .int .u32 0, .string ⟨#[]⟩, .string ⟨#[]⟩] := ZS5.set_ 6 (.int .u32 loc)
          have BS6 := BS5.setCell (p := ⟨w.heap.size, 6, none⟩) (Nat.le_refl _) (.int .u32 loc)
          clear ZS5 BS5
          have ZS7 : Blk ((((((((w3.setCell ⟨w.heap.size, 0, none⟩ (.int .i64 made)).setCell ⟨w.heap.size, 1, none⟩ (.int .u32 mine)).setCell ⟨w.heap.size, 2, none⟩ (.int .u32 yours)).setCell ⟨w.heap.size, 3, none⟩ (.int .u32 myTsn)).setCell ⟨w.heap.size, 4, none⟩ (.int .u32 yourTsn)).setCell ⟨w.heap.size, 5, none⟩ (.int .u32 peer)).setCell ⟨w.heap.size, 6, none⟩ (.int .u32 loc)).setCell ⟨w.heap.size, 7, none⟩ (.int .i64 peerPort)) w.heap.size 25 #[.int .i64 made, .int .u32 mine, .int .u32 yours, .int .u32 myTsn, .int .u32 yourTsn, .int .u32 peer, .int .u32 loc, .int .i64 peerPort, .int .i64 0, .int .u32 0, .int .i64 0, .int .i64 0, .int .u32 0, .int .u32 0, .string ⟨#[]⟩, .string ⟨#[]⟩] := ZS6.set_ 7 (.int .i64 peerPort)
          have BS7 := BS6.setCell (p := ⟨w.heap.size, 7, none⟩) (Nat.le_refl _) (.int .i64 peerPort)
          clear ZS6 BS6
          have ZS8 : Blk (((((((((w3.setCell ⟨w.heap.size, 0, none⟩ (.int .i64 made)).setCell ⟨w.heap.size, 1, none⟩ (.int .u32 mine)).setCell ⟨w.heap.size, 2, none⟩ (.int .u32 yours)).setCell ⟨w.heap.size, 3, none⟩ (.int .u32 myTsn)).setCell ⟨w.heap.size, 4, none⟩ (.int .u32 yourTsn)).setCell ⟨w.heap.size, 5, none⟩ (.int .u32 peer)).setCell ⟨w.heap.size, 6, none⟩ (.int .u32 loc)).setCell ⟨w.heap.size, 7, none⟩ (.int .i64 peerPort)).setCell ⟨w.heap.size, 8, none⟩ (.int .i64 myPort)) w.heap.size 25 #[.int .i64 made, .int .u32 mine, .int .u32 yours, .int .u32 myTsn, .int .u32 yourTsn, .int .u32 peer, .int .u32 loc, .int .i64 peerPort, .int .i64 myPort, .int .u32 0, .int .i64 0, .int .i64 0, .int .u32 0, .int .u32 0, .string ⟨#[]⟩, .string ⟨#[]⟩] := ZS7.set_ 8 (.int .i64 myPort)
          have BS8 := BS7.setCell (p := ⟨w.heap.size, 8, none⟩) (Nat.le_refl _) (.int .i64 myPort)
          clear ZS7 BS7
          have ZS9 : Blk ((((((((((w3.setCell ⟨w.heap.size, 0, none⟩ (.int .i64 made)).setCell ⟨w.heap.size, 1, none⟩ (.int .u32 mine)).setCell ⟨w.heap.size, 2, none⟩ (.int .u32 yours)).setCell ⟨w.heap.size, 3, none⟩ (.int .u32 myTsn)).setCell ⟨w.heap.size, 4, none⟩ (.int .u32 yourTsn)).setCell ⟨w.heap.size, 5, none⟩ (.int .u32 peer)).setCell ⟨w.heap.size, 6, none⟩ (.int .u32 loc)).setCell ⟨w.heap.size, 7, none⟩ (.int .i64 peerPort)).setCell ⟨w.heap.size, 8, none⟩ (.int .i64 myPort)).setCell ⟨w.heap.size, 9, none⟩ (.int .u32 rwnd)) w.heap.size 25 #[.int .i64 made, .int .u32 mine, .int .u32 yours, .int .u32 myTsn, .int .u32 yourTsn, .int .u32 peer, .int .u32 loc, .int .i64 peerPort, .int .i64 myPort, .int .u32 rwnd, .int .i64 0, .int .i64 0, .int .u32 0, .int .u32 0, .string ⟨#[]⟩, .string ⟨#[]⟩] := ZS8.set_ 9 (.int .u32 rwnd)
          have BS9 := BS8.setCell (p := ⟨w.heap.size, 9, none⟩) (Nat.le_refl _) (.int .u32 rwnd)
          clear ZS8 BS8
          have ZS10 : Blk (((((((((((w3.setCell ⟨w.heap.size, 0, none⟩ (.int .i64 made)).setCell ⟨w.heap.size, 1, none⟩ (.int .u32 mine)).setCell ⟨w.heap.size, 2, none⟩ (.int .u32 yours)).setCell ⟨w.heap.size, 3, none⟩ (.int .u32 myTsn)).setCell ⟨w.heap.size, 4, none⟩ (.int .u32 yourTsn)).setCell ⟨w.heap.size, 5, none⟩ (.int .u32 peer)).setCell ⟨w.heap.size, 6, none⟩ (.int .u32 loc)).setCell ⟨w.heap.size, 7, none⟩ (.int .i64 peerPort)).setCell ⟨w.heap.size, 8, none⟩ (.int .i64 myPort)).setCell ⟨w.heap.size, 9, none⟩ (.int .u32 rwnd)).setCell ⟨w.heap.size, 10, none⟩ (.int .i64 out)) w.heap.size 25 #[.int .i64 made, .int .u32 mine, .int .u32 yours, .int .u32 myTsn, .int .u32 yourTsn, .int .u32 peer, .int .u32 loc, .int .i64 peerPort, .int .i64 myPort, .int .u32 rwnd, .int .i64 out, .int .i64 0, .int .u32 0, .int .u32 0, .string ⟨#[]⟩, .string ⟨#[]⟩] := ZS9.set_ 10 (.int .i64 out)
          have BS10 := BS9.setCell (p := ⟨w.heap.size, 10, none⟩) (Nat.le_refl _) (.int .i64 out)
          clear ZS9 BS9
          have ZS11 : Blk ((((((((((((w3.setCell ⟨w.heap.size, 0, none⟩ (.int .i64 made)).setCell ⟨w.heap.size, 1, none⟩ (.int .u32 mine)).setCell ⟨w.heap.size, 2, none⟩ (.int .u32 yours)).setCell ⟨w.heap.size, 3, none⟩ (.int .u32 myTsn)).setCell ⟨w.heap.size, 4, none⟩ (.int .u32 yourTsn)).setCell ⟨w.heap.size, 5, none⟩ (.int .u32 peer)).setCell ⟨w.heap.size, 6, none⟩ (.int .u32 loc)).setCell ⟨w.heap.size, 7, none⟩ (.int .i64 peerPort)).setCell ⟨w.heap.size, 8, none⟩ (.int .i64 myPort)).setCell ⟨w.heap.size, 9, none⟩ (.int .u32 rwnd)).setCell ⟨w.heap.size, 10, none⟩ (.int .i64 out)).setCell ⟨w.heap.size, 11, none⟩ (.int .i64 inn)) w.heap.size 25 #[.int .i64 made, .int .u32 mine, .int .u32 yours, .int .u32 myTsn, .int .u32 yourTsn, .int .u32 peer, .int .u32 loc, .int .i64 peerPort, .int .i64 myPort, .int .u32 rwnd, .int .i64 out, .int .i64 inn, .int .u32 0, .int .u32 0, .string ⟨#[]⟩, .string ⟨#[]⟩] := ZS10.set_ 11 (.int .i64 inn)
          have BS11 := BS10.setCell (p := ⟨w.heap.size, 11, none⟩) (Nat.le_refl _) (.int .i64 inn)
          clear ZS10 BS10
          have ZS12 : Blk (((((((((((((w3.setCell ⟨w.heap.size, 0, none⟩ (.int .i64 made)).setCell ⟨w.heap.size, 1, none⟩ (.int .u32 mine)).setCell ⟨w.heap.size, 2, none⟩ (.int .u32 yours)).setCell ⟨w.heap.size, 3, none⟩ (.int .u32 myTsn)).setCell ⟨w.heap.size, 4, none⟩ (.int .u32 yourTsn)).setCell ⟨w.heap.size, 5, none⟩ (.int .u32 peer)).setCell ⟨w.heap.size, 6, none⟩ (.int .u32 loc)).setCell ⟨w.heap.size, 7, none⟩ (.int .i64 peerPort)).setCell ⟨w.heap.size, 8, none⟩ (.int .i64 myPort)).setCell ⟨w.heap.size, 9, none⟩ (.int .u32 rwnd)).setCell ⟨w.heap.size, 10, none⟩ (.int .i64 out)).setCell ⟨w.heap.size, 11, none⟩ (.int .i64 inn)).setCell ⟨w.heap.size, 12, none⟩ (.int .u32 tieMine)) w.heap.size 25 #[.int .i64 made, .int .u32 mine, .int .u32 yours, .int .u32 myTsn, .int .u32 yourTsn, .int .u32 peer, .int .u32 loc, .int .i64 peerPort, .int .i64 myPort, .int .u32 rwnd, .int .i64 out, .int .i64 inn, .int .u32 tieMine, .int .u32 0, .string ⟨#[]⟩, .string ⟨#[]⟩] := ZS11.set_ 12 (.int .u32 tieMine)
          have BS12 := BS11.setCell (p := ⟨w.heap.size, 12, none⟩) (Nat.le_refl _) (.int .u32 tieMine)
          clear ZS11 BS11
          have ZS13 : Blk ((((((((((((((w3.setCell ⟨w.heap.size, 0, none⟩ (.int .i64 made)).setCell ⟨w.heap.size, 1, none⟩ (.int .u32 mine)).setCell ⟨w.heap.size, 2, none⟩ (.int .u32 yours)).setCell ⟨w.heap.size, 3, none⟩ (.int .u32 myTsn)).setCell ⟨w.heap.size, 4, none⟩ (.int .u32 yourTsn)).setCell ⟨w.heap.size, 5, none⟩ (.int .u32 peer)).setCell ⟨w.heap.size, 6, none⟩ (.int .u32 loc)).setCell ⟨w.heap.size, 7, none⟩ (.int .i64 peerPort)).setCell ⟨w.heap.size, 8, none⟩ (.int .i64 myPort)).setCell ⟨w.heap.size, 9, none⟩ (.int .u32 rwnd)).setCell ⟨w.heap.size, 10, none⟩ (.int .i64 out)).setCell ⟨w.heap.size, 11, none⟩ (.int .i64 inn)).setCell ⟨w.heap.size, 12, none⟩ (.int .u32 tieMine)).setCell ⟨w.heap.size, 13, none⟩ (.int .u32 tieYours)) w.heap.size 25 #[.int .i64 made, .int .u32 mine, .int .u32 yours, .int .u32 myTsn, .int .u32 yourTsn, .int .u32 peer, .int .u32 loc, .int .i64 peerPort, .int .i64 myPort, .int .u32 rwnd, .int .i64 out, .int .i64 inn, .int .u32 tieMine, .int .u32 tieYours, .string ⟨#[]⟩, .string ⟨#[]⟩] := ZS12.set_ 13 (.int .u32 tieYours)
          have BS13 := BS12.setCell (p := ⟨w.heap.size, 13, none⟩) (Nat.le_refl _) (.int .u32 tieYours)
          clear ZS12 BS12
          have ZS14 : Blk (((((((((((((((w3.setCell ⟨w.heap.size, 0, none⟩ (.int .i64 made)).setCell ⟨w.heap.size, 1, none⟩ (.int .u32 mine)).setCell ⟨w.heap.size, 2, none⟩ (.int .u32 yours)).setCell ⟨w.heap.size, 3, none⟩ (.int .u32 myTsn)).setCell ⟨w.heap.size, 4, none⟩ (.int .u32 yourTsn)).setCell ⟨w.heap.size, 5, none⟩ (.int .u32 peer)).setCell ⟨w.heap.size, 6, none⟩ (.int .u32 loc)).setCell ⟨w.heap.size, 7, none⟩ (.int .i64 peerPort)).setCell ⟨w.heap.size, 8, none⟩ (.int .i64 myPort)).setCell ⟨w.heap.size, 9, none⟩ (.int .u32 rwnd)).setCell ⟨w.heap.size, 10, none⟩ (.int .i64 out)).setCell ⟨w.heap.size, 11, none⟩ (.int .i64 inn)).setCell ⟨w.heap.size, 12, none⟩ (.int .u32 tieMine)).setCell ⟨w.heap.size, 13, none⟩ (.int .u32 tieYours)).setCell ⟨w.heap.size, 14, none⟩ (.string X)) w.heap.size 25 #[.int .i64 made, .int .u32 mine, .int .u32 yours, .int .u32 myTsn, .int .u32 yourTsn, .int .u32 peer, .int .u32 loc, .int .i64 peerPort, .int .i64 myPort, .int .u32 rwnd, .int .i64 out, .int .i64 inn, .int .u32 tieMine, .int .u32 tieYours, .string X, .string ⟨#[]⟩] := ZS13.set_ 14 (.string X)
          have BS14 := BS13.setCell (p := ⟨w.heap.size, 14, none⟩) (Nat.le_refl _) (.string X)
          clear ZS13 BS13
          have ZS15 : Blk ((((((((((((((((w3.setCell ⟨w.heap.size, 0, none⟩ (.int .i64 made)).setCell ⟨w.heap.size, 1, none⟩ (.int .u32 mine)).setCell ⟨w.heap.size, 2, none⟩ (.int .u32 yours)).setCell ⟨w.heap.size, 3, none⟩ (.int .u32 myTsn)).setCell ⟨w.heap.size, 4, none⟩ (.int .u32 yourTsn)).setCell ⟨w.heap.size, 5, none⟩ (.int .u32 peer)).setCell ⟨w.heap.size, 6, none⟩ (.int .u32 loc)).setCell ⟨w.heap.size, 7, none⟩ (.int .i64 peerPort)).setCell ⟨w.heap.size, 8, none⟩ (.int .i64 myPort)).setCell ⟨w.heap.size, 9, none⟩ (.int .u32 rwnd)).setCell ⟨w.heap.size, 10, none⟩ (.int .i64 out)).setCell ⟨w.heap.size, 11, none⟩ (.int .i64 inn)).setCell ⟨w.heap.size, 12, none⟩ (.int .u32 tieMine)).setCell ⟨w.heap.size, 13, none⟩ (.int .u32 tieYours)).setCell ⟨w.heap.size, 14, none⟩ (.string X)).setCell ⟨w.heap.size, 15, none⟩ (.string Y)) w.heap.size 25 #[.int .i64 made, .int .u32 mine, .int .u32 yours, .int .u32 myTsn, .int .u32 yourTsn, .int .u32 peer, .int .u32 loc, .int .i64 peerPort, .int .i64 myPort, .int .u32 rwnd, .int .i64 out, .int .i64 inn, .int .u32 tieMine, .int .u32 tieYours, .string X, .string Y] := ZS14.set_ 15 (.string Y)
          have BS15 := BS14.setCell (p := ⟨w.heap.size, 15, none⟩) (Nat.le_refl _) (.string Y)
          clear ZS14 BS14
          have ZE := ZS15.drew
          have BE := BS15.drew
          clear ZS15 BS15 ZN UN BN
          go_region
          generalize ((((((((((((((((w3.setCell ⟨w.heap.size, 0, none⟩ (.int .i64 made)).setCell ⟨w.heap.size, 1, none⟩ (.int .u32 mine)).setCell ⟨w.heap.size, 2, none⟩ (.int .u32 yours)).setCell ⟨w.heap.size, 3, none⟩ (.int .u32 myTsn)).setCell ⟨w.heap.size, 4, none⟩ (.int .u32 yourTsn)).setCell ⟨w.heap.size, 5, none⟩ (.int .u32 peer)).setCell ⟨w.heap.size, 6, none⟩ (.int .u32 loc)).setCell ⟨w.heap.size, 7, none⟩ (.int .i64 peerPort)).setCell ⟨w.heap.size, 8, none⟩ (.int .i64 myPort)).setCell ⟨w.heap.size, 9, none⟩ (.int .u32 rwnd)).setCell ⟨w.heap.size, 10, none⟩ (.int .i64 out)).setCell ⟨w.heap.size, 11, none⟩ (.int .i64 inn)).setCell ⟨w.heap.size, 12, none⟩ (.int .u32 tieMine)).setCell ⟨w.heap.size, 13, none⟩ (.int .u32 tieYours)).setCell ⟨w.heap.size, 14, none⟩ (.string X)).setCell ⟨w.heap.size, 15, none⟩ (.string Y)).drew = wz at *
          go_wp2_with fail
          exact bodyPost_ret (v := .tuple #[.agg #[.int .i64 made, .int .u32 mine, .int .u32 yours, .int .u32 myTsn, .int .u32 yourTsn, .int .u32 peer, .int .u32 loc, .int .i64 peerPort, .int .i64 myPort, .int .u32 rwnd, .int .i64 out, .int .i64 inn, .int .u32 tieMine, .int .u32 tieYours, .string X, .string Y], .int .i64 (now - made - 600), .int .i64 101]) (by rw [results_cell_2 rfl _ _ w.heap.size 0 #[.int .i64 made, .int .u32 mine, .int .u32 yours, .int .u32 myTsn, .int .u32 yourTsn, .int .u32 peer, .int .u32 loc, .int .i64 peerPort, .int .i64 myPort, .int .u32 rwnd, .int .i64 out, .int .i64 inn, .int .u32 tieMine, .int .u32 tieYours, .string X, .string Y] _ rfl (Cel.of_blk ZE) Tryd.underlying25 rfl szR]; rfl) rfl ⟨by first | (rw [hres.1, hres.2.1, hres.2.2]; rfl) | rfl, BE⟩
        · have hres : getC key s = (⟨made, mine, yours, myTsn, yourTsn, peer, loc, peerPort, myPort, rwnd, out, inn, tieMine, tieYours, X, Y⟩ : Ck) ∧ getT key s now = 0 ∧ getE key s now = 0 := ⟨hG.1, by rw [hG.2.2, if_neg hl], by rw [hG.2.1, if_neg hl]⟩
          clear hG
          rcases (by by_cases q : made < now; exact .inr ⟨q, fun h => hl ⟨q, h⟩⟩; exact .inl q : ¬ made < now ∨ (made < now ∧ ¬ 600 < now - made)) with q | ⟨q, q2⟩
          · have d1 : decide (made < now) = false := decide_eq_false q
            clear hw1 hl
            go_wp2_with (first | (refine wpList_load_at rfl 25 _ rfl w2.heap.size 0 rfl #[.int .i64 made, .int .u32 mine, .int .u32 yours, .int .u32 myTsn, .int .u32 yourTsn, .int .u32 peer, .int .u32 loc, .int .i64 peerPort, .int .i64 myPort, .int .u32 rwnd, .int .i64 out, .int .i64 inn, .int .u32 tieMine, .int .u32 tieYours, .string X, .string Y] _ (Cel.of_blk UN) Tryd.underlying25 rfl szR ?_) | (refine wpList_store_at rfl 25 _ _ rfl w.heap.size 0 #[.int .i64 made, .int .u32 mine, .int .u32 yours, .int .u32 myTsn, .int .u32 yourTsn, .int .u32 peer, .int .u32 loc, .int .i64 peerPort, .int .i64 myPort, .int .u32 rwnd, .int .i64 out, .int .i64 inn, .int .u32 tieMine, .int .u32 tieYours, .string X, .string Y] rfl rfl _ (Cel.of_blk ZN) szR rfl (by kernel_rfl) ?_))
            have KK := (Cel.of_blk ZN).setCells_same (Array.toList #[.int .i64 made, .int .u32 mine, .int .u32 yours, .int .u32 myTsn, .int .u32 yourTsn, .int .u32 peer, .int .u32 loc, .int .i64 peerPort, .int .i64 myPort, .int .u32 rwnd, .int .i64 out, .int .i64 inn, .int .u32 tieMine, .int .u32 tieYours, .string X, .string Y]) rfl
            have belE := below_setCells BN (Nat.le_refl _) 0 (Array.toList #[.int .i64 made, .int .u32 mine, .int .u32 yours, .int .u32 myTsn, .int .u32 yourTsn, .int .u32 peer, .int .u32 loc, .int .i64 peerPort, .int .i64 myPort, .int .u32 rwnd, .int .i64 out, .int .i64 inn, .int .u32 tieMine, .int .u32 tieYours, .string X, .string Y])
            exact bodyPost_ret (v := .tuple #[.agg #[.int .i64 made, .int .u32 mine, .int .u32 yours, .int .u32 myTsn, .int .u32 yourTsn, .int .u32 peer, .int .u32 loc, .int .i64 peerPort, .int .i64 myPort, .int .u32 rwnd, .int .i64 out, .int .i64 inn, .int .u32 tieMine, .int .u32 tieYours, .string X, .string Y], .int .i64 0, .int .i64 0]) (by rw [results_cell_2 rfl _ _ w.heap.size 0 #[.int .i64 made, .int .u32 mine, .int .u32 yours, .int .u32 myTsn, .int .u32 yourTsn, .int .u32 peer, .int .u32 loc, .int .i64 peerPort, .int .i64 myPort, .int .u32 rwnd, .int .i64 out, .int .i64 inn, .int .u32 tieMine, .int .u32 tieYours, .string X, .string Y] _ rfl KK Tryd.underlying25 rfl szR]; rfl) rfl ⟨by first | (rw [hres.1, hres.2.1, hres.2.2]; rfl) | rfl, belE⟩
          · have hw2 := hw1.resolve_right (fun h => h q)
            have d1 : decide (made < now) = true := decide_eq_true q
            have d2 : decide (600 < now - made) = false := decide_eq_false q2
            clear hw1 hl
            go_wp2_with (first | (refine wpList_load_at rfl 25 _ rfl w2.heap.size 0 rfl #[.int .i64 made, .int .u32 mine, .int .u32 yours, .int .u32 myTsn, .int .u32 yourTsn, .int .u32 peer, .int .u32 loc, .int .i64 peerPort, .int .i64 myPort, .int .u32 rwnd, .int .i64 out, .int .i64 inn, .int .u32 tieMine, .int .u32 tieYours, .string X, .string Y] _ (Cel.of_blk UN) Tryd.underlying25 rfl szR ?_) | (refine wpList_store_at rfl 25 _ _ rfl w.heap.size 0 #[.int .i64 made, .int .u32 mine, .int .u32 yours, .int .u32 myTsn, .int .u32 yourTsn, .int .u32 peer, .int .u32 loc, .int .i64 peerPort, .int .i64 myPort, .int .u32 rwnd, .int .i64 out, .int .i64 inn, .int .u32 tieMine, .int .u32 tieYours, .string X, .string Y] rfl rfl _ (Cel.of_blk ZN) szR rfl (by kernel_rfl) ?_))
            have KK := (Cel.of_blk ZN).setCells_same (Array.toList #[.int .i64 made, .int .u32 mine, .int .u32 yours, .int .u32 myTsn, .int .u32 yourTsn, .int .u32 peer, .int .u32 loc, .int .i64 peerPort, .int .i64 myPort, .int .u32 rwnd, .int .i64 out, .int .i64 inn, .int .u32 tieMine, .int .u32 tieYours, .string X, .string Y]) rfl
            have belE := below_setCells BN (Nat.le_refl _) 0 (Array.toList #[.int .i64 made, .int .u32 mine, .int .u32 yours, .int .u32 myTsn, .int .u32 yourTsn, .int .u32 peer, .int .u32 loc, .int .i64 peerPort, .int .i64 myPort, .int .u32 rwnd, .int .i64 out, .int .i64 inn, .int .u32 tieMine, .int .u32 tieYours, .string X, .string Y])
            exact bodyPost_ret (v := .tuple #[.agg #[.int .i64 made, .int .u32 mine, .int .u32 yours, .int .u32 myTsn, .int .u32 yourTsn, .int .u32 peer, .int .u32 loc, .int .i64 peerPort, .int .i64 myPort, .int .u32 rwnd, .int .i64 out, .int .i64 inn, .int .u32 tieMine, .int .u32 tieYours, .string X, .string Y], .int .i64 0, .int .i64 0]) (by rw [results_cell_2 rfl _ _ w.heap.size 0 #[.int .i64 made, .int .u32 mine, .int .u32 yours, .int .u32 myTsn, .int .u32 yourTsn, .int .u32 peer, .int .u32 loc, .int .i64 peerPort, .int .i64 myPort, .int .u32 rwnd, .int .i64 out, .int .i64 inn, .int .u32 tieMine, .int .u32 tieYours, .string X, .string Y] _ rfl KK Tryd.underlying25 rfl szR]; rfl) rfl ⟨by first | (rw [hres.1, hres.2.1, hres.2.2]; rfl) | rfl, belE⟩
      · have hne : (er != 0) = true := by rw [bne_iff_ne, ← HER.out]; exact fun h => ho (readE_zero.1 h)
        have hres : getC key s = Ck.zero ∧ getT key s now = 0 ∧ getE key s now = er := ⟨by rw [HG.out.1, if_pos HQ.out, ← HC.out]; exact readC_bad ho, by rw [HG.out.2.2, if_neg (fun h => ho h.2.1)], by rw [HG.out.2.1, if_pos HQ.out, if_neg ho]⟩
        have ZQ := ZN
        have BQ := BN
        clear HG HQ HC HER hok ho ZN BN UN
        go_wp2_with (refine wpList_store_at rfl 25 _ _ rfl w.heap.size 0 #[.int .i64 0, .int .u32 0, .int .u32 0, .int .u32 0, .int .u32 0, .int .u32 0, .int .u32 0, .int .i64 0, .int .i64 0, .int .u32 0, .int .i64 0, .int .i64 0, .int .u32 0, .int .u32 0, .string ⟨#[]⟩, .string ⟨#[]⟩] rfl rfl _ (Cel.of_blk ZQ) szZ rfl (by kernel_rfl) ?_)
        have KK := (Cel.of_blk ZQ).setCells_same (Array.toList #[.int .i64 0, .int .u32 0, .int .u32 0, .int .u32 0, .int .u32 0, .int .u32 0, .int .u32 0, .int .i64 0, .int .i64 0, .int .u32 0, .int .i64 0, .int .i64 0, .int .u32 0, .int .u32 0, .string ⟨#[]⟩, .string ⟨#[]⟩]) rfl
        have belE := below_setCells BQ (Nat.le_refl _) 0 (Array.toList #[.int .i64 0, .int .u32 0, .int .u32 0, .int .u32 0, .int .u32 0, .int .u32 0, .int .u32 0, .int .i64 0, .int .i64 0, .int .u32 0, .int .i64 0, .int .i64 0, .int .u32 0, .int .u32 0, .string ⟨#[]⟩, .string ⟨#[]⟩])
        exact bodyPost_ret (v := .tuple #[.agg #[.int .i64 0, .int .u32 0, .int .u32 0, .int .u32 0, .int .u32 0, .int .u32 0, .int .u32 0, .int .i64 0, .int .i64 0, .int .u32 0, .int .i64 0, .int .i64 0, .int .u32 0, .int .u32 0, .string ⟨#[]⟩, .string ⟨#[]⟩], .int .i64 0, .int .i64 er]) (by rw [results_cell_2 rfl _ _ w.heap.size 0 #[.int .i64 0, .int .u32 0, .int .u32 0, .int .u32 0, .int .u32 0, .int .u32 0, .int .u32 0, .int .i64 0, .int .i64 0, .int .u32 0, .int .i64 0, .int .i64 0, .int .u32 0, .int .u32 0, .string ⟨#[]⟩, .string ⟨#[]⟩] _ rfl KK Tryd.underlying25 rfl szZ]; rfl) rfl ⟨by first | (rw [hres.1, hres.2.1, hres.2.2]; rfl) | rfl, belE⟩
    · have hres : getC key s = Ck.zero ∧ getT key s now = 0 ∧ getE key s now = 100 := ⟨by rw [HG.out.1, if_neg hq], by rw [HG.out.2.2, if_neg (fun h => hq h.1)], by rw [HG.out.2.1, if_neg hq]⟩
      rw [decide_eq_false hq] at hI
      clear HG hq
      refine wp_region_quiet_below (by kernel_rfl) (by kernel_rfl) ?_
      repeat (any_goals (first | go_big_quiet_step (((go_at_call 25; exact Calls.regrown_of (hI _ _)))) | quiet_step (((go_at_call 25; exact Calls.regrown_of (hI _ _))))))
      refine wpQuiet_nil ?_
      intro _ hw'
      obtain ⟨⟨dq, osq⟩, hw''⟩ := hw'
      subst hw''
      have ZQ := Z0.below (below_regrown w0 dq osq) Z0.lt
      have BQ := bel0.trans ((below_regrown w0 dq osq).mono bel0.size)
      clear Z0 bel0 hI S1 A1
      generalize grow (redrawn w0 dq) osq = w1 at *
      go_wp2_with (refine wpList_store_at rfl 25 _ _ rfl w.heap.size 0 #[.int .i64 0, .int .u32 0, .int .u32 0, .int .u32 0, .int .u32 0, .int .u32 0, .int .u32 0, .int .i64 0, .int .i64 0, .int .u32 0, .int .i64 0, .int .i64 0, .int .u32 0, .int .u32 0, .string ⟨#[]⟩, .string ⟨#[]⟩] rfl rfl _ (Cel.of_blk ZQ) szZ rfl (by kernel_rfl) ?_)
      have KK := (Cel.of_blk ZQ).setCells_same (Array.toList #[.int .i64 0, .int .u32 0, .int .u32 0, .int .u32 0, .int .u32 0, .int .u32 0, .int .u32 0, .int .i64 0, .int .i64 0, .int .u32 0, .int .i64 0, .int .i64 0, .int .u32 0, .int .u32 0, .string ⟨#[]⟩, .string ⟨#[]⟩]) rfl
      have belE := below_setCells BQ (Nat.le_refl _) 0 (Array.toList #[.int .i64 0, .int .u32 0, .int .u32 0, .int .u32 0, .int .u32 0, .int .u32 0, .int .u32 0, .int .i64 0, .int .i64 0, .int .u32 0, .int .i64 0, .int .i64 0, .int .u32 0, .int .u32 0, .string ⟨#[]⟩, .string ⟨#[]⟩])
      exact bodyPost_ret (v := .tuple #[.agg #[.int .i64 0, .int .u32 0, .int .u32 0, .int .u32 0, .int .u32 0, .int .u32 0, .int .u32 0, .int .i64 0, .int .i64 0, .int .u32 0, .int .i64 0, .int .i64 0, .int .u32 0, .int .u32 0, .string ⟨#[]⟩, .string ⟨#[]⟩], .int .i64 0, .int .i64 100]) (by rw [results_cell_2 rfl _ _ w.heap.size 0 #[.int .i64 0, .int .u32 0, .int .u32 0, .int .u32 0, .int .u32 0, .int .u32 0, .int .u32 0, .int .i64 0, .int .i64 0, .int .u32 0, .int .i64 0, .int .i64 0, .int .u32 0, .int .u32 0, .string ⟨#[]⟩, .string ⟨#[]⟩] _ rfl KK Tryd.underlying25 rfl szZ]; rfl) rfl ⟨by first | (rw [hres.1, hres.2.1, hres.2.2]; rfl) | rfl, belE⟩
end Go.Proofs.YtbdbcjhahlofiaaDoor.coo
