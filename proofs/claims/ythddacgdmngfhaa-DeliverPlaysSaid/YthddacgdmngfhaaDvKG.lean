/- Layer 18: the switch's arms, each over the frame written out (gen-dvk.py wrote this). -/
import Derived.Test.YthddacgdmngfhaaDvJ
namespace Go.Proofs.Ythddacgdmngfhaa.del
open Go.Sort (grow)
open Go.ChangeShapes Go.WideShapes Go.ChangeAt Go.RowKit kit
set_option maxRecDepth 1000000
theorem run_sub {P : Program} {oi : Oper} {a : Act} {x y : Operand} {tx ty : TypeId} {s j u : Value} {v : World} (ho : oi.op = .binOp .sub tx x y ty) (hx : a.eval x = s) (hy : a.eval y = j) (hr : (binOp .sub tx s j).run P v = .ok u v) : (execOp a.eval oi).run P v = .ok (.value u) v := by
  unfold execOp
  simp [ho, hx, hy, eqGuard, hr]
theorem run_lens {P : Program} {oi : Oper} {a : Act} {x : Operand} {tx : TypeId} {s u : Value} {v : World} (ho : oi.op = .call { callee := .builtin .len, args := #[x], argTypes := #[tx] }) (hx : a.eval x = s) (hr : ∀ cs, (builtin .len #[tx] oi.type cs #[s]).run P v = .ok (.value u) v) : (execOp a.eval oi).run P v = .ok (.value u) v := by
  unfold execOp
  simp [ho, resolve, invoke, hx, hr]
theorem run_min2 {P : Program} {oi : Oper} {a : Act} {x y : Operand} {tx ty : TypeId} {s j u : Value} {v : World} (ho : oi.op = .call { callee := .builtin .min, args := #[x, y], argTypes := #[tx, ty] }) (hx : a.eval x = s) (hy : a.eval y = j) (hr : ∀ cs, (builtin .min #[tx, ty] oi.type cs #[s, j]).run P v = .ok (.value u) v) : (execOp a.eval oi).run P v = .ok (.value u) v := by
  unfold execOp
  simp [ho, resolve, invoke, hx, hy, hr]
theorem app_n_C {P : Program} {ops : Array Oper} {Q : Exit → Act → World → Prop} {S : World → Prop} {c i : Nat} {o : Oper} {d fuel : Nat} {L : Array Bool} {a : Act} {w w' : World} {s x : Operand} {t tn : TypeId} {v sv v' : Value} (hr : Region.ready .any ops L = [i]) (hi : ops[i]? = some o) (hg : o.guard = none) (hd : o.dst = some d) (ho : o.op = .call { callee := .builtin .append, args := #[s, x], argTypes := #[t, tn] })
    (hs : a.eval s = v) (hx : a.eval x = sv) (hrun : (Builtin.append_ #[t, tn] o.type #[v, sv]).run P w = .ok v' w') (hS : i ≠ c → S w') (h : wpAnyC P .any ops Q S c fuel (L.setIfInBounds i true) (a.put (some d) v') w') : wpAnyC P .any ops Q S c (fuel + 1) L a w :=
  one_C hr hi hg fun K hK => by
    unfold Oper.wp execOp
    simp only [ho, resolve, invoke, builtin, Sem.run_bind, Sem.run_pure, Result.andThen_ok, List.map_toArray, List.map_cons, List.map_nil, hs, hx, hrun]
    have h2 := hK _ _ hS h
    rw [← hd] at h2
    exact h2
set_option maxHeartbeats 16000000 in
theorem armG (v0 v1 v2 v3 v4 v5 v8 v10 v11 v12 v13 v14 v15 v16 v17 v18 v19 v20 v21 v22 v23 v24 v25 v26 v27 v28 v29 v30 v31 v32 v33 v34 v35 v36 v37 v38 v39 v40 v41 v42 v43 v44 v45 v46 v47 v48 v49 v50 v51 v52 v53 v54 v55 v56 v57 v58 v59 v60 v61 v62 v63 v64 v65 v66 v67 v68 v69 v70 v71 v72 v73 v74 v75 v76 v77 v78 v79 v80 v81 v82 v83 v84 v85 v86 v87 v88 v89 v90 v91 v92 v93 v94 v95 v96 v97 v98 v99 v100 v101 v102 v103 v104 v105 v106 v107 v108 v109 v110 v111 v112 v113 v114 v115 v116 v117 v118 v119 v120 v121 v122 v123 v124 v125 v126 v127 v128 v129 v130 v131 v132 v133 v134 v135 v136 v137 v138 v139 v140 v141 v142 v143 v144 v145 v146 v147 v148 v149 v150 v151 v152 v153 v154 v155 v156 v157 v158 v159 v160 v161 v162 v163 v164 v165 v166 v167 v168 v169 v170 v171 v172 v173 v174 v175 v176 v177 v178 : Value) {G g qb i : Nat} {sv rv nv wv ov : Value} {Z : List (Nat × Nat)} {W : List Mg} {w0 w : World} (hZ : Z.length ≤ 16) (hdr : Dr Z W) (hi : i < 60) {ab : Nat} {O : List Mg} (hlen : W.length + O.length ≤ i) (hbt : btm W + btm O ≤ 5 * i) {aw ss sx pr : Int} {lo : Bool} {d : ByteArray} (A5 : Blk w ab 89 #[.int .i64 aw, .int .i64 sx, .int .i64 ss, .bool lo, .int .u32 pr, .string d]) (F5 : Lw G g qb sv rv (btm W + btm O) Z W O nv wv ov (Z.map (·.1)) W O w) (bel5 : Below G w0 w)
    (Q : Exit → Act → World → Prop) (hfin : ∀ (u12 u108 u109 u110 u111 u112 u113 u114 u115 u116 u117 u118 u119 u120 u121 u122 u123 u124 u125 u126 : Value) (w' : World), Rn G g qb (i + 1) w0 w' → Q .normal ⟨#[v0, v1, v2, v3, v4, v5, .pointer (some ⟨g, 0, none⟩), .pointer (some ⟨qb, 0, none⟩), v8, .pointer (some ⟨ab, 0, none⟩), v10, v11, u12, v13, v14, v15, v16, v17, v18, v19, v20, v21, v22, v23, v24, v25, v26, v27, v28, v29, v30, v31, v32, v33, v34, v35, v36, v37, v38, v39, v40, v41, v42, v43, v44, v45, v46, v47, v48, v49, v50, v51, v52, v53, v54, v55, v56, v57, v58, v59, v60, v61, v62, v63, v64, v65, v66, v67, v68, v69, v70, v71, v72, v73, v74, v75, v76, v77, v78, v79, v80, v81, v82, v83, v84, v85, v86, v87, v88, v89, v90, v91, v92, v93, v94, v95, v96, v97, v98, v99, v100, v101, v102, v103, v104, v105, v106, v107, u108, u109, u110, u111, u112, u113, u114, u115, u116, u117, u118, u119, u120, u121, u122, u123, u124, u125, u126, v127, v128, v129, v130, v131, v132, v133, v134, v135, v136, v137, v138, v139, v140, v141, v142, v143, v144, v145, v146, v147, v148, v149, v150, v151, v152, v153, v154, v155, v156, v157, v158, v159, v160, v161, v162, v163, v164, v165, v166, v167, v168, v169, v170, v171, v172, v173, v174, v175, v176, v177, v178], []⟩ w') (c : Code) (hc : c = codeG) :
    Code.wp Try.prog c Q ⟨#[v0, v1, v2, v3, v4, v5, .pointer (some ⟨g, 0, none⟩), .pointer (some ⟨qb, 0, none⟩), v8, .pointer (some ⟨ab, 0, none⟩), v10, v11, v12, v13, v14, v15, v16, v17, v18, v19, v20, v21, v22, v23, v24, v25, v26, v27, v28, v29, v30, v31, v32, v33, v34, v35, v36, v37, v38, v39, v40, v41, v42, v43, v44, v45, v46, v47, v48, v49, v50, v51, v52, v53, v54, v55, v56, v57, v58, v59, v60, v61, v62, v63, v64, v65, v66, v67, v68, v69, v70, v71, v72, v73, v74, v75, v76, v77, v78, v79, v80, v81, v82, v83, v84, v85, v86, v87, v88, v89, v90, v91, v92, v93, v94, v95, v96, v97, v98, v99, v100, v101, v102, v103, v104, v105, v106, v107, v108, v109, v110, v111, v112, v113, v114, v115, v116, v117, v118, v119, v120, v121, v122, v123, v124, v125, v126, v127, v128, v129, v130, v131, v132, v133, v134, v135, v136, v137, v138, v139, v140, v141, v142, v143, v144, v145, v146, v147, v148, v149, v150, v151, v152, v153, v154, v155, v156, v157, v158, v159, v160, v161, v162, v163, v164, v165, v166, v167, v168, v169, v170, v171, v172, v173, v174, v175, v176, v177, v178], []⟩ w := by
  subst hc
  conv => arg 2; whnf
  have HF := Lib.hid hfin
  clear hfin
  have hmx := i64_mask ss 2 (by omega)
  rw [show ((2 ^ 2 - 1 : Nat) : Int) = 3 from rfl] at hmx
  obtain ⟨b, hb, hb1⟩ : ∃ b : Nat, bits .and .i64 ss 3 = b ∧ b ≤ 3 := ⟨(ss % (2 ^ 2 : Nat)).toNat, by rw [hmx]; omega, by omega⟩
  clear hmx
  obtain ⟨m, hm⟩ : ∃ m : Nat, min b (16 - Z.length) = m := ⟨_, rfl⟩
  have hG5 : G ≤ w.heap.size := by have := F5.D.hg; have := F5.D.B.lt; omega
  have a2 : w.cell? ⟨ab, 2, none⟩ = some (.int .i64 ss) := A5.cell 2
  have hgr := dv_grow F5.D b m hZ hm (by omega)
  go_upto_region 24 with fail
  try rw [hb]
  go_wp2_with fail
  refine hgr.mono ?_
  rintro e w6 ⟨rfl, ⟨sv', Y, hY, hY0, D6, hsv⟩, hfr, hb6⟩
  have F6 := F5.stepD D6 hb6.size hfr (fun i hF => by
    rcases hF with h | h | h | ⟨z, h, he⟩
    · exact .inl (.inl h)
    · rcases hsv i h with h' | h'
      · exact .inl (.inr (.inl h'))
      · exact .inr h'
    · exact .inl (.inr (.inr (.inl h)))
    · rcases List.mem_append.1 h with h' | h'
      · exact .inl (.inr (.inr (.inr ⟨z, h', he⟩)))
      · exact .inr (by rw [← he]; exact (hY0 z h').2))
  have bel6 := bel5.trans hb6
  have hG6 : G ≤ w6.heap.size := Nat.le_trans hG5 hb6.size
  have hsw : ∀ x ∈ W, x.st < (Z.length : Int) := fun x hx => (F5.D.sw x hx).2
  have hmap : (Z ++ Y).map (·.1) = Z.map (·.1) ++ List.replicate m 0 := by
    rw [List.map_append]
    congr 1
    rw [List.eq_replicate_iff]
    refine ⟨by simp [hY], fun p hp => ?_⟩
    obtain ⟨y, hy, rfl⟩ := List.mem_map.1 hp
    exact (hY0 y hy).1
  obtain ⟨on, cn, hnv, _, _⟩ := F6.n.shape
  rw [List.length_map] at hnv
  subst hnv
  have HM := Lib.hid (And.intro hmap (And.intro hsw (And.intro hY hdr)))
  clear hgr a2 A5 F5 bel5 hb6 D6 hfr hsv hY0 hmap hsw hdr
  obtain ⟨i0, hi0, hz0, hz1, hz2⟩ := info_parts infoI
  have b6 : Below w6.heap.size w6 w6.drew := (Below.refl _ _).drew
  have F7 := F6.below b6 (Nat.le_refl _)
  have al8 := (Below.refl w6.drew.heap.size w6.drew).alloc (Nat.le_refl _) (.cells #[] 3)
  have hs8 := al8.size
  have hl7 : (Z.map (·.1)).length = Z.length := List.length_map _
  have n7 : Qo w6.drew G 1 (.slice on Z.length cn) Z.length (cellsN (Z.map (·.1))) := by have := F7.n; rwa [hl7] at this
  obtain ⟨v8, w8, hr8, q8, gr8, ha8⟩ := qo_append (P := Try.prog) (t := 25) (ty := 25) Try.underlying25 hi0 hz0 hz1 hz2 rfl (Qo.empty (w6.drew.alloc (.cells #[] 3)) w6.drew.heap.size 1 (some ⟨w6.drew.heap.size, 0, none⟩)) ((n7.below al8 (Nat.le_refl _)).src Try.underlying25 (cellsN_one _)) (by unfold maxLen; omega) (by omega) hs8
  have b8 : Below w6.drew.heap.size w6.drew w8 := al8.grown gr8 hs8 (fun k hk => by rw [blkOf_zero] at hk; cases hk)
  have hs88 := b8.size
  obtain ⟨v9, w9, hr9, q9, gr9, ha9⟩ := qo_zeros (P := Try.prog) (t := 25) (tn := 3) (ty := 25) (kq := .i64) (kn := .i64) Try.underlying25 Try.underlying3 hi0 hz0 hz1 hz2 rfl rfl (by omega) q8 m (by omega) (by omega) hs88
  have b9 : Below w6.drew.heap.size w6.drew w9 := b8.grown gr9 hs88 (fun k hk => (q8.lt hk).1)
  rw [List.nil_append, cellsN_zero, Nat.zero_add] at q9
  have F9 := F7.below b9 (Nat.le_refl _)
  have q9' : Qo w9 w6.drew.heap.size 1 v9 ((Z ++ Y).map (·.1)).length (cellsN ((Z ++ Y).map (·.1))) := by
    rw [HM.out.1, List.length_append, List.length_replicate, hl7]; exact q9
  have F10 := F9.setNx q9' hG6 (fun i hi => (F7.D.foot hi).2) F7.q.lt
  have bel10 : Below G w0 (w9.setCell ⟨qb, 0, none⟩ v9) := ((bel6.trans (b6.mono hG6)).trans (b9.mono hG6)).setCell (p := ⟨qb, 0, none⟩) F6.hq _
  have c9 : w9.cell? ⟨qb, 0, none⟩ = some (.slice on Z.length cn) := F9.q.cell 0
  have f9 : w9.frozen? ⟨qb, 0, none⟩ = false := F9.q.frozen 0
  have HS := Lib.hid (show w6.drew.cell? ⟨qb, 0, none⟩ = some (.slice on Z.length cn) from F7.q.cell 0)
  have HSS := Lib.hid (show ∀ v, Below w6.drew.heap.size w6.drew v → v.cell? ⟨qb, 0, none⟩ = some (.slice on Z.length cn) from fun v hb => (F7.below hb (Nat.le_refl _)).q.cell 0)
  have HAL := Lib.hid (And.intro al8 (And.intro b8 b9))
  obtain ⟨oa8, cap8, hv8, _, _⟩ := q8.shape
  obtain ⟨oa9, cap9, hv9, _, _⟩ := q9.shape
  have hlc : (Z ++ Y).length = Z.length + m := by rw [List.length_append, HM.out.2.2.1]
  have HX := Lib.hid (show Rn G g qb (i + 1) w0 (w9.setCell ⟨qb, 0, none⟩ v9) from ⟨sv', rv, v9, wv, ov, Z ++ Y, W, O, by rw [hlc]; omega, by omega, by omega, Dr.more HM.out.2.2.2 HM.out.2.1 Y, F10, bel10⟩)
  subst hv8
  subst hv9
  rw [Nat.zero_add] at hr8 hr9
  clear q8 gr8 ha8 q9 gr9 ha9 q9' F10 bel10 F9 F7 F6 bel6 b6 b8 b9 al8 n7 hl7 hz0 hz1 hz2 hi0
  have hlen1 : ∀ v cs, (builtin .len #[25] 3 cs #[.slice on Z.length cn]).run Try.prog v = .ok (.value (.int .i64 Z.length)) v := fun v cs => by go_simp
  have hsub : ∀ v, (binOp .sub 3 (.int .i64 16) (.int .i64 Z.length)).run Try.prog v = .ok (.int .i64 (16 - (Z.length : Int))) v := fun v => by
    have hw1 : IntKind.i64.wrap (16 - (Z.length : Int)) = 16 - (Z.length : Int) := IntWalk.i64_in _ (by omega)
    go_simp
  have hmin : ∀ v cs, (builtin .min #[3, 3] 3 cs #[.int .i64 (b : Int), .int .i64 (16 - (Z.length : Int))]).run Try.prog v = .ok (.value (.int .i64 (m : Int))) v := fun v cs => by
    unfold builtin
    by_cases h5 : (b : Int) ≤ 16 - (Z.length : Int)
    · obtain rfl : m = b := by omega
      first | (go_simp; done) | (go_simp; omega)
    · have h6 : (16 : Int) - (Z.length : Int) = (m : Int) := by omega
      rw [h6] at h5 ⊢
      first | (go_simp; done) | (go_simp; omega)
  go_upto_region 25 with fail
  refine wp_region_noPanic ?_
  refine begin_C (fun v => v.cell? ⟨qb, 0, none⟩ = some (.slice on Z.length cn)) 12 (by kernel_rfl) ?_
  refine abs_C _ (fun c hc => ?_)
  have hsz : c.tmps.size = 179 := by rw [hc]; rfl
  have e7 : c.eval (.tmp 7) = .pointer (some ⟨qb, 0, none⟩) := by rw [hc]; rfl
  have e12 : c.eval (.tmp 12) = .int .i64 (b : Int) := by rw [hc]; first | rfl | (rw [← hb]; rfl)
  have HB := Lib.hid hc
  clear hc
  refine take_Y (i := 1) (u := .pointer (some ⟨qb, 0, none⟩)) rfl (by kernel_rfl) (by kernel_rfl) (by kernel_rfl) (by decide) rfl rfl (fun _ _ _ h => h) HS.out (fun v => run_field (s := .pointer (some ⟨qb, 0, none⟩)) rfl (by simp [Act.eval_put_ne, Act.eval_put_same, Act.size_put, hsz, e7, e12]) (by kernel_rfl)) ?_
  refine take_C (i := 2) [3, 10] (u := .slice on Z.length cn) rfl (by kernel_rfl) (by kernel_rfl) (by kernel_rfl) (by kernel_rfl) (by kernel_rfl) (by decide) rfl rfl (fun _ _ _ h => h) HS.out (fun v hv => run_load1 (s := .pointer (some ⟨qb, 0, none⟩)) rfl (by simp [Act.eval_put_ne, Act.eval_put_same, Act.size_put, hsz, e7, e12]) (by have c := hv; go_simp)) ?_
  refine take_Y (i := 4) (u := .int .i64 (b : Int)) rfl (by kernel_rfl) (by kernel_rfl) (by kernel_rfl) (by decide) rfl rfl (fun _ _ _ h => h) HS.out (fun v => run_move rfl (by simp [Act.eval_put_ne, Act.eval_put_same, Act.size_put, hsz, e7, e12]) v) ?_
  refine take_Y (i := 5) (u := .pointer (some ⟨qb, 0, none⟩)) rfl (by kernel_rfl) (by kernel_rfl) (by kernel_rfl) (by decide) rfl rfl (fun _ _ _ h => h) HS.out (fun v => run_field (s := .pointer (some ⟨qb, 0, none⟩)) rfl (by simp [Act.eval_put_ne, Act.eval_put_same, Act.size_put, hsz, e7, e12]) (by kernel_rfl)) ?_
  refine take_C (i := 6) [7, 8, 9, 10] (u := .slice on Z.length cn) rfl (by kernel_rfl) (by kernel_rfl) (by kernel_rfl) (by kernel_rfl) (by kernel_rfl) (by decide) rfl rfl (fun _ _ _ h => h) HS.out (fun v hv => run_load1 (s := .pointer (some ⟨qb, 0, none⟩)) rfl (by simp [Act.eval_put_ne, Act.eval_put_same, Act.size_put, hsz, e7, e12]) (by have c := hv; go_simp)) ?_
  refine take_Y (i := 7) (u := .int .i64 Z.length) rfl (by kernel_rfl) (by kernel_rfl) (by kernel_rfl) (by decide) rfl rfl (fun _ _ _ h => h) HS.out (fun v => run_lens rfl (by simp [Act.eval_put_ne, Act.eval_put_same, Act.size_put, hsz, e7, e12]) (hlen1 v)) ?_
  refine take_Y (i := 8) (u := .int .i64 (16 - (Z.length : Int))) rfl (by kernel_rfl) (by kernel_rfl) (by kernel_rfl) (by decide) rfl rfl (fun _ _ _ h => h) HS.out (fun v => run_sub (s := .int .i64 16) (j := .int .i64 Z.length) rfl rfl (by simp [Act.eval_put_ne, Act.eval_put_same, Act.size_put, hsz, e7, e12]) (hsub v)) ?_
  refine take_Y (i := 9) (u := .int .i64 (m : Int)) rfl (by kernel_rfl) (by kernel_rfl) (by kernel_rfl) (by decide) rfl rfl (fun _ _ _ h => h) HS.out (fun v => run_min2 (s := .int .i64 (b : Int)) (j := .int .i64 (16 - (Z.length : Int))) rfl (by simp [Act.eval_put_ne, Act.eval_put_same, Act.size_put, hsz, e7, e12]) (by simp [Act.eval_put_ne, Act.eval_put_same, Act.size_put, hsz, e7, e12]) (hmin v)) ?_
  refine val_C (i := 0) (u := .slice (some ⟨w6.drew.heap.size, 0, none⟩) 0 0) (w' := w6.drew.alloc (.cells #[] 3)) (by kernel_rfl) rfl rfl rfl (fun _ => HSS.out _ HAL.out.1) (run_build0 rfl (by go_simp)) ?_
  refine app_C (i := 3) (v := .slice (some ⟨w6.drew.heap.size, 0, none⟩) 0 0) (sv := .slice on Z.length cn) (v' := .slice oa8 Z.length cap8) (w' := w8) (by kernel_rfl) rfl rfl rfl rfl (by simp [Act.eval_put_ne, Act.eval_put_same, Act.size_put, hsz, e7, e12]) (by simp [Act.eval_put_ne, Act.eval_put_same, Act.size_put, hsz, e7, e12]) hr8 (fun _ => HSS.out _ HAL.out.2.1) ?_
  refine app_n_C (i := 10) (v := .slice oa8 Z.length cap8) (sv := .int .i64 (m : Int)) (v' := .slice oa9 (Z.length + m) cap9) (w' := w9) (by kernel_rfl) rfl rfl rfl rfl (by simp [Act.eval_put_ne, Act.eval_put_same, Act.size_put, hsz, e7, e12]) (by simp [Act.eval_put_ne, Act.eval_put_same, Act.size_put, hsz, e7, e12]) hr9 (fun _ => HSS.out _ HAL.out.2.2) ?_
  refine take_Y (i := 11) (u := .pointer (some ⟨qb, 0, none⟩)) rfl (by kernel_rfl) (by kernel_rfl) (by kernel_rfl) (by decide) rfl rfl (fun _ _ _ h => h) (HSS.out _ HAL.out.2.2) (fun v => run_field (s := .pointer (some ⟨qb, 0, none⟩)) rfl (by simp [Act.eval_put_ne, Act.eval_put_same, Act.size_put, hsz, e7, e12]) (by kernel_rfl)) ?_
  refine store_C (i := 12) (p := .pointer (some ⟨qb, 0, none⟩)) (u := .slice oa9 (Z.length + m) cap9) (w' := w9.setCell ⟨qb, 0, none⟩ (.slice oa9 (Z.length + m) cap9)) (by kernel_rfl) rfl rfl rfl rfl (by simp [Act.eval_put_ne, Act.eval_put_same, Act.size_put, hsz, e7, e12]) (by simp [Act.eval_put_ne, Act.eval_put_same, Act.size_put, hsz, e7, e12]) (fun h => absurd rfl h) (by go_simp) ?_
  refine done_C (by kernel_rfl) ?_ _
  refine NoPanic.normal ?_
  rw [HB.out]
  simp only [Act.put, List.setIfInBounds_toArray, List.set_cons_zero, List.set_cons_succ]
  clear HB HS HSS HAL c9 f9 hsz e7 e12 hlen1 hsub hmin hr8 hr9
  generalize w9.setCell ⟨qb, 0, none⟩ (.slice oa9 (Z.length + m) cap9) = w10 at *
  first
  | exact HF.out _ _ _ _ _ _ _ _ _ _ _ _ _ _ _ _ _ _ _ _ _ HX.out
  | (go_wp2_with fail
     exact HF.out _ _ _ _ _ _ _ _ _ _ _ _ _ _ _ _ _ _ _ _ _ HX.out)
end Go.Proofs.Ythddacgdmngfhaa.del
