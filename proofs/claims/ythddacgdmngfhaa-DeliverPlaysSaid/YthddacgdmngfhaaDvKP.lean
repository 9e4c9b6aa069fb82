/- Layer 18: the switch's arms, each over the frame written out (gen-dvk.py wrote this). -/
import Derived.Test.YthddacgdmngfhaaDvL
import Derived.Test.YthddacgdmngfhaaDvKG
namespace Go.Proofs.Ythddacgdmngfhaa.del
open Go.Sort (grow)
open Go.ChangeShapes Go.WideShapes Go.ChangeAt Go.RowKit kit
set_option maxRecDepth 1000000
theorem st_int {w : World} {h o : Nat} {v0 : Value} (x : Int) (c : w.cell? ⟨h, o, none⟩ = some v0) (f : w.frozen? ⟨h, o, none⟩ = false) : (Instr.storeAt 3 (.pointer (some ⟨h, o, none⟩)) (.int .i64 x)).run Try.prog w = .ok () (w.setCell ⟨h, o, none⟩ (.int .i64 x)) := by go_simp
theorem st_str {w : World} {h o : Nat} {v0 : Value} (x : ByteArray) (c : w.cell? ⟨h, o, none⟩ = some v0) (f : w.frozen? ⟨h, o, none⟩ = false) : (Instr.storeAt 9 (.pointer (some ⟨h, o, none⟩)) (.string x)).run Try.prog w = .ok () (w.setCell ⟨h, o, none⟩ (.string x)) := by go_simp
theorem run_rem {P : Program} {oi : Oper} {a : Act} {x y : Operand} {tx ty : TypeId} {s j u : Value} {v : World} (ho : oi.op = .binOp .rem tx x y ty) (hx : a.eval x = s) (hy : a.eval y = j) (hr : (binOp .rem tx s j).run P v = .ok u v) : (execOp a.eval oi).run P v = .ok (.value u) v := by
  unfold execOp
  simp [ho, hx, hy, eqGuard, hr]
theorem run_slice_hiS {P : Program} {oi : Oper} {a : Act} {x h : Operand} {ty : TypeId} {s j u : Value} {v : World} (ho : oi.op = .slice ty x none (some h) none) (hx : a.eval x = s) (hh : a.eval h = j) (hr : (Instr.sliceAt ty s none (some j) none).run P v = .ok u v) : (execOp a.eval oi).run P v = .ok (.value u) v := by
  unfold execOp
  simp [ho, hx, hh, hr]
set_option maxHeartbeats 16000000 in
theorem armP (v0 v1 v2 v3 v4 v5 v8 v10 v11 v12 v13 v14 v15 v16 v17 v18 v19 v20 v21 v22 v23 v24 v25 v26 v27 v28 v29 v30 v31 v32 v33 v34 v35 v36 v37 v38 v39 v40 v41 v42 v43 v44 v45 v46 v47 v48 v49 v50 v51 v52 v53 v54 v55 v56 v57 v58 v59 v60 v61 v62 v63 v64 v65 v66 v67 v68 v69 v70 v71 v72 v73 v74 v75 v76 v77 v78 v79 v80 v81 v82 v83 v84 v85 v86 v87 v88 v89 v90 v91 v92 v93 v94 v95 v96 v97 v98 v99 v100 v101 v102 v103 v104 v105 v106 v107 v108 v109 v110 v111 v112 v113 v114 v115 v116 v117 v118 v119 v120 v121 v122 v123 v124 v125 v126 v127 v128 v129 v130 v131 v132 v133 v134 v135 v136 v137 v138 v139 v140 v141 v142 v143 v144 v145 v146 v147 v148 v149 v150 v151 v152 v153 v154 v155 v156 v157 v158 v159 v160 v161 v162 v163 v164 v165 v166 v167 v168 v169 v170 v171 v172 v173 v174 v175 v176 v177 v178 : Value) {G g qb i : Nat} {sv rv nv wv ov : Value} {Z : List (Nat × Nat)} {W : List Mg} {w0 w : World} (hZ : Z.length ≤ 16) (hdr : Dr Z W) (hi : i < 60) {ab : Nat} {O : List Mg} (hlen : W.length + O.length ≤ i) (hbt : btm W + btm O ≤ 5 * i) {aw ss sx pr : Int} {lo : Bool} {d : ByteArray} (hd : d.size ≤ maxLen) (A5 : Blk w ab 89 #[.int .i64 aw, .int .i64 sx, .int .i64 ss, .bool lo, .int .u32 pr, .string d]) (F5 : Lw G g qb sv rv (btm W + btm O) Z W O nv wv ov (Z.map (·.1)) W O w) (bel5 : Below G w0 w)
    (Q : Exit → Act → World → Prop) (hfin : ∀ (u4 u13 u14 u15 u48 u49 u50 u51 u52 u53 u54 u55 u56 u57 u58 u59 u60 u61 u62 u63 u64 u65 u66 u67 u68 u69 u70 u71 u72 u73 u74 u75 u76 : Value) (w' : World), Rn G g qb (i + 1) w0 w' → Q .normal ⟨#[v0, v1, v2, v3, u4, v5, .pointer (some ⟨g, 0, none⟩), .pointer (some ⟨qb, 0, none⟩), v8, .pointer (some ⟨ab, 0, none⟩), v10, v11, v12, u13, u14, u15, v16, v17, v18, v19, v20, v21, v22, v23, v24, v25, v26, v27, v28, v29, v30, v31, v32, v33, v34, v35, v36, v37, v38, v39, v40, v41, v42, v43, v44, v45, v46, v47, u48, u49, u50, u51, u52, u53, u54, u55, u56, u57, u58, u59, u60, u61, u62, u63, u64, u65, u66, u67, u68, u69, u70, u71, u72, u73, u74, u75, u76, v77, v78, v79, v80, v81, v82, v83, v84, v85, v86, v87, v88, v89, v90, v91, v92, v93, v94, v95, v96, v97, v98, v99, v100, v101, v102, v103, v104, v105, v106, v107, v108, v109, v110, v111, v112, v113, v114, v115, v116, v117, v118, v119, v120, v121, v122, v123, v124, v125, v126, v127, v128, v129, v130, v131, v132, v133, v134, v135, v136, v137, v138, v139, v140, v141, v142, v143, v144, v145, v146, v147, v148, v149, v150, v151, v152, v153, v154, v155, v156, v157, v158, v159, v160, v161, v162, v163, v164, v165, v166, v167, v168, v169, v170, v171, v172, v173, v174, v175, v176, v177, v178], []⟩ w') (c : Code) (hc : c = codeP) :
    Code.wp Try.prog c Q ⟨#[v0, v1, v2, v3, v4, v5, .pointer (some ⟨g, 0, none⟩), .pointer (some ⟨qb, 0, none⟩), v8, .pointer (some ⟨ab, 0, none⟩), v10, v11, v12, v13, v14, v15, v16, v17, v18, v19, v20, v21, v22, v23, v24, v25, v26, v27, v28, v29, v30, v31, v32, v33, v34, v35, v36, v37, v38, v39, v40, v41, v42, v43, v44, v45, v46, v47, v48, v49, v50, v51, v52, v53, v54, v55, v56, v57, v58, v59, v60, v61, v62, v63, v64, v65, v66, v67, v68, v69, v70, v71, v72, v73, v74, v75, v76, v77, v78, v79, v80, v81, v82, v83, v84, v85, v86, v87, v88, v89, v90, v91, v92, v93, v94, v95, v96, v97, v98, v99, v100, v101, v102, v103, v104, v105, v106, v107, v108, v109, v110, v111, v112, v113, v114, v115, v116, v117, v118, v119, v120, v121, v122, v123, v124, v125, v126, v127, v128, v129, v130, v131, v132, v133, v134, v135, v136, v137, v138, v139, v140, v141, v142, v143, v144, v145, v146, v147, v148, v149, v150, v151, v152, v153, v154, v155, v156, v157, v158, v159, v160, v161, v162, v163, v164, v165, v166, v167, v168, v169, v170, v171, v172, v173, v174, v175, v176, v177, v178], []⟩ w := by
  subst hc
  conv => arg 2; whnf
  have HF := Lib.hid hfin
  clear hfin
  have hG5 : G ≤ w.heap.size := by have := F5.D.hg; have := F5.D.B.lt; omega
  obtain ⟨q, hq⟩ : ∃ q : Nat, min d.size 5 = q := ⟨_, rfl⟩
  obtain ⟨ok, Z', W', O', hl', hlen', hbt', hdr', hzz, href, hprg⟩ := both_put (G := G) (g := g) (W := W) (O := O) hZ (by omega) (by omega) hdr F5.D.zl ⟨sx.tmod 20, ss, lo, pr, d.extract 0 q⟩ (by show (d.extract 0 q).size ≤ 5; rw [ByteArray.size_extract]; omega)
  have HB := Lib.hid (And.intro hl' (And.intro hlen' (And.intro hbt' (And.intro hdr' (And.intro hzz (And.intro href hprg))))))
  clear hl' hlen' hbt' hdr' hzz href hprg hdr
  have CA : Cel w ab 1 #[.int .i64 sx, .int .i64 ss, .bool lo, .int .u32 pr, .string d] := by have := (Cel.of_blk A5).sub 1 6; exact this
  have al6 := (Below.refl w.heap.size w).alloc (Nat.le_refl _) (.cells #[.int .i64 sx, .int .i64 ss, .bool lo, .int .u32 pr, .string d] 30)
  have A6 := A5.below al6 A5.lt
  have M6 := Blk.new w 30 #[.int .i64 sx, .int .i64 ss, .bool lo, .int .u32 pr, .string d]
  have habm : ab ≠ w.heap.size := by have := A5.lt; omega
  go_upto_region 11 with (refine wpList_load_at rfl 30 _ rfl ab 1 rfl #[.int .i64 sx, .int .i64 ss, .bool lo, .int .u32 pr, .string d] _ CA Try.underlying30 rfl (szX ⟨sx, ss, lo, pr, d⟩) ?_)
  have HW := Lib.hid (And.intro F5 (And.intro bel5 (And.intro hG5 al6)))
  clear F5 bel5 hG5 al6 CA A5
  generalize w.alloc (.cells #[.int .i64 sx, .int .i64 ss, .bool lo, .int .u32 pr, .string d] 30) = w6 at *
  obtain ⟨mb, hmb⟩ : ∃ mb, w.heap.size = mb := ⟨_, rfl⟩
  rw [hmb] at M6 habm ⊢
  have HMB := Lib.hid hmb
  clear hmb
  unfold maxLen at hd
  have hrem : ∀ v, (binOp .rem 3 (.int .i64 sx) (.int .i64 20)).run Try.prog v = .ok (.int .i64 (sx.tmod 20)) v := fun v => by go_simp
  have hlen1 : ∀ v cs, (builtin .len #[9] 3 cs #[.string d]).run Try.prog v = .ok (.value (.int .i64 d.size)) v := fun v cs => by go_simp
  have hmin : ∀ v cs, (builtin .min #[3, 3] 3 cs #[.int .i64 d.size, .int .i64 5]).run Try.prog v = .ok (.value (.int .i64 q)) v := fun v cs => by
    unfold builtin
    by_cases h5 : (d.size : Int) ≤ 5
    · obtain rfl : d.size = q := by omega
      first | (go_simp; done) | (go_simp; omega)
    · obtain rfl : q = 5 := by omega
      first | (go_simp; done) | (go_simp; omega)
  have hsl : ∀ v, (Instr.sliceAt 9 (.string d) none (some (.int .i64 q)) none).run Try.prog v = .ok (.string (d.extract 0 q)) v := fun v => by
    have h1 : (q : Int) ≤ (d.size : Int) := by omega
    have h2 : q ≤ d.size := by omega
    go_simp
  have HC := Lib.hid (show ∀ v : World, Blk v ab 89 #[.int .i64 aw, .int .i64 sx, .int .i64 ss, .bool lo, .int .u32 pr, .string d] → (v.cell? ⟨ab, 1, none⟩ = some (.int .i64 sx) ∧ v.cell? ⟨ab, 5, none⟩ = some (.string d)) from fun v B => ⟨B.cell 1, B.cell 5⟩)
  have HS := Lib.hid (show Blk w6.drew ab 89 #[.int .i64 aw, .int .i64 sx, .int .i64 ss, .bool lo, .int .u32 pr, .string d] from A6)
  refine wp_region_noPanic ?_
  refine wp_region_held_drew (S := fun v => Blk v ab 89 #[.int .i64 aw, .int .i64 sx, .int .i64 ss, .bool lo, .int .u32 pr, .string d]) (by kernel_rfl) HS.out (fun _ => ?_)
  refine wpAnyH_abs _ (fun b hb => ?_)
  have hsz : b.tmps.size = 179 := by rw [hb]; rfl
  have e9 : b.eval (.tmp 9) = .pointer (some ⟨ab, 0, none⟩) := by rw [hb]; rfl
  have e13 : b.eval (.tmp 13) = .pointer (some ⟨mb, 0, none⟩) := by rw [hb]; rfl
  have HBB := Lib.hid hb
  clear hb
  refine take_run (i := 0) (u := .pointer (some ⟨ab, 1, none⟩)) rfl (by kernel_rfl) (by kernel_rfl) (by kernel_rfl) rfl rfl (fun _ _ _ h => h) HS.out (fun v hv => run_field (s := .pointer (some ⟨ab, 0, none⟩)) rfl (by simp [Act.eval_put_ne, Act.eval_put_same, Act.size_put, hsz, e9, e13]) (by kernel_rfl)) ?_
  refine take_run (i := 1) (u := .pointer (some ⟨ab, 1, none⟩)) rfl (by kernel_rfl) (by kernel_rfl) (by kernel_rfl) rfl rfl (fun _ _ _ h => h) HS.out (fun v hv => run_field (s := .pointer (some ⟨ab, 1, none⟩)) rfl (by simp [Act.eval_put_ne, Act.eval_put_same, Act.size_put, hsz, e9, e13]) (by kernel_rfl)) ?_
  refine take_run (i := 2) (u := .int .i64 sx) rfl (by kernel_rfl) (by kernel_rfl) (by kernel_rfl) rfl rfl (fun _ _ _ h => h) HS.out (fun v hv => run_load1 (s := .pointer (some ⟨ab, 1, none⟩)) rfl (by simp [Act.eval_put_ne, Act.eval_put_same, Act.size_put, hsz, e9, e13]) (by obtain ⟨c1, c5⟩ := HC.out v hv; go_simp)) ?_
  refine take_run (i := 3) (u := .int .i64 (sx.tmod 20)) rfl (by kernel_rfl) (by kernel_rfl) (by kernel_rfl) rfl rfl (fun _ _ _ h => h) HS.out (fun v hv => run_rem (s := .int .i64 sx) (j := .int .i64 20) rfl (by simp [Act.eval_put_ne, Act.eval_put_same, Act.size_put, hsz, e9, e13]) rfl (hrem v)) ?_
  refine take_run (i := 4) (u := .pointer (some ⟨ab, 1, none⟩)) rfl (by kernel_rfl) (by kernel_rfl) (by kernel_rfl) rfl rfl (fun _ _ _ h => h) HS.out (fun v hv => run_field (s := .pointer (some ⟨ab, 0, none⟩)) rfl (by simp [Act.eval_put_ne, Act.eval_put_same, Act.size_put, hsz, e9, e13]) (by kernel_rfl)) ?_
  refine take_run (i := 5) (u := .pointer (some ⟨ab, 5, none⟩)) rfl (by kernel_rfl) (by kernel_rfl) (by kernel_rfl) rfl rfl (fun _ _ _ h => h) HS.out (fun v hv => run_field (s := .pointer (some ⟨ab, 1, none⟩)) rfl (by simp [Act.eval_put_ne, Act.eval_put_same, Act.size_put, hsz, e9, e13]) (by kernel_rfl)) ?_
  refine take_run (i := 6) (u := .string d) rfl (by kernel_rfl) (by kernel_rfl) (by kernel_rfl) rfl rfl (fun _ _ _ h => h) HS.out (fun v hv => run_load1 (s := .pointer (some ⟨ab, 5, none⟩)) rfl (by simp [Act.eval_put_ne, Act.eval_put_same, Act.size_put, hsz, e9, e13]) (by obtain ⟨c1, c5⟩ := HC.out v hv; go_simp)) ?_
  refine take_run (i := 7) (u := .pointer (some ⟨ab, 1, none⟩)) rfl (by kernel_rfl) (by kernel_rfl) (by kernel_rfl) rfl rfl (fun _ _ _ h => h) HS.out (fun v hv => run_field (s := .pointer (some ⟨ab, 0, none⟩)) rfl (by simp [Act.eval_put_ne, Act.eval_put_same, Act.size_put, hsz, e9, e13]) (by kernel_rfl)) ?_
  refine take_run (i := 8) (u := .pointer (some ⟨ab, 5, none⟩)) rfl (by kernel_rfl) (by kernel_rfl) (by kernel_rfl) rfl rfl (fun _ _ _ h => h) HS.out (fun v hv => run_field (s := .pointer (some ⟨ab, 1, none⟩)) rfl (by simp [Act.eval_put_ne, Act.eval_put_same, Act.size_put, hsz, e9, e13]) (by kernel_rfl)) ?_
  refine take_run (i := 9) (u := .string d) rfl (by kernel_rfl) (by kernel_rfl) (by kernel_rfl) rfl rfl (fun _ _ _ h => h) HS.out (fun v hv => run_load1 (s := .pointer (some ⟨ab, 5, none⟩)) rfl (by simp [Act.eval_put_ne, Act.eval_put_same, Act.size_put, hsz, e9, e13]) (by obtain ⟨c1, c5⟩ := HC.out v hv; go_simp)) ?_
  refine take_run (i := 10) (u := .int .i64 d.size) rfl (by kernel_rfl) (by kernel_rfl) (by kernel_rfl) rfl rfl (fun _ _ _ h => h) HS.out (fun v hv => run_lens rfl (by simp [Act.eval_put_ne, Act.eval_put_same, Act.size_put, hsz, e9, e13]) (hlen1 v)) ?_
  refine take_run (i := 11) (u := .int .i64 q) rfl (by kernel_rfl) (by kernel_rfl) (by kernel_rfl) rfl rfl (fun _ _ _ h => h) HS.out (fun v hv => run_min2 (s := .int .i64 d.size) (j := .int .i64 5) rfl (by simp [Act.eval_put_ne, Act.eval_put_same, Act.size_put, hsz, e9, e13]) rfl (hmin v)) ?_
  refine take_run (i := 12) (u := .string (d.extract 0 q)) rfl (by kernel_rfl) (by kernel_rfl) (by kernel_rfl) rfl rfl (fun _ _ _ h => h) HS.out (fun v hv => run_slice_hiS (s := .string d) (j := .int .i64 q) rfl (by simp [Act.eval_put_ne, Act.eval_put_same, Act.size_put, hsz, e9, e13]) (by simp [Act.eval_put_ne, Act.eval_put_same, Act.size_put, hsz, e9, e13]) (hsl v)) ?_
  refine take_run (i := 13) (u := .pointer (some ⟨mb, 0, none⟩)) rfl (by kernel_rfl) (by kernel_rfl) (by kernel_rfl) rfl rfl (fun _ _ _ h => h) HS.out (fun v hv => run_field (s := .pointer (some ⟨mb, 0, none⟩)) rfl (by simp [Act.eval_put_ne, Act.eval_put_same, Act.size_put, hsz, e9, e13]) (by kernel_rfl)) ?_
  have M6' : Blk w6.drew mb 30 #[.int .i64 sx, .int .i64 ss, .bool lo, .int .u32 pr, .string d] := M6
  have m0 : w6.drew.cell? ⟨mb, 0, none⟩ = some (.int .i64 sx) := M6'.cell 0
  have m0f : w6.drew.frozen? ⟨mb, 0, none⟩ = false := M6'.frozen 0
  have M7 := M6'.set_ 0 (.int .i64 (sx.tmod 20))
  have A7 := Blk.far (p := ⟨mb, 0, none⟩) HS.out habm (.int .i64 (sx.tmod 20))
  have m4 : (w6.drew.setCell ⟨mb, 0, none⟩ (.int .i64 (sx.tmod 20))).cell? ⟨mb, 4, none⟩ = some (.string d) := M7.cell 4
  have m4f : (w6.drew.setCell ⟨mb, 0, none⟩ (.int .i64 (sx.tmod 20))).frozen? ⟨mb, 4, none⟩ = false := M7.frozen 4
  refine step_store (i := 14) (p := .pointer (some ⟨mb, 0, none⟩)) (u := .int .i64 (sx.tmod 20)) (w' := w6.drew.setCell ⟨mb, 0, none⟩ (.int .i64 (sx.tmod 20))) (by kernel_rfl) rfl rfl rfl rfl (by simp [Act.eval_put_ne, Act.eval_put_same, Act.size_put, hsz, e9, e13]) (by simp [Act.eval_put_ne, Act.eval_put_same, Act.size_put, hsz, e9, e13]) A7 (st_int _ m0 m0f) ?_
  refine step_val (i := 15) (u := .pointer (some ⟨mb, 4, none⟩)) (w' := w6.drew.setCell ⟨mb, 0, none⟩ (.int .i64 (sx.tmod 20))) (by kernel_rfl) rfl rfl rfl A7 (run_field (s := .pointer (some ⟨mb, 0, none⟩)) rfl (by simp [Act.eval_put_ne, Act.eval_put_same, Act.size_put, hsz, e9, e13]) (by kernel_rfl)) ?_
  have A8 := Blk.far (p := ⟨mb, 4, none⟩) A7 habm (.string (d.extract 0 q))
  refine step_store (i := 16) (p := .pointer (some ⟨mb, 4, none⟩)) (u := .string (d.extract 0 q)) (w' := (w6.drew.setCell ⟨mb, 0, none⟩ (.int .i64 (sx.tmod 20))).setCell ⟨mb, 4, none⟩ (.string (d.extract 0 q))) (by kernel_rfl) rfl rfl rfl rfl (by simp [Act.eval_put_ne, Act.eval_put_same, Act.size_put, hsz, e9, e13]) (by simp [Act.eval_put_ne, Act.eval_put_same, Act.size_put, hsz, e9, e13]) A8 (st_str _ m4 m4f) ?_
  refine wpAnyH_done (by kernel_rfl) ?_ _
  refine NoPanic.normal ?_
  rw [HBB.out]
  simp only [Act.put, List.setIfInBounds_toArray, List.set_cons_zero, List.set_cons_succ]
  have M8 : Blk ((w6.drew.setCell ⟨mb, 0, none⟩ (.int .i64 (sx.tmod 20))).setCell ⟨mb, 4, none⟩ (.string (d.extract 0 q))) mb 30 #[.int .i64 (sx.tmod 20), .int .i64 ss, .bool lo, .int .u32 pr, .string (d.extract 0 q)] := M7.set_ 4 (.string (d.extract 0 q))
  have al8 : Below w.heap.size w ((w6.drew.setCell ⟨mb, 0, none⟩ (.int .i64 (sx.tmod 20))).setCell ⟨mb, 4, none⟩ (.string (d.extract 0 q))) := (HW.out.2.2.2.drew.setCell (p := ⟨mb, 0, none⟩) (by rw [HMB.out]; exact Nat.le_refl _) _).setCell (p := ⟨mb, 4, none⟩) (by rw [HMB.out]; exact Nat.le_refl _) _
  have F8 := HW.out.1.below al8 (Nat.le_refl _)
  have bel8 := HW.out.2.1.trans (al8.mono HW.out.2.2.1)
  have hG8 : G ≤ ((w6.drew.setCell ⟨mb, 0, none⟩ (.int .i64 (sx.tmod 20))).setCell ⟨mb, 4, none⟩ (.string (d.extract 0 q))).heap.size := Nat.le_trans HW.out.2.2.1 al8.size
  have hmq : mb ≠ qb := by have := HW.out.1.q.lt; have := HMB.out; omega
  clear HBB HS HC A8 A7 A6 M6 M6' M7 m0 m0f m4 m4f al8 hsz e9 e13 hrem hlen1 hmin hsl HW
  generalize (w6.drew.setCell ⟨mb, 0, none⟩ (.int .i64 (sx.tmod 20))).setCell ⟨mb, 4, none⟩ (.string (d.extract 0 q)) = w8 at *
  obtain ⟨xl, hxl⟩ : ∃ xl : Array Value, #[.int .i64 (sx.tmod 20), .int .i64 ss, .bool lo, .int .u32 pr, .string (d.extract 0 q)] = xl := ⟨_, rfl⟩
  have hrf := HB.out.2.2.2.2.2.1 w8 nv wv ov F8.n F8.v F8.o hG8
  have hrf' : Calls Try.prog 53 #[.agg #[nv, wv, ov], .agg #[.int .i64 (sx.tmod 20), .int .i64 ss, .bool lo, .int .u32 pr, .string (d.extract 0 q)]] w8 (RPut G nv wv ov w8 ok (Z'.map (·.1)) W' O') := hrf
  clear hrf hxl
  have RQ := F8.q
  have HF8 := Lib.hid (And.intro F8 (And.intro bel8 hG8))
  clear F8 bel8 hG8
  go_wp2_with (first | (refine wpList_load_at rfl 87 _ rfl qb 0 rfl #[nv, wv, ov] _ (Cel.of_blk RQ) Try.underlying87 rfl (szR _ _ _) ?_) | (refine wpList_load_at rfl 30 _ rfl mb 0 rfl #[.int .i64 (sx.tmod 20), .int .i64 ss, .bool lo, .int .u32 pr, .string (d.extract 0 q)] _ (Cel.of_blk M8) Try.underlying30 rfl (szX ⟨sx.tmod 20, ss, lo, pr, d.extract 0 q⟩) ?_))
  refine hrf'.mono ?_
  rintro e w9 ⟨nv', wv', ov', rfl, n9, v9, o9, hnn, hb9⟩
  have M9 := M8.below hb9 M8.lt
  have Q9 := RQ.below hb9 RQ.lt
  obtain ⟨on', cn', hnv', _, _⟩ := n9.shape
  obtain ⟨ow', cw', hwv', _, _⟩ := v9.shape
  obtain ⟨oo', co', hov', _, _⟩ := o9.shape
  have al10 := hb9.alloc hb9.size (.cells #[nv', wv', ov'] 87)
  have al9 := (Below.refl w9.heap.size w9).alloc (Nat.le_refl _) (.cells #[nv', wv', ov'] 87)
  have F11 := HF8.out.1.stepQ al10 (n9.below al9 (Nat.le_refl _)) (v9.below al9 (Nat.le_refl _)) (o9.below al9 (Nat.le_refl _)) hnn
  have M10 := M9.below al9 M9.lt
  have Q10 := Q9.below al9 Q9.lt
  have R10 := Blk.new w9 87 #[nv', wv', ov']
  have M11 : Blk ((w9.alloc (.cells #[nv', wv', ov'] 87)).setCells qb 0 [nv', wv', ov']) mb 30 #[.int .i64 (sx.tmod 20), .int .i64 ss, .bool lo, .int .u32 pr, .string (d.extract 0 q)] := blk_setCells M10 hmq _ _
  have bel11 : Below G w0 ((w9.alloc (.cells #[nv', wv', ov'] 87)).setCells qb 0 [nv', wv', ov']) := below_setCells (HF8.out.2.1.trans (al10.mono HF8.out.2.2)) HF8.out.1.hq _ _
  have hpr := HB.out.2.2.2.2.2.2 _ sv rv F11.D
  have hpr' : Calls Try.prog 54 #[.pointer (some ⟨g, 0, none⟩), .agg #[.int .i64 (sx.tmod 20), .int .i64 ss, .bool lo, .int .u32 pr, .string (d.extract 0 q)]] ((w9.alloc (.cells #[nv', wv', ov'] 87)).setCells qb 0 [nv', wv', ov']) fun e w' => e = .returned (.bool ok) ∧ (∃ rv', Dw G g sv rv' (btm W' + btm O') Z' W' O' w' ∧ Keep g sv rv Z rv' ((w9.alloc (.cells #[nv', wv', ov'] 87)).setCells qb 0 [nv', wv', ov']) w') ∧ Below G ((w9.alloc (.cells #[nv', wv', ov'] 87)).setCells qb 0 [nv', wv', ov']) w' := hpr
  have HF11 := Lib.hid (And.intro F11 bel11)
  have HP := Lib.hid hpr'
  clear hpr hpr' F11 bel11 M9 M10 Q9 RQ M8 hrf' al10 al9 n9 v9 o9 hnn hb9 HF8
  rw [List.length_map] at hnv'
  subst hnv'
  subst hwv'
  subst hov'
  go_upto_region 14 with (first | (refine wpList_load_at rfl 87 _ rfl w9.heap.size 0 rfl #[.slice on' Z'.length cn', .slice ow' W'.length cw', .slice oo' O'.length co'] _ (Cel.of_blk R10) Try.underlying87 rfl (szR _ _ _) ?_) | (refine wpList_store_at rfl 87 _ _ rfl qb 0 #[.slice on' Z'.length cn', .slice ow' W'.length cw', .slice oo' O'.length co'] rfl rfl _ (Cel.of_blk Q10) (szR _ _ _) rfl (by kernel_rfl) ?_))
  have hpr' := HP.out
  clear HP Q10 R10
  obtain ⟨w11, hw11⟩ : ∃ w11, (w9.alloc (.cells #[.slice on' Z'.length cn', .slice ow' W'.length cw', .slice oo' O'.length co'] 87)).setCells qb 0 [.slice on' Z'.length cn', .slice ow' W'.length cw', .slice oo' O'.length co'] = w11 := ⟨_, rfl⟩
  have hw11' : (w9.alloc (.cells #[.slice on' Z'.length cn', .slice ow' W'.length cw', .slice oo' O'.length co'] 87)).setCells qb 0 (#[.slice on' Z'.length cn', .slice ow' W'.length cw', .slice oo' O'.length co'] : Array Value).toList = w11 := hw11
  have HF12 := HF11
  rw [hw11] at hpr' M11
  have F11 := HF11.out.1
  have bel11 := HF11.out.2
  rw [hw11] at F11 bel11
  have HFF := Lib.hid (And.intro F11 bel11)
  clear HF11 HF12 F11 bel11
  first | rw [hw11] | rw [hw11'] | skip
  clear hw11 hw11'
  go_wp2_with (refine wpList_load_at rfl 30 _ rfl mb 0 rfl #[.int .i64 (sx.tmod 20), .int .i64 ss, .bool lo, .int .u32 pr, .string (d.extract 0 q)] _ (Cel.of_blk M11) Try.underlying30 rfl (szX ⟨sx.tmod 20, ss, lo, pr, d.extract 0 q⟩) ?_)
  refine hpr'.mono ?_
  rintro e w12 ⟨rfl, ⟨rv', D12, K12⟩, hb12⟩
  have F12 := HFF.out.1.stepD D12 K12.size K12.block (fun i hF => by
    rcases hF with h | h | h | ⟨z, h, he⟩
    · exact .inl (.inl h)
    · exact .inl (.inr (.inl h))
    · rcases K12.rv i h with h' | h'
      · exact .inl (.inr (.inr (.inl h')))
      · exact .inr h'
    · obtain ⟨y, hy, hy2⟩ := HB.out.2.2.2.2.1 z h
      exact .inl (.inr (.inr (.inr ⟨y, hy, by rw [hy2, he]⟩))))
  have HX := Lib.hid (show Rn G g qb (i + 1) w0 w12 from ⟨sv, rv', _, _, _, Z', W', O', by rw [HB.out.1]; exact hZ, by have := HB.out.2.1; omega, by have := HB.out.2.2.1; omega, HB.out.2.2.2.1, F12, HFF.out.2.trans hb12⟩)
  clear F12 D12 K12 hb12 M11 hpr' HFF HB
  cases ok
  · go_wp2_with fail
    exact HF.out _ _ _ _ _ _ _ _ _ _ _ _ _ _ _ _ _ _ _ _ _ _ _ _ _ _ _ _ _ _ _ _ _ _ HX.out
  · go_wp2_with fail
    exact HF.out _ _ _ _ _ _ _ _ _ _ _ _ _ _ _ _ _ _ _ _ _ _ _ _ _ _ _ _ _ _ _ _ _ _ HX.out
end Go.Proofs.Ythddacgdmngfhaa.del
