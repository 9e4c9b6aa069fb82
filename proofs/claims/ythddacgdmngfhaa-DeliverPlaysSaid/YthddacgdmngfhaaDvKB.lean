/- Layer 18: the switch's arms, each over the frame written out (gen-dvk.py wrote this). -/
import Derived.Test.YthddacgdmngfhaaDvJ
namespace Go.Proofs.Ythddacgdmngfhaa.del
open Go.Sort (grow)
open Go.ChangeShapes Go.WideShapes Go.ChangeAt Go.RowKit kit
set_option maxRecDepth 1000000
set_option maxHeartbeats 16000000 in
theorem armR_cons (v0 v1 v2 v3 v4 v5 v8 v9 v10 v11 v12 v13 v14 v15 v16 v17 v18 v19 v20 v21 v22 v23 v24 v25 v26 v27 v28 v29 v30 v31 v32 v33 v34 v35 v36 v37 v38 v39 v40 v41 v42 v43 v44 v45 v46 v47 v48 v49 v50 v51 v52 v53 v54 v55 v56 v57 v58 v59 v60 v61 v62 v63 v64 v65 v66 v67 v68 v69 v70 v71 v72 v73 v74 v75 v76 v77 v78 v79 v80 v81 v82 v83 v84 v85 v86 v87 v88 v89 v90 v91 v92 v93 v94 v95 v96 v97 v98 v99 v100 v101 v102 v103 v104 v105 v106 v107 v108 v109 v110 v111 v112 v113 v114 v115 v116 v117 v118 v119 v120 v121 v122 v123 v124 v125 v126 v127 v128 v129 v130 v131 v132 v133 v134 v135 v136 v137 v138 v139 v140 v141 v142 v143 v144 v145 v146 v147 v148 v149 v150 v151 v152 v153 v154 v155 v156 v157 v158 v159 v160 v161 v162 v163 v164 v165 v166 v167 v168 v169 v170 v171 v172 v173 v174 v175 v176 v177 v178 : Value) {G g qb i : Nat} {sv rv nv wv ov : Value} {Z : List (Nat × Nat)} {W : List Mg} {w0 w : World} (hZ : Z.length ≤ 16) (hdr : Dr Z W) (hi : i < 60) {x : Mg} {r : List Mg} (hlen : W.length + (x :: r).length ≤ i) (hbt : btm W + btm (x :: r) ≤ 5 * i) (F5 : Lw G g qb sv rv (btm W + btm (x :: r)) Z W (x :: r) nv wv ov (Z.map (·.1)) W (x :: r) w) (bel5 : Below G w0 w)
    (Q : Exit → Act → World → Prop) (hfin : ∀ (u4 u10 u11 u79 u80 u81 u82 u83 u84 u85 u86 u87 u88 u89 u90 u91 u92 u93 u94 u95 u96 u97 u98 u99 u100 u101 u102 u103 u104 u105 : Value) (w' : World), Rn G g qb (i + 1) w0 w' → Q .normal ⟨#[v0, v1, v2, v3, u4, v5, .pointer (some ⟨g, 0, none⟩), .pointer (some ⟨qb, 0, none⟩), v8, v9, u10, u11, v12, v13, v14, v15, v16, v17, v18, v19, v20, v21, v22, v23, v24, v25, v26, v27, v28, v29, v30, v31, v32, v33, v34, v35, v36, v37, v38, v39, v40, v41, v42, v43, v44, v45, v46, v47, v48, v49, v50, v51, v52, v53, v54, v55, v56, v57, v58, v59, v60, v61, v62, v63, v64, v65, v66, v67, v68, v69, v70, v71, v72, v73, v74, v75, v76, v77, v78, u79, u80, u81, u82, u83, u84, u85, u86, u87, u88, u89, u90, u91, u92, u93, u94, u95, u96, u97, u98, u99, u100, u101, u102, u103, u104, u105, v106, v107, v108, v109, v110, v111, v112, v113, v114, v115, v116, v117, v118, v119, v120, v121, v122, v123, v124, v125, v126, v127, v128, v129, v130, v131, v132, v133, v134, v135, v136, v137, v138, v139, v140, v141, v142, v143, v144, v145, v146, v147, v148, v149, v150, v151, v152, v153, v154, v155, v156, v157, v158, v159, v160, v161, v162, v163, v164, v165, v166, v167, v168, v169, v170, v171, v172, v173, v174, v175, v176, v177, v178], []⟩ w') (c : Code) (hc : c = codeR) :
    Code.wp Try.prog c Q ⟨#[v0, v1, v2, v3, v4, v5, .pointer (some ⟨g, 0, none⟩), .pointer (some ⟨qb, 0, none⟩), v8, v9, v10, v11, v12, v13, v14, v15, v16, v17, v18, v19, v20, v21, v22, v23, v24, v25, v26, v27, v28, v29, v30, v31, v32, v33, v34, v35, v36, v37, v38, v39, v40, v41, v42, v43, v44, v45, v46, v47, v48, v49, v50, v51, v52, v53, v54, v55, v56, v57, v58, v59, v60, v61, v62, v63, v64, v65, v66, v67, v68, v69, v70, v71, v72, v73, v74, v75, v76, v77, v78, v79, v80, v81, v82, v83, v84, v85, v86, v87, v88, v89, v90, v91, v92, v93, v94, v95, v96, v97, v98, v99, v100, v101, v102, v103, v104, v105, v106, v107, v108, v109, v110, v111, v112, v113, v114, v115, v116, v117, v118, v119, v120, v121, v122, v123, v124, v125, v126, v127, v128, v129, v130, v131, v132, v133, v134, v135, v136, v137, v138, v139, v140, v141, v142, v143, v144, v145, v146, v147, v148, v149, v150, v151, v152, v153, v154, v155, v156, v157, v158, v159, v160, v161, v162, v163, v164, v165, v166, v167, v168, v169, v170, v171, v172, v173, v174, v175, v176, v177, v178], []⟩ w := by
  subst hc
  conv => arg 2; whnf
  have HF := Lib.hid hfin
  clear hfin
  obtain ⟨gl, fl', cl', hv, hn1, hn2, hgl1, hgl2, hbl, hK⟩ := F5.o.show_ (by simp)
  have hG5 : G ≤ w.heap.size := by have := F5.D.hg; have := F5.D.B.lt; omega
  have K5 : Cel w gl fl' (mgc x) := by
    have := hK 0 (mgc x) (by simp) (Nat.le_refl 5) (cellsM_get (by rfl))
    rw [Nat.zero_mul, Nat.add_zero] at this
    exact this
  subst hv
  have hglF : ¬ Foot g sv rv Z gl := fun hF => (F5.ap gl hF).2.2.2 hbl
  have he : btm W + btm (x :: r) = x.d.size + (btm W + btm r) := by simp only [btm]; omega
  have D5 := F5.D
  rw [he] at D5
  have hrd := dv_read D5 (by omega) (by omega)
  clear hK
  obtain ⟨s, ss, lo, pr, d⟩ := x
  simp only [mgc] at hrd
  go_wp2_with fail
  refine hrd.mono ?_
  rintro e w6 ⟨rfl, ⟨rv', D6, K6⟩, hb6⟩
  have hs6 := K6.size
  have F6 := F5.stepD D6 K6.size K6.block (fun i hF => by
    rcases hF with h | h | h | h
    · exact .inl (.inl h)
    · exact .inl (.inr (.inl h))
    · rcases K6.rv i h with h' | h'
      · exact .inl (.inr (.inr (.inl h')))
      · exact .inr h'
    · exact .inl (.inr (.inr (.inr h))))
  have K6' : Cel w6 gl fl' #[.int .i64 s, .int .i64 ss, .bool lo, .int .u32 pr, .string d] := K5.block (K6.block gl hgl2 hglF) (by omega)
  have bel6 := bel5.trans hb6
  have hG6 : G ≤ w6.heap.size := Nat.le_trans hG5 hs6
  clear hrd F5 bel5 hb6 K5 D5 D6 K6
  have al7 := (Below.refl w6.heap.size w6).alloc (Nat.le_refl _) (.cells #[.int .i64 s, .int .i64 ss, .bool lo, .int .u32 pr, .string d] 30)
  have F7 := F6.below al7 (Nat.le_refl _)
  have K7 := K6'.below al7 K6'.lt
  have Y7 := Blk.new w6 30 #[.int .i64 s, .int .i64 ss, .bool lo, .int .u32 pr, .string d]
  have bel7 := bel6.trans (al7.mono hG6)
  have hs67 := al7.size
  clear F6 K6' bel6 al7
  go_upto_region 18 with fail
  generalize w6.alloc (.cells #[.int .i64 s, .int .i64 ss, .bool lo, .int .u32 pr, .string d] 30) = w7 at *
  generalize w6.heap.size = y at *
  have c2 : w7.cell? ⟨qb, 2, none⟩ = some (.slice (some ⟨gl, fl', none⟩) (r.length + 1) cl') := F7.q.cell 2
  have HFF := Lib.hid (And.intro F7 bel7)
  have hneq : ∀ W, (binOp .neq 30 (.agg #[.int .i64 s, .int .i64 ss, .bool lo, .int .u32 pr, .string d]) (.agg #[.int .i64 s, .int .i64 ss, .bool lo, .int .u32 pr, .string d])).run Try.prog W = .ok (.bool false) W := fun W => neqM ⟨s, ss, lo, pr, d⟩ W
  clear F7 bel7
  have hlen0 : (0 : Int) < (r.length : Int) + 1 := by omega
  have hlenN : 0 < r.length + 1 := by omega
  refine wp_region_quiet_below (by kernel_rfl) (by kernel_rfl) ?_
  have ky2 := cell_regrown c2
  repeat (any_goals (first | (refine wpQuiet_load_at (by rfl) 30 _ (by rfl) y 0 (by rfl) #[.int .i64 s, .int .i64 ss, .bool lo, .int .u32 pr, .string d] _ Try.underlying30 (by rfl) (szX ⟨s, ss, lo, pr, d⟩) (fun w' hw' => by obtain ⟨p, rfl⟩ := hw'; exact (Cel.of_blk Y7).below (below_regrown w7 _ _) Y7.lt) ?_) | (refine wpQuiet_load_at (by rfl) 30 _ (by rfl) gl fl' (by rfl) #[.int .i64 s, .int .i64 ss, .bool lo, .int .u32 pr, .string d] _ Try.underlying30 (by rfl) (szX ⟨s, ss, lo, pr, d⟩) (fun w' hw' => by obtain ⟨p, rfl⟩ := hw'; exact K7.below (below_regrown w7 _ _) K7.lt) ?_) | go_big_quiet_step (fail) | quiet_step (fail)))
  refine wpQuiet_nil ?_
  intro _ hw'
  obtain ⟨⟨dq, osq⟩, hw''⟩ := hw'
  subst hw''
  have gb := below_regrown w7 dq osq
  have F8 := HFF.out.1.below gb (Nat.le_refl _)
  have bel8 := HFF.out.2.trans (gb.mono (Nat.le_trans hG6 hs67))
  clear HFF ky2 c2 K7 Y7 gb hneq
  generalize grow (redrawn w7 dq) osq = w8 at *
  have c8 : w8.cell? ⟨qb, 2, none⟩ = some (.slice (some ⟨gl, fl', none⟩) (r.length + 1) cl') := F8.q.cell 2
  have f8 : w8.frozen? ⟨qb, 2, none⟩ = false := F8.q.frozen 2
  have hcl1 : 1 ≤ cl' := by simp only [List.length_cons] at hn1; omega
  unfold maxLen at hn2
  obtain ⟨q9, hb9⟩ := qo_tail2 F8.o (by simp)
  rw [cellsM_drop] at q9
  have F9 := F8.setO (O1 := r) q9 (fun k hk => by
    rcases hb9 with h | h
    · rw [h] at hk; rw [← hk]; exact hbl
    · rw [h] at hk; cases hk)
  have bel9 := fun (v : Value) => bel8.setCell (p := ⟨qb, 2, none⟩) F8.hq v
  have HFG := Lib.hid (And.intro F9 bel9)
  have HL := Lib.hid (And.intro hlen hbt)
  clear F8 bel8 q9 hb9 F9 bel9 hlen hbt
  rcases (by omega : cl' = 1 ∨ ¬ cl' = 1) with hc | hc
  · subst hc
    have F9 := HFG.out.1
    simp only [if_pos, Nat.add_sub_cancel, Nat.sub_self] at F9
    have HFH := Lib.hid F9
    clear F9
    go_wp2_with fail
    exact HF.out _ _ _ _ _ _ _ _ _ _ _ _ _ _ _ _ _ _ _ _ _ _ _ _ _ _ _ _ _ _ _ ⟨sv, rv', nv, wv, _, Z, W, r, hZ, by have := HL.out.1; simp only [List.length_cons] at this; omega, by have := HL.out.2; simp only [btm] at this; omega, hdr, HFH.out, HFG.out.2 _⟩
  · have F9 := HFG.out.1
    simp only [if_neg hc, Nat.add_sub_cancel] at F9
    have HFH := Lib.hid F9
    clear F9
    go_wp2_with fail
    exact HF.out _ _ _ _ _ _ _ _ _ _ _ _ _ _ _ _ _ _ _ _ _ _ _ _ _ _ _ _ _ _ _ ⟨sv, rv', nv, wv, _, Z, W, r, hZ, by have := HL.out.1; simp only [List.length_cons] at this; omega, by have := HL.out.2; simp only [btm] at this; omega, hdr, HFH.out, HFG.out.2 _⟩
end Go.Proofs.Ythddacgdmngfhaa.del
