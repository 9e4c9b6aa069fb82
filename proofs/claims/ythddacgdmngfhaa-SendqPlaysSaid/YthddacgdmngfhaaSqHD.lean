/- Layer 20: the switch's arms, each over the frame written out (gen-sqh.py wrote this). -/
import Derived.Test.YthddacgdmngfhaaSqT
import Derived.Test.YthddacgdmngfhaaSqF
import Derived.Test.YthddacgdmngfhaaSqHO
import Derived.Test.YthddacgdmngfhaaSqHP
namespace Go.Proofs.Ythddacgdmngfhaa.fra
open Go.Sort (grow)
open Go.ChangeShapes Go.WideShapes Go.ChangeAt Go.RowKit kit byt fil
set_option maxRecDepth 1000000
theorem wp_cond_f {P : Program} {c : Operand} {x y : Code} {Q : Exit → Act → World → Prop} {a : Act} {w : World} (hc : a.eval c = .bool false) (h : y.wp P Q a w) : (Code.cond c x y).wp P Q a w := wp_cond hc (by simpa using h)
set_option maxHeartbeats 16000000 in
theorem armD (v0 v1 v2 v3 v4 v5 v8 v10 v12 v13 v14 v15 v16 v17 v18 v19 v20 v21 v22 v23 v24 v25 v26 v27 v28 v29 v30 v31 v32 v33 v34 v35 v36 v37 v38 v39 v40 v41 v42 v43 v44 v45 v46 v47 v48 v49 v50 v51 v52 v53 v54 v55 v56 v57 v58 v59 v60 v61 v62 v63 v64 v65 v66 v67 v68 v69 v70 v71 v72 v73 v74 v75 v76 v77 v78 v79 v80 v81 v82 v83 v84 v85 v86 v87 v88 v89 v90 v91 v92 v93 v94 v95 v96 v97 v98 v99 v100 v101 v102 v103 v104 v105 v106 v107 v108 v109 v110 v111 v112 v113 v114 v115 v116 v117 v118 v119 v120 v121 v122 v123 v124 v125 v126 v127 v128 v129 v130 v131 v132 v133 v134 v135 v136 v137 v138 v139 v140 v141 v142 v143 v144 v145 v146 v147 v148 v149 v150 v151 v152 v153 v154 v155 v156 v157 v158 v159 v160 v161 v162 v163 v164 v165 v166 v167 v168 v169 v170 v171 v172 v173 v174 v175 v176 v177 v178 v179 v180 v181 v182 v183 v184 v185 v186 v187 v188 v189 v190 v191 v192 v193 v194 v195 v196 v197 v198 v199 v200 v201 v202 v203 v204 v205 v206 v207 v208 v209 v210 v211 v212 v213 v214 v215 v216 v217 v218 v219 v220 v221 v222 v223 v224 v225 v226 v227 v228 v229 v230 : Value) {G g i : Nat} {pv cv : Value} {P : List Nat} {w0 w : World} (hP : P.length ≤ 16) (hpl : ∀ q ∈ P, q < 65536) {C : List Ck} {on : Option Addr} {cn ab : Nat} {aw st ss pr lg un : Int} {lo : Bool} {d : ByteArray} (hag : ab ≠ g) (hap : ∀ v, v = pv ∨ v = cv → blkOf v ≠ some ab) (hd : d.size ≤ maxLen) (hun : un ≤ 9223372036854775807) (A5 : Blk w ab 32 #[.int .i64 aw, .int .i64 st, .int .i64 ss, .bool lo, .int .u32 pr, .string d, .int .i64 lg, .int .i64 un]) (hi5 : i < 50) (hC : C.length ≤ 16 * i) (hbt : bts C ≤ 6000) (F5 : Gs G g pv cv (.slice on P.length cn) v8 P C w) (bel5 : Below G w0 w)
    (Q : Exit → Act → World → Prop) (hfin : ∀ (u4 u7 u8 u9 u17 u18 u48 u49 u50 u51 u52 u53 u54 u55 u56 u57 u58 u59 u60 u61 u62 u63 u64 u65 u66 u67 u68 u69 u70 u71 u72 u73 u74 u75 u76 u77 u78 u79 u80 u81 u82 u83 u84 u85 u86 u87 u88 u89 u90 u91 u92 u93 u94 u95 u96 u97 u98 u99 u100 u101 u102 u103 u104 u105 u106 u107 u108 u109 u110 u111 u112 u113 u114 u115 u116 u117 u118 u119 u120 u121 u122 u123 u124 u125 u126 u127 u128 u129 u130 u131 u132 u133 u134 u135 u136 u137 u138 u139 u140 u141 u142 u143 u144 u145 u146 : Value) (w' : World), Rn G g i w0 (u7) (u8) (u9) w' → Q .normal ⟨#[v0, v1, v2, v3, u4, v5, .pointer (some ⟨g, 0, none⟩), u7, u8, u9, v10, .pointer (some ⟨ab, 0, none⟩), v12, v13, v14, v15, v16, u17, u18, v19, v20, v21, v22, v23, v24, v25, v26, v27, v28, v29, v30, v31, v32, v33, v34, v35, v36, v37, v38, v39, v40, v41, v42, v43, v44, v45, v46, v47, u48, u49, u50, u51, u52, u53, u54, u55, u56, u57, u58, u59, u60, u61, u62, u63, u64, u65, u66, u67, u68, u69, u70, u71, u72, u73, u74, u75, u76, u77, u78, u79, u80, u81, u82, u83, u84, u85, u86, u87, u88, u89, u90, u91, u92, u93, u94, u95, u96, u97, u98, u99, u100, u101, u102, u103, u104, u105, u106, u107, u108, u109, u110, u111, u112, u113, u114, u115, u116, u117, u118, u119, u120, u121, u122, u123, u124, u125, u126, u127, u128, u129, u130, u131, u132, u133, u134, u135, u136, u137, u138, u139, u140, u141, u142, u143, u144, u145, u146, v147, v148, v149, v150, v151, v152, v153, v154, v155, v156, v157, v158, v159, v160, v161, v162, v163, v164, v165, v166, v167, v168, v169, v170, v171, v172, v173, v174, v175, v176, v177, v178, v179, v180, v181, v182, v183, v184, v185, v186, v187, v188, v189, v190, v191, v192, v193, v194, v195, v196, v197, v198, v199, v200, v201, v202, v203, v204, v205, v206, v207, v208, v209, v210, v211, v212, v213, v214, v215, v216, v217, v218, v219, v220, v221, v222, v223, v224, v225, v226, v227, v228, v229, v230], []⟩ w') (c : Code) (hc : c = codeD) :
    Code.wp Try.prog c Q ⟨#[v0, v1, v2, v3, v4, v5, .pointer (some ⟨g, 0, none⟩), .slice on P.length cn, v8, .int .i64 (bts C : Nat), v10, .pointer (some ⟨ab, 0, none⟩), v12, v13, v14, v15, v16, v17, v18, v19, v20, v21, v22, v23, v24, v25, v26, v27, v28, v29, v30, v31, v32, v33, v34, v35, v36, v37, v38, v39, v40, v41, v42, v43, v44, v45, v46, v47, v48, v49, v50, v51, v52, v53, v54, v55, v56, v57, v58, v59, v60, v61, v62, v63, v64, v65, v66, v67, v68, v69, v70, v71, v72, v73, v74, v75, v76, v77, v78, v79, v80, v81, v82, v83, v84, v85, v86, v87, v88, v89, v90, v91, v92, v93, v94, v95, v96, v97, v98, v99, v100, v101, v102, v103, v104, v105, v106, v107, v108, v109, v110, v111, v112, v113, v114, v115, v116, v117, v118, v119, v120, v121, v122, v123, v124, v125, v126, v127, v128, v129, v130, v131, v132, v133, v134, v135, v136, v137, v138, v139, v140, v141, v142, v143, v144, v145, v146, v147, v148, v149, v150, v151, v152, v153, v154, v155, v156, v157, v158, v159, v160, v161, v162, v163, v164, v165, v166, v167, v168, v169, v170, v171, v172, v173, v174, v175, v176, v177, v178, v179, v180, v181, v182, v183, v184, v185, v186, v187, v188, v189, v190, v191, v192, v193, v194, v195, v196, v197, v198, v199, v200, v201, v202, v203, v204, v205, v206, v207, v208, v209, v210, v211, v212, v213, v214, v215, v216, v217, v218, v219, v220, v221, v222, v223, v224, v225, v226, v227, v228, v229, v230], []⟩ w := by
  subst hc
  conv => arg 2; whnf
  have HF := Lib.hid hfin
  clear hfin
  obtain ⟨q, hq⟩ : ∃ q : Nat, min d.size 5 = q := ⟨_, rfl⟩
  have hmx := i64_mask lg 12 (by omega)
  rw [show ((2 ^ 12 - 1 : Nat) : Int) = 4095 from rfl] at hmx
  obtain ⟨m, hm, hm1⟩ : ∃ m : Nat, bits .and .i64 lg 4095 = m ∧ m ≤ 4095 := ⟨(lg % (2 ^ 12 : Nat)).toNat, by rw [hmx]; omega, by omega⟩
  clear hmx
  have hG5 : G ≤ w.heap.size := by have := F5.s.hg; have := F5.s.B.lt; omega
  have K1 : Cel w ab 1 #[.int .i64 st, .int .i64 ss, .bool lo, .int .u32 pr, .string d] := (Cel.of_blk A5).sub 1 6
  go_upto_region 12 with (refine wpList_load_at rfl 30 _ rfl ab 1 rfl #[.int .i64 st, .int .i64 ss, .bool lo, .int .u32 pr, .string d] _ K1 Try.underlying30 rfl (szM st ss pr lo d) ?_)
  clear K1
  have al6 := (Below.refl w.heap.size w).alloc (Nat.le_refl _) (.cells #[.int .i64 st, .int .i64 ss, .bool lo, .int .u32 pr, .string d] 30)
  have A6 := A5.below al6 A5.lt
  have M6 := Blk.new w 30 #[.int .i64 st, .int .i64 ss, .bool lo, .int .u32 pr, .string d]
  have hab := A5.lt
  obtain ⟨mb, hmb⟩ : ∃ mb, w.heap.size = mb := ⟨_, rfl⟩
  rw [hmb] at M6 hG5 al6 hab ⊢
  generalize w.alloc (.cells #[.int .i64 st, .int .i64 ss, .bool lo, .int .u32 pr, .string d] 30) = w6 at *
  refine r12 _ w6 ab mb m q aw st ss pr lg un lo d (by omega) hq hm hm1 hd A6 M6 (by rfl) (by rfl) (by rfl) _ ?_ _ (by kernel_rfl)
  intro u66 w7 M7 hs7 hf7 bel7
  simp only [Act.put, List.setIfInBounds_toArray, List.set_cons_zero, List.set_cons_succ]
  have hDs : (d.extract 0 q ++ Zs m).size ≤ 5000 := by rw [ByteArray.size_append, Zs_size, ByteArray.size_extract]; omega
  generalize d.extract 0 q ++ Zs m = D at *
  have b67 := al6.trans bel7
  have F7 := F5.below b67 (Nat.le_of_eq hmb)
  have A7 := A5.below b67 hab
  have bel8 := bel5.trans (b67.mono hG5)
  clear hs7 hf7 bel7 al6 A6 M6
  have hdist : ∀ v, v = pv ∨ v = cv ∨ v = .slice on P.length cn ∨ v = v8 → blkOf v ≠ some mb := by
    rintro v (rfl | rfl | rfl | rfl) e
    · have := (F5.s.p.lt e).2; omega
    · have := (F5.s.c.lt e).2; omega
    · have := (F5.n.lt e).2; omega
    · have := (F5.l.lt e).2; omega
  have hgmb : mb ≠ g := by have := F5.s.B.lt; omega
  clear F5 bel5 A5 b67
  have hput := sq_put F7.s (st.tmod 20) ss pr un lo D hP hpl (by omega) hbt (by omega)
  have a7 : w7.cell? ⟨ab, 7, none⟩ = some (.int .i64 un) := A7.cell 7
  go_wp2_with (refine wpList_load_at rfl 30 _ rfl mb 0 rfl #[.int .i64 (st.tmod 20), .int .i64 ss, .bool lo, .int .u32 pr, .string D] _ (Cel.of_blk M7) Try.underlying30 rfl (szM _ _ _ _ _) ?_)
  refine hput.mono ?_
  rintro e w8 hR
  obtain ⟨hs8, bb8, hR⟩ := hR
  have bel9 := bel8.trans bb8
  have hmw7 := M7.lt
  have A7c := a7
  have hA8 : Below w7.heap.size w7 w8 → w8.cell? ⟨ab, 7, none⟩ = some (.int .i64 un) := fun hb => (A7.below hb A7.lt).cell 7
  rcases hR with ⟨hbad, rfl, b8⟩ | ⟨hnb, hfull, rfl, b8⟩ | ⟨hnb, hnf, rfl, k, cv', hst, hk, S8, hcv, hfr⟩
  · have m0 : w8.cell? ⟨mb, 0, none⟩ = some (.int .i64 (st.tmod 20)) := (M7.below b8 M7.lt).cell 0
    have m4 : w8.cell? ⟨mb, 4, none⟩ = some (.string D) := (M7.below b8 M7.lt).cell 4
    have F8 := F7.below b8 (Nat.le_refl _)
    have HX := Lib.hid (And.intro F8 bel9)
    clear F8 bel9 F7 bel8 bb8 a7 A7c hput hdist M7 A7 hA8
    as_aux_lemma =>
      have hbad' := hbad
      unfold badM at hbad'
      by_cases c1 : st.tmod 20 < 0
      · go_wp2_with fail
        exact HF.out _ _ _ _ _ _ _ _ _ _ _ _ _ _ _ _ _ _ _ _ _ _ _ _ _ _ _ _ _ _ _ _ _ _ _ _ _ _ _ _ _ _ _ _ _ _ _ _ _ _ _ _ _ _ _ _ _ _ _ _ _ _ _ _ _ _ _ _ _ _ _ _ _ _ _ _ _ _ _ _ _ _ _ _ _ _ _ _ _ _ _ _ _ _ _ _ _ _ _ _ _ _ _ _ _ _ ⟨P, C, pv, cv, rfl, hP, hpl, by omega, hbt, HX.out.1, HX.out.2⟩
      · by_cases c2 : (P.length : Int) ≤ st.tmod 20
        · go_wp2_with fail
          exact HF.out _ _ _ _ _ _ _ _ _ _ _ _ _ _ _ _ _ _ _ _ _ _ _ _ _ _ _ _ _ _ _ _ _ _ _ _ _ _ _ _ _ _ _ _ _ _ _ _ _ _ _ _ _ _ _ _ _ _ _ _ _ _ _ _ _ _ _ _ _ _ _ _ _ _ _ _ _ _ _ _ _ _ _ _ _ _ _ _ _ _ _ _ _ _ _ _ _ _ _ _ _ _ _ _ _ _ ⟨P, C, pv, cv, rfl, hP, hpl, by omega, hbt, HX.out.1, HX.out.2⟩
        · by_cases c3 : D.size = 0
          · have hz := emp_list D c3
            clear c3 hbad'
            go_wp2_with fail
            exact HF.out _ _ _ _ _ _ _ _ _ _ _ _ _ _ _ _ _ _ _ _ _ _ _ _ _ _ _ _ _ _ _ _ _ _ _ _ _ _ _ _ _ _ _ _ _ _ _ _ _ _ _ _ _ _ _ _ _ _ _ _ _ _ _ _ _ _ _ _ _ _ _ _ _ _ _ _ _ _ _ _ _ _ _ _ _ _ _ _ _ _ _ _ _ _ _ _ _ _ _ _ _ _ _ _ _ _ ⟨P, C, pv, cv, rfl, hP, hpl, by omega, hbt, HX.out.1, HX.out.2⟩
          · have hz := ne_list D (by omega)
            have c4 : (3000 : Int) < (D.size : Int) := by omega
            go_wp2_with fail
            exact HF.out _ _ _ _ _ _ _ _ _ _ _ _ _ _ _ _ _ _ _ _ _ _ _ _ _ _ _ _ _ _ _ _ _ _ _ _ _ _ _ _ _ _ _ _ _ _ _ _ _ _ _ _ _ _ _ _ _ _ _ _ _ _ _ _ _ _ _ _ _ _ _ _ _ _ _ _ _ _ _ _ _ _ _ _ _ _ _ _ _ _ _ _ _ _ _ _ _ _ _ _ _ _ _ _ _ _ ⟨P, C, pv, cv, rfl, hP, hpl, by omega, hbt, HX.out.1, HX.out.2⟩

  · have m0 : w8.cell? ⟨mb, 0, none⟩ = some (.int .i64 (st.tmod 20)) := (M7.below b8 M7.lt).cell 0
    have m4 : w8.cell? ⟨mb, 4, none⟩ = some (.string D) := (M7.below b8 M7.lt).cell 4
    have c7 := hA8 b8
    have F8 := F7.below b8 (Nat.le_refl _)
    have HX := Lib.hid (And.intro F8 bel9)
    clear F8 bel9 F7 bel8 bb8 a7 A7c hput hdist M7 A7 hA8
    as_aux_lemma =>
      unfold badM at hnb
      unfold fullM at hfull
      have c1 : ¬ st.tmod 20 < 0 := by omega
      have c2 : st.tmod 20 < (P.length : Int) := by omega
      have hz := ne_list D (by omega)
      have c4 : (D.size : Int) ≤ 3000 := by omega
      have hw1 : IntKind.i64.wrap (6000 - ((bts C : Nat) : Int)) = 6000 - ((bts C : Nat) : Int) := IntWalk.i64_in _ (by omega)
      clear hnb
      go_upto_region 26 with fail
      go_cut [134] from 110 to 146 (fun s134 wx => s134 = .bool true ∧ wx = w8)
      case first =>
        by_cases hu : un ≤ 0
        · have hc5 : 6000 - ((bts C : Nat) : Int) < (D.size : Int) := by omega
          go_wp2_with fail
          all_goals
            go_meet
            exact ⟨by first | rfl | (simp; omega), rfl⟩
        · have hw2 : IntKind.i64.wrap (6000 - ((bts C : Nat) : Int) - un) = 6000 - ((bts C : Nat) : Int) - un := IntWalk.i64_in _ (by omega)
          have hc5 : 6000 - ((bts C : Nat) : Int) - un < (D.size : Int) := by omega
          go_wp2_with fail
          all_goals
            go_meet
            exact ⟨by first | rfl | (simp; omega), rfl⟩
      case rest =>
      obtain ⟨rfl, hwc⟩ := hcut
      obtain rfl : w8 = wc := hwc.symm
      go_wp2_with fail
      exact HF.out _ _ _ _ _ _ _ _ _ _ _ _ _ _ _ _ _ _ _ _ _ _ _ _ _ _ _ _ _ _ _ _ _ _ _ _ _ _ _ _ _ _ _ _ _ _ _ _ _ _ _ _ _ _ _ _ _ _ _ _ _ _ _ _ _ _ _ _ _ _ _ _ _ _ _ _ _ _ _ _ _ _ _ _ _ _ _ _ _ _ _ _ _ _ _ _ _ _ _ _ _ _ _ _ _ _ ⟨P, C, pv, cv, rfl, hP, hpl, by omega, hbt, HX.out.1, HX.out.2⟩
  · have hs8' := hs8
    have hm8 : w8.heap[mb]? = w7.heap[mb]? := hfr mb hmw7 hgmb (hdist pv (by simp)) (hdist cv (by simp))
    have M8 : Blk w8 mb 30 #[.int .i64 (st.tmod 20), .int .i64 ss, .bool lo, .int .u32 pr, .string D] := hm8.trans M7
    have hab8 : w8.heap[ab]? = w7.heap[ab]? := hfr ab A7.lt hag (hap pv (by simp)) (hap cv (by simp))
    have c7 : w8.cell? ⟨ab, 7, none⟩ = some (.int .i64 un) := Blk.cell (show Blk w8 ab 32 #[.int .i64 aw, .int .i64 st, .int .i64 ss, .bool lo, .int .u32 pr, .string d, .int .i64 lg, .int .i64 un] from hab8.trans A7) 7
    have N8 : Qo w8 G 1 (.slice on P.length cn) P.length (cellsN P) := F7.n.block hs8 fun b hb => hfr b (F7.n.lt hb).2 (fun e => F7.d1 (e ▸ hb)) (fun e => (F7.d3 b (.inl e)).1 hb) (fun e => (F7.d3 b (.inr e)).1 hb)
    have L8 : Qo w8 G 15 v8 C.length (cellsC C) := F7.l.block hs8 fun b hb => hfr b (F7.l.lt hb).2 (fun e => F7.d2 (e ▸ hb)) (fun e => (F7.d3 b (.inl e)).2 hb) (fun e => (F7.d3 b (.inr e)).2 hb)
    have HH := Lib.hid (show ∀ P1 C1 X, Blk w8 mb 30 X → Sq G g pv cv' P1 C1 w8 → So G g mb pv cv' (.slice on P.length cn) v8 P1 C1 P C X w8 from fun P1 C1 X M S => ⟨S, N8, L8, M, hgmb, (by
      rintro v (rfl | rfl | rfl | rfl)
      · exact hdist _ (by simp)
      · intro e
        rcases hcv mb e with h | h
        · exact hdist cv (by simp) h
        · omega
      · exact hdist _ (by simp)
      · exact hdist _ (by simp)), F7.d1, F7.d2, (fun b hb => by
      rcases hb with hb | hb
      · exact F7.d3 b (.inl hb)
      · rcases hcv b hb with h | h
        · exact F7.d3 b (.inr h)
        · exact ⟨fun e => by have := (F7.n.lt e).2; omega, fun e => by have := (F7.l.lt e).2; omega⟩), F7.d4, hG5⟩)
    have HX := Lib.hid bel9
    have HS := Lib.hid S8
    have m0 : w8.cell? ⟨mb, 0, none⟩ = some (.int .i64 (st.tmod 20)) := M8.cell 0
    have m4 : w8.cell? ⟨mb, 4, none⟩ = some (.string D) := M8.cell 4
    have HM := Lib.hid M8
    have HPL := Lib.hid hpl
    clear bel9 F7 bel8 bb8 a7 A7c hput hdist M7 A7 hA8 N8 L8 S8 M8 hm8 hab8 hfr hcv hap hpl
    as_aux_lemma =>
      unfold badM at hnb
      unfold fullM at hnf
      have c1 : ¬ st.tmod 20 < 0 := by omega
      have c2 : st.tmod 20 < (P.length : Int) := by omega
      have hz := ne_list D (by omega)
      have c4 : (D.size : Int) ≤ 3000 := by omega
      have hD3 : D.size ≤ 3000 := by omega
      have hbD : bts C + D.size ≤ 6000 := by omega
      have hw1 : IntKind.i64.wrap (6000 - ((bts C : Nat) : Int)) = 6000 - ((bts C : Nat) : Int) := IntWalk.i64_in _ (by omega)
      clear hnb
      go_upto_region 26 with fail
      go_cut [134] from 110 to 146 (fun s134 wx => s134 = .bool false ∧ wx = w8)
      case first =>
        clear HH HX HS HM
        by_cases hu : un ≤ 0
        · have hc5 : (D.size : Int) ≤ 6000 - ((bts C : Nat) : Int) := by omega
          go_wp2_with fail
          all_goals
            go_meet
            exact ⟨by first | rfl | (simp; omega), rfl⟩
        · have hw2 : IntKind.i64.wrap (6000 - ((bts C : Nat) : Int) - un) = 6000 - ((bts C : Nat) : Int) - un := IntWalk.i64_in _ (by omega)
          have hc5 : (D.size : Int) ≤ 6000 - ((bts C : Nat) : Int) - un := by omega
          go_wp2_with fail
          all_goals
            go_meet
            exact ⟨by first | rfl | (simp; omega), rfl⟩
      case rest =>
      obtain ⟨rfl, hwc⟩ := hcut
      obtain rfl : w8 = wc := hwc.symm
      go_upto_if 134 with fail
      refine wp_cond_f rfl ?_
      have hMk := HM.out
      rw [hst] at hMk
      cases lo with
      | true =>
        have S9 : Sq G g pv cv' P (C ++ pts (if true then 4 else 0) (k : Int) 0 pr D) w8 := by have := HS.out; rw [hst] at this; exact this
        refine armO_loose _ _ _ _ _ _ _ _ _ _ _ _ _ _ _ _ _ _ _ _ _ _ _ _ _ _ _ _ _ _ _ _ _ _ _ _ _ _ _ _ _ _ _ _ _ _ _ _ _ _ _ _ _ _ _ _ _ _ _ _ _ _ _ _ _ _ _ _ _ _ _ _ _ _ _ _ _ _ _ _ _ _ _ _ _ _ _ _ _ _ _ _ _ _ _ _ _ _ _ _ _ _ _ _ _ _ _ _ _ _ _ _ _ _ _ _ _ _ _ _ _ _ _ _ _ _ _ _ _ _ _ _ _ _ _ _ _ _ _ _ _ _ _ _ _ _ _ _ _ _ _ _ _ _ _ _ _ _ _ _ _ _ _ _ _ _ _ _ _ _ _ _ _ _ _ _ _ _ _ _ _ _ _ _ _ _ _ _ _ _ _ _ _ _ _ _ _ _ _ _ _ _ _ _ _ _ _ _ _ _ _ _ _ _ _ _ _ _ _ _ _ _ _ _ _ _ hP HPL.out hk hD3 hi5 hC hbD (HH.out _ _ _ hMk S9) HX.out _ ?_ _ (by kernel_rfl)
        intro _ _ _ _ _ _ _ _ _ _ _ _ _ _ _ _ _ _ _ _ _ _ _ _ _ _ _ _ _ _ _ _ _ _ _ _ _ _ w' hRn
        have HRn := Lib.hid hRn
        clear hRn
        go_wp2_with fail
        exact HF.out _ _ _ _ _ _ _ _ _ _ _ _ _ _ _ _ _ _ _ _ _ _ _ _ _ _ _ _ _ _ _ _ _ _ _ _ _ _ _ _ _ _ _ _ _ _ _ _ _ _ _ _ _ _ _ _ _ _ _ _ _ _ _ _ _ _ _ _ _ _ _ _ _ _ _ _ _ _ _ _ _ _ _ _ _ _ _ _ _ _ _ _ _ _ _ _ _ _ _ _ _ _ _ _ _ _ HRn.out
      | false =>
        have S9 : Sq G g pv cv' (P.set k ((P.getD k 0 + 1) % 65536)) (C ++ pts (if false then 4 else 0) (k : Int) (P.getD k 0 : Int) pr D) w8 := by have := HS.out; rw [hst] at this; exact this
        refine armO_order _ _ _ _ _ _ _ _ _ _ _ _ _ _ _ _ _ _ _ _ _ _ _ _ _ _ _ _ _ _ _ _ _ _ _ _ _ _ _ _ _ _ _ _ _ _ _ _ _ _ _ _ _ _ _ _ _ _ _ _ _ _ _ _ _ _ _ _ _ _ _ _ _ _ _ _ _ _ _ _ _ _ _ _ _ _ _ _ _ _ _ _ _ _ _ _ _ _ _ _ _ _ _ _ _ _ _ _ _ _ _ _ _ _ _ _ _ _ _ _ _ _ _ _ _ _ _ _ _ _ _ _ _ _ _ _ _ _ _ _ _ _ _ _ _ _ _ _ _ _ _ _ _ _ _ _ _ _ _ _ _ _ _ _ _ _ _ _ _ _ _ _ _ _ _ _ _ _ _ _ _ _ _ _ _ _ _ _ _ _ _ _ _ _ _ _ _ _ _ _ _ _ _ _ _ _ _ _ _ _ _ _ _ _ _ _ _ _ _ _ _ _ _ _ _ _ hP HPL.out hk hD3 hi5 hC hbD (HH.out _ _ _ hMk S9) HX.out _ ?_ _ (by kernel_rfl)
        intro _ _ _ _ _ _ _ _ _ _ _ _ _ _ _ _ _ _ _ _ _ _ _ _ _ _ _ _ _ _ _ _ _ _ _ _ _ _ w' hRn
        have HRn := Lib.hid hRn
        clear hRn
        go_wp2_with fail
        exact HF.out _ _ _ _ _ _ _ _ _ _ _ _ _ _ _ _ _ _ _ _ _ _ _ _ _ _ _ _ _ _ _ _ _ _ _ _ _ _ _ _ _ _ _ _ _ _ _ _ _ _ _ _ _ _ _ _ _ _ _ _ _ _ _ _ _ _ _ _ _ _ _ _ _ _ _ _ _ _ _ _ _ _ _ _ _ _ _ _ _ _ _ _ _ _ _ _ _ _ _ _ _ _ _ _ _ _ HRn.out
end Go.Proofs.Ythddacgdmngfhaa.fra
