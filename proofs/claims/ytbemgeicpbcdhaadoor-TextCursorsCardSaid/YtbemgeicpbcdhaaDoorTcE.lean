/- TextCursors: Clone. -/
import Derived.Test.YtbemgeicpbcdhaaDoorTcO
import Derived.Deep.RegionWith
import Derived.Deep.CutRange
import Derived.Deep.CutBlock
namespace Go.Proofs.YtbemgeicpbcdhaaDoor
open Go.RowKit
theorem Tx.infoRC : (Tryd.prog.info? 28).map (·.size) = some 2 := by kernel_rfl
set_option maxHeartbeats 2000000 in
set_option maxRecDepth 1000000 in
theorem Tx.kClone {u0 u1 u2 u3 u4 u7 u14 u15 u16 u17 u18 u19 u20 u21 u22 u23 u24 u25 u26 u27 u28 u29 u30 u31 u32 u33 u34 u35 u36 u37 u38 u39 u40 u41 u42 u43 u44 u45 u46 u47 u48 u49 u50 u51 u52 u53 u54 u55 u56 u57 u58 u59 u61 u62 u63 u64 u65 u66 u67 u68 u69 u70 u71 u72 u73 u74 u75 u76 u77 u78 u79 u80 u81 u82 u83 u84 u85 u86 u87 u88 u89 u90 u91 u92 u93 u94 u95 u96 u97 u98 u99 u100 u101 u102 u103 u104 u105 u106 u107 u108 u109 u110 u111 u112 u113 u114 u115 u116 u117 u118 u119 u120 u121 u122 u123 u124 u125 u126 u127 u128 u129 u130 u131 u132 u133 u134 u135 u136 u137 u138 u139 u140 u141 u142 u143 u144 u145 u146 u147 u148 u149 u150 u151 u152 u153 u154 u155 u156 u157 u158 u159 u160 u161 u162 u163 u164 u165 u166 u167 u168 u169 u170 u171 u172 u173 u174 u175 u176 u177 u178 u179 u180 u181 u182 u183 u184 u185 u186 u187 u188 u189 u190 u191 u192 u193 u194 u195 u196 u197 u198 u199 u200 u201 u202 u203 u204 u205 u206 u207 u208 u209 u210 u211 u212 u213 u214 u215 u216 u217 u218 u219 u220 u221 u222 u223 u224 u225 u226 u227 u228 u229 u230 u231 u232 u233 u234 u235 u236 u237 u238 u239 u240 u241 u242 u243 u244 u245 u246 : Value} (Q0 : Exit → Act → World → Prop) (w : World) (gx capx gy capy N j q8 bx bz : Nat) (_nn : Int) (w0 : World) (cs : List Tx.Cs) (n k : Nat) (t : ByteArray) (R1 : Nat → World → Prop) (h0 : Tx.Ok w0) (hk : k ≤ t.size) (hl1 : cs.length ≤ n + 1) (hl2 : cs.length + 1 ≤ 17592186044416) (ht : t.size ≤ 140737488355328) (hj : (j : Int) < (N : Int))
    (px : w.cell? ⟨gx, j, none⟩ = some (.pointer (some ⟨bx, 0, none⟩))) (kd : Int) (hkd : kd = 4)
    (hC1 : Calls Tryd.prog 12 #[.pointer (some ⟨bx, 0, none⟩)] w fun e w' => ∃ d, e = .returned (.pointer (some ⟨d, 0, none⟩)) ∧ R1 d w')
    (hC2 : ∀ d W, R1 d W → W.cell? ⟨gy, j, none⟩ = some (.pointer (some ⟨bz, 0, none⟩)) ∧ Tx.RCur W bz t k ∧ Tx.Pair w0 cs N gx capx gy capy d t k W)
    (hQ : ∀ (v14 v15 v16 v17 v18 v19 v20 v21 v59 v60 v61 v62 v63 v64 v65 v66 v67 v68 v69 v70 v71 v72 v73 v74 v75 v76 v77 v78 v79 v80 v81 v82 v83 v84 v85 v86 v87 v88 v89 v90 v91 v92 v93 v94 v95 v96 v97 v98 v99 v100 v101 v102 v103 v104 v105 v106 v107 v108 v109 v110 v111 v112 v113 v114 v115 v116 v117 v118 v119 v120 v121 v122 v123 v124 v125 v126 v127 v128 v129 v130 v131 v132 v133 v134 v135 v136 v137 v138 v139 v140 v141 v142 v143 v144 v145 v146 v147 v148 v149 v150 v151 v152 v153 v154 v155 v156 v157 v158 v159 v160 v161 v162 v163 v164 v165 v166 v167 v168 v169 v170 v171 v172 v173 v174 v175 v176 v177 v178 v179 v180 v181 v182 v183 v184 v185 v186 v187 v188 v189 v190 v191 v192 v193 v194 v195 v196 v197 v198 v199 v200 v201 v202 v203 : Value) (vx vy : Value) (W : World), Tx.Left2 w0 n vx vy W → Q0 .normal ⟨#[u0, u1, u2, u3, u4, vx, vy, u7, .pointer (some ⟨q8, 0, none⟩), .int .i64 (j : Int), .string ⟨#[]⟩, .string ⟨#[]⟩, .int .i64 0, .int .i64 0, v14, v15, v16, v17, v18, v19, v20, v21, u22, u23, u24, u25, u26, u27, u28, u29, u30, u31, u32, u33, u34, u35, u36, u37, u38, u39, u40, u41, u42, u43, u44, u45, u46, u47, u48, u49, u50, u51, u52, u53, u54, u55, u56, u57, u58, v59, v60, v61, v62, v63, v64, v65, v66, v67, v68, v69, v70, v71, v72, v73, v74, v75, v76, v77, v78, v79, v80, v81, v82, v83, v84, v85, v86, v87, v88, v89, v90, v91, v92, v93, v94, v95, v96, v97, v98, v99, v100, v101, v102, v103, v104, v105, v106, v107, v108, v109, v110, v111, v112, v113, v114, v115, v116, v117, v118, v119, v120, v121, v122, v123, v124, v125, v126, v127, v128, v129, v130, v131, v132, v133, v134, v135, v136, v137, v138, v139, v140, v141, v142, v143, v144, v145, v146, v147, v148, v149, v150, v151, v152, v153, v154, v155, v156, v157, v158, v159, v160, v161, v162, v163, v164, v165, v166, v167, v168, v169, v170, v171, v172, v173, v174, v175, v176, v177, v178, v179, v180, v181, v182, v183, v184, v185, v186, v187, v188, v189, v190, v191, v192, v193, v194, v195, v196, v197, v198, v199, v200, v201, v202, v203, u204, u205, u206, u207, u208, u209, u210, u211, u212, u213, u214, u215, u216, u217, u218, u219, u220, u221, u222, u223, u224, u225, u226, u227, u228, u229, u230, u231, u232, u233, u234, u235, u236, u237, u238, u239, u240, u241, u242, u243, u244, u245, u246], []⟩ W) :
    Code.wp Tryd.prog Tx.sw Q0 ⟨#[u0, u1, u2, u3, u4, .slice (some ⟨gx, 0, none⟩) N capx, .slice (some ⟨gy, 0, none⟩) N capy, u7, .pointer (some ⟨q8, 0, none⟩), .int .i64 (j : Int), .string ⟨#[]⟩, .string ⟨#[]⟩, .int .i64 0, .int .i64 0, u14, u15, u16, u17, u18, u19, u20, u21, u22, u23, u24, u25, u26, u27, u28, u29, u30, u31, u32, u33, u34, u35, u36, u37, u38, u39, u40, u41, u42, u43, u44, u45, u46, u47, u48, u49, u50, u51, u52, u53, u54, u55, u56, u57, u58, u59, .int .i64 kd, u61, u62, u63, u64, u65, u66, u67, u68, u69, u70, u71, u72, u73, u74, u75, u76, u77, u78, u79, u80, u81, u82, u83, u84, u85, u86, u87, u88, u89, u90, u91, u92, u93, u94, u95, u96, u97, u98, u99, u100, u101, u102, u103, u104, u105, u106, u107, u108, u109, u110, u111, u112, u113, u114, u115, u116, u117, u118, u119, u120, u121, u122, u123, u124, u125, u126, u127, u128, u129, u130, u131, u132, u133, u134, u135, u136, u137, u138, u139, u140, u141, u142, u143, u144, u145, u146, u147, u148, u149, u150, u151, u152, u153, u154, u155, u156, u157, u158, u159, u160, u161, u162, u163, u164, u165, u166, u167, u168, u169, u170, u171, u172, u173, u174, u175, u176, u177, u178, u179, u180, u181, u182, u183, u184, u185, u186, u187, u188, u189, u190, u191, u192, u193, u194, u195, u196, u197, u198, u199, u200, u201, u202, u203, u204, u205, u206, u207, u208, u209, u210, u211, u212, u213, u214, u215, u216, u217, u218, u219, u220, u221, u222, u223, u224, u225, u226, u227, u228, u229, u230, u231, u232, u233, u234, u235, u236, u237, u238, u239, u240, u241, u242, u243, u244, u245, u246], []⟩ w := by
  have t0 : (kd == 0) = false := by rw [beq_eq_false_iff_ne]; omega
  have t1 : (kd == 1) = false := by rw [beq_eq_false_iff_ne]; omega
  have t2 : (kd == 2) = false := by rw [beq_eq_false_iff_ne]; omega
  have t3 : (kd == 3) = false := by rw [beq_eq_false_iff_ne]; omega
  have t4 : (kd == 4) = true := by rw [hkd]; rfl
  clear hkd
  have H0 := Lib.hid h0
  have HLN := Lib.hid (And.intro hl1 hl2)
  have HT := Lib.hid (And.intro ht hk)
  clear h0 hl1 hl2 ht hk
  have HQ := Lib.hid hQ
  clear hQ
  have hj0 : 0 ≤ (j : Int) := by omega
  conv => arg 2; whnf
  go_wp2_with fail
  go_at_call 12
  refine Calls.mono hC1 ?_
  rintro e W ⟨d, rfl, hR⟩
  obtain ⟨py, hrc, PW⟩ := hC2 d W hR
  have c0 := hrc.c0
  have c1 := hrc.c1
  have HW := Lib.hid (And.intro hrc PW)
  clear hR hC1 hC2 px hrc PW
  have hsz : (Tryd.prog.info? 28).map (·.size) = some (#[Value.string t, Value.int .i64 (k : Int)] : Array Value).size := Tx.infoRC
  have hone : (#[Value.string t, Value.int .i64 (k : Int)] : Array Value).all (·.oneCell') = true := by simp [Value.oneCell']
  go_upto_region 42 with (refine wpList_store_row rfl 28 (.tmp 21) (.tmp 188) rfl W.heap.size #[.string t, .int .i64 (k : Int)] rfl rfl 28 _ (heap_alloc_new W _) hsz rfl hone ?_; rw [World.setRow_alloc_new])
  have RE : Tx.RCur (W.alloc (.cells #[.string t, .int .i64 (k : Int)] 28)) W.heap.size t k := ⟨heap_alloc_new W _, HT.out.2⟩
  have PA := HW.out.2.alloc (.cells #[.string t, .int .i64 (k : Int)] 28)
  have hne : ∀ c ∈ cs, c.by' ≠ W.heap.size := fun c hc => Nat.ne_of_lt (HW.out.2.U.cur c hc).2.1.lt
  have hB0 := HW.out.2.lo.2.2.2
  obtain ⟨ee, hee⟩ : ∃ ee, W.heap.size = ee := ⟨_, rfl⟩
  rw [hee] at RE hne hB0 ⊢
  have HT2 := Lib.hid (And.intro HT.out.1 (And.intro hne hB0))
  clear hsz hone hne hB0 hee HW c0 c1 py
  generalize W.alloc (.cells #[.string t, .int .i64 (k : Int)] 28) = W9 at RE PA ⊢
  have PB := PA.alloc (.cells #[.pointer (some ⟨d, 0, none⟩)] 23)
  have CELLX : (W9.alloc (.cells #[.pointer (some ⟨d, 0, none⟩)] 23)).cell? ⟨W9.heap.size, 0, none⟩ = some (.pointer (some ⟨d, 0, none⟩)) := by simp
  have RE' : Tx.RCur W9 ee t k := RE
  have RE2 := RE'.below ((Below.refl W9.heap.size W9).alloc (Nat.le_refl _) (.cells #[.pointer (some ⟨d, 0, none⟩)] 23)) RE'.lt
  have REA : ∀ wa, (W9.alloc (.cells #[.pointer (some ⟨d, 0, none⟩)] 23)).grownBy wa (Value.slice (some ⟨gx, 0, none⟩) N capx).ownBlock → Tx.RCur wa ee t k := fun wa gA => by
    obtain ⟨cells, hc⟩ := PB.X.blk
    exact RE2.other (g := gx) gA hc (by decide)
  go_wp2_with (at_builtin; first | (refine Tx.appendPX rfl _ _ rfl w0.heap.size _ cs rfl PB.X ⟨_, 0, none⟩ 1 d rfl CELLX HLN.out.2 PB.lo.2.2.2 ?_; intro vx2 wa XA gA; obtain ⟨YA, UA, SA, DA⟩ := PB.afterX H0.out gA; have bB : Below wa.heap.size wa (wa.alloc (.cells #[.pointer (some ⟨ee, 0, none⟩)] 26)) := (Below.refl _ _).alloc (Nat.le_refl _) _; have CELLY : (wa.alloc (.cells #[.pointer (some ⟨ee, 0, none⟩)] 26)).cell? ⟨wa.heap.size, 0, none⟩ = some (.pointer (some ⟨ee, 0, none⟩)) := (by simp); have RCE := (REA wa gA).below bB (REA wa gA).lt; have XB := Tx.row_below (XA ee t k) bB (Nat.le_refl _); have YB : Tx.OwnY (wa.alloc (.cells #[.pointer (some ⟨ee, 0, none⟩)] 26)) w0.heap.size _ cs := Tx.row_below YA bB (Nat.le_refl _); have UB := UA.below bB; have SB := Tx.Since.then bB SA; have DB := DA.below bB DA.lt; have HY := Lib.hid (And.intro XB (And.intro UB (And.intro SB (And.intro DB (And.intro RCE (And.intro UA SA)))))); clear XA gA YA UA SA DA XB UB SB DB RCE bB) | (refine Tx.appendPY rfl _ _ rfl w0.heap.size _ cs rfl YB ⟨wa.heap.size, 0, none⟩ 1 ee rfl CELLY HLN.out.2 (HY.out.2.2.1.size) ?_; intro vy2 wc YC gB))
  obtain ⟨X9, U9, S9, D9, REC⟩ := Tx.afterY H0.out HY.out.1 YB HY.out.2.1 HY.out.2.2.1 HY.out.2.2.2.1 PB.lo.2.1 gB
  exact HQ.out _ _ _ _ _ _ _ _ _ _ _ _ _ _ _ _ _ _ _ _ _ _ _ _ _ _ _ _ _ _ _ _ _ _ _ _ _ _ _ _ _ _ _ _ _ _ _ _ _ _ _ _ _ _ _ _ _ _ _ _ _ _ _ _ _ _ _ _ _ _ _ _ _ _ _ _ _ _ _ _ _ _ _ _ _ _ _ _ _ _ _ _ _ _ _ _ _ _ _ _ _ _ _ _ _ _ _ _ _ _ _ _ _ _ _ _ _ _ _ _ _ _ _ _ _ _ _ _ _ _ _ _ _ _ _ _ _ _ _ _ _ _ _ _ _ _ _ _ _ _ _ _ _ _ _ _ (Tx.Left2.push X9 (YC d t k) U9 D9 (REC _ _ _ HY.out.2.2.2.2.1) HT2.out.1 PB.lo.2.2.1 HT2.out.2.2 PB.ne HT2.out.2.1 S9 HLN.out.1)
end Go.Proofs.YtbemgeicpbcdhaaDoor
