/- The reference of a sum: all its blocks. -/
import Derived.Test.YtelfhdihkeafnaaRfV
namespace Go.Proofs.Ytelfhdihkeafnaa
open Go.RowKit

set_option maxRecDepth 100000 in
theorem Rf.lit340 (f : Nat → Value) : (List.range 340).map f = [f 0, f 1, f 2, f 3, f 4, f 5, f 6, f 7, f 8, f 9, f 10, f 11, f 12, f 13, f 14, f 15, f 16, f 17, f 18, f 19, f 20, f 21, f 22, f 23, f 24, f 25, f 26, f 27, f 28, f 29, f 30, f 31, f 32, f 33, f 34, f 35, f 36, f 37, f 38, f 39, f 40, f 41, f 42, f 43, f 44, f 45, f 46, f 47, f 48, f 49, f 50, f 51, f 52, f 53, f 54, f 55, f 56, f 57, f 58, f 59, f 60, f 61, f 62, f 63, f 64, f 65, f 66, f 67, f 68, f 69, f 70, f 71, f 72, f 73, f 74, f 75, f 76, f 77, f 78, f 79, f 80, f 81, f 82, f 83, f 84, f 85, f 86, f 87, f 88, f 89, f 90, f 91, f 92, f 93, f 94, f 95, f 96, f 97, f 98, f 99, f 100, f 101, f 102, f 103, f 104, f 105, f 106, f 107, f 108, f 109, f 110, f 111, f 112, f 113, f 114, f 115, f 116, f 117, f 118, f 119, f 120, f 121, f 122, f 123, f 124, f 125, f 126, f 127, f 128, f 129, f 130, f 131, f 132, f 133, f 134, f 135, f 136, f 137, f 138, f 139, f 140, f 141, f 142, f 143, f 144, f 145, f 146, f 147, f 148, f 149, f 150, f 151, f 152, f 153, f 154, f 155, f 156, f 157, f 158, f 159, f 160, f 161, f 162, f 163, f 164, f 165, f 166, f 167, f 168, f 169, f 170, f 171, f 172, f 173, f 174, f 175, f 176, f 177, f 178, f 179, f 180, f 181, f 182, f 183, f 184, f 185, f 186, f 187, f 188, f 189, f 190, f 191, f 192, f 193, f 194, f 195, f 196, f 197, f 198, f 199, f 200, f 201, f 202, f 203, f 204, f 205, f 206, f 207, f 208, f 209, f 210, f 211, f 212, f 213, f 214, f 215, f 216, f 217, f 218, f 219, f 220, f 221, f 222, f 223, f 224, f 225, f 226, f 227, f 228, f 229, f 230, f 231, f 232, f 233, f 234, f 235, f 236, f 237, f 238, f 239, f 240, f 241, f 242, f 243, f 244, f 245, f 246, f 247, f 248, f 249, f 250, f 251, f 252, f 253, f 254, f 255, f 256, f 257, f 258, f 259, f 260, f 261, f 262, f 263, f 264, f 265, f 266, f 267, f 268, f 269, f 270, f 271, f 272, f 273, f 274, f 275, f 276, f 277, f 278, f 279, f 280, f 281, f 282, f 283, f 284, f 285, f 286, f 287, f 288, f 289, f 290, f 291, f 292, f 293, f 294, f 295, f 296, f 297, f 298, f 299, f 300, f 301, f 302, f 303, f 304, f 305, f 306, f 307, f 308, f 309, f 310, f 311, f 312, f 313, f 314, f 315, f 316, f 317, f 318, f 319, f 320, f 321, f 322, f 323, f 324, f 325, f 326, f 327, f 328, f 329, f 330, f 331, f 332, f 333, f 334, f 335, f 336, f 337, f 338, f 339] := by kernel_rfl
theorem Rf.list340 (l : List Value) (h : l.length = 340) : l = (List.range 340).map (fun k => l.getD k undef) := by
  refine List.ext_getElem (by simp [h]) fun k h1 h2 => ?_
  simp [List.getD_eq_getElem?_getD, List.getElem?_eq_getElem h1]
/-- A frame of the sum, in which five slots are known. -/
structure Rf.Fr (v2 v5 v6 v7 v8 : Value) (x : Act) : Prop where
  df : x.defers = []
  sz : x.tmps.toList.length = 340
  e2 : x.tmps.toList.getD 2 undef = v2
  e5 : x.tmps.toList.getD 5 undef = v5
  e6 : x.tmps.toList.getD 6 undef = v6
  e7 : x.tmps.toList.getD 7 undef = v7
  e8 : x.tmps.toList.getD 8 undef = v8
set_option maxRecDepth 100000 in
theorem Rf.Fr.open {v2 v5 v6 v7 v8 : Value} {x : Act} (h : Rf.Fr v2 v5 v6 v7 v8 x) : ∃ g : Nat → Value, x = ⟨#[g 0, g 1, v2, g 3, g 4, v5, v6, v7, v8, g 9, g 10, g 11, g 12, g 13, g 14, g 15, g 16, g 17, g 18, g 19, g 20, g 21, g 22, g 23, g 24, g 25, g 26, g 27, g 28, g 29, g 30, g 31, g 32, g 33, g 34, g 35, g 36, g 37, g 38, g 39, g 40, g 41, g 42, g 43, g 44, g 45, g 46, g 47, g 48, g 49, g 50, g 51, g 52, g 53, g 54, g 55, g 56, g 57, g 58, g 59, g 60, g 61, g 62, g 63, g 64, g 65, g 66, g 67, g 68, g 69, g 70, g 71, g 72, g 73, g 74, g 75, g 76, g 77, g 78, g 79, g 80, g 81, g 82, g 83, g 84, g 85, g 86, g 87, g 88, g 89, g 90, g 91, g 92, g 93, g 94, g 95, g 96, g 97, g 98, g 99, g 100, g 101, g 102, g 103, g 104, g 105, g 106, g 107, g 108, g 109, g 110, g 111, g 112, g 113, g 114, g 115, g 116, g 117, g 118, g 119, g 120, g 121, g 122, g 123, g 124, g 125, g 126, g 127, g 128, g 129, g 130, g 131, g 132, g 133, g 134, g 135, g 136, g 137, g 138, g 139, g 140, g 141, g 142, g 143, g 144, g 145, g 146, g 147, g 148, g 149, g 150, g 151, g 152, g 153, g 154, g 155, g 156, g 157, g 158, g 159, g 160, g 161, g 162, g 163, g 164, g 165, g 166, g 167, g 168, g 169, g 170, g 171, g 172, g 173, g 174, g 175, g 176, g 177, g 178, g 179, g 180, g 181, g 182, g 183, g 184, g 185, g 186, g 187, g 188, g 189, g 190, g 191, g 192, g 193, g 194, g 195, g 196, g 197, g 198, g 199, g 200, g 201, g 202, g 203, g 204, g 205, g 206, g 207, g 208, g 209, g 210, g 211, g 212, g 213, g 214, g 215, g 216, g 217, g 218, g 219, g 220, g 221, g 222, g 223, g 224, g 225, g 226, g 227, g 228, g 229, g 230, g 231, g 232, g 233, g 234, g 235, g 236, g 237, g 238, g 239, g 240, g 241, g 242, g 243, g 244, g 245, g 246, g 247, g 248, g 249, g 250, g 251, g 252, g 253, g 254, g 255, g 256, g 257, g 258, g 259, g 260, g 261, g 262, g 263, g 264, g 265, g 266, g 267, g 268, g 269, g 270, g 271, g 272, g 273, g 274, g 275, g 276, g 277, g 278, g 279, g 280, g 281, g 282, g 283, g 284, g 285, g 286, g 287, g 288, g 289, g 290, g 291, g 292, g 293, g 294, g 295, g 296, g 297, g 298, g 299, g 300, g 301, g 302, g 303, g 304, g 305, g 306, g 307, g 308, g 309, g 310, g 311, g 312, g 313, g 314, g 315, g 316, g 317, g 318, g 319, g 320, g 321, g 322, g 323, g 324, g 325, g 326, g 327, g 328, g 329, g 330, g 331, g 332, g 333, g 334, g 335, g 336, g 337, g 338, g 339], []⟩ := by
  obtain ⟨h1, h2, e2, e5, e6, e7, e8⟩ := h
  obtain ⟨tm, df⟩ := x
  have h1 : df = [] := h1
  subst h1
  obtain ⟨l⟩ := tm
  have h2 : l.length = 340 := h2
  have hl := Rf.list340 l h2
  obtain ⟨g, hg⟩ : ∃ g : Nat → Value, (fun k => l.getD k undef) = g := ⟨_, rfl⟩
  rw [hg, Rf.lit340 g] at hl
  have f2 : g 2 = v2 := by rw [← hg]; exact e2
  have f5 : g 5 = v5 := by rw [← hg]; exact e5
  have f6 : g 6 = v6 := by rw [← hg]; exact e6
  have f7 : g 7 = v7 := by rw [← hg]; exact e7
  have f8 : g 8 = v8 := by rw [← hg]; exact e8
  rw [f2, f5, f6, f7, f8] at hl
  exact ⟨g, by rw [hl]⟩
set_option maxHeartbeats 1000000 in
set_option maxRecDepth 100000 in
theorem Rf.l2 (w : World) (κ : Nat) (hκ : κ < 2) (n rd wd : Nat) (hn : (Hs.K κ).n = n) (hrd : (Hs.K κ).rounds = rd) (hwd : (Hs.K κ).wb = wd) (q gK cK gb lb cb gs cs T : Nat) (vF : Value) {u0 u1 u3 u4 u9 u10 u11 u12 u13 u14 u15 u16 u17 u18 u19 u20 u21 u22 u23 u24 u25 u26 u27 u28 u29 u30 u31 u32 u33 u34 u35 u36 u37 u38 u39 u40 u41 u42 u43 u44 u45 u46 u47 u48 u49 u50 u51 u52 u53 u54 u55 u56 u57 u58 u59 u60 u61 u62 u63 u64 u65 u66 u67 u68 u69 u70 u71 u72 u73 u74 u75 u76 u77 u78 u79 u80 u81 u82 u83 u84 u85 u86 u87 u88 u89 u90 u91 u92 u93 u94 u95 u96 u97 u98 u99 u100 u101 u102 u103 u104 u105 u106 u107 u108 u109 u110 u111 u112 u113 u114 u115 u116 u117 u118 u119 u120 u121 u122 u123 u124 u125 u126 u127 u128 u129 u130 u131 u132 u133 u134 u135 u136 u137 u138 u139 u140 u141 u142 u143 u144 u145 u146 u147 u148 u149 u150 u151 u152 u153 u154 u155 u156 u157 u158 u159 u160 u161 u162 u163 u164 u165 u166 u167 u168 u169 u170 u171 u172 u173 u174 u175 u176 u177 u178 u179 u180 u181 u182 u183 u184 u185 u186 u187 u188 u189 u190 u191 u192 u193 u194 u195 u196 u197 u198 u199 u200 u201 u202 u203 u204 u205 u206 u207 u208 u209 u210 u211 u212 u213 u214 u215 u216 u217 u218 u219 u220 u221 u222 u223 u224 u225 u226 u227 u228 u229 u230 u231 u232 u233 u234 u235 u236 u237 u238 u239 u240 u241 u242 u243 u244 u245 u246 u247 u248 u249 u250 u251 u252 u253 u254 u255 u256 u257 u258 u259 u260 u261 u262 u263 u264 u265 u266 u267 u268 u269 u270 u271 u272 u273 u274 u275 u276 u277 u278 u279 u280 u281 u282 u283 u284 u285 u286 u287 u288 u289 u290 u291 u292 u293 u294 u295 u296 u297 u298 u299 u300 u301 u302 u303 u304 u305 u306 u307 u308 u309 u310 u311 u312 u313 u314 u315 u316 u317 u318 u319 u320 u321 u322 u323 u324 u325 u326 u327 u328 u329 u330 u331 u332 u333 u334 u335 u336 u337 u338 u339 : Value} (Q0 : Exit → Act → World → Prop) (m : List UInt8)
    (hkb : w.heap[q]? = some (.cells (Rf.kc κ (.slice (some ⟨gK, 0, none⟩) rd cK) vF) 34 (0, 0))) (hlb : lb ≤ 140737488355328) (hT : lb = T * Hs.blk κ) (hK : Rf.Dig w gK rd (Rf.kk κ)) (hb : ∀ j, j < lb → w.cell? ⟨gb, j, none⟩ = some (.int .u8 ((m.getD j 0).toNat : Int))) (hbl : gb < w.heap.size)
    (hs : Rf.Cel w gs 8 (Hs.first κ).get) (hqs : q ≠ gs) (hks : gK ≠ gs) (hbs : gb ≠ gs)
    (hk : ∀ (x : Act) (v8 : Value) (W : World), Rf.Fr (.pointer (some ⟨q, 0, none⟩)) (.int .i64 (wd : Int)) (.slice (some ⟨gb, 0, none⟩) lb cb) (.slice (some ⟨gs, 0, none⟩) 8 cs) v8 x → Hs.But gs w W → Rf.Cel W gs 8 (Hs.after κ m T).get → Q0 (.exit 2) x W) : Code.wp Try.prog (Code.loop Rf.lp2) Q0 ⟨#[u0, u1, .pointer (some ⟨q, 0, none⟩), u3, u4, .int .i64 (wd : Int), .slice (some ⟨gb, 0, none⟩) lb cb, .slice (some ⟨gs, 0, none⟩) 8 cs, .int .i64 0, u9, u10, u11, u12, u13, u14, u15, u16, u17, u18, u19, u20, u21, u22, u23, u24, u25, u26, u27, u28, u29, u30, u31, u32, u33, u34, u35, u36, u37, u38, u39, u40, u41, u42, u43, u44, u45, u46, u47, u48, u49, u50, u51, u52, u53, u54, u55, u56, u57, u58, u59, u60, u61, u62, u63, u64, u65, u66, u67, u68, u69, u70, u71, u72, u73, u74, u75, u76, u77, u78, u79, u80, u81, u82, u83, u84, u85, u86, u87, u88, u89, u90, u91, u92, u93, u94, u95, u96, u97, u98, u99, u100, u101, u102, u103, u104, u105, u106, u107, u108, u109, u110, u111, u112, u113, u114, u115, u116, u117, u118, u119, u120, u121, u122, u123, u124, u125, u126, u127, u128, u129, u130, u131, u132, u133, u134, u135, u136, u137, u138, u139, u140, u141, u142, u143, u144, u145, u146, u147, u148, u149, u150, u151, u152, u153, u154, u155, u156, u157, u158, u159, u160, u161, u162, u163, u164, u165, u166, u167, u168, u169, u170, u171, u172, u173, u174, u175, u176, u177, u178, u179, u180, u181, u182, u183, u184, u185, u186, u187, u188, u189, u190, u191, u192, u193, u194, u195, u196, u197, u198, u199, u200, u201, u202, u203, u204, u205, u206, u207, u208, u209, u210, u211, u212, u213, u214, u215, u216, u217, u218, u219, u220, u221, u222, u223, u224, u225, u226, u227, u228, u229, u230, u231, u232, u233, u234, u235, u236, u237, u238, u239, u240, u241, u242, u243, u244, u245, u246, u247, u248, u249, u250, u251, u252, u253, u254, u255, u256, u257, u258, u259, u260, u261, u262, u263, u264, u265, u266, u267, u268, u269, u270, u271, u272, u273, u274, u275, u276, u277, u278, u279, u280, u281, u282, u283, u284, u285, u286, u287, u288, u289, u290, u291, u292, u293, u294, u295, u296, u297, u298, u299, u300, u301, u302, u303, u304, u305, u306, u307, u308, u309, u310, u311, u312, u313, u314, u315, u316, u317, u318, u319, u320, u321, u322, u323, u324, u325, u326, u327, u328, u329, u330, u331, u332, u333, u334, u335, u336, u337, u338, u339], []⟩ w := by
  have hql : q < w.heap.size := (Array.getElem?_eq_some_iff.1 hkb).1
  have hbp := Hs.blk_pos κ
  obtain ⟨I, hI⟩ : ∃ I : Act → World → Prop, I = fun x W => ∃ t, t ≤ T ∧ Rf.Fr (.pointer (some ⟨q, 0, none⟩)) (.int .i64 (wd : Int)) (.slice (some ⟨gb, 0, none⟩) lb cb) (.slice (some ⟨gs, 0, none⟩) 8 cs) (.int .i64 ((t * Hs.blk κ : Nat) : Int)) x ∧ Hs.But gs w W ∧ Rf.Cel W gs 8 (Hs.after κ m t).get := ⟨_, rfl⟩
  obtain ⟨μ, hμ⟩ : ∃ μ : Act → World → Nat, μ = fun x _ => lb - (intOf (x.tmps.toList.getD 8 undef)).toNat := ⟨_, rfl⟩
  refine wp_loop I μ ?_ ?_
  · rw [hI]
    exact ⟨0, Nat.zero_le _, ⟨rfl, rfl, rfl, rfl, rfl, rfl, by rw [Nat.zero_mul]; rfl⟩, Hs.But.refl _ _, hs⟩
  · intro x W hx
    have hx0 := hx
    rw [hI] at hx0
    obtain ⟨t, ht, hF, hBut, hC⟩ := hx0
    have hmu : μ x W = lb - t * Hs.blk κ := by rw [hμ]; show lb - (intOf (x.tmps.toList.getD 8 undef)).toNat = _; rw [hF.e8]; rfl
    rw [hmu]
    obtain ⟨g, rfl⟩ := hF.open
    clear hF hx hmu
    have kbW := (hBut.block q hql hqs).trans hkb
    obtain ⟨a, ha⟩ : ∃ a, t * Hs.blk κ = a := ⟨_, rfl⟩
    rw [ha]
    refine Rf.l2b (κ := κ) (hκ := hκ) (hn := hn) (hrd := hrd) (hwd := hwd) (T := T) (m := m) (hkb := kbW) (hlb := hlb) (hT := hT) (hK := hK.but hBut hks) (hb := fun j hj => (Rf.cell_eq (hBut.block gb hbl hbs)).trans (hb j hj)) (hbl := Nat.lt_of_lt_of_le hbl hBut.size) (hqs := hqs) (t := t) (ht := ht) (hat := ha.symm) (hC := hC) (hk := ?_) (he := ?_)
    · intro htT v9 v10 v11 v12 v13 v14 v15 v16 v17 v18 v19 v20 v21 v56 v57 v58 v59 v60 v61 v62 v63 v64 v65 v66 v67 v68 v69 v70 v71 v72 v73 v74 v75 v76 v77 v78 v79 v80 v81 v82 v83 v84 v85 v86 v87 v88 v89 v90 v91 v92 v93 v94 v95 v96 v97 v98 v99 v100 v101 v102 v103 v104 v105 v106 v107 v108 v109 v110 v111 v112 v113 v114 v115 v116 v117 v118 v119 v120 v121 v122 v123 v124 v125 v126 v127 v128 v129 v130 v131 v132 v133 v134 v135 v136 v137 v138 v139 v140 v141 v142 v143 v144 v145 v146 v147 v148 v149 v150 v151 v152 v153 v154 v155 v156 v157 v158 v159 v160 v161 v162 v163 v164 v165 v166 v167 v168 v169 v170 v171 v172 v173 v174 v175 v176 v177 v178 v179 v180 v181 v182 v183 v184 v185 v186 v187 v188 v189 v190 v191 v192 v193 v194 v195 v196 v197 v198 v199 v200 v201 v202 v203 v204 v205 v206 v207 v208 v209 v210 v211 v212 v213 v214 v215 v216 v217 v218 v219 v220 v221 v222 v223 v224 v225 v226 v227 v228 v229 v230 v231 v232 v233 v234 v235 v236 v237 v238 v239 v240 v241 v242 v243 v244 v245 v246 v247 v248 v249 v250 v251 v252 v253 v254 v255 v256 v257 v258 v259 v260 v261 v262 v263 v264 v265 v266 v267 v268 v269 v270 v271 v272 v273 v274 v275 v276 v277 v278 v279 v280 v281 v282 v283 v284 v285 v286 v287 v288 v289 v290 v291 v292 v293 v294 v295 v296 v297 v298 v299 v300 v301 v302 v303 v304 v305 v306 v307 v308 v309 v310 v311 v312 v313 v314 v315 v316 v317 v318 v319 v320 v321 a2 W2 ha2 hBut2 hC2
      refine ⟨?_, ?_⟩
      · rw [hI]
        exact ⟨t + 1, htT, ⟨rfl, rfl, rfl, rfl, rfl, rfl, by rw [← ha2]; rfl⟩, hBut.trans hBut2, hC2⟩
      · rw [hμ]
        show lb - (intOf (Value.int IntKind.i64 (a2 : Int))).toNat < _
        have h1 : (t + 1) * Hs.blk κ ≤ T * Hs.blk κ := Nat.mul_le_mul_right _ htT
        rw [← hT, ← ha2] at h1
        have h2 : a2 = a + Hs.blk κ := by rw [ha2, Nat.add_mul, Nat.one_mul, ha]
        show lb - a2 < lb - a
        omega
    · intro htT v56 v57 v58 v59
      rw [htT] at hC
      exact hk _ (.int .i64 (a : Int)) W ⟨rfl, rfl, rfl, rfl, rfl, rfl, rfl⟩ hBut hC
end Go.Proofs.Ytelfhdihkeafnaa
