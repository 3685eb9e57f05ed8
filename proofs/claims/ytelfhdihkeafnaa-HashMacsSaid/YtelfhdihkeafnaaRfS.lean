/- The reference of a sum: the schedule. -/
import Derived.Test.YtelfhdihkeafnaaRfR
namespace Go.Proofs.Ytelfhdihkeafnaa
open Go.RowKit

theorem Rf.sched_eq (κ : Nat) (B : Nat → Nat) (i : Nat) (h1 : 16 ≤ i) (h2 : i < (Hs.K κ).rounds) (f : Nat → Nat) (hf : ∀ j, j < i → f j = (Hs.words (Hs.K κ) B).getD j 0) :
    Hs.sched (Hs.K κ).n (Hs.K κ).a.1 (Hs.K κ).a.2.1 (Hs.K κ).a.2.2 (Hs.K κ).b.1 (Hs.K κ).b.2.1 (Hs.K κ).b.2.2 f i = (Hs.words (Hs.K κ) B).getD i 0 := by
  rw [Hs.words_high _ _ _ h1 h2]
  unfold Hs.sched
  rw [hf _ (by omega), hf _ (by omega), hf _ (by omega), hf _ (by omega)]
set_option maxHeartbeats 1000000 in
set_option maxRecDepth 100000 in
theorem Rf.l5 (w : World) (κ : Nat) (hκ : κ < 2) (n rd : Nat) (hn : (Hs.K κ).n = n) (hrd : (Hs.K κ).rounds = rd) (q gw gK cK : Nat) (vF : Value) {u0 u1 u3 u4 u5 u6 u7 u8 u10 u11 u13 u14 u15 u16 u17 u18 u19 u20 u21 u22 u23 u24 u25 u26 u27 u28 u29 u30 u31 u32 u33 u34 u35 u36 u37 u38 u39 u40 u41 u42 u43 u44 u45 u46 u47 u48 u49 u50 u51 u52 u53 u54 u55 u56 u57 u58 u59 u60 u61 u62 u63 u64 u65 u66 u67 u68 u69 u70 u71 u72 u73 u74 u75 u76 u77 u78 u79 u80 u81 u82 u83 u84 u85 u86 u87 u88 u89 u90 u91 u92 u93 u94 u95 u96 u97 u98 u99 u100 u101 u102 u103 u104 u105 u106 u107 u108 u109 u110 u111 u112 u113 u114 u115 u116 u117 u118 u119 u120 u121 u122 u123 u124 u125 u126 u127 u128 u129 u130 u131 u132 u133 u134 u135 u136 u137 u138 u139 u140 u141 u142 u143 u144 u145 u146 u147 u148 u149 u150 u151 u152 u153 u154 u155 u156 u157 u158 u159 u160 u161 u162 u163 u164 u165 u166 u167 u168 u169 u170 u171 u172 u173 u174 u175 u176 u177 u178 u179 u180 u181 u182 u183 u184 u185 u186 u187 u188 u189 u190 u191 u192 u193 u194 u195 u196 u197 u198 u199 u200 u201 u202 u203 u204 u205 u206 u207 u208 u209 u210 u211 u212 u213 u214 u215 u216 u217 u218 u219 u220 u221 u222 u223 u224 u225 u226 u227 u228 u229 u230 u231 u232 u233 u234 u235 u236 u237 u238 u239 u240 u241 u242 u243 u244 u245 u246 u247 u248 u249 u250 u251 u252 u253 u254 u255 u256 u257 u258 u259 u260 u261 u262 u263 u264 u265 u266 u267 u268 u269 u270 u271 u272 u273 u274 u275 u276 u277 u278 u279 u280 u281 u282 u283 u284 u285 u286 u287 u288 u289 u290 u291 u292 u293 u294 u295 u296 u297 u298 u299 u300 u301 u302 u303 u304 u305 u306 u307 u308 u309 u310 u311 u312 u313 u314 u315 u316 u317 u318 u319 u320 u321 u322 u323 u324 u325 u326 u327 u328 u329 u330 u331 u332 u333 u334 u335 u336 u337 u338 u339 : Value} (Q0 : Exit → Act → World → Prop) (B : Nat → Nat)
    (hkb : w.heap[q]? = some (.cells (Rf.kc κ (.slice (some ⟨gK, 0, none⟩) rd cK) vF) 34 (0, 0))) (hB : ∀ j, B j < 256) (hqw : q ≠ gw) (hf : Rf.Cel w gw rd (fun j => if j < 16 then (Hs.words (Hs.K κ) B).getD j 0 else 0))
    (hk : ∀ (v12 v13 v14 v96 v97 v98 v99 v100 v101 v102 v103 v104 v105 v106 v107 v108 v109 v110 v111 v112 v113 v114 v115 v116 v117 v118 v119 v120 v121 v122 v123 v124 v125 v126 v127 v128 v129 v130 v131 v132 v133 v134 v135 v136 v137 v138 v139 v140 v141 v142 v143 v144 v145 v146 v147 v148 v149 v150 v151 v152 v153 v154 v155 v156 v157 v158 v159 v160 v161 v162 v163 v164 v165 v166 v167 : Value) (W : World), Hs.But gw w W → Rf.Cel W gw rd (fun j => (Hs.words (Hs.K κ) B).getD j 0) → Q0 (.exit 8) ⟨#[u0, u1, .pointer (some ⟨q, 0, none⟩), u3, u4, u5, u6, u7, u8, .slice (some ⟨gw, 0, none⟩) rd rd, u10, u11, v12, v13, v14, u15, u16, u17, u18, u19, u20, u21, u22, u23, u24, u25, u26, u27, u28, u29, u30, u31, u32, u33, u34, u35, u36, u37, u38, u39, u40, u41, u42, u43, u44, u45, u46, u47, u48, u49, u50, u51, u52, u53, u54, u55, u56, u57, u58, u59, u60, u61, u62, u63, u64, u65, u66, u67, u68, u69, u70, u71, u72, u73, u74, u75, u76, u77, u78, u79, u80, u81, u82, u83, u84, u85, u86, u87, u88, u89, u90, u91, u92, u93, u94, u95, v96, v97, v98, v99, v100, v101, v102, v103, v104, v105, v106, v107, v108, v109, v110, v111, v112, v113, v114, v115, v116, v117, v118, v119, v120, v121, v122, v123, v124, v125, v126, v127, v128, v129, v130, v131, v132, v133, v134, v135, v136, v137, v138, v139, v140, v141, v142, v143, v144, v145, v146, v147, v148, v149, v150, v151, v152, v153, v154, v155, v156, v157, v158, v159, v160, v161, v162, v163, v164, v165, v166, v167, u168, u169, u170, u171, u172, u173, u174, u175, u176, u177, u178, u179, u180, u181, u182, u183, u184, u185, u186, u187, u188, u189, u190, u191, u192, u193, u194, u195, u196, u197, u198, u199, u200, u201, u202, u203, u204, u205, u206, u207, u208, u209, u210, u211, u212, u213, u214, u215, u216, u217, u218, u219, u220, u221, u222, u223, u224, u225, u226, u227, u228, u229, u230, u231, u232, u233, u234, u235, u236, u237, u238, u239, u240, u241, u242, u243, u244, u245, u246, u247, u248, u249, u250, u251, u252, u253, u254, u255, u256, u257, u258, u259, u260, u261, u262, u263, u264, u265, u266, u267, u268, u269, u270, u271, u272, u273, u274, u275, u276, u277, u278, u279, u280, u281, u282, u283, u284, u285, u286, u287, u288, u289, u290, u291, u292, u293, u294, u295, u296, u297, u298, u299, u300, u301, u302, u303, u304, u305, u306, u307, u308, u309, u310, u311, u312, u313, u314, u315, u316, u317, u318, u319, u320, u321, u322, u323, u324, u325, u326, u327, u328, u329, u330, u331, u332, u333, u334, u335, u336, u337, u338, u339], []⟩ W) : Code.wp Try.prog (Code.loop Rf.lp5) Q0 ⟨#[u0, u1, .pointer (some ⟨q, 0, none⟩), u3, u4, u5, u6, u7, u8, .slice (some ⟨gw, 0, none⟩) rd rd, u10, u11, .int .i64 16, u13, u14, u15, u16, u17, u18, u19, u20, u21, u22, u23, u24, u25, u26, u27, u28, u29, u30, u31, u32, u33, u34, u35, u36, u37, u38, u39, u40, u41, u42, u43, u44, u45, u46, u47, u48, u49, u50, u51, u52, u53, u54, u55, u56, u57, u58, u59, u60, u61, u62, u63, u64, u65, u66, u67, u68, u69, u70, u71, u72, u73, u74, u75, u76, u77, u78, u79, u80, u81, u82, u83, u84, u85, u86, u87, u88, u89, u90, u91, u92, u93, u94, u95, u96, u97, u98, u99, u100, u101, u102, u103, u104, u105, u106, u107, u108, u109, u110, u111, u112, u113, u114, u115, u116, u117, u118, u119, u120, u121, u122, u123, u124, u125, u126, u127, u128, u129, u130, u131, u132, u133, u134, u135, u136, u137, u138, u139, u140, u141, u142, u143, u144, u145, u146, u147, u148, u149, u150, u151, u152, u153, u154, u155, u156, u157, u158, u159, u160, u161, u162, u163, u164, u165, u166, u167, u168, u169, u170, u171, u172, u173, u174, u175, u176, u177, u178, u179, u180, u181, u182, u183, u184, u185, u186, u187, u188, u189, u190, u191, u192, u193, u194, u195, u196, u197, u198, u199, u200, u201, u202, u203, u204, u205, u206, u207, u208, u209, u210, u211, u212, u213, u214, u215, u216, u217, u218, u219, u220, u221, u222, u223, u224, u225, u226, u227, u228, u229, u230, u231, u232, u233, u234, u235, u236, u237, u238, u239, u240, u241, u242, u243, u244, u245, u246, u247, u248, u249, u250, u251, u252, u253, u254, u255, u256, u257, u258, u259, u260, u261, u262, u263, u264, u265, u266, u267, u268, u269, u270, u271, u272, u273, u274, u275, u276, u277, u278, u279, u280, u281, u282, u283, u284, u285, u286, u287, u288, u289, u290, u291, u292, u293, u294, u295, u296, u297, u298, u299, u300, u301, u302, u303, u304, u305, u306, u307, u308, u309, u310, u311, u312, u313, u314, u315, u316, u317, u318, u319, u320, u321, u322, u323, u324, u325, u326, u327, u328, u329, u330, u331, u332, u333, u334, u335, u336, u337, u338, u339], []⟩ w := by
  have HK := Lib.hid hk
  have hno : n = 32 ∨ n = 64 := hn ▸ Rf.n_or κ hκ
  have hql : q < w.heap.size := (Array.getElem?_eq_some_iff.1 hkb).1
  have hwl := Rf.words_lt κ hκ B hB
  have htk := Rf.turn_ok κ hκ
  have hr := Rf.rd_ok κ hκ
  have hse := Rf.sched_eq κ B
  rw [hrd] at hr hse
  rw [hn] at hwl htk hse
  obtain ⟨ws, hws⟩ : ∃ ws, Hs.words (Hs.K κ) B = ws := ⟨_, rfl⟩
  rw [hws] at hwl hf hse
  have HW := Lib.hid hws
  have HKL := Lib.hid (And.intro hwl (And.intro htk hse))
  have hr16 := hr.1
  have hr80 := hr.2
  clear hk hws hwl htk hr hse
  conv => arg 2; arg 1; whnf
  dsimp only
  go_loopw [12] (fun iv wr => ∃ (i : Nat), i ≤ rd ∧ 16 ≤ i ∧ iv = .int .i64 (i : Int) ∧ Hs.But gw w wr ∧ Rf.Cel wr gw rd (fun j => if j < i then ws.getD j 0 else 0)) (fun iv _ => rd - (intOf iv).toNat)
  case atStart => exact ⟨16, hr16, by omega, rfl, Hs.But.refl _ _, hf⟩
  case round =>
  obtain ⟨i, hi, hi16, rfl, hBut, hC⟩ := hrel
  obtain ⟨w2, rfl⟩ : ∃ w2, w2 = wr := ⟨_, rfl⟩
  have kb2 := (hBut.block q hql hqw).trans hkb
  have c1 := (cell_of_row w2 q 1 _ _ _ kb2).trans (show (Rf.kc κ (.slice (some ⟨gK, 0, none⟩) rd cK) vF)[1]? = some (.int .i64 (rd : Int)) by rw [← hrd]; rfl)
  by_cases hi8 : i < rd
  · have hiz : (i : Int) < (rd : Int) := by omega
    obtain ⟨f, hfd⟩ : ∃ f : Nat → Nat, (fun j => if j < i then ws.getD j 0 else 0) = f := ⟨_, rfl⟩
    rw [hfd] at hC
    have hx := hC.cell (i - 15) (by omega)
    have hy := hC.cell (i - 2) (by omega)
    have hfl : ∀ j, f j < 2 ^ n := by
      intro j
      rw [← hfd]
      show (if j < i then ws.getD j 0 else 0) < 2 ^ n
      split
      · exact HKL.out.1 j
      · exact Nat.two_pow_pos n
    have hz := HKL.out.2.2 i hi16 hi8 f (fun j hj => by rw [← hfd]; show (if j < i then ws.getD j 0 else 0) = _; rw [if_pos hj])
    have hnext : ∀ j, (if j = i then ws.getD i 0 else f j) = (if j < i + 1 then ws.getD j 0 else 0) := by
      intro j
      rw [← hfd]
      show (if j = i then ws.getD i 0 else if j < i then ws.getD j 0 else 0) = _
      by_cases e : j = i
      · subst e; rw [if_pos rfl, if_pos (by omega)]
      · rw [if_neg e]
        by_cases h : j < i
        · rw [if_pos h, if_pos (by omega)]
        · rw [if_neg h, if_neg (by omega)]
    have HH := Lib.hid (And.intro hfl (And.intro hz hnext))
    clear hfd hfl hz hnext
    go_upto_region 21 with fail
    refine Rf.r21 (hi := hi16) (hi2 := hi8) (hrd := hr80) (hx := hx) (hy := hy) (hk := ?_)
    intro v102 v103 v104 v105 v106 v107 v108 v109 v110 v111 w3 hB3
    have kb3 := (hB3.block q (Nat.lt_of_lt_of_le hql hBut.size)).trans kb2
    have hC3 := hC.below hB3
    clear hx hy kb2 c1 hC
    go_upto_region 22 with fail
    refine Rf.r22 (hR := Rf.kc_size _ _ _) (hkb := kb3) (hn := hno) (h0 := by rw [← hn]; rfl) (r3 := rfl) (r4 := rfl) (r5 := rfl) (r6 := rfl) (r7 := rfl) (r8 := rfl) (ha := HKL.out.2.1.2.2.1) (hb := HKL.out.2.1.2.2.2) (hi := hi16) (hi2 := hi8) (hrd := hr80) (hf := hC3.cell) (hfr := hC3.fro) (hlt := HH.out.1) (hx := rfl) (hy := rfl) (hk := ?_)
    intro v112 v113 v114 v115 v116 v117 v118 v119 v120 v121 v122 v123 v124 v125 v126 v127 v128 v129 v130 v131 v132 v133 v134 v135 v136 v137 v138 v139 v140 v141 v142 v143 v144 v145 v146 v147 v148 v149 v150 v151 v152 v153 v154 v155 v156 v157 v158 v159 v160 v161 v162 v163 v164 v165 v166 v167 w4 hB4
    rw [HH.out.2.1]
    have hC5 := ((hC3.below hB4).set i (ws.getD i 0) hi8).congr (fun j _ => HH.out.2.2 j)
    have hBut5 := (hBut.trans (Hs.But.ofBelow (b := gw) hB3 (Nat.le_refl _))).trans ((Hs.But.ofBelow (b := gw) hB4 (Nat.le_refl _)).trans (Hs.But.set _ i (.int .u64 ((ws.getD i 0 : Nat) : Int))))
    clear kb3 hC3
    go_wp2_with fail
    exact ⟨⟨i + 1, by omega, by omega, by go_num, hBut5, hC5⟩, by simp [intOf]; omega⟩
  · have hie : i = rd := by omega
    have hiz : ¬ (i : Int) < (rd : Int) := by omega
    have hC8 := hC.congr (f' := fun j => ws.getD j 0) (fun j hj => by rw [if_pos (by omega)])
    rw [← HW.out] at hC8
    clear hC hie
    go_wp2_with fail
    exact HK.out _ _ _ _ _ _ _ _ _ _ _ _ _ _ _ _ _ _ _ _ _ _ _ _ _ _ _ _ _ _ _ _ _ _ _ _ _ _ _ _ _ _ _ _ _ _ _ _ _ _ _ _ _ _ _ _ _ _ _ _ _ _ _ _ _ _ _ _ _ _ _ _ _ _ _ _ hBut hC8
end Go.Proofs.Ytelfhdihkeafnaa
