/- The reference of a sum: a round's first number. -/
import Derived.Test.YtelfhdihkeafnaaRfL
namespace Go.Proofs.Ytelfhdihkeafnaa
open Go.RowKit

theorem Rf.and64 (a b : Nat) (ha : a < 18446744073709551616) (hb : b < 18446744073709551616) : bits .and .u64 (a : Int) (b : Int) = ((a &&& b : Nat) : Int) := u64_and_nat a b ha hb
set_option maxHeartbeats 1000000 in
set_option maxRecDepth 100000 in
theorem Rf.r28 (w : World) (q gw gv gK cK cv rd i n e : Nat) (R : Array Value) (hR : R.size = 17) (f g kk : Nat → Nat) (c0 c1 c2 : Nat) {u0 u1 u3 u4 u5 u6 u7 u8 u10 u11 u12 u13 u14 u18 u19 u20 u21 u22 u23 u24 u25 u26 u27 u28 u29 u30 u31 u32 u33 u34 u35 u36 u37 u38 u39 u40 u41 u42 u43 u44 u45 u46 u47 u48 u49 u50 u51 u52 u53 u54 u55 u56 u57 u58 u59 u60 u61 u62 u63 u64 u65 u66 u67 u68 u69 u70 u71 u72 u73 u74 u75 u76 u77 u78 u79 u80 u81 u82 u83 u84 u85 u86 u87 u88 u89 u90 u91 u92 u93 u94 u95 u96 u97 u98 u99 u100 u101 u102 u103 u104 u105 u106 u107 u108 u109 u110 u111 u112 u113 u114 u115 u116 u117 u118 u119 u120 u121 u122 u123 u124 u125 u126 u127 u128 u129 u130 u131 u132 u133 u134 u135 u136 u137 u138 u139 u140 u141 u142 u143 u144 u145 u146 u147 u148 u149 u150 u151 u152 u153 u154 u155 u156 u157 u158 u159 u160 u161 u162 u163 u164 u165 u166 u167 u168 u169 u170 u171 u172 u173 u174 u175 u176 u177 u178 u179 u180 u181 u182 u183 u184 u185 u186 u187 u188 u189 u190 u191 u192 u193 u194 u195 u196 u197 u198 u199 u200 u201 u202 u203 u204 u205 u206 u207 u208 u209 u210 u211 u212 u213 u214 u215 u216 u217 u218 u219 u220 u221 u222 u223 u224 u225 u226 u227 u228 u229 u230 u231 u232 u233 u234 u235 u236 u237 u238 u239 u240 u241 u242 u243 u244 u245 u246 u247 u248 u249 u250 u251 u252 u253 u254 u255 u256 u257 u258 u259 u260 u261 u262 u263 u264 u265 u266 u267 u268 u269 u270 u271 u272 u273 u274 u275 u276 u277 u278 u279 u280 u281 u282 u283 u284 u285 u286 u287 u288 u289 u290 u291 u292 u293 u294 u295 u296 u297 u298 u299 u300 u301 u302 u303 u304 u305 u306 u307 u308 u309 u310 u311 u312 u313 u314 u315 u316 u317 u318 u319 u320 u321 u322 u323 u324 u325 u326 u327 u328 u329 u330 u331 u332 u333 u334 u335 u336 u337 u338 u339 : Value} (Q0 : Exit → Act → World → Prop)
    (hkb : w.heap[q]? = some (.cells R 34 (0, 0))) (hn : n = 32 ∨ n = 64) (h0 : R[0]? = some (.int .i64 (n : Int)))
    (r9 : R[9]? = some (.int .i64 (c0 : Int))) (r10 : R[10]? = some (.int .i64 (c1 : Int))) (r11 : R[11]? = some (.int .i64 (c2 : Int))) (r15 : R[15]? = some (.slice (some ⟨gK, 0, none⟩) rd cK)) (hc : (0 < c0 ∧ c0 < n) ∧ (0 < c1 ∧ c1 < n) ∧ 0 < c2 ∧ c2 < n) (hi2 : i < rd)
    (hf : ∀ j, j < rd → w.cell? ⟨gw, j, none⟩ = some (.int .u64 (f j : Int))) (hlt : ∀ j, j < rd → f j < 2 ^ n) (hK : ∀ j, j < rd → w.cell? ⟨gK, j, none⟩ = some (.int .u64 (kk j : Int))) (hKl : ∀ j, j < rd → kk j < 2 ^ n) (hv : ∀ j, j < 8 → w.cell? ⟨gv, j, none⟩ = some (.int .u64 (g j : Int))) (hvl : ∀ j, j < 8 → g j < 2 ^ n) (he : e = g 4)
    (hk : ∀ (v183 v184 v185 v186 v187 v188 v189 v190 v191 v192 v193 v194 v195 v196 v197 v198 v199 v200 v201 v202 v203 v204 v205 v206 v207 v208 v209 v210 v211 v212 v213 v214 v215 v216 v217 v218 v219 v220 v221 v222 v223 v224 v225 v226 v227 v228 v229 v230 v231 v232 : Value) (t : Nat) (W : World), Below w.heap.size w W → t < 18446744073709551616 → t % 2 ^ n = Hs.tt n c0 c1 c2 g (kk i) (f i) → Q0 .normal ⟨#[u0, u1, .pointer (some ⟨q, 0, none⟩), u3, u4, u5, u6, u7, u8, .slice (some ⟨gw, 0, none⟩) rd rd, u10, u11, u12, u13, u14, .slice (some ⟨gv, 0, none⟩) 8 cv, .int .i64 (i : Int), .int .u64 (e : Int), u18, .int .u64 (t : Int), u20, u21, u22, u23, u24, u25, u26, u27, u28, u29, u30, u31, u32, u33, u34, u35, u36, u37, u38, u39, u40, u41, u42, u43, u44, u45, u46, u47, u48, u49, u50, u51, u52, u53, u54, u55, u56, u57, u58, u59, u60, u61, u62, u63, u64, u65, u66, u67, u68, u69, u70, u71, u72, u73, u74, u75, u76, u77, u78, u79, u80, u81, u82, u83, u84, u85, u86, u87, u88, u89, u90, u91, u92, u93, u94, u95, u96, u97, u98, u99, u100, u101, u102, u103, u104, u105, u106, u107, u108, u109, u110, u111, u112, u113, u114, u115, u116, u117, u118, u119, u120, u121, u122, u123, u124, u125, u126, u127, u128, u129, u130, u131, u132, u133, u134, u135, u136, u137, u138, u139, u140, u141, u142, u143, u144, u145, u146, u147, u148, u149, u150, u151, u152, u153, u154, u155, u156, u157, u158, u159, u160, u161, u162, u163, u164, u165, u166, u167, u168, u169, u170, u171, u172, u173, u174, u175, u176, u177, u178, u179, u180, u181, u182, v183, v184, v185, v186, v187, v188, v189, v190, v191, v192, v193, v194, v195, v196, v197, v198, v199, v200, v201, v202, v203, v204, v205, v206, v207, v208, v209, v210, v211, v212, v213, v214, v215, v216, v217, v218, v219, v220, v221, v222, v223, v224, v225, v226, v227, v228, v229, v230, v231, v232, u233, u234, u235, u236, u237, u238, u239, u240, u241, u242, u243, u244, u245, u246, u247, u248, u249, u250, u251, u252, u253, u254, u255, u256, u257, u258, u259, u260, u261, u262, u263, u264, u265, u266, u267, u268, u269, u270, u271, u272, u273, u274, u275, u276, u277, u278, u279, u280, u281, u282, u283, u284, u285, u286, u287, u288, u289, u290, u291, u292, u293, u294, u295, u296, u297, u298, u299, u300, u301, u302, u303, u304, u305, u306, u307, u308, u309, u310, u311, u312, u313, u314, u315, u316, u317, u318, u319, u320, u321, u322, u323, u324, u325, u326, u327, u328, u329, u330, u331, u332, u333, u334, u335, u336, u337, u338, u339], []⟩ W) :
    Code.wp Try.prog (Rf.reg 28) Q0 ⟨#[u0, u1, .pointer (some ⟨q, 0, none⟩), u3, u4, u5, u6, u7, u8, .slice (some ⟨gw, 0, none⟩) rd rd, u10, u11, u12, u13, u14, .slice (some ⟨gv, 0, none⟩) 8 cv, .int .i64 (i : Int), .int .u64 (e : Int), u18, u19, u20, u21, u22, u23, u24, u25, u26, u27, u28, u29, u30, u31, u32, u33, u34, u35, u36, u37, u38, u39, u40, u41, u42, u43, u44, u45, u46, u47, u48, u49, u50, u51, u52, u53, u54, u55, u56, u57, u58, u59, u60, u61, u62, u63, u64, u65, u66, u67, u68, u69, u70, u71, u72, u73, u74, u75, u76, u77, u78, u79, u80, u81, u82, u83, u84, u85, u86, u87, u88, u89, u90, u91, u92, u93, u94, u95, u96, u97, u98, u99, u100, u101, u102, u103, u104, u105, u106, u107, u108, u109, u110, u111, u112, u113, u114, u115, u116, u117, u118, u119, u120, u121, u122, u123, u124, u125, u126, u127, u128, u129, u130, u131, u132, u133, u134, u135, u136, u137, u138, u139, u140, u141, u142, u143, u144, u145, u146, u147, u148, u149, u150, u151, u152, u153, u154, u155, u156, u157, u158, u159, u160, u161, u162, u163, u164, u165, u166, u167, u168, u169, u170, u171, u172, u173, u174, u175, u176, u177, u178, u179, u180, u181, u182, u183, u184, u185, u186, u187, u188, u189, u190, u191, u192, u193, u194, u195, u196, u197, u198, u199, u200, u201, u202, u203, u204, u205, u206, u207, u208, u209, u210, u211, u212, u213, u214, u215, u216, u217, u218, u219, u220, u221, u222, u223, u224, u225, u226, u227, u228, u229, u230, u231, u232, u233, u234, u235, u236, u237, u238, u239, u240, u241, u242, u243, u244, u245, u246, u247, u248, u249, u250, u251, u252, u253, u254, u255, u256, u257, u258, u259, u260, u261, u262, u263, u264, u265, u266, u267, u268, u269, u270, u271, u272, u273, u274, u275, u276, u277, u278, u279, u280, u281, u282, u283, u284, u285, u286, u287, u288, u289, u290, u291, u292, u293, u294, u295, u296, u297, u298, u299, u300, u301, u302, u303, u304, u305, u306, u307, u308, u309, u310, u311, u312, u313, u314, u315, u316, u317, u318, u319, u320, u321, u322, u323, u324, u325, u326, u327, u328, u329, u330, u331, u332, u333, u334, u335, u336, u337, u338, u339], []⟩ w := by
  have le : e < 2 ^ n := by rw [he]; exact hvl 4 (by omega)
  have l64 := Rf.two_le n hn
  have k9 := fun p => Rg.cell ((cell_of_row w q 9 R _ _ hkb).trans r9) p
  have k10 := fun p => Rg.cell ((cell_of_row w q 10 R _ _ hkb).trans r10) p
  have k11 := fun p => Rg.cell ((cell_of_row w q 11 R _ _ hkb).trans r11) p
  have k15 := fun p => Rg.cell ((cell_of_row w q 15 R _ _ hkb).trans r15) p
  have cg5 := fun p => Rg.cell (hv 5 (by omega)) p
  have pg5 := hvl 5 (by omega)
  have cg6 := fun p => Rg.cell (hv 6 (by omega)) p
  have pg6 := hvl 6 (by omega)
  have cg7 := fun p => Rg.cell (hv 7 (by omega)) p
  have pg7 := hvl 7 (by omega)
  have cwi := fun p => Rg.cell (hf i hi2) p
  have cki := fun p => Rg.cell (hK i hi2) p
  have pw := hlt i hi2
  have pk := hKl i hi2
  have bi : (i : Int) < (rd : Int) := by omega
  have bi0 : 0 ≤ (i : Int) := by omega
  have C0 := Lib.hid (fun W => Rf.ror_any W R n e c0 hR h0 hn le hc.1.1 hc.1.2)
  have C1 := Lib.hid (fun W => Rf.ror_any W R n e c1 hR h0 hn le hc.2.1.1 hc.2.1.2)
  have C2 := Lib.hid (fun W => Rf.ror_any W R n e c2 hR h0 hn le hc.2.2.1 hc.2.2.2)
  have p0 := Hs.ror_lt n e c0 le
  have p1 := Hs.ror_lt n e c1 le
  have p2 := Hs.ror_lt n e c2 le
  have hz : Hs.tt n c0 c1 c2 g (kk i) (f i) = (g 7 + (Hs.ror n e c0 ^^^ Hs.ror n e c1 ^^^ Hs.ror n e c2) + ((e &&& g 5) ^^^ (((2 ^ n - 1) ^^^ e) &&& g 6)) + kk i + f i) % 2 ^ n := by rw [he]; rfl
  have hnt : (18446744073709551615 ^^^ e) % 2 ^ n = (2 ^ n - 1) ^^^ e := by
    rw [Nat.xor_mod_two_pow, Nat.mod_eq_of_lt le]
    rcases hn with rfl | rfl <;> rfl
  have nt : bits .xor .u64 IntKind.u64.max (e : Int) = ((18446744073709551615 ^^^ e : Nat) : Int) := Rf.xor64 18446744073709551615 e (by omega) (l64 _ le)
  have ntl : (18446744073709551615 ^^^ e) < 18446744073709551616 := Nat.xor_lt_two_pow (n := 64) (by decide) (l64 _ le)
  have CC := Lib.hid (fun W => Rf.cut_any W R n _ h0 hn ntl)
  rw [hnt] at CC
  have pnc : ((2 ^ n - 1) ^^^ e) < 2 ^ n := Nat.xor_lt_two_pow (by have := Nat.two_pow_pos n; omega) le
  obtain ⟨r0, en_r0⟩ : ∃ z, Hs.ror n e c0 = z := ⟨_, rfl⟩
  rw [en_r0] at C0
  rw [en_r0] at p0
  rw [en_r0] at hz
  obtain ⟨r1, en_r1⟩ : ∃ z, Hs.ror n e c1 = z := ⟨_, rfl⟩
  rw [en_r1] at C1
  rw [en_r1] at p1
  rw [en_r1] at hz
  obtain ⟨r2, en_r2⟩ : ∃ z, Hs.ror n e c2 = z := ⟨_, rfl⟩
  rw [en_r2] at C2
  rw [en_r2] at p2
  rw [en_r2] at hz
  obtain ⟨nc, en_nc⟩ : ∃ z, (2 ^ n - 1) ^^^ e = z := ⟨_, rfl⟩
  rw [en_nc] at CC
  rw [en_nc] at pnc
  rw [en_nc] at hz
  obtain ⟨ne, en_ne⟩ : ∃ z, 18446744073709551615 ^^^ e = z := ⟨_, rfl⟩
  rw [en_ne] at nt
  rw [en_ne] at CC
  obtain ⟨wi, en_wi⟩ : ∃ z, f i = z := ⟨_, rfl⟩
  rw [en_wi] at cwi
  rw [en_wi] at pw
  rw [en_wi] at hz
  rw [en_wi] at hk
  obtain ⟨ki, en_ki⟩ : ∃ z, kk i = z := ⟨_, rfl⟩
  rw [en_ki] at cki
  rw [en_ki] at pk
  rw [en_ki] at hz
  rw [en_ki] at hk
  obtain ⟨g5, en_g5⟩ : ∃ z, g 5 = z := ⟨_, rfl⟩
  rw [en_g5] at cg5
  rw [en_g5] at pg5
  rw [en_g5] at hz
  obtain ⟨g6, en_g6⟩ : ∃ z, g 6 = z := ⟨_, rfl⟩
  rw [en_g6] at cg6
  rw [en_g6] at pg6
  rw [en_g6] at hz
  obtain ⟨g7, en_g7⟩ : ∃ z, g 7 = z := ⟨_, rfl⟩
  rw [en_g7] at cg7
  rw [en_g7] at pg7
  rw [en_g7] at hz
  have x1 := Rf.xor64 r0 r1 (l64 _ p0) (l64 _ p1)
  have x1l := Nat.xor_lt_two_pow p0 p1
  obtain ⟨xa, en_xa⟩ : ∃ z, r0 ^^^ r1 = z := ⟨_, rfl⟩
  rw [en_xa] at x1
  rw [en_xa] at x1l
  rw [en_xa] at hz
  have x2 := Rf.xor64 xa r2 (l64 _ x1l) (l64 _ p2)
  obtain ⟨xb, en_xb⟩ : ∃ z, xa ^^^ r2 = z := ⟨_, rfl⟩
  rw [en_xb] at x2
  rw [en_xb] at hz
  have a1 := Rf.and64 e g5 (l64 _ le) (l64 _ pg5)
  have a1l := Nat.lt_of_le_of_lt (Nat.and_le_left (n := e) (m := g5)) le
  obtain ⟨an, en_an⟩ : ∃ z, e &&& g5 = z := ⟨_, rfl⟩
  rw [en_an] at a1
  rw [en_an] at a1l
  rw [en_an] at hz
  have a2 := Rf.and64 nc g6 (l64 _ pnc) (l64 _ pg6)
  have a2l := Nat.lt_of_le_of_lt (Nat.and_le_left (n := nc) (m := g6)) pnc
  obtain ⟨am, en_am⟩ : ∃ z, nc &&& g6 = z := ⟨_, rfl⟩
  rw [en_am] at a2
  rw [en_am] at a2l
  rw [en_am] at hz
  have x3 := Rf.xor64 an am (l64 _ a1l) (l64 _ a2l)
  obtain ⟨ch, en_ch⟩ : ∃ z, an ^^^ am = z := ⟨_, rfl⟩
  rw [en_ch] at x3
  rw [en_ch] at hz
  have y1 := Rf.add64 g7 xb
  obtain ⟨t1, en_t1⟩ : ∃ z, (g7 + xb) % 18446744073709551616 = z := ⟨_, rfl⟩
  rw [en_t1] at y1
  have y2 := Rf.add64 t1 ch
  obtain ⟨t2, en_t2⟩ : ∃ z, (t1 + ch) % 18446744073709551616 = z := ⟨_, rfl⟩
  rw [en_t2] at y2
  have y3 := Rf.add64 t2 ki
  obtain ⟨t3, en_t3⟩ : ∃ z, (t2 + ki) % 18446744073709551616 = z := ⟨_, rfl⟩
  rw [en_t3] at y3
  have y4 := Rf.add64 t3 wi
  obtain ⟨t, en_t⟩ : ∃ z, (t3 + wi) % 18446744073709551616 = z := ⟨_, rfl⟩
  rw [en_t] at y4
  have hts : t % 2 ^ n = Hs.tt n c0 c1 c2 g ki wi := by
    rw [en_wi, en_ki] at *
    rw [hz, ← en_t, ← en_t3, ← en_t2, ← en_t1]
    rcases hn with rfl | rfl <;> omega
  have htl : t < 18446744073709551616 := by rw [← en_t]; exact Nat.mod_lt _ (by decide)
  have HK := Lib.hid (fun v183 v184 v185 v186 v187 v188 v189 v190 v191 v192 v193 v194 v195 v196 v197 v198 v199 v200 v201 v202 v203 v204 v205 v206 v207 v208 v209 v210 v211 v212 v213 v214 v215 v216 v217 v218 v219 v220 v221 v222 v223 v224 v225 v226 v227 v228 v229 v230 v231 v232 W hB => hk v183 v184 v185 v186 v187 v188 v189 v190 v191 v192 v193 v194 v195 v196 v197 v198 v199 v200 v201 v202 v203 v204 v205 v206 v207 v208 v209 v210 v211 v212 v213 v214 v215 v216 v217 v218 v219 v220 v221 v222 v223 v224 v225 v226 v227 v228 v229 v230 v231 v232 t W hB htl hts)
  have hsz : (Try.prog.info? 34).map (·.size) = some R.size := by rw [hR]; exact Rf.infoKd
  clear hk htl hts en_t en_t1 en_t2 en_t3 en_ch en_am en_an en_xb en_xa en_g5 en_g6 en_g7 en_wi en_ki en_nc en_ne en_r0 en_r1 en_r2 hz hnt ntl pnc a1l a2l x1l p0 p1 p2 pg5 pg6 pg7 pw pk le l64 he hvl hv hK hKl hf hlt hi2 hc r9 r10 r11 r15 hn h0 hR
  have hsg : IntKind.u64.signed = false := rfl
  conv => arg 2; whnf
  refine Rg.quiet (by kernel_rfl) (by kernel_rfl) ?_
  dsimp only
  repeat (first | (go_big_quiet_want; refine Rg.load_row _ 34 rfl q rfl 34 R (0, 0) _ hkb Try.underlying34 rfl hsz _ (by simp only [Act.put, List.setIfInBounds_toArray, List.set_cons_zero, List.set_cons_succ]; exact rfl) ?_; go_big_quiet_on) | go_big_quiet_step ((first | (go_at_call 28; first | with_reducible exact Rg.call (C0.out _) | with_reducible exact Rg.call (C1.out _) | with_reducible exact Rg.call (C2.out _)) | (go_at_call 27; first | with_reducible exact Rg.call (CC.out _)))))
  refine wpQuiet_nil ?_
  intro w' hw'
  obtain ⟨p, rfl⟩ := hw'
  exact HK.out _ _ _ _ _ _ _ _ _ _ _ _ _ _ _ _ _ _ _ _ _ _ _ _ _ _ _ _ _ _ _ _ _ _ _ _ _ _ _ _ _ _ _ _ _ _ _ _ _ _ _ (Rg.below w p)
end Go.Proofs.Ytelfhdihkeafnaa
