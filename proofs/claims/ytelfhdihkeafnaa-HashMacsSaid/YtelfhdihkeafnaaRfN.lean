/- The reference of a sum: a round's second number. -/
import Derived.Test.YtelfhdihkeafnaaRfM
namespace Go.Proofs.Ytelfhdihkeafnaa
open Go.RowKit

set_option maxHeartbeats 1000000 in
set_option maxRecDepth 100000 in
theorem Rf.r29 (w : World) (q gv cv n e : Nat) (R : Array Value) (hR : R.size = 17) (g : Nat → Nat) (c0 c1 c2 : Nat) {u0 u1 u3 u4 u5 u6 u7 u8 u9 u10 u11 u12 u13 u14 u16 u17 u19 u20 u21 u22 u23 u24 u25 u26 u27 u28 u29 u30 u31 u32 u33 u34 u35 u36 u37 u38 u39 u40 u41 u42 u43 u44 u45 u46 u47 u48 u49 u50 u51 u52 u53 u54 u55 u56 u57 u58 u59 u60 u61 u62 u63 u64 u65 u66 u67 u68 u69 u70 u71 u72 u73 u74 u75 u76 u77 u78 u79 u80 u81 u82 u83 u84 u85 u86 u87 u88 u89 u90 u91 u92 u93 u94 u95 u96 u97 u98 u99 u100 u101 u102 u103 u104 u105 u106 u107 u108 u109 u110 u111 u112 u113 u114 u115 u116 u117 u118 u119 u120 u121 u122 u123 u124 u125 u126 u127 u128 u129 u130 u131 u132 u133 u134 u135 u136 u137 u138 u139 u140 u141 u142 u143 u144 u145 u146 u147 u148 u149 u150 u151 u152 u153 u154 u155 u156 u157 u158 u159 u160 u161 u162 u163 u164 u165 u166 u167 u168 u169 u170 u171 u172 u173 u174 u175 u176 u177 u178 u179 u180 u181 u182 u183 u184 u185 u186 u187 u188 u189 u190 u191 u192 u193 u194 u195 u196 u197 u198 u199 u200 u201 u202 u203 u204 u205 u206 u207 u208 u209 u210 u211 u212 u213 u214 u215 u216 u217 u218 u219 u220 u221 u222 u223 u224 u225 u226 u227 u228 u229 u230 u231 u232 u233 u234 u235 u236 u237 u238 u239 u240 u241 u242 u243 u244 u245 u246 u247 u248 u249 u250 u251 u252 u253 u254 u255 u256 u257 u258 u259 u260 u261 u262 u263 u264 u265 u266 u267 u268 u269 u270 u271 u272 u273 u274 u275 u276 u277 u278 u279 u280 u281 u282 u283 u284 u285 u286 u287 u288 u289 u290 u291 u292 u293 u294 u295 u296 u297 u298 u299 u300 u301 u302 u303 u304 u305 u306 u307 u308 u309 u310 u311 u312 u313 u314 u315 u316 u317 u318 u319 u320 u321 u322 u323 u324 u325 u326 u327 u328 u329 u330 u331 u332 u333 u334 u335 u336 u337 u338 u339 : Value} (Q0 : Exit → Act → World → Prop)
    (hkb : w.heap[q]? = some (.cells R 34 (0, 0))) (hn : n = 32 ∨ n = 64) (h0 : R[0]? = some (.int .i64 (n : Int)))
    (r12 : R[12]? = some (.int .i64 (c0 : Int))) (r13 : R[13]? = some (.int .i64 (c1 : Int))) (r14 : R[14]? = some (.int .i64 (c2 : Int))) (hc : (0 < c0 ∧ c0 < n) ∧ (0 < c1 ∧ c1 < n) ∧ 0 < c2 ∧ c2 < n)
    (hv : ∀ j, j < 8 → w.cell? ⟨gv, j, none⟩ = some (.int .u64 (g j : Int))) (hvl : ∀ j, j < 8 → g j < 2 ^ n) (he : e = g 0)
    (hk : ∀ (v233 v234 v235 v236 v237 v238 v239 v240 v241 v242 v243 v244 v245 v246 v247 v248 v249 v250 v251 v252 v253 v254 v255 v256 v257 v258 v259 v260 v261 v262 v263 v264 v265 v266 v267 v268 v269 v270 v271 v272 : Value) (t : Nat) (W : World), Below w.heap.size w W → t < 18446744073709551616 → t % 2 ^ n = Hs.uu n c0 c1 c2 g → Q0 .normal ⟨#[u0, u1, .pointer (some ⟨q, 0, none⟩), u3, u4, u5, u6, u7, u8, u9, u10, u11, u12, u13, u14, .slice (some ⟨gv, 0, none⟩) 8 cv, u16, u17, .int .u64 (e : Int), u19, .int .u64 (t : Int), u21, u22, u23, u24, u25, u26, u27, u28, u29, u30, u31, u32, u33, u34, u35, u36, u37, u38, u39, u40, u41, u42, u43, u44, u45, u46, u47, u48, u49, u50, u51, u52, u53, u54, u55, u56, u57, u58, u59, u60, u61, u62, u63, u64, u65, u66, u67, u68, u69, u70, u71, u72, u73, u74, u75, u76, u77, u78, u79, u80, u81, u82, u83, u84, u85, u86, u87, u88, u89, u90, u91, u92, u93, u94, u95, u96, u97, u98, u99, u100, u101, u102, u103, u104, u105, u106, u107, u108, u109, u110, u111, u112, u113, u114, u115, u116, u117, u118, u119, u120, u121, u122, u123, u124, u125, u126, u127, u128, u129, u130, u131, u132, u133, u134, u135, u136, u137, u138, u139, u140, u141, u142, u143, u144, u145, u146, u147, u148, u149, u150, u151, u152, u153, u154, u155, u156, u157, u158, u159, u160, u161, u162, u163, u164, u165, u166, u167, u168, u169, u170, u171, u172, u173, u174, u175, u176, u177, u178, u179, u180, u181, u182, u183, u184, u185, u186, u187, u188, u189, u190, u191, u192, u193, u194, u195, u196, u197, u198, u199, u200, u201, u202, u203, u204, u205, u206, u207, u208, u209, u210, u211, u212, u213, u214, u215, u216, u217, u218, u219, u220, u221, u222, u223, u224, u225, u226, u227, u228, u229, u230, u231, u232, v233, v234, v235, v236, v237, v238, v239, v240, v241, v242, v243, v244, v245, v246, v247, v248, v249, v250, v251, v252, v253, v254, v255, v256, v257, v258, v259, v260, v261, v262, v263, v264, v265, v266, v267, v268, v269, v270, v271, v272, u273, u274, u275, u276, u277, u278, u279, u280, u281, u282, u283, u284, u285, u286, u287, u288, u289, u290, u291, u292, u293, u294, u295, u296, u297, u298, u299, u300, u301, u302, u303, u304, u305, u306, u307, u308, u309, u310, u311, u312, u313, u314, u315, u316, u317, u318, u319, u320, u321, u322, u323, u324, u325, u326, u327, u328, u329, u330, u331, u332, u333, u334, u335, u336, u337, u338, u339], []⟩ W) :
    Code.wp Try.prog (Rf.reg 29) Q0 ⟨#[u0, u1, .pointer (some ⟨q, 0, none⟩), u3, u4, u5, u6, u7, u8, u9, u10, u11, u12, u13, u14, .slice (some ⟨gv, 0, none⟩) 8 cv, u16, u17, .int .u64 (e : Int), u19, u20, u21, u22, u23, u24, u25, u26, u27, u28, u29, u30, u31, u32, u33, u34, u35, u36, u37, u38, u39, u40, u41, u42, u43, u44, u45, u46, u47, u48, u49, u50, u51, u52, u53, u54, u55, u56, u57, u58, u59, u60, u61, u62, u63, u64, u65, u66, u67, u68, u69, u70, u71, u72, u73, u74, u75, u76, u77, u78, u79, u80, u81, u82, u83, u84, u85, u86, u87, u88, u89, u90, u91, u92, u93, u94, u95, u96, u97, u98, u99, u100, u101, u102, u103, u104, u105, u106, u107, u108, u109, u110, u111, u112, u113, u114, u115, u116, u117, u118, u119, u120, u121, u122, u123, u124, u125, u126, u127, u128, u129, u130, u131, u132, u133, u134, u135, u136, u137, u138, u139, u140, u141, u142, u143, u144, u145, u146, u147, u148, u149, u150, u151, u152, u153, u154, u155, u156, u157, u158, u159, u160, u161, u162, u163, u164, u165, u166, u167, u168, u169, u170, u171, u172, u173, u174, u175, u176, u177, u178, u179, u180, u181, u182, u183, u184, u185, u186, u187, u188, u189, u190, u191, u192, u193, u194, u195, u196, u197, u198, u199, u200, u201, u202, u203, u204, u205, u206, u207, u208, u209, u210, u211, u212, u213, u214, u215, u216, u217, u218, u219, u220, u221, u222, u223, u224, u225, u226, u227, u228, u229, u230, u231, u232, u233, u234, u235, u236, u237, u238, u239, u240, u241, u242, u243, u244, u245, u246, u247, u248, u249, u250, u251, u252, u253, u254, u255, u256, u257, u258, u259, u260, u261, u262, u263, u264, u265, u266, u267, u268, u269, u270, u271, u272, u273, u274, u275, u276, u277, u278, u279, u280, u281, u282, u283, u284, u285, u286, u287, u288, u289, u290, u291, u292, u293, u294, u295, u296, u297, u298, u299, u300, u301, u302, u303, u304, u305, u306, u307, u308, u309, u310, u311, u312, u313, u314, u315, u316, u317, u318, u319, u320, u321, u322, u323, u324, u325, u326, u327, u328, u329, u330, u331, u332, u333, u334, u335, u336, u337, u338, u339], []⟩ w := by
  have le : e < 2 ^ n := by rw [he]; exact hvl 0 (by omega)
  have l64 := Rf.two_le n hn
  have k12 := fun p => Rg.cell ((cell_of_row w q 12 R _ _ hkb).trans r12) p
  have k13 := fun p => Rg.cell ((cell_of_row w q 13 R _ _ hkb).trans r13) p
  have k14 := fun p => Rg.cell ((cell_of_row w q 14 R _ _ hkb).trans r14) p
  have cg1 := fun p => Rg.cell (hv 1 (by omega)) p
  have pg1 := hvl 1 (by omega)
  have cg2 := fun p => Rg.cell (hv 2 (by omega)) p
  have pg2 := hvl 2 (by omega)
  have C0 := Lib.hid (fun W => Rf.ror_any W R n e c0 hR h0 hn le hc.1.1 hc.1.2)
  have C1 := Lib.hid (fun W => Rf.ror_any W R n e c1 hR h0 hn le hc.2.1.1 hc.2.1.2)
  have C2 := Lib.hid (fun W => Rf.ror_any W R n e c2 hR h0 hn le hc.2.2.1 hc.2.2.2)
  have p0 := Hs.ror_lt n e c0 le
  have p1 := Hs.ror_lt n e c1 le
  have p2 := Hs.ror_lt n e c2 le
  have hz : Hs.uu n c0 c1 c2 g = ((Hs.ror n e c0 ^^^ Hs.ror n e c1 ^^^ Hs.ror n e c2) + ((e &&& g 1) ^^^ (e &&& g 2) ^^^ (g 1 &&& g 2))) % 2 ^ n := by rw [he]; rfl
  obtain ⟨r0, en_r0⟩ : ∃ z, Hs.ror n e c0 = z := ⟨_, rfl⟩
  rw [en_r0] at C0
  rw [en_r0] at p0
  rw [en_r0] at hz
  obtain ⟨r1, en_r1⟩ : ∃ z, Hs.ror n e c1 = z := ⟨_, rfl⟩
  rw [en_r1] at C1
  rw [en_r1] at p1
  rw [en_r1] at hz
  obtain ⟨r2, en_r2⟩ : ∃ z, Hs.ror n e c2 = z := ⟨_, rfl⟩
  rw [en_r2] at C2
  rw [en_r2] at p2
  rw [en_r2] at hz
  obtain ⟨g1, en_g1⟩ : ∃ z, g 1 = z := ⟨_, rfl⟩
  rw [en_g1] at cg1
  rw [en_g1] at pg1
  rw [en_g1] at hz
  obtain ⟨g2, en_g2⟩ : ∃ z, g 2 = z := ⟨_, rfl⟩
  rw [en_g2] at cg2
  rw [en_g2] at pg2
  rw [en_g2] at hz
  have x1 := Rf.xor64 r0 r1 (l64 _ p0) (l64 _ p1)
  have x1l := Nat.xor_lt_two_pow p0 p1
  obtain ⟨xa, en_xa⟩ : ∃ z, r0 ^^^ r1 = z := ⟨_, rfl⟩
  rw [en_xa] at x1
  rw [en_xa] at x1l
  rw [en_xa] at hz
  have x2 := Rf.xor64 xa r2 (l64 _ x1l) (l64 _ p2)
  obtain ⟨xb, en_xb⟩ : ∃ z, xa ^^^ r2 = z := ⟨_, rfl⟩
  rw [en_xb] at x2
  rw [en_xb] at hz
  have qan := Rf.and64 e g1 (l64 _ le) (l64 _ pg1)
  have lan := Nat.lt_of_le_of_lt (Nat.and_le_left (n := e) (m := g1)) le
  obtain ⟨an, en_an⟩ : ∃ z, e &&& g1 = z := ⟨_, rfl⟩
  rw [en_an] at qan
  rw [en_an] at lan
  rw [en_an] at hz
  have qam := Rf.and64 e g2 (l64 _ le) (l64 _ pg2)
  have lam := Nat.lt_of_le_of_lt (Nat.and_le_left (n := e) (m := g2)) le
  obtain ⟨am, en_am⟩ : ∃ z, e &&& g2 = z := ⟨_, rfl⟩
  rw [en_am] at qam
  rw [en_am] at lam
  rw [en_am] at hz
  have qao := Rf.and64 g1 g2 (l64 _ pg1) (l64 _ pg2)
  have lao := Nat.lt_of_le_of_lt (Nat.and_le_left (n := g1) (m := g2)) pg1
  obtain ⟨ao, en_ao⟩ : ∃ z, g1 &&& g2 = z := ⟨_, rfl⟩
  rw [en_ao] at qao
  rw [en_ao] at lao
  rw [en_ao] at hz
  have x3 := Rf.xor64 an am (l64 _ lan) (l64 _ lam)
  have x3l := Nat.xor_lt_two_pow lan lam
  obtain ⟨xc, en_xc⟩ : ∃ z, an ^^^ am = z := ⟨_, rfl⟩
  rw [en_xc] at x3
  rw [en_xc] at x3l
  rw [en_xc] at hz
  have x4 := Rf.xor64 xc ao (l64 _ x3l) (l64 _ lao)
  obtain ⟨mj, en_mj⟩ : ∃ z, xc ^^^ ao = z := ⟨_, rfl⟩
  rw [en_mj] at x4
  rw [en_mj] at hz
  have y1 := Rf.add64 xb mj
  obtain ⟨t, en_t⟩ : ∃ z, (xb + mj) % 18446744073709551616 = z := ⟨_, rfl⟩
  rw [en_t] at y1
  have hts : t % 2 ^ n = Hs.uu n c0 c1 c2 g := by
    rw [hz, ← en_t]
    rcases hn with rfl | rfl <;> omega
  have htl : t < 18446744073709551616 := by rw [← en_t]; exact Nat.mod_lt _ (by decide)
  have HK := Lib.hid (fun v233 v234 v235 v236 v237 v238 v239 v240 v241 v242 v243 v244 v245 v246 v247 v248 v249 v250 v251 v252 v253 v254 v255 v256 v257 v258 v259 v260 v261 v262 v263 v264 v265 v266 v267 v268 v269 v270 v271 v272 W hB => hk v233 v234 v235 v236 v237 v238 v239 v240 v241 v242 v243 v244 v245 v246 v247 v248 v249 v250 v251 v252 v253 v254 v255 v256 v257 v258 v259 v260 v261 v262 v263 v264 v265 v266 v267 v268 v269 v270 v271 v272 t W hB htl hts)
  have hsz : (Try.prog.info? 34).map (·.size) = some R.size := by rw [hR]; exact Rf.infoKd
  clear hk htl hts en_t en_mj en_xc en_ao en_am en_an en_xb en_xa en_g1 en_g2 en_r0 en_r1 en_r2 hz lan lam lao x1l x3l p0 p1 p2 pg1 pg2 le l64 he hvl hv hc r12 r13 r14 hn h0 hR
  conv => arg 2; whnf
  refine Rg.quiet (by kernel_rfl) (by kernel_rfl) ?_
  dsimp only
  repeat (first | (go_big_quiet_want; refine Rg.load_row _ 34 rfl q rfl 34 R (0, 0) _ hkb Try.underlying34 rfl hsz _ (by simp only [Act.put, List.setIfInBounds_toArray, List.set_cons_zero, List.set_cons_succ]; exact rfl) ?_; go_big_quiet_on) | go_big_quiet_step ((first | (go_at_call 28; first | with_reducible exact Rg.call (C0.out _) | with_reducible exact Rg.call (C1.out _) | with_reducible exact Rg.call (C2.out _)))))
  refine wpQuiet_nil ?_
  intro w' hw'
  obtain ⟨p, rfl⟩ := hw'
  exact HK.out _ _ _ _ _ _ _ _ _ _ _ _ _ _ _ _ _ _ _ _ _ _ _ _ _ _ _ _ _ _ _ _ _ _ _ _ _ _ _ _ _ (Rg.below w p)
end Go.Proofs.Ytelfhdihkeafnaa
