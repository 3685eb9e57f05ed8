/- The reference of a sum: a round's end. -/
import Derived.Test.YtelfhdihkeafnaaRfM
namespace Go.Proofs.Ytelfhdihkeafnaa
open Go.RowKit

theorem Rf.dig8 (W : World) (b x0 x1 x2 x3 x4 x5 x6 x7 : Nat) (h : W.heap[b]? = some (.cells #[.int .u64 (x0 : Int), .int .u64 (x1 : Int), .int .u64 (x2 : Int), .int .u64 (x3 : Int), .int .u64 (x4 : Int), .int .u64 (x5 : Int), .int .u64 (x6 : Int), .int .u64 (x7 : Int)] 48 (0, 0))) : Rf.Dig W b 8 (Hs.V8.get ⟨x0, x1, x2, x3, x4, x5, x6, x7⟩) := by
  refine ⟨fun j hj => ?_, (Array.getElem?_eq_some_iff.1 h).1⟩
  rw [cell_of_row W b j _ _ _ h]
  match j, hj with
  | 0, _ => rfl
  | 1, _ => rfl
  | 2, _ => rfl
  | 3, _ => rfl
  | 4, _ => rfl
  | 5, _ => rfl
  | 6, _ => rfl
  | 7, _ => rfl
set_option maxHeartbeats 1000000 in
set_option maxRecDepth 100000 in
theorem Rf.r30 (w : World) (q gv cv n t u : Nat) (R : Array Value) (hR : R.size = 17) (g : Nat → Nat) {u0 u1 u3 u4 u5 u6 u7 u8 u9 u10 u11 u12 u13 u14 u16 u17 u18 u21 u22 u23 u24 u25 u26 u27 u28 u29 u30 u31 u32 u33 u34 u35 u36 u37 u38 u39 u40 u41 u42 u43 u44 u45 u46 u47 u48 u49 u50 u51 u52 u53 u54 u55 u56 u57 u58 u59 u60 u61 u62 u63 u64 u65 u66 u67 u68 u69 u70 u71 u72 u73 u74 u75 u76 u77 u78 u79 u80 u81 u82 u83 u84 u85 u86 u87 u88 u89 u90 u91 u92 u93 u94 u95 u96 u97 u98 u99 u100 u101 u102 u103 u104 u105 u106 u107 u108 u109 u110 u111 u112 u113 u114 u115 u116 u117 u118 u119 u120 u121 u122 u123 u124 u125 u126 u127 u128 u129 u130 u131 u132 u133 u134 u135 u136 u137 u138 u139 u140 u141 u142 u143 u144 u145 u146 u147 u148 u149 u150 u151 u152 u153 u154 u155 u156 u157 u158 u159 u160 u161 u162 u163 u164 u165 u166 u167 u168 u169 u170 u171 u172 u173 u174 u175 u176 u177 u178 u179 u180 u181 u182 u183 u184 u185 u186 u187 u188 u189 u190 u191 u192 u193 u194 u195 u196 u197 u198 u199 u200 u201 u202 u203 u204 u205 u206 u207 u208 u209 u210 u211 u212 u213 u214 u215 u216 u217 u218 u219 u220 u221 u222 u223 u224 u225 u226 u227 u228 u229 u230 u231 u232 u233 u234 u235 u236 u237 u238 u239 u240 u241 u242 u243 u244 u245 u246 u247 u248 u249 u250 u251 u252 u253 u254 u255 u256 u257 u258 u259 u260 u261 u262 u263 u264 u265 u266 u267 u268 u269 u270 u271 u272 u273 u274 u275 u276 u277 u278 u279 u280 u281 u282 u283 u284 u285 u286 u287 u288 u289 u290 u291 u292 u293 u294 u295 u296 u297 u298 u299 u300 u301 u302 u303 u304 u305 u306 u307 u308 u309 u310 u311 u312 u313 u314 u315 u316 u317 u318 u319 u320 u321 u322 u323 u324 u325 u326 u327 u328 u329 u330 u331 u332 u333 u334 u335 u336 u337 u338 u339 : Value} (Q0 : Exit → Act → World → Prop)
    (hkb : w.heap[q]? = some (.cells R 34 (0, 0))) (hn : n = 32 ∨ n = 64) (h0 : R[0]? = some (.int .i64 (n : Int))) (hv : ∀ j, j < 8 → w.cell? ⟨gv, j, none⟩ = some (.int .u64 (g j : Int))) (hvl : ∀ j, j < 8 → g j < 2 ^ n)
    (hk : ∀ (v273 v274 v275 v276 v277 v278 v279 v280 v281 v282 v283 v284 v285 v286 v287 v288 v289 v290 v291 v292 v293 v294 v295 v296 v297 v298 v299 v300 v301 v302 v303 : Value) (gn : Nat) (W : World), w.heap.size ≤ gn → Below w.heap.size w W → Rf.Dig W gn 8 (Hs.V8.get ⟨(t + u) % 2 ^ n, g 0, g 1, g 2, (g 3 + t) % 2 ^ n, g 4, g 5, g 6⟩) → Q0 .normal ⟨#[u0, u1, .pointer (some ⟨q, 0, none⟩), u3, u4, u5, u6, u7, u8, u9, u10, u11, u12, u13, u14, .slice (some ⟨gn, 0, none⟩) 8 8, u16, u17, u18, .int .u64 (t : Int), .int .u64 (u : Int), u21, u22, u23, u24, u25, u26, u27, u28, u29, u30, u31, u32, u33, u34, u35, u36, u37, u38, u39, u40, u41, u42, u43, u44, u45, u46, u47, u48, u49, u50, u51, u52, u53, u54, u55, u56, u57, u58, u59, u60, u61, u62, u63, u64, u65, u66, u67, u68, u69, u70, u71, u72, u73, u74, u75, u76, u77, u78, u79, u80, u81, u82, u83, u84, u85, u86, u87, u88, u89, u90, u91, u92, u93, u94, u95, u96, u97, u98, u99, u100, u101, u102, u103, u104, u105, u106, u107, u108, u109, u110, u111, u112, u113, u114, u115, u116, u117, u118, u119, u120, u121, u122, u123, u124, u125, u126, u127, u128, u129, u130, u131, u132, u133, u134, u135, u136, u137, u138, u139, u140, u141, u142, u143, u144, u145, u146, u147, u148, u149, u150, u151, u152, u153, u154, u155, u156, u157, u158, u159, u160, u161, u162, u163, u164, u165, u166, u167, u168, u169, u170, u171, u172, u173, u174, u175, u176, u177, u178, u179, u180, u181, u182, u183, u184, u185, u186, u187, u188, u189, u190, u191, u192, u193, u194, u195, u196, u197, u198, u199, u200, u201, u202, u203, u204, u205, u206, u207, u208, u209, u210, u211, u212, u213, u214, u215, u216, u217, u218, u219, u220, u221, u222, u223, u224, u225, u226, u227, u228, u229, u230, u231, u232, u233, u234, u235, u236, u237, u238, u239, u240, u241, u242, u243, u244, u245, u246, u247, u248, u249, u250, u251, u252, u253, u254, u255, u256, u257, u258, u259, u260, u261, u262, u263, u264, u265, u266, u267, u268, u269, u270, u271, u272, v273, v274, v275, v276, v277, v278, v279, v280, v281, v282, v283, v284, v285, v286, v287, v288, v289, v290, v291, v292, v293, v294, v295, v296, v297, v298, v299, v300, v301, v302, v303, u304, u305, u306, u307, u308, u309, u310, u311, u312, u313, u314, u315, u316, u317, u318, u319, u320, u321, u322, u323, u324, u325, u326, u327, u328, u329, u330, u331, u332, u333, u334, u335, u336, u337, u338, u339], []⟩ W) :
    Code.wp Try.prog (Rf.reg 30) Q0 ⟨#[u0, u1, .pointer (some ⟨q, 0, none⟩), u3, u4, u5, u6, u7, u8, u9, u10, u11, u12, u13, u14, .slice (some ⟨gv, 0, none⟩) 8 cv, u16, u17, u18, .int .u64 (t : Int), .int .u64 (u : Int), u21, u22, u23, u24, u25, u26, u27, u28, u29, u30, u31, u32, u33, u34, u35, u36, u37, u38, u39, u40, u41, u42, u43, u44, u45, u46, u47, u48, u49, u50, u51, u52, u53, u54, u55, u56, u57, u58, u59, u60, u61, u62, u63, u64, u65, u66, u67, u68, u69, u70, u71, u72, u73, u74, u75, u76, u77, u78, u79, u80, u81, u82, u83, u84, u85, u86, u87, u88, u89, u90, u91, u92, u93, u94, u95, u96, u97, u98, u99, u100, u101, u102, u103, u104, u105, u106, u107, u108, u109, u110, u111, u112, u113, u114, u115, u116, u117, u118, u119, u120, u121, u122, u123, u124, u125, u126, u127, u128, u129, u130, u131, u132, u133, u134, u135, u136, u137, u138, u139, u140, u141, u142, u143, u144, u145, u146, u147, u148, u149, u150, u151, u152, u153, u154, u155, u156, u157, u158, u159, u160, u161, u162, u163, u164, u165, u166, u167, u168, u169, u170, u171, u172, u173, u174, u175, u176, u177, u178, u179, u180, u181, u182, u183, u184, u185, u186, u187, u188, u189, u190, u191, u192, u193, u194, u195, u196, u197, u198, u199, u200, u201, u202, u203, u204, u205, u206, u207, u208, u209, u210, u211, u212, u213, u214, u215, u216, u217, u218, u219, u220, u221, u222, u223, u224, u225, u226, u227, u228, u229, u230, u231, u232, u233, u234, u235, u236, u237, u238, u239, u240, u241, u242, u243, u244, u245, u246, u247, u248, u249, u250, u251, u252, u253, u254, u255, u256, u257, u258, u259, u260, u261, u262, u263, u264, u265, u266, u267, u268, u269, u270, u271, u272, u273, u274, u275, u276, u277, u278, u279, u280, u281, u282, u283, u284, u285, u286, u287, u288, u289, u290, u291, u292, u293, u294, u295, u296, u297, u298, u299, u300, u301, u302, u303, u304, u305, u306, u307, u308, u309, u310, u311, u312, u313, u314, u315, u316, u317, u318, u319, u320, u321, u322, u323, u324, u325, u326, u327, u328, u329, u330, u331, u332, u333, u334, u335, u336, u337, u338, u339], []⟩ w := by
  have cg0 := fun p => Rg.cell (hv 0 (by omega)) p
  have pg0 := hvl 0 (by omega)
  have cg1 := fun p => Rg.cell (hv 1 (by omega)) p
  have pg1 := hvl 1 (by omega)
  have cg2 := fun p => Rg.cell (hv 2 (by omega)) p
  have pg2 := hvl 2 (by omega)
  have cg3 := fun p => Rg.cell (hv 3 (by omega)) p
  have pg3 := hvl 3 (by omega)
  have cg4 := fun p => Rg.cell (hv 4 (by omega)) p
  have pg4 := hvl 4 (by omega)
  have cg5 := fun p => Rg.cell (hv 5 (by omega)) p
  have pg5 := hvl 5 (by omega)
  have cg6 := fun p => Rg.cell (hv 6 (by omega)) p
  have pg6 := hvl 6 (by omega)
  have y1 := Rf.add64 t u
  obtain ⟨a, en_a⟩ : ∃ z, (t + u) % 18446744073709551616 = z := ⟨_, rfl⟩
  rw [en_a] at y1
  have y2 := Rf.add64 (g 3) t
  obtain ⟨b, en_b⟩ : ∃ z, (g 3 + t) % 18446744073709551616 = z := ⟨_, rfl⟩
  rw [en_b] at y2
  have la : a < 18446744073709551616 := by rw [← en_a]; exact Nat.mod_lt _ (by decide)
  have lb : b < 18446744073709551616 := by rw [← en_b]; exact Nat.mod_lt _ (by decide)
  have ea : a % 2 ^ n = (t + u) % 2 ^ n := by rw [← en_a]; rcases hn with rfl | rfl <;> omega
  have eb : b % 2 ^ n = (g 3 + t) % 2 ^ n := by rw [← en_b]; rcases hn with rfl | rfl <;> omega
  have CA := Lib.hid (fun W => Rf.cut_any W R n a h0 hn la)
  have CB := Lib.hid (fun W => Rf.cut_any W R n b h0 hn lb)
  rw [ea] at CA
  rw [eb] at CB
  obtain ⟨g0, en_g0⟩ : ∃ z, g 0 = z := ⟨_, rfl⟩
  rw [en_g0] at cg0
  rw [en_g0] at pg0
  rw [en_g0] at hk
  obtain ⟨g1, en_g1⟩ : ∃ z, g 1 = z := ⟨_, rfl⟩
  rw [en_g1] at cg1
  rw [en_g1] at pg1
  rw [en_g1] at hk
  obtain ⟨g2, en_g2⟩ : ∃ z, g 2 = z := ⟨_, rfl⟩
  rw [en_g2] at cg2
  rw [en_g2] at pg2
  rw [en_g2] at hk
  obtain ⟨g3, en_g3⟩ : ∃ z, g 3 = z := ⟨_, rfl⟩
  rw [en_g3] at cg3
  rw [en_g3] at pg3
  rw [en_g3] at hk
  rw [en_g3] at y2
  rw [en_g3] at CB
  obtain ⟨g4, en_g4⟩ : ∃ z, g 4 = z := ⟨_, rfl⟩
  rw [en_g4] at cg4
  rw [en_g4] at pg4
  rw [en_g4] at hk
  obtain ⟨g5, en_g5⟩ : ∃ z, g 5 = z := ⟨_, rfl⟩
  rw [en_g5] at cg5
  rw [en_g5] at pg5
  rw [en_g5] at hk
  obtain ⟨g6, en_g6⟩ : ∃ z, g 6 = z := ⟨_, rfl⟩
  rw [en_g6] at cg6
  rw [en_g6] at pg6
  rw [en_g6] at hk
  obtain ⟨ca, en_ca⟩ : ∃ z, (t + u) % 2 ^ n = z := ⟨_, rfl⟩
  rw [en_ca] at CA
  rw [en_ca] at hk
  obtain ⟨cb, en_cb⟩ : ∃ z, (g3 + t) % 2 ^ n = z := ⟨_, rfl⟩
  rw [en_cb] at CB
  rw [en_cb] at hk
  have HK := Lib.hid hk
  have hsz : (Try.prog.info? 34).map (·.size) = some R.size := by rw [hR]; exact Rf.infoKd
  clear hk en_a en_b en_ca en_cb ea eb la lb pg0 pg1 pg2 pg3 pg4 pg5 pg6 en_g0 en_g1 en_g2 en_g3 en_g4 en_g5 en_g6 hvl hv hn h0 hR
  conv => arg 2; whnf
  refine Rg.tail 30 (by kernel_rfl) (by kernel_rfl) ?_
  simp only [List.take_succ_cons, List.take_zero, List.drop_succ_cons, List.drop_zero]
  repeat (first | (go_big_quiet_want; refine Rg.load_row _ 34 rfl q rfl 34 R (0, 0) _ hkb Try.underlying34 rfl hsz _ (by simp only [Act.put, List.setIfInBounds_toArray, List.set_cons_zero, List.set_cons_succ]; exact rfl) ?_; go_big_quiet_on) | go_big_quiet_step ((first | (go_at_call 27; first | with_reducible exact Rg.call (CA.out _) | with_reducible exact Rg.call (CB.out _)))))
  refine wpQuiet_nil ?_
  intro w' hw'
  obtain ⟨p, rfl⟩ := hw'
  have hB := Rg.below w p
  clear cg0 cg1 cg2 cg3 cg4 cg5 cg6
  generalize Rg.w w p = w1 at hB ⊢
  go_wp2_with fail
  exact HK.out _ _ _ _ _ _ _ _ _ _ _ _ _ _ _ _ _ _ _ _ _ _ _ _ _ _ _ _ _ _ _ w1.heap.size _ hB.size (hB.trans (((Below.refl _ _).alloc (Nat.le_refl _) _).mono hB.size)) (Rf.dig8 _ _ _ _ _ _ _ _ _ _ (heap_alloc_new _ _))
end Go.Proofs.Ytelfhdihkeafnaa
