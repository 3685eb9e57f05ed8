/- The reference of a sum: what a block adds to the state. -/
import Derived.Test.YtelfhdihkeafnaaRfP
import Derived.Test.YtelfhdihkeafnaaRfN
import Derived.Test.YtelfhdihkeafnaaRfO
namespace Go.Proofs.Ytelfhdihkeafnaa
open Go.RowKit

/-- The bodies of the sum's loops. -/
noncomputable def Rf.lp2 : Code := (((Try.f13.body.map Rf.loops).getD []).getD 1 .skip)
noncomputable def Rf.lp3 : Code := (Rf.loops Rf.lp2).getD 0 .skip
noncomputable def Rf.lp4 : Code := (Rf.loops Rf.lp3).getD 0 .skip
noncomputable def Rf.lp5 : Code := (Rf.loops Rf.lp2).getD 1 .skip
noncomputable def Rf.lp6 : Code := (Rf.loops Rf.lp2).getD 2 .skip
noncomputable def Rf.lp7 : Code := (Rf.loops Rf.lp2).getD 3 .skip
/-- n numbers of 64 bits at the head of block g, which may be written. -/
structure Rf.Cel (W : World) (g n : Nat) (f : Nat → Nat) : Prop where
  cell : ∀ j, j < n → W.cell? ⟨g, j, none⟩ = some (.int .u64 (f j : Int))
  fro : ∀ j, W.frozen? ⟨g, j, none⟩ = false
  lt : g < W.heap.size
theorem Rf.Cel.congr {W : World} {g n : Nat} {f f' : Nat → Nat} (h : Rf.Cel W g n f) (e : ∀ j, j < n → f j = f' j) : Rf.Cel W g n f' := ⟨fun j hj => (e j hj) ▸ h.cell j hj, h.fro, h.lt⟩
theorem Rf.cell_eq {w w' : World} {b j : Nat} (e : w'.heap[b]? = w.heap[b]?) : w'.cell? ⟨b, j, none⟩ = w.cell? ⟨b, j, none⟩ := by simp only [World.cell?, e]
theorem Rf.fro_eq {w w' : World} {b j : Nat} (e : w'.heap[b]? = w.heap[b]?) : w'.frozen? ⟨b, j, none⟩ = w.frozen? ⟨b, j, none⟩ := by simp only [World.frozen?, e]
theorem Rf.lt_eq {w w' : World} {b : Nat} (e : w'.heap[b]? = w.heap[b]?) (h1 : b < w.heap.size) : b < w'.heap.size := by
  rcases Nat.lt_or_ge b w'.heap.size with h2 | h2
  · exact h2
  · rw [Array.getElem?_eq_none h2, Array.getElem?_eq_getElem h1] at e
    simp at e
theorem Rf.Cel.to {w w' : World} {g n : Nat} {f : Nat → Nat} (h : Rf.Cel w g n f) (e : w'.heap[g]? = w.heap[g]?) : Rf.Cel w' g n f :=
  ⟨fun j hj => (Rf.cell_eq e).trans (h.cell j hj), fun j => (Rf.fro_eq e).trans (h.fro j), Rf.lt_eq e h.lt⟩
theorem Rf.Cel.below {w w' : World} {g n : Nat} {f : Nat → Nat} (h : Rf.Cel w g n f) (hb : Below w.heap.size w w') : Rf.Cel w' g n f := h.to (hb.block g h.lt)
theorem Rf.Cel.dig {w : World} {g n : Nat} {f : Nat → Nat} (h : Rf.Cel w g n f) : Rf.Dig w g n f := ⟨h.cell, h.lt⟩
theorem Rf.Cel.set {w : World} {g n : Nat} {f : Nat → Nat} (h : Rf.Cel w g n f) (i x : Nat) (hi : i < n) : Rf.Cel (w.setCell ⟨g, i, none⟩ (.int .u64 (x : Int))) g n (fun j => if j = i then x else f j) := by
  refine ⟨fun j hj => ?_, fun j => ?_, by simpa [World.setCell] using h.lt⟩
  · by_cases e : j = i
    · subst e
      rw [if_pos rfl]
      exact World.cell?_setCell_same _ _ _ (h.cell j hj)
    · rw [if_neg e, World.cell?_setCell_other _ _ _ _ (fun c => e (by simpa using (congrArg Addr.off c).symm))]
      exact h.cell j hj
  · rw [World.frozen?_setCell]
    exact h.fro j
theorem Rf.Dig.but {w w' : World} {b g n : Nat} {f : Nat → Nat} (h : Rf.Dig w g n f) (hb : Hs.But b w w') (hg : g ≠ b) : Rf.Dig w' g n f := h.to (hb.block g h.lt hg)
theorem Rf.Dig.bel {w w' : World} {g n : Nat} {f : Nat → Nat} (h : Rf.Dig w g n f) (hb : Below w.heap.size w w') : Rf.Dig w' g n f := h.to (hb.block g h.lt)
set_option maxHeartbeats 1000000 in
set_option maxRecDepth 100000 in
theorem Rf.l7 (w : World) (q gs cs gv cv n : Nat) (R : Array Value) (hR : R.size = 17) {u0 u1 u3 u4 u5 u6 u8 u9 u10 u11 u12 u13 u14 u16 u17 u18 u19 u20 u22 u23 u24 u25 u26 u27 u28 u29 u30 u31 u32 u33 u34 u35 u36 u37 u38 u39 u40 u41 u42 u43 u44 u45 u46 u47 u48 u49 u50 u51 u52 u53 u54 u55 u56 u57 u58 u59 u60 u61 u62 u63 u64 u65 u66 u67 u68 u69 u70 u71 u72 u73 u74 u75 u76 u77 u78 u79 u80 u81 u82 u83 u84 u85 u86 u87 u88 u89 u90 u91 u92 u93 u94 u95 u96 u97 u98 u99 u100 u101 u102 u103 u104 u105 u106 u107 u108 u109 u110 u111 u112 u113 u114 u115 u116 u117 u118 u119 u120 u121 u122 u123 u124 u125 u126 u127 u128 u129 u130 u131 u132 u133 u134 u135 u136 u137 u138 u139 u140 u141 u142 u143 u144 u145 u146 u147 u148 u149 u150 u151 u152 u153 u154 u155 u156 u157 u158 u159 u160 u161 u162 u163 u164 u165 u166 u167 u168 u169 u170 u171 u172 u173 u174 u175 u176 u177 u178 u179 u180 u181 u182 u183 u184 u185 u186 u187 u188 u189 u190 u191 u192 u193 u194 u195 u196 u197 u198 u199 u200 u201 u202 u203 u204 u205 u206 u207 u208 u209 u210 u211 u212 u213 u214 u215 u216 u217 u218 u219 u220 u221 u222 u223 u224 u225 u226 u227 u228 u229 u230 u231 u232 u233 u234 u235 u236 u237 u238 u239 u240 u241 u242 u243 u244 u245 u246 u247 u248 u249 u250 u251 u252 u253 u254 u255 u256 u257 u258 u259 u260 u261 u262 u263 u264 u265 u266 u267 u268 u269 u270 u271 u272 u273 u274 u275 u276 u277 u278 u279 u280 u281 u282 u283 u284 u285 u286 u287 u288 u289 u290 u291 u292 u293 u294 u295 u296 u297 u298 u299 u300 u301 u302 u303 u304 u305 u306 u307 u308 u309 u310 u311 u312 u313 u314 u315 u316 u317 u318 u319 u320 u321 u322 u323 u324 u325 u326 u327 u328 u329 u330 u331 u332 u333 u334 u335 u336 u337 u338 u339 : Value} (Q0 : Exit → Act → World → Prop) (f g : Nat → Nat)
    (hkb : w.heap[q]? = some (.cells R 34 (0, 0))) (hn : n = 32 ∨ n = 64) (h0 : R[0]? = some (.int .i64 (n : Int))) (hs : Rf.Cel w gs 8 f) (hv : Rf.Dig w gv 8 g) (hqs : q ≠ gs) (hvs : gv ≠ gs)
    (hk : ∀ (v21 v304 v305 v306 v307 v308 v309 v310 v311 v312 v313 v314 v315 v316 v317 v318 v319 v320 v321 : Value) (W : World), Hs.But gs w W → Rf.Cel W gs 8 (fun j => (f j + g j) % 2 ^ n) → Q0 (.exit 12) ⟨#[u0, u1, .pointer (some ⟨q, 0, none⟩), u3, u4, u5, u6, .slice (some ⟨gs, 0, none⟩) 8 cs, u8, u9, u10, u11, u12, u13, u14, .slice (some ⟨gv, 0, none⟩) 8 cv, u16, u17, u18, u19, u20, v21, u22, u23, u24, u25, u26, u27, u28, u29, u30, u31, u32, u33, u34, u35, u36, u37, u38, u39, u40, u41, u42, u43, u44, u45, u46, u47, u48, u49, u50, u51, u52, u53, u54, u55, u56, u57, u58, u59, u60, u61, u62, u63, u64, u65, u66, u67, u68, u69, u70, u71, u72, u73, u74, u75, u76, u77, u78, u79, u80, u81, u82, u83, u84, u85, u86, u87, u88, u89, u90, u91, u92, u93, u94, u95, u96, u97, u98, u99, u100, u101, u102, u103, u104, u105, u106, u107, u108, u109, u110, u111, u112, u113, u114, u115, u116, u117, u118, u119, u120, u121, u122, u123, u124, u125, u126, u127, u128, u129, u130, u131, u132, u133, u134, u135, u136, u137, u138, u139, u140, u141, u142, u143, u144, u145, u146, u147, u148, u149, u150, u151, u152, u153, u154, u155, u156, u157, u158, u159, u160, u161, u162, u163, u164, u165, u166, u167, u168, u169, u170, u171, u172, u173, u174, u175, u176, u177, u178, u179, u180, u181, u182, u183, u184, u185, u186, u187, u188, u189, u190, u191, u192, u193, u194, u195, u196, u197, u198, u199, u200, u201, u202, u203, u204, u205, u206, u207, u208, u209, u210, u211, u212, u213, u214, u215, u216, u217, u218, u219, u220, u221, u222, u223, u224, u225, u226, u227, u228, u229, u230, u231, u232, u233, u234, u235, u236, u237, u238, u239, u240, u241, u242, u243, u244, u245, u246, u247, u248, u249, u250, u251, u252, u253, u254, u255, u256, u257, u258, u259, u260, u261, u262, u263, u264, u265, u266, u267, u268, u269, u270, u271, u272, u273, u274, u275, u276, u277, u278, u279, u280, u281, u282, u283, u284, u285, u286, u287, u288, u289, u290, u291, u292, u293, u294, u295, u296, u297, u298, u299, u300, u301, u302, u303, v304, v305, v306, v307, v308, v309, v310, v311, v312, v313, v314, v315, v316, v317, v318, v319, v320, v321, u322, u323, u324, u325, u326, u327, u328, u329, u330, u331, u332, u333, u334, u335, u336, u337, u338, u339], []⟩ W) : Code.wp Try.prog (Code.loop Rf.lp7) Q0 ⟨#[u0, u1, .pointer (some ⟨q, 0, none⟩), u3, u4, u5, u6, .slice (some ⟨gs, 0, none⟩) 8 cs, u8, u9, u10, u11, u12, u13, u14, .slice (some ⟨gv, 0, none⟩) 8 cv, u16, u17, u18, u19, u20, .int .i64 0, u22, u23, u24, u25, u26, u27, u28, u29, u30, u31, u32, u33, u34, u35, u36, u37, u38, u39, u40, u41, u42, u43, u44, u45, u46, u47, u48, u49, u50, u51, u52, u53, u54, u55, u56, u57, u58, u59, u60, u61, u62, u63, u64, u65, u66, u67, u68, u69, u70, u71, u72, u73, u74, u75, u76, u77, u78, u79, u80, u81, u82, u83, u84, u85, u86, u87, u88, u89, u90, u91, u92, u93, u94, u95, u96, u97, u98, u99, u100, u101, u102, u103, u104, u105, u106, u107, u108, u109, u110, u111, u112, u113, u114, u115, u116, u117, u118, u119, u120, u121, u122, u123, u124, u125, u126, u127, u128, u129, u130, u131, u132, u133, u134, u135, u136, u137, u138, u139, u140, u141, u142, u143, u144, u145, u146, u147, u148, u149, u150, u151, u152, u153, u154, u155, u156, u157, u158, u159, u160, u161, u162, u163, u164, u165, u166, u167, u168, u169, u170, u171, u172, u173, u174, u175, u176, u177, u178, u179, u180, u181, u182, u183, u184, u185, u186, u187, u188, u189, u190, u191, u192, u193, u194, u195, u196, u197, u198, u199, u200, u201, u202, u203, u204, u205, u206, u207, u208, u209, u210, u211, u212, u213, u214, u215, u216, u217, u218, u219, u220, u221, u222, u223, u224, u225, u226, u227, u228, u229, u230, u231, u232, u233, u234, u235, u236, u237, u238, u239, u240, u241, u242, u243, u244, u245, u246, u247, u248, u249, u250, u251, u252, u253, u254, u255, u256, u257, u258, u259, u260, u261, u262, u263, u264, u265, u266, u267, u268, u269, u270, u271, u272, u273, u274, u275, u276, u277, u278, u279, u280, u281, u282, u283, u284, u285, u286, u287, u288, u289, u290, u291, u292, u293, u294, u295, u296, u297, u298, u299, u300, u301, u302, u303, u304, u305, u306, u307, u308, u309, u310, u311, u312, u313, u314, u315, u316, u317, u318, u319, u320, u321, u322, u323, u324, u325, u326, u327, u328, u329, u330, u331, u332, u333, u334, u335, u336, u337, u338, u339], []⟩ w := by
  have HK := Lib.hid hk
  have hql : q < w.heap.size := (Array.getElem?_eq_some_iff.1 hkb).1
  clear hk
  conv => arg 2; arg 1; whnf
  dsimp only
  go_loopw [21] (fun iv wr => ∃ (i : Nat), i ≤ 8 ∧ iv = .int .i64 (i : Int) ∧ Hs.But gs w wr ∧ Rf.Cel wr gs 8 (fun j => if j < i then (f j + g j) % 2 ^ n else f j)) (fun iv _ => 8 - (intOf iv).toNat)
  case atStart => exact ⟨0, by omega, rfl, Hs.But.refl _ _, hs.congr (fun j _ => by rw [if_neg (by omega)])⟩
  case round =>
  obtain ⟨i, hi, rfl, hBut, hC⟩ := hrel
  obtain ⟨w2, rfl⟩ : ∃ w2, w2 = wr := ⟨_, rfl⟩
  by_cases hi8 : i < 8
  · have hiz : (i : Int) < 8 := by omega
    have kb2 := (hBut.block q hql hqs).trans hkb
    have hx := hC.cell i hi8
    rw [if_neg (by omega)] at hx
    have hy := (hv.but hBut hvs).cell i hi8
    have hfx := hC.fro i
    have HC := Lib.hid hC
    clear hC
    go_upto_region 34 with fail
    refine Rf.r34 (hR := hR) (hkb := kb2) (hn := hn) (h0 := h0) (hi := hi8) (hx := hx) (hfx := hfx) (hy := hy) (hk := ?_)
    intro v308 v309 v310 v311 v312 v313 v314 v315 v316 v317 v318 v319 v320 v321 w3 hB3
    clear hx hy hfx kb2
    have hC3 := ((HC.out.below hB3).set i ((f i + g i) % 2 ^ n) hi8).congr (f' := fun j => if j < i + 1 then (f j + g j) % 2 ^ n else f j) (fun j hj => by
      by_cases e : j = i
      · subst e; rw [if_pos rfl, if_pos (by omega)]
      · rw [if_neg e]
        by_cases h : j < i
        · rw [if_pos h, if_pos (by omega)]
        · rw [if_neg h, if_neg (by omega)])
    have hBut3 := hBut.trans ((Hs.But.ofBelow (b := gs) hB3 (Nat.le_refl _)).trans (Hs.But.set _ i (.int .u64 (((f i + g i) % 2 ^ n : Nat) : Int))))
    go_wp2_with fail
    exact ⟨⟨i + 1, by omega, by go_num, hBut3, hC3⟩, by simp [intOf]; omega⟩
  · have hie : i = 8 := by omega
    have hiz : ¬ (i : Int) < 8 := by omega
    have hC8 := hC.congr (f' := fun j => (f j + g j) % 2 ^ n) (fun j hj => by rw [if_pos (by omega)])
    clear hC hie
    go_wp2_with fail
    exact HK.out _ _ _ _ _ _ _ _ _ _ _ _ _ _ _ _ _ _ _ _ hBut hC8
end Go.Proofs.Ytelfhdihkeafnaa
