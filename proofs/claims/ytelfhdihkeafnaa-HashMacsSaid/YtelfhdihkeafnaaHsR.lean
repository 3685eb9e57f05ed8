/- A hash: Clone, open, step. -/
import Derived.Test.YtelfhdihkeafnaaHsQ
import Derived.Test.YtelfhdihkeafnaaHsH
namespace Go.Proofs.Ytelfhdihkeafnaa
open Go.RowKit

theorem Hs.ldP0 (W : World) (q : Nat) (h : W.heap[q]? = some (.cells Hs.pc0 58 (0, 0))) : (Instr.loadAt 58 (.pointer (some ⟨q, 0, none⟩))).run Try.prog W = .ok (.agg Hs.pc0) W := by
  simp only [Instr.loadAt, Instr.sureAddr, Sem.run_bind, Sem.run_pure, Result.andThen]
  exact run_loadVar_row _ _ _ _ _ (0, 0) _ h Try.underlying58 rfl Hs.infoP
theorem Hs.ldP1 (W : World) (q : Nat) (h : W.heap[q]? = some (.cells Hs.pc1 58 (0, 0))) : (Instr.loadAt 58 (.pointer (some ⟨q, 0, none⟩))).run Try.prog W = .ok (.agg Hs.pc1) W := by
  simp only [Instr.loadAt, Instr.sureAddr, Sem.run_bind, Sem.run_pure, Result.andThen]
  exact run_loadVar_row _ _ _ _ _ (0, 0) _ h Try.underlying58 rfl Hs.infoP
theorem Hs.ldS (W : World) (p κ : Nat) (v : Hs.V8) (R : Nat → Nat) (n : Nat) (h : Hs.At W p κ v R n) : (Instr.loadAt 56 (.pointer (some ⟨p, 1, none⟩))).run Try.prog W = .ok (.agg (Hs.row .u64 8 v.get)) W := by
  rw [← Hs.stateL_row]
  exact run_loadAt_mid W p 1 56 (Hs.stateL v) _ h.range Try.underlying56 rfl Hs.size61
/-- next, of a state and a block in memory. -/
theorem Hs.nextV0 (w : World) (bb off cap : Nat) (B : Nat → Nat) (hB : ∀ j, B j < 256) (hbb : bb < w.heap.size) (hcap : 64 ≤ cap) (hcm : cap ≤ 9223372036854775807) (hc : ∀ j, j < 64 → w.cell? ⟨bb, off + j, none⟩ = some (.int .u8 (B j : Int))) (v : Hs.V8) (hv : v.lt 32) :
    Calls Try.prog 39 #[.agg (Hs.row .u64 8 v.get), .slice (some ⟨bb, off, none⟩) 64 cap, .agg Hs.pc0] w fun e w' => e = .returned (.agg (Hs.row .u64 8 (Hs.step Hs.k0 v B).get)) ∧ Below w.heap.size w w' := by
  have hwl : (Hs.words Hs.k0 B).length = 64 := Hs.words_length Hs.k0 B (by decide)
  have hrl : Hs.rk.length = 80 := by decide
  have := Hs.next32 w bb off cap B hB hbb hcap hcm hc (fun j => (Hs.words Hs.k0 B).getD j 0) (fun j hj => Hs.words_low Hs.k0 B j hj) (fun i h1 h2 => Hs.words_high Hs.k0 B i h1 h2) v.get hv
    (fun i => (Hs.rounds Hs.k0 Hs.rk ((Hs.words Hs.k0 B).take i) v).get) (fun j _ => by simp [Hs.rounds]) (fun i j _ hj => Hs.rounds_lt Hs.k0 _ _ v hv j hj)
    (fun i hi => by
      rw [Hs.rounds_succ Hs.k0 Hs.rk (Hs.words Hs.k0 B) v i (by omega) (by omega)]
      exact Hs.round_get Hs.k0 _ _ _)
  refine this.mono ?_
  rintro e w' ⟨rfl, hb⟩
  refine ⟨?_, hb⟩
  rw [Hs.row_congr .u64 8 _ (Hs.step Hs.k0 v B).get (fun j _ => ?_)]
  unfold Hs.step
  rw [Hs.plus_get, List.take_of_length_le (by omega)]
  rfl
theorem Hs.nextV1 (w : World) (bb off cap : Nat) (B : Nat → Nat) (hB : ∀ j, B j < 256) (hbb : bb < w.heap.size) (hcap : 128 ≤ cap) (hcm : cap ≤ 9223372036854775807) (hc : ∀ j, j < 128 → w.cell? ⟨bb, off + j, none⟩ = some (.int .u8 (B j : Int))) (v : Hs.V8) (hv : v.lt 64) :
    Calls Try.prog 40 #[.agg (Hs.row .u64 8 v.get), .slice (some ⟨bb, off, none⟩) 128 cap, .agg Hs.pc1] w fun e w' => e = .returned (.agg (Hs.row .u64 8 (Hs.step Hs.k1 v B).get)) ∧ Below w.heap.size w w' := by
  have hwl : (Hs.words Hs.k1 B).length = 80 := Hs.words_length Hs.k1 B (by decide)
  have hrl : Hs.rk.length = 80 := by decide
  have := Hs.next64 w bb off cap B hB hbb hcap hcm hc (fun j => (Hs.words Hs.k1 B).getD j 0) (fun j hj => Hs.words_low Hs.k1 B j hj) (fun i h1 h2 => Hs.words_high Hs.k1 B i h1 h2) v.get hv
    (fun i => (Hs.rounds Hs.k1 Hs.rk ((Hs.words Hs.k1 B).take i) v).get) (fun j _ => by simp [Hs.rounds]) (fun i j _ hj => Hs.rounds_lt Hs.k1 _ _ v hv j hj)
    (fun i hi => by
      rw [Hs.rounds_succ Hs.k1 Hs.rk (Hs.words Hs.k1 B) v i (by omega) (by omega)]
      have := Hs.round_get Hs.k1 (Hs.rk.getD i 0 / 2 ^ (64 - Hs.k1.n)) ((Hs.words Hs.k1 B).getD i 0) (Hs.rounds Hs.k1 Hs.rk ((Hs.words Hs.k1 B).take i) v)
      rw [show Hs.rk.getD i 0 / 2 ^ (64 - Hs.k1.n) = Hs.rk.getD i 0 from Nat.div_one _] at this ⊢
      exact this)
  refine this.mono ?_
  rintro e w' ⟨rfl, hb⟩
  refine ⟨?_, hb⟩
  rw [Hs.row_congr .u64 8 _ (Hs.step Hs.k1 v B).get (fun j _ => ?_)]
  unfold Hs.step
  rw [Hs.plus_get, List.take_of_length_le (by omega)]
  rfl
end Go.Proofs.Ytelfhdihkeafnaa
