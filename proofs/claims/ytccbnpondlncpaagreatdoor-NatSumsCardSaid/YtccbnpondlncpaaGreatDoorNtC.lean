/- Limbs in memory; addTimes. -/
import Derived.Test.YtccbnpondlncpaaGreatDoorNtB
import Derived.WalkKit
import Derived.ProofKit
import Derived.Below
import Derived.Handy
import Derived.Lib.Hide
import Derived.WalkLawsBesides
import Derived.WalkSpells
import Derived.WalkSmall
import Derived.Deep.QuietTactic
import Derived.BigQuiet
import Derived.IntWalk
namespace Go.Proofs.YtccbnpondlncpaaGreatDoor
open Go.RowKit

/-- n limbs in block b from off on, told by a function; they may be written. -/
structure Nt.Lim (w : World) (b off n : Nat) (f : Nat → Nat) : Prop where
  cell : ∀ j, j < n → w.cell? ⟨b, off + j, none⟩ = some (.int .u32 (f j : Int))
  fro : ∀ j, j < n → w.frozen? ⟨b, off + j, none⟩ = false
  dig : ∀ j, f j < 4294967296
  lt : b < w.heap.size
/-- Nothing but cells off .. off + n - 1 of block b, and what is new, has changed. -/
structure Nt.Only (b off n : Nat) (w w' : World) : Prop where
  os : w'.os = w.os
  tape : w'.tape = w.tape
  output : w'.output = w.output
  size : w.heap.size ≤ w'.heap.size
  block : ∀ k, k < w.heap.size → k ≠ b → w'.heap[k]? = w.heap[k]?
  cell : ∀ o, o < off ∨ off + n ≤ o → w'.cell? ⟨b, o, none⟩ = w.cell? ⟨b, o, none⟩
  fro : ∀ o, w'.frozen? ⟨b, o, none⟩ = w.frozen? ⟨b, o, none⟩
theorem Nt.Only.refl (b off n : Nat) (w : World) : Nt.Only b off n w w := ⟨rfl, rfl, rfl, Nat.le_refl _, fun _ _ _ => rfl, fun _ _ => rfl, fun _ => rfl⟩
theorem Nt.Only.trans {b off n : Nat} {w w' w'' : World} (h : Nt.Only b off n w w') (g : Nt.Only b off n w' w'') : Nt.Only b off n w w'' :=
  ⟨g.os.trans h.os, g.tape.trans h.tape, g.output.trans h.output, Nat.le_trans h.size g.size, fun k hk hb => (g.block k (Nat.lt_of_lt_of_le hk h.size) hb).trans (h.block k hk hb), fun o ho => (g.cell o ho).trans (h.cell o ho), fun o => (g.fro o).trans (h.fro o)⟩
theorem Nt.Only.drewN (b off n : Nat) (w : World) (k : Nat) : Nt.Only b off n w (w.drewN k) := by
  have h := below_drewN (Below.refl w.heap.size w) k
  have hc : (w.drewN k).heap = w.heap := by
    induction k with
    | zero => rfl
    | succ k ih => exact ih (below_drewN (Below.refl w.heap.size w) k)
  exact ⟨h.os, h.tape, h.output, h.size, fun _ _ _ => by rw [hc], fun o _ => by simp only [World.cell?, hc], fun o => by simp only [World.frozen?, hc]⟩
theorem Nt.Only.set {b off n : Nat} (w : World) (i : Nat) (x : Value) (hi : i < n) : Nt.Only b off n w (w.setCell ⟨b, off + i, none⟩ x) := by
  refine ⟨rfl, rfl, rfl, by simp [World.setCell], fun k _ hk => ?_, fun o ho => ?_, fun o => World.frozen?_setCell ..⟩
  · simp only [World.setCell, Array.getElem?_modify]
    rw [if_neg (fun e => hk e.symm)]
  · refine World.cell?_setCell_other _ _ _ _ fun e => ?_
    have := congrArg Addr.off e
    have : off + i = o := this
    omega
theorem Nt.Lim.drewN {w : World} {b off n : Nat} {f : Nat → Nat} (h : Nt.Lim w b off n f) (k : Nat) : Nt.Lim (w.drewN k) b off n f := by
  have hc : (w.drewN k).heap = w.heap := by
    clear h
    induction k with
    | zero => rfl
    | succ k ih => exact ih
  exact ⟨fun j hj => by have := h.cell j hj; simp only [World.cell?, hc] at this ⊢; exact this, fun j hj => by have := h.fro j hj; simp only [World.frozen?, hc] at this ⊢; exact this, h.dig, by rw [hc]; exact h.lt⟩
theorem Nt.Lim.set {w : World} {b off n : Nat} {f : Nat → Nat} (h : Nt.Lim w b off n f) (i x : Nat) (hi : i < n) (hx : x < 4294967296) : Nt.Lim (w.setCell ⟨b, off + i, none⟩ (.int .u32 (x : Int))) b off n (Vl.upd f i x) := by
  refine ⟨fun j hj => ?_, fun j hj => ?_, fun j => ?_, by simpa [World.setCell] using h.lt⟩
  · unfold Vl.upd
    by_cases e : j = i
    · subst e
      rw [if_pos rfl]
      exact World.cell?_setCell_same _ _ _ (h.cell j hj)
    · rw [if_neg e, World.cell?_setCell_other _ _ _ _ (fun c => e (by have : off + i = off + j := congrArg Addr.off c; omega))]
      exact h.cell j hj
  · rw [World.frozen?_setCell]
    exact h.fro j hj
  · unfold Vl.upd
    split
    · exact hx
    · exact h.dig j
/-- Limbs of another block. -/
theorem Nt.Lim.only {w w' : World} {b off n c o m : Nat} {f : Nat → Nat} (h : Nt.Lim w b off n f) (ho : Nt.Only c o m w w') (hne : b ≠ c) : Nt.Lim w' b off n f := by
  have e := ho.block b h.lt hne
  exact ⟨fun j hj => by have := h.cell j hj; simp only [World.cell?, e] at this ⊢; exact this, fun j hj => by have := h.fro j hj; simp only [World.frozen?, e] at this ⊢; exact this, h.dig, Nat.lt_of_lt_of_le h.lt ho.size⟩
set_option maxHeartbeats 1000000 in
set_option maxRecDepth 100000 in
theorem Nt.addTimes_any (w : World) (bx ox nx cx : Nat) (fx : Nat → Nat) (b' oy n cy : Nat) (fy : Nat → Nat) (t : Nat) (hx : Nt.Lim w bx ox nx fx) (hy : Nt.Lim w b' oy n fy) (hn : n ≤ nx) (hnm : nx ≤ 1000000) (ht : t < 4294967296) (hne : b' ≠ bx) :
    Calls Tryz.prog 56 #[.slice (some ⟨bx, ox, none⟩) nx cx, .slice (some ⟨b', oy, none⟩) n cy, .int .u32 (t : Int)] w fun e w' => ∃ c fo, e = .returned (.int .u32 ((c : Nat) : Int)) ∧ c < 4294967296 ∧ Nt.Lim w' bx ox nx fo ∧ Vl.val 4294967296 fo n + c * 4294967296 ^ n = Vl.val 4294967296 fx n + t * Vl.val 4294967296 fy n ∧ (∀ j, n ≤ j → fo j = fx j) ∧ Nt.Only bx ox n w w' := by
  go_enter Tryz.func56, Tryz.ntmps56
  go_wp2_with fail
  go_loopw [7, 12] (fun cv iv wr => ∃ (i c : Nat) (fo : Nat → Nat), i ≤ n ∧ iv = .int .i64 (i : Int) ∧ cv = .int .u64 (c : Int) ∧ c < 4294967296 ∧ Nt.Lim wr bx ox nx fo ∧ Vl.val 4294967296 fo n + c * 4294967296 ^ i = Vl.val 4294967296 fx n + t * Vl.val 4294967296 fy i ∧ (∀ j, n ≤ j → fo j = fx j) ∧ Nt.Only bx ox n w wr) (fun _ iv _ => n - (intOf iv).toNat)
  case atStart => exact ⟨0, 0, fx, by omega, rfl, rfl, by decide, hx, by simp [Vl.val], fun _ _ => rfl, Nt.Only.refl _ _ _ _⟩
  case round =>
  obtain ⟨i, c, fo, hi, rfl, rfl, hc, hL, hv, hhi, hO⟩ := hrel
  obtain ⟨w2, rfl⟩ : ∃ w2, w2 = wr := ⟨_, rfl⟩
  by_cases hin : i < n
  · have hiz : (i : Int) < (n : Int) := by omega
    have hiz0 : 0 ≤ (i : Int) := by omega
    have hix : (i : Int) < (nx : Int) := by omega
    have cy2 := (hy.only hO hne).cell i hin
    have cx2 := hL.cell i (by omega)
    have dy := hy.dig i
    have dx := hL.dig i
    have hst := Nt.add_step 4294967296 fo n i c (fy i) t (Vl.val 4294967296 fy i) (Vl.val 4294967296 fx n) hin hv
    have hcr := Nt.add_carry 4294967296 (fy i) t (fo i) c dy ht dx hc
    have evy : Vl.val 4294967296 fy i + fy i * 4294967296 ^ i = Vl.val 4294967296 fy (i + 1) := rfl
    rw [evy] at hst
    obtain ⟨y, ey⟩ : ∃ y, fy i = y := ⟨_, rfl⟩
    obtain ⟨x, ex⟩ : ∃ x, fo i = x := ⟨_, rfl⟩
    rw [ey, ex] at hst hcr
    rw [ey] at cy2 dy
    rw [ex] at cx2 dx
    have em : (y : Int) * (t : Int) = ((y * t : Nat) : Int) := by simp
    obtain ⟨m, hm⟩ : ∃ m, y * t = m := ⟨_, rfl⟩
    rw [hm] at em hst hcr
    obtain ⟨s1, hs1⟩ : ∃ s1, m + x = s1 := ⟨_, rfl⟩
    rw [hs1] at hst hcr
    obtain ⟨s, hs⟩ : ∃ s, s1 + c = s := ⟨_, rfl⟩
    rw [hs] at hst hcr
    have hsb : s < 18446744073709551616 := hcr.1
    obtain ⟨d, hd⟩ : ∃ d, s % 4294967296 = d := ⟨_, rfl⟩
    obtain ⟨c', hc'⟩ : ∃ c', s / 4294967296 = c' := ⟨_, rfl⟩
    rw [hd, hc'] at hst
    rw [hc'] at hcr
    have hdl : d < 4294967296 := by omega
    have hL3 := fun k => ((hL.drewN k).set i d (by omega) hdl)
    have hO3 := fun k => (hO.trans (Nt.Only.drewN bx ox n w2 k)).trans (Nt.Only.set (w2.drewN k) i (.int .u32 (d : Int)) hin)
    have hhi3 : ∀ j, n ≤ j → Vl.upd fo i d j = fx j := fun j hj => by
      unfold Vl.upd
      rw [if_neg (by omega)]
      exact hhi j hj
    have HH := Lib.hid (And.intro hst (And.intro hhi3 (And.intro hL3 (And.intro hO3 hcr.2))))
    have fx2 := hL.fro i (by omega)
    have k1 : IntKind.u64.wrap (y : Int) = (y : Int) := IntWalk.u64_in _ (by omega)
    have k2 : IntKind.u64.wrap (t : Int) = (t : Int) := IntWalk.u64_in _ (by omega)
    have k3 : IntKind.u64.wrap (x : Int) = (x : Int) := IntWalk.u64_in _ (by omega)
    have k4 : IntKind.u64.wrap ((y : Int) * (t : Int)) = (m : Int) := by rw [em]; exact IntWalk.u64_in _ (by omega)
    have k5 : IntKind.u64.wrap ((m : Int) + (x : Int)) = (s1 : Int) := by rw [IntWalk.u64_in _ (by omega)]; omega
    have k6 : IntKind.u64.wrap ((s1 : Int) + (c : Int)) = (s : Int) := by rw [IntWalk.u64_in _ (by omega)]; omega
    have k7 : IntKind.u32.wrap (s : Int) = (d : Int) := by
      have : (s : Int) % 4294967296 = (d : Int) := by omega
      unfold IntKind.wrap
      simpa [IntKind.bits, IntKind.signed] using this
    have k8 : (s : Int) % 4294967296 = (d : Int) := by omega
    have k9 : (s : Int) / 4294967296 = (c' : Int) := by omega
    clear hv hhi hst hcr hhi3 hL3 hO3 evy ey ex em hm hs1 hs hsb hd hc' hc dx dy
    go_wp2_with fail
    go_quiet (fail)
    have cx3 : (w2.drewN nq).cell? ⟨bx, ox + i, none⟩ = some (.int .u32 (x : Int)) := (hL.drewN nq).cell i (by omega) |>.trans (by have := hL.cell i (by omega); rw [cx2] at this; rw [← this])
    have fx3 := (hL.drewN nq).fro i (by omega)
    obtain ⟨hst, hhi3, hL3, hO3, hcl⟩ := HH.out
    have HL := Lib.hid (And.intro (hL3 nq) (And.intro (hO3 nq) (And.intro hst (And.intro hhi3 hcl))))
    clear hst hhi3 hL3 hO3 hcl HH hL hO cx2 cy2 fx2
    generalize w2.drewN nq = w3 at cx3 fx3 HL ⊢
    go_wp2_with fail
    exact ⟨⟨i + 1, c', _, by omega, by go_num, rfl, HL.out.2.2.2.2, HL.out.1, HL.out.2.2.1, HL.out.2.2.2.1, HL.out.2.1⟩, by simp [intOf]; omega⟩
  · have hie : i = n := by omega
    have hiz : ¬ (i : Int) < (n : Int) := by omega
    have k7 : IntKind.u32.wrap (c : Int) = (c : Int) := by
      have : (c : Int) % 4294967296 = (c : Int) := by omega
      unfold IntKind.wrap
      simpa [IntKind.bits, IntKind.signed] using this
    have k8 : (c : Int) % 4294967296 = (c : Int) := by omega
    rw [hie] at hv
    have HH := Lib.hid (And.intro hc (And.intro hL (And.intro hv (And.intro hhi hO))))
    clear hc hL hv hhi hO hie
    go_wp2_with fail
    go_ret
    exact ⟨c, rfl, HH.out.1, fo, HH.out.2⟩
end Go.Proofs.YtccbnpondlncpaaGreatDoor
