/- limbs as a list of cells, and as a row of a new block. -/
import Derived.Test.YtjlmcffbjikogaaGreatDoorNtK
import Derived.Deep.Cut
namespace Go.Proofs.YtjlmcffbjikogaaGreatDoor
open Go.RowKit
theorem Nt.Lim.below {w w' : World} {b off n B : Nat} {f : Nat → Nat} (h : Nt.Lim w b off n f) (hb : Below B w w') (hB : b < B) : Nt.Lim w' b off n f :=
  ⟨fun j hj => (hb.cell (p := ⟨b, off + j, none⟩) hB).trans (h.cell j hj), fun j hj => (hb.frozen (p := ⟨b, off + j, none⟩) hB).trans (h.fro j hj), h.dig, Nat.lt_of_lt_of_le h.lt hb.size⟩
/-- The n limbs as cells. -/
def Nt.cells (f : Nat → Nat) (n : Nat) : List Value := (List.range n).map fun j => .int .u32 (f j : Int)
theorem Nt.cells_len (f : Nat → Nat) (n : Nat) : (Nt.cells f n).length = n := by simp [Nt.cells]
theorem Nt.cells_get (f : Nat → Nat) (n j : Nat) (hj : j < n) : (Nt.cells f n)[j]? = some (.int .u32 (f j : Int)) := by simp [Nt.cells, hj]
theorem Nt.cells_some {f : Nat → Nat} {n j : Nat} {v : Value} (h : (Nt.cells f n)[j]? = some v) : j < n ∧ v = .int .u32 (f j : Int) := by
  have hj : j < n := by
    have := (List.getElem?_eq_some_iff.1 h).1
    rwa [Nt.cells_len] at this
  rw [Nt.cells_get f n j hj] at h
  exact ⟨hj, (Option.some.inj h).symm⟩
theorem Nt.Lim.ofRow {w : World} {b n : Nat} {T : TypeId} {l : List Value} {f : Nat → Nat} (h : w.heap[b]? = some (.cells l.toArray T (0, 0))) (hl : ∀ j, j < n → l[j]? = some (.int .u32 (f j : Int))) (hf : ∀ j, f j < 4294967296) : Nt.Lim w b 0 n f := by
  have hb : b < w.heap.size := (Array.getElem?_eq_some_iff.1 h).1
  have h' : w.heap[b]? = some (.cells l.toArray T (0, 0)) := h
  refine ⟨fun j hj => ?_, fun j _ => ?_, hf, hb⟩
  · simp only [World.cell?, h', Nat.zero_add]
    simpa using hl j hj
  · simp [World.frozen?, h']
theorem Nt.spliced (f : Nat → Nat) (n m j : Nat) (hj : j < m) : (splice (List.replicate m (Value.int .u32 0)) 0 (Nt.cells f n))[j]? = some (.int .u32 (((if j < n then f j else 0 : Nat)) : Int)) := by
  unfold splice
  rw [List.take_zero, List.nil_append, Nt.cells_len, Nat.zero_add]
  by_cases h : j < n
  · rw [List.getElem?_append_left (by rw [Nt.cells_len]; exact h), Nt.cells_get f n j h, if_pos h]
  · rw [List.getElem?_append_right (by rw [Nt.cells_len]; omega), Nt.cells_len, List.getElem?_drop, if_neg h]
    rw [List.getElem?_replicate, if_pos (by omega)]
    rfl
/-- copy(wide, x): wide a new block of noughts. -/
theorem Nt.wpList_copy {w w1 : World} {ops : Array Oper} {rest : List Oper} {o : Oper} {a : Act} {Q : Exit → Act → World → Prop} (hgd : o.guard = none) (d s : Operand)
    (ho : o.op = .call { callee := .builtin .copy, args := #[d, s], argTypes := #[57, 57] }) (ax : Option Addr) (bx ox n cx m : Nat) (fx : Nat → Nat)
    (hd : a.eval d = .slice (some ⟨w.heap.size, 0, none⟩) m m) (hs : a.eval s = .slice ax n cx) (hnm : n ≤ m)
    (hg : w1.heap[w.heap.size]? = some (.cells (List.replicate m (Value.int .u32 0)).toArray 75 (0, 0))) (hb : Below w.heap.size w w1) (hx : 0 < n → ax = some ⟨bx, ox, none⟩ ∧ Nt.Lim w bx ox n fx)
    (h : ∀ w', Hid (w'.heap[w.heap.size]? = some (.cells (splice (List.replicate m (Value.int .u32 0)) 0 (Nt.cells fx n)).toArray 75 (0, 0))) → Below w.heap.size w w' → wpList Tryz.prog ops Q rest (a.put o.dst (goInt n)) w') : wpList Tryz.prog ops Q (o :: rest) a w1 := by
  have hl := Nt.cells_len fx n
  have k := @wpList_copy_splice Tryz.prog w1 ops rest o a Q hgd d s 57 57 ho 75 Tryz.underlying57 (by kernel_rfl) (some ⟨w.heap.size, 0, none⟩) ax m m n cx hd hs w.heap.size 0 (List.replicate m (Value.int .u32 0)) 75 hg (Nt.cells fx n) (by rw [hl]; exact (Nat.min_eq_left hnm).symm)
    (fun h0 => ⟨rfl, ⟨bx, ox, none⟩, (hx (by rw [hl] at h0; exact h0)).1, fun j v hv => by
      obtain ⟨hj, rfl⟩ := Nt.cells_some hv
      have hL := (hx (by omega)).2
      have hc := (hL.below hb hL.lt).cell j hj
      have ha : Addr.add ⟨bx, ox, none⟩ j = ⟨bx, ox + j, none⟩ := by
        unfold Addr.add
        split
        · rename_i h0
          rw [h0]
          rfl
        · rfl
      rw [ha]
      exact hc⟩)
    (by rw [hl, List.length_replicate]; omega) (fun v hv => by
      obtain ⟨x, _, rfl⟩ := List.mem_map.1 hv
      rfl) w.heap.size w hb (Nat.le_refl _)
  rw [hl] at k
  exact k h
end Go.Proofs.YtjlmcffbjikogaaGreatDoor
