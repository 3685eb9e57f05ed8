/- The reference's numbers: digits of sixteen bits, without noughts at the end; make, trim. -/
import Derived.Test.YtfbliccblippiaaGreatDoorNyC
namespace Go.Proofs.YtfbliccblippiaaGreatDoor
open Go.RowKit

structure Rn.Lim (w : World) (b off n : Nat) (f : Nat → Nat) : Prop where
  cell : ∀ j, j < n → w.cell? ⟨b, off + j, none⟩ = some (.int .u64 (f j : Int))
  fro : ∀ j, j < n → w.frozen? ⟨b, off + j, none⟩ = false
  dig : ∀ j, f j < 65536
  lt : b < w.heap.size
theorem Rn.Lim.drewN {w : World} {b off n : Nat} {f : Nat → Nat} (h : Rn.Lim w b off n f) (k : Nat) : Rn.Lim (w.drewN k) b off n f := by
  have hc : (w.drewN k).heap = w.heap := by
    clear h
    induction k with
    | zero => rfl
    | succ k ih => exact ih
  exact ⟨fun j hj => by have := h.cell j hj; simp only [World.cell?, hc] at this ⊢; exact this, fun j hj => by have := h.fro j hj; simp only [World.frozen?, hc] at this ⊢; exact this, h.dig, by rw [hc]; exact h.lt⟩
theorem Rn.Lim.set {w : World} {b off n : Nat} {f : Nat → Nat} (h : Rn.Lim w b off n f) (i x : Nat) (hi : i < n) (hx : x < 65536) : Rn.Lim (w.setCell ⟨b, off + i, none⟩ (.int .u64 (x : Int))) b off n (Vl.upd f i x) := by
  refine ⟨fun j hj => ?_, fun j hj => ?_, fun j => ?_, by simpa [World.setCell] using h.lt⟩
  · unfold Vl.upd
    by_cases e : j = i
    · subst e
      rw [if_pos rfl]
      exact World.cell?_setCell_same _ _ _ (h.cell j hj)
    · rw [if_neg e, World.cell?_setCell_other _ _ _ _ (fun c => e (by have : off + i = off + j := congrArg Addr.off c; omega))]
      exact h.cell j hj
  · rw [World.frozen?_setCell]
    exact h.fro j hj
  · unfold Vl.upd
    split
    · exact hx
    · exact h.dig j
theorem Rn.Lim.only {w w' : World} {b off n c o m : Nat} {f : Nat → Nat} (h : Rn.Lim w b off n f) (ho : Nt.Only c o m w w') (hne : b ≠ c) : Rn.Lim w' b off n f := by
  have e := ho.block b h.lt hne
  exact ⟨fun j hj => by have := h.cell j hj; simp only [World.cell?, e] at this ⊢; exact this, fun j hj => by have := h.fro j hj; simp only [World.frozen?, e] at this ⊢; exact this, h.dig, Nat.lt_of_lt_of_le h.lt ho.size⟩
theorem Rn.Lim.below {w w' : World} {b off n B : Nat} {f : Nat → Nat} (h : Rn.Lim w b off n f) (hb : Below B w w') (hB : b < B) : Rn.Lim w' b off n f :=
  ⟨fun j hj => (hb.cell (p := ⟨b, off + j, none⟩) hB).trans (h.cell j hj), fun j hj => (hb.frozen (p := ⟨b, off + j, none⟩) hB).trans (h.fro j hj), h.dig, Nat.lt_of_lt_of_le h.lt hb.size⟩
theorem Rn.Lim.ofRow {w : World} {b n : Nat} {T : TypeId} {l : List Value} {f : Nat → Nat} (h : w.heap[b]? = some (.cells l.toArray T (0, 0))) (hl : ∀ j, j < n → l[j]? = some (.int .u64 (f j : Int))) (hf : ∀ j, f j < 65536) : Rn.Lim w b 0 n f := by
  have hb : b < w.heap.size := (Array.getElem?_eq_some_iff.1 h).1
  have h' : w.heap[b]? = some (.cells l.toArray T (0, 0)) := h
  refine ⟨fun j hj => ?_, fun j _ => ?_, hf, hb⟩
  · simp only [World.cell?, h', Nat.zero_add]
    simpa using hl j hj
  · simp [World.frozen?, h']
theorem Rn.info64 : (Tryz.prog.info? 67).map (fun i => (i.zero, i.size, i.bytes)) = some (some (.int .u64 0), 1, 8) := by kernel_rfl
theorem Rn.made (c : Nat) : madeCells (Value.int .u64 0).cells (c * 1) = (List.replicate c (Value.int .u64 0)).toArray := by
  apply Array.ext_getElem?
  intro j
  by_cases hj : j < c
  · simp [madeCells, Value.cells, hj, Nat.mod_one]
  · rw [Array.getElem?_eq_none (by rw [size_madeCells]; omega), Array.getElem?_eq_none (by simp; omega)]
theorem Rn.wpList_makeW {w : World} {ops : Array Oper} {rest : List Oper} {o : Oper} {a : Act} {Q : Exit → Act → World → Prop} (hg : o.guard = none) (l c : Operand) (hop : o.op = Op.makeSlice 64 l c) (C : Nat)
    (hl : a.eval l = .int .i64 (C : Int)) (hc : a.eval c = .int .i64 (C : Int)) (hC : C ≤ 10000000)
    (hK : wpList Tryz.prog ops Q rest (a.put o.dst (.slice (some ⟨w.heap.size, 0, none⟩) C C)) (w.alloc (.cells (List.replicate C (Value.int .u64 0)).toArray 67))) : wpList Tryz.prog ops Q (o :: rest) a w := by
  obtain ⟨i0, hi, hz0, hz1, hz2⟩ := info_parts Rn.info64
  have hr := run_make (P := Tryz.prog) w 64 67 i0 (.int .u64 0) Tryz.underlying64 hi hz0 .i64 .i64 (C : Int) (C : Int) (by omega) (by omega) (by rw [hz2]; omega) (by omega)
  rw [hz1] at hr
  simp only [Int.toNat_natCast] at hr
  rw [Rn.made] at hr
  refine wpList_plain hg fun K hK2 => ?_
  unfold Oper.wp
  simp [execOp, hop, hl, hc, hr, Result.andThen]
  exact hK2 _ _ hK
theorem Rn.wpList_make {w : World} {ops : Array Oper} {rest : List Oper} {o : Oper} {a : Act} {Q : Exit → Act → World → Prop} (hg : o.guard = none) (l c : Operand) (hop : o.op = Op.makeSlice 64 l c) (C : Nat)
    (hl : a.eval l = .int .i64 (C : Int)) (hc : a.eval c = .int .i64 (C : Int)) (hC : C ≤ 1000000)
    (hK : wpList Tryz.prog ops Q rest (a.put o.dst (.slice (some ⟨w.heap.size, 0, none⟩) C C)) (w.alloc (.cells (List.replicate C (Value.int .u64 0)).toArray 67))) : wpList Tryz.prog ops Q (o :: rest) a w :=
  Rn.wpList_makeW hg l c hop C hl hc (by omega) hK
theorem Rn.Lim.top {w : World} {b off n : Nat} {f : Nat → Nat} (h : Rn.Lim w b off n f) (m : Nat) (hm : m ≤ n) : Rn.Lim w b off m f := ⟨fun j hj => h.cell j (by omega), fun j hj => h.fro j (by omega), h.dig, h.lt⟩

/-- The slice of n limbs at ax is the number x: least first, the last one not 0. -/
structure Rn.Num (w : World) (ax : Option Addr) (n cx x : Nat) : Prop where
  cap : n ≤ cx
  ex : ∃ b off f, (0 < n → ax = some ⟨b, off, none⟩ ∧ Rn.Lim w b off n f) ∧ (∀ j, f j < 65536) ∧ Vl.val 65536 f n = x ∧ (n = 0 ∨ f (n - 1) ≠ 0)
theorem Rn.Num.nil (w : World) : Rn.Num w none 0 0 0 := ⟨Nat.le_refl _, 0, 0, fun _ => 0, fun h => absurd h (Nat.lt_irrefl 0), fun _ => (show (0 : Nat) < 65536 by decide), rfl, .inl rfl⟩
theorem Rn.Num.below {w w' : World} {ax : Option Addr} {n cx x : Nat} (h : Rn.Num w ax n cx x) (hb : Below w.heap.size w w') : Rn.Num w' ax n cx x := by
  obtain ⟨hc, b, off, f, h1, h2, h3, h4⟩ := h
  exact ⟨hc, b, off, f, fun h0 => ⟨(h1 h0).1, (h1 h0).2.below hb (h1 h0).2.lt⟩, h2, h3, h4⟩
theorem Rn.Num.drewN {w : World} {ax : Option Addr} {n cx x : Nat} (h : Rn.Num w ax n cx x) (k : Nat) : Rn.Num (w.drewN k) ax n cx x := h.below (below_drewN (Below.refl _ _) k)
theorem Rn.Num.zero {w : World} {ax : Option Addr} {n cx x : Nat} (h : Rn.Num w ax n cx x) : n = 0 ↔ x = 0 := by
  obtain ⟨_, b, off, f, _, h2, h3, h4⟩ := h
  constructor
  · rintro rfl
    rw [← h3]
    rfl
  · intro hx
    rcases h4 with h | h
    · exact h
    · rcases Nat.eq_zero_or_pos n with h0 | h0
      · exact h0
      · exfalso
        obtain ⟨m, rfl⟩ : ∃ m, n = m + 1 := ⟨n - 1, by omega⟩
        rw [hx] at h3
        unfold Vl.val at h3
        have : f m * 65536 ^ m = 0 := by omega
        rcases Nat.mul_eq_zero.1 this with h5 | h5
        · exact h h5
        · have := Nat.pow_pos (n := m) (show 0 < 65536 by decide)
          omega
/-- A number below B^m has m limbs at most. -/
theorem Rn.Num.len {w : World} {ax : Option Addr} {n cx x : Nat} (h : Rn.Num w ax n cx x) (m : Nat) (hx : x < 65536 ^ m) : n ≤ m := by
  obtain ⟨_, b, off, f, _, h2, h3, h4⟩ := h
  rcases h4 with rfl | h4
  · omega
  · rcases Nat.lt_or_ge m n with h0 | h0
    · exfalso
      obtain ⟨k, rfl⟩ : ∃ k, n = k + 1 := ⟨n - 1, by omega⟩
      unfold Vl.val at h3
      have h5 : 1 ≤ f k := Nat.pos_of_ne_zero h4
      have h6 : 65536 ^ k ≤ f k * 65536 ^ k := Nat.le_mul_of_pos_left _ h5
      have h7 : 65536 ^ m ≤ 65536 ^ k := Nat.pow_le_pow_right (by decide) (by omega)
      omega
    · exact h0
theorem Rn.Num.lt {w : World} {ax : Option Addr} {n cx x : Nat} (h : Rn.Num w ax n cx x) : x < 65536 ^ n := by
  obtain ⟨_, b, off, f, _, h2, h3, h4⟩ := h
  rw [← h3]
  exact Vl.val_lt _ (by decide) f n (fun j _ => h2 j)
theorem Rn.Num.mono {w : World} {ax ay : Option Addr} {n cx x m cy y : Nat} (h : Rn.Num w ax n cx x) (g : Rn.Num w ay m cy y) (hxy : x ≤ y) : n ≤ m := h.len m (Nat.lt_of_le_of_lt hxy g.lt)
/-- What trimmed leaves of a block. -/
theorem Rn.Num.of {w : World} {b off N m c : Nat} {f : Nat → Nat} (h : Rn.Lim w b off N f) (hm : m ≤ N) (hc : m ≤ c) (hz : ∀ j, m ≤ j → j < N → f j = 0) (ht : m = 0 ∨ f (m - 1) ≠ 0) : Rn.Num w (some ⟨b, off, none⟩) m c (Vl.val 65536 f N) :=
  ⟨hc, b, off, f, fun _ => ⟨rfl, h.top m hm⟩, h.dig, (Vl.val_high _ f m N hm hz).symm, ht⟩
set_option maxHeartbeats 1000000 in
set_option maxRecDepth 100000 in
theorem Rn.trimmed_anyW (w : World) (b o n c : Nat) (f : Nat → Nat) (hx : Rn.Lim w b o n f) (hc : n ≤ c) (hn : c ≤ 10000000) :
    Calls Tryz.prog 68 #[.slice (some ⟨b, o, none⟩) n c] w fun e w' => w' = w ∧ ∃ m, e = .returned (.slice (some ⟨b, o, none⟩) m c) ∧ m ≤ n ∧ (∀ j, m ≤ j → j < n → f j = 0) ∧ (m = 0 ∨ f (m - 1) ≠ 0) := by
  go_enter Tryz.func68, Tryz.ntmps68
  go_wp2_with fail
  go_loop [0] (fun v => ∃ (m : Nat), m ≤ n ∧ v = .slice (some ⟨b, o, none⟩) m c ∧ ∀ j, m ≤ j → j < n → f j = 0) (fun v => match v with | .slice _ m _ => m | _ => 0)
  case atStart => exact ⟨n, Nat.le_refl _, rfl, fun j h1 h2 => by omega⟩
  case round =>
  obtain ⟨m, hm, rfl, hz⟩ := hrel
  by_cases hm0 : m = 0
  · subst hm0
    have HZ := Lib.hid hz
    clear hz
    go_wp2_with fail
    go_ret
    exact ⟨rfl, 0, rfl, Nat.zero_le _, HZ.out, .inl rfl⟩
  · obtain ⟨a, rfl⟩ : ∃ a, m = a + 1 := ⟨m - 1, by omega⟩
    have hmz : (0 : Int) < ((a + 1 : Nat) : Int) := by omega
    have ca := hx.cell a (by omega)
    have ea : ((a + 1 : Nat) : Int) - 1 = (a : Int) := by omega
    have ea0 : 0 ≤ (a : Int) := by omega
    have eal : (a : Int) < ((a + 1 : Nat) : Int) := by omega
    have eac : (a : Int) ≤ (c : Int) := by omega
    obtain ⟨x, ex⟩ : ∃ x, f a = x := ⟨_, rfl⟩
    rw [ex] at ca
    have HZ := Lib.hid (And.intro hz ex)
    obtain ⟨m1, hm1⟩ : ∃ m1, a + 1 = m1 := ⟨_, rfl⟩
    rw [hm1] at hmz ea eal hm ⊢
    have haw : wrap64 (a : Int) = (a : Int) := by unfold wrap64; omega
    have HM := Lib.hid hm1
    clear hz ex hm1 hm0
    by_cases hx0 : x = 0
    · subst hx0
      go_wp2_with fail
      refine ⟨⟨a, by have := HM.out; omega, rfl, fun j h1 h2 => ?_⟩, by have := HM.out; show a < m1; omega⟩
      by_cases hj : j = a
      · rw [hj]; exact HZ.out.2
      · exact HZ.out.1 j (by omega) h2
    · have hx0z : ((x : Int) == 0) = false := by rw [beq_eq_false_iff_ne]; omega
      go_wp2_with fail
      go_ret
      exact ⟨rfl, m1, rfl, hm, (by rw [← HM.out]; exact HZ.out.1), .inr (by rw [← HM.out]; show f a ≠ 0; rw [HZ.out.2]; exact hx0)⟩
theorem Rn.trimmed_any (w : World) (b o n c : Nat) (f : Nat → Nat) (hx : Rn.Lim w b o n f) (hc : n ≤ c) (hn : c ≤ 1000000) :
    Calls Tryz.prog 68 #[.slice (some ⟨b, o, none⟩) n c] w fun e w' => w' = w ∧ ∃ m, e = .returned (.slice (some ⟨b, o, none⟩) m c) ∧ m ≤ n ∧ (∀ j, m ≤ j → j < n → f j = 0) ∧ (m = 0 ∨ f (m - 1) ≠ 0) :=
  Rn.trimmed_anyW w b o n c f hx hc (by omega)
theorem Rn.Num.mono2 {w w2 : World} {ax ay : Option Addr} {n cx x m cy y : Nat} (h : Rn.Num w ax n cx x) (g : Rn.Num w2 ay m cy y) (hxy : x ≤ y) : n ≤ m := h.len m (Nat.lt_of_le_of_lt hxy g.lt)
theorem Rn.Num.bytes {w : World} {ax : Option Addr} {n cx x : Nat} (h : Rn.Num w ax n cx x) (k b : Nat) (hx : x < 256 ^ b) (hb : b ≤ 2 * k) : n ≤ k := h.len k (by
  have h2 : 256 ^ b ≤ 256 ^ (2 * k) := Nat.pow_le_pow_right (by decide) hb
  rw [Nat.pow_mul] at h2
  exact Nat.lt_of_lt_of_le hx h2)
end Go.Proofs.YtfbliccblippiaaGreatDoor
