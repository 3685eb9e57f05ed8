/- The reference's bytes of a word, the greatest first: bytes. -/
import Derived.Test.YtelfhdihkeafnaaRfC
namespace Go.Proofs.Ytelfhdihkeafnaa
section
open Go.RowKit

def Rf.at8 (v b : Nat) : UInt8 := if 7 < b then 0 else UInt8.ofNat (v / 2 ^ (8 * b) % 256)
def Rf.be (v : Nat) : Nat → List UInt8
  | 0 => []
  | n + 1 => Rf.at8 v n :: Rf.be v n
theorem Rf.be_len (v : Nat) : ∀ n, (Rf.be v n).length = n
  | 0 => rfl
  | n + 1 => by rw [Rf.be, List.length_cons, Rf.be_len]
theorem Rf.Own.empty (w : World) (B : Nat) (hB : B ≤ w.heap.size) : Tx.Own (w.alloc (.cells #[] 5)) B (.slice (some ⟨w.heap.size, 0, none⟩) 0 0) [] :=
  ⟨rfl, .inr ⟨w.heap.size, 0, #[], rfl, hB, heap_alloc_new _ _, Nat.le_refl _, by decide, rfl, rfl⟩⟩
set_option maxHeartbeats 400000 in
set_option maxRecDepth 100000 in
theorem Rf.bytes_any (w : World) (v n : Nat) (hv : v < 18446744073709551616) (hn : n ≤ 1000) :
    Calls Try.prog 26 #[.int .u64 (v : Int), .int .i64 (n : Int)] w fun e w' => ∃ x, e = .returned x ∧ Tx.Own w' w.heap.size x (Rf.be v n) ∧ Below w.heap.size w w' := by
  go_enter Try.func26, Try.ntmps26
  go_wp2_with fail
  have hO := Rf.Own.empty w w.heap.size (Nat.le_refl _)
  have hB : Below w.heap.size w (w.alloc (.cells #[] 5)) := (Below.refl _ _).alloc (Nat.le_refl _) _
  obtain ⟨x0, hx0⟩ : ∃ x0, Value.slice (some ⟨w.heap.size, 0, none⟩) 0 0 = x0 := ⟨_, rfl⟩
  rw [hx0] at hO ⊢
  clear hx0
  generalize w.alloc (.cells #[] 5) = w1 at hO hB ⊢
  go_loopw [5, 6] (fun xv iv wr => ∃ (m : Nat) (z : Int) (l : List UInt8), m ≤ n ∧ iv = .int .i64 z ∧ z = (m : Int) - 1 ∧ Tx.Own wr w.heap.size xv l ∧ l ++ Rf.be v m = Rf.be v n ∧ Below w.heap.size w wr) (fun _ iv _ => (intOf iv + 1).toNat)
  case atStart => exact ⟨n, (n : Int) - 1, [], Nat.le_refl _, by first | rfl | (congr 1), rfl, hO, rfl, hB⟩
  case round =>
  clear hO hB
  obtain ⟨m, z, l, hm, rfl, hz, hO, hl, hB⟩ := hrel
  by_cases hm0 : m = 0
  · subst hm0
    have hz0 : ¬ 0 ≤ z := by omega
    rw [Rf.be, List.append_nil] at hl
    subst hl
    clear hz
    go_wp2_with fail
    go_ret
    exact ⟨_, rfl, hO, hB⟩
  · obtain ⟨b, rfl⟩ : ∃ b, m = b + 1 := ⟨m - 1, by omega⟩
    have hzb : z = (b : Int) := by omega
    subst hzb
    have hb0 : 0 ≤ (b : Int) := by omega
    have hlen : l.length ≤ 1000 := by
      have := congrArg List.length hl
      rw [List.length_append, Rf.be_len, Rf.be_len] at this
      omega
    have hnx : ∀ c, c = Rf.at8 v b → (l ++ [c]) ++ Rf.be v b = Rf.be v n := by
      rintro c rfl
      rw [List.append_assoc]
      exact hl
    have HL := Lib.hid hnx
    have hsz := hB.size
    clear hz hm0 hl hnx
    by_cases h7 : 7 < b
    · have h7z : 7 < (b : Int) := by omega
      have h8 := HL.out 0 (by unfold Rf.at8; rw [if_pos h7])
      have H8 := Lib.hid h8
      clear h8 h7
      go_wp2_with (at_builtin; refine Tx.append rfl _ _ rfl w.heap.size _ _ rfl (Tx.Own.alloc hO _) ⟨_, 0, none⟩ 1 [0] rfl (World.news_of_block (heap_alloc_new _ _)) (by simp; omega) (by simp; omega) ?_; intro v1 w1 hown1 hb1 hz1)
      exact ⟨⟨b, (b : Int) - 1, _, by omega, rfl, rfl, hown1, H8.out, (hB.alloc hsz _).trans hb1⟩, by simp [intOf]⟩
    · have h7z : ¬ 7 < (b : Int) := by omega
      have hw8 : wrap64 (8 * (b : Int)) = ((8 * b : Nat) : Int) := by unfold wrap64; omega
      have h8 := HL.out (UInt8.ofNat (v / 2 ^ (8 * b) % 256)) (by unfold Rf.at8; rw [if_neg h7])
      obtain ⟨y, hy⟩ : ∃ y, v / 2 ^ (8 * b) = y := ⟨_, rfl⟩
      have hyb : y < 18446744073709551616 := by rw [← hy]; exact Nat.lt_of_le_of_lt (Nat.div_le_self _ _) hv
      have hdiv : (v : Int) / 2 ^ (8 * b) = (y : Int) := by
        have h2 : ((2 : Int) ^ (8 * b)) = ((2 ^ (8 * b) : Nat) : Int) := by simp
        rw [h2, ← hy]
        exact (Int.natCast_ediv _ _).symm
      rw [hy] at h8
      obtain ⟨c, hc⟩ : ∃ c, UInt8.ofNat (y % 256) = c := ⟨_, rfl⟩
      rw [hc] at h8
      have hcn : y % 256 = c.toNat := by rw [← hc, UInt8.toNat_ofNat']; omega
      have hand : bits .and .u64 (y : Int) 255 = (c.toNat : Int) := by
        have := u64_and_nat y 255 hyb (by decide)
        rw [show y &&& 255 = y % 256 from Nat.and_two_pow_sub_one_eq_mod y 8, hcn] at this
        exact this
      have hmod : (c.toNat : Int) % 256 = (c.toNat : Int) := by have := c.toNat_lt; omega
      have H8 := Lib.hid h8
      clear h8 h7 hy hc hcn
      go_wp2_with (at_builtin; refine Tx.append rfl _ _ rfl w.heap.size _ _ rfl (Tx.Own.alloc hO _) ⟨_, 0, none⟩ 1 [c] rfl (World.news_of_block (heap_alloc_new _ _)) (by simp; omega) (by simp; omega) ?_; intro v1 w1 hown1 hb1 hz1)
      exact ⟨⟨b, (b : Int) - 1, _, by omega, rfl, rfl, hown1, H8.out, (hB.alloc hsz _).trans hb1⟩, by simp [intOf]⟩
end
section
open Go.RowKit

/-- The primes below m + 2. -/
def Rf.sv : Nat → List Nat
  | 0 => []
  | m + 1 => if (Rf.sv m).all (fun p => (m + 2) % p != 0) then Rf.sv m ++ [m + 2] else Rf.sv m
def Rf.ps : List Nat := [2, 3, 5, 7, 11, 13, 17, 19, 23, 29, 31, 37, 41, 43, 47, 53, 59, 61, 67, 71, 73, 79, 83, 89, 97, 101, 103, 107, 109, 113, 127, 131, 137, 139, 149, 151, 157, 163, 167, 173, 179, 181, 191, 193, 197, 199, 211, 223, 227, 229, 233, 239, 241, 251, 257, 263, 269, 271, 277, 281, 283, 293, 307, 311, 313, 317, 331, 337, 347, 349, 353, 359, 367, 373, 379, 383, 389, 397, 401, 409]
theorem Rf.sv_ps : Rf.sv 408 = Rf.ps := by kernel_rfl
theorem Rf.root_one (X k r s : Nat) (hr : r ^ k ≤ X) (hr2 : X < (r + 1) ^ k) (hs : s ^ k ≤ X) (hs2 : X < (s + 1) ^ k) : r = s := by
  rcases Nat.lt_trichotomy r s with h | h | h
  · have := Nat.pow_le_pow_left (show r + 1 ≤ s by omega) k
    omega
  · exact h
  · have := Nat.pow_le_pow_left (show s + 1 ≤ r by omega) k
    omega
/-- c digits K of the k-th root of p, behind some whole number. -/
def Rf.ok (k c p K : Nat) : Bool := decide (K < 65536 ^ c) && (List.range 24).any fun a => decide ((a * 65536 ^ c + K) ^ k ≤ p * 65536 ^ (k * c)) && decide (p * 65536 ^ (k * c) < (a * 65536 ^ c + K + 1) ^ k)
theorem Rf.ok_root (k c p K r : Nat) (h : Rf.ok k c p K = true) (hr : r ^ k ≤ p * 65536 ^ (k * c)) (hr2 : p * 65536 ^ (k * c) < (r + 1) ^ k) : r % 65536 ^ c = K := by
  unfold Rf.ok at h
  rw [Bool.and_eq_true, decide_eq_true_iff, List.any_eq_true] at h
  obtain ⟨hK, a, _, ha⟩ := h
  rw [Bool.and_eq_true, decide_eq_true_iff, decide_eq_true_iff] at ha
  rw [Rf.root_one _ k r _ hr hr2 ha.1 ha.2, Nat.mul_add_mod_self_right, Nat.mod_eq_of_lt hK]
theorem Rf.ok_k1 : (List.range 80).all (fun i => Rf.ok 3 4 (Rf.ps.getD i 0) (Hs.rk.getD i 0)) = true := by kernel_rfl
theorem Rf.ok_k0 : (List.range 64).all (fun i => Rf.ok 3 2 (Rf.ps.getD i 0) (Hs.rk.getD i 0 / 2 ^ 32)) = true := by kernel_rfl
theorem Rf.ok_h1 : (List.range 8).all (fun i => Rf.ok 2 4 (Rf.ps.getD (8 + i) 0) ((Hs.first 1).get i)) = true := by kernel_rfl
theorem Rf.ok_h0 : (List.range 8).all (fun i => Rf.ok 2 2 (Rf.ps.getD i 0) ((Hs.first 0).get i)) = true := by kernel_rfl
/-- Root of the i-th prime, for each of the four tables. -/
theorem Rf.root_ps (w : World) (i k c K : Nat) (hi : i < 80) (hk0 : 2 ≤ k) (hk3 : k ≤ 3) (hc0 : 2 ≤ c) (hc4 : c ≤ 4) (h : Rf.ok k c (Rf.ps.getD i 0) K = true) :
    Calls Try.prog 25 #[.int .u64 (Rf.ps.getD i 0 : Nat), .int .i64 (k : Int), .int .i64 ((16 * c : Nat) : Int)] w fun e w' => e = .returned (.int .u64 (K : Int)) ∧ Below w.heap.size w w' := by
  have hp : Rf.ps.getD i 0 < 65536 := by
    have h0 : (List.range 80).all (fun i => decide (Rf.ps.getD i 0 < 65536)) = true := by kernel_rfl
    have h1 := List.all_eq_true.1 h0 i (List.mem_range.2 hi)
    exact of_decide_eq_true h1
  refine Calls.mono (Rf.root_any w _ k c hp hk0 hk3 hc0 hc4 ?_) ?_
  · have : k * c ≤ k * 4 := Nat.mul_le_mul_left _ hc4
    omega
  · rintro e w' ⟨r, rfl, h1, h2, hB⟩
    rw [Rf.ok_root k c _ K r h h1 h2]
    exact ⟨rfl, hB⟩
end
section
open Go.RowKit

def Rf.qv (n : Nat) : Value := .int .u64 (n : Int)
/-- Slice value v holds the numbers l in a row of the call's own, from block B on. -/
def Rf.OwnQ (w : World) (B : Nat) (v : Value) (l : List Nat) : Prop := w.ownsRow B 48 1 v l.length (l.map Rf.qv)
theorem Rf.OwnQ.empty (w : World) (B : Nat) (hB : B ≤ w.heap.size) : Rf.OwnQ (w.alloc (.cells #[] 48)) B (.slice (some ⟨w.heap.size, 0, none⟩) 0 0) [] :=
  ⟨rfl, .inr ⟨w.heap.size, 0, #[], rfl, hB, heap_alloc_new _ _, Nat.le_refl _, by decide, rfl, rfl⟩⟩
theorem Rf.OwnQ.alloc {w : World} {B : Nat} {v : Value} {l : List Nat} (h : Rf.OwnQ w B v l) (o : Obj) : Rf.OwnQ (w.alloc o) B v l := World.ownsRow.alloc h o
theorem Rf.OwnQ.at {w : World} {B : Nat} {v : Value} {l : List Nat} (h : Rf.OwnQ w B v l) (hl : 0 < l.length) : ∃ g cap, v = .slice (some ⟨g, 0, none⟩) l.length cap ∧ B ≤ g := by
  rcases h.2 with ⟨_, hn⟩ | ⟨g, cap, cur, rfl, hg, _⟩
  · omega
  · exact ⟨g, cap, rfl, hg⟩
theorem Rf.OwnQ.cell {w : World} {B g n cap : Nat} {l : List Nat} (h : Rf.OwnQ w B (.slice (some ⟨g, 0, none⟩) n cap) l) : Rf.Dig w g l.length (fun j => l.getD j 0) ∨ l = [] := by
  rcases h.2 with ⟨hv, _⟩ | ⟨g', cap', cur, hv, hg, hgg, hle, _, hsz, hcur⟩
  · simp at hv
  · left
    simp only [Value.slice.injEq, Option.some.injEq, Addr.mk.injEq] at hv
    obtain ⟨⟨rfl, _⟩, _, _⟩ := hv
    refine ⟨fun j hj => ?_, (Array.getElem?_eq_some_iff.1 hgg).1⟩
    simp only [World.cell?, hgg]
    have h1 : (cur.toList.take (l.length * 1))[j]? = (l.map Rf.qv)[j]? := by rw [hcur]
    rw [List.getElem?_take, if_pos (by omega), List.getElem?_map, List.getElem?_eq_getElem hj] at h1
    simp only [Array.getElem?_toList] at h1
    rw [h1]
    simp [Rf.qv, hj]
section
variable {w : World} {ops : Array Oper} {rest : List Oper} {o : Oper} {a : Act} {Q : Exit → Act → World → Prop}
theorem Rf.appendQ (hg : o.guard = none) (s x : Operand) (hop : o.op = .call { callee := .builtin .append, args := #[s, x], argTypes := #[32, 32] }) (B : Nat) (v : Value) (l : List Nat) (hs : a.eval s = v) (hown : Rf.OwnQ w B v l)
    (ad : Addr) (c : Nat) (bs : List Nat) (hx : a.eval x = .slice (some ad) bs.length c) (hnew : ∀ j u, (bs.map Rf.qv)[j]? = some u → w.cell? (ad.add j) = some u) (hlen : l.length + bs.length ≤ 1000000) (hB : B ≤ w.heap.size)
    (hK : ∀ v' w', Rf.OwnQ w' B v' (l ++ bs) → Below B w w' → B ≤ w'.heap.size → wpList Try.prog ops Q rest (a.put o.dst v') w') : wpList Try.prog ops Q (o :: rest) a w := by
  obtain ⟨i0, hi, hz0, hz1, hz2⟩ := info_parts Rf.info64
  refine wpList_append_own w hg s x 32 hop B 48 i0 (.int .u64 0) 1 8 Try.underlying32 hi hz0 hz1 hz2 rfl (by decide) v l.length (l.map Rf.qv) hs hown ad bs.length c (bs.map Rf.qv) hx (by simp) hnew (by intro u hu; obtain ⟨b, _, rfl⟩ := List.mem_map.1 hu; rfl) (by unfold maxLen; omega) (by omega) hB ?_
  intro v' w' h1 h2 _
  refine hK v' w' ?_ ((Below.refl _ _).grown h2 hB fun k hk => (World.ownsRow.lt hown k hk).1) (Nat.le_trans hB h2.size)
  simpa [Rf.OwnQ] using h1
end
theorem Rf.sv_two : ∀ m p, p ∈ Rf.sv m → 2 ≤ p ∧ p < 1000 + m
  | 0, p, h => by simp [Rf.sv] at h
  | m + 1, p, h => by
    rw [Rf.sv] at h
    split at h
    · rcases List.mem_append.1 h with h | h
      · have := Rf.sv_two m p h; omega
      · simp at h; omega
    · have := Rf.sv_two m p h; omega
theorem Rf.sv_pre : ∀ d m, Rf.sv m <+: Rf.sv (m + d)
  | 0, m => List.prefix_refl _
  | d + 1, m => by
    refine (Rf.sv_pre d m).trans ?_
    rw [← Nat.add_assoc, Rf.sv]
    split
    · exact List.prefix_append _ _
    · exact List.prefix_refl _
theorem Rf.sv_len (m : Nat) (h : m ≤ 408) : (Rf.sv m).length ≤ 80 := by
  have := (Rf.sv_pre (408 - m) m).length_le
  rw [show m + (408 - m) = 408 by omega, Rf.sv_ps] at this
  exact this
theorem Rf.sv_full (m : Nat) (h : m ≤ 408) (hl : 80 ≤ (Rf.sv m).length) : Rf.sv m = Rf.ps := by
  have := Rf.sv_pre (408 - m) m
  rw [show m + (408 - m) = 408 by omega, Rf.sv_ps] at this
  exact this.eq_of_length_le hl
end
end Go.Proofs.Ytelfhdihkeafnaa
