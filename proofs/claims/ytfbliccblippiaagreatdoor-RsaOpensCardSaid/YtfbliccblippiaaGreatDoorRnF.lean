/- The reference: digits that a call owns (append), digits of numbers, trim; Plus. -/
import Derived.Test.YtfbliccblippiaaGreatDoorRnE
namespace Go.Proofs.YtfbliccblippiaaGreatDoor
open Go.RowKit

def Rn.lv (x : Nat) : Value := .int .u64 (x : Int)
/-- Slice value v holds the digits l in a row of the call's own, from block B on. -/
def Rn.Own (w : World) (B : Nat) (v : Value) (l : List Nat) : Prop := w.ownsRow B 67 1 v l.length (l.map Rn.lv)
theorem Rn.Own.below {w w' : World} {B B' : Nat} {v : Value} {l : List Nat} (h : Rn.Own w B v l) (hb : Below B' w w') (hB : w.heap.size ≤ B') : Rn.Own w' B v l := by
  refine ⟨h.1, ?_⟩
  rcases h.2 with hn | ⟨g, cap, cur, rfl, hg, hgg, rest⟩
  · exact .inl hn
  · refine .inr ⟨g, cap, cur, rfl, hg, ?_, rest⟩
    rw [hb.block g (Nat.lt_of_lt_of_le (Array.getElem?_eq_some_iff.1 hgg).1 hB)]
    exact hgg
theorem Rn.Own.drew {w : World} {B : Nat} {v : Value} {l : List Nat} (h : Rn.Own w B v l) : Rn.Own w.drew B v l := h
theorem Rn.Own.drewN {w : World} {B : Nat} {v : Value} {l : List Nat} (h : Rn.Own w B v l) : ∀ n, Rn.Own (w.drewN n) B v l
  | 0 => h
  | n + 1 => (Rn.Own.drewN h n).drew
theorem Rn.Own.alloc {w : World} {B : Nat} {v : Value} {l : List Nat} (h : Rn.Own w B v l) (o : Obj) : Rn.Own (w.alloc o) B v l := World.ownsRow.alloc h o
theorem Rn.Own.mono {w : World} {B B' : Nat} {v : Value} {l : List Nat} (h : Rn.Own w B v l) (hB : B' ≤ B) : Rn.Own w B' v l := by
  refine ⟨h.1, ?_⟩
  rcases h.2 with hn | ⟨g, cap, cur, rfl, hg, rest⟩
  · exact .inl hn
  · exact .inr ⟨g, cap, cur, rfl, Nat.le_trans hB hg, rest⟩
theorem Rn.Own.size {w : World} {B : Nat} {v : Value} {l : List Nat} (h : Rn.Own w B v l) : ∃ g cap, v = .slice g l.length cap := by
  rcases h.2 with ⟨rfl, hn⟩ | ⟨g, cap, cur, rfl, _⟩
  · exact ⟨_, _, by rw [hn]⟩
  · exact ⟨_, _, rfl⟩
theorem Rn.Own.lim {w : World} {B : Nat} {v : Value} {l : List Nat} (h : Rn.Own w B v l) (hd : ∀ x, x ∈ l → x < 65536) : (v = .slice none 0 0 ∧ l = []) ∨ ∃ g cap, v = .slice (some ⟨g, 0, none⟩) l.length cap ∧ l.length ≤ cap ∧ cap ≤ 9223372036854775807 ∧ Rn.Lim w g 0 l.length (fun j => l.getD j 0) := by
  rcases h.2 with ⟨hv, hn⟩ | ⟨g, cap, cur, hv, hg, hgg, hc, hm, hs, ht⟩
  · exact .inl ⟨hv, List.length_eq_zero_iff.1 hn⟩
  · refine .inr ⟨g, cap, hv, hc, by unfold maxLen at hm; omega, fun j hj => ?_, fun j _ => ?_, fun j => ?_, (Array.getElem?_eq_some_iff.1 hgg).1⟩
    · have e := congrArg (·[j]?) ht
      simp only [List.getElem?_take, List.getElem?_map] at e
      rw [if_pos (by omega), List.getElem?_eq_getElem hj] at e
      simp only [Array.getElem?_toList, Option.map_some] at e
      simp [World.cell?, hgg, e, Rn.lv, List.getD_eq_getElem?_getD, List.getElem?_eq_getElem hj]
    · simp [World.frozen?, hgg]
    · rcases Nat.lt_or_ge j l.length with hj | hj
      · rw [List.getD_eq_getElem?_getD, List.getElem?_eq_getElem hj]
        exact hd _ (List.getElem_mem hj)
      · rw [List.getD_eq_getElem?_getD, List.getElem?_eq_none hj]
        decide

section
variable {w : World} {ops : Array Oper} {rest : List Oper} {o : Oper} {a : Act} {Q : Exit → Act → World → Prop}
/-- append of some digits to what the call owns. -/
theorem Rn.append (hg : o.guard = none) (s x : Operand) (hop : o.op = .call { callee := .builtin .append, args := #[s, x], argTypes := #[64, 64] }) (B : Nat) (v : Value) (l : List Nat) (hs : a.eval s = v) (hown : Rn.Own w B v l)
    (ad : Addr) (c : Nat) (bs : List Nat) (hx : a.eval x = .slice (some ad) bs.length c) (hnew : ∀ j u, (bs.map Rn.lv)[j]? = some u → w.cell? (ad.add j) = some u) (hlen : l.length + bs.length ≤ 17592186044416) (hB : B ≤ w.heap.size)
    (hK : ∀ v' w', Rn.Own w' B v' (l ++ bs) → Below B w w' → B ≤ w'.heap.size → wpList Tryz.prog ops Q rest (a.put o.dst v') w') : wpList Tryz.prog ops Q (o :: rest) a w := by
  obtain ⟨i0, hi, hz0, hz1, hz2⟩ := info_parts Rn.info64
  refine wpList_append_own w hg s x 64 hop B 67 i0 (.int .u64 0) 1 8 Tryz.underlying64 hi hz0 hz1 hz2 rfl (by decide) v l.length (l.map Rn.lv) hs hown ad bs.length c (bs.map Rn.lv) hx (by simp) hnew (by intro u hu; obtain ⟨b, _, rfl⟩ := List.mem_map.1 hu; rfl) (by unfold maxLen; omega) (by omega) hB ?_
  intro v' w' h1 h2 _
  refine hK v' w' ?_ ((Below.refl _ _).grown h2 hB fun k hk => (World.ownsRow.lt hown k hk).1) (Nat.le_trans hB h2.size)
  simpa [Rn.Own] using h1
end

/-- The i-th digit of x. -/
def Rn.dg (x i : Nat) : Nat := x / 65536 ^ i % 65536
theorem Rn.dg_lt (x i : Nat) : Rn.dg x i < 65536 := Nat.mod_lt _ (by decide)
theorem Rn.mod_step (x i : Nat) : x % 65536 ^ (i + 1) = x % 65536 ^ i + 65536 ^ i * Rn.dg x i := Nat.mod_pow_succ
theorem Rn.dg_val (f : Nat → Nat) (hf : ∀ j, f j < 65536) (n i : Nat) (h : i < n) : Rn.dg (Vl.val 65536 f n) i = f i := by
  obtain ⟨m, rfl⟩ : ∃ m, n = i + m := ⟨n - i, by omega⟩
  obtain ⟨k, rfl⟩ : ∃ k, m = 1 + k := ⟨m - 1, by omega⟩
  unfold Rn.dg
  have hp : 0 < 65536 ^ i := Nat.pow_pos (by decide)
  rw [Nt.val_split, Nat.add_mul_div_right _ _ hp, Nat.div_eq_of_lt (Vl.val_lt 65536 (by decide) f i (fun j _ => hf j)), Nat.zero_add, Nt.val_split]
  have e : Vl.val 65536 (fun j => f (i + j)) 1 = f i := by simp [Vl.val]
  rw [e, Nat.pow_one, Nat.add_mul_mod_self_right, Nat.mod_eq_of_lt (hf i)]
theorem Rn.dg_out (x n i : Nat) (hx : x < 65536 ^ n) (h : n ≤ i) : Rn.dg x i = 0 := by
  unfold Rn.dg
  rw [Nat.div_eq_of_lt (Nat.lt_of_lt_of_le hx (Nat.pow_le_pow_right (by decide) h))]
theorem Rn.digit_any (w : World) (ax : Option Addr) (n cx x : Nat) (hx : Rn.Num w ax n cx x) (i : Nat) :
    Calls Tryz.prog 69 #[.slice ax n cx, .int .i64 (i : Int)] w fun e w' => e = .returned (.int .u64 ((Rn.dg x i : Nat) : Int)) ∧ w' = w := by
  rcases Nat.lt_or_ge i n with h | h
  · obtain ⟨_, bx, ox, fx, hLx, dx, hvx, _⟩ := hx
    obtain ⟨rfl, hL⟩ := hLx (by omega)
    rw [← hvx, Rn.dg_val fx dx n i h]
    exact Rn.digit_in w bx ox n cx fx hL i h
  · rw [Rn.dg_out x n i hx.lt h]
    exact Rn.digit_out w ax n cx i h
set_option maxHeartbeats 1000000 in
set_option maxRecDepth 100000 in
theorem Rn.trim_wide (w : World) (b o n c : Nat) (f : Nat → Nat) (hx : Rn.Lim w b o n f) (hc : n ≤ c) (hn : n ≤ 10000000) (hcb : c ≤ 9223372036854775807) :
    Calls Tryz.prog 68 #[.slice (some ⟨b, o, none⟩) n c] w fun e w' => w' = w ∧ ∃ m, e = .returned (.slice (some ⟨b, o, none⟩) m c) ∧ m ≤ n ∧ (∀ j, m ≤ j → j < n → f j = 0) ∧ (m = 0 ∨ f (m - 1) ≠ 0) := by
  go_enter Tryz.func68, Tryz.ntmps68
  go_wp2_with fail
  go_loop [0] (fun v => ∃ (m : Nat), m ≤ n ∧ v = .slice (some ⟨b, o, none⟩) m c ∧ ∀ j, m ≤ j → j < n → f j = 0) (fun v => match v with | .slice _ m _ => m | _ => 0)
  case atStart => exact ⟨n, Nat.le_refl _, rfl, fun j h1 h2 => by omega⟩
  case round =>
  obtain ⟨m, hm, rfl, hz⟩ := hrel
  by_cases hm0 : m = 0
  · subst hm0
    have HZ := Lib.hid hz
    clear hz
    go_wp2_with fail
    go_ret
    exact ⟨rfl, 0, rfl, Nat.zero_le _, HZ.out, .inl rfl⟩
  · obtain ⟨a, rfl⟩ : ∃ a, m = a + 1 := ⟨m - 1, by omega⟩
    have hmz : (0 : Int) < ((a + 1 : Nat) : Int) := by omega
    have ca := hx.cell a (by omega)
    have ea : ((a + 1 : Nat) : Int) - 1 = (a : Int) := by omega
    have ea0 : 0 ≤ (a : Int) := by omega
    have eal : (a : Int) < ((a + 1 : Nat) : Int) := by omega
    have eac : (a : Int) ≤ (c : Int) := by omega
    obtain ⟨x, ex⟩ : ∃ x, f a = x := ⟨_, rfl⟩
    rw [ex] at ca
    have HZ := Lib.hid (And.intro hz ex)
    obtain ⟨m1, hm1⟩ : ∃ m1, a + 1 = m1 := ⟨_, rfl⟩
    rw [hm1] at hmz ea eal hm ⊢
    have haw : wrap64 (a : Int) = (a : Int) := by unfold wrap64; omega
    have HM := Lib.hid hm1
    clear hz ex hm1 hm0
    by_cases hx0 : x = 0
    · subst hx0
      go_wp2_with fail
      refine ⟨⟨a, by have := HM.out; omega, rfl, fun j h1 h2 => ?_⟩, by have := HM.out; show a < m1; omega⟩
      by_cases hj : j = a
      · rw [hj]; exact HZ.out.2
      · exact HZ.out.1 j (by omega) h2
    · have hx0z : ((x : Int) == 0) = false := by rw [beq_eq_false_iff_ne]; omega
      go_wp2_with fail
      go_ret
      exact ⟨rfl, m1, rfl, hm, (by rw [← HM.out]; exact HZ.out.1), .inr (by rw [← HM.out]; show f a ≠ 0; rw [HZ.out.2]; exact hx0)⟩
theorem Rn.trim_nil (w : World) : Calls Tryz.prog 68 #[.slice none 0 0] w fun e w' => w' = w ∧ e = .returned (.slice none 0 0) := by
  go_enter Tryz.func68, Tryz.ntmps68
  go_wp2_with fail
  go_loop [0] (fun v => v = .slice none 0 0) (fun _ => 0)
  case atStart => rfl
  case round =>
  obtain rfl := hrel
  go_wp2_with fail
  go_ret
  exact ⟨rfl, rfl⟩
/-- The digits of a list, as a number. -/
def Rn.nm (l : List Nat) : Nat := Vl.val 65536 (fun j => l.getD j 0) l.length
theorem Rn.nm_snoc (l : List Nat) (x : Nat) : Rn.nm (l ++ [x]) = Rn.nm l + x * 65536 ^ l.length := by
  unfold Rn.nm
  rw [List.length_append, List.length_singleton, Vl.val]
  congr 1
  · refine Vl.val_congr _ _ _ _ fun j hj => ?_
    simp only [List.getD_eq_getElem?_getD]
    rw [List.getElem?_append_left hj]
  · simp [List.getD_eq_getElem?_getD]
theorem Rn.nm_lt (l : List Nat) (h : ∀ x, x ∈ l → x < 65536) : Rn.nm l < 65536 ^ l.length := Vl.val_lt _ (by decide) _ _ fun j hj => by
  simp only [List.getD_eq_getElem?_getD]
  rw [List.getElem?_eq_getElem hj]
  exact h _ (List.getElem_mem hj)
theorem Rn.trim_own (w : World) (B : Nat) (v : Value) (l : List Nat) (h : Rn.Own w B v l) (hd : ∀ x, x ∈ l → x < 65536) (hn : l.length ≤ 10000000) :
    Calls Tryz.prog 68 #[v] w fun e w' => ∃ av k c, e = .returned (.slice av k c) ∧ Rn.Num w' av k c (Rn.nm l) ∧ w' = w := by
  rcases h.lim hd with ⟨rfl, rfl⟩ | ⟨g, cap, rfl, hc, hcb, hL⟩
  · refine (Rn.trim_nil w).mono ?_
    rintro e w' ⟨rfl, rfl⟩
    exact ⟨_, _, _, rfl, Rn.Num.nil _, rfl⟩
  · refine (Rn.trim_wide w g 0 l.length cap _ hL hc hn hcb).mono ?_
    rintro e w' ⟨rfl, m, rfl, h1, h2, h3⟩
    exact ⟨_, _, _, rfl, Rn.Num.of hL h1 (by omega) h2 h3, rfl⟩
end Go.Proofs.YtfbliccblippiaaGreatDoor
