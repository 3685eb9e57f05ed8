/- bits, bit, form. -/
import Derived.Test.YthlecdggkolgmaaGreatDoorNtS
import Derived.Test.YthlecdggkolgmaaGreatDoorShelf
import Derived.Laws.IdiomStrings
import Derived.Laws.BytesArg
import Derived.Laws.BitsAllLaws
namespace Go.Proofs.YthlecdggkolgmaaGreatDoor
open Go.RowKit

theorem Nt.bits_any (w : World) (ax : Option Addr) (n cx x : Nat) (hx : Nt.Num w ax n cx x) (hn : n ≤ 1000000) :
    Calls Tryz.prog 109 #[.slice ax n cx] w fun e w' => e = .returned (.int .i64 ((Nt.dig x : Nat) : Int)) ∧ w' = w := by
  have hz := hx.zero
  have hcap := hx.cap
  obtain ⟨_,bx,ox,fx,hLx,dx,hvx,tx⟩ := hx
  rcases Nat.eq_zero_or_pos n with h0 | h0
  · subst h0
    have hx0 := hz.1 rfl
    rw [hx0,Nt.dig_zero]
    clear hz hLx dx hvx tx hx0
    go_enter Tryz.func109,Tryz.ntmps109
    go_wp2_with fail
    go_ret
    exact ⟨rfl,rfl⟩
  · obtain ⟨rfl,hL⟩ := hLx h0
    obtain ⟨m,rfl⟩ : ∃ m,n = m + 1 := ⟨n - 1,by omega⟩
    have ht : fx m ≠ 0 := tx.resolve_left (by omega)
    have hD := Nt.dig_top fx m dx ht
    rw [hvx] at hD
    have hc := hL.cell m (by omega)
    have htb := dx m
    obtain ⟨t,et⟩ : ∃ t,fx m = t := ⟨_,rfl⟩
    rw [et] at hD hc htb
    obtain ⟨l,hl⟩ : ∃ l,Nt.dig t = l := ⟨_,rfl⟩
    have hl2 := Nt.dig_of_lt t 32 htb
    rw [hl] at hD hl2
    obtain ⟨D,hDD⟩ : ∃ D,Nt.dig x = D := ⟨_,rfl⟩
    rw [hDD] at hD ⊢
    have Z : ∀ W : World,Calls Tryz.prog 126 #[.int .u32 (t : Int)] W fun e w' => e = .returned (.int .i64 (l : Int)) ∧ w' = W := fun W => by
      have h := Tryz.bits_Len32 (t : Int) W (by omega) (by omega)
      rw [Int.toNat_natCast,Nt.bitLen_dig t (by omega),hl] at h
      exact h
    have HZ := Lib.hid Z
    obtain ⟨M,hM⟩ : ∃ M,m + 1 = M := ⟨_,rfl⟩
    have hMz : (M : Int) - 1 = (m : Int) := by omega
    have hMn : ((M : Int) == 0) = false := by rw [beq_eq_false_iff_ne]; omega
    have hmM : (m : Int) < (M : Int) := by omega
    have hm0 : 0 ≤ (m : Int) := by omega
    have hr : 32 * (m : Int) + (l : Int) = (D : Int) := by omega
    rw [hM]
    clear Z hz hLx hL dx hvx tx ht et hl hDD hM hD
    go_enter Tryz.func109,Tryz.ntmps109
    go_wp2_with (go_at_call 126; refine Calls.mono (HZ.out _) ?_; rintro e1 w1 ⟨rfl,rfl⟩)
    go_ret
    exact ⟨rfl,rfl⟩
theorem Nt.bit_val (f : Nat → Nat) (hf : ∀ j,f j < 4294967296) (n a r : Nat) (ha : a < n) (hr : r < 32) : Vl.val 4294967296 f n / 2 ^ (32 * a + r) % 2 = f a / 2 ^ r % 2 := by
  have e1 := Nt.val_split 4294967296 f a (n - a)
  rw [show a + (n - a) = n by omega] at e1
  obtain ⟨m,hm⟩ : ∃ m,n - a = 1 + m := ⟨n - a - 1,by omega⟩
  have e2 := Nt.val_split 4294967296 (fun j => f (a + j)) 1 m
  rw [hm,e2] at e1
  have e3 : Vl.val 4294967296 (fun j => f (a + j)) 1 = f a := by simp [Vl.val]
  rw [e3] at e1
  obtain ⟨H,hH⟩ : ∃ H,Vl.val 4294967296 (fun j => f (a + (1 + j))) m = H := ⟨_,rfl⟩
  rw [hH] at e1
  have hl : Vl.val 4294967296 f a < 4294967296 ^ a := Vl.val_lt _ (by decide) f a (fun j _ => hf j)
  have eP : (2 : Nat) ^ (32 * a) = 4294967296 ^ a := by rw [Nat.pow_mul]
  rw [Nat.pow_add,← Nat.div_div_eq_div_mul,eP,e1]
  have hp : 0 < 4294967296 ^ a := Nat.pow_pos (by decide)
  rw [Nat.add_mul_div_right _ _ hp,Nat.div_eq_of_lt hl,Nat.zero_add,Nat.pow_one]
  have e4 : (4294967296 : Nat) = 2 ^ r * (2 * 2 ^ (31 - r)) := by rw [← Nat.pow_succ',← Nat.pow_add,show r + (31 - r + 1) = 32 by omega]
  have hr0 : 0 < 2 ^ r := Nat.two_pow_pos r
  rw [e4,Nat.mul_left_comm,Nat.add_mul_div_left _ _ hr0,Nat.mul_left_comm,Nat.add_mul_mod_self_left]
theorem Nt.bit_any (w : World) (ax : Option Addr) (n cx x k : Nat) (hx : Nt.Num w ax n cx x) (hn : n ≤ 1000000) (hk : k < 32 * n) :
    Calls Tryz.prog 111 #[.slice ax n cx,.int .i64 (k : Int)] w fun e w' => e = .returned (.int .u32 ((x / 2 ^ k % 2 : Nat) : Int)) ∧ w' = w := by
  obtain ⟨_,bx,ox,fx,hLx,dx,hvx,_⟩ := hx
  obtain ⟨rfl,hL⟩ := hLx (by omega)
  obtain ⟨a,ha⟩ : ∃ a,k / 32 = a := ⟨_,rfl⟩
  obtain ⟨r,hr⟩ : ∃ r,k % 32 = r := ⟨_,rfl⟩
  have hr32 : r < 32 := by omega
  have han : a < n := by omega
  have hb := Nt.bit_val fx dx n a r han hr32
  rw [show 32 * a + r = k by omega,hvx] at hb
  rw [hb]
  have hc := hL.cell a han
  have htb := dx a
  obtain ⟨t,et⟩ : ∃ t,fx a = t := ⟨_,rfl⟩
  rw [et] at hc htb ⊢
  have haz : (k : Int) / 32 = (a : Int) := by omega
  have hrz : (k : Int) % 32 = (r : Int) := by omega
  have hanz : (a : Int) < (n : Int) := by omega
  have ha0 : 0 ≤ (a : Int) := by omega
  have hr0 : ¬ (r : Int) < 0 := by omega
  have hk0 : 0 ≤ (k : Int) := by omega
  have hmin : min r 64 = r := Nat.min_eq_left (by omega)
  have hs : (t : Int) / 2 ^ r = ((t / 2 ^ r : Nat) : Int) := by simp
  obtain ⟨s,es⟩ : ∃ s,t / 2 ^ r = s := ⟨_,rfl⟩
  rw [es] at hs ⊢
  have hsb : s < 4294967296 := by rw [← es]; exact Nat.lt_of_le_of_lt (Nat.div_le_self _ _) htb
  have hand : bits .and .u32 (s : Int) 1 = ((s % 2 : Nat) : Int) := by
    have := u32_and_nat s 1 hsb (by decide)
    rw [Nat.and_one_is_mod] at this
    exact this
  clear hb hLx hL dx hvx et ha hr es htb hsb
  go_enter Tryz.func111,Tryz.ntmps111
  go_wp2_with fail
  go_ret
  exact ⟨rfl,rfl⟩
end Go.Proofs.YthlecdggkolgmaaGreatDoor
