/- Trim, Bits, Cmp. -/
import Derived.Test.YthlecdggkolgmaaGreatDoorNyA
import Derived.Lib.TrimByte
import Derived.Lib.Bytealg
namespace Go.Proofs.YthlecdggkolgmaaGreatDoor
open Go.RowKit

theorem Nt.trim_fm (l : List UInt8) : Lib.trimLeftB l 0 = Nt.fm (Nt.rd l) := by
  induction l with
  | nil => rfl
  | cons c t ih =>
    unfold Lib.trimLeftB at ih ⊢
    rw [List.dropWhile_cons]
    by_cases hc : c = 0
    · subst hc
      rw [if_pos (by decide),Nt.rd_zero_cons]
      exact ih
    · rw [if_neg (by simpa using hc)]
      exact (Nt.fm_rd (c :: t) (fun d hd => by simp at hd; subst hd; exact hc)).symm
theorem Nt.fm_head (x : Nat) (c : UInt8) (t : List UInt8) (h : Nt.fm x = c :: t) : c ≠ 0 := by
  rintro rfl
  have h1 := Nt.rd_fm x
  rw [h,Nt.rd_zero_cons] at h1
  have h2 := Nt.fm_len x
  rw [h,List.length_cons,← h1] at h2
  have := Nt.by_le (Nt.rd t) t.length (Nt.rd_lt t)
  omega
theorem Nt.dig_rd (c : UInt8) (t : List UInt8) (hc : c ≠ 0) : Nt.dig (Nt.rd (c :: t)) = 8 * t.length + Nt.dig c.toNat := by
  have hc0 : c.toNat ≠ 0 := fun h => hc (UInt8.toNat_inj.1 (h.trans (by rfl : (0 : Nat) = (0 : UInt8).toNat)))
  have h1 := Nt.dig_le c.toNat hc0
  have h2 := Nt.dig_lt c.toNat
  have h3 := Nt.dig_pos c.toNat hc0
  obtain ⟨k,hk⟩ : ∃ k,Nt.dig c.toNat = k + 1 := ⟨Nt.dig c.toNat - 1,by omega⟩
  rw [hk,Nat.add_sub_cancel] at h1
  rw [hk] at h2 ⊢
  have hl := Nt.rd_lt t
  have eP : (256 : Nat) ^ t.length = 2 ^ (8 * t.length) := by rw [Nat.pow_mul]
  rw [eP] at hl
  rw [Nt.rd,eP,show 8 * t.length + (k + 1) = (8 * t.length + k) + 1 by omega]
  refine Nt.dig_spec _ _ ?_ ?_
  · rw [Nat.pow_add,Nat.mul_comm]
    have := Nat.mul_le_mul_right (2 ^ (8 * t.length)) h1
    omega
  · rw [show 8 * t.length + k + 1 = (k + 1) + 8 * t.length by omega,Nat.pow_add 2 (k + 1)]
    have : (c.toNat + 1) * 2 ^ (8 * t.length) ≤ 2 ^ (k + 1) * 2 ^ (8 * t.length) := Nat.mul_le_mul_right _ h2
    rw [Nat.add_mul,Nat.one_mul] at this
    omega
def Nt.cmp (x y : Nat) : Int := if x < y then -1 else if y < x then 1 else 0
theorem Nt.cmp_bytes : ∀ a b : List UInt8,a.length = b.length → Lib.compareBytes a b = Nt.cmp (Nt.rd a) (Nt.rd b)
  | [],[],_ => rfl
  | [],_ :: _,h => by simp at h
  | _ :: _,[],h => by simp at h
  | c :: s,d :: t,h => by
    have hl : s.length = t.length := by simpa using h
    have ih := Nt.cmp_bytes s t hl
    have h1 := Nt.rd_lt s
    have h2 := Nt.rd_lt t
    rw [Lib.compareBytes,Nt.rd,Nt.rd,hl]
    rw [hl] at h1
    obtain ⟨P,hP⟩ : ∃ P,256 ^ t.length = P := ⟨_,rfl⟩
    rw [hP] at h1 h2 ⊢
    unfold Nt.cmp
    by_cases hcd : c < d
    · rw [if_pos hcd]
      have h3 : c.toNat + 1 ≤ d.toNat := hcd
      have h4 := Nat.mul_le_mul_right P h3
      rw [Nat.add_mul,Nat.one_mul] at h4
      rw [if_pos (by omega)]
    · rw [if_neg hcd]
      by_cases hdc : d < c
      · rw [if_pos hdc]
        have h3 : d.toNat + 1 ≤ c.toNat := hdc
        have h4 := Nat.mul_le_mul_right P h3
        rw [Nat.add_mul,Nat.one_mul] at h4
        rw [if_neg (by omega),if_pos (by omega)]
      · rw [if_neg hdc]
        have he : c.toNat = d.toNat := by
          have a1 : ¬ c.toNat < d.toNat := hcd
          have a2 : ¬ d.toNat < c.toNat := hdc
          omega
        rw [he,ih]
        unfold Nt.cmp
        simp only [Nat.add_lt_add_iff_left]
/-- The form of what a text says. -/
def Nt.ts (s : ByteArray) : ByteArray := ⟨(Nt.fm (Nt.nv s)).toArray⟩
theorem Nt.ts_size (s : ByteArray) : (Nt.ts s).size = Nt.by (Nt.nv s) := by
  rw [← Nt.fm_len]
  rfl
theorem Nt.Trim_any (w : World) (s : ByteArray) : Calls Tryz.prog 88 #[.string s] w fun e w' => e = .returned (.string (Nt.ts s)) ∧ w' = w := by
  have h := Tryz.strings_TrimLeft_one s 0 (by decide) w
  rw [Nt.trim_fm] at h
  have HT := Lib.hid h
  clear h
  go_enter Tryz.func88,Tryz.ntmps88
  go_wp2_with fail
  go_at_call 103
  refine Calls.mono HT.out ?_
  rintro e w' ⟨rfl,rfl⟩
  go_wp2_with fail
  go_ret
  exact ⟨rfl,rfl⟩
theorem Nt.Cmp_any (w : World) (s t : ByteArray) (hs : s.size ≤ 9223372036854775807) (ht : t.size ≤ 9223372036854775807) : Calls Tryz.prog 62 #[.string s,.string t] w fun e w' => e = .returned (.int .i64 (Nt.cmp (Nt.nv s) (Nt.nv t))) ∧ w' = w := by
  obtain ⟨a,ha⟩ : ∃ a,(Nt.ts s).size = a := ⟨_,rfl⟩
  obtain ⟨b,hb⟩ : ∃ b,(Nt.ts t).size = b := ⟨_,rfl⟩
  have ha2 := Nt.ts_size s
  have hb2 := Nt.ts_size t
  rw [ha] at ha2
  rw [hb] at hb2
  have ha3 : a ≤ s.size := by rw [ha2]; exact Nt.by_le _ _ (Nt.nv_lt s)
  have hb3 : b ≤ t.size := by rw [hb2]; exact Nt.by_le _ _ (Nt.nv_lt t)
  have hC := Tryz.strings_Compare (Nt.ts s) (Nt.ts t)
  have T1 := Nt.Trim_any w s
  have T2 := Nt.Trim_any w t
  have hd1 : (Nt.ts s).data.toList = Nt.fm (Nt.nv s) := rfl
  have hd2 : (Nt.ts t).data.toList = Nt.fm (Nt.nv t) := rfl
  rw [hd1,hd2] at hC
  have hlt : ∀ x y,Nt.by x < Nt.by y → x < y := fun x y h => by
    rcases Nat.lt_or_ge x y with h1 | h1
    · exact h1
    · have := Nt.by_le y (Nt.by x) (Nat.lt_of_le_of_lt h1 (Nt.by_lt x))
      omega
  have h1 : a < b → Nt.cmp (Nt.nv s) (Nt.nv t) = -1 := fun h => by
    have := hlt (Nt.nv s) (Nt.nv t) (by omega)
    unfold Nt.cmp
    rw [if_pos this]
  have h2 : b < a → Nt.cmp (Nt.nv s) (Nt.nv t) = 1 := fun h => by
    have := hlt (Nt.nv t) (Nt.nv s) (by omega)
    unfold Nt.cmp
    rw [if_neg (by omega),if_pos this]
  have h3 : a = b → Lib.compareBytes (Nt.fm (Nt.nv s)) (Nt.fm (Nt.nv t)) = Nt.cmp (Nt.nv s) (Nt.nv t) := fun h => by
    rw [Nt.cmp_bytes _ _ (by rw [Nt.fm_len,Nt.fm_len]; omega),Nt.rd_fm,Nt.rd_fm]
  obtain ⟨x,hx⟩ : ∃ x,Nt.ts s = x := ⟨_,rfl⟩
  obtain ⟨y,hy⟩ : ∃ y,Nt.ts t = y := ⟨_,rfl⟩
  rw [hx] at ha hC T1
  rw [hy] at hb hC T2
  obtain ⟨r,hr⟩ : ∃ r,Nt.cmp (Nt.nv s) (Nt.nv t) = r := ⟨_,rfl⟩
  rw [hr] at h1 h2 h3 ⊢
  have HT := Lib.hid (And.intro T1 (And.intro T2 hC))
  have HR := Lib.hid (And.intro h1 (And.intro h2 h3))
  have haz : (x.size : Int) = (a : Int) := by rw [ha]
  have hbz : (y.size : Int) = (b : Int) := by rw [hb]
  clear ha hb ha2 hb2 hC T1 T2 hd1 hd2 hlt h1 h2 h3 hx hy hr
  have hab : (a : Int) ≤ 9223372036854775807 := by omega
  have hbb : (b : Int) ≤ 9223372036854775807 := by omega
  clear ha3 hb3 hs ht
  by_cases hl : a < b
  · have hlz : (a : Int) < (b : Int) := by omega
    obtain rfl := HR.out.1 hl
    go_enter Tryz.func62,Tryz.ntmps62
    go_wp2_with (go_at_call 88; (first | (with_reducible refine Calls.mono HT.out.1 ?_) | (with_reducible refine Calls.mono HT.out.2.1 ?_)); rintro e w' ⟨rfl,rfl⟩)
    go_ret
    exact ⟨rfl,rfl⟩
  · have hlz : ¬ (a : Int) < (b : Int) := by omega
    by_cases hg : b < a
    · have hgz : (b : Int) < (a : Int) := by omega
      obtain rfl := HR.out.2.1 hg
      go_enter Tryz.func62,Tryz.ntmps62
      go_wp2_with (go_at_call 88; (first | (with_reducible refine Calls.mono HT.out.1 ?_) | (with_reducible refine Calls.mono HT.out.2.1 ?_)); rintro e w' ⟨rfl,rfl⟩)
      go_ret
      exact ⟨rfl,rfl⟩
    · have hgz : ¬ (b : Int) < (a : Int) := by omega
      have he := HR.out.2.2 (by omega)
      obtain ⟨c,hc⟩ : ∃ c,Lib.compareBytes (Nt.fm (Nt.nv s)) (Nt.fm (Nt.nv t)) = c := ⟨_,rfl⟩
      rw [hc] at he HT
      subst he
      clear hc hl hg
      go_enter Tryz.func62,Tryz.ntmps62
      go_wp2_with (first | (go_at_call 88; (first | (with_reducible refine Calls.mono HT.out.1 ?_) | (with_reducible refine Calls.mono HT.out.2.1 ?_)); rintro e w' ⟨rfl,rfl⟩) | (go_at_call 89; refine Calls.mono (HT.out.2.2 _) ?_; rintro e w' ⟨rfl,rfl⟩))
      go_ret
      exact ⟨rfl,rfl⟩
end Go.Proofs.YthlecdggkolgmaaGreatDoor
