/- Bits, Pad, Div. -/
import Derived.Test.YtfbliccblippiaaGreatDoorNyC
namespace Go.Proofs.YtfbliccblippiaaGreatDoor
open Go.RowKit

theorem Nt.Bits_any (w : World) (s : ByteArray) (hs : s.size ≤ 150000000000000) : Calls Tryz.prog 29 #[.string s] w fun e w' => e = .returned (.int .i64 ((Nt.dig (Nt.nv s) : Nat) : Int)) ∧ w' = w := by
  have T1 := Nt.Trim_any w s
  have hsz := Nt.ts_size s
  have hle : Nt.by (Nt.nv s) ≤ s.size := Nt.by_le _ _ (Nt.nv_lt s)
  obtain ⟨x, hx⟩ : ∃ x, Nt.ts s = x := ⟨_, rfl⟩
  have hd : x.data.toList = Nt.fm (Nt.nv s) := by rw [← hx]; rfl
  rw [hx] at T1 hsz
  rcases hL : Nt.fm (Nt.nv s) with _ | ⟨c, t⟩
  · have h0 : Nt.nv s = 0 := by rw [← Nt.rd_fm (Nt.nv s), hL]; rfl
    rw [h0, Nt.dig_zero]
    have he : x = ⟨#[]⟩ := by
      have h1 : x.data = #[] := by
        rw [hL] at hd
        exact Array.toList_eq_nil_iff.1 hd
      cases x
      simp_all
    subst he
    have HT := Lib.hid T1
    clear T1 hsz hle hx hd hL h0 hs
    go_enter Tryz.func29, Tryz.ntmps29
    go_wp2_with (go_at_call 58; refine Calls.mono HT.out ?_; rintro e w' ⟨rfl, rfl⟩)
    go_ret
    exact ⟨rfl, rfl⟩
  · have hc := Nt.fm_head _ _ _ hL
    have hD : Nt.dig (Nt.nv s) = 8 * t.length + Nt.dig c.toNat := by
      have h1 := Nt.rd_fm (Nt.nv s)
      rw [hL] at h1
      rw [← h1]
      exact Nt.dig_rd c t hc
    rw [hL] at hd
    have hlen : x.size = t.length + 1 := by
      have : x.data.toList.length = t.length + 1 := by rw [hd]; rfl
      rw [← this]
      simp
    have hx0 : 0 < x.size := by omega
    have hc0 : x[0] = c := by
      have h1 : x.data.toList[0]? = some c := by rw [hd]; rfl
      have h2 := (List.getElem?_eq_some_iff.1 h1).2
      exact h2
    obtain ⟨l, hl⟩ : ∃ l, Nt.dig c.toNat = l := ⟨_, rfl⟩
    obtain ⟨ch, hch⟩ : ∃ ch, c.toNat = ch := ⟨_, rfl⟩
    have hchb : ch < 256 := by rw [← hch]; exact c.toNat_lt
    obtain ⟨m, hm⟩ : ∃ m, t.length = m := ⟨_, rfl⟩
    obtain ⟨D, hDD⟩ : ∃ D, Nt.dig (Nt.nv s) = D := ⟨_, rfl⟩
    have hl8 := Nt.dig_of_lt ch 8 hchb
    rw [hDD] at hD ⊢
    rw [hl] at hD
    rw [hm] at hD hlen
    rw [hch] at hl
    rw [hl] at hl8
    have Z : ∀ W : World, Calls Tryz.prog 59 #[.int .u8 (ch : Int)] W fun e w' => e = .returned (.int .i64 (l : Int)) ∧ w' = W := fun W => by
      have h := Tryz.bits_Len8 (ch : Int) W (by omega) (by omega)
      rw [Int.toNat_natCast, Nt.bitLen_dig ch (by omega), hl] at h
      exact h
    have hmb : m ≤ 150000000000000 := by omega
    obtain ⟨M, hM⟩ : ∃ M, m + 1 = M := ⟨_, rfl⟩
    have hsz2 : (x.size : Int) = (M : Int) := by rw [hlen, hM]
    have hMz : (M : Int) - 1 = (m : Int) := by omega
    obtain ⟨q, hq⟩ : ∃ q, 8 * m = q := ⟨_, rfl⟩
    have hqz : 8 * (m : Int) = (q : Int) := by omega
    have hrz : (q : Int) + (l : Int) = (D : Int) := by omega
    have hqb : (q : Int) ≤ 1200000000000000 := by omega
    have hmbz : (m : Int) ≤ 150000000000000 := by omega
    have hMpos : (0 : Int) < (M : Int) := by omega
    have hne : x.toList.isEmpty = false := by
      rw [Lib.toList_data, hd]
      rfl
    have hnn : ¬ x.toList = [] := by
      intro h
      rw [h] at hne
      exact absurd hne (by decide)
    have HT := Lib.hid (And.intro T1 Z)
    clear T1 Z hsz hle hx hd hL hs hc hD hlen hl hm hDD hM hq hmb
    go_enter Tryz.func29, Tryz.ntmps29
    go_wp2_with (first | (go_at_call 58; (with_reducible refine Calls.mono HT.out.1 ?_); rintro e w' ⟨rfl, rfl⟩) | (go_at_call 59; refine Calls.mono (HT.out.2 _) ?_; rintro e w' ⟨rfl, rfl⟩))
    go_ret
    exact ⟨rfl, rfl⟩
set_option maxHeartbeats 1000000 in
theorem Nt.Pad_no (w : World) (ok : Nt.Ok w) (s : ByteArray) (hs : s.size ≤ 9223372036854775807) (n : Int) (h : n < 0 ∨ 512 < n ∨ (0 ≤ n ∧ n ≤ 512 ∧ n < (Nt.by (Nt.nv s) : Int))) :
    Calls Tryz.prog 31 #[.string s, .int .i64 n] w fun e w' => e = .returned (.tuple #[.string ⟨#[]⟩, .int .i64 35]) ∧ Below w.heap.size w w' := by
  have T1 := Nt.Trim_any w s
  have hsz := Nt.ts_size s
  have hle : Nt.by (Nt.nv s) ≤ s.size := Nt.by_le _ _ (Nt.nv_lt s)
  obtain ⟨x, hx⟩ : ∃ x, Nt.ts s = x := ⟨_, rfl⟩
  rw [hx] at T1 hsz
  obtain ⟨l, hl⟩ : ∃ l, Nt.by (Nt.nv s) = l := ⟨_, rfl⟩
  rw [hl] at hsz h hle
  have hsz2 : (x.size : Int) = (l : Int) := by rw [hsz]
  have hlb : (l : Int) ≤ 9223372036854775807 := by omega
  obtain ⟨a, hv⟩ := ok 35 (by decide) (by decide)
  have hc : w.cell? ⟨4, 0, none⟩ = some (.iface 217 (.pointer (some a))) := hv.var
  have HT := Lib.hid T1
  have HV := Lib.hid (And.intro hv ok)
  clear T1 hv ok hx hsz hle hl hs
  have P : Calls Tryz.prog 62 #[.string x, .int .i64 n] w fun e w' => e = .returned (.tuple #[.string ⟨#[]⟩, .iface 217 (.pointer (some a))]) ∧ ∃ k, w' = w.drewN k := by
    rcases h with h | h | ⟨h1, h2, h3⟩
    · go_enter Tryz.func62, Tryz.ntmps62
      go_wp2_with fail
      go_quiet (fail)
      go_wp2_with fail
      go_ret2
      exact ⟨rfl, _, rfl⟩
    · have h0 : ¬ n < 0 := by omega
      go_enter Tryz.func62, Tryz.ntmps62
      go_wp2_with fail
      go_quiet (fail)
      go_wp2_with fail
      go_ret2
      exact ⟨rfl, _, rfl⟩
    · have h0 : ¬ n < 0 := by omega
      have h4 : ¬ 512 < n := by omega
      go_enter Tryz.func62, Tryz.ntmps62
      go_wp2_with fail
      go_quiet (fail)
      go_wp2_with fail
      go_ret2
      exact ⟨rfl, _, rfl⟩
  have HP := Lib.hid P
  clear P h hsz2 hlb hc
  go_enter Tryz.func31, Tryz.ntmps31
  go_wp2_with fail
  go_at_call 58
  refine Calls.mono HT.out ?_
  rintro e1 w1 ⟨rfl, rfl⟩
  go_wp2_with fail
  go_at_call 62
  refine Calls.mono HP.out ?_
  rintro e2 w2 ⟨rfl, k, rfl⟩
  go_wp2_with fail
  go_at_call 63
  refine Calls.mono (Nt.told_any _ (HV.out.2.below (Tx.drewNb _ k)) _ 35 (.inr ⟨by decide, by decide, a, rfl, HV.out.1.below (Tx.drewNb _ k)⟩)) ?_
  rintro e4 w4 ⟨rfl, rfl⟩
  go_wp2_with fail
  go_ret2
  exact ⟨rfl, Tx.drewNb _ _⟩
set_option maxHeartbeats 1000000 in
theorem Nt.readAndDivide_ok (w : World) (ok : Nt.Ok w) (s t : ByteArray) (hs : s.size ≤ 512) (ht : t.size ≤ 512) :
    Calls Tryz.prog 64 #[.string s, .string t] w fun e w' => ∃ av k c bv l d v, e = .returned (.tuple #[.slice av k c, .slice bv l d, v]) ∧ Nt.Num w' av k c (Nt.nv s / Nt.nv t) ∧ Nt.Num w' bv l d (if Nt.nv t = 0 then 0 else Nt.nv s % Nt.nv t) ∧ Nt.Err w' v (if Nt.nv t = 0 then 31 else 0) ∧ Below w.heap.size w w' := by
  obtain ⟨L, hL⟩ : ∃ L : Nat, (if Nt.nv t = 0 then 0 else Nt.nv s % Nt.nv t) = L := ⟨_, rfl⟩
  obtain ⟨K, hK⟩ : ∃ K : Nat, (if Nt.nv t = 0 then 31 else 0) = K := ⟨_, rfl⟩
  rw [hL, hK]
  have HR := Lib.hid (And.intro hL hK)
  clear hL hK
  have HS := Lib.hid (And.intro ok (And.intro hs ht))
  clear ok hs ht
  go_enter Tryz.func64, Tryz.ntmps64
  go_wp2_with fail
  go_at_call 91
  refine Calls.mono (Nt.readTwo_ok w s t HS.out.2.1 HS.out.2.2) ?_
  rintro e1 w1 ⟨ax, n, cx, ay, m, cy, rfl, h1, h2, hn, hm, hb⟩
  have H1 := Lib.hid (And.intro h1 (And.intro h2 (And.intro hn (And.intro hm hb))))
  clear h1 h2 hn hm hb
  go_wp2_with fail
  go_at_call 102
  refine Calls.mono (Nt.divide_any w1 (HS.out.1.below H1.out.2.2.2.2) ax ay n cx (Nt.nv s) m cy (Nt.nv t) H1.out.1 H1.out.2.1 (by have := H1.out.2.2.1; omega) (by have := H1.out.2.2.2.1; omega)) ?_
  rintro e2 w2 ⟨av, k, c, bv, l, d, v, rfl, h3, h4, h5, hb2⟩
  rw [HR.out.1] at h4
  rw [HR.out.2] at h5
  have H2 := Lib.hid (And.intro h3 (And.intro h4 (And.intro h5 hb2)))
  clear h3 h4 h5 hb2
  go_wp2_with fail
  exact bodyPost_ret (v := .tuple #[.slice av k c, .slice bv l d, v]) (by simp [results, Tryz.results64, go_sem]) rfl ⟨_, _, _, _, _, _, _, rfl, H2.out.1, H2.out.2.1, H2.out.2.2.1, H1.out.2.2.2.2.trans (H2.out.2.2.2.mono H1.out.2.2.2.2.size)⟩
set_option maxHeartbeats 1000000 in
theorem Nt.Div_ok (w : World) (ok : Nt.Ok w) (s t : ByteArray) (hs : s.size ≤ 512) (ht : t.size ≤ 512) :
    Calls Tryz.prog 33 #[.string s, .string t] w fun e w' => e = .returned (.tuple #[.string ⟨(Nt.fm (Nt.nv s / Nt.nv t)).toArray⟩, .string ⟨(Nt.fm (if Nt.nv t = 0 then 0 else Nt.nv s % Nt.nv t)).toArray⟩, .int .i64 (((if Nt.nv t = 0 then 31 else 0) : Nat) : Int)]) ∧ Below w.heap.size w w' := by
  have C := Nt.readAndDivide_ok w ok s t hs ht
  have hq : Nt.nv s / Nt.nv t < 256 ^ s.size := Nat.lt_of_le_of_lt (Nat.div_le_self _ _) (Nt.nv_lt s)
  have hr : (if Nt.nv t = 0 then 0 else Nt.nv s % Nt.nv t) < 256 ^ s.size := by
    split
    · exact Nat.pow_pos (by decide)
    · exact Nat.lt_of_le_of_lt (Nat.mod_le _ _) (Nt.nv_lt s)
  obtain ⟨R, hR⟩ : ∃ R, Nt.nv s / Nt.nv t = R := ⟨_, rfl⟩
  obtain ⟨L, hL⟩ : ∃ L : Nat, (if Nt.nv t = 0 then 0 else Nt.nv s % Nt.nv t) = L := ⟨_, rfl⟩
  obtain ⟨K, hK⟩ : ∃ K : Nat, (if Nt.nv t = 0 then 31 else 0) = K := ⟨_, rfl⟩
  rw [hR, hL, hK] at C
  rw [hR] at hq
  rw [hL] at hr
  rw [hR, hL, hK]
  have HC := Lib.hid C
  have HS := Lib.hid (And.intro ok (And.intro hs (And.intro hq hr)))
  clear ok hs ht hR hL hK C hq hr
  go_enter Tryz.func33, Tryz.ntmps33
  go_wp2_with fail
  go_at_call 64
  refine Calls.mono HC.out ?_
  rintro e1 w1 ⟨av, k, c, bv, l, d, v, rfl, h3, h4, h5, hb⟩
  have hk := h3.bytes 128 s.size HS.out.2.2.1 HS.out.2.1
  have hl := h4.bytes 128 s.size HS.out.2.2.2 HS.out.2.1
  have H1 := Lib.hid (And.intro h3 (And.intro h4 (And.intro h5 (And.intro hb (And.intro hk hl)))))
  clear h3 h4 h5 hb hk hl
  go_wp2_with fail
  go_at_call 65
  refine Calls.mono (Nt.form_any w1 av k c R H1.out.1 (by have := H1.out.2.2.2.2.1; omega)) ?_
  rintro e3 w3 ⟨rfl, hb3⟩
  have H3 := Lib.hid hb3
  clear hb3
  go_wp2_with fail
  go_at_call 65
  refine Calls.mono (Nt.form_any w3 bv l d L (H1.out.2.1.below H3.out) (by have := H1.out.2.2.2.2.2; omega)) ?_
  rintro e5 w5 ⟨rfl, hb5⟩
  have H5 := Lib.hid hb5
  clear hb5
  go_wp2_with fail
  go_at_call 63
  refine Calls.mono (Nt.told_any w5 (((HS.out.1.below H1.out.2.2.2.1).below H3.out).below H5.out) _ K ((H1.out.2.2.1.below H3.out).below H5.out)) ?_
  rintro e4 w4 ⟨rfl, rfl⟩
  go_wp2_with fail
  have hfin := (H1.out.2.2.2.1.trans (H3.out.mono H1.out.2.2.2.1.size)).trans (H5.out.mono (Nat.le_trans H1.out.2.2.2.1.size H3.out.size))
  exact bodyPost_ret (v := .tuple #[.string ⟨(Nt.fm R).toArray⟩, .string ⟨(Nt.fm L).toArray⟩, .int .i64 (K : Int)]) (by simp [results, Tryz.results33, go_sem]) rfl ⟨rfl, hfin⟩
end Go.Proofs.YtfbliccblippiaaGreatDoor
