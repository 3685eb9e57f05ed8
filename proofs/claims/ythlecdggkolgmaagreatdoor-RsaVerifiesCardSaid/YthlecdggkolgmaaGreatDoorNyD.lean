/- Bits, Pad, Div. -/
import Derived.Test.YthlecdggkolgmaaGreatDoorNyC
namespace Go.Proofs.YthlecdggkolgmaaGreatDoor
open Go.RowKit

theorem Nt.Bits_any (w : World) (s : ByteArray) (hs : s.size ≤ 150000000000000) : Calls Tryz.prog 66 #[.string s] w fun e w' => e = .returned (.int .i64 ((Nt.dig (Nt.nv s) : Nat) : Int)) ∧ w' = w := by
  have T1 := Nt.Trim_any w s
  have hsz := Nt.ts_size s
  have hle : Nt.by (Nt.nv s) ≤ s.size := Nt.by_le _ _ (Nt.nv_lt s)
  obtain ⟨x,hx⟩ : ∃ x,Nt.ts s = x := ⟨_,rfl⟩
  have hd : x.data.toList = Nt.fm (Nt.nv s) := by rw [← hx]; rfl
  rw [hx] at T1 hsz
  rcases hL : Nt.fm (Nt.nv s) with _ | ⟨c,t⟩
  · have h0 : Nt.nv s = 0 := by rw [← Nt.rd_fm (Nt.nv s),hL]; rfl
    rw [h0,Nt.dig_zero]
    have he : x = ⟨#[]⟩ := by
      have h1 : x.data = #[] := by
        rw [hL] at hd
        exact Array.toList_eq_nil_iff.1 hd
      cases x
      simp_all
    subst he
    have HT := Lib.hid T1
    clear T1 hsz hle hx hd hL h0 hs
    go_enter Tryz.func66,Tryz.ntmps66
    go_wp2_with (go_at_call 88; refine Calls.mono HT.out ?_; rintro e w' ⟨rfl,rfl⟩)
    go_ret
    exact ⟨rfl,rfl⟩
  · have hc := Nt.fm_head _ _ _ hL
    have hD : Nt.dig (Nt.nv s) = 8 * t.length + Nt.dig c.toNat := by
      have h1 := Nt.rd_fm (Nt.nv s)
      rw [hL] at h1
      rw [← h1]
      exact Nt.dig_rd c t hc
    rw [hL] at hd
    have hlen : x.size = t.length + 1 := by
      have : x.data.toList.length = t.length + 1 := by rw [hd]; rfl
      rw [← this]
      simp
    have hx0 : 0 < x.size := by omega
    have hc0 : x[0] = c := by
      have h1 : x.data.toList[0]? = some c := by rw [hd]; rfl
      have h2 := (List.getElem?_eq_some_iff.1 h1).2
      exact h2
    obtain ⟨l,hl⟩ : ∃ l,Nt.dig c.toNat = l := ⟨_,rfl⟩
    obtain ⟨ch,hch⟩ : ∃ ch,c.toNat = ch := ⟨_,rfl⟩
    have hchb : ch < 256 := by rw [← hch]; exact c.toNat_lt
    obtain ⟨m,hm⟩ : ∃ m,t.length = m := ⟨_,rfl⟩
    obtain ⟨D,hDD⟩ : ∃ D,Nt.dig (Nt.nv s) = D := ⟨_,rfl⟩
    have hl8 := Nt.dig_of_lt ch 8 hchb
    rw [hDD] at hD ⊢
    rw [hl] at hD
    rw [hm] at hD hlen
    rw [hch] at hl
    rw [hl] at hl8
    have Z : ∀ W : World,Calls Tryz.prog 94 #[.int .u8 (ch : Int)] W fun e w' => e = .returned (.int .i64 (l : Int)) ∧ w' = W := fun W => by
      have h := Tryz.bits_Len8 (ch : Int) W (by omega) (by omega)
      rw [Int.toNat_natCast,Nt.bitLen_dig ch (by omega),hl] at h
      exact h
    have hmb : m ≤ 150000000000000 := by omega
    obtain ⟨M,hM⟩ : ∃ M,m + 1 = M := ⟨_,rfl⟩
    have hsz2 : (x.size : Int) = (M : Int) := by rw [hlen,hM]
    have hMz : (M : Int) - 1 = (m : Int) := by omega
    obtain ⟨q,hq⟩ : ∃ q,8 * m = q := ⟨_,rfl⟩
    have hqz : 8 * (m : Int) = (q : Int) := by omega
    have hrz : (q : Int) + (l : Int) = (D : Int) := by omega
    have hqb : (q : Int) ≤ 1200000000000000 := by omega
    have hmbz : (m : Int) ≤ 150000000000000 := by omega
    have hMpos : (0 : Int) < (M : Int) := by omega
    have hne : x.toList.isEmpty = false := by
      rw [Lib.toList_data,hd]
      rfl
    have hnn : ¬ x.toList = [] := by
      intro h
      rw [h] at hne
      exact absurd hne (by decide)
    have HT := Lib.hid (And.intro T1 Z)
    clear T1 Z hsz hle hx hd hL hs hc hD hlen hl hm hDD hM hq hmb
    go_enter Tryz.func66,Tryz.ntmps66
    go_wp2_with (first | (go_at_call 88; (with_reducible refine Calls.mono HT.out.1 ?_); rintro e w' ⟨rfl,rfl⟩) | (go_at_call 94; refine Calls.mono (HT.out.2 _) ?_; rintro e w' ⟨rfl,rfl⟩))
    go_ret
    exact ⟨rfl,rfl⟩
set_option maxHeartbeats 1000000 in
theorem Nt.Pad_no (w : World) (ok : Nt.Ok w) (s : ByteArray) (hs : s.size ≤ 9223372036854775807) (n : Int) (h : n < 0 ∨ 512 < n ∨ (0 ≤ n ∧ n ≤ 512 ∧ n < (Nt.by (Nt.nv s) : Int))) :
    Calls Tryz.prog 64 #[.string s,.int .i64 n] w fun e w' => e = .returned (.tuple #[.string ⟨#[]⟩,.int .i64 35]) ∧ Below w.heap.size w w' := by
  have T1 := Nt.Trim_any w s
  have hsz := Nt.ts_size s
  have hle : Nt.by (Nt.nv s) ≤ s.size := Nt.by_le _ _ (Nt.nv_lt s)
  obtain ⟨x,hx⟩ : ∃ x,Nt.ts s = x := ⟨_,rfl⟩
  rw [hx] at T1 hsz
  obtain ⟨l,hl⟩ : ∃ l,Nt.by (Nt.nv s) = l := ⟨_,rfl⟩
  rw [hl] at hsz h hle
  have hsz2 : (x.size : Int) = (l : Int) := by rw [hsz]
  have hlb : (l : Int) ≤ 9223372036854775807 := by omega
  obtain ⟨a,hv⟩ := ok 35 (by decide) (by decide)
  have hc : w.cell? ⟨5,0,none⟩ = some (.iface 200 (.pointer (some a))) := hv.var
  have HT := Lib.hid T1
  have HV := Lib.hid (And.intro hv ok)
  clear T1 hv ok hx hsz hle hl hs
  have P : Calls Tryz.prog 92 #[.string x,.int .i64 n] w fun e w' => e = .returned (.tuple #[.string ⟨#[]⟩,.iface 200 (.pointer (some a))]) ∧ ∃ k,w' = w.drewN k := by
    rcases h with h | h | ⟨h1,h2,h3⟩
    · go_enter Tryz.func92,Tryz.ntmps92
      go_wp2_with fail
      go_quiet (fail)
      go_wp2_with fail
      go_ret2
      exact ⟨rfl,_,rfl⟩
    · have h0 : ¬ n < 0 := by omega
      go_enter Tryz.func92,Tryz.ntmps92
      go_wp2_with fail
      go_quiet (fail)
      go_wp2_with fail
      go_ret2
      exact ⟨rfl,_,rfl⟩
    · have h0 : ¬ n < 0 := by omega
      have h4 : ¬ 512 < n := by omega
      go_enter Tryz.func92,Tryz.ntmps92
      go_wp2_with fail
      go_quiet (fail)
      go_wp2_with fail
      go_ret2
      exact ⟨rfl,_,rfl⟩
  have HP := Lib.hid P
  clear P h hsz2 hlb hc
  go_enter Tryz.func64,Tryz.ntmps64
  go_wp2_with fail
  go_at_call 88
  refine Calls.mono HT.out ?_
  rintro e1 w1 ⟨rfl,rfl⟩
  go_wp2_with fail
  go_at_call 92
  refine Calls.mono HP.out ?_
  rintro e2 w2 ⟨rfl,k,rfl⟩
  go_wp2_with fail
  go_at_call 93
  refine Calls.mono (Nt.told_any _ (HV.out.2.below (Tx.drewNb _ k)) _ 35 (.inr ⟨by decide,by decide,a,rfl,HV.out.1.below (Tx.drewNb _ k)⟩)) ?_
  rintro e4 w4 ⟨rfl,rfl⟩
  go_wp2_with fail
  go_ret2
  exact ⟨rfl,Tx.drewNb _ _⟩
end Go.Proofs.YthlecdggkolgmaaGreatDoor
