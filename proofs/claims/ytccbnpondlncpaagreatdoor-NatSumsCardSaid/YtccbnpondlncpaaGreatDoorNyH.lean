/- Pow, Mont, Inv. -/
import Derived.Test.YtccbnpondlncpaaGreatDoorNyB
import Derived.Test.YtccbnpondlncpaaGreatDoorNyF
import Derived.Test.YtccbnpondlncpaaGreatDoorNyG
namespace Go.Proofs.YtccbnpondlncpaaGreatDoor
open Go.RowKit

def Nt.PowP (a e md R K : Nat) : Prop := (md = 0 ∧ R = 0 ∧ K = 31) ∨ (0 < md ∧ R = a ^ e % md ∧ K = 0)
def Nt.MontP (a b md R K : Nat) : Prop := (md = 0 ∧ R = 0 ∧ K = 31) ∨ (0 < md ∧ md % 2 = 0 ∧ R = 0 ∧ K = 34) ∨ (md % 2 = 1 ∧ R < md ∧ R * 256 ^ Nt.by md % md = a * b % md ∧ K = 0)
def Nt.InvP (a md R K : Nat) : Prop := (md = 0 ∧ R = 0 ∧ K = 31) ∨ (0 < md ∧ Nat.gcd a md ≠ 1 ∧ R = 0 ∧ K = 33) ∨ (0 < md ∧ Nat.gcd a md = 1 ∧ R < md ∧ R * a % md = 1 % md ∧ K = 0)
theorem Nt.power_all (w : World) (ok : Nt.Ok w) (ax ay az : Option Addr) (n cx a m cy e l cz md : Nat) (hx : Nt.Num w ax n cx a) (hy : Nt.Num w ay m cy e) (hz : Nt.Num w az l cz md) (hn : n ≤ 100000) (hm : m ≤ 100000) (hl : l ≤ 100000) :
    Calls Tryz.prog 48 #[.slice ax n cx, .slice ay m cy, .slice az l cz] w fun e' w' => ∃ av k c v R K, e' = .returned (.tuple #[.slice av k c, v]) ∧ Nt.Num w' av k c R ∧ Nt.Err w' v K ∧ Nt.PowP a e md R K ∧ k ≤ l ∧ Below w.heap.size w w' := by
  rcases Nat.eq_zero_or_pos md with h0 | h0
  · have hl0 := hz.zero.2 h0
    subst hl0
    refine (Nt.power_zero w ok _ _ az cz).mono ?_
    rintro e' w' ⟨v, rfl, hE, hb⟩
    exact ⟨_, _, _, _, 0, 31, rfl, Nt.Num.nil _, hE, .inl ⟨h0, rfl, rfl⟩, Nat.le_refl _, hb⟩
  · refine (Nt.power_any w ax ay az n cx a m cy e l cz md hx hy hz h0 hn hm hl).mono ?_
    rintro e' w' ⟨av, k, c, rfl, hN, hb⟩
    exact ⟨_, _, _, _, _, 0, rfl, hN, .inl ⟨rfl, rfl⟩, .inr ⟨h0, rfl, rfl⟩, hN.mono2 hz (Nat.le_of_lt (Nat.mod_lt _ h0)), hb⟩
theorem Nt.montgomery_all (w : World) (ok : Nt.Ok w) (ax ay az : Option Addr) (n cx a m cy e l cz md : Nat) (hx : Nt.Num w ax n cx a) (hy : Nt.Num w ay m cy e) (hz : Nt.Num w az l cz md) (hn : n ≤ 100000) (hm : m ≤ 100000) (hl : l ≤ 100000) :
    Calls Tryz.prog 51 #[.slice ax n cx, .slice ay m cy, .slice az l cz] w fun e' w' => ∃ av k c v R K, e' = .returned (.tuple #[.slice av k c, v]) ∧ Nt.Num w' av k c R ∧ Nt.Err w' v K ∧ Nt.MontP a e md R K ∧ k ≤ l ∧ Below w.heap.size w w' := by
  rcases Nat.eq_zero_or_pos md with h0 | h0
  · have hl0 := hz.zero.2 h0
    subst hl0
    refine (Nt.montgomery_zero w ok _ _ az cz).mono ?_
    rintro e' w' ⟨v, rfl, hE, hb⟩
    exact ⟨_, _, _, _, 0, 31, rfl, Nt.Num.nil _, hE, .inl ⟨h0, rfl, rfl⟩, Nat.le_refl _, hb⟩
  · by_cases he : md % 2 = 0
    · refine (Nt.montgomery_even w ok _ _ az l cz md hz h0 hl he).mono ?_
      rintro e' w' ⟨v, rfl, hE, hb⟩
      exact ⟨_, _, _, _, 0, 34, rfl, Nt.Num.nil _, hE, .inr (.inl ⟨h0, he, rfl, rfl⟩), Nat.zero_le _, hb⟩
    · refine (Nt.montgomery_any w ax ay az n cx a m cy e l cz md hx hy hz h0 (by omega) hn hm hl).mono ?_
      rintro e' w' ⟨av, k, c, R, rfl, hN, h1, h2, hb⟩
      exact ⟨_, _, _, _, R, 0, rfl, hN, .inl ⟨rfl, rfl⟩, .inr (.inr ⟨by omega, h1, h2, rfl⟩), hN.mono2 hz (Nat.le_of_lt h1), hb⟩
theorem Nt.inverse_all (w : World) (ok : Nt.Ok w) (ax az : Option Addr) (n cx a l cz md : Nat) (hx : Nt.Num w ax n cx a) (hz : Nt.Num w az l cz md) (hn : n ≤ 100000) (hl : l ≤ 100000) :
    Calls Tryz.prog 49 #[.slice ax n cx, .slice az l cz] w fun e' w' => ∃ av k c v R K, e' = .returned (.tuple #[.slice av k c, v]) ∧ Nt.Num w' av k c R ∧ Nt.Err w' v K ∧ Nt.InvP a md R K ∧ k ≤ l ∧ Below w.heap.size w w' := by
  rcases Nat.eq_zero_or_pos md with h0 | h0
  · have hl0 := hz.zero.2 h0
    subst hl0
    refine (Nt.inverse_zero w ok _ az cz).mono ?_
    rintro e' w' ⟨v, rfl, hE, hb⟩
    exact ⟨_, _, _, _, 0, 31, rfl, Nt.Num.nil _, hE, .inl ⟨h0, rfl, rfl⟩, Nat.le_refl _, hb⟩
  · refine (Nt.inverse_any w ok ax az n cx a l cz md hx hz h0 hn hl).mono ?_
    rintro e' w' ⟨av, k, c, v, R, rfl, hN, hI, hb⟩
    rcases hI with ⟨h1, h2, h3, rfl⟩ | ⟨h1, rfl, hE⟩
    · exact ⟨_, _, _, _, R, 0, rfl, hN, .inl ⟨rfl, rfl⟩, .inr (.inr ⟨h0, h1, h2, h3, rfl⟩), hN.mono2 hz (Nat.le_of_lt h2), hb⟩
    · exact ⟨_, _, _, _, 0, 33, rfl, hN, hE, .inr (.inl ⟨h0, h1, rfl, rfl⟩), hN.mono2 hz (Nat.zero_le _), hb⟩
set_option maxHeartbeats 1000000 in
set_option maxRecDepth 100000 in
theorem Nt.ofThree_power (w : World) (ok : Nt.Ok w) (s t r : ByteArray) (hs : s.size ≤ 512) (ht : t.size ≤ 512) (hr : r.size ≤ 512) :
    Calls Tryz.prog 47 #[Value.func (Fn.func 48) #[] #[], .string s, .string t, .string r] w fun e w' => ∃ R K : Nat, e = .returned (.tuple #[.string ⟨(Nt.fm R).toArray⟩, .int .i64 (K : Int)]) ∧ Nt.PowP (Nt.nv s) (Nt.nv t) (Nt.nv r) R K ∧ Below w.heap.size w w' := by
  have HS := Lib.hid (And.intro ok (And.intro hs (And.intro ht hr)))
  clear ok hs ht hr
  go_enter Tryz.func47, Tryz.ntmps47
  go_wp2_with fail
  go_at_call 53
  refine Calls.mono (Nt.readTwo_ok w s t HS.out.2.1 HS.out.2.2.1) ?_
  rintro e1 w1 ⟨ax, n, cx, ay, m, cy, rfl, h1, h2, hn, hm, hb⟩
  have H1 := Lib.hid (And.intro h1 (And.intro h2 (And.intro hn (And.intro hm hb))))
  clear h1 h2 hn hm hb
  go_wp2_with fail
  go_at_call 69
  refine Calls.mono (Nt.read_ok w1 r HS.out.2.2.2) ?_
  rintro e2 w2 ⟨az, l, cz, rfl, h3, hb2⟩
  have hl := h3.bytes 128 r.size (Nt.nv_lt r) HS.out.2.2.2
  have H2 := Lib.hid (And.intro h3 (And.intro hb2 hl))
  clear h3 hb2 hl
  go_wp2_with fail
  refine Calls.mono (Nt.power_all w2 ((HS.out.1.below H1.out.2.2.2.2).below H2.out.2.1) ax ay az n cx (Nt.nv s) m cy (Nt.nv t) l cz (Nt.nv r) (H1.out.1.below H2.out.2.1) (H1.out.2.1.below H2.out.2.1) H2.out.1 (by have := H1.out.2.2.1; omega) (by have := H1.out.2.2.2.1; omega) (by have := H2.out.2.2; omega)) ?_
  rintro e3 w3 ⟨av, k, c, v, R, K, rfl, hN, hE, hP, hk, hb3⟩
  have H3 := Lib.hid (And.intro hN (And.intro hE (And.intro hP (And.intro hk hb3))))
  clear hN hE hP hk hb3
  go_wp2_with fail
  go_at_call 39
  refine Calls.mono (Nt.form_any w3 av k c R H3.out.1 (by have := H3.out.2.2.2.1; have := H2.out.2.2; omega)) ?_
  rintro e4 w4 ⟨rfl, hb4⟩
  have H4 := Lib.hid hb4
  clear hb4
  go_wp2_with fail
  go_at_call 40
  refine Calls.mono (Nt.told_any w4 ((((HS.out.1.below H1.out.2.2.2.2).below H2.out.2.1).below H3.out.2.2.2.2).below H4.out) _ K (H3.out.2.1.below H4.out)) ?_
  rintro e5 w5 ⟨rfl, rfl⟩
  go_wp2_with fail
  go_ret2
  have hs1 := H1.out.2.2.2.2.size
  have hs2 := Nat.le_trans hs1 H2.out.2.1.size
  have hs3 := Nat.le_trans hs2 H3.out.2.2.2.2.size
  exact ⟨R, K, rfl, H3.out.2.2.1, ((H1.out.2.2.2.2.trans (H2.out.2.1.mono hs1)).trans (H3.out.2.2.2.2.mono hs2)).trans (H4.out.mono hs3)⟩
set_option maxRecDepth 100000 in
theorem Nt.Pow_ok (w : World) (ok : Nt.Ok w) (s t r : ByteArray) (hs : s.size ≤ 512) (ht : t.size ≤ 512) (hr : r.size ≤ 512) :
    Calls Tryz.prog 23 #[.string s, .string t, .string r] w fun e w' => ∃ R K : Nat, e = .returned (.tuple #[.string ⟨(Nt.fm R).toArray⟩, .int .i64 (K : Int)]) ∧ Nt.PowP (Nt.nv s) (Nt.nv t) (Nt.nv r) R K ∧ Below w.heap.size w w' := by
  have HC := Lib.hid (Nt.ofThree_power w ok s t r hs ht hr)
  clear ok hs ht hr
  go_enter Tryz.func23, Tryz.ntmps23
  go_wp2_with fail
  go_at_call 47
  refine Calls.mono HC.out ?_
  rintro e1 w1 ⟨R, K, rfl, hP, hb⟩
  have H1 := Lib.hid (And.intro hP hb)
  clear hP hb
  go_wp2_with fail
  go_ret2
  exact ⟨R, K, rfl, H1.out.1, H1.out.2⟩
set_option maxHeartbeats 1000000 in
set_option maxRecDepth 100000 in
theorem Nt.ofThree_montgomery (w : World) (ok : Nt.Ok w) (s t r : ByteArray) (hs : s.size ≤ 512) (ht : t.size ≤ 512) (hr : r.size ≤ 512) :
    Calls Tryz.prog 47 #[Value.func (Fn.func 51) #[] #[], .string s, .string t, .string r] w fun e w' => ∃ R K : Nat, e = .returned (.tuple #[.string ⟨(Nt.fm R).toArray⟩, .int .i64 (K : Int)]) ∧ Nt.MontP (Nt.nv s) (Nt.nv t) (Nt.nv r) R K ∧ Below w.heap.size w w' := by
  have HS := Lib.hid (And.intro ok (And.intro hs (And.intro ht hr)))
  clear ok hs ht hr
  go_enter Tryz.func47, Tryz.ntmps47
  go_wp2_with fail
  go_at_call 53
  refine Calls.mono (Nt.readTwo_ok w s t HS.out.2.1 HS.out.2.2.1) ?_
  rintro e1 w1 ⟨ax, n, cx, ay, m, cy, rfl, h1, h2, hn, hm, hb⟩
  have H1 := Lib.hid (And.intro h1 (And.intro h2 (And.intro hn (And.intro hm hb))))
  clear h1 h2 hn hm hb
  go_wp2_with fail
  go_at_call 69
  refine Calls.mono (Nt.read_ok w1 r HS.out.2.2.2) ?_
  rintro e2 w2 ⟨az, l, cz, rfl, h3, hb2⟩
  have hl := h3.bytes 128 r.size (Nt.nv_lt r) HS.out.2.2.2
  have H2 := Lib.hid (And.intro h3 (And.intro hb2 hl))
  clear h3 hb2 hl
  go_wp2_with fail
  refine Calls.mono (Nt.montgomery_all w2 ((HS.out.1.below H1.out.2.2.2.2).below H2.out.2.1) ax ay az n cx (Nt.nv s) m cy (Nt.nv t) l cz (Nt.nv r) (H1.out.1.below H2.out.2.1) (H1.out.2.1.below H2.out.2.1) H2.out.1 (by have := H1.out.2.2.1; omega) (by have := H1.out.2.2.2.1; omega) (by have := H2.out.2.2; omega)) ?_
  rintro e3 w3 ⟨av, k, c, v, R, K, rfl, hN, hE, hP, hk, hb3⟩
  have H3 := Lib.hid (And.intro hN (And.intro hE (And.intro hP (And.intro hk hb3))))
  clear hN hE hP hk hb3
  go_wp2_with fail
  go_at_call 39
  refine Calls.mono (Nt.form_any w3 av k c R H3.out.1 (by have := H3.out.2.2.2.1; have := H2.out.2.2; omega)) ?_
  rintro e4 w4 ⟨rfl, hb4⟩
  have H4 := Lib.hid hb4
  clear hb4
  go_wp2_with fail
  go_at_call 40
  refine Calls.mono (Nt.told_any w4 ((((HS.out.1.below H1.out.2.2.2.2).below H2.out.2.1).below H3.out.2.2.2.2).below H4.out) _ K (H3.out.2.1.below H4.out)) ?_
  rintro e5 w5 ⟨rfl, rfl⟩
  go_wp2_with fail
  go_ret2
  have hs1 := H1.out.2.2.2.2.size
  have hs2 := Nat.le_trans hs1 H2.out.2.1.size
  have hs3 := Nat.le_trans hs2 H3.out.2.2.2.2.size
  exact ⟨R, K, rfl, H3.out.2.2.1, ((H1.out.2.2.2.2.trans (H2.out.2.1.mono hs1)).trans (H3.out.2.2.2.2.mono hs2)).trans (H4.out.mono hs3)⟩
set_option maxRecDepth 100000 in
theorem Nt.Mont_ok (w : World) (ok : Nt.Ok w) (s t r : ByteArray) (hs : s.size ≤ 512) (ht : t.size ≤ 512) (hr : r.size ≤ 512) :
    Calls Tryz.prog 29 #[.string s, .string t, .string r] w fun e w' => ∃ R K : Nat, e = .returned (.tuple #[.string ⟨(Nt.fm R).toArray⟩, .int .i64 (K : Int)]) ∧ Nt.MontP (Nt.nv s) (Nt.nv t) (Nt.nv r) R K ∧ Below w.heap.size w w' := by
  have HC := Lib.hid (Nt.ofThree_montgomery w ok s t r hs ht hr)
  clear ok hs ht hr
  go_enter Tryz.func29, Tryz.ntmps29
  go_wp2_with fail
  go_at_call 47
  refine Calls.mono HC.out ?_
  rintro e1 w1 ⟨R, K, rfl, hP, hb⟩
  have H1 := Lib.hid (And.intro hP hb)
  clear hP hb
  go_wp2_with fail
  go_ret2
  exact ⟨R, K, rfl, H1.out.1, H1.out.2⟩
set_option maxHeartbeats 1000000 in
set_option maxRecDepth 100000 in
theorem Nt.ofTwo_inverse (w : World) (ok : Nt.Ok w) (s t : ByteArray) (hs : s.size ≤ 512) (ht : t.size ≤ 512) :
    Calls Tryz.prog 33 #[Value.func (Fn.func 49) #[] #[], .string s, .string t] w fun e w' => ∃ R K : Nat, e = .returned (.tuple #[.string ⟨(Nt.fm R).toArray⟩, .int .i64 (K : Int)]) ∧ Nt.InvP (Nt.nv s) (Nt.nv t) R K ∧ Below w.heap.size w w' := by
  have HS := Lib.hid (And.intro ok (And.intro hs ht))
  clear ok hs ht
  go_enter Tryz.func33, Tryz.ntmps33
  go_wp2_with fail
  go_at_call 53
  refine Calls.mono (Nt.readTwo_ok w s t HS.out.2.1 HS.out.2.2) ?_
  rintro e1 w1 ⟨ax, n, cx, ay, m, cy, rfl, h1, h2, hn, hm, hb⟩
  have H1 := Lib.hid (And.intro h1 (And.intro h2 (And.intro hn (And.intro hm hb))))
  clear h1 h2 hn hm hb
  go_wp2_with fail
  refine Calls.mono (Nt.inverse_all w1 (HS.out.1.below H1.out.2.2.2.2) ax ay n cx (Nt.nv s) m cy (Nt.nv t) H1.out.1 H1.out.2.1 (by have := H1.out.2.2.1; omega) (by have := H1.out.2.2.2.1; omega)) ?_
  rintro e3 w3 ⟨av, k, c, v, R, K, rfl, hN, hE, hP, hk, hb3⟩
  have H3 := Lib.hid (And.intro hN (And.intro hE (And.intro hP (And.intro hk hb3))))
  clear hN hE hP hk hb3
  go_wp2_with fail
  go_at_call 39
  refine Calls.mono (Nt.form_any w3 av k c R H3.out.1 (by have := H3.out.2.2.2.1; have := H1.out.2.2.2.1; omega)) ?_
  rintro e4 w4 ⟨rfl, hb4⟩
  have H4 := Lib.hid hb4
  clear hb4
  go_wp2_with fail
  go_at_call 40
  refine Calls.mono (Nt.told_any w4 (((HS.out.1.below H1.out.2.2.2.2).below H3.out.2.2.2.2).below H4.out) _ K (H3.out.2.1.below H4.out)) ?_
  rintro e5 w5 ⟨rfl, rfl⟩
  go_wp2_with fail
  go_ret2
  have hs1 := H1.out.2.2.2.2.size
  have hs3 := Nat.le_trans hs1 H3.out.2.2.2.2.size
  exact ⟨R, K, rfl, H3.out.2.2.1, (H1.out.2.2.2.2.trans (H3.out.2.2.2.2.mono hs1)).trans (H4.out.mono hs3)⟩
set_option maxRecDepth 100000 in
theorem Nt.Inv_ok (w : World) (ok : Nt.Ok w) (s t : ByteArray) (hs : s.size ≤ 512) (ht : t.size ≤ 512) :
    Calls Tryz.prog 25 #[.string s, .string t] w fun e w' => ∃ R K : Nat, e = .returned (.tuple #[.string ⟨(Nt.fm R).toArray⟩, .int .i64 (K : Int)]) ∧ Nt.InvP (Nt.nv s) (Nt.nv t) R K ∧ Below w.heap.size w w' := by
  have HC := Lib.hid (Nt.ofTwo_inverse w ok s t hs ht)
  clear ok hs ht
  go_enter Tryz.func25, Tryz.ntmps25
  go_wp2_with fail
  go_at_call 33
  refine Calls.mono HC.out ?_
  rintro e1 w1 ⟨R, K, rfl, hP, hb⟩
  have H1 := Lib.hid (And.intro hP hb)
  clear hP hb
  go_wp2_with fail
  go_ret2
  exact ⟨R, K, rfl, H1.out.1, H1.out.2⟩
end Go.Proofs.YtccbnpondlncpaaGreatDoor
