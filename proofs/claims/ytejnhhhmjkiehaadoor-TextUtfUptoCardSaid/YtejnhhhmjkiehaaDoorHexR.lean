/- Base sixteen: readHex, FromHex. -/
import Derived.Test.YtejnhhhmjkiehaaDoorHex
namespace Go.Proofs.YtejnhhhmjkiehaaDoor
open Go.RowKit

/-- What a reader of bytes answers: the bytes, in a row of its own, or an error that comes to c. -/
def Tx.BytesOr (c : Int) (r : Option (List UInt8)) (w : World) (e : Ending) (w' : World) : Prop :=
  Below w.heap.size w w' ∧ match r with
    | some b => ∃ v, e = .returned (.tuple #[v, .nilIface]) ∧ Tx.Own w' w.heap.size v b
    | none => ∃ n x, e = .returned (.tuple #[.slice none 0 0, x]) ∧ As.Chain c n x
theorem Tx.BytesOr.mk_some {c : Int} {r : Option (List UInt8)} {w w' : World} {b : List UInt8} {v : Value} (hr : r = some b) (hb : Below w.heap.size w w') (hv : Tx.Own w' w.heap.size v b) : Tx.BytesOr c r w (.returned (.tuple #[v, .nilIface])) w' := by
  subst hr; exact ⟨hb, v, rfl, hv⟩
theorem Tx.BytesOr.mk_none {c : Int} {r : Option (List UInt8)} {w w' : World} {n : Nat} {x : Value} (hr : r = none) (hb : Below w.heap.size w w') (hx : As.Chain c n x) : Tx.BytesOr c r w (.returned (.tuple #[.slice none 0 0, x])) w' := by
  subst hr; exact ⟨hb, n, x, rfl, hx⟩

set_option maxHeartbeats 4000000 in
set_option maxRecDepth 100000 in
theorem Tx.readHex_any (s : ByteArray) (w : World) (hs : s.size ≤ 70368744177664) :
    Calls Tryd.prog 38 #[.string s] w (Tx.BytesOr 10 (Tx.unhexL s.data.toList) w) := by
  have hlen := Tx.len s
  by_cases hodd : s.size % 2 = 0
  · have t0 : (!((s.size : Int) % 2 == 0)) = false := by simp; omega
    have t1 : ((s.size : Int) % 2 == 0) = true := by simp; omega
    have t2 : ((s.size : Int) % 2 != 0) = false := by simp; omega
    clear hlen
    have HO := Lib.hid hodd
    clear hodd
    go_enter Tryd.func38, Tryd.ntmps38
    go_wp2_with (at_make; refine Tx.make rfl _ _ rfl w.heap.size (s.size / 2) _ rfl rfl (by omega) (by omega) (Nat.le_refl _) ?_; intro v0 w0 hown0 hb0 hz0)
    clear t0 t1 t2
    go_loopw [4, 5] (fun v i wr => ∃ (k : Nat) (l : List UInt8), k ≤ s.size ∧ k % 2 = 0 ∧ i = .int .i64 k ∧ l.length ≤ k ∧ Tx.Own wr w.heap.size v l ∧ Below w.heap.size w wr ∧ Tx.unhexL s.data.toList = (Tx.unhexL (s.data.toList.drop k)).map (l ++ ·)) (fun _ i _ => s.size - (intOf i).toNat)
    case atStart => exact ⟨0, [], by omega, by omega, rfl, by simp, hown0, hb0, by simp⟩
    case round =>
      obtain ⟨k, l, hk, hk2, rfl, hl, hown, hb, he⟩ := hrel
      have HK := Lib.hid hk2
      have HE := Lib.hid he
      clear hk2 he
      by_cases hlt : k < s.size
      · have hlt1 : k + 1 < s.size := by have := HO.out; have := HK.out; omega
        have hlz : (k : Int) < (s.size : Int) := by omega
        have hlz1 : (k : Int) + 1 < (s.size : Int) := by omega
        have hst := Tx.unhex_step s.data.toList k (by simpa using hlt1)
        rw [Tx.get s k hlt, Tx.get s (k + 1) hlt1] at hst
        have HST := Lib.hid hst
        clear hst
        rcases hu : Tx.unpair s[k] s[k + 1] with _ | c
        · have cp := fun wx => (Tx.readPair_none hu wx).mono fun _ _ (h : _ ∧ _) => And.intro h.1 h.2.symm
          have HU := Lib.hid hu
          clear hu
          have x1 : IntKind.i64.wrap ((k : Int) + 1) = (k : Int) + 1 := IntWalk.i64_in _ (by omega)
          have x2 : 0 ≤ (k : Int) + 1 := by omega
          have x3 : ((k : Int) + 1).toNat = k + 1 := by omega
          go_wp2_with fail
          go_quiet ((go_at_call 54; exact Calls.quiet_of_same (cp _)))
          go_wp2
          go_ret2
          refine Tx.BytesOr.mk_none ?_ (below_drewN hb nq) (.placed _ .fault)
          rw [HE.out, HST.out, HU.out]; rfl
        · have cp := fun wx => (Tx.readPair_some hu wx).mono fun _ _ (h : _ ∧ _) => And.intro h.1 h.2.symm
          have HU := Lib.hid hu
          clear hu
          have x1 : IntKind.i64.wrap ((k : Int) + 1) = (k : Int) + 1 := IntWalk.i64_in _ (by omega)
          have x2 : 0 ≤ (k : Int) + 1 := by omega
          have x3 : ((k : Int) + 1).toNat = k + 1 := by omega
          go_wp2_with fail
          go_quiet ((go_at_call 54; exact Calls.quiet_of_same (cp _)))
          have hsz := Tx.drewN_size wr nq
          have hbs := hb.size
          have HB := Lib.hid hsz
          clear hsz
          go_wp2_with (at_builtin; refine Tx.append rfl _ _ rfl w.heap.size u4 l rfl ((hown.drewN nq).alloc _) ⟨(wr.drewN nq).heap.size, 0, none⟩ 1 [c] rfl (World.news_of_block (heap_alloc_new (wr.drewN nq) _)) (by simp; omega) (by have := HB.out; simp; omega) ?_; intro v1 w1 hown1 hb1 hz1)
          refine ⟨⟨k + 2, l ++ [c], by omega, by have := HK.out; omega, by go_num, by simp; omega, hown1, ((below_drewN hb nq).alloc (by have := HB.out; omega) _).trans hb1, ?_⟩, by simp [intOf]; omega⟩
          rw [HE.out, HST.out, HU.out]
          simp [Option.map_map, Function.comp_def]
      · have hk' : s.data.toList.drop k = [] := List.drop_eq_nil_of_le (by simp; omega)
        have hr := HE.out
        rw [hk'] at hr
        have HR := Lib.hid hr
        clear hr hk'
        go_wp2
        go_ret2
        exact Tx.BytesOr.mk_some (by rw [HR.out]; simp [Tx.unhexL]) hb hown
  · have hn : Tx.unhexL s.data.toList = none := Tx.unhex_none_odd (by rw [hlen]; exact hodd)
    rw [hn]
    have t0 : (!((s.size : Int) % 2 == 0)) = true := by simp; omega
    have t1 : ((s.size : Int) % 2 == 0) = false := by simp; omega
    have t2 : ((s.size : Int) % 2 != 0) = true := by simp; omega
    clear hn hlen hodd
    go_enter Tryd.func38, Tryd.ntmps38
    go_wp2
    go_ret2
    exact Tx.BytesOr.mk_none rfl (Below.refl _ _) (.placed _ .fault)

/-- The answer of FromHex and FromBase64. -/
def Tx.bytesAns (c : Int) : Option (List UInt8) → Value
  | some b => .tuple #[.string (Tx.ba b), .int .i64 0]
  | none => .tuple #[.string (Tx.ba []), .int .i64 c]
theorem Tx.conv_nil (w : World) : (convert 49 9 (.slice none 0 0)).run Tryd.prog w = .ok (.string (Tx.ba [])) w := (Tx.Own.nil w 0).conv

set_option maxHeartbeats 4000000 in
set_option maxRecDepth 100000 in
theorem Tx.FromHex_any (s : ByteArray) (w : World) (hs : s.size ≤ 70368744177664) (hg : As.ErrVar w) :
    Calls Tryd.prog 12 #[.string s] w fun e w' => e = .returned (Tx.bytesAns 10 (Tx.unhexL s.data.toList)) ∧ Below w.heap.size w w' := by
  have cr := Tx.readHex_any s w hs
  have h3 := hg.size
  have HG := Lib.hid hg
  clear hg
  rcases hr : Tx.unhexL s.data.toList with _ | b
  · rw [hr] at cr
    have HR := Lib.hid hr
    clear hr
    go_enter Tryd.func12, Tryd.ntmps12
    go_wp2_with fail
    refine cr.mono ?_
    rintro e w1 ⟨hb, n, x, rfl, hx⟩
    have ct := As.told_err 10 n x hx
    have cn := Tx.conv_nil
    have hg1 := HG.out.below hb h3
    have HG1 := Lib.hid hg1
    clear hg1
    go_wp2_with fail
    go_region_held3 (fun w' => True) (trivial) ((refine (ct _ (by exact HG1.out)).mono ?_; rintro e w2 ⟨rfl, hb2⟩))
    all_goals
      go_wp2
      go_ret2
      exact ⟨rfl, hb.drew.trans (hb2.mono hb.size)⟩
  · rw [hr] at cr
    have HR := Lib.hid hr
    clear hr
    go_enter Tryd.func12, Tryd.ntmps12
    go_wp2_with fail
    refine cr.mono ?_
    rintro e w1 ⟨hb, v, rfl, hown⟩
    have ct := fun wx => (As.told_nil wx).mono fun _ _ (h : _ ∧ _) => And.intro h.1 h.2.symm
    have hcv := fun n => (hown.drewN n).conv
    go_wp2_with fail
    go_quiet ((go_at_call 39; exact Calls.quiet_of_same (ct _)))
    go_wp2
    go_ret2
    exact ⟨rfl, below_drewN hb nq⟩
end Go.Proofs.YtejnhhhmjkiehaaDoor
