/- The reference's May, Rune, low, high. -/
import Derived.Test.YtejnhhhmjkiehaaDoorRefA
import Derived.Test.YtejnhhhmjkiehaaDoorUniS
import Derived.Test.YtejnhhhmjkiehaaDoorPartsM
namespace Go.Proofs.YtejnhhhmjkiehaaDoor
open Go.RowKit

/-- A world behind w0: what lay below is as it was. -/
structure Tx.Up (w0 w : World) : Prop where
  below : Below w0.heap.size w0 w
  size : w0.heap.size ≤ w.heap.size
theorem Tx.Up.start (w : World) : Tx.Up w w := ⟨Below.refl _ _, Nat.le_refl _⟩
theorem Tx.Up.drew {w0 w : World} (h : Tx.Up w0 w) : Tx.Up w0 w.drew := ⟨h.below.drew, h.size⟩
theorem Tx.Up.then {w0 w w' : World} (hb : Below w.heap.size w w') (h : Tx.Up w0 w) : Tx.Up w0 w' := ⟨h.below.trans (hb.mono h.size), Nat.le_trans h.size hb.size⟩
theorem Tx.Up.alloc {w0 w : World} (h : Tx.Up w0 w) (o : Obj) : Tx.Up w0 (w.alloc o) := Tx.Up.then ((Below.refl _ _).alloc (Nat.le_refl _) o) h
theorem Tx.Up.drewN {w0 w : World} (h : Tx.Up w0 w) (n : Nat) : Tx.Up w0 (w.drewN n) := Tx.Up.then (Tx.drewN_below w n) h
theorem Tx.Up.above {w0 w w' : World} {B : Nat} (hb : Below B w w') (hB : w0.heap.size ≤ B) (hs : B ≤ w'.heap.size) (h : Tx.Up w0 w) : Tx.Up w0 w' :=
  ⟨h.below.trans (hb.mono hB), Nat.le_trans hB hs⟩

theorem Tx.Own.made (w : World) (B : Nat) (hB : B ≤ w.heap.size) (l : List UInt8) (hl : l.length ≤ 1000) : Tx.Own (w.alloc (.cells (l.map Tx.bv).toArray 5)) B (.slice (some ⟨w.heap.size, 0, none⟩) l.length l.length) l :=
  ⟨by simp, .inr ⟨w.heap.size, l.length, (l.map Tx.bv).toArray, rfl, hB, heap_alloc_new w _, Nat.le_refl _, by unfold maxLen; omega, by simp, by simp [List.take_of_length_le]⟩⟩
theorem Tx.conv_made (w : World) (l : List UInt8) (n : Nat) (cs : Array Value) (hn : n = l.length) (hc : cs = (l.map Tx.bv).toArray) (hl : l.length ≤ 1000) :
    (convert 49 9 (.slice (some ⟨w.heap.size, 0, none⟩) n n)).run Tryd.prog (w.alloc (.cells cs 5)) = .ok (.string (Tx.ba l)) (w.alloc (.cells cs 5)) := by
  subst hn hc
  exact (Tx.Own.made w w.heap.size (Nat.le_refl _) l hl).conv

set_option maxHeartbeats 4000000 in
set_option maxRecDepth 100000 in
theorem Tx.RMay_t (r : Nat) (h : Tx.Rune r) (w : World) : Calls Tryd.prog 71 #[.int .i64 (r : Int)] w fun e w' => e = .returned (.bool true) ∧ w' = w := by
  unfold Tx.Rune at h
  have h0 : 0 ≤ (r : Int) := by omega
  have h1 : (r : Int) ≤ 1114111 := by omega
  by_cases h2 : (r : Int) < 55296
  · clear h
    go_enter Tryd.func71, Tryd.ntmps71
    go_wp2
    go_ret
    exact ⟨rfl, rfl⟩
  · have h3 : (57343 : Int) < (r : Int) := by omega
    clear h
    go_enter Tryd.func71, Tryd.ntmps71
    go_wp2
    go_ret
    exact ⟨rfl, rfl⟩
set_option maxHeartbeats 4000000 in
set_option maxRecDepth 100000 in
theorem Tx.RMay_f (r : Nat) (h : ¬ Tx.Rune r) (w : World) : Calls Tryd.prog 71 #[.int .i64 (r : Int)] w fun e w' => e = .returned (.bool false) ∧ w' = w := by
  unfold Tx.Rune at h
  have h0 : 0 ≤ (r : Int) := by omega
  by_cases h1 : (r : Int) ≤ 1114111
  · have h2 : ¬ (r : Int) < 55296 := by omega
    have h3 : ¬ (57343 : Int) < (r : Int) := by omega
    clear h
    go_enter Tryd.func71, Tryd.ntmps71
    go_wp2
    go_ret
    exact ⟨rfl, rfl⟩
  · clear h
    go_enter Tryd.func71, Tryd.ntmps71
    go_wp2
    go_ret
    exact ⟨rfl, rfl⟩
set_option maxHeartbeats 4000000 in
set_option maxRecDepth 100000 in
theorem Tx.Rlow_t (u : Int) (h1 : 56320 ≤ u) (h2 : u ≤ 57343) (w : World) : Calls Tryd.prog 47 #[.int .i64 u] w fun e w' => e = .returned (.bool true) ∧ w' = w := by
  go_enter Tryd.func47, Tryd.ntmps47
  go_wp2
  go_ret
  exact ⟨rfl, rfl⟩
set_option maxHeartbeats 4000000 in
set_option maxRecDepth 100000 in
theorem Tx.Rlow_f (u : Int) (h : u < 56320 ∨ 57343 < u) (w : World) : Calls Tryd.prog 47 #[.int .i64 u] w fun e w' => e = .returned (.bool false) ∧ w' = w := by
  rcases h with h | h
  rotate_left
  · have h' : ¬ u ≤ 57343 := by omega
    have h'' : 56320 ≤ u := by omega
    go_enter Tryd.func47, Tryd.ntmps47
    go_wp2
    go_ret
    exact ⟨rfl, rfl⟩
  · go_enter Tryd.func47, Tryd.ntmps47
    go_wp2
    go_ret
    exact ⟨rfl, rfl⟩
set_option maxHeartbeats 4000000 in
set_option maxRecDepth 100000 in
theorem Tx.Rhigh_t (u : Int) (h1 : 55296 ≤ u) (h2 : u ≤ 56319) (w : World) : Calls Tryd.prog 48 #[.int .i64 u] w fun e w' => e = .returned (.bool true) ∧ w' = w := by
  go_enter Tryd.func48, Tryd.ntmps48
  go_wp2
  go_ret
  exact ⟨rfl, rfl⟩
set_option maxHeartbeats 4000000 in
set_option maxRecDepth 100000 in
theorem Tx.Rhigh_f (u : Int) (h : u < 55296 ∨ 56319 < u) (w : World) : Calls Tryd.prog 48 #[.int .i64 u] w fun e w' => e = .returned (.bool false) ∧ w' = w := by
  rcases h with h | h
  rotate_left
  · have h' : ¬ u ≤ 56319 := by omega
    have h'' : 55296 ≤ u := by omega
    go_enter Tryd.func48, Tryd.ntmps48
    go_wp2
    go_ret
    exact ⟨rfl, rfl⟩
  · go_enter Tryd.func48, Tryd.ntmps48
    go_wp2
    go_ret
    exact ⟨rfl, rfl⟩

theorem Tx.byteOf (n : Nat) (h : n < 256) : ∃ c : UInt8, c = UInt8.ofNat n ∧ c.toNat = n := ⟨_, rfl, Tx.o8 n h⟩
set_option maxHeartbeats 8000000 in
set_option maxRecDepth 100000 in
theorem Tx.RRune_any (r : Nat) (hr : r ≤ 1114111) (w : World) : Calls Tryd.prog 49 #[.int .i64 (r : Int)] w fun e w' => e = .returned (.string (Tx.ba (Tx.enc r))) ∧ Below w.heap.size w w' := by
  by_cases h1 : r < 128
  · obtain ⟨c, hc, hn⟩ := Tx.byteOf r (by omega)
    have he : Tx.enc r = [c] := by rw [hc]; simp [Tx.enc, h1]
    have cv := Tx.conv_made w [c] 1 #[.int .u8 (c.toNat : Int)] rfl rfl (by simp)
    have z1 : (c.toNat : Int) < 128 := by omega
    have z2 : IntKind.u8.wrap (c.toNat : Int) = (c.toNat : Int) := by rw [IntKind.wrap_u8]; omega
    rw [he, ← hn]
    clear he hc hn h1 hr
    go_enter Tryd.func49, Tryd.ntmps49
    go_wp2
    go_ret
    exact ⟨rfl, (Below.refl _ _).alloc (Nat.le_refl _) _⟩
  · by_cases h2 : r < 2048
    · obtain ⟨c, hc, hn⟩ := Tx.byteOf (192 + r / 64) (by omega)
      obtain ⟨d, hd, hm⟩ := Tx.byteOf (128 + r % 64) (by omega)
      have he : Tx.enc r = [c, d] := by rw [hc, hd]; simp [Tx.enc, h1, h2]
      have cv := Tx.conv_made w [c, d] 2 #[.int .u8 (c.toNat : Int), .int .u8 (d.toNat : Int)] rfl rfl (by simp)
      have z1 : ¬ (r : Int) < 128 := by omega
      have z2 : (r : Int) < 2048 := by omega
      have z3 : IntKind.u8.wrap (192 + (r : Int) / 64) = (c.toNat : Int) := by rw [IntKind.wrap_u8]; omega
      have z4 : IntKind.u8.wrap (128 + (r : Int) % 64) = (d.toNat : Int) := by rw [IntKind.wrap_u8]; omega
      rw [he]
      clear he hc hd hn hm h1 h2
      go_enter Tryd.func49, Tryd.ntmps49
      go_wp2
      go_ret
      exact ⟨rfl, (Below.refl _ _).alloc (Nat.le_refl _) _⟩
    · by_cases h3 : r < 65536
      · obtain ⟨c, hc, hn⟩ := Tx.byteOf (224 + r / 4096) (by omega)
        obtain ⟨d, hd, hm⟩ := Tx.byteOf (128 + r / 64 % 64) (by omega)
        obtain ⟨f, hf, hk⟩ := Tx.byteOf (128 + r % 64) (by omega)
        have he : Tx.enc r = [c, d, f] := by rw [hc, hd, hf]; simp [Tx.enc, h1, h2, h3]
        have cv := Tx.conv_made w [c, d, f] 3 #[.int .u8 (c.toNat : Int), .int .u8 (d.toNat : Int), .int .u8 (f.toNat : Int)] rfl rfl (by simp)
        have z1 : ¬ (r : Int) < 128 := by omega
        have z2 : ¬ (r : Int) < 2048 := by omega
        have z0 : (r : Int) < 65536 := by omega
        have z3 : IntKind.u8.wrap (224 + (r : Int) / 4096) = (c.toNat : Int) := by rw [IntKind.wrap_u8]; omega
        have z4 : IntKind.u8.wrap (128 + (r : Int) / 64 % 64) = (d.toNat : Int) := by rw [IntKind.wrap_u8]; omega
        have z5 : IntKind.u8.wrap (128 + (r : Int) % 64) = (f.toNat : Int) := by rw [IntKind.wrap_u8]; omega
        rw [he]
        clear he hc hd hf hn hm hk h1 h2 h3
        go_enter Tryd.func49, Tryd.ntmps49
        go_wp2
        go_ret
        exact ⟨rfl, (Below.refl _ _).alloc (Nat.le_refl _) _⟩
      · obtain ⟨c, hc, hn⟩ := Tx.byteOf (240 + r / 262144) (by omega)
        obtain ⟨d, hd, hm⟩ := Tx.byteOf (128 + r / 4096 % 64) (by omega)
        obtain ⟨f, hf, hk⟩ := Tx.byteOf (128 + r / 64 % 64) (by omega)
        obtain ⟨g, hg, hj⟩ := Tx.byteOf (128 + r % 64) (by omega)
        have he : Tx.enc r = [c, d, f, g] := by rw [hc, hd, hf, hg]; simp [Tx.enc, h1, h2, h3]
        have cv := Tx.conv_made w [c, d, f, g] 4 #[.int .u8 (c.toNat : Int), .int .u8 (d.toNat : Int), .int .u8 (f.toNat : Int), .int .u8 (g.toNat : Int)] rfl rfl (by simp)
        have z1 : ¬ (r : Int) < 128 := by omega
        have z2 : ¬ (r : Int) < 2048 := by omega
        have z0 : ¬ (r : Int) < 65536 := by omega
        have z3 : IntKind.u8.wrap (240 + (r : Int) / 262144) = (c.toNat : Int) := by rw [IntKind.wrap_u8]; omega
        have z4 : IntKind.u8.wrap (128 + (r : Int) / 4096 % 64) = (d.toNat : Int) := by rw [IntKind.wrap_u8]; omega
        have z5 : IntKind.u8.wrap (128 + (r : Int) / 64 % 64) = (f.toNat : Int) := by rw [IntKind.wrap_u8]; omega
        have z6 : IntKind.u8.wrap (128 + (r : Int) % 64) = (g.toNat : Int) := by rw [IntKind.wrap_u8]; omega
        rw [he]
        clear he hc hd hf hg hn hm hk hj h1 h2 h3
        go_enter Tryd.func49, Tryd.ntmps49
        go_wp2
        go_ret
        exact ⟨rfl, (Below.refl _ _).alloc (Nat.le_refl _) _⟩
end Go.Proofs.YtejnhhhmjkiehaaDoor
