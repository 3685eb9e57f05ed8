/- Units: writeRune, writeUnits, Units, Utf8. -/
import Derived.Test.YtbemgeicpbcdhaaDoorKitI
import Derived.Test.YtbemgeicpbcdhaaDoorAs
import Derived.Test.YtbemgeicpbcdhaaDoorShelf
import Derived.Test.YtbemgeicpbcdhaaDoorUtfM
import Derived.Test.YtbemgeicpbcdhaaDoorB64W
namespace Go.Proofs.YtbemgeicpbcdhaaDoor
open Go.RowKit

def Tx.Tabs (w : World) : Prop := Lib.Utf8Tabs 0 1 w
theorem Tx.Tabs.below {w w' : World} {B : Nat} (h : Tx.Tabs w) (hb : Below B w w') (hB : 2 ≤ B) : Tx.Tabs w' := by
  refine ⟨fun c hc => ?_, fun i hi => ?_⟩
  · exact (hb.cell (p := ⟨0, c, none⟩) (by simp; omega)).trans (h.1 c hc)
  · exact ⟨(hb.cell (p := ⟨1, _, none⟩) (by simp; omega)).trans (h.2 i hi).1, (hb.cell (p := ⟨1, _, none⟩) (by simp; omega)).trans (h.2 i hi).2⟩

set_option maxHeartbeats 4000000 in
set_option maxRecDepth 100000 in
theorem Tx.Utf8_any (s : ByteArray) (w : World) (hs : s.size ≤ 9223372036854775807) (hT : Tx.Tabs w) :
    Calls Tryd.prog 19 #[.string s] w fun e w' => e = .returned (.bool (Tx.runes s.data.toList).isSome) ∧ Below w.heap.size w w' := by
  have cv := Tryd.utf8_ValidString s w hs hT
  rw [Tx.valid_runes _ _ (Nat.le_refl _)] at cv
  have CV := Lib.hid cv
  clear cv
  generalize (Tx.runes s.data.toList).isSome = V at *
  go_enter Tryd.func19, Tryd.ntmps19
  go_wp2_with fail
  refine CV.out.mono ?_
  rintro e w' ⟨rfl, hb⟩
  go_wp2_with fail
  go_ret
  exact ⟨rfl, hb⟩

def Tx.ci (l : List Nat) : List Int := l.map (Int.ofNat ·)

set_option maxHeartbeats 4000000 in
set_option maxRecDepth 100000 in
theorem Tx.writeRune_any (r : Nat) (hr : r ≤ 1114111) (B : Nat) (v : Value) (l : List Int) (w : World) (hB : B ≤ w.heap.size) (hown : Tx.OwnI w B v l) (hl : l.length + 2 ≤ 17592186044416) :
    Calls Tryd.prog 33 #[v, .int .i64 (r : Int)] w fun e w' => ∃ v', e = .returned v' ∧ Tx.OwnI w' B v' (l ++ Tx.ci (Tx.unitsR r)) ∧ Below B w w' := by
  unfold Tx.unitsR
  by_cases h : r < 65536
  · rw [if_pos h]
    have hz : (r : Int) < 65536 := by omega
    go_enter Tryd.func33, Tryd.ntmps33
    go_wp2_with (at_builtin; refine Tx.appendI rfl _ _ rfl B _ _ rfl (Tx.OwnI.alloc hown _) ⟨_, 0, none⟩ 1 [_] rfl (World.news_of_block (heap_alloc_new _ _)) (by simp; omega) (by simp; omega) ?_; intro v1 w1 hown1 hb1 hz1)
    go_ret
    exact ⟨_, rfl, hown1, ((Below.refl B w).alloc hB _).trans hb1⟩
  · rw [if_neg h]
    have hz : ¬ (r : Int) < 65536 := by omega
    have hz2 : (65536 : Int) ≤ (r : Int) := by omega
    have e1 : ((55296 + (r - 65536) / 1024 : Nat) : Int) = 55296 + ((r : Int) - 65536) / 1024 := by omega
    have e2 : ((56320 + (r - 65536) % 1024 : Nat) : Int) = 56320 + ((r : Int) - 65536) % 1024 := by omega
    simp only [Tx.ci, List.map_cons, List.map_nil, Int.ofNat_eq_natCast, e1, e2]
    clear e1 e2
    go_enter Tryd.func33, Tryd.ntmps33
    go_wp2_with (at_builtin; refine Tx.appendI rfl _ _ rfl B _ _ rfl (Tx.OwnI.alloc hown _) ⟨_, 0, none⟩ 2 [_, _] rfl (World.news_of_block (heap_alloc_new _ _)) (by simp; omega) (by simp; omega) ?_; intro v1 w1 hown1 hb1 hz1)
    go_ret
    exact ⟨_, rfl, hown1, ((Below.refl B w).alloc hB _).trans hb1⟩
end Go.Proofs.YtbemgeicpbcdhaaDoor
