/- Byte slices that a call owns: make, append, string(b), in one word. -/
import Derived.Test.YtbemgeicpbcdhaaDoorProg
import Derived.WalkKit
import Derived.ProofKit
import Derived.Below
import Derived.Handy
import Derived.Lib.Hide
import Derived.Deep.LoopGhost
import Derived.Laws.IdiomStrings
import Derived.Laws.BytesArg
import Derived.WalkLawsBesides
import Derived.WalkSpells
import Derived.Deep.RegionHeld3
import Derived.Deep.AppendLies
namespace Go.Proofs.YtbemgeicpbcdhaaDoor
open Go.RowKit

def Tx.bv (c : UInt8) : Value := .int .u8 (c.toNat : Int)
def Tx.ba (l : List UInt8) : ByteArray := ⟨l.toArray⟩
/-- Slice value v holds the bytes l in a row of the call's own, from block B on. -/
def Tx.Own (w : World) (B : Nat) (v : Value) (l : List UInt8) : Prop := w.ownsRow B 5 1 v l.length (l.map Tx.bv)

theorem Tx.info8 : (Tryd.prog.info? 5).map (fun i => (i.zero, i.size, i.bytes)) = some (some (.int .u8 0), 1, 1) := by kernel_rfl

theorem Tx.Own.nil (w : World) (B : Nat) : Tx.Own w B (.slice none 0 0) [] := World.ownsRow_nil w B _ _
theorem Tx.Own.below {w w' : World} {B B' : Nat} {v : Value} {l : List UInt8} (h : Tx.Own w B v l) (hb : Below B' w w') (hB : w.heap.size ≤ B') : Tx.Own w' B v l := by
  refine ⟨h.1, ?_⟩
  rcases h.2 with hn | ⟨g, cap, cur, rfl, hg, hgg, rest⟩
  · exact .inl hn
  · refine .inr ⟨g, cap, cur, rfl, hg, ?_, rest⟩
    rw [hb.block g (Nat.lt_of_lt_of_le (Array.getElem?_eq_some_iff.1 hgg).1 hB)]
    exact hgg
theorem Tx.Own.mono {w : World} {B B' : Nat} {v : Value} {l : List UInt8} (h : Tx.Own w B v l) (hB : B' ≤ B) : Tx.Own w B' v l := by
  refine ⟨h.1, ?_⟩
  rcases h.2 with hn | ⟨g, cap, cur, rfl, hg, rest⟩
  · exact .inl hn
  · exact .inr ⟨g, cap, cur, rfl, Nat.le_trans hB hg, rest⟩
theorem Tx.Own.drew {w : World} {B : Nat} {v : Value} {l : List UInt8} (h : Tx.Own w B v l) : Tx.Own w.drew B v l := h
theorem Tx.Own.drewN {w : World} {B : Nat} {v : Value} {l : List UInt8} (h : Tx.Own w B v l) : ∀ n, Tx.Own (w.drewN n) B v l
  | 0 => h
  | n + 1 => (Tx.Own.drewN h n).drew
theorem Tx.drewN_size (w : World) : ∀ n, (w.drewN n).heap.size = w.heap.size
  | 0 => rfl
  | n + 1 => Tx.drewN_size w n
theorem Tx.Own.alloc {w : World} {B : Nat} {v : Value} {l : List UInt8} (h : Tx.Own w B v l) (o : Obj) : Tx.Own (w.alloc o) B v l := World.ownsRow.alloc h o
theorem Tx.Own.size {w : World} {B : Nat} {v : Value} {l : List UInt8} (h : Tx.Own w B v l) : ∃ g cap, v = .slice g l.length cap := by
  rcases h.2 with ⟨rfl, hn⟩ | ⟨g, cap, cur, rfl, _⟩
  · exact ⟨_, _, by rw [hn]⟩
  · exact ⟨_, _, rfl⟩

/-- string(b). -/
theorem Tx.Own.conv {w : World} {B : Nat} {v : Value} {l : List UInt8} (h : Tx.Own w B v l) : (convert 38 9 v).run Tryd.prog w = .ok (.string (Tx.ba l)) w := by
  rcases h.2 with ⟨rfl, hn⟩ | ⟨g, cap, cur, rfl, hg, hgg, hc, hm, hs, ht⟩
  · have : l = [] := List.length_eq_zero_iff.1 hn
    subst this
    exact run_convert_bytes_nil (P := Tryd.prog) (w := w) _ _ Tryd.underlying38 Tryd.underlying5 0 0 _ Tryd.underlying9
  · refine run_convert_bytes_back (P := Tryd.prog) w _ _ _ _ cap l Tryd.underlying38 Tryd.underlying5 Tryd.underlying9 (fun j hj => ?_)
    have e := congrArg (·[j]?) ht
    simp only [List.getElem?_take, List.getElem?_map] at e
    rw [if_pos (by omega), List.getElem?_eq_getElem hj] at e
    simp only [Array.getElem?_toList, Option.map_some] at e
    have ea : ((⟨g, 0, none⟩ : Addr).add j) = ⟨g, j, none⟩ := by unfold Addr.add; split <;> simp_all
    rw [ea]
    simp [World.cell?, hgg, e, Tx.bv]

section
variable {w : World} {ops : Array Oper} {rest : List Oper} {o : Oper} {a : Act} {Q : Exit → Act → World → Prop}

/-- make([]byte, 0, n). -/
theorem Tx.make (hg : o.guard = none) (l c : Operand) (hop : o.op = Op.makeSlice 38 l c) (B n : Nat) (C : Int) (hl : a.eval l = .int .i64 0) (hc : a.eval c = .int .i64 C) (hC : C = (n : Int)) (hn : n ≤ 281474976710656) (hB : B ≤ w.heap.size)
    (hK : ∀ v w', Tx.Own w' B v [] → Below w.heap.size w w' → B ≤ w'.heap.size → wpList Tryd.prog ops Q rest (a.put o.dst v) w') : wpList Tryd.prog ops Q (o :: rest) a w := by
  obtain ⟨i0, hi, hz0, hz1, hz2⟩ := info_parts Tx.info8
  refine wpList_make_own w hg l c 38 hop B 5 i0 (.int .u8 0) 1 Tryd.underlying38 hi hz0 hz1 .i64 .i64 C n hl hc hC (by rw [hz2]; omega) (by unfold maxLen; omega) hB ?_
  intro w' h1 h2
  exact hK _ w' h1 ((Below.refl _ _).grown h2 (Nat.le_refl _) (by simp)) (Nat.le_trans hB h2.size)

/-- append of some bytes to what the call owns. -/
theorem Tx.append (hg : o.guard = none) (s x : Operand) (hop : o.op = .call { callee := .builtin .append, args := #[s, x], argTypes := #[38, 38] }) (B : Nat) (v : Value) (l : List UInt8) (hs : a.eval s = v) (hown : Tx.Own w B v l)
    (ad : Addr) (c : Nat) (bs : List UInt8) (hx : a.eval x = .slice (some ad) bs.length c) (hnew : ∀ j u, (bs.map Tx.bv)[j]? = some u → w.cell? (ad.add j) = some u) (hlen : l.length + bs.length ≤ 140737488355328) (hB : B ≤ w.heap.size)
    (hK : ∀ v' w', Tx.Own w' B v' (l ++ bs) → Below B w w' → B ≤ w'.heap.size → wpList Tryd.prog ops Q rest (a.put o.dst v') w') : wpList Tryd.prog ops Q (o :: rest) a w := by
  obtain ⟨i0, hi, hz0, hz1, hz2⟩ := info_parts Tx.info8
  refine wpList_append_own w hg s x 38 hop B 5 i0 (.int .u8 0) 1 1 Tryd.underlying38 hi hz0 hz1 hz2 rfl (by decide) v l.length (l.map Tx.bv) hs hown ad bs.length c (bs.map Tx.bv) hx (by simp) hnew (by intro u hu; obtain ⟨b, _, rfl⟩ := List.mem_map.1 hu; rfl) (by unfold maxLen; omega) (by omega) hB ?_
  intro v' w' h1 h2 _
  refine hK v' w' ?_ ((Below.refl _ _).grown h2 hB fun k hk => (World.ownsRow.lt hown k hk).1) (Nat.le_trans hB h2.size)
  simpa [Tx.Own] using h1

/-- The same as one step of a region that draws its order. -/
theorem Tx.append_step {K : Act → World → Prop} {E : Prop} (hg : o.guard = none) (s x : Operand) (hop : o.op = .call { callee := .builtin .append, args := #[s, x], argTypes := #[38, 38] }) (B : Nat) (v : Value) (l : List UInt8) (hs : a.eval s = v) (hown : Tx.Own w B v l)
    (ad : Addr) (c : Nat) (bs : List UInt8) (hx : a.eval x = .slice (some ad) bs.length c) (hnew : ∀ j u, (bs.map Tx.bv)[j]? = some u → w.cell? (ad.add j) = some u) (hp : 0 < bs.length) (hlen : l.length + bs.length ≤ 140737488355328) (hB : B ≤ w.heap.size)
    (hK : ∀ v' w', Tx.Own w' B v' (l ++ bs) → Below B w w' → B ≤ w'.heap.size → K (a.put o.dst v') w') : if Region.wanted o (yielded ops a.tmps) = true then Oper.wp Tryd.prog o a w K Q else E := by
  obtain ⟨i0, hi, hz0, hz1, hz2⟩ := info_parts Tx.info8
  refine step_append_lies w hg s x 38 hop B 5 i0 (.int .u8 0) 1 1 Tryd.underlying38 hi hz0 hz1 hz2 rfl (by decide) v l.length (l.map Tx.bv) hs hown ad bs.length c (bs.map Tx.bv) hx (by simp) hnew (by intro u hu; obtain ⟨b, _, rfl⟩ := List.mem_map.1 hu; rfl) hp (by unfold maxLen; omega) (by omega) hB w.heap.size rfl ?_
  intro g cap w' h1 h2 _ _
  refine hK _ w' ?_ ((Below.refl _ _).grown h2 hB fun k hk => (World.ownsRow.lt hown k hk).1) (Nat.le_trans hB h2.size)
  simpa [Tx.Own] using h1
end

theorem Tx.take_all (s : ByteArray) : s.data.toList.take s.size = s.data.toList := List.take_of_length_le (by simp)
theorem Tx.len (s : ByteArray) : s.data.toList.length = s.size := by simp
theorem Tx.get (s : ByteArray) (k : Nat) (h : k < s.size) : s.data.toList[k]'(by simpa using h) = s[k] := rfl
end Go.Proofs.YtbemgeicpbcdhaaDoor
