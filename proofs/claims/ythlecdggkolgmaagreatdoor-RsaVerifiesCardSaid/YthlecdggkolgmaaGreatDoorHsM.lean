/- What a sum is: a block's numbers, its rounds, the states, what stands behind the bytes, what is told. -/
import Derived.Test.YthlecdggkolgmaaGreatDoorHsC
import Derived.Deep.MidRow
import Derived.Deep.WholeRow
import Derived.Test.YthlecdggkolgmaaGreatDoorHsE
namespace Go.Proofs.YthlecdggkolgmaaGreatDoor
section
open Go.RowKit

def Hs.rk : List Nat := [4794697086780616226,8158064640168781261,13096744586834688815,16840607885511220156,4131703408338449720,6480981068601479193,10538285296894168987,12329834152419229976,15566598209576043074,1334009975649890238,2608012711638119052,6128411473006802146,8268148722764581231,9286055187155687089,11230858885718282805,13951009754708518548,16472876342353939154,17275323862435702243,1135362057144423861,2597628984639134821,3308224258029322869,5365058923640841347,6679025012923562964,8573033837759648693,10970295158949994411,12119686244451234320,12683024718118986047,13788192230050041572,14330467153632333762,15395433587784984357,489312712824947311,1452737877330783856,2861767655752347644,3322285676063803686,5560940570517711597,5996557281743188959,7280758554555802590,8532644243296465576,9350256976987008742,10552545826968843579,11727347734174303076,12113106623233404929,14000437183269869457,14369950271660146224,15101387698204529176,15463397548674623760,17586052441742319658,1182934255886127544,1847814050463011016,2177327727835720531,2830643537854262169,3796741975233480872,4115178125766777443,5681478168544905931,6601373596472566643,7507060721942968483,8399075790359081724,8693463985226723168,9568029438360202098,10144078919501101548,10430055236837252648,11840083180663258601,13761210420658862357,14299343276471374635,14566680578165727644,15097957966210449927,16922976911328602910,17689382322260857208,500013540394364858,748580250866718886,1242879168328830382,1977374033974150939,2944078676154940804,3659926193048069267,4368137639120453308,4836135668995329356,5532061633213252278,6448918945643986474,6902733635092675308,7801388544844847127]
def Hs.rootsA : Array Value := (Hs.rk.map fun (n : Nat) => Value.int .u64 (n : Int)).toArray
theorem Hs.roots_size : Hs.rootsA.size = 80 := by simp [Hs.rootsA,Hs.rk]
theorem Hs.roots_one : Hs.rootsA.all (·.oneCell') = true := by
  rw [Array.all_eq_true_iff_forall_mem]
  intro v hv
  simp only [Hs.rootsA,List.mem_toArray,List.mem_map] at hv
  obtain ⟨j,_,rfl⟩ := hv
  rfl
theorem Hs.roots_info : (Tryz.prog.info? 166).map (·.size) = some Hs.rootsA.size := by rw [Hs.roots_size]; exact Hs.size83
theorem Hs.roots_row : (Hs.row .u64 80 fun _ => 0).size = Hs.rootsA.size := by rw [Hs.row_size,Hs.roots_size]
set_option maxHeartbeats 8000000 in
set_option maxRecDepth 100000 in
theorem Hs.cubeRoots_any (w : World) :
    Calls Tryz.prog 115 #[] w fun e w' => e = .returned (.agg Hs.rootsA) ∧ Below w.heap.size w w' := by
  have z := Hs.zero83
  go_enter Tryz.func115,Tryz.ntmps115
  go_wp2_with (first | (refine wpList_build rfl 166 _ rfl (by kernel_rfl) ?_) | (refine wpList_store_row rfl 166 (.tmp 0) (.tmp 1) rfl w.heap.size Hs.rootsA rfl (by kernel_rfl) 166 _ (heap_alloc_new w _) Hs.roots_info Hs.roots_row Hs.roots_one ?_; rw [World.setRow_alloc_new]))
  exact bodyPost_ret (v := .agg Hs.rootsA) (results_cell_row rfl _ _ w.heap.size 166 Hs.rootsA (0,0) _ rfl (heap_alloc_new w _) Tryz.underlying166 rfl Hs.roots_info) rfl ⟨rfl,(Below.refl _ _).alloc (Nat.le_refl _) _⟩
end
section
open Go.RowKit

/-- A number that is reckoned at once. -/
def Hs.now {α : Type} (x : Nat) (k : Nat → α) : α := match x with
  | 0 => k 0
  | n + 1 => k (n + 1)
theorem Hs.now_eq {α : Type} (x : Nat) (k : Nat → α) : Hs.now x k = k x := by cases x <;> rfl

/-- What the two kinds differ in. -/
structure Hs.Ks where
  n : Nat
  wb : Nat
  nn : Nat
  rounds : Nat
  a : Nat × Nat × Nat
  b : Nat × Nat × Nat
  c : Nat × Nat × Nat
  d : Nat × Nat × Nat
def Hs.k0 : Hs.Ks := ⟨32,4,8,64,(7,18,3),(17,19,10),(6,11,25),(2,13,22)⟩
def Hs.k1 : Hs.Ks := ⟨64,8,6,80,(1,8,7),(19,61,6),(14,18,41),(28,34,39)⟩

/-- A round's two numbers, out of what was before. -/
def Hs.ch (n e f g : Nat) : Nat := (e &&& f) ^^^ (((2 ^ n - 1) ^^^ e) &&& g)
def Hs.maj (a b c : Nat) : Nat := (a &&& b) ^^^ (a &&& c) ^^^ (b &&& c)
def Hs.tt (n c0 c1 c2 : Nat) (g : Nat → Nat) (k w : Nat) : Nat := (g 7 + Hs.turns n (g 4) c0 c1 c2 + Hs.ch n (g 4) (g 5) (g 6) + k + w) % 2 ^ n
def Hs.uu (n d0 d1 d2 : Nat) (g : Nat → Nat) : Nat := (Hs.turns n (g 0) d0 d1 d2 + Hs.maj (g 0) (g 1) (g 2)) % 2 ^ n

/-- The number that follows from those before, the last one first. -/
def Hs.new (K : Hs.Ks) (l : List Nat) : Nat := (l.getD 15 0 + Hs.small K.n (l.getD 14 0) K.a.1 K.a.2.1 K.a.2.2 + l.getD 6 0 + Hs.small K.n (l.getD 1 0) K.b.1 K.b.2.1 K.b.2.2) % 2 ^ K.n
def Hs.ext (K : Hs.Ks) : Nat → List Nat → List Nat
  | 0,l => l
  | k + 1,l => Hs.now (Hs.new K l) fun x => Hs.ext K k (x :: l)
theorem Hs.ext_length (K : Hs.Ks) : ∀ k l,(Hs.ext K k l).length = k + l.length
  | 0,l => by simp [Hs.ext]
  | k + 1,l => by rw [Hs.ext,Hs.now_eq,Hs.ext_length K k]; simp; omega
theorem Hs.rev_getD (l : List Nat) (j : Nat) (h : j < l.length) : l.getD j 0 = l.reverse.getD (l.length - 1 - j) 0 := by
  simp only [List.getD_eq_getElem?_getD]
  rw [List.getElem?_reverse (by omega)]
  congr 2
  omega
theorem Hs.ext_spec (K : Hs.Ks) : ∀ k l,16 ≤ l.length → (∀ i,i < l.length → (Hs.ext K k l).reverse.getD i 0 = l.reverse.getD i 0) ∧
    (∀ i,l.length ≤ i → i < l.length + k → (Hs.ext K k l).reverse.getD i 0 = Hs.sched K.n K.a.1 K.a.2.1 K.a.2.2 K.b.1 K.b.2.1 K.b.2.2 (fun j => (Hs.ext K k l).reverse.getD j 0) i)
  | 0,l,_ => ⟨fun i _ => rfl,fun i h1 h2 => by omega⟩
  | k + 1,l,hl => by
    have ih := Hs.ext_spec K k (Hs.new K l :: l) (by simp; omega)
    have e : Hs.ext K (k + 1) l = Hs.ext K k (Hs.new K l :: l) := by rw [Hs.ext,Hs.now_eq]
    rw [e]
    have h1 : ∀ i,i < l.length → (Hs.ext K k (Hs.new K l :: l)).reverse.getD i 0 = l.reverse.getD i 0 := by
      intro i hi
      rw [ih.1 i (by simp; omega),List.reverse_cons]
      simp only [List.getD_eq_getElem?_getD]
      rw [List.getElem?_append_left (by simpa using hi)]
    refine ⟨h1,fun i h2 h3 => ?_⟩
    by_cases hi : i = l.length
    · subst hi
      rw [ih.1 l.length (by simp),List.reverse_cons]
      have : (l.reverse ++ [Hs.new K l]).getD l.length 0 = Hs.new K l := by
        simp only [List.getD_eq_getElem?_getD]
        rw [List.getElem?_append_right (by simp)]
        simp
      rw [this]
      clear this ih e
      generalize (Hs.ext K k (Hs.new K l :: l)).reverse = r at h1
      unfold Hs.new Hs.sched
      simp only []
      rw [h1 _ (show l.length - 16 < l.length by omega),h1 _ (show l.length - 15 < l.length by omega),h1 _ (show l.length - 7 < l.length by omega),h1 _ (show l.length - 2 < l.length by omega)]
      rw [Hs.rev_getD l 15 (by omega),Hs.rev_getD l 14 (by omega),Hs.rev_getD l 6 (by omega),Hs.rev_getD l 1 (by omega)]
      rw [show l.length - 1 - 15 = l.length - 16 by omega,show l.length - 1 - 14 = l.length - 15 by omega,show l.length - 1 - 6 = l.length - 7 by omega,show l.length - 1 - 1 = l.length - 2 by omega]
    · exact ih.2 i (by simp; omega) (by simp; omega)

/-- A block's numbers. -/
def Hs.words (K : Hs.Ks) (B : Nat → Nat) : List Nat := (Hs.ext K (K.rounds - 16) ((List.range 16).map fun i => Hs.part K.n K.wb B i K.wb).reverse).reverse
theorem Hs.words_length (K : Hs.Ks) (B : Nat → Nat) (h : 16 ≤ K.rounds) : (Hs.words K B).length = K.rounds := by
  unfold Hs.words
  rw [List.length_reverse,Hs.ext_length]
  simp; omega
theorem Hs.words_low (K : Hs.Ks) (B : Nat → Nat) (j : Nat) (hj : j < 16) : (Hs.words K B).getD j 0 = Hs.part K.n K.wb B j K.wb := by
  unfold Hs.words
  rw [(Hs.ext_spec K _ _ (by simp)).1 j (by simpa using hj),List.reverse_reverse]
  simp [List.getD_eq_getElem?_getD,hj]
theorem Hs.words_high (K : Hs.Ks) (B : Nat → Nat) (i : Nat) (h1 : 16 ≤ i) (h2 : i < K.rounds) : (Hs.words K B).getD i 0 = Hs.sched K.n K.a.1 K.a.2.1 K.a.2.2 K.b.1 K.b.2.1 K.b.2.2 (fun j => (Hs.words K B).getD j 0) i := by
  have := (Hs.ext_spec K (K.rounds - 16) ((List.range 16).map fun i => Hs.part K.n K.wb B i K.wb).reverse (by simp)).2 i (by simpa using h1) (by simp; omega)
  exact this

/-- Eight numbers. -/
structure Hs.V8 where
  a : Nat
  b : Nat
  c : Nat
  d : Nat
  e : Nat
  f : Nat
  g : Nat
  h : Nat
def Hs.V8.get (v : Hs.V8) : Nat → Nat
  | 0 => v.a
  | 1 => v.b
  | 2 => v.c
  | 3 => v.d
  | 4 => v.e
  | 5 => v.f
  | 6 => v.g
  | _ => v.h
def Hs.round (K : Hs.Ks) (k w : Nat) (v : Hs.V8) : Hs.V8 :=
  Hs.now (Hs.tt K.n K.c.1 K.c.2.1 K.c.2.2 v.get k w) fun t =>
  Hs.now ((t + Hs.uu K.n K.d.1 K.d.2.1 K.d.2.2 v.get) % 2 ^ K.n) fun x =>
  Hs.now ((v.d + t) % 2 ^ K.n) fun y => ⟨x,v.a,v.b,v.c,y,v.e,v.f,v.g⟩
def Hs.rounds (K : Hs.Ks) : List Nat → List Nat → Hs.V8 → Hs.V8
  | k :: ks,w :: ws,v => Hs.rounds K ks ws (Hs.round K (k / 2 ^ (64 - K.n)) w v)
  | _,_,v => v
theorem Hs.rounds_succ (K : Hs.Ks) : ∀ (ks ws : List Nat) (v : Hs.V8) (i : Nat),i < ks.length → i < ws.length →
    Hs.rounds K ks (ws.take (i + 1)) v = Hs.round K (ks.getD i 0 / 2 ^ (64 - K.n)) (ws.getD i 0) (Hs.rounds K ks (ws.take i) v)
  | k :: ks,w :: ws,v,0,_,_ => by
    cases ks <;> simp [Hs.rounds]
  | k :: ks,w :: ws,v,i + 1,h1,h2 => by
    have := Hs.rounds_succ K ks ws (Hs.round K (k / 2 ^ (64 - K.n)) w v) i (by simpa using h1) (by simpa using h2)
    simpa [Hs.rounds] using this
  | [],_,_,_,h,_ => by simp at h
  | _ :: _,[],_,_,_,h => by simp at h
theorem Hs.round_get (K : Hs.Ks) (k w : Nat) (v : Hs.V8) :
    (Hs.round K k w v).get 0 = (Hs.tt K.n K.c.1 K.c.2.1 K.c.2.2 v.get k w + Hs.uu K.n K.d.1 K.d.2.1 K.d.2.2 v.get) % 2 ^ K.n ∧ (Hs.round K k w v).get 1 = v.get 0 ∧ (Hs.round K k w v).get 2 = v.get 1 ∧ (Hs.round K k w v).get 3 = v.get 2 ∧
    (Hs.round K k w v).get 4 = (v.get 3 + Hs.tt K.n K.c.1 K.c.2.1 K.c.2.2 v.get k w) % 2 ^ K.n ∧ (Hs.round K k w v).get 5 = v.get 4 ∧ (Hs.round K k w v).get 6 = v.get 5 ∧ (Hs.round K k w v).get 7 = v.get 6 := by
  unfold Hs.round
  simp only [Hs.now_eq]
  exact ⟨rfl,rfl,rfl,rfl,rfl,rfl,rfl,rfl⟩
def Hs.V8.lt (v : Hs.V8) (n : Nat) : Prop := ∀ j,j < 8 → v.get j < 2 ^ n
theorem Hs.V8.all {v : Hs.V8} {p : Nat → Prop} (h : p v.a ∧ p v.b ∧ p v.c ∧ p v.d ∧ p v.e ∧ p v.f ∧ p v.g ∧ p v.h) (j : Nat) : p (v.get j) := by
  obtain ⟨h0,h1,h2,h3,h4,h5,h6,h7⟩ := h
  unfold Hs.V8.get
  split <;> assumption
theorem Hs.round_lt (K : Hs.Ks) (k w : Nat) (v : Hs.V8) (h : v.lt K.n) : (Hs.round K k w v).lt K.n := by
  intro j _
  obtain ⟨g0,g1,g2,g3,g4,g5,g6,g7⟩ := Hs.round_get K k w v
  have hp := Nat.two_pow_pos K.n
  refine Hs.V8.all (p := fun x => x < 2 ^ K.n) ⟨?_,?_,?_,?_,?_,?_,?_,?_⟩ j
  · exact (show (Hs.round K k w v).get 0 < 2 ^ K.n by rw [g0]; exact Nat.mod_lt _ hp)
  · exact (show (Hs.round K k w v).get 1 < 2 ^ K.n by rw [g1]; exact h 0 (by omega))
  · exact (show (Hs.round K k w v).get 2 < 2 ^ K.n by rw [g2]; exact h 1 (by omega))
  · exact (show (Hs.round K k w v).get 3 < 2 ^ K.n by rw [g3]; exact h 2 (by omega))
  · exact (show (Hs.round K k w v).get 4 < 2 ^ K.n by rw [g4]; exact Nat.mod_lt _ hp)
  · exact (show (Hs.round K k w v).get 5 < 2 ^ K.n by rw [g5]; exact h 4 (by omega))
  · exact (show (Hs.round K k w v).get 6 < 2 ^ K.n by rw [g6]; exact h 5 (by omega))
  · exact (show (Hs.round K k w v).get 7 < 2 ^ K.n by rw [g7]; exact h 6 (by omega))
theorem Hs.rounds_lt (K : Hs.Ks) : ∀ (ks ws : List Nat) (v : Hs.V8),v.lt K.n → (Hs.rounds K ks ws v).lt K.n
  | k :: ks,w :: ws,v,h => Hs.rounds_lt K ks ws _ (Hs.round_lt K _ _ v h)
  | [],_,v,h => by simpa [Hs.rounds] using h
  | _ :: _,[],v,h => by simpa [Hs.rounds] using h

/-- The state behind a block. -/
def Hs.plus (n : Nat) : Hs.V8 → Hs.V8 → Hs.V8
  | ⟨a,b,c,d,e,f,g,h⟩,⟨a',b',c',d',e',f',g',h'⟩ =>
    Hs.now ((a + a') % 2 ^ n) fun a => Hs.now ((b + b') % 2 ^ n) fun b => Hs.now ((c + c') % 2 ^ n) fun c => Hs.now ((d + d') % 2 ^ n) fun d =>
    Hs.now ((e + e') % 2 ^ n) fun e => Hs.now ((f + f') % 2 ^ n) fun f => Hs.now ((g + g') % 2 ^ n) fun g => Hs.now ((h + h') % 2 ^ n) fun h => ⟨a,b,c,d,e,f,g,h⟩
theorem Hs.plus_get (n : Nat) (v u : Hs.V8) (j : Nat) : (Hs.plus n v u).get j = (v.get j + u.get j) % 2 ^ n := by
  cases v; cases u
  simp only [Hs.plus,Hs.now_eq]
  unfold Hs.V8.get
  split <;> rfl
def Hs.step (K : Hs.Ks) (v : Hs.V8) (B : Nat → Nat) : Hs.V8 := Hs.plus K.n v (Hs.rounds K Hs.rk (Hs.words K B) v)
theorem Hs.step_lt (K : Hs.Ks) (v : Hs.V8) (B : Nat → Nat) : (Hs.step K v B).lt K.n := by
  intro j _
  unfold Hs.step
  rw [Hs.plus_get]
  exact Nat.mod_lt _ (Nat.two_pow_pos _)

def Hs.K : Nat → Hs.Ks
  | 0 => Hs.k0
  | _ => Hs.k1
def Hs.blk (κ : Nat) : Nat := 16 * (Hs.K κ).wb
def Hs.first : Nat → Hs.V8
  | 0 => ⟨1779033703,3144134277,1013904242,2773480762,1359893119,2600822924,528734635,1541459225⟩
  | _ => ⟨14680500436340154072,7105036623409894663,10473403895298186519,1526699215303891257,7436329637833083697,10282925794625328401,15784041429090275239,5167115440072839076⟩
theorem Hs.first_lt : ∀ κ,(Hs.first κ).lt (Hs.K κ).n
  | 0 => by unfold Hs.V8.lt; decide
  | _ + 1 => by show (Hs.first 1).lt 64; unfold Hs.V8.lt; decide
theorem Hs.blk_pos : ∀ κ,0 < Hs.blk κ
  | 0 => by decide
  | _ + 1 => by show 0 < Hs.blk 1; decide
/-- The state behind so many blocks of the bytes. -/
def Hs.after (κ : Nat) (m : List UInt8) : Nat → Hs.V8
  | 0 => Hs.first κ
  | q + 1 => Hs.step (Hs.K κ) (Hs.after κ m q) fun j => (m.getD (q * Hs.blk κ + j) 0).toNat
theorem Hs.after_lt (κ : Nat) (m : List UInt8) : ∀ q,(Hs.after κ m q).lt (Hs.K κ).n
  | 0 => Hs.first_lt κ
  | _ + 1 => Hs.step_lt _ _ _
theorem Hs.part_congr (n wb : Nat) (B C : Nat → Nat) (i : Nat) : ∀ k,(∀ j,j < k → B (i * wb + j) = C (i * wb + j)) → Hs.part n wb B i k = Hs.part n wb C i k
  | 0,_ => rfl
  | k + 1,h => by
    rw [Hs.part,Hs.part,Hs.part_congr n wb B C i k (fun j hj => h j (by omega)),h k (by omega)]
theorem Hs.step_congr (κ : Nat) (v : Hs.V8) (B C : Nat → Nat) (h : ∀ j,j < Hs.blk κ → B j = C j) : Hs.step (Hs.K κ) v B = Hs.step (Hs.K κ) v C := by
  unfold Hs.step Hs.words
  have : ((List.range 16).map fun i => Hs.part (Hs.K κ).n (Hs.K κ).wb B i (Hs.K κ).wb) = ((List.range 16).map fun i => Hs.part (Hs.K κ).n (Hs.K κ).wb C i (Hs.K κ).wb) := by
    apply List.map_congr_left
    intro i hi
    refine Hs.part_congr _ _ _ _ _ _ fun j hj => h _ ?_
    have hi' := List.mem_range.1 hi
    unfold Hs.blk
    have : i * (Hs.K κ).wb ≤ 15 * (Hs.K κ).wb := Nat.mul_le_mul_right _ (by omega)
    omega
  rw [this]
theorem Hs.after_append (κ : Nat) (m x : List UInt8) : ∀ q,q * Hs.blk κ ≤ m.length → Hs.after κ (m ++ x) q = Hs.after κ m q
  | 0,_ => rfl
  | q + 1,h => by
    rw [Nat.add_mul,Nat.one_mul] at h
    rw [Hs.after,Hs.after,Hs.after_append κ m x q (by omega)]
    refine Hs.step_congr κ _ _ _ fun j hj => ?_
    simp only [List.getD_eq_getElem?_getD]
    rw [List.getElem?_append_left (by omega)]

/-- What stands behind so many bytes. -/
def Hs.noughts (κ n : Nat) : Nat := Hs.blk κ - 1 - (n + 2 * (Hs.K κ).wb) % Hs.blk κ
def Hs.pad (κ n : Nat) : List UInt8 := 128 :: (List.replicate (Hs.noughts κ n) 0 ++ (List.range (2 * (Hs.K κ).wb)).map fun i => UInt8.ofNat (n * 8 / 2 ^ (8 * (2 * (Hs.K κ).wb - 1 - i))))
theorem Hs.pad_length (κ n : Nat) : (Hs.pad κ n).length = 1 + Hs.noughts κ n + 2 * (Hs.K κ).wb := by
  simp [Hs.pad]; omega
/-- What a state tells. -/
def Hs.tell (κ : Nat) (v : Hs.V8) : List UInt8 := (List.range ((Hs.K κ).nn * (Hs.K κ).wb)).map fun i => UInt8.ofNat (v.get (i / (Hs.K κ).wb) / 2 ^ (8 * ((Hs.K κ).wb - 1 - i % (Hs.K κ).wb)))
/-- The sum of the bytes. -/
def Hs.sum (κ : Nat) (m : List UInt8) : List UInt8 := Hs.tell κ (Hs.after κ (m ++ Hs.pad κ m.length) ((m.length + (Hs.pad κ m.length).length) / Hs.blk κ))
/-- The key's block; the mac. -/
def Hs.keyed (κ : Nat) (key : List UInt8) : List UInt8 := (fun k : List UInt8 => k ++ List.replicate (Hs.blk κ - k.length) 0) (if key.length > Hs.blk κ then Hs.sum κ key else key)
def Hs.mac (κ : Nat) (key m : List UInt8) : List UInt8 := Hs.sum κ ((Hs.keyed κ key).map (· ^^^ 92) ++ Hs.sum κ ((Hs.keyed κ key).map (· ^^^ 54) ++ m))
end
end Go.Proofs.YthlecdggkolgmaaGreatDoor
