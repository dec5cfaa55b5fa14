import Derived.Test.YtnicolaphmffkaaGreatDoorMaF
set_option linter.unusedVariables false
set_option linter.unusedSimpArgs false
namespace Go.Proofs.YtnicolaphmffkaaGreatDoor
open Go.RowKit
/-- The marks behind an append. -/
def mkO (o : Nat → Nat) (n t g : Nat) : Nat → Nat := fun b => if b < n then o b else if b = g then t else 0
/-- An append to a row of mark t. -/
structure Gw (o : Nat → Nat) (t : Nat) (W W1 W2 : World) (v : Value) (g : Nat) : Prop where
  hb : Below W.heap.size W W1
  hg : W1.grownBy W2 v.ownBlock
  hat : v.ownBlock = some g ∨ W1.heap.size ≤ g
  tag : ∀ q, v.ownBlock = some q → q < W.heap.size ∧ o q = t
  t0 : t ≠ 0
theorem Gw.ky {o : Nat → Nat} {t g : Nat} {W W1 W2 : World} {v : Value} (h : Gw o t W W1 W2 v g) : Ky o t W W2 :=
  ⟨Nat.le_trans h.hb.size h.hg.size, fun k hk ho => (h.hg.block k (Nat.lt_of_lt_of_le hk h.hb.size) (fun e => ho (h.tag k e.symm).2)).trans (h.hb.block k hk)⟩
theorem mkO_old {o : Nat → Nat} {n t g b : Nat} (h : b < n) : mkO o n t g b = o b := if_pos h
theorem Gw.own {o : Nat → Nat} {t g : Nat} {W W1 W2 : World} {v : Value} (h : Gw o t W W1 W2 v g) {u B e sz n : Nat} {x : Value} {xs : List Value} (hu : u ≠ t) (q : OwnT o u B e sz W x n xs) : OwnT (mkO o W.heap.size t g) u B e sz W2 x n xs :=
  ⟨(q.ky h.ky hu).own, fun k hk => by rw [mkO_old (own_lt q.own k hk).2]; exact q.tag k hk⟩
theorem Gw.mv {o : Nat → Nat} {t g : Nat} {W W1 W2 : World} {v : Value} (h : Gw o t W W1 W2 v g) : Mv (Zo o) W (Zo (mkO o W.heap.size t g)) W2 := by
  have m := h.ky.mv h.t0
  exact ⟨m.1, fun k hk hs => ⟨(m.2 k hk hs).1, by show mkO o W.heap.size t g k = 0; rw [mkO_old hk]; exact hs⟩⟩
theorem Gw.mvN {o : Nat → Nat} {t g : Nat} {W W1 W2 : World} {v : Value} (h : Gw o t W W1 W2 v g) : Mv (fun b => W.heap.size ≤ b) W1 (Zo (mkO o W.heap.size t g)) W2 := by
  refine ⟨h.hg.size, fun k hk (hs : W.heap.size ≤ k) => ⟨h.hg.block k hk (fun e => by have := (h.tag k e.symm).1; omega), ?_⟩⟩
  show mkO o W.heap.size t g k = 0
  have e : k ≠ g := by
    intro e
    rcases h.hat with q | q
    · have := (h.tag g q).1; omega
    · omega
  unfold mkO
  rw [if_neg (by omega), if_neg e]
theorem Gw.new {o : Nat → Nat} {t g : Nat} {W W1 W2 : World} {v : Value} (h : Gw o t W W1 W2 v g) : mkO o W.heap.size t g g = t := by
  rcases h.hat with q | q
  · rw [mkO_old (h.tag g q).1]; exact (h.tag g q).2
  · unfold mkO
    rw [if_neg (by have := h.hb.size; omega), if_pos rfl]
theorem tag_new {o : Nat → Nat} {t g n c : Nat} (h : o g = t) : ∀ q, (Value.slice (some ⟨g, 0, none⟩) n c).ownBlock = some q → o q = t := fun q hq => by
  have e : g = q := by injection hq
  rw [← e]; exact h
/-- A list that was made: its block, its length with the marks, its room. -/
structure Lr where
  g : Nat
  n : Nat
  c : Nat
def Lr.cs (r : Lr) : List Value := [.slice (some ⟨r.g, 0, none⟩) r.n r.c]
theorem lr_len (r : Lr) : r.cs.length = 1 := rfl
/-- The marks behind it. -/
structure MkP (sz off : Nat) (v : Value) (o : Nat → Nat) (W : World) (r : Lr) : Prop where
  n2 : 2 ≤ r.n
  nb : r.n ≤ 1048578
  fz : o r.g = 0
  lt : r.g < W.heap.size
  m1 : W.cell? ⟨r.g, (r.n - 2) * sz + off, none⟩ = some v
  m2 : W.cell? ⟨r.g, (r.n - 1) * sz + off, none⟩ = some v
theorem cell_heap {W W' : World} {b j : Nat} (h : W'.heap[b]? = W.heap[b]?) : W'.cell? ⟨b, j, none⟩ = W.cell? ⟨b, j, none⟩ := by
  unfold World.cell?
  rw [h]
theorem MkP.mv {sz off : Nat} {v : Value} {o o' : Nat → Nat} {W W' : World} {r : Lr} (h : MkP sz off v o W r) (m : Mv (Zo o) W (Zo o') W') : MkP sz off v o' W' r :=
  have e := m.2 r.g h.lt h.fz
  ⟨h.n2, h.nb, e.2, Nat.lt_of_lt_of_le h.lt m.1, (cell_heap e.1).trans h.m1, (cell_heap e.1).trans h.m2⟩
/-- The Room's fields: the type of their lists; what a mark is, and where. -/
def rE (k : Nat) : Nat := if k = 0 then 32 else if k = 1 then 78 else if k = 2 then 79 else if k = 4 then 29 else if k = 6 then 22 else if k = 7 then 23 else if k = 8 then 26 else if k = 9 then 28 else 27
def rS (k : Nat) : Nat := if k = 0 then 5 else if k = 1 then 6 else if k = 2 then 2 else if k = 4 then 7 else if k = 6 then 5 else if k = 7 then 4 else if k = 8 then 4 else if k = 9 then 2 else 1
def rO (k : Nat) : Nat := if k = 4 then 1 else if k = 6 then 2 else if k = 8 then 2 else if k = 9 then 1 else 0
def rV (k : Nat) : Value := if k = 9 then .int .i32 4444 else if k = 11 then .string ⟨#[114, 111, 111, 109]⟩ else .int .i64 4444
/-- One field: a list of lists, each with its marks. -/
structure RmF (o : Nat → Nat) (B : Nat) (W : World) (k : Nat) (v : Value) (L : List Lr) : Prop where
  own : OwnT o (10 + k) B (rE k) 1 W v L.length (cellsF Lr.cs L)
  ms : ∀ r ∈ L, MkP (rS k) (rO k) (rV k) o W r
/-- The Room. -/
structure Rm (o : Nat → Nat) (B : Nat) (W : World) (rb : Nat) (F : Nat → List Lr) (V : Nat → Value) : Prop where
  lt : rb < W.heap.size
  cl : ∀ k, k < 17 → W.cell? ⟨rb, k, none⟩ = some (V k)
  fz : ∀ k, W.frozen? ⟨rb, k, none⟩ = false
  ob : o rb = 4
  bb : B ≤ rb
  fl : ∀ k, k < 17 → RmF o B W k (V k) (F k)
/-- Only the room and its lists of lists may turn. -/
structure KyR (o : Nat → Nat) (W : World) (o' : Nat → Nat) (W' : World) : Prop where
  os : W'.os = W.os
  tape : W'.tape = W.tape
  output : W'.output = W.output
  size : W.heap.size ≤ W'.heap.size
  old : ∀ b, b < W.heap.size → o' b = o b
  keep : ∀ b, b < W.heap.size → o b ≠ 4 → o b < 10 → W'.heap[b]? = W.heap[b]?
theorem KyR.refl (o : Nat → Nat) (W : World) : KyR o W o W := ⟨rfl, rfl, rfl, Nat.le_refl _, fun _ _ => rfl, fun _ _ _ _ => rfl⟩
theorem KyR.trans {o o1 o2 : Nat → Nat} {W W1 W2 : World} (h : KyR o W o1 W1) (k : KyR o1 W1 o2 W2) : KyR o W o2 W2 :=
  ⟨k.os.trans h.os, k.tape.trans h.tape, k.output.trans h.output, Nat.le_trans h.size k.size, fun b hb => (k.old b (Nat.lt_of_lt_of_le hb h.size)).trans (h.old b hb), fun b hb h1 h2 => by
    have e := h.old b hb
    exact (k.keep b (Nat.lt_of_lt_of_le hb h.size) (by rw [e]; exact h1) (by rw [e]; exact h2)).trans (h.keep b hb h1 h2)⟩
theorem KyR.below {o : Nat → Nat} {W W' : World} (h : Below W.heap.size W W') : KyR o W o W' := ⟨h.os, h.tape, h.output, h.size, fun _ _ => rfl, fun b hb _ _ => h.block b hb⟩
theorem KyR.mv {o o' : Nat → Nat} {W W' : World} (h : KyR o W o' W') : Mv (Zo o) W (Zo o') W' :=
  ⟨h.size, fun b hb (hs : o b = 0) => ⟨h.keep b hb (by omega) (by omega), by show o' b = 0; rw [h.old b hb]; exact hs⟩⟩
theorem KyR.own {o o' : Nat → Nat} {W W' : World} (h : KyR o W o' W') {t B e sz n : Nat} {v : Value} {xs : List Value} (q : OwnT o t B e sz W v n xs) (h4 : t ≠ 4) (h10 : t < 10) : OwnT o' t B e sz W' v n xs :=
  ⟨own_keepH q.own (fun g hg => h.keep g (own_lt q.own g hg).2 (by rw [q.tag g hg]; exact h4) (by rw [q.tag g hg]; exact h10)), fun g hg => by rw [h.old g (own_lt q.own g hg).2]; exact q.tag g hg⟩
theorem KyR.has {o o' : Nat → Nat} {W W' : World} (h : KyR o W o' W') {b : Nat} {vs : Array Value} (q : Has W b vs) (h4 : o b ≠ 4) (h10 : o b < 10) : Has W' b vs := q.blk h.size (h.keep b q.1 h4 h10)
theorem KyR.bel {o o' : Nat → Nat} {B : Nat} {w W W' : World} (h : KyR o W o' W') (hb : Below B w W) (hB : B ≤ W.heap.size) (ho : ∀ b, b < B → o b = 5) : Below B w W' :=
  ⟨h.os.trans hb.os, h.tape.trans hb.tape, h.output.trans hb.output, Nat.le_trans hb.size h.size, fun k hk => (h.keep k (Nat.lt_of_lt_of_le hk hB) (by rw [ho k hk]; decide) (by rw [ho k hk]; decide)).trans (hb.block k hk)⟩
/-- The room behind blocks that are not its own. -/
theorem Rm.below {o : Nat → Nat} {B : Nat} {W W' : World} {rb : Nat} {F : Nat → List Lr} {V : Nat → Value} (h : Rm o B W rb F V) (hb : Below W.heap.size W W') : Rm o B W' rb F V :=
  have e := hb.block rb h.lt
  ⟨Nat.lt_of_lt_of_le h.lt hb.size, fun k hk => (cell_heap e).trans (h.cl k hk), fun k => by have := h.fz k; unfold World.frozen? at this ⊢; rw [e]; exact this, h.ob, h.bb, fun k hk => ⟨(h.fl k hk).own.ky (Ky.below (t := 3) hb) (by omega), fun r hr => ((h.fl k hk).ms r hr).mv ((Ky.below (t := 3) hb).mv (by decide))⟩⟩
def upd {α : Type} (F : Nat → α) (k : Nat) (x : α) : Nat → α := fun j => if j = k then x else F j
theorem upd_same {α : Type} (F : Nat → α) (k : Nat) (x : α) : upd F k x k = x := if_pos rfl
theorem upd_other {α : Type} (F : Nat → α) {k j : Nat} (x : α) (h : j ≠ k) : upd F k x j = F j := if_neg h
/-- Marks ahead of an append: what is new is never turned. -/
def nwO (n : Nat) : Nat → Nat := fun b => if n ≤ b then 0 else 1
theorem Gw.mvI {o : Nat → Nat} {t g : Nat} {W W1 W2 : World} {v : Value} (q : Gw o t W W1 W2 v g) : Mv (Zo (nwO W.heap.size)) W1 (Zo (mkO o W.heap.size t g)) W2 :=
  ⟨q.mvN.1, fun b hb hs => q.mvN.2 b hb (by
    by_cases h2 : W.heap.size ≤ b
    · exact h2
    · simp [Zo, nwO, h2] at hs)⟩
theorem own_len1 {W : World} {B e : Nat} {L : List Lr} {x : Lr} {g c : Nat} (h : W.ownsRow B e 1 (.slice (some ⟨g, 0, none⟩) (L.length + 1) c) (L.length + 1) (cellsF Lr.cs L ++ x.cs)) : W.ownsRow B e 1 (.slice (some ⟨g, 0, none⟩) (L.length + 1) c) (L ++ [x]).length (cellsF Lr.cs (L ++ [x])) := by
  rw [show (L ++ [x]).length = L.length + 1 by simp, show cellsF Lr.cs (L ++ [x]) = cellsF Lr.cs L ++ x.cs from by rw [cellsF_append]; simp [cellsF]]
  exact h
/-- One list more in a field. -/
theorem Rm.push {o : Nat → Nat} {B k g7 c7 rb : Nat} {W W1 W2 : World} {F : Nat → List Lr} {V : Nat → Value} {r : Lr} (h : Rm o B W rb F V) (hk : k < 17) (q : Gw o (10 + k) W W1 W2 (V k) g7)
    (own' : W2.ownsRow B (rE k) 1 (.slice (some ⟨g7, 0, none⟩) ((F k).length + 1) c7) ((F k).length + 1) (cellsF Lr.cs (F k) ++ r.cs)) (mk : MkP (rS k) (rO k) (rV k) (mkO o W.heap.size (10 + k) g7) W2 r) :
    Rm (mkO o W.heap.size (10 + k) g7) B (W2.setCell ⟨rb, k, none⟩ (.slice (some ⟨g7, 0, none⟩) ((F k).length + 1) c7)) rb (upd F k (F k ++ [r])) (upd V k (.slice (some ⟨g7, 0, none⟩) ((F k).length + 1) c7)) ∧ KyR o W (mkO o W.heap.size (10 + k) g7) (W2.setCell ⟨rb, k, none⟩ (.slice (some ⟨g7, 0, none⟩) ((F k).length + 1) c7)) := by
  have hrb : o rb ≠ 10 + k := by rw [h.ob]; omega
  have e := q.ky.block rb h.lt hrb
  have olt : ∀ b, b < W.heap.size → mkO o W.heap.size (10 + k) g7 b = o b := fun b hb => mkO_old hb
  have kb : mkO o W.heap.size (10 + k) g7 rb = 4 := by rw [olt rb h.lt]; exact h.ob
  have ks : Ky (mkO o W.heap.size (10 + k) g7) 4 W2 (W2.setCell ⟨rb, k, none⟩ (.slice (some ⟨g7, 0, none⟩) ((F k).length + 1) c7)) := Ky.set kb
  have lt2 : rb < W2.heap.size := Nat.lt_of_lt_of_le h.lt q.ky.size
  refine ⟨⟨by simpa [World.setCell] using lt2, fun j hj => ?_, fun j => ?_, kb, h.bb, fun j hj => ?_⟩, ?_⟩
  · by_cases e2 : j = k
    · subst e2
      rw [upd_same]
      exact World.cell?_setCell_same W2 _ _ (by rw [cell_heap e, h.cl j hj])
    · rw [upd_other _ _ e2, World.cell?_setCell_other W2 _ _ _ (by intro e3; injection e3 with _ e4; exact e2 e4.symm), cell_heap e]
      exact h.cl j hj
  · have h1 := h.fz j
    rw [World.frozen?_setCell]
    unfold World.frozen? at h1 ⊢
    rw [e]; exact h1
  · have g7m : mkO o W.heap.size (10 + k) g7 g7 = 10 + k := q.new
    have ne : g7 ≠ rb := fun e3 => by have k5 := kb; rw [← e3, g7m] at k5; omega
    by_cases e2 : j = k
    · subst e2
      rw [upd_same, upd_same]
      refine ⟨⟨own_keepH (own_len1 own') (fun g hg => ?_), tag_new g7m⟩, fun x hx => ?_⟩
      · have e4 : g7 = g := by injection hg
        exact Below.heap_setCell _ _ _ _ (fun e5 => ne (e4.trans e5))
      · rcases List.mem_append.1 hx with hx | hx
        · exact (((h.fl j hk).ms x hx).mv q.mv).mv (ks.mv (by decide))
        · rw [List.mem_singleton.1 hx]
          exact mk.mv (ks.mv (by decide))
    · rw [upd_other _ _ e2, upd_other _ _ e2]
      exact ⟨(q.own (by omega) (h.fl j hj).own).ky ks (by omega), fun x hx => (((h.fl j hj).ms x hx).mv q.mv).mv (ks.mv (by decide))⟩
  · refine ⟨q.hg.os.trans q.hb.os, q.hg.tape.trans q.hb.tape, q.hg.output.trans q.hb.output, by have := q.ky.size; simpa [World.setCell] using this, olt, fun b hb h4 h10 => ?_⟩
    rw [Below.heap_setCell _ _ _ _ (fun e5 => h4 (by rw [e5]; exact h.ob))]
    exact q.ky.block b hb (by omega)
theorem hideQ {P : Prop} (h : P) : Hid P := h
/-- Cells of a block that is never turned again. -/
structure Fz (o : Nat → Nat) (W : World) (g : Nat) (xs : List Value) : Prop where
  z : o g = 0
  lt : g < W.heap.size
  rd : ∀ j u, xs[j]? = some u → W.cell? ⟨g, j, none⟩ = some u
theorem Fz.mv {o o' : Nat → Nat} {W W' : World} {g : Nat} {xs : List Value} (h : Fz o W g xs) (m : Mv (Zo o) W (Zo o') W') : Fz o' W' g xs :=
  have e := m.2 g h.lt h.z
  ⟨e.2, Nat.lt_of_lt_of_le h.lt m.1, fun j u hu => (cell_heap e.1).trans (h.rd j u hu)⟩
theorem fz_own {w : World} {n e sz m g c : Nat} {xs : List Value} (h : w.ownsRow (n + 1) e sz (.slice (some ⟨g, 0, none⟩) m c) m xs) : Fz (nwO n) w g xs := by
  have hg := own_lt h g rfl
  exact ⟨by show (if n ≤ g then 0 else 1) = 0; rw [if_pos (by omega)], hg.2, own_reads h rfl⟩
theorem fz_own0 {w : World} {n b e sz m g c : Nat} {xs : List Value} (h : w.ownsRow b e sz (.slice (some ⟨g, 0, none⟩) m c) m xs) (hb : n ≤ b) : Fz (nwO n) w g xs := by
  have hg := own_lt h g rfl
  exact ⟨by show (if n ≤ g then 0 else 1) = 0; rw [if_pos (by omega)], hg.2, own_reads h rfl⟩
/-- The marks of a row that was made. -/
theorem rm_mark {w : World} {N b e sz off n g c : Nat} {v : Value} {xs mm : List Value} (h : w.ownsRow b e sz (.slice (some ⟨g, 0, none⟩) (n + 2) c) (n + 2) (xs ++ mm)) (hx : xs.length = n * sz) (hn : n ≤ 1048576) (hb : N ≤ b) (h1 : mm[off]? = some v) (h2 : mm[sz + off]? = some v) : MkP sz off v (nwO N) w ⟨g, n + 2, c⟩ := by
  have hg := own_lt h g rfl
  refine ⟨by show 2 ≤ n + 2; omega, by show n + 2 ≤ 1048578; omega, by show (if N ≤ g then 0 else 1) = 0; rw [if_pos (by omega)], hg.2, own_reads h rfl _ _ ?_, own_reads h rfl _ _ ?_⟩
  · show (xs ++ mm)[(n + 2 - 2) * sz + off]? = _
    rw [show n + 2 - 2 = n by omega, List.getElem?_append_right (by omega), hx, show n * sz + off - n * sz = off by omega]
    exact h1
  · show (xs ++ mm)[(n + 2 - 1) * sz + off]? = _
    rw [show n + 2 - 1 = n + 1 by omega, Nat.add_mul, Nat.one_mul, List.getElem?_append_right (by omega), hx, show n * sz + sz + off - n * sz = sz + off by omega]
    exact h2
theorem Rm.ksm {o : Nat → Nat} {B rb : Nat} {W : World} {F : Nat → List Lr} {V : Nat → Value} (h : Rm o B W rb F V) (t g k : Nat) (v : Value) (W2 : World) : Mv (Zo (mkO o W.heap.size t g)) W2 (Zo (mkO o W.heap.size t g)) (W2.setCell ⟨rb, k, none⟩ v) :=
  (Ky.set (t := 4) (by rw [mkO_old h.lt]; exact h.ob)).mv (by decide)
theorem rm_gw {o : Nat → Nat} {B rb k g : Nat} {W W1 W2 : World} {F : Nat → List Lr} {V : Nat → Value} (h : Rm o B W rb F V) (hk : k < 17) (hb : Below W.heap.size W W1) (hg : W1.grownBy W2 (V k).ownBlock) (hat : (V k).ownBlock = some g ∨ W1.heap.size ≤ g) : Gw o (10 + k) W W1 W2 (V k) g :=
  ⟨hb, hg, hat, fun q hq => ⟨(own_lt (h.fl k hk).own.own q hq).2, (h.fl k hk).own.tag q hq⟩, by omega⟩
theorem rm_fz {o : Nat → Nat} {B rb k g : Nat} {W W1 W2 : World} {F : Nat → List Lr} {V : Nat → Value} {v : Value} (h : Rm o B W rb F V) (q : Gw o (10 + k) W W1 W2 v g) (j : Nat) : W2.frozen? ⟨rb, j, none⟩ = false := by
  have e := q.ky.block rb h.lt (by rw [h.ob]; omega)
  have h1 := h.fz j
  unfold World.frozen? at h1 ⊢
  rw [e]; exact h1
/-- What a method of the Room that makes a list answers. -/
def RmQ (o : Nat → Nat) (B : Nat) (W : World) (rb : Nat) (F : Nat → List Lr) (k n : Nat) (xs : List Value) (e : Ending) (W' : World) : Prop :=
  ∃ (o' : Nat → Nat) (g c : Nat) (V' : Nat → Value), e = .returned (.slice (some ⟨g, 0, none⟩) n c) ∧ Hid (Rm o' B W' rb (upd F k (F k ++ [⟨g, n + 2, c⟩])) V') ∧ Hid (KyR o W o' W') ∧ n + 2 ≤ c ∧ Hid (Fz o' W' g xs)
theorem infoR32 : (Tryz.prog.info? 32).map (fun i => (i.zero, i.size, i.bytes)) = some (some (.slice none 0 0), 1, 24) := by kernel_rfl
theorem infoR98 : (Tryz.prog.info? 98).map (fun i => (i.zero, i.size, i.bytes)) = some (some (.agg #[.string ⟨#[]⟩, .bool false, .int .i64 0, .int .i64 0]), 4, 40) := by kernel_rfl
theorem dtLenR (x : Dt) : x.cs.length = 4 := rfl
theorem dtOneR (x : Dt) : ∀ u ∈ x.cs, u.oneCell' = true := all_one rfl
theorem tmLenR (x : ByteArray) : (txC x).length = 1 := rfl
theorem tmOneR (x : ByteArray) : ∀ u ∈ txC x, u.oneCell' = true := all_one rfl
theorem own_capR {w : World} {base e size n g c : Nat} {xs : List Value} (h : w.ownsRow base e size (.slice (some ⟨g, 0, none⟩) n c) n xs) (hn : 0 < n) : n ≤ c := by
  obtain ⟨g', c', e1, hc, -⟩ := own_block h hn
  injection e1 with _ _ e1
  omega
theorem own_maxR {w : World} {base e size n : Nat} {v : Value} {xs : List Value} (h : w.ownsRow base e size v n xs) : n ≤ maxLen := by
  rcases h.2 with ⟨_, h0⟩ | ⟨g, cap, cur, h1, h2, h3, h4, h5, h6⟩
  · omega
  · omega
end Go.Proofs.YtnicolaphmffkaaGreatDoor
