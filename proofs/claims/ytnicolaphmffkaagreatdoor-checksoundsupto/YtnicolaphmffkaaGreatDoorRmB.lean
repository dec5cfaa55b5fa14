import Derived.Test.YtnicolaphmffkaaGreatDoorRmA
set_option linter.unusedVariables false
set_option linter.unusedSimpArgs false
namespace Go.Proofs.YtnicolaphmffkaaGreatDoor
open Go.RowKit
/-- The room with other marks for what is not there yet. -/
theorem Rm.re {o o2 : Nat → Nat} {B : Nat} {W : World} {rb : Nat} {F : Nat → List Lr} {V : Nat → Value} (h : Rm o B W rb F V) (he : ∀ b, b < W.heap.size → o b = 4 ∨ o b = 0 ∨ 10 ≤ o b → o2 b = o b) : Rm o2 B W rb F V :=
  ⟨h.lt, h.cl, h.fz, (he rb h.lt (.inl h.ob)).trans h.ob, h.bb, fun k hk => ⟨⟨(h.fl k hk).own.own, fun g hg => by
    have t := (h.fl k hk).own.tag g hg
    rw [he g (own_lt (h.fl k hk).own.own g hg).2 (by omega)]; exact t⟩, fun r hr => ((h.fl k hk).ms r hr).mv (Mv.weak fun b hb (hz : o b = 0) => by show o2 b = 0; rw [he b hb (by omega)]; exact hz)⟩⟩
theorem KyR.re {o o2 : Nat → Nat} {W : World} (he : ∀ b, b < W.heap.size → o2 b = o b) : KyR o W o2 W := ⟨rfl, rfl, rfl, Nat.le_refl _, he, fun _ _ _ _ => rfl⟩
theorem OwnT.re2 {o o2 : Nat → Nat} {t B e sz n : Nat} {W : World} {v : Value} {xs : List Value} (h : OwnT o t B e sz W v n xs) (he : ∀ b, b < W.heap.size → o2 b = o b) : OwnT o2 t B e sz W v n xs :=
  ⟨h.own, fun g hg => by rw [he g (own_lt h.own g hg).2]; exact h.tag g hg⟩
/-- The marks of new blocks, by hand. -/
def nxO (o : Nat → Nat) (n t : Nat) : Nat → Nat := fun b => if b < n then o b else t
theorem nxO_old {o : Nat → Nat} {n t b : Nat} (h : b < n) : nxO o n t b = o b := if_pos h
theorem nxO_new {o : Nat → Nat} {n t b : Nat} (h : n ≤ b) : nxO o n t b = t := if_neg (by omega)
theorem Mv.re {o o2 : Nat → Nat} {W : World} (he : ∀ b, b < W.heap.size → o2 b = o b) : Mv (Zo o) W (Zo o2) W := Mv.weak fun b hb (hz : o b = 0) => by show o2 b = 0; rw [he b hb]; exact hz
/-- An expression out of a row that is never turned. -/
theorem exs_fz {o : Nat → Nat} {W : World} {g c : Nat} {L : List Nd} {mm : List Value} (h : Fz o W g (cellsF Nd.cs L ++ mm)) (hl : L.length ≤ 1048576) (hc : L.length ≤ c) : Exs (Zo o) W (.slice (some ⟨g, 0, none⟩) L.length c) L := by
  refine .inr ⟨⟨g, 0, none⟩, c, rfl, hc, by omega, .inr ⟨rfl, h.z, h.lt, fun i hi => ⟨Nd.cs L[i], rfl, rfl, fun j u hu => ?_⟩⟩⟩
  have hj : j < 5 := (List.getElem?_eq_some_iff.1 hu).1
  show W.cell? ⟨g, 0 + i * 5 + j, none⟩ = some u
  rw [Nat.zero_add]
  refine h.rd _ u ?_
  have hx : (cellsF Nd.cs L).length = L.length * 5 := cellsF_len nd_len1 L
  have hi2 : i + 1 ≤ L.length := hi
  have h5 := Nat.mul_le_mul_right 5 hi2
  rw [List.getElem?_append_left (by omega), cellsF_get nd_len1 L i j hi hj]
  exact hu
/-- A statement with its expression's value. -/
structure Sq where
  x : St
  a : Option Addr
  c : Nat
def Sq.cs (s : Sq) : List Value := [.int .i64 s.x.kind, .string s.x.name, .int .i64 s.x.ix, .slice s.a s.x.expr.length s.c, .int .i64 s.x.line, .int .i64 s.x.col]
theorem sq_len (s : Sq) : s.cs.length = 6 := rfl
theorem sts_fz {o : Nat → Nat} {W : World} {g c : Nat} {Y : List Sq} {L : List St} {mm : List Value} (h : Fz o W g (cellsF Sq.cs Y ++ mm)) (hY : Y.map (·.x) = L) (hx : ∀ y ∈ Y, Exs (Zo o) W (.slice y.a y.x.expr.length y.c) y.x.expr) (hl : L.length ≤ 1048576) (hc : L.length ≤ c) : Sts (Zo o) W (.slice (some ⟨g, 0, none⟩) L.length c) L := by
  have hYl : Y.length = L.length := by rw [← hY, List.length_map]
  refine .inr ⟨⟨g, 0, none⟩, c, rfl, hc, by omega, .inr ⟨rfl, h.z, h.lt, fun i hi => ?_⟩⟩
  have hi' : i < Y.length := by omega
  have e : L[i] = Y[i].x := by simp only [← hY, List.getElem_map]
  rw [e]
  refine ⟨Sq.cs Y[i], rfl, ⟨_, rfl, hx _ (List.getElem_mem hi')⟩, fun j u hu => ?_⟩
  have hj : j < 6 := (List.getElem?_eq_some_iff.1 hu).1
  show W.cell? ⟨g, 0 + i * 6 + j, none⟩ = some u
  rw [Nat.zero_add]
  refine h.rd _ u ?_
  have hxl : (cellsF Sq.cs Y).length = Y.length * 6 := cellsF_len sq_len Y
  have hi2 : i + 1 ≤ Y.length := hi'
  have h6 := Nat.mul_le_mul_right 6 hi2
  rw [List.getElem?_append_left (by omega), cellsF_get sq_len Y i j hi' hj]
  exact hu
/-- The room behind turns of blocks that are not its own. -/
theorem Rm.ky {o : Nat → Nat} {B t : Nat} {W W' : World} {rb : Nat} {F : Nat → List Lr} {V : Nat → Value} (h : Rm o B W rb F V) (k : Ky o t W W') (h0 : t ≠ 0) (h4 : t ≠ 4) (h10 : t < 10) : Rm o B W' rb F V :=
  have e := k.block rb h.lt (by rw [h.ob]; omega)
  ⟨Nat.lt_of_lt_of_le h.lt k.size, fun j hj => (cell_heap e).trans (h.cl j hj), fun j => by have := h.fz j; unfold World.frozen? at this ⊢; rw [e]; exact this, h.ob, h.bb, fun j hj => ⟨(h.fl j hj).own.ky k (by omega), fun r hr => ((h.fl j hj).ms r hr).mv (k.mv h0)⟩⟩
theorem Rm.gw {o : Nat → Nat} {B t g : Nat} {W W1 W2 : World} {v : Value} {rb : Nat} {F : Nat → List Lr} {V : Nat → Value} (h : Rm o B W rb F V) (q : Gw o t W W1 W2 v g) (h4 : t ≠ 4) (h10 : t < 10) : Rm (mkO o W.heap.size t g) B W2 rb F V :=
  have e := q.ky.block rb h.lt (by rw [h.ob]; omega)
  ⟨Nat.lt_of_lt_of_le h.lt q.ky.size, fun j hj => (cell_heap e).trans (h.cl j hj), fun j => by have := h.fz j; unfold World.frozen? at this ⊢; rw [e]; exact this, by rw [mkO_old h.lt]; exact h.ob, h.bb, fun j hj => ⟨q.own (by omega) (h.fl j hj).own, fun r hr => ((h.fl j hj).ms r hr).mv q.mv⟩⟩
theorem KyR.belw {o o' o2 : Nat → Nat} {W W' W2 : World} (h : KyR o W o' W') (hb : Below W.heap.size W' W2) (ho : ∀ b, b < W.heap.size → o2 b = o' b) : KyR o W o2 W2 :=
  ⟨hb.os.trans h.os, hb.tape.trans h.tape, hb.output.trans h.output, Nat.le_trans h.size hb.size, fun b hb' => (ho b hb').trans (h.old b hb'), fun b hb' h4 h10 => (hb.block b hb').trans (h.keep b hb' h4 h10)⟩
theorem upd_nil {α : Type} (F : Nat → List α) (k : Nat) : upd F k (F k ++ []) = F := by
  funext j
  unfold upd
  split
  · next e => subst e; simp
  · rfl
theorem upd_upd {α : Type} (F : Nat → List α) (k : Nat) (A C : List α) : upd (upd F k (F k ++ A)) k (upd F k (F k ++ A) k ++ C) = upd F k (F k ++ (A ++ C)) := by
  funext j
  unfold upd
  split
  · next e => subst e; simp
  · rfl
/-- One block is never turned again. -/
def frO (o : Nat → Nat) (g : Nat) : Nat → Nat := fun b => if b = g then 0 else o b
theorem frO_same (o : Nat → Nat) (g : Nat) : frO o g g = 0 := if_pos rfl
theorem frO_other (o : Nat → Nat) {g b : Nat} (h : b ≠ g) : frO o g b = o b := if_neg h
theorem Mv.fr {o : Nat → Nat} {g : Nat} {W : World} : Mv (Zo o) W (Zo (frO o g)) W := Mv.weak fun b _ (hz : o b = 0) => by show (if b = g then 0 else o b) = 0; split; rfl; exact hz
theorem Rm.fr {o : Nat → Nat} {B g : Nat} {W : World} {rb : Nat} {F : Nat → List Lr} {V : Nat → Value} (h : Rm o B W rb F V) (hg : o g = 3) : Rm (frO o g) B W rb F V :=
  h.re fun b _ hb => frO_other o (fun e => by subst e; omega)
end Go.Proofs.YtnicolaphmffkaaGreatDoor
