import Derived.Test.YtjfieclmagbfbaaGreatDoorSnJ
import Derived.Laws.MakeOwn
import Derived.Laws.OwnMore
import Derived.Laws.AppendOwnNone
import Derived.Deep.AppendLies
import Derived.Deep.LoopGhost
set_option linter.unusedSimpArgs false
set_option linter.unusedVariables false
set_option maxRecDepth 100000
set_option maxHeartbeats 8000000
namespace Go.Proofs.YtjfieclmagbfbaaGreatDoor
open Go.RowKit
def sn (S : List Bool) (i : Nat) : Bool := S.getD i false
def unN (S : List Bool) : Nat := S.countP (fun x => !x)
theorem unN_set : ∀ (S : List Bool) (i : Nat), i < S.length → sn S i = false → unN (S.set i true) + 1 = unN S
 | [], i, h, _ => by simp at h
 | x :: S, 0, _, h => by
   have : x = false := h; subst this; simp [unN]
 | x :: S, i + 1, h, hf => by
   have ih := unN_set S i (by simpa using h) hf; simp only [List.set_cons_succ, unN, List.countP_cons] at ih ⊢; omega
theorem sn_set (S : List Bool) (i j : Nat) (h : i < S.length) : sn (S.set i true) j = (decide (i = j) || sn S j) := by
 unfold sn
 simp only [List.getD_eq_getElem?_getD]
 by_cases e : i = j
 ·subst e; simp [h]
 ·simp [List.getElem?_set_ne e, e]
theorem unN_rep : ∀ n : Nat, unN (List.replicate n false) = n
 | 0 => rfl
 | n + 1 => by
   have ih := unN_rep n; simp only [List.replicate_succ, unN, List.countP_cons] at ih ⊢; simp only [ih]; rfl
theorem sn_rep (n i : Nat) : sn (List.replicate n false) i = false := by
 unfold sn; simp only [List.getD_eq_getElem?_getD, List.getElem?_replicate]; split <;> rfl
structure RJ (n st : Nat) (N : Nat → List Nat) (p m : Nat) (S : List Bool) (W : List Nat) : Prop where
 len : S.length = n
 beg : sn S st = true
 mine : sn S p = true
 wk : ∀ i ∈ W, i < n ∧ sn S i = true
 cl : ∀ i, sn S i = true → i ∈ W ∨ ∀ j ∈ (if i = p then (N p).take m else N i), sn S j = true
 le : ∀ C : Nat → Prop, C st → (∀ i, C i → ∀ j ∈ N i, C j) → ∀ i, sn S i = true → C i
 ms : unN S + W.length ≤ n
structure RI (n st : Nat) (N : Nat → List Nat) (S : List Bool) (W : List Nat) : Prop where
 len : S.length = n
 beg : sn S st = true
 wk : ∀ i ∈ W, i < n ∧ sn S i = true
 cl : ∀ i, sn S i = true → i ∈ W ∨ ∀ j ∈ N i, sn S j = true
 le : ∀ C : Nat → Prop, C st → (∀ i, C i → ∀ j ∈ N i, C j) → ∀ i, sn S i = true → C i
 ms : unN S + W.length ≤ n
theorem RI.first (n st : Nat) (N : Nat → List Nat) (h : st < n) : RI n st N ((List.replicate n false).set st true) [st] := by
 have hl : st < (List.replicate n false).length := by simpa using h
 have key : ∀ i, sn ((List.replicate n false).set st true) i = decide (st = i) := fun i => by rw [sn_set _ _ _ hl, sn_rep]; simp
 refine ⟨by simp, by rw [key]; simp, ?_, ?_, ?_, ?_⟩
 ·intro i hi
  have : i = st := by simpa using hi
  subst this; exact ⟨h, by rw [key]; simp⟩
 ·intro i hi
  rw [key] at hi
  left
  simp at hi ⊢; exact hi.symm
 ·intro C h0 _ i hi
  rw [key] at hi; simp at hi; rw [← hi]; exact h0
 ·have := unN_set (List.replicate n false) st hl (sn_rep _ _)
  rw [unN_rep] at this; simp; omega
theorem RI.pop {n st : Nat} {N : Nat → List Nat} {S : List Bool} {W : List Nat} {p : Nat} (h : RI n st N S (W ++ [p])) : RJ n st N p 0 S W ∧ p < n ∧ unN S + W.length + 1 ≤ n := by
 have hp := h.wk p (by simp)
 have hm := h.ms
 simp at hm
 refine ⟨⟨h.len, h.beg, hp.2, fun i hi => h.wk i (by simp [hi]), ?_, h.le, by omega⟩, hp.1, by omega⟩
 intro i hi
 by_cases e : i = p
 ·right; simp [e]
 ·rcases h.cl i hi with h1 | h1
  ·left; simpa [e] using h1
  ·right; simpa [e] using h1
theorem RJ.fin {n st : Nat} {N : Nat → List Nat} {S : List Bool} {W : List Nat} {p m : Nat} (h : RJ n st N p m S W) (hm : (N p).length ≤ m) : RI n st N S W := by
 refine ⟨h.len, h.beg, h.wk, ?_, h.le, h.ms⟩
 intro i hi
 rcases h.cl i hi with h1 | h1
 ·exact .inl h1
 ·right
  by_cases e : i = p
  ·subst e; simpa [List.take_of_length_le hm] using h1
  ·simpa [e] using h1
theorem take_succ_mem {α : Type} {L : List α} {m : Nat} (h : m < L.length) (j : α) : j ∈ L.take (m + 1) ↔ j ∈ L.take m ∨ j = L[m] := by
 have : L.take (m + 1) = L.take m ++ [L[m]] := by simp
 rw [this, List.mem_append]; simp
theorem RJ.old {n st : Nat} {N : Nat → List Nat} {S : List Bool} {W : List Nat} {p m : Nat} (h : RJ n st N p m S W) (hm : m < (N p).length) (hs : sn S (N p)[m] = true) : RJ n st N p (m + 1) S W := by
 refine ⟨h.len, h.beg, h.mine, h.wk, ?_, h.le, h.ms⟩
 intro i hi
 rcases h.cl i hi with h1 | h1
 ·exact .inl h1
 ·right
  by_cases e : i = p
  ·subst e
   simp only [if_true] at h1 ⊢; intro j hj; rcases (take_succ_mem hm j).1 hj with h2 | h2
   ·exact h1 j h2
   ·rw [h2]; exact hs
  ·simpa [e] using h1
theorem RJ.new {n st : Nat} {N : Nat → List Nat} {S : List Bool} {W : List Nat} {p m : Nat} (h : RJ n st N p m S W) (hm : m < (N p).length) (hx : (N p)[m] < n) (hs : sn S (N p)[m] = false) :
  RJ n st N p (m + 1) (S.set (N p)[m] true) (W ++ [(N p)[m]]) ∧ unN (S.set (N p)[m] true) + (W ++ [(N p)[m]]).length = unN S + W.length := by
 have hl : (N p)[m] < S.length := by rw [h.len]; exact hx
 have hu := unN_set S _ hl hs
 have up : ∀ j, sn S j = true → sn (S.set (N p)[m] true) j = true := fun j hj => by rw [sn_set _ _ _ hl, hj]; simp
 have hself : sn (S.set (N p)[m] true) (N p)[m] = true := by rw [sn_set _ _ _ hl]; simp
 have hms := h.ms
 refine ⟨⟨by simpa using h.len, up _ h.beg, up _ h.mine, ?_, ?_, ?_, by simp; omega⟩, by simp; omega⟩
 ·intro i hi
  rcases List.mem_append.1 hi with h1 | h1
  ·exact ⟨(h.wk i h1).1, up _ (h.wk i h1).2⟩
  ·have : i = (N p)[m] := by simpa using h1
   subst this; exact ⟨hx, hself⟩
 ·intro i hi
  rw [sn_set _ _ _ hl] at hi
  by_cases e1 : (N p)[m] = i
  ·left; simp [e1]
  ·have hi' : sn S i = true := by simpa [e1] using hi
   rcases h.cl i hi' with h1 | h1
   ·left; simp [h1]
   ·right
    by_cases e : i = p
    ·subst e
     simp only [if_true] at h1 ⊢; intro j hj; rcases (take_succ_mem hm j).1 hj with h2 | h2
     ·exact up _ (h1 j h2)
     ·rw [h2]; exact hself
    ·simp only [e, if_false] at h1 ⊢
     exact fun j hj => up _ (h1 j hj)
 ·intro C h0 hc i hi
  rw [sn_set _ _ _ hl] at hi
  by_cases e1 : (N p)[m] = i
  ·rw [← e1]
   exact hc p (h.le C h0 hc p h.mine) _ (List.getElem_mem hm)
  ·exact h.le C h0 hc i (by simpa [e1] using hi)
def goN (L : List (List Nat)) (i : Nat) : List Nat := L.getD i []
def waysL (SG : List Ts) : List (List Nat) := SG.map fun s => s.nexts.map fun x => x.dst.toNat
def bC (b : Bool) : List Value := [.bool b]
theorem bC_len (x : Bool) : (bC x).length = 1 := rfl
def Ways (SG : List Ts) : Prop := ∀ s ∈ SG, ∀ x ∈ s.nexts, 0 ≤ x.dst ∧ x.dst < (SG.length : Int)
theorem sn_get {S : List Bool} {i : Nat} (h : i < S.length) : sn S i = S[i] := by
 unfold sn; simp [List.getD_eq_getElem?_getD, List.getElem?_eq_getElem h]
theorem ways_len (SG : List Ts) : (waysL SG).length = SG.length := by simp [waysL]
theorem ways_at (SG : List Ts) (k : Nat) (h : k < SG.length) : (waysL SG)[k]'(by rw [ways_len]; exact h) = SG[k].nexts.map fun x => x.dst.toNat := by simp [waysL]
theorem wpList_make_all {P : Program} (w : World) {ops : Array Oper} {rest : List Oper} {o : Oper} {a : Act} {Q : Exit → Act → World → Prop}
  (hg : o.guard = none) (l c : Operand) (t : TypeId) (hop : o.op = Op.makeSlice t l c)
  (base : Nat) (e : TypeId) (i : TypeInfo) (z : Value) (h1 : P.underlying t = some (.slice e)) (h2 : P.info? e = some i) (h3 : i.zero = some z) (h4 : i.size = 1) (hz : z.cells = #[z])
  (kl kc : IntKind) (n : Nat) (hl : a.eval l = .int kl (n : Int)) (hc : a.eval c = .int kc (n : Int)) (b2 : i.bytes * n ≤ 281474976710656) (b3 : n ≤ maxLen) (b4 : base ≤ w.heap.size)
  (hK : ∀ w', w'.ownsRow base e 1 (.slice (some ⟨w.heap.size, 0, none⟩) n n) n (List.replicate n z) → w.grownBy w' none → wpList P ops Q rest (a.put o.dst (.slice (some ⟨w.heap.size, 0, none⟩) n n)) w') :
  wpList P ops Q (o :: rest) a w := by
 refine wpList_plain hg fun K hK' => ?_
 have h63' : (n : Int) ≤ 9223372036854775807 := by
  have h := b3; simp [maxLen] at h; omega
 have hb' : (i.bytes : Int) * (n : Int) ≤ 281474976710656 := by
  have h : ((i.bytes * n : Nat) : Int) ≤ 281474976710656 := by omega
  rwa [Int.natCast_mul] at h
 have hrun := run_make (P := P) w t e i z h1 h2 h3 kl kc (n : Int) (n : Int) (by omega) (by omega) hb' h63'
 rw [Int.toNat_natCast, h4, hz, Nat.mul_one] at hrun
 have r1 : (w.alloc (.cells (madeCells #[z] n) e)).ownsRow base e 1 (.slice (some ⟨w.heap.size, 0, none⟩) n n) n (List.replicate n z) :=
  ⟨by simp, .inr ⟨w.heap.size, n, madeCells #[z] n, rfl, b4, heap_alloc_new w _, Nat.le_refl _, b3, by rw [size_madeCells, Nat.mul_one], by rw [toList_madeCells_one, Nat.mul_one, List.take_replicate, Nat.min_self]⟩⟩
 unfold Oper.wp
 simp [execOp, hop, hl, hc, hrun, Result.andThen]
 exact hK' _ _ (hK _ r1 (World.grownBy_alloc w _ none))
theorem own_builtR {w : World} {base e : Nat} {v : Value} (hb : base ≤ w.heap.size) : (w.alloc (.cells #[v] e)).ownsRow base e 1 (.slice (some ⟨w.heap.size, 0, none⟩) 1 1) 1 [v] :=
 ⟨rfl, .inr ⟨w.heap.size, 1, #[v], rfl, hb, heap_alloc_new w _, by omega, by unfold maxLen; omega, rfl, rfl⟩⟩
theorem info3R : (Tryz.prog.info? 3).map (fun i => (i.zero, i.size, i.bytes)) = some (some (.int .i64 0), 1, 8) := by kernel_rfl
def vN (W : List Nat) : List Value := W.map fun (i : Nat) => .int .i64 (i : Int)
theorem vN_app (W : List Nat) (p : Nat) : vN (W ++ [p]) = vN W ++ [.int .i64 (p : Int)] := by simp [vN]
theorem vB_rep (n : Nat) : List.replicate n (Value.bool false) = vB (List.replicate n false) := by simp [vB]
theorem vB_set (S : List Bool) (i : Nat) : (vB S).set i (.bool true) = vB (S.set i true) := by simp [vB, List.map_set]
theorem snoc_of {α : Type} (W : List α) (h : 0 < W.length) : ∃ W' p, W = W' ++ [p] := by
 rcases List.eq_nil_or_concat W with e | ⟨W', p, e⟩
 ·rw [e] at h; simp at h
 ·exact ⟨W', p, by rw [e]; simp⟩
def RcP (SG : List Ts) (st : Nat) (w : World) (e : Ending) (w' : World) : Prop := ∃ (g : Nat) (S : List Bool), e = .returned (.slice (some ⟨g, 0, none⟩) SG.length SG.length) ∧ w'.ownsRow w.heap.size 4 1 (.slice (some ⟨g, 0, none⟩) SG.length SG.length) SG.length (vB S) ∧ RI (waysL SG).length st (goN (waysL SG)) S [] ∧ Below w.heap.size w w'
theorem reached_any (G : List Gp) (C : List Cf) (D : List Dt) (TM CT : List ByteArray) (VR : List Vr) (SG : List Ts) (pn : ByteArray) (ga ca da ta ka va sa : Option Addr) (gc cc dc tc kc vc sc : Nat) (st : Nat) (w : World) (hS : Tss (fun _ => True) w (.slice sa SG.length sc) SG) (lS : SG.length ≤ 256) (hd : Ways SG) (h1 : st < SG.length) :
  Calls Tryz.prog 37 #[(.agg #[.string pn, .slice ga G.length gc, .slice ca C.length cc, .slice da D.length dc, .slice ta TM.length tc, .slice ka CT.length kc, .slice va VR.length vc, .slice sa SG.length sc, .int .i64 (st : Int)])] w fun e w' => RcP SG st w e w' := by
 obtain ⟨ti, hi, hiv⟩ := Option.map_eq_some_iff.1 info4
 injection hiv with hi0 hiv
 injection hiv with hi1 hi2
 obtain ⟨tj, hj, hjv⟩ := Option.map_eq_some_iff.1 info3R
 injection hjv with hj0 hjv
 injection hjv with hj1 hj2
 obtain ⟨_, _, e1, _, kS⟩ := Rows.any hS
 injection e1 with e1 _ e2
 subst e1
 subst e2
 clear hS
 obtain ⟨g, o, rfl, _, hg, hx⟩ := kS.resolve_left (by intro e; rw [e] at h1; simp at h1)
 clear kS
 have hF := RI.first (waysL SG).length st (goN (waysL SG)) (by rw [ways_len]; exact h1)
 rw [ways_len] at hF
 have hb0 : Below w.heap.size w (w.alloc (.cells #[.string pn, .slice ga G.length gc, .slice ca C.length cc, .slice da D.length dc, .slice ta TM.length tc, .slice ka CT.length kc, .slice va VR.length vc, .slice (some ⟨g, o, none⟩) SG.length sc, .int .i64 (st : Int)] 31)) := bel1 _
 have K0 : Has (w.alloc (.cells #[.string pn, .slice ga G.length gc, .slice ca C.length cc, .slice da D.length dc, .slice ta TM.length tc, .slice ka CT.length kc, .slice va VR.length vc, .slice (some ⟨g, o, none⟩) SG.length sc, .int .i64 (st : Int)] 31)) w.heap.size #[.string pn, .slice ga G.length gc, .slice ca C.length cc, .slice da D.length dc, .slice ta TM.length tc, .slice ka CT.length kc, .slice va VR.length vc, .slice (some ⟨g, o, none⟩) SG.length sc, .int .i64 (st : Int)] := Has.new _ _ _ rfl
 obtain ⟨_, v1, v2⟩ := id K0
 have hsz0 : (w.alloc (.cells #[.string pn, .slice ga G.length gc, .slice ca C.length cc, .slice da D.length dc, .slice ta TM.length tc, .slice ka CT.length kc, .slice va VR.length vc, .slice (some ⟨g, o, none⟩) SG.length sc, .int .i64 (st : Int)] 31)).heap.size = w.heap.size + 1 := by simp
 go_enter Tryz.func37, Tryz.ntmps37
 go_wp2_with ((refine wpList_make_all _ rfl _ _ 42 rfl (w.heap.size + 1) 4 ti _ Tryz.underlying42 hi hi0 hi1 rfl .i64 .i64 SG.length (by first | rfl | (simp [Act.eval]; done)) (by first | rfl | (simp [Act.eval]; done)) (by rw [hi2]; omega) (by unfold maxLen; omega) (by simp) ?_); intro W1 own hg1; have hb1 := grown_none hg1; have K1 := K0.below hb1; obtain ⟨_, v3, v4⟩ := id K1; rw [hsz0] at own; have zc := (own.cellAt st (by omega)).trans (show _ = some (Value.bool false) by simp [h1]); have zf := own.frozenAt st; have hgl := (own_lt own _ rfl).2; clear hg1 v1 v2)
 rw [vB_rep] at own
 have own1 := (own.stored st (.bool true)).1
 rw [vB_set] at own1
 rw [hsz0] at hb1
 have hb2 := hb1.setCell (p := ⟨w.heap.size + 1, st, none⟩) (Nat.le_refl _) (.bool true)
 have hz2 : (W1.setCell ⟨w.heap.size + 1, st, none⟩ (.bool true)).heap.size = W1.heap.size := by simp [World.setCell]
 have own2 := own_builtR (w := W1.setCell ⟨w.heap.size + 1, st, none⟩ (.bool true)) (base := w.heap.size + 2) (e := 3) (v := .int .i64 (st : Int)) (by omega)
 have own3 := own1.alloc (.cells #[.int .i64 (st : Int)] 3)
 have hb3 := hb2.alloc (by have := hb2.size; omega) (.cells #[.int .i64 (st : Int)] 3)
 rw [hz2] at own2
 have hU := unN_set (List.replicate SG.length false) st (by simpa using h1) (sn_rep _ _)
 rw [unN_rep] at hU
 clear own own1 zc zf v3 v4 K1 hb1 hb2 hz2
 generalize hW0 : (w.alloc (.cells #[.string pn, .slice ga G.length gc, .slice ca C.length cc, .slice da D.length dc, .slice ta TM.length tc, .slice ka CT.length kc, .slice va VR.length vc, .slice (some ⟨g, o, none⟩) SG.length sc, .int .i64 (st : Int)] 31)) = W0 at *
 go_loopg [4] SG.length (fun gk v wr => ∃ (nw gw cw : Nat) (S : List Bool) (W : List Nat), v = .slice (some ⟨gw, 0, none⟩) nw cw ∧ unN S + nw = gk ∧ Hid (W.length = nw) ∧ Hid (RI SG.length st (goN (waysL SG)) S W) ∧ Hid (wr.ownsRow (w.heap.size + 1) 4 1 (.slice (some ⟨w.heap.size + 1, 0, none⟩) SG.length SG.length) SG.length (vB S)) ∧ Hid (wr.ownsRow (w.heap.size + 2) 3 1 (.slice (some ⟨gw, 0, none⟩) nw cw) nw (vN W)) ∧ Hid (Below (w.heap.size + 1) W0 wr))
 case atStart => exact ⟨1, _, 1, _, [st], rfl, hU, rfl, hF, own3, own2, hb3⟩
 case round =>
  clear own2 own3 hb3 hF hU; obtain ⟨nw, gw, cw, S, W, rfl, hgk, hWl', hI', oS', oW', hb'⟩ := hrel; have hWl := hWl'.out; have hI := hI'.out; have oS := oS'.out; have oW := oW'.out; have hb := hb'.out; clear hWl' hI' oS' oW' hb'; have Kk := K0.below (hsz0 ▸ hb); have hbw := bel_after hb0 (by omega) (hsz0 ▸ hb)
  cases nw with
  | zero =>
    have hW0 : W = [] := List.length_eq_zero_iff.1 hWl; subst hW0; clear hx
    go_wp2_with fail
    go_ret; exact ⟨_, S, rfl, own_mono oS (by omega), by rw [ways_len]; exact hI, hbw⟩
  | succ n0 =>
    obtain ⟨W', p, rfl⟩ := snoc_of W (by omega); obtain ⟨hJ, hp, -⟩ := hI.pop; have hWl2 : W'.length = n0 := by simp at hWl; omega
    have zw := (oW.cellAt n0 (by omega)).trans (show _ = some (Value.int .i64 (p : Int)) by rw [vN_app]; simp [vN, hWl2]); have zz : wr.cell? ⟨w.heap.size, 7, none⟩ = some (.slice (some ⟨g, o, none⟩) SG.length sc) := Kk.2.1 7; obtain ⟨cs, _, ⟨ve, vd, vl, vn, rfl, q1, q2, q3, q4⟩, P2⟩ := hx p hp; have hdp := hd _ (List.getElem_mem hp); have hgo : goN (waysL SG) p = SG[p].nexts.map fun x => x.dst.toNat := by unfold goN; rw [List.getD_eq_getElem?_getD, List.getElem?_eq_getElem (by rw [ways_len]; exact hp), Option.getD_some, ways_at SG p hp]
    obtain ⟨e1, c1, rfl, _, -⟩ := Rows.any q1; obtain ⟨e2, c2, rfl, _, -⟩ := Rows.any q2; obtain ⟨e3, c3, rfl, _, -⟩ := Rows.any q3; obtain ⟨e4, c4, rfl, l4, k4⟩ := Rows.any q4; have p0 := (hbw.cell (p := ⟨g, _, none⟩) hg).trans (P2 0 _ rfl); have p1 := (hbw.cell (p := ⟨g, _, none⟩) hg).trans (P2 1 _ rfl); have p2 := (hbw.cell (p := ⟨g, _, none⟩) hg).trans (P2 2 _ rfl); have p3 := (hbw.cell (p := ⟨g, _, none⟩) hg).trans (P2 3 _ rfl); have p4 := (hbw.cell (p := ⟨g, _, none⟩) hg).trans (P2 4 _ rfl); have p5 := (hbw.cell (p := ⟨g, _, none⟩) hg).trans (P2 5 _ rfl); have p6 := (hbw.cell (p := ⟨g, _, none⟩) hg).trans (P2 6 _ rfl); simp only [Nat.add_zero] at p0; clear q1 q2 q3 q4 P2; generalize SG[p].enter.length = n1 at *; generalize SG[p].during.length = n2 at *; generalize SG[p].leave.length = n3 at *; generalize SG[p].nexts = L4 at *; generalize SG[p].name = x0 at *; generalize SG[p].id = x1 at *; generalize SG[p].green = x2 at *; have hgW : g < wr.heap.size := Nat.lt_of_lt_of_le hg hbw.size; have hwl := (own_lt oW _ rfl).2; have hk6 : Hid (∀ X : World, Below wr.heap.size wr X → X.cell? ⟨w.heap.size, 7, none⟩ = some (.slice (some ⟨g, o, none⟩) SG.length sc) ∧ X.cell? ⟨gw, n0, none⟩ = some (.int .i64 (p : Int)) ∧ X.cell? ⟨g, o + p * 7, none⟩ = some (.string x0) ∧ X.cell? ⟨g, o + p * 7 + 1, none⟩ = some (.int .i64 x1) ∧ X.cell? ⟨g, o + p * 7 + 2, none⟩ = some (.int .u64 x2) ∧ X.cell? ⟨g, o + p * 7 + 3, none⟩ = some (.slice e1 n1 c1) ∧ X.cell? ⟨g, o + p * 7 + 4, none⟩ = some (.slice e2 n2 c2) ∧ X.cell? ⟨g, o + p * 7 + 5, none⟩ = some (.slice e3 n3 c3) ∧ X.cell? ⟨g, o + p * 7 + 6, none⟩ = some (.slice e4 L4.length c4)) := fun X hX => ⟨(hX.cell (p := ⟨w.heap.size, 7, none⟩) Kk.1).trans zz, (hX.cell (p := ⟨gw, n0, none⟩) hwl).trans zw, (hX.cell (p := ⟨g, _, none⟩) hgW).trans p0, (hX.cell (p := ⟨g, _, none⟩) hgW).trans p1, (hX.cell (p := ⟨g, _, none⟩) hgW).trans p2, (hX.cell (p := ⟨g, _, none⟩) hgW).trans p3, (hX.cell (p := ⟨g, _, none⟩) hgW).trans p4, (hX.cell (p := ⟨g, _, none⟩) hgW).trans p5, (hX.cell (p := ⟨g, _, none⟩) hgW).trans p6⟩
    have i0 : (0 : Int) ≤ (n0 : Int) := by omega
    have i1 : (n0 : Int) < ((n0 + 1 : Nat) : Int) := by omega
    have i2 : (n0 : Int) < (n0 : Int) + 1 := by omega
    have i3 : (0 : Int) ≤ (p : Int) := by omega
    have i4 : (p : Int) < (SG.length : Int) := by omega
    have i5 : ((n0 + 1 : Nat) : Int) - 1 = (n0 : Int) := by omega
    have hms := hJ.ms; have i6 : IntKind.i64.wrap (n0 : Int) = (n0 : Int) := wrap64 _ (by omega); have i7 : ((n0 + 1 : Nat) : Int) > 0 := by omega
    have hcp : n0 + 1 ≤ cw := by obtain ⟨_, _, e, h⟩ := own_form2 oW; injection e with _ _ e2; omega
    have i8 : (n0 : Int) ≤ (cw : Int) := by omega
    have i9 : n0 ≤ cw := by omega
    go_upto_region 6 with fail
    refine wp_region_noPanic ?_; refine wp_region_held_drew (S := fun w' => w'.cell? ⟨w.heap.size, 7, none⟩ = some (.slice (some ⟨g, o, none⟩) SG.length sc) ∧ w'.cell? ⟨gw, n0, none⟩ = some (.int .i64 (p : Int)) ∧ w'.cell? ⟨g, o + p * 7, none⟩ = some (.string x0) ∧ w'.cell? ⟨g, o + p * 7 + 1, none⟩ = some (.int .i64 x1) ∧ w'.cell? ⟨g, o + p * 7 + 2, none⟩ = some (.int .u64 x2) ∧ w'.cell? ⟨g, o + p * 7 + 3, none⟩ = some (.slice e1 n1 c1) ∧ w'.cell? ⟨g, o + p * 7 + 4, none⟩ = some (.slice e2 n2 c2) ∧ w'.cell? ⟨g, o + p * 7 + 5, none⟩ = some (.slice e3 n3 c3) ∧ w'.cell? ⟨g, o + p * 7 + 6, none⟩ = some (.slice e4 L4.length c4)) (by kernel_rfl) ?_ (fun hHeld => ?_)
    ·(try dsimp only)
     exact ⟨zz, zw, p0, p1, p2, p3, p4, p5, p6⟩
    refine tkY 0 ?_; refine tkY 1 ?_; refine tkY 2 ?_; refine tkY 3 ?_; refine tkY 4 ?_; refine tkY 5 ?_; refine tkY 6 ?_; refine tkY 7 ?_; refine wpAnyH_ready (rs := [8]) (by kernel_rfl) (by simp) ?_; refine AllReadyH.cons (o := ⟨some 6, .alloc 51, 0, "plan.go:25", #[], none⟩) rfl (fun K hK => ?_) AllReadyH.nil
    go_simp
    refine hK.out _ _ ?_ (fun hHeld => ?_)
    ·(try dsimp only)
     exact hk6.out _ (((Below.refl _ _).alloc (Nat.le_refl _) _).drew)
    clear hK K
    (try simp only [Act.put, List.setIfInBounds_toArray, List.set_cons_zero, List.set_cons_succ])
    clear zz zw p0 p1 p2 p3 p4 p5 p6
    iterate 4 (try clear hHeld)
    refine wpAnyH_ready (rs := [9]) (by kernel_rfl) (by simp) ?_; refine AllReadyH.cons (o := ⟨none, .store 51 (.tmp 6) (.tmp 33), 0, "plan.go:25", #[⟨8, .data⟩, ⟨7, .data⟩, ⟨0, .phase⟩, ⟨1, .phase⟩, ⟨2, .phase⟩, ⟨3, .phase⟩, ⟨4, .phase⟩, ⟨5, .phase⟩, ⟨6, .phase⟩, ⟨7, .phase⟩, ⟨8, .phase⟩], none⟩) rfl (fun K hK => ?_) AllReadyH.nil
    go_simp
    refine hK.out _ _ ?_ (fun hHeld => ?_)
    ·(try dsimp only)
     exact hk6.out _ (((Below.refl _ _).alloc (Nat.le_refl _) _).drew)
    clear hK K
    (try simp only [Act.put, List.setIfInBounds_toArray, List.set_cons_zero, List.set_cons_succ])
    refine wpAnyH_done (by kernel_rfl) ?_ _; refine NoPanic.normal ?_; have b6 : Below wr.heap.size wr (wr.alloc (.cells #[.string x0, .int .i64 x1, .int .u64 x2, .slice e1 n1 c1, .slice e2 n2 c2, .slice e3 n3 c3, .slice e4 L4.length c4] 51)).drew := ((Below.refl _ _).alloc (Nat.le_refl _) _).drew; have h6 : Has (wr.alloc (.cells #[.string x0, .int .i64 x1, .int .u64 x2, .slice e1 n1 c1, .slice e2 n2 c2, .slice e3 n3 c3, .slice e4 L4.length c4] 51)).drew wr.heap.size #[.string x0, .int .i64 x1, .int .u64 x2, .slice e1 n1 c1, .slice e2 n2 c2, .slice e3 n3 c3, .slice e4 L4.length c4] := (Has.new wr _ 51 (b := wr.heap.size) rfl).drew; have t6 : (wr.alloc (.cells #[.string x0, .int .i64 x1, .int .u64 x2, .slice e1 n1 c1, .slice e2 n2 c2, .slice e3 n3 c3, .slice e4 L4.length c4] 51)).drew.cell? ⟨wr.heap.size, 6, none⟩ = some (.slice e4 L4.length c4) := h6.2.1 6; have oS6 := own_bel oS b6; have oW6 := own_bel oW b6; have oW7 := ownsRow_cut (m := n0) (by omega) oW6; rw [show (vN (W' ++ [p])).take (n0 * 1) = vN W' by rw [vN_app, Nat.mul_one]; exact List.take_left' (by simp [vN, hWl2])] at oW7; have hb7 : Below (w.heap.size + 1) W0 (wr.alloc (.cells #[.string x0, .int .i64 x1, .int .u64 x2, .slice e1 n1 c1, .slice e2 n2 c2, .slice e3 n3 c3, .slice e4 L4.length c4] 51)).drew := hb.trans (b6.mono (by have := hb.size; omega)); obtain ⟨u0, hu⟩ : ∃ u0, unN S + n0 = u0 := ⟨_, rfl⟩; have hugk : u0 < gk := by omega
    have hWl := hWl2; clear hk6 h6 oS oW oW6 hb hbw Kk hI hWl2; generalize (wr.alloc (.cells #[.string x0, .int .i64 x1, .int .u64 x2, .slice e1 n1 c1, .slice e2 n2 c2, .slice e3 n3 c3, .slice e4 L4.length c4] 51)).drew = WB at *; generalize W' = W at *
    go_wp2_with fail
    go_loopw [4, 40] (fun v i wv => ∃ (m nw gw cw : Nat) (S : List Bool) (W : List Nat), m ≤ L4.length ∧ v = .slice (some ⟨gw, 0, none⟩) nw cw ∧ i = .int .i64 (m : Int) ∧ Hid (W.length = nw) ∧ Hid (unN S + nw = u0) ∧ Hid (RJ SG.length st (goN (waysL SG)) p m S W) ∧ Hid (wv.ownsRow (w.heap.size + 1) 4 1 (.slice (some ⟨w.heap.size + 1, 0, none⟩) SG.length SG.length) SG.length (vB S)) ∧ Hid (wv.ownsRow (w.heap.size + 2) 3 1 (.slice (some ⟨gw, 0, none⟩) nw cw) nw (vN W)) ∧ Hid (Below (w.heap.size + 1) W0 wv)) (fun _ i _ => L4.length - (intOf i).toNat)
    case atStart => exact ⟨0, n0, gw, cw, S, W, by omega, rfl, rfl, hWl, hu, hJ, oS6, oW7, hb7⟩
    case round =>
     clear oS6 oW7 hb7 hJ hu hWl; obtain ⟨m, nw, gw, cw, S, W, hml, rfl, rfl, hWl', hu', hJ', oS', oW', hb'⟩ := hrel; have hWl := hWl'.out; have hu := hu'.out; have hJ := hJ'.out; have oS := oS'.out; have oW := oW'.out; have hb := hb'.out; clear hWl' hu' hJ' oS' oW' hb'; have hSl := hJ.len; have hms := hJ.ms
     by_cases hmm : m < L4.length
     case neg =>
      have s3 : ¬ (m : Int) < (L4.length : Int) := by omega
      have hI := hJ.fin (by rw [hgo]; simp; omega); clear hx hJ
      go_wp2_with fail
      go_roundg u0
      case measure => omega
      case rel => exact ⟨nw, gw, cw, S, W, rfl, by omega, hWl, hI, oS, oW, hb⟩
     case pos =>
      have s3 : (m : Int) < (L4.length : Int) := by omega
      have s2 : (0 : Int) ≤ (m : Int) := by omega
      obtain ⟨g2, o2, rfl, _, hg2, hx2⟩ := k4.resolve_left (by intro e; rw [e] at hmm; simp at hmm); obtain ⟨cs2, _, ⟨v2, rfl, hv2⟩, h32⟩ := hx2 m hmm; obtain ⟨fa, fc, rfl, lfl, -⟩ := Rows.any hv2; have hdm := hdp _ (List.getElem_mem hmm); have hbw := bel_after hb0 (by omega) (hsz0 ▸ hb); have p0 := (hbw.cell (p := ⟨g2, _, none⟩) hg2).trans (h32 0 _ rfl); have p1 := (hbw.cell (p := ⟨g2, _, none⟩) hg2).trans (h32 1 _ rfl); simp only [Nat.add_zero] at p0; obtain ⟨d, hdd⟩ : ∃ d : Nat, L4[m].dst = (d : Int) := ⟨L4[m].dst.toNat, by omega⟩; have hmN : m < (goN (waysL SG) p).length := by rw [hgo]; simpa using hmm
      have hdN : (goN (waysL SG) p)[m] = d := by simp only [hgo, List.getElem_map]; rw [hdd]; rfl
      rw [hdd] at p0 hdm; generalize L4[m].wh.length = fl at *; clear h32 hx2 hv2 hdd; have dl : d < SG.length := by omega
      have y1 : (0 : Int) ≤ (d : Int) := by omega
      have y2 : (d : Int) < (SG.length : Int) := by omega
      have hgl := (own_lt oS (w.heap.size + 1) rfl).2; have hgw := own_lt oW gw rfl; have zc := (oS.cellAt d (by omega)).trans (vB_get (by omega : d < S.length)); have zf := oS.frozenAt d
      cases hsd : S[d]'(by omega) with
      | true =>
        rw [hsd] at zc; have hJ2 := hJ.old hmN (by rw [hdN, sn_get (by omega)]; exact hsd); have hb6 := hb.alloc (by have := hb.size; omega) (.cells #[.int .i64 (d : Int), .slice fa fl fc] 58); have oS6 := oS.alloc (.cells #[.int .i64 (d : Int), .slice fa fl fc] 58); have oW6 := oW.alloc (.cells #[.int .i64 (d : Int), .slice fa fl fc] 58); clear hx hJ
        go_wp2_with fail
        go_roundw
        case rel => exact ⟨m + 1, nw, gw, cw, S, W, by omega, rfl, by go_num, hWl, hu, hJ2, oS6, oW6, hb6⟩
        case measure => simp [intOf]; omega
      | false =>
        rw [hsd] at zc; obtain ⟨hJ2, hU2⟩ := hJ.new hmN (by rw [hdN]; exact dl) (by rw [hdN, sn_get (by omega)]; exact hsd); rw [hdN] at hJ2 hU2; have hUS : unN (S.set d true) + (nw + 1) = u0 := by rw [List.length_append] at hU2; simp at hU2; omega
        have hne : gw ≠ w.heap.size + 1 := by omega
        have oSs := (oS.stored d (.bool true)).1; rw [vB_set] at oSs; have oWs : (wr.setCell ⟨w.heap.size + 1, d, none⟩ (.bool true)).ownsRow (w.heap.size + 2) 3 1 (.slice (some ⟨gw, 0, none⟩) nw cw) nw (vN W) := own_keep oW ((Only.refl (fun q => q = w.heap.size + 1) wr).set rfl _) (fun q hq => by simp [Value.ownBlock] at hq; omega); have hbs : Below (w.heap.size + 1) W0 (wr.setCell ⟨w.heap.size + 1, d, none⟩ (.bool true)) := hb.setCell (p := ⟨w.heap.size + 1, d, none⟩) (Nat.le_refl _) _; have hz1 : (wr.setCell ⟨w.heap.size + 1, d, none⟩ (.bool true)).heap.size = wr.heap.size := by simp [World.setCell]
        have hs1 : w.heap.size + 1 ≤ (wr.setCell ⟨w.heap.size + 1, d, none⟩ (.bool true)).heap.size := by rw [hz1]; have := hb.size; omega
        have hbC : Below (w.heap.size + 1) W0 (((wr.setCell ⟨w.heap.size + 1, d, none⟩ (.bool true)).alloc (.cells #[.int .i64 (d : Int), .slice fa fl fc] 58)).alloc (.cells #[.int .i64 (d : Int)] 3)) := (hbs.alloc hs1 _).alloc (Nat.le_trans hs1 (by simp)) _; have oSC := (oSs.alloc (.cells #[.int .i64 (d : Int), .slice fa fl fc] 58)).alloc (.cells #[.int .i64 (d : Int)] 3); have oWC := (oWs.alloc (.cells #[.int .i64 (d : Int), .slice fa fl fc] 58)).alloc (.cells #[.int .i64 (d : Int)] 3); clear hx hJ oS oW oSs oWs hbs
        go_wp2_with (at_builtin; (refine wpList_append_mine _ rfl _ _ 80 rfl (w.heap.size + 2) 3 tj _ 1 8 Tryz.underlying80 hj hj0 hj1 hj2 rfl (by decide) (.slice (some ⟨gw, 0, none⟩) nw cw) nw (vN W) rfl oWC ⟨wr.heap.size + 1, 0, none⟩ 1 1 [.int .i64 (d : Int)] rfl rfl (cells_at (W := (wr.setCell ⟨w.heap.size + 1, d, none⟩ (.bool true)).alloc (.cells #[.int .i64 (d : Int), .slice fa fl fc] 58)) (b := wr.heap.size + 1) (by simp [World.setCell]) _ _) (all_one rfl) (by decide) (by unfold maxLen; omega) (by omega) (by simp [World.setCell]; omega) ?_); intro g' c' y o3 gr dj _ hc'; have b3 := grown_bel hbC gr (by omega) (fun q hq => by simp [Value.ownBlock] at hq; omega); have oS3 := oSC.kept gr (.inr (by simp [Value.ownBlock]; omega)))
        go_roundw
        case rel => exact ⟨m + 1, nw + 1, g', c', S.set d true, W ++ [d], by omega, rfl, by go_num, (by show _ = _; simp [hWl]), hUS, hJ2, oS3, (by show World.ownsRow _ _ _ _ _ _ _; rw [vN_app]; exact o3), b3⟩
        case measure => simp [intOf]; omega
end Go.Proofs.YtjfieclmagbfbaaGreatDoor
