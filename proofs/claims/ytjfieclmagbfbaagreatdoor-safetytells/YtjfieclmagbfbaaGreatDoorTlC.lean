import Derived.Test.YtjfieclmagbfbaaGreatDoorTlR
set_option linter.unusedVariables false
set_option linter.unusedSimpArgs false
namespace Go.Proofs.YtjfieclmagbfbaaGreatDoor
open Go.RowKit
theorem sound9 (G : List Gp) (C : List Cf) (D : List Dt) (TM CT : List ByteArray) (VR : List Vr) (SG : List Ts) (pn : ByteArray) (ga ca da ta ka va sa : Option Addr) (gc cc dc tc kc vc sc : Nat) (stt : Int) (X : World) (h : TPl X G C D TM CT VR SG pn ga ca da ta ka va sa gc cc dc tc kc vc sc stt) (tb : Tb X) (hgr : ∀ s ∈ SG, 0 ≤ s.green ∧ s.green < 18446744073709551616) :
  Calls Tryz.prog 9 #[(.agg #[.string pn, .slice ga G.length gc, .slice ca C.length cc, .slice da D.length dc, .slice ta TM.length tc, .slice ka CT.length kc, .slice va VR.length vc, .slice sa SG.length sc, .int .i64 stt])] X fun e w' => e = .returned (.bool (sdB G C D TM CT VR SG pn stt)) ∧ Below X.heap.size X w' :=
 refSound_of G C D TM CT VR SG pn ga ca da ta ka va sa gc cc dc tc kc vc sc stt X h tb (fun Y hY lG lS => rStages_any G C D TM CT VR SG pn ga ca da ta ka va sa gc cc dc tc kc vc sc stt Y (Tss.below h.hS hY) lG lS h.hr hgr)
/-- The pairs of n groups. -/
def rwL (n a : Nat) (m : Nat) : List (Int × Int) := (List.range m).map fun d => ((a : Int), ((a + 1 + d : Nat) : Int))
def prM (n m : Nat) : List (Int × Int) := (List.range m).flatMap fun a => rwL n a (n - 1 - a)
def prL (n : Nat) : List (Int × Int) := prM n n
def pr (c : Cf) : Int × Int := (c.a, c.b)
theorem rw_succ (n a m : Nat) : rwL n a (m + 1) = rwL n a m ++ [((a : Int), ((a + 1 + m : Nat) : Int))] := by
  unfold rwL; rw [List.range_succ]; simp
theorem prM_succ (n m : Nat) : prM n (m + 1) = prM n m ++ rwL n m (n - 1 - m) := by
  unfold prM; rw [List.range_succ]; simp
/-- The groups and the stages of a ring. -/
def gN (am : Int) (i : Nat) : Gp := ⟨⟨#[103, UInt8.ofNat (97 + i)]⟩, 1 + (i : Int) % 2, 5, am, 0⟩
def on1 : List Nd := [⟨2, 1, ByteArray.empty, 0, 0⟩]
def sN (n i : Nat) : Ts := ⟨⟨#[115, UInt8.ofNat (97 + i)]⟩, i, ((2 ^ i : Nat) : Int), [], [], [], [⟨(((i + 1) % n : Nat) : Int), on1⟩]⟩
def gL (n : Nat) (am : Int) : List Gp := (List.range n).map (gN am)
def sL (n : Nat) : List Ts := (List.range n).map (sN n)
/-- The marks behind an append. -/
def mkO (o : Nat → Nat) (n t g : Nat) : Nat → Nat := fun b => if b < n then o b else if b = g then t else 0
/-- An append to a row of mark t. -/
structure Gw (o : Nat → Nat) (t : Nat) (W W1 W2 : World) (v : Value) (g : Nat) : Prop where
  hb : Below W.heap.size W W1
  hg : W1.grownBy W2 v.ownBlock
  hat : v.ownBlock = some g ∨ W1.heap.size ≤ g
  tag : ∀ q, v.ownBlock = some q → q < W.heap.size ∧ o q = t
  t0 : t ≠ 0
theorem Gw.ky {o : Nat → Nat} {t g : Nat} {W W1 W2 : World} {v : Value} (h : Gw o t W W1 W2 v g) : Ky o t W W2 :=
  ⟨Nat.le_trans h.hb.size h.hg.size, fun k hk ho => (h.hg.block k (Nat.lt_of_lt_of_le hk h.hb.size) (fun e => ho (h.tag k e.symm).2)).trans (h.hb.block k hk)⟩
theorem mkO_old {o : Nat → Nat} {n t g b : Nat} (h : b < n) : mkO o n t g b = o b := if_pos h
theorem Gw.own {o : Nat → Nat} {t g : Nat} {W W1 W2 : World} {v : Value} (h : Gw o t W W1 W2 v g) {u B e sz n : Nat} {x : Value} {xs : List Value} (hu : u ≠ t) (q : OwnT o u B e sz W x n xs) : OwnT (mkO o W.heap.size t g) u B e sz W2 x n xs :=
  ⟨(q.ky h.ky hu).own, fun k hk => by rw [mkO_old (own_lt q.own k hk).2]; exact q.tag k hk⟩
theorem Gw.mv {o : Nat → Nat} {t g : Nat} {W W1 W2 : World} {v : Value} (h : Gw o t W W1 W2 v g) : Mv (Zo o) W (Zo (mkO o W.heap.size t g)) W2 := by
  have m := h.ky.mv h.t0
  exact ⟨m.1, fun k hk hs => ⟨(m.2 k hk hs).1, by show mkO o W.heap.size t g k = 0; rw [mkO_old hk]; exact hs⟩⟩
theorem Gw.mvN {o : Nat → Nat} {t g : Nat} {W W1 W2 : World} {v : Value} (h : Gw o t W W1 W2 v g) : Mv (fun b => W.heap.size ≤ b) W1 (Zo (mkO o W.heap.size t g)) W2 := by
  refine ⟨h.hg.size, fun k hk (hs : W.heap.size ≤ k) => ⟨h.hg.block k hk (fun e => by have := (h.tag k e.symm).1; omega), ?_⟩⟩
  show mkO o W.heap.size t g k = 0
  have e : k ≠ g := by
    intro e
    rcases h.hat with q | q
    · have := (h.tag g q).1; omega
    · omega
  unfold mkO
  rw [if_neg (by omega), if_neg e]
theorem Gw.new {o : Nat → Nat} {t g : Nat} {W W1 W2 : World} {v : Value} (h : Gw o t W W1 W2 v g) : mkO o W.heap.size t g g = t := by
  rcases h.hat with q | q
  · rw [mkO_old (h.tag g q).1]; exact (h.tag g q).2
  · unfold mkO
    rw [if_neg (by have := h.hb.size; omega), if_pos rfl]
/-- A stage without lists but its nexts, which are never turned. -/
structure Stt (o : Nat → Nat) (W : World) (y : Sv) : Prop where
  q : y.x.enter = [] ∧ y.x.during = [] ∧ y.x.leave = [] ∧ (y.ea = none ∧ y.ec = 0) ∧ (y.da = none ∧ y.dc = 0) ∧ (y.la = none ∧ y.lc = 0)
  n : Tns (Zo o) W (.slice y.na y.x.nexts.length y.nc) y.x.nexts
theorem Stt.mv {o o' : Nat → Nat} {W W' : World} {y : Sv} (h : Stt o W y) (m : Mv (Zo o) W (Zo o') W') : Stt o' W' y := ⟨h.q, Rows.mv h.n m (fun _ _ h => tnr_mv h m)⟩
/-- A plan's three rows, each by itself. -/
structure Rn (o : Nat → Nat) (B : Nat) (W : World) (G : List Gp) (C : List Cf) (Y : List Sv) (vG vC vS : Value) : Prop where
  oG : OwnT o 1 B 73 5 W vG G.length (cellsF Gp.cs G)
  oC : OwnT o 2 B 75 4 W vC C.length (cellsF Cf.cs C)
  oS : OwnT o 3 B 51 7 W vS Y.length (cellsF Sv.cs Y)
  st : ∀ y ∈ Y, Stt o W y
theorem Rn.ky {o : Nat → Nat} {B t : Nat} {W W' : World} {G : List Gp} {C : List Cf} {Y : List Sv} {vG vC vS : Value} (h : Rn o B W G C Y vG vC vS) (k : Ky o t W W') (ht : 4 ≤ t) : Rn o B W' G C Y vG vC vS :=
  ⟨h.oG.ky k (by omega), h.oC.ky k (by omega), h.oS.ky k (by omega), fun y hy => (h.st y hy).mv (k.mv (by omega))⟩
theorem Rn.below {o : Nat → Nat} {B : Nat} {W W' : World} {G : List Gp} {C : List Cf} {Y : List Sv} {vG vC vS : Value} (h : Rn o B W G C Y vG vC vS) (hb : Below W.heap.size W W') : Rn o B W' G C Y vG vC vS := h.ky (Ky.below (t := 4) hb) (Nat.le_refl _)
theorem ky_only {o : Nat → Nat} {t g : Nat} {W W' : World} (ho : Only (fun q => q = g) W W') (hg : o g = t) : Ky o t W W' := ⟨ho.size, fun k hk h => ho.block k hk (fun e => h (by rw [e]; exact hg))⟩
theorem Rn.setG {o : Nat → Nat} {B g : Nat} {W W' : World} {G G' : List Gp} {C : List Cf} {Y : List Sv} {vG vC vS : Value} (h : Rn o B W G C Y vG vC vS) (hg : vG.ownBlock = some g) (ho : Only (fun q => q = g) W W') (own' : W'.ownsRow B 73 5 vG G'.length (cellsF Gp.cs G')) : Rn o B W' G' C Y vG vC vS :=
  have k := ky_only ho (h.oG.tag g hg)
  ⟨⟨own', h.oG.tag⟩, h.oC.ky k (by decide), h.oS.ky k (by decide), fun y hy => (h.st y hy).mv (k.mv (by decide))⟩
theorem Rn.setC {o : Nat → Nat} {B g : Nat} {W W' : World} {G : List Gp} {C C' : List Cf} {Y : List Sv} {vG vC vS : Value} (h : Rn o B W G C Y vG vC vS) (hg : vC.ownBlock = some g) (ho : Only (fun q => q = g) W W') (own' : W'.ownsRow B 75 4 vC C'.length (cellsF Cf.cs C')) : Rn o B W' G C' Y vG vC vS :=
  have k := ky_only ho (h.oC.tag g hg)
  ⟨h.oG.ky k (by decide), ⟨own', h.oC.tag⟩, h.oS.ky k (by decide), fun y hy => (h.st y hy).mv (k.mv (by decide))⟩
theorem Rn.setS {o : Nat → Nat} {B g : Nat} {W W' : World} {G : List Gp} {C : List Cf} {Y Y' : List Sv} {vG vC vS : Value} (h : Rn o B W G C Y vG vC vS) (hg : vS.ownBlock = some g) (ho : Only (fun q => q = g) W W') (own' : W'.ownsRow B 51 7 vS Y'.length (cellsF Sv.cs Y')) (hY : ∀ y ∈ Y', (∃ z ∈ Y, (Stt o W' z → Stt o W' y))) : Rn o B W' G C Y' vG vC vS :=
  have k := ky_only ho (h.oS.tag g hg)
  ⟨h.oG.ky k (by decide), h.oC.ky k (by decide), ⟨own', h.oS.tag⟩, fun y hy => by obtain ⟨z, hz, f⟩ := hY y hy; exact f ((h.st z hz).mv (k.mv (by decide)))⟩
/-- What stands while a ring is made. -/
structure Fi (w : World) (o : Nat → Nat) (W : World) (R0 U : Array Value) (G : List Gp) (C : List Cf) (Y : List Sv) (vG vC vS : Value) : Prop where
  hb : Below w.heap.size w W
  res : Has W w.heap.size R0
  ub : Has W (w.heap.size + 1) U
  t0 : o w.heap.size = 4
  t1 : o (w.heap.size + 1) = 4
  rn : Rn o w.heap.size W G C Y vG vC vS
theorem Fi.below {w W W' : World} {o : Nat → Nat} {R0 U : Array Value} {G : List Gp} {C : List Cf} {Y : List Sv} {vG vC vS : Value} (h : Fi w o W R0 U G C Y vG vC vS) (hb : Below W.heap.size W W') : Fi w o W' R0 U G C Y vG vC vS :=
  ⟨bel_after h.hb h.hb.size hb, h.res.below hb, h.ub.below hb, h.t0, h.t1, h.rn.below hb⟩
theorem Fi.setU {w W : World} {o : Nat → Nat} {R0 U : Array Value} {G : List Gp} {C : List Cf} {Y : List Sv} {vG vC vS : Value} (h : Fi w o W R0 U G C Y vG vC vS) (i : Nat) (hi : i < U.size) (v : Value) : Fi w o (W.setCell ⟨w.heap.size + 1, i, none⟩ v) R0 (U.setIfInBounds i v) G C Y vG vC vS :=
  ⟨h.hb.setCell (p := ⟨w.heap.size + 1, i, none⟩) (by show w.heap.size ≤ w.heap.size + 1; omega) _, h.res.far (by omega) v, h.ub.set i hi v, h.t0, h.t1, h.rn.ky (Ky.set h.t1) (Nat.le_refl _)⟩
theorem Fi.grow {w W W1 W2 : World} {o : Nat → Nat} {R0 U : Array Value} {G G' : List Gp} {C C' : List Cf} {Y Y' : List Sv} {vG vC vS vG' vC' vS' v : Value} {t g : Nat} (h : Fi w o W R0 U G C Y vG vC vS) (k : Gw o t W W1 W2 v g) (ht : t < 4) (hB : ∀ q, v.ownBlock = some q → w.heap.size ≤ q) (r : Rn (mkO o W.heap.size t g) w.heap.size W2 G' C' Y' vG' vC' vS') : Fi w (mkO o W.heap.size t g) W2 R0 U G' C' Y' vG' vC' vS' := by
  have b0 := h.res.1
  have b1 := h.ub.1
  have n0 : o w.heap.size ≠ t := by rw [h.t0]; omega
  have n1 : o (w.heap.size + 1) ≠ t := by rw [h.t1]; omega
  exact ⟨grown_bel (bel_after h.hb h.hb.size k.hb) k.hg (Nat.le_refl _) hB, has_ky h.res k.ky n0, has_ky h.ub k.ky n1, by rw [mkO_old b0]; exact h.t0, by rw [mkO_old b1]; exact h.t1, r⟩
theorem own_len {α : Type} {cs : α → List Value} {W : World} {B e sz : Nat} {L : List α} {x : α} {g c : Nat} (h : W.ownsRow B e sz (.slice (some ⟨g, 0, none⟩) (L.length + 1) c) (L.length + 1) (cellsF cs L ++ cs x)) : W.ownsRow B e sz (.slice (some ⟨g, 0, none⟩) (L.length + 1) c) (L ++ [x]).length (cellsF cs (L ++ [x])) := by
  have e1 : (L ++ [x]).length = L.length + 1 := by simp
  rw [e1, show cellsF cs (L ++ [x]) = cellsF cs L ++ cs x from by rw [cellsF_append]; simp [cellsF]]
  exact h
theorem tag_new {o : Nat → Nat} {t g n c : Nat} (h : o g = t) : ∀ q, (Value.slice (some ⟨g, 0, none⟩) n c).ownBlock = some q → o q = t := fun q hq => by
  have e : g = q := by injection hq
  rw [← e]; exact h
theorem Fi.pushG {w W W1 W2 : World} {o : Nat → Nat} {R0 U : Array Value} {G : List Gp} {C : List Cf} {Y : List Sv} {vG vC vS : Value} {g c : Nat} (h : Fi w o W R0 U G C Y vG vC vS) (hb : Below W.heap.size W W1) (x : Gp) (hg : W1.grownBy W2 vG.ownBlock) (hat : vG.ownBlock = some g ∨ W1.heap.size ≤ g) (own' : W2.ownsRow w.heap.size 73 5 (.slice (some ⟨g, 0, none⟩) (G.length + 1) c) (G.length + 1) (cellsF Gp.cs G ++ x.cs)) : ∃ o', Fi w o' W2 R0 U (G ++ [x]) C Y (.slice (some ⟨g, 0, none⟩) (G.length + 1) c) vC vS :=
  have k : Gw o 1 W W1 W2 vG g := ⟨hb, hg, hat, fun q hq => ⟨(own_lt h.rn.oG.own q hq).2, h.rn.oG.tag q hq⟩, by decide⟩
  ⟨_, h.grow k (by decide) (fun q hq => (own_lt h.rn.oG.own q hq).1) ⟨⟨own_len own', tag_new k.new⟩, k.own (by decide) h.rn.oC, k.own (by decide) h.rn.oS, fun y hy => (h.rn.st y hy).mv k.mv⟩⟩
theorem Fi.pushC {w W W1 W2 : World} {o : Nat → Nat} {R0 U : Array Value} {G : List Gp} {C : List Cf} {Y : List Sv} {vG vC vS : Value} {g c : Nat} (h : Fi w o W R0 U G C Y vG vC vS) (hb : Below W.heap.size W W1) (x : Cf) (hg : W1.grownBy W2 vC.ownBlock) (hat : vC.ownBlock = some g ∨ W1.heap.size ≤ g) (own' : W2.ownsRow w.heap.size 75 4 (.slice (some ⟨g, 0, none⟩) (C.length + 1) c) (C.length + 1) (cellsF Cf.cs C ++ x.cs)) : ∃ o', Fi w o' W2 R0 U G (C ++ [x]) Y vG (.slice (some ⟨g, 0, none⟩) (C.length + 1) c) vS :=
  have k : Gw o 2 W W1 W2 vC g := ⟨hb, hg, hat, fun q hq => ⟨(own_lt h.rn.oC.own q hq).2, h.rn.oC.tag q hq⟩, by decide⟩
  ⟨_, h.grow k (by decide) (fun q hq => (own_lt h.rn.oC.own q hq).1) ⟨k.own (by decide) h.rn.oG, ⟨own_len own', tag_new k.new⟩, k.own (by decide) h.rn.oS, fun y hy => (h.rn.st y hy).mv k.mv⟩⟩
theorem Fi.pushS {w W W1 W2 : World} {o : Nat → Nat} {R0 U : Array Value} {G : List Gp} {C : List Cf} {Y : List Sv} {vG vC vS : Value} {g c : Nat} (h : Fi w o W R0 U G C Y vG vC vS) (hb : Below W.heap.size W W1) (x : Sv) (hx : x.x.enter = [] ∧ x.x.during = [] ∧ x.x.leave = [] ∧ (x.ea = none ∧ x.ec = 0) ∧ (x.da = none ∧ x.dc = 0) ∧ (x.la = none ∧ x.lc = 0)) (hn : Tns (fun b => W.heap.size ≤ b) W1 (.slice x.na x.x.nexts.length x.nc) x.x.nexts) (hg : W1.grownBy W2 vS.ownBlock) (hat : vS.ownBlock = some g ∨ W1.heap.size ≤ g) (own' : W2.ownsRow w.heap.size 51 7 (.slice (some ⟨g, 0, none⟩) (Y.length + 1) c) (Y.length + 1) (cellsF Sv.cs Y ++ x.cs)) : ∃ o', Fi w o' W2 R0 U G C (Y ++ [x]) vG vC (.slice (some ⟨g, 0, none⟩) (Y.length + 1) c) :=
  have k : Gw o 3 W W1 W2 vS g := ⟨hb, hg, hat, fun q hq => ⟨(own_lt h.rn.oS.own q hq).2, h.rn.oS.tag q hq⟩, by decide⟩
  ⟨_, h.grow k (by decide) (fun q hq => (own_lt h.rn.oS.own q hq).1) ⟨k.own (by decide) h.rn.oG, k.own (by decide) h.rn.oC, ⟨own_len own', tag_new k.new⟩, fun y hy => by
    rcases List.mem_append.1 hy with hy | hy
    · exact (h.rn.st y hy).mv k.mv
    · rw [List.mem_singleton.1 hy]; exact ⟨hx, Rows.mv hn k.mvN (fun _ _ h => tnr_mv h k.mvN)⟩⟩⟩
/-- A row of conflicts with one put in another's place. -/
theorem cells_put {α : Type} {cs : α → List Value} {sz : Nat} (hl : ∀ x, (cs x).length = sz) (L : List α) (i : Nat) (h : i < L.length) (y : α) (xs : List Value) (hx : xs.length = L.length * sz) (h1 : ∀ j, j < sz → xs[i * sz + j]? = (cs y)[j]?) (h2 : ∀ k, k < i * sz ∨ i * sz + sz ≤ k → xs[k]? = (cellsF cs L)[k]?) : xs = cellsF cs (L.set i y) := by
  apply List.ext_getElem?
  intro k
  by_cases hk : k < L.length * sz
  · have hs : 0 < sz := by
      rcases Nat.eq_zero_or_pos sz with e | e
      · subst e; omega
      · exact e
    obtain ⟨q, r, rfl, hr⟩ : ∃ q r, k = q * sz + r ∧ r < sz := ⟨k / sz, k % sz, by rw [Nat.mul_comm]; exact (Nat.div_add_mod k sz).symm, Nat.mod_lt _ hs⟩
    have hq : q < L.length := by
      rcases Nat.lt_or_ge q L.length with e | e
      · exact e
      · have := Nat.mul_le_mul_right sz e; omega
    rw [cellsF_get hl (L.set i y) q r (by simpa using hq) hr]
    by_cases e : q = i
    · subst e
      rw [h1 r hr, List.getElem_set_self]
    · rw [List.getElem_set_ne (fun e2 => e e2.symm), h2, cellsF_get hl L q r hq hr]
      rcases Nat.lt_or_ge q i with a | a
      · left
        have := Nat.mul_le_mul_right sz (show q + 1 ≤ i from a)
        rw [Nat.add_mul] at this; omega
      · right
        have := Nat.mul_le_mul_right sz (show i + 1 ≤ q by omega)
        rw [Nat.add_mul] at this; omega
  · rw [List.getElem?_eq_none (by omega), List.getElem?_eq_none (by rw [cellsF_len hl]; simpa using Nat.le_of_not_lt hk)]
/-- What a ring says of its conflicts. -/
structure Cs (n : Nat) (am V : Int) (C : List Cf) : Prop where
  pr : C.map pr = prL n
  al : ∀ c ∈ C, c.ab = V ∧ c.ba = V
  v1 : am ≤ V
  v2 : V ≤ 3060
/-- What fine answers. -/
def FinP (n : Nat) (am V : Int) (w : World) (e : Ending) (w' : World) : Prop :=
  ∃ (o : Nat → Nat) (C : List Cf) (Y : List Sv) (ga ca sa : Option Addr) (gc cc sc : Nat), e = .returned (.agg #[.string ⟨#[114, 105, 110, 103]⟩, .slice ga n gc, .slice ca C.length cc, .slice none 0 0, .slice none 0 0, .slice none 0 0, .slice none 0 0, .slice sa n sc, .int .i64 0]) ∧ Below w.heap.size w w' ∧ Hid (Rn o w.heap.size w' (gL n am) C Y (.slice ga n gc) (.slice ca C.length cc) (.slice sa n sc)) ∧ Y.map (·.x) = sL n ∧ Cs n am V C
theorem Fi.setC {w W W' : World} {o : Nat → Nat} {R0 U : Array Value} {G : List Gp} {C C' : List Cf} {Y : List Sv} {vG vC vS : Value} {g : Nat} (h : Fi w o W R0 U G C Y vG vC vS) (hg : vC.ownBlock = some g) (ho : Only (fun q => q = g) W W') (own' : W'.ownsRow w.heap.size 75 4 vC C'.length (cellsF Cf.cs C')) : Fi w o W' R0 U G C' Y vG vC vS := by
  have tg := h.rn.oC.tag g hg
  have hl := own_lt h.rn.oC.own g hg
  refine ⟨bel_only h.hb ho (Nat.le_refl _) (fun k hk e => by have := hl.1; omega), h.res.only ho (fun e => ?_), h.ub.only ho (fun e => ?_), h.t0, h.t1, h.rn.setC hg ho own'⟩
  · have := h.t0; rw [e, tg] at this; cases this
  · have := h.t1; rw [e, tg] at this; cases this
theorem cf_put4 (A R : List Cf) (s x : Cf) : ((((cellsF Cf.cs (A ++ s :: R)).set (A.length * 4) (.int .i64 x.a)).set (A.length * 4 + 1) (.int .i64 x.b)).set (A.length * 4 + 2) (.int .i64 x.ab)).set (A.length * 4 + 3) (.int .i64 x.ba) = cellsF Cf.cs (A ++ x :: R) := by
  rw [cellsF_append, cellsF_append]
  have e1 : (cellsF Cf.cs A).length = A.length * 4 := cellsF_len cf_len A
  rw [List.set_append_right _ _ (by omega), e1, show A.length * 4 - A.length * 4 = 0 by omega]
  rw [List.set_append_right _ _ (by omega), e1, show A.length * 4 + 1 - A.length * 4 = 1 by omega]
  rw [List.set_append_right _ _ (by omega), e1, show A.length * 4 + 2 - A.length * 4 = 2 by omega]
  rw [List.set_append_right _ _ (by omega), e1, show A.length * 4 + 3 - A.length * 4 = 3 by omega]
  simp [cellsF, Cf.cs]
theorem cut_len {α : Type} {L : List α} {p : Nat} (h : p < L.length) : L = L.take p ++ L[p] :: L.drop (p + 1) ∧ (L.take p).length = p ∧ ∀ z, L.set p z = L.take p ++ z :: L.drop (p + 1) := by
  refine ⟨by rw [← List.drop_eq_getElem_cons h, List.take_append_drop], by rw [List.length_take]; omega, fun z => ?_⟩
  rw [List.set_eq_take_append_cons_drop, if_pos h]
theorem cf_put {L : List Cf} {p : Nat} (h : p < L.length) (x : Cf) : ((((cellsF Cf.cs L).set (p * 4) (.int .i64 x.a)).set (p * 4 + 1) (.int .i64 x.b)).set (p * 4 + 2) (.int .i64 x.ab)).set (p * 4 + 3) (.int .i64 x.ba) = cellsF Cf.cs (L.set p x) := by
  obtain ⟨e, hl, hs⟩ := cut_len h
  have := cf_put4 (L.take p) (L.drop (p + 1)) L[p] x
  rw [hl, ← e] at this
  rw [hs, this]
theorem take_set_succ {α : Type} {L : List α} {p : Nat} (h : p < L.length) (x : α) : (L.set p x).take (p + 1) = L.take p ++ [x] := by
  obtain ⟨e, hl, hs⟩ := cut_len h
  rw [hs, List.take_append, hl, List.take_of_length_le (by omega), show p + 1 - p = 1 by omega]
  rfl
end Go.Proofs.YtjfieclmagbfbaaGreatDoor
