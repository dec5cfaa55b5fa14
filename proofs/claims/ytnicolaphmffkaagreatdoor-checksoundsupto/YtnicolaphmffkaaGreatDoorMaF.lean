import Derived.Test.YtnicolaphmffkaaGreatDoorSnJ
import Derived.Deep.RegionHeld3
import Derived.Deep.RegionLaw
import Derived.Deep.AppendSrc
import Derived.Deep.Upon
import Derived.Test.YtnicolaphmffkaaGreatDoorGdA
namespace Go.Proofs.YtnicolaphmffkaaGreatDoor
open Go.RowKit
set_option linter.unusedVariables false
set_option linter.unusedSimpArgs false

theorem own_keepH {w w' : World} {base e size n : Nat} {v : Value} {xs : List Value} (h : w.ownsRow base e size v n xs) (hk : ∀ g, v.ownBlock = some g → w'.heap[g]? = w.heap[g]?) : w'.ownsRow base e size v n xs := by
  refine ⟨h.1, ?_⟩
  rcases h.2 with h0 | ⟨g, cap, cur, h1, h2, h3, h4⟩
  · exact .inl h0
  · exact .inr ⟨g, cap, cur, h1, h2, (hk g (by rw [h1]; rfl)).trans h3, h4⟩
theorem own_form {w : World} {base e size n : Nat} {v : Value} {xs : List Value} (h : w.ownsRow base e size v n xs) : ∃ a c, v = .slice a n c := by
  rcases h.2 with ⟨h0, h1⟩ | ⟨g, cap, cur, h1, _⟩
  · exact ⟨none, 0, by rw [h0, h1]⟩
  · exact ⟨_, _, h1⟩
end Go.Proofs.YtnicolaphmffkaaGreatDoor
namespace Go.Proofs.YtnicolaphmffkaaGreatDoor
open Go.RowKit
set_option linter.unusedVariables false
set_option linter.unusedSimpArgs false

/-- Only blocks with the mark t may have turned. -/
structure Ky (o : Nat → Nat) (t : Nat) (W W' : World) : Prop where
  size : W.heap.size ≤ W'.heap.size
  block : ∀ k, k < W.heap.size → o k ≠ t → W'.heap[k]? = W.heap[k]?
def Zo (o : Nat → Nat) : Nat → Prop := fun b => o b = 0
theorem Ky.below {o : Nat → Nat} {t : Nat} {W W' : World} (h : Below W.heap.size W W') : Ky o t W W' := ⟨h.size, fun k hk _ => h.block k hk⟩
theorem Ky.set {o : Nat → Nat} {t g i : Nat} {W : World} {v : Value} (hg : o g = t) : Ky o t W (W.setCell ⟨g, i, none⟩ v) :=
  ⟨by simp [World.setCell], fun k _ ho => Below.heap_setCell _ _ _ _ (by intro e; exact ho (by rw [show k = g from e]; exact hg))⟩
theorem Ky.trans {o : Nat → Nat} {t : Nat} {a b c : World} (h : Ky o t a b) (k : Ky o t b c) : Ky o t a c :=
  ⟨Nat.le_trans h.size k.size, fun i hi ho => (k.block i (Nat.lt_of_lt_of_le hi h.size) ho).trans (h.block i hi ho)⟩
theorem Ky.mv {o : Nat → Nat} {t : Nat} {W W' : World} (h : Ky o t W W') (ht : t ≠ 0) : Mv (Zo o) W (Zo o) W' :=
  ⟨h.size, fun k hk hs => ⟨h.block k hk (by intro e; exact ht (by rw [← e]; exact hs)), hs⟩⟩
theorem Zo.re {o o' : Nat → Nat} {W : World} (h : ∀ b, b < W.heap.size → o b = 0 → o' b = 0) : Mv (Zo o) W (Zo o') W := Mv.weak (fun b hb hs => h b hb hs)
/-- A row of the call's own, in a block that bears the mark t. -/
structure OwnT (o : Nat → Nat) (t B e sz : Nat) (W : World) (v : Value) (n : Nat) (xs : List Value) : Prop where
  own : W.ownsRow B e sz v n xs
  tag : ∀ g, v.ownBlock = some g → o g = t
theorem OwnT.ky {o : Nat → Nat} {t u B e sz n : Nat} {W W' : World} {v : Value} {xs : List Value} (h : OwnT o t B e sz W v n xs) (k : Ky o u W W') (hu : t ≠ u) : OwnT o t B e sz W' v n xs :=
  ⟨own_keepH h.own (fun g hg => k.block g (own_lt h.own g hg).2 (by rw [h.tag g hg]; exact hu)), h.tag⟩
theorem OwnT.re {o o' : Nat → Nat} {t B e sz n : Nat} {W : World} {v : Value} {xs : List Value} (h : OwnT o t B e sz W v n xs) (hr : ∀ b, b < W.heap.size → o b = t → o' b = t) : OwnT o' t B e sz W v n xs :=
  ⟨h.own, fun g hg => hr g (own_lt h.own g hg).2 (h.tag g hg)⟩
/-- A copied stage: the values of its lists, and the row of its nexts. -/
structure Sv where
  x : Ts
  ea : Option Addr
  ec : Nat
  da : Option Addr
  dc : Nat
  la : Option Addr
  lc : Nat
  na : Option Addr
  nc : Nat
  xs : List Value
def Sv.cs (s : Sv) : List Value := [.string s.x.name, .int .i64 s.x.id, .int .u64 s.x.green, .slice s.ea s.x.enter.length s.ec, .slice s.da s.x.during.length s.dc, .slice s.la s.x.leave.length s.lc, .slice s.na s.x.nexts.length s.nc]
theorem sv_len (s : Sv) : s.cs.length = 7 := rfl
theorem tnr_mv {S S' : Nat → Prop} {w w' : World} {cs : List Value} {x : Tn} (h : TnR S w cs x) (hm : Mv S w S' w') : TnR S' w' cs x := by
  obtain ⟨v, h1, h2⟩ := h; exact ⟨v, h1, h2.mv hm⟩
structure StI (o : Nat → Nat) (B : Nat) (W : World) (t : Nat) (s : Sv) : Prop where
  e : Sts (Zo o) W (.slice s.ea s.x.enter.length s.ec) s.x.enter
  d : Sts (Zo o) W (.slice s.da s.x.during.length s.dc) s.x.during
  l : Sts (Zo o) W (.slice s.la s.x.leave.length s.lc) s.x.leave
  n : OwnT o t B 84 2 W (.slice s.na s.x.nexts.length s.nc) s.x.nexts.length s.xs
  r : Els 2 TnR (Zo o) W s.xs s.x.nexts
theorem StI.mv {o o' : Nat → Nat} {B t : Nat} {W W' : World} {s : Sv} (h : StI o B W t s) (m : Mv (Zo o) W (Zo o') W') (hn : OwnT o' t B 84 2 W' (.slice s.na s.x.nexts.length s.nc) s.x.nexts.length s.xs) : StI o' B W' t s :=
  ⟨h.e.mv m, h.d.mv m, h.l.mv m, hn, Els.mv (mx := 0) h.r (fun _ _ q => tnr_mv q m)⟩
theorem StI.ky {o : Nat → Nat} {B t u : Nat} {W W' : World} {s : Sv} (h : StI o B W t s) (k : Ky o u W W') (h0 : u ≠ 0) (ht : t ≠ u) : StI o B W' t s := h.mv (k.mv h0) (h.n.ky k ht)
theorem StI.re {o o' : Nat → Nat} {B t : Nat} {W : World} {s : Sv} (h : StI o B W t s) (h0 : ∀ b, b < W.heap.size → o b = 0 → o' b = 0) (ht : ∀ b, b < W.heap.size → o b = t → o' b = t) : StI o' B W t s := h.mv (Zo.re h0) (h.n.re ht)
structure Ow where
  e : Nat
  s : Nat
  v : Value
  n : Nat
  xs : List Value
/-- What stands while a typed plan is copied. -/
structure CtS (w : World) (o : Nat → Nat) (W : World) (T0 R0 U : Array Value) (Os : List Ow) (Ls : List Sv) (vS : Value) : Prop where
  hb : Below w.heap.size w W
  box : Has W w.heap.size T0
  res : Has W (w.heap.size + 1) R0
  ub : Has W (w.heap.size + 1 + 1) U
  lo : ∀ b, b < w.heap.size → o b = 2
  t0 : o w.heap.size = 2
  t1 : o (w.heap.size + 1) = 2
  t2 : o (w.heap.size + 1 + 1) = 2
  own : OwnT o 1 w.heap.size 81 7 W vS Ls.length (cellsF Sv.cs Ls)
  fl : ∀ y ∈ Os, OwnT o 0 w.heap.size y.e y.s W y.v y.n y.xs
  st : ∀ (i : Nat) (s : Sv), Ls[i]? = some s → StI o w.heap.size W (i + 3) s
theorem has_ky {o : Nat → Nat} {t b : Nat} {W W' : World} {vs : Array Value} (h : Has W b vs) (k : Ky o t W W') (hb : o b ≠ t) : Has W' b vs := h.blk k.size (k.block b h.1 hb)
theorem CtS.below {w W W' : World} {o : Nat → Nat} {T0 R0 U : Array Value} {Os : List Ow} {Ls : List Sv} {vS : Value} (h : CtS w o W T0 R0 U Os Ls vS) (hb : Below W.heap.size W W') : CtS w o W' T0 R0 U Os Ls vS :=
  ⟨bel_after h.hb h.hb.size hb, h.box.below hb, h.res.below hb, h.ub.below hb, h.lo, h.t0, h.t1, h.t2, h.own.ky (Ky.below (t := 0) hb) (by decide), fun y hy => (h.fl y hy).ky (Ky.below (t := 1) hb) (by decide), fun i s hs => (h.st i s hs).ky (Ky.below (t := 1) hb) (by decide) (by omega)⟩
theorem els_snoc {Ls : List Sv} {s : Sv} {i : Nat} {y : Sv} (h : (Ls ++ [s])[i]? = some y) : Ls[i]? = some y ∨ (i = Ls.length ∧ y = s) := by
  by_cases hi : i < Ls.length
  · left; rwa [List.getElem?_append_left hi] at h
  · right
    rw [List.getElem?_append_right (by omega)] at h
    have : i - Ls.length = 0 := by
      rcases Nat.eq_zero_or_pos (i - Ls.length) with e | e
      · exact e
      · rw [List.getElem?_eq_none (by simp; omega)] at h; cases h
    rw [this] at h
    simp at h
    exact ⟨by omega, h.symm⟩
/-- A stage more. -/
theorem CtS.push {w W W1 W2 : World} {o : Nat → Nat} {T0 R0 U : Array Value} {Os : List Ow} {Ls : List Sv} {vS : Value} (h : CtS w o W T0 R0 U Os Ls vS) (hb : Below W.heap.size W W1) (s : Sv) {g' c' : Nat}
    (he : Sts (fun b => W.heap.size ≤ b ∧ (Value.slice s.na s.x.nexts.length s.nc).ownBlock ≠ some b) W1 (.slice s.ea s.x.enter.length s.ec) s.x.enter) (hd : Sts (fun b => W.heap.size ≤ b ∧ (Value.slice s.na s.x.nexts.length s.nc).ownBlock ≠ some b) W1 (.slice s.da s.x.during.length s.dc) s.x.during) (hl : Sts (fun b => W.heap.size ≤ b ∧ (Value.slice s.na s.x.nexts.length s.nc).ownBlock ≠ some b) W1 (.slice s.la s.x.leave.length s.lc) s.x.leave)
    (hn : W1.ownsRow W.heap.size 84 2 (.slice s.na s.x.nexts.length s.nc) s.x.nexts.length s.xs) (hr : Els 2 TnR (fun b => W.heap.size ≤ b ∧ (Value.slice s.na s.x.nexts.length s.nc).ownBlock ≠ some b) W1 s.xs s.x.nexts)
    (hg : W1.grownBy W2 vS.ownBlock) (hat : vS.ownBlock = some g' ∨ W1.heap.size ≤ g') (own' : W2.ownsRow w.heap.size 81 7 (.slice (some ⟨g', 0, none⟩) (Ls.length + 1) c') (Ls.length + 1) (cellsF Sv.cs Ls ++ s.cs)) :
    ∃ o', CtS w o' W2 T0 R0 U Os (Ls ++ [s]) (.slice (some ⟨g', 0, none⟩) (Ls.length + 1) c') := by
  have hk : Ky o 1 W W2 := ⟨Nat.le_trans hb.size hg.size, fun k hk ho => (hg.block k (Nat.lt_of_lt_of_le hk hb.size) (fun e => ho (h.own.tag k e.symm))).trans (hb.block k hk)⟩
  have hB : w.heap.size ≤ W.heap.size := h.hb.size
  have hv : ∀ q, vS.ownBlock = some q → w.heap.size ≤ q ∧ q < W.heap.size := fun q hq => own_lt h.own.own q hq
  let o' : Nat → Nat := fun b => if b < W.heap.size then o b else if (Value.slice s.na s.x.nexts.length s.nc).ownBlock = some b then Ls.length + 3 else if b = g' then 1 else 0
  have hold : ∀ b, b < W.heap.size → o' b = o b := fun b hb' => by simp [o', hb']
  have mvO : Mv (Zo o) W (Zo o') W2 := (hk.mv (by decide)).trans ⟨Nat.le_refl _, fun k _ hs => ⟨rfl, hs⟩⟩ |> fun m => ⟨m.1, fun k hk' hs => ⟨(m.2 k hk' hs).1, by show o' k = 0; rw [hold k hk']; exact hs⟩⟩
  have reT : ∀ {t B e sz n : Nat} {v : Value} {xs : List Value}, t ≠ 1 → OwnT o t B e sz W v n xs → OwnT o' t B e sz W2 v n xs := by
    intro t B e sz n v xs ht hh
    refine ⟨(hh.ky hk ht).own, fun g hg' => ?_⟩
    rw [hold g (own_lt hh.own g hg').2]; exact hh.tag g hg'
  have hg1 : ∀ b, W.heap.size ≤ b → b < W1.heap.size → b ≠ g' := by
    intro b h1 h2 e
    rcases hat with h3 | h3
    · have := (hv g' h3).2; omega
    · omega
  have mvN : Mv (fun b => W.heap.size ≤ b ∧ (Value.slice s.na s.x.nexts.length s.nc).ownBlock ≠ some b) W1 (Zo o') W2 :=
    ⟨hg.size, fun k hk' hs => ⟨hg.block k hk' (fun e => by have := (hv k e.symm).2; have := hs.1; omega), by
      show o' k = 0
      have a1 : ¬ k < W.heap.size := by have := hs.1; omega
      have a2 := hg1 k hs.1 hk'
      have a3 := hs.2
      simp only [o', if_neg a1, if_neg a3, if_neg a2]⟩⟩
  have hsz : ∀ {b : Nat} {vs : Array Value}, Has W b vs → o b = 2 → Has W2 b vs := fun hh ht => has_ky hh hk (by rw [ht]; decide)
  have b0 := h.box.1
  have b1 := h.res.1
  have b2 := h.ub.1
  refine ⟨o', ⟨?_, hsz h.box h.t0, hsz h.res h.t1, hsz h.ub h.t2, fun b hb' => by rw [hold _ (Nat.lt_of_lt_of_le hb' hB)]; exact h.lo b hb', by rw [hold _ b0]; exact h.t0, by rw [hold _ b1]; exact h.t1, by rw [hold _ b2]; exact h.t2, ?_, fun y hy => reT (by decide) (h.fl y hy), ?_⟩⟩
  · exact grown_bel (bel_after h.hb hB hb) hg (Nat.le_refl _) (fun q hq => (hv q hq).1)
  · refine ⟨?_, ?_⟩
    · have e1 : (Ls ++ [s]).length = Ls.length + 1 := by simp
      rw [e1, show cellsF Sv.cs (Ls ++ [s]) = cellsF Sv.cs Ls ++ s.cs from by rw [cellsF_append]; simp [cellsF]]
      exact own'
    · intro g hgg
      have e : g' = g := by injection hgg
      subst e
      rcases hat with h3 | h3
      · rw [hold _ (hv _ h3).2]; exact h.own.tag _ h3
      · have a1 : ¬ g' < W.heap.size := by have := hb.size; omega
        have a2 : (Value.slice s.na s.x.nexts.length s.nc).ownBlock ≠ some g' := fun e => by have := (own_lt hn _ e).2; omega
        simp only [o', if_neg a1, if_neg a2, if_true]
  · intro i y hy
    rcases els_snoc hy with h1 | ⟨rfl, rfl⟩
    · exact (h.st i y h1).mv mvO (reT (by omega) (h.st i y h1).n)
    · refine ⟨he.mv mvN, hd.mv mvN, hl.mv mvN, ⟨?_, ?_⟩, Els.mv (mx := 0) hr (fun _ _ q => tnr_mv q mvN)⟩
      · exact own_mono (own_keepH hn (fun g hgg => hg.block g (own_lt hn g hgg).2 (fun e => by have := (hv g e.symm).2; have := (own_lt hn g hgg).1; omega))) hB
      · intro g hgg
        have a1 : ¬ g < W.heap.size := by have := (own_lt hn g hgg).1; omega
        simp only [o', if_neg a1, hgg, if_true]
/-- A list as it is read, with its elements' own values beside. -/
theorem Rows.flat {α β : Type} {sz mx : Nat} {R : (Nat → Prop) → World → List Value → α → Prop} {S : Nat → Prop} {w : World} (cs : β → List Value) (pj : β → α) (RR : β → Prop) (hR : ∀ c x, R S w c x → ∃ y, c = cs y ∧ pj y = x ∧ RR y) :
    ∀ {v : Value} {L : List α}, Rows sz mx R S w v L → ∃ Y : List β, Y.map pj = L ∧ Fl sz cs w v Y ∧ ∀ y ∈ Y, RR y := by
  intro v L h
  rcases h with ⟨rfl, rfl⟩ | ⟨ad, cap, rfl, hc, hm, h | ⟨hs, hS, hg, hx⟩⟩
  · exact ⟨[], rfl, .inl ⟨rfl, rfl⟩, fun y hy => by cases hy⟩
  · subst h; exact ⟨[], rfl, .inr ⟨ad, cap, rfl, hc, .inl rfl⟩, fun y hy => by cases hy⟩
  · have key : ∀ n, n ≤ L.length → ∃ Y : List β, Y.map pj = L.take n ∧ (∀ y ∈ Y, RR y) ∧ ∀ (i : Nat) (h : i < Y.length) (j : Nat) (u : Value), (cs Y[i])[j]? = some u → w.cell? ⟨ad.block, ad.off + i * sz + j, none⟩ = some u := by
      intro n
      induction n with
      | zero => intro _; exact ⟨[], rfl, fun y hy => (by cases hy), fun i h => (by simp at h)⟩
      | succ n ih =>
        intro hn
        obtain ⟨Y, h1, h2, h3⟩ := ih (by omega)
        obtain ⟨c, q1, q2, q3⟩ := hx n (by omega)
        obtain ⟨y, rfl, hy1, hy2⟩ := hR _ _ q2
        have hl : Y.length = n := by have := congrArg List.length h1; simp at this; omega
        refine ⟨Y ++ [y], ?_, ?_, ?_⟩
        · rw [List.map_append, h1, List.take_succ_eq_append_getElem (by omega)]; simp [hy1]
        · intro z hz
          rcases List.mem_append.1 hz with hz | hz
          · exact h2 z hz
          · simp at hz; subst hz; exact hy2
        · intro i hi j u hu
          by_cases e : i < Y.length
          · rw [List.getElem_append_left e] at hu; exact h3 i e j u hu
          · have e2 : i = n := by simp at hi; omega
            subst e2
            rw [List.getElem_append_right (by omega)] at hu
            simp at hu
            exact q3 j u hu
    obtain ⟨Y, h1, h2, h3⟩ := key L.length (Nat.le_refl _)
    rw [List.take_length] at h1
    have hl : L.length = Y.length := by rw [← h1, List.length_map]
    exact ⟨Y, h1, .inr ⟨ad, cap, by rw [hl], by rw [← hl]; exact hc, .inr ⟨hs, hg, h3⟩⟩, h2⟩
/-- A next with its expression's value. -/
structure Nv where
  x : Tn
  a : Option Addr
  c : Nat
def Nv.cs (y : Nv) : List Value := [.int .i64 y.x.dst, .slice y.a y.x.wh.length y.c]
theorem nv_len (y : Nv) : y.cs.length = 2 := rfl
theorem Tns.flat {S : Nat → Prop} {w : World} {v : Value} {L : List Tn} (h : Tns S w v L) : ∃ Y : List Nv, Y.map (·.x) = L ∧ Fl 2 Nv.cs w v Y ∧ ∀ y ∈ Y, Exs S w (.slice y.a y.x.wh.length y.c) y.x.wh :=
  Rows.flat Nv.cs (·.x) (fun y => Exs S w (.slice y.a y.x.wh.length y.c) y.x.wh) (fun c x hx => by
    obtain ⟨v, rfl, he⟩ := hx
    obtain ⟨a, cap, rfl, -⟩ := Rows.any he
    exact ⟨⟨x, a, cap⟩, rfl, rfl, he⟩) h
end Go.Proofs.YtnicolaphmffkaaGreatDoor
namespace Go.Proofs.YtnicolaphmffkaaGreatDoor
open Go.RowKit
set_option linter.unusedVariables false
set_option linter.unusedSimpArgs false

set_option maxRecDepth 100000 in
set_option maxHeartbeats 4000000 in
theorem sameTables_any (G : List Gp) (C : List Cf) (vg vc ug uc : Value) (w : World) (h1 : Fl 5 Gp.cs w vg G) (h2 : Fl 4 Cf.cs w vc C) (h3 : Fl 5 Gp.cs w ug G) (h4 : Fl 4 Cf.cs w uc C) (hG : G.length ≤ 2932031007317) (hC : C.length ≤ 4398046511000) :
    Calls Tryz.prog 45 #[.agg #[vg, vc], .agg #[ug, uc]] w fun e w' => e = .returned (.bool true) ∧ Below w.heap.size w w' := by
  obtain ⟨a1, c1, rfl, k1⟩ := h1.any
  obtain ⟨a2, c2, rfl, k2⟩ := h2.any
  obtain ⟨a3, c3, rfl, k3⟩ := h3.any
  obtain ⟨a4, c4, rfl, k4⟩ := h4.any
  clear h1 h2 h3 h4
  go_enter Tryz.func45, Tryz.ntmps45
  go_wp2
  have B1 : Has ((w.alloc (.cells #[.slice a1 G.length c1, .slice a2 C.length c2] 25)).alloc (.cells #[.slice a3 G.length c3, .slice a4 C.length c4] 25)) w.heap.size #[.slice a1 G.length c1, .slice a2 C.length c2] := (Has.new _ _ _ rfl).alloc _
  have B2 : Has ((w.alloc (.cells #[.slice a1 G.length c1, .slice a2 C.length c2] 25)).alloc (.cells #[.slice a3 G.length c3, .slice a4 C.length c4] 25)) (w.heap.size + 1) #[.slice a3 G.length c3, .slice a4 C.length c4] := Has.new _ _ _ (by simp)
  have hb0 : Below w.heap.size w ((w.alloc (.cells #[.slice a1 G.length c1, .slice a2 C.length c2] 25)).alloc (.cells #[.slice a3 G.length c3, .slice a4 C.length c4] 25)) := belA
  generalize ((w.alloc (.cells #[.slice a1 G.length c1, .slice a2 C.length c2] 25)).alloc (.cells #[.slice a3 G.length c3, .slice a4 C.length c4] 25)) = W0 at *
  go_loopw [5] (fun t wr => ∃ k q : Nat, k ≤ G.length ∧ t = .int .i64 (k : Int) ∧ wr = W0.drewN q) (fun t _ => G.length - (intOf t).toNat)
  case atStart => exact ⟨0, 0, by omega, rfl, rfl⟩
  case round =>
    obtain ⟨k, q, hk, rfl, rfl⟩ := hrel
    obtain ⟨_, b1, _⟩ := id B1
    obtain ⟨_, b2, _⟩ := id B2
    by_cases hlt : k < G.length
    · obtain ⟨g1, o1, rfl, hg1, P1⟩ := k1.resolve_left (by intro e; rw [e] at hlt; simp at hlt)
      obtain ⟨g3, o3, rfl, hg3, P3⟩ := k3.resolve_left (by intro e; rw [e] at hlt; simp at hlt)
      have p0 := (hb0.cell (p := ⟨g1, _, none⟩) hg1).trans (P1 k hlt 0 _ rfl)
      have p1 := (hb0.cell (p := ⟨g1, _, none⟩) hg1).trans (P1 k hlt 1 _ rfl)
      have p2 := (hb0.cell (p := ⟨g1, _, none⟩) hg1).trans (P1 k hlt 2 _ rfl)
      have p3 := (hb0.cell (p := ⟨g1, _, none⟩) hg1).trans (P1 k hlt 3 _ rfl)
      have p4 := (hb0.cell (p := ⟨g1, _, none⟩) hg1).trans (P1 k hlt 4 _ rfl)
      have r0 := (hb0.cell (p := ⟨g3, _, none⟩) hg3).trans (P3 k hlt 0 _ rfl)
      have r1 := (hb0.cell (p := ⟨g3, _, none⟩) hg3).trans (P3 k hlt 1 _ rfl)
      have r2 := (hb0.cell (p := ⟨g3, _, none⟩) hg3).trans (P3 k hlt 2 _ rfl)
      have r3 := (hb0.cell (p := ⟨g3, _, none⟩) hg3).trans (P3 k hlt 3 _ rfl)
      have r4 := (hb0.cell (p := ⟨g3, _, none⟩) hg3).trans (P3 k hlt 4 _ rfl)
      simp only [Nat.add_zero] at p0 r0
      have t1 : (k : Int) < (G.length : Int) := by omega
      have t0 : (0 : Int) ≤ (k : Int) := by omega
      have t2 : k + 1 ≤ G.length := hlt
      generalize G[k].name = x0 at *
      generalize G[k].sort = x1 at *
      generalize G[k].min = x2 at *
      generalize G[k].amber = x3 at *
      generalize G[k].lead = x4 at *
      clear P1 P3 k1 k2 k3 k4 B1 B2
      go_wp2
      go_quiet (fail)
      go_wp2
      go_roundw
      case rel => exact ⟨k + 1, q + nq, by omega, by go_num, rfl⟩
      case measure => simp [intOf]; omega
    · have t1 : ¬ (k : Int) < (G.length : Int) := by omega
      clear k1 k3
      go_wp2
      go_loopw [6] (fun t wr => ∃ k q : Nat, k ≤ C.length ∧ t = .int .i64 (k : Int) ∧ wr = W0.drewN q) (fun t _ => C.length - (intOf t).toNat)
      case atStart => exact ⟨0, q, by omega, rfl, rfl⟩
      case round =>
        clear b1 b2
        obtain ⟨m, r, hm, rfl, rfl⟩ := hrel
        obtain ⟨_, b1, _⟩ := id B1
        obtain ⟨_, b2, _⟩ := id B2
        by_cases hlt : m < C.length
        · obtain ⟨g1, o1, rfl, hg1, P1⟩ := k2.resolve_left (by intro e; rw [e] at hlt; simp at hlt)
          obtain ⟨g3, o3, rfl, hg3, P3⟩ := k4.resolve_left (by intro e; rw [e] at hlt; simp at hlt)
          have p0 := (hb0.cell (p := ⟨g1, _, none⟩) hg1).trans (P1 m hlt 0 _ rfl)
          have p1 := (hb0.cell (p := ⟨g1, _, none⟩) hg1).trans (P1 m hlt 1 _ rfl)
          have p2 := (hb0.cell (p := ⟨g1, _, none⟩) hg1).trans (P1 m hlt 2 _ rfl)
          have p3 := (hb0.cell (p := ⟨g1, _, none⟩) hg1).trans (P1 m hlt 3 _ rfl)
          have r0 := (hb0.cell (p := ⟨g3, _, none⟩) hg3).trans (P3 m hlt 0 _ rfl)
          have r1 := (hb0.cell (p := ⟨g3, _, none⟩) hg3).trans (P3 m hlt 1 _ rfl)
          have r2 := (hb0.cell (p := ⟨g3, _, none⟩) hg3).trans (P3 m hlt 2 _ rfl)
          have r3 := (hb0.cell (p := ⟨g3, _, none⟩) hg3).trans (P3 m hlt 3 _ rfl)
          simp only [Nat.add_zero] at p0 r0
          have s1 : (m : Int) < (C.length : Int) := by omega
          have s0 : (0 : Int) ≤ (m : Int) := by omega
          have s2 : m + 1 ≤ C.length := hlt
          generalize C[m].a = x0 at *
          generalize C[m].b = x1 at *
          generalize C[m].ab = x2 at *
          generalize C[m].ba = x3 at *
          clear P1 P3 k2 k4 B1 B2 t1
          go_wp2
          go_quiet (fail)
          go_wp2
          go_roundw
          case rel => exact ⟨m + 1, r + nq, by omega, by go_num, rfl⟩
          case measure => simp [intOf]; omega
        · have s1 : ¬ (m : Int) < (C.length : Int) := by omega
          clear k2 k4
          go_wp2
          go_ret
          exact ⟨rfl, bel_drewN hb0⟩
end Go.Proofs.YtnicolaphmffkaaGreatDoor
namespace Go.Proofs.YtnicolaphmffkaaGreatDoor
open Go.RowKit
set_option linter.unusedVariables false
set_option linter.unusedSimpArgs false

theorem info44 : (Tryz.prog.info? 90).map (fun i => (i.zero, i.size, i.bytes)) = some (some (.agg #[.string ⟨#[]⟩, .int .i64 0, .int .i64 0, .int .i64 0, .int .i64 0]), 5, 48) := by kernel_rfl
theorem info47 : (Tryz.prog.info? 93).map (fun i => (i.zero, i.size, i.bytes)) = some (some (.agg #[.int .i64 0, .int .i64 0, .int .i64 0, .int .i64 0]), 4, 32) := by kernel_rfl
theorem fl_src {α : Type} {sz : Nat} {cs : α → List Value} (hl : ∀ x, (cs x).length = sz) (h0 : 0 < sz) {w : World} {va : Option Addr} {cap : Nat} {L : List α} (h : Fl sz cs w (.slice va L.length cap) L) : (∀ ad, va = some ad → ∀ j u, (cellsF cs L)[j]? = some u → w.cell? (ad.add j) = some u) ∧ (va = none → L.length = 0) :=
  ⟨fun ad e => by subst e; exact h.news hl h0, fun e => by
    subst e; rcases h with ⟨_, h⟩ | ⟨ad, cap, h, _⟩
    · rw [h]; rfl
    · cases h⟩
end Go.Proofs.YtnicolaphmffkaaGreatDoor
namespace Go.Proofs.YtnicolaphmffkaaGreatDoor
open Go.RowKit
set_option linter.unusedVariables false
set_option linter.unusedSimpArgs false

theorem nd_len1 (x : Nd) : (Nd.cs x).length = 5 := rfl
theorem nd_one1 (x : Nd) : ∀ u ∈ Nd.cs x, u.oneCell' = true := all_one rfl
theorem info88 : (Tryz.prog.info? 88).map (fun i => (i.zero, i.size, i.bytes)) = some (some (.agg #[.int .i64 0, .int .i32 0, .string ⟨#[]⟩, .int .i64 0, .int .i64 0]), 5, 48) := by kernel_rfl
theorem Exs.flat {S : Nat → Prop} {w : World} {v : Value} {L : List Nd} (h : Exs S w v L) : Fl 5 Nd.cs w v L := by
  obtain ⟨Y, h1, h2, _⟩ := Rows.flat Nd.cs id (fun _ => True) (fun c x hx => ⟨x, hx, rfl, trivial⟩) h
  rw [List.map_id] at h1
  subst h1; exact h2
end Go.Proofs.YtnicolaphmffkaaGreatDoor
