import Derived.Test.YtjfieclmagbfbaaGreatDoorSnJ
import Derived.Deep.RegionHeld3
import Derived.Deep.RegionLaw
import Derived.Deep.AppendSrc
import Derived.Deep.Upon
set_option linter.unusedSimpArgs false
set_option linter.unusedVariables false
set_option maxRecDepth 100000
set_option maxHeartbeats 8000000
namespace Go.Proofs.YtjfieclmagbfbaaGreatDoor
open Go.RowKit
theorem own_keepH {w w' : World} {base e size n : Nat} {v : Value} {xs : List Value} (h : w.ownsRow base e size v n xs) (hk : ∀ g, v.ownBlock = some g → w'.heap[g]? = w.heap[g]?) : w'.ownsRow base e size v n xs := by
 refine ⟨h.1, ?_⟩
 rcases h.2 with h0 | ⟨g, cap, cur, h1, h2, h3, h4⟩
 ·exact .inl h0
 ·exact .inr ⟨g, cap, cur, h1, h2, (hk g (by rw [h1]; rfl)).trans h3, h4⟩
theorem only_grown {S : Nat → Prop} {a w w' : World} {row : Option Nat} (h : Only S a w) (hg : w.grownBy w' row) (hr : ∀ k, row = some k → S k ∨ a.heap.size ≤ k) : Only S a w' :=
 ⟨hg.os.trans h.os, hg.tape.trans h.tape, hg.output.trans h.output, Nat.le_trans h.size hg.size, fun k hk hn => (hg.block k (Nat.lt_of_lt_of_le hk h.size) (fun e => by rcases hr k e.symm with h1 | h1; (exact hn h1); omega)).trans (h.block k hk hn)⟩
theorem own_only2 {S : Nat → Prop} {w w' : World} {base e size n : Nat} {v : Value} {xs : List Value} (h : w.ownsRow base e size v n xs) (ho : Only S w w') (hd : ∀ q, v.ownBlock = some q → ¬ S q) : w'.ownsRow base e size v n xs :=
 own_keepH h (fun g hg => ho.block g (own_lt h g hg).2 (hd g hg))
theorem only_of_set (w : World) (b i : Nat) (v : Value) : Only (fun q => q = b) w (w.setCell ⟨b, i, none⟩ v) := Only.set (S := fun q => q = b) (Only.refl _ w) rfl v
structure Ky (o : Nat → Nat) (t : Nat) (W W' : World) : Prop where
 size : W.heap.size ≤ W'.heap.size
 block : ∀ k, k < W.heap.size → o k ≠ t → W'.heap[k]? = W.heap[k]?
def Zo (o : Nat → Nat) : Nat → Prop := fun b => o b = 0
theorem Ky.below {o : Nat → Nat} {t : Nat} {W W' : World} (h : Below W.heap.size W W') : Ky o t W W' := ⟨h.size, fun k hk _ => h.block k hk⟩
theorem Ky.set {o : Nat → Nat} {t g i : Nat} {W : World} {v : Value} (hg : o g = t) : Ky o t W (W.setCell ⟨g, i, none⟩ v) :=
 ⟨by simp [World.setCell], fun k _ ho => Below.heap_setCell _ _ _ _ (by intro e; exact ho (by rw [show k = g from e]; exact hg))⟩
theorem Ky.mv {o : Nat → Nat} {t : Nat} {W W' : World} (h : Ky o t W W') (ht : t ≠ 0) : Mv (Zo o) W (Zo o) W' :=
 ⟨h.size, fun k hk hs => ⟨h.block k hk (by intro e; exact ht (by rw [← e]; exact hs)), hs⟩⟩
structure OwnT (o : Nat → Nat) (t B e sz : Nat) (W : World) (v : Value) (n : Nat) (xs : List Value) : Prop where
 own : W.ownsRow B e sz v n xs
 tag : ∀ g, v.ownBlock = some g → o g = t
theorem OwnT.ky {o : Nat → Nat} {t u B e sz n : Nat} {W W' : World} {v : Value} {xs : List Value} (h : OwnT o t B e sz W v n xs) (k : Ky o u W W') (hu : t ≠ u) : OwnT o t B e sz W' v n xs :=
 ⟨own_keepH h.own (fun g hg => k.block g (own_lt h.own g hg).2 (by rw [h.tag g hg]; exact hu)), h.tag⟩
structure Sv where
 x : Ts
 ea : Option Addr
 ec : Nat
 da : Option Addr
 dc : Nat
 la : Option Addr
 lc : Nat
 na : Option Addr
 nc : Nat
 xs : List Value
def Sv.cs (s : Sv) : List Value := [.string s.x.name, .int .i64 s.x.id, .int .u64 s.x.green, .slice s.ea s.x.enter.length s.ec, .slice s.da s.x.during.length s.dc, .slice s.la s.x.leave.length s.lc, .slice s.na s.x.nexts.length s.nc]
theorem sv_len (s : Sv) : s.cs.length = 7 := rfl
theorem sv_one (s : Sv) : ∀ u ∈ s.cs, u.oneCell' = true := all_one rfl
theorem tnr_mv {S S' : Nat → Prop} {w w' : World} {cs : List Value} {x : Tn} (h : TnR S w cs x) (hm : Mv S w S' w') : TnR S' w' cs x := by
 obtain ⟨v, h1, h2⟩ := h; exact ⟨v, h1, h2.mv hm⟩
structure StI (o : Nat → Nat) (B : Nat) (W : World) (t : Nat) (s : Sv) : Prop where
 e : Sts (Zo o) W (.slice s.ea s.x.enter.length s.ec) s.x.enter
 d : Sts (Zo o) W (.slice s.da s.x.during.length s.dc) s.x.during
 l : Sts (Zo o) W (.slice s.la s.x.leave.length s.lc) s.x.leave
 n : OwnT o t B 58 2 W (.slice s.na s.x.nexts.length s.nc) s.x.nexts.length s.xs
 r : Els 2 TnR (Zo o) W s.xs s.x.nexts
theorem StI.mv {o o' : Nat → Nat} {B t : Nat} {W W' : World} {s : Sv} (h : StI o B W t s) (m : Mv (Zo o) W (Zo o') W') (hn : OwnT o' t B 58 2 W' (.slice s.na s.x.nexts.length s.nc) s.x.nexts.length s.xs) : StI o' B W' t s :=
 ⟨h.e.mv m, h.d.mv m, h.l.mv m, hn, Els.mv (mx := 0) h.r (fun _ _ q => tnr_mv q m)⟩
theorem StI.ky {o : Nat → Nat} {B t u : Nat} {W W' : World} {s : Sv} (h : StI o B W t s) (k : Ky o u W W') (h0 : u ≠ 0) (ht : t ≠ u) : StI o B W' t s := h.mv (k.mv h0) (h.n.ky k ht)
structure Ow where
 e : Nat
 s : Nat
 v : Value
 n : Nat
 xs : List Value
structure CtS (w : World) (o : Nat → Nat) (W : World) (T0 R0 U : Array Value) (Os : List Ow) (Ls : List Sv) (vS : Value) : Prop where
 hb : Below w.heap.size w W
 box : Has W w.heap.size T0
 res : Has W (w.heap.size + 1) R0
 ub : Has W (w.heap.size + 1 + 1) U
 lo : ∀ b, b < w.heap.size → o b = 2
 t0 : o w.heap.size = 2
 t1 : o (w.heap.size + 1) = 2
 t2 : o (w.heap.size + 1 + 1) = 2
 own : OwnT o 1 w.heap.size 51 7 W vS Ls.length (cellsF Sv.cs Ls)
 fl : ∀ y ∈ Os, OwnT o 0 w.heap.size y.e y.s W y.v y.n y.xs
 st : ∀ (i : Nat) (s : Sv), Ls[i]? = some s → StI o w.heap.size W (i + 3) s
theorem has_ky {o : Nat → Nat} {t b : Nat} {W W' : World} {vs : Array Value} (h : Has W b vs) (k : Ky o t W W') (hb : o b ≠ t) : Has W' b vs := h.blk k.size (k.block b h.1 hb)
theorem CtS.below {w W W' : World} {o : Nat → Nat} {T0 R0 U : Array Value} {Os : List Ow} {Ls : List Sv} {vS : Value} (h : CtS w o W T0 R0 U Os Ls vS) (hb : Below W.heap.size W W') : CtS w o W' T0 R0 U Os Ls vS :=
 ⟨bel_after h.hb h.hb.size hb, h.box.below hb, h.res.below hb, h.ub.below hb, h.lo, h.t0, h.t1, h.t2, h.own.ky (Ky.below (t := 0) hb) (by decide), fun y hy => (h.fl y hy).ky (Ky.below (t := 1) hb) (by decide), fun i s hs => (h.st i s hs).ky (Ky.below (t := 1) hb) (by decide) (by omega)⟩
theorem CtS.setU {w W : World} {o : Nat → Nat} {T0 R0 U : Array Value} {Os : List Ow} {Ls : List Sv} {vS : Value} (h : CtS w o W T0 R0 U Os Ls vS) (i : Nat) (hi : i < U.size) (v : Value) : CtS w o (W.setCell ⟨w.heap.size + 1 + 1, i, none⟩ v) T0 R0 (U.setIfInBounds i v) Os Ls vS :=
 have k : Ky o 2 W (W.setCell ⟨w.heap.size + 1 + 1, i, none⟩ v) := Ky.set h.t2
 ⟨h.hb.setCell (p := ⟨w.heap.size + 1 + 1, i, none⟩) (by show w.heap.size ≤ w.heap.size + 1 + 1; omega) _, h.box.far (by omega) v, h.res.far (by omega) v, h.ub.set i hi v, h.lo, h.t0, h.t1, h.t2, h.own.ky k (by decide), fun y hy => (h.fl y hy).ky k (by decide), fun i s hs => (h.st i s hs).ky k (by decide) (by omega)⟩
theorem els_snoc {Ls : List Sv} {s : Sv} {i : Nat} {y : Sv} (h : (Ls ++ [s])[i]? = some y) : Ls[i]? = some y ∨ (i = Ls.length ∧ y = s) := by
 by_cases hi : i < Ls.length
 ·left; rwa [List.getElem?_append_left hi] at h
 ·right
  rw [List.getElem?_append_right (by omega)] at h; have : i - Ls.length = 0 := by
   rcases Nat.eq_zero_or_pos (i - Ls.length) with e | e
   ·exact e
   ·rw [List.getElem?_eq_none (by simp; omega)] at h; cases h
  rw [this] at h; simp at h; exact ⟨by omega, h.symm⟩
theorem CtS.push {w W W1 W2 : World} {o : Nat → Nat} {T0 R0 U : Array Value} {Os : List Ow} {Ls : List Sv} {vS : Value} (h : CtS w o W T0 R0 U Os Ls vS) (hb : Below W.heap.size W W1) (s : Sv) {g' c' : Nat}
  (he : Sts (fun b => W.heap.size ≤ b ∧ (Value.slice s.na s.x.nexts.length s.nc).ownBlock ≠ some b) W1 (.slice s.ea s.x.enter.length s.ec) s.x.enter) (hd : Sts (fun b => W.heap.size ≤ b ∧ (Value.slice s.na s.x.nexts.length s.nc).ownBlock ≠ some b) W1 (.slice s.da s.x.during.length s.dc) s.x.during) (hl : Sts (fun b => W.heap.size ≤ b ∧ (Value.slice s.na s.x.nexts.length s.nc).ownBlock ≠ some b) W1 (.slice s.la s.x.leave.length s.lc) s.x.leave)
  (hn : W1.ownsRow W.heap.size 58 2 (.slice s.na s.x.nexts.length s.nc) s.x.nexts.length s.xs) (hr : Els 2 TnR (fun b => W.heap.size ≤ b ∧ (Value.slice s.na s.x.nexts.length s.nc).ownBlock ≠ some b) W1 s.xs s.x.nexts)
  (hg : W1.grownBy W2 vS.ownBlock) (hat : vS.ownBlock = some g' ∨ W1.heap.size ≤ g') (own' : W2.ownsRow w.heap.size 51 7 (.slice (some ⟨g', 0, none⟩) (Ls.length + 1) c') (Ls.length + 1) (cellsF Sv.cs Ls ++ s.cs)) :
  ∃ o', CtS w o' W2 T0 R0 U Os (Ls ++ [s]) (.slice (some ⟨g', 0, none⟩) (Ls.length + 1) c') := by
 have hk : Ky o 1 W W2 := ⟨Nat.le_trans hb.size hg.size, fun k hk ho => (hg.block k (Nat.lt_of_lt_of_le hk hb.size) (fun e => ho (h.own.tag k e.symm))).trans (hb.block k hk)⟩
 have hB : w.heap.size ≤ W.heap.size := h.hb.size
 have hv : ∀ q, vS.ownBlock = some q → w.heap.size ≤ q ∧ q < W.heap.size := fun q hq => own_lt h.own.own q hq
 let o' : Nat → Nat := fun b => if b < W.heap.size then o b else if (Value.slice s.na s.x.nexts.length s.nc).ownBlock = some b then Ls.length + 3 else if b = g' then 1 else 0
 have hold : ∀ b, b < W.heap.size → o' b = o b := fun b hb' => by simp [o', hb']
 have mvO : Mv (Zo o) W (Zo o') W2 := (hk.mv (by decide)).trans ⟨Nat.le_refl _, fun k _ hs => ⟨rfl, hs⟩⟩ |> fun m => ⟨m.1, fun k hk' hs => ⟨(m.2 k hk' hs).1, by show o' k = 0; rw [hold k hk']; exact hs⟩⟩
 have reT : ∀ {t B e sz n : Nat} {v : Value} {xs : List Value}, t ≠ 1 → OwnT o t B e sz W v n xs → OwnT o' t B e sz W2 v n xs := by
  intro t B e sz n v xs ht hh; refine ⟨(hh.ky hk ht).own, fun g hg' => ?_⟩; rw [hold g (own_lt hh.own g hg').2]; exact hh.tag g hg'
 have hg1 : ∀ b, W.heap.size ≤ b → b < W1.heap.size → b ≠ g' := by
  intro b h1 h2 e; rcases hat with h3 | h3
  ·have := (hv g' h3).2; omega
  ·omega
 have mvN : Mv (fun b => W.heap.size ≤ b ∧ (Value.slice s.na s.x.nexts.length s.nc).ownBlock ≠ some b) W1 (Zo o') W2 :=
  ⟨hg.size, fun k hk' hs => ⟨hg.block k hk' (fun e => by have := (hv k e.symm).2; have := hs.1; omega), by
   show o' k = 0; have a1 : ¬ k < W.heap.size := by have := hs.1; omega
   have a2 := hg1 k hs.1 hk'; have a3 := hs.2; simp only [o', if_neg a1, if_neg a3, if_neg a2]⟩⟩
 have hsz : ∀ {b : Nat} {vs : Array Value}, Has W b vs → o b = 2 → Has W2 b vs := fun hh ht => has_ky hh hk (by rw [ht]; decide)
 have b0 := h.box.1
 have b1 := h.res.1
 have b2 := h.ub.1
 refine ⟨o', ⟨?_, hsz h.box h.t0, hsz h.res h.t1, hsz h.ub h.t2, fun b hb' => by rw [hold _ (Nat.lt_of_lt_of_le hb' hB)]; exact h.lo b hb', by rw [hold _ b0]; exact h.t0, by rw [hold _ b1]; exact h.t1, by rw [hold _ b2]; exact h.t2, ?_, fun y hy => reT (by decide) (h.fl y hy), ?_⟩⟩
 ·exact grown_bel (bel_after h.hb hB hb) hg (Nat.le_refl _) (fun q hq => (hv q hq).1)
 ·refine ⟨?_, ?_⟩
  ·have e1 : (Ls ++ [s]).length = Ls.length + 1 := by simp
   rw [e1, show cellsF Sv.cs (Ls ++ [s]) = cellsF Sv.cs Ls ++ s.cs from by rw [cellsF_append]; simp [cellsF]]; exact own'
  ·intro g hgg
   have e : g' = g := by injection hgg
   subst e; rcases hat with h3 | h3
   ·rw [hold _ (hv _ h3).2]; exact h.own.tag _ h3
   ·have a1 : ¬ g' < W.heap.size := by have := hb.size; omega
    have a2 : (Value.slice s.na s.x.nexts.length s.nc).ownBlock ≠ some g' := fun e => by have := (own_lt hn _ e).2; omega
    simp only [o', if_neg a1, if_neg a2, if_true]
 ·intro i y hy
  rcases els_snoc hy with h1 | ⟨rfl, rfl⟩
  ·exact (h.st i y h1).mv mvO (reT (by omega) (h.st i y h1).n)
  ·refine ⟨he.mv mvN, hd.mv mvN, hl.mv mvN, ⟨?_, ?_⟩, Els.mv (mx := 0) hr (fun _ _ q => tnr_mv q mvN)⟩
   ·exact own_mono (own_keepH hn (fun g hgg => hg.block g (own_lt hn g hgg).2 (fun e => by have := (hv g e.symm).2; have := (own_lt hn g hgg).1; omega))) hB
   ·intro g hgg
    have a1 : ¬ g < W.heap.size := by have := (own_lt hn g hgg).1; omega
    simp only [o', if_neg a1, hgg, if_true]
theorem Rows.flat {α β : Type} {sz mx : Nat} {R : (Nat → Prop) → World → List Value → α → Prop} {S : Nat → Prop} {w : World} (cs : β → List Value) (pj : β → α) (RR : β → Prop) (hR : ∀ c x, R S w c x → ∃ y, c = cs y ∧ pj y = x ∧ RR y) :
  ∀ {v : Value} {L : List α}, Rows sz mx R S w v L → ∃ Y : List β, Y.map pj = L ∧ Fl sz cs w v Y ∧ ∀ y ∈ Y, RR y := by
 intro v L h
 rcases h with ⟨rfl, rfl⟩ | ⟨ad, cap, rfl, hc, hm, h | ⟨hs, hS, hg, hx⟩⟩
 ·exact ⟨[], rfl, .inl ⟨rfl, rfl⟩, fun y hy => by cases hy⟩
 ·subst h; exact ⟨[], rfl, .inr ⟨ad, cap, rfl, hc, .inl rfl⟩, fun y hy => by cases hy⟩
 ·have key : ∀ n, n ≤ L.length → ∃ Y : List β, Y.map pj = L.take n ∧ (∀ y ∈ Y, RR y) ∧ ∀ (i : Nat) (h : i < Y.length) (j : Nat) (u : Value), (cs Y[i])[j]? = some u → w.cell? ⟨ad.block, ad.off + i * sz + j, none⟩ = some u := by
   intro n
   induction n with
   | zero => intro _; exact ⟨[], rfl, fun y hy => (by cases hy), fun i h => (by simp at h)⟩
   | succ n ih =>
     intro hn; obtain ⟨Y, h1, h2, h3⟩ := ih (by omega); obtain ⟨c, q1, q2, q3⟩ := hx n (by omega); obtain ⟨y, rfl, hy1, hy2⟩ := hR _ _ q2; have hl : Y.length = n := by have := congrArg List.length h1; simp at this; omega
     refine ⟨Y ++ [y], ?_, ?_, ?_⟩
     ·rw [List.map_append, h1, List.take_succ_eq_append_getElem (by omega)]; simp [hy1]
     ·intro z hz
      rcases List.mem_append.1 hz with hz | hz
      ·exact h2 z hz
      ·simp at hz; subst hz; exact hy2
     ·intro i hi j u hu
      by_cases e : i < Y.length
      ·rw [List.getElem_append_left e] at hu; exact h3 i e j u hu
      ·have e2 : i = n := by simp at hi; omega
       subst e2; rw [List.getElem_append_right (by omega)] at hu; simp at hu; exact q3 j u hu
  obtain ⟨Y, h1, h2, h3⟩ := key L.length (Nat.le_refl _); rw [List.take_length] at h1; have hl : L.length = Y.length := by rw [← h1, List.length_map]
  exact ⟨Y, h1, .inr ⟨ad, cap, by rw [hl], by rw [← hl]; exact hc, .inr ⟨hs, hg, h3⟩⟩, h2⟩
structure Nv where
 x : Tn
 a : Option Addr
 c : Nat
def Nv.cs (y : Nv) : List Value := [.int .i64 y.x.dst, .slice y.a y.x.wh.length y.c]
theorem nv_len (y : Nv) : y.cs.length = 2 := rfl
theorem nv_one (y : Nv) : ∀ u ∈ y.cs, u.oneCell' = true := all_one rfl
theorem Tns.flat {S : Nat → Prop} {w : World} {v : Value} {L : List Tn} (h : Tns S w v L) : ∃ Y : List Nv, Y.map (·.x) = L ∧ Fl 2 Nv.cs w v Y ∧ ∀ y ∈ Y, Exs S w (.slice y.a y.x.wh.length y.c) y.x.wh :=
 Rows.flat Nv.cs (·.x) (fun y => Exs S w (.slice y.a y.x.wh.length y.c) y.x.wh) (fun c x hx => by
  obtain ⟨v, rfl, he⟩ := hx; obtain ⟨a, cap, rfl, -⟩ := Rows.any he; exact ⟨⟨x, a, cap⟩, rfl, rfl, he⟩) h
theorem cellsF_set (Q R : List Nv) (y z : Nv) (h : y.x.dst = z.x.dst) : (cellsF Nv.cs (Q ++ y :: R)).set (Q.length * 2 + 1) (.slice z.a z.x.wh.length z.c) = cellsF Nv.cs (Q ++ z :: R) := by
 rw [cellsF_append, cellsF_append]
 have e1 : (cellsF Nv.cs Q).length = Q.length * 2 := cellsF_len nv_len Q
 rw [List.set_append_right _ _ (by omega), e1, show Q.length * 2 + 1 - Q.length * 2 = 1 by omega]
 simp [cellsF, Nv.cs, h]
theorem els_nv {S : Nat → Prop} {w : World} {Q : List Nv} (h : ∀ y ∈ Q, Exs S w (.slice y.a y.x.wh.length y.c) y.x.wh) : Els 2 TnR S w (cellsF Nv.cs Q) (Q.map (·.x)) := by
 refine ⟨by rw [cellsF_len nv_len, List.length_map], fun i hi => ?_⟩
 have hi' : i < Q.length := by simpa using hi
 refine ⟨Q[i].cs, rfl, ⟨_, by rw [List.getElem_map]; rfl, by rw [List.getElem_map]; exact h _ (List.getElem_mem hi')⟩, fun j hj => cellsF_get nv_len Q i j hi' hj⟩
theorem info44 : (Tryz.prog.info? 73).map (fun i => (i.zero, i.size, i.bytes)) = some (some (.agg #[.string ⟨#[]⟩, .int .i64 0, .int .i64 0, .int .i64 0, .int .i64 0]), 5, 48) := by kernel_rfl
theorem info47 : (Tryz.prog.info? 75).map (fun i => (i.zero, i.size, i.bytes)) = some (some (.agg #[.int .i64 0, .int .i64 0, .int .i64 0, .int .i64 0]), 4, 32) := by kernel_rfl
theorem fl_src {α : Type} {sz : Nat} {cs : α → List Value} (hl : ∀ x, (cs x).length = sz) (h0 : 0 < sz) {w : World} {va : Option Addr} {cap : Nat} {L : List α} (h : Fl sz cs w (.slice va L.length cap) L) : (∀ ad, va = some ad → ∀ j u, (cellsF cs L)[j]? = some u → w.cell? (ad.add j) = some u) ∧ (va = none → L.length = 0) :=
 ⟨fun ad e => by subst e; exact h.news hl h0, fun e => by
  subst e; rcases h with ⟨_, h⟩ | ⟨ad, cap, h, _⟩
  ·rw [h]; rfl
  ·cases h⟩
theorem own_base {w : World} {base base' e size n : Nat} {v : Value} {xs : List Value} (h : w.ownsRow base e size v n xs) (hb : base' ≤ base) : w.ownsRow base' e size v n xs := by
 refine ⟨h.1, ?_⟩
 rcases h.2 with h0 | ⟨g, cap, cur, h1, h2, h3, h4⟩
 ·exact .inl h0
 ·exact .inr ⟨g, cap, cur, h1, Nat.le_trans hb h2, h3, h4⟩
structure CpT (B : Nat) (w : World) (v1 v2 : Value) (G : List Gp) (C : List Cf) : Prop where
 g : w.ownsRow B 73 5 v1 G.length (cellsF Gp.cs G)
 c : w.ownsRow B 75 4 v2 C.length (cellsF Cf.cs C)
 ne : ∀ q, v1.ownBlock = some q → v2.ownBlock ≠ some q
theorem has2 {w w' : World} {v0 v1 : Value} (h : Has w' w.heap.size #[v0, v1]) : w'.cell? ⟨w.heap.size, 0, none⟩ = some v0 ∧ w'.cell? ⟨w.heap.size, 1, none⟩ = some v1 := ⟨h.2.1 0, h.2.1 1⟩
theorem copied_any (G : List Gp) (C : List Cf) (vg vc : Value) (w : World) (h1 : Fl 5 Gp.cs w vg G) (h2 : Fl 4 Cf.cs w vc C) (lG : G.length ≤ 2932031007317) (lC : C.length ≤ 4398046511000) :
  Calls Tryz.prog 38 #[.agg #[vg, vc]] w fun e w' => (∃ a1 c1 a2 c2, e = .returned (.agg #[.slice a1 G.length c1, .slice a2 C.length c2]) ∧ CpT w.heap.size w' (.slice a1 G.length c1) (.slice a2 C.length c2) G C) ∧ Below w.heap.size w w' := by
 obtain ⟨ga, gc, rfl, -⟩ := h1.any
 obtain ⟨ca, cc, rfl, -⟩ := h2.any
 have hG := fun (W : World) (hW : Below w.heap.size w W) => fl_src gp_len (by decide) (h1.below hW)
 have hC := fun (W : World) (hW : Below w.heap.size w W) => fl_src cf_len (by decide) (h2.below hW)
 clear h1 h2
 obtain ⟨i44, hi, hi0, hi1, hi2⟩ := info_parts info44
 obtain ⟨i47, hj, hj0, hj1, hj2⟩ := info_parts info47
 go_enter Tryz.func38, Tryz.ntmps38
 go_wp2
 have H1 : Has ((w.alloc (.cells #[.slice ga G.length gc, .slice ca C.length cc] 25)).alloc (.cells #[.slice none 0 0, .slice none 0 0] 25)) w.heap.size #[.slice ga G.length gc, .slice ca C.length cc] := (Has.new _ _ _ rfl).alloc _
 have H2 : Has ((w.alloc (.cells #[.slice ga G.length gc, .slice ca C.length cc] 25)).alloc (.cells #[.slice none 0 0, .slice none 0 0] 25)) (w.heap.size + 1) #[.slice none 0 0, .slice none 0 0] := Has.new _ _ _ (by simp)
 have HB : Below w.heap.size w ((w.alloc (.cells #[.slice ga G.length gc, .slice ca C.length cc] 25)).alloc (.cells #[.slice none 0 0, .slice none 0 0] 25)) := belA
 generalize ((w.alloc (.cells #[.slice ga G.length gc, .slice ca C.length cc] 25)).alloc (.cells #[.slice none 0 0, .slice none 0 0] 25)) = W0 at *
 obtain ⟨i1, i2, i3⟩ := id H2
 obtain ⟨j1, j2, j3⟩ := id H1
 have z0 : w.heap.size + 2 ≤ W0.heap.size := H2.1
 have HBd := HB.drew
 have H1d : Has W0.drew w.heap.size #[.slice ga G.length gc, .slice ca C.length cc] := H1
 have H2d : Has W0.drew (w.heap.size + 1) #[.slice none 0 0, .slice none 0 0] := H2
 go_region_held3 (fun w' => w'.cell? ⟨w.heap.size, 0, none⟩ = some (.slice ga G.length gc) ∧ w'.cell? ⟨w.heap.size, 1, none⟩ = some (.slice ca C.length cc)) (first | exact has2 (by assumption) | go_keep) (first
  | (refine step_copy rfl _ _ 22 rfl 73 i44 _ 5 48 Tryz.underlying22 hi hi0 hi1 hi2 rfl (by decide) ga G.length gc (cellsF Gp.cs G) rfl rfl (cellsF_len gp_len _) (hG _ (by assumption)).1 (cellsF_one gp_one _) (hG _ (by assumption)).2 (by unfold maxLen; omega) (by omega) ?_; intro a1 c1 w1 own1 hb1; (try (have dis : ∀ q, (Value.slice a1 G.length c1).ownBlock = some q → (Value.slice a2 C.length c2).ownBlock ≠ some q := (fun q h1 h2 => by have e1 := (own_lt own1 q h1).1; have e2 := (own_lt own2 q h2).2; (try simp at e1); omega))); have z1 := hb1.size; (try (replace own2 := own_bel own2 hb1)); have HB1 : Below w.heap.size w w1 := bel_after (by assumption) (Below.size (B := w.heap.size) (by assumption)) hb1; have J1 : Has w1 w.heap.size #[.slice ga G.length gc, .slice ca C.length cc] := Has.below (by assumption) hb1; have G1 : Has w1 (w.heap.size + 1) #[.slice none 0 0, .slice none 0 0] := Has.below (by assumption) hb1; obtain ⟨_, f1, _⟩ := id J1; obtain ⟨_, d1, e1⟩ := id G1; clear hb1; (try clear HBd H1d H2d HB H1 H2 i1 i2 i3 j1 j2 j3); (try clear HB2 J2 G2 f2 d2 e2))
  | (refine step_copy rfl _ _ 23 rfl 75 i47 _ 4 32 Tryz.underlying23 hj hj0 hj1 hj2 rfl (by decide) ca C.length cc (cellsF Cf.cs C) rfl rfl (cellsF_len cf_len _) (hC _ (by assumption)).1 (cellsF_one cf_one _) (hC _ (by assumption)).2 (by unfold maxLen; omega) (by omega) ?_; intro a2 c2 w2 own2 hb2; (try (have dis : ∀ q, (Value.slice a1 G.length c1).ownBlock = some q → (Value.slice a2 C.length c2).ownBlock ≠ some q := (fun q h1 h2 => by have e1 := (own_lt own1 q h1).2; have e2 := (own_lt own2 q h2).1; (try simp at e2); omega))); have z2 := hb2.size; (try (replace own1 := own_bel own1 hb2)); have HB2 : Below w.heap.size w w2 := bel_after (by assumption) (Below.size (B := w.heap.size) (by assumption)) hb2; have J2 : Has w2 w.heap.size #[.slice ga G.length gc, .slice ca C.length cc] := Has.below (by assumption) hb2; have G2 : Has w2 (w.heap.size + 1) #[.slice none 0 0, .slice none 0 0] := Has.below (by assumption) hb2; obtain ⟨_, f2, _⟩ := id J2; obtain ⟨_, d2, e2⟩ := id G2; clear hb2; (try clear HBd H1d H2d HB H1 H2 i1 i2 i3 j1 j2 j3); (try clear HB1 J1 G1 f1 d1 e1)))
 go_wp2
 have oF : Only (fun q => q = w.heap.size + 1) w2 ((w2.setCell ⟨w.heap.size + 1, 0, none⟩ (.slice a1 G.length c1)).setCell ⟨w.heap.size + 1, 1, none⟩ (.slice a2 C.length c2)) := (only_of_set w2 (w.heap.size + 1) 0 (.slice a1 G.length c1)).trans (only_of_set _ (w.heap.size + 1) 1 (.slice a2 C.length c2))
 have zd : W0.drew.heap.size = W0.heap.size := rfl
 have bF : Below w.heap.size w ((w2.setCell ⟨w.heap.size + 1, 0, none⟩ (.slice a1 G.length c1)).setCell ⟨w.heap.size + 1, 1, none⟩ (.slice a2 C.length c2)) := (HB2.setCell (p := ⟨w.heap.size + 1, 0, none⟩) (by simp) _).setCell (p := ⟨w.heap.size + 1, 1, none⟩) (by simp) _
 have o1 := own_only2 own1 oF (fun q hq e => by have := (own_lt own1 q hq).1; omega)
 have o2 := own_only2 own2 oF (fun q hq e => by have := (own_lt own2 q hq).1; omega)
 exact bodyPost_ret (v := .agg #[.slice a1 G.length c1, .slice a2 C.length c2]) (by simp [results, Tryz.results38, go_sem, d2]) rfl ⟨⟨a1, c1, a2, c2, rfl, own_base o1 (by omega), own_base o2 (by omega), dis⟩, bF⟩
theorem nd_len1 (x : Nd) : (Nd.cs x).length = 5 := rfl
theorem nd_one1 (x : Nd) : ∀ u ∈ Nd.cs x, u.oneCell' = true := all_one rfl
theorem info88 : (Tryz.prog.info? 55).map (fun i => (i.zero, i.size, i.bytes)) = some (some (.agg #[.int .i64 0, .int .i32 0, .string ⟨#[]⟩, .int .i64 0, .int .i64 0]), 5, 48) := by kernel_rfl
theorem els_nd (L : List Nd) (S : Nat → Prop) (w : World) : Els 5 NdR S w (cellsF Nd.cs L) L :=
 ⟨cellsF_len nd_len1 L, fun i hi => ⟨L[i].cs, rfl, rfl, fun j hj => cellsF_get nd_len1 L i j hi hj⟩⟩
theorem Exs.flat {S : Nat → Prop} {w : World} {v : Value} {L : List Nd} (h : Exs S w v L) : Fl 5 Nd.cs w v L := by
 obtain ⟨Y, h1, h2, _⟩ := Rows.flat Nd.cs id (fun _ => True) (fun c x hx => ⟨x, hx, rfl, trivial⟩) h
 rw [List.map_id] at h1
 subst h1; exact h2
theorem copyNodes_any (L : List Nd) (v : Value) (S1 : Nat → Prop) (w : World) (h : Exs S1 w v L) :
  Calls Tryz.prog 40 #[v] w fun e w' => (∃ a c, e = .returned (.slice a L.length c) ∧ Exs (fun b => w.heap.size ≤ b) w' (.slice a L.length c) L) ∧ Below w.heap.size w w' := by
 obtain ⟨ti, hti, hti0, hti1, hti2⟩ := info_parts info88
 have hl : L.length ≤ 2932031007317 := Rows.le h
 have hf := Exs.flat h
 obtain ⟨va, vc, rfl, -⟩ := hf.any
 obtain ⟨s1, s2⟩ := fl_src nd_len1 (by decide) hf
 clear h hf
 go_enter Tryz.func40, Tryz.ntmps40
 go_wp2_with (at_builtin; refine wpList_copyv rfl _ _ 56 rfl 55 ti _ 5 48 Tryz.underlying56 hti hti0 hti1 hti2 rfl (by decide) va L.length vc (cellsF Nd.cs L) rfl rfl (cellsF_len nd_len1 L) s1 (cellsF_one nd_one1 L) s2 (by unfold maxLen; omega) (by omega) ?_; intro a1 c1 w1 o1 hb1)
 go_ret
 exact ⟨⟨a1, c1, rfl, Els.owned (els_nd L _ w1) o1 (fun g hg => (own_lt o1 g hg).1) hl⟩, hb1⟩
theorem copyListO_any (L : List St) (u : Value) (S1 : Nat → Prop) (w : World) (h1 : Sts S1 w u L) :
  Calls Tryz.prog 39 #[u] w fun e w' => (∃ v', e = .returned v' ∧ Own 140 6 StR w.heap.size w' v' L) ∧ Below w.heap.size w w' := by
 obtain ⟨a1, c1, rfl, hlen, k1⟩ := Rows.any h1
 obtain ⟨i0, hi, hi0, hi1, hi2⟩ := info_parts info85
 clear h1
 go_enter Tryz.func39, Tryz.ntmps39
 go_wp2
 go_loopw [3, 4] (fun t3 t4 wr => ∃ (k : Nat) (xs : List Value) (v3 : Value), k ≤ L.length ∧ v3 = t3 ∧ t4 = .int .i64 (k : Int) ∧ Hid (wr.ownsRow w.heap.size 140 6 t3 k xs) ∧ Hid (Els 6 StR (Sx w.heap.size t3) wr xs (L.take k)) ∧ Below w.heap.size w wr) (fun _ t _ => L.length - (intOf t).toNat)
 case atStart => exact ⟨0, [], _, by omega, rfl, rfl, World.ownsRow_nil _ _ _ _, Els.nil _ _ _ _, Below.refl _ _⟩
 case round =>
  obtain ⟨k, xs, v3, hk, rfl, rfl, own, els, hb⟩ := hrel
  by_cases hlt : k < L.length
  ·obtain ⟨g1, o1, rfl, _, hg1, P1⟩ := k1.resolve_left (by intro e; rw [e] at hlt; simp at hlt)
   obtain ⟨cs1, _, ⟨v, rfl, vN⟩, p⟩ := P1 k hlt; have hF := fun (W : World) (hW : Below w.heap.size w W) => copyNodes_any L[k].expr _ S1 W (vN.below hW)
   obtain ⟨va, vc, rfl, -, -⟩ := Rows.any vN; have p0 := (hb.cell (p := ⟨g1, _, none⟩) hg1).trans (p 0 _ rfl); have p1 := (hb.cell (p := ⟨g1, _, none⟩) hg1).trans (p 1 _ rfl); have p2 := (hb.cell (p := ⟨g1, _, none⟩) hg1).trans (p 2 _ rfl); have p3 := (hb.cell (p := ⟨g1, _, none⟩) hg1).trans (p 3 _ rfl); have p4 := (hb.cell (p := ⟨g1, _, none⟩) hg1).trans (p 4 _ rfl); have p5 := (hb.cell (p := ⟨g1, _, none⟩) hg1).trans (p 5 _ rfl); have hfx : ∀ h, L[k]'h = L[k] := fun h => by simp
   have t1 : (k : Int) < (L.length : Int) := by omega
   have t0 : (0 : Int) ≤ (k : Int) := by omega
   have t2 : k + 1 ≤ L.length := hlt; have hlt' : k < L.length := by simpa using hlt
   clear p P1 k1 vN; simp only [Nat.add_zero] at p0; clear hfx; generalize hfx' : L[k] = x at *
   go_wp2_with (first
    | (go_at_call 40; (with_reducible refine Calls.mono (hF _ (by exact hb.alloc hb.size _)) ?_); rintro e w1 ⟨⟨ra, rc, rfl, r0⟩, hb1⟩; have r1 := r0.mv (S' := fun b => wr.heap.size + 1 ≤ b) (Mv.weak fun b _ hbb => (by simpa using hbb)); clear r0; (try simp only [List.length_map] at r1); have K1 := (Has.new wr _ _ rfl).below hb1; obtain ⟨kz, i1, i2⟩ := id K1; have BW1 : Below wr.heap.size wr w1 := bel_after ((Below.refl _ _).alloc (Nat.le_refl _) _) (by simp) hb1; have HB1 : Below w.heap.size w w1 := bel_after (hb.alloc hb.size _) (by simp; have := hb.size; omega) hb1)
    | (at_builtin; (refine wpList_append_mine _ rfl _ _ 48 rfl w.heap.size 140 i0 _ 6 72 Tryz.underlying48 hi hi0 hi1 hi2 rfl (by decide) v3 k xs rfl (own_bel own.out (((BW1.setCell (Nat.le_refl _) _).alloc (by simp [World.setCell]; have := BW1.size; omega) _))) ⟨w1.heap.size, 0, none⟩ 1 1 [.int .i64 x.kind, .string x.name, .int .i64 x.ix, .slice ra x.expr.length rc, .int .i64 x.line, .int .i64 x.col] rfl rfl (cells_at (W := w1.setCell _ _) (by simp [World.setCell]) _ _) (all_one rfl) (by decide) (by unfold maxLen; omega) (by omega) (by simp [World.setCell]; have := HB1.size; omega) ?_); intro g' c' w4 own' hg' hat' _ hcap'))
   go_roundw
   case rel =>
    have BW : Below wr.heap.size wr ((w1.setCell ⟨wr.heap.size, 3, none⟩ (.slice ra x.expr.length rc)).alloc (.cells #[.int .i64 x.kind, .string x.name, .int .i64 x.ix, .slice ra x.expr.length rc, .int .i64 x.line, .int .i64 x.col] 140)) := ((BW1.setCell (Nat.le_refl _) _).alloc (by simp [World.setCell]; have := BW1.size; omega) _); have MVa : Mv (Sx w.heap.size v3) ((w1.setCell ⟨wr.heap.size, 3, none⟩ (.slice ra x.expr.length rc)).alloc (.cells #[.int .i64 x.kind, .string x.name, .int .i64 x.ix, .slice ra x.expr.length rc, .int .i64 x.line, .int .i64 x.col] 140)) (Sx w.heap.size (.slice (some ⟨g', 0, none⟩) (k + 1) c')) w4 := Mv.app hg' hat'; have MVr : Mv (Sx w.heap.size v3) wr (Sx w.heap.size (.slice (some ⟨g', 0, none⟩) (k + 1) c')) w4 := (Mv.below BW).trans MVa; have HBV : Below w.heap.size w ((w1.setCell ⟨wr.heap.size, 3, none⟩ (.slice ra x.expr.length rc)).alloc (.cells #[.int .i64 x.kind, .string x.name, .int .i64 x.ix, .slice ra x.expr.length rc, .int .i64 x.line, .int .i64 x.col] 140)) := (HB1.setCell (p := ⟨wr.heap.size, 3, none⟩) hb.size _).alloc (by simp [World.setCell]; have := HB1.size; omega) _; have rV : Exs (Sx w.heap.size v3) ((w1.setCell ⟨wr.heap.size, 3, none⟩ (.slice ra x.expr.length rc)).alloc (.cells #[.int .i64 x.kind, .string x.name, .int .i64 x.ix, .slice ra x.expr.length rc, .int .i64 x.line, .int .i64 x.col] 140)) (.slice ra x.expr.length rc) _ := r1.mv ((Mv.set (g := wr.heap.size) (o := 3) (by intro h; have h' : wr.heap.size + 1 ≤ wr.heap.size := h; omega)).trans ((Mv.below ((Below.refl _ _).alloc (Nat.le_refl _) _)).trans (Mv.weak fun b _ (hbb : wr.heap.size + 1 ≤ b) => ⟨by have := hb.size; omega, by intro e; have := (own_lt own.out b e).2; omega⟩))); have hnew : StR (Sx w.heap.size (.slice (some ⟨g', 0, none⟩) (k + 1) c')) w4 [.int .i64 x.kind, .string x.name, .int .i64 x.ix, .slice ra x.expr.length rc, .int .i64 x.line, .int .i64 x.col] (L[k]'hlt') := by rw [hfx']; exact ⟨_, rfl, rV.mv MVa⟩
    have hels : Els 6 StR (Sx w.heap.size (.slice (some ⟨g', 0, none⟩) (k + 1) c')) w4 (xs ++ [.int .i64 x.kind, .string x.name, .int .i64 x.ix, .slice ra x.expr.length rc, .int .i64 x.line, .int .i64 x.col]) (L.take (k + 1)) := by rw [take_push hlt']; exact Els.push (mx := 0) (Els.mv (mx := 0) els.out (fun _ _ h => h.mv MVr)) rfl hnew
    exact ⟨k + 1, _, _, by omega, rfl, by go_num, own', hels, grown_bel HBV hg' (Nat.le_refl _) (fun j hj => (own_lt own.out j hj).1)⟩
   case measure => simp [intOf]; omega
  ·have t1 : ¬ (k : Int) < (L.length : Int) := by omega
   obtain rfl : k = L.length := by omega
   clear k1; go_wp2; go_ret; refine ⟨⟨_, rfl, xs, ?_, ?_⟩, hb⟩
   ·exact own.out
   ·have := els.out
    rw [List.take_of_length_le (by simp)] at this; exact this
theorem copyList_any (L : List St) (v : Value) (S1 : Nat → Prop) (w : World) (h : Sts S1 w v L) :
  Calls Tryz.prog 39 #[v] w fun e w' => (∃ a c, e = .returned (.slice a L.length c) ∧ Sts (fun b => w.heap.size ≤ b) w' (.slice a L.length c) L) ∧ Below w.heap.size w w' :=
 (copyListO_any L v S1 w h).mono fun e w' ⟨⟨v', he, ho⟩, hb⟩ => by
  have hr : Sts (fun b => w.heap.size ≤ b) w' v' L := ho.rows (fun _ _ q => q.mv (Mv.weak fun b _ hs => hs.1)) (Rows.le h); obtain ⟨a, c, rfl, -⟩ := Rows.any hr; exact ⟨⟨a, c, he, hr⟩, hb⟩
end Go.Proofs.YtjfieclmagbfbaaGreatDoor
