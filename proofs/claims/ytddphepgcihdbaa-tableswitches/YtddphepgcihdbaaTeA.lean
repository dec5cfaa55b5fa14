import Derived.Test.YtddphepgcihdbaaRgE
import Derived.Test.YtddphepgcihdbaaTbM
import Derived.KernelRfl
namespace Go.Proofs.Ytddphepgcihdbaa
open Go.RowKit
set_option linter.unusedVariables false
set_option linter.unusedSimpArgs false

section
variable {P : Program} {md : Region.Mode} {ops : Array Oper} {Q : Exit → Act → World → Prop} {S : World → Prop} {E : Nat}
theorem wpAnyE_one {i : Nat} {o : Oper} {fuel : Nat} {listed : Array Bool} {a : Act} {w : World} (hr : Region.ready md ops listed = [i]) (ho : ops[i]? = some o)
    (hw : Region.wanted o (yielded ops a.tmps) = true) (h : ∀ K : Act → World → Prop, Hid (∀ a' w', S w' → (S w' → wpAnyE P md ops Q S E fuel (listed.setIfInBounds i true) a' w') → K a' w') → Oper.wp P o a w K Q) : wpAnyE P md ops Q S E (fuel + 1) listed a w := by
  refine ⟨fun h0 => (by rw [hr] at h0; cases h0), fun j hj => ?_⟩
  rw [hr] at hj
  obtain rfl : j = i := by simpa using hj
  have hst := h (fun a' w' => (j ≠ E → S w') ∧ wpAnyE P md ops Q S E fuel (listed.setIfInBounds j true) a' w') (fun a' w' hS hq => ⟨fun _ => hS, hq hS⟩)
  unfold wpOp
  rw [ho]
  dsimp only
  rw [if_pos hw]
  exact .inl hst
end
structure Rm where
  x : Dk
  g : Nat
  c : Nat
def Rm.dc (r : Rm) : List Value := [.string r.x.name, .slice (some ⟨r.g, 0, none⟩) r.x.rows.length r.c]
def Rm.rc (r : Rm) : List Value := [.slice (some ⟨r.g, 0, none⟩) (r.x.rows.length + 2) r.c]
/-- Two marks behind a day's rows. -/
def mk2 : List Value := [.int .i64 0, .int .i64 44, .int .i64 0, .int .i64 44]
def RIn (W : World) (B : Nat) (r : Rm) : Prop := W.ownsRow B 74 2 (.slice (some ⟨r.g, 0, none⟩) (r.x.rows.length + 2) r.c) (r.x.rows.length + 2) (cellsF Rw.cs r.x.rows ++ mk2)
/-- What a room holds while it is made: the days nd, the rows nr of those in Ls. -/
structure RF (w W : World) (CB RC : Array Value) (Ls : List Rm) (vd vr : Value) (nd nr : Nat) : Prop where
  od : W.ownsRow (w.heap.size + 2) 72 2 vd nd (cellsF Rm.dc (Ls.take nd))
  ow : W.ownsRow (w.heap.size + 2) 70 1 vr nr (cellsF Rm.rc (Ls.take nr))
  inn : ∀ r ∈ Ls, RIn W (w.heap.size + 2) r
  sd : ∀ r ∈ Ls, vd.ownBlock ≠ some r.g
  sr : ∀ r ∈ Ls, vr.ownBlock ≠ some r.g
  ss : ∀ g, vd.ownBlock = some g → vr.ownBlock ≠ some g
  hb : Below w.heap.size w W
  box : Has W w.heap.size CB
  room : Has W (w.heap.size + 1) RC
theorem RF.below {w W W' : World} {CB RC : Array Value} {Ls : List Rm} {vd vr : Value} {nd nr : Nat} (h : RF w W CB RC Ls vd vr nd nr) (hb : Below W.heap.size W W') : RF w W' CB RC Ls vd vr nd nr :=
  ⟨own_bel h.od hb, own_bel h.ow hb, fun r hr => own_bel (h.inn r hr) hb, h.sd, h.sr, h.ss, belT h.hb hb, h.box.below hb, h.room.below hb⟩
theorem rin_lt {W : World} {B : Nat} {r : Rm} (h : RIn W B r) : B ≤ r.g ∧ r.g < W.heap.size := own_lt h r.g rfl
theorem RF.setRoom {w W : World} {CB RC : Array Value} {Ls : List Rm} {vd vr : Value} {nd nr : Nat} (h : RF w W CB RC Ls vd vr nd nr) (i : Nat) (hi : i < RC.size) (v : Value) :
    RF w (W.setCell ⟨w.heap.size + 1, i, none⟩ v) CB (RC.setIfInBounds i v) Ls vd vr nd nr := by
  have ho : Only (fun q => q = w.heap.size + 1) W (W.setCell ⟨w.heap.size + 1, i, none⟩ v) := only_of_set W _ i v
  have hn : ∀ k, w.heap.size + 2 ≤ k → ¬ (k = w.heap.size + 1) := fun k hk => by omega
  exact ⟨own_only h.od ho hn, own_only h.ow ho hn, fun r hr => own_only (h.inn r hr) ho hn, h.sd, h.sr, h.ss, h.hb.setCell (by simp) _, h.box.far (by omega) v, h.room.set i hi v⟩
/-- A day more, whose rows lie in a new block. -/
theorem RF.push {w W W' : World} {CB RC : Array Value} {Ls : List Rm} {vd vr : Value} {k : Nat} (h : RF w W CB RC Ls vd vr k k) (hl : Ls.length = k) (hb : Below W.heap.size W W') (r : Rm) (hr : RIn W' W.heap.size r) (hB : w.heap.size + 2 ≤ W.heap.size) :
    RF w W' CB RC (Ls ++ [r]) vd vr k k := by
  have e : (Ls ++ [r]).take k = Ls.take k := by rw [List.take_append_of_le_length (by omega)]
  have h1 := h.below hb
  have hg := rin_lt hr
  refine ⟨by rw [e]; exact h1.od, by rw [e]; exact h1.ow, ?_, ?_, ?_, h.ss, h1.hb, h1.box, h1.room⟩
  · intro y hy
    rcases List.mem_append.1 hy with hy | hy
    · exact h1.inn y hy
    · simp at hy; subst hy; exact own_mono hr hB
  · intro y hy
    rcases List.mem_append.1 hy with hy | hy
    · exact h.sd y hy
    · simp at hy; subst hy
      intro e'; have := (own_lt h.od _ e').2; omega
  · intro y hy
    rcases List.mem_append.1 hy with hy | hy
    · exact h.sr y hy
    · simp at hy; subst hy
      intro e'; have := (own_lt h.ow _ e').2; omega
theorem has_grown {w w' : World} {row : Option Nat} {b : Nat} {vs : Array Value} (h : Has w b vs) (hg : w.grownBy w' row) (hne : row ≠ some b) : Has w' b vs := h.blk hg.size (hg.block b h.1 (fun e => hne e.symm))
theorem own_grown {w w' : World} {row : Option Nat} {base e size n : Nat} {v : Value} {xs : List Value} (h : w.ownsRow base e size v n xs) (hg : w.grownBy w' row) (hne : ∀ g, v.ownBlock = some g → row ≠ some g) : w'.ownsRow base e size v n xs :=
  own_keep h (fun g hv => hg.block g (own_lt h g hv).2 (fun e => hne g hv e.symm))
theorem rin_grown {w w' : World} {row : Option Nat} {B : Nat} {r : Rm} (h : RIn w B r) (hg : w.grownBy w' row) (hne : row ≠ some r.g) : RIn w' B r :=
  own_grown h hg (fun g hv e => hne (by rw [e]; exact hv.symm))
theorem snoc_at {α : Type} (L : List α) (k : Nat) (r : α) (h : L.length = k) : (L ++ [r])[k]? = some r := by subst h; simp
theorem cellsF_snoc {α : Type} (cs : α → List Value) (L : List α) (k : Nat) (r : α) (h : L[k]? = some r) : cellsF cs (L.take k) ++ cs r = cellsF cs (L.take (k + 1)) := by
  obtain ⟨h1, h2⟩ := List.getElem?_eq_some_iff.1 h
  rw [List.take_succ_eq_append_getElem h1, cellsF_append, h2]; simp [cellsF]
/-- The rows' list grows by one. -/
theorem RF.appRows {w W W' : World} {CB RC : Array Value} {Ls : List Rm} {vd vr : Value} {nd k g' cap' : Nat} (h : RF w W CB RC Ls vd vr nd k) (r : Rm) (hr0 : Ls[k]? = some r) (hg : W.grownBy W' vr.ownBlock) (hat : vr.ownBlock = some g' ∨ W.heap.size ≤ g')
    (own' : W'.ownsRow (w.heap.size + 2) 70 1 (.slice (some ⟨g', 0, none⟩) (k + 1) cap') (k + 1) (cellsF Rm.rc (Ls.take k) ++ Rm.rc r)) :
    RF w W' CB RC Ls vd (.slice (some ⟨g', 0, none⟩) (k + 1) cap') nd (k + 1) := by
  have hn : ∀ g, g < W.heap.size → vr.ownBlock ≠ some g → g' ≠ g := by
    intro g hg2 hne e
    rcases hat with h1 | h1
    · exact hne (by rw [h1, e])
    · omega
  have hB : ∀ q, vr.ownBlock = some q → w.heap.size + 2 ≤ q := fun q hq => (own_lt h.ow q hq).1
  refine ⟨own_grown h.od hg (fun g hv => h.ss g hv), by rw [← cellsF_snoc _ _ k r hr0]; exact own', fun r hr => rin_grown (h.inn r hr) hg (h.sr r hr), h.sd, ?_, ?_, grown_bel h.hb hg (Nat.le_refl _) (fun q hq => by have := hB q hq; omega), has_grown h.box hg (fun e => by have := hB _ e; omega), has_grown h.room hg (fun e => by have := hB _ e; omega)⟩
  · intro r hr e
    have e' : g' = r.g := by injection e
    exact hn r.g (rin_lt (h.inn r hr)).2 (h.sr r hr) e'
  · intro g hv e
    have e' : g' = g := by injection e
    exact hn g (own_lt h.od g hv).2 (h.ss g hv) e'
/-- The days' list grows. -/
theorem RF.appDays {w W W' : World} {CB RC : Array Value} {Ls : List Rm} {vd vr : Value} {k nr g' cap' m : Nat} {xs : List Value} (h : RF w W CB RC Ls vd vr k nr) (hg : W.grownBy W' vd.ownBlock) (hat : vd.ownBlock = some g' ∨ W.heap.size ≤ g')
    (own' : W'.ownsRow (w.heap.size + 2) 72 2 (.slice (some ⟨g', 0, none⟩) m cap') m xs) :
    W'.ownsRow (w.heap.size + 2) 70 1 vr nr (cellsF Rm.rc (Ls.take nr)) ∧ (∀ r ∈ Ls, RIn W' (w.heap.size + 2) r) ∧ (∀ r ∈ Ls, (Value.slice (some ⟨g', 0, none⟩) m cap').ownBlock ≠ some r.g) ∧ (∀ g, (Value.slice (some ⟨g', 0, none⟩) m cap').ownBlock = some g → vr.ownBlock ≠ some g) ∧ Below w.heap.size w W' ∧ Has W' w.heap.size CB ∧ Has W' (w.heap.size + 1) RC := by
  have hn : ∀ g, g < W.heap.size → vd.ownBlock ≠ some g → g' ≠ g := by
    intro g hg2 hne e
    rcases hat with h1 | h1
    · exact hne (by rw [h1, e])
    · omega
  have hB : ∀ q, vd.ownBlock = some q → w.heap.size + 2 ≤ q := fun q hq => (own_lt h.od q hq).1
  refine ⟨own_grown h.ow hg (fun g hv e => h.ss g e hv), fun r hr => rin_grown (h.inn r hr) hg (h.sd r hr), ?_, ?_, grown_bel h.hb hg (Nat.le_refl _) (fun q hq => by have := hB q hq; omega), has_grown h.box hg (fun e => by have := hB _ e; omega), has_grown h.room hg (fun e => by have := hB _ e; omega)⟩
  · intro r hr e
    have e' : g' = r.g := by injection e
    exact hn r.g (rin_lt (h.inn r hr)).2 (h.sd r hr) e'
  · intro g e hv
    have e' : g' = g := by injection e
    exact hn g (own_lt h.ow g hv).2 (fun e2 => h.ss g e2 hv) e'
theorem RF.appDay1 {w W W' : World} {CB RC : Array Value} {Ls : List Rm} {vd vr : Value} {k nr g' cap' : Nat} (h : RF w W CB RC Ls vd vr k nr) (r : Rm) (hr0 : Ls[k]? = some r) (hg : W.grownBy W' vd.ownBlock) (hat : vd.ownBlock = some g' ∨ W.heap.size ≤ g')
    (own' : W'.ownsRow (w.heap.size + 2) 72 2 (.slice (some ⟨g', 0, none⟩) (k + 1) cap') (k + 1) (cellsF Rm.dc (Ls.take k) ++ Rm.dc r)) :
    RF w W' CB RC Ls (.slice (some ⟨g', 0, none⟩) (k + 1) cap') vr (k + 1) nr := by
  obtain ⟨a1, a2, a3, a4, a5, a6, a7⟩ := h.appDays hg hat own'
  exact ⟨by rw [← cellsF_snoc _ _ k r hr0]; exact own', a1, a2, a3, h.sr, a4, a5, a6, a7⟩
structure Own where
  e : Nat
  s : Nat
  v : Value
  n : Nat
  xs : List Value
/-- What a room holds behind the days: rows of its own. -/
structure RG (w W : World) (CB RC : Array Value) (L : List Own) : Prop where
  rows : ∀ y ∈ L, W.ownsRow (w.heap.size + 2) y.e y.s y.v y.n y.xs
  hb : Below w.heap.size w W
  sz : w.heap.size + 2 ≤ W.heap.size
  box : Has W w.heap.size CB
  room : Has W (w.heap.size + 1) RC
theorem RG.below {w W W' : World} {CB RC : Array Value} {L : List Own} (h : RG w W CB RC L) (hb : Below W.heap.size W W') : RG w W' CB RC L :=
  ⟨fun y hy => own_bel (h.rows y hy) hb, belT h.hb hb, Nat.le_trans h.sz hb.size, h.box.below hb, h.room.below hb⟩
theorem RG.setRoom {w W : World} {CB RC : Array Value} {L : List Own} (h : RG w W CB RC L) (i : Nat) (hi : i < RC.size) (v : Value) : RG w (W.setCell ⟨w.heap.size + 1, i, none⟩ v) CB (RC.setIfInBounds i v) L := by
  have ho : Only (fun q => q = w.heap.size + 1) W (W.setCell ⟨w.heap.size + 1, i, none⟩ v) := only_of_set W _ i v
  exact ⟨fun y hy => own_only (h.rows y hy) ho (fun k hk => by omega), h.hb.setCell (by simp) _, Nat.le_trans h.sz ho.size, h.box.far (by omega) v, h.room.set i hi v⟩
theorem RG.add {w W : World} {CB RC : Array Value} {L : List Own} (h : RG w W CB RC L) (y : Own) (hy : W.ownsRow (w.heap.size + 2) y.e y.s y.v y.n y.xs) : RG w W CB RC (L ++ [y]) :=
  ⟨fun z hz => by rcases List.mem_append.1 hz with hz | hz; (exact h.rows z hz); (simp at hz; subst hz; exact hy), h.hb, h.sz, h.box, h.room⟩
theorem RG.grown2 {w W0 W W' : World} {CB RC : Array Value} {L : List Own} {row : Option Nat} (h0 : RG w W0 CB RC L) (h : RG w W CB RC L) (hg : W.grownBy W' row) (hr : ∀ q, row = some q → W0.heap.size ≤ q) : RG w W' CB RC L :=
  ⟨fun y hy => own_grown (h.rows y hy) hg (fun g hv e => by have h1 := (own_lt (h0.rows y hy) g hv).2; have h2 := hr g e; omega), grown_bel h.hb hg (Nat.le_refl _) (fun q hq => by have h2 := hr q hq; have h3 := h0.sz; omega), Nat.le_trans h.sz hg.size, has_grown h.box hg (fun e => by have h2 := hr _ e; have h3 := h0.sz; omega), has_grown h.room hg (fun e => by have h2 := hr _ e; have h3 := h0.sz; omega)⟩
def Rm.own (r : Rm) : Own := ⟨74, 2, .slice (some ⟨r.g, 0, none⟩) (r.x.rows.length + 2) r.c, r.x.rows.length + 2, cellsF Rw.cs r.x.rows ++ mk2⟩
theorem info_parts {P : Program} {e : TypeId} {z : Value} {s b : Nat} (h : (P.info? e).map (fun i => (i.zero, i.size, i.bytes)) = some (some z, s, b)) : ∃ ti, P.info? e = some ti ∧ ti.zero = some z ∧ ti.size = s ∧ ti.bytes = b := by
  obtain ⟨ti, h1, h2⟩ := Option.map_eq_some_iff.1 h
  exact ⟨ti, h1, congrArg (·.1) h2, congrArg (·.2.1) h2, congrArg (·.2.2) h2⟩
theorem info40 : (Try.prog.info? 74).map (fun i => (i.zero, i.size, i.bytes)) = some (some (.agg #[.int .i64 0, .int .i64 0]), 2, 16) := by kernel_rfl
theorem info36 : (Try.prog.info? 70).map (fun i => (i.zero, i.size, i.bytes)) = some (some (.slice none 0 0), 1, 24) := by kernel_rfl
theorem info38 : (Try.prog.info? 72).map (fun i => (i.zero, i.size, i.bytes)) = some (some (.agg #[.string ⟨#[]⟩, .slice none 0 0]), 2, 40) := by kernel_rfl
theorem info63 : (Try.prog.info? 56).map (fun i => (i.zero, i.size, i.bytes)) = some (some (.agg #[.int .i64 0, .int .i64 0, .int .i64 0, .int .i64 0, .int .i64 0, .int .i64 0, .int .i64 0, .int .i64 0, .int .i64 0]), 9, 72) := by kernel_rfl
theorem info65 : (Try.prog.info? 58).map (fun i => (i.zero, i.size, i.bytes)) = some (some (.agg #[.int .i64 0, .int .i64 0]), 2, 16) := by kernel_rfl
theorem info68 : (Try.prog.info? 61).map (fun i => (i.zero, i.size, i.bytes)) = some (some (.agg #[.int .i64 0, .int .i64 0]), 2, 16) := by kernel_rfl
theorem rw_len (x : Rw) : x.cs.length = 2 := rfl
theorem sn_len (x : Sn) : x.cs.length = 9 := rfl
theorem ex_len (x : Ex) : x.cs.length = 2 := rfl
theorem sh_len (x : Sh) : x.cs.length = 2 := rfl
theorem rw_one (x : Rw) : ∀ u ∈ x.cs, u.oneCell' = true := all_one rfl
theorem sn_one (x : Sn) : ∀ u ∈ x.cs, u.oneCell' = true := all_one rfl
theorem ex_one (x : Ex) : ∀ u ∈ x.cs, u.oneCell' = true := all_one rfl
theorem sh_one (x : Sh) : ∀ u ∈ x.cs, u.oneCell' = true := all_one rfl
/-- What a copy of a list takes. -/
theorem Fl.src {α : Type} {sz : Nat} {cs : α → List Value} (hl : ∀ x, (cs x).length = sz) (h0 : 0 < sz) {w : World} {a : Option Addr} {c : Nat} {L : List α} (h : Fl sz cs w (.slice a L.length c) L) :
    (∀ ad, a = some ad → ∀ j u, (cellsF cs L)[j]? = some u → w.cell? (ad.add j) = some u) ∧ (a = none → L.length = 0) := by
  refine ⟨fun ad e => ?_, fun e => ?_⟩
  · subst e; exact Fl.news hl h0 h
  · subst e
    rcases h with ⟨e, e2⟩ | ⟨ad, cap, e, _⟩
    · rw [e2]; rfl
    · cases e
end Go.Proofs.Ytddphepgcihdbaa
