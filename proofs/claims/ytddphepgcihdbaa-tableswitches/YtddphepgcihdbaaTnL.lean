import Derived.Test.YtddphepgcihdbaaTnJ
import Derived.Test.YtddphepgcihdbaaTnK
import Derived.Test.YtddphepgcihdbaaTnI
namespace Go.Proofs.Ytddphepgcihdbaa
open Go.RowKit
set_option linter.unusedVariables false
set_option linter.unusedSimpArgs false

/-- A kind of day without where its rows lie. -/
def cr (x : Dk) : ByteArray × List Rw := (x.name, x.rows)
theorem cr_all {D' D : List Dk} (h : D'.map cr = D.map cr) (p : ByteArray → List Rw → Bool) : D'.all (fun x => p x.name x.rows) = D.all (fun x => p x.name x.rows) := by
  have e : ∀ L : List Dk, L.all (fun x => p x.name x.rows) = (L.map cr).all (fun y => p y.1 y.2) := fun L => by rw [List.all_map]; rfl
  rw [e, e, h]
theorem cr_len {D' D : List Dk} (h : D'.map cr = D.map cr) : D'.length = D.length := by have := congrArg List.length h; simpa using this
theorem cp_err {t : Tt} {D' : List Dk} (h : D'.map cr = t.D.map cr) : ({ t with D := D' } : Tt).err = t.err := by
  have hl := cr_len h
  have n1 : ({ t with D := D' } : Tt).nmsB = t.nmsB := by
    have := cr_all h (fun n _ => nmB n); simp only [Tt.nmsB]; rw [this]
  have n2 : ({ t with D := D' } : Tt).limB = t.limB := by
    have := cr_all h (fun _ r => decide (r.length ≤ 48)); simp only [Tt.limB]; rw [this, hl]
  have n3 : ({ t with D := D' } : Tt).rowB = t.rowB := by
    have := cr_all h (fun _ r => decide (0 < r.length)); simp only [Tt.rowB]; rw [this, hl]
  have n4 : ({ t with D := D' } : Tt).oneB = t.oneB := by
    have e : D'.map (·.name) = t.D.map (·.name) := by
      have := congrArg (List.map Prod.fst) h
      rw [List.map_map, List.map_map] at this; exact this
    simp only [Tt.oneB, e]
  have n5 : ({ t with D := D' } : Tt).clkB = t.clkB := by
    have := cr_all h (fun _ r => r.all rwB); simp only [Tt.clkB]; rw [this]
  have n6 : ({ t with D := D' } : Tt).datB = t.datB := rfl
  have n7 : ({ t with D := D' } : Tt).kinB = t.kinB := by simp only [Tt.kinB]; rw [hl]; rfl
  have n8 : ({ t with D := D' } : Tt).ordB = t.ordB := by
    have := cr_all h (fun _ r => riB (r.map (·.m))); simp only [Tt.ordB]; rw [this]
  unfold Tt.err
  rw [n1, n2, n3, n4, n5, n6, n7, n8]
theorem cp_rw {t : Tt} {D' : List Dk} (h : D'.map cr = t.D.map cr) (d : Int) : rwF { t with D := D' } d = rwF t d := by
  unfold rwF
  have e : knF { t with D := D' } d = knF t d := rfl
  rw [e]
  have g := congrArg (fun l => l[(knF t d).toNat]?) h
  simp only [List.getElem?_map] at g
  show (match D'[(knF t d).toNat]? with | some x => x.rows | none => []) = _
  cases h1 : D'[(knF t d).toNat]? <;> cases h2 : t.D[(knF t d).toNat]? <;> rw [h1, h2] at g <;> simp [cr] at g ⊢
  exact g.2
theorem cp_sl {t : Tt} {D' : List Dk} (h : D'.map cr = t.D.map cr) (m : Int) : slF { t with D := D' } m = slF t m := by
  unfold slF
  rw [cp_rw h, cp_rw h]
theorem cp_slF {t : Tt} {D' : List Dk} (h : D'.map cr = t.D.map cr) : slF { t with D := D' } = slF t := funext (cp_sl h)
theorem fl_row {α : Type} {sz : Nat} {cs : α → List Value} (hl : ∀ x, (cs x).length = sz) {W : World} {B e : Nat} {v : Value} {L : List α} (h : W.ownsRow B e sz v L.length (cellsF cs L)) : Fl sz cs W v L := by
  rcases h.2 with ⟨hv, h0⟩ | ⟨g, cap, cur, hv, _, _, hc, _⟩
  · exact .inl ⟨hv, List.length_eq_zero_iff.1 h0⟩
  · subst hv
    have := Fl.own hl h (own_lt h g rfl).2 (Nat.le_refl _) hc
    rwa [List.take_length] at this
/-- A table whose lists lie in blocks of their own, from B on. -/
structure OwT (W : World) (B : Nat) (t : Tt) (vD vS vX vH : Value) : Prop where
  d : W.ownsRow B 72 2 vD t.D.length (cellsF Dk.cs t.D)
  r : ∀ x ∈ t.D, W.ownsRow B 74 2 x.rv x.rows.length (cellsF Rw.cs x.rows)
  s : W.ownsRow B 56 9 vS t.S.length (cellsF Sn.cs t.S)
  x : W.ownsRow B 58 2 vX t.X.length (cellsF Ex.cs t.X)
  h : W.ownsRow B 61 2 vH t.H.length (cellsF Sh.cs t.H)
theorem OwT.only {W W' : World} {B : Nat} {t : Tt} {vD vS vX vH : Value} {S : Nat → Prop} (h : OwT W B t vD vS vX vH) (hO : Only S W W') (hS : ∀ k, B ≤ k → ¬ S k) : OwT W' B t vD vS vX vH :=
  ⟨own_only h.d hO hS, fun x hx => own_only (h.r x hx) hO hS, own_only h.s hO hS, own_only h.x hO hS, own_only h.h hO hS⟩
theorem OwT.tr {W w : World} {B : Nat} {t : Tt} {D' : List Dk} {vD vS vX vH uD uS uX uH : Value} (h : OwT W B { t with D := D' } vD vS vX vH) (hc : D'.map cr = t.D.map cr) (h0 : TR w t uD uS uX uH) : TR W { t with D := D' } vD vS vX vH := by
  have hm : ∀ x ∈ D', ∃ y ∈ t.D, cr y = cr x := fun x hx => by
    have : cr x ∈ t.D.map cr := by rw [← hc]; exact List.mem_map_of_mem hx
    obtain ⟨y, hy, e⟩ := List.mem_map.1 this
    exact ⟨y, hy, e⟩
  refine ⟨fl_row dk_len h.d, fun x hx => fl_row rw_len (h.r x hx), fl_row sn_len h.s, fl_row ex_len h.x, fl_row sh_len h.h, ?_, ?_, h0.sl, h0.xl, h0.hl, h0.nml, ?_, h0.xw⟩
  · show D'.length ≤ _
    rw [cr_len hc]; exact h0.dl
  · intro x hx
    obtain ⟨y, hy, e⟩ := hm x hx
    have e2 : y.rows = x.rows := congrArg Prod.snd e
    rw [← e2]; exact h0.rl y hy
  · intro x hx
    obtain ⟨y, hy, e⟩ := hm x hx
    have e2 : y.name = x.name := congrArg Prod.fst e
    rw [← e2]; exact h0.ndl y hy
/-- What copied answers. -/
def CpP (t : Tt) (w : World) (e : Ending) (w' : World) : Prop := ∃ (D' : List Dk) (aD aS aX aH : Option Addr) (cD cS cX cH : Nat), e = .returned (.agg #[.string t.nm, .slice aD D'.length cD, .int .i64 t.w0, .int .i64 t.w1, .int .i64 t.w2, .int .i64 t.w3, .int .i64 t.w4, .int .i64 t.w5, .int .i64 t.w6, .slice aS t.S.length cS, .slice aX t.X.length cX, .slice aH t.H.length cH]) ∧ D'.map cr = t.D.map cr ∧
  OwT w' w.heap.size { t with D := D' } (.slice aD D'.length cD) (.slice aS t.S.length cS) (.slice aX t.X.length cX) (.slice aH t.H.length cH) ∧ Below w.heap.size w w'
/-- The days while they are copied: those of Dn lie in new rows. -/
structure CpS (w : World) (gD cd : Nat) (Dn rest : List Dk) (tc zc : Array Value) (W : World) : Prop where
  od : W.ownsRow (w.heap.size + 2) 72 2 (.slice (some ⟨gD, 0, none⟩) (Dn ++ rest).length cd) (Dn ++ rest).length (cellsF Dk.cs (Dn ++ rest))
  inn : ∀ x ∈ Dn, W.ownsRow (w.heap.size + 2) 74 2 x.rv x.rows.length (cellsF Rw.cs x.rows) ∧ x.rv.ownBlock ≠ some gD
  box : Has W w.heap.size tc
  res : Has W (w.heap.size + 1) zc
  hb : Below w.heap.size w W
theorem CpS.below {w : World} {gD cd : Nat} {Dn rest : List Dk} {tc zc : Array Value} {W W' : World} (h : CpS w gD cd Dn rest tc zc W) (hb : Below W.heap.size W W') : CpS w gD cd Dn rest tc zc W' :=
  ⟨own_bel h.od hb, fun x hx => ⟨own_bel (h.inn x hx).1 hb, (h.inn x hx).2⟩, h.box.below hb, h.res.below hb, belT h.hb hb⟩
theorem cells_set (Dn : List Dk) (x : Dk) (r : List Dk) (v : Value) : setAll (cellsF Dk.cs (Dn ++ x :: r)) (Dn.length * 2 + 1) [v] = cellsF Dk.cs ((Dn ++ [⟨x.name, v, x.rows⟩]) ++ r) := by
  have e1 : cellsF Dk.cs (Dn ++ x :: r) = cellsF Dk.cs Dn ++ (Value.string x.name :: x.rv :: cellsF Dk.cs r) := by rw [cellsF_append]; rfl
  have e2 : cellsF Dk.cs ((Dn ++ [⟨x.name, v, x.rows⟩]) ++ r) = cellsF Dk.cs Dn ++ (Value.string x.name :: v :: cellsF Dk.cs r) := by rw [List.append_assoc, cellsF_append]; rfl
  rw [e1, e2]
  have hl : (cellsF Dk.cs Dn).length = Dn.length * 2 := cellsF_len dk_len Dn
  simp only [setAll]
  rw [List.set_append_right _ _ (by omega), hl]
  rw [show Dn.length * 2 + 1 - Dn.length * 2 = 1 from by omega]
  rfl
/-- One kind more. -/
theorem CpS.put {w : World} {gD cd : Nat} {Dn : List Dk} {x : Dk} {r : List Dk} {tc zc : Array Value} {W : World} (h : CpS w gD cd Dn (x :: r) tc zc W) (v : Value) (hv : W.ownsRow (w.heap.size + 2) 74 2 v x.rows.length (cellsF Rw.cs x.rows)) (hn : v.ownBlock ≠ some gD) :
    CpS w gD cd (Dn ++ [⟨x.name, v, x.rows⟩]) r tc zc (W.setCell ⟨gD, Dn.length * 2 + 1, none⟩ v) := by
  have hg := (own_lt h.od gD rfl).1
  have hO : Only (fun k => k = gD) W (W.setCell ⟨gD, Dn.length * 2 + 1, none⟩ v) := only_of_set W gD _ v
  have hlen : (Dn ++ [(⟨x.name, v, x.rows⟩ : Dk)] ++ r).length = (Dn ++ x :: r).length := by simp
  refine ⟨?_, ?_, h.box.far (by omega) v, h.res.far (by omega) v, h.hb.setCell (by show _ ≤ gD; omega) _⟩
  · have := own_stored [v] W _ (Dn.length * 2 + 1) h.od
    rw [cells_set] at this
    rw [hlen]
    exact this
  · intro y hy
    rcases List.mem_append.1 hy with hy | hy
    · exact ⟨own_only2 (h.inn y hy).1 hO (fun q hq e => (h.inn y hy).2 (by rw [hq, e])), (h.inn y hy).2⟩
    · obtain rfl := List.mem_singleton.1 hy
      exact ⟨own_only2 hv hO (fun q hq e => hn (by rw [hq, e])), hn⟩
end Go.Proofs.Ytddphepgcihdbaa
