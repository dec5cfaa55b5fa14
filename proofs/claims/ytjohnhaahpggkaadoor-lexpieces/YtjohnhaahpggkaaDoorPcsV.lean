import Derived.Test.YtjohnhaahpggkaaDoorPcsF
import Derived.Test.YtjohnhaahpggkaaDoorStrL
import Derived.Test.YtjohnhaahpggkaaDoorPcsU
import Derived.Laws.BytesArg
namespace Go.Proofs.YtjohnhaahpggkaaDoor
open Go.RowKit
set_option linter.unusedVariables false
set_option linter.unusedSimpArgs false

theorem byteCells_app (a b : List UInt8) : byteCells (bs (a ++ b)) = byteCells (bs a) ++ byteCells (bs b) := by unfold byteCells bs; simp
theorem byteCells_blank : byteCells (bs [32]) = [.int .u8 32] := rfl
theorem info5 : (Tryd.prog.info? 5).map (fun i => (i.zero, i.size, i.bytes)) = some (some (.int .u8 0), 1, 1) := by kernel_rfl
theorem Has.ofHeap {w : World} {b t : Nat} {vs : Array Value} (h : w.heap[b]? = some (.cells vs t (0, 0))) : Has w b vs := by
  refine ⟨(Array.getElem?_eq_some_iff.1 h).1, fun i => ?_, fun i => ?_⟩
  · simp [World.cell?, h]
  · simp [World.frozen?, h]
/-- Rows of two types lie in two blocks. -/
theorem own_apart {w : World} {b1 b2 e1 e2 s1 s2 n1 n2 : Nat} {v1 v2 : Value} {x1 x2 : List Value} (h1 : w.ownsRow b1 e1 s1 v1 n1 x1) (h2 : w.ownsRow b2 e2 s2 v2 n2 x2) (hne : e1 ≠ e2) : v1.ownBlock = none ∨ v1.ownBlock ≠ v2.ownBlock := by
  rcases h1.2 with ⟨rfl, _⟩ | ⟨g, cap, cur, rfl, hb, hg, _⟩
  · exact .inl rfl
  · refine .inr (fun e => ?_)
    rcases h2.2 with ⟨rfl, _⟩ | ⟨g', cap', cur', rfl, hb', hg', _⟩
    · simp [Value.ownBlock] at e
    · simp [Value.ownBlock] at e
      subst e
      rw [hg] at hg'
      injection hg' with e
      injection e with e1 e2
      exact hne e2
theorem own_block {w : World} {b1 e1 s1 n1 g t : Nat} {v1 : Value} {x1 : List Value} {vs : Array Value} {fr : Nat × Nat} (h1 : w.ownsRow b1 e1 s1 v1 n1 x1) (h : w.heap[g]? = some (.cells vs t fr)) (hne : e1 ≠ t) : v1.ownBlock ≠ some g := by
  rcases h1.2 with ⟨rfl, _⟩ | ⟨g', cap, cur, rfl, hb, hg, _⟩
  · simp [Value.ownBlock]
  · intro e
    simp [Value.ownBlock] at e
    subst e
    rw [hg] at h
    injection h with e
    injection e with e1 e2
    exact hne e2
theorem own_keep {w w' : World} {base e size n : Nat} {v : Value} {xs : List Value} (h : w.ownsRow base e size v n xs) (hb : ∀ g, v.ownBlock = some g → w'.heap[g]? = w.heap[g]?) : w'.ownsRow base e size v n xs := by
  refine ⟨h.1, ?_⟩
  rcases h.2 with h0 | ⟨g, cap, cur, rfl, h2, h3, h4⟩
  · exact .inl h0
  · exact .inr ⟨g, cap, cur, rfl, h2, (hb g rfl).trans h3, h4⟩

/-- What stands while pieces are written: the place, the text, the tokens. -/
structure Mid (w : World) (B : List UInt8) (T : List Tok) (bv tv : Value) (ln cl : Int) (W : World) : Prop where
  pos : Has W (w.heap.size + 1) #[.int .i64 ln, .int .i64 cl]
  res : Has W w.heap.size #[.int .i64 0, .int .i64 0]
  brow : W.ownsRow (w.heap.size + 2) 5 1 bv B.length (byteCells (bs B))
  trow : W.ownsRow (w.heap.size + 2) 36 5 tv T.length (cellsOf T)
  bel : Below w.heap.size w W
theorem Mid.rows {w W : World} {B : List UInt8} {T : List Tok} {bv tv : Value} {ln cl : Int} (h : Mid w B T bv tv ln cl W) (g : Nat) (hg : bv.ownBlock = some g ∨ tv.ownBlock = some g) : w.heap.size + 2 ≤ g ∧ g < W.heap.size := by
  rcases hg with hg | hg
  · exact h.brow.lt g hg
  · exact h.trow.lt g hg
theorem Mid.keep {w W W1 : World} {B : List UInt8} {T : List Tok} {bv tv : Value} {ln cl : Int} (h : Mid w B T bv tv ln cl W) (hb : Below W.heap.size W W1) : Mid w B T bv tv ln cl W1 := by
  have hz := h.bel.size
  exact ⟨h.pos.below hb, h.res.below hb, own_keep h.brow (fun g hg => hb.block g (h.rows g (.inl hg)).2), own_keep h.trow (fun g hg => hb.block g (h.rows g (.inr hg)).2), h.bel.trans (hb.mono hz)⟩
theorem Mid.alloc {w W : World} {B : List UInt8} {T : List Tok} {bv tv : Value} {ln cl : Int} (h : Mid w B T bv tv ln cl W) (o : Obj) : Mid w B T bv tv ln cl (W.alloc o) := h.keep ((Below.refl _ _).alloc (Nat.le_refl _) _)
/-- The text grows. -/
theorem Mid.growB {w W W2 : World} {B X : List UInt8} {T : List Tok} {bv bv' tv : Value} {ln cl : Int} (h : Mid w B T bv tv ln cl W) (hg : W.grownBy W2 bv.ownBlock) (ho : W2.ownsRow (w.heap.size + 2) 5 1 bv' (B ++ X).length (byteCells (bs (B ++ X)))) : Mid w (B ++ X) T bv' tv ln cl W2 := by
  have hz := h.bel.size
  have hne : ∀ k, k < w.heap.size + 2 → some k ≠ bv.ownBlock := fun k hk e => by have := (h.rows k (.inl e.symm)).1; omega
  exact ⟨h.pos.blk hg.size (hg.block _ h.pos.1 (hne _ (by omega))), h.res.blk hg.size (hg.block _ h.res.1 (hne _ (by omega))), ho, h.trow.kept hg (own_apart h.trow h.brow (by decide)), h.bel.grown hg hz (fun k hk => by have := (h.rows k (.inl hk)).1; omega)⟩
/-- The tokens grow. -/
theorem Mid.growT {w W W2 : World} {B : List UInt8} {T X : List Tok} {bv tv tv' : Value} {ln cl : Int} (h : Mid w B T bv tv ln cl W) (hg : W.grownBy W2 tv.ownBlock) (ho : W2.ownsRow (w.heap.size + 2) 36 5 tv' (T ++ X).length (cellsOf (T ++ X))) : Mid w B (T ++ X) bv tv' ln cl W2 := by
  have hz := h.bel.size
  have hne : ∀ k, k < w.heap.size + 2 → some k ≠ tv.ownBlock := fun k hk e => by have := (h.rows k (.inr e.symm)).1; omega
  exact ⟨h.pos.blk hg.size (hg.block _ h.pos.1 (hne _ (by omega))), h.res.blk hg.size (hg.block _ h.res.1 (hne _ (by omega))), h.brow.kept hg (own_apart h.brow h.trow (by decide)), ho, h.bel.grown hg hz (fun k hk => by have := (h.rows k (.inr hk)).1; omega)⟩
/-- A cell of another block of the call's own is set. -/
theorem Mid.far {w W : World} {B : List UInt8} {T : List Tok} {bv tv : Value} {ln cl : Int} (h : Mid w B T bv tv ln cl W) {g i : Nat} (hg : w.heap.size + 2 ≤ g) (h1 : bv.ownBlock ≠ some g) (h2 : tv.ownBlock ≠ some g) (v : Value) : Mid w B T bv tv ln cl (W.setCell ⟨g, i, none⟩ v) :=
  ⟨h.pos.far (by omega) v, h.res.far (by omega) v, own_keep h.brow (fun k hk => Below.heap_setCell _ _ _ _ (fun e => h1 (by rw [hk]; exact congrArg some e))), own_keep h.trow (fun k hk => Below.heap_setCell _ _ _ _ (fun e => h2 (by rw [hk]; exact congrArg some e))), h.bel.setCell (by show w.heap.size ≤ g; omega) v⟩
theorem Mid.place {w W : World} {B : List UInt8} {T : List Tok} {bv tv : Value} {ln cl : Int} (h : Mid w B T bv tv ln cl W) (ln' cl' : Int) : Mid w B T bv tv ln' cl' ((W.setCell ⟨w.heap.size + 1, 0, none⟩ (.int .i64 ln')).setCell ⟨w.heap.size + 1, 1, none⟩ (.int .i64 cl')) := by
  have hk : ∀ g, bv.ownBlock = some g ∨ tv.ownBlock = some g → ((W.setCell ⟨w.heap.size + 1, 0, none⟩ (.int .i64 ln')).setCell ⟨w.heap.size + 1, 1, none⟩ (.int .i64 cl')).heap[g]? = W.heap[g]? := fun g hg => by
    have := (h.rows g hg).1
    rw [Below.heap_setCell _ _ _ _ (by show g ≠ w.heap.size + 1; omega), Below.heap_setCell _ _ _ _ (by show g ≠ w.heap.size + 1; omega)]
  exact ⟨(h.pos.set 0 (by simp) _).set 1 (by simp) _, (h.res.far (by omega) _).far (by omega) _, own_keep h.brow (fun g hg => hk g (.inl hg)), own_keep h.trow (fun g hg => hk g (.inr hg)), (h.bel.setCell (by show w.heap.size ≤ w.heap.size + 1; omega) _).setCell (by show w.heap.size ≤ w.heap.size + 1; omega) _⟩
theorem Mid.col {w W : World} {B : List UInt8} {T : List Tok} {bv tv : Value} {ln cl : Int} (h : Mid w B T bv tv ln cl W) (cl' : Int) : Mid w B T bv tv ln cl' (W.setCell ⟨w.heap.size + 1, 1, none⟩ (.int .i64 cl')) := by
  have hk : ∀ g, bv.ownBlock = some g ∨ tv.ownBlock = some g → (W.setCell ⟨w.heap.size + 1, 1, none⟩ (.int .i64 cl')).heap[g]? = W.heap[g]? := fun g hg => by
    have := (h.rows g hg).1
    rw [Below.heap_setCell _ _ _ _ (by show g ≠ w.heap.size + 1; omega)]
  exact ⟨h.pos.set 1 (by simp) _, h.res.far (by omega) _, own_keep h.brow (fun g hg => hk g (.inl hg)), own_keep h.trow (fun g hg => hk g (.inr hg)), h.bel.setCell (by show w.heap.size ≤ w.heap.size + 1; omega) _⟩

theorem keep_t {W1 W2 : World} {o : Obj} {tb t : Nat} {c : Array Value} {fr : Nat × Nat} {row : Option Nat} (h : W1.heap[tb]? = some (.cells c t fr)) (hg : (W1.alloc o).grownBy W2 row) (hne : some tb ≠ row) : W2.heap[tb]? = some (.cells c t fr) := by
  have hlt := (Array.getElem?_eq_some_iff.1 h).1
  rw [hg.block tb (by simp; omega) hne, Below.heap_alloc _ _ _ hlt, h]
theorem cells_one {W : World} {b : Nat} (hb : b = W.heap.size) (x : Value) (t : TypeId) : ∀ j u, [x][j]? = some u → (W.alloc (.cells #[x] t)).cell? ((⟨b, 0, none⟩ : Addr).add j) = some u := by
  subst hb
  intro j u h
  have := (Has.new W #[x] t rfl).2.1 j
  rw [Go.WideShapes.add_plain, Nat.zero_add, this]
  simpa using h
theorem cells_five_at {W : World} {b : Nat} (hb : b = W.heap.size) (x0 x1 x2 x3 x4 : Value) (t : TypeId) : ∀ j u, [x0, x1, x2, x3, x4][j]? = some u → (W.alloc (.cells #[x0, x1, x2, x3, x4] t)).cell? ((⟨b, 0, none⟩ : Addr).add j) = some u := by
  subst hb; exact cells_five _ _ _ _ _ _
theorem one_blank : ∀ u ∈ [Value.int .u8 32], u.oneCell' = true := by intro u hu; simp at hu; rw [hu]; rfl
theorem below_drewN (W : World) (q : Nat) : Below W.heap.size W (W.drewN q) := by
  induction q with
  | zero => exact Below.refl _ _
  | succ q ih => exact ih.drew
/-- The writer between two rounds. -/
structure WrS (w : World) (k : Nat) (B : List UInt8) (T : List Tok) (la : List UInt8) (bv tv : Value) (W : World) : Prop where
  wrt : Wrt B T la
  len : B.length ≤ 65000
  lal : la.length ≤ 65000
  cnt : T.length ≤ k
  mid : Mid w B T bv tv (behL 1 1 B).1 (behL 1 1 B).2 W

/-- string(b). -/
theorem conv_row {W W' : World} {base : Nat} {B : List UInt8} {bv : Value} (h : W.ownsRow base 5 1 bv B.length (byteCells (bs B))) (hk : ∀ g, bv.ownBlock = some g → W'.heap[g]? = W.heap[g]?) : (convert 65 9 bv).run Tryd.prog W' = .ok (.string (bs B)) W' := by
  have h' := own_keep h hk
  rcases h'.2 with ⟨rfl, h0⟩ | ⟨g, cap, cur, rfl, _, hg, h3, h4, h5, h6⟩
  · have : B = [] := List.eq_nil_of_length_eq_zero h0
    subst this
    exact run_convert_bytes_nil W' 65 5 und65 und5 0 0 9 und9
  · refine run_convert_bytes_back W' 65 9 5 ⟨g, 0, none⟩ cap B und65 und5 und9 (fun j hj => ?_)
    have := h'.cells (g := g) rfl j (.int .u8 (B[j].toNat : Int)) (by unfold byteCells bs; simp [List.getElem?_eq_getElem hj])
    exact this
theorem Mid.fin {w X : World} {B : List UInt8} {T : List Tok} {bv tv : Value} {ln cl : Int} (h : Mid w B T bv tv ln cl X) :
    (convert 65 9 bv).run Tryd.prog X.drew = .ok (.string (bs B)) X.drew ∧
    (convert 65 9 bv).run Tryd.prog ((X.setCell ⟨w.heap.size, 0, none⟩ (.int .i64 ln)).setCell ⟨w.heap.size, 1, none⟩ (.int .i64 cl)).drew = .ok (.string (bs B)) ((X.setCell ⟨w.heap.size, 0, none⟩ (.int .i64 ln)).setCell ⟨w.heap.size, 1, none⟩ (.int .i64 cl)).drew ∧
    Has ((X.setCell ⟨w.heap.size, 0, none⟩ (.int .i64 ln)).setCell ⟨w.heap.size, 1, none⟩ (.int .i64 cl)).drew w.heap.size #[.int .i64 ln, .int .i64 cl] ∧
    ((X.setCell ⟨w.heap.size, 0, none⟩ (.int .i64 ln)).setCell ⟨w.heap.size, 1, none⟩ (.int .i64 cl)).drew.ownsRow w.heap.size 36 5 tv T.length (cellsOf T) ∧
    Below w.heap.size w ((X.setCell ⟨w.heap.size, 0, none⟩ (.int .i64 ln)).setCell ⟨w.heap.size, 1, none⟩ (.int .i64 cl)).drew := by
  have hk : ∀ g, bv.ownBlock = some g ∨ tv.ownBlock = some g → ((X.setCell ⟨w.heap.size, 0, none⟩ (.int .i64 ln)).setCell ⟨w.heap.size, 1, none⟩ (.int .i64 cl)).drew.heap[g]? = X.heap[g]? := fun g hg => by
    have := (h.rows g hg).1
    show ((X.setCell ⟨w.heap.size, 0, none⟩ (.int .i64 ln)).setCell ⟨w.heap.size, 1, none⟩ (.int .i64 cl)).heap[g]? = X.heap[g]?
    rw [Below.heap_setCell _ _ _ _ (by show g ≠ w.heap.size; omega), Below.heap_setCell _ _ _ _ (by show g ≠ w.heap.size; omega)]
  exact ⟨conv_row h.brow (fun g hg => rfl), conv_row h.brow (fun g hg => hk g (.inl hg)), ((h.res.set 0 (by simp) _).set 1 (by simp) _).drew, (own_keep h.trow (fun g hg => hk g (.inr hg))).mono (by omega), ((h.bel.setCell (by show w.heap.size ≤ w.heap.size; omega) _).setCell (by show w.heap.size ≤ w.heap.size; omega) _).drew⟩
end Go.Proofs.YtjohnhaahpggkaaDoor
