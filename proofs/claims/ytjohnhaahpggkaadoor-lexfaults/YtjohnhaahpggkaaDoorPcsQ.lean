import Derived.Deep.Upon
import Derived.Laws.AppendOwn
import Derived.Test.YtjohnhaahpggkaaDoorPcsF
import Derived.Test.YtjohnhaahpggkaaDoorStrL
import Derived.Laws.BytesArg
import Derived.Test.YtjohnhaahpggkaaDoorRefC
import Derived.Deep.CutRange
import Derived.Deep.DeepCutAuto
import Derived.Test.YtjohnhaahpggkaaDoorSclW
namespace Go.Proofs.YtjohnhaahpggkaaDoor
open Go.RowKit
set_option linter.unusedVariables false
section
variable {P : Program} (w : World)
/-- A string's bytes onto a row of the call's own. -/
theorem run_append_own_str (base : Nat) (t tx ty e : TypeId) (i : TypeInfo) (z : Value) (bytes : Nat) (ht : P.underlying t = some (.slice e)) (htx : P.underlying tx = some .string) (hi : P.info? e = some i) (hz : i.zero = some z)
    (hsize : i.size = 1) (hby : i.bytes = bytes) (hzs : z.cells.size = 1)
    (v : Value) (n : Nat) (xs : List Value) (hown : w.ownsRow base e 1 v n xs)
    (s : ByteArray) (h63 : n + s.size ≤ maxLen) (hbytes : (n + s.size) * bytes ≤ 140737488355328) (hbase : base ≤ w.heap.size) :
    ∃ v' w', (Builtin.append_ #[t, tx] ty #[v, .string s]).run P w = .ok v' w' ∧ w'.ownsRow base e 1 v' (n + s.size) (xs ++ byteCells s) ∧ w.grownBy w' v.ownBlock := by
  subst hby
  have hsrc : Src P i.size tx (.string s) s.size (byteCells s) w := by rw [hsize]; exact Src.ofString w htx s
  have hbl := byteCells_length s
  have hsmall : n + s.size ≤ 9223372036854775807 := by simp only [maxLen] at h63; omega
  have hxl := hown.1
  rw [Nat.mul_one] at hxl
  have hlen : (xs ++ byteCells s).length = (n + s.size) * 1 := by rw [List.length_append, hxl, hbl, Nat.mul_one]
  have grown : ∀ (old : Nat), old < n + s.size → ∀ (row : Option Nat),
      (w.drew.alloc (.cells ((xs ++ byteCells s).toArray ++ Builtin.zeroCells z.cells (grownCap w (n + s.size) old e - (n + s.size))) e)).ownsRow base e 1
        (.slice (some ⟨w.heap.size, 0, none⟩) (n + s.size) (grownCap w (n + s.size) old e)) (n + s.size) (xs ++ byteCells s) ∧
      w.grownBy (w.drew.alloc (.cells ((xs ++ byteCells s).toArray ++ Builtin.zeroCells z.cells (grownCap w (n + s.size) old e - (n + s.size))) e)) row := by
    intro old ho row
    have hge := grownCap_ge w (n + s.size) old e
    have hcm : grownCap w (n + s.size) old e ≤ maxLen := grownCap_le_maxLen w (n + s.size) old e h63
    refine ⟨⟨hlen, .inr ⟨w.heap.size, _, _, rfl, hbase, Go.heap_alloc_new w.drew _, hge, hcm, ?_, ?_⟩⟩, ⟨rfl, rfl, rfl, by simp, fun k hk _ => Below.heap_alloc w.drew _ k hk⟩⟩
    · simp only [Array.size_append, List.size_toArray, List.length_append, size_zeroCells, hzs, hxl, hbl]
      omega
    · simp only [Array.toList_append]
      rw [← hlen]
      exact List.take_left
  rcases hown.2 with ⟨rfl, rfl⟩ | ⟨g, cap, cur, rfl, hbg, hg, hnc, hcm, hcs, htake⟩
  · have hx : xs = [] := List.eq_nil_of_length_eq_zero (by omega)
    subst hx
    by_cases hm : s.size = 0
    · have hn : byteCells s = [] := List.eq_nil_of_length_eq_zero (by omega)
      have hr := run_append_nothing (P := P) w t tx ty e i ht hi none 0 0 (Nat.le_refl _) (.string s) (by rw [← hm, ← hn]; exact hsrc)
      refine ⟨.slice none 0 0, w, hr, ?_, ⟨rfl, rfl, rfl, Nat.le_refl _, fun _ _ _ => rfl⟩⟩
      rw [hm, hn]; exact World.ownsRow_nil w base e 1
    · have hr := run_append_grow_src (P := P) w t tx ty e i z ht hi hz none 0 0 [] (run_firstCells_none w.drew i.size 0 0 0) (.string s) s.size (byteCells s) hsrc (by omega) (by omega) (growslice_fits (by omega) hbytes)
      have hgr := grown 0 (by omega) (Value.ownBlock (.slice none 0 0))
      exact ⟨_, _, hr, hgr.1, hgr.2⟩
  · by_cases hroom : n + s.size ≤ cap
    · have hfit : n * i.size + (byteCells s).length ≤ cur.size := by rw [hbl, hcs, hsize]; omega
      have hst := run_storeCells_at P g (n * i.size) e (byteCells s) 0 cur w hg (by simpa using hfit) hsrc.one
      simp only [Nat.add_zero] at hst
      have hr : (Builtin.append_ #[t, tx] ty #[.slice (some ⟨g, 0, none⟩) n cap, .string s]).run P w = .ok (.slice (some ⟨g, 0, none⟩) (n + s.size) cap) (w.setRow g (cur.toList.take (n * i.size) ++ byteCells s ++ cur.toList.drop (n * i.size + (byteCells s).length)).toArray) := by
        simp [Builtin.append_, run_underlying ht, run_underlying htx, sizeOf, typeInfo, hi, hsrc.len, hroom, hsrc.cells, Addr.add_lit, hst]
      rw [hsize, Nat.mul_one] at hr
      rw [Nat.mul_one] at htake hcs
      refine ⟨_, _, hr, ⟨hlen, .inr ⟨g, cap, _, rfl, hbg, setRow_heap w g cur _ e _ hg, hroom, hcm, ?_, ?_⟩⟩, ⟨rfl, rfl, rfl, by simp, fun k _ hk => setRow_other w g k _ (fun e => hk (by simp [Value.ownBlock, e]))⟩⟩
      · simp only [List.size_toArray, List.length_append, List.length_take, List.length_drop, Array.length_toList]
        omega
      · rw [htake, ← hlen]
        exact List.take_left
    · have holds : ∀ j u, xs[j]? = some u → w.cell? ((⟨g, 0, none⟩ : Addr).add j) = some u := hown.cells (g := g) rfl
      have hr := run_append_grow_src (P := P) w t tx ty e i z ht hi hz (some ⟨g, 0, none⟩) n cap xs (run_firstCells_some w.drew i.size n ⟨g, 0, none⟩ n cap xs (by rw [hsize]; exact hown.1) (by simpa using holds)) (.string s) s.size (byteCells s) hsrc (by omega) (by omega) (growslice_fits (by omega) hbytes)
      have hgr := grown cap (by omega) (Value.ownBlock (.slice (some ⟨g, 0, none⟩) n cap))
      exact ⟨_, _, hr, hgr.1, hgr.2⟩
theorem wpList_append_own_str {ops : Array Oper} {rest : List Oper} {o : Oper} {a : Act} {Q : Exit → Act → World → Prop} (hgd : o.guard = none) (so x : Operand) (t tx : TypeId)
    (ho : o.op = .call { callee := .builtin .append, args := #[so, x], argTypes := #[t, tx] })
    (base : Nat) (e : TypeId) (i : TypeInfo) (z : Value) (bytes : Nat) (ht : P.underlying t = some (.slice e)) (htx : P.underlying tx = some .string) (hi : P.info? e = some i) (hz : i.zero = some z)
    (hsize : i.size = 1) (hby : i.bytes = bytes) (hzs : z.cells.size = 1)
    (v : Value) (n : Nat) (xs : List Value) (hs : a.eval so = v) (hown : w.ownsRow base e 1 v n xs)
    (s : ByteArray) (hx : a.eval x = .string s) (h63 : n + s.size ≤ maxLen) (hbytes : (n + s.size) * bytes ≤ 140737488355328) (hbase : base ≤ w.heap.size)
    (h : ∀ v' w', w'.ownsRow base e 1 v' (n + s.size) (xs ++ byteCells s) → w.grownBy w' v.ownBlock → wpList P ops Q rest (a.put o.dst v') w') : wpList P ops Q (o :: rest) a w := by
  refine wpList_plain hgd fun K hK => ?_
  obtain ⟨v', w', hr, h2, h3⟩ := run_append_own_str (P := P) w base t tx o.type e i z bytes ht htx hi hz hsize hby hzs v n xs hown s h63 hbytes hbase
  unfold Oper.wp execOp
  simp only [ho, resolve, invoke, builtin, Sem.run_bind, Sem.run_pure, Result.andThen_ok, List.map_toArray, List.map_cons, List.map_nil, hs, hx, hr]
  exact hK _ _ (h v' w' h2 h3)
end
end Go.Proofs.YtjohnhaahpggkaaDoor
namespace Go.Proofs.YtjohnhaahpggkaaDoor
open Go.RowKit
set_option linter.unusedVariables false
set_option linter.unusedSimpArgs false

theorem byteCells_app (a b : List UInt8) : byteCells (bs (a ++ b)) = byteCells (bs a) ++ byteCells (bs b) := by unfold byteCells bs; simp
theorem byteCells_blank : byteCells (bs [32]) = [.int .u8 32] := rfl
theorem info5 : (Tryd.prog.info? 5).map (fun i => (i.zero, i.size, i.bytes)) = some (some (.int .u8 0), 1, 1) := by kernel_rfl
theorem Has.ofHeap {w : World} {b t : Nat} {vs : Array Value} (h : w.heap[b]? = some (.cells vs t (0, 0))) : Has w b vs := by
  refine ⟨(Array.getElem?_eq_some_iff.1 h).1, fun i => ?_, fun i => ?_⟩
  · simp [World.cell?, h]
  · simp [World.frozen?, h]
/-- Rows of two types lie in two blocks. -/
theorem own_apart {w : World} {b1 b2 e1 e2 s1 s2 n1 n2 : Nat} {v1 v2 : Value} {x1 x2 : List Value} (h1 : w.ownsRow b1 e1 s1 v1 n1 x1) (h2 : w.ownsRow b2 e2 s2 v2 n2 x2) (hne : e1 ≠ e2) : v1.ownBlock = none ∨ v1.ownBlock ≠ v2.ownBlock := by
  rcases h1.2 with ⟨rfl, _⟩ | ⟨g, cap, cur, rfl, hb, hg, _⟩
  · exact .inl rfl
  · refine .inr (fun e => ?_)
    rcases h2.2 with ⟨rfl, _⟩ | ⟨g', cap', cur', rfl, hb', hg', _⟩
    · simp [Value.ownBlock] at e
    · simp [Value.ownBlock] at e
      subst e
      rw [hg] at hg'
      injection hg' with e
      injection e with e1 e2
      exact hne e2
theorem own_block {w : World} {b1 e1 s1 n1 g t : Nat} {v1 : Value} {x1 : List Value} {vs : Array Value} {fr : Nat × Nat} (h1 : w.ownsRow b1 e1 s1 v1 n1 x1) (h : w.heap[g]? = some (.cells vs t fr)) (hne : e1 ≠ t) : v1.ownBlock ≠ some g := by
  rcases h1.2 with ⟨rfl, _⟩ | ⟨g', cap, cur, rfl, hb, hg, _⟩
  · simp [Value.ownBlock]
  · intro e
    simp [Value.ownBlock] at e
    subst e
    rw [hg] at h
    injection h with e
    injection e with e1 e2
    exact hne e2
theorem own_keep {w w' : World} {base e size n : Nat} {v : Value} {xs : List Value} (h : w.ownsRow base e size v n xs) (hb : ∀ g, v.ownBlock = some g → w'.heap[g]? = w.heap[g]?) : w'.ownsRow base e size v n xs := by
  refine ⟨h.1, ?_⟩
  rcases h.2 with h0 | ⟨g, cap, cur, rfl, h2, h3, h4⟩
  · exact .inl h0
  · exact .inr ⟨g, cap, cur, rfl, h2, (hb g rfl).trans h3, h4⟩

/-- What stands while pieces are written: the place, the text, the tokens. -/
structure Mid (w : World) (B : List UInt8) (T : List Tok) (bv tv : Value) (ln cl : Int) (W : World) : Prop where
  pos : Has W (w.heap.size + 1) #[.int .i64 ln, .int .i64 cl]
  res : Has W w.heap.size #[.int .i64 0, .int .i64 0]
  brow : W.ownsRow (w.heap.size + 2) 5 1 bv B.length (byteCells (bs B))
  trow : W.ownsRow (w.heap.size + 2) 36 5 tv T.length (cellsOf T)
  bel : Below w.heap.size w W
theorem Mid.rows {w W : World} {B : List UInt8} {T : List Tok} {bv tv : Value} {ln cl : Int} (h : Mid w B T bv tv ln cl W) (g : Nat) (hg : bv.ownBlock = some g ∨ tv.ownBlock = some g) : w.heap.size + 2 ≤ g ∧ g < W.heap.size := by
  rcases hg with hg | hg
  · exact h.brow.lt g hg
  · exact h.trow.lt g hg
theorem Mid.keep {w W W1 : World} {B : List UInt8} {T : List Tok} {bv tv : Value} {ln cl : Int} (h : Mid w B T bv tv ln cl W) (hb : Below W.heap.size W W1) : Mid w B T bv tv ln cl W1 := by
  have hz := h.bel.size
  exact ⟨h.pos.below hb, h.res.below hb, own_keep h.brow (fun g hg => hb.block g (h.rows g (.inl hg)).2), own_keep h.trow (fun g hg => hb.block g (h.rows g (.inr hg)).2), h.bel.trans (hb.mono hz)⟩
theorem Mid.alloc {w W : World} {B : List UInt8} {T : List Tok} {bv tv : Value} {ln cl : Int} (h : Mid w B T bv tv ln cl W) (o : Obj) : Mid w B T bv tv ln cl (W.alloc o) := h.keep ((Below.refl _ _).alloc (Nat.le_refl _) _)
/-- The text grows. -/
theorem Mid.growB {w W W2 : World} {B X : List UInt8} {T : List Tok} {bv bv' tv : Value} {ln cl : Int} (h : Mid w B T bv tv ln cl W) (hg : W.grownBy W2 bv.ownBlock) (ho : W2.ownsRow (w.heap.size + 2) 5 1 bv' (B ++ X).length (byteCells (bs (B ++ X)))) : Mid w (B ++ X) T bv' tv ln cl W2 := by
  have hz := h.bel.size
  have hne : ∀ k, k < w.heap.size + 2 → some k ≠ bv.ownBlock := fun k hk e => by have := (h.rows k (.inl e.symm)).1; omega
  exact ⟨h.pos.blk hg.size (hg.block _ h.pos.1 (hne _ (by omega))), h.res.blk hg.size (hg.block _ h.res.1 (hne _ (by omega))), ho, h.trow.kept hg (own_apart h.trow h.brow (by decide)), h.bel.grown hg hz (fun k hk => by have := (h.rows k (.inl hk)).1; omega)⟩
/-- The tokens grow. -/
theorem Mid.growT {w W W2 : World} {B : List UInt8} {T X : List Tok} {bv tv tv' : Value} {ln cl : Int} (h : Mid w B T bv tv ln cl W) (hg : W.grownBy W2 tv.ownBlock) (ho : W2.ownsRow (w.heap.size + 2) 36 5 tv' (T ++ X).length (cellsOf (T ++ X))) : Mid w B (T ++ X) bv tv' ln cl W2 := by
  have hz := h.bel.size
  have hne : ∀ k, k < w.heap.size + 2 → some k ≠ tv.ownBlock := fun k hk e => by have := (h.rows k (.inr e.symm)).1; omega
  exact ⟨h.pos.blk hg.size (hg.block _ h.pos.1 (hne _ (by omega))), h.res.blk hg.size (hg.block _ h.res.1 (hne _ (by omega))), h.brow.kept hg (own_apart h.brow h.trow (by decide)), ho, h.bel.grown hg hz (fun k hk => by have := (h.rows k (.inr hk)).1; omega)⟩
/-- A cell of another block of the call's own is set. -/
theorem Mid.far {w W : World} {B : List UInt8} {T : List Tok} {bv tv : Value} {ln cl : Int} (h : Mid w B T bv tv ln cl W) {g i : Nat} (hg : w.heap.size + 2 ≤ g) (h1 : bv.ownBlock ≠ some g) (h2 : tv.ownBlock ≠ some g) (v : Value) : Mid w B T bv tv ln cl (W.setCell ⟨g, i, none⟩ v) :=
  ⟨h.pos.far (by omega) v, h.res.far (by omega) v, own_keep h.brow (fun k hk => Below.heap_setCell _ _ _ _ (fun e => h1 (by rw [hk]; exact congrArg some e))), own_keep h.trow (fun k hk => Below.heap_setCell _ _ _ _ (fun e => h2 (by rw [hk]; exact congrArg some e))), h.bel.setCell (by show w.heap.size ≤ g; omega) v⟩
theorem Mid.place {w W : World} {B : List UInt8} {T : List Tok} {bv tv : Value} {ln cl : Int} (h : Mid w B T bv tv ln cl W) (ln' cl' : Int) : Mid w B T bv tv ln' cl' ((W.setCell ⟨w.heap.size + 1, 0, none⟩ (.int .i64 ln')).setCell ⟨w.heap.size + 1, 1, none⟩ (.int .i64 cl')) := by
  have hk : ∀ g, bv.ownBlock = some g ∨ tv.ownBlock = some g → ((W.setCell ⟨w.heap.size + 1, 0, none⟩ (.int .i64 ln')).setCell ⟨w.heap.size + 1, 1, none⟩ (.int .i64 cl')).heap[g]? = W.heap[g]? := fun g hg => by
    have := (h.rows g hg).1
    rw [Below.heap_setCell _ _ _ _ (by show g ≠ w.heap.size + 1; omega), Below.heap_setCell _ _ _ _ (by show g ≠ w.heap.size + 1; omega)]
  exact ⟨(h.pos.set 0 (by simp) _).set 1 (by simp) _, (h.res.far (by omega) _).far (by omega) _, own_keep h.brow (fun g hg => hk g (.inl hg)), own_keep h.trow (fun g hg => hk g (.inr hg)), (h.bel.setCell (by show w.heap.size ≤ w.heap.size + 1; omega) _).setCell (by show w.heap.size ≤ w.heap.size + 1; omega) _⟩
theorem Mid.col {w W : World} {B : List UInt8} {T : List Tok} {bv tv : Value} {ln cl : Int} (h : Mid w B T bv tv ln cl W) (cl' : Int) : Mid w B T bv tv ln cl' (W.setCell ⟨w.heap.size + 1, 1, none⟩ (.int .i64 cl')) := by
  have hk : ∀ g, bv.ownBlock = some g ∨ tv.ownBlock = some g → (W.setCell ⟨w.heap.size + 1, 1, none⟩ (.int .i64 cl')).heap[g]? = W.heap[g]? := fun g hg => by
    have := (h.rows g hg).1
    rw [Below.heap_setCell _ _ _ _ (by show g ≠ w.heap.size + 1; omega)]
  exact ⟨h.pos.set 1 (by simp) _, h.res.far (by omega) _, own_keep h.brow (fun g hg => hk g (.inl hg)), own_keep h.trow (fun g hg => hk g (.inr hg)), h.bel.setCell (by show w.heap.size ≤ w.heap.size + 1; omega) _⟩

theorem keep_t {W1 W2 : World} {o : Obj} {tb t : Nat} {c : Array Value} {fr : Nat × Nat} {row : Option Nat} (h : W1.heap[tb]? = some (.cells c t fr)) (hg : (W1.alloc o).grownBy W2 row) (hne : some tb ≠ row) : W2.heap[tb]? = some (.cells c t fr) := by
  have hlt := (Array.getElem?_eq_some_iff.1 h).1
  rw [hg.block tb (by simp; omega) hne, Below.heap_alloc _ _ _ hlt, h]
theorem cells_one {W : World} {b : Nat} (hb : b = W.heap.size) (x : Value) (t : TypeId) : ∀ j u, [x][j]? = some u → (W.alloc (.cells #[x] t)).cell? ((⟨b, 0, none⟩ : Addr).add j) = some u := by
  subst hb
  intro j u h
  have := (Has.new W #[x] t rfl).2.1 j
  rw [Go.WideShapes.add_plain, Nat.zero_add, this]
  simpa using h
theorem cells_five_at {W : World} {b : Nat} (hb : b = W.heap.size) (x0 x1 x2 x3 x4 : Value) (t : TypeId) : ∀ j u, [x0, x1, x2, x3, x4][j]? = some u → (W.alloc (.cells #[x0, x1, x2, x3, x4] t)).cell? ((⟨b, 0, none⟩ : Addr).add j) = some u := by
  subst hb; exact cells_five _ _ _ _ _ _
theorem one_blank : ∀ u ∈ [Value.int .u8 32], u.oneCell' = true := by intro u hu; simp at hu; rw [hu]; rfl
theorem below_drewN (W : World) (q : Nat) : Below W.heap.size W (W.drewN q) := by
  induction q with
  | zero => exact Below.refl _ _
  | succ q ih => exact ih.drew
/-- The writer between two rounds. -/
structure WrS (w : World) (k : Nat) (B : List UInt8) (T : List Tok) (la : List UInt8) (bv tv : Value) (W : World) : Prop where
  wrt : Wrt B T la
  len : B.length ≤ 65000
  lal : la.length ≤ 65000
  cnt : T.length ≤ k
  mid : Mid w B T bv tv (behL 1 1 B).1 (behL 1 1 B).2 W

/-- string(b). -/
theorem conv_row {W W' : World} {base : Nat} {B : List UInt8} {bv : Value} (h : W.ownsRow base 5 1 bv B.length (byteCells (bs B))) (hk : ∀ g, bv.ownBlock = some g → W'.heap[g]? = W.heap[g]?) : (convert 65 9 bv).run Tryd.prog W' = .ok (.string (bs B)) W' := by
  have h' := own_keep h hk
  rcases h'.2 with ⟨rfl, h0⟩ | ⟨g, cap, cur, rfl, _, hg, h3, h4, h5, h6⟩
  · have : B = [] := List.eq_nil_of_length_eq_zero h0
    subst this
    exact run_convert_bytes_nil W' 65 5 und65 und5 0 0 9 und9
  · refine run_convert_bytes_back W' 65 9 5 ⟨g, 0, none⟩ cap B und65 und5 und9 (fun j hj => ?_)
    have := h'.cells (g := g) rfl j (.int .u8 (B[j].toNat : Int)) (by unfold byteCells bs; simp [List.getElem?_eq_getElem hj])
    exact this
theorem Mid.fin {w X : World} {B : List UInt8} {T : List Tok} {bv tv : Value} {ln cl : Int} (h : Mid w B T bv tv ln cl X) :
    (convert 65 9 bv).run Tryd.prog X.drew = .ok (.string (bs B)) X.drew ∧
    (convert 65 9 bv).run Tryd.prog ((X.setCell ⟨w.heap.size, 0, none⟩ (.int .i64 ln)).setCell ⟨w.heap.size, 1, none⟩ (.int .i64 cl)).drew = .ok (.string (bs B)) ((X.setCell ⟨w.heap.size, 0, none⟩ (.int .i64 ln)).setCell ⟨w.heap.size, 1, none⟩ (.int .i64 cl)).drew ∧
    Has ((X.setCell ⟨w.heap.size, 0, none⟩ (.int .i64 ln)).setCell ⟨w.heap.size, 1, none⟩ (.int .i64 cl)).drew w.heap.size #[.int .i64 ln, .int .i64 cl] ∧
    ((X.setCell ⟨w.heap.size, 0, none⟩ (.int .i64 ln)).setCell ⟨w.heap.size, 1, none⟩ (.int .i64 cl)).drew.ownsRow w.heap.size 36 5 tv T.length (cellsOf T) ∧
    Below w.heap.size w ((X.setCell ⟨w.heap.size, 0, none⟩ (.int .i64 ln)).setCell ⟨w.heap.size, 1, none⟩ (.int .i64 cl)).drew := by
  have hk : ∀ g, bv.ownBlock = some g ∨ tv.ownBlock = some g → ((X.setCell ⟨w.heap.size, 0, none⟩ (.int .i64 ln)).setCell ⟨w.heap.size, 1, none⟩ (.int .i64 cl)).drew.heap[g]? = X.heap[g]? := fun g hg => by
    have := (h.rows g hg).1
    show ((X.setCell ⟨w.heap.size, 0, none⟩ (.int .i64 ln)).setCell ⟨w.heap.size, 1, none⟩ (.int .i64 cl)).heap[g]? = X.heap[g]?
    rw [Below.heap_setCell _ _ _ _ (by show g ≠ w.heap.size; omega), Below.heap_setCell _ _ _ _ (by show g ≠ w.heap.size; omega)]
  exact ⟨conv_row h.brow (fun g hg => rfl), conv_row h.brow (fun g hg => hk g (.inl hg)), ((h.res.set 0 (by simp) _).set 1 (by simp) _).drew, (own_keep h.trow (fun g hg => hk g (.inr hg))).mono (by omega), ((h.bel.setCell (by show w.heap.size ≤ w.heap.size; omega) _).setCell (by show w.heap.size ≤ w.heap.size; omega) _).drew⟩
end Go.Proofs.YtjohnhaahpggkaaDoor
namespace Go.Proofs.YtjohnhaahpggkaaDoor
open Go.RowKit
set_option linter.unusedVariables false
set_option linter.unusedSimpArgs false

/-- A piece that is handed in. -/
structure Pc where
  wh : Int
  n : Int
  tx : ByteArray
def Pc.Ok (p : Pc) : Prop := (-9223372036854775808 ≤ p.wh ∧ p.wh < 9223372036854775808) ∧ (-9223372036854775808 ≤ p.n ∧ p.n < 9223372036854775808) ∧ p.tx.size ≤ 4611686018427387904
/-- A list of pieces as it is read. -/
def Pl (w : World) (v : Value) (L : List Pc) : Prop :=
  ∃ a cap, v = .slice a L.length cap ∧ (L = [] ∨ ∃ g o, a = some ⟨g, o, none⟩ ∧ g < w.heap.size ∧ ∀ (i : Nat) (h : i < L.length),
    w.cell? ⟨g, o + i * 3, none⟩ = some (.int .i64 L[i].wh) ∧ w.cell? ⟨g, o + i * 3 + 1, none⟩ = some (.int .i64 L[i].n) ∧ w.cell? ⟨g, o + i * 3 + 2, none⟩ = some (.string L[i].tx))

/-- What written answers. -/
def WrPost (w : World) (e : Ending) (w' : World) : Prop :=
  ∃ B T la tv, e = .returned (.tuple #[.string (bs B), tv, .agg #[.int .i64 (behL 1 1 B).1, .int .i64 (behL 1 1 B).2]]) ∧ Wrt B T la ∧ B.length ≤ 65000 ∧ T.length ≤ 4000 ∧ w'.ownsRow w.heap.size 36 5 tv T.length (cellsOf T) ∧ Below w.heap.size w w'

set_option maxRecDepth 100000 in
set_option maxHeartbeats 8000000 in
theorem written_any (L : List Pc) (v : Value) (w : World) (hP : Pl w v L) (hok : ∀ p ∈ L, p.Ok) (hlen : L.length ≤ 4611686018427387904)
    (hTok : ∀ (p : Pc) (W : World), p.Ok → Below w.heap.size w W → Calls Tryd.prog 31 #[.agg #[.int .i64 p.wh, .int .i64 p.n, .string p.tx]] W fun e w' => (∃ tk l is, e = .returned (.tuple #[tokV tk 0 0, .string (bs l), .bool is]) ∧ Pce tk l is) ∧ Below W.heap.size W w') :
    Calls Tryd.prog 16 #[v] w (WrPost w) := by
  obtain ⟨a, cap, rfl, hc⟩ := hP
  go_enter Tryd.func16, Tryd.ntmps16
  go_wp2
  go_loopw [5, 6, 8, 9] (fun tb tt tl ti wr => ∃ (k : Nat) (B : List UInt8) (T : List Tok) (la : List UInt8), ti = .int .i64 (k : Int) ∧ k ≤ L.length ∧ k ≤ 4000 ∧ tl = .string (bs la) ∧ WrS w k B T la tb tt wr) (fun _ _ _ ti _ => L.length - (intOf ti).toNat)
  case atStart =>
    have hb2 : Below w.heap.size w ((w.alloc (.cells #[.int .i64 0, .int .i64 0] 34)).alloc (.cells #[.int .i64 1, .int .i64 1] 34)) := ((Below.refl _ _).alloc (Nat.le_refl _) _).alloc (by simp) _
    exact ⟨0, [], [], [], rfl, by omega, by omega, rfl, ⟨Wrt.nil, by simp, by simp, by simp, ⟨Has.new _ _ _ (by simp), (Has.new _ _ _ rfl).alloc _, World.ownsRow_nil _ _ _ _, World.ownsRow_nil _ _ _ _, hb2⟩⟩⟩
  case round =>
    obtain ⟨k, B, T, la, rfl, hk1, hk2, rfl, hS⟩ := hrel
    by_cases hgo : k < L.length ∧ k < 4000
    · obtain ⟨hg1, hg2⟩ := hgo
      obtain ⟨g, o, rfl, hg, hcs⟩ := hc.resolve_left (by intro h; rw [h] at hg1; simp at hg1)
      obtain ⟨p0, p1, p2⟩ := hcs k hg1
      have hT : Calls Tryd.prog 31 #[.agg #[.int .i64 L[k].wh, .int .i64 L[k].n, .string L[k].tx]] wr fun e w' => (∃ kk nn xx l is, e = .returned (.tuple #[.agg #[.int .i64 kk, .int .i32 nn, .string (bs xx), .int .i64 0, .int .i64 0], .string (bs l), .bool is]) ∧ Pce ⟨kk, nn, xx⟩ l is) ∧ Below wr.heap.size wr w' := (hTok L[k] wr (hok _ (List.getElem_mem hg1)) hS.mid.bel).mono (by
        rintro e w' ⟨⟨⟨kk, nn, xx⟩, l, is, rfl, hP⟩, hb⟩
        exact ⟨⟨kk, nn, xx, l, is, rfl, hP⟩, hb⟩)
      generalize L[k].wh = pw at *
      generalize L[k].n = pn at *
      generalize L[k].tx = pt at *
      rw [← hS.mid.bel.cell (p := ⟨g, _, none⟩) hg] at p0 p1 p2
      have k0 : (0 : Int) ≤ (k : Int) := by omega
      have k1 : (k : Int) < (L.length : Int) := by omega
      have k2 : (k : Int) < 4000 := by omega
      clear hTok hok hcs hc
      go_upto_region 9 with (go_at_call 31; (with_reducible refine hT.mono ?_); rintro e w1 ⟨⟨kk, nn, xx, l, is, rfl, hPc⟩, hb1⟩)
      have hM1 : Mid w B T u5 u6 (behL 1 1 B).1 (behL 1 1 B).2 (w1.alloc (.cells #[.int .i64 kk, .int .i32 nn, .string (bs xx), .int .i64 0, .int .i64 0] 36)) := (hS.mid.keep hb1).alloc _
      have hT1 : (w1.alloc (.cells #[.int .i64 kk, .int .i32 nn, .string (bs xx), .int .i64 0, .int .i64 0] 36)).heap[w1.heap.size]? = some (.cells #[.int .i64 kk, .int .i32 nn, .string (bs xx), .int .i64 0, .int .i64 0] 36 (0, 0)) := heap_alloc_new w1 _
      have htb : wr.heap.size ≤ w1.heap.size := hb1.size
      have hb5 : ∀ g, u5.ownBlock = some g → g < w1.heap.size := fun g hg => Nat.lt_of_lt_of_le (hS.mid.rows g (.inl hg)).2 htb
      have hb6 : ∀ g, u6.ownBlock = some g → g < w1.heap.size := fun g hg => Nat.lt_of_lt_of_le (hS.mid.rows g (.inr hg)).2 htb
      have hwz := hS.mid.bel.size
      have hp1 := hS.mid.pos.1
      have hbd := behL_bd B 1 1 (by omega) (by omega)
      have hBl := hS.len
      have hLl := hS.lal
      have hTl := hS.cnt
      obtain ⟨i5, h5, h5z, h5s, h5b⟩ := info_parts info5
      obtain ⟨i36, h36, h36z, h36s, h36b⟩ := info_parts info36
      generalize w1.alloc (.cells #[.int .i64 kk, .int .i32 nn, .string (bs xx), .int .i64 0, .int .i64 0] 36) = W1 at hM1 hT1 ⊢
      generalize w1.heap.size = tb at hT1 htb hb5 hb6 ⊢
      have HS := hid_of hS
      have HP := hid_of hPc
      clear hS hPc hb1 hT p0 p1 p2
      have hll := HP.out.2.2.2
      obtain ⟨ab, cb, hu5⟩ : ∃ a c, u5 = .slice a B.length c := by
        rcases hM1.brow.2 with ⟨h, h0⟩ | ⟨g', c', _, h, _⟩
        · exact ⟨none, 0, by rw [h, h0]⟩
        · exact ⟨_, _, h⟩
      subst hu5
      have hw64a : IntKind.i64.wrap ((B.length : Int) + (l.length : Int)) = (B.length : Int) + (l.length : Int) := by rw [IntKind.wrap_i64]; omega
      have hw64b : IntKind.i64.wrap ((B.length : Int) + (l.length : Int) + 1) = (B.length : Int) + (l.length : Int) + 1 := by rw [IntKind.wrap_i64]; omega
      have hsl := bs_sz l
      have hbl : Hid ((bs l).data.toList = l) := by show _ = _; unfold bs; simp
      have hBe : ∀ ln cl W, 0 ≤ ln ∧ ln ≤ 1000000000 → 0 ≤ cl ∧ cl ≤ 1000000000 → l.length ≤ 65000 → Calls Tryd.prog 33 #[.agg #[.int .i64 ln, .int .i64 cl], .string (bs l)] W fun e w' => e = .returned (.agg #[.int .i64 (behL ln cl l).1, .int .i64 (behL ln cl l).2]) ∧ Below W.heap.size W w' := fun ln cl W h1 h2 h3 => by
        have := behind_any ln cl (bs l) W (by omega) h1 h2
        rwa [hbl.out] at this
      by_cases hlong : (65000 : Int) < (B.length : Int) + (l.length : Int) + 1
      · have hFin := hM1.fin
        obtain ⟨f1, f2, f3, f4, f5⟩ := hFin
        obtain ⟨a0, A1, a2⟩ := id hM1.pos
        obtain ⟨r0, R1, r2⟩ := id hM1.res
        obtain ⟨x0, X1, x2⟩ := f3
        have hW : WrPost w (.returned (.tuple #[.string (bs B), u6, .agg #[.int .i64 (behL 1 1 B).1, .int .i64 (behL 1 1 B).2]])) ((W1.setCell ⟨w.heap.size, 0, none⟩ (.int .i64 (behL 1 1 B).1)).setCell ⟨w.heap.size, 1, none⟩ (.int .i64 (behL 1 1 B).2)).drew := ⟨B, T, la, _, rfl, HS.out.wrt, HS.out.len, Nat.le_trans HS.out.cnt (by omega), f4, f5⟩
        have HW := hid_of hW
        clear hW f4 f5
        go_wp2
        go_region_with (fail)
        all_goals
          go_wp2
          exact bodyPost_ret (v := .tuple #[.string (bs B), u6, .agg #[.int .i64 (behL 1 1 B).1, .int .i64 (behL 1 1 B).2]]) (by simp [results, Tryd.results16, go_sem, X1]) rfl HW.out
      · have hMe := fun W => meld_any la l W (by omega) (by omega)
        have hBe1 := fun W => hBe (behL 1 1 B).1 (behL 1 1 B).2 W (by omega) (by omega) (by omega)
        have hBe2 := fun W => hBe (behL 1 1 B).1 ((behL 1 1 B).2 + 1) W (by omega) (by omega) (by omega)
        have hq1 : Hid (B.length + (bs l).size ≤ maxLen) := by show _ ≤ _; rw [hsl]; unfold maxLen; omega
        have hq2 : Hid ((B.length + (bs l).size) * 1 ≤ 140737488355328) := by show _ ≤ _; rw [hsl]; omega
        have hr1 : Hid ((B ++ [32]).length + (bs l).size ≤ maxLen) := by show _ ≤ _; rw [hsl, List.length_append]; unfold maxLen; simp; omega
        have hr2 : Hid (((B ++ [32]).length + (bs l).size) * 1 ≤ 140737488355328) := by show _ ≤ _; rw [hsl, List.length_append]; simp; omega
        have hq3 : Hid (B.length + 1 ≤ maxLen) := by show _ ≤ _; unfold maxLen; omega
        have hq4 : Hid ((B.length + 1) * 1 ≤ 140737488355328) := by show _ ≤ _; omega
        have hq5 : Hid (T.length + 1 ≤ maxLen) := by show _ ≤ _; unfold maxLen; omega
        have hq6 : Hid ((T.length + 1) * 48 ≤ 140737488355328) := by show _ ≤ _; omega
        have hMq : ∀ q, Mid w B T (.slice ab B.length cb) u6 (behL 1 1 B).1 (behL 1 1 B).2 (W1.drewN q) := fun q => hM1.keep (below_drewN W1 q)
        have hHq : ∀ q, (W1.drewN q).heap[tb]? = some (.cells #[.int .i64 kk, .int .i32 nn, .string (bs xx), .int .i64 0, .int .i64 0] 36 (0, 0)) := fun q => ((below_drewN W1 q).block tb (Array.getElem?_eq_some_iff.1 hT1).1).trans hT1
        have hTq : ∀ q, Has (W1.drewN q) tb #[.int .i64 kk, .int .i32 nn, .string (bs xx), .int .i64 0, .int .i64 0] := fun q => Has.ofHeap (hHq q)
        have hN2 : w.heap.size + 2 ≤ tb := by omega
        have hne5 : some tb ≠ Value.ownBlock (.slice ab B.length cb) := fun h => by have := hb5 tb h.symm; omega
        have hne5' : Value.ownBlock (.slice ab B.length cb) ≠ some tb := fun h => hne5 h.symm
        have hne6' : Value.ownBlock u6 ≠ some tb := fun h => by have := hb6 tb h; omega
        have hcw : IntKind.i64.wrap ((behL 1 1 B).2 + 1) = (behL 1 1 B).2 + 1 := by rw [IntKind.wrap_i64]; omega
        have hbl2 : Hid (behL 1 1 (B ++ [32]) = ((behL 1 1 B).1, (behL 1 1 B).2 + 1)) := by show _ = _; rw [behL_app]; rfl
        have HM := hid_of hM1
        clear hT1 hM1 hBe htb hp1 hwz hb5 hb6
        cases hm : meldF la l
        · rw [hm] at hMe
          have Hm := hid_of hm
          clear hm
          cases is
          · go_wp2_with (first
              | (go_at_call 32; (with_reducible refine (hMe _).mono ?_); rintro e w9 ⟨rfl, q, hw9⟩; subst hw9; obtain ⟨a0, A1, a2⟩ := id (hMq q).pos; obtain ⟨t0, T1, t2⟩ := id (hTq q))
              | (at_builtin; refine wpList_append_own_str _ rfl _ _ 65 9 rfl (w.heap.size + 2) 5 i5 _ 1 und65 und9 h5 h5z h5s h5b rfl _ _ _ rfl (hMq q).brow (bs l) rfl hq1.out hq2.out (hMq q).pos.1 ?_; intro v4 w4 hown4 hgrow4; have hM4 := (hMq q).growB (X := l) hgrow4 (by rw [byteCells_app, List.length_append, ← hsl]; exact hown4); obtain ⟨c0, C1, c2⟩ := id hM4.pos)
              | (go_at_call 33; (with_reducible refine (hBe1 _).mono ?_); rintro e w5 ⟨rfl, hb55⟩; have hM5 := hM4.keep hb55; obtain ⟨d0, D1, d2⟩ := id hM5.pos))
            go_roundw
            case rel =>
              have hPc := HP.out
              refine ⟨k + 1, B ++ l, T, l, by go_num, by omega, by omega, rfl, ⟨HS.out.wrt.skp (hPc.2.2.1 rfl) hPc.1 Hm.out, by simp; omega, by omega, by first | omega | (simp; omega), ?_⟩⟩
              rw [behL_app]
              exact hM5.place _ _
            case measure => simp [intOf]; omega

          · go_wp2_with (first
              | (go_at_call 32; (with_reducible refine (hMe _).mono ?_); rintro e w9 ⟨rfl, q, hw9⟩; subst hw9; obtain ⟨a0, A1, a2⟩ := id (hMq q).pos; obtain ⟨t0, T1, t2⟩ := id (hTq q))
              | (at_builtin; have hMt := (((hMq q).far (g := tb) (i := 3) hN2 hne5' hne6' (.int .i64 (behL 1 1 B).1)).far (g := tb) (i := 4) hN2 hne5' hne6' (.int .i64 (behL 1 1 B).2)).alloc (.cells #[.int .i64 kk, .int .i32 nn, .string (bs xx), .int .i64 (behL 1 1 B).1, .int .i64 (behL 1 1 B).2] 36); refine wpList_append_own _ rfl _ _ 28 rfl (w.heap.size + 2) 36 i36 _ 5 48 Tryd.underlying28 h36 h36z h36s h36b rfl (by decide) _ _ _ rfl hMt.trow ⟨W1.heap.size, 0, none⟩ 1 1 [.int .i64 kk, .int .i32 nn, .string (bs xx), .int .i64 (behL 1 1 B).1, .int .i64 (behL 1 1 B).2] rfl rfl (cells_five_at (by simp [World.setCell]) _ _ _ _ _ _) (fun u hu => by simp at hu; rcases hu with rfl | rfl | rfl | rfl | rfl <;> rfl) hq5.out hq6.out hMt.pos.1 ?_; intro v3 w3 hown3 hgrow3 hnil3; have hM3 := hMt.growT (X := [⟨⟨kk, nn, xx⟩, (behL 1 1 B).1, (behL 1 1 B).2⟩]) hgrow3 (by rw [cellsOf_snoc, List.length_append]; exact hown3); obtain ⟨s0, S1, s2⟩ := id hM3.pos)
              | (at_builtin; refine wpList_append_own_str _ rfl _ _ 65 9 rfl (w.heap.size + 2) 5 i5 _ 1 und65 und9 h5 h5z h5s h5b rfl _ _ _ rfl hM3.brow (bs l) rfl hq1.out hq2.out hM3.pos.1 ?_; intro v4 w4 hown4 hgrow4; have hM4 := hM3.growB (X := l) hgrow4 (by rw [byteCells_app, List.length_append, ← hsl]; exact hown4); obtain ⟨c0, C1, c2⟩ := id hM4.pos)
              | (go_at_call 33; (with_reducible refine (hBe1 _).mono ?_); rintro e w5 ⟨rfl, hb55⟩; have hM5 := hM4.keep hb55; obtain ⟨d0, D1, d2⟩ := id hM5.pos))
            go_roundw
            case rel =>
              have hPc := HP.out
              refine ⟨k + 1, B ++ l, T ++ [⟨⟨kk, nn, xx⟩, (behL 1 1 B).1, (behL 1 1 B).2⟩], l, by go_num, by omega, by omega, rfl, ⟨HS.out.wrt.tok (hPc.2.1 rfl).1 (hPc.2.1 rfl).2.1 (hPc.2.1 rfl).2.2 Hm.out, by simp; omega, by omega, by first | omega | (simp; omega), ?_⟩⟩
              rw [behL_app]
              exact hM5.place _ _
            case measure => simp [intOf]; omega

        · rw [hm] at hMe
          clear hm
          cases is
          · go_wp2_with (first
              | (go_at_call 32; (with_reducible refine (hMe _).mono ?_); rintro e w9 ⟨rfl, q, hw9⟩; subst hw9; obtain ⟨a0, A1, a2⟩ := id (hMq q).pos; obtain ⟨t0, T1, t2⟩ := id (hTq q))
              | (at_builtin; refine wpList_append_own _ rfl _ _ 65 rfl (w.heap.size + 2) 5 i5 _ 1 1 und65 h5 h5z h5s h5b rfl (by decide) _ _ _ rfl ((hMq q).alloc _).brow ⟨W1.heap.size, 0, none⟩ 1 1 [.int .u8 32] rfl rfl (cells_one (by simp) _ _) one_blank hq3.out hq4.out ((hMq q).alloc _).pos.1 ?_; intro v2 w2 hown2 hgrow2 hnil2; have hM2 := ((hMq q).alloc _).growB (X := [32]) hgrow2 (by rw [byteCells_app, List.length_append, byteCells_blank]; exact hown2); have hT2 := keep_t (hHq q) hgrow2 (hne5); obtain ⟨a0', A1', a2'⟩ := id hM2.pos; obtain ⟨t0', T1', t2'⟩ := id (Has.ofHeap hT2))
              | (at_builtin; refine wpList_append_own_str _ rfl _ _ 65 9 rfl (w.heap.size + 2) 5 i5 _ 1 und65 und9 h5 h5z h5s h5b rfl _ _ _ rfl (hM2.col ((behL 1 1 B).2 + 1)).brow (bs l) rfl hr1.out hr2.out (hM2.col ((behL 1 1 B).2 + 1)).pos.1 ?_; intro v4 w4 hown4 hgrow4; have hM4 := (hM2.col ((behL 1 1 B).2 + 1)).growB (X := l) hgrow4 (by rw [byteCells_app, List.length_append, ← hsl]; exact hown4); obtain ⟨c0, C1, c2⟩ := id hM4.pos)
              | (go_at_call 33; (with_reducible refine (hBe2 _).mono ?_); rintro e w5 ⟨rfl, hb55⟩; have hM5 := hM4.keep hb55; obtain ⟨d0, D1, d2⟩ := id hM5.pos))
            go_roundw
            case rel =>
              have hPc := HP.out
              refine ⟨k + 1, (B ++ [32]) ++ l, T, l, by go_num, by omega, by omega, rfl, ⟨(HS.out.wrt.skp skp_one (by simp) (meld_blank la)).skp (hPc.2.2.1 rfl) hPc.1 (blank_meld hPc.1), by simp; omega, by omega, by first | omega | (simp; omega), ?_⟩⟩
              rw [behL_app (B ++ [32]) l, hbl2.out]
              exact hM5.place _ _
            case measure => simp [intOf]; omega

          · go_wp2_with (first
              | (go_at_call 32; (with_reducible refine (hMe _).mono ?_); rintro e w9 ⟨rfl, q, hw9⟩; subst hw9; obtain ⟨a0, A1, a2⟩ := id (hMq q).pos; obtain ⟨t0, T1, t2⟩ := id (hTq q))
              | (at_builtin; refine wpList_append_own _ rfl _ _ 65 rfl (w.heap.size + 2) 5 i5 _ 1 1 und65 h5 h5z h5s h5b rfl (by decide) _ _ _ rfl ((hMq q).alloc _).brow ⟨W1.heap.size, 0, none⟩ 1 1 [.int .u8 32] rfl rfl (cells_one (by simp) _ _) one_blank hq3.out hq4.out ((hMq q).alloc _).pos.1 ?_; intro v2 w2 hown2 hgrow2 hnil2; have hM2 := ((hMq q).alloc _).growB (X := [32]) hgrow2 (by rw [byteCells_app, List.length_append, byteCells_blank]; exact hown2); have hT2 := keep_t (hHq q) hgrow2 (hne5); obtain ⟨a0', A1', a2'⟩ := id hM2.pos; obtain ⟨t0', T1', t2'⟩ := id (Has.ofHeap hT2))
              | (at_builtin; have hMt := (((hM2.col ((behL 1 1 B).2 + 1)).far (g := tb) (i := 3) hN2 (own_block hM2.brow hT2 (by decide)) hne6' (.int .i64 (behL 1 1 B).1)).far (g := tb) (i := 4) hN2 (own_block hM2.brow hT2 (by decide)) hne6' (.int .i64 ((behL 1 1 B).2 + 1))).alloc (.cells #[.int .i64 kk, .int .i32 nn, .string (bs xx), .int .i64 (behL 1 1 B).1, .int .i64 ((behL 1 1 B).2 + 1)] 36); refine wpList_append_own _ rfl _ _ 28 rfl (w.heap.size + 2) 36 i36 _ 5 48 Tryd.underlying28 h36 h36z h36s h36b rfl (by decide) _ _ _ rfl hMt.trow ⟨w2.heap.size, 0, none⟩ 1 1 [.int .i64 kk, .int .i32 nn, .string (bs xx), .int .i64 (behL 1 1 B).1, .int .i64 ((behL 1 1 B).2 + 1)] rfl rfl (cells_five_at (by simp [World.setCell]) _ _ _ _ _ _) (fun u hu => by simp at hu; rcases hu with rfl | rfl | rfl | rfl | rfl <;> rfl) hq5.out hq6.out hMt.pos.1 ?_; intro v3 w3 hown3 hgrow3 hnil3; have hM3 := hMt.growT (X := [⟨⟨kk, nn, xx⟩, (behL 1 1 B).1, ((behL 1 1 B).2 + 1)⟩]) hgrow3 (by rw [cellsOf_snoc, List.length_append]; exact hown3); obtain ⟨s0, S1, s2⟩ := id hM3.pos)
              | (at_builtin; refine wpList_append_own_str _ rfl _ _ 65 9 rfl (w.heap.size + 2) 5 i5 _ 1 und65 und9 h5 h5z h5s h5b rfl _ _ _ rfl hM3.brow (bs l) rfl hr1.out hr2.out hM3.pos.1 ?_; intro v4 w4 hown4 hgrow4; have hM4 := hM3.growB (X := l) hgrow4 (by rw [byteCells_app, List.length_append, ← hsl]; exact hown4); obtain ⟨c0, C1, c2⟩ := id hM4.pos)
              | (go_at_call 33; (with_reducible refine (hBe2 _).mono ?_); rintro e w5 ⟨rfl, hb55⟩; have hM5 := hM4.keep hb55; obtain ⟨d0, D1, d2⟩ := id hM5.pos))
            go_roundw
            case rel =>
              have hPc := HP.out
              refine ⟨k + 1, (B ++ [32]) ++ l, T ++ [⟨⟨kk, nn, xx⟩, (behL 1 1 (B ++ [32])).1, (behL 1 1 (B ++ [32])).2⟩], l, by go_num, by omega, by omega, rfl, ⟨(HS.out.wrt.skp skp_one (by simp) (meld_blank la)).tok (hPc.2.1 rfl).1 (hPc.2.1 rfl).2.1 (hPc.2.1 rfl).2.2 (blank_meld hPc.1), by simp; omega, by omega, by first | omega | (simp; omega), ?_⟩⟩
              rw [behL_app (B ++ [32]) l, hbl2.out]
              exact hM5.place _ _
            case measure => simp [intOf]; omega

    · have hngo : ¬ ((k : Int) < (L.length : Int)) ∨ ((k : Int) < (L.length : Int) ∧ ¬ ((k : Int) < 4000)) := by omega
      rcases hngo with k1 | ⟨k1, k2⟩
      all_goals
        have hFin := hS.mid.fin
        obtain ⟨f1, f2, f3, f4, f5⟩ := hFin
        obtain ⟨a0, A1, a2⟩ := id hS.mid.pos
        obtain ⟨r0, R1, r2⟩ := id hS.mid.res
        obtain ⟨x0, X1, x2⟩ := f3
        have hW : WrPost w (.returned (.tuple #[.string (bs B), u6, .agg #[.int .i64 (behL 1 1 B).1, .int .i64 (behL 1 1 B).2]])) ((wr.setCell ⟨w.heap.size, 0, none⟩ (.int .i64 (behL 1 1 B).1)).setCell ⟨w.heap.size, 1, none⟩ (.int .i64 (behL 1 1 B).2)).drew := ⟨B, T, la, _, rfl, hS.wrt, hS.len, Nat.le_trans hS.cnt (by omega), f4, f5⟩
        have HW := hid_of hW
        clear hW f4 f5
        go_wp2
        go_region_with (fail)
        all_goals
          go_wp2
          exact bodyPost_ret (v := .tuple #[.string (bs B), u6, .agg #[.int .i64 (behL 1 1 B).1, .int .i64 (behL 1 1 B).2]]) (by simp [results, Tryd.results16, go_sem, X1]) rfl HW.out
end Go.Proofs.YtjohnhaahpggkaaDoor
namespace Go.Proofs.YtjohnhaahpggkaaDoor
open Go.RowKit
set_option linter.unusedVariables false
set_option linter.unusedSimpArgs false

theorem wpList_wanted {P : Program} {ops : Array Oper} {Q : Exit → Act → World → Prop} {rest : List Oper} {o : Oper} {a : Act} {w : World} (h : Region.wanted o (yielded ops a.tmps) = true) (hw : o.wp P a w (wpList P ops Q rest) Q) : wpList P ops Q (o :: rest) a w := by
  unfold wpList
  rw [if_pos h]
  exact .inl hw
/-- What Scan answers to what was written. -/
theorem scan_written {B la : List UInt8} {T : List Tok} (hW : Wrt B T la) (hB : B.length ≤ 65000) (hT : T.length ≤ 4000) (U : World) (hw : Wt U) :
    Calls Tryd.prog 17 #[.string (bs B)] U fun e w' => (∃ v, e = .returned (.tuple #[v, .agg #[.int .i64 0, .int .i64 0, .int .i64 0]]) ∧ w'.ownsRow U.heap.size 36 5 v (T.length + 1) (cellsOf (T ++ [⟨⟨0, 0, []⟩, (behL 1 1 B).1, (behL 1 1 B).2⟩]))) ∧ Below U.heap.size U w' := by
  refine (scan_ans (bs B) T ⟨⟨0, 0, []⟩, (behL 1 1 B).1, (behL 1 1 B).2⟩ U (.inl ⟨by rw [bs_sz]; omega, hW.all⟩) hw (by omega)).mono ?_
  rintro e w' ⟨v, f, rfl, h, hb⟩
  rcases h with ⟨h, _⟩ | ⟨_, h, rfl⟩
  · simp at h
  · exact ⟨⟨v, rfl, h⟩, hb⟩

theorem alike_end {w2 w3 : World} {o1 o2 : Obj} {T : List Tok} {z : Tok} {tv gv v3 : Value} {b c : Nat} (hlt : ∀ g, tv.ownBlock = some g → g < b) (hgr : w2.ownsRow b 36 5 gv (T.length + 1) (cellsOf (T ++ [z]))) (hg3 : ((w2.alloc o1).alloc o2).grownBy w3 tv.ownBlock) (hown3 : w3.ownsRow c 36 5 v3 (T.length + 1) (cellsOf T ++ z.cs)) (hT : T.length ≤ 4000) :
    Calls Tryd.prog 18 #[gv, v3] w3 fun e w' => e = .returned (.bool true) ∧ ∃ n, w' = w3.drewN n := by
  have hl : (T ++ [z]).length = T.length + 1 := by simp
  have hgr3 := ((hgr.alloc o1).alloc o2).kept hg3 (by
    cases hgv : gv.ownBlock with
    | none => exact .inl rfl
    | some g => exact .inr (fun e => by have := (hgr.lt g hgv).1; have := hlt g e.symm; omega))
  rw [← cellsOf_snoc] at hown3
  exact alike_same (T ++ [z]) gv v3 w3 (toks_own (by rw [hl]; exact hgr3)) (toks_own (by rw [hl]; exact hown3)) (by omega)

set_option maxRecDepth 100000 in
set_option maxHeartbeats 4000000 in
theorem pieces_law (v : Value) (W : World) (hWr : Calls Tryd.prog 16 #[v] W (WrPost W)) (hT : Wt W) :
    Calls Tryd.prog 5 #[v] W fun e w' => e = .returned (.bool true) ∧ Below W.heap.size W w' := by
  obtain ⟨i36, h36, h36z, h36s, h36b⟩ := info_parts info36
  have hWt : ∀ U, Below W.heap.size W U → Wt U := fun U hb => hT.below hb hT.1
  go_enter Tryd.func5, Tryd.ntmps5
  go_wp2_with (first
    | (go_at_call 16; (with_reducible refine hWr.mono ?_); rintro e w1 ⟨B, T, la, tv, rfl, hWt1, hBl, hTl, hrow, hb1⟩; have hSc := scan_written hWt1 hBl hTl; have hb1z := hb1.size; have hq5 : Hid (T.length + 1 ≤ maxLen) := (by show _ ≤ _; unfold maxLen; omega); have hq6 : Hid ((T.length + 1) * 48 ≤ 140737488355328) := (by show _ ≤ _; omega); have HT := hid_of hTl; generalize hLN : (behL 1 1 B).1 = LN at *; generalize hCL : (behL 1 1 B).2 = CL at *; have hP1 := Has.new w1 #[.int .i64 LN, .int .i64 CL] 34 rfl; have hb1' := hb1.alloc hb1z (.cells #[.int .i64 LN, .int .i64 CL] 34))
    | (go_at_call 17; (with_reducible refine (hSc _ (hWt _ hb1')).mono ?_); rintro e w2 ⟨⟨gv, rfl, hgr⟩, hb2⟩; have hP2 := hP1.below hb2; obtain ⟨p0, P1, p2⟩ := id hP2; have hrow2 := own_keep (hrow.alloc (.cells #[.int .i64 LN, .int .i64 CL] 34)) (fun g hg => hb2.block g (by have := (hrow.lt g hg).2; simp; omega)); have hb2z := hb2.size; have hbz : Hid (W.heap.size ≤ ((w2.alloc (.cells #[.int .i64 0, .int .i64 0, .int .i64 0] 42)).alloc (.cells #[.int .i64 0, .int .i32 0, .string ⟨#[]⟩, .int .i64 LN, .int .i64 CL] 36)).heap.size) := (by show _ ≤ _; simp at hb2z ⊢; omega); have hlt : Hid (∀ g, tv.ownBlock = some g → g < (w1.alloc (.cells #[.int .i64 LN, .int .i64 CL] 34)).heap.size) := (fun g hg => by have := (hrow.lt g hg).2; simp; omega); have hF2 := Has.new w2 #[.int .i64 0, .int .i64 0, .int .i64 0] 42 rfl)
    | (at_builtin; refine wpList_wanted rfl (wp_append_own _ _ _ 28 rfl W.heap.size 36 i36 _ 5 48 Tryd.underlying28 h36 h36z h36s h36b rfl (by decide) _ _ _ rfl ((hrow2.alloc (.cells #[.int .i64 0, .int .i64 0, .int .i64 0] 42)).alloc _) ⟨w2.heap.size + 1, 0, none⟩ 1 1 [.int .i64 0, .int .i32 0, .string ⟨#[]⟩, .int .i64 LN, .int .i64 CL] rfl rfl (cells_five_at (by simp) _ _ _ _ _ _) (fun u hu => by simp at hu; rcases hu with rfl | rfl | rfl | rfl | rfl <;> rfl) hq5.out hq6.out hbz.out ?_); intro v3 w3 hown3 hgrow3 hnil3; have hEq := alike_end (z := ⟨⟨0, 0, []⟩, LN, CL⟩) hlt.out hgr hgrow3 hown3 HT.out; have hB3 := ((hb1'.trans (hb2.mono (hb1'.size))).alloc (by have := hb1'.size; omega) _).alloc (by have := hb1'.size; simp; omega) _ |>.grown hgrow3 hbz.out (fun g hg => (hrow.lt g hg).1))
    | (go_at_call 18; (with_reducible refine hEq.mono ?_); rintro e w4 ⟨rfl, n4, hw4⟩))
  exact bodyPost_ret (v := .bool true) (by simp [results, Tryd.results5, go_sem]) rfl ⟨rfl, bel_drewN hB3⟩
end Go.Proofs.YtjohnhaahpggkaaDoor
