import Derived.Test.YtjohnhaahpggkabDoorStrD
import Derived.Test.YtjohnhaahpggkabDoorStrL
import Derived.Maps.AppendAt
import Derived.Shelf.RegionOpen
namespace Go.Proofs.YtjohnhaahpggkabDoor
open Go.RowKit Go.Shelf
set_option linter.unusedVariables false

attribute [local go_sem] Oper.semAt_some

set_option maxRecDepth 100000 in
set_option maxHeartbeats 1000000 in
theorem each_any (s : ByteArray) (w : World) :
    Calls Tryd.prog 20 #[.string s] w fun e w' => e = .returned (.func (.func 29) #[] #[.pointer (some ⟨w.heap.size, 0, none⟩)]) ∧ w' = w.alloc (.cells #[.string s] 9) := by
  go_enter Tryd.func20, Tryd.ntmps20
  go_wp2
  go_ret
  exact ⟨rfl, rfl⟩

/-- Between two rounds of Scan: its list, its results' cells. w0: where the call began. -/
structure ScV (w0 : World) (B : Nat) (pre : List Tok) (v : Value) (W : World) : Prop where
  list : Has W (w0.heap.size + 1 + 1) #[v]
  row : W.ownsRow (B + 6) 27 5 v pre.length (cellsOf pre)
  r1 : Has W w0.heap.size #[.slice none 0 0]
  r2 : Has W (w0.heap.size + 1) #[.int .i64 0, .int .i64 0, .int .i64 0]
  bel : Below w0.heap.size w0 W
  good : ∀ x ∈ pre, x.t.kind ≠ -1
def ScI (w0 : World) (B : Nat) (pre : List Tok) (W : World) : Prop := ∃ v, ScV w0 B pre v W
theorem ScV.only {w0 : World} {B : Nat} {pre : List Tok} {v : Value} {A C : World} {S : Nat → Prop} (h : ScV w0 B pre v A) (ho : Only S A C) (hB : w0.heap.size + 4 ≤ B) (h1 : ∀ k, k < B → ¬ S k) (h2 : ∀ k, B + 6 ≤ k → ¬ S k) : ScV w0 B pre v C :=
  ⟨h.list.only ho (h1 _ (by omega)), own_only h.row ho h2, h.r1.only ho (h1 _ (by omega)), h.r2.only ho (h1 _ (by omega)), h.bel.trans ⟨ho.os, ho.tape, ho.output, ho.size, fun k hk => ho.block k (by have := h.bel.size; omega) (h1 _ (by omega))⟩, h.good⟩
/-- Where a round has left Scan. -/
def ScX (w0 : World) (c : Code) (pre : List Tok) (W : World) : Prop :=
  c = .ret ∧ ∃ pre' x, pre = pre' ++ [x] ∧ x.t.kind = -1 ∧ Has W w0.heap.size #[.slice none 0 0] ∧ Has W (w0.heap.size + 1) #[.int .i64 (IntKind.i64.wrap x.t.num), .int .i64 x.line, .int .i64 x.col] ∧ Below w0.heap.size w0 W

/-- What Scan answers. -/
def ScanPost (base : Nat) (ts : List Tok) (z : Tok) (v : Value) (f : Array Value) (w' : World) : Prop :=
  (z.t.kind = -1 ∧ v = .slice none 0 0 ∧ f = #[.int .i64 (IntKind.i64.wrap z.t.num), .int .i64 z.line, .int .i64 z.col]) ∨
  (z.t.kind ≠ -1 ∧ w'.ownsRow base 27 5 v (ts.length + 1) (cellsOf (ts ++ [z])) ∧ f = #[.int .i64 0, .int .i64 0, .int .i64 0])

set_option maxRecDepth 100000 in
set_option maxHeartbeats 4000000 in
theorem scan_in (s : ByteArray) (ts : List Tok) (z : Tok) (w0 : World) (hWh : Whole s ts z) (hW : Wt w0) (hlen : ts.length ≤ 65536) :
    CallsIn Fence.wide 3 Tryd.prog 7 #[.string s] w0 fun e w' => ∃ v f, e = .returned (.tuple #[v, .agg f]) ∧ ScanPost w0.heap.size ts z v f w' ∧ Below w0.heap.size w0 w' := by
  have hEa := fun w => each_any s w
  refine callsIn_of_wp_marks Tryd.func7 rfl trivial ?_ rfl
  simp only [Tryd.ntmps7, List.size_toArray, List.length_cons, List.length_nil, Nat.reduceAdd, Nat.reduceSub, Array.replicate_succ, Array.replicate_zero, List.push_toArray, List.append_toArray, List.nil_append, List.cons_append]
  gi_wp2_with (refine ⟨trivial, ?_⟩; gi_at_call 20; refine (callsIn_wide.2 (hEa _)).mono ?_; rintro e w1 ⟨rfl, rfl⟩)
  have hR1 : Has ((((w0.alloc (.cells #[.slice none 0 0] 23)).alloc (.cells #[.int .i64 0, .int .i64 0, .int .i64 0] 36)).alloc (.cells #[.slice none 0 0] 23)).alloc (.cells #[.string s] 9)) w0.heap.size #[.slice none 0 0] := (((Has.new _ _ _ rfl).alloc _).alloc _).alloc _
  have hR2 : Has ((((w0.alloc (.cells #[.slice none 0 0] 23)).alloc (.cells #[.int .i64 0, .int .i64 0, .int .i64 0] 36)).alloc (.cells #[.slice none 0 0] 23)).alloc (.cells #[.string s] 9)) (w0.heap.size + 1) #[.int .i64 0, .int .i64 0, .int .i64 0] := ((Has.new _ _ _ (by simp)).alloc _).alloc _
  have hR3 : Has ((((w0.alloc (.cells #[.slice none 0 0] 23)).alloc (.cells #[.int .i64 0, .int .i64 0, .int .i64 0] 36)).alloc (.cells #[.slice none 0 0] 23)).alloc (.cells #[.string s] 9)) (w0.heap.size + 1 + 1) #[.slice none 0 0] := (Has.new _ _ _ (by simp)).alloc _
  have hR4 : Has ((((w0.alloc (.cells #[.slice none 0 0] 23)).alloc (.cells #[.int .i64 0, .int .i64 0, .int .i64 0] 36)).alloc (.cells #[.slice none 0 0] 23)).alloc (.cells #[.string s] 9)) (w0.heap.size + 1 + 1 + 1) #[.string s] := Has.new _ _ _ (by simp)
  have hbl : Below w0.heap.size w0 ((((w0.alloc (.cells #[.slice none 0 0] 23)).alloc (.cells #[.int .i64 0, .int .i64 0, .int .i64 0] 36)).alloc (.cells #[.slice none 0 0] 23)).alloc (.cells #[.string s] 9)) := ((((Below.refl _ _).alloc (Nat.le_refl _) _).alloc (by simp) _).alloc (by simp; omega) _).alloc (by simp; omega) _
  have hsz : ((((w0.alloc (.cells #[.slice none 0 0] 23)).alloc (.cells #[.int .i64 0, .int .i64 0, .int .i64 0] 36)).alloc (.cells #[.slice none 0 0] 23)).alloc (.cells #[.string s] 9)).heap.size = w0.heap.size + 4 := by simp
  generalize ((((w0.alloc (.cells #[.slice none 0 0] 23)).alloc (.cells #[.int .i64 0, .int .i64 0, .int .i64 0] 36)).alloc (.cells #[.slice none 0 0] 23)).alloc (.cells #[.string s] 9)) = V at hR1 hR2 hR3 hR4 hbl hsz ⊢
  have hvz : w0.heap.size + 4 ≤ V.heap.size := by omega
  clear hsz
  refine range_tokens (s := s) (ts := ts) (z := z) (sb := w0.heap.size + 1 + 1 + 1) hWh (hW.below hbl hW.1) hR4 rfl rfl (ScI w0 V.heap.size) (ScX w0)
    (fun pre x lo a₁ W => ∃ v b, ScV w0 V.heap.size pre v W ∧ (∀ g, v.ownBlock = some g → g < lo) ∧ lo ≤ b ∧ Has W b #[.int .i64 x.t.kind, .int .i32 x.t.num, .string (bs x.t.text), .int .i64 x.line, .int .i64 x.col] ∧ a₁ = { tmps := #[.string s, undef, .pointer (some ⟨w0.heap.size, 0, none⟩), .pointer (some ⟨w0.heap.size + 1, 0, none⟩), .pointer (some ⟨w0.heap.size + 1 + 1, 0, none⟩), .pointer (some ⟨b, 0, none⟩), .string s, .func (.func 29) #[] #[.pointer (some ⟨w0.heap.size + 1 + 1 + 1, 0, none⟩)], x.v, undef, undef, undef, undef, undef, undef, undef, undef, undef, undef, undef, undef, undef, undef, undef], defers := [] })
    ?hI ?hIx ?hAx ?h0 ?assign ?body ?done ?stop
  case hI =>
    rintro pre A B ⟨v, h⟩ ho
    exact ⟨v, h.only ho (by omega) (fun k hk => by unfold Rng; omega) (fun k hk => by unfold Rng; omega)⟩
  case hIx =>
    rintro c pre A B ⟨hc, pre', x, h1, h2, h3, h4, h5⟩ ho
    have r0 : ¬ Rng V.heap.size w0.heap.size := by unfold Rng; omega
    have r1 : ¬ Rng V.heap.size (w0.heap.size + 1) := by unfold Rng; omega
    have hB : Below w0.heap.size A B := ⟨ho.os, ho.tape, ho.output, ho.size, fun k hk => ho.block k (by have := h5.size; omega) (by unfold Rng; omega)⟩
    exact ⟨hc, pre', x, h1, h2, h3.only ho r0, h4.only ho r1, h5.trans hB⟩
  case hAx =>
    rintro pre x lo a₁ A B ⟨v, b, h1, h2, h3, h4, h5⟩ hlo ho
    exact ⟨v, b, h1.only ho (by omega) (fun k hk => by omega) (fun k hk => by omega), h2, h3, h4.only ho (by omega), h5⟩
  case h0 => exact ⟨_, hR3, World.ownsRow_nil _ _ _ _, hR1, hR2, hbl, fun x hx => by simp at hx⟩
  case assign =>
    rintro l pre ⟨⟨kk, nn, xx⟩, ln, cl⟩ W W' K ⟨v, hv⟩ hb hlo hp hK
    have ev : Tok.v ⟨⟨kk, nn, xx⟩, ln, cl⟩ = .agg #[.int .i64 kk, .int .i32 nn, .string (bs xx), .int .i64 ln, .int .i64 cl] := rfl
    rw [ev]
    gi_wp2
    refine hK _ _ ⟨v, W'.heap.size, hv.only ((Only.of_below (S := fun _ => False) hb).alloc _) (by omega) (fun _ _ h => h) (fun _ _ h => h), ?_, hb.size, Has.new _ _ _ rfl, rfl⟩ ((Below.refl _ _).alloc (Nat.le_refl _) _)
    intro g hg
    rcases hv.row.2 with ⟨h0, _⟩ | ⟨g', cap, cur, h1, h2, h3, h4⟩
    · rw [h0] at hg; cases hg
    · rw [h1] at hg; cases hg; exact (Array.getElem?_eq_some_iff.1 h3).1
  case body =>
    rintro l pre ⟨⟨kk, nn, xx⟩, ln, cl⟩ lo a₁ W ⟨v, b, hS, hvl, hlb, hb, rfl⟩ hp hlo hlg
    obtain ⟨b0, B1, b2⟩ := id hb
    obtain ⟨l0, L1, l2⟩ := id hS.list
    obtain ⟨p0, P1, p2⟩ := id hS.r1
    obtain ⟨q0, Q1, q2⟩ := id hS.r2
    have hbs := hS.bel.size
    by_cases hkk : kk = -1
    · subst hkk
      have hw0 := hW.1
      have hO := ((((Only.refl (fun k => k = w0.heap.size ∨ k = w0.heap.size + 1) W).set (b := w0.heap.size) (i := 0) (.inl rfl) (.slice none 0 0)).set (b := w0.heap.size + 1) (i := 0) (.inr rfl) (.int .i64 (IntKind.i64.wrap nn))).set (b := w0.heap.size + 1) (i := 1) (.inr rfl) (.int .i64 ln)).set (b := w0.heap.size + 1) (i := 2) (.inr rfl) (.int .i64 cl)
      have h1 := (((hS.r1.set 0 (by simp) (.slice none 0 0)).far (c := w0.heap.size + 1) (i := 0) (by omega) (.int .i64 (IntKind.i64.wrap nn))).far (c := w0.heap.size + 1) (i := 1) (by omega) (.int .i64 ln)).far (c := w0.heap.size + 1) (i := 2) (by omega) (.int .i64 cl)
      have h2 := (((hS.r2.far (c := w0.heap.size) (i := 0) (by omega) (.slice none 0 0)).set 0 (by simp) (.int .i64 (IntKind.i64.wrap nn))).set 1 (by simp) (.int .i64 ln)).set 2 (by simp) (.int .i64 cl)
      have h3 := (((hS.bel.setCell (p := ⟨w0.heap.size, 0, none⟩) (Nat.le_refl _) (.slice none 0 0)).setCell (p := ⟨w0.heap.size + 1, 0, none⟩) (by simp) (.int .i64 (IntKind.i64.wrap nn))).setCell (p := ⟨w0.heap.size + 1, 1, none⟩) (by simp) (.int .i64 ln)).setCell (p := ⟨w0.heap.size + 1, 2, none⟩) (by simp) (.int .i64 cl)
      have HF : Hid (endPost (ScI w0 V.heap.size) (ScX w0) V.heap.size (w0.heap.size + 1 + 1 + 1) lo (pre ++ [⟨⟨-1, nn, xx⟩, ln, cl⟩]) W .ret { tmps := #[], defers := [] } (((((W.setCell ⟨w0.heap.size, 0, none⟩ (.slice none 0 0)).setCell ⟨w0.heap.size + 1, 0, none⟩ (.int .i64 (IntKind.i64.wrap nn))).setCell ⟨w0.heap.size + 1, 1, none⟩ (.int .i64 ln)).setCell ⟨w0.heap.size + 1, 2, none⟩ (.int .i64 cl)).drew)) :=
        ⟨⟨hO.size, fun k hk hlt => hO.drew.block k hlt (by
          rcases hk with h | h | h | h
          · omega
          · omega
          · unfold Rng at h; omega
          · omega)⟩, rfl, pre, _, rfl, rfl, h1, h2, h3.drew⟩
      clear hO h1 h2 h3
      gi_wp2
      gi_region_with (fail)
      all_goals
        gi_wp2
        exact HF.out
    · obtain ⟨i0, hi, hz0, hz1, hz2⟩ := info_parts info27
      have hx := hvz
      have hlo6 : V.heap.size + 6 ≤ lo := hlg (by intro h; exact hkk (by have := congrArg (fun y : Tok => y.t.kind) h; exact this))
      have hplen : pre.length ≤ 65536 := by
        have := hp.length_le
        simp at this; omega
      have hbz := hb.1
      have hfin : ∀ v' w1, w1.ownsRow (V.heap.size + 6) 27 5 v' (pre.length + 1) (cellsOf pre ++ [.int .i64 kk, .int .i32 nn, .string (bs xx), .int .i64 ln, .int .i64 cl]) → (W.alloc (.cells #[.int .i64 kk, .int .i32 nn, .string (bs xx), .int .i64 ln, .int .i64 cl] 27)).grownBy w1 v.ownBlock →
          Has w1 (w0.heap.size + 1 + 1) #[v] ∧ endPost (ScI w0 V.heap.size) (ScX w0) V.heap.size (w0.heap.size + 1 + 1 + 1) lo (pre ++ [⟨⟨kk, nn, xx⟩, ln, cl⟩]) W .normal { tmps := #[], defers := [] } (w1.setCell ⟨w0.heap.size + 1 + 1, 0, none⟩ v') := by
        intro v' w1 hown hgr
        have hgb : ∀ k, v.ownBlock = some k → V.heap.size + 6 ≤ k ∧ k < lo := by
          intro g hg
          refine ⟨?_, hvl g hg⟩
          rcases hS.row.2 with ⟨h0, _⟩ | ⟨g', cap, cur, h1, h2, h3, h4⟩
          · rw [h0] at hg; cases hg
          · rw [h1] at hg; cases hg; exact h2
        have hO : Only (fun k => V.heap.size + 6 ≤ k ∧ k < lo) W w1 :=
          ((Only.refl _ W).alloc _).trans ⟨hgr.os, hgr.tape, hgr.output, hgr.size, fun k hk hn => hgr.block k hk (fun e => hn (hgb k e.symm))⟩
        have hl := hS.list.only hO (by omega)
        refine ⟨hl, ⟨⟨by have := hO.size; simpa [World.setCell] using this, fun k hk hlt => (Below.heap_setCell _ _ _ _ (by
          show k ≠ w0.heap.size + 1 + 1
          have := hW.1
          rcases hk with h | h | h | h
          · omega
          · omega
          · unfold Rng at h; omega
          · omega)).trans (hO.block k hlt (by
            rcases hk with h | h | h | h
            · omega
            · omega
            · unfold Rng at h; omega
            · omega))⟩, v', ?_⟩⟩
        have hsl : Only (fun k => k = w0.heap.size + 1 + 1) w1 (w1.setCell ⟨w0.heap.size + 1 + 1, 0, none⟩ v') := (Only.refl (fun k => k = w0.heap.size + 1 + 1) w1).set (b := w0.heap.size + 1 + 1) (i := 0) rfl v'
        refine ⟨hl.set 0 (by simp) _, ?_, (hS.r1.only hO (by omega)).far (by omega) _, (hS.r2.only hO (by omega)).far (by omega) _, ?_, ?_⟩
        · rw [cellsOf_snoc, List.length_append]
          exact own_only hown hsl (fun k hk => by omega)
        · exact (hS.bel.trans ⟨hO.os, hO.tape, hO.output, hO.size, fun k hk => hO.block k (by omega) (by omega)⟩).setCell (by show w0.heap.size ≤ w0.heap.size + 1 + 1; omega) _
        · intro y hy
          rcases List.mem_append.1 hy with h | h
          · exact hS.good y h
          · simp at h; subst h; exact hkk
      gi_wp2_with (gi_at_builtin; refine wpListIn_append_own _ rfl _ _ 23 rfl (V.heap.size + 6) 27 i0 _ 5 48 Tryd.underlying23 hi hz0 hz1 hz2 rfl (by decide) _ _ _ rfl (hS.row.alloc _) ⟨W.heap.size, 0, none⟩ 1 1 [.int .i64 kk, .int .i32 nn, .string (bs xx), .int .i64 ln, .int .i64 cl] rfl rfl (cells_five _ _ _ _ _ _) (fun u hu => by simp at hu; rcases hu with rfl | rfl | rfl | rfl | rfl <;> rfl) (by unfold maxLen; omega) (by omega) (by simp; omega) ?_; intro v' w1 hown' hgrow hnil; obtain ⟨g', cap', rfl⟩ := ownsRow_succ hown'; obtain ⟨hl1, hf1⟩ := hfin _ w1 hown' hgrow; obtain ⟨l0', L1', l2'⟩ := id hl1)
      exact hf1
  case done =>
    rintro W ⟨v, hS⟩ hD hz
    have hrow : W.ownsRow (V.heap.size + 6) 27 5 v (ts.length + 1) (cellsOf (ts ++ [z])) := by have := hS.row; rwa [List.length_append] at this
    obtain ⟨g, cap, rfl⟩ := ownsRow_succ hrow
    have hzk : z.t.kind ≠ -1 := hS.good z (by simp)
    obtain ⟨l0, L1, l2⟩ := id hS.list
    obtain ⟨p0, P1, p2⟩ := id hS.r1
    obtain ⟨q0, Q1, q2⟩ := id hS.r2
    gi_wp2
    have hE1 := (((hS.r1.set 0 (by simp) (.slice (some ⟨g, 0, none⟩) (ts.length + 1) cap)).far (c := w0.heap.size + 1) (i := 0) (by omega) (.int .i64 0)).far (c := w0.heap.size + 1) (i := 1) (by omega) (.int .i64 0)).far (c := w0.heap.size + 1) (i := 2) (by omega) (.int .i64 0)
    have hE2 := (((hS.r2.far (c := w0.heap.size) (i := 0) (by omega) (.slice (some ⟨g, 0, none⟩) (ts.length + 1) cap)).set 0 (by simp) (.int .i64 0)).set 1 (by simp) (.int .i64 0)).set 2 (by simp) (.int .i64 0)
    have hO := ((((Only.refl (fun k => k = w0.heap.size ∨ k = w0.heap.size + 1) W).set (b := w0.heap.size) (i := 0) (.inl rfl) (.slice (some ⟨g, 0, none⟩) (ts.length + 1) cap)).set (b := w0.heap.size + 1) (i := 0) (.inr rfl) (.int .i64 0)).set (b := w0.heap.size + 1) (i := 1) (.inr rfl) (.int .i64 0)).set (b := w0.heap.size + 1) (i := 2) (.inr rfl) (.int .i64 0)
    have hB := (((hS.bel.setCell (p := ⟨w0.heap.size, 0, none⟩) (Nat.le_refl _) (.slice (some ⟨g, 0, none⟩) (ts.length + 1) cap)).setCell (p := ⟨w0.heap.size + 1, 0, none⟩) (by simp) (.int .i64 0)).setCell (p := ⟨w0.heap.size + 1, 1, none⟩) (by simp) (.int .i64 0)).setCell (p := ⟨w0.heap.size + 1, 2, none⟩) (by simp) (.int .i64 0)
    have hrow2 := own_only hrow hO (fun k hk => by omega)
    have hD1 := (hO.block V.heap.size (by omega) (by omega)).trans hD
    generalize ((((W.setCell ⟨w0.heap.size, 0, none⟩ (.slice (some ⟨g, 0, none⟩) (ts.length + 1) cap)).setCell ⟨w0.heap.size + 1, 0, none⟩ (.int .i64 0)).setCell ⟨w0.heap.size + 1, 1, none⟩ (.int .i64 0)).setCell ⟨w0.heap.size + 1, 2, none⟩ (.int .i64 0)) = U at *
    have hP : Only (fun k => k = V.heap.size) U (U.putObj V.heap.size (.deferred none)) := (Only.refl (fun k => k = V.heap.size) U).put (r := V.heap.size) _ rfl
    have hF1 := hE1.only hP (by omega)
    have hF2 := hE2.only hP (by omega)
    obtain ⟨e0, E1, e2⟩ := id hF1
    obtain ⟨f0, F1, f2⟩ := id hF2
    refine ⟨by simp, .inl ⟨_, _, rfl, run_takeDeferred hD1, ?_⟩⟩
    refine ⟨.tuple #[.slice (some ⟨g, 0, none⟩) (ts.length + 1) cap, .agg #[.int .i64 0, .int .i64 0, .int .i64 0]], ?_, _, _, rfl, .inr ⟨hzk, ?_, rfl⟩, ?_⟩
    · simp [results, Tryd.results7, go_sem, E1, F1]
    · exact ⟨hrow2.1, hrow2.2.imp id (fun ⟨g', cap', cur, h1, h2, h3, h4⟩ => ⟨g', cap', cur, h1, by omega, (hP.block g' (Array.getElem?_eq_some_iff.1 h3).1 (by omega)).trans h3, h4⟩)⟩
    · exact hB.trans ⟨rfl, rfl, rfl, by simp, fun k hk => hP.block k (by have := hB.size; omega) (by omega)⟩
  case stop =>
    rintro c pre W hp ⟨rfl, pre', x, rfl, hx, h1, h2, h3⟩ hD hz
    obtain ⟨rfl, rfl⟩ := bad_last hWh hp hx
    gi_wp2
    have hP : Only (fun k => k = V.heap.size) W (W.putObj V.heap.size (.deferred none)) := (Only.refl (fun k => k = V.heap.size) W).put (r := V.heap.size) _ rfl
    have hF1 := h1.only hP (by omega)
    have hF2 := h2.only hP (by omega)
    obtain ⟨e0, E1, e2⟩ := id hF1
    obtain ⟨f0, F1, f2⟩ := id hF2
    refine ⟨by simp, .inl ⟨_, _, rfl, run_takeDeferred hD, ?_⟩⟩
    refine ⟨.tuple #[.slice none 0 0, .agg #[.int .i64 (IntKind.i64.wrap x.t.num), .int .i64 x.line, .int .i64 x.col]], ?_, _, _, rfl, .inl ⟨hx, rfl, rfl⟩, ?_⟩
    · simp [results, Tryd.results7, go_sem, E1, F1]
    · exact h3.trans ⟨rfl, rfl, rfl, by simp, fun k hk => hP.block k (by have := h3.size; omega) (by omega)⟩
end Go.Proofs.YtjohnhaahpggkabDoor
