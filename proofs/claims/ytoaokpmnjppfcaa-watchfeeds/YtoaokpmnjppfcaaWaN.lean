import Derived.Test.YtoaokpmnjppfcaaWaL
import Derived.Test.YtoaokpmnjppfcaaGrC
import Derived.Test.YtoaokpmnjppfcaaGrD
namespace Go.Proofs.Ytoaokpmnjppfcaa
open Go.RowKit
set_option linter.unusedVariables false
set_option linter.unusedSimpArgs false

/-- A list that is read in a block from lo up to lb, that is neither b nor B. -/
def FlM {α : Type} (sz : Nat) (cs : α → List Value) (lo lb b B : Nat) (w : World) (v : Value) (L : List α) : Prop :=
  ∃ a cap, v = .slice a L.length cap ∧ (L = [] ∨ ∃ g o, a = some ⟨g, o, none⟩ ∧ lo ≤ g ∧ g < lb ∧ g ≠ b ∧ g ≠ B ∧ g < w.heap.size ∧ ∀ (i : Nat) (h : i < L.length) (j : Nat) (u : Value), (cs L[i])[j]? = some u → w.cell? ⟨g, o + i * sz + j, none⟩ = some u)
theorem FlM.x {α : Type} {sz : Nat} {cs : α → List Value} {lo lb b B : Nat} {w : World} {v : Value} {L : List α} (h : FlM sz cs lo lb b B w v L) : FlX sz cs B w v L := by
  obtain ⟨a, cap, rfl, h⟩ := h
  refine ⟨a, cap, rfl, ?_⟩
  rcases h with h | ⟨g, o, rfl, _, _, _, h4, h5, h6⟩
  · exact .inl h
  · exact .inr ⟨g, o, rfl, h5, h4, h6⟩
theorem FlM.move {α : Type} {sz : Nat} {cs : α → List Value} {lo lb b B : Nat} {w w' : World} {S : Nat → Prop} {v : Value} {L : List α} (h : FlM sz cs lo lb b B w v L) (ho : Only S w w') (hS : ∀ q, lo ≤ q → q < lb → q ≠ b → q ≠ B → ¬ S q) : FlM sz cs lo lb b B w' v L := by
  obtain ⟨a, cap, rfl, h⟩ := h
  refine ⟨a, cap, rfl, ?_⟩
  rcases h with h | ⟨g, o, rfl, h1, h2, h3, h4, h5, h6⟩
  · exact .inl h
  · exact .inr ⟨g, o, rfl, h1, h2, h3, h4, Nat.lt_of_lt_of_le h5 ho.size, fun i hi j u hu => by rw [ho.cell h5 (hS g h1 h2 h3 h4)]; exact h6 i hi j u hu⟩
/-- Block b holds a monitor: lamps in B, all else that it reads between lo and lb, the log's list behind gl. -/
structure Mo (w : World) (lo lb gl b B : Nat) (vg vc vl : Value) (R : List Gr) (C : List Cf) (f : Nat → Lm) (tk : Int) (tr : Al) (L : List Al) : Prop where
  bB : b ≠ B
  b1 : lo ≤ b
  b2 : b < lb
  B1 : lo ≤ B
  B2 : B < lb
  l1 : lb ≤ gl
  l2 : gl ≤ w.heap.size
  ob : Has w b #[vg, vc, .slice (some ⟨B, 0, none⟩) R.length R.length, .int .i64 tk, .int .i64 tr.k, .int .i64 tr.t, .int .i64 tr.a, .int .i64 tr.b, vl]
  lm : Has w B (rwA Lm.cs R.length f)
  gr : FlM 4 Gr.cs lo lb b B w vg R
  cf : FlM 4 Cf.cs lo lb b B w vc C
  lg : w.ownsRow gl 43 4 vl L.length (cellsF Al.cs L)
theorem Mo.move {w w' : World} {S : Nat → Prop} {lo lb gl b B : Nat} {vg vc vl : Value} {R : List Gr} {C : List Cf} {f : Nat → Lm} {tk : Int} {tr : Al} {L : List Al} (h : Mo w lo lb gl b B vg vc vl R C f tk tr L) (ho : Only S w w') (hS : ∀ q, lo ≤ q → q < lb → ¬ S q) (hl : ∀ q, vl.ownBlock = some q → ¬ S q) : Mo w' lo lb gl b B vg vc vl R C f tk tr L :=
  ⟨h.bB, h.b1, h.b2, h.B1, h.B2, h.l1, Nat.le_trans h.l2 ho.size, h.ob.only ho (hS b h.b1 h.b2), h.lm.only ho (hS B h.B1 h.B2), h.gr.move ho (fun q a b _ _ => hS q a b), h.cf.move ho (fun q a b _ _ => hS q a b), own_only2 h.lg ho hl⟩
theorem Mo.below {w w' : World} {lo lb gl b B : Nat} {vg vc vl : Value} {R : List Gr} {C : List Cf} {f : Nat → Lm} {tk : Int} {tr : Al} {L : List Al} (h : Mo w lo lb gl b B vg vc vl R C f tk tr L) (hb : Below w.heap.size w w') : Mo w' lo lb gl b B vg vc vl R C f tk tr L :=
  h.move (only_of_below hb) (fun _ _ _ h => h) (fun _ _ h => h)
/-- The groups of tables as the monitor keeps them. -/
def grL (G : List Gp) : List Gr := (List.range G.length).map (grF G)
theorem grL_len (G : List Gp) : (grL G).length = G.length := by simp [grL]
theorem grL_get (G : List Gp) (i : Nat) (h : i < (grL G).length) : (grL G)[i] = grF G i := by simp [grL]
theorem fl_rw {w : World} {lo lb b B gb : Nat} {G : List Gp} (h : Has w gb (rwA Gr.cs G.length (grF G))) (h1 : lo ≤ gb) (h2 : gb < lb) (h3 : gb ≠ b) (h4 : gb ≠ B) : FlM 4 Gr.cs lo lb b B w (.slice (some ⟨gb, 0, none⟩) G.length G.length) (grL G) := by
  refine ⟨some ⟨gb, 0, none⟩, G.length, by rw [grL_len], .inr ⟨gb, 0, rfl, h1, h2, h3, h4, h.1, fun i hi j u hu => ?_⟩⟩
  rw [grL_get] at hu
  have hj : j < 4 := by have := (List.getElem?_eq_some_iff.1 hu).1; rwa [gr_len] at this
  rw [Nat.zero_add]
  exact h.reads (by rw [rwA_get gr_len _ _ (by rwa [grL_len] at hi) hj]; exact hu)
theorem fl_ownC {w : World} {lo lb b B base : Nat} {ka : Option Addr} {kc : Nat} {C : List Cf} (h : w.ownsRow base 68 4 (.slice ka C.length kc) C.length (cellsF Cf.cs C)) (h1 : ∀ q, (Value.slice ka C.length kc).ownBlock = some q → lo ≤ q ∧ q < lb ∧ q ≠ b ∧ q ≠ B) : FlM 4 Cf.cs lo lb b B w (.slice ka C.length kc) C := by
  refine ⟨ka, kc, rfl, ?_⟩
  rcases Nat.eq_zero_or_pos C.length with h0 | hp
  · exact .inl (List.length_eq_zero_iff.1 h0)
  · obtain ⟨g, cap, e, _, _, hg⟩ := own_block h hp
    injection e with e1 e2 e3
    subst e1
    obtain ⟨q1, q2, q3, q4⟩ := h1 g rfl
    refine .inr ⟨g, 0, rfl, q1, q2, q3, q4, hg, fun i hi j u hu => ?_⟩
    have hj : j < 4 := by have := (List.getElem?_eq_some_iff.1 hu).1; rwa [cf_len] at this
    rw [Nat.zero_add]
    exact own_reads h rfl _ _ (by rw [cellsF_get cf_len C i j hi hj]; exact hu)

set_option maxRecDepth 100000 in
set_option maxHeartbeats 4000000 in
theorem new_bad (G : List Gp) (C : List Cf) (vg vc : Value) (w : World) (h1 : Fl 5 Gp.cs w vg G) (h2 : Fl 4 Cf.cs w vc C) (lG : G.length ≤ 2932031007317) (lC : C.length ≤ 4398046511000) (hg : gridB G C = false) :
    Calls Try.prog 6 #[.agg #[vg, vc]] w fun e w' => e = .returned (.tuple #[.pointer none, .int .i64 70]) ∧ Below w.heap.size w w' := by
  have h18 := fun (W : World) (hW : Below w.heap.size w W) => grid_any G C vg vc W (h1.below hW) (h2.below hW) lG lC
  rw [hg] at h18
  obtain ⟨ga, gc, rfl, kG⟩ := h1.any
  obtain ⟨ca, qc, rfl, kC⟩ := h2.any
  clear h1 h2 kG kC
  generalize G.length = n at *
  generalize C.length = m at *
  have XB : Below w.heap.size w (w.alloc (.cells #[.slice ga n gc, .slice ca m qc] 25)) := belN1
  go_enter Try.func6, Try.ntmps6
  go_wp2_with (go_at_call 18; (with_reducible refine Calls.mono (h18 _ XB) ?_); rintro e w1 ⟨rfl, hb⟩; replace XB := XB.trans (hb.mono XB.size))
  go_ret2
  exact ⟨rfl, XB⟩

set_option maxRecDepth 100000 in
set_option maxHeartbeats 4000000 in
theorem new_good (G : List Gp) (C : List Cf) (vg vc : Value) (w : World) (h1 : Fl 5 Gp.cs w vg G) (h2 : Fl 4 Cf.cs w vc C) (lG : G.length ≤ 2932031007317) (lC : C.length ≤ 4398046511000) (hg : gridB G C = true) :
    Calls Try.prog 6 #[.agg #[vg, vc]] w fun e w' => (∃ b B vg' vc', e = .returned (.tuple #[.pointer (some ⟨b, 0, none⟩), .int .i64 0]) ∧ Mo w' w.heap.size w'.heap.size w'.heap.size b B vg' vc' (.slice none 0 0) (grL G) C (fun _ => lm0) 0 al0 []) ∧ Below w.heap.size w w' := by
  have h18 := fun (W : World) (hW : Below w.heap.size w W) => grid_any G C vg vc W (h1.below hW) (h2.below hW) lG lC
  rw [hg] at h18
  have n64 := grid_len hg
  have h19 := fun (W : World) (hW : Below w.heap.size w W) => rulesOf_any G C vg vc W (h1.below hW) (h2.below hW) n64 lC
  have mk : ∀ W : World, (Instr.makeSlice 59 (.int .i64 (G.length : Int)) (.int .i64 (G.length : Int))).run Try.prog W = .ok (.slice (some ⟨W.heap.size, 0, none⟩) G.length G.length) (W.alloc (.cells (rwA Lm.cs G.length (fun _ => lm0)) 83)) := fun W => makeL W G.length n64
  obtain ⟨ga, gc, rfl, kG⟩ := h1.any
  obtain ⟨ca, qc, rfl, kC⟩ := h2.any
  clear h1 h2 kG kC hg
  have eG := grL_len G
  obtain ⟨n, hn⟩ : ∃ n, G.length = n := ⟨_, rfl⟩
  obtain ⟨m, hm⟩ : ∃ m, C.length = m := ⟨_, rfl⟩
  have hn' : Hid (G.length = n) := hn
  have hm' : Hid (C.length = m) := hm
  rw [hn] at h18 h19 mk
  rw [hm] at h18 h19
  rw [hn] at eG n64 ⊢
  rw [hm] at ⊢
  have eG' : Hid ((grL G).length = n) := eG
  clear hn hm lC lG eG
  have X1 : Has (w.alloc (.cells #[.slice ga n gc, .slice ca m qc] 25)) w.heap.size #[.slice ga n gc, .slice ca m qc] := Has.new _ _ _ rfl
  have XB : Below w.heap.size w (w.alloc (.cells #[.slice ga n gc, .slice ca m qc] 25)) := belN1
  go_enter Try.func6, Try.ntmps6
  go_upto_region 3 with (go_at_call 18; (with_reducible refine Calls.mono (h18 _ XB) ?_); rintro e V ⟨rfl, hb⟩; replace XB := XB.trans (hb.mono XB.size); replace X1 := X1.below hb; obtain ⟨_, i1, _⟩ := id X1)
  clear hb h18
  go_cut [2, 3] (fun s2 s3 wx => ∃ b B gb ka kc, s2 = .pointer (some ⟨b, 0, none⟩) ∧ s3 = .int .i64 0 ∧ Has wx b #[.slice (some ⟨gb, 0, none⟩) n n, .slice ka m kc, .slice (some ⟨B, 0, none⟩) n n, .int .i64 0, .int .i64 0, .int .i64 0, .int .i64 0, .int .i64 0, .slice none 0 0] ∧ Has wx B (rwA Lm.cs n (fun _ => lm0)) ∧ Has wx gb (rwA Gr.cs n (grF G)) ∧ (∃ bs, wx.ownsRow bs 68 4 (.slice ka m kc) m (cellsF Cf.cs C)) ∧ Below w.heap.size w wx ∧ b ≠ B ∧ B ≠ gb ∧ gb ≠ b ∧ (∀ q, (Value.slice ka m kc).ownBlock = some q → w.heap.size + 1 ≤ q ∧ q ≠ b ∧ q ≠ B) ∧ w.heap.size + 1 ≤ gb ∧ w.heap.size + 1 ≤ B ∧ w.heap.size + 1 ≤ b)
  case first =>
    refine wp_region_noPanic ?_
    refine wp_region_held_drew (S := fun w' => w'.cell? ⟨w.heap.size, 0, none⟩ = some (.slice ga n gc) ∧ w'.cell? ⟨w.heap.size, 1, none⟩ = some (.slice ca m qc)) (by kernel_rfl) ?_ (fun hHeld => ?_)
    · (try dsimp only)
      exact has2b X1
    refine wpAnyH_take (i := 0) (oi := { dst := some 7, op := Op.load 25 (Operand.tmp 1), type := 25, pos := "watch.go:26", after := #[], guard := none }) (v := ?_) rfl (by kernel_rfl) (by kernel_rfl) (by kernel_rfl) (fun _ _ _ h => h) (Or.inl ⟨by rfl, ?_⟩) (by assumption) ?_
    rotate_left
    · intro wz hSz; (try dsimp only at hSz); go_simp; all_goals (with_reducible rfl)
    (try simp only [Act.put, List.setIfInBounds_toArray, List.set_cons_zero, List.set_cons_succ])
    refine wpAnyH_take (i := 2) (oi := { dst := some 9, op := Op.fieldAddr 25 (Operand.tmp 1) 0, type := 0, pos := "watch.go:26", after := #[], guard := none }) (v := ?_) rfl (by kernel_rfl) (by kernel_rfl) (by kernel_rfl) (fun _ _ _ h => h) (Or.inl ⟨by rfl, ?_⟩) (by assumption) ?_
    rotate_left
    · intro wz hSz; (try dsimp only at hSz); go_simp; all_goals (with_reducible rfl)
    (try simp only [Act.put, List.setIfInBounds_toArray, List.set_cons_zero, List.set_cons_succ])
    refine wpAnyH_take (i := 3) (oi := { dst := some 10, op := Op.load 22 (Operand.tmp 9), type := 22, pos := "watch.go:26", after := #[{ on := 2, ground := Ground.data }], guard := none }) (v := ?_) rfl (by kernel_rfl) (by kernel_rfl) (by kernel_rfl) (fun _ _ _ h => h) (Or.inl ⟨by rfl, ?_⟩) (by assumption) ?_
    rotate_left
    · intro wz hSz; (try dsimp only at hSz); go_simp; all_goals (with_reducible rfl)
    (try simp only [Act.put, List.setIfInBounds_toArray, List.set_cons_zero, List.set_cons_succ])
    refine wpAnyH_take (i := 4) (oi := { dst := some 11, op := Op.call { callee := Callee.builtin Builtin.len, args := #[Operand.tmp 10], argTypes := #[22] }, type := 3, pos := "watch.go:26", after := #[{ on := 3, ground := Ground.data }], guard := none }) (v := ?_) rfl (by kernel_rfl) (by kernel_rfl) (by kernel_rfl) (fun _ _ _ h => h) (Or.inl ⟨by rfl, ?_⟩) (by assumption) ?_
    rotate_left
    · intro wz hSz; (try dsimp only at hSz); go_simp; all_goals (with_reducible rfl)
    (try simp only [Act.put, List.setIfInBounds_toArray, List.set_cons_zero, List.set_cons_succ])
    replace X1 := X1.drew
    replace XB := XB.drew
    generalize V.drew = V1 at *
    refine wpAnyH_ready (rs := [1, 5]) (by kernel_rfl) (by simp) ?_
    refine AllReadyH.cons (o := { dst := some 8, op := Op.call { callee := Callee.value (Operand.func 19), args := #[Operand.tmp 7], argTypes := #[25] }, type := 57, pos := "watch.go:26", after := #[{ on := 0, ground := Ground.data }], guard := none }) rfl (fun K hK => ?_) (AllReadyH.cons (o := { dst := some 12, op := Op.makeSlice 59 (Operand.tmp 11) (Operand.tmp 11), type := 59, pos := "watch.go:26", after := #[{ on := 4, ground := Ground.data }, { on := 4, ground := Ground.data }], guard := none }) rfl (fun K hK => ?_) (AllReadyH.nil))
    · skip
      go_simp
      go_at_call 19
      (with_reducible refine Calls.mono (h19 _ XB) ?_)
      rintro e Y1 ⟨⟨gb, ka, kc, rfl, gb1, XG, XC⟩, hbb⟩
      have gb2 : w.heap.size + 1 ≤ gb := by have := X1.1; omega
      have kc2 : ∀ q, (Value.slice ka m kc).ownBlock = some q → w.heap.size + 1 ≤ q := fun q hq => by have := (own_lt XC q hq).1; have := X1.1; omega
      replace X1 := X1.below hbb
      replace XB := XB.trans (hbb.mono XB.size)
      clear hbb
      go_wp2_with fail
      refine hK.out _ _ ?_ (fun hHeld => ?_)
      · (try dsimp only)
        exact has2b X1
      clear hK K
      (try simp only [Act.put, List.setIfInBounds_toArray, List.set_cons_zero, List.set_cons_succ])
      refine wpAnyH_ready (rs := [5]) (by kernel_rfl) (by simp) ?_
      refine AllReadyH.cons (o := { dst := some 12, op := Op.makeSlice 59 (Operand.tmp 11) (Operand.tmp 11), type := 59, pos := "watch.go:26", after := #[{ on := 4, ground := Ground.data }, { on := 4, ground := Ground.data }], guard := none }) rfl (fun K hK => ?_) (AllReadyH.nil)
      go_simp
      have hbb : Below Y1.heap.size Y1 (Y1.alloc (.cells (rwA Lm.cs n (fun _ => lm0)) 83)) := belN1
      have B2 : w.heap.size + 1 ≤ Y1.heap.size := by have := X1.1; omega
      have dB : Y1.heap.size ≠ gb ∧ ∀ q, (Value.slice ka m kc).ownBlock = some q → q ≠ Y1.heap.size := ⟨by have := XG.1; omega, fun q hq e => by have := (own_lt XC q hq).2; omega⟩
      replace X1 := X1.below hbb
      replace XG := XG.below hbb
      replace XC := own_bel XC hbb
      replace XB := XB.trans (hbb.mono XB.size)
      have XL : Has (Y1.alloc (.cells (rwA Lm.cs n (fun _ => lm0)) 83)) Y1.heap.size (rwA Lm.cs n (fun _ => lm0)) := Has.new _ _ _ rfl
      clear hbb
      generalize Y1.heap.size = B at *
      generalize (Y1.alloc (.cells (rwA Lm.cs n (fun _ => lm0)) 83)) = Y2 at *
      refine hK.out _ _ ?_ (fun hHeld => ?_)
      · (try dsimp only)
        exact has2b X1
      clear hK K
      (try simp only [Act.put, List.setIfInBounds_toArray, List.set_cons_zero, List.set_cons_succ])
      refine wpAnyH_take (i := 6) (oi := { dst := some 13, op := Op.build 61 #[(0, Operand.tmp 8), (1, Operand.tmp 12)], type := 61, pos := "watch.go:26", after := #[{ on := 1, ground := Ground.data }, { on := 5, ground := Ground.data }], guard := none }) (v := ?_) rfl (by kernel_rfl) (by kernel_rfl) (by kernel_rfl) (fun _ _ _ h => h) (Or.inl ⟨by rfl, ?_⟩) (by assumption) ?_
      rotate_left
      · intro wz hSz; (try dsimp only at hSz); go_simp; all_goals (with_reducible rfl)
      (try simp only [Act.put, List.setIfInBounds_toArray, List.set_cons_zero, List.set_cons_succ])
      refine wpAnyH_ready (rs := [7]) (by kernel_rfl) (by simp) ?_
      refine AllReadyH.cons (o := { dst := some 14, op := Op.box 61 (Operand.tmp 13), type := 28, pos := "watch.go:26", after := #[{ on := 6, ground := Ground.data }], guard := none }) rfl (fun K hK => ?_) AllReadyH.nil
      go_simp
      have hbb : Below Y2.heap.size Y2 (Y2.alloc (.cells #[.slice (some ⟨gb, 0, none⟩) n n, .slice ka m kc, .slice (some ⟨B, 0, none⟩) n n, .int .i64 0, .int .i64 0, .int .i64 0, .int .i64 0, .int .i64 0, .slice none 0 0] 61)) := belN1
      have OB : Has (Y2.alloc (.cells #[.slice (some ⟨gb, 0, none⟩) n n, .slice ka m kc, .slice (some ⟨B, 0, none⟩) n n, .int .i64 0, .int .i64 0, .int .i64 0, .int .i64 0, .int .i64 0, .slice none 0 0] 61)) Y2.heap.size #[.slice (some ⟨gb, 0, none⟩) n n, .slice ka m kc, .slice (some ⟨B, 0, none⟩) n n, .int .i64 0, .int .i64 0, .int .i64 0, .int .i64 0, .int .i64 0, .slice none 0 0] := Has.new _ _ _ rfl
      have db : Y2.heap.size ≠ B ∧ gb ≠ Y2.heap.size ∧ ∀ q, (Value.slice ka m kc).ownBlock = some q → q ≠ Y2.heap.size := ⟨by have := XL.1; omega, by have := XG.1; omega, fun q hq e => by have := (own_lt XC q hq).2; omega⟩
      have bb2 : w.heap.size + 1 ≤ Y2.heap.size := by have := X1.1; omega
      replace X1 := X1.below hbb
      replace XG := XG.below hbb
      replace XC := own_bel XC hbb
      replace XL := XL.below hbb
      replace XB := XB.trans (hbb.mono XB.size)
      clear hbb
      generalize Y2.heap.size = b at *
      generalize (Y2.alloc (.cells #[.slice (some ⟨gb, 0, none⟩) n n, .slice ka m kc, .slice (some ⟨B, 0, none⟩) n n, .int .i64 0, .int .i64 0, .int .i64 0, .int .i64 0, .int .i64 0, .slice none 0 0] 61)) = Z at *
      refine hK.out _ _ ?_ (fun hHeld => ?_)
      · (try dsimp only)
        exact has2b X1
      clear hK K
      (try simp only [Act.put, List.setIfInBounds_toArray, List.set_cons_zero, List.set_cons_succ])
      refine wpAnyH_take (i := 8) (oi := { dst := some 2, op := Op.assign (Operand.tmp 14), type := 28, pos := "watch.go:26", after := #[{ on := 7, ground := Ground.data }, { on := 1, ground := Ground.chain }, { on := 0, ground := Ground.phase }, { on := 1, ground := Ground.phase }, { on := 2, ground := Ground.phase }, { on := 3, ground := Ground.phase }, { on := 4, ground := Ground.phase }, { on := 5, ground := Ground.phase }, { on := 6, ground := Ground.phase }, { on := 7, ground := Ground.phase }], guard := none }) (v := ?_) rfl (by kernel_rfl) (by kernel_rfl) (by kernel_rfl) (fun _ _ _ h => h) (Or.inl ⟨by rfl, ?_⟩) (by assumption) ?_
      rotate_left
      · intro wz hSz; (try dsimp only at hSz); go_simp; all_goals (with_reducible rfl)
      (try simp only [Act.put, List.setIfInBounds_toArray, List.set_cons_zero, List.set_cons_succ])
      refine wpAnyH_take (i := 9) (oi := { dst := some 3, op := Op.assign (Operand.const (Value.int IntKind.i64 0)), type := 29, pos := "watch.go:26", after := #[{ on := 8, ground := Ground.chain }, { on := 0, ground := Ground.phase }, { on := 1, ground := Ground.phase }, { on := 2, ground := Ground.phase }, { on := 3, ground := Ground.phase }, { on := 4, ground := Ground.phase }, { on := 5, ground := Ground.phase }, { on := 6, ground := Ground.phase }, { on := 7, ground := Ground.phase }, { on := 8, ground := Ground.phase }], guard := none }) (v := ?_) rfl (by kernel_rfl) (by kernel_rfl) (by kernel_rfl) (fun _ _ _ h => h) (Or.inl ⟨by rfl, ?_⟩) (by assumption) ?_
      rotate_left
      · intro wz hSz; (try dsimp only at hSz); go_simp; all_goals (with_reducible rfl)
      (try simp only [Act.put, List.setIfInBounds_toArray, List.set_cons_zero, List.set_cons_succ])
      refine wpAnyH_done (by kernel_rfl) ?_ _
      refine NoPanic.normal ?_
      go_wp2_with fail
      go_meet
      exact ⟨b, B, gb, ka, kc, rfl, rfl, OB, XL, XG, ⟨_, XC⟩, XB, db.1, dB.1, db.2.1, fun q hq => ⟨kc2 q hq, db.2.2 q hq, dB.2 q hq⟩, gb2, B2, bb2⟩
    · skip
      go_simp
      have hbb : Below V1.heap.size V1 (V1.alloc (.cells (rwA Lm.cs n (fun _ => lm0)) 83)) := belN1
      have B2 : w.heap.size + 1 ≤ V1.heap.size := by have := X1.1; omega
      replace X1 := X1.below hbb
      replace XB := XB.trans (hbb.mono XB.size)
      have XL : Has (V1.alloc (.cells (rwA Lm.cs n (fun _ => lm0)) 83)) V1.heap.size (rwA Lm.cs n (fun _ => lm0)) := Has.new _ _ _ rfl
      clear hbb
      generalize V1.heap.size = B at *
      generalize (V1.alloc (.cells (rwA Lm.cs n (fun _ => lm0)) 83)) = Y1 at *
      refine hK.out _ _ ?_ (fun hHeld => ?_)
      · (try dsimp only)
        exact has2b X1
      clear hK K
      (try simp only [Act.put, List.setIfInBounds_toArray, List.set_cons_zero, List.set_cons_succ])
      refine wpAnyH_ready (rs := [1]) (by kernel_rfl) (by simp) ?_
      refine AllReadyH.cons (o := { dst := some 8, op := Op.call { callee := Callee.value (Operand.func 19), args := #[Operand.tmp 7], argTypes := #[25] }, type := 57, pos := "watch.go:26", after := #[{ on := 0, ground := Ground.data }], guard := none }) rfl (fun K hK => ?_) (AllReadyH.nil)
      go_simp
      go_at_call 19
      (with_reducible refine Calls.mono (h19 _ XB) ?_)
      rintro e Y2 ⟨⟨gb, ka, kc, rfl, gb1, XG, XC⟩, hbb⟩
      have gb2 : w.heap.size + 1 ≤ gb := by have := X1.1; omega
      have kc2 : ∀ q, (Value.slice ka m kc).ownBlock = some q → w.heap.size + 1 ≤ q := fun q hq => by have := (own_lt XC q hq).1; have := X1.1; omega
      have dB : B ≠ gb ∧ ∀ q, (Value.slice ka m kc).ownBlock = some q → q ≠ B := ⟨by have := XL.1; omega, fun q hq e => by have := (own_lt XC q hq).1; have := XL.1; omega⟩
      replace X1 := X1.below hbb
      replace XL := XL.below hbb
      replace XB := XB.trans (hbb.mono XB.size)
      clear hbb
      go_wp2_with fail
      refine hK.out _ _ ?_ (fun hHeld => ?_)
      · (try dsimp only)
        exact has2b X1
      clear hK K
      (try simp only [Act.put, List.setIfInBounds_toArray, List.set_cons_zero, List.set_cons_succ])
      refine wpAnyH_take (i := 6) (oi := { dst := some 13, op := Op.build 61 #[(0, Operand.tmp 8), (1, Operand.tmp 12)], type := 61, pos := "watch.go:26", after := #[{ on := 1, ground := Ground.data }, { on := 5, ground := Ground.data }], guard := none }) (v := ?_) rfl (by kernel_rfl) (by kernel_rfl) (by kernel_rfl) (fun _ _ _ h => h) (Or.inl ⟨by rfl, ?_⟩) (by assumption) ?_
      rotate_left
      · intro wz hSz; (try dsimp only at hSz); go_simp; all_goals (with_reducible rfl)
      (try simp only [Act.put, List.setIfInBounds_toArray, List.set_cons_zero, List.set_cons_succ])
      refine wpAnyH_ready (rs := [7]) (by kernel_rfl) (by simp) ?_
      refine AllReadyH.cons (o := { dst := some 14, op := Op.box 61 (Operand.tmp 13), type := 28, pos := "watch.go:26", after := #[{ on := 6, ground := Ground.data }], guard := none }) rfl (fun K hK => ?_) AllReadyH.nil
      go_simp
      have hbb : Below Y2.heap.size Y2 (Y2.alloc (.cells #[.slice (some ⟨gb, 0, none⟩) n n, .slice ka m kc, .slice (some ⟨B, 0, none⟩) n n, .int .i64 0, .int .i64 0, .int .i64 0, .int .i64 0, .int .i64 0, .slice none 0 0] 61)) := belN1
      have OB : Has (Y2.alloc (.cells #[.slice (some ⟨gb, 0, none⟩) n n, .slice ka m kc, .slice (some ⟨B, 0, none⟩) n n, .int .i64 0, .int .i64 0, .int .i64 0, .int .i64 0, .int .i64 0, .slice none 0 0] 61)) Y2.heap.size #[.slice (some ⟨gb, 0, none⟩) n n, .slice ka m kc, .slice (some ⟨B, 0, none⟩) n n, .int .i64 0, .int .i64 0, .int .i64 0, .int .i64 0, .int .i64 0, .slice none 0 0] := Has.new _ _ _ rfl
      have db : Y2.heap.size ≠ B ∧ gb ≠ Y2.heap.size ∧ ∀ q, (Value.slice ka m kc).ownBlock = some q → q ≠ Y2.heap.size := ⟨by have := XL.1; omega, by have := XG.1; omega, fun q hq e => by have := (own_lt XC q hq).2; omega⟩
      have bb2 : w.heap.size + 1 ≤ Y2.heap.size := by have := X1.1; omega
      replace X1 := X1.below hbb
      replace XG := XG.below hbb
      replace XC := own_bel XC hbb
      replace XL := XL.below hbb
      replace XB := XB.trans (hbb.mono XB.size)
      clear hbb
      generalize Y2.heap.size = b at *
      generalize (Y2.alloc (.cells #[.slice (some ⟨gb, 0, none⟩) n n, .slice ka m kc, .slice (some ⟨B, 0, none⟩) n n, .int .i64 0, .int .i64 0, .int .i64 0, .int .i64 0, .int .i64 0, .slice none 0 0] 61)) = Z at *
      refine hK.out _ _ ?_ (fun hHeld => ?_)
      · (try dsimp only)
        exact has2b X1
      clear hK K
      (try simp only [Act.put, List.setIfInBounds_toArray, List.set_cons_zero, List.set_cons_succ])
      refine wpAnyH_take (i := 8) (oi := { dst := some 2, op := Op.assign (Operand.tmp 14), type := 28, pos := "watch.go:26", after := #[{ on := 7, ground := Ground.data }, { on := 1, ground := Ground.chain }, { on := 0, ground := Ground.phase }, { on := 1, ground := Ground.phase }, { on := 2, ground := Ground.phase }, { on := 3, ground := Ground.phase }, { on := 4, ground := Ground.phase }, { on := 5, ground := Ground.phase }, { on := 6, ground := Ground.phase }, { on := 7, ground := Ground.phase }], guard := none }) (v := ?_) rfl (by kernel_rfl) (by kernel_rfl) (by kernel_rfl) (fun _ _ _ h => h) (Or.inl ⟨by rfl, ?_⟩) (by assumption) ?_
      rotate_left
      · intro wz hSz; (try dsimp only at hSz); go_simp; all_goals (with_reducible rfl)
      (try simp only [Act.put, List.setIfInBounds_toArray, List.set_cons_zero, List.set_cons_succ])
      refine wpAnyH_take (i := 9) (oi := { dst := some 3, op := Op.assign (Operand.const (Value.int IntKind.i64 0)), type := 29, pos := "watch.go:26", after := #[{ on := 8, ground := Ground.chain }, { on := 0, ground := Ground.phase }, { on := 1, ground := Ground.phase }, { on := 2, ground := Ground.phase }, { on := 3, ground := Ground.phase }, { on := 4, ground := Ground.phase }, { on := 5, ground := Ground.phase }, { on := 6, ground := Ground.phase }, { on := 7, ground := Ground.phase }, { on := 8, ground := Ground.phase }], guard := none }) (v := ?_) rfl (by kernel_rfl) (by kernel_rfl) (by kernel_rfl) (fun _ _ _ h => h) (Or.inl ⟨by rfl, ?_⟩) (by assumption) ?_
      rotate_left
      · intro wz hSz; (try dsimp only at hSz); go_simp; all_goals (with_reducible rfl)
      (try simp only [Act.put, List.setIfInBounds_toArray, List.set_cons_zero, List.set_cons_succ])
      refine wpAnyH_done (by kernel_rfl) ?_ _
      refine NoPanic.normal ?_
      go_wp2_with fail
      go_meet
      exact ⟨b, B, gb, ka, kc, rfl, rfl, OB, XL, XG, ⟨_, XC⟩, XB, db.1, dB.1, db.2.1, fun q hq => ⟨kc2 q hq, db.2.2 q hq, dB.2 q hq⟩, gb2, B2, bb2⟩

  case rest =>
    obtain ⟨b, B, gb, ka, kc, rfl, rfl, OB, XL, XG, ⟨bs, XC⟩, XB, e1, e2, e3, kq, l1, l2, l3⟩ := hcut
    have hm2 := hm'.out
    have hn2 := hn'.out
    have eG2 := eG'.out
    have OB2 : Has wc b #[.slice (some ⟨gb, 0, none⟩) G.length G.length, .slice ka C.length kc, .slice (some ⟨B, 0, none⟩) (grL G).length (grL G).length, .int .i64 0, .int .i64 al0.k, .int .i64 al0.t, .int .i64 al0.a, .int .i64 al0.b, .slice none 0 0] := by rw [hn2, hm2, eG2]; exact OB
    have XG2 : Has wc gb (rwA Gr.cs G.length (grF G)) := by rw [hn2]; exact XG
    have XC2 : wc.ownsRow bs 68 4 (.slice ka C.length kc) C.length (cellsF Cf.cs C) := by rw [hm2]; exact XC
    have XL2 : Has wc B (rwA Lm.cs (grL G).length (fun _ => lm0)) := by rw [eG2]; exact XL
    have kq2 : ∀ q, (Value.slice ka C.length kc).ownBlock = some q → w.heap.size ≤ q ∧ q < wc.heap.size ∧ q ≠ b ∧ q ≠ B := fun q hq => by
      have h1 := (own_lt XC2 q hq).2
      have h2 := kq q (by cases ka <;> exact hq)
      exact ⟨by omega, h1, h2.2.1, h2.2.2⟩
    have hMo : Mo wc w.heap.size wc.heap.size wc.heap.size b B (.slice (some ⟨gb, 0, none⟩) G.length G.length) (.slice ka C.length kc) (.slice none 0 0) (grL G) C (fun _ => lm0) 0 al0 [] := ⟨e1, by omega, OB.1, by omega, XL.1, Nat.le_refl _, Nat.le_refl _, OB2, XL2, fl_rw XG2 (by omega) XG.1 e3 (Ne.symm e2), fl_ownC XC2 kq2, World.ownsRow_nil _ _ _ _⟩
    clear OB XL XG XC X1 OB2 XG2 XC2 XL2 kq kq2 hm2 hn2 eG2
    go_wp2
    go_ret2
    exact ⟨⟨b, B, _, _, rfl, hMo⟩, XB⟩
end Go.Proofs.Ytoaokpmnjppfcaa
