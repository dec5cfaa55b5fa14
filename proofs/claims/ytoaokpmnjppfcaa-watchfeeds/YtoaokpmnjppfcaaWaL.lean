import Derived.Test.YtoaokpmnjppfcaaWaK
namespace Go.Proofs.Ytoaokpmnjppfcaa
open Go.RowKit
set_option linter.unusedVariables false
set_option linter.unusedSimpArgs false

theorem Has.set2 {w : World} {b : Nat} {y0 y1 : Value} (h : Has w b #[y0, y1]) (x0 x1 : Value) : Has ((w.setCell ⟨b, 0, none⟩ x0).setCell ⟨b, 1, none⟩ x1) b #[x0, x1] := by
  have := (h.set 0 (by simp) x0).set 1 (by simp) x1
  simpa using this
def gp0 : Gp := ⟨⟨#[]⟩, 0, 0, 0, 0⟩
/-- A group as the monitor keeps it. -/
def grF (G : List Gp) (k : Nat) : Gr := ⟨k, (G.getD k gp0).min, (G.getD k gp0).amber, (G.getD k gp0).lead⟩
def grN (G : List Gp) (k : Nat) : Nat → Gr := fun j => if j < k then grF G j else gr0
theorem grN_step (G : List Gp) (k : Nat) : updA (grN G k) k (grF G k) = grN G (k + 1) := by
  funext j
  unfold updA grN
  by_cases e : j = k
  · subst e; simp
  · by_cases hl : j < k
    · simp [e, hl, Nat.lt_succ_of_lt hl]
    · simp [e, hl, show ¬ j < k + 1 by omega]
/-- What stands in rulesOf. -/
structure RS (w wx : World) (n m : Nat) (v1 v2 : Value) (rb gb : Nat) (ka : Option Addr) (kc : Nat) (C : List Cf) (f : Nat → Gr) : Prop where
  gb2 : w.heap.size + 2 ≤ gb
  rb2 : w.heap.size + 2 ≤ rb
  gbr : gb ≠ rb
  x1 : Has wx w.heap.size #[v1, v2]
  x2 : Has wx (w.heap.size + 1) #[.slice none 0 0, .slice none 0 0]
  xg : Has wx gb (rwA Gr.cs n f)
  xc : wx.ownsRow (w.heap.size + 2) 68 4 (.slice ka m kc) m (cellsF Cf.cs C)
  xr : Has wx rb #[.slice (some ⟨gb, 0, none⟩) n n, .slice ka m kc]
  kg : ∀ q, (Value.slice ka m kc).ownBlock = some q → q ≠ gb
  kr : ∀ q, (Value.slice ka m kc).ownBlock = some q → q ≠ rb
  xb : Below w.heap.size w wx
theorem RS.below {w wx wy : World} {n m : Nat} {v1 v2 : Value} {rb gb : Nat} {ka : Option Addr} {kc : Nat} {C : List Cf} {f : Nat → Gr} (h : RS w wx n m v1 v2 rb gb ka kc C f) (hb : Below wx.heap.size wx wy) : RS w wy n m v1 v2 rb gb ka kc C f :=
  ⟨h.gb2, h.rb2, h.gbr, h.x1.below hb, h.x2.below hb, h.xg.below hb, own_bel h.xc hb, h.xr.below hb, h.kg, h.kr, h.xb.trans (hb.mono h.xb.size)⟩
def st4 (vs : Array Value) (o : Nat) (x : Gr) : Array Value := (((vs.setIfInBounds o (.int .i64 x.n)).setIfInBounds (o + 1) (.int .i64 x.mi)).setIfInBounds (o + 2) (.int .i64 x.am)).setIfInBounds (o + 3) (.int .i64 x.le)
theorem groups_upd (n : Nat) (f : Nat → Gr) {k : Nat} (hk : k < n) (l : Gr) : st4 (rwA Gr.cs n f) (k * 4) l = rwA Gr.cs n (updA f k l) := by
  have hs := rwA_size gr_len n f
  have hk3 : k * 4 + 3 < n * 4 := by omega
  refine rwA_upd gr_len (by decide) n f hk l _ (by unfold st4; simp [hs]) (fun j hj => ?_) (fun i hi => ?_)
  · unfold st4
    match j, hj with
    | 0, _ => simp [get_set, hs, Gr.cs]; omega
    | 1, _ => simp [get_set, hs, Gr.cs]; omega
    | 2, _ => simp [get_set, hs, Gr.cs]; omega
    | 3, _ => simp [get_set, hs, Gr.cs]; omega
  · unfold st4
    rw [get_set, if_neg (by omega), get_set, if_neg (by omega), get_set, if_neg (by omega), get_set, if_neg (by omega)]
theorem RS.stored {w wx : World} {n m k : Nat} {v1 v2 : Value} {rb gb : Nat} {ka : Option Addr} {kc : Nat} {C : List Cf} {f : Nat → Gr} (h : RS w wx n m v1 v2 rb gb ka kc C f) (hk : k < n) (x : Gr) : RS w ((((wx.setCell ⟨gb, k * 4, none⟩ (.int .i64 x.n)).setCell ⟨gb, k * 4 + 1, none⟩ (.int .i64 x.mi)).setCell ⟨gb, k * 4 + 2, none⟩ (.int .i64 x.am)).setCell ⟨gb, k * 4 + 3, none⟩ (.int .i64 x.le)) n m v1 v2 rb gb ka kc C (updA f k x) := by
  have g2 := h.gb2
  have r2 := h.rb2
  have ne := h.gbr
  have hs := rwA_size gr_len n f
  refine ⟨g2, r2, ne, (((h.x1.far (by omega) _).far (by omega) _).far (by omega) _).far (by omega) _, (((h.x2.far (by omega) _).far (by omega) _).far (by omega) _).far (by omega) _, ?_, own_only2 h.xc ((((only_of_set _ gb _ _).trans (only_of_set _ gb _ _)).trans (only_of_set _ gb _ _)).trans (only_of_set _ gb _ _)) (fun q hq e => h.kg q hq e), (((h.xr.far (by omega) _).far (by omega) _).far (by omega) _).far (by omega) _, h.kg, h.kr, (((h.xb.setCell (p := ⟨gb, k * 4, none⟩) (by show w.heap.size ≤ gb; omega) _).setCell (p := ⟨gb, k * 4 + 1, none⟩) (by show w.heap.size ≤ gb; omega) _).setCell (p := ⟨gb, k * 4 + 2, none⟩) (by show w.heap.size ≤ gb; omega) _).setCell (p := ⟨gb, k * 4 + 3, none⟩) (by show w.heap.size ≤ gb; omega) _⟩
  rw [← groups_upd n f hk x]
  exact (((h.xg.set (k * 4) (by omega) _).set (k * 4 + 1) (by simp; omega) _).set (k * 4 + 2) (by simp; omega) _).set (k * 4 + 3) (by simp; omega) _

set_option maxRecDepth 100000 in
set_option maxHeartbeats 4000000 in
theorem rulesOf_any (G : List Gp) (C : List Cf) (vg vc : Value) (w : World) (h1 : Fl 5 Gp.cs w vg G) (h2 : Fl 4 Cf.cs w vc C) (n64 : G.length ≤ 64) (lC : C.length ≤ 4398046511000) :
    Calls Try.prog 19 #[.agg #[vg, vc]] w fun e w' => (∃ gb ka kc, e = .returned (.agg #[.slice (some ⟨gb, 0, none⟩) G.length G.length, .slice ka C.length kc]) ∧ w.heap.size ≤ gb ∧ Has w' gb (rwA Gr.cs G.length (grF G)) ∧ w'.ownsRow w.heap.size 68 4 (.slice ka C.length kc) C.length (cellsF Cf.cs C)) ∧ Below w.heap.size w w' := by
  obtain ⟨ga, gc, rfl, kG⟩ := h1.any
  obtain ⟨ca, qc, rfl, kC⟩ := h2.any
  have hC := fun (W : World) (hW : Below w.heap.size w W) => fl_src cf_len (by decide) (h2.below hW)
  clear h1 h2
  have h31 : ∀ W : World, Below w.heap.size w W → Calls Try.prog 31 #[.slice ca C.length qc] W fun e w' => (∃ a' c', e = .returned (.slice a' C.length c') ∧ w'.ownsRow W.heap.size 68 4 (.slice a' C.length c') C.length (cellsF Cf.cs C)) ∧ Below W.heap.size W w' := fun W hW => cloneC_any C ca qc W lC (fun ad e W' hW' => (hC W' (hW.trans (hW'.mono hW.size))).1 ad e) (hC W hW).2
  have mk : ∀ W : World, (Instr.makeSlice 55 (.int .i64 (G.length : Int)) (.int .i64 (G.length : Int))).run Try.prog W = .ok (.slice (some ⟨W.heap.size, 0, none⟩) G.length G.length) (W.alloc (.cells (rwA Gr.cs G.length (fun _ => gr0)) 78)) := fun W => makeG W G.length n64
  obtain ⟨n, hn⟩ : ∃ n, G.length = n := ⟨_, rfl⟩
  obtain ⟨m, hm⟩ : ∃ m, C.length = m := ⟨_, rfl⟩
  have hn' : Hid (G.length = n) := hn
  rw [hn] at mk n64 ⊢
  rw [hm] at h31 ⊢
  clear hn hm lC hC
  have X1 : Has ((w.alloc (.cells #[.slice ga n gc, .slice ca m qc] 25)).alloc (.cells #[.slice none 0 0, .slice none 0 0] 57)) w.heap.size #[.slice ga n gc, .slice ca m qc] := (Has.new _ _ _ rfl).alloc _
  have X2 : Has ((w.alloc (.cells #[.slice ga n gc, .slice ca m qc] 25)).alloc (.cells #[.slice none 0 0, .slice none 0 0] 57)) (w.heap.size + 1) #[.slice none 0 0, .slice none 0 0] := Has.new _ _ _ (by simp)
  have XB : Below w.heap.size w ((w.alloc (.cells #[.slice ga n gc, .slice ca m qc] 25)).alloc (.cells #[.slice none 0 0, .slice none 0 0] 57)) := belA
  have eN : (fun _ => gr0) = grN G 0 := by funext j; simp [grN]
  rw [eN] at mk
  go_enter Try.func19, Try.ntmps19
  go_upto_region 1 with fail
  generalize ((w.alloc (.cells #[.slice ga n gc, .slice ca m qc] 25)).alloc (.cells #[.slice none 0 0, .slice none 0 0] 57)) = V at *
  go_cut [3] (fun s wx => ∃ rb gb ka kc, s = .pointer (some ⟨rb, 0, none⟩) ∧ RS w wx n m (.slice ga n gc) (.slice ca m qc) rb gb ka kc C (grN G 0))
  case first =>
    refine wp_region_noPanic ?_
    refine wp_region_held_drew (S := fun w' => w'.cell? ⟨w.heap.size, 0, none⟩ = some (.slice ga n gc) ∧ w'.cell? ⟨w.heap.size, 1, none⟩ = some (.slice ca m qc)) (by kernel_rfl) ?_ (fun hHeld => ?_)
    · (try dsimp only)
      exact has2b X1
    refine wpAnyH_take (i := 0) (oi := { dst := some 6, op := Op.fieldAddr 25 (Operand.tmp 1) 0, type := 0, pos := "rule.go:26", after := #[], guard := none }) (v := ?_) rfl (by kernel_rfl) (by kernel_rfl) (by kernel_rfl) (fun _ _ _ h => h) (Or.inl ⟨by rfl, ?_⟩) (by assumption) ?_
    rotate_left
    · intro wz hSz; (try dsimp only at hSz); go_simp; all_goals (with_reducible rfl)
    (try simp only [Act.put, List.setIfInBounds_toArray, List.set_cons_zero, List.set_cons_succ])
    refine wpAnyH_take (i := 1) (oi := { dst := some 7, op := Op.load 22 (Operand.tmp 6), type := 22, pos := "rule.go:26", after := #[{ on := 0, ground := Ground.data }], guard := none }) (v := ?_) rfl (by kernel_rfl) (by kernel_rfl) (by kernel_rfl) (fun _ _ _ h => h) (Or.inl ⟨by rfl, ?_⟩) (by assumption) ?_
    rotate_left
    · intro wz hSz; (try dsimp only at hSz); go_simp; all_goals (with_reducible rfl)
    (try simp only [Act.put, List.setIfInBounds_toArray, List.set_cons_zero, List.set_cons_succ])
    refine wpAnyH_take (i := 2) (oi := { dst := some 8, op := Op.call { callee := Callee.builtin Builtin.len, args := #[Operand.tmp 7], argTypes := #[22] }, type := 3, pos := "rule.go:26", after := #[{ on := 1, ground := Ground.data }], guard := none }) (v := ?_) rfl (by kernel_rfl) (by kernel_rfl) (by kernel_rfl) (fun _ _ _ h => h) (Or.inl ⟨by rfl, ?_⟩) (by assumption) ?_
    rotate_left
    · intro wz hSz; (try dsimp only at hSz); go_simp; all_goals (with_reducible rfl)
    (try simp only [Act.put, List.setIfInBounds_toArray, List.set_cons_zero, List.set_cons_succ])
    refine wpAnyH_take (i := 4) (oi := { dst := some 10, op := Op.fieldAddr 25 (Operand.tmp 1) 1, type := 0, pos := "rule.go:26", after := #[], guard := none }) (v := ?_) rfl (by kernel_rfl) (by kernel_rfl) (by kernel_rfl) (fun _ _ _ h => h) (Or.inl ⟨by rfl, ?_⟩) (by assumption) ?_
    rotate_left
    · intro wz hSz; (try dsimp only at hSz); go_simp; all_goals (with_reducible rfl)
    (try simp only [Act.put, List.setIfInBounds_toArray, List.set_cons_zero, List.set_cons_succ])
    refine wpAnyH_take (i := 5) (oi := { dst := some 11, op := Op.load 23 (Operand.tmp 10), type := 23, pos := "rule.go:26", after := #[{ on := 4, ground := Ground.data }], guard := none }) (v := ?_) rfl (by kernel_rfl) (by kernel_rfl) (by kernel_rfl) (fun _ _ _ h => h) (Or.inl ⟨by rfl, ?_⟩) (by assumption) ?_
    rotate_left
    · intro wz hSz; (try dsimp only at hSz); go_simp; all_goals (with_reducible rfl)
    (try simp only [Act.put, List.setIfInBounds_toArray, List.set_cons_zero, List.set_cons_succ])
    replace X1 := X1.drew
    replace X2 := X2.drew
    replace XB := XB.drew
    generalize V.drew = V1 at *
    refine wpAnyH_ready (rs := [3, 6, 8]) (by kernel_rfl) (by simp) ?_
    refine AllReadyH.cons (o := { dst := some 9, op := Op.makeSlice 55 (Operand.tmp 8) (Operand.tmp 8), type := 55, pos := "rule.go:26", after := #[{ on := 2, ground := Ground.data }, { on := 2, ground := Ground.data }], guard := none }) rfl (fun K hK => ?_) (AllReadyH.cons (o := { dst := some 12, op := Op.call { callee := Callee.value (Operand.func 31), args := #[Operand.tmp 11], argTypes := #[23] }, type := 23, pos := "rule.go:26", after := #[{ on := 5, ground := Ground.data }], guard := none }) rfl (fun K hK => ?_) (AllReadyH.cons (o := { dst := some 3, op := Op.alloc 57, type := 0, pos := "rule.go:26", after := #[], guard := none }) rfl (fun K hK => ?_) (AllReadyH.nil)))
    · skip
      go_simp
      have hbb : Below V1.heap.size V1 (V1.alloc (.cells (rwA Gr.cs n (grN G 0)) 78)) := belN1
      have gb2 : w.heap.size + 2 ≤ V1.heap.size := by have := X2.1; omega
      replace X1 := X1.below hbb
      replace X2 := X2.below hbb
      replace XB := XB.trans (hbb.mono XB.size)
      have XG : Has (V1.alloc (.cells (rwA Gr.cs n (grN G 0)) 78)) V1.heap.size (rwA Gr.cs n (grN G 0)) := Has.new _ _ _ rfl
      clear hbb
      generalize V1.heap.size = gb at *
      generalize (V1.alloc (.cells (rwA Gr.cs n (grN G 0)) 78)) = Y3 at *
      refine hK.out _ _ ?_ (fun hHeld => ?_)
      · (try dsimp only)
        exact has2b X1
      clear hK K
      (try simp only [Act.put, List.setIfInBounds_toArray, List.set_cons_zero, List.set_cons_succ])
      refine wpAnyH_ready (rs := [6, 8]) (by kernel_rfl) (by simp) ?_
      refine AllReadyH.cons (o := { dst := some 12, op := Op.call { callee := Callee.value (Operand.func 31), args := #[Operand.tmp 11], argTypes := #[23] }, type := 23, pos := "rule.go:26", after := #[{ on := 5, ground := Ground.data }], guard := none }) rfl (fun K hK => ?_) (AllReadyH.cons (o := { dst := some 3, op := Op.alloc 57, type := 0, pos := "rule.go:26", after := #[], guard := none }) rfl (fun K hK => ?_) (AllReadyH.nil))
      · skip
        go_simp
        go_at_call 31
        (with_reducible refine Calls.mono (h31 _ XB) ?_)
        rintro e Y36 ⟨⟨ka, kc, rfl, oC⟩, hbb⟩
        have kg : ∀ q, (Value.slice ka m kc).ownBlock = some q → q ≠ gb := fun q hq e => by have := (own_lt oC q hq).1; have := XG.1; omega
        have hXC := own_base (base' := w.heap.size + 2) oC (by have := X2.1; omega)
        replace X1 := X1.below hbb
        replace X2 := X2.below hbb
        replace XG := XG.below hbb
        replace XB := XB.trans (hbb.mono XB.size)
        have XC := hXC
        clear hXC oC hbb
        go_wp2_with fail
        refine hK.out _ _ ?_ (fun hHeld => ?_)
        · (try dsimp only)
          exact has2b X1
        clear hK K
        (try simp only [Act.put, List.setIfInBounds_toArray, List.set_cons_zero, List.set_cons_succ])
        refine wpAnyH_take (i := 7) (oi := { dst := some 13, op := Op.build 57 #[(0, Operand.tmp 9), (1, Operand.tmp 12)], type := 57, pos := "rule.go:26", after := #[{ on := 3, ground := Ground.data }, { on := 6, ground := Ground.data }], guard := none }) (v := ?_) rfl (by kernel_rfl) (by kernel_rfl) (by kernel_rfl) (fun _ _ _ h => h) (Or.inl ⟨by rfl, ?_⟩) (by assumption) ?_
        rotate_left
        · intro wz hSz; (try dsimp only at hSz); go_simp; all_goals (with_reducible rfl)
        (try simp only [Act.put, List.setIfInBounds_toArray, List.set_cons_zero, List.set_cons_succ])
        refine wpAnyH_ready (rs := [8]) (by kernel_rfl) (by simp) ?_
        refine AllReadyH.cons (o := { dst := some 3, op := Op.alloc 57, type := 0, pos := "rule.go:26", after := #[], guard := none }) rfl (fun K hK => ?_) (AllReadyH.nil)
        · skip
          go_simp
          have hbb : Below Y36.heap.size Y36 (Y36.alloc (.cells #[.slice none 0 0, .slice none 0 0] 57)) := belN1
          have rb2 : w.heap.size + 2 ≤ Y36.heap.size := by have := X2.1; omega
          have gbr : gb ≠ Y36.heap.size := by have := XG.1; omega
          have kr : ∀ q, (Value.slice ka m kc).ownBlock = some q → q ≠ Y36.heap.size := fun q hq e => by have := (own_lt XC q hq).2; omega
          replace X1 := X1.below hbb
          replace X2 := X2.below hbb
          replace XG := XG.below hbb
          replace XC := own_bel XC hbb
          replace XB := XB.trans (hbb.mono XB.size)
          have XR : Has (Y36.alloc (.cells #[.slice none 0 0, .slice none 0 0] 57)) Y36.heap.size #[.slice none 0 0, .slice none 0 0] := Has.new _ _ _ rfl
          clear hbb
          generalize Y36.heap.size = rb at *
          generalize (Y36.alloc (.cells #[.slice none 0 0, .slice none 0 0] 57)) = Y368 at *
          refine hK.out _ _ ?_ (fun hHeld => ?_)
          · (try dsimp only)
            exact has2b X1
          clear hK K
          (try simp only [Act.put, List.setIfInBounds_toArray, List.set_cons_zero, List.set_cons_succ])
          obtain ⟨_, r1, fr⟩ := id XR
          refine wpAnyH_ready (rs := [9]) (by kernel_rfl) (by simp) ?_
          refine AllReadyH.cons (o := { dst := none, op := Op.store 57 (Operand.tmp 3) (Operand.tmp 13), type := 0, pos := "rule.go:26", after := #[{ on := 8, ground := Ground.data }, { on := 7, ground := Ground.data }, { on := 6, ground := Ground.chain }, { on := 0, ground := Ground.phase }, { on := 1, ground := Ground.phase }, { on := 2, ground := Ground.phase }, { on := 3, ground := Ground.phase }, { on := 4, ground := Ground.phase }, { on := 5, ground := Ground.phase }, { on := 6, ground := Ground.phase }, { on := 7, ground := Ground.phase }, { on := 8, ground := Ground.phase }], guard := none }) rfl (fun K hK => ?_) AllReadyH.nil
          go_simp
          refine hK.out _ _ ?_ (fun hHeld => ?_)
          · (try dsimp only)
            exact has2b ((X1.far (by omega) _).far (by omega) _)
          clear hK K
          (try simp only [Act.put, List.setIfInBounds_toArray, List.set_cons_zero, List.set_cons_succ])
          refine wpAnyH_done (by kernel_rfl) ?_ _
          refine NoPanic.normal ?_
          go_wp2_with fail
          go_meet
          exact ⟨rb, gb, ka, kc, rfl, ⟨gb2, rb2, gbr, (X1.far (by omega) _).far (by omega) _, (X2.far (by omega) _).far (by omega) _, (XG.far gbr _).far gbr _, own_only2 XC ((only_of_set _ rb 0 _).trans (only_of_set _ rb 1 _)) (fun q hq e => kr q hq e), XR.set2 _ _, kg, kr, (XB.setCell (p := ⟨rb, 0, none⟩) (by show w.heap.size ≤ rb; omega) _).setCell (p := ⟨rb, 1, none⟩) (by show w.heap.size ≤ rb; omega) _⟩⟩
      · skip
        go_simp
        have hbb : Below Y3.heap.size Y3 (Y3.alloc (.cells #[.slice none 0 0, .slice none 0 0] 57)) := belN1
        have rb2 : w.heap.size + 2 ≤ Y3.heap.size := by have := X2.1; omega
        have gbr : gb ≠ Y3.heap.size := by have := XG.1; omega
        replace X1 := X1.below hbb
        replace X2 := X2.below hbb
        replace XG := XG.below hbb
        replace XB := XB.trans (hbb.mono XB.size)
        have XR : Has (Y3.alloc (.cells #[.slice none 0 0, .slice none 0 0] 57)) Y3.heap.size #[.slice none 0 0, .slice none 0 0] := Has.new _ _ _ rfl
        clear hbb
        generalize Y3.heap.size = rb at *
        generalize (Y3.alloc (.cells #[.slice none 0 0, .slice none 0 0] 57)) = Y38 at *
        refine hK.out _ _ ?_ (fun hHeld => ?_)
        · (try dsimp only)
          exact has2b X1
        clear hK K
        (try simp only [Act.put, List.setIfInBounds_toArray, List.set_cons_zero, List.set_cons_succ])
        refine wpAnyH_ready (rs := [6]) (by kernel_rfl) (by simp) ?_
        refine AllReadyH.cons (o := { dst := some 12, op := Op.call { callee := Callee.value (Operand.func 31), args := #[Operand.tmp 11], argTypes := #[23] }, type := 23, pos := "rule.go:26", after := #[{ on := 5, ground := Ground.data }], guard := none }) rfl (fun K hK => ?_) (AllReadyH.nil)
        · skip
          go_simp
          go_at_call 31
          (with_reducible refine Calls.mono (h31 _ XB) ?_)
          rintro e Y386 ⟨⟨ka, kc, rfl, oC⟩, hbb⟩
          have kg : ∀ q, (Value.slice ka m kc).ownBlock = some q → q ≠ gb := fun q hq e => by have := (own_lt oC q hq).1; have := XG.1; omega
          have kr : ∀ q, (Value.slice ka m kc).ownBlock = some q → q ≠ rb := fun q hq e => by have := (own_lt oC q hq).1; have := XR.1; omega
          have hXC := own_base (base' := w.heap.size + 2) oC (by have := X2.1; omega)
          replace X1 := X1.below hbb
          replace X2 := X2.below hbb
          replace XG := XG.below hbb
          replace XR := XR.below hbb
          replace XB := XB.trans (hbb.mono XB.size)
          have XC := hXC
          clear hXC oC hbb
          go_wp2_with fail
          refine hK.out _ _ ?_ (fun hHeld => ?_)
          · (try dsimp only)
            exact has2b X1
          clear hK K
          (try simp only [Act.put, List.setIfInBounds_toArray, List.set_cons_zero, List.set_cons_succ])
          refine wpAnyH_take (i := 7) (oi := { dst := some 13, op := Op.build 57 #[(0, Operand.tmp 9), (1, Operand.tmp 12)], type := 57, pos := "rule.go:26", after := #[{ on := 3, ground := Ground.data }, { on := 6, ground := Ground.data }], guard := none }) (v := ?_) rfl (by kernel_rfl) (by kernel_rfl) (by kernel_rfl) (fun _ _ _ h => h) (Or.inl ⟨by rfl, ?_⟩) (by assumption) ?_
          rotate_left
          · intro wz hSz; (try dsimp only at hSz); go_simp; all_goals (with_reducible rfl)
          (try simp only [Act.put, List.setIfInBounds_toArray, List.set_cons_zero, List.set_cons_succ])
          obtain ⟨_, r1, fr⟩ := id XR
          refine wpAnyH_ready (rs := [9]) (by kernel_rfl) (by simp) ?_
          refine AllReadyH.cons (o := { dst := none, op := Op.store 57 (Operand.tmp 3) (Operand.tmp 13), type := 0, pos := "rule.go:26", after := #[{ on := 8, ground := Ground.data }, { on := 7, ground := Ground.data }, { on := 6, ground := Ground.chain }, { on := 0, ground := Ground.phase }, { on := 1, ground := Ground.phase }, { on := 2, ground := Ground.phase }, { on := 3, ground := Ground.phase }, { on := 4, ground := Ground.phase }, { on := 5, ground := Ground.phase }, { on := 6, ground := Ground.phase }, { on := 7, ground := Ground.phase }, { on := 8, ground := Ground.phase }], guard := none }) rfl (fun K hK => ?_) AllReadyH.nil
          go_simp
          refine hK.out _ _ ?_ (fun hHeld => ?_)
          · (try dsimp only)
            exact has2b ((X1.far (by omega) _).far (by omega) _)
          clear hK K
          (try simp only [Act.put, List.setIfInBounds_toArray, List.set_cons_zero, List.set_cons_succ])
          refine wpAnyH_done (by kernel_rfl) ?_ _
          refine NoPanic.normal ?_
          go_wp2_with fail
          go_meet
          exact ⟨rb, gb, ka, kc, rfl, ⟨gb2, rb2, gbr, (X1.far (by omega) _).far (by omega) _, (X2.far (by omega) _).far (by omega) _, (XG.far gbr _).far gbr _, own_only2 XC ((only_of_set _ rb 0 _).trans (only_of_set _ rb 1 _)) (fun q hq e => kr q hq e), XR.set2 _ _, kg, kr, (XB.setCell (p := ⟨rb, 0, none⟩) (by show w.heap.size ≤ rb; omega) _).setCell (p := ⟨rb, 1, none⟩) (by show w.heap.size ≤ rb; omega) _⟩⟩
    · skip
      go_simp
      go_at_call 31
      (with_reducible refine Calls.mono (h31 _ XB) ?_)
      rintro e Y6 ⟨⟨ka, kc, rfl, oC⟩, hbb⟩
      have hXC := own_base (base' := w.heap.size + 2) oC (by have := X2.1; omega)
      replace X1 := X1.below hbb
      replace X2 := X2.below hbb
      replace XB := XB.trans (hbb.mono XB.size)
      have XC := hXC
      clear hXC oC hbb
      go_wp2_with fail
      refine hK.out _ _ ?_ (fun hHeld => ?_)
      · (try dsimp only)
        exact has2b X1
      clear hK K
      (try simp only [Act.put, List.setIfInBounds_toArray, List.set_cons_zero, List.set_cons_succ])
      refine wpAnyH_ready (rs := [3, 8]) (by kernel_rfl) (by simp) ?_
      refine AllReadyH.cons (o := { dst := some 9, op := Op.makeSlice 55 (Operand.tmp 8) (Operand.tmp 8), type := 55, pos := "rule.go:26", after := #[{ on := 2, ground := Ground.data }, { on := 2, ground := Ground.data }], guard := none }) rfl (fun K hK => ?_) (AllReadyH.cons (o := { dst := some 3, op := Op.alloc 57, type := 0, pos := "rule.go:26", after := #[], guard := none }) rfl (fun K hK => ?_) (AllReadyH.nil))
      · skip
        go_simp
        have hbb : Below Y6.heap.size Y6 (Y6.alloc (.cells (rwA Gr.cs n (grN G 0)) 78)) := belN1
        have gb2 : w.heap.size + 2 ≤ Y6.heap.size := by have := X2.1; omega
        have kg : ∀ q, (Value.slice ka m kc).ownBlock = some q → q ≠ Y6.heap.size := fun q hq e => by have := (own_lt XC q hq).2; omega
        replace X1 := X1.below hbb
        replace X2 := X2.below hbb
        replace XC := own_bel XC hbb
        replace XB := XB.trans (hbb.mono XB.size)
        have XG : Has (Y6.alloc (.cells (rwA Gr.cs n (grN G 0)) 78)) Y6.heap.size (rwA Gr.cs n (grN G 0)) := Has.new _ _ _ rfl
        clear hbb
        generalize Y6.heap.size = gb at *
        generalize (Y6.alloc (.cells (rwA Gr.cs n (grN G 0)) 78)) = Y63 at *
        refine hK.out _ _ ?_ (fun hHeld => ?_)
        · (try dsimp only)
          exact has2b X1
        clear hK K
        (try simp only [Act.put, List.setIfInBounds_toArray, List.set_cons_zero, List.set_cons_succ])
        refine wpAnyH_take (i := 7) (oi := { dst := some 13, op := Op.build 57 #[(0, Operand.tmp 9), (1, Operand.tmp 12)], type := 57, pos := "rule.go:26", after := #[{ on := 3, ground := Ground.data }, { on := 6, ground := Ground.data }], guard := none }) (v := ?_) rfl (by kernel_rfl) (by kernel_rfl) (by kernel_rfl) (fun _ _ _ h => h) (Or.inl ⟨by rfl, ?_⟩) (by assumption) ?_
        rotate_left
        · intro wz hSz; (try dsimp only at hSz); go_simp; all_goals (with_reducible rfl)
        (try simp only [Act.put, List.setIfInBounds_toArray, List.set_cons_zero, List.set_cons_succ])
        refine wpAnyH_ready (rs := [8]) (by kernel_rfl) (by simp) ?_
        refine AllReadyH.cons (o := { dst := some 3, op := Op.alloc 57, type := 0, pos := "rule.go:26", after := #[], guard := none }) rfl (fun K hK => ?_) (AllReadyH.nil)
        · skip
          go_simp
          have hbb : Below Y63.heap.size Y63 (Y63.alloc (.cells #[.slice none 0 0, .slice none 0 0] 57)) := belN1
          have rb2 : w.heap.size + 2 ≤ Y63.heap.size := by have := X2.1; omega
          have gbr : gb ≠ Y63.heap.size := by have := XG.1; omega
          have kr : ∀ q, (Value.slice ka m kc).ownBlock = some q → q ≠ Y63.heap.size := fun q hq e => by have := (own_lt XC q hq).2; omega
          replace X1 := X1.below hbb
          replace X2 := X2.below hbb
          replace XG := XG.below hbb
          replace XC := own_bel XC hbb
          replace XB := XB.trans (hbb.mono XB.size)
          have XR : Has (Y63.alloc (.cells #[.slice none 0 0, .slice none 0 0] 57)) Y63.heap.size #[.slice none 0 0, .slice none 0 0] := Has.new _ _ _ rfl
          clear hbb
          generalize Y63.heap.size = rb at *
          generalize (Y63.alloc (.cells #[.slice none 0 0, .slice none 0 0] 57)) = Y638 at *
          refine hK.out _ _ ?_ (fun hHeld => ?_)
          · (try dsimp only)
            exact has2b X1
          clear hK K
          (try simp only [Act.put, List.setIfInBounds_toArray, List.set_cons_zero, List.set_cons_succ])
          obtain ⟨_, r1, fr⟩ := id XR
          refine wpAnyH_ready (rs := [9]) (by kernel_rfl) (by simp) ?_
          refine AllReadyH.cons (o := { dst := none, op := Op.store 57 (Operand.tmp 3) (Operand.tmp 13), type := 0, pos := "rule.go:26", after := #[{ on := 8, ground := Ground.data }, { on := 7, ground := Ground.data }, { on := 6, ground := Ground.chain }, { on := 0, ground := Ground.phase }, { on := 1, ground := Ground.phase }, { on := 2, ground := Ground.phase }, { on := 3, ground := Ground.phase }, { on := 4, ground := Ground.phase }, { on := 5, ground := Ground.phase }, { on := 6, ground := Ground.phase }, { on := 7, ground := Ground.phase }, { on := 8, ground := Ground.phase }], guard := none }) rfl (fun K hK => ?_) AllReadyH.nil
          go_simp
          refine hK.out _ _ ?_ (fun hHeld => ?_)
          · (try dsimp only)
            exact has2b ((X1.far (by omega) _).far (by omega) _)
          clear hK K
          (try simp only [Act.put, List.setIfInBounds_toArray, List.set_cons_zero, List.set_cons_succ])
          refine wpAnyH_done (by kernel_rfl) ?_ _
          refine NoPanic.normal ?_
          go_wp2_with fail
          go_meet
          exact ⟨rb, gb, ka, kc, rfl, ⟨gb2, rb2, gbr, (X1.far (by omega) _).far (by omega) _, (X2.far (by omega) _).far (by omega) _, (XG.far gbr _).far gbr _, own_only2 XC ((only_of_set _ rb 0 _).trans (only_of_set _ rb 1 _)) (fun q hq e => kr q hq e), XR.set2 _ _, kg, kr, (XB.setCell (p := ⟨rb, 0, none⟩) (by show w.heap.size ≤ rb; omega) _).setCell (p := ⟨rb, 1, none⟩) (by show w.heap.size ≤ rb; omega) _⟩⟩
      · skip
        go_simp
        have hbb : Below Y6.heap.size Y6 (Y6.alloc (.cells #[.slice none 0 0, .slice none 0 0] 57)) := belN1
        have rb2 : w.heap.size + 2 ≤ Y6.heap.size := by have := X2.1; omega
        have kr : ∀ q, (Value.slice ka m kc).ownBlock = some q → q ≠ Y6.heap.size := fun q hq e => by have := (own_lt XC q hq).2; omega
        replace X1 := X1.below hbb
        replace X2 := X2.below hbb
        replace XC := own_bel XC hbb
        replace XB := XB.trans (hbb.mono XB.size)
        have XR : Has (Y6.alloc (.cells #[.slice none 0 0, .slice none 0 0] 57)) Y6.heap.size #[.slice none 0 0, .slice none 0 0] := Has.new _ _ _ rfl
        clear hbb
        generalize Y6.heap.size = rb at *
        generalize (Y6.alloc (.cells #[.slice none 0 0, .slice none 0 0] 57)) = Y68 at *
        refine hK.out _ _ ?_ (fun hHeld => ?_)
        · (try dsimp only)
          exact has2b X1
        clear hK K
        (try simp only [Act.put, List.setIfInBounds_toArray, List.set_cons_zero, List.set_cons_succ])
        refine wpAnyH_ready (rs := [3]) (by kernel_rfl) (by simp) ?_
        refine AllReadyH.cons (o := { dst := some 9, op := Op.makeSlice 55 (Operand.tmp 8) (Operand.tmp 8), type := 55, pos := "rule.go:26", after := #[{ on := 2, ground := Ground.data }, { on := 2, ground := Ground.data }], guard := none }) rfl (fun K hK => ?_) (AllReadyH.nil)
        · skip
          go_simp
          have hbb : Below Y68.heap.size Y68 (Y68.alloc (.cells (rwA Gr.cs n (grN G 0)) 78)) := belN1
          have gb2 : w.heap.size + 2 ≤ Y68.heap.size := by have := X2.1; omega
          have gbr : Y68.heap.size ≠ rb := by have := XR.1; omega
          have kg : ∀ q, (Value.slice ka m kc).ownBlock = some q → q ≠ Y68.heap.size := fun q hq e => by have := (own_lt XC q hq).2; omega
          replace X1 := X1.below hbb
          replace X2 := X2.below hbb
          replace XC := own_bel XC hbb
          replace XR := XR.below hbb
          replace XB := XB.trans (hbb.mono XB.size)
          have XG : Has (Y68.alloc (.cells (rwA Gr.cs n (grN G 0)) 78)) Y68.heap.size (rwA Gr.cs n (grN G 0)) := Has.new _ _ _ rfl
          clear hbb
          generalize Y68.heap.size = gb at *
          generalize (Y68.alloc (.cells (rwA Gr.cs n (grN G 0)) 78)) = Y683 at *
          refine hK.out _ _ ?_ (fun hHeld => ?_)
          · (try dsimp only)
            exact has2b X1
          clear hK K
          (try simp only [Act.put, List.setIfInBounds_toArray, List.set_cons_zero, List.set_cons_succ])
          refine wpAnyH_take (i := 7) (oi := { dst := some 13, op := Op.build 57 #[(0, Operand.tmp 9), (1, Operand.tmp 12)], type := 57, pos := "rule.go:26", after := #[{ on := 3, ground := Ground.data }, { on := 6, ground := Ground.data }], guard := none }) (v := ?_) rfl (by kernel_rfl) (by kernel_rfl) (by kernel_rfl) (fun _ _ _ h => h) (Or.inl ⟨by rfl, ?_⟩) (by assumption) ?_
          rotate_left
          · intro wz hSz; (try dsimp only at hSz); go_simp; all_goals (with_reducible rfl)
          (try simp only [Act.put, List.setIfInBounds_toArray, List.set_cons_zero, List.set_cons_succ])
          obtain ⟨_, r1, fr⟩ := id XR
          refine wpAnyH_ready (rs := [9]) (by kernel_rfl) (by simp) ?_
          refine AllReadyH.cons (o := { dst := none, op := Op.store 57 (Operand.tmp 3) (Operand.tmp 13), type := 0, pos := "rule.go:26", after := #[{ on := 8, ground := Ground.data }, { on := 7, ground := Ground.data }, { on := 6, ground := Ground.chain }, { on := 0, ground := Ground.phase }, { on := 1, ground := Ground.phase }, { on := 2, ground := Ground.phase }, { on := 3, ground := Ground.phase }, { on := 4, ground := Ground.phase }, { on := 5, ground := Ground.phase }, { on := 6, ground := Ground.phase }, { on := 7, ground := Ground.phase }, { on := 8, ground := Ground.phase }], guard := none }) rfl (fun K hK => ?_) AllReadyH.nil
          go_simp
          refine hK.out _ _ ?_ (fun hHeld => ?_)
          · (try dsimp only)
            exact has2b ((X1.far (by omega) _).far (by omega) _)
          clear hK K
          (try simp only [Act.put, List.setIfInBounds_toArray, List.set_cons_zero, List.set_cons_succ])
          refine wpAnyH_done (by kernel_rfl) ?_ _
          refine NoPanic.normal ?_
          go_wp2_with fail
          go_meet
          exact ⟨rb, gb, ka, kc, rfl, ⟨gb2, rb2, gbr, (X1.far (by omega) _).far (by omega) _, (X2.far (by omega) _).far (by omega) _, (XG.far gbr _).far gbr _, own_only2 XC ((only_of_set _ rb 0 _).trans (only_of_set _ rb 1 _)) (fun q hq e => kr q hq e), XR.set2 _ _, kg, kr, (XB.setCell (p := ⟨rb, 0, none⟩) (by show w.heap.size ≤ rb; omega) _).setCell (p := ⟨rb, 1, none⟩) (by show w.heap.size ≤ rb; omega) _⟩⟩
    · skip
      go_simp
      have hbb : Below V1.heap.size V1 (V1.alloc (.cells #[.slice none 0 0, .slice none 0 0] 57)) := belN1
      have rb2 : w.heap.size + 2 ≤ V1.heap.size := by have := X2.1; omega
      replace X1 := X1.below hbb
      replace X2 := X2.below hbb
      replace XB := XB.trans (hbb.mono XB.size)
      have XR : Has (V1.alloc (.cells #[.slice none 0 0, .slice none 0 0] 57)) V1.heap.size #[.slice none 0 0, .slice none 0 0] := Has.new _ _ _ rfl
      clear hbb
      generalize V1.heap.size = rb at *
      generalize (V1.alloc (.cells #[.slice none 0 0, .slice none 0 0] 57)) = Y8 at *
      refine hK.out _ _ ?_ (fun hHeld => ?_)
      · (try dsimp only)
        exact has2b X1
      clear hK K
      (try simp only [Act.put, List.setIfInBounds_toArray, List.set_cons_zero, List.set_cons_succ])
      refine wpAnyH_ready (rs := [3, 6]) (by kernel_rfl) (by simp) ?_
      refine AllReadyH.cons (o := { dst := some 9, op := Op.makeSlice 55 (Operand.tmp 8) (Operand.tmp 8), type := 55, pos := "rule.go:26", after := #[{ on := 2, ground := Ground.data }, { on := 2, ground := Ground.data }], guard := none }) rfl (fun K hK => ?_) (AllReadyH.cons (o := { dst := some 12, op := Op.call { callee := Callee.value (Operand.func 31), args := #[Operand.tmp 11], argTypes := #[23] }, type := 23, pos := "rule.go:26", after := #[{ on := 5, ground := Ground.data }], guard := none }) rfl (fun K hK => ?_) (AllReadyH.nil))
      · skip
        go_simp
        have hbb : Below Y8.heap.size Y8 (Y8.alloc (.cells (rwA Gr.cs n (grN G 0)) 78)) := belN1
        have gb2 : w.heap.size + 2 ≤ Y8.heap.size := by have := X2.1; omega
        have gbr : Y8.heap.size ≠ rb := by have := XR.1; omega
        replace X1 := X1.below hbb
        replace X2 := X2.below hbb
        replace XR := XR.below hbb
        replace XB := XB.trans (hbb.mono XB.size)
        have XG : Has (Y8.alloc (.cells (rwA Gr.cs n (grN G 0)) 78)) Y8.heap.size (rwA Gr.cs n (grN G 0)) := Has.new _ _ _ rfl
        clear hbb
        generalize Y8.heap.size = gb at *
        generalize (Y8.alloc (.cells (rwA Gr.cs n (grN G 0)) 78)) = Y83 at *
        refine hK.out _ _ ?_ (fun hHeld => ?_)
        · (try dsimp only)
          exact has2b X1
        clear hK K
        (try simp only [Act.put, List.setIfInBounds_toArray, List.set_cons_zero, List.set_cons_succ])
        refine wpAnyH_ready (rs := [6]) (by kernel_rfl) (by simp) ?_
        refine AllReadyH.cons (o := { dst := some 12, op := Op.call { callee := Callee.value (Operand.func 31), args := #[Operand.tmp 11], argTypes := #[23] }, type := 23, pos := "rule.go:26", after := #[{ on := 5, ground := Ground.data }], guard := none }) rfl (fun K hK => ?_) (AllReadyH.nil)
        · skip
          go_simp
          go_at_call 31
          (with_reducible refine Calls.mono (h31 _ XB) ?_)
          rintro e Y836 ⟨⟨ka, kc, rfl, oC⟩, hbb⟩
          have kg : ∀ q, (Value.slice ka m kc).ownBlock = some q → q ≠ gb := fun q hq e => by have := (own_lt oC q hq).1; have := XG.1; omega
          have kr : ∀ q, (Value.slice ka m kc).ownBlock = some q → q ≠ rb := fun q hq e => by have := (own_lt oC q hq).1; have := XR.1; omega
          have hXC := own_base (base' := w.heap.size + 2) oC (by have := X2.1; omega)
          replace X1 := X1.below hbb
          replace X2 := X2.below hbb
          replace XG := XG.below hbb
          replace XR := XR.below hbb
          replace XB := XB.trans (hbb.mono XB.size)
          have XC := hXC
          clear hXC oC hbb
          go_wp2_with fail
          refine hK.out _ _ ?_ (fun hHeld => ?_)
          · (try dsimp only)
            exact has2b X1
          clear hK K
          (try simp only [Act.put, List.setIfInBounds_toArray, List.set_cons_zero, List.set_cons_succ])
          refine wpAnyH_take (i := 7) (oi := { dst := some 13, op := Op.build 57 #[(0, Operand.tmp 9), (1, Operand.tmp 12)], type := 57, pos := "rule.go:26", after := #[{ on := 3, ground := Ground.data }, { on := 6, ground := Ground.data }], guard := none }) (v := ?_) rfl (by kernel_rfl) (by kernel_rfl) (by kernel_rfl) (fun _ _ _ h => h) (Or.inl ⟨by rfl, ?_⟩) (by assumption) ?_
          rotate_left
          · intro wz hSz; (try dsimp only at hSz); go_simp; all_goals (with_reducible rfl)
          (try simp only [Act.put, List.setIfInBounds_toArray, List.set_cons_zero, List.set_cons_succ])
          obtain ⟨_, r1, fr⟩ := id XR
          refine wpAnyH_ready (rs := [9]) (by kernel_rfl) (by simp) ?_
          refine AllReadyH.cons (o := { dst := none, op := Op.store 57 (Operand.tmp 3) (Operand.tmp 13), type := 0, pos := "rule.go:26", after := #[{ on := 8, ground := Ground.data }, { on := 7, ground := Ground.data }, { on := 6, ground := Ground.chain }, { on := 0, ground := Ground.phase }, { on := 1, ground := Ground.phase }, { on := 2, ground := Ground.phase }, { on := 3, ground := Ground.phase }, { on := 4, ground := Ground.phase }, { on := 5, ground := Ground.phase }, { on := 6, ground := Ground.phase }, { on := 7, ground := Ground.phase }, { on := 8, ground := Ground.phase }], guard := none }) rfl (fun K hK => ?_) AllReadyH.nil
          go_simp
          refine hK.out _ _ ?_ (fun hHeld => ?_)
          · (try dsimp only)
            exact has2b ((X1.far (by omega) _).far (by omega) _)
          clear hK K
          (try simp only [Act.put, List.setIfInBounds_toArray, List.set_cons_zero, List.set_cons_succ])
          refine wpAnyH_done (by kernel_rfl) ?_ _
          refine NoPanic.normal ?_
          go_wp2_with fail
          go_meet
          exact ⟨rb, gb, ka, kc, rfl, ⟨gb2, rb2, gbr, (X1.far (by omega) _).far (by omega) _, (X2.far (by omega) _).far (by omega) _, (XG.far gbr _).far gbr _, own_only2 XC ((only_of_set _ rb 0 _).trans (only_of_set _ rb 1 _)) (fun q hq e => kr q hq e), XR.set2 _ _, kg, kr, (XB.setCell (p := ⟨rb, 0, none⟩) (by show w.heap.size ≤ rb; omega) _).setCell (p := ⟨rb, 1, none⟩) (by show w.heap.size ≤ rb; omega) _⟩⟩
      · skip
        go_simp
        go_at_call 31
        (with_reducible refine Calls.mono (h31 _ XB) ?_)
        rintro e Y86 ⟨⟨ka, kc, rfl, oC⟩, hbb⟩
        have kr : ∀ q, (Value.slice ka m kc).ownBlock = some q → q ≠ rb := fun q hq e => by have := (own_lt oC q hq).1; have := XR.1; omega
        have hXC := own_base (base' := w.heap.size + 2) oC (by have := X2.1; omega)
        replace X1 := X1.below hbb
        replace X2 := X2.below hbb
        replace XR := XR.below hbb
        replace XB := XB.trans (hbb.mono XB.size)
        have XC := hXC
        clear hXC oC hbb
        go_wp2_with fail
        refine hK.out _ _ ?_ (fun hHeld => ?_)
        · (try dsimp only)
          exact has2b X1
        clear hK K
        (try simp only [Act.put, List.setIfInBounds_toArray, List.set_cons_zero, List.set_cons_succ])
        refine wpAnyH_ready (rs := [3]) (by kernel_rfl) (by simp) ?_
        refine AllReadyH.cons (o := { dst := some 9, op := Op.makeSlice 55 (Operand.tmp 8) (Operand.tmp 8), type := 55, pos := "rule.go:26", after := #[{ on := 2, ground := Ground.data }, { on := 2, ground := Ground.data }], guard := none }) rfl (fun K hK => ?_) (AllReadyH.nil)
        · skip
          go_simp
          have hbb : Below Y86.heap.size Y86 (Y86.alloc (.cells (rwA Gr.cs n (grN G 0)) 78)) := belN1
          have gb2 : w.heap.size + 2 ≤ Y86.heap.size := by have := X2.1; omega
          have gbr : Y86.heap.size ≠ rb := by have := XR.1; omega
          have kg : ∀ q, (Value.slice ka m kc).ownBlock = some q → q ≠ Y86.heap.size := fun q hq e => by have := (own_lt XC q hq).2; omega
          replace X1 := X1.below hbb
          replace X2 := X2.below hbb
          replace XC := own_bel XC hbb
          replace XR := XR.below hbb
          replace XB := XB.trans (hbb.mono XB.size)
          have XG : Has (Y86.alloc (.cells (rwA Gr.cs n (grN G 0)) 78)) Y86.heap.size (rwA Gr.cs n (grN G 0)) := Has.new _ _ _ rfl
          clear hbb
          generalize Y86.heap.size = gb at *
          generalize (Y86.alloc (.cells (rwA Gr.cs n (grN G 0)) 78)) = Y863 at *
          refine hK.out _ _ ?_ (fun hHeld => ?_)
          · (try dsimp only)
            exact has2b X1
          clear hK K
          (try simp only [Act.put, List.setIfInBounds_toArray, List.set_cons_zero, List.set_cons_succ])
          refine wpAnyH_take (i := 7) (oi := { dst := some 13, op := Op.build 57 #[(0, Operand.tmp 9), (1, Operand.tmp 12)], type := 57, pos := "rule.go:26", after := #[{ on := 3, ground := Ground.data }, { on := 6, ground := Ground.data }], guard := none }) (v := ?_) rfl (by kernel_rfl) (by kernel_rfl) (by kernel_rfl) (fun _ _ _ h => h) (Or.inl ⟨by rfl, ?_⟩) (by assumption) ?_
          rotate_left
          · intro wz hSz; (try dsimp only at hSz); go_simp; all_goals (with_reducible rfl)
          (try simp only [Act.put, List.setIfInBounds_toArray, List.set_cons_zero, List.set_cons_succ])
          obtain ⟨_, r1, fr⟩ := id XR
          refine wpAnyH_ready (rs := [9]) (by kernel_rfl) (by simp) ?_
          refine AllReadyH.cons (o := { dst := none, op := Op.store 57 (Operand.tmp 3) (Operand.tmp 13), type := 0, pos := "rule.go:26", after := #[{ on := 8, ground := Ground.data }, { on := 7, ground := Ground.data }, { on := 6, ground := Ground.chain }, { on := 0, ground := Ground.phase }, { on := 1, ground := Ground.phase }, { on := 2, ground := Ground.phase }, { on := 3, ground := Ground.phase }, { on := 4, ground := Ground.phase }, { on := 5, ground := Ground.phase }, { on := 6, ground := Ground.phase }, { on := 7, ground := Ground.phase }, { on := 8, ground := Ground.phase }], guard := none }) rfl (fun K hK => ?_) AllReadyH.nil
          go_simp
          refine hK.out _ _ ?_ (fun hHeld => ?_)
          · (try dsimp only)
            exact has2b ((X1.far (by omega) _).far (by omega) _)
          clear hK K
          (try simp only [Act.put, List.setIfInBounds_toArray, List.set_cons_zero, List.set_cons_succ])
          refine wpAnyH_done (by kernel_rfl) ?_ _
          refine NoPanic.normal ?_
          go_wp2_with fail
          go_meet
          exact ⟨rb, gb, ka, kc, rfl, ⟨gb2, rb2, gbr, (X1.far (by omega) _).far (by omega) _, (X2.far (by omega) _).far (by omega) _, (XG.far gbr _).far gbr _, own_only2 XC ((only_of_set _ rb 0 _).trans (only_of_set _ rb 1 _)) (fun q hq e => kr q hq e), XR.set2 _ _, kg, kr, (XB.setCell (p := ⟨rb, 0, none⟩) (by show w.heap.size ≤ rb; omega) _).setCell (p := ⟨rb, 1, none⟩) (by show w.heap.size ≤ rb; omega) _⟩⟩

  case rest =>
    obtain ⟨rb, gb, ka, kc, rfl, hS⟩ := hcut
    clear X1 X2 XB mk h31
    obtain ⟨_, i1, _⟩ := id hS.x1
    go_wp2
    go_loopg [17] n (fun gk v wr => ∃ k : Nat, k + gk = n ∧ v = .int .i64 (k : Int) ∧ Hid (RS w wr n m (.slice ga n gc) (.slice ca m qc) rb gb ka kc C (grN G k)))
    case atStart => exact ⟨0, by omega, rfl, hS⟩
    case round =>
      clear hS i1
      obtain ⟨k, hk, rfl, hS⟩ := hrel
      obtain ⟨_, i2, _⟩ := id hS.out.xr
      cases gk with
      | zero =>
        obtain rfl : k = n := by omega
        have hS2 := hS.out
        clear hS
        obtain ⟨_, i3, f3⟩ := id hS2.x2
        have eG : rwA Gr.cs k (grN G k) = rwA Gr.cs k (grF G) := by
          unfold rwA
          congr 2
          apply List.map_congr_left
          intro j hj
          simp [grN, List.mem_range.1 hj]
        have g2 := hS2.gb2
        go_wp2
        refine bodyPost_ret (v := .agg #[.slice (some ⟨gb, 0, none⟩) k k, .slice ka m kc]) (by simp [results, Try.results19, go_sem, i3]) rfl ⟨⟨gb, ka, kc, rfl, by omega, ?_, ?_⟩, ?_⟩
        · rw [← eG]
          exact (hS2.xg.far (by omega) _).far (by omega) _
        · exact own_only2 (own_base hS2.xc (by omega)) ((only_of_set _ (w.heap.size + 1) 0 _).trans (only_of_set _ (w.heap.size + 1) 1 _)) (fun q hq e => by have := (own_lt hS2.xc q hq).1; omega)
        · exact (hS2.xb.setCell (p := ⟨w.heap.size + 1, 0, none⟩) (by show w.heap.size ≤ w.heap.size + 1; omega) _).setCell (p := ⟨w.heap.size + 1, 1, none⟩) (by show w.heap.size ≤ w.heap.size + 1; omega) _
      | succ g =>
        have hkn : k < n := by omega
        have hkG : k < G.length := by have := hn'.out; omega
        obtain ⟨g0, o0, rfl, hg, P⟩ := kG.resolve_left (by intro e; rw [e] at hkG; simp at hkG)
        have p0 := (hS.out.xb.cell (p := ⟨g0, _, none⟩) hg).trans (P k hkG 0 _ rfl)
        have p1 := (hS.out.xb.cell (p := ⟨g0, _, none⟩) hg).trans (P k hkG 1 _ rfl)
        have p2 := (hS.out.xb.cell (p := ⟨g0, _, none⟩) hg).trans (P k hkG 2 _ rfl)
        have p3 := (hS.out.xb.cell (p := ⟨g0, _, none⟩) hg).trans (P k hkG 3 _ rfl)
        have p4 := (hS.out.xb.cell (p := ⟨g0, _, none⟩) hg).trans (P k hkG 4 _ rfl)
        simp only [Nat.add_zero] at p0
        have eRk : grF G k = ⟨k, G[k].min, G[k].amber, G[k].lead⟩ := by unfold grF; rw [List.getD_eq_getElem?_getD, List.getElem?_eq_getElem hkG]; rfl
        generalize hx : G[k] = x at *
        have S1 := hS.out.below (belN1 (o1 := .cells #[.string x.name, .int .i64 x.sort, .int .i64 x.min, .int .i64 x.amber, .int .i64 x.lead] 66))
        have S2 := S1.stored hkn ⟨k, x.min, x.amber, x.lead⟩
        rw [← eRk, grN_step, eRk] at S2
        dsimp only at S2
        have z0 : ∀ (j : Nat) (v : Value), j < 4 → (gr0.cs)[j]? = some v → (rwA Gr.cs n (grN G k))[k * 4 + j]? = some v := fun j v hj h => by rw [rwA_get gr_len n (grN G k) hkn hj, show grN G k k = gr0 by simp [grN]]; exact h
        have r0 := S1.xg.reads (z0 0 _ (by decide) rfl)
        have r1 := S1.xg.reads (z0 1 _ (by decide) rfl)
        have r2 := S1.xg.reads (z0 2 _ (by decide) rfl)
        have r3 := S1.xg.reads (z0 3 _ (by decide) rfl)
        have fz := S1.xg.2.2
        simp only [Nat.add_zero] at r0
        obtain ⟨_, i2, _⟩ := id S1.xr
        have HG : Has (wr.alloc (.cells #[.string x.name, .int .i64 x.sort, .int .i64 x.min, .int .i64 x.amber, .int .i64 x.lead] 66)) wr.heap.size #[.string x.name, .int .i64 x.sort, .int .i64 x.min, .int .i64 x.amber, .int .i64 x.lead] := Has.new _ _ _ rfl
        obtain ⟨_, i4, _⟩ := id HG
        clear hS P kG kC S1 HG
        go_upto_region 5 with fail
        generalize (wr.alloc (.cells #[.string x.name, .int .i64 x.sort, .int .i64 x.min, .int .i64 x.amber, .int .i64 x.lead] 66)) = V5 at *
        go_wp2
        go_roundg g
        case measure => omega
        case rel => exact ⟨k + 1, by omega, by push_cast; rfl, S2⟩
end Go.Proofs.Ytoaokpmnjppfcaa
