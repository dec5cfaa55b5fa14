import Derived.Test.YtahheagfgfpdmaaRgE
namespace Go.Proofs.Ytahheagfgfpdmaa
open Go.RowKit
set_option linter.unusedVariables false
set_option linter.unusedSimpArgs false


theorem By.at {S : Nat → Prop} {w : World} {va : Option Addr} {n c k : Nat} {L : List Int} (h : By S w (.slice va n c) L) (hk : k < L.length) : ∃ g o, va = some ⟨g, o, none⟩ ∧ S g ∧ g < w.heap.size ∧ w.cell? ⟨g, o + k, none⟩ = some (.int .u8 L[k]) := by
  obtain ⟨a, cap, e, -, -, -, h4⟩ := h
  injection e with e _ _
  obtain ⟨g, o, e2, hS, hg, hx⟩ := h4.resolve_left (by intro e; rw [e] at hk; simp at hk)
  exact ⟨g, o, e.trans e2, hS, hg, hx k hk⟩
set_option maxRecDepth 100000 in
set_option maxHeartbeats 2000000 in
theorem bytes_any (S S' : Nat → Prop) (L : List Int) (n : Nat) (va vb : Option Addr) (ca cb : Nat) (w : World) (hn : L.length = n) (h1 : By S w (.slice va n ca) L) (h2 : By S' w (.slice vb n cb) L) (hl : n ≤ 140737488355328) :
    Calls Try.prog 7 #[.slice va n ca, .slice vb n cb] w fun e w' => e = .returned (.bool true) ∧ Below w.heap.size w w' := by
  have H1 := fun (X : World) (hX : Below w.heap.size w X) => h1.keep (Mv.below hX)
  have H2 := fun (X : World) (hX : Below w.heap.size w X) => h2.keep (Mv.below hX)
  clear h1 h2
  have hn' : Hid (L.length = n) := hn
  clear hn
  go_enter Try.func7, Try.ntmps7
  go_wp2_with fail
  go_loopw [5] (fun s wr => ∃ k : Nat, k ≤ n ∧ s = .int .i64 (k : Int) ∧ Hid (Below w.heap.size w wr)) (fun s _ => n - (intOf s).toNat)
  case atStart => exact ⟨0, by omega, rfl, Below.refl _ _⟩
  case round =>
    obtain ⟨k, hk, rfl, hb'⟩ := hrel
    have hb := hb'.out
    by_cases hlt : k < n
    case neg =>
      have t1 : ¬ (k : Int) < (n : Int) := by omega
      go_wp2_with fail
      go_ret
      exact ⟨rfl, hb⟩
    have t1 : (k : Int) < (n : Int) := by omega
    have t2 : (0 : Int) ≤ (k : Int) := by omega
    obtain ⟨ga, oa, rfl, -, -, x1⟩ := (H1 wr hb).at (by rw [hn'.out]; exact hlt)
    obtain ⟨gb, ob, rfl, -, -, x2⟩ := (H2 wr hb).at (by rw [hn'.out]; exact hlt)
    generalize L[k]'(by rw [hn'.out]; exact hlt) = x at x1 x2
    go_upto_region 6 with fail
    refine wp_region_noPanic ?_
    refine wp_region_held_drew (S := fun w' => w'.cell? ⟨ga, oa + k, none⟩ = some (.int .u8 x) ∧ w'.cell? ⟨gb, ob + k, none⟩ = some (.int .u8 x)) (by kernel_rfl) ?_ (fun hHeld => ?_)
    · (try dsimp only)
      exact ⟨x1, x2⟩
    refine wpAnyH_take (i := 0) (oi := { dst := some 17, op := Op.move (Operand.tmp 0), type := 23, pos := "wirelaw.go:15", after := #[], guard := none }) (v := ?_) rfl (by kernel_rfl) (by kernel_rfl) (by kernel_rfl) (fun _ _ _ h => h) (Or.inl ⟨by rfl, ?_⟩) (by assumption) ?_
    rotate_left
    · intro wz hSz; (try dsimp only at hSz); go_simp; all_goals (with_reducible rfl)
    (try simp only [Act.put, List.setIfInBounds_toArray, List.set_cons_zero, List.set_cons_succ])
    refine wpAnyH_take (i := 1) (oi := { dst := some 18, op := Op.move (Operand.tmp 5), type := 3, pos := "wirelaw.go:15", after := #[], guard := none }) (v := ?_) rfl (by kernel_rfl) (by kernel_rfl) (by kernel_rfl) (fun _ _ _ h => h) (Or.inl ⟨by rfl, ?_⟩) (by assumption) ?_
    rotate_left
    · intro wz hSz; (try dsimp only at hSz); go_simp; all_goals (with_reducible rfl)
    (try simp only [Act.put, List.setIfInBounds_toArray, List.set_cons_zero, List.set_cons_succ])
    refine wpAnyH_take (i := 2) (oi := { dst := some 19, op := Op.indexAddr 23 (Operand.tmp 17) (Operand.tmp 18), type := 0, pos := "wirelaw.go:15", after := #[{ on := 0, ground := Ground.data }, { on := 1, ground := Ground.data }], guard := none }) (v := ?_) rfl (by kernel_rfl) (by kernel_rfl) (by kernel_rfl) (fun _ _ _ h => h) (Or.inl ⟨by rfl, ?_⟩) (by assumption) ?_
    rotate_left
    · intro wz hSz; (try dsimp only at hSz); go_simp; all_goals (with_reducible rfl)
    (try simp only [Act.put, List.setIfInBounds_toArray, List.set_cons_zero, List.set_cons_succ])
    refine wpAnyH_take (i := 3) (oi := { dst := some 20, op := Op.load 5 (Operand.tmp 19), type := 5, pos := "wirelaw.go:15", after := #[{ on := 2, ground := Ground.data }], guard := none }) (v := ?_) rfl (by kernel_rfl) (by kernel_rfl) (by kernel_rfl) (fun _ _ _ h => h) (Or.inl ⟨by rfl, ?_⟩) (by assumption) ?_
    rotate_left
    · intro wz hSz; (try dsimp only at hSz); go_simp; all_goals (with_reducible rfl)
    (try simp only [Act.put, List.setIfInBounds_toArray, List.set_cons_zero, List.set_cons_succ])
    refine wpAnyH_take (i := 4) (oi := { dst := some 21, op := Op.move (Operand.tmp 1), type := 23, pos := "wirelaw.go:15", after := #[], guard := none }) (v := ?_) rfl (by kernel_rfl) (by kernel_rfl) (by kernel_rfl) (fun _ _ _ h => h) (Or.inl ⟨by rfl, ?_⟩) (by assumption) ?_
    rotate_left
    · intro wz hSz; (try dsimp only at hSz); go_simp; all_goals (with_reducible rfl)
    (try simp only [Act.put, List.setIfInBounds_toArray, List.set_cons_zero, List.set_cons_succ])
    refine wpAnyH_take (i := 5) (oi := { dst := some 22, op := Op.move (Operand.tmp 5), type := 3, pos := "wirelaw.go:15", after := #[], guard := none }) (v := ?_) rfl (by kernel_rfl) (by kernel_rfl) (by kernel_rfl) (fun _ _ _ h => h) (Or.inl ⟨by rfl, ?_⟩) (by assumption) ?_
    rotate_left
    · intro wz hSz; (try dsimp only at hSz); go_simp; all_goals (with_reducible rfl)
    (try simp only [Act.put, List.setIfInBounds_toArray, List.set_cons_zero, List.set_cons_succ])
    refine wpAnyH_take (i := 6) (oi := { dst := some 23, op := Op.indexAddr 23 (Operand.tmp 21) (Operand.tmp 22), type := 0, pos := "wirelaw.go:15", after := #[{ on := 4, ground := Ground.data }, { on := 5, ground := Ground.data }], guard := none }) (v := ?_) rfl (by kernel_rfl) (by kernel_rfl) (by kernel_rfl) (fun _ _ _ h => h) (Or.inl ⟨by rfl, ?_⟩) (by assumption) ?_
    rotate_left
    · intro wz hSz; (try dsimp only at hSz); go_simp; all_goals (with_reducible rfl)
    (try simp only [Act.put, List.setIfInBounds_toArray, List.set_cons_zero, List.set_cons_succ])
    refine wpAnyH_take (i := 7) (oi := { dst := some 24, op := Op.load 5 (Operand.tmp 23), type := 5, pos := "wirelaw.go:15", after := #[{ on := 6, ground := Ground.data }], guard := none }) (v := ?_) rfl (by kernel_rfl) (by kernel_rfl) (by kernel_rfl) (fun _ _ _ h => h) (Or.inl ⟨by rfl, ?_⟩) (by assumption) ?_
    rotate_left
    · intro wz hSz; (try dsimp only at hSz); go_simp; all_goals (with_reducible rfl)
    (try simp only [Act.put, List.setIfInBounds_toArray, List.set_cons_zero, List.set_cons_succ])
    refine wpAnyH_take (i := 8) (oi := { dst := some 25, op := Op.binOp BinOp.neq 5 (Operand.tmp 20) (Operand.tmp 24) 5, type := 4, pos := "wirelaw.go:15", after := #[{ on := 3, ground := Ground.data }, { on := 7, ground := Ground.data }], guard := none }) (v := ?_) rfl (by kernel_rfl) (by kernel_rfl) (by kernel_rfl) (fun _ _ _ h => h) (Or.inl ⟨by rfl, ?_⟩) (by assumption) ?_
    rotate_left
    · intro wz hSz; (try dsimp only at hSz); go_simp; all_goals (with_reducible rfl)
    (try simp only [Act.put, List.setIfInBounds_toArray, List.set_cons_zero, List.set_cons_succ])
    refine wpAnyH_done (by kernel_rfl) ?_ _
    refine NoPanic.normal ?_
    go_wp2_with fail
    go_roundw
    case rel => exact ⟨k + 1, by omega, by go_num, hb.drew⟩
    case measure => simp [intOf]; omega
set_option maxRecDepth 100000 in
set_option maxHeartbeats 2000000 in
theorem padded_any (S : Nat → Prop) (L : List Int) (n : Nat) (va : Option Addr) (c : Nat) (w : World) (hn : L.length = n) (h : By S w (.slice va n c) L) (hl : n ≤ 140737488355000) :
    Calls Try.prog 4 #[.slice va n c] w fun e w' => (∃ g cap, e = .returned (.slice (some ⟨g, 0, none⟩) (n + 3) cap) ∧ w.heap.size ≤ g ∧ w'.ownsRow w.heap.size 5 1 (.slice (some ⟨g, 0, none⟩) (n + 3) cap) (n + 3) ((L ++ [11, 12, 13]).map bv)) ∧ Below w.heap.size w w' := by
  subst hn
  obtain ⟨ti, hi, hx⟩ := Option.map_eq_some_iff.1 infoB
  have hi0 : ti.zero = some (.int .u8 0) := congrArg (·.1) hx
  have hi1 : ti.size = 1 := congrArg (·.2.1) hx
  have hi2 : ti.bytes = 1 := congrArg (·.2.2) hx
  obtain ⟨hs1, hs2, -⟩ := h.src
  clear h
  go_enter Try.func4, Try.ntmps4
  go_wp2_with (first
    | (at_builtin; (refine wpList_copyv rfl _ _ 23 rfl 5 ti _ 1 1 Try.underlying23 hi hi0 hi1 hi2 rfl (by decide) va L.length c (L.map bv) rfl rfl (by simp) hs1 (bv_one L) hs2 (by unfold maxLen; omega) (by omega) ?_); intro a' c' w1 own1 hb1)
    | (at_builtin; (refine wpList_append_own _ rfl _ _ 23 rfl w.heap.size 5 ti _ 1 1 Try.underlying23 hi hi0 hi1 hi2 rfl (by decide) (.slice a' L.length c') L.length (L.map bv) rfl (own_bel own1 belN1) ⟨w1.heap.size, 0, none⟩ 3 3 [.int .u8 11, .int .u8 12, .int .u8 13] rfl rfl (cells_ten (W := w1) [.int .u8 11, .int .u8 12, .int .u8 13] 5) (by intro u hu; simp at hu; rcases hu with rfl | rfl | rfl <;> rfl) (by unfold maxLen; omega) (by omega) (Nat.le_trans hb1.size (by simp)) ?_); intro v' w2 o1 o2 o3))
  obtain ⟨g, cap, rfl, -, hg, -⟩ := own_block o1 (by omega)
  go_ret
  exact ⟨⟨g, cap, rfl, hg, by rw [List.map_append]; exact o1⟩, grown_bel (B := w.heap.size) (hb1.alloc hb1.size _) o2 (Nat.le_refl _) (fun k hk => (own_lt own1 k hk).1)⟩
set_option maxRecDepth 100000 in
set_option maxHeartbeats 2000000 in
theorem whole_any (S S' : Nat → Prop) (L : List Int) (n : Nat) (va : Option Addr) (c g cf : Nat) (w : World) (hn : L.length = n) (h : By S w (.slice va n c) L) (hl : n ≤ 140737488355000) (hf : By S' w (.slice (some ⟨g, 0, none⟩) (n + 3) cf) (L ++ [11, 12, 13])) :
    Calls Try.prog 8 #[.slice (some ⟨g, 0, none⟩) (n + 3) cf, .slice va n c] w fun e w' => e = .returned (.bool true) ∧ Below w.heap.size w w' := by
  have hcf : n + 3 ≤ cf := by
    obtain ⟨a, cap, e, e1, -⟩ := id hf
    injection e with _ _ e
    subst e
    simp [hn] at e1
    exact e1
  have hs := slice_to
  have hlen : (L ++ [11, 12, 13]).length = n + 3 := by simp [hn]
  have rd : ∀ (X : World), Below w.heap.size w X → ∀ j, (hj : j < (L ++ [11, 12, 13]).length) → X.cell? ⟨g, j, none⟩ = some (.int .u8 (L ++ [11, 12, 13])[j]) := fun X hX j hj => by
    obtain ⟨g', o', e, -, -, x⟩ := (hf.keep (Mv.below hX)).at hj
    injection e with e
    injection e with e e2
    subst e
    subst e2
    rw [Nat.zero_add] at x
    exact x
  have r0 : ∀ (X : World), Below w.heap.size w X → X.cell? ⟨g, n, none⟩ = some (.int .u8 11) := fun X hX => by have := rd X hX n (by omega); rw [this]; simp [← hn]
  have r1 : ∀ (X : World), Below w.heap.size w X → X.cell? ⟨g, n + 1, none⟩ = some (.int .u8 12) := fun X hX => by have := rd X hX (n + 1) (by omega); rw [this]; simp [← hn]
  have r2 : ∀ (X : World), Below w.heap.size w X → X.cell? ⟨g, n + 2, none⟩ = some (.int .u8 13) := fun X hX => by have := rd X hX (n + 2) (by omega); rw [this]; simp [← hn]
  have hh : ∀ (X : World), Below w.heap.size w X → By S' X (.slice (some ⟨g, 0, none⟩) n cf) L := fun X hX => by
    obtain ⟨g', o', e, hS, hg, -⟩ := (hf.keep (Mv.below hX)).at (k := 0) (by omega)
    injection e with e
    injection e with e e2
    subst e
    subst e2
    refine ⟨_, cf, by rw [hn], by omega, by omega, fun e => (by cases e), .inr ⟨g, 0, rfl, hS, hg, fun i hi => ?_⟩⟩
    rw [Nat.zero_add, rd X hX i (by omega), List.getElem_append_left hi]
  have h7 := fun (X : World) (hX : Below w.heap.size w X) => bytes_any S' S L n (some ⟨g, 0, none⟩) va cf c X hn (hh X hX) (h.keep (Mv.below hX)) (by omega)
  have s0 := fun (W : World) => slice_to W g (n + 3) cf n (by omega)
  have q0 : (n : Int) < ((n + 3 : Nat) : Int) := by omega
  have q1 : (n : Int) + 1 < ((n + 3 : Nat) : Int) := by omega
  have q2 : (n : Int) + 2 < ((n + 3 : Nat) : Int) := by omega
  have p0 : (0 : Int) ≤ (n : Int) := by omega
  have p1 : (0 : Int) ≤ (n : Int) + 1 := by omega
  have p2 : (0 : Int) ≤ (n : Int) + 2 := by omega
  have m1 : ((n : Int) + 1).toNat = n + 1 := by omega
  have m2 : ((n : Int) + 2).toNat = n + 2 := by omega
  have z3 : ((n + 3 : Nat) : Int) = (n : Int) + 3 := by omega
  have b3 : IntKind.i64.wrap ((n : Int) + 3) = (n : Int) + 3 := wrap64 _ (by omega)
  have b1 : IntKind.i64.wrap ((n : Int) + 1) = (n : Int) + 1 := wrap64 _ (by omega)
  have b2 : IntKind.i64.wrap ((n : Int) + 2) = (n : Int) + 2 := wrap64 _ (by omega)
  clear rd hf h hh hn hlen
  go_enter Try.func8, Try.ntmps8
  go_wp2_with (go_at_call 7; (with_reducible refine Calls.mono (h7 _ (by first | exact Below.refl _ _)) ?_); rintro e w1 ⟨rfl, hb⟩; have c0 := r0 w1 hb; have c1 := r1 w1 hb; have c2 := r2 w1 hb)
  go_ret
  exact ⟨by first | rfl | simp, hb⟩
set_option maxRecDepth 100000 in
set_option maxHeartbeats 2000000 in
theorem blot_any (g n cap : Nat) (w : World) (hx : ∀ i, i < n → (∃ x, w.cell? ⟨g, i, none⟩ = some (.int .u8 x)) ∧ w.frozen? ⟨g, i, none⟩ = false) (hl : n ≤ 140737488355328) :
    Calls Try.prog 10 #[.slice (some ⟨g, 0, none⟩) n cap] w fun e w' => e = .returned (.tuple #[]) ∧ Only (fun q => q = g) w w' := by
  have hx' : Hid (∀ i, i < n → (∃ x, w.cell? ⟨g, i, none⟩ = some (.int .u8 x)) ∧ w.frozen? ⟨g, i, none⟩ = false) := hx
  clear hx
  go_enter Try.func10, Try.ntmps10
  go_wp2_with fail
  go_loopw [2] (fun s wr => ∃ k : Nat, k ≤ n ∧ s = .int .i64 (k : Int) ∧ Hid (Only (fun q => q = g) w wr) ∧ Hid (∀ i, i < n → (∃ x, wr.cell? ⟨g, i, none⟩ = some (.int .u8 x)) ∧ wr.frozen? ⟨g, i, none⟩ = false)) (fun s _ => n - (intOf s).toNat)
  case atStart => exact ⟨0, by omega, rfl, Only.refl _ _, hx'⟩
  case round =>
    clear hx'
    obtain ⟨k, hk, rfl, ho', hx'⟩ := hrel
    by_cases hlt : k < n
    case neg =>
      have t1 : ¬ (k : Int) < (n : Int) := by omega
      go_wp2_with fail
      go_end0
      exact ⟨rfl, ho'⟩
    have t1 : (k : Int) < (n : Int) := by omega
    have t2 : (0 : Int) ≤ (k : Int) := by omega
    obtain ⟨⟨x, c0⟩, f0⟩ := hx'.out k hlt
    go_wp2_with fail
    go_roundw
    case rel =>
      refine ⟨k + 1, by omega, by go_num, ho'.out.set rfl _, fun i hi => ?_⟩
      rw [World.frozen?_setCell]
      refine ⟨?_, (hx'.out i hi).2⟩
      by_cases e : k = i
      · subst e
        exact ⟨_, World.cell?_setCell_same wr ⟨g, k, none⟩ _ c0⟩
      · obtain ⟨y, hy⟩ := (hx'.out i hi).1
        exact ⟨y, (World.cell?_setCell_other wr ⟨g, k, none⟩ ⟨g, i, none⟩ _ (by intro h'; exact e (congrArg Addr.off h'))).trans hy⟩
    case measure => simp [intOf]; omega
end Go.Proofs.Ytahheagfgfpdmaa
