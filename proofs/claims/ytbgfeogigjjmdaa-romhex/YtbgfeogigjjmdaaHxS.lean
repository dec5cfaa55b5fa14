import Derived.Test.YtbgfeogigjjmdaaHxR
namespace Go.Proofs.Ytbgfeogigjjmdaa
open Go.RowKit Go.Shelf
set_option linter.unusedVariables false

attribute [local go_sem] Oper.semAt_some

/-- Between two rounds. w: where the call began; bx: the box of the reader; z: the loop's own blocks. -/
def AI (w : World) (B rb bx z : Nat) (pre : List (List UInt8)) (W : World) : Prop := ∃ st dv, runU st0 1 pre = .ok st ∧ W.heap[rb]? = some (.cells #[.int .i64 (pre.length : Nat), dv, .bool st.bk, .bool st.en] 39 (0, 0)) ∧ W.ownsRow B 5 1 dv st.D.length (v8 st.D) ∧ B ≤ rb ∧ (∀ x ∈ st.D, x < 256) ∧
  Below B w W ∧ W.heap[bx]? = some (.cells #[.pointer (some ⟨rb, 0, none⟩)] 37 (0, 0)) ∧ ∀ g, dv.ownBlock = some g → g ≠ bx + 1 ∧ g ≠ z ∧ g ≠ z + 1
/-- A round has panicked. -/
def AP (w : World) (B : Nat) (X : List UInt8) (ch : List PanicEntry) (W : World) : Prop := ∃ c ln col : Nat, Ending.panicked ch = pan (c : Nat) (ln : Nat) (col : Nat) ∧ runU st0 1 (cutU X) = .error (c, ln, col) ∧ Below B w W

theorem stripS_len (l : List UInt8) : (stripS l).length ≤ l.length := by
  have h : ∀ (l : List UInt8) (c : UInt8), (Lib.trimSuffix l [c]).length ≤ l.length := by
    intro l c
    unfold Lib.trimSuffix
    split <;> first | exact List.length_take_le' _ _ | exact Nat.le_refl _
  unfold stripS
  split
  · exact Nat.le_trans (h _ _) (h _ _)
  · exact Nat.le_refl _
theorem cutU_len : ∀ (X x : List UInt8), x ∈ cutU X → x.length ≤ X.length
  | [], x, h => by simp [cutU] at h
  | c :: r, x, h => by
    unfold cutU at h
    split at h
    · rcases List.mem_cons.1 h with rfl | h
      · simp
      · have := cutU_len r x h; simp; omega
    · split at h
      · simp at h; subst h; simp
      · rename_i l q hq
        rcases List.mem_cons.1 h with rfl | h
        · have := cutU_len r l (by rw [hq]; simp); simp; omega
        · have := cutU_len r x (by rw [hq]; simp [h]); simp; omega
theorem cutU_count : ∀ (X : List UInt8), (cutU X).length ≤ X.length
  | [] => by simp [cutU]
  | c :: r => by
    have ih := cutU_count r
    unfold cutU
    split
    · simp; omega
    · split
      · simp
      · rename_i l q hq
        rw [hq] at ih; simp at ih ⊢; omega
theorem own_kept {S : Nat → Prop} {w w' : World} {base e size n : Nat} {v : Value} {xs : List Value} (h : w.ownsRow base e size v n xs) (ho : Only S w w') (hb : ∀ g, v.ownBlock = some g → ¬ S g) : w'.ownsRow base e size v n xs := by
  refine ⟨h.1, ?_⟩
  rcases h.2 with h0 | ⟨g, cap, cur, h1, h2, h3, h4⟩
  · exact .inl h0
  · exact .inr ⟨g, cap, cur, h1, h2, (ho.block g (Array.getElem?_eq_some_iff.1 h3).1 (hb g (by rw [h1]; rfl))).trans h3, h4⟩
theorem own_ne_obj {w : World} {base e size n b : Nat} {v : Value} {xs : List Value} {o : Obj} (h : w.ownsRow base e size v n xs) (hb : w.heap[b]? = some o) (ho : ∀ c fr, o ≠ .cells c e fr) : v.ownBlock ≠ some b := by
  rcases h.2 with ⟨e0, _⟩ | ⟨g, cap, cur, e0, _, hh, _⟩
  · rw [e0]; intro h; cases h
  · rw [e0]
    intro hg
    have e1 : g = b := Option.some.inj hg
    rw [e1, hb] at hh
    exact ho _ _ (Option.some.inj hh)

set_option maxRecDepth 100000 in
set_option maxHeartbeats 2000000 in
theorem all_any (B rb : Nat) (X : List UInt8) (w : World) (hX : X.length < 4611686018427387904) (hR : w.heap[rb]? = some (.cells #[.int .i64 0, .slice none 0 0, .bool false, .bool false] 39 (0, 0))) (hBr : B ≤ rb) (hBw : B ≤ w.heap.size) (hEn : ∀ st, runU st0 1 (cutU X) = .ok st → st.en = true) :
    Calls Try.prog 13 #[.pointer (some ⟨rb, 0, none⟩), .string (bs X)] w fun e w' => (∃ c ln col : Nat, e = pan (c : Nat) (ln : Nat) (col : Nat) ∧ runU st0 1 (cutU X) = .error (c, ln, col) ∧ Below B w w') ∨
      (∃ st dv, runU st0 1 (cutU X) = .ok st ∧ Below B w w' ∧ e = .returned dv ∧ w'.ownsRow B 5 1 dv st.D.length (v8 st.D)) := by
  have hLi := fun w => (callsIn_wide (n := 4)).2 (lines_any X w)
  refine callsIn_wide.1 (callsF_of_wp_marks (n := 5) Try.func13 rfl ?_)
  simp only [Try.ntmps13, List.size_toArray, List.length_cons, List.length_nil, Nat.reduceAdd, Nat.reduceSub, Array.replicate_succ, Array.replicate_zero, List.push_toArray, List.append_toArray, List.nil_append, List.cons_append]
  refine wpF_seq (wpF_of_in (n := 5) ?_)
  gi_wp2
  refine wpF_seq ?_
  refine wpF_seq (wpF_of_in (n := 5) ?_)
  gi_wp2_with (refine ⟨trivial, ?_⟩; gi_at_call 18; refine (hLi _).mono ?_; rintro e w1 ⟨rfl, rfl⟩)
  refine wpF_block ?_
  have hE1 : Below w.heap.size w ((w.alloc (.cells #[.pointer (some ⟨rb, 0, none⟩)] 37)).alloc (.cells #[.string (bs X)] 9)) := ((Below.refl _ _).alloc (Nat.le_refl _) _).alloc (by simp) _
  have hbx : ((w.alloc (.cells #[.pointer (some ⟨rb, 0, none⟩)] 37)).alloc (.cells #[.string (bs X)] 9)).heap[w.heap.size]? = some (.cells #[.pointer (some ⟨rb, 0, none⟩)] 37 (0, 0)) := (Below.heap_alloc _ _ _ (by simp)).trans (heap_alloc_new w _)
  have hsb : ((w.alloc (.cells #[.pointer (some ⟨rb, 0, none⟩)] 37)).alloc (.cells #[.string (bs X)] 9)).heap[w.heap.size + 1]? = some (.cells #[.string (bs X)] 9 (0, 0)) := by
    have := heap_alloc_new (w.alloc (.cells #[.pointer (some ⟨rb, 0, none⟩)] 37)) (.cells #[.string (bs X)] 9)
    rwa [World.size_alloc] at this
  have hrbw : rb < w.heap.size := (Array.getElem?_eq_some_iff.1 hR).1
  have hRV := (hE1.block rb hrbw).trans hR
  have hBV : Below B w ((w.alloc (.cells #[.pointer (some ⟨rb, 0, none⟩)] 37)).alloc (.cells #[.string (bs X)] 9)) := hE1.mono hBw
  have hszV : ((w.alloc (.cells #[.pointer (some ⟨rb, 0, none⟩)] 37)).alloc (.cells #[.string (bs X)] 9)).heap.size = w.heap.size + 2 := by simp
  generalize ((w.alloc (.cells #[.pointer (some ⟨rb, 0, none⟩)] 37)).alloc (.cells #[.string (bs X)] 9)) = V at *
  have hzV : w.heap.size + 2 ≤ V.heap.size := by omega
  clear hszV
  refine range_lines (f := 13) (n := 5) (sb := w.heap.size + 1) (X := X) Try.func13 hX hsb rfl (AI w B rb w.heap.size V.heap.size) (AP w B X)
    (fun x => { tmps := #[.pointer (some ⟨rb, 0, none⟩), .string (bs X), .pointer (some ⟨w.heap.size, 0, none⟩), undef, .slice none 0 0, .string (bs x), .string (bs X), .func (.func 27) #[] #[.pointer (some ⟨w.heap.size + 1, 0, none⟩)], .string (bs x), undef, undef, undef, undef, undef, undef, undef, undef, undef, undef, undef, undef, undef, undef, undef, undef, undef, undef, undef, undef, undef, undef, undef, undef, undef, undef], defers := [] })
    ?hI ?h0 ?assign ?body ?done ?pan
  case hI =>
    rintro pre A C ⟨st, dv, h1, h2, h3, h4, h5, h6, h7, h8⟩ hO
    refine ⟨st, dv, h1, (hO.block rb (Array.getElem?_eq_some_iff.1 h2).1 (by omega)).trans h2, own_kept h3 hO (fun g hg => by have := h8 g hg; omega), h4, h5, ?_, (hO.block w.heap.size (Array.getElem?_eq_some_iff.1 h7).1 (by omega)).trans h7, h8⟩
    exact h6.trans ⟨hO.os, hO.tape, hO.output, hO.size, fun k hk => hO.block k (by have := h6.size; omega) (by omega)⟩
  case h0 => exact ⟨st0, .slice none 0 0, rfl, hRV, World.ownsRow_nil _ _ _ _, hBr, fun x hx => by simp [st0] at hx, hBV, hbx, fun g hg => by cases hg⟩
  case assign =>
    intro l x W K hK
    gi_wp2
    exact hK
  case body =>
    rintro l pre x W ⟨st, dv, h1, h2, h3, h4, h5, h6, h7, h8⟩ hp hz ⟨s', hs'⟩ hd' ⟨lr, hl'⟩
    have hlenx : x.length < 4611686018427387904 := by
      have : x.length ≤ X.length := cutU_len X x (by obtain ⟨r, hr⟩ := hp; rw [← hr]; simp)
      omega
    have hpl : pre.length < 4611686018427387904 := by
      have := cutU_count X
      have h9 := hp.length_le
      simp at h9
      omega
    have c0 : W.cell? ⟨rb, 0, none⟩ = some (.int .i64 (pre.length : Nat)) := (Has.ofHeap h2).2.1 0
    have f0 := (Has.ofHeap h2).2.2 0
    have b0 : W.cell? ⟨w.heap.size, 0, none⟩ = some (.pointer (some ⟨rb, 0, none⟩)) := (Has.ofHeap h7).2.1 0
    have b1 : (W.setCell ⟨rb, 0, none⟩ (.int .i64 ((pre.length : Int) + 1))).cell? ⟨w.heap.size, 0, none⟩ = some (.pointer (some ⟨rb, 0, none⟩)) := (World.cell?_setCell_other _ _ _ _ (by intro e; have := congrArg Addr.block e; simp at this; omega)).trans b0
    obtain ⟨hR1, hB1, hS1⟩ := HR.line (⟨dv, h2, h3, h4, h5⟩ : HR W B rb (pre.length : Nat) st) ((pre.length : Int) + 1)
    have hWE := fun w => (callsIn_wide (n := 2)).2 (withoutEnd_any (bs x) w (by rw [bs_size]; exact hlenx))
    rw [bs_data] at hWE
    have hBW : B ≤ W.heap.size := by have := h6.size; omega
    have hTk := (callsIn_wide (n := 2)).2 (take_any B rb ((pre.length : Int) + 1) st ⟨(stripS x).toArray⟩ (W.setCell ⟨rb, 0, none⟩ (.int .i64 ((pre.length : Int) + 1))).drew (hR1.below (Below.refl _ _).drew) (by show Array.size _ < _; simp; exact Nat.lt_of_le_of_lt (stripS_len x) hlenx) (runU_len pre st0 st 1 h1 (by simp [st0])) (by show B ≤ (W.setCell _ _).heap.size; simpa [World.setCell] using hBW))
    have hnl : nl ⟨(stripS x).toArray⟩ = mn (stripS x) := rfl
    rw [hnl] at hTk
    have hpl1 : IntKind.i64.wrap ((pre.length : Int) + 1) = (pre.length : Int) + 1 := by rw [IntKind.wrap_i64]; omega
    generalize (stripS x).toArray = sx at *
    have hWE' : ∀ w, CallsIn (Fence.wide.inRound l) 2 Try.prog 20 #[.string (bs x)] w fun e w' => e = .returned (.string ⟨sx⟩) ∧ w = w' := hWE
    have hrun : Hid (∀ c col, linF st (mn (stripS x)) = .error (c, col) → runU st0 1 (cutU X) = .error (c, pre.length + 1, col)) := by
      intro c col hl
      obtain ⟨r, hr⟩ := hp
      rw [← hr, List.append_assoc, runU_app, h1]
      simp only [List.cons_append, runU]
      rw [hl, Nat.add_comm]
    have hrok : Hid (∀ st', linF st (mn (stripS x)) = .ok st' → runU st0 1 (pre ++ [x]) = .ok st') := by
      intro st' hl
      rw [runU_app, h1]
      simp only [runU]
      rw [hl]
    have hSd : Stay W (W.setCell ⟨rb, 0, none⟩ (.int .i64 ((pre.length : Int) + 1))).drew := hS1.trans (Stay.below (Below.refl _ _).drew)
    have hBd : Below B W (W.setCell ⟨rb, 0, none⟩ (.int .i64 ((pre.length : Int) + 1))).drew := hB1.drew
    cases hlin : linF st (mn (stripS x)) with
    | error y =>
      obtain ⟨c, col⟩ := y
      rw [hlin] at hTk
      have hTk' : CallsIn (Fence.wide.inRound l) 2 Try.prog 19 #[.pointer (some ⟨rb, 0, none⟩), .string ⟨sx⟩] (W.setCell ⟨rb, 0, none⟩ (.int .i64 ((pre.length : Int) + 1))).drew fun e w' => e = pan (c : Nat) ((pre.length : Int) + 1) (col : Nat) ∧ Below B (W.setCell ⟨rb, 0, none⟩ (.int .i64 ((pre.length : Int) + 1))).drew w' ∧ Stay (W.setCell ⟨rb, 0, none⟩ (.int .i64 ((pre.length : Int) + 1))).drew w' := hTk
      clear hTk hWE
      have hPan : Hid (∀ (a : Act) (w2 : World), a.defers = [] → Below B (W.setCell ⟨rb, 0, none⟩ (.int .i64 ((pre.length : Int) + 1))).drew w2 → Stay (W.setCell ⟨rb, 0, none⟩ (.int .i64 ((pre.length : Int) + 1))).drew w2 → endPost (AI w B rb w.heap.size V.heap.size) (AP w B X) V.heap.size (w.heap.size + 1) (pre ++ [x]) W (.panic [{ v := .iface 29 (.agg #[.int .i64 (c : Nat), .int .i64 ((pre.length : Int) + 1), .int .i64 (col : Nat)]), recovered := false }]) a w2) := by
        intro a w2 ha hB2 hS2
        refine ⟨ha, ⟨c, pre.length + 1, col, rfl, hrun.out c col hlin, (h6.trans hBd).trans hB2⟩, ?_⟩
        rw [hd']
        exact (hSd.trans hS2) _ _ hd' (by intro c fr e; cases e) (by intro c fr e; cases e)
      gi_wp2
      refine wpIn_region_any (by kernel_rfl) ?_
      change wpAnyIn _ _ _ _ _ _ _ _ _ (World.drew _)
      refine wpAnyIn_ready (rs := [0, 1]) (by kernel_rfl) (by simp) (AllReadyIn.cons rfl (fun K hK => ?_) (AllReadyIn.cons rfl (fun K hK => ?_) (AllReadyIn.nil)))
      · go_simp; refine hK _ _ ?_; clear hK K
        refine wpAnyIn_ready (rs := [1]) (by kernel_rfl) (by simp) (AllReadyIn.cons rfl (fun K hK => ?_) (AllReadyIn.nil))
        go_simp; refine hK _ _ ?_; clear hK K
        refine wpAnyIn_ready (rs := [2]) (by kernel_rfl) (by simp) (AllReadyIn.cons rfl (fun K hK => ?_) (AllReadyIn.nil))
        go_simp; gi_wp2_with (refine ⟨trivial, ?_⟩; gi_at_call 20; refine (hWE' _).mono ?_; rintro e w2 ⟨rfl, rfl⟩)
        refine wpAnyIn_ready (rs := [3]) (by kernel_rfl) (by simp) (AllReadyIn.cons rfl (fun K hK => ?_) (AllReadyIn.nil))
        go_simp; gi_wp2_with (refine ⟨trivial, ?_⟩; gi_at_call 19; refine hTk'.mono ?_; rintro e w2 ⟨rfl, hB2, hS2⟩); exact hPan.out _ _ rfl hB2 hS2
      · go_simp; refine hK _ _ ?_; clear hK K
        refine wpAnyIn_ready (rs := [0, 2]) (by kernel_rfl) (by simp) (AllReadyIn.cons rfl (fun K hK => ?_) (AllReadyIn.cons rfl (fun K hK => ?_) (AllReadyIn.nil)))
        · go_simp; refine hK _ _ ?_; clear hK K
          refine wpAnyIn_ready (rs := [2]) (by kernel_rfl) (by simp) (AllReadyIn.cons rfl (fun K hK => ?_) (AllReadyIn.nil))
          go_simp; gi_wp2_with (refine ⟨trivial, ?_⟩; gi_at_call 20; refine (hWE' _).mono ?_; rintro e w2 ⟨rfl, rfl⟩)
          refine wpAnyIn_ready (rs := [3]) (by kernel_rfl) (by simp) (AllReadyIn.cons rfl (fun K hK => ?_) (AllReadyIn.nil))
          go_simp; gi_wp2_with (refine ⟨trivial, ?_⟩; gi_at_call 19; refine hTk'.mono ?_; rintro e w2 ⟨rfl, hB2, hS2⟩); exact hPan.out _ _ rfl hB2 hS2
        · go_simp; gi_wp2_with (refine ⟨trivial, ?_⟩; gi_at_call 20; refine (hWE' _).mono ?_; rintro e w2 ⟨rfl, rfl⟩)
          refine wpAnyIn_ready (rs := [0]) (by kernel_rfl) (by simp) (AllReadyIn.cons rfl (fun K hK => ?_) (AllReadyIn.nil))
          go_simp; refine hK _ _ ?_; clear hK K
          refine wpAnyIn_ready (rs := [3]) (by kernel_rfl) (by simp) (AllReadyIn.cons rfl (fun K hK => ?_) (AllReadyIn.nil))
          go_simp; gi_wp2_with (refine ⟨trivial, ?_⟩; gi_at_call 19; refine hTk'.mono ?_; rintro e w2 ⟨rfl, hB2, hS2⟩); exact hPan.out _ _ rfl hB2 hS2
    | ok st' =>
      rw [hlin] at hTk
      have hTk' : CallsIn (Fence.wide.inRound l) 2 Try.prog 19 #[.pointer (some ⟨rb, 0, none⟩), .string ⟨sx⟩] (W.setCell ⟨rb, 0, none⟩ (.int .i64 ((pre.length : Int) + 1))).drew fun e w' => (e = .returned (.tuple #[]) ∧ HR w' B rb ((pre.length : Int) + 1) st') ∧ Below B (W.setCell ⟨rb, 0, none⟩ (.int .i64 ((pre.length : Int) + 1))).drew w' ∧ Stay (W.setCell ⟨rb, 0, none⟩ (.int .i64 ((pre.length : Int) + 1))).drew w' := hTk
      clear hTk hWE
      gi_wp2
      gi_region_with (first | (refine ⟨trivial, ?_⟩; gi_at_call 20; refine (hWE' _).mono ?_; rintro e w2 ⟨rfl, rfl⟩) | (refine ⟨trivial, ?_⟩; gi_at_call 19; refine hTk'.mono ?_; rintro e w2 ⟨⟨rfl, hR2⟩, hB2, hS2⟩))
      all_goals
        have hSf := hSd.trans hS2
        obtain ⟨dv', q1, q2, q3, q4⟩ := hR2
        have k1 := hSf _ _ hs' (by intro c fr e; cases e) (by intro c fr e; cases e)
        have k2 := hSf _ _ hd' (by intro c fr e; cases e) (by intro c fr e; cases e)
        have k3 := hSf _ _ hl' (by intro c fr e; cases e) (by intro c fr e; cases e)
        have k4 := hSf _ _ h7 (by intro c fr e; cases e) (by intro c fr e; cases e)
        have k5 := hBd.size
        have k6 := hB2.size
        refine ⟨⟨st', dv', hrok.out st' hlin, ?_, q2, q3, q4, (h6.trans hBd).trans hB2, k4, fun g hg => ⟨?_, ?_, ?_⟩⟩, by omega, k2.trans hd'.symm, k3.trans hl'.symm, k1.trans hs'.symm⟩
        · rw [List.length_append]; exact q1
        · intro e; rw [e] at hg; exact own_ne_obj q2 k1 (by intro c fr e; cases e) hg
        · intro e; rw [e] at hg; exact own_ne_obj q2 k2 (by intro c fr e; cases e) hg
        · intro e; rw [e] at hg; exact own_ne_obj q2 k3 (by intro c fr e; cases e) hg
  case done =>
    rintro W ⟨st, dv, h1, h2, h3, h4, h5, h6, h7, h8⟩ hd hz
    have hen := hEn st h1
    have b0 : W.cell? ⟨w.heap.size, 0, none⟩ = some (.pointer (some ⟨rb, 0, none⟩)) := (Has.ofHeap h7).2.1 0
    have c1 : W.cell? ⟨rb, 1, none⟩ = some dv := (Has.ofHeap h2).2.1 1
    have c3 : W.cell? ⟨rb, 3, none⟩ = some (.bool st.en) := (Has.ofHeap h2).2.1 3
    rw [hen] at c3
    have hP : Only (fun k => k = V.heap.size) W (W.putObj V.heap.size (.deferred none)) := (Only.refl (fun k => k = V.heap.size) W).put (r := V.heap.size) _ rfl
    have hrow := own_kept h3 hP (fun g hg => (h8 g hg).2.1)
    refine wpF_of_in (n := 5) ?_
    gi_wp2
    refine ⟨by simp, .inl ⟨_, _, rfl, run_takeDeferred hd, ?_⟩⟩
    refine ⟨dv, ?_, .inr ⟨st, dv, h1, ?_, rfl, hrow⟩⟩
    · simp [results, Try.results13, go_sem]
    · exact h6.trans ⟨rfl, rfl, rfl, by simp, fun k hk => hP.block k (by have := h6.size; omega) (by omega)⟩
  case pan =>
    rintro W ch ⟨c, ln, col, h1, h2, h3⟩ hd
    have hP : Only (fun k => k = V.heap.size) W (W.putObj V.heap.size (.deferred none)) := (Only.refl (fun k => k = V.heap.size) W).put (r := V.heap.size) _ rfl
    refine ⟨by simp, .inl ⟨_, _, rfl, run_takeDeferred hd, ?_⟩⟩
    refine .inl ⟨c, ln, col, h1, h2, ?_⟩
    exact h3.trans ⟨rfl, rfl, rfl, by simp, fun k hk => hP.block k (by have := h3.size; omega) (by omega)⟩
end Go.Proofs.Ytbgfeogigjjmdaa
