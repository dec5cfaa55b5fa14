import Derived.Test.YtjohnhaahpggkaaDoorFltQ
namespace Go.Proofs.YtjohnhaahpggkaaDoor
open Go.RowKit Go.Shelf
set_option linter.unusedVariables false
set_option linter.unusedSimpArgs false

attribute [local go_sem] Oper.semAt_some
attribute [local go_sem] fn_nil'

set_option maxRecDepth 100000 in
theorem fr_of (a : Act) (p6 p8 p15 p16 xv : Value) (hd : a.defers = []) (hs : a.tmps = #[a.tmps.getD 0 undef, a.tmps.getD 1 undef, a.tmps.getD 2 undef, a.tmps.getD 3 undef, a.tmps.getD 4 undef, a.tmps.getD 5 undef, p6, a.tmps.getD 7 undef, p8, a.tmps.getD 9 undef, a.tmps.getD 10 undef, a.tmps.getD 11 undef, a.tmps.getD 12 undef, a.tmps.getD 13 undef, a.tmps.getD 14 undef, p15, p16, a.tmps.getD 17 undef, a.tmps.getD 18 undef, a.tmps.getD 19 undef, a.tmps.getD 20 undef, a.tmps.getD 21 undef, a.tmps.getD 22 undef, a.tmps.getD 23 undef, a.tmps.getD 24 undef, a.tmps.getD 25 undef, a.tmps.getD 26 undef, a.tmps.getD 27 undef, a.tmps.getD 28 undef, a.tmps.getD 29 undef, a.tmps.getD 30 undef, a.tmps.getD 31 undef, a.tmps.getD 32 undef, a.tmps.getD 33 undef, a.tmps.getD 34 undef, a.tmps.getD 35 undef, a.tmps.getD 36 undef, a.tmps.getD 37 undef, a.tmps.getD 38 undef, a.tmps.getD 39 undef, a.tmps.getD 40 undef, a.tmps.getD 41 undef, a.tmps.getD 42 undef, a.tmps.getD 43 undef, a.tmps.getD 44 undef, a.tmps.getD 45 undef, a.tmps.getD 46 undef, a.tmps.getD 47 undef, a.tmps.getD 48 undef, a.tmps.getD 49 undef, a.tmps.getD 50 undef, a.tmps.getD 51 undef, a.tmps.getD 52 undef, a.tmps.getD 53 undef, a.tmps.getD 54 undef, a.tmps.getD 55 undef, a.tmps.getD 56 undef, a.tmps.getD 57 undef, a.tmps.getD 58 undef, a.tmps.getD 59 undef, a.tmps.getD 60 undef, a.tmps.getD 61 undef, a.tmps.getD 62 undef, a.tmps.getD 63 undef, a.tmps.getD 64 undef, a.tmps.getD 65 undef, a.tmps.getD 66 undef, a.tmps.getD 67 undef, a.tmps.getD 68 undef, a.tmps.getD 69 undef, a.tmps.getD 70 undef, a.tmps.getD 71 undef, a.tmps.getD 72 undef, a.tmps.getD 73 undef, a.tmps.getD 74 undef, a.tmps.getD 75 undef, a.tmps.getD 76 undef, a.tmps.getD 77 undef, a.tmps.getD 78 undef, xv, a.tmps.getD 80 undef, a.tmps.getD 81 undef, a.tmps.getD 82 undef, a.tmps.getD 83 undef, a.tmps.getD 84 undef, a.tmps.getD 85 undef, a.tmps.getD 86 undef, a.tmps.getD 87 undef, a.tmps.getD 88 undef, a.tmps.getD 89 undef, a.tmps.getD 90 undef, a.tmps.getD 91 undef, a.tmps.getD 92 undef, a.tmps.getD 93 undef, a.tmps.getD 94 undef, a.tmps.getD 95 undef, a.tmps.getD 96 undef, a.tmps.getD 97 undef]) : ∃ f : Nat → Value, a = { tmps := #[f 0, f 1, f 2, f 3, f 4, f 5, p6, f 7, p8, f 9, f 10, f 11, f 12, f 13, f 14, p15, p16, f 17, f 18, f 19, f 20, f 21, f 22, f 23, f 24, f 25, f 26, f 27, f 28, f 29, f 30, f 31, f 32, f 33, f 34, f 35, f 36, f 37, f 38, f 39, f 40, f 41, f 42, f 43, f 44, f 45, f 46, f 47, f 48, f 49, f 50, f 51, f 52, f 53, f 54, f 55, f 56, f 57, f 58, f 59, f 60, f 61, f 62, f 63, f 64, f 65, f 66, f 67, f 68, f 69, f 70, f 71, f 72, f 73, f 74, f 75, f 76, f 77, f 78, xv, f 80, f 81, f 82, f 83, f 84, f 85, f 86, f 87, f 88, f 89, f 90, f 91, f 92, f 93, f 94, f 95, f 96, f 97], defers := [] } := by
  refine ⟨fun i => a.tmps.getD i undef, ?_⟩
  cases a with
  | mk t d => cases hd; exact congrArg (fun x => Act.mk x []) hs

set_option maxRecDepth 100000 in
set_option maxHeartbeats 8000000 in
theorem faults_in (v : Value) (n9 : Int) (rl : List UInt8) (w0 : World)
    (hWr : Calls Tryd.prog 16 #[v] (w0.alloc (.cells #[.bool false] 4)) (WrPost (w0.alloc (.cells #[.bool false] 4))))
    (hBd : ∀ W, Calls Tryd.prog 19 #[.int .i64 n9] W fun e w' => (∃ b er, e = .returned (.tuple #[.string (bs b), .int .i64 er]) ∧ Bad b er) ∧ w' = W)
    (hW : Wt w0) (hrest : rl.length ≤ 4611686018427387904) :
    CallsIn Fence.wide 3 Tryd.prog 6 #[v, .int .i64 n9, .string (bs rl)] w0 fun e w' => e = .returned (.bool true) ∧ Below w0.heap.size w0 w' := by
  have hEa := fun s w => each_any s w
  have hb0 : Below w0.heap.size w0 (w0.alloc (.cells #[.bool false] 4)) := (Below.refl _ _).alloc (Nat.le_refl _) _
  have hp0 : Has (w0.alloc (.cells #[.bool false] 4)) w0.heap.size #[.bool false] := Has.new _ _ _ rfl
  obtain ⟨i36, h36, h36z, h36s, h36b⟩ := info_parts info36
  have hWt : ∀ U, Below w0.heap.size w0 U → Wt U := fun U hb => hW.below hb hW.1
  refine callsIn_of_wp_marks Tryd.func6 rfl trivial ?_ rfl
  simp only [Tryd.ntmps6, List.size_toArray, List.length_cons, List.length_nil, Nat.reduceAdd, Nat.reduceSub, Array.replicate_succ, Array.replicate_zero, List.push_toArray, List.append_toArray, List.nil_append, List.cons_append]
  gi_wp2_with (first
    | (refine ⟨trivial, ?_⟩; gi_at_call 16; refine (callsIn_wide.2 hWr).mono ?_; rintro e w1 ⟨B, T, la, tv, rfl, hWt1, hBl, hTl, hrow, hb1⟩; obtain ⟨ta, tc, htv⟩ := own_slice hrow; subst htv; have hbd := behL_bd B 1 1 (by omega) (by omega); have HW := hid_of hWt1; clear hWt1; obtain ⟨LN, hLN⟩ : ∃ x, (behL 1 1 B).1 = x := ⟨_, rfl⟩; obtain ⟨CL, hCL⟩ : ∃ x, (behL 1 1 B).2 = x := ⟨_, rfl⟩; rw [hLN, hCL] at hbd; have HL := hid_of hLN; have HC := hid_of hCL; rw [hLN, hCL]; clear hLN hCL; have hcw : IntKind.i64.wrap (CL + 1) = CL + 1 := (by rw [IntKind.wrap_i64]; omega))
    | (refine ⟨trivial, ?_⟩; gi_at_call 19; refine (callsIn_wide.2 (hBd _)).mono ?_; rintro e w2 ⟨⟨b, er, rfl, hbad⟩, hw2⟩; have hw2' := hw2.symm; subst hw2'; have hbl := hbad.len; have hsB := bs_sz B; have hsb := bs_sz b; have hsr := bs_sz rl; have n1 : ¬ 9223372036854775807 < B.length + 1 := (by omega); have n2 : ¬ 9223372036854775807 < B.length + 1 + b.length := (by omega); have n3 : ¬ 9223372036854775807 < B.length + 1 + b.length + 1 := (by omega); have n4 : ¬ 9223372036854775807 < B.length + 1 + b.length + 1 + rl.length := (by omega); rcases Nat.lt_or_ge 65536 (B.length + b.length + rl.length + 2) with hfit | hfit))
  all_goals
    first
    | (have hlt : 65536 < B.length + b.length + rl.length + 2 := hfit; have hsc := scan_bad (S := B ++ (32 :: (b ++ []))) HW.out hbad (r := []) (.inl rfl) rfl (by simp; omega) hTl; rw [← cat_bad, HL.out, HC.out] at hsc; generalize bs B ++ (⟨#[32]⟩ : ByteArray) ++ bs b = S at hsc ⊢)
    | (have hge : B.length + b.length + rl.length + 2 ≤ 65536 := hfit; have hsc := scan_bad (S := B ++ (32 :: (b ++ (32 :: rl)))) HW.out hbad (r := 32 :: rl) (.inr ⟨rl, rfl⟩) rfl (by simp; omega) hTl; rw [← cat_bad2, HL.out, HC.out] at hsc; generalize bs B ++ (⟨#[32]⟩ : ByteArray) ++ bs b ++ ⟨#[32]⟩ ++ bs rl = S at hsc ⊢)
    obtain ⟨hWh, hSc⟩ := hsc
    have her := hbad.rng
    have hw32 : IntKind.i32.wrap er = er := by rw [IntKind.wrap_i32]; omega
    have hz1 := hb1.size
    have hz1' : w0.heap.size + 1 ≤ w1.heap.size := by simpa using hz1
    have hB1 : Below w0.heap.size w0 w1 := hb0.trans (hb1.mono (by simp))
    have hbV : Below w0.heap.size w0 ((w1.alloc (.cells #[.slice ta T.length tc] 28)).alloc (.cells #[.int .i64 LN, .int .i64 (CL + 1)] 34)) := (hB1.alloc (by omega) _).alloc (by simp; omega) _
    have hV0 : Has ((w1.alloc (.cells #[.slice ta T.length tc] 28)).alloc (.cells #[.int .i64 LN, .int .i64 (CL + 1)] 34)) w0.heap.size #[.bool false] := ((hp0.below hb1).alloc _).alloc _
    have hVM : Has ((w1.alloc (.cells #[.slice ta T.length tc] 28)).alloc (.cells #[.int .i64 LN, .int .i64 (CL + 1)] 34)) w1.heap.size #[.slice ta T.length tc] := (Has.new _ _ _ rfl).alloc _
    have hVP : Has ((w1.alloc (.cells #[.slice ta T.length tc] 28)).alloc (.cells #[.int .i64 LN, .int .i64 (CL + 1)] 34)) (w1.heap.size + 1) #[.int .i64 LN, .int .i64 (CL + 1)] := Has.new _ _ _ (by simp)
    have hVR : ((w1.alloc (.cells #[.slice ta T.length tc] 28)).alloc (.cells #[.int .i64 LN, .int .i64 (CL + 1)] 34)).ownsRow (w0.heap.size + 1) 36 5 (.slice ta T.length tc) T.length (cellsOf T) := (((by simpa using hrow : w1.ownsRow (w0.heap.size + 1) 36 5 (.slice ta T.length tc) T.length (cellsOf T)).alloc _).alloc _)
    have hVl : ∀ g, (Value.slice ta T.length tc).ownBlock = some g → g < w1.heap.size := fun g hg => (hrow.lt g hg).2
    have hVz : ((w1.alloc (.cells #[.slice ta T.length tc] 28)).alloc (.cells #[.int .i64 LN, .int .i64 (CL + 1)] 34)).heap.size = w1.heap.size + 2 := by simp
    have hq5 : Hid (T.length + 1 ≤ maxLen) := by show _ ≤ _; unfold maxLen; omega
    have hq6 : Hid ((T.length + 1) * 48 ≤ 140737488355328) := by show _ ≤ _; omega
    have hVH0 : ((w1.alloc (.cells #[.slice ta T.length tc] 28)).alloc (.cells #[.int .i64 LN, .int .i64 (CL + 1)] 34)).heap[w1.heap.size]? = some (.cells #[.slice ta T.length tc] 28 (0, 0)) := (Below.heap_alloc _ _ _ (by simp)).trans (heap_alloc_new w1 _)
    generalize ((w1.alloc (.cells #[.slice ta T.length tc] 28)).alloc (.cells #[.int .i64 LN, .int .i64 (CL + 1)] 34)) = V at hbV hV0 hVM hVP hVR hVz hVH0 ⊢
    clear hrow hb1 hB1 hp0 hb0 hbad hfit hWr hBd HW
    have hVH : V.heap[w1.heap.size]? = some (.cells #[.slice ta T.length tc] 28 (0, 0)) := hVH0
    clear hVH0
    gi_wp2_with (first
      | (refine ⟨trivial, ?_⟩; gi_at_call 17; refine (callsIn_wide.2 (hSc _ (hWt _ hbV))).mono ?_; rintro e w3 ⟨rfl, hb3⟩; have hM3 := hVM.below hb3; have hP3 := hVP.below hb3; have h03 := hV0.below hb3; have hR3 := own_keep hVR (fun g hg => hb3.block g (by have := hVl g hg; omega)); have hB3 := hbV.trans (hb3.mono hbV.size); have hz3 := hb3.size; obtain ⟨a0, A1, a2⟩ := id hM3; obtain ⟨c0, C1, c2⟩ := id hP3; obtain ⟨d0, D1, d2⟩ := id h03)
      | (gi_at_builtin; refine wpListIn_append_own _ rfl _ _ 28 rfl (w0.heap.size + 1) 36 i36 _ 5 48 Tryd.underlying28 h36 h36z h36s h36b rfl (by decide) _ _ _ rfl ((hR3.alloc _).alloc _) ⟨w3.heap.size + 1, 0, none⟩ 1 1 [.int .i64 (-1), .int .i32 er, .string ⟨#[]⟩, .int .i64 LN, .int .i64 (CL + 1)] rfl rfl (cells_five_at (by simp) _ _ _ _ _ _) (fun u hu => by simp at hu; rcases hu with rfl | rfl | rfl | rfl | rfl <;> rfl) hq5.out hq6.out (by simp; omega) ?_; intro v5 w5 hown5 hgrow5 hnil5; obtain ⟨g5, cap5, hv5⟩ := ownsRow_succ hown5; subst hv5; have hH5 := (hgrow5.block w1.heap.size (by simp; omega) (by intro e; have := hVl _ e.symm; omega)).trans ((Below.heap_alloc _ _ _ (by simp; omega)).trans ((Below.heap_alloc _ _ _ (by omega)).trans ((hb3.block w1.heap.size (by omega)).trans hVH))); obtain ⟨e0, E1, e2⟩ := id (Has.ofHeap hH5))
      | (refine ⟨trivial, ?_⟩; gi_at_call 15; refine (callsIn_wide.2 (hEa _ _)).mono ?_; rintro e w6 ⟨rfl, hw6⟩; subst hw6))
    have hg5 := hown5.lt g5 rfl
    have hz5 := hgrow5.size
    have hM5 : w1.heap.size < w5.heap.size := (Array.getElem?_eq_some_iff.1 hH5).1
    have hne5 : g5 ≠ w1.heap.size := fun e => own_block hown5 hH5 (by decide) (by rw [e]; rfl)
    obtain ⟨L, hL⟩ : ∃ L, T ++ [⟨⟨-1, er, []⟩, LN, CL + 1⟩] = L := ⟨_, rfl⟩
    have hTL : T.length + 1 = L.length := by rw [← hL]; simp
    have hcs : cellsOf L = cellsOf T ++ [.int .i64 (-1), .int .i32 er, .string ⟨#[]⟩, .int .i64 LN, .int .i64 (CL + 1)] := by rw [← hL, cellsOf_snoc]; rfl
    rw [← hcs, hTL] at hown5
    rw [hTL]
    have h05 : Has w5 w0.heap.size #[.bool false] := (((h03.alloc _).alloc _).blk hgrow5.size (hgrow5.block _ (by simp; omega) (by intro e; have := hVR.lt _ e.symm; omega)))
    have hB5 : Below w0.heap.size w0 w5 := ((hB3.alloc hB3.size _).alloc (by have := hB3.size; simp; omega) _).grown hgrow5 (by have := hB3.size; simp; omega) (fun g hg => by have := hVR.lt _ hg; omega)
    have hFt : FtI w0 w1.heap.size w5.heap.size g5 cap5 L 0 (((w5.setCell ⟨w1.heap.size, 0, none⟩ (.slice (some ⟨g5, 0, none⟩) L.length cap5)).alloc (.cells #[.string S] 9)).alloc (.cells #[.int .i64 0] 3)) :=
      ⟨((h05.far (by omega) _).alloc _).alloc _, (((Has.ofHeap hH5).set 0 (by simp) _).alloc _).alloc _, Has.new _ _ _ (by simp [World.setCell]),
       own_mono (((own_keep hown5 (fun k hk => Below.heap_setCell _ _ _ _ (by have : g5 = k := Option.some.inj hk; show k ≠ w1.heap.size; omega))).alloc _).alloc _) (by omega),
       ((hB5.setCell (by show w0.heap.size ≤ w1.heap.size; omega) _).alloc (by have := hB5.size; simpa [World.setCell] using this) _).alloc (by have := hB5.size; simp [World.setCell]; omega) _, hg5.2, hz1', hM5⟩
    have hSb : Has (((w5.setCell ⟨w1.heap.size, 0, none⟩ (.slice (some ⟨g5, 0, none⟩) L.length cap5)).alloc (.cells #[.string S] 9)).alloc (.cells #[.int .i64 0] 3)) w5.heap.size #[.string S] := (Has.new _ _ _ (by simp [World.setCell])).alloc _
    have hUz : (((w5.setCell ⟨w1.heap.size, 0, none⟩ (.slice (some ⟨g5, 0, none⟩) L.length cap5)).alloc (.cells #[.string S] 9)).alloc (.cells #[.int .i64 0] 3)).heap.size = w5.heap.size + 2 := by simp [World.setCell]
    generalize (((w5.setCell ⟨w1.heap.size, 0, none⟩ (.slice (some ⟨g5, 0, none⟩) L.length cap5)).alloc (.cells #[.string S] 9)).alloc (.cells #[.int .i64 0] 3)) = U at hFt hSb hUz ⊢
    have hWU := hWt _ hFt.bel
    clear hown5 hgrow5 hnil5 hH5 E1 e2 e0 h05 hB5 hSc hb3 hM3 hP3 h03 hR3 hB3 A1 C1 D1 a0 a2 c0 c2 d0 d2 hbV hV0 hVM hVP hVR hVl hVz hVH hq5 hq6 hcs h36 h36z h36s h36b hEa hWt
    have hLl : Hid (L.length = T.length + 1) := hTL.symm
    clear hTL
    refine range_tokens (s := S) (ts := T) (z := ⟨⟨-1, er, []⟩, LN, CL + 1⟩) (sb := w5.heap.size) hWh hWU hSb rfl rfl (fun pre W => FtI w0 w1.heap.size w5.heap.size g5 cap5 L pre.length W ∧ Has W w5.heap.size #[.string S] ∧ (pre.length : Int) ≤ L.length)
      (fun c pre W => False)
      (fun pre x lo a₁ W => ∃ b, lo ≤ b ∧ FtI w0 w1.heap.size w5.heap.size g5 cap5 L pre.length W ∧ Has W w5.heap.size #[.string S] ∧ Has W b #[.int .i64 x.t.kind, .int .i32 x.t.num, .string (bs x.t.text), .int .i64 x.line, .int .i64 x.col] ∧ ∃ f : Nat → Value, a₁ = { tmps := #[f 0, f 1, f 2, f 3, f 4, f 5, .pointer (some ⟨w0.heap.size, 0, none⟩), f 7, .pointer (some ⟨w1.heap.size, 0, none⟩), f 9, f 10, f 11, f 12, f 13, f 14, .pointer (some ⟨w5.heap.size + 1, 0, none⟩), .pointer (some ⟨b, 0, none⟩), f 17, f 18, f 19, f 20, f 21, f 22, f 23, f 24, f 25, f 26, f 27, f 28, f 29, f 30, f 31, f 32, f 33, f 34, f 35, f 36, f 37, f 38, f 39, f 40, f 41, f 42, f 43, f 44, f 45, f 46, f 47, f 48, f 49, f 50, f 51, f 52, f 53, f 54, f 55, f 56, f 57, f 58, f 59, f 60, f 61, f 62, f 63, f 64, f 65, f 66, f 67, f 68, f 69, f 70, f 71, f 72, f 73, f 74, f 75, f 76, f 77, f 78, x.v, f 80, f 81, f 82, f 83, f 84, f 85, f 86, f 87, f 88, f 89, f 90, f 91, f 92, f 93, f 94, f 95, f 96, f 97], defers := [] })
      ?hI ?hIx ?hAx ?h0 ?assign ?body ?done ?stop
    case hI =>
      rintro pre A B ⟨h1, h2, h3⟩ ho
      exact ⟨h1.only ho (fun k hk => by unfold Rng; omega), h2.only ho (by unfold Rng; omega), h3⟩
    case hIx => exact fun c pre A B h => h.elim
    case hAx =>
      rintro pre x lo a₁ A B ⟨b, h1, h2, h3, h4, h5⟩ hlo ho
      exact ⟨b, h1, h2.only ho (fun k hk => by omega), h3.only ho (by omega), h4.only ho (by omega), h5⟩
    case h0 => exact ⟨hFt, hSb, by simp⟩
    case assign =>
      rintro l pre ⟨⟨kk, nn, xx⟩, ln, cl⟩ W W' K ⟨h1, h2, h3⟩ hb hlo hp hK
      have ev : Tok.v ⟨⟨kk, nn, xx⟩, ln, cl⟩ = .agg #[.int .i64 kk, .int .i32 nn, .string (bs xx), .int .i64 ln, .int .i64 cl] := rfl
      rw [ev]
      gi_wp2
      have hO := (Only.of_below (S := fun _ => False) hb).alloc (.cells #[.int .i64 kk, .int .i32 nn, .string (bs xx), .int .i64 ln, .int .i64 cl] 36)
      refine hK _ _ ⟨W'.heap.size, hb.size, h1.only hO (fun _ _ h => h), h2.only hO (fun h => h), Has.new _ _ _ rfl, fr_of _ _ _ _ _ _ rfl rfl⟩ ((Below.refl _ _).alloc (Nat.le_refl _) _)
    case body =>
      rintro l pre ⟨⟨kk, nn, xx⟩, ln, cl⟩ lo a₁ W ⟨b, hlb, hG, hs, hb, f, rfl⟩ hp hlo hlg
      rw [hL] at hp
      obtain ⟨hplt, hpx⟩ := pre_lt' hp
      obtain ⟨_, _, e1, hT⟩ := toks_own hG.row
      cases e1
      obtain ⟨g', e2, _, _, hT⟩ := hT.resolve_left (by intro h; rw [h] at hplt; simp at hplt)
      cases e2
      obtain ⟨p0, p1, p2, p3, p4⟩ := hT _ hplt
      rw [hpx] at p0 p1 p2 p3 p4
      dsimp only at p0 p1 p2 p3 p4
      obtain ⟨b0, B1, b2⟩ := id hb
      obtain ⟨d0, D1, d2⟩ := id hG.ml
      obtain ⟨f0, F1, f2⟩ := id hG.cnt
      have hfin1 : Hid (endPost (fun pre W => FtI w0 w1.heap.size w5.heap.size g5 cap5 L pre.length W ∧ Has W w5.heap.size #[.string S] ∧ (pre.length : Int) ≤ L.length)
          (fun c pre W => False) U.heap.size w5.heap.size lo (pre ++ [⟨⟨kk, nn, xx⟩, ln, cl⟩]) W .normal ⟨#[], []⟩ (W.setCell ⟨w5.heap.size + 1, 0, none⟩ (.int .i64 ((pre.length : Int) + 1))).drew) := by
        refine ⟨⟨?_, fun k hk hlt => ?_⟩, ?_, ?_, ?_⟩
        · have : W.heap.size ≤ (W.setCell ⟨w5.heap.size + 1, 0, none⟩ (.int .i64 ((pre.length : Int) + 1))).heap.size := by simp [World.setCell]
          exact this
        · exact Below.heap_setCell _ _ _ _ (by
            show k ≠ w5.heap.size + 1
            rcases hk with h | h | h | h
            · omega
            · omega
            · unfold Rng at h; omega
            · omega)
        · have := (hG.count (pre.length + 1)).drew
          rw [List.length_append]
          exact this
        · exact (hs.far (by omega) _).drew
        · rw [List.length_append]; simp; omega
      have k9 : (pre.length : Int) ≤ 65537 := by have := hLl.out; omega
      have k1 : (pre.length : Int) < (L.length : Int) := by omega
      have k0 : (0 : Int) ≤ (pre.length : Int) := by omega
      generalize hpn : pre.length = n at *
      clear hT hpx hp hWh hWU hs hb hG hFt hSb hL
      have kd : decide (L.length ≤ n) = false := by simp; omega
      gi_wp2
      gi_region_with (fail)
      all_goals
        gi_wp2
        exact hfin1.out
    case done =>
      rintro X ⟨h1, h2, h3⟩ hD hz
      have hLL : (T ++ [(⟨⟨-1, er, []⟩, LN, CL + 1⟩ : Tok)]).length = L.length := by rw [hL]
      rw [hLL] at h1
      obtain ⟨d0, D1, d2⟩ := id h1.ml
      obtain ⟨f0, F1, f2⟩ := id h1.cnt
      obtain ⟨e0, E1, e2⟩ := id h1.res
      gi_wp2
      have hB1 : Below w0.heap.size w0 (X.setCell ⟨w0.heap.size, 0, none⟩ (.bool true)) := h1.bel.setCell (by show w0.heap.size ≤ w0.heap.size; omega) _
      have hR1 := h1.res.set 0 (by simp) (.bool true)
      have hO : Only (fun k => k = w0.heap.size) X (X.setCell ⟨w0.heap.size, 0, none⟩ (.bool true)) := (Only.refl (fun k => k = w0.heap.size) X).set (b := w0.heap.size) (i := 0) rfl _
      have hBs := h1.plt
      have hBm := h1.mlt
      have hDu := (hO.block U.heap.size (by omega) (by omega)).trans hD
      have hXz : U.heap.size + 2 ≤ (X.setCell ⟨w0.heap.size, 0, none⟩ (.bool true)).heap.size := by have := hO.size; omega
      generalize (X.setCell ⟨w0.heap.size, 0, none⟩ (.bool true)) = Y at hB1 hR1 hDu hXz ⊢
      have hP1 : Only (fun k => k = U.heap.size) Y (Y.putObj U.heap.size (.deferred none)) := (Only.refl (fun k => k = U.heap.size) Y).put (r := U.heap.size) _ rfl
      have hF1 := hR1.only hP1 (by omega)
      obtain ⟨y0, Y1, y2⟩ := id hF1
      refine ⟨by simp, .inl ⟨_, _, rfl, run_takeDeferred hDu, ?_⟩⟩
      refine ⟨.bool true, by simp [results, Tryd.results6, go_sem, Y1], rfl, ?_⟩
      exact hB1.trans ⟨rfl, rfl, rfl, by simp, fun k hk => hP1.block k (by omega) (by omega)⟩
    case stop => exact fun c pre W hp h => h.elim
end Go.Proofs.YtjohnhaahpggkaaDoor
