import Derived.Test.YtnicolaphmffkaaGreatDoorRmL
import Derived.Test.YtnicolaphmffkaaGreatDoorCsO
import Derived.Test.YtnicolaphmffkaaGreatDoorTabs
import Derived.Test.YtnicolaphmffkaaGreatDoorCards
import Derived.Test.YtnicolaphmffkaaGreatDoorTie
import Derived.ChangeArms
import Derived.ShutString
import Derived.Deep.DeepHandedRow
namespace Go.Proofs.YtnicolaphmffkaaGreatDoor.checkSounds
open Go.ChangeShapes Go.WideShapes Go.ChangeAt Go.RowKit
set_option linter.unusedVariables false
set_option linter.unusedSimpArgs false

theorem okWide_i64 {P : Program} {w : World} {r : Reach} {base : Nat} {t : TypeId} {v : Value} (ht : P.underlying t = some (.int .i64)) (h : Value.okWide P w r base t v) : ∃ n, v = .int .i64 n := by
  simp only [Value.okWide, ht, Cell.okWide] at h
  cases v <;> simp_all [Cell.ok, IntKind.has, IntKind.min, IntKind.max, IntKind.signed, IntKind.bits]
theorem bounds {H : Type} {d0 d1 d2 : DataW H} (hk : Rows.uptoSmall H ([d0, d1, d2] ++ []) = true) : Rows.uptoBulk d0 ≤ 1048576 ∧ Rows.uptoBulk d1 ≤ 1048576 := by
  have h : Rows.uptoBulkAll [d0, d1, d2] ≤ 1048576 := of_decide_eq_true hk
  simp only [Rows.uptoBulkAll] at h
  omega
theorem of_laid2 {W : World} (h : laidMet Tryz.prog laidR W) : Tb W := by
  have h1 := strs_of_head (zs := kwL) g1 tg1 u55 Tryz.underlying9 c9 c55 (rest := [("junction/junctionref2.signs", Rows.laid_junction_junctionref2_signs), ("junction/lex.words", Rows.laid_junction_lex_words)]) h
  have h2 := strs_of_head (zs := sgL) g2 tg2 u56 Tryz.underlying9 c9 c56 (rest := [("junction/lex.words", Rows.laid_junction_lex_words)]) h.tail
  have h3 := strs_of_head (zs := wdL) g0 tg0 u54 Tryz.underlying9 c9 c54 (rest := []) h.tail.tail
  refine ⟨⟨lt_of_cell (h3 0 (by decide)), fun i hi => ?_⟩, ⟨lt_of_cell (h1 0 (by decide)), fun i hi => h1 i hi⟩, ⟨lt_of_cell (h2 0 (by decide)), fun i hi => h2 i hi⟩⟩
  have := h3 i (by simpa [wdL] using hi)
  rw [wdL_get i hi] at this
  exact this
theorem met (os : Os) : laidMet Tryz.prog Rows.checkSoundsUptoRow.laid ((World.doorLaid Tryz.prog 400 os).forCall (fun _ _ => 0) ⟨#[], #[.agg #[.string ByteArray.empty, .slice none 0 0, .slice none 0 0, .slice none 0 0, .slice none 0 0, .slice none 0 0, .slice none 0 0, .slice none 0 0, .int .i64 0], .slice none 0 0, .int .i64 0], []⟩).memory :=
  laidMet_of_run' 8 (by kernel_rfl) (by kernel_rfl)
theorem reads (os : Os) {H : Type} (enc : TypeId × Value → H) : ∃ places, DataW.whole enc Tryz.prog ((World.doorLaid Tryz.prog 400 os).forCall (fun _ _ => 0) ⟨#[], #[.agg #[.string ByteArray.empty, .slice none 0 0, .slice none 0 0, .slice none 0 0, .slice none 0 0, .slice none 0 0, .slice none 0 0, .slice none 0 0, .int .i64 0], .slice none 0 0, .int .i64 0], []⟩).memory Tryz.f3.params.toList Rows.checkSoundsSpec.vars false #[Value.agg #[.string ByteArray.empty, .slice none 0 0, .slice none 0 0, .slice none 0 0, .slice none 0 0, .slice none 0 0, .slice none 0 0, .slice none 0 0, .int .i64 0], Value.slice none 0 0, Value.int .i64 0].toList 8 = some ([.agg [.lit (.string []), .agg [.nil, .nil], .nil, .nil, .nil, .nil, .nil, .lit (.int .i64 0)], .nil, .lit (.int .i64 0)], [], places) :=
  ⟨[], by kernel_rfl⟩
set_option maxRecDepth 100000 in
theorem lifted (os : Os) (started : os.Started) (H : Type) (enc : TypeId × Value → H) (F : Stop.Interp) :
    ReturnsInHanded {} Tryz.checked os 3 .any ((Rows.OpenSpec.upto Rows.checkSoundsSpec).preRow enc Tryz.prog Tryz.f3 Rows.checkSoundsUptoRow.domain false Rows.checkSoundsUptoRow.laid) (((Rows.OpenSpec.upto Rows.checkSoundsSpec).at F).post enc Tryz.prog Tryz.f3 false true false false) := by
  obtain ⟨places, hx⟩ := reads os enc
  refine returnsInHanded_of_row (C := Tryz.checked) (s := Rows.OpenSpec.upto Rows.checkSoundsSpec) own started (by kernel_rfl) Tryz.func3
    (witness_row_at (enc := enc) (C := Tryz.checked) false (World.doorLaid Tryz.prog 400 os) #[.agg #[.string ByteArray.empty, .slice none 0 0, .slice none 0 0, .slice none 0 0, .slice none 0 0, .slice none 0 0, .slice none 0 0, .slice none 0 0, .int .i64 0], .slice none 0 0, .int .i64 0] rfl (by kernel_rfl) (by kernel_rfl) (by kernel_rfl)
      (OpenSpec.preRow_of_cond 8 hx (by kernel_rfl) (fun k hk => by cases hk; kernel_rfl) (by kernel_rfl) (met os))) ?_
  intro W base args ds gs before hval0 hW _ hcond hsz hL _ _
  have hk := hcond _ rfl
  have hval : ∀ (j : Nat) t v, Tryz.f3.params[j]? = some t → args[j]? = some v → Value.okWide Tryz.prog W .any base t v := hval0
  have hW' := hW
  obtain ⟨p, q, hA0, hV, rfl, hfz, hnd⟩ := hW
  have hA : DataW.TrodAll enc Tryz.prog W 0 (fun _ => true) true Tryz.f3.params.toList args.toList ds p := hA0
  rw [Tryz.params3] at hA hval hsz
  obtain ⟨v0, vs0, d0, ds0, p0, q0, hargs, rfl, rfl, h0, r0⟩ := trodAll_cons hA
  obtain ⟨v1, vs1, d1, ds1, p1, q1, rfl, rfl, rfl, h1, r1⟩ := trodAll_cons r0
  obtain ⟨v2, vs2, d2, ds2, p2, q2, rfl, rfl, rfl, h2, r2⟩ := trodAll_cons r1
  obtain ⟨rfl, rfl, rfl⟩ := trodAll_nil r2
  obtain rfl : args = #[v0, v1, v2] := by cases args; simp_all
  obtain ⟨rfl, rfl⟩ := trodVars_none hV
  have k0 := h0
  have k1 := h1
  have k2 := h2
  have lt0 : ∀ x ∈ p0, x.block < W.heap.size := by obtain ⟨m, hm⟩ := k0; exact DataW.trod_lt m _ _ _ hm
  have lt1 : ∀ x ∈ p1, x.block < W.heap.size := by obtain ⟨m, hm⟩ := k1; exact DataW.trod_lt m _ _ _ hm
  have lt2 : ∀ x ∈ p2, x.block < W.heap.size := by obtain ⟨m, hm⟩ := k2; exact DataW.trod_lt m _ _ _ hm
  obtain ⟨hB0, hB1⟩ := bounds hk
  obtain ⟨G, C, D, TM, CT, VR, SG, pn, ga, ca, da, ta, ka, va, sa, gc, cc, dc, tc, kc, vc, sc, stt, rfl, hP, hgr, lG, lC, lD, lT, lK, lV, lS, lx⟩ := typed_argB h0 (hval 0 31 v0 rfl rfl) (wok_of_each hsz (j := 0) rfl rfl hB0)
  obtain ⟨L, ea, ec, rfl, hE, lL, hv⟩ := nodes_arg h1 (hval 1 32 v1 rfl rfl) (wok_of_each hsz (j := 1) rfl rfl hB1)
  obtain ⟨typ, rfl⟩ := okWide_i64 Tryz.underlying3 (hval 2 3 v2 rfl rfl)
  have tb : Tb W := of_laid2 hL
  clear hA0 hval0
  refine (sounds_law G C D TM CT VR SG L pn ga ca da ta ka va sa ea gc cc dc tc kc vc sc ec stt typ W hP tb hE hv lG lC lD lT lK lV lS lL lx hgr).mono fun e W' ⟨he, bel⟩ => ?_
  subst he
  exact ⟨_, rfl, _, _, _, [], _, [], hW', trodAll_mk1 (shut_bool Tryz.underlying4 _), (trodAll_cons_mk (Below.trod laidOut (by kernel_rfl) (of_decide_eq_true (by kernel_rfl)) k0 bel lt0) (trodAll_cons_mk (Below.trod laidOut (by kernel_rfl) (of_decide_eq_true (by kernel_rfl)) k1 bel lt1) (trodAll_cons_mk (Below.trod laidOut (by kernel_rfl) (of_decide_eq_true (by kernel_rfl)) k2 bel lt2) trodAll_mk0))), rfl, bel.frame _, fun h => by cases h⟩
theorem saidUpto : Rows.CheckSoundsUptoSaid :=
  OpenClaim.holds_of_cond 3 Tryz.f3 rfl rfl rfl rfl rfl rfl rfl ⟨rfl, rfl, rfl, rfl, rfl⟩ rfl rfl rfl rfl rfl (by kernel_rfl) Tryz.func3 (by kernel_rfl)
    (of_decide_eq_true (by kernel_rfl)) (by unfold Func.isWrapper; first | (rw [if_pos (by decide +kernel)]; kernel_rfl) | (rw [if_neg (by decide +kernel)]; exact ⟨rfl, rfl⟩))
    (fun os started H enc _ F => by rw [OpenClaim.pre_eq_preRow]; exact lifted os started H enc F)
end Go.Proofs.YtnicolaphmffkaaGreatDoor.checkSounds
namespace Go.Proofs.YtnicolaphmffkaaGreatDoor
theorem checkSoundsUpto_holds : Rows.CheckSoundsUptoCardSaid :=
  Claim7.holds_tied_plain_at .later [] [.data, .data, .data] true (true, "92430ffe84562c20ee2bb9aad4788d0b63800486acbe06a83f49ffbcaa7b0e30") false
    checkSounds.saidUpto (fun _ h => by cases h) (by kernel_rfl) (fun _ h => by cases h) checkSoundsUpto_row_tie rfl ⟨rfl, rfl⟩ (by kernel_rfl) rfl
    (fun f fn hf hfn => by
      obtain rfl : f = 3 := Option.some.inj ((show Tryz.prog.funcNamed "junction/junctionlaw5.CheckSounds" = some 3 by kernel_rfl).symm.trans hf) |>.symm
      obtain rfl : fn = Tryz.f3 := (Option.some.inj (Tryz.func3.symm.trans hfn)).symm
      exact ⟨by kernel_rfl, fun j t ht => by
        rw [Tryz.params3] at ht
        have hm : t ∈ [31, 32, 3] := by simpa using Array.mem_of_getElem? ht
        have hall : ([31, 32, 3].all fun u => !Tryz.prog.wantsStandIn u) = true := by kernel_rfl
        exact (show Tryz.prog.wantsStandIn t = false by simpa using List.all_eq_true.1 hall t hm)⟩)
    (by kernel_rfl)
#print axioms checkSoundsUpto_holds
end Go.Proofs.YtnicolaphmffkaaGreatDoor
