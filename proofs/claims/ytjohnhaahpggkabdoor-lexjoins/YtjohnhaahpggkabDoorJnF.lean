import Derived.Test.YtjohnhaahpggkabDoorJnE
namespace Go.Proofs.YtjohnhaahpggkabDoor
open Go.RowKit
set_option linter.unusedVariables false
set_option linter.unusedSimpArgs false

set_option maxRecDepth 100000 in
set_option maxHeartbeats 4000000 in
theorem spelled_rest (k n : Int) (tx : ByteArray) (ln cl : Int) (w : World) (hn1 : -2147483648 ≤ n) (hn2 : n ≤ 2147483647) (hK : Kt w) (hS : St w) (h1 : ¬ k = 1) :
    Calls Tryd.prog 21 #[.agg #[.int .i64 k, .int .i32 n, .string tx, .int .i64 ln, .int .i64 cl]] w (SpPost ⟨k, n, tx, ln, cl⟩ w) := by
  have hb0 : Below w.heap.size w (w.alloc (.cells #[.int .i64 k, .int .i32 n, .string tx, .int .i64 ln, .int .i64 cl] 27)) := (Below.refl _ _).alloc (Nat.le_refl _) _
  unfold SpPost
  cases he : tx.toList.isEmpty
  · have hF : okF ⟨k, n, tx, ln, cl⟩ true = false := by unfold okF; simp [h1, he]
    rw [hF]
    clear hF
    go_enter Tryd.func21, Tryd.ntmps21
    go_wp2
    exact bodyPost_ret (v := .tuple #[.string ⟨#[]⟩, .bool false]) (by simp [results, Tryd.results21, go_sem]) rfl ⟨⟨⟨#[]⟩, rfl, fun h => by cases h⟩, hb0⟩
  · by_cases h2 : k = 2
    · subst h2
      have hF : okF ⟨2, n, tx, ln, cl⟩ true = decide (0 ≤ n) := by show (decide (0 ≤ n) && tx.toList.isEmpty) = _; rw [he, Bool.and_true]
      have hsp : spF ⟨2, n, tx, ln, cl⟩ = ⟨(Lib.itoa n).toArray⟩ := rfl
      rw [hF, hsp]
      by_cases hn : 0 ≤ n
      · obtain ⟨m, rfl⟩ := Int.eq_ofNat_of_zero_le hn
        have hit : (⟨(Lib.itoa (m : Int)).toArray⟩ : ByteArray) = bs (Lib.decDigits m) := by
          unfold Lib.itoa; rw [if_neg (by omega)]; rfl
        rw [hit]
        have hD := fun W => dec32_any m W (by omega)
        generalize bs (Lib.decDigits m) = D at *
        have hd : decide ((0 : Int) ≤ (m : Int)) = true := by simp
        clear hF hsp hit
        go_enter Tryd.func21, Tryd.ntmps21
        go_wp2_with (go_at_call 33; (with_reducible refine (hD _).mono ?_); rintro e w1 ⟨rfl, hb1⟩)
        exact bodyPost_ret (v := .tuple #[.string D, .bool true]) (by simp [results, Tryd.results21, go_sem]) rfl ⟨⟨D, by rw [hd], fun _ => rfl⟩, hb0.trans (hb1.mono hb0.size)⟩
      · clear hF hsp
        go_enter Tryd.func21, Tryd.ntmps21
        go_wp2
        exact bodyPost_ret (v := .tuple #[.string ⟨#[]⟩, .bool false]) (by simp [results, Tryd.results21, go_sem]) rfl ⟨⟨⟨#[]⟩, by rw [decide_eq_false (show ¬ 0 ≤ n by omega)], fun h => by exfalso; omega⟩, hb0⟩
    · have hWo := refWord_any k (w.alloc (.cells #[.int .i64 k, .int .i32 n, .string tx, .int .i64 ln, .int .i64 cl] 27)) (hK.below hb0 hK.1) (hS.below hb0 hS.1)
      have hsp : spF ⟨k, n, tx, ln, cl⟩ = wordA k := by unfold spF; simp [h1, h2]
      rw [hsp]
      have hF : okF ⟨k, n, tx, ln, cl⟩ true = (decide (n = 0) && (!(wordA k).toList.isEmpty || decide (k = 0))) := by
        unfold okF
        by_cases h0 : k = 0
        · subst h0
          simp [he]
        · simp [h1, h2, h0, he, Bool.and_comm]
      rw [hF]
      clear hF hsp
      generalize wordA k = wa at *
      by_cases hn : n = 0
      · subst hn
        cases hwa : wa.toList.isEmpty
        · go_enter Tryd.func21, Tryd.ntmps21
          go_wp2_with (go_at_call 34; (with_reducible refine hWo.mono ?_); rintro e w1 ⟨rfl, hw1⟩; have hw1' := hw1.symm; subst hw1')
          go_quiet (fail)
          go_wp2
          exact bodyPost_ret (v := .tuple #[.string wa, .bool true]) (by simp [results, Tryd.results21, go_sem]) rfl ⟨⟨wa, by simp, fun _ => rfl⟩, bel_drewN hb0⟩
        · by_cases h0 : k = 0
          · subst h0
            go_enter Tryd.func21, Tryd.ntmps21
            go_wp2_with (go_at_call 34; (with_reducible refine hWo.mono ?_); rintro e w1 ⟨rfl, hw1⟩; have hw1' := hw1.symm; subst hw1')
            go_quiet (fail)
            go_wp2
            exact bodyPost_ret (v := .tuple #[.string wa, .bool true]) (by simp [results, Tryd.results21, go_sem]) rfl ⟨⟨wa, by simp, fun _ => rfl⟩, bel_drewN hb0⟩
          · have h0' : (k == 0) = false := by simpa using h0
            have h0d : decide (k = 0) = false := by simpa using h0
            go_enter Tryd.func21, Tryd.ntmps21
            go_wp2_with (go_at_call 34; (with_reducible refine hWo.mono ?_); rintro e w1 ⟨rfl, hw1⟩; have hw1' := hw1.symm; subst hw1')
            go_quiet (fail)
            go_wp2
            exact bodyPost_ret (v := .tuple #[.string wa, .bool false]) (by simp [results, Tryd.results21, go_sem]) rfl ⟨⟨wa, by simp [h0], fun _ => rfl⟩, bel_drewN hb0⟩
      · have hn' : (n == 0) = false := by simpa using hn
        have hnd : decide (n = 0) = false := by simpa using hn
        go_enter Tryd.func21, Tryd.ntmps21
        go_wp2_with (go_at_call 34; (with_reducible refine hWo.mono ?_); rintro e w1 ⟨rfl, hw1⟩; have hw1' := hw1.symm; subst hw1')
        go_quiet (fail)
        go_wp2
        exact bodyPost_ret (v := .tuple #[.string wa, .bool false]) (by simp [results, Tryd.results21, go_sem]) rfl ⟨⟨wa, by simp [hn], fun _ => rfl⟩, bel_drewN hb0⟩
theorem spelled_any (t : Tq) (w : World) (ht : t.Ok) (hK : Kt w) (hS : St w) : Calls Tryd.prog 21 #[t.v] w (SpPost t w) := by
  obtain ⟨k, n, tx, ln, cl⟩ := t
  by_cases h1 : k = 1
  · subst h1; exact spelled_name n tx ln cl w ht.2 hK hS
  · exact spelled_rest k n tx ln cl w ht.1.1 ht.1.2 hK hS h1
end Go.Proofs.YtjohnhaahpggkabDoor
