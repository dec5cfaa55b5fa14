import Derived.Test.YtjohnhaahpggkabDoorPcsD
namespace Go.Proofs.YtjohnhaahpggkabDoor
open Go.RowKit
set_option linter.unusedVariables false
set_option linter.unusedSimpArgs false

theorem dv16_R (c : UInt8) (h : dv c < 16) : isR c = true := by
  rw [isR_iff2]
  unfold dv at h
  split at h
  · omega
  · split at h
    · omega
    · split at h <;> omega
theorem dig_R {l : List UInt8} (h : Dig 16 l) : l.all isR = true := by
  rw [List.all_eq_true]; exact fun c hc => dv16_R c (h c hc).2
theorem gap_R {l : List UInt8} (h : l.all isR = true) : (gapL l).all isR = true := by
  cases l with
  | nil => rfl
  | cons c r =>
    simp only [List.all_cons, Bool.and_eq_true] at h
    have h95 : isR 95 = true := by decide
    simp only [gapL, List.all_cons, h.1, Bool.true_and]
    have key : ∀ r : List UInt8, r.all isR = true → (r.flatMap (fun x => [95, x])).all isR = true := by
      intro r
      induction r with
      | nil => intro _; rfl
      | cons x r ih =>
        intro hr
        simp only [List.all_cons, Bool.and_eq_true] at hr
        rw [List.flatMap_cons, List.all_append, ih hr.2]
        simp [h95, hr.1]
    exact key r h.2
theorem dress_R (z g : Bool) {l : List UInt8} (h : l.all isR = true) : (dress z g l).all isR = true := by
  have h48 : isR 48 = true := by decide
  have hz : (if z = true then 48 :: 48 :: l else l).all isR = true := by
    cases z
    · simpa using h
    · simp only [if_true, List.all_cons, h48, h, Bool.and_true]
  unfold dress
  cases g
  · rw [if_neg (by simp)]; exact hz
  · rw [if_pos rfl]; exact gap_R hz
theorem dress_len (z g : Bool) (l : List UInt8) : (dress z g l).length ≤ 2 * l.length + 4 := by
  have hz : (if z = true then 48 :: 48 :: l else l).length ≤ l.length + 2 := by cases z <;> simp
  unfold dress
  cases g
  · rw [if_neg (by simp)]; omega
  · rw [if_pos rfl]; have := gap_len (if z = true then 48 :: 48 :: l else l); omega
theorem hexL_short (g : Bool) (n k : Nat) (h : n < 16 ^ (k + 1)) : (hexL g n).length ≤ k + 1 := by
  induction k generalizing n with
  | zero => rw [hexL_small (by simpa using h)]; simp
  | succ k ih =>
    by_cases h10 : n < 16
    · rw [hexL_small h10]; simp
    · rw [hexL_big h10, List.length_append]
      have := ih (n / 16) (by rw [Nat.pow_succ] at h; omega)
      simp; omega
theorem numL_dec (z g : Bool) (n : Nat) (hn : n < 2147483648) : NumL n (dress z g (decL n)) := by
  have hne : decL n ≠ [] := by have := (decL_len n).1; intro h; rw [h] at this; simp at this
  have h1 := (dress_ok (b := 10) (by omega) z g (decL n) (decL_dig n) hne).1
  obtain ⟨c, r, e, hc, _⟩ := okD_head h1
  have hl := decL_short n 9 (by omega)
  have hd := dress_len z g (decL n)
  exact ⟨num_decL z g n, by omega, dress_R z g (all_R_of_D (decL_all n)), by omega, c, r, e, hc⟩
theorem numL_hex (z g u : Bool) (n : Nat) (hn : n < 2147483648) : NumL n (48 :: 120 :: dress z g (hexL u n)) := by
  have hl := hexL_short u n 7 (by omega)
  have hd := dress_len z g (hexL u n)
  have hR := dress_R z g (dig_R (hexL_dig u n))
  have h48 : isR 48 = true := by decide
  have h120 : isR 120 = true := by decide
  exact ⟨num_hexL z g u n, by omega, by simp only [List.all_cons, h48, h120, hR, Bool.and_true], by simp; omega, 48, _, rfl, by decide⟩

set_option maxRecDepth 100000 in
set_option maxHeartbeats 4000000 in
theorem numbered_num (wh N : Int) (tx : ByteArray) (w : World) (hw1 : -9223372036854775808 ≤ wh) (hw2 : wh < 9223372036854775808) (hn1 : -9223372036854775808 ≤ N) (hn2 : N < 9223372036854775808) (h3 : ¬ wh % 8 = 3) :
    Calls Tryd.prog 13 #[.agg #[.int .i64 wh, .int .i64 N, .string tx]] w fun e w' => (∃ v l, e = .returned (.tuple #[tokV ⟨2, (v : Nat), []⟩ 0 0, .string (bs l)]) ∧ NumL v l) ∧ Below w.heap.size w w' := by
  have B0 := fun W => below_any wh 8 W (by omega) (by omega) hw1 hw2
  have B1 := fun W => below_any N 2147483648 W (by omega) (by omega) hn1 hn2
  have B2 := fun W => below_any N 3 W (by omega) (by omega) hn1 hn2
  have B3 := fun W => below_any N 5 W (by omega) (by omega) hn1 hn2
  have B4 := fun W => below_any N 7 W (by omega) (by omega) hn1 hn2
  obtain ⟨n, en, hn⟩ := emod_nat N 2147483648 (by omega)
  rw [en] at B1
  have k3 : (wh % 8 == 3) = false := by simp; exact h3
  obtain ⟨x, ex⟩ : ∃ x : Bool, (wh % 8 == 2) = x := ⟨_, rfl⟩
  obtain ⟨u, eu⟩ : ∃ u : Bool, (N % 3 == 0) = u := ⟨_, rfl⟩
  obtain ⟨z, ez⟩ : ∃ z : Bool, (N % 5 == 0) = z := ⟨_, rfl⟩
  obtain ⟨g, eg⟩ : ∃ g : Bool, (N % 7 == 0) = g := ⟨_, rfl⟩
  generalize wh % 8 = k8 at *
  generalize N % 3 = x3 at *
  generalize N % 5 = x5 at *
  generalize N % 7 = x7 at *
  have D1 := fun W => decimal_any n W (by omega)
  have D2 := fun W => hex_any n u W (by omega)
  have l1 := decL_short n 9 (by omega)
  have l2 := hexL_short u n 7 (by omega)
  have p1 := (decL_len n).1
  have p2 := (hexL_len u n).1
  have hBb : Below w.heap.size w ((w.alloc (.cells #[.int .i64 wh, .int .i64 N, .string tx] 31)).alloc (.cells #[.int .i64 0, .int .i32 0, .string ⟨#[]⟩, .int .i64 0, .int .i64 0] 27)) := ((Below.refl _ _).alloc (Nat.le_refl _) _).alloc (by simp) _
  have hP0 : Has ((w.alloc (.cells #[.int .i64 wh, .int .i64 N, .string tx] 31)).alloc (.cells #[.int .i64 0, .int .i32 0, .string ⟨#[]⟩, .int .i64 0, .int .i64 0] 27)) w.heap.size #[.int .i64 wh, .int .i64 N, .string tx] := (Has.new _ _ _ rfl).alloc _
  have hQ0 : Has ((w.alloc (.cells #[.int .i64 wh, .int .i64 N, .string tx] 31)).alloc (.cells #[.int .i64 0, .int .i32 0, .string ⟨#[]⟩, .int .i64 0, .int .i64 0] 27)) (w.heap.size + 1) #[.int .i64 0, .int .i32 0, .string ⟨#[]⟩, .int .i64 0, .int .i64 0] := Has.new _ _ _ (by simp)
  have cz : ∀ l : List UInt8, (⟨#[48, 48]⟩ : ByteArray) ++ bs l = bs (48 :: 48 :: l) := fun l => by rw [show (⟨#[48, 48]⟩ : ByteArray) = bs [48, 48] from rfl, bs_app]; rfl
  have cx : ∀ l : List UInt8, (⟨#[48, 120]⟩ : ByteArray) ++ bs l = bs (48 :: 120 :: l) := fun l => by rw [show (⟨#[48, 120]⟩ : ByteArray) = bs [48, 120] from rfl, bs_app]; rfl
  have hok1 := fun z g => numL_dec z g n (by omega)
  have hok2 := fun z g => numL_hex z g u n (by omega)
  have sz1 := bs_szp (decL n)
  have sz2 := bs_szp (hexL u n)
  have G1 := fun W => gapped_any (decL n) W p1 (by omega)
  have G2 := fun W => gapped_any (48 :: 48 :: decL n) W (by simp) (by simp; omega)
  have G3 := fun W => gapped_any (hexL u n) W p2 (by omega)
  have G4 := fun W => gapped_any (48 :: 48 :: hexL u n) W (by simp) (by simp; omega)
  have gs : ∀ l : List UInt8, l.length ≤ 1000 → ¬ 9223372036854775807 < 2 + (bs l).size := fun l h => by rw [bs_szp]; omega
  have s1 := gs (decL n) (by omega)
  have s2 := gs (hexL u n) (by omega)
  have s3 := gs (48 :: 48 :: hexL u n) (by simp; omega)
  have s4 := gs (gapL (hexL u n)) (by have := gap_len (hexL u n); omega)
  have s5 := gs (gapL (48 :: 48 :: hexL u n)) (by have := gap_len (48 :: 48 :: hexL u n); simp at this ⊢; omega)
  clear h3 en gs
  cases x <;> cases z <;> cases g
  all_goals
    go_enter Tryd.func13, Tryd.ntmps13
    go_wp2_with (first
      | (go_at_call 11; (with_reducible refine (B0 _).mono ?_); rintro e w9 ⟨rfl, hw9⟩; have hw9' := hw9.symm; subst hw9')
      | (go_at_call 11; (with_reducible refine (B1 _).mono ?_); rintro e w9 ⟨rfl, hw9⟩; have hw9' := hw9.symm; subst hw9')
      | (go_at_call 11; (with_reducible refine (B2 _).mono ?_); rintro e w9 ⟨rfl, hw9⟩; have hw9' := hw9.symm; subst hw9')
      | (go_at_call 11; (with_reducible refine (B3 _).mono ?_); rintro e w9 ⟨rfl, hw9⟩; have hw9' := hw9.symm; subst hw9')
      | (go_at_call 11; (with_reducible refine (B4 _).mono ?_); rintro e w9 ⟨rfl, hw9⟩; have hw9' := hw9.symm; subst hw9')
      | (go_at_call 22; (with_reducible refine (D1 _).mono ?_); rintro e w1 ⟨rfl, hb1⟩; replace hBb := hBb.trans (hb1.mono hBb.size); replace hP0 := hP0.below hb1; replace hQ0 := hQ0.below hb1; obtain ⟨pp1, PP1, pq1⟩ := id hP0; obtain ⟨qp1, QQ1, qq1⟩ := id hQ0)
      | (go_at_call 23; (with_reducible refine (D2 _).mono ?_); rintro e w2 ⟨rfl, hb2⟩; replace hBb := hBb.trans (hb2.mono hBb.size); replace hP0 := hP0.below hb2; replace hQ0 := hQ0.below hb2; obtain ⟨pp2, PP2, pq2⟩ := id hP0; obtain ⟨qp2, QQ2, qq2⟩ := id hQ0)
      | (go_at_call 24; (with_reducible refine (G1 _).mono ?_); rintro e w3 ⟨rfl, hb3⟩; replace hBb := hBb.trans (hb3.mono hBb.size); replace hP0 := hP0.below hb3; replace hQ0 := hQ0.below hb3; obtain ⟨pp3, PP3, pq3⟩ := id hP0; obtain ⟨qp3, QQ3, qq3⟩ := id hQ0)
      | (go_at_call 24; (with_reducible refine (G2 _).mono ?_); rintro e w4 ⟨rfl, hb4⟩; replace hBb := hBb.trans (hb4.mono hBb.size); replace hP0 := hP0.below hb4; replace hQ0 := hQ0.below hb4; obtain ⟨pp4, PP4, pq4⟩ := id hP0; obtain ⟨qp4, QQ4, qq4⟩ := id hQ0)
      | (go_at_call 24; (with_reducible refine (G3 _).mono ?_); rintro e w5 ⟨rfl, hb5⟩; replace hBb := hBb.trans (hb5.mono hBb.size); replace hP0 := hP0.below hb5; replace hQ0 := hQ0.below hb5; obtain ⟨pp5, PP5, pq5⟩ := id hP0; obtain ⟨qp5, QQ5, qq5⟩ := id hQ0)
      | (go_at_call 24; (with_reducible refine (G4 _).mono ?_); rintro e w6 ⟨rfl, hb6⟩; replace hBb := hBb.trans (hb6.mono hBb.size); replace hP0 := hP0.below hb6; replace hQ0 := hQ0.below hb6; obtain ⟨pp6, PP6, pq6⟩ := id hP0; obtain ⟨qp6, QQ6, qq6⟩ := id hQ0))
  · obtain ⟨x0, X1, x2⟩ := hQ0.set5 (.int .i64 2) (.int .i32 (n : Int)) (.string ⟨#[]⟩) (.int .i64 0) (.int .i64 0)
    exact bodyPost_ret (v := .tuple #[.agg #[.int .i64 2, .int .i32 (n : Int), .string ⟨#[]⟩, .int .i64 0, .int .i64 0], .string (bs (dress false false (decL n)))]) (by simp [results, Tryd.results13, go_sem, X1, dress]) rfl ⟨⟨n, dress false false (decL n), rfl, hok1 false false⟩, ((((hBb.setCell (by simp) _).setCell (by simp) _).setCell (by simp) _).setCell (by simp) _).setCell (by simp) _⟩
  · obtain ⟨x0, X1, x2⟩ := hQ0.set5 (.int .i64 2) (.int .i32 (n : Int)) (.string ⟨#[]⟩) (.int .i64 0) (.int .i64 0)
    exact bodyPost_ret (v := .tuple #[.agg #[.int .i64 2, .int .i32 (n : Int), .string ⟨#[]⟩, .int .i64 0, .int .i64 0], .string (bs (dress false true (decL n)))]) (by simp [results, Tryd.results13, go_sem, X1, dress]) rfl ⟨⟨n, dress false true (decL n), rfl, hok1 false true⟩, ((((hBb.setCell (by simp) _).setCell (by simp) _).setCell (by simp) _).setCell (by simp) _).setCell (by simp) _⟩
  · obtain ⟨x0, X1, x2⟩ := hQ0.set5 (.int .i64 2) (.int .i32 (n : Int)) (.string ⟨#[]⟩) (.int .i64 0) (.int .i64 0)
    exact bodyPost_ret (v := .tuple #[.agg #[.int .i64 2, .int .i32 (n : Int), .string ⟨#[]⟩, .int .i64 0, .int .i64 0], .string (bs (dress true false (decL n)))]) (by simp [results, Tryd.results13, go_sem, X1, dress]) rfl ⟨⟨n, dress true false (decL n), rfl, hok1 true false⟩, ((((hBb.setCell (by simp) _).setCell (by simp) _).setCell (by simp) _).setCell (by simp) _).setCell (by simp) _⟩
  · obtain ⟨x0, X1, x2⟩ := hQ0.set5 (.int .i64 2) (.int .i32 (n : Int)) (.string ⟨#[]⟩) (.int .i64 0) (.int .i64 0)
    exact bodyPost_ret (v := .tuple #[.agg #[.int .i64 2, .int .i32 (n : Int), .string ⟨#[]⟩, .int .i64 0, .int .i64 0], .string (bs (dress true true (decL n)))]) (by simp [results, Tryd.results13, go_sem, X1, dress]) rfl ⟨⟨n, dress true true (decL n), rfl, hok1 true true⟩, ((((hBb.setCell (by simp) _).setCell (by simp) _).setCell (by simp) _).setCell (by simp) _).setCell (by simp) _⟩
  · obtain ⟨x0, X1, x2⟩ := hQ0.set5 (.int .i64 2) (.int .i32 (n : Int)) (.string ⟨#[]⟩) (.int .i64 0) (.int .i64 0)
    exact bodyPost_ret (v := .tuple #[.agg #[.int .i64 2, .int .i32 (n : Int), .string ⟨#[]⟩, .int .i64 0, .int .i64 0], .string (bs (48 :: 120 :: dress false false (hexL u n)))]) (by simp [results, Tryd.results13, go_sem, X1, dress]) rfl ⟨⟨n, 48 :: 120 :: dress false false (hexL u n), rfl, hok2 false false⟩, ((((hBb.setCell (by simp) _).setCell (by simp) _).setCell (by simp) _).setCell (by simp) _).setCell (by simp) _⟩
  · obtain ⟨x0, X1, x2⟩ := hQ0.set5 (.int .i64 2) (.int .i32 (n : Int)) (.string ⟨#[]⟩) (.int .i64 0) (.int .i64 0)
    exact bodyPost_ret (v := .tuple #[.agg #[.int .i64 2, .int .i32 (n : Int), .string ⟨#[]⟩, .int .i64 0, .int .i64 0], .string (bs (48 :: 120 :: dress false true (hexL u n)))]) (by simp [results, Tryd.results13, go_sem, X1, dress]) rfl ⟨⟨n, 48 :: 120 :: dress false true (hexL u n), rfl, hok2 false true⟩, ((((hBb.setCell (by simp) _).setCell (by simp) _).setCell (by simp) _).setCell (by simp) _).setCell (by simp) _⟩
  · obtain ⟨x0, X1, x2⟩ := hQ0.set5 (.int .i64 2) (.int .i32 (n : Int)) (.string ⟨#[]⟩) (.int .i64 0) (.int .i64 0)
    exact bodyPost_ret (v := .tuple #[.agg #[.int .i64 2, .int .i32 (n : Int), .string ⟨#[]⟩, .int .i64 0, .int .i64 0], .string (bs (48 :: 120 :: dress true false (hexL u n)))]) (by simp [results, Tryd.results13, go_sem, X1, dress]) rfl ⟨⟨n, 48 :: 120 :: dress true false (hexL u n), rfl, hok2 true false⟩, ((((hBb.setCell (by simp) _).setCell (by simp) _).setCell (by simp) _).setCell (by simp) _).setCell (by simp) _⟩
  · obtain ⟨x0, X1, x2⟩ := hQ0.set5 (.int .i64 2) (.int .i32 (n : Int)) (.string ⟨#[]⟩) (.int .i64 0) (.int .i64 0)
    exact bodyPost_ret (v := .tuple #[.agg #[.int .i64 2, .int .i32 (n : Int), .string ⟨#[]⟩, .int .i64 0, .int .i64 0], .string (bs (48 :: 120 :: dress true true (hexL u n)))]) (by simp [results, Tryd.results13, go_sem, X1, dress]) rfl ⟨⟨n, 48 :: 120 :: dress true true (hexL u n), rfl, hok2 true true⟩, ((((hBb.setCell (by simp) _).setCell (by simp) _).setCell (by simp) _).setCell (by simp) _).setCell (by simp) _⟩

theorem numbered_any (wh N : Int) (tx : ByteArray) (w : World) (hw1 : -9223372036854775808 ≤ wh) (hw2 : wh < 9223372036854775808) (hn1 : -9223372036854775808 ≤ N) (hn2 : N < 9223372036854775808) :
    Calls Tryd.prog 13 #[.agg #[.int .i64 wh, .int .i64 N, .string tx]] w fun e w' => (∃ v l, e = .returned (.tuple #[tokV ⟨2, (v : Nat), []⟩ 0 0, .string (bs l)]) ∧ NumL v l) ∧ Below w.heap.size w w' := by
  by_cases h3 : wh % 8 = 3
  · exact numbered_dur wh N tx w hw1 hw2 hn1 hn2 h3
  · exact numbered_num wh N tx w hw1 hw2 hn1 hn2 h3
end Go.Proofs.YtjohnhaahpggkabDoor
