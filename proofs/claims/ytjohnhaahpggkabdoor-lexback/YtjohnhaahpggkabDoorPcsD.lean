import Derived.Test.YtjohnhaahpggkabDoorPcsM
namespace Go.Proofs.YtjohnhaahpggkabDoor
open Go.RowKit
set_option linter.unusedVariables false
set_option linter.unusedSimpArgs false

/-- A number's text and what it is read as. -/
def NumL (v : Nat) (l : List UInt8) : Prop := numOf l = some v ∧ v ≤ 2147483647 ∧ l.all isR = true ∧ l.length ≤ 200 ∧ ∃ c r, l = c :: r ∧ isD c = true
theorem lit_bs1 (c : UInt8) : (⟨#[c]⟩ : ByteArray) = bs [c] := rfl
theorem lit_bs0 : (⟨#[]⟩ : ByteArray) = bs [] := rfl
theorem tdiv_bd (N d : Int) (h1 : -9223372036854775808 ≤ N) (h2 : N < 9223372036854775808) (hd : 1 < d) : -9223372036854775808 ≤ N.tdiv d ∧ N.tdiv d < 9223372036854775808 := by
  have hq := Int.mul_tdiv_add_tmod N d
  have hr1 := Int.tmod_lt_of_pos N (show 0 < d by omega)
  have hr2 := Int.lt_tmod_of_pos N (show 0 < d by omega)
  generalize N.tdiv d = q at *
  generalize N.tmod d = r at *
  have hb : -d < r ∧ r < d := by omega
  constructor
  · by_cases hqn : 0 ≤ q
    · omega
    · have h5 : d * q ≤ 2 * q := by
        have := Int.mul_le_mul_of_nonpos_right (show (2 : Int) ≤ d by omega) (show q ≤ 0 by omega)
        omega
      have h6 : d * q ≤ d * (-1) := Int.mul_le_mul_of_nonneg_left (by omega) (by omega)
      by_cases hq1 : q = -1
      · omega
      · have h7 : d * q + d ≤ q + 1 := by
          have e : d * q + d = d * (q + 1) := by rw [Int.mul_add, Int.mul_one]
          have := Int.mul_le_mul_of_nonpos_right (show (1 : Int) ≤ d by omega) (show q + 1 ≤ 0 by omega)
          omega
        omega
  · by_cases hqn : q ≤ 0
    · omega
    · have h5 : q ≤ d * q - d + 1 := by
        have e : d * q - d = d * (q - 1) := by rw [Int.mul_sub, Int.mul_one]
        have := Int.mul_le_mul_of_nonneg_right (show (1 : Int) ≤ d by omega) (show 0 ≤ q - 1 by omega)
        omega
      omega
theorem emod_nat (N m : Int) (hm : 0 < m) : ∃ k : Nat, N % m = k ∧ (k : Int) < m := ⟨(N % m).toNat, by have := Int.emod_nonneg N (show m ≠ 0 by omega); omega, by have := Int.emod_nonneg N (show m ≠ 0 by omega); have := Int.emod_lt_of_pos N hm; omega⟩

theorem durL_ok (a b c : Bool) (h m s : Nat) (hh : h < 50) (hm : m < 300) (hs : s < 5000) (hany : a = true ∨ b = true ∨ c = true) : NumL (durV a b c h m s) (durL a b c h m s) := by
  have l1 := decL_short h 1 (by omega)
  have l2 := decL_short m 2 (by omega)
  have l3 := decL_short s 3 (by omega)
  have r1 := all_R_of_D (decL_all h)
  have r2 := all_R_of_D (decL_all m)
  have r3 := all_R_of_D (decL_all s)
  have hd : ∀ n u t, ∃ c r, decL n ++ u :: t = c :: r ∧ isD c = true := by
    intro n u t
    have hall := decL_all n
    cases hl : decL n with
    | nil => have := (decL_len n).1; rw [hl] at this; simp at this
    | cons c r =>
      rw [hl] at hall
      exact ⟨c, r ++ u :: t, rfl, by simp at hall; exact hall.1⟩
  have i1 : isR 104 = true := by decide
  have i2 : isR 109 = true := by decide
  have i3 : isR 115 = true := by decide
  refine ⟨num_durL a b c h m s hany, ?_, ?_, ?_, ?_⟩
  · unfold durV; cases a <;> cases b <;> cases c <;> simp <;> omega
  · unfold durL; cases a <;> cases b <;> cases c <;> simp only [if_true, if_false, Bool.false_eq_true, List.all_append, List.all_nil, List.all_cons, r1, r2, r3, i1, i2, i3, Bool.and_true]
  · unfold durL; cases a <;> cases b <;> cases c <;> simp <;> omega
  · unfold durL
    cases a
    · cases b
      · obtain rfl : c = true := by simpa using hany
        simpa using hd s 115 []
      · simpa [List.append_assoc] using hd m 109 _
    · simpa [List.append_assoc] using hd h 104 _

set_option maxRecDepth 100000 in
set_option maxHeartbeats 4000000 in
theorem numbered_dur (wh N : Int) (tx : ByteArray) (w : World) (hw1 : -9223372036854775808 ≤ wh) (hw2 : wh < 9223372036854775808) (hn1 : -9223372036854775808 ≤ N) (hn2 : N < 9223372036854775808) (h3 : wh % 8 = 3) :
    Calls Tryd.prog 13 #[.agg #[.int .i64 wh, .int .i64 N, .string tx]] w fun e w' => (∃ v l, e = .returned (.tuple #[tokV ⟨2, (v : Nat), []⟩ 0 0, .string (bs l)]) ∧ NumL v l) ∧ Below w.heap.size w w' := by
  have B0 := fun W => below_any wh 8 W (by omega) (by omega) hw1 hw2
  have B1 := fun W => below_any N 50 W (by omega) (by omega) hn1 hn2
  have B2 := fun W => below_any (N.tdiv 50) 300 W (by omega) (by omega) (tdiv_bd N 50 hn1 hn2 (by omega)).1 (tdiv_bd N 50 hn1 hn2 (by omega)).2
  have B3 := fun W => below_any (N.tdiv 15000) 5000 W (by omega) (by omega) (tdiv_bd N 15000 hn1 hn2 (by omega)).1 (tdiv_bd N 15000 hn1 hn2 (by omega)).2
  have B4 := fun W => below_any (N.tdiv 7) 2 W (by omega) (by omega) (tdiv_bd N 7 hn1 hn2 (by omega)).1 (tdiv_bd N 7 hn1 hn2 (by omega)).2
  have B5 := fun W => below_any (N.tdiv 11) 2 W (by omega) (by omega) (tdiv_bd N 11 hn1 hn2 (by omega)).1 (tdiv_bd N 11 hn1 hn2 (by omega)).2
  have B6 := fun W => below_any (N.tdiv 13) 2 W (by omega) (by omega) (tdiv_bd N 13 hn1 hn2 (by omega)).1 (tdiv_bd N 13 hn1 hn2 (by omega)).2
  rw [h3] at B0
  obtain ⟨h, eh, hh⟩ := emod_nat N 50 (by omega)
  obtain ⟨m, em, hm⟩ := emod_nat (N.tdiv 50) 300 (by omega)
  obtain ⟨s, es, hs⟩ := emod_nat (N.tdiv 15000) 5000 (by omega)
  rw [eh] at B1; rw [em] at B2; rw [es] at B3
  obtain ⟨a, ea⟩ : ∃ a : Bool, (N.tdiv 7 % 2 == 0) = a := ⟨_, rfl⟩
  obtain ⟨b, eb⟩ : ∃ b : Bool, (N.tdiv 11 % 2 == 0) = b := ⟨_, rfl⟩
  obtain ⟨c, ec⟩ : ∃ c : Bool, (N.tdiv 13 % 2 == 0) = c := ⟨_, rfl⟩
  generalize N.tdiv 7 % 2 = x7 at *
  generalize N.tdiv 11 % 2 = x11 at *
  generalize N.tdiv 13 % 2 = x13 at *
  have D1 := fun W => decimal_any h W (by omega)
  have D2 := fun W => decimal_any m W (by omega)
  have D3 := fun W => decimal_any s W (by omega)
  have l1 := decL_short h 1 (by omega)
  have l2 := decL_short m 2 (by omega)
  have l3 := decL_short s 3 (by omega)
  have z1 := bs_szp (decL h)
  have z2 := bs_szp (decL m)
  have z3 := bs_szp (decL s)
  have hBb : Below w.heap.size w ((w.alloc (.cells #[.int .i64 wh, .int .i64 N, .string tx] 31)).alloc (.cells #[.int .i64 0, .int .i32 0, .string ⟨#[]⟩, .int .i64 0, .int .i64 0] 27)) := ((Below.refl _ _).alloc (Nat.le_refl _) _).alloc (by simp) _
  have hP0 : Has ((w.alloc (.cells #[.int .i64 wh, .int .i64 N, .string tx] 31)).alloc (.cells #[.int .i64 0, .int .i32 0, .string ⟨#[]⟩, .int .i64 0, .int .i64 0] 27)) w.heap.size #[.int .i64 wh, .int .i64 N, .string tx] := (Has.new _ _ _ rfl).alloc _
  have hQ0 : Has ((w.alloc (.cells #[.int .i64 wh, .int .i64 N, .string tx] 31)).alloc (.cells #[.int .i64 0, .int .i32 0, .string ⟨#[]⟩, .int .i64 0, .int .i64 0] 27)) (w.heap.size + 1) #[.int .i64 0, .int .i32 0, .string ⟨#[]⟩, .int .i64 0, .int .i64 0] := Has.new _ _ _ (by simp)
  have hok := fun c' (hany : a = true ∨ b = true ∨ c' = true) => durL_ok a b c' h m s (by omega) (by omega) (by omega) hany
  have ne : ∀ (X : ByteArray) (c : UInt8), (X ++ ⟨#[c]⟩).toList.isEmpty = false ∧ ¬ (X ++ ⟨#[c]⟩).toList = [] := by
    intro X c
    have : (X ++ ⟨#[c]⟩).toList ≠ [] := by
      rw [ByteArray.toList_eq, ByteArray.data_append]; simp
    exact ⟨by cases h : (X ++ ⟨#[c]⟩).toList with | nil => exact absurd h this | cons a b => rfl, this⟩
  have n1 := ne (⟨#[]⟩ ++ bs (decL m)) 109
  have n2 := ne (bs (decL h)) 104
  have n3 := ne (bs (decL h) ++ ⟨#[104]⟩ ++ bs (decL m)) 109
  obtain ⟨n1a, n1b⟩ := n1
  obtain ⟨n2a, n2b⟩ := n2
  obtain ⟨n3a, n3b⟩ := n3
  clear h3 eh em es ne
  cases a <;> cases b <;> cases c
  all_goals
    go_enter Tryd.func13, Tryd.ntmps13
    go_wp2_with (first
      | (go_at_call 11; (with_reducible refine (B0 _).mono ?_); rintro e w9 ⟨rfl, hw9⟩; have hw9' := hw9.symm; subst hw9')
      | (go_at_call 11; (with_reducible refine (B1 _).mono ?_); rintro e w9 ⟨rfl, hw9⟩; have hw9' := hw9.symm; subst hw9')
      | (go_at_call 11; (with_reducible refine (B2 _).mono ?_); rintro e w9 ⟨rfl, hw9⟩; have hw9' := hw9.symm; subst hw9')
      | (go_at_call 11; (with_reducible refine (B3 _).mono ?_); rintro e w9 ⟨rfl, hw9⟩; have hw9' := hw9.symm; subst hw9')
      | (go_at_call 11; (with_reducible refine (B4 _).mono ?_); rintro e w9 ⟨rfl, hw9⟩; have hw9' := hw9.symm; subst hw9')
      | (go_at_call 11; (with_reducible refine (B5 _).mono ?_); rintro e w9 ⟨rfl, hw9⟩; have hw9' := hw9.symm; subst hw9')
      | (go_at_call 11; (with_reducible refine (B6 _).mono ?_); rintro e w9 ⟨rfl, hw9⟩; have hw9' := hw9.symm; subst hw9')
      | (go_at_call 22; (with_reducible refine (D1 _).mono ?_); rintro e w1 ⟨rfl, hb1⟩; replace hBb := hBb.trans (hb1.mono hBb.size); replace hP0 := hP0.below hb1; replace hQ0 := hQ0.below hb1; obtain ⟨pp1, PP1, pq1⟩ := id hP0; obtain ⟨qp1, QQ1, qq1⟩ := id hQ0)
      | (go_at_call 22; (with_reducible refine (D2 _).mono ?_); rintro e w2 ⟨rfl, hb2⟩; replace hBb := hBb.trans (hb2.mono hBb.size); replace hP0 := hP0.below hb2; replace hQ0 := hQ0.below hb2; obtain ⟨pp2, PP2, pq2⟩ := id hP0; obtain ⟨qp2, QQ2, qq2⟩ := id hQ0)
      | (go_at_call 22; (with_reducible refine (D3 _).mono ?_); rintro e w3 ⟨rfl, hb3⟩; replace hBb := hBb.trans (hb3.mono hBb.size); replace hP0 := hP0.below hb3; replace hQ0 := hQ0.below hb3; obtain ⟨pp3, PP3, pq3⟩ := id hP0; obtain ⟨qp3, QQ3, qq3⟩ := id hQ0))
  · obtain ⟨x0, X1, x2⟩ := hQ0.set5 (.int .i64 2) (.int .i32 ((s : Int))) (.string ⟨#[]⟩) (.int .i64 0) (.int .i64 0)
    have hv : ((durV false false true h m s : Nat) : Int) = (s : Int) := by unfold durV; simp
    have hl : (⟨#[]⟩ : ByteArray) ++ bs (decL s) ++ ⟨#[115]⟩ = bs (durL false false true h m s) := by simp only [lit_bs1, lit_bs0, bs_app]; unfold durL; simp
    refine bodyPost_ret (v := .tuple #[.agg #[.int .i64 2, .int .i32 ((s : Int)), .string ⟨#[]⟩, .int .i64 0, .int .i64 0], .string ((⟨#[]⟩ : ByteArray) ++ bs (decL s) ++ ⟨#[115]⟩)]) (by simp [results, Tryd.results13, go_sem, X1]) rfl ⟨⟨durV false false true h m s, durL false false true h m s, ?_, hok true (by simp)⟩, ?_⟩
    · rw [hl, tokV_eq, hv]; rfl
    · exact ((((hBb.setCell (by simp) _).setCell (by simp) _).setCell (by simp) _).setCell (by simp) _).setCell (by simp) _
  · obtain ⟨x0, X1, x2⟩ := hQ0.set5 (.int .i64 2) (.int .i32 ((s : Int))) (.string ⟨#[]⟩) (.int .i64 0) (.int .i64 0)
    have hv : ((durV false false true h m s : Nat) : Int) = (s : Int) := by unfold durV; simp
    have hl : (⟨#[]⟩ : ByteArray) ++ bs (decL s) ++ ⟨#[115]⟩ = bs (durL false false true h m s) := by simp only [lit_bs1, lit_bs0, bs_app]; unfold durL; simp
    refine bodyPost_ret (v := .tuple #[.agg #[.int .i64 2, .int .i32 ((s : Int)), .string ⟨#[]⟩, .int .i64 0, .int .i64 0], .string ((⟨#[]⟩ : ByteArray) ++ bs (decL s) ++ ⟨#[115]⟩)]) (by simp [results, Tryd.results13, go_sem, X1]) rfl ⟨⟨durV false false true h m s, durL false false true h m s, ?_, hok true (by simp)⟩, ?_⟩
    · rw [hl, tokV_eq, hv]; rfl
    · exact ((((hBb.setCell (by simp) _).setCell (by simp) _).setCell (by simp) _).setCell (by simp) _).setCell (by simp) _
  · obtain ⟨x0, X1, x2⟩ := hQ0.set5 (.int .i64 2) (.int .i32 (60 * (m : Int))) (.string ⟨#[]⟩) (.int .i64 0) (.int .i64 0)
    have hv : ((durV false true false h m s : Nat) : Int) = 60 * (m : Int) := by unfold durV; simp
    have hl : (⟨#[]⟩ : ByteArray) ++ bs (decL m) ++ ⟨#[109]⟩ = bs (durL false true false h m s) := by simp only [lit_bs1, lit_bs0, bs_app]; unfold durL; simp
    refine bodyPost_ret (v := .tuple #[.agg #[.int .i64 2, .int .i32 (60 * (m : Int)), .string ⟨#[]⟩, .int .i64 0, .int .i64 0], .string ((⟨#[]⟩ : ByteArray) ++ bs (decL m) ++ ⟨#[109]⟩)]) (by simp [results, Tryd.results13, go_sem, X1]) rfl ⟨⟨durV false true false h m s, durL false true false h m s, ?_, hok false (by simp)⟩, ?_⟩
    · rw [hl, tokV_eq, hv]; rfl
    · exact ((((hBb.setCell (by simp) _).setCell (by simp) _).setCell (by simp) _).setCell (by simp) _).setCell (by simp) _
  · obtain ⟨x0, X1, x2⟩ := hQ0.set5 (.int .i64 2) (.int .i32 (60 * (m : Int) + (s : Int))) (.string ⟨#[]⟩) (.int .i64 0) (.int .i64 0)
    have hv : ((durV false true true h m s : Nat) : Int) = 60 * (m : Int) + (s : Int) := by unfold durV; simp
    have hl : (⟨#[]⟩ : ByteArray) ++ bs (decL m) ++ ⟨#[109]⟩ ++ bs (decL s) ++ ⟨#[115]⟩ = bs (durL false true true h m s) := by simp only [lit_bs1, lit_bs0, bs_app]; unfold durL; simp
    refine bodyPost_ret (v := .tuple #[.agg #[.int .i64 2, .int .i32 (60 * (m : Int) + (s : Int)), .string ⟨#[]⟩, .int .i64 0, .int .i64 0], .string ((⟨#[]⟩ : ByteArray) ++ bs (decL m) ++ ⟨#[109]⟩ ++ bs (decL s) ++ ⟨#[115]⟩)]) (by simp [results, Tryd.results13, go_sem, X1]) rfl ⟨⟨durV false true true h m s, durL false true true h m s, ?_, hok true (by simp)⟩, ?_⟩
    · rw [hl, tokV_eq, hv]; rfl
    · exact ((((hBb.setCell (by simp) _).setCell (by simp) _).setCell (by simp) _).setCell (by simp) _).setCell (by simp) _
  · obtain ⟨x0, X1, x2⟩ := hQ0.set5 (.int .i64 2) (.int .i32 (3600 * (h : Int))) (.string ⟨#[]⟩) (.int .i64 0) (.int .i64 0)
    have hv : ((durV true false false h m s : Nat) : Int) = 3600 * (h : Int) := by unfold durV; simp
    have hl : bs (decL h) ++ ⟨#[104]⟩ = bs (durL true false false h m s) := by simp only [lit_bs1, lit_bs0, bs_app]; unfold durL; simp
    refine bodyPost_ret (v := .tuple #[.agg #[.int .i64 2, .int .i32 (3600 * (h : Int)), .string ⟨#[]⟩, .int .i64 0, .int .i64 0], .string (bs (decL h) ++ ⟨#[104]⟩)]) (by simp [results, Tryd.results13, go_sem, X1]) rfl ⟨⟨durV true false false h m s, durL true false false h m s, ?_, hok false (by simp)⟩, ?_⟩
    · rw [hl, tokV_eq, hv]; rfl
    · exact ((((hBb.setCell (by simp) _).setCell (by simp) _).setCell (by simp) _).setCell (by simp) _).setCell (by simp) _
  · obtain ⟨x0, X1, x2⟩ := hQ0.set5 (.int .i64 2) (.int .i32 (3600 * (h : Int) + (s : Int))) (.string ⟨#[]⟩) (.int .i64 0) (.int .i64 0)
    have hv : ((durV true false true h m s : Nat) : Int) = 3600 * (h : Int) + (s : Int) := by unfold durV; simp
    have hl : bs (decL h) ++ ⟨#[104]⟩ ++ bs (decL s) ++ ⟨#[115]⟩ = bs (durL true false true h m s) := by simp only [lit_bs1, lit_bs0, bs_app]; unfold durL; simp
    refine bodyPost_ret (v := .tuple #[.agg #[.int .i64 2, .int .i32 (3600 * (h : Int) + (s : Int)), .string ⟨#[]⟩, .int .i64 0, .int .i64 0], .string (bs (decL h) ++ ⟨#[104]⟩ ++ bs (decL s) ++ ⟨#[115]⟩)]) (by simp [results, Tryd.results13, go_sem, X1]) rfl ⟨⟨durV true false true h m s, durL true false true h m s, ?_, hok true (by simp)⟩, ?_⟩
    · rw [hl, tokV_eq, hv]; rfl
    · exact ((((hBb.setCell (by simp) _).setCell (by simp) _).setCell (by simp) _).setCell (by simp) _).setCell (by simp) _
  · obtain ⟨x0, X1, x2⟩ := hQ0.set5 (.int .i64 2) (.int .i32 (3600 * (h : Int) + 60 * (m : Int))) (.string ⟨#[]⟩) (.int .i64 0) (.int .i64 0)
    have hv : ((durV true true false h m s : Nat) : Int) = 3600 * (h : Int) + 60 * (m : Int) := by unfold durV; simp
    have hl : bs (decL h) ++ ⟨#[104]⟩ ++ bs (decL m) ++ ⟨#[109]⟩ = bs (durL true true false h m s) := by simp only [lit_bs1, lit_bs0, bs_app]; unfold durL; simp
    refine bodyPost_ret (v := .tuple #[.agg #[.int .i64 2, .int .i32 (3600 * (h : Int) + 60 * (m : Int)), .string ⟨#[]⟩, .int .i64 0, .int .i64 0], .string (bs (decL h) ++ ⟨#[104]⟩ ++ bs (decL m) ++ ⟨#[109]⟩)]) (by simp [results, Tryd.results13, go_sem, X1]) rfl ⟨⟨durV true true false h m s, durL true true false h m s, ?_, hok false (by simp)⟩, ?_⟩
    · rw [hl, tokV_eq, hv]; rfl
    · exact ((((hBb.setCell (by simp) _).setCell (by simp) _).setCell (by simp) _).setCell (by simp) _).setCell (by simp) _
  · obtain ⟨x0, X1, x2⟩ := hQ0.set5 (.int .i64 2) (.int .i32 (3600 * (h : Int) + 60 * (m : Int) + (s : Int))) (.string ⟨#[]⟩) (.int .i64 0) (.int .i64 0)
    have hv : ((durV true true true h m s : Nat) : Int) = 3600 * (h : Int) + 60 * (m : Int) + (s : Int) := by unfold durV; simp
    have hl : bs (decL h) ++ ⟨#[104]⟩ ++ bs (decL m) ++ ⟨#[109]⟩ ++ bs (decL s) ++ ⟨#[115]⟩ = bs (durL true true true h m s) := by simp only [lit_bs1, lit_bs0, bs_app]; unfold durL; simp
    refine bodyPost_ret (v := .tuple #[.agg #[.int .i64 2, .int .i32 (3600 * (h : Int) + 60 * (m : Int) + (s : Int)), .string ⟨#[]⟩, .int .i64 0, .int .i64 0], .string (bs (decL h) ++ ⟨#[104]⟩ ++ bs (decL m) ++ ⟨#[109]⟩ ++ bs (decL s) ++ ⟨#[115]⟩)]) (by simp [results, Tryd.results13, go_sem, X1]) rfl ⟨⟨durV true true true h m s, durL true true true h m s, ?_, hok true (by simp)⟩, ?_⟩
    · rw [hl, tokV_eq, hv]; rfl
    · exact ((((hBb.setCell (by simp) _).setCell (by simp) _).setCell (by simp) _).setCell (by simp) _).setCell (by simp) _
end Go.Proofs.YtjohnhaahpggkabDoor
