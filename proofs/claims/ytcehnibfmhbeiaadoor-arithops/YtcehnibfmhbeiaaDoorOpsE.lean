import Derived.Test.YtcehnibfmhbeiaaDoorOpsD
namespace Go.Proofs.YtcehnibfmhbeiaaDoor.arithOps
open Go.RowKit

set_option maxRecDepth 100000 in
set_option maxHeartbeats 1000000 in
theorem law_of (op a b r x v e f : Int) (w0 w : World) (hA : St w0 w)
    (hB : ∀ w, St w0 w → Calls Tryd.prog 17 #[.int .i64 op, .int .i32 a, .int .i32 b] w fun q w' => q = .returned (.tuple #[.int .i32 r, .int .i64 e]) ∧ St w0 w')
    (hR : ∀ w, Calls Tryd.prog 18 #[.int .i64 op, .int .i32 a, .int .i32 b] w fun q w' => q = .returned (.tuple #[.int .i32 r, .int .i64 e]) ∧ w' = w)
    (hU : ∀ w, St w0 w → Calls Tryd.prog 9 #[.int .i64 op, .int .i32 a] w fun q w' => q = .returned (.tuple #[.int .i32 x, .int .i64 f]) ∧ St w0 w')
    (hV : ∀ w, Calls Tryd.prog 19 #[.int .i64 op, .int .i32 a] w fun q w' => q = .returned (.tuple #[.int .i32 x, .int .i64 f]) ∧ w' = w)
    (h20 : ∀ w, ArOk w → Calls Tryd.prog 20 #[.int .i64 op] w fun q w' => q = .returned (.int .i64 v) ∧ w' = w)
    (h21 : ∀ w, Calls Tryd.prog 21 #[.int .i64 op] w fun q w' => q = .returned (.int .i64 v) ∧ w' = w) :
    Calls Tryd.prog 7 #[.int .i64 op, .int .i32 a, .int .i32 b] w fun e w' => e = .returned (.bool true) ∧ St w0 w' := by
  go_enter Tryd.func7, Tryd.ntmps7
  go_wp2_with (first
    | (go_at_call 17; refine (hB _ (by assumption)).mono ?_; rintro e w' ⟨rfl, hs⟩)
    | (go_at_call 18; refine (hR _).mono ?_; rintro e w' ⟨rfl, rfl⟩)
    | (go_at_call 9; refine (hU _ (by assumption)).mono ?_; rintro e w' ⟨rfl, hs⟩)
    | (go_at_call 19; refine (hV _).mono ?_; rintro e w' ⟨rfl, rfl⟩)
    | (go_at_call 20; refine (h20 _ ((show St w0 _ by assumption).1)).mono ?_; rintro e w' ⟨rfl, rfl⟩)
    | (go_at_call 21; refine (h21 _).mono ?_; rintro e w' ⟨rfl, rfl⟩))
  go_ret
  exact ⟨rfl, by assumption⟩

/-- An operator of two operands. -/
theorem law_two (op a b r : Int) (w0 w : World) (hA : St w0 w) (hv : arF op = 2) (h0 : (op == 20) = false) (h1 : (op == 21) = false) (h2 : (op == 22) = false)
    (hB : ∀ w, ArOk w → Calls Tryd.prog 17 #[.int .i64 op, .int .i32 a, .int .i32 b] w fun q w' => q = .returned (.tuple #[.int .i32 r, .int .i64 0]) ∧ w' = w.alloc (.cells tbl46 46))
    (hR : ∀ w, Calls Tryd.prog 18 #[.int .i64 op, .int .i32 a, .int .i32 b] w fun q w' => q = .returned (.tuple #[.int .i32 r, .int .i64 0]) ∧ w' = w) :
    Calls Tryd.prog 7 #[.int .i64 op, .int .i32 a, .int .i32 b] w fun e w' => e = .returned (.bool true) ∧ St w0 w' :=
  law_of op a b r 0 2 0 10 w0 w hA (fun w h => (hB w h.1).mono fun _ _ k => ⟨k.1, by rw [k.2]; exact h.alloc _ _⟩) hR
    (fun w h => (unary_bad op a 2 w h.1 hv rfl).mono fun _ _ k => ⟨k.1, by rw [k.2]; exact h⟩) (fun w => refUnary_bad op a w h0 h1 h2) (fun w h => arity_at op 2 hv w h) (fun w => refArity_at op 2 hv w)
/-- An operator of one operand. -/
theorem law_one (op a b r : Int) (w0 w : World) (hA : St w0 w) (hv : arF op = 1)
    (hU : ∀ w, St w0 w → Calls Tryd.prog 9 #[.int .i64 op, .int .i32 a] w fun q w' => q = .returned (.tuple #[.int .i32 r, .int .i64 0]) ∧ St w0 w')
    (hV : ∀ w, Calls Tryd.prog 19 #[.int .i64 op, .int .i32 a] w fun q w' => q = .returned (.tuple #[.int .i32 r, .int .i64 0]) ∧ w' = w) :
    Calls Tryd.prog 7 #[.int .i64 op, .int .i32 a, .int .i32 b] w fun e w' => e = .returned (.bool true) ∧ St w0 w' :=
  law_of op a b 0 r 1 10 0 w0 w hA (fun w h => (binary_bad op a b 1 w h.1 hv rfl).mono fun _ _ k => ⟨k.1, by rw [k.2]; exact h⟩) (fun w => refBinary_bad op a b 1 w hv rfl)
    hU hV (fun w h => arity_at op 1 hv w h) (fun w => refArity_at op 1 hv w)
/-- No such operator, or one of none. -/
theorem law_none (op a b v : Int) (w0 w : World) (hA : St w0 w) (hv : arF op = v) (hv1 : (v != 1) = true) (hv2 : (v != 2) = true) (h0 : (op == 20) = false) (h1 : (op == 21) = false) (h2 : (op == 22) = false) :
    Calls Tryd.prog 7 #[.int .i64 op, .int .i32 a, .int .i32 b] w fun e w' => e = .returned (.bool true) ∧ St w0 w' :=
  law_of op a b 0 0 v 10 10 w0 w hA (fun w h => (binary_bad op a b v w h.1 hv hv2).mono fun _ _ k => ⟨k.1, by rw [k.2]; exact h⟩) (fun w => refBinary_bad op a b v w hv hv2)
    (fun w h => (unary_bad op a v w h.1 hv hv1).mono fun _ _ k => ⟨k.1, by rw [k.2]; exact h⟩) (fun w => refUnary_bad op a w h0 h1 h2) (fun w h => arity_at op v hv w h) (fun w => refArity_at op v hv w)

theorem abs_eq (a : Int) (h1 : -2147483648 ≤ a) (h2 : a ≤ 2147483647) : wrap32 (sz a) = if a < 0 then wrap32 (-a) else a := by
  unfold sz
  by_cases h : a < 0
  · rw [if_pos h, if_pos h]
  · rw [if_neg h, if_neg h]; exact wrap_of a h1 h2

theorem walks (op a b : Int) (w0 w : World) (hA : St w0 w) (ha1 : -2147483648 ≤ a) (ha2 : a ≤ 2147483647) (hb1 : -2147483648 ≤ b) (hb2 : b ≤ 2147483647) :
    Calls Tryd.prog 7 #[.int .i64 op, .int .i32 a, .int .i32 b] w fun e w' => e = .returned (.bool true) ∧ St w0 w' := by
  by_cases e30 : op = 30
  · subst e30
    exact law_two 30 a b _ w0 w hA (by decide) rfl rfl rfl (fun w h => binary_30 a b w h) (fun w => refBinary_30 a b w ha1 ha2 hb1 hb2)
  by_cases e31 : op = 31
  · subst e31
    exact law_two 31 a b _ w0 w hA (by decide) rfl rfl rfl (fun w h => binary_31 a b w h) (fun w => refBinary_31 a b w ha1 ha2 hb1 hb2)
  by_cases e32 : op = 32
  · subst e32
    exact law_two 32 a b _ w0 w hA (by decide) rfl rfl rfl (fun w h => binary_32 a b w h) (fun w => refBinary_32 a b w ha1 ha2 hb1 hb2)
  by_cases e35 : op = 35
  · subst e35
    exact law_two 35 a b _ w0 w hA (by decide) rfl rfl rfl (fun w h => binary_35 a b w h) (fun w => refBinary_35 a b w ha1 ha2 hb1 hb2)
  by_cases e36 : op = 36
  · subst e36
    exact law_two 36 a b _ w0 w hA (by decide) rfl rfl rfl (fun w h => binary_36 a b w h) (fun w => refBinary_36 a b w ha1 ha2 hb1 hb2)
  by_cases e40 : op = 40
  · subst e40
    exact law_two 40 a b _ w0 w hA (by decide) rfl rfl rfl (fun w h => binary_40 a b w h) (fun w => refBinary_40 a b w)
  by_cases e41 : op = 41
  · subst e41
    exact law_two 41 a b _ w0 w hA (by decide) rfl rfl rfl (fun w h => binary_41 a b w h) (fun w => refBinary_41 a b w)
  by_cases e42 : op = 42
  · subst e42
    exact law_two 42 a b _ w0 w hA (by decide) rfl rfl rfl (fun w h => binary_42 a b w h) (fun w => refBinary_42 a b w)
  by_cases e43 : op = 43
  · subst e43
    exact law_two 43 a b _ w0 w hA (by decide) rfl rfl rfl (fun w h => binary_43 a b w h) (fun w => refBinary_43 a b w)
  by_cases e44 : op = 44
  · subst e44
    exact law_two 44 a b _ w0 w hA (by decide) rfl rfl rfl (fun w h => binary_44 a b w h) (fun w => refBinary_44 a b w)
  by_cases e45 : op = 45
  · subst e45
    exact law_two 45 a b _ w0 w hA (by decide) rfl rfl rfl (fun w h => binary_45 a b w h) (fun w => refBinary_45 a b w)
  by_cases e50 : op = 50
  · subst e50
    exact law_two 50 a b _ w0 w hA (by decide) rfl rfl rfl (fun w h => binary_50 a b w h) (fun w => refBinary_50 a b w)
  by_cases e51 : op = 51
  · subst e51
    exact law_two 51 a b _ w0 w hA (by decide) rfl rfl rfl (fun w h => binary_51 a b w h) (fun w => refBinary_51 a b w)
  by_cases e33 : op = 33
  · subst e33
    by_cases hn : b = 0
    · subst hn
      exact law_two 33 a 0 _ w0 w hA (by decide) rfl rfl rfl (fun w h => binary_33z a 0 w h rfl) (fun w => refBinary_33z a w ha1 ha2)
    · have hz : (b == 0) = false := by simpa using hn
      exact law_two 33 a b _ w0 w hA (by decide) rfl rfl rfl (fun w h => binary_33 a b w h hz hn) (fun w => refBinary_33 a b w ha1 ha2 hb1 hb2 hz hn)
  by_cases e34 : op = 34
  · subst e34
    by_cases hn : b = 0
    · subst hn
      exact law_two 34 a 0 _ w0 w hA (by decide) rfl rfl rfl (fun w h => binary_34z a 0 w h rfl) (fun w => refBinary_34z a w ha1 ha2)
    · have hz : (b == 0) = false := by simpa using hn
      exact law_two 34 a b _ w0 w hA (by decide) rfl rfl rfl (fun w h => binary_34 a b w h hz hn) (fun w => refBinary_34 a b w ha1 ha2 hb1 hb2 hz hn)
  by_cases e20 : op = 20
  · subst e20
    exact law_one 20 a b _ w0 w hA (by decide) (fun w h => unary_20 a w0 w h) (fun w => refUnary_20 a w ha1 ha2)
  by_cases e21 : op = 21
  · subst e21
    exact law_one 21 a b _ w0 w hA (by decide) (fun w h => unary_21 a w0 w h) (fun w => refUnary_21 a w)
  by_cases e22 : op = 22
  · subst e22
    have hr := fun w => refUnary_22 a w ha1 ha2
    rw [abs_eq a ha1 ha2] at hr
    by_cases hn : a < 0
    · rw [if_pos hn] at hr
      exact law_one 22 a b _ w0 w hA (by decide) (fun w h => unary_22lt a w0 w h hn) hr
    · rw [if_neg hn] at hr
      exact law_one 22 a b _ w0 w hA (by decide) (fun w h => unary_22 a w0 w h (by omega)) hr
  by_cases h0 : 1 ≤ op ∧ op ≤ 10
  · exact law_none op a b 0 w0 w hA (by unfold arF; rw [if_pos h0]) rfl rfl (by simpa using e20) (by simpa using e21) (by simpa using e22)
  · exact law_none op a b (-1) w0 w hA (by unfold arF; rw [if_neg h0, if_neg (by omega), if_neg (by omega)]) rfl rfl (by simpa using e20) (by simpa using e21) (by simpa using e22)

theorem walk (op a b : Int) (_w0 : (Lit.int .i64 op).wf = true) (w1 : (Lit.int .i32 a).wf = true) (w2 : (Lit.int .i32 b).wf = true) (w : World) (hok : ArOk w) :
    Calls Tryd.prog 7 #[.int .i64 op, .int .i32 a, .int .i32 b] w fun e w' => e = .returned (.bool true) ∧ Grown w w' := by
  have ha := bounds_i32 w1
  have hb := bounds_i32 w2
  exact (walks op a b w w ⟨hok, Grown.refl _⟩ (by omega) (by omega) (by omega) (by omega)).mono fun _ _ h => ⟨h.1, h.2.2⟩
end Go.Proofs.YtcehnibfmhbeiaaDoor.arithOps
