import Derived.Test.YtbfojlfdiallnaaPlnA
namespace Go.Proofs.Ytbfojlfdiallnaa
open Go.RowKit
set_option linter.unusedVariables false

set_option maxRecDepth 100000 in
set_option maxHeartbeats 4000000 in
theorem bareNode_any (op val line col : Int) (name : ByteArray) (w : World) :
    Calls Try.prog 47 #[.agg #[.int .i64 op, .int .i32 val, .string name, .int .i64 line, .int .i64 col]] w fun e w' => e = .returned (.agg #[.int .i64 op, .int .i32 val, .string name, .int .i64 0, .int .i64 0]) ∧ Below w.heap.size w w' := by
  go_enter Try.func47, Try.ntmps47
  go_wp2
  refine bodyPost_ret (v := .agg #[.int .i64 op, .int .i32 val, .string name, .int .i64 0, .int .i64 0]) (by simp [results, Try.results47, go_sem]) rfl ⟨rfl, ?_⟩
  exact ((Below.refl _ _).alloc (Nat.le_refl _) _).alloc (by simp) _

set_option maxRecDepth 100000 in
set_option maxHeartbeats 4000000 in
theorem sameNode_any (op val line col op2 val2 line2 col2 : Int) (name name2 : ByteArray) (w : World) :
    Calls Try.prog 59 #[.agg #[.int .i64 op, .int .i32 val, .string name, .int .i64 line, .int .i64 col], .agg #[.int .i64 op2, .int .i32 val2, .string name2, .int .i64 line2, .int .i64 col2]] w fun e w' => e = .returned (.bool (sameNd ⟨op, val, name, line, col⟩ ⟨op2, val2, name2, line2, col2⟩)) ∧ Below w.heap.size w w' := by
  have hB1 : ∀ W, Calls Try.prog 47 #[.agg #[.int .i64 op, .int .i32 val, .string name, .int .i64 line, .int .i64 col]] W fun e w' => e = .returned (.agg #[.int .i64 op, .int .i32 val, .string name, .int .i64 0, .int .i64 0]) ∧ Below W.heap.size W w' := fun W => bareNode_any _ _ _ _ _ W
  have hB2 : ∀ W, Calls Try.prog 47 #[.agg #[.int .i64 op2, .int .i32 val2, .string name2, .int .i64 line2, .int .i64 col2]] W fun e w' => e = .returned (.agg #[.int .i64 op2, .int .i32 val2, .string name2, .int .i64 0, .int .i64 0]) ∧ Below W.heap.size W w' := fun W => bareNode_any _ _ _ _ _ W
  generalize hA : sameNd ⟨op, val, name, line, col⟩ ⟨op2, val2, name2, line2, col2⟩ = A
  have key : A = ((op == op2) && ((val == val2) && (name.toList == name2.toList))) := by rw [← hA]; rfl
  clear hA
  by_cases h1 : op = op2
  · subst h1
    by_cases h2 : val = val2
    · subst h2
      by_cases h3 : name.toList = name2.toList
      · have e : (name.toList == name2.toList) = true := by simpa using h3
        go_enter Try.func59, Try.ntmps59
        go_wp2
        have H2 : Has ((w.alloc (.cells #[.int .i64 op, .int .i32 val, .string name, .int .i64 line, .int .i64 col] 41)).alloc (.cells #[.int .i64 op, .int .i32 val, .string name2, .int .i64 line2, .int .i64 col2] 41)) (w.heap.size + 1) #[.int .i64 op, .int .i32 val, .string name2, .int .i64 line2, .int .i64 col2] := Has.new _ _ _ (by simp)
        have H1 : Has ((w.alloc (.cells #[.int .i64 op, .int .i32 val, .string name, .int .i64 line, .int .i64 col] 41)).alloc (.cells #[.int .i64 op, .int .i32 val, .string name2, .int .i64 line2, .int .i64 col2] 41)) w.heap.size #[.int .i64 op, .int .i32 val, .string name, .int .i64 line, .int .i64 col] := (Has.new _ _ _ rfl).alloc _
        have HB : Below w.heap.size w ((w.alloc (.cells #[.int .i64 op, .int .i32 val, .string name, .int .i64 line, .int .i64 col] 41)).alloc (.cells #[.int .i64 op, .int .i32 val, .string name2, .int .i64 line2, .int .i64 col2] 41)) := ((Below.refl _ _).alloc (Nat.le_refl _) _).alloc (by simp) _
        generalize ((w.alloc (.cells #[.int .i64 op, .int .i32 val, .string name, .int .i64 line, .int .i64 col] 41)).alloc (.cells #[.int .i64 op, .int .i32 val, .string name2, .int .i64 line2, .int .i64 col2] 41)) = W0 at *
        obtain ⟨a0, a1, a2⟩ := id H1
        obtain ⟨b0, b1, b2⟩ := id H2
        go_region_with (first
          | (go_at_call 47; (with_reducible refine (hB1 _).mono ?_); rintro e w1 ⟨rfl, hb1⟩; have H3 := H2.drew.below hb1; obtain ⟨c0, c1, c2⟩ := id H3; have HB1 := bel_after HB.drew HB.size hb1)
          | (go_at_call 47; (with_reducible refine (hB2 _).mono ?_); rintro e w2 ⟨rfl, hb2⟩; have HB2 := bel_after HB1 HB1.size hb2))
        all_goals (go_wp2; refine bodyPost_ret (v := .bool A) (by simp [results, Try.results59, go_sem, key, e]) rfl ⟨rfl, by assumption⟩)
      · have e : (name.toList == name2.toList) = false := by simpa using h3
        go_enter Try.func59, Try.ntmps59
        go_wp2
        have H2 : Has ((w.alloc (.cells #[.int .i64 op, .int .i32 val, .string name, .int .i64 line, .int .i64 col] 41)).alloc (.cells #[.int .i64 op, .int .i32 val, .string name2, .int .i64 line2, .int .i64 col2] 41)) (w.heap.size + 1) #[.int .i64 op, .int .i32 val, .string name2, .int .i64 line2, .int .i64 col2] := Has.new _ _ _ (by simp)
        have H1 : Has ((w.alloc (.cells #[.int .i64 op, .int .i32 val, .string name, .int .i64 line, .int .i64 col] 41)).alloc (.cells #[.int .i64 op, .int .i32 val, .string name2, .int .i64 line2, .int .i64 col2] 41)) w.heap.size #[.int .i64 op, .int .i32 val, .string name, .int .i64 line, .int .i64 col] := (Has.new _ _ _ rfl).alloc _
        have HB : Below w.heap.size w ((w.alloc (.cells #[.int .i64 op, .int .i32 val, .string name, .int .i64 line, .int .i64 col] 41)).alloc (.cells #[.int .i64 op, .int .i32 val, .string name2, .int .i64 line2, .int .i64 col2] 41)) := ((Below.refl _ _).alloc (Nat.le_refl _) _).alloc (by simp) _
        generalize ((w.alloc (.cells #[.int .i64 op, .int .i32 val, .string name, .int .i64 line, .int .i64 col] 41)).alloc (.cells #[.int .i64 op, .int .i32 val, .string name2, .int .i64 line2, .int .i64 col2] 41)) = W0 at *
        obtain ⟨a0, a1, a2⟩ := id H1
        obtain ⟨b0, b1, b2⟩ := id H2
        go_region_with (first
          | (go_at_call 47; (with_reducible refine (hB1 _).mono ?_); rintro e w1 ⟨rfl, hb1⟩; have H3 := H2.drew.below hb1; obtain ⟨c0, c1, c2⟩ := id H3; have HB1 := bel_after HB.drew HB.size hb1)
          | (go_at_call 47; (with_reducible refine (hB2 _).mono ?_); rintro e w2 ⟨rfl, hb2⟩; have HB2 := bel_after HB1 HB1.size hb2))
        all_goals (go_wp2; refine bodyPost_ret (v := .bool A) (by simp [results, Try.results59, go_sem, key, e]) rfl ⟨rfl, by assumption⟩)
    · have e : (val == val2) = false := by simpa using h2
      go_enter Try.func59, Try.ntmps59
      go_wp2
      have H2 : Has ((w.alloc (.cells #[.int .i64 op, .int .i32 val, .string name, .int .i64 line, .int .i64 col] 41)).alloc (.cells #[.int .i64 op, .int .i32 val2, .string name2, .int .i64 line2, .int .i64 col2] 41)) (w.heap.size + 1) #[.int .i64 op, .int .i32 val2, .string name2, .int .i64 line2, .int .i64 col2] := Has.new _ _ _ (by simp)
      have H1 : Has ((w.alloc (.cells #[.int .i64 op, .int .i32 val, .string name, .int .i64 line, .int .i64 col] 41)).alloc (.cells #[.int .i64 op, .int .i32 val2, .string name2, .int .i64 line2, .int .i64 col2] 41)) w.heap.size #[.int .i64 op, .int .i32 val, .string name, .int .i64 line, .int .i64 col] := (Has.new _ _ _ rfl).alloc _
      have HB : Below w.heap.size w ((w.alloc (.cells #[.int .i64 op, .int .i32 val, .string name, .int .i64 line, .int .i64 col] 41)).alloc (.cells #[.int .i64 op, .int .i32 val2, .string name2, .int .i64 line2, .int .i64 col2] 41)) := ((Below.refl _ _).alloc (Nat.le_refl _) _).alloc (by simp) _
      generalize ((w.alloc (.cells #[.int .i64 op, .int .i32 val, .string name, .int .i64 line, .int .i64 col] 41)).alloc (.cells #[.int .i64 op, .int .i32 val2, .string name2, .int .i64 line2, .int .i64 col2] 41)) = W0 at *
      obtain ⟨a0, a1, a2⟩ := id H1
      obtain ⟨b0, b1, b2⟩ := id H2
      go_region_with (first
        | (go_at_call 47; (with_reducible refine (hB1 _).mono ?_); rintro e w1 ⟨rfl, hb1⟩; have H3 := H2.drew.below hb1; obtain ⟨c0, c1, c2⟩ := id H3; have HB1 := bel_after HB.drew HB.size hb1)
        | (go_at_call 47; (with_reducible refine (hB2 _).mono ?_); rintro e w2 ⟨rfl, hb2⟩; have HB2 := bel_after HB1 HB1.size hb2))
      all_goals (go_wp2; refine bodyPost_ret (v := .bool A) (by simp [results, Try.results59, go_sem, key, e]) rfl ⟨rfl, by assumption⟩)
  · have e : (op == op2) = false := by simpa using h1
    go_enter Try.func59, Try.ntmps59
    go_wp2
    have H2 : Has ((w.alloc (.cells #[.int .i64 op, .int .i32 val, .string name, .int .i64 line, .int .i64 col] 41)).alloc (.cells #[.int .i64 op2, .int .i32 val2, .string name2, .int .i64 line2, .int .i64 col2] 41)) (w.heap.size + 1) #[.int .i64 op2, .int .i32 val2, .string name2, .int .i64 line2, .int .i64 col2] := Has.new _ _ _ (by simp)
    have H1 : Has ((w.alloc (.cells #[.int .i64 op, .int .i32 val, .string name, .int .i64 line, .int .i64 col] 41)).alloc (.cells #[.int .i64 op2, .int .i32 val2, .string name2, .int .i64 line2, .int .i64 col2] 41)) w.heap.size #[.int .i64 op, .int .i32 val, .string name, .int .i64 line, .int .i64 col] := (Has.new _ _ _ rfl).alloc _
    have HB : Below w.heap.size w ((w.alloc (.cells #[.int .i64 op, .int .i32 val, .string name, .int .i64 line, .int .i64 col] 41)).alloc (.cells #[.int .i64 op2, .int .i32 val2, .string name2, .int .i64 line2, .int .i64 col2] 41)) := ((Below.refl _ _).alloc (Nat.le_refl _) _).alloc (by simp) _
    generalize ((w.alloc (.cells #[.int .i64 op, .int .i32 val, .string name, .int .i64 line, .int .i64 col] 41)).alloc (.cells #[.int .i64 op2, .int .i32 val2, .string name2, .int .i64 line2, .int .i64 col2] 41)) = W0 at *
    obtain ⟨a0, a1, a2⟩ := id H1
    obtain ⟨b0, b1, b2⟩ := id H2
    go_region_with (first
      | (go_at_call 47; (with_reducible refine (hB1 _).mono ?_); rintro e w1 ⟨rfl, hb1⟩; have H3 := H2.drew.below hb1; obtain ⟨c0, c1, c2⟩ := id H3; have HB1 := bel_after HB.drew HB.size hb1)
      | (go_at_call 47; (with_reducible refine (hB2 _).mono ?_); rintro e w2 ⟨rfl, hb2⟩; have HB2 := bel_after HB1 HB1.size hb2))
    all_goals (go_wp2; refine bodyPost_ret (v := .bool A) (by simp [results, Try.results59, go_sem, key, e]) rfl ⟨rfl, by assumption⟩)
end Go.Proofs.Ytbfojlfdiallnaa
