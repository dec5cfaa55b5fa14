import Derived.Test.YtbfojlfdiallnaaSamE
import Derived.Test.YtbfojlfdiallnaaArr
namespace Go.Proofs.Ytbfojlfdiallnaa
open Go.RowKit
set_option linter.unusedVariables false
attribute [local go_sem] eq63

set_option maxRecDepth 100000 in
set_option maxHeartbeats 8000000 in
theorem sameDecl_any (x y : Dc) (v1 v2 : Value) (s1 s2 : SgV) (S1 S2 : Nat → Prop) (w : World) (h1 : Exs S1 w v1 x.expr) (g1 : SgR S1 w s1 x.sg) (h2 : Exs S2 w v2 y.expr) (g2 : SgR S2 w s2 y.sg) :
    Calls Try.prog 42 #[.agg #[.int .i64 x.kind, .int .i64 x.line, .int .i64 x.col, .string x.name, .string x.with_, .int .i64 x.sort, .int .i32 x.n0, .int .i32 x.n1, .int .i32 x.n2, v1, s1.green, s1.enter, s1.during, s1.leave, s1.nexts], .agg #[.int .i64 y.kind, .int .i64 y.line, .int .i64 y.col, .string y.name, .string y.with_, .int .i64 y.sort, .int .i32 y.n0, .int .i32 y.n1, .int .i32 y.n2, v2, s2.green, s2.enter, s2.during, s2.leave, s2.nexts]] w fun e w' => e = .returned (.bool (sameDc x y)) ∧ Below w.heap.size w w' := by
  have hE := fun (W : World) (hW : Below w.heap.size w W) => sameExpr_any _ _ _ _ S1 S2 W (h1.below hW) (h2.below hW)
  have hG := fun (W : World) (hW : Below w.heap.size w W) => sameStage_any _ _ _ _ S1 S2 W (g1.below hW) (g2.below hW)
  have key : sameDc x y = ((x.kind == y.kind) && ((x.name.toList == y.name.toList) && ((x.with_.toList == y.with_.toList) && ((x.sort == y.sort) && ((x.n0 == y.n0) && ((x.n1 == y.n1) && ((x.n2 == y.n2) && (eqF sameNd x.expr y.expr && sameSg x.sg y.sg)))))))) := rfl
  generalize sameDc x y = A at *
  generalize eqF sameNd x.expr y.expr = B1 at *
  generalize sameSg x.sg y.sg = B2 at *
  obtain ⟨a1, a2, a3, a4, a5⟩ := g1
  obtain ⟨b1, b2, b3, b4, b5⟩ := g2
  obtain ⟨s10, s11, s12, s13, s14⟩ := s1
  obtain ⟨s20, s21, s22, s23, s24⟩ := s2
  simp only at *
  obtain ⟨_, _, rfl, -, -⟩ := Rows.any a1
  obtain ⟨_, _, rfl, -, -⟩ := Rows.any a2
  obtain ⟨_, _, rfl, -, -⟩ := Rows.any a3
  obtain ⟨_, _, rfl, -, -⟩ := Rows.any a4
  obtain ⟨_, _, rfl, -, -⟩ := Rows.any a5
  obtain ⟨_, _, rfl, -, -⟩ := Rows.any b1
  obtain ⟨_, _, rfl, -, -⟩ := Rows.any b2
  obtain ⟨_, _, rfl, -, -⟩ := Rows.any b3
  obtain ⟨_, _, rfl, -, -⟩ := Rows.any b4
  obtain ⟨_, _, rfl, -, -⟩ := Rows.any b5
  obtain ⟨_, _, rfl, -, -⟩ := Rows.any h1
  obtain ⟨_, _, rfl, -, -⟩ := Rows.any h2
  clear a1 a2 a3 a4 a5 b1 b2 b3 b4 b5 h1 h2
  obtain ⟨xk, xl, xc, xn, xw, xs, x0, x1, x2, xe, xg⟩ := x
  obtain ⟨yk, yl, yc, yn, yw, ys, y0, y1, y2, ye, yg⟩ := y
  simp only at *
  go_enter Try.func42, Try.ntmps42
  go_wp2_with (first
    | (go_at_call 51; (with_reducible refine Calls.mono (hE _ (by exact ((Below.refl _ _).alloc (Nat.le_refl _) _).alloc (by simp) _)) ?_); rintro e w1 ⟨rfl, hb1⟩; have HB1 : Below w.heap.size w w1 := bel_after (((Below.refl _ _).alloc (Nat.le_refl _) _).alloc (by simp) _) (by simp; omega) hb1; have K1 := ((Has.new w _ _ rfl).alloc _).below hb1; have K2 : Has w1 (w.heap.size + 1) _ := (Has.new (w.alloc _) _ _ (by simp)).below hb1; obtain ⟨_, c1, _⟩ := id K1; obtain ⟨_, c2, _⟩ := id K2)
    | (go_at_call 52; (with_reducible refine Calls.mono (hG _ (by exact HB1)) ?_); rintro e w2 ⟨rfl, hb2⟩; have HB2 : Below w.heap.size w w2 := bel_after HB1 HB1.size hb2; have K3 := K1.below hb2; have K4 := K2.below hb2; obtain ⟨_, c3, _⟩ := id K3; obtain ⟨_, c4, _⟩ := id K4))
  all_goals (refine bodyPost_ret (v := .bool A) (by simp_all [results, Try.results42, go_sem]) rfl ⟨rfl, by first | assumption | exact ((Below.refl _ _).alloc (Nat.le_refl _) _).alloc (by simp) _⟩)
end Go.Proofs.Ytbfojlfdiallnaa
