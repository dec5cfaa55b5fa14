import Derived.Test.YthjdflcakngpiaaDoorFmH
namespace Go.Proofs.YthjdflcakngpiaaDoor
open Go.RowKit
set_option linter.unusedVariables false

set_option maxRecDepth 100000 in
set_option maxHeartbeats 4000000 in
theorem decl_lo (kd l0 c0 : Int) (nm wi : ByteArray) (so n0 n1 n2 : Int) (xa ga ea da la na : Option Addr) (xe xc gn gc en ec dn dc ln lc nn nc : Nat) (w : World) (r1 : ¬ 1 ≤ kd) :
    Calls Tryd.prog 17 #[.agg #[.int .i64 kd, .int .i64 l0, .int .i64 c0, .string nm, .string wi, .int .i64 so, .int .i32 n0, .int .i32 n1, .int .i32 n2, .slice xa xe xc, .slice ga gn gc, .slice ea en ec, .slice da dn dc, .slice la ln lc, .slice na nn nc]] w fun e w' => e = .returned (.bool false) ∧ Below w.heap.size w w' := by
  have hb0 : Below w.heap.size w (w.alloc (.cells #[.int .i64 kd, .int .i64 l0, .int .i64 c0, .string nm, .string wi, .int .i64 so, .int .i32 n0, .int .i32 n1, .int .i32 n2, .slice xa xe xc, .slice ga gn gc, .slice ea en ec, .slice da dn dc, .slice la ln lc, .slice na nn nc] 53)) := bel1 _
  have K0 : Has (w.alloc (.cells #[.int .i64 kd, .int .i64 l0, .int .i64 c0, .string nm, .string wi, .int .i64 so, .int .i32 n0, .int .i32 n1, .int .i32 n2, .slice xa xe xc, .slice ga gn gc, .slice ea en ec, .slice da dn dc, .slice la ln lc, .slice na nn nc] 53)) w.heap.size #[.int .i64 kd, .int .i64 l0, .int .i64 c0, .string nm, .string wi, .int .i64 so, .int .i32 n0, .int .i32 n1, .int .i32 n2, .slice xa xe xc, .slice ga gn gc, .slice ea en ec, .slice da dn dc, .slice la ln lc, .slice na nn nc] := Has.new _ _ _ rfl
  have R1 : kd < 1 := by omega
  go_enter Tryd.func17, Tryd.ntmps17
  go_wp2_with fail
  go_ret
  exact ⟨rfl, hb0⟩
set_option maxRecDepth 100000 in
set_option maxHeartbeats 4000000 in
theorem decl_hi (kd l0 c0 : Int) (nm wi : ByteArray) (so n0 n1 n2 : Int) (xa ga ea da la na : Option Addr) (xe xc gn gc en ec dn dc ln lc nn nc : Nat) (w : World) (r1 : 1 ≤ kd) (r2 : ¬ kd ≤ 10) :
    Calls Tryd.prog 17 #[.agg #[.int .i64 kd, .int .i64 l0, .int .i64 c0, .string nm, .string wi, .int .i64 so, .int .i32 n0, .int .i32 n1, .int .i32 n2, .slice xa xe xc, .slice ga gn gc, .slice ea en ec, .slice da dn dc, .slice la ln lc, .slice na nn nc]] w fun e w' => e = .returned (.bool false) ∧ Below w.heap.size w w' := by
  have hb0 : Below w.heap.size w (w.alloc (.cells #[.int .i64 kd, .int .i64 l0, .int .i64 c0, .string nm, .string wi, .int .i64 so, .int .i32 n0, .int .i32 n1, .int .i32 n2, .slice xa xe xc, .slice ga gn gc, .slice ea en ec, .slice da dn dc, .slice la ln lc, .slice na nn nc] 53)) := bel1 _
  have K0 : Has (w.alloc (.cells #[.int .i64 kd, .int .i64 l0, .int .i64 c0, .string nm, .string wi, .int .i64 so, .int .i32 n0, .int .i32 n1, .int .i32 n2, .slice xa xe xc, .slice ga gn gc, .slice ea en ec, .slice da dn dc, .slice la ln lc, .slice na nn nc] 53)) w.heap.size #[.int .i64 kd, .int .i64 l0, .int .i64 c0, .string nm, .string wi, .int .i64 so, .int .i32 n0, .int .i32 n1, .int .i32 n2, .slice xa xe xc, .slice ga gn gc, .slice ea en ec, .slice da dn dc, .slice la ln lc, .slice na nn nc] := Has.new _ _ _ rfl
  have R1 : ¬ kd < 1 := by omega
  have R2 : kd > 10 := by omega
  go_enter Tryd.func17, Tryd.ntmps17
  go_wp2_with fail
  go_ret
  exact ⟨rfl, hb0⟩
set_option maxRecDepth 100000 in
set_option maxHeartbeats 4000000 in
theorem decl_0 (kd l0 c0 : Int) (nm wi : ByteArray) (so n0 n1 n2 : Int) (xa ga ea da la na : Option Addr) (xe xc gn gc en ec dn dc ln lc nn nc : Nat) (w : World) (r1 : 1 ≤ kd) (r2 : kd ≤ 10)  (k0 : ∀ X : World, Below w.heap.size w X → Calls Tryd.prog 16 #[.string nm] X fun e w' => e = .returned (.bool false) ∧ Below X.heap.size X w') :
    Calls Tryd.prog 17 #[.agg #[.int .i64 kd, .int .i64 l0, .int .i64 c0, .string nm, .string wi, .int .i64 so, .int .i32 n0, .int .i32 n1, .int .i32 n2, .slice xa xe xc, .slice ga gn gc, .slice ea en ec, .slice da dn dc, .slice la ln lc, .slice na nn nc]] w fun e w' => e = .returned (.bool false) ∧ Below w.heap.size w w' := by
  have hb0 : Below w.heap.size w (w.alloc (.cells #[.int .i64 kd, .int .i64 l0, .int .i64 c0, .string nm, .string wi, .int .i64 so, .int .i32 n0, .int .i32 n1, .int .i32 n2, .slice xa xe xc, .slice ga gn gc, .slice ea en ec, .slice da dn dc, .slice la ln lc, .slice na nn nc] 53)) := bel1 _
  have K0 : Has (w.alloc (.cells #[.int .i64 kd, .int .i64 l0, .int .i64 c0, .string nm, .string wi, .int .i64 so, .int .i32 n0, .int .i32 n1, .int .i32 n2, .slice xa xe xc, .slice ga gn gc, .slice ea en ec, .slice da dn dc, .slice la ln lc, .slice na nn nc] 53)) w.heap.size #[.int .i64 kd, .int .i64 l0, .int .i64 c0, .string nm, .string wi, .int .i64 so, .int .i32 n0, .int .i32 n1, .int .i32 n2, .slice xa xe xc, .slice ga gn gc, .slice ea en ec, .slice da dn dc, .slice la ln lc, .slice na nn nc] := Has.new _ _ _ rfl
  have R1 : ¬ kd < 1 := by omega
  have R2 : ¬ kd > 10 := by omega
  go_enter Tryd.func17, Tryd.ntmps17
  go_wp2_with (first | (go_at_call 16; (with_reducible refine Calls.mono (k0 _ (by exact hb0)) ?_); rintro e w1 ⟨rfl, h1⟩; have hb1 := bel_after hb0 hb0.size h1; have K1 := K0.below h1; obtain ⟨_, c1, _⟩ := id K1))
  go_ret
  exact ⟨rfl, hb1⟩
set_option maxRecDepth 100000 in
set_option maxHeartbeats 4000000 in
theorem decl_1 (kd l0 c0 : Int) (nm wi : ByteArray) (so n0 n1 n2 : Int) (xa ga ea da la na : Option Addr) (xe xc gn gc en ec dn dc ln lc nn nc : Nat) (w : World) (r1 : 1 ≤ kd) (r2 : kd ≤ 10) (k0 : ∀ X : World, Below w.heap.size w X → Calls Tryd.prog 16 #[.string nm] X fun e w' => e = .returned (.bool true) ∧ Below X.heap.size X w') (k1 : ∀ X : World, Below w.heap.size w X → Calls Tryd.prog 27 #[.agg #[.int .i64 kd, .int .i64 l0, .int .i64 c0, .string nm, .string wi, .int .i64 so, .int .i32 n0, .int .i32 n1, .int .i32 n2, .slice xa xe xc, .slice ga gn gc, .slice ea en ec, .slice da dn dc, .slice la ln lc, .slice na nn nc]] X fun e w' => e = .returned (.bool false) ∧ Below X.heap.size X w') :
    Calls Tryd.prog 17 #[.agg #[.int .i64 kd, .int .i64 l0, .int .i64 c0, .string nm, .string wi, .int .i64 so, .int .i32 n0, .int .i32 n1, .int .i32 n2, .slice xa xe xc, .slice ga gn gc, .slice ea en ec, .slice da dn dc, .slice la ln lc, .slice na nn nc]] w fun e w' => e = .returned (.bool false) ∧ Below w.heap.size w w' := by
  have hb0 : Below w.heap.size w (w.alloc (.cells #[.int .i64 kd, .int .i64 l0, .int .i64 c0, .string nm, .string wi, .int .i64 so, .int .i32 n0, .int .i32 n1, .int .i32 n2, .slice xa xe xc, .slice ga gn gc, .slice ea en ec, .slice da dn dc, .slice la ln lc, .slice na nn nc] 53)) := bel1 _
  have K0 : Has (w.alloc (.cells #[.int .i64 kd, .int .i64 l0, .int .i64 c0, .string nm, .string wi, .int .i64 so, .int .i32 n0, .int .i32 n1, .int .i32 n2, .slice xa xe xc, .slice ga gn gc, .slice ea en ec, .slice da dn dc, .slice la ln lc, .slice na nn nc] 53)) w.heap.size #[.int .i64 kd, .int .i64 l0, .int .i64 c0, .string nm, .string wi, .int .i64 so, .int .i32 n0, .int .i32 n1, .int .i32 n2, .slice xa xe xc, .slice ga gn gc, .slice ea en ec, .slice da dn dc, .slice la ln lc, .slice na nn nc] := Has.new _ _ _ rfl
  have R1 : ¬ kd < 1 := by omega
  have R2 : ¬ kd > 10 := by omega
  go_enter Tryd.func17, Tryd.ntmps17
  go_wp2_with (first | (go_at_call 16; (with_reducible refine Calls.mono (k0 _ (by exact hb0)) ?_); rintro e w1 ⟨rfl, h1⟩; have hb1 := bel_after hb0 hb0.size h1; have K1 := K0.below h1; obtain ⟨_, c1, _⟩ := id K1) | (go_at_call 27; (with_reducible refine Calls.mono (k1 _ (by exact hb1)) ?_); rintro e w2 ⟨rfl, h2⟩; have hb2 := bel_after hb1 hb1.size h2; have K2 := K1.below h2; obtain ⟨_, c2, _⟩ := id K2))
  go_ret
  exact ⟨rfl, hb2⟩
set_option maxRecDepth 100000 in
set_option maxHeartbeats 4000000 in
theorem decl_2 (kd l0 c0 : Int) (nm wi : ByteArray) (so n0 n1 n2 : Int) (xa ga ea da la na : Option Addr) (xe xc gn gc en ec dn dc ln lc nn nc : Nat) (w : World) (r1 : 1 ≤ kd) (r2 : kd ≤ 10) (k0 : ∀ X : World, Below w.heap.size w X → Calls Tryd.prog 16 #[.string nm] X fun e w' => e = .returned (.bool true) ∧ Below X.heap.size X w') (k1 : ∀ X : World, Below w.heap.size w X → Calls Tryd.prog 27 #[.agg #[.int .i64 kd, .int .i64 l0, .int .i64 c0, .string nm, .string wi, .int .i64 so, .int .i32 n0, .int .i32 n1, .int .i32 n2, .slice xa xe xc, .slice ga gn gc, .slice ea en ec, .slice da dn dc, .slice la ln lc, .slice na nn nc]] X fun e w' => e = .returned (.bool true) ∧ Below X.heap.size X w') (k2 : ∀ X : World, Below w.heap.size w X → Calls Tryd.prog 28 #[.agg #[.int .i64 kd, .int .i64 l0, .int .i64 c0, .string nm, .string wi, .int .i64 so, .int .i32 n0, .int .i32 n1, .int .i32 n2, .slice xa xe xc, .slice ga gn gc, .slice ea en ec, .slice da dn dc, .slice la ln lc, .slice na nn nc]] X fun e w' => e = .returned (.bool false) ∧ Below X.heap.size X w') :
    Calls Tryd.prog 17 #[.agg #[.int .i64 kd, .int .i64 l0, .int .i64 c0, .string nm, .string wi, .int .i64 so, .int .i32 n0, .int .i32 n1, .int .i32 n2, .slice xa xe xc, .slice ga gn gc, .slice ea en ec, .slice da dn dc, .slice la ln lc, .slice na nn nc]] w fun e w' => e = .returned (.bool false) ∧ Below w.heap.size w w' := by
  have hb0 : Below w.heap.size w (w.alloc (.cells #[.int .i64 kd, .int .i64 l0, .int .i64 c0, .string nm, .string wi, .int .i64 so, .int .i32 n0, .int .i32 n1, .int .i32 n2, .slice xa xe xc, .slice ga gn gc, .slice ea en ec, .slice da dn dc, .slice la ln lc, .slice na nn nc] 53)) := bel1 _
  have K0 : Has (w.alloc (.cells #[.int .i64 kd, .int .i64 l0, .int .i64 c0, .string nm, .string wi, .int .i64 so, .int .i32 n0, .int .i32 n1, .int .i32 n2, .slice xa xe xc, .slice ga gn gc, .slice ea en ec, .slice da dn dc, .slice la ln lc, .slice na nn nc] 53)) w.heap.size #[.int .i64 kd, .int .i64 l0, .int .i64 c0, .string nm, .string wi, .int .i64 so, .int .i32 n0, .int .i32 n1, .int .i32 n2, .slice xa xe xc, .slice ga gn gc, .slice ea en ec, .slice da dn dc, .slice la ln lc, .slice na nn nc] := Has.new _ _ _ rfl
  have R1 : ¬ kd < 1 := by omega
  have R2 : ¬ kd > 10 := by omega
  go_enter Tryd.func17, Tryd.ntmps17
  go_wp2_with (first | (go_at_call 16; (with_reducible refine Calls.mono (k0 _ (by exact hb0)) ?_); rintro e w1 ⟨rfl, h1⟩; have hb1 := bel_after hb0 hb0.size h1; have K1 := K0.below h1; obtain ⟨_, c1, _⟩ := id K1) | (go_at_call 27; (with_reducible refine Calls.mono (k1 _ (by exact hb1)) ?_); rintro e w2 ⟨rfl, h2⟩; have hb2 := bel_after hb1 hb1.size h2; have K2 := K1.below h2; obtain ⟨_, c2, _⟩ := id K2) | (go_at_call 28; (with_reducible refine Calls.mono (k2 _ (by exact hb2)) ?_); rintro e w3 ⟨rfl, h3⟩; have hb3 := bel_after hb2 hb2.size h3; have K3 := K2.below h3; obtain ⟨_, c3, _⟩ := id K3))
  go_ret
  exact ⟨rfl, hb3⟩
set_option maxRecDepth 100000 in
set_option maxHeartbeats 4000000 in
theorem decl_3 (kd l0 c0 : Int) (nm wi : ByteArray) (so n0 n1 n2 : Int) (xa ga ea da la na : Option Addr) (xe xc gn gc en ec dn dc ln lc nn nc : Nat) (w : World) (r1 : 1 ≤ kd) (r2 : kd ≤ 10) (k0 : ∀ X : World, Below w.heap.size w X → Calls Tryd.prog 16 #[.string nm] X fun e w' => e = .returned (.bool true) ∧ Below X.heap.size X w') (k1 : ∀ X : World, Below w.heap.size w X → Calls Tryd.prog 27 #[.agg #[.int .i64 kd, .int .i64 l0, .int .i64 c0, .string nm, .string wi, .int .i64 so, .int .i32 n0, .int .i32 n1, .int .i32 n2, .slice xa xe xc, .slice ga gn gc, .slice ea en ec, .slice da dn dc, .slice la ln lc, .slice na nn nc]] X fun e w' => e = .returned (.bool true) ∧ Below X.heap.size X w') (k2 : ∀ X : World, Below w.heap.size w X → Calls Tryd.prog 28 #[.agg #[.int .i64 kd, .int .i64 l0, .int .i64 c0, .string nm, .string wi, .int .i64 so, .int .i32 n0, .int .i32 n1, .int .i32 n2, .slice xa xe xc, .slice ga gn gc, .slice ea en ec, .slice da dn dc, .slice la ln lc, .slice na nn nc]] X fun e w' => e = .returned (.bool true) ∧ Below X.heap.size X w') (k3 : ∀ X : World, Below w.heap.size w X → Calls Tryd.prog 29 #[.agg #[.int .i64 kd, .int .i64 l0, .int .i64 c0, .string nm, .string wi, .int .i64 so, .int .i32 n0, .int .i32 n1, .int .i32 n2, .slice xa xe xc, .slice ga gn gc, .slice ea en ec, .slice da dn dc, .slice la ln lc, .slice na nn nc]] X fun e w' => e = .returned (.bool false) ∧ Below X.heap.size X w') :
    Calls Tryd.prog 17 #[.agg #[.int .i64 kd, .int .i64 l0, .int .i64 c0, .string nm, .string wi, .int .i64 so, .int .i32 n0, .int .i32 n1, .int .i32 n2, .slice xa xe xc, .slice ga gn gc, .slice ea en ec, .slice da dn dc, .slice la ln lc, .slice na nn nc]] w fun e w' => e = .returned (.bool false) ∧ Below w.heap.size w w' := by
  have hb0 : Below w.heap.size w (w.alloc (.cells #[.int .i64 kd, .int .i64 l0, .int .i64 c0, .string nm, .string wi, .int .i64 so, .int .i32 n0, .int .i32 n1, .int .i32 n2, .slice xa xe xc, .slice ga gn gc, .slice ea en ec, .slice da dn dc, .slice la ln lc, .slice na nn nc] 53)) := bel1 _
  have K0 : Has (w.alloc (.cells #[.int .i64 kd, .int .i64 l0, .int .i64 c0, .string nm, .string wi, .int .i64 so, .int .i32 n0, .int .i32 n1, .int .i32 n2, .slice xa xe xc, .slice ga gn gc, .slice ea en ec, .slice da dn dc, .slice la ln lc, .slice na nn nc] 53)) w.heap.size #[.int .i64 kd, .int .i64 l0, .int .i64 c0, .string nm, .string wi, .int .i64 so, .int .i32 n0, .int .i32 n1, .int .i32 n2, .slice xa xe xc, .slice ga gn gc, .slice ea en ec, .slice da dn dc, .slice la ln lc, .slice na nn nc] := Has.new _ _ _ rfl
  have R1 : ¬ kd < 1 := by omega
  have R2 : ¬ kd > 10 := by omega
  go_enter Tryd.func17, Tryd.ntmps17
  go_wp2_with (first | (go_at_call 16; (with_reducible refine Calls.mono (k0 _ (by exact hb0)) ?_); rintro e w1 ⟨rfl, h1⟩; have hb1 := bel_after hb0 hb0.size h1; have K1 := K0.below h1; obtain ⟨_, c1, _⟩ := id K1) | (go_at_call 27; (with_reducible refine Calls.mono (k1 _ (by exact hb1)) ?_); rintro e w2 ⟨rfl, h2⟩; have hb2 := bel_after hb1 hb1.size h2; have K2 := K1.below h2; obtain ⟨_, c2, _⟩ := id K2) | (go_at_call 28; (with_reducible refine Calls.mono (k2 _ (by exact hb2)) ?_); rintro e w3 ⟨rfl, h3⟩; have hb3 := bel_after hb2 hb2.size h3; have K3 := K2.below h3; obtain ⟨_, c3, _⟩ := id K3) | (go_at_call 29; (with_reducible refine Calls.mono (k3 _ (by exact hb3)) ?_); rintro e w4 ⟨rfl, h4⟩; have hb4 := bel_after hb3 hb3.size h4; have K4 := K3.below h4; obtain ⟨_, c4, _⟩ := id K4))
  go_ret
  exact ⟨rfl, hb4⟩
set_option maxRecDepth 100000 in
set_option maxHeartbeats 4000000 in
theorem decl_4 (kd l0 c0 : Int) (nm wi : ByteArray) (so n0 n1 n2 : Int) (xa ga ea da la na : Option Addr) (xe xc gn gc en ec dn dc ln lc nn nc : Nat) (w : World) (r1 : 1 ≤ kd) (r2 : kd ≤ 10) (k0 : ∀ X : World, Below w.heap.size w X → Calls Tryd.prog 16 #[.string nm] X fun e w' => e = .returned (.bool true) ∧ Below X.heap.size X w') (k1 : ∀ X : World, Below w.heap.size w X → Calls Tryd.prog 27 #[.agg #[.int .i64 kd, .int .i64 l0, .int .i64 c0, .string nm, .string wi, .int .i64 so, .int .i32 n0, .int .i32 n1, .int .i32 n2, .slice xa xe xc, .slice ga gn gc, .slice ea en ec, .slice da dn dc, .slice la ln lc, .slice na nn nc]] X fun e w' => e = .returned (.bool true) ∧ Below X.heap.size X w') (k2 : ∀ X : World, Below w.heap.size w X → Calls Tryd.prog 28 #[.agg #[.int .i64 kd, .int .i64 l0, .int .i64 c0, .string nm, .string wi, .int .i64 so, .int .i32 n0, .int .i32 n1, .int .i32 n2, .slice xa xe xc, .slice ga gn gc, .slice ea en ec, .slice da dn dc, .slice la ln lc, .slice na nn nc]] X fun e w' => e = .returned (.bool true) ∧ Below X.heap.size X w') (k3 : ∀ X : World, Below w.heap.size w X → Calls Tryd.prog 29 #[.agg #[.int .i64 kd, .int .i64 l0, .int .i64 c0, .string nm, .string wi, .int .i64 so, .int .i32 n0, .int .i32 n1, .int .i32 n2, .slice xa xe xc, .slice ga gn gc, .slice ea en ec, .slice da dn dc, .slice la ln lc, .slice na nn nc]] X fun e w' => e = .returned (.bool true) ∧ Below X.heap.size X w') (k4 : ∀ X : World, Below w.heap.size w X → Calls Tryd.prog 30 #[.agg #[.int .i64 kd, .int .i64 l0, .int .i64 c0, .string nm, .string wi, .int .i64 so, .int .i32 n0, .int .i32 n1, .int .i32 n2, .slice xa xe xc, .slice ga gn gc, .slice ea en ec, .slice da dn dc, .slice la ln lc, .slice na nn nc]] X fun e w' => e = .returned (.bool false) ∧ Below X.heap.size X w') :
    Calls Tryd.prog 17 #[.agg #[.int .i64 kd, .int .i64 l0, .int .i64 c0, .string nm, .string wi, .int .i64 so, .int .i32 n0, .int .i32 n1, .int .i32 n2, .slice xa xe xc, .slice ga gn gc, .slice ea en ec, .slice da dn dc, .slice la ln lc, .slice na nn nc]] w fun e w' => e = .returned (.bool false) ∧ Below w.heap.size w w' := by
  have hb0 : Below w.heap.size w (w.alloc (.cells #[.int .i64 kd, .int .i64 l0, .int .i64 c0, .string nm, .string wi, .int .i64 so, .int .i32 n0, .int .i32 n1, .int .i32 n2, .slice xa xe xc, .slice ga gn gc, .slice ea en ec, .slice da dn dc, .slice la ln lc, .slice na nn nc] 53)) := bel1 _
  have K0 : Has (w.alloc (.cells #[.int .i64 kd, .int .i64 l0, .int .i64 c0, .string nm, .string wi, .int .i64 so, .int .i32 n0, .int .i32 n1, .int .i32 n2, .slice xa xe xc, .slice ga gn gc, .slice ea en ec, .slice da dn dc, .slice la ln lc, .slice na nn nc] 53)) w.heap.size #[.int .i64 kd, .int .i64 l0, .int .i64 c0, .string nm, .string wi, .int .i64 so, .int .i32 n0, .int .i32 n1, .int .i32 n2, .slice xa xe xc, .slice ga gn gc, .slice ea en ec, .slice da dn dc, .slice la ln lc, .slice na nn nc] := Has.new _ _ _ rfl
  have R1 : ¬ kd < 1 := by omega
  have R2 : ¬ kd > 10 := by omega
  go_enter Tryd.func17, Tryd.ntmps17
  go_wp2_with (first | (go_at_call 16; (with_reducible refine Calls.mono (k0 _ (by exact hb0)) ?_); rintro e w1 ⟨rfl, h1⟩; have hb1 := bel_after hb0 hb0.size h1; have K1 := K0.below h1; obtain ⟨_, c1, _⟩ := id K1) | (go_at_call 27; (with_reducible refine Calls.mono (k1 _ (by exact hb1)) ?_); rintro e w2 ⟨rfl, h2⟩; have hb2 := bel_after hb1 hb1.size h2; have K2 := K1.below h2; obtain ⟨_, c2, _⟩ := id K2) | (go_at_call 28; (with_reducible refine Calls.mono (k2 _ (by exact hb2)) ?_); rintro e w3 ⟨rfl, h3⟩; have hb3 := bel_after hb2 hb2.size h3; have K3 := K2.below h3; obtain ⟨_, c3, _⟩ := id K3) | (go_at_call 29; (with_reducible refine Calls.mono (k3 _ (by exact hb3)) ?_); rintro e w4 ⟨rfl, h4⟩; have hb4 := bel_after hb3 hb3.size h4; have K4 := K3.below h4; obtain ⟨_, c4, _⟩ := id K4) | (go_at_call 30; (with_reducible refine Calls.mono (k4 _ (by exact hb4)) ?_); rintro e w5 ⟨rfl, h5⟩; have hb5 := bel_after hb4 hb4.size h5; have K5 := K4.below h5; obtain ⟨_, c5, _⟩ := id K5))
  go_ret
  exact ⟨rfl, hb5⟩
set_option maxRecDepth 100000 in
set_option maxHeartbeats 4000000 in
theorem decl_5 (kd l0 c0 : Int) (nm wi : ByteArray) (so n0 n1 n2 : Int) (xa ga ea da la na : Option Addr) (xe xc gn gc en ec dn dc ln lc nn nc : Nat) (w : World) (A : Bool) (r1 : 1 ≤ kd) (r2 : kd ≤ 10) (k0 : ∀ X : World, Below w.heap.size w X → Calls Tryd.prog 16 #[.string nm] X fun e w' => e = .returned (.bool true) ∧ Below X.heap.size X w') (k1 : ∀ X : World, Below w.heap.size w X → Calls Tryd.prog 27 #[.agg #[.int .i64 kd, .int .i64 l0, .int .i64 c0, .string nm, .string wi, .int .i64 so, .int .i32 n0, .int .i32 n1, .int .i32 n2, .slice xa xe xc, .slice ga gn gc, .slice ea en ec, .slice da dn dc, .slice la ln lc, .slice na nn nc]] X fun e w' => e = .returned (.bool true) ∧ Below X.heap.size X w') (k2 : ∀ X : World, Below w.heap.size w X → Calls Tryd.prog 28 #[.agg #[.int .i64 kd, .int .i64 l0, .int .i64 c0, .string nm, .string wi, .int .i64 so, .int .i32 n0, .int .i32 n1, .int .i32 n2, .slice xa xe xc, .slice ga gn gc, .slice ea en ec, .slice da dn dc, .slice la ln lc, .slice na nn nc]] X fun e w' => e = .returned (.bool true) ∧ Below X.heap.size X w') (k3 : ∀ X : World, Below w.heap.size w X → Calls Tryd.prog 29 #[.agg #[.int .i64 kd, .int .i64 l0, .int .i64 c0, .string nm, .string wi, .int .i64 so, .int .i32 n0, .int .i32 n1, .int .i32 n2, .slice xa xe xc, .slice ga gn gc, .slice ea en ec, .slice da dn dc, .slice la ln lc, .slice na nn nc]] X fun e w' => e = .returned (.bool true) ∧ Below X.heap.size X w') (k4 : ∀ X : World, Below w.heap.size w X → Calls Tryd.prog 30 #[.agg #[.int .i64 kd, .int .i64 l0, .int .i64 c0, .string nm, .string wi, .int .i64 so, .int .i32 n0, .int .i32 n1, .int .i32 n2, .slice xa xe xc, .slice ga gn gc, .slice ea en ec, .slice da dn dc, .slice la ln lc, .slice na nn nc]] X fun e w' => e = .returned (.bool true) ∧ Below X.heap.size X w') (k5 : ∀ X : World, Below w.heap.size w X → Calls Tryd.prog 31 #[.agg #[.int .i64 kd, .int .i64 l0, .int .i64 c0, .string nm, .string wi, .int .i64 so, .int .i32 n0, .int .i32 n1, .int .i32 n2, .slice xa xe xc, .slice ga gn gc, .slice ea en ec, .slice da dn dc, .slice la ln lc, .slice na nn nc]] X fun e w' => e = .returned (.bool A) ∧ Below X.heap.size X w') :
    Calls Tryd.prog 17 #[.agg #[.int .i64 kd, .int .i64 l0, .int .i64 c0, .string nm, .string wi, .int .i64 so, .int .i32 n0, .int .i32 n1, .int .i32 n2, .slice xa xe xc, .slice ga gn gc, .slice ea en ec, .slice da dn dc, .slice la ln lc, .slice na nn nc]] w fun e w' => e = .returned (.bool A) ∧ Below w.heap.size w w' := by
  have hb0 : Below w.heap.size w (w.alloc (.cells #[.int .i64 kd, .int .i64 l0, .int .i64 c0, .string nm, .string wi, .int .i64 so, .int .i32 n0, .int .i32 n1, .int .i32 n2, .slice xa xe xc, .slice ga gn gc, .slice ea en ec, .slice da dn dc, .slice la ln lc, .slice na nn nc] 53)) := bel1 _
  have K0 : Has (w.alloc (.cells #[.int .i64 kd, .int .i64 l0, .int .i64 c0, .string nm, .string wi, .int .i64 so, .int .i32 n0, .int .i32 n1, .int .i32 n2, .slice xa xe xc, .slice ga gn gc, .slice ea en ec, .slice da dn dc, .slice la ln lc, .slice na nn nc] 53)) w.heap.size #[.int .i64 kd, .int .i64 l0, .int .i64 c0, .string nm, .string wi, .int .i64 so, .int .i32 n0, .int .i32 n1, .int .i32 n2, .slice xa xe xc, .slice ga gn gc, .slice ea en ec, .slice da dn dc, .slice la ln lc, .slice na nn nc] := Has.new _ _ _ rfl
  have R1 : ¬ kd < 1 := by omega
  have R2 : ¬ kd > 10 := by omega
  go_enter Tryd.func17, Tryd.ntmps17
  go_wp2_with (first | (go_at_call 16; (with_reducible refine Calls.mono (k0 _ (by exact hb0)) ?_); rintro e w1 ⟨rfl, h1⟩; have hb1 := bel_after hb0 hb0.size h1; have K1 := K0.below h1; obtain ⟨_, c1, _⟩ := id K1) | (go_at_call 27; (with_reducible refine Calls.mono (k1 _ (by exact hb1)) ?_); rintro e w2 ⟨rfl, h2⟩; have hb2 := bel_after hb1 hb1.size h2; have K2 := K1.below h2; obtain ⟨_, c2, _⟩ := id K2) | (go_at_call 28; (with_reducible refine Calls.mono (k2 _ (by exact hb2)) ?_); rintro e w3 ⟨rfl, h3⟩; have hb3 := bel_after hb2 hb2.size h3; have K3 := K2.below h3; obtain ⟨_, c3, _⟩ := id K3) | (go_at_call 29; (with_reducible refine Calls.mono (k3 _ (by exact hb3)) ?_); rintro e w4 ⟨rfl, h4⟩; have hb4 := bel_after hb3 hb3.size h4; have K4 := K3.below h4; obtain ⟨_, c4, _⟩ := id K4) | (go_at_call 30; (with_reducible refine Calls.mono (k4 _ (by exact hb4)) ?_); rintro e w5 ⟨rfl, h5⟩; have hb5 := bel_after hb4 hb4.size h5; have K5 := K4.below h5; obtain ⟨_, c5, _⟩ := id K5) | (go_at_call 31; (with_reducible refine Calls.mono (k5 _ (by exact hb5)) ?_); rintro e w6 ⟨rfl, h6⟩; have hb6 := bel_after hb5 hb5.size h6; have K6 := K5.below h6; obtain ⟨_, c6, _⟩ := id K6))
  go_ret
  exact ⟨rfl, hb6⟩
theorem fDc_eq (kd l0 c0 : Int) (nm wi : ByteArray) (so n0 n1 n2 : Int) (xe : List Nd) (x : Sg) : fDc ⟨kd, l0, c0, nm, wi, so, n0, n1, n2, xe, x⟩ = ((decide (1 ≤ kd) && decide (kd ≤ 10)) && (nmB nm && (wiF kd wi && (soF kd so && (nuF kd n0 n1 n2 0 && ((if kd = 8 then fEx xe else decide (xe.length = 0)) && (if kd = 9 then fSg x else eSg x))))))) := by
  unfold fDc wiB soB nuB coB sgB wiF soF nuF
  rfl
set_option maxRecDepth 100000 in
set_option maxHeartbeats 4000000 in
theorem decl_any (x : Dc) (v : Value) (s : SgV) (S : Nat → Prop) (w : World) (hE : Exs S w v x.expr) (hG : SgR S w s x.sg) (hs : SmD x) (t : Tb w) :
    Calls Tryd.prog 17 #[.agg (x.cs v s).toArray] w fun e w' => e = .returned (.bool (fDc x)) ∧ Below w.heap.size w w' := by
  obtain ⟨kd, l0, c0, nm, wi, so, n0, n1, n2, xe, x⟩ := x
  obtain ⟨vg, ve, vd, vl, vn⟩ := s
  obtain ⟨s1, s2, s3, s4⟩ := hs
  simp only at hE hG s1 s2 s3 s4
  have k0 := fun (X : World) (hX : Below w.heap.size w X) => isName_any nm X s1 (t.below hX)
  have k1 := fun (X : World) (hX : Below w.heap.size w X) => with_any kd l0 c0 nm wi so n0 n1 n2 v vg ve vd vl vn X s2 (t.below hX)
  have k2 := fun (X : World) (hX : Below w.heap.size w X) => sort_any kd l0 c0 nm wi so n0 n1 n2 v vg ve vd vl vn X
  have k3 := fun (X : World) (hX : Below w.heap.size w X) => numbers_any kd l0 c0 nm wi so n0 n1 n2 v vg ve vd vl vn X
  have k4 := fun (X : World) (hX : Below w.heap.size w X) => cond_any kd l0 c0 nm wi so n0 n1 n2 v vg ve vd vl vn X xe (hE.nds.1.below hX) (by obtain ⟨_, _, _, q, _⟩ := Rows.any hE; exact q) s3 (t.below hX)
  have k5 := fun (X : World) (hX : Below w.heap.size w X) => stage_any kd l0 c0 nm wi so n0 n1 n2 v vg ve vd vl vn X x S (hG.below hX) s4 (t.below hX)
  obtain ⟨hg, he, hd, hl, hn⟩ := hG
  obtain ⟨xa, xc, rfl, -, -⟩ := Rows.any hE
  obtain ⟨ga, gc, rfl, -, -⟩ := Rows.any hg
  obtain ⟨ea, ec, rfl, -, -⟩ := Rows.any he
  obtain ⟨da, dc, rfl, -, -⟩ := Rows.any hd
  obtain ⟨la, lc, rfl, -, -⟩ := Rows.any hl
  obtain ⟨na, nc, rfl, -, -⟩ := Rows.any hn
  clear hE hg he hd hl hn s1 s2 s3 s4
  rw [fDc_eq]
  unfold Dc.cs
  simp only
  by_cases r1 : 1 ≤ kd
  case neg =>
    rw [decide_eq_false r1, Bool.false_and, Bool.false_and]
    exact decl_lo kd l0 c0 nm wi so n0 n1 n2 xa ga ea da la na _ xc _ gc _ ec _ dc _ lc _ nc w r1
  by_cases r2 : kd ≤ 10
  case neg =>
    rw [decide_eq_false r2, Bool.and_false, Bool.false_and]
    exact decl_hi kd l0 c0 nm wi so n0 n1 n2 xa ga ea da la na _ xc _ gc _ ec _ dc _ lc _ nc w r1 r2
  rw [decide_eq_true r1, decide_eq_true r2, Bool.and_self, Bool.true_and]
  cases q0 : nmB nm with
  | false =>
    rw [q0] at k0
    rw [Bool.false_and]
    exact decl_0 kd l0 c0 nm wi so n0 n1 n2 xa ga ea da la na _ xc _ gc _ ec _ dc _ lc _ nc w r1 r2 k0
  | true =>
  rw [q0] at k0
  rw [Bool.true_and]
  cases q1 : wiF kd wi with
  | false =>
    rw [q1] at k1
    rw [Bool.false_and]
    exact decl_1 kd l0 c0 nm wi so n0 n1 n2 xa ga ea da la na _ xc _ gc _ ec _ dc _ lc _ nc w r1 r2 k0 k1
  | true =>
  rw [q1] at k1
  rw [Bool.true_and]
  cases q2 : soF kd so with
  | false =>
    rw [q2] at k2
    rw [Bool.false_and]
    exact decl_2 kd l0 c0 nm wi so n0 n1 n2 xa ga ea da la na _ xc _ gc _ ec _ dc _ lc _ nc w r1 r2 k0 k1 k2
  | true =>
  rw [q2] at k2
  rw [Bool.true_and]
  cases q3 : nuF kd n0 n1 n2 0 with
  | false =>
    rw [q3] at k3
    rw [Bool.false_and]
    exact decl_3 kd l0 c0 nm wi so n0 n1 n2 xa ga ea da la na _ xc _ gc _ ec _ dc _ lc _ nc w r1 r2 k0 k1 k2 k3
  | true =>
  rw [q3] at k3
  rw [Bool.true_and]
  cases q4 : (if kd = 8 then fEx xe else decide (xe.length = 0)) with
  | false =>
    rw [q4] at k4
    rw [Bool.false_and]
    exact decl_4 kd l0 c0 nm wi so n0 n1 n2 xa ga ea da la na _ xc _ gc _ ec _ dc _ lc _ nc w r1 r2 k0 k1 k2 k3 k4
  | true =>
  rw [q4] at k4
  rw [Bool.true_and]
  exact decl_5 kd l0 c0 nm wi so n0 n1 n2 xa ga ea da la na _ xc _ gc _ ec _ dc _ lc _ nc w _ r1 r2 k0 k1 k2 k3 k4 k5
set_option maxRecDepth 100000 in
set_option maxHeartbeats 4000000 in
theorem formed_any (p : Pl) (u : Value) (S : Nat → Prop) (w : World) (h : PlR S w u p) (hs : SmP p) (t : Tb w) :
    Calls Tryd.prog 6 #[u] w fun e w' => e = .returned (.bool (fPl p)) ∧ Below w.heap.size w w' := by
  obtain ⟨vd, rfl, hD⟩ := h
  obtain ⟨nm, L⟩ := p
  obtain ⟨s1, s2⟩ := hs
  simp only at hD s1 s2 ⊢
  have k0 := fun (X : World) (hX : Below w.heap.size w X) => isName_any nm X s1 (t.below hX)
  have kD := fun (k : Nat) (hk : k < L.length) (v : Value) (s : SgV) (hE : Exs S w v L[k].expr) (hG : SgR S w s L[k].sg) (X : World) (hX : Below w.heap.size w X) => decl_any L[k] v s S X (hE.below hX) (hG.below hX) (s2 _ (List.getElem_mem hk)) (t.below hX)
  obtain ⟨a, c, rfl, hlen, hc⟩ := Rows.any hD
  have hb0 : Below w.heap.size w (w.alloc (.cells #[.string nm, .slice a L.length c] 24)) := bel1 _
  have K0 : Has (w.alloc (.cells #[.string nm, .slice a L.length c] 24)) w.heap.size #[.string nm, .slice a L.length c] := Has.new _ _ _ rfl
  clear hD s1 s2
  unfold fPl
  simp only
  cases q : nmB nm with
  | false =>
    rw [q] at k0
    rw [Bool.false_and]
    go_enter Tryd.func6, Tryd.ntmps6
    go_wp2_with (go_at_call 16; (with_reducible refine Calls.mono (k0 _ (by exact hb0)) ?_); rintro e w1 ⟨rfl, h1⟩; have hb1 := bel_after hb0 hb0.size h1)
    go_ret
    exact ⟨rfl, hb1⟩
  | true =>
  rw [q] at k0
  rw [Bool.true_and]
  generalize hA : L.all fDc = A
  have hA0 : (L.drop 0).all fDc = A := hA
  clear hA
  go_enter Tryd.func6, Tryd.ntmps6
  go_wp2_with (go_at_call 16; (with_reducible refine Calls.mono (k0 _ (by exact hb0)) ?_); rintro e w1 ⟨rfl, h1⟩; have hb1 := bel_after hb0 hb0.size h1; have K1 := K0.below h1; obtain ⟨_, c1, _⟩ := id K1)
  go_loopw [12] (fun u wr => ∃ k : Nat, k ≤ L.length ∧ u = .int .i64 (k : Int) ∧ Hid ((L.drop k).all fDc = A) ∧ Hid (Below w.heap.size w wr)) (fun u _ => L.length - (intOf u).toNat)
  case atStart => exact ⟨0, by omega, rfl, hA0, hb1⟩
  case round =>
    clear hA0 hb1 K1 c1 h1 K0 hb0
    obtain ⟨k, hkl, rfl, hq', hb'⟩ := hrel
    have hq := hq'.out
    have hb := hb'.out
    clear hq' hb'
    by_cases hlt : k < L.length
    case pos =>
      obtain ⟨g, o, rfl, _, hg, hx⟩ := hc.resolve_left (by intro e; rw [e] at hlt; simp at hlt)
      obtain ⟨cs, _, ⟨v, s, rfl, hE, hG⟩, h3⟩ := hx k hlt
      have cD := kD k hlt v s hE hG
      rw [all_at fDc L k hlt] at hq
      have s1 : (k : Int) < (L.length : Int) := by omega
      have s0 : (0 : Int) ≤ (k : Int) := by omega
      have hz : ∀ j u, (L[k].cs v s)[j]? = some u → wr.cell? ⟨g, o + k * 15 + j, none⟩ = some u := fun j u hu => (hb.cell (p := ⟨g, _, none⟩) hg).trans (h3 j u hu)
      clear h3 hx hc kD
      generalize L[k] = x at *
      obtain ⟨kd, l0, c0, nm', wi, so, n0, n1, n2, xe, ⟨gr, en, du, le, ne⟩⟩ := x
      obtain ⟨vg, ve, vd, vl, vn⟩ := s
      obtain ⟨hg', he, hd, hl, hn⟩ := hG
      simp only at hE hg' he hd hl hn
      obtain ⟨xa, xc, rfl, -, -⟩ := Rows.any hE
      obtain ⟨ga, gc, rfl, -, -⟩ := Rows.any hg'
      obtain ⟨ea, ec, rfl, -, -⟩ := Rows.any he
      obtain ⟨da, dc, rfl, -, -⟩ := Rows.any hd
      obtain ⟨la, lc, rfl, -, -⟩ := Rows.any hl
      obtain ⟨na, nc, rfl, -, -⟩ := Rows.any hn
      clear hE hg' he hd hl hn
      unfold Dc.cs at hz cD
      simp only at hz cD
      have z0 := hz 0 _ rfl
      have z1 := hz 1 _ rfl
      have z2 := hz 2 _ rfl
      have z3 := hz 3 _ rfl
      have z4 := hz 4 _ rfl
      have z5 := hz 5 _ rfl
      have z6 := hz 6 _ rfl
      have z7 := hz 7 _ rfl
      have z8 := hz 8 _ rfl
      have z9 := hz 9 _ rfl
      have z10 := hz 10 _ rfl
      have z11 := hz 11 _ rfl
      have z12 := hz 12 _ rfl
      have z13 := hz 13 _ rfl
      have z14 := hz 14 _ rfl
      simp only [Nat.add_zero] at z0
      clear hz
      have hbA := fun o => hb.alloc hb.size o
      generalize hf : fDc ⟨kd, l0, c0, nm', wi, so, n0, n1, n2, xe, ⟨gr, en, du, le, ne⟩⟩ = f at *
      cases f with
      | true =>
        rw [Bool.true_and] at hq
        go_wp2_with (go_at_call 17; (with_reducible refine Calls.mono (cD _ (by exact hbA _)) ?_); rintro e w2 ⟨rfl, hb2⟩; have hbM := bel_after (hbA _) (hbA _).size hb2)
        go_roundw
        case rel => exact ⟨k + 1, by omega, by go_num, hq, hbM⟩
        case measure => simp [intOf]; omega
      | false =>
        rw [Bool.false_and] at hq
        subst hq
        go_wp2_with (go_at_call 17; (with_reducible refine Calls.mono (cD _ (by exact hbA _)) ?_); rintro e w2 ⟨rfl, hb2⟩; have hbM := bel_after (hbA _) (hbA _).size hb2)
        go_ret
        exact ⟨rfl, hbM⟩
    case neg =>
      have s1 : ¬ (k : Int) < (L.length : Int) := by omega
      rw [all_no fDc L k (by omega)] at hq
      subst hq
      go_wp2_with fail
      go_ret
      exact ⟨rfl, hb⟩
end Go.Proofs.YthjdflcakngpiaaDoor
