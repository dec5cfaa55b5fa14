import Derived.Test.YtnicolaphmffkaaGreatDoorTkk
import Derived.Test.YtnicolaphmffkaaGreatDoorRmQ
import Derived.Test.YtnicolaphmffkaaGreatDoorRmT
import Derived.Test.YtnicolaphmffkaaGreatDoorRmD
import Derived.Test.YtnicolaphmffkaaGreatDoorRmU
set_option linter.unusedVariables false
set_option linter.unusedSimpArgs false
namespace Go.Proofs.YtnicolaphmffkaaGreatDoor
open Go.RowKit
set_option maxRecDepth 100000 in
set_option maxHeartbeats 16000000 in
/-- Room.Typed's first composite: the plan's flat lists, in whatever order. -/
theorem typedR1 (G : List Gp) (C : List Cf) (D : List Dt) (TM CT : List ByteArray) (pn : ByteArray) (ga ca da ta ka va sa : Option Addr) (gc cc dc tc kc vc nV nS sc rb N N1 : Nat) (stt : Int) (o0 o : Nat → Nat) (B : Nat) (F : Nat → List Lr) (V : Nat → Value) (W0 X : World)
    (hG : ∀ Y, Below B W0 Y → Fl 5 Gp.cs Y (.slice ga G.length gc) G) (hC : ∀ Y, Below B W0 Y → Fl 4 Cf.cs Y (.slice ca C.length cc) C) (hD : ∀ Y, Below B W0 Y → Fl 4 Dt.cs Y (.slice da D.length dc) D) (hT : ∀ Y, Below B W0 Y → Fl 1 txC Y (.slice ta TM.length tc) TM) (hCT : ∀ Y, Below B W0 Y → Fl 1 txC Y (.slice ka CT.length kc) CT)
    (lG : G.length ≤ 1048576) (lC : C.length ≤ 1048576) (lD : D.length ≤ 1048576) (lT : TM.length ≤ 1048576) (lCT : CT.length ≤ 1048576) (hB : B ≤ W0.heap.size) (ho5 : ∀ b, b < B → o0 b = 5) (hb6 : (F 6).length ≤ 5864062014000) (hb7 : (F 7).length ≤ 5864062014000) (hb8 : (F 8).length ≤ 5864062014000) (hb11 : (F 11).length + 1 ≤ 5864062014000)
    (hS : TyS o0 W0 B rb o X F V [(N1, #[.string ⟨#[]⟩, .slice none 0 0, .slice none 0 0, .slice none 0 0, .slice none 0 0, .slice none 0 0, .slice none 0 0, .slice none 0 0, .int .i64 0]), (N, #[.string pn, .slice ga G.length gc, .slice ca C.length cc, .slice da D.length dc, .slice ta TM.length tc, .slice ka CT.length kc, .slice va nV vc, .slice sa nS sc, .int .i64 stt])] []) :
    (Code.region 1 #[⟨some 15, .fieldAddr 31 (.tmp 3) 0, 0, "room.go:109", #[], none⟩,
  ⟨some 16, .load 9 (.tmp 15), 9, "room.go:109", #[⟨0, .data⟩], none⟩,
  ⟨some 17, .fieldAddr 31 (.tmp 3) 7, 0, "room.go:109", #[], none⟩,
  ⟨some 18, .load 3 (.tmp 17), 3, "room.go:109", #[⟨2, .data⟩], none⟩,
  ⟨some 19, .move (.tmp 0), 33, "room.go:109", #[], none⟩,
  ⟨some 20, .fieldAddr 31 (.tmp 3) 1, 0, "room.go:109", #[], none⟩,
  ⟨some 21, .load 25 (.tmp 20), 25, "room.go:109", #[⟨5, .data⟩], none⟩,
  ⟨some 22, .call { callee := Callee.value (.func 24), args := #[.tmp 19, .tmp 21], argTypes := #[33, 25] }, 25, "room.go:109", #[⟨4, .data⟩, ⟨6, .data⟩], none⟩,
  ⟨some 23, .move (.tmp 0), 33, "room.go:109", #[], none⟩,
  ⟨some 24, .fieldAddr 31 (.tmp 3) 2, 0, "room.go:109", #[], none⟩,
  ⟨some 25, .load 26 (.tmp 24), 26, "room.go:109", #[⟨9, .data⟩], none⟩,
  ⟨some 26, .call { callee := Callee.value (.func 25), args := #[.tmp 23, .tmp 25], argTypes := #[33, 26] }, 26, "room.go:109", #[⟨8, .data⟩, ⟨10, .data⟩, ⟨7, .chain⟩], none⟩,
  ⟨some 27, .move (.tmp 0), 33, "room.go:109", #[], none⟩,
  ⟨some 28, .fieldAddr 31 (.tmp 3) 3, 0, "room.go:109", #[], none⟩,
  ⟨some 29, .load 27 (.tmp 28), 27, "room.go:109", #[⟨13, .data⟩], none⟩,
  ⟨some 30, .call { callee := Callee.value (.func 26), args := #[.tmp 27, .tmp 29], argTypes := #[33, 27] }, 27, "room.go:109", #[⟨12, .data⟩, ⟨14, .data⟩, ⟨11, .chain⟩], none⟩,
  ⟨some 31, .move (.tmp 0), 33, "room.go:109", #[], none⟩,
  ⟨some 32, .fieldAddr 31 (.tmp 3) 4, 0, "room.go:109", #[], none⟩,
  ⟨some 33, .load 27 (.tmp 32), 27, "room.go:109", #[⟨17, .data⟩], none⟩,
  ⟨some 34, .call { callee := Callee.value (.func 26), args := #[.tmp 31, .tmp 33], argTypes := #[33, 27] }, 27, "room.go:109", #[⟨16, .data⟩, ⟨18, .data⟩, ⟨15, .chain⟩], none⟩,
  ⟨some 35, .build 31 #[(0, .tmp 16), (7, .tmp 18), (1, .tmp 22), (2, .tmp 26), (3, .tmp 30), (4, .tmp 34)], 31, "room.go:109", #[⟨1, .data⟩, ⟨3, .data⟩, ⟨7, .data⟩, ⟨11, .data⟩, ⟨15, .data⟩, ⟨19, .data⟩], none⟩,
  ⟨some 5, .alloc 31, 0, "room.go:109", #[], none⟩,
  ⟨none, .store 31 (.tmp 5) (.tmp 35), 0, "room.go:109", #[⟨21, .data⟩, ⟨20, .data⟩, ⟨19, .chain⟩, ⟨0, .phase⟩, ⟨1, .phase⟩, ⟨2, .phase⟩, ⟨3, .phase⟩, ⟨4, .phase⟩, ⟨5, .phase⟩, ⟨6, .phase⟩, ⟨7, .phase⟩, ⟨8, .phase⟩, ⟨9, .phase⟩, ⟨10, .phase⟩, ⟨11, .phase⟩, ⟨12, .phase⟩, ⟨13, .phase⟩, ⟨14, .phase⟩, ⟨15, .phase⟩, ⟨16, .phase⟩, ⟨17, .phase⟩, ⟨18, .phase⟩, ⟨19, .phase⟩, ⟨20, .phase⟩, ⟨21, .phase⟩], none⟩] true).wp Tryz.prog (fun c a' w' => c = .normal ∧ ∃ (o' : Nat → Nat) (V' : Nat → Value) (F' : Nat → List Lr) (b5 g1 c1 g2 c2 g3 c3 g4 c4 g5 c5 : Nat), G.length + 2 ≤ c1 ∧ C.length + 2 ≤ c2 ∧ D.length + 2 ≤ c3 ∧ TM.length + 2 ≤ c4 ∧ CT.length + 2 ≤ c5 ∧ Gro F F' (upd (upd (upd (upd (upd (fun _ => 0) 6 1) 7 1) 8 1) 11 1) 11 2) ∧ N1 ≠ b5 ∧ N ≠ b5 ∧
      TyS o0 W0 B rb o' w' F' V' [(b5, #[.string pn, .slice (some ⟨g1, 0, none⟩) G.length c1, .slice (some ⟨g2, 0, none⟩) C.length c2, .slice (some ⟨g3, 0, none⟩) D.length c3, .slice (some ⟨g4, 0, none⟩) TM.length c4, .slice (some ⟨g5, 0, none⟩) CT.length c5, .slice none 0 0, .slice none 0 0, .int .i64 stt]), (N1, #[.string ⟨#[]⟩, .slice none 0 0, .slice none 0 0, .slice none 0 0, .slice none 0 0, .slice none 0 0, .slice none 0 0, .slice none 0 0, .int .i64 0]), (N, #[.string pn, .slice ga G.length gc, .slice ca C.length cc, .slice da D.length dc, .slice ta TM.length tc, .slice ka CT.length kc, .slice va nV vc, .slice sa nS sc, .int .i64 stt])] [(g5, (cellsF txC CT ++ [.string ⟨#[114, 111, 111, 109]⟩, .string ⟨#[114, 111, 111, 109]⟩])), (g4, (cellsF txC TM ++ [.string ⟨#[114, 111, 111, 109]⟩, .string ⟨#[114, 111, 111, 109]⟩])), (g3, (cellsF Dt.cs D ++ [.string ⟨#[]⟩, .bool false, .int .i64 4444, .int .i64 0, .string ⟨#[]⟩, .bool false, .int .i64 4444, .int .i64 0])), (g1, (cellsF Gp.cs G ++ [.string ⟨#[]⟩, .int .i64 0, .int .i64 4444, .int .i64 0, .int .i64 0, .string ⟨#[]⟩, .int .i64 0, .int .i64 4444, .int .i64 0, .int .i64 0])), (g2, (cellsF Cf.cs C ++ [.int .i64 4444, .int .i64 0, .int .i64 0, .int .i64 0, .int .i64 4444, .int .i64 0, .int .i64 0, .int .i64 0]))] ∧ a' = { tmps := #[.pointer (some ⟨rb, 0, none⟩), .agg #[.string pn, .slice ga G.length gc, .slice ca C.length cc, .slice da D.length dc, .slice ta TM.length tc, .slice ka CT.length kc, .slice va nV vc, .slice sa nS sc, .int .i64 stt], undef, .pointer (some ⟨N, 0, none⟩), .pointer (some ⟨N1, 0, none⟩), .pointer (some ⟨b5, 0, none⟩), undef, undef, undef, undef, undef, undef, undef, undef, undef, .pointer (some ⟨N, 0, none⟩), .string pn, .pointer (some ⟨N, 8, none⟩), .int .i64 stt, .pointer (some ⟨rb, 0, none⟩), .pointer (some ⟨N, 1, none⟩), .agg #[.slice ga G.length gc, .slice ca C.length cc], .agg #[.slice (some ⟨g1, 0, none⟩) G.length c1, .slice (some ⟨g2, 0, none⟩) C.length c2], .pointer (some ⟨rb, 0, none⟩), .pointer (some ⟨N, 3, none⟩), .slice da D.length dc, .slice (some ⟨g3, 0, none⟩) D.length c3, .pointer (some ⟨rb, 0, none⟩), .pointer (some ⟨N, 4, none⟩), .slice ta TM.length tc, .slice (some ⟨g4, 0, none⟩) TM.length c4, .pointer (some ⟨rb, 0, none⟩), .pointer (some ⟨N, 5, none⟩), .slice ka CT.length kc, .slice (some ⟨g5, 0, none⟩) CT.length c5, .agg #[.string pn, .slice (some ⟨g1, 0, none⟩) G.length c1, .slice (some ⟨g2, 0, none⟩) C.length c2, .slice (some ⟨g3, 0, none⟩) D.length c3, .slice (some ⟨g4, 0, none⟩) TM.length c4, .slice (some ⟨g5, 0, none⟩) CT.length c5, .slice none 0 0, .slice none 0 0, .int .i64 stt], undef, undef, undef, undef, undef, undef, undef, undef, undef, undef, undef, undef, undef, undef, undef, undef, undef, undef, undef, undef, undef, undef, undef, undef, undef, undef, undef, undef, undef, undef, undef, undef, undef, undef, undef, undef, undef, undef, undef, undef, undef, undef, undef, undef, undef, undef, undef, undef, undef, undef, undef, undef, undef, undef, undef, undef, undef, undef, undef, undef, undef, undef, undef, undef, undef, undef, undef, undef, undef, undef, undef, undef, undef, undef, undef, undef, undef, undef, undef, undef, undef, undef, undef, undef, undef, undef, undef, undef, undef, undef, undef, undef, undef, undef, undef, undef, undef, undef, undef, undef, undef, undef, undef, undef, undef, undef, undef, undef, undef, undef, undef, undef, undef, undef, undef, undef, undef, undef, undef, undef, undef, undef, undef, undef, undef], defers := [] })
      { tmps := #[.pointer (some ⟨rb, 0, none⟩), .agg #[.string pn, .slice ga G.length gc, .slice ca C.length cc, .slice da D.length dc, .slice ta TM.length tc, .slice ka CT.length kc, .slice va nV vc, .slice sa nS sc, .int .i64 stt], undef, .pointer (some ⟨N, 0, none⟩), .pointer (some ⟨N1, 0, none⟩), undef, undef, undef, undef, undef, undef, undef, undef, undef, undef, undef, undef, undef, undef, undef, undef, undef, undef, undef, undef, undef, undef, undef, undef, undef, undef, undef, undef, undef, undef, undef, undef, undef, undef, undef, undef, undef, undef, undef, undef, undef, undef, undef, undef, undef, undef, undef, undef, undef, undef, undef, undef, undef, undef, undef, undef, undef, undef, undef, undef, undef, undef, undef, undef, undef, undef, undef, undef, undef, undef, undef, undef, undef, undef, undef, undef, undef, undef, undef, undef, undef, undef, undef, undef, undef, undef, undef, undef, undef, undef, undef, undef, undef, undef, undef, undef, undef, undef, undef, undef, undef, undef, undef, undef, undef, undef, undef, undef, undef, undef, undef, undef, undef, undef, undef, undef, undef, undef, undef, undef, undef, undef, undef, undef, undef, undef, undef, undef, undef, undef, undef, undef, undef, undef, undef, undef, undef, undef, undef, undef, undef, undef, undef, undef, undef, undef, undef, undef, undef, undef, undef, undef, undef, undef, undef, undef], defers := [] } X := by
  have T0 := hS.drew
  have gr0 := Gro.refl F
  refine wp_region_noPanic ?_
  refine wp_region_held_drew (S := fun w' => w'.cell? ⟨N, 0, none⟩ = some (.string pn) ∧ w'.cell? ⟨N, 1, none⟩ = some (.slice ga G.length gc) ∧ w'.cell? ⟨N, 2, none⟩ = some (.slice ca C.length cc) ∧ w'.cell? ⟨N, 3, none⟩ = some (.slice da D.length dc) ∧ w'.cell? ⟨N, 4, none⟩ = some (.slice ta TM.length tc) ∧ w'.cell? ⟨N, 5, none⟩ = some (.slice ka CT.length kc) ∧ w'.cell? ⟨N, 8, none⟩ = some (.int .i64 stt)) (by kernel_rfl) ?_ (fun hHeld => ?_)
  · (try dsimp only)
    exact ⟨(T0.has (.tail _ (.head _))).2.1 0, (T0.has (.tail _ (.head _))).2.1 1, (T0.has (.tail _ (.head _))).2.1 2, (T0.has (.tail _ (.head _))).2.1 3, (T0.has (.tail _ (.head _))).2.1 4, (T0.has (.tail _ (.head _))).2.1 5, (T0.has (.tail _ (.head _))).2.1 8⟩
  refine tkY 0 ⟨some 15, .fieldAddr 31 (.tmp 3) 0, 0, "room.go:109", #[], none⟩ ?_ rfl ⟨by rfl, ?_⟩ ?_
  rotate_left
  · intro wz hSz; (try dsimp only at hSz); go_simp; all_goals (with_reducible rfl)
  (try simp only [Act.put, List.setIfInBounds_toArray, List.set_cons_zero, List.set_cons_succ])
  refine tkY 1 ⟨some 16, .load 9 (.tmp 15), 9, "room.go:109", #[⟨0, .data⟩], none⟩ ?_ rfl ⟨by rfl, ?_⟩ ?_
  rotate_left
  · intro wz hSz; (try dsimp only at hSz); go_simp; all_goals (with_reducible rfl)
  (try simp only [Act.put, List.setIfInBounds_toArray, List.set_cons_zero, List.set_cons_succ])
  refine tkY 2 ⟨some 17, .fieldAddr 31 (.tmp 3) 7, 0, "room.go:109", #[], none⟩ ?_ rfl ⟨by rfl, ?_⟩ ?_
  rotate_left
  · intro wz hSz; (try dsimp only at hSz); go_simp; all_goals (with_reducible rfl)
  (try simp only [Act.put, List.setIfInBounds_toArray, List.set_cons_zero, List.set_cons_succ])
  refine tkY 3 ⟨some 18, .load 3 (.tmp 17), 3, "room.go:109", #[⟨2, .data⟩], none⟩ ?_ rfl ⟨by rfl, ?_⟩ ?_
  rotate_left
  · intro wz hSz; (try dsimp only at hSz); go_simp; all_goals (with_reducible rfl)
  (try simp only [Act.put, List.setIfInBounds_toArray, List.set_cons_zero, List.set_cons_succ])
  refine tkY 4 ⟨some 19, .move (.tmp 0), 33, "room.go:109", #[], none⟩ ?_ rfl ⟨by rfl, ?_⟩ ?_
  rotate_left
  · intro wz hSz; (try dsimp only at hSz); go_simp; all_goals (with_reducible rfl)
  (try simp only [Act.put, List.setIfInBounds_toArray, List.set_cons_zero, List.set_cons_succ])
  refine tkY 5 ⟨some 20, .fieldAddr 31 (.tmp 3) 1, 0, "room.go:109", #[], none⟩ ?_ rfl ⟨by rfl, ?_⟩ ?_
  rotate_left
  · intro wz hSz; (try dsimp only at hSz); go_simp; all_goals (with_reducible rfl)
  (try simp only [Act.put, List.setIfInBounds_toArray, List.set_cons_zero, List.set_cons_succ])
  refine tkY 6 ⟨some 21, .load 25 (.tmp 20), 25, "room.go:109", #[⟨5, .data⟩], none⟩ ?_ rfl ⟨by rfl, ?_⟩ ?_
  rotate_left
  · intro wz hSz; (try dsimp only at hSz); go_simp; all_goals (with_reducible rfl)
  (try simp only [Act.put, List.setIfInBounds_toArray, List.set_cons_zero, List.set_cons_succ])
  refine tkY 8 ⟨some 23, .move (.tmp 0), 33, "room.go:109", #[], none⟩ ?_ rfl ⟨by rfl, ?_⟩ ?_
  rotate_left
  · intro wz hSz; (try dsimp only at hSz); go_simp; all_goals (with_reducible rfl)
  (try simp only [Act.put, List.setIfInBounds_toArray, List.set_cons_zero, List.set_cons_succ])
  refine tkY 9 ⟨some 24, .fieldAddr 31 (.tmp 3) 2, 0, "room.go:109", #[], none⟩ ?_ rfl ⟨by rfl, ?_⟩ ?_
  rotate_left
  · intro wz hSz; (try dsimp only at hSz); go_simp; all_goals (with_reducible rfl)
  (try simp only [Act.put, List.setIfInBounds_toArray, List.set_cons_zero, List.set_cons_succ])
  refine tkY 10 ⟨some 25, .load 26 (.tmp 24), 26, "room.go:109", #[⟨9, .data⟩], none⟩ ?_ rfl ⟨by rfl, ?_⟩ ?_
  rotate_left
  · intro wz hSz; (try dsimp only at hSz); go_simp; all_goals (with_reducible rfl)
  (try simp only [Act.put, List.setIfInBounds_toArray, List.set_cons_zero, List.set_cons_succ])
  refine tkY 12 ⟨some 27, .move (.tmp 0), 33, "room.go:109", #[], none⟩ ?_ rfl ⟨by rfl, ?_⟩ ?_
  rotate_left
  · intro wz hSz; (try dsimp only at hSz); go_simp; all_goals (with_reducible rfl)
  (try simp only [Act.put, List.setIfInBounds_toArray, List.set_cons_zero, List.set_cons_succ])
  refine tkY 13 ⟨some 28, .fieldAddr 31 (.tmp 3) 3, 0, "room.go:109", #[], none⟩ ?_ rfl ⟨by rfl, ?_⟩ ?_
  rotate_left
  · intro wz hSz; (try dsimp only at hSz); go_simp; all_goals (with_reducible rfl)
  (try simp only [Act.put, List.setIfInBounds_toArray, List.set_cons_zero, List.set_cons_succ])
  refine tkY 14 ⟨some 29, .load 27 (.tmp 28), 27, "room.go:109", #[⟨13, .data⟩], none⟩ ?_ rfl ⟨by rfl, ?_⟩ ?_
  rotate_left
  · intro wz hSz; (try dsimp only at hSz); go_simp; all_goals (with_reducible rfl)
  (try simp only [Act.put, List.setIfInBounds_toArray, List.set_cons_zero, List.set_cons_succ])
  refine tkY 16 ⟨some 31, .move (.tmp 0), 33, "room.go:109", #[], none⟩ ?_ rfl ⟨by rfl, ?_⟩ ?_
  rotate_left
  · intro wz hSz; (try dsimp only at hSz); go_simp; all_goals (with_reducible rfl)
  (try simp only [Act.put, List.setIfInBounds_toArray, List.set_cons_zero, List.set_cons_succ])
  refine tkY 17 ⟨some 32, .fieldAddr 31 (.tmp 3) 4, 0, "room.go:109", #[], none⟩ ?_ rfl ⟨by rfl, ?_⟩ ?_
  rotate_left
  · intro wz hSz; (try dsimp only at hSz); go_simp; all_goals (with_reducible rfl)
  (try simp only [Act.put, List.setIfInBounds_toArray, List.set_cons_zero, List.set_cons_succ])
  refine tkY 18 ⟨some 33, .load 27 (.tmp 32), 27, "room.go:109", #[⟨17, .data⟩], none⟩ ?_ rfl ⟨by rfl, ?_⟩ ?_
  rotate_left
  · intro wz hSz; (try dsimp only at hSz); go_simp; all_goals (with_reducible rfl)
  (try simp only [Act.put, List.setIfInBounds_toArray, List.set_cons_zero, List.set_cons_succ])
  clear hS
  refine wpAnyH_ready (rs := [7, 21]) (by kernel_rfl) (by simp) ?_
  refine AllReadyH.cons (o := ⟨some 22, .call { callee := Callee.value (.func 24), args := #[.tmp 19, .tmp 21], argTypes := #[33, 25] }, 25, "room.go:109", #[⟨4, .data⟩, ⟨6, .data⟩], none⟩) rfl (fun K hK => ?_) (AllReadyH.cons (o := ⟨some 5, .alloc 31, 0, "room.go:109", #[], none⟩) rfl (fun K hK => ?_) AllReadyH.nil)
  · go_simp
    go_at_call 24
    refine Calls.mono (roomTables_any G C ga ca gc cc rb _ B _ _ X.drew (hG _ (T0.bel hB ho5)) (hC _ (T0.bel hB ho5)) lG lC T0.rm hb6 hb7) ?_
    rintro e w1 ⟨o1, g1, c1, g2, c2, V1, rfl, hRn, hKn, cap1, cap2, hFn1, hFn2⟩
    have T1 := T0.call (Ps' := [(g1, (cellsF Gp.cs G ++ [.string ⟨#[]⟩, .int .i64 0, .int .i64 4444, .int .i64 0, .int .i64 0, .string ⟨#[]⟩, .int .i64 0, .int .i64 4444, .int .i64 0, .int .i64 0])), (g2, (cellsF Cf.cs C ++ [.int .i64 4444, .int .i64 0, .int .i64 0, .int .i64 0, .int .i64 4444, .int .i64 0, .int .i64 0, .int .i64 0]))]) hRn.out hKn.out (by intro p hp; rcases List.mem_cons.1 hp with rfl | hp; exact hFn1.out; rw [List.mem_singleton.1 hp]; exact hFn2.out)
    have gr1 := Gro.tab F ⟨g1, G.length + 2, c1⟩ ⟨g2, C.length + 2, c2⟩
    clear hRn hKn hFn1 hFn2
    generalize (upd (upd F 6 (F 6 ++ [(⟨g1, G.length + 2, c1⟩ : Lr)])) 7 (F 7 ++ [(⟨g2, C.length + 2, c2⟩ : Lr)])) = F1 at *
    clear T0 gr0
    go_wp2_with fail
    refine hK.out _ _ ?_ (fun hHeld => ?_)
    · (try dsimp only)
      exact ⟨(T1.has (.tail _ (.head _))).2.1 0, (T1.has (.tail _ (.head _))).2.1 1, (T1.has (.tail _ (.head _))).2.1 2, (T1.has (.tail _ (.head _))).2.1 3, (T1.has (.tail _ (.head _))).2.1 4, (T1.has (.tail _ (.head _))).2.1 5, (T1.has (.tail _ (.head _))).2.1 8⟩
    clear hK K
    (try simp only [Act.put, List.setIfInBounds_toArray, List.set_cons_zero, List.set_cons_succ])
    refine wpAnyH_ready (rs := [11, 21]) (by kernel_rfl) (by simp) ?_
    refine AllReadyH.cons (o := ⟨some 26, .call { callee := Callee.value (.func 25), args := #[.tmp 23, .tmp 25], argTypes := #[33, 26] }, 26, "room.go:109", #[⟨8, .data⟩, ⟨10, .data⟩, ⟨7, .chain⟩], none⟩) rfl (fun K hK => ?_) (AllReadyH.cons (o := ⟨some 5, .alloc 31, 0, "room.go:109", #[], none⟩) rfl (fun K hK => ?_) AllReadyH.nil)
    · go_simp
      go_at_call 25
      refine Calls.mono (roomDets_any D da dc rb _ B _ _ w1 (hD _ (T1.bel hB ho5)) lD T1.rm (by have h := gr1.len 8; have e : (upd (upd (fun _ => 0) 6 1) 7 1) 8 = 0 := rfl; omega)) ?_
      rintro e w2 ⟨o2, g3, c3, V2, rfl, hRn, hKn, cap3, hFn⟩
      have T2 := T1.call (Ps' := [(g3, (cellsF Dt.cs D ++ [.string ⟨#[]⟩, .bool false, .int .i64 4444, .int .i64 0, .string ⟨#[]⟩, .bool false, .int .i64 4444, .int .i64 0]))]) hRn.out hKn.out (by intro p hp; rw [List.mem_singleton.1 hp]; exact hFn.out)
      have gr2 : Gro F _ (upd (upd (upd (fun _ => 0) 6 1) 7 1) 8 1) := gr1.upd 8 [(⟨g3, D.length + 2, c3⟩ : Lr)]
      clear hRn hKn hFn
      generalize upd F1 8 (F1 8 ++ [(⟨g3, D.length + 2, c3⟩ : Lr)]) = F2 at *
      clear T1 gr1
      go_wp2_with fail
      refine hK.out _ _ ?_ (fun hHeld => ?_)
      · (try dsimp only)
        exact ⟨(T2.has (.tail _ (.head _))).2.1 0, (T2.has (.tail _ (.head _))).2.1 1, (T2.has (.tail _ (.head _))).2.1 2, (T2.has (.tail _ (.head _))).2.1 3, (T2.has (.tail _ (.head _))).2.1 4, (T2.has (.tail _ (.head _))).2.1 5, (T2.has (.tail _ (.head _))).2.1 8⟩
      clear hK K
      (try simp only [Act.put, List.setIfInBounds_toArray, List.set_cons_zero, List.set_cons_succ])
      refine wpAnyH_ready (rs := [15, 21]) (by kernel_rfl) (by simp) ?_
      refine AllReadyH.cons (o := ⟨some 30, .call { callee := Callee.value (.func 26), args := #[.tmp 27, .tmp 29], argTypes := #[33, 27] }, 27, "room.go:109", #[⟨12, .data⟩, ⟨14, .data⟩, ⟨11, .chain⟩], none⟩) rfl (fun K hK => ?_) (AllReadyH.cons (o := ⟨some 5, .alloc 31, 0, "room.go:109", #[], none⟩) rfl (fun K hK => ?_) AllReadyH.nil)
      · go_simp
        go_at_call 26
        refine Calls.mono (roomTexts_any TM ta tc rb _ B _ _ w2 (hT _ (T2.bel hB ho5)) lT T2.rm (by have h := gr2.len 11; have e : (upd (upd (upd (fun _ => 0) 6 1) 7 1) 8 1) 11 = 0 := rfl; omega)) ?_
        rintro e w3 ⟨o3, g4, c4, V3, rfl, hRn, hKn, cap4, hFn⟩
        have T3 := T2.call (Ps' := [(g4, (cellsF txC TM ++ [.string ⟨#[114, 111, 111, 109]⟩, .string ⟨#[114, 111, 111, 109]⟩]))]) hRn.out hKn.out (by intro p hp; rw [List.mem_singleton.1 hp]; exact hFn.out)
        have gr3 : Gro F _ (upd (upd (upd (upd (fun _ => 0) 6 1) 7 1) 8 1) 11 1) := gr2.upd 11 [(⟨g4, TM.length + 2, c4⟩ : Lr)]
        clear hRn hKn hFn
        generalize upd F2 11 (F2 11 ++ [(⟨g4, TM.length + 2, c4⟩ : Lr)]) = F3 at *
        clear T2 gr2
        go_wp2_with fail
        refine hK.out _ _ ?_ (fun hHeld => ?_)
        · (try dsimp only)
          exact ⟨(T3.has (.tail _ (.head _))).2.1 0, (T3.has (.tail _ (.head _))).2.1 1, (T3.has (.tail _ (.head _))).2.1 2, (T3.has (.tail _ (.head _))).2.1 3, (T3.has (.tail _ (.head _))).2.1 4, (T3.has (.tail _ (.head _))).2.1 5, (T3.has (.tail _ (.head _))).2.1 8⟩
        clear hK K
        (try simp only [Act.put, List.setIfInBounds_toArray, List.set_cons_zero, List.set_cons_succ])
        refine wpAnyH_ready (rs := [19, 21]) (by kernel_rfl) (by simp) ?_
        refine AllReadyH.cons (o := ⟨some 34, .call { callee := Callee.value (.func 26), args := #[.tmp 31, .tmp 33], argTypes := #[33, 27] }, 27, "room.go:109", #[⟨16, .data⟩, ⟨18, .data⟩, ⟨15, .chain⟩], none⟩) rfl (fun K hK => ?_) (AllReadyH.cons (o := ⟨some 5, .alloc 31, 0, "room.go:109", #[], none⟩) rfl (fun K hK => ?_) AllReadyH.nil)
        · go_simp
          go_at_call 26
          refine Calls.mono (roomTexts_any CT ka kc rb _ B _ _ w3 (hCT _ (T3.bel hB ho5)) lCT T3.rm (by have h := gr3.len 11; have e : (upd (upd (upd (upd (fun _ => 0) 6 1) 7 1) 8 1) 11 1) 11 = 1 := rfl; omega)) ?_
          rintro e w4 ⟨o4, g5, c5, V4, rfl, hRn, hKn, cap5, hFn⟩
          have T4 := T3.call (Ps' := [(g5, (cellsF txC CT ++ [.string ⟨#[114, 111, 111, 109]⟩, .string ⟨#[114, 111, 111, 109]⟩]))]) hRn.out hKn.out (by intro p hp; rw [List.mem_singleton.1 hp]; exact hFn.out)
          have gr4 : Gro F _ (upd (upd (upd (upd (upd (fun _ => 0) 6 1) 7 1) 8 1) 11 1) 11 2) := gr3.upd 11 [(⟨g5, CT.length + 2, c5⟩ : Lr)]
          clear hRn hKn hFn
          generalize upd F3 11 (F3 11 ++ [(⟨g5, CT.length + 2, c5⟩ : Lr)]) = F4 at *
          clear T3 gr3
          go_wp2_with fail
          refine hK.out _ _ ?_ (fun hHeld => ?_)
          · (try dsimp only)
            exact ⟨(T4.has (.tail _ (.head _))).2.1 0, (T4.has (.tail _ (.head _))).2.1 1, (T4.has (.tail _ (.head _))).2.1 2, (T4.has (.tail _ (.head _))).2.1 3, (T4.has (.tail _ (.head _))).2.1 4, (T4.has (.tail _ (.head _))).2.1 5, (T4.has (.tail _ (.head _))).2.1 8⟩
          clear hK K
          (try simp only [Act.put, List.setIfInBounds_toArray, List.set_cons_zero, List.set_cons_succ])
          refine tkY 20 ⟨some 35, .build 31 #[(0, .tmp 16), (7, .tmp 18), (1, .tmp 22), (2, .tmp 26), (3, .tmp 30), (4, .tmp 34)], 31, "room.go:109", #[⟨1, .data⟩, ⟨3, .data⟩, ⟨7, .data⟩, ⟨11, .data⟩, ⟨15, .data⟩, ⟨19, .data⟩], none⟩ ?_ rfl ⟨by rfl, ?_⟩ ?_
          rotate_left
          · intro wz hSz; (try dsimp only at hSz); go_simp; all_goals (with_reducible rfl)
          (try simp only [Act.put, List.setIfInBounds_toArray, List.set_cons_zero, List.set_cons_succ])
          refine wpAnyH_ready (rs := [21]) (by kernel_rfl) (by simp) ?_
          refine AllReadyH.cons (o := ⟨some 5, .alloc 31, 0, "room.go:109", #[], none⟩) rfl (fun K hK => ?_) AllReadyH.nil
          have U4 := T4.alloc #[.string ⟨#[]⟩, .slice none 0 0, .slice none 0 0, .slice none 0 0, .slice none 0 0, .slice none 0 0, .slice none 0 0, .slice none 0 0, .int .i64 0] 31
          have n1 : N1 ≠ w4.heap.size := Nat.ne_of_lt ((T4.has (.head _)).1)
          have n0 : N ≠ w4.heap.size := Nat.ne_of_lt ((T4.has (.tail _ (.head _))).1)
          go_simp
          refine hK.out _ _ ?_ (fun hHeld => ?_)
          · (try dsimp only)
            exact ⟨(U4.has (.tail _ (.tail _ (.head _)))).2.1 0, (U4.has (.tail _ (.tail _ (.head _)))).2.1 1, (U4.has (.tail _ (.tail _ (.head _)))).2.1 2, (U4.has (.tail _ (.tail _ (.head _)))).2.1 3, (U4.has (.tail _ (.tail _ (.head _)))).2.1 4, (U4.has (.tail _ (.tail _ (.head _)))).2.1 5, (U4.has (.tail _ (.tail _ (.head _)))).2.1 8⟩
          clear hK K
          (try simp only [Act.put, List.setIfInBounds_toArray, List.set_cons_zero, List.set_cons_succ])
          obtain ⟨_, d1, d2⟩ := id (U4.has (.head _))
          refine wpAnyH_ready (rs := [22]) (by kernel_rfl) (by simp) ?_
          refine AllReadyH.cons (o := ⟨none, .store 31 (.tmp 5) (.tmp 35), 0, "room.go:109", #[⟨21, .data⟩, ⟨20, .data⟩, ⟨19, .chain⟩, ⟨0, .phase⟩, ⟨1, .phase⟩, ⟨2, .phase⟩, ⟨3, .phase⟩, ⟨4, .phase⟩, ⟨5, .phase⟩, ⟨6, .phase⟩, ⟨7, .phase⟩, ⟨8, .phase⟩, ⟨9, .phase⟩, ⟨10, .phase⟩, ⟨11, .phase⟩, ⟨12, .phase⟩, ⟨13, .phase⟩, ⟨14, .phase⟩, ⟨15, .phase⟩, ⟨16, .phase⟩, ⟨17, .phase⟩, ⟨18, .phase⟩, ⟨19, .phase⟩, ⟨20, .phase⟩, ⟨21, .phase⟩], none⟩) rfl (fun K hK => ?_) AllReadyH.nil
          have E8 := T4.alloc #[.string pn, .slice (some ⟨g1, 0, none⟩) G.length c1, .slice (some ⟨g2, 0, none⟩) C.length c2, .slice (some ⟨g3, 0, none⟩) D.length c3, .slice (some ⟨g4, 0, none⟩) TM.length c4, .slice (some ⟨g5, 0, none⟩) CT.length c5, .slice none 0 0, .slice none 0 0, .int .i64 stt] 31
          go_simp
          refine hK.out _ _ ?_ (fun hHeld => ?_)
          · (try dsimp only)
            exact ⟨(E8.has (.tail _ (.tail _ (.head _)))).2.1 0, (E8.has (.tail _ (.tail _ (.head _)))).2.1 1, (E8.has (.tail _ (.tail _ (.head _)))).2.1 2, (E8.has (.tail _ (.tail _ (.head _)))).2.1 3, (E8.has (.tail _ (.tail _ (.head _)))).2.1 4, (E8.has (.tail _ (.tail _ (.head _)))).2.1 5, (E8.has (.tail _ (.tail _ (.head _)))).2.1 8⟩
          clear hK K
          (try simp only [Act.put, List.setIfInBounds_toArray, List.set_cons_zero, List.set_cons_succ])
          refine wpAnyH_done (by kernel_rfl) ?_ _
          refine NoPanic.normal ?_
          exact ⟨rfl, _, _, _, w4.heap.size, g1, c1, g2, c2, g3, c3, g4, c4, g5, c5, cap1, cap2, cap3, cap4, cap5, gr4, n1, n0, E8, rfl⟩
        · have U3 := T3.alloc #[.string ⟨#[]⟩, .slice none 0 0, .slice none 0 0, .slice none 0 0, .slice none 0 0, .slice none 0 0, .slice none 0 0, .slice none 0 0, .int .i64 0] 31
          have n1 : N1 ≠ w3.heap.size := Nat.ne_of_lt ((T3.has (.head _)).1)
          have n0 : N ≠ w3.heap.size := Nat.ne_of_lt ((T3.has (.tail _ (.head _))).1)
          go_simp
          clear T3
          refine hK.out _ _ ?_ (fun hHeld => ?_)
          · (try dsimp only)
            exact ⟨(U3.has (.tail _ (.tail _ (.head _)))).2.1 0, (U3.has (.tail _ (.tail _ (.head _)))).2.1 1, (U3.has (.tail _ (.tail _ (.head _)))).2.1 2, (U3.has (.tail _ (.tail _ (.head _)))).2.1 3, (U3.has (.tail _ (.tail _ (.head _)))).2.1 4, (U3.has (.tail _ (.tail _ (.head _)))).2.1 5, (U3.has (.tail _ (.tail _ (.head _)))).2.1 8⟩
          clear hK K
          (try simp only [Act.put, List.setIfInBounds_toArray, List.set_cons_zero, List.set_cons_succ])
          refine wpAnyH_ready (rs := [19]) (by kernel_rfl) (by simp) ?_
          refine AllReadyH.cons (o := ⟨some 34, .call { callee := Callee.value (.func 26), args := #[.tmp 31, .tmp 33], argTypes := #[33, 27] }, 27, "room.go:109", #[⟨16, .data⟩, ⟨18, .data⟩, ⟨15, .chain⟩], none⟩) rfl (fun K hK => ?_) AllReadyH.nil
          go_simp
          go_at_call 26
          refine Calls.mono (roomTexts_any CT ka kc rb _ B _ _ (w3.alloc (.cells #[.string ⟨#[]⟩, .slice none 0 0, .slice none 0 0, .slice none 0 0, .slice none 0 0, .slice none 0 0, .slice none 0 0, .slice none 0 0, .int .i64 0] 31)) (hCT _ (U3.bel hB ho5)) lCT U3.rm (by have h := gr3.len 11; have e : (upd (upd (upd (upd (fun _ => 0) 6 1) 7 1) 8 1) 11 1) 11 = 1 := rfl; omega)) ?_
          rintro e w4 ⟨o4, g5, c5, V4, rfl, hRn, hKn, cap5, hFn⟩
          have T4 := U3.call (Ps' := [(g5, (cellsF txC CT ++ [.string ⟨#[114, 111, 111, 109]⟩, .string ⟨#[114, 111, 111, 109]⟩]))]) hRn.out hKn.out (by intro p hp; rw [List.mem_singleton.1 hp]; exact hFn.out)
          have gr4 : Gro F _ (upd (upd (upd (upd (upd (fun _ => 0) 6 1) 7 1) 8 1) 11 1) 11 2) := gr3.upd 11 [(⟨g5, CT.length + 2, c5⟩ : Lr)]
          clear hRn hKn hFn
          generalize upd F3 11 (F3 11 ++ [(⟨g5, CT.length + 2, c5⟩ : Lr)]) = F4 at *
          clear U3 gr3
          go_wp2_with fail
          refine hK.out _ _ ?_ (fun hHeld => ?_)
          · (try dsimp only)
            exact ⟨(T4.has (.tail _ (.tail _ (.head _)))).2.1 0, (T4.has (.tail _ (.tail _ (.head _)))).2.1 1, (T4.has (.tail _ (.tail _ (.head _)))).2.1 2, (T4.has (.tail _ (.tail _ (.head _)))).2.1 3, (T4.has (.tail _ (.tail _ (.head _)))).2.1 4, (T4.has (.tail _ (.tail _ (.head _)))).2.1 5, (T4.has (.tail _ (.tail _ (.head _)))).2.1 8⟩
          clear hK K
          (try simp only [Act.put, List.setIfInBounds_toArray, List.set_cons_zero, List.set_cons_succ])
          refine tkY 20 ⟨some 35, .build 31 #[(0, .tmp 16), (7, .tmp 18), (1, .tmp 22), (2, .tmp 26), (3, .tmp 30), (4, .tmp 34)], 31, "room.go:109", #[⟨1, .data⟩, ⟨3, .data⟩, ⟨7, .data⟩, ⟨11, .data⟩, ⟨15, .data⟩, ⟨19, .data⟩], none⟩ ?_ rfl ⟨by rfl, ?_⟩ ?_
          rotate_left
          · intro wz hSz; (try dsimp only at hSz); go_simp; all_goals (with_reducible rfl)
          (try simp only [Act.put, List.setIfInBounds_toArray, List.set_cons_zero, List.set_cons_succ])
          obtain ⟨_, d1, d2⟩ := id (T4.has (.head _))
          refine wpAnyH_ready (rs := [22]) (by kernel_rfl) (by simp) ?_
          refine AllReadyH.cons (o := ⟨none, .store 31 (.tmp 5) (.tmp 35), 0, "room.go:109", #[⟨21, .data⟩, ⟨20, .data⟩, ⟨19, .chain⟩, ⟨0, .phase⟩, ⟨1, .phase⟩, ⟨2, .phase⟩, ⟨3, .phase⟩, ⟨4, .phase⟩, ⟨5, .phase⟩, ⟨6, .phase⟩, ⟨7, .phase⟩, ⟨8, .phase⟩, ⟨9, .phase⟩, ⟨10, .phase⟩, ⟨11, .phase⟩, ⟨12, .phase⟩, ⟨13, .phase⟩, ⟨14, .phase⟩, ⟨15, .phase⟩, ⟨16, .phase⟩, ⟨17, .phase⟩, ⟨18, .phase⟩, ⟨19, .phase⟩, ⟨20, .phase⟩, ⟨21, .phase⟩], none⟩) rfl (fun K hK => ?_) AllReadyH.nil
          have hne : ∀ q ∈ [(N1, (#[.string ⟨#[]⟩, .slice none 0 0, .slice none 0 0, .slice none 0 0, .slice none 0 0, .slice none 0 0, .slice none 0 0, .slice none 0 0, .int .i64 0] : Array Value)), (N, #[.string pn, .slice ga G.length gc, .slice ca C.length cc, .slice da D.length dc, .slice ta TM.length tc, .slice ka CT.length kc, .slice va nV vc, .slice sa nS sc, .int .i64 stt])], q.1 ≠ w3.heap.size := by intro q hq; rcases List.mem_cons.1 hq with rfl | hq; exact n1; rw [List.mem_singleton.1 hq]; exact n0
          have E8 := T4.setCells hne [.string pn, .slice (some ⟨g1, 0, none⟩) G.length c1, .slice (some ⟨g2, 0, none⟩) C.length c2, .slice (some ⟨g3, 0, none⟩) D.length c3, .slice (some ⟨g4, 0, none⟩) TM.length c4, .slice (some ⟨g5, 0, none⟩) CT.length c5, .slice none 0 0, .slice none 0 0, .int .i64 stt] rfl
          simp only [World.setCells, Nat.zero_add, Nat.reduceAdd] at E8
          go_simp
          refine hK.out _ _ ?_ (fun hHeld => ?_)
          · (try dsimp only)
            exact ⟨(E8.has (.tail _ (.tail _ (.head _)))).2.1 0, (E8.has (.tail _ (.tail _ (.head _)))).2.1 1, (E8.has (.tail _ (.tail _ (.head _)))).2.1 2, (E8.has (.tail _ (.tail _ (.head _)))).2.1 3, (E8.has (.tail _ (.tail _ (.head _)))).2.1 4, (E8.has (.tail _ (.tail _ (.head _)))).2.1 5, (E8.has (.tail _ (.tail _ (.head _)))).2.1 8⟩
          clear hK K
          (try simp only [Act.put, List.setIfInBounds_toArray, List.set_cons_zero, List.set_cons_succ])
          refine wpAnyH_done (by kernel_rfl) ?_ _
          refine NoPanic.normal ?_
          exact ⟨rfl, _, _, _, w3.heap.size, g1, c1, g2, c2, g3, c3, g4, c4, g5, c5, cap1, cap2, cap3, cap4, cap5, gr4, n1, n0, E8, rfl⟩
      · have U2 := T2.alloc #[.string ⟨#[]⟩, .slice none 0 0, .slice none 0 0, .slice none 0 0, .slice none 0 0, .slice none 0 0, .slice none 0 0, .slice none 0 0, .int .i64 0] 31
        have n1 : N1 ≠ w2.heap.size := Nat.ne_of_lt ((T2.has (.head _)).1)
        have n0 : N ≠ w2.heap.size := Nat.ne_of_lt ((T2.has (.tail _ (.head _))).1)
        go_simp
        clear T2
        refine hK.out _ _ ?_ (fun hHeld => ?_)
        · (try dsimp only)
          exact ⟨(U2.has (.tail _ (.tail _ (.head _)))).2.1 0, (U2.has (.tail _ (.tail _ (.head _)))).2.1 1, (U2.has (.tail _ (.tail _ (.head _)))).2.1 2, (U2.has (.tail _ (.tail _ (.head _)))).2.1 3, (U2.has (.tail _ (.tail _ (.head _)))).2.1 4, (U2.has (.tail _ (.tail _ (.head _)))).2.1 5, (U2.has (.tail _ (.tail _ (.head _)))).2.1 8⟩
        clear hK K
        (try simp only [Act.put, List.setIfInBounds_toArray, List.set_cons_zero, List.set_cons_succ])
        refine wpAnyH_ready (rs := [15]) (by kernel_rfl) (by simp) ?_
        refine AllReadyH.cons (o := ⟨some 30, .call { callee := Callee.value (.func 26), args := #[.tmp 27, .tmp 29], argTypes := #[33, 27] }, 27, "room.go:109", #[⟨12, .data⟩, ⟨14, .data⟩, ⟨11, .chain⟩], none⟩) rfl (fun K hK => ?_) AllReadyH.nil
        go_simp
        go_at_call 26
        refine Calls.mono (roomTexts_any TM ta tc rb _ B _ _ (w2.alloc (.cells #[.string ⟨#[]⟩, .slice none 0 0, .slice none 0 0, .slice none 0 0, .slice none 0 0, .slice none 0 0, .slice none 0 0, .slice none 0 0, .int .i64 0] 31)) (hT _ (U2.bel hB ho5)) lT U2.rm (by have h := gr2.len 11; have e : (upd (upd (upd (fun _ => 0) 6 1) 7 1) 8 1) 11 = 0 := rfl; omega)) ?_
        rintro e w3 ⟨o3, g4, c4, V3, rfl, hRn, hKn, cap4, hFn⟩
        have T3 := U2.call (Ps' := [(g4, (cellsF txC TM ++ [.string ⟨#[114, 111, 111, 109]⟩, .string ⟨#[114, 111, 111, 109]⟩]))]) hRn.out hKn.out (by intro p hp; rw [List.mem_singleton.1 hp]; exact hFn.out)
        have gr3 : Gro F _ (upd (upd (upd (upd (fun _ => 0) 6 1) 7 1) 8 1) 11 1) := gr2.upd 11 [(⟨g4, TM.length + 2, c4⟩ : Lr)]
        clear hRn hKn hFn
        generalize upd F2 11 (F2 11 ++ [(⟨g4, TM.length + 2, c4⟩ : Lr)]) = F3 at *
        clear U2 gr2
        go_wp2_with fail
        refine hK.out _ _ ?_ (fun hHeld => ?_)
        · (try dsimp only)
          exact ⟨(T3.has (.tail _ (.tail _ (.head _)))).2.1 0, (T3.has (.tail _ (.tail _ (.head _)))).2.1 1, (T3.has (.tail _ (.tail _ (.head _)))).2.1 2, (T3.has (.tail _ (.tail _ (.head _)))).2.1 3, (T3.has (.tail _ (.tail _ (.head _)))).2.1 4, (T3.has (.tail _ (.tail _ (.head _)))).2.1 5, (T3.has (.tail _ (.tail _ (.head _)))).2.1 8⟩
        clear hK K
        (try simp only [Act.put, List.setIfInBounds_toArray, List.set_cons_zero, List.set_cons_succ])
        refine wpAnyH_ready (rs := [19]) (by kernel_rfl) (by simp) ?_
        refine AllReadyH.cons (o := ⟨some 34, .call { callee := Callee.value (.func 26), args := #[.tmp 31, .tmp 33], argTypes := #[33, 27] }, 27, "room.go:109", #[⟨16, .data⟩, ⟨18, .data⟩, ⟨15, .chain⟩], none⟩) rfl (fun K hK => ?_) AllReadyH.nil
        go_simp
        go_at_call 26
        refine Calls.mono (roomTexts_any CT ka kc rb _ B _ _ w3 (hCT _ (T3.bel hB ho5)) lCT T3.rm (by have h := gr3.len 11; have e : (upd (upd (upd (upd (fun _ => 0) 6 1) 7 1) 8 1) 11 1) 11 = 1 := rfl; omega)) ?_
        rintro e w4 ⟨o4, g5, c5, V4, rfl, hRn, hKn, cap5, hFn⟩
        have T4 := T3.call (Ps' := [(g5, (cellsF txC CT ++ [.string ⟨#[114, 111, 111, 109]⟩, .string ⟨#[114, 111, 111, 109]⟩]))]) hRn.out hKn.out (by intro p hp; rw [List.mem_singleton.1 hp]; exact hFn.out)
        have gr4 : Gro F _ (upd (upd (upd (upd (upd (fun _ => 0) 6 1) 7 1) 8 1) 11 1) 11 2) := gr3.upd 11 [(⟨g5, CT.length + 2, c5⟩ : Lr)]
        clear hRn hKn hFn
        generalize upd F3 11 (F3 11 ++ [(⟨g5, CT.length + 2, c5⟩ : Lr)]) = F4 at *
        clear T3 gr3
        go_wp2_with fail
        refine hK.out _ _ ?_ (fun hHeld => ?_)
        · (try dsimp only)
          exact ⟨(T4.has (.tail _ (.tail _ (.head _)))).2.1 0, (T4.has (.tail _ (.tail _ (.head _)))).2.1 1, (T4.has (.tail _ (.tail _ (.head _)))).2.1 2, (T4.has (.tail _ (.tail _ (.head _)))).2.1 3, (T4.has (.tail _ (.tail _ (.head _)))).2.1 4, (T4.has (.tail _ (.tail _ (.head _)))).2.1 5, (T4.has (.tail _ (.tail _ (.head _)))).2.1 8⟩
        clear hK K
        (try simp only [Act.put, List.setIfInBounds_toArray, List.set_cons_zero, List.set_cons_succ])
        refine tkY 20 ⟨some 35, .build 31 #[(0, .tmp 16), (7, .tmp 18), (1, .tmp 22), (2, .tmp 26), (3, .tmp 30), (4, .tmp 34)], 31, "room.go:109", #[⟨1, .data⟩, ⟨3, .data⟩, ⟨7, .data⟩, ⟨11, .data⟩, ⟨15, .data⟩, ⟨19, .data⟩], none⟩ ?_ rfl ⟨by rfl, ?_⟩ ?_
        rotate_left
        · intro wz hSz; (try dsimp only at hSz); go_simp; all_goals (with_reducible rfl)
        (try simp only [Act.put, List.setIfInBounds_toArray, List.set_cons_zero, List.set_cons_succ])
        obtain ⟨_, d1, d2⟩ := id (T4.has (.head _))
        refine wpAnyH_ready (rs := [22]) (by kernel_rfl) (by simp) ?_
        refine AllReadyH.cons (o := ⟨none, .store 31 (.tmp 5) (.tmp 35), 0, "room.go:109", #[⟨21, .data⟩, ⟨20, .data⟩, ⟨19, .chain⟩, ⟨0, .phase⟩, ⟨1, .phase⟩, ⟨2, .phase⟩, ⟨3, .phase⟩, ⟨4, .phase⟩, ⟨5, .phase⟩, ⟨6, .phase⟩, ⟨7, .phase⟩, ⟨8, .phase⟩, ⟨9, .phase⟩, ⟨10, .phase⟩, ⟨11, .phase⟩, ⟨12, .phase⟩, ⟨13, .phase⟩, ⟨14, .phase⟩, ⟨15, .phase⟩, ⟨16, .phase⟩, ⟨17, .phase⟩, ⟨18, .phase⟩, ⟨19, .phase⟩, ⟨20, .phase⟩, ⟨21, .phase⟩], none⟩) rfl (fun K hK => ?_) AllReadyH.nil
        have hne : ∀ q ∈ [(N1, (#[.string ⟨#[]⟩, .slice none 0 0, .slice none 0 0, .slice none 0 0, .slice none 0 0, .slice none 0 0, .slice none 0 0, .slice none 0 0, .int .i64 0] : Array Value)), (N, #[.string pn, .slice ga G.length gc, .slice ca C.length cc, .slice da D.length dc, .slice ta TM.length tc, .slice ka CT.length kc, .slice va nV vc, .slice sa nS sc, .int .i64 stt])], q.1 ≠ w2.heap.size := by intro q hq; rcases List.mem_cons.1 hq with rfl | hq; exact n1; rw [List.mem_singleton.1 hq]; exact n0
        have E8 := T4.setCells hne [.string pn, .slice (some ⟨g1, 0, none⟩) G.length c1, .slice (some ⟨g2, 0, none⟩) C.length c2, .slice (some ⟨g3, 0, none⟩) D.length c3, .slice (some ⟨g4, 0, none⟩) TM.length c4, .slice (some ⟨g5, 0, none⟩) CT.length c5, .slice none 0 0, .slice none 0 0, .int .i64 stt] rfl
        simp only [World.setCells, Nat.zero_add, Nat.reduceAdd] at E8
        go_simp
        refine hK.out _ _ ?_ (fun hHeld => ?_)
        · (try dsimp only)
          exact ⟨(E8.has (.tail _ (.tail _ (.head _)))).2.1 0, (E8.has (.tail _ (.tail _ (.head _)))).2.1 1, (E8.has (.tail _ (.tail _ (.head _)))).2.1 2, (E8.has (.tail _ (.tail _ (.head _)))).2.1 3, (E8.has (.tail _ (.tail _ (.head _)))).2.1 4, (E8.has (.tail _ (.tail _ (.head _)))).2.1 5, (E8.has (.tail _ (.tail _ (.head _)))).2.1 8⟩
        clear hK K
        (try simp only [Act.put, List.setIfInBounds_toArray, List.set_cons_zero, List.set_cons_succ])
        refine wpAnyH_done (by kernel_rfl) ?_ _
        refine NoPanic.normal ?_
        exact ⟨rfl, _, _, _, w2.heap.size, g1, c1, g2, c2, g3, c3, g4, c4, g5, c5, cap1, cap2, cap3, cap4, cap5, gr4, n1, n0, E8, rfl⟩
    · have U1 := T1.alloc #[.string ⟨#[]⟩, .slice none 0 0, .slice none 0 0, .slice none 0 0, .slice none 0 0, .slice none 0 0, .slice none 0 0, .slice none 0 0, .int .i64 0] 31
      have n1 : N1 ≠ w1.heap.size := Nat.ne_of_lt ((T1.has (.head _)).1)
      have n0 : N ≠ w1.heap.size := Nat.ne_of_lt ((T1.has (.tail _ (.head _))).1)
      go_simp
      clear T1
      refine hK.out _ _ ?_ (fun hHeld => ?_)
      · (try dsimp only)
        exact ⟨(U1.has (.tail _ (.tail _ (.head _)))).2.1 0, (U1.has (.tail _ (.tail _ (.head _)))).2.1 1, (U1.has (.tail _ (.tail _ (.head _)))).2.1 2, (U1.has (.tail _ (.tail _ (.head _)))).2.1 3, (U1.has (.tail _ (.tail _ (.head _)))).2.1 4, (U1.has (.tail _ (.tail _ (.head _)))).2.1 5, (U1.has (.tail _ (.tail _ (.head _)))).2.1 8⟩
      clear hK K
      (try simp only [Act.put, List.setIfInBounds_toArray, List.set_cons_zero, List.set_cons_succ])
      refine wpAnyH_ready (rs := [11]) (by kernel_rfl) (by simp) ?_
      refine AllReadyH.cons (o := ⟨some 26, .call { callee := Callee.value (.func 25), args := #[.tmp 23, .tmp 25], argTypes := #[33, 26] }, 26, "room.go:109", #[⟨8, .data⟩, ⟨10, .data⟩, ⟨7, .chain⟩], none⟩) rfl (fun K hK => ?_) AllReadyH.nil
      go_simp
      go_at_call 25
      refine Calls.mono (roomDets_any D da dc rb _ B _ _ (w1.alloc (.cells #[.string ⟨#[]⟩, .slice none 0 0, .slice none 0 0, .slice none 0 0, .slice none 0 0, .slice none 0 0, .slice none 0 0, .slice none 0 0, .int .i64 0] 31)) (hD _ (U1.bel hB ho5)) lD U1.rm (by have h := gr1.len 8; have e : (upd (upd (fun _ => 0) 6 1) 7 1) 8 = 0 := rfl; omega)) ?_
      rintro e w2 ⟨o2, g3, c3, V2, rfl, hRn, hKn, cap3, hFn⟩
      have T2 := U1.call (Ps' := [(g3, (cellsF Dt.cs D ++ [.string ⟨#[]⟩, .bool false, .int .i64 4444, .int .i64 0, .string ⟨#[]⟩, .bool false, .int .i64 4444, .int .i64 0]))]) hRn.out hKn.out (by intro p hp; rw [List.mem_singleton.1 hp]; exact hFn.out)
      have gr2 : Gro F _ (upd (upd (upd (fun _ => 0) 6 1) 7 1) 8 1) := gr1.upd 8 [(⟨g3, D.length + 2, c3⟩ : Lr)]
      clear hRn hKn hFn
      generalize upd F1 8 (F1 8 ++ [(⟨g3, D.length + 2, c3⟩ : Lr)]) = F2 at *
      clear U1 gr1
      go_wp2_with fail
      refine hK.out _ _ ?_ (fun hHeld => ?_)
      · (try dsimp only)
        exact ⟨(T2.has (.tail _ (.tail _ (.head _)))).2.1 0, (T2.has (.tail _ (.tail _ (.head _)))).2.1 1, (T2.has (.tail _ (.tail _ (.head _)))).2.1 2, (T2.has (.tail _ (.tail _ (.head _)))).2.1 3, (T2.has (.tail _ (.tail _ (.head _)))).2.1 4, (T2.has (.tail _ (.tail _ (.head _)))).2.1 5, (T2.has (.tail _ (.tail _ (.head _)))).2.1 8⟩
      clear hK K
      (try simp only [Act.put, List.setIfInBounds_toArray, List.set_cons_zero, List.set_cons_succ])
      refine wpAnyH_ready (rs := [15]) (by kernel_rfl) (by simp) ?_
      refine AllReadyH.cons (o := ⟨some 30, .call { callee := Callee.value (.func 26), args := #[.tmp 27, .tmp 29], argTypes := #[33, 27] }, 27, "room.go:109", #[⟨12, .data⟩, ⟨14, .data⟩, ⟨11, .chain⟩], none⟩) rfl (fun K hK => ?_) AllReadyH.nil
      go_simp
      go_at_call 26
      refine Calls.mono (roomTexts_any TM ta tc rb _ B _ _ w2 (hT _ (T2.bel hB ho5)) lT T2.rm (by have h := gr2.len 11; have e : (upd (upd (upd (fun _ => 0) 6 1) 7 1) 8 1) 11 = 0 := rfl; omega)) ?_
      rintro e w3 ⟨o3, g4, c4, V3, rfl, hRn, hKn, cap4, hFn⟩
      have T3 := T2.call (Ps' := [(g4, (cellsF txC TM ++ [.string ⟨#[114, 111, 111, 109]⟩, .string ⟨#[114, 111, 111, 109]⟩]))]) hRn.out hKn.out (by intro p hp; rw [List.mem_singleton.1 hp]; exact hFn.out)
      have gr3 : Gro F _ (upd (upd (upd (upd (fun _ => 0) 6 1) 7 1) 8 1) 11 1) := gr2.upd 11 [(⟨g4, TM.length + 2, c4⟩ : Lr)]
      clear hRn hKn hFn
      generalize upd F2 11 (F2 11 ++ [(⟨g4, TM.length + 2, c4⟩ : Lr)]) = F3 at *
      clear T2 gr2
      go_wp2_with fail
      refine hK.out _ _ ?_ (fun hHeld => ?_)
      · (try dsimp only)
        exact ⟨(T3.has (.tail _ (.tail _ (.head _)))).2.1 0, (T3.has (.tail _ (.tail _ (.head _)))).2.1 1, (T3.has (.tail _ (.tail _ (.head _)))).2.1 2, (T3.has (.tail _ (.tail _ (.head _)))).2.1 3, (T3.has (.tail _ (.tail _ (.head _)))).2.1 4, (T3.has (.tail _ (.tail _ (.head _)))).2.1 5, (T3.has (.tail _ (.tail _ (.head _)))).2.1 8⟩
      clear hK K
      (try simp only [Act.put, List.setIfInBounds_toArray, List.set_cons_zero, List.set_cons_succ])
      refine wpAnyH_ready (rs := [19]) (by kernel_rfl) (by simp) ?_
      refine AllReadyH.cons (o := ⟨some 34, .call { callee := Callee.value (.func 26), args := #[.tmp 31, .tmp 33], argTypes := #[33, 27] }, 27, "room.go:109", #[⟨16, .data⟩, ⟨18, .data⟩, ⟨15, .chain⟩], none⟩) rfl (fun K hK => ?_) AllReadyH.nil
      go_simp
      go_at_call 26
      refine Calls.mono (roomTexts_any CT ka kc rb _ B _ _ w3 (hCT _ (T3.bel hB ho5)) lCT T3.rm (by have h := gr3.len 11; have e : (upd (upd (upd (upd (fun _ => 0) 6 1) 7 1) 8 1) 11 1) 11 = 1 := rfl; omega)) ?_
      rintro e w4 ⟨o4, g5, c5, V4, rfl, hRn, hKn, cap5, hFn⟩
      have T4 := T3.call (Ps' := [(g5, (cellsF txC CT ++ [.string ⟨#[114, 111, 111, 109]⟩, .string ⟨#[114, 111, 111, 109]⟩]))]) hRn.out hKn.out (by intro p hp; rw [List.mem_singleton.1 hp]; exact hFn.out)
      have gr4 : Gro F _ (upd (upd (upd (upd (upd (fun _ => 0) 6 1) 7 1) 8 1) 11 1) 11 2) := gr3.upd 11 [(⟨g5, CT.length + 2, c5⟩ : Lr)]
      clear hRn hKn hFn
      generalize upd F3 11 (F3 11 ++ [(⟨g5, CT.length + 2, c5⟩ : Lr)]) = F4 at *
      clear T3 gr3
      go_wp2_with fail
      refine hK.out _ _ ?_ (fun hHeld => ?_)
      · (try dsimp only)
        exact ⟨(T4.has (.tail _ (.tail _ (.head _)))).2.1 0, (T4.has (.tail _ (.tail _ (.head _)))).2.1 1, (T4.has (.tail _ (.tail _ (.head _)))).2.1 2, (T4.has (.tail _ (.tail _ (.head _)))).2.1 3, (T4.has (.tail _ (.tail _ (.head _)))).2.1 4, (T4.has (.tail _ (.tail _ (.head _)))).2.1 5, (T4.has (.tail _ (.tail _ (.head _)))).2.1 8⟩
      clear hK K
      (try simp only [Act.put, List.setIfInBounds_toArray, List.set_cons_zero, List.set_cons_succ])
      refine tkY 20 ⟨some 35, .build 31 #[(0, .tmp 16), (7, .tmp 18), (1, .tmp 22), (2, .tmp 26), (3, .tmp 30), (4, .tmp 34)], 31, "room.go:109", #[⟨1, .data⟩, ⟨3, .data⟩, ⟨7, .data⟩, ⟨11, .data⟩, ⟨15, .data⟩, ⟨19, .data⟩], none⟩ ?_ rfl ⟨by rfl, ?_⟩ ?_
      rotate_left
      · intro wz hSz; (try dsimp only at hSz); go_simp; all_goals (with_reducible rfl)
      (try simp only [Act.put, List.setIfInBounds_toArray, List.set_cons_zero, List.set_cons_succ])
      obtain ⟨_, d1, d2⟩ := id (T4.has (.head _))
      refine wpAnyH_ready (rs := [22]) (by kernel_rfl) (by simp) ?_
      refine AllReadyH.cons (o := ⟨none, .store 31 (.tmp 5) (.tmp 35), 0, "room.go:109", #[⟨21, .data⟩, ⟨20, .data⟩, ⟨19, .chain⟩, ⟨0, .phase⟩, ⟨1, .phase⟩, ⟨2, .phase⟩, ⟨3, .phase⟩, ⟨4, .phase⟩, ⟨5, .phase⟩, ⟨6, .phase⟩, ⟨7, .phase⟩, ⟨8, .phase⟩, ⟨9, .phase⟩, ⟨10, .phase⟩, ⟨11, .phase⟩, ⟨12, .phase⟩, ⟨13, .phase⟩, ⟨14, .phase⟩, ⟨15, .phase⟩, ⟨16, .phase⟩, ⟨17, .phase⟩, ⟨18, .phase⟩, ⟨19, .phase⟩, ⟨20, .phase⟩, ⟨21, .phase⟩], none⟩) rfl (fun K hK => ?_) AllReadyH.nil
      have hne : ∀ q ∈ [(N1, (#[.string ⟨#[]⟩, .slice none 0 0, .slice none 0 0, .slice none 0 0, .slice none 0 0, .slice none 0 0, .slice none 0 0, .slice none 0 0, .int .i64 0] : Array Value)), (N, #[.string pn, .slice ga G.length gc, .slice ca C.length cc, .slice da D.length dc, .slice ta TM.length tc, .slice ka CT.length kc, .slice va nV vc, .slice sa nS sc, .int .i64 stt])], q.1 ≠ w1.heap.size := by intro q hq; rcases List.mem_cons.1 hq with rfl | hq; exact n1; rw [List.mem_singleton.1 hq]; exact n0
      have E8 := T4.setCells hne [.string pn, .slice (some ⟨g1, 0, none⟩) G.length c1, .slice (some ⟨g2, 0, none⟩) C.length c2, .slice (some ⟨g3, 0, none⟩) D.length c3, .slice (some ⟨g4, 0, none⟩) TM.length c4, .slice (some ⟨g5, 0, none⟩) CT.length c5, .slice none 0 0, .slice none 0 0, .int .i64 stt] rfl
      simp only [World.setCells, Nat.zero_add, Nat.reduceAdd] at E8
      go_simp
      refine hK.out _ _ ?_ (fun hHeld => ?_)
      · (try dsimp only)
        exact ⟨(E8.has (.tail _ (.tail _ (.head _)))).2.1 0, (E8.has (.tail _ (.tail _ (.head _)))).2.1 1, (E8.has (.tail _ (.tail _ (.head _)))).2.1 2, (E8.has (.tail _ (.tail _ (.head _)))).2.1 3, (E8.has (.tail _ (.tail _ (.head _)))).2.1 4, (E8.has (.tail _ (.tail _ (.head _)))).2.1 5, (E8.has (.tail _ (.tail _ (.head _)))).2.1 8⟩
      clear hK K
      (try simp only [Act.put, List.setIfInBounds_toArray, List.set_cons_zero, List.set_cons_succ])
      refine wpAnyH_done (by kernel_rfl) ?_ _
      refine NoPanic.normal ?_
      exact ⟨rfl, _, _, _, w1.heap.size, g1, c1, g2, c2, g3, c3, g4, c4, g5, c5, cap1, cap2, cap3, cap4, cap5, gr4, n1, n0, E8, rfl⟩
  · have U0 : TyS o0 W0 B rb (nxO o X.heap.size 3) (X.drew.alloc (.cells #[.string ⟨#[]⟩, .slice none 0 0, .slice none 0 0, .slice none 0 0, .slice none 0 0, .slice none 0 0, .slice none 0 0, .slice none 0 0, .int .i64 0] 31)) F V ((X.heap.size, #[.string ⟨#[]⟩, .slice none 0 0, .slice none 0 0, .slice none 0 0, .slice none 0 0, .slice none 0 0, .slice none 0 0, .slice none 0 0, .int .i64 0]) :: [(N1, #[.string ⟨#[]⟩, .slice none 0 0, .slice none 0 0, .slice none 0 0, .slice none 0 0, .slice none 0 0, .slice none 0 0, .slice none 0 0, .int .i64 0]), (N, #[.string pn, .slice ga G.length gc, .slice ca C.length cc, .slice da D.length dc, .slice ta TM.length tc, .slice ka CT.length kc, .slice va nV vc, .slice sa nS sc, .int .i64 stt])]) [] := T0.alloc #[.string ⟨#[]⟩, .slice none 0 0, .slice none 0 0, .slice none 0 0, .slice none 0 0, .slice none 0 0, .slice none 0 0, .slice none 0 0, .int .i64 0] 31
    have n1 : N1 ≠ X.heap.size := Nat.ne_of_lt ((T0.has (.head _)).1)
    have n0 : N ≠ X.heap.size := Nat.ne_of_lt ((T0.has (.tail _ (.head _))).1)
    go_simp
    clear T0
    refine hK.out _ _ ?_ (fun hHeld => ?_)
    · (try dsimp only)
      exact ⟨(U0.has (.tail _ (.tail _ (.head _)))).2.1 0, (U0.has (.tail _ (.tail _ (.head _)))).2.1 1, (U0.has (.tail _ (.tail _ (.head _)))).2.1 2, (U0.has (.tail _ (.tail _ (.head _)))).2.1 3, (U0.has (.tail _ (.tail _ (.head _)))).2.1 4, (U0.has (.tail _ (.tail _ (.head _)))).2.1 5, (U0.has (.tail _ (.tail _ (.head _)))).2.1 8⟩
    clear hK K
    (try simp only [Act.put, List.setIfInBounds_toArray, List.set_cons_zero, List.set_cons_succ])
    refine wpAnyH_ready (rs := [7]) (by kernel_rfl) (by simp) ?_
    refine AllReadyH.cons (o := ⟨some 22, .call { callee := Callee.value (.func 24), args := #[.tmp 19, .tmp 21], argTypes := #[33, 25] }, 25, "room.go:109", #[⟨4, .data⟩, ⟨6, .data⟩], none⟩) rfl (fun K hK => ?_) AllReadyH.nil
    go_simp
    go_at_call 24
    refine Calls.mono (roomTables_any G C ga ca gc cc rb _ B _ _ (X.drew.alloc (.cells #[.string ⟨#[]⟩, .slice none 0 0, .slice none 0 0, .slice none 0 0, .slice none 0 0, .slice none 0 0, .slice none 0 0, .slice none 0 0, .int .i64 0] 31)) (hG _ (U0.bel hB ho5)) (hC _ (U0.bel hB ho5)) lG lC U0.rm hb6 hb7) ?_
    rintro e w1 ⟨o1, g1, c1, g2, c2, V1, rfl, hRn, hKn, cap1, cap2, hFn1, hFn2⟩
    have T1 := U0.call (Ps' := [(g1, (cellsF Gp.cs G ++ [.string ⟨#[]⟩, .int .i64 0, .int .i64 4444, .int .i64 0, .int .i64 0, .string ⟨#[]⟩, .int .i64 0, .int .i64 4444, .int .i64 0, .int .i64 0])), (g2, (cellsF Cf.cs C ++ [.int .i64 4444, .int .i64 0, .int .i64 0, .int .i64 0, .int .i64 4444, .int .i64 0, .int .i64 0, .int .i64 0]))]) hRn.out hKn.out (by intro p hp; rcases List.mem_cons.1 hp with rfl | hp; exact hFn1.out; rw [List.mem_singleton.1 hp]; exact hFn2.out)
    have gr1 := Gro.tab F ⟨g1, G.length + 2, c1⟩ ⟨g2, C.length + 2, c2⟩
    clear hRn hKn hFn1 hFn2
    generalize (upd (upd F 6 (F 6 ++ [(⟨g1, G.length + 2, c1⟩ : Lr)])) 7 (F 7 ++ [(⟨g2, C.length + 2, c2⟩ : Lr)])) = F1 at *
    clear U0 gr0
    go_wp2_with fail
    refine hK.out _ _ ?_ (fun hHeld => ?_)
    · (try dsimp only)
      exact ⟨(T1.has (.tail _ (.tail _ (.head _)))).2.1 0, (T1.has (.tail _ (.tail _ (.head _)))).2.1 1, (T1.has (.tail _ (.tail _ (.head _)))).2.1 2, (T1.has (.tail _ (.tail _ (.head _)))).2.1 3, (T1.has (.tail _ (.tail _ (.head _)))).2.1 4, (T1.has (.tail _ (.tail _ (.head _)))).2.1 5, (T1.has (.tail _ (.tail _ (.head _)))).2.1 8⟩
    clear hK K
    (try simp only [Act.put, List.setIfInBounds_toArray, List.set_cons_zero, List.set_cons_succ])
    refine wpAnyH_ready (rs := [11]) (by kernel_rfl) (by simp) ?_
    refine AllReadyH.cons (o := ⟨some 26, .call { callee := Callee.value (.func 25), args := #[.tmp 23, .tmp 25], argTypes := #[33, 26] }, 26, "room.go:109", #[⟨8, .data⟩, ⟨10, .data⟩, ⟨7, .chain⟩], none⟩) rfl (fun K hK => ?_) AllReadyH.nil
    go_simp
    go_at_call 25
    refine Calls.mono (roomDets_any D da dc rb _ B _ _ w1 (hD _ (T1.bel hB ho5)) lD T1.rm (by have h := gr1.len 8; have e : (upd (upd (fun _ => 0) 6 1) 7 1) 8 = 0 := rfl; omega)) ?_
    rintro e w2 ⟨o2, g3, c3, V2, rfl, hRn, hKn, cap3, hFn⟩
    have T2 := T1.call (Ps' := [(g3, (cellsF Dt.cs D ++ [.string ⟨#[]⟩, .bool false, .int .i64 4444, .int .i64 0, .string ⟨#[]⟩, .bool false, .int .i64 4444, .int .i64 0]))]) hRn.out hKn.out (by intro p hp; rw [List.mem_singleton.1 hp]; exact hFn.out)
    have gr2 : Gro F _ (upd (upd (upd (fun _ => 0) 6 1) 7 1) 8 1) := gr1.upd 8 [(⟨g3, D.length + 2, c3⟩ : Lr)]
    clear hRn hKn hFn
    generalize upd F1 8 (F1 8 ++ [(⟨g3, D.length + 2, c3⟩ : Lr)]) = F2 at *
    clear T1 gr1
    go_wp2_with fail
    refine hK.out _ _ ?_ (fun hHeld => ?_)
    · (try dsimp only)
      exact ⟨(T2.has (.tail _ (.tail _ (.head _)))).2.1 0, (T2.has (.tail _ (.tail _ (.head _)))).2.1 1, (T2.has (.tail _ (.tail _ (.head _)))).2.1 2, (T2.has (.tail _ (.tail _ (.head _)))).2.1 3, (T2.has (.tail _ (.tail _ (.head _)))).2.1 4, (T2.has (.tail _ (.tail _ (.head _)))).2.1 5, (T2.has (.tail _ (.tail _ (.head _)))).2.1 8⟩
    clear hK K
    (try simp only [Act.put, List.setIfInBounds_toArray, List.set_cons_zero, List.set_cons_succ])
    refine wpAnyH_ready (rs := [15]) (by kernel_rfl) (by simp) ?_
    refine AllReadyH.cons (o := ⟨some 30, .call { callee := Callee.value (.func 26), args := #[.tmp 27, .tmp 29], argTypes := #[33, 27] }, 27, "room.go:109", #[⟨12, .data⟩, ⟨14, .data⟩, ⟨11, .chain⟩], none⟩) rfl (fun K hK => ?_) AllReadyH.nil
    go_simp
    go_at_call 26
    refine Calls.mono (roomTexts_any TM ta tc rb _ B _ _ w2 (hT _ (T2.bel hB ho5)) lT T2.rm (by have h := gr2.len 11; have e : (upd (upd (upd (fun _ => 0) 6 1) 7 1) 8 1) 11 = 0 := rfl; omega)) ?_
    rintro e w3 ⟨o3, g4, c4, V3, rfl, hRn, hKn, cap4, hFn⟩
    have T3 := T2.call (Ps' := [(g4, (cellsF txC TM ++ [.string ⟨#[114, 111, 111, 109]⟩, .string ⟨#[114, 111, 111, 109]⟩]))]) hRn.out hKn.out (by intro p hp; rw [List.mem_singleton.1 hp]; exact hFn.out)
    have gr3 : Gro F _ (upd (upd (upd (upd (fun _ => 0) 6 1) 7 1) 8 1) 11 1) := gr2.upd 11 [(⟨g4, TM.length + 2, c4⟩ : Lr)]
    clear hRn hKn hFn
    generalize upd F2 11 (F2 11 ++ [(⟨g4, TM.length + 2, c4⟩ : Lr)]) = F3 at *
    clear T2 gr2
    go_wp2_with fail
    refine hK.out _ _ ?_ (fun hHeld => ?_)
    · (try dsimp only)
      exact ⟨(T3.has (.tail _ (.tail _ (.head _)))).2.1 0, (T3.has (.tail _ (.tail _ (.head _)))).2.1 1, (T3.has (.tail _ (.tail _ (.head _)))).2.1 2, (T3.has (.tail _ (.tail _ (.head _)))).2.1 3, (T3.has (.tail _ (.tail _ (.head _)))).2.1 4, (T3.has (.tail _ (.tail _ (.head _)))).2.1 5, (T3.has (.tail _ (.tail _ (.head _)))).2.1 8⟩
    clear hK K
    (try simp only [Act.put, List.setIfInBounds_toArray, List.set_cons_zero, List.set_cons_succ])
    refine wpAnyH_ready (rs := [19]) (by kernel_rfl) (by simp) ?_
    refine AllReadyH.cons (o := ⟨some 34, .call { callee := Callee.value (.func 26), args := #[.tmp 31, .tmp 33], argTypes := #[33, 27] }, 27, "room.go:109", #[⟨16, .data⟩, ⟨18, .data⟩, ⟨15, .chain⟩], none⟩) rfl (fun K hK => ?_) AllReadyH.nil
    go_simp
    go_at_call 26
    refine Calls.mono (roomTexts_any CT ka kc rb _ B _ _ w3 (hCT _ (T3.bel hB ho5)) lCT T3.rm (by have h := gr3.len 11; have e : (upd (upd (upd (upd (fun _ => 0) 6 1) 7 1) 8 1) 11 1) 11 = 1 := rfl; omega)) ?_
    rintro e w4 ⟨o4, g5, c5, V4, rfl, hRn, hKn, cap5, hFn⟩
    have T4 := T3.call (Ps' := [(g5, (cellsF txC CT ++ [.string ⟨#[114, 111, 111, 109]⟩, .string ⟨#[114, 111, 111, 109]⟩]))]) hRn.out hKn.out (by intro p hp; rw [List.mem_singleton.1 hp]; exact hFn.out)
    have gr4 : Gro F _ (upd (upd (upd (upd (upd (fun _ => 0) 6 1) 7 1) 8 1) 11 1) 11 2) := gr3.upd 11 [(⟨g5, CT.length + 2, c5⟩ : Lr)]
    clear hRn hKn hFn
    generalize upd F3 11 (F3 11 ++ [(⟨g5, CT.length + 2, c5⟩ : Lr)]) = F4 at *
    clear T3 gr3
    go_wp2_with fail
    refine hK.out _ _ ?_ (fun hHeld => ?_)
    · (try dsimp only)
      exact ⟨(T4.has (.tail _ (.tail _ (.head _)))).2.1 0, (T4.has (.tail _ (.tail _ (.head _)))).2.1 1, (T4.has (.tail _ (.tail _ (.head _)))).2.1 2, (T4.has (.tail _ (.tail _ (.head _)))).2.1 3, (T4.has (.tail _ (.tail _ (.head _)))).2.1 4, (T4.has (.tail _ (.tail _ (.head _)))).2.1 5, (T4.has (.tail _ (.tail _ (.head _)))).2.1 8⟩
    clear hK K
    (try simp only [Act.put, List.setIfInBounds_toArray, List.set_cons_zero, List.set_cons_succ])
    refine tkY 20 ⟨some 35, .build 31 #[(0, .tmp 16), (7, .tmp 18), (1, .tmp 22), (2, .tmp 26), (3, .tmp 30), (4, .tmp 34)], 31, "room.go:109", #[⟨1, .data⟩, ⟨3, .data⟩, ⟨7, .data⟩, ⟨11, .data⟩, ⟨15, .data⟩, ⟨19, .data⟩], none⟩ ?_ rfl ⟨by rfl, ?_⟩ ?_
    rotate_left
    · intro wz hSz; (try dsimp only at hSz); go_simp; all_goals (with_reducible rfl)
    (try simp only [Act.put, List.setIfInBounds_toArray, List.set_cons_zero, List.set_cons_succ])
    obtain ⟨_, d1, d2⟩ := id (T4.has (.head _))
    refine wpAnyH_ready (rs := [22]) (by kernel_rfl) (by simp) ?_
    refine AllReadyH.cons (o := ⟨none, .store 31 (.tmp 5) (.tmp 35), 0, "room.go:109", #[⟨21, .data⟩, ⟨20, .data⟩, ⟨19, .chain⟩, ⟨0, .phase⟩, ⟨1, .phase⟩, ⟨2, .phase⟩, ⟨3, .phase⟩, ⟨4, .phase⟩, ⟨5, .phase⟩, ⟨6, .phase⟩, ⟨7, .phase⟩, ⟨8, .phase⟩, ⟨9, .phase⟩, ⟨10, .phase⟩, ⟨11, .phase⟩, ⟨12, .phase⟩, ⟨13, .phase⟩, ⟨14, .phase⟩, ⟨15, .phase⟩, ⟨16, .phase⟩, ⟨17, .phase⟩, ⟨18, .phase⟩, ⟨19, .phase⟩, ⟨20, .phase⟩, ⟨21, .phase⟩], none⟩) rfl (fun K hK => ?_) AllReadyH.nil
    have hne : ∀ q ∈ [(N1, (#[.string ⟨#[]⟩, .slice none 0 0, .slice none 0 0, .slice none 0 0, .slice none 0 0, .slice none 0 0, .slice none 0 0, .slice none 0 0, .int .i64 0] : Array Value)), (N, #[.string pn, .slice ga G.length gc, .slice ca C.length cc, .slice da D.length dc, .slice ta TM.length tc, .slice ka CT.length kc, .slice va nV vc, .slice sa nS sc, .int .i64 stt])], q.1 ≠ X.heap.size := by intro q hq; rcases List.mem_cons.1 hq with rfl | hq; exact n1; rw [List.mem_singleton.1 hq]; exact n0
    have E8 := T4.setCells hne [.string pn, .slice (some ⟨g1, 0, none⟩) G.length c1, .slice (some ⟨g2, 0, none⟩) C.length c2, .slice (some ⟨g3, 0, none⟩) D.length c3, .slice (some ⟨g4, 0, none⟩) TM.length c4, .slice (some ⟨g5, 0, none⟩) CT.length c5, .slice none 0 0, .slice none 0 0, .int .i64 stt] rfl
    simp only [World.setCells, Nat.zero_add, Nat.reduceAdd] at E8
    go_simp
    refine hK.out _ _ ?_ (fun hHeld => ?_)
    · (try dsimp only)
      exact ⟨(E8.has (.tail _ (.tail _ (.head _)))).2.1 0, (E8.has (.tail _ (.tail _ (.head _)))).2.1 1, (E8.has (.tail _ (.tail _ (.head _)))).2.1 2, (E8.has (.tail _ (.tail _ (.head _)))).2.1 3, (E8.has (.tail _ (.tail _ (.head _)))).2.1 4, (E8.has (.tail _ (.tail _ (.head _)))).2.1 5, (E8.has (.tail _ (.tail _ (.head _)))).2.1 8⟩
    clear hK K
    (try simp only [Act.put, List.setIfInBounds_toArray, List.set_cons_zero, List.set_cons_succ])
    refine wpAnyH_done (by kernel_rfl) ?_ _
    refine NoPanic.normal ?_
    exact ⟨rfl, _, _, _, X.heap.size, g1, c1, g2, c2, g3, c3, g4, c4, g5, c5, cap1, cap2, cap3, cap4, cap5, gr4, n1, n0, E8, rfl⟩
end Go.Proofs.YtnicolaphmffkaaGreatDoor
