import Derived.Test.YtkeoebllblbkgaaGreatDoorTbC
namespace Go.Proofs.YtkeoebllblbkgaaGreatDoor
open Go.RowKit
set_option linter.unusedVariables false
set_option linter.unusedSimpArgs false

theorem Fl.ln {α : Type} {sz : Nat} {cs : α → List Value} {w : World} {a : Option Addr} {c : Nat} {L : List α} (h : Fl sz cs w (.slice a L.length c) L) : L = [] ∨ ∃ g o, a = some ⟨g, o, none⟩ ∧ g < w.heap.size ∧ ∀ (i : Nat) (h : i < L.length) (j : Nat) (u : Value), (cs L[i])[j]? = some u → w.cell? ⟨g, o + i * sz + j, none⟩ = some u := by
  obtain ⟨a', c', e, k⟩ := h.any
  injection e with e1 e2 e3
  subst e1
  exact k
set_option maxRecDepth 100000 in
set_option maxHeartbeats 4000000 in
theorem k79 (x : Dk) (w : World) (hr : Fl 2 Rw.cs w x.rv x.rows) (hl : x.rows.length ≤ 8796093021952) : Calls Tryz.prog 70 #[.agg #[.string x.name, x.rv]] w fun e w' => e = .returned (.bool (riB (x.rows.map (·.m)))) ∧ Below w.heap.size w w' := by
  obtain ⟨m, p, r⟩ := x
  dsimp only at *
  obtain ⟨a, c, rfl, k⟩ := (hr.below (bel1 (o := .cells #[.string m, p] 41))).any
  have c1 := riseR r a c (w.alloc (.cells #[.string m, .slice a r.length c] 41)) k hl
  clear k hr
  generalize riB (r.map (·.m)) = R at *
  go_enter Tryz.func70, Tryz.ntmps70
  go_wp2_with (go_at_call 71; (with_reducible refine c1.mono ?_); rintro e w1 ⟨rfl, hb⟩)
  go_ret
  exact ⟨rfl, belT bel1 hb⟩
set_option maxRecDepth 100000 in
set_option maxHeartbeats 4000000 in
theorem k78 (n : Nat) (a : Option Addr) (c q tb : Nat) (x : Ex) (w : World) (hq : w.cell? ⟨q, 0, none⟩ = some (.func (.func 66) #[] #[.pointer (some ⟨tb, 0, none⟩)])) (h1 : w.cell? ⟨tb, 1, none⟩ = some (.slice a n c)) (hn : n ≤ 3518437208781) : Calls Tryz.prog 69 #[.agg #[.int .i64 x.day, .int .i64 x.kind], .pointer (some ⟨q, 0, none⟩)] w fun e w' => e = .returned (.bool (kdB n x.kind)) ∧ Below w.heap.size w w' := by
  have c1 := k75 n a c tb x.kind (w.alloc (.cells #[.int .i64 x.day, .int .i64 x.kind] 47)) ((bel1.cell (p := ⟨tb, 1, none⟩) (cell_ltF h1)).trans h1) hn
  have hl := cell_ltF hq
  generalize kdB n x.kind = R at *
  obtain ⟨d, k⟩ := x
  dsimp only at *
  go_enter Tryz.func69, Tryz.ntmps69
  go_wp2_with (go_at_call 66; (with_reducible refine c1.mono ?_); rintro e w1 ⟨rfl, hb⟩)
  go_ret
  exact ⟨rfl, belT bel1 hb⟩
set_option maxRecDepth 100000 in
set_option maxHeartbeats 4000000 in
theorem k77 (n : Nat) (a : Option Addr) (c q tb : Nat) (x : Sn) (w : World) (hq : w.cell? ⟨q, 0, none⟩ = some (.func (.func 66) #[] #[.pointer (some ⟨tb, 0, none⟩)])) (h1 : w.cell? ⟨tb, 1, none⟩ = some (.slice a n c)) (hn : n ≤ 3518437208781) : Calls Tryz.prog 68 #[.agg #[.int .i64 x.fr, .int .i64 x.till, .int .i64 x.w0, .int .i64 x.w1, .int .i64 x.w2, .int .i64 x.w3, .int .i64 x.w4, .int .i64 x.w5, .int .i64 x.w6], .pointer (some ⟨q, 0, none⟩)] w fun e w' => e = .returned (.bool (x.wk.all (kdB n))) ∧ Below w.heap.size w w' := by
  obtain ⟨x0, x1, x2, x3, x4, x5, x6, x7, x8⟩ := x
  dsimp only at *
  have hl := cell_ltF hq
  have hq1 : (w.alloc (.cells #[.int .i64 x0, .int .i64 x1, .int .i64 x2, .int .i64 x3, .int .i64 x4, .int .i64 x5, .int .i64 x6, .int .i64 x7, .int .i64 x8] 45)).cell? ⟨q, 0, none⟩ = some (.func (.func 66) #[] #[.pointer (some ⟨tb, 0, none⟩)]) := (bel1.cell (p := ⟨q, 0, none⟩) hl).trans hq
  have c1 : ∀ W, Below (w.alloc (.cells #[.int .i64 x0, .int .i64 x1, .int .i64 x2, .int .i64 x3, .int .i64 x4, .int .i64 x5, .int .i64 x6, .int .i64 x7, .int .i64 x8] 45)).heap.size (w.alloc (.cells #[.int .i64 x0, .int .i64 x1, .int .i64 x2, .int .i64 x3, .int .i64 x4, .int .i64 x5, .int .i64 x6, .int .i64 x7, .int .i64 x8] 45)) W → Calls Tryz.prog 67 #[.slice (some ⟨w.heap.size, 2, none⟩) 7 7, .func (.func 66) #[] #[.pointer (some ⟨tb, 0, none⟩)]] W fun e w' => e = .returned (.bool (Sn.wk ⟨x0, x1, x2, x3, x4, x5, x6, x7, x8⟩ |>.all (kdB n))) ∧ Below W.heap.size W w' := by
    intro W hW
    refine allI75 (Sn.wk ⟨x0, x1, x2, x3, x4, x5, x6, x7, x8⟩) (some ⟨w.heap.size, 2, none⟩) 7 tb (kdB n) W (.inr ⟨w.heap.size, 2, rfl, by have := hW.size; simp at this; omega, ?_⟩) (by simp [Sn.wk]) (fun W2 hW2 i hi => k75 n a c tb _ W2 ?_ hn)
    · intro i hi j u hu
      rw [hW.cell (p := ⟨w.heap.size, _, none⟩) (by simp), (Has.new w #[.int .i64 x0, .int .i64 x1, .int .i64 x2, .int .i64 x3, .int .i64 x4, .int .i64 x5, .int .i64 x6, .int .i64 x7, .int .i64 x8] 45 rfl).2.1]
      have hi' : i < 7 := hi
      have hj : j = 0 := by
        have := (List.getElem?_eq_some_iff.1 hu).1
        simp [Int.cs] at this; exact this
      subst hj
      rw [← hu]
      rcases (show i = 0 ∨ i = 1 ∨ i = 2 ∨ i = 3 ∨ i = 4 ∨ i = 5 ∨ i = 6 by omega) with rfl | rfl | rfl | rfl | rfl | rfl | rfl <;> rfl
    · have e1 := cell_ltF h1
      rw [hW2.cell (p := ⟨tb, 1, none⟩) (by have := hW.size; simp at this; show tb < _; omega), hW.cell (p := ⟨tb, 1, none⟩) (by simp; omega)]
      exact (bel1.cell (p := ⟨tb, 1, none⟩) e1).trans h1
  generalize (Sn.wk ⟨x0, x1, x2, x3, x4, x5, x6, x7, x8⟩).all (kdB n) = R at *
  go_enter Tryz.func68, Tryz.ntmps68
  go_wp2_with fail
  refine wp_region_noPanic ?_
  refine wp_region_held_drew (S := fun w' => Below (w.alloc (.cells #[.int .i64 x0, .int .i64 x1, .int .i64 x2, .int .i64 x3, .int .i64 x4, .int .i64 x5, .int .i64 x6, .int .i64 x7, .int .i64 x8] 45)).heap.size (w.alloc (.cells #[.int .i64 x0, .int .i64 x1, .int .i64 x2, .int .i64 x3, .int .i64 x4, .int .i64 x5, .int .i64 x6, .int .i64 x7, .int .i64 x8] 45)) w' ∧ w'.cell? ⟨q, 0, none⟩ = some (.func (.func 66) #[] #[.pointer (some ⟨tb, 0, none⟩)])) (by kernel_rfl) ?_ (fun hHeld => ?_)
  · (try dsimp only)
    exact ⟨(Below.refl _ _).drew, hq1⟩
  refine wpAnyH_take (i := 0) (oi := { dst := some 4, op := Op.fieldAddr 45 (Operand.tmp 2) 2, type := 0, pos := "sound.go:75", after := #[], guard := none }) (v := ?_) rfl (by kernel_rfl) (by kernel_rfl) (by kernel_rfl) (fun _ _ _ h => h) (Or.inl ⟨by rfl, ?_⟩) (by assumption) ?_
  rotate_left
  · intro wz hSz; (try dsimp only at hSz); go_simp; all_goals (with_reducible rfl)
  (try simp only [Act.put, List.setIfInBounds_toArray, List.set_cons_zero, List.set_cons_succ])
  refine wpAnyH_take (i := 1) (oi := { dst := some 5, op := Op.slice 23 (Operand.tmp 4) none none none, type := 92, pos := "sound.go:75", after := #[{ on := 0, ground := Ground.data }], guard := none }) (v := ?_) rfl (by kernel_rfl) (by kernel_rfl) (by kernel_rfl) (fun _ _ _ h => h) (Or.inl ⟨by rfl, ?_⟩) (by assumption) ?_
  rotate_left
  · intro wz hSz; (try dsimp only at hSz); go_simp; all_goals (with_reducible rfl)
  (try simp only [Act.put, List.setIfInBounds_toArray, List.set_cons_zero, List.set_cons_succ])
  refine wpAnyH_take (i := 2) (oi := { dst := some 6, op := Op.load 85 (Operand.tmp 1), type := 85, pos := "sound.go:75", after := #[], guard := none }) (v := ?_) rfl (by kernel_rfl) (by kernel_rfl) (by kernel_rfl) (fun _ _ _ h => h) (Or.inl ⟨by rfl, ?_⟩) (by assumption) ?_
  rotate_left
  · intro wz hSz; (try dsimp only at hSz); go_simp; all_goals (with_reducible rfl)
  (try simp only [Act.put, List.setIfInBounds_toArray, List.set_cons_zero, List.set_cons_succ])
  refine wpAnyH_ready (rs := [3]) (by kernel_rfl) (by simp) ?_
  refine AllReadyH.cons (o := { dst := some 7, op := Op.call { callee := Callee.value (Operand.func 67), args := #[Operand.tmp 5, Operand.tmp 6], argTypes := #[92, 85] }, type := 4, pos := "sound.go:75", after := #[{ on := 1, ground := Ground.data }, { on := 2, ground := Ground.data }], guard := none }) rfl (fun K hK => ?_) AllReadyH.nil
  go_simp
  go_at_call 67
  (with_reducible refine (c1 _ hHeld.1).mono ?_)
  rintro e w1 ⟨rfl, hb1⟩
  go_wp2_with fail
  refine hK.out _ _ ?_ (fun hHeld => ?_)
  · (try dsimp only)
    exact ⟨belT hHeld.1 hb1, (hb1.cell (p := ⟨q, _, none⟩) (by have := hHeld.1.size; simp at this; show q < _; first | omega | (simp; omega))).trans hHeld.2⟩
  clear hK K
  (try simp only [Act.put, List.setIfInBounds_toArray, List.set_cons_zero, List.set_cons_succ])
  refine wpAnyH_take (i := 4) (oi := { dst := some 3, op := Op.assign (Operand.tmp 7), type := 4, pos := "sound.go:75", after := #[{ on := 3, ground := Ground.data }, { on := 3, ground := Ground.chain }, { on := 0, ground := Ground.phase }, { on := 1, ground := Ground.phase }, { on := 2, ground := Ground.phase }, { on := 3, ground := Ground.phase }], guard := none }) (v := ?_) rfl (by kernel_rfl) (by kernel_rfl) (by kernel_rfl) (fun _ _ _ h => h) (Or.inl ⟨by rfl, ?_⟩) (by assumption) ?_
  rotate_left
  · intro wz hSz; (try dsimp only at hSz); go_simp; all_goals (with_reducible rfl)
  (try simp only [Act.put, List.setIfInBounds_toArray, List.set_cons_zero, List.set_cons_succ])
  refine wpAnyH_done (by kernel_rfl) ?_ _
  refine NoPanic.normal ?_
  go_wp2_with fail
  go_ret
  exact ⟨rfl, by first | exact belT bel1 hHeld.1 | exact (belT bel1 hHeld.1).drew⟩
end Go.Proofs.YtkeoebllblbkgaaGreatDoor
