import Derived.Test.YtkeoebllblbkgaaGreatDoorTpG
namespace Go.Proofs.YtkeoebllblbkgaaGreatDoor
open Go.RowKit
set_option linter.unusedVariables false
set_option linter.unusedSimpArgs false

theorem lib_app (l m : List UInt8) : Lib.byteCells (l ++ m) = Lib.byteCells l ++ Lib.byteCells m := by unfold Lib.byteCells; simp
theorem libCells (x : ByteArray) : byteCells x = Lib.byteCells x.data.toList := rfl
/-- What a line writes. -/
def lnF (ws : List (List UInt8)) : List UInt8 := Lib.join ws [32] ++ [10]
set_option maxRecDepth 100000 in
set_option maxHeartbeats 4000000 in
theorem line_any (B b g c : Nat) (T : List UInt8) (xs : List ByteArray) (w : World) (hI : Lib.IsBuilder 55 5 B b (Lib.byteCells T) w) (hB : B ≤ w.heap.size) (hT : T.length ≤ 1000000000) (hg : g < w.heap.size) (hc : ∀ (j : Nat) x, xs[j]? = some x → w.cell? ⟨g, j, none⟩ = some (.string x)) (hn : xs.length ≤ 10) (hcap : xs.length ≤ c) (hl : (Lib.join (xs.map (·.data.toList)) [32]).length ≤ 1000000) :
    Calls Tryz.prog 10 #[.pointer (some ⟨b, 0, none⟩), .slice (some ⟨g, 0, none⟩) xs.length c] w fun e w' => e = .returned (.tuple #[]) ∧ Lib.IsBuilder 55 5 B b (Lib.byteCells (T ++ lnF (xs.map (·.data.toList)))) w' ∧ Below B w w' ∧ Stay w w' := by
  have hj := Tryz.strings_Join g 0 c xs ⟨#[32]⟩ w.drew (fun j x hx => by rw [Nat.zero_add]; exact hc j x hx) hg (by omega) hcap (by show (Lib.join (xs.map (·.data.toList)) [32]).length ≤ _; omega)
  have hI' : Hid (Lib.IsBuilder 55 5 B b (Lib.byteCells T) w) := hI
  have hT2 : (Lib.byteCells T).length = T.length := Lib.byteCells_length T
  have hE : Hid (Lib.byteCells (T ++ lnF (xs.map (·.data.toList))) = (Lib.byteCells T ++ byteCells ⟨(Lib.join (xs.map (·.data.toList)) [32]).toArray⟩) ++ [.int .u8 10]) := by
    show _ = _
    unfold lnF
    rw [lib_app, lib_app, libCells, ← List.append_assoc]
    rfl
  have hsz : (⟨(Lib.join (xs.map (·.data.toList)) [32]).toArray⟩ : ByteArray).size ≤ 1000000 := by show Array.size _ ≤ _; rw [List.size_toArray]; exact hl
  have hjs : (⟨(Lib.join (xs.map (·.data.toList)) (⟨#[32]⟩ : ByteArray).data.toList).toArray⟩ : ByteArray) = ⟨(Lib.join (xs.map (·.data.toList)) [32]).toArray⟩ := rfl
  rw [hjs] at hj
  clear hjs hI hl
  rw [hE.out]
  clear hE
  generalize (⟨(Lib.join (xs.map (·.data.toList)) [32]).toArray⟩ : ByteArray) = y at *
  go_enter Tryz.func10, Tryz.ntmps10
  go_wp2_with fail
  refine wp_region_noPanic ?_
  refine wp_region_held_drew (S := fun w' => True) (by kernel_rfl) ?_ (fun hHeld => ?_)
  · (try dsimp only)
    all_goals trivial
  refine wpAnyH_take (i := 0) (oi := { dst := some 4, op := Op.move (Operand.tmp 0), type := 63, pos := "print.go:39", after := #[], guard := none }) (v := ?_) rfl (by kernel_rfl) (by kernel_rfl) (by kernel_rfl) (fun _ _ _ h => h) (Or.inl ⟨by rfl, ?_⟩) (by assumption) ?_
  rotate_left
  · intro wz hSz; (try dsimp only at hSz); go_simp; all_goals (with_reducible rfl)
  (try simp only [Act.put, List.setIfInBounds_toArray, List.set_cons_zero, List.set_cons_succ])
  refine wpAnyH_take (i := 1) (oi := { dst := some 5, op := Op.nilCheck (Operand.tmp 4), type := 0, pos := "print.go:39", after := #[{ on := 0, ground := Ground.data }], guard := none }) (v := ?_) rfl (by kernel_rfl) (by kernel_rfl) (by kernel_rfl) (fun _ _ _ h => h) (Or.inl ⟨by rfl, ?_⟩) (by assumption) ?_
  rotate_left
  · intro wz hSz; (try dsimp only at hSz); go_simp; all_goals (with_reducible rfl)
  (try simp only [Act.put, List.setIfInBounds_toArray, List.set_cons_zero, List.set_cons_succ])
  refine wpAnyH_take (i := 2) (oi := { dst := some 6, op := Op.fieldAddr 55 (Operand.tmp 5) 0, type := 0, pos := "print.go:39", after := #[{ on := 1, ground := Ground.data }], guard := none }) (v := ?_) rfl (by kernel_rfl) (by kernel_rfl) (by kernel_rfl) (fun _ _ _ h => h) (Or.inl ⟨by rfl, ?_⟩) (by assumption) ?_
  rotate_left
  · intro wz hSz; (try dsimp only at hSz); go_simp; all_goals (with_reducible rfl)
  (try simp only [Act.put, List.setIfInBounds_toArray, List.set_cons_zero, List.set_cons_succ])
  refine wpAnyH_take (i := 3) (oi := { dst := some 7, op := Op.move (Operand.tmp 1), type := 64, pos := "print.go:39", after := #[], guard := none }) (v := ?_) rfl (by kernel_rfl) (by kernel_rfl) (by kernel_rfl) (fun _ _ _ h => h) (Or.inl ⟨by rfl, ?_⟩) (by assumption) ?_
  rotate_left
  · intro wz hSz; (try dsimp only at hSz); go_simp; all_goals (with_reducible rfl)
  (try simp only [Act.put, List.setIfInBounds_toArray, List.set_cons_zero, List.set_cons_succ])
  refine wpAnyH_ready (rs := [4]) (by kernel_rfl) (by simp) ?_
  refine AllReadyH.cons (o := { dst := some 8, op := Op.call { callee := Callee.value (Operand.func 38), args := #[Operand.tmp 7, Operand.const (Value.string { data := #[32] })], argTypes := #[64, 9] }, type := 9, pos := "print.go:39", after := #[{ on := 3, ground := Ground.data }], guard := none }) rfl (fun K hK => ?_) AllReadyH.nil
  go_simp
  go_at_call 38
  (with_reducible refine hj.mono ?_)
  rintro e w1 ⟨rfl, hb1⟩
  have hb1' : Below w.heap.size w w1 := bel_after ((Below.refl w.heap.size w).drew) (Nat.le_refl _) hb1
  have hz1 := hb1'.size
  go_wp2_with fail
  refine hK.out _ _ ?_ (fun hHeld => ?_)
  · (try dsimp only)
    all_goals trivial
  clear hK K
  (try simp only [Act.put, List.setIfInBounds_toArray, List.set_cons_zero, List.set_cons_succ])
  refine wpAnyH_ready (rs := [5]) (by kernel_rfl) (by simp) ?_
  refine AllReadyH.cons (o := { dst := some 9, op := Op.call { callee := Callee.value (Operand.func 37), args := #[Operand.tmp 6, Operand.tmp 8], argTypes := #[53, 9] }, type := 67, pos := "print.go:39", after := #[{ on := 2, ground := Ground.data }, { on := 4, ground := Ground.data }, { on := 4, ground := Ground.chain }], guard := none }) rfl (fun K hK => ?_) AllReadyH.nil
  go_simp
  go_at_call 37
  (with_reducible refine (writeString_any B b (Lib.byteCells T) y w1 (isB_below hI'.out hb1') (by rw [hT2]; omega) (by omega)).mono ?_)
  rintro e w2 ⟨rfl, hw2, hb2, hs2⟩
  have hI2 : Lib.IsBuilder 55 5 B b (Lib.byteCells T ++ byteCells y) w2 := Or.inr hw2
  go_wp2_with fail
  refine hK.out _ _ ?_ (fun hHeld => ?_)
  · (try dsimp only)
    all_goals trivial
  clear hK K
  (try simp only [Act.put, List.setIfInBounds_toArray, List.set_cons_zero, List.set_cons_succ])
  refine wpAnyH_done (by kernel_rfl) ?_ _
  refine NoPanic.normal ?_
  go_wp2_with (go_loud (go_at_call 39; (with_reducible refine (writeByte_any B b (Lib.byteCells T ++ byteCells y) 10 w2 hI2 (by rw [List.length_append, hT2, byteCells_length]; omega) (by have h2 := hb2.size; omega)).mono ?_); rintro e w3 ⟨rfl, hw3, hb3, hs3⟩))
  go_end0
  exact ⟨rfl, Or.inr hw3, ((hb1'.mono hB).trans hb2).trans hb3, ((Stay.below hb1').trans hs2).trans hs3⟩
end Go.Proofs.YtkeoebllblbkgaaGreatDoor
