import Derived.Test.YtkeoebllblbkgaaGreatDoorTpF
import Derived.Test.YtkeoebllblbkgaaGreatDoorTbE
namespace Go.Proofs.YtkeoebllblbkgaaGreatDoor
open Go.RowKit
set_option linter.unusedVariables false
set_option linter.unusedSimpArgs false

/-- A kind's name. -/
def nmA (D : List Dk) (x : Int) : ByteArray := match D[x.toNat]? with | some d => d.name | none => ⟨#[]⟩
def nmL (D : List Dk) (x : Int) : List UInt8 := (nmA D x).data.toList
def wkF (D : List Dk) (X : List Int) : List UInt8 := (X.map fun x => 32 :: nmL D x).flatten
theorem wk_join (D : List Dk) (x : Int) (X : List Int) : 32 :: Lib.join ((x :: X).map (nmL D)) [32] = wkF D (x :: X) := by
  rw [List.map_cons, Lib.join_cons]
  unfold wkF Lib.joinTail
  simp [List.map_map, Function.comp_def]
theorem wk_step (D : List Dk) (X : List Int) (k : Nat) (h : k < X.length) : wkF D (X.take (k + 1)) = wkF D (X.take k) ++ ([32] ++ nmL D X[k]) := by
  unfold wkF
  rw [List.take_succ_eq_append_getElem h, List.map_append, List.flatten_append]
  simp only [List.map_cons, List.map_nil, List.flatten_cons, List.flatten_nil, List.append_nil]
  rfl
theorem bs_list (x : ByteArray) : bs x.data.toList = x := by apply WideShapes.bytes_inj; unfold bs; simp
/-- A kind's name as it is read. -/
theorem nm_at {D : List Dk} {w : World} {a : Option Addr} {c : Nat} (h : Fl 2 Dk.cs w (.slice a D.length c) D) (x : Int) (h0 : 0 ≤ x) (h1 : x < (D.length : Int)) : ∃ g o, a = some ⟨g, o, none⟩ ∧ g < w.heap.size ∧ w.cell? ⟨g, o + x.toNat * 2, none⟩ = some (.string (nmA D x)) := by
  have hlt : x.toNat < D.length := by omega
  obtain ⟨g, o, e, hg, P⟩ := (h.ln).resolve_left (by intro e; rw [e] at hlt; simp at hlt)
  refine ⟨g, o, e, hg, ?_⟩
  have := P x.toNat hlt 0 _ rfl
  rw [Nat.add_zero] at this
  rw [this]
  unfold nmA
  rw [List.getElem?_eq_getElem hlt]
theorem cells7 {w : World} {b : Nat} {x0 x1 x2 x3 x4 x5 x6 : Int} (h : Has w b #[.int .i64 x0, .int .i64 x1, .int .i64 x2, .int .i64 x3, .int .i64 x4, .int .i64 x5, .int .i64 x6]) : ∀ (i : Nat) (hi : i < [x0, x1, x2, x3, x4, x5, x6].length), w.cell? ⟨b, i, none⟩ = some (.int .i64 [x0, x1, x2, x3, x4, x5, x6][i]) := by
  intro i hi
  rw [h.2.1]
  have hi' : i < 7 := hi
  rcases (show i = 0 ∨ i = 1 ∨ i = 2 ∨ i = 3 ∨ i = 4 ∨ i = 5 ∨ i = 6 by omega) with rfl | rfl | rfl | rfl | rfl | rfl | rfl <;> rfl
set_option maxRecDepth 100000 in
set_option maxHeartbeats 4000000 in
theorem weekly_any (t : Tt) (aD aS aX aH : Option Addr) (cD cS cX cH : Nat) (w : World) (hR : TR w t (.slice aD t.D.length cD) (.slice aS t.S.length cS) (.slice aX t.X.length cX) (.slice aH t.H.length cH)) (x0 x1 x2 x3 x4 x5 x6 : Int) (hx : ∀ x ∈ [x0, x1, x2, x3, x4, x5, x6], 0 ≤ x ∧ x < (t.D.length : Int) ∧ (nmA t.D x).size ≤ 32) : Calls Tryz.prog 19 #[.agg #[.string t.nm, .slice aD t.D.length cD, .int .i64 t.w0, .int .i64 t.w1, .int .i64 t.w2, .int .i64 t.w3, .int .i64 t.w4, .int .i64 t.w5, .int .i64 t.w6, .slice aS t.S.length cS, .slice aX t.X.length cX, .slice aH t.H.length cH], .agg #[.int .i64 x0, .int .i64 x1, .int .i64 x2, .int .i64 x3, .int .i64 x4, .int .i64 x5, .int .i64 x6]] w fun e w' => e = .returned (.string (bs (wkF t.D [x0, x1, x2, x3, x4, x5, x6]))) ∧ Below w.heap.size w w' := by
  have hd := hR.d
  clear hR
  have HB : Has ((w.alloc (.cells #[.string t.nm, .slice aD t.D.length cD, .int .i64 t.w0, .int .i64 t.w1, .int .i64 t.w2, .int .i64 t.w3, .int .i64 t.w4, .int .i64 t.w5, .int .i64 t.w6, .slice aS t.S.length cS, .slice aX t.X.length cX, .slice aH t.H.length cH] 28)).alloc (.cells #[.int .i64 x0, .int .i64 x1, .int .i64 x2, .int .i64 x3, .int .i64 x4, .int .i64 x5, .int .i64 x6] 23)) w.heap.size #[.string t.nm, .slice aD t.D.length cD, .int .i64 t.w0, .int .i64 t.w1, .int .i64 t.w2, .int .i64 t.w3, .int .i64 t.w4, .int .i64 t.w5, .int .i64 t.w6, .slice aS t.S.length cS, .slice aX t.X.length cX, .slice aH t.H.length cH] := (Has.new _ _ _ rfl).alloc _
  have HW := cells7 (Has.new (w.alloc (.cells #[.string t.nm, .slice aD t.D.length cD, .int .i64 t.w0, .int .i64 t.w1, .int .i64 t.w2, .int .i64 t.w3, .int .i64 t.w4, .int .i64 t.w5, .int .i64 t.w6, .slice aS t.S.length cS, .slice aX t.X.length cX, .slice aH t.H.length cH] 28)) #[.int .i64 x0, .int .i64 x1, .int .i64 x2, .int .i64 x3, .int .i64 x4, .int .i64 x5, .int .i64 x6] 23 (b := w.heap.size + 1) (by simp))
  have HL : Below w.heap.size w ((w.alloc (.cells #[.string t.nm, .slice aD t.D.length cD, .int .i64 t.w0, .int .i64 t.w1, .int .i64 t.w2, .int .i64 t.w3, .int .i64 t.w4, .int .i64 t.w5, .int .i64 t.w6, .slice aS t.S.length cS, .slice aX t.X.length cX, .slice aH t.H.length cH] 28)).alloc (.cells #[.int .i64 x0, .int .i64 x1, .int .i64 x2, .int .i64 x3, .int .i64 x4, .int .i64 x5, .int .i64 x6] 23)) := ((Below.refl _ _).alloc (Nat.le_refl _) _).alloc (by simp) _
  obtain ⟨X, hX⟩ : ∃ X : List Int, X = [x0, x1, x2, x3, x4, x5, x6] := ⟨_, rfl⟩
  have hX7 : X.length = 7 := by rw [hX]; rfl
  rw [← hX] at hx ⊢
  have HW' : Hid (∀ (i : Nat) (hi : i < X.length), ((w.alloc (.cells #[.string t.nm, .slice aD t.D.length cD, .int .i64 t.w0, .int .i64 t.w1, .int .i64 t.w2, .int .i64 t.w3, .int .i64 t.w4, .int .i64 t.w5, .int .i64 t.w6, .slice aS t.S.length cS, .slice aX t.X.length cX, .slice aH t.H.length cH] 28)).alloc (.cells #[.int .i64 x0, .int .i64 x1, .int .i64 x2, .int .i64 x3, .int .i64 x4, .int .i64 x5, .int .i64 x6] 23)).cell? ⟨w.heap.size + 1, i, none⟩ = some (.int .i64 X[i])) := by subst hX; exact HW
  have hX7' : Hid (X.length = 7) := hX7
  have hx' : Hid (∀ x ∈ X, 0 ≤ x ∧ x < (t.D.length : Int) ∧ (nmA t.D x).size ≤ 32) := hx
  have hd' : Hid (Fl 2 Dk.cs w (.slice aD t.D.length cD) t.D) := hd
  clear HW hX hX7 hx hd
  go_enter Tryz.func19, Tryz.ntmps19
  go_wp2_with fail
  generalize ((w.alloc (.cells #[.string t.nm, .slice aD t.D.length cD, .int .i64 t.w0, .int .i64 t.w1, .int .i64 t.w2, .int .i64 t.w3, .int .i64 t.w4, .int .i64 t.w5, .int .i64 t.w6, .slice aS t.S.length cS, .slice aX t.X.length cX, .slice aH t.H.length cH] 28)).alloc (.cells #[.int .i64 x0, .int .i64 x1, .int .i64 x2, .int .i64 x3, .int .i64 x4, .int .i64 x5, .int .i64 x6] 23)) = Y at *
  go_loopg [5, 6] 7 (fun gk s5 s6 wr => ∃ k : Nat, k + gk = 7 ∧ s6 = .int .i64 (k : Int) ∧ s5 = .string (bs (wkF t.D (X.take k))) ∧ (bs (wkF t.D (X.take k))).size ≤ 33 * k ∧ Hid (Below Y.heap.size Y wr))
  case atStart => exact ⟨0, by omega, rfl, rfl, (by show 0 ≤ _; omega), Below.refl _ _⟩
  case round =>
    obtain ⟨k, hk, rfl, rfl, hsz, hb⟩ := hrel
    have t0 : (0 : Int) ≤ (k : Int) := by omega
    by_cases hlt : k < 7
    · have t1 : (k : Int) < 7 := by omega
      have hkX : k < X.length := by rw [hX7'.out]; exact hlt
      obtain ⟨q0, q1, q2⟩ := hx'.out _ (List.getElem_mem hkX)
      obtain ⟨g, o, rfl, hg, pN⟩ := nm_at hd'.out X[k] q0 q1
      have pW := (hb.out.cell (p := ⟨w.heap.size + 1, k, none⟩) (cell_ltF (HW'.out k hkX))).trans (HW'.out k hkX)
      have hst : Hid (bs (wkF t.D (X.take k)) ++ (⟨#[32]⟩ : ByteArray) ++ nmA t.D X[k] = bs (wkF t.D (X.take (k + 1)))) := by
        show _ = _
        rw [wk_step t.D X k hkX, show (⟨#[32]⟩ : ByteArray) = bs [32] from rfl, ← bs_list (nmA t.D X[k]), bs_app, bs_app, List.append_assoc]; rfl
      have hgY : g < Y.heap.size := Nat.lt_of_lt_of_le hg HL.size
      have pN' := ((hb.out.cell (p := ⟨g, _, none⟩) hgY).trans (HL.cell (p := ⟨g, _, none⟩) hg)).trans pN
      have pB := (HB.below hb.out).2.1 1
      have hn2 : Hid ((bs (wkF t.D (X.take (k + 1)))).size ≤ 33 * (k + 1)) := by show _ ≤ _; rw [← hst.out]; simp only [ByteArray.size_append]; have : (⟨#[32]⟩ : ByteArray).size = 1 := rfl; omega
      generalize nmA t.D X[k] = nm at *
      generalize X[k] = xk at *
      obtain ⟨J, rfl⟩ : ∃ J : Nat, xk = (J : Int) := ⟨xk.toNat, by omega⟩
      rw [Int.toNat_natCast] at pN'
      generalize bs (wkF t.D (X.take k)) = y at *
      have g1 : ¬ 9223372036854775807 < y.size + 1 := by omega
      have g2 : ¬ 9223372036854775807 < y.size + 1 + nm.size := by omega
      go_wp2_with fail
      refine wp_region_noPanic ?_
      refine wp_region_held_drew (S := fun w' => w'.cell? ⟨w.heap.size, 1, none⟩ = some (.slice (some ⟨g, o, none⟩) t.D.length cD) ∧ w'.cell? ⟨w.heap.size + 1, k, none⟩ = some (.int .i64 (J : Int)) ∧ w'.cell? ⟨g, o + J * 2, none⟩ = some (.string nm)) (by kernel_rfl) ?_ (fun hHeld => ?_)
      · (try dsimp only)
        exact ⟨pB, pW, pN'⟩
      refine wpAnyH_take (i := 0) (oi := { dst := some 11, op := Op.move (Operand.tmp 5), type := 9, pos := "text.go:360", after := #[], guard := none }) (v := ?_) rfl (by kernel_rfl) (by kernel_rfl) (by kernel_rfl) (fun _ _ _ h => h) (Or.inl ⟨by rfl, ?_⟩) (by assumption) ?_
      rotate_left
      · intro wz hSz; (try dsimp only at hSz); go_simp; all_goals (with_reducible rfl)
      (try simp only [Act.put, List.setIfInBounds_toArray, List.set_cons_zero, List.set_cons_succ])
      refine wpAnyH_take (i := 1) (oi := { dst := some 12, op := Op.binOp BinOp.add 9 (Operand.tmp 11) (Operand.const (Value.string { data := #[32] })) 9, type := 9, pos := "text.go:360", after := #[{ on := 0, ground := Ground.data }], guard := none }) (v := ?_) rfl (by kernel_rfl) (by kernel_rfl) (by kernel_rfl) (fun _ _ _ h => h) (Or.inl ⟨by rfl, ?_⟩) (by assumption) ?_
      rotate_left
      · intro wz hSz; (try dsimp only at hSz); go_simp; all_goals (with_reducible rfl)
      (try simp only [Act.put, List.setIfInBounds_toArray, List.set_cons_zero, List.set_cons_succ])
      refine wpAnyH_take (i := 2) (oi := { dst := some 13, op := Op.fieldAddr 28 (Operand.tmp 2) 1, type := 0, pos := "text.go:360", after := #[], guard := none }) (v := ?_) rfl (by kernel_rfl) (by kernel_rfl) (by kernel_rfl) (fun _ _ _ h => h) (Or.inl ⟨by rfl, ?_⟩) (by assumption) ?_
      rotate_left
      · intro wz hSz; (try dsimp only at hSz); go_simp; all_goals (with_reducible rfl)
      (try simp only [Act.put, List.setIfInBounds_toArray, List.set_cons_zero, List.set_cons_succ])
      refine wpAnyH_take (i := 3) (oi := { dst := some 14, op := Op.load 22 (Operand.tmp 13), type := 22, pos := "text.go:360", after := #[{ on := 2, ground := Ground.data }], guard := none }) (v := ?_) rfl (by kernel_rfl) (by kernel_rfl) (by kernel_rfl) (fun _ _ _ h => h) (Or.inl ⟨by rfl, ?_⟩) (by assumption) ?_
      rotate_left
      · intro wz hSz; (try dsimp only at hSz); go_simp; all_goals (with_reducible rfl)
      (try simp only [Act.put, List.setIfInBounds_toArray, List.set_cons_zero, List.set_cons_succ])
      refine wpAnyH_take (i := 4) (oi := { dst := some 15, op := Op.move (Operand.tmp 6), type := 3, pos := "text.go:360", after := #[], guard := none }) (v := ?_) rfl (by kernel_rfl) (by kernel_rfl) (by kernel_rfl) (fun _ _ _ h => h) (Or.inl ⟨by rfl, ?_⟩) (by assumption) ?_
      rotate_left
      · intro wz hSz; (try dsimp only at hSz); go_simp; all_goals (with_reducible rfl)
      (try simp only [Act.put, List.setIfInBounds_toArray, List.set_cons_zero, List.set_cons_succ])
      refine wpAnyH_take (i := 5) (oi := { dst := some 16, op := Op.indexAddr 23 (Operand.tmp 3) (Operand.tmp 15), type := 0, pos := "text.go:360", after := #[{ on := 4, ground := Ground.data }], guard := none }) (v := ?_) rfl (by kernel_rfl) (by kernel_rfl) (by kernel_rfl) (fun _ _ _ h => h) (Or.inl ⟨by rfl, ?_⟩) (by assumption) ?_
      rotate_left
      · intro wz hSz; (try dsimp only at hSz); go_simp; all_goals (with_reducible rfl)
      (try simp only [Act.put, List.setIfInBounds_toArray, List.set_cons_zero, List.set_cons_succ])
      refine wpAnyH_take (i := 6) (oi := { dst := some 17, op := Op.load 3 (Operand.tmp 16), type := 3, pos := "text.go:360", after := #[{ on := 5, ground := Ground.data }], guard := none }) (v := ?_) rfl (by kernel_rfl) (by kernel_rfl) (by kernel_rfl) (fun _ _ _ h => h) (Or.inl ⟨by rfl, ?_⟩) (by assumption) ?_
      rotate_left
      · intro wz hSz; (try dsimp only at hSz); go_simp; all_goals (with_reducible rfl)
      (try simp only [Act.put, List.setIfInBounds_toArray, List.set_cons_zero, List.set_cons_succ])
      refine wpAnyH_take (i := 7) (oi := { dst := some 18, op := Op.indexAddr 22 (Operand.tmp 14) (Operand.tmp 17), type := 0, pos := "text.go:360", after := #[{ on := 3, ground := Ground.data }, { on := 6, ground := Ground.data }], guard := none }) (v := ?_) rfl (by kernel_rfl) (by kernel_rfl) (by kernel_rfl) (fun _ _ _ h => h) (Or.inl ⟨by rfl, ?_⟩) (by assumption) ?_
      rotate_left
      · intro wz hSz; (try dsimp only at hSz); go_simp; all_goals (with_reducible rfl)
      (try simp only [Act.put, List.setIfInBounds_toArray, List.set_cons_zero, List.set_cons_succ])
      refine wpAnyH_take (i := 8) (oi := { dst := some 19, op := Op.fieldAddr 41 (Operand.tmp 18) 0, type := 0, pos := "text.go:360", after := #[{ on := 7, ground := Ground.data }], guard := none }) (v := ?_) rfl (by kernel_rfl) (by kernel_rfl) (by kernel_rfl) (fun _ _ _ h => h) (Or.inl ⟨by rfl, ?_⟩) (by assumption) ?_
      rotate_left
      · intro wz hSz; (try dsimp only at hSz); go_simp; all_goals (with_reducible rfl)
      (try simp only [Act.put, List.setIfInBounds_toArray, List.set_cons_zero, List.set_cons_succ])
      refine wpAnyH_take (i := 9) (oi := { dst := some 20, op := Op.load 9 (Operand.tmp 19), type := 9, pos := "text.go:360", after := #[{ on := 8, ground := Ground.data }], guard := none }) (v := ?_) rfl (by kernel_rfl) (by kernel_rfl) (by kernel_rfl) (fun _ _ _ h => h) (Or.inl ⟨by rfl, ?_⟩) (by assumption) ?_
      rotate_left
      · intro wz hSz; (try dsimp only at hSz); go_simp; all_goals (with_reducible rfl)
      (try simp only [Act.put, List.setIfInBounds_toArray, List.set_cons_zero, List.set_cons_succ])
      refine wpAnyH_take (i := 10) (oi := { dst := some 21, op := Op.binOp BinOp.add 9 (Operand.tmp 12) (Operand.tmp 20) 9, type := 9, pos := "text.go:360", after := #[{ on := 1, ground := Ground.data }, { on := 9, ground := Ground.data }], guard := none }) (v := ?_) rfl (by kernel_rfl) (by kernel_rfl) (by kernel_rfl) (fun _ _ _ h => h) (Or.inl ⟨by rfl, ?_⟩) (by assumption) ?_
      rotate_left
      · intro wz hSz; (try dsimp only at hSz); go_simp; all_goals (with_reducible rfl)
      (try simp only [Act.put, List.setIfInBounds_toArray, List.set_cons_zero, List.set_cons_succ])
      refine wpAnyH_take (i := 11) (oi := { dst := some 5, op := Op.assign (Operand.tmp 21), type := 9, pos := "text.go:360", after := #[{ on := 10, ground := Ground.data }, { on := 0, ground := Ground.phase }, { on := 1, ground := Ground.phase }, { on := 2, ground := Ground.phase }, { on := 3, ground := Ground.phase }, { on := 4, ground := Ground.phase }, { on := 5, ground := Ground.phase }, { on := 6, ground := Ground.phase }, { on := 7, ground := Ground.phase }, { on := 8, ground := Ground.phase }, { on := 9, ground := Ground.phase }, { on := 10, ground := Ground.phase }], guard := none }) (v := ?_) rfl (by kernel_rfl) (by kernel_rfl) (by kernel_rfl) (fun _ _ _ h => h) (Or.inl ⟨by rfl, ?_⟩) (by assumption) ?_
      rotate_left
      · intro wz hSz; (try dsimp only at hSz); go_simp; all_goals (with_reducible rfl)
      (try simp only [Act.put, List.setIfInBounds_toArray, List.set_cons_zero, List.set_cons_succ])
      refine wpAnyH_done (by kernel_rfl) ?_ _
      refine NoPanic.normal ?_
      go_wp2_with fail
      go_roundg (gk - 1)
      case measure => go_light; omega
      case rel => exact ⟨k + 1, by omega, by go_num, (by rw [hst.out]), hn2.out, hb.out.drew⟩
    · obtain rfl : k = 7 := by omega
      have e7 : X.take 7 = X := List.take_of_length_le (Nat.le_of_eq hX7'.out)
      rw [e7] at hsz ⊢
      go_wp2_with fail
      go_ret
      exact ⟨rfl, belT HL hb.out⟩
theorem joinTail_len (D : List Dk) : ∀ (X : List Int), (∀ x ∈ X, (nmA D x).size ≤ 32) → (Lib.joinTail [32] (X.map (nmL D))).length ≤ 33 * X.length
  | [], _ => by simp [Lib.joinTail]
  | x :: X, h => by
    have := joinTail_len D X (fun y hy => h y (List.mem_cons_of_mem _ hy))
    have h1 := h x (List.mem_cons_self ..)
    have e : (nmL D x).length = (nmA D x).size := by unfold nmL; rw [Array.length_toList]; rfl
    have : (Lib.joinTail [32] ((x :: X).map (nmL D))).length = ([32] ++ nmL D x).length + (Lib.joinTail [32] (X.map (nmL D))).length := by
      unfold Lib.joinTail
      rw [List.map_cons, List.map_cons, List.flatten_cons, List.length_append]
    rw [this, List.length_append, e, List.length_cons]
    simp only [List.length_cons, List.length_nil]
    omega
theorem join_len (D : List Dk) (X : List Int) (hl : X.length ≤ 7) (h : ∀ x ∈ X, (nmA D x).size ≤ 32) : (Lib.join (X.map (nmL D)) [32]).length ≤ 1000 := by
  match X, hl, h with
  | [], _, _ => simp [Lib.join_nil]
  | x :: X, hl, h =>
    rw [List.map_cons, Lib.join_cons, List.length_append]
    have h1 := h x (List.mem_cons_self ..)
    have e : (nmL D x).length = (nmA D x).size := by unfold nmL; rw [Array.length_toList]; rfl
    have := joinTail_len D X (fun y hy => h y (List.mem_cons_of_mem _ hy))
    simp only [List.length_cons] at hl
    omega
set_option maxRecDepth 100000 in
set_option maxHeartbeats 4000000 in
theorem weekText_any (t : Tt) (aD aS aX aH : Option Addr) (cD cS cX cH : Nat) (w : World) (hR : TR w t (.slice aD t.D.length cD) (.slice aS t.S.length cS) (.slice aX t.X.length cX) (.slice aH t.H.length cH)) (x0 x1 x2 x3 x4 x5 x6 : Int) (hx : ∀ x ∈ [x0, x1, x2, x3, x4, x5, x6], 0 ≤ x ∧ x < (t.D.length : Int) ∧ (nmA t.D x).size ≤ 32) : Calls Tryz.prog 13 #[.agg #[.string t.nm, .slice aD t.D.length cD, .int .i64 t.w0, .int .i64 t.w1, .int .i64 t.w2, .int .i64 t.w3, .int .i64 t.w4, .int .i64 t.w5, .int .i64 t.w6, .slice aS t.S.length cS, .slice aX t.X.length cX, .slice aH t.H.length cH], .agg #[.int .i64 x0, .int .i64 x1, .int .i64 x2, .int .i64 x3, .int .i64 x4, .int .i64 x5, .int .i64 x6]] w fun e w' => e = .returned (.string (bs (Lib.join ([x0, x1, x2, x3, x4, x5, x6].map (nmL t.D)) [32]))) ∧ Below w.heap.size w w' := by
  have hd := hR.d
  clear hR
  have hix : Hid (∀ (W : World) (i : Nat) (hi : i < [x0, x1, x2, x3, x4, x5, x6].length), (Instr.index 23 (.agg #[.int .i64 x0, .int .i64 x1, .int .i64 x2, .int .i64 x3, .int .i64 x4, .int .i64 x5, .int .i64 x6]) (.int .i64 (i : Int))).run Tryz.prog W = .ok (.int .i64 [x0, x1, x2, x3, x4, x5, x6][i]) W) := by
    intro W i hi
    have hi' : i < 7 := hi
    rcases (show i = 0 ∨ i = 1 ∨ i = 2 ∨ i = 3 ∨ i = 4 ∨ i = 5 ∨ i = 6 by omega) with rfl | rfl | rfl | rfl | rfl | rfl | rfl <;> rfl
  have HB : Has (((w.alloc (.cells #[.string t.nm, .slice aD t.D.length cD, .int .i64 t.w0, .int .i64 t.w1, .int .i64 t.w2, .int .i64 t.w3, .int .i64 t.w4, .int .i64 t.w5, .int .i64 t.w6, .slice aS t.S.length cS, .slice aX t.X.length cX, .slice aH t.H.length cH] 28)).alloc (.cells #[.int .i64 x0, .int .i64 x1, .int .i64 x2, .int .i64 x3, .int .i64 x4, .int .i64 x5, .int .i64 x6] 23)).alloc (.cells #[.string ⟨#[]⟩, .string ⟨#[]⟩, .string ⟨#[]⟩, .string ⟨#[]⟩, .string ⟨#[]⟩, .string ⟨#[]⟩, .string ⟨#[]⟩] 71)) w.heap.size #[.string t.nm, .slice aD t.D.length cD, .int .i64 t.w0, .int .i64 t.w1, .int .i64 t.w2, .int .i64 t.w3, .int .i64 t.w4, .int .i64 t.w5, .int .i64 t.w6, .slice aS t.S.length cS, .slice aX t.X.length cX, .slice aH t.H.length cH] := ((Has.new _ _ _ rfl).alloc _).alloc _
  have HN : Has (((w.alloc (.cells #[.string t.nm, .slice aD t.D.length cD, .int .i64 t.w0, .int .i64 t.w1, .int .i64 t.w2, .int .i64 t.w3, .int .i64 t.w4, .int .i64 t.w5, .int .i64 t.w6, .slice aS t.S.length cS, .slice aX t.X.length cX, .slice aH t.H.length cH] 28)).alloc (.cells #[.int .i64 x0, .int .i64 x1, .int .i64 x2, .int .i64 x3, .int .i64 x4, .int .i64 x5, .int .i64 x6] 23)).alloc (.cells #[.string ⟨#[]⟩, .string ⟨#[]⟩, .string ⟨#[]⟩, .string ⟨#[]⟩, .string ⟨#[]⟩, .string ⟨#[]⟩, .string ⟨#[]⟩] 71)) (w.heap.size + 1 + 1) (([⟨#[]⟩, ⟨#[]⟩, ⟨#[]⟩, ⟨#[]⟩, ⟨#[]⟩, ⟨#[]⟩, ⟨#[]⟩] : List ByteArray).map Value.string).toArray := Has.new _ _ _ (by simp)
  have HL : Below w.heap.size w (((w.alloc (.cells #[.string t.nm, .slice aD t.D.length cD, .int .i64 t.w0, .int .i64 t.w1, .int .i64 t.w2, .int .i64 t.w3, .int .i64 t.w4, .int .i64 t.w5, .int .i64 t.w6, .slice aS t.S.length cS, .slice aX t.X.length cX, .slice aH t.H.length cH] 28)).alloc (.cells #[.int .i64 x0, .int .i64 x1, .int .i64 x2, .int .i64 x3, .int .i64 x4, .int .i64 x5, .int .i64 x6] 23)).alloc (.cells #[.string ⟨#[]⟩, .string ⟨#[]⟩, .string ⟨#[]⟩, .string ⟨#[]⟩, .string ⟨#[]⟩, .string ⟨#[]⟩, .string ⟨#[]⟩] 71)) := (((Below.refl _ _).alloc (Nat.le_refl _) _).alloc (by simp) _).alloc (by simp; omega) _
  obtain ⟨X, hX⟩ : ∃ X : List Int, X = [x0, x1, x2, x3, x4, x5, x6] := ⟨_, rfl⟩
  have hX7 : Hid (X.length = 7) := by show _ = _; rw [hX]; rfl
  rw [← hX] at hx hix ⊢
  have hx' : Hid (∀ x ∈ X, 0 ≤ x ∧ x < (t.D.length : Int) ∧ (nmA t.D x).size ≤ 32) := hx
  have hd' : Hid (Fl 2 Dk.cs w (.slice aD t.D.length cD) t.D) := hd
  clear hx hd hX
  go_enter Tryz.func13, Tryz.ntmps13
  go_wp2_with fail
  generalize (((w.alloc (.cells #[.string t.nm, .slice aD t.D.length cD, .int .i64 t.w0, .int .i64 t.w1, .int .i64 t.w2, .int .i64 t.w3, .int .i64 t.w4, .int .i64 t.w5, .int .i64 t.w6, .slice aS t.S.length cS, .slice aX t.X.length cX, .slice aH t.H.length cH] 28)).alloc (.cells #[.int .i64 x0, .int .i64 x1, .int .i64 x2, .int .i64 x3, .int .i64 x4, .int .i64 x5, .int .i64 x6] 23)).alloc (.cells #[.string ⟨#[]⟩, .string ⟨#[]⟩, .string ⟨#[]⟩, .string ⟨#[]⟩, .string ⟨#[]⟩, .string ⟨#[]⟩, .string ⟨#[]⟩] 71)) = Y at *
  have hs0 : Hid (w.heap.size + 1 + 1 < Y.heap.size) := HN.1
  go_loopg [9] 7 (fun gk s9 wr => ∃ (k : Nat) (ns : List ByteArray), k + gk = 7 ∧ s9 = .int .i64 (k : Int) ∧ Hid (ns.length = 7) ∧ Hid (ns.take k = (X.take k).map (nmA t.D)) ∧ Hid (Has wr (w.heap.size + 1 + 1) (ns.map Value.string).toArray) ∧ Hid (Has wr w.heap.size #[.string t.nm, .slice aD t.D.length cD, .int .i64 t.w0, .int .i64 t.w1, .int .i64 t.w2, .int .i64 t.w3, .int .i64 t.w4, .int .i64 t.w5, .int .i64 t.w6, .slice aS t.S.length cS, .slice aX t.X.length cX, .slice aH t.H.length cH]) ∧ Hid (Below w.heap.size w wr))
  case atStart => exact ⟨0, [⟨#[]⟩, ⟨#[]⟩, ⟨#[]⟩, ⟨#[]⟩, ⟨#[]⟩, ⟨#[]⟩, ⟨#[]⟩], by omega, rfl, rfl, rfl, HN, HB, HL⟩
  case round =>
    clear HN HB HL
    obtain ⟨k, ns, hk, rfl, hnl, hnt, hN, hB, hb⟩ := hrel
    have t0 : (0 : Int) ≤ (k : Int) := by omega
    by_cases hlt : k < 7
    · have t1 : (k : Int) < 7 := by omega
      have hkX : k < X.length := by rw [hX7.out]; exact hlt
      have hkn : k < ns.length := by rw [hnl.out]; exact hlt
      have hi := fun W => hix.out W k hkX
      obtain ⟨q0, q1, q2⟩ := hx'.out _ (List.getElem_mem hkX)
      obtain ⟨g, o, rfl, hg, pN⟩ := nm_at hd'.out X[k] q0 q1
      have pN' := (hb.out.cell (p := ⟨g, _, none⟩) hg).trans pN
      have pB := hB.out.2.1 1
      have cN : wr.cell? ⟨w.heap.size + 1 + 1, k, none⟩ = some (.string ns[k]) := by
        rw [hN.out.2.1 k]; simp [hkn]
      have fN := hN.out.2.2 k
      have hst : Hid ((ns.set k (nmA t.D X[k])).take (k + 1) = (X.take (k + 1)).map (nmA t.D)) := by
        show _ = _
        rw [List.take_succ_eq_append_getElem hkX, List.map_append, ← hnt.out, List.take_succ_eq_append_getElem (by simpa using hkn), List.getElem_set_self, List.take_set, List.set_eq_of_length_le (by rw [List.length_take]; omega)]
        rfl
      have hN2 : Hid (Has (wr.setCell ⟨w.heap.size + 1 + 1, k, none⟩ (.string (nmA t.D X[k]))) (w.heap.size + 1 + 1) ((ns.set k (nmA t.D X[k])).map Value.string).toArray) := by
        have := hN.out.set k (by simpa using hkn) (.string (nmA t.D X[k]))
        rw [List.setIfInBounds_toArray, ← List.map_set] at this
        exact this
      have hl2 : Hid ((ns.set k (nmA t.D X[k])).length = 7) := by show _ = _; rw [List.length_set]; exact hnl.out
      generalize nmA t.D X[k] = nm at *
      generalize X[k] = xk at *
      obtain ⟨J, rfl⟩ : ∃ J : Nat, xk = (J : Int) := ⟨xk.toNat, by omega⟩
      rw [Int.toNat_natCast] at pN'
      generalize ns[k] = oldn at *
      go_wp2_with fail
      go_roundg (gk - 1)
      case measure => go_light; omega
      case rel => exact ⟨k + 1, ns.set k nm, by omega, by go_num, hl2, hst, hN2, (hB.out.far (by omega) _), (hb.out.setCell (p := ⟨w.heap.size + 1 + 1, k, none⟩) (by show _ ≤ w.heap.size + 1 + 1; omega) _)⟩
    · obtain rfl : k = 7 := by omega
      have e1 : ns = X.map (nmA t.D) := by
        have := hnt.out
        rw [List.take_of_length_le (Nat.le_of_eq hnl.out), List.take_of_length_le (Nat.le_of_eq hX7.out)] at this
        exact this
      have e2 : (ns.map (·.data.toList)) = X.map (nmL t.D) := by rw [e1, List.map_map]; rfl
      have hj := fun c => Tryz.strings_Join (w.heap.size + 1 + 1) 0 c ns ⟨#[32]⟩ wr (fun j x hx => by rw [Nat.zero_add, hN.out.2.1 j]; simp [hx]) hN.out.1 (by rw [hnl.out]; omega)
      rw [e2, hnl.out] at hj
      have hj2 := hj 7 (by omega) (by have := join_len t.D X (by rw [hX7.out]; omega) (fun x hx => (hx'.out x hx).2.2); exact Nat.le_trans this (by omega))
      go_wp2_with (go_at_call 38; (with_reducible refine hj2.mono ?_); rintro e w1 ⟨rfl, hb1⟩)
      go_ret
      exact ⟨rfl, belT hb.out hb1⟩
end Go.Proofs.YtkeoebllblbkgaaGreatDoor
