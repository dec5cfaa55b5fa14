import Derived.Test.YthflpnahifpdnaaSpI
import Derived.Deep.RegionHeld3
namespace Go.Proofs.Ythflpnahifpdnaa
open Go.RowKit
set_option linter.unusedVariables false


def inF (A I : List Int) (N : Nat → Int) (k : Nat) : Int := if N k = A.getD k 0 then upF (I.getD k 0) else 1
def awF (W : List Int) (N : Nat → Int) (k : Nat) : Int := if N k = 2 then 0 else upF (W.getD k 0)
theorem own_st32 {base e n g cap : Nat} {f : Nat → Int} {w : World} (h : w.ownsRow base e 1 (.slice (some ⟨g, 0, none⟩) n cap) n (v32 n f)) {k : Nat} (hk : k < n) (v : Int) : (w.setCell ⟨g, k, none⟩ (.int .i32 v)).ownsRow base e 1 (.slice (some ⟨g, 0, none⟩) n cap) n (v32 n (fun j => if j = k then v else f j)) := by
  rw [← v32_set hk]; exact own_stored [.int .i32 v] w _ k h
theorem own_far {base e size n c q i : Nat} {u : Value} {g : Nat} {xs : List Value} {w : World} (h : w.ownsRow base e size (.slice (some ⟨g, 0, none⟩) n c) n xs) (hq : g ≠ q) : (w.setCell ⟨q, i, none⟩ u).ownsRow base e size (.slice (some ⟨g, 0, none⟩) n c) n xs :=
  own_only2 h (only_of_set w q i u) (fun b hb e => by have e' : g = b := (by injection hb); omega)
set_option maxRecDepth 100000 in
set_option maxHeartbeats 4000000 in
theorem counted_any (w : World) (b : Nat) (G : List Gp) (C : List Cf) (A I W : List Int) (M : Nat) (vg vc v1 v2 v3 vn : Value) (hs : Sp w b G C A I W M vg vc v1 v2 v3 vn) (ok : SpOk G C A I W M) (w0 : World) (r : Nat) (N : Nat → Int) (hvn : vn = .slice (some ⟨r, 0, none⟩) G.length G.length) (hown : w.ownsRow w0.heap.size 3 1 (.slice (some ⟨r, 0, none⟩) G.length G.length) G.length (valR G.length N)) :
    Calls Try.prog 51 #[.pointer (some ⟨b, 0, none⟩)] w fun e w' => (∃ p0 p1, e = .returned (.agg #[.slice (some ⟨r, 0, none⟩) G.length G.length, .slice (some ⟨p0, 0, none⟩) G.length G.length, .slice (some ⟨p1, 0, none⟩) G.length G.length]) ∧ w'.ownsRow w.heap.size 21 1 (.slice (some ⟨p0, 0, none⟩) G.length G.length) G.length (v32 G.length (inF A I N)) ∧ w'.ownsRow w.heap.size 21 1 (.slice (some ⟨p1, 0, none⟩) G.length G.length) G.length (v32 G.length (awF W N)) ∧ p0 ≠ p1) ∧ Below w.heap.size w w' := by
  subst hvn
  have rB := (own_lt hown r rfl)
  have Bw := hs.bx
  obtain ⟨vA, cA, eA, kA⟩ := hs.a.nums
  obtain ⟨vI, cI, eI, kI⟩ := hs.i.nums
  obtain ⟨vW, cW, eW, kW⟩ := hs.w.nums
  subst eA eI eW
  have la : Hid (A.length = G.length) := ok.la
  have li : Hid (I.length = G.length) := ok.li
  have lw : Hid (W.length = G.length) := ok.lw
  have i1 : (A.length : Int) = (G.length : Int) := by have := la.out; omega
  have i2 : (I.length : Int) = (G.length : Int) := by have := li.out; omega
  have i3 : (W.length : Int) = (G.length : Int) := by have := lw.out; omega
  have h64 := grid_len ok.grid
  have okI := ok.oi
  have okW := ok.ow
  have Bq : ∀ X : World, Below w.heap.size w X → Has X b #[vg, vc, .slice vA A.length cA, .slice vI I.length cI, .slice vW W.length cW, .int .u64 (M : Int), .slice (some ⟨r, 0, none⟩) G.length G.length] := fun X hX => Bw.below hX
  have ownN : ∀ X : World, Below w.heap.size w X → ∀ k, k < G.length → X.cell? ⟨r, k, none⟩ = some (.int .i64 (N k)) := fun X hX k hk => own_cell (own_bel hown hX) hk
  have hbl : b < w.heap.size := Bw.1
  have B0 := Bw.alloc (.cells #[.slice none 0 0, .slice none 0 0, .slice none 0 0] 37)
  have R0 : Has (w.alloc (.cells #[.slice none 0 0, .slice none 0 0, .slice none 0 0] 37)) w.heap.size #[.slice none 0 0, .slice none 0 0, .slice none 0 0] := Has.new _ _ _ rfl
  have hb0 : Below w.heap.size w (w.alloc (.cells #[.slice none 0 0, .slice none 0 0, .slice none 0 0] 37)) := belN1
  have zz : (w.alloc (.cells #[.slice none 0 0, .slice none 0 0, .slice none 0 0] 37)).heap.size = w.heap.size + 1 := by simp
  clear hs ok
  go_enter Try.func51, Try.ntmps51
  go_upto_region 1 with fail
  generalize (w.alloc (.cells #[.slice none 0 0, .slice none 0 0, .slice none 0 0] 37)) = W0 at *
  refine wp_region_noPanic ?_
  refine wp_region_held_drew (S := fun w' => (w'.cell? ⟨b, 0, none⟩ = some (vg) ∧ w'.cell? ⟨b, 1, none⟩ = some (vc) ∧ w'.cell? ⟨b, 2, none⟩ = some (.slice vA A.length cA) ∧ w'.cell? ⟨b, 3, none⟩ = some (.slice vI I.length cI) ∧ w'.cell? ⟨b, 4, none⟩ = some (.slice vW W.length cW) ∧ w'.cell? ⟨b, 5, none⟩ = some (.int .u64 (M : Int)) ∧ w'.cell? ⟨b, 6, none⟩ = some (.slice (some ⟨r, 0, none⟩) G.length G.length))) (by kernel_rfl) ?_ (fun hHeld => ?_)
  · (try dsimp only)
    exact has7 B0.drew
  refine wpAnyH_take (i := 0) (oi := { dst := some 6, op := Op.move (Operand.tmp 0), type := 85, pos := "step.go:119", after := #[], guard := none }) (v := ?_) rfl (by kernel_rfl) (by kernel_rfl) (by kernel_rfl) (fun _ _ _ h => h) (Or.inl ⟨by rfl, ?_⟩) (by assumption) ?_
  rotate_left
  · intro wz hSz; (try dsimp only at hSz); go_simp; all_goals (with_reducible rfl)
  (try simp only [Act.put, List.setIfInBounds_toArray, List.set_cons_zero, List.set_cons_succ])
  refine wpAnyH_take (i := 1) (oi := { dst := some 7, op := Op.nilCheck (Operand.tmp 6), type := 0, pos := "step.go:119", after := #[{ on := 0, ground := Ground.data }], guard := none }) (v := ?_) rfl (by kernel_rfl) (by kernel_rfl) (by kernel_rfl) (fun _ _ _ h => h) (Or.inl ⟨by rfl, ?_⟩) (by assumption) ?_
  rotate_left
  · intro wz hSz; (try dsimp only at hSz); go_simp; all_goals (with_reducible rfl)
  (try simp only [Act.put, List.setIfInBounds_toArray, List.set_cons_zero, List.set_cons_succ])
  refine wpAnyH_take (i := 2) (oi := { dst := some 8, op := Op.fieldAddr 87 (Operand.tmp 7) 3, type := 0, pos := "step.go:119", after := #[{ on := 1, ground := Ground.data }], guard := none }) (v := ?_) rfl (by kernel_rfl) (by kernel_rfl) (by kernel_rfl) (fun _ _ _ h => h) (Or.inl ⟨by rfl, ?_⟩) (by assumption) ?_
  rotate_left
  · intro wz hSz; (try dsimp only at hSz); go_simp; all_goals (with_reducible rfl)
  (try simp only [Act.put, List.setIfInBounds_toArray, List.set_cons_zero, List.set_cons_succ])
  refine wpAnyH_take (i := 3) (oi := { dst := some 9, op := Op.load 34 (Operand.tmp 8), type := 34, pos := "step.go:119", after := #[{ on := 2, ground := Ground.data }], guard := none }) (v := ?_) rfl (by kernel_rfl) (by kernel_rfl) (by kernel_rfl) (fun _ _ _ h => h) (Or.inl ⟨by rfl, ?_⟩) (by assumption) ?_
  rotate_left
  · intro wz hSz; (try dsimp only at hSz); go_simp; all_goals (with_reducible rfl)
  (try simp only [Act.put, List.setIfInBounds_toArray, List.set_cons_zero, List.set_cons_succ])
  refine wpAnyH_take (i := 4) (oi := { dst := some 10, op := Op.move (Operand.tmp 0), type := 85, pos := "step.go:119", after := #[], guard := none }) (v := ?_) rfl (by kernel_rfl) (by kernel_rfl) (by kernel_rfl) (fun _ _ _ h => h) (Or.inl ⟨by rfl, ?_⟩) (by assumption) ?_
  rotate_left
  · intro wz hSz; (try dsimp only at hSz); go_simp; all_goals (with_reducible rfl)
  (try simp only [Act.put, List.setIfInBounds_toArray, List.set_cons_zero, List.set_cons_succ])
  refine wpAnyH_take (i := 5) (oi := { dst := some 11, op := Op.nilCheck (Operand.tmp 10), type := 0, pos := "step.go:119", after := #[{ on := 4, ground := Ground.data }], guard := none }) (v := ?_) rfl (by kernel_rfl) (by kernel_rfl) (by kernel_rfl) (fun _ _ _ h => h) (Or.inl ⟨by rfl, ?_⟩) (by assumption) ?_
  rotate_left
  · intro wz hSz; (try dsimp only at hSz); go_simp; all_goals (with_reducible rfl)
  (try simp only [Act.put, List.setIfInBounds_toArray, List.set_cons_zero, List.set_cons_succ])
  refine wpAnyH_take (i := 6) (oi := { dst := some 12, op := Op.fieldAddr 87 (Operand.tmp 11) 3, type := 0, pos := "step.go:119", after := #[{ on := 5, ground := Ground.data }], guard := none }) (v := ?_) rfl (by kernel_rfl) (by kernel_rfl) (by kernel_rfl) (fun _ _ _ h => h) (Or.inl ⟨by rfl, ?_⟩) (by assumption) ?_
  rotate_left
  · intro wz hSz; (try dsimp only at hSz); go_simp; all_goals (with_reducible rfl)
  (try simp only [Act.put, List.setIfInBounds_toArray, List.set_cons_zero, List.set_cons_succ])
  refine wpAnyH_take (i := 7) (oi := { dst := some 13, op := Op.load 34 (Operand.tmp 12), type := 34, pos := "step.go:119", after := #[{ on := 6, ground := Ground.data }], guard := none }) (v := ?_) rfl (by kernel_rfl) (by kernel_rfl) (by kernel_rfl) (fun _ _ _ h => h) (Or.inl ⟨by rfl, ?_⟩) (by assumption) ?_
  rotate_left
  · intro wz hSz; (try dsimp only at hSz); go_simp; all_goals (with_reducible rfl)
  (try simp only [Act.put, List.setIfInBounds_toArray, List.set_cons_zero, List.set_cons_succ])
  refine wpAnyH_take (i := 8) (oi := { dst := some 14, op := Op.call { callee := Callee.builtin Builtin.len, args := #[Operand.tmp 13], argTypes := #[34] }, type := 3, pos := "step.go:119", after := #[{ on := 7, ground := Ground.data }], guard := none }) (v := ?_) rfl (by kernel_rfl) (by kernel_rfl) (by kernel_rfl) (fun _ _ _ h => h) (Or.inl ⟨by rfl, ?_⟩) (by assumption) ?_
  rotate_left
  · intro wz hSz; (try dsimp only at hSz); go_simp; all_goals (with_reducible rfl)
  (try simp only [Act.put, List.setIfInBounds_toArray, List.set_cons_zero, List.set_cons_succ])
  refine wpAnyH_take (i := 10) (oi := { dst := some 16, op := Op.move (Operand.tmp 0), type := 85, pos := "step.go:119", after := #[], guard := none }) (v := ?_) rfl (by kernel_rfl) (by kernel_rfl) (by kernel_rfl) (fun _ _ _ h => h) (Or.inl ⟨by rfl, ?_⟩) (by assumption) ?_
  rotate_left
  · intro wz hSz; (try dsimp only at hSz); go_simp; all_goals (with_reducible rfl)
  (try simp only [Act.put, List.setIfInBounds_toArray, List.set_cons_zero, List.set_cons_succ])
  refine wpAnyH_take (i := 11) (oi := { dst := some 17, op := Op.nilCheck (Operand.tmp 16), type := 0, pos := "step.go:119", after := #[{ on := 10, ground := Ground.data }], guard := none }) (v := ?_) rfl (by kernel_rfl) (by kernel_rfl) (by kernel_rfl) (fun _ _ _ h => h) (Or.inl ⟨by rfl, ?_⟩) (by assumption) ?_
  rotate_left
  · intro wz hSz; (try dsimp only at hSz); go_simp; all_goals (with_reducible rfl)
  (try simp only [Act.put, List.setIfInBounds_toArray, List.set_cons_zero, List.set_cons_succ])
  refine wpAnyH_take (i := 12) (oi := { dst := some 18, op := Op.fieldAddr 87 (Operand.tmp 17) 3, type := 0, pos := "step.go:119", after := #[{ on := 11, ground := Ground.data }], guard := none }) (v := ?_) rfl (by kernel_rfl) (by kernel_rfl) (by kernel_rfl) (fun _ _ _ h => h) (Or.inl ⟨by rfl, ?_⟩) (by assumption) ?_
  rotate_left
  · intro wz hSz; (try dsimp only at hSz); go_simp; all_goals (with_reducible rfl)
  (try simp only [Act.put, List.setIfInBounds_toArray, List.set_cons_zero, List.set_cons_succ])
  refine wpAnyH_take (i := 13) (oi := { dst := some 19, op := Op.load 34 (Operand.tmp 18), type := 34, pos := "step.go:119", after := #[{ on := 12, ground := Ground.data }], guard := none }) (v := ?_) rfl (by kernel_rfl) (by kernel_rfl) (by kernel_rfl) (fun _ _ _ h => h) (Or.inl ⟨by rfl, ?_⟩) (by assumption) ?_
  rotate_left
  · intro wz hSz; (try dsimp only at hSz); go_simp; all_goals (with_reducible rfl)
  (try simp only [Act.put, List.setIfInBounds_toArray, List.set_cons_zero, List.set_cons_succ])
  refine wpAnyH_take (i := 14) (oi := { dst := some 20, op := Op.call { callee := Callee.builtin Builtin.len, args := #[Operand.tmp 19], argTypes := #[34] }, type := 3, pos := "step.go:119", after := #[{ on := 13, ground := Ground.data }], guard := none }) (v := ?_) rfl (by kernel_rfl) (by kernel_rfl) (by kernel_rfl) (fun _ _ _ h => h) (Or.inl ⟨by rfl, ?_⟩) (by assumption) ?_
  rotate_left
  · intro wz hSz; (try dsimp only at hSz); go_simp; all_goals (with_reducible rfl)
  (try simp only [Act.put, List.setIfInBounds_toArray, List.set_cons_zero, List.set_cons_succ])
  refine regC62 G.length r _ _ _ W0.drew h64 _ _ (fun X hX => has7 (B0.drew.below hX)) ?_ _ (of_decide_eq_true (by kernel_rfl))
  intro p0 p1 p X hbX o0 o1 HX hp n0p n1p n01
  refine NoPanic.normal ?_
  have q0 := (own_lt o0 p0 rfl).1
  have q1 := (own_lt o1 p1 rfl).1
  have zd : W0.drew.heap.size = w.heap.size + 1 := zz
  rw [zd] at q0 q1 hp
  have hbW : Below w.heap.size w X := bel_after hb0.drew (by rw [zd]; omega) hbX
  have RX := R0.drew.below hbX
  have o0' := own_base o0 (show w.heap.size ≤ W0.drew.heap.size by rw [zd]; omega)
  have o1' := own_base o1 (show w.heap.size ≤ W0.drew.heap.size by rw [zd]; omega)
  rw [v32_zero] at o0' o1'
  clear o0 o1 hbX B0 R0 hb0 zz zd
  obtain ⟨_, b1, _⟩ := id (Bq X hbW)
  go_wp2_with fail
  clear b1
  go_loopw [28] (fun t wr => ∃ (k : Nat) (fi fw : Nat → Int), k ≤ G.length ∧ t = .int .i64 (k : Int) ∧ Hid (wr.ownsRow w.heap.size 21 1 (.slice (some ⟨p0, 0, none⟩) G.length G.length) G.length (v32 G.length fi)) ∧ Hid (wr.ownsRow w.heap.size 21 1 (.slice (some ⟨p1, 0, none⟩) G.length G.length) G.length (v32 G.length fw)) ∧ Hid (∀ j, j < k → fi j = inF A I N j) ∧ Hid (∀ j, fw j = if j < k then awF W N j else 0) ∧ Hid (Has wr p #[.slice (some ⟨r, 0, none⟩) G.length G.length, .slice (some ⟨p0, 0, none⟩) G.length G.length, .slice (some ⟨p1, 0, none⟩) G.length G.length]) ∧ Hid (Has wr w.heap.size #[.slice none 0 0, .slice none 0 0, .slice none 0 0]) ∧ Hid (Below w.heap.size w wr)) (fun t _ => G.length - (intOf t).toNat)
  case atStart => exact ⟨0, _, _, by omega, rfl, o0', o1', (fun j h => absurd h (Nat.not_lt_zero _)), (fun j => rfl), HX, RX, hbW⟩
  case round =>
    clear o0' o1' HX RX hbW
    obtain ⟨k, fi, fw, hkl, rfl, own2, own3, fil2, fil3, Hx, Rz, hb⟩ := hrel
    by_cases hlt : k < G.length
    case neg =>
      have t1 : ¬ (k : Int) < (G.length : Int) := by omega
      have ek : k = G.length := by omega
      subst ek
      have e2 : v32 G.length fi = v32 G.length (inF A I N) := v32_ext fun j hj => fil2.out j hj
      have e3 : v32 G.length fw = v32 G.length (awF W N) := v32_ext fun j hj => by rw [fil3.out j, if_pos hj]
      have own2' := own2.out
      have own3' := own3.out
      rw [e2] at own2'
      rw [e3] at own3'
      have hb' := hb.out
      have R' := Rz.out
      obtain ⟨_, x1, _⟩ := id Hx.out
      obtain ⟨_, x2, x3⟩ := id R'
      clear kA kI kW Bq ownN
      go_wp2_with fail
      have O : Only (fun q => q = w.heap.size) wr (((wr.setCell ⟨w.heap.size, 0, none⟩ (.slice (some ⟨r, 0, none⟩) G.length G.length)).setCell ⟨w.heap.size, 1, none⟩ (.slice (some ⟨p0, 0, none⟩) G.length G.length)).setCell ⟨w.heap.size, 2, none⟩ (.slice (some ⟨p1, 0, none⟩) G.length G.length)) := ((only_of_set _ _ _ _).trans (only_of_set _ _ _ _)).trans (only_of_set _ _ _ _)
      have HH : Has (((wr.setCell ⟨w.heap.size, 0, none⟩ (.slice (some ⟨r, 0, none⟩) G.length G.length)).setCell ⟨w.heap.size, 1, none⟩ (.slice (some ⟨p0, 0, none⟩) G.length G.length)).setCell ⟨w.heap.size, 2, none⟩ (.slice (some ⟨p1, 0, none⟩) G.length G.length)) w.heap.size #[.slice (some ⟨r, 0, none⟩) G.length G.length, .slice (some ⟨p0, 0, none⟩) G.length G.length, .slice (some ⟨p1, 0, none⟩) G.length G.length] := by simpa using ((R'.set 0 (by simp) (.slice (some ⟨r, 0, none⟩) G.length G.length)).set 1 (by simp) (.slice (some ⟨p0, 0, none⟩) G.length G.length)).set 2 (by simp) (.slice (some ⟨p1, 0, none⟩) G.length G.length)
      have bF := bel_only hb' O (Nat.le_refl _) (fun q hq h => by omega)
      have f2 := own_only2 own2' O (fun q hq h => by have e : p0 = q := (by injection hq); omega)
      have f3 := own_only2 own3' O (fun q hq h => by have e : p1 = q := (by injection hq); omega)
      generalize (((wr.setCell ⟨w.heap.size, 0, none⟩ (.slice (some ⟨r, 0, none⟩) G.length G.length)).setCell ⟨w.heap.size, 1, none⟩ (.slice (some ⟨p0, 0, none⟩) G.length G.length)).setCell ⟨w.heap.size, 2, none⟩ (.slice (some ⟨p1, 0, none⟩) G.length G.length)) = WF at *
      obtain ⟨_, k1, _⟩ := id HH
      exact bodyPost_ret (v := .agg #[.slice (some ⟨r, 0, none⟩) G.length G.length, .slice (some ⟨p0, 0, none⟩) G.length G.length, .slice (some ⟨p1, 0, none⟩) G.length G.length]) (by simp [results, Try.results51, go_sem, k1]) rfl ⟨⟨p0, p1, rfl, f2, f3, n01⟩, bF⟩
    case pos =>
      have hkG := hlt
      have lA' : k < A.length := by have := la.out; omega
      have lI' : k < I.length := by have := li.out; omega
      have lW' : k < W.length := by have := lw.out; omega
      obtain ⟨gA, oA, rfl, hgA, PA⟩ := kA.resolve_left (by intro e; rw [e] at lA'; simp at lA')
      obtain ⟨gI, oI, rfl, hgI, PI⟩ := kI.resolve_left (by intro e; rw [e] at lI'; simp at lI')
      obtain ⟨gW, oW, rfl, hgW, PW⟩ := kW.resolve_left (by intro e; rw [e] at lW'; simp at lW')
      have hPI : ∀ X : World, Below w.heap.size w X → X.cell? ⟨gI, oI + k, none⟩ = some (.int .i32 I[k]) := fun X hX => (hX.cell (p := ⟨gI, _, none⟩) hgI).trans (PI k lI' _ rfl)
      have hPW : ∀ X : World, Below w.heap.size w X → X.cell? ⟨gW, oW + k, none⟩ = some (.int .i32 W[k]) := fun X hX => (hX.cell (p := ⟨gW, _, none⟩) hgW).trans (PW k lW' _ rfl)
      have hPA : ∀ X : World, Below w.heap.size w X → X.cell? ⟨gA, oA + k, none⟩ = some (.int .i64 A[k]) := fun X hX => (hX.cell (p := ⟨gA, _, none⟩) hgA).trans (PA k lA' _ rfl)
      have hPN := fun (X : World) (hX : Below w.heap.size w X) => ownN X hX k hkG
      have hUI := fun (X : World) => up_any I[k] X (okI _ (List.getElem_mem lI'))
      have hUW := fun (X : World) => up_any W[k] X (okW _ (List.getElem_mem lW'))
      have in1 : inF A I N k = if N k = A[k] then upF I[k] else 1 := by unfold inF; simp [List.getD_eq_getElem?_getD, lA', lI']
      have aw1 : awF W N k = if N k = 2 then 0 else upF W[k] := by unfold awF; simp [List.getD_eq_getElem?_getD, lW']
      have t1 : (k : Int) < (G.length : Int) := by omega
      have t0 : (0 : Int) ≤ (k : Int) := by omega
      have t2 : k + 1 ≤ G.length := hlt
      have tA : (k : Int) < (A.length : Int) := by omega
      have tI : (k : Int) < (I.length : Int) := by omega
      have tW : (k : Int) < (W.length : Int) := by omega
      have fv0 : fw k = 0 := by rw [fil3.out k, if_neg (by omega)]
      clear kA kI kW PA PI PW okI okW ownN
      generalize A[k] = ya at *
      generalize I[k] = yi at *
      generalize W[k] = yw at *
      generalize N k = yn at *
      generalize upF yi = ui at *
      generalize upF yw = uw at *
      have own2a := own_st32 own2.out hkG 1
      have own3a := own_far (i := k) (u := .int .i32 1) own3.out (Ne.symm n01)
      have HxA := Hx.out.far (i := k) (Ne.symm n0p) (.int .i32 1)
      have RzA := Rz.out.far (c := p0) (i := k) (by omega) (.int .i32 1)
      have hbA : Below w.heap.size w (wr.setCell ⟨p0, k, none⟩ (.int .i32 1)) := hb.out.setCell (p := ⟨p0, k, none⟩) (by simp; omega) _
      obtain ⟨y0, z0⟩ := own_some own2.out k (by omega)
      have hfz := own2.out.frozenAt
      have x0 := hPN _ hb.out
      obtain ⟨_, x1, _⟩ := id Hx.out
      obtain ⟨_, b1, _⟩ := id (Bq _ hb.out)
      go_upto_region 6 with fail
      generalize (wr.setCell ⟨p0, k, none⟩ (.int .i32 1)) = WA at *
      clear x0 x1 b1 z0 hfz own2 own3 Hx Rz hb hPN
      have xA := hPA _ hbA
      obtain ⟨_, b1, _⟩ := id (Bq _ hbA)
      by_cases d1 : yn = ya
      · subst d1
        rw [if_pos rfl] at in1
        obtain ⟨y2, z2⟩ := own_some own2a.drew k (by omega)
        have hfz2 := own2a.drew.frozenAt
        go_upto_region 7 with fail
        clear b1 xA
        refine wp_region_noPanic ?_
        refine wp_region_held_drew (S := fun w' => (w'.cell? ⟨b, 0, none⟩ = some (vg) ∧ w'.cell? ⟨b, 1, none⟩ = some (vc) ∧ w'.cell? ⟨b, 2, none⟩ = some (.slice (some ⟨gA, oA, none⟩) A.length cA) ∧ w'.cell? ⟨b, 3, none⟩ = some (.slice (some ⟨gI, oI, none⟩) I.length cI) ∧ w'.cell? ⟨b, 4, none⟩ = some (.slice (some ⟨gW, oW, none⟩) W.length cW) ∧ w'.cell? ⟨b, 5, none⟩ = some (.int .u64 (M : Int)) ∧ w'.cell? ⟨b, 6, none⟩ = some (.slice (some ⟨r, 0, none⟩) G.length G.length)) ∧ (w'.cell? ⟨p, 0, none⟩ = some (.slice (some ⟨r, 0, none⟩) G.length G.length) ∧ w'.cell? ⟨p, 1, none⟩ = some (.slice (some ⟨p0, 0, none⟩) G.length G.length) ∧ w'.cell? ⟨p, 2, none⟩ = some (.slice (some ⟨p1, 0, none⟩) G.length G.length)) ∧ w'.cell? ⟨gI, oI + k, none⟩ = some (.int .i32 yi)) (by kernel_rfl) ?_ (fun hHeld => ?_)
        · (try dsimp only)
          exact ⟨has7 (Bq _ hbA.drew), has3 HxA.drew, (hPI _ hbA.drew)⟩
        refine wpAnyH_take (i := 0) (oi := { dst := some 47, op := Op.fieldAddr 37 (Operand.tmp 3) 1, type := 0, pos := "step.go:123", after := #[], guard := none }) (v := ?_) rfl (by kernel_rfl) (by kernel_rfl) (by kernel_rfl) (fun _ _ _ h => h) (Or.inl ⟨by rfl, ?_⟩) (by assumption) ?_
        rotate_left
        · intro wz hSz; (try dsimp only at hSz); go_simp; all_goals (with_reducible rfl)
        (try simp only [Act.put, List.setIfInBounds_toArray, List.set_cons_zero, List.set_cons_succ])
        refine wpAnyH_take (i := 1) (oi := { dst := some 48, op := Op.load 35 (Operand.tmp 47), type := 35, pos := "step.go:123", after := #[{ on := 0, ground := Ground.data }], guard := none }) (v := ?_) rfl (by kernel_rfl) (by kernel_rfl) (by kernel_rfl) (fun _ _ _ h => h) (Or.inl ⟨by rfl, ?_⟩) (by assumption) ?_
        rotate_left
        · intro wz hSz; (try dsimp only at hSz); go_simp; all_goals (with_reducible rfl)
        (try simp only [Act.put, List.setIfInBounds_toArray, List.set_cons_zero, List.set_cons_succ])
        refine wpAnyH_take (i := 2) (oi := { dst := some 49, op := Op.move (Operand.tmp 4), type := 3, pos := "step.go:123", after := #[], guard := none }) (v := ?_) rfl (by kernel_rfl) (by kernel_rfl) (by kernel_rfl) (fun _ _ _ h => h) (Or.inl ⟨by rfl, ?_⟩) (by assumption) ?_
        rotate_left
        · intro wz hSz; (try dsimp only at hSz); go_simp; all_goals (with_reducible rfl)
        (try simp only [Act.put, List.setIfInBounds_toArray, List.set_cons_zero, List.set_cons_succ])
        refine wpAnyH_take (i := 3) (oi := { dst := some 50, op := Op.move (Operand.tmp 0), type := 85, pos := "step.go:123", after := #[], guard := none }) (v := ?_) rfl (by kernel_rfl) (by kernel_rfl) (by kernel_rfl) (fun _ _ _ h => h) (Or.inl ⟨by rfl, ?_⟩) (by assumption) ?_
        rotate_left
        · intro wz hSz; (try dsimp only at hSz); go_simp; all_goals (with_reducible rfl)
        (try simp only [Act.put, List.setIfInBounds_toArray, List.set_cons_zero, List.set_cons_succ])
        refine wpAnyH_take (i := 4) (oi := { dst := some 51, op := Op.nilCheck (Operand.tmp 50), type := 0, pos := "step.go:123", after := #[{ on := 3, ground := Ground.data }], guard := none }) (v := ?_) rfl (by kernel_rfl) (by kernel_rfl) (by kernel_rfl) (fun _ _ _ h => h) (Or.inl ⟨by rfl, ?_⟩) (by assumption) ?_
        rotate_left
        · intro wz hSz; (try dsimp only at hSz); go_simp; all_goals (with_reducible rfl)
        (try simp only [Act.put, List.setIfInBounds_toArray, List.set_cons_zero, List.set_cons_succ])
        refine wpAnyH_take (i := 5) (oi := { dst := some 52, op := Op.fieldAddr 87 (Operand.tmp 51) 1, type := 0, pos := "step.go:123", after := #[{ on := 4, ground := Ground.data }], guard := none }) (v := ?_) rfl (by kernel_rfl) (by kernel_rfl) (by kernel_rfl) (fun _ _ _ h => h) (Or.inl ⟨by rfl, ?_⟩) (by assumption) ?_
        rotate_left
        · intro wz hSz; (try dsimp only at hSz); go_simp; all_goals (with_reducible rfl)
        (try simp only [Act.put, List.setIfInBounds_toArray, List.set_cons_zero, List.set_cons_succ])
        refine wpAnyH_take (i := 6) (oi := { dst := some 53, op := Op.fieldAddr 37 (Operand.tmp 52) 1, type := 0, pos := "step.go:123", after := #[{ on := 5, ground := Ground.data }], guard := none }) (v := ?_) rfl (by kernel_rfl) (by kernel_rfl) (by kernel_rfl) (fun _ _ _ h => h) (Or.inl ⟨by rfl, ?_⟩) (by assumption) ?_
        rotate_left
        · intro wz hSz; (try dsimp only at hSz); go_simp; all_goals (with_reducible rfl)
        (try simp only [Act.put, List.setIfInBounds_toArray, List.set_cons_zero, List.set_cons_succ])
        refine wpAnyH_take (i := 7) (oi := { dst := some 54, op := Op.load 35 (Operand.tmp 53), type := 35, pos := "step.go:123", after := #[{ on := 6, ground := Ground.data }], guard := none }) (v := ?_) rfl (by kernel_rfl) (by kernel_rfl) (by kernel_rfl) (fun _ _ _ h => h) (Or.inl ⟨by rfl, ?_⟩) (by assumption) ?_
        rotate_left
        · intro wz hSz; (try dsimp only at hSz); go_simp; all_goals (with_reducible rfl)
        (try simp only [Act.put, List.setIfInBounds_toArray, List.set_cons_zero, List.set_cons_succ])
        refine wpAnyH_take (i := 8) (oi := { dst := some 55, op := Op.move (Operand.tmp 4), type := 3, pos := "step.go:123", after := #[], guard := none }) (v := ?_) rfl (by kernel_rfl) (by kernel_rfl) (by kernel_rfl) (fun _ _ _ h => h) (Or.inl ⟨by rfl, ?_⟩) (by assumption) ?_
        rotate_left
        · intro wz hSz; (try dsimp only at hSz); go_simp; all_goals (with_reducible rfl)
        (try simp only [Act.put, List.setIfInBounds_toArray, List.set_cons_zero, List.set_cons_succ])
        refine wpAnyH_take (i := 9) (oi := { dst := some 56, op := Op.indexAddr 35 (Operand.tmp 54) (Operand.tmp 55), type := 0, pos := "step.go:123", after := #[{ on := 7, ground := Ground.data }, { on := 8, ground := Ground.data }], guard := none }) (v := ?_) rfl (by kernel_rfl) (by kernel_rfl) (by kernel_rfl) (fun _ _ _ h => h) (Or.inl ⟨by rfl, ?_⟩) (by assumption) ?_
        rotate_left
        · intro wz hSz; (try dsimp only at hSz); go_simp; all_goals (with_reducible rfl)
        (try simp only [Act.put, List.setIfInBounds_toArray, List.set_cons_zero, List.set_cons_succ])
        refine wpAnyH_take (i := 10) (oi := { dst := some 57, op := Op.load 21 (Operand.tmp 56), type := 21, pos := "step.go:123", after := #[{ on := 9, ground := Ground.data }], guard := none }) (v := ?_) rfl (by kernel_rfl) (by kernel_rfl) (by kernel_rfl) (fun _ _ _ h => h) (Or.inl ⟨by rfl, ?_⟩) (by assumption) ?_
        rotate_left
        · intro wz hSz; (try dsimp only at hSz); go_simp; all_goals (with_reducible rfl)
        (try simp only [Act.put, List.setIfInBounds_toArray, List.set_cons_zero, List.set_cons_succ])
        refine wpAnyH_ready (rs := [11]) (by kernel_rfl) (by simp) ?_
        refine AllReadyH.cons (o := { dst := some 58, op := Op.call { callee := Callee.value (Operand.func 64), args := #[Operand.tmp 57], argTypes := #[21] }, type := 21, pos := "step.go:123", after := #[{ on := 10, ground := Ground.data }], guard := none }) rfl (fun K hK => ?_) AllReadyH.nil
        go_simp
        (go_at_call 64; (with_reducible refine Calls.mono (hUI _) ?_); rintro e w2 ⟨rfl, rfl⟩)
        go_wp2_with fail
        refine hK.out _ _ ?_ (fun hHeld => ?_)
        · (try dsimp only)
          exact ⟨has7 (Bq _ hbA.drew), has3 HxA.drew, (hPI _ hbA.drew)⟩
        clear hK K
        (try simp only [Act.put, List.setIfInBounds_toArray, List.set_cons_zero, List.set_cons_succ])
        refine wpAnyH_take (i := 12) (oi := { dst := some 59, op := Op.indexAddr 35 (Operand.tmp 48) (Operand.tmp 49), type := 0, pos := "step.go:123", after := #[{ on := 1, ground := Ground.data }, { on := 2, ground := Ground.data }, { on := 0, ground := Ground.phase }, { on := 1, ground := Ground.phase }, { on := 2, ground := Ground.phase }, { on := 3, ground := Ground.phase }, { on := 4, ground := Ground.phase }, { on := 5, ground := Ground.phase }, { on := 6, ground := Ground.phase }, { on := 7, ground := Ground.phase }, { on := 8, ground := Ground.phase }, { on := 9, ground := Ground.phase }, { on := 10, ground := Ground.phase }, { on := 11, ground := Ground.phase }], guard := none }) (v := ?_) rfl (by kernel_rfl) (by kernel_rfl) (by kernel_rfl) (fun _ _ _ h => h) (Or.inl ⟨by rfl, ?_⟩) (by assumption) ?_
        rotate_left
        · intro wz hSz; (try dsimp only at hSz); go_simp; all_goals (with_reducible rfl)
        (try simp only [Act.put, List.setIfInBounds_toArray, List.set_cons_zero, List.set_cons_succ])
        refine wpAnyH_ready (rs := [13]) (by kernel_rfl) (by simp) ?_
        refine AllReadyH.cons (o := { dst := none, op := Op.store 21 (Operand.tmp 59) (Operand.tmp 58), type := 0, pos := "step.go:123", after := #[{ on := 12, ground := Ground.data }, { on := 11, ground := Ground.data }, { on := 11, ground := Ground.chain }, { on := 0, ground := Ground.phase }, { on := 1, ground := Ground.phase }, { on := 2, ground := Ground.phase }, { on := 3, ground := Ground.phase }, { on := 4, ground := Ground.phase }, { on := 5, ground := Ground.phase }, { on := 6, ground := Ground.phase }, { on := 7, ground := Ground.phase }, { on := 8, ground := Ground.phase }, { on := 9, ground := Ground.phase }, { on := 10, ground := Ground.phase }, { on := 11, ground := Ground.phase }], guard := none }) rfl (fun K hK => ?_) AllReadyH.nil
        go_simp
        refine hK.out _ _ ?_ (fun hHeld => ?_)
        · (try dsimp only)
          exact ⟨has7 (Bq _ (hbA.drew.setCell (p := ⟨p0, k, none⟩) (by simp; omega) _)), has3 (HxA.drew.far (Ne.symm n0p) _), hPI _ (hbA.drew.setCell (p := ⟨p0, k, none⟩) (by simp; omega) _)⟩
        clear hK K
        (try simp only [Act.put, List.setIfInBounds_toArray, List.set_cons_zero, List.set_cons_succ])
        refine wpAnyH_done (by kernel_rfl) ?_ _
        refine NoPanic.normal ?_
        have own2b := (own_st32 own2a hkG ui).drew
        have own3b := (own_far (i := k) (u := .int .i32 ui) own3a (Ne.symm n01)).drew
        have HxB := (HxA.far (i := k) (Ne.symm n0p) (.int .i32 ui)).drew
        have RzB := (RzA.far (c := p0) (i := k) (by omega) (.int .i32 ui)).drew
        have hbB : Below w.heap.size w (WA.setCell ⟨p0, k, none⟩ (.int .i32 ui)).drew := (hbA.setCell (p := ⟨p0, k, none⟩) (by simp; omega) _).drew
        go_upto_region 8 with fail
        generalize (WA.setCell ⟨p0, k, none⟩ (.int .i32 ui)).drew = WB at *
        clear z2 hfz2
        by_cases d2 : yn = 2
        · subst d2
          rw [if_pos rfl] at aw1
          go_wp2_with fail
          go_roundw
          case rel => exact ⟨k + 1, _, fw, by omega, by go_num, own2b, own3b, (fun j hj => by by_cases e : j = k <;> simp [e, in1]; exact fil2.out j (by omega)), (fun j => by have := fil3.out j; rw [this]; by_cases e : j = k <;> by_cases e2 : j < k <;> simp [e, e2, aw1] <;> omega), HxB, RzB, hbB⟩
          case measure => simp [intOf]; omega
        · have D2 : (yn != 2) = true := by simpa using d2
          rw [if_neg d2] at aw1
          have own3c := own_some own3b.drew k (by omega)
          obtain ⟨y3, z3⟩ := own3c
          have hfz3 := own3b.drew.frozenAt
          go_upto_region 9 with fail
          refine wp_region_noPanic ?_
          refine wp_region_held_drew (S := fun w' => (w'.cell? ⟨b, 0, none⟩ = some (vg) ∧ w'.cell? ⟨b, 1, none⟩ = some (vc) ∧ w'.cell? ⟨b, 2, none⟩ = some (.slice (some ⟨gA, oA, none⟩) A.length cA) ∧ w'.cell? ⟨b, 3, none⟩ = some (.slice (some ⟨gI, oI, none⟩) I.length cI) ∧ w'.cell? ⟨b, 4, none⟩ = some (.slice (some ⟨gW, oW, none⟩) W.length cW) ∧ w'.cell? ⟨b, 5, none⟩ = some (.int .u64 (M : Int)) ∧ w'.cell? ⟨b, 6, none⟩ = some (.slice (some ⟨r, 0, none⟩) G.length G.length)) ∧ (w'.cell? ⟨p, 0, none⟩ = some (.slice (some ⟨r, 0, none⟩) G.length G.length) ∧ w'.cell? ⟨p, 1, none⟩ = some (.slice (some ⟨p0, 0, none⟩) G.length G.length) ∧ w'.cell? ⟨p, 2, none⟩ = some (.slice (some ⟨p1, 0, none⟩) G.length G.length)) ∧ w'.cell? ⟨gW, oW + k, none⟩ = some (.int .i32 yw)) (by kernel_rfl) ?_ (fun hHeld => ?_)
          · (try dsimp only)
            exact ⟨has7 (Bq _ hbB.drew), has3 HxB.drew, (hPW _ hbB.drew)⟩
          refine wpAnyH_take (i := 0) (oi := { dst := some 62, op := Op.fieldAddr 37 (Operand.tmp 3) 2, type := 0, pos := "step.go:126", after := #[], guard := none }) (v := ?_) rfl (by kernel_rfl) (by kernel_rfl) (by kernel_rfl) (fun _ _ _ h => h) (Or.inl ⟨by rfl, ?_⟩) (by assumption) ?_
          rotate_left
          · intro wz hSz; (try dsimp only at hSz); go_simp; all_goals (with_reducible rfl)
          (try simp only [Act.put, List.setIfInBounds_toArray, List.set_cons_zero, List.set_cons_succ])
          refine wpAnyH_take (i := 1) (oi := { dst := some 63, op := Op.load 35 (Operand.tmp 62), type := 35, pos := "step.go:126", after := #[{ on := 0, ground := Ground.data }], guard := none }) (v := ?_) rfl (by kernel_rfl) (by kernel_rfl) (by kernel_rfl) (fun _ _ _ h => h) (Or.inl ⟨by rfl, ?_⟩) (by assumption) ?_
          rotate_left
          · intro wz hSz; (try dsimp only at hSz); go_simp; all_goals (with_reducible rfl)
          (try simp only [Act.put, List.setIfInBounds_toArray, List.set_cons_zero, List.set_cons_succ])
          refine wpAnyH_take (i := 2) (oi := { dst := some 64, op := Op.move (Operand.tmp 4), type := 3, pos := "step.go:126", after := #[], guard := none }) (v := ?_) rfl (by kernel_rfl) (by kernel_rfl) (by kernel_rfl) (fun _ _ _ h => h) (Or.inl ⟨by rfl, ?_⟩) (by assumption) ?_
          rotate_left
          · intro wz hSz; (try dsimp only at hSz); go_simp; all_goals (with_reducible rfl)
          (try simp only [Act.put, List.setIfInBounds_toArray, List.set_cons_zero, List.set_cons_succ])
          refine wpAnyH_take (i := 3) (oi := { dst := some 65, op := Op.move (Operand.tmp 0), type := 85, pos := "step.go:126", after := #[], guard := none }) (v := ?_) rfl (by kernel_rfl) (by kernel_rfl) (by kernel_rfl) (fun _ _ _ h => h) (Or.inl ⟨by rfl, ?_⟩) (by assumption) ?_
          rotate_left
          · intro wz hSz; (try dsimp only at hSz); go_simp; all_goals (with_reducible rfl)
          (try simp only [Act.put, List.setIfInBounds_toArray, List.set_cons_zero, List.set_cons_succ])
          refine wpAnyH_take (i := 4) (oi := { dst := some 66, op := Op.nilCheck (Operand.tmp 65), type := 0, pos := "step.go:126", after := #[{ on := 3, ground := Ground.data }], guard := none }) (v := ?_) rfl (by kernel_rfl) (by kernel_rfl) (by kernel_rfl) (fun _ _ _ h => h) (Or.inl ⟨by rfl, ?_⟩) (by assumption) ?_
          rotate_left
          · intro wz hSz; (try dsimp only at hSz); go_simp; all_goals (with_reducible rfl)
          (try simp only [Act.put, List.setIfInBounds_toArray, List.set_cons_zero, List.set_cons_succ])
          refine wpAnyH_take (i := 5) (oi := { dst := some 67, op := Op.fieldAddr 87 (Operand.tmp 66) 1, type := 0, pos := "step.go:126", after := #[{ on := 4, ground := Ground.data }], guard := none }) (v := ?_) rfl (by kernel_rfl) (by kernel_rfl) (by kernel_rfl) (fun _ _ _ h => h) (Or.inl ⟨by rfl, ?_⟩) (by assumption) ?_
          rotate_left
          · intro wz hSz; (try dsimp only at hSz); go_simp; all_goals (with_reducible rfl)
          (try simp only [Act.put, List.setIfInBounds_toArray, List.set_cons_zero, List.set_cons_succ])
          refine wpAnyH_take (i := 6) (oi := { dst := some 68, op := Op.fieldAddr 37 (Operand.tmp 67) 2, type := 0, pos := "step.go:126", after := #[{ on := 5, ground := Ground.data }], guard := none }) (v := ?_) rfl (by kernel_rfl) (by kernel_rfl) (by kernel_rfl) (fun _ _ _ h => h) (Or.inl ⟨by rfl, ?_⟩) (by assumption) ?_
          rotate_left
          · intro wz hSz; (try dsimp only at hSz); go_simp; all_goals (with_reducible rfl)
          (try simp only [Act.put, List.setIfInBounds_toArray, List.set_cons_zero, List.set_cons_succ])
          refine wpAnyH_take (i := 7) (oi := { dst := some 69, op := Op.load 35 (Operand.tmp 68), type := 35, pos := "step.go:126", after := #[{ on := 6, ground := Ground.data }], guard := none }) (v := ?_) rfl (by kernel_rfl) (by kernel_rfl) (by kernel_rfl) (fun _ _ _ h => h) (Or.inl ⟨by rfl, ?_⟩) (by assumption) ?_
          rotate_left
          · intro wz hSz; (try dsimp only at hSz); go_simp; all_goals (with_reducible rfl)
          (try simp only [Act.put, List.setIfInBounds_toArray, List.set_cons_zero, List.set_cons_succ])
          refine wpAnyH_take (i := 8) (oi := { dst := some 70, op := Op.move (Operand.tmp 4), type := 3, pos := "step.go:126", after := #[], guard := none }) (v := ?_) rfl (by kernel_rfl) (by kernel_rfl) (by kernel_rfl) (fun _ _ _ h => h) (Or.inl ⟨by rfl, ?_⟩) (by assumption) ?_
          rotate_left
          · intro wz hSz; (try dsimp only at hSz); go_simp; all_goals (with_reducible rfl)
          (try simp only [Act.put, List.setIfInBounds_toArray, List.set_cons_zero, List.set_cons_succ])
          refine wpAnyH_take (i := 9) (oi := { dst := some 71, op := Op.indexAddr 35 (Operand.tmp 69) (Operand.tmp 70), type := 0, pos := "step.go:126", after := #[{ on := 7, ground := Ground.data }, { on := 8, ground := Ground.data }], guard := none }) (v := ?_) rfl (by kernel_rfl) (by kernel_rfl) (by kernel_rfl) (fun _ _ _ h => h) (Or.inl ⟨by rfl, ?_⟩) (by assumption) ?_
          rotate_left
          · intro wz hSz; (try dsimp only at hSz); go_simp; all_goals (with_reducible rfl)
          (try simp only [Act.put, List.setIfInBounds_toArray, List.set_cons_zero, List.set_cons_succ])
          refine wpAnyH_take (i := 10) (oi := { dst := some 72, op := Op.load 21 (Operand.tmp 71), type := 21, pos := "step.go:126", after := #[{ on := 9, ground := Ground.data }], guard := none }) (v := ?_) rfl (by kernel_rfl) (by kernel_rfl) (by kernel_rfl) (fun _ _ _ h => h) (Or.inl ⟨by rfl, ?_⟩) (by assumption) ?_
          rotate_left
          · intro wz hSz; (try dsimp only at hSz); go_simp; all_goals (with_reducible rfl)
          (try simp only [Act.put, List.setIfInBounds_toArray, List.set_cons_zero, List.set_cons_succ])
          refine wpAnyH_ready (rs := [11]) (by kernel_rfl) (by simp) ?_
          refine AllReadyH.cons (o := { dst := some 73, op := Op.call { callee := Callee.value (Operand.func 64), args := #[Operand.tmp 72], argTypes := #[21] }, type := 21, pos := "step.go:126", after := #[{ on := 10, ground := Ground.data }], guard := none }) rfl (fun K hK => ?_) AllReadyH.nil
          go_simp
          (go_at_call 64; (with_reducible refine Calls.mono (hUW _) ?_); rintro e w2 ⟨rfl, rfl⟩)
          go_wp2_with fail
          refine hK.out _ _ ?_ (fun hHeld => ?_)
          · (try dsimp only)
            exact ⟨has7 (Bq _ hbB.drew), has3 HxB.drew, (hPW _ hbB.drew)⟩
          clear hK K
          (try simp only [Act.put, List.setIfInBounds_toArray, List.set_cons_zero, List.set_cons_succ])
          refine wpAnyH_take (i := 12) (oi := { dst := some 74, op := Op.indexAddr 35 (Operand.tmp 63) (Operand.tmp 64), type := 0, pos := "step.go:126", after := #[{ on := 1, ground := Ground.data }, { on := 2, ground := Ground.data }, { on := 0, ground := Ground.phase }, { on := 1, ground := Ground.phase }, { on := 2, ground := Ground.phase }, { on := 3, ground := Ground.phase }, { on := 4, ground := Ground.phase }, { on := 5, ground := Ground.phase }, { on := 6, ground := Ground.phase }, { on := 7, ground := Ground.phase }, { on := 8, ground := Ground.phase }, { on := 9, ground := Ground.phase }, { on := 10, ground := Ground.phase }, { on := 11, ground := Ground.phase }], guard := none }) (v := ?_) rfl (by kernel_rfl) (by kernel_rfl) (by kernel_rfl) (fun _ _ _ h => h) (Or.inl ⟨by rfl, ?_⟩) (by assumption) ?_
          rotate_left
          · intro wz hSz; (try dsimp only at hSz); go_simp; all_goals (with_reducible rfl)
          (try simp only [Act.put, List.setIfInBounds_toArray, List.set_cons_zero, List.set_cons_succ])
          refine wpAnyH_ready (rs := [13]) (by kernel_rfl) (by simp) ?_
          refine AllReadyH.cons (o := { dst := none, op := Op.store 21 (Operand.tmp 74) (Operand.tmp 73), type := 0, pos := "step.go:126", after := #[{ on := 12, ground := Ground.data }, { on := 11, ground := Ground.data }, { on := 11, ground := Ground.chain }, { on := 0, ground := Ground.phase }, { on := 1, ground := Ground.phase }, { on := 2, ground := Ground.phase }, { on := 3, ground := Ground.phase }, { on := 4, ground := Ground.phase }, { on := 5, ground := Ground.phase }, { on := 6, ground := Ground.phase }, { on := 7, ground := Ground.phase }, { on := 8, ground := Ground.phase }, { on := 9, ground := Ground.phase }, { on := 10, ground := Ground.phase }, { on := 11, ground := Ground.phase }], guard := none }) rfl (fun K hK => ?_) AllReadyH.nil
          go_simp
          refine hK.out _ _ ?_ (fun hHeld => ?_)
          · (try dsimp only)
            exact ⟨has7 (Bq _ (hbB.drew.setCell (p := ⟨p1, k, none⟩) (by simp; omega) _)), has3 (HxB.drew.far (Ne.symm n1p) _), hPW _ (hbB.drew.setCell (p := ⟨p1, k, none⟩) (by simp; omega) _)⟩
          clear hK K
          (try simp only [Act.put, List.setIfInBounds_toArray, List.set_cons_zero, List.set_cons_succ])
          refine wpAnyH_done (by kernel_rfl) ?_ _
          refine NoPanic.normal ?_
          go_wp2_with fail
          go_roundw
          case rel => exact ⟨k + 1, _, _, by omega, by go_num, (own_far own2b n01).drew, (own_st32 own3b hkG _).drew, (fun j hj => by by_cases e : j = k <;> simp [e, in1]; exact fil2.out j (by omega)), (fun j => by have := fil3.out j; (try dsimp only); rw [this]; by_cases e : j = k <;> by_cases e2 : j < k <;> simp [e, e2, aw1] <;> omega), (HxB.far (Ne.symm n1p) _).drew, (RzB.far (by omega) _).drew, (hbB.setCell (p := ⟨p1, k, none⟩) (by simp; omega) _).drew⟩
          case measure => simp [intOf]; omega
      · have D1 : (yn == ya) = false := by simpa using d1
        rw [if_neg d1] at in1
        go_upto_region 8 with fail
        clear b1 xA
        by_cases d2 : yn = 2
        · subst d2
          rw [if_pos rfl] at aw1
          go_wp2_with fail
          go_roundw
          case rel => exact ⟨k + 1, _, fw, by omega, by go_num, own2a, own3a, (fun j hj => by by_cases e : j = k <;> simp [e, in1]; exact fil2.out j (by omega)), (fun j => by have := fil3.out j; rw [this]; by_cases e : j = k <;> by_cases e2 : j < k <;> simp [e, e2, aw1] <;> omega), HxA, RzA, hbA⟩
          case measure => simp [intOf]; omega
        · have D2 : (yn != 2) = true := by simpa using d2
          rw [if_neg d2] at aw1
          have own3c := own_some own3a.drew k (by omega)
          obtain ⟨y3, z3⟩ := own3c
          have hfz3 := own3a.drew.frozenAt
          go_upto_region 9 with fail
          refine wp_region_noPanic ?_
          refine wp_region_held_drew (S := fun w' => (w'.cell? ⟨b, 0, none⟩ = some (vg) ∧ w'.cell? ⟨b, 1, none⟩ = some (vc) ∧ w'.cell? ⟨b, 2, none⟩ = some (.slice (some ⟨gA, oA, none⟩) A.length cA) ∧ w'.cell? ⟨b, 3, none⟩ = some (.slice (some ⟨gI, oI, none⟩) I.length cI) ∧ w'.cell? ⟨b, 4, none⟩ = some (.slice (some ⟨gW, oW, none⟩) W.length cW) ∧ w'.cell? ⟨b, 5, none⟩ = some (.int .u64 (M : Int)) ∧ w'.cell? ⟨b, 6, none⟩ = some (.slice (some ⟨r, 0, none⟩) G.length G.length)) ∧ (w'.cell? ⟨p, 0, none⟩ = some (.slice (some ⟨r, 0, none⟩) G.length G.length) ∧ w'.cell? ⟨p, 1, none⟩ = some (.slice (some ⟨p0, 0, none⟩) G.length G.length) ∧ w'.cell? ⟨p, 2, none⟩ = some (.slice (some ⟨p1, 0, none⟩) G.length G.length)) ∧ w'.cell? ⟨gW, oW + k, none⟩ = some (.int .i32 yw)) (by kernel_rfl) ?_ (fun hHeld => ?_)
          · (try dsimp only)
            exact ⟨has7 (Bq _ hbA.drew), has3 HxA.drew, (hPW _ hbA.drew)⟩
          refine wpAnyH_take (i := 0) (oi := { dst := some 62, op := Op.fieldAddr 37 (Operand.tmp 3) 2, type := 0, pos := "step.go:126", after := #[], guard := none }) (v := ?_) rfl (by kernel_rfl) (by kernel_rfl) (by kernel_rfl) (fun _ _ _ h => h) (Or.inl ⟨by rfl, ?_⟩) (by assumption) ?_
          rotate_left
          · intro wz hSz; (try dsimp only at hSz); go_simp; all_goals (with_reducible rfl)
          (try simp only [Act.put, List.setIfInBounds_toArray, List.set_cons_zero, List.set_cons_succ])
          refine wpAnyH_take (i := 1) (oi := { dst := some 63, op := Op.load 35 (Operand.tmp 62), type := 35, pos := "step.go:126", after := #[{ on := 0, ground := Ground.data }], guard := none }) (v := ?_) rfl (by kernel_rfl) (by kernel_rfl) (by kernel_rfl) (fun _ _ _ h => h) (Or.inl ⟨by rfl, ?_⟩) (by assumption) ?_
          rotate_left
          · intro wz hSz; (try dsimp only at hSz); go_simp; all_goals (with_reducible rfl)
          (try simp only [Act.put, List.setIfInBounds_toArray, List.set_cons_zero, List.set_cons_succ])
          refine wpAnyH_take (i := 2) (oi := { dst := some 64, op := Op.move (Operand.tmp 4), type := 3, pos := "step.go:126", after := #[], guard := none }) (v := ?_) rfl (by kernel_rfl) (by kernel_rfl) (by kernel_rfl) (fun _ _ _ h => h) (Or.inl ⟨by rfl, ?_⟩) (by assumption) ?_
          rotate_left
          · intro wz hSz; (try dsimp only at hSz); go_simp; all_goals (with_reducible rfl)
          (try simp only [Act.put, List.setIfInBounds_toArray, List.set_cons_zero, List.set_cons_succ])
          refine wpAnyH_take (i := 3) (oi := { dst := some 65, op := Op.move (Operand.tmp 0), type := 85, pos := "step.go:126", after := #[], guard := none }) (v := ?_) rfl (by kernel_rfl) (by kernel_rfl) (by kernel_rfl) (fun _ _ _ h => h) (Or.inl ⟨by rfl, ?_⟩) (by assumption) ?_
          rotate_left
          · intro wz hSz; (try dsimp only at hSz); go_simp; all_goals (with_reducible rfl)
          (try simp only [Act.put, List.setIfInBounds_toArray, List.set_cons_zero, List.set_cons_succ])
          refine wpAnyH_take (i := 4) (oi := { dst := some 66, op := Op.nilCheck (Operand.tmp 65), type := 0, pos := "step.go:126", after := #[{ on := 3, ground := Ground.data }], guard := none }) (v := ?_) rfl (by kernel_rfl) (by kernel_rfl) (by kernel_rfl) (fun _ _ _ h => h) (Or.inl ⟨by rfl, ?_⟩) (by assumption) ?_
          rotate_left
          · intro wz hSz; (try dsimp only at hSz); go_simp; all_goals (with_reducible rfl)
          (try simp only [Act.put, List.setIfInBounds_toArray, List.set_cons_zero, List.set_cons_succ])
          refine wpAnyH_take (i := 5) (oi := { dst := some 67, op := Op.fieldAddr 87 (Operand.tmp 66) 1, type := 0, pos := "step.go:126", after := #[{ on := 4, ground := Ground.data }], guard := none }) (v := ?_) rfl (by kernel_rfl) (by kernel_rfl) (by kernel_rfl) (fun _ _ _ h => h) (Or.inl ⟨by rfl, ?_⟩) (by assumption) ?_
          rotate_left
          · intro wz hSz; (try dsimp only at hSz); go_simp; all_goals (with_reducible rfl)
          (try simp only [Act.put, List.setIfInBounds_toArray, List.set_cons_zero, List.set_cons_succ])
          refine wpAnyH_take (i := 6) (oi := { dst := some 68, op := Op.fieldAddr 37 (Operand.tmp 67) 2, type := 0, pos := "step.go:126", after := #[{ on := 5, ground := Ground.data }], guard := none }) (v := ?_) rfl (by kernel_rfl) (by kernel_rfl) (by kernel_rfl) (fun _ _ _ h => h) (Or.inl ⟨by rfl, ?_⟩) (by assumption) ?_
          rotate_left
          · intro wz hSz; (try dsimp only at hSz); go_simp; all_goals (with_reducible rfl)
          (try simp only [Act.put, List.setIfInBounds_toArray, List.set_cons_zero, List.set_cons_succ])
          refine wpAnyH_take (i := 7) (oi := { dst := some 69, op := Op.load 35 (Operand.tmp 68), type := 35, pos := "step.go:126", after := #[{ on := 6, ground := Ground.data }], guard := none }) (v := ?_) rfl (by kernel_rfl) (by kernel_rfl) (by kernel_rfl) (fun _ _ _ h => h) (Or.inl ⟨by rfl, ?_⟩) (by assumption) ?_
          rotate_left
          · intro wz hSz; (try dsimp only at hSz); go_simp; all_goals (with_reducible rfl)
          (try simp only [Act.put, List.setIfInBounds_toArray, List.set_cons_zero, List.set_cons_succ])
          refine wpAnyH_take (i := 8) (oi := { dst := some 70, op := Op.move (Operand.tmp 4), type := 3, pos := "step.go:126", after := #[], guard := none }) (v := ?_) rfl (by kernel_rfl) (by kernel_rfl) (by kernel_rfl) (fun _ _ _ h => h) (Or.inl ⟨by rfl, ?_⟩) (by assumption) ?_
          rotate_left
          · intro wz hSz; (try dsimp only at hSz); go_simp; all_goals (with_reducible rfl)
          (try simp only [Act.put, List.setIfInBounds_toArray, List.set_cons_zero, List.set_cons_succ])
          refine wpAnyH_take (i := 9) (oi := { dst := some 71, op := Op.indexAddr 35 (Operand.tmp 69) (Operand.tmp 70), type := 0, pos := "step.go:126", after := #[{ on := 7, ground := Ground.data }, { on := 8, ground := Ground.data }], guard := none }) (v := ?_) rfl (by kernel_rfl) (by kernel_rfl) (by kernel_rfl) (fun _ _ _ h => h) (Or.inl ⟨by rfl, ?_⟩) (by assumption) ?_
          rotate_left
          · intro wz hSz; (try dsimp only at hSz); go_simp; all_goals (with_reducible rfl)
          (try simp only [Act.put, List.setIfInBounds_toArray, List.set_cons_zero, List.set_cons_succ])
          refine wpAnyH_take (i := 10) (oi := { dst := some 72, op := Op.load 21 (Operand.tmp 71), type := 21, pos := "step.go:126", after := #[{ on := 9, ground := Ground.data }], guard := none }) (v := ?_) rfl (by kernel_rfl) (by kernel_rfl) (by kernel_rfl) (fun _ _ _ h => h) (Or.inl ⟨by rfl, ?_⟩) (by assumption) ?_
          rotate_left
          · intro wz hSz; (try dsimp only at hSz); go_simp; all_goals (with_reducible rfl)
          (try simp only [Act.put, List.setIfInBounds_toArray, List.set_cons_zero, List.set_cons_succ])
          refine wpAnyH_ready (rs := [11]) (by kernel_rfl) (by simp) ?_
          refine AllReadyH.cons (o := { dst := some 73, op := Op.call { callee := Callee.value (Operand.func 64), args := #[Operand.tmp 72], argTypes := #[21] }, type := 21, pos := "step.go:126", after := #[{ on := 10, ground := Ground.data }], guard := none }) rfl (fun K hK => ?_) AllReadyH.nil
          go_simp
          (go_at_call 64; (with_reducible refine Calls.mono (hUW _) ?_); rintro e w2 ⟨rfl, rfl⟩)
          go_wp2_with fail
          refine hK.out _ _ ?_ (fun hHeld => ?_)
          · (try dsimp only)
            exact ⟨has7 (Bq _ hbA.drew), has3 HxA.drew, (hPW _ hbA.drew)⟩
          clear hK K
          (try simp only [Act.put, List.setIfInBounds_toArray, List.set_cons_zero, List.set_cons_succ])
          refine wpAnyH_take (i := 12) (oi := { dst := some 74, op := Op.indexAddr 35 (Operand.tmp 63) (Operand.tmp 64), type := 0, pos := "step.go:126", after := #[{ on := 1, ground := Ground.data }, { on := 2, ground := Ground.data }, { on := 0, ground := Ground.phase }, { on := 1, ground := Ground.phase }, { on := 2, ground := Ground.phase }, { on := 3, ground := Ground.phase }, { on := 4, ground := Ground.phase }, { on := 5, ground := Ground.phase }, { on := 6, ground := Ground.phase }, { on := 7, ground := Ground.phase }, { on := 8, ground := Ground.phase }, { on := 9, ground := Ground.phase }, { on := 10, ground := Ground.phase }, { on := 11, ground := Ground.phase }], guard := none }) (v := ?_) rfl (by kernel_rfl) (by kernel_rfl) (by kernel_rfl) (fun _ _ _ h => h) (Or.inl ⟨by rfl, ?_⟩) (by assumption) ?_
          rotate_left
          · intro wz hSz; (try dsimp only at hSz); go_simp; all_goals (with_reducible rfl)
          (try simp only [Act.put, List.setIfInBounds_toArray, List.set_cons_zero, List.set_cons_succ])
          refine wpAnyH_ready (rs := [13]) (by kernel_rfl) (by simp) ?_
          refine AllReadyH.cons (o := { dst := none, op := Op.store 21 (Operand.tmp 74) (Operand.tmp 73), type := 0, pos := "step.go:126", after := #[{ on := 12, ground := Ground.data }, { on := 11, ground := Ground.data }, { on := 11, ground := Ground.chain }, { on := 0, ground := Ground.phase }, { on := 1, ground := Ground.phase }, { on := 2, ground := Ground.phase }, { on := 3, ground := Ground.phase }, { on := 4, ground := Ground.phase }, { on := 5, ground := Ground.phase }, { on := 6, ground := Ground.phase }, { on := 7, ground := Ground.phase }, { on := 8, ground := Ground.phase }, { on := 9, ground := Ground.phase }, { on := 10, ground := Ground.phase }, { on := 11, ground := Ground.phase }], guard := none }) rfl (fun K hK => ?_) AllReadyH.nil
          go_simp
          refine hK.out _ _ ?_ (fun hHeld => ?_)
          · (try dsimp only)
            exact ⟨has7 (Bq _ (hbA.drew.setCell (p := ⟨p1, k, none⟩) (by simp; omega) _)), has3 (HxA.drew.far (Ne.symm n1p) _), hPW _ (hbA.drew.setCell (p := ⟨p1, k, none⟩) (by simp; omega) _)⟩
          clear hK K
          (try simp only [Act.put, List.setIfInBounds_toArray, List.set_cons_zero, List.set_cons_succ])
          refine wpAnyH_done (by kernel_rfl) ?_ _
          refine NoPanic.normal ?_
          go_wp2_with fail
          go_roundw
          case rel => exact ⟨k + 1, _, _, by omega, by go_num, (own_far own2a n01).drew, (own_st32 own3a hkG _).drew, (fun j hj => by by_cases e : j = k <;> simp [e, in1]; exact fil2.out j (by omega)), (fun j => by have := fil3.out j; (try dsimp only); rw [this]; by_cases e : j = k <;> by_cases e2 : j < k <;> simp [e, e2, aw1] <;> omega), (HxA.far (Ne.symm n1p) _).drew, (RzA.far (by omega) _).drew, (hbA.setCell (p := ⟨p1, k, none⟩) (by simp; omega) _).drew⟩
          case measure => simp [intOf]; omega
end Go.Proofs.Ythflpnahifpdnaa
