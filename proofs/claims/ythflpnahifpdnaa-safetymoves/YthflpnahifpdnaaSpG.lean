import Derived.Test.YthflpnahifpdnaaSpE
import Derived.Test.YthflpnahifpdnaaSpF
import Derived.Deep.RegionHeld3
import Derived.Deep.MidRow
import Derived.Deep.DeepMust
import Derived.Laws.BitsAllLaws
namespace Go.Proofs.Ythflpnahifpdnaa
open Go.RowKit
set_option linter.unusedVariables false


def updF (f : Nat → Int) (k : Nat) (v : Int) : Nat → Int := fun j => if j = k then v else f j
/-- Does group k start, in the picture f? -/
def startB (C : List Cf) (A W : List Int) (M n : Nat) (f : Nat → Int) (k : Nat) : Bool :=
  decide (A.getD k 0 = 0) && (M.testBit k && (!(heldM W C C.length).testBit k && decide (foM C k C.length &&& litM f n = 0)))
def begF (G : List Gp) (C : List Cf) (A W : List Int) (M : Nat) (f0 : Nat → Int) : Nat → (Nat → Int)
  | 0 => f0
  | k + 1 => if startB C A W M G.length (begF G C A W M f0 k) k = true then updF (begF G C A W M f0 k) k (firstF (G.getD k gp0)) else begF G C A W M f0 k
theorem litM_upd {f : Nat → Int} {k n : Nat} {v : Int} (hk : k < n) (hv : v ≠ 0) : litM (updF f k v) n = litM f n ||| 2 ^ k := by
  apply Nat.eq_of_testBit_eq
  intro j
  rw [Nat.testBit_or, litM_bit, litM_bit, Nat.testBit_two_pow]
  unfold updF
  by_cases e : j = k
  · subst e; simp [hk, hv]
  · simp [e, Ne.symm e]
theorem firstF_ne (g : Gp) : firstF g ≠ 0 := by unfold firstF; split <;> decide
theorem has_setCells {g b : Nat} {vs : Array Value} (hg : b ≠ g) : ∀ (cs : List Value) (o : Nat) {w : World}, Has w b vs → Has (w.setCells g o cs) b vs
  | [], _, _, h => h
  | c :: cs, o, w, h => has_setCells hg cs (o + 1) (h.far hg c)
theorem only_setCells {g : Nat} {S : Nat → Prop} {a : World} (hg : a.heap.size ≤ g) : ∀ (cs : List Value) (o : Nat) {w : World}, Only S a w → Only S a (w.setCells g o cs)
  | [], _, _, h => h
  | c :: cs, o, w, h => only_setCells hg cs (o + 1) (h.set_new hg c)
theorem own_setCells {base e size n q : Nat} {v : Value} {xs : List Value} (hq : ∀ g, v.ownBlock = some g → g ≠ q) : ∀ (cs : List Value) (o : Nat) {w : World}, w.ownsRow base e size v n xs → (w.setCells q o cs).ownsRow base e size v n xs
  | [], _, _, h => h
  | c :: cs, o, w, h => own_setCells hq cs (o + 1) (own_only2 h (only_of_set w q o c) (fun g hg => hq g hg))
theorem andNot_nat {a b : Nat} (ha : a < 18446744073709551616) (hb : b < 18446744073709551616) : ∃ z : Nat, bits .andNot .u64 (a : Int) (b : Int) = (z : Int) ∧ z < 18446744073709551616 ∧ ∀ k, k < 64 → z.testBit k = (a.testBit k && !b.testBit k) := by
  refine ⟨a &&& (18446744073709551615 - b), u64_andNot_nat a b ha hb, Nat.lt_of_le_of_lt Nat.and_le_left ha, fun k hk => ?_⟩
  rw [Nat.testBit_and, show 18446744073709551615 - b = 2 ^ 64 - (b + 1) by omega, Nat.testBit_two_pow_sub_succ (by omega)]
  simp [hk]
set_option maxRecDepth 100000 in
set_option maxHeartbeats 4000000 in
theorem begin_any (w : World) (b : Nat) (G : List Gp) (C : List Cf) (A I W : List Int) (M : Nat) (vg vc v1 v2 v3 vn : Value) (hs : Sp w b G C A I W M vg vc v1 v2 v3 vn) (ok : SpOk G C A I W M) (w0 : World) (r : Nat) (f0 : Nat → Int) (hlow : Below w0.heap.size w0 w) (s0 : Fl 5 Gp.cs w0 vg G ∧ Fl 4 Cf.cs w0 vc C ∧ Fl 1 n64 w0 v1 A ∧ Fl 1 n32 w0 v2 I ∧ Fl 1 n32 w0 v3 W) (hvn : vn = .slice (some ⟨r, 0, none⟩) G.length G.length) (hown : w.ownsRow w0.heap.size 3 1 (.slice (some ⟨r, 0, none⟩) G.length G.length) G.length (valR G.length f0)) (hrb : r ≠ b) (hbb : w0.heap.size ≤ b) :
    Calls Try.prog 50 #[.pointer (some ⟨b, 0, none⟩)] w fun e w' => e = .returned (.tuple #[]) ∧ Only (fun q => q = r) w w' ∧ w'.ownsRow w0.heap.size 3 1 (.slice (some ⟨r, 0, none⟩) G.length G.length) G.length (valR G.length (begF G C A W M f0 G.length)) := by
  subst hvn
  have rB := (own_lt hown r rfl)
  have spX : ∀ X : World, Has X b #[vg, vc, v1, v2, v3, .int .u64 (M : Int), .slice (some ⟨r, 0, none⟩) G.length G.length] → Below w0.heap.size w0 X → Sp X b G C A I W M vg vc v1 v2 v3 (.slice (some ⟨r, 0, none⟩) G.length G.length) := fun X h hb => ⟨h, s0.1.below hb, s0.2.1.below hb, s0.2.2.1.below hb, s0.2.2.2.1.below hb, s0.2.2.2.2.below hb⟩
  have Bw := hs.bx
  have h75 := foes_any w b G C A I W M vg vc v1 v2 v3 (.slice (some ⟨r, 0, none⟩) G.length G.length) hs ok
  have h76 := fun (X : World) (h : Sp X b G C A I W M vg vc v1 v2 v3 (.slice (some ⟨r, 0, none⟩) G.length G.length)) => held_any X _ _ _ _ _ _ _ _ _ _ _ _ _ h ok
  have h77 := fun (X : World) (h : Sp X b G C A I W M vg vc v1 v2 v3 (.slice (some ⟨r, 0, none⟩) G.length G.length)) (ho : X.ownsRow w0.heap.size 3 1 (.slice (some ⟨r, 0, none⟩) G.length G.length) G.length (valR G.length f0)) => lit_any X _ _ _ _ _ _ _ _ _ _ _ _ _ h ok w0.heap.size r f0 rfl ho
  have h64 := grid_len ok.grid
  have hHl : heldM W C C.length < 18446744073709551616 := heldM_lt (fun i hi => by obtain ⟨a, b, c, _⟩ := grid_cf ok.grid i hi; omega) _ (Nat.le_refl _)
  have hFl : ∀ i, foM C i C.length < 18446744073709551616 := fun i => foM_lt i (fun i hi => by obtain ⟨a, b, c, _⟩ := grid_cf ok.grid i hi; omega) _ (Nat.le_refl _)
  obtain ⟨vA, cA, eA, kA⟩ := s0.2.2.1.nums
  subst eA
  have la : Hid (A.length = G.length) := ok.la
  have i1 : (A.length : Int) = (G.length : Int) := by have := la.out; omega
  clear hs
  go_enter Try.func50, Try.ntmps50
  go_upto_region 1 with (go_at_call 60; (with_reducible refine Calls.mono h75 ?_); rintro e w1 ⟨rfl, hb1⟩; have B1 := Bw.below hb1; have Lo1 := bel_after hlow hlow.size hb1; have own1 := own_bel hown hb1; have O1 : Only (fun q => q = r) w w1 := Only.of_below hb1; clear hb1)
  go_at_call 61
  (with_reducible refine Calls.mono (h76 _ (by exact spX _ B1 Lo1)) ?_)
  rintro e w2 ⟨rfl, hb2⟩
  have B2 := B1.below hb2
  have Lo2 := bel_after Lo1 Lo1.size hb2
  have own2 := own_bel own1 hb2
  have O2 := O1.below hb2
  have N2 := (Ms.new w2)
  clear hb2
  dsimp only
  rename_i hKK
  refine hKK _ _ ?_
  clear hKK
  refine wpList_alloc_named rfl 96 rfl zer92 alloc92 ?_
  refine wpList_store_mid rfl 96 _ _ rfl w2.heap.size 0 _ rfl rfl (by simpa [msL_len] using N2.there) (by simpa [msL_len] using info92) (all_oneCell_toArray (msL_one _)) ?_
  have N3 := Ms.stored N2 (fun i => foM C i C.length)
  have B3 : Has ((w2.alloc (.cells zer92 96)).setCells w2.heap.size 0 (msL (fun i => foM C i C.length))) b #[vg, vc, .slice vA A.length cA, v2, v3, .int .u64 (M : Int), .slice (some ⟨r, 0, none⟩) G.length G.length] := has_setCells (by have := B2.1; omega) _ _ (B2.alloc _)
  have Lo3 : Below w0.heap.size w0 ((w2.alloc (.cells zer92 96)).setCells w2.heap.size 0 (msL (fun i => foM C i C.length))) := below_setCells _ _ _ (by have := Lo2.size; omega) (Lo2.alloc Lo2.size _)
  have own3 := own_setCells (q := w2.heap.size) (fun q hq => by have e : r = q := (by injection hq); have := O2.size; omega) (msL (fun i => foM C i C.length)) 0 (own2.alloc (.cells zer92 96))
  have O3 : Only (fun q => q = r) w ((w2.alloc (.cells zer92 96)).setCells w2.heap.size 0 (msL (fun i => foM C i C.length))) := only_setCells (by have := O2.size; omega) _ _ (O2.alloc _)
  clear N2
  generalize ((w2.alloc (.cells zer92 96)).setCells w2.heap.size 0 (msL (fun i => foM C i C.length))) = w3 at *
  go_upto_region 1 with fail
  go_upto_region 2 with (go_at_call 62; (with_reducible refine Calls.mono (h77 _ (by exact spX _ B3 Lo3) own3) ?_); rintro e w4 ⟨rfl, rfl⟩)
  obtain ⟨_, c1, _⟩ := id B3
  go_wp2_with fail
  have hrw2 : r < w2.heap.size := by have := O2.size; omega
  clear h75 h76 h77 B1 B2 Lo1 Lo2 own1 own2 O1 O2 c1
  go_loopw [4, 19] (fun m t wr => ∃ (k : Nat) (L : Nat), k ≤ A.length ∧ t = .int .i64 (k : Int) ∧ m = .int .u64 (L : Nat) ∧ Hid (wr.ownsRow w0.heap.size 3 1 (.slice (some ⟨r, 0, none⟩) G.length G.length) G.length (valR G.length (begF G C A W M f0 k))) ∧ Hid (L = litM (begF G C A W M f0 k) G.length) ∧ Hid (Has wr b #[vg, vc, .slice vA A.length cA, v2, v3, .int .u64 (M : Int), .slice (some ⟨r, 0, none⟩) G.length G.length]) ∧ Hid (Ms wr w2.heap.size (fun i => foM C i C.length)) ∧ Hid (Only (fun q => q = r) w wr)) (fun _ t _ => A.length - (intOf t).toNat)
  case atStart => exact ⟨0, _, by omega, rfl, rfl, own3, rfl, B3, N3, O3⟩
  case round =>
    have z23 : w2.heap.size < w4.heap.size := N3.1
    clear B3 N3 O3 own3 Lo3
    obtain ⟨k, L, hkl, rfl, rfl, own, litE, Bx', Fx', O'⟩ := hrel
    have Bx := Bx'.out
    have Fx := Fx'.out
    have O := O'.out
    have hbw : Below w0.heap.size w0 wr := bel_only hlow O (Nat.le_refl _) (fun q hq e => by omega)
    have h64A : A.length ≤ 64 := by have := la.out; omega
    by_cases hlt : k < A.length
    · obtain ⟨gA, oA, rfl, hgA, PA⟩ := kA.resolve_left (by intro e; rw [e] at hlt; simp at hlt)
      have p0 := (hbw.cell (p := ⟨gA, _, none⟩) hgA).trans (PA k hlt _ rfl)
      have hkG : k < G.length := by have := la.out; omega
      have SPd := spX wr.drew Bx.drew hbw.drew
      have hF78 := fun (X : World) (h : Sp X b G C A I W M vg vc (.slice (some ⟨gA, oA, none⟩) A.length cA) v2 v3 (.slice (some ⟨r, 0, none⟩) G.length G.length)) => first_any X _ _ _ _ _ _ _ _ _ _ _ _ _ h ok k hkG
      obtain ⟨z, zE, zlt, zbit⟩ := andNot_nat ok.m hHl
      have hH40 := fun (X : World) => has_any z k X zlt (by omega)
      rw [zbit k (by omega)] at hH40
      have hL64 : L < 18446744073709551616 := by rw [litE.out]; exact litM_lt _ _ h64
      have s1 := bits_and_u64_nat (foM C k C.length) L (hFl k) hL64
      have q0 := Fx.2.1 k (by omega)
      dsimp only at q0
      have s4 : Hid (_ = _) := or_pow (m := L) (k := k) hL64 (by omega)
      have hst : startB C A W M G.length (begF G C A W M f0 k) k = (decide (A[k] = 0) && (M.testBit k && (!(heldM W C C.length).testBit k && decide (foM C k C.length &&& L = 0)))) := by
        unfold startB
        rw [← litE.out, show A.getD k 0 = A[k] by simp [List.getD_eq_getElem?_getD, hlt]]
      have t1 : (k : Int) < (A.length : Int) := by omega
      have t1' : (k : Int) < (G.length : Int) := by omega
      have t0 : (0 : Int) ≤ (k : Int) := by omega
      have t2 : k + 1 ≤ A.length := hlt
      have t3 : (k : Int) < 64 := by omega
      have t4 : min k 64 = k := by omega
      obtain ⟨_, c1, _⟩ := id Bx
      clear kA PA zbit hHl hFl
      generalize A[k] = ya at *
      generalize foM C k C.length = fo at *
      generalize hzz : fo &&& L = zz at *
      by_cases d1 : ya = 0
      case neg =>
        have D1 : (ya == 0) = false := by simpa using d1
        clear SPd hF78
        have nx : begF G C A W M f0 (k + 1) = begF G C A W M f0 k := by
          show (if startB C A W M G.length (begF G C A W M f0 k) k = true then _ else _) = _
          rw [if_neg (by rw [hst]; simp [d1])]
        rw [← nx] at own litE
        clear hst nx
        go_wp2_with (go_at_call 35; (with_reducible refine Calls.mono (hH40 _) ?_); rintro e w2 ⟨rfl, rfl⟩)
        go_roundw
        case rel => exact ⟨k + 1, _, by omega, by go_num, rfl, own, litE, Bx', Fx', O'⟩
        case measure => simp [intOf]; omega
      case pos =>
        subst d1
        cases d2 : (M.testBit k && !(heldM W C C.length).testBit k) with
        | false =>
          rw [d2] at hH40
          clear SPd hF78
          have nx : begF G C A W M f0 (k + 1) = begF G C A W M f0 k := by
            show (if startB C A W M G.length (begF G C A W M f0 k) k = true then _ else _) = _
            rw [if_neg (by rw [hst]; have d2 := d2; revert d2; cases M.testBit k <;> cases (heldM W C C.length).testBit k <;> simp)]
          rw [← nx] at own litE
          clear hst nx
          go_wp2_with (go_at_call 35; (with_reducible refine Calls.mono (hH40 _) ?_); rintro e w2 ⟨rfl, rfl⟩)
          go_roundw
          case rel => exact ⟨k + 1, _, by omega, by go_num, rfl, own, litE, Bx', Fx', O'⟩
          case measure => simp [intOf]; omega
        | true =>
          rw [d2] at hH40
          by_cases d3 : zz = 0
          · subst d3
            have nx : begF G C A W M f0 (k + 1) = updF (begF G C A W M f0 k) k (firstF G[k]) := by
              show (if startB C A W M G.length (begF G C A W M f0 k) k = true then _ else _) = _
              rw [if_pos (by rw [hst]; simp only [Bool.and_eq_true] at d2; simp [d2.1, d2.2]), show G.getD k gp0 = G[k] by simp [List.getD_eq_getElem?_getD, hkG]]
            have nlit : L ||| 2 ^ k = litM (begF G C A W M f0 (k + 1)) G.length := by rw [nx, litM_upd hkG (firstF_ne _), ← litE.out]
            have nown : ∀ X : World, X.ownsRow w0.heap.size 3 1 (.slice (some ⟨r, 0, none⟩) G.length G.length) G.length (valR G.length (begF G C A W M f0 k)) → (X.setCell ⟨r, k, none⟩ (.int .i64 (firstF G[k]))).ownsRow w0.heap.size 3 1 (.slice (some ⟨r, 0, none⟩) G.length G.length) G.length (valR G.length (begF G C A W M f0 (k + 1))) := fun X hX => by
              rw [nx]; unfold updF; rw [← valR_set hkG]; exact own_stored [.int .i64 (firstF G[k])] X _ k hX
            have own' := own.out.drew
            obtain ⟨y0, z0⟩ := own_some own' k (by omega)
            have hfz := own'.frozenAt
            generalize firstF G[k] = fv at *
            clear hst nx
            go_upto_region 6 with (go_at_call 35; (with_reducible refine Calls.mono (hH40 _) ?_); rintro e w2 ⟨rfl, rfl⟩)
            clear p0 c1 q0 s1
            refine wp_region_noPanic ?_
            refine wp_region_held_drew (S := fun w' => (w'.cell? ⟨b, 0, none⟩ = some (vg) ∧ w'.cell? ⟨b, 1, none⟩ = some (vc) ∧ w'.cell? ⟨b, 2, none⟩ = some (.slice (some ⟨gA, oA, none⟩) A.length cA) ∧ w'.cell? ⟨b, 3, none⟩ = some (v2) ∧ w'.cell? ⟨b, 4, none⟩ = some (v3) ∧ w'.cell? ⟨b, 5, none⟩ = some (.int .u64 (M : Int)) ∧ w'.cell? ⟨b, 6, none⟩ = some (.slice (some ⟨r, 0, none⟩) G.length G.length))) (by kernel_rfl) ?_ (fun hHeld => ?_)
            · (try dsimp only)
              exact has7 Bx.drew
            refine wpAnyH_take (i := 0) (oi := { dst := some 44, op := Op.move (Operand.tmp 0), type := 85, pos := "step.go:68", after := #[], guard := none }) (v := ?_) rfl (by kernel_rfl) (by kernel_rfl) (by kernel_rfl) (fun _ _ _ h => h) (Or.inl ⟨by rfl, ?_⟩) (by assumption) ?_
            rotate_left
            · intro wz hSz; (try dsimp only at hSz); go_simp; all_goals (with_reducible rfl)
            (try simp only [Act.put, List.setIfInBounds_toArray, List.set_cons_zero, List.set_cons_succ])
            refine wpAnyH_take (i := 1) (oi := { dst := some 45, op := Op.nilCheck (Operand.tmp 44), type := 0, pos := "step.go:68", after := #[{ on := 0, ground := Ground.data }], guard := none }) (v := ?_) rfl (by kernel_rfl) (by kernel_rfl) (by kernel_rfl) (fun _ _ _ h => h) (Or.inl ⟨by rfl, ?_⟩) (by assumption) ?_
            rotate_left
            · intro wz hSz; (try dsimp only at hSz); go_simp; all_goals (with_reducible rfl)
            (try simp only [Act.put, List.setIfInBounds_toArray, List.set_cons_zero, List.set_cons_succ])
            refine wpAnyH_take (i := 2) (oi := { dst := some 46, op := Op.fieldAddr 87 (Operand.tmp 45) 3, type := 0, pos := "step.go:68", after := #[{ on := 1, ground := Ground.data }], guard := none }) (v := ?_) rfl (by kernel_rfl) (by kernel_rfl) (by kernel_rfl) (fun _ _ _ h => h) (Or.inl ⟨by rfl, ?_⟩) (by assumption) ?_
            rotate_left
            · intro wz hSz; (try dsimp only at hSz); go_simp; all_goals (with_reducible rfl)
            (try simp only [Act.put, List.setIfInBounds_toArray, List.set_cons_zero, List.set_cons_succ])
            refine wpAnyH_take (i := 3) (oi := { dst := some 47, op := Op.load 34 (Operand.tmp 46), type := 34, pos := "step.go:68", after := #[{ on := 2, ground := Ground.data }], guard := none }) (v := ?_) rfl (by kernel_rfl) (by kernel_rfl) (by kernel_rfl) (fun _ _ _ h => h) (Or.inl ⟨by rfl, ?_⟩) (by assumption) ?_
            rotate_left
            · intro wz hSz; (try dsimp only at hSz); go_simp; all_goals (with_reducible rfl)
            (try simp only [Act.put, List.setIfInBounds_toArray, List.set_cons_zero, List.set_cons_succ])
            refine wpAnyH_take (i := 4) (oi := { dst := some 48, op := Op.move (Operand.tmp 5), type := 3, pos := "step.go:68", after := #[], guard := none }) (v := ?_) rfl (by kernel_rfl) (by kernel_rfl) (by kernel_rfl) (fun _ _ _ h => h) (Or.inl ⟨by rfl, ?_⟩) (by assumption) ?_
            rotate_left
            · intro wz hSz; (try dsimp only at hSz); go_simp; all_goals (with_reducible rfl)
            (try simp only [Act.put, List.setIfInBounds_toArray, List.set_cons_zero, List.set_cons_succ])
            refine wpAnyH_take (i := 5) (oi := { dst := some 49, op := Op.move (Operand.tmp 0), type := 85, pos := "step.go:68", after := #[], guard := none }) (v := ?_) rfl (by kernel_rfl) (by kernel_rfl) (by kernel_rfl) (fun _ _ _ h => h) (Or.inl ⟨by rfl, ?_⟩) (by assumption) ?_
            rotate_left
            · intro wz hSz; (try dsimp only at hSz); go_simp; all_goals (with_reducible rfl)
            (try simp only [Act.put, List.setIfInBounds_toArray, List.set_cons_zero, List.set_cons_succ])
            refine wpAnyH_take (i := 6) (oi := { dst := some 50, op := Op.move (Operand.tmp 5), type := 3, pos := "step.go:68", after := #[], guard := none }) (v := ?_) rfl (by kernel_rfl) (by kernel_rfl) (by kernel_rfl) (fun _ _ _ h => h) (Or.inl ⟨by rfl, ?_⟩) (by assumption) ?_
            rotate_left
            · intro wz hSz; (try dsimp only at hSz); go_simp; all_goals (with_reducible rfl)
            (try simp only [Act.put, List.setIfInBounds_toArray, List.set_cons_zero, List.set_cons_succ])
            refine wpAnyH_ready (rs := [7]) (by kernel_rfl) (by simp) ?_
            refine AllReadyH.cons (o := { dst := some 51, op := Op.call { callee := Callee.value (Operand.func 63), args := #[Operand.tmp 49, Operand.tmp 50], argTypes := #[85, 3] }, type := 3, pos := "step.go:68", after := #[{ on := 5, ground := Ground.data }, { on := 6, ground := Ground.data }], guard := none }) rfl (fun K hK => ?_) AllReadyH.nil
            go_simp
            (go_at_call 63; (with_reducible refine Calls.mono (hF78 _ (by exact SPd)) ?_); rintro e w2 ⟨rfl, rfl⟩)
            go_wp2_with fail
            refine hK.out _ _ ?_ (fun hHeld => ?_)
            · (try dsimp only)
              exact has7 Bx.drew
            clear hK K
            (try simp only [Act.put, List.setIfInBounds_toArray, List.set_cons_zero, List.set_cons_succ])
            refine wpAnyH_take (i := 8) (oi := { dst := some 52, op := Op.indexAddr 34 (Operand.tmp 47) (Operand.tmp 48), type := 0, pos := "step.go:68", after := #[{ on := 3, ground := Ground.data }, { on := 4, ground := Ground.data }, { on := 0, ground := Ground.phase }, { on := 1, ground := Ground.phase }, { on := 2, ground := Ground.phase }, { on := 3, ground := Ground.phase }, { on := 4, ground := Ground.phase }, { on := 5, ground := Ground.phase }, { on := 6, ground := Ground.phase }, { on := 7, ground := Ground.phase }], guard := none }) (v := ?_) rfl (by kernel_rfl) (by kernel_rfl) (by kernel_rfl) (fun _ _ _ h => h) (Or.inl ⟨by rfl, ?_⟩) (by assumption) ?_
            rotate_left
            · intro wz hSz; (try dsimp only at hSz); go_simp; all_goals (with_reducible rfl)
            (try simp only [Act.put, List.setIfInBounds_toArray, List.set_cons_zero, List.set_cons_succ])
            refine wpAnyH_ready (rs := [9]) (by kernel_rfl) (by simp) ?_
            refine AllReadyH.cons (o := { dst := none, op := Op.store 3 (Operand.tmp 52) (Operand.tmp 51), type := 0, pos := "step.go:68", after := #[{ on := 8, ground := Ground.data }, { on := 7, ground := Ground.data }, { on := 7, ground := Ground.chain }, { on := 0, ground := Ground.phase }, { on := 1, ground := Ground.phase }, { on := 2, ground := Ground.phase }, { on := 3, ground := Ground.phase }, { on := 4, ground := Ground.phase }, { on := 5, ground := Ground.phase }, { on := 6, ground := Ground.phase }, { on := 7, ground := Ground.phase }], guard := none }) rfl (fun K hK => ?_) AllReadyH.nil
            go_simp
            refine hK.out _ _ ?_ (fun hHeld => ?_)
            · (try dsimp only)
              exact has7 (Bx.drew.far (Ne.symm hrb) _)
            clear hK K
            (try simp only [Act.put, List.setIfInBounds_toArray, List.set_cons_zero, List.set_cons_succ])
            refine wpAnyH_done (by kernel_rfl) ?_ _
            refine NoPanic.normal ?_
            go_wp2_with fail
            go_roundw
            case rel => exact ⟨k + 1, L ||| 2 ^ k, by omega, by go_num, congrArg (Value.int .u64) s4.out, (nown _ own.out).drew, nlit, (Bx.far (Ne.symm hrb) _).drew, (Fx.far (by omega) _).drew, (O.set rfl _).drew⟩
            case measure => simp [intOf]; omega
          · have D3 : ((zz : Int) == 0) = false := by simpa using d3
            clear SPd hF78
            have nx : begF G C A W M f0 (k + 1) = begF G C A W M f0 k := by
              show (if startB C A W M G.length (begF G C A W M f0 k) k = true then _ else _) = _
              rw [if_neg (by rw [hst]; simp [d3])]
            rw [← nx] at own litE
            clear hst nx
            go_wp2_with (go_at_call 35; (with_reducible refine Calls.mono (hH40 _) ?_); rintro e w2 ⟨rfl, rfl⟩)
            go_roundw
            case rel => exact ⟨k + 1, _, by omega, by go_num, rfl, own, litE, Bx', Fx', O'⟩
            case measure => simp [intOf]; omega
    · have t1 : ¬ (k : Int) < (A.length : Int) := by omega
      have ek : k = G.length := by have := la.out; omega
      subst ek
      clear kA
      go_wp2
      refine ⟨rfl, .tuple #[], ?_, rfl, O, own.out⟩
      simp [results, Try.results50, go_sem]
end Go.Proofs.Ythflpnahifpdnaa
