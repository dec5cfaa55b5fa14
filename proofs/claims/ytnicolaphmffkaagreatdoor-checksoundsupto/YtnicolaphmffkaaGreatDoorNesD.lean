import Derived.Test.YtnicolaphmffkaaGreatDoorMaA
import Derived.Deep.RegionLaw
import Derived.Deep.AppendLies
namespace Go.Proofs.YtnicolaphmffkaaGreatDoor
open Go.RowKit
set_option linter.unusedVariables false
set_option linter.unusedSimpArgs false

set_option maxRecDepth 100000 in
set_option maxHeartbeats 4000000 in
theorem one_any (L : List Nd) (v : Value) (w : World) (hN : Nds w v L) (hlen : L.length ≤ 2932031007317) :
    Calls Tryz.prog 78 #[v] w fun e w' => e = .returned (.bool (decide (spanF L ((L.length : Int) - 1) = 0))) ∧ Below w.heap.size w w' := by
  have hSp := refSpan_any L v ((L.length : Int) - 1) w hN (by omega) (by omega) (by omega)
  obtain ⟨a, cap, rfl, hc⟩ := hN
  by_cases h0 : L.length = 0
  · have hz : decide (spanF L ((L.length : Int) - 1) = 0) = false := by
      unfold spanF; rw [if_neg (by omega)]; rfl
    rw [hz, h0]
    clear hSp hz hc
    go_enter Tryz.func78, Tryz.ntmps78
    go_wp2
    go_ret
    exact ⟨rfl, Below.refl _ _⟩
  · have h0' : ((L.length : Int) == 0) = false := by rw [beq_eq_false_iff_ne]; omega
    generalize spanF L ((L.length : Int) - 1) = sp at *
    clear hc
    go_enter Tryz.func78, Tryz.ntmps78
    go_wp2_with (go_at_call 42; (with_reducible refine hSp.mono ?_); rintro e w1 ⟨rfl, hb1⟩)
    go_ret
    exact ⟨rfl, hb1⟩

theorem runSt_len' (L : List Nd) : ∀ k, k ≤ L.length → (runSt L k).length ≤ k
  | 0, _ => by rw [runSt_zero]; simp
  | k + 1, hk => by
    have ih := runSt_len' L k (by omega)
    rw [runSt_succ L k (by omega), stepSt_len]; omega
theorem info3 : (Tryz.prog.info? 3).map (fun i => (i.zero, i.size, i.bytes)) = some (some (.int .i64 0), 1, 8) := by kernel_rfl
def ints (zs : List Int) : List Value := zs.map (Value.int .i64)
def nsts (R : List (Int × Int)) : List Int := R.map (·.2)
def opss (R : List (Int × Int)) : List Int := R.map (·.1)
theorem mostK_step (op : Int) (xs : List (Int × Int)) (k : Nat) (h : k < xs.length) (h2 : xs.length ≤ 2) : mostK op (xs.take (k + 1)) = max (mostK op (xs.take k)) (bump (if k = 1 then akS op else akF op) xs[k]) := by
  match xs, k, h, h2 with
  | [x], 0, h, h2 => simp [mostK]
  | [x, y], 0, h, h2 => simp [mostK]
  | [x, y], 1, h, h2 => simp [mostK]
  | [x], k + 1, h, h2 => simp at h
  | [x, y], k + 2, h, h2 => exact absurd h (by simp)
  | x :: y :: z :: r, k, h, h2 => simp at h2
theorem op_cases (op : Int) (h : 0 ≤ arF op) : (op < 20 ∧ opF op = false) ∨ (20 ≤ op ∧ op ≤ 22 ∧ opF op = true) ∨ (op = 35 ∧ opF op = true) ∨ (op = 36 ∧ opF op = true) ∨ (20 ≤ op ∧ 22 < op ∧ op ≠ 35 ∧ op ≠ 36 ∧ opF op = false) := by
  unfold opF
  by_cases h1 : op < 20
  · left; refine ⟨h1, by simp; omega⟩
  · by_cases h2 : op ≤ 22
    · right; left; refine ⟨by omega, h2, by simp; omega⟩
    · by_cases h3 : op = 35
      · right; right; left; exact ⟨h3, by simp; omega⟩
      · by_cases h4 : op = 36
        · right; right; right; left; exact ⟨h4, by simp; omega⟩
        · right; right; right; right; exact ⟨by omega, by omega, h3, h4, by simp; omega⟩
theorem row_at {w : World} {base g c : Nat} {zs : List Int} (h : w.ownsRow base 3 1 (.slice (some ⟨g, 0, none⟩) zs.length c) zs.length (ints zs)) (i : Nat) (hi : i < zs.length) : w.cell? ⟨g, i, none⟩ = some (.int .i64 zs[i]) := by
  rw [h.cellAt i (by omega)]; unfold ints; simp [hi]
theorem row_cut {w : World} {base g c n m : Nat} {zs : List Int} (hn : n = zs.length) (h : w.ownsRow base 3 1 (.slice (some ⟨g, 0, none⟩) n c) n (ints zs)) (hm : m ≤ n) : w.ownsRow base 3 1 (.slice (some ⟨g, 0, none⟩) m c) m (ints (zs.take m)) := by
  obtain ⟨h1, h2⟩ := h
  refine ⟨by unfold ints; simp; omega, ?_⟩
  rcases h2 with ⟨h0, _⟩ | ⟨g', cap', cur, hv, hg, hh, hn', hcap, hsz, htake⟩
  · cases h0
  · cases hv
    refine .inr ⟨g, c, cur, rfl, hg, hh, by omega, hcap, hsz, ?_⟩
    have : ints (zs.take m) = (ints zs).take m := by unfold ints; rw [List.map_take]
    rw [this, ← htake, List.take_take, Nat.mul_one, Nat.mul_one, Nat.min_eq_left hm]
theorem cells_one1 {W : World} (x0 : Value) (t : TypeId) : ∀ j u, [x0][j]? = some u → (W.alloc (.cells #[x0] t)).cell? ((⟨W.heap.size, 0, none⟩ : Addr).add j) = some u := by
  intro j u h
  have := (Has.new W #[x0] t rfl).2.1 j
  have e : ((⟨W.heap.size, 0, none⟩ : Addr).add j) = ⟨W.heap.size, j, none⟩ := by
    rw [Go.WideShapes.add_plain, Nat.zero_add]
  rw [e, this]
  simpa using h
theorem grown_below1 {B : Nat} {w A C : World} {row : Option Nat} (h : Below B w A) (hg : A.grownBy C row) (hs : B ≤ w.heap.size) (hr : ∀ k, row = some k → B ≤ k) : Below B w C :=
  h.trans ⟨hg.os, hg.tape, hg.output, hg.size, fun k hk => hg.block k (by have := h.size; omega) (by intro e; have := hr k e.symm; omega)⟩
set_option maxRecDepth 100000 in
set_option maxHeartbeats 8000000 in
theorem refNest_any (L : List Nd) (v : Value) (w : World) (hN : Nds w v L) (hlen : L.length ≤ 2932031007317) :
    Calls Tryz.prog 43 #[v] w fun e w' => e = .returned (.int .i64 (nestF L)) ∧ Below w.heap.size w w' := by
  have hS0 := one_any L v w hN hlen
  obtain ⟨a, cap, rfl, hc⟩ := hN
  by_cases hz : spanF L ((L.length : Int) - 1) = 0
  · have hF : nestF L = ((runSt L L.length).headD (0, 0)).2 := by unfold nestF; rw [if_pos hz]
    rw [hz] at hS0
    have hpos : 0 < L.length := by
      by_cases h : 0 < L.length
      · exact h
      · unfold spanF at hz; rw [if_neg (by omega)] at hz; simp at hz
    have hhi := span_high L L.length 1 (Nat.le_refl _) (by omega) (by unfold spanF at hz; rw [if_pos (by omega)] at hz; rw [show ((L.length : Int) - 1).toNat + 1 = L.length by omega] at hz; exact hz)
    obtain ⟨g, o, rfl, hg, hC⟩ := hc.resolve_left (by intro h; rw [h] at hpos; simp at hpos)
    clear hc hz
    go_enter Tryz.func43, Tryz.ntmps43
    go_wp2_with (go_at_call 78; (with_reducible refine hS0.mono ?_); rintro e w1 ⟨rfl, hb1⟩)
    go_loopw [4, 5, 6] (fun t4 t5 t6 wr => ∃ k : Nat, k ≤ L.length ∧ t6 = .int .i64 (k : Int) ∧ Below w.heap.size w wr ∧ ((k = 0 ∧ t4 = .slice none 0 0 ∧ t5 = .slice none 0 0) ∨ (0 < k ∧ ∃ g1 c1 g2 c2, g1 ≠ g2 ∧ t4 = .slice (some ⟨g1, 0, none⟩) (runSt L k).length c1 ∧ t5 = .slice (some ⟨g2, 0, none⟩) (runSt L k).length c2 ∧ wr.ownsRow w.heap.size 3 1 (.slice (some ⟨g1, 0, none⟩) (runSt L k).length c1) (runSt L k).length (ints (nsts (runSt L k))) ∧ wr.ownsRow w.heap.size 3 1 (.slice (some ⟨g2, 0, none⟩) (runSt L k).length c2) (runSt L k).length (ints (opss (runSt L k)))))) (fun _ _ t _ => L.length - (intOf t).toNat)
    case atStart => exact ⟨0, by omega, rfl, hb1, .inl ⟨rfl, rfl, rfl⟩⟩
    case round =>
      obtain ⟨k, hk, rfl, hb, hst⟩ := hrel
      by_cases hlt : k < L.length
      · have hj := hhi.2 k hlt hlt
        have hbd := arF_bd L[k].op
        obtain ⟨p0, p1, p2, p3, p4⟩ := hC k hlt
        have q0 := (hb.cell (p := ⟨g, _, none⟩) hg).trans p0
        have hSt := runSt_succ L k hlt
        have hRb := runSt_bd L k (by omega)
        have hbz := hb.size
        have hkL : (k : Int) < (L.length : Int) := by omega
        have hk0 : (0 : Int) ≤ (k : Int) := by omega
        have hAr : ∀ W : World, Calls Tryz.prog 77 #[.int .i64 L[k].op] W fun e w' => e = .returned (.int .i64 (arF L[k].op)) ∧ w' = W := fun W => refArity_any L[k].op W
        have hAk : ∀ W : World, Calls Tryz.prog 79 #[.int .i64 L[k].op] W fun e w' => e = .returned (.tuple #[.int .i64 (akF L[k].op), .int .i64 (akS L[k].op)]) ∧ w' = W := fun W => asked_any L[k].op W
        rcases hst with ⟨rfl, rfl, rfl⟩ | ⟨hk1, g1, c1, g2, c2, hne, rfl, rfl, hr1, hr2⟩
        · rw [runSt_zero] at hj hSt
          have ha0 : arF L[0].op = 0 := by simp at hj; omega
          have hNx : Hid (runSt L 1 = [(L[0].op, 0)]) := by
            have hop : opF L[0].op = false := by
              rcases op_cases L[0].op (by omega) with ⟨_, h⟩ | ⟨h1, h2, _⟩ | ⟨h1, _⟩ | ⟨h1, _⟩ | ⟨_, _, _, _, h⟩
              · exact h
              · exfalso; unfold arF at ha0; rw [if_neg (by omega), if_pos (by omega)] at ha0; simp at ha0
              · exfalso; rw [h1] at ha0; revert ha0; decide
              · exfalso; rw [h1] at ha0; revert ha0; decide
              · exact h
            show runSt L 1 = _
            rw [hSt]; unfold stepSt nodeNest; rw [hop]; simp [mostK]
          have hlt20 : L[0].op < 20 := by
            unfold arF at ha0
            split at ha0
            · omega
            · split at ha0
              · simp at ha0
              · split at ha0 <;> simp at ha0
          rw [ha0] at hAr
          have hnext : Hid (∀ (A : World) (g5 c5 g6 c6 : Nat), g5 ≠ g6 → A.ownsRow w.heap.size 3 1 (.slice (some ⟨g5, 0, none⟩) (0 + 1) c5) (0 + 1) ([] ++ [.int .i64 0]) → A.ownsRow w.heap.size 3 1 (.slice (some ⟨g6, 0, none⟩) (0 + 1) c6) (0 + 1) ([] ++ [.int .i64 L[0].op]) → Below w.heap.size w A → ∃ k' : Nat, k' ≤ L.length ∧ (.int .i64 1 : Value) = .int .i64 (k' : Int) ∧ Below w.heap.size w A ∧ ((k' = 0 ∧ (.slice (some ⟨g5, 0, none⟩) 1 c5 : Value) = .slice none 0 0 ∧ (.slice (some ⟨g6, 0, none⟩) 1 c6 : Value) = .slice none 0 0) ∨ (0 < k' ∧ ∃ g1 c1 g2 c2, g1 ≠ g2 ∧ (.slice (some ⟨g5, 0, none⟩) 1 c5 : Value) = .slice (some ⟨g1, 0, none⟩) (runSt L k').length c1 ∧ (.slice (some ⟨g6, 0, none⟩) 1 c6 : Value) = .slice (some ⟨g2, 0, none⟩) (runSt L k').length c2 ∧ A.ownsRow w.heap.size 3 1 (.slice (some ⟨g1, 0, none⟩) (runSt L k').length c1) (runSt L k').length (ints (nsts (runSt L k'))) ∧ A.ownsRow w.heap.size 3 1 (.slice (some ⟨g2, 0, none⟩) (runSt L k').length c2) (runSt L k').length (ints (opss (runSt L k')))))) := by
            intro A g5 c5 g6 c6 hn h5 h6 hA
            refine ⟨1, by omega, rfl, hA, .inr ⟨by omega, g5, c5, g6, c6, hn, ?_, ?_, ?_, ?_⟩⟩
            · rw [hNx.out]; rfl
            · rw [hNx.out]; rfl
            · rw [hNx.out]; exact h5
            · rw [hNx.out]; exact h6
          generalize L[0].op = op at *
          obtain ⟨i0, hi, hi0, hi1, hi2⟩ := info_parts info3
          clear hC hF p0 p1 p2 p3 p4 hSt hhi hRb hb1 hS0 hj hNx
          simp only [Nat.zero_mul, Nat.add_zero] at q0
          go_wp2_with (first
            | (go_at_call 77; (with_reducible refine (hAr _).mono ?_); rintro e w2 ⟨rfl, rfl⟩)
            | (go_at_call 79; (with_reducible refine (hAk _).mono ?_); rintro e w3 ⟨rfl, rfl⟩))
          go_loopw [11, 12] (fun t11 t12 wz => t12 = .int .i64 0 ∧ t11 = .int .i64 0 ∧ wz = w3) (fun _ t _ => 0)
          case atStart => exact ⟨rfl, rfl, rfl⟩
          case round =>
            obtain ⟨rfl, rfl, rfl⟩ := hrel
            clear hAr hAk
            have h3 : (op == 35) = false := by simp; omega
            have h4 : (op == 36) = false := by simp; omega
            go_wp2_with (first
              | (at_builtin; refine wpList_append_lies _ rfl _ _ 113 rfl w.heap.size 3 i0 _ 1 8 Tryz.underlying113 hi hi0 hi1 hi2 rfl (by decide) _ _ _ rfl (World.ownsRow_nil _ _ _ _) ⟨wr.heap.size, 0, none⟩ 1 1 [.int .i64 0] rfl rfl (cells_one1 _ _) (fun u hu => by simp at hu; subst hu; rfl) (by decide) (by unfold maxLen; omega) (by omega) (by simp; omega) _ rfl ?_; intro g5 cap5 w5 hown5 hgrow5 hat5 hlt5; have hB5 := grown_below1 (hb.alloc hbz _) hgrow5 (Nat.le_refl _) (fun k hk => by cases hk))
              | (at_builtin; refine wpList_append_lies _ rfl _ _ 113 rfl w.heap.size 3 i0 _ 1 8 Tryz.underlying113 hi hi0 hi1 hi2 rfl (by decide) _ _ _ rfl (World.ownsRow_nil _ _ _ _) ⟨w5.heap.size, 0, none⟩ 1 1 [.int .i64 op] rfl rfl (cells_one1 _ _) (fun u hu => by simp at hu; subst hu; rfl) (by decide) (by unfold maxLen; omega) (by omega) (by have := hB5.size; simp; omega) _ rfl ?_; intro g6 cap6 w6 hown6 hgrow6 hat6 hlt6; have hB6 := grown_below1 (hB5.alloc hB5.size _) hgrow6 (Nat.le_refl _) (fun k hk => by cases hk)))
            have hg56 : g5 ≠ g6 := by
              rcases hat6 with e | e
              · cases e
              · rw [e]; simp; omega
            have hown5' := (hown5.alloc (.cells #[.int .i64 op] 3)).kept hgrow6 (.inr (by intro e; cases e))
            go_roundw
            case rel => exact hnext.out _ _ _ _ _ hg56 hown5' hown6 hB6
            case measure => simp [intOf]; omega
        · generalize L[k].op = op at *
          generalize hR : runSt L k = R at *
          clear hC hF p0 p1 p2 p3 p4
          obtain ⟨ar, har⟩ : ∃ ar : Nat, arF op = ar := ⟨(arF op).toNat, by omega⟩
          rw [har] at hj hAr
          have hRl : R.length ≤ 2932031007317 := by rw [← hR]; have := runSt_len' L k (by omega); omega
          obtain ⟨r, hr⟩ : ∃ r, r = R.length - ar := ⟨_, rfl⟩
          obtain ⟨xs, hxs⟩ : ∃ xs, xs = R.drop r := ⟨_, rfl⟩
          have hxl : xs.length = ar := by rw [hxs]; simp; omega
          have har2 : ar ≤ 2 := by omega
          have hsub : (R.length : Int) - (ar : Int) = (r : Int) := by omega
          have hr0 : (0 : Int) ≤ (r : Int) := by omega
          have hr1' : (r : Int) ≤ (R.length : Int) := by omega
          have hr2' : (r : Int) ≤ 2932031007317 := by omega
          have hra : Hid (r + ar = R.length) := by show r + ar = R.length; omega
          have hxb : ∀ x ∈ xs, 0 ≤ x.2 ∧ x.2 ≤ 2 * (k : Int) := fun x hx => hRb x (List.mem_of_mem_drop (by rw [← hxs]; exact hx))
          have hN1 : ∀ (A : World), A = wr → ∀ (j : Nat) (h : j < xs.length), A.cell? ⟨g1, r + j, none⟩ = some (.int .i64 xs[j].2) ∧ A.cell? ⟨g2, r + j, none⟩ = some (.int .i64 xs[j].1) := by
            rintro A rfl j h
            have hj' : r + j < R.length := by omega
            have e : xs[j] = R[r + j] := by subst hxs; rw [List.getElem_drop]
            have a1 := row_at (zs := nsts R) (g := g1) (c := c1) (base := w.heap.size) (w := A) (by unfold nsts; rw [List.length_map]; exact hr1) (r + j) (by unfold nsts; simpa using hj')
            have a2 := row_at (zs := opss R) (g := g2) (c := c2) (base := w.heap.size) (w := A) (by unfold opss; rw [List.length_map]; exact hr2) (r + j) (by unfold opss; simpa using hj')
            rw [a1, a2, e]; simp [nsts, opss]
          have hcp : R.length ≤ c1 ∧ R.length ≤ c2 := by
            constructor
            · rcases hr1.2 with ⟨h0, _⟩ | ⟨g', cap', cur, hv, _, _, hn, _⟩
              · cases h0
              · cases hv; exact hn
            · rcases hr2.2 with ⟨h0, _⟩ | ⟨g', cap', cur, hv, _, _, hn, _⟩
              · cases h0
              · cases hv; exact hn
          obtain ⟨hcp1, hcp2⟩ := hcp
          have hc1' : r ≤ c1 := by omega
          have hc2' : r ≤ c2 := by omega
          have hms := mostK_bd op xs (2 * k) (by omega) hxb
          have hSt2 : Hid (runSt L (k + 1) = R.take r ++ [(op, nodeNest op xs)]) := by
            show runSt L (k + 1) = _
            rw [hSt]; unfold stepSt; rw [har, ← show r = R.length - ((ar : Int)).toNat by omega, ← hxs]
          have hk1' : Hid (runSt L (k + 1) = R.take r ++ [(op, nodeNest op xs)]) := hSt2
          have hoc := op_cases op (by omega)
          have hLv : ∀ (o : Int) (W : World), Calls Tryz.prog 80 #[.int .i64 o] W fun e w' => e = .returned (.int .i64 (lvF o)) ∧ w' = W := fun o W => level_any o W
          have hrH : Hid (r = R.length - ar) := hr
          have hxH : Hid (xs.length = ar) := hxl
          clear hr hSt hhi hRb hb1 hS0 hR hxs hxl
          go_wp2_with (first
            | (go_at_call 77; (with_reducible refine (hAr _).mono ?_); rintro e w2 ⟨rfl, rfl⟩)
            | (go_at_call 79; (with_reducible refine (hAk _).mono ?_); rintro e w3 ⟨rfl, rfl⟩))
          go_loopw [11, 12] (fun t11 t12 wz => ∃ kk : Nat, kk ≤ ar ∧ t12 = .int .i64 (kk : Int) ∧ t11 = .int .i64 (mostK op (xs.take kk)) ∧ wz = w3) (fun _ t _ => ar - (intOf t).toNat)
          case atStart => exact ⟨0, by omega, rfl, rfl, rfl⟩
          case round =>
            obtain ⟨kk, hkk, rfl, rfl, rfl⟩ := hrel
            by_cases hl : kk < ar
            · have hlx : kk < xs.length := by have := hxH.out; omega
              obtain ⟨n1, o1⟩ := hN1 _ rfl kk hlx
              have hst := mostK_step op xs kk hlx (by have := hxH.out; omega)
              have hmb := mostK_bd op (xs.take kk) (2 * k) (by omega) (fun x hx => hxb x (List.mem_of_mem_take hx))
              have hxk := hxb xs[kk] (List.getElem_mem hlx)
              have hbu : ∀ a, bump a xs[kk] = if lvF xs[kk].1 < a then xs[kk].2 + 1 else xs[kk].2 := fun a => rfl
              generalize mostK op (xs.take kk) = M at *
              generalize hMM : mostK op (xs.take (kk + 1)) = MM at *
              generalize hox : xs[kk] = xk at *
              obtain ⟨ox, nx⟩ := xk
              dsimp only at n1 o1 hbu hxk
              have hlI : (kk : Int) < (ar : Int) := by omega
              have hkr : (r : Int) + (kk : Int) < (R.length : Int) := by have := hra.out; omega
              have hLo := hLv ox
              obtain ⟨az, has⟩ : ∃ az, az = (if kk = 1 then akS op else akF op) := ⟨_, rfl⟩
              rw [← has, hbu az] at hst
              have hMH : Hid (mostK op (xs.take (kk + 1)) = MM) := hMM
              clear hN1 hoc hAr hAk hLv hr1 hr2 hSt2 hk1' hms hxb hbu hox hMM
              by_cases h1 : kk = 1
              · rw [if_pos h1] at has
                subst h1 has
                by_cases hlv : lvF ox < akS op
                · rw [if_pos hlv] at hst
                  by_cases hgt : M < nx + 1
                  · go_wp2_with (go_at_call 80; (with_reducible refine (hLo _).mono ?_); rintro e w4 ⟨rfl, rfl⟩)
                    go_roundw
                    case rel => exact ⟨2, by omega, rfl, congrArg (Value.int .i64) (by rw [hMH.out, hst]; omega), by first | rfl | trivial⟩
                    case measure => simp [intOf]; omega
                  · go_wp2_with (go_at_call 80; (with_reducible refine (hLo _).mono ?_); rintro e w4 ⟨rfl, rfl⟩)
                    go_roundw
                    case rel => exact ⟨2, by omega, rfl, congrArg (Value.int .i64) (by rw [hMH.out, hst]; omega), by first | rfl | trivial⟩
                    case measure => simp [intOf]; omega
                · rw [if_neg hlv] at hst
                  by_cases hgt : M < nx
                  · go_wp2_with (go_at_call 80; (with_reducible refine (hLo _).mono ?_); rintro e w4 ⟨rfl, rfl⟩)
                    go_roundw
                    case rel => exact ⟨2, by omega, rfl, congrArg (Value.int .i64) (by rw [hMH.out, hst]; omega), by first | rfl | trivial⟩
                    case measure => simp [intOf]; omega
                  · go_wp2_with (go_at_call 80; (with_reducible refine (hLo _).mono ?_); rintro e w4 ⟨rfl, rfl⟩)
                    go_roundw
                    case rel => exact ⟨2, by omega, rfl, congrArg (Value.int .i64) (by rw [hMH.out, hst]; omega), by first | rfl | trivial⟩
                    case measure => simp [intOf]; omega
              · rw [if_neg h1] at has
                have h1' : ((kk : Int) == 1) = false := by simp; omega
                subst has
                by_cases hlv : lvF ox < akF op
                · rw [if_pos hlv] at hst
                  by_cases hgt : M < nx + 1
                  · go_wp2_with (go_at_call 80; (with_reducible refine (hLo _).mono ?_); rintro e w4 ⟨rfl, rfl⟩)
                    go_roundw
                    case rel => exact ⟨kk + 1, by omega, by go_num, congrArg (Value.int .i64) (by rw [hMH.out, hst]; omega), by first | rfl | trivial⟩
                    case measure => simp [intOf]; omega
                  · go_wp2_with (go_at_call 80; (with_reducible refine (hLo _).mono ?_); rintro e w4 ⟨rfl, rfl⟩)
                    go_roundw
                    case rel => exact ⟨kk + 1, by omega, by go_num, congrArg (Value.int .i64) (by rw [hMH.out, hst]; omega), by first | rfl | trivial⟩
                    case measure => simp [intOf]; omega
                · rw [if_neg hlv] at hst
                  by_cases hgt : M < nx
                  · go_wp2_with (go_at_call 80; (with_reducible refine (hLo _).mono ?_); rintro e w4 ⟨rfl, rfl⟩)
                    go_roundw
                    case rel => exact ⟨kk + 1, by omega, by go_num, congrArg (Value.int .i64) (by rw [hMH.out, hst]; omega), by first | rfl | trivial⟩
                    case measure => simp [intOf]; omega
                  · go_wp2_with (go_at_call 80; (with_reducible refine (hLo _).mono ?_); rintro e w4 ⟨rfl, rfl⟩)
                    go_roundw
                    case rel => exact ⟨kk + 1, by omega, by go_num, congrArg (Value.int .i64) (by rw [hMH.out, hst]; omega), by first | rfl | trivial⟩
                    case measure => simp [intOf]; omega
            · obtain rfl : kk = ar := by omega
              have hlI : ¬ (kk : Int) < (kk : Int) := by omega
              have htk : xs.take kk = xs := List.take_of_length_le (by have := hxH.out; omega)
              rw [htk]
              obtain ⟨i0, hi, hi0, hi1, hi2⟩ := info_parts info3
              have hNN : Hid (nodeNest op xs = mostK op xs + (if opF op = true then 1 else 0)) := rfl
              have hz1 := own_lt hr1 g1 rfl
              have hz2 := own_lt hr2 g2 rfl
              have hrc1 := row_cut (zs := nsts R) (m := r) (by unfold nsts; simp) hr1 (by have := hra.out; omega)
              have hrc2 := row_cut (zs := opss R) (m := r) (by unfold opss; simp) hr2 (by have := hra.out; omega)
              have hnext : Hid (∀ (A : World) (g5 c5 g6 c6 : Nat), g5 ≠ g6 → A.ownsRow w.heap.size 3 1 (.slice (some ⟨g5, 0, none⟩) (r + 1) c5) (r + 1) (ints ((nsts R).take r) ++ [.int .i64 (nodeNest op xs)]) → A.ownsRow w.heap.size 3 1 (.slice (some ⟨g6, 0, none⟩) (r + 1) c6) (r + 1) (ints ((opss R).take r) ++ [.int .i64 op]) → Below w.heap.size w A → ∃ k' : Nat, k' ≤ L.length ∧ (.int .i64 ((k : Int) + 1) : Value) = .int .i64 (k' : Int) ∧ Below w.heap.size w A ∧ ((k' = 0 ∧ (.slice (some ⟨g5, 0, none⟩) (r + 1) c5 : Value) = .slice none 0 0 ∧ (.slice (some ⟨g6, 0, none⟩) (r + 1) c6 : Value) = .slice none 0 0) ∨ (0 < k' ∧ ∃ g1 c1 g2 c2, g1 ≠ g2 ∧ (.slice (some ⟨g5, 0, none⟩) (r + 1) c5 : Value) = .slice (some ⟨g1, 0, none⟩) (runSt L k').length c1 ∧ (.slice (some ⟨g6, 0, none⟩) (r + 1) c6 : Value) = .slice (some ⟨g2, 0, none⟩) (runSt L k').length c2 ∧ A.ownsRow w.heap.size 3 1 (.slice (some ⟨g1, 0, none⟩) (runSt L k').length c1) (runSt L k').length (ints (nsts (runSt L k'))) ∧ A.ownsRow w.heap.size 3 1 (.slice (some ⟨g2, 0, none⟩) (runSt L k').length c2) (runSt L k').length (ints (opss (runSt L k')))))) := by
                intro A g5 c5 g6 c6 hn h5 h6 hA
                have hl : (runSt L (k + 1)).length = r + 1 := by rw [hk1'.out]; have := hra.out; simp; omega
                have e1 : ints (nsts (runSt L (k + 1))) = ints ((nsts R).take r) ++ [.int .i64 (nodeNest op xs)] := by rw [hk1'.out]; unfold ints nsts; simp [List.map_take]
                have e2 : ints (opss (runSt L (k + 1))) = ints ((opss R).take r) ++ [.int .i64 op] := by rw [hk1'.out]; unfold ints opss; simp [List.map_take]
                refine ⟨k + 1, by omega, by simp, hA, .inr ⟨by omega, g5, c5, g6, c6, hn, by rw [hl], by rw [hl], ?_, ?_⟩⟩
                · rw [hl, e1]; exact h5
                · rw [hl, e2]; exact h6
              have hMb : 0 ≤ mostK op xs ∧ mostK op xs ≤ 5864062014636 := by omega
              generalize mostK op xs = M at *
              generalize hNe : nodeNest op xs = NN at *
              clear hN1 hAr hAk hLv hr1 hr2 hms hxb hSt2 hk1' hNe
              rcases hoc with ⟨h1, ho⟩ | ⟨h1, h2, ho⟩ | ⟨h1, ho⟩ | ⟨h1, ho⟩ | ⟨h1, h2, h3, h4, ho⟩
              case' inl =>
                have hNv : NN = M := by rw [hNN.out, ho]; simp
                have h3 : (op == 35) = false := by simp; omega
                have h4 : (op == 36) = false := by simp; omega
              case' inr.inl => have hNv : NN = M + 1 := by rw [hNN.out, ho]; simp
              case' inr.inr.inl => have hNv : NN = M + 1 := by rw [hNN.out, ho]; simp
              case' inr.inr.inr.inl => have hNv : NN = M + 1 := by rw [hNN.out, ho]; simp
              case' inr.inr.inr.inr =>
                have hNv : NN = M := by rw [hNN.out, ho]; simp
                have h22 : ¬ op ≤ 22 := by omega
                rw [← beq_eq_false_iff_ne] at h3 h4
              all_goals
                clear hNN ho
                subst hNv
                try subst h1
                go_wp2_with (first
                  | (at_builtin; refine wpList_append_lies _ rfl _ _ 113 rfl w.heap.size 3 i0 _ 1 8 Tryz.underlying113 hi hi0 hi1 hi2 rfl (by decide) _ _ _ rfl (hrc1.alloc _) ⟨wr.heap.size, 0, none⟩ 1 1 [_] rfl rfl (cells_one1 _ _) (fun u hu => by simp at hu; subst hu; rfl) (by decide) (by unfold maxLen; omega) (by omega) (by simp; omega) _ rfl ?_; intro g5 cap5 w5 hown5 hgrow5 hat5 hlt5; clear hrc1; have hB5 := grown_below1 (hb.alloc hbz _) hgrow5 (Nat.le_refl _) (fun k hk => by cases hk; show w.heap.size ≤ g1; omega); have hrc5 := (hrc2.alloc _).kept hgrow5 (.inr (by intro e; cases e; exact hne rfl)))
                  | (at_builtin; refine wpList_append_lies _ rfl _ _ 113 rfl w.heap.size 3 i0 _ 1 8 Tryz.underlying113 hi hi0 hi1 hi2 rfl (by decide) _ _ _ rfl (hrc5.alloc _) ⟨w5.heap.size, 0, none⟩ 1 1 [_] rfl rfl (cells_one1 _ _) (fun u hu => by simp at hu; subst hu; rfl) (by decide) (by unfold maxLen; omega) (by omega) (by have := hB5.size; simp; omega) _ rfl ?_; intro g6 cap6 w6 hown6 hgrow6 hat6 hlt6; have hB6 := grown_below1 (hB5.alloc hB5.size _) hgrow6 (Nat.le_refl _) (fun k hk => by cases hk; show w.heap.size ≤ g2; omega)))
                have hg52 : g5 ≠ g2 := by
                  rcases hat5 with e | e
                  · cases e; exact hne
                  · rw [e]; simp; omega
                have hown5' := (hown5.alloc (.cells #[.int .i64 _] 3)).kept hgrow6 (.inr (by intro e; cases e; exact hg52 rfl))
                have hg56 : g5 ≠ g6 := by
                  rcases hat6 with e | e
                  · cases e; exact hg52
                  · rw [e]; simp; omega
                go_roundw
                case rel => exact hnext.out _ _ _ _ _ hg56 hown5' hown6 hB6
                case measure => simp [intOf]; omega
      · obtain rfl : k = L.length := by omega
        obtain ⟨hk1, g1, c1, g2, c2, hne, rfl, rfl, hr1, hr2⟩ := hst.resolve_left (by omega)
        obtain ⟨x, hx⟩ : ∃ x, runSt L L.length = [x] := List.length_eq_one_iff.1 (by have := hhi.1; omega)
        have hval : Hid (nestF L = x.2) := by show nestF L = x.2; rw [hF, hx]; rfl
        rw [hx] at hr1 ⊢
        have e1 : wr.cell? ⟨g1, 0, none⟩ = some (.int .i64 x.2) := by rw [hr1.cellAt 0 (by simp)]; rfl
        have hlt' : ¬ (L.length : Int) < (L.length : Int) := by omega
        clear hC hF hhi hS0 hr1 hr2 hst
        simp only [List.length_singleton]
        go_wp2
        go_ret
        exact ⟨ret_int hval.out.symm, hb⟩
  · have hF : nestF L = -1 := by unfold nestF; rw [if_neg hz]
    have hd : decide (spanF L ((L.length : Int) - 1) = 0) = false := by simpa using hz
    rw [hF]
    rw [hd] at hS0
    clear hc hF
    go_enter Tryz.func43, Tryz.ntmps43
    go_wp2_with (go_at_call 78; (with_reducible refine hS0.mono ?_); rintro e w1 ⟨rfl, hb1⟩)
    go_ret
    exact ⟨rfl, hb1⟩
end Go.Proofs.YtnicolaphmffkaaGreatDoor
