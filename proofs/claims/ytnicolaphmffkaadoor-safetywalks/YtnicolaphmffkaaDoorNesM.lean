import Derived.Test.YtnicolaphmffkaaDoorNesB
namespace Go.Proofs.YtnicolaphmffkaaDoor
open Go.RowKit
set_option linter.unusedVariables false

/-- An operand's nest, with its brackets. -/
def bump (asked : Int) (x : Int × Int) : Int := if lvF x.1 < asked then x.2 + 1 else x.2
/-- The greatest so far: of the first k operands. -/
def mostK (op : Int) : List (Int × Int) → Int
  | [] => 0
  | [x] => max 0 (bump (akF op) x)
  | x :: y :: _ => max (max 0 (bump (akF op) x)) (bump (akS op) y)
def nodeNest (op : Int) (xs : List (Int × Int)) : Int := mostK op xs + (if opF op = true then 1 else 0)
def stepSt (S : List (Int × Int)) (op : Int) : List (Int × Int) := S.take (S.length - (arF op).toNat) ++ [(op, nodeNest op (S.drop (S.length - (arF op).toNat)))]
def runSt (L : List Nd) (k : Nat) : List (Int × Int) := (L.take k).foldl (fun S n => stepSt S n.op) []
def nestF (L : List Nd) : Int := if spanF L (L.length - 1) = 0 then ((runSt L L.length).headD (0, 0)).2 else -1

theorem runSt_zero (L : List Nd) : runSt L 0 = [] := rfl
theorem runSt_succ (L : List Nd) (k : Nat) (h : k < L.length) : runSt L (k + 1) = stepSt (runSt L k) L[k].op := by
  unfold runSt; rw [List.take_succ_eq_append_getElem h, List.foldl_append]; rfl
theorem stepSt_len (S : List (Int × Int)) (op : Int) : (stepSt S op).length = S.length - (arF op).toNat + 1 := by
  unfold stepSt; simp

theorem span_high (L : List Nd) : ∀ (k : Nat) (w : Int), k ≤ L.length → 1 ≤ w → spanGo L k w = 0 → ((runSt L k).length : Int) = w ∧ ∀ j (hj : j < L.length), j < k → arF L[j].op ≠ -1 ∧ arF L[j].op ≤ (runSt L j).length
  | 0, w, _, _, h => by simp [spanGo] at h
  | j + 1, w, hk, hw, h => by
    have hj : j < L.length := by omega
    have hbd := arF_bd L[j].op
    by_cases hn : arF L[j].op = -1
    · rw [spanGo_none hj w hn] at h; simp at h
    · by_cases he : w + (arF L[j].op - 1) = 0
      · rw [spanGo_hit hj w hn he] at h
        have hj0 : j = 0 := by omega
        subst hj0
        have ha : arF L[0].op = 0 := by omega
        refine ⟨?_, ?_⟩
        · rw [runSt_succ L 0 hj, stepSt_len, runSt_zero, ha]; simp; omega
        · intro i hi hlt
          obtain rfl : i = 0 := by omega
          exact ⟨hn, by rw [runSt_zero, ha]; simp⟩
      · rw [spanGo_on hj w hn he] at h
        obtain ⟨h1, h2⟩ := span_high L j _ (by omega) (by omega) h
        refine ⟨?_, ?_⟩
        · rw [runSt_succ L j hj, stepSt_len]; omega
        · intro i hi hlt
          by_cases e : i = j
          · subst e; exact ⟨hn, by omega⟩
          · exact h2 i hi (by omega)

theorem bump_bd (a : Int) (x : Int × Int) : x.2 ≤ bump a x ∧ bump a x ≤ x.2 + 1 := by unfold bump; split <;> omega
theorem mostK_bd (op : Int) (xs : List (Int × Int)) (B : Int) (hB : 0 ≤ B) (h : ∀ x ∈ xs, 0 ≤ x.2 ∧ x.2 ≤ B) : 0 ≤ mostK op xs ∧ mostK op xs ≤ B + 1 := by
  match xs, h with
  | [], _ => simp [mostK]; omega
  | [x], h =>
    have h1 := h x (by simp)
    have h2 := bump_bd (akF op) x
    simp only [mostK]; omega
  | x :: y :: r, h =>
    have h1 := h x (by simp)
    have h2 := bump_bd (akF op) x
    have h3 := h y (by simp)
    have h4 := bump_bd (akS op) y
    simp only [mostK]; omega
theorem nodeNest_bd (op : Int) (xs : List (Int × Int)) (B : Int) (hB : 0 ≤ B) (h : ∀ x ∈ xs, 0 ≤ x.2 ∧ x.2 ≤ B) : 0 ≤ nodeNest op xs ∧ nodeNest op xs ≤ B + 2 := by
  have := mostK_bd op xs B hB h
  unfold nodeNest; split <;> omega
theorem runSt_bd (L : List Nd) : ∀ k, k ≤ L.length → ∀ x ∈ runSt L k, 0 ≤ x.2 ∧ x.2 ≤ 2 * (k : Int)
  | 0, _ => by intro x hx; rw [runSt_zero] at hx; simp at hx
  | k + 1, hk => by
    have ih := runSt_bd L k (by omega)
    rw [runSt_succ L k (by omega)]
    intro x hx
    unfold stepSt at hx
    rcases List.mem_append.1 hx with h | h
    · have := ih x (List.mem_of_mem_take h); omega
    · simp only [List.mem_singleton] at h
      have := nodeNest_bd L[k].op ((runSt L k).drop ((runSt L k).length - (arF L[k].op).toNat)) (2 * k) (by omega) (fun y hy => ih y (List.mem_of_mem_drop hy))
      rw [h]; simp only; omega

/-- A list of what waits, as it is read. -/
def Ms (w : World) (v : Value) (xs : List (Int × Int)) : Prop :=
  ∃ a cap, v = .slice a xs.length cap ∧ (xs = [] ∨ ∃ g o, a = some ⟨g, o, none⟩ ∧ g < w.heap.size ∧ ∀ (i : Nat) (h : i < xs.length),
    w.cell? ⟨g, o + i * 2, none⟩ = some (.int .i64 (lvF xs[i].1)) ∧ w.cell? ⟨g, o + i * 2 + 1, none⟩ = some (.int .i64 xs[i].2))


set_option maxRecDepth 100000 in
set_option maxHeartbeats 4000000 in
theorem over_nil (op ar y0 y1 : Int) (v : Value) (w : World) (hM : Ms w v []) :
    Calls Tryd.prog 68 #[.agg #[.int .i64 ar, .int .i64 (lvF op), .bool (opF op), .int .i64 y0, .int .i64 y1], v] w fun e w' => e = .returned (.int .i64 (nodeNest op [])) ∧ Below w.heap.size w w' := by
  obtain ⟨a, cap, rfl, hx⟩ := hM
  clear hx
  unfold nodeNest mostK
  generalize lvF op = lv
  cases hop : opF op
  all_goals
    clear hop
    go_enter Tryd.func68, Tryd.ntmps68
    go_wp2
    go_loopw [5, 11] (fun t5 t11 wr => t5 = .int .i64 0 ∧ t11 = .int .i64 0 ∧ Below w.heap.size w wr ∧ Has wr w.heap.size #[.int .i64 ar, .int .i64 lv, .bool _, .int .i64 y0, .int .i64 y1]) (fun _ _ _ => 0)
    case atStart => exact ⟨rfl, rfl, (Below.refl _ _).alloc (Nat.le_refl _) _, Has.new _ _ _ rfl⟩
    case round =>
      obtain ⟨rfl, rfl, hb, hH⟩ := hrel
      obtain ⟨x0, X1, x2⟩ := hH
      go_wp2
      go_ret
      exact ⟨rfl, hb⟩

set_option maxRecDepth 100000 in
set_option maxHeartbeats 8000000 in
theorem over_one (op ar y1 : Int) (x : Int × Int) (v : Value) (w : World) (hM : Ms w v [x]) (hx : 0 ≤ x.2 ∧ x.2 ≤ 4611686018427387904) :
    Calls Tryd.prog 68 #[.agg #[.int .i64 ar, .int .i64 (lvF op), .bool (opF op), .int .i64 (akF op), .int .i64 y1], v] w fun e w' => e = .returned (.int .i64 (nodeNest op [x])) ∧ Below w.heap.size w w' := by
  obtain ⟨a, cap, rfl, hc⟩ := hM
  obtain ⟨g, o, rfl, hg, hC⟩ := hc.resolve_left (by simp)
  obtain ⟨p0, p1⟩ := hC 0 (by simp)
  simp only [List.getElem_cons_zero, Nat.zero_mul, Nat.add_zero] at p0 p1
  have hB : Hid (nodeNest op [x] = (max 0 (bump (akF op) x)) + (if opF op = true then 1 else 0)) := rfl
  have hbu := bump_bd (akF op) x
  have hbe : Hid (bump (akF op) x = if lvF x.1 < akF op then x.2 + 1 else x.2) := rfl
  generalize nodeNest op [x] = N at *
  generalize bump (akF op) x = b at *
  generalize lvF x.1 = lx at *
  generalize akF op = ak at *
  generalize x.2 = nx at *
  generalize lvF op = lv
  generalize opF op = pn at *
  clear hc hC
  have hA : ∀ A : World, Below w.heap.size w A → A.cell? ⟨g, o, none⟩ = some (.int .i64 lx) ∧ A.cell? ⟨g, o + 1, none⟩ = some (.int .i64 nx) := fun A h => ⟨(h.cell (p := ⟨g, _, none⟩) hg).trans p0, (h.cell (p := ⟨g, _, none⟩) hg).trans p1⟩
  go_enter Tryd.func68, Tryd.ntmps68
  go_wp2
  go_loopw [5, 11] (fun t5 t11 wr => ((t5 = .int .i64 0 ∧ t11 = .int .i64 0) ∨ (t5 = .int .i64 (max 0 b) ∧ t11 = .int .i64 1)) ∧ Below w.heap.size w wr ∧ Has wr w.heap.size #[.int .i64 ar, .int .i64 lv, .bool pn, .int .i64 ak, .int .i64 y1]) (fun _ t _ => 1 - (intOf t).toNat)
  case atStart => exact ⟨.inl ⟨rfl, rfl⟩, (Below.refl _ _).alloc (Nat.le_refl _) _, Has.new _ _ _ rfl⟩
  case round =>
    obtain ⟨hst, hb, hH⟩ := hrel
    obtain ⟨x0, X1, x2⟩ := id hH
    have hbs := hb.size
    rcases hst with ⟨rfl, rfl⟩ | ⟨rfl, rfl⟩
    · obtain ⟨q0, q1⟩ := hA wr hb
      by_cases hlt : lx < ak
      · have hbv : b = nx + 1 := by rw [hbe.out, if_pos hlt]
        subst hbv
        clear hA hB hbe
        go_wp2
        go_quiet (fail)
        go_wp2
        go_roundw
        case rel => exact ⟨.inr ⟨congrArg (Value.int .i64) (by omega), rfl⟩, bel_drewN (hb.alloc (by omega) _), (hH.alloc _).drewN _⟩
        case measure => simp [intOf]
      · have hbv : b = nx := by rw [hbe.out, if_neg hlt]
        subst hbv
        clear hA hB hbe
        go_wp2
        go_quiet (fail)
        go_wp2
        go_roundw
        case rel => exact ⟨.inr ⟨congrArg (Value.int .i64) (by omega), rfl⟩, bel_drewN (hb.alloc (by omega) _), (hH.alloc _).drewN _⟩
        case measure => simp [intOf]
    · have hN := hB.out
      clear hA hB hbe
      cases pn
      · simp only [if_neg (show ¬ (false = true) by simp), Int.add_zero] at hN
        subst hN
        go_wp2
        go_ret
        exact ⟨rfl, hb⟩
      · simp only [if_pos] at hN
        subst hN
        go_wp2
        go_ret
        exact ⟨rfl, hb⟩

set_option maxRecDepth 100000 in
set_option maxHeartbeats 8000000 in
theorem over_two (op ar : Int) (x y : Int × Int) (v : Value) (w : World) (hM : Ms w v [x, y]) (hx : 0 ≤ x.2 ∧ x.2 ≤ 4611686018427387904) (hy : 0 ≤ y.2 ∧ y.2 ≤ 4611686018427387904) :
    Calls Tryd.prog 68 #[.agg #[.int .i64 ar, .int .i64 (lvF op), .bool (opF op), .int .i64 (akF op), .int .i64 (akS op)], v] w fun e w' => e = .returned (.int .i64 (nodeNest op [x, y])) ∧ Below w.heap.size w w' := by
  obtain ⟨a, cap, rfl, hc⟩ := hM
  obtain ⟨g, o, rfl, hg, hC⟩ := hc.resolve_left (by simp)
  obtain ⟨p0, p1⟩ := hC 0 (by simp)
  obtain ⟨p2, p3⟩ := hC 1 (by simp)
  simp only [List.getElem_cons_zero, List.getElem_cons_succ, Nat.zero_mul, Nat.one_mul, Nat.add_zero] at p0 p1 p2 p3
  have hB : Hid (nodeNest op [x, y] = (max (max 0 (bump (akF op) x)) (bump (akS op) y)) + (if opF op = true then 1 else 0)) := rfl
  have hbu := bump_bd (akF op) x
  have hbe : Hid (bump (akF op) x = if lvF x.1 < akF op then x.2 + 1 else x.2) := rfl
  have hcu := bump_bd (akS op) y
  have hce : Hid (bump (akS op) y = if lvF y.1 < akS op then y.2 + 1 else y.2) := rfl
  generalize nodeNest op [x, y] = N at *
  generalize bump (akF op) x = b at *
  generalize bump (akS op) y = c at *
  generalize lvF x.1 = lx at *
  generalize lvF y.1 = ly at *
  generalize akF op = ak at *
  generalize akS op = az at *
  generalize x.2 = nx at *
  generalize y.2 = ny at *
  generalize lvF op = lv
  generalize opF op = pn at *
  clear hc hC
  have hA : ∀ A : World, Below w.heap.size w A → A.cell? ⟨g, o, none⟩ = some (.int .i64 lx) ∧ A.cell? ⟨g, o + 1, none⟩ = some (.int .i64 nx) ∧ A.cell? ⟨g, o + 2, none⟩ = some (.int .i64 ly) ∧ A.cell? ⟨g, o + 2 + 1, none⟩ = some (.int .i64 ny) := fun A h => ⟨(h.cell (p := ⟨g, _, none⟩) hg).trans p0, (h.cell (p := ⟨g, _, none⟩) hg).trans p1, (h.cell (p := ⟨g, _, none⟩) hg).trans p2, (h.cell (p := ⟨g, _, none⟩) hg).trans p3⟩
  go_enter Tryd.func68, Tryd.ntmps68
  go_wp2
  go_loopw [5, 11] (fun t5 t11 wr => ((t5 = .int .i64 0 ∧ t11 = .int .i64 0) ∨ (∃ q, q = max 0 b ∧ t5 = .int .i64 q ∧ t11 = .int .i64 1) ∨ (∃ q, q = max (max 0 b) c ∧ t5 = .int .i64 q ∧ t11 = .int .i64 2)) ∧ Below w.heap.size w wr ∧ Has wr w.heap.size #[.int .i64 ar, .int .i64 lv, .bool pn, .int .i64 ak, .int .i64 az]) (fun _ t _ => 2 - (intOf t).toNat)
  case atStart => exact ⟨.inl ⟨rfl, rfl⟩, (Below.refl _ _).alloc (Nat.le_refl _) _, Has.new _ _ _ rfl⟩
  case round =>
    obtain ⟨hst, hb, hH⟩ := hrel
    obtain ⟨x0, X1, x2⟩ := id hH
    have hbs := hb.size
    rcases hst with ⟨rfl, rfl⟩ | ⟨q, hq, rfl, rfl⟩ | ⟨q, hq, rfl, rfl⟩
    · obtain ⟨q0, q1, _, _⟩ := hA wr hb
      by_cases hlt : lx < ak
      · have hbv : b = nx + 1 := by rw [hbe.out, if_pos hlt]
        subst hbv
        clear hA hB hbe hce
        go_wp2
        go_quiet (fail)
        go_wp2
        go_roundw
        case rel => exact ⟨.inr (.inl ⟨_, by omega, rfl, rfl⟩), bel_drewN (hb.alloc (by omega) _), (hH.alloc _).drewN _⟩
        case measure => simp [intOf]
      · have hbv : b = nx := by rw [hbe.out, if_neg hlt]
        subst hbv
        clear hA hB hbe hce
        go_wp2
        go_quiet (fail)
        go_wp2
        go_roundw
        case rel => exact ⟨.inr (.inl ⟨_, by omega, rfl, rfl⟩), bel_drewN (hb.alloc (by omega) _), (hH.alloc _).drewN _⟩
        case measure => simp [intOf]
    · obtain ⟨_, _, q0, q1⟩ := hA wr hb
      by_cases hlt : ly < az
      · have hbv : c = ny + 1 := by rw [hce.out, if_pos hlt]
        subst hbv
        clear hA hB hbe hce
        go_wp2
        go_quiet (fail)
        go_wp2
        go_roundw
        case rel => exact ⟨.inr (.inr ⟨_, by omega, rfl, rfl⟩), bel_drewN (hb.alloc (by omega) _), (hH.alloc _).drewN _⟩
        case measure => simp [intOf]
      · have hbv : c = ny := by rw [hce.out, if_neg hlt]
        subst hbv
        clear hA hB hbe hce
        go_wp2
        go_quiet (fail)
        go_wp2
        go_roundw
        case rel => exact ⟨.inr (.inr ⟨_, by omega, rfl, rfl⟩), bel_drewN (hb.alloc (by omega) _), (hH.alloc _).drewN _⟩
        case measure => simp [intOf]
    · have hN := hB.out
      rw [← hq] at hN
      have hq9 : 0 ≤ q ∧ q ≤ 4611686018427387905 := by omega
      clear hA hB hbe hce hq
      cases pn
      · simp only [if_neg (show ¬ (false = true) by simp), Int.add_zero] at hN
        subst hN
        go_wp2
        go_ret
        exact ⟨rfl, hb⟩
      · simp only [if_pos] at hN
        subst hN
        go_wp2
        go_ret
        exact ⟨rfl, hb⟩
end Go.Proofs.YtnicolaphmffkaaDoor
