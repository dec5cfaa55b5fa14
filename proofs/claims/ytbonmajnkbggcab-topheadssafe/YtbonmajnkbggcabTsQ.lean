import Derived.Test.YtbonmajnkbggcabSfM
import Derived.Test.YtbonmajnkbggcabRuC
import Derived.Deep.RegionHeld3
namespace Go.Proofs.Ytbonmajnkbggcab
open Go.RowKit
set_option linter.unusedVariables false

theorem letN_rng (a : Int) : 0 ≤ letN a ∧ letN a < 256 := by
  unfold letN
  repeat' split
  all_goals omega
theorem showS_size (A : List Int) : (showS A).size = A.length := by
  unfold showS strOfNums
  simp [ByteArray.size]
theorem showS_at (A : List Int) (k : Nat) (h : k < (showS A).size) (h' : k < A.length) : ((showS A)[k]'h).toNat = (letN A[k]).toNat := by
  have e : (showS A)[k]'h = UInt8.ofNat (letN A[k]).toNat := by
    unfold showS strOfNums
    simp [ByteArray.getElem_eq_getElem_data]
  rw [e, UInt8.toNat_ofNat']
  have := letN_rng A[k]
  omega
/-- A list of m pictures of n letters each: f j k is what group k shows in picture j. -/
def Film (w : World) (v : Value) (n m : Nat) (f : Nat → Nat → Int) : Prop :=
  ∃ g c, v = .slice (some ⟨g, 0, none⟩) m c ∧ g < w.heap.size ∧ ∀ j, j < m → ∃ s : ByteArray, w.cell? ⟨g, j, none⟩ = some (.string s) ∧ s.size = n ∧ ∀ (k : Nat) (h : k < s.size), (s[k]'h).toNat = (letN (f j k)).toNat
theorem Film.below {w w' : World} {v : Value} {n m : Nat} {f : Nat → Nat → Int} (h : Film w v n m f) (hb : Below w.heap.size w w') : Film w' v n m f := by
  obtain ⟨g, c, e, hg, P⟩ := h
  refine ⟨g, c, e, Nat.lt_of_lt_of_le hg hb.size, fun j hj => ?_⟩
  obtain ⟨s, h1, h2⟩ := P j hj
  exact ⟨s, (hb.cell (p := ⟨g, j, none⟩) hg).trans h1, h2⟩
theorem film_run {w : World} {base g c : Nat} {G : List Gp} {C : List Cf} {Ms : List Nat} (h : w.ownsRow base 9 1 (.slice (some ⟨g, 0, none⟩) (Ms.length + 1) c) (Ms.length + 1) (picsF G C Ms Ms.length)) : Film w (.slice (some ⟨g, 0, none⟩) (Ms.length + 1) c) G.length (Ms.length + 1) (fun j k => (runF G C Ms j).a k) := by
  refine ⟨g, c, rfl, (own_lt h g rfl).2, fun j hj => ⟨picF G C Ms j, ?_, ?_, fun k hk => ?_⟩⟩
  · refine (h.cellAt j (by omega)).trans ?_
    unfold picsF
    rw [List.getElem?_map, List.getElem?_range hj]; rfl
  · unfold picF; rw [showS_size, lst_len]
  · unfold picF at hk ⊢
    have hk' := hk
    rw [showS_size] at hk'
    rw [showS_at _ _ _ hk', lst_get]
theorem let0 : (letN 0).toNat = 114 := rfl
theorem let1 : (letN 1).toNat = 108 := rfl
theorem let2 : (letN 2).toNat = 103 := rfl
theorem let3 : (letN 3).toNat = 97 := rfl
end Go.Proofs.Ytbonmajnkbggcab
namespace Go.Proofs.Ytbonmajnkbggcab
open Go.RowKit
set_option linter.unusedVariables false


theorem Str.start {f c : Nat → Int} {v : Int} {s : Nat} : Str f c v s s := ⟨Nat.le_refl _, fun h => absurd h (Nat.lt_irrefl _), fun t h1 h2 => absurd h2 (Nat.not_lt.2 h1)⟩
theorem let_0 {a : Int} (h : a = 0 ∨ a = 1 ∨ a = 2 ∨ a = 3) (e : (letN a).toNat = 114) : a = 0 := by
  rcases h with h | h | h | h <;> subst h <;> first | rfl | (exact absurd e (by decide))
theorem let_1 {a : Int} (h : a = 0 ∨ a = 1 ∨ a = 2 ∨ a = 3) (e : (letN a).toNat = 108) : a = 1 := by
  rcases h with h | h | h | h <;> subst h <;> first | rfl | (exact absurd e (by decide))
theorem let_2 {a : Int} (h : a = 0 ∨ a = 1 ∨ a = 2 ∨ a = 3) (e : (letN a).toNat = 103) : a = 2 := by
  rcases h with h | h | h | h <;> subst h <;> first | rfl | (exact absurd e (by decide))
theorem let_3 {a : Int} (h : a = 0 ∨ a = 1 ∨ a = 2 ∨ a = 3) (e : (letN a).toNat = 97) : a = 3 := by
  rcases h with h | h | h | h <;> subst h <;> first | rfl | (exact absurd e (by decide))
set_option maxRecDepth 100000 in
set_option maxHeartbeats 4000000 in
theorem headsLine_any (g : Gp) (v : Value) (n m k : Nat) (f : Nat → Nat → Int) (c : Nat → Int) (w : World) (hF : Film w v n m f) (hk : k < n) (hn : n ≤ 64) (hm : m ≤ 17592186044001) (L' : Ln g (fun j => f j k) c) :
    Calls Try.prog 63 #[.agg #[.string g.name, .int .i64 g.sort, .int .i64 g.min, .int .i64 g.amber, .int .i64 g.lead], v, .int .i64 (k : Int)] w fun e w' => e = .returned (.bool true) ∧ Below w.heap.size w w' := by
  obtain ⟨F, eF⟩ : ∃ F : Nat → Int, F = fun j => f j k := ⟨_, rfl⟩
  have L : Ln g F c := by rw [eF]; exact L'
  have hb0 : Below w.heap.size w (w.alloc (.cells #[.string g.name, .int .i64 g.sort, .int .i64 g.min, .int .i64 g.amber, .int .i64 g.lead] 58)) := belN1
  obtain ⟨q, cp, rfl, -, P⟩ := hF.below hb0
  replace P : ∀ j, j < m → ∃ s : ByteArray, (w.alloc (.cells #[.string g.name, .int .i64 g.sort, .int .i64 g.min, .int .i64 g.amber, .int .i64 g.lead] 58)).cell? ⟨q, j, none⟩ = some (.string s) ∧ ∃ h : k < s.size, (s[k]'h).toNat = (letN (F j)).toNat := fun j hj => by
    obtain ⟨s, h1, h2, h3⟩ := P j hj
    exact ⟨s, h1, by omega, by rw [h3, eF]⟩
  have B0 : Has (w.alloc (.cells #[.string g.name, .int .i64 g.sort, .int .i64 g.min, .int .i64 g.amber, .int .i64 g.lead] 58)) w.heap.size #[.string g.name, .int .i64 g.sort, .int .i64 g.min, .int .i64 g.amber, .int .i64 g.lead] := Has.new _ _ _ rfl
  obtain ⟨_, b1, _⟩ := id B0
  have k0 : (0 : Int) ≤ (k : Int) := by omega
  clear L' eF hF
  go_enter Try.func63, Try.ntmps63
  go_wp2
  generalize (w.alloc (.cells #[.string g.name, .int .i64 g.sort, .int .i64 g.min, .int .i64 g.amber, .int .i64 g.lead] 58)) = W0 at *
  go_loopw [7] (fun t wr => ∃ i : Nat, i ≤ m ∧ t = .int .i64 (i : Int) ∧ (i < m → F i = 0 ∧ c i = 1) ∧ W0 = wr) (fun t _ => m - (intOf t).toNat)
  case atStart => exact ⟨0, by omega, rfl, fun _ => ⟨L.f0, L.c0⟩, rfl⟩
  case round =>
    obtain ⟨i, him, rfl, hi, rfl⟩ := hrel
    by_cases ilt : i < m
    · obtain ⟨fi, ci⟩ := hi ilt
      have ui : (i : Int) < (m : Int) := by omega
      clear hi
      go_wp2
      go_loopw [7] (fun t wr => ∃ j1 : Nat, i ≤ j1 ∧ j1 ≤ m ∧ t = .int .i64 (j1 : Int) ∧ Hid (Str F c 0 i j1) ∧ W0 = wr) (fun t _ => m - (intOf t).toNat)
      case atStart => exact ⟨i, Nat.le_refl _, by omega, rfl, Str.start, rfl⟩
      case round =>
        obtain ⟨j1, j1l, j1m, rfl, j1S, rfl⟩ := hrel
        by_cases j1t : j1 < m
        · obtain ⟨sj1, pj1, hj1, qj1⟩ := P j1 j1t
          have uj1 : (j1 : Int) < (m : Int) := by omega
          have vj1 : (0 : Int) ≤ (j1 : Int) := by omega
          by_cases j1v : F j1 = 0
          · rw [j1v, let0] at qj1
            have S' := j1S.out.more (fun _ => ci) j1v
            clear P j1S
            go_wp2
            go_roundw
            case rel => exact ⟨j1 + 1, by omega, by omega, by go_num, S', trivial⟩
            case measure => simp [intOf]; omega
          · have nj1 : ¬ (sj1[k]'(by omega)).toNat = 114 := fun h => j1v (let_0 (L.four j1) (qj1.symm.trans h))
            have dj1 : ¬ ((sj1[k]'(by omega)).toNat : Int) = 114 := by omega
            clear qj1
            have hij : i < j1 := by
              rcases Nat.lt_or_ge i j1 with h | h
              · exact h
              · have : i = j1 := by omega
                subst this; exact absurd fi j1v
            have y1 : ¬ (j1 : Int) = (i : Int) := by omega
            obtain ⟨f1, c1⟩ := L.of_red j1S.out hij j1v
            go_wp2
            go_loopw [7] (fun t wr => ∃ j2 : Nat, j1 ≤ j2 ∧ j2 ≤ m ∧ t = .int .i64 (j2 : Int) ∧ Hid (Str F c 1 j1 j2) ∧ W0 = wr) (fun t _ => m - (intOf t).toNat)
            case atStart => exact ⟨j1, Nat.le_refl _, by omega, rfl, Str.start, rfl⟩
            case round =>
              obtain ⟨j2, j2l, j2m, rfl, j2S, rfl⟩ := hrel
              by_cases j2t : j2 < m
              · obtain ⟨sj2, pj2, hj2, qj2⟩ := P j2 j2t
                have uj2 : (j2 : Int) < (m : Int) := by omega
                have vj2 : (0 : Int) ≤ (j2 : Int) := by omega
                by_cases j2v : F j2 = 1
                · rw [j2v, let1] at qj2
                  have S' := j2S.out.more (fun _ => c1) j2v
                  clear P j2S
                  go_wp2
                  go_roundw
                  case rel => exact ⟨j2 + 1, by omega, by omega, by go_num, S', trivial⟩
                  case measure => simp [intOf]; omega
                · have nj2 : ¬ (sj2[k]'(by omega)).toNat = 108 := fun h => j2v (let_1 (L.four j2) (qj2.symm.trans h))
                  have dj2 : ¬ ((sj2[k]'(by omega)).toNat : Int) = 108 := by omega
                  clear qj2
                  obtain ⟨f2, c2, l2⟩ := L.of_led j2S.out f1 c1 j2v
                  have w2 : IntKind.i64.wrap ((j2 : Int) - (j1 : Int)) = (j2 : Int) - (j1 : Int) := wrap64 _ (by omega)
                  have y2 : ¬ (j2 : Int) = (m : Int) := by omega
                  go_wp2
                  go_loopw [7] (fun t wr => ∃ j3 : Nat, j2 ≤ j3 ∧ j3 ≤ m ∧ t = .int .i64 (j3 : Int) ∧ Hid (Str F c 2 j2 j3) ∧ W0 = wr) (fun t _ => m - (intOf t).toNat)
                  case atStart => exact ⟨j2, Nat.le_refl _, by omega, rfl, Str.start, rfl⟩
                  case round =>
                    obtain ⟨j3, j3l, j3m, rfl, j3S, rfl⟩ := hrel
                    by_cases j3t : j3 < m
                    · obtain ⟨sj3, pj3, hj3, qj3⟩ := P j3 j3t
                      have uj3 : (j3 : Int) < (m : Int) := by omega
                      have vj3 : (0 : Int) ≤ (j3 : Int) := by omega
                      by_cases j3v : F j3 = 2
                      · rw [j3v, let2] at qj3
                        have S' := j3S.out.more (fun _ => c2) j3v
                        clear P j3S
                        go_wp2
                        go_roundw
                        case rel => exact ⟨j3 + 1, by omega, by omega, by go_num, S', trivial⟩
                        case measure => simp [intOf]; omega
                      · have nj3 : ¬ (sj3[k]'(by omega)).toNat = 103 := fun h => j3v (let_2 (L.four j3) (qj3.symm.trans h))
                        have dj3 : ¬ ((sj3[k]'(by omega)).toNat : Int) = 103 := by omega
                        clear qj3
                        obtain ⟨l4, f4, c4, m4⟩ := L.of_grn j3S.out f2 j3v
                        have w3 : IntKind.i64.wrap ((j3 : Int) - (j2 : Int)) = (j3 : Int) - (j2 : Int) := wrap64 _ (by omega)
                        have y3 : ¬ (j3 : Int) = (m : Int) := by omega
                        have z3 : ¬ (j3 : Int) - (j2 : Int) < g.min := by omega
                        go_wp2
                        go_loopw [7] (fun t wr => ∃ j4 : Nat, j3 ≤ j4 ∧ j4 ≤ m ∧ t = .int .i64 (j4 : Int) ∧ Hid (Str F c 3 j3 j4) ∧ W0 = wr) (fun t _ => m - (intOf t).toNat)
                        case atStart => exact ⟨j3, Nat.le_refl _, by omega, rfl, Str.start, rfl⟩
                        case round =>
                          obtain ⟨j4, j4l, j4m, rfl, j4S, rfl⟩ := hrel
                          by_cases j4t : j4 < m
                          · obtain ⟨sj4, pj4, hj4, qj4⟩ := P j4 j4t
                            have uj4 : (j4 : Int) < (m : Int) := by omega
                            have vj4 : (0 : Int) ≤ (j4 : Int) := by omega
                            by_cases j4v : F j4 = 3
                            · rw [j4v, let3] at qj4
                              have S' := j4S.out.more (fun _ => c4) j4v
                              clear P j4S
                              go_wp2
                              go_roundw
                              case rel => exact ⟨j4 + 1, by omega, by omega, by go_num, S', trivial⟩
                              case measure => simp [intOf]; omega
                            · have nj4 : ¬ (sj4[k]'(by omega)).toNat = 97 := fun h => j4v (let_3 (L.four j4) (qj4.symm.trans h))
                              have dj4 : ¬ ((sj4[k]'(by omega)).toNat : Int) = 97 := by omega
                              clear qj4
                              obtain ⟨f5, c5, l5⟩ := L.of_amb j4S.out f4 c4 j4v
                              have w4 : IntKind.i64.wrap ((j4 : Int) - (j3 : Int)) = (j4 : Int) - (j3 : Int) := wrap64 _ (by omega)
                              have y4 : ¬ (j4 : Int) = (m : Int) := by omega
                              clear P
                              go_wp2
                              go_roundw
                              case rel => exact ⟨j4, by omega, rfl, fun _ => ⟨f5, c5⟩, trivial⟩
                              case measure => simp [intOf]; omega
                          · have uj4 : ¬ (j4 : Int) < (m : Int) := by omega
                            obtain rfl : j4 = m := by omega
                            have zz := L.amb_end j4S.out
                            have w4 : IntKind.i64.wrap ((j4 : Int) - (j3 : Int)) = (j4 : Int) - (j3 : Int) := wrap64 _ (by omega)
                            have a4 : (j4 : Int) - (j3 : Int) ≤ g.amber := zz
                            have e4 : decide ((j4 : Int) - (j3 : Int) ≤ g.amber) = true := decide_eq_true zz
                            clear P
                            go_wp2
                            go_ret
                            exact ⟨by first | rfl | (simp [a4]; done) | (simp; omega), hb0⟩
                    · have uj3 : ¬ (j3 : Int) < (m : Int) := by omega
                      obtain rfl : j3 = m := by omega
                      have hse : j2 < j3 := by
                        rcases Nat.lt_or_ge j2 j3 with h | h
                        · exact h
                        · omega
                      have a3 : (j3 : Int) > (j2 : Int) := by omega
                      have b3 : (j2 : Int) < (j3 : Int) := by omega
                      clear P
                      go_wp2
                      go_ret
                      exact ⟨by first | rfl | (simp [b3]; done) | (simp; omega), hb0⟩
              · have uj2 : ¬ (j2 : Int) < (m : Int) := by omega
                obtain rfl : j2 = m := by omega
                have zz := L.led_end j2S.out
                have w2 : IntKind.i64.wrap ((j2 : Int) - (j1 : Int)) = (j2 : Int) - (j1 : Int) := wrap64 _ (by omega)
                have a2 : (j2 : Int) - (j1 : Int) ≤ g.lead := zz
                clear P
                go_wp2
                go_ret
                exact ⟨by first | rfl | (simp [a2]; done) | (simp; omega), hb0⟩
        · have uj1 : ¬ (j1 : Int) < (m : Int) := by omega
          obtain rfl : j1 = m := by omega
          have y1 : ¬ (j1 : Int) = (i : Int) := by omega
          have le0 := L.l0
          clear P
          go_wp2
          go_loopw [7] (fun t wr => t = .int .i64 (j1 : Int) ∧ W0 = wr) (fun t _ => 0)
          case atStart => exact ⟨rfl, rfl⟩
          case round =>
            obtain ⟨rfl, rfl⟩ := hrel
            go_wp2
            go_ret
            exact ⟨by first | rfl | (simp [le0]; done) | (simp; omega), hb0⟩
    · have ui : ¬ (i : Int) < (m : Int) := by omega
      clear hi P
      go_wp2
      go_ret
      exact ⟨rfl, hb0⟩
end Go.Proofs.Ytbonmajnkbggcab
namespace Go.Proofs.Ytbonmajnkbggcab
open Go.RowKit
set_option linter.unusedVariables false


/-- What the laws ask of a film over sound tables. -/
structure SafeF (G : List Gp) (C : List Cf) (m : Nat) (f : Nat → Nat → Int) (c : Nat → Nat → Int) : Prop where
  four : ∀ j k, j < m → k < G.length → f j k = 0 ∨ f j k = 1 ∨ f j k = 2 ∨ f j k = 3
  rng : ∀ c ∈ C, 0 ≤ c.a ∧ c.a < c.b ∧ c.b < (G.length : Int)
  clr : ∀ j, j < m → ∀ c ∈ C, f j c.a.toNat = 0 ∨ f j c.b.toNat = 0
  red : ∀ k, k < G.length → f 0 k = 0
  itr : ∀ j, j < m → ∀ c ∈ C, (f j c.b.toNat ≠ 0 → c.ab < (j : Int) - lastF (fun t => f t c.a.toNat) j) ∧ (f j c.a.toNat ≠ 0 → c.ba < (j : Int) - lastF (fun t => f t c.b.toNat) j)
  lin : ∀ (k : Nat) (h : k < G.length), Ln G[k] (fun j => f j k) (c k)
theorem run_safeF {G : List Gp} {C : List Cf} (hg : gridB G C = true) (Ms : List Nat) : SafeF G C (Ms.length + 1) (fun j k => (runF G C Ms j).a k) (fun k j => (runF G C Ms j).i k) := by
  have hl : ∀ (k : Nat) (h : k < G.length), Ln G[k] (fun j => (runF G C Ms j).a k) (fun j => (runF G C Ms j).i k) := fun k h => by
    have := run_ln hg Ms k h
    rw [show G.getD k gp0 = G[k] by simp [List.getD_eq_getElem?_getD, h]] at this
    exact this
  exact ⟨fun j k _ hk => (hl k hk).four j, grid_cfm hg, fun j _ => run_clear hg Ms j, fun k _ => rfl, fun j _ => run_inter hg Ms j, hl⟩
end Go.Proofs.Ytbonmajnkbggcab
namespace Go.Proofs.Ytbonmajnkbggcab
open Go.RowKit
set_option linter.unusedVariables false


theorem let_inj {a b : Int} (ha : a = 0 ∨ a = 1 ∨ a = 2 ∨ a = 3) (hb : b = 0 ∨ b = 1 ∨ b = 2 ∨ b = 3) (e : (letN a).toNat = (letN b).toNat) : a = b := by
  rcases ha with h | h | h | h <;> rcases hb with h' | h' | h' | h' <;> subst h <;> subst h' <;> first | rfl | (exact absurd e (by decide))
set_option maxRecDepth 100000 in
set_option maxHeartbeats 4000000 in
theorem formed_any (v : Value) (n m : Nat) (f : Nat → Nat → Int) (w : World) (hF : Film w v n m f) (hn : n ≤ 64) (hm : m ≤ 17592186044001) (h4 : ∀ j k, j < m → k < n → f j k = 0 ∨ f j k = 1 ∨ f j k = 2 ∨ f j k = 3) :
    Calls Try.prog 53 #[.int .i64 (n : Int), v] w fun e w' => e = .returned (.bool true) ∧ Below w.heap.size w w' := by
  obtain ⟨q, cp, rfl, hq, PF⟩ := hF
  go_enter Try.func53, Try.ntmps53
  go_wp2
  go_loopw [5] (fun t wr => ∃ j : Nat, j ≤ m ∧ t = .int .i64 (j : Int) ∧ w = wr) (fun t _ => m - (intOf t).toNat)
  case atStart => exact ⟨0, by omega, rfl, rfl⟩
  case round =>
    obtain ⟨j, hjm, rfl, rfl⟩ := hrel
    by_cases jlt : j < m
    · obtain ⟨s, ps, sz', hs⟩ := PF j jlt
      have sz : Hid (s.size = n) := sz'
      have si : (s.size : Int) = (n : Int) := by omega
      have u1 : (j : Int) < (m : Int) := by omega
      have u0 : (0 : Int) ≤ (j : Int) := by omega
      clear sz'
      go_wp2
      go_loopw [6] (fun t wr => ∃ k : Nat, k ≤ n ∧ t = .int .i64 (k : Int) ∧ w = wr) (fun t _ => n - (intOf t).toNat)
      case atStart => exact ⟨0, by omega, rfl, rfl⟩
      case round =>
        obtain ⟨k, hkl, rfl, rfl⟩ := hrel
        by_cases klt : k < n
        · have hks : k < s.size := by rw [sz.out]; exact klt
          have qk := hs k hks
          have t1 : (k : Int) < (n : Int) := by omega
          have t0 : (0 : Int) ≤ (k : Int) := by omega
          rcases h4 j k jlt klt with e | e | e | e
          · rw [e, let0] at qk
            clear hs h4 PF
            go_wp2
            go_roundw
            case rel => exact ⟨k + 1, by omega, by go_num, trivial⟩
            case measure => simp [intOf]; omega
          · rw [e, let1] at qk
            clear hs h4 PF
            go_wp2
            go_roundw
            case rel => exact ⟨k + 1, by omega, by go_num, trivial⟩
            case measure => simp [intOf]; omega
          · rw [e, let2] at qk
            clear hs h4 PF
            go_wp2
            go_roundw
            case rel => exact ⟨k + 1, by omega, by go_num, trivial⟩
            case measure => simp [intOf]; omega
          · rw [e, let3] at qk
            clear hs h4 PF
            go_wp2
            go_roundw
            case rel => exact ⟨k + 1, by omega, by go_num, trivial⟩
            case measure => simp [intOf]; omega
        · have t1 : ¬ (k : Int) < (n : Int) := by omega
          clear hs h4 PF
          go_wp2
          go_roundw
          case rel => exact ⟨j + 1, by omega, by go_num, trivial⟩
          case measure => simp [intOf]; omega
    · have t1 : ¬ (j : Int) < (m : Int) := by omega
      go_wp2
      go_ret
      exact ⟨rfl, Below.refl _ _⟩
set_option maxRecDepth 100000 in
set_option maxHeartbeats 4000000 in
theorem toward_any (v : Value) (n m : Nat) (f : Nat → Nat → Int) (xa xb it : Int) (w : World) (hF : Film w v n m f) (hn : n ≤ 64) (hm : m ≤ 17592186044001) (h4 : ∀ j k, j < m → k < n → f j k = 0 ∨ f j k = 1 ∨ f j k = 2 ∨ f j k = 3)
    (a0 : 0 ≤ xa) (a1 : xa < (n : Int)) (b0 : 0 ≤ xb) (b1 : xb < (n : Int)) (hI : ∀ j, j < m → f j xb.toNat ≠ 0 → f j xa.toNat = 0 ∧ it < (j : Int) - lastF (fun t => f t xa.toNat) j) :
    Calls Try.prog 55 #[v, .int .i64 xa, .int .i64 xb, .int .i64 it] w fun e w' => e = .returned (.bool true) ∧ Below w.heap.size w w' := by
  obtain ⟨q, cp, rfl, hq, PF⟩ := hF
  go_enter Try.func55, Try.ntmps55
  go_wp2
  go_loopw [9, 10] (fun u t wr => ∃ j : Nat, j ≤ m ∧ u = .int .i64 ((j : Int) - 1 - lastF (fun t => f t xa.toNat) j) ∧ t = .int .i64 (j : Int) ∧ w = wr) (fun _ t _ => m - (intOf t).toNat)
  case atStart => exact ⟨0, by omega, rfl, rfl, rfl⟩
  case round =>
    obtain ⟨j, hjm, rfl, rfl, rfl⟩ := hrel
    by_cases jlt : j < m
    · obtain ⟨s, ps, sz', hs⟩ := PF j jlt
      have sz : Hid (s.size = n) := sz'
      have si : (s.size : Int) = (n : Int) := by omega
      have u1 : (j : Int) < (m : Int) := by omega
      have u0 : (0 : Int) ≤ (j : Int) := by omega
      clear sz'
      have qa := hs xa.toNat (by rw [sz.out]; omega)
      have qb := hs xb.toNat (by rw [sz.out]; omega)
      have fa := h4 j xa.toNat jlt (by omega)
      have fb := h4 j xb.toNat jlt (by omega)
      have la := lastF_rng (fun t => f t xa.toNat) j
      have nx : lastF (fun t => f t xa.toNat) (j + 1) = if f j xa.toNat = 2 then (j : Int) else lastF (fun t => f t xa.toNat) j := rfl
      have hi := hI j jlt
      clear hs h4 PF hI
      generalize hy : (j : Int) - 1 - lastF (fun t => f t xa.toNat) j = y at *
      have y0 : 0 ≤ y ∧ y ≤ (j : Int) := by omega
      have wy : IntKind.i64.wrap (y + 1) = y + 1 := wrap64 _ (by omega)
      have g0 : f j xb.toNat ≠ 0 → ¬ y < it := fun h => by have := (hi h).2; omega
      have e1 : ¬ f j xa.toNat = 2 → Value.int .i64 (y + 1) = Value.int .i64 (((j + 1 : Nat) : Int) - 1 - lastF (fun t => f t xa.toNat) (j + 1)) := fun h => by
        rw [if_neg h] at nx
        rw [nx, show (((j + 1 : Nat) : Int) - 1 - lastF (fun t => f t xa.toNat) j) = y + 1 by omega]
      have e2 : f j xa.toNat = 2 → Value.int .i64 0 = Value.int .i64 (((j + 1 : Nat) : Int) - 1 - lastF (fun t => f t xa.toNat) (j + 1)) := fun h => by
        rw [if_pos h] at nx
        rw [nx, show (((j + 1 : Nat) : Int) - 1 - (j : Int)) = 0 by omega]
      clear hy la nx
      by_cases zb : f j xb.toNat = 0
      · rw [zb, let0] at qb
        by_cases za : f j xa.toNat = 2
        · rw [za, let2] at qa
          have E : Hid _ := e2 za
          clear e1 e2 hi g0 fa fb zb za
          go_wp2
          go_roundw
          case rel => exact ⟨j + 1, by omega, E.out, by go_num, trivial⟩
          case measure => simp [intOf]; omega
        · have E : Hid _ := e1 za
          have na : ¬ (s[xa.toNat]'(by omega)).toNat = 103 := fun h => za (let_2 fa (qa.symm.trans h))
          have da : ¬ ((s[xa.toNat]'(by omega)).toNat : Int) = 103 := by omega
          have Da : (((s[xa.toNat]'(by omega)).toNat : Int) == 103) = false := by simpa using da
          clear e1 e2 hi g0 fa fb zb za qa
          go_wp2
          go_roundw
          case rel => exact ⟨j + 1, by omega, E.out, by go_num, trivial⟩
          case measure => simp [intOf]; omega
      · have za := (hi zb).1
        have gz := g0 zb
        have E : Hid _ := e1 (by rw [za]; decide)
        rw [za, let0] at qa
        have nb : ¬ (s[xb.toNat]'(by omega)).toNat = 114 := fun h => zb (let_0 fb (qb.symm.trans h))
        have db : ¬ ((s[xb.toNat]'(by omega)).toNat : Int) = 114 := by omega
        have Db : (((s[xb.toNat]'(by omega)).toNat : Int) == 114) = false := by simpa using db
        clear e1 e2 hi g0 fa fb zb za qb
        go_wp2
        go_roundw
        case rel => exact ⟨j + 1, by omega, E.out, by go_num, trivial⟩
        case measure => simp [intOf]; omega
    · have t1 : ¬ (j : Int) < (m : Int) := by omega
      go_wp2
      go_ret
      exact ⟨rfl, Below.refl _ _⟩

/-- What ends answers: the stretch that begins at i ends ahead of k. -/
def EndsP (F : Nat → Int) (m i : Nat) (e : Ending) : Prop := ∃ (k : Nat) (b : Bool), e = .returned (.tuple #[.int .i64 ((k : Int) - (i : Int)), .bool b]) ∧ i < k ∧ k ≤ m ∧ (∀ t, i ≤ t → t < k → F t = F i) ∧ (b = true → k < m ∧ F k ≠ F i) ∧ (b = false → k = m)
set_option maxRecDepth 100000 in
set_option maxHeartbeats 4000000 in
theorem ends_any (v : Value) (n m i k : Nat) (f : Nat → Nat → Int) (w : World) (hF : Film w v n m f) (hn : n ≤ 64) (hm : m ≤ 17592186044001) (hi : i < m) (hk : k < n) (h4 : ∀ j k, j < m → k < n → f j k = 0 ∨ f j k = 1 ∨ f j k = 2 ∨ f j k = 3) :
    Calls Try.prog 66 #[v, .int .i64 (i : Int), .int .i64 (k : Int)] w fun e w' => EndsP (fun j => f j k) m i e ∧ Below w.heap.size w w' := by
  obtain ⟨q, cp, rfl, hq, PF⟩ := hF
  obtain ⟨si, pi0, zi, hsi⟩ := PF i hi
  have ki : k < si.size := by omega
  have kI : (k : Int) < (si.size : Int) := by omega
  have qi := hsi k ki
  have i0 : (0 : Int) ≤ (i : Int) := by omega
  have i1 : (i : Int) < (m : Int) := by omega
  have k0 : (0 : Int) ≤ (k : Int) := by omega
  clear hsi zi
  go_enter Try.func66, Try.ntmps66
  go_wp2_with fail
  go_loopw [8] (fun t wr => ∃ j : Nat, i ≤ j ∧ j ≤ m ∧ t = .int .i64 (j : Int) ∧ Hid (∀ t, i ≤ t → t < j → f t k = f i k) ∧ Hid (Below w.heap.size w wr)) (fun t _ => m - (intOf t).toNat)
  case atStart => exact ⟨i, Nat.le_refl _, by omega, rfl, fun t h1 h2 => absurd h2 (by omega), Below.refl _ _⟩
  case round =>
    obtain ⟨j, hij, hjm, rfl, hA', hb'⟩ := hrel
    have hb := hb'.out
    clear hb'
    by_cases jlt : j < m
    · obtain ⟨sj, pj0, zj, hsj⟩ := PF j jlt
      have kj : k < sj.size := by omega
      have kJ : (k : Int) < (sj.size : Int) := by omega
      have qj := hsj k kj
      have pj := (hb.drew.cell (p := ⟨q, j, none⟩) hq).trans pj0
      have pi := (hb.drew.cell (p := ⟨q, i, none⟩) hq).trans pi0
      have j0 : (0 : Int) ≤ (j : Int) := by omega
      have j1 : (j : Int) < (m : Int) := by omega
      have dj := h4 j k jlt hk
      have di := h4 i k hi hk
      clear hsj zj PF pi0 pj0 h4
      by_cases z : f j k = f i k
      · have nA : Hid (∀ t, i ≤ t → t < j + 1 → f t k = f i k) := fun t h1 h2 => by
          by_cases e : t = j
          · subst e; exact z
          · exact hA'.out t h1 (by omega)
        rw [z] at qj
        generalize (letN (f i k)).toNat = y at *
        clear hA' z dj di
        go_upto_region 2 with fail
        refine wp_region_noPanic ?_
        refine wp_region_held_drew (S := fun w' => w'.cell? ⟨q, j, none⟩ = some (.string sj) ∧ w'.cell? ⟨q, i, none⟩ = some (.string si)) (by kernel_rfl) ?_ (fun hHeld => ?_)
        · (try dsimp only)
          exact ⟨pj, pi⟩
        refine wpAnyH_take (i := 0) (oi := { dst := some 10, op := Op.move (Operand.tmp 8), type := 3, pos := "safe.go:27", after := #[], guard := none }) (v := ?_) rfl (by kernel_rfl) (by kernel_rfl) (by kernel_rfl) (fun _ _ _ h => h) (Or.inl ⟨by rfl, ?_⟩) (by assumption) ?_
        rotate_left
        · intro wz hSz; (try dsimp only at hSz); go_simp; all_goals (with_reducible rfl)
        (try simp only [Act.put, List.setIfInBounds_toArray, List.set_cons_zero, List.set_cons_succ])
        refine wpAnyH_take (i := 1) (oi := { dst := some 11, op := Op.move (Operand.tmp 0), type := 41, pos := "safe.go:27", after := #[], guard := none }) (v := ?_) rfl (by kernel_rfl) (by kernel_rfl) (by kernel_rfl) (fun _ _ _ h => h) (Or.inl ⟨by rfl, ?_⟩) (by assumption) ?_
        rotate_left
        · intro wz hSz; (try dsimp only at hSz); go_simp; all_goals (with_reducible rfl)
        (try simp only [Act.put, List.setIfInBounds_toArray, List.set_cons_zero, List.set_cons_succ])
        refine wpAnyH_take (i := 2) (oi := { dst := some 12, op := Op.call { callee := Callee.builtin Builtin.len, args := #[Operand.tmp 11], argTypes := #[41] }, type := 3, pos := "safe.go:27", after := #[{ on := 1, ground := Ground.data }], guard := none }) (v := ?_) rfl (by kernel_rfl) (by kernel_rfl) (by kernel_rfl) (fun _ _ _ h => h) (Or.inl ⟨by rfl, ?_⟩) (by assumption) ?_
        rotate_left
        · intro wz hSz; (try dsimp only at hSz); go_simp; all_goals (with_reducible rfl)
        (try simp only [Act.put, List.setIfInBounds_toArray, List.set_cons_zero, List.set_cons_succ])
        refine wpAnyH_take (i := 3) (oi := { dst := some 13, op := Op.binOp BinOp.lss 3 (Operand.tmp 10) (Operand.tmp 12) 3, type := 4, pos := "safe.go:27", after := #[{ on := 0, ground := Ground.data }, { on := 2, ground := Ground.data }], guard := none }) (v := ?_) rfl (by kernel_rfl) (by kernel_rfl) (by kernel_rfl) (fun _ _ _ h => h) (Or.inl ⟨by rfl, ?_⟩) (by assumption) ?_
        rotate_left
        · intro wz hSz; (try dsimp only at hSz); go_simp; all_goals (with_reducible rfl)
        (try simp only [Act.put, List.setIfInBounds_toArray, List.set_cons_zero, List.set_cons_succ])
        refine wpAnyH_take (i := 4) (oi := { dst := some 14, op := Op.move (Operand.tmp 13), type := 4, pos := "safe.go:27", after := #[{ on := 3, ground := Ground.data }], guard := none }) (v := ?_) rfl (by kernel_rfl) (by kernel_rfl) (by kernel_rfl) (fun _ _ _ h => h) (Or.inl ⟨by rfl, ?_⟩) (by assumption) ?_
        rotate_left
        · intro wz hSz; (try dsimp only at hSz); go_simp; all_goals (with_reducible rfl)
        (try simp only [Act.put, List.setIfInBounds_toArray, List.set_cons_zero, List.set_cons_succ])
        refine wpAnyH_take (i := 5) (oi := { dst := some 15, op := Op.move (Operand.tmp 0), type := 41, pos := "safe.go:27", after := #[{ on := 4, ground := Ground.guard }], guard := some (4, true) }) (v := ?_) rfl (by kernel_rfl) (by kernel_rfl) (by kernel_rfl) (fun _ _ _ h => h) (Or.inl ⟨by rfl, ?_⟩) (by assumption) ?_
        rotate_left
        · intro wz hSz; (try dsimp only at hSz); go_simp; all_goals (with_reducible rfl)
        (try simp only [Act.put, List.setIfInBounds_toArray, List.set_cons_zero, List.set_cons_succ])
        refine wpAnyH_take (i := 6) (oi := { dst := some 16, op := Op.move (Operand.tmp 8), type := 3, pos := "safe.go:27", after := #[{ on := 4, ground := Ground.guard }], guard := some (4, true) }) (v := ?_) rfl (by kernel_rfl) (by kernel_rfl) (by kernel_rfl) (fun _ _ _ h => h) (Or.inl ⟨by rfl, ?_⟩) (by assumption) ?_
        rotate_left
        · intro wz hSz; (try dsimp only at hSz); go_simp; all_goals (with_reducible rfl)
        (try simp only [Act.put, List.setIfInBounds_toArray, List.set_cons_zero, List.set_cons_succ])
        refine wpAnyH_take (i := 7) (oi := { dst := some 17, op := Op.indexAddr 41 (Operand.tmp 15) (Operand.tmp 16), type := 0, pos := "safe.go:27", after := #[{ on := 5, ground := Ground.data }, { on := 6, ground := Ground.data }, { on := 4, ground := Ground.guard }], guard := some (4, true) }) (v := ?_) rfl (by kernel_rfl) (by kernel_rfl) (by kernel_rfl) (fun _ _ _ h => h) (Or.inl ⟨by rfl, ?_⟩) (by assumption) ?_
        rotate_left
        · intro wz hSz; (try dsimp only at hSz); go_simp; all_goals (with_reducible rfl)
        (try simp only [Act.put, List.setIfInBounds_toArray, List.set_cons_zero, List.set_cons_succ])
        refine wpAnyH_take (i := 8) (oi := { dst := some 18, op := Op.load 9 (Operand.tmp 17), type := 9, pos := "safe.go:27", after := #[{ on := 7, ground := Ground.data }, { on := 4, ground := Ground.guard }], guard := some (4, true) }) (v := ?_) rfl (by kernel_rfl) (by kernel_rfl) (by kernel_rfl) (fun _ _ _ h => h) (Or.inl ⟨by rfl, ?_⟩) (by assumption) ?_
        rotate_left
        · intro wz hSz; (try dsimp only at hSz); go_simp; all_goals (with_reducible rfl)
        (try simp only [Act.put, List.setIfInBounds_toArray, List.set_cons_zero, List.set_cons_succ])
        refine wpAnyH_take (i := 9) (oi := { dst := some 19, op := Op.move (Operand.tmp 2), type := 3, pos := "safe.go:27", after := #[{ on := 4, ground := Ground.guard }], guard := some (4, true) }) (v := ?_) rfl (by kernel_rfl) (by kernel_rfl) (by kernel_rfl) (fun _ _ _ h => h) (Or.inl ⟨by rfl, ?_⟩) (by assumption) ?_
        rotate_left
        · intro wz hSz; (try dsimp only at hSz); go_simp; all_goals (with_reducible rfl)
        (try simp only [Act.put, List.setIfInBounds_toArray, List.set_cons_zero, List.set_cons_succ])
        refine wpAnyH_take (i := 10) (oi := { dst := some 20, op := Op.index 9 (Operand.tmp 18) (Operand.tmp 19), type := 5, pos := "safe.go:27", after := #[{ on := 8, ground := Ground.data }, { on := 9, ground := Ground.data }, { on := 4, ground := Ground.guard }], guard := some (4, true) }) (v := ?_) rfl (by kernel_rfl) (by kernel_rfl) (by kernel_rfl) (fun _ _ _ h => h) (Or.inl ⟨by rfl, ?_⟩) (by assumption) ?_
        rotate_left
        · intro wz hSz; (try dsimp only at hSz); go_simp; all_goals (with_reducible rfl)
        (try simp only [Act.put, List.setIfInBounds_toArray, List.set_cons_zero, List.set_cons_succ])
        refine wpAnyH_take (i := 11) (oi := { dst := some 21, op := Op.move (Operand.tmp 0), type := 41, pos := "safe.go:27", after := #[{ on := 4, ground := Ground.guard }], guard := some (4, true) }) (v := ?_) rfl (by kernel_rfl) (by kernel_rfl) (by kernel_rfl) (fun _ _ _ h => h) (Or.inl ⟨by rfl, ?_⟩) (by assumption) ?_
        rotate_left
        · intro wz hSz; (try dsimp only at hSz); go_simp; all_goals (with_reducible rfl)
        (try simp only [Act.put, List.setIfInBounds_toArray, List.set_cons_zero, List.set_cons_succ])
        refine wpAnyH_take (i := 12) (oi := { dst := some 22, op := Op.move (Operand.tmp 1), type := 3, pos := "safe.go:27", after := #[{ on := 4, ground := Ground.guard }], guard := some (4, true) }) (v := ?_) rfl (by kernel_rfl) (by kernel_rfl) (by kernel_rfl) (fun _ _ _ h => h) (Or.inl ⟨by rfl, ?_⟩) (by assumption) ?_
        rotate_left
        · intro wz hSz; (try dsimp only at hSz); go_simp; all_goals (with_reducible rfl)
        (try simp only [Act.put, List.setIfInBounds_toArray, List.set_cons_zero, List.set_cons_succ])
        refine wpAnyH_take (i := 13) (oi := { dst := some 23, op := Op.indexAddr 41 (Operand.tmp 21) (Operand.tmp 22), type := 0, pos := "safe.go:27", after := #[{ on := 11, ground := Ground.data }, { on := 12, ground := Ground.data }, { on := 4, ground := Ground.guard }], guard := some (4, true) }) (v := ?_) rfl (by kernel_rfl) (by kernel_rfl) (by kernel_rfl) (fun _ _ _ h => h) (Or.inl ⟨by rfl, ?_⟩) (by assumption) ?_
        rotate_left
        · intro wz hSz; (try dsimp only at hSz); go_simp; all_goals (with_reducible rfl)
        (try simp only [Act.put, List.setIfInBounds_toArray, List.set_cons_zero, List.set_cons_succ])
        refine wpAnyH_take (i := 14) (oi := { dst := some 24, op := Op.load 9 (Operand.tmp 23), type := 9, pos := "safe.go:27", after := #[{ on := 13, ground := Ground.data }, { on := 4, ground := Ground.guard }], guard := some (4, true) }) (v := ?_) rfl (by kernel_rfl) (by kernel_rfl) (by kernel_rfl) (fun _ _ _ h => h) (Or.inl ⟨by rfl, ?_⟩) (by assumption) ?_
        rotate_left
        · intro wz hSz; (try dsimp only at hSz); go_simp; all_goals (with_reducible rfl)
        (try simp only [Act.put, List.setIfInBounds_toArray, List.set_cons_zero, List.set_cons_succ])
        refine wpAnyH_take (i := 15) (oi := { dst := some 25, op := Op.move (Operand.tmp 2), type := 3, pos := "safe.go:27", after := #[{ on := 4, ground := Ground.guard }], guard := some (4, true) }) (v := ?_) rfl (by kernel_rfl) (by kernel_rfl) (by kernel_rfl) (fun _ _ _ h => h) (Or.inl ⟨by rfl, ?_⟩) (by assumption) ?_
        rotate_left
        · intro wz hSz; (try dsimp only at hSz); go_simp; all_goals (with_reducible rfl)
        (try simp only [Act.put, List.setIfInBounds_toArray, List.set_cons_zero, List.set_cons_succ])
        refine wpAnyH_take (i := 16) (oi := { dst := some 26, op := Op.index 9 (Operand.tmp 24) (Operand.tmp 25), type := 5, pos := "safe.go:27", after := #[{ on := 14, ground := Ground.data }, { on := 15, ground := Ground.data }, { on := 4, ground := Ground.guard }], guard := some (4, true) }) (v := ?_) rfl (by kernel_rfl) (by kernel_rfl) (by kernel_rfl) (fun _ _ _ h => h) (Or.inl ⟨by rfl, ?_⟩) (by assumption) ?_
        rotate_left
        · intro wz hSz; (try dsimp only at hSz); go_simp; all_goals (with_reducible rfl)
        (try simp only [Act.put, List.setIfInBounds_toArray, List.set_cons_zero, List.set_cons_succ])
        refine wpAnyH_take (i := 17) (oi := { dst := some 27, op := Op.binOp BinOp.eql 5 (Operand.tmp 20) (Operand.tmp 26) 5, type := 4, pos := "safe.go:27", after := #[{ on := 10, ground := Ground.data }, { on := 16, ground := Ground.data }, { on := 4, ground := Ground.guard }], guard := some (4, true) }) (v := ?_) rfl (by kernel_rfl) (by kernel_rfl) (by kernel_rfl) (fun _ _ _ h => h) (Or.inl ⟨by rfl, ?_⟩) (by assumption) ?_
        rotate_left
        · intro wz hSz; (try dsimp only at hSz); go_simp; all_goals (with_reducible rfl)
        (try simp only [Act.put, List.setIfInBounds_toArray, List.set_cons_zero, List.set_cons_succ])
        refine wpAnyH_take (i := 18) (oi := { dst := some 28, op := Op.pick (Operand.tmp 14) (Operand.tmp 27) (Operand.const (Value.bool false)), type := 4, pos := "safe.go:27", after := #[{ on := 4, ground := Ground.data }, { on := 17, ground := Ground.data }], guard := none }) (v := ?_) rfl (by kernel_rfl) (by kernel_rfl) (by kernel_rfl) (fun _ _ _ h => h) (Or.inl ⟨by rfl, ?_⟩) (by assumption) ?_
        rotate_left
        · intro wz hSz; (try dsimp only at hSz); go_simp; all_goals (with_reducible rfl)
        (try simp only [Act.put, List.setIfInBounds_toArray, List.set_cons_zero, List.set_cons_succ])
        refine wpAnyH_done (by kernel_rfl) ?_ _
        refine NoPanic.normal ?_
        go_wp2_with fail
        go_roundw
        case rel => exact ⟨j + 1, by omega, by omega, by go_num, nA, hb.drew⟩
        case measure => simp [intOf]; omega
      · have ne : ¬ (letN (f j k)).toNat = (letN (f i k)).toNat := fun h => z (let_inj dj di h)
        generalize (letN (f j k)).toNat = x at *
        generalize (letN (f i k)).toNat = y at *
        have nI : ¬ (x : Int) = (y : Int) := by omega
        have nD : ((x : Int) == (y : Int)) = false := beq_eq_false_iff_ne.2 nI
        have wj : IntKind.i64.wrap ((j : Int) - (i : Int)) = (j : Int) - (i : Int) := wrap64 _ (by omega)
        have hij' : i < j := by
          rcases Nat.lt_or_ge i j with h | h
          · exact h
          · have : i = j := by omega
            subst this; exact absurd rfl z
        have A := hA'.out
        clear hA' dj di
        go_upto_region 2 with fail
        refine wp_region_noPanic ?_
        refine wp_region_held_drew (S := fun w' => w'.cell? ⟨q, j, none⟩ = some (.string sj) ∧ w'.cell? ⟨q, i, none⟩ = some (.string si)) (by kernel_rfl) ?_ (fun hHeld => ?_)
        · (try dsimp only)
          exact ⟨pj, pi⟩
        refine wpAnyH_take (i := 0) (oi := { dst := some 10, op := Op.move (Operand.tmp 8), type := 3, pos := "safe.go:27", after := #[], guard := none }) (v := ?_) rfl (by kernel_rfl) (by kernel_rfl) (by kernel_rfl) (fun _ _ _ h => h) (Or.inl ⟨by rfl, ?_⟩) (by assumption) ?_
        rotate_left
        · intro wz hSz; (try dsimp only at hSz); go_simp; all_goals (with_reducible rfl)
        (try simp only [Act.put, List.setIfInBounds_toArray, List.set_cons_zero, List.set_cons_succ])
        refine wpAnyH_take (i := 1) (oi := { dst := some 11, op := Op.move (Operand.tmp 0), type := 41, pos := "safe.go:27", after := #[], guard := none }) (v := ?_) rfl (by kernel_rfl) (by kernel_rfl) (by kernel_rfl) (fun _ _ _ h => h) (Or.inl ⟨by rfl, ?_⟩) (by assumption) ?_
        rotate_left
        · intro wz hSz; (try dsimp only at hSz); go_simp; all_goals (with_reducible rfl)
        (try simp only [Act.put, List.setIfInBounds_toArray, List.set_cons_zero, List.set_cons_succ])
        refine wpAnyH_take (i := 2) (oi := { dst := some 12, op := Op.call { callee := Callee.builtin Builtin.len, args := #[Operand.tmp 11], argTypes := #[41] }, type := 3, pos := "safe.go:27", after := #[{ on := 1, ground := Ground.data }], guard := none }) (v := ?_) rfl (by kernel_rfl) (by kernel_rfl) (by kernel_rfl) (fun _ _ _ h => h) (Or.inl ⟨by rfl, ?_⟩) (by assumption) ?_
        rotate_left
        · intro wz hSz; (try dsimp only at hSz); go_simp; all_goals (with_reducible rfl)
        (try simp only [Act.put, List.setIfInBounds_toArray, List.set_cons_zero, List.set_cons_succ])
        refine wpAnyH_take (i := 3) (oi := { dst := some 13, op := Op.binOp BinOp.lss 3 (Operand.tmp 10) (Operand.tmp 12) 3, type := 4, pos := "safe.go:27", after := #[{ on := 0, ground := Ground.data }, { on := 2, ground := Ground.data }], guard := none }) (v := ?_) rfl (by kernel_rfl) (by kernel_rfl) (by kernel_rfl) (fun _ _ _ h => h) (Or.inl ⟨by rfl, ?_⟩) (by assumption) ?_
        rotate_left
        · intro wz hSz; (try dsimp only at hSz); go_simp; all_goals (with_reducible rfl)
        (try simp only [Act.put, List.setIfInBounds_toArray, List.set_cons_zero, List.set_cons_succ])
        refine wpAnyH_take (i := 4) (oi := { dst := some 14, op := Op.move (Operand.tmp 13), type := 4, pos := "safe.go:27", after := #[{ on := 3, ground := Ground.data }], guard := none }) (v := ?_) rfl (by kernel_rfl) (by kernel_rfl) (by kernel_rfl) (fun _ _ _ h => h) (Or.inl ⟨by rfl, ?_⟩) (by assumption) ?_
        rotate_left
        · intro wz hSz; (try dsimp only at hSz); go_simp; all_goals (with_reducible rfl)
        (try simp only [Act.put, List.setIfInBounds_toArray, List.set_cons_zero, List.set_cons_succ])
        refine wpAnyH_take (i := 5) (oi := { dst := some 15, op := Op.move (Operand.tmp 0), type := 41, pos := "safe.go:27", after := #[{ on := 4, ground := Ground.guard }], guard := some (4, true) }) (v := ?_) rfl (by kernel_rfl) (by kernel_rfl) (by kernel_rfl) (fun _ _ _ h => h) (Or.inl ⟨by rfl, ?_⟩) (by assumption) ?_
        rotate_left
        · intro wz hSz; (try dsimp only at hSz); go_simp; all_goals (with_reducible rfl)
        (try simp only [Act.put, List.setIfInBounds_toArray, List.set_cons_zero, List.set_cons_succ])
        refine wpAnyH_take (i := 6) (oi := { dst := some 16, op := Op.move (Operand.tmp 8), type := 3, pos := "safe.go:27", after := #[{ on := 4, ground := Ground.guard }], guard := some (4, true) }) (v := ?_) rfl (by kernel_rfl) (by kernel_rfl) (by kernel_rfl) (fun _ _ _ h => h) (Or.inl ⟨by rfl, ?_⟩) (by assumption) ?_
        rotate_left
        · intro wz hSz; (try dsimp only at hSz); go_simp; all_goals (with_reducible rfl)
        (try simp only [Act.put, List.setIfInBounds_toArray, List.set_cons_zero, List.set_cons_succ])
        refine wpAnyH_take (i := 7) (oi := { dst := some 17, op := Op.indexAddr 41 (Operand.tmp 15) (Operand.tmp 16), type := 0, pos := "safe.go:27", after := #[{ on := 5, ground := Ground.data }, { on := 6, ground := Ground.data }, { on := 4, ground := Ground.guard }], guard := some (4, true) }) (v := ?_) rfl (by kernel_rfl) (by kernel_rfl) (by kernel_rfl) (fun _ _ _ h => h) (Or.inl ⟨by rfl, ?_⟩) (by assumption) ?_
        rotate_left
        · intro wz hSz; (try dsimp only at hSz); go_simp; all_goals (with_reducible rfl)
        (try simp only [Act.put, List.setIfInBounds_toArray, List.set_cons_zero, List.set_cons_succ])
        refine wpAnyH_take (i := 8) (oi := { dst := some 18, op := Op.load 9 (Operand.tmp 17), type := 9, pos := "safe.go:27", after := #[{ on := 7, ground := Ground.data }, { on := 4, ground := Ground.guard }], guard := some (4, true) }) (v := ?_) rfl (by kernel_rfl) (by kernel_rfl) (by kernel_rfl) (fun _ _ _ h => h) (Or.inl ⟨by rfl, ?_⟩) (by assumption) ?_
        rotate_left
        · intro wz hSz; (try dsimp only at hSz); go_simp; all_goals (with_reducible rfl)
        (try simp only [Act.put, List.setIfInBounds_toArray, List.set_cons_zero, List.set_cons_succ])
        refine wpAnyH_take (i := 9) (oi := { dst := some 19, op := Op.move (Operand.tmp 2), type := 3, pos := "safe.go:27", after := #[{ on := 4, ground := Ground.guard }], guard := some (4, true) }) (v := ?_) rfl (by kernel_rfl) (by kernel_rfl) (by kernel_rfl) (fun _ _ _ h => h) (Or.inl ⟨by rfl, ?_⟩) (by assumption) ?_
        rotate_left
        · intro wz hSz; (try dsimp only at hSz); go_simp; all_goals (with_reducible rfl)
        (try simp only [Act.put, List.setIfInBounds_toArray, List.set_cons_zero, List.set_cons_succ])
        refine wpAnyH_take (i := 10) (oi := { dst := some 20, op := Op.index 9 (Operand.tmp 18) (Operand.tmp 19), type := 5, pos := "safe.go:27", after := #[{ on := 8, ground := Ground.data }, { on := 9, ground := Ground.data }, { on := 4, ground := Ground.guard }], guard := some (4, true) }) (v := ?_) rfl (by kernel_rfl) (by kernel_rfl) (by kernel_rfl) (fun _ _ _ h => h) (Or.inl ⟨by rfl, ?_⟩) (by assumption) ?_
        rotate_left
        · intro wz hSz; (try dsimp only at hSz); go_simp; all_goals (with_reducible rfl)
        (try simp only [Act.put, List.setIfInBounds_toArray, List.set_cons_zero, List.set_cons_succ])
        refine wpAnyH_take (i := 11) (oi := { dst := some 21, op := Op.move (Operand.tmp 0), type := 41, pos := "safe.go:27", after := #[{ on := 4, ground := Ground.guard }], guard := some (4, true) }) (v := ?_) rfl (by kernel_rfl) (by kernel_rfl) (by kernel_rfl) (fun _ _ _ h => h) (Or.inl ⟨by rfl, ?_⟩) (by assumption) ?_
        rotate_left
        · intro wz hSz; (try dsimp only at hSz); go_simp; all_goals (with_reducible rfl)
        (try simp only [Act.put, List.setIfInBounds_toArray, List.set_cons_zero, List.set_cons_succ])
        refine wpAnyH_take (i := 12) (oi := { dst := some 22, op := Op.move (Operand.tmp 1), type := 3, pos := "safe.go:27", after := #[{ on := 4, ground := Ground.guard }], guard := some (4, true) }) (v := ?_) rfl (by kernel_rfl) (by kernel_rfl) (by kernel_rfl) (fun _ _ _ h => h) (Or.inl ⟨by rfl, ?_⟩) (by assumption) ?_
        rotate_left
        · intro wz hSz; (try dsimp only at hSz); go_simp; all_goals (with_reducible rfl)
        (try simp only [Act.put, List.setIfInBounds_toArray, List.set_cons_zero, List.set_cons_succ])
        refine wpAnyH_take (i := 13) (oi := { dst := some 23, op := Op.indexAddr 41 (Operand.tmp 21) (Operand.tmp 22), type := 0, pos := "safe.go:27", after := #[{ on := 11, ground := Ground.data }, { on := 12, ground := Ground.data }, { on := 4, ground := Ground.guard }], guard := some (4, true) }) (v := ?_) rfl (by kernel_rfl) (by kernel_rfl) (by kernel_rfl) (fun _ _ _ h => h) (Or.inl ⟨by rfl, ?_⟩) (by assumption) ?_
        rotate_left
        · intro wz hSz; (try dsimp only at hSz); go_simp; all_goals (with_reducible rfl)
        (try simp only [Act.put, List.setIfInBounds_toArray, List.set_cons_zero, List.set_cons_succ])
        refine wpAnyH_take (i := 14) (oi := { dst := some 24, op := Op.load 9 (Operand.tmp 23), type := 9, pos := "safe.go:27", after := #[{ on := 13, ground := Ground.data }, { on := 4, ground := Ground.guard }], guard := some (4, true) }) (v := ?_) rfl (by kernel_rfl) (by kernel_rfl) (by kernel_rfl) (fun _ _ _ h => h) (Or.inl ⟨by rfl, ?_⟩) (by assumption) ?_
        rotate_left
        · intro wz hSz; (try dsimp only at hSz); go_simp; all_goals (with_reducible rfl)
        (try simp only [Act.put, List.setIfInBounds_toArray, List.set_cons_zero, List.set_cons_succ])
        refine wpAnyH_take (i := 15) (oi := { dst := some 25, op := Op.move (Operand.tmp 2), type := 3, pos := "safe.go:27", after := #[{ on := 4, ground := Ground.guard }], guard := some (4, true) }) (v := ?_) rfl (by kernel_rfl) (by kernel_rfl) (by kernel_rfl) (fun _ _ _ h => h) (Or.inl ⟨by rfl, ?_⟩) (by assumption) ?_
        rotate_left
        · intro wz hSz; (try dsimp only at hSz); go_simp; all_goals (with_reducible rfl)
        (try simp only [Act.put, List.setIfInBounds_toArray, List.set_cons_zero, List.set_cons_succ])
        refine wpAnyH_take (i := 16) (oi := { dst := some 26, op := Op.index 9 (Operand.tmp 24) (Operand.tmp 25), type := 5, pos := "safe.go:27", after := #[{ on := 14, ground := Ground.data }, { on := 15, ground := Ground.data }, { on := 4, ground := Ground.guard }], guard := some (4, true) }) (v := ?_) rfl (by kernel_rfl) (by kernel_rfl) (by kernel_rfl) (fun _ _ _ h => h) (Or.inl ⟨by rfl, ?_⟩) (by assumption) ?_
        rotate_left
        · intro wz hSz; (try dsimp only at hSz); go_simp; all_goals (with_reducible rfl)
        (try simp only [Act.put, List.setIfInBounds_toArray, List.set_cons_zero, List.set_cons_succ])
        refine wpAnyH_take (i := 17) (oi := { dst := some 27, op := Op.binOp BinOp.eql 5 (Operand.tmp 20) (Operand.tmp 26) 5, type := 4, pos := "safe.go:27", after := #[{ on := 10, ground := Ground.data }, { on := 16, ground := Ground.data }, { on := 4, ground := Ground.guard }], guard := some (4, true) }) (v := ?_) rfl (by kernel_rfl) (by kernel_rfl) (by kernel_rfl) (fun _ _ _ h => h) (Or.inl ⟨by rfl, ?_⟩) (by assumption) ?_
        rotate_left
        · intro wz hSz; (try dsimp only at hSz); go_simp; all_goals (with_reducible rfl)
        (try simp only [Act.put, List.setIfInBounds_toArray, List.set_cons_zero, List.set_cons_succ])
        refine wpAnyH_take (i := 18) (oi := { dst := some 28, op := Op.pick (Operand.tmp 14) (Operand.tmp 27) (Operand.const (Value.bool false)), type := 4, pos := "safe.go:27", after := #[{ on := 4, ground := Ground.data }, { on := 17, ground := Ground.data }], guard := none }) (v := ?_) rfl (by kernel_rfl) (by kernel_rfl) (by kernel_rfl) (fun _ _ _ h => h) (Or.inl ⟨by rfl, ?_⟩) (by assumption) ?_
        rotate_left
        · intro wz hSz; (try dsimp only at hSz); go_simp; all_goals (with_reducible rfl)
        (try simp only [Act.put, List.setIfInBounds_toArray, List.set_cons_zero, List.set_cons_succ])
        refine wpAnyH_done (by kernel_rfl) ?_ _
        refine NoPanic.normal ?_
        go_wp2_with fail
        exact bodyPost_ret (v := .tuple #[.int .i64 ((j : Int) - (i : Int)), .bool true]) (by simp [results, Try.results66, go_sem]) rfl ⟨⟨j, true, rfl, hij', by omega, A, fun _ => ⟨jlt, z⟩, fun h => nomatch h⟩, hb.drew⟩
    · have j1 : ¬ (j : Int) < (m : Int) := by omega
      obtain rfl : j = m := by omega
      have wj : IntKind.i64.wrap ((j : Int) - (i : Int)) = (j : Int) - (i : Int) := wrap64 _ (by omega)
      have A := hA'.out
      clear hA' PF h4
      go_upto_region 2 with fail
      refine wp_region_noPanic ?_
      refine wp_region_held_drew (S := fun w' => True) (by kernel_rfl) ?_ (fun hHeld => ?_)
      · (try dsimp only)
        all_goals trivial
      refine wpAnyH_take (i := 0) (oi := { dst := some 10, op := Op.move (Operand.tmp 8), type := 3, pos := "safe.go:27", after := #[], guard := none }) (v := ?_) rfl (by kernel_rfl) (by kernel_rfl) (by kernel_rfl) (fun _ _ _ h => h) (Or.inl ⟨by rfl, ?_⟩) (by assumption) ?_
      rotate_left
      · intro wz hSz; (try dsimp only at hSz); go_simp; all_goals (with_reducible rfl)
      (try simp only [Act.put, List.setIfInBounds_toArray, List.set_cons_zero, List.set_cons_succ])
      refine wpAnyH_take (i := 1) (oi := { dst := some 11, op := Op.move (Operand.tmp 0), type := 41, pos := "safe.go:27", after := #[], guard := none }) (v := ?_) rfl (by kernel_rfl) (by kernel_rfl) (by kernel_rfl) (fun _ _ _ h => h) (Or.inl ⟨by rfl, ?_⟩) (by assumption) ?_
      rotate_left
      · intro wz hSz; (try dsimp only at hSz); go_simp; all_goals (with_reducible rfl)
      (try simp only [Act.put, List.setIfInBounds_toArray, List.set_cons_zero, List.set_cons_succ])
      refine wpAnyH_take (i := 2) (oi := { dst := some 12, op := Op.call { callee := Callee.builtin Builtin.len, args := #[Operand.tmp 11], argTypes := #[41] }, type := 3, pos := "safe.go:27", after := #[{ on := 1, ground := Ground.data }], guard := none }) (v := ?_) rfl (by kernel_rfl) (by kernel_rfl) (by kernel_rfl) (fun _ _ _ h => h) (Or.inl ⟨by rfl, ?_⟩) (by assumption) ?_
      rotate_left
      · intro wz hSz; (try dsimp only at hSz); go_simp; all_goals (with_reducible rfl)
      (try simp only [Act.put, List.setIfInBounds_toArray, List.set_cons_zero, List.set_cons_succ])
      refine wpAnyH_take (i := 3) (oi := { dst := some 13, op := Op.binOp BinOp.lss 3 (Operand.tmp 10) (Operand.tmp 12) 3, type := 4, pos := "safe.go:27", after := #[{ on := 0, ground := Ground.data }, { on := 2, ground := Ground.data }], guard := none }) (v := ?_) rfl (by kernel_rfl) (by kernel_rfl) (by kernel_rfl) (fun _ _ _ h => h) (Or.inl ⟨by rfl, ?_⟩) (by assumption) ?_
      rotate_left
      · intro wz hSz; (try dsimp only at hSz); go_simp; all_goals (with_reducible rfl)
      (try simp only [Act.put, List.setIfInBounds_toArray, List.set_cons_zero, List.set_cons_succ])
      refine wpAnyH_take (i := 4) (oi := { dst := some 14, op := Op.move (Operand.tmp 13), type := 4, pos := "safe.go:27", after := #[{ on := 3, ground := Ground.data }], guard := none }) (v := ?_) rfl (by kernel_rfl) (by kernel_rfl) (by kernel_rfl) (fun _ _ _ h => h) (Or.inl ⟨by rfl, ?_⟩) (by assumption) ?_
      rotate_left
      · intro wz hSz; (try dsimp only at hSz); go_simp; all_goals (with_reducible rfl)
      (try simp only [Act.put, List.setIfInBounds_toArray, List.set_cons_zero, List.set_cons_succ])
      refine wpAnyH_take (i := 5) (oi := { dst := some 15, op := Op.move (Operand.tmp 0), type := 41, pos := "safe.go:27", after := #[{ on := 4, ground := Ground.guard }], guard := some (4, true) }) (v := undef) rfl (by kernel_rfl) (by kernel_rfl) (by kernel_rfl) (fun _ _ _ h => h) (Or.inr ⟨by rfl, rfl⟩) (by assumption) ?_
      (try simp only [Act.put, List.setIfInBounds_toArray, List.set_cons_zero, List.set_cons_succ])
      refine wpAnyH_take (i := 6) (oi := { dst := some 16, op := Op.move (Operand.tmp 8), type := 3, pos := "safe.go:27", after := #[{ on := 4, ground := Ground.guard }], guard := some (4, true) }) (v := undef) rfl (by kernel_rfl) (by kernel_rfl) (by kernel_rfl) (fun _ _ _ h => h) (Or.inr ⟨by rfl, rfl⟩) (by assumption) ?_
      (try simp only [Act.put, List.setIfInBounds_toArray, List.set_cons_zero, List.set_cons_succ])
      refine wpAnyH_take (i := 7) (oi := { dst := some 17, op := Op.indexAddr 41 (Operand.tmp 15) (Operand.tmp 16), type := 0, pos := "safe.go:27", after := #[{ on := 5, ground := Ground.data }, { on := 6, ground := Ground.data }, { on := 4, ground := Ground.guard }], guard := some (4, true) }) (v := undef) rfl (by kernel_rfl) (by kernel_rfl) (by kernel_rfl) (fun _ _ _ h => h) (Or.inr ⟨by rfl, rfl⟩) (by assumption) ?_
      (try simp only [Act.put, List.setIfInBounds_toArray, List.set_cons_zero, List.set_cons_succ])
      refine wpAnyH_take (i := 8) (oi := { dst := some 18, op := Op.load 9 (Operand.tmp 17), type := 9, pos := "safe.go:27", after := #[{ on := 7, ground := Ground.data }, { on := 4, ground := Ground.guard }], guard := some (4, true) }) (v := undef) rfl (by kernel_rfl) (by kernel_rfl) (by kernel_rfl) (fun _ _ _ h => h) (Or.inr ⟨by rfl, rfl⟩) (by assumption) ?_
      (try simp only [Act.put, List.setIfInBounds_toArray, List.set_cons_zero, List.set_cons_succ])
      refine wpAnyH_take (i := 9) (oi := { dst := some 19, op := Op.move (Operand.tmp 2), type := 3, pos := "safe.go:27", after := #[{ on := 4, ground := Ground.guard }], guard := some (4, true) }) (v := undef) rfl (by kernel_rfl) (by kernel_rfl) (by kernel_rfl) (fun _ _ _ h => h) (Or.inr ⟨by rfl, rfl⟩) (by assumption) ?_
      (try simp only [Act.put, List.setIfInBounds_toArray, List.set_cons_zero, List.set_cons_succ])
      refine wpAnyH_take (i := 10) (oi := { dst := some 20, op := Op.index 9 (Operand.tmp 18) (Operand.tmp 19), type := 5, pos := "safe.go:27", after := #[{ on := 8, ground := Ground.data }, { on := 9, ground := Ground.data }, { on := 4, ground := Ground.guard }], guard := some (4, true) }) (v := undef) rfl (by kernel_rfl) (by kernel_rfl) (by kernel_rfl) (fun _ _ _ h => h) (Or.inr ⟨by rfl, rfl⟩) (by assumption) ?_
      (try simp only [Act.put, List.setIfInBounds_toArray, List.set_cons_zero, List.set_cons_succ])
      refine wpAnyH_take (i := 11) (oi := { dst := some 21, op := Op.move (Operand.tmp 0), type := 41, pos := "safe.go:27", after := #[{ on := 4, ground := Ground.guard }], guard := some (4, true) }) (v := undef) rfl (by kernel_rfl) (by kernel_rfl) (by kernel_rfl) (fun _ _ _ h => h) (Or.inr ⟨by rfl, rfl⟩) (by assumption) ?_
      (try simp only [Act.put, List.setIfInBounds_toArray, List.set_cons_zero, List.set_cons_succ])
      refine wpAnyH_take (i := 12) (oi := { dst := some 22, op := Op.move (Operand.tmp 1), type := 3, pos := "safe.go:27", after := #[{ on := 4, ground := Ground.guard }], guard := some (4, true) }) (v := undef) rfl (by kernel_rfl) (by kernel_rfl) (by kernel_rfl) (fun _ _ _ h => h) (Or.inr ⟨by rfl, rfl⟩) (by assumption) ?_
      (try simp only [Act.put, List.setIfInBounds_toArray, List.set_cons_zero, List.set_cons_succ])
      refine wpAnyH_take (i := 13) (oi := { dst := some 23, op := Op.indexAddr 41 (Operand.tmp 21) (Operand.tmp 22), type := 0, pos := "safe.go:27", after := #[{ on := 11, ground := Ground.data }, { on := 12, ground := Ground.data }, { on := 4, ground := Ground.guard }], guard := some (4, true) }) (v := undef) rfl (by kernel_rfl) (by kernel_rfl) (by kernel_rfl) (fun _ _ _ h => h) (Or.inr ⟨by rfl, rfl⟩) (by assumption) ?_
      (try simp only [Act.put, List.setIfInBounds_toArray, List.set_cons_zero, List.set_cons_succ])
      refine wpAnyH_take (i := 14) (oi := { dst := some 24, op := Op.load 9 (Operand.tmp 23), type := 9, pos := "safe.go:27", after := #[{ on := 13, ground := Ground.data }, { on := 4, ground := Ground.guard }], guard := some (4, true) }) (v := undef) rfl (by kernel_rfl) (by kernel_rfl) (by kernel_rfl) (fun _ _ _ h => h) (Or.inr ⟨by rfl, rfl⟩) (by assumption) ?_
      (try simp only [Act.put, List.setIfInBounds_toArray, List.set_cons_zero, List.set_cons_succ])
      refine wpAnyH_take (i := 15) (oi := { dst := some 25, op := Op.move (Operand.tmp 2), type := 3, pos := "safe.go:27", after := #[{ on := 4, ground := Ground.guard }], guard := some (4, true) }) (v := undef) rfl (by kernel_rfl) (by kernel_rfl) (by kernel_rfl) (fun _ _ _ h => h) (Or.inr ⟨by rfl, rfl⟩) (by assumption) ?_
      (try simp only [Act.put, List.setIfInBounds_toArray, List.set_cons_zero, List.set_cons_succ])
      refine wpAnyH_take (i := 16) (oi := { dst := some 26, op := Op.index 9 (Operand.tmp 24) (Operand.tmp 25), type := 5, pos := "safe.go:27", after := #[{ on := 14, ground := Ground.data }, { on := 15, ground := Ground.data }, { on := 4, ground := Ground.guard }], guard := some (4, true) }) (v := undef) rfl (by kernel_rfl) (by kernel_rfl) (by kernel_rfl) (fun _ _ _ h => h) (Or.inr ⟨by rfl, rfl⟩) (by assumption) ?_
      (try simp only [Act.put, List.setIfInBounds_toArray, List.set_cons_zero, List.set_cons_succ])
      refine wpAnyH_take (i := 17) (oi := { dst := some 27, op := Op.binOp BinOp.eql 5 (Operand.tmp 20) (Operand.tmp 26) 5, type := 4, pos := "safe.go:27", after := #[{ on := 10, ground := Ground.data }, { on := 16, ground := Ground.data }, { on := 4, ground := Ground.guard }], guard := some (4, true) }) (v := undef) rfl (by kernel_rfl) (by kernel_rfl) (by kernel_rfl) (fun _ _ _ h => h) (Or.inr ⟨by rfl, rfl⟩) (by assumption) ?_
      (try simp only [Act.put, List.setIfInBounds_toArray, List.set_cons_zero, List.set_cons_succ])
      refine wpAnyH_take (i := 18) (oi := { dst := some 28, op := Op.pick (Operand.tmp 14) (Operand.tmp 27) (Operand.const (Value.bool false)), type := 4, pos := "safe.go:27", after := #[{ on := 4, ground := Ground.data }, { on := 17, ground := Ground.data }], guard := none }) (v := ?_) rfl (by kernel_rfl) (by kernel_rfl) (by kernel_rfl) (fun _ _ _ h => h) (Or.inl ⟨by rfl, ?_⟩) (by assumption) ?_
      rotate_left
      · intro wz hSz; (try dsimp only at hSz); go_simp; all_goals (with_reducible rfl)
      (try simp only [Act.put, List.setIfInBounds_toArray, List.set_cons_zero, List.set_cons_succ])
      refine wpAnyH_done (by kernel_rfl) ?_ _
      refine NoPanic.normal ?_
      go_wp2_with fail
      exact bodyPost_ret (v := .tuple #[.int .i64 ((j : Int) - (i : Int)), .bool false]) (by simp [results, Try.results66, go_sem]) rfl ⟨⟨j, false, rfl, hi, Nat.le_refl _, A, (fun h => nomatch h), fun _ => rfl⟩, hb.drew⟩
end Go.Proofs.Ytbonmajnkbggcab
namespace Go.Proofs.Ytbonmajnkbggcab
open Go.RowKit
set_option linter.unusedVariables false


/-- May a stretch of this letter follow that one? fr: the letter ahead of it, 0 if there is none -/
def Tr (g : Gp) (a fr : Int) : Prop :=
  (a = 0 ∧ (fr = 0 ∨ (fr = 97 ∧ 0 < g.amber) ∨ (fr = 103 ∧ g.amber = 0))) ∨ (a = 1 ∧ fr = 114 ∧ 0 < g.lead) ∨ (a = 3 ∧ fr = 103 ∧ 0 < g.amber) ∨ (a = 2 ∧ ((fr = 108 ∧ 0 < g.lead) ∨ (fr = 114 ∧ g.lead = 0)))
theorem Ln.tr0 {g : Gp} {f c : Nat → Int} (L : Ln g f c) : Tr g (f 0) 0 := .inl ⟨L.f0, .inl rfl⟩
theorem Ln.tr {g : Gp} {f c : Nat → Int} (L : Ln g f c) (t : Nat) (h : f (t + 1) ≠ f t) : Tr g (f (t + 1)) (letN (f t)) := by
  rcases L.four t with e | e | e | e
  · have := (L.red t e).resolve_left (by rw [← e]; exact h)
    unfold firstF at this
    rw [e]
    have l0 := L.l0
    by_cases d : 0 < g.lead
    · rw [if_pos d] at this; exact .inr (.inl ⟨this, rfl, d⟩)
    · rw [if_neg d] at this; exact .inr (.inr (.inr ⟨this, .inr ⟨rfl, by omega⟩⟩))
  · have := L.led t e
    have u := L.up1 t e
    have p := L.pos t
    rw [e]
    by_cases d : c t < g.lead
    · rw [if_pos d] at this; exact absurd (this.trans e.symm) h
    · rw [if_neg d] at this; exact .inr (.inr (.inr ⟨this, .inl ⟨rfl, by omega⟩⟩))
  · have := ((L.grn t e).resolve_left (by rw [← e]; exact h)).2
    have a0 := L.a0
    rw [e]
    by_cases d : 0 < g.amber
    · rw [if_pos d] at this; exact .inr (.inr (.inl ⟨this, rfl, d⟩))
    · rw [if_neg d] at this; exact .inl ⟨this, .inr (.inr ⟨rfl, by omega⟩)⟩
  · have := L.amb t e
    have u := L.up3 t e
    have p := L.pos t
    rw [e]
    by_cases d : c t < g.amber
    · rw [if_pos d] at this; exact absurd (this.trans e.symm) h
    · rw [if_neg d] at this; exact .inl ⟨this, .inr (.inl ⟨rfl, by omega⟩)⟩
/-- How long a stretch is. -/
theorem Ln.span {g : Gp} {f c : Nat → Int} (L : Ln g f c) {i k m : Nat} {fr : Int} (T : Tr g (f i) fr) (hc : c i = 1) (hik : i < k) (hA : ∀ t, i ≤ t → t < k → f t = f i) (hk : k < m → f k ≠ f i) :
    (f i = 1 → (k : Int) - i = g.lead ∨ (¬ k < m ∧ (k : Int) - i < g.lead)) ∧ (f i = 3 → (k : Int) - i = g.amber ∨ (¬ k < m ∧ (k : Int) - i < g.amber)) ∧ (f i = 2 → k < m → g.min ≤ (k : Int) - i) := by
  have S : Str f c (f i) i k := ⟨by omega, fun _ => hc, hA⟩
  refine ⟨fun e => ?_, fun e => ?_, fun e h => ?_⟩
  · rw [e] at S
    have q := L.led_end S
    by_cases h : k < m
    · have hf : f i = firstF g := by
        rcases T with ⟨z, _⟩ | ⟨_, _, z⟩ | ⟨z, _⟩ | ⟨z, _⟩
        · omega
        · unfold firstF; rw [if_pos z]; exact e
        · omega
        · omega
      exact .inl (L.of_led S hf hc (by have := hk h; rw [e] at this; exact this)).2.2
    · by_cases d : (k : Int) - i = g.lead
      · exact .inl d
      · exact .inr ⟨h, by omega⟩
  · rw [e] at S
    have q := L.amb_end S
    by_cases h : k < m
    · have hf : f i = if 0 < g.amber then 3 else 0 := by
        rcases T with ⟨z, _⟩ | ⟨z, _⟩ | ⟨_, _, z⟩ | ⟨z, _⟩
        · omega
        · omega
        · rw [if_pos z]; exact e
        · omega
      exact .inl (L.of_amb S hf hc (by have := hk h; rw [e] at this; exact this)).2.2
    · by_cases d : (k : Int) - i = g.amber
      · exact .inl d
      · exact .inr ⟨h, by omega⟩
  · rw [e] at S
    exact (L.of_grn S e (by have := hk h; rw [e] at this; exact this)).2.2.2
set_option maxRecDepth 100000 in
set_option maxHeartbeats 4000000 in
theorem stretch_any (g : Gp) (v : Value) (n m i k : Nat) (f : Nat → Nat → Int) (c : Nat → Int) (fr : Int) (w : World) (hF : Film w v n m f) (hn : n ≤ 64) (hm : m ≤ 17592186044001) (hi : i < m) (hk : k < n) (h4 : ∀ j k, j < m → k < n → f j k = 0 ∨ f j k = 1 ∨ f j k = 2 ∨ f j k = 3)
    (L : Ln g (fun j => f j k) c) (hc : c i = 1) (T : Tr g (f i k) fr) :
    Calls Try.prog 65 #[.agg #[.string g.name, .int .i64 g.sort, .int .i64 g.min, .int .i64 g.amber, .int .i64 g.lead], v, .int .i64 (i : Int), .int .i64 (k : Int), .int .u8 fr] w fun e w' => e = .returned (.bool true) ∧ Below w.heap.size w w' := by
  have cE := fun (X : World) (hX : Below w.heap.size w X) => ends_any v n m i k f X (hF.below hX) hn hm hi hk h4
  obtain ⟨q, cp, rfl, hq, PF⟩ := hF
  obtain ⟨si, pi0, zi, hsi⟩ := PF i hi
  have ki : k < si.size := by omega
  have kI : (k : Int) < (si.size : Int) := by omega
  have qi := hsi k ki
  have i0 : (0 : Int) ≤ (i : Int) := by omega
  have i1 : (i : Int) < (m : Int) := by omega
  have k0 : (0 : Int) ≤ (k : Int) := by omega
  clear hsi zi PF h4
  have B0 : Has (w.alloc (.cells #[.string g.name, .int .i64 g.sort, .int .i64 g.min, .int .i64 g.amber, .int .i64 g.lead] 58)) w.heap.size #[.string g.name, .int .i64 g.sort, .int .i64 g.min, .int .i64 g.amber, .int .i64 g.lead] := Has.new _ _ _ rfl
  have hb0 : Below w.heap.size w (w.alloc (.cells #[.string g.name, .int .i64 g.sort, .int .i64 g.min, .int .i64 g.amber, .int .i64 g.lead] 58)) := belN1
  go_enter Try.func65, Try.ntmps65
  go_upto_region 2 with (go_at_call 66; (with_reducible refine Calls.mono (cE _ (by exact hb0)) ?_); rintro e w2 ⟨⟨k', b, rfl, l1, l2, A, ht, hf⟩, hy2⟩; have hb2 := bel_after hb0 hb0.size hy2; have B2 := B0.below hy2; clear hy2)
  obtain ⟨sp1, sp3, sp2⟩ := L.span (m := m) T hc l1 A (fun h => by
    cases b with
    | true => exact (ht rfl).2
    | false => have := hf rfl; omega)
  (try dsimp only at sp1 sp3 sp2)
  have hbm : b = true ↔ k' < m := by
    cases b with
    | true => exact ⟨fun _ => (ht rfl).1, fun _ => rfl⟩
    | false => exact ⟨(fun h => nomatch h), fun h => by have := hf rfl; omega⟩
  have pi := (hb2.cell (p := ⟨q, i, none⟩) hq).trans pi0
  obtain ⟨_, b2, _⟩ := id B2
  clear A ht hf L cE B0 hb0 pi0
  generalize hy : (k' : Int) - (i : Int) = y at *
  generalize g.name = x0 at *
  generalize g.sort = x1 at *
  generalize eMin : g.min = x2 at *
  generalize eAmb : g.amber = x3 at *
  generalize eLed : g.lead = x4 at *
  rcases T with ⟨ei, T⟩ | ⟨ei, rfl, T⟩ | ⟨ei, rfl, T⟩ | ⟨ei, T⟩
  · rw [ei, let0] at qi
    clear sp1 sp2 sp3 ei hbm
    rcases T with rfl | ⟨rfl, T⟩ | ⟨rfl, T⟩
    · rw [eAmb, eLed] at *
      go_wp2
      go_ret
      exact ⟨by first | rfl | (simp; done) | (simp; omega), hb2⟩
    · rw [eAmb] at T
      have T' : x3 > 0 := T
      go_wp2
      go_ret
      exact ⟨by first | rfl | (simp; done) | (simp; omega), hb2⟩
    · rw [eAmb] at T
      subst T
      go_wp2
      go_ret
      exact ⟨by first | rfl | (simp; done) | (simp; omega), hb2⟩
  · rw [eLed] at T
    have T' : x4 > 0 := T
    have s := sp1 ei
    rw [ei, let1] at qi
    clear sp1 sp2 sp3 ei
    rcases s with rfl | ⟨d, s⟩
    · clear hbm
      go_wp2
      go_ret
      exact ⟨by first | rfl | (simp; done) | (simp; omega), hb2⟩
    · have eb : b = false := by
        cases b with
        | true => exact absurd (hbm.1 rfl) d
        | false => rfl
      subst eb
      have s' : ¬ y = x4 := by omega
      have s2 : (y == x4) = false := beq_eq_false_iff_ne.2 s'
      clear hbm d
      go_wp2
      go_ret
      exact ⟨by first | rfl | (simp; done) | (simp; omega), hb2⟩
  · rw [eAmb] at T
    have T' : x3 > 0 := T
    have s := sp3 ei
    rw [ei, let3] at qi
    clear sp1 sp2 sp3 ei
    rcases s with rfl | ⟨d, s⟩
    · clear hbm
      go_wp2
      go_ret
      exact ⟨by first | rfl | (simp; done) | (simp; omega), hb2⟩
    · have eb : b = false := by
        cases b with
        | true => exact absurd (hbm.1 rfl) d
        | false => rfl
      subst eb
      have s' : ¬ y = x3 := by omega
      have s2 : (y == x3) = false := beq_eq_false_iff_ne.2 s'
      clear hbm d
      go_wp2
      go_ret
      exact ⟨by first | rfl | (simp; done) | (simp; omega), hb2⟩
  · have s := sp2 ei
    rw [ei, let2] at qi
    clear sp1 sp2 sp3 ei
    cases b with
    | false =>
      clear hbm s
      rcases T with ⟨rfl, T⟩ | ⟨rfl, T⟩
      · rw [eLed] at T
        have T' : x4 > 0 := T
        go_wp2
        go_ret
        exact ⟨by first | rfl | (simp; done) | (simp; omega), hb2⟩
      · rw [eLed] at T
        subst T
        go_wp2
        go_ret
        exact ⟨by first | rfl | (simp; done) | (simp; omega), hb2⟩
    | true =>
      have s' : ¬ y < x2 := by have := s (hbm.1 rfl); omega
      clear hbm s
      rcases T with ⟨rfl, T⟩ | ⟨rfl, T⟩
      · rw [eLed] at T
        have T' : x4 > 0 := T
        go_wp2
        go_ret
        exact ⟨by first | rfl | (simp; done) | (simp; omega), hb2⟩
      · rw [eLed] at T
        subst T
        go_wp2
        go_ret
        exact ⟨by first | rfl | (simp; done) | (simp; omega), hb2⟩
set_option maxRecDepth 100000 in
set_option maxHeartbeats 4000000 in
theorem group_any (g : Gp) (v : Value) (n m k : Nat) (f : Nat → Nat → Int) (c : Nat → Int) (w : World) (hF : Film w v n m f) (hn : n ≤ 64) (hm : m ≤ 17592186044001) (hk : k < n) (h4 : ∀ j k, j < m → k < n → f j k = 0 ∨ f j k = 1 ∨ f j k = 2 ∨ f j k = 3)
    (L : Ln g (fun j => f j k) c) :
    Calls Try.prog 54 #[.agg #[.string g.name, .int .i64 g.sort, .int .i64 g.min, .int .i64 g.amber, .int .i64 g.lead], v, .int .i64 (k : Int)] w fun e w' => e = .returned (.bool true) ∧ Below w.heap.size w w' := by
  have cE := fun (i : Nat) (hi : i < m) (X : World) (hX : Below w.heap.size w X) => ends_any v n m i k f X (hF.below hX) hn hm hi hk h4
  have cS := fun (i : Nat) (hi : i < m) (fr : Int) (hc : c i = 1) (T : Tr g (f i k) fr) (X : World) (hX : Below w.heap.size w X) => stretch_any g v n m i k f c fr X (hF.below hX) hn hm hi hk h4 L hc T
  obtain ⟨q, cp, rfl, hq, PF⟩ := hF
  have k0 : (0 : Int) ≤ (k : Int) := by omega
  clear h4
  have B0 : Has (w.alloc (.cells #[.string g.name, .int .i64 g.sort, .int .i64 g.min, .int .i64 g.amber, .int .i64 g.lead] 58)) w.heap.size #[.string g.name, .int .i64 g.sort, .int .i64 g.min, .int .i64 g.amber, .int .i64 g.lead] := Has.new _ _ _ rfl
  have hb0 : Below w.heap.size w (w.alloc (.cells #[.string g.name, .int .i64 g.sort, .int .i64 g.min, .int .i64 g.amber, .int .i64 g.lead] 58)) := belN1
  go_enter Try.func54, Try.ntmps54
  go_wp2_with fail
  generalize (w.alloc (.cells #[.string g.name, .int .i64 g.sort, .int .i64 g.min, .int .i64 g.amber, .int .i64 g.lead] 58)) = W0 at *
  go_loopw [7, 8] (fun t u wr => ∃ (i : Nat) (fr : Int), i ≤ m ∧ t = .int .i64 (i : Int) ∧ u = .int .u8 fr ∧ Hid (i < m → c i = 1 ∧ Tr g (f i k) fr) ∧ Hid (Has wr w.heap.size #[.string g.name, .int .i64 g.sort, .int .i64 g.min, .int .i64 g.amber, .int .i64 g.lead]) ∧ Hid (Below w.heap.size w wr)) (fun t _ _ => m - (intOf t).toNat)
  case atStart => exact ⟨0, 0, by omega, rfl, rfl, fun _ => ⟨L.c0, L.tr0⟩, B0, hb0⟩
  case round =>
    clear B0 hb0
    obtain ⟨i, fr, him, rfl, rfl, hT', B', hb'⟩ := hrel
    have hT := hT'.out
    have B := B'.out
    have hb := hb'.out
    clear hT' B' hb'
    obtain ⟨_, b1, _⟩ := id B
    by_cases ilt : i < m
    · obtain ⟨hc, T⟩ := hT ilt
      obtain ⟨si, pi0, zi, hsi⟩ := PF i ilt
      have ki : k < si.size := by omega
      have kI : (k : Int) < (si.size : Int) := by omega
      have qi := hsi k ki
      have i0 : (0 : Int) ≤ (i : Int) := by omega
      have i1 : (i : Int) < (m : Int) := by omega
      have c1 := cS i ilt fr hc T
      have c2 := cE i ilt
      have Ti := letN_rng (f i k)
      have qI : ((letN (f i k)).toNat : Int) = letN (f i k) := Int.toNat_of_nonneg Ti.1
      clear cS cE hsi zi hT PF
      go_upto_region 8 with (first
        | (go_at_call 65; (with_reducible refine Calls.mono (c1 _ hb) ?_); rintro e w2 ⟨rfl, hy2⟩; have hb2 := bel_after hb hb.size hy2; have B2 := B.below hy2; clear hy2)
        | (go_at_call 66; (with_reducible refine Calls.mono (c2 _ hb2) ?_); rintro e w3 ⟨⟨k', bb, rfl, l1, l2, A, ht, hf⟩, hy3⟩; have hb3 := bel_after hb2 hb2.size hy3; have B3 := B2.below hy3; clear hy3))
      have pi := (hb3.cell (p := ⟨q, i, none⟩) hq).trans pi0
      have wk : IntKind.i64.wrap ((i : Int) + ((k' : Int) - (i : Int))) = (k' : Int) := by rw [show (i : Int) + ((k' : Int) - (i : Int)) = (k' : Int) by omega]; exact wrap64 _ (by omega)
      have nT : Hid (k' < m → c k' = 1 ∧ Tr g (f k' k) (letN (f i k))) := fun h => by
        have hne : f k' k ≠ f i k := by
          cases bb with
          | true => exact (ht rfl).2
          | false => have := hf rfl; omega
        have S : Str (fun j => f j k) c (f i k) i k' := ⟨by omega, fun _ => hc, A⟩
        refine ⟨L.new S l1 hne, ?_⟩
        obtain ⟨t, rfl⟩ : ∃ t, k' = t + 1 := ⟨k' - 1, by omega⟩
        have e : f t k = f i k := A t (by omega) (by omega)
        have := L.tr t (by (try dsimp only); rw [e]; exact hne)
        (try dsimp only at this)
        rw [e] at this
        exact this
      clear A ht hf T hc pi0 c1 c2 b1
      have wx : (i : Int) + ((k' : Int) - (i : Int)) = (k' : Int) := by omega
      generalize (letN (f i k)).toNat = z at *
      go_wp2_with fail
      go_roundw
      case rel => exact ⟨k', _, l2, rfl, rfl, nT, B3, hb3⟩
      case measure => simp [intOf]; omega
    · have i1 : ¬ (i : Int) < (m : Int) := by omega
      clear hT PF cS cE
      go_wp2_with fail
      go_ret
      exact ⟨rfl, hb⟩
end Go.Proofs.Ytbonmajnkbggcab
namespace Go.Proofs.Ytbonmajnkbggcab
open Go.RowKit
set_option linter.unusedVariables false

set_option maxRecDepth 100000 in
set_option maxHeartbeats 4000000 in
theorem safe_any (G : List Gp) (C : List Cf) (vg vc v : Value) (m : Nat) (f c : Nat → Nat → Int) (w : World) (h1 : Fl 5 Gp.cs w vg G) (h2 : Fl 4 Cf.cs w vc C) (lG : G.length ≤ 64) (lC : C.length ≤ 4398046511000) (hF : Film w v G.length m f) (hm0 : 0 < m) (hm : m ≤ 17592186044001) (S : SafeF G C m f c) :
    Calls Try.prog 35 #[.agg #[vg, vc], v] w fun e w' => e = .returned (.bool true) ∧ Below w.heap.size w w' := by
  have k53 := fun (X : World) (hX : Below w.heap.size w X) => formed_any v G.length m f X (hF.below hX) lG hm S.four
  have k54 := fun (k : Nat) (hk : k < G.length) (X : World) (hX : Below w.heap.size w X) => group_any G[k] v G.length m k f (c k) X (hF.below hX) lG hm hk S.four (S.lin k hk)
  have k55 := fun (d : Cf) (hd : d ∈ C) (X : World) (hX : Below w.heap.size w X) => toward_any v G.length m f d.a d.b d.ab X (hF.below hX) lG hm S.four (S.rng d hd).1 (by have := S.rng d hd; omega) (by have := S.rng d hd; omega) (S.rng d hd).2.2 (fun j hj h => ⟨(S.clr j hj d hd).resolve_right h, (S.itr j hj d hd).1 h⟩)
  have k56 := fun (d : Cf) (hd : d ∈ C) (X : World) (hX : Below w.heap.size w X) => toward_any v G.length m f d.b d.a d.ba X (hF.below hX) lG hm S.four (by have := S.rng d hd; omega) (S.rng d hd).2.2 (S.rng d hd).1 (by have := S.rng d hd; omega) (fun j hj h => ⟨(S.clr j hj d hd).resolve_left h, (S.itr j hj d hd).2 h⟩)
  obtain ⟨va, cg, rfl, hkG⟩ := h1.any
  obtain ⟨vb, cc, rfl, hkC⟩ := h2.any
  obtain ⟨q, cp, rfl, hq, PF⟩ := hF
  obtain ⟨s, ps0, sz', hs⟩ := PF 0 hm0
  have sz : Hid (s.size = G.length) := sz'
  have si : (s.size : Int) = (G.length : Int) := by omega
  have m1 : ¬ (m : Int) = 0 := by omega
  have m2 : ((m : Int) == 0) = false := beq_eq_false_iff_ne.2 m1
  have w2 : (0 : Int) < (m : Int) := by omega
  have hr : ∀ k, (h : k < G.length) → ∃ h' : k < s.size, (s[k]'h').toNat = 114 := fun k h => ⟨by omega, by rw [hs k (by omega), S.red k h, let0]⟩
  clear h1 h2 sz' PF S hs
  have B0 : Has (w.alloc (.cells #[.slice va G.length cg, .slice vb C.length cc] 25)) w.heap.size #[.slice va G.length cg, .slice vb C.length cc] := Has.new _ _ _ rfl
  have hb0 : Below w.heap.size w (w.alloc (.cells #[.slice va G.length cg, .slice vb C.length cc] 25)) := belN1
  go_enter Try.func35, Try.ntmps35
  go_upto_region 2 with (go_at_call 53; (with_reducible refine Calls.mono (k53 _ (by exact hb0)) ?_); rintro e y1 ⟨rfl, hy1⟩; have hb1 := bel_after hb0 hb0.size hy1; have B1 := B0.below hy1; clear hy1)
  clear B0 hb0 k53
  go_wp2_with fail
  go_loopw [6] (fun t wr => ∃ k : Nat, k ≤ G.length ∧ t = .int .i64 (k : Int) ∧ Hid (Has wr w.heap.size #[.slice va G.length cg, .slice vb C.length cc]) ∧ Hid (Below w.heap.size w wr)) (fun t _ => G.length - (intOf t).toNat)
  case atStart => exact ⟨0, by omega, rfl, B1, hb1⟩
  case round =>
    clear B1 hb1
    obtain ⟨k, hkl, rfl, B', hb'⟩ := hrel
    have B := B'.out
    have hb := hb'.out
    clear B' hb'
    obtain ⟨_, b1, _⟩ := id B
    by_cases hlt : k < G.length
    · obtain ⟨g, o, rfl, hg, P⟩ := hkG.resolve_left (by intro e; rw [e] at hlt; simp at hlt)
      have p0 := (hb.cell (p := ⟨g, _, none⟩) hg).trans (P k hlt 0 _ rfl)
      have p1 := (hb.cell (p := ⟨g, _, none⟩) hg).trans (P k hlt 1 _ rfl)
      have p2 := (hb.cell (p := ⟨g, _, none⟩) hg).trans (P k hlt 2 _ rfl)
      have p3 := (hb.cell (p := ⟨g, _, none⟩) hg).trans (P k hlt 3 _ rfl)
      have p4 := (hb.cell (p := ⟨g, _, none⟩) hg).trans (P k hlt 4 _ rfl)
      simp only [Nat.add_zero] at p0
      have cH := k54 k hlt wr hb
      have ps := (hb.cell (p := ⟨q, 0, none⟩) hq).trans ps0
      obtain ⟨hks, qk⟩ := hr k hlt
      generalize G[k].name = x0 at *
      generalize G[k].sort = x1 at *
      generalize G[k].min = x2 at *
      generalize G[k].amber = x3 at *
      generalize G[k].lead = x4 at *
      have t1 : (k : Int) < (G.length : Int) := by omega
      have t0 : (0 : Int) ≤ (k : Int) := by omega
      clear P hkG hkC k54 k55 k56 hr
      go_wp2_with (go_at_call 54; (with_reducible refine Calls.mono cH ?_); rintro e y2 ⟨rfl, hy2⟩; have BN := B.below hy2; have hbN := bel_after hb hb.size hy2; clear hy2)
      go_roundw
      case rel => exact ⟨k + 1, by omega, by go_num, BN, hbN⟩
      case measure => simp [intOf]; omega
    · have t1 : ¬ (k : Int) < (G.length : Int) := by omega
      go_wp2_with fail
      go_loopw [7] (fun t wr => ∃ i : Nat, i ≤ C.length ∧ t = .int .i64 (i : Int) ∧ Hid (Has wr w.heap.size #[.slice va G.length cg, .slice vb C.length cc]) ∧ Hid (Below w.heap.size w wr)) (fun t _ => C.length - (intOf t).toNat)
      case atStart => exact ⟨0, by omega, rfl, B, hb⟩
      case round =>
        clear B hb b1 t1 hkl hlt
        obtain ⟨i, him, rfl, B', hb'⟩ := hrel
        have B := B'.out
        have hb := hb'.out
        clear B' hb'
        obtain ⟨_, b1, _⟩ := id B
        by_cases ilt : i < C.length
        · obtain ⟨g, o, rfl, hg, P⟩ := hkC.resolve_left (by intro e; rw [e] at ilt; simp at ilt)
          have p0 := (hb.cell (p := ⟨g, _, none⟩) hg).trans (P i ilt 0 _ rfl)
          have p1 := (hb.cell (p := ⟨g, _, none⟩) hg).trans (P i ilt 1 _ rfl)
          have p2 := (hb.cell (p := ⟨g, _, none⟩) hg).trans (P i ilt 2 _ rfl)
          have p3 := (hb.cell (p := ⟨g, _, none⟩) hg).trans (P i ilt 3 _ rfl)
          simp only [Nat.add_zero] at p0
          have c1 := k55 C[i] (List.getElem_mem ilt)
          have c2 := k56 C[i] (List.getElem_mem ilt)
          generalize C[i].a = xa at *
          generalize C[i].b = xb at *
          generalize C[i].ab = xab at *
          generalize C[i].ba = xba at *
          have t1 : (i : Int) < (C.length : Int) := by omega
          have t0 : (0 : Int) ≤ (i : Int) := by omega
          clear P hkC hkG k54 k55 k56 hr
          have hbN := hb.alloc hb.size (.cells #[.int .i64 xa, .int .i64 xb, .int .i64 xab, .int .i64 xba] 61)
          have BN := B.alloc (.cells #[.int .i64 xa, .int .i64 xb, .int .i64 xab, .int .i64 xba] 61)
          have CN : Has (wr.alloc (.cells #[.int .i64 xa, .int .i64 xb, .int .i64 xab, .int .i64 xba] 61)) wr.heap.size #[.int .i64 xa, .int .i64 xb, .int .i64 xab, .int .i64 xba] := Has.new _ _ _ rfl
          go_upto_region 16 with fail
          generalize (wr.alloc (.cells #[.int .i64 xa, .int .i64 xb, .int .i64 xab, .int .i64 xba] 61)) = W1 at *
          generalize wr.heap.size = cb at *
          obtain ⟨_, n1, _⟩ := id CN
          go_upto_region 17 with (go_at_call 55; (with_reducible refine Calls.mono (c1 _ hbN) ?_); rintro e y2 ⟨rfl, hy2⟩; have B2 := BN.below hy2; have C2 := CN.below hy2; have hb2 := bel_after hbN hbN.size hy2; clear hy2)
          clear n1
          obtain ⟨_, n2, _⟩ := id C2
          go_wp2_with (go_at_call 55; (with_reducible refine Calls.mono (c2 _ hb2) ?_); rintro e y3 ⟨rfl, hy3⟩; have B3 := B2.below hy3; have hb3 := bel_after hb2 hb2.size hy3; clear hy3)
          go_roundw
          case rel => exact ⟨i + 1, by omega, by go_num, B3, hb3⟩
          case measure => simp [intOf]; omega
        · have t1 : ¬ (i : Int) < (C.length : Int) := by omega
          clear k54 k55 k56 hr
          go_wp2_with fail
          go_ret
          exact ⟨rfl, hb⟩
end Go.Proofs.Ytbonmajnkbggcab
namespace Go.Proofs.Ytbonmajnkbggcab
open Go.RowKit
set_option linter.unusedVariables false


theorem fl_gp1 {X : World} {b : Nat} {x : Gp} (h : Has X b (Gp.cs x).toArray) : Fl 5 Gp.cs X (.slice (some ⟨b, 0, none⟩) 1 1) [x] :=
  .inr ⟨⟨b, 0, none⟩, 1, rfl, Nat.le_refl _, .inr ⟨rfl, h.1, fun i hi j u hu => by
    obtain rfl : i = 0 := by simp at hi; omega
    have := h.2.1 j
    simp at hu
    simpa [hu] using this⟩⟩
theorem fl_u3 {X : World} {b : Nat} (h : Has X b #[.int .u64 1, .int .u64 1, .int .u64 1]) : Fl 1 u64 X (.slice (some ⟨b, 0, none⟩) 3 3) [1, 1, 1] :=
  .inr ⟨⟨b, 0, none⟩, 3, rfl, Nat.le_refl _, .inr ⟨rfl, h.1, fun i hi j u hu => by
    have hi' : i = 0 ∨ i = 1 ∨ i = 2 := by simp at hi; omega
    have hj : j = 0 := by
      rcases Nat.eq_zero_or_pos j with h | h
      · exact h
      · exfalso
        obtain ⟨j', rfl⟩ : ∃ j', j = j' + 1 := ⟨j - 1, by omega⟩
        rcases hi' with rfl | rfl | rfl <;> simp [u64] at hu
    subst hj
    have h0 := h.2.1 0
    have h1 := h.2.1 1
    have h2 := h.2.1 2
    rcases hi' with rfl | rfl | rfl <;> simp [u64] at hu <;> subst hu <;> simp at h0 h1 h2 ⊢ <;> assumption⟩⟩
set_option maxRecDepth 100000 in
set_option maxHeartbeats 4000000 in
theorem tops (G : List Gp) (C : List Cf) (Ms : List Nat) (vg vc vm : Value) (w : World) (h1 : Fl 5 Gp.cs w vg G) (h2 : Fl 4 Cf.cs w vc C) (h3 : Fl 1 u64 w vm Ms) (lG : G.length ≤ 2932031007317) (lC : C.length ≤ 4398046511000) (lM : Ms.length ≤ 17592186044000) (hM : ∀ x ∈ Ms, x < 18446744073709551616) :
    Calls Try.prog 8 #[.agg #[vg, vc], vm] w fun e w' => e = .returned (.bool true) ∧ Below w.heap.size w w' := by
  have kG := fun (X : World) (hX : Below w.heap.size w X) => refGrid_any G C vg vc X (h1.below hX) (h2.below hX) lG lC
  have kR := fun (hg : gridB G C = true) (X : World) (hX : Below w.heap.size w X) => run_ok G C Ms vg vc vm X (h1.below hX) (h2.below hX) (h3.below hX) lG lC lM hM hg
  have kS := fun (hg : gridB G C = true) (X : World) (hX : Below w.heap.size w X) (g c : Nat) (hF : Film X (.slice (some ⟨g, 0, none⟩) (Ms.length + 1) c) G.length (Ms.length + 1) (fun j k => (runF G C Ms j).a k)) => safe_any G C vg vc _ (Ms.length + 1) _ _ X (h1.below hX) (h2.below hX) (grid_len hg) lC hF (by omega) (by omega) (run_safeF hg Ms)
  have hp : picsF [(⟨⟨#[97]⟩, 1, 5, 3, 1⟩ : Gp)] [] [1, 1, 1] 3 = [.string ⟨#[114]⟩, .string ⟨#[108]⟩, .string ⟨#[103]⟩, .string ⟨#[103]⟩] := by kernel_rfl
  have k1 := fun (X : World) (u0 u1 u2 : Value) (f0 : Fl 5 Gp.cs X u0 [(⟨⟨#[97]⟩, 1, 5, 3, 1⟩ : Gp)]) (f1 : Fl 4 Cf.cs X u1 []) (f2 : Fl 1 u64 X u2 [1, 1, 1]) => run_ok [(⟨⟨#[97]⟩, 1, 5, 3, 1⟩ : Gp)] [] [1, 1, 1] u0 u1 u2 X f0 f1 f2 (by simp) (by simp) (by simp) (by intro x hx; simp at hx; omega) (by kernel_rfl)
  obtain ⟨va, cg, rfl, -⟩ := h1.any
  obtain ⟨vb, cc, rfl, -⟩ := h2.any
  obtain ⟨am, cm, rfl, -⟩ := h3.any
  have B0 : Has ((((w.alloc (.cells #[.slice va G.length cg, .slice vb C.length cc] 25)).alloc (.cells #[.string ⟨#[97]⟩, .int .i64 1, .int .i64 5, .int .i64 3, .int .i64 1] 58)).alloc (.cells #[.slice (some ⟨w.heap.size + 1, 0, none⟩) 1 1, .slice none 0 0] 25)).alloc (.cells #[.int .u64 1, .int .u64 1, .int .u64 1] 30)) w.heap.size #[.slice va G.length cg, .slice vb C.length cc] := (((Has.new _ _ _ rfl).alloc _).alloc _).alloc _
  have G0 : Has ((((w.alloc (.cells #[.slice va G.length cg, .slice vb C.length cc] 25)).alloc (.cells #[.string ⟨#[97]⟩, .int .i64 1, .int .i64 5, .int .i64 3, .int .i64 1] 58)).alloc (.cells #[.slice (some ⟨w.heap.size + 1, 0, none⟩) 1 1, .slice none 0 0] 25)).alloc (.cells #[.int .u64 1, .int .u64 1, .int .u64 1] 30)) (w.heap.size + 1) #[.string ⟨#[97]⟩, .int .i64 1, .int .i64 5, .int .i64 3, .int .i64 1] := ((Has.new _ _ _ (by simp)).alloc _).alloc _
  have U0 : Has ((((w.alloc (.cells #[.slice va G.length cg, .slice vb C.length cc] 25)).alloc (.cells #[.string ⟨#[97]⟩, .int .i64 1, .int .i64 5, .int .i64 3, .int .i64 1] 58)).alloc (.cells #[.slice (some ⟨w.heap.size + 1, 0, none⟩) 1 1, .slice none 0 0] 25)).alloc (.cells #[.int .u64 1, .int .u64 1, .int .u64 1] 30)) (w.heap.size + 3) #[.int .u64 1, .int .u64 1, .int .u64 1] := Has.new _ _ _ (by simp)
  have hb0 : Below w.heap.size w ((((w.alloc (.cells #[.slice va G.length cg, .slice vb C.length cc] 25)).alloc (.cells #[.string ⟨#[97]⟩, .int .i64 1, .int .i64 5, .int .i64 3, .int .i64 1] 58)).alloc (.cells #[.slice (some ⟨w.heap.size + 1, 0, none⟩) 1 1, .slice none 0 0] 25)).alloc (.cells #[.int .u64 1, .int .u64 1, .int .u64 1] 30)) := ((belN1.alloc belN1.size _).alloc (belN1.alloc belN1.size _).size _).alloc ((belN1.alloc belN1.size _).alloc (belN1.alloc belN1.size _).size _).size _
  have c21 := k1 ((((w.alloc (.cells #[.slice va G.length cg, .slice vb C.length cc] 25)).alloc (.cells #[.string ⟨#[97]⟩, .int .i64 1, .int .i64 5, .int .i64 3, .int .i64 1] 58)).alloc (.cells #[.slice (some ⟨w.heap.size + 1, 0, none⟩) 1 1, .slice none 0 0] 25)).alloc (.cells #[.int .u64 1, .int .u64 1, .int .u64 1] 30)) _ _ _ (fl_gp1 (x := (⟨⟨#[97]⟩, 1, 5, 3, 1⟩ : Gp)) G0) (.inl ⟨rfl, rfl⟩) (fl_u3 U0)
  rw [show [1, 1, 1].length = 3 from rfl, hp] at c21
  have wn : IntKind.i64.wrap ((Ms.length : Int) + 1) = (Ms.length : Int) + 1 := wrap64 _ (by omega)
  clear h1 h2 h3 G0 U0 k1 hp
  go_enter Try.func8, Try.ntmps8
  go_upto_region 3 with (go_at_call 21; (with_reducible refine Calls.mono c21 ?_); rintro e y1 ⟨⟨g, c, rfl, ow⟩, hy1⟩; have hb1 := bel_after hb0 hb0.size hy1; have B1 := B0.below hy1; clear hy1)
  have q0 := ow.cellAt 0 (by omega)
  have q1 := ow.cellAt 1 (by omega)
  have q2 := ow.cellAt 2 (by omega)
  have q3 := ow.cellAt 3 (by omega)
  simp at q0 q1 q2 q3
  clear c21 ow B0 hb0
  obtain ⟨_, b1, _⟩ := id B1
  go_upto_region 6 with (go_at_call 34; (with_reducible refine Calls.mono (kG _ hb1) ?_); rintro e y2 ⟨rfl, hy2⟩; have hb2 := bel_after hb1 hb1.size hy2; have B2 := B1.below hy2; clear hy2)
  clear b1 q0 q1 q2 q3 kG
  cases hg : gridB G C with
  | false =>
    clear kR kS
    go_wp2_with fail
    go_ret
    exact ⟨rfl, hb2⟩
  | true =>
    replace kR := kR hg
    replace kS := kS hg
    clear hg
    obtain ⟨_, b2, _⟩ := id B2
    go_wp2_with (first
      | (go_at_call 21; (with_reducible refine Calls.mono (kR _ hb2) ?_); rintro e y3 ⟨⟨g', c', rfl, ow⟩, hy3⟩; have hb3 := bel_after hb2 hb2.size hy3; have B3 := B2.below hy3; obtain ⟨_, b3, _⟩ := id B3; clear hy3)
      | (go_at_call 35; (with_reducible refine Calls.mono (kS _ hb3 g' c' (film_run ow)) ?_); rintro e y4 ⟨rfl, hy4⟩; have hb4 := bel_after hb3 hb3.size hy4; clear hy4))
    go_ret
    exact ⟨rfl, hb4⟩
end Go.Proofs.Ytbonmajnkbggcab
