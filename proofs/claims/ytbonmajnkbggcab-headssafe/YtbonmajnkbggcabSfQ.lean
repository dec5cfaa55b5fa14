import Derived.Test.YtbonmajnkbggcabSfM
import Derived.Test.YtbonmajnkbggcabRuC
import Derived.Deep.RegionHeld3
import Derived.Laws.MakeOwn
namespace Go.Proofs.Ytbonmajnkbggcab
open Go.RowKit
set_option linter.unusedVariables false

theorem letN_rng (a : Int) : 0 ≤ letN a ∧ letN a < 256 := by
  unfold letN
  repeat' split
  all_goals omega
theorem showS_size (A : List Int) : (showS A).size = A.length := by
  unfold showS strOfNums
  simp [ByteArray.size]
theorem showS_at (A : List Int) (k : Nat) (h : k < (showS A).size) (h' : k < A.length) : ((showS A)[k]'h).toNat = (letN A[k]).toNat := by
  have e : (showS A)[k]'h = UInt8.ofNat (letN A[k]).toNat := by
    unfold showS strOfNums
    simp [ByteArray.getElem_eq_getElem_data]
  rw [e, UInt8.toNat_ofNat']
  have := letN_rng A[k]
  omega
/-- A list of m pictures of n letters each: f j k is what group k shows in picture j. -/
def Film (w : World) (v : Value) (n m : Nat) (f : Nat → Nat → Int) : Prop :=
  ∃ g c, v = .slice (some ⟨g, 0, none⟩) m c ∧ g < w.heap.size ∧ ∀ j, j < m → ∃ s : ByteArray, w.cell? ⟨g, j, none⟩ = some (.string s) ∧ s.size = n ∧ ∀ (k : Nat) (h : k < s.size), (s[k]'h).toNat = (letN (f j k)).toNat
theorem Film.below {w w' : World} {v : Value} {n m : Nat} {f : Nat → Nat → Int} (h : Film w v n m f) (hb : Below w.heap.size w w') : Film w' v n m f := by
  obtain ⟨g, c, e, hg, P⟩ := h
  refine ⟨g, c, e, Nat.lt_of_lt_of_le hg hb.size, fun j hj => ?_⟩
  obtain ⟨s, h1, h2⟩ := P j hj
  exact ⟨s, (hb.cell (p := ⟨g, j, none⟩) hg).trans h1, h2⟩
theorem film_run {w : World} {base g c : Nat} {G : List Gp} {C : List Cf} {Ms : List Nat} (h : w.ownsRow base 9 1 (.slice (some ⟨g, 0, none⟩) (Ms.length + 1) c) (Ms.length + 1) (picsF G C Ms Ms.length)) : Film w (.slice (some ⟨g, 0, none⟩) (Ms.length + 1) c) G.length (Ms.length + 1) (fun j k => (runF G C Ms j).a k) := by
  refine ⟨g, c, rfl, (own_lt h g rfl).2, fun j hj => ⟨picF G C Ms j, ?_, ?_, fun k hk => ?_⟩⟩
  · refine (h.cellAt j (by omega)).trans ?_
    unfold picsF
    rw [List.getElem?_map, List.getElem?_range hj]; rfl
  · unfold picF; rw [showS_size, lst_len]
  · unfold picF at hk ⊢
    have hk' := hk
    rw [showS_size] at hk'
    rw [showS_at _ _ _ hk', lst_get]
theorem let0 : (letN 0).toNat = 114 := rfl
theorem let1 : (letN 1).toNat = 108 := rfl
theorem let2 : (letN 2).toNat = 103 := rfl
theorem let3 : (letN 3).toNat = 97 := rfl
end Go.Proofs.Ytbonmajnkbggcab
namespace Go.Proofs.Ytbonmajnkbggcab
open Go.RowKit
set_option linter.unusedVariables false

set_option maxRecDepth 100000 in
set_option maxHeartbeats 4000000 in
theorem headsClear_any (G : List Gp) (C : List Cf) (vg vc : Value) (s : ByteArray) (f : Nat → Int) (w : World) (h1 : Fl 5 Gp.cs w vg G) (h2 : Fl 4 Cf.cs w vc C) (lG : G.length ≤ 64) (lC : C.length ≤ 4398046511000)
    (hs : s.size = G.length) (hl : ∀ (k : Nat) (h : k < s.size), (s[k]'h).toNat = (letN (f k)).toNat) (h4 : ∀ k, k < G.length → f k = 0 ∨ f k = 1 ∨ f k = 2 ∨ f k = 3)
    (hc : ∀ c ∈ C, 0 ≤ c.a ∧ c.a < c.b ∧ c.b < (G.length : Int)) (hz : ∀ c ∈ C, f c.a.toNat = 0 ∨ f c.b.toNat = 0) :
    Calls Try.prog 45 #[.agg #[vg, vc], .string s] w fun e w' => e = .returned (.bool true) ∧ Below w.heap.size w w' := by
  obtain ⟨va, cg, rfl, -⟩ := h1.any
  obtain ⟨vb, cc, rfl, hk⟩ := h2.any
  clear h1 h2
  have B0 : Has (w.alloc (.cells #[.slice va G.length cg, .slice vb C.length cc] 25)) w.heap.size #[.slice va G.length cg, .slice vb C.length cc] := Has.new _ _ _ rfl
  have hb0 : Below w.heap.size w (w.alloc (.cells #[.slice va G.length cg, .slice vb C.length cc] 25)) := belN1
  obtain ⟨_, b1, _⟩ := id B0
  have hS : Hid (s.size = G.length) := hs
  have i0 : (s.size : Int) = (G.length : Int) := by omega
  clear hs
  go_enter Try.func45, Try.ntmps45
  go_wp2
  clear b1
  generalize (w.alloc (.cells #[.slice va G.length cg, .slice vb C.length cc] 25)) = W0 at *
  go_loopw [5] (fun t wr => ∃ k : Nat, k ≤ G.length ∧ t = .int .i64 (k : Int) ∧ wr = W0) (fun t _ => G.length - (intOf t).toNat)
  case atStart => exact ⟨0, by omega, rfl, rfl⟩
  case round =>
    obtain ⟨k, hkl, rfl, rfl⟩ := hrel
    by_cases hlt : k < G.length
    · have hks : k < s.size := by rw [hS.out]; exact hlt
      have hq := hl k hks
      have t1 : (k : Int) < (G.length : Int) := by omega
      have t0 : (0 : Int) ≤ (k : Int) := by omega
      rcases h4 k hlt with e | e | e | e
      · rw [e, let0] at hq
        clear hl h4 hc hz hk
        go_wp2
        go_roundw
        case rel => exact ⟨k + 1, by omega, by go_num, trivial⟩
        case measure => simp [intOf]; omega
      · rw [e, let1] at hq
        clear hl h4 hc hz hk
        go_wp2
        go_roundw
        case rel => exact ⟨k + 1, by omega, by go_num, trivial⟩
        case measure => simp [intOf]; omega
      · rw [e, let2] at hq
        clear hl h4 hc hz hk
        go_wp2
        go_roundw
        case rel => exact ⟨k + 1, by omega, by go_num, trivial⟩
        case measure => simp [intOf]; omega
      · rw [e, let3] at hq
        clear hl h4 hc hz hk
        go_wp2
        go_roundw
        case rel => exact ⟨k + 1, by omega, by go_num, trivial⟩
        case measure => simp [intOf]; omega
    · have t1 : ¬ (k : Int) < (G.length : Int) := by omega
      go_wp2
      go_loopw [6] (fun t wr => ∃ k : Nat, k ≤ C.length ∧ t = .int .i64 (k : Int) ∧ Hid (Has wr w.heap.size #[.slice va G.length cg, .slice vb C.length cc]) ∧ Hid (Below w.heap.size w wr)) (fun t _ => C.length - (intOf t).toNat)
      case atStart => exact ⟨0, by omega, rfl, B0, hb0⟩
      case round =>
        clear B0 hb0 t1 hkl
        obtain ⟨k, hkl, rfl, B, hb⟩ := hrel
        obtain ⟨_, b1, _⟩ := id B.out
        by_cases hlt : k < C.length
        · obtain ⟨g, o, rfl, hg, P⟩ := hk.resolve_left (by intro e; rw [e] at hlt; simp at hlt)
          have p0 := (hb.out.cell (p := ⟨g, _, none⟩) hg).trans (P k hlt 0 _ rfl)
          have p1 := (hb.out.cell (p := ⟨g, _, none⟩) hg).trans (P k hlt 1 _ rfl)
          have p2 := (hb.out.cell (p := ⟨g, _, none⟩) hg).trans (P k hlt 2 _ rfl)
          have p3 := (hb.out.cell (p := ⟨g, _, none⟩) hg).trans (P k hlt 3 _ rfl)
          simp only [Nat.add_zero] at p0
          obtain ⟨m1, m2, m3⟩ := hc C[k] (List.getElem_mem hlt)
          have mz := hz C[k] (List.getElem_mem hlt)
          generalize C[k].a = xa at *
          generalize C[k].b = xb at *
          generalize C[k].ab = xab at *
          generalize C[k].ba = xba at *
          have u1 : xa < (G.length : Int) := by omega
          have u2 : (0 : Int) ≤ xb := by omega
          have qa := hl xa.toNat (by rw [hS.out]; omega)
          have qb := hl xb.toNat (by rw [hS.out]; omega)
          have fa := h4 xa.toNat (by omega)
          have fb := h4 xb.toNat (by omega)
          have t1 : (k : Int) < (C.length : Int) := by omega
          have t0 : (0 : Int) ≤ (k : Int) := by omega
          have t2 : k + 1 ≤ C.length := hlt
          clear P hk hl h4 hc hz
          have hbN : Below w.heap.size w (wr.alloc (.cells #[.int .i64 xa, .int .i64 xb, .int .i64 xab, .int .i64 xba] 61)) := hb.out.alloc hb.out.size _
          have BN := B.out.alloc (.cells #[.int .i64 xa, .int .i64 xb, .int .i64 xab, .int .i64 xba] 61)
          by_cases z : f xa.toNat = 0
          · rw [z, let0] at qa
            clear qb mz fa fb z
            go_wp2
            go_roundw
            case rel => exact ⟨k + 1, by omega, by go_num, BN, hbN⟩
            case measure => simp [intOf]; omega
          · have zb := mz.resolve_left z
            rw [zb, let0] at qb
            rcases fa with e | e | e | e
            · exact absurd e z
            · rw [e, let1] at qa
              clear mz fb z zb e
              go_wp2
              go_roundw
              case rel => exact ⟨k + 1, by omega, by go_num, BN, hbN⟩
              case measure => simp [intOf]; omega
            · rw [e, let2] at qa
              clear mz fb z zb e
              go_wp2
              go_roundw
              case rel => exact ⟨k + 1, by omega, by go_num, BN, hbN⟩
              case measure => simp [intOf]; omega
            · rw [e, let3] at qa
              clear mz fb z zb e
              go_wp2
              go_roundw
              case rel => exact ⟨k + 1, by omega, by go_num, BN, hbN⟩
              case measure => simp [intOf]; omega
        · have t1 : ¬ (k : Int) < (C.length : Int) := by omega
          go_wp2
          go_ret
          exact ⟨rfl, hb.out⟩
end Go.Proofs.Ytbonmajnkbggcab
namespace Go.Proofs.Ytbonmajnkbggcab
open Go.RowKit
set_option linter.unusedVariables false


theorem Str.start {f c : Nat → Int} {v : Int} {s : Nat} : Str f c v s s := ⟨Nat.le_refl _, fun h => absurd h (Nat.lt_irrefl _), fun t h1 h2 => absurd h2 (Nat.not_lt.2 h1)⟩
theorem let_0 {a : Int} (h : a = 0 ∨ a = 1 ∨ a = 2 ∨ a = 3) (e : (letN a).toNat = 114) : a = 0 := by
  rcases h with h | h | h | h <;> subst h <;> first | rfl | (exact absurd e (by decide))
theorem let_1 {a : Int} (h : a = 0 ∨ a = 1 ∨ a = 2 ∨ a = 3) (e : (letN a).toNat = 108) : a = 1 := by
  rcases h with h | h | h | h <;> subst h <;> first | rfl | (exact absurd e (by decide))
theorem let_2 {a : Int} (h : a = 0 ∨ a = 1 ∨ a = 2 ∨ a = 3) (e : (letN a).toNat = 103) : a = 2 := by
  rcases h with h | h | h | h <;> subst h <;> first | rfl | (exact absurd e (by decide))
theorem let_3 {a : Int} (h : a = 0 ∨ a = 1 ∨ a = 2 ∨ a = 3) (e : (letN a).toNat = 97) : a = 3 := by
  rcases h with h | h | h | h <;> subst h <;> first | rfl | (exact absurd e (by decide))
set_option maxRecDepth 100000 in
set_option maxHeartbeats 4000000 in
theorem headsLine_any (g : Gp) (v : Value) (n m k : Nat) (f : Nat → Nat → Int) (c : Nat → Int) (w : World) (hF : Film w v n m f) (hk : k < n) (hn : n ≤ 64) (hm : m ≤ 17592186044001) (L' : Ln g (fun j => f j k) c) :
    Calls Try.prog 63 #[.agg #[.string g.name, .int .i64 g.sort, .int .i64 g.min, .int .i64 g.amber, .int .i64 g.lead], v, .int .i64 (k : Int)] w fun e w' => e = .returned (.bool true) ∧ Below w.heap.size w w' := by
  obtain ⟨F, eF⟩ : ∃ F : Nat → Int, F = fun j => f j k := ⟨_, rfl⟩
  have L : Ln g F c := by rw [eF]; exact L'
  have hb0 : Below w.heap.size w (w.alloc (.cells #[.string g.name, .int .i64 g.sort, .int .i64 g.min, .int .i64 g.amber, .int .i64 g.lead] 58)) := belN1
  obtain ⟨q, cp, rfl, -, P⟩ := hF.below hb0
  replace P : ∀ j, j < m → ∃ s : ByteArray, (w.alloc (.cells #[.string g.name, .int .i64 g.sort, .int .i64 g.min, .int .i64 g.amber, .int .i64 g.lead] 58)).cell? ⟨q, j, none⟩ = some (.string s) ∧ ∃ h : k < s.size, (s[k]'h).toNat = (letN (F j)).toNat := fun j hj => by
    obtain ⟨s, h1, h2, h3⟩ := P j hj
    exact ⟨s, h1, by omega, by rw [h3, eF]⟩
  have B0 : Has (w.alloc (.cells #[.string g.name, .int .i64 g.sort, .int .i64 g.min, .int .i64 g.amber, .int .i64 g.lead] 58)) w.heap.size #[.string g.name, .int .i64 g.sort, .int .i64 g.min, .int .i64 g.amber, .int .i64 g.lead] := Has.new _ _ _ rfl
  obtain ⟨_, b1, _⟩ := id B0
  have k0 : (0 : Int) ≤ (k : Int) := by omega
  clear L' eF hF
  go_enter Try.func63, Try.ntmps63
  go_wp2
  generalize (w.alloc (.cells #[.string g.name, .int .i64 g.sort, .int .i64 g.min, .int .i64 g.amber, .int .i64 g.lead] 58)) = W0 at *
  go_loopw [7] (fun t wr => ∃ i : Nat, i ≤ m ∧ t = .int .i64 (i : Int) ∧ (i < m → F i = 0 ∧ c i = 1) ∧ W0 = wr) (fun t _ => m - (intOf t).toNat)
  case atStart => exact ⟨0, by omega, rfl, fun _ => ⟨L.f0, L.c0⟩, rfl⟩
  case round =>
    obtain ⟨i, him, rfl, hi, rfl⟩ := hrel
    by_cases ilt : i < m
    · obtain ⟨fi, ci⟩ := hi ilt
      have ui : (i : Int) < (m : Int) := by omega
      clear hi
      go_wp2
      go_loopw [7] (fun t wr => ∃ j1 : Nat, i ≤ j1 ∧ j1 ≤ m ∧ t = .int .i64 (j1 : Int) ∧ Hid (Str F c 0 i j1) ∧ W0 = wr) (fun t _ => m - (intOf t).toNat)
      case atStart => exact ⟨i, Nat.le_refl _, by omega, rfl, Str.start, rfl⟩
      case round =>
        obtain ⟨j1, j1l, j1m, rfl, j1S, rfl⟩ := hrel
        by_cases j1t : j1 < m
        · obtain ⟨sj1, pj1, hj1, qj1⟩ := P j1 j1t
          have uj1 : (j1 : Int) < (m : Int) := by omega
          have vj1 : (0 : Int) ≤ (j1 : Int) := by omega
          by_cases j1v : F j1 = 0
          · rw [j1v, let0] at qj1
            have S' := j1S.out.more (fun _ => ci) j1v
            clear P j1S
            go_wp2
            go_roundw
            case rel => exact ⟨j1 + 1, by omega, by omega, by go_num, S', trivial⟩
            case measure => simp [intOf]; omega
          · have nj1 : ¬ (sj1[k]'(by omega)).toNat = 114 := fun h => j1v (let_0 (L.four j1) (qj1.symm.trans h))
            have dj1 : ¬ ((sj1[k]'(by omega)).toNat : Int) = 114 := by omega
            clear qj1
            have hij : i < j1 := by
              rcases Nat.lt_or_ge i j1 with h | h
              · exact h
              · have : i = j1 := by omega
                subst this; exact absurd fi j1v
            have y1 : ¬ (j1 : Int) = (i : Int) := by omega
            obtain ⟨f1, c1⟩ := L.of_red j1S.out hij j1v
            go_wp2
            go_loopw [7] (fun t wr => ∃ j2 : Nat, j1 ≤ j2 ∧ j2 ≤ m ∧ t = .int .i64 (j2 : Int) ∧ Hid (Str F c 1 j1 j2) ∧ W0 = wr) (fun t _ => m - (intOf t).toNat)
            case atStart => exact ⟨j1, Nat.le_refl _, by omega, rfl, Str.start, rfl⟩
            case round =>
              obtain ⟨j2, j2l, j2m, rfl, j2S, rfl⟩ := hrel
              by_cases j2t : j2 < m
              · obtain ⟨sj2, pj2, hj2, qj2⟩ := P j2 j2t
                have uj2 : (j2 : Int) < (m : Int) := by omega
                have vj2 : (0 : Int) ≤ (j2 : Int) := by omega
                by_cases j2v : F j2 = 1
                · rw [j2v, let1] at qj2
                  have S' := j2S.out.more (fun _ => c1) j2v
                  clear P j2S
                  go_wp2
                  go_roundw
                  case rel => exact ⟨j2 + 1, by omega, by omega, by go_num, S', trivial⟩
                  case measure => simp [intOf]; omega
                · have nj2 : ¬ (sj2[k]'(by omega)).toNat = 108 := fun h => j2v (let_1 (L.four j2) (qj2.symm.trans h))
                  have dj2 : ¬ ((sj2[k]'(by omega)).toNat : Int) = 108 := by omega
                  clear qj2
                  obtain ⟨f2, c2, l2⟩ := L.of_led j2S.out f1 c1 j2v
                  have w2 : IntKind.i64.wrap ((j2 : Int) - (j1 : Int)) = (j2 : Int) - (j1 : Int) := wrap64 _ (by omega)
                  have y2 : ¬ (j2 : Int) = (m : Int) := by omega
                  go_wp2
                  go_loopw [7] (fun t wr => ∃ j3 : Nat, j2 ≤ j3 ∧ j3 ≤ m ∧ t = .int .i64 (j3 : Int) ∧ Hid (Str F c 2 j2 j3) ∧ W0 = wr) (fun t _ => m - (intOf t).toNat)
                  case atStart => exact ⟨j2, Nat.le_refl _, by omega, rfl, Str.start, rfl⟩
                  case round =>
                    obtain ⟨j3, j3l, j3m, rfl, j3S, rfl⟩ := hrel
                    by_cases j3t : j3 < m
                    · obtain ⟨sj3, pj3, hj3, qj3⟩ := P j3 j3t
                      have uj3 : (j3 : Int) < (m : Int) := by omega
                      have vj3 : (0 : Int) ≤ (j3 : Int) := by omega
                      by_cases j3v : F j3 = 2
                      · rw [j3v, let2] at qj3
                        have S' := j3S.out.more (fun _ => c2) j3v
                        clear P j3S
                        go_wp2
                        go_roundw
                        case rel => exact ⟨j3 + 1, by omega, by omega, by go_num, S', trivial⟩
                        case measure => simp [intOf]; omega
                      · have nj3 : ¬ (sj3[k]'(by omega)).toNat = 103 := fun h => j3v (let_2 (L.four j3) (qj3.symm.trans h))
                        have dj3 : ¬ ((sj3[k]'(by omega)).toNat : Int) = 103 := by omega
                        clear qj3
                        obtain ⟨l4, f4, c4, m4⟩ := L.of_grn j3S.out f2 j3v
                        have w3 : IntKind.i64.wrap ((j3 : Int) - (j2 : Int)) = (j3 : Int) - (j2 : Int) := wrap64 _ (by omega)
                        have y3 : ¬ (j3 : Int) = (m : Int) := by omega
                        have z3 : ¬ (j3 : Int) - (j2 : Int) < g.min := by omega
                        go_wp2
                        go_loopw [7] (fun t wr => ∃ j4 : Nat, j3 ≤ j4 ∧ j4 ≤ m ∧ t = .int .i64 (j4 : Int) ∧ Hid (Str F c 3 j3 j4) ∧ W0 = wr) (fun t _ => m - (intOf t).toNat)
                        case atStart => exact ⟨j3, Nat.le_refl _, by omega, rfl, Str.start, rfl⟩
                        case round =>
                          obtain ⟨j4, j4l, j4m, rfl, j4S, rfl⟩ := hrel
                          by_cases j4t : j4 < m
                          · obtain ⟨sj4, pj4, hj4, qj4⟩ := P j4 j4t
                            have uj4 : (j4 : Int) < (m : Int) := by omega
                            have vj4 : (0 : Int) ≤ (j4 : Int) := by omega
                            by_cases j4v : F j4 = 3
                            · rw [j4v, let3] at qj4
                              have S' := j4S.out.more (fun _ => c4) j4v
                              clear P j4S
                              go_wp2
                              go_roundw
                              case rel => exact ⟨j4 + 1, by omega, by omega, by go_num, S', trivial⟩
                              case measure => simp [intOf]; omega
                            · have nj4 : ¬ (sj4[k]'(by omega)).toNat = 97 := fun h => j4v (let_3 (L.four j4) (qj4.symm.trans h))
                              have dj4 : ¬ ((sj4[k]'(by omega)).toNat : Int) = 97 := by omega
                              clear qj4
                              obtain ⟨f5, c5, l5⟩ := L.of_amb j4S.out f4 c4 j4v
                              have w4 : IntKind.i64.wrap ((j4 : Int) - (j3 : Int)) = (j4 : Int) - (j3 : Int) := wrap64 _ (by omega)
                              have y4 : ¬ (j4 : Int) = (m : Int) := by omega
                              clear P
                              go_wp2
                              go_roundw
                              case rel => exact ⟨j4, by omega, rfl, fun _ => ⟨f5, c5⟩, trivial⟩
                              case measure => simp [intOf]; omega
                          · have uj4 : ¬ (j4 : Int) < (m : Int) := by omega
                            obtain rfl : j4 = m := by omega
                            have zz := L.amb_end j4S.out
                            have w4 : IntKind.i64.wrap ((j4 : Int) - (j3 : Int)) = (j4 : Int) - (j3 : Int) := wrap64 _ (by omega)
                            have a4 : (j4 : Int) - (j3 : Int) ≤ g.amber := zz
                            have e4 : decide ((j4 : Int) - (j3 : Int) ≤ g.amber) = true := decide_eq_true zz
                            clear P
                            go_wp2
                            go_ret
                            exact ⟨by first | rfl | (simp [a4]; done) | (simp; omega), hb0⟩
                    · have uj3 : ¬ (j3 : Int) < (m : Int) := by omega
                      obtain rfl : j3 = m := by omega
                      have hse : j2 < j3 := by
                        rcases Nat.lt_or_ge j2 j3 with h | h
                        · exact h
                        · omega
                      have a3 : (j3 : Int) > (j2 : Int) := by omega
                      have b3 : (j2 : Int) < (j3 : Int) := by omega
                      clear P
                      go_wp2
                      go_ret
                      exact ⟨by first | rfl | (simp [b3]; done) | (simp; omega), hb0⟩
              · have uj2 : ¬ (j2 : Int) < (m : Int) := by omega
                obtain rfl : j2 = m := by omega
                have zz := L.led_end j2S.out
                have w2 : IntKind.i64.wrap ((j2 : Int) - (j1 : Int)) = (j2 : Int) - (j1 : Int) := wrap64 _ (by omega)
                have a2 : (j2 : Int) - (j1 : Int) ≤ g.lead := zz
                clear P
                go_wp2
                go_ret
                exact ⟨by first | rfl | (simp [a2]; done) | (simp; omega), hb0⟩
        · have uj1 : ¬ (j1 : Int) < (m : Int) := by omega
          obtain rfl : j1 = m := by omega
          have y1 : ¬ (j1 : Int) = (i : Int) := by omega
          have le0 := L.l0
          clear P
          go_wp2
          go_loopw [7] (fun t wr => t = .int .i64 (j1 : Int) ∧ W0 = wr) (fun t _ => 0)
          case atStart => exact ⟨rfl, rfl⟩
          case round =>
            obtain ⟨rfl, rfl⟩ := hrel
            go_wp2
            go_ret
            exact ⟨by first | rfl | (simp [le0]; done) | (simp; omega), hb0⟩
    · have ui : ¬ (i : Int) < (m : Int) := by omega
      clear hi P
      go_wp2
      go_ret
      exact ⟨rfl, hb0⟩
end Go.Proofs.Ytbonmajnkbggcab
namespace Go.Proofs.Ytbonmajnkbggcab
open Go.RowKit
set_option linter.unusedVariables false

set_option maxRecDepth 100000 in
set_option maxHeartbeats 4000000 in
theorem headsTimes_any (G : List Gp) (vg v : Value) (vb : Option Addr) (lb cb m : Nat) (f c : Nat → Nat → Int) (w : World) (h1 : Fl 5 Gp.cs w vg G) (lG : G.length ≤ 64) (hF : Film w v G.length m f) (hm : m ≤ 17592186044001) (hL : ∀ (k : Nat) (h : k < G.length), Ln G[k] (fun j => f j k) (c k)) :
    Calls Try.prog 47 #[.agg #[vg, .slice vb lb cb], v] w fun e w' => e = .returned (.bool true) ∧ Below w.heap.size w w' := by
  have hC := fun (k : Nat) (hk : k < G.length) (X : World) (hX : Below w.heap.size w X) => headsLine_any G[k] v G.length m k f (c k) X (hF.below hX) hk lG hm (hL k hk)
  obtain ⟨va, cg, rfl, hk⟩ := h1.any
  obtain ⟨q, cp, rfl, -, -⟩ := hF
  clear h1 hL
  have B0 : Has (w.alloc (.cells #[.slice va G.length cg, .slice vb lb cb] 25)) w.heap.size #[.slice va G.length cg, .slice vb lb cb] := Has.new _ _ _ rfl
  have hb0 : Below w.heap.size w (w.alloc (.cells #[.slice va G.length cg, .slice vb lb cb] 25)) := belN1
  go_enter Try.func47, Try.ntmps47
  go_wp2
  generalize (w.alloc (.cells #[.slice va G.length cg, .slice vb lb cb] 25)) = W0 at *
  go_loopw [5] (fun t wr => ∃ k : Nat, k ≤ G.length ∧ t = .int .i64 (k : Int) ∧ Hid (Has wr w.heap.size #[.slice va G.length cg, .slice vb lb cb]) ∧ Hid (Below w.heap.size w wr)) (fun t _ => G.length - (intOf t).toNat)
  case atStart => exact ⟨0, by omega, rfl, B0, hb0⟩
  case round =>
    clear B0 hb0
    obtain ⟨k, hkl, rfl, B, hb⟩ := hrel
    obtain ⟨_, b1, _⟩ := id B.out
    by_cases hlt : k < G.length
    · obtain ⟨g, o, rfl, hg, P⟩ := hk.resolve_left (by intro e; rw [e] at hlt; simp at hlt)
      have p0 := (hb.out.cell (p := ⟨g, _, none⟩) hg).trans (P k hlt 0 _ rfl)
      have p1 := (hb.out.cell (p := ⟨g, _, none⟩) hg).trans (P k hlt 1 _ rfl)
      have p2 := (hb.out.cell (p := ⟨g, _, none⟩) hg).trans (P k hlt 2 _ rfl)
      have p3 := (hb.out.cell (p := ⟨g, _, none⟩) hg).trans (P k hlt 3 _ rfl)
      have p4 := (hb.out.cell (p := ⟨g, _, none⟩) hg).trans (P k hlt 4 _ rfl)
      simp only [Nat.add_zero] at p0
      have cH := hC k hlt wr hb.out
      generalize G[k].name = x0 at *
      generalize G[k].sort = x1 at *
      generalize G[k].min = x2 at *
      generalize G[k].amber = x3 at *
      generalize G[k].lead = x4 at *
      have t1 : (k : Int) < (G.length : Int) := by omega
      have t0 : (0 : Int) ≤ (k : Int) := by omega
      clear P hk hC
      go_wp2_with (go_at_call 63; (with_reducible refine Calls.mono cH ?_); rintro e w2 ⟨rfl, hb2⟩; have BN := B.out.below hb2; have hbN := bel_after hb.out hb.out.size hb2; clear hb2)
      go_roundw
      case rel => exact ⟨k + 1, by omega, by go_num, BN, hbN⟩
      case measure => simp [intOf]; omega
    · have t1 : ¬ (k : Int) < (G.length : Int) := by omega
      go_wp2
      go_ret
      exact ⟨rfl, hb.out⟩
end Go.Proofs.Ytbonmajnkbggcab
namespace Go.Proofs.Ytbonmajnkbggcab
open Go.RowKit
set_option linter.unusedVariables false


theorem has4x {w' : World} {b : Nat} {v0 v1 v2 v3 : Value} (h : Has w' b #[v0, v1, v2, v3]) : w'.cell? ⟨b, 0, none⟩ = some v0 ∧ w'.cell? ⟨b, 1, none⟩ = some v1 ∧ w'.cell? ⟨b, 2, none⟩ = some v2 ∧ w'.cell? ⟨b, 3, none⟩ = some v3 := ⟨h.2.1 0, h.2.1 1, h.2.1 2, h.2.1 3⟩
theorem own_st64 {base e n g cap : Nat} {f : Nat → Int} {w : World} (h : w.ownsRow base e 1 (.slice (some ⟨g, 0, none⟩) n cap) n (valR n f)) {k : Nat} (hk : k < n) (v : Int) : (w.setCell ⟨g, k, none⟩ (.int .i64 v)).ownsRow base e 1 (.slice (some ⟨g, 0, none⟩) n cap) n (valR n (fun j => if j = k then v else f j)) := by
  have := own_stored [.int .i64 v] w (valR n f) k h
  rw [valR_set hk] at this
  exact this
theorem own_to {w : World} {base e n : Nat} {v : Value} {f g : Nat → Int} (h : w.ownsRow base e 1 v n (valR n f)) (hfg : ∀ k, k < n → f k = g k) : w.ownsRow base e 1 v n (valR n g) := by rw [← valR_ext hfg]; exact h
theorem wpList_make_all {P : Program} (w : World) {ops : Array Oper} {rest : List Oper} {o : Oper} {a : Act} {Q : Exit → Act → World → Prop}
    (hg : o.guard = none) (l c : Operand) (t : TypeId) (hop : o.op = Op.makeSlice t l c)
    (base : Nat) (e : TypeId) (i : TypeInfo) (z : Value) (h1 : P.underlying t = some (.slice e)) (h2 : P.info? e = some i) (h3 : i.zero = some z) (h4 : i.size = 1) (hz : z.cells = #[z])
    (kl kc : IntKind) (n : Nat) (hl : a.eval l = .int kl (n : Int)) (hc : a.eval c = .int kc (n : Int)) (b2 : i.bytes * n ≤ 281474976710656) (b3 : n ≤ maxLen) (b4 : base ≤ w.heap.size)
    (hK : ∀ w', w'.ownsRow base e 1 (.slice (some ⟨w.heap.size, 0, none⟩) n n) n (List.replicate n z) → w.grownBy w' none → wpList P ops Q rest (a.put o.dst (.slice (some ⟨w.heap.size, 0, none⟩) n n)) w') :
    wpList P ops Q (o :: rest) a w := by
  refine wpList_plain hg fun K hK' => ?_
  have h63' : (n : Int) ≤ 9223372036854775807 := by
    have h := b3
    simp [maxLen] at h
    omega
  have hb' : (i.bytes : Int) * (n : Int) ≤ 281474976710656 := by
    have h : ((i.bytes * n : Nat) : Int) ≤ 281474976710656 := by omega
    rwa [Int.natCast_mul] at h
  have hrun := run_make (P := P) w t e i z h1 h2 h3 kl kc (n : Int) (n : Int) (by omega) (by omega) hb' h63'
  rw [Int.toNat_natCast, h4, hz, Nat.mul_one] at hrun
  have r1 : (w.alloc (.cells (madeCells #[z] n) e)).ownsRow base e 1 (.slice (some ⟨w.heap.size, 0, none⟩) n n) n (List.replicate n z) :=
    ⟨by simp, .inr ⟨w.heap.size, n, madeCells #[z] n, rfl, b4, heap_alloc_new w _, Nat.le_refl _, b3, by rw [size_madeCells, Nat.mul_one], by rw [toList_madeCells_one, Nat.mul_one, List.take_replicate, Nat.min_self]⟩⟩
  unfold Oper.wp
  simp [execOp, hop, hl, hc, hrun, Result.andThen]
  exact hK' _ _ (hK _ r1 (World.grownBy_alloc w _ none))
theorem info3s : (Try.prog.info? 3).map (fun i => (i.zero, i.size, i.bytes)) = some (some (.int .i64 0), 1, 8) := by kernel_rfl
set_option maxRecDepth 100000 in
set_option maxHeartbeats 4000000 in
theorem headsInter_any (G : List Gp) (C : List Cf) (vg vc v : Value) (m : Nat) (f : Nat → Nat → Int) (w : World) (h1 : Fl 5 Gp.cs w vg G) (h2 : Fl 4 Cf.cs w vc C) (lG : G.length ≤ 64) (lC : C.length ≤ 4398046511000) (hF : Film w v G.length m f) (hm : m ≤ 35184372088002)
    (h4 : ∀ j k, j < m → k < G.length → f j k = 0 ∨ f j k = 1 ∨ f j k = 2 ∨ f j k = 3) (hc : ∀ c ∈ C, 0 ≤ c.a ∧ c.a < c.b ∧ c.b < (G.length : Int))
    (hI : ∀ j, j < m → ∀ c ∈ C, (f j c.b.toNat ≠ 0 → c.ab < (j : Int) - lastF (fun t => f t c.a.toNat) j) ∧ (f j c.a.toNat ≠ 0 → c.ba < (j : Int) - lastF (fun t => f t c.b.toNat) j)) :
    Calls Try.prog 46 #[.agg #[vg, vc], v] w fun e w' => e = .returned (.bool true) ∧ Below w.heap.size w w' := by
  obtain ⟨va, cg, rfl, -⟩ := h1.any
  obtain ⟨vb, cc, rfl, hk⟩ := h2.any
  obtain ⟨q, cp, rfl, hq, PF⟩ := hF
  obtain ⟨i3, hi, hi0, hi1, hi2⟩ := info_parts info3s
  clear h1 h2
  have B0 : Has (w.alloc (.cells #[.slice va G.length cg, .slice vb C.length cc] 25)) w.heap.size #[.slice va G.length cg, .slice vb C.length cc] := Has.new _ _ _ rfl
  have hb0 : Below w.heap.size w (w.alloc (.cells #[.slice va G.length cg, .slice vb C.length cc] 25)) := belN1
  obtain ⟨_, b1, _⟩ := id B0
  go_enter Try.func46, Try.ntmps46
  go_upto_region 2 with ((refine wpList_make_all _ rfl _ _ 26 rfl (w.heap.size + 1) 3 i3 _ Try.underlying26 hi hi0 hi1 rfl .i64 .i64 G.length (by first | rfl | (simp [Act.eval]; done)) (by first | rfl | (simp [Act.eval]; done)) (by rw [hi2]; omega) (by unfold maxLen; omega) (by exact B0.1) ?_); intro W1 own hg1; have hb1 := bel_after hb0 hb0.size (grown_none hg1); have B1 := B0.below (grown_none hg1); clear hg1)
  clear b1
  have zr : (w.alloc (.cells #[.slice va G.length cg, .slice vb C.length cc] 25)).heap.size = w.heap.size + 1 := by simp
  rw [valR_zero, zr] at own
  clear zr
  clear B0 hb0
  go_wp2_with fail
  go_loopw [6] (fun t wr => ∃ k : Nat, k ≤ G.length ∧ t = .int .i64 (k : Int) ∧ Hid (wr.ownsRow (w.heap.size + 1) 3 1 (.slice (some ⟨w.heap.size + 1, 0, none⟩) G.length G.length) G.length (valR G.length (fun x => if x < k then -1 else 0))) ∧ Hid (Has wr w.heap.size #[.slice va G.length cg, .slice vb C.length cc]) ∧ Hid (Below w.heap.size w wr)) (fun t _ => G.length - (intOf t).toNat)
  case atStart => exact ⟨0, by omega, rfl, own_to own (fun k _ => by simp), B1, hb1⟩
  case round =>
    clear own B1 hb1
    obtain ⟨k, hkl, rfl, ow', B', hb'⟩ := hrel
    have ow := ow'.out
    have B := B'.out
    have hb := hb'.out
    clear ow' B' hb'
    by_cases hlt : k < G.length
    · have t1 : (k : Int) < (G.length : Int) := by omega
      have t0 : (0 : Int) ≤ (k : Int) := by omega
      have fz := ow.frozenAt k
      have ce := own_cell ow hlt
      have o2 := own_to (own_st64 ow hlt (-1)) (g := fun x => if x < k + 1 then -1 else 0) (fun x hx => by
        by_cases e : x = k
        · rw [if_pos e, if_pos (by omega)]
        · rw [if_neg e]
          by_cases d : x < k
          · rw [if_pos d, if_pos (by omega)]
          · rw [if_neg d, if_neg (by omega)])
      have B2 := B.far (c := w.heap.size + 1) (i := k) (by omega) (.int .i64 (-1))
      have hb2 : Below w.heap.size w (wr.setCell ⟨w.heap.size + 1, k, none⟩ (.int .i64 (-1))) := hb.setCell (p := ⟨w.heap.size + 1, k, none⟩) (by first | (simp; done) | (simp; omega)) _
      go_wp2_with fail
      go_roundw
      case rel => exact ⟨k + 1, by omega, by go_num, o2, B2, hb2⟩
      case measure => simp [intOf]; omega
    · have t1 : ¬ (k : Int) < (G.length : Int) := by omega
      have o0 := own_to ow (g := (fun x => lastF (fun t => f t x) 0)) (fun x hx => by rw [if_pos (by omega)]; rfl)
      clear ow
      go_wp2_with fail
      go_loopw [7] (fun t wr => ∃ j : Nat, j ≤ m ∧ t = .int .i64 (j : Int) ∧ Hid (wr.ownsRow (w.heap.size + 1) 3 1 (.slice (some ⟨w.heap.size + 1, 0, none⟩) G.length G.length) G.length (valR G.length (fun x => lastF (fun t => f t x) j))) ∧ Hid (Has wr w.heap.size #[.slice va G.length cg, .slice vb C.length cc]) ∧ Hid (Below w.heap.size w wr)) (fun t _ => m - (intOf t).toNat)
      case atStart => exact ⟨0, by omega, rfl, o0, B, hb⟩
      case round =>
        clear o0 B hb t1 hkl hlt
        obtain ⟨j, hjm, rfl, ow', B', hb'⟩ := hrel
        have ow := ow'.out
        have B := B'.out
        have hb := hb'.out
        clear ow' B' hb'
        by_cases jlt : j < m
        · obtain ⟨s, ps0, sz', hs⟩ := PF j jlt
          have sz : Hid (s.size = G.length) := sz'
          have si : (s.size : Int) = (G.length : Int) := by omega
          clear sz'
          have u1 : (j : Int) < (m : Int) := by omega
          have u0 : (0 : Int) ≤ (j : Int) := by omega
          go_wp2_with fail
          go_loopw [8] (fun t wr => ∃ i : Nat, i ≤ C.length ∧ t = .int .i64 (i : Int) ∧ Hid (wr.ownsRow (w.heap.size + 1) 3 1 (.slice (some ⟨w.heap.size + 1, 0, none⟩) G.length G.length) G.length (valR G.length (fun x => lastF (fun t => f t x) j))) ∧ Hid (Has wr w.heap.size #[.slice va G.length cg, .slice vb C.length cc]) ∧ Hid (Below w.heap.size w wr)) (fun t _ => C.length - (intOf t).toNat)
          case atStart => exact ⟨0, by omega, rfl, ow, B, hb⟩
          case round =>
            clear ow B hb
            obtain ⟨i, him, rfl, ow', B', hb'⟩ := hrel
            have ow := ow'.out
            have B := B'.out
            have hb := hb'.out
            clear ow' B' hb'
            obtain ⟨_, b1, _⟩ := id B
            by_cases ilt : i < C.length
            · obtain ⟨g, o, rfl, hg, P⟩ := hk.resolve_left (by intro e; rw [e] at ilt; simp at ilt)
              have p0 := (hb.cell (p := ⟨g, _, none⟩) hg).trans (P i ilt 0 _ rfl)
              have p1 := (hb.cell (p := ⟨g, _, none⟩) hg).trans (P i ilt 1 _ rfl)
              have p2 := (hb.cell (p := ⟨g, _, none⟩) hg).trans (P i ilt 2 _ rfl)
              have p3 := (hb.cell (p := ⟨g, _, none⟩) hg).trans (P i ilt 3 _ rfl)
              simp only [Nat.add_zero] at p0
              obtain ⟨m1, m2, m3⟩ := hc C[i] (List.getElem_mem ilt)
              obtain ⟨rb, ra⟩ := hI j jlt C[i] (List.getElem_mem ilt)
              generalize C[i].a = xa at *
              generalize C[i].b = xb at *
              generalize C[i].ab = xab at *
              generalize C[i].ba = xba at *
              have v1 : xa < (G.length : Int) := by omega
              have v2 : (0 : Int) ≤ xb := by omega
              have qa := hs xa.toNat (by rw [sz.out]; omega)
              have qb := hs xb.toNat (by rw [sz.out]; omega)
              have fa := h4 j xa.toNat jlt (by omega)
              have fb := h4 j xb.toNat jlt (by omega)
              have la := lastF_rng (fun t => f t xa.toNat) j
              have lb := lastF_rng (fun t => f t xb.toNat) j
              have t1 : (i : Int) < (C.length : Int) := by omega
              have t0 : (0 : Int) ≤ (i : Int) := by omega
              have t2 : i + 1 ≤ C.length := ilt
              have hbN := hb.alloc hb.size (.cells #[.int .i64 xa, .int .i64 xb, .int .i64 xab, .int .i64 xba] 61)
              have BN := B.alloc (.cells #[.int .i64 xa, .int .i64 xb, .int .i64 xab, .int .i64 xba] 61)
              have oN := ow.alloc (.cells #[.int .i64 xa, .int .i64 xb, .int .i64 xab, .int .i64 xba] 61)
              have CN : Has (wr.alloc (.cells #[.int .i64 xa, .int .i64 xb, .int .i64 xab, .int .i64 xba] 61)) wr.heap.size #[.int .i64 xa, .int .i64 xb, .int .i64 xab, .int .i64 xba] := Has.new _ _ _ rfl
              have c1 := (hbN.cell (p := ⟨q, j, none⟩) hq).trans ps0
              have c2 := own_cell oN (k := xa.toNat) (by omega)
              have c3 := own_cell oN (k := xb.toNat) (by omega)
              clear P hk hs h4 hc hI PF ow B hb
              (try dsimp only at c2 c3)
              generalize lastF (fun t => f t xa.toNat) j = ya at *
              generalize lastF (fun t => f t xb.toNat) j = yb at *
              have wa : IntKind.i64.wrap ((j : Int) - ya) = (j : Int) - ya := wrap64 _ (by omega)
              have wb : IntKind.i64.wrap ((j : Int) - yb) = (j : Int) - yb := wrap64 _ (by omega)
              go_upto_region 13 with fail
              by_cases zb : f j xb.toNat = 0
              · rw [zb, let0] at qb
                by_cases za : f j xa.toNat = 0
                · rw [za, let0] at qa
                  clear ra rb fa fb za zb
                  refine wp_region_noPanic ?_
                  refine wp_region_held_drew (S := fun w' => w'.cell? ⟨q, j, none⟩ = some (.string s) ∧ (w'.cell? ⟨wr.heap.size, 0, none⟩ = some (.int .i64 xa) ∧ w'.cell? ⟨wr.heap.size, 1, none⟩ = some (.int .i64 xb) ∧ w'.cell? ⟨wr.heap.size, 2, none⟩ = some (.int .i64 xab) ∧ w'.cell? ⟨wr.heap.size, 3, none⟩ = some (.int .i64 xba)) ∧ w'.cell? ⟨w.heap.size + 1, xa.toNat, none⟩ = some (.int .i64 ya) ∧ w'.cell? ⟨w.heap.size + 1, xb.toNat, none⟩ = some (.int .i64 yb)) (by kernel_rfl) ?_ (fun hHeld => ?_)
                  · (try dsimp only)
                    exact ⟨c1, has4x CN.drew, c2, c3⟩
                  refine wpAnyH_take (i := 0) (oi := { dst := some 42, op := Op.move (Operand.tmp 1), type := 41, pos := "headssafe.go:39", after := #[], guard := none }) (v := ?_) rfl (by kernel_rfl) (by kernel_rfl) (by kernel_rfl) (fun _ _ _ h => h) (Or.inl ⟨by rfl, ?_⟩) (by assumption) ?_
                  rotate_left
                  · intro wz hSz; (try dsimp only at hSz); go_simp; all_goals (with_reducible rfl)
                  (try simp only [Act.put, List.setIfInBounds_toArray, List.set_cons_zero, List.set_cons_succ])
                  refine wpAnyH_take (i := 1) (oi := { dst := some 43, op := Op.move (Operand.tmp 7), type := 3, pos := "headssafe.go:39", after := #[], guard := none }) (v := ?_) rfl (by kernel_rfl) (by kernel_rfl) (by kernel_rfl) (fun _ _ _ h => h) (Or.inl ⟨by rfl, ?_⟩) (by assumption) ?_
                  rotate_left
                  · intro wz hSz; (try dsimp only at hSz); go_simp; all_goals (with_reducible rfl)
                  (try simp only [Act.put, List.setIfInBounds_toArray, List.set_cons_zero, List.set_cons_succ])
                  refine wpAnyH_take (i := 2) (oi := { dst := some 44, op := Op.indexAddr 41 (Operand.tmp 42) (Operand.tmp 43), type := 0, pos := "headssafe.go:39", after := #[{ on := 0, ground := Ground.data }, { on := 1, ground := Ground.data }], guard := none }) (v := ?_) rfl (by kernel_rfl) (by kernel_rfl) (by kernel_rfl) (fun _ _ _ h => h) (Or.inl ⟨by rfl, ?_⟩) (by assumption) ?_
                  rotate_left
                  · intro wz hSz; (try dsimp only at hSz); go_simp; all_goals (with_reducible rfl)
                  (try simp only [Act.put, List.setIfInBounds_toArray, List.set_cons_zero, List.set_cons_succ])
                  refine wpAnyH_take (i := 3) (oi := { dst := some 45, op := Op.load 9 (Operand.tmp 44), type := 9, pos := "headssafe.go:39", after := #[{ on := 2, ground := Ground.data }], guard := none }) (v := ?_) rfl (by kernel_rfl) (by kernel_rfl) (by kernel_rfl) (fun _ _ _ h => h) (Or.inl ⟨by rfl, ?_⟩) (by assumption) ?_
                  rotate_left
                  · intro wz hSz; (try dsimp only at hSz); go_simp; all_goals (with_reducible rfl)
                  (try simp only [Act.put, List.setIfInBounds_toArray, List.set_cons_zero, List.set_cons_succ])
                  refine wpAnyH_take (i := 4) (oi := { dst := some 46, op := Op.fieldAddr 61 (Operand.tmp 9) 1, type := 0, pos := "headssafe.go:39", after := #[], guard := none }) (v := ?_) rfl (by kernel_rfl) (by kernel_rfl) (by kernel_rfl) (fun _ _ _ h => h) (Or.inl ⟨by rfl, ?_⟩) (by assumption) ?_
                  rotate_left
                  · intro wz hSz; (try dsimp only at hSz); go_simp; all_goals (with_reducible rfl)
                  (try simp only [Act.put, List.setIfInBounds_toArray, List.set_cons_zero, List.set_cons_succ])
                  refine wpAnyH_take (i := 5) (oi := { dst := some 47, op := Op.load 3 (Operand.tmp 46), type := 3, pos := "headssafe.go:39", after := #[{ on := 4, ground := Ground.data }], guard := none }) (v := ?_) rfl (by kernel_rfl) (by kernel_rfl) (by kernel_rfl) (fun _ _ _ h => h) (Or.inl ⟨by rfl, ?_⟩) (by assumption) ?_
                  rotate_left
                  · intro wz hSz; (try dsimp only at hSz); go_simp; all_goals (with_reducible rfl)
                  (try simp only [Act.put, List.setIfInBounds_toArray, List.set_cons_zero, List.set_cons_succ])
                  refine wpAnyH_take (i := 6) (oi := { dst := some 48, op := Op.index 9 (Operand.tmp 45) (Operand.tmp 47), type := 5, pos := "headssafe.go:39", after := #[{ on := 3, ground := Ground.data }, { on := 5, ground := Ground.data }], guard := none }) (v := ?_) rfl (by kernel_rfl) (by kernel_rfl) (by kernel_rfl) (fun _ _ _ h => h) (Or.inl ⟨by rfl, ?_⟩) (by assumption) ?_
                  rotate_left
                  · intro wz hSz; (try dsimp only at hSz); go_simp; all_goals (with_reducible rfl)
                  (try simp only [Act.put, List.setIfInBounds_toArray, List.set_cons_zero, List.set_cons_succ])
                  refine wpAnyH_take (i := 7) (oi := { dst := some 49, op := Op.binOp BinOp.neq 5 (Operand.tmp 48) (Operand.const (Value.int IntKind.u8 114)) 5, type := 4, pos := "headssafe.go:39", after := #[{ on := 6, ground := Ground.data }], guard := none }) (v := ?_) rfl (by kernel_rfl) (by kernel_rfl) (by kernel_rfl) (fun _ _ _ h => h) (Or.inl ⟨by rfl, ?_⟩) (by assumption) ?_
                  rotate_left
                  · intro wz hSz; (try dsimp only at hSz); go_simp; all_goals (with_reducible rfl)
                  (try simp only [Act.put, List.setIfInBounds_toArray, List.set_cons_zero, List.set_cons_succ])
                  refine wpAnyH_take (i := 8) (oi := { dst := some 50, op := Op.move (Operand.tmp 49), type := 4, pos := "headssafe.go:39", after := #[{ on := 7, ground := Ground.data }], guard := none }) (v := ?_) rfl (by kernel_rfl) (by kernel_rfl) (by kernel_rfl) (fun _ _ _ h => h) (Or.inl ⟨by rfl, ?_⟩) (by assumption) ?_
                  rotate_left
                  · intro wz hSz; (try dsimp only at hSz); go_simp; all_goals (with_reducible rfl)
                  (try simp only [Act.put, List.setIfInBounds_toArray, List.set_cons_zero, List.set_cons_succ])
                  refine wpAnyH_take (i := 9) (oi := { dst := some 51, op := Op.move (Operand.tmp 7), type := 3, pos := "headssafe.go:39", after := #[{ on := 8, ground := Ground.guard }], guard := some (8, true) }) (v := undef) rfl (by kernel_rfl) (by kernel_rfl) (by kernel_rfl) (fun _ _ _ h => h) (Or.inr ⟨by rfl, rfl⟩) (by assumption) ?_
                  (try simp only [Act.put, List.setIfInBounds_toArray, List.set_cons_zero, List.set_cons_succ])
                  refine wpAnyH_take (i := 10) (oi := { dst := some 52, op := Op.move (Operand.tmp 5), type := 26, pos := "headssafe.go:39", after := #[{ on := 8, ground := Ground.guard }], guard := some (8, true) }) (v := undef) rfl (by kernel_rfl) (by kernel_rfl) (by kernel_rfl) (fun _ _ _ h => h) (Or.inr ⟨by rfl, rfl⟩) (by assumption) ?_
                  (try simp only [Act.put, List.setIfInBounds_toArray, List.set_cons_zero, List.set_cons_succ])
                  refine wpAnyH_take (i := 11) (oi := { dst := some 53, op := Op.fieldAddr 61 (Operand.tmp 9) 0, type := 0, pos := "headssafe.go:39", after := #[{ on := 8, ground := Ground.guard }], guard := some (8, true) }) (v := undef) rfl (by kernel_rfl) (by kernel_rfl) (by kernel_rfl) (fun _ _ _ h => h) (Or.inr ⟨by rfl, rfl⟩) (by assumption) ?_
                  (try simp only [Act.put, List.setIfInBounds_toArray, List.set_cons_zero, List.set_cons_succ])
                  refine wpAnyH_take (i := 12) (oi := { dst := some 54, op := Op.load 3 (Operand.tmp 53), type := 3, pos := "headssafe.go:39", after := #[{ on := 11, ground := Ground.data }, { on := 8, ground := Ground.guard }], guard := some (8, true) }) (v := undef) rfl (by kernel_rfl) (by kernel_rfl) (by kernel_rfl) (fun _ _ _ h => h) (Or.inr ⟨by rfl, rfl⟩) (by assumption) ?_
                  (try simp only [Act.put, List.setIfInBounds_toArray, List.set_cons_zero, List.set_cons_succ])
                  refine wpAnyH_take (i := 13) (oi := { dst := some 55, op := Op.indexAddr 26 (Operand.tmp 52) (Operand.tmp 54), type := 0, pos := "headssafe.go:39", after := #[{ on := 10, ground := Ground.data }, { on := 12, ground := Ground.data }, { on := 8, ground := Ground.guard }], guard := some (8, true) }) (v := undef) rfl (by kernel_rfl) (by kernel_rfl) (by kernel_rfl) (fun _ _ _ h => h) (Or.inr ⟨by rfl, rfl⟩) (by assumption) ?_
                  (try simp only [Act.put, List.setIfInBounds_toArray, List.set_cons_zero, List.set_cons_succ])
                  refine wpAnyH_take (i := 14) (oi := { dst := some 56, op := Op.load 3 (Operand.tmp 55), type := 3, pos := "headssafe.go:39", after := #[{ on := 13, ground := Ground.data }, { on := 8, ground := Ground.guard }], guard := some (8, true) }) (v := undef) rfl (by kernel_rfl) (by kernel_rfl) (by kernel_rfl) (fun _ _ _ h => h) (Or.inr ⟨by rfl, rfl⟩) (by assumption) ?_
                  (try simp only [Act.put, List.setIfInBounds_toArray, List.set_cons_zero, List.set_cons_succ])
                  refine wpAnyH_take (i := 15) (oi := { dst := some 57, op := Op.binOp BinOp.sub 3 (Operand.tmp 51) (Operand.tmp 56) 3, type := 3, pos := "headssafe.go:39", after := #[{ on := 9, ground := Ground.data }, { on := 14, ground := Ground.data }, { on := 8, ground := Ground.guard }], guard := some (8, true) }) (v := undef) rfl (by kernel_rfl) (by kernel_rfl) (by kernel_rfl) (fun _ _ _ h => h) (Or.inr ⟨by rfl, rfl⟩) (by assumption) ?_
                  (try simp only [Act.put, List.setIfInBounds_toArray, List.set_cons_zero, List.set_cons_succ])
                  refine wpAnyH_take (i := 16) (oi := { dst := some 58, op := Op.fieldAddr 61 (Operand.tmp 9) 2, type := 0, pos := "headssafe.go:39", after := #[{ on := 8, ground := Ground.guard }], guard := some (8, true) }) (v := undef) rfl (by kernel_rfl) (by kernel_rfl) (by kernel_rfl) (fun _ _ _ h => h) (Or.inr ⟨by rfl, rfl⟩) (by assumption) ?_
                  (try simp only [Act.put, List.setIfInBounds_toArray, List.set_cons_zero, List.set_cons_succ])
                  refine wpAnyH_take (i := 17) (oi := { dst := some 59, op := Op.load 3 (Operand.tmp 58), type := 3, pos := "headssafe.go:39", after := #[{ on := 16, ground := Ground.data }, { on := 8, ground := Ground.guard }], guard := some (8, true) }) (v := undef) rfl (by kernel_rfl) (by kernel_rfl) (by kernel_rfl) (fun _ _ _ h => h) (Or.inr ⟨by rfl, rfl⟩) (by assumption) ?_
                  (try simp only [Act.put, List.setIfInBounds_toArray, List.set_cons_zero, List.set_cons_succ])
                  refine wpAnyH_take (i := 18) (oi := { dst := some 60, op := Op.binOp BinOp.leq 3 (Operand.tmp 57) (Operand.tmp 59) 3, type := 4, pos := "headssafe.go:39", after := #[{ on := 15, ground := Ground.data }, { on := 17, ground := Ground.data }, { on := 8, ground := Ground.guard }], guard := some (8, true) }) (v := undef) rfl (by kernel_rfl) (by kernel_rfl) (by kernel_rfl) (fun _ _ _ h => h) (Or.inr ⟨by rfl, rfl⟩) (by assumption) ?_
                  (try simp only [Act.put, List.setIfInBounds_toArray, List.set_cons_zero, List.set_cons_succ])
                  refine wpAnyH_take (i := 19) (oi := { dst := some 61, op := Op.pick (Operand.tmp 50) (Operand.tmp 60) (Operand.const (Value.bool false)), type := 4, pos := "headssafe.go:39", after := #[{ on := 8, ground := Ground.data }, { on := 18, ground := Ground.data }], guard := none }) (v := ?_) rfl (by kernel_rfl) (by kernel_rfl) (by kernel_rfl) (fun _ _ _ h => h) (Or.inl ⟨by rfl, ?_⟩) (by assumption) ?_
                  rotate_left
                  · intro wz hSz; (try dsimp only at hSz); go_simp; all_goals (with_reducible rfl)
                  (try simp only [Act.put, List.setIfInBounds_toArray, List.set_cons_zero, List.set_cons_succ])
                  refine wpAnyH_done (by kernel_rfl) ?_ _
                  refine NoPanic.normal ?_
                  go_upto_region 15 with fail
                  refine wp_region_noPanic ?_
                  refine wp_region_held_drew (S := fun w' => w'.cell? ⟨q, j, none⟩ = some (.string s) ∧ (w'.cell? ⟨wr.heap.size, 0, none⟩ = some (.int .i64 xa) ∧ w'.cell? ⟨wr.heap.size, 1, none⟩ = some (.int .i64 xb) ∧ w'.cell? ⟨wr.heap.size, 2, none⟩ = some (.int .i64 xab) ∧ w'.cell? ⟨wr.heap.size, 3, none⟩ = some (.int .i64 xba)) ∧ w'.cell? ⟨w.heap.size + 1, xa.toNat, none⟩ = some (.int .i64 ya) ∧ w'.cell? ⟨w.heap.size + 1, xb.toNat, none⟩ = some (.int .i64 yb)) (by kernel_rfl) ?_ (fun hHeld => ?_)
                  · (try dsimp only)
                    exact ⟨c1, has4x CN.drew, c2, c3⟩
                  refine wpAnyH_take (i := 0) (oi := { dst := some 62, op := Op.move (Operand.tmp 1), type := 41, pos := "headssafe.go:42", after := #[], guard := none }) (v := ?_) rfl (by kernel_rfl) (by kernel_rfl) (by kernel_rfl) (fun _ _ _ h => h) (Or.inl ⟨by rfl, ?_⟩) (by assumption) ?_
                  rotate_left
                  · intro wz hSz; (try dsimp only at hSz); go_simp; all_goals (with_reducible rfl)
                  (try simp only [Act.put, List.setIfInBounds_toArray, List.set_cons_zero, List.set_cons_succ])
                  refine wpAnyH_take (i := 1) (oi := { dst := some 63, op := Op.move (Operand.tmp 7), type := 3, pos := "headssafe.go:42", after := #[], guard := none }) (v := ?_) rfl (by kernel_rfl) (by kernel_rfl) (by kernel_rfl) (fun _ _ _ h => h) (Or.inl ⟨by rfl, ?_⟩) (by assumption) ?_
                  rotate_left
                  · intro wz hSz; (try dsimp only at hSz); go_simp; all_goals (with_reducible rfl)
                  (try simp only [Act.put, List.setIfInBounds_toArray, List.set_cons_zero, List.set_cons_succ])
                  refine wpAnyH_take (i := 2) (oi := { dst := some 64, op := Op.indexAddr 41 (Operand.tmp 62) (Operand.tmp 63), type := 0, pos := "headssafe.go:42", after := #[{ on := 0, ground := Ground.data }, { on := 1, ground := Ground.data }], guard := none }) (v := ?_) rfl (by kernel_rfl) (by kernel_rfl) (by kernel_rfl) (fun _ _ _ h => h) (Or.inl ⟨by rfl, ?_⟩) (by assumption) ?_
                  rotate_left
                  · intro wz hSz; (try dsimp only at hSz); go_simp; all_goals (with_reducible rfl)
                  (try simp only [Act.put, List.setIfInBounds_toArray, List.set_cons_zero, List.set_cons_succ])
                  refine wpAnyH_take (i := 3) (oi := { dst := some 65, op := Op.load 9 (Operand.tmp 64), type := 9, pos := "headssafe.go:42", after := #[{ on := 2, ground := Ground.data }], guard := none }) (v := ?_) rfl (by kernel_rfl) (by kernel_rfl) (by kernel_rfl) (fun _ _ _ h => h) (Or.inl ⟨by rfl, ?_⟩) (by assumption) ?_
                  rotate_left
                  · intro wz hSz; (try dsimp only at hSz); go_simp; all_goals (with_reducible rfl)
                  (try simp only [Act.put, List.setIfInBounds_toArray, List.set_cons_zero, List.set_cons_succ])
                  refine wpAnyH_take (i := 4) (oi := { dst := some 66, op := Op.fieldAddr 61 (Operand.tmp 9) 0, type := 0, pos := "headssafe.go:42", after := #[], guard := none }) (v := ?_) rfl (by kernel_rfl) (by kernel_rfl) (by kernel_rfl) (fun _ _ _ h => h) (Or.inl ⟨by rfl, ?_⟩) (by assumption) ?_
                  rotate_left
                  · intro wz hSz; (try dsimp only at hSz); go_simp; all_goals (with_reducible rfl)
                  (try simp only [Act.put, List.setIfInBounds_toArray, List.set_cons_zero, List.set_cons_succ])
                  refine wpAnyH_take (i := 5) (oi := { dst := some 67, op := Op.load 3 (Operand.tmp 66), type := 3, pos := "headssafe.go:42", after := #[{ on := 4, ground := Ground.data }], guard := none }) (v := ?_) rfl (by kernel_rfl) (by kernel_rfl) (by kernel_rfl) (fun _ _ _ h => h) (Or.inl ⟨by rfl, ?_⟩) (by assumption) ?_
                  rotate_left
                  · intro wz hSz; (try dsimp only at hSz); go_simp; all_goals (with_reducible rfl)
                  (try simp only [Act.put, List.setIfInBounds_toArray, List.set_cons_zero, List.set_cons_succ])
                  refine wpAnyH_take (i := 6) (oi := { dst := some 68, op := Op.index 9 (Operand.tmp 65) (Operand.tmp 67), type := 5, pos := "headssafe.go:42", after := #[{ on := 3, ground := Ground.data }, { on := 5, ground := Ground.data }], guard := none }) (v := ?_) rfl (by kernel_rfl) (by kernel_rfl) (by kernel_rfl) (fun _ _ _ h => h) (Or.inl ⟨by rfl, ?_⟩) (by assumption) ?_
                  rotate_left
                  · intro wz hSz; (try dsimp only at hSz); go_simp; all_goals (with_reducible rfl)
                  (try simp only [Act.put, List.setIfInBounds_toArray, List.set_cons_zero, List.set_cons_succ])
                  refine wpAnyH_take (i := 7) (oi := { dst := some 69, op := Op.binOp BinOp.neq 5 (Operand.tmp 68) (Operand.const (Value.int IntKind.u8 114)) 5, type := 4, pos := "headssafe.go:42", after := #[{ on := 6, ground := Ground.data }], guard := none }) (v := ?_) rfl (by kernel_rfl) (by kernel_rfl) (by kernel_rfl) (fun _ _ _ h => h) (Or.inl ⟨by rfl, ?_⟩) (by assumption) ?_
                  rotate_left
                  · intro wz hSz; (try dsimp only at hSz); go_simp; all_goals (with_reducible rfl)
                  (try simp only [Act.put, List.setIfInBounds_toArray, List.set_cons_zero, List.set_cons_succ])
                  refine wpAnyH_take (i := 8) (oi := { dst := some 70, op := Op.move (Operand.tmp 69), type := 4, pos := "headssafe.go:42", after := #[{ on := 7, ground := Ground.data }], guard := none }) (v := ?_) rfl (by kernel_rfl) (by kernel_rfl) (by kernel_rfl) (fun _ _ _ h => h) (Or.inl ⟨by rfl, ?_⟩) (by assumption) ?_
                  rotate_left
                  · intro wz hSz; (try dsimp only at hSz); go_simp; all_goals (with_reducible rfl)
                  (try simp only [Act.put, List.setIfInBounds_toArray, List.set_cons_zero, List.set_cons_succ])
                  refine wpAnyH_take (i := 9) (oi := { dst := some 71, op := Op.move (Operand.tmp 7), type := 3, pos := "headssafe.go:42", after := #[{ on := 8, ground := Ground.guard }], guard := some (8, true) }) (v := undef) rfl (by kernel_rfl) (by kernel_rfl) (by kernel_rfl) (fun _ _ _ h => h) (Or.inr ⟨by rfl, rfl⟩) (by assumption) ?_
                  (try simp only [Act.put, List.setIfInBounds_toArray, List.set_cons_zero, List.set_cons_succ])
                  refine wpAnyH_take (i := 10) (oi := { dst := some 72, op := Op.move (Operand.tmp 5), type := 26, pos := "headssafe.go:42", after := #[{ on := 8, ground := Ground.guard }], guard := some (8, true) }) (v := undef) rfl (by kernel_rfl) (by kernel_rfl) (by kernel_rfl) (fun _ _ _ h => h) (Or.inr ⟨by rfl, rfl⟩) (by assumption) ?_
                  (try simp only [Act.put, List.setIfInBounds_toArray, List.set_cons_zero, List.set_cons_succ])
                  refine wpAnyH_take (i := 11) (oi := { dst := some 73, op := Op.fieldAddr 61 (Operand.tmp 9) 1, type := 0, pos := "headssafe.go:42", after := #[{ on := 8, ground := Ground.guard }], guard := some (8, true) }) (v := undef) rfl (by kernel_rfl) (by kernel_rfl) (by kernel_rfl) (fun _ _ _ h => h) (Or.inr ⟨by rfl, rfl⟩) (by assumption) ?_
                  (try simp only [Act.put, List.setIfInBounds_toArray, List.set_cons_zero, List.set_cons_succ])
                  refine wpAnyH_take (i := 12) (oi := { dst := some 74, op := Op.load 3 (Operand.tmp 73), type := 3, pos := "headssafe.go:42", after := #[{ on := 11, ground := Ground.data }, { on := 8, ground := Ground.guard }], guard := some (8, true) }) (v := undef) rfl (by kernel_rfl) (by kernel_rfl) (by kernel_rfl) (fun _ _ _ h => h) (Or.inr ⟨by rfl, rfl⟩) (by assumption) ?_
                  (try simp only [Act.put, List.setIfInBounds_toArray, List.set_cons_zero, List.set_cons_succ])
                  refine wpAnyH_take (i := 13) (oi := { dst := some 75, op := Op.indexAddr 26 (Operand.tmp 72) (Operand.tmp 74), type := 0, pos := "headssafe.go:42", after := #[{ on := 10, ground := Ground.data }, { on := 12, ground := Ground.data }, { on := 8, ground := Ground.guard }], guard := some (8, true) }) (v := undef) rfl (by kernel_rfl) (by kernel_rfl) (by kernel_rfl) (fun _ _ _ h => h) (Or.inr ⟨by rfl, rfl⟩) (by assumption) ?_
                  (try simp only [Act.put, List.setIfInBounds_toArray, List.set_cons_zero, List.set_cons_succ])
                  refine wpAnyH_take (i := 14) (oi := { dst := some 76, op := Op.load 3 (Operand.tmp 75), type := 3, pos := "headssafe.go:42", after := #[{ on := 13, ground := Ground.data }, { on := 8, ground := Ground.guard }], guard := some (8, true) }) (v := undef) rfl (by kernel_rfl) (by kernel_rfl) (by kernel_rfl) (fun _ _ _ h => h) (Or.inr ⟨by rfl, rfl⟩) (by assumption) ?_
                  (try simp only [Act.put, List.setIfInBounds_toArray, List.set_cons_zero, List.set_cons_succ])
                  refine wpAnyH_take (i := 15) (oi := { dst := some 77, op := Op.binOp BinOp.sub 3 (Operand.tmp 71) (Operand.tmp 76) 3, type := 3, pos := "headssafe.go:42", after := #[{ on := 9, ground := Ground.data }, { on := 14, ground := Ground.data }, { on := 8, ground := Ground.guard }], guard := some (8, true) }) (v := undef) rfl (by kernel_rfl) (by kernel_rfl) (by kernel_rfl) (fun _ _ _ h => h) (Or.inr ⟨by rfl, rfl⟩) (by assumption) ?_
                  (try simp only [Act.put, List.setIfInBounds_toArray, List.set_cons_zero, List.set_cons_succ])
                  refine wpAnyH_take (i := 16) (oi := { dst := some 78, op := Op.fieldAddr 61 (Operand.tmp 9) 3, type := 0, pos := "headssafe.go:42", after := #[{ on := 8, ground := Ground.guard }], guard := some (8, true) }) (v := undef) rfl (by kernel_rfl) (by kernel_rfl) (by kernel_rfl) (fun _ _ _ h => h) (Or.inr ⟨by rfl, rfl⟩) (by assumption) ?_
                  (try simp only [Act.put, List.setIfInBounds_toArray, List.set_cons_zero, List.set_cons_succ])
                  refine wpAnyH_take (i := 17) (oi := { dst := some 79, op := Op.load 3 (Operand.tmp 78), type := 3, pos := "headssafe.go:42", after := #[{ on := 16, ground := Ground.data }, { on := 8, ground := Ground.guard }], guard := some (8, true) }) (v := undef) rfl (by kernel_rfl) (by kernel_rfl) (by kernel_rfl) (fun _ _ _ h => h) (Or.inr ⟨by rfl, rfl⟩) (by assumption) ?_
                  (try simp only [Act.put, List.setIfInBounds_toArray, List.set_cons_zero, List.set_cons_succ])
                  refine wpAnyH_take (i := 18) (oi := { dst := some 80, op := Op.binOp BinOp.leq 3 (Operand.tmp 77) (Operand.tmp 79) 3, type := 4, pos := "headssafe.go:42", after := #[{ on := 15, ground := Ground.data }, { on := 17, ground := Ground.data }, { on := 8, ground := Ground.guard }], guard := some (8, true) }) (v := undef) rfl (by kernel_rfl) (by kernel_rfl) (by kernel_rfl) (fun _ _ _ h => h) (Or.inr ⟨by rfl, rfl⟩) (by assumption) ?_
                  (try simp only [Act.put, List.setIfInBounds_toArray, List.set_cons_zero, List.set_cons_succ])
                  refine wpAnyH_take (i := 19) (oi := { dst := some 81, op := Op.pick (Operand.tmp 70) (Operand.tmp 80) (Operand.const (Value.bool false)), type := 4, pos := "headssafe.go:42", after := #[{ on := 8, ground := Ground.data }, { on := 18, ground := Ground.data }], guard := none }) (v := ?_) rfl (by kernel_rfl) (by kernel_rfl) (by kernel_rfl) (fun _ _ _ h => h) (Or.inl ⟨by rfl, ?_⟩) (by assumption) ?_
                  rotate_left
                  · intro wz hSz; (try dsimp only at hSz); go_simp; all_goals (with_reducible rfl)
                  (try simp only [Act.put, List.setIfInBounds_toArray, List.set_cons_zero, List.set_cons_succ])
                  refine wpAnyH_done (by kernel_rfl) ?_ _
                  refine NoPanic.normal ?_
                  go_wp2_with fail
                  go_roundw
                  case rel => exact ⟨i + 1, by omega, by go_num, oN.drew.drew, BN.drew.drew, hbN.drew.drew⟩
                  case measure => simp [intOf]; omega
                · have ga : ¬ (j : Int) - yb ≤ xba := by have := ra za; omega
                  have na : ¬ (s[xa.toNat]'(by omega)).toNat = 114 := fun h => za (let_0 fa (qa.symm.trans h))
                  have da : ¬ ((s[xa.toNat]'(by omega)).toNat : Int) = 114 := by omega
                  have Da : (((s[xa.toNat]'(by omega)).toNat : Int) == 114) = false := by simpa using da
                  have Ea : (((s[xa.toNat]'(by omega)).toNat : Int) != 114) = true := by simpa using da
                  clear qa
                  clear ra rb fa fb za zb
                  refine wp_region_noPanic ?_
                  refine wp_region_held_drew (S := fun w' => w'.cell? ⟨q, j, none⟩ = some (.string s) ∧ (w'.cell? ⟨wr.heap.size, 0, none⟩ = some (.int .i64 xa) ∧ w'.cell? ⟨wr.heap.size, 1, none⟩ = some (.int .i64 xb) ∧ w'.cell? ⟨wr.heap.size, 2, none⟩ = some (.int .i64 xab) ∧ w'.cell? ⟨wr.heap.size, 3, none⟩ = some (.int .i64 xba)) ∧ w'.cell? ⟨w.heap.size + 1, xa.toNat, none⟩ = some (.int .i64 ya) ∧ w'.cell? ⟨w.heap.size + 1, xb.toNat, none⟩ = some (.int .i64 yb)) (by kernel_rfl) ?_ (fun hHeld => ?_)
                  · (try dsimp only)
                    exact ⟨c1, has4x CN.drew, c2, c3⟩
                  refine wpAnyH_take (i := 0) (oi := { dst := some 42, op := Op.move (Operand.tmp 1), type := 41, pos := "headssafe.go:39", after := #[], guard := none }) (v := ?_) rfl (by kernel_rfl) (by kernel_rfl) (by kernel_rfl) (fun _ _ _ h => h) (Or.inl ⟨by rfl, ?_⟩) (by assumption) ?_
                  rotate_left
                  · intro wz hSz; (try dsimp only at hSz); go_simp; all_goals (with_reducible rfl)
                  (try simp only [Act.put, List.setIfInBounds_toArray, List.set_cons_zero, List.set_cons_succ])
                  refine wpAnyH_take (i := 1) (oi := { dst := some 43, op := Op.move (Operand.tmp 7), type := 3, pos := "headssafe.go:39", after := #[], guard := none }) (v := ?_) rfl (by kernel_rfl) (by kernel_rfl) (by kernel_rfl) (fun _ _ _ h => h) (Or.inl ⟨by rfl, ?_⟩) (by assumption) ?_
                  rotate_left
                  · intro wz hSz; (try dsimp only at hSz); go_simp; all_goals (with_reducible rfl)
                  (try simp only [Act.put, List.setIfInBounds_toArray, List.set_cons_zero, List.set_cons_succ])
                  refine wpAnyH_take (i := 2) (oi := { dst := some 44, op := Op.indexAddr 41 (Operand.tmp 42) (Operand.tmp 43), type := 0, pos := "headssafe.go:39", after := #[{ on := 0, ground := Ground.data }, { on := 1, ground := Ground.data }], guard := none }) (v := ?_) rfl (by kernel_rfl) (by kernel_rfl) (by kernel_rfl) (fun _ _ _ h => h) (Or.inl ⟨by rfl, ?_⟩) (by assumption) ?_
                  rotate_left
                  · intro wz hSz; (try dsimp only at hSz); go_simp; all_goals (with_reducible rfl)
                  (try simp only [Act.put, List.setIfInBounds_toArray, List.set_cons_zero, List.set_cons_succ])
                  refine wpAnyH_take (i := 3) (oi := { dst := some 45, op := Op.load 9 (Operand.tmp 44), type := 9, pos := "headssafe.go:39", after := #[{ on := 2, ground := Ground.data }], guard := none }) (v := ?_) rfl (by kernel_rfl) (by kernel_rfl) (by kernel_rfl) (fun _ _ _ h => h) (Or.inl ⟨by rfl, ?_⟩) (by assumption) ?_
                  rotate_left
                  · intro wz hSz; (try dsimp only at hSz); go_simp; all_goals (with_reducible rfl)
                  (try simp only [Act.put, List.setIfInBounds_toArray, List.set_cons_zero, List.set_cons_succ])
                  refine wpAnyH_take (i := 4) (oi := { dst := some 46, op := Op.fieldAddr 61 (Operand.tmp 9) 1, type := 0, pos := "headssafe.go:39", after := #[], guard := none }) (v := ?_) rfl (by kernel_rfl) (by kernel_rfl) (by kernel_rfl) (fun _ _ _ h => h) (Or.inl ⟨by rfl, ?_⟩) (by assumption) ?_
                  rotate_left
                  · intro wz hSz; (try dsimp only at hSz); go_simp; all_goals (with_reducible rfl)
                  (try simp only [Act.put, List.setIfInBounds_toArray, List.set_cons_zero, List.set_cons_succ])
                  refine wpAnyH_take (i := 5) (oi := { dst := some 47, op := Op.load 3 (Operand.tmp 46), type := 3, pos := "headssafe.go:39", after := #[{ on := 4, ground := Ground.data }], guard := none }) (v := ?_) rfl (by kernel_rfl) (by kernel_rfl) (by kernel_rfl) (fun _ _ _ h => h) (Or.inl ⟨by rfl, ?_⟩) (by assumption) ?_
                  rotate_left
                  · intro wz hSz; (try dsimp only at hSz); go_simp; all_goals (with_reducible rfl)
                  (try simp only [Act.put, List.setIfInBounds_toArray, List.set_cons_zero, List.set_cons_succ])
                  refine wpAnyH_take (i := 6) (oi := { dst := some 48, op := Op.index 9 (Operand.tmp 45) (Operand.tmp 47), type := 5, pos := "headssafe.go:39", after := #[{ on := 3, ground := Ground.data }, { on := 5, ground := Ground.data }], guard := none }) (v := ?_) rfl (by kernel_rfl) (by kernel_rfl) (by kernel_rfl) (fun _ _ _ h => h) (Or.inl ⟨by rfl, ?_⟩) (by assumption) ?_
                  rotate_left
                  · intro wz hSz; (try dsimp only at hSz); go_simp; all_goals (with_reducible rfl)
                  (try simp only [Act.put, List.setIfInBounds_toArray, List.set_cons_zero, List.set_cons_succ])
                  refine wpAnyH_take (i := 7) (oi := { dst := some 49, op := Op.binOp BinOp.neq 5 (Operand.tmp 48) (Operand.const (Value.int IntKind.u8 114)) 5, type := 4, pos := "headssafe.go:39", after := #[{ on := 6, ground := Ground.data }], guard := none }) (v := ?_) rfl (by kernel_rfl) (by kernel_rfl) (by kernel_rfl) (fun _ _ _ h => h) (Or.inl ⟨by rfl, ?_⟩) (by assumption) ?_
                  rotate_left
                  · intro wz hSz; (try dsimp only at hSz); go_simp; all_goals (with_reducible rfl)
                  (try simp only [Act.put, List.setIfInBounds_toArray, List.set_cons_zero, List.set_cons_succ])
                  refine wpAnyH_take (i := 8) (oi := { dst := some 50, op := Op.move (Operand.tmp 49), type := 4, pos := "headssafe.go:39", after := #[{ on := 7, ground := Ground.data }], guard := none }) (v := ?_) rfl (by kernel_rfl) (by kernel_rfl) (by kernel_rfl) (fun _ _ _ h => h) (Or.inl ⟨by rfl, ?_⟩) (by assumption) ?_
                  rotate_left
                  · intro wz hSz; (try dsimp only at hSz); go_simp; all_goals (with_reducible rfl)
                  (try simp only [Act.put, List.setIfInBounds_toArray, List.set_cons_zero, List.set_cons_succ])
                  refine wpAnyH_take (i := 9) (oi := { dst := some 51, op := Op.move (Operand.tmp 7), type := 3, pos := "headssafe.go:39", after := #[{ on := 8, ground := Ground.guard }], guard := some (8, true) }) (v := undef) rfl (by kernel_rfl) (by kernel_rfl) (by kernel_rfl) (fun _ _ _ h => h) (Or.inr ⟨by rfl, rfl⟩) (by assumption) ?_
                  (try simp only [Act.put, List.setIfInBounds_toArray, List.set_cons_zero, List.set_cons_succ])
                  refine wpAnyH_take (i := 10) (oi := { dst := some 52, op := Op.move (Operand.tmp 5), type := 26, pos := "headssafe.go:39", after := #[{ on := 8, ground := Ground.guard }], guard := some (8, true) }) (v := undef) rfl (by kernel_rfl) (by kernel_rfl) (by kernel_rfl) (fun _ _ _ h => h) (Or.inr ⟨by rfl, rfl⟩) (by assumption) ?_
                  (try simp only [Act.put, List.setIfInBounds_toArray, List.set_cons_zero, List.set_cons_succ])
                  refine wpAnyH_take (i := 11) (oi := { dst := some 53, op := Op.fieldAddr 61 (Operand.tmp 9) 0, type := 0, pos := "headssafe.go:39", after := #[{ on := 8, ground := Ground.guard }], guard := some (8, true) }) (v := undef) rfl (by kernel_rfl) (by kernel_rfl) (by kernel_rfl) (fun _ _ _ h => h) (Or.inr ⟨by rfl, rfl⟩) (by assumption) ?_
                  (try simp only [Act.put, List.setIfInBounds_toArray, List.set_cons_zero, List.set_cons_succ])
                  refine wpAnyH_take (i := 12) (oi := { dst := some 54, op := Op.load 3 (Operand.tmp 53), type := 3, pos := "headssafe.go:39", after := #[{ on := 11, ground := Ground.data }, { on := 8, ground := Ground.guard }], guard := some (8, true) }) (v := undef) rfl (by kernel_rfl) (by kernel_rfl) (by kernel_rfl) (fun _ _ _ h => h) (Or.inr ⟨by rfl, rfl⟩) (by assumption) ?_
                  (try simp only [Act.put, List.setIfInBounds_toArray, List.set_cons_zero, List.set_cons_succ])
                  refine wpAnyH_take (i := 13) (oi := { dst := some 55, op := Op.indexAddr 26 (Operand.tmp 52) (Operand.tmp 54), type := 0, pos := "headssafe.go:39", after := #[{ on := 10, ground := Ground.data }, { on := 12, ground := Ground.data }, { on := 8, ground := Ground.guard }], guard := some (8, true) }) (v := undef) rfl (by kernel_rfl) (by kernel_rfl) (by kernel_rfl) (fun _ _ _ h => h) (Or.inr ⟨by rfl, rfl⟩) (by assumption) ?_
                  (try simp only [Act.put, List.setIfInBounds_toArray, List.set_cons_zero, List.set_cons_succ])
                  refine wpAnyH_take (i := 14) (oi := { dst := some 56, op := Op.load 3 (Operand.tmp 55), type := 3, pos := "headssafe.go:39", after := #[{ on := 13, ground := Ground.data }, { on := 8, ground := Ground.guard }], guard := some (8, true) }) (v := undef) rfl (by kernel_rfl) (by kernel_rfl) (by kernel_rfl) (fun _ _ _ h => h) (Or.inr ⟨by rfl, rfl⟩) (by assumption) ?_
                  (try simp only [Act.put, List.setIfInBounds_toArray, List.set_cons_zero, List.set_cons_succ])
                  refine wpAnyH_take (i := 15) (oi := { dst := some 57, op := Op.binOp BinOp.sub 3 (Operand.tmp 51) (Operand.tmp 56) 3, type := 3, pos := "headssafe.go:39", after := #[{ on := 9, ground := Ground.data }, { on := 14, ground := Ground.data }, { on := 8, ground := Ground.guard }], guard := some (8, true) }) (v := undef) rfl (by kernel_rfl) (by kernel_rfl) (by kernel_rfl) (fun _ _ _ h => h) (Or.inr ⟨by rfl, rfl⟩) (by assumption) ?_
                  (try simp only [Act.put, List.setIfInBounds_toArray, List.set_cons_zero, List.set_cons_succ])
                  refine wpAnyH_take (i := 16) (oi := { dst := some 58, op := Op.fieldAddr 61 (Operand.tmp 9) 2, type := 0, pos := "headssafe.go:39", after := #[{ on := 8, ground := Ground.guard }], guard := some (8, true) }) (v := undef) rfl (by kernel_rfl) (by kernel_rfl) (by kernel_rfl) (fun _ _ _ h => h) (Or.inr ⟨by rfl, rfl⟩) (by assumption) ?_
                  (try simp only [Act.put, List.setIfInBounds_toArray, List.set_cons_zero, List.set_cons_succ])
                  refine wpAnyH_take (i := 17) (oi := { dst := some 59, op := Op.load 3 (Operand.tmp 58), type := 3, pos := "headssafe.go:39", after := #[{ on := 16, ground := Ground.data }, { on := 8, ground := Ground.guard }], guard := some (8, true) }) (v := undef) rfl (by kernel_rfl) (by kernel_rfl) (by kernel_rfl) (fun _ _ _ h => h) (Or.inr ⟨by rfl, rfl⟩) (by assumption) ?_
                  (try simp only [Act.put, List.setIfInBounds_toArray, List.set_cons_zero, List.set_cons_succ])
                  refine wpAnyH_take (i := 18) (oi := { dst := some 60, op := Op.binOp BinOp.leq 3 (Operand.tmp 57) (Operand.tmp 59) 3, type := 4, pos := "headssafe.go:39", after := #[{ on := 15, ground := Ground.data }, { on := 17, ground := Ground.data }, { on := 8, ground := Ground.guard }], guard := some (8, true) }) (v := undef) rfl (by kernel_rfl) (by kernel_rfl) (by kernel_rfl) (fun _ _ _ h => h) (Or.inr ⟨by rfl, rfl⟩) (by assumption) ?_
                  (try simp only [Act.put, List.setIfInBounds_toArray, List.set_cons_zero, List.set_cons_succ])
                  refine wpAnyH_take (i := 19) (oi := { dst := some 61, op := Op.pick (Operand.tmp 50) (Operand.tmp 60) (Operand.const (Value.bool false)), type := 4, pos := "headssafe.go:39", after := #[{ on := 8, ground := Ground.data }, { on := 18, ground := Ground.data }], guard := none }) (v := ?_) rfl (by kernel_rfl) (by kernel_rfl) (by kernel_rfl) (fun _ _ _ h => h) (Or.inl ⟨by rfl, ?_⟩) (by assumption) ?_
                  rotate_left
                  · intro wz hSz; (try dsimp only at hSz); go_simp; all_goals (with_reducible rfl)
                  (try simp only [Act.put, List.setIfInBounds_toArray, List.set_cons_zero, List.set_cons_succ])
                  refine wpAnyH_done (by kernel_rfl) ?_ _
                  refine NoPanic.normal ?_
                  go_upto_region 15 with fail
                  refine wp_region_noPanic ?_
                  refine wp_region_held_drew (S := fun w' => w'.cell? ⟨q, j, none⟩ = some (.string s) ∧ (w'.cell? ⟨wr.heap.size, 0, none⟩ = some (.int .i64 xa) ∧ w'.cell? ⟨wr.heap.size, 1, none⟩ = some (.int .i64 xb) ∧ w'.cell? ⟨wr.heap.size, 2, none⟩ = some (.int .i64 xab) ∧ w'.cell? ⟨wr.heap.size, 3, none⟩ = some (.int .i64 xba)) ∧ w'.cell? ⟨w.heap.size + 1, xa.toNat, none⟩ = some (.int .i64 ya) ∧ w'.cell? ⟨w.heap.size + 1, xb.toNat, none⟩ = some (.int .i64 yb)) (by kernel_rfl) ?_ (fun hHeld => ?_)
                  · (try dsimp only)
                    exact ⟨c1, has4x CN.drew, c2, c3⟩
                  refine wpAnyH_take (i := 0) (oi := { dst := some 62, op := Op.move (Operand.tmp 1), type := 41, pos := "headssafe.go:42", after := #[], guard := none }) (v := ?_) rfl (by kernel_rfl) (by kernel_rfl) (by kernel_rfl) (fun _ _ _ h => h) (Or.inl ⟨by rfl, ?_⟩) (by assumption) ?_
                  rotate_left
                  · intro wz hSz; (try dsimp only at hSz); go_simp; all_goals (with_reducible rfl)
                  (try simp only [Act.put, List.setIfInBounds_toArray, List.set_cons_zero, List.set_cons_succ])
                  refine wpAnyH_take (i := 1) (oi := { dst := some 63, op := Op.move (Operand.tmp 7), type := 3, pos := "headssafe.go:42", after := #[], guard := none }) (v := ?_) rfl (by kernel_rfl) (by kernel_rfl) (by kernel_rfl) (fun _ _ _ h => h) (Or.inl ⟨by rfl, ?_⟩) (by assumption) ?_
                  rotate_left
                  · intro wz hSz; (try dsimp only at hSz); go_simp; all_goals (with_reducible rfl)
                  (try simp only [Act.put, List.setIfInBounds_toArray, List.set_cons_zero, List.set_cons_succ])
                  refine wpAnyH_take (i := 2) (oi := { dst := some 64, op := Op.indexAddr 41 (Operand.tmp 62) (Operand.tmp 63), type := 0, pos := "headssafe.go:42", after := #[{ on := 0, ground := Ground.data }, { on := 1, ground := Ground.data }], guard := none }) (v := ?_) rfl (by kernel_rfl) (by kernel_rfl) (by kernel_rfl) (fun _ _ _ h => h) (Or.inl ⟨by rfl, ?_⟩) (by assumption) ?_
                  rotate_left
                  · intro wz hSz; (try dsimp only at hSz); go_simp; all_goals (with_reducible rfl)
                  (try simp only [Act.put, List.setIfInBounds_toArray, List.set_cons_zero, List.set_cons_succ])
                  refine wpAnyH_take (i := 3) (oi := { dst := some 65, op := Op.load 9 (Operand.tmp 64), type := 9, pos := "headssafe.go:42", after := #[{ on := 2, ground := Ground.data }], guard := none }) (v := ?_) rfl (by kernel_rfl) (by kernel_rfl) (by kernel_rfl) (fun _ _ _ h => h) (Or.inl ⟨by rfl, ?_⟩) (by assumption) ?_
                  rotate_left
                  · intro wz hSz; (try dsimp only at hSz); go_simp; all_goals (with_reducible rfl)
                  (try simp only [Act.put, List.setIfInBounds_toArray, List.set_cons_zero, List.set_cons_succ])
                  refine wpAnyH_take (i := 4) (oi := { dst := some 66, op := Op.fieldAddr 61 (Operand.tmp 9) 0, type := 0, pos := "headssafe.go:42", after := #[], guard := none }) (v := ?_) rfl (by kernel_rfl) (by kernel_rfl) (by kernel_rfl) (fun _ _ _ h => h) (Or.inl ⟨by rfl, ?_⟩) (by assumption) ?_
                  rotate_left
                  · intro wz hSz; (try dsimp only at hSz); go_simp; all_goals (with_reducible rfl)
                  (try simp only [Act.put, List.setIfInBounds_toArray, List.set_cons_zero, List.set_cons_succ])
                  refine wpAnyH_take (i := 5) (oi := { dst := some 67, op := Op.load 3 (Operand.tmp 66), type := 3, pos := "headssafe.go:42", after := #[{ on := 4, ground := Ground.data }], guard := none }) (v := ?_) rfl (by kernel_rfl) (by kernel_rfl) (by kernel_rfl) (fun _ _ _ h => h) (Or.inl ⟨by rfl, ?_⟩) (by assumption) ?_
                  rotate_left
                  · intro wz hSz; (try dsimp only at hSz); go_simp; all_goals (with_reducible rfl)
                  (try simp only [Act.put, List.setIfInBounds_toArray, List.set_cons_zero, List.set_cons_succ])
                  refine wpAnyH_take (i := 6) (oi := { dst := some 68, op := Op.index 9 (Operand.tmp 65) (Operand.tmp 67), type := 5, pos := "headssafe.go:42", after := #[{ on := 3, ground := Ground.data }, { on := 5, ground := Ground.data }], guard := none }) (v := ?_) rfl (by kernel_rfl) (by kernel_rfl) (by kernel_rfl) (fun _ _ _ h => h) (Or.inl ⟨by rfl, ?_⟩) (by assumption) ?_
                  rotate_left
                  · intro wz hSz; (try dsimp only at hSz); go_simp; all_goals (with_reducible rfl)
                  (try simp only [Act.put, List.setIfInBounds_toArray, List.set_cons_zero, List.set_cons_succ])
                  refine wpAnyH_take (i := 7) (oi := { dst := some 69, op := Op.binOp BinOp.neq 5 (Operand.tmp 68) (Operand.const (Value.int IntKind.u8 114)) 5, type := 4, pos := "headssafe.go:42", after := #[{ on := 6, ground := Ground.data }], guard := none }) (v := ?_) rfl (by kernel_rfl) (by kernel_rfl) (by kernel_rfl) (fun _ _ _ h => h) (Or.inl ⟨by rfl, ?_⟩) (by assumption) ?_
                  rotate_left
                  · intro wz hSz; (try dsimp only at hSz); go_simp; all_goals (with_reducible rfl)
                  (try simp only [Act.put, List.setIfInBounds_toArray, List.set_cons_zero, List.set_cons_succ])
                  refine wpAnyH_take (i := 8) (oi := { dst := some 70, op := Op.move (Operand.tmp 69), type := 4, pos := "headssafe.go:42", after := #[{ on := 7, ground := Ground.data }], guard := none }) (v := ?_) rfl (by kernel_rfl) (by kernel_rfl) (by kernel_rfl) (fun _ _ _ h => h) (Or.inl ⟨by rfl, ?_⟩) (by assumption) ?_
                  rotate_left
                  · intro wz hSz; (try dsimp only at hSz); go_simp; all_goals (with_reducible rfl)
                  (try simp only [Act.put, List.setIfInBounds_toArray, List.set_cons_zero, List.set_cons_succ])
                  refine wpAnyH_take (i := 9) (oi := { dst := some 71, op := Op.move (Operand.tmp 7), type := 3, pos := "headssafe.go:42", after := #[{ on := 8, ground := Ground.guard }], guard := some (8, true) }) (v := ?_) rfl (by kernel_rfl) (by kernel_rfl) (by kernel_rfl) (fun _ _ _ h => h) (Or.inl ⟨by rfl, ?_⟩) (by assumption) ?_
                  rotate_left
                  · intro wz hSz; (try dsimp only at hSz); go_simp; all_goals (with_reducible rfl)
                  (try simp only [Act.put, List.setIfInBounds_toArray, List.set_cons_zero, List.set_cons_succ])
                  refine wpAnyH_take (i := 10) (oi := { dst := some 72, op := Op.move (Operand.tmp 5), type := 26, pos := "headssafe.go:42", after := #[{ on := 8, ground := Ground.guard }], guard := some (8, true) }) (v := ?_) rfl (by kernel_rfl) (by kernel_rfl) (by kernel_rfl) (fun _ _ _ h => h) (Or.inl ⟨by rfl, ?_⟩) (by assumption) ?_
                  rotate_left
                  · intro wz hSz; (try dsimp only at hSz); go_simp; all_goals (with_reducible rfl)
                  (try simp only [Act.put, List.setIfInBounds_toArray, List.set_cons_zero, List.set_cons_succ])
                  refine wpAnyH_take (i := 11) (oi := { dst := some 73, op := Op.fieldAddr 61 (Operand.tmp 9) 1, type := 0, pos := "headssafe.go:42", after := #[{ on := 8, ground := Ground.guard }], guard := some (8, true) }) (v := ?_) rfl (by kernel_rfl) (by kernel_rfl) (by kernel_rfl) (fun _ _ _ h => h) (Or.inl ⟨by rfl, ?_⟩) (by assumption) ?_
                  rotate_left
                  · intro wz hSz; (try dsimp only at hSz); go_simp; all_goals (with_reducible rfl)
                  (try simp only [Act.put, List.setIfInBounds_toArray, List.set_cons_zero, List.set_cons_succ])
                  refine wpAnyH_take (i := 12) (oi := { dst := some 74, op := Op.load 3 (Operand.tmp 73), type := 3, pos := "headssafe.go:42", after := #[{ on := 11, ground := Ground.data }, { on := 8, ground := Ground.guard }], guard := some (8, true) }) (v := ?_) rfl (by kernel_rfl) (by kernel_rfl) (by kernel_rfl) (fun _ _ _ h => h) (Or.inl ⟨by rfl, ?_⟩) (by assumption) ?_
                  rotate_left
                  · intro wz hSz; (try dsimp only at hSz); go_simp; all_goals (with_reducible rfl)
                  (try simp only [Act.put, List.setIfInBounds_toArray, List.set_cons_zero, List.set_cons_succ])
                  refine wpAnyH_take (i := 13) (oi := { dst := some 75, op := Op.indexAddr 26 (Operand.tmp 72) (Operand.tmp 74), type := 0, pos := "headssafe.go:42", after := #[{ on := 10, ground := Ground.data }, { on := 12, ground := Ground.data }, { on := 8, ground := Ground.guard }], guard := some (8, true) }) (v := ?_) rfl (by kernel_rfl) (by kernel_rfl) (by kernel_rfl) (fun _ _ _ h => h) (Or.inl ⟨by rfl, ?_⟩) (by assumption) ?_
                  rotate_left
                  · intro wz hSz; (try dsimp only at hSz); go_simp; all_goals (with_reducible rfl)
                  (try simp only [Act.put, List.setIfInBounds_toArray, List.set_cons_zero, List.set_cons_succ])
                  refine wpAnyH_take (i := 14) (oi := { dst := some 76, op := Op.load 3 (Operand.tmp 75), type := 3, pos := "headssafe.go:42", after := #[{ on := 13, ground := Ground.data }, { on := 8, ground := Ground.guard }], guard := some (8, true) }) (v := ?_) rfl (by kernel_rfl) (by kernel_rfl) (by kernel_rfl) (fun _ _ _ h => h) (Or.inl ⟨by rfl, ?_⟩) (by assumption) ?_
                  rotate_left
                  · intro wz hSz; (try dsimp only at hSz); go_simp; all_goals (with_reducible rfl)
                  (try simp only [Act.put, List.setIfInBounds_toArray, List.set_cons_zero, List.set_cons_succ])
                  refine wpAnyH_take (i := 15) (oi := { dst := some 77, op := Op.binOp BinOp.sub 3 (Operand.tmp 71) (Operand.tmp 76) 3, type := 3, pos := "headssafe.go:42", after := #[{ on := 9, ground := Ground.data }, { on := 14, ground := Ground.data }, { on := 8, ground := Ground.guard }], guard := some (8, true) }) (v := ?_) rfl (by kernel_rfl) (by kernel_rfl) (by kernel_rfl) (fun _ _ _ h => h) (Or.inl ⟨by rfl, ?_⟩) (by assumption) ?_
                  rotate_left
                  · intro wz hSz; (try dsimp only at hSz); go_simp; all_goals (with_reducible rfl)
                  (try simp only [Act.put, List.setIfInBounds_toArray, List.set_cons_zero, List.set_cons_succ])
                  refine wpAnyH_take (i := 16) (oi := { dst := some 78, op := Op.fieldAddr 61 (Operand.tmp 9) 3, type := 0, pos := "headssafe.go:42", after := #[{ on := 8, ground := Ground.guard }], guard := some (8, true) }) (v := ?_) rfl (by kernel_rfl) (by kernel_rfl) (by kernel_rfl) (fun _ _ _ h => h) (Or.inl ⟨by rfl, ?_⟩) (by assumption) ?_
                  rotate_left
                  · intro wz hSz; (try dsimp only at hSz); go_simp; all_goals (with_reducible rfl)
                  (try simp only [Act.put, List.setIfInBounds_toArray, List.set_cons_zero, List.set_cons_succ])
                  refine wpAnyH_take (i := 17) (oi := { dst := some 79, op := Op.load 3 (Operand.tmp 78), type := 3, pos := "headssafe.go:42", after := #[{ on := 16, ground := Ground.data }, { on := 8, ground := Ground.guard }], guard := some (8, true) }) (v := ?_) rfl (by kernel_rfl) (by kernel_rfl) (by kernel_rfl) (fun _ _ _ h => h) (Or.inl ⟨by rfl, ?_⟩) (by assumption) ?_
                  rotate_left
                  · intro wz hSz; (try dsimp only at hSz); go_simp; all_goals (with_reducible rfl)
                  (try simp only [Act.put, List.setIfInBounds_toArray, List.set_cons_zero, List.set_cons_succ])
                  refine wpAnyH_take (i := 18) (oi := { dst := some 80, op := Op.binOp BinOp.leq 3 (Operand.tmp 77) (Operand.tmp 79) 3, type := 4, pos := "headssafe.go:42", after := #[{ on := 15, ground := Ground.data }, { on := 17, ground := Ground.data }, { on := 8, ground := Ground.guard }], guard := some (8, true) }) (v := ?_) rfl (by kernel_rfl) (by kernel_rfl) (by kernel_rfl) (fun _ _ _ h => h) (Or.inl ⟨by rfl, ?_⟩) (by assumption) ?_
                  rotate_left
                  · intro wz hSz; (try dsimp only at hSz); go_simp; all_goals (with_reducible rfl)
                  (try simp only [Act.put, List.setIfInBounds_toArray, List.set_cons_zero, List.set_cons_succ])
                  refine wpAnyH_take (i := 19) (oi := { dst := some 81, op := Op.pick (Operand.tmp 70) (Operand.tmp 80) (Operand.const (Value.bool false)), type := 4, pos := "headssafe.go:42", after := #[{ on := 8, ground := Ground.data }, { on := 18, ground := Ground.data }], guard := none }) (v := ?_) rfl (by kernel_rfl) (by kernel_rfl) (by kernel_rfl) (fun _ _ _ h => h) (Or.inl ⟨by rfl, ?_⟩) (by assumption) ?_
                  rotate_left
                  · intro wz hSz; (try dsimp only at hSz); go_simp; all_goals (with_reducible rfl)
                  (try simp only [Act.put, List.setIfInBounds_toArray, List.set_cons_zero, List.set_cons_succ])
                  refine wpAnyH_done (by kernel_rfl) ?_ _
                  refine NoPanic.normal ?_
                  go_wp2_with fail
                  go_roundw
                  case rel => exact ⟨i + 1, by omega, by go_num, oN.drew.drew, BN.drew.drew, hbN.drew.drew⟩
                  case measure => simp [intOf]; omega
              · have gb : ¬ (j : Int) - ya ≤ xab := by have := rb zb; omega
                have nb : ¬ (s[xb.toNat]'(by omega)).toNat = 114 := fun h => zb (let_0 fb (qb.symm.trans h))
                have db : ¬ ((s[xb.toNat]'(by omega)).toNat : Int) = 114 := by omega
                have Db : (((s[xb.toNat]'(by omega)).toNat : Int) == 114) = false := by simpa using db
                have Eb : (((s[xb.toNat]'(by omega)).toNat : Int) != 114) = true := by simpa using db
                clear qb
                by_cases za : f j xa.toNat = 0
                · rw [za, let0] at qa
                  clear ra rb fa fb za zb
                  refine wp_region_noPanic ?_
                  refine wp_region_held_drew (S := fun w' => w'.cell? ⟨q, j, none⟩ = some (.string s) ∧ (w'.cell? ⟨wr.heap.size, 0, none⟩ = some (.int .i64 xa) ∧ w'.cell? ⟨wr.heap.size, 1, none⟩ = some (.int .i64 xb) ∧ w'.cell? ⟨wr.heap.size, 2, none⟩ = some (.int .i64 xab) ∧ w'.cell? ⟨wr.heap.size, 3, none⟩ = some (.int .i64 xba)) ∧ w'.cell? ⟨w.heap.size + 1, xa.toNat, none⟩ = some (.int .i64 ya) ∧ w'.cell? ⟨w.heap.size + 1, xb.toNat, none⟩ = some (.int .i64 yb)) (by kernel_rfl) ?_ (fun hHeld => ?_)
                  · (try dsimp only)
                    exact ⟨c1, has4x CN.drew, c2, c3⟩
                  refine wpAnyH_take (i := 0) (oi := { dst := some 42, op := Op.move (Operand.tmp 1), type := 41, pos := "headssafe.go:39", after := #[], guard := none }) (v := ?_) rfl (by kernel_rfl) (by kernel_rfl) (by kernel_rfl) (fun _ _ _ h => h) (Or.inl ⟨by rfl, ?_⟩) (by assumption) ?_
                  rotate_left
                  · intro wz hSz; (try dsimp only at hSz); go_simp; all_goals (with_reducible rfl)
                  (try simp only [Act.put, List.setIfInBounds_toArray, List.set_cons_zero, List.set_cons_succ])
                  refine wpAnyH_take (i := 1) (oi := { dst := some 43, op := Op.move (Operand.tmp 7), type := 3, pos := "headssafe.go:39", after := #[], guard := none }) (v := ?_) rfl (by kernel_rfl) (by kernel_rfl) (by kernel_rfl) (fun _ _ _ h => h) (Or.inl ⟨by rfl, ?_⟩) (by assumption) ?_
                  rotate_left
                  · intro wz hSz; (try dsimp only at hSz); go_simp; all_goals (with_reducible rfl)
                  (try simp only [Act.put, List.setIfInBounds_toArray, List.set_cons_zero, List.set_cons_succ])
                  refine wpAnyH_take (i := 2) (oi := { dst := some 44, op := Op.indexAddr 41 (Operand.tmp 42) (Operand.tmp 43), type := 0, pos := "headssafe.go:39", after := #[{ on := 0, ground := Ground.data }, { on := 1, ground := Ground.data }], guard := none }) (v := ?_) rfl (by kernel_rfl) (by kernel_rfl) (by kernel_rfl) (fun _ _ _ h => h) (Or.inl ⟨by rfl, ?_⟩) (by assumption) ?_
                  rotate_left
                  · intro wz hSz; (try dsimp only at hSz); go_simp; all_goals (with_reducible rfl)
                  (try simp only [Act.put, List.setIfInBounds_toArray, List.set_cons_zero, List.set_cons_succ])
                  refine wpAnyH_take (i := 3) (oi := { dst := some 45, op := Op.load 9 (Operand.tmp 44), type := 9, pos := "headssafe.go:39", after := #[{ on := 2, ground := Ground.data }], guard := none }) (v := ?_) rfl (by kernel_rfl) (by kernel_rfl) (by kernel_rfl) (fun _ _ _ h => h) (Or.inl ⟨by rfl, ?_⟩) (by assumption) ?_
                  rotate_left
                  · intro wz hSz; (try dsimp only at hSz); go_simp; all_goals (with_reducible rfl)
                  (try simp only [Act.put, List.setIfInBounds_toArray, List.set_cons_zero, List.set_cons_succ])
                  refine wpAnyH_take (i := 4) (oi := { dst := some 46, op := Op.fieldAddr 61 (Operand.tmp 9) 1, type := 0, pos := "headssafe.go:39", after := #[], guard := none }) (v := ?_) rfl (by kernel_rfl) (by kernel_rfl) (by kernel_rfl) (fun _ _ _ h => h) (Or.inl ⟨by rfl, ?_⟩) (by assumption) ?_
                  rotate_left
                  · intro wz hSz; (try dsimp only at hSz); go_simp; all_goals (with_reducible rfl)
                  (try simp only [Act.put, List.setIfInBounds_toArray, List.set_cons_zero, List.set_cons_succ])
                  refine wpAnyH_take (i := 5) (oi := { dst := some 47, op := Op.load 3 (Operand.tmp 46), type := 3, pos := "headssafe.go:39", after := #[{ on := 4, ground := Ground.data }], guard := none }) (v := ?_) rfl (by kernel_rfl) (by kernel_rfl) (by kernel_rfl) (fun _ _ _ h => h) (Or.inl ⟨by rfl, ?_⟩) (by assumption) ?_
                  rotate_left
                  · intro wz hSz; (try dsimp only at hSz); go_simp; all_goals (with_reducible rfl)
                  (try simp only [Act.put, List.setIfInBounds_toArray, List.set_cons_zero, List.set_cons_succ])
                  refine wpAnyH_take (i := 6) (oi := { dst := some 48, op := Op.index 9 (Operand.tmp 45) (Operand.tmp 47), type := 5, pos := "headssafe.go:39", after := #[{ on := 3, ground := Ground.data }, { on := 5, ground := Ground.data }], guard := none }) (v := ?_) rfl (by kernel_rfl) (by kernel_rfl) (by kernel_rfl) (fun _ _ _ h => h) (Or.inl ⟨by rfl, ?_⟩) (by assumption) ?_
                  rotate_left
                  · intro wz hSz; (try dsimp only at hSz); go_simp; all_goals (with_reducible rfl)
                  (try simp only [Act.put, List.setIfInBounds_toArray, List.set_cons_zero, List.set_cons_succ])
                  refine wpAnyH_take (i := 7) (oi := { dst := some 49, op := Op.binOp BinOp.neq 5 (Operand.tmp 48) (Operand.const (Value.int IntKind.u8 114)) 5, type := 4, pos := "headssafe.go:39", after := #[{ on := 6, ground := Ground.data }], guard := none }) (v := ?_) rfl (by kernel_rfl) (by kernel_rfl) (by kernel_rfl) (fun _ _ _ h => h) (Or.inl ⟨by rfl, ?_⟩) (by assumption) ?_
                  rotate_left
                  · intro wz hSz; (try dsimp only at hSz); go_simp; all_goals (with_reducible rfl)
                  (try simp only [Act.put, List.setIfInBounds_toArray, List.set_cons_zero, List.set_cons_succ])
                  refine wpAnyH_take (i := 8) (oi := { dst := some 50, op := Op.move (Operand.tmp 49), type := 4, pos := "headssafe.go:39", after := #[{ on := 7, ground := Ground.data }], guard := none }) (v := ?_) rfl (by kernel_rfl) (by kernel_rfl) (by kernel_rfl) (fun _ _ _ h => h) (Or.inl ⟨by rfl, ?_⟩) (by assumption) ?_
                  rotate_left
                  · intro wz hSz; (try dsimp only at hSz); go_simp; all_goals (with_reducible rfl)
                  (try simp only [Act.put, List.setIfInBounds_toArray, List.set_cons_zero, List.set_cons_succ])
                  refine wpAnyH_take (i := 9) (oi := { dst := some 51, op := Op.move (Operand.tmp 7), type := 3, pos := "headssafe.go:39", after := #[{ on := 8, ground := Ground.guard }], guard := some (8, true) }) (v := ?_) rfl (by kernel_rfl) (by kernel_rfl) (by kernel_rfl) (fun _ _ _ h => h) (Or.inl ⟨by rfl, ?_⟩) (by assumption) ?_
                  rotate_left
                  · intro wz hSz; (try dsimp only at hSz); go_simp; all_goals (with_reducible rfl)
                  (try simp only [Act.put, List.setIfInBounds_toArray, List.set_cons_zero, List.set_cons_succ])
                  refine wpAnyH_take (i := 10) (oi := { dst := some 52, op := Op.move (Operand.tmp 5), type := 26, pos := "headssafe.go:39", after := #[{ on := 8, ground := Ground.guard }], guard := some (8, true) }) (v := ?_) rfl (by kernel_rfl) (by kernel_rfl) (by kernel_rfl) (fun _ _ _ h => h) (Or.inl ⟨by rfl, ?_⟩) (by assumption) ?_
                  rotate_left
                  · intro wz hSz; (try dsimp only at hSz); go_simp; all_goals (with_reducible rfl)
                  (try simp only [Act.put, List.setIfInBounds_toArray, List.set_cons_zero, List.set_cons_succ])
                  refine wpAnyH_take (i := 11) (oi := { dst := some 53, op := Op.fieldAddr 61 (Operand.tmp 9) 0, type := 0, pos := "headssafe.go:39", after := #[{ on := 8, ground := Ground.guard }], guard := some (8, true) }) (v := ?_) rfl (by kernel_rfl) (by kernel_rfl) (by kernel_rfl) (fun _ _ _ h => h) (Or.inl ⟨by rfl, ?_⟩) (by assumption) ?_
                  rotate_left
                  · intro wz hSz; (try dsimp only at hSz); go_simp; all_goals (with_reducible rfl)
                  (try simp only [Act.put, List.setIfInBounds_toArray, List.set_cons_zero, List.set_cons_succ])
                  refine wpAnyH_take (i := 12) (oi := { dst := some 54, op := Op.load 3 (Operand.tmp 53), type := 3, pos := "headssafe.go:39", after := #[{ on := 11, ground := Ground.data }, { on := 8, ground := Ground.guard }], guard := some (8, true) }) (v := ?_) rfl (by kernel_rfl) (by kernel_rfl) (by kernel_rfl) (fun _ _ _ h => h) (Or.inl ⟨by rfl, ?_⟩) (by assumption) ?_
                  rotate_left
                  · intro wz hSz; (try dsimp only at hSz); go_simp; all_goals (with_reducible rfl)
                  (try simp only [Act.put, List.setIfInBounds_toArray, List.set_cons_zero, List.set_cons_succ])
                  refine wpAnyH_take (i := 13) (oi := { dst := some 55, op := Op.indexAddr 26 (Operand.tmp 52) (Operand.tmp 54), type := 0, pos := "headssafe.go:39", after := #[{ on := 10, ground := Ground.data }, { on := 12, ground := Ground.data }, { on := 8, ground := Ground.guard }], guard := some (8, true) }) (v := ?_) rfl (by kernel_rfl) (by kernel_rfl) (by kernel_rfl) (fun _ _ _ h => h) (Or.inl ⟨by rfl, ?_⟩) (by assumption) ?_
                  rotate_left
                  · intro wz hSz; (try dsimp only at hSz); go_simp; all_goals (with_reducible rfl)
                  (try simp only [Act.put, List.setIfInBounds_toArray, List.set_cons_zero, List.set_cons_succ])
                  refine wpAnyH_take (i := 14) (oi := { dst := some 56, op := Op.load 3 (Operand.tmp 55), type := 3, pos := "headssafe.go:39", after := #[{ on := 13, ground := Ground.data }, { on := 8, ground := Ground.guard }], guard := some (8, true) }) (v := ?_) rfl (by kernel_rfl) (by kernel_rfl) (by kernel_rfl) (fun _ _ _ h => h) (Or.inl ⟨by rfl, ?_⟩) (by assumption) ?_
                  rotate_left
                  · intro wz hSz; (try dsimp only at hSz); go_simp; all_goals (with_reducible rfl)
                  (try simp only [Act.put, List.setIfInBounds_toArray, List.set_cons_zero, List.set_cons_succ])
                  refine wpAnyH_take (i := 15) (oi := { dst := some 57, op := Op.binOp BinOp.sub 3 (Operand.tmp 51) (Operand.tmp 56) 3, type := 3, pos := "headssafe.go:39", after := #[{ on := 9, ground := Ground.data }, { on := 14, ground := Ground.data }, { on := 8, ground := Ground.guard }], guard := some (8, true) }) (v := ?_) rfl (by kernel_rfl) (by kernel_rfl) (by kernel_rfl) (fun _ _ _ h => h) (Or.inl ⟨by rfl, ?_⟩) (by assumption) ?_
                  rotate_left
                  · intro wz hSz; (try dsimp only at hSz); go_simp; all_goals (with_reducible rfl)
                  (try simp only [Act.put, List.setIfInBounds_toArray, List.set_cons_zero, List.set_cons_succ])
                  refine wpAnyH_take (i := 16) (oi := { dst := some 58, op := Op.fieldAddr 61 (Operand.tmp 9) 2, type := 0, pos := "headssafe.go:39", after := #[{ on := 8, ground := Ground.guard }], guard := some (8, true) }) (v := ?_) rfl (by kernel_rfl) (by kernel_rfl) (by kernel_rfl) (fun _ _ _ h => h) (Or.inl ⟨by rfl, ?_⟩) (by assumption) ?_
                  rotate_left
                  · intro wz hSz; (try dsimp only at hSz); go_simp; all_goals (with_reducible rfl)
                  (try simp only [Act.put, List.setIfInBounds_toArray, List.set_cons_zero, List.set_cons_succ])
                  refine wpAnyH_take (i := 17) (oi := { dst := some 59, op := Op.load 3 (Operand.tmp 58), type := 3, pos := "headssafe.go:39", after := #[{ on := 16, ground := Ground.data }, { on := 8, ground := Ground.guard }], guard := some (8, true) }) (v := ?_) rfl (by kernel_rfl) (by kernel_rfl) (by kernel_rfl) (fun _ _ _ h => h) (Or.inl ⟨by rfl, ?_⟩) (by assumption) ?_
                  rotate_left
                  · intro wz hSz; (try dsimp only at hSz); go_simp; all_goals (with_reducible rfl)
                  (try simp only [Act.put, List.setIfInBounds_toArray, List.set_cons_zero, List.set_cons_succ])
                  refine wpAnyH_take (i := 18) (oi := { dst := some 60, op := Op.binOp BinOp.leq 3 (Operand.tmp 57) (Operand.tmp 59) 3, type := 4, pos := "headssafe.go:39", after := #[{ on := 15, ground := Ground.data }, { on := 17, ground := Ground.data }, { on := 8, ground := Ground.guard }], guard := some (8, true) }) (v := ?_) rfl (by kernel_rfl) (by kernel_rfl) (by kernel_rfl) (fun _ _ _ h => h) (Or.inl ⟨by rfl, ?_⟩) (by assumption) ?_
                  rotate_left
                  · intro wz hSz; (try dsimp only at hSz); go_simp; all_goals (with_reducible rfl)
                  (try simp only [Act.put, List.setIfInBounds_toArray, List.set_cons_zero, List.set_cons_succ])
                  refine wpAnyH_take (i := 19) (oi := { dst := some 61, op := Op.pick (Operand.tmp 50) (Operand.tmp 60) (Operand.const (Value.bool false)), type := 4, pos := "headssafe.go:39", after := #[{ on := 8, ground := Ground.data }, { on := 18, ground := Ground.data }], guard := none }) (v := ?_) rfl (by kernel_rfl) (by kernel_rfl) (by kernel_rfl) (fun _ _ _ h => h) (Or.inl ⟨by rfl, ?_⟩) (by assumption) ?_
                  rotate_left
                  · intro wz hSz; (try dsimp only at hSz); go_simp; all_goals (with_reducible rfl)
                  (try simp only [Act.put, List.setIfInBounds_toArray, List.set_cons_zero, List.set_cons_succ])
                  refine wpAnyH_done (by kernel_rfl) ?_ _
                  refine NoPanic.normal ?_
                  go_upto_region 15 with fail
                  refine wp_region_noPanic ?_
                  refine wp_region_held_drew (S := fun w' => w'.cell? ⟨q, j, none⟩ = some (.string s) ∧ (w'.cell? ⟨wr.heap.size, 0, none⟩ = some (.int .i64 xa) ∧ w'.cell? ⟨wr.heap.size, 1, none⟩ = some (.int .i64 xb) ∧ w'.cell? ⟨wr.heap.size, 2, none⟩ = some (.int .i64 xab) ∧ w'.cell? ⟨wr.heap.size, 3, none⟩ = some (.int .i64 xba)) ∧ w'.cell? ⟨w.heap.size + 1, xa.toNat, none⟩ = some (.int .i64 ya) ∧ w'.cell? ⟨w.heap.size + 1, xb.toNat, none⟩ = some (.int .i64 yb)) (by kernel_rfl) ?_ (fun hHeld => ?_)
                  · (try dsimp only)
                    exact ⟨c1, has4x CN.drew, c2, c3⟩
                  refine wpAnyH_take (i := 0) (oi := { dst := some 62, op := Op.move (Operand.tmp 1), type := 41, pos := "headssafe.go:42", after := #[], guard := none }) (v := ?_) rfl (by kernel_rfl) (by kernel_rfl) (by kernel_rfl) (fun _ _ _ h => h) (Or.inl ⟨by rfl, ?_⟩) (by assumption) ?_
                  rotate_left
                  · intro wz hSz; (try dsimp only at hSz); go_simp; all_goals (with_reducible rfl)
                  (try simp only [Act.put, List.setIfInBounds_toArray, List.set_cons_zero, List.set_cons_succ])
                  refine wpAnyH_take (i := 1) (oi := { dst := some 63, op := Op.move (Operand.tmp 7), type := 3, pos := "headssafe.go:42", after := #[], guard := none }) (v := ?_) rfl (by kernel_rfl) (by kernel_rfl) (by kernel_rfl) (fun _ _ _ h => h) (Or.inl ⟨by rfl, ?_⟩) (by assumption) ?_
                  rotate_left
                  · intro wz hSz; (try dsimp only at hSz); go_simp; all_goals (with_reducible rfl)
                  (try simp only [Act.put, List.setIfInBounds_toArray, List.set_cons_zero, List.set_cons_succ])
                  refine wpAnyH_take (i := 2) (oi := { dst := some 64, op := Op.indexAddr 41 (Operand.tmp 62) (Operand.tmp 63), type := 0, pos := "headssafe.go:42", after := #[{ on := 0, ground := Ground.data }, { on := 1, ground := Ground.data }], guard := none }) (v := ?_) rfl (by kernel_rfl) (by kernel_rfl) (by kernel_rfl) (fun _ _ _ h => h) (Or.inl ⟨by rfl, ?_⟩) (by assumption) ?_
                  rotate_left
                  · intro wz hSz; (try dsimp only at hSz); go_simp; all_goals (with_reducible rfl)
                  (try simp only [Act.put, List.setIfInBounds_toArray, List.set_cons_zero, List.set_cons_succ])
                  refine wpAnyH_take (i := 3) (oi := { dst := some 65, op := Op.load 9 (Operand.tmp 64), type := 9, pos := "headssafe.go:42", after := #[{ on := 2, ground := Ground.data }], guard := none }) (v := ?_) rfl (by kernel_rfl) (by kernel_rfl) (by kernel_rfl) (fun _ _ _ h => h) (Or.inl ⟨by rfl, ?_⟩) (by assumption) ?_
                  rotate_left
                  · intro wz hSz; (try dsimp only at hSz); go_simp; all_goals (with_reducible rfl)
                  (try simp only [Act.put, List.setIfInBounds_toArray, List.set_cons_zero, List.set_cons_succ])
                  refine wpAnyH_take (i := 4) (oi := { dst := some 66, op := Op.fieldAddr 61 (Operand.tmp 9) 0, type := 0, pos := "headssafe.go:42", after := #[], guard := none }) (v := ?_) rfl (by kernel_rfl) (by kernel_rfl) (by kernel_rfl) (fun _ _ _ h => h) (Or.inl ⟨by rfl, ?_⟩) (by assumption) ?_
                  rotate_left
                  · intro wz hSz; (try dsimp only at hSz); go_simp; all_goals (with_reducible rfl)
                  (try simp only [Act.put, List.setIfInBounds_toArray, List.set_cons_zero, List.set_cons_succ])
                  refine wpAnyH_take (i := 5) (oi := { dst := some 67, op := Op.load 3 (Operand.tmp 66), type := 3, pos := "headssafe.go:42", after := #[{ on := 4, ground := Ground.data }], guard := none }) (v := ?_) rfl (by kernel_rfl) (by kernel_rfl) (by kernel_rfl) (fun _ _ _ h => h) (Or.inl ⟨by rfl, ?_⟩) (by assumption) ?_
                  rotate_left
                  · intro wz hSz; (try dsimp only at hSz); go_simp; all_goals (with_reducible rfl)
                  (try simp only [Act.put, List.setIfInBounds_toArray, List.set_cons_zero, List.set_cons_succ])
                  refine wpAnyH_take (i := 6) (oi := { dst := some 68, op := Op.index 9 (Operand.tmp 65) (Operand.tmp 67), type := 5, pos := "headssafe.go:42", after := #[{ on := 3, ground := Ground.data }, { on := 5, ground := Ground.data }], guard := none }) (v := ?_) rfl (by kernel_rfl) (by kernel_rfl) (by kernel_rfl) (fun _ _ _ h => h) (Or.inl ⟨by rfl, ?_⟩) (by assumption) ?_
                  rotate_left
                  · intro wz hSz; (try dsimp only at hSz); go_simp; all_goals (with_reducible rfl)
                  (try simp only [Act.put, List.setIfInBounds_toArray, List.set_cons_zero, List.set_cons_succ])
                  refine wpAnyH_take (i := 7) (oi := { dst := some 69, op := Op.binOp BinOp.neq 5 (Operand.tmp 68) (Operand.const (Value.int IntKind.u8 114)) 5, type := 4, pos := "headssafe.go:42", after := #[{ on := 6, ground := Ground.data }], guard := none }) (v := ?_) rfl (by kernel_rfl) (by kernel_rfl) (by kernel_rfl) (fun _ _ _ h => h) (Or.inl ⟨by rfl, ?_⟩) (by assumption) ?_
                  rotate_left
                  · intro wz hSz; (try dsimp only at hSz); go_simp; all_goals (with_reducible rfl)
                  (try simp only [Act.put, List.setIfInBounds_toArray, List.set_cons_zero, List.set_cons_succ])
                  refine wpAnyH_take (i := 8) (oi := { dst := some 70, op := Op.move (Operand.tmp 69), type := 4, pos := "headssafe.go:42", after := #[{ on := 7, ground := Ground.data }], guard := none }) (v := ?_) rfl (by kernel_rfl) (by kernel_rfl) (by kernel_rfl) (fun _ _ _ h => h) (Or.inl ⟨by rfl, ?_⟩) (by assumption) ?_
                  rotate_left
                  · intro wz hSz; (try dsimp only at hSz); go_simp; all_goals (with_reducible rfl)
                  (try simp only [Act.put, List.setIfInBounds_toArray, List.set_cons_zero, List.set_cons_succ])
                  refine wpAnyH_take (i := 9) (oi := { dst := some 71, op := Op.move (Operand.tmp 7), type := 3, pos := "headssafe.go:42", after := #[{ on := 8, ground := Ground.guard }], guard := some (8, true) }) (v := undef) rfl (by kernel_rfl) (by kernel_rfl) (by kernel_rfl) (fun _ _ _ h => h) (Or.inr ⟨by rfl, rfl⟩) (by assumption) ?_
                  (try simp only [Act.put, List.setIfInBounds_toArray, List.set_cons_zero, List.set_cons_succ])
                  refine wpAnyH_take (i := 10) (oi := { dst := some 72, op := Op.move (Operand.tmp 5), type := 26, pos := "headssafe.go:42", after := #[{ on := 8, ground := Ground.guard }], guard := some (8, true) }) (v := undef) rfl (by kernel_rfl) (by kernel_rfl) (by kernel_rfl) (fun _ _ _ h => h) (Or.inr ⟨by rfl, rfl⟩) (by assumption) ?_
                  (try simp only [Act.put, List.setIfInBounds_toArray, List.set_cons_zero, List.set_cons_succ])
                  refine wpAnyH_take (i := 11) (oi := { dst := some 73, op := Op.fieldAddr 61 (Operand.tmp 9) 1, type := 0, pos := "headssafe.go:42", after := #[{ on := 8, ground := Ground.guard }], guard := some (8, true) }) (v := undef) rfl (by kernel_rfl) (by kernel_rfl) (by kernel_rfl) (fun _ _ _ h => h) (Or.inr ⟨by rfl, rfl⟩) (by assumption) ?_
                  (try simp only [Act.put, List.setIfInBounds_toArray, List.set_cons_zero, List.set_cons_succ])
                  refine wpAnyH_take (i := 12) (oi := { dst := some 74, op := Op.load 3 (Operand.tmp 73), type := 3, pos := "headssafe.go:42", after := #[{ on := 11, ground := Ground.data }, { on := 8, ground := Ground.guard }], guard := some (8, true) }) (v := undef) rfl (by kernel_rfl) (by kernel_rfl) (by kernel_rfl) (fun _ _ _ h => h) (Or.inr ⟨by rfl, rfl⟩) (by assumption) ?_
                  (try simp only [Act.put, List.setIfInBounds_toArray, List.set_cons_zero, List.set_cons_succ])
                  refine wpAnyH_take (i := 13) (oi := { dst := some 75, op := Op.indexAddr 26 (Operand.tmp 72) (Operand.tmp 74), type := 0, pos := "headssafe.go:42", after := #[{ on := 10, ground := Ground.data }, { on := 12, ground := Ground.data }, { on := 8, ground := Ground.guard }], guard := some (8, true) }) (v := undef) rfl (by kernel_rfl) (by kernel_rfl) (by kernel_rfl) (fun _ _ _ h => h) (Or.inr ⟨by rfl, rfl⟩) (by assumption) ?_
                  (try simp only [Act.put, List.setIfInBounds_toArray, List.set_cons_zero, List.set_cons_succ])
                  refine wpAnyH_take (i := 14) (oi := { dst := some 76, op := Op.load 3 (Operand.tmp 75), type := 3, pos := "headssafe.go:42", after := #[{ on := 13, ground := Ground.data }, { on := 8, ground := Ground.guard }], guard := some (8, true) }) (v := undef) rfl (by kernel_rfl) (by kernel_rfl) (by kernel_rfl) (fun _ _ _ h => h) (Or.inr ⟨by rfl, rfl⟩) (by assumption) ?_
                  (try simp only [Act.put, List.setIfInBounds_toArray, List.set_cons_zero, List.set_cons_succ])
                  refine wpAnyH_take (i := 15) (oi := { dst := some 77, op := Op.binOp BinOp.sub 3 (Operand.tmp 71) (Operand.tmp 76) 3, type := 3, pos := "headssafe.go:42", after := #[{ on := 9, ground := Ground.data }, { on := 14, ground := Ground.data }, { on := 8, ground := Ground.guard }], guard := some (8, true) }) (v := undef) rfl (by kernel_rfl) (by kernel_rfl) (by kernel_rfl) (fun _ _ _ h => h) (Or.inr ⟨by rfl, rfl⟩) (by assumption) ?_
                  (try simp only [Act.put, List.setIfInBounds_toArray, List.set_cons_zero, List.set_cons_succ])
                  refine wpAnyH_take (i := 16) (oi := { dst := some 78, op := Op.fieldAddr 61 (Operand.tmp 9) 3, type := 0, pos := "headssafe.go:42", after := #[{ on := 8, ground := Ground.guard }], guard := some (8, true) }) (v := undef) rfl (by kernel_rfl) (by kernel_rfl) (by kernel_rfl) (fun _ _ _ h => h) (Or.inr ⟨by rfl, rfl⟩) (by assumption) ?_
                  (try simp only [Act.put, List.setIfInBounds_toArray, List.set_cons_zero, List.set_cons_succ])
                  refine wpAnyH_take (i := 17) (oi := { dst := some 79, op := Op.load 3 (Operand.tmp 78), type := 3, pos := "headssafe.go:42", after := #[{ on := 16, ground := Ground.data }, { on := 8, ground := Ground.guard }], guard := some (8, true) }) (v := undef) rfl (by kernel_rfl) (by kernel_rfl) (by kernel_rfl) (fun _ _ _ h => h) (Or.inr ⟨by rfl, rfl⟩) (by assumption) ?_
                  (try simp only [Act.put, List.setIfInBounds_toArray, List.set_cons_zero, List.set_cons_succ])
                  refine wpAnyH_take (i := 18) (oi := { dst := some 80, op := Op.binOp BinOp.leq 3 (Operand.tmp 77) (Operand.tmp 79) 3, type := 4, pos := "headssafe.go:42", after := #[{ on := 15, ground := Ground.data }, { on := 17, ground := Ground.data }, { on := 8, ground := Ground.guard }], guard := some (8, true) }) (v := undef) rfl (by kernel_rfl) (by kernel_rfl) (by kernel_rfl) (fun _ _ _ h => h) (Or.inr ⟨by rfl, rfl⟩) (by assumption) ?_
                  (try simp only [Act.put, List.setIfInBounds_toArray, List.set_cons_zero, List.set_cons_succ])
                  refine wpAnyH_take (i := 19) (oi := { dst := some 81, op := Op.pick (Operand.tmp 70) (Operand.tmp 80) (Operand.const (Value.bool false)), type := 4, pos := "headssafe.go:42", after := #[{ on := 8, ground := Ground.data }, { on := 18, ground := Ground.data }], guard := none }) (v := ?_) rfl (by kernel_rfl) (by kernel_rfl) (by kernel_rfl) (fun _ _ _ h => h) (Or.inl ⟨by rfl, ?_⟩) (by assumption) ?_
                  rotate_left
                  · intro wz hSz; (try dsimp only at hSz); go_simp; all_goals (with_reducible rfl)
                  (try simp only [Act.put, List.setIfInBounds_toArray, List.set_cons_zero, List.set_cons_succ])
                  refine wpAnyH_done (by kernel_rfl) ?_ _
                  refine NoPanic.normal ?_
                  go_wp2_with fail
                  go_roundw
                  case rel => exact ⟨i + 1, by omega, by go_num, oN.drew.drew, BN.drew.drew, hbN.drew.drew⟩
                  case measure => simp [intOf]; omega
                · have ga : ¬ (j : Int) - yb ≤ xba := by have := ra za; omega
                  have na : ¬ (s[xa.toNat]'(by omega)).toNat = 114 := fun h => za (let_0 fa (qa.symm.trans h))
                  have da : ¬ ((s[xa.toNat]'(by omega)).toNat : Int) = 114 := by omega
                  have Da : (((s[xa.toNat]'(by omega)).toNat : Int) == 114) = false := by simpa using da
                  have Ea : (((s[xa.toNat]'(by omega)).toNat : Int) != 114) = true := by simpa using da
                  clear qa
                  clear ra rb fa fb za zb
                  refine wp_region_noPanic ?_
                  refine wp_region_held_drew (S := fun w' => w'.cell? ⟨q, j, none⟩ = some (.string s) ∧ (w'.cell? ⟨wr.heap.size, 0, none⟩ = some (.int .i64 xa) ∧ w'.cell? ⟨wr.heap.size, 1, none⟩ = some (.int .i64 xb) ∧ w'.cell? ⟨wr.heap.size, 2, none⟩ = some (.int .i64 xab) ∧ w'.cell? ⟨wr.heap.size, 3, none⟩ = some (.int .i64 xba)) ∧ w'.cell? ⟨w.heap.size + 1, xa.toNat, none⟩ = some (.int .i64 ya) ∧ w'.cell? ⟨w.heap.size + 1, xb.toNat, none⟩ = some (.int .i64 yb)) (by kernel_rfl) ?_ (fun hHeld => ?_)
                  · (try dsimp only)
                    exact ⟨c1, has4x CN.drew, c2, c3⟩
                  refine wpAnyH_take (i := 0) (oi := { dst := some 42, op := Op.move (Operand.tmp 1), type := 41, pos := "headssafe.go:39", after := #[], guard := none }) (v := ?_) rfl (by kernel_rfl) (by kernel_rfl) (by kernel_rfl) (fun _ _ _ h => h) (Or.inl ⟨by rfl, ?_⟩) (by assumption) ?_
                  rotate_left
                  · intro wz hSz; (try dsimp only at hSz); go_simp; all_goals (with_reducible rfl)
                  (try simp only [Act.put, List.setIfInBounds_toArray, List.set_cons_zero, List.set_cons_succ])
                  refine wpAnyH_take (i := 1) (oi := { dst := some 43, op := Op.move (Operand.tmp 7), type := 3, pos := "headssafe.go:39", after := #[], guard := none }) (v := ?_) rfl (by kernel_rfl) (by kernel_rfl) (by kernel_rfl) (fun _ _ _ h => h) (Or.inl ⟨by rfl, ?_⟩) (by assumption) ?_
                  rotate_left
                  · intro wz hSz; (try dsimp only at hSz); go_simp; all_goals (with_reducible rfl)
                  (try simp only [Act.put, List.setIfInBounds_toArray, List.set_cons_zero, List.set_cons_succ])
                  refine wpAnyH_take (i := 2) (oi := { dst := some 44, op := Op.indexAddr 41 (Operand.tmp 42) (Operand.tmp 43), type := 0, pos := "headssafe.go:39", after := #[{ on := 0, ground := Ground.data }, { on := 1, ground := Ground.data }], guard := none }) (v := ?_) rfl (by kernel_rfl) (by kernel_rfl) (by kernel_rfl) (fun _ _ _ h => h) (Or.inl ⟨by rfl, ?_⟩) (by assumption) ?_
                  rotate_left
                  · intro wz hSz; (try dsimp only at hSz); go_simp; all_goals (with_reducible rfl)
                  (try simp only [Act.put, List.setIfInBounds_toArray, List.set_cons_zero, List.set_cons_succ])
                  refine wpAnyH_take (i := 3) (oi := { dst := some 45, op := Op.load 9 (Operand.tmp 44), type := 9, pos := "headssafe.go:39", after := #[{ on := 2, ground := Ground.data }], guard := none }) (v := ?_) rfl (by kernel_rfl) (by kernel_rfl) (by kernel_rfl) (fun _ _ _ h => h) (Or.inl ⟨by rfl, ?_⟩) (by assumption) ?_
                  rotate_left
                  · intro wz hSz; (try dsimp only at hSz); go_simp; all_goals (with_reducible rfl)
                  (try simp only [Act.put, List.setIfInBounds_toArray, List.set_cons_zero, List.set_cons_succ])
                  refine wpAnyH_take (i := 4) (oi := { dst := some 46, op := Op.fieldAddr 61 (Operand.tmp 9) 1, type := 0, pos := "headssafe.go:39", after := #[], guard := none }) (v := ?_) rfl (by kernel_rfl) (by kernel_rfl) (by kernel_rfl) (fun _ _ _ h => h) (Or.inl ⟨by rfl, ?_⟩) (by assumption) ?_
                  rotate_left
                  · intro wz hSz; (try dsimp only at hSz); go_simp; all_goals (with_reducible rfl)
                  (try simp only [Act.put, List.setIfInBounds_toArray, List.set_cons_zero, List.set_cons_succ])
                  refine wpAnyH_take (i := 5) (oi := { dst := some 47, op := Op.load 3 (Operand.tmp 46), type := 3, pos := "headssafe.go:39", after := #[{ on := 4, ground := Ground.data }], guard := none }) (v := ?_) rfl (by kernel_rfl) (by kernel_rfl) (by kernel_rfl) (fun _ _ _ h => h) (Or.inl ⟨by rfl, ?_⟩) (by assumption) ?_
                  rotate_left
                  · intro wz hSz; (try dsimp only at hSz); go_simp; all_goals (with_reducible rfl)
                  (try simp only [Act.put, List.setIfInBounds_toArray, List.set_cons_zero, List.set_cons_succ])
                  refine wpAnyH_take (i := 6) (oi := { dst := some 48, op := Op.index 9 (Operand.tmp 45) (Operand.tmp 47), type := 5, pos := "headssafe.go:39", after := #[{ on := 3, ground := Ground.data }, { on := 5, ground := Ground.data }], guard := none }) (v := ?_) rfl (by kernel_rfl) (by kernel_rfl) (by kernel_rfl) (fun _ _ _ h => h) (Or.inl ⟨by rfl, ?_⟩) (by assumption) ?_
                  rotate_left
                  · intro wz hSz; (try dsimp only at hSz); go_simp; all_goals (with_reducible rfl)
                  (try simp only [Act.put, List.setIfInBounds_toArray, List.set_cons_zero, List.set_cons_succ])
                  refine wpAnyH_take (i := 7) (oi := { dst := some 49, op := Op.binOp BinOp.neq 5 (Operand.tmp 48) (Operand.const (Value.int IntKind.u8 114)) 5, type := 4, pos := "headssafe.go:39", after := #[{ on := 6, ground := Ground.data }], guard := none }) (v := ?_) rfl (by kernel_rfl) (by kernel_rfl) (by kernel_rfl) (fun _ _ _ h => h) (Or.inl ⟨by rfl, ?_⟩) (by assumption) ?_
                  rotate_left
                  · intro wz hSz; (try dsimp only at hSz); go_simp; all_goals (with_reducible rfl)
                  (try simp only [Act.put, List.setIfInBounds_toArray, List.set_cons_zero, List.set_cons_succ])
                  refine wpAnyH_take (i := 8) (oi := { dst := some 50, op := Op.move (Operand.tmp 49), type := 4, pos := "headssafe.go:39", after := #[{ on := 7, ground := Ground.data }], guard := none }) (v := ?_) rfl (by kernel_rfl) (by kernel_rfl) (by kernel_rfl) (fun _ _ _ h => h) (Or.inl ⟨by rfl, ?_⟩) (by assumption) ?_
                  rotate_left
                  · intro wz hSz; (try dsimp only at hSz); go_simp; all_goals (with_reducible rfl)
                  (try simp only [Act.put, List.setIfInBounds_toArray, List.set_cons_zero, List.set_cons_succ])
                  refine wpAnyH_take (i := 9) (oi := { dst := some 51, op := Op.move (Operand.tmp 7), type := 3, pos := "headssafe.go:39", after := #[{ on := 8, ground := Ground.guard }], guard := some (8, true) }) (v := ?_) rfl (by kernel_rfl) (by kernel_rfl) (by kernel_rfl) (fun _ _ _ h => h) (Or.inl ⟨by rfl, ?_⟩) (by assumption) ?_
                  rotate_left
                  · intro wz hSz; (try dsimp only at hSz); go_simp; all_goals (with_reducible rfl)
                  (try simp only [Act.put, List.setIfInBounds_toArray, List.set_cons_zero, List.set_cons_succ])
                  refine wpAnyH_take (i := 10) (oi := { dst := some 52, op := Op.move (Operand.tmp 5), type := 26, pos := "headssafe.go:39", after := #[{ on := 8, ground := Ground.guard }], guard := some (8, true) }) (v := ?_) rfl (by kernel_rfl) (by kernel_rfl) (by kernel_rfl) (fun _ _ _ h => h) (Or.inl ⟨by rfl, ?_⟩) (by assumption) ?_
                  rotate_left
                  · intro wz hSz; (try dsimp only at hSz); go_simp; all_goals (with_reducible rfl)
                  (try simp only [Act.put, List.setIfInBounds_toArray, List.set_cons_zero, List.set_cons_succ])
                  refine wpAnyH_take (i := 11) (oi := { dst := some 53, op := Op.fieldAddr 61 (Operand.tmp 9) 0, type := 0, pos := "headssafe.go:39", after := #[{ on := 8, ground := Ground.guard }], guard := some (8, true) }) (v := ?_) rfl (by kernel_rfl) (by kernel_rfl) (by kernel_rfl) (fun _ _ _ h => h) (Or.inl ⟨by rfl, ?_⟩) (by assumption) ?_
                  rotate_left
                  · intro wz hSz; (try dsimp only at hSz); go_simp; all_goals (with_reducible rfl)
                  (try simp only [Act.put, List.setIfInBounds_toArray, List.set_cons_zero, List.set_cons_succ])
                  refine wpAnyH_take (i := 12) (oi := { dst := some 54, op := Op.load 3 (Operand.tmp 53), type := 3, pos := "headssafe.go:39", after := #[{ on := 11, ground := Ground.data }, { on := 8, ground := Ground.guard }], guard := some (8, true) }) (v := ?_) rfl (by kernel_rfl) (by kernel_rfl) (by kernel_rfl) (fun _ _ _ h => h) (Or.inl ⟨by rfl, ?_⟩) (by assumption) ?_
                  rotate_left
                  · intro wz hSz; (try dsimp only at hSz); go_simp; all_goals (with_reducible rfl)
                  (try simp only [Act.put, List.setIfInBounds_toArray, List.set_cons_zero, List.set_cons_succ])
                  refine wpAnyH_take (i := 13) (oi := { dst := some 55, op := Op.indexAddr 26 (Operand.tmp 52) (Operand.tmp 54), type := 0, pos := "headssafe.go:39", after := #[{ on := 10, ground := Ground.data }, { on := 12, ground := Ground.data }, { on := 8, ground := Ground.guard }], guard := some (8, true) }) (v := ?_) rfl (by kernel_rfl) (by kernel_rfl) (by kernel_rfl) (fun _ _ _ h => h) (Or.inl ⟨by rfl, ?_⟩) (by assumption) ?_
                  rotate_left
                  · intro wz hSz; (try dsimp only at hSz); go_simp; all_goals (with_reducible rfl)
                  (try simp only [Act.put, List.setIfInBounds_toArray, List.set_cons_zero, List.set_cons_succ])
                  refine wpAnyH_take (i := 14) (oi := { dst := some 56, op := Op.load 3 (Operand.tmp 55), type := 3, pos := "headssafe.go:39", after := #[{ on := 13, ground := Ground.data }, { on := 8, ground := Ground.guard }], guard := some (8, true) }) (v := ?_) rfl (by kernel_rfl) (by kernel_rfl) (by kernel_rfl) (fun _ _ _ h => h) (Or.inl ⟨by rfl, ?_⟩) (by assumption) ?_
                  rotate_left
                  · intro wz hSz; (try dsimp only at hSz); go_simp; all_goals (with_reducible rfl)
                  (try simp only [Act.put, List.setIfInBounds_toArray, List.set_cons_zero, List.set_cons_succ])
                  refine wpAnyH_take (i := 15) (oi := { dst := some 57, op := Op.binOp BinOp.sub 3 (Operand.tmp 51) (Operand.tmp 56) 3, type := 3, pos := "headssafe.go:39", after := #[{ on := 9, ground := Ground.data }, { on := 14, ground := Ground.data }, { on := 8, ground := Ground.guard }], guard := some (8, true) }) (v := ?_) rfl (by kernel_rfl) (by kernel_rfl) (by kernel_rfl) (fun _ _ _ h => h) (Or.inl ⟨by rfl, ?_⟩) (by assumption) ?_
                  rotate_left
                  · intro wz hSz; (try dsimp only at hSz); go_simp; all_goals (with_reducible rfl)
                  (try simp only [Act.put, List.setIfInBounds_toArray, List.set_cons_zero, List.set_cons_succ])
                  refine wpAnyH_take (i := 16) (oi := { dst := some 58, op := Op.fieldAddr 61 (Operand.tmp 9) 2, type := 0, pos := "headssafe.go:39", after := #[{ on := 8, ground := Ground.guard }], guard := some (8, true) }) (v := ?_) rfl (by kernel_rfl) (by kernel_rfl) (by kernel_rfl) (fun _ _ _ h => h) (Or.inl ⟨by rfl, ?_⟩) (by assumption) ?_
                  rotate_left
                  · intro wz hSz; (try dsimp only at hSz); go_simp; all_goals (with_reducible rfl)
                  (try simp only [Act.put, List.setIfInBounds_toArray, List.set_cons_zero, List.set_cons_succ])
                  refine wpAnyH_take (i := 17) (oi := { dst := some 59, op := Op.load 3 (Operand.tmp 58), type := 3, pos := "headssafe.go:39", after := #[{ on := 16, ground := Ground.data }, { on := 8, ground := Ground.guard }], guard := some (8, true) }) (v := ?_) rfl (by kernel_rfl) (by kernel_rfl) (by kernel_rfl) (fun _ _ _ h => h) (Or.inl ⟨by rfl, ?_⟩) (by assumption) ?_
                  rotate_left
                  · intro wz hSz; (try dsimp only at hSz); go_simp; all_goals (with_reducible rfl)
                  (try simp only [Act.put, List.setIfInBounds_toArray, List.set_cons_zero, List.set_cons_succ])
                  refine wpAnyH_take (i := 18) (oi := { dst := some 60, op := Op.binOp BinOp.leq 3 (Operand.tmp 57) (Operand.tmp 59) 3, type := 4, pos := "headssafe.go:39", after := #[{ on := 15, ground := Ground.data }, { on := 17, ground := Ground.data }, { on := 8, ground := Ground.guard }], guard := some (8, true) }) (v := ?_) rfl (by kernel_rfl) (by kernel_rfl) (by kernel_rfl) (fun _ _ _ h => h) (Or.inl ⟨by rfl, ?_⟩) (by assumption) ?_
                  rotate_left
                  · intro wz hSz; (try dsimp only at hSz); go_simp; all_goals (with_reducible rfl)
                  (try simp only [Act.put, List.setIfInBounds_toArray, List.set_cons_zero, List.set_cons_succ])
                  refine wpAnyH_take (i := 19) (oi := { dst := some 61, op := Op.pick (Operand.tmp 50) (Operand.tmp 60) (Operand.const (Value.bool false)), type := 4, pos := "headssafe.go:39", after := #[{ on := 8, ground := Ground.data }, { on := 18, ground := Ground.data }], guard := none }) (v := ?_) rfl (by kernel_rfl) (by kernel_rfl) (by kernel_rfl) (fun _ _ _ h => h) (Or.inl ⟨by rfl, ?_⟩) (by assumption) ?_
                  rotate_left
                  · intro wz hSz; (try dsimp only at hSz); go_simp; all_goals (with_reducible rfl)
                  (try simp only [Act.put, List.setIfInBounds_toArray, List.set_cons_zero, List.set_cons_succ])
                  refine wpAnyH_done (by kernel_rfl) ?_ _
                  refine NoPanic.normal ?_
                  go_upto_region 15 with fail
                  refine wp_region_noPanic ?_
                  refine wp_region_held_drew (S := fun w' => w'.cell? ⟨q, j, none⟩ = some (.string s) ∧ (w'.cell? ⟨wr.heap.size, 0, none⟩ = some (.int .i64 xa) ∧ w'.cell? ⟨wr.heap.size, 1, none⟩ = some (.int .i64 xb) ∧ w'.cell? ⟨wr.heap.size, 2, none⟩ = some (.int .i64 xab) ∧ w'.cell? ⟨wr.heap.size, 3, none⟩ = some (.int .i64 xba)) ∧ w'.cell? ⟨w.heap.size + 1, xa.toNat, none⟩ = some (.int .i64 ya) ∧ w'.cell? ⟨w.heap.size + 1, xb.toNat, none⟩ = some (.int .i64 yb)) (by kernel_rfl) ?_ (fun hHeld => ?_)
                  · (try dsimp only)
                    exact ⟨c1, has4x CN.drew, c2, c3⟩
                  refine wpAnyH_take (i := 0) (oi := { dst := some 62, op := Op.move (Operand.tmp 1), type := 41, pos := "headssafe.go:42", after := #[], guard := none }) (v := ?_) rfl (by kernel_rfl) (by kernel_rfl) (by kernel_rfl) (fun _ _ _ h => h) (Or.inl ⟨by rfl, ?_⟩) (by assumption) ?_
                  rotate_left
                  · intro wz hSz; (try dsimp only at hSz); go_simp; all_goals (with_reducible rfl)
                  (try simp only [Act.put, List.setIfInBounds_toArray, List.set_cons_zero, List.set_cons_succ])
                  refine wpAnyH_take (i := 1) (oi := { dst := some 63, op := Op.move (Operand.tmp 7), type := 3, pos := "headssafe.go:42", after := #[], guard := none }) (v := ?_) rfl (by kernel_rfl) (by kernel_rfl) (by kernel_rfl) (fun _ _ _ h => h) (Or.inl ⟨by rfl, ?_⟩) (by assumption) ?_
                  rotate_left
                  · intro wz hSz; (try dsimp only at hSz); go_simp; all_goals (with_reducible rfl)
                  (try simp only [Act.put, List.setIfInBounds_toArray, List.set_cons_zero, List.set_cons_succ])
                  refine wpAnyH_take (i := 2) (oi := { dst := some 64, op := Op.indexAddr 41 (Operand.tmp 62) (Operand.tmp 63), type := 0, pos := "headssafe.go:42", after := #[{ on := 0, ground := Ground.data }, { on := 1, ground := Ground.data }], guard := none }) (v := ?_) rfl (by kernel_rfl) (by kernel_rfl) (by kernel_rfl) (fun _ _ _ h => h) (Or.inl ⟨by rfl, ?_⟩) (by assumption) ?_
                  rotate_left
                  · intro wz hSz; (try dsimp only at hSz); go_simp; all_goals (with_reducible rfl)
                  (try simp only [Act.put, List.setIfInBounds_toArray, List.set_cons_zero, List.set_cons_succ])
                  refine wpAnyH_take (i := 3) (oi := { dst := some 65, op := Op.load 9 (Operand.tmp 64), type := 9, pos := "headssafe.go:42", after := #[{ on := 2, ground := Ground.data }], guard := none }) (v := ?_) rfl (by kernel_rfl) (by kernel_rfl) (by kernel_rfl) (fun _ _ _ h => h) (Or.inl ⟨by rfl, ?_⟩) (by assumption) ?_
                  rotate_left
                  · intro wz hSz; (try dsimp only at hSz); go_simp; all_goals (with_reducible rfl)
                  (try simp only [Act.put, List.setIfInBounds_toArray, List.set_cons_zero, List.set_cons_succ])
                  refine wpAnyH_take (i := 4) (oi := { dst := some 66, op := Op.fieldAddr 61 (Operand.tmp 9) 0, type := 0, pos := "headssafe.go:42", after := #[], guard := none }) (v := ?_) rfl (by kernel_rfl) (by kernel_rfl) (by kernel_rfl) (fun _ _ _ h => h) (Or.inl ⟨by rfl, ?_⟩) (by assumption) ?_
                  rotate_left
                  · intro wz hSz; (try dsimp only at hSz); go_simp; all_goals (with_reducible rfl)
                  (try simp only [Act.put, List.setIfInBounds_toArray, List.set_cons_zero, List.set_cons_succ])
                  refine wpAnyH_take (i := 5) (oi := { dst := some 67, op := Op.load 3 (Operand.tmp 66), type := 3, pos := "headssafe.go:42", after := #[{ on := 4, ground := Ground.data }], guard := none }) (v := ?_) rfl (by kernel_rfl) (by kernel_rfl) (by kernel_rfl) (fun _ _ _ h => h) (Or.inl ⟨by rfl, ?_⟩) (by assumption) ?_
                  rotate_left
                  · intro wz hSz; (try dsimp only at hSz); go_simp; all_goals (with_reducible rfl)
                  (try simp only [Act.put, List.setIfInBounds_toArray, List.set_cons_zero, List.set_cons_succ])
                  refine wpAnyH_take (i := 6) (oi := { dst := some 68, op := Op.index 9 (Operand.tmp 65) (Operand.tmp 67), type := 5, pos := "headssafe.go:42", after := #[{ on := 3, ground := Ground.data }, { on := 5, ground := Ground.data }], guard := none }) (v := ?_) rfl (by kernel_rfl) (by kernel_rfl) (by kernel_rfl) (fun _ _ _ h => h) (Or.inl ⟨by rfl, ?_⟩) (by assumption) ?_
                  rotate_left
                  · intro wz hSz; (try dsimp only at hSz); go_simp; all_goals (with_reducible rfl)
                  (try simp only [Act.put, List.setIfInBounds_toArray, List.set_cons_zero, List.set_cons_succ])
                  refine wpAnyH_take (i := 7) (oi := { dst := some 69, op := Op.binOp BinOp.neq 5 (Operand.tmp 68) (Operand.const (Value.int IntKind.u8 114)) 5, type := 4, pos := "headssafe.go:42", after := #[{ on := 6, ground := Ground.data }], guard := none }) (v := ?_) rfl (by kernel_rfl) (by kernel_rfl) (by kernel_rfl) (fun _ _ _ h => h) (Or.inl ⟨by rfl, ?_⟩) (by assumption) ?_
                  rotate_left
                  · intro wz hSz; (try dsimp only at hSz); go_simp; all_goals (with_reducible rfl)
                  (try simp only [Act.put, List.setIfInBounds_toArray, List.set_cons_zero, List.set_cons_succ])
                  refine wpAnyH_take (i := 8) (oi := { dst := some 70, op := Op.move (Operand.tmp 69), type := 4, pos := "headssafe.go:42", after := #[{ on := 7, ground := Ground.data }], guard := none }) (v := ?_) rfl (by kernel_rfl) (by kernel_rfl) (by kernel_rfl) (fun _ _ _ h => h) (Or.inl ⟨by rfl, ?_⟩) (by assumption) ?_
                  rotate_left
                  · intro wz hSz; (try dsimp only at hSz); go_simp; all_goals (with_reducible rfl)
                  (try simp only [Act.put, List.setIfInBounds_toArray, List.set_cons_zero, List.set_cons_succ])
                  refine wpAnyH_take (i := 9) (oi := { dst := some 71, op := Op.move (Operand.tmp 7), type := 3, pos := "headssafe.go:42", after := #[{ on := 8, ground := Ground.guard }], guard := some (8, true) }) (v := ?_) rfl (by kernel_rfl) (by kernel_rfl) (by kernel_rfl) (fun _ _ _ h => h) (Or.inl ⟨by rfl, ?_⟩) (by assumption) ?_
                  rotate_left
                  · intro wz hSz; (try dsimp only at hSz); go_simp; all_goals (with_reducible rfl)
                  (try simp only [Act.put, List.setIfInBounds_toArray, List.set_cons_zero, List.set_cons_succ])
                  refine wpAnyH_take (i := 10) (oi := { dst := some 72, op := Op.move (Operand.tmp 5), type := 26, pos := "headssafe.go:42", after := #[{ on := 8, ground := Ground.guard }], guard := some (8, true) }) (v := ?_) rfl (by kernel_rfl) (by kernel_rfl) (by kernel_rfl) (fun _ _ _ h => h) (Or.inl ⟨by rfl, ?_⟩) (by assumption) ?_
                  rotate_left
                  · intro wz hSz; (try dsimp only at hSz); go_simp; all_goals (with_reducible rfl)
                  (try simp only [Act.put, List.setIfInBounds_toArray, List.set_cons_zero, List.set_cons_succ])
                  refine wpAnyH_take (i := 11) (oi := { dst := some 73, op := Op.fieldAddr 61 (Operand.tmp 9) 1, type := 0, pos := "headssafe.go:42", after := #[{ on := 8, ground := Ground.guard }], guard := some (8, true) }) (v := ?_) rfl (by kernel_rfl) (by kernel_rfl) (by kernel_rfl) (fun _ _ _ h => h) (Or.inl ⟨by rfl, ?_⟩) (by assumption) ?_
                  rotate_left
                  · intro wz hSz; (try dsimp only at hSz); go_simp; all_goals (with_reducible rfl)
                  (try simp only [Act.put, List.setIfInBounds_toArray, List.set_cons_zero, List.set_cons_succ])
                  refine wpAnyH_take (i := 12) (oi := { dst := some 74, op := Op.load 3 (Operand.tmp 73), type := 3, pos := "headssafe.go:42", after := #[{ on := 11, ground := Ground.data }, { on := 8, ground := Ground.guard }], guard := some (8, true) }) (v := ?_) rfl (by kernel_rfl) (by kernel_rfl) (by kernel_rfl) (fun _ _ _ h => h) (Or.inl ⟨by rfl, ?_⟩) (by assumption) ?_
                  rotate_left
                  · intro wz hSz; (try dsimp only at hSz); go_simp; all_goals (with_reducible rfl)
                  (try simp only [Act.put, List.setIfInBounds_toArray, List.set_cons_zero, List.set_cons_succ])
                  refine wpAnyH_take (i := 13) (oi := { dst := some 75, op := Op.indexAddr 26 (Operand.tmp 72) (Operand.tmp 74), type := 0, pos := "headssafe.go:42", after := #[{ on := 10, ground := Ground.data }, { on := 12, ground := Ground.data }, { on := 8, ground := Ground.guard }], guard := some (8, true) }) (v := ?_) rfl (by kernel_rfl) (by kernel_rfl) (by kernel_rfl) (fun _ _ _ h => h) (Or.inl ⟨by rfl, ?_⟩) (by assumption) ?_
                  rotate_left
                  · intro wz hSz; (try dsimp only at hSz); go_simp; all_goals (with_reducible rfl)
                  (try simp only [Act.put, List.setIfInBounds_toArray, List.set_cons_zero, List.set_cons_succ])
                  refine wpAnyH_take (i := 14) (oi := { dst := some 76, op := Op.load 3 (Operand.tmp 75), type := 3, pos := "headssafe.go:42", after := #[{ on := 13, ground := Ground.data }, { on := 8, ground := Ground.guard }], guard := some (8, true) }) (v := ?_) rfl (by kernel_rfl) (by kernel_rfl) (by kernel_rfl) (fun _ _ _ h => h) (Or.inl ⟨by rfl, ?_⟩) (by assumption) ?_
                  rotate_left
                  · intro wz hSz; (try dsimp only at hSz); go_simp; all_goals (with_reducible rfl)
                  (try simp only [Act.put, List.setIfInBounds_toArray, List.set_cons_zero, List.set_cons_succ])
                  refine wpAnyH_take (i := 15) (oi := { dst := some 77, op := Op.binOp BinOp.sub 3 (Operand.tmp 71) (Operand.tmp 76) 3, type := 3, pos := "headssafe.go:42", after := #[{ on := 9, ground := Ground.data }, { on := 14, ground := Ground.data }, { on := 8, ground := Ground.guard }], guard := some (8, true) }) (v := ?_) rfl (by kernel_rfl) (by kernel_rfl) (by kernel_rfl) (fun _ _ _ h => h) (Or.inl ⟨by rfl, ?_⟩) (by assumption) ?_
                  rotate_left
                  · intro wz hSz; (try dsimp only at hSz); go_simp; all_goals (with_reducible rfl)
                  (try simp only [Act.put, List.setIfInBounds_toArray, List.set_cons_zero, List.set_cons_succ])
                  refine wpAnyH_take (i := 16) (oi := { dst := some 78, op := Op.fieldAddr 61 (Operand.tmp 9) 3, type := 0, pos := "headssafe.go:42", after := #[{ on := 8, ground := Ground.guard }], guard := some (8, true) }) (v := ?_) rfl (by kernel_rfl) (by kernel_rfl) (by kernel_rfl) (fun _ _ _ h => h) (Or.inl ⟨by rfl, ?_⟩) (by assumption) ?_
                  rotate_left
                  · intro wz hSz; (try dsimp only at hSz); go_simp; all_goals (with_reducible rfl)
                  (try simp only [Act.put, List.setIfInBounds_toArray, List.set_cons_zero, List.set_cons_succ])
                  refine wpAnyH_take (i := 17) (oi := { dst := some 79, op := Op.load 3 (Operand.tmp 78), type := 3, pos := "headssafe.go:42", after := #[{ on := 16, ground := Ground.data }, { on := 8, ground := Ground.guard }], guard := some (8, true) }) (v := ?_) rfl (by kernel_rfl) (by kernel_rfl) (by kernel_rfl) (fun _ _ _ h => h) (Or.inl ⟨by rfl, ?_⟩) (by assumption) ?_
                  rotate_left
                  · intro wz hSz; (try dsimp only at hSz); go_simp; all_goals (with_reducible rfl)
                  (try simp only [Act.put, List.setIfInBounds_toArray, List.set_cons_zero, List.set_cons_succ])
                  refine wpAnyH_take (i := 18) (oi := { dst := some 80, op := Op.binOp BinOp.leq 3 (Operand.tmp 77) (Operand.tmp 79) 3, type := 4, pos := "headssafe.go:42", after := #[{ on := 15, ground := Ground.data }, { on := 17, ground := Ground.data }, { on := 8, ground := Ground.guard }], guard := some (8, true) }) (v := ?_) rfl (by kernel_rfl) (by kernel_rfl) (by kernel_rfl) (fun _ _ _ h => h) (Or.inl ⟨by rfl, ?_⟩) (by assumption) ?_
                  rotate_left
                  · intro wz hSz; (try dsimp only at hSz); go_simp; all_goals (with_reducible rfl)
                  (try simp only [Act.put, List.setIfInBounds_toArray, List.set_cons_zero, List.set_cons_succ])
                  refine wpAnyH_take (i := 19) (oi := { dst := some 81, op := Op.pick (Operand.tmp 70) (Operand.tmp 80) (Operand.const (Value.bool false)), type := 4, pos := "headssafe.go:42", after := #[{ on := 8, ground := Ground.data }, { on := 18, ground := Ground.data }], guard := none }) (v := ?_) rfl (by kernel_rfl) (by kernel_rfl) (by kernel_rfl) (fun _ _ _ h => h) (Or.inl ⟨by rfl, ?_⟩) (by assumption) ?_
                  rotate_left
                  · intro wz hSz; (try dsimp only at hSz); go_simp; all_goals (with_reducible rfl)
                  (try simp only [Act.put, List.setIfInBounds_toArray, List.set_cons_zero, List.set_cons_succ])
                  refine wpAnyH_done (by kernel_rfl) ?_ _
                  refine NoPanic.normal ?_
                  go_wp2_with fail
                  go_roundw
                  case rel => exact ⟨i + 1, by omega, by go_num, oN.drew.drew, BN.drew.drew, hbN.drew.drew⟩
                  case measure => simp [intOf]; omega
            · have t1 : ¬ (i : Int) < (C.length : Int) := by omega
              have o3 := own_to ow (g := fun x => if x < 0 then lastF (fun t => f t x) (j + 1) else lastF (fun t => f t x) j) (fun x hx => by rw [if_neg (by omega)])
              clear ow
              go_wp2_with fail
              go_loopw [10] (fun t wr => ∃ k : Nat, k ≤ G.length ∧ t = .int .i64 (k : Int) ∧ Hid (wr.ownsRow (w.heap.size + 1) 3 1 (.slice (some ⟨w.heap.size + 1, 0, none⟩) G.length G.length) G.length (valR G.length (fun x => if x < k then lastF (fun t => f t x) (j + 1) else lastF (fun t => f t x) j))) ∧ Hid (Has wr w.heap.size #[.slice va G.length cg, .slice vb C.length cc]) ∧ Hid (Below w.heap.size w wr)) (fun t _ => G.length - (intOf t).toNat)
              case atStart => exact ⟨0, by omega, rfl, o3, B, hb⟩
              case round =>
                clear o3 B hb b1 t1 him ilt hI
                obtain ⟨k, hkl, rfl, ow', B', hb'⟩ := hrel
                have ow := ow'.out
                have B := B'.out
                have hb := hb'.out
                clear ow' B' hb'
                have ps := (hb.cell (p := ⟨q, j, none⟩) hq).trans ps0
                by_cases hlt : k < G.length
                · have qk := hs k (by rw [sz.out]; omega)
                  have fk := h4 j k jlt hlt
                  have t1 : (k : Int) < (G.length : Int) := by omega
                  have t0 : (0 : Int) ≤ (k : Int) := by omega
                  clear hs h4 hc PF hk
                  by_cases z : f j k = 2
                  · rw [z, let2] at qk
                    have fz := ow.frozenAt k
                    have ce := own_cell ow hlt
                    have o2 := own_to (own_st64 ow hlt (j : Int)) (g := fun x => if x < k + 1 then lastF (fun t => f t x) (j + 1) else lastF (fun t => f t x) j) (fun x hx => by
                      by_cases e : x = k
                      · subst e
                        rw [if_pos rfl, if_pos (by omega)]
                        unfold lastF
                        rw [if_pos z]
                      · rw [if_neg e]
                        by_cases d : x < k
                        · rw [if_pos d, if_pos (by omega)]
                        · rw [if_neg d, if_neg (by omega)])
                    have B2 := B.far (c := w.heap.size + 1) (i := k) (by omega) (.int .i64 (j : Int))
                    have hb2 : Below w.heap.size w (wr.setCell ⟨w.heap.size + 1, k, none⟩ (.int .i64 (j : Int))) := hb.setCell (p := ⟨w.heap.size + 1, k, none⟩) (by first | (simp; done) | (simp; omega)) _
                    clear z fk
                    go_wp2_with fail
                    go_roundw
                    case rel => exact ⟨k + 1, by omega, by go_num, o2, B2, hb2⟩
                    case measure => simp [intOf]; omega
                  · have nk : ¬ (s[k]'(by omega)).toNat = 103 := fun h => z (let_2 fk (qk.symm.trans h))
                    have dk : ¬ ((s[k]'(by omega)).toNat : Int) = 103 := by omega
                    have o2 := own_to ow (g := fun x => if x < k + 1 then lastF (fun t => f t x) (j + 1) else lastF (fun t => f t x) j) (fun x hx => by
                      by_cases d : x < k
                      · rw [if_pos d, if_pos (by omega)]
                      · rw [if_neg d]
                        by_cases e : x = k
                        · subst e
                          rw [if_pos (by omega)]
                          conv => rhs; unfold lastF
                          rw [if_neg z]
                        · rw [if_neg (by omega)])
                    clear qk z fk
                    go_wp2_with fail
                    go_roundw
                    case rel => exact ⟨k + 1, by omega, by go_num, o2, B, hb⟩
                    case measure => simp [intOf]; omega
                · have t1 : ¬ (k : Int) < (G.length : Int) := by omega
                  have o4 := own_to ow (g := (fun x => lastF (fun t => f t x) (j + 1))) (fun x hx => by rw [if_pos (by omega)])
                  clear hs h4 hc PF hk
                  go_wp2_with fail
                  go_roundw
                  case rel => exact ⟨j + 1, by omega, by go_num, o4, B, hb⟩
                  case measure => simp [intOf]; omega
        · have t1 : ¬ (j : Int) < (m : Int) := by omega
          go_wp2_with fail
          go_ret
          exact ⟨rfl, hb⟩
end Go.Proofs.Ytbonmajnkbggcab
namespace Go.Proofs.Ytbonmajnkbggcab
open Go.RowKit
set_option linter.unusedVariables false


/-- What the laws ask of a film over sound tables. -/
structure SafeF (G : List Gp) (C : List Cf) (m : Nat) (f : Nat → Nat → Int) (c : Nat → Nat → Int) : Prop where
  four : ∀ j k, j < m → k < G.length → f j k = 0 ∨ f j k = 1 ∨ f j k = 2 ∨ f j k = 3
  rng : ∀ c ∈ C, 0 ≤ c.a ∧ c.a < c.b ∧ c.b < (G.length : Int)
  clr : ∀ j, j < m → ∀ c ∈ C, f j c.a.toNat = 0 ∨ f j c.b.toNat = 0
  red : ∀ k, k < G.length → f 0 k = 0
  itr : ∀ j, j < m → ∀ c ∈ C, (f j c.b.toNat ≠ 0 → c.ab < (j : Int) - lastF (fun t => f t c.a.toNat) j) ∧ (f j c.a.toNat ≠ 0 → c.ba < (j : Int) - lastF (fun t => f t c.b.toNat) j)
  lin : ∀ (k : Nat) (h : k < G.length), Ln G[k] (fun j => f j k) (c k)
theorem run_safeF {G : List Gp} {C : List Cf} (hg : gridB G C = true) (Ms : List Nat) : SafeF G C (Ms.length + 1) (fun j k => (runF G C Ms j).a k) (fun k j => (runF G C Ms j).i k) := by
  have hl : ∀ (k : Nat) (h : k < G.length), Ln G[k] (fun j => (runF G C Ms j).a k) (fun j => (runF G C Ms j).i k) := fun k h => by
    have := run_ln hg Ms k h
    rw [show G.getD k gp0 = G[k] by simp [List.getD_eq_getElem?_getD, h]] at this
    exact this
  exact ⟨fun j k _ hk => (hl k hk).four j, grid_cfm hg, fun j _ => run_clear hg Ms j, fun k _ => rfl, fun j _ => run_inter hg Ms j, hl⟩
set_option maxRecDepth 100000 in
set_option maxHeartbeats 4000000 in
theorem headsPictures_any (G : List Gp) (C : List Cf) (vg vc v : Value) (m : Nat) (f c : Nat → Nat → Int) (w : World) (h1 : Fl 5 Gp.cs w vg G) (h2 : Fl 4 Cf.cs w vc C) (lG : G.length ≤ 64) (lC : C.length ≤ 4398046511000) (hF : Film w v G.length m f) (hm0 : 0 < m) (hm : m ≤ 17592186044001) (S : SafeF G C m f c) :
    Calls Try.prog 23 #[.agg #[vg, vc], v] w fun e w' => e = .returned (.bool true) ∧ Below w.heap.size w w' := by
  have k45 := fun (j : Nat) (hj : j < m) (s : ByteArray) (hs : s.size = G.length) (hl : ∀ (k : Nat) (h : k < s.size), (s[k]'h).toNat = (letN (f j k)).toNat) (X : World) (hX : Below w.heap.size w X) => headsClear_any G C vg vc s (f j) X (h1.below hX) (h2.below hX) lG lC hs hl (fun k hk => S.four j k hj hk) S.rng (S.clr j hj)
  have k46 := fun (X : World) (hX : Below w.heap.size w X) => headsInter_any G C vg vc v m f X (h1.below hX) (h2.below hX) lG lC (hF.below hX) (by omega) S.four S.rng S.itr
  obtain ⟨va, cg, rfl, -⟩ := h1.any
  obtain ⟨vb, cc, rfl, -⟩ := h2.any
  have k47 := fun (X : World) (hX : Below w.heap.size w X) => headsTimes_any G (.slice va G.length cg) v vb C.length cc m f c X (h1.below hX) lG (hF.below hX) hm S.lin
  obtain ⟨q, cp, rfl, hq, PF⟩ := hF
  clear h1 h2
  have B0 : Has (w.alloc (.cells #[.slice va G.length cg, .slice vb C.length cc] 25)) w.heap.size #[.slice va G.length cg, .slice vb C.length cc] := Has.new _ _ _ rfl
  have hb0 : Below w.heap.size w (w.alloc (.cells #[.slice va G.length cg, .slice vb C.length cc] 25)) := belN1
  go_enter Try.func23, Try.ntmps23
  go_wp2_with fail
  generalize (w.alloc (.cells #[.slice va G.length cg, .slice vb C.length cc] 25)) = W0 at *
  go_loopw [5] (fun t wr => ∃ j : Nat, j ≤ m ∧ t = .int .i64 (j : Int) ∧ Hid (Has wr w.heap.size #[.slice va G.length cg, .slice vb C.length cc]) ∧ Hid (Below w.heap.size w wr)) (fun t _ => m - (intOf t).toNat)
  case atStart => exact ⟨0, by omega, rfl, B0, hb0⟩
  case round =>
    clear B0 hb0
    obtain ⟨j, hjm, rfl, B', hb'⟩ := hrel
    have B := B'.out
    have hb := hb'.out
    clear B' hb'
    by_cases jlt : j < m
    · obtain ⟨s, ps0, sz, hs⟩ := PF j jlt
      have ps := (hb.drew.cell (p := ⟨q, j, none⟩) hq).trans ps0
      have cC := k45 j jlt s sz hs wr.drew hb.drew
      have u1 : (j : Int) < (m : Int) := by omega
      have u0 : (0 : Int) ≤ (j : Int) := by omega
      clear hs sz
      go_upto_region 4 with fail
      refine wp_region_noPanic ?_
      refine wp_region_held_drew (S := fun w' => (w'.cell? ⟨w.heap.size, 0, none⟩ = some (.slice va G.length cg) ∧ w'.cell? ⟨w.heap.size, 1, none⟩ = some (.slice vb C.length cc)) ∧ w'.cell? ⟨q, j, none⟩ = some (.string s)) (by kernel_rfl) ?_ (fun hHeld => ?_)
      · (try dsimp only)
        exact ⟨⟨B.drew.2.1 0, B.drew.2.1 1⟩, ps⟩
      refine wpAnyH_take (i := 0) (oi := { dst := some 13, op := Op.load 25 (Operand.tmp 2), type := 25, pos := "headssafe.go:113", after := #[], guard := none }) (v := ?_) rfl (by kernel_rfl) (by kernel_rfl) (by kernel_rfl) (fun _ _ _ h => h) (Or.inl ⟨by rfl, ?_⟩) (by assumption) ?_
      rotate_left
      · intro wz hSz; (try dsimp only at hSz); go_simp; all_goals (with_reducible rfl)
      (try simp only [Act.put, List.setIfInBounds_toArray, List.set_cons_zero, List.set_cons_succ])
      refine wpAnyH_take (i := 1) (oi := { dst := some 14, op := Op.move (Operand.tmp 1), type := 41, pos := "headssafe.go:113", after := #[], guard := none }) (v := ?_) rfl (by kernel_rfl) (by kernel_rfl) (by kernel_rfl) (fun _ _ _ h => h) (Or.inl ⟨by rfl, ?_⟩) (by assumption) ?_
      rotate_left
      · intro wz hSz; (try dsimp only at hSz); go_simp; all_goals (with_reducible rfl)
      (try simp only [Act.put, List.setIfInBounds_toArray, List.set_cons_zero, List.set_cons_succ])
      refine wpAnyH_take (i := 2) (oi := { dst := some 15, op := Op.move (Operand.tmp 5), type := 3, pos := "headssafe.go:113", after := #[], guard := none }) (v := ?_) rfl (by kernel_rfl) (by kernel_rfl) (by kernel_rfl) (fun _ _ _ h => h) (Or.inl ⟨by rfl, ?_⟩) (by assumption) ?_
      rotate_left
      · intro wz hSz; (try dsimp only at hSz); go_simp; all_goals (with_reducible rfl)
      (try simp only [Act.put, List.setIfInBounds_toArray, List.set_cons_zero, List.set_cons_succ])
      refine wpAnyH_take (i := 3) (oi := { dst := some 16, op := Op.indexAddr 41 (Operand.tmp 14) (Operand.tmp 15), type := 0, pos := "headssafe.go:113", after := #[{ on := 1, ground := Ground.data }, { on := 2, ground := Ground.data }], guard := none }) (v := ?_) rfl (by kernel_rfl) (by kernel_rfl) (by kernel_rfl) (fun _ _ _ h => h) (Or.inl ⟨by rfl, ?_⟩) (by assumption) ?_
      rotate_left
      · intro wz hSz; (try dsimp only at hSz); go_simp; all_goals (with_reducible rfl)
      (try simp only [Act.put, List.setIfInBounds_toArray, List.set_cons_zero, List.set_cons_succ])
      refine wpAnyH_take (i := 4) (oi := { dst := some 17, op := Op.load 9 (Operand.tmp 16), type := 9, pos := "headssafe.go:113", after := #[{ on := 3, ground := Ground.data }], guard := none }) (v := ?_) rfl (by kernel_rfl) (by kernel_rfl) (by kernel_rfl) (fun _ _ _ h => h) (Or.inl ⟨by rfl, ?_⟩) (by assumption) ?_
      rotate_left
      · intro wz hSz; (try dsimp only at hSz); go_simp; all_goals (with_reducible rfl)
      (try simp only [Act.put, List.setIfInBounds_toArray, List.set_cons_zero, List.set_cons_succ])
      refine wpAnyH_ready (rs := [5]) (by kernel_rfl) (by simp) ?_
      refine AllReadyH.cons (o := { dst := some 18, op := Op.call { callee := Callee.value (Operand.func 45), args := #[Operand.tmp 13, Operand.tmp 17], argTypes := #[25, 9] }, type := 4, pos := "headssafe.go:113", after := #[{ on := 0, ground := Ground.data }, { on := 4, ground := Ground.data }], guard := none }) rfl (fun K hK => ?_) AllReadyH.nil
      go_simp
      (go_at_call 45; (with_reducible refine Calls.mono cC ?_); rintro e w2 ⟨rfl, hb2⟩; have BN := B.drew.below hb2; have hbN := bel_after hb.drew hb.drew.size hb2; have psN := (hbN.cell (p := ⟨q, j, none⟩) hq).trans ps0; clear hb2)
      go_wp2_with fail
      refine hK.out _ _ ?_ (fun hHeld => ?_)
      · (try dsimp only)
        exact ⟨⟨BN.2.1 0, BN.2.1 1⟩, psN⟩
      clear hK K
      (try simp only [Act.put, List.setIfInBounds_toArray, List.set_cons_zero, List.set_cons_succ])
      refine wpAnyH_take (i := 6) (oi := { dst := some 19, op := Op.unOp UnOp.not 4 (Operand.tmp 18), type := 4, pos := "headssafe.go:113", after := #[{ on := 5, ground := Ground.data }], guard := none }) (v := ?_) rfl (by kernel_rfl) (by kernel_rfl) (by kernel_rfl) (fun _ _ _ h => h) (Or.inl ⟨by rfl, ?_⟩) (by assumption) ?_
      rotate_left
      · intro wz hSz; (try dsimp only at hSz); go_simp; all_goals (with_reducible rfl)
      (try simp only [Act.put, List.setIfInBounds_toArray, List.set_cons_zero, List.set_cons_succ])
      refine wpAnyH_done (by kernel_rfl) ?_ _
      refine NoPanic.normal ?_
      go_wp2_with fail
      go_roundw
      case rel => exact ⟨j + 1, by omega, by go_num, BN, hbN⟩
      case measure => simp [intOf]; omega
    · have u1 : ¬ (j : Int) < (m : Int) := by omega
      have w1 : (m : Int) > 0 := by omega
      have w2 : (0 : Int) < (m : Int) := by omega
      obtain ⟨s, ps0, sz', hs⟩ := PF 0 hm0
      have sz : Hid (s.size = G.length) := sz'
      have si : (s.size : Int) = (G.length : Int) := by omega
      clear sz' k45
      go_wp2_with fail
      go_loopw [6] (fun t wr => ∃ k : Nat, k ≤ G.length ∧ t = .int .i64 (k : Int) ∧ Hid (Has wr w.heap.size #[.slice va G.length cg, .slice vb C.length cc]) ∧ Hid (Below w.heap.size w wr)) (fun t _ => G.length - (intOf t).toNat)
      case atStart => exact ⟨0, by omega, rfl, B, hb⟩
      case round =>
        clear B hb u1 jlt hjm
        obtain ⟨k, hkl, rfl, B', hb'⟩ := hrel
        have B := B'.out
        have hb := hb'.out
        clear B' hb'
        have ps := (hb.cell (p := ⟨q, 0, none⟩) hq).trans ps0
        obtain ⟨_, b1, _⟩ := id B
        by_cases klt : k < G.length
        · have qk := hs k (by rw [sz.out]; exact klt)
          rw [S.red k klt, let0] at qk
          have t1 : (k : Int) < (G.length : Int) := by omega
          have t0 : (0 : Int) ≤ (k : Int) := by omega
          clear hs PF S k46 k47
          go_wp2_with fail
          go_roundw
          case rel => exact ⟨k + 1, by omega, by go_num, B, hb⟩
          case measure => simp [intOf]; omega
        · have t1 : ¬ (k : Int) < (G.length : Int) := by omega
          clear hs PF S
          go_wp2_with (first
            | (go_at_call 46; (with_reducible refine Calls.mono (k46 _ hb) ?_); rintro e y1 ⟨rfl, hy1⟩; have hb1 := bel_after hb hb.size hy1; have B1 := B.below hy1; obtain ⟨_, b2, _⟩ := id B1; clear hy1)
            | (go_at_call 47; (with_reducible refine Calls.mono (k47 _ hb1) ?_); rintro e y2 ⟨rfl, hy2⟩; have hb2 := bel_after hb1 hb1.size hy2; clear hy2))
          go_ret
          exact ⟨rfl, hb2⟩
end Go.Proofs.Ytbonmajnkbggcab
namespace Go.Proofs.Ytbonmajnkbggcab
open Go.RowKit
set_option linter.unusedVariables false

set_option maxRecDepth 100000 in
set_option maxHeartbeats 4000000 in
theorem safes (G : List Gp) (C : List Cf) (Ms : List Nat) (vg vc vm : Value) (w : World) (h1 : Fl 5 Gp.cs w vg G) (h2 : Fl 4 Cf.cs w vc C) (h3 : Fl 1 u64 w vm Ms) (lG : G.length ≤ 2932031007317) (lC : C.length ≤ 4398046511000) (lM : Ms.length ≤ 17592186044000) (hM : ∀ x ∈ Ms, x < 18446744073709551616) :
    Calls Try.prog 4 #[.agg #[vg, vc], vm] w fun e w' => e = .returned (.bool true) ∧ Below w.heap.size w w' := by
  have kG := fun (X : World) (hX : Below w.heap.size w X) => ref7Grid_any G C vg vc X (h1.below hX) (h2.below hX) lG lC
  have B0' := h1.any
  cases hg : gridB G C with
  | false =>
    rw [hg] at kG
    obtain ⟨am, cm, rfl, -⟩ := h3.any
    have kR := fun (X : World) (hX : Below w.heap.size w X) => run_bad G C vg vc am Ms.length cm X (h1.below hX) (h2.below hX) lG lC hg
    obtain ⟨va, cg, rfl, -⟩ := h1.any
    obtain ⟨vb, cc, rfl, -⟩ := h2.any
    have B0 : Has (w.alloc (.cells #[.slice va G.length cg, .slice vb C.length cc] 25)) w.heap.size #[.slice va G.length cg, .slice vb C.length cc] := Has.new _ _ _ rfl
    have hb0 : Below w.heap.size w (w.alloc (.cells #[.slice va G.length cg, .slice vb C.length cc] 25)) := belN1
    clear h1 h2 h3 B0'
    go_enter Try.func4, Try.ntmps4
    go_wp2_with (first
      | (go_at_call 21; (with_reducible refine Calls.mono (kR _ (by exact hb0)) ?_); rintro e y1 ⟨rfl, hy1⟩; have hb1 := bel_after hb0 hb0.size hy1; have B1 := B0.below hy1; obtain ⟨_, b2, _⟩ := id B1; clear hy1)
      | (go_at_call 22; (with_reducible refine Calls.mono (kG _ (by exact hb1)) ?_); rintro e y2 ⟨rfl, hy2⟩; have hb2 := bel_after hb1 hb1.size hy2; clear hy2))
    go_ret
    exact ⟨rfl, hb2⟩
  | true =>
    rw [hg] at kG
    have l64 := grid_len hg
    have kR := fun (X : World) (hX : Below w.heap.size w X) => run_ok G C Ms vg vc vm X (h1.below hX) (h2.below hX) (h3.below hX) lG lC lM hM hg
    have kP := fun (X : World) (hX : Below w.heap.size w X) (g c : Nat) (hF : Film X (.slice (some ⟨g, 0, none⟩) (Ms.length + 1) c) G.length (Ms.length + 1) (fun j k => (runF G C Ms j).a k)) => headsPictures_any G C vg vc _ (Ms.length + 1) _ _ X (h1.below hX) (h2.below hX) l64 lC hF (by omega) (by omega) (run_safeF hg Ms)
    obtain ⟨va, cg, rfl, -⟩ := h1.any
    obtain ⟨vb, cc, rfl, -⟩ := h2.any
    obtain ⟨am, cm, rfl, -⟩ := h3.any
    have B0 : Has (w.alloc (.cells #[.slice va G.length cg, .slice vb C.length cc] 25)) w.heap.size #[.slice va G.length cg, .slice vb C.length cc] := Has.new _ _ _ rfl
    have hb0 : Below w.heap.size w (w.alloc (.cells #[.slice va G.length cg, .slice vb C.length cc] 25)) := belN1
    have wn : IntKind.i64.wrap ((Ms.length : Int) + 1) = (Ms.length : Int) + 1 := wrap64 _ (by omega)
    clear h1 h2 h3 B0' hg
    go_enter Try.func4, Try.ntmps4
    go_wp2_with (first
      | (go_at_call 21; (with_reducible refine Calls.mono (kR _ (by exact hb0)) ?_); rintro e y1 ⟨⟨g, c, rfl, ow⟩, hy1⟩; have hb1 := bel_after hb0 hb0.size hy1; have B1 := B0.below hy1; obtain ⟨_, b2, _⟩ := id B1; clear hy1)
      | (go_at_call 22; (with_reducible refine Calls.mono (kG _ (by exact hb1)) ?_); rintro e y2 ⟨rfl, hy2⟩; have hb2 := bel_after hb1 hb1.size hy2; have ow2 := own_bel ow hy2; have B2 := B1.below hy2; obtain ⟨_, b3, _⟩ := id B2; clear hy2)
      | (go_at_call 23; (with_reducible refine Calls.mono (kP _ (by exact hb2) g c (film_run ow2)) ?_); rintro e y3 ⟨rfl, hy3⟩; have hb3 := bel_after hb2 hb2.size hy3; clear hy3))
    go_ret
    exact ⟨rfl, hb3⟩
end Go.Proofs.Ytbonmajnkbggcab
