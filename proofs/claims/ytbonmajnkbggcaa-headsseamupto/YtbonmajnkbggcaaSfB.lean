import Derived.Test.YtbonmajnkbggcaaSfA
import Derived.Deep.RegionHeld3
namespace Go.Proofs.Ytbonmajnkbggcaa
open Go.RowKit
set_option linter.unusedVariables false

set_option maxRecDepth 100000 in
set_option maxHeartbeats 4000000 in
theorem headsClear_any (G : List Gp) (C : List Cf) (vg vc : Value) (s : ByteArray) (f : Nat → Int) (w : World) (h1 : Fl 5 Gp.cs w vg G) (h2 : Fl 4 Cf.cs w vc C) (lG : G.length ≤ 64) (lC : C.length ≤ 4398046511000)
    (hs : s.size = G.length) (hl : ∀ (k : Nat) (h : k < s.size), (s[k]'h).toNat = (letN (f k)).toNat) (h4 : ∀ k, k < G.length → f k = 0 ∨ f k = 1 ∨ f k = 2 ∨ f k = 3)
    (hc : ∀ c ∈ C, 0 ≤ c.a ∧ c.a < c.b ∧ c.b < (G.length : Int)) (hz : ∀ c ∈ C, f c.a.toNat = 0 ∨ f c.b.toNat = 0) :
    Calls Try.prog 26 #[.agg #[vg, vc], .string s] w fun e w' => e = .returned (.bool true) ∧ Below w.heap.size w w' := by
  obtain ⟨va, cg, rfl, -⟩ := h1.any
  obtain ⟨vb, cc, rfl, hk⟩ := h2.any
  clear h1 h2
  have B0 : Has (w.alloc (.cells #[.slice va G.length cg, .slice vb C.length cc] 25)) w.heap.size #[.slice va G.length cg, .slice vb C.length cc] := Has.new _ _ _ rfl
  have hb0 : Below w.heap.size w (w.alloc (.cells #[.slice va G.length cg, .slice vb C.length cc] 25)) := belN1
  obtain ⟨_, b1, _⟩ := id B0
  have hS : Hid (s.size = G.length) := hs
  have i0 : (s.size : Int) = (G.length : Int) := by omega
  clear hs
  go_enter Try.func26, Try.ntmps26
  go_wp2
  clear b1
  generalize (w.alloc (.cells #[.slice va G.length cg, .slice vb C.length cc] 25)) = W0 at *
  go_loopw [5] (fun t wr => ∃ k : Nat, k ≤ G.length ∧ t = .int .i64 (k : Int) ∧ wr = W0) (fun t _ => G.length - (intOf t).toNat)
  case atStart => exact ⟨0, by omega, rfl, rfl⟩
  case round =>
    obtain ⟨k, hkl, rfl, rfl⟩ := hrel
    by_cases hlt : k < G.length
    · have hks : k < s.size := by rw [hS.out]; exact hlt
      have hq := hl k hks
      have t1 : (k : Int) < (G.length : Int) := by omega
      have t0 : (0 : Int) ≤ (k : Int) := by omega
      rcases h4 k hlt with e | e | e | e
      · rw [e, let0] at hq
        clear hl h4 hc hz hk
        go_wp2
        go_roundw
        case rel => exact ⟨k + 1, by omega, by go_num, trivial⟩
        case measure => simp [intOf]; omega
      · rw [e, let1] at hq
        clear hl h4 hc hz hk
        go_wp2
        go_roundw
        case rel => exact ⟨k + 1, by omega, by go_num, trivial⟩
        case measure => simp [intOf]; omega
      · rw [e, let2] at hq
        clear hl h4 hc hz hk
        go_wp2
        go_roundw
        case rel => exact ⟨k + 1, by omega, by go_num, trivial⟩
        case measure => simp [intOf]; omega
      · rw [e, let3] at hq
        clear hl h4 hc hz hk
        go_wp2
        go_roundw
        case rel => exact ⟨k + 1, by omega, by go_num, trivial⟩
        case measure => simp [intOf]; omega
    · have t1 : ¬ (k : Int) < (G.length : Int) := by omega
      go_wp2
      go_loopw [6] (fun t wr => ∃ k : Nat, k ≤ C.length ∧ t = .int .i64 (k : Int) ∧ Hid (Has wr w.heap.size #[.slice va G.length cg, .slice vb C.length cc]) ∧ Hid (Below w.heap.size w wr)) (fun t _ => C.length - (intOf t).toNat)
      case atStart => exact ⟨0, by omega, rfl, B0, hb0⟩
      case round =>
        clear B0 hb0 t1 hkl
        obtain ⟨k, hkl, rfl, B, hb⟩ := hrel
        obtain ⟨_, b1, _⟩ := id B.out
        by_cases hlt : k < C.length
        · obtain ⟨g, o, rfl, hg, P⟩ := hk.resolve_left (by intro e; rw [e] at hlt; simp at hlt)
          have p0 := (hb.out.cell (p := ⟨g, _, none⟩) hg).trans (P k hlt 0 _ rfl)
          have p1 := (hb.out.cell (p := ⟨g, _, none⟩) hg).trans (P k hlt 1 _ rfl)
          have p2 := (hb.out.cell (p := ⟨g, _, none⟩) hg).trans (P k hlt 2 _ rfl)
          have p3 := (hb.out.cell (p := ⟨g, _, none⟩) hg).trans (P k hlt 3 _ rfl)
          simp only [Nat.add_zero] at p0
          obtain ⟨m1, m2, m3⟩ := hc C[k] (List.getElem_mem hlt)
          have mz := hz C[k] (List.getElem_mem hlt)
          generalize C[k].a = xa at *
          generalize C[k].b = xb at *
          generalize C[k].ab = xab at *
          generalize C[k].ba = xba at *
          have u1 : xa < (G.length : Int) := by omega
          have u2 : (0 : Int) ≤ xb := by omega
          have qa := hl xa.toNat (by rw [hS.out]; omega)
          have qb := hl xb.toNat (by rw [hS.out]; omega)
          have fa := h4 xa.toNat (by omega)
          have fb := h4 xb.toNat (by omega)
          have t1 : (k : Int) < (C.length : Int) := by omega
          have t0 : (0 : Int) ≤ (k : Int) := by omega
          have t2 : k + 1 ≤ C.length := hlt
          clear P hk hl h4 hc hz
          have hbN : Below w.heap.size w (wr.alloc (.cells #[.int .i64 xa, .int .i64 xb, .int .i64 xab, .int .i64 xba] 49)) := hb.out.alloc hb.out.size _
          have BN := B.out.alloc (.cells #[.int .i64 xa, .int .i64 xb, .int .i64 xab, .int .i64 xba] 49)
          by_cases z : f xa.toNat = 0
          · rw [z, let0] at qa
            clear qb mz fa fb z
            go_wp2
            go_roundw
            case rel => exact ⟨k + 1, by omega, by go_num, BN, hbN⟩
            case measure => simp [intOf]; omega
          · have zb := mz.resolve_left z
            rw [zb, let0] at qb
            rcases fa with e | e | e | e
            · exact absurd e z
            · rw [e, let1] at qa
              clear mz fb z zb e
              go_wp2
              go_roundw
              case rel => exact ⟨k + 1, by omega, by go_num, BN, hbN⟩
              case measure => simp [intOf]; omega
            · rw [e, let2] at qa
              clear mz fb z zb e
              go_wp2
              go_roundw
              case rel => exact ⟨k + 1, by omega, by go_num, BN, hbN⟩
              case measure => simp [intOf]; omega
            · rw [e, let3] at qa
              clear mz fb z zb e
              go_wp2
              go_roundw
              case rel => exact ⟨k + 1, by omega, by go_num, BN, hbN⟩
              case measure => simp [intOf]; omega
        · have t1 : ¬ (k : Int) < (C.length : Int) := by omega
          go_wp2
          go_ret
          exact ⟨rfl, hb.out⟩
end Go.Proofs.Ytbonmajnkbggcaa
