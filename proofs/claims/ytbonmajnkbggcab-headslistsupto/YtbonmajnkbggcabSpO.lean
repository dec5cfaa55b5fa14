import Derived.Test.YtbonmajnkbggcabSpJ
import Derived.Deep.RegionHeld3
namespace Go.Proofs.Ytbonmajnkbggcab
open Go.RowKit
set_option linter.unusedVariables false


/-- A list that may be written. -/
def Cw (w : World) (v : Value) (n : Nat) : Prop := ∃ a c, v = .slice a n c ∧ (n = 0 ∨ ∃ r, a = some ⟨r, 0, none⟩ ∧ ∀ j, j < n → (∃ x, w.cell? ⟨r, j, none⟩ = some x) ∧ w.frozen? ⟨r, j, none⟩ = false)
theorem Cw.below {w w' : World} {v : Value} {n : Nat} (h : Cw w v n) (hb : Below w.heap.size w w') : Cw w' v n := by
  obtain ⟨a, c, e, h⟩ := h
  refine ⟨a, c, e, h.imp id ?_⟩
  rintro ⟨r, er, h⟩
  refine ⟨r, er, fun j hj => ?_⟩
  obtain ⟨⟨x, hx⟩, hf⟩ := h j hj
  have hr : r < w.heap.size := cell_ltF hx
  exact ⟨⟨x, (hb.cell (p := ⟨r, j, none⟩) hr).trans hx⟩, (hb.frozen (p := ⟨r, j, none⟩) hr).trans hf⟩
theorem Cw.set {w : World} {v : Value} {n q i : Nat} {u : Value} (h : Cw w v n) : Cw (w.setCell ⟨q, i, none⟩ u) v n := by
  obtain ⟨a, c, e, h⟩ := h
  refine ⟨a, c, e, h.imp id ?_⟩
  rintro ⟨r, er, h⟩
  refine ⟨r, er, fun j hj => ?_⟩
  obtain ⟨⟨x, hx⟩, hf⟩ := h j hj
  refine ⟨?_, by rw [World.frozen?_setCell]; exact hf⟩
  by_cases e : (⟨q, i, none⟩ : Addr) = ⟨r, j, none⟩
  · rw [e]; exact ⟨u, World.cell?_setCell_same w _ u hx⟩
  · rw [World.cell?_setCell_other w ⟨q, i, none⟩ ⟨r, j, none⟩ u (fun h => e (by first | exact h | exact h.symm))]; exact ⟨x, hx⟩
theorem Cw.own {w : World} {base e n : Nat} {v : Value} {xs : List Value} (h : w.ownsRow base e 1 v n xs) : Cw w v n := by
  obtain ⟨a, c, rfl⟩ := own_form h
  refine ⟨a, c, rfl, ?_⟩
  rcases Nat.eq_zero_or_pos n with h0 | h0
  · exact .inl h0
  · obtain ⟨g, cap, ev, _, _, _⟩ := own_block h h0
    obtain ⟨rfl, rfl⟩ : a = some ⟨g, 0, none⟩ ∧ c = cap := by injection ev with q1 _ q2; exact ⟨q1, q2⟩
    exact .inr ⟨g, rfl, fun j hj => ⟨own_some h j (by omega), h.frozenAt j⟩⟩
def blk3 (u1 u2 u3 : Value) : Nat → Prop := fun q => u1.ownBlock = some q ∨ u2.ownBlock = some q ∨ u3.ownBlock = some q
theorem ownBlock_slice (r n c : Nat) : (Value.slice (some ⟨r, 0, none⟩) n c).ownBlock = some r := rfl
set_option maxRecDepth 100000 in
set_option maxHeartbeats 4000000 in
theorem spoil_any (u1 u2 u3 : Value) (n1 n2 n3 : Nat) (mk : Int) (w : World) (h1 : Cw w u1 n1) (h2 : Cw w u2 n2) (h3 : Cw w u3 n3) (l1 : n1 ≤ 35184372088000) (l2 : n2 ≤ 35184372088000) (l3 : n3 ≤ 35184372088000) :
    Calls Try.prog 28 #[.agg #[u1, u2, u3], .int .i64 mk] w fun e w' => e = .returned (.tuple #[]) ∧ Only (blk3 u1 u2 u3) w w' := by
  obtain ⟨a1, c1, rfl, k1⟩ := id h1
  obtain ⟨a2, c2, rfl, k2⟩ := id h2
  obtain ⟨a3, c3, rfl, k3⟩ := id h3
  have lt1 : ∀ r, a1 = some ⟨r, 0, none⟩ → 0 < n1 → r < w.heap.size := fun r e h0 => by
    obtain ⟨r', e', h⟩ := k1.resolve_left (by omega); rw [e] at e'; injection e' with e'; injection e' with e'; subst e'; obtain ⟨x, hx⟩ := (h 0 h0).1; exact cell_ltF hx
  have lt2 : ∀ r, a2 = some ⟨r, 0, none⟩ → 0 < n2 → r < w.heap.size := fun r e h0 => by
    obtain ⟨r', e', h⟩ := k2.resolve_left (by omega); rw [e] at e'; injection e' with e'; injection e' with e'; subst e'; obtain ⟨x, hx⟩ := (h 0 h0).1; exact cell_ltF hx
  have lt3 : ∀ r, a3 = some ⟨r, 0, none⟩ → 0 < n3 → r < w.heap.size := fun r e h0 => by
    obtain ⟨r', e', h⟩ := k3.resolve_left (by omega); rw [e] at e'; injection e' with e'; injection e' with e'; subst e'; obtain ⟨x, hx⟩ := (h 0 h0).1; exact cell_ltF hx
  have B0 : Has (w.alloc (.cells #[.slice a1 n1 c1, .slice a2 n2 c2, .slice a3 n3 c3] 29)) w.heap.size #[.slice a1 n1 c1, .slice a2 n2 c2, .slice a3 n3 c3] := Has.new _ _ _ rfl
  have hb0 : Below w.heap.size w (w.alloc (.cells #[.slice a1 n1 c1, .slice a2 n2 c2, .slice a3 n3 c3] 29)) := belN1
  have O0 : Only (blk3 (.slice a1 n1 c1) (.slice a2 n2 c2) (.slice a3 n3 c3)) w (w.alloc (.cells #[.slice a1 n1 c1, .slice a2 n2 c2, .slice a3 n3 c3] 29)) := Only.of_below hb0
  replace h1 := h1.below hb0
  replace h2 := h2.below hb0
  replace h3 := h3.below hb0
  clear hb0 k1 k2 k3
  go_enter Try.func28, Try.ntmps28
  go_wp2
  generalize (w.alloc (.cells #[.slice a1 n1 c1, .slice a2 n2 c2, .slice a3 n3 c3] 29)) = W0 at *
  go_loopw [4] (fun t wr => ∃ k : Nat, k ≤ n1 ∧ t = .int .i64 (k : Int) ∧ Hid (Cw wr (.slice a1 n1 c1) n1) ∧ Hid (Cw wr (.slice a2 n2 c2) n2) ∧ Hid (Cw wr (.slice a3 n3 c3) n3) ∧ Hid (Has wr w.heap.size #[.slice a1 n1 c1, .slice a2 n2 c2, .slice a3 n3 c3]) ∧ Hid (Only (blk3 (.slice a1 n1 c1) (.slice a2 n2 c2) (.slice a3 n3 c3)) w wr)) (fun t _ => n1 - (intOf t).toNat)
  case atStart => exact ⟨0, by omega, rfl, h1, h2, h3, B0, O0⟩
  case round =>
    clear h1 h2 h3 B0 O0
    obtain ⟨k, hkl, rfl, p1', p2', p3', Bx', O'⟩ := hrel
    have p1 := p1'.out
    have p2 := p2'.out
    have p3 := p3'.out
    have Bx := Bx'.out
    have O := O'.out
    clear p1' p2' p3' Bx' O'
    obtain ⟨_, b1, _⟩ := id Bx
    by_cases hlt : k < n1
    · obtain ⟨a', c', e', kk⟩ := id p1
      obtain ⟨rfl, rfl⟩ : a1 = a' ∧ c1 = c' := by injection e' with q1 _ q2; exact ⟨q1, q2⟩
      obtain ⟨r, rfl, hh⟩ := kk.resolve_left (by omega)
      obtain ⟨⟨x, hx⟩, hf⟩ := hh k hlt
      have hr := lt1 r rfl (by omega)
      have hS : blk3 (.slice (some ⟨r, 0, none⟩) n1 c1) (.slice a2 n2 c2) (.slice a3 n3 c3) r := .inl rfl
      have t1 : (k : Int) < (n1 : Int) := by omega
      have t0 : (0 : Int) ≤ (k : Int) := by omega
      have t2 : k + 1 ≤ n1 := hlt
      clear hh kk e'
      go_wp2
      go_roundw
      case rel => exact ⟨k + 1, by omega, by go_num, p1.set, p2.set, p3.set, Bx.far (by omega) _, O.set hS _⟩
      case measure => simp [intOf]; omega
    · have t1 : ¬ (k : Int) < (n1 : Int) := by omega
      go_wp2
      clear t1 hlt b1 hkl
      go_loopw [5] (fun t wr => ∃ k : Nat, k ≤ n2 ∧ t = .int .i64 (k : Int) ∧ Hid (Cw wr (.slice a1 n1 c1) n1) ∧ Hid (Cw wr (.slice a2 n2 c2) n2) ∧ Hid (Cw wr (.slice a3 n3 c3) n3) ∧ Hid (Has wr w.heap.size #[.slice a1 n1 c1, .slice a2 n2 c2, .slice a3 n3 c3]) ∧ Hid (Only (blk3 (.slice a1 n1 c1) (.slice a2 n2 c2) (.slice a3 n3 c3)) w wr)) (fun t _ => n2 - (intOf t).toNat)
      case atStart => exact ⟨0, by omega, rfl, p1, p2, p3, Bx, O⟩
      case round =>
        clear p1 p2 p3 Bx O
        obtain ⟨k, hkl, rfl, p1', p2', p3', Bx', O'⟩ := hrel
        have p1 := p1'.out
        have p2 := p2'.out
        have p3 := p3'.out
        have Bx := Bx'.out
        have O := O'.out
        clear p1' p2' p3' Bx' O'
        obtain ⟨_, b1, _⟩ := id Bx
        by_cases hlt : k < n2
        · obtain ⟨a', c', e', kk⟩ := id p2
          obtain ⟨rfl, rfl⟩ : a2 = a' ∧ c2 = c' := by injection e' with q1 _ q2; exact ⟨q1, q2⟩
          obtain ⟨r, rfl, hh⟩ := kk.resolve_left (by omega)
          obtain ⟨⟨x, hx⟩, hf⟩ := hh k hlt
          have hr := lt2 r rfl (by omega)
          have hS : blk3 (.slice a1 n1 c1) (.slice (some ⟨r, 0, none⟩) n2 c2) (.slice a3 n3 c3) r := .inr (.inl rfl)
          have t1 : (k : Int) < (n2 : Int) := by omega
          have t0 : (0 : Int) ≤ (k : Int) := by omega
          have t2 : k + 1 ≤ n2 := hlt
          clear hh kk e'
          go_wp2
          go_roundw
          case rel => exact ⟨k + 1, by omega, by go_num, p1.set, p2.set, p3.set, Bx.far (by omega) _, O.set hS _⟩
          case measure => simp [intOf]; omega
        · have t1 : ¬ (k : Int) < (n2 : Int) := by omega
          go_wp2
          clear t1 hlt b1 hkl
          go_loopw [6] (fun t wr => ∃ k : Nat, k ≤ n3 ∧ t = .int .i64 (k : Int) ∧ Hid (Cw wr (.slice a1 n1 c1) n1) ∧ Hid (Cw wr (.slice a2 n2 c2) n2) ∧ Hid (Cw wr (.slice a3 n3 c3) n3) ∧ Hid (Has wr w.heap.size #[.slice a1 n1 c1, .slice a2 n2 c2, .slice a3 n3 c3]) ∧ Hid (Only (blk3 (.slice a1 n1 c1) (.slice a2 n2 c2) (.slice a3 n3 c3)) w wr)) (fun t _ => n3 - (intOf t).toNat)
          case atStart => exact ⟨0, by omega, rfl, p1, p2, p3, Bx, O⟩
          case round =>
            clear p1 p2 p3 Bx O
            obtain ⟨k, hkl, rfl, p1', p2', p3', Bx', O'⟩ := hrel
            have p1 := p1'.out
            have p2 := p2'.out
            have p3 := p3'.out
            have Bx := Bx'.out
            have O := O'.out
            clear p1' p2' p3' Bx' O'
            obtain ⟨_, b1, _⟩ := id Bx
            by_cases hlt : k < n3
            · obtain ⟨a', c', e', kk⟩ := id p3
              obtain ⟨rfl, rfl⟩ : a3 = a' ∧ c3 = c' := by injection e' with q1 _ q2; exact ⟨q1, q2⟩
              obtain ⟨r, rfl, hh⟩ := kk.resolve_left (by omega)
              obtain ⟨⟨x, hx⟩, hf⟩ := hh k hlt
              have hr := lt3 r rfl (by omega)
              have hS : blk3 (.slice a1 n1 c1) (.slice a2 n2 c2) (.slice (some ⟨r, 0, none⟩) n3 c3) r := .inr (.inr rfl)
              have t1 : (k : Int) < (n3 : Int) := by omega
              have t0 : (0 : Int) ≤ (k : Int) := by omega
              have t2 : k + 1 ≤ n3 := hlt
              clear hh kk e'
              go_wp2
              go_roundw
              case rel => exact ⟨k + 1, by omega, by go_num, p1.set, p2.set, p3.set, Bx.far (by omega) _, O.set hS _⟩
              case measure => simp [intOf]; omega
            · have t1 : ¬ (k : Int) < (n3 : Int) := by omega
              go_wp2
              refine ⟨rfl, .tuple #[], ?_, rfl, O⟩
              simp [results, Try.results28, go_sem]
end Go.Proofs.Ytbonmajnkbggcab
