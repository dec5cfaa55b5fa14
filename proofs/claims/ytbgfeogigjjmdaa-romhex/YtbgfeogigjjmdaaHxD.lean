import Derived.Test.YtbgfeogigjjmdaaHxC
namespace Go.Proofs.Ytbgfeogigjjmdaa
open Go.RowKit
set_option linter.unusedVariables false

/-- A builder and what it holds. -/
def Bd (B b : Nat) (X : List Nat) (w : World) : Prop := Lib.IsBuilder 52 5 B b (v8 X) w ∧ B ≤ w.heap.size
theorem Bd.lt {B b : Nat} {X : List Nat} {w : World} (h : Bd B b X w) : b < w.heap.size := by
  rcases h.1 with ⟨_, v, hb, _⟩ | ⟨_, v, hb, _⟩ <;> exact (Array.getElem?_eq_some_iff.1 hb).1
theorem isB_below {B b : Nat} {xs : List Value} {w w' : World} (h : Lib.IsBuilder 52 5 B b xs w) (hb : Below w.heap.size w w') : Lib.IsBuilder 52 5 B b xs w' := by
  have key : ∀ p, Lib.BuilderAt 52 5 B b p xs w → Lib.BuilderAt 52 5 B b p xs w' := by
    rintro p ⟨h1, v, h2, h3, h4⟩
    refine ⟨h1, v, (hb.block b (Array.getElem?_eq_some_iff.1 h2).1).trans h2, ?_, h4⟩
    refine ⟨h3.1, ?_⟩
    rcases h3.2 with h0 | ⟨g, cap, cur, rfl, e2, e3, e4⟩
    · exact .inl h0
    · exact .inr ⟨g, cap, cur, rfl, e2, (hb.block g (Array.getElem?_eq_some_iff.1 e3).1).trans e3, e4⟩
  rcases h with h | h
  · exact .inl (key _ h)
  · exact .inr (key _ h)
theorem Bd.below {B b : Nat} {X : List Nat} {w w' : World} (h : Bd B b X w) (hb : Below w.heap.size w w') : Bd B b X w' := ⟨isB_below h.1 hb, Nat.le_trans h.2 hb.size⟩
theorem writeB (B b : Nat) (X : List Nat) (c : Nat) (w : World) (h : Bd B b X w) (hlen : X.length + 1 ≤ 140737488355328) :
    Calls Try.prog 25 #[.pointer (some ⟨b, 0, none⟩), .int .u8 (c : Int)] w fun e w' => e = .returned .nilIface ∧ Bd B b (X ++ [c]) w' ∧ Below B w w' ∧ Kp b w w' :=
  (writeByte_any B b (v8 X) c w h.1 (by rw [v8_len]; exact hlen) h.2).mono fun e w' ⟨h1, h2, h3, h4⟩ => ⟨h1, ⟨.inr (by rw [v8_app]; exact h2), Nat.le_trans h.2 h3.size⟩, h3, h4⟩

set_option maxRecDepth 100000 in
set_option maxHeartbeats 4000000 in
theorem digits_any (B b : Nat) (X L : List Nat) (a : Option Addr) (cap : Nat) (w : World) (hX : Bd B b X w) (hL : Bsa b w a L) (hlen : X.length + 2 * L.length ≤ 140737488355328) :
    Calls Try.prog 26 #[.pointer (some ⟨b, 0, none⟩), .slice a L.length cap] w fun e w' => e = .returned (.int .u8 ((L.sum % 256 : Nat) : Int)) ∧ Bd B b (X ++ hx L) w' ∧ Below B w w' ∧ Kp b w w' := by
  have hX' : Hid (Bd B b X w) := hX
  have hL' : Hid (Bsa b w a L) := hL
  clear hX hL
  go_enter Try.func26, Try.ntmps26
  go_wp2
  go_loopg [5, 10] L.length (fun gk s i wr => ∃ (k S : Nat), k + gk = L.length ∧ i = .int .i64 k ∧ s = .int .u8 (S : Int) ∧ S = (L.take k).sum % 256 ∧ Hid (Bd B b (X ++ hx (L.take k)) wr) ∧ Hid (Below B w wr) ∧ Hid (Kp b w wr))
  case atStart => exact ⟨0, 0, by omega, rfl, rfl, rfl, by simpa [hx] using hX', Below.refl _ _, Kp.refl _ _⟩
  case round =>
    obtain ⟨k, S, hk, rfl, rfl, hS, hBd, hBe, hKp⟩ := hrel
    have hS' : Hid (S = (L.take k).sum % 256) := hS
    have hS1 : S < 256 := by omega
    clear hS
    by_cases hlt : k < L.length
    · have hLr := hL'.out.kp hKp.out
      obtain ⟨d, o, rfl, hd, hc⟩ := hLr.1.cell (by omega)
      have e1 := hc k hlt
      have hx0 := getD_lt hLr.1.1 k
      have hT : Hid (L.take (k + 1) = L.take k ++ [L.getD k 0]) := by
        show _ = _
        rw [List.take_succ_eq_append_getElem hlt, List.getD_eq_getElem?_getD, List.getElem?_eq_getElem hlt]; rfl
      clear hc hLr
      generalize L.getD k 0 = x at e1 hx0 hT
      have hk0 : (0 : Int) ≤ (k : Int) := by omega
      have hk1 : (k : Int) < (L.length : Int) := by omega
      have hH : Hid (h2 x = [hl (x / 16), hl (x % 16)]) := rfl
      have t1 : ∀ w : World, Sem.run Try.prog (Instr.index 9 (.string ⟨#[48, 49, 50, 51, 52, 53, 54, 55, 56, 57, 65, 66, 67, 68, 69, 70]⟩) (.int .u8 ((x : Int) / 16))) w = .ok (.int .u8 ((hl (x / 16) : Nat) : Int)) w := fun w => by
        have := tab_at (x / 16) (by omega) w
        rw [show ((x / 16 : Nat) : Int) = (x : Int) / 16 by simp] at this
        exact this
      have t2 := tab_at (x % 16) (by omega)
      have q1 : bits .and .u8 (x : Int) 15 = ((x % 16 : Nat) : Int) := by
        rw [show (15 : Int) = ((15 : Nat) : Int) from rfl, u8_and_nat x 15 hx0 (by decide), Go.nat_mask4]
      generalize hl (x / 16) = c1 at hH t1
      generalize hl (x % 16) = c2 at hH t2
      generalize x % 16 = x2 at q1 t2
      have hXl : (X ++ hx (L.take k)).length + 2 ≤ 140737488355328 := by
        rw [List.length_append, hx_len, List.length_take]; omega
      have hApp : Hid ((X ++ hx (L.take k)) ++ [c1] ++ [c2] = X ++ hx (L.take (k + 1))) := by
        show _ = _
        rw [hT.out, hx_app, show hx [x] = h2 x by simp [hx], hH.out]; simp
      generalize X ++ hx (L.take k) = Y at hBd hXl hApp
      have hbl := hBd.out.lt
      have hw1 := writeB B b Y c1 wr.drew (hBd.out.below (Below.refl _ _).drew) (by omega)
      have hE0 : Below B w wr.drew := hBe.out.drew
      have hK0 : Kp b w wr.drew := hKp.out.trans (Kp.below (Below.refl _ _).drew hbl)
      go_upto_region 5 with fail
      clear hBd hBe hKp e1
      go_region_with (go_at_call 25; (with_reducible refine Calls.mono hw1 ?_); rintro e w1 ⟨rfl, hB1, hE1, hK1⟩)
      clear hw1
      have hw2 := writeB B b (Y ++ [c1]) c2 w1.drew (hB1.below (Below.refl _ _).drew) (by rw [List.length_append]; simp; omega)
      have hE2 : Below B w w1.drew := (hE0.trans hE1).drew
      have hK2 : Kp b w w1.drew := (hK0.trans hK1).trans (Kp.below (Below.refl _ _).drew hB1.lt)
      clear hE0 hE1 hK0 hK1
      go_upto_region 6 with fail
      go_region_with (go_at_call 25; (with_reducible refine Calls.mono hw2 ?_); rintro e w3 ⟨rfl, hB3, hE3, hK3⟩)
      clear hw2
      rw [hApp.out] at hB3
      go_wp2
      go_roundg (L.length - (k + 1))
      case measure => go_light; omega
      case rel => exact ⟨k + 1, (S + x) % 256, by omega, by go_num, by go_num, by rw [hT.out, List.sum_append, hS'.out]; simp, hB3, hE2.trans hE3, hK2.trans hK3⟩
    · obtain rfl : k = L.length := by omega
      have hx : ¬ (L.length : Int) < (L.length : Int) := by omega
      rw [List.take_length] at hBd
      have hS2 : Hid (S = L.sum % 256) := by
        show _ = _
        rw [hS'.out, List.take_length]
      clear hS'
      go_wp2
      go_ret
      exact ⟨ret_int (by have := hS2.out; omega), hBd, hBe, hKp⟩
end Go.Proofs.Ytbgfeogigjjmdaa
