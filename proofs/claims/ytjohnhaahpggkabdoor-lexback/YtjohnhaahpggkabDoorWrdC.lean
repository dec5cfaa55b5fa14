import Derived.Test.YtjohnhaahpggkabDoorWrdB
namespace Go.Proofs.YtjohnhaahpggkabDoor
open Go.RowKit
set_option linter.unusedVariables false

/-- A token without its place. -/
structure Tk where
  kind : Int
  num : Int
  text : List UInt8
/-- A token's value at a place. -/
def tokV (t : Tk) (line col : Int) : Value := .agg #[.int .i64 t.kind, .int .i32 t.num, .string (bs t.text), .int .i64 line, .int .i64 col]

def wordTk (r : List UInt8) : Tk := if 32 < r.length then ⟨-1, 24, []⟩ else if kwK r = -1 then ⟨1, 0, r⟩ else ⟨kwK r, 0, []⟩
def numTk (r : List UInt8) : Tk := if numE (numOf r) = 0 then ⟨2, numV (numOf r), []⟩ else ⟨-1, numE (numOf r), []⟩
def signTk (l : List UInt8) : Tk × Nat :=
  if 2 ≤ l.length ∧ sgK (l.take 2) ≠ -1 then (⟨sgK (l.take 2), 0, []⟩, 2) else if sgK (l.take 1) ≠ -1 then (⟨sgK (l.take 1), 0, []⟩, 1) else (⟨-1, 21, []⟩, 0)
/-- The token that a text begins with, and its length. -/
def firstTk (l : List UInt8) : Tk × Nat :=
  if l = [] then (⟨0, 0, []⟩, 0) else if isL (l.headD 0) = true then (wordTk (runL l), (runL l).length) else if isD (l.headD 0) = true then (numTk (runL l), (runL l).length) else signTk l

theorem tokV_eq (k n : Int) (x : List UInt8) (a b : Int) : tokV ⟨k, n, x⟩ a b = .agg #[.int .i64 k, .int .i32 n, .string (bs x), .int .i64 a, .int .i64 b] := rfl
theorem bs_nil : bs [] = ⟨#[]⟩ := rfl

theorem Has.set5 {w : World} {b : Nat} {x0 x1 x2 x3 x4 : Value} (h : Has w b #[x0, x1, x2, x3, x4]) (y0 y1 y2 y3 y4 : Value) :
    Has (((((w.setCell ⟨b, 0, none⟩ y0).setCell ⟨b, 1, none⟩ y1).setCell ⟨b, 2, none⟩ y2).setCell ⟨b, 3, none⟩ y3).setCell ⟨b, 4, none⟩ y4) b #[y0, y1, y2, y3, y4] :=
  ((((h.set 0 (by simp) y0).set 1 (by simp) y1).set 2 (by simp) y2).set 3 (by simp) y3).set 4 (by simp) y4
theorem bel5 {B b : Nat} {a w : World} (h : Below B a w) (hb : B ≤ b) (y0 y1 y2 y3 y4 : Value) :
    Below B a (((((w.setCell ⟨b, 0, none⟩ y0).setCell ⟨b, 1, none⟩ y1).setCell ⟨b, 2, none⟩ y2).setCell ⟨b, 3, none⟩ y3).setCell ⟨b, 4, none⟩ y4) :=
  ((((h.setCell hb _).setCell hb _).setCell hb _).setCell hb _).setCell hb _

set_option maxRecDepth 100000 in
set_option maxHeartbeats 1000000 in
theorem badToken_any (e : Int) (w : World) (h0 : 0 ≤ e) (h1 : e ≤ 1000) : Calls Tryd.prog 30 #[.int .i64 e] w fun r w' => r = .returned (tokV ⟨-1, e, []⟩ 0 0) ∧ Below w.heap.size w w' := by
  rw [tokV_eq, bs_nil]
  go_enter Tryd.func30, Tryd.ntmps30
  go_wp2
  exact bodyPost_ret (v := .agg #[.int .i64 (-1), .int .i32 e, .string ⟨#[]⟩, .int .i64 0, .int .i64 0]) (by simp [results, Tryd.results30, go_sem]) rfl ⟨rfl, (Below.refl _ _).alloc (Nat.le_refl _) _⟩

set_option maxRecDepth 100000 in
set_option maxHeartbeats 2000000 in
theorem firstRun_any (s : ByteArray) (w : World) (hs : s.size < 4611686018427387904) :
    Calls Tryd.prog 44 #[.string s] w fun e w' => e = .returned (.string (s.extract 0 (rEnd s 0))) ∧ w' = w := by
  have hE : Hid (∀ q, 0 ≤ q → q ≤ s.size → (∀ j (hj : j < s.size), 0 ≤ j → j < q → isR s[j] = true) → (q = s.size ∨ ∃ h : q < s.size, isR s[q] = false) → rEnd s 0 = q) := fun q h1 h2 h3 h4 => rEnd_at s 0 q h1 h2 h3 h4
  generalize rEnd s 0 = E at hE ⊢
  go_enter Tryd.func44, Tryd.ntmps44
  go_wp2
  go_loop [3] (fun tj => ∃ q : Nat, q ≤ s.size ∧ tj = .int .i64 q ∧ ∀ j (hj : j < s.size), 0 ≤ j → j < q → isR s[j] = true) (fun tj => s.size - (intOf tj).toNat)
  case atStart => exact ⟨0, by omega, rfl, fun j hj h1 h2 => by omega⟩
  case round =>
    obtain ⟨q, hq, rfl, hall⟩ := hrel
    have HA : Hid (∀ j (hj : j < s.size), 0 ≤ j → j < q → isR s[j] = true) := hall
    clear hall
    by_cases hlt : q < s.size
    · have hLt := fun w => isLetter_any s[q] w
      have hDg := fun w => isDigit_any s[q] w
      have hi := isR_iff s[q]
      cases hr : isR s[q] with
      | true =>
        have HQ : Hid (isR s[q] = true) := hr
        have hcs : isL s[q] = true ∨ (isL s[q] = false ∧ isD s[q] = true) ∨ (isL s[q] = false ∧ isD s[q] = false ∧ (s[q].toNat : Int) = 95) := by
          rw [hr] at hi
          cases h1 : isL s[q] with
          | true => exact .inl rfl
          | false =>
            right
            cases h2 : isD s[q] with
            | true => exact .inl ⟨rfl, rfl⟩
            | false => right; rw [h1, h2] at hi; simp at hi; exact ⟨rfl, rfl, by omega⟩
        clear hr hi
        rcases hcs with h1 | ⟨h1, h2⟩ | ⟨h1, h2, h3⟩
        · rw [h1] at hLt
          clear h1
          go_wp2_with (first
            | (go_at_call 43; (with_reducible refine (hLt _).mono ?_); rintro e w' ⟨rfl, hwe⟩; subst hwe)
            | (go_at_call 46; (with_reducible refine (hDg _).mono ?_); rintro e w' ⟨rfl, hwe⟩; subst hwe))
          go_round
          case rel => exact ⟨q + 1, by omega, by go_num, fun j hj h1 h2 => by
            by_cases e : j = q
            · subst e; exact HQ.out
            · exact HA.out j hj h1 (by omega)⟩
          case measure => simp [intOf]; omega
        · rw [h1] at hLt
          rw [h2] at hDg
          clear h1 h2
          go_wp2_with (first
            | (go_at_call 43; (with_reducible refine (hLt _).mono ?_); rintro e w' ⟨rfl, hwe⟩; subst hwe)
            | (go_at_call 46; (with_reducible refine (hDg _).mono ?_); rintro e w' ⟨rfl, hwe⟩; subst hwe))
          go_round
          case rel => exact ⟨q + 1, by omega, by go_num, fun j hj h1 h2 => by
            by_cases e : j = q
            · subst e; exact HQ.out
            · exact HA.out j hj h1 (by omega)⟩
          case measure => simp [intOf]; omega
        · rw [h1] at hLt
          rw [h2] at hDg
          clear h1 h2
          simp only [h3] at hLt hDg
          go_wp2_with (first
            | (go_at_call 43; (with_reducible refine (hLt _).mono ?_); rintro e w' ⟨rfl, hwe⟩; subst hwe)
            | (go_at_call 46; (with_reducible refine (hDg _).mono ?_); rintro e w' ⟨rfl, hwe⟩; subst hwe))
          go_round
          case rel => exact ⟨q + 1, by omega, by go_num, fun j hj h1 h2 => by
            by_cases e : j = q
            · subst e; exact HQ.out
            · exact HA.out j hj h1 (by omega)⟩
          case measure => simp [intOf]; omega
      | false =>
        have HE : Hid (E = q) := hE.out q (by omega) hq HA.out (.inr ⟨hlt, hr⟩)
        rw [hr] at hi
        have h1 : isL s[q] = false := by
          cases h : isL s[q] with
          | false => rfl
          | true => rw [h] at hi; simp at hi
        have h2 : isD s[q] = false := by
          cases h : isD s[q] with
          | false => rfl
          | true => rw [h] at hi; simp at hi
        have h3 : ¬ (s[q].toNat : Int) = 95 := by
          intro h; rw [h1, h2] at hi; simp at hi; omega
        rw [h1] at hLt
        rw [h2] at hDg
        clear hr hi h1 h2
        go_wp2_with (first
          | (go_at_call 43; (with_reducible refine (hLt _).mono ?_); rintro e w' ⟨rfl, hwe⟩; subst hwe)
          | (go_at_call 46; (with_reducible refine (hDg _).mono ?_); rintro e w' ⟨rfl, hwe⟩; subst hwe))
        go_ret
        exact ⟨ret_str (by rw [HE.out]), rfl⟩
    · have HE : Hid (E = q) := hE.out q (by omega) hq HA.out (.inl (by omega))
      go_wp2
      go_ret
      exact ⟨ret_str (by rw [HE.out]), rfl⟩

set_option maxRecDepth 100000 in
set_option maxHeartbeats 1000000 in
theorem wordToken_any (s : ByteArray) (w : World) (hs : s.size < 4611686018427387904) (hW : Wt w) :
    Calls Tryd.prog 45 #[.string s] w fun e w' => e = .returned (tokV (wordTk s.data.toList) 0 0) ∧ Below w.heap.size w w' := by
  have hsl : s.data.toList.length = s.size := by simp
  by_cases h32 : 32 < s.size
  · have e : wordTk s.data.toList = ⟨-1, 24, []⟩ := by unfold wordTk; rw [if_pos (by omega)]
    have hBt := fun w => badToken_any 24 w (by omega) (by omega)
    rw [e]
    rw [tokV_eq, bs_nil] at hBt ⊢
    have h32' : (32 : Int) < (s.size : Int) := by omega
    clear e
    go_enter Tryd.func45, Tryd.ntmps45
    go_wp2_with (go_at_call 30; (with_reducible refine (hBt _).mono ?_); rintro e w1 ⟨rfl, hb1⟩; have hX := (Has.new w #[.int .i64 0, .int .i32 0, .string ⟨#[]⟩, .int .i64 0, .int .i64 0] 27 rfl).below hb1; obtain ⟨x0, X1, x2⟩ := id hX)
    obtain ⟨y0, Y1, y2⟩ := hX.set5 (.int .i64 (-1)) (.int .i32 24) (.string ⟨#[]⟩) (.int .i64 0) (.int .i64 0)
    exact bodyPost_ret (v := .agg #[.int .i64 (-1), .int .i32 24, .string ⟨#[]⟩, .int .i64 0, .int .i64 0]) (by simp [results, Tryd.results45, go_sem, Y1]) rfl ⟨rfl, bel5 (((Below.refl _ _).alloc (Nat.le_refl _) _).trans (hb1.mono (by simp))) (Nat.le_refl _) _ _ _ _ _⟩
  · have h32' : ¬ (32 : Int) < (s.size : Int) := by omega
    have hKA := fun w (h : Wt w) => kindAmong_kw s w h
    by_cases hk : kwK s.data.toList = -1
    · have e : wordTk s.data.toList = ⟨1, 0, s.data.toList⟩ := by unfold wordTk; rw [if_neg (by omega), if_pos hk]
      rw [hk] at hKA
      rw [e, tokV_eq, bs_data]
      clear e hk hsl
      have hW1 := hKA _ (hW.below ((Below.refl w.heap.size w).alloc (Nat.le_refl _) (.cells #[.int .i64 0, .int .i32 0, .string ⟨#[]⟩, .int .i64 0, .int .i64 0] 27)) hW.1)
      clear hKA
      go_enter Tryd.func45, Tryd.ntmps45
      go_wp2_with (go_at_call 53; (with_reducible refine hW1.mono ?_); rintro e w1 ⟨rfl, hwe⟩; subst hwe)
      exact bodyPost_ret (v := .agg #[.int .i64 1, .int .i32 0, .string s, .int .i64 0, .int .i64 0]) (by simp [results, Tryd.results45, go_sem]) rfl ⟨rfl, (Below.refl _ _).alloc (Nat.le_refl _) _⟩
    · have e : wordTk s.data.toList = ⟨kwK s.data.toList, 0, []⟩ := by unfold wordTk; rw [if_neg (by omega), if_neg hk]
      rw [e, tokV_eq, bs_nil]
      have hW1 := hKA _ (hW.below ((Below.refl w.heap.size w).alloc (Nat.le_refl _) (.cells #[.int .i64 0, .int .i32 0, .string ⟨#[]⟩, .int .i64 0, .int .i64 0] 27)) hW.1)
      generalize kwK s.data.toList = K at *
      clear e hsl hKA
      go_enter Tryd.func45, Tryd.ntmps45
      go_wp2_with (go_at_call 53; (with_reducible refine hW1.mono ?_); rintro e w1 ⟨rfl, hwe⟩; subst hwe)
      exact bodyPost_ret (v := .agg #[.int .i64 K, .int .i32 0, .string ⟨#[]⟩, .int .i64 0, .int .i64 0]) (by simp [results, Tryd.results45, go_sem]) rfl ⟨rfl, (Below.refl _ _).alloc (Nat.le_refl _) _⟩
end Go.Proofs.YtjohnhaahpggkabDoor
