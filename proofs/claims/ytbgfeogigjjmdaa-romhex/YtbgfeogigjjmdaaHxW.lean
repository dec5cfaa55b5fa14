import Derived.Test.YtbgfeogigjjmdaaHxV
import Derived.Test.YtbgfeogigjjmdaaHxT
import Derived.BigQuiet
namespace Go.Proofs.Ytbgfeogigjjmdaa
open Go.RowKit
set_option linter.unusedVariables false

/-- What the loop lays down for the sign at place j. -/
def pcH (lo cr op : Bool) (n j c : Nat) : List Nat := (if c = 10 ∧ cr = true then [13] else []) ++ (if c ≠ 10 ∨ op = false ∨ j + 1 < n then [lw lo c] else [])
def outH (lo cr op : Bool) (S : List Nat) : Nat → List Nat
  | 0 => []
  | i + 1 => outH lo cr op S i ++ pcH lo cr op S.length i (S.getD i 0)
theorem pcH_len (lo cr op : Bool) (n j c : Nat) : (pcH lo cr op n j c).length ≤ 2 := by
  unfold pcH
  split <;> split <;> simp
theorem outH_len (lo cr op : Bool) (S : List Nat) : ∀ i, (outH lo cr op S i).length ≤ 2 * i
  | 0 => by simp [outH]
  | i + 1 => by
    have h1 := outH_len lo cr op S i
    have h2 := pcH_len lo cr op S.length i (S.getD i 0)
    unfold outH
    rw [List.length_append]; omega
def sgn (lo cr : Bool) (c : Nat) : List Nat := if c = 10 then eol cr else [lw lo c]
theorem outH_take (lo cr op : Bool) (S : List Nat) : ∀ i, i < S.length → outH lo cr op S i = (S.take i).flatMap (sgn lo cr)
  | 0, _ => by simp [outH]
  | i + 1, h => by
    unfold outH
    rw [outH_take lo cr op S i (by omega), List.take_succ_eq_append_getElem (by omega), List.flatMap_append]
    congr 1
    rw [List.getD_eq_getElem?_getD, List.getElem?_eq_getElem (by omega)]
    simp only [Option.getD_some, List.flatMap_cons, List.flatMap_nil, List.append_nil]
    unfold pcH sgn eol
    by_cases hc : S[i] = 10
    · rw [hc]
      cases cr <;> simp [h, lw]
    · simp [hc]
theorem sgn_line (lo cr : Bool) (l : List Nat) (h : 10 ∉ l) : l.flatMap (sgn lo cr) = l.map (lw lo) := by
  induction l with
  | nil => rfl
  | cons c r ih =>
    have hc : c ≠ 10 := fun e => h (by simp [e])
    rw [List.flatMap_cons, ih (fun e => h (by simp [e])), List.map_cons]
    simp [sgn, hc]
theorem sgn_lines (lo cr : Bool) : ∀ (ls : List (List Nat)), (∀ l ∈ ls, 10 ∉ l) → (ls.flatMap (· ++ [10])).flatMap (sgn lo cr) = (ls.map (List.map (lw lo))).flatMap (· ++ eol cr)
  | [], _ => rfl
  | l :: r, h => by
    rw [List.flatMap_cons, List.flatMap_append, sgn_lines lo cr r (fun x hx => h x (by simp [hx])), List.flatMap_append, sgn_line lo cr l (h l (by simp)), List.map_cons, List.flatMap_cons]
    simp [sgn]
theorem outH_all (lo cr op : Bool) (D : List Nat) (hD : ∀ x ∈ D, x < 256) : outH lo cr op (hexT D) (hexT D).length = dress lo cr op D ++ (if cr = true ∧ op = true then [13] else []) := by
  obtain ⟨g1, _, _⟩ := good_ne (good_rec (kind := 1) (address := 0) (L := []) (by omega) (by simp))
  have hS : hexT D = ((lnsK D ((D.length + 15) / 16)).flatMap (· ++ [10]) ++ recB 1 0 []) ++ [10] := by
    rw [hexT_lns]; unfold lns
    rw [List.flatMap_append]; simp
  have hlen : (hexT D).length = ((lnsK D ((D.length + 15) / 16)).flatMap (· ++ [10]) ++ recB 1 0 []).length + 1 := by rw [hS, List.length_append]; rfl
  rw [hlen]
  unfold outH
  rw [outH_take _ _ _ _ _ (by omega)]
  have e1 : (hexT D).take ((lnsK D ((D.length + 15) / 16)).flatMap (· ++ [10]) ++ recB 1 0 []).length = (lnsK D ((D.length + 15) / 16)).flatMap (· ++ [10]) ++ recB 1 0 [] := by
    rw [hS]; exact List.take_left
  have e2 : (hexT D).getD ((lnsK D ((D.length + 15) / 16)).flatMap (· ++ [10]) ++ recB 1 0 []).length 0 = 10 := by
    rw [hS, List.getD_eq_getElem?_getD, List.getElem?_append_right (Nat.le_refl _)]; simp
  rw [e1, e2, List.flatMap_append, sgn_lines lo cr _ (fun l hl => (good_ne (good_lns hD _ l hl)).1), sgn_line lo cr _ g1, hlen]
  unfold dress pcH
  cases cr <;> cases op <;> simp [eol, lw]
theorem lw_lt {lo : Bool} {c : Nat} (h : c < 256) : lw lo c < 256 := by unfold lw; split <;> omega
theorem outH_lt (lo cr op : Bool) (S : List Nat) (hS : ∀ x ∈ S, x < 256) : ∀ i, ∀ x ∈ outH lo cr op S i, x < 256
  | 0, x, h => by simp [outH] at h
  | i + 1, x, h => by
    unfold outH at h
    rw [List.mem_append] at h
    rcases h with h | h
    · exact outH_lt lo cr op S hS i x h
    · unfold pcH at h
      rw [List.mem_append] at h
      rcases h with h | h
      · split at h
        · simp at h; omega
        · simp at h
      · split at h
        · rw [List.mem_singleton] at h; subst h; exact lw_lt (getD_lt hS i)
        · simp at h
theorem dress_lt (lo cr op : Bool) (D : List Nat) (hD : ∀ x ∈ D, x < 256) : ∀ x ∈ dress lo cr op D, x < 256 := by
  intro x hx
  refine outH_lt lo cr op (hexT D) (hexT_lt D hD) (hexT D).length x ?_
  rw [outH_all lo cr op D hD]
  exact List.mem_append.2 (.inl hx)
theorem hexT_len (D : List Nat) (h : D.length ≤ 1048576) : (hexT D).length ≤ 4000000 := by
  have := hexK_len D ((D.length + 15) / 16)
  unfold hexT
  rw [List.length_append, recT_len]
  simp; omega

set_option maxRecDepth 100000 in
set_option maxHeartbeats 2000000 in
theorem romBytes_same (D : List Nat) (a1 a2 : Option Addr) (c1 c2 : Nat) (w : World) (h1 : Bs w a1 D) (h2 : Bs w a2 D) (hn : D.length ≤ 140737488355328) :
    Calls Try.prog 8 #[.slice a1 D.length c1, .slice a2 D.length c2] w fun e w' => e = .returned (.bool true) ∧ Below w.heap.size w w' := by
  have h1' : Hid (Bs w a1 D) := h1
  have h2' : Hid (Bs w a2 D) := h2
  clear h1 h2
  go_enter Try.func8, Try.ntmps8
  go_wp2
  go_loopg [5] D.length (fun gk i wr => ∃ k : Nat, k + gk = D.length ∧ i = .int .i64 k ∧ Hid (Below w.heap.size w wr))
  case atStart => exact ⟨0, by omega, rfl, Below.refl _ _⟩
  case round =>
    obtain ⟨k, hk, rfl, hB⟩ := hrel
    by_cases hlt : k < D.length
    · obtain ⟨b1, o1, rfl, hb1, hc1⟩ := (h1'.out.below hB.out).cell (by omega)
      obtain ⟨b2, o2, rfl, hb2, hc2⟩ := (h2'.out.below hB.out).cell (by omega)
      have e1 := hc1 k hlt
      have e2 := hc2 k hlt
      clear hc1 hc2
      generalize D.getD k 0 = x at e1 e2
      have hk0 : (0 : Int) ≤ (k : Int) := by omega
      have hk1 : (k : Int) < (D.length : Int) := by omega
      go_wp2
      go_quiet (fail)
      go_wp2
      go_roundg (D.length - (k + 1))
      case measure => go_light; omega
      case rel => exact ⟨k + 1, by omega, by go_num, bel_drewN hB.out⟩
    · have hk1 : ¬ (k : Int) < (D.length : Int) := by omega
      go_wp2
      go_ret
      exact ⟨rfl, hB.out⟩
end Go.Proofs.Ytbgfeogigjjmdaa
