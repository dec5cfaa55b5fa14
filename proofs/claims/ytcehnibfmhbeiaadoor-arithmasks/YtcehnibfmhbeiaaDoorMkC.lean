import Derived.Test.YtcehnibfmhbeiaaDoorMkB
import Derived.Test.YtcehnibfmhbeiaaDoorShelf
import Derived.Maps.AppendAt
import Derived.OwnWalk
namespace Go.Proofs.YtcehnibfmhbeiaaDoor
open Go.RowKit
set_option linter.unusedVariables false

def vals (l : List Nat) : List Value := l.map fun (i : Nat) => Value.int .i64 (i : Int)
theorem info3 : (Tryd.prog.info? 3).map (fun i => (i.zero, i.size, i.bytes)) = some (some (.int .i64 0), 1, 8) := by kernel_rfl
theorem mem_len : ∀ (f i m : Nat), (mem i f m).length ≤ f
  | 0, _, _ => by simp [mem]
  | f + 1, i, m => by
    have := mem_len f (i + 1) (m / 2)
    simp only [mem]
    split <;> simp <;> omega

theorem own_block {w : World} {base : Nat} {e : TypeId} {size : Nat} {v : Value} {n : Nat} {xs : List Value} (h : w.ownsRow base e size v n xs) {b : Nat} (hb : v.ownBlock = some b) : base ≤ b := by
  rcases h.2 with ⟨rfl, _⟩ | ⟨g, cap, cur, rfl, hg, _⟩
  · cases hb
  · cases hb; exact hg

set_option maxRecDepth 100000 in
set_option maxHeartbeats 2000000 in
theorem refMembers_any (m : Nat) (w : World) (hm : m < 18446744073709551616) :
    Calls Tryd.prog 14 #[.int .u64 m] w fun e w' => ∃ v, e = .returned v ∧ w'.ownsRow w.heap.size 3 1 v (mem 0 64 m).length (vals (mem 0 64 m)) ∧ Below w.heap.size w w' := by
  obtain ⟨i0, hi, hz0, hz1, hz2⟩ := info_parts info3
  have hlen := mem_len 64 0 m
  go_enter Tryd.func14, Tryd.ntmps14
  go_wp2
  go_loopg [0, 3, 4] 64 (fun gk mm l i wr => ∃ (k M : Nat) (L : List Nat), k + gk = 64 ∧ i = .int .i64 k ∧ mm = .int .u64 M ∧ M < 18446744073709551616 ∧ wr.ownsRow w.heap.size 3 1 l L.length (vals L) ∧ Below w.heap.size w wr ∧ L.length ≤ k ∧ L ++ mem k gk M = mem 0 64 m)
  case atStart => exact ⟨0, m, [], by omega, rfl, rfl, hm, World.ownsRow_nil _ _ _ _, Below.refl _ _, by simp, by simp⟩
  case round =>
    obtain ⟨k, M, L, hk, rfl, rfl, hM, hown, hB, hLk, hL⟩ := hrel
    have hL' : Hid (L ++ mem k gk M = mem 0 64 m) := hL
    clear hL
    by_cases hlt : k < 64
    · obtain ⟨g, rfl⟩ : ∃ g, gk = g + 1 := ⟨gk - 1, by omega⟩
      have hst : Hid (mem k (g + 1) M = (if M % 2 = 1 then [k] else []) ++ mem (k + 1) g (M / 2)) := rfl
      by_cases hb : M % 2 = 1
      · have hb1 : (((M : Int) % 2) == 1) = true := by simp; omega
        have hst2 : Hid ((L ++ [k]) ++ mem (k + 1) g (M / 2) = mem 0 64 m) := by
          show _ = _
          rw [← hL'.out, hst.out, if_pos hb]; simp
        clear hst hL' hb
        go_wp2_with (at_builtin; refine wpList_append_own _ rfl _ _ 30 rfl w.heap.size 3 i0 (.int .i64 0) 1 8 Tryd.underlying30 hi hz0 hz1 hz2 rfl (by decide) _ _ _ rfl (hown.alloc _) ⟨wr.heap.size, 0, none⟩ 1 1 [.int .i64 (k : Int)] rfl rfl (cell_one_new _ _ _) (fun x hx => by simp at hx; subst hx; rfl) (by unfold maxLen; omega) (by omega) (by have := hB.size; simp; omega) ?_; intro v' w3 hown' hgrow3 hnil3)
        go_roundg g
        case measure => omega
        case rel =>
          have hB3 : Below w.heap.size w w3 := (hB.alloc hB.size _).grown hgrow3 (by have := hB.size; simp; omega) (fun b hb => own_block hown hb)
          refine ⟨k + 1, M / 2, L ++ [k], by omega, by go_num, by go_num, by omega, ?_, hB3, by simp; omega, hst2.out⟩
          have e : vals (L ++ [k]) = vals L ++ [.int .i64 (k : Int)] := by simp [vals]
          rw [e, List.length_append]
          exact hown'
      · have hb1 : (((M : Int) % 2) == 1) = false := by simp; omega
        have hst2 : Hid (L ++ mem (k + 1) g (M / 2) = mem 0 64 m) := by
          show _ = _
          rw [← hL'.out, hst.out, if_neg hb]; simp
        clear hst hL' hb
        go_wp2
        go_roundg g
        case measure => omega
        case rel => exact ⟨k + 1, M / 2, L, by omega, by go_num, by go_num, by omega, hown, hB, by omega, hst2.out⟩
    · have hg0 : gk = 0 := by omega
      have hfin : Hid (L = mem 0 64 m) := by
        have := hL'.out
        rw [hg0, show mem k 0 M = [] from rfl, List.append_nil] at this
        exact this
      clear hL'
      go_wp2
      go_ret
      refine ⟨_, rfl, ?_, hB⟩
      rw [← hfin.out]
      exact hown
end Go.Proofs.YtcehnibfmhbeiaaDoor
