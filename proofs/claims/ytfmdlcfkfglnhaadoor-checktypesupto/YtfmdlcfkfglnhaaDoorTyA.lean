import Derived.Test.YtfmdlcfkfglnhaaDoorTyM
import Derived.Test.YtfmdlcfkfglnhaaDoorNesA
namespace Go.Proofs.YtfmdlcfkfglnhaaDoor
open Go.RowKit
set_option linter.unusedVariables false

set_option maxRecDepth 100000 in
set_option maxHeartbeats 4000000 in
theorem operands_any (op : Int) (w : World) :
    Calls Tryd.prog 25 #[.int .i64 op] w fun e w' => e = .returned (.int .i64 (if 30 ≤ op then 2 else if 20 ≤ op then 1 else 0)) ∧ w' = w := by
  by_cases h1 : 30 ≤ op
  · rw [if_pos h1]
    go_enter Tryd.func25, Tryd.ntmps25
    go_wp2_with fail
    go_ret
    exact ⟨rfl, rfl⟩
  · rw [if_neg h1]
    by_cases h2 : 20 ≤ op
    · rw [if_pos h2]
      go_enter Tryd.func25, Tryd.ntmps25
      go_wp2_with fail
      go_ret
      exact ⟨rfl, rfl⟩
    · rw [if_neg h2]
      go_enter Tryd.func25, Tryd.ntmps25
      go_wp2_with fail
      go_ret
      exact ⟨rfl, rfl⟩
set_option maxRecDepth 100000 in
set_option maxHeartbeats 4000000 in
theorem worthR_any (k : Int) (w : World) :
    Calls Tryd.prog 42 #[.int .i64 k] w fun e w' => e = .returned (.int .i64 (wrF k)) ∧ Below w.heap.size w w' := by
  by_cases h : k = 1 ∨ k = 5 ∨ k = 6 ∨ k = 7 ∨ k = 4 ∨ k = 8
  · rcases h with rfl | rfl | rfl | rfl | rfl | rfl
    all_goals
      go_enter Tryd.func42, Tryd.ntmps42
      go_wp2_with fail
      go_ret
      exact ⟨rfl, Below.refl _ _⟩
  · have e : wrF k = 0 := by unfold wrF; rw [if_neg (by omega), if_neg (by omega)]
    rw [e]
    have n1 : (k == 1) = false := by simp; omega
    have n5 : (k == 5) = false := by simp; omega
    have n6 : (k == 6) = false := by simp; omega
    have n7 : (k == 7) = false := by simp; omega
    have n4 : (k == 4) = false := by simp; omega
    have n8 : (k == 8) = false := by simp; omega
    go_enter Tryd.func42, Tryd.ntmps42
    go_wp2_with fail
    go_ret
    exact ⟨rfl, Below.refl _ _⟩
set_option maxRecDepth 100000 in
set_option maxHeartbeats 4000000 in
theorem findR_any (S : List Sy) (v : Value) (nm : ByteArray) (w : World) (h : Ens w v S) (hl : S.length ≤ 4611686018427387904) :
    Calls Tryd.prog 41 #[v, .int .i64 0, .string nm] w fun e w' => (((fkS S nm = none) ∧ e = .returned (.int .i64 (-1))) ∨ ∃ i, ∃ hi : i < S.length, fkS S nm = some S[i].kind ∧ e = .returned (.int .i64 (i : Int))) ∧ Below w.heap.size w w' := by
  obtain ⟨a, cap, rfl, hc⟩ := h
  generalize hR : fkS S nm = R
  have hR0 : fkS (S.drop 0) nm = R := hR
  clear hR
  go_enter Tryd.func41, Tryd.ntmps41
  go_wp2_with fail
  go_loopw [7] (fun i wr => ∃ k : Nat, k ≤ S.length ∧ i = .int .i64 (k : Int) ∧ Hid (fkS (S.drop k) nm = R) ∧ Below w.heap.size w wr) (fun i _ => S.length - (intOf i).toNat)
  case atStart => exact ⟨0, by omega, rfl, hR0, Below.refl _ _⟩
  case round =>
    clear hR0
    obtain ⟨k, hkl, rfl, hq', hb⟩ := hrel
    have hq := hq'.out
    clear hq'
    by_cases hlt : k < S.length
    case neg =>
      have s1 : ¬ (k : Int) < (S.length : Int) := by omega
      rw [fk_end S nm k (by omega)] at hq
      have hq2 : Hid (none = R) := hq
      clear hq
      go_wp2_with fail
      refine bodyPost_ret (v := .int .i64 (-1)) (by simp [results, Tryd.results41, go_sem]) rfl ⟨.inl ⟨hq2.out.symm, rfl⟩, hb⟩
    case pos =>
      obtain ⟨g, o, rfl, hg, hx⟩ := hc.resolve_left (by intro e; rw [e] at hlt; simp at hlt)
      obtain ⟨h0, h1, h2⟩ := hx k hlt
      have p0 := (hb.cell (p := ⟨g, _, none⟩) hg).trans h0
      have p1 := (hb.cell (p := ⟨g, _, none⟩) hg).trans h1
      have p2 := (hb.cell (p := ⟨g, _, none⟩) hg).trans h2
      have s1 : (k : Int) < (S.length : Int) := by omega
      by_cases he : S[k].name = nm
      · rw [fk_hit S nm k hlt he] at hq
        have hfin : ∀ W : World, Below w.heap.size w W → ((R = (none : Option Int) ∧ Ending.returned (Value.int .i64 (k : Int)) = .returned (.int .i64 (-1))) ∨ ∃ i, ∃ hi : i < S.length, R = some S[i].kind ∧ Ending.returned (Value.int .i64 (k : Int)) = .returned (.int .i64 (i : Int))) ∧ Below w.heap.size w W := fun W hW => ⟨.inr ⟨k, hlt, hq.symm, rfl⟩, hW⟩
        clear hq
        generalize S[k].name = ss at *
        clear hc hx h0 h1 h2
        subst he
        go_wp2_with fail
        refine bodyPost_ret (v := .int .i64 (k : Int)) (by simp [results, Tryd.results41, go_sem]) rfl (hfin _ hb)
      · rw [fk_on S nm k hlt he] at hq
        have hE : ¬ S[k].name.toList = nm.toList := fun q => he (tl_inj q)
        generalize S[k].name = ss at *
        generalize S[k].kind = kk at *
        clear hc hx h0 h1 h2
        go_wp2_with fail
        go_roundw
        case rel => exact ⟨k + 1, by omega, by go_num, hq, hb⟩
        case measure => simp [intOf]; omega
end Go.Proofs.YtfmdlcfkfglnhaaDoor
