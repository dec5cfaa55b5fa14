import Derived.Test.YtfmdlcfkfglnhaaDoorTyG
namespace Go.Proofs.YtfmdlcfkfglnhaaDoor
open Go.RowKit
set_option linter.unusedVariables false

set_option maxRecDepth 100000 in
set_option maxHeartbeats 8000000 in
theorem index_any (l : List Int) (x : Int) (g o sc : Nat) (w : World) (hl : l.length ≤ 256) (hc : ∀ i (h : i < l.length), w.cell? ⟨g, o + i, none⟩ = some (.int .i64 l[i])) :
    Calls Tryd.prog 48 #[.slice (some ⟨g, o, none⟩) l.length sc, .int .i64 x] w fun e w' => ((x ∉ l ∧ e = .returned (.int .i64 (-1))) ∨ (x ∈ l ∧ ∃ i : Nat, e = .returned (.int .i64 (i : Int)))) ∧ w' = w := by
  have hM0 : Hid (x ∈ l ↔ x ∈ l.drop 0) := Iff.rfl
  go_enter Tryd.func48, Tryd.ntmps48
  go_wp2_with fail
  go_loopw [8] (fun i wr => ∃ k : Nat, k ≤ l.length ∧ i = .int .i64 (k : Int) ∧ Hid (x ∈ l ↔ x ∈ l.drop k) ∧ wr = w) (fun i _ => l.length - (intOf i).toNat)
  case atStart => exact ⟨0, by omega, rfl, hM0, rfl⟩
  case round =>
    clear hM0
    obtain ⟨k, hkl, rfl, hq, hwr⟩ := hrel
    subst hwr
    by_cases hlt : k < l.length
    case neg =>
      have s1 : ¬ (k : Int) < (l.length : Int) := by omega
      have hno : Hid (x ∉ l) := fun h => by have := hq.out.1 h; rw [List.drop_eq_nil_of_le (by omega)] at this; cases this
      clear hc hq
      go_wp2_with fail
      refine bodyPost_ret (v := .int .i64 (-1)) (by simp [results, Tryd.results48, go_sem]) rfl ⟨.inl ⟨hno.out, rfl⟩, rfl⟩
    case pos =>
      have s1 : (k : Int) < (l.length : Int) := by omega
      have s0 : (0 : Int) ≤ (k : Int) := by omega
      have p0 := hc k hlt
      by_cases he : x = l[k]
      · have hin : Hid (x ∈ l) := by rw [he]; exact List.getElem_mem hlt
        rw [← he] at p0
        clear hc hq he
        go_wp2_with fail
        refine bodyPost_ret (v := .int .i64 (k : Int)) (by simp [results, Tryd.results48, go_sem]) rfl ⟨.inr ⟨hin.out, k, rfl⟩, rfl⟩
      · have n0 : (x == l[k]) = false := by simpa using he
        have hq2 : Hid (x ∈ l ↔ x ∈ l.drop (k + 1)) := by
          show x ∈ l ↔ x ∈ l.drop (k + 1)
          rw [hq.out, List.drop_eq_getElem_cons hlt, List.mem_cons]
          exact ⟨fun h => h.resolve_left he, .inr⟩
        clear hc hq
        generalize l[k] = y at *
        go_wp2_with fail
        go_roundw
        case rel => first | exact ⟨k + 1, by omega, by go_num, hq2, rfl⟩ | exact ⟨k + 1, by omega, by go_num, hq2, trivial⟩
        case measure => simp [intOf]; omega
set_option maxRecDepth 100000 in
set_option maxHeartbeats 8000000 in
theorem contains_any (l : List Int) (x : Int) (g o sc : Nat) (w : World) (hl : l.length ≤ 256) (hc : ∀ i (h : i < l.length), w.cell? ⟨g, o + i, none⟩ = some (.int .i64 l[i])) :
    Calls Tryd.prog 44 #[.slice (some ⟨g, o, none⟩) l.length sc, .int .i64 x] w fun e w' => e = .returned (.bool (decide (x ∈ l))) ∧ w' = w := by
  have kI := index_any l x g o sc w hl hc
  by_cases h : x ∈ l
  · rw [decide_eq_true h]
    have kJ : Calls Tryd.prog 48 #[.slice (some ⟨g, o, none⟩) l.length sc, .int .i64 x] w fun e w' => (∃ i : Nat, e = .returned (.int .i64 (i : Int))) ∧ w' = w := kI.mono (by rintro e w' ⟨⟨q, _⟩ | ⟨_, q⟩, rfl⟩; exact absurd h q; exact ⟨q, rfl⟩)
    clear kI hc
    go_enter Tryd.func44, Tryd.ntmps44
    go_wp2_with fail
    go_at_call 48
    refine Calls.mono kJ ?_
    rintro e wx ⟨⟨i, rfl⟩, hwx⟩
    have hwy := hwx.symm
    clear hwx
    subst hwy
    have s0 : (i : Int) ≥ 0 := by omega
    go_wp2_with fail
    go_ret
    exact ⟨rfl, rfl⟩
  · rw [decide_eq_false h]
    have kJ : Calls Tryd.prog 48 #[.slice (some ⟨g, o, none⟩) l.length sc, .int .i64 x] w fun e w' => e = .returned (.int .i64 (-1)) ∧ w' = w := kI.mono (by rintro e w' ⟨⟨_, q⟩ | ⟨q, _⟩, rfl⟩; exact ⟨q, rfl⟩; exact absurd q h)
    clear kI hc
    go_enter Tryd.func44, Tryd.ntmps44
    go_wp2_with fail
    go_at_call 48
    refine Calls.mono kJ ?_
    rintro e wx ⟨rfl, hwx⟩
    have hwy := hwx.symm
    clear hwx
    subst hwy
    go_wp2_with fail
    go_ret
    exact ⟨rfl, rfl⟩
end Go.Proofs.YtfmdlcfkfglnhaaDoor
