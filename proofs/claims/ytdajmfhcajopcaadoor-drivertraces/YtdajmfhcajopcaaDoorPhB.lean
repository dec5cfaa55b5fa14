import Derived.Test.YtdajmfhcajopcaaDoorPhA
namespace Go.Proofs.YtdajmfhcajopcaaDoor
open Go.RowKit
set_option linter.unusedVariables false
set_option linter.unusedSimpArgs false

/-- The Codes that have words. -/
def kyL : List Int := (ks24 ++ ks25 ++ ks26 ++ ks27).map fun (k : Nat) => (k : Int)
def wI (c : Int) : ByteArray := if c ∈ kyL then wdT c.toNat else ⟨#[]⟩
theorem ky_app (c : Int) : c ∈ kyL ↔ c ∈ ks24.map (fun (k : Nat) => (k : Int)) ∨ c ∈ ks25.map (fun (k : Nat) => (k : Int)) ∨ c ∈ ks26.map (fun (k : Nat) => (k : Int)) ∨ c ∈ ks27.map (fun (k : Nat) => (k : Int)) := by
  unfold kyL; simp only [List.map_append, List.mem_append, or_assoc]
theorem r24 {c : Int} (h : c ∈ ks24.map (fun (k : Nat) => (k : Int))) : 0 ≤ c ∧ c < 60 := by simp [ks24] at h; omega
theorem r25 {c : Int} (h : c ∈ ks25.map (fun (k : Nat) => (k : Int))) : 60 ≤ c ∧ c < 110 := by simp [ks25] at h; omega
theorem r26 {c : Int} (h : c ∈ ks26.map (fun (k : Nat) => (k : Int))) : 110 ≤ c ∧ c < 160 := by simp [ks26] at h; omega
theorem r27 {c : Int} (h : c ∈ ks27.map (fun (k : Nat) => (k : Int))) : 160 ≤ c ∧ c < 195 := by simp [ks27] at h; omega
theorem ky_rng {c : Int} (h : c ∈ kyL) : 0 ≤ c ∧ c < 195 := by
  rcases (ky_app c).1 h with h | h | h | h
  · have := r24 h; omega
  · have := r25 h; omega
  · have := r26 h; omega
  · have := r27 h; omega
theorem wd_none {k : Nat} (h : ¬ (k : Int) ∈ kyL) : wdT k = ⟨#[]⟩ := by
  have e : wdL.map (·.1) = ks24 ++ ks25 ++ ks26 ++ ks27 := by kernel_rfl
  have : wdL.lookup k = none := by
    rw [List.lookup_eq_none_iff]
    intro p hp
    have hm : p.1 ∈ ks24 ++ ks25 ++ ks26 ++ ks27 := by rw [← e]; exact List.mem_map.2 ⟨p, hp, rfl⟩
    have hne : k ≠ p.1 := by
      intro e2
      exact h (List.mem_map.2 ⟨k, by rw [e2]; exact hm, rfl⟩)
    simpa using hne
  unfold wdT
  rw [this]; rfl
theorem wI_eq (c : Int) : (if 0 ≤ c then wdT c.toNat else ⟨#[]⟩) = wI c := by
  unfold wI
  by_cases h : c ∈ kyL
  · rw [if_pos h, if_pos (ky_rng h).1]
  · rw [if_neg h]
    by_cases h0 : 0 ≤ c
    · rw [if_pos h0]
      exact wd_none (by rw [Int.toNat_of_nonneg h0]; exact h)
    · rw [if_neg h0]
theorem wd_full : (kyL.all fun c => decide ((wdT c.toNat).data.size ≠ 0)) = true := by kernel_rfl
theorem wI_full {c : Int} (h : c ∈ kyL) : wI c ≠ ⟨#[]⟩ := by
  intro e
  unfold wI at e
  rw [if_pos h] at e
  have := of_decide_eq_true (List.all_eq_true.1 wd_full c h)
  rw [e] at this
  exact this rfl
theorem wI_emp {c : Int} (h : c ∈ kyL) : (wI c).toList.isEmpty = false := by
  rw [ByteArray.toList_eq]
  have := of_decide_eq_true (List.all_eq_true.1 wd_full c h)
  unfold wI
  rw [if_pos h]
  cases hx : (wdT c.toNat).data.toList with
  | nil => exact absurd (by rw [← Array.length_toList, hx]; rfl) this
  | cons a b => rfl
theorem wI_none {c : Int} (h : ¬ c ∈ kyL) : wI c = ⟨#[]⟩ := by unfold wI; rw [if_neg h]
def phL : List (Array UInt8) := [#[], #[97, 114, 105, 116, 104], #[108, 101, 120], #[116, 114, 101, 101], #[], #[99, 104, 101, 99, 107], #[115, 97, 102, 101, 116, 121], #[104, 101, 97, 100, 115], #[115, 105, 109], #[], #[114, 111, 109], #[99, 111, 100, 101], #[108, 111, 97, 100], #[], #[100, 114, 105, 118, 101, 114], #[119, 97, 116, 99, 104], #[98, 97, 110, 107], #[119, 105, 114, 101], #[116, 105, 109, 101, 116, 97, 98, 108, 101], #[115, 116, 97, 116, 105, 111, 110]]
def phT (i : Nat) : ByteArray := ⟨phL.getD i #[]⟩
/-- The word for a layer. -/
def phF (c : Int) : ByteArray := if c = 0 then ⟨#[111, 107]⟩ else if c ∈ kyL then phT (c.toNat / 10) else ⟨#[117, 110, 107, 110, 111, 119, 110]⟩
/-- The table stands. -/
def Pt (w : World) : Prop := 0 < w.heap.size ∧ ∀ i, i < 20 → w.cell? ⟨0, i, none⟩ = some (.string (phT i))
theorem Pt.below {w w' : World} (h : Pt w) (hb : Below w.heap.size w w') : Pt w' :=
  ⟨Nat.lt_of_lt_of_le h.1 hb.size, fun i hi => (hb.cell (p := ⟨0, i, none⟩) h.1).trans (h.2 i hi)⟩
set_option maxRecDepth 100000 in
set_option maxHeartbeats 2000000 in
theorem saying_any (c : Int) (w : World) :
    Calls Tryd.prog 14 #[.int .i64 c] w fun e w' => e = .returned (.tuple #[.string (wI c), .bool (decide (c ∈ kyL))]) ∧ w' = w := by
  have k24 := say24_any c
  have k25 := say25_any c
  have k26 := say26_any c
  have k27 := say27_any c
  have hw : ∀ (L : List Int), (c ∈ L ↔ c ∈ kyL) → (if c ∈ L then wdT c.toNat else ⟨#[]⟩) = wI c ∧ decide (c ∈ L) = decide (c ∈ kyL) := fun L hL => by
    unfold wI
    by_cases h : c ∈ kyL
    · rw [if_pos h, if_pos (hL.2 h), decide_eq_true h, decide_eq_true (hL.2 h)]; exact ⟨rfl, rfl⟩
    · rw [if_neg h, if_neg (fun x => h (hL.1 x)), decide_eq_false h, decide_eq_false (fun x => h (hL.1 x))]; exact ⟨rfl, rfl⟩
  generalize wI c = X at *
  generalize decide (c ∈ kyL) = Y at *
  by_cases h1 : c < 60
  case pos =>
    obtain ⟨q1, q2⟩ := hw _ (⟨fun h => (ky_app c).2 (.inl h), fun h => by rcases (ky_app c).1 h with h | h | h | h; exact h; (have := r25 h; omega); (have := r26 h; omega); (have := r27 h; omega)⟩ : c ∈ ks24.map (fun (k : Nat) => (k : Int)) ↔ c ∈ kyL)
    rw [q1, q2] at k24
    clear q1 q2 hw
    go_enter Tryd.func14, Tryd.ntmps14
    go_wp2_with fail
    go_at_call 24
    refine Calls.mono (k24 _) ?_
    rintro e w1 ⟨rfl, hw1⟩
    have hw2 := hw1.symm
    clear hw1
    subst hw2
    go_wp2_with fail
    go_ret2
    exact ⟨rfl, rfl⟩
  by_cases h2 : c < 110
  case pos =>
    obtain ⟨q1, q2⟩ := hw _ (⟨fun h => (ky_app c).2 (.inr (.inl h)), fun h => by rcases (ky_app c).1 h with h | h | h | h; (have := r24 h; omega); exact h; (have := r26 h; omega); (have := r27 h; omega)⟩ : c ∈ ks25.map (fun (k : Nat) => (k : Int)) ↔ c ∈ kyL)
    rw [q1, q2] at k25
    clear q1 q2 hw
    go_enter Tryd.func14, Tryd.ntmps14
    go_wp2_with fail
    go_at_call 25
    refine Calls.mono (k25 _) ?_
    rintro e w1 ⟨rfl, hw1⟩
    have hw2 := hw1.symm
    clear hw1
    subst hw2
    go_wp2_with fail
    go_ret2
    exact ⟨rfl, rfl⟩
  by_cases h3 : c < 160
  case pos =>
    obtain ⟨q1, q2⟩ := hw _ (⟨fun h => (ky_app c).2 (.inr (.inr (.inl h))), fun h => by rcases (ky_app c).1 h with h | h | h | h; (have := r24 h; omega); (have := r25 h; omega); exact h; (have := r27 h; omega)⟩ : c ∈ ks26.map (fun (k : Nat) => (k : Int)) ↔ c ∈ kyL)
    rw [q1, q2] at k26
    clear q1 q2 hw
    go_enter Tryd.func14, Tryd.ntmps14
    go_wp2_with fail
    go_at_call 26
    refine Calls.mono (k26 _) ?_
    rintro e w1 ⟨rfl, hw1⟩
    have hw2 := hw1.symm
    clear hw1
    subst hw2
    go_wp2_with fail
    go_ret2
    exact ⟨rfl, rfl⟩
  obtain ⟨q1, q2⟩ := hw _ (⟨fun h => (ky_app c).2 (.inr (.inr (.inr h))), fun h => by rcases (ky_app c).1 h with h | h | h | h; (have := r24 h; omega); (have := r25 h; omega); (have := r26 h; omega); exact h⟩ : c ∈ ks27.map (fun (k : Nat) => (k : Int)) ↔ c ∈ kyL)
  rw [q1, q2] at k27
  clear q1 q2 hw
  go_enter Tryd.func14, Tryd.ntmps14
  go_wp2_with fail
  go_at_call 27
  refine Calls.mono (k27 _) ?_
  rintro e w1 ⟨rfl, hw1⟩
  have hw2 := hw1.symm
  clear hw1
  subst hw2
  go_wp2_with fail
  go_ret2
  exact ⟨rfl, rfl⟩
set_option maxRecDepth 100000 in
set_option maxHeartbeats 2000000 in
theorem phase_any (c l m : Int) (w : World) (hP : Pt w) :
    Calls Tryd.prog 6 #[.agg #[.int .i64 c, .int .i64 l, .int .i64 m]] w fun e w' => e = .returned (.string (phF c)) ∧ Below w.heap.size w w' := by
  have hb0 : Below w.heap.size w (w.alloc (.cells #[.int .i64 c, .int .i64 l, .int .i64 m] 26)) := (Below.refl _ _).alloc (Nat.le_refl _) _
  have K0 : Has (w.alloc (.cells #[.int .i64 c, .int .i64 l, .int .i64 m] 26)) w.heap.size #[.int .i64 c, .int .i64 l, .int .i64 m] := Has.new _ _ _ rfl
  have k13 := words_any c (w.alloc (.cells #[.int .i64 c, .int .i64 l, .int .i64 m] 26))
  rw [wI_eq] at k13
  by_cases h0 : c = 0
  case pos =>
    have hp : phF c = ⟨#[111, 107]⟩ := by unfold phF; rw [if_pos h0]
    rw [hp]
    subst h0
    obtain ⟨_, v1, v2⟩ := id K0
    go_enter Tryd.func6, Tryd.ntmps6
    go_wp2_with fail
    go_ret
    exact ⟨rfl, hb0⟩
  by_cases h1 : c ∈ kyL
  case neg =>
    have hp : phF c = ⟨#[117, 110, 107, 110, 111, 119, 110]⟩ := by unfold phF; rw [if_neg h0, if_neg h1]
    rw [hp]
    rw [wI_none h1] at k13
    clear h1 hp
    obtain ⟨_, v1, v2⟩ := id K0
    go_enter Tryd.func6, Tryd.ntmps6
    go_wp2_with fail
    go_at_call 13
    refine Calls.mono k13 ?_
    rintro e w1 ⟨rfl, hw1⟩
    have hb1 := bel_after hb0 hb0.size hw1
    go_wp2_with fail
    go_ret
    exact ⟨rfl, hb1⟩
  case pos =>
    have hp : phF c = phT (c.toNat / 10) := by unfold phF; rw [if_neg h0, if_pos h1]
    have hf := wI_emp h1
    have hr := ky_rng h1
    rw [hp]
    obtain ⟨k, rfl⟩ : ∃ k : Nat, c = (k : Int) := ⟨c.toNat, by omega⟩
    rw [Int.toNat_natCast]
    have hq : Int.tdiv (k : Int) 10 = ((k / 10 : Nat) : Int) := by rw [Int.tdiv_eq_ediv_of_nonneg (by omega)]; omega
    have z := hP.2 (k / 10) (by omega)
    have y1 : (0 : Int) ≤ ((k / 10 : Nat) : Int) := by omega
    have y2 : ((k / 10 : Nat) : Int) < 20 := by omega
    generalize phT (k / 10) = T0 at *
    generalize k / 10 = q at *
    generalize wI (k : Int) = WK at *
    clear h1 hp
    obtain ⟨_, v1, v2⟩ := id K0
    go_enter Tryd.func6, Tryd.ntmps6
    go_wp2_with fail
    go_at_call 13
    refine Calls.mono k13 ?_
    rintro e w1 ⟨rfl, hw1⟩
    have hb1 := bel_after hb0 hb0.size hw1
    have z' := (hb1.cell (p := ⟨0, q, none⟩) hP.1).trans z
    have K1 := K0.below hw1
    clear v1 v2 z
    obtain ⟨_, v1, v2⟩ := id K1
    go_wp2_with fail
    go_ret
    exact ⟨rfl, hb1⟩
end Go.Proofs.YtdajmfhcajopcaaDoor
