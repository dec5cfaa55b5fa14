import Derived.Test.YtoaokpmnjppfcaaWaN
namespace Go.Proofs.Ytoaokpmnjppfcaa
open Go.RowKit
set_option linter.unusedVariables false
set_option linter.unusedSimpArgs false

theorem Mo.vs {w : World} {lo lb gl b B : Nat} {vg vc vl : Value} {R : List Gr} {C : List Cf} {f : Nat → Lm} {tk : Int} {tr : Al} {L : List Al} (h : Mo w lo lb gl b B vg vc vl R C f tk tr L) : (∃ a n c, vg = .slice a n c) ∧ (∃ a n c, vc = .slice a n c) ∧ ∃ a c, vl = .slice a L.length c := by
  obtain ⟨a, c, rfl, _⟩ := h.gr
  obtain ⟨a', c', rfl, _⟩ := h.cf
  exact ⟨⟨_, _, _, rfl⟩, ⟨_, _, _, rfl⟩, own_form h.lg⟩
set_option maxRecDepth 100000 in
set_option maxHeartbeats 2000000 in
theorem tripped_any {w : World} {lo lb gl b B : Nat} {vg vc vl : Value} {R : List Gr} {C : List Cf} {f : Nat → Lm} {tk : Int} {tr : Al} {L : List Al} (h : Mo w lo lb gl b B vg vc vl R C f tk tr L) : Calls Try.prog 16 #[.pointer (some ⟨b, 0, none⟩)] w fun e w' => e = .returned (.agg #[.int .i64 tr.k, .int .i64 tr.t, .int .i64 tr.a, .int .i64 tr.b]) ∧ Below w.heap.size w w' := by
  obtain ⟨_, i1, _⟩ := id h.ob
  obtain ⟨tk', t', a', b'⟩ := tr
  dsimp only at *
  clear h
  generalize R.length = n at *
  go_enter Try.func16, Try.ntmps16
  go_wp2
  exact bodyPost_ret (v := .agg #[.int .i64 tk', .int .i64 t', .int .i64 a', .int .i64 b']) (by simp [results, Try.results16, go_sem]) rfl ⟨rfl, belN1⟩
set_option maxRecDepth 100000 in
set_option maxHeartbeats 2000000 in
theorem log_any {w : World} {lo lb gl b B : Nat} {vg vc vl : Value} {R : List Gr} {C : List Cf} {f : Nat → Lm} {tk : Int} {tr : Al} {L : List Al} (h : Mo w lo lb gl b B vg vc vl R C f tk tr L) (hL : L.length ≤ 4398046511000) : Calls Try.prog 11 #[.pointer (some ⟨b, 0, none⟩)] w fun e w' => (∃ a' c', e = .returned (.slice a' L.length c') ∧ w'.ownsRow w.heap.size 43 4 (.slice a' L.length c') L.length (cellsF Al.cs L)) ∧ Below w.heap.size w w' := by
  obtain ⟨-, -, a, c, rfl⟩ := h.vs
  have h24 := cloneA_any L a c w hL (fun ad e W hW j u hu => by
    have ho := own_bel h.lg hW
    rw [e] at ho
    rcases ho.2 with ⟨e', _⟩ | ⟨g, cap, cur, e', _⟩
    · cases e'
    · injection e' with e1 e2 e3
      injection e1 with e1
      subst e1
      rw [Go.WideShapes.add_plain, Nat.zero_add]
      exact own_reads ho rfl j u hu) (fun e => by
    have ho := h.lg
    rw [e] at ho
    rcases ho.2 with ⟨e', h0⟩ | ⟨g, cap, cur, e', _⟩
    · exact h0
    · cases e')
  obtain ⟨_, i1, _⟩ := id h.ob
  clear h
  generalize R.length = n at *
  go_enter Try.func11, Try.ntmps11
  go_wp2_with (go_at_call 24; (with_reducible refine Calls.mono h24 ?_); rintro e w1 ⟨⟨a', c', rfl, o1⟩, hb⟩)
  go_ret
  exact ⟨⟨a', c', rfl, o1⟩, hb⟩

theorem setCells_size (b : Nat) : ∀ (vs : List Value) (o : Nat) (w : World), (w.setCells b o vs).heap.size = w.heap.size
  | [], _, _ => rfl
  | v :: r, o, w => by
    show ((w.setCell ⟨b, o, none⟩ v).setCells b (o + 1) r).heap.size = _
    rw [setCells_size b r (o + 1)]
    simp [World.setCell]
theorem setCells_frozen (b : Nat) : ∀ (vs : List Value) (o : Nat) (w : World) (x : Addr), (w.setCells b o vs).frozen? x = w.frozen? x
  | [], _, _, _ => rfl
  | v :: r, o, w, x => by
    show ((w.setCell ⟨b, o, none⟩ v).setCells b (o + 1) r).frozen? x = _
    rw [setCells_frozen b r (o + 1), World.frozen?_setCell]
theorem setCells_only (b : Nat) : ∀ (vs : List Value) (o : Nat) (w : World), Only (fun q => q = b) w (w.setCells b o vs)
  | [], _, _ => Only.refl _ _
  | v :: r, o, w => (only_of_set w b o v).trans (setCells_only b r (o + 1) _)
theorem has_all {w : World} {B : Nat} {A : Array Value} (h : Has w B A) (vs : Array Value) (hs : vs.size = A.size) : Has (w.setCells B 0 vs.toList) B vs := by
  refine ⟨by rw [setCells_size]; exact h.1, fun i => ?_, fun i => by rw [setCells_frozen]; exact h.2.2 i⟩
  by_cases hi : i < vs.size
  · have := World.cell?_setCells_in B vs.toList 0 w (fun j hj => by
      rw [Nat.zero_add, h.2.1 j, Array.getElem?_eq_getElem (by rw [Array.length_toList] at hj; omega)]; rfl) i (by rw [Array.length_toList]; exact hi)
    rw [Nat.zero_add] at this
    rw [this, Array.getElem?_eq_getElem hi]
    simp
  · rw [World.cell?_setCells_out B vs.toList 0 w ⟨B, i, none⟩ (fun _ _ => .inr (by rw [Array.length_toList]; show 0 + vs.size ≤ i; omega)), h.2.1 i, Array.getElem?_eq_none (by omega), Array.getElem?_eq_none (by omega)]
theorem run_clear_rw (w : World) (B n : Nat) (f : Nat → Lm) (ty : TypeId) (h : Has w B (rwA Lm.cs n f)) :
    ∃ w', (Builtin.clear_ #[59] ty #[.slice (some ⟨B, 0, none⟩) n n]).run Try.prog w = .ok (.tuple #[]) w' ∧ Has w' B (rwA Lm.cs n (fun _ => lm0)) ∧ Only (fun q => q = B) w w' := by
  rcases Nat.eq_zero_or_pos n with h0 | hp
  · subst h0
    refine ⟨w, by simp [Builtin.clear_, run_underlying Try.underlying59], ?_, Only.refl _ _⟩
    have e : rwA Lm.cs 0 (fun _ => lm0) = rwA Lm.cs 0 f := by simp [rwA, cellsF]
    rw [e]; exact h
  · have hsz : (rwA Lm.cs n (fun _ => lm0)).size = (rwA Lm.cs n f).size := by rw [rwA_size lm_len, rwA_size lm_len]
    refine ⟨w.setCells B 0 (rwA Lm.cs n (fun _ => lm0)).toList, ?_, has_all h _ hsz, setCells_only _ _ _ _⟩
    have hz : ∀ w, (zeroValue 83).run Try.prog w = .ok (.agg #[.int .u8 0, .int .i64 0, .int .i64 0]) w := fun w => Try.zeroValue83 w
    have hzc : Builtin.zeroCells (Value.agg #[.int .u8 0, .int .i64 0, .int .i64 0]).cells n = rwA Lm.cs n (fun _ => lm0) := made_rw lm_len (by decide) n lm0
    have hst := run_storeCells_cells (P := Try.prog) B 0 (rwA Lm.cs n (fun _ => lm0)).toList 0 w (fun j hj => by
      rw [Array.length_toList, hsz] at hj
      rw [Nat.zero_add, h.2.1 j, Array.getElem?_eq_getElem hj]; rfl) (fun j hj => h.2.2 _) (fun v hv => by
      have : v ∈ cellsF Lm.cs ((List.range n).map (fun _ => lm0)) := by simpa [rwA] using hv
      exact cellsF_one lm_one _ v this)
    obtain ⟨m, rfl⟩ : ∃ m, n = m + 1 := ⟨n - 1, by omega⟩
    simp [Builtin.clear_, run_underlying Try.underlying59, hz, hzc, hst]

end Go.Proofs.Ytoaokpmnjppfcaa
