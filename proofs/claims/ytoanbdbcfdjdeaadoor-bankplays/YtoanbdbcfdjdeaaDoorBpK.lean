import Derived.Test.YtoanbdbcfdjdeaaDoorBpJ
namespace Go.Proofs.YtoanbdbcfdjdeaaDoor
open Go.RowKit
set_option linter.unusedVariables false
set_option linter.unusedSimpArgs false


theorem own_byS {w : World} {base n : Nat} {v : Value} {L : List Int} (h : w.ownsRow base 5 1 v n (L.map bv)) (hn : n ≤ 140737488355328) : By (fun q => base ≤ q) w v L := by
  have hl : L.length = n := by have := h.1; simpa using this
  rcases h.2 with ⟨rfl, h0⟩ | ⟨g, cap, cur, rfl, h2, -⟩
  · have : L = [] := List.length_eq_zero_iff.1 (by omega)
    subst this
    exact ⟨none, 0, rfl, Nat.le_refl _, by simp, fun _ => rfl, .inl rfl⟩
  · exact own_by h h2 hn
theorem infoAc : (Tryd.prog.info? 41).map (fun i => (i.zero, i.size, i.bytes)) = some (some (.agg #[.int .i64 0, .int .i64 0, .slice none 0 0]), 3, 40) := by kernel_rfl
set_option maxRecDepth 100000 in
set_option maxHeartbeats 2000000 in
theorem copyActs_any (S : Nat → Prop) (A : List Ac) (v : Value) (w : World) (hA : Acs S w v A) (hS : ∀ q, S q → q < w.heap.size) :
    Calls Tryd.prog 7 #[v] w fun e w' => (∃ v', e = .returned v' ∧ Acs (fun q => w.heap.size ≤ q ∧ q < w'.heap.size) w' v' A) ∧ Below w.heap.size w w' := by
  obtain ⟨ti, hi, hx⟩ := Option.map_eq_some_iff.1 infoB
  have hi0 : ti.zero = some (.int .u8 0) := congrArg (·.1) hx
  have hi1 : ti.size = 1 := congrArg (·.2.1) hx
  have hi2 : ti.bytes = 1 := congrArg (·.2.2) hx
  obtain ⟨tj, hj, hy⟩ := Option.map_eq_some_iff.1 infoAc
  have hj0 : tj.zero = some (.agg #[.int .i64 0, .int .i64 0, .slice none 0 0]) := congrArg (·.1) hy
  have hj1 : tj.size = 3 := congrArg (·.2.1) hy
  have hj2 : tj.bytes = 40 := congrArg (·.2.2) hy
  obtain ⟨va0, vcap, rfl, hlen, -⟩ := hA.at
  have hAt := fun (X : World) (hX : Below w.heap.size w X) => (hA.keep (Mv.below hX)).at
  clear hA
  go_enter Tryd.func7, Tryd.ntmps7
  go_wp2_with fail
  go_loopw [3, 4] (fun v i wr => ∃ (k : Nat) (a : Option Addr) (c : Nat) (xs : List Value), k ≤ A.length ∧ i = .int .i64 (k : Int) ∧ v = .slice a k c ∧ Hid (wr.ownsRow w.heap.size 41 3 (.slice a k c) k xs) ∧ Hid (Els 3 AcR (Sx w.heap.size (.slice a k c)) wr xs (A.take k)) ∧ Hid (Below w.heap.size w wr)) (fun _ i _ => A.length - (intOf i).toNat)
  case atStart => exact ⟨0, none, 0, [], by omega, rfl, rfl, World.ownsRow_nil _ _ _ _, Els.nil _ _ _ _, Below.refl _ _⟩
  case round =>
    obtain ⟨k, a, c, xs, hk, rfl, rfl, ho', he', hb'⟩ := hrel
    have ow := ho'.out
    have hE := he'.out
    have hb := hb'.out
    clear ho' he' hb'
    by_cases hlt : k < A.length
    case neg =>
      have t1 : ¬ (k : Int) < (A.length : Int) := by omega
      obtain rfl : k = A.length := by omega
      rw [List.take_length] at hE
      have fin : Acs (fun q => w.heap.size ≤ q ∧ q < wr.heap.size) wr (.slice a A.length c) A := by
        refine Els.owned (hE.mv (mx := 0) (AcR.keep (Mv.weak (fun q hq hs => ⟨hs.1, hq⟩)))) ow (fun g hg => own_lt ow g hg) hlen
      go_wp2_with fail
      go_ret
      exact ⟨⟨_, rfl, fin⟩, hb⟩
    have t1 : (k : Int) < (A.length : Int) := by omega
    have t2 : (0 : Int) ≤ (k : Int) := by omega
    obtain ⟨a0, cap', e, -, hat⟩ := hAt wr hb
    injection e with e _ ec
    subst ec
    subst e
    obtain ⟨ga, oa, vd, cd, rfl, hSa, hga, c0, c1, c2, hBy, r1, r2⟩ := hat k hlt
    clear hat hAt
    have htk : A.take (k + 1) = A.take k ++ [A[k]] := by rw [List.take_add_one, List.getElem?_eq_getElem hlt]; rfl
    generalize A[k] = ac at *
    have HX := Has.new wr #[.int .i64 ac.k, .int .i64 ac.o, .slice vd ac.d.length cd] 41 rfl
    have bN := belN1 (w := wr) (o1 := .cells #[.int .i64 ac.k, .int .i64 ac.o, .slice vd ac.d.length cd] 41)
    have ByW := (hBy.keep (Mv.below bN)).src
    have hsz : (wr.alloc (.cells #[.int .i64 ac.k, .int .i64 ac.o, .slice vd ac.d.length cd] 41)).heap.size = wr.heap.size + 1 := by simp
    clear hBy
    generalize hW : wr.alloc (.cells #[.int .i64 ac.k, .int .i64 ac.o, .slice vd ac.d.length cd] 41) = W at *
    obtain ⟨hs1, hs2, hdl⟩ := ByW
    obtain ⟨b0, b1, b2⟩ := has3 HX
    have B3 : ∀ (w1 : World), Below W.heap.size W w1 → ∀ (v : Value) (o : Obj), Below wr.heap.size wr ((w1.setCell ⟨wr.heap.size, 2, none⟩ v).alloc o) := fun w1 h v o => ((bN.trans (h.mono bN.size)).setCell (Nat.le_refl _) v).alloc (by have := h.size; simp [World.setCell]; omega) o
    have ow' : Hid _ := ow
    have B3' : Hid _ := B3
    clear B3
    go_wp2_with (first
      | (at_builtin; (refine wpList_copyv rfl _ _ 22 rfl 5 ti _ 1 1 Tryd.underlying22 hi hi0 hi1 hi2 rfl (by decide) vd ac.d.length cd (ac.d.map bv) rfl rfl (by simp) hs1 (bv_one ac.d) hs2 (by unfold maxLen; omega) (by omega) ?_); intro a' c' w1 own1 hb1; obtain ⟨b0, b1, b2⟩ := has3 (HX.below hb1); have fz := (HX.below hb1).2.2 2)
      | (at_builtin; (refine wpList_append_mine _ rfl _ _ 23 rfl w.heap.size 41 tj _ 3 40 Tryd.underlying23 hj hj0 hj1 hj2 rfl (by decide) (.slice a k c) k xs rfl (own_bel ow'.out (B3'.out _ hb1 _ _)) ⟨w1.heap.size, 0, none⟩ 1 1 [.int .i64 ac.k, .int .i64 ac.o, .slice a' ac.d.length c'] rfl rfl (cells_at (by simp [World.setCell]) [.int .i64 ac.k, .int .i64 ac.o, .slice a' ac.d.length c'] 41) (by intro u hu; simp at hu; rcases hu with rfl | rfl | rfl <;> rfl) (by decide) (by unfold maxLen; omega) (by omega) (Nat.le_trans hb.size (B3'.out _ hb1 _ _).size) ?_); intro g' cap' w4 p1 p2 p3 p4 p5))
    go_roundw
    case rel =>
      have b3 := B3'.out w1 hb1 (.slice a' ac.d.length c') (.cells [.int .i64 ac.k, .int .i64 ac.o, .slice a' ac.d.length c'].toArray 41)
      have hwr := own_lt ow'.out
      have s1 := hb1.size
      refine ⟨k + 1, _, _, xs ++ ([Value.int .i64 ac.k, Value.int .i64 ac.o, Value.slice a' ac.d.length c'] : List Value), by omega, by go_num, rfl, p1, ?_, grown_bel (B := w.heap.size) (hb.trans (b3.mono hb.size)) p2 (Nat.le_refl _) (fun q hq => (hwr q hq).1)⟩
      show Els 3 AcR _ _ _ _
      rw [htk]
      have m1 : Mv (Sx w.heap.size (.slice a k c)) wr (Sx w.heap.size (.slice (some ⟨g', 0, none⟩) (k + 1) cap')) w4 := (Mv.below b3).trans (Mv.app p2 p3)
      refine (hE.mv (mx := 0) (AcR.keep m1)).push (mx := 0) rfl ⟨_, rfl, ?_, r1, r2⟩
      refine (own_byS own1 hdl).keep ⟨?_, fun q hq hs => ?_⟩
      · refine Nat.le_trans ?_ p2.size
        simp [World.setCell]
      · have hq0 : ¬ q = wr.heap.size := by omega
        have hqo : some q ≠ (Value.slice a k c).ownBlock := fun e => by have := (hwr q e.symm).2; omega
        refine ⟨(p2.block q (by simp [World.setCell]; omega) hqo).trans ?_, by have := hb.size; omega, fun e => ?_⟩
        · rw [(belN1 (w := w1.setCell ⟨wr.heap.size, 2, none⟩ (.slice a' ac.d.length c'))).block q (by simpa [World.setCell] using hq)]
          exact Below.heap_setCell _ _ _ _ hq0
        · have e' : g' = q := by injection e
          rcases p3 with h | h
          · have := (hwr g' h).2; omega
          · simp [World.setCell] at h; omega
    case measure => simp [intOf]; omega
end Go.Proofs.YtoanbdbcfdjdeaaDoor
