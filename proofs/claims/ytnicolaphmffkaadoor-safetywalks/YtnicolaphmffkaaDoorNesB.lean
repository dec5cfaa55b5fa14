import Derived.Test.YtnicolaphmffkaaDoorNesA
namespace Go.Proofs.YtnicolaphmffkaaDoor
open Go.RowKit
set_option linter.unusedVariables false

/-- A node. -/
structure Nd where
  op : Int
  val : Int
  name : ByteArray
  line : Int
  col : Int
/-- A list of nodes as it is read. -/
def Nds (w : World) (v : Value) (L : List Nd) : Prop :=
  ∃ a cap, v = .slice a L.length cap ∧ (L = [] ∨ ∃ g o, a = some ⟨g, o, none⟩ ∧ g < w.heap.size ∧ ∀ (i : Nat) (h : i < L.length),
    w.cell? ⟨g, o + i * 5, none⟩ = some (.int .i64 L[i].op) ∧ w.cell? ⟨g, o + i * 5 + 1, none⟩ = some (.int .i32 L[i].val) ∧ w.cell? ⟨g, o + i * 5 + 2, none⟩ = some (.string L[i].name) ∧ w.cell? ⟨g, o + i * 5 + 3, none⟩ = some (.int .i64 L[i].line) ∧ w.cell? ⟨g, o + i * 5 + 4, none⟩ = some (.int .i64 L[i].col))
theorem Nds.below {w w' : World} {v : Value} {L : List Nd} (h : Nds w v L) (hb : Below w.heap.size w w') : Nds w' v L := by
  obtain ⟨a, cap, rfl, h | ⟨g, o, rfl, hg, hc⟩⟩ := h
  · exact ⟨a, cap, rfl, .inl h⟩
  · refine ⟨_, cap, rfl, .inr ⟨g, o, rfl, Nat.lt_of_lt_of_le hg hb.size, fun i hi => ?_⟩⟩
    obtain ⟨h0, h1, h2, h3, h4⟩ := hc i hi
    exact ⟨(hb.cell (p := ⟨g, _, none⟩) hg).trans h0, (hb.cell (p := ⟨g, _, none⟩) hg).trans h1, (hb.cell (p := ⟨g, _, none⟩) hg).trans h2, (hb.cell (p := ⟨g, _, none⟩) hg).trans h3, (hb.cell (p := ⟨g, _, none⟩) hg).trans h4⟩

/-- Going to the left: where the expression begins. -/
def spanGo (L : List Nd) : Nat → Int → Int
  | 0, _ => -1
  | j + 1, w => if arF (L.getD j ⟨0, 0, ⟨#[]⟩, 0, 0⟩).op = -1 then -1 else if w + (arF (L.getD j ⟨0, 0, ⟨#[]⟩, 0, 0⟩).op - 1) = 0 then (j : Int) else spanGo L j (w + (arF (L.getD j ⟨0, 0, ⟨#[]⟩, 0, 0⟩).op - 1))
def spanF (L : List Nd) (i : Int) : Int := if 0 ≤ i ∧ i < L.length then spanGo L (i.toNat + 1) 1 else -1
theorem spanGo_none {L : List Nd} {j : Nat} (h : j < L.length) (w : Int) (e : arF L[j].op = -1) : spanGo L (j + 1) w = -1 := by
  unfold spanGo; rw [List.getD_eq_getElem?_getD, List.getElem?_eq_getElem h]; simp [e]
theorem spanGo_hit {L : List Nd} {j : Nat} (h : j < L.length) (w : Int) (e : arF L[j].op ≠ -1) (e2 : w + (arF L[j].op - 1) = 0) : spanGo L (j + 1) w = j := by
  unfold spanGo; rw [List.getD_eq_getElem?_getD, List.getElem?_eq_getElem h]; simp [e, e2]
theorem spanGo_on {L : List Nd} {j : Nat} (h : j < L.length) (w : Int) (e : arF L[j].op ≠ -1) (e2 : ¬ w + (arF L[j].op - 1) = 0) : spanGo L (j + 1) w = spanGo L j (w + (arF L[j].op - 1)) := by
  conv => lhs; unfold spanGo
  rw [List.getD_eq_getElem?_getD, List.getElem?_eq_getElem h]; simp [e, e2]
theorem arF_bd (op : Int) : -1 ≤ arF op ∧ arF op ≤ 2 := by
  unfold arF; split
  · omega
  · split
    · omega
    · split <;> omega

set_option maxRecDepth 100000 in
set_option maxHeartbeats 4000000 in
theorem span_any (L : List Nd) (v : Value) (i : Int) (w : World) (hN : Nds w v L) (hlen : L.length ≤ 4611686018427387904) (hi1 : -9223372036854775808 ≤ i) (hi2 : i < 9223372036854775808) :
    Calls Tryd.prog 66 #[v, .int .i64 i] w fun e w' => e = .returned (.int .i64 (spanF L i)) ∧ Below w.heap.size w w' := by
  obtain ⟨a, cap, rfl, hc⟩ := hN
  by_cases h1 : (L.length : Int) ≤ i
  · have hr : spanF L i = -1 := by unfold spanF; rw [if_neg (by omega)]
    rw [hr]
    clear hc hr
    go_enter Tryd.func66, Tryd.ntmps66
    go_wp2
    go_ret
    exact ⟨rfl, Below.refl _ _⟩
  · by_cases h2 : i < 0
    · have hr : spanF L i = -1 := by unfold spanF; rw [if_neg (by omega)]
      rw [hr]
      clear hc hr
      go_enter Tryd.func66, Tryd.ntmps66
      go_wp2
      go_loop [6] (fun t => t = .int .i64 i) (fun _ => 0)
      case atStart => exact rfl
      case round =>
        obtain rfl := hrel
        go_wp2
        go_ret
        exact ⟨rfl, Below.refl _ _⟩
    · have hr : spanF L i = spanGo L (i.toNat + 1) 1 := by unfold spanF; rw [if_pos (by omega)]
      rw [hr]
      obtain ⟨g, o, rfl, hg, hC⟩ := hc.resolve_left (by intro h; rw [h] at h1; simp at h1; omega)
      obtain ⟨m, rfl⟩ : ∃ m : Nat, i = m := ⟨i.toNat, by omega⟩
      rw [show (m : Int).toNat = m by omega]
      generalize hA : spanGo L (m + 1) 1 = A
      clear hc hr hi1 hi2
      go_enter Tryd.func66, Tryd.ntmps66
      go_wp2
      go_loopw [5, 6] (fun t5 t6 wr => ∃ (k : Nat) (wd : Int), k ≤ m + 1 ∧ t6 = .int .i64 ((k : Int) - 1) ∧ t5 = .int .i64 wd ∧ 1 ≤ wd ∧ wd + k ≤ m + 2 ∧ spanGo L k wd = A ∧ Below w.heap.size w wr) (fun _ t6 _ => (intOf t6 + 1).toNat)
      case atStart => exact ⟨m + 1, 1, by omega, by go_num, rfl, by omega, by omega, hA, Below.refl _ _⟩
      case round =>
        obtain ⟨k, wd, hk, rfl, rfl, hw1, hw2, hs, hb⟩ := hrel
        cases k with
        | zero =>
          have hs' : A = -1 := by rw [← hs]; rfl
          subst hs'
          go_wp2
          go_ret
          exact ⟨rfl, hb⟩
        | succ j =>
          have hj : j < L.length := by omega
          have hp0 := (hb.cell (p := ⟨g, o + j * 5, none⟩) hg).trans (hC j hj).1
          have hbd := arF_bd L[j].op
          have hjL : (j : Int) < (L.length : Int) := by omega
          have hj0 : (0 : Int) ≤ (j : Int) := by omega
          rw [show ((j + 1 : Nat) : Int) - 1 = (j : Int) by omega]
          by_cases hn : arF L[j].op = -1
          · have hA' : A = -1 := by rw [← hs]; exact spanGo_none hj wd hn
            subst hA'
            have hSh := shape_none L[j].op wr hn
            generalize L[j].op = op at *
            go_wp2_with (go_at_call 67; (with_reducible refine hSh.mono ?_); rintro e w1 ⟨rfl, hb1⟩)
            go_ret
            have hbs := hb.size
            have hb1s := hb1.size
            exact ⟨rfl, (hb.trans (hb1.mono hbs)).alloc (by omega) _⟩
          · have hSh := shape_any L[j].op wr hn
            by_cases he : wd + (arF L[j].op - 1) = 0
            · have hA' : A = j := by rw [← hs]; exact spanGo_hit hj wd hn he
              subst hA'
              generalize L[j].op = op at *
              generalize arF op = ar at *
              go_wp2_with (go_at_call 67; (with_reducible refine hSh.mono ?_); rintro e w1 ⟨⟨y0, y1, rfl, _, _⟩, hb1⟩)
              go_ret
              have hbs := hb.size
              have hb1s := hb1.size
              exact ⟨rfl, (hb.trans (hb1.mono hbs)).alloc (by omega) _⟩
            · have hA' : Hid (spanGo L j (wd + (arF L[j].op - 1)) = A) := by
                show spanGo L j (wd + (arF L[j].op - 1)) = A
                rw [← hs]; exact (spanGo_on hj wd hn he).symm
              generalize L[j].op = op at *
              generalize arF op = ar at *
              have he' : (wd + (ar - 1) == 0) = false := by simp; omega
              go_wp2_with (go_at_call 67; (with_reducible refine hSh.mono ?_); rintro e w1 ⟨⟨y0, y1, rfl, _, _⟩, hb1⟩)
              have hbs := hb.size
              have hb1s := hb1.size
              go_roundw
              case rel => exact ⟨j, wd + (ar - 1), by omega, by go_num, by go_num, by omega, by omega, hA'.out, (hb.trans (hb1.mono hbs)).alloc (by omega) _⟩
              case measure => simp [intOf]

set_option maxRecDepth 100000 in
set_option maxHeartbeats 4000000 in
theorem refSpan_any (L : List Nd) (v : Value) (i : Int) (w : World) (hN : Nds w v L) (hlen : L.length ≤ 4611686018427387904) (hi1 : -9223372036854775808 ≤ i) (hi2 : i < 9223372036854775808) :
    Calls Tryd.prog 40 #[v, .int .i64 i] w fun e w' => e = .returned (.int .i64 (spanF L i)) ∧ Below w.heap.size w w' := by
  obtain ⟨a, cap, rfl, hc⟩ := hN
  by_cases h2 : i < 0
  · have hr : spanF L i = -1 := by unfold spanF; rw [if_neg (by omega)]
    rw [hr]
    clear hc hr
    go_enter Tryd.func40, Tryd.ntmps40
    go_wp2
    go_ret
    exact ⟨rfl, Below.refl _ _⟩
  · by_cases h1 : (L.length : Int) ≤ i
    · have hr : spanF L i = -1 := by unfold spanF; rw [if_neg (by omega)]
      rw [hr]
      clear hc hr
      go_enter Tryd.func40, Tryd.ntmps40
      go_wp2
      go_ret
      exact ⟨rfl, Below.refl _ _⟩
    · have hr : spanF L i = spanGo L (i.toNat + 1) 1 := by unfold spanF; rw [if_pos (by omega)]
      rw [hr]
      obtain ⟨g, o, rfl, hg, hC⟩ := hc.resolve_left (by intro h; rw [h] at h1; simp at h1; omega)
      obtain ⟨m, rfl⟩ : ∃ m : Nat, i = m := ⟨i.toNat, by omega⟩
      rw [show (m : Int).toNat = m by omega]
      generalize hA : spanGo L (m + 1) 1 = A
      have h1' : ¬ L.length ≤ m := by omega
      have h2' : ¬ (m : Int) < 0 := by omega
      have h3' : decide (L.length ≤ m) = false := by simp; omega
      clear hc hr hi1 hi2
      go_enter Tryd.func40, Tryd.ntmps40
      go_wp2
      go_loopw [5, 6] (fun t5 t6 wr => ∃ (k : Nat) (wd : Int), k ≤ m + 1 ∧ t6 = .int .i64 ((k : Int) - 1) ∧ t5 = .int .i64 wd ∧ 1 ≤ wd ∧ wd + k ≤ m + 2 ∧ spanGo L k wd = A ∧ Below w.heap.size w wr) (fun _ t6 _ => (intOf t6 + 1).toNat)
      case atStart => exact ⟨m + 1, 1, by omega, by go_num, rfl, by omega, by omega, hA, Below.refl _ _⟩
      case round =>
        obtain ⟨k, wd, hk, rfl, rfl, hw1, hw2, hs, hb⟩ := hrel
        cases k with
        | zero =>
          have hs' : A = -1 := by rw [← hs]; rfl
          subst hs'
          go_wp2
          go_ret
          exact ⟨rfl, hb⟩
        | succ j =>
          have hj : j < L.length := by omega
          have hp0 := (hb.cell (p := ⟨g, o + j * 5, none⟩) hg).trans (hC j hj).1
          have hbd := arF_bd L[j].op
          have hjL : (j : Int) < (L.length : Int) := by omega
          have hj0 : (0 : Int) ≤ (j : Int) := by omega
          rw [show ((j + 1 : Nat) : Int) - 1 = (j : Int) by omega]
          have hSh := refArity_any L[j].op wr
          by_cases hn : arF L[j].op = -1
          · have hA' : A = -1 := by rw [← hs]; exact spanGo_none hj wd hn
            subst hA'
            rw [hn] at hSh
            generalize L[j].op = op at *
            go_wp2_with (go_at_call 55; (with_reducible refine hSh.mono ?_); rintro e w1 ⟨rfl, rfl⟩)
            go_ret
            exact ⟨rfl, hb⟩
          · by_cases he : wd + (arF L[j].op - 1) = 0
            · have hA' : A = j := by rw [← hs]; exact spanGo_hit hj wd hn he
              subst hA'
              generalize L[j].op = op at *
              generalize arF op = ar at *
              have hn' : ¬ ar < 0 := by omega
              have he2 : wd - 1 + ar = 0 := by omega
              go_wp2_with (go_at_call 55; (with_reducible refine hSh.mono ?_); rintro e w1 ⟨rfl, rfl⟩)
              go_ret
              exact ⟨rfl, hb⟩
            · have hA' : Hid (spanGo L j (wd + (arF L[j].op - 1)) = A) := by
                show spanGo L j (wd + (arF L[j].op - 1)) = A
                rw [← hs]; exact (spanGo_on hj wd hn he).symm
              generalize L[j].op = op at *
              generalize arF op = ar at *
              have hn' : ¬ ar < 0 := by omega
              have he' : (wd - 1 + ar == 0) = false := by simp; omega
              go_wp2_with (go_at_call 55; (with_reducible refine hSh.mono ?_); rintro e w1 ⟨rfl, rfl⟩)
              go_roundw
              case rel => exact ⟨j, wd - 1 + ar, by omega, by go_num, by go_num, by omega, by omega, by rw [show wd - 1 + ar = wd + (ar - 1) by omega]; exact hA'.out, hb⟩
              case measure => simp [intOf]
end Go.Proofs.YtnicolaphmffkaaDoor
