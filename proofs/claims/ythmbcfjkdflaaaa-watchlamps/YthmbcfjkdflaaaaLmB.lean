import Derived.Test.YthmbcfjkdflaaaaLmA
namespace Go.Proofs.Ythmbcfjkdflaaaa
open Go.RowKit
set_option linter.unusedVariables false
set_option linter.unusedSimpArgs false

/-- The row of bytes in the loop: the first k are c, the others are there. -/
structure Rb (wr : World) (G n k : Nat) (c : UInt8) : Prop where
  lt : G < wr.heap.size
  done : ∀ j, j < k → wr.cell? ⟨G, j, none⟩ = some (.int .u8 c.toNat)
  some : ∀ j, j < n → ∃ v, wr.cell? ⟨G, j, none⟩ = some v
  free : ∀ j, j < n → wr.frozen? ⟨G, j, none⟩ = false

theorem Rb.step {wr : World} {G n k : Nat} {c : UInt8} (h : Rb wr G n k c) (v : Value) (hk : k < n) : Rb (wr.setCell ⟨G, k, none⟩ v) G n k c where
  lt := by simpa [World.setCell] using h.lt
  done := fun j hj => by
    rw [World.cell?_setCell_other wr ⟨G, k, none⟩ ⟨G, j, none⟩ v (by intro e; have := congrArg Addr.off e; simp at this; omega)]; exact h.done j hj
  some := fun j hj => by
    by_cases e : k = j
    · subst e
      obtain ⟨u, hu⟩ := h.some k hj
      exact ⟨v, by rw [World.cell?_setCell_same wr _ v hu]⟩
    · rw [World.cell?_setCell_other wr ⟨G, k, none⟩ ⟨G, j, none⟩ v (by intro e'; have := congrArg Addr.off e'; simp at this; omega)]; exact h.some j hj
  free := fun j hj => by rw [World.frozen?_setCell]; exact h.free j hj
theorem Rb.put {wr : World} {G n k : Nat} {c : UInt8} (h : Rb wr G n k c) (hk : k < n) : Rb (wr.setCell ⟨G, k, none⟩ (.int .u8 c.toNat)) G n (k + 1) c :=
  { h.step _ hk with
    done := fun j hj => by
      by_cases e : j = k
      · subst e
        obtain ⟨u, hu⟩ := h.some j hk
        rw [World.cell?_setCell_same wr _ _ hu]
      · exact (h.step _ hk).done j (by omega) }

theorem row_new (w : World) (s : ByteArray) (t : TypeId) (c : UInt8) (cap : Nat) :
    Rb (w.drew.alloc (.cells (bytesRow s cap) t ((bytesRow s cap).size, (bytesRow s cap).size + 1))) w.heap.size s.size 0 c where
  lt := by simp
  done := fun j hj => by omega
  some := fun j hj => by
    have : (w.drew.alloc (.cells (bytesRow s cap) t ((bytesRow s cap).size, (bytesRow s cap).size + 1))).heap[w.heap.size]? = some (.cells (bytesRow s cap) t ((bytesRow s cap).size, (bytesRow s cap).size + 1)) := by
      show (w.heap.push _)[w.heap.size]? = _
      simp
    simp only [World.cell?, this]
    have hj' : j < (bytesRow s cap).size := by simp [bytesRow]; omega
    exact ⟨_, Array.getElem?_eq_getElem hj'⟩
  free := fun j hj => by
    have : (w.drew.alloc (.cells (bytesRow s cap) t ((bytesRow s cap).size, (bytesRow s cap).size + 1))).heap[w.heap.size]? = some (.cells (bytesRow s cap) t ((bytesRow s cap).size, (bytesRow s cap).size + 1)) := by
      show (w.heap.push _)[w.heap.size]? = _
      simp
    have hj' : j < (bytesRow s cap).size := by simp [bytesRow]; omega
    simp only [World.frozen?, this]
    have : ¬ (bytesRow s cap).size ≤ j := by omega
    simp [this]

set_option maxRecDepth 100000 in
set_option maxHeartbeats 1000000 in
theorem refLamps_any (s : ByteArray) (tr : Bool) (tick : Int) (w : World) (hs : s.size < 140737488355328) :
    Calls Try.prog 5 #[.string s, .bool tr, .int .i64 tick] w fun e w' => e = .returned (.string (lampS s tr tick)) ∧ Below w.heap.size w w' := by
  cases tr with
  | false =>
    have e0 : lampS s false tick = s := by simp [lampS]
    rw [e0]
    go_enter Try.func5, Try.ntmps5
    go_wp2
    go_ret
    exact ⟨rfl, Below.refl _ _⟩
  | true =>
    have e0 : lampS s true tick = ⟨(List.replicate s.size (lb tick)).toArray⟩ := by simp [lampS]
    have hcv := run_bytes_of_string (P := Try.prog) w 9 25 5 s Try.underlying9 Try.underlying25 Try.underlying5
    have hrow := row_new w s 5 (lb tick) (grownCap w s.size 0 5)
    have hb0 : Below w.heap.size w (w.drew.alloc (.cells (bytesRow s (grownCap w s.size 0 5)) 5 ((bytesRow s (grownCap w s.size 0 5)).size, (bytesRow s (grownCap w s.size 0 5)).size + 1))) := (Below.refl _ _).drew.alloc (Nat.le_refl _) _
    have hend : ∀ W : World, Rb W w.heap.size s.size s.size (lb tick) → ∀ cap, (convert 25 9 (.slice (some ⟨w.heap.size, 0, none⟩) s.size cap)).run Try.prog W = .ok (.string ⟨(List.replicate s.size (lb tick)).toArray⟩) W := by
      intro W h cap
      have := run_convert_bytes_back (P := Try.prog) W 25 9 5 ⟨w.heap.size, 0, none⟩ cap (List.replicate s.size (lb tick)) Try.underlying25 Try.underlying5 Try.underlying9 (fun j hj => by
        rw [show (⟨w.heap.size, 0, none⟩ : Addr).add j = ⟨w.heap.size, j, none⟩ by rw [Go.WideShapes.add_plain, Nat.zero_add]]
        rw [h.done j (by simpa using hj)]
        rw [List.getElem_replicate])
      rw [List.length_replicate] at this
      exact this
    rw [e0]
    generalize (w.drew.alloc (.cells (bytesRow s (grownCap w s.size 0 5)) 5 ((bytesRow s (grownCap w s.size 0 5)).size, (bytesRow s (grownCap w s.size 0 5)).size + 1))) = V at hcv hrow hb0
    generalize grownCap w s.size 0 5 = cap at hcv
    generalize (⟨(List.replicate s.size (lb tick)).toArray⟩ : ByteArray) = R at hend ⊢
    generalize hG : w.heap.size = G at *
    generalize hN : s.size = N at *
    clear e0
    go_enter Try.func5, Try.ntmps5
    go_wp2
    go_loopg [8] N (fun gk i wr => ∃ k : Nat, i = .int .i64 k ∧ k + gk = N ∧ Rb wr G N k (lb tick) ∧ Below G w wr)
    case atStart => exact ⟨0, rfl, by omega, hrow, hb0⟩
    case round =>
      obtain ⟨k, rfl, hk, hR, hB⟩ := hrel
      cases gk with
      | zero =>
        obtain rfl : k = N := by omega
        have hx := hend wr hR cap
        go_wp2
        go_ret
        exact ⟨rfl, hB⟩
      | succ g =>
        have hkN : k < N := by omega
        obtain ⟨v, hv⟩ := hR.some k hkN
        have hf := hR.free k hkN
        have hlt : (k : Int) < N := by omega
        by_cases h : tick.tmod 2 = 0
        · have el : lb tick = 114 := by simp [lb, h]
          have hR2 := (hR.step (.int .u8 46) hkN).put hkN
          rw [el] at hR2
          have hB2 : Below G w ((wr.setCell ⟨G, k, none⟩ (.int .u8 46)).setCell ⟨G, k, none⟩ (.int .u8 114)) := Below.setCell (Below.setCell hB (p := ⟨G, k, none⟩) (Nat.le_refl G) _) (p := ⟨G, k, none⟩) (Nat.le_refl G) _
          go_wp2
          go_roundg g
          case measure => omega
          case rel => exact ⟨k + 1, by push_cast; rfl, by omega, by rw [el]; exact hR2, hB2⟩
        · have h' : (tick.tmod 2 == 0) = false := beq_eq_false_iff_ne.2 h
          have el : lb tick = 46 := by simp [lb, h]
          have hR2 := hR.put hkN
          rw [el] at hR2
          go_wp2
          go_roundg g
          case measure => omega
          case rel => exact ⟨k + 1, by push_cast; rfl, by omega, by rw [el]; exact hR2, Below.setCell hB (p := ⟨G, k, none⟩) (Nat.le_refl G) _⟩
end Go.Proofs.Ythmbcfjkdflaaaa
