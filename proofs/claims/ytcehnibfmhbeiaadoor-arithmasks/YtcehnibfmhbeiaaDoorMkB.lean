import Derived.Test.YtcehnibfmhbeiaaDoorMkA
import Derived.Deep.LoopGhost
import Derived.Deep.Light
namespace Go.Proofs.YtcehnibfmhbeiaaDoor
open Go.RowKit
set_option linter.unusedVariables false

/-- Block g holds 64 truths and may be written. -/
def Sn (w : World) (g : Nat) (f : Nat → Bool) : Prop := g < w.heap.size ∧ (∀ i, i < 64 → w.cell? ⟨g, i, none⟩ = some (.bool (f i))) ∧ ∀ i, w.frozen? ⟨g, i, none⟩ = false
theorem Sn.set {w : World} {g : Nat} {f f' : Nat → Bool} (h : Sn w g f) (j : Nat) (hj : j < 64) (hf : ∀ i, f' i = (f i || decide (j = i))) : Sn (w.setCell ⟨g, j, none⟩ (.bool true)) g f' :=
  ⟨by simpa [World.setCell] using h.1, fun i hi => by
    by_cases e : j = i
    · subst e
      rw [World.cell?_setCell_same w ⟨g, j, none⟩ (.bool true) (h.2.1 j hj), hf j]; simp
    · rw [World.cell?_setCell_other w ⟨g, j, none⟩ ⟨g, i, none⟩ (.bool true) (by intro e'; exact e (congrArg Addr.off e')), h.2.1 i hi, hf i]; simp [e], fun i => by rw [World.frozen?_setCell]; exact h.2.2 i⟩
def zer43 : Array Value := (Array.replicate 64 (.bool false))
theorem alloc43 (w : World) : (Instr.alloc 43 true (.tuple #[])).run Tryd.prog w = .ok (.pointer (some ⟨w.heap.size, 0, none⟩)) (w.alloc (.cells zer43 43)) := by kernel_rfl
theorem wpList_alloc_named {P : Program} {ops : Array Oper} {rest : List Oper} {o2 : Oper} {a : Act} {w : World} {Q : Exit → Act → World → Prop}
    (g2 : o2.guard = none) (t : TypeId) (h2 : o2.op = .alloc t) (zeros : Array Value)
    (hr : ∀ w : World, (Instr.alloc t true (.tuple #[])).run P w = .ok (.pointer (some ⟨w.heap.size, 0, none⟩)) (w.alloc (.cells zeros t)))
    (h : wpList P ops Q rest (a.put o2.dst (.pointer (some ⟨w.heap.size, 0, none⟩))) (w.alloc (.cells zeros t))) : wpList P ops Q (o2 :: rest) a w := by
  refine wpList_plain g2 fun K hK => ?_
  unfold Oper.wp
  simp only [execOp, h2, Sem.run_bind, hr, Result.andThen_ok]
  exact hK _ _ h
theorem Sn.new (w : World) : Sn (w.alloc (.cells zer43 43)) w.heap.size (fun i => (0 : Nat).testBit i) :=
  ⟨by simp, fun i hi => by
    have : zer43[i]? = some (.bool false) := by unfold zer43; simp [hi]
    simp [this], fun i => World.frozen?_alloc_at _ _ _ _ rfl⟩
theorem div_lt63 (M q : Nat) (h : M < 18446744073709551616) : M / 2 ^ (q + 1) < 9223372036854775808 := by
  have h1 : M / 2 ^ (q + 1) ≤ M / 2 := Nat.div_le_div_left (by rw [Nat.pow_succ]; exact Nat.le_mul_of_pos_left _ (Nat.pow_pos (by decide))) (by decide)
  omega

set_option maxRecDepth 100000 in
set_option maxHeartbeats 2000000 in
theorem refMask_any (a : Option Addr) (b o n cap : Nat) (z : Nat → Int) (w : World) (hn : n ≤ 9223372036854775807) (ha : 0 < n → a = some ⟨b, o, none⟩ ∧ b < w.heap.size)
    (h1 : ∀ i, i < n → w.cell? ⟨b, o + i, none⟩ = some (.int .i64 (z i))) :
    Calls Tryd.prog 11 #[.slice a n cap] w fun e w' => e = .returned (.tuple #[.int .u64 (mkV z n), .int .i64 (mkE z n)]) ∧ Below w.heap.size w w' := by
  have h1' : Hid (∀ i, i < n → w.cell? ⟨b, o + i, none⟩ = some (.int .i64 (z i))) := h1
  have ha' : Hid (0 < n → a = some ⟨b, o, none⟩ ∧ b < w.heap.size) := ha
  clear h1 ha
  go_enter Tryd.func11, Tryd.ntmps11
  go_wp2_with (guard_target =~ wpList _ _ _ ({ dst := _, op := Op.alloc 43, type := _, pos := _, after := _, guard := _ } :: _) _ _; go_must (refine wpList_alloc_named rfl 43 rfl zer43 alloc43 ?_))
  go_loopg [5] n (fun gk i wr => ∃ (k M : Nat), k + gk = n ∧ i = .int .i64 k ∧ maskOf z k = some M ∧ Below w.heap.size w wr ∧ Sn wr w.heap.size (fun i => M.testBit i))
  case atStart => exact ⟨0, 0, by omega, rfl, rfl, (Below.refl _ _).alloc (Nat.le_refl _) _, Sn.new w⟩
  case round =>
    obtain ⟨k, M, hk, rfl, hM, hB, hS⟩ := hrel
    have hMl := maskOf_lt z k M hM
    have hM' : Hid (maskOf z k = some M) := hM
    clear hM
    by_cases hlt : k < n
    · obtain ⟨rfl, hb⟩ := ha'.out (by omega)
      have e1 : wr.cell? ⟨b, o + k, none⟩ = some (.int .i64 (z k)) := (hB.cell (p := ⟨b, o + k, none⟩) hb).trans (h1'.out k hlt)
      have hk0 : (0 : Int) ≤ (k : Int) := by omega
      have hk1 : (k : Int) < (n : Int) := by omega
      by_cases hx0 : z k < 0
      · have hbad : Hid (maskOf z n = none) := maskOf_none z (k + 1) (maskOf_out z k M hM'.out (.inl hx0)) n hlt
        go_wp2
        go_ret2
        exact ⟨ret_none hbad.out, hB⟩
      · by_cases hx1 : 63 < z k
        · have hbad : Hid (maskOf z n = none) := maskOf_none z (k + 1) (maskOf_out z k M hM'.out (.inr hx1)) n hlt
          go_wp2
          go_ret2
          exact ⟨ret_none hbad.out, hB⟩
        · obtain ⟨j, hj⟩ : ∃ j : Nat, z k = j := ⟨(z k).toNat, by omega⟩
          have hjl : j < 64 := by omega
          have hin : Hid (M.testBit j = false → maskOf z (k + 1) = some (M ||| 2 ^ j)) := fun h => by
            have := maskOf_in z k M hM'.out (by omega) (by rw [hj]; simpa using h)
            rw [hj] at this; simpa using this
          have hout : Hid (M.testBit j = true → maskOf z (k + 1) = none) := fun h => maskOf_twice z k M hM'.out (by rw [hj]; simpa using h)
          rw [hj] at e1
          clear hj hx0 hx1
          have hcell : wr.cell? ⟨w.heap.size, j, none⟩ = some (.bool (M.testBit j)) := hS.2.1 j hjl
          have hfro := hS.2.2 j
          have hj0 : (0 : Int) ≤ (j : Int) := by omega
          have hj1 : (j : Int) < 64 := by omega
          have hj2 : (j : Int) ≤ 63 := by omega
          cases hT : M.testBit j
          · rw [hT] at hcell
            have hst : Hid (maskOf z (k + 1) = some (M ||| 2 ^ j)) := hin.out hT
            clear hin hout hT
            go_wp2
            go_roundg (gk - 1)
            case measure => go_light; omega
            case rel => exact ⟨k + 1, _, by omega, by go_num, hst.out, hB.setCell (by simp) _, hS.set j hjl (fun i => testBit_or_pow M j i)⟩
          · rw [hT] at hcell
            have hbad : Hid (maskOf z n = none) := maskOf_none z (k + 1) (hout.out hT) n hlt
            clear hin hout hT
            go_wp2
            go_ret2
            exact ⟨ret_none hbad.out, hB⟩
    · obtain rfl : k = n := by omega
      have hk1 : ¬ (k : Int) < (k : Int) := by omega
      have hfin : Hid (mkV z k = (M : Int) ∧ mkE z k = 0) := ⟨by unfold mkV; rw [hM'.out]; rfl, by unfold mkE; rw [hM'.out]; rfl⟩
      have hS' : Hid (Sn wr w.heap.size (fun i => M.testBit i)) := hS
      clear hM' hS h1' ha'
      go_wp2
      go_loop [7, 8] (fun nn i => ∃ (q N : Nat) (J : Int), q ≤ 64 ∧ J = (q : Int) - 1 ∧ i = .int .i64 J ∧ nn = .int .u64 N ∧ N = M / 2 ^ q) (fun _ i => (intOf i + 1).toNat)
      case atStart => exact ⟨64, 0, 63, by omega, by omega, rfl, rfl, by rw [Nat.div_eq_of_lt (by simpa using hMl)]⟩
      case round =>
        obtain ⟨q, N, J, hq, hJ, rfl, rfl, hN⟩ := hrel
        by_cases hq0 : 0 < q
        · obtain ⟨p, rfl⟩ : ∃ p, q = p + 1 := ⟨q - 1, by omega⟩
          obtain rfl : J = (p : Int) := by omega
          have hNb : N < 9223372036854775808 := by rw [hN]; exact div_lt63 M p hMl
          have hho : Hid (M / 2 ^ p = 2 * N + (if M.testBit p then 1 else 0)) := by show _ = _; rw [hN]; exact horner M p
          have hcell : wr.cell? ⟨w.heap.size, p, none⟩ = some (.bool (M.testBit p)) := hS'.out.2.1 p (by omega)
          have hp0 : (0 : Int) ≤ (p : Int) := by omega
          have hp1 : (p : Int) < 64 := by omega
          clear hN hJ
          cases hT : M.testBit p
          · rw [hT] at hcell
            have hst : Hid (N * 2 = M / 2 ^ p) := by have := hho.out; rw [hT] at this; show _ = _; simp at this; omega
            clear hho hT
            go_wp2
            go_round
            case rel => exact ⟨p, N * 2, p - 1, by omega, by omega, by go_num, by go_num, hst.out⟩
            case measure => simp [intOf] <;> omega
          · rw [hT] at hcell
            have hst : Hid (N * 2 + 1 = M / 2 ^ p) := by have := hho.out; rw [hT] at this; show _ = _; simp at this; omega
            clear hho hT
            go_wp2
            go_round
            case rel => exact ⟨p, N * 2 + 1, p - 1, by omega, by omega, by go_num, by go_num, hst.out⟩
            case measure => simp [intOf] <;> omega
        · obtain rfl : q = 0 := by omega
          have hJn : J < 0 := by omega
          have hNM : Hid (N = M) := by show _ = _; rw [hN]; simp
          clear hN hJ
          go_wp2
          go_ret2
          exact ⟨ret_mk (by rw [hfin.out.1, hNM.out]) hfin.out.2, hB⟩
end Go.Proofs.YtcehnibfmhbeiaaDoor
