import Derived.Test.YtcajejfddfiidaaDoorDrR
import Derived.Laws.ResultCell
namespace Go.Proofs.YtcajejfddfiidaaDoor
open Go.RowKit
set_option linter.unusedVariables false
set_option linter.unusedSimpArgs false

theorem gRg : Tryd.prog.globalNamed "strconv.ErrRange" = some 4 := by kernel_rfl
theorem var_keep {w w' : World} {n : String} {g : Nat} {cs : Array Value} (hg : Tryd.prog.globalNamed n = some g) (h : w.var? Tryd.prog n = some cs) (hb : w'.heap[g]? = w.heap[g]?) : w'.var? Tryd.prog n = some cs := by
  unfold World.var? at h ⊢
  simp only [hg, Option.bind_some] at h ⊢
  rw [hb]
  exact h
theorem Rg.below {w w' : World} (h : Rg w) (hb : Below w.heap.size w w') (h5 : 5 ≤ w.heap.size) : Rg w' := by
  obtain ⟨tp, p, hv⟩ := h
  exact ⟨tp, p, var_keep gRg hv (hb.block 4 (by omega))⟩
theorem tk_form {ct : List UInt8 → Option Nat} {t : ByteArray} {e : Ending} (h : TkP ct t e) : ∃ (u v : Int) (b : Bool), e = .returned (.tuple #[.int .i64 u, .int .i64 v, .bool b]) ∧ (match tkR ct t.data.toList with | some (x, y) => u = (x : Int) ∧ v = (y : Int) ∧ b = true | none => b = false) := by
  unfold TkP at h
  split at h
  · rename_i x y hx; exact ⟨x, y, true, h, by rw [hx]; exact ⟨rfl, rfl, rfl⟩⟩
  · rename_i hx; obtain ⟨u, v, h⟩ := h; exact ⟨u, v, false, h, by rw [hx]⟩
theorem hd_form {t : ByteArray} {e : Ending} (h : HdP t e) : ∃ (u : ByteArray) (b : Bool), e = .returned (.tuple #[.string u, .bool b]) ∧ (match hdR t.data.toList with | some x => u = x ∧ b = true | none => b = false) := by
  unfold HdP at h
  split at h
  · rename_i x hx; exact ⟨x, true, h, by rw [hx]; exact ⟨rfl, rfl⟩⟩
  · rename_i hx; obtain ⟨u, h⟩ := h; exact ⟨u, false, h, by rw [hx]⟩
theorem sg_form {ct : List UInt8 → Option Nat} {t : ByteArray} {e : Ending} (h : SgP ct t e) : ∃ (u : Int) (b : Bool), e = .returned (.tuple #[.int .i64 u, .bool b]) ∧ (match sgR ct t.data.toList with | some x => u = x ∧ b = true | none => b = false) := by
  unfold SgP at h
  split at h
  · rename_i x hx; exact ⟨x, true, h, by rw [hx]; exact ⟨rfl, rfl⟩⟩
  · rename_i hx; obtain ⟨u, h⟩ := h; exact ⟨u, false, h, by rw [hx]⟩
/-- A stretch as a value. -/
def stV (h : ByteArray) (s a b : Int) : Value := .agg #[.string h, .int .i64 s, .int .i64 a, .int .i64 b]
def SrP (t : ByteArray) (e : Ending) : Prop :=
  match rsF ctF t.data.toList with
  | some l => e = .returned (.tuple #[stV l.e.heads l.e.stage l.a l.b, .bool true])
  | none => ∃ h s a b, e = .returned (.tuple #[stV h s a b, .bool false])
theorem cut_len (c : UInt8) : ∀ (l : List UInt8), (cutB c l).1.length ≤ l.length ∧ (cutB c l).2.1.length ≤ l.length
  | [] => by simp [cutB]
  | x :: r => by
    have := cut_len c r
    unfold cutB
    split
    · simp
    · simp; omega
theorem sr_of (t : ByteArray) (u v s : Int) (h : ByteArray) (bt bh bs : Bool)
    (e1 : match tkR ctF (cutB 32 (csF t).data.toList).1 with | some (x, y) => u = (x : Int) ∧ v = (y : Int) ∧ bt = true | none => bt = false)
    (e2 : match hdR (cutB 32 (cutB 32 (csF t).data.toList).2.1).1 with | some x => h = x ∧ bh = true | none => bh = false)
    (e3 : match sgR ctF (cutB 32 (cutB 32 (csF t).data.toList).2.1).2.1 with | some x => s = x ∧ bs = true | none => bs = false) (b : Bool) (hb : b = (csB t && bt && bh && bs)) : SrP t (.returned (.tuple #[stV h s u v, .bool b])) := by
  unfold SrP rsF pcF
  by_cases hc : t.data.toList.getLast? = some 10
  · have ec : (csF t).data.toList = t.data.toList.dropLast := by unfold csF; rw [if_pos hc]
    have eb : csB t = true := by unfold csB; rw [decide_eq_true hc]
    rw [ec] at e1 e2 e3
    rw [if_pos hc, hb, eb]
    split at e1
    · rename_i x y hx
      obtain ⟨rfl, rfl, rfl⟩ := e1
      rw [hx]
      split at e2
      · rename_i x2 hx2
        obtain ⟨rfl, rfl⟩ := e2
        rw [hx2]
        split at e3
        · rename_i x3 hx3
          obtain ⟨rfl, rfl⟩ := e3
          rw [hx3]
          rfl
        · rename_i hx3
          subst e3
          rw [hx3]
          exact ⟨_, _, _, _, rfl⟩
      · rename_i hx2
        subst e2
        rw [hx2]
        exact ⟨_, _, _, _, by cases bs <;> rfl⟩
    · rename_i hx
      subst e1
      rw [hx]
      exact ⟨_, _, _, _, by cases bh <;> cases bs <;> rfl⟩
  · have eb : csB t = false := by unfold csB; rw [decide_eq_false hc]
    rw [if_neg hc, hb, eb]
    exact ⟨_, _, _, _, by cases bt <;> cases bh <;> cases bs <;> rfl⟩
set_option maxRecDepth 100000 in
set_option maxHeartbeats 4000000 in
theorem readStretch_any (t : ByteArray) (w : World) (hs : t.size ≤ 140737488355328) (hR : Rg w) (h5 : 5 ≤ w.heap.size) : Calls Tryd.prog 21 #[.string t] w fun e w' => SrP t e ∧ Below w.heap.size w w' := by
  have hcs : (csF t).data.toList.length ≤ 140737488355328 := by
    have e : t.data.toList.length = t.size := (Lib.size_eq t).symm
    unfold csF; split
    · simp; omega
    · omega
  have hcz : (csF t).size ≤ 140737488355328 := by rw [Lib.size_eq]; exact hcs
  have hSr := sr_of t
  have k39 := fun (X : World) => cutSuf_any t X (by omega)
  generalize csF t = T at *
  generalize csB t = ended at *
  have c1 := cut_len 32 T.data.toList
  have c2 := cut_len 32 (cutB 32 T.data.toList).2.1
  have k33 := fun (X : World) => cut_any T 32 X (by omega)
  have k33b := fun (X : World) => cut_any ⟨(cutB 32 T.data.toList).2.1.toArray⟩ 32 X (by show (cutB 32 T.data.toList).2.1.toArray.size ≤ _; simp; omega)
  unfold CuP at k33 k33b
  have hrc := fun (s : List UInt8) (hl : s.length ≤ 140737488355328) (X : World) (hX : Below w.heap.size w X) => (show CtC ctF ⟨s.toArray⟩ X from fun Y hY => readCount_any ⟨s.toArray⟩ Y (by unfold maxLen; show s.toArray.size ≤ _; simp; omega) ((hR.below hX h5).below hY (Nat.le_trans h5 hX.size)))
  generalize (cutB 32 T.data.toList).1 = p1 at *
  generalize (cutB 32 T.data.toList).2.2 = m1 at *
  generalize (cutB 32 T.data.toList).2.1 = r1 at *
  have er : (⟨r1.toArray⟩ : ByteArray).data.toList = r1 := by simp
  rw [er] at k33b
  generalize (cutB 32 r1).1 = p2 at *
  generalize (cutB 32 r1).2.2 = m2 at *
  generalize (cutB 32 r1).2.1 = p3 at *
  have q1 := cut_len 45 p1
  have k40 := fun (X : World) (hX : Below w.heap.size w X) => readTicks_any ctF ⟨p1.toArray⟩ X (by show p1.toArray.size ≤ _; simp; omega) (hrc _ (by simp; omega) X hX) (hrc _ (by simp; omega) X hX)
  have k41 := fun (X : World) => readHeads_any ⟨p2.toArray⟩ X (by show p2.toArray.size ≤ _; simp; omega)
  have k42 := fun (X : World) (hX : Below w.heap.size w X) => readStage_any ctF ⟨p3.toArray⟩ X (hrc _ (by omega) X hX)
  have hR' : Hid (Rg w) := hR
  have hSr' : Hid _ := hSr
  have k39' : Hid _ := k39
  have k33' : Hid _ := k33
  have k33b' : Hid _ := k33b
  have k40' : Hid _ := k40
  have k41' : Hid _ := k41
  have k42' : Hid _ := k42
  clear hR hSr k39 k33 k33b k40 k41 k42 hrc
  go_enter Tryd.func21, Tryd.ntmps21
  go_wp2_with fail
  go_at_call 39
  refine Calls.mono (k39'.out _) ?_
  rintro e w1 ⟨rfl, n1, hw1⟩
  have B1 : Below w.heap.size w w1 := by rw [hw1]; exact bel_drewN ((Below.refl _ _).alloc (Nat.le_refl _) _)
  have H1 : Has w1 w.heap.size #[.string ⟨#[]⟩, .int .i64 0, .int .i64 0, .int .i64 0] := by rw [hw1]; exact (Has.new w _ 50 rfl).drewN n1
  clear hw1
  go_wp2_with fail
  go_at_call 33
  refine Calls.mono (k33'.out _) ?_
  rintro e w2 ⟨rfl, n2, hw2⟩
  have b2 : Below w1.heap.size w1 w2 := by rw [hw2]; exact bel_drewN (Below.refl _ _)
  have B2 := B1.trans (b2.mono B1.size)
  have H2 := H1.below b2
  clear hw2 B1 H1
  go_wp2_with fail
  go_at_call 33
  refine Calls.mono (k33b'.out _) ?_
  rintro e w3 ⟨rfl, n3, hw3⟩
  have b3 : Below w2.heap.size w2 w3 := by rw [hw3]; exact bel_drewN (Below.refl _ _)
  have B3 := B2.trans (b3.mono B2.size)
  have H3 := H2.below b3
  clear hw3 B2 H2
  go_wp2_with fail
  go_at_call 40
  refine Calls.mono (k40'.out _ B3) ?_
  rintro e w4 ⟨h4, b4⟩
  obtain ⟨u, v, bt, rfl, e1⟩ := tk_form h4
  have B4 := B3.trans (b4.mono B3.size)
  have H4 := H3.below b4
  clear h4 B3 H3
  go_wp2_with fail
  go_at_call 41
  refine Calls.mono (k41'.out _) ?_
  rintro e w5 ⟨h5', hw5⟩
  obtain ⟨h, bh, rfl, e2⟩ := hd_form h5'
  clear h5'
  have b5 : Below w4.heap.size w4 w5 := by rw [hw5]; exact Below.refl _ _
  have B5 := B4.trans (b5.mono B4.size)
  have H5 := H4.below b5
  clear hw5 B4 H4
  go_wp2_with fail
  go_at_call 42
  refine Calls.mono (k42'.out _ B5) ?_
  rintro e w6 ⟨h6, b6⟩
  obtain ⟨s, bs, rfl, e3⟩ := sg_form h6
  have B6 := B5.trans (b6.mono B5.size)
  have H6 := H5.below b6
  clear h6 B5 H5
  have hfin := fun (b : Bool) (hb : b = (ended && bt && bh && bs)) => hSr'.out u v s h bt bh bs (by simpa using e1) (by simpa using e2) (by simpa using e3) b hb
  have hf' : Hid _ := hfin
  clear hfin e1 e2 e3
  have c0 := H6.2.1 0
  have c1 := H6.2.1 1
  have c2 := H6.2.1 2
  have c3 := H6.2.1 3
  have f0 := H6.2.2 0
  have f1 := H6.2.2 1
  have f2 := H6.2.2 2
  have f3 := H6.2.2 3
  cases ended <;> cases bt <;> cases bh <;> cases bs
  all_goals
    go_wp2_with fail
    (try simp only [Exit.inBlock, Exit.then])
    refine bodyPost_ret (v := .tuple #[stV h s u v, .bool _]) ?_ rfl ⟨hf'.out _ rfl, (((B6.setCell (Nat.le_refl _) _).setCell (Nat.le_refl _) _).setCell (Nat.le_refl _) _).setCell (Nat.le_refl _) _⟩
    rw [results_cell_tmp rfl]
    unfold stV
    go_simp
end Go.Proofs.YtcajejfddfiidaaDoor
