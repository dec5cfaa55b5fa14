import Derived.Test.YtcehnibfmhbeiabLawW
import Derived.ProofKit
import Derived.OpenShut
import Derived.ShutString
import Derived.ChangeOld
import Derived.Below
import Derived.Lib.SmallJoins
namespace Go.Proofs.Ytcehnibfmhbeiab
open Go.ChangeShapes Go.WideShapes Go.ChangeAt Go.RowKit Go.Joins
set_option linter.unusedVariables false

theorem own : ownKnob Try.prog.godebug = none := by kernel_rfl
theorem laidOut : laidOutB Try.prog = true := by kernel_rfl
theorem c23 : Try.prog.cellsOf 23 = 2 := by kernel_rfl
theorem c25 : Try.prog.cellsOf 25 = 4 := by kernel_rfl
theorem c27 : Try.prog.cellsOf 27 = 4 := by kernel_rfl

theorem walk (v : Int) (r : Bool) (s : ByteArray) (latch on mem raw : Bool) (delay hold run left : Int) (w : World)
    (wv : (Lit.int .i32 v).wf = true) (wr : (Lit.int .i32 run).wf = true) (wl : (Lit.int .i32 left).wf = true) :
    Calls Try.prog 3 #[.agg #[.int .i32 v, .bool r], .agg #[.string s, .bool latch, .int .i64 delay, .int .i64 hold], .agg #[.int .i32 run, .int .i32 left, .bool on, .bool mem], .bool raw] w
      fun e w' => e = .returned (.bool true) ∧ Below w.heap.size w w' := by
  have hv := bounds_i32 wv
  have hr := bounds_i32 wr
  have hl := bounds_i32 wl
  exact law_walk v r s latch on mem raw delay hold run left _ _ _ _ _ w (fun w => up_any v w hv.1 hv.2) (fun w => refUp_any v w hv.1 hv.2) (fun w => step_any v r w hv.1 hv.2) (fun w => refStep_any v r w hv.1 hv.2)
    (fun w => sense_any s latch on mem raw delay hold run left w hr.1 hr.2 hl.2) (fun w => refSense_any s latch on mem raw delay hold run left w hr.1 hr.2 hl.2)

set_option maxRecDepth 100000 in
theorem lifted (os : Os) (started : os.Started) (H : Type) (enc : TypeId × Value → H) :
    ReturnsInHanded {} Try.checked os 3 .any (Rows.arithMetersSpec.pre6 enc Try.prog Try.f3 Rows.arithMetersRow.domain false) (Rows.arithMetersSpec.post enc Try.prog Try.f3 false true false false) := by
  refine returnsInHanded_of_change (C := Try.checked) own started (by kernel_rfl) Try.func3
    (ChangeSpec.witness6 (enc := enc) (C := Try.checked) false ⟨#[], #[.agg #[.int .i32 0, .bool false], .agg #[.string ByteArray.empty, .bool false, .int .i64 0, .int .i64 0], .agg #[.int .i32 0, .int .i32 0, .bool false, .bool false], .bool false], []⟩ 8 (by kernel_rfl) (by kernel_rfl) (by kernel_rfl) (by kernel_rfl)) ?_
  intro W base args ds gs before hval0 hW hcnd _
  have hval : ∀ (j : Nat) t v, Try.f3.params[j]? = some t → args[j]? = some v → Value.okWide Try.prog W .any base t v := hval0
  have hW' := hW
  obtain ⟨p, q, hA0, hV, rfl, hfz, hnd⟩ := hW
  have hA : DataW.TrodAll enc Try.prog W 0 (fun _ => true) true Try.f3.params.toList args.toList ds p := hA0
  rw [Try.params3] at hA hval
  obtain ⟨v0, vs0, d0, ds0, p0, q0, hargs, rfl, rfl, h0, r0⟩ := trodAll_cons hA
  obtain ⟨v1, vs1, d1, ds1, p1, q1, rfl, rfl, rfl, h1, r1⟩ := trodAll_cons r0
  obtain ⟨v2, vs2, d2, ds2, p2, q2, rfl, rfl, rfl, h2, r2⟩ := trodAll_cons r1
  obtain ⟨v3, vs3, d3, ds3, p3, q3, rfl, rfl, rfl, h3, r3⟩ := trodAll_cons r2
  obtain ⟨rfl, rfl, rfl⟩ := trodAll_nil r3
  obtain rfl : args = #[v0, v1, v2, v3] := by cases args; simp_all
  obtain ⟨rfl, rfl⟩ := trodVars_none hV
  have k0 := h0
  have k1 := h1
  have k2 := h2
  have k3 := h3
  have lt0 : ∀ x ∈ p0, x.block < W.heap.size := by obtain ⟨m, hm⟩ := k0; exact DataW.trod_lt m _ _ _ hm
  have lt1 : ∀ x ∈ p1, x.block < W.heap.size := by obtain ⟨m, hm⟩ := k1; exact DataW.trod_lt m _ _ _ hm
  have lt2 : ∀ x ∈ p2, x.block < W.heap.size := by obtain ⟨m, hm⟩ := k2; exact DataW.trod_lt m _ _ _ hm
  have lt3 : ∀ x ∈ p3, x.block < W.heap.size := by obtain ⟨m, hm⟩ := k3; exact DataW.trod_lt m _ _ _ hm
  obtain ⟨x0, x1, y0, y1, m, rfl, _, _, g0, g1⟩ := open_agg2 Try.underlying23 (by kernel_rfl) c23 (hval 0 23 v0 rfl rfl) h0
  obtain ⟨v, e0, _, wv⟩ := DataW.trod_int Try.underlying21 g0
  obtain rfl : x0 = .int .i32 v := by simpa using e0
  obtain ⟨r, e1, _⟩ := DataW.trod_bool Try.underlying4 g1
  obtain rfl : x1 = .bool r := by simpa using e1
  obtain ⟨z0, z1, z2, z3, u0, u1, u2, u3, n, rfl, _, _, f0, f1, f2, f3⟩ := open_agg4 Try.underlying25 (by kernel_rfl) c25 (hval 1 25 v1 rfl rfl) h1
  obtain ⟨s, i0, _, _⟩ := DataW.trod_string Try.underlying9 f0
  obtain rfl : z0 = .string s := by simpa using i0
  obtain ⟨latch, i1, _⟩ := DataW.trod_bool Try.underlying4 f1
  obtain rfl : z1 = .bool latch := by simpa using i1
  obtain ⟨delay, i2, _, _⟩ := DataW.trod_int Try.underlying3 f2
  obtain rfl : z2 = .int .i64 delay := by simpa using i2
  obtain ⟨hold, i3, _, _⟩ := DataW.trod_int Try.underlying3 f3
  obtain rfl : z3 = .int .i64 hold := by simpa using i3
  obtain ⟨t0, t1, t2, t3, o0, o1, o2, o3, l, rfl, _, _, j0, j1, j2, j3⟩ := open_agg4 Try.underlying27 (by kernel_rfl) c27 (hval 2 27 v2 rfl rfl) h2
  obtain ⟨run, b0, _, wr⟩ := DataW.trod_int Try.underlying21 j0
  obtain rfl : t0 = .int .i32 run := by simpa using b0
  obtain ⟨left, b1, _, wl⟩ := DataW.trod_int Try.underlying21 j1
  obtain rfl : t1 = .int .i32 left := by simpa using b1
  obtain ⟨on, b2, _⟩ := DataW.trod_bool Try.underlying4 j2
  obtain rfl : t2 = .bool on := by simpa using b2
  obtain ⟨mem, b3, _⟩ := DataW.trod_bool Try.underlying4 j3
  obtain rfl : t3 = .bool mem := by simpa using b3
  obtain ⟨raw, rfl, _, _⟩ := open_bool Try.underlying4 (hval 3 4 v3 rfl rfl) h3
  clear hA0 hval0
  refine (walk v r s latch on mem raw delay hold run left W wv wr wl).mono fun e W' ⟨he, bel⟩ => ?_
  subst he
  exact ⟨_, rfl, _, _, _, [], _, [], hW', trodAll_mk1 (shut_bool Try.underlying4 _), (trodAll_cons_mk (Below.trod laidOut (by kernel_rfl) (of_decide_eq_true (by kernel_rfl)) k0 bel lt0) (trodAll_cons_mk (Below.trod laidOut (by kernel_rfl) (of_decide_eq_true (by kernel_rfl)) k1 bel lt1) (trodAll_cons_mk (Below.trod laidOut (by kernel_rfl) (of_decide_eq_true (by kernel_rfl)) k2 bel lt2) (trodAll_cons_mk (Below.trod laidOut (by kernel_rfl) (of_decide_eq_true (by kernel_rfl)) k3 bel lt3) trodAll_mk0)))), rfl, bel.frame _, fun h => by cases h⟩

theorem arithMeters_holds : Rows.ArithMetersSaid :=
  OpenClaim.holds_of_wide 3 Try.f3 rfl rfl rfl rfl rfl rfl rfl ⟨rfl, rfl, rfl, rfl, rfl⟩ rfl rfl rfl rfl rfl (by kernel_rfl) Try.func3 (by kernel_rfl)
    (of_decide_eq_true (by kernel_rfl)) (by unfold Func.isWrapper; first | (rw [if_pos (by decide +kernel)]; kernel_rfl) | (rw [if_neg (by decide +kernel)]; exact ⟨rfl, rfl⟩))
    (fun os started H enc _ => lifted os started H enc)
#print axioms arithMeters_holds
end Go.Proofs.Ytcehnibfmhbeiab
