import Derived.Test.YthflpnahifpdnaaOpT
import Derived.Test.YthflpnahifpdnaaHdA
import Derived.ProofKit
import Derived.OpenShut
import Derived.ChangeOld
import Derived.SizedLaws
import Derived.ChangeArms
import Derived.Deep.Slices
import Derived.KernelRfl
namespace Go.Proofs.Ythflpnahifpdnaa
open Go.ChangeShapes Go.WideShapes Go.ChangeAt Go.RowKit
set_option linter.unusedVariables false


theorem wfu64 {n : Int} (h : (Lit.int .u64 n).wf = true) : 0 ≤ n ∧ n < 18446744073709551616 := by
  simp [Lit.wf, IntKind.min, IntKind.max, IntKind.bits, IntKind.signed] at h
  omega
theorem wf32 {n : Int} (h : (Lit.int .i32 n).wf = true) : inI32 n := by
  simp [Lit.wf, IntKind.min, IntKind.max, IntKind.bits, IntKind.signed] at h
  unfold inI32
  omega
def N64R (S : Nat → Prop) (w : World) (cs : List Value) (x : Int) : Prop := cs = n64 x ∧ True
def N32R (S : Nat → Prop) (w : World) (cs : List Value) (x : Int) : Prop := cs = n32 x ∧ inI32 x
def U64R (S : Nat → Prop) (w : World) (cs : List Value) (x : Nat) : Prop := cs = u64 x ∧ x < 18446744073709551616
theorem k26 : Try.prog.cellsOf 34 = 1 := by kernel_rfl
theorem k27 : Try.prog.cellsOf 35 = 1 := by kernel_rfl
theorem k21 : Try.prog.cellsOf 21 = 1 := by kernel_rfl
theorem k30 : Try.prog.cellsOf 26 = 1 := by kernel_rfl
theorem k29 : Try.prog.cellsOf 37 = 3 := by kernel_rfl
theorem y3 : Try.prog.bytesOf 3 = 8 := by kernel_rfl
theorem y21 : Try.prog.bytesOf 21 = 4 := by kernel_rfl
theorem y30 : Try.prog.bytesOf 26 = 8 := by kernel_rfl
section
variable {H : Type} {enc : TypeId × Value → H} {W : World} {base n : Nat} {held : Bool} {cs : List Value} {y : DataW H × List MemPlace}
theorem n64_open (h : DataW.trod enc Try.prog W base (fun _ => true) held n 3 cs = some y) : ∃ a : Int, cs.length = 1 ∧ N64R (fun _ => True) W cs a := by
  obtain ⟨m, e, _, _⟩ := DataW.trod_int Try.underlying3 h
  exact ⟨m, by rw [e]; rfl, e, trivial⟩
theorem n32_open (h : DataW.trod enc Try.prog W base (fun _ => true) held n 21 cs = some y) : ∃ a : Int, cs.length = 1 ∧ N32R (fun _ => True) W cs a := by
  obtain ⟨m, e, _, r⟩ := DataW.trod_int Try.underlying21 h
  exact ⟨m, by rw [e]; rfl, e, wf32 r⟩
theorem u64_open (h : DataW.trod enc Try.prog W base (fun _ => true) held n 26 cs = some y) : ∃ a : Nat, cs.length = 1 ∧ U64R (fun _ => True) W cs a := by
  obtain ⟨m, e, _, r⟩ := DataW.trod_int Try.underlying26 h
  obtain ⟨h0, h1⟩ := wfu64 r
  refine ⟨m.toNat, by rw [e]; rfl, ?_, by omega⟩
  rw [e]
  unfold u64
  rw [Int.toNat_of_nonneg h0]
/-- Heads as they are read. -/
def HdsR (w : World) (v : Value) (A I Z : List Int) : Prop := ∃ v1 v2 v3, v = .agg #[v1, v2, v3] ∧ Fl 1 n64 w v1 A ∧ Fl 1 n32 w v2 I ∧ Fl 1 n32 w v3 Z ∧ A.length ≤ 17592186044000 ∧ I.length ≤ 35184372088000 ∧ Z.length ≤ 35184372088000 ∧ (∀ x ∈ I, inI32 x) ∧ ∀ x ∈ Z, inI32 x
theorem mem_of_get {α : Type} {P : α → Prop} {L : List α} (h : ∀ (i : Nat) (hi : i < L.length), P L[i]) : ∀ x ∈ L, P x := by
  intro x hx
  obtain ⟨i, hi, e⟩ := List.getElem_of_mem hx
  rw [← e]
  exact h i hi
set_option maxRecDepth 100000 in
theorem heads_open (h : DataW.trod enc Try.prog W base (fun _ => true) held n 37 cs = some y) (hw : WOk Try.prog 37 y.1) : ∃ A I Z, HdsR W (.agg cs.toArray) A I Z := by
  obtain ⟨xs, k, _, hy, hl, hlen, hf⟩ := DataW.trod_struct Try.underlying37 h
  subst hy
  rw [k29] at hl
  match cs, hl, xs, hlen with
  | [a0, a1, a2], _, [y0, y1, y2], _ =>
    have f0 : DataW.trod enc Try.prog W base (fun _ => true) held k 34 [a0] = some y0 := by simpa [k26] using hf 0 _ rfl
    have f1 : DataW.trod enc Try.prog W base (fun _ => true) held k 35 [a1] = some y1 := by simpa [k27] using hf 1 _ rfl
    have f2 : DataW.trod enc Try.prog W base (fun _ => true) held k 35 [a2] = some y2 := by simpa [k27] using hf 2 _ rfl
    obtain ⟨v0, A, e0, h0⟩ := rows_open (R := N64R) (sz := 1) (mx := 17592186044000) (by decide) Try.underlying34 k3 y3 (fun n hn => by unfold reachBytes at hn; omega) (fun _ _ _ h w => n64_open h) f0 (hw.field Try.underlying37 (j := 0) rfl rfl)
    obtain ⟨v1, I, e1, h1⟩ := rows_open (R := N32R) (sz := 1) (mx := 35184372088000) (by decide) Try.underlying35 k21 y21 (fun n hn => by unfold reachBytes at hn; omega) (fun _ _ _ h w => n32_open h) f1 (hw.field Try.underlying37 (j := 1) rfl rfl)
    obtain ⟨v2, Z, e2, h2⟩ := rows_open (R := N32R) (sz := 1) (mx := 35184372088000) (by decide) Try.underlying35 k21 y21 (fun n hn => by unfold reachBytes at hn; omega) (fun _ _ _ h w => n32_open h) f2 (hw.field Try.underlying37 (j := 2) rfl rfl)
    simp at e0 e1 e2
    subst e0 e1 e2
    obtain ⟨a1, a2, a3⟩ := rows_fl (fun _ _ _ _ h => h) h0
    obtain ⟨b1, b2, b3⟩ := rows_fl (fun _ _ _ _ h => h) h1
    obtain ⟨c1, c2, c3⟩ := rows_fl (fun _ _ _ _ h => h) h2
    exact ⟨A, I, Z, _, _, _, rfl, a1, b1, c1, a2, b2, c2, mem_of_get b3, mem_of_get c3⟩
theorem wants_open (h : DataW.trod enc Try.prog W base (fun _ => true) held n 43 cs = some y) (hw : WOk Try.prog 43 y.1) : ∃ v L, cs = [v] ∧ Fl 1 u64 W v L ∧ L.length ≤ 17592186044000 ∧ ∀ x ∈ L, x < 18446744073709551616 := by
  obtain ⟨v0, A, e0, h0⟩ := rows_open (R := U64R) (sz := 1) (mx := 17592186044000) (by decide) Try.underlying43 k30 y30 (fun n hn => by unfold reachBytes at hn; omega) (fun _ _ _ h w => u64_open h) h hw
  obtain ⟨a1, a2, a3⟩ := rows_fl (fun _ _ _ _ h => h) h0
  exact ⟨v0, A, e0, a1, a2, mem_of_get a3⟩
end
theorem heads_arg {H : Type} {enc : TypeId × Value → H} {W : World} {base b0 : Nat} {held : Bool} {v : Value} {d : DataW H} {ps : List MemPlace} (h : DataW.Trod enc Try.prog W base (fun _ => true) held 37 v d ps) (hv : Value.okWide Try.prog W .any b0 37 v) (hw : WOk Try.prog 37 d) : ∃ A I Z, HdsR W v A I Z := by
  obtain ⟨cs, rfl, _⟩ := okWide_struct Try.underlying37 hv
  obtain ⟨fuel, hf⟩ := h
  simpa [Value.cells] using heads_open hf hw
theorem slice_val {W : World} {b0 : Nat} {v : Value} (hv : Value.okWide Try.prog W .any b0 43 v) : ∃ a l c, v = .slice a l c := by
  obtain ⟨a, l, c, e⟩ := okWide_slice Try.underlying43 hv
  exact ⟨a, l, c, e⟩
theorem wants_arg {H : Type} {enc : TypeId × Value → H} {W : World} {base b0 : Nat} {held : Bool} {v : Value} {d : DataW H} {ps : List MemPlace} (h : DataW.Trod enc Try.prog W base (fun _ => true) held 43 v d ps) (hv : Value.okWide Try.prog W .any b0 43 v) (hw : WOk Try.prog 43 d) : ∃ L, Fl 1 u64 W v L ∧ L.length ≤ 17592186044000 ∧ ∀ x ∈ L, x < 18446744073709551616 := by
  obtain ⟨a, l, c, rfl⟩ := slice_val hv
  obtain ⟨fuel, hf⟩ := h
  obtain ⟨v, L, e, r⟩ := wants_open hf hw
  simp [Value.cells] at e
  subst e
  exact ⟨L, r⟩
theorem u64_arg {H : Type} {enc : TypeId × Value → H} {W : World} {base b0 : Nat} {held : Bool} {v : Value} {d : DataW H} {ps : List MemPlace} (h : DataW.Trod enc Try.prog W base (fun _ => true) held 26 v d ps) (hv : Value.okWide Try.prog W .any b0 26 v) : ∃ M : Nat, v = .int .u64 (M : Int) ∧ M < 18446744073709551616 := by
  obtain ⟨m, rfl⟩ := okWide_int Try.underlying26 hv
  obtain ⟨fu, hf⟩ := h
  obtain ⟨n, e, _, r⟩ := DataW.trod_int Try.underlying26 hf
  simp [Value.cells] at e
  subst e
  obtain ⟨h0, h1⟩ := wfu64 r
  exact ⟨m.toNat, by rw [Int.toNat_of_nonneg h0], by omega⟩
end Go.Proofs.Ythflpnahifpdnaa
