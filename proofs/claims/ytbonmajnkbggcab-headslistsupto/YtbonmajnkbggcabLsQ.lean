import Derived.Test.YtbonmajnkbggcabOpT
import Derived.Test.YtbonmajnkbggcabHdA
import Derived.ProofKit
import Derived.OpenShut
import Derived.ChangeOld
import Derived.SizedLaws
import Derived.ChangeArms
import Derived.Deep.Slices
import Derived.KernelRfl
import Derived.Test.YtbonmajnkbggcabLsL
import Derived.Test.YtbonmajnkbggcabRows
import Derived.Deep.CondSized
namespace Go.Proofs.Ytbonmajnkbggcab
open Go.ChangeShapes Go.WideShapes Go.ChangeAt Go.RowKit
set_option linter.unusedVariables false


theorem wfu64 {n : Int} (h : (Lit.int .u64 n).wf = true) : 0 ≤ n ∧ n < 18446744073709551616 := by
  simp [Lit.wf, IntKind.min, IntKind.max, IntKind.bits, IntKind.signed] at h
  omega
theorem wf32 {n : Int} (h : (Lit.int .i32 n).wf = true) : inI32 n := by
  simp [Lit.wf, IntKind.min, IntKind.max, IntKind.bits, IntKind.signed] at h
  unfold inI32
  omega
def N64R (S : Nat → Prop) (w : World) (cs : List Value) (x : Int) : Prop := cs = n64 x ∧ True
def N32R (S : Nat → Prop) (w : World) (cs : List Value) (x : Int) : Prop := cs = n32 x ∧ inI32 x
def U64R (S : Nat → Prop) (w : World) (cs : List Value) (x : Nat) : Prop := cs = u64 x ∧ x < 18446744073709551616
theorem k26 : Try.prog.cellsOf 26 = 1 := by kernel_rfl
theorem k27 : Try.prog.cellsOf 27 = 1 := by kernel_rfl
theorem k21 : Try.prog.cellsOf 21 = 1 := by kernel_rfl
theorem k30 : Try.prog.cellsOf 30 = 1 := by kernel_rfl
theorem k29 : Try.prog.cellsOf 29 = 3 := by kernel_rfl
theorem y3 : Try.prog.bytesOf 3 = 8 := by kernel_rfl
theorem y21 : Try.prog.bytesOf 21 = 4 := by kernel_rfl
theorem y30 : Try.prog.bytesOf 30 = 8 := by kernel_rfl
section
variable {H : Type} {enc : TypeId × Value → H} {W : World} {base n : Nat} {held : Bool} {cs : List Value} {y : DataW H × List MemPlace}
theorem n64_open (h : DataW.trod enc Try.prog W base (fun _ => true) held n 3 cs = some y) : ∃ a : Int, cs.length = 1 ∧ N64R (fun _ => True) W cs a := by
  obtain ⟨m, e, _, _⟩ := DataW.trod_int Try.underlying3 h
  exact ⟨m, by rw [e]; rfl, e, trivial⟩
theorem n32_open (h : DataW.trod enc Try.prog W base (fun _ => true) held n 21 cs = some y) : ∃ a : Int, cs.length = 1 ∧ N32R (fun _ => True) W cs a := by
  obtain ⟨m, e, _, r⟩ := DataW.trod_int Try.underlying21 h
  exact ⟨m, by rw [e]; rfl, e, wf32 r⟩
theorem u64_open (h : DataW.trod enc Try.prog W base (fun _ => true) held n 30 cs = some y) : ∃ a : Nat, cs.length = 1 ∧ U64R (fun _ => True) W cs a := by
  obtain ⟨m, e, _, r⟩ := DataW.trod_int Try.underlying30 h
  obtain ⟨h0, h1⟩ := wfu64 r
  refine ⟨m.toNat, by rw [e]; rfl, ?_, by omega⟩
  rw [e]
  unfold u64
  rw [Int.toNat_of_nonneg h0]
/-- Heads as they are read. -/
def HdsR (w : World) (v : Value) (A I Z : List Int) : Prop := ∃ v1 v2 v3, v = .agg #[v1, v2, v3] ∧ Fl 1 n64 w v1 A ∧ Fl 1 n32 w v2 I ∧ Fl 1 n32 w v3 Z ∧ A.length ≤ 17592186044000 ∧ I.length ≤ 35184372088000 ∧ Z.length ≤ 35184372088000 ∧ (∀ x ∈ I, inI32 x) ∧ ∀ x ∈ Z, inI32 x
theorem mem_of_get {α : Type} {P : α → Prop} {L : List α} (h : ∀ (i : Nat) (hi : i < L.length), P L[i]) : ∀ x ∈ L, P x := by
  intro x hx
  obtain ⟨i, hi, e⟩ := List.getElem_of_mem hx
  rw [← e]
  exact h i hi
set_option maxRecDepth 100000 in
theorem heads_open (h : DataW.trod enc Try.prog W base (fun _ => true) held n 29 cs = some y) (hw : WOk Try.prog 29 y.1) : ∃ A I Z, HdsR W (.agg cs.toArray) A I Z := by
  obtain ⟨xs, k, _, hy, hl, hlen, hf⟩ := DataW.trod_struct Try.underlying29 h
  subst hy
  rw [k29] at hl
  match cs, hl, xs, hlen with
  | [a0, a1, a2], _, [y0, y1, y2], _ =>
    have f0 : DataW.trod enc Try.prog W base (fun _ => true) held k 26 [a0] = some y0 := by simpa [k26] using hf 0 _ rfl
    have f1 : DataW.trod enc Try.prog W base (fun _ => true) held k 27 [a1] = some y1 := by simpa [k27] using hf 1 _ rfl
    have f2 : DataW.trod enc Try.prog W base (fun _ => true) held k 27 [a2] = some y2 := by simpa [k27] using hf 2 _ rfl
    obtain ⟨v0, A, e0, h0⟩ := rows_open (R := N64R) (sz := 1) (mx := 17592186044000) (by decide) Try.underlying26 k3 y3 (fun n hn => by unfold reachBytes at hn; omega) (fun _ _ _ h w => n64_open h) f0 (hw.field Try.underlying29 (j := 0) rfl rfl)
    obtain ⟨v1, I, e1, h1⟩ := rows_open (R := N32R) (sz := 1) (mx := 35184372088000) (by decide) Try.underlying27 k21 y21 (fun n hn => by unfold reachBytes at hn; omega) (fun _ _ _ h w => n32_open h) f1 (hw.field Try.underlying29 (j := 1) rfl rfl)
    obtain ⟨v2, Z, e2, h2⟩ := rows_open (R := N32R) (sz := 1) (mx := 35184372088000) (by decide) Try.underlying27 k21 y21 (fun n hn => by unfold reachBytes at hn; omega) (fun _ _ _ h w => n32_open h) f2 (hw.field Try.underlying29 (j := 2) rfl rfl)
    simp at e0 e1 e2
    subst e0 e1 e2
    obtain ⟨a1, a2, a3⟩ := rows_fl (fun _ _ _ _ h => h) h0
    obtain ⟨b1, b2, b3⟩ := rows_fl (fun _ _ _ _ h => h) h1
    obtain ⟨c1, c2, c3⟩ := rows_fl (fun _ _ _ _ h => h) h2
    exact ⟨A, I, Z, _, _, _, rfl, a1, b1, c1, a2, b2, c2, mem_of_get b3, mem_of_get c3⟩
theorem wants_open (h : DataW.trod enc Try.prog W base (fun _ => true) held n 31 cs = some y) (hw : WOk Try.prog 31 y.1) : ∃ v L, cs = [v] ∧ Fl 1 u64 W v L ∧ L.length ≤ 17592186044000 ∧ ∀ x ∈ L, x < 18446744073709551616 := by
  obtain ⟨v0, A, e0, h0⟩ := rows_open (R := U64R) (sz := 1) (mx := 17592186044000) (by decide) Try.underlying31 k30 y30 (fun n hn => by unfold reachBytes at hn; omega) (fun _ _ _ h w => u64_open h) h hw
  obtain ⟨a1, a2, a3⟩ := rows_fl (fun _ _ _ _ h => h) h0
  exact ⟨v0, A, e0, a1, a2, mem_of_get a3⟩
end
theorem heads_arg {H : Type} {enc : TypeId × Value → H} {W : World} {base b0 : Nat} {held : Bool} {v : Value} {d : DataW H} {ps : List MemPlace} (h : DataW.Trod enc Try.prog W base (fun _ => true) held 29 v d ps) (hv : Value.okWide Try.prog W .any b0 29 v) (hw : WOk Try.prog 29 d) : ∃ A I Z, HdsR W v A I Z := by
  obtain ⟨cs, rfl, _⟩ := okWide_struct Try.underlying29 hv
  obtain ⟨fuel, hf⟩ := h
  simpa [Value.cells] using heads_open hf hw
theorem slice_val {W : World} {b0 : Nat} {v : Value} (hv : Value.okWide Try.prog W .any b0 31 v) : ∃ a l c, v = .slice a l c := by
  obtain ⟨a, l, c, e⟩ := okWide_slice Try.underlying31 hv
  exact ⟨a, l, c, e⟩
theorem wants_arg {H : Type} {enc : TypeId × Value → H} {W : World} {base b0 : Nat} {held : Bool} {v : Value} {d : DataW H} {ps : List MemPlace} (h : DataW.Trod enc Try.prog W base (fun _ => true) held 31 v d ps) (hv : Value.okWide Try.prog W .any b0 31 v) (hw : WOk Try.prog 31 d) : ∃ L, Fl 1 u64 W v L ∧ L.length ≤ 17592186044000 ∧ ∀ x ∈ L, x < 18446744073709551616 := by
  obtain ⟨a, l, c, rfl⟩ := slice_val hv
  obtain ⟨fuel, hf⟩ := h
  obtain ⟨v, L, e, r⟩ := wants_open hf hw
  simp [Value.cells] at e
  subst e
  exact ⟨L, r⟩
theorem u64_arg {H : Type} {enc : TypeId × Value → H} {W : World} {base b0 : Nat} {held : Bool} {v : Value} {d : DataW H} {ps : List MemPlace} (h : DataW.Trod enc Try.prog W base (fun _ => true) held 30 v d ps) (hv : Value.okWide Try.prog W .any b0 30 v) : ∃ M : Nat, v = .int .u64 (M : Int) ∧ M < 18446744073709551616 := by
  obtain ⟨m, rfl⟩ := okWide_int Try.underlying30 hv
  obtain ⟨fu, hf⟩ := h
  obtain ⟨n, e, _, r⟩ := DataW.trod_int Try.underlying30 hf
  simp [Value.cells] at e
  subst e
  obtain ⟨h0, h1⟩ := wfu64 r
  exact ⟨m.toNat, by rw [Int.toNat_of_nonneg h0], by omega⟩
end Go.Proofs.Ytbonmajnkbggcab
namespace Go.Proofs.Ytbonmajnkbggcab
open Go.ChangeShapes Go.WideShapes Go.ChangeAt Go.RowKit
set_option linter.unusedVariables false

theorem bulk_one {H : Type} (d : DataW H) : 1 ≤ Rows.uptoBulk d := by
  cases d with
  | lit l => cases l <;> simp [Rows.uptoBulk]
  | nil => simp [Rows.uptoBulk]
  | ptr d => simp [Rows.uptoBulk]
  | slice elems spare => simp [Rows.uptoBulk]
  | agg parts => simp [Rows.uptoBulk]
  | iface t d => simp [Rows.uptoBulk]
  | map entries => simp [Rows.uptoBulk]
  | held h => simp [Rows.uptoBulk]
theorem bulk_len {H : Type} (l : List (DataW H)) : l.length ≤ Rows.uptoBulkAll l := by
  induction l with
  | nil => simp
  | cons x r ih => have := bulk_one x; simp only [Rows.uptoBulkAll, List.length_cons]; omega
/-- A list that is handed in is no longer than the bulk. -/
theorem wants_len {H : Type} {enc : TypeId × Value → H} {W : World} {base : Nat} {held : Bool} {a : Option Addr} {l c : Nat} {d : DataW H} {ps : List MemPlace} (h : DataW.Trod enc Try.prog W base (fun _ => true) held 31 (.slice a l c) d ps) : l ≤ Rows.uptoBulk d := by
  obtain ⟨fuel, hf⟩ := h
  rcases Go.Deep.open_slice Try.underlying31 hf with ⟨hcs, _⟩ | ⟨ad, len, cap, m, n, D, Pl, hcs, _, hle, hm, hmm, hx, hel⟩
  · simp [Value.cells] at hcs
    omega
  · simp [Value.cells] at hcs
    injection hx with hx _
    subst hx
    simp only [Rows.uptoBulk]
    have := bulk_len ((List.range len).map D)
    simp at this
    omega
theorem wants_bound {H : Type} {d0 d1 : DataW H} (hk : Rows.uptoSmall H ([d0, d1] ++ []) = true) : Rows.uptoBulk d1 ≤ 1048576 := by
  have h : Rows.uptoBulkAll [d0, d1] ≤ 1048576 := of_decide_eq_true hk
  simp only [Rows.uptoBulkAll] at h
  omega
theorem lists_any (G : List Gp) (C : List Cf) (Ms : List Nat) (vg vc vm : Value) (w : World) (h1 : Fl 5 Gp.cs w vg G) (h2 : Fl 4 Cf.cs w vc C) (h3 : Fl 1 u64 w vm Ms) (lG : G.length ≤ 2932031007317) (lC : C.length ≤ 4398046511000) (lM : Ms.length ≤ 1048576) (hM : ∀ x ∈ Ms, x < 18446744073709551616) :
    Calls Try.prog 5 #[.agg #[vg, vc], vm] w fun e w' => e = .returned (.bool true) ∧ Below w.heap.size w w' := by
  cases hg : gridB G C with
  | false => exact lists_bad G C Ms vg vc vm w h1 h2 h3 lG lC hg
  | true => exact lists_ok G C Ms vg vc vm w h1 h2 h3 lG lC lM hM hg
theorem ownR : ownKnob Try.prog.godebug = none := by kernel_rfl
theorem laidOutR : laidOutB Try.prog = true := by kernel_rfl
set_option maxRecDepth 100000 in
theorem lifted (os : Os) (started : os.Started) (H : Type) (enc : TypeId × Value → H) (F : Stop.Interp) :
    ReturnsInHanded {} Try.checked os 5 .any ((Rows.OpenSpec.upto Rows.headsListsSpec).pre6 enc Try.prog Try.f5 Rows.headsListsUptoRow.domain false) (((Rows.OpenSpec.upto Rows.headsListsSpec).at F).post enc Try.prog Try.f5 false true false false) := by
  refine returnsInHanded_of_cond_sized (C := Try.checked) (s := Rows.OpenSpec.upto Rows.headsListsSpec) (k := Rows.uptoSmall) rfl ownR started (by kernel_rfl) Try.func5
    (OpenSpec.witness (enc := enc) (C := Try.checked) (s := Rows.OpenSpec.upto Rows.headsListsSpec) (k := Rows.uptoSmall) rfl false ⟨#[], #[.agg #[.slice none 0 0, .slice none 0 0], .slice none 0 0], []⟩ 8 (by kernel_rfl) (by kernel_rfl) (by kernel_rfl)
      (x := ([.agg [.nil, .nil], .nil], [], [])) (by kernel_rfl) rfl (by kernel_rfl)) ?_
  intro W base args ds gs before hval0 hW hcnd hk hsz _
  have hval : ∀ (j : Nat) t v, Try.f5.params[j]? = some t → args[j]? = some v → Value.okWide Try.prog W .any base t v := hval0
  have hW' := hW
  obtain ⟨p, q, hA0, hV, rfl, hfz, hnd⟩ := hW
  have hA : DataW.TrodAll enc Try.prog W 0 (fun _ => true) true Try.f5.params.toList args.toList ds p := hA0
  rw [Try.params5] at hA hval hsz
  obtain ⟨v0, vs0, d0, ds0, p0, q0, hargs, rfl, rfl, h0, r0⟩ := trodAll_cons hA
  obtain ⟨v1, vs1, d1, ds1, p1, q1, rfl, rfl, rfl, h1, r1⟩ := trodAll_cons r0
  obtain ⟨rfl, rfl, rfl⟩ := trodAll_nil r1
  obtain rfl : args = #[v0, v1] := by cases args; simp_all
  obtain ⟨rfl, rfl⟩ := trodVars_none hV
  have k0 := h0
  have lt0 : ∀ x ∈ p0, x.block < W.heap.size := by obtain ⟨m, hm⟩ := k0; exact DataW.trod_lt m _ _ _ hm
  have k1 := h1
  have lt1 : ∀ x ∈ p1, x.block < W.heap.size := by obtain ⟨m, hm⟩ := k1; exact DataW.trod_lt m _ _ _ hm
  obtain ⟨G, C, vg, vc, rfl, hG, hC, lG, lC, okG, okC⟩ := tables_arg h0 (hval 0 25 v0 rfl rfl) (wok_of_each hsz (j := 0) rfl rfl)
  obtain ⟨L, hL, lL, okL⟩ := wants_arg h1 (hval 1 31 v1 rfl rfl) (wok_of_each hsz (j := 1) rfl rfl)
  have lB : L.length ≤ 1048576 := by
    obtain ⟨a, c, e, _⟩ := hL.any
    rw [e] at h1
    have := wants_len h1
    have := wants_bound hk
    omega
  clear hA0 hval0
  refine (lists_any G C L vg vc v1 W hG hC hL lG lC lB okL).mono fun e W' ⟨he, bel⟩ => ?_
  subst he
  exact ⟨_, rfl, _, _, _, [], _, [], hW', trodAll_mk1 (shut_bool Try.underlying4 _), (trodAll_cons_mk (Below.trod laidOutR (by kernel_rfl) (of_decide_eq_true (by kernel_rfl)) k0 bel lt0) (trodAll_cons_mk (Below.trod laidOutR (by kernel_rfl) (of_decide_eq_true (by kernel_rfl)) k1 bel lt1) trodAll_mk0)), rfl, bel.frame _, fun h => by cases h⟩
theorem headsListsUpto_holds : Rows.HeadsListsUptoSaid :=
  OpenClaim.holds_of_cond 5 Try.f5 rfl rfl rfl rfl rfl rfl rfl ⟨rfl, rfl, rfl, rfl, rfl⟩ rfl rfl rfl rfl rfl (by kernel_rfl) Try.func5 (by kernel_rfl)
    (of_decide_eq_true (by kernel_rfl)) (by unfold Func.isWrapper; first | (rw [if_pos (by decide +kernel)]; kernel_rfl) | (rw [if_neg (by decide +kernel)]; exact ⟨rfl, rfl⟩))
    (fun os started H enc _ F => lifted os started H enc F)
end Go.Proofs.Ytbonmajnkbggcab
