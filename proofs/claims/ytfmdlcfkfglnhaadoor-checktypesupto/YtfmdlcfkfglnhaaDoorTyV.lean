import Derived.Test.YtfmdlcfkfglnhaaDoorTyU
import Derived.Test.YtfmdlcfkfglnhaaDoorOpn
import Derived.Test.YtfmdlcfkfglnhaaDoorTabs
import Derived.Test.YtfmdlcfkfglnhaaDoorCards
import Derived.Test.YtfmdlcfkfglnhaaDoorTie
import Derived.ProofKit
import Derived.OpenShut
import Derived.ChangeArms
import Derived.ChangeOld
import Derived.SizedLaws
import Derived.ShutString
import Derived.Deep.Slices
import Derived.Deep.DeepHandedRow
import Derived.Lib.LaidTab
namespace Go.Proofs.YtfmdlcfkfglnhaaDoor.checkTypes
open Go.ChangeShapes Go.WideShapes Go.ChangeAt Go.RowKit
set_option linter.unusedVariables false

theorem k3 : Tryd.prog.cellsOf 3 = 1 := by kernel_rfl
theorem k9 : Tryd.prog.cellsOf 9 = 1 := by kernel_rfl
theorem k21 : Tryd.prog.cellsOf 21 = 1 := by kernel_rfl
theorem k48 : Tryd.prog.cellsOf 48 = 2 := by kernel_rfl
theorem k58 : Tryd.prog.cellsOf 58 = 5 := by kernel_rfl
theorem k60 : Tryd.prog.cellsOf 60 = 5 := by kernel_rfl
theorem y58 : Tryd.prog.bytesOf 58 = 48 := by kernel_rfl
theorem y60 : Tryd.prog.bytesOf 60 = 48 := by kernel_rfl
theorem sm_of {H : Type} {s : ByteArray} (h : WOk Tryd.prog 9 (.lit (.string s.data.toList) : DataW H)) : Sm s := by
  have h1 := h s.data.toList.length (by simp [DataW.weights])
  have h2 := reachBytes_lt
  have e1 : s.size = s.data.size := rfl
  have e2 : s.data.toList.length = s.data.size := Array.length_toList
  have e3 : (2 : Nat) ^ 47 = 140737488355328 := by decide
  unfold Sm
  omega
theorem le_of_sm {s : ByteArray} (h : Sm s) : s.size ≤ maxLen := by
  unfold Sm at h
  have : maxLen = 9223372036854775807 := by decide
  omega
def SyR (S : Nat → Prop) (w : World) (cs : List Value) (x : Sy) : Prop := cs = x.cs ∧ Sm x.name
def NeR (S : Nat → Prop) (w : World) (cs : List Value) (x : Nd) : Prop := cs = x.cs ∧ Sm x.name
section
variable {H : Type} {enc : TypeId × Value → H} {W : World} {base n : Nat} {held : Bool} {cs : List Value} {y : DataW H × List MemPlace}
set_option maxRecDepth 100000 in
theorem pos_open {a b : Value} (h : DataW.trod enc Tryd.prog W base (fun _ => true) held n 48 [a, b] = some y) : ∃ l c, a = .int .i64 l ∧ b = .int .i64 c := by
  obtain ⟨zs, k, _, _, _, hlen, hf⟩ := DataW.trod_struct Tryd.underlying48 h
  match zs, hlen with
  | [z0, z1], _ =>
    have g0 : DataW.trod enc Tryd.prog W base (fun _ => true) held k 3 [a] = some z0 := by simpa [k3] using hf 0 _ rfl
    have g1 : DataW.trod enc Tryd.prog W base (fun _ => true) held k 3 [b] = some z1 := by simpa [k3] using hf 1 _ rfl
    obtain ⟨n0, e0, _⟩ := DataW.trod_int Tryd.underlying3 g0
    obtain ⟨n1, e1, _⟩ := DataW.trod_int Tryd.underlying3 g1
    simp at e0 e1
    exact ⟨n0, n1, e0, e1⟩
set_option maxRecDepth 100000 in
theorem node_openS (h : DataW.trod enc Tryd.prog W base (fun _ => true) held n 60 cs = some y) (hw : WOk Tryd.prog 60 y.1) : ∃ a : Nd, cs.length = 5 ∧ NeR (fun _ => True) W cs a := by
  obtain ⟨xs, k, _, hy, hl, hlen, hf⟩ := DataW.trod_struct Tryd.underlying60 h
  subst hy
  rw [k60] at hl
  match cs, hl, xs, hlen with
  | [a0, a1, a2, a3, a4], _, [y0, y1, y2, y3], _ =>
    have f0 : DataW.trod enc Tryd.prog W base (fun _ => true) held k 3 [a0] = some y0 := by simpa [k3] using hf 0 _ rfl
    have f1 : DataW.trod enc Tryd.prog W base (fun _ => true) held k 21 [a1] = some y1 := by simpa [k21] using hf 1 _ rfl
    have f2 : DataW.trod enc Tryd.prog W base (fun _ => true) held k 9 [a2] = some y2 := by simpa [k9] using hf 2 _ rfl
    have f3 : DataW.trod enc Tryd.prog W base (fun _ => true) held k 48 [a3, a4] = some y3 := by simpa [k48] using hf 3 _ rfl
    obtain ⟨n0, e0, _⟩ := DataW.trod_int Tryd.underlying3 f0
    obtain ⟨n1, e1, _⟩ := DataW.trod_int Tryd.underlying21 f1
    obtain ⟨s2, e2, d2, _⟩ := DataW.trod_string Tryd.underlying9 f2
    obtain ⟨l, c, rfl, rfl⟩ := pos_open f3
    have w2 := hw.field Tryd.underlying60 (j := 2) (d := y2.1) rfl rfl
    rw [d2] at w2
    simp at e0 e1 e2
    subst e0 e1 e2
    exact ⟨⟨n0, n1, s2, l, c⟩, rfl, rfl, sm_of w2⟩
set_option maxRecDepth 100000 in
theorem sym_openS (h : DataW.trod enc Tryd.prog W base (fun _ => true) held n 58 cs = some y) (hw : WOk Tryd.prog 58 y.1) : ∃ a : Sy, cs.length = 5 ∧ SyR (fun _ => True) W cs a := by
  obtain ⟨xs, k, _, hy, hl, hlen, hf⟩ := DataW.trod_struct Tryd.underlying58 h
  subst hy
  rw [k58] at hl
  match cs, hl, xs, hlen with
  | [a0, a1, a2, a3, a4], _, [y0, y1, y2, y3], _ =>
    have f0 : DataW.trod enc Tryd.prog W base (fun _ => true) held k 9 [a0] = some y0 := by simpa [k9] using hf 0 _ rfl
    have f1 : DataW.trod enc Tryd.prog W base (fun _ => true) held k 3 [a1] = some y1 := by simpa [k3] using hf 1 _ rfl
    have f2 : DataW.trod enc Tryd.prog W base (fun _ => true) held k 3 [a2] = some y2 := by simpa [k3] using hf 2 _ rfl
    have f3 : DataW.trod enc Tryd.prog W base (fun _ => true) held k 48 [a3, a4] = some y3 := by simpa [k48] using hf 3 _ rfl
    obtain ⟨s0, e0, d0, _⟩ := DataW.trod_string Tryd.underlying9 f0
    obtain ⟨n1, e1, _⟩ := DataW.trod_int Tryd.underlying3 f1
    obtain ⟨n2, e2, _⟩ := DataW.trod_int Tryd.underlying3 f2
    obtain ⟨l, c, rfl, rfl⟩ := pos_open f3
    have w0 := hw.field Tryd.underlying58 (j := 0) (d := y0.1) rfl rfl
    rw [d0] at w0
    simp at e0 e1 e2
    subst e0 e1 e2
    exact ⟨⟨s0, n1, n2, l, c⟩, rfl, rfl, sm_of w0⟩
end
theorem fl_rows {α : Type} {mx : Nat} {cs : α → List Value} {Q : α → Prop} {S : Nat → Prop} {w : World} {v : Value} {L : List α} (h : Rows 5 mx (fun _ _ c x => c = cs x ∧ Q x) S w v L) : Fl 5 cs w v L ∧ ∀ x ∈ L, Q x := by
  rcases h with ⟨h1, h2⟩ | ⟨ad, cap, rfl, hc, hm', h | ⟨hs, hS, hg, hx⟩⟩
  · exact ⟨.inl ⟨h1, h2⟩, fun x hx => by rw [h2] at hx; cases hx⟩
  · exact ⟨.inr ⟨ad, cap, rfl, hc, .inl h⟩, fun x hx => by rw [h] at hx; cases hx⟩
  · refine ⟨.inr ⟨ad, cap, rfl, hc, .inr ⟨hs, hg, fun i hi j u hu => ?_⟩⟩, fun x hx' => ?_⟩
    · obtain ⟨c, _, b, d⟩ := hx i hi
      exact d j u (by rw [b.1]; exact hu)
    · obtain ⟨i, hi, rfl⟩ := List.getElem_of_mem hx'
      obtain ⟨c, _, b, d⟩ := hx i hi
      exact b.2
set_option maxRecDepth 100000 in
/-- Symbols handed in. -/
theorem syms_arg {H : Type} {enc : TypeId × Value → H} {W : World} {base b0 : Nat} {held : Bool} {v : Value} {d : DataW H} {ps : List MemPlace} (h : DataW.Trod enc Tryd.prog W base (fun _ => true) held 22 v d ps) (hv : Value.okWide Tryd.prog W .any b0 22 v) (hw : WOk Tryd.prog 22 d) : ∃ L : List Sy, Fl 5 Sy.cs W v L ∧ ∀ x ∈ L, Sm x.name := by
  haveI : Inhabited Sy := ⟨⟨⟨#[]⟩, 0, 0, 0, 0⟩⟩
  obtain ⟨a, len, cap, rfl⟩ := okWide_slice Tryd.underlying22 hv
  obtain ⟨fuel, hf⟩ := h
  obtain ⟨v, L, e, r⟩ := rows_open (mx := 2932031007317) (R := SyR) (sz := 5) (by decide) Tryd.underlying22 k58 y58 (fun n hn => by unfold reachBytes at hn; omega) (fun _ _ _ h w => sym_openS h w) hf hw
  simp [Value.cells] at e
  subst e
  exact ⟨L, fl_rows (cs := Sy.cs) (Q := fun x => Sm x.name) r⟩
set_option maxRecDepth 100000 in
/-- Nodes handed in. -/
theorem nodes_arg {H : Type} {enc : TypeId × Value → H} {W : World} {base b0 : Nat} {held : Bool} {v : Value} {d : DataW H} {ps : List MemPlace} (h : DataW.Trod enc Tryd.prog W base (fun _ => true) held 23 v d ps) (hv : Value.okWide Tryd.prog W .any b0 23 v) (hw : WOk Tryd.prog 23 d) : ∃ L : List Nd, Fl 5 Nd.cs W v L ∧ ∀ x ∈ L, Sm x.name := by
  haveI : Inhabited Nd := ⟨⟨0, 0, ⟨#[]⟩, 0, 0⟩⟩
  obtain ⟨a, len, cap, rfl⟩ := okWide_slice Tryd.underlying23 hv
  obtain ⟨fuel, hf⟩ := h
  obtain ⟨v, L, e, r⟩ := rows_open (mx := 2932031007317) (R := NeR) (sz := 5) (by decide) Tryd.underlying23 k60 y60 (fun n hn => by unfold reachBytes at hn; omega) (fun _ _ _ h w => node_openS h w) hf hw
  simp [Value.cells] at e
  subst e
  exact ⟨L, fl_rows (cs := Nd.cs) (Q := fun x => Sm x.name) r⟩
theorem bulk_one {H : Type} (d : DataW H) : 1 ≤ Rows.uptoBulk d := by
  cases d with
  | lit l => cases l <;> simp [Rows.uptoBulk]
  | nil => simp [Rows.uptoBulk]
  | ptr d => simp [Rows.uptoBulk]
  | slice elems spare => simp [Rows.uptoBulk]
  | agg parts => simp [Rows.uptoBulk]
  | iface t d => simp [Rows.uptoBulk]
  | map entries => simp [Rows.uptoBulk]
  | held h => simp [Rows.uptoBulk]
theorem bulk_len {H : Type} (l : List (DataW H)) : l.length ≤ Rows.uptoBulkAll l := by
  induction l with
  | nil => simp
  | cons x r ih => have := bulk_one x; simp only [Rows.uptoBulkAll, List.length_cons]; omega
/-- A list that is handed in is no longer than the bulk. -/
theorem slice_len {H : Type} {enc : TypeId × Value → H} {W : World} {base : Nat} {held : Bool} {a : Option Addr} {l c : Nat} {t e : TypeId} (ht : Tryd.prog.underlying t = some (.slice e)) {d : DataW H} {ps : List MemPlace} (h : DataW.Trod enc Tryd.prog W base (fun _ => true) held t (.slice a l c) d ps) : l ≤ Rows.uptoBulk d := by
  obtain ⟨fuel, hf⟩ := h
  rcases Go.Deep.open_slice ht hf with ⟨hcs, _⟩ | ⟨ad, len, cap, m, n, D, Pl, hcs, _, hle, hm, hmm, hx, hel⟩
  · simp [Value.cells] at hcs
    omega
  · simp [Value.cells] at hcs
    injection hx with hx _
    subst hx
    simp only [Rows.uptoBulk]
    have := bulk_len ((List.range len).map D)
    simp at this
    omega
theorem bounds {H : Type} {d0 d1 : DataW H} (hk : Rows.uptoSmall H ([d0, d1] ++ []) = true) : Rows.uptoBulk d0 ≤ 1048576 ∧ Rows.uptoBulk d1 ≤ 1048576 := by
  have h : Rows.uptoBulkAll [d0, d1] ≤ 1048576 := of_decide_eq_true hk
  simp only [Rows.uptoBulkAll] at h
  omega
theorem met (os : Os) : laidMet Tryd.prog Rows.checkTypesUptoRow.laid ((World.doorLaid Tryd.prog 400 os).forCall (fun _ _ => 0) ⟨#[], #[.slice none 0 0, .slice none 0 0], []⟩).memory :=
  laidMet_of_run' 8 (by kernel_rfl) (by kernel_rfl)
theorem reads (os : Os) {H : Type} (enc : TypeId × Value → H) : ∃ places, DataW.whole enc Tryd.prog ((World.doorLaid Tryd.prog 400 os).forCall (fun _ _ => 0) ⟨#[], #[.slice none 0 0, .slice none 0 0], []⟩).memory Tryd.f3.params.toList Rows.checkTypesSpec.vars false #[Value.slice none 0 0, Value.slice none 0 0].toList 8 = some ([.nil, .nil], [], places) :=
  ⟨[], by kernel_rfl⟩
set_option maxRecDepth 100000 in
theorem lifted (os : Os) (started : os.Started) (H : Type) (enc : TypeId × Value → H) (F : Stop.Interp) :
    ReturnsInHanded {} Tryd.checked os 3 .any ((Rows.OpenSpec.upto Rows.checkTypesSpec).preRow enc Tryd.prog Tryd.f3 Rows.checkTypesUptoRow.domain false Rows.checkTypesUptoRow.laid) (((Rows.OpenSpec.upto Rows.checkTypesSpec).at F).post enc Tryd.prog Tryd.f3 false true false false) := by
  obtain ⟨places, hx⟩ := reads os enc
  refine returnsInHanded_of_row (C := Tryd.checked) (s := Rows.OpenSpec.upto Rows.checkTypesSpec) own started (by kernel_rfl) Tryd.func3
    (witness_row_at (enc := enc) (C := Tryd.checked) false (World.doorLaid Tryd.prog 400 os) #[.slice none 0 0, .slice none 0 0] rfl (by kernel_rfl) (by kernel_rfl) (by kernel_rfl)
      (OpenSpec.preRow_of_cond 8 hx (by kernel_rfl) (fun k hk => by cases hk; kernel_rfl) (by kernel_rfl) (met os))) ?_
  intro W base args ds gs before hval0 hW _ hcond hsz hL _ _
  have hk := hcond _ rfl
  have hval : ∀ (j : Nat) t v, Tryd.f3.params[j]? = some t → args[j]? = some v → Value.okWide Tryd.prog W .any base t v := hval0
  have hW' := hW
  obtain ⟨p, q, hA0, hV, rfl, hfz, hnd⟩ := hW
  have hA : DataW.TrodAll enc Tryd.prog W 0 (fun _ => true) true Tryd.f3.params.toList args.toList ds p := hA0
  rw [Tryd.params3] at hA hval hsz
  obtain ⟨v0, vs0, d0, ds0, p0, q0, hargs, rfl, rfl, h0, r0⟩ := trodAll_cons hA
  obtain ⟨v1, vs1, d1, ds1, p1, q1, rfl, rfl, rfl, h1, r1⟩ := trodAll_cons r0
  obtain ⟨rfl, rfl, rfl⟩ := trodAll_nil r1
  obtain rfl : args = #[v0, v1] := by cases args; simp_all
  obtain ⟨rfl, rfl⟩ := trodVars_none hV
  have k0 := h0
  have k1 := h1
  have lt0 : ∀ x ∈ p0, x.block < W.heap.size := by obtain ⟨m, hm⟩ := k0; exact DataW.trod_lt m _ _ _ hm
  have lt1 : ∀ x ∈ p1, x.block < W.heap.size := by obtain ⟨m, hm⟩ := k1; exact DataW.trod_lt m _ _ _ hm
  obtain ⟨S, hS, hsS⟩ := syms_arg h0 (hval 0 22 v0 rfl rfl) (wok_of_each hsz (j := 0) rfl rfl)
  obtain ⟨L, hN, hsN⟩ := nodes_arg h1 (hval 1 23 v1 rfl rfl) (wok_of_each hsz (j := 1) rfl rfl)
  obtain ⟨hB0, hB1⟩ := bounds hk
  have lS : S.length ≤ 1048576 := by
    obtain ⟨a, c, e, _⟩ := hS.any
    rw [e] at h0
    have := slice_len Tryd.underlying22 h0
    omega
  have lN : L.length ≤ 1048576 := by
    obtain ⟨a, c, e, _⟩ := hN.any
    rw [e] at h1
    have := slice_len Tryd.underlying23 h1
    omega
  obtain ⟨hw, hkt, hst⟩ := of_laid hL
  clear hA0 hval0
  refine (types_law S L v0 v1 W hS hN lS lN (fun i h => le_of_sm (hsS _ (List.getElem_mem h))) hsN (fun i h => le_of_sm (hsN _ (List.getElem_mem h))) ⟨hw, hkt, hst⟩).mono fun e W' ⟨he, bel⟩ => ?_
  subst he
  exact ⟨_, rfl, _, _, _, [], _, [], hW', trodAll_mk1 (shut_bool Tryd.underlying4 _), (trodAll_cons_mk (Below.trod laidOut (by kernel_rfl) (of_decide_eq_true (by kernel_rfl)) k0 bel lt0) (trodAll_cons_mk (Below.trod laidOut (by kernel_rfl) (of_decide_eq_true (by kernel_rfl)) k1 bel lt1) trodAll_mk0)), rfl, bel.frame _, fun h => by cases h⟩
theorem saidUpto : Rows.CheckTypesUptoSaid :=
  OpenClaim.holds_of_cond 3 Tryd.f3 rfl rfl rfl rfl rfl rfl rfl ⟨rfl, rfl, rfl, rfl, rfl⟩ rfl rfl rfl rfl rfl (by kernel_rfl) Tryd.func3 (by kernel_rfl)
    (of_decide_eq_true (by kernel_rfl)) (by unfold Func.isWrapper; first | (rw [if_pos (by decide +kernel)]; kernel_rfl) | (rw [if_neg (by decide +kernel)]; exact ⟨rfl, rfl⟩))
    (fun os started H enc _ F => by rw [OpenClaim.pre_eq_preRow]; exact lifted os started H enc F)
end Go.Proofs.YtfmdlcfkfglnhaaDoor.checkTypes
namespace Go.Proofs.YtfmdlcfkfglnhaaDoor
theorem checkTypesUpto_holds : Rows.CheckTypesUptoCardSaid :=
  Claim7.holds_tied_plain_at .later [] [.data, .data, .data] true (true, "c0950365b16212eb0a10ceb96449b8ced171195f2293d40aed1cb7b4d86a5809") false
    checkTypes.saidUpto (fun _ h => by cases h) (by kernel_rfl) (fun _ h => by cases h) checkTypesUpto_row_tie rfl ⟨rfl, rfl⟩ (by kernel_rfl) rfl
    (fun f fn hf hfn => by
      obtain rfl : f = 3 := Option.some.inj ((show Tryd.prog.funcNamed "junction/junctionlaw5.CheckTypes" = some 3 by kernel_rfl).symm.trans hf) |>.symm
      obtain rfl : fn = Tryd.f3 := (Option.some.inj (Tryd.func3.symm.trans hfn)).symm
      exact ⟨by kernel_rfl, fun j t ht => by
        rw [Tryd.params3] at ht
        have hm : t ∈ [22, 23] := by simpa using Array.mem_of_getElem? ht
        have hall : ([22, 23].all fun u => !Tryd.prog.wantsStandIn u) = true := by kernel_rfl
        exact (show Tryd.prog.wantsStandIn t = false by simpa using List.all_eq_true.1 hall t hm)⟩)
    (by kernel_rfl)
#print axioms checkTypesUpto_holds
end Go.Proofs.YtfmdlcfkfglnhaaDoor
