import Derived.Test.YtdajmfhcajopcaaDoorRpE
import Derived.Test.YtdajmfhcajopcaaDoorRows
import Derived.Test.YtdajmfhcajopcaaDoorCards
import Derived.Test.YtdajmfhcajopcaaDoorTie
import Derived.ProofKit
import Derived.LaidMore
import Derived.OpenShut
import Derived.ChangeArms
import Derived.ChangeOld
import Derived.SizedLaws
import Derived.ShutString
import Derived.Stop.Joined
import Derived.Stop.LaidErr
import Derived.Lib.LaidTab
import Derived.Deep.Slices
namespace Go.Proofs.YtdajmfhcajopcaaDoor
open Go.ChangeShapes Go.WideShapes Go.ChangeAt Go.RowKit
set_option linter.unusedVariables false
set_option linter.unusedSimpArgs false

def bs (l : List UInt8) : ByteArray := ⟨l.toArray⟩
/-- A table of texts, as a row lists it. -/
def strData {H : Type} (zs : List (List UInt8)) : DataW H := .agg (zs.map fun z => .lit (.string z))

theorem cells_of_strs {H : Type} {enc : TypeId × Value → H} {P : Program} {w : World} {base : Nat} {sp : Nat → Bool} {held : Bool} {fuel : Nat} {t e : TypeId} {n : Nat} {cs : List Value} {zs : List (List UInt8)} {p : List MemPlace}
    (ht : P.underlying t = some (.array n e)) (he : P.underlying e = some .string) (hce : P.cellsOf e = 1) (hct : P.cellsOf t = n)
    (h : DataW.trod enc P w base sp held fuel t cs = some (strData zs, p)) : cs = zs.map fun z => Value.string (bs z) := by
  cases fuel with
  | zero => simp [DataW.trod] at h
  | succ fuel =>
    simp only [DataW.trod, ht, hce, hct, Nat.mul_one] at h
    split at h
    · rename_i hl
      obtain ⟨xs, hm, hx⟩ := Option.map_eq_some_iff.1 h
      have hxs : xs.map (·.1) = zs.map fun z => (DataW.lit (.string z) : DataW H) := by
        have := congrArg Prod.fst hx
        simpa [strData] using this
      have hxl : xs.length = n := by simpa using Lib.mapM_length hm
      have hzl : zs.length = n := by
        have := congrArg List.length hxs
        simp at this
        omega
      apply List.ext_getElem?
      intro i
      by_cases hi : i < n
      · obtain ⟨b, hb, hf⟩ := Lib.mapM_at hm i i (by simp [hi])
        obtain ⟨z, hc, rfl, _⟩ := DataW.trod_string he hf
        have h1 : cs[i]? = some (.string z) := by
          have := congrArg (·[0]?) hc
          simpa [List.getElem?_take, List.getElem?_drop] using this
        have h2 : (xs.map (·.1))[i]? = some (DataW.lit (.string z.data.toList) : DataW H) := by simp [hb]
        rw [hxs] at h2
        simp only [List.getElem?_map, Option.map_eq_some_iff, DataW.lit.injEq, Lit.string.injEq] at h2
        obtain ⟨z', hz', e'⟩ := h2
        subst e'
        simp [h1, hz', bs]
      · rw [List.getElem?_eq_none (by omega), List.getElem?_eq_none (by simp; omega)]
    · cases h

theorem strs_of_head {P : Program} {W : World} {name : String} {zs : List (List UInt8)} {rest : List (String × DataW Unit)} {g : Nat} {t e : TypeId} {n : Nat}
    (hg : P.globalNamed name = some g) (hty : (P.globals[g]?).map (·.type) = some t) (ht : P.underlying t = some (.array n e)) (he : P.underlying e = some .string) (hce : P.cellsOf e = 1) (hct : P.cellsOf t = n)
    (h : laidMet P ((name, strData zs) :: rest) W) : ∀ i, i < zs.length → W.cell? ⟨g, i, none⟩ = some (.string (bs (zs.getD i []))) := by
  obtain ⟨ps, ⟨g', t', cs, fuel, p, q, hg', ht', hvar, hd, _, _⟩, _⟩ := h
  obtain rfl := Option.some.inj (hg.symm.trans hg')
  obtain rfl := Option.some.inj (hty.symm.trans ht')
  intro i hi
  have h1 := World.var?_cell hg hvar i
  have h2 := cells_of_strs ht he hce hct hd
  rw [h1]
  have h3 : cs[i]? = some (.string (bs (zs.getD i []))) := by
    rw [← Array.getElem?_toList, h2]; simp [List.getD, hi]
  exact h3

theorem own : ownKnob Tryd.prog.godebug = none := by kernel_rfl
theorem laidOut : laidOutB Tryd.prog = true := by kernel_rfl
theorem g0 : Tryd.prog.globalNamed "junction/driver.phases" = some 0 := by kernel_rfl
theorem tg0 : (Tryd.prog.globals[0]?).map (·.type) = some 35 := by kernel_rfl
theorem u35 : Tryd.prog.underlying 35 = some (.array 20 9) := by kernel_rfl
theorem tPow : (Tryd.prog.globals[1]?).map (·.type) = some 72 := by kernel_rfl
theorem uPow : Tryd.prog.underlying 72 = some (.array 20 65) := by kernel_rfl
theorem u65 : Tryd.prog.underlying 65 = some (.int .u64) := by kernel_rfl
theorem c65 : Tryd.prog.cellsOf 65 = 1 := by kernel_rfl
theorem c72 : Tryd.prog.cellsOf 72 = 20 := by kernel_rfl
theorem c9 : Tryd.prog.cellsOf 9 = 1 := by kernel_rfl
theorem c35 : Tryd.prog.cellsOf 35 = 20 := by kernel_rfl
def phS : List (List UInt8) := [[], [97, 114, 105, 116, 104], [108, 101, 120], [116, 114, 101, 101], [], [99, 104, 101, 99, 107], [115, 97, 102, 101, 116, 121], [104, 101, 97, 100, 115], [115, 105, 109], [], [114, 111, 109], [99, 111, 100, 101], [108, 111, 97, 100], [], [100, 114, 105, 118, 101, 114], [119, 97, 116, 99, 104], [98, 97, 110, 107], [119, 105, 114, 101], [116, 105, 109, 101, 116, 97, 98, 108, 101], [115, 116, 97, 116, 105, 111, 110]]
theorem phS_eq : (List.range 20).all (fun i => decide (bs (phS.getD i []) = phT i)) = true := by kernel_rfl
def laidR : List (String × DataW Unit) := [("math/bits.deBruijn32tab", Rows.laid_math_bits_deBruijn32tab), ("math/bits.deBruijn64tab", Rows.laid_math_bits_deBruijn64tab), ("internal/strconv.uint64pow10", Rows.laid_internal_strconv_uint64pow10), ("junction/driver.phases", Rows.laid_junction_driver_phases)]
theorem door_met (os : Os) (args : Array Value) : laidMetH Tryd.prog laidR ((World.doorLaid Tryd.prog 400 os).forCall (fun _ _ => 0) ⟨#[], args, []⟩).memory :=
  laidMetH_of_parts3 (fuel := 8) (laidMet_of_run' 8 (by kernel_rfl) (by kernel_rfl)) (by kernel_rfl) (by kernel_rfl)
theorem lt_of_cell {W : World} {b o : Nat} {v : Value} (h : W.cell? ⟨b, o, none⟩ = some v) : b < W.heap.size := by
  rcases Nat.lt_or_ge b W.heap.size with h0 | h0
  · exact h0
  · have : W.heap[b]? = none := by simp [h0]
    simp [World.cell?, this] at h
theorem of_laid {W : World} (h : laidMetH Tryd.prog laidR W) : Pt W ∧ Pw W := by
  rw [MakeChecks.laidMetH_plain _ _ _ (by kernel_rfl)] at h
  have h1 := strs_of_head (zs := phS) g0 tg0 u35 Tryd.underlying9 c9 c35 (rest := []) h.tail.tail.tail
  have h2 : Lib.TabIs Tryd.prog W "internal/strconv.uint64pow10" .u64 Lib.pow10Tab := Lib.tabIs_of_head gPow tPow uPow u65 c65 c72 (rest := [("junction/driver.phases", Rows.laid_junction_driver_phases)]) h.tail.tail
  refine ⟨⟨lt_of_cell (h1 0 (by decide)), fun i hi => ?_⟩, lt_of_cell (h2.cell gPow 0 (by decide)), h2⟩
  rw [h1 i (by simpa [phS] using hi)]
  have := of_decide_eq_true (List.all_eq_true.1 phS_eq i (List.mem_range.2 hi))
  rw [this]
theorem k3 : Tryd.prog.cellsOf 3 = 1 := by kernel_rfl
theorem k22 : Tryd.prog.cellsOf 22 = 1 := by kernel_rfl
theorem k24 : Tryd.prog.cellsOf 24 = 2 := by kernel_rfl
theorem k26 : Tryd.prog.cellsOf 26 = 3 := by kernel_rfl
end Go.Proofs.YtdajmfhcajopcaaDoor
namespace Go.Proofs.YtdajmfhcajopcaaDoor.driverReports
open Go.ChangeShapes Go.WideShapes Go.ChangeAt Go.RowKit
def Rg (n : Int) : Prop := -9223372036854775808 ≤ n ∧ n ≤ 9223372036854775807
theorem rg_of {n : Int} (h : (Lit.int .i64 n).wf = true) : Rg n := by
  simp [Lit.wf, IntKind.min, IntKind.max, IntKind.bits, IntKind.signed] at h
  unfold Rg
  omega
set_option maxRecDepth 100000 in
theorem pos_open {H : Type} {enc : TypeId × Value → H} {W : World} {base n : Nat} {held : Bool} {y : DataW H × List MemPlace} {a b : Value} (h : DataW.trod enc Tryd.prog W base (fun _ => true) held n 24 [a, b] = some y) : ∃ l c, a = .int .i64 l ∧ b = .int .i64 c ∧ Rg l ∧ Rg c := by
  obtain ⟨zs, k, _, _, _, hlen, hf⟩ := DataW.trod_struct Tryd.underlying24 h
  match zs, hlen with
  | [z0, z1], _ =>
    have g0 : DataW.trod enc Tryd.prog W base (fun _ => true) held k 3 [a] = some z0 := by simpa [k3] using hf 0 _ rfl
    have g1 : DataW.trod enc Tryd.prog W base (fun _ => true) held k 3 [b] = some z1 := by simpa [k3] using hf 1 _ rfl
    obtain ⟨n0, e0, _, w0⟩ := DataW.trod_int Tryd.underlying3 g0
    obtain ⟨n1, e1, _, w1⟩ := DataW.trod_int Tryd.underlying3 g1
    simp at e0 e1
    exact ⟨n0, n1, e0, e1, rg_of w0, rg_of w1⟩
set_option maxRecDepth 100000 in
/-- A fault handed in. -/
theorem fault_arg {H : Type} {enc : TypeId × Value → H} {W : World} {base b0 : Nat} {held : Bool} {v : Value} {d : DataW H} {ps : List MemPlace} (h : DataW.Trod enc Tryd.prog W base (fun _ => true) held 26 v d ps) (hv : Value.okWide Tryd.prog W .any b0 26 v) : ∃ c l m, v = .agg #[.int .i64 c, .int .i64 l, .int .i64 m] ∧ Rg c ∧ Rg l ∧ Rg m := by
  obtain ⟨cs, rfl, _⟩ := okWide_struct Tryd.underlying26 hv
  obtain ⟨fuel, hf0⟩ := h
  obtain ⟨xs, k, _, hy, hl, hlen, hf⟩ := DataW.trod_struct Tryd.underlying26 hf0
  rw [k26] at hl
  simp only [Value.cells] at hl hf
  obtain ⟨cs⟩ := cs
  simp only at hl hf
  match cs, hl, xs, hlen with
  | [a0, a1, a2], _, [y0, y1], _ =>
    have f0 : DataW.trod enc Tryd.prog W base (fun _ => true) held k 22 [a0] = some y0 := by simpa [k22] using hf 0 _ rfl
    have f1 : DataW.trod enc Tryd.prog W base (fun _ => true) held k 24 [a1, a2] = some y1 := by simpa [k24] using hf 1 _ rfl
    obtain ⟨n0, e0, _, w0⟩ := DataW.trod_int Tryd.underlying22 f0
    obtain ⟨l, c, rfl, rfl, b1, b2⟩ := pos_open f1
    simp at e0
    subst e0
    exact ⟨n0, l, c, rfl, rg_of w0, b1, b2⟩
set_option maxRecDepth 100000 in
theorem lifted (os : Os) (started : os.Started) (H : Type) (enc : TypeId × Value → H) :
    ReturnsInHanded {} Tryd.checked os 4 .any (fun w args => (Rows.driverReportsSpec.pre enc Tryd.prog Tryd.f4 [] false w args ∧ laidMetH Tryd.prog laidR w) ∧ sizedMet enc Tryd.prog Tryd.f4 (OpenSpec.ofChange Rows.driverReportsSpec) false w args)
      (Rows.driverReportsSpec.post enc Tryd.prog Tryd.f4 false true false false) := by
  refine returnsInHanded_of_change_and (C := Tryd.checked) (X := fun w _ => laidMetH Tryd.prog laidR w) (fun _ _ _ hh h => h.of_heap hh) own started (by kernel_rfl) Tryd.func4
    (ChangeSpec.witness_shaped (enc := enc) (C := Tryd.checked) (os := os) (X := fun w _ => laidMetH Tryd.prog laidR w) false (World.doorLaid Tryd.prog 400 os) #[.agg #[.int .i64 0, .int .i64 0, .int .i64 0]] 8 rfl (World.shaped_of_RefB (by kernel_rfl) (by kernel_rfl)) (by kernel_rfl) (by kernel_rfl) (by kernel_rfl) (door_met os _)) ?_
  intro W base args ds gs before hval0 hW _ hsz hL _
  have hval : ∀ (j : Nat) t v, Tryd.f4.params[j]? = some t → args[j]? = some v → Value.okWide Tryd.prog W .any base t v := hval0
  have hW' := hW
  obtain ⟨p, q, hA0, hV, rfl, hfz, hnd⟩ := hW
  have hA : DataW.TrodAll enc Tryd.prog W 0 (fun _ => true) true Tryd.f4.params.toList args.toList ds p := hA0
  rw [Tryd.params4] at hA hval hsz
  obtain ⟨v0, vs0, d0, ds0, p0, q0, hargs, rfl, rfl, h0, r0⟩ := trodAll_cons hA
  obtain ⟨rfl, rfl, rfl⟩ := trodAll_nil r0
  obtain rfl : args = #[v0] := by cases args; simp_all
  obtain ⟨rfl, rfl⟩ := trodVars_none hV
  have k0 := h0
  have lt0 : ∀ x ∈ p0, x.block < W.heap.size := by obtain ⟨m, hm⟩ := k0; exact DataW.trod_lt m _ _ _ hm
  obtain ⟨c, l, m, rfl, bc, bl, bm⟩ := fault_arg h0 (hval 0 26 v0 rfl rfl)
  clear hA0 hval0
  refine (reports_law c l m W (of_laid hL).1 (of_laid hL).2 bc bl bm).mono fun e W' ⟨he, bel⟩ => ?_
  subst he
  exact ⟨_, rfl, _, _, _, [], _, [], hW', trodAll_mk1 (shut_bool Tryd.underlying4 _), (trodAll_cons_mk (Below.trod laidOut (by kernel_rfl) (of_decide_eq_true (by kernel_rfl)) k0 bel lt0) trodAll_mk0), rfl, bel.frame _, fun h => by cases h⟩

theorem over : Rows.driverReportsRow.holds Tryd.pinned (OpenSpec.ofChange Rows.driverReportsSpec) :=
  OpenClaim.holds_of_wide 4 Tryd.f4 rfl rfl rfl rfl rfl rfl rfl ⟨rfl, rfl, rfl, rfl, rfl⟩ rfl rfl rfl rfl rfl (by kernel_rfl) Tryd.func4 (by kernel_rfl)
    (of_decide_eq_true (by kernel_rfl)) (by unfold Func.isWrapper; first | (rw [if_pos (by decide +kernel)]; kernel_rfl) | (rw [if_neg (by decide +kernel)]; exact ⟨rfl, rfl⟩))
    (fun os started H enc _ => lifted os started H enc)
end Go.Proofs.YtdajmfhcajopcaaDoor.driverReports
namespace Go.Proofs.YtdajmfhcajopcaaDoor
theorem driverReports_holds : Rows.DriverReportsCardSaid :=
  Claim7.holds_tied_plain_at .later [] [.data, .data, .data, .data] true (true, "0e8723f20cc412df606c99f8db83520b8f94a6969082c8272dc24b68aaa3c6e9") false
    driverReports.over (fun _ h => by cases h) (by kernel_rfl) (fun _ h => by cases h) driverReports_row_tie rfl ⟨rfl, rfl⟩ (by kernel_rfl) rfl
    (fun f fn hf hfn => by
      obtain rfl : f = 4 := Option.some.inj ((show Tryd.prog.funcNamed "junction/junctionlaw14.DriverReports" = some 4 by kernel_rfl).symm.trans hf) |>.symm
      obtain rfl : fn = Tryd.f4 := (Option.some.inj (Tryd.func4.symm.trans hfn)).symm
      exact ⟨by kernel_rfl, fun j t ht => by
        rw [Tryd.params4] at ht
        have hm : t ∈ [26] := by simpa using Array.mem_of_getElem? ht
        have hall : ([26].all fun u => !Tryd.prog.wantsStandIn u) = true := by kernel_rfl
        exact (show Tryd.prog.wantsStandIn t = false by simpa using List.all_eq_true.1 hall t hm)⟩)
    (by kernel_rfl)
#print axioms driverReports_holds
end Go.Proofs.YtdajmfhcajopcaaDoor
