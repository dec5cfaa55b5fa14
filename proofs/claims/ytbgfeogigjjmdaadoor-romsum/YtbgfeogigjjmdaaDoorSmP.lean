import Derived.Test.YtbgfeogigjjmdaaDoorSmL
import Derived.Test.YtbgfeogigjjmdaaDoorCards
import Derived.Test.YtbgfeogigjjmdaaDoorTie
import Derived.ProofKit
import Derived.LaidMore
import Derived.OpenShut
import Derived.ChangeOld
import Derived.Below
import Derived.SizedLaws
import Derived.ChangeSlices
import Derived.Stop.Joined
import Derived.Lib.LaidTab
namespace Go.Proofs.YtbgfeogigjjmdaaDoor.romSum
open Go.ChangeShapes Go.WideShapes Go.ChangeAt Go.RowKit
set_option linter.unusedVariables false

theorem own : ownKnob Tryd.prog.godebug = none := by kernel_rfl
theorem laidOut : laidOutB Tryd.prog = true := by kernel_rfl
theorem gB : Tryd.prog.globalNamed "junction/rom.remainders" = some 0 := by kernel_rfl
theorem tB : (Tryd.prog.globals[0]?).map (·.type) = some 27 := by kernel_rfl
theorem uB : Tryd.prog.underlying 27 = some (.array 16 23) := by kernel_rfl
theorem u23 : Tryd.prog.underlying 23 = some (.int .u32) := by kernel_rfl
theorem c23 : Tryd.prog.cellsOf 23 = 1 := by kernel_rfl
theorem c27 : Tryd.prog.cellsOf 27 = 16 := by kernel_rfl
theorem u5 : Tryd.prog.underlying 5 = some (.int .u8) := by kernel_rfl
theorem c5 : Tryd.prog.cellsOf 5 = 1 := by kernel_rfl
theorem b5 : Tryd.prog.bytesOf 5 = 1 := by kernel_rfl

/-- What the row lists. -/
def laidB : List (String × DataW Unit) := [("junction/rom.remainders", Rows.laid_junction_rom_remainders)]
def dtab : List Int := Crc.tab.map fun (x : Nat) => (x : Int)
theorem door_met (os : Os) (args : Array Value) : laidMetH Tryd.prog laidB ((World.doorLaid Tryd.prog 400 os).forCall (fun _ _ => 0) ⟨#[], args, []⟩).memory :=
  laidMetH_of_parts3 (fuel := 8) (laidMet_of_run' 8 (by kernel_rfl) (by kernel_rfl)) (by kernel_rfl) (by kernel_rfl)
theorem of_laid {W : World} (h : laidMetH Tryd.prog laidB W) : RemOk W := by
  rw [MakeChecks.laidMetH_plain _ _ _ (by kernel_rfl)] at h
  have hT : Lib.TabIs Tryd.prog W "junction/rom.remainders" .u32 dtab := Lib.tabIs_of_head gB tB uB u23 c23 c27 (rest := []) h
  intro i hi
  have := hT.cell gB i (by simpa [dtab, Crc.tab] using hi)
  rw [this]
  have hl : i < Crc.tab.length := hi
  simp [dtab, hl]
theorem cell_lt {w : World} {b o : Nat} {v : Value} (h : w.cell? ⟨b, o, none⟩ = some v) : b < w.heap.size := by
  rcases Nat.lt_or_ge b w.heap.size with h0 | h0
  · exact h0
  · have : w.heap[b]? = none := by simp [h0]
    simp [World.cell?, this] at h
theorem bounds_u8 {n : Int} (h : (Lit.int .u8 n).wf = true) : 0 ≤ n ∧ n < 256 := by
  have h1 : IntKind.u8.min = 0 := by decide
  have h2 : IntKind.u8.max = 255 := by decide
  simp [Lit.wf] at h
  omega
/-- A list of bytes that came in, opened. -/
theorem bytes_arg {H : Type} {enc : TypeId × Value → H} {W : World} {b0 : Nat} {v : Value} {d : DataW H} {ps : List MemPlace} (h : DataW.Trod enc Tryd.prog W 0 (fun _ => true) true 22 v d ps) (hv : Value.okWide Tryd.prog W .any b0 22 v)
    (hr : ∀ es sp, d = .slice es sp → es.length ≤ 140737488355328) : ∃ a n cap L, v = .slice a n cap ∧ n = L.length ∧ n ≤ cap ∧ n ≤ 140737488355328 ∧ Bs W a L := by
  obtain ⟨a, n, cap, rfl⟩ := okWide_slice Tryd.underlying22 hv
  obtain ⟨fuel, hf⟩ := h
  rcases open_ints Tryd.underlying22 u5 c5 hf with ⟨hcs, _⟩ | ⟨ad, l, c, zs, hcs, _, hl, hm, hzl, hx, hcell, hwf⟩
  · simp [Value.cells] at hcs
    obtain ⟨rfl, rfl, rfl⟩ := hcs
    exact ⟨none, 0, 0, [], rfl, rfl, by omega, by omega, by simp, .inl rfl⟩
  · simp [Value.cells] at hcs
    obtain ⟨rfl, rfl, rfl⟩ := hcs
    simp only [Prod.mk.injEq] at hx
    obtain ⟨rfl, rfl⟩ := hx
    simp only [if_true] at hzl
    have hr1 := hr _ _ rfl
    simp only [lits, List.length_map, List.length_take] at hr1
    have hzn : ∀ i, i < zs.length → ∃ m : Nat, zs.getD i 0 = (m : Int) ∧ m < 256 := by
      intro i hi
      have := bounds_u8 (hwf (zs.getD i 0) (by rw [List.getD_eq_getElem?_getD, List.getElem?_eq_getElem hi]; exact List.getElem_mem hi))
      exact ⟨(zs.getD i 0).toNat, by omega, by omega⟩
    refine ⟨some ad, n, cap, (zs.take n).map Int.toNat, rfl, by simp; omega, hl, by omega, ?_, ?_⟩
    · intro x hx
      rw [List.mem_map] at hx
      obtain ⟨z, hz, rfl⟩ := hx
      have := bounds_u8 (hwf z (List.mem_of_mem_take hz))
      omega
    · rcases Nat.eq_zero_or_pos n with h0 | hp
      · left; simp [h0]
      · right
        obtain ⟨b, off, spot⟩ := ad
        have hspot : spot = none := by simpa [Addr.add] using World.cell?_spot (hcell 0 (by omega))
        subst hspot
        refine ⟨b, off, rfl, cell_lt (o := off + 0) (by rw [← Go.WideShapes.add_plain]; exact hcell 0 (by omega)), fun i hi => ?_⟩
        have hi' : i < n := by simp at hi; omega
        rw [← Go.WideShapes.add_plain, hcell i (by omega)]
        obtain ⟨m, hm1, _⟩ := hzn i (by omega)
        have hg : ((zs.take n).map Int.toNat).getD i 0 = m := by
          have hzl' : i < zs.length := by omega
          have e1 : zs[i] = (m : Int) := by rw [← hm1, List.getD_eq_getElem?_getD, List.getElem?_eq_getElem hzl']; rfl
          rw [List.getD_eq_getElem?_getD, List.getElem?_map, List.getElem?_take_of_lt hi', List.getElem?_eq_getElem hzl', e1]
          simp
        rw [hg, hm1]

set_option maxRecDepth 100000 in
theorem lifted (os : Os) (started : os.Started) (H : Type) (enc : TypeId × Value → H) :
    ReturnsInHanded {} Tryd.checked os 3 .any (fun w args => (Rows.romSumSpec.pre enc Tryd.prog Tryd.f3 [] false w args ∧ laidMetH Tryd.prog laidB w) ∧ sizedMet enc Tryd.prog Tryd.f3 (OpenSpec.ofChange Rows.romSumSpec) false w args)
      (Rows.romSumSpec.post enc Tryd.prog Tryd.f3 false true false false) := by
  refine returnsInHanded_of_change_and (C := Tryd.checked) (X := fun w _ => laidMetH Tryd.prog laidB w) (fun _ _ _ hh h => h.of_heap hh) own started (by kernel_rfl) Tryd.func3
    (ChangeSpec.witness_shaped (enc := enc) (C := Tryd.checked) (os := os) (X := fun w _ => laidMetH Tryd.prog laidB w) false (World.doorLaid Tryd.prog 400 os) #[.slice none 0 0, .slice none 0 0, .slice none 0 0] 8 rfl (World.shaped_of_RefB (by kernel_rfl) (by kernel_rfl)) (by kernel_rfl) (by kernel_rfl) (by kernel_rfl) (door_met os _)) ?_
  intro W base args ds gs before hval0 hW _ hsz0 hL _
  have hval : ∀ (j : Nat) t v, Tryd.f3.params[j]? = some t → args[j]? = some v → Value.okWide Tryd.prog W .any base t v := hval0
  have hW' := hW
  obtain ⟨p, q, hA0, hV, rfl, hfz, hnd⟩ := hW
  have hA : DataW.TrodAll enc Tryd.prog W 0 (fun _ => true) true Tryd.f3.params.toList args.toList ds p := hA0
  rw [Tryd.params3] at hA hval
  obtain ⟨v0, vs0, d0, ds0, p0, q0, hargs, rfl, rfl, h0, r0⟩ := trodAll_cons hA
  obtain ⟨v1, vs1, d1, ds1, p1, q1, rfl, rfl, rfl, h1, r1⟩ := trodAll_cons r0
  obtain ⟨v2, vs2, d2, ds2, p2, q2, rfl, rfl, rfl, h2, r2⟩ := trodAll_cons r1
  obtain ⟨rfl, rfl, rfl⟩ := trodAll_nil r2
  obtain rfl : args = #[v0, v1, v2] := by cases args; simp_all
  obtain ⟨rfl, rfl⟩ := trodVars_none hV
  have k0 := h0
  have k1 := h1
  have k2 := h2
  have lt0 : ∀ x ∈ p0, x.block < W.heap.size := by obtain ⟨m, hm⟩ := k0; exact DataW.trod_lt m _ _ _ hm
  have lt1 : ∀ x ∈ p1, x.block < W.heap.size := by obtain ⟨m, hm⟩ := k1; exact DataW.trod_lt m _ _ _ hm
  have lt2 : ∀ x ∈ p2, x.block < W.heap.size := by obtain ⟨m, hm⟩ := k2; exact DataW.trod_lt m _ _ _ hm
  have sz : ∀ (j : Nat) es sp, j < 3 → [d0, d1, d2][j]? = some (DataW.slice es sp) → es.length ≤ 140737488355328 := by
    intro j es sp hj he
    have hp : (Tryd.f3.params.toList ++ DataSpec.varTypes Tryd.checked.prog Rows.romSumSpec.plain)[j]? = some 22 := by
      rcases (show j = 0 ∨ j = 1 ∨ j = 2 by omega) with rfl | rfl | rfl <;> rfl
    have hreach := sized_slice hsz0 (j := j) (t := 22) (e := 5) hp he Tryd.underlying22
    rw [show Tryd.checked.prog.bytesOf 5 = 1 from b5] at hreach
    simp only [reachBytes] at hreach
    omega
  obtain ⟨a, na, ca, A, rfl, rfl, ca1, ca2, bA⟩ := bytes_arg h0 (hval 0 22 v0 rfl rfl) (fun es sp e => sz 0 es sp (by omega) (by rw [e]; rfl))
  obtain ⟨b, nb, cb, B, rfl, rfl, cb1, cb2, bB⟩ := bytes_arg h1 (hval 1 22 v1 rfl rfl) (fun es sp e => sz 1 es sp (by omega) (by rw [e]; rfl))
  obtain ⟨c, nc, cc, C, rfl, rfl, cc1, cc2, bC⟩ := bytes_arg h2 (hval 2 22 v2 rfl rfl) (fun es sp e => sz 2 es sp (by omega) (by rw [e]; rfl))
  have hT := of_laid hL
  clear hA0 hval0
  refine (law_main a b c ca cb cc A B C W bA bB bC hT ca1 cb1 cc1 ca2 cb2 cc2).mono fun e W' ⟨he, bel⟩ => ?_
  subst he
  exact ⟨_, rfl, _, _, _, [], _, [], hW', trodAll_mk1 (shut_bool Tryd.underlying4 _), (trodAll_cons_mk (Below.trod laidOut (by kernel_rfl) (of_decide_eq_true (by kernel_rfl)) k0 bel lt0) (trodAll_cons_mk (Below.trod laidOut (by kernel_rfl) (of_decide_eq_true (by kernel_rfl)) k1 bel lt1) (trodAll_cons_mk (Below.trod laidOut (by kernel_rfl) (of_decide_eq_true (by kernel_rfl)) k2 bel lt2) trodAll_mk0))), rfl, bel.frame _, fun h => by cases h⟩

theorem over : Rows.romSumRow.holds Tryd.pinned (OpenSpec.ofChange Rows.romSumSpec) :=
  OpenClaim.holds_of_wide 3 Tryd.f3 rfl rfl rfl rfl rfl rfl rfl ⟨rfl, rfl, rfl, rfl, rfl⟩ rfl rfl rfl rfl rfl (by kernel_rfl) Tryd.func3 (by kernel_rfl)
    (of_decide_eq_true (by kernel_rfl)) (by unfold Func.isWrapper; first | (rw [if_pos (by decide +kernel)]; kernel_rfl) | (rw [if_neg (by decide +kernel)]; exact ⟨rfl, rfl⟩))
    (fun os started H enc _ => lifted os started H enc)
end Go.Proofs.YtbgfeogigjjmdaaDoor.romSum
namespace Go.Proofs.YtbgfeogigjjmdaaDoor
theorem romSum_holds : Rows.RomSumCardSaid :=
  Claim7.holds_tied_plain_at .later [] [.data] true (true, "08c4b5acadab0a6c2500ed1c1805fb2aa658d114c4b74fbe7f0f9048176a781f") false
    romSum.over (fun _ h => by cases h) (by kernel_rfl) (fun _ h => by cases h) romSum_row_tie rfl ⟨rfl, rfl⟩ (by kernel_rfl) rfl
    (fun f fn hf hfn => by
      obtain rfl : f = 3 := Option.some.inj ((show Tryd.prog.funcNamed "junction/junctionlaw10.RomSum" = some 3 by kernel_rfl).symm.trans hf) |>.symm
      obtain rfl : fn = Tryd.f3 := (Option.some.inj (Tryd.func3.symm.trans hfn)).symm
      exact ⟨by kernel_rfl, fun j t ht => by
        rw [Tryd.params3] at ht
        have hm : t ∈ [22, 22, 22] := by simpa using Array.mem_of_getElem? ht
        have hall : ([22, 22, 22].all fun u => !Tryd.prog.wantsStandIn u) = true := by kernel_rfl
        exact (show Tryd.prog.wantsStandIn t = false by simpa using List.all_eq_true.1 hall t hm)⟩)
    (by kernel_rfl)
#print axioms romSum_holds
end Go.Proofs.YtbgfeogigjjmdaaDoor
