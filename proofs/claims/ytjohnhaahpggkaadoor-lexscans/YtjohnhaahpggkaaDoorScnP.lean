import Derived.Test.YtjohnhaahpggkaaDoorSclA
import Derived.Test.YtjohnhaahpggkaaDoorTabs
import Derived.Test.YtjohnhaahpggkaaDoorCards
import Derived.Test.YtjohnhaahpggkaaDoorTie
import Derived.ShutString
import Derived.ChangeOld
import Derived.SizedLaws
namespace Go.Proofs.YtjohnhaahpggkaaDoor.lexScans
open Go.ChangeShapes Go.WideShapes Go.ChangeAt Go.RowKit
open Go.ChangeMaps (open_string)
set_option linter.unusedVariables false

theorem whole_ex (s : ByteArray) : ∃ ts z, Whole s ts z ∧ ts.length ≤ 65536 := by
  by_cases h : s.size ≤ 65536
  · obtain ⟨ts, z, h1, h2⟩ := Stm.ex s s.size 0 (by omega) (by omega)
    exact ⟨ts, z, .inl ⟨h, h1⟩, by omega⟩
  · exact ⟨[], longTok, .inr ⟨by omega, rfl, rfl⟩, by simp⟩

theorem scans_of (s : ByteArray) (W : World) (hW : Wt W) (hK : Kt W) (hS : St W) : Calls Tryd.prog 7 #[.string s] W fun e w' => e = .returned (.bool true) ∧ Below W.heap.size W w' := by
  obtain ⟨ts, z, hWh, hlen⟩ := whole_ex s
  have hA := fun U (hb : Below W.heap.size W U) => scan_ans s ts z U hWh (hW.below hb hW.1) hlen
  have hB := fun U (hb : Below W.heap.size W U) => ref_ans s ts z U hWh hlen (hK.below hb hK.1) (hS.below hb hS.1)
  by_cases hz : z.t.kind = -1
  · have key : ∀ (U : World) (e : Ending) (w' : World), (∃ v f, e = .returned (.tuple #[v, .agg f]) ∧ AnsPost U.heap.size ts z v f w' ∧ Below U.heap.size U w') → e = .returned (.tuple #[.slice none 0 0, .agg #[.int .i64 z.t.num, .int .i64 z.line, .int .i64 z.col]]) ∧ Below U.heap.size U w' := by
      rintro U e w' ⟨v, f, rfl, h, hb⟩
      rcases h with ⟨_, rfl, rfl⟩ | ⟨h, _⟩
      · exact ⟨rfl, hb⟩
      · exact absurd hz h
    exact scl_bad s _ _ _ W (fun U hb => (hA U hb).mono (key U)) (fun U hb => (hB U hb).mono (key U))
  · have key : ∀ (U : World) (e : Ending) (w' : World), (∃ v f, e = .returned (.tuple #[v, .agg f]) ∧ AnsPost U.heap.size ts z v f w' ∧ Below U.heap.size U w') → (∃ g cap, e = .returned (.tuple #[.slice (some ⟨g, 0, none⟩) (ts ++ [z]).length cap, .agg #[.int .i64 0, .int .i64 0, .int .i64 0]]) ∧ w'.ownsRow U.heap.size 36 5 (.slice (some ⟨g, 0, none⟩) (ts ++ [z]).length cap) (ts ++ [z]).length (cellsOf (ts ++ [z]))) ∧ Below U.heap.size U w' := by
      rintro U e w' ⟨v, f, rfl, h, hb⟩
      rcases h with ⟨h, _⟩ | ⟨_, h, rfl⟩
      · exact absurd h hz
      · obtain ⟨g, cap, rfl⟩ := ownsRow_succ h
        rw [show (ts ++ [z]).length = ts.length + 1 by simp]
        exact ⟨⟨g, cap, rfl, h⟩, hb⟩
    exact scl_good s (ts ++ [z]) W (by simp; omega) (fun U hb => (hA U hb).mono (key U)) (fun U hb => (hB U hb).mono (key U))

set_option maxRecDepth 100000 in
theorem lifted (os : Os) (started : os.Started) (H : Type) (enc : TypeId × Value → H) :
    ReturnsInHanded {} Tryd.checked os 7 .any (fun w args => (Rows.lexScansSpec.pre enc Tryd.prog Tryd.f7 [] false w args ∧ laidMetH Tryd.prog laidR w) ∧ sizedMet enc Tryd.prog Tryd.f7 (OpenSpec.ofChange Rows.lexScansSpec) false w args)
      (Rows.lexScansSpec.post enc Tryd.prog Tryd.f7 false true false false) := by
  refine returnsInHanded_of_change_and (C := Tryd.checked) (X := fun w _ => laidMetH Tryd.prog laidR w) (fun _ _ _ hh h => h.of_heap hh) own started (by kernel_rfl) Tryd.func7
    (ChangeSpec.witness_shaped (enc := enc) (C := Tryd.checked) (os := os) (X := fun w _ => laidMetH Tryd.prog laidR w) false (World.doorLaid Tryd.prog 400 os) #[.string ByteArray.empty] 8 rfl (World.shaped_of_RefB (by kernel_rfl) (by kernel_rfl)) (by kernel_rfl) (by kernel_rfl) (by kernel_rfl) (door_met os _)) ?_
  intro W base args ds gs before hval0 hW _ hsz hL _
  have hval : ∀ (j : Nat) t v, Tryd.f7.params[j]? = some t → args[j]? = some v → Value.okWide Tryd.prog W .any base t v := hval0
  have hW' := hW
  obtain ⟨p, q, hA0, hV, rfl, hfz, hnd⟩ := hW
  have hA : DataW.TrodAll enc Tryd.prog W 0 (fun _ => true) true Tryd.f7.params.toList args.toList ds p := hA0
  rw [Tryd.params7] at hA hval hsz
  obtain ⟨v0, vs0, d0, ds0, p0, q0, hargs, rfl, rfl, h0, r0⟩ := trodAll_cons hA
  obtain ⟨rfl, rfl, rfl⟩ := trodAll_nil r0
  obtain rfl : args = #[v0] := by cases args; simp_all
  obtain ⟨rfl, rfl⟩ := trodVars_none hV
  have k0 := h0
  have lt0 : ∀ x ∈ p0, x.block < W.heap.size := by obtain ⟨m, hm⟩ := k0; exact DataW.trod_lt m _ _ _ hm
  obtain ⟨s, rfl, rfl, _, hs⟩ := open_string Tryd.underlying9 (hval 0 9 v0 rfl rfl) h0
  obtain ⟨hw, hk, hst⟩ := of_laid hL
  clear hA0 hval0
  refine (scans_of s W hw hk hst).mono fun e W' ⟨he, bel⟩ => ?_
  subst he
  exact ⟨_, rfl, _, _, _, [], _, [], hW', trodAll_mk1 (shut_bool Tryd.underlying4 _), (trodAll_cons_mk (Below.trod laidOut (by kernel_rfl) (of_decide_eq_true (by kernel_rfl)) k0 bel lt0) trodAll_mk0), rfl, bel.frame _, fun h => by cases h⟩

theorem over : Rows.lexScansRow.holds Tryd.pinned (OpenSpec.ofChange Rows.lexScansSpec) :=
  OpenClaim.holds_of_wide 7 Tryd.f7 rfl rfl rfl rfl rfl rfl rfl ⟨rfl, rfl, rfl, rfl, rfl⟩ rfl rfl rfl rfl rfl (by kernel_rfl) Tryd.func7 (by kernel_rfl)
    (of_decide_eq_true (by kernel_rfl)) (by unfold Func.isWrapper; first | (rw [if_pos (by decide +kernel)]; kernel_rfl) | (rw [if_neg (by decide +kernel)]; exact ⟨rfl, rfl⟩))
    (fun os started H enc _ => lifted os started H enc)
end Go.Proofs.YtjohnhaahpggkaaDoor.lexScans
namespace Go.Proofs.YtjohnhaahpggkaaDoor
theorem lexScans_holds : Rows.LexScansCardSaid :=
  Claim7.holds_tied_plain_at .later [] [.data, .data, .data] true (true, "e2af9040b5eb20320eca13f585c1db633fb6e8869132c1bf51d98ec8c27ee5ee") false
    lexScans.over (fun _ h => by cases h) (by kernel_rfl) (fun _ h => by cases h) lexScans_row_tie rfl ⟨rfl, rfl⟩ (by kernel_rfl) rfl
    (fun f fn hf hfn => by
      obtain rfl : f = 7 := Option.some.inj ((show Tryd.prog.funcNamed "junction/junctionlaw2.LexScans" = some 7 by kernel_rfl).symm.trans hf) |>.symm
      obtain rfl : fn = Tryd.f7 := (Option.some.inj (Tryd.func7.symm.trans hfn)).symm
      exact ⟨by kernel_rfl, fun j t ht => by
        rw [Tryd.params7] at ht
        have hm : t ∈ [9] := by simpa using Array.mem_of_getElem? ht
        have hall : ([9].all fun u => !Tryd.prog.wantsStandIn u) = true := by kernel_rfl
        exact (show Tryd.prog.wantsStandIn t = false by simpa using List.all_eq_true.1 hall t hm)⟩)
    (by kernel_rfl)
#print axioms lexScans_holds
end Go.Proofs.YtjohnhaahpggkaaDoor
