import Derived.Test.YtbgfeogigjjmdaaRhL
import Derived.Test.YtbgfeogigjjmdaaHxP
import Derived.ShutString
namespace Go.Proofs.Ytbgfeogigjjmdaa.romHex
open Go.ChangeShapes Go.WideShapes Go.ChangeAt Go.RowKit
open Go.ChangeMaps (open_string)
set_option linter.unusedVariables false

theorem b5 : Try.prog.bytesOf 5 = 1 := by kernel_rfl
/-- A list of bytes that came in, opened: its length is bounded, and without an address it is nil. -/
theorem bytes_arg {H : Type} {enc : TypeId × Value → H} {W : World} {b0 : Nat} {v : Value} {d : DataW H} {ps : List MemPlace} (h : DataW.Trod enc Try.prog W 0 (fun _ => true) true 22 v d ps) (hv : Value.okWide Try.prog W .any b0 22 v) (hr : ∀ es sp, d = DataW.slice es sp → es.length ≤ 140737488351232) :
    v = .slice none 0 0 ∨ ∃ ad n cap L, v = .slice (some ad) n cap ∧ n = L.length ∧ n ≤ cap ∧ cap ≤ 9223372036854775807 ∧ n ≤ 140737488351232 ∧ Bs W (some ad) L := by
  obtain ⟨a, n, cap, rfl⟩ := okWide_slice Try.underlying22 hv
  obtain ⟨fuel, hf⟩ := h
  rcases open_ints Try.underlying22 u5 romHexBack.c5 hf with ⟨hcs, _⟩ | ⟨ad, l, c, zs, hcs, _, hl, hm, hzl, hx, hcell, hwf⟩
  · simp [Value.cells] at hcs
    obtain ⟨rfl, rfl, rfl⟩ := hcs
    exact .inl rfl
  · right
    simp [Value.cells] at hcs
    obtain ⟨rfl, rfl, rfl⟩ := hcs
    simp only [Prod.mk.injEq] at hx
    obtain ⟨rfl, rfl⟩ := hx
    simp only [if_true] at hzl
    have hr1 := hr _ _ rfl
    simp only [lits, List.length_map, List.length_take] at hr1
    have hzn : ∀ i, i < zs.length → ∃ m : Nat, zs.getD i 0 = (m : Int) ∧ m < 256 := by
      intro i hi
      have := romHexBack.bounds_u8 (hwf (zs.getD i 0) (by rw [List.getD_eq_getElem?_getD, List.getElem?_eq_getElem hi]; exact List.getElem_mem hi))
      exact ⟨(zs.getD i 0).toNat, by omega, by omega⟩
    refine ⟨ad, n, cap, (zs.take n).map Int.toNat, rfl, by simp; omega, hl, by unfold maxLen at hm; omega, by omega, ?_, ?_⟩
    · intro x hx
      rw [List.mem_map] at hx
      obtain ⟨z, hz, rfl⟩ := hx
      have := romHexBack.bounds_u8 (hwf z (List.mem_of_mem_take hz))
      omega
    · rcases Nat.eq_zero_or_pos n with h0 | hp
      · left; simp [h0]
      · right
        obtain ⟨b, off, spot⟩ := ad
        have hspot : spot = none := by simpa [Addr.add] using World.cell?_spot (hcell 0 (by omega))
        subst hspot
        refine ⟨b, off, rfl, romHexBack.cell_lt (o := off + 0) (by rw [← Go.WideShapes.add_plain]; exact hcell 0 (by omega)), fun i hi => ?_⟩
        have hi' : i < n := by simp at hi; omega
        rw [← Go.WideShapes.add_plain, hcell i (by omega)]
        obtain ⟨m, hm1, _⟩ := hzn i (by omega)
        have hg : ((zs.take n).map Int.toNat).getD i 0 = m := by
          have hzl' : i < zs.length := by omega
          have e1 : zs[i] = (m : Int) := by rw [← hm1, List.getD_eq_getElem?_getD, List.getElem?_eq_getElem hzl']; rfl
          rw [List.getD_eq_getElem?_getD, List.getElem?_map, List.getElem?_take_of_lt hi', List.getElem?_eq_getElem hzl', e1]
          simp
        rw [hg, hm1]

set_option maxRecDepth 100000 in
theorem lifted (os : Os) (started : os.Started) (H : Type) (enc : TypeId × Value → H) :
    ReturnsInHanded {} Try.checked os 5 .any (Rows.romHexSpec.pre6 enc Try.prog Try.f5 Rows.romHexRow.domain false) (Rows.romHexSpec.post enc Try.prog Try.f5 false true false false) := by
  refine returnsInHanded_of_change_sized (C := Try.checked) romHexBack.own started (by kernel_rfl) Try.func5
    (ChangeSpec.witness6 (enc := enc) (C := Try.checked) false ⟨#[], #[.slice none 0 0, .string ByteArray.empty], []⟩ 8 (by kernel_rfl) (by kernel_rfl) (by kernel_rfl) (by kernel_rfl)) ?_
  intro W base args ds gs before hval0 hW hcnd hsz _
  have hval : ∀ (j : Nat) t v, Try.f5.params[j]? = some t → args[j]? = some v → Value.okWide Try.prog W .any base t v := hval0
  have hW' := hW
  obtain ⟨p, q, hA0, hV, rfl, hfz, hnd⟩ := hW
  have hA : DataW.TrodAll enc Try.prog W 0 (fun _ => true) true Try.f5.params.toList args.toList ds p := hA0
  rw [Try.params5] at hA hval hsz
  obtain ⟨v0, vs0, d0, ds0, p0, q0, hargs, rfl, rfl, h0, r0⟩ := trodAll_cons hA
  obtain ⟨v1, vs1, d1, ds1, p1, q1, rfl, rfl, rfl, h1, r1⟩ := trodAll_cons r0
  obtain ⟨rfl, rfl, rfl⟩ := trodAll_nil r1
  obtain rfl : args = #[v0, v1] := by cases args; simp_all
  obtain ⟨rfl, rfl⟩ := trodVars_none hV
  have k0 := h0
  have k1 := h1
  have lt0 : ∀ x ∈ p0, x.block < W.heap.size := by obtain ⟨m, hm⟩ := k0; exact DataW.trod_lt m _ _ _ hm
  have lt1 : ∀ x ∈ p1, x.block < W.heap.size := by obtain ⟨m, hm⟩ := k1; exact DataW.trod_lt m _ _ _ hm
  obtain ⟨s, rfl, rfl, _, hs⟩ := open_string Try.underlying9 (hval 1 9 v1 rfl rfl) h1
  have hlim : s.size < 4611686018427387904 := by
    have h1 := sized_string hsz (j := 1) (t := 9) rfl rfl
    have h2 := reachBytes_lt
    have e1 : s.size = s.data.size := rfl
    have e2 : s.data.toList.length = s.data.size := Array.length_toList
    have e3 : (2 : Nat) ^ 47 = 140737488355328 := by decide
    omega
  have sz : ∀ es sp, d0 = DataW.slice es sp → es.length ≤ 140737488351232 := by
    intro es sp he
    have hreach := sized_slice hsz (j := 0) (t := 22) (e := 5) rfl (by rw [he]; rfl) Try.underlying22
    rw [show Try.checked.prog.bytesOf 5 = 1 from b5] at hreach
    simp only [reachBytes] at hreach
    omega
  have hlaw : Calls Try.prog 5 #[v0, .string s] W fun e w' => e = .returned (.bool true) ∧ Below W.heap.size W w' := by
    rcases bytes_arg h0 (hval 0 22 v0 rfl rfl) sz with rfl | ⟨ad, n, cap, D, rfl, rfl, hc1, hc2, hn, hD⟩
    · exact romHex_nil [] s W ⟨by simp, .inl rfl⟩ (by simp) (by omega) rfl (by simp) hlim
    · exact romHex_some D ad cap s W hD hc1 hc2 (by omega) hlim
  clear hA0 hval0
  refine hlaw.mono fun e W' ⟨he, bel⟩ => ?_
  subst he
  exact ⟨_, rfl, _, _, _, [], _, [], hW', trodAll_mk1 (shut_bool Try.underlying4 _), (trodAll_cons_mk (Below.trod romHexBack.laidOut (by kernel_rfl) (of_decide_eq_true (by kernel_rfl)) k0 bel lt0) (trodAll_cons_mk (Below.trod romHexBack.laidOut (by kernel_rfl) (of_decide_eq_true (by kernel_rfl)) k1 bel lt1) trodAll_mk0)), rfl, bel.frame _, fun h => by cases h⟩
end Go.Proofs.Ytbgfeogigjjmdaa.romHex
namespace Go.Proofs.Ytbgfeogigjjmdaa
open Go.ChangeShapes Go.WideShapes Go.ChangeAt Go.RowKit
theorem romHex_holds : Rows.RomHexSaid :=
  OpenClaim.holds_of_wide 5 Try.f5 rfl rfl rfl rfl rfl rfl rfl ⟨rfl, rfl, rfl, rfl, rfl⟩ rfl rfl rfl rfl rfl (by kernel_rfl) Try.func5 (by kernel_rfl)
    (of_decide_eq_true (by kernel_rfl)) (by unfold Func.isWrapper; first | (rw [if_pos (by decide +kernel)]; kernel_rfl) | (rw [if_neg (by decide +kernel)]; exact ⟨rfl, rfl⟩))
    (fun os started H enc _ => romHex.lifted os started H enc)
#print axioms romHex_holds
end Go.Proofs.Ytbgfeogigjjmdaa
