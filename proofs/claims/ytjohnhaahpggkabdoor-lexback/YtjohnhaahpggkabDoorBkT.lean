import Derived.Test.YtjohnhaahpggkabDoorBkB
import Derived.Test.YtjohnhaahpggkabDoorRows
import Derived.ProofKit
import Derived.LaidMore
import Derived.OpenShut
import Derived.Stop.Joined
import Derived.Stop.LaidErr
import Derived.Lib.LaidTab
namespace Go.Proofs.YtjohnhaahpggkabDoor
open Go.ChangeShapes Go.WideShapes Go.ChangeAt Go.RowKit

/-- A table of texts, as a row lists it. -/
def strData {H : Type} (zs : List (List UInt8)) : DataW H := .agg (zs.map fun z => .lit (.string z))

theorem cells_of_strs {H : Type} {enc : TypeId × Value → H} {P : Program} {w : World} {base : Nat} {sp : Nat → Bool} {held : Bool} {fuel : Nat} {t e : TypeId} {n : Nat} {cs : List Value} {zs : List (List UInt8)} {p : List MemPlace}
    (ht : P.underlying t = some (.array n e)) (he : P.underlying e = some .string) (hce : P.cellsOf e = 1) (hct : P.cellsOf t = n)
    (h : DataW.trod enc P w base sp held fuel t cs = some (strData zs, p)) : cs = zs.map fun z => Value.string (bs z) := by
  cases fuel with
  | zero => simp [DataW.trod] at h
  | succ fuel =>
    simp only [DataW.trod, ht, hce, hct, Nat.mul_one] at h
    split at h
    · rename_i hl
      obtain ⟨xs, hm, hx⟩ := Option.map_eq_some_iff.1 h
      have hxs : xs.map (·.1) = zs.map fun z => (DataW.lit (.string z) : DataW H) := by
        have := congrArg Prod.fst hx
        simpa [strData] using this
      have hxl : xs.length = n := by simpa using Lib.mapM_length hm
      have hzl : zs.length = n := by
        have := congrArg List.length hxs
        simp at this
        omega
      apply List.ext_getElem?
      intro i
      by_cases hi : i < n
      · obtain ⟨b, hb, hf⟩ := Lib.mapM_at hm i i (by simp [hi])
        obtain ⟨z, hc, rfl, _⟩ := DataW.trod_string he hf
        have h1 : cs[i]? = some (.string z) := by
          have := congrArg (·[0]?) hc
          simpa [List.getElem?_take, List.getElem?_drop] using this
        have h2 : (xs.map (·.1))[i]? = some (DataW.lit (.string z.data.toList) : DataW H) := by simp [hb]
        rw [hxs] at h2
        simp only [List.getElem?_map, Option.map_eq_some_iff, DataW.lit.injEq, Lit.string.injEq] at h2
        obtain ⟨z', hz', e'⟩ := h2
        subst e'
        simp [h1, hz', bs]
      · rw [List.getElem?_eq_none (by omega), List.getElem?_eq_none (by simp; omega)]
    · cases h

theorem strs_of_head {P : Program} {W : World} {name : String} {zs : List (List UInt8)} {rest : List (String × DataW Unit)} {g : Nat} {t e : TypeId} {n : Nat}
    (hg : P.globalNamed name = some g) (hty : (P.globals[g]?).map (·.type) = some t) (ht : P.underlying t = some (.array n e)) (he : P.underlying e = some .string) (hce : P.cellsOf e = 1) (hct : P.cellsOf t = n)
    (h : laidMet P ((name, strData zs) :: rest) W) : ∀ i, i < zs.length → W.cell? ⟨g, i, none⟩ = some (.string (bs (zs.getD i []))) := by
  obtain ⟨ps, ⟨g', t', cs, fuel, p, q, hg', ht', hvar, hd, _, _⟩, _⟩ := h
  obtain rfl := Option.some.inj (hg.symm.trans hg')
  obtain rfl := Option.some.inj (hty.symm.trans ht')
  intro i hi
  have h1 := World.var?_cell hg hvar i
  have h2 := cells_of_strs ht he hce hct hd
  rw [h1]
  have h3 : cs[i]? = some (.string (bs (zs.getD i []))) := by
    rw [← Array.getElem?_toList, h2]; simp [List.getD, hi]
  exact h3

theorem own : ownKnob Tryd.prog.godebug = none := by kernel_rfl
theorem laidOut : laidOutB Tryd.prog = true := by kernel_rfl
theorem gLex : Tryd.prog.globalNamed "junction/lex.words" = some 2 := by kernel_rfl
theorem gRw : Tryd.prog.globalNamed "junction/junctionlaw2.keywords" = some 0 := by kernel_rfl
theorem gRs : Tryd.prog.globalNamed "junction/junctionlaw2.marks" = some 1 := by kernel_rfl
theorem gPw : Tryd.prog.globalNamed "internal/strconv.uint64pow10" = some 5 := by kernel_rfl
theorem tLex : (Tryd.prog.globals[2]?).map (·.type) = some 77 := by kernel_rfl
theorem tRw : (Tryd.prog.globals[0]?).map (·.type) = some 46 := by kernel_rfl
theorem tRs : (Tryd.prog.globals[1]?).map (·.type) = some 47 := by kernel_rfl
theorem tPw : (Tryd.prog.globals[5]?).map (·.type) = some 100 := by kernel_rfl
theorem u77 : Tryd.prog.underlying 77 = some (.array 78 9) := by kernel_rfl
theorem u46 : Tryd.prog.underlying 46 = some (.array 41 9) := by kernel_rfl
theorem u47 : Tryd.prog.underlying 47 = some (.array 18 9) := by kernel_rfl
theorem c9 : Tryd.prog.cellsOf 9 = 1 := by kernel_rfl
theorem c77 : Tryd.prog.cellsOf 77 = 78 := by kernel_rfl
theorem c46 : Tryd.prog.cellsOf 46 = 41 := by kernel_rfl
theorem c47 : Tryd.prog.cellsOf 47 = 18 := by kernel_rfl
def wdL : List (List UInt8) := (List.range 78).map wordL
theorem wdL_get (i : Nat) (h : i < 78) : wdL.getD i [] = wordL i := by simp [wdL, List.getD, h]
/-- What the row lists. -/
def laidB : List (String × DataW Unit) := [("math/bits.deBruijn32tab", Rows.laid_math_bits_deBruijn32tab), ("math/bits.deBruijn64tab", Rows.laid_math_bits_deBruijn64tab), ("internal/strconv.uint64pow10", Rows.laid_internal_strconv_uint64pow10), ("junction/lex.words", Rows.laid_junction_lex_words), ("junction/junctionlaw2.keywords", Rows.laid_junction_junctionlaw2_keywords), ("junction/junctionlaw2.marks", Rows.laid_junction_junctionlaw2_marks)]
theorem door_metB (os : Os) (args : Array Value) : laidMetH Tryd.prog laidB ((World.doorLaid Tryd.prog 400 os).forCall (fun _ _ => 0) ⟨#[], args, []⟩).memory :=
  laidMetH_of_parts3 (fuel := 8) (laidMet_of_run' 8 (by kernel_rfl) (by kernel_rfl)) (by kernel_rfl) (by kernel_rfl)
theorem lt_of_cell {W : World} {b o : Nat} {v : Value} (h : W.cell? ⟨b, o, none⟩ = some v) : b < W.heap.size := by
  rcases Nat.lt_or_ge b W.heap.size with h0 | h0
  · exact h0
  · have : W.heap[b]? = none := by simp [h0]
    simp [World.cell?, this] at h
theorem of_laidB {W : World} (h : laidMetH Tryd.prog laidB W) : Wt W ∧ Kw W ∧ Mk W ∧ Pw W := by
  rw [MakeChecks.laidMetH_plain _ _ _ (by kernel_rfl)] at h
  have h4 : laidMet Tryd.prog (("internal/strconv.uint64pow10", Lib.tabData .u64 Lib.pow10Tab) :: laidB.drop 3) W := h.tail.tail
  have h5 := Lib.tabIs_of_head gPw tPw Tryd.underlying100 Tryd.underlying91 (by kernel_rfl) (by kernel_rfl) h4
  have h3 := strs_of_head (zs := wdL) gLex tLex u77 Tryd.underlying9 c9 c77 (rest := laidB.drop 4) h.tail.tail.tail
  have h1 := strs_of_head (zs := kwL) gRw tRw u46 Tryd.underlying9 c9 c46 (rest := laidB.drop 5) h.tail.tail.tail.tail
  have h2 := strs_of_head (zs := sgL) gRs tRs u47 Tryd.underlying9 c9 c47 (rest := []) h.tail.tail.tail.tail.tail
  refine ⟨⟨lt_of_cell (h3 0 (by decide)), fun i hi => ?_⟩, ⟨lt_of_cell (h1 0 (by decide)), fun i hi => h1 i hi⟩, ⟨lt_of_cell (h2 0 (by decide)), fun i hi => h2 i hi⟩, h5⟩
  have := h3 i (by simpa [wdL] using hi)
  rw [wdL_get i hi] at this
  exact this
end Go.Proofs.YtjohnhaahpggkabDoor
