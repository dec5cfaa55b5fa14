import Derived.Lib.SliceRun
import Derived.Laws.MakeOwn
import Derived.Test.YtoaokpmnjppfcaaWaJ
namespace Go.Proofs.Ytoaokpmnjppfcaa
open Go.RowKit
set_option linter.unusedVariables false
set_option linter.unusedSimpArgs false

theorem infoC : (Try.prog.info? 68).map (fun i => (i.zero, i.size, i.bytes)) = some (some (.agg #[.int .i64 0, .int .i64 0, .int .i64 0, .int .i64 0]), 4, 32) := by kernel_rfl
set_option maxRecDepth 100000 in
set_option maxHeartbeats 2000000 in
theorem cloneC_any (L : List Cf) (va : Option Addr) (c : Nat) (w : World) (hb : L.length ≤ 4398046511000) (hsrc : ∀ ad, va = some ad → ∀ W : World, Below w.heap.size w W → ∀ j u, (cellsF Cf.cs L)[j]? = some u → W.cell? (ad.add j) = some u) (hva : va = none → L.length = 0) :
    Calls Try.prog 31 #[.slice va L.length c] w fun e w' => (∃ a' c', e = .returned (.slice a' L.length c') ∧ w'.ownsRow w.heap.size 68 4 (.slice a' L.length c') L.length (cellsF Cf.cs L)) ∧ Below w.heap.size w w' := by
  obtain ⟨ti, hi, hx⟩ := Option.map_eq_some_iff.1 infoC
  have hi0 : ti.zero = some (.agg #[.int .i64 0, .int .i64 0, .int .i64 0, .int .i64 0]) := congrArg (·.1) hx
  have hi1 : ti.size = 4 := congrArg (·.2.1) hx
  have hi2 : ti.bytes = 32 := congrArg (·.2.2) hx
  cases va with
  | none =>
    have h0 := hva rfl
    obtain rfl : L = [] := List.length_eq_zero_iff.1 h0
    have heq : ∀ w, (binOp .eql 23 (.slice none 0 c) (.slice none 0 0)).run Try.prog w = .ok (.bool true) w := fun w => Lib.run_eql_slice_nil w 23 68 none 0 c 0 0 Try.underlying23
    go_enter Try.func31, Try.ntmps31
    go_wp2
    go_ret
    exact ⟨⟨none, 0, rfl, World.ownsRow_nil _ _ _ _⟩, Below.refl _ _⟩
  | some ad =>
    have heq : ∀ w, (binOp .eql 23 (.slice (some ad) L.length c) (.slice none 0 0)).run Try.prog w = .ok (.bool false) w := fun w => Lib.run_eql_slice_nil w 23 68 (some ad) L.length c 0 0 Try.underlying23
    have hs := hsrc ad rfl
    have ow : ∀ W : World, (W.alloc (.cells #[] 68)).ownsRow W.heap.size 68 4 (.slice (some ⟨W.heap.size, 0, none⟩) 0 0) 0 [] := fun W => World.ownsRow_made W #[] 0 (Nat.le_refl _) (by unfold maxLen; omega) rfl
    clear hsrc hva
    go_enter Try.func31, Try.ntmps31
    go_wp2_with (at_builtin; refine wpList_append_own _ rfl _ _ 23 rfl w.heap.size 68 ti _ 4 32 Try.underlying23 hi hi0 hi1 hi2 rfl (by decide) (.slice (some ⟨w.heap.size, 0, none⟩) 0 0) 0 [] rfl (ow w) ad L.length c (cellsF Cf.cs L) rfl (cellsF_len cf_len L) (hs _ belN1) (cellsF_one cf_one L) (by unfold maxLen; omega) (by omega) (by simp) ?_; intro v' w' o1 o2 o3)
    rw [Nat.zero_add, List.nil_append] at o1
    obtain ⟨a', c', rfl⟩ := own_form o1
    go_ret
    exact ⟨⟨a', c', rfl, o1⟩, grown_bel (B := w.heap.size) belN1 o2 (Nat.le_refl _) (fun k hk => by injection hk with hk; subst hk; exact Nat.le_refl _)⟩

theorem infoA : (Try.prog.info? 43).map (fun i => (i.zero, i.size, i.bytes)) = some (some (.agg #[.int .i64 0, .int .i64 0, .int .i64 0, .int .i64 0]), 4, 32) := by kernel_rfl
set_option maxRecDepth 100000 in
set_option maxHeartbeats 2000000 in
theorem cloneA_any (L : List Al) (va : Option Addr) (c : Nat) (w : World) (hb : L.length ≤ 4398046511000) (hsrc : ∀ ad, va = some ad → ∀ W : World, Below w.heap.size w W → ∀ j u, (cellsF Al.cs L)[j]? = some u → W.cell? (ad.add j) = some u) (hva : va = none → L.length = 0) :
    Calls Try.prog 24 #[.slice va L.length c] w fun e w' => (∃ a' c', e = .returned (.slice a' L.length c') ∧ w'.ownsRow w.heap.size 43 4 (.slice a' L.length c') L.length (cellsF Al.cs L)) ∧ Below w.heap.size w w' := by
  obtain ⟨ti, hi, hx⟩ := Option.map_eq_some_iff.1 infoA
  have hi0 : ti.zero = some (.agg #[.int .i64 0, .int .i64 0, .int .i64 0, .int .i64 0]) := congrArg (·.1) hx
  have hi1 : ti.size = 4 := congrArg (·.2.1) hx
  have hi2 : ti.bytes = 32 := congrArg (·.2.2) hx
  cases va with
  | none =>
    have h0 := hva rfl
    obtain rfl : L = [] := List.length_eq_zero_iff.1 h0
    have heq : ∀ w, (binOp .eql 39 (.slice none 0 c) (.slice none 0 0)).run Try.prog w = .ok (.bool true) w := fun w => Lib.run_eql_slice_nil w 39 43 none 0 c 0 0 Try.underlying39
    go_enter Try.func24, Try.ntmps24
    go_wp2
    go_ret
    exact ⟨⟨none, 0, rfl, World.ownsRow_nil _ _ _ _⟩, Below.refl _ _⟩
  | some ad =>
    have heq : ∀ w, (binOp .eql 39 (.slice (some ad) L.length c) (.slice none 0 0)).run Try.prog w = .ok (.bool false) w := fun w => Lib.run_eql_slice_nil w 39 43 (some ad) L.length c 0 0 Try.underlying39
    have hs := hsrc ad rfl
    have ow : ∀ W : World, (W.alloc (.cells #[] 43)).ownsRow W.heap.size 43 4 (.slice (some ⟨W.heap.size, 0, none⟩) 0 0) 0 [] := fun W => World.ownsRow_made W #[] 0 (Nat.le_refl _) (by unfold maxLen; omega) rfl
    clear hsrc hva
    go_enter Try.func24, Try.ntmps24
    go_wp2_with (at_builtin; refine wpList_append_own _ rfl _ _ 39 rfl w.heap.size 43 ti _ 4 32 Try.underlying39 hi hi0 hi1 hi2 rfl (by decide) (.slice (some ⟨w.heap.size, 0, none⟩) 0 0) 0 [] rfl (ow w) ad L.length c (cellsF Al.cs L) rfl (cellsF_len al_len L) (hs _ belN1) (cellsF_one al_one L) (by unfold maxLen; omega) (by omega) (by simp) ?_; intro v' w' o1 o2 o3)
    rw [Nat.zero_add, List.nil_append] at o1
    obtain ⟨a', c', rfl⟩ := own_form o1
    go_ret
    exact ⟨⟨a', c', rfl, o1⟩, grown_bel (B := w.heap.size) belN1 o2 (Nat.le_refl _) (fun k hk => by injection hk with hk; subst hk; exact Nat.le_refl _)⟩

theorem made_rw {α : Type} {cs : α → List Value} {sz : Nat} (h : ∀ x, (cs x).length = sz) (h0 : 0 < sz) (n : Nat) (x : α) : madeCells (cs x).toArray (n * sz) = rwA cs n (fun _ => x) := by
  apply Array.ext_getElem?
  intro i
  by_cases hi : i < n * sz
  · have hm := Nat.mod_lt i h0
    have hq : i / sz < n := Nat.div_lt_of_lt_mul (by rw [Nat.mul_comm]; exact hi)
    have ei : i = i / sz * sz + i % sz := by have := Nat.div_add_mod i sz; rw [Nat.mul_comm]; omega
    have e2 : (rwA cs n (fun _ => x))[i]? = (cs x)[i % sz]? := by
      have := rwA_get h n (fun _ => x) hq hm
      rw [← ei] at this
      exact this
    rw [e2]
    unfold madeCells
    have hs : (cs x).toArray.size = sz := by simp [h]
    have hm' : i % sz < (cs x).length := by rw [h]; exact hm
    rw [Array.getElem?_map, Array.getElem?_range, if_pos hi, Option.map_some, hs, List.getElem?_eq_getElem hm', getElem!_pos (cs x).toArray (i % sz) (by simpa using hm')]
    simp
  · rw [Array.getElem?_eq_none (by rw [size_madeCells]; omega), Array.getElem?_eq_none (by rw [rwA_size h]; omega)]
theorem run_make_rw {α : Type} {cs : α → List Value} {sz : Nat} (hl : ∀ x, (cs x).length = sz) (h0 : 0 < sz) (x : α) (w : World) (t e : TypeId) (i : TypeInfo) (z : Value) (ht : Try.prog.underlying t = some (.slice e)) (hi : Try.prog.info? e = some i) (hz : i.zero = some z) (hs : i.size = sz) (hc : z.cells = (cs x).toArray) (n : Nat) (hb : i.bytes * n ≤ 281474976710656) (h63 : n ≤ 9223372036854775807) :
    (Instr.makeSlice t (.int .i64 (n : Int)) (.int .i64 (n : Int))).run Try.prog w = .ok (.slice (some ⟨w.heap.size, 0, none⟩) n n) (w.alloc (.cells (rwA cs n (fun _ => x)) e)) := by
  have hb' : (i.bytes : Int) * (n : Int) ≤ 281474976710656 := by
    rw [← Int.natCast_mul]
    exact Int.ofNat_le.2 hb
  have := run_make (P := Try.prog) w t e i z ht hi hz .i64 .i64 (n : Int) (n : Int) (by omega) (by omega) hb' (by omega)
  rw [this, hc, hs, Int.toNat_natCast, made_rw hl h0]
theorem infoG : (Try.prog.info? 78).map (fun i => (i.zero, i.size, i.bytes)) = some (some (.agg #[.int .i64 0, .int .i64 0, .int .i64 0, .int .i64 0]), 4, 32) := by kernel_rfl
theorem infoL : (Try.prog.info? 83).map (fun i => (i.zero, i.size, i.bytes)) = some (some (.agg #[.int .u8 0, .int .i64 0, .int .i64 0]), 3, 24) := by kernel_rfl
theorem makeG (w : World) (n : Nat) (hn : n ≤ 64) : (Instr.makeSlice 55 (.int .i64 (n : Int)) (.int .i64 (n : Int))).run Try.prog w = .ok (.slice (some ⟨w.heap.size, 0, none⟩) n n) (w.alloc (.cells (rwA Gr.cs n (fun _ => gr0)) 78)) := by
  obtain ⟨ti, hi, hx⟩ := Option.map_eq_some_iff.1 infoG
  exact run_make_rw gr_len (by decide) gr0 w 55 78 ti _ Try.underlying55 hi (congrArg (·.1) hx) (congrArg (·.2.1) hx) rfl n (by rw [show ti.bytes = 32 from congrArg (·.2.2) hx]; omega) (by omega)
def lm0 : Lm := ⟨0, 0, 0⟩
theorem makeL (w : World) (n : Nat) (hn : n ≤ 64) : (Instr.makeSlice 59 (.int .i64 (n : Int)) (.int .i64 (n : Int))).run Try.prog w = .ok (.slice (some ⟨w.heap.size, 0, none⟩) n n) (w.alloc (.cells (rwA Lm.cs n (fun _ => lm0)) 83)) := by
  obtain ⟨ti, hi, hx⟩ := Option.map_eq_some_iff.1 infoL
  exact run_make_rw lm_len (by decide) lm0 w 59 83 ti _ Try.underlying59 hi (congrArg (·.1) hx) (congrArg (·.2.1) hx) rfl n (by rw [show ti.bytes = 24 from congrArg (·.2.2) hx]; omega) (by omega)
end Go.Proofs.Ytoaokpmnjppfcaa
