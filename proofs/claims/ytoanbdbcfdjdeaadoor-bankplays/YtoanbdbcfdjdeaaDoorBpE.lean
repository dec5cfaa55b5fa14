import Derived.Lib.SliceRun
import Derived.Laws.MakeOwn
import Derived.Test.YtoanbdbcfdjdeaaDoorBpD
namespace Go.Proofs.YtoanbdbcfdjdeaaDoor
open Go.RowKit
set_option linter.unusedVariables false
set_option linter.unusedSimpArgs false


theorem wrap_id (z : Int) (h : -9223372036854775808 ≤ z ∧ z ≤ 9223372036854775807) : RowKit.wrap64 (z + ((0 : Nat) : Int)) = z := by unfold RowKit.wrap64; omega
theorem wrap_in (z : Int) : -9223372036854775808 ≤ RowKit.wrap64 z ∧ RowKit.wrap64 z ≤ 9223372036854775807 := by unfold RowKit.wrap64; omega
set_option maxRecDepth 100000 in
set_option maxHeartbeats 2000000 in
theorem rsteps_all (S : Nat → Prop) (A : List Ac) (v : Value) (w : World) (hA : Acs S w v A) :
    Calls Tryd.prog 11 #[v] w fun e w' => e = .returned (.int .i64 (ssF 0 A)) ∧ w' = w := by
  obtain ⟨va0, vcap, rfl, hlen, hat⟩ := hA.at
  clear hA
  have hat' : Hid _ := hat
  clear hat
  go_enter Tryd.func11, Tryd.ntmps11
  go_wp2_with fail
  go_loopw [3, 4] (fun s i wr => ∃ (k : Nat) (z : Int), k ≤ A.length ∧ i = .int .i64 (k : Int) ∧ s = .int .i64 z ∧ (-9223372036854775808 ≤ z ∧ z ≤ 9223372036854775807) ∧ Hid (ssF z (A.drop k) = ssF 0 A) ∧ wr = w) (fun _ i _ => A.length - (intOf i).toNat)
  case atStart => exact ⟨0, 0, by omega, rfl, rfl, by omega, rfl, rfl⟩
  case round =>
    obtain ⟨k, z, hk, rfl, rfl, hz, hp', rfl⟩ := hrel
    have hp := hp'.out
    clear hp'
    by_cases hlt : k < A.length
    case neg =>
      have t1 : ¬ (k : Int) < (A.length : Int) := by omega
      rw [List.drop_eq_nil_of_le (show A.length ≤ k by omega)] at hp
      go_wp2_with fail
      go_ret
      exact ⟨by rw [← hp]; rfl, rfl⟩
    have t1 : (k : Int) < (A.length : Int) := by omega
    have t2 : (0 : Int) ≤ (k : Int) := by omega
    obtain ⟨ga, oa, vd, cd, rfl, hSa, hga, c0, c1, c2, hBy, r1, r2⟩ := hat'.out k hlt
    rw [List.drop_eq_getElem_cons hlt] at hp
    have hp2 : Hid (ssF (RowKit.wrap64 (z + ((nst A[k] : Nat) : Int))) (A.drop (k + 1)) = ssF 0 A) := hp
    clear hBy hat' hp
    generalize A[k] = ac at *
    obtain ⟨ak, ao, ad⟩ := ac
    dsimp only [nst] at *
    have w1 := wrap_in (z + 1024)
    have w2 := wrap_in (z + (ad.length : Int))
    by_cases k1 : ak = 1
    · subst k1
      rw [if_pos rfl] at hp2
      generalize ad.length = l at *
      go_wp2_with fail
      go_roundw
      case rel => exact ⟨k + 1, _, by omega, by go_num, rfl, w1, hp2, by first | rfl | trivial⟩
      case measure => simp [intOf]; omega
    · rw [if_neg k1] at hp2
      by_cases k2 : ak = 2
      · subst k2
        rw [if_pos rfl] at hp2
        generalize ad.length = l at *
        go_wp2_with fail
        go_roundw
        case rel => exact ⟨k + 1, _, by omega, by go_num, rfl, w2, hp2, by first | rfl | trivial⟩
        case measure => simp [intOf]; omega
      · rw [if_neg k2, wrap_id z hz] at hp2
        generalize ad.length = l at *
        go_wp2_with fail
        go_roundw
        case rel => exact ⟨k + 1, z, by omega, by go_num, rfl, hz, hp2, by first | rfl | trivial⟩
        case measure => simp [intOf]; omega
theorem infoB : (Tryd.prog.info? 5).map (fun i => (i.zero, i.size, i.bytes)) = some (some (.int .u8 0), 1, 1) := by kernel_rfl
theorem By.src {S : Nat → Prop} {w : World} {va : Option Addr} {c : Nat} {L : List Int} (h : By S w (.slice va L.length c) L) : (∀ ad, va = some ad → ∀ j u, (L.map bv)[j]? = some u → w.cell? (ad.add j) = some u) ∧ (va = none → L.length = 0) ∧ L.length ≤ 140737488355328 := by
  obtain ⟨a, cap, e, h1, h2, h3, h4⟩ := h
  injection e with e _ _
  subst e
  refine ⟨fun ad e j u hu => ?_, fun e => by rw [h3 e]; rfl, h2⟩
  have hj : j < L.length := by have := (List.getElem?_eq_some_iff.1 hu).1; simpa using this
  obtain ⟨g, o, e2, -, -, hx⟩ := h4.resolve_left (by intro e; rw [e] at hj; simp at hj)
  rw [e] at e2
  injection e2 with e2
  subst e2
  rw [Go.WideShapes.add_plain, hx j hj]
  rw [List.getElem?_map, List.getElem?_eq_getElem hj] at hu
  simpa [bv] using hu
theorem bv_one (L : List Int) : ∀ u ∈ L.map bv, u.oneCell' = true := by
  intro u hu
  obtain ⟨x, _, rfl⟩ := List.mem_map.1 hu
  rfl
set_option maxRecDepth 100000 in
set_option maxHeartbeats 2000000 in
theorem clone_any (S : Nat → Prop) (L : List Int) (va : Option Addr) (c : Nat) (w : World) (h : By S w (.slice va L.length c) L) (hp : 0 < L.length) :
    Calls Tryd.prog 18 #[.slice va L.length c] w fun e w' => (∃ g c', e = .returned (.slice (some ⟨g, 0, none⟩) L.length c') ∧ w'.ownsRow w.heap.size 5 1 (.slice (some ⟨g, 0, none⟩) L.length c') L.length (L.map bv)) ∧ Below w.heap.size w w' := by
  obtain ⟨ti, hi, hx⟩ := Option.map_eq_some_iff.1 infoB
  have hi0 : ti.zero = some (.int .u8 0) := congrArg (·.1) hx
  have hi1 : ti.size = 1 := congrArg (·.2.1) hx
  have hi2 : ti.bytes = 1 := congrArg (·.2.2) hx
  have hsr := fun (W : World) (hW : Below w.heap.size w W) => (h.keep (Mv.below hW)).src
  obtain ⟨-, hva, hlen⟩ := h.src
  clear h
  cases va with
  | none => exact absurd (hva rfl) (by omega)
  | some ad =>
    have heq : ∀ w, (binOp .eql 22 (.slice (some ad) L.length c) (.slice none 0 0)).run Tryd.prog w = .ok (.bool false) w := fun w => Lib.run_eql_slice_nil w 22 5 (some ad) L.length c 0 0 Tryd.underlying22
    have ow : ∀ W : World, (W.alloc (.cells #[] 5)).ownsRow W.heap.size 5 1 (.slice (some ⟨W.heap.size, 0, none⟩) 0 0) 0 [] := fun W => World.ownsRow_made W #[] 0 (Nat.le_refl _) (by unfold maxLen; omega) rfl
    go_enter Tryd.func18, Tryd.ntmps18
    go_wp2_with (at_builtin; refine wpList_append_own _ rfl _ _ 22 rfl w.heap.size 5 ti _ 1 1 Tryd.underlying22 hi hi0 hi1 hi2 rfl (by decide) (.slice (some ⟨w.heap.size, 0, none⟩) 0 0) 0 [] rfl (ow w) ad L.length c (L.map bv) rfl (by simp) ((hsr _ belN1).1 ad rfl) (bv_one L) (by unfold maxLen; omega) (by omega) (by simp) ?_; intro v' w' o1 o2 o3)
    rw [Nat.zero_add, List.nil_append] at o1
    obtain ⟨g', c', rfl, -, -, -⟩ := own_block o1 hp
    go_ret
    exact ⟨⟨g', c', rfl, o1⟩, grown_bel (B := w.heap.size) belN1 o2 (Nat.le_refl _) (fun k hk => by injection hk with hk; subst hk; exact Nat.le_refl _)⟩

/-- Bytes in memory of their own, from block B on. -/
def Ob (B : Nat) (w : World) (v : Value) (L : List Int) : Prop :=
  (v = .slice none 0 0 ∧ L = []) ∨ ∃ g cap, v = .slice (some ⟨g, 0, none⟩) L.length cap ∧ B ≤ g ∧ g < w.heap.size ∧ L.length ≤ cap ∧ L.length ≤ 140737488355328 ∧
    ((∃ base, w.ownsRow base 5 1 (.slice (some ⟨g, 0, none⟩) L.length cap) L.length (L.map bv)) ∨ (cap = L.length ∧ ∀ (j : Nat) (h : j < L.length), w.cell? ⟨g, j, none⟩ = some (.int .u8 L[j]) ∧ w.frozen? ⟨g, j, none⟩ = false))
def ansE (n : Nat) (A : List Ac) : Int := if flB n = true then (if okAll A n = true then 0 else 166) else 160
def ansL (F : List Int) (A : List Ac) (n t : Int) : List Int := if flB F.length = true ∧ okAll A F.length = true then plF F A n.toNat t else []
theorem flB_spec {n : Nat} (h : flB n = true) : n % 1024 = 0 ∧ 4096 ≤ n ∧ n ≤ 4194304 := by
  unfold flB at h
  simp only [Bool.and_eq_true, decide_eq_true_eq] at h
  exact ⟨h.1.1, h.1.2, h.2⟩
theorem Ob.own {B base : Nat} {w : World} {g cap : Nat} {L : List Int} (h : w.ownsRow base 5 1 (.slice (some ⟨g, 0, none⟩) L.length cap) L.length (L.map bv)) (hB : B ≤ g) (hl : L.length ≤ 140737488355328) : Ob B w (.slice (some ⟨g, 0, none⟩) L.length cap) L := by
  obtain ⟨h1, h2, h3, h4, -⟩ := own_at h
  exact .inr ⟨g, cap, rfl, hB, h1, h4, hl, .inl ⟨base, h⟩⟩
set_option maxRecDepth 100000 in
set_option maxHeartbeats 2000000 in
theorem play8 {B : Nat} {ea : Nat → Addr} (S : Nat → Prop) (F : List Int) (A : List Ac) (va : Option Addr) (c : Nat) (v : Value) (n t : Int) (w : World) (hE : Er B w ea) (hB : By S w (.slice va F.length c) F) (hA : Acs S w v A) (hS : ∀ q, S q → q < w.heap.size) (hn1 : -9223372036854775808 ≤ n) (hn2 : n ≤ 9223372036854775807) :
    Calls Tryd.prog 8 #[.slice va F.length c, v, .int .i64 n, .int .u8 t] w fun e w' => (∃ v', e = .returned (.tuple #[v', .int .i64 (ansE F.length A)]) ∧ Ob w.heap.size w' v' (ansL F A n t)) ∧ Below w.heap.size w w' := by
  obtain ⟨-, -, hFl⟩ := hB.src
  unfold ansE ansL
  cases hf : flB F.length with
  | false =>
    have h17 := allFit_no v F.length w hE (by omega) hf
    have h15 := fun (X : World) (hX : Below w.heap.size w X) => number_disk X (hE.below hX)
    clear hB hA hE
    generalize F.length = m at *
    go_enter Tryd.func8, Tryd.ntmps8
    go_wp2_with (first
      | (go_at_call 17; (with_reducible refine Calls.mono h17 ?_); rintro e w1 ⟨rfl, hb⟩)
      | (go_at_call 15; (with_reducible refine Calls.mono (h15 _ hb) ?_); rintro e w2 ⟨rfl, hb2⟩))
    go_ret2
    exact ⟨⟨_, rfl, .inl ⟨rfl, by simp⟩⟩, hb.trans (hb2.mono hb.size)⟩
  | true =>
    obtain ⟨f1, f2, f3⟩ := flB_spec hf
    have h17 := allFit_yes S A v F.length w hE hA hFl hf
    cases hok : okAll A F.length with
    | false =>
      have h17 : Calls Tryd.prog 17 #[v, .int .i64 (F.length : Int)] w fun e w' => (∃ k : Int, e = .returned (.iface 67 (.agg #[.string ⟨#[97, 99, 116]⟩, .int .i64 k, .iface 79 (.pointer (some (ea 6)))]))) ∧ Below w.heap.size w w' := h17.mono (by
        rintro e w' ⟨⟨hx, -⟩ | ⟨-, k, rfl⟩, hb⟩
        · rw [hok] at hx; cases hx
        · exact ⟨⟨k, rfl⟩, hb⟩)
      have h15 := fun (X : World) (hX : Below w.heap.size w X) (k : Int) => number_act ⟨#[97, 99, 116]⟩ k X (hE.below hX)
      clear hB hA hE
      generalize F.length = m at *
      go_enter Tryd.func8, Tryd.ntmps8
      go_wp2_with (first
        | (go_at_call 17; (with_reducible refine Calls.mono h17 ?_); rintro e w1 ⟨⟨k, rfl⟩, hb⟩)
        | (go_at_call 15; (with_reducible refine Calls.mono (h15 _ hb k) ?_); rintro e w2 ⟨rfl, hb2⟩))
      go_ret2
      exact ⟨⟨_, rfl, .inl ⟨rfl, by simp⟩⟩, hb.trans (hb2.mono hb.size)⟩
    | true =>
      have h17 : Calls Tryd.prog 17 #[v, .int .i64 (F.length : Int)] w fun e w' => e = .returned .nilIface ∧ Below w.heap.size w w' := h17.mono (by
        rintro e w' ⟨⟨-, rfl⟩ | ⟨hx, -⟩, hb⟩
        · exact ⟨rfl, hb⟩
        · rw [hok] at hx; cases hx)
      have h18 := fun (X : World) (hX : Below w.heap.size w X) => clone_any S F va c X (hB.keep (Mv.below hX)) (by omega)
      have h19 := fun (X : World) (hX : Below w.heap.size w X) (Y : World) (hY : Below X.heap.size X Y) (g cap base : Nat) (hg : w.heap.size ≤ g) (ow : Y.ownsRow base 5 1 (.slice (some ⟨g, 0, none⟩) F.length cap) F.length (F.map bv)) => play_any S A v F F.length g cap n.toNat t base Y rfl ow (hA.keep ((Mv.below hX).trans (Mv.below hY))) (fun q hq => ⟨Nat.lt_of_lt_of_le (hS q hq) (Nat.le_trans hX.size hY.size), by have := hS q hq; omega⟩) hok f1 f3 (by omega)
      have fin : ∀ (Y Z : World) (g cap base : Nat), w.heap.size ≤ g → Below w.heap.size w Y → Only (fun q => q = g) Y Z → Z.ownsRow base 5 1 (.slice (some ⟨g, 0, none⟩) F.length cap) F.length ((plF F A n.toNat t).map bv) → Ob w.heap.size Z (.slice (some ⟨g, 0, none⟩) F.length cap) (if true = true ∧ true = true then plF F A n.toNat t else []) ∧ Below w.heap.size w Z := fun Y Z g cap base hg hY ho hw => by
        refine ⟨?_, bel_only hY ho (Nat.le_refl _) (fun k hk e => by subst e; omega)⟩
        rw [if_pos ⟨rfl, rfl⟩]
        have hl := plF_len A F n.toNat t
        rw [← hl] at hw ⊢
        exact Ob.own hw hg (by omega)
      have fin' : Hid (∀ (Y Z : World) (g cap base : Nat), w.heap.size ≤ g → Below w.heap.size w Y → Only (fun q => q = g) Y Z → Z.ownsRow base 5 1 (.slice (some ⟨g, 0, none⟩) F.length cap) F.length ((plF F A n.toNat t).map bv) → Ob w.heap.size Z (.slice (some ⟨g, 0, none⟩) F.length cap) (if true = true ∧ true = true then plF F A n.toNat t else []) ∧ Below w.heap.size w Z) := fin
      have em : (if n < 0 then (0 : Int) else n) = ((n.toNat : Nat) : Int) := by split <;> omega
      clear fin hB hA hE
      generalize F.length = m at *
      go_enter Tryd.func8, Tryd.ntmps8
      rcases Int.lt_or_le n 0 with hneg | hneg
      · have e0 : ((n.toNat : Nat) : Int) = 0 := by omega
        rw [e0] at h19
        go_wp2_with (first
          | (go_at_call 17; (with_reducible refine Calls.mono h17 ?_); rintro e w1 ⟨rfl, hb⟩)
          | (go_at_call 18; (with_reducible refine Calls.mono (h18 _ hb) ?_); rintro e w2 ⟨⟨g', c', rfl, o1⟩, hb2⟩)
          | (go_at_call 19; (with_reducible refine Calls.mono (h19 _ hb _ hb2 g' c' _ (by have := (own_at o1).2.1; have := hb.size; omega) o1) ?_); rintro e w3 ⟨rfl, o3, oo3⟩))
        go_ret2
        have hh := fin'.out w2 w3 g' c' _ (by have := (own_at o1).2.1; have := hb.size; omega) (hb.trans (hb2.mono hb.size)) oo3 o3
        exact ⟨⟨_, rfl, hh.1⟩, hh.2⟩
      · have e0 : ((n.toNat : Nat) : Int) = n := by omega
        rw [e0] at h19
        go_wp2_with (first
          | (go_at_call 17; (with_reducible refine Calls.mono h17 ?_); rintro e w1 ⟨rfl, hb⟩)
          | (go_at_call 18; (with_reducible refine Calls.mono (h18 _ hb) ?_); rintro e w2 ⟨⟨g', c', rfl, o1⟩, hb2⟩)
          | (go_at_call 19; (with_reducible refine Calls.mono (h19 _ hb _ hb2 g' c' _ (by have := (own_at o1).2.1; have := hb.size; omega) o1) ?_); rintro e w3 ⟨rfl, o3, oo3⟩))
        go_ret2
        have hh := fin'.out w2 w3 g' c' _ (by have := (own_at o1).2.1; have := hb.size; omega) (hb.trans (hb2.mono hb.size)) oo3 o3
        exact ⟨⟨_, rfl, hh.1⟩, hh.2⟩
end Go.Proofs.YtoanbdbcfdjdeaaDoor
