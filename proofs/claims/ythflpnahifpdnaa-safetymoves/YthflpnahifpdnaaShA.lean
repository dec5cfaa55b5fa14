import Derived.Test.YthflpnahifpdnaaHdA
import Derived.Laws.BytesArg
import Derived.Laws.OwnMore
namespace Go.Proofs.Ythflpnahifpdnaa
open Go.RowKit
set_option linter.unusedVariables false


def letN (a : Int) : Int := if a = 0 then 114 else if a = 1 then 108 else if a = 2 then 103 else if a = 3 then 97 else 63
def showS (A : List Int) : ByteArray := strOfNums (A.map letN)
theorem showS_step (A : List Int) (k : Nat) (h : k < A.length) : showS (A.take (k + 1)) = showS (A.take k) ++ ⟨#[UInt8.ofNat (letN A[k]).toNat]⟩ := by
  unfold showS strOfNums
  rw [List.take_succ_eq_append_getElem h, List.map_append, List.map_append]
  apply ByteArray.ext
  simp [ByteArray.data_append]
theorem letN_out {a : Int} (h : a < 0 ∨ 4 ≤ a) : letN a = 63 := by
  unfold letN
  rw [if_neg (by omega), if_neg (by omega), if_neg (by omega), if_neg (by omega)]
set_option maxRecDepth 100000 in
theorem letter_any (a : Int) (w : World) : Calls Try.prog 41 #[.int .i64 a] w fun e w' => e = .returned (.int .u8 (letN a)) ∧ w' = w := by
  by_cases d1 : a < 0
  · rw [letN_out (.inl d1)]
    go_enter Try.func41, Try.ntmps41
    go_wp2
    go_ret
    exact ⟨rfl, rfl⟩
  · by_cases d2 : a ≥ 4
    · rw [letN_out (.inr d2)]
      go_enter Try.func41, Try.ntmps41
      go_wp2
      go_ret
      exact ⟨rfl, rfl⟩
    · have c : a = 0 ∨ a = 1 ∨ a = 2 ∨ a = 3 := by omega
      rcases c with rfl | rfl | rfl | rfl
      all_goals
        go_enter Try.func41, Try.ntmps41
        go_wp2
        go_ret
        exact ⟨rfl, rfl⟩
theorem info5 : (Try.prog.info? 5).map (fun i => (i.zero, i.size, i.bytes)) = some (some (.int .u8 0), 1, 1) := by kernel_rfl
theorem own_some {w : World} {base e size n g cap : Nat} {xs : List Value} (h : w.ownsRow base e size (.slice (some ⟨g, 0, none⟩) n cap) n xs) : ∀ j, j < n * size → ∃ u, w.cell? ⟨g, j, none⟩ = some u := fun j hj => by
  rw [h.cellAt j hj]; exact ⟨_, List.getElem?_eq_getElem (by rw [h.1]; exact hj)⟩
/-- A row that is filled up to k. -/
def Fill {α : Type} (f : α → Value) (xs : List Value) (A : List α) (k : Nat) : Prop := ∀ i (h : i < A.length), i < k → xs[i]? = some (f A[i])
theorem Fill.put {α : Type} {f : α → Value} {xs : List Value} {A : List α} {k : Nat} (h : Fill f xs A k) (hk : k < A.length) (hl : xs.length = A.length) {v : Value} (hv : v = f A[k]) : Fill f (setAll xs k [v]) A (k + 1) := by
  intro i hi hik
  by_cases e : i = k
  · subst e
    have := setAll_in [v] xs i 0 (by simp; omega) (by simp)
    simpa [hv] using this
  · rw [setAll_out [v] xs k i (by simp; omega)]
    exact h i hi (by omega)
set_option maxRecDepth 100000 in
set_option maxHeartbeats 4000000 in
theorem show_any (A : List Int) (v1 : Value) (a2 a3 : Option Addr) (n2 c2 n3 c3 : Nat) (w : World) (h1 : Fl 1 n64 w v1 A) (lA : A.length ≤ 17592186044000) :
    Calls Try.prog 30 #[.agg #[v1, .slice a2 n2 c2, .slice a3 n3 c3]] w fun e w' => e = .returned (.string (showS A)) ∧ Below w.heap.size w w' := by
  obtain ⟨a1, c1, rfl, k1⟩ := h1.nums
  clear h1
  obtain ⟨i5, hi, hi0, hi1, hi2⟩ := info_parts info5
  have B0 : Has (w.alloc (.cells #[.slice a1 A.length c1, .slice a2 n2 c2, .slice a3 n3 c3] 37)) w.heap.size #[.slice a1 A.length c1, .slice a2 n2 c2, .slice a3 n3 c3] := Has.new _ _ _ rfl
  have hb0 : Below w.heap.size w (w.alloc (.cells #[.slice a1 A.length c1, .slice a2 n2 c2, .slice a3 n3 c3] 37)) := belN1
  have zb : (w.alloc (.cells #[.slice a1 A.length c1, .slice a2 n2 c2, .slice a3 n3 c3] 37)).heap.size = w.heap.size + 1 := by simp
  go_enter Try.func30, Try.ntmps30
  go_wp2_with (refine wpList_make_full _ rfl _ _ 72 rfl (w.heap.size + 1) 5 i5 _ 1 Try.underlying72 hi hi0 hi1 .i64 .i64 (A.length : Int) (A.length : Int) A.length rfl rfl rfl rfl (by rw [hi2]; omega) (by unfold maxLen; omega) (by simp) ?_; intro W0 own0 hg0; have HB0 := bel_after hb0 hb0.size (grown_none hg0); have BM := B0.below (grown_none hg0); obtain ⟨_, m1, _⟩ := id BM; clear hg0)
  have hlet := fun (a : Int) (X : World) => letter_any a X
  rw [zb] at own0
  go_loopw [13] (fun t wr => ∃ (k : Nat) (xs : List Value), k ≤ A.length ∧ t = .int .i64 (k : Int) ∧ Hid (wr.ownsRow (w.heap.size + 1) 5 1 (.slice (some ⟨w.heap.size + 1, 0, none⟩) A.length A.length) A.length xs) ∧ Hid (Fill (fun a => .int .u8 (letN a)) xs A k) ∧ Hid (Has wr w.heap.size #[.slice a1 A.length c1, .slice a2 n2 c2, .slice a3 n3 c3]) ∧ Hid (Below w.heap.size w wr)) (fun t _ => A.length - (intOf t).toNat)
  case atStart => exact ⟨0, _, by omega, rfl, own0, (fun _ _ h => absurd h (Nat.not_lt_zero _)), BM, HB0⟩
  case round =>
    clear B0 hb0 BM HB0 own0 m1
    obtain ⟨k, xs, hkl, rfl, own, fil, B, hb⟩ := hrel
    obtain ⟨_, b1, _⟩ := id B.out
    by_cases hlt : k < A.length
    · obtain ⟨g, o, rfl, hg, P⟩ := k1.resolve_left (by intro e; rw [e] at hlt; simp at hlt)
      have p0 := (hb.out.cell (p := ⟨g, _, none⟩) hg).trans (P k hlt _ rfl)
      obtain ⟨y0, z0⟩ := own_some own.out k (by omega)
      have hfz := own.out.frozenAt
      have t1 : (k : Int) < (A.length : Int) := by omega
      have t0 : (0 : Int) ≤ (k : Int) := by omega
      have t2 : k + 1 ≤ A.length := hlt
      have hput := fun (v : Value) (hv : v = .int .u8 (letN A[k])) => Fill.put (f := fun a => Value.int .u8 (letN a)) fil.out hlt (by have := own.out.1; simpa using this) hv
      clear P k1
      generalize A[k] = x at *
      go_wp2_with (go_at_call 41; (with_reducible refine Calls.mono (hlet x _) ?_); rintro e w2 ⟨rfl, rfl⟩)
      go_roundw
      case rel => exact ⟨k + 1, setAll xs k [.int .u8 (letN x)], by omega, by go_num, own_stored [.int .u8 (letN x)] _ xs k own.out, hput _ rfl, B.out.far (by omega) _, hb.out.setCell (p := ⟨w.heap.size + 1, k, none⟩) (by simp) _⟩
      case measure => simp [intOf]; omega
    · have t1 : ¬ (k : Int) < (A.length : Int) := by omega
      obtain rfl : k = A.length := by omega
      clear k1
      have hcell : ∀ i, i < A.length → wr.cell? ⟨w.heap.size + 1, 0 + i, none⟩ = some (.int .u8 ((A.map letN).getD i 0)) := fun i hi => by
        rw [Nat.zero_add, own.out.cellAt i (by omega), fil.out i hi hi]; simp [List.getD_eq_getElem?_getD, hi]
      have hconv := run_convert_bytes_arg (P := Try.prog) wr 72 5 Try.underlying72 Try.underlying5 (w.heap.size + 1) 0 A.length A.length (A.map letN) (by simp) hcell 9 Try.underlying9
      clear own fil hcell
      go_wp2
      go_ret
      exact ⟨rfl, hb.out⟩
end Go.Proofs.Ythflpnahifpdnaa
