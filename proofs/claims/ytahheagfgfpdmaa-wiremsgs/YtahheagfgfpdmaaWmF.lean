import Derived.Test.YtahheagfgfpdmaaWmC
namespace Go.Proofs.Ytahheagfgfpdmaa
open Go.RowKit
set_option linter.unusedVariables false
set_option linter.unusedSimpArgs false


/-- Four bytes, the low one first. -/
def w4 (x : Int) : List Int := [x % 256, x / 256 % 256, x / 65536 % 256, x / 16777216 % 256]
def yq (x : Int) : Nat → Int
  | 0 => x
  | 1 => x / 256
  | 2 => x / 65536
  | 3 => x / 16777216
  | _ => x / 4294967296
theorem yq_next (x : Int) (k : Nat) (h : k < 4) : yq x k / 256 = yq x (k + 1) := by
  rcases (by omega : k = 0 ∨ k = 1 ∨ k = 2 ∨ k = 3) with rfl | rfl | rfl | rfl <;> (simp only [yq] <;> omega)
theorem yq_in (x : Int) (k : Nat) (h0 : 0 ≤ x) (h1 : x < 4294967296) : 0 ≤ yq x k ∧ yq x k < 4294967296 := by
  unfold yq; split <;> omega
theorem w4_take (x : Int) (k : Nat) (h : k < 4) : (w4 x).take (k + 1) = (w4 x).take k ++ [yq x k % 256] := by
  rcases (by omega : k = 0 ∨ k = 1 ∨ k = 2 ∨ k = 3) with rfl | rfl | rfl | rfl <;> simp [w4, yq]
theorem own_lit (w : World) (L : List Int) (hl : L.length ≤ 100) : (w.alloc (.cells (L.map bv).toArray 5)).ownsRow w.heap.size 5 1 (.slice (some ⟨w.heap.size, 0, none⟩) L.length L.length) L.length (L.map bv) := by
  refine ⟨by simp, .inr ⟨w.heap.size, L.length, (L.map bv).toArray, rfl, Nat.le_refl _, heap_alloc_new w _, Nat.le_refl _, by unfold maxLen; omega, by simp, ?_⟩⟩
  simp [List.take_of_length_le]
theorem wrapU (z : Int) (h : 0 ≤ z ∧ z < 4294967296) : IntKind.u32.wrap z = z := by
  unfold IntKind.wrap
  simp [IntKind.bits, IntKind.signed]
  omega
theorem wrapU8 (z : Int) : IntKind.u8.wrap z = z % 256 := by
  unfold IntKind.wrap
  simp [IntKind.bits, IntKind.signed]
set_option maxRecDepth 100000 in
set_option maxHeartbeats 2000000 in
theorem four_any (base : Nat) (L : List Int) (l : Nat) (v : Value) (x : Int) (w : World) (hL : L.length = l) (hx0 : 0 ≤ x) (hx1 : x < 4294967296) (hO : w.ownsRow base 5 1 v l (L.map bv)) (hl : l ≤ 100) (hb : base ≤ w.heap.size) :
    Calls Try.prog 16 #[v, .int .u32 x] w fun e w' => (∃ g cap, e = .returned (.slice (some ⟨g, 0, none⟩) (l + 4) cap) ∧ w'.ownsRow base 5 1 (.slice (some ⟨g, 0, none⟩) (l + 4) cap) (l + 4) ((L ++ w4 x).map bv)) ∧ Below base w w' := by
  obtain ⟨ti, hi, hx⟩ := Option.map_eq_some_iff.1 infoB
  have hi0 : ti.zero = some (.int .u8 0) := congrArg (·.1) hx
  have hi1 : ti.size = 1 := congrArg (·.2.1) hx
  have hi2 : ti.bytes = 1 := congrArg (·.2.2) hx
  have hL' : Hid (L.length = l) := hL
  clear hL
  go_enter Try.func16, Try.ntmps16
  go_wp2_with fail
  go_loopw [0, 1, 5] (fun a b i wr => ∃ (k : Nat) (y : Int) (v' : Value), k ≤ 4 ∧ a = v' ∧ b = .int .u32 y ∧ i = .int .i64 (k : Int) ∧ Hid (y = yq x k) ∧ Hid (wr.ownsRow base 5 1 a (l + k) ((L ++ (w4 x).take k).map bv)) ∧ Hid (Below base w wr)) (fun _ _ i _ => 4 - (intOf i).toNat)
  case atStart => exact ⟨0, x, _, by omega, rfl, rfl, rfl, rfl, by show World.ownsRow _ _ _ _ _ _ _; simpa using hO, Below.refl _ _⟩
  case round =>
    obtain ⟨k, y, a0, hk, ha, rfl, rfl, hy', ho', hbel'⟩ := hrel
    have ha' := ha.symm
    clear ha
    subst ha'
    have ho := ho'.out
    have hbel := hbel'.out
    by_cases hlt : k < 4
    case neg =>
      obtain rfl : k = 4 := by omega
      obtain ⟨g, cap, rfl, -, -, -⟩ := own_block ho (by omega)
      go_wp2_with fail
      go_ret
      exact ⟨⟨g, cap, rfl, by simpa [w4] using ho⟩, hbel⟩
    have t1 : (k : Int) < 4 := by omega
    have y0 : 0 ≤ y ∧ y < 4294967296 := by
      rw [hy'.out]
      exact yq_in x k hx0 hx1
    have y1 : Int.tmod y 256 = y % 256 := Int.tmod_eq_emod_of_nonneg y0.1
    have y2 : Int.tdiv y 256 = y / 256 := Int.tdiv_eq_ediv_of_nonneg y0.1
    have y3 : IntKind.u32.wrap (y % 256) = y % 256 := wrapU _ (by omega)
    have y4 : IntKind.u32.wrap (y / 256) = y / 256 := wrapU _ (by omega)
    have y5 : IntKind.u8.wrap (y % 256) = y % 256 := by rw [wrapU8]; omega
    have ow1 := own_bel ho (belN1 (o1 := .cells #[.int .u8 (y % 256)] 5))
    have hsz : base ≤ (wr.alloc (.cells #[.int .u8 (y % 256)] 5)).heap.size := Nat.le_trans hb (Nat.le_trans hbel.size (belN1).size)
    go_wp2_with (at_builtin; (refine wpList_append_mine _ rfl _ _ 23 rfl base 5 ti _ 1 1 Try.underlying23 hi hi0 hi1 hi2 rfl (by decide) a0 (l + k) ((L ++ (w4 x).take k).map bv) rfl ow1 ⟨wr.heap.size, 0, none⟩ 1 1 [.int .u8 (y % 256)] rfl rfl (cells_ten (W := wr) [.int .u8 (y % 256)] 5) (by intro u hu; simp at hu; subst hu; rfl) (by decide) (by unfold maxLen; omega) (by omega) hsz ?_); intro g' cap' w' p1 p2 p3 p4 p5)
    go_roundw
    case rel =>
      refine ⟨k + 1, y / 256, _, by omega, rfl, rfl, by go_num, ?_, ?_, ?_⟩
      · show y / 256 = _
        rw [hy'.out, yq_next x k hlt]
      · show World.ownsRow _ _ _ _ _ _ _
        have hy := hy'.out
        have e1 : (L ++ (w4 x).take (k + 1)).map bv = (L ++ (w4 x).take k).map bv ++ [.int .u8 (y % 256)] := by
          rw [w4_take x k hlt, hy, ← List.append_assoc, List.map_append]; rfl
        rw [e1]
        exact p1
      · exact grown_bel (B := base) (hbel.alloc (Nat.le_trans hb hbel.size) _) p2 hb (fun q hq => (own_lt ho q hq).1)
    case measure => simp [intOf]; omega
end Go.Proofs.Ytahheagfgfpdmaa
