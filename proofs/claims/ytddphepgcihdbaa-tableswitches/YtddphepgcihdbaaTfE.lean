import Derived.Test.YtddphepgcihdbaaTfD
import Derived.Laws.ResultCell
import Derived.Test.YtddphepgcihdbaaTeA
namespace Go.Proofs.Ytddphepgcihdbaa
open Go.RowKit
set_option linter.unusedVariables false
set_option linter.unusedSimpArgs false

def set7 (w : World) (q : Nat) (x0 x1 x2 x3 x4 x5 x6 : Value) : World := ((((((w.setCell ⟨q, 0, none⟩ x0).setCell ⟨q, 1, none⟩ x1).setCell ⟨q, 2, none⟩ x2).setCell ⟨q, 3, none⟩ x3).setCell ⟨q, 4, none⟩ x4).setCell ⟨q, 5, none⟩ x5).setCell ⟨q, 6, none⟩ x6
theorem Md.far7 {w : World} {mb p q : Nat} {L : List Int} {a : Option Addr} {c : Nat} {T : Tv} {Z : Nat} (h : Md w mb p L a c T Z) (hq : mb < q) (x0 x1 x2 x3 x4 x5 x6 : Value) : Md (set7 w q x0 x1 x2 x3 x4 x5 x6) mb p L a c T Z :=
  ((((((h.far hq x0).far hq x1).far hq x2).far hq x3).far hq x4).far hq x5).far hq x6
theorem Only.set7 {S : Nat → Prop} {a w : World} (h : Only S a w) {q : Nat} (hq : a.heap.size ≤ q) (x0 x1 x2 x3 x4 x5 x6 : Value) : Only S a (set7 w q x0 x1 x2 x3 x4 x5 x6) :=
  ((((((h.set_new hq x0).set_new hq x1).set_new hq x2).set_new hq x3).set_new hq x4).set_new hq x5).set_new hq x6
theorem nm_len (r : Nat) (h : r < 8) : (nmF r).size ≤ 10 := by
  rcases (show r = 0 ∨ r = 1 ∨ r = 2 ∨ r = 3 ∨ r = 4 ∨ r = 5 ∨ r = 6 ∨ r = 7 by omega) with rfl | rfl | rfl | rfl | rfl | rfl | rfl | rfl <;> decide
/-- What a made week answers. -/
def WkP (n : Nat) (e : Ending) : Prop := ∃ (x0 x1 x2 x3 x4 x5 x6 : Int) (s : ByteArray), e = .returned (.tuple #[.agg #[.int .i64 x0, .int .i64 x1, .int .i64 x2, .int .i64 x3, .int .i64 x4, .int .i64 x5, .int .i64 x6], .string s]) ∧ s.size ≤ 77 ∧ 0 ≤ x0 ∧ x0 < (n : Int) ∧ 0 ≤ x1 ∧ x1 < (n : Int) ∧ 0 ≤ x2 ∧ x2 < (n : Int) ∧ 0 ≤ x3 ∧ x3 < (n : Int) ∧ 0 ≤ x4 ∧ x4 < (n : Int) ∧ 0 ≤ x5 ∧ x5 < (n : Int) ∧ 0 ≤ x6 ∧ x6 < (n : Int)
set_option maxRecDepth 100000 in
set_option maxHeartbeats 4000000 in
theorem week_made {w : World} {mb p : Nat} {L : List Int} {a : Option Addr} {c : Nat} {T : Tv} {Z : Nat} (h : Md w mb p L a c T Z) (n : Nat) (hn0 : 1 ≤ n) (hn8 : n ≤ 8) :
    Calls Try.prog 12 #[.pointer (some ⟨mb, 0, none⟩), .int .i64 (n : Int)] w fun e w' => WkP n e ∧ Md w' mb p L a c T Z ∧ Only (fun q => q = p) w w' := by
  have hml : mb < w.heap.size := by obtain ⟨_, _, h1, _, _⟩ := h.has; exact h1.1
  have hpl := h.lt
  have hM : Hid (Md w mb p L a c T Z) := h
  clear h
  go_enter Try.func12, Try.ntmps12
  go_wp2_with fail
  have HM : Hid (Md ((w.alloc (.cells #[.int .i64 0, .int .i64 0, .int .i64 0, .int .i64 0, .int .i64 0, .int .i64 0, .int .i64 0] 24)).alloc (.cells #[.int .i64 0, .int .i64 0, .int .i64 0, .int .i64 0, .int .i64 0, .int .i64 0, .int .i64 0] 24)) mb p L a c T Z) := (hM.out.below bel1).below bel1
  have HR : Hid (Has ((w.alloc (.cells #[.int .i64 0, .int .i64 0, .int .i64 0, .int .i64 0, .int .i64 0, .int .i64 0, .int .i64 0] 24)).alloc (.cells #[.int .i64 0, .int .i64 0, .int .i64 0, .int .i64 0, .int .i64 0, .int .i64 0, .int .i64 0] 24)) w.heap.size #[.int .i64 0, .int .i64 0, .int .i64 0, .int .i64 0, .int .i64 0, .int .i64 0, .int .i64 0]) := (Has.new _ _ _ rfl).alloc _
  have HX : Hid (Has ((w.alloc (.cells #[.int .i64 0, .int .i64 0, .int .i64 0, .int .i64 0, .int .i64 0, .int .i64 0, .int .i64 0] 24)).alloc (.cells #[.int .i64 0, .int .i64 0, .int .i64 0, .int .i64 0, .int .i64 0, .int .i64 0, .int .i64 0] 24)) (w.heap.size + 1) #[.int .i64 0, .int .i64 0, .int .i64 0, .int .i64 0, .int .i64 0, .int .i64 0, .int .i64 0]) := Has.new _ _ _ (by simp)
  have HO : Hid (Only (fun q => q = p) w ((w.alloc (.cells #[.int .i64 0, .int .i64 0, .int .i64 0, .int .i64 0, .int .i64 0, .int .i64 0, .int .i64 0] 24)).alloc (.cells #[.int .i64 0, .int .i64 0, .int .i64 0, .int .i64 0, .int .i64 0, .int .i64 0, .int .i64 0] 24))) := ((Only.refl _ w).alloc _).alloc _
  generalize ((w.alloc (.cells #[.int .i64 0, .int .i64 0, .int .i64 0, .int .i64 0, .int .i64 0, .int .i64 0, .int .i64 0] 24)).alloc (.cells #[.int .i64 0, .int .i64 0, .int .i64 0, .int .i64 0, .int .i64 0, .int .i64 0, .int .i64 0] 24)) = Y at *
  go_loopg [7, 8] 7 (fun gk s7 s8 wr => ∃ (k : Nat) (x0 x1 x2 x3 x4 x5 x6 : Int) (s : ByteArray), k + gk = 7 ∧ s8 = .int .i64 (k : Int) ∧ s7 = .string s ∧ s.size ≤ 11 * k ∧ Hid (0 ≤ x0 ∧ x0 < (n : Int) ∧ 0 ≤ x1 ∧ x1 < (n : Int) ∧ 0 ≤ x2 ∧ x2 < (n : Int) ∧ 0 ≤ x3 ∧ x3 < (n : Int) ∧ 0 ≤ x4 ∧ x4 < (n : Int) ∧ 0 ≤ x5 ∧ x5 < (n : Int) ∧ 0 ≤ x6 ∧ x6 < (n : Int)) ∧ Hid (Has wr (w.heap.size + 1) #[.int .i64 x0, .int .i64 x1, .int .i64 x2, .int .i64 x3, .int .i64 x4, .int .i64 x5, .int .i64 x6]) ∧ Hid (Has wr w.heap.size #[.int .i64 0, .int .i64 0, .int .i64 0, .int .i64 0, .int .i64 0, .int .i64 0, .int .i64 0]) ∧ Hid (Md wr mb p L a c T Z) ∧ Hid (Only (fun q => q = p) w wr))
  case atStart => exact ⟨0, 0, 0, 0, 0, 0, 0, 0, ⟨#[]⟩, by omega, rfl, rfl, by decide, (by show _ ∧ _; omega), HX, HR, HM, HO⟩
  case round =>
    clear HM HR HX HO hM
    obtain ⟨k, x0, x1, x2, x3, x4, x5, x6, s, hk, rfl, rfl, hs, hr, hx, hR, hM, hO⟩ := hrel
    by_cases hlt : k < 7
    · obtain ⟨i0, i1, i2⟩ := id hx.out
      have hpt := hM.out.ptr
      rcases (show k = 0 ∨ k = 1 ∨ k = 2 ∨ k = 3 ∨ k = 4 ∨ k = 5 ∨ k = 6 by omega) with rfl | rfl | rfl | rfl | rfl | rfl | rfl
      · go_wp2_with (first
          | (go_at_call 10; (with_reducible refine (hM.out.pick (n : Int) (by omega) (by omega)).mono ?_); rintro e w1 ⟨⟨r, rfl, hr0, hr1⟩, hM1, ho1⟩; obtain ⟨r, rfl⟩ : ∃ z : Nat, r = (z : Int) := ⟨r.toNat, by omega⟩; have hx1 := hx.out.only ho1 (by show ¬ _ = p; omega); have hR1 := hR.out.only ho1 (by show ¬ _ = p; omega); obtain ⟨y0, y1, y2⟩ := id hx1; clear i0 i1 i2)
          | (go_at_call 14; (with_reducible refine (name_any r (by omega) _).mono ?_); rintro e w2 ⟨rfl, hb2⟩; have hl := nm_len r (by omega)))
        have hx2 := hx1.set 0 (by simp) (.int .i64 (r : Int))
        simp only [List.setIfInBounds_toArray, List.set_cons_succ, List.set_cons_zero] at hx2
        go_roundg (gk - 1)
        case measure => go_light; omega
        case rel => exact ⟨1, (r : Int), x1, x2, x3, x4, x5, x6, s ++ ⟨#[32]⟩ ++ nmF r, by omega, by go_num, rfl, (by simp only [ByteArray.size_append, bsz, List.size_toArray, List.length_cons, List.length_nil]; omega), (by have := hr.out; show _ ∧ _; omega), hx2.below hb2, (hR1.far (by omega) _).below hb2, (hM1.far (by omega) _).below hb2, ((hO.out.trans ho1).set_new (by omega) _).below hb2⟩
      · go_wp2_with (first
          | (go_at_call 10; (with_reducible refine (hM.out.pick (n : Int) (by omega) (by omega)).mono ?_); rintro e w1 ⟨⟨r, rfl, hr0, hr1⟩, hM1, ho1⟩; obtain ⟨r, rfl⟩ : ∃ z : Nat, r = (z : Int) := ⟨r.toNat, by omega⟩; have hx1 := hx.out.only ho1 (by show ¬ _ = p; omega); have hR1 := hR.out.only ho1 (by show ¬ _ = p; omega); obtain ⟨y0, y1, y2⟩ := id hx1; clear i0 i1 i2)
          | (go_at_call 14; (with_reducible refine (name_any r (by omega) _).mono ?_); rintro e w2 ⟨rfl, hb2⟩; have hl := nm_len r (by omega)))
        have hx2 := hx1.set 1 (by simp) (.int .i64 (r : Int))
        simp only [List.setIfInBounds_toArray, List.set_cons_succ, List.set_cons_zero] at hx2
        go_roundg (gk - 1)
        case measure => go_light; omega
        case rel => exact ⟨2, x0, (r : Int), x2, x3, x4, x5, x6, s ++ ⟨#[32]⟩ ++ nmF r, by omega, by go_num, rfl, (by simp only [ByteArray.size_append, bsz, List.size_toArray, List.length_cons, List.length_nil]; omega), (by have := hr.out; show _ ∧ _; omega), hx2.below hb2, (hR1.far (by omega) _).below hb2, (hM1.far (by omega) _).below hb2, ((hO.out.trans ho1).set_new (by omega) _).below hb2⟩
      · go_wp2_with (first
          | (go_at_call 10; (with_reducible refine (hM.out.pick (n : Int) (by omega) (by omega)).mono ?_); rintro e w1 ⟨⟨r, rfl, hr0, hr1⟩, hM1, ho1⟩; obtain ⟨r, rfl⟩ : ∃ z : Nat, r = (z : Int) := ⟨r.toNat, by omega⟩; have hx1 := hx.out.only ho1 (by show ¬ _ = p; omega); have hR1 := hR.out.only ho1 (by show ¬ _ = p; omega); obtain ⟨y0, y1, y2⟩ := id hx1; clear i0 i1 i2)
          | (go_at_call 14; (with_reducible refine (name_any r (by omega) _).mono ?_); rintro e w2 ⟨rfl, hb2⟩; have hl := nm_len r (by omega)))
        have hx2 := hx1.set 2 (by simp) (.int .i64 (r : Int))
        simp only [List.setIfInBounds_toArray, List.set_cons_succ, List.set_cons_zero] at hx2
        go_roundg (gk - 1)
        case measure => go_light; omega
        case rel => exact ⟨3, x0, x1, (r : Int), x3, x4, x5, x6, s ++ ⟨#[32]⟩ ++ nmF r, by omega, by go_num, rfl, (by simp only [ByteArray.size_append, bsz, List.size_toArray, List.length_cons, List.length_nil]; omega), (by have := hr.out; show _ ∧ _; omega), hx2.below hb2, (hR1.far (by omega) _).below hb2, (hM1.far (by omega) _).below hb2, ((hO.out.trans ho1).set_new (by omega) _).below hb2⟩
      · go_wp2_with (first
          | (go_at_call 10; (with_reducible refine (hM.out.pick (n : Int) (by omega) (by omega)).mono ?_); rintro e w1 ⟨⟨r, rfl, hr0, hr1⟩, hM1, ho1⟩; obtain ⟨r, rfl⟩ : ∃ z : Nat, r = (z : Int) := ⟨r.toNat, by omega⟩; have hx1 := hx.out.only ho1 (by show ¬ _ = p; omega); have hR1 := hR.out.only ho1 (by show ¬ _ = p; omega); obtain ⟨y0, y1, y2⟩ := id hx1; clear i0 i1 i2)
          | (go_at_call 14; (with_reducible refine (name_any r (by omega) _).mono ?_); rintro e w2 ⟨rfl, hb2⟩; have hl := nm_len r (by omega)))
        have hx2 := hx1.set 3 (by simp) (.int .i64 (r : Int))
        simp only [List.setIfInBounds_toArray, List.set_cons_succ, List.set_cons_zero] at hx2
        go_roundg (gk - 1)
        case measure => go_light; omega
        case rel => exact ⟨4, x0, x1, x2, (r : Int), x4, x5, x6, s ++ ⟨#[32]⟩ ++ nmF r, by omega, by go_num, rfl, (by simp only [ByteArray.size_append, bsz, List.size_toArray, List.length_cons, List.length_nil]; omega), (by have := hr.out; show _ ∧ _; omega), hx2.below hb2, (hR1.far (by omega) _).below hb2, (hM1.far (by omega) _).below hb2, ((hO.out.trans ho1).set_new (by omega) _).below hb2⟩
      · go_wp2_with (first
          | (go_at_call 10; (with_reducible refine (hM.out.pick (n : Int) (by omega) (by omega)).mono ?_); rintro e w1 ⟨⟨r, rfl, hr0, hr1⟩, hM1, ho1⟩; obtain ⟨r, rfl⟩ : ∃ z : Nat, r = (z : Int) := ⟨r.toNat, by omega⟩; have hx1 := hx.out.only ho1 (by show ¬ _ = p; omega); have hR1 := hR.out.only ho1 (by show ¬ _ = p; omega); obtain ⟨y0, y1, y2⟩ := id hx1; clear i0 i1 i2)
          | (go_at_call 14; (with_reducible refine (name_any r (by omega) _).mono ?_); rintro e w2 ⟨rfl, hb2⟩; have hl := nm_len r (by omega)))
        have hx2 := hx1.set 4 (by simp) (.int .i64 (r : Int))
        simp only [List.setIfInBounds_toArray, List.set_cons_succ, List.set_cons_zero] at hx2
        go_roundg (gk - 1)
        case measure => go_light; omega
        case rel => exact ⟨5, x0, x1, x2, x3, (r : Int), x5, x6, s ++ ⟨#[32]⟩ ++ nmF r, by omega, by go_num, rfl, (by simp only [ByteArray.size_append, bsz, List.size_toArray, List.length_cons, List.length_nil]; omega), (by have := hr.out; show _ ∧ _; omega), hx2.below hb2, (hR1.far (by omega) _).below hb2, (hM1.far (by omega) _).below hb2, ((hO.out.trans ho1).set_new (by omega) _).below hb2⟩
      · go_wp2_with (first
          | (go_at_call 10; (with_reducible refine (hM.out.pick (n : Int) (by omega) (by omega)).mono ?_); rintro e w1 ⟨⟨r, rfl, hr0, hr1⟩, hM1, ho1⟩; obtain ⟨r, rfl⟩ : ∃ z : Nat, r = (z : Int) := ⟨r.toNat, by omega⟩; have hx1 := hx.out.only ho1 (by show ¬ _ = p; omega); have hR1 := hR.out.only ho1 (by show ¬ _ = p; omega); obtain ⟨y0, y1, y2⟩ := id hx1; clear i0 i1 i2)
          | (go_at_call 14; (with_reducible refine (name_any r (by omega) _).mono ?_); rintro e w2 ⟨rfl, hb2⟩; have hl := nm_len r (by omega)))
        have hx2 := hx1.set 5 (by simp) (.int .i64 (r : Int))
        simp only [List.setIfInBounds_toArray, List.set_cons_succ, List.set_cons_zero] at hx2
        go_roundg (gk - 1)
        case measure => go_light; omega
        case rel => exact ⟨6, x0, x1, x2, x3, x4, (r : Int), x6, s ++ ⟨#[32]⟩ ++ nmF r, by omega, by go_num, rfl, (by simp only [ByteArray.size_append, bsz, List.size_toArray, List.length_cons, List.length_nil]; omega), (by have := hr.out; show _ ∧ _; omega), hx2.below hb2, (hR1.far (by omega) _).below hb2, (hM1.far (by omega) _).below hb2, ((hO.out.trans ho1).set_new (by omega) _).below hb2⟩
      · go_wp2_with (first
          | (go_at_call 10; (with_reducible refine (hM.out.pick (n : Int) (by omega) (by omega)).mono ?_); rintro e w1 ⟨⟨r, rfl, hr0, hr1⟩, hM1, ho1⟩; obtain ⟨r, rfl⟩ : ∃ z : Nat, r = (z : Int) := ⟨r.toNat, by omega⟩; have hx1 := hx.out.only ho1 (by show ¬ _ = p; omega); have hR1 := hR.out.only ho1 (by show ¬ _ = p; omega); obtain ⟨y0, y1, y2⟩ := id hx1; clear i0 i1 i2)
          | (go_at_call 14; (with_reducible refine (name_any r (by omega) _).mono ?_); rintro e w2 ⟨rfl, hb2⟩; have hl := nm_len r (by omega)))
        have hx2 := hx1.set 6 (by simp) (.int .i64 (r : Int))
        simp only [List.setIfInBounds_toArray, List.set_cons_succ, List.set_cons_zero] at hx2
        go_roundg (gk - 1)
        case measure => go_light; omega
        case rel => exact ⟨7, x0, x1, x2, x3, x4, x5, (r : Int), s ++ ⟨#[32]⟩ ++ nmF r, by omega, by go_num, rfl, (by simp only [ByteArray.size_append, bsz, List.size_toArray, List.length_cons, List.length_nil]; omega), (by have := hr.out; show _ ∧ _; omega), hx2.below hb2, (hR1.far (by omega) _).below hb2, (hM1.far (by omega) _).below hb2, ((hO.out.trans ho1).set_new (by omega) _).below hb2⟩
    · obtain rfl : k = 7 := by omega
      obtain ⟨i0, i1, i2⟩ := id hx.out
      obtain ⟨j0, j1, j2⟩ := id hR.out
      go_wp2_with fail
      (try simp only [Exit.inBlock, Exit.then])
      refine bodyPost_ret (v := .tuple #[.agg #[.int .i64 x0, .int .i64 x1, .int .i64 x2, .int .i64 x3, .int .i64 x4, .int .i64 x5, .int .i64 x6], .string s]) ?_ rfl ⟨⟨x0, x1, x2, x3, x4, x5, x6, s, rfl, by omega, hr.out⟩, hM.out.far7 (by omega) _ _ _ _ _ _ _, hO.out.set7 (Nat.le_refl _) _ _ _ _ _ _ _⟩
      rw [results_cell_tmp rfl]
      go_simp
/-- What a made date answers. -/
def DaP (e : Ending) : Prop := ∃ (n : Int) (s : ByteArray), e = .returned (.tuple #[.int .i64 n, .string s]) ∧ 0 ≤ n ∧ n ≤ 146096 ∧ s.size = 10
set_option maxRecDepth 100000 in
set_option maxHeartbeats 4000000 in
theorem date_made {w : World} {mb p : Nat} {L : List Int} {a : Option Addr} {c : Nat} {T : Tv} {Z : Nat} (h : Md w mb p L a c T Z) :
    Calls Try.prog 13 #[.pointer (some ⟨mb, 0, none⟩)] w fun e w' => DaP e ∧ Md w' mb p L a c T Z ∧ Only (fun q => q = p) w w' := by
  have hpl := h.lt
  have hpt := h.ptr
  have hM : Hid (Md w mb p L a c T Z) := h
  clear h
  go_enter Try.func13, Try.ntmps13
  go_wp2_with (first
    | (go_at_call 10; (with_reducible refine (hM.out.pick 400 (by decide) (by decide)).mono ?_); rintro e w1 ⟨⟨r, rfl, hr0, hr1⟩, hM1, ho1⟩; obtain ⟨Y, rfl⟩ : ∃ z : Nat, r = (z : Int) := ⟨r.toNat, by omega⟩; have hpt1 := hM1.ptr)
    | (go_at_call 10; (with_reducible refine (hM1.pick 12 (by decide) (by decide)).mono ?_); rintro e w2 ⟨⟨r, rfl, hs0, hs1⟩, hM2, ho2⟩; obtain ⟨M, rfl⟩ : ∃ z : Nat, r = (z : Int) := ⟨r.toNat, by omega⟩; have hpt2 := hM2.ptr; have hO2 := ho1.trans ho2))
  refine wp_region_noPanic ?_
  refine wp_region_held_drew (S := fun w' => w'.cell? ⟨mb, 13, none⟩ = some (.pointer (some ⟨p, 0, none⟩)) ∧ Hid (Md w' mb p L a c T Z) ∧ Hid (Only (fun q => q = p) w w')) (by kernel_rfl) ?_ (fun hHeld => ?_)
  · (try dsimp only)
    exact ⟨hpt2, hM2.below ((Below.refl _ _).drew), hO2.drew⟩
  refine wpAnyH_take (i := 0) (oi := { dst := some 22, op := Op.move (Operand.tmp 0), type := 42, pos := "outright.go:100", after := #[], guard := none }) (v := ?_) rfl (by kernel_rfl) (by kernel_rfl) (by kernel_rfl) (fun _ _ _ h => h) (Or.inl ⟨by rfl, ?_⟩) (by assumption) ?_
  rotate_left
  · intro wz hSz; (try dsimp only at hSz); go_simp; all_goals (with_reducible rfl)
  (try simp only [Act.put, List.setIfInBounds_toArray, List.set_cons_zero, List.set_cons_succ])
  refine wpAnyH_take (i := 1) (oi := { dst := some 23, op := Op.nilCheck (Operand.tmp 22), type := 0, pos := "outright.go:100", after := #[{ on := 0, ground := Ground.data }], guard := none }) (v := ?_) rfl (by kernel_rfl) (by kernel_rfl) (by kernel_rfl) (fun _ _ _ h => h) (Or.inl ⟨by rfl, ?_⟩) (by assumption) ?_
  rotate_left
  · intro wz hSz; (try dsimp only at hSz); go_simp; all_goals (with_reducible rfl)
  (try simp only [Act.put, List.setIfInBounds_toArray, List.set_cons_zero, List.set_cons_succ])
  refine wpAnyH_take (i := 2) (oi := { dst := some 24, op := Op.fieldAddr 47 (Operand.tmp 23) 2, type := 0, pos := "outright.go:100", after := #[{ on := 1, ground := Ground.data }], guard := none }) (v := ?_) rfl (by kernel_rfl) (by kernel_rfl) (by kernel_rfl) (fun _ _ _ h => h) (Or.inl ⟨by rfl, ?_⟩) (by assumption) ?_
  rotate_left
  · intro wz hSz; (try dsimp only at hSz); go_simp; all_goals (with_reducible rfl)
  (try simp only [Act.put, List.setIfInBounds_toArray, List.set_cons_zero, List.set_cons_succ])
  refine wpAnyH_take (i := 3) (oi := { dst := some 25, op := Op.load 43 (Operand.tmp 24), type := 43, pos := "outright.go:100", after := #[{ on := 2, ground := Ground.data }], guard := none }) (v := ?_) rfl (by kernel_rfl) (by kernel_rfl) (by kernel_rfl) (fun _ _ _ h => h) (Or.inl ⟨by rfl, ?_⟩) (by assumption) ?_
  rotate_left
  · intro wz hSz; (try dsimp only at hSz); go_simp; all_goals (with_reducible rfl)
  (try simp only [Act.put, List.setIfInBounds_toArray, List.set_cons_zero, List.set_cons_succ])
  refine wpAnyH_take (i := 4) (oi := { dst := some 26, op := Op.move (Operand.tmp 4), type := 3, pos := "outright.go:100", after := #[], guard := none }) (v := ?_) rfl (by kernel_rfl) (by kernel_rfl) (by kernel_rfl) (fun _ _ _ h => h) (Or.inl ⟨by rfl, ?_⟩) (by assumption) ?_
  rotate_left
  · intro wz hSz; (try dsimp only at hSz); go_simp; all_goals (with_reducible rfl)
  (try simp only [Act.put, List.setIfInBounds_toArray, List.set_cons_zero, List.set_cons_succ])
  refine wpAnyH_take (i := 5) (oi := { dst := some 27, op := Op.move (Operand.tmp 5), type := 3, pos := "outright.go:100", after := #[], guard := none }) (v := ?_) rfl (by kernel_rfl) (by kernel_rfl) (by kernel_rfl) (fun _ _ _ h => h) (Or.inl ⟨by rfl, ?_⟩) (by assumption) ?_
  rotate_left
  · intro wz hSz; (try dsimp only at hSz); go_simp; all_goals (with_reducible rfl)
  (try simp only [Act.put, List.setIfInBounds_toArray, List.set_cons_zero, List.set_cons_succ])
  refine wpAnyH_ready (rs := [6]) (by kernel_rfl) (by simp) ?_
  refine AllReadyH.cons (o := { dst := some 28, op := Op.call { callee := Callee.value (Operand.func 25), args := #[Operand.tmp 26, Operand.tmp 27], argTypes := #[3, 3] }, type := 3, pos := "outright.go:100", after := #[{ on := 4, ground := Ground.data }, { on := 5, ground := Ground.data }], guard := none }) rfl (fun K hK => ?_) AllReadyH.nil
  go_simp
  go_at_call 25
  (with_reducible refine (month_any (2000 + (Y : Int)) (1 + (M : Int)) _ (by omega) (by omega) (by omega) (by omega)).mono ?_)
  rintro e w3 ⟨⟨dm, rfl, hdm⟩, hb3⟩
  have dm0 : 28 ≤ dm := by rw [hdm]; exact (md_bounds _ _).1
  have dm1 : dm ≤ 31 := by rw [hdm]; exact (md_bounds _ _).2
  have hdm' : Hid (dm = md (2000 + (Y : Int)) (1 + (M : Int))) := hdm
  clear hdm
  go_wp2_with fail
  refine hK.out _ _ ?_ (fun hHeld => ?_)
  · (try dsimp only)
    exact ⟨(hHeld.2.1.out.below hb3).ptr, hHeld.2.1.out.below hb3, hHeld.2.2.out.below hb3⟩
  clear hK K
  (try simp only [Act.put, List.setIfInBounds_toArray, List.set_cons_zero, List.set_cons_succ])
  refine wpAnyH_ready (rs := [7]) (by kernel_rfl) (by simp) ?_
  refine AllReadyH.cons (o := { dst := some 29, op := Op.call { callee := Callee.value (Operand.func 10), args := #[Operand.tmp 25, Operand.tmp 28], argTypes := #[43, 3] }, type := 3, pos := "outright.go:100", after := #[{ on := 3, ground := Ground.data }, { on := 6, ground := Ground.data }, { on := 6, ground := Ground.chain }], guard := none }) rfl (fun K hK => ?_) AllReadyH.nil
  go_simp
  go_at_call 10
  (with_reducible refine (hHeld.2.1.out.pick dm (by omega) (by omega)).mono ?_)
  rintro e w4 ⟨⟨d, rfl, d0, d1⟩, hM4, ho4⟩
  go_wp2_with fail
  refine hK.out _ _ ?_ (fun hHeld => ?_)
  · (try dsimp only)
    exact ⟨hM4.ptr, hM4, hHeld.2.2.out.trans ho4⟩
  clear hK K
  (try simp only [Act.put, List.setIfInBounds_toArray, List.set_cons_zero, List.set_cons_succ])
  refine wpAnyH_take (i := 8) (oi := { dst := some 30, op := Op.binOp BinOp.add 3 (Operand.const (Value.int IntKind.i64 1)) (Operand.tmp 29) 3, type := 3, pos := "outright.go:100", after := #[{ on := 7, ground := Ground.data }], guard := none }) (v := ?_) rfl (by kernel_rfl) (by kernel_rfl) (by kernel_rfl) (fun _ _ _ h => h) (Or.inl ⟨by rfl, ?_⟩) (by assumption) ?_
  rotate_left
  · intro wz hSz; (try dsimp only at hSz); go_simp; all_goals (with_reducible rfl)
  (try simp only [Act.put, List.setIfInBounds_toArray, List.set_cons_zero, List.set_cons_succ])
  refine wpAnyH_take (i := 9) (oi := { dst := some 6, op := Op.assign (Operand.tmp 30), type := 3, pos := "outright.go:100", after := #[{ on := 8, ground := Ground.data }, { on := 7, ground := Ground.chain }, { on := 0, ground := Ground.phase }, { on := 1, ground := Ground.phase }, { on := 2, ground := Ground.phase }, { on := 3, ground := Ground.phase }, { on := 4, ground := Ground.phase }, { on := 5, ground := Ground.phase }, { on := 6, ground := Ground.phase }, { on := 7, ground := Ground.phase }, { on := 8, ground := Ground.phase }], guard := none }) (v := ?_) rfl (by kernel_rfl) (by kernel_rfl) (by kernel_rfl) (fun _ _ _ h => h) (Or.inl ⟨by rfl, ?_⟩) (by assumption) ?_
  rotate_left
  · intro wz hSz; (try dsimp only at hSz); go_simp; all_goals (with_reducible rfl)
  (try simp only [Act.put, List.setIfInBounds_toArray, List.set_cons_zero, List.set_cons_succ])
  refine wpAnyH_done (by kernel_rfl) ?_ _
  refine NoPanic.normal ?_
  obtain ⟨_, hM5, hO5⟩ := hHeld
  clear hM hpt hM1 ho1 hpt1 hM2 ho2 hpt2 hO2 hM4 ho4
  go_wp2_with fail
  go_loopg [7, 8] Y (fun gk s7 s8 wr => ∃ (k : Nat) (m : Int), k + gk = Y ∧ s8 = .int .i64 (2000 + (k : Int)) ∧ s7 = .int .i64 m ∧ 0 ≤ m ∧ m ≤ 368 * (k : Int) ∧ Hid (m = ny (2000 + (k : Int))) ∧ Hid (Md wr mb p L a c T Z) ∧ Hid (Only (fun q => q = p) w wr))
  case atStart => exact ⟨0, 0, by omega, by simp, rfl, by omega, by omega, (by show (0 : Int) = _; rfl), hM5, hO5⟩
  case round =>
    clear hM5 hO5
    obtain ⟨k, m, hk, rfl, rfl, hm0, hm1, hme, hM5, hO5⟩ := hrel
    by_cases hlt : k < Y
    · have t1 : (2000 : Int) + (k : Int) < 2000 + (Y : Int) := by omega
      have t2 : (k : Int) < (Y : Int) := by omega
      go_wp2_with (go_at_call 25; (with_reducible refine (month_any (2000 + (k : Int)) 2 _ (by omega) (by omega) (by omega) (by omega)).mono ?_); rintro e w6 ⟨⟨dq, rfl, hdq0⟩, hb6⟩; have dq0 : 28 ≤ dq ∧ dq ≤ 31 := (by rw [hdq0]; exact md_bounds _ _); have hdq : Hid (dq = md (2000 + (k : Int)) 2) := hdq0; clear hdq0)
      have hme2 : Hid (m + 337 + dq = ny (2000 + ((k + 1 : Nat) : Int))) := by
        show _ = _
        rw [show (2000 + ((k + 1 : Nat) : Int)) = (2000 + (k : Int)) + 1 by omega, ny_feb _ (by omega), hme.out, hdq.out]
      clear hdq hme
      go_roundg (gk - 1)
      case measure => go_light; omega
      case rel => exact ⟨k + 1, m + 337 + dq, by omega, by go_num, rfl, by omega, by omega, hme2, hM5.out.below hb6, hO5.out.below hb6⟩
    · obtain rfl : k = Y := by omega
      have t1 : ¬ (2000 : Int) + (k : Int) < 2000 + (k : Int) := by omega
      go_wp2_with fail
      go_loopg [7, 9] M (fun gk s7 s9 wr => ∃ (j : Nat) (m2 : Int), j + gk = M ∧ s9 = .int .i64 (1 + (j : Int)) ∧ s7 = .int .i64 m2 ∧ 0 ≤ m2 ∧ m2 ≤ 368 * (k : Int) + 31 * (j : Int) ∧ Hid (m2 = ny (2000 + (k : Int)) + sm (2000 + (k : Int)) j) ∧ Hid (Md wr mb p L a c T Z) ∧ Hid (Only (fun q => q = p) w wr))
      case atStart => exact ⟨0, m, by omega, by simp, rfl, by omega, by omega, (by show m = _; rw [hme.out]; simp [sm]), hM5, hO5⟩
      case round =>
        clear hM5 hO5
        obtain ⟨j, m2, hj, rfl, rfl, hj0, hj1, hje, hM5, hO5⟩ := hrel
        by_cases hlt2 : j < M
        · have t3 : (1 : Int) + (j : Int) < 1 + (M : Int) := by omega
          have t2 : (j : Int) < (M : Int) := by omega
          go_wp2_with (go_at_call 25; (with_reducible refine (month_any (2000 + (k : Int)) (1 + (j : Int)) _ (by omega) (by omega) (by omega) (by omega)).mono ?_); rintro e w6 ⟨⟨dq, rfl, hdq0⟩, hb6⟩; have dq0 : 28 ≤ dq ∧ dq ≤ 31 := (by rw [hdq0]; exact md_bounds _ _); have hdq : Hid (dq = md (2000 + (k : Int)) (1 + (j : Int))) := hdq0; clear hdq0)
          have hje2 : Hid (m2 + dq = ny (2000 + (k : Int)) + sm (2000 + (k : Int)) (j + 1)) := by
            show _ = _
            rw [sm, hje.out, hdq.out, Int.add_comm (j : Int) 1]
            omega
          clear hdq hje
          go_roundg (gk - 1)
          case measure => go_light; omega
          case rel => exact ⟨j + 1, m2 + dq, by omega, by go_num, rfl, by omega, by omega, hje2, hM5.out.below hb6, hO5.out.below hb6⟩
        · obtain rfl : j = M := by omega
          have t3 : ¬ (1 : Int) + (j : Int) < 1 + (j : Int) := by omega
          have hend : Hid (0 ≤ m2 + (1 + d) - 1 ∧ m2 + (1 + d) - 1 ≤ 146096) := by
            show _ ∧ _
            rw [hje.out]
            exact ny_end _ _ _ (by omega) (by omega) (by omega) d0 (by rw [← hdm'.out]; exact d1)
          clear hje hme hdm'
          have a1 : 0 ≤ (2000 + (k : Int)) / 100 ∧ (2000 + (k : Int)) / 100 ≤ 99 := by omega
          have a2 : 0 ≤ (2000 + (k : Int)) % 100 ∧ (2000 + (k : Int)) % 100 ≤ 99 := by omega
          have c1 := fun W => two_len ((2000 + (k : Int)) / 100) W a1.1 a1.2
          have c2 := fun W => two_len ((2000 + (k : Int)) % 100) W a2.1 a2.2
          have c3 := fun W => two_len (1 + (j : Int)) W (by omega) (by omega)
          have c4 := fun W => two_len (1 + d) W (by omega) (by omega)
          go_wp2_with (first
            | (go_at_call 26; (with_reducible refine (c1 _).mono ?_); rintro e v1 ⟨⟨s1, rfl, z1⟩, b1⟩; clear c1)
            | (go_at_call 26; (with_reducible refine (c2 _).mono ?_); rintro e v2 ⟨⟨s2, rfl, z2⟩, b2⟩; clear c2)
            | (go_at_call 26; (with_reducible refine (c3 _).mono ?_); rintro e v3 ⟨⟨s3, rfl, z3⟩, b3⟩; clear c3)
            | (go_at_call 26; (with_reducible refine (c4 _).mono ?_); rintro e v4 ⟨⟨s4, rfl, z4⟩, b4⟩; clear c4))
          go_ret2
          have hB := belT (belT (belT b1 b2) b3) b4
          have hend' := hend.out
          exact ⟨⟨_, _, rfl, by omega, by omega, (by simp only [ByteArray.size_append, bsz, List.size_toArray, List.length_cons, List.length_nil]; omega)⟩, hM5.out.below hB, hO5.out.below hB⟩
/-- Rows that rise, all ahead of a minute. -/
def roB (at' : Int) (R : List Rw) : Prop := (∀ x ∈ R, 0 ≤ x.m ∧ x.m < at' ∧ x.m ≤ 1439 ∧ -1 ≤ x.s ∧ x.s ≤ 7) ∧ R.Pairwise (fun x y => x.m < y.m)
theorem roB.nil (z : Int) : roB z [] := ⟨fun x hx => by simp at hx, List.Pairwise.nil⟩
theorem roB.snoc {z z' s : Int} {R : List Rw} (h : roB z R) (h0 : 0 ≤ z) (h1 : z ≤ 1439) (hz : z < z') (hs0 : -1 ≤ s) (hs1 : s ≤ 7) : roB z' (R ++ [⟨z, s⟩]) := by
  refine ⟨fun x hx => ?_, ?_⟩
  · rcases List.mem_append.1 hx with hx | hx
    · have := h.1 x hx; omega
    · simp at hx; subst hx; dsimp only; omega
  · rw [List.pairwise_append]
    refine ⟨h.2, List.pairwise_singleton _ _, fun x hx y hy => ?_⟩
    simp at hy; subst hy; exact (h.1 x hx).2.1
/-- The kinds made so far, in blocks from B on. -/
structure Dn (w : World) (B : Nat) (vd : Value) (D : List Dk) : Prop where
  own : w.ownsRow B 72 2 vd D.length (cellsF Dk.cs D)
  rows : ∀ x ∈ D, w.ownsRow B 74 2 x.rv x.rows.length (cellsF Rw.cs x.rows)
  ap : ∀ x ∈ D, ∀ g, x.rv.ownBlock = some g → vd.ownBlock ≠ some g
  nm : ∀ i (h : i < D.length), D[i].name = nmF i
  ok : ∀ x ∈ D, 0 < x.rows.length ∧ x.rows.length ≤ 6 ∧ roB 1440 x.rows
theorem Dn.only {S : Nat → Prop} {w w' : World} {B : Nat} {vd : Value} {D : List Dk} (h : Dn w B vd D) (ho : Only S w w') (hb : ∀ k, B ≤ k → ¬ S k) : Dn w' B vd D :=
  ⟨own_only h.own ho hb, fun x hx => own_only (h.rows x hx) ho hb, h.ap, h.nm, h.ok⟩
theorem Dn.below {w w' : World} {B : Nat} {vd : Value} {D : List Dk} (h : Dn w B vd D) (hb : Below w.heap.size w w') : Dn w' B vd D :=
  h.only (Only.of_below (S := fun _ => False) hb) (fun _ _ h => h)
theorem Dn.nil (w : World) (B : Nat) : Dn w B (.slice none 0 0) [] := ⟨World.ownsRow_nil _ _ _ _, fun x hx => by simp at hx, fun x hx => by simp at hx, fun i h => by simp at h, fun x hx => by simp at hx⟩
theorem Only.grown {S : Nat → Prop} {a w w' : World} {row : Option Nat} (h : Only S a w) (hg : w.grownBy w' row) (hr : ∀ q, row = some q → a.heap.size ≤ q) : Only S a w' :=
  ⟨hg.os.trans h.os, hg.tape.trans h.tape, hg.output.trans h.output, Nat.le_trans h.size hg.size, fun k hk hn => (hg.block k (Nat.lt_of_lt_of_le hk h.size) (fun e => by have := hr k e.symm; omega)).trans (h.block k hk hn)⟩
/-- A kind more. -/
theorem Dn.push {w w' : World} {B : Nat} {vd : Value} {D : List Dk} (h : Dn w B vd D) (x : Dk) (hx : w.ownsRow B 74 2 x.rv x.rows.length (cellsF Rw.cs x.rows)) (ha : ∀ g, x.rv.ownBlock = some g → vd.ownBlock ≠ some g) (hn : x.name = nmF D.length) (hk : 0 < x.rows.length ∧ x.rows.length ≤ 6 ∧ roB 1440 x.rows)
    (hg : w.grownBy w' vd.ownBlock) {g' cap' n : Nat} (hl : n = D.length + 1) (hat : vd.ownBlock = some g' ∨ w.heap.size ≤ g') (own' : w'.ownsRow B 72 2 (.slice (some ⟨g', 0, none⟩) n cap') n (cellsF Dk.cs D ++ x.cs)) :
    Dn w' B (.slice (some ⟨g', 0, none⟩) n cap') (D ++ [x]) := by
  subst hl
  have e : cellsF Dk.cs (D ++ [x]) = cellsF Dk.cs D ++ x.cs := by rw [cellsF_append]; simp [cellsF]
  have far : ∀ y : Dk, w.ownsRow B 74 2 y.rv y.rows.length (cellsF Rw.cs y.rows) → (∀ g, y.rv.ownBlock = some g → vd.ownBlock ≠ some g) → ∀ g, y.rv.ownBlock = some g → (Value.slice (some ⟨g', 0, none⟩) (D.length + 1) cap').ownBlock ≠ some g := by
    intro y hy hya g hgv e'
    have e2 : g' = g := by injection e'
    rcases hat with h1 | h1
    · exact hya g hgv (by rw [h1, e2])
    · have := (own_lt hy g hgv).2; omega
  refine ⟨by rw [e]; simpa using own', ?_, ?_, ?_, ?_⟩
  · intro y hy
    rcases List.mem_append.1 hy with hy | hy
    · exact own_grown (h.rows y hy) hg (h.ap y hy)
    · simp at hy; subst hy; exact own_grown hx hg ha
  · intro y hy
    rcases List.mem_append.1 hy with hy | hy
    · exact far y (h.rows y hy) (h.ap y hy)
    · simp at hy; subst hy; exact far _ hx ha
  · intro i hi
    by_cases hlt : i < D.length
    · rw [List.getElem_append_left hlt]; exact h.nm i hlt
    · have : i = D.length := by simp at hi; omega
      subst this
      simp [hn]
  · intro y hy
    rcases List.mem_append.1 hy with hy | hy
    · exact h.ok y hy
    · simp at hy; subst hy; exact hk
theorem Has.days {w : World} {mb p : Nat} {T : Tv} {s b : ByteArray} (h : Has w mb (T.cs s b p)) (v : Value) : Has (w.setCell ⟨mb, 1, none⟩ v) mb (({ T with d := v } : Tv).cs s b p) := by
  have := h.set 1 (by simp [Tv.cs]) v
  simpa [Tv.cs] using this
theorem Md.days {w : World} {mb p : Nat} {L : List Int} {a : Option Addr} {c : Nat} {T : Tv} {Z : Nat} (h : Md w mb p L a c T Z) (v : Value) : Md (w.setCell ⟨mb, 1, none⟩ v) mb p L a c { T with d := v } Z := by
  obtain ⟨s, b, h1, h2, h3⟩ := h.has
  obtain ⟨k, hk⟩ := h.pk
  exact ⟨⟨s, b, h1.days v, h2, h3⟩, ⟨k, hk.set h.lt (Nat.le_refl _) h.ga v⟩, h.lt, h.ga⟩
theorem Md.day {w : World} {mb p : Nat} {L : List Int} {a : Option Addr} {c : Nat} {T : Tv} {Z : Nat} (h : Md w mb p L a c T Z) : w.cell? ⟨mb, 1, none⟩ = some T.d ∧ w.frozen? ⟨mb, 1, none⟩ = false := by
  obtain ⟨s, b, h1, _, _⟩ := h.has
  exact ⟨h1.2.1 1, h1.2.2 1⟩
theorem Md.size {w : World} {mb p : Nat} {L : List Int} {a : Option Addr} {c : Nat} {T : Tv} {Z : Nat} (h : Md w mb p L a c T Z) : mb < w.heap.size := by
  obtain ⟨s, b, h1, _, _⟩ := h.has
  exact h1.1
end Go.Proofs.Ytddphepgcihdbaa
