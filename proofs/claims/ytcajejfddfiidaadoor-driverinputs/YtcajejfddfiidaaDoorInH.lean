import Derived.Shelf.Strconv.ToError
import Derived.Shelf.Strconv.ToErrorRange
import Derived.Test.YtcajejfddfiidaaDoorInG
import Derived.Test.YtcajejfddfiidaaDoorInF
import Derived.Test.YtcajejfddfiidaaDoorDrO
import Derived.Test.YtcajejfddfiidaaDoorSheln
namespace Go.Proofs.YtcajejfddfiidaaDoor
open Go.RowKit
set_option linter.unusedVariables false
set_option linter.unusedSimpArgs false


/-- The two errors of strconv stand. -/
def Sg (w : World) : Prop := (∃ t p, w.cell? ⟨3, 0, none⟩ = some (.iface t p)) ∧ ∃ t p, w.cell? ⟨4, 0, none⟩ = some (.iface t p)
theorem Sg.below {w w' : World} (h : Sg w) (hb : Below w.heap.size w w') : Sg w' := by
  obtain ⟨⟨t, p, h1⟩, t', p', h2⟩ := h
  exact ⟨⟨t, p, (hb.cell (p := ⟨3, 0, none⟩) (Lib.lt_of_cell h1)).trans h1⟩, t', p', (hb.cell (p := ⟨4, 0, none⟩) (Lib.lt_of_cell h2)).trans h2⟩
def PqP (o : Option Nat) (e : Ending) : Prop := match o with
  | some n => e = .returned (.tuple #[.int .u64 (n : Int), .nilIface])
  | none => ∃ (x : Int) (N : Nat), e = .returned (.tuple #[.int .u64 x, .iface 104 (.pointer (some ⟨N, 0, none⟩))])
set_option maxRecDepth 100000 in
set_option maxHeartbeats 2000000 in
theorem pu_empty (b z : Int) (w : World) : Calls Tryd.prog 49 #[.string ⟨#[]⟩, .int .i64 b, .int .i64 z] w fun e w' => PuP none e ∧ Below w.heap.size w w' := by
  go_enter Tryd.func49, Tryd.ntmps49
  go_wp2
  go_ret2
  exact ⟨⟨_, 2, rfl, .inr rfl⟩, Below.refl _ _⟩
set_option maxRecDepth 100000 in
set_option maxHeartbeats 2000000 in
theorem parse34 (t : ByteArray) (b z : Int) (o : Option Nat) (w : World) (h49 : Calls Tryd.prog 49 #[.string t, .int .i64 b, .int .i64 z] w fun e w' => PuP o e ∧ Below w.heap.size w w') (hS : Sg w) (hlim : t.size ≤ 281474976710656) :
    Calls Tryd.prog 34 #[.string t, .int .i64 b, .int .i64 z] w fun e w' => PqP o e ∧ Below w.heap.size w w' := by
  cases o with
  | some n =>
    go_enter Tryd.func34, Tryd.ntmps34
    go_wp2_with (go_at_call 49; (with_reducible refine Calls.mono h49 ?_); rintro e w1 ⟨rfl, hb⟩)
    go_ret2
    exact ⟨rfl, hb⟩
  | none =>
    have hS1 := fun (X : World) (hX : Below w.heap.size w X) => hS.below hX
    have h50 : ∀ (k : Int) (X : World), (k = 1 ∨ k = 2) → Below w.heap.size w X → Calls Tryd.prog 50 #[.string ⟨#[80, 97, 114, 115, 101, 85, 105, 110, 116]⟩, .string t, .int .i64 b, .int .i64 z, .iface 102 (.int .i64 k)] X fun e w' => (∃ N, e = .returned (.iface 104 (.pointer (some ⟨N, 0, none⟩)))) ∧ Below X.heap.size X w' := by
      intro k X hk hX
      obtain ⟨⟨t1, p1, g3⟩, t2, p2, g4⟩ := hS1 X hX
      rcases hk with rfl | rfl
      · exact (Any.strconv_toError_range (P := Tryd.prog) (ρ := Tryd.laysC174_ren) { Tryd.laysC174 with } ⟨#[80, 97, 114, 115, 101, 85, 105, 110, 116]⟩ t b z _ X hlim g4 (.inr ⟨t2, p2, rfl⟩)).mono fun e w' ⟨N, h1, _, _, h4⟩ => ⟨⟨N, h1⟩, h4⟩
      · exact (Any.strconv_toError_syntax (P := Tryd.prog) (ρ := Tryd.laysC174_ren) { Tryd.laysC174 with } ⟨#[80, 97, 114, 115, 101, 85, 105, 110, 116]⟩ t b z _ X hlim g3 (.inr ⟨t1, p1, rfl⟩)).mono fun e w' ⟨N, h1, _, _, h4⟩ => ⟨⟨N, h1⟩, h4⟩
    clear hS1 hS
    have h50' : Hid _ := h50
    clear h50
    go_enter Tryd.func34, Tryd.ntmps34
    go_wp2_with (first
      | (go_at_call 49; (with_reducible refine Calls.mono h49 ?_); rintro e w1 ⟨⟨x, k, rfl, hk⟩, hb⟩; have h5 := h50'.out k w1 hk hb)
      | (go_at_call 50; (with_reducible refine Calls.mono h5 ?_); rintro e w2 ⟨⟨N, rfl⟩, hb2⟩))
    go_ret2
    exact ⟨⟨_, N, rfl⟩, hb.trans (hb2.mono hb.size)⟩
theorem toL (l : List UInt8) : (ByteArray.mk l.toArray).data.toList = l := by simp
theorem szL (l : List UInt8) : (ByteArray.mk l.toArray).size = l.length := by simp [ByteArray.size]
theorem p34_10 (l : List UInt8) (w : World) (hS : Sg w) (hlim : l.length ≤ 281474976710656) : Calls Tryd.prog 34 #[.string ⟨l.toArray⟩, .int .i64 10, .int .i64 31] w fun e w' => PqP (p10 l) e ∧ Below w.heap.size w w' := by
  refine parse34 _ 10 31 (p10 l) w ?_ hS (by rw [szL]; exact hlim)
  unfold p10
  by_cases h : l = []
  · subst h
    rw [if_pos rfl]
    exact pu_empty 10 31 w
  · rw [if_neg h]
    have := pu10_any ⟨l.toArray⟩ w (by rw [szL]; intro e; exact h (List.eq_nil_of_length_eq_zero e)) (by rw [szL]; omega)
    rwa [toL] at this
theorem p34_16 (l : List UInt8) (w : World) (hS : Sg w) (hlim : l.length ≤ 16) : Calls Tryd.prog 34 #[.string ⟨l.toArray⟩, .int .i64 16, .int .i64 64] w fun e w' => PqP (p16 l) e ∧ Below w.heap.size w w' := by
  refine parse34 _ 16 64 (p16 l) w ?_ hS (by rw [szL]; omega)
  unfold p16
  by_cases h : l = []
  · subst h
    rw [if_pos rfl]
    exact pu_empty 16 64 w
  · rw [if_neg h]
    have := pu16_any ⟨l.toArray⟩ w (by rw [szL]; intro e; exact h (List.eq_nil_of_length_eq_zero e)) (by rw [szL]; omega)
    rwa [toL] at this
/-- What readWord answers. -/
def RwP (o : Option (Nat × Nat)) (e : Ending) : Prop := match o with
  | some p => e = .returned (.tuple #[.int .i64 (p.1 : Int), .int .u64 (p.2 : Int), .bool true])
  | none => ∃ x y : Int, e = .returned (.tuple #[.int .i64 x, .int .u64 y, .bool false])
theorem p10F_lt : ∀ (l : List UInt8) (n v : Nat), n ≤ 2147483647 → p10F n l = some v → v ≤ 2147483647
  | [], n, v, h, e => by simp [p10F] at e; omega
  | c :: r, n, v, h, e => by
    unfold p10F at e
    split at e
    · split at e
      · cases e
      · exact p10F_lt r _ v (by omega) e
    · cases e
set_option maxRecDepth 100000 in
set_option maxHeartbeats 2000000 in
theorem readWord_any (l : List UInt8) (w : World) (hS : Sg w) (hlim : l.length ≤ 140737488355328) : Calls Tryd.prog 16 #[.string ⟨l.toArray⟩] w fun e w' => RwP (rwF l) e ∧ Below w.heap.size w w' := by
  have hcu := cut_any ⟨l.toArray⟩ 42 w (by rw [szL]; omega)
  have hcl : (cutB 42 l).1.length ≤ l.length ∧ (cutB 42 l).2.1.length ≤ l.length := by
    by_cases hm : (42 : UInt8) ∈ l
    · obtain ⟨p, q, e, hp⟩ := split_first 42 l hm
      rw [e, cutB_hit 42 q p hp]
      simp
      omega
    · rw [cutB_no 42 l hm]
      simp
  have hTl : (rwT l).length ≤ 281474976710656 := by
    unfold rwT
    split
    · omega
    · simp
  have hBl : (rwB l).length ≤ 140737488355328 := by unfold rwB; split <;> omega
  have h10 := fun (X : World) (hX : Below w.heap.size w X) => p34_10 (rwT l) X (hS.below hX) hTl
  have h16 := fun (X : World) (hX : Below w.heap.size w X) (hb : (rwB l).length ≤ 16) => p34_16 (rwB l) X (hS.below hX) hb
  have eT : (if (cutB 42 l).2.2 = true then (cutB 42 l).1 else [49]) = rwT l := rfl
  have eB : (if (cutB 42 l).2.2 = true then (cutB 42 l).2.1 else l) = rwB l := rfl
  have hP : ∀ n, p10 (rwT l) = some n → n ≤ 2147483647 := fun n h => by
    unfold p10 at h
    split at h
    · cases h
    · exact p10F_lt _ 0 n (by decide) h
  unfold CuP at hcu
  rw [toL] at hcu
  unfold rwF
  generalize (cutB 42 l).1 = c1 at *
  generalize (cutB 42 l).2.1 = c2 at *
  generalize (cutB 42 l).2.2 = c3 at *
  generalize rwT l = T at *
  generalize rwB l = B at *
  clear hS hcl
  have h10' : Hid _ := h10
  have h16' : Hid _ := h16
  have hP' : Hid _ := hP
  clear h10 h16 hP
  have hbn : ∀ n : Nat, Below w.heap.size w (w.drewN n) := fun n => bel_drewN (Below.refl _ _)
  cases c3 with
  | false =>
    simp only [Bool.false_eq_true, if_false] at eT eB
    subst eT
    subst eB
    have zB := szL l
    cases h1 : p10 [49] with
    | none =>
      have k10 : ∀ X : World, Below w.heap.size w X → Calls Tryd.prog 34 #[.string ⟨#[49]⟩, .int .i64 10, .int .i64 31] X fun e w' => PqP none e ∧ Below X.heap.size X w' := fun X hX => by have := h10'.out X hX; rwa [h1] at this
      clear h10' h16' hP'
      go_enter Tryd.func16, Tryd.ntmps16
      go_wp2_with (first | (go_at_call 33; (with_reducible refine Calls.mono hcu ?_); rintro e w1 ⟨rfl, nn, rfl⟩; have ka := k10 _ (hbn nn)) | (go_at_call 34; (with_reducible refine Calls.mono ka ?_); rintro e w2 ⟨⟨x, N, rfl⟩, hb2⟩))
      go_ret3
      exact ⟨⟨_, _, rfl⟩, (hbn nn).trans (hb2.mono (hbn nn).size)⟩
    | some n =>
      have hn := hP'.out n h1
      have wn : IntKind.i64.wrap (n : Int) = (n : Int) := wrap64 _ (by omega)
      by_cases n1 : n < 1
      · have n1' : (n : Int) < 1 := by omega
        simp only [n1, true_or, if_true]
        have k10 : ∀ X : World, Below w.heap.size w X → Calls Tryd.prog 34 #[.string ⟨#[49]⟩, .int .i64 10, .int .i64 31] X fun e w' => PqP (some n) e ∧ Below X.heap.size X w' := fun X hX => by have := h10'.out X hX; rwa [h1] at this
        clear h10' h16' hP'
        go_enter Tryd.func16, Tryd.ntmps16
        go_wp2_with (first | (go_at_call 33; (with_reducible refine Calls.mono hcu ?_); rintro e w1 ⟨rfl, nn, rfl⟩; have ka := k10 _ (hbn nn)) | (go_at_call 34; (with_reducible refine Calls.mono ka ?_); rintro e w2 ⟨rfl, hb2⟩))
        go_ret3
        exact ⟨⟨_, _, rfl⟩, (hbn nn).trans (hb2.mono (hbn nn).size)⟩
      · have n1' : ¬ (n : Int) < 1 := by omega
        by_cases b1 : 16 < l.length
        · have b1' : (16 : Int) < (l.length : Int) := by omega
          simp only [b1, or_true, if_true]
          have k10 : ∀ X : World, Below w.heap.size w X → Calls Tryd.prog 34 #[.string ⟨#[49]⟩, .int .i64 10, .int .i64 31] X fun e w' => PqP (some n) e ∧ Below X.heap.size X w' := fun X hX => by have := h10'.out X hX; rwa [h1] at this
          clear h10' h16' hP'
          go_enter Tryd.func16, Tryd.ntmps16
          go_wp2_with (first | (go_at_call 33; (with_reducible refine Calls.mono hcu ?_); rintro e w1 ⟨rfl, nn, rfl⟩; have ka := k10 _ (hbn nn)) | (go_at_call 34; (with_reducible refine Calls.mono ka ?_); rintro e w2 ⟨rfl, hb2⟩))
          go_ret3
          exact ⟨⟨_, _, rfl⟩, (hbn nn).trans (hb2.mono (hbn nn).size)⟩
        · have b1' : ¬ (16 : Int) < (l.length : Int) := by omega
          simp only [n1, b1, or_self, if_false]
          cases h2 : p16 l with
          | none =>
            have k10 : ∀ X : World, Below w.heap.size w X → Calls Tryd.prog 34 #[.string ⟨#[49]⟩, .int .i64 10, .int .i64 31] X fun e w' => PqP (some n) e ∧ Below X.heap.size X w' := fun X hX => by have := h10'.out X hX; rwa [h1] at this
            have k16 : ∀ X : World, Below w.heap.size w X → Calls Tryd.prog 34 #[.string ⟨l.toArray⟩, .int .i64 16, .int .i64 64] X fun e w' => PqP none e ∧ Below X.heap.size X w' := fun X hX => by have := h16'.out X hX (by omega); rwa [h2] at this
            clear h10' h16' hP'
            go_enter Tryd.func16, Tryd.ntmps16
            go_upto_region 8 with (first | (go_at_call 33; (with_reducible refine Calls.mono hcu ?_); rintro e w1 ⟨rfl, nn, rfl⟩; have ka := k10 _ (hbn nn)) | (go_at_call 34; (with_reducible refine Calls.mono ka ?_); rintro e w2 ⟨rfl, hb2⟩; have kb := k16 _ ((hbn nn).trans (hb2.mono (hbn nn).size))) | (go_at_call 34; (with_reducible refine Calls.mono kb ?_); rintro e w3 ⟨⟨x, N, rfl⟩, hb3⟩))
            refine wp_region_noPanic ?_
            refine wp_region_held_drew (S := fun w' => True) (by kernel_rfl) ?_ (fun hHeld => ?_)
            · (try dsimp only)
              all_goals trivial
            refine wpAnyH_take (i := 0) (oi := { dst := some 40, op := Op.move (Operand.tmp 8), type := 26, pos := "inputs.go:41", after := #[], guard := none }) (v := ?_) rfl (by kernel_rfl) (by kernel_rfl) (by kernel_rfl) (fun _ _ _ h => h) (Or.inl ⟨by rfl, ?_⟩) (by assumption) ?_
            rotate_left
            · intro wz hSz; (try dsimp only at hSz); go_simp; all_goals (with_reducible rfl)
            (try simp only [Act.put, List.setIfInBounds_toArray, List.set_cons_zero, List.set_cons_succ])
            refine wpAnyH_take (i := 1) (oi := { dst := some 41, op := Op.convert 26 3 (Operand.tmp 40), type := 3, pos := "inputs.go:41", after := #[{ on := 0, ground := Ground.data }], guard := none }) (v := ?_) rfl (by kernel_rfl) (by kernel_rfl) (by kernel_rfl) (fun _ _ _ h => h) (Or.inl ⟨by rfl, ?_⟩) (by assumption) ?_
            rotate_left
            · intro wz hSz; (try dsimp only at hSz); go_simp; all_goals (with_reducible rfl)
            (try simp only [Act.put, List.setIfInBounds_toArray, List.set_cons_zero, List.set_cons_succ])
            refine wpAnyH_take (i := 2) (oi := { dst := some 42, op := Op.move (Operand.tmp 3), type := 26, pos := "inputs.go:41", after := #[{ on := 5, ground := Ground.gcOnly Departure.lateStores }], guard := none }) (v := ?_) rfl (by kernel_rfl) (by kernel_rfl) (by kernel_rfl) (fun _ _ _ h => h) (Or.inl ⟨by rfl, ?_⟩) (by assumption) ?_
            rotate_left
            · intro wz hSz; (try dsimp only at hSz); go_simp; all_goals (with_reducible rfl)
            (try simp only [Act.put, List.setIfInBounds_toArray, List.set_cons_zero, List.set_cons_succ])
            refine wpAnyH_take (i := 3) (oi := { dst := some 43, op := Op.move (Operand.tmp 9), type := 60, pos := "inputs.go:41", after := #[{ on := 6, ground := Ground.gcOnly Departure.lateStores }], guard := none }) (v := ?_) rfl (by kernel_rfl) (by kernel_rfl) (by kernel_rfl) (fun _ _ _ h => h) (Or.inl ⟨by rfl, ?_⟩) (by assumption) ?_
            rotate_left
            · intro wz hSz; (try dsimp only at hSz); go_simp; all_goals (with_reducible rfl)
            (try simp only [Act.put, List.setIfInBounds_toArray, List.set_cons_zero, List.set_cons_succ])
            refine wpAnyH_take (i := 4) (oi := { dst := some 44, op := Op.binOp BinOp.eql 60 (Operand.tmp 43) (Operand.const Value.nilIface) 60, type := 4, pos := "inputs.go:41", after := #[{ on := 3, ground := Ground.data }, { on := 6, ground := Ground.gcOnly Departure.lateStores }], guard := none }) (v := ?_) rfl (by kernel_rfl) (by kernel_rfl) (by kernel_rfl) (fun _ _ _ h => h) (Or.inl ⟨by rfl, ?_⟩) (by assumption) ?_
            rotate_left
            · intro wz hSz; (try dsimp only at hSz); go_simp; all_goals (with_reducible rfl)
            (try simp only [Act.put, List.setIfInBounds_toArray, List.set_cons_zero, List.set_cons_succ])
            refine wpAnyH_take (i := 5) (oi := { dst := some 2, op := Op.assign (Operand.tmp 41), type := 3, pos := "inputs.go:41", after := #[{ on := 1, ground := Ground.data }, { on := 0, ground := Ground.phase }, { on := 1, ground := Ground.phase }, { on := 2, ground := Ground.textOnly Departure.lateStores }, { on := 3, ground := Ground.textOnly Departure.lateStores }, { on := 4, ground := Ground.textOnly Departure.lateStores }], guard := none }) (v := ?_) rfl (by kernel_rfl) (by kernel_rfl) (by kernel_rfl) (fun _ _ _ h => h) (Or.inl ⟨by rfl, ?_⟩) (by assumption) ?_
            rotate_left
            · intro wz hSz; (try dsimp only at hSz); go_simp; all_goals (with_reducible rfl)
            (try simp only [Act.put, List.setIfInBounds_toArray, List.set_cons_zero, List.set_cons_succ])
            refine wpAnyH_take (i := 6) (oi := { dst := some 3, op := Op.assign (Operand.tmp 42), type := 26, pos := "inputs.go:41", after := #[{ on := 2, ground := Ground.data }, { on := 5, ground := Ground.chain }, { on := 0, ground := Ground.phase }, { on := 1, ground := Ground.phase }, { on := 2, ground := Ground.phase }, { on := 3, ground := Ground.textOnly Departure.lateStores }, { on := 4, ground := Ground.textOnly Departure.lateStores }, { on := 5, ground := Ground.phase }], guard := none }) (v := ?_) rfl (by kernel_rfl) (by kernel_rfl) (by kernel_rfl) (fun _ _ _ h => h) (Or.inl ⟨by rfl, ?_⟩) (by assumption) ?_
            rotate_left
            · intro wz hSz; (try dsimp only at hSz); go_simp; all_goals (with_reducible rfl)
            (try simp only [Act.put, List.setIfInBounds_toArray, List.set_cons_zero, List.set_cons_succ])
            refine wpAnyH_take (i := 7) (oi := { dst := some 4, op := Op.assign (Operand.tmp 44), type := 4, pos := "inputs.go:41", after := #[{ on := 4, ground := Ground.data }, { on := 6, ground := Ground.chain }, { on := 0, ground := Ground.phase }, { on := 1, ground := Ground.phase }, { on := 2, ground := Ground.phase }, { on := 3, ground := Ground.phase }, { on := 4, ground := Ground.phase }, { on := 5, ground := Ground.phase }, { on := 6, ground := Ground.phase }], guard := none }) (v := ?_) rfl (by kernel_rfl) (by kernel_rfl) (by kernel_rfl) (fun _ _ _ h => h) (Or.inl ⟨by rfl, ?_⟩) (by assumption) ?_
            rotate_left
            · intro wz hSz; (try dsimp only at hSz); go_simp; all_goals (with_reducible rfl)
            (try simp only [Act.put, List.setIfInBounds_toArray, List.set_cons_zero, List.set_cons_succ])
            refine wpAnyH_done (by kernel_rfl) ?_ _
            refine NoPanic.normal ?_
            go_wp2_with fail
            go_ret3
            exact ⟨⟨_, _, rfl⟩, ((((hbn nn).trans (hb2.mono (hbn nn).size)).trans (hb3.mono (((hbn nn).trans (hb2.mono (hbn nn).size)).size))).drew)⟩
          | some x =>
            have k10 : ∀ X : World, Below w.heap.size w X → Calls Tryd.prog 34 #[.string ⟨#[49]⟩, .int .i64 10, .int .i64 31] X fun e w' => PqP (some n) e ∧ Below X.heap.size X w' := fun X hX => by have := h10'.out X hX; rwa [h1] at this
            have k16 : ∀ X : World, Below w.heap.size w X → Calls Tryd.prog 34 #[.string ⟨l.toArray⟩, .int .i64 16, .int .i64 64] X fun e w' => PqP (some x) e ∧ Below X.heap.size X w' := fun X hX => by have := h16'.out X hX (by omega); rwa [h2] at this
            clear h10' h16' hP'
            go_enter Tryd.func16, Tryd.ntmps16
            go_upto_region 8 with (first | (go_at_call 33; (with_reducible refine Calls.mono hcu ?_); rintro e w1 ⟨rfl, nn, rfl⟩; have ka := k10 _ (hbn nn)) | (go_at_call 34; (with_reducible refine Calls.mono ka ?_); rintro e w2 ⟨rfl, hb2⟩; have kb := k16 _ ((hbn nn).trans (hb2.mono (hbn nn).size))) | (go_at_call 34; (with_reducible refine Calls.mono kb ?_); rintro e w3 ⟨rfl, hb3⟩))
            refine wp_region_noPanic ?_
            refine wp_region_held_drew (S := fun w' => True) (by kernel_rfl) ?_ (fun hHeld => ?_)
            · (try dsimp only)
              all_goals trivial
            refine wpAnyH_take (i := 0) (oi := { dst := some 40, op := Op.move (Operand.tmp 8), type := 26, pos := "inputs.go:41", after := #[], guard := none }) (v := ?_) rfl (by kernel_rfl) (by kernel_rfl) (by kernel_rfl) (fun _ _ _ h => h) (Or.inl ⟨by rfl, ?_⟩) (by assumption) ?_
            rotate_left
            · intro wz hSz; (try dsimp only at hSz); go_simp; all_goals (with_reducible rfl)
            (try simp only [Act.put, List.setIfInBounds_toArray, List.set_cons_zero, List.set_cons_succ])
            refine wpAnyH_take (i := 1) (oi := { dst := some 41, op := Op.convert 26 3 (Operand.tmp 40), type := 3, pos := "inputs.go:41", after := #[{ on := 0, ground := Ground.data }], guard := none }) (v := ?_) rfl (by kernel_rfl) (by kernel_rfl) (by kernel_rfl) (fun _ _ _ h => h) (Or.inl ⟨by rfl, ?_⟩) (by assumption) ?_
            rotate_left
            · intro wz hSz; (try dsimp only at hSz); go_simp; all_goals (with_reducible rfl)
            (try simp only [Act.put, List.setIfInBounds_toArray, List.set_cons_zero, List.set_cons_succ])
            refine wpAnyH_take (i := 2) (oi := { dst := some 42, op := Op.move (Operand.tmp 3), type := 26, pos := "inputs.go:41", after := #[{ on := 5, ground := Ground.gcOnly Departure.lateStores }], guard := none }) (v := ?_) rfl (by kernel_rfl) (by kernel_rfl) (by kernel_rfl) (fun _ _ _ h => h) (Or.inl ⟨by rfl, ?_⟩) (by assumption) ?_
            rotate_left
            · intro wz hSz; (try dsimp only at hSz); go_simp; all_goals (with_reducible rfl)
            (try simp only [Act.put, List.setIfInBounds_toArray, List.set_cons_zero, List.set_cons_succ])
            refine wpAnyH_take (i := 3) (oi := { dst := some 43, op := Op.move (Operand.tmp 9), type := 60, pos := "inputs.go:41", after := #[{ on := 6, ground := Ground.gcOnly Departure.lateStores }], guard := none }) (v := ?_) rfl (by kernel_rfl) (by kernel_rfl) (by kernel_rfl) (fun _ _ _ h => h) (Or.inl ⟨by rfl, ?_⟩) (by assumption) ?_
            rotate_left
            · intro wz hSz; (try dsimp only at hSz); go_simp; all_goals (with_reducible rfl)
            (try simp only [Act.put, List.setIfInBounds_toArray, List.set_cons_zero, List.set_cons_succ])
            refine wpAnyH_take (i := 4) (oi := { dst := some 44, op := Op.binOp BinOp.eql 60 (Operand.tmp 43) (Operand.const Value.nilIface) 60, type := 4, pos := "inputs.go:41", after := #[{ on := 3, ground := Ground.data }, { on := 6, ground := Ground.gcOnly Departure.lateStores }], guard := none }) (v := ?_) rfl (by kernel_rfl) (by kernel_rfl) (by kernel_rfl) (fun _ _ _ h => h) (Or.inl ⟨by rfl, ?_⟩) (by assumption) ?_
            rotate_left
            · intro wz hSz; (try dsimp only at hSz); go_simp; all_goals (with_reducible rfl)
            (try simp only [Act.put, List.setIfInBounds_toArray, List.set_cons_zero, List.set_cons_succ])
            refine wpAnyH_take (i := 5) (oi := { dst := some 2, op := Op.assign (Operand.tmp 41), type := 3, pos := "inputs.go:41", after := #[{ on := 1, ground := Ground.data }, { on := 0, ground := Ground.phase }, { on := 1, ground := Ground.phase }, { on := 2, ground := Ground.textOnly Departure.lateStores }, { on := 3, ground := Ground.textOnly Departure.lateStores }, { on := 4, ground := Ground.textOnly Departure.lateStores }], guard := none }) (v := ?_) rfl (by kernel_rfl) (by kernel_rfl) (by kernel_rfl) (fun _ _ _ h => h) (Or.inl ⟨by rfl, ?_⟩) (by assumption) ?_
            rotate_left
            · intro wz hSz; (try dsimp only at hSz); go_simp; all_goals (with_reducible rfl)
            (try simp only [Act.put, List.setIfInBounds_toArray, List.set_cons_zero, List.set_cons_succ])
            refine wpAnyH_take (i := 6) (oi := { dst := some 3, op := Op.assign (Operand.tmp 42), type := 26, pos := "inputs.go:41", after := #[{ on := 2, ground := Ground.data }, { on := 5, ground := Ground.chain }, { on := 0, ground := Ground.phase }, { on := 1, ground := Ground.phase }, { on := 2, ground := Ground.phase }, { on := 3, ground := Ground.textOnly Departure.lateStores }, { on := 4, ground := Ground.textOnly Departure.lateStores }, { on := 5, ground := Ground.phase }], guard := none }) (v := ?_) rfl (by kernel_rfl) (by kernel_rfl) (by kernel_rfl) (fun _ _ _ h => h) (Or.inl ⟨by rfl, ?_⟩) (by assumption) ?_
            rotate_left
            · intro wz hSz; (try dsimp only at hSz); go_simp; all_goals (with_reducible rfl)
            (try simp only [Act.put, List.setIfInBounds_toArray, List.set_cons_zero, List.set_cons_succ])
            refine wpAnyH_take (i := 7) (oi := { dst := some 4, op := Op.assign (Operand.tmp 44), type := 4, pos := "inputs.go:41", after := #[{ on := 4, ground := Ground.data }, { on := 6, ground := Ground.chain }, { on := 0, ground := Ground.phase }, { on := 1, ground := Ground.phase }, { on := 2, ground := Ground.phase }, { on := 3, ground := Ground.phase }, { on := 4, ground := Ground.phase }, { on := 5, ground := Ground.phase }, { on := 6, ground := Ground.phase }], guard := none }) (v := ?_) rfl (by kernel_rfl) (by kernel_rfl) (by kernel_rfl) (fun _ _ _ h => h) (Or.inl ⟨by rfl, ?_⟩) (by assumption) ?_
            rotate_left
            · intro wz hSz; (try dsimp only at hSz); go_simp; all_goals (with_reducible rfl)
            (try simp only [Act.put, List.setIfInBounds_toArray, List.set_cons_zero, List.set_cons_succ])
            refine wpAnyH_done (by kernel_rfl) ?_ _
            refine NoPanic.normal ?_
            go_wp2_with fail
            go_ret3
            exact ⟨rfl, ((((hbn nn).trans (hb2.mono (hbn nn).size)).trans (hb3.mono (((hbn nn).trans (hb2.mono (hbn nn).size)).size))).drew)⟩
  | true =>
    simp only [if_true] at eT eB
    subst eT
    subst eB
    have zB := szL c2
    cases h1 : p10 c1 with
    | none =>
      have k10 : ∀ X : World, Below w.heap.size w X → Calls Tryd.prog 34 #[.string ⟨c1.toArray⟩, .int .i64 10, .int .i64 31] X fun e w' => PqP none e ∧ Below X.heap.size X w' := fun X hX => by have := h10'.out X hX; rwa [h1] at this
      clear h10' h16' hP'
      go_enter Tryd.func16, Tryd.ntmps16
      go_wp2_with (first | (go_at_call 33; (with_reducible refine Calls.mono hcu ?_); rintro e w1 ⟨rfl, nn, rfl⟩; have ka := k10 _ (hbn nn)) | (go_at_call 34; (with_reducible refine Calls.mono ka ?_); rintro e w2 ⟨⟨x, N, rfl⟩, hb2⟩))
      go_ret3
      exact ⟨⟨_, _, rfl⟩, (hbn nn).trans (hb2.mono (hbn nn).size)⟩
    | some n =>
      have hn := hP'.out n h1
      have wn : IntKind.i64.wrap (n : Int) = (n : Int) := wrap64 _ (by omega)
      by_cases n1 : n < 1
      · have n1' : (n : Int) < 1 := by omega
        simp only [n1, true_or, if_true]
        have k10 : ∀ X : World, Below w.heap.size w X → Calls Tryd.prog 34 #[.string ⟨c1.toArray⟩, .int .i64 10, .int .i64 31] X fun e w' => PqP (some n) e ∧ Below X.heap.size X w' := fun X hX => by have := h10'.out X hX; rwa [h1] at this
        clear h10' h16' hP'
        go_enter Tryd.func16, Tryd.ntmps16
        go_wp2_with (first | (go_at_call 33; (with_reducible refine Calls.mono hcu ?_); rintro e w1 ⟨rfl, nn, rfl⟩; have ka := k10 _ (hbn nn)) | (go_at_call 34; (with_reducible refine Calls.mono ka ?_); rintro e w2 ⟨rfl, hb2⟩))
        go_ret3
        exact ⟨⟨_, _, rfl⟩, (hbn nn).trans (hb2.mono (hbn nn).size)⟩
      · have n1' : ¬ (n : Int) < 1 := by omega
        by_cases b1 : 16 < c2.length
        · have b1' : (16 : Int) < (c2.length : Int) := by omega
          simp only [b1, or_true, if_true]
          have k10 : ∀ X : World, Below w.heap.size w X → Calls Tryd.prog 34 #[.string ⟨c1.toArray⟩, .int .i64 10, .int .i64 31] X fun e w' => PqP (some n) e ∧ Below X.heap.size X w' := fun X hX => by have := h10'.out X hX; rwa [h1] at this
          clear h10' h16' hP'
          go_enter Tryd.func16, Tryd.ntmps16
          go_wp2_with (first | (go_at_call 33; (with_reducible refine Calls.mono hcu ?_); rintro e w1 ⟨rfl, nn, rfl⟩; have ka := k10 _ (hbn nn)) | (go_at_call 34; (with_reducible refine Calls.mono ka ?_); rintro e w2 ⟨rfl, hb2⟩))
          go_ret3
          exact ⟨⟨_, _, rfl⟩, (hbn nn).trans (hb2.mono (hbn nn).size)⟩
        · have b1' : ¬ (16 : Int) < (c2.length : Int) := by omega
          simp only [n1, b1, or_self, if_false]
          cases h2 : p16 c2 with
          | none =>
            have k10 : ∀ X : World, Below w.heap.size w X → Calls Tryd.prog 34 #[.string ⟨c1.toArray⟩, .int .i64 10, .int .i64 31] X fun e w' => PqP (some n) e ∧ Below X.heap.size X w' := fun X hX => by have := h10'.out X hX; rwa [h1] at this
            have k16 : ∀ X : World, Below w.heap.size w X → Calls Tryd.prog 34 #[.string ⟨c2.toArray⟩, .int .i64 16, .int .i64 64] X fun e w' => PqP none e ∧ Below X.heap.size X w' := fun X hX => by have := h16'.out X hX (by omega); rwa [h2] at this
            clear h10' h16' hP'
            go_enter Tryd.func16, Tryd.ntmps16
            go_upto_region 8 with (first | (go_at_call 33; (with_reducible refine Calls.mono hcu ?_); rintro e w1 ⟨rfl, nn, rfl⟩; have ka := k10 _ (hbn nn)) | (go_at_call 34; (with_reducible refine Calls.mono ka ?_); rintro e w2 ⟨rfl, hb2⟩; have kb := k16 _ ((hbn nn).trans (hb2.mono (hbn nn).size))) | (go_at_call 34; (with_reducible refine Calls.mono kb ?_); rintro e w3 ⟨⟨x, N, rfl⟩, hb3⟩))
            refine wp_region_noPanic ?_
            refine wp_region_held_drew (S := fun w' => True) (by kernel_rfl) ?_ (fun hHeld => ?_)
            · (try dsimp only)
              all_goals trivial
            refine wpAnyH_take (i := 0) (oi := { dst := some 40, op := Op.move (Operand.tmp 8), type := 26, pos := "inputs.go:41", after := #[], guard := none }) (v := ?_) rfl (by kernel_rfl) (by kernel_rfl) (by kernel_rfl) (fun _ _ _ h => h) (Or.inl ⟨by rfl, ?_⟩) (by assumption) ?_
            rotate_left
            · intro wz hSz; (try dsimp only at hSz); go_simp; all_goals (with_reducible rfl)
            (try simp only [Act.put, List.setIfInBounds_toArray, List.set_cons_zero, List.set_cons_succ])
            refine wpAnyH_take (i := 1) (oi := { dst := some 41, op := Op.convert 26 3 (Operand.tmp 40), type := 3, pos := "inputs.go:41", after := #[{ on := 0, ground := Ground.data }], guard := none }) (v := ?_) rfl (by kernel_rfl) (by kernel_rfl) (by kernel_rfl) (fun _ _ _ h => h) (Or.inl ⟨by rfl, ?_⟩) (by assumption) ?_
            rotate_left
            · intro wz hSz; (try dsimp only at hSz); go_simp; all_goals (with_reducible rfl)
            (try simp only [Act.put, List.setIfInBounds_toArray, List.set_cons_zero, List.set_cons_succ])
            refine wpAnyH_take (i := 2) (oi := { dst := some 42, op := Op.move (Operand.tmp 3), type := 26, pos := "inputs.go:41", after := #[{ on := 5, ground := Ground.gcOnly Departure.lateStores }], guard := none }) (v := ?_) rfl (by kernel_rfl) (by kernel_rfl) (by kernel_rfl) (fun _ _ _ h => h) (Or.inl ⟨by rfl, ?_⟩) (by assumption) ?_
            rotate_left
            · intro wz hSz; (try dsimp only at hSz); go_simp; all_goals (with_reducible rfl)
            (try simp only [Act.put, List.setIfInBounds_toArray, List.set_cons_zero, List.set_cons_succ])
            refine wpAnyH_take (i := 3) (oi := { dst := some 43, op := Op.move (Operand.tmp 9), type := 60, pos := "inputs.go:41", after := #[{ on := 6, ground := Ground.gcOnly Departure.lateStores }], guard := none }) (v := ?_) rfl (by kernel_rfl) (by kernel_rfl) (by kernel_rfl) (fun _ _ _ h => h) (Or.inl ⟨by rfl, ?_⟩) (by assumption) ?_
            rotate_left
            · intro wz hSz; (try dsimp only at hSz); go_simp; all_goals (with_reducible rfl)
            (try simp only [Act.put, List.setIfInBounds_toArray, List.set_cons_zero, List.set_cons_succ])
            refine wpAnyH_take (i := 4) (oi := { dst := some 44, op := Op.binOp BinOp.eql 60 (Operand.tmp 43) (Operand.const Value.nilIface) 60, type := 4, pos := "inputs.go:41", after := #[{ on := 3, ground := Ground.data }, { on := 6, ground := Ground.gcOnly Departure.lateStores }], guard := none }) (v := ?_) rfl (by kernel_rfl) (by kernel_rfl) (by kernel_rfl) (fun _ _ _ h => h) (Or.inl ⟨by rfl, ?_⟩) (by assumption) ?_
            rotate_left
            · intro wz hSz; (try dsimp only at hSz); go_simp; all_goals (with_reducible rfl)
            (try simp only [Act.put, List.setIfInBounds_toArray, List.set_cons_zero, List.set_cons_succ])
            refine wpAnyH_take (i := 5) (oi := { dst := some 2, op := Op.assign (Operand.tmp 41), type := 3, pos := "inputs.go:41", after := #[{ on := 1, ground := Ground.data }, { on := 0, ground := Ground.phase }, { on := 1, ground := Ground.phase }, { on := 2, ground := Ground.textOnly Departure.lateStores }, { on := 3, ground := Ground.textOnly Departure.lateStores }, { on := 4, ground := Ground.textOnly Departure.lateStores }], guard := none }) (v := ?_) rfl (by kernel_rfl) (by kernel_rfl) (by kernel_rfl) (fun _ _ _ h => h) (Or.inl ⟨by rfl, ?_⟩) (by assumption) ?_
            rotate_left
            · intro wz hSz; (try dsimp only at hSz); go_simp; all_goals (with_reducible rfl)
            (try simp only [Act.put, List.setIfInBounds_toArray, List.set_cons_zero, List.set_cons_succ])
            refine wpAnyH_take (i := 6) (oi := { dst := some 3, op := Op.assign (Operand.tmp 42), type := 26, pos := "inputs.go:41", after := #[{ on := 2, ground := Ground.data }, { on := 5, ground := Ground.chain }, { on := 0, ground := Ground.phase }, { on := 1, ground := Ground.phase }, { on := 2, ground := Ground.phase }, { on := 3, ground := Ground.textOnly Departure.lateStores }, { on := 4, ground := Ground.textOnly Departure.lateStores }, { on := 5, ground := Ground.phase }], guard := none }) (v := ?_) rfl (by kernel_rfl) (by kernel_rfl) (by kernel_rfl) (fun _ _ _ h => h) (Or.inl ⟨by rfl, ?_⟩) (by assumption) ?_
            rotate_left
            · intro wz hSz; (try dsimp only at hSz); go_simp; all_goals (with_reducible rfl)
            (try simp only [Act.put, List.setIfInBounds_toArray, List.set_cons_zero, List.set_cons_succ])
            refine wpAnyH_take (i := 7) (oi := { dst := some 4, op := Op.assign (Operand.tmp 44), type := 4, pos := "inputs.go:41", after := #[{ on := 4, ground := Ground.data }, { on := 6, ground := Ground.chain }, { on := 0, ground := Ground.phase }, { on := 1, ground := Ground.phase }, { on := 2, ground := Ground.phase }, { on := 3, ground := Ground.phase }, { on := 4, ground := Ground.phase }, { on := 5, ground := Ground.phase }, { on := 6, ground := Ground.phase }], guard := none }) (v := ?_) rfl (by kernel_rfl) (by kernel_rfl) (by kernel_rfl) (fun _ _ _ h => h) (Or.inl ⟨by rfl, ?_⟩) (by assumption) ?_
            rotate_left
            · intro wz hSz; (try dsimp only at hSz); go_simp; all_goals (with_reducible rfl)
            (try simp only [Act.put, List.setIfInBounds_toArray, List.set_cons_zero, List.set_cons_succ])
            refine wpAnyH_done (by kernel_rfl) ?_ _
            refine NoPanic.normal ?_
            go_wp2_with fail
            go_ret3
            exact ⟨⟨_, _, rfl⟩, ((((hbn nn).trans (hb2.mono (hbn nn).size)).trans (hb3.mono (((hbn nn).trans (hb2.mono (hbn nn).size)).size))).drew)⟩
          | some x =>
            have k10 : ∀ X : World, Below w.heap.size w X → Calls Tryd.prog 34 #[.string ⟨c1.toArray⟩, .int .i64 10, .int .i64 31] X fun e w' => PqP (some n) e ∧ Below X.heap.size X w' := fun X hX => by have := h10'.out X hX; rwa [h1] at this
            have k16 : ∀ X : World, Below w.heap.size w X → Calls Tryd.prog 34 #[.string ⟨c2.toArray⟩, .int .i64 16, .int .i64 64] X fun e w' => PqP (some x) e ∧ Below X.heap.size X w' := fun X hX => by have := h16'.out X hX (by omega); rwa [h2] at this
            clear h10' h16' hP'
            go_enter Tryd.func16, Tryd.ntmps16
            go_upto_region 8 with (first | (go_at_call 33; (with_reducible refine Calls.mono hcu ?_); rintro e w1 ⟨rfl, nn, rfl⟩; have ka := k10 _ (hbn nn)) | (go_at_call 34; (with_reducible refine Calls.mono ka ?_); rintro e w2 ⟨rfl, hb2⟩; have kb := k16 _ ((hbn nn).trans (hb2.mono (hbn nn).size))) | (go_at_call 34; (with_reducible refine Calls.mono kb ?_); rintro e w3 ⟨rfl, hb3⟩))
            refine wp_region_noPanic ?_
            refine wp_region_held_drew (S := fun w' => True) (by kernel_rfl) ?_ (fun hHeld => ?_)
            · (try dsimp only)
              all_goals trivial
            refine wpAnyH_take (i := 0) (oi := { dst := some 40, op := Op.move (Operand.tmp 8), type := 26, pos := "inputs.go:41", after := #[], guard := none }) (v := ?_) rfl (by kernel_rfl) (by kernel_rfl) (by kernel_rfl) (fun _ _ _ h => h) (Or.inl ⟨by rfl, ?_⟩) (by assumption) ?_
            rotate_left
            · intro wz hSz; (try dsimp only at hSz); go_simp; all_goals (with_reducible rfl)
            (try simp only [Act.put, List.setIfInBounds_toArray, List.set_cons_zero, List.set_cons_succ])
            refine wpAnyH_take (i := 1) (oi := { dst := some 41, op := Op.convert 26 3 (Operand.tmp 40), type := 3, pos := "inputs.go:41", after := #[{ on := 0, ground := Ground.data }], guard := none }) (v := ?_) rfl (by kernel_rfl) (by kernel_rfl) (by kernel_rfl) (fun _ _ _ h => h) (Or.inl ⟨by rfl, ?_⟩) (by assumption) ?_
            rotate_left
            · intro wz hSz; (try dsimp only at hSz); go_simp; all_goals (with_reducible rfl)
            (try simp only [Act.put, List.setIfInBounds_toArray, List.set_cons_zero, List.set_cons_succ])
            refine wpAnyH_take (i := 2) (oi := { dst := some 42, op := Op.move (Operand.tmp 3), type := 26, pos := "inputs.go:41", after := #[{ on := 5, ground := Ground.gcOnly Departure.lateStores }], guard := none }) (v := ?_) rfl (by kernel_rfl) (by kernel_rfl) (by kernel_rfl) (fun _ _ _ h => h) (Or.inl ⟨by rfl, ?_⟩) (by assumption) ?_
            rotate_left
            · intro wz hSz; (try dsimp only at hSz); go_simp; all_goals (with_reducible rfl)
            (try simp only [Act.put, List.setIfInBounds_toArray, List.set_cons_zero, List.set_cons_succ])
            refine wpAnyH_take (i := 3) (oi := { dst := some 43, op := Op.move (Operand.tmp 9), type := 60, pos := "inputs.go:41", after := #[{ on := 6, ground := Ground.gcOnly Departure.lateStores }], guard := none }) (v := ?_) rfl (by kernel_rfl) (by kernel_rfl) (by kernel_rfl) (fun _ _ _ h => h) (Or.inl ⟨by rfl, ?_⟩) (by assumption) ?_
            rotate_left
            · intro wz hSz; (try dsimp only at hSz); go_simp; all_goals (with_reducible rfl)
            (try simp only [Act.put, List.setIfInBounds_toArray, List.set_cons_zero, List.set_cons_succ])
            refine wpAnyH_take (i := 4) (oi := { dst := some 44, op := Op.binOp BinOp.eql 60 (Operand.tmp 43) (Operand.const Value.nilIface) 60, type := 4, pos := "inputs.go:41", after := #[{ on := 3, ground := Ground.data }, { on := 6, ground := Ground.gcOnly Departure.lateStores }], guard := none }) (v := ?_) rfl (by kernel_rfl) (by kernel_rfl) (by kernel_rfl) (fun _ _ _ h => h) (Or.inl ⟨by rfl, ?_⟩) (by assumption) ?_
            rotate_left
            · intro wz hSz; (try dsimp only at hSz); go_simp; all_goals (with_reducible rfl)
            (try simp only [Act.put, List.setIfInBounds_toArray, List.set_cons_zero, List.set_cons_succ])
            refine wpAnyH_take (i := 5) (oi := { dst := some 2, op := Op.assign (Operand.tmp 41), type := 3, pos := "inputs.go:41", after := #[{ on := 1, ground := Ground.data }, { on := 0, ground := Ground.phase }, { on := 1, ground := Ground.phase }, { on := 2, ground := Ground.textOnly Departure.lateStores }, { on := 3, ground := Ground.textOnly Departure.lateStores }, { on := 4, ground := Ground.textOnly Departure.lateStores }], guard := none }) (v := ?_) rfl (by kernel_rfl) (by kernel_rfl) (by kernel_rfl) (fun _ _ _ h => h) (Or.inl ⟨by rfl, ?_⟩) (by assumption) ?_
            rotate_left
            · intro wz hSz; (try dsimp only at hSz); go_simp; all_goals (with_reducible rfl)
            (try simp only [Act.put, List.setIfInBounds_toArray, List.set_cons_zero, List.set_cons_succ])
            refine wpAnyH_take (i := 6) (oi := { dst := some 3, op := Op.assign (Operand.tmp 42), type := 26, pos := "inputs.go:41", after := #[{ on := 2, ground := Ground.data }, { on := 5, ground := Ground.chain }, { on := 0, ground := Ground.phase }, { on := 1, ground := Ground.phase }, { on := 2, ground := Ground.phase }, { on := 3, ground := Ground.textOnly Departure.lateStores }, { on := 4, ground := Ground.textOnly Departure.lateStores }, { on := 5, ground := Ground.phase }], guard := none }) (v := ?_) rfl (by kernel_rfl) (by kernel_rfl) (by kernel_rfl) (fun _ _ _ h => h) (Or.inl ⟨by rfl, ?_⟩) (by assumption) ?_
            rotate_left
            · intro wz hSz; (try dsimp only at hSz); go_simp; all_goals (with_reducible rfl)
            (try simp only [Act.put, List.setIfInBounds_toArray, List.set_cons_zero, List.set_cons_succ])
            refine wpAnyH_take (i := 7) (oi := { dst := some 4, op := Op.assign (Operand.tmp 44), type := 4, pos := "inputs.go:41", after := #[{ on := 4, ground := Ground.data }, { on := 6, ground := Ground.chain }, { on := 0, ground := Ground.phase }, { on := 1, ground := Ground.phase }, { on := 2, ground := Ground.phase }, { on := 3, ground := Ground.phase }, { on := 4, ground := Ground.phase }, { on := 5, ground := Ground.phase }, { on := 6, ground := Ground.phase }], guard := none }) (v := ?_) rfl (by kernel_rfl) (by kernel_rfl) (by kernel_rfl) (fun _ _ _ h => h) (Or.inl ⟨by rfl, ?_⟩) (by assumption) ?_
            rotate_left
            · intro wz hSz; (try dsimp only at hSz); go_simp; all_goals (with_reducible rfl)
            (try simp only [Act.put, List.setIfInBounds_toArray, List.set_cons_zero, List.set_cons_succ])
            refine wpAnyH_done (by kernel_rfl) ?_ _
            refine NoPanic.normal ?_
            go_wp2_with fail
            go_ret3
            exact ⟨rfl, ((((hbn nn).trans (hb2.mono (hbn nn).size)).trans (hb3.mono (((hbn nn).trans (hb2.mono (hbn nn).size)).size))).drew)⟩
end Go.Proofs.YtcajejfddfiidaaDoor
