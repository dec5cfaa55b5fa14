import Derived.Test.YtbfojlfdiallnaaSamA
import Derived.Test.YtbfojlfdiallnaaBld
import Derived.Test.YtbfojlfdiallnaaSarA
namespace Go.Proofs.Ytbfojlfdiallnaa
open Go.RowKit
set_option linter.unusedVariables false

theorem info85 : (Try.prog.info? 85).map (fun i => (i.zero, i.size, i.bytes)) = some (some (.agg #[.int .i64 0, .string ⟨#[]⟩, .int .i64 0, .slice none 0 0, .int .i64 0, .int .i64 0]), 6, 72) := by kernel_rfl
theorem info73 : (Try.prog.info? 73).map (fun i => (i.zero, i.size, i.bytes)) = some (some (.agg #[.string ⟨#[]⟩, .slice none 0 0, .int .i64 0, .int .i64 0]), 4, 56) := by kernel_rfl
theorem info70 : (Try.prog.info? 70).map (fun i => (i.zero, i.size, i.bytes)) = some (some (.agg #[.int .i64 0, .int .i64 0, .int .i64 0, .string ⟨#[]⟩, .string ⟨#[]⟩, .int .i64 0, .int .i32 0, .int .i32 0, .int .i32 0, .slice none 0 0, .slice none 0 0, .slice none 0 0, .slice none 0 0, .slice none 0 0, .slice none 0 0]), 15, 224) := by kernel_rfl
theorem info9 : (Try.prog.info? 9).map (fun i => (i.zero, i.size, i.bytes)) = some (some (.string ⟨#[]⟩), 1, 16) := by kernel_rfl
theorem grown_none {w w' : World} (h : w.grownBy w' none) : Below w.heap.size w w' := ⟨h.os, h.tape, h.output, h.size, fun k hk => h.block k hk (by simp)⟩
theorem own_bel {w w' : World} {base e size n : Nat} {v : Value} {xs : List Value} (h : w.ownsRow base e size v n xs) (hb : Below w.heap.size w w') : w'.ownsRow base e size v n xs := own_only h (Only.of_below (S := fun _ => False) hb) (fun _ _ h => h)
theorem own_some {w : World} {base e size n g cap : Nat} {xs : List Value} (h : w.ownsRow base e size (.slice (some ⟨g, 0, none⟩) n cap) n xs) : ∀ j, j < n * size → ∃ u, w.cell? ⟨g, j, none⟩ = some u := fun j hj => by
  rw [h.cellAt j hj]; exact ⟨_, List.getElem?_eq_getElem (by rw [h.1]; exact hj)⟩

set_option maxRecDepth 100000 in
set_option maxHeartbeats 2000000 in
theorem changedNodes_any (L : List Nd) (u : Value) (S1 : Nat → Prop) (w : World) (h1 : Exs S1 w u L) :
    Calls Try.prog 46 #[u, .func (.func 47) #[] #[]] w fun e w' => (∃ v', e = .returned v' ∧ Exs (fun b => w.heap.size ≤ b) w' v' (L.map bareNd)) ∧ Below w.heap.size w w' := by
  obtain ⟨a1, c1, rfl, hlen, k1⟩ := Rows.any h1
  obtain ⟨i0, hi, hi0, hi1, hi2⟩ := info_parts info41
  clear h1
  go_enter Try.func46, Try.ntmps46
  go_wp2_with (refine wpList_make_full _ rfl _ _ 22 rfl w.heap.size 41 i0 _ 5 Try.underlying22 hi hi0 hi1 .i64 .i64 (L.length : Int) (L.length : Int) L.length rfl rfl rfl rfl (by rw [hi2]; omega) (by unfold maxLen; omega) (Nat.le_refl _) ?_; intro W0 own0 hg0)
  have HB0 := grown_none hg0
  clear hg0
  go_loopw [13] (fun t wr => ∃ (k : Nat) (xs : List Value), k ≤ L.length ∧ t = .int .i64 (k : Int) ∧ Hid (wr.ownsRow w.heap.size 41 5 (.slice (some ⟨w.heap.size, 0, none⟩) L.length L.length) L.length xs) ∧ Hid (Pre 5 NdR (fun b => w.heap.size < b) wr xs (L.map bareNd) k) ∧ Below w.heap.size w wr) (fun t _ => L.length - (intOf t).toNat)
  case atStart => exact ⟨0, _, by omega, rfl, own0, Pre.zero _ _ _ _ _ _, HB0⟩
  case round =>
    obtain ⟨k, xs, hk, rfl, own, pre, hb⟩ := hrel
    have hgw : w.heap.size < wr.heap.size := (own_lt own.out _ rfl).2
    by_cases hlt : k < L.length
    · obtain ⟨g1, o1, rfl, _, hg1, P1⟩ := k1.resolve_left (by intro e; rw [e] at hlt; simp at hlt)
      obtain ⟨cs1, _, rfl, p⟩ := P1 k hlt
      have hF := fun (W : World) => bareNode_any L[k].op L[k].val L[k].line L[k].col L[k].name W
      have p0 := (hb.cell (p := ⟨g1, _, none⟩) hg1).trans (p 0 _ rfl)
      have p1 := (hb.cell (p := ⟨g1, _, none⟩) hg1).trans (p 1 _ rfl)
      have p2 := (hb.cell (p := ⟨g1, _, none⟩) hg1).trans (p 2 _ rfl)
      have p3 := (hb.cell (p := ⟨g1, _, none⟩) hg1).trans (p 3 _ rfl)
      have p4 := (hb.cell (p := ⟨g1, _, none⟩) hg1).trans (p 4 _ rfl)
      have hxl : xs.length = (L.map bareNd).length * 5 := by rw [own.out.1]; simp
      have hfx : ∀ h, (L.map bareNd)[k]'h = bareNd L[k] := fun h => by simp
      have t1 : (k : Int) < (L.length : Int) := by omega
      have t0 : (0 : Int) ≤ (k : Int) := by omega
      have t2 : k + 1 ≤ L.length := hlt
      have hlt' : k < (L.map bareNd).length := by simpa using hlt
      clear p P1 k1
      simp only [Nat.add_zero] at p0
      generalize L[k] = x at *
      have hfx' := hfx hlt'
      clear hfx
      go_wp2_with ((go_at_call 47; (with_reducible refine (hF _).mono ?_); rintro e w1 ⟨rfl, hb1⟩; have own1 := own_bel (own.out.alloc _) hb1; have hex := own_some own1; obtain ⟨y0, z0⟩ := hex (k * 5) (by omega); obtain ⟨y1, z1⟩ := hex (k * 5 + 1) (by omega); obtain ⟨y2, z2⟩ := hex (k * 5 + 2) (by omega); obtain ⟨y3, z3⟩ := hex (k * 5 + 3) (by omega); obtain ⟨y4, z4⟩ := hex (k * 5 + 4) (by omega); have hfz := own1.frozenAt; clear hex; have hws : wr.heap.size + 1 ≤ w1.heap.size := (by have := hb1.size; simp at this; omega)))
      go_roundw
      case rel =>
        have MVc : Mv (fun b => w.heap.size < b) w1 (fun b => w.heap.size < b) (setCells w1 w.heap.size (k * 5) [.int .i64 x.op, .int .i32 x.val, .string x.name, .int .i64 0, .int .i64 0]) := Mv.cells (S := fun b => w.heap.size < b) (fun h => Nat.lt_irrefl _ h) _ _ _
        have MVr : Mv (fun b => w.heap.size < b) wr (fun b => w.heap.size < b) (setCells w1 w.heap.size (k * 5) [.int .i64 x.op, .int .i32 x.val, .string x.name, .int .i64 0, .int .i64 0]) := ((Mv.below ((Below.refl _ _).alloc (Nat.le_refl _) _)).trans (Mv.below hb1)).trans MVc
        have HB1 : Below w.heap.size w w1 := bel_after (hb.alloc hb.size _) (by simp; omega) hb1
        have hnew : NdR (fun b => w.heap.size < b) (setCells w1 w.heap.size (k * 5) [.int .i64 x.op, .int .i32 x.val, .string x.name, .int .i64 0, .int .i64 0]) [.int .i64 x.op, .int .i32 x.val, .string x.name, .int .i64 0, .int .i64 0] ((L.map bareNd)[k]'hlt') := by rw [hfx']; exact rfl
        have hpre : Pre 5 NdR (fun b => w.heap.size < b) (setCells w1 w.heap.size (k * 5) [.int .i64 x.op, .int .i32 x.val, .string x.name, .int .i64 0, .int .i64 0]) (setAll xs (k * 5) [.int .i64 x.op, .int .i32 x.val, .string x.name, .int .i64 0, .int .i64 0]) (L.map bareNd) (k + 1) := Pre.put (pre.out.mv (fun _ _ h => h)) hxl hlt' rfl hnew
        exact ⟨k + 1, setAll xs (k * 5) [.int .i64 x.op, .int .i32 x.val, .string x.name, .int .i64 0, .int .i64 0], by omega, by go_num, own_stored [.int .i64 x.op, .int .i32 x.val, .string x.name, .int .i64 0, .int .i64 0] w1 xs (k * 5) own1, hpre, below_cells (Nat.le_refl _) [.int .i64 x.op, .int .i32 x.val, .string x.name, .int .i64 0, .int .i64 0] w1 (k * 5) HB1⟩
      case measure => simp [intOf]; omega
    · have t1 : ¬ (k : Int) < (L.length : Int) := by omega
      obtain rfl : k = L.length := by omega
      clear k1
      go_wp2
      go_ret
      refine ⟨⟨_, rfl, ?_⟩, hb⟩
      have hP : Pre 5 NdR (fun b => w.heap.size ≤ b) wr xs (L.map bareNd) (L.map bareNd).length := by
        rw [List.length_map]; exact pre.out.mv (fun _ _ h => h)
      have hown : wr.ownsRow w.heap.size 41 5 (.slice (some ⟨w.heap.size, 0, none⟩) (L.map bareNd).length L.length) (L.map bareNd).length xs := by rw [List.length_map]; exact own.out
      have := Els.own (n := L.length) (c' := L.length) (mx := 2932031007317) (hP.els (by rw [hown.1])) hown hgw (Nat.le_refl _) (by simp) (Nat.le_refl _) hlen
      rw [List.take_of_length_le (by simp)] at this
      exact this
end Go.Proofs.Ytbfojlfdiallnaa
