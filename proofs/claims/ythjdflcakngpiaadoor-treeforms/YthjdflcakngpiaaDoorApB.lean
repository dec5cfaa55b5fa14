import Derived.Test.YthjdflcakngpiaaDoorApA
import Derived.Deep.RegionHeld3
namespace Go.Proofs.YthjdflcakngpiaaDoor
open Go.RowKit
set_option linter.unusedVariables false

set_option maxRecDepth 100000 in
set_option maxHeartbeats 2000000 in
theorem copyList_any (L : List St) (u : Value) (S1 : Nat → Prop) (w : World) (h1 : Sts S1 w u L) :
    Calls Tryd.prog 25 #[u] w fun e w' => (∃ v', e = .returned v' ∧ Own 66 6 StR w.heap.size w' v' L) ∧ Below w.heap.size w w' := by
  obtain ⟨a1, c1, rfl, hlen, k1⟩ := Rows.any h1
  obtain ⟨i0, hi, hi0, hi1, hi2⟩ := info_parts info85
  clear h1
  go_enter Tryd.func25, Tryd.ntmps25
  go_wp2
  go_loopw [3, 4] (fun t3 t4 wr => ∃ (k : Nat) (xs : List Value) (v3 : Value), k ≤ L.length ∧ v3 = t3 ∧ t4 = .int .i64 (k : Int) ∧ Hid (wr.ownsRow w.heap.size 66 6 t3 k xs) ∧ Hid (Els 6 StR (Sx w.heap.size t3) wr xs (L.take k)) ∧ Below w.heap.size w wr) (fun _ t _ => L.length - (intOf t).toNat)
  case atStart => exact ⟨0, [], _, by omega, rfl, rfl, World.ownsRow_nil _ _ _ _, Els.nil _ _ _ _, Below.refl _ _⟩
  case round =>
    obtain ⟨k, xs, v3, hk, rfl, rfl, own, els, hb⟩ := hrel
    by_cases hlt : k < L.length
    · obtain ⟨g1, o1, rfl, _, hg1, P1⟩ := k1.resolve_left (by intro e; rw [e] at hlt; simp at hlt)
      obtain ⟨cs1, _, ⟨v, rfl, vN⟩, p⟩ := P1 k hlt
      have hF := fun (W : World) (hW : Below w.heap.size w W) => copyNodes_any L[k].expr _ S1 W (vN.below hW)
      obtain ⟨va, vc, rfl, -, -⟩ := Rows.any vN
      have p0 := (hb.cell (p := ⟨g1, _, none⟩) hg1).trans (p 0 _ rfl)
      have p1 := (hb.cell (p := ⟨g1, _, none⟩) hg1).trans (p 1 _ rfl)
      have p2 := (hb.cell (p := ⟨g1, _, none⟩) hg1).trans (p 2 _ rfl)
      have p3 := (hb.cell (p := ⟨g1, _, none⟩) hg1).trans (p 3 _ rfl)
      have p4 := (hb.cell (p := ⟨g1, _, none⟩) hg1).trans (p 4 _ rfl)
      have p5 := (hb.cell (p := ⟨g1, _, none⟩) hg1).trans (p 5 _ rfl)
      have hfx : ∀ h, L[k]'h = L[k] := fun h => by simp
      have t1 : (k : Int) < (L.length : Int) := by omega
      have t0 : (0 : Int) ≤ (k : Int) := by omega
      have t2 : k + 1 ≤ L.length := hlt
      have hlt' : k < L.length := by simpa using hlt
      clear p P1 k1 vN
      simp only [Nat.add_zero] at p0
      clear hfx
      generalize hfx' : L[k] = x at *
      go_wp2_with (first
        | (go_at_call 15; (with_reducible refine Calls.mono (hF _ (by exact hb.alloc hb.size _)) ?_); rintro e w1 ⟨⟨v', rfl, r0⟩, hb1⟩; have r1 := r0.mv (S' := fun b => wr.heap.size + 1 ≤ b) (Mv.weak fun b _ hbb => (by simpa using hbb)); clear r0; have q1 := r1; obtain ⟨ra, rc, rfl, -, -⟩ := Rows.any q1; clear q1; (try simp only [List.length_map] at r1); have K1 := (Has.new wr _ _ rfl).below hb1; obtain ⟨kz, i1, i2⟩ := id K1; have BW1 : Below wr.heap.size wr w1 := bel_after ((Below.refl _ _).alloc (Nat.le_refl _) _) (by simp) hb1; have HB1 : Below w.heap.size w w1 := bel_after (hb.alloc hb.size _) (by simp; have := hb.size; omega) hb1)
        | (at_builtin; (refine wpList_append_mine _ rfl _ _ 48 rfl w.heap.size 66 i0 _ 6 72 Tryd.underlying48 hi hi0 hi1 hi2 rfl (by decide) v3 k xs rfl (own_bel own.out (((BW1.setCell (Nat.le_refl _) _).alloc (by simp [World.setCell]; have := BW1.size; omega) _))) ⟨w1.heap.size, 0, none⟩ 1 1 [.int .i64 x.kind, .string x.name, .int .i64 x.ix, .slice ra x.expr.length rc, .int .i64 x.line, .int .i64 x.col] rfl rfl (cells_at (W := w1.setCell _ _) (by simp [World.setCell]) _ _) (all_one rfl) (by decide) (by unfold maxLen; omega) (by omega) (by simp [World.setCell]; have := HB1.size; omega) ?_); intro g' c' w4 own' hg' hat' _ hcap'))
      go_roundw
      case rel =>
        have BW : Below wr.heap.size wr ((w1.setCell ⟨wr.heap.size, 3, none⟩ (.slice ra x.expr.length rc)).alloc (.cells #[.int .i64 x.kind, .string x.name, .int .i64 x.ix, .slice ra x.expr.length rc, .int .i64 x.line, .int .i64 x.col] 66)) := ((BW1.setCell (Nat.le_refl _) _).alloc (by simp [World.setCell]; have := BW1.size; omega) _)
        have MVa : Mv (Sx w.heap.size v3) ((w1.setCell ⟨wr.heap.size, 3, none⟩ (.slice ra x.expr.length rc)).alloc (.cells #[.int .i64 x.kind, .string x.name, .int .i64 x.ix, .slice ra x.expr.length rc, .int .i64 x.line, .int .i64 x.col] 66)) (Sx w.heap.size (.slice (some ⟨g', 0, none⟩) (k + 1) c')) w4 := Mv.app hg' hat'
        have MVr : Mv (Sx w.heap.size v3) wr (Sx w.heap.size (.slice (some ⟨g', 0, none⟩) (k + 1) c')) w4 := (Mv.below BW).trans MVa
        have HBV : Below w.heap.size w ((w1.setCell ⟨wr.heap.size, 3, none⟩ (.slice ra x.expr.length rc)).alloc (.cells #[.int .i64 x.kind, .string x.name, .int .i64 x.ix, .slice ra x.expr.length rc, .int .i64 x.line, .int .i64 x.col] 66)) := (HB1.setCell (p := ⟨wr.heap.size, 3, none⟩) hb.size _).alloc (by simp [World.setCell]; have := HB1.size; omega) _
        have rV : Exs (Sx w.heap.size v3) ((w1.setCell ⟨wr.heap.size, 3, none⟩ (.slice ra x.expr.length rc)).alloc (.cells #[.int .i64 x.kind, .string x.name, .int .i64 x.ix, .slice ra x.expr.length rc, .int .i64 x.line, .int .i64 x.col] 66)) (.slice ra x.expr.length rc) _ := r1.mv ((Mv.set (g := wr.heap.size) (o := 3) (by intro h; have h' : wr.heap.size + 1 ≤ wr.heap.size := h; omega)).trans ((Mv.below ((Below.refl _ _).alloc (Nat.le_refl _) _)).trans (Mv.weak fun b _ (hbb : wr.heap.size + 1 ≤ b) => ⟨by have := hb.size; omega, by intro e; have := (own_lt own.out b e).2; omega⟩)))
        have hnew : StR (Sx w.heap.size (.slice (some ⟨g', 0, none⟩) (k + 1) c')) w4 [.int .i64 x.kind, .string x.name, .int .i64 x.ix, .slice ra x.expr.length rc, .int .i64 x.line, .int .i64 x.col] (L[k]'hlt') := by rw [hfx']; exact ⟨_, rfl, rV.mv MVa⟩
        have hels : Els 6 StR (Sx w.heap.size (.slice (some ⟨g', 0, none⟩) (k + 1) c')) w4 (xs ++ [.int .i64 x.kind, .string x.name, .int .i64 x.ix, .slice ra x.expr.length rc, .int .i64 x.line, .int .i64 x.col]) (L.take (k + 1)) := by rw [take_push hlt']; exact Els.push (mx := 0) (Els.mv (mx := 0) els.out (fun _ _ h => h.mv MVr)) rfl hnew
        exact ⟨k + 1, _, _, by omega, rfl, by go_num, own', hels, grown_bel HBV hg' (Nat.le_refl _) (fun j hj => (own_lt own.out j hj).1)⟩
      case measure => simp [intOf]; omega
    · have t1 : ¬ (k : Int) < (L.length : Int) := by omega
      obtain rfl : k = L.length := by omega
      clear k1
      go_wp2
      go_ret
      refine ⟨⟨_, rfl, xs, ?_, ?_⟩, hb⟩
      · exact own.out
      · have := els.out
        rw [List.take_of_length_le (by simp)] at this
        exact this
end Go.Proofs.YthjdflcakngpiaaDoor
namespace Go.Proofs.YthjdflcakngpiaaDoor
open Go.RowKit
set_option linter.unusedVariables false

end Go.Proofs.YthjdflcakngpiaaDoor
namespace Go.Proofs.YthjdflcakngpiaaDoor
open Go.RowKit
set_option linter.unusedVariables false

theorem own_form {w : World} {base e size n : Nat} {v : Value} {xs : List Value} (h : w.ownsRow base e size v n xs) : ∃ a c, v = .slice a n c := by
  rcases h.2 with ⟨h0, h1⟩ | ⟨g, cap, cur, h1, _⟩
  · exact ⟨none, 0, by rw [h0, h1]⟩
  · exact ⟨_, _, h1⟩
theorem nin3 (w : World) : ¬ (fun b => w.heap.size + 3 ≤ b) (w.heap.size + 1 + 1) := by
  intro h; have h' : w.heap.size + 3 ≤ w.heap.size + 1 + 1 := h; omega
theorem own_keepA {w w' : World} {base e size n : Nat} {v : Value} {xs : List Value} (h : w.ownsRow base e size v n xs) (hk : ∀ g, v.ownBlock = some g → w'.heap[g]? = w.heap[g]?) : w'.ownsRow base e size v n xs := by
  refine ⟨h.1, ?_⟩
  rcases h.2 with h0 | ⟨g, cap, cur, h1, h2, h3, h4⟩
  · exact .inl h0
  · exact .inr ⟨g, cap, cur, h1, h2, (hk g (by rw [h1]; rfl)).trans h3, h4⟩
end Go.Proofs.YthjdflcakngpiaaDoor
namespace Go.Proofs.YthjdflcakngpiaaDoor
open Go.RowKit
set_option linter.unusedVariables false

theorem HBtrans {B : Nat} {w wr w2 : World} (h : Below B w wr) (h2 : Below wr.heap.size wr w2) (hB : B ≤ wr.heap.size := by first | exact h.size | omega) : Below B w w2 := h.trans (h2.mono hB)
theorem Has.cells {b c : Nat} {vs : Array Value} (hc : b ≠ c) : ∀ (cs : List Value) (o : Nat) {w : World}, Has w b vs → Has (setCells w c o cs) b vs
  | [], _, _, h => h
  | v :: cs, o, _, h => Has.cells hc cs (o + 1) (h.far hc v)

end Go.Proofs.YthjdflcakngpiaaDoor
