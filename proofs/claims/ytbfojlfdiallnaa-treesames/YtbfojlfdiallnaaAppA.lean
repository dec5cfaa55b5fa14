import Derived.Test.YtbfojlfdiallnaaBarD
namespace Go.Proofs.Ytbfojlfdiallnaa
open Go.RowKit
set_option linter.unusedVariables false

theorem cells_at {W : World} {b : Nat} (hb : b = W.heap.size) (xs : List Value) (t : TypeId) : ∀ j u, xs[j]? = some u → (W.alloc (.cells xs.toArray t)).cell? ((⟨b, 0, none⟩ : Addr).add j) = some u := by
  subst hb; exact cells_ten xs t
theorem all_one {l : List Value} (h : l.all (fun u => u.oneCell') = true) : ∀ u ∈ l, u.oneCell' = true := fun u hu => List.all_eq_true.1 h u hu
theorem take_push {α : Type} {M : List α} {k : Nat} (h : k < M.length) : M.take (k + 1) = M.take k ++ [M[k]] := by
  rw [List.take_add_one, List.getElem?_eq_getElem h]; rfl
theorem cellsN_els (L : List Nd) (S : Nat → Prop) (w : World) : Els 5 NdR S w (cellsN L) L :=
  ⟨cellsN_len L, fun i hi => ⟨L[i].cs, rfl, rfl, fun j hj => cellsN_get L i j hi hj⟩⟩
theorem copyNodes_any (L : List Nd) (v : Value) (S1 : Nat → Prop) (w : World) (h : Exs S1 w v L) :
    Calls Try.prog 20 #[v] w fun e w' => (∃ v', e = .returned v' ∧ Exs (fun b => w.heap.size ≤ b) w' v' L) ∧ Below w.heap.size w w' :=
  (copy_any L v w h.nds.1 h.nds.2 (Rows.le h)).mono fun e w' ⟨⟨v', he, hown⟩, hb⟩ => ⟨⟨v', he, Els.owned (cellsN_els L _ w') hown (fun g hg => (own_lt hown g hg).1) (Rows.le h)⟩, hb⟩
/-- A list of the call's own, with what it holds. -/
def Own {α : Type} (e sz : Nat) (R : (Nat → Prop) → World → List Value → α → Prop) (B : Nat) (w : World) (v : Value) (L : List α) : Prop :=
  ∃ xs, w.ownsRow B e sz v L.length xs ∧ Els sz R (Sx B v) w xs L
theorem Own.rows {α : Type} {e sz mx : Nat} {R : (Nat → Prop) → World → List Value → α → Prop} {B : Nat} {w : World} {v : Value} {L : List α} (h : Own e sz R B w v L) (hR : ∀ cs x, R (Sx B v) w cs x → R (fun b => B ≤ b) w cs x) (hm : L.length ≤ mx) : Rows sz mx R (fun b => B ≤ b) w v L := by
  obtain ⟨xs, h1, h2⟩ := h
  exact Els.owned (Els.mv (mx := 0) h2 hR) h1 (fun g hg => (own_lt h1 g hg).1) hm

set_option maxRecDepth 100000 in
set_option maxHeartbeats 2000000 in
theorem refBareExpr_any (L : List Nd) (u : Value) (S1 : Nat → Prop) (w : World) (h1 : Exs S1 w u L) :
    Calls Try.prog 32 #[u] w fun e w' => (∃ v', e = .returned v' ∧ Own 41 5 NdR w.heap.size w' v' (L.map bareNd)) ∧ Below w.heap.size w w' := by
  obtain ⟨a1, c1, rfl, hlen, k1⟩ := Rows.any h1
  obtain ⟨i0, hi, hi0, hi1, hi2⟩ := info_parts info41
  clear h1
  go_enter Try.func32, Try.ntmps32
  go_wp2
  go_loopw [3, 4] (fun t3 t4 wr => ∃ (k : Nat) (xs : List Value) (v3 : Value), k ≤ L.length ∧ v3 = t3 ∧ t4 = .int .i64 (k : Int) ∧ Hid (wr.ownsRow w.heap.size 41 5 t3 k xs) ∧ Hid (Els 5 NdR (Sx w.heap.size t3) wr xs ((L.map bareNd).take k)) ∧ Below w.heap.size w wr) (fun _ t _ => L.length - (intOf t).toNat)
  case atStart => exact ⟨0, [], _, by omega, rfl, rfl, World.ownsRow_nil _ _ _ _, Els.nil _ _ _ _, Below.refl _ _⟩
  case round =>
    obtain ⟨k, xs, v3, hk, rfl, rfl, own, els, hb⟩ := hrel
    by_cases hlt : k < L.length
    · obtain ⟨g1, o1, rfl, _, hg1, P1⟩ := k1.resolve_left (by intro e; rw [e] at hlt; simp at hlt)
      obtain ⟨cs1, _, rfl, p⟩ := P1 k hlt
      have p0 := (hb.cell (p := ⟨g1, _, none⟩) hg1).trans (p 0 _ rfl)
      have p1 := (hb.cell (p := ⟨g1, _, none⟩) hg1).trans (p 1 _ rfl)
      have p2 := (hb.cell (p := ⟨g1, _, none⟩) hg1).trans (p 2 _ rfl)
      have p3 := (hb.cell (p := ⟨g1, _, none⟩) hg1).trans (p 3 _ rfl)
      have p4 := (hb.cell (p := ⟨g1, _, none⟩) hg1).trans (p 4 _ rfl)
      have hfx : ∀ h, (L.map bareNd)[k]'h = bareNd L[k] := fun h => by simp
      have t1 : (k : Int) < (L.length : Int) := by omega
      have t0 : (0 : Int) ≤ (k : Int) := by omega
      have t2 : k + 1 ≤ L.length := hlt
      have hlt' : k < (L.map bareNd).length := by simpa using hlt
      clear p P1 k1
      simp only [Nat.add_zero] at p0
      generalize L[k] = x at *
      have hfx' := hfx hlt'
      clear hfx
      go_wp2_with (first
        | (at_builtin; (refine wpList_append_mine _ rfl _ _ 22 rfl w.heap.size 41 i0 _ 5 48 Try.underlying22 hi hi0 hi1 hi2 rfl (by decide) v3 k xs rfl (own_bel own.out (((Below.refl _ _).alloc (Nat.le_refl _) _).alloc (by simp) _)) ⟨wr.heap.size + 1, 0, none⟩ 1 1 [.int .i64 x.op, .int .i32 x.val, .string x.name, .int .i64 0, .int .i64 0] rfl rfl (cells_at (W := wr.alloc _) (by simp) _ _) (all_one rfl) (by decide) (by unfold maxLen; omega) (by omega) (by simp; have := hb.size; omega) ?_); intro g' c' w4 own' hg' hat' _ hcap'))
      go_roundw
      case rel =>
        have BW : Below wr.heap.size wr ((wr.alloc (.cells #[.int .i64 x.op, .int .i32 x.val, .string x.name, .int .i64 0, .int .i64 0] 41)).alloc (.cells #[.int .i64 x.op, .int .i32 x.val, .string x.name, .int .i64 0, .int .i64 0] 41)) := ((Below.refl _ _).alloc (Nat.le_refl _) _).alloc (by simp) _
        have MVr : Mv (Sx w.heap.size v3) wr (Sx w.heap.size (.slice (some ⟨g', 0, none⟩) (k + 1) c')) w4 := (Mv.below BW).trans (Mv.app hg' hat')
        have HBV : Below w.heap.size w ((wr.alloc (.cells #[.int .i64 x.op, .int .i32 x.val, .string x.name, .int .i64 0, .int .i64 0] 41)).alloc (.cells #[.int .i64 x.op, .int .i32 x.val, .string x.name, .int .i64 0, .int .i64 0] 41)) := (hb.alloc hb.size _).alloc (by simp; have := hb.size; omega) _
        have hnew : NdR (Sx w.heap.size (.slice (some ⟨g', 0, none⟩) (k + 1) c')) w4 [.int .i64 x.op, .int .i32 x.val, .string x.name, .int .i64 0, .int .i64 0] ((L.map bareNd)[k]'hlt') := by rw [hfx']; exact rfl
        have hels : Els 5 NdR (Sx w.heap.size (.slice (some ⟨g', 0, none⟩) (k + 1) c')) w4 (xs ++ [.int .i64 x.op, .int .i32 x.val, .string x.name, .int .i64 0, .int .i64 0]) ((L.map bareNd).take (k + 1)) := by rw [take_push hlt']; exact Els.push (mx := 0) (Els.mv (mx := 0) els.out (fun _ _ h => h)) rfl hnew
        exact ⟨k + 1, _, _, by omega, rfl, by go_num, own', hels, grown_bel HBV hg' (Nat.le_refl _) (fun j hj => (own_lt own.out j hj).1)⟩
      case measure => simp [intOf]; omega
    · have t1 : ¬ (k : Int) < (L.length : Int) := by omega
      obtain rfl : k = L.length := by omega
      clear k1
      go_wp2
      go_ret
      refine ⟨⟨_, rfl, xs, ?_, ?_⟩, hb⟩
      · rw [List.length_map]; exact own.out
      · have := els.out
        rw [List.take_of_length_le (by simp)] at this
        exact this
end Go.Proofs.Ytbfojlfdiallnaa
