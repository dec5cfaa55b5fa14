import Derived.Test.YtnicolaphmffkaaGreatDoorRmB
import Derived.Test.YtnicolaphmffkaaGreatDoorRmN
import Derived.Test.YtnicolaphmffkaaGreatDoorRmT
import Derived.Test.YtnicolaphmffkaaGreatDoorRmD
set_option linter.unusedVariables false
set_option linter.unusedSimpArgs false
namespace Go.Proofs.YtnicolaphmffkaaGreatDoor
open Go.RowKit
theorem infoR133 : (Tryz.prog.info? 133).map (fun i => (i.zero, i.size, i.bytes)) = some (some (.agg #[.int .i64 0, .string ⟨#[]⟩, .int .i64 0, .slice none 0 0, .int .i64 0, .int .i64 0]), 6, 72) := by kernel_rfl
theorem infoR78 : (Tryz.prog.info? 78).map (fun i => (i.zero, i.size, i.bytes)) = some (some (.slice none 0 0), 1, 24) := by kernel_rfl
/-- What Room.Stmts answers. -/
def RmS (o : Nat → Nat) (B : Nat) (W : World) (rb : Nat) (F : Nat → List Lr) (L : List St) (e : Ending) (W' : World) : Prop :=
  ∃ (o' : Nat → Nat) (g c : Nat) (R0 : List Lr) (V' : Nat → Value), e = .returned (.slice (some ⟨g, 0, none⟩) L.length c) ∧ R0.length = L.length ∧ Hid (Rm o' B W' rb (upd (upd F 0 (F 0 ++ R0)) 1 (F 1 ++ [⟨g, L.length + 2, c⟩])) V') ∧ Hid (KyR o W o' W') ∧ L.length + 2 ≤ c ∧ Hid (Sts (Zo o') W' (.slice (some ⟨g, 0, none⟩) L.length c) L)
set_option maxRecDepth 100000 in
set_option maxHeartbeats 4000000 in
/-- Room.Stmts. -/
theorem roomStmts_any (L : List St) (va : Option Addr) (c rb : Nat) (o : Nat → Nat) (B : Nat) (F : Nat → List Lr) (V : Nat → Value) (W : World) (hs : ∀ X : World, Below B W X → Sts (fun _ => True) X (.slice va L.length c) L) (ho5 : ∀ b, b < B → o b = 5) (hlen : L.length ≤ 1048576) (hex : ∀ x ∈ L, x.expr.length ≤ 1048576) (hR : Rm o B W rb F V) (hb0 : (F 0).length + L.length ≤ 5864062014000) (hb1 : (F 1).length ≤ 5864062014000) :
    Calls Tryz.prog 27 #[.pointer (some ⟨rb, 0, none⟩), .slice va L.length c] W fun e W' => RmS o B W rb F L e W' := by
  obtain ⟨ti, hi, hi0, hi1, hi2⟩ := info_parts infoR133
  obtain ⟨tj, hj, hj0, hj1, hj2⟩ := info_parts infoR78
  have hBW : B ≤ W.heap.size := Nat.le_trans hR.bb (Nat.le_of_lt hR.lt)
  have KM : Hid (Has (W.alloc (.cells #[.int .i64 4444, .string ⟨#[]⟩, .int .i64 0, .slice none 0 0, .int .i64 0, .int .i64 0] 133)) W.heap.size #[.int .i64 4444, .string ⟨#[]⟩, .int .i64 0, .slice none 0 0, .int .i64 0, .int .i64 0]) := Has.new _ _ _ rfl
  have old1 : ∀ b, b < W.heap.size → nxO o W.heap.size 5 b = o b := fun b hb => nxO_old hb
  have hR1 : Hid (Rm (nxO o W.heap.size 5) B (W.alloc (.cells #[.int .i64 4444, .string ⟨#[]⟩, .int .i64 0, .slice none 0 0, .int .i64 0, .int .i64 0] 133)) rb F V) := (hR.re (fun b hb _ => old1 b hb)).below (bel1 _)
  have hK1 : Hid (KyR o W (nxO o W.heap.size 5) (W.alloc (.cells #[.int .i64 4444, .string ⟨#[]⟩, .int .i64 0, .slice none 0 0, .int .i64 0, .int .i64 0] 133))) := (KyR.refl o W).belw (bel1 _) old1
  have hb1' : Hid (Below W.heap.size W (W.alloc (.cells #[.int .i64 4444, .string ⟨#[]⟩, .int .i64 0, .slice none 0 0, .int .i64 0, .int .i64 0] 133))) := bel1 _
  have m5 : Hid (nxO o W.heap.size 5 W.heap.size = 5) := nxO_new (Nat.le_refl _)
  have z1 : Hid ((W.alloc (.cells #[.int .i64 4444, .string ⟨#[]⟩, .int .i64 0, .slice none 0 0, .int .i64 0, .int .i64 0] 133)).heap.size = W.heap.size + 1) := by show _ = _; simp
  have hsH := hideQ hs
  have hexH := hideQ hex
  have ho1 : Hid (∀ b, b < B → nxO o W.heap.size 5 b = 5) := fun b hb => by rw [old1 b (by omega)]; exact ho5 b hb
  clear hs hex old1
  go_enter Tryz.func27, Tryz.ntmps27
  go_wp2_with fail
  generalize (W.alloc (.cells #[.int .i64 4444, .string ⟨#[]⟩, .int .i64 0, .slice none 0 0, .int .i64 0, .int .i64 0] 133)) = W1 at *
  generalize nxO o W.heap.size 5 = o1 at *
  go_loopg [6, 7, 8] L.length (fun gk s6 s7 s8 wr => ∃ (k : Nat) (o2 : Nat → Nat) (R0 : List Lr) (Y : List Sq) (fa : Option Addr) (fc : Nat) (V2 : Nat → Value), k + gk = L.length ∧ s6 = .slice fa k fc ∧ s7 = .int .i64 (k : Int) ∧ Hid (Y.map (·.x) = L.take k) ∧ Hid (Y.length = k) ∧ Hid (R0.length = k) ∧ Hid (Rm o2 B wr rb (upd F 0 (F 0 ++ R0)) V2) ∧ Hid (KyR o1 W1 o2 wr) ∧ Hid (OwnT o2 3 W1.heap.size 133 6 wr (.slice fa k fc) k (cellsF Sq.cs Y)) ∧ Hid (∀ y ∈ Y, Exs (Zo o2) wr (.slice y.a y.x.expr.length y.c) y.x.expr))
  case atStart => exact ⟨0, o1, [], [], none, 0, V, by omega, rfl, rfl, rfl, rfl, rfl, by rw [upd_nil]; exact hR1, KyR.refl _ _, ⟨World.ownsRow_nil _ _ _ _, fun g hg => (by simp [Value.ownBlock] at hg)⟩, fun y hy => (by cases hy)⟩
  case round =>
    obtain ⟨k, o2, R0, Y, fa, fc, V2, hk, rfl, rfl, hY, hYl, hRl, hR2, hK2, hO2, hE2⟩ := hrel
    have hBw : Hid (Below B W wr) := hK2.out.bel (hb1'.out.mono hBW) (by have := z1.out; omega) ho1.out
    have hz2 : Hid (W1.heap.size ≤ wr.heap.size) := hK2.out.size
    by_cases hlt : k < L.length
    · have t1 : (k : Int) < (L.length : Int) := by omega
      have t0 : (0 : Int) ≤ (k : Int) := by omega
      obtain ⟨sa', sc', e1, _, kS⟩ := Rows.any (hsH.out wr hBw.out)
      injection e1 with e1 _ e2
      subst e1
      subst e2
      obtain ⟨g0, o0, rfl, _, hg0, P⟩ := kS.resolve_left (by intro e; rw [e] at hlt; simp at hlt)
      obtain ⟨cs, _, ⟨ve, rfl, q1⟩, P2⟩ := P k hlt
      have p0 := P2 0 _ rfl
      have p1 := P2 1 _ rfl
      have p2 := P2 2 _ rfl
      have p3 := P2 3 _ rfl
      have p4 := P2 4 _ rfl
      have p5 := P2 5 _ rfl
      simp only [Nat.add_zero] at p0
      have hxl := hexH.out L[k] (List.getElem_mem hlt)
      have htk : Hid (L.take (k + 1) = L.take k ++ [L[k]]) := List.take_succ_eq_append_getElem hlt
      clear P P2 kS
      generalize L[k] = x at *
      obtain ⟨xa, xc, rfl, -⟩ := Rows.any q1
      have hB3 : Below wr.heap.size wr (wr.alloc (.cells #[.int .i64 x.kind, .string x.name, .int .i64 x.ix, .slice xa x.expr.length xc, .int .i64 x.line, .int .i64 x.col] 133)) := bel1 _
      have HS3 : Hid (Has (wr.alloc (.cells #[.int .i64 x.kind, .string x.name, .int .i64 x.ix, .slice xa x.expr.length xc, .int .i64 x.line, .int .i64 x.col] 133)) wr.heap.size #[.int .i64 x.kind, .string x.name, .int .i64 x.ix, .slice xa x.expr.length xc, .int .i64 x.line, .int .i64 x.col]) := Has.new _ _ _ rfl
      have q3 : Hid (Fl 5 Nd.cs (wr.alloc (.cells #[.int .i64 x.kind, .string x.name, .int .i64 x.ix, .slice xa x.expr.length xc, .int .i64 x.line, .int .i64 x.col] 133)) (.slice xa x.expr.length xc) x.expr) := (Exs.flat q1).below hB3
      have old3 : ∀ b, b < wr.heap.size → nxO o2 wr.heap.size 5 b = o2 b := fun b hb => nxO_old hb
      have hR3 : Hid (Rm (nxO o2 wr.heap.size 5) B (wr.alloc (.cells #[.int .i64 x.kind, .string x.name, .int .i64 x.ix, .slice xa x.expr.length xc, .int .i64 x.line, .int .i64 x.col] 133)) rb (upd F 0 (F 0 ++ R0)) V2) := (hR2.out.re (fun b hb _ => old3 b hb)).below hB3
      have hK3 : Hid (KyR o1 W1 (nxO o2 wr.heap.size 5) (wr.alloc (.cells #[.int .i64 x.kind, .string x.name, .int .i64 x.ix, .slice xa x.expr.length xc, .int .i64 x.line, .int .i64 x.col] 133))) := hK2.out.belw (hB3.mono hz2.out) (fun b hb => old3 b (Nat.lt_of_lt_of_le hb hz2.out))
      have hO3 : Hid (OwnT (nxO o2 wr.heap.size 5) 3 W1.heap.size 133 6 (wr.alloc (.cells #[.int .i64 x.kind, .string x.name, .int .i64 x.ix, .slice xa x.expr.length xc, .int .i64 x.line, .int .i64 x.col] 133)) (.slice fa k fc) k (cellsF Sq.cs Y)) := (hO2.out.re2 old3).ky (Ky.below (t := 7) hB3) (by decide)
      have hE3 : Hid (∀ y ∈ Y, Exs (Zo (nxO o2 wr.heap.size 5)) (wr.alloc (.cells #[.int .i64 x.kind, .string x.name, .int .i64 x.ix, .slice xa x.expr.length xc, .int .i64 x.line, .int .i64 x.col] 133)) (.slice y.a y.x.expr.length y.c) y.x.expr) := fun y hy => ((hE2.out y hy).mv (Mv.re old3)).mv (Mv.below hB3)
      have m3 : Hid (nxO o2 wr.heap.size 5 wr.heap.size = 5) := nxO_new (Nat.le_refl _)
      have l0 : Hid ((upd F 0 (F 0 ++ R0) 0).length ≤ 5864062014000) := by show _ ≤ _; rw [upd_same, List.length_append, hRl.out]; omega
      clear hO2 hE2 hR2 hK2 old3 hB3 q1
      go_upto_region 7 with fail
      generalize (wr.alloc (.cells #[.int .i64 x.kind, .string x.name, .int .i64 x.ix, .slice xa x.expr.length xc, .int .i64 x.line, .int .i64 x.col] 133)) = w3 at *
      generalize nxO o2 wr.heap.size 5 = o3 at *
      clear p0 p1 p2 p3 p4 p5
      have k7 := hideQ (roomNodes_any x.expr xa xc rb o3 B (upd F 0 (F 0 ++ R0)) V2 w3 q3.out hxl hR3.out l0.out)
      obtain ⟨_, s1, s2⟩ := id HS3.out
      go_wp2_with fail
      go_at_call 7
      refine Calls.mono k7.out ?_
      rintro e w4 ⟨o4, g4, c4, V4, rfl, hR4, hK4, hc4, hF4⟩
      have m4 : Hid (o4 wr.heap.size = 5) := by show _ = _; rw [hK4.out.old _ HS3.out.1]; exact m3.out
      have HS4 := hK4.out.has HS3.out (by rw [m3.out]; decide) (by rw [m3.out]; decide)
      have HS5 := HS4.set 3 (by simp) (.slice (some ⟨g4, 0, none⟩) x.expr.length c4)
      simp only [List.setIfInBounds_toArray, List.set_cons_succ, List.set_cons_zero] at HS5
      have HS5 := hideQ HS5
      have kS : Hid (Ky o4 5 w4 (w4.setCell ⟨wr.heap.size, 3, none⟩ (.slice (some ⟨g4, 0, none⟩) x.expr.length c4))) := Ky.set m4.out
      have hR5 := hideQ (hR4.out.ky kS.out (by decide) (by decide) (by decide))
      have hK5 : Hid (KyR o1 W1 o4 (w4.setCell ⟨wr.heap.size, 3, none⟩ (.slice (some ⟨g4, 0, none⟩) x.expr.length c4))) := (hK3.out.trans hK4.out).belw ((Below.refl _ _).setCell (p := ⟨wr.heap.size, 3, none⟩) hz2.out _) (fun _ _ => rfl)
      have hO5 := hideQ ((hK4.out.own hO3.out (by decide) (by decide)).ky kS.out (by decide))
      have hE5 : Hid (∀ y ∈ Y, Exs (Zo o4) (w4.setCell ⟨wr.heap.size, 3, none⟩ (.slice (some ⟨g4, 0, none⟩) x.expr.length c4)) (.slice y.a y.x.expr.length y.c) y.x.expr) := fun y hy => ((hE3.out y hy).mv hK4.out.mv).mv (kS.out.mv (by decide))
      have hX5 := hideQ ((exs_fz (c := c4) hF4.out hxl (by omega)).mv (kS.out.mv (by decide)))
      clear s1 s2 k7 q3
      obtain ⟨_, s1, s2⟩ := id HS4
      clear HS4
      go_upto_region 8 with fail
      generalize (w4.setCell ⟨wr.heap.size, 3, none⟩ (.slice (some ⟨g4, 0, none⟩) x.expr.length c4)) = w5 at *
      clear s1 s2 hR4 hK4 hF4 hR3 hK3 hO3 hE3 kS
      obtain ⟨_, s1, s2⟩ := id HS5.out
      have h5o := own_bel hO5.out.own (bel1 (.cells #[.int .i64 x.kind, .string x.name, .int .i64 x.ix, .slice (some ⟨g4, 0, none⟩) x.expr.length c4, .int .i64 x.line, .int .i64 x.col] 133))
      have h5s : W1.heap.size ≤ (w5.alloc (.cells #[.int .i64 x.kind, .string x.name, .int .i64 x.ix, .slice (some ⟨g4, 0, none⟩) x.expr.length c4, .int .i64 x.line, .int .i64 x.col] 133)).heap.size := by have := hK5.out.size; simp; omega
      go_wp2_with (at_builtin; (refine wpList_append_mine _ rfl _ _ 78 rfl W1.heap.size 133 ti _ 6 72 Tryz.underlying78 hi hi0 hi1 hi2 rfl (by decide) (.slice fa k fc) k (cellsF Sq.cs Y) rfl h5o ⟨w5.heap.size, 0, none⟩ 1 1 [.int .i64 x.kind, .string x.name, .int .i64 x.ix, .slice (some ⟨g4, 0, none⟩) x.expr.length c4, .int .i64 x.line, .int .i64 x.col] rfl rfl (cells_at (W := w5) rfl _ _) (all_one rfl) (by decide) (by unfold maxLen; omega) (by omega) h5s ?_); intro g9 k9 w9 o9 gr9 at9 _ hc9)
      have q9 : Gw o4 3 w5 (w5.alloc (.cells #[.int .i64 x.kind, .string x.name, .int .i64 x.ix, .slice (some ⟨g4, 0, none⟩) x.expr.length c4, .int .i64 x.line, .int .i64 x.col] 133)) w9 (.slice fa k fc) g9 := ⟨bel1 _, gr9, at9, fun q hq => ⟨(own_lt hO5.out.own q hq).2, hO5.out.tag q hq⟩, by decide⟩
      have hR9 : Hid (Rm (mkO o4 w5.heap.size 3 g9) B w9 rb (upd F 0 (F 0 ++ (R0 ++ [⟨g4, x.expr.length + 2, c4⟩]))) V4) := by have := hR5.out.gw q9 (by decide) (by decide); rw [upd_upd] at this; exact this
      have hK9 : Hid (KyR o1 W1 (mkO o4 w5.heap.size 3 g9) w9) := hK5.out.belw (grown_bel (Below.refl _ w5 |>.alloc hK5.out.size _) gr9 hK5.out.size (fun q hq => (own_lt hO5.out.own q hq).1)) (fun b hb => mkO_old (Nat.lt_of_lt_of_le hb hK5.out.size))
      have hYl9 : Hid ((Y ++ [(⟨x, some ⟨g4, 0, none⟩, c4⟩ : Sq)]).length = k + 1) := by show _ = _; rw [List.length_append, hYl.out]; rfl
      have hY9 : Hid ((Y ++ [(⟨x, some ⟨g4, 0, none⟩, c4⟩ : Sq)]).map (·.x) = L.take (k + 1)) := by show _ = _; rw [List.map_append, hY.out, htk.out]; rfl
      have hR09 : Hid ((R0 ++ [(⟨g4, x.expr.length + 2, c4⟩ : Lr)]).length = k + 1) := by show _ = _; rw [List.length_append, hRl.out]; rfl
      have hO9 : Hid (OwnT (mkO o4 w5.heap.size 3 g9) 3 W1.heap.size 133 6 w9 (.slice (some ⟨g9, 0, none⟩) (k + 1) k9) (k + 1) (cellsF Sq.cs (Y ++ [(⟨x, some ⟨g4, 0, none⟩, c4⟩ : Sq)]))) := ⟨by rw [show cellsF Sq.cs (Y ++ [(⟨x, some ⟨g4, 0, none⟩, c4⟩ : Sq)]) = cellsF Sq.cs Y ++ (⟨x, some ⟨g4, 0, none⟩, c4⟩ : Sq).cs from by rw [cellsF_append]; simp [cellsF]]; exact o9, tag_new q9.new⟩
      have hE9 : Hid (∀ y ∈ Y ++ [(⟨x, some ⟨g4, 0, none⟩, c4⟩ : Sq)], Exs (Zo (mkO o4 w5.heap.size 3 g9)) w9 (.slice y.a y.x.expr.length y.c) y.x.expr) := by
        intro y hy
        rcases List.mem_append.1 hy with hy | hy
        · exact (hE5.out y hy).mv q9.mv
        · rw [List.mem_singleton.1 hy]; exact hX5.out.mv q9.mv
      clear q9 hE5 hX5 hO5 hK5 hR5 h5o o9 gr9 at9 s1 s2 hc9
      go_roundg (gk - 1)
      case measure => go_light; omega
      case rel => exact ⟨k + 1, _, _, _, _, k9, _, by omega, rfl, by go_num, hY9, hYl9, hR09, hR9, hK9, hO9, hE9⟩
    · have t1 : ¬ (k : Int) < (L.length : Int) := by omega
      obtain rfl : k = L.length := by omega
      have hYx : Hid (Y.map (·.x) = L) := by show _ = _; rw [hY.out, List.take_length]
      have m6 : Hid (o2 W.heap.size = 5) := by show _ = _; rw [hK2.out.old _ (by have := z1.out; omega)]; exact m5.out
      have KM2 := hideQ (hK2.out.has KM.out (by rw [m5.out]; decide) (by rw [m5.out]; decide))
      have h5o := own_bel hO2.out.own (bel1 (.cells #[.int .i64 4444, .string ⟨#[]⟩, .int .i64 0, .slice none 0 0, .int .i64 0, .int .i64 0, .int .i64 4444, .string ⟨#[]⟩, .int .i64 0, .slice none 0 0, .int .i64 0, .int .i64 0] 133))
      have h5s : W1.heap.size ≤ (wr.alloc (.cells #[.int .i64 4444, .string ⟨#[]⟩, .int .i64 0, .slice none 0 0, .int .i64 0, .int .i64 0, .int .i64 4444, .string ⟨#[]⟩, .int .i64 0, .slice none 0 0, .int .i64 0, .int .i64 0] 133)).heap.size := by have := hz2.out; simp; omega
      obtain ⟨_, s1, s2⟩ := id KM2.out
      go_upto_region 10 with (at_builtin; (refine wpList_append_mine _ rfl _ _ 78 rfl W1.heap.size 133 ti _ 6 72 Tryz.underlying78 hi hi0 hi1 hi2 rfl (by decide) (.slice fa L.length fc) L.length (cellsF Sq.cs Y) rfl h5o ⟨wr.heap.size, 0, none⟩ 2 2 [.int .i64 4444, .string ⟨#[]⟩, .int .i64 0, .slice none 0 0, .int .i64 0, .int .i64 0, .int .i64 4444, .string ⟨#[]⟩, .int .i64 0, .slice none 0 0, .int .i64 0, .int .i64 0] rfl rfl (cells_at (W := wr) rfl _ _) (all_one rfl) (by decide) (by unfold maxLen; omega) (by omega) h5s ?_); intro g9 k9 w9 o9 gr9 at9 _ hc9)
      have q9 : Gw o2 3 wr (wr.alloc (.cells #[.int .i64 4444, .string ⟨#[]⟩, .int .i64 0, .slice none 0 0, .int .i64 0, .int .i64 0, .int .i64 4444, .string ⟨#[]⟩, .int .i64 0, .slice none 0 0, .int .i64 0, .int .i64 0] 133)) w9 (.slice fa L.length fc) g9 := ⟨bel1 _, gr9, at9, fun q hq => ⟨(own_lt hO2.out.own q hq).2, hO2.out.tag q hq⟩, by decide⟩
      have hg9 := own_lt o9 g9 rfl
      have hR10 : Rm (frO (mkO o2 wr.heap.size 3 g9) g9) B w9 rb (upd F 0 (F 0 ++ R0)) V2 := (hR2.out.gw q9 (by decide) (by decide)).fr q9.new
      have hK10 : Hid (KyR o1 W1 (frO (mkO o2 wr.heap.size 3 g9) g9) w9) := hK2.out.belw (grown_bel (Below.refl _ wr |>.alloc hz2.out _) gr9 hz2.out (fun q hq => (own_lt hO2.out.own q hq).1)) (fun b hb => by
        rw [frO_other _ (by omega), mkO_old (Nat.lt_of_lt_of_le hb hz2.out)])
      have hE10 : Hid (∀ y ∈ Y, Exs (Zo (frO (mkO o2 wr.heap.size 3 g9) g9)) w9 (.slice y.a y.x.expr.length y.c) y.x.expr) := fun y hy => ((hE2.out y hy).mv q9.mv).mv Mv.fr
      have hF10 : Fz (frO (mkO o2 wr.heap.size 3 g9) g9) w9 g9 (cellsF Sq.cs Y ++ [.int .i64 4444, .string ⟨#[]⟩, .int .i64 0, .slice none 0 0, .int .i64 0, .int .i64 0, .int .i64 4444, .string ⟨#[]⟩, .int .i64 0, .slice none 0 0, .int .i64 0, .int .i64 0]) := ⟨frO_same _ _, hg9.2, own_reads o9 rfl⟩
      have hm0 : MkP (rS 1) (rO 1) (rV 1) (nwO W1.heap.size) w9 ⟨g9, L.length + 2, k9⟩ := rm_mark (n := L.length) o9 (by rw [cellsF_len sq_len, hYl.out]; rfl) hlen (Nat.le_refl _) (by rfl) (by rfl)
      have hm10 : MkP (rS 1) (rO 1) (rV 1) (frO (mkO o2 wr.heap.size 3 g9) g9) w9 ⟨g9, L.length + 2, k9⟩ := ⟨hm0.n2, hm0.nb, frO_same _ _, hm0.lt, hm0.m1, hm0.m2⟩
      have hcap : L.length + 2 ≤ k9 := own_capR o9 (by omega)
      have hS10 := hideQ (sts_fz hF10 hYx.out hE10.out hlen (by omega : L.length ≤ k9))
      have i1 : (L.length : Int) ≤ (k9 : Int) := by omega
      have i2 : (0 : Int) ≤ (L.length : Int) := by omega
      have i3 : L.length ≤ k9 := by omega
      clear hF10 hm0 hE10 hE2 hR2 hK2 hO2 q9 hg9 o9 gr9 at9 hc9 h5o s1 s2 KM2 hY hYl hYx m6
      generalize frO (mkO o2 wr.heap.size 3 g9) g9 = o10 at *
      have c6 := hR10.cl 1 (by decide)
      have f6 := hR10.fz 1
      have l6 := hR10.lt
      have hF6 := (hR10.fl 1 (by decide)).own.own
      obtain ⟨ga, gc, hV⟩ := own_form hF6
      have hVh := hideQ hV
      rw [hV] at c6 hF6
      have hb7 := bel1 (w := w9) (.cells #[.slice (some ⟨g9, 0, none⟩) (L.length + 2) k9] 78)
      have hF7 := own_bel hF6 hb7
      have s7 : B ≤ (w9.alloc (.cells #[.slice (some ⟨g9, 0, none⟩) (L.length + 2) k9] 78)).heap.size := by have := hR10.bb; simp; omega
      clear hV hF6
      change w9.cell? ⟨rb, 1, none⟩ = some (.slice ga (F 1).length gc) at c6
      change (w9.alloc (.cells #[.slice (some ⟨g9, 0, none⟩) (L.length + 2) k9] 78)).ownsRow B 78 1 (.slice ga (F 1).length gc) (F 1).length (cellsF Lr.cs (F 1)) at hF7
      go_wp2_with (at_builtin; (refine wpList_append_mine _ rfl _ _ 35 rfl B 78 tj _ 1 24 Tryz.underlying35 hj hj0 hj1 hj2 rfl (by decide) (.slice ga (F 1).length gc) (F 1).length (cellsF Lr.cs (F 1)) rfl hF7 ⟨w9.heap.size, 0, none⟩ 1 1 [.slice (some ⟨g9, 0, none⟩) (L.length + 2) k9] rfl rfl (cells_at (W := w9) rfl _ _) (all_one rfl) (by decide) (by unfold maxLen; omega) (by omega) s7 ?_); intro g7 k7 w7 o7 gr7 at7 _ hc7; have q7 := rm_gw hR10 (k := 1) (by decide) hb7 (by rw [hVh.out]; exact gr7) (by rw [hVh.out]; exact at7); have hP := hR10.push (r := ⟨g9, L.length + 2, k9⟩) (by decide) q7 o7 (hm10.mv q7.mv); have c7 : w7.cell? ⟨rb, 1, none⟩ = some (.slice ga (F 1).length gc) := (cell_heap (j := 1) (q7.ky.block rb hR10.lt (by rw [hR10.ob]; decide))).trans c6; have f7 := rm_fz hR10 q7 1; have l7 : rb < w7.heap.size := Nat.lt_of_lt_of_le hR10.lt q7.ky.size)
      go_ret
      exact ⟨_, g9, k9, R0, _, rfl, hRl.out, hP.1, (hK1.out.trans hK10.out).trans hP.2, hcap, (hS10.out.mv q7.mv).mv (hR10.ksm _ _ _ _ _)⟩
end Go.Proofs.YtnicolaphmffkaaGreatDoor
