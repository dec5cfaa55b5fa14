import Derived.Test.YtnicolaphmffkaaGreatDoorSnJ
namespace Go.Proofs.YtnicolaphmffkaaGreatDoor
open Go.RowKit
set_option linter.unusedVariables false
set_option linter.unusedSimpArgs false

set_option maxRecDepth 100000 in
set_option maxHeartbeats 8000000 in
theorem things_any (G : List Gp) (D : List Dt) (TM CT : List ByteArray) (VR : List Vr) (SG : List Ts) (pn : ByteArray) (ga ca da ta ka va sa : Option Addr) (gc nC cc dc tc kc vc sc : Nat) (stt : Int) (w : World) (hG : Fl 5 Gp.cs w (.slice ga G.length gc) G) (hD : Fl 4 Dt.cs w (.slice da D.length dc) D) (hT : Fl 1 txC w (.slice ta TM.length tc) TM) (hC : Fl 1 txC w (.slice ka CT.length kc) CT) (hV : Fl 2 Vr.cs w (.slice va VR.length vc) VR) (hS : Tss (fun _ => True) w (.slice sa SG.length sc) SG)
    (lG : G.length ≤ 64) (lD : D.length ≤ 64) (lT : TM.length ≤ 64) (lC : CT.length ≤ 64) (lV : VR.length ≤ 64) (lS : SG.length ≤ 256) :
    Calls Tryz.prog 38 #[(.agg #[.string pn, .slice ga G.length gc, .slice ca nC cc, .slice da D.length dc, .slice ta TM.length tc, .slice ka CT.length kc, .slice va VR.length vc, .slice sa SG.length sc, .int .i64 stt])] w fun e w' => NmP (nmsL G D TM CT VR SG) w e w' ∧ Below w.heap.size w w' := by
  obtain ⟨_, _, e1, kG⟩ := hG.any
  injection e1 with e1 _ e2
  subst e1
  subst e2
  obtain ⟨_, _, e1, kD⟩ := hD.any
  injection e1 with e1 _ e2
  subst e1
  subst e2
  obtain ⟨_, _, e1, kV⟩ := hV.any
  injection e1 with e1 _ e2
  subst e1
  subst e2
  obtain ⟨_, _, e1, _, kS⟩ := Rows.any hS
  injection e1 with e1 _ e2
  subst e1
  subst e2
  obtain ⟨ti, hi, hi0, hi1, hi2⟩ := info_parts info9n
  have hb0 : Below w.heap.size w (w.alloc (.cells #[.string pn, .slice ga G.length gc, .slice ca nC cc, .slice da D.length dc, .slice ta TM.length tc, .slice ka CT.length kc, .slice va VR.length vc, .slice sa SG.length sc, .int .i64 stt] 31)) := bel1 _
  have K0 : Has (w.alloc (.cells #[.string pn, .slice ga G.length gc, .slice ca nC cc, .slice da D.length dc, .slice ta TM.length tc, .slice ka CT.length kc, .slice va VR.length vc, .slice sa SG.length sc, .int .i64 stt] 31)) w.heap.size #[.string pn, .slice ga G.length gc, .slice ca nC cc, .slice da D.length dc, .slice ta TM.length tc, .slice ka CT.length kc, .slice va VR.length vc, .slice sa SG.length sc, .int .i64 stt] := Has.new _ _ _ rfl
  go_enter Tryz.func38, Tryz.ntmps38
  go_wp2_with fail
  generalize (w.alloc (.cells #[.string pn, .slice ga G.length gc, .slice ca nC cc, .slice da D.length dc, .slice ta TM.length tc, .slice ka CT.length kc, .slice va VR.length vc, .slice sa SG.length sc, .int .i64 stt] 31)) = W0 at *
  go_loopw [3, 4] (fun u i wr => ∃ (k n : Nat) (xa : Option Addr) (xc : Nat), k ≤ G.length ∧ n ≤ 576 ∧ u = .slice xa n xc ∧ i = .int .i64 (k : Int) ∧ Hid (n = 0 + k) ∧ Hid (wr.ownsRow W0.heap.size 9 1 (.slice xa n xc) n (cellsT (([] : List ByteArray) ++ (G.map (·.name)).take k))) ∧ Hid (Below W0.heap.size W0 wr)) (fun _ i _ => G.length - (intOf i).toNat)
  case atStart => exact ⟨0, 0, none, 0, by omega, by omega, rfl, rfl, rfl, World.ownsRow_nil _ _ _ _, Below.refl _ _⟩
  case round =>
    obtain ⟨k, n, xa, xc, hkl, hn, rfl, rfl, hnn, ow', hb'⟩ := hrel
    have ow := ow'.out
    have hb := hb'.out
    clear ow' hb'
    have hbB := bel_after hb0 hb0.size hb
    have KT := K0.below hb
    obtain ⟨_, t1, t2⟩ := id KT
    by_cases hlt : k < G.length
    case pos =>
      obtain ⟨g, o, rfl, hg, P⟩ := kG.resolve_left (by intro e; rw [e] at hlt; simp at hlt)
      have p0 := (hbB.cell (p := ⟨g, _, none⟩) hg).trans (P k hlt 0 _ rfl)
      simp only [Nat.add_zero] at p0
      clear P
      have s1 : (k : Int) < (G.length : Int) := by omega
      have s0 : (0 : Int) ≤ (k : Int) := by omega
      have hnx : cellsT (([] : List ByteArray) ++ (G.map (·.name)).take (k + 1)) = cellsT (([] : List ByteArray) ++ (G.map (·.name)).take k) ++ [.string G[k].name] := by rw [take_map_succ (fun x => x.name) G k hlt, ← List.append_assoc, cellsT_app]; rfl
      generalize cellsT (([] : List ByteArray) ++ (G.map (·.name)).take k) = XS at *
      generalize G[k].name = x0 at *
      go_wp2_with (at_builtin; (refine wpList_append_mine _ rfl _ _ 27 rfl W0.heap.size 9 ti _ 1 16 Tryz.underlying27 hi hi0 hi1 hi2 rfl (by decide) (.slice xa n xc) n XS rfl (own_bel ow (bel1 _)) ⟨wr.heap.size, 0, none⟩ 1 1 [.string x0] rfl rfl (cells_at (W := wr) rfl _ _) (all_one rfl) (by decide) (by unfold maxLen; omega) (by omega) (by have := hb.size; simp; omega) ?_); intro g' c' y o3 gr _ _ _; have b3 := grown_bel (hb.alloc hb.size _) gr (Nat.le_refl _) (fun q hq => (own_lt ow q hq).1))
      go_roundw
      case rel => exact ⟨k + 1, n + 1, _, _, by omega, (by have := hnn.out; omega), rfl, by go_num, (by show _ = _; have := hnn.out; omega), (by show World.ownsRow _ _ _ _ _ _ _; rw [hnx]; exact o3), b3⟩
      case measure => simp [intOf]; omega
    case neg =>
      have s1 : ¬ (k : Int) < (G.length : Int) := by omega
      obtain rfl : k = G.length := by omega
      rw [List.take_of_length_le (by simp)] at ow
      rw [List.nil_append] at ow
      go_wp2_with fail
      go_loopw [3, 5] (fun u i wr => ∃ (k n : Nat) (xa : Option Addr) (xc : Nat), k ≤ D.length ∧ n ≤ 576 ∧ u = .slice xa n xc ∧ i = .int .i64 (k : Int) ∧ Hid (n = G.length + k) ∧ Hid (wr.ownsRow W0.heap.size 9 1 (.slice xa n xc) n (cellsT (G.map (·.name) ++ (D.map (·.name)).take k))) ∧ Hid (Below W0.heap.size W0 wr)) (fun _ i _ => D.length - (intOf i).toNat)
      case atStart => exact ⟨0, n, _, _, by omega, (by have := hnn.out; omega), rfl, rfl, (by show _ = _; have := hnn.out; omega), (by show World.ownsRow _ _ _ _ _ _ _; rw [List.take_zero, List.append_nil]; exact ow), hb⟩
      case round =>
        obtain ⟨k, n, xa, xc, hkl, hn, rfl, rfl, hnn, ow', hb'⟩ := hrel
        have ow := ow'.out
        have hb := hb'.out
        clear ow' hb'
        have hbB := bel_after hb0 hb0.size hb
        have KT := K0.below hb
        obtain ⟨_, t1, t2⟩ := id KT
        by_cases hlt : k < D.length
        case pos =>
          obtain ⟨g, o, rfl, hg, P⟩ := kD.resolve_left (by intro e; rw [e] at hlt; simp at hlt)
          have p0 := (hbB.cell (p := ⟨g, _, none⟩) hg).trans (P k hlt 0 _ rfl)
          simp only [Nat.add_zero] at p0
          clear P
          have s1 : (k : Int) < (D.length : Int) := by omega
          have s0 : (0 : Int) ≤ (k : Int) := by omega
          have hnx : cellsT (G.map (·.name) ++ (D.map (·.name)).take (k + 1)) = cellsT (G.map (·.name) ++ (D.map (·.name)).take k) ++ [.string D[k].name] := by rw [take_map_succ (fun x => x.name) D k hlt, ← List.append_assoc, cellsT_app]; rfl
          generalize cellsT (G.map (·.name) ++ (D.map (·.name)).take k) = XS at *
          generalize D[k].name = x0 at *
          go_wp2_with (at_builtin; (refine wpList_append_mine _ rfl _ _ 27 rfl W0.heap.size 9 ti _ 1 16 Tryz.underlying27 hi hi0 hi1 hi2 rfl (by decide) (.slice xa n xc) n XS rfl (own_bel ow (bel1 _)) ⟨wr.heap.size, 0, none⟩ 1 1 [.string x0] rfl rfl (cells_at (W := wr) rfl _ _) (all_one rfl) (by decide) (by unfold maxLen; omega) (by omega) (by have := hb.size; simp; omega) ?_); intro g' c' y o3 gr _ _ _; have b3 := grown_bel (hb.alloc hb.size _) gr (Nat.le_refl _) (fun q hq => (own_lt ow q hq).1))
          go_roundw
          case rel => exact ⟨k + 1, n + 1, _, _, by omega, (by have := hnn.out; omega), rfl, by go_num, (by show _ = _; have := hnn.out; omega), (by show World.ownsRow _ _ _ _ _ _ _; rw [hnx]; exact o3), b3⟩
          case measure => simp [intOf]; omega
        case neg =>
          have s1 : ¬ (k : Int) < (D.length : Int) := by omega
          obtain rfl : k = D.length := by omega
          rw [List.take_of_length_le (by simp)] at ow
          have hTw : ∀ X : World, Below w.heap.size w X → ∀ ad, ta = some ad → ∀ j u, (cellsF txC TM)[j]? = some u → X.cell? (ad.add j) = some u := fun X hX ad e => by subst e; exact Fl.news tx_len (by decide) (hT.below hX)
          have hCw : ∀ X : World, Below w.heap.size w X → ∀ ad, ka = some ad → ∀ j u, (cellsF txC CT)[j]? = some u → X.cell? (ad.add j) = some u := fun X hX ad e => by subst e; exact Fl.news tx_len (by decide) (hC.below hX)
          have hTn := fl_none' hT
          have hCn := fl_none' hC
          have hcat : cellsT (G.map (·.name) ++ D.map (·.name)) ++ cellsF txC TM ++ cellsF txC CT = cellsT (G.map (·.name) ++ D.map (·.name) ++ TM ++ CT) := by rw [cellsT_app _ CT, cellsT_app _ TM, cellsT_F TM, cellsT_F CT]
          have hsz := hb.size
          generalize cellsT (G.map (·.name) ++ D.map (·.name)) = XS at *
          go_wp2_with (first
            | (at_builtin; (refine wpList_more _ rfl _ _ 27 rfl W0.heap.size 9 ti _ 1 16 Tryz.underlying27 hi hi0 hi1 hi2 rfl (by decide) (.slice xa n xc) n XS rfl ow ta TM.length tc (cellsF txC TM) rfl (cellsF_len tx_len TM) hTn (hTw _ (by exact hbB)) (cellsF_one tx_one TM) (by unfold maxLen; omega) (by omega) hsz ?_); intro a6 c6 w6 o6 gr6; have b6 := grown_bel hb gr6 (Nat.le_refl _) (fun q hq => (own_lt ow q hq).1); have hb6 := bel_after hb0 hb0.size b6; have hs6 := b6.size; have KT6 := K0.below b6; obtain ⟨_, u1, u2⟩ := id KT6)
            | (at_builtin; (refine wpList_more _ rfl _ _ 27 rfl W0.heap.size 9 ti _ 1 16 Tryz.underlying27 hi hi0 hi1 hi2 rfl (by decide) (.slice a6 (n + TM.length) c6) (n + TM.length) (XS ++ cellsF txC TM) rfl o6 ka CT.length kc (cellsF txC CT) rfl (cellsF_len tx_len CT) hCn (hCw _ (by exact hb6)) (cellsF_one tx_one CT) (by unfold maxLen; omega) (by omega) hs6 ?_); intro a7 c7 w7 o5 gr7; have b5 := grown_bel b6 gr7 (Nat.le_refl _) (fun q hq => (own_lt o6 q hq).1); have KT7 := K0.below b5; obtain ⟨_, v1, v2⟩ := id KT7))
          rw [hcat] at o5
          go_loopw [3, 6] (fun u i wr => ∃ (k n : Nat) (xa : Option Addr) (xc : Nat), k ≤ VR.length ∧ n ≤ 576 ∧ u = .slice xa n xc ∧ i = .int .i64 (k : Int) ∧ Hid (n = G.length + D.length + TM.length + CT.length + k) ∧ Hid (wr.ownsRow W0.heap.size 9 1 (.slice xa n xc) n (cellsT (G.map (·.name) ++ D.map (·.name) ++ TM ++ CT ++ (VR.map (·.name)).take k))) ∧ Hid (Below W0.heap.size W0 wr)) (fun _ i _ => VR.length - (intOf i).toNat)
          case atStart => exact ⟨0, n + TM.length + CT.length, _, _, by omega, (by have := hnn.out; omega), rfl, rfl, (by show _ = _; have := hnn.out; omega), (by show World.ownsRow _ _ _ _ _ _ _; rw [List.take_zero, List.append_nil]; exact o5), b5⟩
          case round =>
            obtain ⟨k, n, xa, xc, hkl, hn, rfl, rfl, hnn, ow', hb'⟩ := hrel
            have ow := ow'.out
            have hb := hb'.out
            clear ow' hb'
            have hbB := bel_after hb0 hb0.size hb
            have KT := K0.below hb
            obtain ⟨_, t1, t2⟩ := id KT
            by_cases hlt : k < VR.length
            case pos =>
              obtain ⟨g, o, rfl, hg, P⟩ := kV.resolve_left (by intro e; rw [e] at hlt; simp at hlt)
              have p0 := (hbB.cell (p := ⟨g, _, none⟩) hg).trans (P k hlt 0 _ rfl)
              simp only [Nat.add_zero] at p0
              clear P
              have s1 : (k : Int) < (VR.length : Int) := by omega
              have s0 : (0 : Int) ≤ (k : Int) := by omega
              have hnx : cellsT (G.map (·.name) ++ D.map (·.name) ++ TM ++ CT ++ (VR.map (·.name)).take (k + 1)) = cellsT (G.map (·.name) ++ D.map (·.name) ++ TM ++ CT ++ (VR.map (·.name)).take k) ++ [.string VR[k].name] := by rw [take_map_succ (fun x => x.name) VR k hlt, ← List.append_assoc, cellsT_app]; rfl
              generalize cellsT (G.map (·.name) ++ D.map (·.name) ++ TM ++ CT ++ (VR.map (·.name)).take k) = XS at *
              generalize VR[k].name = x0 at *
              go_wp2_with (at_builtin; (refine wpList_append_mine _ rfl _ _ 27 rfl W0.heap.size 9 ti _ 1 16 Tryz.underlying27 hi hi0 hi1 hi2 rfl (by decide) (.slice xa n xc) n XS rfl (own_bel ow (bel1 _)) ⟨wr.heap.size, 0, none⟩ 1 1 [.string x0] rfl rfl (cells_at (W := wr) rfl _ _) (all_one rfl) (by decide) (by unfold maxLen; omega) (by omega) (by have := hb.size; simp; omega) ?_); intro g' c' y o3 gr _ _ _; have b3 := grown_bel (hb.alloc hb.size _) gr (Nat.le_refl _) (fun q hq => (own_lt ow q hq).1))
              go_roundw
              case rel => exact ⟨k + 1, n + 1, _, _, by omega, (by have := hnn.out; omega), rfl, by go_num, (by show _ = _; have := hnn.out; omega), (by show World.ownsRow _ _ _ _ _ _ _; rw [hnx]; exact o3), b3⟩
              case measure => simp [intOf]; omega
            case neg =>
              have s1 : ¬ (k : Int) < (VR.length : Int) := by omega
              obtain rfl : k = VR.length := by omega
              rw [List.take_of_length_le (by simp)] at ow
              go_wp2_with fail
              go_loopw [3, 7] (fun u i wr => ∃ (k n : Nat) (xa : Option Addr) (xc : Nat), k ≤ SG.length ∧ n ≤ 576 ∧ u = .slice xa n xc ∧ i = .int .i64 (k : Int) ∧ Hid (n = G.length + D.length + TM.length + CT.length + VR.length + k) ∧ Hid (wr.ownsRow W0.heap.size 9 1 (.slice xa n xc) n (cellsT (G.map (·.name) ++ D.map (·.name) ++ TM ++ CT ++ VR.map (·.name) ++ (SG.map (·.name)).take k))) ∧ Hid (Below W0.heap.size W0 wr)) (fun _ i _ => SG.length - (intOf i).toNat)
              case atStart => exact ⟨0, n, _, _, by omega, (by have := hnn.out; omega), rfl, rfl, (by show _ = _; have := hnn.out; omega), (by show World.ownsRow _ _ _ _ _ _ _; rw [List.take_zero, List.append_nil]; exact ow), hb⟩
              case round =>
                obtain ⟨k, n, xa, xc, hkl, hn, rfl, rfl, hnn, ow', hb'⟩ := hrel
                have ow := ow'.out
                have hb := hb'.out
                clear ow' hb'
                have hbB := bel_after hb0 hb0.size hb
                have KT := K0.below hb
                obtain ⟨_, t1, t2⟩ := id KT
                by_cases hlt : k < SG.length
                case pos =>
                  obtain ⟨g, o, rfl, _, hg, P⟩ := kS.resolve_left (by intro e; rw [e] at hlt; simp at hlt)
                  obtain ⟨cs, _, ⟨ve, vd, vl, vn, rfl, -⟩, P2⟩ := P k hlt
                  have p0 := (hbB.cell (p := ⟨g, _, none⟩) hg).trans (P2 0 _ rfl)
                  simp only [Nat.add_zero] at p0
                  clear P P2
                  have s1 : (k : Int) < (SG.length : Int) := by omega
                  have s0 : (0 : Int) ≤ (k : Int) := by omega
                  have hnx : cellsT (G.map (·.name) ++ D.map (·.name) ++ TM ++ CT ++ VR.map (·.name) ++ (SG.map (·.name)).take (k + 1)) = cellsT (G.map (·.name) ++ D.map (·.name) ++ TM ++ CT ++ VR.map (·.name) ++ (SG.map (·.name)).take k) ++ [.string SG[k].name] := by rw [take_map_succ (fun x => x.name) SG k hlt, ← List.append_assoc, cellsT_app]; rfl
                  generalize cellsT (G.map (·.name) ++ D.map (·.name) ++ TM ++ CT ++ VR.map (·.name) ++ (SG.map (·.name)).take k) = XS at *
                  generalize SG[k].name = x0 at *
                  go_wp2_with (at_builtin; (refine wpList_append_mine _ rfl _ _ 27 rfl W0.heap.size 9 ti _ 1 16 Tryz.underlying27 hi hi0 hi1 hi2 rfl (by decide) (.slice xa n xc) n XS rfl (own_bel ow (bel1 _)) ⟨wr.heap.size, 0, none⟩ 1 1 [.string x0] rfl rfl (cells_at (W := wr) rfl _ _) (all_one rfl) (by decide) (by unfold maxLen; omega) (by omega) (by have := hb.size; simp; omega) ?_); intro g' c' y o3 gr _ _ _; have b3 := grown_bel (hb.alloc hb.size _) gr (Nat.le_refl _) (fun q hq => (own_lt ow q hq).1))
                  go_roundw
                  case rel => exact ⟨k + 1, n + 1, _, _, by omega, (by have := hnn.out; omega), rfl, by go_num, (by show _ = _; have := hnn.out; omega), (by show World.ownsRow _ _ _ _ _ _ _; rw [hnx]; exact o3), b3⟩
                  case measure => simp [intOf]; omega
                case neg =>
                  have s1 : ¬ (k : Int) < (SG.length : Int) := by omega
                  obtain rfl : k = SG.length := by omega
                  rw [List.take_of_length_le (by simp)] at ow
                  have hnV : Hid (n = (nmsL G D TM CT VR SG).length) := by show _ = _; have := hnn.out; unfold nmsL; simp; omega
                  have ow2 : wr.ownsRow W0.heap.size 9 1 (.slice xa n xc) n (cellsT (nmsL G D TM CT VR SG)) := ow
                  clear ow hnn
                  go_wp2_with fail
                  go_ret
                  exact ⟨⟨xa, xc, by rw [← hnV.out]; rfl, (by rw [← hnV.out]; exact own_mono ow2 hb0.size)⟩, hbB⟩
end Go.Proofs.YtnicolaphmffkaaGreatDoor
namespace Go.Proofs.YtnicolaphmffkaaGreatDoor
open Go.RowKit
set_option linter.unusedVariables false
set_option linter.unusedSimpArgs false

def eqT (x y : ByteArray) : Bool := y.toList == x.toList
theorem sm_le {s : ByteArray} (h : Sm s) : s.size ≤ maxLen := by
  unfold Sm at h
  have e : maxLen = 9223372036854775807 := by decide
  omega
/-- All of them names, no two the same. -/
def ulF : List ByteArray → List ByteArray → Bool
  | _, [] => true
  | seen, x :: L => nmB x && (!(seen.any (eqT x)) && ulF (seen ++ [x]) L)
theorem ul_end (L : List ByteArray) (k : Nat) (h : L.length ≤ k) : ulF (L.take k) (L.drop k) = true := by
  rw [List.drop_eq_nil_of_le h]; unfold ulF; rfl
theorem ul_step (L : List ByteArray) (k : Nat) (h : k < L.length) : ulF (L.take k) (L.drop k) = (nmB L[k] && (!((L.take k).any (eqT L[k])) && ulF (L.take (k + 1)) (L.drop (k + 1)))) := by
  rw [List.drop_eq_getElem_cons h]
  conv => lhs; unfold ulF
  rw [← List.take_succ_eq_append_getElem h]
def sy0 (s : ByteArray) : Sy := ⟨s, 0, 0, 0, 0⟩
theorem fs_map (L : List ByteArray) (nm : ByteArray) : (fsS (L.map sy0) nm).isNone = !(L.any (eqT nm)) := by
  induction L with
  | nil => rfl
  | cons x L ih =>
    rw [List.map_cons]
    unfold fsS
    rw [List.any_cons]
    by_cases h : (sy0 x).name = nm
    · rw [if_pos h]
      have h' : x = nm := h
      have h2 : eqT nm x = true := by unfold eqT; rw [h']; simp
      rw [h2]; rfl
    · rw [if_neg h, ih]
      have h2 : eqT nm x = false := by
        cases q : eqT nm x with
        | false => rfl
        | true => exact absurd (show x = nm from tl_inj (beq_iff_eq.1 q)) h
      rw [h2]; rfl
set_option maxRecDepth 100000 in
set_option maxHeartbeats 8000000 in
theorem addB_any (S : List Sy) (s : Sy) (b n : Nat) (w : World) (hM : MpS w b n S) (hs : s.name.size ≤ maxLen) (hn : n < maxLen) :
    Calls Tryz.prog 67 #[.agg #[.map (some b)], s.ag] w fun e w' => e = .returned (.bool (fsS S s.name).isNone) ∧ MpS w' b (n + 1) (S ++ [s]) ∧ Only (fun q => q = b) w w' := by
  have hTw := fun (X : World) (hX : MpS X b n S) (x : Sy) (hx : fsS S s.name = some x) => hX.twice s x hx
  have hPn := fun (D : DataW Value) (h1 : Maps.IsMap D) (h3 : ∀ nm : ByteArray, nm.size ≤ maxLen → ∀ z, D.atKey (.string nm.data.toList) z = (match fsS S nm with | some s => .held s.ag | none => z)) (hf : fsS S s.name = none) => put_new h1 h3 s hs hf
  generalize hSS : S ++ [s] = SS at *
  clear hSS
  obtain ⟨sn, sk, si, sl, sq⟩ := s
  simp only [Sy.ag] at *
  have hb2 : Below w.heap.size w ((w.alloc (.cells #[.map (some b)] 140)).alloc (.cells #[.string sn, .int .i64 sk, .int .i64 si, .int .i64 sl, .int .i64 sq] 145)) := ((Below.refl _ _).alloc (Nat.le_refl _) _).alloc (by simp) _
  have hM2 := hM.below hb2 hM.lt
  have hL := hM2.look sn hs
  have hk := Go.WideMaps.keyOf_string_mk (P := Tryz.prog) (k := 9) Tryz.underlying9 hs
  cases hf : fsS S sn with
  | some x =>
    have hM3 := hTw _ (hM2.below (bel1 (.cells #[.string x.name, .int .i64 x.kind, .int .i64 x.ix, .int .i64 x.line, .int .i64 x.col] 145)) hM2.lt) x hf
    have hb3 := hb2.alloc hb2.size (.cells #[.string x.name, .int .i64 x.kind, .int .i64 x.ix, .int .i64 x.line, .int .i64 x.col] 145)
    rw [hf] at hL
    simp only [Sy.ag] at *
    clear hTw hPn hM hM2 hf
    go_enter Tryz.func67, Tryz.ntmps67
    go_wp2_with fail
    go_ret
    exact ⟨rfl, hM3, Only.of_below hb3⟩
  | none =>
    rw [hf] at hL
    obtain ⟨D, hD1, hD2, hD3⟩ := hM2
    have hQ := hPn D hD2 hD3 hf
    have hD4 := hD1.alloc (.cells #[.string ⟨#[]⟩, .int .i64 0, .int .i64 0, .int .i64 0, .int .i64 0] 145)
    have hb3 := hb2.alloc hb2.size (.cells #[.string ⟨#[]⟩, .int .i64 0, .int .i64 0, .int .i64 0, .int .i64 0] 145)
    simp only [zSy, Sy.ag] at *
    clear hTw hPn hM hf hD3 hD1
    go_enter Tryz.func67, Tryz.ntmps67
    go_wp2_with (at_mapUpdate; refine wpList_mapUpdate_own _ rfl _ _ _ 138 rfl 9 145 keyS Tryz.underlying138 rH b n D rfl hD4 hn _ _ (.string sn.data.toList) rfl rfl hk (.held (.agg #[.string sn, .int .i64 sk, .int .i64 si, .int .i64 sl, .int .i64 sq])) [] rfl ?_; intro w2 hm2 hg2)
    go_ret
    exact ⟨rfl, ⟨_, hm2, hm2.isMap, hQ⟩, (Only.of_below hb3).trans (only_map hg2)⟩
set_option maxRecDepth 100000 in
set_option maxHeartbeats 8000000 in
theorem isName_any (s : ByteArray) (w : World) (hs : Sm s) (hW : Wt w) : Calls Tryz.prog 66 #[.string s] w fun e w' => e = .returned (.bool (nmB s)) ∧ Below w.heap.size w w' := by
  have kK := kindOf_any s w hs hW
  unfold nmB
  generalize kindL s.data.toList = kv at *
  by_cases h : kv = 1
  · subst h
    go_enter Tryz.func66, Tryz.ntmps66
    go_wp2_with (go_at_call 96; (with_reducible refine Calls.mono kK ?_); rintro e w1 ⟨rfl, h1⟩)
    go_ret
    exact ⟨rfl, h1⟩
  · have n0 : (kv == 1) = false := by simpa using h
    go_enter Tryz.func66, Tryz.ntmps66
    go_wp2_with (go_at_call 96; (with_reducible refine Calls.mono kK ?_); rintro e w1 ⟨rfl, h1⟩)
    go_ret
    exact ⟨ret_bool n0.symm, h1⟩
theorem own_tx {w : World} {base xc : Nat} {xa : Option Addr} {NL : List ByteArray} (h : w.ownsRow base 9 1 (.slice xa NL.length xc) NL.length (cellsT NL)) : NL = [] ∨ ∃ g, xa = some ⟨g, 0, none⟩ ∧ base ≤ g ∧ g < w.heap.size ∧ ∀ (i : Nat) (hi : i < NL.length), w.cell? ⟨g, i, none⟩ = some (.string NL[i]) := by
  by_cases h0 : NL.length = 0
  · exact .inl (List.length_eq_zero_iff.1 h0)
  · obtain ⟨g, cap, e, _, hg, hg2⟩ := own_block h (by omega)
    injection e with e1 _ _
    exact .inr ⟨g, e1, hg, hg2, fun i hi => by subst e1; rw [h.cellAt i (by omega)]; simp [cellsT, hi]⟩
theorem cell_onlyQ {P : Nat → Prop} {w w' : World} (h : Only P w w') {g i : Nat} (hg : g < w.heap.size) (hn : ¬ P g) : w'.cell? ⟨g, i, none⟩ = w.cell? ⟨g, i, none⟩ := World.cell?_of_block (a := ⟨g, i, none⟩) (h.block g hg hn)
theorem bel_onlyQ {B R : Nat} {a w w' : World} (h : Below B a w) (hB : B ≤ w.heap.size) (ho : Only (fun q => q = R) w w') (hR : B ≤ R) : Below B a w' :=
  ⟨ho.os.trans h.os, ho.tape.trans h.tape, ho.output.trans h.output, Nat.le_trans h.size ho.size, fun k hk => (ho.block k (Nat.lt_of_lt_of_le hk hB) (by omega)).trans (h.block k hk)⟩
theorem TnR.mv {S S' : Nat → Prop} {w w' : World} {cs : List Value} {x : Tn} (h : TnR S w cs x) (hm : Mv S w S' w') : TnR S' w' cs x := by
  obtain ⟨v, h1, h2⟩ := h
  exact ⟨v, h1, h2.mv hm⟩
theorem TsR.mv {S S' : Nat → Prop} {w w' : World} {cs : List Value} {x : Ts} (h : TsR S w cs x) (hm : Mv S w S' w') : TsR S' w' cs x := by
  obtain ⟨ve, vd, vl, vn, h0, h1, h2, h3, h4⟩ := h
  exact ⟨ve, vd, vl, vn, h0, h1.mv hm, h2.mv hm, h3.mv hm, Rows.mv h4 hm (fun _ _ h => h.mv hm)⟩
theorem Tss.below {S : Nat → Prop} {w w' : World} {v : Value} {L : List Ts} (h : Tss S w v L) (hb : Below w.heap.size w w') : Tss S w' v L := Rows.mv h (.below hb) (fun _ _ h => h.mv (.below hb))
theorem Wt.be {w w' : World} (h : Wt w) (hb : Below w.heap.size w w') : Wt w' := h.below hb h.1
set_option maxRecDepth 100000 in
set_option maxHeartbeats 8000000 in
theorem sNames_any (G : List Gp) (D : List Dt) (TM CT : List ByteArray) (VR : List Vr) (SG : List Ts) (pn : ByteArray) (ga ca da ta ka va sa : Option Addr) (gc nC cc dc tc kc vc sc : Nat) (stt : Int) (w : World) (hG : Fl 5 Gp.cs w (.slice ga G.length gc) G) (hD : Fl 4 Dt.cs w (.slice da D.length dc) D) (hT : Fl 1 txC w (.slice ta TM.length tc) TM) (hC : Fl 1 txC w (.slice ka CT.length kc) CT) (hV : Fl 2 Vr.cs w (.slice va VR.length vc) VR) (hS : Tss (fun _ => True) w (.slice sa SG.length sc) SG)
    (lG : G.length ≤ 64) (lD : D.length ≤ 64) (lT : TM.length ≤ 64) (lC : CT.length ≤ 64) (lV : VR.length ≤ 64) (lS : SG.length ≤ 256)
    (hm : ∀ s ∈ nmsL G D TM CT VR SG, Sm s) (hmp : Sm pn) (hW : Wt w) :
    Calls Tryz.prog 33 #[(.agg #[.string pn, .slice ga G.length gc, .slice ca nC cc, .slice da D.length dc, .slice ta TM.length tc, .slice ka CT.length kc, .slice va VR.length vc, .slice sa SG.length sc, .int .i64 stt])] w fun e w' => e = .returned (.bool (ulF [] (nmsL G D TM CT VR SG) && nmB pn)) ∧ Below w.heap.size w w' := by
  have hTs : ∀ X : World, Below w.heap.size w X → Tss (fun _ => True) X (.slice sa SG.length sc) SG := fun X hX => Tss.below hS hX
  have kN := fun (X : World) (hX : Below w.heap.size w X) => names_any G D TM CT VR SG pn ga ca da ta ka va sa gc nC cc dc tc kc vc sc stt X (hG.below hX) (hD.below hX) (hT.below hX) (hC.below hX) (hV.below hX) (hTs X hX) lG lD lT lC lV lS
  have lNL : (nmsL G D TM CT VR SG).length ≤ 576 := by unfold nmsL; simp; omega
  clear hG hD hT hC hV hS hTs lG lD lT lC lV lS
  have hb0 : Below w.heap.size w (w.alloc (.cells #[.string pn, .slice ga G.length gc, .slice ca nC cc, .slice da D.length dc, .slice ta TM.length tc, .slice ka CT.length kc, .slice va VR.length vc, .slice sa SG.length sc, .int .i64 stt] 31)) := bel1 _
  have K0 : Has (w.alloc (.cells #[.string pn, .slice ga G.length gc, .slice ca nC cc, .slice da D.length dc, .slice ta TM.length tc, .slice ka CT.length kc, .slice va VR.length vc, .slice sa SG.length sc, .int .i64 stt] 31)) w.heap.size #[.string pn, .slice ga G.length gc, .slice ca nC cc, .slice da D.length dc, .slice ta TM.length tc, .slice ka CT.length kc, .slice va VR.length vc, .slice sa SG.length sc, .int .i64 stt] := Has.new _ _ _ rfl
  have hz0 : (w.alloc (.cells #[.string pn, .slice ga G.length gc, .slice ca nC cc, .slice da D.length dc, .slice ta TM.length tc, .slice ka CT.length kc, .slice va VR.length vc, .slice sa SG.length sc, .int .i64 stt] 31)).heap.size = w.heap.size + 1 := by simp
  have kS := scope_any [] (.slice none 0 0) (w.alloc (.cells #[.string pn, .slice ga G.length gc, .slice ca nC cc, .slice da D.length dc, .slice ta TM.length tc, .slice ka CT.length kc, .slice va VR.length vc, .slice sa SG.length sc, .int .i64 stt] 31)) ⟨none, 0, rfl, .inl rfl⟩ (by simp) (fun i h => by simp at h)
  generalize nmsL G D TM CT VR SG = NL at *
  have hA0 : ulF (NL.take 0) (NL.drop 0) = ulF [] NL := rfl
  generalize ulF [] NL = A at *
  have kP := fun (X : World) (hX : Below w.heap.size w X) => isName_any pn X hmp (hW.be hX)
  have kI := fun (k : Nat) (hk : k < NL.length) (X : World) (hX : Below w.heap.size w X) => isName_any NL[k] X (hm _ (List.getElem_mem hk)) (hW.be hX)
  have hsz : ∀ (k : Nat) (hk : k < NL.length), NL[k].size ≤ maxLen := fun k hk => sm_le (hm _ (List.getElem_mem hk))
  go_enter Tryz.func33, Tryz.ntmps33
  go_wp2_with fail
  go_at_call 64
  refine Calls.mono kS ?_
  rintro e w1 ⟨⟨b, rfl, hM1, hbb⟩, h1⟩
  have hb1 := bel_after hb0 hb0.size h1
  have K1 := K0.below h1
  have K2 := K1.alloc (.cells #[.map (some b)] 140)
  have hM2 := hM1.below (bel1 (.cells #[.map (some b)] 140)) hM1.lt
  have hb2 := hb1.alloc hb1.size (.cells #[.map (some b)] 140)
  have T2 : Has (w1.alloc (.cells #[.map (some b)] 140)) w1.heap.size #[.map (some b)] := Has.new _ _ _ rfl
  have hbl := hM1.lt
  have kN2 := kN _ hb2
  obtain ⟨_, r1, r2⟩ := id K2
  have hz2 : (w1.alloc (.cells #[.map (some b)] 140)).heap.size = w1.heap.size + 1 := by simp
  go_wp2_with fail
  go_at_call 65
  refine Calls.mono kN2 ?_
  rintro e w3 ⟨⟨xa, xc, rfl, oR⟩, h3⟩
  have hb3 := bel_after hb2 hb2.size h3
  have K3 := K2.below h3
  have T3 := T2.below h3
  have hM3 := hM2.below h3 hM2.lt
  have hrow := own_tx oR
  clear kN kN2 kS K0 K1 K2 hM1 hM2 hb0 hb1 hb2 h1 h3 r1 r2 oR T2
  go_wp2_with fail
  go_loopw [10] (fun i wr => ∃ k : Nat, k ≤ NL.length ∧ i = .int .i64 (k : Int) ∧ Hid (ulF (NL.take k) (NL.drop k) = A) ∧ Hid (MpS wr b k ((NL.take k).map sy0)) ∧ Hid (Has wr w1.heap.size #[.map (some b)]) ∧ Hid (Has wr w.heap.size #[.string pn, .slice ga G.length gc, .slice ca nC cc, .slice da D.length dc, .slice ta TM.length tc, .slice ka CT.length kc, .slice va VR.length vc, .slice sa SG.length sc, .int .i64 stt]) ∧ Hid (Only (fun q => q = b) w3 wr) ∧ Hid (Below w.heap.size w wr)) (fun i _ => NL.length - (intOf i).toNat)
  case atStart => exact ⟨0, by omega, rfl, hA0, hM3, T3, K3, Only.refl _ _, hb3⟩
  case round =>
    clear hA0 hM3
    obtain ⟨k, hkl, rfl, hq', hM', Tk', Kk', O', hb'⟩ := hrel
    have hq := hq'.out
    have hM := hM'.out
    have Tk := Tk'.out
    have Kk := Kk'.out
    have O := O'.out
    have hb := hb'.out
    clear hq' hM' Tk' Kk' O' hb'
    obtain ⟨_, t1, _⟩ := id Tk
    obtain ⟨_, v1, _⟩ := id Kk
    by_cases hlt : k < NL.length
    case neg =>
      have s1 : ¬ (k : Int) < (NL.length : Int) := by omega
      rw [ul_end NL k (by omega)] at hq
      have cP := kP _ hb
      clear kP kI hrow
      subst hq
      go_wp2_with (go_at_call 66; (with_reducible refine Calls.mono cP ?_); rintro e w5 ⟨rfl, h5⟩; have hb5 := bel_after hb hb.size h5)
      go_ret
      exact ⟨by simp, hb5⟩
    case pos =>
      obtain ⟨g, rfl, hg1, hg2, hx⟩ := hrow.resolve_left (by intro e; rw [e] at hlt; simp at hlt)
      have p0 := (cell_onlyQ O hg2 (by omega)).trans (hx k hlt)
      have s1 : (k : Int) < (NL.length : Int) := by omega
      have s0 : (0 : Int) ≤ (k : Int) := by omega
      rw [ul_step NL k hlt] at hq
      have cI := kI k hlt _ hb
      have cA := fun (X : World) (hX : MpS X b k ((NL.take k).map sy0)) => addB_any ((NL.take k).map sy0) (sy0 NL[k]) b k X hX (hsz k hlt) (by unfold maxLen; omega)
      have hfs : (fsS ((NL.take k).map sy0) (sy0 NL[k]).name).isNone = !((NL.take k).any (eqT NL[k])) := fs_map _ _
      rw [hfs, show (NL.take k).map sy0 ++ [sy0 NL[k]] = (NL.take (k + 1)).map sy0 by rw [List.take_succ_eq_append_getElem hlt, List.map_append]; rfl] at cA
      clear kP kI hx hfs hrow hsz
      generalize (!((NL.take k).any (eqT NL[k]))) = bb at *
      generalize nmB NL[k] = nb at *
      simp only [sy0, Sy.ag] at cA
      generalize NL[k] = x at *
      cases nb with
      | false =>
        simp only [Bool.false_and] at hq
        subst hq
        go_wp2_with (go_at_call 66; (with_reducible refine Calls.mono cI ?_); rintro e w5 ⟨rfl, h5⟩; have hb5 := bel_after hb hb.size h5)
        go_ret
        exact ⟨by simp, hb5⟩
      | true =>
        simp only [Bool.true_and] at hq
        cases bb with
        | false =>
          simp only [Bool.false_and] at hq
          subst hq
          go_wp2_with (first | (go_at_call 66; (with_reducible refine Calls.mono cI ?_); rintro e w5 ⟨rfl, h5⟩; have hb5 := bel_after hb hb.size h5; have T5 := Tk.below h5; obtain ⟨_, t5, _⟩ := id T5; have cA5 := cA _ (hM.below h5 hM.lt)) | (go_at_call 67; (with_reducible refine Calls.mono cA5 ?_); rintro e w6 ⟨rfl, m6, o6⟩))
          go_ret
          exact ⟨by simp, bel_onlyQ hb5 hb5.size o6 (by omega)⟩
        | true =>
          simp only [Bool.true_and] at hq
          go_wp2_with (first | (go_at_call 66; (with_reducible refine Calls.mono cI ?_); rintro e w5 ⟨rfl, h5⟩; have hb5 := bel_after hb hb.size h5; have T5 := Tk.below h5; obtain ⟨_, t5, _⟩ := id T5; have cA5 := cA _ (hM.below h5 hM.lt)) | (go_at_call 67; (with_reducible refine Calls.mono cA5 ?_); rintro e w6 ⟨rfl, m6, o6⟩))
          have K6 := (Kk.below h5).only o6 (by omega)
          have T6 := T5.only o6 (by omega)
          have O6 := (O.below h5).trans o6
          go_roundw
          case rel => exact ⟨k + 1, by omega, by go_num, hq, m6, T6, K6, O6, bel_onlyQ hb5 hb5.size o6 (by omega)⟩
          case measure => simp [intOf]; omega
end Go.Proofs.YtnicolaphmffkaaGreatDoor
