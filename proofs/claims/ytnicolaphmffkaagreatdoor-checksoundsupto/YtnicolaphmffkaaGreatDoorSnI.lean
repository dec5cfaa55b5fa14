import Derived.Test.YtnicolaphmffkaaGreatDoorSnH
import Derived.Deep.CutRange
import Derived.Deep.CutBlock
namespace Go.Proofs.YtnicolaphmffkaaGreatDoor
open Go.RowKit
set_option linter.unusedVariables false
set_option linter.unusedSimpArgs false

theorem info4 : (Tryz.prog.info? 4).map (fun i => (i.zero, i.size, i.bytes)) = some (some (.bool false), 1, 1) := by kernel_rfl
def vB (bs : List Bool) : List Value := bs.map Value.bool
theorem vB_get {bs : List Bool} {j : Nat} (h : j < bs.length) : (vB bs)[j]? = some (.bool bs[j]) := by simp [vB, h]
/-- What a statement does to the open ifs; none: it may not stand there. -/
def nxB (bs : List Bool) (kd : Int) : Option (List Bool) :=
  if kd = 7 then (if bs.length < 16 then some (bs ++ [false]) else none)
  else if kd = 8 then (if 0 < bs.length then (if bs.getD (bs.length - 1) true = true then none else some (bs.set (bs.length - 1) true)) else none)
  else if kd = 9 then (if 0 < bs.length then some (bs.take (bs.length - 1)) else none)
  else some bs
theorem br_next (z : Sz) (bs : List Bool) (L : List St) (k : Nat) (h : k < L.length) : brZ z bs (L.drop k) = match nxB bs L[k].kind with
    | none => false
    | some bs' => smB z L[k] && brZ z bs' (L.drop (k + 1)) := by
  rw [List.drop_eq_getElem_cons h]
  conv => lhs; unfold brZ
  unfold nxB
  by_cases k7 : L[k].kind = 7
  · rw [if_pos k7, if_pos k7]
    by_cases q : bs.length < 16
    · rw [if_pos q, decide_eq_true q]; simp
    · rw [if_neg q, decide_eq_false q]; simp
  · rw [if_neg k7, if_neg k7]
    by_cases k8 : L[k].kind = 8
    · rw [if_pos k8, if_pos k8]
      by_cases q : 0 < bs.length
      · rw [if_pos q, decide_eq_true q]
        cases bs.getD (bs.length - 1) true <;> simp
      · rw [if_neg q, decide_eq_false q]; simp
    · rw [if_neg k8, if_neg k8]
      by_cases k9 : L[k].kind = 9
      · rw [if_pos k9, if_pos k9]
        by_cases q : 0 < bs.length
        · rw [if_pos q, decide_eq_true q]; simp
        · rw [if_neg q, decide_eq_false q]; simp
      · rw [if_neg k9, if_neg k9]
/-- Of how many things a statement of that kind may name one. -/
def thZ (z : Sz) (kd : Int) : Int := if kd = 1 then z.v else if kd = 2 ∨ kd = 3 ∨ kd = 4 then z.t else if kd = 5 ∨ kd = 10 then z.c else if kd = 6 then z.d else 1
def okK (kd : Int) : Prop := kd = 1 ∨ kd = 2 ∨ kd = 3 ∨ kd = 4 ∨ kd = 5 ∨ kd = 6 ∨ kd = 7 ∨ kd = 8 ∨ kd = 9 ∨ kd = 10
theorem ix_th (z : Sz) (kd ix : Int) (h : okK kd) : ixB z kd ix = (decide (0 ≤ ix) && decide (ix < thZ z kd)) := by
  unfold okK at h
  have e1 : decide (ix = 0) = (decide (0 ≤ ix) && decide (ix < 1)) := by
    by_cases q : ix = 0
    · subst q; rfl
    · rw [decide_eq_false q]
      by_cases r : 0 ≤ ix
      · rw [decide_eq_true r, decide_eq_false (by omega)]; rfl
      · rw [decide_eq_false r]; rfl
  rcases h with rfl | rfl | rfl | rfl | rfl | rfl | rfl | rfl | rfl | rfl
  all_goals
    unfold ixB thZ plB
    first | rfl | exact e1
theorem ix_bad (z : Sz) (kd ix : Int) (h : ¬ okK kd) : ixB z kd ix = false := by
  unfold okK at h
  unfold ixB
  rw [if_neg (by omega), if_neg (by omega), if_neg (by omega), if_neg (by omega), if_neg (by omega)]
set_option maxRecDepth 100000 in
set_option maxHeartbeats 8000000 in
theorem rList_any (z : Sz) (pn : ByteArray) (ga ca da ta ka va sa : Option Addr) (gc nC cc dc tc kc vc nS sc : Nat) (stt : Int) (L : List St) (v : Value) (S : Nat → Prop) (w : World) (h : Sts S w v L) (hr : ∀ s ∈ L, ∀ x ∈ s.expr, vOk x.val) :
    Calls Tryz.prog 71 #[(.agg #[.string pn, .slice ga z.g gc, .slice ca nC cc, .slice da z.d dc, .slice ta z.t tc, .slice ka z.c kc, .slice va z.v vc, .slice sa nS sc, .int .i64 stt]), v] w fun e w' => e = .returned (.bool (brZ z [] L)) ∧ Below w.heap.size w w' := by
  have kE := fun (k : Nat) (hk : k < L.length) (ea : Option Addr) (ec : Nat) (hv : Exs S w (.slice ea L[k].expr.length ec) L[k].expr) (typ : Int) (X : World) (hX : Below w.heap.size w X) => rExpr_any z pn ga ca da ta ka va sa gc nC cc dc tc kc vc nS sc stt L[k].expr (.slice ea L[k].expr.length ec) typ X (hv.nds.1.below hX) (by obtain ⟨_, _, _, q, _⟩ := Rows.any hv; exact q) (hr _ (List.getElem_mem hk))
  obtain ⟨a, cap, rfl, hlen, hc⟩ := Rows.any h
  obtain ⟨ti, hi, hi0, hi1, hi2⟩ := info_parts info4
  clear h hr
  generalize hA : brZ z [] L = A
  have hA0 : brZ z [] (L.drop 0) = A := hA
  clear hA
  have hb0 : Below w.heap.size w (w.alloc (.cells #[.string pn, .slice ga z.g gc, .slice ca nC cc, .slice da z.d dc, .slice ta z.t tc, .slice ka z.c kc, .slice va z.v vc, .slice sa nS sc, .int .i64 stt] 31)) := bel1 _
  have K0 : Has (w.alloc (.cells #[.string pn, .slice ga z.g gc, .slice ca nC cc, .slice da z.d dc, .slice ta z.t tc, .slice ka z.c kc, .slice va z.v vc, .slice sa nS sc, .int .i64 stt] 31)) w.heap.size #[.string pn, .slice ga z.g gc, .slice ca nC cc, .slice da z.d dc, .slice ta z.t tc, .slice ka z.c kc, .slice va z.v vc, .slice sa nS sc, .int .i64 stt] := Has.new _ _ _ rfl
  go_enter Tryz.func71, Tryz.ntmps71
  go_wp2_with fail
  generalize (w.alloc (.cells #[.string pn, .slice ga z.g gc, .slice ca nC cc, .slice da z.d dc, .slice ta z.t tc, .slice ka z.c kc, .slice va z.v vc, .slice sa nS sc, .int .i64 stt] 31)) = W0 at *
  have hz0 := K0.1
  go_loopw [5, 6] (fun u i wr => ∃ (k n : Nat) (bs : List Bool) (xa : Option Addr) (xc : Nat), k ≤ L.length ∧ n ≤ 16 ∧ u = .slice xa n xc ∧ i = .int .i64 (k : Int) ∧ Hid (bs.length = n) ∧ Hid (brZ z bs (L.drop k) = A) ∧ Hid (wr.ownsRow W0.heap.size 4 1 (.slice xa n xc) n (vB bs)) ∧ Hid (Below W0.heap.size W0 wr)) (fun _ i _ => L.length - (intOf i).toNat)
  case atStart => exact ⟨0, 0, [], none, 0, by omega, by omega, rfl, rfl, rfl, hA0, World.ownsRow_nil _ _ _ _, Below.refl _ _⟩
  case round =>
    clear hA0
    obtain ⟨k, n, bs, xa, xc, hkl, hn, rfl, rfl, hbs', hq', ow', hb'⟩ := hrel
    have hbs := hbs'.out
    have hq := hq'.out
    have ow := ow'.out
    have hb := hb'.out
    clear hbs' hq' ow' hb'
    have hbw := bel_after hb0 hb0.size hb
    by_cases hlt : k < L.length
    case neg =>
      have s1 : ¬ (k : Int) < (L.length : Int) := by omega
      rw [br_end z bs L k (by omega)] at hq
      by_cases n0 : n = 0
      · subst n0
        obtain rfl : A = true := by rw [← hq, hbs]; rfl
        clear hq hbs ow
        go_wp2_with fail
        go_ret
        exact ⟨rfl, hbw⟩
      · have D0 : ((n : Int) == 0) = false := by simp; omega
        obtain rfl : A = false := by rw [← hq, hbs]; simp [n0]
        clear hq hbs ow
        go_wp2_with fail
        go_ret
        exact ⟨rfl, hbw⟩
    case pos =>
      obtain ⟨g, o, rfl, _, hg, hx⟩ := hc.resolve_left (by intro e; rw [e] at hlt; simp at hlt)
      obtain ⟨cs, _, ⟨v', rfl, hv⟩, h3⟩ := hx k hlt
      obtain ⟨ea, ec, rfl, -⟩ := Rows.any hv
      have cE := kE k hlt ea ec hv
      have p0 := (hbw.cell (p := ⟨g, _, none⟩) hg).trans (h3 0 _ rfl)
      have p1 := (hbw.cell (p := ⟨g, _, none⟩) hg).trans (h3 1 _ rfl)
      have p2 := (hbw.cell (p := ⟨g, _, none⟩) hg).trans (h3 2 _ rfl)
      have p3 := (hbw.cell (p := ⟨g, _, none⟩) hg).trans (h3 3 _ rfl)
      have p4 := (hbw.cell (p := ⟨g, _, none⟩) hg).trans (h3 4 _ rfl)
      have p5 := (hbw.cell (p := ⟨g, _, none⟩) hg).trans (h3 5 _ rfl)
      simp only [Nat.add_zero] at p0
      rw [br_next z bs L k hlt] at hq
      have s1 : (k : Int) < (L.length : Int) := by omega
      have s0 : (0 : Int) ≤ (k : Int) := by omega
      have tk : k + 1 ≤ L.length := hlt
      clear h3 hv hx hc kE
      generalize L[k] = x at *
      obtain ⟨kd, nm, ix, xe, ln, cl⟩ := x
      simp only [smB] at *
      have hbN : Below w.heap.size w (wr.alloc (.cells #[.int .i64 kd, .string nm, .int .i64 ix, .slice ea xe.length ec, .int .i64 ln, .int .i64 cl] 133)) := hbw.alloc hbw.size _
      cases hbl : blB nm ln cl with
      | false =>
        have hq : false = A := by
          rw [← hq, hbl]
          cases nxB bs kd <;> simp
        subst hq
        clear cE
        by_cases e0 : emB nm = true
        · have e1 := em_eq e0
          subst e1
          have e2 : ¬ (ln = 0 ∧ cl = 0) := by intro q; obtain ⟨rfl, rfl⟩ := q; simp [blB, emB] at hbl
          by_cases l0 : ln = 0
          · subst l0
            have c0 : ¬ cl = 0 := fun q => e2 ⟨rfl, q⟩
            have n0 : (cl == 0) = false := by simpa using c0
            have n1 : (cl != 0) = true := by simpa using c0
            clear hbl e0 e2
            go_wp2_with fail
            all_goals go_ret
            all_goals exact ⟨rfl, hbN⟩
          · have n0 : (ln == 0) = false := by simpa using l0
            have n1 : (ln != 0) = true := by simpa using l0
            clear hbl e0 e2
            go_wp2_with fail
            all_goals go_ret
            all_goals exact ⟨rfl, hbN⟩
        · have e1 : ¬ nm.toList = [] := by intro q; exact e0 (by unfold emB; rw [q]; rfl)
          clear hbl e0
          go_wp2_with fail
          all_goals go_ret
          all_goals exact ⟨rfl, hbN⟩
      | true =>
        rw [hbl] at hq
        simp only [Bool.true_and] at hq
        unfold blB at hbl
        simp only [Bool.and_eq_true, decide_eq_true_eq] at hbl
        obtain ⟨e1, rfl, rfl⟩ := hbl
        have e1 := em_eq e1
        subst e1
        have hbL : Below W0.heap.size W0 (wr.alloc (.cells #[.int .i64 kd, .string ⟨#[]⟩, .int .i64 ix, .slice ea xe.length ec, .int .i64 0, .int .i64 0] 133)) := hb.alloc hb.size _
        have o1 := own_bel ow (bel1 (.cells #[.int .i64 kd, .string ⟨#[]⟩, .int .i64 ix, .slice ea xe.length ec, .int .i64 0, .int .i64 0] 133))
        have KT := K0.below hbL
        have KS : Has (wr.alloc (.cells #[.int .i64 kd, .string ⟨#[]⟩, .int .i64 ix, .slice ea xe.length ec, .int .i64 0, .int .i64 0] 133)) wr.heap.size #[.int .i64 kd, .string ⟨#[]⟩, .int .i64 ix, .slice ea xe.length ec, .int .i64 0, .int .i64 0] := Has.new _ _ _ rfl
        obtain ⟨_, t1, t2⟩ := id KT
        obtain ⟨_, u1, u2⟩ := id KS
        have hne : wr.heap.size ≠ w.heap.size := by have := hb.size; omega
        go_upto_block 2 with fail
        go_cut [5, 9, 10] from 40 to 93 (fun s5 s9 s10 wx => ∃ (n' : Nat) (bs' : List Bool) (xa' : Option Addr) (xc' : Nat), s5 = .slice xa' n' xc' ∧ s9 = .int .i64 (thZ z kd) ∧ s10 = .int .i64 (tyK kd) ∧ n' ≤ 16 ∧ Hid (okK kd) ∧ Hid (bs'.length = n') ∧ Hid ((smV z kd ix xe && brZ z bs' (L.drop (k + 1))) = A) ∧ Hid (wx.ownsRow W0.heap.size 4 1 (.slice xa' n' xc') n' (vB bs')) ∧ Hid (Has wx wr.heap.size #[.int .i64 kd, .string ⟨#[]⟩, .int .i64 ix, .slice ea xe.length ec, .int .i64 0, .int .i64 0]) ∧ Hid (Has wx w.heap.size #[.string pn, .slice ga z.g gc, .slice ca nC cc, .slice da z.d dc, .slice ta z.t tc, .slice ka z.c kc, .slice va z.v vc, .slice sa nS sc, .int .i64 stt]) ∧ Hid (Below W0.heap.size W0 wx))
        case first =>
          clear cE p0 p1 p2 p3 p4 p5
          by_cases hok : okK kd
          case neg =>
            have hq : false = A := by
              rw [← hq]
              cases nxB bs kd with
              | none => rfl
              | some b2 => unfold smV; rw [ix_bad z kd ix hok]; rfl
            subst hq
            unfold okK at hok
            have n1 : (kd == 1) = false := by simp; omega
            have n2 : (kd == 2) = false := by simp; omega
            have n3 : (kd == 3) = false := by simp; omega
            have n4 : (kd == 4) = false := by simp; omega
            have n5 : (kd == 5) = false := by simp; omega
            have n6 : (kd == 6) = false := by simp; omega
            have n7 : (kd == 7) = false := by simp; omega
            have n8 : (kd == 8) = false := by simp; omega
            have n9 : (kd == 9) = false := by simp; omega
            have n10 : (kd == 10) = false := by simp; omega
            clear hok
            go_wp2_with fail
            go_ret
            exact ⟨rfl, hbN⟩
          have hok2 := hok
          unfold okK at hok2
          rcases hok2 with rfl | rfl | rfl | rfl | rfl | rfl | rfl | rfl | rfl | rfl
          · have e3 : nxB bs 1 = some bs := by unfold nxB; simp
            rw [e3] at hq
            simp only at hq
            go_wp2_with fail
            go_meet
            case rel => exact ⟨n, bs, _, _, rfl, rfl, rfl, hn, hok, hbs, hq, o1, KS, KT, hbL⟩
          · have e3 : nxB bs 2 = some bs := by unfold nxB; simp
            rw [e3] at hq
            simp only at hq
            go_wp2_with fail
            go_meet
            case rel => exact ⟨n, bs, _, _, rfl, rfl, rfl, hn, hok, hbs, hq, o1, KS, KT, hbL⟩
          · have e3 : nxB bs 3 = some bs := by unfold nxB; simp
            rw [e3] at hq
            simp only at hq
            go_wp2_with fail
            go_meet
            case rel => exact ⟨n, bs, _, _, rfl, rfl, rfl, hn, hok, hbs, hq, o1, KS, KT, hbL⟩
          · have e3 : nxB bs 4 = some bs := by unfold nxB; simp
            rw [e3] at hq
            simp only at hq
            go_wp2_with fail
            go_meet
            case rel => exact ⟨n, bs, _, _, rfl, rfl, rfl, hn, hok, hbs, hq, o1, KS, KT, hbL⟩
          · have e3 : nxB bs 5 = some bs := by unfold nxB; simp
            rw [e3] at hq
            simp only at hq
            go_wp2_with fail
            go_meet
            case rel => exact ⟨n, bs, _, _, rfl, rfl, rfl, hn, hok, hbs, hq, o1, KS, KT, hbL⟩
          · have e3 : nxB bs 6 = some bs := by unfold nxB; simp
            rw [e3] at hq
            simp only at hq
            go_wp2_with fail
            go_meet
            case rel => exact ⟨n, bs, _, _, rfl, rfl, rfl, hn, hok, hbs, hq, o1, KS, KT, hbL⟩
          · by_cases n16 : n < 16
            · have e3 : nxB bs 7 = some (bs ++ [false]) := by unfold nxB; simp [hbs, n16]
              rw [e3] at hq
              simp only at hq
              have D1 : ¬ ((n + 1 : Nat) : Int) > 16 := by omega
              have D2 : ¬ (n : Int) + 1 > 16 := by omega
              go_wp2_with (at_builtin; (refine wpList_append_mine _ rfl _ _ 65 rfl W0.heap.size 4 ti _ 1 1 Tryz.underlying65 hi hi0 hi1 hi2 rfl (by decide) (.slice xa n xc) n (vB bs) rfl (own_bel o1 (bel1 _)) ⟨wr.heap.size + 1, 0, none⟩ 1 1 [.bool false] rfl rfl (cells_at (W := wr.alloc (.cells #[.int .i64 7, .string ⟨#[]⟩, .int .i64 ix, .slice ea xe.length ec, .int .i64 0, .int .i64 0] 133)) (b := wr.heap.size + 1) (by simp) _ _) (all_one rfl) (by decide) (by unfold maxLen; omega) (by omega) (by have := hb.size; simp; omega) ?_); intro g' c' y o3 gr _ _ _; have b3 := grown_bel (hbL.alloc hbL.size _) gr (Nat.le_refl _) (fun q hq => (own_lt o1 q hq).1))
              have hgo : ∀ q, (Value.slice xa n xc).ownBlock = some q → q ≠ wr.heap.size := fun q hq => by
                have := (own_lt ow q hq).2
                omega
              have KS2 := KS.alloc (.cells #[.bool false] 4)
              have KS3 := KS2.blk gr.size (gr.block _ KS2.1 (fun e => hgo _ e.symm rfl))
              have KT3 := K0.below b3
              go_meet
              case rel => exact ⟨n + 1, bs ++ [false], _, _, rfl, rfl, rfl, by omega, hok, (by show _ = _; simp [hbs]), hq, (by show World.ownsRow _ _ _ _ _ _ _; rw [show vB (bs ++ [false]) = vB bs ++ [.bool false] by simp [vB]]; exact o3), KS3, KT3, b3⟩
            · have e3 : nxB bs 7 = none := by unfold nxB; simp [hbs, n16]
              rw [e3] at hq
              simp only at hq
              subst hq
              have D1 : ((n + 1 : Nat) : Int) > 16 := by omega
              have D2 : (n : Int) + 1 > 16 := by omega
              go_wp2_with (at_builtin; (refine wpList_append_mine _ rfl _ _ 65 rfl W0.heap.size 4 ti _ 1 1 Tryz.underlying65 hi hi0 hi1 hi2 rfl (by decide) (.slice xa n xc) n (vB bs) rfl (own_bel o1 (bel1 _)) ⟨wr.heap.size + 1, 0, none⟩ 1 1 [.bool false] rfl rfl (cells_at (W := wr.alloc (.cells #[.int .i64 7, .string ⟨#[]⟩, .int .i64 ix, .slice ea xe.length ec, .int .i64 0, .int .i64 0] 133)) (b := wr.heap.size + 1) (by simp) _ _) (all_one rfl) (by decide) (by unfold maxLen; omega) (by omega) (by have := hb.size; simp; omega) ?_); intro g' c' y o3 gr _ _ _; have b3 := grown_bel (hbL.alloc hbL.size _) gr (Nat.le_refl _) (fun q hq => (own_lt o1 q hq).1))
              go_ret
              exact ⟨rfl, bel_after hb0 hb0.size b3⟩
          · cases n with
            | zero =>
              have e3 : nxB bs 8 = none := by unfold nxB; simp [hbs]
              rw [e3] at hq
              simp only at hq
              subst hq
              go_wp2_with fail
              go_ret
              exact ⟨rfl, hbN⟩
            | succ m =>
              have i0 : (0 : Int) ≤ (m : Int) := by omega
              have i1 : (m : Int) < ((m + 1 : Nat) : Int) := by omega
              have i2 : (m : Int) < (m : Int) + 1 := by omega
              have lm : m < bs.length := by omega
              have D0 : (((m + 1 : Nat) : Int) == 0) = false := by simp; omega
              have D9 : ((m : Int) + 1 == 0) = false := by simp; omega
              obtain ⟨gs, cs', hsv, -, hgs, -⟩ := own_block ow (by omega)
              injection hsv with hsv1 _ hsv2
              subst hsv1
              subst hsv2
              have hgl := (own_lt ow gs rfl).2
              have zc := (o1.cellAt m (by omega)).trans (vB_get lm)
              have zf := o1.frozenAt m
              cases hbm : bs[m] with
              | true =>
                have e3 : nxB bs 8 = none := by unfold nxB; simp [hbs, List.getD_eq_getElem?_getD, lm, hbm]
                rw [e3] at hq
                simp only at hq
                subst hq
                rw [hbm] at zc
                go_wp2_with fail
                go_ret
                exact ⟨rfl, hbN⟩
              | false =>
                have e3 : nxB bs 8 = some (bs.set m true) := by unfold nxB; simp [hbs, List.getD_eq_getElem?_getD, lm, hbm]
                rw [e3] at hq
                simp only at hq
                rw [hbm] at zc
                have o3 := own_bel (ow.stored m (.bool true)).1 (bel1 (.cells #[.int .i64 8, .string ⟨#[]⟩, .int .i64 ix, .slice ea xe.length ec, .int .i64 0, .int .i64 0] 133))
                have hbS : Below W0.heap.size W0 (wr.setCell ⟨gs, m, none⟩ (.bool true)) := hb.setCell hgs _
                have b3 : Below W0.heap.size W0 ((wr.setCell ⟨gs, m, none⟩ (.bool true)).alloc (.cells #[.int .i64 8, .string ⟨#[]⟩, .int .i64 ix, .slice ea xe.length ec, .int .i64 0, .int .i64 0] 133)) := hbS.alloc hbS.size _
                have KS3 : Has ((wr.setCell ⟨gs, m, none⟩ (.bool true)).alloc (.cells #[.int .i64 8, .string ⟨#[]⟩, .int .i64 ix, .slice ea xe.length ec, .int .i64 0, .int .i64 0] 133)) wr.heap.size #[.int .i64 8, .string ⟨#[]⟩, .int .i64 ix, .slice ea xe.length ec, .int .i64 0, .int .i64 0] := Has.new _ _ _ (by simp [World.setCell])
                have KT3 := K0.below b3
                go_wp2_with fail
                go_meet
                case rel => exact ⟨m + 1, bs.set m true, _, _, rfl, rfl, rfl, hn, hok, (by show _ = _; simp [hbs]), hq, (by show World.ownsRow _ _ _ _ _ _ _; rw [show vB (bs.set m true) = (vB bs).set m (.bool true) by simp [vB, List.map_set]]; exact o3), KS3, KT3, b3⟩
          · cases n with
            | zero =>
              have e3 : nxB bs 9 = none := by unfold nxB; simp [hbs]
              rw [e3] at hq
              simp only at hq
              subst hq
              go_wp2_with fail
              go_ret
              exact ⟨rfl, hbN⟩
            | succ m =>
              have e3 : nxB bs 9 = some (bs.take m) := by unfold nxB; simp [hbs]
              rw [e3] at hq
              simp only at hq
              have D0 : (((m + 1 : Nat) : Int) == 0) = false := by simp; omega
              have D9 : ((m : Int) + 1 == 0) = false := by simp; omega
              obtain ⟨gs, cs', hsv, hcp, hgs, -⟩ := own_block ow (by omega)
              injection hsv with hsv1 _ hsv2
              subst hsv1
              subst hsv2
              have i0 : (0 : Int) ≤ (m : Int) := by omega
              have i1 : (m : Int) ≤ (xc : Int) := by omega
              have i2 : m ≤ xc := by omega
              have o3 := ownsRow_cut (m := m) (by omega) o1
              go_wp2_with fail
              go_meet
              case rel => exact ⟨m, bs.take m, _, _, rfl, rfl, rfl, by omega, hok, (by show _ = _; simp; omega), hq, (by show World.ownsRow _ _ _ _ _ _ _; rw [show vB (bs.take m) = (vB bs).take (m * 1) by simp [vB, List.map_take]]; exact o3), KS, KT, hbL⟩
          · have e3 : nxB bs 10 = some bs := by unfold nxB; simp
            rw [e3] at hq
            simp only at hq
            go_wp2_with fail
            go_meet
            case rel => exact ⟨n, bs, _, _, rfl, rfl, rfl, hn, hok, hbs, hq, o1, KS, KT, hbL⟩
        case rest =>
          clear hq ow hbs o1 KT KS t1 t2 u1 u2 hbL
          obtain ⟨n', bs', xa', xc', rfl, rfl, rfl, hn', hok', hbs', hq', ow', KS', KT', hb'⟩ := hcut
          have hok := hok'.out
          have hq := hq'.out
          have ow2 := ow'.out
          have KS := KS'.out
          have KT := KT'.out
          have hbC := hb'.out
          clear hq' ow' KS' KT' hb' hok'
          have hbD := bel_after hb0 hb0.size hbC
          obtain ⟨_, t1, t2⟩ := id KT
          obtain ⟨_, u1, u2⟩ := id KS
          have cF := cE (tyK kd)
          clear cE
          have hix := ix_th z kd ix hok
          unfold smV at hq
          rw [hix] at hq
          clear hix
          generalize thZ z kd = th at *
          by_cases i0 : 0 ≤ ix
          case neg =>
            have i0' : ix < 0 := by omega
            rw [decide_eq_false i0] at hq
            simp only [Bool.false_and] at hq
            subst hq
            clear cF
            go_wp2_with fail
            go_ret
            exact ⟨rfl, hbD⟩
          have i0' : ¬ ix < 0 := by omega
          by_cases i1 : ix < th
          case neg =>
            have i1' : ix ≥ th := by omega
            rw [decide_eq_true i0, decide_eq_false i1] at hq
            simp only [Bool.true_and, Bool.false_and] at hq
            subst hq
            clear cF
            go_wp2_with fail
            go_ret
            exact ⟨rfl, hbD⟩
          have i1' : ¬ ix ≥ th := by omega
          rw [decide_eq_true i0, decide_eq_true i1] at hq
          simp only [Bool.true_and] at hq
          by_cases k0 : tyK kd = 0
          · rw [if_pos k0] at hq
            rw [k0] at cF ⊢
            clear cF
            by_cases x0 : xe.length = 0
            · have x1 : ¬ (xe.length : Int) > 0 := by omega
              rw [decide_eq_true x0, Bool.true_and] at hq
              clear x0 k0
              generalize xe.length = xl at *
              go_wp2_with fail
              go_roundw
              case rel => exact ⟨k + 1, n', bs', _, _, by omega, by omega, rfl, by go_num, hbs', hq, ow2, hbC⟩
              case measure => simp [intOf]; omega
            · have x1 : (xe.length : Int) > 0 := by omega
              rw [decide_eq_false x0, Bool.false_and] at hq
              subst hq
              clear x0 k0
              generalize xe.length = xl at *
              go_wp2_with fail
              go_ret
              exact ⟨rfl, hbD⟩
          · rw [if_neg k0] at hq
            have n0 : (tyK kd == 0) = false := by simpa using k0
            have n1 : (tyK kd != 0) = true := by simpa using k0
            generalize tyK kd = ty at *
            generalize sxB z xe ty = sx at *
            cases sx with
            | false =>
              simp only [Bool.false_and] at hq
              subst hq
              go_wp2_with (go_at_call 13; (with_reducible refine Calls.mono (cF _ (by exact hbD)) ?_); rintro e w3 ⟨rfl, h3⟩; have hbE := bel_after hbD hbD.size h3)
              go_ret
              exact ⟨rfl, hbE⟩
            | true =>
              simp only [Bool.true_and] at hq
              go_wp2_with (go_at_call 13; (with_reducible refine Calls.mono (cF _ (by exact hbD)) ?_); rintro e w3 ⟨rfl, h3⟩; have hbE := bel_after hbC hbC.size h3; have o3 := own_bel ow2 h3)
              go_roundw
              case rel => exact ⟨k + 1, n', bs', _, _, by omega, by omega, rfl, by go_num, hbs', hq, o3, hbE⟩
              case measure => simp [intOf]; omega
end Go.Proofs.YtnicolaphmffkaaGreatDoor
