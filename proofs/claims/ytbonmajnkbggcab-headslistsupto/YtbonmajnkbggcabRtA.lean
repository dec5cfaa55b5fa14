import Derived.Test.YtbonmajnkbggcabSpB
import Derived.Deep.RegionHeld3
namespace Go.Proofs.Ytbonmajnkbggcab
open Go.RowKit
set_option linter.unusedVariables false

set_option maxRecDepth 100000 in
theorem refUp_any (x : Int) (w : World) (h : inI32 x) : Calls Try.prog 51 #[.int .i32 x] w fun e w' => e = .returned (.int .i32 (upF x)) ∧ w' = w := by
  unfold upF
  by_cases f : x < 0
  · rw [if_neg (by omega), if_pos f]
    go_enter Try.func51, Try.ntmps51
    go_wp2
    go_ret
    exact ⟨rfl, rfl⟩
  · by_cases d : x = 2147483647
    · rw [if_pos d]
      subst d
      go_enter Try.func51, Try.ntmps51
      go_wp2
      go_ret
      exact ⟨rfl, rfl⟩
    · rw [if_neg d, if_neg f]
      have D : (x == 2147483647) = false := by simpa using d
      have e := up_eq h (by omega) d
      go_enter Try.func51, Try.ntmps51
      go_wp2
      go_ret
      exact ⟨by first | rfl | exact ret_int e, rfl⟩
set_option maxRecDepth 100000 in
set_option maxHeartbeats 4000000 in
theorem alone_any (nm : ByteArray) (s mi am le a i : Int) (wd : Bool) (w : World) (hi : inI32 i) :
    Calls Try.prog 49 #[.agg #[.string nm, .int .i64 s, .int .i64 mi, .int .i64 am, .int .i64 le], .int .i64 a, .int .i32 i, .bool wd] w fun e w' => e = .returned (.int .i64 (aloneF ⟨nm, s, mi, am, le⟩ a i wd)) ∧ Below w.heap.size w w' := by
  have hc := conv32 hi
  unfold aloneF
  dsimp only
  by_cases d1 : a = 2
  · rw [if_pos d1]
    subst d1
    cases wd with
    | true =>
      rw [if_pos rfl]
      go_enter Try.func49, Try.ntmps49
      go_wp2
      go_ret
      exact ⟨rfl, belN1⟩
    | false =>
      rw [if_neg (by decide)]
      by_cases d2 : i < mi
      · rw [if_pos d2]
        go_enter Try.func49, Try.ntmps49
        go_wp2
        go_ret
        exact ⟨rfl, belN1⟩
      · rw [if_neg d2]
        by_cases d3 : am > 0
        · rw [if_pos d3]
          go_enter Try.func49, Try.ntmps49
          go_wp2
          go_ret
          exact ⟨rfl, belN1⟩
        · rw [if_neg d3]
          go_enter Try.func49, Try.ntmps49
          go_wp2
          go_ret
          exact ⟨rfl, belN1⟩
  · rw [if_neg d1]
    have D1 : (a == 2) = false := by simpa using d1
    by_cases d2 : a = 3
    · rw [if_pos d2]
      subst d2
      by_cases d3 : i < am
      · rw [if_pos d3]
        go_enter Try.func49, Try.ntmps49
        go_wp2
        go_ret
        exact ⟨rfl, belN1⟩
      · rw [if_neg d3]
        go_enter Try.func49, Try.ntmps49
        go_wp2
        go_ret
        exact ⟨rfl, belN1⟩
    · rw [if_neg d2]
      have D2 : (a == 3) = false := by simpa using d2
      by_cases d3 : a = 1
      · rw [if_pos d3]
        subst d3
        by_cases d4 : i < le
        · rw [if_pos d4]
          go_enter Try.func49, Try.ntmps49
          go_wp2
          go_ret
          exact ⟨rfl, belN1⟩
        · rw [if_neg d4]
          go_enter Try.func49, Try.ntmps49
          go_wp2
          go_ret
          exact ⟨rfl, belN1⟩
      · rw [if_neg d3]
        have D3 : (a == 1) = false := by simpa using d3
        go_enter Try.func49, Try.ntmps49
        go_wp2
        go_ret
        exact ⟨rfl, belN1⟩

def ivF : List Cf → Int → Int → Int
  | [], _, _ => -1
  | c :: cs, a, b => if c.a = a ∧ c.b = b then c.ab else if c.a = b ∧ c.b = a then c.ba else ivF cs a b
theorem ivF_step (C : List Cf) (a b : Int) (k : Nat) (h : k < C.length) : ivF (C.drop k) a b = if C[k].a = a ∧ C[k].b = b then C[k].ab else if C[k].a = b ∧ C[k].b = a then C[k].ba else ivF (C.drop (k + 1)) a b := by
  rw [List.drop_eq_getElem_cons h]; rfl
theorem ivF_end (C : List Cf) (a b : Int) (k : Nat) (h : C.length ≤ k) : ivF (C.drop k) a b = -1 := by
  rw [List.drop_eq_nil_of_le h]; rfl
set_option maxRecDepth 100000 in
set_option maxHeartbeats 4000000 in
theorem inter7_any (C : List Cf) (vg vc : Value) (a b : Int) (w : World) (h : Fl 4 Cf.cs w vc C) (hl : C.length ≤ 4398046511000) :
    Calls Try.prog 64 #[.agg #[vg, vc], .int .i64 a, .int .i64 b] w fun e w' => e = .returned (.int .i64 (ivF C a b)) ∧ Below w.heap.size w w' := by
  obtain ⟨va, cap, rfl, hk⟩ := h.any
  clear h
  generalize hA : ivF C a b = A
  go_enter Try.func64, Try.ntmps64
  go_wp2
  have B0 : Has (w.alloc (.cells #[vg, .slice va C.length cap] 25)) w.heap.size #[vg, .slice va C.length cap] := Has.new _ _ _ rfl
  have hb0 : Below w.heap.size w (w.alloc (.cells #[vg, .slice va C.length cap] 25)) := belN1
  generalize (w.alloc (.cells #[vg, .slice va C.length cap] 25)) = W0 at *
  go_loopw [7] (fun t wr => ∃ k : Nat, k ≤ C.length ∧ t = .int .i64 (k : Int) ∧ Hid (ivF (C.drop k) a b = A) ∧ Hid (Has wr w.heap.size #[vg, .slice va C.length cap]) ∧ Hid (Below w.heap.size w wr)) (fun t _ => C.length - (intOf t).toNat)
  case atStart => exact ⟨0, by omega, rfl, hA, B0, hb0⟩
  case round =>
    clear B0 hb0
    obtain ⟨k, hkl, rfl, hs, B, hb⟩ := hrel
    obtain ⟨_, b1, _⟩ := id B.out
    by_cases hlt : k < C.length
    · obtain ⟨g, o, rfl, hg, P⟩ := hk.resolve_left (by intro e; rw [e] at hlt; simp at hlt)
      have p0 := (hb.out.cell (p := ⟨g, _, none⟩) hg).trans (P k hlt 0 _ rfl)
      have p1 := (hb.out.cell (p := ⟨g, _, none⟩) hg).trans (P k hlt 1 _ rfl)
      have p2 := (hb.out.cell (p := ⟨g, _, none⟩) hg).trans (P k hlt 2 _ rfl)
      have p3 := (hb.out.cell (p := ⟨g, _, none⟩) hg).trans (P k hlt 3 _ rfl)
      simp only [Nat.add_zero] at p0
      have hstep := ivF_step C a b k hlt
      rw [hs.out] at hstep
      generalize C[k].a = xa at *
      generalize C[k].b = xb at *
      generalize C[k].ab = xab at *
      generalize C[k].ba = xba at *
      have t1 : (k : Int) < (C.length : Int) := by omega
      have t0 : (0 : Int) ≤ (k : Int) := by omega
      have t2 : k + 1 ≤ C.length := hlt
      clear P hk hs
      have hbN : Below w.heap.size w (wr.alloc (.cells #[.int .i64 xa, .int .i64 xb, .int .i64 xab, .int .i64 xba] 61)) := hb.out.alloc hb.out.size _
      have BN := B.out.alloc (.cells #[.int .i64 xa, .int .i64 xb, .int .i64 xab, .int .i64 xba] 61)
      by_cases e1 : xa = a ∧ xb = b
      · rw [if_pos e1] at hstep
        obtain ⟨rfl, rfl⟩ := e1
        subst hstep
        go_wp2
        go_ret
        exact ⟨rfl, hbN⟩
      · rw [if_neg e1] at hstep
        by_cases e2 : xa = b ∧ xb = a
        · rw [if_pos e2] at hstep
          obtain ⟨rfl, rfl⟩ := e2
          subst hstep
          have f : ¬ xa = xb := fun h => e1 ⟨h, h.symm⟩
          go_wp2
          go_ret
          exact ⟨rfl, hbN⟩
        · rw [if_neg e2] at hstep
          have hs' : Hid (ivF (C.drop (k + 1)) a b = A) := hstep.symm
          clear hstep
          by_cases f1 : xa = a
          · have f2 : ¬ xb = b := fun h => e1 ⟨f1, h⟩
            by_cases f3 : xa = b
            · have f4 : ¬ xb = a := fun h => e2 ⟨f3, h⟩
              clear e1 e2
              subst f1
              subst f3
              go_wp2
              go_roundw
              case rel => exact ⟨k + 1, by omega, by go_num, hs', BN, hbN⟩
              case measure => simp [intOf]; omega
            · clear e1 e2
              subst f1
              go_wp2
              go_roundw
              case rel => exact ⟨k + 1, by omega, by go_num, hs', BN, hbN⟩
              case measure => simp [intOf]; omega
          · by_cases f3 : xa = b
            · have f4 : ¬ xb = a := fun h => e2 ⟨f3, h⟩
              clear e1 e2
              subst f3
              go_wp2
              go_roundw
              case rel => exact ⟨k + 1, by omega, by go_num, hs', BN, hbN⟩
              case measure => simp [intOf]; omega
            · clear e1 e2
              go_wp2
              go_roundw
              case rel => exact ⟨k + 1, by omega, by go_num, hs', BN, hbN⟩
              case measure => simp [intOf]; omega
    · have t1 : ¬ (k : Int) < (C.length : Int) := by omega
      have hA' : A = -1 := by rw [← hs.out]; exact ivF_end C a b k (by omega)
      subst hA'
      clear hs
      go_wp2
      go_ret
      exact ⟨rfl, hb.out⟩
/-- Does o let g start? -/
def okO (C : List Cf) (W : List Int) (f : Nat → Int) (g o : Nat) : Bool := !(decide (0 ≤ ivF C (o : Int) (g : Int)) && (decide (f o ≠ 0) || decide (W.getD o 0 < ivF C (o : Int) (g : Int))))
def freeB (C : List Cf) (W : List Int) (f : Nat → Int) (n g : Nat) : Bool := (List.range n).all (okO C W f g)
theorem free_no {C : List Cf} {W : List Int} {f : Nat → Int} {n g o : Nat} (ho : o < n) (h : okO C W f g o = false) : freeB C W f n g = false := by
  unfold freeB
  rw [List.all_eq_false]
  exact ⟨o, by simpa using ho, by simp [h]⟩
theorem free_yes {C : List Cf} {W : List Int} {f : Nat → Int} {n g : Nat} (h : ∀ o, o < n → okO C W f g o = true) : freeB C W f n g = true := by
  unfold freeB
  rw [List.all_eq_true]
  intro o ho
  exact h o (by simpa using ho)
set_option maxRecDepth 100000 in
set_option maxHeartbeats 4000000 in
theorem free_any (G : List Gp) (C : List Cf) (A I W : List Int) (vg vc v1 v2 v3 : Value) (w : World) (h1 : Fl 5 Gp.cs w vg G) (h2 : Fl 4 Cf.cs w vc C) (h3 : Fl 1 n64 w v1 A) (h4 : Fl 1 n32 w v2 I) (h5 : Fl 1 n32 w v3 W) (lG : G.length ≤ 2932031007317) (lC : C.length ≤ 4398046511000) (lA : A.length ≤ 17592186044000) (lI : I.length ≤ 35184372088000) (lW : W.length ≤ 35184372088000) (g : Nat) (f : Nat → Int) (ra : Option Addr) (rc : Nat) (la : A.length = G.length) (lw : W.length = G.length) (okW : ∀ x ∈ W, inI32 x) (h64 : G.length ≤ 64) (hrow : G.length = 0 ∨ ∃ r, ra = some ⟨r, 0, none⟩ ∧ r < w.heap.size ∧ ∀ k, k < G.length → w.cell? ⟨r, k, none⟩ = some (.int .i64 (f k))) :
    Calls Try.prog 50 #[.agg #[vg, vc], .agg #[v1, v2, v3], .slice ra G.length rc, .int .i64 (g : Int)] w fun e w' => e = .returned (.bool (freeB C W f G.length g)) ∧ Below w.heap.size w w' := by
  have hIv' := fun (X : World) (hX : Below w.heap.size w X) (o : Nat) => inter7_any C vg vc (o : Int) (g : Int) X (h2.below hX) lC
  obtain ⟨va, cg, rfl, kG⟩ := h1.any
  obtain ⟨vb, cc, rfl, kC⟩ := h2.any
  obtain ⟨vA, cA, rfl, kA⟩ := h3.nums
  obtain ⟨vI, cI, rfl, kI⟩ := h4.nums
  obtain ⟨vW, cW, rfl, kW⟩ := h5.nums
  clear h1 h2 h3 h4 h5 kG kC kA kI
  have B0 : Has ((w.alloc (.cells #[.slice va G.length cg, .slice vb C.length cc] 25)).alloc (.cells #[.slice vA A.length cA, .slice vI I.length cI, .slice vW W.length cW] 29)) w.heap.size #[.slice va G.length cg, .slice vb C.length cc] := (Has.new _ _ _ rfl).alloc _
  have B1 : Has ((w.alloc (.cells #[.slice va G.length cg, .slice vb C.length cc] 25)).alloc (.cells #[.slice vA A.length cA, .slice vI I.length cI, .slice vW W.length cW] 29)) (w.heap.size + 1) #[.slice vA A.length cA, .slice vI I.length cI, .slice vW W.length cW] := Has.new _ _ _ (by simp)
  have hb0 : Below w.heap.size w ((w.alloc (.cells #[.slice va G.length cg, .slice vb C.length cc] 25)).alloc (.cells #[.slice vA A.length cA, .slice vI I.length cI, .slice vW W.length cW] 29)) := belA
  have i3 : (W.length : Int) = (G.length : Int) := by omega
  replace la : Hid (A.length = G.length) := la
  replace lw : Hid (W.length = G.length) := lw
  generalize hR0 : freeB C W f G.length g = R
  replace hR0 : Hid (freeB C W f G.length g = R) := hR0
  go_enter Try.func50, Try.ntmps50
  go_wp2
  generalize ((w.alloc (.cells #[.slice va G.length cg, .slice vb C.length cc] 25)).alloc (.cells #[.slice vA A.length cA, .slice vI I.length cI, .slice vW W.length cW] 29)) = W0 at *
  go_loopw [9] (fun t wr => ∃ k : Nat, k ≤ G.length ∧ t = .int .i64 (k : Int) ∧ Hid (∀ j, j < k → okO C W f g j = true) ∧ Hid (Has wr w.heap.size #[.slice va G.length cg, .slice vb C.length cc]) ∧ Hid (Has wr (w.heap.size + 1) #[.slice vA A.length cA, .slice vI I.length cI, .slice vW W.length cW]) ∧ Hid (Below w.heap.size w wr)) (fun t _ => G.length - (intOf t).toNat)
  case atStart => exact ⟨0, by omega, rfl, (fun j h => absurd h (Nat.not_lt_zero _)), B0, B1, hb0⟩
  case round =>
    clear B0 B1 hb0
    obtain ⟨k, hkl, rfl, fil, B, B1, hb⟩ := hrel
    obtain ⟨_, b1, _⟩ := id B.out
    by_cases hlt : k < G.length
    · obtain ⟨r, rfl, hr, PF⟩ := hrow.resolve_left (by omega)
      have hkG := hlt
      have lW' : k < W.length := by have := lw.out; omega
      obtain ⟨gW, oW, rfl, hgW, PW⟩ := kW.resolve_left (by intro e; rw [e] at lW'; simp at lW')
      have hPW : ∀ X : World, Below w.heap.size w X → X.cell? ⟨gW, oW + k, none⟩ = some (.int .i32 W[k]) := fun X hX => (hX.cell (p := ⟨gW, _, none⟩) hgW).trans (PW k lW' _ rfl)
      have hPF : ∀ X : World, Below w.heap.size w X → X.cell? ⟨r, k, none⟩ = some (.int .i64 (f k)) := fun X hX => (hX.cell (p := ⟨r, k, none⟩) hr).trans (PF k hkG)
      have hIv := fun (X : World) (hX : Below w.heap.size w X) => hIv' X hX k
      have hc := conv32 (okW _ (List.getElem_mem lW'))
      have hwk : W.getD k 0 = W[k] := by simp [List.getD_eq_getElem?_getD, lW']
      have t1 : (k : Int) < (G.length : Int) := by omega
      have t0 : (0 : Int) ≤ (k : Int) := by omega
      have t2 : k + 1 ≤ G.length := hlt
      have tW : (k : Int) < (W.length : Int) := by omega
      clear kW PW okW hIv' hrow PF
      generalize hiv : ivF C (k : Int) (g : Int) = iv at *
      generalize W[k] = yw at *
      generalize hfk : f k = yf at *
      by_cases d1 : iv ≥ 0
      · by_cases d2 : yf = 0
        · subst d2
          by_cases d3 : yw < iv
          · skip
            have ho : okO C W f g k = false := by unfold okO; rw [hwk]; rw [hiv, hfk]; simp [d3]; omega
            have hR : R = false := by rw [← hR0.out]; exact free_no hkG ho
            subst hR
            clear hiv
            go_wp2_with (go_at_call 64; (with_reducible refine Calls.mono (hIv _ (by exact hb.out)) ?_); rintro e w2 ⟨rfl, hb2⟩; have hbM := bel_after hb.out hb.out.size hb2; have BM := B.out.below hb2; have B1M := B1.out.below hb2; obtain ⟨_, m2, _⟩ := id B1M; have cf := hPF _ hbM; have cw := hPW _ hbM; clear hb2)
            go_ret
            exact ⟨rfl, hbM⟩
          · have D3 : decide (yw < iv) = false := decide_eq_false d3
            have ho : okO C W f g k = true := by unfold okO; rw [hwk]; rw [hiv, hfk]; simp; omega
            clear hiv
            go_wp2_with (go_at_call 64; (with_reducible refine Calls.mono (hIv _ (by exact hb.out)) ?_); rintro e w2 ⟨rfl, hb2⟩; have hbM := bel_after hb.out hb.out.size hb2; have BM := B.out.below hb2; have B1M := B1.out.below hb2; obtain ⟨_, m2, _⟩ := id B1M; have cf := hPF _ hbM; have cw := hPW _ hbM; clear hb2)
            go_roundw
            case rel => exact ⟨k + 1, by omega, by go_num, (fun j hj => by rcases Nat.lt_succ_iff_lt_or_eq.1 hj with h | h; exact fil.out j h; subst h; exact ho), BM, B1M, hbM⟩
            case measure => simp [intOf]; omega
        · have D2 : (yf != 0) = true := by simpa using d2
          have ho : okO C W f g k = false := by unfold okO; rw [hwk]; rw [hiv, hfk]; simp [d2]; omega
          have hR : R = false := by rw [← hR0.out]; exact free_no hkG ho
          subst hR
          clear hiv
          go_wp2_with (go_at_call 64; (with_reducible refine Calls.mono (hIv _ (by exact hb.out)) ?_); rintro e w2 ⟨rfl, hb2⟩; have hbM := bel_after hb.out hb.out.size hb2; have BM := B.out.below hb2; have B1M := B1.out.below hb2; obtain ⟨_, m2, _⟩ := id B1M; have cf := hPF _ hbM; have cw := hPW _ hbM; clear hb2)
          go_ret
          exact ⟨rfl, hbM⟩
      · have D1 : decide (iv ≥ 0) = false := decide_eq_false d1
        have ho : okO C W f g k = true := by unfold okO; rw [hwk]; rw [hiv]; simp; omega
        clear hiv
        go_wp2_with (go_at_call 64; (with_reducible refine Calls.mono (hIv _ (by exact hb.out)) ?_); rintro e w2 ⟨rfl, hb2⟩; have hbM := bel_after hb.out hb.out.size hb2; have BM := B.out.below hb2; have B1M := B1.out.below hb2; obtain ⟨_, m2, _⟩ := id B1M; have cf := hPF _ hbM; have cw := hPW _ hbM; clear hb2)
        go_roundw
        case rel => exact ⟨k + 1, by omega, by go_num, (fun j hj => by rcases Nat.lt_succ_iff_lt_or_eq.1 hj with h | h; exact fil.out j h; subst h; exact ho), BM, B1M, hbM⟩
        case measure => simp [intOf]; omega
    · have t1 : ¬ (k : Int) < (G.length : Int) := by omega
      have hR : R = true := by rw [← hR0.out]; exact free_yes fun o ho => fil.out o (by omega)
      subst hR
      clear kW fil
      go_wp2
      go_ret
      exact ⟨rfl, hb.out⟩
end Go.Proofs.Ytbonmajnkbggcab
