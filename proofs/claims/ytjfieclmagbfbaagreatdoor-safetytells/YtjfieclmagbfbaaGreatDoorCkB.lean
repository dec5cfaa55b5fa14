import Derived.Test.YtjfieclmagbfbaaGreatDoorJCkA
set_option linter.unusedSimpArgs false
set_option linter.unusedVariables false
set_option maxRecDepth 100000
set_option maxHeartbeats 8000000
namespace Go.Proofs.YtjfieclmagbfbaaGreatDoor
open Go.RowKit
def ndM (s : Nat) : Int := if s = 1 then 5 else if s = 2 then 4 else 0
def ndA (s : Nat) : Int := if s = 1 then 3 else 0
def Ndt (w : World) : Prop := 0 < w.heap.size ∧ ∀ s, s < 3 → w.cell? ⟨0, s * 3, none⟩ = some (.int .i64 (ndM s)) ∧ w.cell? ⟨0, s * 3 + 1, none⟩ = some (.int .i64 (ndA s)) ∧ w.cell? ⟨0, s * 3 + 2, none⟩ = some (.int .i64 (ndA s))
theorem Ndt.be {w w' : World} (h : Ndt w) (hb : Below w.heap.size w w') : Ndt w' :=
 ⟨Nat.lt_of_lt_of_le h.1 hb.size, fun s hs => ⟨(hb.cell (p := ⟨0, _, none⟩) h.1).trans (h.2 s hs).1, (hb.cell (p := ⟨0, _, none⟩) h.1).trans (h.2 s hs).2.1, (hb.cell (p := ⟨0, _, none⟩) h.1).trans (h.2 s hs).2.2⟩⟩
def lnX (k : Nat) (g : Gp) : List Fd :=
 (if g.min < ndM g.sort.toNat then [⟨62, -1, k, -1⟩] else []) ++ ((if g.amber < ndA g.sort.toNat then [⟨63, -1, k, -1⟩] else []) ++ (if ndA g.sort.toNat < g.lead then [⟨64, -1, k, -1⟩] else []))
def lnF : Nat → List Gp → List Fd
 | _, [] => []
 | k, g :: L => lnX k g ++ lnF (k + 1) L
theorem lnF_drop (G : List Gp) (k : Nat) (h : k < G.length) : lnF k (G.drop k) = lnX k G[k] ++ lnF (k + 1) (G.drop (k + 1)) := by
 rw [List.drop_eq_getElem_cons h]; rfl
theorem lnF_end (G : List Gp) (k : Nat) (h : G.length ≤ k) : lnF k (G.drop k) = [] := by
 rw [List.drop_eq_nil_of_le h]; rfl
theorem lengths_any (G : List Gp) (C : List Cf) (D : List Dt) (TM CT : List ByteArray) (VR : List Vr) (SG : List Ts) (pn : ByteArray) (ga ca da ta ka va sa wa : Option Addr) (gc cc dc tc kc vc sc mb ra rc qa qc wc : Nat) (stt : Int) (fa : Option Addr) (fc : Nat) (F : List Fd) (w W : World) (rb : Nat) (h : RP w rb #[.string pn, .slice ga G.length gc, .slice ca C.length cc, .slice da D.length dc, .slice ta TM.length tc, .slice ka CT.length kc, .slice va VR.length vc, .slice sa SG.length sc, .int .i64 stt, .slice ga G.length gc, .map (some mb), .slice (some ⟨ra, 0, none⟩) SG.length rc, .slice (some ⟨qa, 0, none⟩) SG.length qc, .slice wa G.length wc] fa fc F W) (hG : Fl 5 Gp.cs w (.slice ga G.length gc) G) (lG : G.length ≤ 2932031007317) (hs : ∀ g ∈ G, 1 ≤ g.sort ∧ g.sort ≤ 2) (nt : Ndt w) :
  Calls Tryz.prog 22 #[.pointer (some ⟨rb, 0, none⟩)] W fun e W' => e = .returned (.tuple #[]) ∧ ∃ fa' fc', RP w rb #[.string pn, .slice ga G.length gc, .slice ca C.length cc, .slice da D.length dc, .slice ta TM.length tc, .slice ka CT.length kc, .slice va VR.length vc, .slice sa SG.length sc, .int .i64 stt, .slice ga G.length gc, .map (some mb), .slice (some ⟨ra, 0, none⟩) SG.length rc, .slice (some ⟨qa, 0, none⟩) SG.length qc, .slice wa G.length wc] fa' fc' (addL F (lnF 0 G)) W' := by
 obtain ⟨_, _, e1, kG⟩ := hG.any
 injection e1 with e1 _ e2
 subst e1
 subst e2
 clear hG
 have c9 : W.cell? ⟨rb, 9, none⟩ = some (.slice ga G.length gc) := h.atZ 9 (by decide)
 generalize hA : addL F (lnF 0 G) = A
 go_enter Tryz.func22, Tryz.ntmps22
 go_wp2_with fail
 clear c9
 go_loopw [12] (fun u wr => ∃ (k : Nat) (fa0 : Option Addr) (fc0 : Nat) (F0 : List Fd), k ≤ G.length ∧ u = .int .i64 (k : Int) ∧ Hid (addL F0 (lnF k (G.drop k)) = A) ∧ Hid (RP w rb #[.string pn, .slice ga G.length gc, .slice ca C.length cc, .slice da D.length dc, .slice ta TM.length tc, .slice ka CT.length kc, .slice va VR.length vc, .slice sa SG.length sc, .int .i64 stt, .slice ga G.length gc, .map (some mb), .slice (some ⟨ra, 0, none⟩) SG.length rc, .slice (some ⟨qa, 0, none⟩) SG.length qc, .slice wa G.length wc] fa0 fc0 F0 wr)) (fun u _ => G.length - (intOf u).toNat)
 case atStart => exact ⟨0, fa, fc, F, by omega, rfl, hA, h⟩
 case round =>
  clear hA h; obtain ⟨k, fa0, fc0, F0, hk, rfl, hq', hr'⟩ := hrel; have hq := hq'.out; have hr0 := hr'.out; clear hq' hr'
  by_cases hlt : k < G.length
  case neg =>
   have t1 : ¬ (k : Int) < (G.length : Int) := by omega
   rw [lnF_end _ _ (by omega), addL_nil] at hq; subst hq
   go_wp2_with fail
   go_end0
   exact ⟨rfl, fa0, fc0, hr0⟩
  case pos =>
   obtain ⟨g1, o1, rfl, hg1, P1⟩ := kG.resolve_left (by intro e; rw [e] at hlt; simp at hlt); have p0 := (hr0.hb.cell (p := ⟨g1, _, none⟩) hg1).trans (P1 k hlt 0 _ rfl); have p1 := (hr0.hb.cell (p := ⟨g1, _, none⟩) hg1).trans (P1 k hlt 1 _ rfl); have p2 := (hr0.hb.cell (p := ⟨g1, _, none⟩) hg1).trans (P1 k hlt 2 _ rfl); have p3 := (hr0.hb.cell (p := ⟨g1, _, none⟩) hg1).trans (P1 k hlt 3 _ rfl); have p4 := (hr0.hb.cell (p := ⟨g1, _, none⟩) hg1).trans (P1 k hlt 4 _ rfl); simp only [Nat.add_zero] at p0; have hso := hs _ (List.getElem_mem hlt); rw [lnF_drop G k hlt, addL_app] at hq; unfold lnX at hq; obtain ⟨sn, hsn⟩ : ∃ sn : Nat, G[k].sort = (sn : Int) := ⟨G[k].sort.toNat, by omega⟩; rw [hsn] at p1 hq hso; have hs3 : sn < 3 := by omega
   rw [Int.toNat_natCast] at hq; have t1 : (k : Int) < (G.length : Int) := by omega
   have t0 : (0 : Int) ≤ (k : Int) := by omega
   have t2 : k + 1 ≤ G.length := hlt; have s1 : (sn : Int) < 3 := by omega
   have s0 : (0 : Int) ≤ (sn : Int) := by omega
   generalize hg : G[k] = gg at *; generalize gg.name = x0 at *; generalize gg.min = x2 at *; generalize gg.amber = x3 at *; generalize gg.lead = x4 at *; clear P1 kG hs hsn hso hg; have hb1 : Below wr.heap.size wr (wr.alloc (.cells #[.string x0, .int .i64 (sn : Int), .int .i64 x2, .int .i64 x3, .int .i64 x4] 73)) := bel1 _; have nt1 := (nt.be (hr0.hb.trans (hb1.mono hr0.hb.size))).2 sn hs3; have hb2 := hb1.alloc hb1.size (.cells #[.int .i64 (ndM sn), .int .i64 (ndA sn), .int .i64 (ndA sn)] 126); have B1 : Has ((wr.alloc (.cells #[.string x0, .int .i64 (sn : Int), .int .i64 x2, .int .i64 x3, .int .i64 x4] 73)).alloc (.cells #[.int .i64 (ndM sn), .int .i64 (ndA sn), .int .i64 (ndA sn)] 126)) wr.heap.size #[.string x0, .int .i64 (sn : Int), .int .i64 x2, .int .i64 x3, .int .i64 x4] := (Has.new _ _ _ rfl).alloc _; have B2 : Has ((wr.alloc (.cells #[.string x0, .int .i64 (sn : Int), .int .i64 x2, .int .i64 x3, .int .i64 x4] 73)).alloc (.cells #[.int .i64 (ndM sn), .int .i64 (ndA sn), .int .i64 (ndA sn)] 126)) (wr.heap.size + 1) #[.int .i64 (ndM sn), .int .i64 (ndA sn), .int .i64 (ndA sn)] := Has.new _ _ _ (by simp); obtain ⟨n1, n2, n3⟩ := nt1; have hr1 := hr0.below hb2; have hn1 : rb < wr.heap.size := hr0.box.1; have hn2 : ∀ q, (Value.slice fa0 F0.length fc0).ownBlock = some q → q < wr.heap.size := fun q hq => (own_lt hr0.own q hq).2
   clear hb1 hb2; generalize ndM sn = m1 at *; generalize ndA sn = m2 at *; obtain ⟨_, b1, _⟩ := id B1; obtain ⟨_, b2, _⟩ := id B2; have hm1 : wr.heap.size ≠ rb := by omega
   have hm2 : wr.heap.size + 1 ≠ rb := by omega
   have hn : ∀ q, (Value.slice fa0 F0.length fc0).ownBlock = some q → q ≠ wr.heap.size ∧ q ≠ wr.heap.size + 1 := fun q hq2 => by have := hn2 q hq2; omega
   have hz1 : wr.heap.size + 2 ≤ ((wr.alloc (.cells #[.string x0, .int .i64 (sn : Int), .int .i64 x2, .int .i64 x3, .int .i64 x4] 73)).alloc (.cells #[.int .i64 m1, .int .i64 m2, .int .i64 m2] 126)).heap.size := by simp
   rw [addL_app, addL_app] at hq; clear hn1 hn2 hr0 nt
   by_cases c0 : x2 < m1
   case pos =>
    by_cases c1 : x3 < m2
    case pos =>
     by_cases c2 : m2 < x4
     case pos =>
      rw [if_pos c0, addL_one] at hq; rw [if_pos c1, addL_one] at hq; rw [if_pos c2, addL_one] at hq
      go_wp2_with (first | (go_at_call 63; (with_reducible refine Calls.mono (tell_any w _ rb _ _ _ F0 62 (-1) (k : Int) (-1) hr1) ?_); rintro e w2 ⟨rfl, fa2, fc2, hr2, ts2⟩; have B1 := ts2.has B1 hm1 (fun e => (hn _ e).1 rfl); have B2 := ts2.has B2 hm2 (fun e => (hn _ e).2 rfl); have hn := ts2.far hn (fun q hq2 => (by have := hz1; omega)); have hz2 := Nat.le_trans hz1 ts2.only.size; generalize addF F0 ⟨62, -1, (k : Int), -1⟩ = F2 at *; clear b1 b2; obtain ⟨_, b1, _⟩ := id B1; obtain ⟨_, b2, _⟩ := id B2) | (go_at_call 63; (with_reducible refine Calls.mono (tell_any w _ rb _ _ _ F2 63 (-1) (k : Int) (-1) hr2) ?_); rintro e w3 ⟨rfl, fa3, fc3, hr3, ts3⟩; have B1 := ts3.has B1 hm1 (fun e => (hn _ e).1 rfl); have B2 := ts3.has B2 hm2 (fun e => (hn _ e).2 rfl); have hn := ts3.far hn (fun q hq2 => (by have := hz2; omega)); have hz3 := Nat.le_trans hz2 ts3.only.size; generalize addF F2 ⟨63, -1, (k : Int), -1⟩ = F3 at *; clear b1 b2; obtain ⟨_, b1, _⟩ := id B1; obtain ⟨_, b2, _⟩ := id B2) | (go_at_call 63; (with_reducible refine Calls.mono (tell_any w _ rb _ _ _ F3 64 (-1) (k : Int) (-1) hr3) ?_); rintro e w4 ⟨rfl, fa4, fc4, hr4, ts4⟩; have B1 := ts4.has B1 hm1 (fun e => (hn _ e).1 rfl); have B2 := ts4.has B2 hm2 (fun e => (hn _ e).2 rfl); have hn := ts4.far hn (fun q hq2 => (by have := hz3; omega)); have hz4 := Nat.le_trans hz3 ts4.only.size; generalize addF F3 ⟨64, -1, (k : Int), -1⟩ = F4 at *; clear b1 b2; obtain ⟨_, b1, _⟩ := id B1; obtain ⟨_, b2, _⟩ := id B2))
      go_roundw
      case rel => exact ⟨k + 1, _, _, _, by omega, by go_num, hq, hr4⟩
      case measure => simp [intOf]; omega
     case neg =>
      rw [if_pos c0, addL_one] at hq; rw [if_pos c1, addL_one] at hq; rw [if_neg c2, addL_nil] at hq
      go_wp2_with (first | (go_at_call 63; (with_reducible refine Calls.mono (tell_any w _ rb _ _ _ F0 62 (-1) (k : Int) (-1) hr1) ?_); rintro e w2 ⟨rfl, fa2, fc2, hr2, ts2⟩; have B1 := ts2.has B1 hm1 (fun e => (hn _ e).1 rfl); have B2 := ts2.has B2 hm2 (fun e => (hn _ e).2 rfl); have hn := ts2.far hn (fun q hq2 => (by have := hz1; omega)); have hz2 := Nat.le_trans hz1 ts2.only.size; generalize addF F0 ⟨62, -1, (k : Int), -1⟩ = F2 at *; clear b1 b2; obtain ⟨_, b1, _⟩ := id B1; obtain ⟨_, b2, _⟩ := id B2) | (go_at_call 63; (with_reducible refine Calls.mono (tell_any w _ rb _ _ _ F2 63 (-1) (k : Int) (-1) hr2) ?_); rintro e w3 ⟨rfl, fa3, fc3, hr3, ts3⟩; have B1 := ts3.has B1 hm1 (fun e => (hn _ e).1 rfl); have B2 := ts3.has B2 hm2 (fun e => (hn _ e).2 rfl); have hn := ts3.far hn (fun q hq2 => (by have := hz2; omega)); have hz3 := Nat.le_trans hz2 ts3.only.size; generalize addF F2 ⟨63, -1, (k : Int), -1⟩ = F3 at *; clear b1 b2; obtain ⟨_, b1, _⟩ := id B1; obtain ⟨_, b2, _⟩ := id B2))
      go_roundw
      case rel => exact ⟨k + 1, _, _, _, by omega, by go_num, hq, hr3⟩
      case measure => simp [intOf]; omega
    case neg =>
     by_cases c2 : m2 < x4
     case pos =>
      rw [if_pos c0, addL_one] at hq; rw [if_neg c1, addL_nil] at hq; rw [if_pos c2, addL_one] at hq
      go_wp2_with (first | (go_at_call 63; (with_reducible refine Calls.mono (tell_any w _ rb _ _ _ F0 62 (-1) (k : Int) (-1) hr1) ?_); rintro e w2 ⟨rfl, fa2, fc2, hr2, ts2⟩; have B1 := ts2.has B1 hm1 (fun e => (hn _ e).1 rfl); have B2 := ts2.has B2 hm2 (fun e => (hn _ e).2 rfl); have hn := ts2.far hn (fun q hq2 => (by have := hz1; omega)); have hz2 := Nat.le_trans hz1 ts2.only.size; generalize addF F0 ⟨62, -1, (k : Int), -1⟩ = F2 at *; clear b1 b2; obtain ⟨_, b1, _⟩ := id B1; obtain ⟨_, b2, _⟩ := id B2) | (go_at_call 63; (with_reducible refine Calls.mono (tell_any w _ rb _ _ _ F2 64 (-1) (k : Int) (-1) hr2) ?_); rintro e w3 ⟨rfl, fa3, fc3, hr3, ts3⟩; have B1 := ts3.has B1 hm1 (fun e => (hn _ e).1 rfl); have B2 := ts3.has B2 hm2 (fun e => (hn _ e).2 rfl); have hn := ts3.far hn (fun q hq2 => (by have := hz2; omega)); have hz3 := Nat.le_trans hz2 ts3.only.size; generalize addF F2 ⟨64, -1, (k : Int), -1⟩ = F3 at *; clear b1 b2; obtain ⟨_, b1, _⟩ := id B1; obtain ⟨_, b2, _⟩ := id B2))
      go_roundw
      case rel => exact ⟨k + 1, _, _, _, by omega, by go_num, hq, hr3⟩
      case measure => simp [intOf]; omega
     case neg =>
      rw [if_pos c0, addL_one] at hq; rw [if_neg c1, addL_nil] at hq; rw [if_neg c2, addL_nil] at hq
      go_wp2_with ((go_at_call 63; (with_reducible refine Calls.mono (tell_any w _ rb _ _ _ F0 62 (-1) (k : Int) (-1) hr1) ?_); rintro e w2 ⟨rfl, fa2, fc2, hr2, ts2⟩; have B1 := ts2.has B1 hm1 (fun e => (hn _ e).1 rfl); have B2 := ts2.has B2 hm2 (fun e => (hn _ e).2 rfl); have hn := ts2.far hn (fun q hq2 => (by have := hz1; omega)); have hz2 := Nat.le_trans hz1 ts2.only.size; generalize addF F0 ⟨62, -1, (k : Int), -1⟩ = F2 at *; clear b1 b2; obtain ⟨_, b1, _⟩ := id B1; obtain ⟨_, b2, _⟩ := id B2))
      go_roundw
      case rel => exact ⟨k + 1, _, _, _, by omega, by go_num, hq, hr2⟩
      case measure => simp [intOf]; omega
   case neg =>
    by_cases c1 : x3 < m2
    case pos =>
     by_cases c2 : m2 < x4
     case pos =>
      rw [if_neg c0, addL_nil] at hq; rw [if_pos c1, addL_one] at hq; rw [if_pos c2, addL_one] at hq
      go_wp2_with (first | (go_at_call 63; (with_reducible refine Calls.mono (tell_any w _ rb _ _ _ F0 63 (-1) (k : Int) (-1) hr1) ?_); rintro e w2 ⟨rfl, fa2, fc2, hr2, ts2⟩; have B1 := ts2.has B1 hm1 (fun e => (hn _ e).1 rfl); have B2 := ts2.has B2 hm2 (fun e => (hn _ e).2 rfl); have hn := ts2.far hn (fun q hq2 => (by have := hz1; omega)); have hz2 := Nat.le_trans hz1 ts2.only.size; generalize addF F0 ⟨63, -1, (k : Int), -1⟩ = F2 at *; clear b1 b2; obtain ⟨_, b1, _⟩ := id B1; obtain ⟨_, b2, _⟩ := id B2) | (go_at_call 63; (with_reducible refine Calls.mono (tell_any w _ rb _ _ _ F2 64 (-1) (k : Int) (-1) hr2) ?_); rintro e w3 ⟨rfl, fa3, fc3, hr3, ts3⟩; have B1 := ts3.has B1 hm1 (fun e => (hn _ e).1 rfl); have B2 := ts3.has B2 hm2 (fun e => (hn _ e).2 rfl); have hn := ts3.far hn (fun q hq2 => (by have := hz2; omega)); have hz3 := Nat.le_trans hz2 ts3.only.size; generalize addF F2 ⟨64, -1, (k : Int), -1⟩ = F3 at *; clear b1 b2; obtain ⟨_, b1, _⟩ := id B1; obtain ⟨_, b2, _⟩ := id B2))
      go_roundw
      case rel => exact ⟨k + 1, _, _, _, by omega, by go_num, hq, hr3⟩
      case measure => simp [intOf]; omega
     case neg =>
      rw [if_neg c0, addL_nil] at hq; rw [if_pos c1, addL_one] at hq; rw [if_neg c2, addL_nil] at hq
      go_wp2_with ((go_at_call 63; (with_reducible refine Calls.mono (tell_any w _ rb _ _ _ F0 63 (-1) (k : Int) (-1) hr1) ?_); rintro e w2 ⟨rfl, fa2, fc2, hr2, ts2⟩; have B1 := ts2.has B1 hm1 (fun e => (hn _ e).1 rfl); have B2 := ts2.has B2 hm2 (fun e => (hn _ e).2 rfl); have hn := ts2.far hn (fun q hq2 => (by have := hz1; omega)); have hz2 := Nat.le_trans hz1 ts2.only.size; generalize addF F0 ⟨63, -1, (k : Int), -1⟩ = F2 at *; clear b1 b2; obtain ⟨_, b1, _⟩ := id B1; obtain ⟨_, b2, _⟩ := id B2))
      go_roundw
      case rel => exact ⟨k + 1, _, _, _, by omega, by go_num, hq, hr2⟩
      case measure => simp [intOf]; omega
    case neg =>
     by_cases c2 : m2 < x4
     case pos =>
      rw [if_neg c0, addL_nil] at hq; rw [if_neg c1, addL_nil] at hq; rw [if_pos c2, addL_one] at hq
      go_wp2_with ((go_at_call 63; (with_reducible refine Calls.mono (tell_any w _ rb _ _ _ F0 64 (-1) (k : Int) (-1) hr1) ?_); rintro e w2 ⟨rfl, fa2, fc2, hr2, ts2⟩; have B1 := ts2.has B1 hm1 (fun e => (hn _ e).1 rfl); have B2 := ts2.has B2 hm2 (fun e => (hn _ e).2 rfl); have hn := ts2.far hn (fun q hq2 => (by have := hz1; omega)); have hz2 := Nat.le_trans hz1 ts2.only.size; generalize addF F0 ⟨64, -1, (k : Int), -1⟩ = F2 at *; clear b1 b2; obtain ⟨_, b1, _⟩ := id B1; obtain ⟨_, b2, _⟩ := id B2))
      go_roundw
      case rel => exact ⟨k + 1, _, _, _, by omega, by go_num, hq, hr2⟩
      case measure => simp [intOf]; omega
     case neg =>
      rw [if_neg c0, addL_nil] at hq; rw [if_neg c1, addL_nil] at hq; rw [if_neg c2, addL_nil] at hq
      go_wp2_with (fail)
      go_roundw
      case rel => exact ⟨k + 1, _, _, _, by omega, by go_num, hq, hr1⟩
      case measure => simp [intOf]; omega
end Go.Proofs.YtjfieclmagbfbaaGreatDoor
