import Derived.Test.YtjfieclmagbfbaaGreatDoorRtE
set_option linter.unusedSimpArgs false
set_option linter.unusedVariables false
set_option maxRecDepth 100000
set_option maxHeartbeats 8000000
namespace Go.Proofs.YtjfieclmagbfbaaGreatDoor
open Go.RowKit
theorem zCy {w : World} {base e sz m off g cap : Nat} {u : Value} {xs ms : List Value} (h : w.ownsRow base e sz (.slice (some ⟨g, 0, none⟩) (m + 2) cap) (m + 2) (xs ++ ms)) (hl : xs.length = m * sz) (h0 : ms[off]? = some u) : w.cell? ⟨g, m * sz + off, none⟩ = some u := by
 refine zCd h rfl _ _ ?_
 rw [List.getElem?_append_right (by omega), hl, Nat.add_sub_cancel_left]; exact h0
theorem own_max {w : World} {base e size n : Nat} {v : Value} {xs : List Value} (h : w.ownsRow base e size v n xs) : n ≤ maxLen := by
 rcases h.2 with ⟨_, h0⟩ | ⟨g, cap, cur, h1, h2, h3, h4, h5, h6⟩
 ·omega
 ·omega
theorem RyF.below {w w' : World} {G : List Gp} {C : List Cf} {D : List Dt} {TM CT : List ByteArray} {VR : List Vr} {SG : List Ts} {g1 d1 g2 d2 gS cS : Nat} {a3 a4 a5 a6 na : Option Addr} {c3 c4 c5 c6 nc : Nat} {Ls : List Sv} (h : RyF w G C D TM CT VR SG g1 d1 g2 d2 gS cS a3 a4 a5 a6 na c3 c4 c5 c6 nc Ls) (hb : Below w.heap.size w w') : RyF w' G C D TM CT VR SG g1 d1 g2 d2 gS cS a3 a4 a5 a6 na c3 c4 c5 c6 nc Ls := by
 obtain ⟨o, B, he⟩ := h.e
 exact ⟨h.m, zAe h.g hb, zAe h.c hb, zAe h.d hb, zAe h.t hb, zAe h.k hb, zAe h.v hb, zAe h.s hb, zAe h.n hb, ⟨o, B, fun i s hs => (Mk.below (u := i + 5) hb).std (by omega) (he i s hs) (by omega)⟩⟩
theorem RyF.nx {w : World} {G : List Gp} {C : List Cf} {D : List Dt} {TM CT : List ByteArray} {VR : List Vr} {SG : List Ts} {g1 d1 g2 d2 gS cS : Nat} {a3 a4 a5 a6 na : Option Addr} {c3 c4 c5 c6 nc : Nat} {Ls : List Sv} (h : RyF w G C D TM CT VR SG g1 d1 g2 d2 gS cS a3 a4 a5 a6 na c3 c4 c5 c6 nc Ls) (i : Nat) (hi : i < SG.length) :
  ∃ gN q m c, na = some ⟨gN, 0, none⟩ ∧ w.cell? ⟨gN, i, none⟩ = some (.slice (some ⟨q, 0, none⟩) (m + 2) c) ∧ m + 2 ≤ maxLen ∧ w.cell? ⟨q, m * 2, none⟩ = some (.int .i64 77) ∧ w.cell? ⟨q, (m + 1) * 2, none⟩ = some (.int .i64 77) := by
 obtain ⟨o, B, he⟩ := h.e
 have hl : Ls.length = SG.length := by rw [← h.m, List.length_map]
 have hi' : i < Ls.length := by omega
 have hs := List.getElem?_eq_getElem hi'
 have hd := he i _ hs
 generalize Ls[i] = s at *
 obtain ⟨gN, _, e1, -⟩ := zBb h.n (by omega)
 injection e1 with e1 e2 e3
 subst e1
 obtain ⟨q, _, e1, -⟩ := zBb hd.n.own (by omega)
 injection e1 with e1 _ _
 have hn := hd.n.own
 rw [e1] at hn
 have c0 := h.n.cellAt i (by omega)
 have c1 : (zAc Sv.rc Ls)[i]? = some (.slice s.na (s.x.nexts.length + 2) s.nc) := by
  obtain ⟨h1, h2⟩ := List.getElem?_eq_some_iff.1 hs; have := zBn rc_len1 Ls i 0 h1 (by decide); rw [Nat.mul_one, Nat.add_zero] at this; rw [this, h2]; rfl
 rw [c1, e1] at c0
 have hx : s.xs.length = s.x.nexts.length * 2 := hd.r.1
 have m1 := zCy (off := 0) hn hx rfl
 have m2 := zCy (off := 2) hn hx rfl
 exact ⟨gN, q, s.x.nexts.length, s.nc, rfl, c0, own_max hn, m1, by rw [show (s.x.nexts.length + 1) * 2 = s.x.nexts.length * 2 + 2 by omega]; exact m2⟩
theorem kept_any (G : List Gp) (C : List Cf) (D : List Dt) (TM CT : List ByteArray) (VR : List Vr) (SG : List Ts) (g1 d1 g2 d2 gS cS : Nat) (a3 a4 a5 a6 na : Option Addr) (c3 c4 c5 c6 nc : Nat) (Ls : List Sv) (w : World) (h : RyF w G C D TM CT VR SG g1 d1 g2 d2 gS cS a3 a4 a5 a6 na c3 c4 c5 c6 nc Ls) :
  Calls Tryz.prog 19 #[.agg #[.slice (some ⟨g1, 0, none⟩) (G.length + 2) d1, .slice (some ⟨g2, 0, none⟩) (C.length + 2) d2, .slice (some ⟨gS, 0, none⟩) (SG.length + 2) cS, .slice na SG.length nc]] w fun e w' => e = .returned (.bool true) ∧ Below w.heap.size w w' := by
 have HB : Below w.heap.size w (w.alloc (.cells #[.slice (some ⟨g1, 0, none⟩) (G.length + 2) d1, .slice (some ⟨g2, 0, none⟩) (C.length + 2) d2, .slice (some ⟨gS, 0, none⟩) (SG.length + 2) cS, .slice na SG.length nc] 65)) := bel1 _
 have K : Has (w.alloc (.cells #[.slice (some ⟨g1, 0, none⟩) (G.length + 2) d1, .slice (some ⟨g2, 0, none⟩) (C.length + 2) d2, .slice (some ⟨gS, 0, none⟩) (SG.length + 2) cS, .slice na SG.length nc] 65)) w.heap.size #[.slice (some ⟨g1, 0, none⟩) (G.length + 2) d1, .slice (some ⟨g2, 0, none⟩) (C.length + 2) d2, .slice (some ⟨gS, 0, none⟩) (SG.length + 2) cS, .slice na SG.length nc] := Has.new _ _ _ rfl
 have h := h.below HB
 have hl : Ls.length = SG.length := by rw [← h.m, List.length_map]
 have e1 := zCy (off := 2) h.g (zAk gp_len G) rfl
 have e2 := zCy (off := 7) h.g (zAk gp_len G) rfl
 have e3 := zCy (off := 2) h.c (zAk cf_len C) rfl
 have e4 := zCy (off := 6) h.c (zAk cf_len C) rfl
 have e5 := zCy (off := 1) h.s (by rw [zAk sv_len, hl]) rfl
 have e6 := zCy (off := 8) h.s (by rw [zAk sv_len, hl]) rfl
 have x1 : (G.length + 1) * 5 + 2 = G.length * 5 + 7 := by omega
 have x3 : (C.length + 1) * 4 + 2 = C.length * 4 + 6 := by omega
 have x5 : (SG.length + 1) * 7 + 1 = SG.length * 7 + 8 := by omega
 rw [← x1] at e2
 rw [← x3] at e4
 rw [← x5] at e6
 have m1 := own_max h.g
 have m2 := own_max h.c
 have m3 := own_max h.s
 have hN : Hid (∀ i, i < SG.length → ∃ gN q m c, na = some ⟨gN, 0, none⟩ ∧ ((w.alloc (.cells #[.slice (some ⟨g1, 0, none⟩) (G.length + 2) d1, .slice (some ⟨g2, 0, none⟩) (C.length + 2) d2, .slice (some ⟨gS, 0, none⟩) (SG.length + 2) cS, .slice na SG.length nc] 65))).cell? ⟨gN, i, none⟩ = some (.slice (some ⟨q, 0, none⟩) (m + 2) c) ∧ m + 2 ≤ maxLen ∧ ((w.alloc (.cells #[.slice (some ⟨g1, 0, none⟩) (G.length + 2) d1, .slice (some ⟨g2, 0, none⟩) (C.length + 2) d2, .slice (some ⟨gS, 0, none⟩) (SG.length + 2) cS, .slice na SG.length nc] 65))).cell? ⟨q, m * 2, none⟩ = some (.int .i64 77) ∧ ((w.alloc (.cells #[.slice (some ⟨g1, 0, none⟩) (G.length + 2) d1, .slice (some ⟨g2, 0, none⟩) (C.length + 2) d2, .slice (some ⟨gS, 0, none⟩) (SG.length + 2) cS, .slice na SG.length nc] 65))).cell? ⟨q, (m + 1) * 2, none⟩ = some (.int .i64 77)) := fun i hi => h.nx i hi
 unfold maxLen at m1 m2 m3
 clear h hl x1 x3 x5
 generalize hn : G.length = n at *
 generalize hm : C.length = m at *
 generalize hq : SG.length = z at *
 clear hn hm hq
 obtain ⟨_, k0, _⟩ := id K
 go_enter Tryz.func19, Tryz.ntmps19
 go_wp2
 generalize (w.alloc (.cells #[.slice (some ⟨g1, 0, none⟩) (n + 2) d1, .slice (some ⟨g2, 0, none⟩) (m + 2) d2, .slice (some ⟨gS, 0, none⟩) (z + 2) cS, .slice na z nc] 65)) = Y at *
 go_loopw [3, 5] (fun a t wr => ∃ k : Nat, k ≤ z ∧ t = .int .i64 (k : Int) ∧ wr = Y) (fun _ t _ => z - (intOf t).toNat)
 case atStart => exact ⟨0, by omega, rfl, rfl⟩
 case round =>
  obtain ⟨k, hk, rfl, rfl⟩ := hrel
  by_cases hlt : k < z
  ·obtain ⟨gN, q, mm, c, rfl, c1, c2, c3', c4'⟩ := hN.out k hlt
   unfold maxLen at c2; have t1 : (k : Int) < (z : Int) := by omega
   have t0 : (0 : Int) ≤ (k : Int) := by omega
   clear hN; go_wp2; go_roundw
   case rel => exact ⟨k + 1, by omega, by go_num, trivial⟩
   case measure => simp [intOf]; omega
  ·have t1 : ¬ (k : Int) < (z : Int) := by omega
   clear hN; go_wp2; go_ret; exact ⟨rfl, HB⟩
structure RK (n st : Nat) (N : Nat → List Nat) (S0 : List Bool) (i k : Nat) (S : List Bool) (a : Bool) : Prop where
 len : S.length = n
 beg : sn S st = true
 le : ∀ C : Nat → Prop, C st → (∀ i, C i → ∀ j ∈ N i, C j) → ∀ i, sn S i = true → C i
 no : a = false → S = S0 ∧ (∀ i', i' < i → sn S i' = true → ∀ j ∈ N i', sn S j = true) ∧ ∀ j ∈ (N i).take k, sn S j = true
 yes : a = true → unN S < unN S0
theorem RK.old {n st : Nat} {N : Nat → List Nat} {S0 S : List Bool} {i k : Nat} {a : Bool} (h : RK n st N S0 i k S a) (hk : k < (N i).length) (hs : sn S (N i)[k] = true) : RK n st N S0 i (k + 1) S a :=
 ⟨h.len, h.beg, h.le, fun ha => ⟨(h.no ha).1, (h.no ha).2.1, fun j hj => by
  rcases (zDz hk j).1 hj with h1 | h1
  ·exact (h.no ha).2.2 j h1
  ·rw [h1]; exact hs⟩, h.yes⟩
theorem RK.new {n st : Nat} {N : Nat → List Nat} {S0 S : List Bool} {i k : Nat} {a : Bool} (h : RK n st N S0 i k S a) (hi : sn S i = true) (hk : k < (N i).length) (hx : (N i)[k] < n) (hs : sn S (N i)[k] = false) : RK n st N S0 i (k + 1) (S.set (N i)[k] true) true := by
 have hl : (N i)[k] < S.length := by rw [h.len]; exact hx
 have hu := unN_set S _ hl hs
 refine ⟨by simpa using h.len, by rw [sn_set _ _ _ hl, h.beg]; simp, fun C h0 hc j hj => ?_, fun h => (by cases h), fun _ => ?_⟩
 ·rw [sn_set _ _ _ hl] at hj
  by_cases e1 : (N i)[k] = j
  ·rw [← e1]; exact hc i (h.le C h0 hc i hi) _ (List.getElem_mem hk)
  ·exact h.le C h0 hc j (by simpa [e1] using hj)
 ·cases a with
  | false => have := (h.no rfl).1; rw [← this]; omega
  | true => have := h.yes rfl; omega
theorem RK.fin {n st : Nat} {N : Nat → List Nat} {S0 S : List Bool} {i k : Nat} {a : Bool} (h : RK n st N S0 i k S a) (hk : sn S i = true → (N i).length ≤ k) : RK n st N S0 (i + 1) 0 S a :=
 ⟨h.len, h.beg, h.le, fun ha => ⟨(h.no ha).1, fun i' hi' hs => by
  rcases Nat.lt_or_ge i' i with h1 | h1
  ·exact (h.no ha).2.1 i' h1 hs
  ·obtain rfl : i' = i := by omega
   have := (h.no ha).2.2
   rwa [List.take_of_length_le (hk hs)] at this, fun j hj => by simp at hj⟩, h.yes⟩
theorem sn_out {S : List Bool} {i : Nat} (h : S.length ≤ i) : sn S i = false := by
 unfold sn; simp [List.getD_eq_getElem?_getD, h]
theorem RK.closed {n st : Nat} {N : Nat → List Nat} {S0 S : List Bool} (h : RK n st N S0 n 0 S false) : ∀ i, sn S i = true → ∀ j ∈ N i, sn S j = true := by
 intro i hi
 rcases Nat.lt_or_ge i n with h1 | h1
 ·exact (h.no rfl).2.1 i h1 hi
 ·rw [sn_out (by rw [h.len]; exact h1)] at hi; cases hi
theorem RI.eq {n st : Nat} {N : Nat → List Nat} {S T : List Bool} (h : RI n st N S []) (hl : T.length = n) (hb : sn T st = true) (hle : ∀ C : Nat → Prop, C st → (∀ i, C i → ∀ j ∈ N i, C j) → ∀ i, sn T i = true → C i) (hc : ∀ i, sn T i = true → ∀ j ∈ N i, sn T j = true) : S = T := by
 have hcS : ∀ i, sn S i = true → ∀ j ∈ N i, sn S j = true := fun i hi => by
  rcases h.cl i hi with h1 | h1
  ·simp at h1
  ·exact h1
 have h1 := h.le (fun k => sn T k = true) hb hc
 have h2 := hle (fun k => sn S k = true) h.beg hcS
 apply List.ext_getElem (by rw [h.len, hl])
 intro i hi hi2
 have e1 := zGm hi
 have e2 := zGm hi2
 rw [← e1, ← e2]
 cases hs : sn S i with
 | true => exact (h1 i hs).symm
 | false =>
   cases ht : sn T i with
   | false => rfl
   | true => rw [h2 i ht] at hs; cases hs
structure RH (n st : Nat) (N : Nat → List Nat) (S : List Bool) (a : Bool) : Prop where
 len : S.length = n
 beg : sn S st = true
 le : ∀ C : Nat → Prop, C st → (∀ i, C i → ∀ j ∈ N i, C j) → ∀ i, sn S i = true → C i
 cl : a = false → ∀ i, sn S i = true → ∀ j ∈ N i, sn S j = true
theorem RH.start {n st : Nat} {N : Nat → List Nat} {S : List Bool} {a : Bool} (h : RH n st N S a) : RK n st N S 0 0 S false :=
 ⟨h.len, h.beg, h.le, fun _ => ⟨rfl, fun i' hi => absurd hi (Nat.not_lt_zero _), fun j hj => by simp at hj⟩, fun h => by cases h⟩
def RdP (SG : List Ts) (st : Nat) (w : World) (e : Ending) (w' : World) : Prop := ∃ (g : Nat) (S : List Bool), e = .returned (.slice (some ⟨g, 0, none⟩) SG.length SG.length) ∧ w'.ownsRow w.heap.size 4 1 (.slice (some ⟨g, 0, none⟩) SG.length SG.length) SG.length (vB S) ∧ (∀ S', RI (zBt SG).length st (goN (zBt SG)) S' [] → S' = S) ∧ Below w.heap.size w w'
theorem refReached_any (G : List Gp) (C : List Cf) (D : List Dt) (TM CT : List ByteArray) (VR : List Vr) (SG : List Ts) (pn : ByteArray) (ga ca da ta ka va sa : Option Addr) (gc cc dc tc kc vc sc : Nat) (st : Nat) (w : World) (hS : Tss (fun _ => True) w (.slice sa SG.length sc) SG) (lS : SG.length ≤ 256) (hd : Ways SG) (h1 : st < SG.length) :
  Calls Tryz.prog 45 #[(.agg #[.string pn, .slice ga G.length gc, .slice ca C.length cc, .slice da D.length dc, .slice ta TM.length tc, .slice ka CT.length kc, .slice va VR.length vc, .slice sa SG.length sc, .int .i64 (st : Int)])] w fun e w' => RdP SG st w e w' := by
 obtain ⟨ti, hi, hiv⟩ := Option.map_eq_some_iff.1 info4
 injection hiv with hi0 hiv
 injection hiv with hi1 hi2
 obtain ⟨_, _, e1, _, kS⟩ := Rows.any hS
 injection e1 with e1 _ e2
 subst e1
 subst e2
 clear hS
 obtain ⟨g, o, rfl, _, hg, hx⟩ := kS.resolve_left (by intro e; rw [e] at h1; simp at h1)
 clear kS
 have hx' : Hid (∀ (i : Nat) (h : i < SG.length), ∃ cs : List Value, cs.length = 7 ∧ TsR (fun _ => True) w cs SG[i] ∧ ∀ j u, cs[j]? = some u → w.cell? ⟨g, o + i * 7 + j, none⟩ = some u) := hx
 clear hx
 have hF := RI.first (zBt SG).length st (goN (zBt SG)) (by rw [zCx]; exact h1)
 rw [zCx] at hF
 have hH0 : RH SG.length st (goN (zBt SG)) ((List.replicate SG.length false).set st true) true := ⟨hF.len, hF.beg, hF.le, fun h => (by cases h)⟩
 have hb0 : Below w.heap.size w (w.alloc (.cells #[.string pn, .slice ga G.length gc, .slice ca C.length cc, .slice da D.length dc, .slice ta TM.length tc, .slice ka CT.length kc, .slice va VR.length vc, .slice (some ⟨g, o, none⟩) SG.length sc, .int .i64 (st : Int)] 31)) := bel1 _
 have K0 : Has (w.alloc (.cells #[.string pn, .slice ga G.length gc, .slice ca C.length cc, .slice da D.length dc, .slice ta TM.length tc, .slice ka CT.length kc, .slice va VR.length vc, .slice (some ⟨g, o, none⟩) SG.length sc, .int .i64 (st : Int)] 31)) w.heap.size #[.string pn, .slice ga G.length gc, .slice ca C.length cc, .slice da D.length dc, .slice ta TM.length tc, .slice ka CT.length kc, .slice va VR.length vc, .slice (some ⟨g, o, none⟩) SG.length sc, .int .i64 (st : Int)] := Has.new _ _ _ rfl
 obtain ⟨_, v1, v2⟩ := id K0
 have hsz0 : (w.alloc (.cells #[.string pn, .slice ga G.length gc, .slice ca C.length cc, .slice da D.length dc, .slice ta TM.length tc, .slice ka CT.length kc, .slice va VR.length vc, .slice (some ⟨g, o, none⟩) SG.length sc, .int .i64 (st : Int)] 31)).heap.size = w.heap.size + 1 := by simp
 go_enter Tryz.func45, Tryz.ntmps45
 go_wp2_with ((refine zDh _ rfl _ _ 42 rfl (w.heap.size + 1) 4 ti _ Tryz.underlying42 hi hi0 hi1 rfl .i64 .i64 SG.length (by first | rfl | (simp [Act.eval]; done)) (by first | rfl | (simp [Act.eval]; done)) (by rw [hi2]; omega) (by unfold maxLen; omega) (by simp) ?_); intro W1 own hg1; have hb1 := zCw hg1; have K1 := K0.below hb1; obtain ⟨_, v3, v4⟩ := id K1; rw [hsz0] at own; have zc := (own.cellAt st (by omega)).trans (show _ = some (Value.bool false) by simp [h1]); have zf := own.frozenAt st)
 rw [vB_rep] at own
 have own1 := (own.stored st (.bool true)).1
 rw [vB_set] at own1
 rw [hsz0] at hb1
 have hb2 := hb1.setCell (p := ⟨w.heap.size + 1, st, none⟩) (Nat.le_refl _) (.bool true)
 clear own zc zf v3 v4 K1 hb1 hF
 generalize hW0 : (w.alloc (.cells #[.string pn, .slice ga G.length gc, .slice ca C.length cc, .slice da D.length dc, .slice ta TM.length tc, .slice ka CT.length kc, .slice va VR.length vc, .slice (some ⟨g, o, none⟩) SG.length sc, .int .i64 (st : Int)] 31)) = W0 at *
 generalize (W1.setCell ⟨w.heap.size + 1, st, none⟩ (.bool true)) = W2 at *
 go_loopg [4, 5, 6, 7] (2 * unN ((List.replicate SG.length false).set st true) + 1) (fun gk s4 s5 s6 s7 wr => ∃ (a : Bool) (S : List Bool), s4 = .bool a ∧ 2 * unN S + (if a then 1 else 0) = gk ∧ Hid (RH SG.length st (goN (zBt SG)) S a) ∧ Hid (wr.ownsRow (w.heap.size + 1) 4 1 (.slice (some ⟨w.heap.size + 1, 0, none⟩) SG.length SG.length) SG.length (vB S)) ∧ Hid (Below (w.heap.size + 1) W0 wr))
 case atStart => exact ⟨true, _, rfl, rfl, hH0, own1, hb2⟩
 case round =>
  clear own1 hb2 hH0; obtain ⟨a, S, rfl, hgk, hH, oS, hb⟩ := hrel
  cases a with
  | false =>
    have hbw := zAa hb0 (by omega) (hsz0 ▸ hb.out); have hfin : Hid (∀ S', RI (zBt SG).length st (goN (zBt SG)) S' [] → S' = S) := fun S' hS' => by
     rw [zCx] at hS'; exact hS'.eq hH.out.len hH.out.beg hH.out.le (hH.out.cl rfl)
    clear hH
    go_wp2_with fail
    go_ret; exact ⟨_, S, rfl, zBc oS.out (by omega), hfin.out, hbw⟩
  | true =>
    obtain ⟨gko, rfl⟩ : ∃ z, z = gk := ⟨_, rfl⟩; obtain ⟨wro, rfl⟩ : ∃ z, z = wr := ⟨_, rfl⟩; have hK := hH.out.start; clear hH
    go_wp2_with fail
    go_loopg [4, 5, 6, 7] SG.length (fun gk s4 s5 s6 s7 wr => ∃ (i : Nat) (a : Bool) (T : List Bool), i + gk = SG.length ∧ s4 = .bool a ∧ s5 = .int .i64 (i : Int) ∧ Hid (RK SG.length st (goN (zBt SG)) S i 0 T a) ∧ Hid (wr.ownsRow (w.heap.size + 1) 4 1 (.slice (some ⟨w.heap.size + 1, 0, none⟩) SG.length SG.length) SG.length (vB T)) ∧ Hid (Below (w.heap.size + 1) W0 wr))
    case atStart => exact ⟨0, false, S, by omega, rfl, rfl, hK, oS, hb⟩
    case round =>
     clear hK oS hb; obtain ⟨i, a, T, hk, rfl, rfl, hK, oS, hb⟩ := hrel; have Kk := K0.below (hsz0 ▸ hb.out); have hbw := zAa hb0 (by omega) (hsz0 ▸ hb.out); obtain ⟨_, b1, _⟩ := id Kk
     by_cases hlt : i < SG.length
     ·obtain ⟨cs, _, ⟨ve, vd, vl, vn, rfl, _, _, _, q4⟩, P2⟩ := hx'.out i hlt
      have lN : SG[i].nexts.length ≤ 4398046511000 := Rows.le q4; obtain ⟨gi, rfl⟩ : ∃ z, z = gk := ⟨_, rfl⟩; obtain ⟨wri, rfl⟩ : ∃ z, z = wr := ⟨_, rfl⟩; obtain ⟨xn, xnc, rfl, _, kN⟩ := Rows.any q4; have hwi : goN (zBt SG) i = SG[i].nexts.map fun x => x.dst.toNat := by
       unfold goN; rw [List.getD_eq_getElem?_getD, List.getElem?_eq_getElem (by rw [zCx]; exact hlt)]; exact ways_at SG i hlt
      have hdi := fun (m : Nat) (hm : m < SG[i].nexts.length) => hd SG[i] (List.getElem_mem hlt) SG[i].nexts[m] (List.getElem_mem hm)
      have t1 : (i : Int) < (SG.length : Int) := by omega
      have t0 : (0 : Int) ≤ (i : Int) := by omega
      have hp6 : Hid (∀ X : World, Below w.heap.size w X → X.cell? ⟨g, o + i * 7 + 6, none⟩ = some (.slice xn SG[i].nexts.length xnc)) := fun X hX => (hX.cell (p := ⟨g, _, none⟩) hg).trans (P2 6 _ rfl)
      clear P2 q4; have hkN : Hid (∀ (m : Nat) (hm : m < SG[i].nexts.length), ∃ gN oN, xn = some ⟨gN, oN, none⟩ ∧ ∀ X : World, Below w.heap.size w X → X.cell? ⟨gN, oN + m * 2, none⟩ = some (.int .i64 SG[i].nexts[m].dst)) := by
       intro m hm; obtain ⟨gN, oN, rfl, _, hgN, P3⟩ := kN.resolve_left (by intro e; rw [e] at hm; simp at hm); obtain ⟨cs, _, ⟨v, rfl, _⟩, P4⟩ := P3 m hm; exact ⟨gN, oN, rfl, fun X hX => (hX.cell (p := ⟨gN, _, none⟩) hgN).trans (by have := P4 0 _ rfl; simpa using this)⟩
      clear kN; have hNL : (goN (zBt SG) i).length = SG[i].nexts.length := by rw [hwi, List.length_map]
      have hNm : Hid (∀ (m : Nat) (hm : m < SG[i].nexts.length), (goN (zBt SG) i)[m]'(by rw [hNL]; exact hm) = SG[i].nexts[m].dst.toNat) := fun m hm => by simp only [hwi, List.getElem_map]
      clear hwi; generalize SG[i].nexts = LN at *; generalize hgN : goN (zBt SG) = NN at *
      go_wp2_with fail
      go_loopg [4, 6, 7] LN.length (fun gk s4 s6 s7 wr => ∃ (m : Nat) (a : Bool) (T : List Bool), m + gk = LN.length ∧ s4 = .bool a ∧ s6 = .int .i64 (m : Int) ∧ Hid (RK SG.length st NN S i m T a) ∧ Hid (wr.ownsRow (w.heap.size + 1) 4 1 (.slice (some ⟨w.heap.size + 1, 0, none⟩) SG.length SG.length) SG.length (vB T)) ∧ Hid (Below (w.heap.size + 1) W0 wr))
      case atStart => exact ⟨0, a, T, by omega, rfl, rfl, hK, oS, hb⟩
      case round =>
       clear hK oS hb Kk hbw b1; obtain ⟨m, a, T, hm, rfl, rfl, hK, oS, hb⟩ := hrel; have Kk := K0.below (hsz0 ▸ hb.out); have hbw := zAa hb0 (by omega) (hsz0 ▸ hb.out); obtain ⟨_, b1, _⟩ := id Kk; have p6 := hp6.out wr hbw; have hTl : T.length = SG.length := hK.out.len; have z0 := (oS.out.cellAt i (by omega)).trans (vB_get (by omega : i < T.length)); have zs : sn T i = T[i]'(by omega) := zGm (by omega); generalize T[i]'(by omega) = bi at *
       by_cases hml : m < LN.length
       ·have s1 : (m : Int) < (LN.length : Int) := by omega
        have s0 : (0 : Int) ≤ (m : Int) := by omega
        cases bi with
        | false =>
          have hK2 : Hid (RK SG.length st NN S (i + 1) 0 T a) := hK.out.fin (fun h => by rw [zs] at h; cases h)
          go_wp2_with fail
          go_roundg (gi - 1)
          case measure => go_light; omega
          case rel => exact ⟨i + 1, a, T, by omega, rfl, by go_num, hK2, oS, hb⟩
        | true =>
          obtain ⟨gN, oN, rfl, pN⟩ := hkN.out m hml; have pN := pN wr hbw; obtain ⟨d1, d2⟩ := hdi m hml; have hNe := hNm.out m hml; obtain ⟨dn, hdn⟩ : ∃ dn : Nat, LN[m].dst = (dn : Int) := ⟨LN[m].dst.toNat, by omega⟩; rw [hdn] at pN d1 d2 hNe; rw [Int.toNat_natCast] at hNe; have hdl : dn < SG.length := by omega
          have z1 := (oS.out.cellAt dn (by omega)).trans (vB_get (by omega : dn < T.length)); have z2 := oS.out.frozenAt dn; have zd : sn T dn = T[dn]'(by omega) := zGm (by omega); have hKo := hK.out.old (k := m) (by rw [hNL]; exact hml); have hKn := hK.out.new (k := m) zs (by rw [hNL]; exact hml); rw [hNe] at hKo hKn; generalize T[dn]'(by omega) = bd at *
          cases bd with
          | true =>
            have hK2 : Hid (RK SG.length st NN S i (m + 1) T a) := hKo zd; clear hKo hKn hdi
            go_wp2_with fail
            go_roundg (gk - 1)
            case measure => go_light; omega
            case rel => exact ⟨m + 1, a, T, by omega, rfl, by go_num, hK2, oS, hb⟩
          | false =>
            have hK2 : Hid (RK SG.length st NN S i (m + 1) (T.set dn true) true) := hKn hdl zd; have oS2 := (oS.out.stored dn (.bool true)).1; rw [vB_set] at oS2; have oS3 : Hid (World.ownsRow _ _ _ _ _ _ _) := oS2; have hb3 : Hid (Below (w.heap.size + 1) W0 (wr.setCell ⟨w.heap.size + 1, dn, none⟩ (.bool true))) := hb.out.setCell (p := ⟨w.heap.size + 1, dn, none⟩) (Nat.le_refl _) _; clear hKo hKn hdi oS2
            go_wp2_with fail
            go_roundg (gk - 1)
            case measure => go_light; omega
            case rel => exact ⟨m + 1, true, T.set dn true, by omega, rfl, by go_num, hK2, oS3, hb3⟩
       ·have s1 : ¬ (m : Int) < (LN.length : Int) := by omega
        have hK2 : Hid (RK SG.length st NN S (i + 1) 0 T a) := hK.out.fin (fun _ => by rw [hNL]; omega)
        go_wp2_with fail
        go_roundg (gi - 1)
        case measure => go_light; omega
        case rel => exact ⟨i + 1, a, T, by omega, rfl, by go_num, hK2, oS, hb⟩
     ·obtain rfl : i = SG.length := by omega
      have t1 : ¬ (SG.length : Int) < (SG.length : Int) := by omega
      have hH2 : Hid (RH SG.length st (goN (zBt SG)) T a) := ⟨hK.out.len, hK.out.beg, hK.out.le, fun ha => by subst ha; exact hK.out.closed⟩; have hms : 2 * unN T + (if a then 1 else 0) < gko := by
       cases a with
       | false => have := (hK.out.no rfl).1; subst this; simp at hgk ⊢; omega
       | true => have := hK.out.yes rfl; simp at hgk ⊢; omega
      go_wp2_with fail
      go_roundg (2 * unN T + (if a then 1 else 0))
      case measure => go_light; exact hms
      case rel => exact ⟨a, T, rfl, rfl, hH2, oS, hb⟩
theorem fl_preK {α : Type} {sz : Nat} {cs : α → List Value} (hl : ∀ x, (cs x).length = sz) {w : World} {base e g cap m : Nat} {L : List α} {ms : List Value} (h : w.ownsRow base e sz (.slice (some ⟨g, 0, none⟩) (m + 2) cap) (m + 2) (zAc cs L ++ ms)) (hm : m = L.length) : Fl sz cs w (.slice (some ⟨g, 0, none⟩) m cap) L := by
 subst hm
 have hg := (zAg h g rfl).2
 have hc := own_cap h (by omega)
 refine .inr ⟨⟨g, 0, none⟩, cap, rfl, by omega, .inr ⟨rfl, hg, fun i hi j u hu => ?_⟩⟩
 show w.cell? ⟨g, 0 + i * sz + j, none⟩ = some u
 rw [Nat.zero_add]
 refine zCd h rfl _ u ?_
 have hj : j < sz := by have := (List.getElem?_eq_some_iff.1 hu).1; rw [hl] at this; exact this
 have hlt : i * sz + j < (zAc cs L).length := by
  rw [zAk hl]
  calc i * sz + j < i * sz + sz := by omega
   _ = (i + 1) * sz := (Nat.succ_mul i sz).symm
   _ ≤ L.length * sz := Nat.mul_le_mul_right _ hi
 rw [List.getElem?_append_left hlt, zBn hl L i j hi hj]; exact hu
theorem zGt {α : Type} {sz : Nat} {cs : α → List Value} (hl : ∀ x, (cs x).length = sz) {w : World} {base e : Nat} {v : Value} {L : List α} (h : w.ownsRow base e sz v L.length (zAc cs L)) : Fl sz cs w v L := by
 rcases h.2 with ⟨h0, h1⟩ | ⟨g, cap, cur, h1, h2, h3, h4⟩
 ·exact .inl ⟨h0, List.length_eq_zero_iff.1 h1⟩
 ·subst h1
  refine .inr ⟨⟨g, 0, none⟩, cap, rfl, h4.1, .inr ⟨rfl, (Array.getElem?_eq_some_iff.1 h3).1, fun i hi j u hu => ?_⟩⟩; show w.cell? ⟨g, 0 + i * sz + j, none⟩ = some u; rw [Nat.zero_add]; refine zCd h rfl _ u ?_; have hj : j < sz := by have := (List.getElem?_eq_some_iff.1 hu).1; rw [hl] at this; exact this
  rw [zBn hl L i j hi hj]; exact hu
theorem Tss.nx {S : Nat → Prop} {w : World} {v : Value} {SG : List Ts} (hS : Tss S w v SG) : ∀ x ∈ SG, x.nexts.length ≤ 4398046511000 := by
 intro x hx
 obtain ⟨_, _, _, _, kS⟩ := Rows.any hS
 obtain ⟨i, hi, rfl⟩ := List.getElem_of_mem hx
 obtain ⟨_, _, _, _, _, P⟩ := kS.resolve_left (by intro e; rw [e] at hi; simp at hi)
 obtain ⟨_, _, ⟨_, _, _, _, _, _, _, _, q⟩, _⟩ := P i hi
 exact Rows.le q
theorem StD.tns {o : Nat → Nat} {B t : Nat} {w : World} {s : Sv} (h : StD o B w t s) (hn : s.x.nexts.length ≤ 4398046511000) : Tns (fun _ => True) w (.slice s.na s.x.nexts.length s.nc) s.x.nexts := by
 obtain ⟨g, cap, e, hc, _, hg⟩ := zBb h.n.own (by omega)
 injection e with e _ e2
 subst e2
 have hn' := h.n.own
 rw [e] at hn' ⊢
 refine .inr ⟨⟨g, 0, none⟩, s.nc, rfl, by omega, hn, .inr ⟨rfl, trivial, hg, fun i hi => ?_⟩⟩
 obtain ⟨cs, h1, h2, h3⟩ := h.r.2 i hi
 refine ⟨cs, h1, tnr_mv h2 (Mv.weak fun _ _ _ => trivial), fun j u hu => ?_⟩
 have hj : j < 2 := by have := (List.getElem?_eq_some_iff.1 hu).1; rw [h1] at this; exact this
 show w.cell? ⟨g, 0 + i * 2 + j, none⟩ = some u
 rw [Nat.zero_add]
 refine zCd hn' rfl _ u ?_
 have hx : s.xs.length = s.x.nexts.length * 2 := h.r.1
 rw [List.getElem?_append_left (by omega), h3 j hj]; exact hu
theorem RyF.tpl {w : World} {G : List Gp} {C : List Cf} {D : List Dt} {TM CT : List ByteArray} {VR : List Vr} {SG : List Ts} {pn : ByteArray} {ga ca da ta ka va sa : Option Addr} {gc cc dc tc kc vc sc : Nat} {stt : Int} {g1 d1 g2 d2 gS cS : Nat} {a3 a4 a5 a6 na : Option Addr} {c3 c4 c5 c6 nc : Nat} {Ls : List Sv}
  (h : RyF w G C D TM CT VR SG g1 d1 g2 d2 gS cS a3 a4 a5 a6 na c3 c4 c5 c6 nc Ls) (hP : TPl w G C D TM CT VR SG pn ga ca da ta ka va sa gc cc dc tc kc vc sc stt) : TPl w G C D TM CT VR SG pn (some ⟨g1, 0, none⟩) (some ⟨g2, 0, none⟩) a3 a4 a5 a6 (some ⟨gS, 0, none⟩) d1 d2 c3 c4 c5 c6 cS stt := by
 have hl : Ls.length = SG.length := by rw [← h.m, List.length_map]
 obtain ⟨o, B, he⟩ := h.e
 have hnx := Tss.nx hP.hS
 refine ⟨fl_preK gp_len h.g rfl, fl_preK cf_len h.c rfl, zGt dtlen h.d, zGt tmlen h.t, zGt tmlen h.k, zGt vrlen h.v, ?_, hP.lG, hP.lF, hP.lD, hP.lT, hP.lC, hP.lV, hP.lS, hP.hm, hP.hp, hP.hr⟩
 have hc := own_cap h.s (by omega)
 refine .inr ⟨⟨gS, 0, none⟩, cS, rfl, by omega, Rows.le hP.hS, .inr ⟨rfl, trivial, (zAg h.s gS rfl).2, fun i hi => ?_⟩⟩
 have hi' : i < Ls.length := by omega
 have hs := List.getElem?_eq_getElem hi'
 have hx : SG[i] = Ls[i].x := by simp only [← h.m, List.getElem_map]
 have hd := he i _ hs
 have hn := hnx SG[i] (List.getElem_mem hi)
 rw [hx] at hn ⊢
 have mvw : Mv (Zo o) w (fun _ => True) w := Mv.weak fun _ _ _ => trivial
 refine ⟨Ls[i].cs, rfl, ⟨_, _, _, _, rfl, hd.e.mv mvw, hd.d.mv mvw, hd.l.mv mvw, hd.tns hn⟩, fun j u hu => ?_⟩
 have hj : j < 7 := (List.getElem?_eq_some_iff.1 hu).1
 show w.cell? ⟨gS, 0 + i * 7 + j, none⟩ = some u
 rw [Nat.zero_add]
 refine zCd h.s rfl _ u ?_
 rw [List.getElem?_append_left (by rw [zAk sv_len]; omega), zBn sv_len Ls i j hi' hj]; exact hu
end Go.Proofs.YtjfieclmagbfbaaGreatDoor
