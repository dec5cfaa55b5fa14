import Derived.Test.YtddphepgcihdbaaTuE
namespace Go.Proofs.Ytddphepgcihdbaa
open Go.RowKit Go.Shelf
set_option linter.unusedVariables false
set_option linter.unusedSimpArgs false

/-- What lies in S is as it was in w1. -/
structure Bs (S : Nat → Prop) (w1 w : World) : Prop where
  os : w.os = w1.os
  tape : w.tape = w1.tape
  output : w.output = w1.output
  size : w1.heap.size ≤ w.heap.size
  lt : ∀ k, S k → k < w1.heap.size
  block : ∀ k, S k → w.heap[k]? = w1.heap[k]?
theorem Bs.only {S T : Nat → Prop} {w1 w w' : World} (h : Bs S w1 w) (hb : Only T w w') (hn : ∀ k, S k → ¬ T k) : Bs S w1 w' :=
  ⟨hb.os.trans h.os, hb.tape.trans h.tape, hb.output.trans h.output, Nat.le_trans h.size hb.size, h.lt, fun k hk => (hb.block k (by have := h.lt k hk; have := h.size; omega) (hn k hk)).trans (h.block k hk)⟩
theorem Bs.belZ {S : Nat → Prop} {w1 w w' : World} {Z : Nat} (h : Bs S w1 w) (hb : Below Z w w') (hZ : w1.heap.size ≤ Z) : Bs S w1 w' :=
  ⟨hb.os.trans h.os, hb.tape.trans h.tape, hb.output.trans h.output, Nat.le_trans h.size hb.size, h.lt, fun k hk => (hb.block k (by have := h.lt k hk; omega)).trans (h.block k hk)⟩
theorem Bs.below {S : Nat → Prop} {w1 w w' : World} (h : Bs S w1 w) (hb : Below w.heap.size w w') : Bs S w1 w' := h.belZ hb h.size
def RmRv (S : Nat → Prop) (bf bp bl bt : Nat) (k : Nat) : Prop := S k ∨ k = bf ∨ k = bp ∨ k = bl ∨ k = bt
def StRv (S : Nat → Prop) (bs : Nat) (k : Nat) : Prop := S k ∨ k = bs
def ChRv (S : Nat → Prop) (bt bb ba : Nat) (k : Nat) : Prop := S k ∨ k = bt ∨ k = bb ∨ k = ba
structure RmSv (S : Nat → Prop) (w1 : World) (B bf bp bl bt : Nat) (f p l : Int) (tc : Array Value) (w : World) : Prop where
  hf : Has w bf #[.int .i64 f]
  hp : Has w bp #[.int .i64 p]
  hl : Has w bl #[.int .i64 l]
  ht : Has w bt tc
  hb : Bs S w1 w
  hz : B ≤ w.heap.size
theorem RmSv.below {S : Nat → Prop} {w1 : World} {B bf bp bl bt : Nat} {f p l : Int} {tc : Array Value} {w w' : World} (h : RmSv S w1 B bf bp bl bt f p l tc w) (hb : Below w.heap.size w w') : RmSv S w1 B bf bp bl bt f p l tc w' :=
  ⟨h.hf.below hb, h.hp.below hb, h.hl.below hb, h.ht.below hb, h.hb.below hb, Nat.le_trans h.hz hb.size⟩
theorem RmSv.onlyU {S : Nat → Prop} {w1 : World} {B bf bp bl bt : Nat} {f p l : Int} {tc : Array Value} {w w' : World} {U : Nat → Prop} (h : RmSv S w1 B bf bp bl bt f p l tc w) (hb : Only (Tu B (RmRv S bf bp bl bt) U) w w') (hN : NU (RmRv S bf bp bl bt) U) : RmSv S w1 B bf bp bl bt f p l tc w' :=
  ⟨h.hf.only hb (nTu (.inr (.inl rfl)) hN), h.hp.only hb (nTu (.inr (.inr (.inl rfl))) hN), h.hl.only hb (nTu (.inr (.inr (.inr (.inl rfl)))) hN), h.ht.only hb (nTu (.inr (.inr (.inr (.inr rfl)))) hN),
   h.hb.only hb (fun k hk => nTu (.inl hk) hN), Nat.le_trans h.hz hb.size⟩
set_option maxRecDepth 100000 in
set_option maxHeartbeats 4000000 in
theorem rows1_v (n : Nat) (t : Tt) (f l p : Int) (bf bp bl bt : Nat) (aD aS aX aH : Option Addr) (cD cS cX cH : Nat) (S : Nat → Prop) (w1 W : World) (hT : ∀ V, Bs S w1 V → TR V t (.slice aD t.D.length cD) (.slice aS t.S.length cS) (.slice aX t.X.length cX) (.slice aH t.H.length cH)) (he : t.err = 0)
    (f0 : -1 ≤ f) (f1 : f ≤ 210379681) (l0 : -1 ≤ l) (l1 : l ≤ 210379681) (p0 : -720 ≤ p) (p1 : p ≤ 840)
    (hS : RmSv S w1 W.heap.size bf bp bl bt f p l #[.string t.nm, .slice aD t.D.length cD, .int .i64 t.w0, .int .i64 t.w1, .int .i64 t.w2, .int .i64 t.w3, .int .i64 t.w4, .int .i64 t.w5, .int .i64 t.w6, .slice aS t.S.length cS, .slice aX t.X.length cX, .slice aH t.H.length cH] W) :
    SeqU n 78 #[.pointer (some ⟨bf, 0, none⟩), .pointer (some ⟨bp, 0, none⟩), .pointer (some ⟨bl, 0, none⟩), .pointer (some ⟨bt, 0, none⟩)] (fun m => #[.int .i64 m]) (rmL t f l p) (RmRv S bf bp bl bt) W := by
  intro y J Jx hJU hJ hJx hY U0 hN0 h0
  have hRB : ∀ k, RmRv S bf bp bl bt k → k < W.heap.size := by
    have h1 := hS.hb.size
    have h2 := hS.hf.1
    have h3 := hS.hp.1
    have h4 := hS.hl.1
    have h5 := hS.ht.1
    intro k hk
    rcases hk with h | h | h | h | h
    · have := hS.hb.lt k h; omega
    all_goals omega
  have hRB' : Hid _ := hRB
  have hN0' : Hid _ := hN0
  clear hRB hN0
  obtain ⟨_, _, e3, _, e5, _, e7, _⟩ := err_zero he
  have hJ' : Hid _ := hJ
  have hY' : Hid _ := hY
  clear hJ hY hJx hJU
  have c23 := fun W => callsIn_wide (n := n - 1) |>.2 (localOf_w f p W f0 f1 p0 p1)
  have c23b := fun W => callsIn_wide (n := n - 1) |>.2 (localOf_w l p W l0 l1 p0 p1)
  have hfb := lo_bounds f p
  have hlb := lo_bounds l p
  have c25 := fun (d : Int) (d0 : 0 ≤ d) (d1 : d ≤ 146096) W (hb : Bs S w1 W) i hi hk => callsIn_wide (n := n - 1) |>.2 (rowsOf_any d d0 d1 t aD aS aX aH cD cS cX cH W (hT W hb) i hi hk)
  have c25' : Hid _ := c25
  have hrm : Hid (rmL t f l p = [] ++ (up (loF f p / 1440) (loF l p / 1440 + 1 - loF f p / 1440).toNat).flatMap (dyL t f l p)) := rfl
  have hds : Hid (∀ d, dyL t f l p d = dyR f l p d (rwF t d)) := fun d => rfl
  clear c25
  have hfx : Hid (0 ≤ loF f p / 1440 ∧ loF l p / 1440 ≤ 146096) := by show _ ∧ _; omega
  generalize rmL t f l p = L at *
  generalize dyL t f l p = dy at *
  generalize loF f p = lf at *
  generalize loF l p = ll at *
  refine callsIn_of_wp Try.func78 rfl trivial ?_ rfl
  simp only [Try.ntmps78, List.size_toArray, List.length_cons, List.length_nil, Nat.reduceAdd, Nat.reduceSub, Array.replicate_succ, Array.replicate_zero, List.push_toArray, List.append_toArray, List.nil_append, List.cons_append]
  obtain ⟨_, q0, _⟩ := id hS.hf
  obtain ⟨_, q1, _⟩ := id hS.hp
  gi_wp2_with (refine ⟨trivial, fun h => (by cases h), ?_⟩; gi_at_call 40; refine (c23 _).mono ?_; rintro e w2 ⟨rfl, rfl⟩)
  have hS' : Hid _ := hS
  clear q0 q1 hS
  gi_loopg [6] (ll / 1440 + 1 - lf / 1440).toNat (fun gk s6 wr => ∃ (d : Int) (pre : List Int) (U : Nat → Prop), s6 = .int .i64 d ∧ gk = (ll / 1440 + 1 - d).toNat ∧ 0 ≤ d ∧ d ≤ 150000 ∧ Hid (L = pre ++ (up d gk).flatMap dy) ∧ Hid (J pre U wr) ∧ Hid (NU (RmRv S bf bp bl bt) U) ∧ Hid (RmSv S w1 W.heap.size bf bp bl bt f p l #[.string t.nm, .slice aD t.D.length cD, .int .i64 t.w0, .int .i64 t.w1, .int .i64 t.w2, .int .i64 t.w3, .int .i64 t.w4, .int .i64 t.w5, .int .i64 t.w6, .slice aS t.S.length cS, .slice aX t.X.length cX, .slice aH t.H.length cH] wr))
  case atStart => exact ⟨_, [], U0, rfl, rfl, hfx.out.1, by omega, hrm, h0, hN0'.out, hS'⟩
  case round =>
    obtain ⟨d, pre, U, rfl, hgk, d0, d1, hcut, hJw, hNw, hSw⟩ := hrel
    obtain ⟨_, q1, _⟩ := id hSw.out.hp
    obtain ⟨_, q2, _⟩ := id hSw.out.hl
    obtain ⟨_, q3, _⟩ := id hSw.out.ht
    by_cases hd : d ≤ ll / 1440
    · obtain ⟨k, rfl⟩ : ∃ k, gk = k + 1 := ⟨gk - 1, by omega⟩
      obtain ⟨i1, hi1, hk1, hr1⟩ := row_ix e7 d
      have g1 := (hT wr hSw.out.hb).r _ (List.getElem_mem hi1)
      have b1 := (hT wr hSw.out.hb).rl _ (List.getElem_mem hi1)
      have k25 := c25'.out d d0 (by have := hfx.out.2; omega) wr hSw.out.hb i1 hi1 hk1
      have hcut2 : Hid (L = pre ++ dyR f l p d (t.D[i1].rows.drop 0) ++ (up (d + 1) k).flatMap dy) := by
        show _ = _
        rw [hcut.out, up, List.flatMap_cons, hds.out, hr1, List.drop_zero]; simp
      have hroo := (rw_ok e5 d)
      rw [hr1] at hroo
      have hroo' : Hid _ := hroo
      obtain ⟨a1, c1, v1, k1⟩ := g1.any
      rw [v1] at k25
      have k1' : Hid (∀ V, Bs S w1 V → (t.D[i1].rows = [] ∨ ∃ g o, a1 = some ⟨g, o, none⟩ ∧ g < V.heap.size ∧ ∀ (i : Nat) (h : i < t.D[i1].rows.length) (j : Nat) (u : Value), (Rw.cs t.D[i1].rows[i])[j]? = some u → V.cell? ⟨g, o + i * 2 + j, none⟩ = some u)) := by
        intro V hV
        obtain ⟨a2, c2, v2, k2⟩ := ((hT V hV).r _ (List.getElem_mem hi1)).any
        rw [v1] at v2
        injection v2 with e1 _ _
        subst e1
        exact k2
      clear v1 g1 hcut hr1 hk1 hroo k1
      generalize t.D[i1].rows = r1 at *
      gi_wp2_with (refine ⟨trivial, fun h => (by cases h), ?_⟩; first | (gi_at_call 40; refine (c23b _).mono ?_; rintro e w2 ⟨rfl, rfl⟩) | (gi_at_call 42; refine k25.mono ?_; rintro e w2 ⟨rfl, hb2⟩))
      have hS2 : Hid _ := hSw.out.below hb2
      have hJ2 : Hid (J pre U w2) := hJ'.out _ _ _ _ hJw.out (Only.of_below hb2)
      clear q1 q2 q3 hb2 hSw hJw k25
      gi_loopg [26] r1.length (fun gi s26 wi => ∃ (j : Nat) (pr : List Int) (U : Nat → Prop), s26 = .int .i64 (j : Int) ∧ gi = r1.length - j ∧ j ≤ r1.length ∧ Hid (L = pr ++ dyR f l p d (r1.drop j) ++ (up (d + 1) k).flatMap dy) ∧ Hid (J pr U wi) ∧ Hid (NU (RmRv S bf bp bl bt) U) ∧ Hid (RmSv S w1 W.heap.size bf bp bl bt f p l #[.string t.nm, .slice aD t.D.length cD, .int .i64 t.w0, .int .i64 t.w1, .int .i64 t.w2, .int .i64 t.w3, .int .i64 t.w4, .int .i64 t.w5, .int .i64 t.w6, .slice aS t.S.length cS, .slice aX t.X.length cX, .slice aH t.H.length cH] wi))
      case atStart => exact ⟨0, pre, U, rfl, rfl, Nat.zero_le _, hcut2, hJ2, hNw.out, hS2⟩
      case round =>
        obtain ⟨j, pr, U, rfl, hgi, hjl, hc3, hJi, hNi, hSi⟩ := hrel
        clear hcut2 hJ2 hS2 hNw
        by_cases hlt : j < r1.length
        · have t1 : (j : Int) < (r1.length : Int) := by omega
          have t0 : (0 : Int) ≤ (j : Int) := by omega
          have hE := dyR_drop f l p d r1 j hlt
          have hr := hroo'.out _ (List.getElem_mem hlt)
          obtain ⟨g, o, rfl, hg, P⟩ := (k1'.out wr hSi.out.hb).resolve_left (by intro e; rw [e] at hlt; simp at hlt)
          have p0' := P j hlt 0 _ rfl
          have p1' := P j hlt 1 _ rfl
          simp only [Nat.add_zero] at p0'
          clear P
          generalize r1[j].m = y0 at *
          generalize r1[j].s = y1 at *
          have hSa : Hid _ := hSi.out.below (bel1 (o := .cells #[.int .i64 y0, .int .i64 y1] 74))
          have hJa : Hid (J pr U (wr.alloc (.cells #[.int .i64 y0, .int .i64 y1] 74))) := hJ'.out _ _ _ _ hJi.out (Only.of_below bel1)
          obtain ⟨_, q1, _⟩ := id hSi.out.hf
          obtain ⟨_, q2, _⟩ := id hSi.out.hp
          obtain ⟨_, q3, _⟩ := id hSi.out.hl
          obtain ⟨hb1, _⟩ := id hSi.out.hf
          obtain ⟨hb2, _⟩ := id hSi.out.hp
          obtain ⟨hb3, _⟩ := id hSi.out.hl
          by_cases hA : f ≤ d * 1440 + y0 - p
          · by_cases hB : d * 1440 + y0 - p ≤ l
            · rw [if_pos ⟨hA, hB⟩] at hE
              have hc4 : Hid (L = pr ++ ([d * 1440 + y0 - p] ++ (dyR f l p d (r1.drop (j + 1)) ++ (up (d + 1) k).flatMap dy))) := by show _ = _; rw [hc3.out, hE]; simp
              obtain ⟨fn, tmps, assign, body, hy, hRd⟩ := hY'.out pr (d * 1440 + y0 - p) U _ hJa.out (pre_of hc4.out) hSa.out.hz
              clear hE hc3
              gi_wp2
              refine ⟨fun h => (by cases h), hRd.mono ?_⟩
              rintro e w3 ⟨U', hg, hK1, ⟨rfl, hJ4⟩ | ⟨rfl, hJp⟩⟩
              · gi_wp2
                go_roundg (r1.length - (j + 1))
                case measure => go_light; omega
                case rel => exact ⟨j + 1, pr ++ [d * 1440 + y0 - p], U', by go_num, rfl, by omega, by show _ = _; rw [hc4.out]; simp, hJ4, hNi.out.gr hg (fun k hk => Nat.lt_of_lt_of_le (hRB'.out k hk) hSa.out.hz), hSa.out.onlyU hK1 hNi.out⟩
              · gi_wp2
                refine bodyPost_ret (results_none rfl _ _ _) rfl ?_
                exact ⟨⟨_, rfl⟩, .inr ⟨pr ++ [d * 1440 + y0 - p], U', pre_of hc4.out, hJp⟩⟩
            · rw [if_neg (fun h => hB h.2)] at hE
              clear hY'
              (gi_wp2; refine ⟨fun _ _ => trivial, ?_⟩; gi_wp2)
              go_roundg (r1.length - (j + 1))
              case measure => go_light; omega
              case rel => exact ⟨j + 1, pr, U, by go_num, rfl, by omega, by show _ = _; rw [hc3.out, hE]; simp, hJa, hNi.out, hSa⟩
          · rw [if_neg (fun h => hA h.1)] at hE
            clear hY'
            (gi_wp2; refine ⟨fun _ _ => trivial, ?_⟩; gi_wp2)
            go_roundg (r1.length - (j + 1))
            case measure => go_light; omega
            case rel => exact ⟨j + 1, pr, U, by go_num, rfl, by omega, by show _ = _; rw [hc3.out, hE]; simp, hJa, hNi.out, hSa⟩
        · have t1 : ¬ (j : Int) < (r1.length : Int) := by omega
          have hc4 : Hid (L = pr ++ (up (d + 1) k).flatMap dy) := by show _ = _; rw [hc3.out, List.drop_eq_nil_of_le (by omega)]; simp [dyR]
          clear hc3 hY'
          gi_wp2
          go_roundg k
          case measure => go_light; omega
          case rel => exact ⟨d + 1, pr, U, by go_num, by omega, by omega, by have := hfx.out.2; omega, hc4, hJi, hNi.out, hSi⟩
    · obtain rfl : gk = 0 := by omega
      have hfin : Hid (J L U wr) := by show J _ _ _; rw [hcut.out]; simpa [up] using hJw.out
      gi_wp2_with (refine ⟨trivial, fun h => (by cases h), ?_⟩; gi_at_call 40; refine (c23b _).mono ?_; rintro e w2 ⟨rfl, rfl⟩)
      go_end0
      exact ⟨⟨_, rfl⟩, .inl ⟨U, hfin⟩⟩
structure StSv (S : Nat → Prop) (w1 : World) (B bs : Nat) (v : Value) (w : World) : Prop where
  hs : Has w bs #[v]
  hb : Bs S w1 w
  hz : B ≤ w.heap.size
theorem StSv.below {S : Nat → Prop} {w1 : World} {B bs : Nat} {v : Value} {w w' : World} (h : StSv S w1 B bs v w) (hb : Below w.heap.size w w') : StSv S w1 B bs v w' :=
  ⟨h.hs.below hb, h.hb.below hb, Nat.le_trans h.hz hb.size⟩
theorem StSv.onlyU {S : Nat → Prop} {w1 : World} {B bs : Nat} {v : Value} {w w' : World} {U : Nat → Prop} (h : StSv S w1 B bs v w) (hb : Only (Tu B (StRv S bs) U) w w') (hN : NU (StRv S bs) U) : StSv S w1 B bs v w' :=
  ⟨h.hs.only hb (nTu (.inr rfl) hN),
   h.hb.only hb (fun k hk => nTu (.inl hk) hN), Nat.le_trans h.hz hb.size⟩
theorem StSv.only2 {S T : Nat → Prop} {w1 : World} {B bs : Nat} {v : Value} {w w' : World} (h : StSv S w1 B bs v w) (hb : Only T w w') (h1 : ∀ k, T k → w1.heap.size ≤ k ∧ k ≠ bs) : StSv S w1 B bs v w' :=
  ⟨h.hs.only hb (fun x => (h1 _ x).2 rfl), h.hb.only hb (fun k hk x => by have := (h1 _ x).1; have := h.hb.lt k hk; omega), Nat.le_trans h.hz hb.size⟩
set_option maxRecDepth 100000 in
set_option maxHeartbeats 4000000 in
theorem str1_v (n : Nat) (H : List Sh) (bs : Nat) (aH : Option Addr) (cH : Nat) (S : Nat → Prop) (w1 W : World) (hT : ∀ V, Bs S w1 V → Fl 2 Sh.cs V (.slice aH H.length cH) H) (hl : H.length ≤ 8796093021952)
    (hS : StSv S w1 W.heap.size bs (.slice aH H.length cH) W) (hw1 : w1.heap.size ≤ W.heap.size) :
    SeqU n 77 #[.pointer (some ⟨bs, 0, none⟩)] (fun s => #[.agg #[.int .i64 s.b, .int .i64 s.e, .int .i64 s.p]]) (stL 0 0 H) (StRv S bs) W := by
  intro y J Jx hJU hJ hJx hY U0 hN0 h0
  have hRB : ∀ k, StRv S bs k → k < W.heap.size := by
    have h2 := hS.hs.1
    intro k hk
    rcases hk with h | h
    · have := hS.hb.lt k h; omega
    · omega
  have hRB' : Hid _ := hRB
  have hJU' : Hid _ := hJU
  have hN1 : Hid (NU (fun k => StRv S bs k ∨ k = W.heap.size) U0) := fun k hk hu => by
    rcases hk with h | h
    · exact hN0 k h hu
    · have := hJU _ _ _ h0 k hu; omega
  clear hRB hN0
  have hJ' : Hid _ := hJ
  have hY' : Hid _ := hY
  clear hJ hY hJx hJU
  have k1' : Hid _ := fun V hV => (hT V hV).ln
  have hst : Hid (stL 0 0 H = [] ++ stL 0 0 (H.drop 0)) := by show _ = _; simp
  clear hT
  generalize stL 0 0 H = L at *
  refine callsIn_of_wp Try.func77 rfl trivial ?_ rfl
  simp only [Try.ntmps77, List.size_toArray, List.length_cons, List.length_nil, Nat.reduceAdd, Nat.reduceSub, Array.replicate_succ, Array.replicate_zero, List.push_toArray, List.append_toArray, List.nil_append, List.cons_append]
  obtain ⟨hbl, q0, _⟩ := id hS.hs
  gi_wp2
  have hA : Hid (Has (W.alloc (.cells #[.int .i64 0, .int .i64 0, .int .i64 0] 90)) W.heap.size #[.int .i64 0, .int .i64 0, .int .i64 0]) := Has.new _ _ _ rfl
  have hS' : Hid _ := hS.below (bel1 (o := .cells #[.int .i64 0, .int .i64 0, .int .i64 0] 90))
  have hJ0 : Hid (J [] U0 (W.alloc (.cells #[.int .i64 0, .int .i64 0, .int .i64 0] 90))) := hJ'.out _ _ _ _ h0 (Only.of_below bel1)
  clear q0 hS h0
  gi_loopg [8] H.length (fun gk s8 wr => ∃ (j : Nat) (pre : List Sc) (U : Nat → Prop) (b e p : Int), s8 = .int .i64 (j : Int) ∧ gk = H.length - j ∧ j ≤ H.length ∧ Hid (L = pre ++ stL b p (H.drop j)) ∧ Hid (J pre U wr) ∧ Hid (NU (fun k => StRv S bs k ∨ k = W.heap.size) U) ∧ Hid (StSv S w1 W.heap.size bs (.slice aH H.length cH) wr) ∧ Hid (Has wr W.heap.size #[.int .i64 b, .int .i64 e, .int .i64 p]))
  case atStart => exact ⟨0, [], U0, 0, 0, 0, rfl, rfl, Nat.zero_le _, hst, hJ0, hN1.out, hS', hA⟩
  case round =>
    obtain ⟨j, pre, U, b, e, p, rfl, hgk, hjl, hcut, hJw, hNw, hSw, hHw⟩ := hrel
    clear hJ0 hS' hA hst hN1
    have hni : ¬ U W.heap.size := hNw.out _ (.inr rfl)
    have hni' : Hid _ := hni
    clear hni
    obtain ⟨hv1, v1, v2⟩ := id hHw.out
    have hzz := hSw.out.hz
    by_cases hlt : j < H.length
    · have t1 : (j : Int) < (H.length : Int) := by omega
      have t0 : (0 : Int) ≤ (j : Int) := by omega
      have hc4 : Hid (L = pre ++ ([⟨b, H[j].m, p⟩] ++ stL H[j].m H[j].plus (H.drop (j + 1)))) := by show _ = _; rw [hcut.out, List.drop_eq_getElem_cons hlt]; rfl
      obtain ⟨g, o, rfl, hg, P⟩ := (k1'.out wr hSw.out.hb).resolve_left (by intro e; rw [e] at hlt; simp at hlt)
      have p0' := P j hlt 0 _ rfl
      have p1' := P j hlt 1 _ rfl
      simp only [Nat.add_zero] at p0'
      clear P hcut
      generalize H[j].m = y0 at *
      generalize H[j].plus = y1 at *
      have hne : W.heap.size ≠ wr.heap.size := by omega
      have hSa : Hid _ := hSw.out.only2 (((Only.refl (fun k => k = W.heap.size) wr).set (b := W.heap.size) (i := 1) rfl (.int .i64 y0)).alloc (.cells #[.int .i64 y0, .int .i64 y1] 61)) (fun k hk => by subst hk; exact ⟨hw1, by omega⟩)
      have hHa : Hid _ := (hHw.out.set3 (.int .i64 y0)).alloc (.cells #[.int .i64 y0, .int .i64 y1] 61)
      have hJa : Hid _ := hJ'.out _ _ _ _ hJw.out (((Only.refl (It W.heap.size U) wr).set (b := W.heap.size) (i := 1) ⟨Nat.le_refl _, hni'.out⟩ (.int .i64 y0)).alloc (.cells #[.int .i64 y0, .int .i64 y1] 61))
      obtain ⟨fn, tmps, assign, body, hy, hRd⟩ := hY'.out pre ⟨b, y0, p⟩ U _ hJa.out (pre_of hc4.out) hSa.out.hz
      have hw0 := Has.new (wr.setCell ⟨W.heap.size, 1, none⟩ (.int .i64 y0)) #[.int .i64 y0, .int .i64 y1] 61 (b := wr.heap.size) (by simp [World.setCell])
      have hw0' : Hid (Has _ wr.heap.size #[.int .i64 y0, .int .i64 y1]) := hw0
      clear hw0
      gi_wp2
      refine ⟨fun h => (by cases h), hRd.mono ?_⟩
      rintro e2 w3 ⟨U', hg, hK1, ⟨rfl, hJ4⟩ | ⟨rfl, hJp⟩⟩
      · have hUz := hJU'.out _ _ _ hJw.out
        have hNS : NU (StRv S bs) U := fun k hk => hNw.out k (.inl hk)
        have hS3 : Hid _ := hSa.out.onlyU hK1 hNS
        have hN3 : Hid (NU (fun k => StRv S bs k ∨ k = W.heap.size) U') := hNw.out.gr hg (fun k hk => by have hz1 := hSa.out.hz; have hz2 := hHa.out.1; rcases hk with h | h; (have := hRB'.out k h; omega); omega)
        have hH3 : Hid (Has w3 W.heap.size #[.int .i64 b, .int .i64 y0, .int .i64 p]) := Has.only hHa.out hK1 (fun x => x.elim (fun x => by have := x.1; omega) hni'.out)
        have hn3 : Has w3 wr.heap.size #[.int .i64 y0, .int .i64 y1] := Has.only hw0'.out hK1 (fun x => x.elim (fun x => by have := x.1; omega) (fun x => by have := hUz _ x; omega))
        obtain ⟨_, r1, _⟩ := id hn3
        obtain ⟨hv3, v3, v4⟩ := id hH3.out
        have hn3' : Hid (¬ U' W.heap.size) := hN3.out _ (.inr rfl)
        clear hSa hHa hJa hw0' hn3 v1 v2 p0' p1' hUz hNS hg
        gi_wp2
        go_roundg (H.length - (j + 1))
        case measure => go_light; omega
        case rel =>
          refine ⟨j + 1, pre ++ [⟨b, y0, p⟩], U', y0, 0, y1, by go_num, rfl, by omega, by show _ = _; rw [hc4.out]; simp, ?_, hN3.out, ?_, hH3.out.all3 _ _ _⟩
          · exact hJ'.out _ _ _ _ hJ4 ((((Only.refl (It W.heap.size U') w3).set (b := W.heap.size) (i := 0) ⟨Nat.le_refl _, hn3'.out⟩ _).set (b := W.heap.size) (i := 1) ⟨Nat.le_refl _, hn3'.out⟩ _).set (b := W.heap.size) (i := 2) ⟨Nat.le_refl _, hn3'.out⟩ _)
          · exact hS3.out.only2 ((((Only.refl (fun k => k = W.heap.size) w3).set (b := W.heap.size) (i := 0) rfl _).set (b := W.heap.size) (i := 1) rfl _).set (b := W.heap.size) (i := 2) rfl _) (fun k hk => by subst hk; exact ⟨hw1, by omega⟩)
      · gi_wp2
        refine bodyPost_ret (results_none rfl _ _ _) rfl ?_
        exact ⟨⟨_, rfl⟩, .inr ⟨pre ++ [⟨b, y0, p⟩], U', pre_of hc4.out, hJp⟩⟩
    · have t1 : ¬ (j : Int) < (H.length : Int) := by omega
      have hc4 : Hid (L = pre ++ [⟨b, 210379680, p⟩]) := by show _ = _; rw [hcut.out, List.drop_eq_nil_of_le (by omega)]; rfl
      have hJa : Hid _ := hJ'.out _ _ _ _ hJw.out ((Only.refl (It W.heap.size U) wr).set (b := W.heap.size) (i := 1) ⟨Nat.le_refl _, hni'.out⟩ (.int .i64 210379680))
      obtain ⟨fn, tmps, assign, body, hy, hRd⟩ := hY'.out pre ⟨b, 210379680, p⟩ U _ hJa.out (by rw [hc4.out]; exact List.prefix_refl _) (by simpa [World.setCell] using hzz)
      clear hcut
      gi_wp2
      refine ⟨fun h => (by cases h), hRd.mono ?_⟩
      rintro e2 w3 ⟨U', hg, hK1, ⟨rfl, hJ4⟩ | ⟨rfl, hJp⟩⟩
      · gi_wp2
        go_end0
        exact ⟨⟨_, rfl⟩, .inl ⟨U', by rw [hc4.out]; exact hJ4⟩⟩
      · gi_wp2
        go_end0
        exact ⟨⟨_, rfl⟩, .inr ⟨_, U', by rw [hc4.out]; exact List.prefix_refl _, hJp⟩⟩
end Go.Proofs.Ytddphepgcihdbaa
