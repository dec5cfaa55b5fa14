import Derived.Test.YtddphepgcihdbaaTnR
import Derived.Test.YtddphepgcihdbaaTnM
import Derived.Test.YtddphepgcihdbaaTdF
namespace Go.Proofs.Ytddphepgcihdbaa
open Go.RowKit Go.Shelf
set_option linter.unusedVariables false
set_option linter.unusedSimpArgs false

set_option maxRecDepth 100000 in
set_option maxHeartbeats 4000000 in
theorem localOf_w (m p : Int) (w : World) (h0 : -1 ≤ m) (h1 : m ≤ 210379681) (h2 : -720 ≤ p) (h3 : p ≤ 840) : Calls Try.prog 40 #[.int .i64 m, .int .i64 p] w fun e w' => e = .returned (.int .i64 (loF m p)) ∧ w = w' := by
  have hE : loF m p = if m + p < 0 then 0 else if 210379679 < m + p then 210379679 else m + p := by unfold loF; split <;> (try split) <;> omega
  rw [hE]
  clear hE
  by_cases a : m + p < 0
  · rw [if_pos a]
    go_enter Try.func40, Try.ntmps40
    go_wp2
    all_goals first | (exfalso; omega) | (go_ret; exact ⟨ret_int (by first | rfl | omega), rfl⟩)
  · rw [if_neg a]
    by_cases b : 210379679 < m + p
    · rw [if_pos b]
      go_enter Try.func40, Try.ntmps40
      go_wp2
      all_goals first | (exfalso; omega) | (go_ret; exact ⟨ret_int (by first | rfl | omega), rfl⟩)
    · rw [if_neg b]
      go_enter Try.func40, Try.ntmps40
      go_wp2
      all_goals first | (exfalso; omega) | (go_ret; exact ⟨ret_int (by first | rfl | omega), rfl⟩)
/-- What an iterator over rows reads. -/
def RmR (B bf bp bl bt : Nat) (k : Nat) : Prop := k < B ∨ k = bf ∨ k = bp ∨ k = bl ∨ k = bt
structure RmS (w1 : World) (B bf bp bl bt : Nat) (f p l : Int) (tc : Array Value) (w : World) : Prop where
  hf : Has w bf #[.int .i64 f]
  hp : Has w bp #[.int .i64 p]
  hl : Has w bl #[.int .i64 l]
  ht : Has w bt tc
  hb : Below w1.heap.size w1 w
  hz : B ≤ w.heap.size
theorem RmS.below {w1 : World} {B bf bp bl bt : Nat} {f p l : Int} {tc : Array Value} {w w' : World} (h : RmS w1 B bf bp bl bt f p l tc w) (hb : Below w.heap.size w w') : RmS w1 B bf bp bl bt f p l tc w' :=
  ⟨h.hf.below hb, h.hp.below hb, h.hl.below hb, h.ht.below hb, h.hb.trans (hb.mono h.hb.size), Nat.le_trans h.hz hb.size⟩
theorem RmS.only {w1 : World} {B bf bp bl bt : Nat} {f p l : Int} {tc : Array Value} {w w' : World} (h : RmS w1 B bf bp bl bt f p l tc w) (hb : Only (Tn B (RmR w1.heap.size bf bp bl bt)) w w') : RmS w1 B bf bp bl bt f p l tc w' :=
  ⟨h.hf.only hb (fun x => x.2 (.inr (.inl rfl))), h.hp.only hb (fun x => x.2 (.inr (.inr (.inl rfl)))), h.hl.only hb (fun x => x.2 (.inr (.inr (.inr (.inl rfl))))), h.ht.only hb (fun x => x.2 (.inr (.inr (.inr (.inr rfl))))),
   h.hb.trans ⟨hb.os, hb.tape, hb.output, hb.size, fun k hk => hb.block k (by have := h.hb.size; omega) (fun x => x.2 (.inl hk))⟩, Nat.le_trans h.hz hb.size⟩
/-- The rows' minutes of a day. -/
def dyR (f l p d : Int) (R : List Rw) : List Int := (R.map (fun r => d * 1440 + r.m - p)).filter (fun m => decide (f ≤ m) && decide (m ≤ l))
theorem dyR_drop (f l p d : Int) (R : List Rw) (k : Nat) (h : k < R.length) : dyR f l p d (R.drop k) = (if f ≤ d * 1440 + R[k].m - p ∧ d * 1440 + R[k].m - p ≤ l then [d * 1440 + R[k].m - p] else []) ++ dyR f l p d (R.drop (k + 1)) := by
  unfold dyR
  rw [List.drop_eq_getElem_cons h, List.map_cons, List.filter_cons]
  by_cases hc : f ≤ d * 1440 + R[k].m - p ∧ d * 1440 + R[k].m - p ≤ l
  · rw [if_pos hc]; simp [hc.1, hc.2]
  · rw [if_neg hc]
    have : (decide (f ≤ d * 1440 + R[k].m - p) && decide (d * 1440 + R[k].m - p ≤ l)) = false := by
      rw [Bool.and_eq_false_iff, decide_eq_false_iff_not, decide_eq_false_iff_not]; omega
    simp [this]
theorem pre_of {α : Type} {L a b : List α} {x : α} (h : L = a ++ ([x] ++ b)) : a ++ [x] <+: L := ⟨b, by rw [h]; simp⟩

set_option maxRecDepth 100000 in
set_option maxHeartbeats 4000000 in
theorem rows1_seq (n : Nat) (t : Tt) (f l p : Int) (bf bp bl bt : Nat) (aD aS aX aH : Option Addr) (cD cS cX cH : Nat) (w1 W : World) (hR : TR w1 t (.slice aD t.D.length cD) (.slice aS t.S.length cS) (.slice aX t.X.length cX) (.slice aH t.H.length cH)) (he : t.err = 0)
    (f0 : -1 ≤ f) (f1 : f ≤ 210379681) (l0 : -1 ≤ l) (l1 : l ≤ 210379681) (p0 : -720 ≤ p) (p1 : p ≤ 840)
    (hS : RmS w1 W.heap.size bf bp bl bt f p l #[.string t.nm, .slice aD t.D.length cD, .int .i64 t.w0, .int .i64 t.w1, .int .i64 t.w2, .int .i64 t.w3, .int .i64 t.w4, .int .i64 t.w5, .int .i64 t.w6, .slice aS t.S.length cS, .slice aX t.X.length cX, .slice aH t.H.length cH] W) :
    SeqAt n 78 #[.pointer (some ⟨bf, 0, none⟩), .pointer (some ⟨bp, 0, none⟩), .pointer (some ⟨bl, 0, none⟩), .pointer (some ⟨bt, 0, none⟩)] (fun m => #[.int .i64 m]) (rmL t f l p) (RmR w1.heap.size bf bp bl bt) W := by
  intro y J Jx hJ hJx hY h0
  obtain ⟨_, _, e3, _, e5, _, e7, _⟩ := err_zero he
  have hJ' : Hid _ := hJ
  have hY' : Hid _ := hY
  clear hJ hY hJx
  have c23 := fun W => callsIn_wide (n := n - 1) |>.2 (localOf_w f p W f0 f1 p0 p1)
  have c23b := fun W => callsIn_wide (n := n - 1) |>.2 (localOf_w l p W l0 l1 p0 p1)
  have hfb := lo_bounds f p
  have hlb := lo_bounds l p
  have c25 := fun (d : Int) (d0 : 0 ≤ d) (d1 : d ≤ 146096) W (hb : Below w1.heap.size w1 W) i hi hk => callsIn_wide (n := n - 1) |>.2 (rowsOf_any d d0 d1 t aD aS aX aH cD cS cX cH W (hR.below hb) i hi hk)
  have c25' : Hid _ := c25
  have hrm : Hid (rmL t f l p = [] ++ (up (loF f p / 1440) (loF l p / 1440 + 1 - loF f p / 1440).toNat).flatMap (dyL t f l p)) := rfl
  have hds : Hid (∀ d, dyL t f l p d = dyR f l p d (rwF t d)) := fun d => rfl
  clear c25
  have hfx : Hid (0 ≤ loF f p / 1440 ∧ loF l p / 1440 ≤ 146096) := by show _ ∧ _; omega
  generalize rmL t f l p = L at *
  generalize dyL t f l p = dy at *
  generalize loF f p = lf at *
  generalize loF l p = ll at *
  refine callsIn_of_wp Try.func78 rfl trivial ?_ rfl
  simp only [Try.ntmps78, List.size_toArray, List.length_cons, List.length_nil, Nat.reduceAdd, Nat.reduceSub, Array.replicate_succ, Array.replicate_zero, List.push_toArray, List.append_toArray, List.nil_append, List.cons_append]
  obtain ⟨_, q0, _⟩ := id hS.hf
  obtain ⟨_, q1, _⟩ := id hS.hp
  gi_wp2_with (refine ⟨trivial, fun h => (by cases h), ?_⟩; gi_at_call 40; refine (c23 _).mono ?_; rintro e w2 ⟨rfl, rfl⟩)
  have hS' : Hid _ := hS
  clear q0 q1 hS
  gi_loopg [6] (ll / 1440 + 1 - lf / 1440).toNat (fun gk s6 wr => ∃ (d : Int) (pre : List Int), s6 = .int .i64 d ∧ gk = (ll / 1440 + 1 - d).toNat ∧ 0 ≤ d ∧ d ≤ 150000 ∧ Hid (L = pre ++ (up d gk).flatMap dy) ∧ Hid (J pre wr) ∧ Hid (RmS w1 W.heap.size bf bp bl bt f p l #[.string t.nm, .slice aD t.D.length cD, .int .i64 t.w0, .int .i64 t.w1, .int .i64 t.w2, .int .i64 t.w3, .int .i64 t.w4, .int .i64 t.w5, .int .i64 t.w6, .slice aS t.S.length cS, .slice aX t.X.length cX, .slice aH t.H.length cH] wr))
  case atStart => exact ⟨_, [], rfl, rfl, hfx.out.1, by omega, hrm, h0, hS'⟩
  case round =>
    obtain ⟨d, pre, rfl, hgk, d0, d1, hcut, hJw, hSw⟩ := hrel
    obtain ⟨_, q1, _⟩ := id hSw.out.hp
    obtain ⟨_, q2, _⟩ := id hSw.out.hl
    obtain ⟨_, q3, _⟩ := id hSw.out.ht
    by_cases hd : d ≤ ll / 1440
    · obtain ⟨k, rfl⟩ : ∃ k, gk = k + 1 := ⟨gk - 1, by omega⟩
      obtain ⟨i1, hi1, hk1, hr1⟩ := row_ix e7 d
      have g1 := hR.r _ (List.getElem_mem hi1)
      have b1 := hR.rl _ (List.getElem_mem hi1)
      have k25 := c25'.out d d0 (by have := hfx.out.2; omega) wr hSw.out.hb i1 hi1 hk1
      have hcut2 : Hid (L = pre ++ dyR f l p d (t.D[i1].rows.drop 0) ++ (up (d + 1) k).flatMap dy) := by
        show _ = _
        rw [hcut.out, up, List.flatMap_cons, hds.out, hr1, List.drop_zero]; simp
      have hroo := (rw_ok e5 d)
      rw [hr1] at hroo
      have hroo' : Hid _ := hroo
      obtain ⟨a1, c1, v1, k1⟩ := g1.any
      rw [v1] at k25
      have k1' : Hid _ := k1
      clear v1 g1 hcut hr1 hk1 hroo k1
      generalize t.D[i1].rows = r1 at *
      gi_wp2_with (refine ⟨trivial, fun h => (by cases h), ?_⟩; first | (gi_at_call 40; refine (c23b _).mono ?_; rintro e w2 ⟨rfl, rfl⟩) | (gi_at_call 42; refine k25.mono ?_; rintro e w2 ⟨rfl, hb2⟩))
      have hS2 : Hid _ := hSw.out.below hb2
      have hJ2 : Hid (J pre w2) := hJ'.out _ _ _ hJw.out (hb2.mono hSw.out.hz)
      clear q1 q2 q3 hb2 hSw hJw k25
      gi_loopg [26] r1.length (fun gi s26 wi => ∃ (j : Nat) (pr : List Int), s26 = .int .i64 (j : Int) ∧ gi = r1.length - j ∧ j ≤ r1.length ∧ Hid (L = pr ++ dyR f l p d (r1.drop j) ++ (up (d + 1) k).flatMap dy) ∧ Hid (J pr wi) ∧ Hid (RmS w1 W.heap.size bf bp bl bt f p l #[.string t.nm, .slice aD t.D.length cD, .int .i64 t.w0, .int .i64 t.w1, .int .i64 t.w2, .int .i64 t.w3, .int .i64 t.w4, .int .i64 t.w5, .int .i64 t.w6, .slice aS t.S.length cS, .slice aX t.X.length cX, .slice aH t.H.length cH] wi))
      case atStart => exact ⟨0, pre, rfl, rfl, Nat.zero_le _, hcut2, hJ2, hS2⟩
      case round =>
        obtain ⟨j, pr, rfl, hgi, hjl, hc3, hJi, hSi⟩ := hrel
        clear hcut2 hJ2 hS2
        by_cases hlt : j < r1.length
        · have t1 : (j : Int) < (r1.length : Int) := by omega
          have t0 : (0 : Int) ≤ (j : Int) := by omega
          have hE := dyR_drop f l p d r1 j hlt
          have hr := hroo'.out _ (List.getElem_mem hlt)
          obtain ⟨g, o, rfl, hg, P⟩ := k1'.out.resolve_left (by intro e; rw [e] at hlt; simp at hlt)
          have p0' := (hSi.out.hb.cell (p := ⟨g, _, none⟩) hg).trans (P j hlt 0 _ rfl)
          have p1' := (hSi.out.hb.cell (p := ⟨g, _, none⟩) hg).trans (P j hlt 1 _ rfl)
          simp only [Nat.add_zero] at p0'
          clear P
          generalize r1[j].m = y0 at *
          generalize r1[j].s = y1 at *
          have hSa : Hid _ := hSi.out.below (bel1 (o := .cells #[.int .i64 y0, .int .i64 y1] 74))
          have hJa : Hid (J pr (wr.alloc (.cells #[.int .i64 y0, .int .i64 y1] 74))) := hJ'.out _ _ _ hJi.out (bel1.mono hSi.out.hz)
          obtain ⟨_, q1, _⟩ := id hSi.out.hf
          obtain ⟨_, q2, _⟩ := id hSi.out.hp
          obtain ⟨_, q3, _⟩ := id hSi.out.hl
          obtain ⟨hb1, _⟩ := id hSi.out.hf
          obtain ⟨hb2, _⟩ := id hSi.out.hp
          obtain ⟨hb3, _⟩ := id hSi.out.hl
          by_cases hA : f ≤ d * 1440 + y0 - p
          · by_cases hB : d * 1440 + y0 - p ≤ l
            · rw [if_pos ⟨hA, hB⟩] at hE
              have hc4 : Hid (L = pr ++ ([d * 1440 + y0 - p] ++ (dyR f l p d (r1.drop (j + 1)) ++ (up (d + 1) k).flatMap dy))) := by show _ = _; rw [hc3.out, hE]; simp
              obtain ⟨fn, tmps, assign, body, hy, hRd⟩ := hY'.out pr (d * 1440 + y0 - p) _ hJa.out (pre_of hc4.out) hSa.out.hz
              clear hE hc3
              gi_wp2
              refine ⟨fun h => (by cases h), hRd.mono ?_⟩
              rintro e w3 (⟨rfl, hJ4, hK1⟩ | ⟨rfl, hJp, _⟩)
              · gi_wp2
                go_roundg (r1.length - (j + 1))
                case measure => go_light; omega
                case rel => exact ⟨j + 1, pr ++ [d * 1440 + y0 - p], by go_num, rfl, by omega, by show _ = _; rw [hc4.out]; simp, hJ4, hSa.out.only hK1⟩
              · gi_wp2
                refine bodyPost_ret (results_none rfl _ _ _) rfl ?_
                exact ⟨⟨_, rfl⟩, .inr ⟨pr ++ [d * 1440 + y0 - p], pre_of hc4.out, hJp⟩⟩
            · rw [if_neg (fun h => hB h.2)] at hE
              clear hY'
              (gi_wp2; refine ⟨fun _ _ => trivial, ?_⟩; gi_wp2)
              go_roundg (r1.length - (j + 1))
              case measure => go_light; omega
              case rel => exact ⟨j + 1, pr, by go_num, rfl, by omega, by show _ = _; rw [hc3.out, hE]; simp, hJa, hSa⟩
          · rw [if_neg (fun h => hA h.1)] at hE
            clear hY'
            (gi_wp2; refine ⟨fun _ _ => trivial, ?_⟩; gi_wp2)
            go_roundg (r1.length - (j + 1))
            case measure => go_light; omega
            case rel => exact ⟨j + 1, pr, by go_num, rfl, by omega, by show _ = _; rw [hc3.out, hE]; simp, hJa, hSa⟩
        · have t1 : ¬ (j : Int) < (r1.length : Int) := by omega
          have hc4 : Hid (L = pr ++ (up (d + 1) k).flatMap dy) := by show _ = _; rw [hc3.out, List.drop_eq_nil_of_le (by omega)]; simp [dyR]
          clear hc3 hY'
          gi_wp2
          go_roundg k
          case measure => go_light; omega
          case rel => exact ⟨d + 1, pr, by go_num, by omega, by omega, by have := hfx.out.2; omega, hc4, hJi, hSi⟩
    · obtain rfl : gk = 0 := by omega
      have hfin : Hid (J L wr) := by show J _ _; rw [hcut.out]; simpa [up] using hJw.out
      gi_wp2_with (refine ⟨trivial, fun h => (by cases h), ?_⟩; gi_at_call 40; refine (c23b _).mono ?_; rintro e w2 ⟨rfl, rfl⟩)
      go_end0
      exact ⟨⟨_, rfl⟩, .inl hfin⟩
/-- What an iterator over stretches reads. -/
def StR (B bs : Nat) (k : Nat) : Prop := k < B ∨ k = bs
structure StS (w1 : World) (B bs : Nat) (v : Value) (w : World) : Prop where
  hs : Has w bs #[v]
  hb : Below w1.heap.size w1 w
  hz : B ≤ w.heap.size
theorem StS.below {w1 : World} {B bs : Nat} {v : Value} {w w' : World} (h : StS w1 B bs v w) (hb : Below w.heap.size w w') : StS w1 B bs v w' :=
  ⟨h.hs.below hb, h.hb.trans (hb.mono h.hb.size), Nat.le_trans h.hz hb.size⟩
theorem StS.only {w1 : World} {B bs : Nat} {v : Value} {w w' : World} (h : StS w1 B bs v w) (hb : Only (Tn B (StR w1.heap.size bs)) w w') : StS w1 B bs v w' :=
  ⟨h.hs.only hb (fun x => x.2 (.inr rfl)),
   h.hb.trans ⟨hb.os, hb.tape, hb.output, hb.size, fun k hk => hb.block k (by have := h.hb.size; omega) (fun x => x.2 (.inl hk))⟩, Nat.le_trans h.hz hb.size⟩
theorem StS.only2 {w1 : World} {B bs : Nat} {v : Value} {w w' : World} {S : Nat → Prop} (h : StS w1 B bs v w) (hb : Only S w w') (h1 : ∀ k, S k → w1.heap.size ≤ k ∧ k ≠ bs) : StS w1 B bs v w' :=
  ⟨h.hs.only hb (fun x => (h1 _ x).2 rfl),
   h.hb.trans ⟨hb.os, hb.tape, hb.output, hb.size, fun k hk => hb.block k (by have := h.hb.size; omega) (fun x => by have := (h1 _ x).1; omega)⟩, Nat.le_trans h.hz hb.size⟩
theorem Has.set3 {w : World} {b : Nat} {x0 x1 x2 : Value} (h : Has w b #[x0, x1, x2]) (v : Value) : Has (w.setCell ⟨b, 1, none⟩ v) b #[x0, v, x2] := h.set 1 (by simp) v
theorem Has.all3 {w : World} {b : Nat} {x0 x1 x2 : Value} (h : Has w b #[x0, x1, x2]) (v0 v1 v2 : Value) : Has (((w.setCell ⟨b, 0, none⟩ v0).setCell ⟨b, 1, none⟩ v1).setCell ⟨b, 2, none⟩ v2) b #[v0, v1, v2] :=
  ((h.set 0 (by simp) v0).set 1 (by simp) v1).set 2 (by simp) v2

set_option maxRecDepth 100000 in
set_option maxHeartbeats 4000000 in
theorem str1_seq (n : Nat) (H : List Sh) (bs : Nat) (aH : Option Addr) (cH : Nat) (w1 W : World) (hR : Fl 2 Sh.cs w1 (.slice aH H.length cH) H) (hl : H.length ≤ 8796093021952)
    (hS : StS w1 W.heap.size bs (.slice aH H.length cH) W) (hw1 : w1.heap.size ≤ W.heap.size) :
    SeqAt n 77 #[.pointer (some ⟨bs, 0, none⟩)] (fun s => #[.agg #[.int .i64 s.b, .int .i64 s.e, .int .i64 s.p]]) (stL 0 0 H) (StR w1.heap.size bs) W := by
  intro y J Jx hJ hJx hY h0
  have hJ' : Hid _ := hJ
  have hY' : Hid _ := hY
  clear hJ hY hJx
  have k1' : Hid _ := hR.ln
  have hst : Hid (stL 0 0 H = [] ++ stL 0 0 (H.drop 0)) := by show _ = _; simp
  clear hR
  generalize stL 0 0 H = L at *
  refine callsIn_of_wp Try.func77 rfl trivial ?_ rfl
  simp only [Try.ntmps77, List.size_toArray, List.length_cons, List.length_nil, Nat.reduceAdd, Nat.reduceSub, Array.replicate_succ, Array.replicate_zero, List.push_toArray, List.append_toArray, List.nil_append, List.cons_append]
  obtain ⟨hbl, q0, _⟩ := id hS.hs
  gi_wp2
  have hA : Hid (Has (W.alloc (.cells #[.int .i64 0, .int .i64 0, .int .i64 0] 90)) W.heap.size #[.int .i64 0, .int .i64 0, .int .i64 0]) := Has.new _ _ _ rfl
  have hS' : Hid _ := hS.below (bel1 (o := .cells #[.int .i64 0, .int .i64 0, .int .i64 0] 90))
  have hJ0 : Hid (J [] (W.alloc (.cells #[.int .i64 0, .int .i64 0, .int .i64 0] 90))) := hJ'.out _ _ _ h0 bel1
  clear q0 hS h0
  gi_loopg [8] H.length (fun gk s8 wr => ∃ (j : Nat) (pre : List Sc) (b e p : Int), s8 = .int .i64 (j : Int) ∧ gk = H.length - j ∧ j ≤ H.length ∧ Hid (L = pre ++ stL b p (H.drop j)) ∧ Hid (J pre wr) ∧ Hid (StS w1 W.heap.size bs (.slice aH H.length cH) wr) ∧ Hid (Has wr W.heap.size #[.int .i64 b, .int .i64 e, .int .i64 p]))
  case atStart => exact ⟨0, [], 0, 0, 0, rfl, rfl, Nat.zero_le _, hst, hJ0, hS', hA⟩
  case round =>
    obtain ⟨j, pre, b, e, p, rfl, hgk, hjl, hcut, hJw, hSw, hHw⟩ := hrel
    clear hJ0 hS' hA hst
    obtain ⟨hv1, v1, v2⟩ := id hHw.out
    have hzz := hSw.out.hz
    by_cases hlt : j < H.length
    · have t1 : (j : Int) < (H.length : Int) := by omega
      have t0 : (0 : Int) ≤ (j : Int) := by omega
      have hc4 : Hid (L = pre ++ ([⟨b, H[j].m, p⟩] ++ stL H[j].m H[j].plus (H.drop (j + 1)))) := by show _ = _; rw [hcut.out, List.drop_eq_getElem_cons hlt]; rfl
      obtain ⟨g, o, rfl, hg, P⟩ := k1'.out.resolve_left (by intro e; rw [e] at hlt; simp at hlt)
      have p0' := (hSw.out.hb.cell (p := ⟨g, _, none⟩) hg).trans (P j hlt 0 _ rfl)
      have p1' := (hSw.out.hb.cell (p := ⟨g, _, none⟩) hg).trans (P j hlt 1 _ rfl)
      simp only [Nat.add_zero] at p0'
      clear P hcut
      generalize H[j].m = y0 at *
      generalize H[j].plus = y1 at *
      have hne : W.heap.size ≠ wr.heap.size := by omega
      have hSa : Hid _ := hSw.out.only2 (((Only.refl (fun k => k = W.heap.size) wr).set (b := W.heap.size) (i := 1) rfl (.int .i64 y0)).alloc (.cells #[.int .i64 y0, .int .i64 y1] 61)) (fun k hk => by subst hk; exact ⟨hw1, by omega⟩)
      have hHa : Hid _ := (hHw.out.set3 (.int .i64 y0)).alloc (.cells #[.int .i64 y0, .int .i64 y1] 61)
      have hJa : Hid _ := hJ'.out _ _ _ hJw.out (((Below.refl _ wr).setCell (p := ⟨W.heap.size, 1, none⟩) (Nat.le_refl _) (.int .i64 y0)).alloc (by simpa [World.setCell] using hzz) (.cells #[.int .i64 y0, .int .i64 y1] 61))
      obtain ⟨fn, tmps, assign, body, hy, hRd⟩ := hY'.out pre ⟨b, y0, p⟩ _ hJa.out (pre_of hc4.out) hSa.out.hz
      have hw0 := Has.new (wr.setCell ⟨W.heap.size, 1, none⟩ (.int .i64 y0)) #[.int .i64 y0, .int .i64 y1] 61 (b := wr.heap.size) (by simp [World.setCell])
      have hw0' : Hid (Has _ wr.heap.size #[.int .i64 y0, .int .i64 y1]) := hw0
      clear hw0
      gi_wp2
      refine ⟨fun h => (by cases h), hRd.mono ?_⟩
      rintro e2 w3 (⟨rfl, hJ4, hK1⟩ | ⟨rfl, hJp, _⟩)
      · have hS3 : Hid _ := hSa.out.only hK1
        have hH3 : Hid (Has w3 W.heap.size #[.int .i64 b, .int .i64 y0, .int .i64 p]) := Has.only hHa.out hK1 (fun x => by have := x.1; omega)
        have hn3 : Has w3 wr.heap.size #[.int .i64 y0, .int .i64 y1] := Has.only hw0'.out hK1 (fun x => by have := x.1; omega)
        obtain ⟨_, r1, _⟩ := id hn3
        obtain ⟨hv3, v3, v4⟩ := id hH3.out
        clear hSa hHa hJa hw0' hn3 v1 v2 p0' p1'
        gi_wp2
        go_roundg (H.length - (j + 1))
        case measure => go_light; omega
        case rel =>
          refine ⟨j + 1, pre ++ [⟨b, y0, p⟩], y0, 0, y1, by go_num, rfl, by omega, by show _ = _; rw [hc4.out]; simp, ?_, ?_, hH3.out.all3 _ _ _⟩
          · exact hJ'.out _ _ _ hJ4 ((((Below.refl _ w3).setCell (p := ⟨W.heap.size, 0, none⟩) (Nat.le_refl _) _).setCell (p := ⟨W.heap.size, 1, none⟩) (Nat.le_refl _) _).setCell (p := ⟨W.heap.size, 2, none⟩) (Nat.le_refl _) _)
          · exact hS3.out.only2 ((((Only.refl (fun k => k = W.heap.size) w3).set (b := W.heap.size) (i := 0) rfl _).set (b := W.heap.size) (i := 1) rfl _).set (b := W.heap.size) (i := 2) rfl _) (fun k hk => by subst hk; exact ⟨hw1, by omega⟩)
      · gi_wp2
        refine bodyPost_ret (results_none rfl _ _ _) rfl ?_
        exact ⟨⟨_, rfl⟩, .inr ⟨pre ++ [⟨b, y0, p⟩], pre_of hc4.out, hJp⟩⟩
    · have t1 : ¬ (j : Int) < (H.length : Int) := by omega
      have hc4 : Hid (L = pre ++ [⟨b, 210379680, p⟩]) := by show _ = _; rw [hcut.out, List.drop_eq_nil_of_le (by omega)]; rfl
      have hJa : Hid _ := hJ'.out _ _ _ hJw.out ((Below.refl _ wr).setCell (p := ⟨W.heap.size, 1, none⟩) (Nat.le_refl _) (.int .i64 210379680))
      obtain ⟨fn, tmps, assign, body, hy, hRd⟩ := hY'.out pre ⟨b, 210379680, p⟩ _ hJa.out (by rw [hc4.out]; exact List.prefix_refl _) (by simpa [World.setCell] using hzz)
      clear hcut
      gi_wp2
      refine ⟨fun h => (by cases h), hRd.mono ?_⟩
      rintro e2 w3 (⟨rfl, hJ4, hK1⟩ | ⟨rfl, hJp, _⟩)
      · gi_wp2
        go_end0
        exact ⟨⟨_, rfl⟩, .inl (by rw [hc4.out]; exact hJ4)⟩
      · gi_wp2
        go_end0
        exact ⟨⟨_, rfl⟩, .inr ⟨_, by rw [hc4.out]; exact List.prefix_refl _, hJp⟩⟩
set_option maxRecDepth 100000 in
set_option maxHeartbeats 4000000 in
theorem rowMinutes_any (x0 x1 x2 x3 x4 x5 x6 x7 x8 x9 x10 x11 : Value) (f l p : Int) (w : World) :
    Calls Try.prog 45 #[.agg #[x0, x1, x2, x3, x4, x5, x6, x7, x8, x9, x10, x11], .int .i64 f, .int .i64 l, .int .i64 p] w fun e w' => e = .returned (.func (.func 78) #[] #[.pointer (some ⟨w.heap.size + 1, 0, none⟩), .pointer (some ⟨w.heap.size + 1 + 1 + 1, 0, none⟩), .pointer (some ⟨w.heap.size + 1 + 1, 0, none⟩), .pointer (some ⟨w.heap.size, 0, none⟩)]) ∧
      Below w.heap.size w w' ∧ w'.heap.size = w.heap.size + 4 ∧ Has w' w.heap.size #[x0, x1, x2, x3, x4, x5, x6, x7, x8, x9, x10, x11] ∧ Has w' (w.heap.size + 1) #[.int .i64 f] ∧ Has w' (w.heap.size + 1 + 1) #[.int .i64 l] ∧ Has w' (w.heap.size + 1 + 1 + 1) #[.int .i64 p] := by
  go_enter Try.func45, Try.ntmps45
  go_wp2
  go_ret
  refine ⟨rfl, belT (belT (belT bel1 bel1) bel1) bel1, by simp, (((Has.new _ _ _ rfl).alloc _).alloc _).alloc _, ((Has.new _ _ _ (by simp)).alloc _).alloc _, (Has.new _ _ _ (by simp)).alloc _, Has.new _ _ _ (by simp)⟩
set_option maxRecDepth 100000 in
set_option maxHeartbeats 4000000 in
theorem stretches_any (a : Option Addr) (n c : Nat) (w : World) :
    Calls Try.prog 44 #[.slice a n c] w fun e w' => e = .returned (.func (.func 77) #[] #[.pointer (some ⟨w.heap.size, 0, none⟩)]) ∧ w' = w.alloc (.cells #[.slice a n c] 27) := by
  go_enter Try.func44, Try.ntmps44
  go_wp2
  go_ret
  exact ⟨rfl, rfl⟩
set_option maxRecDepth 100000 in
set_option maxHeartbeats 4000000 in
theorem changes_any (x0 x1 x2 x3 x4 x5 x6 x7 x8 x9 x10 x11 : Value) (b a : Int) (w : World) :
    Calls Try.prog 23 #[.agg #[x0, x1, x2, x3, x4, x5, x6, x7, x8, x9, x10, x11], .int .i64 b, .int .i64 a] w fun e w' => e = .returned (.func (.func 43) #[] #[.pointer (some ⟨w.heap.size, 0, none⟩), .pointer (some ⟨w.heap.size + 1, 0, none⟩), .pointer (some ⟨w.heap.size + 1 + 1, 0, none⟩)]) ∧
      Below w.heap.size w w' ∧ w'.heap.size = w.heap.size + 3 ∧ Has w' w.heap.size #[x0, x1, x2, x3, x4, x5, x6, x7, x8, x9, x10, x11] ∧ Has w' (w.heap.size + 1) #[.int .i64 b] ∧ Has w' (w.heap.size + 1 + 1) #[.int .i64 a] := by
  go_enter Try.func23, Try.ntmps23
  go_wp2
  go_ret
  refine ⟨rfl, belT (belT bel1 bel1) bel1, by simp, ((Has.new _ _ _ rfl).alloc _).alloc _, (Has.new _ _ _ (by simp)).alloc _, Has.new _ _ _ (by simp)⟩
/-- What the iterator over changes reads. -/
def ChR (B bt bb ba : Nat) (k : Nat) : Prop := k < B ∨ k = bt ∨ k = bb ∨ k = ba
/-- What it keeps besides, behind its start in B: its yield, and the box of the shifts. -/
structure ChS (w1 : World) (B bt bb ba : Nat) (b a : Int) (tc : Array Value) (y : Nat) (vH : Value) (w : World) : Prop where
  ht : Has w bt tc
  hb : Has w bb #[.int .i64 b]
  ha : Has w ba #[.int .i64 a]
  hy : Has w B #[.func (.yield y) #[] #[]]
  hh : Has w (B + 1) #[vH]
  bel : Below w1.heap.size w1 w
  hz : B + 2 ≤ w.heap.size
theorem ChS.only {w1 : World} {B bt bb ba : Nat} {b a : Int} {tc : Array Value} {y : Nat} {vH : Value} {w w' : World} (h : ChS w1 B bt bb ba b a tc y vH w) (hb : Only (Tn B (ChR w1.heap.size bt bb ba)) w w') : ChS w1 B bt bb ba b a tc y vH w' :=
  ⟨h.ht.only hb (fun x => x.2 (.inr (.inl rfl))), h.hb.only hb (fun x => x.2 (.inr (.inr (.inl rfl)))), h.ha.only hb (fun x => x.2 (.inr (.inr (.inr rfl)))), h.hy.only hb (fun x => by have := x.1; omega), h.hh.only hb (fun x => by have := x.1; omega),
   h.bel.trans ⟨hb.os, hb.tape, hb.output, hb.size, fun k hk => hb.block k (by have := h.bel.size; omega) (fun x => x.2 (.inl hk))⟩, Nat.le_trans h.hz hb.size⟩
theorem ChS.below {w1 : World} {B bt bb ba : Nat} {b a : Int} {tc : Array Value} {y : Nat} {vH : Value} {w w' : World} (h : ChS w1 B bt bb ba b a tc y vH w) {Z : Nat} (hb : Below Z w w') (hZ : B + 2 ≤ Z) (h1 : w1.heap.size ≤ Z) (h2 : bt < Z) (h3 : bb < Z) (h4 : ba < Z) : ChS w1 B bt bb ba b a tc y vH w' :=
  ⟨h.ht.blk hb.size (hb.block _ h2), h.hb.blk hb.size (hb.block _ h3), h.ha.blk hb.size (hb.block _ h4), h.hy.blk hb.size (hb.block _ (by omega)), h.hh.blk hb.size (hb.block _ (by omega)), h.bel.trans (hb.mono h1), Nat.le_trans h.hz hb.size⟩
end Go.Proofs.Ytddphepgcihdbaa
