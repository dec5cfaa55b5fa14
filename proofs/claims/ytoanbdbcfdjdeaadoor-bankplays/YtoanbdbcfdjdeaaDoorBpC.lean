import Derived.Test.YtoanbdbcfdjdeaaDoorBpB
namespace Go.Proofs.YtoanbdbcfdjdeaaDoor
open Go.RowKit
set_option linter.unusedVariables false
set_option linter.unusedSimpArgs false

theorem step_n (S : Nat → Prop) (a : Ac) (va : Option Addr) (c : Nat) (F : List Int) (n g cap i : Nat) (t : Int) (base : Nat) (w : World) (hl : F.length = n) (hown : w.ownsRow base 5 1 (.slice (some ⟨g, 0, none⟩) n cap) n (List.map bv (F))) (hd : By S w (.slice va a.d.length c) a.d)
    (ok : okA a n = true) (hn : n % 1024 = 0) (hi : i < nst a) (hF : n ≤ 4194304) :
    Calls Tryd.prog 31 #[.slice (some ⟨g, 0, none⟩) n cap, .agg #[.int .i64 a.k, .int .i64 a.o, .slice va a.d.length c], .int .i64 (i : Int), .int .u8 t] w fun e w' => e = .returned (.tuple #[]) ∧ w'.ownsRow base 5 1 (.slice (some ⟨g, 0, none⟩) n cap) n (List.map bv (stF F a i t)) ∧ Only (fun q => q = g) w w' := by
  subst hl
  obtain ⟨h0, h1, h2⟩ := okA_room ok hn hi
  exact step_any S a va c F g cap i t base w hown hd h0 h1 h2 hF
theorem rstep_n (S : Nat → Prop) (a : Ac) (va : Option Addr) (c : Nat) (F : List Int) (n g cap i : Nat) (t : Int) (base : Nat) (w : World) (hl : F.length = n) (hown : w.ownsRow base 5 1 (.slice (some ⟨g, 0, none⟩) n cap) n (List.map bv (F))) (hd : By S w (.slice va a.d.length c) a.d)
    (ok : okA a n = true) (hn : n % 1024 = 0) (hi : i < nst a) (hF : n ≤ 4194304) :
    Calls Tryd.prog 22 #[.slice (some ⟨g, 0, none⟩) n cap, .agg #[.int .i64 a.k, .int .i64 a.o, .slice va a.d.length c], .int .i64 (i : Int), .int .u8 t] w fun e w' => e = .returned (.tuple #[]) ∧ w'.ownsRow base 5 1 (.slice (some ⟨g, 0, none⟩) n cap) n (List.map bv (stF F a i t)) ∧ Only (fun q => q = g) w w' := by
  subst hl
  obtain ⟨h0, h1, h2⟩ := okA_room ok hn hi
  exact rstep_any S a va c F g cap i t base w hown hd h0 h1 h2 hF

theorem has3 {w' : World} {b : Nat} {v0 v1 v2 : Value} (h : Has w' b #[v0, v1, v2]) : w'.cell? ⟨b, 0, none⟩ = some v0 ∧ w'.cell? ⟨b, 1, none⟩ = some v1 ∧ w'.cell? ⟨b, 2, none⟩ = some v2 := ⟨h.2.1 0, h.2.1 1, h.2.1 2⟩
theorem nst_le {a : Ac} (h : a.d.length ≤ 140737488355328) : nst a ≤ 140737488355328 := by
  unfold nst; split
  · decide
  · split
    · exact h
    · exact Nat.zero_le _
set_option maxRecDepth 100000 in
set_option maxHeartbeats 2000000 in
theorem run_any (S : Nat → Prop) (a : Ac) (va : Option Addr) (c : Nat) (F : List Int) (n g cap m : Nat) (base : Nat) (w : World) (hl : F.length = n) (hown : w.ownsRow base 5 1 (.slice (some ⟨g, 0, none⟩) n cap) n (List.map bv (F))) (hd : By S w (.slice va a.d.length c) a.d) (hS : ¬ S g)
    (ok : okA a n = true) (hn : n % 1024 = 0) (hm : m ≤ nst a) (hF : n ≤ 4194304) :
    Calls Tryd.prog 30 #[.slice (some ⟨g, 0, none⟩) n cap, .agg #[.int .i64 a.k, .int .i64 a.o, .slice va a.d.length c], .int .i64 (m : Int)] w fun e w' => e = .returned (.tuple #[]) ∧ w'.ownsRow base 5 1 (.slice (some ⟨g, 0, none⟩) n cap) n (List.map bv (rnF F a m)) ∧ Only (fun q => q = g) w w' := by
  have hmb : m ≤ 140737488355328 := Nat.le_trans hm (nst_le (by obtain ⟨_, _, _, _, h, _⟩ := hd; exact h))
  have hgl := (own_at hown).1
  have HB := Has.new w #[.int .i64 a.k, .int .i64 a.o, .slice va a.d.length c] 41 rfl
  have O1 : Only (fun q => q = g) w (w.alloc (.cells #[.int .i64 a.k, .int .i64 a.o, .slice va a.d.length c] 41)) := Only.of_below belN1
  have ow1 := own_bel hown (belN1 (o1 := .cells #[.int .i64 a.k, .int .i64 a.o, .slice va a.d.length c] 41))
  have hd1 := hd.keep (Mv.below (belN1 (o1 := .cells #[.int .i64 a.k, .int .i64 a.o, .slice va a.d.length c] 41)))
  generalize hW : w.alloc (.cells #[.int .i64 a.k, .int .i64 a.o, .slice va a.d.length c] 41) = W at HB O1 ow1 hd1
  have h31 := fun (k : Nat) (X : World) (hk : k < nst a) (hX : Only (fun q => q = g) W X) (hO : X.ownsRow base 5 1 (.slice (some ⟨g, 0, none⟩) n cap) n (List.map bv (rnF F a k))) => step_n S a va c (rnF F a k) n g cap k 255 base X ((rnF_len F a k).trans hl) hO (hd1.keep (mv_only hX (fun q hs e => hS (e ▸ hs)))) ok hn hk hF
  have hne : ¬ w.heap.size = g := by omega
  clear hd hd1 hown
  go_enter Tryd.func30, Tryd.ntmps30
  go_wp2_with fail
  (try rw [hW])
  go_loopw [8] (fun i wr => ∃ k : Nat, k ≤ m ∧ i = .int .i64 (k : Int) ∧ Hid (Only (fun q => q = g) W wr) ∧ Hid (wr.ownsRow base 5 1 (.slice (some ⟨g, 0, none⟩) n cap) n (List.map bv (rnF F a k)))) (fun i _ => m - (intOf i).toNat)
  case atStart => exact ⟨0, by omega, rfl, Only.refl _ _, ow1⟩
  case round =>
    obtain ⟨k, hk, rfl, ho', hw'⟩ := hrel
    have oo := ho'.out
    have ow := hw'.out
    clear ho' hw'
    by_cases hlt : k < m
    case neg =>
      have t1 : ¬ (k : Int) < (m : Int) := by omega
      obtain rfl : k = m := by omega
      go_wp2_with fail
      go_end0
      exact ⟨rfl, ow, O1.trans oo⟩
    have t1 : (k : Int) < (m : Int) := by omega
    obtain ⟨b0, b1, b2⟩ := has3 (HB.only oo hne)
    have h := h31 k wr (by omega) oo ow
    go_wp2_with (go_at_call 31; (with_reducible refine Calls.mono h ?_); rintro e w1 ⟨rfl, o1, o2⟩)
    go_roundw
    case rel => exact ⟨k + 1, by omega, by go_num, oo.trans o2, o1⟩
    case measure => simp [intOf]; omega
theorem plF_cons (F : List Int) (A : List Ac) (k : Nat) (h : k < A.length) (n : Nat) (t : Int) : plF F (A.drop k) n t = if n < nst A[k] then stF (rnF F A[k] n) A[k] n t else plF (rnF F A[k] (nst A[k])) (A.drop (k + 1)) (n - nst A[k]) t := by
  rw [List.drop_eq_getElem_cons h]; rfl
theorem plF_nil (F : List Int) (A : List Ac) (k : Nat) (h : A.length ≤ k) (n : Nat) (t : Int) : plF F (A.drop k) n t = F := by
  rw [List.drop_eq_nil_of_le h]; rfl
/-- An act of a list, as it is read. -/
theorem Acs.at {S : Nat → Prop} {w : World} {v : Value} {A : List Ac} (h : Acs S w v A) : ∃ a cap, v = .slice a A.length cap ∧ A.length ≤ 3518437208882 ∧ ∀ k, (hk : k < A.length) → ∃ g o va c, a = some ⟨g, o, none⟩ ∧ S g ∧ g < w.heap.size ∧ w.cell? ⟨g, o + k * 3, none⟩ = some (.int .i64 A[k].k) ∧ w.cell? ⟨g, o + k * 3 + 1, none⟩ = some (.int .i64 A[k].o) ∧ w.cell? ⟨g, o + k * 3 + 2, none⟩ = some (.slice va A[k].d.length c) ∧ By S w (.slice va A[k].d.length c) A[k].d ∧ A[k].o ≤ 9223372036854775807 ∧ -9223372036854775808 ≤ A[k].o := by
  obtain ⟨a, cap, e, hm, hx⟩ := Rows.any h
  refine ⟨a, cap, e, hm, fun k hk => ?_⟩
  obtain ⟨g, o, e2, hS, hg, hel⟩ := hx.resolve_left (by intro e; rw [e] at hk; simp at hk)
  obtain ⟨cs, -, ⟨v, rfl, hb, r1, r2⟩, hc⟩ := hel k hk
  obtain ⟨va, c, rfl, hr⟩ := hb
  exact ⟨g, o, va, c, e2, hS, hg, by simpa using hc 0 _ rfl, hc 1 _ rfl, hc 2 _ rfl, ⟨va, c, rfl, hr⟩, r1, r2⟩
theorem Acs.okAt {A : List Ac} {n k : Nat} (h : okAll A n = true) (hk : k < A.length) : okA A[k] n = true := List.all_eq_true.1 h _ (List.getElem_mem hk)
set_option maxRecDepth 100000 in
set_option maxHeartbeats 2000000 in
theorem play_any (S : Nat → Prop) (A : List Ac) (v : Value) (F : List Int) (n g cap m : Nat) (t : Int) (base : Nat) (w : World) (hl : F.length = n) (hown : w.ownsRow base 5 1 (.slice (some ⟨g, 0, none⟩) n cap) n (List.map bv (F))) (hA : Acs S w v A) (hS : ∀ q, S q → q < w.heap.size ∧ q ≠ g)
    (ok : okAll A n = true) (hn : n % 1024 = 0) (hF : n ≤ 4194304) (hm : m ≤ 9223372036854775807) :
    Calls Tryd.prog 19 #[.slice (some ⟨g, 0, none⟩) n cap, v, .int .i64 (m : Int), .int .u8 t] w fun e w' => e = .returned (.tuple #[]) ∧ w'.ownsRow base 5 1 (.slice (some ⟨g, 0, none⟩) n cap) n (List.map bv (plF F A m t)) ∧ Only (fun q => q = g) w w' := by
  obtain ⟨va0, vcap, rfl, hlen, -⟩ := hA.at
  have hgl := (own_at hown).1
  have hAt := fun (X : World) (hX : Only (fun q => q = g) w X) => (hA.keep (mv_only hX (fun q hs e => (hS q hs).2 e))).at
  clear hA
  have hown' : Hid (w.ownsRow base 5 1 (.slice (some ⟨g, 0, none⟩) n cap) n (List.map bv (F))) := hown
  clear hown
  go_enter Tryd.func19, Tryd.ntmps19
  go_wp2_with fail
  go_loopw [2, 13] (fun s2 i wr => ∃ (k r : Nat) (X : List Int), k ≤ A.length ∧ i = .int .i64 (k : Int) ∧ s2 = .int .i64 (r : Int) ∧ r ≤ m ∧ X.length = n ∧ Hid (plF X (A.drop k) r t = plF F A m t) ∧ Hid (Only (fun q => q = g) w wr) ∧ Hid (wr.ownsRow base 5 1 (.slice (some ⟨g, 0, none⟩) n cap) n (List.map bv (X)))) (fun _ i _ => A.length - (intOf i).toNat)
  case atStart => exact ⟨0, m, F, by omega, rfl, rfl, by omega, hl, rfl, Only.refl _ _, hown'.out⟩
  case round =>
    obtain ⟨k, r, X, hk, rfl, rfl, hr, hX, hp', ho', hw'⟩ := hrel
    have oo := ho'.out
    have ow := hw'.out
    have hp := hp'.out
    clear ho' hw' hp'
    by_cases hlt : k < A.length
    case neg =>
      have t1 : ¬ (k : Int) < (A.length : Int) := by omega
      rw [plF_nil X A k (by omega)] at hp
      subst hp
      go_wp2_with fail
      go_end0
      exact ⟨rfl, ow, oo⟩
    have t1 : (k : Int) < (A.length : Int) := by omega
    have t2 : (0 : Int) ≤ (k : Int) := by omega
    obtain ⟨a, cap', e, -, hat⟩ := hAt wr oo
    injection e with e _ ec
    subst ec
    subst e
    obtain ⟨ga, oa, vd, cd, rfl, hSa, hga, c0, c1, c2, hBy, r1, r2⟩ := hat k hlt
    have okk := Acs.okAt ok hlt
    rw [plF_cons X A k hlt] at hp
    have hdl : A[k].d.length ≤ 140737488355328 := by obtain ⟨_, _, _, _, h, _⟩ := hBy; exact h
    generalize A[k] = ac at *
    have hns := nst_le hdl
    have hSg : ¬ S g := fun h => (hS g h).2 rfl
    have HX := Has.new wr #[.int .i64 ac.k, .int .i64 ac.o, .slice vd ac.d.length cd] 41 rfl
    have bN := belN1 (w := wr) (o1 := .cells #[.int .i64 ac.k, .int .i64 ac.o, .slice vd ac.d.length cd] 41)
    have owW := own_bel ow bN
    have ByW := hBy.keep (Mv.below bN)
    have ooW : Only (fun q => q = g) w (wr.alloc (.cells #[.int .i64 ac.k, .int .i64 ac.o, .slice vd ac.d.length cd] 41)) := oo.below bN
    have hne : ¬ wr.heap.size = g := by have := oo.size; omega
    clear bN ow hBy oo hAt
    generalize hW : wr.alloc (.cells #[.int .i64 ac.k, .int .i64 ac.o, .slice vd ac.d.length cd] 41) = W at *
    have h23 := steps_any ac vd cd W
    obtain ⟨b0, b1, b2⟩ := has3 HX
    by_cases hcut : r < nst ac
    · rw [if_pos hcut] at hp
      have t3 : ¬ ((nst ac : Nat) : Int) < (r : Int) := by omega
      have t4 : (r : Int) < ((nst ac : Nat) : Int) := by omega
      have h30 := fun (w1 : World) (hb : Below W.heap.size W w1) => run_any S ac vd cd X n g cap r base w1 hX (own_bel owW hb) (ByW.keep (Mv.below hb)) hSg okk hn (by omega) hF
      have h31 := fun (w1 : World) (hb : Below W.heap.size W w1) (w2 : World) (o : Only (fun q => q = g) w1 w2) (ow2 : w2.ownsRow base 5 1 (.slice (some ⟨g, 0, none⟩) n cap) n (List.map bv (rnF X ac r))) => step_n S ac vd cd (rnF X ac r) n g cap r t base w2 ((rnF_len X ac r).trans hX) ow2 ((ByW.keep (Mv.below hb)).keep (mv_only o (fun q hs e => hSg (e ▸ hs)))) okk hn hcut hF
      clear owW ByW
      go_wp2_with (first
        | (go_at_call 23; (with_reducible refine Calls.mono h23 ?_); rintro e w1 ⟨rfl, hb⟩; obtain ⟨b0, b1, b2⟩ := has3 (HX.below hb))
        | (go_at_call 30; (with_reducible refine Calls.mono (h30 _ hb) ?_); rintro e w2 ⟨rfl, ow2, o2⟩; obtain ⟨b0, b1, b2⟩ := has3 ((HX.below hb).only o2 hne))
        | (go_at_call 31; (with_reducible refine Calls.mono (h31 _ hb _ o2 ow2) ?_); rintro e w3 ⟨rfl, ow3, o3⟩))
      (try simp only [Exit.inBlock, Exit.then])
      refine bodyPost_ret (results_none rfl _ _ _) rfl ?_
      exact ⟨rfl, hp ▸ ow3, ((ooW.below hb).trans o2).trans o3⟩
    · rw [if_neg hcut] at hp
      have t4 : ¬ (r : Int) < ((nst ac : Nat) : Int) := by omega
      have h30 := fun (w1 : World) (hb : Below W.heap.size W w1) => run_any S ac vd cd X n g cap (nst ac) base w1 hX (own_bel owW hb) (ByW.keep (Mv.below hb)) hSg okk hn (Nat.le_refl _) hF
      clear owW ByW
      rcases Nat.lt_or_ge (nst ac) r with h5 | h5
      · have t5 : ((nst ac : Nat) : Int) < (r : Int) := by omega
        go_wp2_with (first
          | (go_at_call 23; (with_reducible refine Calls.mono h23 ?_); rintro e w1 ⟨rfl, hb⟩; obtain ⟨b0, b1, b2⟩ := has3 (HX.below hb))
          | (go_at_call 30; (with_reducible refine Calls.mono (h30 _ hb) ?_); rintro e w2 ⟨rfl, ow2, o2⟩; obtain ⟨b0, b1, b2⟩ := has3 ((HX.below hb).only o2 hne)))
        go_roundw
        case rel => exact ⟨k + 1, r - nst ac, rnF X ac (nst ac), by omega, by go_num, by congr 1; first | omega | (rw [wrap64 _ (by omega)]; omega), by omega, (rnF_len X ac _).trans hX, hp, (ooW.below hb).trans o2, ow2⟩
        case measure => simp [intOf]; omega
      · obtain rfl : nst ac = r := by omega
        have t5 : ¬ ((nst ac : Nat) : Int) < ((nst ac : Nat) : Int) := by omega
        go_wp2_with (first
          | (go_at_call 23; (with_reducible refine Calls.mono h23 ?_); rintro e w1 ⟨rfl, hb⟩; obtain ⟨b0, b1, b2⟩ := has3 (HX.below hb))
          | (go_at_call 30; (with_reducible refine Calls.mono (h30 _ hb) ?_); rintro e w2 ⟨rfl, ow2, o2⟩; obtain ⟨b0, b1, b2⟩ := has3 ((HX.below hb).only o2 hne)))
        go_roundw
        case rel => exact ⟨k + 1, nst ac - nst ac, rnF X ac (nst ac), by omega, by go_num, by congr 1; first | omega | (rw [wrap64 _ (by omega)]; omega), by omega, (rnF_len X ac _).trans hX, hp, (ooW.below hb).trans o2, ow2⟩
        case measure => simp [intOf]; omega
end Go.Proofs.YtoanbdbcfdjdeaaDoor
