import Derived.Test.YtjohnhaahpggkabDoorJnM
import Derived.Laws.BytesArg
namespace Go.Proofs.YtjohnhaahpggkabDoor
open Go.RowKit
set_option linter.unusedVariables false
set_option linter.unusedSimpArgs false

theorem own_keep {w w' : World} {base e size n : Nat} {v : Value} {xs : List Value} (h : w.ownsRow base e size v n xs) (hb : ∀ g, v.ownBlock = some g → w'.heap[g]? = w.heap[g]?) : w'.ownsRow base e size v n xs := by
  refine ⟨h.1, ?_⟩
  rcases h.2 with h0 | ⟨g, cap, cur, rfl, h2, h3, h4⟩
  · exact .inl h0
  · exact .inr ⟨g, cap, cur, rfl, h2, (hb g rfl).trans h3, h4⟩
theorem own_below {w w' : World} {base e size n : Nat} {v : Value} {xs : List Value} (h : w.ownsRow base e size v n xs) (hb : Below w.heap.size w w') : w'.ownsRow base e size v n xs :=
  own_keep h (fun g hg => hb.block g (h.lt g hg).2)
theorem conv_row {W : World} {base : Nat} {B : List UInt8} {bv : Value} (h : W.ownsRow base 5 1 bv B.length (byteCells (bs B))) : (convert 48 9 bv).run Tryd.prog W = .ok (.string (bs B)) W := by
  have h' := h
  rcases h.2 with ⟨rfl, h0⟩ | ⟨g, cap, cur, rfl, _, hg, h3, h4, h5, h6⟩
  · have : B = [] := List.eq_nil_of_length_eq_zero h0
    subst this
    exact run_convert_bytes_nil W 48 5 und48 und5 0 0 9 und9
  · refine run_convert_bytes_back W 48 9 5 ⟨g, 0, none⟩ cap B und48 und5 und9 (fun j hj => ?_)
    exact h'.cells (g := g) rfl j (.int .u8 (B[j].toNat : Int)) (by unfold byteCells bs; simp [List.getElem?_eq_getElem hj])
theorem cells_one {W : World} {b : Nat} (hb : b = W.heap.size) (x : Value) (t : TypeId) : ∀ j u, [x][j]? = some u → (W.alloc (.cells #[x] t)).cell? ((⟨b, 0, none⟩ : Addr).add j) = some u := by
  subst hb
  intro j u h
  have := (Has.new W #[x] t rfl).2.1 j
  rw [Go.WideShapes.add_plain, Nat.zero_add, this]
  simpa using h
theorem one_blank : ∀ u ∈ [Value.int .u8 32], u.oneCell' = true := by intro u hu; simp at hu; rw [hu]; rfl
theorem byteCells_blank : byteCells (bs [32]) = [.int .u8 32] := rfl

/-- Where the list's text ends. -/
theorem top_of (L : List Tq) (hok : ∀ t ∈ L, t.Ok) (ho : ∀ i, i < L.length → okAt L i = true) : ∃ m, m ≤ L.length ∧ (∀ i (h : i < L.length), i < m → L[i].k ≠ 0) ∧ ((m = L.length ∧ sumL L L.length = sumL L m) ∨ (m + 1 = L.length ∧ (∃ h : m < L.length, L[m].k = 0) ∧ sumL L L.length = sumL L m + 1)) := by
  have last : ∀ i (h : i < L.length), L[i].k = 0 → i + 1 = L.length := fun i h h0 => by
    have := ho i h
    rw [okAt_at L i h, okF_split, Bool.and_eq_true, h0] at this
    simpa using this.2
  by_cases hl : L.length = 0
  · exact ⟨0, by omega, fun i h hi => by omega, .inl ⟨by omega, by rw [hl]⟩⟩
  · have hlt : L.length - 1 < L.length := by omega
    by_cases h0 : (L[L.length - 1]'hlt).k = 0
    · refine ⟨L.length - 1, by omega, fun i h hi h1 => by have := last i h h1; omega, .inr ⟨by omega, ⟨hlt, h0⟩, ?_⟩⟩
      have hs := sumL_succ L (L.length - 1) hlt
      have hf := sp_facts (L[L.length - 1]'hlt) _ (hok _ (List.getElem_mem hlt)) (by rw [← okAt_at L _ hlt]; exact ho _ hlt)
      rw [hf.2.1 h0, show L.length - 1 + 1 = L.length by omega] at hs
      exact hs
    · refine ⟨L.length, Nat.le_refl _, fun i h hi h1 => ?_, .inl ⟨rfl, rfl⟩⟩
      have := last i h h1
      obtain rfl : i = L.length - 1 := by omega
      exact h0 h1
theorem jn_min (L : List Tq) (m k : Nat) (hm : m ≤ L.length) : (jnL L (min k m)).length ≤ sumL L m := by
  have h1 := jnL_mono L (min k m) m (Nat.min_le_right _ _) hm
  have h2 := jnL_len L m hm
  split at h2 <;> omega

set_option maxRecDepth 100000 in
set_option maxHeartbeats 4000000 in
theorem refJoin_any (L : List Tq) (v : Value) (w : World) (hT : Tqs w v L) (hok : ∀ t ∈ L, t.Ok) (hlen : L.length ≤ 4398046511104) (hK : Kt w) (hS : St w) :
    Calls Tryd.prog 9 #[v] w fun e w' => (∃ B er, e = .returned (.tuple #[.string (bs B), .int .i64 er]) ∧ Jn L B er) ∧ Below w.heap.size w w' := by
  obtain ⟨a, cap, rfl, hc⟩ := hT
  have hSpl : ∀ (k : Nat) (h : k < L.length) (W : World), Below w.heap.size w W → Calls Tryd.prog 21 #[.agg #[.int .i64 L[k].k, .int .i32 L[k].n, .string L[k].tx, .int .i64 L[k].ln, .int .i64 L[k].cl]] W (SpPost L[k] W) := fun k h W hb => spelled_any L[k] W (hok _ (List.getElem_mem h)) (hK.below hb hK.1) (hS.below hb hS.1)
  go_enter Tryd.func9, Tryd.ntmps9
  go_wp2
  go_loopw [4, 5] (fun tl ti wr => ∃ k : Nat, ti = .int .i64 (k : Int) ∧ k ≤ L.length ∧ tl = .int .i64 (sumL L k : Int) ∧ sumL L k ≤ 101 * k ∧ Hid (∀ i, i < k → okAt L i = true) ∧ Below w.heap.size w wr) (fun _ ti _ => L.length - (intOf ti).toNat)
  case atStart => exact ⟨0, rfl, by omega, rfl, by simp [sumL], fun i hi => by omega, Below.refl _ _⟩
  case round =>
    obtain ⟨k, rfl, hk, rfl, hsk, hall, hb⟩ := hrel
    by_cases hlt : k < L.length
    · have k1 : (k : Int) < (L.length : Int) := by omega
      have k0 : (0 : Int) ≤ (k : Int) := by omega
      obtain ⟨g, o, rfl, hg, hcs⟩ := hc.resolve_left (by intro h; rw [h] at hlt; simp at hlt)
      obtain ⟨p0, p1, p2, p3, p4⟩ := hcs k hlt
      rw [← hb.cell (p := ⟨g, _, none⟩) hg] at p0 p1 p2 p3 p4
      have hOA := okAt_at L k hlt
      rw [okF_split] at hOA
      have hsub : IntKind.i64.wrap ((L.length : Int) - 1) = (L.length : Int) - 1 := by rw [IntKind.wrap_i64]; omega
      have hSp := hSpl k hlt wr hb
      have hsf := fun (h : okF L[k] true = true) => sp_facts L[k] true (hok _ (List.getElem_mem hlt)) h
      have hss := sumL_succ L k hlt
      unfold SpPost at hSp
      generalize okF L[k] true = okb at *
      generalize hsp : spF L[k] = sp at *
      generalize L[k].k = x0 at *
      generalize L[k].n = x1 at *
      generalize L[k].tx = x2 at *
      generalize L[k].ln = x3 at *
      generalize L[k].cl = x4 at *
      clear hSpl hc hcs hsp
      cases okb
      · have hO : okAt L k = false := by rw [hOA]; rfl
        clear hOA hsf hss
        go_wp2_with (go_at_call 21; (with_reducible refine hSp.mono ?_); rintro e w1 ⟨⟨s, rfl, hs⟩, hb1⟩)
        exact bodyPost_ret (v := .tuple #[.string ⟨#[]⟩, .int .i64 25]) (by simp [results, Tryd.results9, go_sem]) rfl ⟨⟨[], 25, rfl, .bad k hlt hO⟩, hb.trans (hb1.mono hb.size)⟩
      · obtain ⟨f1, f2, f3⟩ := hsf rfl
        clear hsf
        have hgo : ∀ (w1 : World), Below wr.heap.size wr w1 → w1.cell? ⟨g, o + k * 5, none⟩ = some (.int .i64 x0) := fun w1 hb1 => (hb1.cell (p := ⟨g, _, none⟩) (Nat.lt_of_lt_of_le hg hb.size)).trans p0
        have hsum : IntKind.i64.wrap ((sumL L k : Int) + (sp.size : Int)) = (sumL L k : Int) + (sp.size : Int) := by rw [IntKind.wrap_i64]; omega
        have hsum2 : IntKind.i64.wrap ((sumL L k : Int) + (sp.size : Int) + 1) = (sumL L k : Int) + (sp.size : Int) + 1 := by rw [IntKind.wrap_i64]; omega
        by_cases hx0 : x0 = 0
        · subst hx0
          by_cases hlast : k + 1 = L.length
          · have hl1 : decide ((k : Int) = (L.length : Int) - 1) = true := by simp; omega
            have hl2 : ((k : Int) == (L.length : Int) - 1) = true := by simp; omega
            have hl3 : ((k : Int) != (L.length : Int) - 1) = false := by simp; omega
            have HO : Hid (okAt L k = true) := by show _ = _; rw [hOA]; simp [hlast]
            have Hss := hid_of hss
            clear hlast hOA hss f2 f3
            go_wp2_with (go_at_call 21; (with_reducible refine hSp.mono ?_); rintro e w1 ⟨⟨s, rfl, hs⟩, hb1⟩; have hs' := hs rfl; subst hs'; have q0 := hgo w1 hb1)
            go_roundw
            case rel => exact ⟨k + 1, by go_num, by omega, by rw [Hss.out]; go_num, by rw [Hss.out]; omega, fun i hi => by
              by_cases e : i = k
              · subst e; exact HO.out
              · exact hall i (by omega), hb.trans (hb1.mono hb.size)⟩
            case measure => simp [intOf]; omega
          · have hl1 : decide ((k : Int) = (L.length : Int) - 1) = false := by simp; omega
            have hl2 : ((k : Int) == (L.length : Int) - 1) = false := by simp; omega
            have hl3 : ((k : Int) != (L.length : Int) - 1) = true := by simp; omega
            have hO : okAt L k = false := by rw [hOA]; simp [hlast]
            clear hlast hOA hss f2 f3
            go_wp2_with (go_at_call 21; (with_reducible refine hSp.mono ?_); rintro e w1 ⟨⟨s, rfl, hs⟩, hb1⟩; have hs' := hs rfl; subst hs'; have q0 := hgo w1 hb1)
            exact bodyPost_ret (v := .tuple #[.string ⟨#[]⟩, .int .i64 25]) (by simp [results, Tryd.results9, go_sem]) rfl ⟨⟨[], 25, rfl, .bad k hlt hO⟩, hb.trans (hb1.mono hb.size)⟩
        · have hx1 : (x0 == 0) = false := by simpa using hx0
          have hx2 : decide (x0 = 0) = false := by simpa using hx0
          have HO : Hid (okAt L k = true) := by show _ = _; rw [hOA]; simp [hx0]
          have Hss := hid_of hss
          clear hOA hss f2 f3
          go_wp2_with (go_at_call 21; (with_reducible refine hSp.mono ?_); rintro e w1 ⟨⟨s, rfl, hs⟩, hb1⟩; have hs' := hs rfl; subst hs'; have q0 := hgo w1 hb1)
          go_roundw
          case rel => exact ⟨k + 1, by go_num, by omega, by rw [Hss.out]; go_num, by rw [Hss.out]; omega, fun i hi => by
            by_cases e : i = k
            · subst e; exact HO.out
            · exact hall i (by omega), hb.trans (hb1.mono hb.size)⟩
          case measure => simp [intOf]; omega
    · have k1 : ¬ (k : Int) < (L.length : Int) := by omega
      obtain rfl : k = L.length := by omega
      have hAll : Hid (∀ i, i < L.length → okAt L i = true) := fun i hi => hall i hi
      clear hall
      obtain ⟨m, hm, hne, hend⟩ := top_of L hok hAll
      have hjm := jnL_len L m hm
      by_cases hL : (65538 : Int) < (sumL L L.length : Int)
      · have hlg : 65536 < (jnL L m).length := by
          rcases hend with ⟨h1, h2⟩ | ⟨h1, _, h2⟩
          · split at hjm <;> omega
          · split at hjm <;> omega
        clear hjm
        go_wp2
        exact bodyPost_ret (v := .tuple #[.string ⟨#[]⟩, .int .i64 20]) (by simp [results, Tryd.results9, go_sem]) rfl ⟨⟨[], 20, rfl, .long m hm hAll hne hlg⟩, hb⟩
      · have hsm : sumL L m ≤ 65538 := by rcases hend with ⟨h1, h2⟩ | ⟨h1, _, h2⟩ <;> omega
        have hzz : Hid (m = L.length ∨ ∃ h : m < L.length, L[m].k = 0) := by
          rcases hend with ⟨h1, h2⟩ | ⟨h1, h2, _⟩
          · exact .inl h1
          · exact .inr h2
        have hm1 : Hid (m = L.length ∨ m + 1 = L.length) := by
          rcases hend with ⟨h1, h2⟩ | ⟨h1, h2, _⟩
          · exact .inl h1
          · exact .inr h1
        have hNE := hid_of hne
        obtain ⟨i5, h5, h5z, h5s, h5b⟩ := info_parts info5
        have hmn := jn_min L m
        clear hjm hend hne
        go_wp2
        go_loopw [8, 9] (fun tb ti wr => ∃ k : Nat, ti = .int .i64 (k : Int) ∧ k ≤ L.length ∧ wr.ownsRow w.heap.size 5 1 tb (jnL L (min k m)).length (byteCells (bs (jnL L (min k m)))) ∧ Below w.heap.size w wr) (fun _ ti _ => L.length - (intOf ti).toNat)
        case atStart => exact ⟨0, rfl, by omega, by rw [Nat.zero_min]; exact World.ownsRow_nil _ _ _ _, hb⟩
        case round =>
          obtain ⟨k, rfl, hk2, hrow, hb⟩ := hrel
          have hbz := hb.size
          have hlk := hmn k hm
          by_cases hlt : k < L.length
          · have k1 : (k : Int) < (L.length : Int) := by omega
            have k0 : (0 : Int) ≤ (k : Int) := by omega
            obtain ⟨g, o, rfl, hg, hcs⟩ := hc.resolve_left (by intro h; rw [h] at hlt; simp at hlt)
            obtain ⟨p0, p1, p2, p3, p4⟩ := hcs k hlt
            rw [← hb.cell (p := ⟨g, _, none⟩) hg] at p0 p1 p2 p3 p4
            have hokk : okF L[k] true = true := by
              have := hAll k hlt
              rw [okAt_at L k hlt, okF_split, Bool.and_eq_true] at this
              exact this.1
            have hSp := hSpl k hlt wr hb
            obtain ⟨f1, f2, f3⟩ := sp_facts L[k] true (hok _ (List.getElem_mem hlt)) hokk
            have hj1 := jnL_succ L k hlt
            unfold SpPost at hSp
            rw [hokk] at hSp
            have hkm : (k < m ∧ L[k].k ≠ 0) ∨ (k = m ∧ L[k].k = 0) := by
              by_cases h : k < m
              · exact .inl ⟨h, hNE.out k hlt h⟩
              · refine .inr ?_
                rcases hzz.out with h1 | ⟨h1, h2⟩
                · omega
                · have h3 := hm1.out
                  obtain rfl : k = m := by omega
                  exact ⟨rfl, h2⟩
            generalize hsp : spF L[k] = sp at *
            generalize L[k].k = x0 at *
            generalize L[k].n = x1 at *
            generalize L[k].tx = x2 at *
            generalize L[k].ln = x3 at *
            generalize L[k].cl = x4 at *
            clear hSpl hc hcs hsp hokk
            rcases hkm with ⟨hkm, hx0⟩ | ⟨hkm, hx0⟩
            · have e1 : min k m = k := by omega
              have e2 : min (k + 1) m = k + 1 := by omega
              rw [e1] at hrow hlk
              have hne : sp.toList.isEmpty = false := by
                cases h : sp.toList.isEmpty
                · rfl
                · have := (isEmpty_size sp).1 h; have := f3 hx0; omega
              have hq1 : Hid ((jnL L k).length + sp.size ≤ maxLen) := by show _ ≤ _; unfold maxLen; omega
              have hq2 : Hid (((jnL L k).length + sp.size) * 1 ≤ 140737488355328) := by show _ ≤ _; omega
              have hr1 : Hid ((jnL L k).length + 1 ≤ maxLen) := by show _ ≤ _; unfold maxLen; omega
              have hr2 : Hid (((jnL L k).length + 1) * 1 ≤ 140737488355328) := by show _ ≤ _; omega
              have ht1 : Hid ((jnL L k).length + 1 + sp.size ≤ maxLen) := by show _ ≤ _; unfold maxLen; omega
              have ht2 : Hid (((jnL L k).length + 1 + sp.size) * 1 ≤ 140737488355328) := by show _ ≤ _; omega
              have E2 := hid_of e2
              clear e1 e2 f2 f3 hlk
              by_cases hk0 : k = 0
              · have hcat : Hid (jnL L (k + 1) = jnL L k ++ sp.data.toList) := by show _ = _; rw [hj1, if_pos hk0, List.nil_append]
                have hz0 : ¬ (0 : Int) < (k : Int) := by omega
                have hz1 : decide ((0 : Int) < (k : Int)) = false := by simp; omega
                clear hj1 hk0
                go_wp2_with (first
                  | (go_at_call 21; (with_reducible refine hSp.mono ?_); rintro e w1 ⟨⟨s, rfl, hs⟩, hb1⟩; have hs' := hs trivial; subst hs'; have hrow1 := own_below hrow hb1; have hB1 := hb.trans (hb1.mono hbz))
                  | (at_builtin; refine wpList_append_own_str _ rfl _ _ 48 9 rfl w.heap.size 5 i5 _ 1 und48 und9 h5 h5z h5s h5b rfl _ _ _ rfl hrow1 s rfl hq1.out hq2.out hB1.size ?_; intro v4 w4 hown4 hgrow4; have hB4 := hB1.grown hgrow4 hB1.size (fun g hg => (hrow1.lt g hg).1)))
                go_roundw
                case rel => exact ⟨k + 1, by go_num, by omega, by rw [E2.out, hcat.out, byteCells_app, List.length_append]; exact hown4, hB4⟩
                case measure => simp [intOf]; omega
              · have hcat : Hid (jnL L (k + 1) = jnL L k ++ ([32] ++ sp.data.toList)) := by show _ = _; rw [hj1, if_neg hk0]
                have hz0 : (0 : Int) < (k : Int) := by omega
                clear hj1 hk0
                go_wp2_with (first
                  | (go_at_call 21; (with_reducible refine hSp.mono ?_); rintro e w1 ⟨⟨s, rfl, hs⟩, hb1⟩; have hs' := hs trivial; subst hs'; have hrow1 := own_below hrow hb1; have hB1 := hb.trans (hb1.mono hbz); have hz9 : Hid (w.heap.size ≤ (w1.alloc (.cells #[.int .u8 32] 5)).heap.size) := (by show _ ≤ _; have := hB1.size; simp; omega))
                  | (at_builtin; refine wpList_append_own _ rfl _ _ 48 rfl w.heap.size 5 i5 _ 1 1 und48 h5 h5z h5s h5b rfl (by decide) _ _ _ rfl (hrow1.alloc _) ⟨w1.heap.size, 0, none⟩ 1 1 [.int .u8 32] rfl rfl (cells_one rfl _ _) one_blank hr1.out hr2.out hz9.out ?_; intro v3 w3 hown3 hgrow3 hnil3; have hB3 := (hB1.alloc hB1.size (.cells #[.int .u8 32] 5)).grown hgrow3 hz9.out (fun g hg => (hrow1.lt g hg).1))
                  | (at_builtin; refine wpList_append_own_str _ rfl _ _ 48 9 rfl w.heap.size 5 i5 _ 1 und48 und9 h5 h5z h5s h5b rfl _ _ _ rfl hown3 s rfl ht1.out ht2.out hB3.size ?_; intro v4 w4 hown4 hgrow4; have hB4 := hB3.grown hgrow4 hB3.size (fun g hg => (hown3.lt g hg).1)))
                go_roundw
                case rel => exact ⟨k + 1, by go_num, by omega, by rw [E2.out, hcat.out, byteCells_app, byteCells_app, byteCells_blank, List.length_append, List.length_append, ← List.append_assoc, ← Nat.add_assoc]; exact hown4, hB4⟩
                case measure => simp [intOf]; omega
            · have e1 : min k m = m := by omega
              have e2 : min (k + 1) m = m := by omega
              rw [e1] at hrow hlk
              have hne : sp.toList.isEmpty = true := (isEmpty_size sp).2 (f2 hx0)
              have hs0 : sp.size = 0 := f2 hx0
              have hq1 : Hid ((jnL L m).length + sp.size ≤ maxLen) := by show _ ≤ _; unfold maxLen; omega
              have hq2 : Hid (((jnL L m).length + sp.size) * 1 ≤ 140737488355328) := by show _ ≤ _; omega
              have E2 := hid_of e2
              have hcl : Hid (byteCells sp = []) := List.eq_nil_of_length_eq_zero (by rw [byteCells_length]; exact hs0)
              have HS0 := hid_of hs0
              clear e1 e2 f2 f3 hlk hj1 hkm hs0
              subst hx0
              have hkc : (0 : Int) < (k : Int) ∨ ¬ (0 : Int) < (k : Int) := by omega
              rcases hkc with hkc | hkc
              all_goals
                go_wp2_with (first
                  | (go_at_call 21; (with_reducible refine hSp.mono ?_); rintro e w1 ⟨⟨s, rfl, hs⟩, hb1⟩; have hs' := hs trivial; subst hs'; have hrow1 := own_below hrow hb1; have hB1 := hb.trans (hb1.mono hbz))
                  | (at_builtin; refine wpList_append_own_str _ rfl _ _ 48 9 rfl w.heap.size 5 i5 _ 1 und48 und9 h5 h5z h5s h5b rfl _ _ _ rfl hrow1 s rfl hq1.out hq2.out hB1.size ?_; intro v4 w4 hown4 hgrow4; have hB4 := hB1.grown hgrow4 hB1.size (fun g hg => (hrow1.lt g hg).1)))
                go_roundw
                case rel => exact ⟨k + 1, by go_num, by omega, by rw [E2.out]; have h := hown4; rw [hcl.out, List.append_nil, HS0.out, Nat.add_zero] at h; exact h, hB4⟩
                case measure => simp [intOf]; omega
          · have k1 : ¬ (k : Int) < (L.length : Int) := by omega
            have e1 : min k m = m := by omega
            rw [e1] at hrow
            obtain ⟨ab, cb, hu⟩ : ∃ a c, u8 = .slice a (jnL L m).length c := own_slice hrow
            subst hu
            have hcv := conv_row hrow
            clear e1
            by_cases hlg : (65536 : Int) < ((jnL L m).length : Int)
            · go_wp2
              exact bodyPost_ret (v := .tuple #[.string ⟨#[]⟩, .int .i64 20]) (by simp [results, Tryd.results9, go_sem]) rfl ⟨⟨[], 20, rfl, .long m hm hAll hNE.out (by omega)⟩, hb⟩
            · go_wp2
              exact bodyPost_ret (v := .tuple #[.string (bs (jnL L m)), .int .i64 0]) (by simp [results, Tryd.results9, go_sem]) rfl ⟨⟨_, 0, rfl, .fine m hm hAll hNE.out hzz.out (by omega)⟩, hb⟩
end Go.Proofs.YtjohnhaahpggkabDoor
