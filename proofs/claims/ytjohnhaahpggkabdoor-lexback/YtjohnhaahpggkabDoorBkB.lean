import Derived.Test.YtjohnhaahpggkabDoorBkA
import Derived.Test.YtjohnhaahpggkabDoorStrE
import Derived.Test.YtjohnhaahpggkabDoorPcsR
namespace Go.Proofs.YtjohnhaahpggkabDoor
open Go.RowKit
set_option linter.unusedVariables false
set_option linter.unusedSimpArgs false

/-- What Scan answers to what was written. -/
theorem scan_written {B la : List UInt8} {T : List Tok} (hW : Wrt B T la) (hB : B.length ≤ 65000) (hT : T.length ≤ 4000) (U : World) (hw : Wt U) :
    Calls Tryd.prog 7 #[.string (bs B)] U fun e w' => (∃ v, e = .returned (.tuple #[v, .agg #[.int .i64 0, .int .i64 0, .int .i64 0]]) ∧ w'.ownsRow U.heap.size 27 5 v (T.length + 1) (cellsOf (T ++ [⟨⟨0, 0, []⟩, (behL 1 1 B).1, (behL 1 1 B).2⟩]))) ∧ Below U.heap.size U w' := by
  refine (callsIn_wide.1 (scan_in (bs B) T ⟨⟨0, 0, []⟩, (behL 1 1 B).1, (behL 1 1 B).2⟩ U (.inl ⟨by rw [bs_szp]; omega, hW.all⟩) hw (by omega))).mono ?_
  rintro e w' ⟨v, f, rfl, h, hb⟩
  rcases h with ⟨h, _⟩ | ⟨_, h, rfl⟩
  · simp at h
  · exact ⟨⟨v, rfl, h⟩, hb⟩
theorem cells_five_at {W : World} {b : Nat} (hb : b = W.heap.size) (x0 x1 x2 x3 x4 : Value) (t : TypeId) : ∀ j u, [x0, x1, x2, x3, x4][j]? = some u → (W.alloc (.cells #[x0, x1, x2, x3, x4] t)).cell? ((⟨b, 0, none⟩ : Addr).add j) = some u := by
  subst hb; exact cells_five x0 x1 x2 x3 x4 t
theorem one_five (kk nn : Int) (s : ByteArray) (a b : Int) : ∀ u ∈ [Value.int .i64 kk, .int .i32 nn, .string s, .int .i64 a, .int .i64 b], u.oneCell' = true := by
  intro u hu; simp at hu; rcases hu with rfl | rfl | rfl | rfl | rfl <;> rfl

theorem own_far {W : World} {base e size n : Nat} {v : Value} {xs : List Value} (h : W.ownsRow base e size v n xs) {g i : Nat} (h1 : v.ownBlock ≠ some g) (x : Value) : (W.setCell ⟨g, i, none⟩ x).ownsRow base e size v n xs :=
  own_keep h (fun k hk => Below.heap_setCell _ _ _ _ (fun e => h1 (by rw [hk]; exact congrArg some e)))
theorem own_base {W : World} {base b e size n : Nat} {v : Value} {xs : List Value} (h : W.ownsRow base e size v n xs) (hb : ∀ g, v.ownBlock = some g → b ≤ g) : W.ownsRow b e size v n xs := by
  refine ⟨h.1, ?_⟩
  rcases h.2 with h1 | ⟨g, cap, cur, rfl, h1, h2, h3⟩
  · exact .inl h1
  · exact .inr ⟨g, cap, cur, rfl, hb g rfl, h2, h3⟩
def endT : Tok := ⟨⟨0, 0, []⟩, 0, 0⟩
theorem endT_q : endT.q = endQ := rfl
theorem endT_cs : endT.cs = [.int .i64 0, .int .i32 0, .string ⟨#[]⟩, .int .i64 0, .int .i64 0] := rfl
theorem join_row {W : World} {base n lo : Nat} {T E : List Tok} {v : Value} (hbk : Bk T lo) (hlo : lo ≤ 65000) (hE : E = [] ∨ E = [endT]) (hr : W.ownsRow base 27 5 v n (cellsOf (T ++ E))) (hn : n = (T ++ E).length) (hT : T.length ≤ 4000) (hW : Wt W) (hP : ∀ X, Below W.heap.size W X → Pw X) :
    Calls Tryd.prog 6 #[v] W fun e w' => e = .returned (.tuple #[.string (bs (jnL (T.map Tok.q) T.length)), .int .i64 0]) ∧ Below W.heap.size W w' := by
  have hmap : (T ++ E).map Tok.q = T.map Tok.q ++ E.map Tok.q := by simp
  have hEq : E.map Tok.q = [] ∨ E.map Tok.q = [endQ] := by
    rcases hE with rfl | rfl
    · exact .inl rfl
    · exact .inr rfl
  have hEl : E.length ≤ 1 := by rcases hE with rfl | rfl <;> simp
  have hall : ∀ t ∈ (T ++ E).map Tok.q, t.Ok ∧ ∀ b, okF t b = true → (spF t).size ≤ 100 := by
    intro t ht
    rw [hmap] at ht
    rcases List.mem_append.1 ht with h | h
    · obtain ⟨x, hx, rfl⟩ := List.mem_map.1 h
      obtain ⟨m, hm⟩ := hbk.spl x hx
      refine ⟨⟨hm.num, ?_⟩, fun b _ => ?_⟩
      · show (bs x.t.text).size < _
        rw [bs_sz]; have := hm.tx; omega
      · show (spF (mkTq x.t x.line x.col)).size ≤ 100
        rw [hm.sp, bs_sz]; exact hm.len
    · rcases hEq with h2 | h2
      · rw [h2] at h; cases h
      · rw [h2] at h
        obtain rfl : t = endQ := by simpa using h
        exact ⟨⟨by decide, by decide⟩, fun b _ => by decide⟩
  refine (join_any ((T ++ E).map Tok.q) v W (tqs_row hr hn) (fun t ht => (hall t ht).1) (by simp; omega) hW hP (fun t ht => (hall t ht).2)).mono ?_
  rintro e w' ⟨⟨B, er, rfl, hj⟩, hb⟩
  rw [hmap] at hj
  obtain ⟨h1, h2⟩ := jn_back hbk hlo hEq hj
  subst h1 h2
  exact ⟨rfl, hb⟩
theorem same_row {W : World} {b1 b2 n1 n2 : Nat} {T T' : List Tok} {z : Tok} {v1 v2 : Value} (h1 : W.ownsRow b1 27 5 v1 n1 (cellsOf (T' ++ [z]))) (hn1 : n1 = T'.length + 1) (h2 : W.ownsRow b2 27 5 v2 n2 (cellsOf (T ++ [endT]))) (hn2 : n2 = T.length + 1) (hz : z.t = ⟨0, 0, []⟩) (hm : T'.map (·.t) = T.map (·.t)) (hT : T.length ≤ 4000) :
    Calls Tryd.prog 8 #[v1, v2] W fun e w' => e = .returned (.bool true) ∧ ∃ n, w' = W.drewN n := by
  have hl : T'.length = T.length := by have := congrArg List.length hm; simpa using this
  refine same_any ((T' ++ [z]).map Tok.q) ((T ++ [endT]).map Tok.q) v1 v2 W (tqs_row h1 (by simp [hn1])) (tqs_row h2 (by simp [hn2])) (by simp [hl]) ?_ (by simp; omega)
  intro i ha hb
  have hi : i < T.length + 1 := by simpa using hb
  have ia : i < (T' ++ [z]).length := by simpa using ha
  have ib : i < (T ++ [endT]).length := by simpa using hb
  have key : (T ++ [endT])[i].t = (T' ++ [z])[i].t := by
    by_cases h : i < T.length
    · rw [List.getElem_append_left h, List.getElem_append_left (by omega)]
      have h3 : (T'.map (·.t))[i]? = (T.map (·.t))[i]? := by rw [hm]
      rw [List.getElem?_map, List.getElem?_map, List.getElem?_eq_getElem h, List.getElem?_eq_getElem (by omega)] at h3
      exact (Option.some.inj h3).symm
    · rw [List.getElem_append_right (by omega), List.getElem_append_right (by omega)]
      simp [hz, endT]
  simp only [List.getElem_map]
  unfold Tok.q mkTq
  rw [key]
  exact ⟨rfl, rfl, rfl⟩

/-- What the loop keeps. -/
structure BkS (w : World) (T : List Tok) (lo : Nat) (v : Value) (W : World) : Prop where
  bk : Bk T lo
  lo : lo ≤ 65000
  row : W.ownsRow w.heap.size 27 5 v T.length (cellsOf T)
  nil : T.length = 0 → v = .slice none 0 0
  bel : Below w.heap.size w W

set_option maxRecDepth 100000 in
set_option maxHeartbeats 8000000 in
theorem back_law (L : List Pc) (v : Value) (en : Bool) (w : World) (hP : Pl w v L) (hok : ∀ p ∈ L, p.Ok) (hlen : L.length ≤ 4611686018427387904) (hW : Wt w) (hK : Kw w) (hM : Mk w) (hPw : ∀ W, Below w.heap.size w W → Pw W) :
    Calls Tryd.prog 3 #[v, .bool en] w fun e w' => e = .returned (.bool true) ∧ Below w.heap.size w w' := by
  obtain ⟨a, cap, rfl, hc⟩ := hP
  obtain ⟨i27, h27, h27z, h27s, h27b⟩ := info_parts info27
  have hTok : ∀ (p : Pc) (W : World), p.Ok → Below w.heap.size w W → Calls Tryd.prog 5 #[.agg #[.int .i64 p.wh, .int .i64 p.n, .string p.tx]] W fun e w' => (∃ tk l is, e = .returned (.tuple #[tokV tk 0 0, .string (bs l), .bool is]) ∧ Pce tk l is) ∧ Below W.heap.size W w' := fun p W hp hb => token_any p W hp (hK.below hb hK.1) (hM.below hb hM.1)
  go_enter Tryd.func3, Tryd.ntmps3
  go_wp2
  go_loopw [5, 6, 7] (fun tt tl ti wr => ∃ (k lo : Nat) (T : List Tok), ti = .int .i64 (k : Int) ∧ k ≤ L.length ∧ k ≤ 4000 ∧ tl = .int .i64 (lo : Int) ∧ T.length ≤ k ∧ BkS w T lo tt wr) (fun _ _ ti _ => L.length - (intOf ti).toNat)
  case atStart => exact ⟨0, 0, [], rfl, by omega, by omega, rfl, by simp, ⟨Bk.nil, by omega, World.ownsRow_nil _ _ _ _, fun _ => rfl, Below.refl _ _⟩⟩
  case round =>
    obtain ⟨k, lo, T, rfl, hk1, hk2, rfl, hTk, hS⟩ := hrel
    by_cases hgo : k < L.length ∧ k < 4000
    · obtain ⟨hg1, hg2⟩ := hgo
      obtain ⟨g, o, rfl, hg, hcs⟩ := hc.resolve_left (by intro h; rw [h] at hg1; simp at hg1)
      obtain ⟨p0, p1, p2⟩ := hcs k hg1
      have hT : Calls Tryd.prog 5 #[.agg #[.int .i64 L[k].wh, .int .i64 L[k].n, .string L[k].tx]] wr fun e w' => (∃ kk nn xx l is, e = .returned (.tuple #[.agg #[.int .i64 kk, .int .i32 nn, .string (bs xx), .int .i64 0, .int .i64 0], .string (bs l), .bool is]) ∧ Pce ⟨kk, nn, xx⟩ l is) ∧ Below wr.heap.size wr w' := (hTok L[k] wr (hok _ (List.getElem_mem hg1)) hS.bel).mono (by
        rintro e w' ⟨⟨⟨kk, nn, xx⟩, l, is, rfl, hP⟩, hb⟩
        exact ⟨⟨kk, nn, xx, l, is, rfl, hP⟩, hb⟩)
      generalize L[k].wh = pw at *
      generalize L[k].n = pn at *
      generalize L[k].tx = pt at *
      have hp1 : ∀ W, Below w.heap.size w W → W.cell? ⟨g, o + k * 3 + 1, none⟩ = some (.int .i64 pn) := fun W hb => (hb.cell (p := ⟨g, _, none⟩) hg).trans p1
      rw [← hS.bel.cell (p := ⟨g, _, none⟩) hg] at p0 p1 p2
      have k0 : (0 : Int) ≤ (k : Int) := by omega
      have k1 : (k : Int) < (L.length : Int) := by omega
      have k2 : (k : Int) < 4000 := by omega
      clear hTok hok hcs hc
      go_upto_region 7 with (go_at_call 5; (with_reducible refine hT.mono ?_); rintro e w1 ⟨⟨kk, nn, xx, l, is, rfl, hPc⟩, hb1⟩)
      have hB1 : Below w.heap.size w (w1.alloc (.cells #[.int .i64 kk, .int .i32 nn, .string (bs xx), .int .i64 0, .int .i64 0] 27)) := (hS.bel.trans (hb1.mono hS.bel.size)).alloc (Nat.le_trans hS.bel.size hb1.size) _
      have hr1 := (own_below hS.row hb1).alloc (.cells #[.int .i64 kk, .int .i32 nn, .string (bs xx), .int .i64 0, .int .i64 0] 27)
      have hT1 : Has (w1.alloc (.cells #[.int .i64 kk, .int .i32 nn, .string (bs xx), .int .i64 0, .int .i64 0] 27)) w1.heap.size #[.int .i64 kk, .int .i32 nn, .string (bs xx), .int .i64 0, .int .i64 0] := Has.new _ _ _ rfl
      have hq1 := hp1 _ hB1
      have htb : w.heap.size ≤ w1.heap.size := Nat.le_trans hS.bel.size hb1.size
      have hgt : ¬ g = w1.heap.size := by omega
      have hlt5 : ∀ g, u5.ownBlock = some g → g < w1.heap.size := fun g hg => Nat.lt_of_lt_of_le (hS.row.lt g hg).2 hb1.size
      have hnil := hS.nil
      have hbk := hid_of hS.bk
      have hlo := hS.lo
      generalize w1.alloc (.cells #[.int .i64 kk, .int .i32 nn, .string (bs xx), .int .i64 0, .int .i64 0] 27) = W1 at hB1 hr1 hT1 hq1 ⊢
      generalize w1.heap.size = tb at hT1 htb hlt5 hgt ⊢
      have HP := hid_of hPc
      clear hS hPc hb1 hT p0 p1 p2 hp1
      have hll := HP.out.2.2.2
      have hsl := bs_sz l
      have hw64a : IntKind.i64.wrap ((lo : Int) + (l.length : Int)) = (lo : Int) + (l.length : Int) := by rw [IntKind.wrap_i64]; omega
      have hw64b : IntKind.i64.wrap ((lo : Int) + (l.length : Int) + 12) = (lo : Int) + (l.length : Int) + 12 := by rw [IntKind.wrap_i64]; omega
      obtain ⟨t0, T1, t2⟩ := id hT1
      cases is
      · go_wp2
        go_roundw
        case rel => exact ⟨k + 1, lo, T, by go_num, by omega, by omega, rfl, by omega, ⟨hbk.out, hlo, hr1, hnil, hB1⟩⟩
        case measure => simp [intOf]; omega
      · by_cases hlong : (lo : Int) + (l.length : Int) + 12 < 65000
        · have hq5 : Hid (T.length + 1 ≤ maxLen) := by show _ ≤ _; unfold maxLen; omega
          have hq6 : Hid ((T.length + 1) * 48 ≤ 140737488355328) := by show _ ≤ _; omega
          have hne5 : Value.ownBlock u5 ≠ some tb := fun h => by have := hlt5 tb h; omega
          have hMt := ((own_far (own_far hr1 (g := tb) (i := 3) hne5 (.int .i64 (k : Int))) (g := tb) (i := 4) hne5 (.int .i64 pn)).alloc (.cells #[.int .i64 kk, .int .i32 nn, .string (bs xx), .int .i64 (k : Int), .int .i64 pn] 27))
          have hB2 := ((hB1.setCell (p := ⟨tb, 3, none⟩) htb (.int .i64 (k : Int))).setCell (p := ⟨tb, 4, none⟩) htb (.int .i64 pn)).alloc (by simp [World.setCell]; exact hB1.size) (.cells #[.int .i64 kk, .int .i32 nn, .string (bs xx), .int .i64 (k : Int), .int .i64 pn] 27)
          have hbz : Hid (w.heap.size ≤ (((W1.setCell ⟨tb, 3, none⟩ (.int .i64 (k : Int))).setCell ⟨tb, 4, none⟩ (.int .i64 pn)).alloc (.cells #[.int .i64 kk, .int .i32 nn, .string (bs xx), .int .i64 (k : Int), .int .i64 pn] 27)).heap.size) := hB2.size
          go_wp2_with (at_builtin; refine wpList_append_own _ rfl _ _ 23 rfl w.heap.size 27 i27 _ 5 48 Tryd.underlying23 h27 h27z h27s h27b rfl (by decide) _ _ _ rfl hMt ⟨W1.heap.size, 0, none⟩ 1 1 [.int .i64 kk, .int .i32 nn, .string (bs xx), .int .i64 (k : Int), .int .i64 pn] rfl rfl (cells_five_at (by simp [World.setCell]) _ _ _ _ _ _) (one_five _ _ _ _ _) hq5.out hq6.out hbz.out ?_; intro v3 w3 hown3 hgrow3 hnil3)
          go_roundw
          case rel =>
            obtain ⟨m, hs, hm⟩ := spl_of (HP.out.2.1 rfl).1 (HP.out.2.1 rfl).2.1 (HP.out.2.1 rfl).2.2
            refine ⟨k + 1, lo + (l.length + 12), T ++ [⟨⟨kk, nn, xx⟩, (k : Int), pn⟩], by go_num, by omega, by omega, ?_, by simp; omega, ⟨hbk.out.snoc (x := ⟨⟨kk, nn, xx⟩, (k : Int), pn⟩) hs (by omega), by omega, ?_, fun h => absurd h (by simp), ?_⟩⟩
            · rw [show ((lo + (l.length + 12) : Nat) : Int) = (lo : Int) + (l.length : Int) + 12 by omega]
            · rw [cellsOf_snoc, List.length_append]; exact hown3
            · exact hB2.grown hgrow3 hbz.out (fun g hg => (hr1.lt g hg).1)
          case measure => simp [intOf]; omega
        · go_wp2
          go_roundw
          case rel => exact ⟨k + 1, lo, T, by go_num, by omega, by omega, rfl, by omega, ⟨hbk.out, hlo, hr1, hnil, hB1⟩⟩
          case measure => simp [intOf]; omega
    · have hngo : ¬ ((k : Int) < (L.length : Int)) ∨ ((k : Int) < (L.length : Int) ∧ ¬ ((k : Int) < 4000)) := by omega
      have hT4 : T.length ≤ 4000 := by omega
      obtain ⟨T', la, hWr, hTT⟩ := hS.bk.wrt
      have hTl : T'.length = T.length := by have := congrArg List.length hTT; simpa using this
      have hBl : (jnL (T.map Tok.q) T.length).length ≤ 65000 := Nat.le_trans hS.bk.len hS.lo
      have hSc := scan_written hWr hBl (by omega)
      have hJ0 : ∀ (W : World) (b : Nat), Below w.heap.size w W → W.ownsRow b 27 5 u5 T.length (cellsOf T) → Calls Tryd.prog 6 #[u5] W fun e w' => e = .returned (.tuple #[.string (bs (jnL (T.map Tok.q) T.length)), .int .i64 0]) ∧ Below W.heap.size W w' := fun W b hb hr => join_row hS.bk hS.lo (.inl rfl) (by rw [List.append_nil]; exact hr) (by simp) hT4 (hW.below hb hW.1) (fun X hx => hPw X (hb.trans (hx.mono hb.size)))
      have hJ1 : ∀ (W : World) (b : Nat) (v : Value), Below w.heap.size w W → W.ownsRow b 27 5 v (T.length + 1) (cellsOf T ++ [.int .i64 0, .int .i32 0, .string ⟨#[]⟩, .int .i64 0, .int .i64 0]) → Calls Tryd.prog 6 #[v] W fun e w' => e = .returned (.tuple #[.string (bs (jnL (T.map Tok.q) T.length)), .int .i64 0]) ∧ Below W.heap.size W w' := fun W b v hb hr => join_row hS.bk hS.lo (.inr rfl) (by rw [cellsOf_snoc]; exact hr) (by simp) hT4 (hW.below hb hW.1) (fun X hx => hPw X (hb.trans (hx.mono hb.size)))
      have hWt : ∀ W, Below w.heap.size w W → Wt W := fun W hb => hW.below hb hW.1
      have hq1 : Hid (T.length ≤ maxLen) := by show _ ≤ _; unfold maxLen; omega
      have hq2 : Hid (T.length * 48 ≤ 140737488355328) := by show _ ≤ _; omega
      have hq5 : Hid (T.length + 1 ≤ maxLen) := by show _ ≤ _; unfold maxLen; omega
      have hq6 : Hid ((T.length + 1) * 48 ≤ 140737488355328) := by show _ ≤ _; omega
      have hrow := hS.row
      have hnil := hid_of hS.nil
      have hbel := hS.bel
      have hbz := hS.bel.size
      have HT4 := hid_of hT4
      have HTT := hid_of hTT
      have HTl := hid_of hTl
      generalize jnL (T.map Tok.q) T.length = B at *
      generalize hLN : (behL 1 1 B).1 = LN at *
      generalize hCL : (behL 1 1 B).2 = CL at *
      clear hLN hCL hWr hTT hTl hBl hT4 hTok hok hc hS
      rcases hngo with k1 | ⟨k1, k2⟩
      all_goals
        cases en
        · go_wp2_with (first
            | (at_builtin; refine wpList_copy rfl _ _ 23 rfl w.heap.size 27 i27 _ 5 48 Tryd.underlying23 h27 h27z h27s h27b rfl (by decide) u5 T.length (cellsOf T) rfl rfl hrow hnil.out (cellsOf_one T) hq1.out hq2.out hbz ?_; intro v2 w2 hr2 hr2u hg2 hnew2; have hB2 : Below w.heap.size w w2 := hbel.grown hg2 hbz (fun g hg => by cases hg); have hB2a := hB2.alloc hB2.size (.cells #[.int .i64 0, .int .i32 0, .string ⟨#[]⟩, .int .i64 0, .int .i64 0] 27))
            | (at_builtin; refine wpList_append_own _ rfl _ _ 23 rfl w.heap.size 27 i27 _ 5 48 Tryd.underlying23 h27 h27z h27s h27b rfl (by decide) v2 T.length (cellsOf T) rfl (hr2.alloc _) ⟨w2.heap.size, 0, none⟩ 1 1 [.int .i64 0, .int .i32 0, .string ⟨#[]⟩, .int .i64 0, .int .i64 0] rfl rfl (cells_five _ _ _ _ _ _) (one_five _ _ _ _ _) hq5.out hq6.out hB2a.size ?_; intro v3 w3 hr3 hg3 hnil3; have hB3 := hB2a.grown hg3 hB2a.size (fun g hg => (hr2.lt g hg).1); have hr3u := (hr2u.alloc _).kept hg3 (by cases hu : u5.ownBlock with | none => exact .inl rfl | some g => exact .inr (fun e => by have h1 := (hrow.lt g hu).2; have h2 := hnew2 g e.symm; omega)); have hJ := hJ0 w3 _ hB3 hr3u)
            | (go_at_call 6; (with_reducible refine hJ.mono ?_); rintro e w4 ⟨rfl, hb4⟩; have hB4 := hB3.trans (hb4.mono hB3.size); have hr4 := own_below hr3 hb4; have hS4 := hSc w4 (hWt w4 hB4))
            | (go_at_call 7; (with_reducible refine hS4.mono ?_); rintro e w5 ⟨⟨gv, rfl, hg5⟩, hb5⟩; have hB5 := (hB4.trans (hb5.mono hB4.size)).alloc (Nat.le_trans hB4.size hb5.size) (.cells #[.int .i64 0, .int .i64 0, .int .i64 0] 36); have hE := same_row (hg5.alloc (.cells #[.int .i64 0, .int .i64 0, .int .i64 0] 36)) rfl (by rw [cellsOf_snoc]; exact (own_below hr4 hb5).alloc (.cells #[.int .i64 0, .int .i64 0, .int .i64 0] 36)) rfl rfl HTT.out HT4.out; have hF5 := Has.new w5 #[.int .i64 0, .int .i64 0, .int .i64 0] 36 rfl; obtain ⟨f0, F1, f2⟩ := hF5)
            | (go_at_call 8; (with_reducible refine hE.mono ?_); rintro e w6 ⟨rfl, n6, hw6⟩))
          go_ret
          exact ⟨rfl, bel_drewN hB5⟩
        · go_wp2_with (first
            | (at_builtin; refine wpList_copy rfl _ _ 23 rfl w.heap.size 27 i27 _ 5 48 Tryd.underlying23 h27 h27z h27s h27b rfl (by decide) u5 T.length (cellsOf T) rfl rfl hrow hnil.out (cellsOf_one T) hq1.out hq2.out hbz ?_; intro v2 w2 hr2 hr2u hg2 hnew2; have hB2 : Below w.heap.size w w2 := hbel.grown hg2 hbz (fun g hg => by cases hg); have hB2a := hB2.alloc hB2.size (.cells #[.int .i64 0, .int .i32 0, .string ⟨#[]⟩, .int .i64 0, .int .i64 0] 27))
            | (at_builtin; refine wpList_append_own _ rfl _ _ 23 rfl wr.heap.size 27 i27 _ 5 48 Tryd.underlying23 h27 h27z h27s h27b rfl (by decide) v2 T.length (cellsOf T) rfl (own_base (hr2.alloc _) hnew2) ⟨w2.heap.size, 0, none⟩ 1 1 [.int .i64 0, .int .i32 0, .string ⟨#[]⟩, .int .i64 0, .int .i64 0] rfl rfl (cells_five _ _ _ _ _ _) (one_five _ _ _ _ _) hq5.out hq6.out (by simp; have := hg2.size; omega) ?_; intro v3 w3 hr3 hg3 hnil3; have hB3 := hB2a.grown hg3 hB2a.size (fun g hg => (hr2.lt g hg).1); have hr3u := (hr2u.alloc (.cells #[.int .i64 0, .int .i32 0, .string ⟨#[]⟩, .int .i64 0, .int .i64 0] 27)).kept hg3 (by cases hu : u5.ownBlock with | none => exact .inl rfl | some g => exact .inr (fun e => by have h1 := (hrow.lt g hu).2; have h2 := hnew2 g e.symm; omega)); have hB3a := hB3.alloc hB3.size (.cells #[.int .i64 0, .int .i32 0, .string ⟨#[]⟩, .int .i64 0, .int .i64 0] 27))
            | (at_builtin; refine wpList_append_own _ rfl _ _ 23 rfl w.heap.size 27 i27 _ 5 48 Tryd.underlying23 h27 h27z h27s h27b rfl (by decide) u5 T.length (cellsOf T) rfl (hr3u.alloc _) ⟨w3.heap.size, 0, none⟩ 1 1 [.int .i64 0, .int .i32 0, .string ⟨#[]⟩, .int .i64 0, .int .i64 0] rfl rfl (cells_five _ _ _ _ _ _) (one_five _ _ _ _ _) hq5.out hq6.out hB3a.size ?_; intro v7 w7 hr7 hg7 hnil7; have hB7 := hB3a.grown hg7 hB3a.size (fun g hg => (hr3u.lt g hg).1); have hr7a := (hr3.alloc (.cells #[.int .i64 0, .int .i32 0, .string ⟨#[]⟩, .int .i64 0, .int .i64 0] 27)).kept hg7 (by cases hu : v3.ownBlock with | none => exact .inl rfl | some g => exact .inr (fun e => by have h1 := (hr3.lt g hu).1; have h2 := (hrow.lt g e.symm).2; omega)); have hJ := hJ1 w7 _ v7 hB7 hr7)
            | (go_at_call 6; (with_reducible refine hJ.mono ?_); rintro e w4 ⟨rfl, hb4⟩; have hB4 := hB7.trans (hb4.mono hB7.size); have hr4 := own_below hr7a hb4; have hS4 := hSc w4 (hWt w4 hB4))
            | (go_at_call 7; (with_reducible refine hS4.mono ?_); rintro e w5 ⟨⟨gv, rfl, hg5⟩, hb5⟩; have hB5 := (hB4.trans (hb5.mono hB4.size)).alloc (Nat.le_trans hB4.size hb5.size) (.cells #[.int .i64 0, .int .i64 0, .int .i64 0] 36); have hE := same_row (hg5.alloc (.cells #[.int .i64 0, .int .i64 0, .int .i64 0] 36)) rfl (by rw [cellsOf_snoc]; exact (own_below hr4 hb5).alloc (.cells #[.int .i64 0, .int .i64 0, .int .i64 0] 36)) rfl rfl HTT.out HT4.out; have hF5 := Has.new w5 #[.int .i64 0, .int .i64 0, .int .i64 0] 36 rfl; obtain ⟨f0, F1, f2⟩ := hF5)
            | (go_at_call 8; (with_reducible refine hE.mono ?_); rintro e w6 ⟨rfl, n6, hw6⟩))
          go_ret
          exact ⟨rfl, bel_drewN hB5⟩
end Go.Proofs.YtjohnhaahpggkabDoor
