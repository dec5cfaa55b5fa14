import Derived.Test.YtbgfeogigjjmdaaHxH
namespace Go.Proofs.Ytbgfeogigjjmdaa
open Go.RowKit
set_option linter.unusedVariables false

/-- The reader's struct, and what it has read. -/
def HR (w : World) (B rb : Nat) (ln : Int) (st : Rd) : Prop := ∃ dv, w.heap[rb]? = some (.cells #[.int .i64 ln, dv, .bool st.bk, .bool st.en] 39 (0, 0)) ∧ w.ownsRow B 5 1 dv st.D.length (v8 st.D) ∧ B ≤ rb ∧ (∀ x ∈ st.D, x < 256)
/-- Blocks that are no reader and no row of bytes stay. -/
def Stay (w w' : World) : Prop := ∀ (k : Nat) (o : Obj), w.heap[k]? = some o → (∀ c fr, o ≠ .cells c 39 fr) → (∀ c fr, o ≠ .cells c 5 fr) → w'.heap[k]? = some o
theorem Stay.refl (w : World) : Stay w w := fun k o h _ _ => h
theorem Stay.trans {a b c : World} (h : Stay a b) (k : Stay b c) : Stay a c := fun i o hx h1 h2 => k i o (h i o hx h1 h2) h1 h2
theorem Stay.below {w w' : World} (hb : Below w.heap.size w w') : Stay w w' := fun k o h _ _ => (hb.block k (Array.getElem?_eq_some_iff.1 h).1).trans h
theorem Stay.set {w : World} {b i : Nat} {cs : Array Value} {fr : Nat × Nat} (hb : w.heap[b]? = some (.cells cs 39 fr)) (v : Value) : Stay w (w.setCell ⟨b, i, none⟩ v) := fun k o h h1 _ => by
  refine (Below.heap_setCell _ _ _ _ (fun e => ?_)).trans h
  have e' : k = b := e
  rw [e', hb] at h
  exact h1 _ _ (Option.some.inj h).symm
theorem Stay.grown {w w' : World} {base n : Nat} {v : Value} {xs : List Value} (ho : w.ownsRow base 5 1 v n xs) (hg : w.grownBy w' v.ownBlock) : Stay w w' := fun k o h _ h2 => by
  refine (hg.block k (Array.getElem?_eq_some_iff.1 h).1 (fun e => ?_)).trans h
  rcases ho.2 with ⟨e0, _⟩ | ⟨g, cap, cur, e0, _, hh, _⟩
  · rw [e0] at e; cases e
  · rw [e0] at e
    have e1 : k = g := Option.some.inj e
    rw [e1, hh] at h
    exact h2 _ _ (Option.some.inj h).symm
theorem HR.below {w w' : World} {B rb : Nat} {ln : Int} {st : Rd} (h : HR w B rb ln st) (hb : Below w.heap.size w w') : HR w' B rb ln st := by
  obtain ⟨dv, h1, h2, h3, h4⟩ := h
  exact ⟨dv, (hb.block rb (Array.getElem?_eq_some_iff.1 h1).1).trans h1, own_only h2 (Only.of_below (S := fun _ => False) hb) (fun _ _ h => h), h3, h4⟩
theorem Has.ofHeap {w : World} {b t : Nat} {vs : Array Value} (h : w.heap[b]? = some (.cells vs t (0, 0))) : Has w b vs :=
  ⟨(Array.getElem?_eq_some_iff.1 h).1, fun i => by rw [Lib.cell_of_heap h], fun i => Lib.frozen_of_heap h i⟩
theorem own_slice' {w : World} {base e size n : Nat} {v : Value} {xs : List Value} (h : w.ownsRow base e size v n xs) : ∃ a c, v = .slice a n c := by
  rcases h.2 with ⟨h, h0⟩ | ⟨g', c', _, h, _⟩
  · exact ⟨none, 0, by rw [h, h0]⟩
  · exact ⟨_, _, h⟩
theorem drewN_size (W : World) (n : Nat) : (W.drewN n).heap.size = W.heap.size := by
  induction n with
  | zero => rfl
  | succ n ih => exact ih
theorem own_set {w : World} {base e size n b i : Nat} {v u : Value} {xs : List Value} (h : w.ownsRow base e size v n xs) (hne : v.ownBlock ≠ some b) : (w.setCell ⟨b, i, none⟩ u).ownsRow base e size v n xs :=
  h.kept (row := some b) ⟨rfl, rfl, rfl, by simp [World.setCell], fun k _ hk => Below.heap_setCell _ _ _ _ (fun e => hk (by simp [e]))⟩ (Or.inr hne)
theorem want_t (rb : Nat) (col ln : Int) (w : World) (h0 : w.cell? ⟨rb, 0, none⟩ = some (.int .i64 ln)) :
    Calls Try.prog 32 #[.pointer (some ⟨rb, 0, none⟩), .bool true, .int .i64 col] w fun e w' => e = .returned (.tuple #[]) ∧ w = w' := (want_any rb true col ln w h0).mono fun e w' h => ⟨by simpa using h.1, h.2⟩
theorem want_f (rb : Nat) (col ln : Int) (w : World) (h0 : w.cell? ⟨rb, 0, none⟩ = some (.int .i64 ln)) :
    Calls Try.prog 32 #[.pointer (some ⟨rb, 0, none⟩), .bool false, .int .i64 col] w fun e w' => e = pan 106 ln col ∧ w = w' := (want_any rb false col ln w h0).mono fun e w' h => ⟨by simpa using h.1, h.2⟩
def RdP (o : Except Flt Rd) (ln : Int) (B rb : Nat) (e : Ending) (w' : World) : Prop := match o with
  | .error (c, col) => e = pan (c : Nat) ln (col : Nat)
  | .ok st => e = .returned (.tuple #[]) ∧ HR w' B rb ln st

set_option maxRecDepth 100000 in
set_option maxHeartbeats 2000000 in
theorem takeData_any (B rb : Nat) (ln : Int) (st : Rd) (kind address g cap : Nat) (d : List Nat) (w : World) (hR : HR w B rb ln st) (hd : Bs w (some ⟨g, 4, none⟩) d) (hdl : d.length ≤ 255) (hcap : d.length ≤ cap) (hD : st.D.length ≤ 1048576) (hBw : B ≤ w.heap.size) :
    Calls Try.prog 31 #[.pointer (some ⟨rb, 0, none⟩), .agg #[.int .u8 (kind : Int), .int .i64 (address : Int), .slice (some ⟨g, 4, none⟩) d.length cap]] w fun e w' => RdP (datF st address d) ln B rb e w' ∧ Below B w w' ∧ Stay w w' := by
  have hE1 : Below w.heap.size w (w.alloc (.cells #[.int .u8 (kind : Int), .int .i64 (address : Int), .slice (some ⟨g, 4, none⟩) d.length cap] 75)) := (Below.refl _ _).alloc (Nat.le_refl _) _
  have hR1 := hR.below hE1
  obtain ⟨dv, hh, hown, hBr, h256⟩ := hR1
  obtain ⟨da, dc, rfl⟩ := own_slice' hown
  have hrl := (Array.getElem?_eq_some_iff.1 hh).1
  have hHr := Has.ofHeap hh
  have c0 : (w.alloc (.cells #[.int .u8 (kind : Int), .int .i64 (address : Int), .slice (some ⟨g, 4, none⟩) d.length cap] 75)).cell? ⟨rb, 0, none⟩ = some (.int .i64 ln) := hHr.2.1 0
  have c1 : (w.alloc (.cells #[.int .u8 (kind : Int), .int .i64 (address : Int), .slice (some ⟨g, 4, none⟩) d.length cap] 75)).cell? ⟨rb, 1, none⟩ = some (.slice da st.D.length dc) := hHr.2.1 1
  have c2 : (w.alloc (.cells #[.int .u8 (kind : Int), .int .i64 (address : Int), .slice (some ⟨g, 4, none⟩) d.length cap] 75)).cell? ⟨rb, 2, none⟩ = some (.bool st.bk) := hHr.2.1 2
  have hT := fun col => want_t rb col ln _ c0
  have hF := fun col => want_f rb col ln _ c0
  have hG := fun c col => giveUp_any rb c col ln _ c0
  have hBB : Below B w (w.alloc (.cells #[.int .u8 (kind : Int), .int .i64 (address : Int), .slice (some ⟨g, 4, none⟩) d.length cap] 75)) := hE1.mono hBw
  have hSt : Stay w (w.alloc (.cells #[.int .u8 (kind : Int), .int .i64 (address : Int), .slice (some ⟨g, 4, none⟩) d.length cap] 75)) := Stay.below hE1
  have hd1 := hd.below hE1
  unfold datF
  have hF4 := hF 4
  have hT4 := hT 4
  have hGW := fun W (h : W.cell? ⟨rb, 0, none⟩ = some (.int .i64 ln)) c col => giveUp_any rb c col ln W h
  have hst : Hid (HR (w.alloc (.cells #[.int .u8 (kind : Int), .int .i64 (address : Int), .slice (some ⟨g, 4, none⟩) d.length cap] 75)) B rb ln st) := ⟨_, hh, hown, hBr, h256⟩
  by_cases h1 : address = st.D.length % 65536
  · rw [if_neg (by simpa using h1)]
    have h1' : (((address : Int)) == (st.D.length : Int) % 65536) = true := by rw [beq_iff_eq]; omega
    by_cases h2 : 65536 < st.D.length % 65536 + d.length
    · rw [if_pos h2]
      have h2' : decide ((st.D.length : Int) % 65536 + (d.length : Int) ≤ 65536) = false := decide_eq_false (by omega)
      clear h1 h2
      generalize st.D.length = n at *
      generalize d.length = m at *
      go_enter Try.func31, Try.ntmps31
      go_wp2_with (first | (go_at_call 32; (with_reducible refine Calls.mono hT4 ?_); rintro e w2 ⟨rfl, rfl⟩) | (go_at_call 32; (with_reducible refine Calls.mono hF4 ?_); rintro e w2 ⟨rfl, rfl⟩))
      try simp only [Exit.inBlock, Exit.then]
      exact ⟨rfl, rfl, hBB, hSt⟩
    · rw [if_neg h2]
      have h2' : decide ((st.D.length : Int) % 65536 + (d.length : Int) ≤ 65536) = true := decide_eq_true (by omega)
      by_cases h3 : d.length = 0
      · rw [if_pos h3]
        have h3' : (((d.length : Int)) == 0) = true := by rw [beq_iff_eq]; omega
        have hst' := hst
        clear h1 h2 h3 hst hh hHr hown
        generalize st.D.length = n at *
        generalize d.length = m at *
        go_enter Try.func31, Try.ntmps31
        go_wp2_with (first | (go_at_call 32; (with_reducible refine Calls.mono hT4 ?_); rintro e w2 ⟨rfl, rfl⟩) | (go_at_call 32; (with_reducible refine Calls.mono hF4 ?_); rintro e w2 ⟨rfl, rfl⟩))
        refine bodyPost_ret (results_none rfl _ _ _) rfl ?_
        exact ⟨⟨rfl, hst'⟩, hBB, hSt⟩
      · rw [if_neg h3]
        have h3' : (((d.length : Int)) == 0) = false := by rw [beq_eq_false_iff_ne]; omega
        by_cases h4 : ¬ (0 < st.D.length % 65536) ∧ ¬ st.D.length = 0 ∧ st.bk = false
        · rw [if_pos h4]
          have h4' : decide ((0 : Int) < (st.D.length : Int) % 65536) = false := decide_eq_false (by omega)
          have h4'' : (((st.D.length : Int)) == 0) = false := by rw [beq_eq_false_iff_ne]; omega
          have hbk := h4.2.2
          rw [hbk] at c2
          clear h1 h2 h3 h4 hst hbk
          generalize st.D.length = n at *
          generalize d.length = m at *
          go_enter Try.func31, Try.ntmps31
          go_wp2_with (first | (go_at_call 32; (with_reducible refine Calls.mono hT4 ?_); rintro e w2 ⟨rfl, rfl⟩) | (go_at_call 32; (with_reducible refine Calls.mono hF4 ?_); rintro e w2 ⟨rfl, rfl⟩))
          try simp only [Exit.inBlock, Exit.then]
          exact ⟨rfl, rfl, hBB, hSt⟩
        · rw [if_neg h4]
          by_cases h5 : 1048576 < st.D.length + d.length
          · rw [if_pos h5]
            have h5' : (1048576 : Int) < (st.D.length : Int) + (d.length : Int) := by omega
            by_cases h41 : 0 < st.D.length % 65536
            · have h41' : decide ((0 : Int) < (st.D.length : Int) % 65536) = true := decide_eq_true (by omega)
              try clear h42
              clear h1 h2 h3 h4 h5 h41 hst
              try clear hbk
              generalize st.D.length = n at *
              generalize d.length = m at *
              go_enter Try.func31, Try.ntmps31
              go_wp2_with (first | (go_at_call 32; (with_reducible refine Calls.mono hT4 ?_); rintro e w2 ⟨rfl, rfl⟩) | (go_at_call 32; (with_reducible refine Calls.mono hF4 ?_); rintro e w2 ⟨rfl, rfl⟩))
              go_quiet (fail)
              have c0N := (drewN_cell _ nq _).trans c0
              go_wp2_with (go_at_call 29; (with_reducible refine Calls.mono (hGW _ c0N 100 1) ?_); rintro e w2 ⟨rfl, rfl⟩)
              try simp only [Exit.inBlock, Exit.then]
              exact ⟨rfl, rfl, bel_drewN hBB, hSt.trans (Stay.below (bel_drewN (Below.refl _ _)))⟩
            · have h41' : decide ((0 : Int) < (st.D.length : Int) % 65536) = false := decide_eq_false (by omega)
              by_cases h42 : st.D.length = 0
              · have h42' : (((st.D.length : Int)) == 0) = true := by rw [beq_iff_eq]; omega
                try clear h42
                clear h1 h2 h3 h4 h5 h41 hst
                try clear hbk
                generalize st.D.length = n at *
                generalize d.length = m at *
                go_enter Try.func31, Try.ntmps31
                go_wp2_with (first | (go_at_call 32; (with_reducible refine Calls.mono hT4 ?_); rintro e w2 ⟨rfl, rfl⟩) | (go_at_call 32; (with_reducible refine Calls.mono hF4 ?_); rintro e w2 ⟨rfl, rfl⟩))
                go_quiet (fail)
                have c0N := (drewN_cell _ nq _).trans c0
                go_wp2_with (go_at_call 29; (with_reducible refine Calls.mono (hGW _ c0N 100 1) ?_); rintro e w2 ⟨rfl, rfl⟩)
                try simp only [Exit.inBlock, Exit.then]
                exact ⟨rfl, rfl, bel_drewN hBB, hSt.trans (Stay.below (bel_drewN (Below.refl _ _)))⟩
              · have h42' : (((st.D.length : Int)) == 0) = false := by rw [beq_eq_false_iff_ne]; omega
                have hbk : st.bk = true := by
                  cases hb : st.bk
                  · exact absurd ⟨h41, h42, hb⟩ h4
                  · rfl
                rw [hbk] at c2
                try clear h42
                clear h1 h2 h3 h4 h5 h41 hst
                try clear hbk
                generalize st.D.length = n at *
                generalize d.length = m at *
                go_enter Try.func31, Try.ntmps31
                go_wp2_with (first | (go_at_call 32; (with_reducible refine Calls.mono hT4 ?_); rintro e w2 ⟨rfl, rfl⟩) | (go_at_call 32; (with_reducible refine Calls.mono hF4 ?_); rintro e w2 ⟨rfl, rfl⟩))
                go_quiet (fail)
                have c0N := (drewN_cell _ nq _).trans c0
                go_wp2_with (go_at_call 29; (with_reducible refine Calls.mono (hGW _ c0N 100 1) ?_); rintro e w2 ⟨rfl, rfl⟩)
                try simp only [Exit.inBlock, Exit.then]
                exact ⟨rfl, rfl, bel_drewN hBB, hSt.trans (Stay.below (bel_drewN (Below.refl _ _)))⟩
          · rw [if_neg h5]
            have h5' : ¬ (1048576 : Int) < (st.D.length : Int) + (d.length : Int) := by omega
            by_cases h41 : 0 < st.D.length % 65536
            · have h41' : decide ((0 : Int) < (st.D.length : Int) % 65536) = true := decide_eq_true (by omega)
              have hmp : 0 < d.length := by omega
              try clear h42
              clear h1 h2 h3 h4 h5 h41 hst
              try clear hbk
              generalize hn0 : st.D.length = n at *
              generalize hm0 : d.length = m at *
              have hn : Hid (st.D.length = n) := hn0
              have hm : Hid (d.length = m) := hm0
              clear hn0 hm0
              have hq1 : Hid (n + m ≤ maxLen) := by show _ ≤ _; unfold maxLen; omega
              have hbk1 : (w.alloc (.cells #[.int .u8 (kind : Int), .int .i64 (address : Int), .slice (some ⟨g, 4, none⟩) m cap] 75)).heap[w.heap.size]? = some (.cells #[.int .u8 (kind : Int), .int .i64 (address : Int), .slice (some ⟨g, 4, none⟩) m cap] 75) := heap_alloc_new w _
              have hrb : rb ≠ w.heap.size := by intro e; rw [e, hbk1] at hh; cases hh
              have hne9 : (Value.slice da n dc).ownBlock ≠ some rb := Lib.ownBlock_ne hown hh (by decide)
              have hneb : (Value.slice da n dc).ownBlock ≠ some w.heap.size := Lib.ownBlock_ne hown hbk1 (by decide)
              obtain ⟨i5, hi, hz0, hz1, hz2⟩ := info_parts info5
              go_enter Try.func31, Try.ntmps31
              go_wp2_with (first | (go_at_call 32; (with_reducible refine Calls.mono hT4 ?_); rintro e w2 ⟨rfl, rfl⟩) | (go_at_call 32; (with_reducible refine Calls.mono hF4 ?_); rintro e w2 ⟨rfl, rfl⟩))
              go_quiet (fail)
              go_upto_region 8 with fail
              have hEV : Below (w.alloc (.cells #[.int .u8 (kind : Int), .int .i64 (address : Int), .slice (some ⟨g, 4, none⟩) m cap] 75)).heap.size (w.alloc (.cells #[.int .u8 (kind : Int), .int .i64 (address : Int), .slice (some ⟨g, 4, none⟩) m cap] 75)) ((w.alloc (.cells #[.int .u8 (kind : Int), .int .i64 (address : Int), .slice (some ⟨g, 4, none⟩) m cap] 75)).drewN nq) := bel_drewN (Below.refl _ _)
              have hhV := (hEV.block rb hrl).trans hh
              have hownV := own_only hown (Only.of_below (S := fun _ => False) hEV) (fun _ _ h => h)
              have hbkV := (hEV.block w.heap.size (by simp)).trans hbk1
              have hdV := hd1.below hEV
              have hBV : Below B w ((w.alloc (.cells #[.int .u8 (kind : Int), .int .i64 (address : Int), .slice (some ⟨g, 4, none⟩) m cap] 75)).drewN nq) := bel_drewN hBB
              have hSV : Stay w ((w.alloc (.cells #[.int .u8 (kind : Int), .int .i64 (address : Int), .slice (some ⟨g, 4, none⟩) m cap] 75)).drewN nq) := hSt.trans (Stay.below hEV)
              have hsV : w.heap.size < ((w.alloc (.cells #[.int .u8 (kind : Int), .int .i64 (address : Int), .slice (some ⟨g, 4, none⟩) m cap] 75)).drewN nq).heap.size := (Array.getElem?_eq_some_iff.1 hbkV).1
              clear c0 c1 c2 hT hF hG hGW hT4 hF4 hd1 hBB hSt hEV hh hown hbk1 hHr hrl hE1
              generalize (w.alloc (.cells #[.int .u8 (kind : Int), .int .i64 (address : Int), .slice (some ⟨g, 4, none⟩) m cap] 75)).drewN nq = V at *
              have hBsz : B ≤ V.drew.heap.size := by show B ≤ V.heap.size; omega
              have hboxV : V.drew.cell? ⟨w.heap.size, 2, none⟩ = some (.slice (some ⟨g, 4, none⟩) m cap) := by
                rw [Lib.cell_of_heap (w := V.drew) hbkV]; rfl
              have c1V : V.cell? ⟨rb, 1, none⟩ = some (.slice da n dc) := (Has.ofHeap hhV).2.1 1
              have hnewsV : ∀ j u, (v8 d)[j]? = some u → V.drew.cell? ((⟨g, 4, none⟩ : Addr).add j) = some u := by
                intro j u hj
                have hjl : j < d.length := by
                  have := (List.getElem?_eq_some_iff.1 hj).1
                  rwa [v8_len] at this
                obtain ⟨gb, go, e, _, hc⟩ := hdV.cell (by omega)
                cases e
                rw [v8_get d j hjl] at hj
                rw [Go.WideShapes.add_plain, ← hj]
                exact hc j hjl
              have hnewsV' := hnewsV
              clear hnewsV
              have hnewsV : ∀ j u, (v8 d)[j]? = some u → V.drew.cell? ((⟨g, 4, none⟩ : Addr).add j) = some u := hnewsV'
              clear hnewsV'
              refine wp_region_noPanic ?_
              refine wp_region_held_drew (S := fun w' => w'.cell? ⟨w.heap.size, 2, none⟩ = some (.slice (some ⟨g, 4, none⟩) m cap)) (by kernel_rfl) ?_ (fun hHeld => ?_)
              · (try dsimp only)
                exact hboxV
              refine wpAnyH_take (i := 0) (oi := { dst := some 59, op := Op.move (Operand.tmp 0), type := 37, pos := "hexreader.go:97", after := #[], guard := none }) (v := ?_) rfl (by kernel_rfl) (by kernel_rfl) (by kernel_rfl) (fun _ _ _ h => h) (Or.inl ⟨by rfl, ?_⟩) (by assumption) ?_
              rotate_left
              · intro wz hSz; (try dsimp only at hSz); go_simp; all_goals (with_reducible rfl)
              (try simp only [Act.put, List.setIfInBounds_toArray, List.set_cons_zero, List.set_cons_succ])
              refine wpAnyH_take (i := 1) (oi := { dst := some 60, op := Op.move (Operand.tmp 0), type := 37, pos := "hexreader.go:97", after := #[], guard := none }) (v := ?_) rfl (by kernel_rfl) (by kernel_rfl) (by kernel_rfl) (fun _ _ _ h => h) (Or.inl ⟨by rfl, ?_⟩) (by assumption) ?_
              rotate_left
              · intro wz hSz; (try dsimp only at hSz); go_simp; all_goals (with_reducible rfl)
              (try simp only [Act.put, List.setIfInBounds_toArray, List.set_cons_zero, List.set_cons_succ])
              refine wpAnyH_take (i := 2) (oi := { dst := some 61, op := Op.nilCheck (Operand.tmp 60), type := 0, pos := "hexreader.go:97", after := #[{ on := 1, ground := Ground.data }], guard := none }) (v := ?_) rfl (by kernel_rfl) (by kernel_rfl) (by kernel_rfl) (fun _ _ _ h => h) (Or.inl ⟨by rfl, ?_⟩) (by assumption) ?_
              rotate_left
              · intro wz hSz; (try dsimp only at hSz); go_simp; all_goals (with_reducible rfl)
              (try simp only [Act.put, List.setIfInBounds_toArray, List.set_cons_zero, List.set_cons_succ])
              refine wpAnyH_take (i := 3) (oi := { dst := some 62, op := Op.fieldAddr 39 (Operand.tmp 61) 1, type := 0, pos := "hexreader.go:97", after := #[{ on := 2, ground := Ground.data }], guard := none }) (v := ?_) rfl (by kernel_rfl) (by kernel_rfl) (by kernel_rfl) (fun _ _ _ h => h) (Or.inl ⟨by rfl, ?_⟩) (by assumption) ?_
              rotate_left
              · intro wz hSz; (try dsimp only at hSz); go_simp; all_goals (with_reducible rfl)
              (try simp only [Act.put, List.setIfInBounds_toArray, List.set_cons_zero, List.set_cons_succ])
              refine wpAnyH_take (i := 5) (oi := { dst := some 64, op := Op.fieldAddr 75 (Operand.tmp 3) 2, type := 0, pos := "hexreader.go:97", after := #[], guard := none }) (v := ?_) rfl (by kernel_rfl) (by kernel_rfl) (by kernel_rfl) (fun _ _ _ h => h) (Or.inl ⟨by rfl, ?_⟩) (by assumption) ?_
              rotate_left
              · intro wz hSz; (try dsimp only at hSz); go_simp; all_goals (with_reducible rfl)
              (try simp only [Act.put, List.setIfInBounds_toArray, List.set_cons_zero, List.set_cons_succ])
              refine wpAnyH_take (i := 6) (oi := { dst := some 65, op := Op.load 22 (Operand.tmp 64), type := 22, pos := "hexreader.go:97", after := #[{ on := 5, ground := Ground.data }], guard := none }) (v := ?_) rfl (by kernel_rfl) (by kernel_rfl) (by kernel_rfl) (fun _ _ _ h => h) (Or.inl ⟨by rfl, ?_⟩) (by assumption) ?_
              rotate_left
              · intro wz hSz; (try dsimp only at hSz); go_simp; all_goals (with_reducible rfl)
              (try simp only [Act.put, List.setIfInBounds_toArray, List.set_cons_zero, List.set_cons_succ])
              refine wpAnyH_ready (rs := [4]) (by kernel_rfl) (by simp) ?_
              refine AllReadyH.cons (o := { dst := some 63, op := Op.load 22 (Operand.tmp 62), type := 22, pos := "hexreader.go:97", after := #[{ on := 3, ground := Ground.data }], guard := none }) rfl (fun K hK => ?_) AllReadyH.nil
              go_simp
              refine hK.out _ _ ?_ (fun hHeld => ?_)
              · (try dsimp only)
                exact hHeld
              clear hK K
              (try simp only [Act.put, List.setIfInBounds_toArray, List.set_cons_zero, List.set_cons_succ])
              refine wpAnyH_ready (rs := [7]) (by kernel_rfl) (by simp) ?_
              refine AllReadyH.cons (o := { dst := some 66, op := Op.call { callee := Callee.builtin Builtin.append, args := #[Operand.tmp 63, Operand.tmp 65], argTypes := #[22, 22] }, type := 22, pos := "hexreader.go:97", after := #[{ on := 4, ground := Ground.data }, { on := 6, ground := Ground.data }], guard := none }) rfl (fun K hK => ?_) AllReadyH.nil
              refine step_append_lies _ rfl _ _ 22 rfl B 5 i5 _ 1 1 Try.underlying22 hi hz0 hz1 hz2 rfl (by decide) (.slice da n dc) n (v8 st.D) rfl hownV.drew ⟨g, 4, none⟩ m cap (v8 d) rfl (by rw [v8_len, hm.out]; omega) hnewsV (v8_one d) (by omega) hq1.out (by omega) hBsz _ rfl ?_
              intro g9 c9 w9 own9 hg9 hat9 hlt9
              have hb9 : w9.heap[w.heap.size]? = some (.cells #[.int .u8 (kind : Int), .int .i64 (address : Int), .slice (some ⟨g, 4, none⟩) m cap] 75) := (hg9.block w.heap.size hsV (fun e => hneb e.symm)).trans hbkV
              have hh9 : w9.heap[rb]? = some (.cells #[.int .i64 ln, .slice da n dc, .bool st.bk, .bool st.en] 39 (0, 0)) := (hg9.block rb (Array.getElem?_eq_some_iff.1 hhV).1 (fun e => hne9 e.symm)).trans hhV
              refine hK.out _ _ ?_ (fun hHeld => ?_)
              · (try dsimp only)
                rw [Lib.cell_of_heap hb9]; rfl
              clear hK K
              (try simp only [Act.put, List.setIfInBounds_toArray, List.set_cons_zero, List.set_cons_succ])
              refine wpAnyH_take (i := 8) (oi := { dst := some 67, op := Op.nilCheck (Operand.tmp 59), type := 0, pos := "hexreader.go:97", after := #[{ on := 0, ground := Ground.data }, { on := 0, ground := Ground.phase }, { on := 1, ground := Ground.phase }, { on := 2, ground := Ground.phase }, { on := 3, ground := Ground.phase }, { on := 4, ground := Ground.phase }, { on := 5, ground := Ground.phase }, { on := 6, ground := Ground.phase }, { on := 7, ground := Ground.phase }], guard := none }) (v := ?_) rfl (by kernel_rfl) (by kernel_rfl) (by kernel_rfl) (fun _ _ _ h => h) (Or.inl ⟨by rfl, ?_⟩) (by assumption) ?_
              rotate_left
              · intro wz hSz; (try dsimp only at hSz); go_simp; all_goals (with_reducible rfl)
              (try simp only [Act.put, List.setIfInBounds_toArray, List.set_cons_zero, List.set_cons_succ])
              refine wpAnyH_take (i := 9) (oi := { dst := some 68, op := Op.fieldAddr 39 (Operand.tmp 67) 1, type := 0, pos := "hexreader.go:97", after := #[{ on := 8, ground := Ground.data }, { on := 0, ground := Ground.phase }, { on := 1, ground := Ground.phase }, { on := 2, ground := Ground.phase }, { on := 3, ground := Ground.phase }, { on := 4, ground := Ground.phase }, { on := 5, ground := Ground.phase }, { on := 6, ground := Ground.phase }, { on := 7, ground := Ground.phase }], guard := none }) (v := ?_) rfl (by kernel_rfl) (by kernel_rfl) (by kernel_rfl) (fun _ _ _ h => h) (Or.inl ⟨by rfl, ?_⟩) (by assumption) ?_
              rotate_left
              · intro wz hSz; (try dsimp only at hSz); go_simp; all_goals (with_reducible rfl)
              (try simp only [Act.put, List.setIfInBounds_toArray, List.set_cons_zero, List.set_cons_succ])
              refine wpAnyH_ready (rs := [10]) (by kernel_rfl) (by simp) ?_
              refine AllReadyH.cons (o := { dst := none, op := Op.store 22 (Operand.tmp 68) (Operand.tmp 66), type := 0, pos := "hexreader.go:97", after := #[{ on := 9, ground := Ground.data }, { on := 7, ground := Ground.data }, { on := 7, ground := Ground.chain }, { on := 0, ground := Ground.phase }, { on := 1, ground := Ground.phase }, { on := 2, ground := Ground.phase }, { on := 3, ground := Ground.phase }, { on := 4, ground := Ground.phase }, { on := 5, ground := Ground.phase }, { on := 6, ground := Ground.phase }, { on := 7, ground := Ground.phase }], guard := none }) rfl (fun K hK => ?_) AllReadyH.nil
              have u1 : w9.cell? ⟨rb, 1, none⟩ = some (.slice da n dc) := (Has.ofHeap hh9).2.1 1
              have v1 := (Has.ofHeap hh9).2.2 1
              go_simp
              refine hK.out _ _ ?_ (fun hHeld => ?_)
              · (try dsimp only)
                exact (World.cell?_setCell_other _ _ _ _ (by intro e; exact hrb (congrArg Addr.block e))).trans hHeld
              clear hK K
              (try simp only [Act.put, List.setIfInBounds_toArray, List.set_cons_zero, List.set_cons_succ])
              refine wpAnyH_done (by kernel_rfl) ?_ _
              refine NoPanic.normal ?_
              clear hHeld
              have hg9rb : g9 ≠ rb := by
                rcases hat9 with h | h
                · intro e; rw [e] at h; exact hne9 h
                · have h' : g9 = V.heap.size := h
                  have := (Array.getElem?_eq_some_iff.1 hhV).1
                  omega
              have hh10 : (w9.setCell ⟨rb, 1, none⟩ (.slice (some ⟨g9, 0, none⟩) (n + m) c9)).heap[rb]? = some (.cells #[.int .i64 ln, .slice (some ⟨g9, 0, none⟩) (n + m) c9, .bool st.bk, .bool st.en] 39 (0, 0)) := by
                rw [heap_setCell_same w9 rb 1 _ 39 _ hh9]; rfl
              have x2 : (w9.setCell ⟨rb, 1, none⟩ (.slice (some ⟨g9, 0, none⟩) (n + m) c9)).cell? ⟨rb, 2, none⟩ = some (.bool st.bk) := (Has.ofHeap hh10).2.1 2
              have y2 := (Has.ofHeap hh10).2.2 2
              have own10 := own_set (i := 1) (u := .slice (some ⟨g9, 0, none⟩) (n + m) c9) own9 (b := rb) (fun e => hg9rb (Option.some.inj e))
              have hB10 : Below B w (w9.setCell ⟨rb, 1, none⟩ (.slice (some ⟨g9, 0, none⟩) (n + m) c9)) := ((hBV.drew.grown hg9 hBsz (fun k hk => (own_lt hownV k hk).1)).setCell (p := ⟨rb, 1, none⟩) hBr _)
              have hS10 : Stay w (w9.setCell ⟨rb, 1, none⟩ (.slice (some ⟨g9, 0, none⟩) (n + m) c9)) := ((hSV.trans (Stay.below (Below.refl _ _).drew)).trans (Stay.grown hownV.drew hg9)).trans (Stay.set hh9 _)
              generalize w9.setCell ⟨rb, 1, none⟩ (.slice (some ⟨g9, 0, none⟩) (n + m) c9) = Z at *
              have hh11 : (Z.setCell ⟨rb, 2, none⟩ (.bool false)).heap[rb]? = some (.cells #[.int .i64 ln, .slice (some ⟨g9, 0, none⟩) (n + m) c9, .bool false, .bool st.en] 39 (0, 0)) := by
                rw [heap_setCell_same Z rb 2 _ 39 _ hh10]; rfl
              have own11 := own_set (i := 2) (u := .bool false) own10 (b := rb) (fun e => hg9rb (Option.some.inj e))
              go_wp2
              go_end0
              refine ⟨⟨rfl, .slice (some ⟨g9, 0, none⟩) (n + m) c9, hh11, ?_, hBr, fun x hx => ?_⟩, hB10.setCell (p := ⟨rb, 2, none⟩) hBr _, hS10.trans (Stay.set hh10 _)⟩
              · show World.ownsRow _ _ _ _ _ (st.D ++ d).length (v8 (st.D ++ d))
                rw [List.length_append, hn.out, hm.out, v8_app]; exact own11
              · rcases List.mem_append.1 hx with h | h
                · exact h256 x h
                · exact hdV.1 x h
            · have h41' : decide ((0 : Int) < (st.D.length : Int) % 65536) = false := decide_eq_false (by omega)
              by_cases h42 : st.D.length = 0
              · have h42' : (((st.D.length : Int)) == 0) = true := by rw [beq_iff_eq]; omega
                have hmp : 0 < d.length := by omega
                try clear h42
                clear h1 h2 h3 h4 h5 h41 hst
                try clear hbk
                generalize hn0 : st.D.length = n at *
                generalize hm0 : d.length = m at *
                have hn : Hid (st.D.length = n) := hn0
                have hm : Hid (d.length = m) := hm0
                clear hn0 hm0
                have hq1 : Hid (n + m ≤ maxLen) := by show _ ≤ _; unfold maxLen; omega
                have hbk1 : (w.alloc (.cells #[.int .u8 (kind : Int), .int .i64 (address : Int), .slice (some ⟨g, 4, none⟩) m cap] 75)).heap[w.heap.size]? = some (.cells #[.int .u8 (kind : Int), .int .i64 (address : Int), .slice (some ⟨g, 4, none⟩) m cap] 75) := heap_alloc_new w _
                have hrb : rb ≠ w.heap.size := by intro e; rw [e, hbk1] at hh; cases hh
                have hne9 : (Value.slice da n dc).ownBlock ≠ some rb := Lib.ownBlock_ne hown hh (by decide)
                have hneb : (Value.slice da n dc).ownBlock ≠ some w.heap.size := Lib.ownBlock_ne hown hbk1 (by decide)
                obtain ⟨i5, hi, hz0, hz1, hz2⟩ := info_parts info5
                go_enter Try.func31, Try.ntmps31
                go_wp2_with (first | (go_at_call 32; (with_reducible refine Calls.mono hT4 ?_); rintro e w2 ⟨rfl, rfl⟩) | (go_at_call 32; (with_reducible refine Calls.mono hF4 ?_); rintro e w2 ⟨rfl, rfl⟩))
                go_quiet (fail)
                go_upto_region 8 with fail
                have hEV : Below (w.alloc (.cells #[.int .u8 (kind : Int), .int .i64 (address : Int), .slice (some ⟨g, 4, none⟩) m cap] 75)).heap.size (w.alloc (.cells #[.int .u8 (kind : Int), .int .i64 (address : Int), .slice (some ⟨g, 4, none⟩) m cap] 75)) ((w.alloc (.cells #[.int .u8 (kind : Int), .int .i64 (address : Int), .slice (some ⟨g, 4, none⟩) m cap] 75)).drewN nq) := bel_drewN (Below.refl _ _)
                have hhV := (hEV.block rb hrl).trans hh
                have hownV := own_only hown (Only.of_below (S := fun _ => False) hEV) (fun _ _ h => h)
                have hbkV := (hEV.block w.heap.size (by simp)).trans hbk1
                have hdV := hd1.below hEV
                have hBV : Below B w ((w.alloc (.cells #[.int .u8 (kind : Int), .int .i64 (address : Int), .slice (some ⟨g, 4, none⟩) m cap] 75)).drewN nq) := bel_drewN hBB
                have hSV : Stay w ((w.alloc (.cells #[.int .u8 (kind : Int), .int .i64 (address : Int), .slice (some ⟨g, 4, none⟩) m cap] 75)).drewN nq) := hSt.trans (Stay.below hEV)
                have hsV : w.heap.size < ((w.alloc (.cells #[.int .u8 (kind : Int), .int .i64 (address : Int), .slice (some ⟨g, 4, none⟩) m cap] 75)).drewN nq).heap.size := (Array.getElem?_eq_some_iff.1 hbkV).1
                clear c0 c1 c2 hT hF hG hGW hT4 hF4 hd1 hBB hSt hEV hh hown hbk1 hHr hrl hE1
                generalize (w.alloc (.cells #[.int .u8 (kind : Int), .int .i64 (address : Int), .slice (some ⟨g, 4, none⟩) m cap] 75)).drewN nq = V at *
                have hBsz : B ≤ V.drew.heap.size := by show B ≤ V.heap.size; omega
                have hboxV : V.drew.cell? ⟨w.heap.size, 2, none⟩ = some (.slice (some ⟨g, 4, none⟩) m cap) := by
                  rw [Lib.cell_of_heap (w := V.drew) hbkV]; rfl
                have c1V : V.cell? ⟨rb, 1, none⟩ = some (.slice da n dc) := (Has.ofHeap hhV).2.1 1
                have hnewsV : ∀ j u, (v8 d)[j]? = some u → V.drew.cell? ((⟨g, 4, none⟩ : Addr).add j) = some u := by
                  intro j u hj
                  have hjl : j < d.length := by
                    have := (List.getElem?_eq_some_iff.1 hj).1
                    rwa [v8_len] at this
                  obtain ⟨gb, go, e, _, hc⟩ := hdV.cell (by omega)
                  cases e
                  rw [v8_get d j hjl] at hj
                  rw [Go.WideShapes.add_plain, ← hj]
                  exact hc j hjl
                have hnewsV' := hnewsV
                clear hnewsV
                have hnewsV : ∀ j u, (v8 d)[j]? = some u → V.drew.cell? ((⟨g, 4, none⟩ : Addr).add j) = some u := hnewsV'
                clear hnewsV'
                refine wp_region_noPanic ?_
                refine wp_region_held_drew (S := fun w' => w'.cell? ⟨w.heap.size, 2, none⟩ = some (.slice (some ⟨g, 4, none⟩) m cap)) (by kernel_rfl) ?_ (fun hHeld => ?_)
                · (try dsimp only)
                  exact hboxV
                refine wpAnyH_take (i := 0) (oi := { dst := some 59, op := Op.move (Operand.tmp 0), type := 37, pos := "hexreader.go:97", after := #[], guard := none }) (v := ?_) rfl (by kernel_rfl) (by kernel_rfl) (by kernel_rfl) (fun _ _ _ h => h) (Or.inl ⟨by rfl, ?_⟩) (by assumption) ?_
                rotate_left
                · intro wz hSz; (try dsimp only at hSz); go_simp; all_goals (with_reducible rfl)
                (try simp only [Act.put, List.setIfInBounds_toArray, List.set_cons_zero, List.set_cons_succ])
                refine wpAnyH_take (i := 1) (oi := { dst := some 60, op := Op.move (Operand.tmp 0), type := 37, pos := "hexreader.go:97", after := #[], guard := none }) (v := ?_) rfl (by kernel_rfl) (by kernel_rfl) (by kernel_rfl) (fun _ _ _ h => h) (Or.inl ⟨by rfl, ?_⟩) (by assumption) ?_
                rotate_left
                · intro wz hSz; (try dsimp only at hSz); go_simp; all_goals (with_reducible rfl)
                (try simp only [Act.put, List.setIfInBounds_toArray, List.set_cons_zero, List.set_cons_succ])
                refine wpAnyH_take (i := 2) (oi := { dst := some 61, op := Op.nilCheck (Operand.tmp 60), type := 0, pos := "hexreader.go:97", after := #[{ on := 1, ground := Ground.data }], guard := none }) (v := ?_) rfl (by kernel_rfl) (by kernel_rfl) (by kernel_rfl) (fun _ _ _ h => h) (Or.inl ⟨by rfl, ?_⟩) (by assumption) ?_
                rotate_left
                · intro wz hSz; (try dsimp only at hSz); go_simp; all_goals (with_reducible rfl)
                (try simp only [Act.put, List.setIfInBounds_toArray, List.set_cons_zero, List.set_cons_succ])
                refine wpAnyH_take (i := 3) (oi := { dst := some 62, op := Op.fieldAddr 39 (Operand.tmp 61) 1, type := 0, pos := "hexreader.go:97", after := #[{ on := 2, ground := Ground.data }], guard := none }) (v := ?_) rfl (by kernel_rfl) (by kernel_rfl) (by kernel_rfl) (fun _ _ _ h => h) (Or.inl ⟨by rfl, ?_⟩) (by assumption) ?_
                rotate_left
                · intro wz hSz; (try dsimp only at hSz); go_simp; all_goals (with_reducible rfl)
                (try simp only [Act.put, List.setIfInBounds_toArray, List.set_cons_zero, List.set_cons_succ])
                refine wpAnyH_take (i := 5) (oi := { dst := some 64, op := Op.fieldAddr 75 (Operand.tmp 3) 2, type := 0, pos := "hexreader.go:97", after := #[], guard := none }) (v := ?_) rfl (by kernel_rfl) (by kernel_rfl) (by kernel_rfl) (fun _ _ _ h => h) (Or.inl ⟨by rfl, ?_⟩) (by assumption) ?_
                rotate_left
                · intro wz hSz; (try dsimp only at hSz); go_simp; all_goals (with_reducible rfl)
                (try simp only [Act.put, List.setIfInBounds_toArray, List.set_cons_zero, List.set_cons_succ])
                refine wpAnyH_take (i := 6) (oi := { dst := some 65, op := Op.load 22 (Operand.tmp 64), type := 22, pos := "hexreader.go:97", after := #[{ on := 5, ground := Ground.data }], guard := none }) (v := ?_) rfl (by kernel_rfl) (by kernel_rfl) (by kernel_rfl) (fun _ _ _ h => h) (Or.inl ⟨by rfl, ?_⟩) (by assumption) ?_
                rotate_left
                · intro wz hSz; (try dsimp only at hSz); go_simp; all_goals (with_reducible rfl)
                (try simp only [Act.put, List.setIfInBounds_toArray, List.set_cons_zero, List.set_cons_succ])
                refine wpAnyH_ready (rs := [4]) (by kernel_rfl) (by simp) ?_
                refine AllReadyH.cons (o := { dst := some 63, op := Op.load 22 (Operand.tmp 62), type := 22, pos := "hexreader.go:97", after := #[{ on := 3, ground := Ground.data }], guard := none }) rfl (fun K hK => ?_) AllReadyH.nil
                go_simp
                refine hK.out _ _ ?_ (fun hHeld => ?_)
                · (try dsimp only)
                  exact hHeld
                clear hK K
                (try simp only [Act.put, List.setIfInBounds_toArray, List.set_cons_zero, List.set_cons_succ])
                refine wpAnyH_ready (rs := [7]) (by kernel_rfl) (by simp) ?_
                refine AllReadyH.cons (o := { dst := some 66, op := Op.call { callee := Callee.builtin Builtin.append, args := #[Operand.tmp 63, Operand.tmp 65], argTypes := #[22, 22] }, type := 22, pos := "hexreader.go:97", after := #[{ on := 4, ground := Ground.data }, { on := 6, ground := Ground.data }], guard := none }) rfl (fun K hK => ?_) AllReadyH.nil
                refine step_append_lies _ rfl _ _ 22 rfl B 5 i5 _ 1 1 Try.underlying22 hi hz0 hz1 hz2 rfl (by decide) (.slice da n dc) n (v8 st.D) rfl hownV.drew ⟨g, 4, none⟩ m cap (v8 d) rfl (by rw [v8_len, hm.out]; omega) hnewsV (v8_one d) (by omega) hq1.out (by omega) hBsz _ rfl ?_
                intro g9 c9 w9 own9 hg9 hat9 hlt9
                have hb9 : w9.heap[w.heap.size]? = some (.cells #[.int .u8 (kind : Int), .int .i64 (address : Int), .slice (some ⟨g, 4, none⟩) m cap] 75) := (hg9.block w.heap.size hsV (fun e => hneb e.symm)).trans hbkV
                have hh9 : w9.heap[rb]? = some (.cells #[.int .i64 ln, .slice da n dc, .bool st.bk, .bool st.en] 39 (0, 0)) := (hg9.block rb (Array.getElem?_eq_some_iff.1 hhV).1 (fun e => hne9 e.symm)).trans hhV
                refine hK.out _ _ ?_ (fun hHeld => ?_)
                · (try dsimp only)
                  rw [Lib.cell_of_heap hb9]; rfl
                clear hK K
                (try simp only [Act.put, List.setIfInBounds_toArray, List.set_cons_zero, List.set_cons_succ])
                refine wpAnyH_take (i := 8) (oi := { dst := some 67, op := Op.nilCheck (Operand.tmp 59), type := 0, pos := "hexreader.go:97", after := #[{ on := 0, ground := Ground.data }, { on := 0, ground := Ground.phase }, { on := 1, ground := Ground.phase }, { on := 2, ground := Ground.phase }, { on := 3, ground := Ground.phase }, { on := 4, ground := Ground.phase }, { on := 5, ground := Ground.phase }, { on := 6, ground := Ground.phase }, { on := 7, ground := Ground.phase }], guard := none }) (v := ?_) rfl (by kernel_rfl) (by kernel_rfl) (by kernel_rfl) (fun _ _ _ h => h) (Or.inl ⟨by rfl, ?_⟩) (by assumption) ?_
                rotate_left
                · intro wz hSz; (try dsimp only at hSz); go_simp; all_goals (with_reducible rfl)
                (try simp only [Act.put, List.setIfInBounds_toArray, List.set_cons_zero, List.set_cons_succ])
                refine wpAnyH_take (i := 9) (oi := { dst := some 68, op := Op.fieldAddr 39 (Operand.tmp 67) 1, type := 0, pos := "hexreader.go:97", after := #[{ on := 8, ground := Ground.data }, { on := 0, ground := Ground.phase }, { on := 1, ground := Ground.phase }, { on := 2, ground := Ground.phase }, { on := 3, ground := Ground.phase }, { on := 4, ground := Ground.phase }, { on := 5, ground := Ground.phase }, { on := 6, ground := Ground.phase }, { on := 7, ground := Ground.phase }], guard := none }) (v := ?_) rfl (by kernel_rfl) (by kernel_rfl) (by kernel_rfl) (fun _ _ _ h => h) (Or.inl ⟨by rfl, ?_⟩) (by assumption) ?_
                rotate_left
                · intro wz hSz; (try dsimp only at hSz); go_simp; all_goals (with_reducible rfl)
                (try simp only [Act.put, List.setIfInBounds_toArray, List.set_cons_zero, List.set_cons_succ])
                refine wpAnyH_ready (rs := [10]) (by kernel_rfl) (by simp) ?_
                refine AllReadyH.cons (o := { dst := none, op := Op.store 22 (Operand.tmp 68) (Operand.tmp 66), type := 0, pos := "hexreader.go:97", after := #[{ on := 9, ground := Ground.data }, { on := 7, ground := Ground.data }, { on := 7, ground := Ground.chain }, { on := 0, ground := Ground.phase }, { on := 1, ground := Ground.phase }, { on := 2, ground := Ground.phase }, { on := 3, ground := Ground.phase }, { on := 4, ground := Ground.phase }, { on := 5, ground := Ground.phase }, { on := 6, ground := Ground.phase }, { on := 7, ground := Ground.phase }], guard := none }) rfl (fun K hK => ?_) AllReadyH.nil
                have u1 : w9.cell? ⟨rb, 1, none⟩ = some (.slice da n dc) := (Has.ofHeap hh9).2.1 1
                have v1 := (Has.ofHeap hh9).2.2 1
                go_simp
                refine hK.out _ _ ?_ (fun hHeld => ?_)
                · (try dsimp only)
                  exact (World.cell?_setCell_other _ _ _ _ (by intro e; exact hrb (congrArg Addr.block e))).trans hHeld
                clear hK K
                (try simp only [Act.put, List.setIfInBounds_toArray, List.set_cons_zero, List.set_cons_succ])
                refine wpAnyH_done (by kernel_rfl) ?_ _
                refine NoPanic.normal ?_
                clear hHeld
                have hg9rb : g9 ≠ rb := by
                  rcases hat9 with h | h
                  · intro e; rw [e] at h; exact hne9 h
                  · have h' : g9 = V.heap.size := h
                    have := (Array.getElem?_eq_some_iff.1 hhV).1
                    omega
                have hh10 : (w9.setCell ⟨rb, 1, none⟩ (.slice (some ⟨g9, 0, none⟩) (n + m) c9)).heap[rb]? = some (.cells #[.int .i64 ln, .slice (some ⟨g9, 0, none⟩) (n + m) c9, .bool st.bk, .bool st.en] 39 (0, 0)) := by
                  rw [heap_setCell_same w9 rb 1 _ 39 _ hh9]; rfl
                have x2 : (w9.setCell ⟨rb, 1, none⟩ (.slice (some ⟨g9, 0, none⟩) (n + m) c9)).cell? ⟨rb, 2, none⟩ = some (.bool st.bk) := (Has.ofHeap hh10).2.1 2
                have y2 := (Has.ofHeap hh10).2.2 2
                have own10 := own_set (i := 1) (u := .slice (some ⟨g9, 0, none⟩) (n + m) c9) own9 (b := rb) (fun e => hg9rb (Option.some.inj e))
                have hB10 : Below B w (w9.setCell ⟨rb, 1, none⟩ (.slice (some ⟨g9, 0, none⟩) (n + m) c9)) := ((hBV.drew.grown hg9 hBsz (fun k hk => (own_lt hownV k hk).1)).setCell (p := ⟨rb, 1, none⟩) hBr _)
                have hS10 : Stay w (w9.setCell ⟨rb, 1, none⟩ (.slice (some ⟨g9, 0, none⟩) (n + m) c9)) := ((hSV.trans (Stay.below (Below.refl _ _).drew)).trans (Stay.grown hownV.drew hg9)).trans (Stay.set hh9 _)
                generalize w9.setCell ⟨rb, 1, none⟩ (.slice (some ⟨g9, 0, none⟩) (n + m) c9) = Z at *
                have hh11 : (Z.setCell ⟨rb, 2, none⟩ (.bool false)).heap[rb]? = some (.cells #[.int .i64 ln, .slice (some ⟨g9, 0, none⟩) (n + m) c9, .bool false, .bool st.en] 39 (0, 0)) := by
                  rw [heap_setCell_same Z rb 2 _ 39 _ hh10]; rfl
                have own11 := own_set (i := 2) (u := .bool false) own10 (b := rb) (fun e => hg9rb (Option.some.inj e))
                go_wp2
                go_end0
                refine ⟨⟨rfl, .slice (some ⟨g9, 0, none⟩) (n + m) c9, hh11, ?_, hBr, fun x hx => ?_⟩, hB10.setCell (p := ⟨rb, 2, none⟩) hBr _, hS10.trans (Stay.set hh10 _)⟩
                · show World.ownsRow _ _ _ _ _ (st.D ++ d).length (v8 (st.D ++ d))
                  rw [List.length_append, hn.out, hm.out, v8_app]; exact own11
                · rcases List.mem_append.1 hx with h | h
                  · exact h256 x h
                  · exact hdV.1 x h
              · have h42' : (((st.D.length : Int)) == 0) = false := by rw [beq_eq_false_iff_ne]; omega
                have hbk : st.bk = true := by
                  cases hb : st.bk
                  · exact absurd ⟨h41, h42, hb⟩ h4
                  · rfl
                rw [hbk] at c2
                have hmp : 0 < d.length := by omega
                try clear h42
                clear h1 h2 h3 h4 h5 h41 hst
                try clear hbk
                generalize hn0 : st.D.length = n at *
                generalize hm0 : d.length = m at *
                have hn : Hid (st.D.length = n) := hn0
                have hm : Hid (d.length = m) := hm0
                clear hn0 hm0
                have hq1 : Hid (n + m ≤ maxLen) := by show _ ≤ _; unfold maxLen; omega
                have hbk1 : (w.alloc (.cells #[.int .u8 (kind : Int), .int .i64 (address : Int), .slice (some ⟨g, 4, none⟩) m cap] 75)).heap[w.heap.size]? = some (.cells #[.int .u8 (kind : Int), .int .i64 (address : Int), .slice (some ⟨g, 4, none⟩) m cap] 75) := heap_alloc_new w _
                have hrb : rb ≠ w.heap.size := by intro e; rw [e, hbk1] at hh; cases hh
                have hne9 : (Value.slice da n dc).ownBlock ≠ some rb := Lib.ownBlock_ne hown hh (by decide)
                have hneb : (Value.slice da n dc).ownBlock ≠ some w.heap.size := Lib.ownBlock_ne hown hbk1 (by decide)
                obtain ⟨i5, hi, hz0, hz1, hz2⟩ := info_parts info5
                go_enter Try.func31, Try.ntmps31
                go_wp2_with (first | (go_at_call 32; (with_reducible refine Calls.mono hT4 ?_); rintro e w2 ⟨rfl, rfl⟩) | (go_at_call 32; (with_reducible refine Calls.mono hF4 ?_); rintro e w2 ⟨rfl, rfl⟩))
                go_quiet (fail)
                go_upto_region 8 with fail
                have hEV : Below (w.alloc (.cells #[.int .u8 (kind : Int), .int .i64 (address : Int), .slice (some ⟨g, 4, none⟩) m cap] 75)).heap.size (w.alloc (.cells #[.int .u8 (kind : Int), .int .i64 (address : Int), .slice (some ⟨g, 4, none⟩) m cap] 75)) ((w.alloc (.cells #[.int .u8 (kind : Int), .int .i64 (address : Int), .slice (some ⟨g, 4, none⟩) m cap] 75)).drewN nq) := bel_drewN (Below.refl _ _)
                have hhV := (hEV.block rb hrl).trans hh
                have hownV := own_only hown (Only.of_below (S := fun _ => False) hEV) (fun _ _ h => h)
                have hbkV := (hEV.block w.heap.size (by simp)).trans hbk1
                have hdV := hd1.below hEV
                have hBV : Below B w ((w.alloc (.cells #[.int .u8 (kind : Int), .int .i64 (address : Int), .slice (some ⟨g, 4, none⟩) m cap] 75)).drewN nq) := bel_drewN hBB
                have hSV : Stay w ((w.alloc (.cells #[.int .u8 (kind : Int), .int .i64 (address : Int), .slice (some ⟨g, 4, none⟩) m cap] 75)).drewN nq) := hSt.trans (Stay.below hEV)
                have hsV : w.heap.size < ((w.alloc (.cells #[.int .u8 (kind : Int), .int .i64 (address : Int), .slice (some ⟨g, 4, none⟩) m cap] 75)).drewN nq).heap.size := (Array.getElem?_eq_some_iff.1 hbkV).1
                clear c0 c1 c2 hT hF hG hGW hT4 hF4 hd1 hBB hSt hEV hh hown hbk1 hHr hrl hE1
                generalize (w.alloc (.cells #[.int .u8 (kind : Int), .int .i64 (address : Int), .slice (some ⟨g, 4, none⟩) m cap] 75)).drewN nq = V at *
                have hBsz : B ≤ V.drew.heap.size := by show B ≤ V.heap.size; omega
                have hboxV : V.drew.cell? ⟨w.heap.size, 2, none⟩ = some (.slice (some ⟨g, 4, none⟩) m cap) := by
                  rw [Lib.cell_of_heap (w := V.drew) hbkV]; rfl
                have c1V : V.cell? ⟨rb, 1, none⟩ = some (.slice da n dc) := (Has.ofHeap hhV).2.1 1
                have hnewsV : ∀ j u, (v8 d)[j]? = some u → V.drew.cell? ((⟨g, 4, none⟩ : Addr).add j) = some u := by
                  intro j u hj
                  have hjl : j < d.length := by
                    have := (List.getElem?_eq_some_iff.1 hj).1
                    rwa [v8_len] at this
                  obtain ⟨gb, go, e, _, hc⟩ := hdV.cell (by omega)
                  cases e
                  rw [v8_get d j hjl] at hj
                  rw [Go.WideShapes.add_plain, ← hj]
                  exact hc j hjl
                have hnewsV' := hnewsV
                clear hnewsV
                have hnewsV : ∀ j u, (v8 d)[j]? = some u → V.drew.cell? ((⟨g, 4, none⟩ : Addr).add j) = some u := hnewsV'
                clear hnewsV'
                refine wp_region_noPanic ?_
                refine wp_region_held_drew (S := fun w' => w'.cell? ⟨w.heap.size, 2, none⟩ = some (.slice (some ⟨g, 4, none⟩) m cap)) (by kernel_rfl) ?_ (fun hHeld => ?_)
                · (try dsimp only)
                  exact hboxV
                refine wpAnyH_take (i := 0) (oi := { dst := some 59, op := Op.move (Operand.tmp 0), type := 37, pos := "hexreader.go:97", after := #[], guard := none }) (v := ?_) rfl (by kernel_rfl) (by kernel_rfl) (by kernel_rfl) (fun _ _ _ h => h) (Or.inl ⟨by rfl, ?_⟩) (by assumption) ?_
                rotate_left
                · intro wz hSz; (try dsimp only at hSz); go_simp; all_goals (with_reducible rfl)
                (try simp only [Act.put, List.setIfInBounds_toArray, List.set_cons_zero, List.set_cons_succ])
                refine wpAnyH_take (i := 1) (oi := { dst := some 60, op := Op.move (Operand.tmp 0), type := 37, pos := "hexreader.go:97", after := #[], guard := none }) (v := ?_) rfl (by kernel_rfl) (by kernel_rfl) (by kernel_rfl) (fun _ _ _ h => h) (Or.inl ⟨by rfl, ?_⟩) (by assumption) ?_
                rotate_left
                · intro wz hSz; (try dsimp only at hSz); go_simp; all_goals (with_reducible rfl)
                (try simp only [Act.put, List.setIfInBounds_toArray, List.set_cons_zero, List.set_cons_succ])
                refine wpAnyH_take (i := 2) (oi := { dst := some 61, op := Op.nilCheck (Operand.tmp 60), type := 0, pos := "hexreader.go:97", after := #[{ on := 1, ground := Ground.data }], guard := none }) (v := ?_) rfl (by kernel_rfl) (by kernel_rfl) (by kernel_rfl) (fun _ _ _ h => h) (Or.inl ⟨by rfl, ?_⟩) (by assumption) ?_
                rotate_left
                · intro wz hSz; (try dsimp only at hSz); go_simp; all_goals (with_reducible rfl)
                (try simp only [Act.put, List.setIfInBounds_toArray, List.set_cons_zero, List.set_cons_succ])
                refine wpAnyH_take (i := 3) (oi := { dst := some 62, op := Op.fieldAddr 39 (Operand.tmp 61) 1, type := 0, pos := "hexreader.go:97", after := #[{ on := 2, ground := Ground.data }], guard := none }) (v := ?_) rfl (by kernel_rfl) (by kernel_rfl) (by kernel_rfl) (fun _ _ _ h => h) (Or.inl ⟨by rfl, ?_⟩) (by assumption) ?_
                rotate_left
                · intro wz hSz; (try dsimp only at hSz); go_simp; all_goals (with_reducible rfl)
                (try simp only [Act.put, List.setIfInBounds_toArray, List.set_cons_zero, List.set_cons_succ])
                refine wpAnyH_take (i := 5) (oi := { dst := some 64, op := Op.fieldAddr 75 (Operand.tmp 3) 2, type := 0, pos := "hexreader.go:97", after := #[], guard := none }) (v := ?_) rfl (by kernel_rfl) (by kernel_rfl) (by kernel_rfl) (fun _ _ _ h => h) (Or.inl ⟨by rfl, ?_⟩) (by assumption) ?_
                rotate_left
                · intro wz hSz; (try dsimp only at hSz); go_simp; all_goals (with_reducible rfl)
                (try simp only [Act.put, List.setIfInBounds_toArray, List.set_cons_zero, List.set_cons_succ])
                refine wpAnyH_take (i := 6) (oi := { dst := some 65, op := Op.load 22 (Operand.tmp 64), type := 22, pos := "hexreader.go:97", after := #[{ on := 5, ground := Ground.data }], guard := none }) (v := ?_) rfl (by kernel_rfl) (by kernel_rfl) (by kernel_rfl) (fun _ _ _ h => h) (Or.inl ⟨by rfl, ?_⟩) (by assumption) ?_
                rotate_left
                · intro wz hSz; (try dsimp only at hSz); go_simp; all_goals (with_reducible rfl)
                (try simp only [Act.put, List.setIfInBounds_toArray, List.set_cons_zero, List.set_cons_succ])
                refine wpAnyH_ready (rs := [4]) (by kernel_rfl) (by simp) ?_
                refine AllReadyH.cons (o := { dst := some 63, op := Op.load 22 (Operand.tmp 62), type := 22, pos := "hexreader.go:97", after := #[{ on := 3, ground := Ground.data }], guard := none }) rfl (fun K hK => ?_) AllReadyH.nil
                go_simp
                refine hK.out _ _ ?_ (fun hHeld => ?_)
                · (try dsimp only)
                  exact hHeld
                clear hK K
                (try simp only [Act.put, List.setIfInBounds_toArray, List.set_cons_zero, List.set_cons_succ])
                refine wpAnyH_ready (rs := [7]) (by kernel_rfl) (by simp) ?_
                refine AllReadyH.cons (o := { dst := some 66, op := Op.call { callee := Callee.builtin Builtin.append, args := #[Operand.tmp 63, Operand.tmp 65], argTypes := #[22, 22] }, type := 22, pos := "hexreader.go:97", after := #[{ on := 4, ground := Ground.data }, { on := 6, ground := Ground.data }], guard := none }) rfl (fun K hK => ?_) AllReadyH.nil
                refine step_append_lies _ rfl _ _ 22 rfl B 5 i5 _ 1 1 Try.underlying22 hi hz0 hz1 hz2 rfl (by decide) (.slice da n dc) n (v8 st.D) rfl hownV.drew ⟨g, 4, none⟩ m cap (v8 d) rfl (by rw [v8_len, hm.out]; omega) hnewsV (v8_one d) (by omega) hq1.out (by omega) hBsz _ rfl ?_
                intro g9 c9 w9 own9 hg9 hat9 hlt9
                have hb9 : w9.heap[w.heap.size]? = some (.cells #[.int .u8 (kind : Int), .int .i64 (address : Int), .slice (some ⟨g, 4, none⟩) m cap] 75) := (hg9.block w.heap.size hsV (fun e => hneb e.symm)).trans hbkV
                have hh9 : w9.heap[rb]? = some (.cells #[.int .i64 ln, .slice da n dc, .bool st.bk, .bool st.en] 39 (0, 0)) := (hg9.block rb (Array.getElem?_eq_some_iff.1 hhV).1 (fun e => hne9 e.symm)).trans hhV
                refine hK.out _ _ ?_ (fun hHeld => ?_)
                · (try dsimp only)
                  rw [Lib.cell_of_heap hb9]; rfl
                clear hK K
                (try simp only [Act.put, List.setIfInBounds_toArray, List.set_cons_zero, List.set_cons_succ])
                refine wpAnyH_take (i := 8) (oi := { dst := some 67, op := Op.nilCheck (Operand.tmp 59), type := 0, pos := "hexreader.go:97", after := #[{ on := 0, ground := Ground.data }, { on := 0, ground := Ground.phase }, { on := 1, ground := Ground.phase }, { on := 2, ground := Ground.phase }, { on := 3, ground := Ground.phase }, { on := 4, ground := Ground.phase }, { on := 5, ground := Ground.phase }, { on := 6, ground := Ground.phase }, { on := 7, ground := Ground.phase }], guard := none }) (v := ?_) rfl (by kernel_rfl) (by kernel_rfl) (by kernel_rfl) (fun _ _ _ h => h) (Or.inl ⟨by rfl, ?_⟩) (by assumption) ?_
                rotate_left
                · intro wz hSz; (try dsimp only at hSz); go_simp; all_goals (with_reducible rfl)
                (try simp only [Act.put, List.setIfInBounds_toArray, List.set_cons_zero, List.set_cons_succ])
                refine wpAnyH_take (i := 9) (oi := { dst := some 68, op := Op.fieldAddr 39 (Operand.tmp 67) 1, type := 0, pos := "hexreader.go:97", after := #[{ on := 8, ground := Ground.data }, { on := 0, ground := Ground.phase }, { on := 1, ground := Ground.phase }, { on := 2, ground := Ground.phase }, { on := 3, ground := Ground.phase }, { on := 4, ground := Ground.phase }, { on := 5, ground := Ground.phase }, { on := 6, ground := Ground.phase }, { on := 7, ground := Ground.phase }], guard := none }) (v := ?_) rfl (by kernel_rfl) (by kernel_rfl) (by kernel_rfl) (fun _ _ _ h => h) (Or.inl ⟨by rfl, ?_⟩) (by assumption) ?_
                rotate_left
                · intro wz hSz; (try dsimp only at hSz); go_simp; all_goals (with_reducible rfl)
                (try simp only [Act.put, List.setIfInBounds_toArray, List.set_cons_zero, List.set_cons_succ])
                refine wpAnyH_ready (rs := [10]) (by kernel_rfl) (by simp) ?_
                refine AllReadyH.cons (o := { dst := none, op := Op.store 22 (Operand.tmp 68) (Operand.tmp 66), type := 0, pos := "hexreader.go:97", after := #[{ on := 9, ground := Ground.data }, { on := 7, ground := Ground.data }, { on := 7, ground := Ground.chain }, { on := 0, ground := Ground.phase }, { on := 1, ground := Ground.phase }, { on := 2, ground := Ground.phase }, { on := 3, ground := Ground.phase }, { on := 4, ground := Ground.phase }, { on := 5, ground := Ground.phase }, { on := 6, ground := Ground.phase }, { on := 7, ground := Ground.phase }], guard := none }) rfl (fun K hK => ?_) AllReadyH.nil
                have u1 : w9.cell? ⟨rb, 1, none⟩ = some (.slice da n dc) := (Has.ofHeap hh9).2.1 1
                have v1 := (Has.ofHeap hh9).2.2 1
                go_simp
                refine hK.out _ _ ?_ (fun hHeld => ?_)
                · (try dsimp only)
                  exact (World.cell?_setCell_other _ _ _ _ (by intro e; exact hrb (congrArg Addr.block e))).trans hHeld
                clear hK K
                (try simp only [Act.put, List.setIfInBounds_toArray, List.set_cons_zero, List.set_cons_succ])
                refine wpAnyH_done (by kernel_rfl) ?_ _
                refine NoPanic.normal ?_
                clear hHeld
                have hg9rb : g9 ≠ rb := by
                  rcases hat9 with h | h
                  · intro e; rw [e] at h; exact hne9 h
                  · have h' : g9 = V.heap.size := h
                    have := (Array.getElem?_eq_some_iff.1 hhV).1
                    omega
                have hh10 : (w9.setCell ⟨rb, 1, none⟩ (.slice (some ⟨g9, 0, none⟩) (n + m) c9)).heap[rb]? = some (.cells #[.int .i64 ln, .slice (some ⟨g9, 0, none⟩) (n + m) c9, .bool st.bk, .bool st.en] 39 (0, 0)) := by
                  rw [heap_setCell_same w9 rb 1 _ 39 _ hh9]; rfl
                have x2 : (w9.setCell ⟨rb, 1, none⟩ (.slice (some ⟨g9, 0, none⟩) (n + m) c9)).cell? ⟨rb, 2, none⟩ = some (.bool st.bk) := (Has.ofHeap hh10).2.1 2
                have y2 := (Has.ofHeap hh10).2.2 2
                have own10 := own_set (i := 1) (u := .slice (some ⟨g9, 0, none⟩) (n + m) c9) own9 (b := rb) (fun e => hg9rb (Option.some.inj e))
                have hB10 : Below B w (w9.setCell ⟨rb, 1, none⟩ (.slice (some ⟨g9, 0, none⟩) (n + m) c9)) := ((hBV.drew.grown hg9 hBsz (fun k hk => (own_lt hownV k hk).1)).setCell (p := ⟨rb, 1, none⟩) hBr _)
                have hS10 : Stay w (w9.setCell ⟨rb, 1, none⟩ (.slice (some ⟨g9, 0, none⟩) (n + m) c9)) := ((hSV.trans (Stay.below (Below.refl _ _).drew)).trans (Stay.grown hownV.drew hg9)).trans (Stay.set hh9 _)
                generalize w9.setCell ⟨rb, 1, none⟩ (.slice (some ⟨g9, 0, none⟩) (n + m) c9) = Z at *
                have hh11 : (Z.setCell ⟨rb, 2, none⟩ (.bool false)).heap[rb]? = some (.cells #[.int .i64 ln, .slice (some ⟨g9, 0, none⟩) (n + m) c9, .bool false, .bool st.en] 39 (0, 0)) := by
                  rw [heap_setCell_same Z rb 2 _ 39 _ hh10]; rfl
                have own11 := own_set (i := 2) (u := .bool false) own10 (b := rb) (fun e => hg9rb (Option.some.inj e))
                go_wp2
                go_end0
                refine ⟨⟨rfl, .slice (some ⟨g9, 0, none⟩) (n + m) c9, hh11, ?_, hBr, fun x hx => ?_⟩, hB10.setCell (p := ⟨rb, 2, none⟩) hBr _, hS10.trans (Stay.set hh10 _)⟩
                · show World.ownsRow _ _ _ _ _ (st.D ++ d).length (v8 (st.D ++ d))
                  rw [List.length_append, hn.out, hm.out, v8_app]; exact own11
                · rcases List.mem_append.1 hx with h | h
                  · exact h256 x h
                  · exact hdV.1 x h
  · rw [if_pos (by simpa using h1)]
    have h1' : (((address : Int)) == (st.D.length : Int) % 65536) = false := by rw [beq_eq_false_iff_ne]; omega
    clear h1
    generalize st.D.length = n at *
    go_enter Try.func31, Try.ntmps31
    go_wp2_with (first | (go_at_call 32; (with_reducible refine Calls.mono hT4 ?_); rintro e w2 ⟨rfl, rfl⟩) | (go_at_call 32; (with_reducible refine Calls.mono hF4 ?_); rintro e w2 ⟨rfl, rfl⟩))
    try simp only [Exit.inBlock, Exit.then]
    exact ⟨rfl, rfl, hBB, hSt⟩
end Go.Proofs.Ytbgfeogigjjmdaa
