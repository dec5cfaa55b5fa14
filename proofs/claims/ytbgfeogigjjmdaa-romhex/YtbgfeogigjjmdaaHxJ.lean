import Derived.Test.YtbgfeogigjjmdaaHxI
namespace Go.Proofs.Ytbgfeogigjjmdaa
open Go.RowKit
set_option linter.unusedVariables false

theorem parF_ok {l all : List Nat} (h : parF l = .ok all) : all.length = 5 + all.getD 0 0 ∧ (∀ x ∈ all, x < 256) := by
  cases hb : badF l with
  | some i => rw [parF_bad hb] at h; cases h
  | none =>
    rw [parF_good hb] at h
    split at h
    · cases h
    · rename_i h11
      split at h
      · cases h
      · rename_i hl
        split at h
        · cases h
        · rename_i hs
          have hl' : l.length = 11 + 2 * (16 * dg (l.getD 1 0) + dg (l.getD 2 0)) := Decidable.not_not.1 hl
          injection h with h
          subst h
          refine ⟨?_, prs_lt _ (good_dg hb)⟩
          rw [prs_len, List.length_drop, prs_get _ 0 (by rw [List.length_drop]; omega)]
          have e1 : (l.drop 1).getD (2 * 0) 0 = l.getD 1 0 := by rw [List.getD_eq_getElem?_getD, List.getD_eq_getElem?_getD, List.getElem?_drop]
          have e2 : (l.drop 1).getD (2 * 0 + 1) 0 = l.getD 2 0 := by rw [List.getD_eq_getElem?_getD, List.getD_eq_getElem?_getD, List.getElem?_drop]
          rw [e1, e2]; omega
theorem data_len {all : List Nat} (h : all.length = 5 + all.getD 0 0) : (dataF all).length = all.getD 0 0 := by
  unfold dataF; rw [List.length_take, List.length_drop]; omega

set_option maxRecDepth 100000 in
set_option maxHeartbeats 2000000 in
theorem take_any (B rb : Nat) (ln : Int) (st : Rd) (s : ByteArray) (w : World) (hR : HR w B rb ln st) (hs : s.size < 4611686018427387904) (hD : st.D.length ≤ 1048576) (hBw : B ≤ w.heap.size) :
    Calls Try.prog 19 #[.pointer (some ⟨rb, 0, none⟩), .string s] w fun e w' => RdP (linF st (nl s)) ln B rb e w' ∧ Below B w w' ∧ Stay w w' := by
  obtain ⟨dv, hh, hown, hBr, h256⟩ := id hR
  obtain ⟨da, dc, rfl⟩ := own_slice' hown
  have hrl := (Array.getElem?_eq_some_iff.1 hh).1
  have c0 : w.cell? ⟨rb, 0, none⟩ = some (.int .i64 ln) := (Has.ofHeap hh).2.1 0
  have c3 : w.cell? ⟨rb, 3, none⟩ = some (.bool st.en) := (Has.ofHeap hh).2.1 3
  unfold linF
  by_cases he : st.en = true
  · rw [if_pos he]
    rw [he] at c3
    have hG := giveUp_any rb 104 1 ln w c0
    go_enter Try.func19, Try.ntmps19
    go_wp2_with (go_at_call 29; (with_reducible refine Calls.mono hG ?_); rintro e w2 ⟨rfl, rfl⟩)
    try simp only [Exit.inBlock, Exit.then]
    exact ⟨rfl, rfl, Below.refl _ _, Stay.refl _⟩
  · rw [if_neg he]
    have he' : st.en = false := by simpa using he
    rw [he'] at c3
    have hRec := rrec_any rb ln s w hs hrl c0
    cases hp : parF (nl s) with
    | error x =>
      obtain ⟨c, col⟩ := x
      rw [hp] at hRec
      go_enter Try.func19, Try.ntmps19
      go_wp2_with (go_at_call 30; (with_reducible refine Calls.mono hRec ?_); rintro e w2 ⟨hq, hE2⟩; have hq' : e = pan (c : Nat) ln (col : Nat) := hq; subst hq')
      try simp only [Exit.inBlock, Exit.then]
      exact ⟨rfl, rfl, hE2.mono hBw, Stay.below hE2⟩
    | ok all =>
      rw [hp] at hRec
      obtain ⟨hal, ha256⟩ := parF_ok hp
      have hdl := data_len hal
      have hk256 : kindF all < 256 := getD_lt ha256 3
      have ha0 := getD_lt ha256 0
      have ha1 := getD_lt ha256 1
      have ha2 := getD_lt ha256 2
      have had : addrF all < 65536 := by unfold addrF; omega
      have hRec' : Calls Try.prog 30 #[.pointer (some ⟨rb, 0, none⟩), .string s] w fun e w' => (∃ g cap, e = .returned (.agg #[.int .u8 ((kindF all : Nat) : Int), .int .i64 ((addrF all : Nat) : Int), .slice (some ⟨g, 4, none⟩) (dataF all).length cap]) ∧ Bs w' (some ⟨g, 4, none⟩) (dataF all) ∧ w.heap.size ≤ g ∧ (dataF all).length ≤ cap) ∧ Below w.heap.size w w' := hRec
      clear hRec
      show Calls Try.prog 19 _ _ fun e w' => RdP (recF st (kindF all) (addrF all) (dataF all)) ln B rb e w' ∧ Below B w w' ∧ Stay w w'
      have hdl' : (dataF all).length ≤ 255 := by omega
      clear hp hal hdl ha0 ha1 ha2 he
      generalize kindF all = kind at *
      generalize addrF all = address at *
      generalize dataF all = d at *
      have hPF0 : ∃ PF, recF st kind address d = PF := ⟨_, rfl⟩
      obtain ⟨PF, hPF1⟩ := hPF0
      rw [hPF1]
      have hPF2 : Hid (recF st kind address d = PF) := hPF1
      clear hPF1
      generalize hm0 : d.length = m at *
      have hm : Hid (d.length = m) := hm0
      clear hm0
      go_enter Try.func19, Try.ntmps19
      go_upto_region 3 with (go_at_call 30; (with_reducible refine Calls.mono hRec' ?_); rintro e w2 ⟨⟨g, cap, rfl, hBs, hg, hcap⟩, hE2⟩)
      have hE3 : Below w.heap.size w (w2.alloc (.cells #[.int .u8 (kind : Int), .int .i64 (address : Int), .slice (some ⟨g, 4, none⟩) m cap] 75)) := hE2.alloc hE2.size _
      have hE4 : Below w2.heap.size w2 (w2.alloc (.cells #[.int .u8 (kind : Int), .int .i64 (address : Int), .slice (some ⟨g, 4, none⟩) m cap] 75)) := (Below.refl _ _).alloc (Nat.le_refl _) _
      have hRV := hR.below hE3
      have hbkV : (w2.alloc (.cells #[.int .u8 (kind : Int), .int .i64 (address : Int), .slice (some ⟨g, 4, none⟩) m cap] 75)).heap[w2.heap.size]? = some (.cells #[.int .u8 (kind : Int), .int .i64 (address : Int), .slice (some ⟨g, 4, none⟩) m cap] 75) := heap_alloc_new w2 _
      have hhV := (hE3.block rb hrl).trans hh
      have hownV := own_only hown (Only.of_below (S := fun _ => False) hE3) (fun _ _ h => h)
      have hBsV := hBs.below hE4
      have hBV : Below B w (w2.alloc (.cells #[.int .u8 (kind : Int), .int .i64 (address : Int), .slice (some ⟨g, 4, none⟩) m cap] 75)) := hE3.mono hBw
      have hSV : Stay w (w2.alloc (.cells #[.int .u8 (kind : Int), .int .i64 (address : Int), .slice (some ⟨g, 4, none⟩) m cap] 75)) := Stay.below hE3
      have hrb : rb ≠ w2.heap.size := by have := hE2.size; omega
      have hne9 : (Value.slice da st.D.length dc).ownBlock ≠ some rb := Lib.ownBlock_ne hownV hhV (by decide)
      have hBsz : B ≤ (w2.alloc (.cells #[.int .u8 (kind : Int), .int .i64 (address : Int), .slice (some ⟨g, 4, none⟩) m cap] 75)).heap.size := Nat.le_trans hBw hE3.size
      clear c0 c3 hRec' hE2 hE4 hE3 hBs
      generalize hn0 : st.D.length = n at *
      have hn : Hid (st.D.length = n) := hn0
      clear hn0
      have c0 : (w2.alloc (.cells #[.int .u8 (kind : Int), .int .i64 (address : Int), .slice (some ⟨g, 4, none⟩) m cap] 75)).cell? ⟨rb, 0, none⟩ = some (.int .i64 ln) := (Has.ofHeap hhV).2.1 0
      have c1 : (w2.alloc (.cells #[.int .u8 (kind : Int), .int .i64 (address : Int), .slice (some ⟨g, 4, none⟩) m cap] 75)).cell? ⟨rb, 1, none⟩ = some (.slice da n dc) := (Has.ofHeap hhV).2.1 1
      have z2 : (w2.alloc (.cells #[.int .u8 (kind : Int), .int .i64 (address : Int), .slice (some ⟨g, 4, none⟩) m cap] 75)).cell? ⟨w2.heap.size, 2, none⟩ = some (.slice (some ⟨g, 4, none⟩) m cap) := (Has.ofHeap hbkV).2.1 2
      have x2 : (w2.alloc (.cells #[.int .u8 (kind : Int), .int .i64 (address : Int), .slice (some ⟨g, 4, none⟩) m cap] 75)).cell? ⟨rb, 2, none⟩ = some (.bool st.bk) := (Has.ofHeap hhV).2.1 2
      have x3 : (w2.alloc (.cells #[.int .u8 (kind : Int), .int .i64 (address : Int), .slice (some ⟨g, 4, none⟩) m cap] 75)).cell? ⟨rb, 3, none⟩ = some (.bool st.en) := (Has.ofHeap hhV).2.1 3
      have y2 := (Has.ofHeap hhV).2.2 2
      have y3 := (Has.ofHeap hhV).2.2 3
      have hT := fun col => want_t rb col ln (w2.alloc (.cells #[.int .u8 (kind : Int), .int .i64 (address : Int), .slice (some ⟨g, 4, none⟩) m cap] 75)) c0
      have hF := fun col => want_f rb col ln (w2.alloc (.cells #[.int .u8 (kind : Int), .int .i64 (address : Int), .slice (some ⟨g, 4, none⟩) m cap] 75)) c0
      have hG8 := giveUp_any rb 106 8 ln (w2.alloc (.cells #[.int .u8 (kind : Int), .int .i64 (address : Int), .slice (some ⟨g, 4, none⟩) m cap] 75)) c0
      by_cases hk0 : kind = 0
      · have hk0' : (((kind : Int)) == 0) = true := by rw [beq_iff_eq]; omega
        have hPF : Hid (PF = datF st address d) := by show _ = _; rw [← hPF2.out]; unfold recF; rw [if_pos hk0]
        clear hPF2 hk0
        have hTD := takeData_any B rb ln st kind address g cap d _ hRV hBsV (by rw [hm.out]; omega) (by rw [hm.out]; exact hcap) (by rw [hn.out]; exact hD) hBsz
        rw [← hPF.out, hm.out] at hTD
        cases hPd : PF with
        | error x =>
          obtain ⟨c, col⟩ := x
          rw [hPd] at hTD
          go_wp2_with (go_at_call 31; (with_reducible refine Calls.mono hTD ?_); rintro e w4 ⟨hq, hB4, hS4⟩; have hq' : e = pan (c : Nat) ln (col : Nat) := hq; subst hq')
          try simp only [Exit.inBlock, Exit.then]
          exact ⟨rfl, by rw [hPd]; rfl, hBV.trans hB4, hSV.trans hS4⟩
        | ok st' =>
          rw [hPd] at hTD
          go_wp2_with (go_at_call 31; (with_reducible refine Calls.mono hTD ?_); rintro e w4 ⟨⟨hq, hR4⟩, hB4, hS4⟩; subst hq)
          go_end0
          exact ⟨by rw [hPd]; exact ⟨rfl, hR4⟩, hBV.trans hB4, hSV.trans hS4⟩
      · have hk0' : (((kind : Int)) == 0) = false := by rw [beq_eq_false_iff_ne]; omega
        by_cases hk1 : kind = 1
        · have hk1' : (((kind : Int)) == 1) = true := by rw [beq_iff_eq]; omega
          by_cases hm0 : m = 0
          · have hm0' : (((m : Int)) == 0) = true := by rw [beq_iff_eq]; omega
            by_cases ha0 : address = 0
            · have ha0' : (((address : Int)) == 0) = true := by rw [beq_iff_eq]; omega
              have hPF : Hid (PF = .ok ⟨st.D, st.bk, true⟩) := by
                show _ = _
                rw [← hPF2.out]; unfold recF; rw [if_neg hk0, if_pos hk1, if_neg (by rw [hm.out]; simpa using hm0), if_neg (by simpa using ha0)]
              clear hPF2 hm0 ha0 hk0 hk1
              have hhS : ((w2.alloc (.cells #[.int .u8 (kind : Int), .int .i64 (address : Int), .slice (some ⟨g, 4, none⟩) m cap] 75)).setCell ⟨rb, 3, none⟩ (.bool true)).heap[rb]? = some (.cells #[.int .i64 ln, .slice da n dc, .bool st.bk, .bool true] 39 (0, 0)) := by
                rw [heap_setCell_same _ rb 3 _ 39 _ hhV]; rfl
              have ownS : ((w2.alloc (.cells #[.int .u8 (kind : Int), .int .i64 (address : Int), .slice (some ⟨g, 4, none⟩) m cap] 75)).setCell ⟨rb, 3, none⟩ (.bool true)).ownsRow B 5 1 (.slice da n dc) st.D.length (v8 st.D) := by rw [hn.out]; exact own_set (i := 3) (u := .bool true) hownV hne9
              have hB2 : Below B w ((w2.alloc (.cells #[.int .u8 (kind : Int), .int .i64 (address : Int), .slice (some ⟨g, 4, none⟩) m cap] 75)).setCell ⟨rb, 3, none⟩ (.bool true)) := hBV.setCell (p := ⟨rb, 3, none⟩) hBr _
              have hS2 : Stay w ((w2.alloc (.cells #[.int .u8 (kind : Int), .int .i64 (address : Int), .slice (some ⟨g, 4, none⟩) m cap] 75)).setCell ⟨rb, 3, none⟩ (.bool true)) := hSV.trans (Stay.set hhV _)
              go_wp2_with (first | (go_at_call 32; (with_reducible refine Calls.mono (hT 2) ?_); rintro e w2 ⟨rfl, rfl⟩) | (go_at_call 32; (with_reducible refine Calls.mono (hT 4) ?_); rintro e w2 ⟨rfl, rfl⟩) | (go_at_call 32; (with_reducible refine Calls.mono (hF 2) ?_); rintro e w2 ⟨rfl, rfl⟩) | (go_at_call 32; (with_reducible refine Calls.mono (hF 4) ?_); rintro e w2 ⟨rfl, rfl⟩) | (go_at_call 29; (with_reducible refine Calls.mono hG8 ?_); rintro e w2 ⟨rfl, rfl⟩))
              go_end0
              exact ⟨by rw [hPF.out]; exact ⟨rfl, _, hhS, ownS, hBr, h256⟩, hB2, hS2⟩
            · have ha0' : (((address : Int)) == 0) = false := by rw [beq_eq_false_iff_ne]; omega
              have hPF : Hid (PF = .error (106, 4)) := by
                show _ = _
                rw [← hPF2.out]; unfold recF; rw [if_neg hk0, if_pos hk1, if_neg (by rw [hm.out]; simpa using hm0), if_pos ha0]
              clear hPF2 hm0 ha0 hk0 hk1
              go_wp2_with (first | (go_at_call 32; (with_reducible refine Calls.mono (hT 2) ?_); rintro e w2 ⟨rfl, rfl⟩) | (go_at_call 32; (with_reducible refine Calls.mono (hT 4) ?_); rintro e w2 ⟨rfl, rfl⟩) | (go_at_call 32; (with_reducible refine Calls.mono (hF 2) ?_); rintro e w2 ⟨rfl, rfl⟩) | (go_at_call 32; (with_reducible refine Calls.mono (hF 4) ?_); rintro e w2 ⟨rfl, rfl⟩) | (go_at_call 29; (with_reducible refine Calls.mono hG8 ?_); rintro e w2 ⟨rfl, rfl⟩))
              try simp only [Exit.inBlock, Exit.then]
              exact ⟨rfl, by rw [hPF.out]; rfl, hBV, hSV⟩
          · have hm0' : (((m : Int)) == 0) = false := by rw [beq_eq_false_iff_ne]; omega
            have hPF : Hid (PF = .error (106, 2)) := by
              show _ = _
              rw [← hPF2.out]; unfold recF; rw [if_neg hk0, if_pos hk1, if_pos (by rw [hm.out]; exact hm0)]
            clear hPF2 hm0 hk0 hk1
            go_wp2_with (first | (go_at_call 32; (with_reducible refine Calls.mono (hT 2) ?_); rintro e w2 ⟨rfl, rfl⟩) | (go_at_call 32; (with_reducible refine Calls.mono (hT 4) ?_); rintro e w2 ⟨rfl, rfl⟩) | (go_at_call 32; (with_reducible refine Calls.mono (hF 2) ?_); rintro e w2 ⟨rfl, rfl⟩) | (go_at_call 32; (with_reducible refine Calls.mono (hF 4) ?_); rintro e w2 ⟨rfl, rfl⟩) | (go_at_call 29; (with_reducible refine Calls.mono hG8 ?_); rintro e w2 ⟨rfl, rfl⟩))
            try simp only [Exit.inBlock, Exit.then]
            exact ⟨rfl, by rw [hPF.out]; rfl, hBV, hSV⟩
        · have hk1' : (((kind : Int)) == 1) = false := by rw [beq_eq_false_iff_ne]; omega
          by_cases hk4 : kind = 4
          · have hk4' : (((kind : Int)) == 4) = true := by rw [beq_iff_eq]; omega
            by_cases hm0 : m = 2
            · have hm0' : (((m : Int)) == 2) = true := by rw [beq_iff_eq]; omega
              by_cases ha0 : address = 0
              · have ha0' : (((address : Int)) == 0) = true := by rw [beq_iff_eq]; omega
                subst hm0
                obtain ⟨gb, go, eg, hgl, hcell⟩ := hBsV.cell (by rw [hm.out]; omega)
                cases eg
                have b4 : (w2.alloc (.cells #[.int .u8 (kind : Int), .int .i64 (address : Int), .slice (some ⟨g, 4, none⟩) 2 cap] 75)).cell? ⟨g, 4, none⟩ = some (.int .u8 ((d.getD 0 0 : Nat) : Int)) := hcell 0 (by rw [hm.out]; omega)
                have b5 : (w2.alloc (.cells #[.int .u8 (kind : Int), .int .i64 (address : Int), .slice (some ⟨g, 4, none⟩) 2 cap] 75)).cell? ⟨g, 5, none⟩ = some (.int .u8 ((d.getD 1 0 : Nat) : Int)) := hcell 1 (by rw [hm.out]; omega)
                have hd0 := getD_lt hBsV.1 0
                have hd1 := getD_lt hBsV.1 1
                have hPG : Hid (PF = if (256 * d.getD 0 0 + d.getD 1 0) * 65536 ≠ n then .error (106, 10) else .ok ⟨st.D, true, st.en⟩) := by
                  show _ = _
                  rw [← hPF2.out]; unfold recF; rw [if_neg hk0, if_neg hk1, if_pos hk4, if_neg (by rw [hm.out]; decide), if_neg (by simpa using ha0), hn.out]
                generalize d.getD 0 0 = d0 at *
                generalize d.getD 1 0 = d1 at *
                have hNW : ∀ W : World, W.cell? ⟨g, 4, none⟩ = some (.int .u8 (d0 : Int)) → W.cell? ⟨g, 5, none⟩ = some (.int .u8 (d1 : Int)) → Calls Try.prog 33 #[.slice (some ⟨g, 4, none⟩) 2 cap] W fun e w' => e = .returned (.int .i64 ((256 * d0 + d1 : Nat) : Int)) ∧ ∃ n, w' = W.drewN n := fun W q1 q2 => number_any g 4 cap d0 d1 W hd0 hd1 q1 q2
                have hx65 : 256 * d0 + d1 < 65536 := by omega
                generalize 256 * d0 + d1 = x at *
                have hmul : IntKind.i64.wrap ((x : Int) * 65536) = (x : Int) * 65536 := by rw [IntKind.wrap_i64]; omega
                clear hPF2 ha0 hcell hk0 hk1 hk4
                by_cases hxn : x * 65536 = n
                · have hxn' : (((x : Int) * 65536) == (n : Int)) = true := by rw [beq_iff_eq]; omega
                  have hPF : Hid (PF = .ok ⟨st.D, true, st.en⟩) := by show _ = _; rw [hPG.out, if_neg (by simpa using hxn)]
                  clear hPG hxn
                  go_upto_region 14 with (first | (go_at_call 32; (with_reducible refine Calls.mono (hT 2) ?_); rintro e w2 ⟨rfl, rfl⟩) | (go_at_call 32; (with_reducible refine Calls.mono (hT 4) ?_); rintro e w2 ⟨rfl, rfl⟩) | (go_at_call 32; (with_reducible refine Calls.mono (hF 2) ?_); rintro e w2 ⟨rfl, rfl⟩) | (go_at_call 32; (with_reducible refine Calls.mono (hF 4) ?_); rintro e w2 ⟨rfl, rfl⟩) | (go_at_call 29; (with_reducible refine Calls.mono hG8 ?_); rintro e w2 ⟨rfl, rfl⟩))
                  refine wp_region_noPanic ?_
                  refine wp_region_held_drew (S := fun w' => w'.cell? ⟨w2.heap.size, 2, none⟩ = some (.slice (some ⟨g, 4, none⟩) 2 cap) ∧ w'.cell? ⟨rb, 1, none⟩ = some (.slice da n dc) ∧ w'.cell? ⟨g, 4, none⟩ = some (.int .u8 (d0 : Int)) ∧ w'.cell? ⟨g, 5, none⟩ = some (.int .u8 (d1 : Int)) ∧ w'.cell? ⟨rb, 0, none⟩ = some (.int .i64 ln)) (by kernel_rfl) ?_ (fun hHeld => ?_)
                  · (try dsimp only)
                    exact ⟨z2, c1, b4, b5, c0⟩
                  refine wpAnyH_take (i := 0) (oi := { dst := some 52, op := Op.move (Operand.tmp 0), type := 37, pos := "hexreader.go:73", after := #[], guard := none }) (v := ?_) rfl (by kernel_rfl) (by kernel_rfl) (by kernel_rfl) (fun _ _ _ h => h) (Or.inl ⟨by rfl, ?_⟩) (by assumption) ?_
                  rotate_left
                  · intro wz hSz; (try dsimp only at hSz); go_simp; all_goals (with_reducible rfl)
                  (try simp only [Act.put, List.setIfInBounds_toArray, List.set_cons_zero, List.set_cons_succ])
                  refine wpAnyH_take (i := 1) (oi := { dst := some 53, op := Op.fieldAddr 75 (Operand.tmp 4) 2, type := 0, pos := "hexreader.go:73", after := #[], guard := none }) (v := ?_) rfl (by kernel_rfl) (by kernel_rfl) (by kernel_rfl) (fun _ _ _ h => h) (Or.inl ⟨by rfl, ?_⟩) (by assumption) ?_
                  rotate_left
                  · intro wz hSz; (try dsimp only at hSz); go_simp; all_goals (with_reducible rfl)
                  (try simp only [Act.put, List.setIfInBounds_toArray, List.set_cons_zero, List.set_cons_succ])
                  refine wpAnyH_take (i := 2) (oi := { dst := some 54, op := Op.load 22 (Operand.tmp 53), type := 22, pos := "hexreader.go:73", after := #[{ on := 1, ground := Ground.data }], guard := none }) (v := ?_) rfl (by kernel_rfl) (by kernel_rfl) (by kernel_rfl) (fun _ _ _ h => h) (Or.inl ⟨by rfl, ?_⟩) (by assumption) ?_
                  rotate_left
                  · intro wz hSz; (try dsimp only at hSz); go_simp; all_goals (with_reducible rfl)
                  (try simp only [Act.put, List.setIfInBounds_toArray, List.set_cons_zero, List.set_cons_succ])
                  refine wpAnyH_take (i := 5) (oi := { dst := some 57, op := Op.move (Operand.tmp 0), type := 37, pos := "hexreader.go:73", after := #[], guard := none }) (v := ?_) rfl (by kernel_rfl) (by kernel_rfl) (by kernel_rfl) (fun _ _ _ h => h) (Or.inl ⟨by rfl, ?_⟩) (by assumption) ?_
                  rotate_left
                  · intro wz hSz; (try dsimp only at hSz); go_simp; all_goals (with_reducible rfl)
                  (try simp only [Act.put, List.setIfInBounds_toArray, List.set_cons_zero, List.set_cons_succ])
                  refine wpAnyH_take (i := 6) (oi := { dst := some 58, op := Op.nilCheck (Operand.tmp 57), type := 0, pos := "hexreader.go:73", after := #[{ on := 5, ground := Ground.data }], guard := none }) (v := ?_) rfl (by kernel_rfl) (by kernel_rfl) (by kernel_rfl) (fun _ _ _ h => h) (Or.inl ⟨by rfl, ?_⟩) (by assumption) ?_
                  rotate_left
                  · intro wz hSz; (try dsimp only at hSz); go_simp; all_goals (with_reducible rfl)
                  (try simp only [Act.put, List.setIfInBounds_toArray, List.set_cons_zero, List.set_cons_succ])
                  refine wpAnyH_take (i := 7) (oi := { dst := some 59, op := Op.fieldAddr 39 (Operand.tmp 58) 1, type := 0, pos := "hexreader.go:73", after := #[{ on := 6, ground := Ground.data }], guard := none }) (v := ?_) rfl (by kernel_rfl) (by kernel_rfl) (by kernel_rfl) (fun _ _ _ h => h) (Or.inl ⟨by rfl, ?_⟩) (by assumption) ?_
                  rotate_left
                  · intro wz hSz; (try dsimp only at hSz); go_simp; all_goals (with_reducible rfl)
                  (try simp only [Act.put, List.setIfInBounds_toArray, List.set_cons_zero, List.set_cons_succ])
                  refine wpAnyH_take (i := 8) (oi := { dst := some 60, op := Op.load 22 (Operand.tmp 59), type := 22, pos := "hexreader.go:73", after := #[{ on := 7, ground := Ground.data }], guard := none }) (v := ?_) rfl (by kernel_rfl) (by kernel_rfl) (by kernel_rfl) (fun _ _ _ h => h) (Or.inl ⟨by rfl, ?_⟩) (by assumption) ?_
                  rotate_left
                  · intro wz hSz; (try dsimp only at hSz); go_simp; all_goals (with_reducible rfl)
                  (try simp only [Act.put, List.setIfInBounds_toArray, List.set_cons_zero, List.set_cons_succ])
                  refine wpAnyH_take (i := 9) (oi := { dst := some 61, op := Op.call { callee := Callee.builtin Builtin.len, args := #[Operand.tmp 60], argTypes := #[22] }, type := 3, pos := "hexreader.go:73", after := #[{ on := 8, ground := Ground.data }], guard := none }) (v := ?_) rfl (by kernel_rfl) (by kernel_rfl) (by kernel_rfl) (fun _ _ _ h => h) (Or.inl ⟨by rfl, ?_⟩) (by assumption) ?_
                  rotate_left
                  · intro wz hSz; (try dsimp only at hSz); go_simp; all_goals (with_reducible rfl)
                  (try simp only [Act.put, List.setIfInBounds_toArray, List.set_cons_zero, List.set_cons_succ])
                  refine wpAnyH_ready (rs := [3]) (by kernel_rfl) (by simp) ?_
                  refine AllReadyH.cons (o := { dst := some 55, op := Op.call { callee := Callee.value (Operand.func 33), args := #[Operand.tmp 54], argTypes := #[22] }, type := 3, pos := "hexreader.go:73", after := #[{ on := 2, ground := Ground.data }], guard := none }) rfl (fun K hK => ?_) AllReadyH.nil
                  go_simp
                  (go_at_call 33; (with_reducible refine Calls.mono (hNW _ hHeld.2.2.1 hHeld.2.2.2.1) ?_); rintro e w9 ⟨rfl, n9, rfl⟩)
                  go_wp2_with fail
                  refine hK.out _ _ ?_ (fun hHeld => ?_)
                  · (try dsimp only)
                    exact ⟨(drewN_cell _ _ _).trans hHeld.1, (drewN_cell _ _ _).trans hHeld.2.1, (drewN_cell _ _ _).trans hHeld.2.2.1, (drewN_cell _ _ _).trans hHeld.2.2.2.1, (drewN_cell _ _ _).trans hHeld.2.2.2.2⟩
                  clear hK K
                  (try simp only [Act.put, List.setIfInBounds_toArray, List.set_cons_zero, List.set_cons_succ])
                  refine wpAnyH_take (i := 4) (oi := { dst := some 56, op := Op.binOp BinOp.mul 3 (Operand.tmp 55) (Operand.const (Value.int IntKind.i64 65536)) 3, type := 3, pos := "hexreader.go:73", after := #[{ on := 3, ground := Ground.data }], guard := none }) (v := ?_) rfl (by kernel_rfl) (by kernel_rfl) (by kernel_rfl) (fun _ _ _ h => h) (Or.inl ⟨by rfl, ?_⟩) (by assumption) ?_
                  rotate_left
                  · intro wz hSz; (try dsimp only at hSz); go_simp; all_goals (with_reducible rfl)
                  (try simp only [Act.put, List.setIfInBounds_toArray, List.set_cons_zero, List.set_cons_succ])
                  refine wpAnyH_take (i := 10) (oi := { dst := some 62, op := Op.binOp BinOp.eql 3 (Operand.tmp 56) (Operand.tmp 61) 3, type := 4, pos := "hexreader.go:73", after := #[{ on := 4, ground := Ground.data }, { on := 9, ground := Ground.data }], guard := none }) (v := ?_) rfl (by kernel_rfl) (by kernel_rfl) (by kernel_rfl) (fun _ _ _ h => h) (Or.inl ⟨by rfl, ?_⟩) (by assumption) ?_
                  rotate_left
                  · intro wz hSz; (try dsimp only at hSz); go_simp; all_goals (with_reducible rfl)
                  (try simp only [Act.put, List.setIfInBounds_toArray, List.set_cons_zero, List.set_cons_succ])
                  refine wpAnyH_ready (rs := [11]) (by kernel_rfl) (by simp) ?_
                  refine AllReadyH.cons (o := { dst := some 63, op := Op.call { callee := Callee.value (Operand.func 32), args := #[Operand.tmp 52, Operand.tmp 62, Operand.const (Value.int IntKind.i64 10)], argTypes := #[37, 4, 3] }, type := 0, pos := "hexreader.go:73", after := #[{ on := 0, ground := Ground.data }, { on := 10, ground := Ground.data }, { on := 3, ground := Ground.chain }], guard := none }) rfl (fun K hK => ?_) AllReadyH.nil
                  go_simp
                  (go_at_call 32; (with_reducible refine Calls.mono (want_t rb 10 ln _ hHeld.2.2.2.2) ?_); rintro e w9 ⟨rfl, rfl⟩)
                  go_wp2_with fail
                  refine hK.out _ _ ?_ (fun hHeld => ?_)
                  · (try dsimp only)
                    exact hHeld
                  clear hK K
                  (try simp only [Act.put, List.setIfInBounds_toArray, List.set_cons_zero, List.set_cons_succ])
                  refine wpAnyH_done (by kernel_rfl) ?_ _
                  refine NoPanic.normal ?_
                  clear hHeld
                  have hEN : Below (w2.alloc (.cells #[.int .u8 (kind : Int), .int .i64 (address : Int), .slice (some ⟨g, 4, none⟩) 2 cap] 75)).heap.size (w2.alloc (.cells #[.int .u8 (kind : Int), .int .i64 (address : Int), .slice (some ⟨g, 4, none⟩) 2 cap] 75)) ((w2.alloc (.cells #[.int .u8 (kind : Int), .int .i64 (address : Int), .slice (some ⟨g, 4, none⟩) 2 cap] 75)).drewN (1 + n9)) := bel_drewN (Below.refl _ _)
                  have hhN := (hEN.block rb (Array.getElem?_eq_some_iff.1 hhV).1).trans hhV
                  have ownN := own_only hownV (Only.of_below (S := fun _ => False) hEN) (fun _ _ h => h)
                  have hBN : Below B w ((w2.alloc (.cells #[.int .u8 (kind : Int), .int .i64 (address : Int), .slice (some ⟨g, 4, none⟩) 2 cap] 75)).drewN (1 + n9)) := bel_drewN hBV
                  have hSN : Stay w ((w2.alloc (.cells #[.int .u8 (kind : Int), .int .i64 (address : Int), .slice (some ⟨g, 4, none⟩) 2 cap] 75)).drewN (1 + n9)) := hSV.trans (Stay.below hEN)
                  have x2N : ((w2.alloc (.cells #[.int .u8 (kind : Int), .int .i64 (address : Int), .slice (some ⟨g, 4, none⟩) 2 cap] 75)).drewN (1 + n9)).cell? ⟨rb, 2, none⟩ = some (.bool st.bk) := (Has.ofHeap hhN).2.1 2
                  have y2N := (Has.ofHeap hhN).2.2 2
                  clear hEN
                  generalize (w2.alloc (.cells #[.int .u8 (kind : Int), .int .i64 (address : Int), .slice (some ⟨g, 4, none⟩) 2 cap] 75)).drewN (1 + n9) = Z at *
                  have hhS : (Z.setCell ⟨rb, 2, none⟩ (.bool true)).heap[rb]? = some (.cells #[.int .i64 ln, .slice da n dc, .bool true, .bool st.en] 39 (0, 0)) := by
                    rw [heap_setCell_same _ rb 2 _ 39 _ hhN]; rfl
                  have ownS : (Z.setCell ⟨rb, 2, none⟩ (.bool true)).ownsRow B 5 1 (.slice da n dc) st.D.length (v8 st.D) := by rw [hn.out]; exact own_set (i := 2) (u := .bool true) ownN hne9
                  go_wp2
                  go_end0
                  exact ⟨by rw [hPF.out]; exact ⟨rfl, _, hhS, ownS, hBr, h256⟩, hBN.setCell (p := ⟨rb, 2, none⟩) hBr _, hSN.trans (Stay.set hhN _)⟩
                · have hxn' : (((x : Int) * 65536) == (n : Int)) = false := by rw [beq_eq_false_iff_ne]; omega
                  have hPF : Hid (PF = .error (106, 10)) := by show _ = _; rw [hPG.out, if_pos hxn]
                  clear hPG hxn
                  go_upto_region 14 with (first | (go_at_call 32; (with_reducible refine Calls.mono (hT 2) ?_); rintro e w2 ⟨rfl, rfl⟩) | (go_at_call 32; (with_reducible refine Calls.mono (hT 4) ?_); rintro e w2 ⟨rfl, rfl⟩) | (go_at_call 32; (with_reducible refine Calls.mono (hF 2) ?_); rintro e w2 ⟨rfl, rfl⟩) | (go_at_call 32; (with_reducible refine Calls.mono (hF 4) ?_); rintro e w2 ⟨rfl, rfl⟩) | (go_at_call 29; (with_reducible refine Calls.mono hG8 ?_); rintro e w2 ⟨rfl, rfl⟩))
                  refine wp_region_held_drew (S := fun w' => w'.cell? ⟨w2.heap.size, 2, none⟩ = some (.slice (some ⟨g, 4, none⟩) 2 cap) ∧ w'.cell? ⟨rb, 1, none⟩ = some (.slice da n dc) ∧ w'.cell? ⟨g, 4, none⟩ = some (.int .u8 (d0 : Int)) ∧ w'.cell? ⟨g, 5, none⟩ = some (.int .u8 (d1 : Int)) ∧ w'.cell? ⟨rb, 0, none⟩ = some (.int .i64 ln)) (by kernel_rfl) ?_ (fun hHeld => ?_)
                  · (try dsimp only)
                    exact ⟨z2, c1, b4, b5, c0⟩
                  refine wpAnyH_take (i := 0) (oi := { dst := some 52, op := Op.move (Operand.tmp 0), type := 37, pos := "hexreader.go:73", after := #[], guard := none }) (v := ?_) rfl (by kernel_rfl) (by kernel_rfl) (by kernel_rfl) (fun _ _ _ h => h) (Or.inl ⟨by rfl, ?_⟩) (by assumption) ?_
                  rotate_left
                  · intro wz hSz; (try dsimp only at hSz); go_simp; all_goals (with_reducible rfl)
                  (try simp only [Act.put, List.setIfInBounds_toArray, List.set_cons_zero, List.set_cons_succ])
                  refine wpAnyH_take (i := 1) (oi := { dst := some 53, op := Op.fieldAddr 75 (Operand.tmp 4) 2, type := 0, pos := "hexreader.go:73", after := #[], guard := none }) (v := ?_) rfl (by kernel_rfl) (by kernel_rfl) (by kernel_rfl) (fun _ _ _ h => h) (Or.inl ⟨by rfl, ?_⟩) (by assumption) ?_
                  rotate_left
                  · intro wz hSz; (try dsimp only at hSz); go_simp; all_goals (with_reducible rfl)
                  (try simp only [Act.put, List.setIfInBounds_toArray, List.set_cons_zero, List.set_cons_succ])
                  refine wpAnyH_take (i := 2) (oi := { dst := some 54, op := Op.load 22 (Operand.tmp 53), type := 22, pos := "hexreader.go:73", after := #[{ on := 1, ground := Ground.data }], guard := none }) (v := ?_) rfl (by kernel_rfl) (by kernel_rfl) (by kernel_rfl) (fun _ _ _ h => h) (Or.inl ⟨by rfl, ?_⟩) (by assumption) ?_
                  rotate_left
                  · intro wz hSz; (try dsimp only at hSz); go_simp; all_goals (with_reducible rfl)
                  (try simp only [Act.put, List.setIfInBounds_toArray, List.set_cons_zero, List.set_cons_succ])
                  refine wpAnyH_take (i := 5) (oi := { dst := some 57, op := Op.move (Operand.tmp 0), type := 37, pos := "hexreader.go:73", after := #[], guard := none }) (v := ?_) rfl (by kernel_rfl) (by kernel_rfl) (by kernel_rfl) (fun _ _ _ h => h) (Or.inl ⟨by rfl, ?_⟩) (by assumption) ?_
                  rotate_left
                  · intro wz hSz; (try dsimp only at hSz); go_simp; all_goals (with_reducible rfl)
                  (try simp only [Act.put, List.setIfInBounds_toArray, List.set_cons_zero, List.set_cons_succ])
                  refine wpAnyH_take (i := 6) (oi := { dst := some 58, op := Op.nilCheck (Operand.tmp 57), type := 0, pos := "hexreader.go:73", after := #[{ on := 5, ground := Ground.data }], guard := none }) (v := ?_) rfl (by kernel_rfl) (by kernel_rfl) (by kernel_rfl) (fun _ _ _ h => h) (Or.inl ⟨by rfl, ?_⟩) (by assumption) ?_
                  rotate_left
                  · intro wz hSz; (try dsimp only at hSz); go_simp; all_goals (with_reducible rfl)
                  (try simp only [Act.put, List.setIfInBounds_toArray, List.set_cons_zero, List.set_cons_succ])
                  refine wpAnyH_take (i := 7) (oi := { dst := some 59, op := Op.fieldAddr 39 (Operand.tmp 58) 1, type := 0, pos := "hexreader.go:73", after := #[{ on := 6, ground := Ground.data }], guard := none }) (v := ?_) rfl (by kernel_rfl) (by kernel_rfl) (by kernel_rfl) (fun _ _ _ h => h) (Or.inl ⟨by rfl, ?_⟩) (by assumption) ?_
                  rotate_left
                  · intro wz hSz; (try dsimp only at hSz); go_simp; all_goals (with_reducible rfl)
                  (try simp only [Act.put, List.setIfInBounds_toArray, List.set_cons_zero, List.set_cons_succ])
                  refine wpAnyH_take (i := 8) (oi := { dst := some 60, op := Op.load 22 (Operand.tmp 59), type := 22, pos := "hexreader.go:73", after := #[{ on := 7, ground := Ground.data }], guard := none }) (v := ?_) rfl (by kernel_rfl) (by kernel_rfl) (by kernel_rfl) (fun _ _ _ h => h) (Or.inl ⟨by rfl, ?_⟩) (by assumption) ?_
                  rotate_left
                  · intro wz hSz; (try dsimp only at hSz); go_simp; all_goals (with_reducible rfl)
                  (try simp only [Act.put, List.setIfInBounds_toArray, List.set_cons_zero, List.set_cons_succ])
                  refine wpAnyH_take (i := 9) (oi := { dst := some 61, op := Op.call { callee := Callee.builtin Builtin.len, args := #[Operand.tmp 60], argTypes := #[22] }, type := 3, pos := "hexreader.go:73", after := #[{ on := 8, ground := Ground.data }], guard := none }) (v := ?_) rfl (by kernel_rfl) (by kernel_rfl) (by kernel_rfl) (fun _ _ _ h => h) (Or.inl ⟨by rfl, ?_⟩) (by assumption) ?_
                  rotate_left
                  · intro wz hSz; (try dsimp only at hSz); go_simp; all_goals (with_reducible rfl)
                  (try simp only [Act.put, List.setIfInBounds_toArray, List.set_cons_zero, List.set_cons_succ])
                  refine wpAnyH_ready (rs := [3]) (by kernel_rfl) (by simp) ?_
                  refine AllReadyH.cons (o := { dst := some 55, op := Op.call { callee := Callee.value (Operand.func 33), args := #[Operand.tmp 54], argTypes := #[22] }, type := 3, pos := "hexreader.go:73", after := #[{ on := 2, ground := Ground.data }], guard := none }) rfl (fun K hK => ?_) AllReadyH.nil
                  go_simp
                  (go_at_call 33; (with_reducible refine Calls.mono (hNW _ hHeld.2.2.1 hHeld.2.2.2.1) ?_); rintro e w9 ⟨rfl, n9, rfl⟩)
                  go_wp2_with fail
                  refine hK.out _ _ ?_ (fun hHeld => ?_)
                  · (try dsimp only)
                    exact ⟨(drewN_cell _ _ _).trans hHeld.1, (drewN_cell _ _ _).trans hHeld.2.1, (drewN_cell _ _ _).trans hHeld.2.2.1, (drewN_cell _ _ _).trans hHeld.2.2.2.1, (drewN_cell _ _ _).trans hHeld.2.2.2.2⟩
                  clear hK K
                  (try simp only [Act.put, List.setIfInBounds_toArray, List.set_cons_zero, List.set_cons_succ])
                  refine wpAnyH_take (i := 4) (oi := { dst := some 56, op := Op.binOp BinOp.mul 3 (Operand.tmp 55) (Operand.const (Value.int IntKind.i64 65536)) 3, type := 3, pos := "hexreader.go:73", after := #[{ on := 3, ground := Ground.data }], guard := none }) (v := ?_) rfl (by kernel_rfl) (by kernel_rfl) (by kernel_rfl) (fun _ _ _ h => h) (Or.inl ⟨by rfl, ?_⟩) (by assumption) ?_
                  rotate_left
                  · intro wz hSz; (try dsimp only at hSz); go_simp; all_goals (with_reducible rfl)
                  (try simp only [Act.put, List.setIfInBounds_toArray, List.set_cons_zero, List.set_cons_succ])
                  refine wpAnyH_take (i := 10) (oi := { dst := some 62, op := Op.binOp BinOp.eql 3 (Operand.tmp 56) (Operand.tmp 61) 3, type := 4, pos := "hexreader.go:73", after := #[{ on := 4, ground := Ground.data }, { on := 9, ground := Ground.data }], guard := none }) (v := ?_) rfl (by kernel_rfl) (by kernel_rfl) (by kernel_rfl) (fun _ _ _ h => h) (Or.inl ⟨by rfl, ?_⟩) (by assumption) ?_
                  rotate_left
                  · intro wz hSz; (try dsimp only at hSz); go_simp; all_goals (with_reducible rfl)
                  (try simp only [Act.put, List.setIfInBounds_toArray, List.set_cons_zero, List.set_cons_succ])
                  refine wpAnyH_ready (rs := [11]) (by kernel_rfl) (by simp) ?_
                  refine AllReadyH.cons (o := { dst := some 63, op := Op.call { callee := Callee.value (Operand.func 32), args := #[Operand.tmp 52, Operand.tmp 62, Operand.const (Value.int IntKind.i64 10)], argTypes := #[37, 4, 3] }, type := 0, pos := "hexreader.go:73", after := #[{ on := 0, ground := Ground.data }, { on := 10, ground := Ground.data }, { on := 3, ground := Ground.chain }], guard := none }) rfl (fun K hK => ?_) AllReadyH.nil
                  go_simp
                  (go_at_call 32; (with_reducible refine Calls.mono (want_f rb 10 ln _ hHeld.2.2.2.2) ?_); rintro e w9 ⟨rfl, rfl⟩)
                  exact ⟨rfl, by rw [hPF.out]; rfl, bel_drewN hBV, hSV.trans (Stay.below (bel_drewN (Below.refl _ _)))⟩
              · have ha0' : (((address : Int)) == 0) = false := by rw [beq_eq_false_iff_ne]; omega
                have hPF : Hid (PF = .error (106, 4)) := by
                  show _ = _
                  rw [← hPF2.out]; unfold recF; rw [if_neg hk0, if_neg hk1, if_pos hk4, if_neg (by rw [hm.out]; simpa using hm0), if_pos ha0]
                clear hPF2 hm0 ha0 hk0 hk1 hk4
                go_wp2_with (first | (go_at_call 32; (with_reducible refine Calls.mono (hT 2) ?_); rintro e w2 ⟨rfl, rfl⟩) | (go_at_call 32; (with_reducible refine Calls.mono (hT 4) ?_); rintro e w2 ⟨rfl, rfl⟩) | (go_at_call 32; (with_reducible refine Calls.mono (hF 2) ?_); rintro e w2 ⟨rfl, rfl⟩) | (go_at_call 32; (with_reducible refine Calls.mono (hF 4) ?_); rintro e w2 ⟨rfl, rfl⟩) | (go_at_call 29; (with_reducible refine Calls.mono hG8 ?_); rintro e w2 ⟨rfl, rfl⟩))
                try simp only [Exit.inBlock, Exit.then]
                exact ⟨rfl, by rw [hPF.out]; rfl, hBV, hSV⟩
            · have hm0' : (((m : Int)) == 2) = false := by rw [beq_eq_false_iff_ne]; omega
              have hPF : Hid (PF = .error (106, 2)) := by
                show _ = _
                rw [← hPF2.out]; unfold recF; rw [if_neg hk0, if_neg hk1, if_pos hk4, if_pos (by rw [hm.out]; exact hm0)]
              clear hPF2 hm0 hk0 hk1 hk4
              go_wp2_with (first | (go_at_call 32; (with_reducible refine Calls.mono (hT 2) ?_); rintro e w2 ⟨rfl, rfl⟩) | (go_at_call 32; (with_reducible refine Calls.mono (hT 4) ?_); rintro e w2 ⟨rfl, rfl⟩) | (go_at_call 32; (with_reducible refine Calls.mono (hF 2) ?_); rintro e w2 ⟨rfl, rfl⟩) | (go_at_call 32; (with_reducible refine Calls.mono (hF 4) ?_); rintro e w2 ⟨rfl, rfl⟩) | (go_at_call 29; (with_reducible refine Calls.mono hG8 ?_); rintro e w2 ⟨rfl, rfl⟩))
              try simp only [Exit.inBlock, Exit.then]
              exact ⟨rfl, by rw [hPF.out]; rfl, hBV, hSV⟩
          · have hk4' : (((kind : Int)) == 4) = false := by rw [beq_eq_false_iff_ne]; omega
            have hPF : Hid (PF = .error (106, 8)) := by
              show _ = _
              rw [← hPF2.out]; unfold recF; rw [if_neg hk0, if_neg hk1, if_neg hk4]
            clear hPF2 hk0 hk1 hk4
            go_wp2_with (first | (go_at_call 32; (with_reducible refine Calls.mono (hT 2) ?_); rintro e w2 ⟨rfl, rfl⟩) | (go_at_call 32; (with_reducible refine Calls.mono (hT 4) ?_); rintro e w2 ⟨rfl, rfl⟩) | (go_at_call 32; (with_reducible refine Calls.mono (hF 2) ?_); rintro e w2 ⟨rfl, rfl⟩) | (go_at_call 32; (with_reducible refine Calls.mono (hF 4) ?_); rintro e w2 ⟨rfl, rfl⟩) | (go_at_call 29; (with_reducible refine Calls.mono hG8 ?_); rintro e w2 ⟨rfl, rfl⟩))
            try simp only [Exit.inBlock, Exit.then]
            exact ⟨rfl, by rw [hPF.out]; rfl, hBV, hSV⟩
end Go.Proofs.Ytbgfeogigjjmdaa
