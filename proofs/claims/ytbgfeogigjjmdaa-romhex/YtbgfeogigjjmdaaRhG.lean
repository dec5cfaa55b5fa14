import Derived.Test.YtbgfeogigjjmdaaRhF
import Derived.Test.YtbgfeogigjjmdaaHxJ
namespace Go.Proofs.Ytbgfeogigjjmdaa
open Go.RowKit
set_option linter.unusedVariables false

theorem parF_err {l : List Nat} {c col : Nat} (h : parF l = .error (c, col)) : c = 107 ∨ c = 105 := by
  unfold parF at h
  split at h
  · cases h; exact .inl rfl
  · split at h
    · cases h; exact .inl rfl
    · split at h
      · cases h; exact .inl rfl
      · split at h
        · cases h; exact .inl rfl
        · split at h
          · cases h; exact .inr rfl
          · cases h
theorem dataF_get {all : List Nat} {i : Nat} (h : i < all.getD 0 0) : (dataF all).getD i 0 = all.getD (4 + i) 0 := by
  unfold dataF
  generalize all.getD 0 0 = n at h
  rw [List.getD_eq_getElem?_getD, List.getD_eq_getElem?_getD, List.getElem?_take_of_lt h, List.getElem?_drop]
theorem dataF_len {all : List Nat} (h : all.length = 5 + all.getD 0 0) : (dataF all).length = all.getD 0 0 := by
  unfold dataF
  rw [List.length_take, List.length_drop, h]; omega

set_option maxRecDepth 100000 in
set_option maxHeartbeats 8000000 in
theorem burnLine_any (B xb : Nat) (st : Rd) (s : ByteArray) (w : World) (hs : s.size < 4611686018427387904) (hR : BU w B xb st) (hD : st.D.length ≤ 1048576) (hBw : B ≤ w.heap.size) :
    Calls Try.prog 15 #[.pointer (some ⟨xb, 0, none⟩), .string s] w fun e w' => BuP (linF st (nl s)) B xb e w' ∧ Below B w w' := by
  obtain ⟨RS, hRS⟩ : ∃ RS, linF st (nl s) = RS := ⟨_, rfl⟩
  rw [hRS]
  unfold linF at hRS
  have hR' : Hid (BU w B xb st) := hR
  obtain ⟨dv, hh, hown, hBr, h256⟩ := hR
  have k1 : w.cell? ⟨xb, 1, none⟩ = some (.bool st.en) := (Has.ofHeap hh).2.1 1
  clear hh hown h256
  cases hen : st.en with
  | true =>
    rw [if_pos hen] at hRS
    rw [hen] at k1
    have hRS' : Hid (_ = RS) := hRS
    clear hRS hen
    go_enter Try.func15, Try.ntmps15
    go_wp2
    go_ret2
    exact ⟨by rw [← hRS'.out]; rfl, Below.refl _ _⟩
  | false =>
    rw [if_neg (by rw [hen]; decide)] at hRS
    rw [hen] at k1
    have hP := parse_any s w hs
    cases hpf : parF (nl s) with
    | error ec =>
      obtain ⟨c, col⟩ := ec
      rw [hpf] at hRS hP
      have hc : ((c : Int) != 0) = true := by rcases parF_err hpf with h | h <;> subst h <;> rfl
      have hRS' : Hid (Except.error (c, col) = RS) := hRS
      clear hRS hen hpf
      go_enter Try.func15, Try.ntmps15
      go_wp2_with (go_at_call 23; (with_reducible refine Calls.mono hP ?_); rintro e w1 ⟨he, hE1⟩; have he' : e = .returned (.tuple #[.slice none 0 0, .int .i64 ((c : Nat) : Int), .int .i64 ((col : Nat) : Int)]) := he; subst he')
      go_ret2
      exact ⟨by rw [← hRS'.out]; rfl, hE1.mono hBw⟩
    | ok all =>
      obtain ⟨hal, ha256⟩ := parF_ok hpf
      rw [hpf] at hRS hP
      have hRS : recF st (kindF all) (addrF all) (dataF all) = RS := hRS
      have hdl := dataF_len hal
      have hg8 := getD_lt ha256
      have hda : ∀ x ∈ dataF all, x < 256 := fun x hx => ha256 x (List.mem_of_mem_drop (List.mem_of_mem_take hx))
      have hdg : ∀ i, i < all.getD 0 0 → (dataF all).getD i 0 = all.getD (4 + i) 0 := fun i hi => dataF_get hi
      have hcl0 : Hid (∀ (W : World) (B' : Nat) (v : Value), W.ownsRow B' 5 1 v all.length (v8 all) → ∃ g C, v = .slice (some ⟨g, 0, none⟩) all.length C ∧ all.length ≤ C ∧ B' ≤ g ∧ g < W.heap.size ∧ ∀ i, i < all.length → W.cell? ⟨g, i, none⟩ = some (.int .u8 ((all.getD i 0 : Nat) : Int))) := by
        intro W B' v ho
        have ho' := ho
        rcases ho.2 with ⟨_, h0⟩ | ⟨g, cap, cur, rfl, h1, h2, hc, _⟩
        · omega
        · refine ⟨g, cap, rfl, hc, h1, (Array.getElem?_eq_some_iff.1 h2).1, fun i hi => ?_⟩
          rw [ho'.cellAt i (by omega), v8_get _ i hi]
      have hK : kindF all = all.getD 3 0 := rfl
      have hA : addrF all = 256 * all.getD 1 0 + all.getD 2 0 := rfl
      rw [hK, hA] at hRS
      have l0 := hg8 0
      have l1 := hg8 1
      have l2 := hg8 2
      have l3 := hg8 3
      have l4 := hg8 4
      have l5 := hg8 5
      have hen' : Hid (st.en = false) := hen
      clear hK hA hpf hen hg8 ha256
      go_enter Try.func15, Try.ntmps15
      go_upto_region 6 with (go_at_call 23; (with_reducible refine Calls.mono hP ?_); rintro e w1 ⟨he, hE1⟩; obtain ⟨va, he', hoA⟩ := he; subst he')
      obtain ⟨g, C, rfl, hC, hg1, hg2, hcl⟩ := hcl0.out w1 _ va hoA
      have hR1 := hR'.out.below hE1
      obtain ⟨dv, hh, hown, hBr, h256⟩ := hR1
      obtain ⟨da, dc, rfl⟩ := own_slice' hown
      have c0 := hcl 0 (by omega)
      have c1 := hcl 1 (by omega)
      have c2 := hcl 2 (by omega)
      have c3 := hcl 3 (by omega)
      have hcd : Hid (∀ i, i < all.getD 0 0 → w1.cell? ⟨g, 4 + i, none⟩ = some (.int .u8 (((dataF all).getD i 0 : Nat) : Int))) := fun i hi => by rw [hdg i hi]; exact hcl (4 + i) (by omega)
      have hd4 : 0 < all.getD 0 0 → (dataF all).getD 0 0 = all.getD 4 0 := fun h => hdg 0 h
      have hd5 : 1 < all.getD 0 0 → (dataF all).getD 1 0 = all.getD 5 0 := fun h => hdg 1 h
      have hd45 : Hid ((0 < all.getD 0 0 → (dataF all).getD 0 0 = all.getD 4 0) ∧ (1 < all.getD 0 0 → (dataF all).getD 1 0 = all.getD 5 0)) := ⟨hd4, hd5⟩
      clear hd4 hd5 hdg
      have hq : Hid (256 * all.getD 1 0 + all.getD 2 0 < 65536) := by show _ < _; omega
      have q0 : 256 * ((all.getD 1 0 : Nat) : Int) + ((all.getD 2 0 : Nat) : Int) = ((256 * all.getD 1 0 + all.getD 2 0 : Nat) : Int) := by omega
      generalize all.getD 0 0 = a0 at *
      generalize all.getD 1 0 = a1 at *
      generalize all.getD 2 0 = a2 at *
      generalize all.getD 3 0 = a3 at *
      generalize all.getD 4 0 = a4 at *
      generalize all.getD 5 0 = a5 at *
      generalize 256 * a1 + a2 = AD at *
      generalize dataF all = d at *
      have hm : Hid (all.length = 5 + a0) := hal
      generalize all.length = N at *
      have hN1 : 5 ≤ N := by omega
      have hN2 : 4 + a0 ≤ C := by omega
      have hal' : Hid (N = 5 + a0) := hal
      have hdl' : Hid (d.length = a0) := hdl
      clear hal hdl hcl0 hoA hP hm
      go_quiet (fail)
      have hEn : Below w1.heap.size w1 (w1.drewN nq) := bel_drewN (Below.refl _ _)
      have hhn : Hid ((w1.drewN nq).heap[xb]? = some (.cells #[.slice da st.D.length dc, .bool st.en, .bool st.bk] 44 (0, 0))) := (hEn.block xb (Array.getElem?_eq_some_iff.1 hh).1).trans hh
      have hon : Hid ((w1.drewN nq).ownsRow B 5 1 (.slice da st.D.length dc) st.D.length (v8 st.D)) := own_only hown (Only.of_below (S := fun _ => False) hEn) (fun _ _ h => h)
      have hcn : Hid (∀ i, i < a0 → (w1.drewN nq).cell? ⟨g, 4 + i, none⟩ = some (.int .u8 ((d.getD i 0 : Nat) : Int))) := fun i hi => (drewN_cell _ _ _).trans (hcd.out i hi)
      have hB1 : Below B w w1 := hE1.mono hBw
      have hBn : Below B w (w1.drewN nq) := bel_drewN hB1
      have hgn : g < (w1.drewN nq).heap.size := Nat.lt_of_lt_of_le hg2 hEn.size
      have hBs : B ≤ (w1.drewN nq).heap.size := Nat.le_trans hBw hBn.size
      clear hEn hh hown hcd hB1 hE1 c0 c1 c2 c3 hcl q0 l1 l2
      generalize w1.drewN nq = W at *
      have k0 : W.cell? ⟨xb, 0, none⟩ = some (.slice da st.D.length dc) := (Has.ofHeap hhn.out).2.1 0
      have hH := Has.ofHeap hhn.out
      have k1 : W.cell? ⟨xb, 1, none⟩ = some (.bool st.en) := hH.2.1 1
      have y1 := hH.2.2 1
      have k2 : W.cell? ⟨xb, 2, none⟩ = some (.bool st.bk) := hH.2.1 2
      have y2 := hH.2.2 2
      have hne : (Value.slice da st.D.length dc).ownBlock ≠ some xb := Lib.ownBlock_ne hon.out hhn.out (by decide)
      unfold recF at hRS
      clear hH
      by_cases h0 : a3 = 0
      · rw [if_pos h0] at hRS
        have f0 : ((a3 : Int) == 0) = true := by simp; omega
        have hRS' : Hid (datF st AD d = RS) := hRS
        have hBsd : Bs W (some ⟨g, 4, none⟩) d := ⟨hda, by
          rcases Nat.eq_zero_or_pos a0 with h | h
          · exact .inl (List.eq_nil_of_length_eq_zero (by rw [hdl'.out]; exact h))
          · exact .inr ⟨g, 4, rfl, hgn, fun i hi => hcn.out i (by rw [hdl'.out] at hi; exact hi)⟩⟩
        have hcall := burnData_any B xb st AD g 4 (C - 4) d W ⟨_, hhn.out, hon.out, hBr, h256⟩ hBsd (by rw [hdl'.out]; omega) hD hBs
        rw [hdl'.out, hRS'.out] at hcall
        have hsl : ∀ V : World, Sem.run Try.prog (Instr.slice 22 (.slice (some ⟨g, 0, none⟩) N C) (some (.int .i64 4)) (some (.int .i64 (4 + (a0 : Int)))) none) V = .ok (.slice (some ⟨g, 4, none⟩) a0 (C - 4)) V := fun V => by
          have := sl_lh g 0 N C 4 (4 + a0) (by omega) (by omega) (by omega) 4 (4 + (a0 : Int)) rfl (by omega) V
          rw [show 4 + a0 - 4 = a0 by omega, Nat.zero_add] at this
          exact this
        clear hRS h0 hRS' hcn hBsd hda
        cases RS with
        | error ec =>
          obtain ⟨c, col⟩ := ec
          go_wp2_with (go_at_call 24; (with_reducible refine Calls.mono hcall ?_); rintro e w2 ⟨he, hE2⟩; have he' : e = .returned (.tuple #[.int .i64 ((c : Nat) : Int), .int .i64 ((col : Nat) : Int)]) := he; subst he')
          try simp only [Exit.inBlock, Exit.then]
          go_ret2
          exact ⟨rfl, hBn.trans hE2⟩
        | ok st' =>
          go_wp2_with (go_at_call 24; (with_reducible refine Calls.mono hcall ?_); rintro e w2 ⟨⟨he, hU⟩, hE2⟩; subst he)
          try simp only [Exit.inBlock, Exit.then]
          go_ret2
          exact ⟨⟨rfl, hU⟩, hBn.trans hE2⟩
      · rw [if_neg h0] at hRS
        have f0 : ((a3 : Int) == 0) = false := by simp; omega
        by_cases h1 : a3 = 1
        · rw [if_pos h1] at hRS
          have f1 : ((a3 : Int) == 1) = true := by simp; omega
          clear h0 h1
          by_cases h2 : a0 = 0
          · rw [if_neg (by rw [hdl'.out]; simpa using h2)] at hRS
            have f2 : ((a0 : Int) != 0) = false := by simp; omega
            clear h2
            by_cases h3 : AD = 0
            · rw [if_neg (by simpa using h3)] at hRS
              have f3 : ((AD : Int) != 0) = false := by simp; omega
              have hRS' : Hid (_ = RS) := hRS
              clear hRS h3
              go_wp2
              try simp only [Exit.inBlock, Exit.then]
              go_ret2
              refine ⟨by rw [← hRS'.out]; exact ⟨rfl, _, (by rw [heap_setCell_same W xb 1 _ 44 _ hhn.out]; rfl), own_set (i := 1) (u := .bool true) hon.out hne, hBr, h256⟩, hBn.setCell (p := ⟨xb, 1, none⟩) hBr _⟩
            · rw [if_pos (by simpa using h3)] at hRS
              have f3 : ((AD : Int) != 0) = true := by simp; omega
              have hRS' : Hid (_ = RS) := hRS
              clear hRS h3
              go_wp2
              try simp only [Exit.inBlock, Exit.then]
              go_ret2
              exact ⟨by rw [← hRS'.out]; rfl, hBn⟩
          · rw [if_pos (by rw [hdl'.out]; simpa using h2)] at hRS
            have f2 : ((a0 : Int) != 0) = true := by simp; omega
            have hRS' : Hid (_ = RS) := hRS
            clear hRS h2
            go_wp2
            try simp only [Exit.inBlock, Exit.then]
            go_ret2
            exact ⟨by rw [← hRS'.out]; rfl, hBn⟩
        · rw [if_neg h1] at hRS
          have f1 : ((a3 : Int) == 1) = false := by simp; omega
          by_cases h4 : a3 = 4
          · rw [if_pos h4] at hRS
            have f4 : ((a3 : Int) == 4) = true := by simp; omega
            clear h0 h1 h4
            by_cases h2 : a0 = 2
            · rw [if_neg (by rw [hdl'.out]; simpa using h2)] at hRS
              have f2 : ((a0 : Int) != 2) = false := by simp; omega
              have hN3 : 7 ≤ N := by have := hal'.out; omega
              have c4 := hcn.out 0 (by omega)
              have c5 := hcn.out 1 (by omega)
              rw [hd45.out.1 (by omega)] at c4 hRS
              rw [hd45.out.2 (by omega)] at c5 hRS
              have c4' : W.cell? ⟨g, 4, none⟩ = some (.int .u8 (a4 : Int)) := c4
              have c5' : W.cell? ⟨g, 5, none⟩ = some (.int .u8 (a5 : Int)) := c5
              clear h2 c4 c5
              by_cases h3 : AD = 0
              · rw [if_neg (by simpa using h3)] at hRS
                have f3 : ((AD : Int) != 0) = false := by simp; omega
                have q4 : 256 * (a4 : Int) + (a5 : Int) = ((256 * a4 + a5 : Nat) : Int) := by omega
                have l45 : 256 * a4 + a5 < 65536 := by omega
                clear h3
                generalize 256 * a4 + a5 = A45 at *
                by_cases h5 : st.D.length % 65536 = 0
                · have f5 : ((st.D.length : Int) % 65536 != 0) = false := by simp; omega
                  by_cases h6 : A45 = st.D.length / 65536
                  · have f6 : ((A45 : Int) != (st.D.length : Int) / 65536) = false := by simp; omega
                    rw [if_neg (by simp; omega)] at hRS
                    have hRS' : Hid (_ = RS) := hRS
                    clear hRS h5 h6
                    go_upto_region 23 with fail
                    go_quiet (fail)
                    have hEm : Below W.heap.size W (W.drewN nq) := bel_drewN (Below.refl _ _)
                    have hhm : (W.drewN nq).heap[xb]? = some (.cells #[.slice da st.D.length dc, .bool st.en, .bool st.bk] 44 (0, 0)) := (hEm.block xb (Array.getElem?_eq_some_iff.1 hhn.out).1).trans hhn.out
                    have hom : (W.drewN nq).ownsRow B 5 1 (.slice da st.D.length dc) st.D.length (v8 st.D) := own_only hon.out (Only.of_below (S := fun _ => False) hEm) (fun _ _ h => h)
                    have hBm : Below B w (W.drewN nq) := bel_drewN hBn
                    clear k1 k2 y1 y2 k0 c4' c5' hEm
                    generalize W.drewN nq = V at *
                    have k2 : V.cell? ⟨xb, 2, none⟩ = some (.bool st.bk) := (Has.ofHeap hhm).2.1 2
                    have y2 := (Has.ofHeap hhm).2.2 2
                    go_wp2
                    try simp only [Exit.inBlock, Exit.then]
                    go_ret2
                    refine ⟨by rw [← hRS'.out]; exact ⟨rfl, _, (by rw [heap_setCell_same V xb 2 _ 44 _ hhm]; rfl), own_set (i := 2) (u := .bool true) hom hne, hBr, h256⟩, hBm.setCell (p := ⟨xb, 2, none⟩) hBr _⟩
                  · have f6 : ((A45 : Int) != (st.D.length : Int) / 65536) = true := by simp; omega
                    rw [if_pos (by simp; omega)] at hRS
                    have hRS' : Hid (_ = RS) := hRS
                    clear hRS h5 h6
                    go_upto_region 23 with fail
                    go_quiet (fail)
                    go_wp2
                    try simp only [Exit.inBlock, Exit.then]
                    go_ret2
                    exact ⟨by rw [← hRS'.out]; rfl, bel_drewN hBn⟩
                · have f5 : ((st.D.length : Int) % 65536 != 0) = true := by simp; omega
                  rw [if_pos (by simp; omega)] at hRS
                  have hRS' : Hid (_ = RS) := hRS
                  clear hRS h5
                  go_upto_region 23 with fail
                  go_quiet (fail)
                  go_wp2
                  try simp only [Exit.inBlock, Exit.then]
                  go_ret2
                  exact ⟨by rw [← hRS'.out]; rfl, bel_drewN hBn⟩
              · rw [if_pos (by simpa using h3)] at hRS
                have f3 : ((AD : Int) != 0) = true := by simp; omega
                have hRS' : Hid (_ = RS) := hRS
                clear hRS h3
                go_wp2
                try simp only [Exit.inBlock, Exit.then]
                go_ret2
                exact ⟨by rw [← hRS'.out]; rfl, hBn⟩
            · rw [if_pos (by rw [hdl'.out]; simpa using h2)] at hRS
              have f2 : ((a0 : Int) != 2) = true := by simp; omega
              have hRS' : Hid (_ = RS) := hRS
              clear hRS h2
              go_wp2
              try simp only [Exit.inBlock, Exit.then]
              go_ret2
              exact ⟨by rw [← hRS'.out]; rfl, hBn⟩
          · rw [if_neg h4] at hRS
            have f4 : ((a3 : Int) == 4) = false := by simp; omega
            have hRS' : Hid (_ = RS) := hRS
            clear hRS h0 h1 h4
            go_wp2
            try simp only [Exit.inBlock, Exit.then]
            go_ret2
            exact ⟨by rw [← hRS'.out]; rfl, hBn⟩
end Go.Proofs.Ytbgfeogigjjmdaa
