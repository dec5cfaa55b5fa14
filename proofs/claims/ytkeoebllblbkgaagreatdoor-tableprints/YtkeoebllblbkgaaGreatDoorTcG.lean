import Derived.Test.YtkeoebllblbkgaaGreatDoorTcA
import Derived.Lib.Strings
namespace Go.Proofs.YtkeoebllblbkgaaGreatDoor
open Go.RowKit
set_option linter.unusedVariables false
set_option linter.unusedSimpArgs false

theorem tl_inj {a b : ByteArray} (h : a.toList = b.toList) : a = b := by
  rw [ByteArray.toList_eq, ByteArray.toList_eq] at h
  cases a; cases b
  simp only [ByteArray.mk.injEq]
  exact Array.toList_inj.1 h
theorem nd_take {α : Type} (L : List α) (k : Nat) (h : k < L.length) (h1 : (L.take k).Nodup) (h2 : ∀ j, ∀ hj : j < k, L[j]'(by omega) ≠ L[k]) : (L.take (k + 1)).Nodup := by
  rw [List.take_succ_eq_append_getElem h, List.nodup_append]
  refine ⟨h1, by simp, fun a ha c hc => ?_⟩
  simp at hc
  subst hc
  obtain ⟨j, hj, rfl⟩ := List.mem_iff_getElem.1 ha
  simp at hj
  rw [List.getElem_take]
  exact h2 j (by omega)
theorem nd_not {α : Type} (L : List α) (j k : Nat) (hj : j < k) (hk : k < L.length) (h : L[j]'(by omega) = L[k]) : ¬ L.Nodup := by
  intro hn
  have := List.pairwise_iff_getElem.1 hn j k (by omega) hk hj
  exact this h
set_option maxRecDepth 100000 in
set_option maxHeartbeats 4000000 in
theorem twice_any (t : Tt) (aD aS aX aH : Option Addr) (cD cS cX cH : Nat) (w : World) (hR : TR w t (.slice aD t.D.length cD) (.slice aS t.S.length cS) (.slice aX t.X.length cX) (.slice aH t.H.length cH)) : Calls Tryz.prog 31 #[.agg #[.string t.nm, .slice aD t.D.length cD, .int .i64 t.w0, .int .i64 t.w1, .int .i64 t.w2, .int .i64 t.w3, .int .i64 t.w4, .int .i64 t.w5, .int .i64 t.w6, .slice aS t.S.length cS, .slice aX t.X.length cX, .slice aH t.H.length cH]] w fun e w' => e = .returned (.bool (!t.oneB)) ∧ Below w.heap.size w w' := by
  have f1 : Hid (¬ (t.D.map (·.name)).Nodup → (!t.oneB) = true) := by intro h; simp [Tt.oneB, h]
  have f2 : Hid (¬ (t.X.map (·.day)).Nodup → (!t.oneB) = true) := by intro h; simp [Tt.oneB, h]
  have f4 : Hid ((t.D.map (·.name)).Nodup → (t.X.map (·.day)).Nodup → (!t.oneB) = false) := by intro h1 h2; simp [Tt.oneB, h1, h2]
  generalize (!t.oneB) = R at *
  have dl := hR.dl
  have sl := hR.sl
  have xl := hR.xl
  have hl := hR.hl
  go_enter Tryz.func31, Tryz.ntmps31
  go_wp2
  have HY : Has (w.alloc (.cells #[.string t.nm, .slice aD t.D.length cD, .int .i64 t.w0, .int .i64 t.w1, .int .i64 t.w2, .int .i64 t.w3, .int .i64 t.w4, .int .i64 t.w5, .int .i64 t.w6, .slice aS t.S.length cS, .slice aX t.X.length cX, .slice aH t.H.length cH] 28)) w.heap.size #[.string t.nm, .slice aD t.D.length cD, .int .i64 t.w0, .int .i64 t.w1, .int .i64 t.w2, .int .i64 t.w3, .int .i64 t.w4, .int .i64 t.w5, .int .i64 t.w6, .slice aS t.S.length cS, .slice aX t.X.length cX, .slice aH t.H.length cH] := Has.new _ _ _ rfl
  have HB : Below w.heap.size w (w.alloc (.cells #[.string t.nm, .slice aD t.D.length cD, .int .i64 t.w0, .int .i64 t.w1, .int .i64 t.w2, .int .i64 t.w3, .int .i64 t.w4, .int .i64 t.w5, .int .i64 t.w6, .slice aS t.S.length cS, .slice aX t.X.length cX, .slice aH t.H.length cH] 28)) := bel1
  have hRR : Hid (TR (w.alloc (.cells #[.string t.nm, .slice aD t.D.length cD, .int .i64 t.w0, .int .i64 t.w1, .int .i64 t.w2, .int .i64 t.w3, .int .i64 t.w4, .int .i64 t.w5, .int .i64 t.w6, .slice aS t.S.length cS, .slice aX t.X.length cX, .slice aH t.H.length cH] 28)) t (.slice aD t.D.length cD) (.slice aS t.S.length cS) (.slice aX t.X.length cX) (.slice aH t.H.length cH)) := hR.below HB
  generalize (w.alloc (.cells #[.string t.nm, .slice aD t.D.length cD, .int .i64 t.w0, .int .i64 t.w1, .int .i64 t.w2, .int .i64 t.w3, .int .i64 t.w4, .int .i64 t.w5, .int .i64 t.w6, .slice aS t.S.length cS, .slice aX t.X.length cX, .slice aH t.H.length cH] 28)) = Y at *
  clear hR
  go_loopg [3, 4] t.D.length (fun gk s3 s4 wr => ∃ k : Nat, k + gk = t.D.length ∧ s3 = .int .i64 (k : Int) ∧ Hid (((t.D.map (·.name)).take k).Nodup) ∧ Below Y.heap.size Y wr)
  case atStart => exact ⟨0, by omega, rfl, by show List.Nodup _; simp, Below.refl _ _⟩
  case round =>
    obtain ⟨k, hk, rfl, hA, hb⟩ := hrel
    obtain ⟨_, q, _⟩ := id (HY.below hb)
    by_cases hlt : k < t.D.length
    · have t1 : (k : Int) < (t.D.length : Int) := by omega
      have t0 : (0 : Int) ≤ (k : Int) := by omega
      go_wp2
      obtain ⟨gko, rfl⟩ : ∃ x, x = gk := ⟨_, rfl⟩
      obtain ⟨wo, rfl⟩ : ∃ x, x = wr := ⟨_, rfl⟩
      go_loopg [4] k (fun gk s4 wr => ∃ j : Nat, j + gk = k ∧ s4 = .int .i64 (j : Int) ∧ Hid (∀ i, ∀ hi : i < j, ∀ hj : j ≤ k, (t.D[i]'(by omega)).name ≠ t.D[k].name) ∧ Below Y.heap.size Y wr)
      case atStart => exact ⟨0, by omega, rfl, fun i hi => by omega, hb⟩
      case round =>
        obtain ⟨j, hj, rfl, hI, hbi⟩ := hrel
        obtain ⟨_, qi, _⟩ := id (HY.below hbi)
        by_cases hlj : j < k
        · obtain ⟨g, o, rfl, hg, P⟩ := (hRR.out.d.ln).resolve_left (by intro e; rw [e] at hlt; simp at hlt)
          have p0 := (hbi.cell (p := ⟨g, _, none⟩) hg).trans (P k hlt 0 _ rfl)
          have r0 := (hbi.cell (p := ⟨g, _, none⟩) hg).trans (P j (by omega) 0 _ rfl)
          simp only [Nat.add_zero] at p0 r0
          have u1 : (j : Int) < (k : Int) := by omega
          have u0 : (0 : Int) ≤ (j : Int) := by omega
          have u2 : (j : Int) < (t.D.length : Int) := by omega
          have hjl : j < t.D.length := by omega
          have hbad : Hid (t.D[j].name = t.D[k].name → R = true) := by
            intro e
            exact f1.out (nd_not _ j k hlj (by simpa using hlt) (by simpa using e))
          have hgood : Hid (t.D[j].name ≠ t.D[k].name → ∀ i, ∀ hi : i < j + 1, ∀ hj : j + 1 ≤ k, (t.D[i]'(by omega)).name ≠ t.D[k].name) := by
            intro h i hi _
            rcases Nat.lt_or_ge i j with h2 | h2
            · exact hI.out i h2 (by omega)
            · obtain rfl : i = j := by omega
              exact h
          clear P hI hA
          generalize t.D[k].name = x at *
          generalize t.D[j].name = y at *
          by_cases hxy : y = x
          · have hE2 : Hid (R = true) := hbad.out hxy
            have hq : (x.toList == y.toList) = true := by rw [hxy]; simp
            have hq2 : (y.toList == x.toList) = true := by rw [hxy]; simp
            clear hxy hgood hbad
            go_wp2
            go_quiet (fail)
            go_wp2
            go_ret
            exact ⟨ret_bool hE2.out.symm, belT HB (bel_drewN hbi)⟩
          · have hE2 := hgood.out hxy
            have hE3 : Hid (∀ i, ∀ hi : i < j + 1, ∀ hj : j + 1 ≤ k, (t.D[i]'(by omega)).name ≠ x) := hE2
            have hq : (x.toList == y.toList) = false := beq_eq_false_iff_ne.2 (fun e => hxy (tl_inj e).symm)
            have hq2 : (y.toList == x.toList) = false := beq_eq_false_iff_ne.2 (fun e => hxy (tl_inj e))
            clear hxy hgood hbad hE2
            go_wp2
            go_quiet (fail)
            go_wp2
            go_roundg (gk - 1)
            case measure => go_light; omega
            case rel => exact ⟨j + 1, by omega, by go_num, hE3, bel_drewN hbi⟩
        · obtain rfl : j = k := by omega
          have u1 : ¬ (j : Int) < (j : Int) := by omega
          have hA2 : Hid (((t.D.map (·.name)).take (j + 1)).Nodup) := nd_take _ j (by simpa using hlt) hA.out (fun i hi => by simpa using hI.out i hi (Nat.le_refl _))
          clear hI hA
          go_wp2
          go_roundg (gko - 1)
          case measure => go_light; omega
          case rel => exact ⟨j + 1, by omega, by go_num, hA2, hbi⟩
    · obtain rfl : k = t.D.length := by omega
      have t1 : ¬ (t.D.length : Int) < (t.D.length : Int) := by omega
      have hTD : Hid ((t.D.map (·.name)).Nodup) := by
        have := hA.out
        rwa [List.take_of_length_le (by simp)] at this
      clear hA
      go_wp2
      go_loopg [5, 6] t.X.length (fun gk s5 s6 wr => ∃ k : Nat, k + gk = t.X.length ∧ s5 = .int .i64 (k : Int) ∧ Hid (((t.X.map (·.day)).take k).Nodup) ∧ Below Y.heap.size Y wr)
      case atStart => exact ⟨0, by omega, rfl, by show List.Nodup _; simp, hb⟩
      case round =>
        obtain ⟨k, hk, rfl, hA, hb⟩ := hrel
        obtain ⟨_, q, _⟩ := id (HY.below hb)
        by_cases hlt : k < t.X.length
        · have t1 : (k : Int) < (t.X.length : Int) := by omega
          have t0 : (0 : Int) ≤ (k : Int) := by omega
          go_wp2
          obtain ⟨gko, rfl⟩ : ∃ x, x = gk := ⟨_, rfl⟩
          obtain ⟨wo, rfl⟩ : ∃ x, x = wr := ⟨_, rfl⟩
          go_loopg [6] k (fun gk s6 wr => ∃ j : Nat, j + gk = k ∧ s6 = .int .i64 (j : Int) ∧ Hid (∀ i, ∀ hi : i < j, ∀ hj : j ≤ k, (t.X[i]'(by omega)).day ≠ t.X[k].day) ∧ Below Y.heap.size Y wr)
          case atStart => exact ⟨0, by omega, rfl, fun i hi => by omega, hb⟩
          case round =>
            obtain ⟨j, hj, rfl, hI, hbi⟩ := hrel
            obtain ⟨_, qi, _⟩ := id (HY.below hbi)
            by_cases hlj : j < k
            · obtain ⟨g, o, rfl, hg, P⟩ := (hRR.out.x.ln).resolve_left (by intro e; rw [e] at hlt; simp at hlt)
              have p0 := (hbi.cell (p := ⟨g, _, none⟩) hg).trans (P k hlt 0 _ rfl)
              have r0 := (hbi.cell (p := ⟨g, _, none⟩) hg).trans (P j (by omega) 0 _ rfl)
              simp only [Nat.add_zero] at p0 r0
              have u1 : (j : Int) < (k : Int) := by omega
              have u0 : (0 : Int) ≤ (j : Int) := by omega
              have u2 : (j : Int) < (t.X.length : Int) := by omega
              have hjl : j < t.X.length := by omega
              have hbad : Hid (t.X[j].day = t.X[k].day → R = true) := by
                intro e
                exact f2.out (nd_not _ j k hlj (by simpa using hlt) (by simpa using e))
              have hgood : Hid (t.X[j].day ≠ t.X[k].day → ∀ i, ∀ hi : i < j + 1, ∀ hj : j + 1 ≤ k, (t.X[i]'(by omega)).day ≠ t.X[k].day) := by
                intro h i hi _
                rcases Nat.lt_or_ge i j with h2 | h2
                · exact hI.out i h2 (by omega)
                · obtain rfl : i = j := by omega
                  exact h
              clear P hI hA
              generalize t.X[k].day = x at *
              generalize t.X[j].day = y at *
              by_cases hxy : y = x
              · have hE2 : Hid (R = true) := hbad.out hxy
                have hq : (x == y) = true := beq_iff_eq.2 hxy.symm
                clear hxy hgood hbad
                go_wp2
                go_quiet (fail)
                go_wp2
                go_ret
                exact ⟨ret_bool hE2.out.symm, belT HB (bel_drewN hbi)⟩
              · have hE2 := hgood.out hxy
                have hE3 : Hid (∀ i, ∀ hi : i < j + 1, ∀ hj : j + 1 ≤ k, (t.X[i]'(by omega)).day ≠ x) := hE2
                have hq : (x == y) = false := beq_eq_false_iff_ne.2 (fun e => hxy e.symm)
                clear hxy hgood hbad hE2
                go_wp2
                go_quiet (fail)
                go_wp2
                go_roundg (gk - 1)
                case measure => go_light; omega
                case rel => exact ⟨j + 1, by omega, by go_num, hE3, bel_drewN hbi⟩
            · obtain rfl : j = k := by omega
              have u1 : ¬ (j : Int) < (j : Int) := by omega
              have hA2 : Hid (((t.X.map (·.day)).take (j + 1)).Nodup) := nd_take _ j (by simpa using hlt) hA.out (fun i hi => by simpa using hI.out i hi (Nat.le_refl _))
              clear hI hA
              go_wp2
              go_roundg (gko - 1)
              case measure => go_light; omega
              case rel => exact ⟨j + 1, by omega, by go_num, hA2, hbi⟩
        · obtain rfl : k = t.X.length := by omega
          have t1 : ¬ (t.X.length : Int) < (t.X.length : Int) := by omega
          have hTX : Hid ((t.X.map (·.day)).Nodup) := by
            have := hA.out
            rwa [List.take_of_length_le (by simp)] at this
          clear hA
          have hE2 : Hid (R = false) := f4.out hTD.out hTX.out
          go_wp2
          go_ret
          exact ⟨ret_bool hE2.out.symm, belT HB hb⟩
end Go.Proofs.YtkeoebllblbkgaaGreatDoor
