import Derived.Test.YtbgfeogigjjmdaaHxW
import Derived.RangeFuncBox
import Derived.Laws.BytesArg
namespace Go.Proofs.Ytbgfeogigjjmdaa
open Go.RowKit
set_option linter.unusedVariables false

theorem u5 : Try.prog.underlying 5 = some (.int .u8) := by kernel_rfl
theorem own_Bs {w : World} {B n : Nat} {v : Value} {D : List Nat} (h : w.ownsRow B 5 1 v n (v8 D)) (hn : n = D.length) (hD : ∀ x ∈ D, x < 256) : ∃ a c, v = .slice a D.length c ∧ Bs w a D := by
  subst hn
  cases hd : D with
  | nil =>
    subst hd
    rcases h.2 with ⟨e, _⟩ | ⟨g, cap, cur, e, h1, h2, _⟩
    · exact ⟨none, 0, e, by simp, .inl rfl⟩
    · exact ⟨some ⟨g, 0, none⟩, cap, e, by simp, .inl rfl⟩
  | cons x r =>
    rw [← hd]
    have h' : w.ownsRow B 5 1 v (r.length + 1) (v8 D) := by rw [hd] at h ⊢; exact h
    obtain ⟨g, cap, rfl⟩ := ownsRow_succ h'
    refine ⟨some ⟨g, 0, none⟩, cap, by rw [hd]; rfl, hD, .inr ⟨g, 0, rfl, (own_lt h' g rfl).2, fun i hi => ?_⟩⟩
    rw [Nat.zero_add, h'.cellAt i (by rw [hd] at hi; simpa using hi), v8_get D i hi]
theorem strN (X : List Nat) : strOfNums (X.map fun (x : Nat) => (x : Int)) = bs (X.map UInt8.ofNat) := by
  unfold strOfNums bs
  simp
theorem mn_of (X : List Nat) (h : ∀ x ∈ X, x < 256) : mn (X.map UInt8.ofNat) = X := by
  unfold mn
  rw [List.map_map]
  conv => rhs; rw [← List.map_id X]
  refine List.map_congr_left fun x hx => ?_
  have := h x hx
  simp; omega
theorem run_text (X : List Nat) (h : ∀ x ∈ X, x < 256) (st : Rd) (n : Nat) : runU st n (cutU (X.map UInt8.ofNat)) = runL st n (rawL X) := by
  rw [runU_raw _ _ (Nat.le_refl _), mn_of X h]
theorem own_open {w : World} {B : Nat} {v : Value} {X Y : List Nat} (h : w.ownsRow B 5 1 v (X ++ Y).length (v8 (X ++ Y))) (hp : 0 < X.length) : ∃ g c, v = .slice (some ⟨g, 0, none⟩) (X.length + Y.length) c ∧ X.length + Y.length ≤ c ∧ ∀ i, i < X.length → w.cell? ⟨g, 0 + i, none⟩ = some (.int .u8 ((X.map fun (x : Nat) => (x : Int)).getD i 0)) := by
  have h' := h
  rcases h.2 with ⟨_, h0⟩ | ⟨g, cap, cur, rfl, _, _, hc, _⟩
  · rw [List.length_append] at h0; omega
  · refine ⟨g, cap, by rw [List.length_append], by rw [← List.length_append]; exact hc, fun i hi => ?_⟩
    rw [Nat.zero_add, h'.cellAt i (by rw [List.length_append]; omega), v8_get _ i (by rw [List.length_append]; omega)]
    rw [List.getD_eq_getElem?_getD, List.getD_eq_getElem?_getD, List.getElem?_append_left hi, List.getElem?_map, List.getElem?_eq_getElem hi]
    rfl
theorem ba_bs (X : List Nat) : ba X = bs (X.map UInt8.ofNat) := rfl

set_option maxRecDepth 100000 in
set_option maxHeartbeats 1000000 in
theorem back_big (D : List Nat) (a : Option Addr) (cap : Nat) (lo cr op : Bool) (w : World) (h : 1048576 < D.length) :
    Calls Try.prog 3 #[.slice a D.length cap, .bool lo, .bool cr, .bool op] w fun e w' => e = .returned (.bool true) ∧ Below w.heap.size w w' := by
  have h1 : (1048576 : Int) < (D.length : Int) := by omega
  have hT := toHex_big D a cap w h
  go_enter Try.func3, Try.ntmps3
  go_wp2_with (go_at_call 6; (with_reducible refine Calls.mono hT ?_); rintro e w2 ⟨rfl, rfl⟩)
  go_ret
  exact ⟨rfl, Below.refl _ _⟩

set_option maxRecDepth 100000 in
set_option maxHeartbeats 8000000 in
theorem back_ok (D : List Nat) (a : Option Addr) (cap : Nat) (lo cr op : Bool) (w : World) (hD : Bs w a D) (hc : D.length ≤ cap) (hcm : cap ≤ 9223372036854775807) (h : D.length ≤ 1048576) :
    Calls Try.prog 3 #[.slice a D.length cap, .bool lo, .bool cr, .bool op] w fun e w' => e = .returned (.bool true) ∧ Below w.heap.size w w' := by
  have h1 : ¬ (1048576 : Int) < (D.length : Int) := by omega
  have hT := toHex_ok D a cap w hD hc hcm h
  have hD' : Hid (Bs w a D) := hD
  have hSn : Hid (nl (ba (hexT D)) = hexT D) := ba_nl _ (hexT_lt D hD.1)
  have hSl : (ba (hexT D)).size = (hexT D).length := by rw [← nl_len, hSn.out]
  have hSm := hexT_len D h
  have hix : Hid (∀ (k : Nat), k < (ba (hexT D)).size → ∀ W : World, Sem.run Try.prog (Instr.index 9 (.string (ba (hexT D))) (.int .i64 (k : Int))) W = .ok (.int .u8 (((hexT D).getD k 0 : Nat) : Int)) W) := by
    intro k hk W
    have := idx (ba (hexT D)) k hk W
    rw [← nl_get _ k hk, hSn.out] at this
    exact this
  have hall : Hid (outH lo cr op (hexT D) (ba (hexT D)).size = dress lo cr op D ++ (if cr = true ∧ op = true then [13] else [])) := by
    show _ = _
    rw [hSl]; exact outH_all lo cr op D hD.1
  have hS256 := getD_lt (hexT_lt D hD.1)
  have hsz : (ba (hexT D)).size ≤ 4000000 := by omega
  have hSL : Hid ((hexT D).length = (ba (hexT D)).size) := hSl.symm
  generalize hexT D = S at *
  generalize ba S = tx at *
  clear hD hSn hSl hSm
  obtain ⟨i5, hi, hz0, hz1, hz2⟩ := info_parts info5
  go_enter Try.func3, Try.ntmps3
  go_wp2_with (go_at_call 6; (with_reducible refine Calls.mono hT ?_); rintro e w1 ⟨rfl, hE1⟩)
  go_loopg [11, 12] tx.size (fun gk v i wr => ∃ (k : Nat), k + gk = tx.size ∧ i = .int .i64 k ∧ Hid (wr.ownsRow w.heap.size 5 1 v (outH lo cr op S k).length (v8 (outH lo cr op S k))) ∧ Hid (Below w.heap.size w wr))
  case atStart => exact ⟨0, by omega, rfl, World.ownsRow_nil _ _ _ _, hE1⟩
  case round =>
    obtain ⟨k, hk, rfl, hOw, hBe⟩ := hrel
    clear hT hE1
    by_cases hlt : k < tx.size
    · have hk0 : (0 : Int) ≤ (k : Int) := by omega
      have hk1 : (k : Int) < (tx.size : Int) := by omega
      have hI := hix.out k hlt
      have hx := hS256 k
      have hnx : Hid (outH lo cr op S (k + 1) = outH lo cr op S k ++ pcH lo cr op tx.size k (S.getD k 0)) := by
        show _ = _
        rw [← hSL.out]; rfl
      have hLl := outH_len lo cr op S k
      generalize outH lo cr op S k = L at hOw hnx hLl
      generalize S.getD k 0 = x at hI hx hnx
      have hws := hBe.out.size
      have hq1 : Hid (L.length + 1 ≤ maxLen) := by show _ ≤ _; unfold maxLen; omega
      have hq2 : Hid ((L.length + 1) * 1 ≤ 140737488355328) := by show _ ≤ _; omega
      have hq3 : Hid (L.length + 1 + 1 ≤ maxLen) := by show _ ≤ _; unfold maxLen; omega
      have hq4 : Hid ((L.length + 1 + 1) * 1 ≤ 140737488355328) := by show _ ≤ _; omega
      clear hix hall hLl hS256
      by_cases hle : lo = true ∧ 65 ≤ x ∧ x ≤ 70
      · obtain ⟨rfl, hx1, hx2⟩ := hle
        have y1 : (65 : Int) ≤ (x : Int) := by omega
        have y2 : (x : Int) ≤ 70 := by omega
        have y3 : (((x : Int) - 65 + 97) == 10) = false := by simp; omega
        have y4 : (((x : Int) - 65 + 97) != 10) = true := by simp; omega
        go_wp2_with ((at_builtin; refine wpList_append_lies _ rfl _ _ 22 rfl w.heap.size 5 i5 _ 1 1 Try.underlying22 hi hz0 hz1 hz2 rfl (by decide) u11 L.length (v8 L) rfl (hOw.out.alloc _) ⟨wr.heap.size, 0, none⟩ 1 1 [.int .u8 ((x : Int) - 65 + 97)] rfl rfl (fun j u hj => by rw [Go.WideShapes.add_plain, Nat.zero_add, (Has.new wr #[.int .u8 ((x : Int) - 65 + 97)] 5 rfl).2.1 j]; simpa using hj) (fun u hu => by simp at hu; rw [hu]; rfl) (by decide) hq1.out hq2.out (by simp; omega) (wr.heap.size + 1) (by simp) ?_; intro g2 k2 w2 owng2 hgr2 hatg2 hltg2))
        have hB2 := (hBe.out.alloc hBe.out.size (.cells #[.int .u8 ((x : Int) - 65 + 97)] 5)).grown hgr2 (by simp; omega) (fun q hq => (hOw.out.lt q hq).1)
        go_roundg (tx.size - (k + 1))
        case measure => go_light; omega
        case rel =>
          have hp : pcH true cr op tx.size k x = [x + 32] := by unfold pcH lw; rw [if_neg (fun e => absurd e.1 (by omega)), if_pos (.inl (by omega)), if_pos ⟨rfl, by omega, by omega⟩]; rfl
          have hv : v8 (L ++ [x + 32]) = v8 L ++ [.int .u8 ((x : Int) - 65 + 97)] := by rw [v8_app]; simp [v8]; omega
          exact ⟨k + 1, by omega, by go_num, by rw [hnx.out, hp, hv, List.length_append]; exact owng2, hB2⟩
      · have hlw : Hid (lw lo x = x) := if_neg hle
        by_cases h10 : x = 10
        · have y3 : ((x : Int) == 10) = true := by simp; omega
          have y4 : ((x : Int) != 10) = false := by simp; omega
          have hx1 : ¬ (65 : Int) ≤ (x : Int) := by omega
          have h10' : Hid (x = 10) := h10
          clear h10 hle
          cases lo with
          | true =>
            cases cr with
            | true =>
              cases op with
              | false =>
                go_wp2_with (first | ((at_builtin; refine wpList_append_lies _ rfl _ _ 22 rfl w.heap.size 5 i5 _ 1 1 Try.underlying22 hi hz0 hz1 hz2 rfl (by decide) u11 L.length (v8 L) rfl (hOw.out.alloc _) ⟨wr.heap.size, 0, none⟩ 1 1 [.int .u8 13] rfl rfl (fun j u hj => by rw [Go.WideShapes.add_plain, Nat.zero_add, (Has.new wr #[.int .u8 13] 5 rfl).2.1 j]; simpa using hj) (fun u hu => by simp at hu; rw [hu]; rfl) (by decide) hq1.out hq2.out (by simp; omega) (wr.heap.size + 1) (by simp) ?_; intro g2 k2 w2 owng2 hgr2 hatg2 hltg2); have hws2 : w.heap.size ≤ w2.heap.size := Nat.le_trans hws (Nat.le_trans (by simp) hgr2.size)) | (at_builtin; refine wpList_append_lies _ rfl _ _ 22 rfl w.heap.size 5 i5 _ 1 1 Try.underlying22 hi hz0 hz1 hz2 rfl (by decide) (.slice (some ⟨g2, 0, none⟩) (L.length + 1) k2) (L.length + 1) (v8 L ++ [.int .u8 13]) rfl (owng2.alloc _) ⟨w2.heap.size, 0, none⟩ 1 1 [.int .u8 (x : Int)] rfl rfl (fun j u hj => by rw [Go.WideShapes.add_plain, Nat.zero_add, (Has.new w2 #[.int .u8 (x : Int)] 5 rfl).2.1 j]; simpa using hj) (fun u hu => by simp at hu; rw [hu]; rfl) (by decide) hq3.out hq4.out (by simp; omega) (w2.heap.size + 1) (by simp) ?_; intro g3 k3 w3 owng3 hgr3 hatg3 hltg3))
                have hB2 := (hBe.out.alloc hBe.out.size (.cells #[.int .u8 13] 5)).grown hgr2 (by simp; omega) (fun q hq => (hOw.out.lt q hq).1)
                have hB3 := (hB2.alloc hB2.size (.cells #[.int .u8 (x : Int)] 5)).grown hgr3 (by simp; have := hB2.size; omega) (fun q hq => (owng2.lt q hq).1)
                go_roundg (tx.size - (k + 1))
                case measure => go_light; omega
                case rel =>
                  have hp : pcH true true false tx.size k x = [13, x] := by
                    unfold pcH
                    rw [hlw.out, if_pos ⟨h10'.out, rfl⟩, if_pos (.inr (.inl rfl))]; rfl
                  have hv : v8 (L ++ [13, x]) = v8 L ++ [.int .u8 13] ++ [.int .u8 (x : Int)] := by rw [v8_app]; simp [v8]
                  exact ⟨k + 1, by omega, by go_num, by rw [hnx.out, hp, hv, List.length_append]; exact owng3, hB3⟩
              | true =>
                by_cases hl2 : k + 1 < tx.size
                · have hl3 : (k : Int) + 1 < (tx.size : Int) := by omega
                  go_wp2_with (first | ((at_builtin; refine wpList_append_lies _ rfl _ _ 22 rfl w.heap.size 5 i5 _ 1 1 Try.underlying22 hi hz0 hz1 hz2 rfl (by decide) u11 L.length (v8 L) rfl (hOw.out.alloc _) ⟨wr.heap.size, 0, none⟩ 1 1 [.int .u8 13] rfl rfl (fun j u hj => by rw [Go.WideShapes.add_plain, Nat.zero_add, (Has.new wr #[.int .u8 13] 5 rfl).2.1 j]; simpa using hj) (fun u hu => by simp at hu; rw [hu]; rfl) (by decide) hq1.out hq2.out (by simp; omega) (wr.heap.size + 1) (by simp) ?_; intro g2 k2 w2 owng2 hgr2 hatg2 hltg2); have hws2 : w.heap.size ≤ w2.heap.size := Nat.le_trans hws (Nat.le_trans (by simp) hgr2.size)) | (at_builtin; refine wpList_append_lies _ rfl _ _ 22 rfl w.heap.size 5 i5 _ 1 1 Try.underlying22 hi hz0 hz1 hz2 rfl (by decide) (.slice (some ⟨g2, 0, none⟩) (L.length + 1) k2) (L.length + 1) (v8 L ++ [.int .u8 13]) rfl (owng2.alloc _) ⟨w2.heap.size, 0, none⟩ 1 1 [.int .u8 (x : Int)] rfl rfl (fun j u hj => by rw [Go.WideShapes.add_plain, Nat.zero_add, (Has.new w2 #[.int .u8 (x : Int)] 5 rfl).2.1 j]; simpa using hj) (fun u hu => by simp at hu; rw [hu]; rfl) (by decide) hq3.out hq4.out (by simp; omega) (w2.heap.size + 1) (by simp) ?_; intro g3 k3 w3 owng3 hgr3 hatg3 hltg3))
                  have hB2 := (hBe.out.alloc hBe.out.size (.cells #[.int .u8 13] 5)).grown hgr2 (by simp; omega) (fun q hq => (hOw.out.lt q hq).1)
                  have hB3 := (hB2.alloc hB2.size (.cells #[.int .u8 (x : Int)] 5)).grown hgr3 (by simp; have := hB2.size; omega) (fun q hq => (owng2.lt q hq).1)
                  go_roundg (tx.size - (k + 1))
                  case measure => go_light; omega
                  case rel =>
                    have hp : pcH true true true tx.size k x = [13, x] := by
                      unfold pcH
                      rw [hlw.out, if_pos ⟨h10'.out, rfl⟩, if_pos (.inr (.inr hl2))]; rfl
                    have hv : v8 (L ++ [13, x]) = v8 L ++ [.int .u8 13] ++ [.int .u8 (x : Int)] := by rw [v8_app]; simp [v8]
                    exact ⟨k + 1, by omega, by go_num, by rw [hnx.out, hp, hv, List.length_append]; exact owng3, hB3⟩
                · have hl3 : ¬ (k : Int) + 1 < (tx.size : Int) := by omega
                  go_wp2_with ((at_builtin; refine wpList_append_lies _ rfl _ _ 22 rfl w.heap.size 5 i5 _ 1 1 Try.underlying22 hi hz0 hz1 hz2 rfl (by decide) u11 L.length (v8 L) rfl (hOw.out.alloc _) ⟨wr.heap.size, 0, none⟩ 1 1 [.int .u8 13] rfl rfl (fun j u hj => by rw [Go.WideShapes.add_plain, Nat.zero_add, (Has.new wr #[.int .u8 13] 5 rfl).2.1 j]; simpa using hj) (fun u hu => by simp at hu; rw [hu]; rfl) (by decide) hq1.out hq2.out (by simp; omega) (wr.heap.size + 1) (by simp) ?_; intro g2 k2 w2 owng2 hgr2 hatg2 hltg2))
                  have hB2 := (hBe.out.alloc hBe.out.size (.cells #[.int .u8 13] 5)).grown hgr2 (by simp; omega) (fun q hq => (hOw.out.lt q hq).1)
                  go_roundg (tx.size - (k + 1))
                  case measure => go_light; omega
                  case rel =>
                    have hp : pcH true true true tx.size k x = [13] := by
                      unfold pcH
                      rw [hlw.out, if_pos ⟨h10'.out, rfl⟩, if_neg (by rintro (e | e | e) <;> first | exact e h10'.out | cases e | omega)]; rfl
                    have hv : v8 (L ++ [13]) = v8 L ++ [.int .u8 13] := by rw [v8_app]; simp [v8]
                    exact ⟨k + 1, by omega, by go_num, by rw [hnx.out, hp, hv, List.length_append]; exact owng2, hB2⟩
            | false =>
              cases op with
              | false =>
                go_wp2_with ((at_builtin; refine wpList_append_lies _ rfl _ _ 22 rfl w.heap.size 5 i5 _ 1 1 Try.underlying22 hi hz0 hz1 hz2 rfl (by decide) u11 L.length (v8 L) rfl (hOw.out.alloc _) ⟨wr.heap.size, 0, none⟩ 1 1 [.int .u8 (x : Int)] rfl rfl (fun j u hj => by rw [Go.WideShapes.add_plain, Nat.zero_add, (Has.new wr #[.int .u8 (x : Int)] 5 rfl).2.1 j]; simpa using hj) (fun u hu => by simp at hu; rw [hu]; rfl) (by decide) hq1.out hq2.out (by simp; omega) (wr.heap.size + 1) (by simp) ?_; intro g2 k2 w2 owng2 hgr2 hatg2 hltg2))
                have hB2 := (hBe.out.alloc hBe.out.size (.cells #[.int .u8 (x : Int)] 5)).grown hgr2 (by simp; omega) (fun q hq => (hOw.out.lt q hq).1)
                go_roundg (tx.size - (k + 1))
                case measure => go_light; omega
                case rel =>
                  have hp : pcH true false false tx.size k x = [x] := by
                    unfold pcH
                    rw [hlw.out, if_neg (by rintro ⟨_, e⟩; cases e), if_pos (.inr (.inl rfl))]; rfl
                  have hv : v8 (L ++ [x]) = v8 L ++ [.int .u8 (x : Int)] := by rw [v8_app]; simp [v8]
                  exact ⟨k + 1, by omega, by go_num, by rw [hnx.out, hp, hv, List.length_append]; exact owng2, hB2⟩
              | true =>
                by_cases hl2 : k + 1 < tx.size
                · have hl3 : (k : Int) + 1 < (tx.size : Int) := by omega
                  go_wp2_with ((at_builtin; refine wpList_append_lies _ rfl _ _ 22 rfl w.heap.size 5 i5 _ 1 1 Try.underlying22 hi hz0 hz1 hz2 rfl (by decide) u11 L.length (v8 L) rfl (hOw.out.alloc _) ⟨wr.heap.size, 0, none⟩ 1 1 [.int .u8 (x : Int)] rfl rfl (fun j u hj => by rw [Go.WideShapes.add_plain, Nat.zero_add, (Has.new wr #[.int .u8 (x : Int)] 5 rfl).2.1 j]; simpa using hj) (fun u hu => by simp at hu; rw [hu]; rfl) (by decide) hq1.out hq2.out (by simp; omega) (wr.heap.size + 1) (by simp) ?_; intro g2 k2 w2 owng2 hgr2 hatg2 hltg2))
                  have hB2 := (hBe.out.alloc hBe.out.size (.cells #[.int .u8 (x : Int)] 5)).grown hgr2 (by simp; omega) (fun q hq => (hOw.out.lt q hq).1)
                  go_roundg (tx.size - (k + 1))
                  case measure => go_light; omega
                  case rel =>
                    have hp : pcH true false true tx.size k x = [x] := by
                      unfold pcH
                      rw [hlw.out, if_neg (by rintro ⟨_, e⟩; cases e), if_pos (.inr (.inr hl2))]; rfl
                    have hv : v8 (L ++ [x]) = v8 L ++ [.int .u8 (x : Int)] := by rw [v8_app]; simp [v8]
                    exact ⟨k + 1, by omega, by go_num, by rw [hnx.out, hp, hv, List.length_append]; exact owng2, hB2⟩
                · have hl3 : ¬ (k : Int) + 1 < (tx.size : Int) := by omega
                  go_wp2
                  go_roundg (tx.size - (k + 1))
                  case measure => go_light; omega
                  case rel =>
                    have hp : pcH true false true tx.size k x = [] := by
                      unfold pcH
                      rw [hlw.out, if_neg (by rintro ⟨_, e⟩; cases e), if_neg (by rintro (e | e | e) <;> first | exact e h10'.out | cases e | omega)]; rfl
                    exact ⟨k + 1, by omega, by go_num, by rw [hnx.out, hp, List.append_nil]; exact hOw, hBe⟩
          | false =>
            cases cr with
            | true =>
              cases op with
              | false =>
                go_wp2_with (first | ((at_builtin; refine wpList_append_lies _ rfl _ _ 22 rfl w.heap.size 5 i5 _ 1 1 Try.underlying22 hi hz0 hz1 hz2 rfl (by decide) u11 L.length (v8 L) rfl (hOw.out.alloc _) ⟨wr.heap.size, 0, none⟩ 1 1 [.int .u8 13] rfl rfl (fun j u hj => by rw [Go.WideShapes.add_plain, Nat.zero_add, (Has.new wr #[.int .u8 13] 5 rfl).2.1 j]; simpa using hj) (fun u hu => by simp at hu; rw [hu]; rfl) (by decide) hq1.out hq2.out (by simp; omega) (wr.heap.size + 1) (by simp) ?_; intro g2 k2 w2 owng2 hgr2 hatg2 hltg2); have hws2 : w.heap.size ≤ w2.heap.size := Nat.le_trans hws (Nat.le_trans (by simp) hgr2.size)) | (at_builtin; refine wpList_append_lies _ rfl _ _ 22 rfl w.heap.size 5 i5 _ 1 1 Try.underlying22 hi hz0 hz1 hz2 rfl (by decide) (.slice (some ⟨g2, 0, none⟩) (L.length + 1) k2) (L.length + 1) (v8 L ++ [.int .u8 13]) rfl (owng2.alloc _) ⟨w2.heap.size, 0, none⟩ 1 1 [.int .u8 (x : Int)] rfl rfl (fun j u hj => by rw [Go.WideShapes.add_plain, Nat.zero_add, (Has.new w2 #[.int .u8 (x : Int)] 5 rfl).2.1 j]; simpa using hj) (fun u hu => by simp at hu; rw [hu]; rfl) (by decide) hq3.out hq4.out (by simp; omega) (w2.heap.size + 1) (by simp) ?_; intro g3 k3 w3 owng3 hgr3 hatg3 hltg3))
                have hB2 := (hBe.out.alloc hBe.out.size (.cells #[.int .u8 13] 5)).grown hgr2 (by simp; omega) (fun q hq => (hOw.out.lt q hq).1)
                have hB3 := (hB2.alloc hB2.size (.cells #[.int .u8 (x : Int)] 5)).grown hgr3 (by simp; have := hB2.size; omega) (fun q hq => (owng2.lt q hq).1)
                go_roundg (tx.size - (k + 1))
                case measure => go_light; omega
                case rel =>
                  have hp : pcH false true false tx.size k x = [13, x] := by
                    unfold pcH
                    rw [hlw.out, if_pos ⟨h10'.out, rfl⟩, if_pos (.inr (.inl rfl))]; rfl
                  have hv : v8 (L ++ [13, x]) = v8 L ++ [.int .u8 13] ++ [.int .u8 (x : Int)] := by rw [v8_app]; simp [v8]
                  exact ⟨k + 1, by omega, by go_num, by rw [hnx.out, hp, hv, List.length_append]; exact owng3, hB3⟩
              | true =>
                by_cases hl2 : k + 1 < tx.size
                · have hl3 : (k : Int) + 1 < (tx.size : Int) := by omega
                  go_wp2_with (first | ((at_builtin; refine wpList_append_lies _ rfl _ _ 22 rfl w.heap.size 5 i5 _ 1 1 Try.underlying22 hi hz0 hz1 hz2 rfl (by decide) u11 L.length (v8 L) rfl (hOw.out.alloc _) ⟨wr.heap.size, 0, none⟩ 1 1 [.int .u8 13] rfl rfl (fun j u hj => by rw [Go.WideShapes.add_plain, Nat.zero_add, (Has.new wr #[.int .u8 13] 5 rfl).2.1 j]; simpa using hj) (fun u hu => by simp at hu; rw [hu]; rfl) (by decide) hq1.out hq2.out (by simp; omega) (wr.heap.size + 1) (by simp) ?_; intro g2 k2 w2 owng2 hgr2 hatg2 hltg2); have hws2 : w.heap.size ≤ w2.heap.size := Nat.le_trans hws (Nat.le_trans (by simp) hgr2.size)) | (at_builtin; refine wpList_append_lies _ rfl _ _ 22 rfl w.heap.size 5 i5 _ 1 1 Try.underlying22 hi hz0 hz1 hz2 rfl (by decide) (.slice (some ⟨g2, 0, none⟩) (L.length + 1) k2) (L.length + 1) (v8 L ++ [.int .u8 13]) rfl (owng2.alloc _) ⟨w2.heap.size, 0, none⟩ 1 1 [.int .u8 (x : Int)] rfl rfl (fun j u hj => by rw [Go.WideShapes.add_plain, Nat.zero_add, (Has.new w2 #[.int .u8 (x : Int)] 5 rfl).2.1 j]; simpa using hj) (fun u hu => by simp at hu; rw [hu]; rfl) (by decide) hq3.out hq4.out (by simp; omega) (w2.heap.size + 1) (by simp) ?_; intro g3 k3 w3 owng3 hgr3 hatg3 hltg3))
                  have hB2 := (hBe.out.alloc hBe.out.size (.cells #[.int .u8 13] 5)).grown hgr2 (by simp; omega) (fun q hq => (hOw.out.lt q hq).1)
                  have hB3 := (hB2.alloc hB2.size (.cells #[.int .u8 (x : Int)] 5)).grown hgr3 (by simp; have := hB2.size; omega) (fun q hq => (owng2.lt q hq).1)
                  go_roundg (tx.size - (k + 1))
                  case measure => go_light; omega
                  case rel =>
                    have hp : pcH false true true tx.size k x = [13, x] := by
                      unfold pcH
                      rw [hlw.out, if_pos ⟨h10'.out, rfl⟩, if_pos (.inr (.inr hl2))]; rfl
                    have hv : v8 (L ++ [13, x]) = v8 L ++ [.int .u8 13] ++ [.int .u8 (x : Int)] := by rw [v8_app]; simp [v8]
                    exact ⟨k + 1, by omega, by go_num, by rw [hnx.out, hp, hv, List.length_append]; exact owng3, hB3⟩
                · have hl3 : ¬ (k : Int) + 1 < (tx.size : Int) := by omega
                  go_wp2_with ((at_builtin; refine wpList_append_lies _ rfl _ _ 22 rfl w.heap.size 5 i5 _ 1 1 Try.underlying22 hi hz0 hz1 hz2 rfl (by decide) u11 L.length (v8 L) rfl (hOw.out.alloc _) ⟨wr.heap.size, 0, none⟩ 1 1 [.int .u8 13] rfl rfl (fun j u hj => by rw [Go.WideShapes.add_plain, Nat.zero_add, (Has.new wr #[.int .u8 13] 5 rfl).2.1 j]; simpa using hj) (fun u hu => by simp at hu; rw [hu]; rfl) (by decide) hq1.out hq2.out (by simp; omega) (wr.heap.size + 1) (by simp) ?_; intro g2 k2 w2 owng2 hgr2 hatg2 hltg2))
                  have hB2 := (hBe.out.alloc hBe.out.size (.cells #[.int .u8 13] 5)).grown hgr2 (by simp; omega) (fun q hq => (hOw.out.lt q hq).1)
                  go_roundg (tx.size - (k + 1))
                  case measure => go_light; omega
                  case rel =>
                    have hp : pcH false true true tx.size k x = [13] := by
                      unfold pcH
                      rw [hlw.out, if_pos ⟨h10'.out, rfl⟩, if_neg (by rintro (e | e | e) <;> first | exact e h10'.out | cases e | omega)]; rfl
                    have hv : v8 (L ++ [13]) = v8 L ++ [.int .u8 13] := by rw [v8_app]; simp [v8]
                    exact ⟨k + 1, by omega, by go_num, by rw [hnx.out, hp, hv, List.length_append]; exact owng2, hB2⟩
            | false =>
              cases op with
              | false =>
                go_wp2_with ((at_builtin; refine wpList_append_lies _ rfl _ _ 22 rfl w.heap.size 5 i5 _ 1 1 Try.underlying22 hi hz0 hz1 hz2 rfl (by decide) u11 L.length (v8 L) rfl (hOw.out.alloc _) ⟨wr.heap.size, 0, none⟩ 1 1 [.int .u8 (x : Int)] rfl rfl (fun j u hj => by rw [Go.WideShapes.add_plain, Nat.zero_add, (Has.new wr #[.int .u8 (x : Int)] 5 rfl).2.1 j]; simpa using hj) (fun u hu => by simp at hu; rw [hu]; rfl) (by decide) hq1.out hq2.out (by simp; omega) (wr.heap.size + 1) (by simp) ?_; intro g2 k2 w2 owng2 hgr2 hatg2 hltg2))
                have hB2 := (hBe.out.alloc hBe.out.size (.cells #[.int .u8 (x : Int)] 5)).grown hgr2 (by simp; omega) (fun q hq => (hOw.out.lt q hq).1)
                go_roundg (tx.size - (k + 1))
                case measure => go_light; omega
                case rel =>
                  have hp : pcH false false false tx.size k x = [x] := by
                    unfold pcH
                    rw [hlw.out, if_neg (by rintro ⟨_, e⟩; cases e), if_pos (.inr (.inl rfl))]; rfl
                  have hv : v8 (L ++ [x]) = v8 L ++ [.int .u8 (x : Int)] := by rw [v8_app]; simp [v8]
                  exact ⟨k + 1, by omega, by go_num, by rw [hnx.out, hp, hv, List.length_append]; exact owng2, hB2⟩
              | true =>
                by_cases hl2 : k + 1 < tx.size
                · have hl3 : (k : Int) + 1 < (tx.size : Int) := by omega
                  go_wp2_with ((at_builtin; refine wpList_append_lies _ rfl _ _ 22 rfl w.heap.size 5 i5 _ 1 1 Try.underlying22 hi hz0 hz1 hz2 rfl (by decide) u11 L.length (v8 L) rfl (hOw.out.alloc _) ⟨wr.heap.size, 0, none⟩ 1 1 [.int .u8 (x : Int)] rfl rfl (fun j u hj => by rw [Go.WideShapes.add_plain, Nat.zero_add, (Has.new wr #[.int .u8 (x : Int)] 5 rfl).2.1 j]; simpa using hj) (fun u hu => by simp at hu; rw [hu]; rfl) (by decide) hq1.out hq2.out (by simp; omega) (wr.heap.size + 1) (by simp) ?_; intro g2 k2 w2 owng2 hgr2 hatg2 hltg2))
                  have hB2 := (hBe.out.alloc hBe.out.size (.cells #[.int .u8 (x : Int)] 5)).grown hgr2 (by simp; omega) (fun q hq => (hOw.out.lt q hq).1)
                  go_roundg (tx.size - (k + 1))
                  case measure => go_light; omega
                  case rel =>
                    have hp : pcH false false true tx.size k x = [x] := by
                      unfold pcH
                      rw [hlw.out, if_neg (by rintro ⟨_, e⟩; cases e), if_pos (.inr (.inr hl2))]; rfl
                    have hv : v8 (L ++ [x]) = v8 L ++ [.int .u8 (x : Int)] := by rw [v8_app]; simp [v8]
                    exact ⟨k + 1, by omega, by go_num, by rw [hnx.out, hp, hv, List.length_append]; exact owng2, hB2⟩
                · have hl3 : ¬ (k : Int) + 1 < (tx.size : Int) := by omega
                  go_wp2
                  go_roundg (tx.size - (k + 1))
                  case measure => go_light; omega
                  case rel =>
                    have hp : pcH false false true tx.size k x = [] := by
                      unfold pcH
                      rw [hlw.out, if_neg (by rintro ⟨_, e⟩; cases e), if_neg (by rintro (e | e | e) <;> first | exact e h10'.out | cases e | omega)]; rfl
                    exact ⟨k + 1, by omega, by go_num, by rw [hnx.out, hp, List.append_nil]; exact hOw, hBe⟩
        · have y3 : ((x : Int) == 10) = false := by simp; omega
          have y4 : ((x : Int) != 10) = true := by simp; omega
          cases lo with
          | false =>
            go_wp2_with ((at_builtin; refine wpList_append_lies _ rfl _ _ 22 rfl w.heap.size 5 i5 _ 1 1 Try.underlying22 hi hz0 hz1 hz2 rfl (by decide) u11 L.length (v8 L) rfl (hOw.out.alloc _) ⟨wr.heap.size, 0, none⟩ 1 1 [.int .u8 (x : Int)] rfl rfl (fun j u hj => by rw [Go.WideShapes.add_plain, Nat.zero_add, (Has.new wr #[.int .u8 (x : Int)] 5 rfl).2.1 j]; simpa using hj) (fun u hu => by simp at hu; rw [hu]; rfl) (by decide) hq1.out hq2.out (by simp; omega) (wr.heap.size + 1) (by simp) ?_; intro g2 k2 w2 owng2 hgr2 hatg2 hltg2))
            have hB2 := (hBe.out.alloc hBe.out.size (.cells #[.int .u8 (x : Int)] 5)).grown hgr2 (by simp; omega) (fun q hq => (hOw.out.lt q hq).1)
            go_roundg (tx.size - (k + 1))
            case measure => go_light; omega
            case rel =>
              have hp : pcH false cr op tx.size k x = [x] := by unfold pcH; rw [if_neg (by omega), if_pos (by omega), hlw.out]; rfl
              have hv : v8 (L ++ [x]) = v8 L ++ [.int .u8 (x : Int)] := by rw [v8_app]; rfl
              exact ⟨k + 1, by omega, by go_num, by rw [hnx.out, hp, hv, List.length_append]; exact owng2, hB2⟩
          | true =>
            by_cases hx1 : 65 ≤ x
            · have y1 : (65 : Int) ≤ (x : Int) := by omega
              have y2 : ¬ (x : Int) ≤ 70 := by intro e; exact hle ⟨rfl, hx1, by omega⟩
              go_wp2_with ((at_builtin; refine wpList_append_lies _ rfl _ _ 22 rfl w.heap.size 5 i5 _ 1 1 Try.underlying22 hi hz0 hz1 hz2 rfl (by decide) u11 L.length (v8 L) rfl (hOw.out.alloc _) ⟨wr.heap.size, 0, none⟩ 1 1 [.int .u8 (x : Int)] rfl rfl (fun j u hj => by rw [Go.WideShapes.add_plain, Nat.zero_add, (Has.new wr #[.int .u8 (x : Int)] 5 rfl).2.1 j]; simpa using hj) (fun u hu => by simp at hu; rw [hu]; rfl) (by decide) hq1.out hq2.out (by simp; omega) (wr.heap.size + 1) (by simp) ?_; intro g2 k2 w2 owng2 hgr2 hatg2 hltg2))
              have hB2 := (hBe.out.alloc hBe.out.size (.cells #[.int .u8 (x : Int)] 5)).grown hgr2 (by simp; omega) (fun q hq => (hOw.out.lt q hq).1)
              go_roundg (tx.size - (k + 1))
              case measure => go_light; omega
              case rel =>
                have hp : pcH true cr op tx.size k x = [x] := by unfold pcH; rw [if_neg (by omega), if_pos (by omega), hlw.out]; rfl
                have hv : v8 (L ++ [x]) = v8 L ++ [.int .u8 (x : Int)] := by rw [v8_app]; rfl
                exact ⟨k + 1, by omega, by go_num, by rw [hnx.out, hp, hv, List.length_append]; exact owng2, hB2⟩
            · have y1 : ¬ (65 : Int) ≤ (x : Int) := by omega
              go_wp2_with ((at_builtin; refine wpList_append_lies _ rfl _ _ 22 rfl w.heap.size 5 i5 _ 1 1 Try.underlying22 hi hz0 hz1 hz2 rfl (by decide) u11 L.length (v8 L) rfl (hOw.out.alloc _) ⟨wr.heap.size, 0, none⟩ 1 1 [.int .u8 (x : Int)] rfl rfl (fun j u hj => by rw [Go.WideShapes.add_plain, Nat.zero_add, (Has.new wr #[.int .u8 (x : Int)] 5 rfl).2.1 j]; simpa using hj) (fun u hu => by simp at hu; rw [hu]; rfl) (by decide) hq1.out hq2.out (by simp; omega) (wr.heap.size + 1) (by simp) ?_; intro g2 k2 w2 owng2 hgr2 hatg2 hltg2))
              have hB2 := (hBe.out.alloc hBe.out.size (.cells #[.int .u8 (x : Int)] 5)).grown hgr2 (by simp; omega) (fun q hq => (hOw.out.lt q hq).1)
              go_roundg (tx.size - (k + 1))
              case measure => go_light; omega
              case rel =>
                have hp : pcH true cr op tx.size k x = [x] := by unfold pcH; rw [if_neg (by omega), if_pos (by omega), hlw.out]; rfl
                have hv : v8 (L ++ [x]) = v8 L ++ [.int .u8 (x : Int)] := by rw [v8_app]; rfl
                exact ⟨k + 1, by omega, by go_num, by rw [hnx.out, hp, hv, List.length_append]; exact owng2, hB2⟩
    · have hk1 : ¬ (k : Int) < (tx.size : Int) := by omega
      obtain rfl : k = tx.size := by omega
      rw [hall.out] at hOw
      have hdl := dress_lt lo cr op D hD'.out.1
      have hrd := run_dress lo cr op D hD'.out.1 h
      have hlen := outH_len lo cr op S tx.size
      rw [hall.out] at hlen
      have hne : 0 < (dress lo cr op D).length := by
        unfold dress
        rw [List.length_append, List.length_append, List.length_map]
        simp [recB]; omega
      have hD256 : Hid (∀ x ∈ D, x < 256) := hD'.out.1
      have hDr : Hid (Bs wr a D) := hD'.out.below hBe.out
      clear hall hix
      generalize dress lo cr op D = X at hOw hdl hrd hne hlen
      have hX8 : X.length ≤ 8000000 := by rw [List.length_append] at hlen; omega
      clear hlen
      have hF := fun W => fromHex_ok (X.map UInt8.ofNat) W (by rw [List.length_map]; omega) ⟨D, false, true⟩ (by rw [run_text X hdl]; exact hrd) rfl
      have hsN := strN X
      clear hrd
      have hBe' := hBe.out
      have hn47 : D.length ≤ 140737488355328 := by omega
      generalize bs (X.map UInt8.ofNat) = tx2 at hF hsN
      by_cases hco : cr = true ∧ op = true
      · obtain ⟨rfl, rfl⟩ := hco
        rw [if_pos ⟨rfl, rfl⟩] at hOw
        obtain ⟨g, c, rfl, hc1, hcl⟩ := own_open hOw.out hne
        have hcv := run_convert_bytes_arg (P := Try.prog) wr 22 5 Try.underlying22 u5 g 0 X.length c (X.map fun (x : Nat) => (x : Int)) (by simp) hcl 9 Try.underlying9
        rw [hsN] at hcv
        clear hcl hsN
        have hm0 : [13].length = 1 := rfl
        rw [show [13].length = 1 from rfl] at hc1 ⊢
        generalize X.length = M at *
        generalize (X.map fun (x : Nat) => (x : Int)) = xs at *
        have y1 : ((M : Int) + 1 == 0) = false := by simp; omega
        have y2 : (0 : Int) ≤ (M : Int) := by omega
        have y3 : (M : Int) ≤ (c : Int) := by omega
        clear hOw hm0 hdl hBe hk
        go_wp2_with (first
          | (go_at_call 7; (with_reducible refine Calls.mono (hF _) ?_); rintro e w2 ⟨dv, rfl, hE2, hown⟩; obtain ⟨a2, c2, rfl, hB2⟩ := own_Bs hown rfl hD256.out; have hDw := hDr.out.below hE2)
          | (go_at_call 8; (with_reducible refine Calls.mono (romBytes_same D a2 a c2 cap _ (hB2.below ((Below.refl _ _).alloc (Nat.le_refl _) _)) (hDw.below ((Below.refl _ _).alloc (Nat.le_refl _) _)) hn47) ?_); rintro e w3 ⟨rfl, hE3⟩))
        go_ret
        refine ⟨rfl, ((hBe'.trans (hE2.mono hBe'.size)).alloc (Nat.le_trans hBe'.size hE2.size) _).trans (hE3.mono ?_)⟩
        have := hE2.size; have := hBe'.size; simp; omega
      · rw [if_neg hco, List.append_nil] at hOw
        obtain ⟨g, c, rfl, hc1, hcl⟩ := own_open (Y := []) (by rw [List.append_nil]; exact hOw.out) hne
        have hcv := run_convert_bytes_arg (P := Try.prog) wr 22 5 Try.underlying22 u5 g 0 X.length c (X.map fun (x : Nat) => (x : Int)) (by simp) hcl 9 Try.underlying9
        rw [hsN] at hcv
        clear hcl hsN
        rw [List.length_nil, Nat.add_zero] at hc1 ⊢
        have hm0 : [13].length = 1 := rfl
        cases cr with
        | false =>
          generalize X.length = M at *
          generalize (X.map fun (x : Nat) => (x : Int)) = xs at *
          have y1 : ((M : Int) == 0) = false := by simp; omega
          have y2 : (0 : Int) ≤ (M : Int) := by omega
          have y3 : (M : Int) ≤ (c : Int) := by omega
          clear hOw hm0 hdl hBe hk
          go_wp2_with (first
            | (go_at_call 7; (with_reducible refine Calls.mono (hF _) ?_); rintro e w2 ⟨dv, rfl, hE2, hown⟩; obtain ⟨a2, c2, rfl, hB2⟩ := own_Bs hown rfl hD256.out; have hDw := hDr.out.below hE2)
            | (go_at_call 8; (with_reducible refine Calls.mono (romBytes_same D a2 a c2 cap _ (hB2.below ((Below.refl _ _).alloc (Nat.le_refl _) _)) (hDw.below ((Below.refl _ _).alloc (Nat.le_refl _) _)) hn47) ?_); rintro e w3 ⟨rfl, hE3⟩))
          go_ret
          refine ⟨rfl, ((hBe'.trans (hE2.mono hBe'.size)).alloc (Nat.le_trans hBe'.size hE2.size) _).trans (hE3.mono ?_)⟩
          have := hE2.size; have := hBe'.size; simp; omega
        | true =>
          cases op with
          | true => exact absurd ⟨rfl, rfl⟩ hco
          | false =>
            generalize X.length = M at *
            generalize (X.map fun (x : Nat) => (x : Int)) = xs at *
            have y1 : ((M : Int) == 0) = false := by simp; omega
            have y2 : (0 : Int) ≤ (M : Int) := by omega
            have y3 : (M : Int) ≤ (c : Int) := by omega
            clear hOw hm0 hdl hBe hk
            go_wp2_with (first
              | (go_at_call 7; (with_reducible refine Calls.mono (hF _) ?_); rintro e w2 ⟨dv, rfl, hE2, hown⟩; obtain ⟨a2, c2, rfl, hB2⟩ := own_Bs hown rfl hD256.out; have hDw := hDr.out.below hE2)
              | (go_at_call 8; (with_reducible refine Calls.mono (romBytes_same D a2 a c2 cap _ (hB2.below ((Below.refl _ _).alloc (Nat.le_refl _) _)) (hDw.below ((Below.refl _ _).alloc (Nat.le_refl _) _)) hn47) ?_); rintro e w3 ⟨rfl, hE3⟩))
            go_ret
            refine ⟨rfl, ((hBe'.trans (hE2.mono hBe'.size)).alloc (Nat.le_trans hBe'.size hE2.size) _).trans (hE3.mono ?_)⟩
            have := hE2.size; have := hBe'.size; simp; omega
end Go.Proofs.Ytbgfeogigjjmdaa
