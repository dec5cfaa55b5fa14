import Derived.RangeFuncNested
import Derived.RangeFuncBound
import Derived.RangeFuncCalls
import Derived.RangeFuncLeaves
import Derived.Shelf.Abstract
import Derived.Shelf.RegionOpen
import Derived.OwnWalkIn
import Derived.TacticsInMore
import Derived.LoopNIn
import Derived.LoopIn
import Derived.Sort.LoopGhostIn
import Derived.Test.YtjohnhaahpggkabDoorStrB
namespace Go.Proofs.YtjohnhaahpggkabDoor
open Go.RowKit Go.Shelf
set_option linter.unusedVariables false

attribute [local go_sem] Oper.semAt_some

set_option maxRecDepth 100000 in
set_option maxHeartbeats 1000000 in
theorem cutter_any (s : ByteArray) (w : World) :
    Calls Tryd.prog 31 #[.string s] w fun e w' => e = .returned (.func (.func 38) #[] #[.pointer (some ⟨w.heap.size + 1, 0, none⟩), .pointer (some ⟨w.heap.size, 0, none⟩), .pointer (some ⟨w.heap.size + 2, 0, none⟩), .pointer (some ⟨w.heap.size + 3, 0, none⟩)]) ∧
      Cutter w' (w.heap.size + 1) w.heap.size (w.heap.size + 2) (w.heap.size + 3) s 0 ∧ Below w.heap.size w w' ∧ w'.heap.size = w.heap.size + 4 := by
  go_enter Tryd.func31, Tryd.ntmps31
  go_wp2
  go_ret
  refine ⟨rfl, ⟨?_, ?_, ?_, ?_⟩, ?_, ?_⟩
  · exact ((Has.new _ _ _ (by simp)).alloc _).alloc _
  · exact (((Has.new _ _ _ rfl).alloc _).alloc _).alloc _
  · rw [(at_start s).1]; exact (Has.new _ _ _ (by simp)).alloc _
  · rw [(at_start s).2.2]; exact Has.new _ _ _ (by simp)
  · exact ((((Below.refl _ _).alloc (Nat.le_refl _) _).alloc (by simp) _).alloc (by simp; omega) _).alloc (by simp; omega) _
  · simp

/-- The token that tells that a text is too long. -/
def longTok : Tok := ⟨⟨-1, 20, []⟩, 0, 0⟩

/-- The iterator's own cells. -/
def Mine (m : Nat) (k : Nat) : Prop := k = m + 1 ∨ k = m + 2 ∨ k = m + 3
/-- What a round that goes on keeps of what the iterator reads. -/
structure Keeps (m sb lo : Nat) (w w' : World) : Prop where
  size : w.heap.size ≤ w'.heap.size
  same : ∀ b, (b = 2 ∨ b = sb ∨ (m ≤ b ∧ b < m + 4) ∨ lo ≤ b) → b < w.heap.size → w'.heap[b]? = w.heap[b]?

set_option maxRecDepth 100000 in
set_option maxHeartbeats 4000000 in
theorem each1_short (s : ByteArray) (l n m sb : Nat) (ts : List Tok) (z : Tok) (J Jx : List Tok → World → Prop) (W : World) (hs : s.size ≤ 65536) (hst : Stm s 0 ts z) (hm : W.heap.size = m) (hW : Wt W) (hsb : Has W sb #[.string s])
    (hJ : ∀ pre A B, J pre A → m ≤ A.heap.size → Only (Mine m) A B → J pre B)
    (hY : ∀ pre x W1 W2, J pre W1 → pre ++ [x] <+: ts ++ [z] → m ≤ W1.heap.size → (x ≠ longTok → m + 4 ≤ W1.heap.size) → Below W1.heap.size W1 W2 → YieldAt Fence.wide (n - 1) Tryd.prog l #[x.v] W2 fun e W' =>
      (e = .returned (.bool true) ∧ J (pre ++ [x]) W' ∧ Keeps m sb W1.heap.size W2 W') ∨ (e = .returned (.bool false) ∧ Jx (pre ++ [x]) W'))
    (h0 : J [] W) :
    CallsIn Fence.wide n Tryd.prog 29 #[.func (.yield l) #[] #[], .pointer (some ⟨sb, 0, none⟩)] W fun e W' => (∃ v, e = .returned v) ∧ (J (ts ++ [z]) W' ∨ ∃ pre, pre <+: ts ++ [z] ∧ Jx pre W') := by
  have hs' : ¬ (65536 : Int) < (s.size : Int) := by omega
  have hCu := fun w => cutter_any s w
  obtain ⟨s0, S1, s2⟩ := id hsb
  refine callsIn_of_wp Tryd.func29 rfl trivial ?_ rfl
  simp only [Tryd.ntmps29, List.size_toArray, List.length_cons, List.length_nil, Nat.reduceAdd, Nat.reduceSub, Array.replicate_succ, Array.replicate_zero, List.push_toArray, List.append_toArray, List.nil_append, List.cons_append]
  gi_wp2_with (refine ⟨trivial, fun h => (by cases h), ?_⟩; gi_at_call 31; refine (callsIn_wide.2 (hCu _)).mono ?_; rintro e w1 ⟨rfl, hC, hb, hz⟩)
  rw [hm] at hC hb hz
  have hO1 : Only (Mine m) W w1 := Only.of_below (by rw [hm]; exact hb)
  have hJ1 := hJ [] W w1 h0 (by omega) hO1
  have hm2 : 2 < m := by have := hW.1; omega
  gi_loopg [13] (s.size + 1) (fun gk t13 wr => ∃ (k : Nat) (pre rest : List Tok), gk = s.size + 1 - k ∧ k ≤ s.size ∧ ts = pre ++ rest ∧ Stm s k rest z ∧ J pre wr ∧ Cutter wr (m + 1) m (m + 2) (m + 3) s k ∧ Wt wr ∧ m + 4 ≤ wr.heap.size)
  case atStart => exact ⟨0, [], ts, rfl, by omega, rfl, hst, hJ1, hC, hW.below hb (by have := hW.1; omega), by omega⟩
  case round =>
    obtain ⟨k, pre, rest, hgk, hk, hts, hstm, hJw, hCw, hWw, hzw⟩ := hrel
    have hC1 := cutter1_any s k (m + 1) m (m + 2) (m + 3) wr (by omega) hk hWw (by constructor <;> omega) hCw
    have hsk := skip_bd s _ k (Nat.le_refl _) hk
    have hpre : pre ++ [tokAt s (skipAt s k)] <+: ts ++ [z] := by
      rw [hts]
      cases hstm with
      | stop _ _ => exact ⟨[], by simp⟩
      | go _ ts' _ _ _ => exact ⟨ts' ++ [z], by simp⟩
    have hY1 := fun W1 W2 h1 (h2 : m + 4 ≤ W1.heap.size) h3 => hY pre (tokAt s (skipAt s k)) W1 W2 h1 hpre (by omega) (fun _ => h2) h3
    have hJ2 := fun B hB => hJ pre wr B hJw (by omega) hB
    have hrest : (Ends (tokAt s (skipAt s k)).t ∧ ts ++ [z] = pre ++ [tokAt s (skipAt s k)]) ∨ (¬ Ends (tokAt s (skipAt s k)).t ∧ ∃ ts', ts = pre ++ [tokAt s (skipAt s k)] ++ ts' ∧ Stm s (skipAt s k + sizeAt s (skipAt s k)) ts' z) := by
      rw [hts]
      cases hstm with
      | stop _ h => exact .inl ⟨h, by simp⟩
      | go _ ts' _ h hr => exact .inr ⟨h, ts', by simp, hr⟩
    have hsz := fun h => size_bd s (skipAt s k) hsk.2 h
    have hlb := fun (h : ¬ Ends (tokAt s (skipAt s k)).t) => still s (skipAt s k) (sizeAt s (skipAt s k)) (hsz h).2.1 (hsz h).2.2
    clear hstm hpre hts
    generalize tokAt s (skipAt s k) = X at *
    generalize skipAt s k = j at *
    obtain ⟨⟨kk, nn, xx⟩, ln, cl⟩ := X
    have ev : Tok.v ⟨⟨kk, nn, xx⟩, ln, cl⟩ = .agg #[.int .i64 kk, .int .i32 nn, .string (bs xx), .int .i64 ln, .int .i64 cl] := rfl
    rw [ev] at hC1 hY1
    have HR : Hid _ := hrest
    have HZ : Hid _ := hsz
    have HLB : Hid _ := hlb
    clear hrest ev hsz hlb
    generalize bs xx = BX at hC1 hY1
    have hCw' := hCw
    by_cases hkk : kk = 0 ∨ kk = -1
    · have HE : Hid (ts ++ [z] = pre ++ [⟨⟨kk, nn, xx⟩, ln, cl⟩]) := by
        rcases HR.out with ⟨_, h⟩ | ⟨h, _⟩
        · exact h
        · exact absurd hkk h
      have hp : Hid (pre ++ [(⟨⟨kk, nn, xx⟩, ln, cl⟩ : Tok)] <+: ts ++ [z]) := ⟨[], by rw [HE.out]; simp⟩
      rcases hkk with rfl | rfl
      · gi_wp2_with (refine ⟨trivial, fun h => (by cases h), ?_⟩; gi_at_call 38; refine (callsIn_wide.2 hC1).mono ?_; rintro e w2 ⟨rfl, hO2, hA2, hL2, hB2⟩; have hz2 := hO2.size; have hJ3 := hJ2 w2 hO2; obtain ⟨fn, tmps, assign, body, hy, hR⟩ := hY1 w2 (w2.alloc (.cells #[.int .i64 0, .int .i32 nn, .string BX, .int .i64 ln, .int .i64 cl] 27)) hJ3 (by omega) ((Below.refl _ _).alloc (Nat.le_refl _) _))
        refine ⟨fun h => (by cases h), hR.mono ?_⟩
        rintro e w3 (⟨rfl, hJ4, hK⟩ | ⟨rfl, hJx⟩)
        · have hT4 := (Has.new w2 #[.int .i64 0, .int .i32 nn, .string BX, .int .i64 ln, .int .i64 cl] 27 rfl).blk hK.size (hK.same w2.heap.size (.inr (.inr (.inr (Nat.le_refl _)))) (by simp))
          obtain ⟨t0, T1, t2⟩ := id hT4
          gi_wp2
          refine bodyPost_ret (results_none rfl _ _ _) rfl ?_
          exact ⟨⟨_, rfl⟩, .inl (by rw [HE.out]; exact hJ4)⟩
        · gi_wp2
          refine bodyPost_ret (results_none rfl _ _ _) rfl ?_
          exact ⟨⟨_, rfl⟩, .inr ⟨_, hp.out, hJx⟩⟩
      · gi_wp2_with (refine ⟨trivial, fun h => (by cases h), ?_⟩; gi_at_call 38; refine (callsIn_wide.2 hC1).mono ?_; rintro e w2 ⟨rfl, hO2, hA2, hL2, hB2⟩; have hz2 := hO2.size; have hJ3 := hJ2 w2 hO2; obtain ⟨fn, tmps, assign, body, hy, hR⟩ := hY1 w2 (w2.alloc (.cells #[.int .i64 (-1), .int .i32 nn, .string BX, .int .i64 ln, .int .i64 cl] 27)) hJ3 (by omega) ((Below.refl _ _).alloc (Nat.le_refl _) _))
        refine ⟨fun h => (by cases h), hR.mono ?_⟩
        rintro e w3 (⟨rfl, hJ4, hK⟩ | ⟨rfl, hJx⟩)
        · have hT4 := (Has.new w2 #[.int .i64 (-1), .int .i32 nn, .string BX, .int .i64 ln, .int .i64 cl] 27 rfl).blk hK.size (hK.same w2.heap.size (.inr (.inr (.inr (Nat.le_refl _)))) (by simp))
          obtain ⟨t0, T1, t2⟩ := id hT4
          gi_wp2
          refine bodyPost_ret (results_none rfl _ _ _) rfl ?_
          exact ⟨⟨_, rfl⟩, .inl (by rw [HE.out]; exact hJ4)⟩
        · gi_wp2
          refine bodyPost_ret (results_none rfl _ _ _) rfl ?_
          exact ⟨⟨_, rfl⟩, .inr ⟨_, hp.out, hJx⟩⟩
    · have hk0 : ¬ kk = 0 := fun h => hkk (.inl h)
      have hk1 : ¬ kk = -1 := fun h => hkk (.inr h)
      have e0 : (kk == 0) = false := by simpa using hk0
      have e1 : (kk == -1) = false := by simpa using hk1
      obtain ⟨ts', hts', hst'⟩ : ∃ ts', ts = pre ++ [⟨⟨kk, nn, xx⟩, ln, cl⟩] ++ ts' ∧ Stm s (j + sizeAt s j) ts' z := by
        rcases HR.out with ⟨h, _⟩ | ⟨_, h⟩
        · exact absurd h hkk
        · exact h
      have hp : Hid (pre ++ [(⟨⟨kk, nn, xx⟩, ln, cl⟩ : Tok)] <+: ts ++ [z]) := ⟨ts' ++ [z], by rw [hts']; simp⟩
      have hszb := HZ.out hkk
      have hlb := HLB.out hkk
      have HT : Hid (ts = pre ++ [⟨⟨kk, nn, xx⟩, ln, cl⟩] ++ ts') := hts'
      have HB : Hid (lineAt s (j + sizeAt s j) = lineAt s j ∧ begAt s (j + sizeAt s j) = begAt s j) := hlb
      have hb1 := hszb.1
      have hb2 := hszb.2.1
      clear hkk hts' hlb hszb
      gi_wp2_with (refine ⟨trivial, fun h => (by cases h), ?_⟩; gi_at_call 38; refine (callsIn_wide.2 hC1).mono ?_; rintro e w2 ⟨rfl, hO2, hA2, hL2, hB2⟩; have hz2 := hO2.size; have hJ3 := hJ2 w2 hO2; obtain ⟨fn, tmps, assign, body, hy, hR⟩ := hY1 w2 (w2.alloc (.cells #[.int .i64 kk, .int .i32 nn, .string BX, .int .i64 ln, .int .i64 cl] 27)) hJ3 (by omega) ((Below.refl _ _).alloc (Nat.le_refl _) _))
      refine ⟨fun h => (by cases h), hR.mono ?_⟩
      rintro e w3 (⟨rfl, hJ4, hK⟩ | ⟨rfl, hJx⟩)
      · have hT4 := (Has.new w2 #[.int .i64 kk, .int .i32 nn, .string BX, .int .i64 ln, .int .i64 cl] 27 rfl).blk hK.size (hK.same w2.heap.size (.inr (.inr (.inr (Nat.le_refl _)))) (by simp))
        obtain ⟨t0, T1, t2⟩ := id hT4
        gi_wp2
        go_roundg (s.size + 1 - (j + sizeAt s j))
        case measure => go_light; omega
        case rel =>
          have hk3 := hK.size
          simp at hk3
          refine ⟨j + sizeAt s j, pre ++ [⟨⟨kk, nn, xx⟩, ln, cl⟩], ts', rfl, hb2, by rw [HT.out], hst', hJ4, ⟨?_, ?_, ?_, ?_⟩, ?_, by omega⟩
          · exact (hA2.alloc _).blk hK.size (hK.same _ (by omega) (by simp; omega))
          · exact ((hCw'.src.only hO2 (by omega)).alloc _).blk hK.size (hK.same _ (by omega) (by simp; omega))
          · rw [HB.out.1]; exact (hL2.alloc _).blk hK.size (hK.same _ (by omega) (by simp; omega))
          · rw [HB.out.2]; exact (hB2.alloc _).blk hK.size (hK.same _ (by omega) (by simp; omega))
          · have h1 : Wt (w2.alloc (.cells #[.int .i64 kk, .int .i32 nn, .string BX, .int .i64 ln, .int .i64 cl] 27)) := (hWw.only hO2 (by omega)).below ((Below.refl _ _).alloc (Nat.le_refl _) _) (by have := hWw.1; omega)
            exact ⟨Nat.lt_of_lt_of_le h1.1 hK.size, fun i hi => (World.cell?_of_block (w := w2.alloc _) (hK.same 2 (.inl rfl) h1.1)).trans (h1.2 i hi)⟩
      · gi_wp2
        refine bodyPost_ret (results_none rfl _ _ _) rfl ?_
        exact ⟨⟨_, rfl⟩, .inr ⟨_, hp.out, hJx⟩⟩

set_option maxRecDepth 100000 in
set_option maxHeartbeats 4000000 in
theorem each1_long (s : ByteArray) (l n m sb : Nat) (J Jx : List Tok → World → Prop) (W : World) (hs : 65536 < s.size) (hm : W.heap.size = m) (hsb : Has W sb #[.string s])
    (hJ : ∀ pre A B, J pre A → m ≤ A.heap.size → Only (Mine m) A B → J pre B)
    (hY : ∀ W1 W2, J [] W1 → m ≤ W1.heap.size → Below W1.heap.size W1 W2 → YieldAt Fence.wide (n - 1) Tryd.prog l #[longTok.v] W2 fun e W' =>
      (e = .returned (.bool true) ∧ J [longTok] W' ∧ Keeps m sb W1.heap.size W2 W') ∨ (e = .returned (.bool false) ∧ Jx [longTok] W'))
    (h0 : J [] W) :
    CallsIn Fence.wide n Tryd.prog 29 #[.func (.yield l) #[] #[], .pointer (some ⟨sb, 0, none⟩)] W fun e W' => (∃ v, e = .returned v) ∧ (J [longTok] W' ∨ Jx [longTok] W') := by
  have hs' : (65536 : Int) < (s.size : Int) := by omega
  have hB := fun w => badToken_any 20 w (by omega) (by omega)
  have ev : longTok.v = .agg #[.int .i64 (-1), .int .i32 20, .string ⟨#[]⟩, .int .i64 0, .int .i64 0] := rfl
  rw [tokV_eq, bs_nil] at hB
  rw [ev] at hY
  clear ev
  obtain ⟨s0, S1, s2⟩ := id hsb
  refine callsIn_of_wp Tryd.func29 rfl trivial ?_ rfl
  simp only [Tryd.ntmps29, List.size_toArray, List.length_cons, List.length_nil, Nat.reduceAdd, Nat.reduceSub, Array.replicate_succ, Array.replicate_zero, List.push_toArray, List.append_toArray, List.nil_append, List.cons_append]
  gi_wp2_with (refine ⟨trivial, fun h => (by cases h), ?_⟩; gi_at_call 30; refine (callsIn_wide.2 (hB _)).mono ?_; rintro e w1 ⟨rfl, hb⟩; obtain ⟨fn, tmps, assign, body, hy, hR⟩ := hY W w1 h0 (by omega) hb)
  refine ⟨fun h => (by cases h), hR.mono ?_⟩
  rintro e w3 (⟨rfl, hJ4, hK⟩ | ⟨rfl, hJx⟩)
  · gi_wp2
    refine bodyPost_ret (results_none rfl _ _ _) rfl ?_
    exact ⟨⟨_, rfl⟩, .inl hJ4⟩
  · gi_wp2
    refine bodyPost_ret (results_none rfl _ _ _) rfl ?_
    exact ⟨⟨_, rfl⟩, .inr hJx⟩

/-- All that Each gives: the tokens, and the last one. -/
def Whole (s : ByteArray) (ts : List Tok) (z : Tok) : Prop := (s.size ≤ 65536 ∧ Stm s 0 ts z) ∨ (65536 < s.size ∧ ts = [] ∧ z = longTok)

theorem each1_any (s : ByteArray) (l n m sb : Nat) (ts : List Tok) (z : Tok) (J Jx : List Tok → World → Prop) (W : World) (hw : Whole s ts z) (hm : W.heap.size = m) (hW : Wt W) (hsb : Has W sb #[.string s])
    (hJ : ∀ pre A B, J pre A → m ≤ A.heap.size → Only (Mine m) A B → J pre B)
    (hY : ∀ pre x W1 W2, J pre W1 → pre ++ [x] <+: ts ++ [z] → m ≤ W1.heap.size → (x ≠ longTok → m + 4 ≤ W1.heap.size) → Below W1.heap.size W1 W2 → YieldAt Fence.wide (n - 1) Tryd.prog l #[x.v] W2 fun e W' =>
      (e = .returned (.bool true) ∧ J (pre ++ [x]) W' ∧ Keeps m sb W1.heap.size W2 W') ∨ (e = .returned (.bool false) ∧ Jx (pre ++ [x]) W'))
    (h0 : J [] W) :
    CallsIn Fence.wide n Tryd.prog 29 #[.func (.yield l) #[] #[], .pointer (some ⟨sb, 0, none⟩)] W fun e W' => (∃ v, e = .returned v) ∧ (J (ts ++ [z]) W' ∨ ∃ pre, pre <+: ts ++ [z] ∧ Jx pre W') := by
  rcases hw with ⟨h, hst⟩ | ⟨h, rfl, rfl⟩
  · exact each1_short s l n m sb ts z J Jx W h hst hm hW hsb hJ hY h0
  · refine (each1_long s l n m sb J Jx W h hm hsb hJ (fun W1 W2 h1 h2 h3 => hY [] longTok W1 W2 h1 ⟨[], rfl⟩ h2 (fun h => absurd rfl h) h3) h0).mono ?_
    rintro e W' ⟨hv, hJ' | hJx⟩
    · exact ⟨hv, .inl hJ'⟩
    · exact ⟨hv, .inr ⟨[longTok], ⟨[], rfl⟩, hJx⟩⟩
end Go.Proofs.YtjohnhaahpggkabDoor
