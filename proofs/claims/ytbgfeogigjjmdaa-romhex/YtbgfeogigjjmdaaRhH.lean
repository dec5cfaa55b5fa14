import Derived.Test.YtbgfeogigjjmdaaRhM
namespace Go.Proofs.Ytbgfeogigjjmdaa
open Go.RowKit
set_option linter.unusedVariables false

/-- What the reference's FromHex answers. -/
def FrP (s : ByteArray) (o : Except (Nat × Nat × Nat) Rd) (B : Nat) (e : Ending) (w' : World) : Prop := match o with
  | .error (c, ln, col) => e = .returned (.tuple #[.slice none 0 0, .agg #[.int .i64 ((c : Nat) : Int), .int .i64 ((ln : Nat) : Int), .int .i64 ((col : Nat) : Int)]])
  | .ok st => if st.en = true then ∃ dv, e = .returned (.tuple #[dv, .agg #[.int .i64 0, .int .i64 0, .int .i64 0]]) ∧ w'.ownsRow B 5 1 dv st.D.length (v8 st.D) ∧ ∀ x ∈ st.D, x < 256
    else e = .returned (.tuple #[.slice none 0 0, .agg #[.int .i64 103, .int .i64 ((Lib.countByte s.data.toList 10 : Nat) + 1), .int .i64 ((s.size : Int) - Lib.lastIndexByte s 10)]])
theorem FrP.whole {s : ByteArray} {st : Rd} {B : Nat} {e : Ending} {w' : World} (hen : st.en = true) (h : ∃ dv, e = .returned (.tuple #[dv, .agg #[.int .i64 0, .int .i64 0, .int .i64 0]]) ∧ w'.ownsRow B 5 1 dv st.D.length (v8 st.D) ∧ ∀ x ∈ st.D, x < 256) : FrP s (.ok st) B e w' := by
  show if _ then _ else _
  rw [if_pos hen]; exact h
theorem FrP.cut {s : ByteArray} {st : Rd} {B : Nat} {e : Ending} {w' : World} (hen : st.en = false) (h : e = .returned (.tuple #[.slice none 0 0, .agg #[.int .i64 103, .int .i64 ((Lib.countByte s.data.toList 10 : Nat) + 1), .int .i64 ((s.size : Int) - Lib.lastIndexByte s 10)]])) : FrP s (.ok st) B e w' := by
  show if _ then _ else _
  rw [if_neg (by rw [hen]; decide)]; exact h
/-- What is known of the text ahead of the line that begins at a. -/
def At (M : List Nat) (a k n : Nat) (st : Rd) (RS : Except (Nat × Nat × Nat) Rd) : Prop := 10 ∉ (M.drop a).take (k - a) ∧ runL st n (rawL (M.drop a)) = RS ∧ n = 1 + (M.take a).count 10 ∧ (a = 0 ∨ M.getD (a - 1) 0 = 10)
theorem At.more {M : List Nat} {a k n : Nat} {st : Rd} {RS : Except (Nat × Nat × Nat) Rd} (h : At M a k n st RS) (ha : a ≤ k) (hk : k < M.length) (hc : M.getD k 0 ≠ 10) : At M a (k + 1) n st RS := ⟨not_more ha hk h.1 hc, h.2⟩
theorem At.bad {M : List Nat} {a k n : Nat} {st : Rd} {RS : Except (Nat × Nat × Nat) Rd} {l : List Nat} {c col : Nat} (h : At M a k n st RS) (ha : a ≤ k) (hk : k < M.length) (hc : M.getD k 0 = 10) (hl : strip ((M.drop a).take (k - a), true) = l) (hb : linF st l = .error (c, col)) : RS = .error (c, n, col) := by
  rw [← h.2.1, raw_step M a k ha hk h.1 hc]
  simp only [runL]
  rw [hl, hb]
theorem At.next {M : List Nat} {a k n : Nat} {st st' : Rd} {RS : Except (Nat × Nat × Nat) Rd} {l : List Nat} (h : At M a k n st RS) (ha : a ≤ k) (hk : k < M.length) (hc : M.getD k 0 = 10) (hl : strip ((M.drop a).take (k - a), true) = l) (hb : linF st l = .ok st') : At M (k + 1) (k + 1) (n + 1) st' RS := by
  refine ⟨by simp, ?_, ?_, .inr hc⟩
  · rw [← h.2.1, raw_step M a k ha hk h.1 hc]
    simp only [runL]
    rw [hl, hb]
  · rw [count_take M k hk a ha h.1 hc, h.2.2.1]; omega
theorem At.rest {M : List Nat} {a n : Nat} {st : Rd} {RS : Except (Nat × Nat × Nat) Rd} (h : At M a M.length n st RS) : 10 ∉ M.drop a := by
  have := h.1
  rwa [List.take_of_length_le (by rw [List.length_drop]; exact Nat.le_refl _)] at this
theorem At.none {M : List Nat} {n : Nat} {st : Rd} {RS : Except (Nat × Nat × Nat) Rd} (h : At M M.length M.length n st RS) : RS = .ok st := by
  rw [← h.2.1, List.drop_of_length_le (Nat.le_refl _)]; rfl
theorem At.lastBad {M : List Nat} {a n : Nat} {st : Rd} {RS : Except (Nat × Nat × Nat) Rd} {c col : Nat} (h : At M a M.length n st RS) (ha : a < M.length) (hb : linF st (M.drop a) = .error (c, col)) : RS = .error (c, n, col) := by
  have hne : M.drop a ≠ [] := by intro e; have := congrArg List.length e; rw [List.length_drop] at this; simp at this; omega
  rw [← h.2.1, rawL_last _ h.rest hne]
  simp only [runL]
  rw [show strip (M.drop a, false) = M.drop a from if_neg (by simp), hb]
theorem At.lastOk {M : List Nat} {a n : Nat} {st st' : Rd} {RS : Except (Nat × Nat × Nat) Rd} (h : At M a M.length n st RS) (ha : a < M.length) (hb : linF st (M.drop a) = .ok st') : RS = .ok st' := by
  have hne : M.drop a ≠ [] := by intro e; have := congrArg List.length e; rw [List.length_drop] at this; simp at this; omega
  rw [← h.2.1, rawL_last _ h.rest hne]
  simp only [runL]
  rw [show strip (M.drop a, false) = M.drop a from if_neg (by simp), hb]
theorem At.place {s : ByteArray} {a n : Nat} {st : Rd} {RS : Except (Nat × Nat × Nat) Rd} (h : At (nl s) a (nl s).length n st RS) (ha : a ≤ s.size) : (n : Int) = (Lib.countByte s.data.toList 10 : Nat) + 1 ∧ (s.size : Int) - (a : Int) + 1 = (s.size : Int) - Lib.lastIndexByte s 10 := by
  rw [last_nl s a ha h.rest h.2.2.2, count_nl, count_drop h.rest, h.2.2.1]
  omega
theorem sl_str (s : ByteArray) (a b : Nat) (hab : a ≤ b) (hb : b ≤ s.size) (L R : Int) (eL : L = (a : Int)) (eR : R = (b : Int)) (w : World) :
    Sem.run Try.prog (Instr.slice 9 (.string s) (some (.int .i64 L)) (some (.int .i64 R)) none) w = .ok (.string (s.extract a b)) w := by
  subst eL eR
  have h1 : (0 : Int) ≤ (a : Int) := by omega
  have h2 : (a : Int) ≤ (b : Int) := by omega
  have h3 : (b : Int) ≤ (s.size : Int) := by omega
  simp [go_sem, h1, h2, h3]

set_option maxRecDepth 100000 in
set_option maxHeartbeats 8000000 in
theorem refFrom_any (s : ByteArray) (w : World) (hs : s.size < 4611686018427387904) :
    Calls Try.prog 10 #[.string s] w fun e w' => FrP s (runL st0 1 (rawL (nl s))) w.heap.size e w' ∧ Below w.heap.size w w' := by
  obtain ⟨RS, hRS⟩ : ∃ RS, runL st0 1 (rawL (nl s)) = RS := ⟨_, rfl⟩
  rw [hRS]
  have hA0 : Hid (At (nl s) 0 0 1 st0 RS) := ⟨by simp, hRS, by simp, .inl rfl⟩
  have hML : Hid ((nl s).length = s.size) := nl_len s
  clear hRS
  have hW1 : Below w.heap.size w ((w.alloc (.cells #[.int .i64 0, .int .i64 0, .int .i64 0] 29)).alloc (.cells #[.slice none 0 0, .bool false, .bool false] 44)) := ((Below.refl _ _).alloc (Nat.le_refl _) _).alloc (by simp) _
  have hX29 : ((w.alloc (.cells #[.int .i64 0, .int .i64 0, .int .i64 0] 29)).alloc (.cells #[.slice none 0 0, .bool false, .bool false] 44)).heap[w.heap.size]? = some (.cells #[.int .i64 0, .int .i64 0, .int .i64 0] 29 (0, 0)) := (Below.heap_alloc _ _ _ (by simp)).trans (heap_alloc_new w _)
  have hX44 : ((w.alloc (.cells #[.int .i64 0, .int .i64 0, .int .i64 0] 29)).alloc (.cells #[.slice none 0 0, .bool false, .bool false] 44)).heap[w.heap.size + 1]? = some (.cells #[.slice none 0 0, .bool false, .bool false] 44 (0, 0)) := by
    have := heap_alloc_new (w.alloc (.cells #[.int .i64 0, .int .i64 0, .int .i64 0] 29)) (.cells #[.slice none 0 0, .bool false, .bool false] 44)
    rwa [World.size_alloc] at this
  have hBU0 : Hid (BU ((w.alloc (.cells #[.int .i64 0, .int .i64 0, .int .i64 0] 29)).alloc (.cells #[.slice none 0 0, .bool false, .bool false] 44)) (w.heap.size + 1) (w.heap.size + 1) st0) := ⟨_, hX44, World.ownsRow_nil _ _ _ _, Nat.le_refl _, by simp [st0]⟩
  have hsz0 : ((w.alloc (.cells #[.int .i64 0, .int .i64 0, .int .i64 0] 29)).alloc (.cells #[.slice none 0 0, .bool false, .bool false] 44)).heap.size = w.heap.size + 2 := by simp
  have hE0 : Hid (((w.alloc (.cells #[.int .i64 0, .int .i64 0, .int .i64 0] 29)).alloc (.cells #[.slice none 0 0, .bool false, .bool false] 44)).heap[w.heap.size]? = some (.cells #[.int .i64 0, .int .i64 0, .int .i64 0] 29 (0, 0)) ∧ Below w.heap.size w ((w.alloc (.cells #[.int .i64 0, .int .i64 0, .int .i64 0] 29)).alloc (.cells #[.slice none 0 0, .bool false, .bool false] 44)) ∧ w.heap.size + 1 < ((w.alloc (.cells #[.int .i64 0, .int .i64 0, .int .i64 0] 29)).alloc (.cells #[.slice none 0 0, .bool false, .bool false] 44)).heap.size) := ⟨hX29, hW1, by rw [hsz0]; omega⟩
  clear hW1 hX29 hX44 hsz0
  have hG : Hid (∀ k, k < s.size → (nl s).getD k 0 = s[k]!.toNat) := fun k hk => by rw [nl_get s k hk, getElem!_pos s k hk]
  go_enter Try.func10, Try.ntmps10
  go_wp2
  go_loopg [5, 6, 7] s.size (fun gk nn av i wr => ∃ (k a n : Nat) (st : Rd), k + gk = s.size ∧ i = .int .i64 (k : Int) ∧ av = .int .i64 (a : Int) ∧ nn = .int .i64 (n : Int) ∧ a ≤ k ∧ n ≤ 1 + a ∧ Hid (At (nl s) a k n st RS) ∧ Hid (BU wr (w.heap.size + 1) (w.heap.size + 1) st) ∧ Hid (st.D.length ≤ 1048576) ∧ Hid (wr.heap[w.heap.size]? = some (.cells #[.int .i64 0, .int .i64 0, .int .i64 0] 29 (0, 0)) ∧ Below w.heap.size w wr ∧ w.heap.size + 1 < wr.heap.size))
  case atStart => exact ⟨0, 0, 1, st0, by omega, rfl, rfl, rfl, by omega, by omega, hA0, hBU0, by show _ ≤ _; simp [st0], hE0⟩
  case round =>
    clear hA0 hBU0 hE0
    obtain ⟨k, a, n, st, hk, rfl, rfl, rfl, hak, hna, hAt, hBu, hDl, hEx⟩ := hrel
    have hMl := hML.out
    by_cases hlt : k < s.size
    · have e0 := idx s k hlt
      have hg0 := nl_get s k hlt
      have hc0 : s[k].toNat < 256 := UInt8.toNat_lt _
      generalize s[k].toNat = c0 at e0 hg0 hc0
      have hk1 : (k : Int) ≤ (s.size : Int) := by omega
      have hk2 : (k : Int) < (s.size : Int) := by omega
      have hk3 : ((k : Int) == (s.size : Int)) = false := by simp; omega
      by_cases h10 : c0 = 10
      · have y0 : ((c0 : Int) != 10) = false := by simp; omega
        have hg10 : Hid ((nl s).getD k 0 = 10) := by show _ = _; rw [hg0, h10]
        clear hg0 h10
        by_cases hcr : a < k
        · have hcr1 : (a : Int) < (k : Int) := by omega
          have e1 : ∀ W : World, Sem.run Try.prog (Instr.index 9 (.string s) (.int .i64 ((k : Int) - 1))) W = .ok (.int .u8 (s[k - 1].toNat : Int)) W := by
            have := idx s (k - 1) (by omega)
            rwa [show ((k - 1 : Nat) : Int) = (k : Int) - 1 by omega] at this
          have hg1 := nl_get s (k - 1) (by omega)
          have hc1 : s[k - 1].toNat < 256 := UInt8.toNat_lt _
          generalize s[k - 1].toNat = c1 at e1 hg1 hc1
          by_cases h13 : c1 = 13
          · have y1 : ((c1 : Int) == 13) = true := by simp; omega
            have hst : strip (((nl s).drop a).take (k - a), true) = nl (s.extract a (k - 1)) := by rw [nl_extract]; exact strip_cr (nl s) a k hcr (by omega) (by rw [hg1, h13])
            have hsl : ∀ W : World, Sem.run Try.prog (Instr.slice 9 (.string s) (some (.int .i64 (a : Int))) (some (.int .i64 ((k : Int) - 1))) none) W = .ok (.string (s.extract a (k - 1))) W := fun W => sl_str s a (k - 1) (by omega) (by omega) _ _ rfl (by omega) W
            have hsz : (s.extract a (k - 1)).size < 4611686018427387904 := by rw [ByteArray.size_extract]; omega
            generalize s.extract a (k - 1) = ln at hst hsl hsz
            clear h13 hg1
            have hcall := burnLine_any (w.heap.size + 1) (w.heap.size + 1) st ln wr hsz hBu.out hDl.out (by have := hEx.out.2.2; omega)
            cases hlf : linF st (nl ln) with
            | error ec =>
              obtain ⟨c, col⟩ := ec
              rw [hlf] at hcall
              have hRe : Hid (RS = .error (c, n, col)) := hAt.out.bad hak (by omega) hg10.out hst hlf
              have hc8 : ((c : Int) != 0) = true := by have := linF_err hlf; simp; omega
              clear hlf hst
              go_wp2_with (go_at_call 15; (with_reducible refine Calls.mono hcall ?_); rintro e w2 ⟨he, hE2⟩; have he' : e = .returned (.tuple #[.int .i64 ((c : Nat) : Int), .int .i64 ((col : Nat) : Int)]) := he; subst he'; have h29 : w2.heap[w.heap.size]? = some (.cells #[.int .i64 0, .int .i64 0, .int .i64 0] 29 (0, 0)) := (hE2.block _ (by omega)).trans hEx.out.1; have g0 := (Has.ofHeap h29).2.1 0; have g1 := (Has.ofHeap h29).2.1 1; have g2 := (Has.ofHeap h29).2.1 2; have z0 := (Has.ofHeap h29).2.2 0; have z1 := (Has.ofHeap h29).2.2 1; have z2 := (Has.ofHeap h29).2.2 2)
              have hH3 := (((Has.ofHeap h29).set 0 (by simp) (.int .i64 ((c : Nat) : Int))).set 1 (by simp) (.int .i64 ((n : Nat) : Int))).set 2 (by simp) (.int .i64 ((col : Nat) : Int))
              have d0 := hH3.2.1 0
              have d1 := hH3.2.1 1
              have d2 := hH3.2.1 2
              have hbb : Below w.heap.size w (((w2.setCell ⟨w.heap.size, 0, none⟩ (.int .i64 ((c : Nat) : Int))).setCell ⟨w.heap.size, 1, none⟩ (.int .i64 ((n : Nat) : Int))).setCell ⟨w.heap.size, 2, none⟩ (.int .i64 ((col : Nat) : Int))) := (((hEx.out.2.1.trans (hE2.mono (by omega))).setCell (p := ⟨w.heap.size, 0, none⟩) (Nat.le_refl _) _).setCell (p := ⟨w.heap.size, 1, none⟩) (Nat.le_refl _) _).setCell (p := ⟨w.heap.size, 2, none⟩) (Nat.le_refl _) _
              generalize ((w2.setCell ⟨w.heap.size, 0, none⟩ (.int .i64 ((c : Nat) : Int))).setCell ⟨w.heap.size, 1, none⟩ (.int .i64 ((n : Nat) : Int))).setCell ⟨w.heap.size, 2, none⟩ (.int .i64 ((col : Nat) : Int)) = U at *
              exact bodyPost_ret (v := .tuple #[.slice none 0 0, .agg #[.int .i64 ((c : Nat) : Int), .int .i64 ((n : Nat) : Int), .int .i64 ((col : Nat) : Int)]]) (by simp [results, Try.results10, go_sem, d0, d1, d2]) rfl ⟨by rw [hRe.out]; rfl, hbb⟩
            | ok st' =>
              rw [hlf] at hcall
              have hA2 : Hid (At (nl s) (k + 1) (k + 1) (n + 1) st' RS) := hAt.out.next hak (by omega) hg10.out hst hlf
              have hD2 : Hid (st'.D.length ≤ 1048576) := linF_len hlf hDl.out
              clear hlf hst
              go_wp2_with (go_at_call 15; (with_reducible refine Calls.mono hcall ?_); rintro e w2 ⟨⟨he, hU⟩, hE2⟩; subst he)
              go_roundg (s.size - (k + 1))
              case measure => go_light; omega
              case rel => exact ⟨k + 1, k + 1, n + 1, st', by omega, by go_num, by go_num, by go_num, by omega, by omega, hA2, hU, hD2, ⟨(hE2.block _ (by omega)).trans hEx.out.1, hEx.out.2.1.trans (hE2.mono (by omega)), Nat.lt_of_lt_of_le hEx.out.2.2 hE2.size⟩⟩
          · have y1 : ((c1 : Int) == 13) = false := by simp; omega
            have hst : strip (((nl s).drop a).take (k - a), true) = nl (s.extract a k) := by rw [nl_extract]; exact strip_no (nl s) a k (by omega) (fun _ => by rw [hg1]; exact h13)
            have hsl : ∀ W : World, Sem.run Try.prog (Instr.slice 9 (.string s) (some (.int .i64 (a : Int))) (some (.int .i64 (k : Int))) none) W = .ok (.string (s.extract a k)) W := fun W => sl_str s a k (by omega) (by omega) _ _ rfl rfl W
            have hsz : (s.extract a k).size < 4611686018427387904 := by rw [ByteArray.size_extract]; omega
            generalize s.extract a k = ln at hst hsl hsz
            clear h13 hg1
            have hcall := burnLine_any (w.heap.size + 1) (w.heap.size + 1) st ln wr hsz hBu.out hDl.out (by have := hEx.out.2.2; omega)
            cases hlf : linF st (nl ln) with
            | error ec =>
              obtain ⟨c, col⟩ := ec
              rw [hlf] at hcall
              have hRe : Hid (RS = .error (c, n, col)) := hAt.out.bad hak (by omega) hg10.out hst hlf
              have hc8 : ((c : Int) != 0) = true := by have := linF_err hlf; simp; omega
              clear hlf hst
              go_wp2_with (go_at_call 15; (with_reducible refine Calls.mono hcall ?_); rintro e w2 ⟨he, hE2⟩; have he' : e = .returned (.tuple #[.int .i64 ((c : Nat) : Int), .int .i64 ((col : Nat) : Int)]) := he; subst he'; have h29 : w2.heap[w.heap.size]? = some (.cells #[.int .i64 0, .int .i64 0, .int .i64 0] 29 (0, 0)) := (hE2.block _ (by omega)).trans hEx.out.1; have g0 := (Has.ofHeap h29).2.1 0; have g1 := (Has.ofHeap h29).2.1 1; have g2 := (Has.ofHeap h29).2.1 2; have z0 := (Has.ofHeap h29).2.2 0; have z1 := (Has.ofHeap h29).2.2 1; have z2 := (Has.ofHeap h29).2.2 2)
              have hH3 := (((Has.ofHeap h29).set 0 (by simp) (.int .i64 ((c : Nat) : Int))).set 1 (by simp) (.int .i64 ((n : Nat) : Int))).set 2 (by simp) (.int .i64 ((col : Nat) : Int))
              have d0 := hH3.2.1 0
              have d1 := hH3.2.1 1
              have d2 := hH3.2.1 2
              have hbb : Below w.heap.size w (((w2.setCell ⟨w.heap.size, 0, none⟩ (.int .i64 ((c : Nat) : Int))).setCell ⟨w.heap.size, 1, none⟩ (.int .i64 ((n : Nat) : Int))).setCell ⟨w.heap.size, 2, none⟩ (.int .i64 ((col : Nat) : Int))) := (((hEx.out.2.1.trans (hE2.mono (by omega))).setCell (p := ⟨w.heap.size, 0, none⟩) (Nat.le_refl _) _).setCell (p := ⟨w.heap.size, 1, none⟩) (Nat.le_refl _) _).setCell (p := ⟨w.heap.size, 2, none⟩) (Nat.le_refl _) _
              generalize ((w2.setCell ⟨w.heap.size, 0, none⟩ (.int .i64 ((c : Nat) : Int))).setCell ⟨w.heap.size, 1, none⟩ (.int .i64 ((n : Nat) : Int))).setCell ⟨w.heap.size, 2, none⟩ (.int .i64 ((col : Nat) : Int)) = U at *
              exact bodyPost_ret (v := .tuple #[.slice none 0 0, .agg #[.int .i64 ((c : Nat) : Int), .int .i64 ((n : Nat) : Int), .int .i64 ((col : Nat) : Int)]]) (by simp [results, Try.results10, go_sem, d0, d1, d2]) rfl ⟨by rw [hRe.out]; rfl, hbb⟩
            | ok st' =>
              rw [hlf] at hcall
              have hA2 : Hid (At (nl s) (k + 1) (k + 1) (n + 1) st' RS) := hAt.out.next hak (by omega) hg10.out hst hlf
              have hD2 : Hid (st'.D.length ≤ 1048576) := linF_len hlf hDl.out
              clear hlf hst
              go_wp2_with (go_at_call 15; (with_reducible refine Calls.mono hcall ?_); rintro e w2 ⟨⟨he, hU⟩, hE2⟩; subst he)
              go_roundg (s.size - (k + 1))
              case measure => go_light; omega
              case rel => exact ⟨k + 1, k + 1, n + 1, st', by omega, by go_num, by go_num, by go_num, by omega, by omega, hA2, hU, hD2, ⟨(hE2.block _ (by omega)).trans hEx.out.1, hEx.out.2.1.trans (hE2.mono (by omega)), Nat.lt_of_lt_of_le hEx.out.2.2 hE2.size⟩⟩
        · have hcr1 : ¬ (a : Int) < (k : Int) := by omega
          have hst : strip (((nl s).drop a).take (k - a), true) = nl (s.extract a k) := by rw [nl_extract]; exact strip_no (nl s) a k (by omega) (fun h => absurd h hcr)
          have hsl : ∀ W : World, Sem.run Try.prog (Instr.slice 9 (.string s) (some (.int .i64 (a : Int))) (some (.int .i64 (k : Int))) none) W = .ok (.string (s.extract a k)) W := fun W => sl_str s a k (by omega) (by omega) _ _ rfl rfl W
          have hsz : (s.extract a k).size < 4611686018427387904 := by rw [ByteArray.size_extract]; omega
          generalize s.extract a k = ln at hst hsl hsz
          have hcall := burnLine_any (w.heap.size + 1) (w.heap.size + 1) st ln wr hsz hBu.out hDl.out (by have := hEx.out.2.2; omega)
          cases hlf : linF st (nl ln) with
          | error ec =>
            obtain ⟨c, col⟩ := ec
            rw [hlf] at hcall
            have hRe : Hid (RS = .error (c, n, col)) := hAt.out.bad hak (by omega) hg10.out hst hlf
            have hc8 : ((c : Int) != 0) = true := by have := linF_err hlf; simp; omega
            clear hlf hst
            go_wp2_with (go_at_call 15; (with_reducible refine Calls.mono hcall ?_); rintro e w2 ⟨he, hE2⟩; have he' : e = .returned (.tuple #[.int .i64 ((c : Nat) : Int), .int .i64 ((col : Nat) : Int)]) := he; subst he'; have h29 : w2.heap[w.heap.size]? = some (.cells #[.int .i64 0, .int .i64 0, .int .i64 0] 29 (0, 0)) := (hE2.block _ (by omega)).trans hEx.out.1; have g0 := (Has.ofHeap h29).2.1 0; have g1 := (Has.ofHeap h29).2.1 1; have g2 := (Has.ofHeap h29).2.1 2; have z0 := (Has.ofHeap h29).2.2 0; have z1 := (Has.ofHeap h29).2.2 1; have z2 := (Has.ofHeap h29).2.2 2)
            have hH3 := (((Has.ofHeap h29).set 0 (by simp) (.int .i64 ((c : Nat) : Int))).set 1 (by simp) (.int .i64 ((n : Nat) : Int))).set 2 (by simp) (.int .i64 ((col : Nat) : Int))
            have d0 := hH3.2.1 0
            have d1 := hH3.2.1 1
            have d2 := hH3.2.1 2
            have hbb : Below w.heap.size w (((w2.setCell ⟨w.heap.size, 0, none⟩ (.int .i64 ((c : Nat) : Int))).setCell ⟨w.heap.size, 1, none⟩ (.int .i64 ((n : Nat) : Int))).setCell ⟨w.heap.size, 2, none⟩ (.int .i64 ((col : Nat) : Int))) := (((hEx.out.2.1.trans (hE2.mono (by omega))).setCell (p := ⟨w.heap.size, 0, none⟩) (Nat.le_refl _) _).setCell (p := ⟨w.heap.size, 1, none⟩) (Nat.le_refl _) _).setCell (p := ⟨w.heap.size, 2, none⟩) (Nat.le_refl _) _
            generalize ((w2.setCell ⟨w.heap.size, 0, none⟩ (.int .i64 ((c : Nat) : Int))).setCell ⟨w.heap.size, 1, none⟩ (.int .i64 ((n : Nat) : Int))).setCell ⟨w.heap.size, 2, none⟩ (.int .i64 ((col : Nat) : Int)) = U at *
            exact bodyPost_ret (v := .tuple #[.slice none 0 0, .agg #[.int .i64 ((c : Nat) : Int), .int .i64 ((n : Nat) : Int), .int .i64 ((col : Nat) : Int)]]) (by simp [results, Try.results10, go_sem, d0, d1, d2]) rfl ⟨by rw [hRe.out]; rfl, hbb⟩
          | ok st' =>
            rw [hlf] at hcall
            have hA2 : Hid (At (nl s) (k + 1) (k + 1) (n + 1) st' RS) := hAt.out.next hak (by omega) hg10.out hst hlf
            have hD2 : Hid (st'.D.length ≤ 1048576) := linF_len hlf hDl.out
            clear hlf hst
            go_wp2_with (go_at_call 15; (with_reducible refine Calls.mono hcall ?_); rintro e w2 ⟨⟨he, hU⟩, hE2⟩; subst he)
            go_roundg (s.size - (k + 1))
            case measure => go_light; omega
            case rel => exact ⟨k + 1, k + 1, n + 1, st', by omega, by go_num, by go_num, by go_num, by omega, by omega, hA2, hU, hD2, ⟨(hE2.block _ (by omega)).trans hEx.out.1, hEx.out.2.1.trans (hE2.mono (by omega)), Nat.lt_of_lt_of_le hEx.out.2.2 hE2.size⟩⟩
      · have y0 : ((c0 : Int) != 10) = true := by simp; omega
        have hA2 : Hid (At (nl s) a (k + 1) n st RS) := hAt.out.more hak (by omega) (by rw [hg0]; exact h10)
        clear hg0 h10
        go_wp2
        go_roundg (s.size - (k + 1))
        case measure => go_light; omega
        case rel => exact ⟨k + 1, a, n, st, by omega, by go_num, rfl, rfl, by omega, hna, hA2, hBu, hDl, hEx⟩
    · obtain rfl : k = s.size := by omega
      have hk1 : (s.size : Int) ≤ (s.size : Int) := by omega
      have hk2 : ¬ (s.size : Int) < (s.size : Int) := by omega
      rw [← hMl] at hAt
      by_cases haa : a = s.size
      · have y2 : ((a : Int) == (s.size : Int)) = true := by simp; omega
        have hRe : Hid (RS = .ok st) := by
          have h := hAt.out
          have e : a = (nl s).length := by omega
          rw [e] at h
          exact h.none
        have hPl : Hid _ := hAt.out.place (by omega)
        clear haa hMl
        have h29 : wr.heap[w.heap.size]? = some (.cells #[.int .i64 0, .int .i64 0, .int .i64 0] 29 (0, 0)) := hEx.out.1
        have g0 := (Has.ofHeap h29).2.1 0
        have g1 := (Has.ofHeap h29).2.1 1
        have g2 := (Has.ofHeap h29).2.1 2
        have z0 := (Has.ofHeap h29).2.2 0
        have z1 := (Has.ofHeap h29).2.2 1
        have z2 := (Has.ofHeap h29).2.2 2
        obtain ⟨dv, hh, hown, hBr, h256⟩ := hBu.out
        obtain ⟨da, dc, rfl⟩ := own_slice' hown
        have k0 : wr.cell? ⟨w.heap.size + 1, 0, none⟩ = some (.slice da st.D.length dc) := (Has.ofHeap hh).2.1 0
        have k1 : wr.cell? ⟨w.heap.size + 1, 1, none⟩ = some (.bool st.en) := (Has.ofHeap hh).2.1 1
        cases hen : st.en with
        | true =>
          rw [hen] at k1
          go_wp2
          have hH3 := (((Has.ofHeap h29).set 0 (by simp) (.int .i64 (0))).set 1 (by simp) (.int .i64 (0))).set 2 (by simp) (.int .i64 (0))
          have d0 := hH3.2.1 0
          have d1 := hH3.2.1 1
          have d2 := hH3.2.1 2
          have hbb : Below w.heap.size w (((wr.setCell ⟨w.heap.size, 0, none⟩ (.int .i64 (0))).setCell ⟨w.heap.size, 1, none⟩ (.int .i64 (0))).setCell ⟨w.heap.size, 2, none⟩ (.int .i64 (0))) := ((hEx.out.2.1.setCell (p := ⟨w.heap.size, 0, none⟩) (Nat.le_refl _) _).setCell (p := ⟨w.heap.size, 1, none⟩) (Nat.le_refl _) _).setCell (p := ⟨w.heap.size, 2, none⟩) (Nat.le_refl _) _
          have hO := (((Only.refl (fun k => k = w.heap.size) wr).set (b := w.heap.size) (i := 0) rfl (.int .i64 (0))).set (b := w.heap.size) (i := 1) rfl (.int .i64 (0))).set (b := w.heap.size) (i := 2) rfl (.int .i64 (0))
          have hw2 := own_mono (own_kept hown hO (fun g hg e => by have := (own_lt hown g hg).1; omega)) (Nat.le_succ w.heap.size)
          generalize ((wr.setCell ⟨w.heap.size, 0, none⟩ (.int .i64 (0))).setCell ⟨w.heap.size, 1, none⟩ (.int .i64 (0))).setCell ⟨w.heap.size, 2, none⟩ (.int .i64 (0)) = U at *
          exact bodyPost_ret (v := .tuple #[.slice da st.D.length dc, .agg #[.int .i64 (0), .int .i64 (0), .int .i64 (0)]]) (by simp [results, Try.results10, go_sem, d0, d1, d2]) rfl ⟨by rw [hRe.out]; exact FrP.whole hen ⟨_, rfl, hw2, h256⟩, hbb⟩
        | false =>
          rw [hen] at k1
          go_wp2
          have hH3 := (((Has.ofHeap h29).set 0 (by simp) (.int .i64 (103))).set 1 (by simp) (.int .i64 ((n : Nat) : Int))).set 2 (by simp) (.int .i64 ((s.size : Int) - (a : Int) + 1))
          have d0 := hH3.2.1 0
          have d1 := hH3.2.1 1
          have d2 := hH3.2.1 2
          have hbb : Below w.heap.size w (((wr.setCell ⟨w.heap.size, 0, none⟩ (.int .i64 (103))).setCell ⟨w.heap.size, 1, none⟩ (.int .i64 ((n : Nat) : Int))).setCell ⟨w.heap.size, 2, none⟩ (.int .i64 ((s.size : Int) - (a : Int) + 1))) := ((hEx.out.2.1.setCell (p := ⟨w.heap.size, 0, none⟩) (Nat.le_refl _) _).setCell (p := ⟨w.heap.size, 1, none⟩) (Nat.le_refl _) _).setCell (p := ⟨w.heap.size, 2, none⟩) (Nat.le_refl _) _
          generalize ((wr.setCell ⟨w.heap.size, 0, none⟩ (.int .i64 (103))).setCell ⟨w.heap.size, 1, none⟩ (.int .i64 ((n : Nat) : Int))).setCell ⟨w.heap.size, 2, none⟩ (.int .i64 ((s.size : Int) - (a : Int) + 1)) = U at *
          exact bodyPost_ret (v := .tuple #[.slice none 0 0, .agg #[.int .i64 (103), .int .i64 ((n : Nat) : Int), .int .i64 ((s.size : Int) - (a : Int) + 1)]]) (by simp [results, Try.results10, go_sem, d0, d1, d2]) rfl ⟨by rw [hRe.out]; exact FrP.cut hen (by rw [← hPl.out.1, ← hPl.out.2]), hbb⟩
      · have y2 : ((a : Int) == (s.size : Int)) = false := by simp; omega
        have hPl : Hid _ := hAt.out.place (by omega)
        have hst : (nl s).drop a = nl (s.extract a s.size) := by rw [nl_extract, List.take_of_length_le (by rw [List.length_drop, nl_len]; exact Nat.le_refl _)]
        have hsl : ∀ W : World, Sem.run Try.prog (Instr.slice 9 (.string s) (some (.int .i64 (a : Int))) (some (.int .i64 (s.size : Int))) none) W = .ok (.string (s.extract a s.size)) W := fun W => sl_str s a s.size (by omega) (by omega) _ _ rfl rfl W
        have hsz : (s.extract a s.size).size < 4611686018427387904 := by rw [ByteArray.size_extract]; omega
        generalize s.extract a s.size = ln at hst hsl hsz
        have hcall := burnLine_any (w.heap.size + 1) (w.heap.size + 1) st ln wr hsz hBu.out hDl.out (by have := hEx.out.2.2; omega)
        cases hlf : linF st (nl ln) with
        | error ec =>
          obtain ⟨c, col⟩ := ec
          rw [hlf] at hcall
          have hRe : Hid (RS = .error (c, n, col)) := hAt.out.lastBad (by omega) (by rw [hst]; exact hlf)
          have hc8 : ((c : Int) != 0) = true := by have := linF_err hlf; simp; omega
          clear hlf hst hMl
          go_wp2_with (go_at_call 15; (with_reducible refine Calls.mono hcall ?_); rintro e w2 ⟨he, hE2⟩; have he' : e = .returned (.tuple #[.int .i64 ((c : Nat) : Int), .int .i64 ((col : Nat) : Int)]) := he; subst he'; have h29 : w2.heap[w.heap.size]? = some (.cells #[.int .i64 0, .int .i64 0, .int .i64 0] 29 (0, 0)) := (hE2.block _ (by omega)).trans hEx.out.1; have g0 := (Has.ofHeap h29).2.1 0; have g1 := (Has.ofHeap h29).2.1 1; have g2 := (Has.ofHeap h29).2.1 2; have z0 := (Has.ofHeap h29).2.2 0; have z1 := (Has.ofHeap h29).2.2 1; have z2 := (Has.ofHeap h29).2.2 2)
          have hH3 := (((Has.ofHeap h29).set 0 (by simp) (.int .i64 ((c : Nat) : Int))).set 1 (by simp) (.int .i64 ((n : Nat) : Int))).set 2 (by simp) (.int .i64 ((col : Nat) : Int))
          have d0 := hH3.2.1 0
          have d1 := hH3.2.1 1
          have d2 := hH3.2.1 2
          have hbb : Below w.heap.size w (((w2.setCell ⟨w.heap.size, 0, none⟩ (.int .i64 ((c : Nat) : Int))).setCell ⟨w.heap.size, 1, none⟩ (.int .i64 ((n : Nat) : Int))).setCell ⟨w.heap.size, 2, none⟩ (.int .i64 ((col : Nat) : Int))) := (((hEx.out.2.1.trans (hE2.mono (by omega))).setCell (p := ⟨w.heap.size, 0, none⟩) (Nat.le_refl _) _).setCell (p := ⟨w.heap.size, 1, none⟩) (Nat.le_refl _) _).setCell (p := ⟨w.heap.size, 2, none⟩) (Nat.le_refl _) _
          generalize ((w2.setCell ⟨w.heap.size, 0, none⟩ (.int .i64 ((c : Nat) : Int))).setCell ⟨w.heap.size, 1, none⟩ (.int .i64 ((n : Nat) : Int))).setCell ⟨w.heap.size, 2, none⟩ (.int .i64 ((col : Nat) : Int)) = U at *
          exact bodyPost_ret (v := .tuple #[.slice none 0 0, .agg #[.int .i64 ((c : Nat) : Int), .int .i64 ((n : Nat) : Int), .int .i64 ((col : Nat) : Int)]]) (by simp [results, Try.results10, go_sem, d0, d1, d2]) rfl ⟨by rw [hRe.out]; rfl, hbb⟩
        | ok st' =>
          rw [hlf] at hcall
          have hRe : Hid (RS = .ok st') := hAt.out.lastOk (by omega) (by rw [hst]; exact hlf)
          clear hlf hst hMl
          go_upto_region 13 with (go_at_call 15; (with_reducible refine Calls.mono hcall ?_); rintro e w2 ⟨⟨he, hU⟩, hE2⟩; subst he)
          have h29 : w2.heap[w.heap.size]? = some (.cells #[.int .i64 0, .int .i64 0, .int .i64 0] 29 (0, 0)) := (hE2.block _ (by omega)).trans hEx.out.1
          have g0 := (Has.ofHeap h29).2.1 0
          have g1 := (Has.ofHeap h29).2.1 1
          have g2 := (Has.ofHeap h29).2.1 2
          have z0 := (Has.ofHeap h29).2.2 0
          have z1 := (Has.ofHeap h29).2.2 1
          have z2 := (Has.ofHeap h29).2.2 2
          obtain ⟨dv, hh, hown, hBr, h256⟩ := hU
          obtain ⟨da, dc, rfl⟩ := own_slice' hown
          have k0 : w2.cell? ⟨w.heap.size + 1, 0, none⟩ = some (.slice da st'.D.length dc) := (Has.ofHeap hh).2.1 0
          have k1 : w2.cell? ⟨w.heap.size + 1, 1, none⟩ = some (.bool st'.en) := (Has.ofHeap hh).2.1 1
          cases hen : st'.en with
          | true =>
            rw [hen] at k1
            go_wp2
            have hH3 := (((Has.ofHeap h29).set 0 (by simp) (.int .i64 (0))).set 1 (by simp) (.int .i64 (0))).set 2 (by simp) (.int .i64 (0))
            have d0 := hH3.2.1 0
            have d1 := hH3.2.1 1
            have d2 := hH3.2.1 2
            have hbb : Below w.heap.size w (((w2.setCell ⟨w.heap.size, 0, none⟩ (.int .i64 (0))).setCell ⟨w.heap.size, 1, none⟩ (.int .i64 (0))).setCell ⟨w.heap.size, 2, none⟩ (.int .i64 (0))) := (((hEx.out.2.1.trans (hE2.mono (by omega))).setCell (p := ⟨w.heap.size, 0, none⟩) (Nat.le_refl _) _).setCell (p := ⟨w.heap.size, 1, none⟩) (Nat.le_refl _) _).setCell (p := ⟨w.heap.size, 2, none⟩) (Nat.le_refl _) _
            have hO := (((Only.refl (fun k => k = w.heap.size) w2).set (b := w.heap.size) (i := 0) rfl (.int .i64 (0))).set (b := w.heap.size) (i := 1) rfl (.int .i64 (0))).set (b := w.heap.size) (i := 2) rfl (.int .i64 (0))
            have hw2 := own_mono (own_kept hown hO (fun g hg e => by have := (own_lt hown g hg).1; omega)) (Nat.le_succ w.heap.size)
            generalize ((w2.setCell ⟨w.heap.size, 0, none⟩ (.int .i64 (0))).setCell ⟨w.heap.size, 1, none⟩ (.int .i64 (0))).setCell ⟨w.heap.size, 2, none⟩ (.int .i64 (0)) = U at *
            exact bodyPost_ret (v := .tuple #[.slice da st'.D.length dc, .agg #[.int .i64 (0), .int .i64 (0), .int .i64 (0)]]) (by simp [results, Try.results10, go_sem, d0, d1, d2]) rfl ⟨by rw [hRe.out]; exact FrP.whole hen ⟨_, rfl, hw2, h256⟩, hbb⟩
          | false =>
            rw [hen] at k1
            go_wp2
            have hH3 := (((Has.ofHeap h29).set 0 (by simp) (.int .i64 (103))).set 1 (by simp) (.int .i64 ((n : Nat) : Int))).set 2 (by simp) (.int .i64 ((s.size : Int) - (a : Int) + 1))
            have d0 := hH3.2.1 0
            have d1 := hH3.2.1 1
            have d2 := hH3.2.1 2
            have hbb : Below w.heap.size w (((w2.setCell ⟨w.heap.size, 0, none⟩ (.int .i64 (103))).setCell ⟨w.heap.size, 1, none⟩ (.int .i64 ((n : Nat) : Int))).setCell ⟨w.heap.size, 2, none⟩ (.int .i64 ((s.size : Int) - (a : Int) + 1))) := (((hEx.out.2.1.trans (hE2.mono (by omega))).setCell (p := ⟨w.heap.size, 0, none⟩) (Nat.le_refl _) _).setCell (p := ⟨w.heap.size, 1, none⟩) (Nat.le_refl _) _).setCell (p := ⟨w.heap.size, 2, none⟩) (Nat.le_refl _) _
            generalize ((w2.setCell ⟨w.heap.size, 0, none⟩ (.int .i64 (103))).setCell ⟨w.heap.size, 1, none⟩ (.int .i64 ((n : Nat) : Int))).setCell ⟨w.heap.size, 2, none⟩ (.int .i64 ((s.size : Int) - (a : Int) + 1)) = U at *
            exact bodyPost_ret (v := .tuple #[.slice none 0 0, .agg #[.int .i64 (103), .int .i64 ((n : Nat) : Int), .int .i64 ((s.size : Int) - (a : Int) + 1)]]) (by simp [results, Try.results10, go_sem, d0, d1, d2]) rfl ⟨by rw [hRe.out]; exact FrP.cut hen (by rw [← hPl.out.1, ← hPl.out.2]), hbb⟩
end Go.Proofs.Ytbgfeogigjjmdaa
