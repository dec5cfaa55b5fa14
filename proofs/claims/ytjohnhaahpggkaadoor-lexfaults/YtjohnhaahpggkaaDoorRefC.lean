import Derived.Test.YtjohnhaahpggkaaDoorRefA
import Derived.Test.YtjohnhaahpggkaaDoorStrL
import Derived.Deep.RegionWith
namespace Go.Proofs.YtjohnhaahpggkaaDoor
open Go.RowKit
set_option linter.unusedVariables false

theorem Stm.move {s : ByteArray} {k k' : Nat} {ts : List Tok} {z : Tok} (h : Stm s k ts z) (e : skipAt s k = skipAt s k') : Stm s k' ts z := by
  cases h with
  | stop _ h => rw [e] at h ⊢; exact Stm.stop k' h
  | go _ ts _ h hr => rw [e] at h hr ⊢; exact Stm.go k' ts z h hr

theorem first_kind (c : UInt8) (r : List UInt8) : (firstTk (c :: r)).1.kind ≠ 0 := by
  cases hL : isL c with
  | true =>
    rw [first_L c r hL]
    simp only
    unfold wordTk
    split
    · simp
    · split
      · simp
      · rcases kwK_mem (runL (c :: r)) with ⟨h, _⟩ | ⟨h, _, _⟩ <;> simp only <;> omega
  | false =>
    cases hD : isD c with
    | true =>
      rw [first_D c r hL hD]
      simp only
      unfold numTk
      split <;> simp
    | false =>
      rw [first_S c r hL hD]
      unfold signTk
      split
      · rename_i h; rcases sgK_mem ((c :: r).take 2) with ⟨h1, _⟩ | ⟨h1, _, _⟩ <;> simp only <;> omega
      · split
        · rename_i h; rcases sgK_mem ((c :: r).take 1) with ⟨h1, _⟩ | ⟨h1, _, _⟩ <;> simp only <;> omega
        · simp

/-- What the reference's Cut answers. -/
def CutPost (base : Nat) (ts : List Tok) (z : Tok) (v : Value) (f : Array Value) (w' : World) : Prop :=
  (z.t.kind = -1 ∧ w'.ownsRow base 36 5 v ts.length (cellsOf ts) ∧ f = #[.int .i64 z.t.num, .int .i64 z.line, .int .i64 z.col]) ∨
  (z.t.kind ≠ -1 ∧ w'.ownsRow base 36 5 v (ts.length + 1) (cellsOf (ts ++ [z])) ∧ f = #[.int .i64 0, .int .i64 0, .int .i64 0])

/-- The reference's state at place k. -/
structure CuS (w : World) (s : ByteArray) (z : Tok) (ts pre rest : List Tok) (v : Value) (k : Nat) (W : World) : Prop where
  le : k ≤ s.size
  all : ts = pre ++ rest
  stm : Stm s k rest z
  pos : Has W (w.heap.size + 1) #[.int .i64 (lineAt s k), .int .i64 (colAt s k)]
  res : Has W w.heap.size #[.int .i64 0, .int .i64 0, .int .i64 0]
  row : W.ownsRow (w.heap.size + 2) 36 5 v pre.length (cellsOf pre)
  bel : Below w.heap.size w W
  kt : Kt W
  st : St W

theorem CuS.next {w : World} {s : ByteArray} {z : Tok} {ts pre rest : List Tok} {v : Value} {k q : Nat} {W W1 : World} (h : CuS w s z ts pre rest v k W) (hb : Below W.heap.size W W1) (hq : q ≤ s.size) (hs : Stm s q rest z) (hw : 2 < w.heap.size) :
    CuS w s z ts pre rest v q ((W1.setCell ⟨w.heap.size + 1, 0, none⟩ (.int .i64 (lineAt s q))).setCell ⟨w.heap.size + 1, 1, none⟩ (.int .i64 (colAt s q))) := by
  have hO : Only (fun k => k = w.heap.size + 1) W ((W1.setCell ⟨w.heap.size + 1, 0, none⟩ (.int .i64 (lineAt s q))).setCell ⟨w.heap.size + 1, 1, none⟩ (.int .i64 (colAt s q))) :=
    ((Only.of_below (S := fun k => k = w.heap.size + 1) hb).set (b := w.heap.size + 1) (i := 0) rfl _).set (b := w.heap.size + 1) (i := 1) rfl _
  refine ⟨hq, h.all, hs, ((h.pos.below hb).set 0 (by simp) _).set 1 (by simp) _, h.res.only hO (by omega), own_only h.row hO (fun k hk => by omega), ?_, ?_, ?_⟩
  · exact h.bel.trans ⟨hO.os, hO.tape, hO.output, hO.size, fun k hk => hO.block k (by have := h.bel.size; omega) (by omega)⟩
  · exact ⟨Nat.lt_of_lt_of_le h.kt.1 hO.size, fun i hi => (World.cell?_of_block (w := W) (hO.block 1 h.kt.1 (by omega))).trans (h.kt.2 i hi)⟩
  · exact ⟨Nat.lt_of_lt_of_le h.st.1 hO.size, fun i hi => (World.cell?_of_block (w := W) (hO.block 2 h.st.1 (by omega))).trans (h.st.2 i hi)⟩

theorem CuS.below {w : World} {s : ByteArray} {z : Tok} {ts pre rest : List Tok} {v : Value} {k : Nat} {W W1 : World} (h : CuS w s z ts pre rest v k W) (hb : Below W.heap.size W W1) (hw : 2 < w.heap.size) : CuS w s z ts pre rest v k W1 :=
  ⟨h.le, h.all, h.stm, h.pos.below hb, h.res.below hb, own_only h.row (Only.of_below (S := fun _ => False) hb) (fun _ _ h => h), h.bel.trans ⟨hb.os, hb.tape, hb.output, hb.size, fun k hk => hb.block k (by have := h.bel.size; omega)⟩, h.kt.below hb h.kt.1, h.st.below hb h.st.1⟩

theorem CuS.push {w : World} {s : ByteArray} {z x : Tok} {ts pre rest : List Tok} {v v' : Value} {k q : Nat} {W W2 W1 : World} (h : CuS w s z ts pre (x :: rest) v k W) (ho : Only (fun b => w.heap.size + 2 ≤ b) W W2) (hown : W2.ownsRow (w.heap.size + 2) 36 5 v' (pre.length + 1) (cellsOf pre ++ x.cs)) (hb : Below W2.heap.size W2 W1) (hq : q ≤ s.size) (hs : Stm s q rest z) (hw : 2 < w.heap.size) :
    CuS w s z ts (pre ++ [x]) rest v' q ((W1.setCell ⟨w.heap.size + 1, 0, none⟩ (.int .i64 (lineAt s q))).setCell ⟨w.heap.size + 1, 1, none⟩ (.int .i64 (colAt s q))) := by
  have hO : Only (fun k => k = w.heap.size + 1) W2 ((W1.setCell ⟨w.heap.size + 1, 0, none⟩ (.int .i64 (lineAt s q))).setCell ⟨w.heap.size + 1, 1, none⟩ (.int .i64 (colAt s q))) :=
    ((Only.of_below (S := fun k => k = w.heap.size + 1) hb).set (b := w.heap.size + 1) (i := 0) rfl _).set (b := w.heap.size + 1) (i := 1) rfl _
  have hb2 := h.bel.size
  have hz := ho.size
  refine ⟨hq, by rw [h.all]; simp, hs, (((h.pos.only ho (by omega)).below hb).set 0 (by simp) _).set 1 (by simp) _, (h.res.only ho (by omega)).only hO (by omega), ?_, ?_, ?_, ?_⟩
  · rw [cellsOf_snoc, List.length_append]
    exact own_only hown hO (fun k hk => by omega)
  · exact (h.bel.trans ⟨ho.os, ho.tape, ho.output, ho.size, fun k hk => ho.block k (by omega) (by omega)⟩).trans ⟨hO.os, hO.tape, hO.output, hO.size, fun k hk => hO.block k (by omega) (by omega)⟩
  · exact ⟨Nat.lt_of_lt_of_le h.kt.1 (Nat.le_trans hz hO.size), fun i hi => (World.cell?_of_block (w := W2) (hO.block 1 (Nat.lt_of_lt_of_le h.kt.1 hz) (by omega))).trans ((World.cell?_of_block (w := W) (ho.block 1 h.kt.1 (by omega))).trans (h.kt.2 i hi))⟩
  · exact ⟨Nat.lt_of_lt_of_le h.st.1 (Nat.le_trans hz hO.size), fun i hi => (World.cell?_of_block (w := W2) (hO.block 2 (Nat.lt_of_lt_of_le h.st.1 hz) (by omega))).trans ((World.cell?_of_block (w := W) (ho.block 2 h.st.1 (by omega))).trans (h.st.2 i hi))⟩

theorem own_mono {w : World} {base base' e size n : Nat} {v : Value} {xs : List Value} (h : w.ownsRow base e size v n xs) (hb : base' ≤ base) : w.ownsRow base' e size v n xs :=
  ⟨h.1, h.2.imp id (fun ⟨g, cap, cur, h1, h2, h3, h4⟩ => ⟨g, cap, cur, h1, by omega, h3, h4⟩)⟩
theorem own_lt {w : World} {base e size n : Nat} {v : Value} {xs : List Value} (h : w.ownsRow base e size v n xs) : ∀ g, v.ownBlock = some g → base ≤ g ∧ g < w.heap.size := by
  intro g hg
  rcases h.2 with ⟨h0, _⟩ | ⟨g', cap, cur, h1, h2, h3, h4⟩
  · rw [h0] at hg; cases hg
  · rw [h1] at hg; cases hg; exact ⟨h2, (Array.getElem?_eq_some_iff.1 h3).1⟩

set_option maxRecDepth 100000 in
set_option maxHeartbeats 8000000 in
theorem cut_short (s : ByteArray) (ts : List Tok) (z : Tok) (w : World) (hs : s.size ≤ 65536) (hst : Stm s 0 ts z) (hlen : ts.length ≤ 65536) (hw : 2 < w.heap.size) (hK : Kt w) (hS : St w)
    (hOne : ∀ (i : Nat) (h : i < s.size) (W : World), Kt W → St W → Calls Tryd.prog 47 #[.string s, .int .i64 i] W fun e w' => (∃ tk en er, e = .returned (.tuple #[tokV tk 0 0, .int .i64 en, .int .i64 er]) ∧ OneRes (firstTk (s.data.toList.drop i)) i tk en er) ∧ Below W.heap.size W w') :
    Calls Tryd.prog 27 #[.string s] w fun e w' => (∃ v f, e = .returned (.tuple #[v, .agg f]) ∧ CutPost w.heap.size ts z v f w') ∧ Below w.heap.size w w' := by
  have hs' : ¬ (65536 : Int) < (s.size : Int) := by omega
  have hmark : True := trivial
  go_enter Tryd.func27, Tryd.ntmps27
  go_wp2
  go_loopw [4, 6] (fun tl ti wr => ∃ (k : Nat) (pre rest : List Tok) (v : Value), ti = .int .i64 (k : Int) ∧ tl = v ∧ CuS w s z ts pre rest v k wr) (fun _ ti _ => s.size - (intOf ti).toNat)
  case atStart =>
    have hb2 : Below w.heap.size w ((w.alloc (.cells #[.int .i64 0, .int .i64 0, .int .i64 0] 42)).alloc (.cells #[.int .i64 1, .int .i64 1] 34)) := ((Below.refl _ _).alloc (Nat.le_refl _) _).alloc (by simp) _
    refine ⟨0, [], ts, _, rfl, rfl, ⟨by omega, rfl, hst, ?_, (Has.new _ _ _ rfl).alloc _, World.ownsRow_nil _ _ _ _, hb2, hK.below hb2 (by omega), hS.below hb2 hw⟩⟩
    rw [(at_start s).1, (at_start s).2.1]; exact Has.new _ _ _ (by simp)
  case round =>
    obtain ⟨k, pre, rest, v, rfl, rfl, hC⟩ := hrel
    obtain ⟨p0, P1, p2⟩ := id hC.pos
    obtain ⟨r0, R1, r2⟩ := id hC.res
    have hk := hC.le
    by_cases hlt : k < s.size
    · have hNx := fun (q : Nat) (h1 : k ≤ q) (h2 : q ≤ s.size) w => next_any s k q w h1 h2 (by omega)
      by_cases h35 : (s[k].toNat : Int) = 35
      · have HC := hid_of hC
        go_wp2
        go_loop [8] (fun tj => ∃ q : Nat, k + 1 ≤ q ∧ q ≤ s.size ∧ tj = .int .i64 q ∧ ∀ j (hj : j < s.size), k + 1 ≤ j → j < q → ¬ s[j] = 10) (fun tj => s.size - (intOf tj).toNat)
        case atStart => exact ⟨k + 1, by omega, by omega, by go_num, fun j hj h1 h2 => by omega⟩
        case round =>
          obtain ⟨q, hq1, hq2, rfl, hall⟩ := hrel
          have HA : Hid (∀ j (hj : j < s.size), k + 1 ≤ j → j < q → ¬ s[j] = 10) := hall
          clear hall
          have hfin : ∀ (hend : q = s.size ∨ ∃ h : q < s.size, s[q] = 10), Stm s q rest z := fun hend => HC.out.stm.move (skip_comment s k q hlt (by omega) (by omega) hq2 (fun j hj h1 h2 => by
            by_cases e : j = k
            · subst e; intro c; rw [c] at h35; exact absurd h35 (by decide)
            · exact HA.out j hj (by omega) h2) hend)
          have hN1 := fun w => hNx q (by omega) hq2 w
          by_cases hlt2 : q < s.size
          · by_cases h10 : (s[q].toNat : Int) = 10
            · have HF := hid_of (hfin (.inr ⟨hlt2, (ten_iff _).1 h10⟩))
              clear hfin
              go_wp2_with (go_at_call 48; (with_reducible refine (hN1 _).mono ?_); rintro e w1 ⟨rfl, hb1⟩; have hP1 := HC.out.pos.below hb1; obtain ⟨q0, Q1, q2'⟩ := id hP1)
              go_roundw
              case rel => exact ⟨q, pre, rest, _, rfl, rfl, HC.out.next hb1 hq2 HF.out hw⟩
              case measure => simp [intOf]; omega
            · clear hfin
              go_wp2
              go_round
              case rel => exact ⟨q + 1, by omega, by omega, by go_num, fun j hj h1 h2 => by
                by_cases e : j = q
                · subst e; exact fun c => h10 ((ten_iff _).2 c)
                · exact HA.out j hj h1 (by omega)⟩
              case measure => simp [intOf]; omega
          · have HF := hid_of (hfin (.inl (by omega)))
            clear hfin
            go_wp2_with (go_at_call 48; (with_reducible refine (hN1 _).mono ?_); rintro e w1 ⟨rfl, hb1⟩; have hP1 := HC.out.pos.below hb1; obtain ⟨q0, Q1, q2'⟩ := id hP1)
            go_roundw
            case rel => exact ⟨q, pre, rest, _, rfl, rfl, HC.out.next hb1 hq2 HF.out hw⟩
            case measure => simp [intOf]; omega
      · by_cases hb : isB s[k] = true
        · have hN1 : ∀ w, Calls Tryd.prog 48 #[.string s, .int .i64 (k : Int), .int .i64 ((k : Int) + 1), .agg #[.int .i64 (lineAt s k), .int .i64 (colAt s k)]] w fun e w' => e = .returned (.agg #[.int .i64 (lineAt s (k + 1)), .int .i64 (colAt s (k + 1))]) ∧ Below w.heap.size w w' := fun w => hNx (k + 1) (by omega) (by omega) w
          have hmv : Hid (Stm s (k + 1) rest z) := hC.stm.move (skip_blank s k hlt hb)
          have hcs : (s[k].toNat : Int) = 32 ∨ (s[k].toNat : Int) = 9 ∨ (s[k].toNat : Int) = 13 ∨ (s[k].toNat : Int) = 10 := by unfold isB at hb; simp at hb; omega
          clear hb hNx
          rcases hcs with h | h | h | h
          all_goals
            go_wp2_with (go_at_call 48; (with_reducible refine (hN1 _).mono ?_); rintro e w1 ⟨rfl, hb1⟩; have hP1 := hC.pos.below hb1; obtain ⟨q0, Q1, q2'⟩ := id hP1)
            go_roundw
            case rel => exact ⟨k + 1, pre, rest, _, by go_num, rfl, hC.next hb1 (by omega) hmv.out hw⟩
            case measure => simp [intOf]; omega
        · have hb' : isB s[k] = false := by simpa using hb
          have hsk : skipAt s k = k := skip_stop s k hlt hb' (by omega)
          have hnb : ¬ (s[k].toNat : Int) = 32 ∧ ¬ (s[k].toNat : Int) = 9 ∧ ¬ (s[k].toNat : Int) = 13 ∧ ¬ (s[k].toNat : Int) = 10 := by unfold isB at hb'; simp at hb'; omega
          obtain ⟨n1, n2, n3, n4⟩ := hnb
          have hfk := first_kind s[k] (s.data.toList.drop (k + 1))
          rw [← drop_head s k hlt] at hfk
          have hOk := hOne k hlt
          have hta : tokAt s k = ⟨(firstTk (s.data.toList.drop k)).1, lineAt s k, colAt s k⟩ := rfl
          have hsa : sizeAt s k = (firstTk (s.data.toList.drop k)).2 := rfl
          have hkt := hC.kt
          have hst' := hC.st
          have hstm := hC.stm
          generalize hT : firstTk (s.data.toList.drop k) = T at hfk hOk hta hsa
          obtain ⟨⟨kk, nn, xx⟩, n⟩ := T
          simp only at hfk hta hsa
          clear hb hb' hNx
          by_cases hbad : kk = -1
          · have hE : rest = [] ∧ z = ⟨⟨kk, nn, xx⟩, lineAt s k, colAt s k⟩ := by
              cases hstm with
              | stop _ h => rw [hsk, hta]; exact ⟨rfl, rfl⟩
              | go _ ts _ h hr => exact absurd (.inr (by rw [hsk, hta]; exact hbad)) h
            have hOf : ∀ W, Kt W → St W → Calls Tryd.prog 47 #[.string s, .int .i64 k] W fun e w' => (∃ a1 a2 a3 en, e = .returned (.tuple #[.agg #[.int .i64 a1, .int .i32 a2, .string (bs a3), .int .i64 0, .int .i64 0], .int .i64 en, .int .i64 nn])) ∧ Below W.heap.size W w' ∧ nn ≠ 0 := by
              intro W h1 h2
              refine (hOk W h1 h2).mono ?_
              rintro e w' ⟨⟨tk, en, er, rfl, _, h⟩, hb⟩
              obtain ⟨rfl, h0⟩ := h hbad
              exact ⟨⟨tk.kind, tk.num, tk.text, en, rfl⟩, hb, h0⟩
            obtain ⟨hr0, hz0⟩ := hE
            have HC := hid_of hC
            clear hOk hstm hsk hta hsa hfk hOne hC
            go_wp2_with (first | (go_at_call 47; (with_reducible refine (hOf _ hkt hst').mono ?_); rintro e w1 ⟨⟨a1, a2, a3, en, rfl⟩, hb1, hn0⟩; have hC1 := HC.out.below hb1 hw; obtain ⟨q0, Q1, q2'⟩ := id hC1.pos; obtain ⟨u0, U1, u2⟩ := id hC1.res) | (go_at_call 48; exact absurd (by assumption : ((((s[k].toNat : Int) != 32) = false ∨ ((s[k].toNat : Int) != 9) = false) ∨ ((s[k].toNat : Int) != 13) = false) ∨ ((s[k].toNat : Int) != 10) = false) (by simp [n1, n2, n3, n4])))
            have HF : Hid (Has ((((w1.setCell ⟨w.heap.size, 0, none⟩ (.int .i64 nn)).setCell ⟨w.heap.size, 1, none⟩ (.int .i64 (lineAt s k))).setCell ⟨w.heap.size, 2, none⟩ (.int .i64 (colAt s k))).alloc (.cells #[.int .i64 a1, .int .i32 a2, .string (bs a3), .int .i64 0, .int .i64 0] 36)) w.heap.size #[.int .i64 nn, .int .i64 (lineAt s k), .int .i64 (colAt s k)] ∧ CutPost w.heap.size ts z u4 #[.int .i64 nn, .int .i64 (lineAt s k), .int .i64 (colAt s k)] ((((w1.setCell ⟨w.heap.size, 0, none⟩ (.int .i64 nn)).setCell ⟨w.heap.size, 1, none⟩ (.int .i64 (lineAt s k))).setCell ⟨w.heap.size, 2, none⟩ (.int .i64 (colAt s k))).alloc (.cells #[.int .i64 a1, .int .i32 a2, .string (bs a3), .int .i64 0, .int .i64 0] 36)).drew ∧ Below w.heap.size w ((((w1.setCell ⟨w.heap.size, 0, none⟩ (.int .i64 nn)).setCell ⟨w.heap.size, 1, none⟩ (.int .i64 (lineAt s k))).setCell ⟨w.heap.size, 2, none⟩ (.int .i64 (colAt s k))).alloc (.cells #[.int .i64 a1, .int .i32 a2, .string (bs a3), .int .i64 0, .int .i64 0] 36))) := by
              refine ⟨(((hC1.res.set 0 (by simp) _).set 1 (by simp) _).set 2 (by simp) _).alloc _, .inl ⟨by rw [hz0]; exact hbad, ?_, by rw [hz0]⟩, (((hC1.bel.setCell (p := ⟨w.heap.size, 0, none⟩) (Nat.le_refl _) _).setCell (p := ⟨w.heap.size, 1, none⟩) (Nat.le_refl _) _).setCell (p := ⟨w.heap.size, 2, none⟩) (Nat.le_refl _) _).alloc (by have := hC1.bel.size; simpa [World.setCell] using this) _⟩
              have e : ts = pre := by rw [hC1.all, hr0, List.append_nil]
              have hO : Only (fun b => b = w.heap.size) w1 ((((w1.setCell ⟨w.heap.size, 0, none⟩ (.int .i64 nn)).setCell ⟨w.heap.size, 1, none⟩ (.int .i64 (lineAt s k))).setCell ⟨w.heap.size, 2, none⟩ (.int .i64 (colAt s k))).alloc (.cells #[.int .i64 a1, .int .i32 a2, .string (bs a3), .int .i64 0, .int .i64 0] 36)) := ((((Only.refl (fun b => b = w.heap.size) w1).set (b := w.heap.size) (i := 0) rfl _).set (b := w.heap.size) (i := 1) rfl _).set (b := w.heap.size) (i := 2) rfl _).alloc _
              rw [e]
              exact own_mono (own_only hC1.row hO.drew (fun b hb => by omega)) (by omega)
            go_region_with (fail)
            all_goals
              go_wp2
              obtain ⟨⟨x0, X1, x2⟩, hCP, hBP⟩ := HF.out
              exact bodyPost_ret (v := .tuple #[u4, .agg #[.int .i64 nn, .int .i64 (lineAt s k), .int .i64 (colAt s k)]]) (by simp [results, Tryd.results27, go_sem, X1]) rfl ⟨⟨_, _, rfl, hCP⟩, hBP.drew⟩
          · have hE : ∃ rest', rest = ⟨⟨kk, nn, xx⟩, lineAt s k, colAt s k⟩ :: rest' ∧ Stm s (k + n) rest' z := by
              cases hstm with
              | stop _ h => rw [hsk, hta] at h; rcases h with h | h
                            · exact absurd h hfk
                            · exact absurd h hbad
              | go _ ts _ h hr => rw [hsk, hta, hsa] at *; exact ⟨ts, rfl, hr⟩
            have hOf : ∀ W, Kt W → St W → Calls Tryd.prog 47 #[.string s, .int .i64 k] W fun e w' => e = .returned (.tuple #[.agg #[.int .i64 kk, .int .i32 nn, .string (bs xx), .int .i64 0, .int .i64 0], .int .i64 ((k + n : Nat) : Int), .int .i64 0]) ∧ Below W.heap.size W w' := by
              intro W h1 h2
              refine (hOk W h1 h2).mono ?_
              rintro e w' ⟨⟨tk, en, er, rfl, h, _⟩, hb⟩
              obtain ⟨rfl, rfl, rfl⟩ := h hbad
              exact ⟨rfl, hb⟩
            obtain ⟨rest', hr0, hst2⟩ := hE
            subst hr0
            have hfs := first_size (s.data.toList.drop k) (by rw [hT]; intro h; rcases h with h | h; exact hfk h; exact hbad h)
            rw [hT] at hfs
            have hn0 : 0 < n := hfs.1
            have hnl : k + n ≤ s.size := by have := hfs.2.1; simp at this; omega
            have hN1 : ∀ w, Calls Tryd.prog 48 #[.string s, .int .i64 (k : Int), .int .i64 ((k : Int) + (n : Int)), .agg #[.int .i64 (lineAt s k), .int .i64 (colAt s k)]] w fun e w' => e = .returned (.agg #[.int .i64 (lineAt s (k + n)), .int .i64 (colAt s (k + n))]) ∧ Below w.heap.size w w' := fun w => by
              have := next_any s k (k + n) w (by omega) hnl (by omega)
              simpa using this
            have HC := hid_of hC
            have HS2 := hid_of hst2
            have hplen : pre.length ≤ 65536 := by have := congrArg List.length hC.all; simp at this; omega
            obtain ⟨i0, hi, hz0, hz1, hz2⟩ := info_parts info36
            have hgb := own_lt hC.row
            have hpost : ∀ (w1 w2 : World), Below wr.heap.size wr w1 → ((w1.alloc (.cells #[.int .i64 kk, .int .i32 nn, .string (bs xx), .int .i64 (lineAt s k), .int .i64 (colAt s k)] 36)).alloc (.cells #[.int .i64 kk, .int .i32 nn, .string (bs xx), .int .i64 (lineAt s k), .int .i64 (colAt s k)] 36)).grownBy w2 u4.ownBlock → Only (fun b => w.heap.size + 2 ≤ b) wr w2 := fun w1 w2 hb1 hgr =>
              (((Only.of_below hb1).alloc _).alloc _).trans ⟨hgr.os, hgr.tape, hgr.output, hgr.size, fun k hk hn => hgr.block k hk (fun e => hn (hgb k e.symm).1)⟩
            have hcf : ∀ w1 : World, ∀ j u, [.int .i64 kk, .int .i32 nn, .string (bs xx), .int .i64 (lineAt s k), .int .i64 (colAt s k)][j]? = some u → ((w1.alloc (.cells #[.int .i64 kk, .int .i32 nn, .string (bs xx), .int .i64 (lineAt s k), .int .i64 (colAt s k)] 36)).alloc (.cells #[.int .i64 kk, .int .i32 nn, .string (bs xx), .int .i64 (lineAt s k), .int .i64 (colAt s k)] 36)).cell? ((⟨w1.heap.size + 1, 0, none⟩ : Addr).add j) = some u := fun w1 => by
              have := cells_five (W := w1.alloc (.cells #[.int .i64 kk, .int .i32 nn, .string (bs xx), .int .i64 (lineAt s k), .int .i64 (colAt s k)] 36)) (.int .i64 kk) (.int .i32 nn) (.string (bs xx)) (.int .i64 (lineAt s k)) (.int .i64 (colAt s k)) 36
              simpa using this
            have hws := hC.bel.size
            clear hOk hstm hsk hta hsa hfk hOne hC hfs hst2 hT
            go_wp2_with (first
              | (go_at_call 47; (with_reducible refine (hOf _ hkt hst').mono ?_); rintro e w1 ⟨rfl, hb1⟩; have hC1 := HC.out.below hb1 hw; have hw1 := hb1.size; obtain ⟨q0, Q1, q2'⟩ := id hC1.pos; obtain ⟨u0, U1, u2⟩ := id hC1.res)
              | (at_builtin; refine wpList_append_own _ rfl _ _ 28 rfl (w.heap.size + 2) 36 i0 _ 5 48 Tryd.underlying28 hi hz0 hz1 hz2 rfl (by decide) _ _ _ rfl ((hC1.row.alloc _).alloc _) ⟨w1.heap.size + 1, 0, none⟩ 1 1 [.int .i64 kk, .int .i32 nn, .string (bs xx), .int .i64 (lineAt s k), .int .i64 (colAt s k)] rfl rfl (hcf _) (fun u hu => by simp at hu; rcases hu with rfl | rfl | rfl | rfl | rfl <;> rfl) (by unfold maxLen; omega) (by omega) (by simp; omega) ?_; intro v' w2 hown' hgrow hnil; obtain ⟨g', cap', rfl⟩ := ownsRow_succ hown'; have ho2 := hpost w1 w2 hb1 hgrow; have hP2 := HC.out.pos.only ho2 (by omega); obtain ⟨l0', L1', l2'⟩ := id hP2)
              | (go_at_call 48; (with_reducible refine (hN1 _).mono ?_); rintro e w3 ⟨rfl, hb3⟩; have hP3 := hP2.below hb3; obtain ⟨m0', M1', m2'⟩ := id hP3)
              | (go_at_call 48; exact absurd (by assumption : ((((s[k].toNat : Int) != 32) = false ∨ ((s[k].toNat : Int) != 9) = false) ∨ ((s[k].toNat : Int) != 13) = false) ∨ ((s[k].toNat : Int) != 10) = false) (by simp [n1, n2, n3, n4])))
            go_roundw
            case rel => exact ⟨k + n, pre ++ [⟨⟨kk, nn, xx⟩, lineAt s k, colAt s k⟩], rest', _, by go_num, rfl, HC.out.push ho2 hown' hb3 hnl HS2.out hw⟩
            case measure => simp [intOf]; omega
    · have hZ : rest = [] ∧ z = ⟨⟨0, 0, []⟩, lineAt s k, colAt s k⟩ := by
        have hsk := skip_end s k (by omega)
        have hta : tokAt s k = ⟨⟨0, 0, []⟩, lineAt s k, colAt s k⟩ := by unfold tokAt; rw [drop_end s k (by omega)]; rfl
        have hstm := hC.stm
        cases hstm with
        | stop _ h => rw [hsk, hta]; exact ⟨rfl, rfl⟩
        | go _ ts _ h hr => exact absurd (.inl (by rw [hsk, hta])) h
      obtain ⟨hr0, hz0⟩ := hZ
      have e : ts = pre := by rw [hC.all, hr0, List.append_nil]
      have hplen : pre.length ≤ 65536 := by rw [← e]; exact hlen
      obtain ⟨i0, hi, hi0, hi1, hi2⟩ := info_parts info36
      have hgb := own_lt hC.row
      have hws := hC.bel.size
      have hpost : ∀ (w2 : World), (wr.alloc (.cells #[.int .i64 0, .int .i32 0, .string ⟨#[]⟩, .int .i64 (lineAt s k), .int .i64 (colAt s k)] 36)).grownBy w2 u4.ownBlock → Only (fun b => w.heap.size + 2 ≤ b) wr w2 := fun w2 hgr =>
        ((Only.refl _ wr).alloc _).trans ⟨hgr.os, hgr.tape, hgr.output, hgr.size, fun k hk hn => hgr.block k hk (fun e => hn (hgb k e.symm).1)⟩
      have HC := hid_of hC
      have hrow := hC.row
      clear hOne hC
      go_wp2_with (at_builtin; refine wpList_append_own _ rfl _ _ 28 rfl (w.heap.size + 2) 36 i0 _ 5 48 Tryd.underlying28 hi hi0 hi1 hi2 rfl (by decide) _ _ _ rfl (hrow.alloc _) ⟨wr.heap.size, 0, none⟩ 1 1 [.int .i64 0, .int .i32 0, .string ⟨#[]⟩, .int .i64 (lineAt s k), .int .i64 (colAt s k)] rfl rfl (cells_five _ _ _ _ _ _) (fun u hu => by simp at hu; rcases hu with rfl | rfl | rfl | rfl | rfl <;> rfl) (by unfold maxLen; omega) (by omega) (by simp; omega) ?_; intro v' w2 hown' hgrow hnil; obtain ⟨g', cap', rfl⟩ := ownsRow_succ hown'; have ho2 := hpost w2 hgrow; have hR2 := HC.out.res.only ho2 (by omega); obtain ⟨l0', L1', l2'⟩ := id hR2)
      have hX : Has (((w2.setCell ⟨w.heap.size, 0, none⟩ (.int .i64 0)).setCell ⟨w.heap.size, 1, none⟩ (.int .i64 0)).setCell ⟨w.heap.size, 2, none⟩ (.int .i64 0)) w.heap.size #[.int .i64 0, .int .i64 0, .int .i64 0] := ((hR2.set 0 (by simp) _).set 1 (by simp) _).set 2 (by simp) _
      have hO : Only (fun b => b = w.heap.size) w2 (((w2.setCell ⟨w.heap.size, 0, none⟩ (.int .i64 0)).setCell ⟨w.heap.size, 1, none⟩ (.int .i64 0)).setCell ⟨w.heap.size, 2, none⟩ (.int .i64 0)) := (((Only.refl (fun b => b = w.heap.size) w2).set (b := w.heap.size) (i := 0) rfl _).set (b := w.heap.size) (i := 1) rfl _).set (b := w.heap.size) (i := 2) rfl _
      have hB2 : Below w.heap.size w w2 := HC.out.bel.trans ⟨ho2.os, ho2.tape, ho2.output, ho2.size, fun k hk => ho2.block k (by omega) (by omega)⟩
      have hB3 := ((hB2.setCell (p := ⟨w.heap.size, 0, none⟩) (Nat.le_refl _) (.int .i64 0)).setCell (p := ⟨w.heap.size, 1, none⟩) (Nat.le_refl _) (.int .i64 0)).setCell (p := ⟨w.heap.size, 2, none⟩) (Nat.le_refl _) (.int .i64 0)
      have hrow2 := own_mono (own_only hown' hO (fun b hb => by omega)) (show w.heap.size ≤ w.heap.size + 2 by omega)
      obtain ⟨x0, X1, x2⟩ := hX
      refine bodyPost_ret (v := .tuple #[.slice (some ⟨g', 0, none⟩) (pre.length + 1) cap', .agg #[.int .i64 0, .int .i64 0, .int .i64 0]]) (by simp [results, Tryd.results27, go_sem, X1]) rfl ⟨⟨_, _, rfl, .inr ⟨by rw [hz0]; simp, ?_, rfl⟩⟩, hB3⟩
      rw [e, hz0, cellsOf_snoc]
      exact hrow2
end Go.Proofs.YtjohnhaahpggkaaDoor
