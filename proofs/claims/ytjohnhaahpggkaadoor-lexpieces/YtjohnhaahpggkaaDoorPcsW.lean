import Derived.Test.YtjohnhaahpggkaaDoorPcsV
import Derived.Test.YtjohnhaahpggkaaDoorRefC
import Derived.Deep.CutRange
import Derived.Deep.DeepCutAuto
namespace Go.Proofs.YtjohnhaahpggkaaDoor
open Go.RowKit
set_option linter.unusedVariables false
set_option linter.unusedSimpArgs false

/-- A piece that is handed in. -/
structure Pc where
  wh : Int
  n : Int
  tx : ByteArray
def Pc.Ok (p : Pc) : Prop := (-9223372036854775808 ≤ p.wh ∧ p.wh < 9223372036854775808) ∧ (-9223372036854775808 ≤ p.n ∧ p.n < 9223372036854775808) ∧ p.tx.size ≤ 4611686018427387904
/-- A list of pieces as it is read. -/
def Pl (w : World) (v : Value) (L : List Pc) : Prop :=
  ∃ a cap, v = .slice a L.length cap ∧ (L = [] ∨ ∃ g o, a = some ⟨g, o, none⟩ ∧ g < w.heap.size ∧ ∀ (i : Nat) (h : i < L.length),
    w.cell? ⟨g, o + i * 3, none⟩ = some (.int .i64 L[i].wh) ∧ w.cell? ⟨g, o + i * 3 + 1, none⟩ = some (.int .i64 L[i].n) ∧ w.cell? ⟨g, o + i * 3 + 2, none⟩ = some (.string L[i].tx))

/-- What written answers. -/
def WrPost (w : World) (e : Ending) (w' : World) : Prop :=
  ∃ B T la tv, e = .returned (.tuple #[.string (bs B), tv, .agg #[.int .i64 (behL 1 1 B).1, .int .i64 (behL 1 1 B).2]]) ∧ Wrt B T la ∧ B.length ≤ 65000 ∧ T.length ≤ 4000 ∧ w'.ownsRow w.heap.size 36 5 tv T.length (cellsOf T) ∧ Below w.heap.size w w'

set_option maxRecDepth 100000 in
set_option maxHeartbeats 8000000 in
theorem written_any (L : List Pc) (v : Value) (w : World) (hP : Pl w v L) (hok : ∀ p ∈ L, p.Ok) (hlen : L.length ≤ 4611686018427387904)
    (hTok : ∀ (p : Pc) (W : World), p.Ok → Below w.heap.size w W → Calls Tryd.prog 31 #[.agg #[.int .i64 p.wh, .int .i64 p.n, .string p.tx]] W fun e w' => (∃ tk l is, e = .returned (.tuple #[tokV tk 0 0, .string (bs l), .bool is]) ∧ Pce tk l is) ∧ Below W.heap.size W w') :
    Calls Tryd.prog 16 #[v] w (WrPost w) := by
  obtain ⟨a, cap, rfl, hc⟩ := hP
  go_enter Tryd.func16, Tryd.ntmps16
  go_wp2
  go_loopw [5, 6, 8, 9] (fun tb tt tl ti wr => ∃ (k : Nat) (B : List UInt8) (T : List Tok) (la : List UInt8), ti = .int .i64 (k : Int) ∧ k ≤ L.length ∧ k ≤ 4000 ∧ tl = .string (bs la) ∧ WrS w k B T la tb tt wr) (fun _ _ _ ti _ => L.length - (intOf ti).toNat)
  case atStart =>
    have hb2 : Below w.heap.size w ((w.alloc (.cells #[.int .i64 0, .int .i64 0] 34)).alloc (.cells #[.int .i64 1, .int .i64 1] 34)) := ((Below.refl _ _).alloc (Nat.le_refl _) _).alloc (by simp) _
    exact ⟨0, [], [], [], rfl, by omega, by omega, rfl, ⟨Wrt.nil, by simp, by simp, by simp, ⟨Has.new _ _ _ (by simp), (Has.new _ _ _ rfl).alloc _, World.ownsRow_nil _ _ _ _, World.ownsRow_nil _ _ _ _, hb2⟩⟩⟩
  case round =>
    obtain ⟨k, B, T, la, rfl, hk1, hk2, rfl, hS⟩ := hrel
    by_cases hgo : k < L.length ∧ k < 4000
    · obtain ⟨hg1, hg2⟩ := hgo
      obtain ⟨g, o, rfl, hg, hcs⟩ := hc.resolve_left (by intro h; rw [h] at hg1; simp at hg1)
      obtain ⟨p0, p1, p2⟩ := hcs k hg1
      have hT : Calls Tryd.prog 31 #[.agg #[.int .i64 L[k].wh, .int .i64 L[k].n, .string L[k].tx]] wr fun e w' => (∃ kk nn xx l is, e = .returned (.tuple #[.agg #[.int .i64 kk, .int .i32 nn, .string (bs xx), .int .i64 0, .int .i64 0], .string (bs l), .bool is]) ∧ Pce ⟨kk, nn, xx⟩ l is) ∧ Below wr.heap.size wr w' := (hTok L[k] wr (hok _ (List.getElem_mem hg1)) hS.mid.bel).mono (by
        rintro e w' ⟨⟨⟨kk, nn, xx⟩, l, is, rfl, hP⟩, hb⟩
        exact ⟨⟨kk, nn, xx, l, is, rfl, hP⟩, hb⟩)
      generalize L[k].wh = pw at *
      generalize L[k].n = pn at *
      generalize L[k].tx = pt at *
      rw [← hS.mid.bel.cell (p := ⟨g, _, none⟩) hg] at p0 p1 p2
      have k0 : (0 : Int) ≤ (k : Int) := by omega
      have k1 : (k : Int) < (L.length : Int) := by omega
      have k2 : (k : Int) < 4000 := by omega
      clear hTok hok hcs hc
      go_upto_region 9 with (go_at_call 31; (with_reducible refine hT.mono ?_); rintro e w1 ⟨⟨kk, nn, xx, l, is, rfl, hPc⟩, hb1⟩)
      have hM1 : Mid w B T u5 u6 (behL 1 1 B).1 (behL 1 1 B).2 (w1.alloc (.cells #[.int .i64 kk, .int .i32 nn, .string (bs xx), .int .i64 0, .int .i64 0] 36)) := (hS.mid.keep hb1).alloc _
      have hT1 : (w1.alloc (.cells #[.int .i64 kk, .int .i32 nn, .string (bs xx), .int .i64 0, .int .i64 0] 36)).heap[w1.heap.size]? = some (.cells #[.int .i64 kk, .int .i32 nn, .string (bs xx), .int .i64 0, .int .i64 0] 36 (0, 0)) := heap_alloc_new w1 _
      have htb : wr.heap.size ≤ w1.heap.size := hb1.size
      have hb5 : ∀ g, u5.ownBlock = some g → g < w1.heap.size := fun g hg => Nat.lt_of_lt_of_le (hS.mid.rows g (.inl hg)).2 htb
      have hb6 : ∀ g, u6.ownBlock = some g → g < w1.heap.size := fun g hg => Nat.lt_of_lt_of_le (hS.mid.rows g (.inr hg)).2 htb
      have hwz := hS.mid.bel.size
      have hp1 := hS.mid.pos.1
      have hbd := behL_bd B 1 1 (by omega) (by omega)
      have hBl := hS.len
      have hLl := hS.lal
      have hTl := hS.cnt
      obtain ⟨i5, h5, h5z, h5s, h5b⟩ := info_parts info5
      obtain ⟨i36, h36, h36z, h36s, h36b⟩ := info_parts info36
      generalize w1.alloc (.cells #[.int .i64 kk, .int .i32 nn, .string (bs xx), .int .i64 0, .int .i64 0] 36) = W1 at hM1 hT1 ⊢
      generalize w1.heap.size = tb at hT1 htb hb5 hb6 ⊢
      have HS := hid_of hS
      have HP := hid_of hPc
      clear hS hPc hb1 hT p0 p1 p2
      have hll := HP.out.2.2.2
      obtain ⟨ab, cb, hu5⟩ : ∃ a c, u5 = .slice a B.length c := by
        rcases hM1.brow.2 with ⟨h, h0⟩ | ⟨g', c', _, h, _⟩
        · exact ⟨none, 0, by rw [h, h0]⟩
        · exact ⟨_, _, h⟩
      subst hu5
      have hw64a : IntKind.i64.wrap ((B.length : Int) + (l.length : Int)) = (B.length : Int) + (l.length : Int) := by rw [IntKind.wrap_i64]; omega
      have hw64b : IntKind.i64.wrap ((B.length : Int) + (l.length : Int) + 1) = (B.length : Int) + (l.length : Int) + 1 := by rw [IntKind.wrap_i64]; omega
      have hsl := bs_sz l
      have hbl : Hid ((bs l).data.toList = l) := by show _ = _; unfold bs; simp
      have hBe : ∀ ln cl W, 0 ≤ ln ∧ ln ≤ 1000000000 → 0 ≤ cl ∧ cl ≤ 1000000000 → l.length ≤ 65000 → Calls Tryd.prog 33 #[.agg #[.int .i64 ln, .int .i64 cl], .string (bs l)] W fun e w' => e = .returned (.agg #[.int .i64 (behL ln cl l).1, .int .i64 (behL ln cl l).2]) ∧ Below W.heap.size W w' := fun ln cl W h1 h2 h3 => by
        have := behind_any ln cl (bs l) W (by omega) h1 h2
        rwa [hbl.out] at this
      by_cases hlong : (65000 : Int) < (B.length : Int) + (l.length : Int) + 1
      · have hFin := hM1.fin
        obtain ⟨f1, f2, f3, f4, f5⟩ := hFin
        obtain ⟨a0, A1, a2⟩ := id hM1.pos
        obtain ⟨r0, R1, r2⟩ := id hM1.res
        obtain ⟨x0, X1, x2⟩ := f3
        have hW : WrPost w (.returned (.tuple #[.string (bs B), u6, .agg #[.int .i64 (behL 1 1 B).1, .int .i64 (behL 1 1 B).2]])) ((W1.setCell ⟨w.heap.size, 0, none⟩ (.int .i64 (behL 1 1 B).1)).setCell ⟨w.heap.size, 1, none⟩ (.int .i64 (behL 1 1 B).2)).drew := ⟨B, T, la, _, rfl, HS.out.wrt, HS.out.len, Nat.le_trans HS.out.cnt (by omega), f4, f5⟩
        have HW := hid_of hW
        clear hW f4 f5
        go_wp2
        go_region_with (fail)
        all_goals
          go_wp2
          exact bodyPost_ret (v := .tuple #[.string (bs B), u6, .agg #[.int .i64 (behL 1 1 B).1, .int .i64 (behL 1 1 B).2]]) (by simp [results, Tryd.results16, go_sem, X1]) rfl HW.out
      · have hMe := fun W => meld_any la l W (by omega) (by omega)
        have hBe1 := fun W => hBe (behL 1 1 B).1 (behL 1 1 B).2 W (by omega) (by omega) (by omega)
        have hBe2 := fun W => hBe (behL 1 1 B).1 ((behL 1 1 B).2 + 1) W (by omega) (by omega) (by omega)
        have hq1 : Hid (B.length + (bs l).size ≤ maxLen) := by show _ ≤ _; rw [hsl]; unfold maxLen; omega
        have hq2 : Hid ((B.length + (bs l).size) * 1 ≤ 140737488355328) := by show _ ≤ _; rw [hsl]; omega
        have hr1 : Hid ((B ++ [32]).length + (bs l).size ≤ maxLen) := by show _ ≤ _; rw [hsl, List.length_append]; unfold maxLen; simp; omega
        have hr2 : Hid (((B ++ [32]).length + (bs l).size) * 1 ≤ 140737488355328) := by show _ ≤ _; rw [hsl, List.length_append]; simp; omega
        have hq3 : Hid (B.length + 1 ≤ maxLen) := by show _ ≤ _; unfold maxLen; omega
        have hq4 : Hid ((B.length + 1) * 1 ≤ 140737488355328) := by show _ ≤ _; omega
        have hq5 : Hid (T.length + 1 ≤ maxLen) := by show _ ≤ _; unfold maxLen; omega
        have hq6 : Hid ((T.length + 1) * 48 ≤ 140737488355328) := by show _ ≤ _; omega
        have hMq : ∀ q, Mid w B T (.slice ab B.length cb) u6 (behL 1 1 B).1 (behL 1 1 B).2 (W1.drewN q) := fun q => hM1.keep (below_drewN W1 q)
        have hHq : ∀ q, (W1.drewN q).heap[tb]? = some (.cells #[.int .i64 kk, .int .i32 nn, .string (bs xx), .int .i64 0, .int .i64 0] 36 (0, 0)) := fun q => ((below_drewN W1 q).block tb (Array.getElem?_eq_some_iff.1 hT1).1).trans hT1
        have hTq : ∀ q, Has (W1.drewN q) tb #[.int .i64 kk, .int .i32 nn, .string (bs xx), .int .i64 0, .int .i64 0] := fun q => Has.ofHeap (hHq q)
        have hN2 : w.heap.size + 2 ≤ tb := by omega
        have hne5 : some tb ≠ Value.ownBlock (.slice ab B.length cb) := fun h => by have := hb5 tb h.symm; omega
        have hne5' : Value.ownBlock (.slice ab B.length cb) ≠ some tb := fun h => hne5 h.symm
        have hne6' : Value.ownBlock u6 ≠ some tb := fun h => by have := hb6 tb h; omega
        have hcw : IntKind.i64.wrap ((behL 1 1 B).2 + 1) = (behL 1 1 B).2 + 1 := by rw [IntKind.wrap_i64]; omega
        have hbl2 : Hid (behL 1 1 (B ++ [32]) = ((behL 1 1 B).1, (behL 1 1 B).2 + 1)) := by show _ = _; rw [behL_app]; rfl
        have HM := hid_of hM1
        clear hT1 hM1 hBe htb hp1 hwz hb5 hb6
        cases hm : meldF la l
        · rw [hm] at hMe
          have Hm := hid_of hm
          clear hm
          cases is
          · go_wp2_with (first
              | (go_at_call 32; (with_reducible refine (hMe _).mono ?_); rintro e w9 ⟨rfl, q, hw9⟩; subst hw9; obtain ⟨a0, A1, a2⟩ := id (hMq q).pos; obtain ⟨t0, T1, t2⟩ := id (hTq q))
              | (at_builtin; refine wpList_append_own_str _ rfl _ _ 65 9 rfl (w.heap.size + 2) 5 i5 _ 1 und65 und9 h5 h5z h5s h5b rfl _ _ _ rfl (hMq q).brow (bs l) rfl hq1.out hq2.out (hMq q).pos.1 ?_; intro v4 w4 hown4 hgrow4; have hM4 := (hMq q).growB (X := l) hgrow4 (by rw [byteCells_app, List.length_append, ← hsl]; exact hown4); obtain ⟨c0, C1, c2⟩ := id hM4.pos)
              | (go_at_call 33; (with_reducible refine (hBe1 _).mono ?_); rintro e w5 ⟨rfl, hb55⟩; have hM5 := hM4.keep hb55; obtain ⟨d0, D1, d2⟩ := id hM5.pos))
            go_roundw
            case rel =>
              have hPc := HP.out
              refine ⟨k + 1, B ++ l, T, l, by go_num, by omega, by omega, rfl, ⟨HS.out.wrt.skp (hPc.2.2.1 rfl) hPc.1 Hm.out, by simp; omega, by omega, by first | omega | (simp; omega), ?_⟩⟩
              rw [behL_app]
              exact hM5.place _ _
            case measure => simp [intOf]; omega

          · go_wp2_with (first
              | (go_at_call 32; (with_reducible refine (hMe _).mono ?_); rintro e w9 ⟨rfl, q, hw9⟩; subst hw9; obtain ⟨a0, A1, a2⟩ := id (hMq q).pos; obtain ⟨t0, T1, t2⟩ := id (hTq q))
              | (at_builtin; have hMt := (((hMq q).far (g := tb) (i := 3) hN2 hne5' hne6' (.int .i64 (behL 1 1 B).1)).far (g := tb) (i := 4) hN2 hne5' hne6' (.int .i64 (behL 1 1 B).2)).alloc (.cells #[.int .i64 kk, .int .i32 nn, .string (bs xx), .int .i64 (behL 1 1 B).1, .int .i64 (behL 1 1 B).2] 36); refine wpList_append_own _ rfl _ _ 28 rfl (w.heap.size + 2) 36 i36 _ 5 48 Tryd.underlying28 h36 h36z h36s h36b rfl (by decide) _ _ _ rfl hMt.trow ⟨W1.heap.size, 0, none⟩ 1 1 [.int .i64 kk, .int .i32 nn, .string (bs xx), .int .i64 (behL 1 1 B).1, .int .i64 (behL 1 1 B).2] rfl rfl (cells_five_at (by simp [World.setCell]) _ _ _ _ _ _) (fun u hu => by simp at hu; rcases hu with rfl | rfl | rfl | rfl | rfl <;> rfl) hq5.out hq6.out hMt.pos.1 ?_; intro v3 w3 hown3 hgrow3 hnil3; have hM3 := hMt.growT (X := [⟨⟨kk, nn, xx⟩, (behL 1 1 B).1, (behL 1 1 B).2⟩]) hgrow3 (by rw [cellsOf_snoc, List.length_append]; exact hown3); obtain ⟨s0, S1, s2⟩ := id hM3.pos)
              | (at_builtin; refine wpList_append_own_str _ rfl _ _ 65 9 rfl (w.heap.size + 2) 5 i5 _ 1 und65 und9 h5 h5z h5s h5b rfl _ _ _ rfl hM3.brow (bs l) rfl hq1.out hq2.out hM3.pos.1 ?_; intro v4 w4 hown4 hgrow4; have hM4 := hM3.growB (X := l) hgrow4 (by rw [byteCells_app, List.length_append, ← hsl]; exact hown4); obtain ⟨c0, C1, c2⟩ := id hM4.pos)
              | (go_at_call 33; (with_reducible refine (hBe1 _).mono ?_); rintro e w5 ⟨rfl, hb55⟩; have hM5 := hM4.keep hb55; obtain ⟨d0, D1, d2⟩ := id hM5.pos))
            go_roundw
            case rel =>
              have hPc := HP.out
              refine ⟨k + 1, B ++ l, T ++ [⟨⟨kk, nn, xx⟩, (behL 1 1 B).1, (behL 1 1 B).2⟩], l, by go_num, by omega, by omega, rfl, ⟨HS.out.wrt.tok (hPc.2.1 rfl).1 (hPc.2.1 rfl).2.1 (hPc.2.1 rfl).2.2 Hm.out, by simp; omega, by omega, by first | omega | (simp; omega), ?_⟩⟩
              rw [behL_app]
              exact hM5.place _ _
            case measure => simp [intOf]; omega

        · rw [hm] at hMe
          clear hm
          cases is
          · go_wp2_with (first
              | (go_at_call 32; (with_reducible refine (hMe _).mono ?_); rintro e w9 ⟨rfl, q, hw9⟩; subst hw9; obtain ⟨a0, A1, a2⟩ := id (hMq q).pos; obtain ⟨t0, T1, t2⟩ := id (hTq q))
              | (at_builtin; refine wpList_append_own _ rfl _ _ 65 rfl (w.heap.size + 2) 5 i5 _ 1 1 und65 h5 h5z h5s h5b rfl (by decide) _ _ _ rfl ((hMq q).alloc _).brow ⟨W1.heap.size, 0, none⟩ 1 1 [.int .u8 32] rfl rfl (cells_one (by simp) _ _) one_blank hq3.out hq4.out ((hMq q).alloc _).pos.1 ?_; intro v2 w2 hown2 hgrow2 hnil2; have hM2 := ((hMq q).alloc _).growB (X := [32]) hgrow2 (by rw [byteCells_app, List.length_append, byteCells_blank]; exact hown2); have hT2 := keep_t (hHq q) hgrow2 (hne5); obtain ⟨a0', A1', a2'⟩ := id hM2.pos; obtain ⟨t0', T1', t2'⟩ := id (Has.ofHeap hT2))
              | (at_builtin; refine wpList_append_own_str _ rfl _ _ 65 9 rfl (w.heap.size + 2) 5 i5 _ 1 und65 und9 h5 h5z h5s h5b rfl _ _ _ rfl (hM2.col ((behL 1 1 B).2 + 1)).brow (bs l) rfl hr1.out hr2.out (hM2.col ((behL 1 1 B).2 + 1)).pos.1 ?_; intro v4 w4 hown4 hgrow4; have hM4 := (hM2.col ((behL 1 1 B).2 + 1)).growB (X := l) hgrow4 (by rw [byteCells_app, List.length_append, ← hsl]; exact hown4); obtain ⟨c0, C1, c2⟩ := id hM4.pos)
              | (go_at_call 33; (with_reducible refine (hBe2 _).mono ?_); rintro e w5 ⟨rfl, hb55⟩; have hM5 := hM4.keep hb55; obtain ⟨d0, D1, d2⟩ := id hM5.pos))
            go_roundw
            case rel =>
              have hPc := HP.out
              refine ⟨k + 1, (B ++ [32]) ++ l, T, l, by go_num, by omega, by omega, rfl, ⟨(HS.out.wrt.skp skp_one (by simp) (meld_blank la)).skp (hPc.2.2.1 rfl) hPc.1 (blank_meld hPc.1), by simp; omega, by omega, by first | omega | (simp; omega), ?_⟩⟩
              rw [behL_app (B ++ [32]) l, hbl2.out]
              exact hM5.place _ _
            case measure => simp [intOf]; omega

          · go_wp2_with (first
              | (go_at_call 32; (with_reducible refine (hMe _).mono ?_); rintro e w9 ⟨rfl, q, hw9⟩; subst hw9; obtain ⟨a0, A1, a2⟩ := id (hMq q).pos; obtain ⟨t0, T1, t2⟩ := id (hTq q))
              | (at_builtin; refine wpList_append_own _ rfl _ _ 65 rfl (w.heap.size + 2) 5 i5 _ 1 1 und65 h5 h5z h5s h5b rfl (by decide) _ _ _ rfl ((hMq q).alloc _).brow ⟨W1.heap.size, 0, none⟩ 1 1 [.int .u8 32] rfl rfl (cells_one (by simp) _ _) one_blank hq3.out hq4.out ((hMq q).alloc _).pos.1 ?_; intro v2 w2 hown2 hgrow2 hnil2; have hM2 := ((hMq q).alloc _).growB (X := [32]) hgrow2 (by rw [byteCells_app, List.length_append, byteCells_blank]; exact hown2); have hT2 := keep_t (hHq q) hgrow2 (hne5); obtain ⟨a0', A1', a2'⟩ := id hM2.pos; obtain ⟨t0', T1', t2'⟩ := id (Has.ofHeap hT2))
              | (at_builtin; have hMt := (((hM2.col ((behL 1 1 B).2 + 1)).far (g := tb) (i := 3) hN2 (own_block hM2.brow hT2 (by decide)) hne6' (.int .i64 (behL 1 1 B).1)).far (g := tb) (i := 4) hN2 (own_block hM2.brow hT2 (by decide)) hne6' (.int .i64 ((behL 1 1 B).2 + 1))).alloc (.cells #[.int .i64 kk, .int .i32 nn, .string (bs xx), .int .i64 (behL 1 1 B).1, .int .i64 ((behL 1 1 B).2 + 1)] 36); refine wpList_append_own _ rfl _ _ 28 rfl (w.heap.size + 2) 36 i36 _ 5 48 Tryd.underlying28 h36 h36z h36s h36b rfl (by decide) _ _ _ rfl hMt.trow ⟨w2.heap.size, 0, none⟩ 1 1 [.int .i64 kk, .int .i32 nn, .string (bs xx), .int .i64 (behL 1 1 B).1, .int .i64 ((behL 1 1 B).2 + 1)] rfl rfl (cells_five_at (by simp [World.setCell]) _ _ _ _ _ _) (fun u hu => by simp at hu; rcases hu with rfl | rfl | rfl | rfl | rfl <;> rfl) hq5.out hq6.out hMt.pos.1 ?_; intro v3 w3 hown3 hgrow3 hnil3; have hM3 := hMt.growT (X := [⟨⟨kk, nn, xx⟩, (behL 1 1 B).1, ((behL 1 1 B).2 + 1)⟩]) hgrow3 (by rw [cellsOf_snoc, List.length_append]; exact hown3); obtain ⟨s0, S1, s2⟩ := id hM3.pos)
              | (at_builtin; refine wpList_append_own_str _ rfl _ _ 65 9 rfl (w.heap.size + 2) 5 i5 _ 1 und65 und9 h5 h5z h5s h5b rfl _ _ _ rfl hM3.brow (bs l) rfl hr1.out hr2.out hM3.pos.1 ?_; intro v4 w4 hown4 hgrow4; have hM4 := hM3.growB (X := l) hgrow4 (by rw [byteCells_app, List.length_append, ← hsl]; exact hown4); obtain ⟨c0, C1, c2⟩ := id hM4.pos)
              | (go_at_call 33; (with_reducible refine (hBe2 _).mono ?_); rintro e w5 ⟨rfl, hb55⟩; have hM5 := hM4.keep hb55; obtain ⟨d0, D1, d2⟩ := id hM5.pos))
            go_roundw
            case rel =>
              have hPc := HP.out
              refine ⟨k + 1, (B ++ [32]) ++ l, T ++ [⟨⟨kk, nn, xx⟩, (behL 1 1 (B ++ [32])).1, (behL 1 1 (B ++ [32])).2⟩], l, by go_num, by omega, by omega, rfl, ⟨(HS.out.wrt.skp skp_one (by simp) (meld_blank la)).tok (hPc.2.1 rfl).1 (hPc.2.1 rfl).2.1 (hPc.2.1 rfl).2.2 (blank_meld hPc.1), by simp; omega, by omega, by first | omega | (simp; omega), ?_⟩⟩
              rw [behL_app (B ++ [32]) l, hbl2.out]
              exact hM5.place _ _
            case measure => simp [intOf]; omega

    · have hngo : ¬ ((k : Int) < (L.length : Int)) ∨ ((k : Int) < (L.length : Int) ∧ ¬ ((k : Int) < 4000)) := by omega
      rcases hngo with k1 | ⟨k1, k2⟩
      all_goals
        have hFin := hS.mid.fin
        obtain ⟨f1, f2, f3, f4, f5⟩ := hFin
        obtain ⟨a0, A1, a2⟩ := id hS.mid.pos
        obtain ⟨r0, R1, r2⟩ := id hS.mid.res
        obtain ⟨x0, X1, x2⟩ := f3
        have hW : WrPost w (.returned (.tuple #[.string (bs B), u6, .agg #[.int .i64 (behL 1 1 B).1, .int .i64 (behL 1 1 B).2]])) ((wr.setCell ⟨w.heap.size, 0, none⟩ (.int .i64 (behL 1 1 B).1)).setCell ⟨w.heap.size, 1, none⟩ (.int .i64 (behL 1 1 B).2)).drew := ⟨B, T, la, _, rfl, hS.wrt, hS.len, Nat.le_trans hS.cnt (by omega), f4, f5⟩
        have HW := hid_of hW
        clear hW f4 f5
        go_wp2
        go_region_with (fail)
        all_goals
          go_wp2
          exact bodyPost_ret (v := .tuple #[.string (bs B), u6, .agg #[.int .i64 (behL 1 1 B).1, .int .i64 (behL 1 1 B).2]]) (by simp [results, Tryd.results16, go_sem, X1]) rfl HW.out
end Go.Proofs.YtjohnhaahpggkaaDoor
