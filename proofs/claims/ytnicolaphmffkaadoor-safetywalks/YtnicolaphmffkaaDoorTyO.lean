import Derived.Test.YtnicolaphmffkaaDoorTyI
import Derived.Maps.OwnSet
namespace Go.Proofs.YtnicolaphmffkaaDoor
open Go.RowKit
set_option linter.unusedVariables false
set_option linter.unusedSimpArgs false

theorem fs_twice (S : List Sy) (s x : Sy) (h : fsS S s.name = some x) (nm : ByteArray) : fsS (S ++ [s]) nm = fsS S nm := by
  rw [fs_app]
  cases hg : fsS S nm with
  | some y => rfl
  | none =>
    simp only
    by_cases e : s.name = nm
    · subst e; rw [h] at hg; cases hg
    · rw [if_neg e]
theorem MpS.twice {w : World} {b n : Nat} {S : List Sy} (h : MpS w b n S) (s x : Sy) (hx : fsS S s.name = some x) : MpS w b (n + 1) (S ++ [s]) := by
  obtain ⟨D, h1, h2, h3⟩ := h
  exact ⟨D, h1.mono (Nat.le_succ _), h2, fun nm hn z => by rw [fs_twice S s x hx nm]; exact h3 nm hn z⟩
theorem MpS.only {P : Nat → Prop} {w w' : World} {b n : Nat} {S : List Sy} (h : MpS w b n S) (ho : Only P w w') (hb : ¬ P b) : MpS w' b n S := by
  have hl := h.lt
  obtain ⟨D, ⟨es, cl, h1, h2⟩, h3⟩ := h
  exact ⟨D, ⟨es, cl, (ho.block b hl hb).trans h1, h2⟩, h3⟩
theorem only_map {A w' : World} {b : Nat} (hg : A.grownBy w' (some b)) : Only (fun q => q = b) A w' :=
  ⟨hg.os, hg.tape, hg.output, hg.size, fun k hk hn => hg.block k hk (by intro e; injection e with e; exact hn e)⟩
set_option maxRecDepth 100000 in
set_option maxHeartbeats 8000000 in
theorem add_any (S : List Sy) (s : Sy) (b n : Nat) (w : World) (hM : MpS w b n S) (hs : s.name.size ≤ maxLen) (hn : n < maxLen) :
    Calls Tryd.prog 31 #[.agg #[.map (some b)], s.ag] w fun e w' => (∃ r, e = .returned (.bool r)) ∧ MpS w' b (n + 1) (S ++ [s]) ∧ Only (fun q => q = b) w w' := by
  have hTw := fun (X : World) (hX : MpS X b n S) (x : Sy) (hx : fsS S s.name = some x) => hX.twice s x hx
  have hPn := fun (D : DataW Value) (h1 : Maps.IsMap D) (h3 : ∀ nm : ByteArray, nm.size ≤ maxLen → ∀ z, D.atKey (.string nm.data.toList) z = (match fsS S nm with | some s => .held s.ag | none => z)) (hf : fsS S s.name = none) => put_new h1 h3 s hs hf
  generalize hSS : S ++ [s] = SS at *
  clear hSS
  obtain ⟨sn, sk, si, sl, sq⟩ := s
  simp only [Sy.ag] at *
  have hb2 : Below w.heap.size w ((w.alloc (.cells #[.map (some b)] 73)).alloc (.cells #[.string sn, .int .i64 sk, .int .i64 si, .int .i64 sl, .int .i64 sq] 80)) := ((Below.refl _ _).alloc (Nat.le_refl _) _).alloc (by simp) _
  have hM2 := hM.below hb2 hM.lt
  have hL := hM2.look sn hs
  have hk := Go.WideMaps.keyOf_string_mk (P := Tryd.prog) (k := 9) Tryd.underlying9 hs
  cases hf : fsS S sn with
  | some x =>
    have hM3 := hTw _ (hM2.below (bel1 (.cells #[.string x.name, .int .i64 x.kind, .int .i64 x.ix, .int .i64 x.line, .int .i64 x.col] 80)) hM2.lt) x hf
    have hb3 := hb2.alloc hb2.size (.cells #[.string x.name, .int .i64 x.kind, .int .i64 x.ix, .int .i64 x.line, .int .i64 x.col] 80)
    rw [hf] at hL
    simp only [Sy.ag] at *
    clear hTw hPn hM hM2 hf
    go_enter Tryd.func31, Tryd.ntmps31
    go_wp2_with fail
    go_ret
    exact ⟨⟨_, rfl⟩, hM3, Only.of_below hb3⟩
  | none =>
    rw [hf] at hL
    obtain ⟨D, hD1, hD2, hD3⟩ := hM2
    have hQ := hPn D hD2 hD3 hf
    have hD4 := hD1.alloc (.cells #[.string ⟨#[]⟩, .int .i64 0, .int .i64 0, .int .i64 0, .int .i64 0] 80)
    have hb3 := hb2.alloc hb2.size (.cells #[.string ⟨#[]⟩, .int .i64 0, .int .i64 0, .int .i64 0, .int .i64 0] 80)
    simp only [zSy, Sy.ag] at *
    clear hTw hPn hM hf hD3 hD1
    go_enter Tryd.func31, Tryd.ntmps31
    go_wp2_with (at_mapUpdate; refine wpList_mapUpdate_own _ rfl _ _ _ 71 rfl 9 80 keyS Tryd.underlying71 rH b n D rfl hD4 hn _ _ (.string sn.data.toList) rfl rfl hk (.held (.agg #[.string sn, .int .i64 sk, .int .i64 si, .int .i64 sl, .int .i64 sq])) [] rfl ?_; intro w2 hm2 hg2)
    go_ret
    exact ⟨⟨_, rfl⟩, ⟨_, hm2, hm2.isMap, hQ⟩, (Only.of_below hb3).trans (only_map hg2)⟩
set_option maxRecDepth 100000 in
set_option maxHeartbeats 8000000 in
theorem scope_any (S : List Sy) (vs : Value) (w : World) (hS : Sys w vs S) (hl : S.length ≤ 1048576) (hs : ∀ (i : Nat) (h : i < S.length), S[i].name.size ≤ maxLen) :
    Calls Tryd.prog 28 #[vs] w fun e w' => (∃ b, e = .returned (.agg #[.map (some b)]) ∧ MpS w' b S.length S ∧ w.heap.size ≤ b) ∧ Below w.heap.size w w' := by
  have kA := fun (k : Nat) (hk : k < S.length) (X : World) (hX : MpS X (w.heap.size + 1) k (S.take k)) => add_any (S.take k) S[k] (w.heap.size + 1) k X hX (hs k hk) (by unfold maxLen; omega)
  obtain ⟨a, cap, rfl, hc⟩ := hS
  have hM0 : MpS (((w.alloc (.cells #[.map none] 73)).alloc (.map #[] 0)).alloc (.cells #[.map (some (w.heap.size + 1))] 73)) (w.heap.size + 1) 0 [] := by have := (MpS.made (w.alloc (.cells #[.map none] 73))).below (bel1 (.cells #[.map (some (w.heap.size + 1))] 73)) (by simp); rw [show (w.alloc (.cells #[.map none] 73)).heap.size = w.heap.size + 1 by simp] at this; exact this
  have K0 : Has (((w.alloc (.cells #[.map none] 73)).alloc (.map #[] 0)).alloc (.cells #[.map (some (w.heap.size + 1))] 73)) w.heap.size #[.map none] := ((Has.new _ _ _ rfl).alloc _).alloc _
  have K1 : Has (((w.alloc (.cells #[.map none] 73)).alloc (.map #[] 0)).alloc (.cells #[.map (some (w.heap.size + 1))] 73)) (w.heap.size + 2) #[.map (some (w.heap.size + 1))] := Has.new _ _ _ (by simp)
  have hb0 : Below w.heap.size w (((w.alloc (.cells #[.map none] 73)).alloc (.map #[] 0)).alloc (.cells #[.map (some (w.heap.size + 1))] 73)) := (((Below.refl _ _).alloc (Nat.le_refl _) _).alloc (by simp) _).alloc (by simp; omega) _
  have hmm : ∀ (W : World), (Instr.makeMap 71 none).run Tryd.prog W = .ok (.map (some W.heap.size)) (W.alloc (.map #[] 0)) := fun W => by simp [Instr.makeMap]
  go_enter Tryd.func28, Tryd.ntmps28
  go_wp2_with fail
  generalize (((w.alloc (.cells #[.map none] 73)).alloc (.map #[] 0)).alloc (.cells #[.map (some (w.heap.size + 1))] 73)) = W0 at *
  go_loopw [10] (fun i wr => ∃ k : Nat, k ≤ S.length ∧ i = .int .i64 (k : Int) ∧ Hid (MpS wr (w.heap.size + 1) k (S.take k)) ∧ Hid (Has wr w.heap.size #[.map none]) ∧ Hid (Has wr (w.heap.size + 2) #[.map (some (w.heap.size + 1))]) ∧ Hid (Below w.heap.size w wr)) (fun i _ => S.length - (intOf i).toNat)
  case atStart => exact ⟨0, by omega, rfl, hM0, K0, K1, hb0⟩
  case round =>
    clear hM0 K0 K1 hb0
    obtain ⟨k, hkl, rfl, hM', K0', K1', hb'⟩ := hrel
    have hM := hM'.out
    have K0 := K0'.out
    have K1 := K1'.out
    have hb := hb'.out
    clear hM' K0' K1' hb'
    by_cases hlt : k < S.length
    case neg =>
      have s1 : ¬ (k : Int) < (S.length : Int) := by omega
      obtain rfl : k = S.length := by omega
      rw [List.take_length] at hM
      obtain ⟨_, q1, q2⟩ := id K1
      obtain ⟨_, r1, r2⟩ := id K0
      clear kA hc
      go_wp2_with fail
      obtain ⟨y0, Y1, y2⟩ := K0.set 0 (by simp) (.map (some (w.heap.size + 1)))
      have hO : Only (fun q => q = w.heap.size) wr (wr.setCell ⟨w.heap.size, 0, none⟩ (.map (some (w.heap.size + 1)))) := (Only.refl (fun q => q = w.heap.size) wr).set (b := w.heap.size) rfl _
      exact bodyPost_ret (v := .agg #[.map (some (w.heap.size + 1))]) (by simp [results, Tryd.results28, go_sem, Y1]) rfl ⟨⟨_, rfl, hM.only hO (by omega), by omega⟩, hb.setCell (p := ⟨w.heap.size, 0, none⟩) (Nat.le_refl _) _⟩
    case pos =>
      obtain ⟨g, o, rfl, hg, hx⟩ := hc.resolve_left (by intro e; rw [e] at hlt; simp at hlt)
      obtain ⟨h0, h1, h2, h3, h4⟩ := hx k hlt
      have p0 := (hb.cell (p := ⟨g, _, none⟩) hg).trans h0
      have p1 := (hb.cell (p := ⟨g, _, none⟩) hg).trans h1
      have p2 := (hb.cell (p := ⟨g, _, none⟩) hg).trans h2
      have p3 := (hb.cell (p := ⟨g, _, none⟩) hg).trans h3
      have p4 := (hb.cell (p := ⟨g, _, none⟩) hg).trans h4
      have s1 : (k : Int) < (S.length : Int) := by omega
      have s0 : (0 : Int) ≤ (k : Int) := by omega
      have hnx : S.take (k + 1) = S.take k ++ [S[k]] := List.take_succ_eq_append_getElem hlt
      have cA := kA k hlt
      clear hx hc kA h0 h1 h2 h3 h4
      rw [← hnx] at cA
      clear hnx
      generalize S[k] = s at *
      obtain ⟨sn, sk, si, sl, sq⟩ := s
      simp only [Sy.ag] at *
      have cB := cA _ (hM.below (bel1 (.cells #[.string sn, .int .i64 sk, .int .i64 si, .int .i64 sl, .int .i64 sq] 80)) hM.lt)
      have K0' := K0.alloc (.cells #[.string sn, .int .i64 sk, .int .i64 si, .int .i64 sl, .int .i64 sq] 80)
      have K1' := K1.alloc (.cells #[.string sn, .int .i64 sk, .int .i64 si, .int .i64 sl, .int .i64 sq] 80)
      have hb1 := hb.alloc hb.size (.cells #[.string sn, .int .i64 sk, .int .i64 si, .int .i64 sl, .int .i64 sq] 80)
      obtain ⟨_, q1, q2⟩ := id K1
      clear cA
      go_wp2_with (go_at_call 31; (with_reducible refine Calls.mono cB ?_); rintro e w2 ⟨⟨r, rfl⟩, m2, o2⟩)
      have L0 := K0'.only o2 (by omega)
      have L1 := K1'.only o2 (by omega)
      have hb2 : Below w.heap.size w w2 := ⟨o2.os.trans hb1.os, o2.tape.trans hb1.tape, o2.output.trans hb1.output, Nat.le_trans hb1.size o2.size, fun q hq => (o2.block q (Nat.lt_of_lt_of_le hq hb1.size) (by omega)).trans (hb1.block q hq)⟩
      go_roundw
      case rel => exact ⟨k + 1, by omega, by go_num, m2, L0, L1, hb2⟩
      case measure => simp [intOf]; omega
end Go.Proofs.YtnicolaphmffkaaDoor
