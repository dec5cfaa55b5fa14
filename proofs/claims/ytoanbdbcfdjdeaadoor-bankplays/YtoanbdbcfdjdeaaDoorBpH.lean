import Derived.Lib.SlBuf
import Derived.Lib.MakeNoZero
import Derived.Laws.BitsAllLaws
import Derived.Test.YtoanbdbcfdjdeaaDoorBpF
namespace Go.Proofs.YtoanbdbcfdjdeaaDoor
open Go.RowKit
set_option linter.unusedVariables false
set_option linter.unusedSimpArgs false


theorem play9 (S : Nat → Prop) (F : List Int) (A : List Ac) (va : Option Addr) (c : Nat) (v : Value) (n t : Int) (w : World) (hB : By S w (.slice va F.length c) F) (hA : Acs S w v A) (hS : ∀ q, S q → q < w.heap.size) (hn2 : n ≤ 9223372036854775807) :
    Calls Tryd.prog 9 #[.slice va F.length c, v, .int .i64 n, .int .u8 t] w fun e w' => (∃ v', e = .returned (.tuple #[v', .int .i64 (ansE F.length A)]) ∧ Ob w.heap.size w' v' (ansL F A n t)) ∧ Below w.heap.size w w' := by
  obtain ⟨-, -, hFl⟩ := hB.src
  cases hf : flB F.length with
  | false =>
    refine (rplay_no A F va c v n t w hFl hf).mono ?_
    rintro e w' ⟨rfl, hb⟩
    exact ⟨⟨_, by simp [ansE, hf], .inl ⟨rfl, by simp [ansL, hf]⟩⟩, hb⟩
  | true =>
    cases hok : okAll A F.length with
    | false =>
      refine (rplay_bad S A F.length va c v n t w hFl hf hA hok).mono ?_
      rintro e w' ⟨rfl, hb⟩
      exact ⟨⟨_, by simp [ansE, hf, hok], .inl ⟨rfl, by simp [ansL, hok]⟩⟩, hb⟩
    | true =>
      have fin : ∀ e w', RPost w F.length (plF F A n.toNat t) e w' → (∃ v', e = .returned (.tuple #[v', .int .i64 (ansE F.length A)]) ∧ Ob w.heap.size w' v' (ansL F A n t)) ∧ Below w.heap.size w w' := by
        rintro e w' ⟨⟨g, cap, base, rfl, hg, ow⟩, hb⟩
        refine ⟨⟨.slice (some ⟨g, 0, none⟩) F.length cap, by simp only [ansE, hf, hok, if_true], ?_⟩, hb⟩
        rw [ansL, if_pos ⟨hf, hok⟩]
        have hl := plF_len A F n.toNat t
        rw [← hl] at ow ⊢
        exact Ob.own ow hg (by omega)
      rcases Int.lt_or_le n 0 with h | h
      · exact (rplay_okN S A F F.length va c v n t w rfl hf hB hA hS hok h hn2).mono fin
      · exact (rplay_okP S A F F.length va c v n t w rfl hf hB hA hS hok h hn2).mono fin
set_option maxRecDepth 100000 in
set_option maxHeartbeats 2000000 in
theorem mul64_one (n : Nat) (w : World) (hn : n ≤ 4194304) : Calls Tryd.prog 35 #[.int .u64 1, .int .u64 (n : Int)] w fun e w' => e = .returned (.tuple #[.int .u64 0, .int .u64 (n : Int)]) ∧ w' = w := by
  have e1 : bits .and .u64 (n : Int) 4294967295 = (n : Int) := by
    rw [show (4294967295 : Int) = ((4294967295 : Nat) : Int) from rfl, u64_and_nat n 4294967295 (by omega) (by decide)]
    have : n &&& 4294967295 = n := by
      have := Nat.and_two_pow_sub_one_eq_mod n 32
      rw [show (2 ^ 32 - 1 : Nat) = 4294967295 from rfl] at this
      rw [this]; omega
    rw [this]
  have e2 : bits .and .u64 1 4294967295 = 1 := by decide
  have e3 : bits .and .u64 0 4294967295 = 0 := by decide
  have e4 : (n : Int) / 4294967296 = 0 := by omega
  go_enter Tryd.func35, Tryd.ntmps35
  go_wp2
  go_ret2
  exact ⟨rfl, rfl⟩

set_option maxRecDepth 100000 in
set_option maxHeartbeats 2000000 in
theorem mul_one (n : Nat) (w : World) (hn : n ≤ 4194304) : Calls Tryd.prog 25 #[.int .u64 1, .int .u64 (n : Int)] w fun e w' => e = .returned (.tuple #[.int .u64 0, .int .u64 (n : Int)]) ∧ w = w' := by
  have h35 := mul64_one n w hn
  go_enter Tryd.func25, Tryd.ntmps25
  go_wp2_with (go_at_call 35; (with_reducible refine Calls.mono h35 ?_); rintro e w1 ⟨rfl, rfl⟩)
  go_ret2
  exact ⟨rfl, rfl⟩
theorem size5 (W : World) : (Go.sizeOf 5).run Tryd.prog W = .ok 1 W := by kernel_rfl
theorem slice_head (W : World) (h N ch : Nat) (hc : ch ≤ N) : (Instr.slice 22 (.slice (some ⟨h, 0, none⟩) N N) none (some (.int .i64 (ch : Int))) none).run Tryd.prog W = .ok (.slice (some ⟨h, 0, none⟩) ch N) W := by
  have ht' : Tryd.prog.underlying 22 = some (.slice (Tryd.prog.elem 22)) := by simp [Program.elem, Tryd.underlying22]
  have he : Tryd.prog.elem 22 = 5 := by simp [Program.elem, Tryd.underlying22]
  rw [run_slice_h W 22 _ _ _ ht' .i64 _ (by omega) (by omega), he, size5 W]
  simp [Result.andThen, sliced, Addr.add]
theorem buf_drew {w0 wr : World} {h N : Nat} {acc : List UInt8} (b : Lib.Buf w0 wr h N acc) : Lib.Buf w0 wr.drew h N acc := ⟨b.below.drew, b.there, b.free, b.holds, b.fits⟩
theorem rep_get (n j : Nat) (x : UInt8) (h : (List.replicate n (255 : UInt8))[j]? = some x) : x = 255 := by
  have := List.getElem?_eq_some_iff.1 h
  obtain ⟨h1, h2⟩ := this
  rw [List.getElem_replicate] at h2
  exact h2.symm
/-- The buffer's own beginning, copied behind what is filled. -/
theorem copy_self (w0 : World) (h N bp ch : Nat) (wr : World) (hb : Lib.Buf w0 wr h N (List.replicate bp 255)) (h1 : ch ≤ bp) (h2 : 0 < ch) (h3 : bp < N) (hN : N ≤ 4194304) :
    ∃ k, 0 < k ∧ bp + k ≤ N ∧ ∃ wr', (Builtin.copy_ #[22, 22] 3 #[Lib.tailV h N bp, .slice (some ⟨h, 0, none⟩) ch N]).run Tryd.prog wr = .ok (.int .i64 (k : Int)) wr' ∧ Lib.Buf w0 wr' h N (List.replicate (bp + k) 255) := by
  have hs5 : (Tryd.prog.info? 5).map (·.size) = some 1 := by kernel_rfl
  have hkk : Nat.min ch (N - bp) = min ch (N - bp) := rfl
  refine ⟨min ch (N - bp), by omega, by omega, ?_⟩
  generalize hk : min ch (N - bp) = k at *
  have hk1 : k ≤ ch ∧ bp + k ≤ N := by omega
  have hl := hb.holds
  have hr := run_copy_cells (P := Tryd.prog) wr 22 22 3 5 h bp (N - bp) (N - bp) ⟨h, 0, none⟩ ch N (List.replicate k (.int .u8 255)) Tryd.underlying22 hs5 (by rw [List.length_replicate, hkk])
    (fun j u hj => by
      obtain ⟨hj1, hj2⟩ := List.getElem?_eq_some_iff.1 hj
      rw [List.length_replicate] at hj1
      rw [List.getElem_replicate] at hj2
      rw [Go.WideShapes.add_plain, Nat.zero_add, hl j 255 (by rw [List.getElem?_replicate, if_pos (by omega)]), ← hj2]
      rfl)
    (fun j hj => hb.there _ (by rw [List.length_replicate] at hj; omega)) (fun j hj => hb.free _ (by rw [List.length_replicate] at hj; omega))
    (fun u hu => by rw [List.mem_replicate] at hu; rw [hu.2]; rfl)
  rw [List.length_replicate] at hr
  have hne : ¬ N = bp := by omega
  refine ⟨_, by unfold Lib.tailV; rw [if_neg hne]; exact hr, ?_⟩
  have hin := World.cell?_setCells_in h (List.replicate k (Value.int .u8 255)) bp wr (fun j hj => by rw [List.length_replicate] at hj; exact hb.there _ (by omega))
  have hout := World.cell?_setCells_out h (List.replicate k (Value.int .u8 255)) bp wr
  refine ⟨Lib.below_setCells h (Nat.le_refl _) _ _ hb.below, ?_, ?_, ?_, by rw [List.length_replicate]; omega⟩
  · intro j hj
    by_cases h4 : bp ≤ j ∧ j < bp + k
    · obtain ⟨d, rfl⟩ : ∃ d, j = bp + d := ⟨j - bp, by omega⟩
      rw [hin d (by rw [List.length_replicate]; omega)]
      rfl
    · rw [hout ⟨h, j, none⟩ (fun _ _ => by rw [List.length_replicate]; show j < _ ∨ _ ≤ j; omega)]
      exact hb.there j hj
  · intro j hj
    rw [World.frozen?_setCells]
    exact hb.free j hj
  · intro j x hx
    have hx' := rep_get _ _ _ hx
    subst hx'
    have hjl : j < bp + k := by have := (List.getElem?_eq_some_iff.1 hx).1; simpa using this
    by_cases h4 : j < bp
    · rw [hout ⟨h, j, none⟩ (fun _ _ => Or.inl h4)]
      exact hl j 255 (by rw [List.getElem?_replicate, if_pos h4])
    · obtain ⟨d, rfl⟩ : ∃ d, j = bp + d := ⟨j - bp, by omega⟩
      rw [hin d (by rw [List.length_replicate]; omega)]
      simp
set_option maxRecDepth 100000 in
set_option maxHeartbeats 2000000 in
theorem repeat_any (N : Nat) (ad : Addr) (w : World) (h1 : 4096 ≤ N) (h2 : N ≤ 4194304) (hc : w.cell? ad = some (.int .u8 255)) :
    Calls Tryd.prog 16 #[.slice (some ad) 1 1, .int .i64 (N : Int)] w fun e w' => e = .returned (.slice (some ⟨w.heap.size, 0, none⟩) N N) ∧ Lib.Buf w w' w.heap.size N (List.replicate N 255) := by
  have h25 := mul_one N w h2
  obtain ⟨cs, hrunM, hle, -⟩ := Lib.run_makeNoZero (P := Tryd.prog) w #[3] 22 5 Tryd.underlying22 N (by omega)
  have hcall : (callFunc 26 #[.int .i64 (N : Int)]).run Tryd.prog w = .ok (.value (.slice (some ⟨w.heap.size, 0, none⟩) N cs.size)) ((w.alloc (.cells cs 5)).drewN 2) := by
    rw [run_callFunc_extern Tryd.func26 (by kernel_rfl) (by kernel_rfl) (by kernel_rfl) (e := Extern.BytealgMakeNoZero.makeNoZero #[3] #[22]) (by kernel_rfl), hrunM]
    rfl
  clear hrunM
  have B0 := Lib.Buf.start w cs 5 N 2 hle
  have hs5 : (Tryd.prog.info? 5).map (·.size) = some 1 := by kernel_rfl
  obtain ⟨w1, hr1, B1⟩ := Lib.copy_part (P := Tryd.prog) w _ w.heap.size N [] [255] (.slice (some ad) 1 1) 22 3 5 Tryd.underlying22 hs5 (Nat.le_refl _) B0 ⟨some ad, 1, rfl, by simp, fun a ha j x hx => by
    injection ha with ha
    subst ha
    have hj : j = 0 := by have := (List.getElem?_eq_some_iff.1 hx).1; simp at this; omega
    subst hj
    simp at hx
    subst hx
    simpa [Addr.add] using hc⟩ (by simp; omega)
  rw [List.length_nil, Lib.tailV_zero] at hr1
  rw [List.nil_append] at B1
  have HB1 : Hid (Lib.Buf w w1 w.heap.size N (List.replicate 1 255)) := B1
  have i1 : (N : Int) ≤ (cs.size : Int) := by omega
  have i0 : (0 : Int) ≤ (N : Int) := by omega
  clear B1 B0
  go_enter Tryd.func16, Tryd.ntmps16
  by_cases hbig : 8192 < N
  · have hb8 : (8192 : Int) < (N : Int) := by omega
    go_wp2_with (first | (go_at_call 25; (with_reducible refine Calls.mono h25 ?_); rintro e w2 ⟨rfl, rfl⟩) | (at_builtin; refine Lib.wpList_copy_run _ rfl _ _ 22 22 rfl _ _ rfl rfl hr1 ?_))
    go_loopw [10] (fun s wr => ∃ bp : Nat, 1 ≤ bp ∧ bp ≤ N ∧ s = .int .i64 (bp : Int) ∧ Hid (Lib.Buf w wr w.heap.size N (List.replicate bp 255))) (fun s _ => N - (intOf s).toNat)
    case atStart => exact ⟨1, by omega, by omega, rfl, HB1.out⟩
    case round =>
      obtain ⟨bp, hb1, hb2, rfl, HB'⟩ := hrel
      have HB := HB'.out
      clear HB'
      by_cases hlt : bp < N
      case neg =>
        obtain rfl : bp = N := by omega
        have t1 : ¬ (bp : Int) < (bp : Int) := by omega
        go_wp2_with fail
        go_ret
        exact ⟨rfl, HB⟩
      have t1 : (bp : Int) < (N : Int) := by omega
      obtain ⟨ch, hch1, hch2, hch3⟩ : ∃ ch : Nat, min (bp : Int) 8192 = (ch : Int) ∧ ch ≤ bp ∧ 0 < ch := ⟨(min (bp : Int) 8192).toNat, by omega, by omega, by omega⟩
      have hsl1 : ∀ W, (Instr.slice 22 (.slice (some ⟨w.heap.size, 0, none⟩) N N) (some (.int .i64 (bp : Int))) none none).run Tryd.prog W = .ok (Lib.tailV w.heap.size N bp) W := fun W => Lib.run_slice_tailV W 22 5 Tryd.underlying22 size5 _ N bp (by omega)
      have hsl2 : ∀ W, (Instr.slice 22 (.slice (some ⟨w.heap.size, 0, none⟩) N N) none (some (.int .i64 (ch : Int))) none).run Tryd.prog W = .ok (.slice (some ⟨w.heap.size, 0, none⟩) ch N) W := fun W => slice_head W _ N ch (by omega)
      obtain ⟨k, hk1, hk2, w3, hr2, HB3⟩ := copy_self w w.heap.size N bp ch wr.drew (buf_drew HB) hch2 hch3 hlt (by omega)
      have wk : IntKind.i64.wrap ((bp : Int) + (k : Int)) = (bp : Int) + (k : Int) := wrap64 _ (by omega)
      go_upto_region 20 with fail
      refine wp_region_noPanic ?_
      refine wp_region_held_drew (S := fun w' => True) (by kernel_rfl) ?_ (fun hHeld => ?_)
      · (try dsimp only)
        all_goals trivial
      refine wpAnyH_take (i := 0) (oi := { dst := some 67, op := Op.move (Operand.tmp 10), type := 3, pos := "bytes.go:672", after := #[], guard := none }) (v := ?_) rfl (by kernel_rfl) (by kernel_rfl) (by kernel_rfl) (fun _ _ _ h => h) (Or.inl ⟨by rfl, ?_⟩) (by assumption) ?_
      rotate_left
      · intro wz hSz; (try dsimp only at hSz); go_simp; all_goals (with_reducible rfl)
      (try simp only [Act.put, List.setIfInBounds_toArray, List.set_cons_zero, List.set_cons_succ])
      refine wpAnyH_take (i := 1) (oi := { dst := some 68, op := Op.move (Operand.tmp 9), type := 22, pos := "bytes.go:672", after := #[], guard := none }) (v := ?_) rfl (by kernel_rfl) (by kernel_rfl) (by kernel_rfl) (fun _ _ _ h => h) (Or.inl ⟨by rfl, ?_⟩) (by assumption) ?_
      rotate_left
      · intro wz hSz; (try dsimp only at hSz); go_simp; all_goals (with_reducible rfl)
      (try simp only [Act.put, List.setIfInBounds_toArray, List.set_cons_zero, List.set_cons_succ])
      refine wpAnyH_take (i := 2) (oi := { dst := some 69, op := Op.move (Operand.tmp 10), type := 3, pos := "bytes.go:672", after := #[], guard := none }) (v := ?_) rfl (by kernel_rfl) (by kernel_rfl) (by kernel_rfl) (fun _ _ _ h => h) (Or.inl ⟨by rfl, ?_⟩) (by assumption) ?_
      rotate_left
      · intro wz hSz; (try dsimp only at hSz); go_simp; all_goals (with_reducible rfl)
      (try simp only [Act.put, List.setIfInBounds_toArray, List.set_cons_zero, List.set_cons_succ])
      refine wpAnyH_take (i := 3) (oi := { dst := some 70, op := Op.slice 22 (Operand.tmp 68) (some (Operand.tmp 69)) none none, type := 22, pos := "bytes.go:672", after := #[{ on := 1, ground := Ground.data }, { on := 2, ground := Ground.data }], guard := none }) (v := ?_) rfl (by kernel_rfl) (by kernel_rfl) (by kernel_rfl) (fun _ _ _ h => h) (Or.inl ⟨by rfl, ?_⟩) (by assumption) ?_
      rotate_left
      · intro wz hSz; (try dsimp only at hSz); go_simp; all_goals (with_reducible rfl)
      (try simp only [Act.put, List.setIfInBounds_toArray, List.set_cons_zero, List.set_cons_succ])
      refine wpAnyH_take (i := 4) (oi := { dst := some 71, op := Op.move (Operand.tmp 9), type := 22, pos := "bytes.go:672", after := #[], guard := none }) (v := ?_) rfl (by kernel_rfl) (by kernel_rfl) (by kernel_rfl) (fun _ _ _ h => h) (Or.inl ⟨by rfl, ?_⟩) (by assumption) ?_
      rotate_left
      · intro wz hSz; (try dsimp only at hSz); go_simp; all_goals (with_reducible rfl)
      (try simp only [Act.put, List.setIfInBounds_toArray, List.set_cons_zero, List.set_cons_succ])
      refine wpAnyH_take (i := 5) (oi := { dst := some 72, op := Op.move (Operand.tmp 11), type := 3, pos := "bytes.go:672", after := #[], guard := none }) (v := ?_) rfl (by kernel_rfl) (by kernel_rfl) (by kernel_rfl) (fun _ _ _ h => h) (Or.inl ⟨by rfl, ?_⟩) (by assumption) ?_
      rotate_left
      · intro wz hSz; (try dsimp only at hSz); go_simp; all_goals (with_reducible rfl)
      (try simp only [Act.put, List.setIfInBounds_toArray, List.set_cons_zero, List.set_cons_succ])
      refine wpAnyH_take (i := 6) (oi := { dst := some 73, op := Op.slice 22 (Operand.tmp 71) none (some (Operand.tmp 72)) none, type := 22, pos := "bytes.go:672", after := #[{ on := 4, ground := Ground.data }, { on := 5, ground := Ground.data }], guard := none }) (v := ?_) rfl (by kernel_rfl) (by kernel_rfl) (by kernel_rfl) (fun _ _ _ h => h) (Or.inl ⟨by rfl, ?_⟩) (by assumption) ?_
      rotate_left
      · intro wz hSz; (try dsimp only at hSz); go_simp; all_goals (with_reducible rfl)
      (try simp only [Act.put, List.setIfInBounds_toArray, List.set_cons_zero, List.set_cons_succ])
      refine wpAnyH_ready (rs := [7]) (by kernel_rfl) (by simp) ?_
      refine AllReadyH.cons (o := { dst := some 74, op := Op.call { callee := Callee.builtin Builtin.copy, args := #[Operand.tmp 70, Operand.tmp 73], argTypes := #[22, 22] }, type := 3, pos := "bytes.go:672", after := #[{ on := 3, ground := Ground.data }, { on := 6, ground := Ground.data }], guard := none }) rfl (fun K hK => ?_) AllReadyH.nil
      rw [if_pos (show Region.wanted _ _ = true from by rfl)]
      refine Lib.wp_copy_run _ _ _ 22 22 rfl _ _ rfl rfl hr2 ?_
      refine hK.out _ _ trivial (fun hHeld => ?_)
      clear hK K
      (try simp only [Act.put, List.setIfInBounds_toArray, List.set_cons_zero, List.set_cons_succ])
      refine wpAnyH_take (i := 8) (oi := { dst := some 75, op := Op.binOp BinOp.add 3 (Operand.tmp 67) (Operand.tmp 74) 3, type := 3, pos := "bytes.go:672", after := #[{ on := 0, ground := Ground.data }, { on := 7, ground := Ground.data }], guard := none }) (v := ?_) rfl (by kernel_rfl) (by kernel_rfl) (by kernel_rfl) (fun _ _ _ h => h) (Or.inl ⟨by rfl, ?_⟩) (by assumption) ?_
      rotate_left
      · intro wz hSz; (try dsimp only at hSz); go_simp; all_goals (with_reducible rfl)
      (try simp only [Act.put, List.setIfInBounds_toArray, List.set_cons_zero, List.set_cons_succ])
      refine wpAnyH_take (i := 9) (oi := { dst := some 10, op := Op.assign (Operand.tmp 75), type := 3, pos := "bytes.go:672", after := #[{ on := 8, ground := Ground.data }, { on := 7, ground := Ground.chain }, { on := 0, ground := Ground.phase }, { on := 1, ground := Ground.phase }, { on := 2, ground := Ground.phase }, { on := 3, ground := Ground.phase }, { on := 4, ground := Ground.phase }, { on := 5, ground := Ground.phase }, { on := 6, ground := Ground.phase }, { on := 7, ground := Ground.phase }, { on := 8, ground := Ground.phase }], guard := none }) (v := ?_) rfl (by kernel_rfl) (by kernel_rfl) (by kernel_rfl) (fun _ _ _ h => h) (Or.inl ⟨by rfl, ?_⟩) (by assumption) ?_
      rotate_left
      · intro wz hSz; (try dsimp only at hSz); go_simp; all_goals (with_reducible rfl)
      (try simp only [Act.put, List.setIfInBounds_toArray, List.set_cons_zero, List.set_cons_succ])
      refine wpAnyH_done (by kernel_rfl) ?_ _
      refine NoPanic.normal ?_
      go_wp2_with fail
      go_roundw
      case rel => exact ⟨bp + k, by omega, by omega, by first | rfl | (congr 1; omega), HB3⟩
      case measure => (try simp only [wk]); simp [intOf]; omega
  · have hb8 : ¬ (8192 : Int) < (N : Int) := by omega
    go_wp2_with (first | (go_at_call 25; (with_reducible refine Calls.mono h25 ?_); rintro e w2 ⟨rfl, rfl⟩) | (at_builtin; refine Lib.wpList_copy_run _ rfl _ _ 22 22 rfl _ _ rfl rfl hr1 ?_))
    go_loopw [10] (fun s wr => ∃ bp : Nat, 1 ≤ bp ∧ bp ≤ N ∧ s = .int .i64 (bp : Int) ∧ Hid (Lib.Buf w wr w.heap.size N (List.replicate bp 255))) (fun s _ => N - (intOf s).toNat)
    case atStart => exact ⟨1, by omega, by omega, rfl, HB1.out⟩
    case round =>
      obtain ⟨bp, hb1, hb2, rfl, HB'⟩ := hrel
      have HB := HB'.out
      clear HB'
      by_cases hlt : bp < N
      case neg =>
        obtain rfl : bp = N := by omega
        have t1 : ¬ (bp : Int) < (bp : Int) := by omega
        go_wp2_with fail
        go_ret
        exact ⟨rfl, HB⟩
      have t1 : (bp : Int) < (N : Int) := by omega
      obtain ⟨ch, hch1, hch2, hch3⟩ : ∃ ch : Nat, min (bp : Int) (N : Int) = (ch : Int) ∧ ch ≤ bp ∧ 0 < ch := ⟨(min (bp : Int) (N : Int)).toNat, by omega, by omega, by omega⟩
      have hsl1 : ∀ W, (Instr.slice 22 (.slice (some ⟨w.heap.size, 0, none⟩) N N) (some (.int .i64 (bp : Int))) none none).run Tryd.prog W = .ok (Lib.tailV w.heap.size N bp) W := fun W => Lib.run_slice_tailV W 22 5 Tryd.underlying22 size5 _ N bp (by omega)
      have hsl2 : ∀ W, (Instr.slice 22 (.slice (some ⟨w.heap.size, 0, none⟩) N N) none (some (.int .i64 (ch : Int))) none).run Tryd.prog W = .ok (.slice (some ⟨w.heap.size, 0, none⟩) ch N) W := fun W => slice_head W _ N ch (by omega)
      obtain ⟨k, hk1, hk2, w3, hr2, HB3⟩ := copy_self w w.heap.size N bp ch wr.drew (buf_drew HB) hch2 hch3 hlt (by omega)
      have wk : IntKind.i64.wrap ((bp : Int) + (k : Int)) = (bp : Int) + (k : Int) := wrap64 _ (by omega)
      go_upto_region 20 with fail
      refine wp_region_noPanic ?_
      refine wp_region_held_drew (S := fun w' => True) (by kernel_rfl) ?_ (fun hHeld => ?_)
      · (try dsimp only)
        all_goals trivial
      refine wpAnyH_take (i := 0) (oi := { dst := some 67, op := Op.move (Operand.tmp 10), type := 3, pos := "bytes.go:672", after := #[], guard := none }) (v := ?_) rfl (by kernel_rfl) (by kernel_rfl) (by kernel_rfl) (fun _ _ _ h => h) (Or.inl ⟨by rfl, ?_⟩) (by assumption) ?_
      rotate_left
      · intro wz hSz; (try dsimp only at hSz); go_simp; all_goals (with_reducible rfl)
      (try simp only [Act.put, List.setIfInBounds_toArray, List.set_cons_zero, List.set_cons_succ])
      refine wpAnyH_take (i := 1) (oi := { dst := some 68, op := Op.move (Operand.tmp 9), type := 22, pos := "bytes.go:672", after := #[], guard := none }) (v := ?_) rfl (by kernel_rfl) (by kernel_rfl) (by kernel_rfl) (fun _ _ _ h => h) (Or.inl ⟨by rfl, ?_⟩) (by assumption) ?_
      rotate_left
      · intro wz hSz; (try dsimp only at hSz); go_simp; all_goals (with_reducible rfl)
      (try simp only [Act.put, List.setIfInBounds_toArray, List.set_cons_zero, List.set_cons_succ])
      refine wpAnyH_take (i := 2) (oi := { dst := some 69, op := Op.move (Operand.tmp 10), type := 3, pos := "bytes.go:672", after := #[], guard := none }) (v := ?_) rfl (by kernel_rfl) (by kernel_rfl) (by kernel_rfl) (fun _ _ _ h => h) (Or.inl ⟨by rfl, ?_⟩) (by assumption) ?_
      rotate_left
      · intro wz hSz; (try dsimp only at hSz); go_simp; all_goals (with_reducible rfl)
      (try simp only [Act.put, List.setIfInBounds_toArray, List.set_cons_zero, List.set_cons_succ])
      refine wpAnyH_take (i := 3) (oi := { dst := some 70, op := Op.slice 22 (Operand.tmp 68) (some (Operand.tmp 69)) none none, type := 22, pos := "bytes.go:672", after := #[{ on := 1, ground := Ground.data }, { on := 2, ground := Ground.data }], guard := none }) (v := ?_) rfl (by kernel_rfl) (by kernel_rfl) (by kernel_rfl) (fun _ _ _ h => h) (Or.inl ⟨by rfl, ?_⟩) (by assumption) ?_
      rotate_left
      · intro wz hSz; (try dsimp only at hSz); go_simp; all_goals (with_reducible rfl)
      (try simp only [Act.put, List.setIfInBounds_toArray, List.set_cons_zero, List.set_cons_succ])
      refine wpAnyH_take (i := 4) (oi := { dst := some 71, op := Op.move (Operand.tmp 9), type := 22, pos := "bytes.go:672", after := #[], guard := none }) (v := ?_) rfl (by kernel_rfl) (by kernel_rfl) (by kernel_rfl) (fun _ _ _ h => h) (Or.inl ⟨by rfl, ?_⟩) (by assumption) ?_
      rotate_left
      · intro wz hSz; (try dsimp only at hSz); go_simp; all_goals (with_reducible rfl)
      (try simp only [Act.put, List.setIfInBounds_toArray, List.set_cons_zero, List.set_cons_succ])
      refine wpAnyH_take (i := 5) (oi := { dst := some 72, op := Op.move (Operand.tmp 11), type := 3, pos := "bytes.go:672", after := #[], guard := none }) (v := ?_) rfl (by kernel_rfl) (by kernel_rfl) (by kernel_rfl) (fun _ _ _ h => h) (Or.inl ⟨by rfl, ?_⟩) (by assumption) ?_
      rotate_left
      · intro wz hSz; (try dsimp only at hSz); go_simp; all_goals (with_reducible rfl)
      (try simp only [Act.put, List.setIfInBounds_toArray, List.set_cons_zero, List.set_cons_succ])
      refine wpAnyH_take (i := 6) (oi := { dst := some 73, op := Op.slice 22 (Operand.tmp 71) none (some (Operand.tmp 72)) none, type := 22, pos := "bytes.go:672", after := #[{ on := 4, ground := Ground.data }, { on := 5, ground := Ground.data }], guard := none }) (v := ?_) rfl (by kernel_rfl) (by kernel_rfl) (by kernel_rfl) (fun _ _ _ h => h) (Or.inl ⟨by rfl, ?_⟩) (by assumption) ?_
      rotate_left
      · intro wz hSz; (try dsimp only at hSz); go_simp; all_goals (with_reducible rfl)
      (try simp only [Act.put, List.setIfInBounds_toArray, List.set_cons_zero, List.set_cons_succ])
      refine wpAnyH_ready (rs := [7]) (by kernel_rfl) (by simp) ?_
      refine AllReadyH.cons (o := { dst := some 74, op := Op.call { callee := Callee.builtin Builtin.copy, args := #[Operand.tmp 70, Operand.tmp 73], argTypes := #[22, 22] }, type := 3, pos := "bytes.go:672", after := #[{ on := 3, ground := Ground.data }, { on := 6, ground := Ground.data }], guard := none }) rfl (fun K hK => ?_) AllReadyH.nil
      rw [if_pos (show Region.wanted _ _ = true from by rfl)]
      refine Lib.wp_copy_run _ _ _ 22 22 rfl _ _ rfl rfl hr2 ?_
      refine hK.out _ _ trivial (fun hHeld => ?_)
      clear hK K
      (try simp only [Act.put, List.setIfInBounds_toArray, List.set_cons_zero, List.set_cons_succ])
      refine wpAnyH_take (i := 8) (oi := { dst := some 75, op := Op.binOp BinOp.add 3 (Operand.tmp 67) (Operand.tmp 74) 3, type := 3, pos := "bytes.go:672", after := #[{ on := 0, ground := Ground.data }, { on := 7, ground := Ground.data }], guard := none }) (v := ?_) rfl (by kernel_rfl) (by kernel_rfl) (by kernel_rfl) (fun _ _ _ h => h) (Or.inl ⟨by rfl, ?_⟩) (by assumption) ?_
      rotate_left
      · intro wz hSz; (try dsimp only at hSz); go_simp; all_goals (with_reducible rfl)
      (try simp only [Act.put, List.setIfInBounds_toArray, List.set_cons_zero, List.set_cons_succ])
      refine wpAnyH_take (i := 9) (oi := { dst := some 10, op := Op.assign (Operand.tmp 75), type := 3, pos := "bytes.go:672", after := #[{ on := 8, ground := Ground.data }, { on := 7, ground := Ground.chain }, { on := 0, ground := Ground.phase }, { on := 1, ground := Ground.phase }, { on := 2, ground := Ground.phase }, { on := 3, ground := Ground.phase }, { on := 4, ground := Ground.phase }, { on := 5, ground := Ground.phase }, { on := 6, ground := Ground.phase }, { on := 7, ground := Ground.phase }, { on := 8, ground := Ground.phase }], guard := none }) (v := ?_) rfl (by kernel_rfl) (by kernel_rfl) (by kernel_rfl) (fun _ _ _ h => h) (Or.inl ⟨by rfl, ?_⟩) (by assumption) ?_
      rotate_left
      · intro wz hSz; (try dsimp only at hSz); go_simp; all_goals (with_reducible rfl)
      (try simp only [Act.put, List.setIfInBounds_toArray, List.set_cons_zero, List.set_cons_succ])
      refine wpAnyH_done (by kernel_rfl) ?_ _
      refine NoPanic.normal ?_
      go_wp2_with fail
      go_roundw
      case rel => exact ⟨bp + k, by omega, by omega, by first | rfl | (congr 1; omega), HB3⟩
      case measure => (try simp only [wk]); simp [intOf]; omega
end Go.Proofs.YtoanbdbcfdjdeaaDoor
