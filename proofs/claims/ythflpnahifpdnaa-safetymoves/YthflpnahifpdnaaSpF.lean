import Derived.Test.YthflpnahifpdnaaSpD
import Derived.Deep.RegionHeld3
import Derived.Deep.MidRow
import Derived.Deep.DeepMust
namespace Go.Proofs.Ythflpnahifpdnaa
open Go.RowKit
set_option linter.unusedVariables false


/-- Block g holds 64 masks and may be written. -/
def Ms (w : World) (g : Nat) (f : Nat → Nat) : Prop := g < w.heap.size ∧ (∀ i, i < 64 → w.cell? ⟨g, i, none⟩ = some (.int .u64 (f i : Nat))) ∧ ∀ i, w.frozen? ⟨g, i, none⟩ = false
theorem Ms.set {w : World} {g : Nat} {f f' : Nat → Nat} (h : Ms w g f) (j v : Nat) (hj : j < 64) (hf : ∀ i, f' i = if i = j then v else f i) : Ms (w.setCell ⟨g, j, none⟩ (.int .u64 (v : Nat))) g f' :=
  ⟨by simpa [World.setCell] using h.1, fun i hi => by
    by_cases e : j = i
    · subst e
      rw [World.cell?_setCell_same w ⟨g, j, none⟩ (.int .u64 (v : Nat)) (h.2.1 j hj), hf j, if_pos rfl]
    · rw [World.cell?_setCell_other w ⟨g, j, none⟩ ⟨g, i, none⟩ (.int .u64 (v : Nat)) (by intro e'; exact e (congrArg Addr.off e')), h.2.1 i hi, hf i, if_neg (Ne.symm e)], fun i => by rw [World.frozen?_setCell]; exact h.2.2 i⟩
def zer92 : Array Value := (Array.replicate 64 (.int .u64 0))
theorem alloc92 (w : World) : (Instr.alloc 96 true (.tuple #[])).run Try.prog w = .ok (.pointer (some ⟨w.heap.size, 0, none⟩)) (w.alloc (.cells zer92 96)) := by kernel_rfl
theorem wpList_alloc_named {P : Program} {ops : Array Oper} {rest : List Oper} {o2 : Oper} {a : Act} {w : World} {Q : Exit → Act → World → Prop}
    (g2 : o2.guard = none) (t : TypeId) (h2 : o2.op = .alloc t) (zeros : Array Value)
    (hr : ∀ w : World, (Instr.alloc t true (.tuple #[])).run P w = .ok (.pointer (some ⟨w.heap.size, 0, none⟩)) (w.alloc (.cells zeros t)))
    (h : wpList P ops Q rest (a.put o2.dst (.pointer (some ⟨w.heap.size, 0, none⟩))) (w.alloc (.cells zeros t))) : wpList P ops Q (o2 :: rest) a w := by
  refine wpList_plain g2 fun K hK => ?_
  unfold Oper.wp
  simp only [execOp, h2, Sem.run_bind, hr, Result.andThen_ok]
  exact hK _ _ h
theorem Ms.new (w : World) : Ms (w.alloc (.cells zer92 96)) w.heap.size (fun _ => 0) :=
  ⟨by simp, fun i hi => by
    have : zer92[i]? = some (.int .u64 0) := by unfold zer92; simp [hi]
    simp [this], fun i => World.frozen?_alloc_at _ _ _ _ rfl⟩
theorem Ms.below {w w' : World} {g : Nat} {f : Nat → Nat} (h : Ms w g f) (hb : Below w.heap.size w w') : Ms w' g f :=
  ⟨Nat.lt_of_lt_of_le h.1 hb.size, fun i hi => (hb.cell (p := ⟨g, i, none⟩) h.1).trans (h.2.1 i hi), fun i => (hb.frozen (p := ⟨g, i, none⟩) h.1).trans (h.2.2 i)⟩
theorem Ms.alloc {w : World} {g : Nat} {f : Nat → Nat} (h : Ms w g f) (o : Obj) : Ms (w.alloc o) g f := h.below belN1
theorem Ms.drew {w : World} {g : Nat} {f : Nat → Nat} (h : Ms w g f) : Ms w.drew g f := h
theorem Ms.far {w : World} {g : Nat} {f : Nat → Nat} (h : Ms w g f) {c i : Nat} (hc : g ≠ c) (v : Value) : Ms (w.setCell ⟨c, i, none⟩ v) g f :=
  ⟨by simpa [World.setCell] using h.1, fun j hj => by rw [World.cell?_setCell_other w ⟨c, i, none⟩ ⟨g, j, none⟩ v (by intro e; exact hc (congrArg Addr.block e).symm)]; exact h.2.1 j hj, fun j => by rw [World.frozen?_setCell]; exact h.2.2 j⟩
def msL (f : Nat → Nat) : List Value := (List.range 64).map fun i => .int .u64 (f i : Nat)
theorem msL_len (f : Nat → Nat) : (msL f).length = 64 := by simp [msL]
theorem msL_one (f : Nat → Nat) : ∀ v ∈ msL f, v.oneCell' = true := by
  intro v hv
  unfold msL at hv
  obtain ⟨i, _, rfl⟩ := List.mem_map.1 hv
  rfl
theorem Ms.range {w : World} {g : Nat} {f : Nat → Nat} (h : Ms w g f) : w.rangeAt g 0 (msL f) := by
  intro j v hv
  have hj : j < 64 := by have := (List.getElem?_eq_some_iff.1 hv).1; simpa [msL_len] using this
  have : v = .int .u64 (f j : Nat) := by
    unfold msL at hv
    simp [hj] at hv
    exact hv.symm
  rw [this, Nat.zero_add]
  exact h.2.1 j hj
theorem Ms.there {w : World} {g : Nat} {f : Nat → Nat} (h : Ms w g f) : w.there g 0 64 := fun j hj => by
  rw [Nat.zero_add]
  exact ⟨by rw [h.2.1 j hj]; rfl, h.2.2 j⟩
theorem Ms.of_range {w : World} {g : Nat} {f : Nat → Nat} (h : w.rangeAt g 0 (msL f)) (hg : g < w.heap.size) (hf : ∀ i, w.frozen? ⟨g, i, none⟩ = false) : Ms w g f :=
  ⟨hg, fun i hi => by
    have := h i (.int .u64 (f i : Nat)) (by unfold msL; simp [hi])
    rwa [Nat.zero_add] at this, hf⟩
theorem below_setCells {a : World} (b : Nat) : ∀ (vs : List Value) (o : Nat) {w : World}, a.heap.size ≤ b → Below a.heap.size a w → Below a.heap.size a (w.setCells b o vs)
  | [], _, _, _, h => h
  | v :: vs, o, w, hb, h => below_setCells b vs (o + 1) hb (h.setCell (p := ⟨b, o, none⟩) hb v)
theorem frozen_setCells (b : Nat) : ∀ (vs : List Value) (o : Nat) (w : World) (x : Addr), (w.setCells b o vs).frozen? x = w.frozen? x
  | [], _, _, _ => rfl
  | v :: vs, o, w, x => by
    show ((w.setCell ⟨b, o, none⟩ v).setCells b (o + 1) vs).frozen? x = _
    rw [frozen_setCells b vs (o + 1), World.frozen?_setCell]
theorem size_setCells (b : Nat) : ∀ (vs : List Value) (o : Nat) (w : World), (w.setCells b o vs).heap.size = w.heap.size
  | [], _, _ => rfl
  | v :: vs, o, w => by
    show ((w.setCell ⟨b, o, none⟩ v).setCells b (o + 1) vs).heap.size = _
    rw [size_setCells b vs (o + 1)]; simp [World.setCell]
theorem Ms.stored {w : World} {g : Nat} {f : Nat → Nat} (h : Ms w g f) (f' : Nat → Nat) : Ms (w.setCells g 0 (msL f')) g f' :=
  Ms.of_range (World.rangeAt_setCells_same w g 0 _ (by rw [msL_len]; exact h.there)) (by rw [size_setCells]; exact h.1) (fun i => by rw [frozen_setCells]; exact h.2.2 i)
theorem results_cell_mid {P : Program} {fn : Func} {p : Tmp} {ty : TypeId} {v : Value} (h : fn.results = #[.cell p ty]) (tmps : Array Value) (w : World) (b : Nat) (hp : tmps.getD p undef = .pointer (some ⟨b, 0, none⟩)) (hl : (loadVar ty ⟨b, 0, none⟩).run P w = .ok v w) : (results fn tmps).run P w = .ok v w := by
  have hp' : tmps[p]?.getD undef = .pointer (some ⟨b, 0, none⟩) := by simpa using hp
  simp [results, h, hp', asAddr, hl]
theorem info92 : (Try.prog.info? 96).map (·.size) = some 64 := by kernel_rfl
/-- The foes of i by the first k rows. -/
def foM (C : List Cf) (i : Nat) : Nat → Nat
  | 0 => 0
  | k + 1 => let c := C.getD k ⟨0, 0, 0, 0⟩
    if i = c.a.toNat then foM C i k ||| 2 ^ c.b.toNat else if i = c.b.toNat then foM C i k ||| 2 ^ c.a.toNat else foM C i k
def pairB (i j : Nat) (c : Cf) : Bool := (decide (i = c.a.toNat) && decide (c.b.toNat = j)) || (decide (i = c.b.toNat) && decide (c.a.toNat = j))
theorem foM_bit {C : List Cf} (i j : Nat) (hc : ∀ (k : Nat) (hk : k < C.length), C[k].a.toNat ≠ C[k].b.toNat) : ∀ k, k ≤ C.length → (foM C i k).testBit j = (C.take k).any (pairB i j)
  | 0, _ => by simp [foM]
  | k + 1, h => by
    have hk : k < C.length := h
    have ih := foM_bit i j hc k (by omega)
    have hne := hc k hk
    unfold foM
    simp only [show C.getD k ⟨0, 0, 0, 0⟩ = C[k] by simp [List.getD_eq_getElem?_getD, hk]]
    rw [List.take_succ_eq_append_getElem hk, List.any_append, ← ih]
    unfold pairB
    by_cases h1 : i = C[k].a.toNat
    · have h2 : ¬ i = C[k].b.toNat := by omega
      rw [if_pos h1, Nat.testBit_or, Nat.testBit_two_pow]
      simp [h1, hne]
    · rw [if_neg h1]
      by_cases h2 : i = C[k].b.toNat
      · rw [if_pos h2, Nat.testBit_or, Nat.testBit_two_pow]
        simp [h2, Ne.symm hne]
      · rw [if_neg h2]
        simp [h1, h2]
theorem foM_lt {C : List Cf} (i : Nat) (hc : ∀ (k : Nat) (hk : k < C.length), C[k].a.toNat < 64 ∧ C[k].b.toNat < 64) : ∀ k, k ≤ C.length → foM C i k < 18446744073709551616
  | 0, _ => by simp [foM]
  | k + 1, h => by
    have hk : k < C.length := h
    have ih := foM_lt i hc k (by omega)
    have hn := hc k hk
    unfold foM
    simp only [show C.getD k ⟨0, 0, 0, 0⟩ = C[k] by simp [List.getD_eq_getElem?_getD, hk]]
    split
    · exact or_lt ih (pow_lt hn.2)
    · split
      · exact or_lt ih (pow_lt hn.1)
      · exact ih
set_option maxRecDepth 100000 in
set_option maxHeartbeats 4000000 in
theorem foes_any (w : World) (b : Nat) (G : List Gp) (C : List Cf) (A I W : List Int) (M : Nat) (vg vc v1 v2 v3 vn : Value) (hs : Sp w b G C A I W M vg vc v1 v2 v3 vn) (ok : SpOk G C A I W M) :
    Calls Try.prog 60 #[.pointer (some ⟨b, 0, none⟩)] w fun e w' => e = .returned (.agg (msL (fun i => foM C i C.length)).toArray) ∧ Below w.heap.size w w' := by
  obtain ⟨vb, cc, eC, kC⟩ := hs.c.any
  subst eC
  have h64 := grid_len ok.grid
  have hcf := grid_cf ok.grid
  have lC := ok.lC
  have hfl := fun i => foM_lt (C := C) i (fun i hi => by obtain ⟨a, b, c, _⟩ := hcf i hi; omega)
  have Bw := hs.bx
  clear hs ok
  have B0 := (Bw.alloc (.cells zer92 96)).alloc (.cells zer92 96)
  have M0 : Ms ((w.alloc (.cells zer92 96)).alloc (.cells zer92 96)) w.heap.size (fun _ => 0) := (Ms.new w).alloc _
  have M1 : Ms ((w.alloc (.cells zer92 96)).alloc (.cells zer92 96)) (w.heap.size + 1) (fun _ => 0) := by simpa using Ms.new (w.alloc (.cells zer92 96))
  have hb0 : Below w.heap.size w ((w.alloc (.cells zer92 96)).alloc (.cells zer92 96)) := belA
  go_enter Try.func60, Try.ntmps60
  go_upto_region 2 with (guard_target =~ wpList _ _ _ ({ dst := _, op := Op.alloc 96, type := _, pos := _, after := _, guard := _ } :: _) _ _; go_must (refine wpList_alloc_named rfl 96 rfl zer92 alloc92 ?_))
  have zz : (w.alloc (.cells zer92 96)).heap.size = w.heap.size + 1 := by simp
  rw [zz]
  simp only [Act.put, List.setIfInBounds_toArray, List.set_cons_zero, List.set_cons_succ]
  clear zz
  generalize ((w.alloc (.cells zer92 96)).alloc (.cells zer92 96)) = W0 at *
  obtain ⟨_, y1, _⟩ := id B0
  go_wp2_with fail
  go_loopw [12] (fun t wr => ∃ k : Nat, k ≤ C.length ∧ t = .int .i64 (k : Int) ∧ Hid (Has wr b #[vg, .slice vb C.length cc, v1, v2, v3, .int .u64 (M : Int), vn]) ∧ Hid (Ms wr w.heap.size (fun _ => 0)) ∧ Hid (Ms wr (w.heap.size + 1) (fun i => foM C i k)) ∧ Hid (Below w.heap.size w wr)) (fun t _ => C.length - (intOf t).toNat)
  case atStart => exact ⟨0, by omega, rfl, B0, M0, M1, hb0⟩
  case round =>
    clear B0 M0 M1 hb0 y1
    obtain ⟨k, hkl, rfl, B, M0, M1, hb⟩ := hrel
    have hbl := Bw.1
    by_cases hlt : k < C.length
    · obtain ⟨g, o, rfl, hg, P⟩ := kC.resolve_left (by intro e; rw [e] at hlt; simp at hlt)
      have p0 := (hb.out.cell (p := ⟨g, _, none⟩) hg).trans (P k hlt 0 _ rfl)
      have p1 := (hb.out.cell (p := ⟨g, _, none⟩) hg).trans (P k hlt 1 _ rfl)
      have p2 := (hb.out.cell (p := ⟨g, _, none⟩) hg).trans (P k hlt 2 _ rfl)
      have p3 := (hb.out.cell (p := ⟨g, _, none⟩) hg).trans (P k hlt 3 _ rfl)
      simp only [Nat.add_zero] at p0
      obtain ⟨ra, rb, rc, _, _⟩ := hcf k hlt
      have st : ∀ i, foM C i (k + 1) = if i = C[k].a.toNat then foM C i k ||| 2 ^ C[k].b.toNat else if i = C[k].b.toNat then foM C i k ||| 2 ^ C[k].a.toNat else foM C i k := fun i => by
        show (let c := C.getD k ⟨0, 0, 0, 0⟩; if i = c.a.toNat then foM C i k ||| 2 ^ c.b.toNat else if i = c.b.toNat then foM C i k ||| 2 ^ c.a.toNat else foM C i k) = _
        simp only [show C.getD k ⟨0, 0, 0, 0⟩ = C[k] by simp [List.getD_eq_getElem?_getD, hlt]]
      have hL := fun i => hfl i k (by omega)
      have ja : ((C[k].a.toNat : Nat) : Int) = C[k].a := by omega
      have jb : ((C[k].b.toNat : Nat) : Int) = C[k].b := by omega
      have n64a : C[k].a.toNat < 64 := by omega
      have n64b : C[k].b.toNat < 64 := by omega
      have nab : C[k].a.toNat ≠ C[k].b.toNat := by omega
      have t1 : (k : Int) < (C.length : Int) := by omega
      have t0 : (0 : Int) ≤ (k : Int) := by omega
      have t2 : k + 1 ≤ C.length := hlt
      have z1 : w.heap.size + 1 < wr.heap.size := M1.out.1
      clear P kC hcf hfl rb rc ra Bw
      generalize C[k].a.toNat = na at *
      generalize C[k].b.toNat = nb at *
      generalize C[k].a = xa at *
      generalize C[k].b = xb at *
      generalize C[k].ab = xab at *
      generalize C[k].ba = xba at *
      subst ja jb
      have m1 : min na 64 = na := by omega
      have m2 : min nb 64 = nb := by omega
      have a0 : (0 : Int) ≤ (na : Int) := by omega
      have a1 : (0 : Int) ≤ (nb : Int) := by omega
      have a2 : (na : Int) < 64 := by omega
      have a3 : (nb : Int) < 64 := by omega
      have s3 : Hid (_ = _) := or_pow (m := foM C na k) (k := nb) (hL na) n64b
      have s4 : Hid (_ = _) := or_pow (m := foM C nb k) (k := na) (hL nb) n64a
      have hbN : Below w.heap.size w (wr.alloc (.cells #[.int .i64 (na : Int), .int .i64 (nb : Int), .int .i64 xab, .int .i64 xba] 49)) := hb.out.alloc hb.out.size _
      have BN := B.out.alloc (.cells #[.int .i64 (na : Int), .int .i64 (nb : Int), .int .i64 xab, .int .i64 xba] 49)
      have M0N := M0.out.alloc (.cells #[.int .i64 (na : Int), .int .i64 (nb : Int), .int .i64 xab, .int .i64 xba] 49)
      have M1N := M1.out.alloc (.cells #[.int .i64 (na : Int), .int .i64 (nb : Int), .int .i64 xab, .int .i64 xba] 49)
      have CN : Has (wr.alloc (.cells #[.int .i64 (na : Int), .int .i64 (nb : Int), .int .i64 xab, .int .i64 xba] 49)) wr.heap.size #[.int .i64 (na : Int), .int .i64 (nb : Int), .int .i64 xab, .int .i64 xba] := Has.new _ _ _ rfl
      obtain ⟨_, b1, _⟩ := id B.out
      go_upto_region 5 with fail
      generalize (wr.alloc (.cells #[.int .i64 (na : Int), .int .i64 (nb : Int), .int .i64 xab, .int .i64 xba] 49)) = W1 at *
      clear p0 p1 p2 p3 b1 B M0 M1 hb
      have c0 : W1.cell? ⟨wr.heap.size, 0, none⟩ = some (.int .i64 (na : Int)) := CN.2.1 0
      have c1 : W1.cell? ⟨wr.heap.size, 1, none⟩ = some (.int .i64 (nb : Int)) := CN.2.1 1
      have e0 := M1N.2.1 na n64a
      have e1 := M1N.2.2 na
      go_region
      all_goals
        go_upto_region 6 with fail
        rw [s3.out]
        have hbV : Below w.heap.size w (W1.setCell ⟨w.heap.size + 1, na, none⟩ (.int .u64 ((foM C na k ||| 2 ^ nb : Nat) : Int))).drew := (hbN.setCell (p := ⟨w.heap.size + 1, na, none⟩) (by simp) _).drew
        have BV : Has (W1.setCell ⟨w.heap.size + 1, na, none⟩ (.int .u64 ((foM C na k ||| 2 ^ nb : Nat) : Int))).drew b #[vg, .slice (some ⟨g, o, none⟩) C.length cc, v1, v2, v3, .int .u64 (M : Int), vn] := (BN.far (by omega) _).drew
        have M0V : Ms (W1.setCell ⟨w.heap.size + 1, na, none⟩ (.int .u64 ((foM C na k ||| 2 ^ nb : Nat) : Int))).drew w.heap.size (fun _ => 0) := (M0N.far (by omega) _).drew
        have M1V : Ms (W1.setCell ⟨w.heap.size + 1, na, none⟩ (.int .u64 ((foM C na k ||| 2 ^ nb : Nat) : Int))).drew (w.heap.size + 1) (fun i => if i = na then foM C na k ||| 2 ^ nb else foM C i k) := (M1N.set na _ n64a (fun i => rfl)).drew
        have CV : Has (W1.setCell ⟨w.heap.size + 1, na, none⟩ (.int .u64 ((foM C na k ||| 2 ^ nb : Nat) : Int))).drew wr.heap.size #[.int .i64 (na : Int), .int .i64 (nb : Int), .int .i64 xab, .int .i64 xba] := (CN.far (by omega) _).drew
        generalize (W1.setCell ⟨w.heap.size + 1, na, none⟩ (.int .u64 ((foM C na k ||| 2 ^ nb : Nat) : Int))).drew = W2 at *
        have c2 : W2.cell? ⟨wr.heap.size, 0, none⟩ = some (.int .i64 (na : Int)) := CV.2.1 0
        have c3 : W2.cell? ⟨wr.heap.size, 1, none⟩ = some (.int .i64 (nb : Int)) := CV.2.1 1
        have e2 : W2.cell? ⟨w.heap.size + 1, nb, none⟩ = some (.int .u64 (foM C nb k : Nat)) := by have := M1V.2.1 nb n64b; dsimp only at this; rwa [if_neg (Ne.symm nab)] at this
        have e3 := M1V.2.2 nb
        go_region
        all_goals
          go_wp2_with fail
          rw [s4.out]
          go_roundw
          case rel => exact ⟨k + 1, by omega, by go_num, (BV.far (by omega) _).drew, (M0V.far (by omega) _).drew, (M1V.set nb _ n64b (fun i => by rw [st i]; by_cases h1 : i = nb <;> by_cases h2 : i = na <;> simp [h1, h2, nab] <;> omega)).drew, (hbV.setCell (p := ⟨w.heap.size + 1, nb, none⟩) (by simp) _).drew⟩
          case measure => simp [intOf]; omega
    · have t1 : ¬ (k : Int) < (C.length : Int) := by omega
      obtain rfl : k = C.length := by omega
      clear kC
      have M1' := M1.out
      have M0' := M0.out
      have hb' := hb.out
      go_wp2_with (first
        | (refine wpList_load_mid rfl 96 _ rfl (w.heap.size + 1) 0 rfl (msL (fun i => foM C i C.length)) _ M1'.range Try.underlying96 rfl (by rw [msL_len]; exact info92) ?_)
        | (refine wpList_store_mid rfl 96 _ _ rfl w.heap.size 0 _ rfl rfl (by simpa [msL_len] using M0'.there) (by simpa [msL_len] using info92) (all_oneCell_toArray (msL_one _)) ?_))
      have MF := Ms.stored M0' (fun i => foM C i C.length)
      have bF := below_setCells w.heap.size (msL (fun i => foM C i C.length)) 0 (Nat.le_refl _) hb'
      refine bodyPost_ret (v := .agg (msL (fun i => foM C i C.length)).toArray) ?_ rfl ⟨rfl, bF⟩
      exact results_cell_mid rfl _ _ w.heap.size rfl (run_loadVar_mid _ _ 0 96 _ _ MF.range Try.underlying96 rfl (by rw [msL_len]; exact info92))
end Go.Proofs.Ythflpnahifpdnaa
