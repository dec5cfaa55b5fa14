import Derived.Test.YtjfieclmagbfbaaGreatDoorJSort
import Derived.Test.YtjfieclmagbfbaaGreatDoorJBnM
import Derived.Deep.CutRange
import Derived.Laws.Cover1
set_option linter.unusedSimpArgs false
set_option linter.unusedVariables false
set_option maxRecDepth 100000
set_option maxHeartbeats 8000000
namespace Go.Proofs.YtjfieclmagbfbaaGreatDoor
open Go.RowKit
theorem flat_get (Q : List (Int × Int)) (t : Nat) (h : t < Q.length * 2) : (cellsF mvC Q)[t]? = some ((Go.Sort.flatK mvC 2 Q.toArray)[t]!) := by
 rw [Go.Sort.get_flatK _ _ _ _ (by simpa using h)]
 have e : t = t / 2 * 2 + t % 2 := by omega
 have hk : t / 2 < Q.length := by omega
 have hj : t % 2 < 2 := by omega
 have e2 := cellsF_get mvC_len Q (t / 2) (t % 2) hk hj
 rw [← e] at e2
 rw [e2]
 have e3 : Q.toArray[t / 2]! = Q[t / 2] := by rw [getElem!_pos _ _ (by simpa using hk)]; simp
 rw [e3]
 rcases (by omega : t % 2 = 0 ∨ t % 2 = 1) with h0 | h0 <;> rw [h0] <;> rfl
theorem only_sorted {g n : Nat} {w : World} {os : Array Obj} (R : Array (Int × Int)) : Only (fun q => q = g) w (Go.Proofs.sortWorldK mvC 2 w g 0 n R os) := by
 refine ⟨rfl, rfl, rfl, ?_, fun k hk hne => ?_⟩
 ·simp [Go.Proofs.sortWorldK, Go.Sort.grow, Go.Sort.putRowK, Go.Sort.putRow, Go.Sort.mapBlock, Go.Sort.ahead]
 ·have hne' : g ≠ k := fun e => hne e.symm
  simp [Go.Proofs.sortWorldK, Go.Sort.grow, Go.Sort.putRowK, Go.Sort.putRow, Go.Sort.mapBlock, Go.Sort.ahead, Array.getElem?_append, Array.getElem_modify, hk, hne']
theorem sortP_any (Q : List (Int × Int)) (g cap : Nat) (w : World) (hQ : ∀ j u, (cellsF mvC Q)[j]? = some u → w.cell? ⟨g, j, none⟩ = some u) (hf : ∀ i, w.frozen? ⟨g, i, none⟩ = false) (hg : g < w.heap.size) (hn : Q.length < 4611686018427387904) :
  Calls Tryz.prog 90 #[.slice (some ⟨g, 0, none⟩) Q.length cap, .func (.func 91) #[] #[]] w fun e w' => e = .returned (.tuple #[]) ∧ ∃ R : List (Int × Int), R.Perm Q ∧ R.Pairwise (fun x y => ¬ ltP y x) ∧ Only (fun q => q = g) w w' ∧ ∀ j u, (cellsF mvC R)[j]? = some u → w'.cell? ⟨g, j, none⟩ = some u := by
 have kC := fun (x y : Int) (W : World) => AnyG.cmp_Compare_int Tryz.cmpInt x y W
 change ∀ (x y : Int) (W : World), Calls Tryz.prog 102 _ _ _ at kC
 have hH : Go.Sort.HoldsK mvC 2 w g 0 Q.toArray := fun j hj => by
  have hj2 : j < Q.length * 2 := by simpa using hj
  rw [Nat.zero_add]; exact ⟨hQ j _ (flat_get Q j hj2), hf j⟩
 have hcmp : CmpLays Tryz.prog 91 #[] mvC 2 bcF g 0 Q.toArray.size w := fun _ _ _ _ x y => byConflict_any kC x.1 x.2 y.1 y.2 _
 have hcon := AnyQ.slices_SortFunc_total Tryz.sortP 2 Tryz.isAgg132 Tryz.sizeOf132 mvC mvC_len (fun x v hv => by simp [mvC] at hv; rcases hv with rfl | rfl <;> rfl) bcF swoB 91 #[] g 0 cap Q.toArray w (enters_of Tryz.func91 (by kernel_rfl) rfl) hcmp hH hg (by simpa using hn) (fun x y h1 h2 => ltP_tot ((lt_iffN x y).1 h1) ((lt_iffN y x).1 h2))
 change Calls Tryz.prog 90 _ _ _ at hcon
 have es : Q.toArray.size = Q.length := by simp
 rw [es] at hcon
 refine hcon.mono ?_
 rintro e w' ⟨rfl, n, os, rfl⟩
 refine ⟨rfl, Q.mergeSort (fun x y => !ltOf bcF y x), List.mergeSort_perm _ _, ?_, only_sorted _, fun j u hu => ?_⟩
 ·have := List.pairwise_mergeSort (le := fun x y : Int × Int => !ltOf bcF y x) (fun a b c h1 h2 => by
   simp only [Bool.not_eq_true', lt_iffN] at *; intro h; unfold ltP at *; omega) (fun a b => by
   simp only [Bool.or_eq_true, Bool.not_eq_true', lt_iffN]; unfold ltP; omega) Q
  refine this.imp fun {a b} h => ?_
  simpa only [Bool.not_eq_true', lt_iffN] using h
 ·obtain ⟨hj, -⟩ := List.getElem?_eq_some_iff.1 hu
  rw [cellsF_len mvC_len] at hj; have hr := holdsK_sortWorldK_c mvC 2 w g 0 Q.toArray ((Q.toArray.toList.mergeSort fun x y => !ltOf bcF y x).toArray) n os hH hg (by simp); have h1 := (hr j (by simpa using hj)).1; rw [Nat.zero_add] at h1; refine h1.trans ?_; have h2 := flat_get (Q.toArray.toList.mergeSort fun x y => !ltOf bcF y x) j (by simpa using hj); simp only [List.toList_toArray] at h2 hu ⊢; rw [hu] at h2; exact h2.symm
theorem sortN_any (fv : Value) (cap : Nat) (p : Option Addr) (w : World) : Calls Tryz.prog 90 #[.slice p 0 cap, fv] w fun e w' => e = .returned (.tuple #[]) ∧ w' = w := by
 have := AnyF.slices_SortFunc_none Tryz.sortP p cap fv w
 exact this
open Go.RowKit Go.Maps Go.WideMaps
def valsN (V : Nat → Int) (n : Nat) : List Value := (List.range n).map fun i => .int .i64 (V i)
theorem wfn {n : Nat} (h : n ≤ 2932031007317) : (Lit.int .i64 (n : Int)).wf = true := by
 simp [Lit.wf, IntKind.min, IntKind.max, IntKind.bits, IntKind.signed]
 omega
theorem ranges_drewN {w : World} {b r n cnt : Nat} {D : DataW Unit} {left : Lit → Bool} (h : w.ranges (H := Unit) Tryz.prog 132 (plainElem Tryz.prog 3) b r n D left cnt) (m : Nat) : (w.drewN m).ranges (H := Unit) Tryz.prog 132 (plainElem Tryz.prog 3) b r n D left cnt := by
 induction m generalizing w with
 | zero => exact h
 | succ m ih => exact ih (w := w.drew) h
theorem ranges_set {w : World} {b r n cnt q i : Nat} {v : Value} {D : DataW Unit} {left : Lit → Bool} (h : w.ranges (H := Unit) Tryz.prog 132 (plainElem Tryz.prog 3) b r n D left cnt) (h1 : b ≠ q) (h2 : r ≠ q) : (w.setCell ⟨q, i, none⟩ v).ranges (H := Unit) Tryz.prog 132 (plainElem Tryz.prog 3) b r n D left cnt := by
 obtain ⟨es, clock, since, seen, c0, hb, F, hs, hD, hr, rest⟩ := h
 exact ⟨es, clock, since, seen, c0, (Below.heap_setCell _ _ _ _ h1).trans hb, F, hs, hD, (Below.heap_setCell _ _ _ _ h2).trans hr, rest⟩
structure InvV (G : List Gp) (C : List Cf) (A : Nat) (V : Nat → Int) (left : Lit → Bool) : Prop where
 nn : ∀ i, i < G.length → 0 ≤ V i ∧ V i ≤ 3600
 ge : ∀ (o i : Nat) (ho : o < G.length), i < G.length → hasN A (o : Int) = true → (interF C (o : Int) (i : Int)).2 = true → left (pk (o : Int) (i : Int)) = false → waitV G[o] C (o : Int) (i : Int) ≤ V i
 is : ∀ i, i < G.length → V i = 0 ∨ ∃ (o : Nat) (ho : o < G.length), hasN A (o : Int) = true ∧ V i = waitV G[o] C (o : Int) (i : Int)
theorem pair_wf (key : Value) (kl : Lit) (h : keyOf Tryz.prog 132 key = some kl) : ∃ p : Int × Int, key = .agg #[.int .i64 p.1, .int .i64 p.2] ∧ (Lit.int .i64 p.1).wf = true ∧ (Lit.int .i64 p.2).wf = true ∧ kl = pk p.1 p.2 := by
 obtain ⟨d, hd⟩ : ∃ d, Tryz.prog.types.size = d + 1 := ⟨Tryz.prog.types.size - 1, by have h : (132 : Nat) < Tryz.prog.types.size := row55; omega⟩
 unfold keyOf at h
 rw [Tryz.underlying132] at h
 simp only [key55, Bool.true_and] at h
 split at h
 ·rename_i hf
  rw [hd] at h
  cases key with
  | agg cs =>
    simp [Value.formed, Tryz.underlying132, cells55] at hf; obtain ⟨l⟩ := cs
    match l, hf with
    | [x, y], _ =>
      simp [Program.keyLits, Tryz.underlying132, Tryz.underlying3, cells55, c3, List.range, List.range.loop, Value.cells] at h
      cases x <;> simp at h
      rename_i q1 n1 _
      by_cases c1 : q1 = IntKind.i64 ∧ (Lit.int IntKind.i64 n1).wf = true
      ·obtain ⟨rfl, w1⟩ := c1
       simp [w1] at h
       cases y <;> simp at h
       rename_i q2 n2 _
       by_cases c2 : q2 = IntKind.i64 ∧ (Lit.int IntKind.i64 n2).wf = true
       ·obtain ⟨rfl, w2⟩ := c2
        simp [w2] at h; exact ⟨(n1, n2), rfl, w1, w2, by rw [← h]; rfl⟩
       ·simp [c2] at h
      ·simp [c1] at h
  | _ => simp [Value.formed, Tryz.underlying132] at hf
 ·cases h
theorem pair_inv (key : Value) (kl : Lit) (h : keyOf Tryz.prog 132 key = some kl) : ∃ p : Int × Int, key = .agg #[.int .i64 p.1, .int .i64 p.2] := by
 obtain ⟨p, h1, _⟩ := pair_wf key kl h
 exact ⟨p, h1⟩
theorem made_vals (n : Nat) : (madeCells (Value.int IntKind.i64 0).cells (n * 1)).toList = valsN (fun _ => 0) n := by
 apply List.ext_getElem?
 intro i
 simp [madeCells, valsN, Value.cells]
 cases (List.range n)[i]? with
 | none => rfl
 | some x => simp [Nat.mod_one]
theorem waitsFor_any (G : List Gp) (C : List Cf) (vg : Value) (mb A : Nat) (w : World) (hA : A < 18446744073709551616) (h1 : Fl 5 Gp.cs w vg G) (lG : G.length ≤ 2932031007317) (lC : C.length ≤ 4398046511000) (gr : gridB G C = true) (ok : ∀ (i : Nat) (h : i < C.length), C[i].ok)
  (hm : w.ownsMap (H := Unit) Tryz.prog 132 (plainElem Tryz.prog 3) mb (2 * C.length) (mD C C.length)) (hmb : mb < w.heap.size) :
  Calls Tryz.prog 61 #[.agg #[vg, .map (some mb)], .int .u64 (A : Int)] w fun e w' => (∃ aw cw, e = .returned (.slice aw G.length cw) ∧ (G = [] ∨ ∃ gw, aw = some ⟨gw, 0, none⟩ ∧ gw < w'.heap.size ∧ ∀ i, i < G.length → w'.cell? ⟨gw, i, none⟩ = some (.int .i64 (wA C A (i : Int) G 0 0)) ∧ 0 ≤ wA C A (i : Int) G 0 0 ∧ wA C A (i : Int) G 0 0 ≤ 3600)) ∧ Below w.heap.size w w' := by
 obtain ⟨va, cg, rfl, kG⟩ := h1.any
 clear h1
 obtain ⟨i3, h3, h31, h32, h33⟩ := info_parts info3
 have hm0 := hm.alloc (.cells #[.slice va G.length cg, .map (some mb)] 79)
 go_enter Tryz.func61, Tryz.ntmps61
 go_wp2_with (first
  | (refine wpList_make_full _ rfl _ _ 80 rfl (w.heap.size + 1) 3 i3 _ 1 Tryz.underlying80 h3 h31 h32 .i64 .i64 (G.length : Int) (G.length : Int) G.length rfl rfl rfl rfl (by rw [h33]; omega) (by unfold maxLen; omega) (by simp) ?_; intro W0 own0 hg0; have HB0 := grown_none hg0; have B0 : Has W0 w.heap.size #[.slice va G.length cg, .map (some mb)] := (Has.new w _ _ rfl).below HB0; have hm1 := hm0.kept hg0 (by simp); have hbW : Below w.heap.size w W0 := bel_after belN1 (by simp) HB0; obtain ⟨_, b0, _⟩ := id B0; clear HB0 hg0)
  | (at_range; refine wpList_range_own _ rfl _ 77 rfl 132 3 lawP Tryz.underlying77 _ mb (2 * C.length) (mD C C.length) rfl hm1 ?_; intro w0 hrg0 hg1 hs0; have HB1 := grown_none hg1; have B1 := B0.below HB1; have hb1 := bel_after hbW hbW.size HB1; have own1 := own_bel own0 HB1; clear HB1 hg1))
 go_frame
 have zW : w.heap.size + 1 < W0.heap.size := (own_lt own0 (w.heap.size + 1) (by simp [Value.ownBlock])).2
 go_loopw [7] (fun _ wr => ∃ (left : Lit → Bool) (cnt : Nat) (V : Nat → Int), Hid (wr.ranges (H := Unit) Tryz.prog 132 (plainElem Tryz.prog 3) mb W0.heap.size (2 * C.length) (mD C C.length) left cnt) ∧ Hid (wr.ownsRow (w.heap.size + 1) 3 1 (.slice (some ⟨w.heap.size + 1, 0, none⟩) G.length G.length) G.length (valsN V G.length)) ∧ Hid (InvV G C A V left) ∧ Hid (Has wr w.heap.size #[.slice va G.length cg, .map (some mb)]) ∧ Hid (Below w.heap.size w wr)) (fun _ wr => wr.rangeLeft mb W0.heap.size)
 case atStart =>
  refine ⟨_, _, fun _ => 0, hrg0, ?_, ?_, B1, hb1⟩
  ·have := own1
   rw [made_vals] at this; show World.ownsRow _ _ _ _ _ _ _
   simpa using this
  ·refine ⟨fun i hi => ⟨by omega, by omega⟩, fun o i ho hi ha hin hl => ?_, fun i hi => .inl rfl⟩
   have := (mD_at gr ok (o : Int) (i : Int) (wfn (by omega)) (wfn (by omega)) .nil).2; rw [hin] at this; rw [this] at hl
   cases hl
 case round =>
  clear hrg0 own0 own1 B1 hb1 B0 b0 hm1 hbW; obtain ⟨left, cnt, V, hrg, hown, hinv, B, hb⟩ := hrel; obtain ⟨_, b1, _⟩ := id B.out
  go_wp2_with (at_next; refine wpList_next_ranges _ rfl _ rfl 132 lawP (plainElem Tryz.prog 3) (fun p : Int × Int => .agg #[.int .i64 p.1, .int .i64 p.2]) (fun c : Int => .int .i64 c) pair_inv (fun v y hv => by obtain ⟨c, rfl, _⟩ := plainElem_int_inv Tryz.underlying3 hv; exact ⟨c, rfl⟩) mb W0.heap.size (2 * C.length) (mD C C.length) left cnt rfl hrg.out ?_ ?_)
  ·intro hc0 hl0
   go_wp2; go_ret; refine ⟨⟨some ⟨w.heap.size + 1, 0, none⟩, G.length, rfl, .inr ⟨w.heap.size + 1, rfl, (own_lt hown.out _ rfl).2, fun i hi => ?_⟩⟩, hb.out⟩; have hv := hinv.out; have mx := wA_max C A (i : Int) G 0 0; have eV : V i = wA C A (i : Int) G 0 0 := by
    have hge : ∀ (o : Nat) (ho : o < G.length), hasN A (o : Int) = true → waitV G[o] C (o : Int) (i : Int) ≤ V i := fun o ho ha => by
     cases hin : (interF C (o : Int) (i : Int)).2 with
     | true => exact hv.ge o i ho hi ha hin (hl0 _)
     | false =>
       have e0 : waitV G[o] C (o : Int) (i : Int) = 0 := by simp [waitV, hin]
       have := hv.nn i hi; omega
    refine Int.le_antisymm ?_ ?_
    ·rcases hv.is i hi with h | ⟨o, ho, ha, h⟩
     ·rw [h]; exact mx.1
     ·rw [h]; have := mx.2.1 o ho (by simpa using ha); simpa using this
    ·rcases mx.2.2 with h | ⟨o, ho, ha, h⟩
     ·rw [h]; exact (hv.nn i hi).1
     ·rw [h]; have := hge o ho (by simpa using ha); simpa using this
   refine ⟨own_reads hown.out rfl _ _ ?_, ?_, ?_⟩
   ·simp [valsN, hi, eV]
   ·rw [← eV]; exact (hv.nn i hi).1
   ·rw [← eV]; exact (hv.nn i hi).2
  ·intro xo xg c kl y1 y2 w1 cnt1 hkey hlk hv hat hrg1 hlt hg1 hs1 hen
   obtain ⟨⟨a', b'⟩, e1, wo, wg, rfl⟩ := pair_wf _ _ hkey; simp at e1; obtain ⟨rfl, rfl⟩ := e1; simp only at *; have hr : rowsB G.length none C = true := by simp [gridB] at gr; exact gr.2.2
   have m0 := (mD_at gr ok xo xg wo wg .nil).1; have m1 := (mD_at gr ok xo xg wo wg (.lit (.bool true))).1; rw [hat] at m0 m1; have hin : (interF C xo xg).2 = true := by
    cases hh : (interF C xo xg).2 with
    | true => rfl
    | false => rw [hh] at m0 m1; simp at m0 m1; rw [m0] at m1; cases m1
   rw [hin] at m0; simp at m0; obtain ⟨c', ec, ey, wc⟩ := plainElem_int_inv Tryz.underlying3 hv; have ecc : c = (interF C xo xg).1 := by
    injection ec with _ ec
    have : y1 = .lit (.int .i64 c') := by have := congrArg Prod.fst ey; simpa using this
    rw [m0] at this; injection this with this
    injection this with _ this
    omega
   obtain ⟨⟨ro1, ro2⟩, rg1, rg2⟩ := inter_range C none xo xg hr hin; obtain ⟨o, rfl⟩ : ∃ o : Nat, xo = (o : Int) := ⟨xo.toNat, by omega⟩; obtain ⟨g, rfl⟩ : ∃ g : Nat, xg = (g : Int) := ⟨xg.toNat, by omega⟩; have ho : o < G.length := by omega
   have hgl : g < G.length := by omega
   obtain ⟨gg, oo, rfl, hgg, P⟩ := kG.resolve_left (by intro e; rw [e] at ho; simp at ho); have O1 : Only (fun q => some W0.heap.size = some q) wr w1 := only_grown (Only.refl _ _) hg1 (fun q hq => .inl hq); have B1 := B.out.only O1 (fun e => by injection e with e; omega); have own1 := own_only2 hown.out O1 (fun q hq e => by have e1 : w.heap.size + 1 = q := (by injection hq); injection e with e; omega); have hb1 := bel_only hb.out O1 (Nat.le_refl _) (fun q hq e => by injection e with e; omega); have hiv := hinv.out; have wv := wait_in gr o ho (o : Int) (g : Int); have ew : waitV G[o] C (o : Int) (g : Int) = (if G[o].amber > c then G[o].amber else c) := by rw [ecc]; simp [waitV, hin]
   have p3 : ∀ W : World, Below w.heap.size w W → W.cell? ⟨gg, oo + o * 5 + 3, none⟩ = some (.int .i64 G[o].amber) := fun W h => (h.cell (p := ⟨gg, _, none⟩) hgg).trans (P o ho 3 _ rfl)
   have hH := fun (W : World) => hasS_any A (o : Int) W hA (by omega)
   have hrg0' := hrg.out; clear hg1 m0 m1 ey ec hv hat hkey hr B hb; obtain ⟨_, b2, _⟩ := id B1; have ecc' : Hid (c = (interF C (o : Int) (g : Int)).1) := ecc; clear ecc; have hrA := hrg1.alloc (.cells #[.int .i64 (o : Int), .int .i64 (g : Int)] 132); have ownA := own1.alloc (.cells #[.int .i64 (o : Int), .int .i64 (g : Int)] 132); have BA := B1.alloc (.cells #[.int .i64 (o : Int), .int .i64 (g : Int)] 132); have hbA : Below w.heap.size w (w1.alloc (.cells #[.int .i64 (o : Int), .int .i64 (g : Int)] 132)) := hb1.alloc hb1.size _; have mono : ∀ z, (left z && !z.sameKey (pk (o : Int) (g : Int))) = false → left z = false ∨ z = pk (o : Int) (g : Int) := fun z h => by
    cases hl : left z with
    | false => exact .inl rfl
    | true => rw [hl] at h; simp at h; exact .inr (WideAt.sameKey_eq h)
   cases ha : hasN A (o : Int) with
   | false =>
     rw [ha] at hH; have inv2 : InvV G C A V (fun z => left z && !z.sameKey (pk (o : Int) (g : Int))) := by
      refine ⟨hiv.nn, fun o' i ho' hi ha' hin' hl => ?_, hiv.is⟩; rcases mono _ hl with h | h
      ·exact hiv.ge o' i ho' hi ha' hin' h
      ·have := pk_inj (wfn (by omega)) (wfn (by omega)) wo wg h
       have e : o' = o := by omega
       subst e; rw [ha] at ha'
       cases ha'
     clear p3 ew wv P hiv hinv mono; go_wp2
     go_quiet (fail)
     go_wp2_with (go_at_call 65; (with_reducible refine Calls.mono (hH _) ?_); rintro e w2 ⟨rfl, rfl⟩)
     go_roundw
     case rel => exact ⟨_, cnt1, V, ranges_drewN hrA nq, own_bel ownA (bel_drewN (Below.refl _ _)), inv2, BA.drewN nq, bel_drewN hbA⟩
     case measure => rw [(ranges_drewN hrA nq).left_eq, hrg0'.left_eq]; omega
   | true =>
     rw [ha] at hH; go_wp2
     go_quiet (fail)
     go_wp2_with (go_at_call 65; (with_reducible refine Calls.mono (hH _) ?_); rintro e w2 ⟨rfl, rfl⟩)
     have ownX := own_bel ownA (bel_drewN (n := nq) (Below.refl _ _)); have BX := BA.drewN nq; have hbX := bel_drewN (n := nq) hbA; have hrX := ranges_drewN hrA nq; have p3X := p3 _ hbX; have c1 := own_reads ownX rfl g (.int .i64 (V g)) (by simp [valsN, hgl]); have fz := ownX.frozenAt; have t1 : (g : Int) < (G.length : Int) := by omega
     have t2 : (o : Int) < (G.length : Int) := by omega
     have t3 : (0 : Int) ≤ (g : Int) := by omega
     have t4 : (0 : Int) ≤ (o : Int) := by omega
     generalize hX : World.drewN _ _ = X at *; clear hX ownA BA hbA hrA own1 B1 hb1 hrg1 b2 P p3; obtain ⟨_, b3, _⟩ := id BX; generalize G[o].amber = am at *; have vle : V g ≤ (if am > (if c > V g then c else V g) then am else (if c > V g then c else V g)) ∧ (if am > c then am else c) ≤ (if am > (if c > V g then c else V g) then am else (if c > V g then c else V g)) ∧ ((if am > (if c > V g then c else V g) then am else (if c > V g then c else V g)) = V g ∨ (if am > (if c > V g then c else V g) then am else (if c > V g then c else V g)) = (if am > c then am else c)) := by
      refine ⟨?_, ?_, ?_⟩ <;> (repeat' split) <;> omega
     generalize hval : (if am > (if c > V g then c else V g) then am else (if c > V g then c else V g)) = val at *; have hvs : (valsN V G.length).set g (.int .i64 val) = valsN (fun i => if i = g then val else V i) G.length := by
      apply List.ext_getElem?
      intro i
      by_cases e : i = g
      ·subst e
       rw [List.getElem?_set_self (by simp [valsN]; omega)]; simp [valsN, hgl]
      ·rw [List.getElem?_set_ne (by omega)]
       simp only [valsN, List.getElem?_map]
       cases hx : (List.range G.length)[i]? with
       | none => rfl
       | some x =>
         have : x = i := by have := List.getElem?_eq_some_iff.1 hx; obtain ⟨h1, h2⟩ := this; simpa using h2.symm
         subst this; simp [e]
     have ownF := ((ownX.stored g (.int .i64 val)).1).drew; rw [hvs] at ownF; have BF := (BX.far (c := w.heap.size + 1) (i := g) (by omega) (.int .i64 val)).drew; have hbF := (hbX.setCell (p := ⟨w.heap.size + 1, g, none⟩) (by simp) (.int .i64 val)).drew; have hrF : (X.setCell ⟨w.heap.size + 1, g, none⟩ (.int .i64 val)).drew.ranges (H := Unit) Tryz.prog 132 (plainElem Tryz.prog 3) mb W0.heap.size (2 * C.length) (mD C C.length) (fun z => left z && !z.sameKey (pk (o : Int) (g : Int))) cnt1 := ranges_set hrX (by omega) (by omega); have inv2 : InvV G C A (fun i => if i = g then val else V i) (fun z => left z && !z.sameKey (pk (o : Int) (g : Int))) := by
      have ng := hiv.nn g hgl; refine ⟨fun i hi => ?_, fun o' i ho' hi ha' hin' hl => ?_, fun i hi => ?_⟩
      ·by_cases e : i = g
       ·simp only [e, if_true]; omega
       ·simp only [e, if_false]; exact hiv.nn i hi
      ·rcases mono _ hl with h | h
       ·have := hiv.ge o' i ho' hi ha' hin' h
        by_cases e : i = g
        ·subst e; simp only [if_true]; omega
        ·simp only [e, if_false]; exact this
       ·have := pk_inj (wfn (by omega)) (wfn (by omega)) wo wg h
        have e1 : o' = o := by omega
        have e2 : i = g := by omega
        subst e1 e2; simp only [if_true]; omega
      ·by_cases e : i = g
       ·subst e
        simp only [if_true]; rcases vle.2.2 with h | h
        ·rcases hiv.is i hi with h' | ⟨o', ho', ha', h'⟩
         ·exact .inl (by omega)
         ·exact .inr ⟨o', ho', ha', by omega⟩
        ·exact .inr ⟨o, ho, ha, by omega⟩
       ·simp only [e, if_false]; exact hiv.is i hi
     have mL : cnt1 < cnt := hlt; clear hvs mono hiv hinv hown vle
     go_region
     go_wp2; go_roundw
     case rel => exact ⟨_, cnt1, _, hrF, ownF, inv2, BF, hbF⟩
     case measure => rw [World.ranges.left_eq hrF, hrg0'.left_eq]; omega
open Go.RowKit
structure Fd where
 c : Int
 s : Int
 a : Int
 b : Int
def Fd.cs (x : Fd) : List Value := [.int .i64 x.c, .int .i64 x.s, .int .i64 x.a, .int .i64 x.b]
theorem fd_len (x : Fd) : x.cs.length = 4 := rfl
def addF (F : List Fd) (x : Fd) : List Fd := if F.length < 64 then F ++ [x] else F
def addL (F : List Fd) (L : List Fd) : List Fd := L.foldl addF F
theorem addF_le {F : List Fd} (x : Fd) (h : F.length ≤ 64) : (addF F x).length ≤ 64 := by
 unfold addF; split
 ·simp; omega
 ·exact h
theorem addL_nil (F : List Fd) : addL F [] = F := rfl
theorem addL_cons (F : List Fd) (x : Fd) (L : List Fd) : addL F (x :: L) = addL (addF F x) L := rfl
theorem addL_one (F : List Fd) (x : Fd) : addL F [x] = addF F x := rfl
theorem addL_app (F L M : List Fd) : addL F (L ++ M) = addL (addL F L) M := List.foldl_append
theorem addF_full {F : List Fd} (x : Fd) (h : 64 ≤ F.length) : addF F x = F := by unfold addF; rw [if_neg (by omega)]
theorem addL_le : ∀ (L F : List Fd), F.length ≤ 64 → (addL F L).length ≤ 64
 | [], _, h => h
 | x :: L, F, h => by rw [addL_cons]; exact addL_le L _ (addF_le x h)
theorem info70 : (Tryz.prog.info? 70).map (fun i => (i.zero, i.size, i.bytes)) = some (some (.agg #[.int .i64 0, .int .i64 0, .int .i64 0, .int .i64 0]), 4, 32) := by kernel_rfl
structure RP (w : World) (rb : Nat) (Z : Array Value) (fa : Option Addr) (fc : Nat) (F : List Fd) (W : World) : Prop where
 hb : Below w.heap.size w W
 box : Has W rb (Z.push (.slice fa F.length fc))
 own : W.ownsRow w.heap.size 70 4 (.slice fa F.length fc) F.length (cellsF Fd.cs F)
 ge : w.heap.size ≤ rb
 ne : (Value.slice fa F.length fc).ownBlock ≠ some rb
 le : F.length ≤ 64
 zs : Z.size = 14
structure TellS (rb : Nat) (v v' : Value) (W W' : World) : Prop where
 only : Only (fun q => q = rb ∨ v.ownBlock = some q) W W'
 new : ∀ q, v'.ownBlock = some q → v.ownBlock = some q ∨ W.heap.size ≤ q
theorem RP.below {w W W' : World} {rb : Nat} {Z : Array Value} {fa : Option Addr} {fc : Nat} {F : List Fd} (h : RP w rb Z fa fc F W) (hb : Below W.heap.size W W') : RP w rb Z fa fc F W' :=
 ⟨bel_after h.hb h.hb.size hb, h.box.below hb, own_bel h.own hb, h.ge, h.ne, h.le, h.zs⟩
theorem TellS.refl (rb : Nat) (v : Value) {W W' : World} (hb : Below W.heap.size W W') : TellS rb v v W W' := ⟨Only.of_below hb, fun q h => .inl h⟩
theorem TellS.has {rb b : Nat} {v v' : Value} {W W' : World} {vs : Array Value} (h : TellS rb v v' W W') (q : Has W b vs) (h1 : b ≠ rb) (h2 : v.ownBlock ≠ some b) : Has W' b vs :=
 q.only h.only (by rintro (e | e); exact h1 e; exact h2 e)
theorem TellS.far {rb : Nat} {v v' : Value} {W W' : World} (h : TellS rb v v' W W') {P : Nat → Prop} (h1 : ∀ q, v.ownBlock = some q → P q) (h2 : ∀ q, W.heap.size ≤ q → P q) : ∀ q, v'.ownBlock = some q → P q :=
 fun q hq => (h.new q hq).elim (h1 q) (h2 q)
theorem RP.at14 {w W : World} {rb : Nat} {Z : Array Value} {fa : Option Addr} {fc : Nat} {F : List Fd} (h : RP w rb Z fa fc F W) : W.cell? ⟨rb, 14, none⟩ = some (.slice fa F.length fc) := by
 rw [h.box.2.1 14, ← h.zs, Array.getElem?_push_size]
theorem RP.atZ {w W : World} {rb : Nat} {Z : Array Value} {fa : Option Addr} {fc : Nat} {F : List Fd} (h : RP w rb Z fa fc F W) (i : Nat) (hi : i < 14) : W.cell? ⟨rb, i, none⟩ = Z[i]? := by
 rw [h.box.2.1 i, Array.getElem?_push_lt (by rw [h.zs]; exact hi), Array.getElem?_eq_getElem]
theorem tell_any (w W : World) (rb : Nat) (Z : Array Value) (fa : Option Addr) (fc : Nat) (F : List Fd) (c s a b : Int) (h : RP w rb Z fa fc F W) :
  Calls Tryz.prog 63 #[.pointer (some ⟨rb, 0, none⟩), .int .i64 c, .int .i64 s, .int .i64 a, .int .i64 b] W fun e W' => e = .returned (.tuple #[]) ∧ ∃ fa' fc', RP w rb Z fa' fc' (addF F ⟨c, s, a, b⟩) W' ∧ TellS rb (.slice fa F.length fc) (.slice fa' (addF F ⟨c, s, a, b⟩).length fc') W W' := by
 obtain ⟨ti, hi, hi0, hi1, hi2⟩ := info_parts info70
 have c14 := h.at14
 have f14 := h.box.2.2 14
 have l14 : rb < W.heap.size := h.box.1
 have hle := h.le
 have hne := h.ne
 have hzs := h.zs
 have hge := h.ge
 have hz := h.hb.size
 by_cases hl : F.length < 64
 ·have t1 : (F.length : Int) < 64 := by omega
  have eF : addF F ⟨c, s, a, b⟩ = F ++ [⟨c, s, a, b⟩] := by unfold addF; rw [if_pos hl]
  rw [eF]; have hb1 : Below W.heap.size W (W.alloc (.cells #[.int .i64 c, .int .i64 s, .int .i64 a, .int .i64 b] 70)) := bel1 _; have h1 := h.below hb1; go_enter Tryz.func63, Tryz.ntmps63
  go_wp2_with (at_builtin; (refine wpList_append_mine _ rfl _ _ 33 rfl w.heap.size 70 ti _ 4 32 Tryz.underlying33 hi hi0 hi1 hi2 rfl (by decide) (.slice fa F.length fc) F.length (cellsF Fd.cs F) rfl h1.own ⟨W.heap.size, 0, none⟩ 1 1 [.int .i64 c, .int .i64 s, .int .i64 a, .int .i64 b] rfl rfl (cells_at (W := W) rfl _ _) (all_one rfl) (by decide) (by unfold maxLen; omega) (by omega) (Nat.le_trans hz hb1.size) ?_); intro g7 k7 w7 o7 gr7 at7 _ hc7; have n7 : some rb ≠ (Value.slice fa F.length fc).ownBlock := fun e => hne e.symm; have B7 : Has w7 rb _ := h1.box.blk gr7.size (gr7.block _ h1.box.1 n7); have c7 : w7.cell? ⟨rb, 14, none⟩ = some (.slice fa F.length fc) := (by rw [B7.2.1 14, ← hzs, Array.getElem?_push_size]); have f7 := B7.2.2 14; have l7 := B7.1)
  have h7 : Below w.heap.size w w7 := grown_bel h1.hb gr7 (Nat.le_refl _) (fun q hq => (own_lt h1.own q hq).1); have B8 := B7.set 14 (by simp [hzs]) (.slice (some ⟨g7, 0, none⟩) (F.length + 1) k7); have hg7 : g7 ≠ rb := by
   rcases at7 with e | e
   ·intro e2; subst e2; exact n7 e.symm
   ·have := h1.box.1; omega
  go_end0
  refine ⟨rfl, some ⟨g7, 0, none⟩, k7, ⟨?_, ?_, ?_, hge, ?_, ?_, hzs⟩, ⟨?_, ?_⟩⟩
  ·exact h7.setCell (p := ⟨rb, 14, none⟩) hge _
  ·have e : (F ++ [(⟨c, s, a, b⟩ : Fd)]).length = F.length + 1 := by simp
   rw [e]; have e2 : (Z.push (.slice fa F.length fc)).setIfInBounds 14 (.slice (some ⟨g7, 0, none⟩) (F.length + 1) k7) = Z.push (.slice (some ⟨g7, 0, none⟩) (F.length + 1) k7) := by
    apply Array.ext_getElem?
    intro i; rw [Array.getElem?_setIfInBounds, ← hzs]
    by_cases hi : i < Z.size
    ·rw [if_neg (by omega), Array.getElem?_push_lt hi, Array.getElem?_push_lt hi]
    ·by_cases h2 : i = Z.size
     ·subst h2; simp
     ·rw [if_neg (by omega), Array.getElem?_eq_none (by simp; omega), Array.getElem?_eq_none (by simp; omega)]
   rw [e2] at B8; exact B8
  ·have e : (F ++ [(⟨c, s, a, b⟩ : Fd)]).length = F.length + 1 := by simp
   rw [e, show cellsF Fd.cs (F ++ [⟨c, s, a, b⟩]) = cellsF Fd.cs F ++ [.int .i64 c, .int .i64 s, .int .i64 a, .int .i64 b] from by rw [cellsF_append]; simp [cellsF, Fd.cs]]; refine ⟨o7.1, ?_⟩; rcases o7.2 with h0 | ⟨g, cap, cur, q1, q2, q3, q4⟩
   ·exact .inl h0
   ·refine .inr ⟨g, cap, cur, q1, q2, ?_, q4⟩
    have e3 : g = g7 := by injection q1 with q _ _; injection q with q; injection q with q; exact q.symm
    rw [Below.heap_setCell _ _ _ _ (by rw [e3]; exact hg7)]; exact q3
  ·intro e; injection e with e; exact hg7 e
  ·simp; omega
  ·refine (Only.of_below (S := _) hb1).trans ⟨gr7.os, gr7.tape, gr7.output, by simpa [World.setCell] using gr7.size, fun q hq hn => ?_⟩
   rw [Below.heap_setCell _ _ _ _ (fun e => hn (.inl e))]; exact gr7.block q hq (fun e => hn (.inr e.symm))
  ·intro q hq
   have e : g7 = q := by injection hq
   subst e; rcases at7 with e | e
   ·exact .inl e
   ·exact .inr (Nat.le_trans hb1.size e)
 ·have t1 : ¬ (F.length : Int) < 64 := by omega
  rw [addF_full _ (by omega)]; go_enter Tryz.func63, Tryz.ntmps63
  go_wp2_with fail
  go_end0
  exact ⟨rfl, fa, fc, h, TellS.refl _ _ (Below.refl _ _)⟩
end Go.Proofs.YtjfieclmagbfbaaGreatDoor
