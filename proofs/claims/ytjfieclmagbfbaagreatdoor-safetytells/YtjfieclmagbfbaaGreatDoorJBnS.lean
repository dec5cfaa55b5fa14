import Derived.Test.YtjfieclmagbfbaaGreatDoorCkD
import Derived.Laws.OwnMore
import Derived.OrdersHeld
import Derived.Laws.BitsAllLaws
set_option linter.unusedSimpArgs false
set_option linter.unusedVariables false
set_option maxRecDepth 100000
set_option maxHeartbeats 8000000
namespace Go.Proofs.YtjfieclmagbfbaaGreatDoor
open Go.RowKit
theorem info132 : (Tryz.prog.info? 132).map (fun i => (i.zero, i.size, i.bytes)) = some (some (.agg #[.int .i64 0, .int .i64 0]), 2, 16) := by kernel_rfl
theorem ranges_blk {w w' : World} {b r n cnt : Nat} {D : DataW Unit} {left : Lit → Bool} (h : w.ranges (H := Unit) Tryz.prog 132 (plainElem Tryz.prog 3) b r n D left cnt) (h1 : w'.heap[b]? = w.heap[b]?) (h2 : w'.heap[r]? = w.heap[r]?) : w'.ranges (H := Unit) Tryz.prog 132 (plainElem Tryz.prog 3) b r n D left cnt := by
 obtain ⟨es, clock, since, seen, c0, hb, F, hs, hD, hr, rest⟩ := h
 exact ⟨es, clock, since, seen, c0, h1.trans hb, F, hs, hD, h2.trans hr, rest⟩
structure InvQ (G : List Gp) (C : List Cf) (Q : List (Int × Int)) (left : Lit → Bool) : Prop where
 nd : Q.Nodup
 sh : ∀ p ∈ Q, shB G C p = true ∧ left (pk p.1 p.2) = false
 al : ∀ p, shB G C p = true → left (pk p.1 p.2) = false → p ∈ Q
theorem shL_len (G : List Gp) : ∀ C : List Cf, (shL G C).length ≤ 2 * C.length
 | [] => by simp [shL]
 | c :: C => by
   have := shL_len G C; have e : (shX G c).length ≤ 2 := by
    unfold shX; by_cases h1 : c.ab < amb G c.a <;> by_cases h2 : c.ba < amb G c.b <;> simp [h1, h2]
   show (shX G c ++ shL G C).length ≤ _; simp; omega
theorem InvQ.len {G : List Gp} {C : List Cf} {Q : List (Int × Int)} {left : Lit → Bool} (gr : gridB G C = true) (h : InvQ G C Q left) : Q.length ≤ 2 * C.length := by
 have hr : rowsB G.length none C = true := by simp [gridB] at gr; exact gr.2.2
 exact Nat.le_trans (List.Nodup.length_le_of_subset h.nd fun p hp => (shL_mem G C none p hr).2 (h.sh p hp).1) (shL_len G C)
theorem shB_bd {G : List Gp} {C : List Cf} (gr : gridB G C = true) (lG : G.length ≤ 2932031007317) {p : Int × Int} (h : shB G C p = true) : (Lit.int .i64 p.1).wf = true ∧ (Lit.int .i64 p.2).wf = true := by
 have hr : rowsB G.length none C = true := by simp [gridB] at gr; exact gr.2.2
 unfold shB at h
 rw [Bool.and_eq_true] at h
 obtain ⟨⟨a1, a2⟩, b1, b2⟩ := inter_range C none p.1 p.2 hr h.1
 obtain ⟨o, ho⟩ : ∃ o : Nat, p.1 = (o : Int) := ⟨p.1.toNat, by omega⟩
 obtain ⟨g, hg⟩ : ∃ g : Nat, p.2 = (g : Int) := ⟨p.2.toNat, by omega⟩
 rw [ho, hg]
 exact ⟨wfn (by omega), wfn (by omega)⟩
theorem shorts_any (G : List Gp) (C : List Cf) (ga : Option Addr) (gc mb : Nat) (w : World) (h1 : Fl 5 Gp.cs w (.slice ga G.length gc) G) (lG : G.length ≤ 2932031007317) (lC : C.length ≤ 4398046511000) (gr : gridB G C = true) (ok : ∀ (i : Nat) (h : i < C.length), C[i].ok)
  (hm : w.ownsMap (H := Unit) Tryz.prog 132 (plainElem Tryz.prog 3) mb (2 * C.length) (mD C C.length)) (hmb : mb < w.heap.size) :
  Calls Tryz.prog 64 #[.agg #[.slice ga G.length gc, .map (some mb)]] w fun e w' => ∃ xa xc, e = .returned (.slice xa (shL G C).length xc) ∧ Below w.heap.size w w' ∧ (shL G C = [] ∨ ∃ gs, xa = some ⟨gs, 0, none⟩ ∧ w.heap.size ≤ gs ∧ gs < w'.heap.size ∧ ∀ j u, (cellsF mvC (shL G C))[j]? = some u → w'.cell? ⟨gs, j, none⟩ = some u) := by
 obtain ⟨va, cg, e0, kG⟩ := h1.any
 injection e0 with e0 _ e2
 subst e0
 subst e2
 clear h1
 obtain ⟨ti, hi, hi0, hi1, hi2⟩ := info_parts info132
 have hm1 := hm.alloc (.cells #[.slice ga G.length gc, .map (some mb)] 79)
 have B0 : Has (w.alloc (.cells #[.slice ga G.length gc, .map (some mb)] 79)) w.heap.size #[.slice ga G.length gc, .map (some mb)] := Has.new _ _ _ rfl
 have hbW : Below w.heap.size w (w.alloc (.cells #[.slice ga G.length gc, .map (some mb)] 79)) := bel1 _
 have zW : (w.alloc (.cells #[.slice ga G.length gc, .map (some mb)] 79)).heap.size = w.heap.size + 1 := by simp
 obtain ⟨_, b0, _⟩ := id B0
 go_enter Tryz.func64, Tryz.ntmps64
 go_wp2_with (at_range; refine wpList_range_own _ rfl _ 77 rfl 132 3 lawP Tryz.underlying77 _ mb (2 * C.length) (mD C C.length) rfl hm1 ?_; intro w0 hrg0 hg1 hs0; have HB1 := grown_none hg1; have B1 := B0.below HB1; have hb1 := bel_after hbW hbW.size HB1)
 clear b0
 rw [zW] at hrg0
 generalize w.alloc (.cells #[.slice ga G.length gc, .map (some mb)] 79) = W0 at *
 go_loopw [3] (fun u wr => ∃ (left : Lit → Bool) (cnt : Nat) (Q : List (Int × Int)) (xa : Option Addr) (xc : Nat), u = .slice xa Q.length xc ∧ Hid (wr.ranges (H := Unit) Tryz.prog 132 (plainElem Tryz.prog 3) mb (w.heap.size + 1) (2 * C.length) (mD C C.length) left cnt) ∧ Hid (wr.ownsRow (w.heap.size + 2) 132 2 (.slice xa Q.length xc) Q.length (cellsF mvC Q)) ∧ Hid (InvQ G C Q left) ∧ Hid (Has wr w.heap.size #[.slice ga G.length gc, .map (some mb)]) ∧ Hid (Below w.heap.size w wr) ∧ Hid (w.heap.size + 2 ≤ wr.heap.size)) (fun _ wr => wr.rangeLeft mb (w.heap.size + 1))
 case atStart =>
  refine ⟨_, _, [], none, 0, rfl, hrg0, World.ownsRow_nil _ _ _ _, ⟨List.nodup_nil, fun p hp => (by cases hp), fun p hp hl => ?_⟩, B1, hb1, by show _ ≤ _; omega⟩; have wf := shB_bd gr lG hp; have := (mD_at gr ok p.1 p.2 wf.1 wf.2 .nil).2; unfold shB at hp; rw [Bool.and_eq_true] at hp; rw [hp.1] at this; rw [this] at hl
  cases hl
 case round =>
  clear hrg0 B1 hb1 B0 hm1 hbW HB1 hg1; obtain ⟨left, cnt, Q, xa, xc, rfl, hrg', hown', hinv', B', hb', hz'⟩ := hrel; have hz := hz'.out; clear hz'; have hrg := hrg'.out; have hown := hown'.out; have hinv := hinv'.out; have B := B'.out; have hb := hb'.out; clear hrg' hown' hinv' B' hb'; have hQl := hinv.len gr; have hbs := B.1; obtain ⟨_, b1, _⟩ := id B
  go_wp2_with (at_next; refine wpList_next_ranges _ rfl _ rfl 132 lawP (plainElem Tryz.prog 3) (fun p : Int × Int => .agg #[.int .i64 p.1, .int .i64 p.2]) (fun c : Int => .int .i64 c) pair_inv (fun v y hv => by obtain ⟨c, rfl, _⟩ := plainElem_int_inv Tryz.underlying3 hv; exact ⟨c, rfl⟩) mb (w.heap.size + 1) (2 * C.length) (mD C C.length) left cnt rfl hrg ?_ ?_)
  ·intro hc0 hl0
   have hall : ∀ p, p ∈ Q ↔ shB G C p = true := fun p => ⟨fun h => (hinv.sh p h).1, fun h => hinv.al p h (hl0 _)⟩
   cases hQ0 : Q with
   | nil =>
     have e := sh_uniq gr (R := []) (Q := Q) hinv.nd hall (by rw [hQ0]) List.Pairwise.nil; simp only [List.length_nil]; have kS := sortN_any (.func (.func 91) #[] #[]) xc xa wr
     go_wp2_with (go_at_call 90; (with_reducible refine Calls.mono kS ?_); rintro e w2 ⟨rfl, rfl⟩)
     go_ret; exact ⟨xa, xc, by rw [← e]; rfl, hb, .inl e.symm⟩
   | cons q0 Q0 =>
     have hn0 : 0 < Q.length := by rw [hQ0]; simp
     rw [← hQ0]; clear hQ0 q0 Q0; obtain ⟨g, cap, e1, hcap, hg0, hg1⟩ := own_block hown hn0; injection e1 with e1 _ e2
     subst e1; subst e2; have kS := sortP_any Q g xc wr (own_reads hown rfl) hown.frozenAt hg1 (by omega)
     go_wp2_with (go_at_call 90; (with_reducible refine Calls.mono kS ?_); rintro e w2 ⟨rfl, R, hR, hRs, hO, hRc⟩)
     have e := sh_uniq gr hinv.nd hall hR hRs; subst e; go_ret; refine ⟨some ⟨g, 0, none⟩, xc, by rw [hR.length_eq]; rfl, ?_, .inr ⟨g, rfl, by omega, Nat.lt_of_lt_of_le hg1 hO.size, hRc⟩⟩; exact ⟨hO.os.trans hb.os, hO.tape.trans hb.tape, hO.output.trans hb.output, Nat.le_trans hb.size hO.size, fun k hk => (hO.block k (Nat.lt_of_lt_of_le hk hb.size) (by omega)).trans (hb.block k hk)⟩
  ·intro xo xg c kl y1 y2 w1 cnt1 hkey hlk hv hat hrg1 hlt hg1 hs1 hen
   obtain ⟨⟨a', b'⟩, e1, wo, wg, rfl⟩ := pair_wf _ _ hkey; simp at e1; obtain ⟨rfl, rfl⟩ := e1; simp only at *; have hr : rowsB G.length none C = true := by simp [gridB] at gr; exact gr.2.2
   have m0 := (mD_at gr ok xo xg wo wg .nil).1; have m1 := (mD_at gr ok xo xg wo wg (.lit (.bool true))).1; rw [hat] at m0 m1; have hin : (interF C xo xg).2 = true := by
    cases hh : (interF C xo xg).2 with
    | true => rfl
    | false => rw [hh] at m0 m1; simp at m0 m1; rw [m0] at m1; cases m1
   rw [hin] at m0; simp at m0; obtain ⟨c', ec, ey, wc⟩ := plainElem_int_inv Tryz.underlying3 hv; have ecc : c = (interF C xo xg).1 := by
    injection ec with _ ec
    have : y1 = .lit (.int .i64 c') := by have := congrArg Prod.fst ey; simpa using this
    rw [m0] at this; injection this with this
    injection this with _ this
    omega
   obtain ⟨⟨ro1, ro2⟩, rg1, rg2⟩ := inter_range C none xo xg hr hin; obtain ⟨o, rfl⟩ : ∃ o : Nat, xo = (o : Int) := ⟨xo.toNat, by omega⟩; obtain ⟨g, rfl⟩ : ∃ g : Nat, xg = (g : Int) := ⟨xg.toNat, by omega⟩; have ho : o < G.length := by omega
   have hgl : g < G.length := by omega
   obtain ⟨gg, oo, rfl, hgg, P⟩ := kG.resolve_left (by intro e; rw [e] at ho; simp at ho); have O1 : Only (fun q => some (w.heap.size + 1) = some q) wr w1 := only_grown (Only.refl _ _) hg1 (fun q hq => .inl hq); have B1 := B.only O1 (fun e => by injection e with e; omega); have own1 := own_only2 hown O1 (fun q hq e => by have := (own_lt hown q hq).1; injection e with e; omega); have hb1 := bel_only hb O1 (Nat.le_refl _) (fun q hq e => by injection e with e; omega); have hamb : amb G (o : Int) = G[o].amber := by simp [amb, ho]
   have hsh : shB G C ((o : Int), (g : Int)) = decide (c < G[o].amber) := by
    unfold shB; simp only [hin, Bool.true_and, hamb, ← ecc]
   have hnq : ((o : Int), (g : Int)) ∉ Q := fun h => by have := (hinv.sh _ h).2; simp only at this; rw [hlk] at this; cases this
   have mono : ∀ z, (left z && !z.sameKey (pk (o : Int) (g : Int))) = false → left z = false ∨ z = pk (o : Int) (g : Int) := fun z h => by
    cases hl : left z with
    | false => exact .inl rfl
    | true => rw [hl] at h; simp at h; exact .inr (WideAt.sameKey_eq h)
   have selfK : (pk (o : Int) (g : Int)).sameKey (pk (o : Int) (g : Int)) = true := by simp [pk, Lit.sameKey]
   have p3 := (hb1.alloc hb1.size (.cells #[.int .i64 (o : Int), .int .i64 (g : Int)] 132)).cell (p := ⟨gg, oo + o * 5 + 3, none⟩) hgg |>.trans (P o ho 3 _ rfl)
   have hrA := hrg1.alloc (.cells #[.int .i64 (o : Int), .int .i64 (g : Int)] 132); have ownA := own_bel own1 (bel1 (.cells #[.int .i64 (o : Int), .int .i64 (g : Int)] 132)); have BA := B1.alloc (.cells #[.int .i64 (o : Int), .int .i64 (g : Int)] 132); have PA : Has (w1.alloc (.cells #[.int .i64 (o : Int), .int .i64 (g : Int)] 132)) w1.heap.size #[.int .i64 (o : Int), .int .i64 (g : Int)] := Has.new _ _ _ rfl; have hbA : Below w.heap.size w (w1.alloc (.cells #[.int .i64 (o : Int), .int .i64 (g : Int)] 132)) := hb1.alloc hb1.size _; have hzA : w.heap.size + 2 ≤ w1.heap.size := by omega
   clear hs1; have t2 : (o : Int) < (G.length : Int) := by omega
   have t4 : (0 : Int) ≤ (o : Int) := by omega
   clear hg1 m0 m1 ey ec hv hat hkey hr B hb ecc hamb hin P; generalize G[o].amber = am at *; obtain ⟨_, b2, _⟩ := id BA; obtain ⟨_, a2, _⟩ := id PA
   by_cases hc : c < am
   case neg =>
    have inv2 : InvQ G C Q (fun z => left z && !z.sameKey (pk (o : Int) (g : Int))) := by
     refine ⟨hinv.nd, fun p hp => ⟨(hinv.sh p hp).1, by simp [(hinv.sh p hp).2]⟩, fun p hp hl => ?_⟩; rcases mono _ hl with h | h
     ·exact hinv.al p hp h
     ·exfalso
      have wf := shB_bd gr lG hp; have := pk_inj wf.1 wf.2 wo wg h; have e : p = ((o : Int), (g : Int)) := Prod.ext this.1 this.2; rw [e, hsh, decide_eq_true_iff] at hp; exact hc hp
    go_wp2_with fail
    go_roundw
    case rel => exact ⟨_, cnt1, Q, xa, xc, rfl, hrA, ownA, inv2, BA, hbA, Nat.le_trans hzA (bel1 _).size⟩
    case measure => rw [hrA.left_eq, hrg.left_eq]; omega
   case pos =>
    have inv2 : InvQ G C (Q ++ [((o : Int), (g : Int))]) (fun z => left z && !z.sameKey (pk (o : Int) (g : Int))) := by
     refine ⟨?_, fun p hp => ?_, fun p hp hl => ?_⟩
     ·refine List.nodup_append.2 ⟨hinv.nd, by simp, fun x hx y hy e => ?_⟩
      simp at hy; subst e; rw [hy] at hx; exact hnq hx
     ·rcases List.mem_append.1 hp with h | h
      ·exact ⟨(hinv.sh p h).1, by simp [(hinv.sh p h).2]⟩
      ·simp at h
       subst h; exact ⟨by rw [hsh]; simpa using hc, by simp [selfK]⟩
     ·rcases mono _ hl with h | h
      ·exact List.mem_append.2 (.inl (hinv.al p hp h))
      ·have wf := shB_bd gr lG hp
       have := pk_inj wf.1 wf.2 wo wg h; have e : p = ((o : Int), (g : Int)) := Prod.ext this.1 this.2; rw [e]; simp
    go_wp2_with (at_builtin; (refine wpList_append_mine _ rfl _ _ 129 rfl (w.heap.size + 2) 132 ti _ 2 16 Tryz.underlying129 hi hi0 hi1 hi2 rfl (by decide) (.slice xa Q.length xc) Q.length (cellsF mvC Q) rfl (own_bel ownA (bel1 _)) ⟨w1.heap.size + 1, 0, none⟩ 1 1 [.int .i64 (o : Int), .int .i64 (g : Int)] rfl rfl (cells_at (W := w1.alloc (.cells #[.int .i64 (o : Int), .int .i64 (g : Int)] 132)) (by simp) _ _) (all_one rfl) (by decide) (by unfold maxLen; omega) (by omega) (Nat.le_trans hzA (Nat.le_trans (bel1 _).size (bel1 _).size)) ?_); intro g7 k7 w7 o7 gr7 at7 _ hc7)
    have eQ : cellsF mvC (Q ++ [((o : Int), (g : Int))]) = cellsF mvC Q ++ [.int .i64 (o : Int), .int .i64 (g : Int)] := mv_app Q _; rw [← eQ] at o7; have lQ : (Q ++ [((o : Int), (g : Int))]).length = Q.length + 1 := by simp
    rw [← lQ] at o7; have q7 : Below w.heap.size w w7 := grown_bel (hbA.alloc hbA.size _) gr7 (Nat.le_refl _) (fun q hq => by have := (own_lt ownA q hq).1; omega); have n7 : ∀ b, b < w.heap.size + 2 → some b ≠ (Value.slice xa Q.length xc).ownBlock := fun b hb2 e => by have := (own_lt ownA _ e.symm).1; omega
    have B7 := (BA.alloc (.cells #[.int .i64 (o : Int), .int .i64 (g : Int)] 132)).blk gr7.size (gr7.block _ (BA.alloc _).1 (n7 _ (by omega))); have r7 := ranges_blk (hrA.alloc (.cells #[.int .i64 (o : Int), .int .i64 (g : Int)] 132)) (gr7.block mb (Nat.lt_of_lt_of_le hmb (hbA.alloc hbA.size _).size) (n7 _ (by omega))) (gr7.block (w.heap.size + 1) (Nat.lt_of_lt_of_le (Nat.lt_of_succ_le hzA) (Nat.le_trans (bel1 _).size (bel1 _).size)) (n7 _ (by omega))); have z7 : w.heap.size + 2 ≤ w7.heap.size := Nat.le_trans hzA (Nat.le_trans (bel1 _).size (Nat.le_trans (bel1 _).size gr7.size)); go_roundw
    case rel => exact ⟨_, cnt1, Q ++ [((o : Int), (g : Int))], some ⟨g7, 0, none⟩, k7, by rw [lQ], r7, o7, inv2, B7, q7, z7⟩
    case measure => rw [r7.left_eq, hrg.left_eq]; omega
def LsR (L : List (Int × Int)) (xa : Option Addr) (rb : Nat) (v : Value) (W : World) : Prop := L = [] ∨ ∃ gs, xa = some ⟨gs, 0, none⟩ ∧ gs ≠ rb ∧ v.ownBlock ≠ some gs ∧ gs < W.heap.size ∧ ∀ j u, (cellsF mvC L)[j]? = some u → W.cell? ⟨gs, j, none⟩ = some u
theorem LsR.below {L : List (Int × Int)} {xa : Option Addr} {rb : Nat} {v : Value} {W W' : World} (h : LsR L xa rb v W) (hb : Below W.heap.size W W') : LsR L xa rb v W' := by
 rcases h with h | ⟨gs, h1, h2, h3, h4, h5⟩
 ·exact .inl h
 ·exact .inr ⟨gs, h1, h2, h3, Nat.lt_of_lt_of_le h4 hb.size, fun j u hu => (hb.cell (p := ⟨gs, j, none⟩) h4).trans (h5 j u hu)⟩
theorem LsR.tell {L : List (Int × Int)} {xa : Option Addr} {rb : Nat} {v v' : Value} {W W' : World} (h : LsR L xa rb v W) (k : TellS rb v v' W W') : LsR L xa rb v' W' := by
 rcases h with h | ⟨gs, h1, h2, h3, h4, h5⟩
 ·exact .inl h
 ·refine .inr ⟨gs, h1, h2, fun e => ?_, Nat.lt_of_lt_of_le h4 k.only.size, fun j u hu => ?_⟩
  ·rcases k.new gs e with e | e
   ·exact h3 e
   ·omega
  ·have e := k.only.block gs h4 (by rintro (e | e); exact h2 e; exact h3 e)
   have := h5 j u hu; unfold World.cell? at this ⊢; rw [e]; exact this
def igF : List (Int × Int) → List Fd
 | [] => []
 | p :: L => ⟨61, -1, p.1, p.2⟩ :: igF L
theorem igF_drop (L : List (Int × Int)) (k : Nat) (h : k < L.length) : igF (L.drop k) = ⟨61, -1, L[k].1, L[k].2⟩ :: igF (L.drop (k + 1)) := by
 rw [List.drop_eq_getElem_cons h]; rfl
theorem igF_end (L : List (Int × Int)) (k : Nat) (h : L.length ≤ k) : igF (L.drop k) = [] := by
 rw [List.drop_eq_nil_of_le h]; rfl
theorem intergreens_any (G : List Gp) (C : List Cf) (D : List Dt) (TM CT : List ByteArray) (VR : List Vr) (SG : List Ts) (pn : ByteArray) (ga ca da ta ka va sa wa : Option Addr) (gc cc dc tc kc vc sc mb ra rc qa qc wc : Nat) (stt : Int) (fa : Option Addr) (fc : Nat) (F : List Fd) (w W : World) (rb : Nat) (h : RP w rb #[.string pn, .slice ga G.length gc, .slice ca C.length cc, .slice da D.length dc, .slice ta TM.length tc, .slice ka CT.length kc, .slice va VR.length vc, .slice sa SG.length sc, .int .i64 stt, .slice ga G.length gc, .map (some mb), .slice (some ⟨ra, 0, none⟩) SG.length rc, .slice (some ⟨qa, 0, none⟩) SG.length qc, .slice wa G.length wc] fa fc F W) (hG : Fl 5 Gp.cs w (.slice ga G.length gc) G) (lG : G.length ≤ 2932031007317) (lC : C.length ≤ 4398046511000) (gr : gridB G C = true) (ok : ∀ (i : Nat) (h : i < C.length), C[i].ok)
  (hm : w.ownsMap (H := Unit) Tryz.prog 132 (plainElem Tryz.prog 3) mb (2 * C.length) (mD C C.length)) :
  Calls Tryz.prog 23 #[.pointer (some ⟨rb, 0, none⟩)] W fun e W' => e = .returned (.tuple #[]) ∧ ∃ fa' fc', RP w rb #[.string pn, .slice ga G.length gc, .slice ca C.length cc, .slice da D.length dc, .slice ta TM.length tc, .slice ka CT.length kc, .slice va VR.length vc, .slice sa SG.length sc, .int .i64 stt, .slice ga G.length gc, .map (some mb), .slice (some ⟨ra, 0, none⟩) SG.length rc, .slice (some ⟨qa, 0, none⟩) SG.length qc, .slice wa G.length wc] fa' fc' (addL F (igF (shL G C))) W' := by
 have c9 : W.cell? ⟨rb, 9, none⟩ = some (.slice ga G.length gc) := h.atZ 9 (by decide)
 have c10 : W.cell? ⟨rb, 10, none⟩ = some (.map (some mb)) := h.atZ 10 (by decide)
 have k64 := shorts_any G C ga gc mb W (hG.below h.hb) lG lC gr ok (ownsMap_bel hm (h.hb.mono (Nat.le_refl _))) (Nat.lt_of_lt_of_le hm.lt h.hb.size)
 have lS := shL_len G C
 generalize shL G C = L at *
 generalize hA : addL F (igF L) = A
 clear hG gr ok hm
 go_enter Tryz.func23, Tryz.ntmps23
 go_wp2_with (go_at_call 64; (with_reducible refine Calls.mono k64 ?_); rintro e w3 ⟨xa, xc, rfl, h3, hL3⟩)
 have hr3 := h.below h3
 have hls : LsR L xa rb (.slice fa F.length fc) w3 := hL3.imp id (fun ⟨gs, q1, q2, q3, q4⟩ => ⟨gs, q1, by have := h.box.1; omega, fun e => by have := (own_lt h.own gs e).2; omega, q3, q4⟩)
 clear h k64 c9 c10 h3 hL3
 go_loopw [11] (fun u wr => ∃ (k : Nat) (fa0 : Option Addr) (fc0 : Nat) (F0 : List Fd), k ≤ L.length ∧ u = .int .i64 (k : Int) ∧ Hid (addL F0 (igF (L.drop k)) = A) ∧ Hid (RP w rb #[.string pn, .slice ga G.length gc, .slice ca C.length cc, .slice da D.length dc, .slice ta TM.length tc, .slice ka CT.length kc, .slice va VR.length vc, .slice sa SG.length sc, .int .i64 stt, .slice ga G.length gc, .map (some mb), .slice (some ⟨ra, 0, none⟩) SG.length rc, .slice (some ⟨qa, 0, none⟩) SG.length qc, .slice wa G.length wc] fa0 fc0 F0 wr) ∧ Hid (LsR L xa rb (.slice fa0 F0.length fc0) wr)) (fun u _ => L.length - (intOf u).toNat)
 case atStart => exact ⟨0, fa, fc, F, by omega, rfl, hA, hr3, hls⟩
 case round =>
  clear hA hr3 hls; obtain ⟨k, fa0, fc0, F0, hk, rfl, hq', hr', hl'⟩ := hrel; have hq := hq'.out; have hr0 := hr'.out; have hl0 := hl'.out; clear hq' hr' hl'
  by_cases hlt : k < L.length
  case neg =>
   have t1 : ¬ (k : Int) < (L.length : Int) := by omega
   rw [igF_end _ _ (by omega), addL_nil] at hq; subst hq
   go_wp2_with fail
   go_end0
   exact ⟨rfl, fa0, fc0, hr0⟩
  case pos =>
   have t1 : (k : Int) < (L.length : Int) := by omega
   have t0 : (0 : Int) ≤ (k : Int) := by omega
   have t2 : k + 1 ≤ L.length := hlt; obtain ⟨gs, exa, _, _, hgs, hcs⟩ := id (hl0.resolve_left (by intro e; rw [e] at hlt; simp at hlt)); subst exa; have p0 := hcs (k * 2 + 0) _ ((cellsF_get mvC_len L k 0 hlt (by decide)).trans rfl); have p1 := hcs (k * 2 + 1) _ ((cellsF_get mvC_len L k 1 hlt (by decide)).trans rfl); simp only [Nat.add_zero] at p0; rw [igF_drop L k hlt, addL_cons] at hq; generalize L[k].1 = x1 at *; generalize L[k].2 = x2 at *; clear hcs; have hr1 := hr0.below (bel1 (.cells #[.int .i64 x1, .int .i64 x2] 132)); have hl1 := hl0.below (bel1 (.cells #[.int .i64 x1, .int .i64 x2] 132)); have P1 : Has (wr.alloc (.cells #[.int .i64 x1, .int .i64 x2] 132)) wr.heap.size #[.int .i64 x1, .int .i64 x2] := Has.new _ _ _ rfl; obtain ⟨_, b1, _⟩ := id P1
   go_wp2_with (go_at_call 63; (with_reducible refine Calls.mono (tell_any w _ rb _ _ _ F0 61 (-1) x1 x2 hr1) ?_); rintro e w2 ⟨rfl, fa2, fc2, hr2, ts2⟩)
   have hl2 := hl1.tell ts2; go_roundw
   case rel => exact ⟨k + 1, fa2, fc2, _, by omega, by go_num, hq, hr2, hl2⟩
   case measure => simp [intOf]; omega
def chF (G : List Gp) (C : List Cf) (R : List Bool) (SG : List Ts) (st : Int) : List Fd :=
 addL (addL (addL (addL (addL (addL [] (lnF 0 G)) (igF (shL G C))) (scF C 0 SG)) (trF R 0 SG)) (neF (usK R 0 SG 0) 0 G)) (slF (ckL G.length C SG) (lpA G C SG) (mvsL R SG st))
def ChP (ok : Bool) (G : List Gp) (C : List Cf) (SG : List Ts) (stt : Int) (w : World) (e : Ending) (w' : World) : Prop :=
 if ok then ∃ (R : List Bool) (fa : Option Addr) (fc : Nat), RI (waysL SG).length stt.toNat (goN (waysL SG)) R [] ∧ e = .returned (.tuple #[.slice fa (chF G C R SG stt).length fc, .int .i64 0]) ∧ w'.ownsRow w.heap.size 70 4 (.slice fa (chF G C R SG stt).length fc) (chF G C R SG stt).length (cellsF Fd.cs (chF G C R SG stt)) ∧ Below w.heap.size w w'
 else e = .returned (.tuple #[.slice none 0 0, .int .i64 80]) ∧ Below w.heap.size w w'
theorem grid_sort {G : List Gp} {C : List Cf} (h : gridB G C = true) : ∀ g ∈ G, 1 ≤ g.sort ∧ g.sort ≤ 2 := by
 intro g hg
 simp [gridB] at h
 have := h.2.1 g hg
 simp [gpB] at this
 omega
theorem check_any (G : List Gp) (C : List Cf) (D : List Dt) (TM CT : List ByteArray) (VR : List Vr) (SG : List Ts) (pn : ByteArray) (ga ca da ta ka va sa : Option Addr) (gc cc dc tc kc vc sc : Nat) (stt : Int) (w : World) (h : TPl w G C D TM CT VR SG pn ga ca da ta ka va sa gc cc dc tc kc vc sc stt) (hW : Wt w) (nt : Ndt w) (ok : ∀ (i : Nat) (h : i < C.length), C[i].ok) (hgr : ∀ s ∈ SG, 0 ≤ s.green ∧ s.green < 18446744073709551616) :
  Calls Tryz.prog 8 #[(.agg #[.string pn, .slice ga G.length gc, .slice ca C.length cc, .slice da D.length dc, .slice ta TM.length tc, .slice ka CT.length kc, .slice va VR.length vc, .slice sa SG.length sc, .int .i64 stt])] w fun e w' => ChP (sdB G C D TM CT VR SG pn stt) G C SG stt w e w' := by
 have hb0 : Below w.heap.size w (w.alloc (.cells #[.string pn, .slice ga G.length gc, .slice ca C.length cc, .slice da D.length dc, .slice ta TM.length tc, .slice ka CT.length kc, .slice va VR.length vc, .slice sa SG.length sc, .int .i64 stt] 31)) := bel1 _
 have K0 : Has (w.alloc (.cells #[.string pn, .slice ga G.length gc, .slice ca C.length cc, .slice da D.length dc, .slice ta TM.length tc, .slice ka CT.length kc, .slice va VR.length vc, .slice sa SG.length sc, .int .i64 stt] 31)) w.heap.size #[.string pn, .slice ga G.length gc, .slice ca C.length cc, .slice da D.length dc, .slice ta TM.length tc, .slice ka CT.length kc, .slice va VR.length vc, .slice sa SG.length sc, .int .i64 stt] := Has.new _ _ _ rfl
 have k7 := sound_any G C D TM CT VR SG pn ga ca da ta ka va sa gc cc dc tc kc vc sc stt (w.alloc (.cells #[.string pn, .slice ga G.length gc, .slice ca C.length cc, .slice da D.length dc, .slice ta TM.length tc, .slice ka CT.length kc, .slice va VR.length vc, .slice sa SG.length sc, .int .i64 stt] 31)) (h.below hb0) (hW.be hb0)
 have hw2 := @sd_ways G C D TM CT VR SG pn stt
 have hw3 := @sd_more G C D TM CT VR SG pn stt
 have hGG := h.hG
 have hFF := h.hF
 have hSS := h.hS
 have lG := h.lG
 have lC := h.lF
 clear h
 generalize sdB G C D TM CT VR SG pn stt = B at *
 obtain ⟨_, v1, v2⟩ := id K0
 go_enter Tryz.func8, Tryz.ntmps8
 go_wp2_with fail
 go_at_call 20
 refine Calls.mono k7 ?_
 rintro e w1 ⟨rfl, h1⟩
 have hb1 := bel_after hb0 hb0.size h1
 have K1 := K0.below h1
 clear v1 v2 k7
 obtain ⟨_, v1, v2⟩ := id K1
 cases B with
 | false =>
   clear hw2 hw3 hSS
   go_wp2_with fail
   go_ret2
   exact ⟨rfl, hb1⟩
 | true =>
   obtain ⟨l1, l2, l3, l4⟩ := hw2 rfl; obtain ⟨gr, lcg⟩ := hw3 rfl; obtain ⟨st, rfl⟩ : ∃ st : Nat, stt = (st : Int) := ⟨stt.toNat, by omega⟩; have hst : st < SG.length := by omega
   have k21 := planOf_any G C D TM CT VR SG pn ga ca da ta ka va sa gc cc dc tc kc vc sc st w1 (hGG.below hb1) (hFF.below hb1) (Tss.below hSS hb1) lG lC ok gr l1 l2 hst hgr; clear hw2 hw3 K0 hb0
   go_wp2_with fail
   go_at_call 21; refine Calls.mono k21 ?_; rintro e w2 ⟨mb, ra, qa, wc, wa, R, rfl, hRI, hBR, hBQ, hWs, hOm, h2⟩; have hb2 := bel_after hb1 hb1.size h2; have nt2 : Ndt w2 := nt.be hb2; have hG2 := hGG.below hb2; have hF2 := hFF.below hb2; have hS2 := Tss.below hSS hb2; have P3 : Has (w2.alloc (.cells #[.string pn, .slice ga G.length gc, .slice ca C.length cc, .slice da D.length dc, .slice ta TM.length tc, .slice ka CT.length kc, .slice va VR.length vc, .slice sa SG.length sc, .int .i64 (st : Int), .slice ga G.length gc, .map (some mb), .slice (some ⟨ra, 0, none⟩) SG.length SG.length, .slice (some ⟨qa, 0, none⟩) SG.length SG.length, .slice wa G.length wc, .slice none 0 0] 85)) w2.heap.size #[.string pn, .slice ga G.length gc, .slice ca C.length cc, .slice da D.length dc, .slice ta TM.length tc, .slice ka CT.length kc, .slice va VR.length vc, .slice sa SG.length sc, .int .i64 (st : Int), .slice ga G.length gc, .map (some mb), .slice (some ⟨ra, 0, none⟩) SG.length SG.length, .slice (some ⟨qa, 0, none⟩) SG.length SG.length, .slice wa G.length wc, .slice none 0 0] := Has.new _ _ _ rfl; have hr3 : RP w2 w2.heap.size #[.string pn, .slice ga G.length gc, .slice ca C.length cc, .slice da D.length dc, .slice ta TM.length tc, .slice ka CT.length kc, .slice va VR.length vc, .slice sa SG.length sc, .int .i64 (st : Int), .slice ga G.length gc, .map (some mb), .slice (some ⟨ra, 0, none⟩) SG.length SG.length, .slice (some ⟨qa, 0, none⟩) SG.length SG.length, .slice wa G.length wc] none 0 [] (w2.alloc (.cells #[.string pn, .slice ga G.length gc, .slice ca C.length cc, .slice da D.length dc, .slice ta TM.length tc, .slice ka CT.length kc, .slice va VR.length vc, .slice sa SG.length sc, .int .i64 (st : Int), .slice ga G.length gc, .map (some mb), .slice (some ⟨ra, 0, none⟩) SG.length SG.length, .slice (some ⟨qa, 0, none⟩) SG.length SG.length, .slice wa G.length wc, .slice none 0 0] 85)) := ⟨bel1 _, P3, World.ownsRow_nil _ _ _ _, Nat.le_refl _, (by intro e; cases e), by simp, rfl⟩; clear k21 v1 v2 K1 P3
   go_wp2_with (first | (go_at_call 22; (with_reducible refine Calls.mono (lengths_any G C D TM CT VR SG pn ga ca da ta ka va sa wa gc cc dc tc kc vc sc mb ra SG.length qa SG.length wc (st : Int) _ _ _ w2 _ w2.heap.size hr3 hG2 lG (grid_sort gr) nt2) ?_); rintro e w4 ⟨rfl, fa4, fc4, hr4⟩; have c4 := hr4.at14) | (go_at_call 23; (with_reducible refine Calls.mono (intergreens_any G C D TM CT VR SG pn ga ca da ta ka va sa wa gc cc dc tc kc vc sc mb ra SG.length qa SG.length wc (st : Int) _ _ _ w2 _ w2.heap.size hr4 hG2 lG lC gr ok hOm) ?_); rintro e w5 ⟨rfl, fa5, fc5, hr5⟩; have c5 := hr5.at14) | (go_at_call 24; (with_reducible refine Calls.mono (stageClashes_any G C D TM CT VR SG pn ga ca da ta ka va sa wa gc cc dc tc kc vc sc mb ra SG.length qa SG.length wc (st : Int) _ _ _ w2 _ w2.heap.size hr5 hS2 hF2 l1 lC ok hgr) ?_); rintro e w6 ⟨rfl, fa6, fc6, hr6⟩; have c6 := hr6.at14) | (go_at_call 25; (with_reducible refine Calls.mono (traps_any G C D TM CT VR SG pn ga ca da ta ka va sa wa gc cc dc tc kc vc sc mb ra SG.length qa SG.length wc (st : Int) R _ _ _ w2 _ w2.heap.size hr6 hS2 hBR l1) ?_); rintro e w7 ⟨rfl, fa7, fc7, hr7⟩; have c7 := hr7.at14) | (go_at_call 26; (with_reducible refine Calls.mono (unused_any G C D TM CT VR SG pn ga ca da ta ka va sa wa gc cc dc tc kc vc sc mb ra SG.length qa SG.length wc (st : Int) R _ _ _ w2 _ w2.heap.size hr7 hS2 hBR l1 hgr lG) ?_); rintro e w8 ⟨rfl, fa8, fc8, hr8⟩; have c8 := hr8.at14) | (go_at_call 27; (with_reducible refine Calls.mono (slowness_any G C D TM CT VR SG pn ga ca da ta ka va sa wa gc cc dc tc kc vc sc mb ra SG.length qa SG.length wc st R _ _ _ w2 _ w2.heap.size hr8 hS2 hG2 hBR hBQ l1 lcg lG gr l2 hst hgr hWs) ?_); rintro e w9 ⟨rfl, fa9, fc9, hr9⟩; have c9 := hr9.at14))
   go_ret2
   refine ⟨R, fa9, fc9, by rw [Int.toNat_natCast]; exact hRI, rfl, own_mono hr9.own hb2.size, hb2.trans (hr9.hb.mono hb2.size)⟩
end Go.Proofs.YtjfieclmagbfbaaGreatDoor
