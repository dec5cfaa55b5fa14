import Derived.Test.YtjfieclmagbfbaaGreatDoorCkD
import Derived.Laws.OwnMore
set_option linter.unusedSimpArgs false
set_option linter.unusedVariables false
set_option maxRecDepth 100000
set_option maxHeartbeats 8000000
namespace Go.Proofs.YtjfieclmagbfbaaGreatDoor
open Go.RowKit
theorem info132 : (Tryz.prog.info? 132).map (fun i => (i.zero, i.size, i.bytes)) = some (some (.agg #[.int .i64 0, .int .i64 0]), 2, 16) := by kernel_rfl
theorem ranges_blk {w w' : World} {b r n cnt : Nat} {D : DataW Unit} {left : Lit → Bool} (h : w.ranges (H := Unit) Tryz.prog 132 (plainElem Tryz.prog 3) b r n D left cnt) (h1 : w'.heap[b]? = w.heap[b]?) (h2 : w'.heap[r]? = w.heap[r]?) : w'.ranges (H := Unit) Tryz.prog 132 (plainElem Tryz.prog 3) b r n D left cnt := by
 obtain ⟨es, clock, since, seen, c0, hb, F, hs, hD, hr, rest⟩ := h
 exact ⟨es, clock, since, seen, c0, h1.trans hb, F, hs, hD, h2.trans hr, rest⟩
structure InvQ (G : List Gp) (C : List Cf) (Q : List (Int × Int)) (left : Lit → Bool) : Prop where
 nd : Q.Nodup
 sh : ∀ p ∈ Q, shB G C p = true ∧ left (pk p.1 p.2) = false
 al : ∀ p, shB G C p = true → left (pk p.1 p.2) = false → p ∈ Q
theorem shL_len (G : List Gp) : ∀ C : List Cf, (shL G C).length ≤ 2 * C.length
 | [] => by simp [shL]
 | c :: C => by
   have := shL_len G C; have e : (shX G c).length ≤ 2 := by
    unfold shX; by_cases h1 : c.ab < amb G c.a <;> by_cases h2 : c.ba < amb G c.b <;> simp [h1, h2]
   show (shX G c ++ shL G C).length ≤ _; simp; omega
theorem InvQ.len {G : List Gp} {C : List Cf} {Q : List (Int × Int)} {left : Lit → Bool} (gr : zBg G C = true) (h : InvQ G C Q left) : Q.length ≤ 2 * C.length := by
 have hr : zBv G.length none C = true := by simp [zBg] at gr; exact gr.2.2
 exact Nat.le_trans (List.Nodup.length_le_of_subset h.nd fun p hp => (shL_mem G C none p hr).2 (h.sh p hp).1) (shL_len G C)
theorem shB_bd {G : List Gp} {C : List Cf} (gr : zBg G C = true) (lG : G.length ≤ 2932031007317) {p : Int × Int} (h : shB G C p = true) : (Lit.int .i64 p.1).wf = true ∧ (Lit.int .i64 p.2).wf = true := by
 have hr : zBv G.length none C = true := by simp [zBg] at gr; exact gr.2.2
 unfold shB at h
 rw [Bool.and_eq_true] at h
 obtain ⟨⟨a1, a2⟩, b1, b2⟩ := zEf C none p.1 p.2 hr h.1
 obtain ⟨o, ho⟩ : ∃ o : Nat, p.1 = (o : Int) := ⟨p.1.toNat, by omega⟩
 obtain ⟨g, hg⟩ : ∃ g : Nat, p.2 = (g : Int) := ⟨p.2.toNat, by omega⟩
 rw [ho, hg]
 exact ⟨wfn (by omega), wfn (by omega)⟩
theorem shorts_any (G : List Gp) (C : List Cf) (ga : Option Addr) (gc mb : Nat) (w : World) (h1 : Fl 5 Gp.cs w (.slice ga G.length gc) G) (lG : G.length ≤ 2932031007317) (lC : C.length ≤ 4398046511000) (gr : zBg G C = true) (ok : ∀ (i : Nat) (h : i < C.length), C[i].ok)
  (hm : w.ownsMap (H := Unit) Tryz.prog 132 (plainElem Tryz.prog 3) mb (2 * C.length) (mD C C.length)) (hmb : mb < w.heap.size) :
  Calls Tryz.prog 64 #[.agg #[.slice ga G.length gc, .map (some mb)]] w fun e w' => ∃ xa xc, e = .returned (.slice xa (shL G C).length xc) ∧ Below w.heap.size w w' ∧ (shL G C = [] ∨ ∃ gs, xa = some ⟨gs, 0, none⟩ ∧ w.heap.size ≤ gs ∧ gs < w'.heap.size ∧ ∀ j u, (zAc mvC (shL G C))[j]? = some u → w'.cell? ⟨gs, j, none⟩ = some u) := by
 obtain ⟨va, cg, e0, kG⟩ := h1.any
 injection e0 with e0 _ e2
 subst e0
 subst e2
 clear h1
 obtain ⟨ti, hi, hi0, hi1, hi2⟩ := info_parts info132
 have hm1 := hm.alloc (.cells #[.slice ga G.length gc, .map (some mb)] 79)
 have B0 : Has (w.alloc (.cells #[.slice ga G.length gc, .map (some mb)] 79)) w.heap.size #[.slice ga G.length gc, .map (some mb)] := Has.new _ _ _ rfl
 have hbW : Below w.heap.size w (w.alloc (.cells #[.slice ga G.length gc, .map (some mb)] 79)) := bel1 _
 have zW : (w.alloc (.cells #[.slice ga G.length gc, .map (some mb)] 79)).heap.size = w.heap.size + 1 := by simp
 obtain ⟨_, b0, _⟩ := id B0
 go_enter Tryz.func64, Tryz.ntmps64
 go_wp2_with (at_range; refine wpList_range_own _ rfl _ 77 rfl 132 3 lawP Tryz.underlying77 _ mb (2 * C.length) (mD C C.length) rfl hm1 ?_; intro w0 hrg0 hg1 hs0; have HB1 := zCw hg1; have B1 := B0.below HB1; have hb1 := zAa hbW hbW.size HB1)
 clear b0
 rw [zW] at hrg0
 generalize w.alloc (.cells #[.slice ga G.length gc, .map (some mb)] 79) = W0 at *
 go_loopw [3] (fun u wr => ∃ (left : Lit → Bool) (cnt : Nat) (Q : List (Int × Int)) (xa : Option Addr) (xc : Nat), u = .slice xa Q.length xc ∧ Hid (wr.ranges (H := Unit) Tryz.prog 132 (plainElem Tryz.prog 3) mb (w.heap.size + 1) (2 * C.length) (mD C C.length) left cnt) ∧ Hid (wr.ownsRow (w.heap.size + 2) 132 2 (.slice xa Q.length xc) Q.length (zAc mvC Q)) ∧ Hid (InvQ G C Q left) ∧ Hid (Has wr w.heap.size #[.slice ga G.length gc, .map (some mb)]) ∧ Hid (Below w.heap.size w wr) ∧ Hid (w.heap.size + 2 ≤ wr.heap.size)) (fun _ wr => wr.rangeLeft mb (w.heap.size + 1))
 case atStart =>
  refine ⟨_, _, [], none, 0, rfl, hrg0, World.ownsRow_nil _ _ _ _, ⟨List.nodup_nil, fun p hp => (by cases hp), fun p hp hl => ?_⟩, B1, hb1, by show _ ≤ _; omega⟩; have wf := shB_bd gr lG hp; have := (mD_at gr ok p.1 p.2 wf.1 wf.2 .nil).2; unfold shB at hp; rw [Bool.and_eq_true] at hp; rw [hp.1] at this; rw [this] at hl
  cases hl
 case round =>
  clear hrg0 B1 hb1 B0 hm1 hbW HB1 hg1; obtain ⟨left, cnt, Q, xa, xc, rfl, hrg', hown', hinv', B', hb', hz'⟩ := hrel; have hz := hz'.out; clear hz'; have hrg := hrg'.out; have hown := hown'.out; have hinv := hinv'.out; have B := B'.out; have hb := hb'.out; clear hrg' hown' hinv' B' hb'; have hQl := hinv.len gr; have hbs := B.1; obtain ⟨_, b1, _⟩ := id B
  go_wp2_with (at_next; refine wpList_next_ranges _ rfl _ rfl 132 lawP (plainElem Tryz.prog 3) (fun p : Int × Int => .agg #[.int .i64 p.1, .int .i64 p.2]) (fun c : Int => .int .i64 c) pair_inv (fun v y hv => by obtain ⟨c, rfl, _⟩ := plainElem_int_inv Tryz.underlying3 hv; exact ⟨c, rfl⟩) mb (w.heap.size + 1) (2 * C.length) (mD C C.length) left cnt rfl hrg ?_ ?_)
  ·intro hc0 hl0
   have hall : ∀ p, p ∈ Q ↔ shB G C p = true := fun p => ⟨fun h => (hinv.sh p h).1, fun h => hinv.al p h (hl0 _)⟩
   cases hQ0 : Q with
   | nil =>
     have e := sh_uniq gr (R := []) (Q := Q) hinv.nd hall (by rw [hQ0]) List.Pairwise.nil; simp only [List.length_nil]; have kS := sortN_any (.func (.func 91) #[] #[]) xc xa wr
     go_wp2_with (go_at_call 90; (with_reducible refine Calls.mono kS ?_); rintro e w2 ⟨rfl, rfl⟩)
     go_ret; exact ⟨xa, xc, by rw [← e]; rfl, hb, .inl e.symm⟩
   | cons q0 Q0 =>
     have hn0 : 0 < Q.length := by rw [hQ0]; simp
     rw [← hQ0]; clear hQ0 q0 Q0; obtain ⟨g, cap, e1, hcap, hg0, hg1⟩ := zBb hown hn0; injection e1 with e1 _ e2
     subst e1; subst e2; have kS := sortP_any Q g xc wr (zCd hown rfl) hown.frozenAt hg1 (by omega)
     go_wp2_with (go_at_call 90; (with_reducible refine Calls.mono kS ?_); rintro e w2 ⟨rfl, R, hR, hRs, hO, hRc⟩)
     have e := sh_uniq gr hinv.nd hall hR hRs; subst e; go_ret; refine ⟨some ⟨g, 0, none⟩, xc, by rw [hR.length_eq]; rfl, ?_, .inr ⟨g, rfl, by omega, Nat.lt_of_lt_of_le hg1 hO.size, hRc⟩⟩; exact ⟨hO.os.trans hb.os, hO.tape.trans hb.tape, hO.output.trans hb.output, Nat.le_trans hb.size hO.size, fun k hk => (hO.block k (Nat.lt_of_lt_of_le hk hb.size) (by omega)).trans (hb.block k hk)⟩
  ·intro xo xg c kl y1 y2 w1 cnt1 hkey hlk hv hat hrg1 hlt hg1 hs1 hen
   obtain ⟨⟨a', b'⟩, e1, wo, wg, rfl⟩ := pair_wf _ _ hkey; simp at e1; obtain ⟨rfl, rfl⟩ := e1; simp only at *; have hr : zBv G.length none C = true := by simp [zBg] at gr; exact gr.2.2
   have m0 := (mD_at gr ok xo xg wo wg .nil).1; have m1 := (mD_at gr ok xo xg wo wg (.lit (.bool true))).1; rw [hat] at m0 m1; have hin : (zAu C xo xg).2 = true := by
    cases hh : (zAu C xo xg).2 with
    | true => rfl
    | false => rw [hh] at m0 m1; simp at m0 m1; rw [m0] at m1; cases m1
   rw [hin] at m0; simp at m0; obtain ⟨c', ec, ey, wc⟩ := plainElem_int_inv Tryz.underlying3 hv; have ecc : c = (zAu C xo xg).1 := by
    injection ec with _ ec
    have : y1 = .lit (.int .i64 c') := by have := congrArg Prod.fst ey; simpa using this
    rw [m0] at this; injection this with this
    injection this with _ this
    omega
   obtain ⟨⟨ro1, ro2⟩, rg1, rg2⟩ := zEf C none xo xg hr hin; obtain ⟨o, rfl⟩ : ∃ o : Nat, xo = (o : Int) := ⟨xo.toNat, by omega⟩; obtain ⟨g, rfl⟩ : ∃ g : Nat, xg = (g : Int) := ⟨xg.toNat, by omega⟩; have ho : o < G.length := by omega
   have hgl : g < G.length := by omega
   obtain ⟨gg, oo, rfl, hgg, P⟩ := kG.resolve_left (by intro e; rw [e] at ho; simp at ho); have O1 : Only (fun q => some (w.heap.size + 1) = some q) wr w1 := zDf (Only.refl _ _) hg1 (fun q hq => .inl hq); have B1 := B.only O1 (fun e => by injection e with e; omega); have own1 := zBf hown O1 (fun q hq e => by have := (zAg hown q hq).1; injection e with e; omega); have hb1 := zBy hb O1 (Nat.le_refl _) (fun q hq e => by injection e with e; omega); have hamb : amb G (o : Int) = G[o].amber := by simp [amb, ho]
   have hsh : shB G C ((o : Int), (g : Int)) = decide (c < G[o].amber) := by
    unfold shB; simp only [hin, Bool.true_and, hamb, ← ecc]
   have hnq : ((o : Int), (g : Int)) ∉ Q := fun h => by have := (hinv.sh _ h).2; simp only at this; rw [hlk] at this; cases this
   have mono : ∀ z, (left z && !z.sameKey (pk (o : Int) (g : Int))) = false → left z = false ∨ z = pk (o : Int) (g : Int) := fun z h => by
    cases hl : left z with
    | false => exact .inl rfl
    | true => rw [hl] at h; simp at h; exact .inr (WideAt.sameKey_eq h)
   have selfK : (pk (o : Int) (g : Int)).sameKey (pk (o : Int) (g : Int)) = true := by simp [pk, Lit.sameKey]
   have p3 := (hb1.alloc hb1.size (.cells #[.int .i64 (o : Int), .int .i64 (g : Int)] 132)).cell (p := ⟨gg, oo + o * 5 + 3, none⟩) hgg |>.trans (P o ho 3 _ rfl)
   have hrA := hrg1.alloc (.cells #[.int .i64 (o : Int), .int .i64 (g : Int)] 132); have ownA := zAe own1 (bel1 (.cells #[.int .i64 (o : Int), .int .i64 (g : Int)] 132)); have BA := B1.alloc (.cells #[.int .i64 (o : Int), .int .i64 (g : Int)] 132); have PA : Has (w1.alloc (.cells #[.int .i64 (o : Int), .int .i64 (g : Int)] 132)) w1.heap.size #[.int .i64 (o : Int), .int .i64 (g : Int)] := Has.new _ _ _ rfl; have hbA : Below w.heap.size w (w1.alloc (.cells #[.int .i64 (o : Int), .int .i64 (g : Int)] 132)) := hb1.alloc hb1.size _; have hzA : w.heap.size + 2 ≤ w1.heap.size := by omega
   clear hs1; have t2 : (o : Int) < (G.length : Int) := by omega
   have t4 : (0 : Int) ≤ (o : Int) := by omega
   clear hg1 m0 m1 ey ec hv hat hkey hr B hb ecc hamb hin P; generalize G[o].amber = am at *; obtain ⟨_, b2, _⟩ := id BA; obtain ⟨_, a2, _⟩ := id PA
   by_cases hc : c < am
   case neg =>
    have inv2 : InvQ G C Q (fun z => left z && !z.sameKey (pk (o : Int) (g : Int))) := by
     refine ⟨hinv.nd, fun p hp => ⟨(hinv.sh p hp).1, by simp [(hinv.sh p hp).2]⟩, fun p hp hl => ?_⟩; rcases mono _ hl with h | h
     ·exact hinv.al p hp h
     ·exfalso
      have wf := shB_bd gr lG hp; have := pk_inj wf.1 wf.2 wo wg h; have e : p = ((o : Int), (g : Int)) := Prod.ext this.1 this.2; rw [e, hsh, decide_eq_true_iff] at hp; exact hc hp
    go_wp2_with fail
    go_roundw
    case rel => exact ⟨_, cnt1, Q, xa, xc, rfl, hrA, ownA, inv2, BA, hbA, Nat.le_trans hzA (bel1 _).size⟩
    case measure => rw [hrA.left_eq, hrg.left_eq]; omega
   case pos =>
    have inv2 : InvQ G C (Q ++ [((o : Int), (g : Int))]) (fun z => left z && !z.sameKey (pk (o : Int) (g : Int))) := by
     refine ⟨?_, fun p hp => ?_, fun p hp hl => ?_⟩
     ·refine List.nodup_append.2 ⟨hinv.nd, by simp, fun x hx y hy e => ?_⟩
      simp at hy; subst e; rw [hy] at hx; exact hnq hx
     ·rcases List.mem_append.1 hp with h | h
      ·exact ⟨(hinv.sh p h).1, by simp [(hinv.sh p h).2]⟩
      ·simp at h
       subst h; exact ⟨by rw [hsh]; simpa using hc, by simp [selfK]⟩
     ·rcases mono _ hl with h | h
      ·exact List.mem_append.2 (.inl (hinv.al p hp h))
      ·have wf := shB_bd gr lG hp
       have := pk_inj wf.1 wf.2 wo wg h; have e : p = ((o : Int), (g : Int)) := Prod.ext this.1 this.2; rw [e]; simp
    go_wp2_with (at_builtin; (refine zAd _ rfl _ _ 129 rfl (w.heap.size + 2) 132 ti _ 2 16 Tryz.underlying129 hi hi0 hi1 hi2 rfl (by decide) (.slice xa Q.length xc) Q.length (zAc mvC Q) rfl (zAe ownA (bel1 _)) ⟨w1.heap.size + 1, 0, none⟩ 1 1 [.int .i64 (o : Int), .int .i64 (g : Int)] rfl rfl (zBa (W := w1.alloc (.cells #[.int .i64 (o : Int), .int .i64 (g : Int)] 132)) (by simp) _ _) (zAz rfl) (by decide) (by unfold maxLen; omega) (by omega) (Nat.le_trans hzA (Nat.le_trans (bel1 _).size (bel1 _).size)) ?_); intro g7 k7 w7 o7 gr7 at7 _ hc7)
    have eQ : zAc mvC (Q ++ [((o : Int), (g : Int))]) = zAc mvC Q ++ [.int .i64 (o : Int), .int .i64 (g : Int)] := mv_app Q _; rw [← eQ] at o7; have lQ : (Q ++ [((o : Int), (g : Int))]).length = Q.length + 1 := by simp
    rw [← lQ] at o7; have q7 : Below w.heap.size w w7 := zAn (hbA.alloc hbA.size _) gr7 (Nat.le_refl _) (fun q hq => by have := (zAg ownA q hq).1; omega); have n7 : ∀ b, b < w.heap.size + 2 → some b ≠ (Value.slice xa Q.length xc).ownBlock := fun b hb2 e => by have := (zAg ownA _ e.symm).1; omega
    have B7 := (BA.alloc (.cells #[.int .i64 (o : Int), .int .i64 (g : Int)] 132)).blk gr7.size (gr7.block _ (BA.alloc _).1 (n7 _ (by omega))); have r7 := ranges_blk (hrA.alloc (.cells #[.int .i64 (o : Int), .int .i64 (g : Int)] 132)) (gr7.block mb (Nat.lt_of_lt_of_le hmb (hbA.alloc hbA.size _).size) (n7 _ (by omega))) (gr7.block (w.heap.size + 1) (Nat.lt_of_lt_of_le (Nat.lt_of_succ_le hzA) (Nat.le_trans (bel1 _).size (bel1 _).size)) (n7 _ (by omega))); have z7 : w.heap.size + 2 ≤ w7.heap.size := Nat.le_trans hzA (Nat.le_trans (bel1 _).size (Nat.le_trans (bel1 _).size gr7.size)); go_roundw
    case rel => exact ⟨_, cnt1, Q ++ [((o : Int), (g : Int))], some ⟨g7, 0, none⟩, k7, by rw [lQ], r7, o7, inv2, B7, q7, z7⟩
    case measure => rw [r7.left_eq, hrg.left_eq]; omega
def LsR (L : List (Int × Int)) (xa : Option Addr) (rb : Nat) (v : Value) (W : World) : Prop := L = [] ∨ ∃ gs, xa = some ⟨gs, 0, none⟩ ∧ gs ≠ rb ∧ v.ownBlock ≠ some gs ∧ gs < W.heap.size ∧ ∀ j u, (zAc mvC L)[j]? = some u → W.cell? ⟨gs, j, none⟩ = some u
theorem LsR.below {L : List (Int × Int)} {xa : Option Addr} {rb : Nat} {v : Value} {W W' : World} (h : LsR L xa rb v W) (hb : Below W.heap.size W W') : LsR L xa rb v W' := by
 rcases h with h | ⟨gs, h1, h2, h3, h4, h5⟩
 ·exact .inl h
 ·exact .inr ⟨gs, h1, h2, h3, Nat.lt_of_lt_of_le h4 hb.size, fun j u hu => (hb.cell (p := ⟨gs, j, none⟩) h4).trans (h5 j u hu)⟩
theorem LsR.tell {L : List (Int × Int)} {xa : Option Addr} {rb : Nat} {v v' : Value} {W W' : World} (h : LsR L xa rb v W) (k : TellS rb v v' W W') : LsR L xa rb v' W' := by
 rcases h with h | ⟨gs, h1, h2, h3, h4, h5⟩
 ·exact .inl h
 ·refine .inr ⟨gs, h1, h2, fun e => ?_, Nat.lt_of_lt_of_le h4 k.only.size, fun j u hu => ?_⟩
  ·rcases k.new gs e with e | e
   ·exact h3 e
   ·omega
  ·have e := k.only.block gs h4 (by rintro (e | e); exact h2 e; exact h3 e)
   have := h5 j u hu; unfold World.cell? at this ⊢; rw [e]; exact this
def igF : List (Int × Int) → List Fd
 | [] => []
 | p :: L => ⟨61, -1, p.1, p.2⟩ :: igF L
theorem igF_drop (L : List (Int × Int)) (k : Nat) (h : k < L.length) : igF (L.drop k) = ⟨61, -1, L[k].1, L[k].2⟩ :: igF (L.drop (k + 1)) := by
 rw [List.drop_eq_getElem_cons h]; rfl
theorem igF_end (L : List (Int × Int)) (k : Nat) (h : L.length ≤ k) : igF (L.drop k) = [] := by
 rw [List.drop_eq_nil_of_le h]; rfl
theorem intergreens_any (G : List Gp) (C : List Cf) (D : List Dt) (TM CT : List ByteArray) (VR : List Vr) (SG : List Ts) (pn : ByteArray) (ga ca da ta ka va sa wa : Option Addr) (gc cc dc tc kc vc sc mb ra rc qa qc wc : Nat) (stt : Int) (fa : Option Addr) (fc : Nat) (F : List Fd) (w W : World) (rb : Nat) (h : RP w rb #[.string pn, .slice ga G.length gc, .slice ca C.length cc, .slice da D.length dc, .slice ta TM.length tc, .slice ka CT.length kc, .slice va VR.length vc, .slice sa SG.length sc, .int .i64 stt, .slice ga G.length gc, .map (some mb), .slice (some ⟨ra, 0, none⟩) SG.length rc, .slice (some ⟨qa, 0, none⟩) SG.length qc, .slice wa G.length wc] fa fc F W) (hG : Fl 5 Gp.cs w (.slice ga G.length gc) G) (lG : G.length ≤ 2932031007317) (lC : C.length ≤ 4398046511000) (gr : zBg G C = true) (ok : ∀ (i : Nat) (h : i < C.length), C[i].ok)
  (hm : w.ownsMap (H := Unit) Tryz.prog 132 (plainElem Tryz.prog 3) mb (2 * C.length) (mD C C.length)) :
  Calls Tryz.prog 23 #[.pointer (some ⟨rb, 0, none⟩)] W fun e W' => e = .returned (.tuple #[]) ∧ ∃ fa' fc', RP w rb #[.string pn, .slice ga G.length gc, .slice ca C.length cc, .slice da D.length dc, .slice ta TM.length tc, .slice ka CT.length kc, .slice va VR.length vc, .slice sa SG.length sc, .int .i64 stt, .slice ga G.length gc, .map (some mb), .slice (some ⟨ra, 0, none⟩) SG.length rc, .slice (some ⟨qa, 0, none⟩) SG.length qc, .slice wa G.length wc] fa' fc' (addL F (igF (shL G C))) W' := by
 have c9 : W.cell? ⟨rb, 9, none⟩ = some (.slice ga G.length gc) := h.atZ 9 (by decide)
 have c10 : W.cell? ⟨rb, 10, none⟩ = some (.map (some mb)) := h.atZ 10 (by decide)
 have k64 := shorts_any G C ga gc mb W (hG.below h.hb) lG lC gr ok (zEb hm (h.hb.mono (Nat.le_refl _))) (Nat.lt_of_lt_of_le hm.lt h.hb.size)
 have lS := shL_len G C
 generalize shL G C = L at *
 generalize hA : addL F (igF L) = A
 clear hG gr ok hm
 go_enter Tryz.func23, Tryz.ntmps23
 go_wp2_with (go_at_call 64; (with_reducible refine Calls.mono k64 ?_); rintro e w3 ⟨xa, xc, rfl, h3, hL3⟩)
 have hr3 := h.below h3
 have hls : LsR L xa rb (.slice fa F.length fc) w3 := hL3.imp id (fun ⟨gs, q1, q2, q3, q4⟩ => ⟨gs, q1, by have := h.box.1; omega, fun e => by have := (zAg h.own gs e).2; omega, q3, q4⟩)
 clear h k64 c9 c10 h3 hL3
 go_loopw [11] (fun u wr => ∃ (k : Nat) (fa0 : Option Addr) (fc0 : Nat) (F0 : List Fd), k ≤ L.length ∧ u = .int .i64 (k : Int) ∧ Hid (addL F0 (igF (L.drop k)) = A) ∧ Hid (RP w rb #[.string pn, .slice ga G.length gc, .slice ca C.length cc, .slice da D.length dc, .slice ta TM.length tc, .slice ka CT.length kc, .slice va VR.length vc, .slice sa SG.length sc, .int .i64 stt, .slice ga G.length gc, .map (some mb), .slice (some ⟨ra, 0, none⟩) SG.length rc, .slice (some ⟨qa, 0, none⟩) SG.length qc, .slice wa G.length wc] fa0 fc0 F0 wr) ∧ Hid (LsR L xa rb (.slice fa0 F0.length fc0) wr)) (fun u _ => L.length - (intOf u).toNat)
 case atStart => exact ⟨0, fa, fc, F, by omega, rfl, hA, hr3, hls⟩
 case round =>
  clear hA hr3 hls; obtain ⟨k, fa0, fc0, F0, hk, rfl, hq', hr', hl'⟩ := hrel; have hq := hq'.out; have hr0 := hr'.out; have hl0 := hl'.out; clear hq' hr' hl'
  by_cases hlt : k < L.length
  case neg =>
   have t1 : ¬ (k : Int) < (L.length : Int) := by omega
   rw [igF_end _ _ (by omega), zAf] at hq; subst hq
   go_wp2_with fail
   go_end0
   exact ⟨rfl, fa0, fc0, hr0⟩
  case pos =>
   have t1 : (k : Int) < (L.length : Int) := by omega
   have t0 : (0 : Int) ≤ (k : Int) := by omega
   have t2 : k + 1 ≤ L.length := hlt; obtain ⟨gs, exa, _, _, hgs, hcs⟩ := id (hl0.resolve_left (by intro e; rw [e] at hlt; simp at hlt)); subst exa; have p0 := hcs (k * 2 + 0) _ ((zBn zGd L k 0 hlt (by decide)).trans rfl); have p1 := hcs (k * 2 + 1) _ ((zBn zGd L k 1 hlt (by decide)).trans rfl); simp only [Nat.add_zero] at p0; rw [igF_drop L k hlt, zDm] at hq; generalize L[k].1 = x1 at *; generalize L[k].2 = x2 at *; clear hcs; have hr1 := hr0.below (bel1 (.cells #[.int .i64 x1, .int .i64 x2] 132)); have hl1 := hl0.below (bel1 (.cells #[.int .i64 x1, .int .i64 x2] 132)); have P1 : Has (wr.alloc (.cells #[.int .i64 x1, .int .i64 x2] 132)) wr.heap.size #[.int .i64 x1, .int .i64 x2] := Has.new _ _ _ rfl; obtain ⟨_, b1, _⟩ := id P1
   go_wp2_with (go_at_call 63; (with_reducible refine Calls.mono (zBp w _ rb _ _ _ F0 61 (-1) x1 x2 hr1) ?_); rintro e w2 ⟨rfl, fa2, fc2, hr2, ts2⟩)
   have hl2 := hl1.tell ts2; go_roundw
   case rel => exact ⟨k + 1, fa2, fc2, _, by omega, by go_num, hq, hr2, hl2⟩
   case measure => simp [intOf]; omega
end Go.Proofs.YtjfieclmagbfbaaGreatDoor
