import Derived.Test.YthjdflcakngpiaaDoorFmI
import Derived.Test.YthjdflcakngpiaaDoorFmJ
import Derived.Test.YthjdflcakngpiaaDoorFmK
import Derived.Test.YthjdflcakngpiaaDoorFmL
import Derived.Test.YthjdflcakngpiaaDoorFmN
import Derived.Test.YthjdflcakngpiaaDoorFmO
namespace Go.Proofs.YthjdflcakngpiaaDoor
open Go.RowKit
set_option linter.unusedVariables false

def RgD (x : Dc) : Prop := -2147483648 ≤ x.n0 ∧ -2147483648 ≤ x.n1 ∧ -2147483648 ≤ x.n2
theorem and_perm (w s n c g : Bool) : (w && (s && (n && (c && g)))) = (n && (s && (w && (c && g)))) := by cases w <;> cases s <;> cases n <;> rfl
theorem len_beq (n : Nat) : ((n : Int) == 0) = decide (n = 0) := by
  cases n with
  | zero => rfl
  | succ n => simp; omega
set_option maxRecDepth 100000 in
set_option maxHeartbeats 4000000 in
theorem rd_name (kd l0 c0 : Int) (nm wi : ByteArray) (so n0 n1 n2 : Int) (xa ga ea da la na : Option Addr) (xe xc gn gc en ec dn dc ln lc nn nc : Nat) (w : World) (k0 : ∀ X : World, Below w.heap.size w X → Calls Tryd.prog 20 #[.string nm] X fun e w' => e = .returned (.bool false) ∧ Below X.heap.size X w') :
    Calls Tryd.prog 21 #[.agg #[.int .i64 kd, .int .i64 l0, .int .i64 c0, .string nm, .string wi, .int .i64 so, .int .i32 n0, .int .i32 n1, .int .i32 n2, .slice xa xe xc, .slice ga gn gc, .slice ea en ec, .slice da dn dc, .slice la ln lc, .slice na nn nc]] w fun e w' => e = .returned (.bool false) ∧ Below w.heap.size w w' := by
  have hb0 : Below w.heap.size w (w.alloc (.cells #[.int .i64 kd, .int .i64 l0, .int .i64 c0, .string nm, .string wi, .int .i64 so, .int .i32 n0, .int .i32 n1, .int .i32 n2, .slice xa xe xc, .slice ga gn gc, .slice ea en ec, .slice da dn dc, .slice la ln lc, .slice na nn nc] 53)) := bel1 _
  have K0 : Has (w.alloc (.cells #[.int .i64 kd, .int .i64 l0, .int .i64 c0, .string nm, .string wi, .int .i64 so, .int .i32 n0, .int .i32 n1, .int .i32 n2, .slice xa xe xc, .slice ga gn gc, .slice ea en ec, .slice da dn dc, .slice la ln lc, .slice na nn nc] 53)) w.heap.size #[.int .i64 kd, .int .i64 l0, .int .i64 c0, .string nm, .string wi, .int .i64 so, .int .i32 n0, .int .i32 n1, .int .i32 n2, .slice xa xe xc, .slice ga gn gc, .slice ea en ec, .slice da dn dc, .slice la ln lc, .slice na nn nc] := Has.new _ _ _ rfl
  go_enter Tryd.func21, Tryd.ntmps21
  go_wp2_with (go_at_call 20; (with_reducible refine Calls.mono (k0 _ (by exact hb0)) ?_); rintro e w1 ⟨rfl, h1⟩; have hb1 := bel_after hb0 hb0.size h1; have K1 := K0.below h1; obtain ⟨_, c1, _⟩ := id K1)
  go_ret
  exact ⟨rfl, hb1⟩
set_option maxRecDepth 100000 in
set_option maxHeartbeats 4000000 in
theorem rd_other (kd l0 c0 : Int) (nm wi : ByteArray) (so n0 n1 n2 : Int) (xa ga ea da la na : Option Addr) (xe xc gn gc en ec dn dc ln lc nn nc : Nat) (w : World) (g8 : Bool) (k0 : ∀ X : World, Below w.heap.size w X → Calls Tryd.prog 20 #[.string nm] X fun e w' => e = .returned (.bool true) ∧ Below X.heap.size X w') (k1 : ∀ X : World, Below w.heap.size w X → Calls Tryd.prog 36 #[.agg #[.slice ga gn gc, .slice ea en ec, .slice da dn dc, .slice la ln lc, .slice na nn nc]] X fun e w' => e = .returned (.bool g8) ∧ Below X.heap.size X w') (E1 : (kd == 1) = false) (E2 : (kd == 2) = false) (E3 : (kd == 3) = false) (E4 : (kd == 4) = false) (E5 : (kd == 5) = false) (E6 : (kd == 6) = false) (E7 : (kd == 7) = false) (E8 : (kd == 8) = false) (E9 : (kd == 9) = false) (E10 : (kd == 10) = false) :
    Calls Tryd.prog 21 #[.agg #[.int .i64 kd, .int .i64 l0, .int .i64 c0, .string nm, .string wi, .int .i64 so, .int .i32 n0, .int .i32 n1, .int .i32 n2, .slice xa xe xc, .slice ga gn gc, .slice ea en ec, .slice da dn dc, .slice la ln lc, .slice na nn nc]] w fun e w' => e = .returned (.bool false) ∧ Below w.heap.size w w' := by
  have hb0 : Below w.heap.size w (w.alloc (.cells #[.int .i64 kd, .int .i64 l0, .int .i64 c0, .string nm, .string wi, .int .i64 so, .int .i32 n0, .int .i32 n1, .int .i32 n2, .slice xa xe xc, .slice ga gn gc, .slice ea en ec, .slice da dn dc, .slice la ln lc, .slice na nn nc] 53)) := bel1 _
  have K0 : Has (w.alloc (.cells #[.int .i64 kd, .int .i64 l0, .int .i64 c0, .string nm, .string wi, .int .i64 so, .int .i32 n0, .int .i32 n1, .int .i32 n2, .slice xa xe xc, .slice ga gn gc, .slice ea en ec, .slice da dn dc, .slice la ln lc, .slice na nn nc] 53)) w.heap.size #[.int .i64 kd, .int .i64 l0, .int .i64 c0, .string nm, .string wi, .int .i64 so, .int .i32 n0, .int .i32 n1, .int .i32 n2, .slice xa xe xc, .slice ga gn gc, .slice ea en ec, .slice da dn dc, .slice la ln lc, .slice na nn nc] := Has.new _ _ _ rfl
  go_enter Tryd.func21, Tryd.ntmps21
  go_wp2_with (first | (go_at_call 20; (with_reducible refine Calls.mono (k0 _ (by exact hb0)) ?_); rintro e w1 ⟨rfl, h1⟩; have hb1 := bel_after hb0 hb0.size h1; have K1 := K0.below h1; obtain ⟨_, c1, _⟩ := id K1) | (go_at_call 36; (with_reducible refine Calls.mono (k1 _ (by exact hb1)) ?_); rintro e w2 ⟨rfl, h2⟩; have hb2 := bel_after hb1 hb1.size h2; have K2 := K1.below h2; obtain ⟨_, c2, _⟩ := id K2))
  go_ret
  exact ⟨rfl, hb2⟩
set_option maxRecDepth 100000 in
set_option maxHeartbeats 4000000 in
theorem refDecl_any (x : Dc) (v : Value) (s : SgV) (S : Nat → Prop) (w : World) (hE : Exs S w v x.expr) (hG : SgR S w s x.sg) (hs : SmD x) (hr : RgD x) (t : Tb w) :
    Calls Tryd.prog 21 #[.agg (x.cs v s).toArray] w fun e w' => e = .returned (.bool (fDc x)) ∧ Below w.heap.size w w' := by
  obtain ⟨kd, l0, c0, nm, wi, so, n0, n1, n2, xe, x⟩ := x
  obtain ⟨vg, ve, vd, vl, vn⟩ := s
  obtain ⟨s1, s2, s3, s4⟩ := hs
  obtain ⟨i0, i1, i2⟩ := hr
  simp only at hE hG s1 s2 s3 s4 i0 i1 i2
  have k0 := fun (X : World) (hX : Below w.heap.size w X) => refName_any nm X s1 (t.below hX)
  have kw := fun (X : World) (hX : Below w.heap.size w X) => refName_any wi X s2 (t.below hX)
  have kx := fun (X : World) (hX : Below w.heap.size w X) => refExpr_any xe v X (hE.nds.1.below hX) (by obtain ⟨_, _, _, q, _⟩ := Rows.any hE; exact q) s3 (t.below hX)
  have k1 := fun (X : World) (hX : Below w.heap.size w X) => refEmpty_any vg ve vd vl vn X x S (hG.below hX) s4 (t.below hX)
  have kg := fun (X : World) (hX : Below w.heap.size w X) => refStage_any vg ve vd vl vn X x S (hG.below hX) s4 (t.below hX)
  obtain ⟨hg, he, hd, hl, hn⟩ := hG
  obtain ⟨xa, xc, rfl, -, -⟩ := Rows.any hE
  obtain ⟨ga, gc, rfl, -, -⟩ := Rows.any hg
  obtain ⟨ea, ec, rfl, -, -⟩ := Rows.any he
  obtain ⟨da, dc, rfl, -, -⟩ := Rows.any hd
  obtain ⟨la, lc, rfl, -, -⟩ := Rows.any hl
  obtain ⟨na, nc, rfl, -, -⟩ := Rows.any hn
  clear hE hg he hd hl hn s1 s2 s3 s4
  rw [fDc_eq]
  unfold Dc.cs
  simp only
  cases hnm : nmB nm with
  | false =>
    rw [hnm] at k0
    rw [Bool.false_and, Bool.and_false]
    exact rd_name kd l0 c0 nm wi so n0 n1 n2 xa ga ea da la na _ xc _ gc _ ec _ dc _ lc _ nc w k0
  | true =>
  rw [hnm] at k0
  rw [Bool.true_and]
  by_cases q1 : kd = 1
  case pos =>
    subst q1
    rw [decide_eq_true (show (1 : Int) ≤ 1 by decide), decide_eq_true (show (1 : Int) ≤ 10 by decide), Bool.and_self, Bool.true_and, and_perm, if_neg (show ¬ (1 : Int) = 8 by decide), if_neg (show ¬ (1 : Int) = 9 by decide)]
    exact rd1 l0 c0 nm wi so n0 n1 n2 xa ga ea da la na _ xc _ gc _ ec _ dc _ lc _ nc w (soF 1 so) (wiF 1 wi) _ _ rfl rfl (len_beq _) k0 k1 i0 i1 i2
  by_cases q7 : kd = 7
  case pos =>
    subst q7
    rw [decide_eq_true (show (1 : Int) ≤ 7 by decide), decide_eq_true (show (7 : Int) ≤ 10 by decide), Bool.and_self, Bool.true_and, and_perm, if_neg (show ¬ (7 : Int) = 8 by decide), if_neg (show ¬ (7 : Int) = 9 by decide)]
    exact rd7 l0 c0 nm wi so n0 n1 n2 xa ga ea da la na _ xc _ gc _ ec _ dc _ lc _ nc w (soF 7 so) (wiF 7 wi) _ _ rfl rfl (len_beq _) k0 k1 i0 i1 i2
  by_cases q5 : kd = 5
  case pos =>
    subst q5
    rw [decide_eq_true (show (1 : Int) ≤ 5 by decide), decide_eq_true (show (5 : Int) ≤ 10 by decide), Bool.and_self, Bool.true_and, and_perm, if_neg (show ¬ (5 : Int) = 8 by decide), if_neg (show ¬ (5 : Int) = 9 by decide)]
    exact rd5 l0 c0 nm wi so n0 n1 n2 xa ga ea da la na _ xc _ gc _ ec _ dc _ lc _ nc w (soF 5 so) (wiF 5 wi) _ _ rfl rfl (len_beq _) k0 k1
  by_cases q6 : kd = 6
  case pos =>
    subst q6
    rw [decide_eq_true (show (1 : Int) ≤ 6 by decide), decide_eq_true (show (6 : Int) ≤ 10 by decide), Bool.and_self, Bool.true_and, and_perm, if_neg (show ¬ (6 : Int) = 8 by decide), if_neg (show ¬ (6 : Int) = 9 by decide)]
    exact rd6 l0 c0 nm wi so n0 n1 n2 xa ga ea da la na _ xc _ gc _ ec _ dc _ lc _ nc w (soF 6 so) (wiF 6 wi) _ _ rfl rfl (len_beq _) k0 k1
  by_cases q10 : kd = 10
  case pos =>
    subst q10
    rw [decide_eq_true (show (1 : Int) ≤ 10 by decide), decide_eq_true (show (10 : Int) ≤ 10 by decide), Bool.and_self, Bool.true_and, and_perm, if_neg (show ¬ (10 : Int) = 8 by decide), if_neg (show ¬ (10 : Int) = 9 by decide)]
    exact rd10 l0 c0 nm wi so n0 n1 n2 xa ga ea da la na _ xc _ gc _ ec _ dc _ lc _ nc w (soF 10 so) (wiF 10 wi) _ _ rfl rfl (len_beq _) k0 k1
  by_cases q2 : kd = 2
  case pos =>
    subst q2
    rw [decide_eq_true (show (1 : Int) ≤ 2 by decide), decide_eq_true (show (2 : Int) ≤ 10 by decide), Bool.and_self, Bool.true_and, and_perm, if_neg (show ¬ (2 : Int) = 8 by decide), if_neg (show ¬ (2 : Int) = 9 by decide)]
    by_cases a0 : so = 1
    · subst a0
      exact rd2a l0 c0 nm wi n0 n1 n2 xa ga ea da la na _ xc _ gc _ ec _ dc _ lc _ nc w (wiF 2 wi) _ _ rfl (len_beq _) k0 k1
    · by_cases b0 : so = 2
      · subst b0
        exact rd2b l0 c0 nm wi n0 n1 n2 xa ga ea da la na _ xc _ gc _ ec _ dc _ lc _ nc w (wiF 2 wi) _ _ rfl (len_beq _) k0 k1
      · have f1 : (so == 1) = false := by simpa using a0
        have f2 : (so == 2) = false := by simpa using b0
        have e : soF 2 so = false := by unfold soF; simp [a0, b0]
        rw [e]
        exact rd2c l0 c0 nm wi so n0 n1 n2 xa ga ea da la na _ xc _ gc _ ec _ dc _ lc _ nc w (wiF 2 wi) _ _ f1 f2 rfl (len_beq _) k0 k1
  by_cases q4 : kd = 4
  case pos =>
    subst q4
    rw [decide_eq_true (show (1 : Int) ≤ 4 by decide), decide_eq_true (show (4 : Int) ≤ 10 by decide), Bool.and_self, Bool.true_and, and_perm, if_neg (show ¬ (4 : Int) = 8 by decide), if_neg (show ¬ (4 : Int) = 9 by decide)]
    by_cases a0 : so = 0
    · subst a0
      exact rd4a l0 c0 nm wi n0 n1 n2 xa ga ea da la na _ xc _ gc _ ec _ dc _ lc _ nc w (wiF 4 wi) _ _ rfl (len_beq _) k0 k1
    · by_cases b0 : so = 1
      · subst b0
        exact rd4b l0 c0 nm wi n0 n1 n2 xa ga ea da la na _ xc _ gc _ ec _ dc _ lc _ nc w (wiF 4 wi) _ _ rfl (len_beq _) k0 k1
      · have f1 : (so == 0) = false := by simpa using a0
        have f2 : (so == 1) = false := by simpa using b0
        have e : soF 4 so = false := by unfold soF; simp [a0, b0]
        rw [e]
        exact rd4c l0 c0 nm wi so n0 n1 n2 xa ga ea da la na _ xc _ gc _ ec _ dc _ lc _ nc w (wiF 4 wi) _ _ f1 f2 rfl (len_beq _) k0 k1
  by_cases q3 : kd = 3
  case pos =>
    subst q3
    rw [decide_eq_true (show (1 : Int) ≤ 3 by decide), decide_eq_true (show (3 : Int) ≤ 10 by decide), Bool.and_self, Bool.true_and, and_perm, if_neg (show ¬ (3 : Int) = 8 by decide), if_neg (show ¬ (3 : Int) = 9 by decide)]
    exact rd3 l0 c0 nm wi so n0 n1 n2 xa ga ea da la na _ xc _ gc _ ec _ dc _ lc _ nc w (soF 3 so) _ _ _ rfl (len_beq _) k0 k1 kw
  by_cases q8 : kd = 8
  case pos =>
    subst q8
    rw [decide_eq_true (show (1 : Int) ≤ 8 by decide), decide_eq_true (show (8 : Int) ≤ 10 by decide), Bool.and_self, Bool.true_and, and_perm, if_pos rfl, if_neg (show ¬ (8 : Int) = 9 by decide)]
    exact rd8 l0 c0 nm wi so n0 n1 n2 xa ga ea da la na _ xc _ gc _ ec _ dc _ lc _ nc w (soF 8 so) (wiF 8 wi) _ _ rfl rfl k0 k1 kx
  by_cases q9 : kd = 9
  case pos =>
    subst q9
    rw [decide_eq_true (show (1 : Int) ≤ 9 by decide), decide_eq_true (show (9 : Int) ≤ 10 by decide), Bool.and_self, Bool.true_and, and_perm, if_neg (show ¬ (9 : Int) = 8 by decide), if_pos rfl]
    exact rd9 l0 c0 nm wi so n0 n1 n2 xa ga ea da la na _ xc _ gc _ ec _ dc _ lc _ nc w _ (soF 9 so) (wiF 9 wi) _ _ rfl rfl (len_beq _) k0 k1 kg
  have e : (decide (1 ≤ kd) && decide (kd ≤ 10)) = false := by
    by_cases r1 : 1 ≤ kd
    · have r2 : ¬ kd ≤ 10 := by omega
      rw [decide_eq_false r2, Bool.and_false]
    · rw [decide_eq_false r1, Bool.false_and]
  rw [e, Bool.false_and]
  exact rd_other kd l0 c0 nm wi so n0 n1 n2 xa ga ea da la na _ xc _ gc _ ec _ dc _ lc _ nc w _ k0 k1 (by simpa using q1) (by simpa using q2) (by simpa using q3) (by simpa using q4) (by simpa using q5) (by simpa using q6) (by simpa using q7) (by simpa using q8) (by simpa using q9) (by simpa using q10)
set_option maxRecDepth 100000 in
set_option maxHeartbeats 4000000 in
theorem refFormed_any (p : Pl) (u : Value) (S : Nat → Prop) (w : World) (h : PlR S w u p) (hs : SmP p) (hr : ∀ d ∈ p.decls, RgD d) (t : Tb w) :
    Calls Tryd.prog 8 #[u] w fun e w' => e = .returned (.bool (fPl p)) ∧ Below w.heap.size w w' := by
  obtain ⟨vd, rfl, hD⟩ := h
  obtain ⟨nm, L⟩ := p
  obtain ⟨s1, s2⟩ := hs
  simp only at hD s1 s2 hr ⊢
  have k0 := fun (X : World) (hX : Below w.heap.size w X) => refName_any nm X s1 (t.below hX)
  have kD := fun (k : Nat) (hk : k < L.length) (v : Value) (s : SgV) (hE : Exs S w v L[k].expr) (hG : SgR S w s L[k].sg) (X : World) (hX : Below w.heap.size w X) => refDecl_any L[k] v s S X (hE.below hX) (hG.below hX) (s2 _ (List.getElem_mem hk)) (hr _ (List.getElem_mem hk)) (t.below hX)
  obtain ⟨a, c, rfl, hlen, hc⟩ := Rows.any hD
  have hb0 : Below w.heap.size w (w.alloc (.cells #[.string nm, .slice a L.length c] 24)) := bel1 _
  have K0 : Has (w.alloc (.cells #[.string nm, .slice a L.length c] 24)) w.heap.size #[.string nm, .slice a L.length c] := Has.new _ _ _ rfl
  clear hD s1 s2 hr
  unfold fPl
  simp only
  generalize hA : (nmB nm && L.all fDc) = A
  have hA0 : (nmB nm && (L.drop 0).all fDc) = A := hA
  clear hA
  generalize nmB nm = b0 at *
  go_enter Tryd.func8, Tryd.ntmps8
  go_wp2_with (go_at_call 20; (with_reducible refine Calls.mono (k0 _ (by exact hb0)) ?_); rintro e w1 ⟨rfl, h1⟩; have hb1 := bel_after hb0 hb0.size h1; have K1 := K0.below h1; obtain ⟨_, c1, _⟩ := id K1)
  go_loopw [3, 4] (fun b u wr => ∃ (k : Nat) (bb : Bool), k ≤ L.length ∧ b = .bool bb ∧ u = .int .i64 (k : Int) ∧ Hid ((bb && (L.drop k).all fDc) = A) ∧ Hid (Has wr w.heap.size #[.string nm, .slice a L.length c]) ∧ Hid (Below w.heap.size w wr)) (fun _ u _ => L.length - (intOf u).toNat)
  case atStart => exact ⟨0, b0, by omega, rfl, rfl, hA0, K1, hb1⟩
  case round =>
    clear hA0 hb1 K1 c1 h1 K0 hb0
    obtain ⟨k, bb, hkl, rfl, rfl, hq', K', hb'⟩ := hrel
    have hq := hq'.out
    have K := K'.out
    have hb := hb'.out
    clear hq' K' hb'
    obtain ⟨_, cc, _⟩ := id K
    by_cases hlt : k < L.length
    case pos =>
      have s1 : (k : Int) < (L.length : Int) := by omega
      have s0 : (0 : Int) ≤ (k : Int) := by omega
      cases bb with
      | false =>
        rw [Bool.false_and] at hq
        subst hq
        go_wp2_with fail
        go_ret
        exact ⟨rfl, hb⟩
      | true =>
      rw [Bool.true_and] at hq
      obtain ⟨g, o, rfl, _, hg, hx⟩ := hc.resolve_left (by intro e; rw [e] at hlt; simp at hlt)
      obtain ⟨cs, _, ⟨v, s, rfl, hE, hG⟩, h3⟩ := hx k hlt
      have cD := kD k hlt v s hE hG
      rw [all_at fDc L k hlt] at hq
      have hz : ∀ j u, (L[k].cs v s)[j]? = some u → wr.cell? ⟨g, o + k * 15 + j, none⟩ = some u := fun j u hu => (hb.cell (p := ⟨g, _, none⟩) hg).trans (h3 j u hu)
      clear h3 hx hc kD
      generalize L[k] = x at *
      obtain ⟨kd, l0, c0, nm', wi, so, n0, n1, n2, xe, ⟨gr, en, du, le, ne⟩⟩ := x
      obtain ⟨vg, ve, vd, vl, vn⟩ := s
      obtain ⟨hg', he, hd, hl, hn⟩ := hG
      simp only at hE hg' he hd hl hn
      obtain ⟨xa, xc, rfl, -, -⟩ := Rows.any hE
      obtain ⟨ga, gc, rfl, -, -⟩ := Rows.any hg'
      obtain ⟨ea, ec, rfl, -, -⟩ := Rows.any he
      obtain ⟨da, dc, rfl, -, -⟩ := Rows.any hd
      obtain ⟨la, lc, rfl, -, -⟩ := Rows.any hl
      obtain ⟨na, nc, rfl, -, -⟩ := Rows.any hn
      clear hE hg' he hd hl hn
      unfold Dc.cs at hz cD
      simp only at hz cD
      have z0 := hz 0 _ rfl
      have z1 := hz 1 _ rfl
      have z2 := hz 2 _ rfl
      have z3 := hz 3 _ rfl
      have z4 := hz 4 _ rfl
      have z5 := hz 5 _ rfl
      have z6 := hz 6 _ rfl
      have z7 := hz 7 _ rfl
      have z8 := hz 8 _ rfl
      have z9 := hz 9 _ rfl
      have z10 := hz 10 _ rfl
      have z11 := hz 11 _ rfl
      have z12 := hz 12 _ rfl
      have z13 := hz 13 _ rfl
      have z14 := hz 14 _ rfl
      simp only [Nat.add_zero] at z0
      clear hz
      generalize hf : fDc ⟨kd, l0, c0, nm', wi, so, n0, n1, n2, xe, ⟨gr, en, du, le, ne⟩⟩ = f at *
      go_wp2_with (go_at_call 21; (with_reducible refine Calls.mono (cD _ (by exact hb)) ?_); rintro e w2 ⟨rfl, hb2⟩; have hbM := bel_after hb hb.size hb2; have K2 := K.below hb2)
      go_roundw
      case rel => exact ⟨k + 1, f, by omega, rfl, by go_num, hq, K2, hbM⟩
      case measure => simp [intOf]; omega
    case neg =>
      have s1 : ¬ (k : Int) < (L.length : Int) := by omega
      rw [all_no fDc L k (by omega), Bool.and_true] at hq
      subst hq
      go_wp2_with fail
      go_ret
      exact ⟨rfl, hb⟩
end Go.Proofs.YthjdflcakngpiaaDoor
