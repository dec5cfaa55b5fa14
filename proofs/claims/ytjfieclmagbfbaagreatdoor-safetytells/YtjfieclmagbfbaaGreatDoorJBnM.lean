import Derived.Test.YtjfieclmagbfbaaGreatDoorMaK
import Derived.Test.YtjfieclmagbfbaaGreatDoorMaI
set_option linter.unusedSimpArgs false
set_option linter.unusedVariables false
set_option maxRecDepth 100000
set_option maxHeartbeats 8000000
namespace Go.Proofs.YtjfieclmagbfbaaGreatDoor
open Go.RowKit
def smN : List Ts → Nat
 | [] => 0
 | s :: L => s.enter.length + s.during.length + s.leave.length + smN L
def cgN : List Ts → Nat
 | [] => 0
 | s :: L => s.nexts.length + cgN L
theorem smN_drop (L : List Ts) (k : Nat) (h : k < L.length) : smN (L.drop k) = L[k].enter.length + L[k].during.length + L[k].leave.length + smN (L.drop (k + 1)) := by
 rw [List.drop_eq_getElem_cons h]; rfl
theorem cgN_drop (L : List Ts) (k : Nat) (h : k < L.length) : cgN (L.drop k) = L[k].nexts.length + cgN (L.drop (k + 1)) := by
 rw [List.drop_eq_getElem_cons h]; rfl
theorem smN_end (L : List Ts) (k : Nat) (h : L.length ≤ k) : smN (L.drop k) = 0 := by rw [List.drop_eq_nil_of_le h]; rfl
theorem cgN_end (L : List Ts) (k : Nat) (h : L.length ≤ k) : cgN (L.drop k) = 0 := by rw [List.drop_eq_nil_of_le h]; rfl
theorem allC_eq (L : List Ts) : allC L = smN L + cgN L := by
 induction L with
 | nil => rfl
 | cons x L ih => unfold allC smN cgN sgC; omega
theorem exN_le (L : List St) (h : ∀ x ∈ L, x.expr.length ≤ 2932031007317) : exN L ≤ L.length * 2932031007317 := by
 induction L with
 | nil => simp [exN]
 | cons x L ih => have := h x (by simp); have := ih (fun y hy => h y (by simp [hy])); unfold exN; rw [List.length_cons]; omega
theorem nxN_le (L : List Tn) (h : ∀ x ∈ L, x.wh.length ≤ 2932031007317) : nxN L ≤ L.length * 2932031007317 := by
 induction L with
 | nil => simp [nxN]
 | cons x L ih => have := h x (by simp); have := ih (fun y hy => h y (by simp [hy])); unfold nxN; rw [List.length_cons]; omega
theorem sts_le {S : Nat → Prop} {w : World} {v : Value} {L : List St} (h : Sts S w v L) : L.length ≤ 1954687338211 ∧ exN L ≤ L.length * 2932031007317 := by
 obtain ⟨_, _, rfl, hl, hc⟩ := Rows.any h
 refine ⟨hl, exN_le L ?_⟩
 intro x hx
 rcases hc with e | ⟨g, o, rfl, _, hg, hx2⟩
 ·rw [e] at hx; cases hx
 ·obtain ⟨i, hi, rfl⟩ := List.getElem_of_mem hx
  obtain ⟨cs2, _, ⟨v2, rfl, hv2⟩, h32⟩ := hx2 i hi; obtain ⟨_, _, _, q, _⟩ := Rows.any hv2; exact q
theorem tns_le {S : Nat → Prop} {w : World} {v : Value} {L : List Tn} (h : Tns S w v L) : L.length ≤ 4398046511000 ∧ nxN L ≤ L.length * 2932031007317 := by
 obtain ⟨_, _, rfl, hl, hc⟩ := Rows.any h
 refine ⟨hl, nxN_le L ?_⟩
 intro x hx
 rcases hc with e | ⟨g, o, rfl, _, hg, hx2⟩
 ·rw [e] at hx; cases hx
 ·obtain ⟨i, hi, rfl⟩ := List.getElem_of_mem hx
  obtain ⟨cs2, _, ⟨v2, rfl, hv2⟩, h32⟩ := hx2 i hi; obtain ⟨_, _, _, q, _⟩ := Rows.any hv2; exact q
theorem allN_le (L : List Ts) (h : ∀ x ∈ L, sgN x ≤ sgC x * 2932031007317) : allN L ≤ allC L * 2932031007317 := by
 induction L with
 | nil => simp [allN]
 | cons x L ih => have := h x (by simp); have := ih (fun y hy => h y (by simp [hy])); unfold allN allC; omega
theorem tss_le {S : Nat → Prop} {w : World} {v : Value} {L : List Ts} (h : Tss S w v L) : allN L ≤ allC L * 2932031007317 := by
 obtain ⟨_, _, rfl, hl, hc⟩ := Rows.any h
 refine allN_le L ?_
 intro x hx
 rcases hc with e | ⟨g, o, rfl, _, hg, hx2⟩
 ·rw [e] at hx; cases hx
 ·obtain ⟨i, hi, rfl⟩ := List.getElem_of_mem hx
  obtain ⟨cs2, _, ⟨ve, vd, vl, vn, rfl, q1, q2, q3, q4⟩, h32⟩ := hx2 i hi; have := (sts_le q1).2; have := (sts_le q2).2; have := (sts_le q3).2; have := (tns_le q4).2; unfold sgN sgC; omega
theorem sH_le (VS : List Hd) (k : Nat) (h : k < VS.length) : sH (VS.drop k) = VS[k].n + sH (VS.drop (k + 1)) := by
 rw [List.drop_eq_getElem_cons h]; rfl
theorem own_hd {w : World} {base xc : Nat} {xa : Option Addr} {VS : List Hd} (h : w.ownsRow base 56 1 (.slice xa VS.length xc) VS.length (vH VS)) : VS = [] ∨ ∃ g, xa = some ⟨g, 0, none⟩ ∧ base ≤ g ∧ g < w.heap.size ∧ ∀ (i : Nat) (hi : i < VS.length), w.cell? ⟨g, i, none⟩ = some (.slice VS[i].a VS[i].n VS[i].c) := by
 by_cases h0 : VS.length = 0
 ·exact .inl (List.length_eq_zero_iff.1 h0)
 ·obtain ⟨g, cap, e, _, hg, hg2⟩ := own_block h (by omega)
  injection e with e1 e2 e3
  subst e1; exact .inr ⟨g, rfl, hg, hg2, fun i hi => own_reads h rfl i _ (by simp [vH, hi])⟩
def ctB (nD nT nK nV : Nat) (SG : List Ts) : Bool := decide (nD ≤ 64) && decide (nT ≤ 64) && decide (nK ≤ 64) && decide (nV ≤ 64) && decide (SG.length ≤ 256) && decide (smN SG ≤ 4096) && decide (cgN SG ≤ 4096) && decide (allN SG ≤ 16384)
theorem counts_any (SG : List Ts) (pn : ByteArray) (ga ca da ta ka va sa : Option Addr) (nG nC nD nT nK nV gc cc dc tc kc vc sc : Nat) (stt : Int) (w : World) (hS : Tss (fun _ => True) w (.slice sa SG.length sc) SG)
  (lD : nD ≤ 4611686018427387904) (lT : nT ≤ 4611686018427387904) (lK : nK ≤ 4611686018427387904) (lV : nV ≤ 4611686018427387904) (lS : SG.length ≤ 4611686018427387904) :
  Calls Tryz.prog 54 #[(.agg #[.string pn, .slice ga nG gc, .slice ca nC cc, .slice da nD dc, .slice ta nT tc, .slice ka nK kc, .slice va nV vc, .slice sa SG.length sc, .int .i64 stt])] w fun e w' => e = .returned (.bool (ctB nD nT nK nV SG)) ∧ Below w.heap.size w w' := by
 have hb0 : Below w.heap.size w (w.alloc (.cells #[.string pn, .slice ga nG gc, .slice ca nC cc, .slice da nD dc, .slice ta nT tc, .slice ka nK kc, .slice va nV vc, .slice sa SG.length sc, .int .i64 stt] 31)) := bel1 _
 have K0 : Has (w.alloc (.cells #[.string pn, .slice ga nG gc, .slice ca nC cc, .slice da nD dc, .slice ta nT tc, .slice ka nK kc, .slice va nV vc, .slice sa SG.length sc, .int .i64 stt] 31)) w.heap.size #[.string pn, .slice ga nG gc, .slice ca nC cc, .slice da nD dc, .slice ta nT tc, .slice ka nK kc, .slice va nV vc, .slice sa SG.length sc, .int .i64 stt] := Has.new _ _ _ rfl
 by_cases h1 : nD ≤ 64
 case neg =>
  have s1 : (64 : Int) < (nD : Int) := by omega
  have hF : ctB nD nT nK nV SG = false := by unfold ctB; simp; omega
  rw [hF]; clear hF hS; go_enter Tryz.func54, Tryz.ntmps54
  go_wp2_with fail
  go_ret; exact ⟨rfl, hb0⟩
 have s1 : ¬ (64 : Int) < (nD : Int) := by omega
 by_cases h2 : nT ≤ 64
 case neg =>
  have s2 : (64 : Int) < (nT : Int) := by omega
  have hF : ctB nD nT nK nV SG = false := by unfold ctB; simp; omega
  rw [hF]; clear hF hS; go_enter Tryz.func54, Tryz.ntmps54
  go_wp2_with fail
  go_ret; exact ⟨rfl, hb0⟩
 have s2 : ¬ (64 : Int) < (nT : Int) := by omega
 by_cases h3 : nK ≤ 64
 case neg =>
  have s3 : (64 : Int) < (nK : Int) := by omega
  have hF : ctB nD nT nK nV SG = false := by unfold ctB; simp; omega
  rw [hF]; clear hF hS; go_enter Tryz.func54, Tryz.ntmps54
  go_wp2_with fail
  go_ret; exact ⟨rfl, hb0⟩
 have s3 : ¬ (64 : Int) < (nK : Int) := by omega
 by_cases h4 : nV ≤ 64
 case neg =>
  have s4 : (64 : Int) < (nV : Int) := by omega
  have hF : ctB nD nT nK nV SG = false := by unfold ctB; simp; omega
  rw [hF]; clear hF hS; go_enter Tryz.func54, Tryz.ntmps54
  go_wp2_with fail
  go_ret; exact ⟨rfl, hb0⟩
 have s4 : ¬ (64 : Int) < (nV : Int) := by omega
 by_cases h5 : SG.length ≤ 256
 case neg =>
  have s5 : (256 : Int) < (SG.length : Int) := by omega
  have hF : ctB nD nT nK nV SG = false := by unfold ctB; simp; omega
  rw [hF]; clear hF hS; go_enter Tryz.func54, Tryz.ntmps54
  go_wp2_with fail
  go_ret; exact ⟨rfl, hb0⟩
 have s5 : ¬ (256 : Int) < (SG.length : Int) := by omega
 have kE := fun (X : World) (hX : Below w.heap.size w X) (hC : allC SG ≤ 1000000) => exprs_any SG pn ga ca da ta ka va sa nG nC nD nT nK nV gc cc dc tc kc vc sc stt X (Tss.below hS hX) h5 hC
 have hAN := tss_le hS
 have hAC := allC_eq SG
 have hF : ctB nD nT nK nV SG = (decide (smN SG ≤ 4096) && decide (cgN SG ≤ 4096) && decide (allN SG ≤ 16384)) := by unfold ctB; simp [h1, h2, h3, h4, h5]
 rw [hF]
 clear hF
 have hA0 : smN (SG.drop 0) = smN SG := rfl
 have hC0 : cgN (SG.drop 0) = cgN SG := rfl
 generalize smN SG = A at *
 generalize cgN SG = C at *
 generalize allN SG = M at *
 generalize allC SG = Q at *
 obtain ⟨_, _, e1, _, kS⟩ := Rows.any hS
 injection e1 with e1 _ e2
 subst e1
 subst e2
 clear hS
 go_enter Tryz.func54, Tryz.ntmps54
 go_wp2_with fail
 generalize (w.alloc (.cells #[.string pn, .slice ga nG gc, .slice ca nC cc, .slice da nD dc, .slice ta nT tc, .slice ka nK kc, .slice va nV vc, .slice sa SG.length sc, .int .i64 stt] 31)) = W0 at *
 go_loopw [3, 4, 41] (fun u v i wr => ∃ (k a b : Nat), k ≤ SG.length ∧ a ≤ k * 20000000000000 ∧ b ≤ k * 20000000000000 ∧ u = .int .i64 (a : Int) ∧ v = .int .i64 (b : Int) ∧ i = .int .i64 (k : Int) ∧ Hid (a + smN (SG.drop k) = A) ∧ Hid (b + cgN (SG.drop k) = C) ∧ Hid (Below W0.heap.size W0 wr)) (fun _ _ i _ => SG.length - (intOf i).toNat)
 case atStart => exact ⟨0, 0, 0, by omega, by omega, by omega, rfl, rfl, rfl, (by show _ = _; rw [hA0]; omega), (by show _ = _; rw [hC0]; omega), Below.refl _ _⟩
 case round =>
  clear hA0 hC0; obtain ⟨k, a, b, hkl, ha, hbq, rfl, rfl, rfl, hq', hc', hb'⟩ := hrel; have hq := hq'.out; have hc := hc'.out; have hb := hb'.out; clear hq' hc' hb'; have hbB := bel_after hb0 hb0.size hb; have Kk := K0.below hb
  by_cases hlt : k < SG.length
  case neg =>
   have t1 : ¬ (k : Int) < (SG.length : Int) := by omega
   rw [smN_end SG k (by omega)] at hq; rw [cgN_end SG k (by omega)] at hc; obtain rfl : a = A := by omega
   obtain rfl : b = C := by omega
   clear kS hq hc
   by_cases z1 : a ≤ 4096
   case neg =>
    have t2 : (4096 : Int) < (a : Int) := by omega
    go_wp2_with fail
    go_ret; exact ⟨by simp [z1], hbB⟩
   have t2 : ¬ (4096 : Int) < (a : Int) := by omega
   by_cases z2 : b ≤ 4096
   case neg =>
    have t3 : (4096 : Int) < (b : Int) := by omega
    go_wp2_with fail
    go_ret; exact ⟨by simp [z1, z2], hbB⟩
   have t3 : ¬ (4096 : Int) < (b : Int) := by omega
   have kE2 := kE _ hbB (by omega); obtain ⟨_, v1, v2⟩ := id Kk
   go_wp2_with fail
   go_at_call 80; refine Calls.mono kE2 ?_; rintro e w3 ⟨⟨xa, xc, VS, rfl, oR, hsm, hvl⟩, h3⟩; have hb3 := bel_after hbB hbB.size h3; have hrow := own_hd oR; have hS0 : sH (VS.drop 0) = sH VS := rfl; rw [hsm] at hS0; clear kE kE2 K0 Kk v1 v2 hb hbB oR hsm h3
   go_wp2_with fail
   go_loopw [5, 73] (fun u i wr => ∃ (m n : Nat), m ≤ VS.length ∧ u = .int .i64 (n : Int) ∧ i = .int .i64 (m : Int) ∧ Hid (n + sH (VS.drop m) = M) ∧ wr = w3) (fun _ i _ => VS.length - (intOf i).toNat)
   case atStart => exact ⟨0, 0, by omega, rfl, rfl, (by show _ = _; rw [hS0]; omega), rfl⟩
   case round =>
    clear hS0; obtain ⟨m, n, hml, rfl, rfl, hq', rfl⟩ := hrel; have hq := hq'.out; clear hq'
    by_cases hm : m < VS.length
    case neg =>
     have t4 : ¬ (m : Int) < (VS.length : Int) := by omega
     rw [List.drop_eq_nil_of_le (by omega)] at hq; obtain rfl : n = M := by simp [sH] at hq; omega
     clear hrow hq
     by_cases z3 : n ≤ 16384
     case neg =>
      have t5 : ¬ (n : Int) ≤ 16384 := by omega
      go_wp2_with fail
      go_ret; exact ⟨by simp [z1, z2, z3], hb3⟩
     have t5 : (n : Int) ≤ 16384 := by omega
     go_wp2_with fail
     go_ret; exact ⟨by simp [z1, z2, z3], hb3⟩
    case pos =>
     obtain ⟨g, rfl, hg1, hg2, hx⟩ := hrow.resolve_left (by intro e; rw [e] at hm; simp at hm); have p0 := hx m hm; rw [sH_le VS m hm] at hq; have t4 : (m : Int) < (VS.length : Int) := by omega
     have t6 : (0 : Int) ≤ (m : Int) := by omega
     clear hx hrow; generalize VS[m].a = fa at *; generalize VS[m].n = fl at *; generalize VS[m].c = fc at *
     go_wp2_with fail
     go_roundw
     case rel => exact ⟨m + 1, n + fl, by omega, by go_num, by go_num, (by show _ = _; omega), (by first | rfl | trivial)⟩
     case measure => simp [intOf]; omega
  case pos =>
   obtain ⟨g, o, rfl, _, hg, hx⟩ := kS.resolve_left (by intro e; rw [e] at hlt; simp at hlt); obtain ⟨cs, _, ⟨ve, vd, vl, vn, rfl, q1, q2, q3, q4⟩, P2⟩ := hx k hlt; have l1 := (sts_le q1).1; have l2 := (sts_le q2).1; have l3 := (sts_le q3).1; have l4 := (tns_le q4).1; obtain ⟨e1, c1, rfl, _, -⟩ := Rows.any q1; obtain ⟨e2, c2, rfl, _, -⟩ := Rows.any q2; obtain ⟨e3, c3, rfl, _, -⟩ := Rows.any q3; obtain ⟨e4, c4, rfl, _, -⟩ := Rows.any q4; have p0 := (hbB.cell (p := ⟨g, _, none⟩) hg).trans (P2 0 _ rfl); have p1 := (hbB.cell (p := ⟨g, _, none⟩) hg).trans (P2 1 _ rfl); have p2 := (hbB.cell (p := ⟨g, _, none⟩) hg).trans (P2 2 _ rfl); have p3 := (hbB.cell (p := ⟨g, _, none⟩) hg).trans (P2 3 _ rfl); have p4 := (hbB.cell (p := ⟨g, _, none⟩) hg).trans (P2 4 _ rfl); have p5 := (hbB.cell (p := ⟨g, _, none⟩) hg).trans (P2 5 _ rfl); have p6 := (hbB.cell (p := ⟨g, _, none⟩) hg).trans (P2 6 _ rfl); simp only [Nat.add_zero] at p0; have t1 : (k : Int) < (SG.length : Int) := by omega
   have t0 : (0 : Int) ≤ (k : Int) := by omega
   rw [smN_drop SG k hlt] at hq; rw [cgN_drop SG k hlt] at hc; clear q1 q2 q3 q4 P2 hx kS kE; generalize SG[k].enter.length = L1 at *; generalize SG[k].during.length = L2 at *; generalize SG[k].leave.length = L3 at *; generalize SG[k].nexts.length = L4 at *; generalize SG[k].name = x0 at *; generalize SG[k].id = x1 at *; generalize SG[k].green = x2 at *; have hqH : Hid (a + (L1 + L2 + L3 + smN (SG.drop (k + 1))) = A) := hq; have hcH : Hid (b + (L4 + cgN (SG.drop (k + 1))) = C) := hc; have hb4 := hb.alloc hb.size (.cells #[.string x0, .int .i64 x1, .int .u64 x2, .slice e1 L1 c1, .slice e2 L2 c2, .slice e3 L3 c3, .slice e4 L4 c4] 51); clear hq hc
   go_wp2_with fail
   go_roundw
   case rel => exact ⟨k + 1, a + (L1 + L2 + L3), b + L4, by omega, by omega, by omega, by go_num, by go_num, by go_num, (by show _ = _; have := hqH.out; omega), (by show _ = _; have := hcH.out; omega), hb4⟩
   case measure => simp [intOf]; omega
def BlR (w : World) (g n : Nat) (R : List Bool) : Prop := g < w.heap.size ∧ ∀ i, i < n → w.cell? ⟨g, i, none⟩ = some (.bool (sn R i))
theorem BlR.below {w w' : World} {g n : Nat} {R : List Bool} (h : BlR w g n R) (hb : Below w.heap.size w w') : BlR w' g n R :=
 ⟨Nat.lt_of_lt_of_le h.1 hb.size, fun i hi => (hb.cell (p := ⟨g, _, none⟩) h.1).trans (h.2 i hi)⟩
theorem BlR.own {w : World} {B g n : Nat} {R : List Bool} (h : w.ownsRow B 4 1 (.slice (some ⟨g, 0, none⟩) n n) n (vB R)) (hl : R.length = n) : BlR w g n R :=
 ⟨(own_lt h g rfl).2, fun i hi => (h.cellAt i (by omega)).trans ((vB_get (by omega : i < R.length)).trans (by rw [sn_get (by omega)]))⟩
def mvS (k : Nat) (L : List Tn) : List (Int × Int) := L.map fun x => ((k : Int), x.dst)
def mvsF (R : List Bool) : Nat → List Ts → List (Int × Int)
 | _, [] => []
 | k, s :: L => (if sn R k = true then mvS k s.nexts else []) ++ mvsF R (k + 1) L
def mvsL (R : List Bool) (SG : List Ts) (stt : Int) : List (Int × Int) := (-1, stt) :: mvsF R 0 SG
def mvC (x : Int × Int) : List Value := [.int .i64 x.1, .int .i64 x.2]
theorem mvC_len (x : Int × Int) : (mvC x).length = 2 := rfl
theorem mvsF_drop (R : List Bool) (SG : List Ts) (k : Nat) (h : k < SG.length) : mvsF R k (SG.drop k) = (if sn R k = true then mvS k SG[k].nexts else []) ++ mvsF R (k + 1) (SG.drop (k + 1)) := by
 rw [List.drop_eq_getElem_cons h]; rfl
theorem mvsF_end (R : List Bool) (SG : List Ts) (k : Nat) (h : SG.length ≤ k) : mvsF R k (SG.drop k) = [] := by
 rw [List.drop_eq_nil_of_le h]; rfl
theorem mvS_drop (k : Nat) (L : List Tn) (m : Nat) (h : m < L.length) : (mvS k L).drop m = ((k : Int), L[m].dst) :: (mvS k L).drop (m + 1) := by
 have h2 : m < (mvS k L).length := by simpa [mvS] using h
 rw [List.drop_eq_getElem_cons h2]; simp [mvS]
theorem mvS_end (k : Nat) (L : List Tn) (m : Nat) (h : L.length ≤ m) : (mvS k L).drop m = [] := List.drop_eq_nil_of_le (by simpa [mvS] using h)
theorem mvsF_len (R : List Bool) : ∀ (L : List Ts) (k : Nat), (mvsF R k L).length ≤ cgN L
 | [], _ => Nat.le_refl _
 | s :: L, k => by
   have ih := mvsF_len R L (k + 1); unfold mvsF cgN; rw [List.length_append]; split
   ·simp [mvS]; exact ih
   ·simp; omega
theorem mv_app (Q : List (Int × Int)) (x : Int × Int) : cellsF mvC (Q ++ [x]) = cellsF mvC Q ++ [.int .i64 x.1, .int .i64 x.2] := by rw [cellsF_append]; simp [cellsF, mvC]
theorem info128 : (Tryz.prog.info? 102).map (fun i => (i.zero, i.size, i.bytes)) = some (some (.agg #[.int .i64 0, .int .i64 0]), 2, 16) := by kernel_rfl
theorem own_built2 {w : World} {base e : Nat} {u v : Value} (hb : base ≤ w.heap.size) : (w.alloc (.cells #[u, v] e)).ownsRow base e 2 (.slice (some ⟨w.heap.size, 0, none⟩) 1 1) 1 [u, v] :=
 ⟨rfl, .inr ⟨w.heap.size, 1, #[u, v], rfl, hb, heap_alloc_new w _, by omega, by unfold maxLen; omega, rfl, rfl⟩⟩
theorem moves_any (G : List Gp) (C : List Cf) (D : List Dt) (TM CT : List ByteArray) (VR : List Vr) (SG : List Ts) (pn : ByteArray) (ga ca da ta ka va sa wa : Option Addr) (gc cc dc tc kc vc sc mb ra rc qa qc wc : Nat) (stt : Int) (R : List Bool) (w : World) (hS : Tss (fun _ => True) w (.slice sa SG.length sc) SG) (hR : BlR w ra SG.length R) (lS : SG.length ≤ 256) (lC : cgN SG ≤ 4096) :
  Calls Tryz.prog 41 #[(.agg #[.string pn, .slice ga G.length gc, .slice ca C.length cc, .slice da D.length dc, .slice ta TM.length tc, .slice ka CT.length kc, .slice va VR.length vc, .slice sa SG.length sc, .int .i64 stt, .slice ga G.length gc, .map (some mb), .slice (some ⟨ra, 0, none⟩) SG.length rc, .slice (some ⟨qa, 0, none⟩) SG.length qc, .slice wa G.length wc])] w fun e w' => ∃ (gm cm : Nat), e = .returned (.slice (some ⟨gm, 0, none⟩) (mvsL R SG stt).length cm) ∧ w'.ownsRow w.heap.size 102 2 (.slice (some ⟨gm, 0, none⟩) (mvsL R SG stt).length cm) (mvsL R SG stt).length (cellsF mvC (mvsL R SG stt)) ∧ Below w.heap.size w w' := by
 obtain ⟨tj, hj, hjv⟩ := Option.map_eq_some_iff.1 info128
 injection hjv with hj0 hjv
 injection hjv with hj1 hj2
 obtain ⟨_, _, e1, _, kS⟩ := Rows.any hS
 injection e1 with e1 _ e2
 subst e1
 subst e2
 clear hS
 have hA0 : [(-1, stt)] ++ mvsF R 0 (SG.drop 0) = mvsL R SG stt := rfl
 have hAl : (mvsL R SG stt).length ≤ 4097 := by have := mvsF_len R SG 0; simp [mvsL]; omega
 generalize mvsL R SG stt = A at *
 have hb0 : Below w.heap.size w (w.alloc (.cells #[.string pn, .slice ga G.length gc, .slice ca C.length cc, .slice da D.length dc, .slice ta TM.length tc, .slice ka CT.length kc, .slice va VR.length vc, .slice sa SG.length sc, .int .i64 stt, .slice ga G.length gc, .map (some mb), .slice (some ⟨ra, 0, none⟩) SG.length rc, .slice (some ⟨qa, 0, none⟩) SG.length qc, .slice wa G.length wc] 82)) := bel1 _
 have K0 : Has (w.alloc (.cells #[.string pn, .slice ga G.length gc, .slice ca C.length cc, .slice da D.length dc, .slice ta TM.length tc, .slice ka CT.length kc, .slice va VR.length vc, .slice sa SG.length sc, .int .i64 stt, .slice ga G.length gc, .map (some mb), .slice (some ⟨ra, 0, none⟩) SG.length rc, .slice (some ⟨qa, 0, none⟩) SG.length qc, .slice wa G.length wc] 82)) w.heap.size #[.string pn, .slice ga G.length gc, .slice ca C.length cc, .slice da D.length dc, .slice ta TM.length tc, .slice ka CT.length kc, .slice va VR.length vc, .slice sa SG.length sc, .int .i64 stt, .slice ga G.length gc, .map (some mb), .slice (some ⟨ra, 0, none⟩) SG.length rc, .slice (some ⟨qa, 0, none⟩) SG.length qc, .slice wa G.length wc] := Has.new _ _ _ rfl
 obtain ⟨_, v1, v2⟩ := id K0
 have hsz0 : (w.alloc (.cells #[.string pn, .slice ga G.length gc, .slice ca C.length cc, .slice da D.length dc, .slice ta TM.length tc, .slice ka CT.length kc, .slice va VR.length vc, .slice sa SG.length sc, .int .i64 stt, .slice ga G.length gc, .map (some mb), .slice (some ⟨ra, 0, none⟩) SG.length rc, .slice (some ⟨qa, 0, none⟩) SG.length qc, .slice wa G.length wc] 82)).heap.size = w.heap.size + 1 := by simp
 go_enter Tryz.func41, Tryz.ntmps41
 go_wp2_with fail
 have own := own_built2 (w := w.alloc (.cells #[.string pn, .slice ga G.length gc, .slice ca C.length cc, .slice da D.length dc, .slice ta TM.length tc, .slice ka CT.length kc, .slice va VR.length vc, .slice sa SG.length sc, .int .i64 stt, .slice ga G.length gc, .map (some mb), .slice (some ⟨ra, 0, none⟩) SG.length rc, .slice (some ⟨qa, 0, none⟩) SG.length qc, .slice wa G.length wc] 82)) (base := w.heap.size + 1) (e := 102) (u := .int .i64 (-1)) (v := .int .i64 stt) (by omega)
 have hb1 : Below (w.heap.size + 1) (w.alloc (.cells #[.string pn, .slice ga G.length gc, .slice ca C.length cc, .slice da D.length dc, .slice ta TM.length tc, .slice ka CT.length kc, .slice va VR.length vc, .slice sa SG.length sc, .int .i64 stt, .slice ga G.length gc, .map (some mb), .slice (some ⟨ra, 0, none⟩) SG.length rc, .slice (some ⟨qa, 0, none⟩) SG.length qc, .slice wa G.length wc] 82)) ((w.alloc (.cells #[.string pn, .slice ga G.length gc, .slice ca C.length cc, .slice da D.length dc, .slice ta TM.length tc, .slice ka CT.length kc, .slice va VR.length vc, .slice sa SG.length sc, .int .i64 stt, .slice ga G.length gc, .map (some mb), .slice (some ⟨ra, 0, none⟩) SG.length rc, .slice (some ⟨qa, 0, none⟩) SG.length qc, .slice wa G.length wc] 82)).alloc (.cells #[.int .i64 (-1), .int .i64 stt] 102)) := hsz0 ▸ bel1 _
 rw [hsz0] at own
 clear v1 v2
 generalize hW0 : (w.alloc (.cells #[.string pn, .slice ga G.length gc, .slice ca C.length cc, .slice da D.length dc, .slice ta TM.length tc, .slice ka CT.length kc, .slice va VR.length vc, .slice sa SG.length sc, .int .i64 stt, .slice ga G.length gc, .map (some mb), .slice (some ⟨ra, 0, none⟩) SG.length rc, .slice (some ⟨qa, 0, none⟩) SG.length qc, .slice wa G.length wc] 82)) = W0 at *
 go_loopw [3, 17] (fun v t wr => ∃ (k nq gq cq : Nat) (Q : List (Int × Int)), k ≤ SG.length ∧ v = .slice (some ⟨gq, 0, none⟩) nq cq ∧ t = .int .i64 (k : Int) ∧ Hid (Q.length = nq) ∧ Hid (Q ++ mvsF R k (SG.drop k) = A) ∧ Hid (wr.ownsRow (w.heap.size + 1) 102 2 (.slice (some ⟨gq, 0, none⟩) nq cq) nq (cellsF mvC Q)) ∧ Hid (Below (w.heap.size + 1) W0 wr)) (fun _ t _ => SG.length - (intOf t).toNat)
 case atStart => exact ⟨0, 1, _, 1, [(-1, stt)], by omega, rfl, rfl, rfl, hA0, own, hb1⟩
 case round =>
  clear own hb1 hA0; obtain ⟨k, nq, gq, cq, Q, hkl, rfl, rfl, hQl', hQ', oQ', hb'⟩ := hrel; have hQl := hQl'.out; have hQ := hQ'.out; have oQ := oQ'.out; have hb := hb'.out; clear hQl' hQ' oQ' hb'; have Kk := K0.below (hsz0 ▸ hb); have hbw := bel_after hb0 (by omega) (hsz0 ▸ hb); obtain ⟨_, b1, b2⟩ := id Kk
  by_cases hlt : k < SG.length
  case neg =>
   have t1 : ¬ (k : Int) < (SG.length : Int) := by omega
   rw [mvsF_end _ _ _ (by omega), List.append_nil] at hQ; subst hQ; subst hQl; clear kS hR
   go_wp2_with fail
   go_ret; exact ⟨_, _, rfl, own_mono oQ (by omega), hbw⟩
  case pos =>
   obtain ⟨g, o, rfl, _, hg, hx⟩ := kS.resolve_left (by intro e; rw [e] at hlt; simp at hlt); obtain ⟨cs, _, ⟨ve, vd, vl, vn, rfl, q1, q2, q3, q4⟩, P2⟩ := hx k hlt; obtain ⟨e1, c1, rfl, _, -⟩ := Rows.any q1; obtain ⟨e2, c2, rfl, _, -⟩ := Rows.any q2; obtain ⟨e3, c3, rfl, _, -⟩ := Rows.any q3; obtain ⟨e4, c4, rfl, l4, k4⟩ := Rows.any q4; have p0 := (hbw.cell (p := ⟨g, _, none⟩) hg).trans (P2 0 _ rfl); have p1 := (hbw.cell (p := ⟨g, _, none⟩) hg).trans (P2 1 _ rfl); have p2 := (hbw.cell (p := ⟨g, _, none⟩) hg).trans (P2 2 _ rfl); have p3 := (hbw.cell (p := ⟨g, _, none⟩) hg).trans (P2 3 _ rfl); have p4 := (hbw.cell (p := ⟨g, _, none⟩) hg).trans (P2 4 _ rfl); have p5 := (hbw.cell (p := ⟨g, _, none⟩) hg).trans (P2 5 _ rfl); have p6 := (hbw.cell (p := ⟨g, _, none⟩) hg).trans (P2 6 _ rfl); simp only [Nat.add_zero] at p0; have t1 : (k : Int) < (SG.length : Int) := by omega
   have t0 : (0 : Int) ≤ (k : Int) := by omega
   have t2 : k + 1 ≤ SG.length := hlt; rw [mvsF_drop _ _ k hlt] at hQ; have zr := (hbw.cell (p := ⟨ra, k, none⟩) hR.1).trans (hR.2 k hlt); clear q1 q2 q3 q4 P2; generalize SG[k].enter.length = n1 at *; generalize SG[k].during.length = n2 at *; generalize SG[k].leave.length = n3 at *; generalize SG[k].nexts = LN at *; generalize SG[k].name = x0 at *; generalize SG[k].id = x1 at *; generalize SG[k].green = x2 at *; have hb4 := hb.alloc (by have := hb.size; omega) (.cells #[.string x0, .int .i64 x1, .int .u64 x2, .slice e1 n1 c1, .slice e2 n2 c2, .slice e3 n3 c3, .slice e4 LN.length c4] 51); have hbw4 := hbw.alloc hbw.size (.cells #[.string x0, .int .i64 x1, .int .u64 x2, .slice e1 n1 c1, .slice e2 n2 c2, .slice e3 n3 c3, .slice e4 LN.length c4] 51); have zr4 := (hbw4.cell (p := ⟨ra, k, none⟩) hR.1).trans (hR.2 k hlt); have Kk4 := Kk.alloc (.cells #[.string x0, .int .i64 x1, .int .u64 x2, .slice e1 n1 c1, .slice e2 n2 c2, .slice e3 n3 c3, .slice e4 LN.length c4] 51); have oQ4 := oQ.alloc (.cells #[.string x0, .int .i64 x1, .int .u64 x2, .slice e1 n1 c1, .slice e2 n2 c2, .slice e3 n3 c3, .slice e4 LN.length c4] 51); have KS0 : Has (wr.alloc (.cells #[.string x0, .int .i64 x1, .int .u64 x2, .slice e1 n1 c1, .slice e2 n2 c2, .slice e3 n3 c3, .slice e4 LN.length c4] 51)) wr.heap.size #[.string x0, .int .i64 x1, .int .u64 x2, .slice e1 n1 c1, .slice e2 n2 c2, .slice e3 n3 c3, .slice e4 LN.length c4] := Has.new _ _ _ rfl; obtain ⟨_, u1, u2⟩ := id Kk4; obtain ⟨_, u3, u4⟩ := id KS0; generalize sn R k = bk at *
   cases bk with
   | false =>
     simp only [Bool.false_eq_true, if_false, List.nil_append] at hQ; clear hx k4
     go_wp2_with fail
     go_roundw
     case rel => exact ⟨k + 1, nq, gq, cq, Q, t2, rfl, by go_num, hQl, hQ, oQ4, hb4⟩
     case measure => simp [intOf]; omega
   | true =>
     simp only [if_true] at hQ; have hQ0 : Q ++ ((mvS k LN).drop 0 ++ mvsF R (k + 1) (SG.drop (k + 1))) = A := hQ; generalize hRS : mvsF R (k + 1) (SG.drop (k + 1)) = RS2 at *
     go_wp2_with fail
     clear u1 u2 u3 u4 hx p0 p1 p2 p3 p4 p5 p6 zr zr4 hb hbw Kk oQ hQ; generalize hWB : (wr.alloc (.cells #[.string x0, .int .i64 x1, .int .u64 x2, .slice e1 n1 c1, .slice e2 n2 c2, .slice e3 n3 c3, .slice e4 LN.length c4] 51)) = WB at *
     go_loopw [3, 31] (fun v t wv => ∃ (m nq gq cq : Nat) (Q : List (Int × Int)), m ≤ LN.length ∧ v = .slice (some ⟨gq, 0, none⟩) nq cq ∧ t = .int .i64 (m : Int) ∧ Hid (Q.length = nq) ∧ Hid (Q ++ ((mvS k LN).drop m ++ RS2) = A) ∧ Hid (wv.ownsRow (w.heap.size + 1) 102 2 (.slice (some ⟨gq, 0, none⟩) nq cq) nq (cellsF mvC Q)) ∧ Hid (Below (w.heap.size + 1) W0 wv)) (fun _ t _ => LN.length - (intOf t).toNat)
     case atStart => exact ⟨0, nq, gq, cq, Q, by omega, rfl, rfl, hQl, hQ0, oQ4, hb4⟩
     case round =>
      clear hQl hQ0 oQ4 hb4 hbw4; obtain ⟨m, nq, gq, cq, Q, hml, rfl, rfl, hQl', hQ', oQ', hb'⟩ := hrel; have hQl := hQl'.out; have hQ := hQ'.out; have oQ := oQ'.out; have hb := hb'.out; clear hQl' hQ' oQ' hb'; have hbw := bel_after hb0 (by omega) (hsz0 ▸ hb)
      by_cases hmm : m < LN.length
      case neg =>
       have s3 : ¬ (m : Int) < (LN.length : Int) := by omega
       rw [mvS_end _ _ _ (by omega), List.nil_append] at hQ
       go_wp2_with fail
       go_roundw
       case rel => exact ⟨k + 1, nq, gq, cq, Q, t2, rfl, by go_num, hQl, (by show _ = _; rw [hRS]; exact hQ), oQ, hb⟩
       case measure => simp [intOf]; omega
      case pos =>
       have s3 : (m : Int) < (LN.length : Int) := by omega
       have s2 : (0 : Int) ≤ (m : Int) := by omega
       obtain ⟨g2, o2, rfl, _, hg2, hx2⟩ := k4.resolve_left (by intro e; rw [e] at hmm; simp at hmm); obtain ⟨cs2, _, ⟨v2, rfl, hv2⟩, h32⟩ := hx2 m hmm; obtain ⟨fa, fc, rfl, lfl, -⟩ := Rows.any hv2; have p0 := (hbw.cell (p := ⟨g2, _, none⟩) hg2).trans (h32 0 _ rfl); have p1 := (hbw.cell (p := ⟨g2, _, none⟩) hg2).trans (h32 1 _ rfl); simp only [Nat.add_zero] at p0; rw [mvS_drop k LN m hmm, List.cons_append] at hQ; have hQn : nq + 1 ≤ 4097 := by have := congrArg List.length hQ; simp at this; omega
       have hQ2 : (Q ++ [((k : Int), LN[m].dst)]) ++ ((mvS k LN).drop (m + 1) ++ RS2) = A := by rw [List.append_assoc]; exact hQ
       generalize LN[m].dst = d at *; generalize LN[m].wh.length = fl at *; clear h32 hx2 hv2 hQ; have hs1 : w.heap.size + 1 ≤ wr.heap.size := by have := hb.size; omega
       have hbC : Below (w.heap.size + 1) W0 ((wr.alloc (.cells #[.int .i64 d, .slice fa fl fc] 58)).alloc (.cells #[.int .i64 (k : Int), .int .i64 d] 102)) := (hb.alloc hs1 _).alloc (Nat.le_trans hs1 (by simp)) _; have oQC := (oQ.alloc (.cells #[.int .i64 d, .slice fa fl fc] 58)).alloc (.cells #[.int .i64 (k : Int), .int .i64 d] 102); have hgq := own_lt oQ gq rfl; clear oQ hb
       go_wp2_with (at_builtin; (refine wpList_append_mine _ rfl _ _ 99 rfl (w.heap.size + 1) 102 tj _ 2 16 Tryz.underlying99 hj hj0 hj1 hj2 rfl (by decide) (.slice (some ⟨gq, 0, none⟩) nq cq) nq (cellsF mvC Q) rfl oQC ⟨wr.heap.size + 1, 0, none⟩ 1 1 [.int .i64 (k : Int), .int .i64 d] rfl rfl (cells_at (W := wr.alloc (.cells #[.int .i64 d, .slice fa fl fc] 58)) (b := wr.heap.size + 1) (by simp [World.setCell]) _ _) (fun u hu => by simp at hu; rcases hu with rfl | rfl <;> rfl) (by decide) (by unfold maxLen; omega) (by omega) (by simp [World.setCell]; omega) ?_); intro g' c' y o3 gr dj _ hc'; have b3 := grown_bel hbC gr (by omega) (fun q hq => by simp [Value.ownBlock] at hq; omega))
       go_roundw
       case rel => exact ⟨m + 1, nq + 1, g', c', Q ++ [((k : Int), d)], by omega, rfl, by go_num, (by show _ = _; simp [hQl]), hQ2, (by show World.ownsRow _ _ _ _ _ _ _; rw [mv_app]; exact o3), b3⟩
       case measure => simp [intOf]; omega
end Go.Proofs.YtjfieclmagbfbaaGreatDoor
