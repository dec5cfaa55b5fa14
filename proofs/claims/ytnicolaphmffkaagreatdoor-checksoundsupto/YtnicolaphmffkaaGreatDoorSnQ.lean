import Derived.Test.YtnicolaphmffkaaGreatDoorMaK
namespace Go.Proofs.YtnicolaphmffkaaGreatDoor
open Go.RowKit
set_option linter.unusedVariables false
set_option linter.unusedSimpArgs false

/-- The statements of all stages. -/
def smN : List Ts → Nat
  | [] => 0
  | s :: L => s.enter.length + s.during.length + s.leave.length + smN L
/-- The changes of all stages. -/
def cgN : List Ts → Nat
  | [] => 0
  | s :: L => s.nexts.length + cgN L
theorem smN_drop (L : List Ts) (k : Nat) (h : k < L.length) : smN (L.drop k) = L[k].enter.length + L[k].during.length + L[k].leave.length + smN (L.drop (k + 1)) := by
  rw [List.drop_eq_getElem_cons h]; rfl
theorem cgN_drop (L : List Ts) (k : Nat) (h : k < L.length) : cgN (L.drop k) = L[k].nexts.length + cgN (L.drop (k + 1)) := by
  rw [List.drop_eq_getElem_cons h]; rfl
theorem smN_end (L : List Ts) (k : Nat) (h : L.length ≤ k) : smN (L.drop k) = 0 := by rw [List.drop_eq_nil_of_le h]; rfl
theorem cgN_end (L : List Ts) (k : Nat) (h : L.length ≤ k) : cgN (L.drop k) = 0 := by rw [List.drop_eq_nil_of_le h]; rfl
theorem allC_eq (L : List Ts) : allC L = smN L + cgN L := by
  induction L with
  | nil => rfl
  | cons x L ih => unfold allC smN cgN sgC; omega
theorem exN_le (L : List St) (h : ∀ x ∈ L, x.expr.length ≤ 2932031007317) : exN L ≤ L.length * 2932031007317 := by
  induction L with
  | nil => simp [exN]
  | cons x L ih => have := h x (by simp); have := ih (fun y hy => h y (by simp [hy])); unfold exN; rw [List.length_cons]; omega
theorem nxN_le (L : List Tn) (h : ∀ x ∈ L, x.wh.length ≤ 2932031007317) : nxN L ≤ L.length * 2932031007317 := by
  induction L with
  | nil => simp [nxN]
  | cons x L ih => have := h x (by simp); have := ih (fun y hy => h y (by simp [hy])); unfold nxN; rw [List.length_cons]; omega
theorem sts_le {S : Nat → Prop} {w : World} {v : Value} {L : List St} (h : Sts S w v L) : L.length ≤ 1954687338211 ∧ exN L ≤ L.length * 2932031007317 := by
  obtain ⟨_, _, rfl, hl, hc⟩ := Rows.any h
  refine ⟨hl, exN_le L ?_⟩
  intro x hx
  rcases hc with e | ⟨g, o, rfl, _, hg, hx2⟩
  · rw [e] at hx; cases hx
  · obtain ⟨i, hi, rfl⟩ := List.getElem_of_mem hx
    obtain ⟨cs2, _, ⟨v2, rfl, hv2⟩, h32⟩ := hx2 i hi
    obtain ⟨_, _, _, q, _⟩ := Rows.any hv2
    exact q
theorem tns_le {S : Nat → Prop} {w : World} {v : Value} {L : List Tn} (h : Tns S w v L) : L.length ≤ 4398046511000 ∧ nxN L ≤ L.length * 2932031007317 := by
  obtain ⟨_, _, rfl, hl, hc⟩ := Rows.any h
  refine ⟨hl, nxN_le L ?_⟩
  intro x hx
  rcases hc with e | ⟨g, o, rfl, _, hg, hx2⟩
  · rw [e] at hx; cases hx
  · obtain ⟨i, hi, rfl⟩ := List.getElem_of_mem hx
    obtain ⟨cs2, _, ⟨v2, rfl, hv2⟩, h32⟩ := hx2 i hi
    obtain ⟨_, _, _, q, _⟩ := Rows.any hv2
    exact q
theorem allN_le (L : List Ts) (h : ∀ x ∈ L, sgN x ≤ sgC x * 2932031007317) : allN L ≤ allC L * 2932031007317 := by
  induction L with
  | nil => simp [allN]
  | cons x L ih => have := h x (by simp); have := ih (fun y hy => h y (by simp [hy])); unfold allN allC; omega
theorem tss_le {S : Nat → Prop} {w : World} {v : Value} {L : List Ts} (h : Tss S w v L) : allN L ≤ allC L * 2932031007317 := by
  obtain ⟨_, _, rfl, hl, hc⟩ := Rows.any h
  refine allN_le L ?_
  intro x hx
  rcases hc with e | ⟨g, o, rfl, _, hg, hx2⟩
  · rw [e] at hx; cases hx
  · obtain ⟨i, hi, rfl⟩ := List.getElem_of_mem hx
    obtain ⟨cs2, _, ⟨ve, vd, vl, vn, rfl, q1, q2, q3, q4⟩, h32⟩ := hx2 i hi
    have := (sts_le q1).2
    have := (sts_le q2).2
    have := (sts_le q3).2
    have := (tns_le q4).2
    unfold sgN sgC
    omega
theorem sH_le (VS : List Hd) (k : Nat) (h : k < VS.length) : sH (VS.drop k) = VS[k].n + sH (VS.drop (k + 1)) := by
  rw [List.drop_eq_getElem_cons h]; rfl
theorem own_hd {w : World} {base xc : Nat} {xa : Option Addr} {VS : List Hd} (h : w.ownsRow base 32 1 (.slice xa VS.length xc) VS.length (vH VS)) : VS = [] ∨ ∃ g, xa = some ⟨g, 0, none⟩ ∧ base ≤ g ∧ g < w.heap.size ∧ ∀ (i : Nat) (hi : i < VS.length), w.cell? ⟨g, i, none⟩ = some (.slice VS[i].a VS[i].n VS[i].c) := by
  by_cases h0 : VS.length = 0
  · exact .inl (List.length_eq_zero_iff.1 h0)
  · obtain ⟨g, cap, e, _, hg, hg2⟩ := own_block h (by omega)
    injection e with e1 e2 e3
    subst e1
    exact .inr ⟨g, rfl, hg, hg2, fun i hi => own_reads h rfl i _ (by simp [vH, hi])⟩
/-- Not too many of anything. -/
def ctB (nD nT nK nV : Nat) (SG : List Ts) : Bool := decide (nD ≤ 64) && decide (nT ≤ 64) && decide (nK ≤ 64) && decide (nV ≤ 64) && decide (SG.length ≤ 256) && decide (smN SG ≤ 4096) && decide (cgN SG ≤ 4096) && decide (allN SG ≤ 16384)
set_option maxRecDepth 100000 in
set_option maxHeartbeats 8000000 in
theorem counts_any (SG : List Ts) (pn : ByteArray) (ga ca da ta ka va sa : Option Addr) (nG nC nD nT nK nV gc cc dc tc kc vc sc : Nat) (stt : Int) (w : World) (hS : Tss (fun _ => True) w (.slice sa SG.length sc) SG)
    (lD : nD ≤ 4611686018427387904) (lT : nT ≤ 4611686018427387904) (lK : nK ≤ 4611686018427387904) (lV : nV ≤ 4611686018427387904) (lS : SG.length ≤ 4611686018427387904) :
    Calls Tryz.prog 32 #[(.agg #[.string pn, .slice ga nG gc, .slice ca nC cc, .slice da nD dc, .slice ta nT tc, .slice ka nK kc, .slice va nV vc, .slice sa SG.length sc, .int .i64 stt])] w fun e w' => e = .returned (.bool (ctB nD nT nK nV SG)) ∧ Below w.heap.size w w' := by
  have hb0 : Below w.heap.size w (w.alloc (.cells #[.string pn, .slice ga nG gc, .slice ca nC cc, .slice da nD dc, .slice ta nT tc, .slice ka nK kc, .slice va nV vc, .slice sa SG.length sc, .int .i64 stt] 31)) := bel1 _
  have K0 : Has (w.alloc (.cells #[.string pn, .slice ga nG gc, .slice ca nC cc, .slice da nD dc, .slice ta nT tc, .slice ka nK kc, .slice va nV vc, .slice sa SG.length sc, .int .i64 stt] 31)) w.heap.size #[.string pn, .slice ga nG gc, .slice ca nC cc, .slice da nD dc, .slice ta nT tc, .slice ka nK kc, .slice va nV vc, .slice sa SG.length sc, .int .i64 stt] := Has.new _ _ _ rfl
  by_cases h1 : nD ≤ 64
  case neg =>
    have s1 : (64 : Int) < (nD : Int) := by omega
    have hF : ctB nD nT nK nV SG = false := by unfold ctB; simp; omega
    rw [hF]
    clear hF hS
    go_enter Tryz.func32, Tryz.ntmps32
    go_wp2_with fail
    go_ret
    exact ⟨rfl, hb0⟩
  have s1 : ¬ (64 : Int) < (nD : Int) := by omega
  by_cases h2 : nT ≤ 64
  case neg =>
    have s2 : (64 : Int) < (nT : Int) := by omega
    have hF : ctB nD nT nK nV SG = false := by unfold ctB; simp; omega
    rw [hF]
    clear hF hS
    go_enter Tryz.func32, Tryz.ntmps32
    go_wp2_with fail
    go_ret
    exact ⟨rfl, hb0⟩
  have s2 : ¬ (64 : Int) < (nT : Int) := by omega
  by_cases h3 : nK ≤ 64
  case neg =>
    have s3 : (64 : Int) < (nK : Int) := by omega
    have hF : ctB nD nT nK nV SG = false := by unfold ctB; simp; omega
    rw [hF]
    clear hF hS
    go_enter Tryz.func32, Tryz.ntmps32
    go_wp2_with fail
    go_ret
    exact ⟨rfl, hb0⟩
  have s3 : ¬ (64 : Int) < (nK : Int) := by omega
  by_cases h4 : nV ≤ 64
  case neg =>
    have s4 : (64 : Int) < (nV : Int) := by omega
    have hF : ctB nD nT nK nV SG = false := by unfold ctB; simp; omega
    rw [hF]
    clear hF hS
    go_enter Tryz.func32, Tryz.ntmps32
    go_wp2_with fail
    go_ret
    exact ⟨rfl, hb0⟩
  have s4 : ¬ (64 : Int) < (nV : Int) := by omega
  by_cases h5 : SG.length ≤ 256
  case neg =>
    have s5 : (256 : Int) < (SG.length : Int) := by omega
    have hF : ctB nD nT nK nV SG = false := by unfold ctB; simp; omega
    rw [hF]
    clear hF hS
    go_enter Tryz.func32, Tryz.ntmps32
    go_wp2_with fail
    go_ret
    exact ⟨rfl, hb0⟩
  have s5 : ¬ (256 : Int) < (SG.length : Int) := by omega
  have kE := fun (X : World) (hX : Below w.heap.size w X) (hC : allC SG ≤ 1000000) => exprs_any SG pn ga ca da ta ka va sa nG nC nD nT nK nV gc cc dc tc kc vc sc stt X (Tss.below hS hX) h5 hC
  have hAN := tss_le hS
  have hAC := allC_eq SG
  have hF : ctB nD nT nK nV SG = (decide (smN SG ≤ 4096) && decide (cgN SG ≤ 4096) && decide (allN SG ≤ 16384)) := by unfold ctB; simp [h1, h2, h3, h4, h5]
  rw [hF]
  clear hF
  have hA0 : smN (SG.drop 0) = smN SG := rfl
  have hC0 : cgN (SG.drop 0) = cgN SG := rfl
  generalize smN SG = A at *
  generalize cgN SG = C at *
  generalize allN SG = M at *
  generalize allC SG = Q at *
  obtain ⟨_, _, e1, _, kS⟩ := Rows.any hS
  injection e1 with e1 _ e2
  subst e1
  subst e2
  clear hS
  go_enter Tryz.func32, Tryz.ntmps32
  go_wp2_with fail
  generalize (w.alloc (.cells #[.string pn, .slice ga nG gc, .slice ca nC cc, .slice da nD dc, .slice ta nT tc, .slice ka nK kc, .slice va nV vc, .slice sa SG.length sc, .int .i64 stt] 31)) = W0 at *
  go_loopw [3, 4, 41] (fun u v i wr => ∃ (k a b : Nat), k ≤ SG.length ∧ a ≤ k * 20000000000000 ∧ b ≤ k * 20000000000000 ∧ u = .int .i64 (a : Int) ∧ v = .int .i64 (b : Int) ∧ i = .int .i64 (k : Int) ∧ Hid (a + smN (SG.drop k) = A) ∧ Hid (b + cgN (SG.drop k) = C) ∧ Hid (Below W0.heap.size W0 wr)) (fun _ _ i _ => SG.length - (intOf i).toNat)
  case atStart => exact ⟨0, 0, 0, by omega, by omega, by omega, rfl, rfl, rfl, (by show _ = _; rw [hA0]; omega), (by show _ = _; rw [hC0]; omega), Below.refl _ _⟩
  case round =>
    clear hA0 hC0
    obtain ⟨k, a, b, hkl, ha, hbq, rfl, rfl, rfl, hq', hc', hb'⟩ := hrel
    have hq := hq'.out
    have hc := hc'.out
    have hb := hb'.out
    clear hq' hc' hb'
    have hbB := bel_after hb0 hb0.size hb
    have Kk := K0.below hb
    by_cases hlt : k < SG.length
    case neg =>
      have t1 : ¬ (k : Int) < (SG.length : Int) := by omega
      rw [smN_end SG k (by omega)] at hq
      rw [cgN_end SG k (by omega)] at hc
      obtain rfl : a = A := by omega
      obtain rfl : b = C := by omega
      clear kS hq hc
      by_cases z1 : a ≤ 4096
      case neg =>
        have t2 : (4096 : Int) < (a : Int) := by omega
        go_wp2_with fail
        go_ret
        exact ⟨by simp [z1], hbB⟩
      have t2 : ¬ (4096 : Int) < (a : Int) := by omega
      by_cases z2 : b ≤ 4096
      case neg =>
        have t3 : (4096 : Int) < (b : Int) := by omega
        go_wp2_with fail
        go_ret
        exact ⟨by simp [z1, z2], hbB⟩
      have t3 : ¬ (4096 : Int) < (b : Int) := by omega
      have kE2 := kE _ hbB (by omega)
      obtain ⟨_, v1, v2⟩ := id Kk
      go_wp2_with fail
      go_at_call 63
      refine Calls.mono kE2 ?_
      rintro e w3 ⟨⟨xa, xc, VS, rfl, oR, hsm, hvl⟩, h3⟩
      have hb3 := bel_after hbB hbB.size h3
      have hrow := own_hd oR
      have hS0 : sH (VS.drop 0) = sH VS := rfl
      rw [hsm] at hS0
      clear kE kE2 K0 Kk v1 v2 hb hbB oR hsm h3
      go_wp2_with fail
      go_loopw [5, 73] (fun u i wr => ∃ (m n : Nat), m ≤ VS.length ∧ u = .int .i64 (n : Int) ∧ i = .int .i64 (m : Int) ∧ Hid (n + sH (VS.drop m) = M) ∧ wr = w3) (fun _ i _ => VS.length - (intOf i).toNat)
      case atStart => exact ⟨0, 0, by omega, rfl, rfl, (by show _ = _; rw [hS0]; omega), rfl⟩
      case round =>
        clear hS0
        obtain ⟨m, n, hml, rfl, rfl, hq', rfl⟩ := hrel
        have hq := hq'.out
        clear hq'
        by_cases hm : m < VS.length
        case neg =>
          have t4 : ¬ (m : Int) < (VS.length : Int) := by omega
          rw [List.drop_eq_nil_of_le (by omega)] at hq
          obtain rfl : n = M := by simp [sH] at hq; omega
          clear hrow hq
          by_cases z3 : n ≤ 16384
          case neg =>
            have t5 : ¬ (n : Int) ≤ 16384 := by omega
            go_wp2_with fail
            go_ret
            exact ⟨by simp [z1, z2, z3], hb3⟩
          have t5 : (n : Int) ≤ 16384 := by omega
          go_wp2_with fail
          go_ret
          exact ⟨by simp [z1, z2, z3], hb3⟩
        case pos =>
          obtain ⟨g, rfl, hg1, hg2, hx⟩ := hrow.resolve_left (by intro e; rw [e] at hm; simp at hm)
          have p0 := hx m hm
          rw [sH_le VS m hm] at hq
          have t4 : (m : Int) < (VS.length : Int) := by omega
          have t6 : (0 : Int) ≤ (m : Int) := by omega
          clear hx hrow
          generalize VS[m].a = fa at *
          generalize VS[m].n = fl at *
          generalize VS[m].c = fc at *
          go_wp2_with fail
          go_roundw
          case rel => exact ⟨m + 1, n + fl, by omega, by go_num, by go_num, (by show _ = _; omega), (by first | rfl | trivial)⟩
          case measure => simp [intOf]; omega
    case pos =>
      obtain ⟨g, o, rfl, _, hg, hx⟩ := kS.resolve_left (by intro e; rw [e] at hlt; simp at hlt)
      obtain ⟨cs, _, ⟨ve, vd, vl, vn, rfl, q1, q2, q3, q4⟩, P2⟩ := hx k hlt
      have l1 := (sts_le q1).1
      have l2 := (sts_le q2).1
      have l3 := (sts_le q3).1
      have l4 := (tns_le q4).1
      obtain ⟨e1, c1, rfl, _, -⟩ := Rows.any q1
      obtain ⟨e2, c2, rfl, _, -⟩ := Rows.any q2
      obtain ⟨e3, c3, rfl, _, -⟩ := Rows.any q3
      obtain ⟨e4, c4, rfl, _, -⟩ := Rows.any q4
      have p0 := (hbB.cell (p := ⟨g, _, none⟩) hg).trans (P2 0 _ rfl)
      have p1 := (hbB.cell (p := ⟨g, _, none⟩) hg).trans (P2 1 _ rfl)
      have p2 := (hbB.cell (p := ⟨g, _, none⟩) hg).trans (P2 2 _ rfl)
      have p3 := (hbB.cell (p := ⟨g, _, none⟩) hg).trans (P2 3 _ rfl)
      have p4 := (hbB.cell (p := ⟨g, _, none⟩) hg).trans (P2 4 _ rfl)
      have p5 := (hbB.cell (p := ⟨g, _, none⟩) hg).trans (P2 5 _ rfl)
      have p6 := (hbB.cell (p := ⟨g, _, none⟩) hg).trans (P2 6 _ rfl)
      simp only [Nat.add_zero] at p0
      have t1 : (k : Int) < (SG.length : Int) := by omega
      have t0 : (0 : Int) ≤ (k : Int) := by omega
      rw [smN_drop SG k hlt] at hq
      rw [cgN_drop SG k hlt] at hc
      clear q1 q2 q3 q4 P2 hx kS kE
      generalize SG[k].enter.length = L1 at *
      generalize SG[k].during.length = L2 at *
      generalize SG[k].leave.length = L3 at *
      generalize SG[k].nexts.length = L4 at *
      generalize SG[k].name = x0 at *
      generalize SG[k].id = x1 at *
      generalize SG[k].green = x2 at *
      have hqH : Hid (a + (L1 + L2 + L3 + smN (SG.drop (k + 1))) = A) := hq
      have hcH : Hid (b + (L4 + cgN (SG.drop (k + 1))) = C) := hc
      have hb4 := hb.alloc hb.size (.cells #[.string x0, .int .i64 x1, .int .u64 x2, .slice e1 L1 c1, .slice e2 L2 c2, .slice e3 L3 c3, .slice e4 L4 c4] 81)
      clear hq hc
      go_wp2_with fail
      go_roundw
      case rel => exact ⟨k + 1, a + (L1 + L2 + L3), b + L4, by omega, by omega, by omega, by go_num, by go_num, by go_num, (by show _ = _; have := hqH.out; omega), (by show _ = _; have := hcH.out; omega), hb4⟩
      case measure => simp [intOf]; omega
end Go.Proofs.YtnicolaphmffkaaGreatDoor
