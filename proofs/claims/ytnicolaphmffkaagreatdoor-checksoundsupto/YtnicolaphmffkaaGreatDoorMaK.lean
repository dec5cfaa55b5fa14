import Derived.Test.YtnicolaphmffkaaGreatDoorMaJ
import Derived.Test.YtnicolaphmffkaaGreatDoorGdB
namespace Go.Proofs.YtnicolaphmffkaaGreatDoor
open Go.RowKit
set_option linter.unusedVariables false
set_option linter.unusedSimpArgs false

theorem any_step (L : List ByteArray) (x : ByteArray) (j : Nat) (h : j < L.length) : (L.drop j).any (eqT x) = (eqT x L[j] || (L.drop (j + 1)).any (eqT x)) := by
  rw [List.drop_eq_getElem_cons h, List.any_cons]
set_option maxRecDepth 100000 in
set_option maxHeartbeats 8000000 in
theorem unlike_any (NL : List ByteArray) (xa : Option Addr) (xc : Nat) (w : World) (hL : NL = [] ∨ ∃ g o, xa = some ⟨g, o, none⟩ ∧ g < w.heap.size ∧ ∀ (i : Nat) (hi : i < NL.length), w.cell? ⟨g, o + i, none⟩ = some (.string NL[i])) (hl : NL.length ≤ 4611686018427387904) (hm : ∀ s ∈ NL, Sm s) (t : Tb w) :
    Calls Tryz.prog 37 #[.slice xa NL.length xc] w fun e w' => e = .returned (.bool (ulF [] NL)) ∧ Below w.heap.size w w' := by
  have kI := fun (k : Nat) (hk : k < NL.length) (X : World) (hX : Below w.heap.size w X) => refKindOf_any NL[k] X (hm _ (List.getElem_mem hk)) (t.below hX).kt (t.below hX).st
  have hA0 : ulF (NL.take 0) (NL.drop 0) = ulF [] NL := rfl
  generalize ulF [] NL = A at *
  clear hm t
  go_enter Tryz.func37, Tryz.ntmps37
  go_wp2_with fail
  go_loopw [3] (fun i wr => ∃ k : Nat, k ≤ NL.length ∧ i = .int .i64 (k : Int) ∧ Hid (ulF (NL.take k) (NL.drop k) = A) ∧ Hid (Below w.heap.size w wr)) (fun i _ => NL.length - (intOf i).toNat)
  case atStart => exact ⟨0, by omega, rfl, hA0, Below.refl _ _⟩
  case round =>
    clear hA0
    obtain ⟨k, hkl, rfl, hq', hb'⟩ := hrel
    have hq := hq'.out
    have hb := hb'.out
    clear hq' hb'
    by_cases hlt : k < NL.length
    case neg =>
      have s1 : ¬ (k : Int) < (NL.length : Int) := by omega
      rw [ul_end NL k (by omega)] at hq
      subst hq
      clear kI hL
      go_wp2_with fail
      go_ret
      exact ⟨rfl, hb⟩
    case pos =>
      obtain ⟨g, o, rfl, hg, hx⟩ := hL.resolve_left (by intro e; rw [e] at hlt; simp at hlt)
      have p0 := (hb.cell (p := ⟨g, _, none⟩) hg).trans (hx k hlt)
      have s1 : (k : Int) < (NL.length : Int) := by omega
      have s0 : (0 : Int) ≤ (k : Int) := by omega
      rw [ul_step NL k hlt] at hq
      have cI := kI k hlt _ hb
      have hnm : nmB NL[k] = (kindL NL[k].data.toList == 1) := rfl
      rw [hnm] at hq
      generalize kindL NL[k].data.toList = kv at *
      clear kI hnm
      by_cases k1 : kv = 1
      case neg =>
        have n0 : (kv == 1) = false := by simpa using k1
        have n1 : (kv != 1) = true := by simpa using k1
        rw [n0] at hq
        simp only [Bool.false_and] at hq
        subst hq
        generalize NL[k] = x at *
        go_wp2_with (go_at_call 70; (with_reducible refine Calls.mono cI ?_); rintro e w5 ⟨rfl, h5⟩; have hb5 := bel_after hb hb.size h5)
        go_ret
        exact ⟨rfl, hb5⟩
      subst k1
      simp only [BEq.rfl, Bool.true_and] at hq
      have hkl' : (NL.take k).length = k := by rw [List.length_take]; omega
      have hxx : ∀ (j : Nat) (hj : j < (NL.take k).length), w.cell? ⟨g, o + j, none⟩ = some (.string (NL.take k)[j]) := fun j hj => by rw [List.getElem_take]; exact hx j (by omega)
      have hx0 := hx k hlt
      generalize hBB : ulF (NL.take (k + 1)) (NL.drop (k + 1)) = B at *
      have hBH : Hid (ulF (NL.take (k + 1)) (NL.drop (k + 1)) = B) := hBB
      clear hBB
      generalize hTK : NL.take k = TK at *
      have hTKH : Hid (NL.take k = TK) := hTK
      clear hTK
      generalize hxk : NL[k] = x at *
      have hxkH : Hid (NL[k] = x) := hxk
      clear hxk hx
      go_wp2_with (go_at_call 70; (with_reducible refine Calls.mono cI ?_); rintro e w5 ⟨rfl, h5⟩; have hb5 := bel_after hb hb.size h5)
      have hkH : Hid (TK.length = k) := hkl'
      clear hkl'
      go_loopw [4] (fun i wr => ∃ j : Nat, j ≤ k ∧ i = .int .i64 (j : Int) ∧ Hid ((!((TK.drop j).any (eqT x)) && B) = A) ∧ Hid (Below w.heap.size w wr)) (fun i _ => k - (intOf i).toNat)
      case atStart => exact ⟨0, by omega, rfl, hq, hb5⟩
      case round =>
        clear hq
        obtain ⟨j, hjk, rfl, hq', hb''⟩ := hrel
        have hq := hq'.out
        have hbj := hb''.out
        clear hq' hb''
        by_cases hj : j < k
        case neg =>
          have s2 : ¬ (j : Int) < (k : Int) := by omega
          rw [List.drop_eq_nil_of_le (by have := hkH.out; omega)] at hq
          have hq2 : B = A := by simpa using hq
          clear hq
          go_wp2_with fail
          go_roundw
          case rel => exact ⟨k + 1, by omega, by go_num, (by show _ = _; rw [hBH.out]; exact hq2), hbj⟩
          case measure => simp [intOf]; omega
        case pos =>
          have s2 : (j : Int) < (k : Int) := by omega
          have s3 : (0 : Int) ≤ (j : Int) := by omega
          have s4 : (j : Int) < (NL.length : Int) := by omega
          have hjt : j < TK.length := by have := hkH.out; omega
          rw [any_step TK x j hjt] at hq
          have q0 := (hbj.cell (p := ⟨g, _, none⟩) hg).trans (hxx j hjt)
          have q1 := (hbj.cell (p := ⟨g, _, none⟩) hg).trans hx0
          unfold eqT at hq
          generalize hyy : TK[j] = y at *
          clear hyy
          by_cases e0 : x.toList = y.toList
          · have e1 : (y.toList == x.toList) = true := by rw [e0]; simp
            have e2 : (x.toList == y.toList) = true := by rw [e0]; simp
            rw [e1] at hq
            simp only [Bool.true_or, Bool.not_true, Bool.false_and] at hq
            subst hq
            clear e1
            go_wp2_with fail
            go_quiet (fail)
            go_wp2_with fail
            all_goals go_ret
            all_goals exact ⟨rfl, bel_drewN hbj⟩
          · have e2 : (x.toList == y.toList) = false := by simpa using e0
            have e1 : (y.toList == x.toList) = false := by simpa using (fun q => e0 q.symm)
            rw [e1] at hq
            simp only [Bool.false_or] at hq
            clear e1
            go_wp2_with fail
            go_quiet (fail)
            go_wp2_with fail
            go_roundw
            case rel => exact ⟨j + 1, by omega, by go_num, hq, bel_drewN hbj⟩
            case measure => simp [intOf]; omega
end Go.Proofs.YtnicolaphmffkaaGreatDoor
namespace Go.Proofs.YtnicolaphmffkaaGreatDoor
open Go.RowKit
set_option linter.unusedVariables false
set_option linter.unusedSimpArgs false

set_option maxRecDepth 100000 in
set_option maxHeartbeats 8000000 in
theorem sizesOf_any (G : List Gp) (D : List Dt) (TM CT : List ByteArray) (VR : List Vr) (SG : List Ts) (pn : ByteArray) (ga ca da ta ka va sa : Option Addr) (gc nC cc dc tc kc vc sc : Nat) (stt : Int) (w : World) : Calls Tryz.prog 40 #[(.agg #[.string pn, .slice ga G.length gc, .slice ca nC cc, .slice da D.length dc, .slice ta TM.length tc, .slice ka CT.length kc, .slice va VR.length vc, .slice sa SG.length sc, .int .i64 stt])] w fun e w' => e = .returned (.agg #[.int .i64 (G.length : Int), .int .i64 (D.length : Int), .int .i64 (TM.length : Int), .int .i64 (CT.length : Int), .int .i64 (VR.length : Int)]) ∧ Below w.heap.size w w' := by
  have hb : Below w.heap.size w ((w.alloc (.cells #[.string pn, .slice ga G.length gc, .slice ca nC cc, .slice da D.length dc, .slice ta TM.length tc, .slice ka CT.length kc, .slice va VR.length vc, .slice sa SG.length sc, .int .i64 stt] 31)).alloc (.cells #[.int .i64 0, .int .i64 0, .int .i64 0, .int .i64 0, .int .i64 0] 104)) := ((Below.refl _ _).alloc (Nat.le_refl _) _).alloc (by simp) _
  have K : Has ((w.alloc (.cells #[.string pn, .slice ga G.length gc, .slice ca nC cc, .slice da D.length dc, .slice ta TM.length tc, .slice ka CT.length kc, .slice va VR.length vc, .slice sa SG.length sc, .int .i64 stt] 31)).alloc (.cells #[.int .i64 0, .int .i64 0, .int .i64 0, .int .i64 0, .int .i64 0] 104)) (w.heap.size + 1) #[.int .i64 0, .int .i64 0, .int .i64 0, .int .i64 0, .int .i64 0] := Has.new _ _ _ (by simp)
  go_enter Tryz.func40, Tryz.ntmps40
  go_wp2_with fail
  first
  | exact bodyPost_ret (v := .agg #[.int .i64 (G.length : Int), .int .i64 (D.length : Int), .int .i64 (TM.length : Int), .int .i64 (CT.length : Int), .int .i64 (VR.length : Int)]) (by simp [results, Tryz.results40, go_sem]) rfl ⟨rfl, by first | exact bel5 hb (by omega) _ _ _ _ _ | exact ((Below.refl _ _).alloc (Nat.le_refl _) _).alloc (by simp) _⟩
  | (obtain ⟨y0, Y1, y2⟩ := K.set5 (.int .i64 (G.length : Int)) (.int .i64 (D.length : Int)) (.int .i64 (TM.length : Int)) (.int .i64 (CT.length : Int)) (.int .i64 (VR.length : Int))
     exact bodyPost_ret (v := .agg #[.int .i64 (G.length : Int), .int .i64 (D.length : Int), .int .i64 (TM.length : Int), .int .i64 (CT.length : Int), .int .i64 (VR.length : Int)]) (by simp [results, Tryz.results40, go_sem, Y1]) rfl ⟨rfl, bel5 hb (by omega) _ _ _ _ _⟩)
set_option maxRecDepth 100000 in
set_option maxHeartbeats 8000000 in
theorem blocks_any (sn : ByteArray) (si sg : Int) (e1 e2 e3 e4 : Option Addr) (n1 c1 n2 c2 n3 c3 n4 c4 : Nat) (w : World) : Calls Tryz.prog 68 #[.agg #[.string sn, .int .i64 si, .int .u64 sg, .slice e1 n1 c1, .slice e2 n2 c2, .slice e3 n3 c3, .slice e4 n4 c4]] w fun e w' => e = .returned (.agg #[.slice e1 n1 c1, .slice e2 n2 c2, .slice e3 n3 c3]) ∧ Below w.heap.size w w' := by
  go_enter Tryz.func68, Tryz.ntmps68
  go_wp2_with fail
  exact bodyPost_ret (v := .agg #[.slice e1 n1 c1, .slice e2 n2 c2, .slice e3 n3 c3]) (by simp [results, Tryz.results68, go_sem]) rfl ⟨rfl, ((Below.refl _ _).alloc (Nat.le_refl _) _).alloc (by simp) _⟩
set_option maxRecDepth 100000 in
set_option maxHeartbeats 8000000 in
theorem det_any (x : Dt) (w : World) : Calls Tryz.prog 34 #[.agg #[.string x.name, .bool x.latch, .int .i64 x.delay, .int .i64 x.hold]] w fun e w' => e = .returned (.bool (timeB x.delay && timeB x.hold)) ∧ Below w.heap.size w w' := by
  obtain ⟨nm, lt, de, ho⟩ := x
  simp only
  have k1 := fun X => isTime_any de X
  have k2 := fun X => isTime_any ho X
  have hb : Below w.heap.size w (w.alloc (.cells #[.string nm, .bool lt, .int .i64 de, .int .i64 ho] 98)) := bel1 _
  cases h1 : timeB de with
  | false =>
    rw [h1] at k1
    go_enter Tryz.func34, Tryz.ntmps34
    go_wp2_with (go_at_call 59; (with_reducible refine Calls.mono (k1 _) ?_); rintro e wx ⟨rfl, hwx⟩; have hwy := hwx.symm; clear hwx; subst hwy)
    go_ret
    exact ⟨by simp, hb⟩
  | true =>
    rw [h1] at k1
    go_enter Tryz.func34, Tryz.ntmps34
    go_wp2_with fail
    go_at_call 59
    refine Calls.mono (k1 _) ?_
    rintro e wx ⟨rfl, hwx⟩
    have hwy := hwx.symm
    clear hwx
    subst hwy
    go_wp2_with fail
    go_at_call 59
    refine Calls.mono (k2 _) ?_
    rintro e wx ⟨rfl, hwx⟩
    have hwy := hwx.symm
    clear hwx
    subst hwy
    go_wp2_with fail
    go_ret
    exact ⟨by simp, hb⟩
end Go.Proofs.YtnicolaphmffkaaGreatDoor
namespace Go.Proofs.YtnicolaphmffkaaGreatDoor
open Go.RowKit
set_option linter.unusedVariables false
set_option linter.unusedSimpArgs false

/-- The nodes of a list's expressions. -/
def exN : List St → Nat
  | [] => 0
  | s :: L => s.expr.length + exN L
def nxN : List Tn → Nat
  | [] => 0
  | s :: L => s.wh.length + nxN L
def sgN (s : Ts) : Nat := exN s.enter + exN s.during + exN s.leave + nxN s.nexts
def sgC (s : Ts) : Nat := s.enter.length + s.during.length + s.leave.length + s.nexts.length
def allN : List Ts → Nat
  | [] => 0
  | s :: L => sgN s + allN L
def allC : List Ts → Nat
  | [] => 0
  | s :: L => sgC s + allC L
theorem exN_drop (L : List St) (k : Nat) (h : k < L.length) : exN (L.drop k) = L[k].expr.length + exN (L.drop (k + 1)) := by
  rw [List.drop_eq_getElem_cons h]; rfl
theorem nxN_drop (L : List Tn) (k : Nat) (h : k < L.length) : nxN (L.drop k) = L[k].wh.length + nxN (L.drop (k + 1)) := by
  rw [List.drop_eq_getElem_cons h]; rfl
theorem allN_drop (L : List Ts) (k : Nat) (h : k < L.length) : allN (L.drop k) = sgN L[k] + allN (L.drop (k + 1)) := by
  rw [List.drop_eq_getElem_cons h]; rfl
theorem allC_drop (L : List Ts) (k : Nat) (h : k < L.length) : allC (L.drop k) = sgC L[k] + allC (L.drop (k + 1)) := by
  rw [List.drop_eq_getElem_cons h]; rfl
theorem exN_end (L : List St) (k : Nat) (h : L.length ≤ k) : exN (L.drop k) = 0 := by rw [List.drop_eq_nil_of_le h]; rfl
theorem nxN_end (L : List Tn) (k : Nat) (h : L.length ≤ k) : nxN (L.drop k) = 0 := by rw [List.drop_eq_nil_of_le h]; rfl
theorem allN_end (L : List Ts) (k : Nat) (h : L.length ≤ k) : allN (L.drop k) = 0 := by rw [List.drop_eq_nil_of_le h]; rfl
/-- Lists' headers. -/
structure Hd where
  a : Option Addr
  n : Nat
  c : Nat
def vH (VS : List Hd) : List Value := VS.map fun x => .slice x.a x.n x.c
def sH : List Hd → Nat
  | [] => 0
  | x :: L => x.n + sH L
theorem sH_app (VS : List Hd) (x : Hd) : sH (VS ++ [x]) = sH VS + x.n := by
  induction VS with
  | nil => simp [sH]
  | cons y L ih => rw [List.cons_append]; unfold sH; rw [ih]; omega
theorem infoE : (Tryz.prog.info? 32).map (fun i => (i.zero, i.size, i.bytes)) = some (some (.slice none 0 0), 1, 24) := by kernel_rfl
theorem ix85 (a b c : Value) (X : World) : (Instr.index 146 (.agg #[a, b, c]) (.int .i64 0)).run Tryz.prog X = .ok a X ∧ (Instr.index 146 (.agg #[a, b, c]) (.int .i64 1)).run Tryz.prog X = .ok b X ∧ (Instr.index 146 (.agg #[a, b, c]) (.int .i64 2)).run Tryz.prog X = .ok c X := ⟨by kernel_rfl, by kernel_rfl, by kernel_rfl⟩
/-- The expressions, in a row of the call's own: how many nodes they have in all. -/
def ExP (N : Nat) (w : World) (e : Ending) (w' : World) : Prop := ∃ xa xc VS, e = .returned (.slice xa VS.length xc) ∧ w'.ownsRow w.heap.size 32 1 (.slice xa VS.length xc) VS.length (vH VS) ∧ sH VS = N ∧ VS.length ≤ 1000000
/-- A row's block is another. -/
def NQ (v : Value) (b : Nat) : Prop := ∀ q, v.ownBlock = some q → q ≠ b
theorem NQ.grow {v : Value} {b g' n c' sz s0 : Nat} (h : NQ v b) (dj : v.ownBlock = some g' ∨ sz ≤ g') (hb : b < s0) (hs : s0 ≤ sz := by simp; omega) : NQ (.slice (some ⟨g', 0, none⟩) n c') b := by
  intro q hq e
  have : q = g' := by simp [Value.ownBlock] at hq; omega
  subst this
  rcases dj with d | d
  · exact h _ d e
  · omega
def restN (L1 L2 L3 : List St) (j : Nat) : Nat := if j = 0 then exN L1 + exN L2 + exN L3 else if j = 1 then exN L2 + exN L3 else if j = 2 then exN L3 else 0
def restC (L1 L2 L3 : List St) (j : Nat) : Nat := if j = 0 then L1.length + L2.length + L3.length else if j = 1 then L2.length + L3.length else if j = 2 then L3.length else 0
/-- Statements as they are read, the address told. -/
def RdS (w : World) (a : Option Addr) (L : List St) : Prop := L = [] ∨ ∃ g o, a = some ⟨g, o, none⟩ ∧ True ∧ g < w.heap.size ∧ ∀ (i : Nat) (h : i < L.length), ∃ cs, cs.length = 6 ∧ StR (fun _ => True) w cs L[i] ∧ ∀ j u, cs[j]? = some u → w.cell? ⟨g, o + i * 6 + j, none⟩ = some u
set_option maxRecDepth 100000 in
set_option maxHeartbeats 8000000 in
theorem exprs_any (SG : List Ts) (pn : ByteArray) (ga ca da ta ka va sa : Option Addr) (nG nC nD nT nK nV gc cc dc tc kc vc sc : Nat) (stt : Int) (w : World) (hS : Tss (fun _ => True) w (.slice sa SG.length sc) SG) (lS : SG.length ≤ 256) (hC : allC SG ≤ 1000000) :
    Calls Tryz.prog 63 #[(.agg #[.string pn, .slice ga nG gc, .slice ca nC cc, .slice da nD dc, .slice ta nT tc, .slice ka nK kc, .slice va nV vc, .slice sa SG.length sc, .int .i64 stt])] w fun e w' => ExP (allN SG) w e w' ∧ Below w.heap.size w w' := by
  obtain ⟨_, _, e1, _, kS⟩ := Rows.any hS
  injection e1 with e1 _ e2
  subst e1
  subst e2
  clear hS
  obtain ⟨ti, hi, hi0, hi1, hi2⟩ := info_parts infoE
  have hA0 : allN (SG.drop 0) = allN SG := rfl
  have hC0 : allC (SG.drop 0) = allC SG := rfl
  generalize allN SG = A at *
  have hb0 : Below w.heap.size w (w.alloc (.cells #[.string pn, .slice ga nG gc, .slice ca nC cc, .slice da nD dc, .slice ta nT tc, .slice ka nK kc, .slice va nV vc, .slice sa SG.length sc, .int .i64 stt] 31)) := bel1 _
  have K0 : Has (w.alloc (.cells #[.string pn, .slice ga nG gc, .slice ca nC cc, .slice da nD dc, .slice ta nT tc, .slice ka nK kc, .slice va nV vc, .slice sa SG.length sc, .int .i64 stt] 31)) w.heap.size #[.string pn, .slice ga nG gc, .slice ca nC cc, .slice da nD dc, .slice ta nT tc, .slice ka nK kc, .slice va nV vc, .slice sa SG.length sc, .int .i64 stt] := Has.new _ _ _ rfl
  go_enter Tryz.func63, Tryz.ntmps63
  go_wp2_with fail
  generalize (w.alloc (.cells #[.string pn, .slice ga nG gc, .slice ca nC cc, .slice da nD dc, .slice ta nT tc, .slice ka nK kc, .slice va nV vc, .slice sa SG.length sc, .int .i64 stt] 31)) = W0 at *
  go_loopw [3, 15] (fun u i wr => ∃ (k n : Nat) (VS : List Hd) (xa : Option Addr) (xc : Nat), k ≤ SG.length ∧ n ≤ 1000000 ∧ u = .slice xa n xc ∧ i = .int .i64 (k : Int) ∧ Hid (VS.length = n ∧ n + (allC (SG.drop k)) ≤ 1000000) ∧ Hid (sH VS + (allN (SG.drop k)) = A) ∧ Hid (wr.ownsRow W0.heap.size 32 1 (.slice xa n xc) n (vH VS)) ∧ Hid (Below W0.heap.size W0 wr) ) (fun _ i _ => SG.length - (intOf i).toNat)
  case atStart => exact ⟨0, 0, [], none, 0, by omega, by omega, rfl, rfl, ⟨rfl, by rw [hC0]; omega⟩, (by show _ = _; rw [hA0]; simp [sH]), World.ownsRow_nil _ _ _ _, Below.refl _ _⟩
  case round =>
    clear hA0 hC0 hC
    obtain ⟨k, n, VS, xa, xc, hkl, hn, rfl, rfl, hvl', hq', ow', hb'⟩ := hrel
    have ⟨hvl, hcn⟩ := hvl'.out
    have hq := hq'.out
    have ow := ow'.out
    have hb := hb'.out
    clear hvl' hq' ow' hb'
    have hbB := bel_after hb0 hb0.size hb
    by_cases hlt : k < SG.length
    case neg =>
      have s1 : ¬ (k : Int) < (SG.length : Int) := by omega
      rw [allN_end SG k (by omega)] at hq
      have hqH : Hid (sH VS + 0 = A) := hq
      have hvH : Hid (VS.length = n) := hvl
      clear hq hvl hcn kS
      go_wp2_with fail
      go_ret
      exact ⟨⟨xa, xc, VS, by rw [hvH.out]; rfl, (by rw [hvH.out]; exact own_mono ow hb0.size), by have := hqH.out; omega, by rw [hvH.out]; exact hn⟩, hbB⟩
    case pos =>
      obtain ⟨g, o, rfl, _, hg, hx⟩ := kS.resolve_left (by intro e; rw [e] at hlt; simp at hlt)
      obtain ⟨cs, _, ⟨ve, vd, vl, vn, rfl, q1, q2, q3, q4⟩, P2⟩ := hx k hlt
      obtain ⟨e1, c1, rfl, _, k1⟩ := Rows.any q1
      obtain ⟨e2, c2, rfl, _, k2⟩ := Rows.any q2
      obtain ⟨e3, c3, rfl, _, k3⟩ := Rows.any q3
      obtain ⟨e4, c4, rfl, _, k4⟩ := Rows.any q4
      have p0 := (hbB.cell (p := ⟨g, _, none⟩) hg).trans (P2 0 _ rfl)
      have p1 := (hbB.cell (p := ⟨g, _, none⟩) hg).trans (P2 1 _ rfl)
      have p2 := (hbB.cell (p := ⟨g, _, none⟩) hg).trans (P2 2 _ rfl)
      have p3 := (hbB.cell (p := ⟨g, _, none⟩) hg).trans (P2 3 _ rfl)
      have p4 := (hbB.cell (p := ⟨g, _, none⟩) hg).trans (P2 4 _ rfl)
      have p5 := (hbB.cell (p := ⟨g, _, none⟩) hg).trans (P2 5 _ rfl)
      have p6 := (hbB.cell (p := ⟨g, _, none⟩) hg).trans (P2 6 _ rfl)
      simp only [Nat.add_zero] at p0
      have s1 : (k : Int) < (SG.length : Int) := by omega
      have s0 : (0 : Int) ≤ (k : Int) := by omega
      rw [allN_drop SG k hlt] at hq
      rw [allC_drop SG k hlt] at hcn
      unfold sgN at hq
      unfold sgC at hcn
      clear q1 q2 q3 q4 P2 hx kS
      generalize SG[k].enter = L1 at *
      generalize SG[k].during = L2 at *
      generalize SG[k].leave = L3 at *
      generalize SG[k].nexts = L4 at *
      generalize SG[k].name = x0 at *
      generalize SG[k].id = x1 at *
      generalize SG[k].green = x2 at *
      have kB := blocks_any x0 x1 x2 e1 e2 e3 e4 L1.length c1 L2.length c2 L3.length c3 L4.length c4 (wr.alloc (.cells #[.string x0, .int .i64 x1, .int .u64 x2, .slice e1 L1.length c1, .slice e2 L2.length c2, .slice e3 L3.length c3, .slice e4 L4.length c4] 81))
      have KS0 : Has (wr.alloc (.cells #[.string x0, .int .i64 x1, .int .u64 x2, .slice e1 L1.length c1, .slice e2 L2.length c2, .slice e3 L3.length c3, .slice e4 L4.length c4] 81)) wr.heap.size #[.string x0, .int .i64 x1, .int .u64 x2, .slice e1 L1.length c1, .slice e2 L2.length c2, .slice e3 L3.length c3, .slice e4 L4.length c4] := Has.new _ _ _ rfl
      have hbS0 := hb.alloc hb.size (.cells #[.string x0, .int .i64 x1, .int .u64 x2, .slice e1 L1.length c1, .slice e2 L2.length c2, .slice e3 L3.length c3, .slice e4 L4.length c4] 81)
      have oS0 := own_bel ow (bel1 (.cells #[.string x0, .int .i64 x1, .int .u64 x2, .slice e1 L1.length c1, .slice e2 L2.length c2, .slice e3 L3.length c3, .slice e4 L4.length c4] 81))
      have hgl := fun g (hg : (Value.slice xa n xc).ownBlock = some g) => (own_lt ow g hg).2
      go_wp2_with fail
      go_at_call 68
      refine Calls.mono kB ?_
      rintro e wb ⟨rfl, hB⟩
      have hbS := bel_after hbS0 hbS0.size hB
      have owS := own_bel oS0 hB
      have KQ := KS0.below hB
      have nq : NQ (.slice xa n xc) wr.heap.size := fun q hq e => by have := hgl q hq; omega
      clear hgl hb ow hbB hbS0 oS0 KS0 kB p0 p1 p2 p3 p4 p5 p6 hB
      generalize hwq : wr.heap.size = wq at *
      go_wp2_with fail
      go_loopw [3, 21] (fun u i wr => ∃ (j n : Nat) (VS : List Hd) (xa : Option Addr) (xc : Nat), j ≤ 3 ∧ n ≤ 1000000 ∧ u = .slice xa n xc ∧ i = .int .i64 (j : Int) ∧ Hid (VS.length = n ∧ n + (restC L1 L2 L3 j + (L4.length + allC (SG.drop (k + 1)))) ≤ 1000000) ∧ Hid (sH VS + (restN L1 L2 L3 j + (nxN L4 + allN (SG.drop (k + 1)))) = A) ∧ Hid (wr.ownsRow W0.heap.size 32 1 (.slice xa n xc) n (vH VS)) ∧ Hid (Has wr wq #[.string x0, .int .i64 x1, .int .u64 x2, .slice e1 L1.length c1, .slice e2 L2.length c2, .slice e3 L3.length c3, .slice e4 L4.length c4] ∧ NQ (.slice xa n xc) wq) ∧ Hid (Below W0.heap.size W0 wr) ) (fun _ i _ => 3 - (intOf i).toNat)
      case atStart => exact ⟨0, n, VS, xa, xc, by omega, by omega, rfl, rfl, ⟨hvl, (by show _ ≤ _; unfold restC; simp only [if_true]; omega)⟩, (by show _ = _; unfold restN; simp only [if_true]; omega), owS, ⟨KQ, nq⟩, hbS⟩
      case round =>
        clear owS hbS hq hcn hvl KQ nq
        obtain ⟨j, n, VS, xa, xc, hj3, hn, rfl, rfl, hvl', hq', ow', KQ', hb'⟩ := hrel
        have ⟨hvl, hcn⟩ := hvl'.out
        have hq := hq'.out
        have ow := ow'.out
        have ⟨KQ, nq⟩ := KQ'.out
        have hb := hb'.out
        clear hvl' hq' ow' KQ' hb'
        have hbB := bel_after hb0 hb0.size hb
        obtain ⟨_, kq1, kq2⟩ := id KQ
        by_cases hj : j < 3
        case neg =>
          have s3 : ¬ (j : Int) < 3 := by omega
          obtain rfl : j = 3 := by omega
          have hr1 : restN L1 L2 L3 3 = 0 := rfl
          have hr2 : restC L1 L2 L3 3 = 0 := rfl
          rw [hr1] at hq
          rw [hr2] at hcn
          clear hr1 hr2 nq
          have hLl : L4.length ≤ 1000000 := by omega
          go_wp2_with fail
          go_loopw [3, 40] (fun u i wr => ∃ (m n : Nat) (VS : List Hd) (xa : Option Addr) (xc : Nat), m ≤ L4.length ∧ n ≤ 1000000 ∧ u = .slice xa n xc ∧ i = .int .i64 (m : Int) ∧ Hid (VS.length = n ∧ n + (L4.length - m + allC (SG.drop (k + 1))) ≤ 1000000) ∧ Hid (sH VS + (nxN (L4.drop m) + allN (SG.drop (k + 1))) = A) ∧ Hid (wr.ownsRow W0.heap.size 32 1 (.slice xa n xc) n (vH VS)) ∧ Hid (Below W0.heap.size W0 wr) ) (fun _ i _ => L4.length - (intOf i).toNat)
          case atStart => exact ⟨0, n, VS, xa, xc, by omega, by omega, rfl, rfl, ⟨hvl, by omega⟩, (by show _ = _; rw [List.drop_zero]; omega), ow, hb⟩
          case round =>
            clear ow hb hbB hq hcn hvl
            obtain ⟨m, n, VS, xa, xc, hml, hn, rfl, rfl, hvl', hq', ow', hb'⟩ := hrel
            have ⟨hvl, hcn⟩ := hvl'.out
            have hq := hq'.out
            have ow := ow'.out
            have hb := hb'.out
            clear hvl' hq' ow' hb'
            have hbB := bel_after hb0 hb0.size hb
            by_cases hm : m < L4.length
            case neg =>
              have s3 : ¬ (m : Int) < (L4.length : Int) := by omega
              rw [nxN_end L4 m (by omega)] at hq
              go_wp2_with fail
              go_roundw
              case rel => exact ⟨k + 1, n, VS, _, _, by omega, by omega, rfl, by go_num, ⟨hvl, by omega⟩, (by show _ = _; omega), ow, hb⟩
              case measure => simp [intOf]; omega
            case pos =>
              obtain ⟨g2, o2, rfl, _, hg2, hx2⟩ := k4.resolve_left (by intro e; rw [e] at hm; simp at hm)
              obtain ⟨cs2, _, ⟨v2, rfl, hv2⟩, h32⟩ := hx2 m hm
              obtain ⟨fa, fc, rfl, -⟩ := Rows.any hv2
              have p0 := (hbB.cell (p := ⟨g2, _, none⟩) hg2).trans (h32 0 _ rfl)
              have p1 := (hbB.cell (p := ⟨g2, _, none⟩) hg2).trans (h32 1 _ rfl)
              simp only [Nat.add_zero] at p0
              have s3 : (m : Int) < (L4.length : Int) := by omega
              have s2 : (0 : Int) ≤ (m : Int) := by omega
              rw [nxN_drop L4 m hm] at hq
              clear h32 hv2 hx2
              generalize L4[m].wh.length = fl at *
              generalize L4[m].dst = w0 at *
              have hqH : Hid (sH VS + (fl + nxN (L4.drop (m + 1)) + allN (SG.drop (k + 1))) = A) := hq
              have hvH : Hid (VS.length = n) := hvl
              clear hq hvl
              have hbN := hb.alloc hb.size (.cells #[.int .i64 w0, .slice fa fl fc] 84)
              have oN := own_bel ow (bel1 (.cells #[.int .i64 w0, .slice fa fl fc] 84))
              go_wp2_with (at_builtin; (refine wpList_append_mine _ rfl _ _ 34 rfl W0.heap.size 32 ti _ 1 24 Tryz.underlying34 hi hi0 hi1 hi2 rfl (by decide) (.slice xa n xc) n (vH VS) rfl (own_bel oN (bel1 _)) ⟨wr.heap.size + 1, 0, none⟩ 1 1 [.slice fa fl fc] rfl rfl (cells_at (W := wr.alloc (.cells #[.int .i64 w0, .slice fa fl fc] 84)) (b := wr.heap.size + 1) (by simp) _ _) (all_one rfl) (by decide) (by unfold maxLen; omega) (by omega) (by have := hb.size; simp; omega) ?_); intro g' c' y o3 gr _ _ _; have b3 := grown_bel (hbN.alloc hbN.size _) gr (Nat.le_refl _) (fun q hq => (own_lt oN q hq).1))
              go_roundw
              case rel => exact ⟨m + 1, n + 1, VS ++ [⟨fa, fl, fc⟩], _, _, by omega, by omega, rfl, by go_num, ⟨(by have := hvH.out; simp; omega), by omega⟩, (by show _ = _; rw [sH_app]; have := hqH.out; simp only; omega), (by show World.ownsRow _ _ _ _ _ _ _; rw [show vH (VS ++ [⟨fa, fl, fc⟩]) = vH VS ++ [.slice fa fl fc] by simp [vH]]; exact o3), b3⟩
              case measure => simp [intOf]; omega
        case pos =>
          have s3 : (j : Int) < 3 := by omega
          have hsel : ∃ (LJ : List St) (eJ : Option Addr) (cJ : Nat), (∀ X, (Instr.index 146 (.agg #[.slice e1 L1.length c1, .slice e2 L2.length c2, .slice e3 L3.length c3]) (.int .i64 (j : Int))).run Tryz.prog X = .ok (.slice eJ LJ.length cJ) X) ∧ RdS w eJ LJ ∧ restN L1 L2 L3 j = exN LJ + restN L1 L2 L3 (j + 1) ∧ restC L1 L2 L3 j = LJ.length + restC L1 L2 L3 (j + 1) := by
            have : j = 0 ∨ j = 1 ∨ j = 2 := by omega
            rcases this with rfl | rfl | rfl
            · exact ⟨L1, e1, c1, fun X => (ix85 _ _ _ X).1, k1, by simp [restN]; omega, by simp [restC]; omega⟩
            · exact ⟨L2, e2, c2, fun X => (ix85 _ _ _ X).2.1, k2, by simp [restN], by simp [restC]⟩
            · exact ⟨L3, e3, c3, fun X => (ix85 _ _ _ X).2.2, k3, by simp [restN], by simp [restC]⟩
          obtain ⟨LJ, eJ, cJ, hix, hJ, hr1, hr2⟩ := hsel
          unfold RdS at hJ
          rw [hr1] at hq
          rw [hr2] at hcn
          clear hr1 hr2
          have hLl : LJ.length ≤ 1000000 := by omega
          go_wp2_with fail
          go_loopw [3, 26] (fun u i wr => ∃ (m n : Nat) (VS : List Hd) (xa : Option Addr) (xc : Nat), m ≤ LJ.length ∧ n ≤ 1000000 ∧ u = .slice xa n xc ∧ i = .int .i64 (m : Int) ∧ Hid (VS.length = n ∧ n + (LJ.length - m + (restC L1 L2 L3 (j + 1) + (L4.length + allC (SG.drop (k + 1))))) ≤ 1000000) ∧ Hid (sH VS + (exN (LJ.drop m) + (restN L1 L2 L3 (j + 1) + (nxN L4 + allN (SG.drop (k + 1))))) = A) ∧ Hid (wr.ownsRow W0.heap.size 32 1 (.slice xa n xc) n (vH VS)) ∧ Hid (Has wr wq #[.string x0, .int .i64 x1, .int .u64 x2, .slice e1 L1.length c1, .slice e2 L2.length c2, .slice e3 L3.length c3, .slice e4 L4.length c4] ∧ NQ (.slice xa n xc) wq) ∧ Hid (Below W0.heap.size W0 wr) ) (fun _ i _ => LJ.length - (intOf i).toNat)
          case atStart => exact ⟨0, n, VS, xa, xc, by omega, by omega, rfl, rfl, ⟨hvl, by omega⟩, (by show _ = _; rw [List.drop_zero]; omega), ow, ⟨KQ, nq⟩, hb⟩
          case round =>
            clear ow hb hbB hq hcn hvl KQ nq
            obtain ⟨m, n, VS, xa, xc, hml, hn, rfl, rfl, hvl', hq', ow', KQ', hb'⟩ := hrel
            have ⟨hvl, hcn⟩ := hvl'.out
            have hq := hq'.out
            have ow := ow'.out
            have ⟨KQ, nq⟩ := KQ'.out
            have hb := hb'.out
            clear hvl' hq' ow' KQ' hb'
            have hbB := bel_after hb0 hb0.size hb
            by_cases hm : m < LJ.length
            case neg =>
              have s3 : ¬ (m : Int) < (LJ.length : Int) := by omega
              rw [exN_end LJ m (by omega)] at hq
              go_wp2_with fail
              go_roundw
              case rel => exact ⟨j + 1, n, VS, _, _, by omega, by omega, rfl, by go_num, ⟨hvl, by omega⟩, (by show _ = _; omega), ow, ⟨KQ, nq⟩, hb⟩
              case measure => simp [intOf]; omega
            case pos =>
              obtain ⟨g2, o2, rfl, _, hg2, hx2⟩ := hJ.resolve_left (by intro e; rw [e] at hm; simp at hm)
              obtain ⟨cs2, _, ⟨v2, rfl, hv2⟩, h32⟩ := hx2 m hm
              obtain ⟨fa, fc, rfl, -⟩ := Rows.any hv2
              have p0 := (hbB.cell (p := ⟨g2, _, none⟩) hg2).trans (h32 0 _ rfl)
              have p1 := (hbB.cell (p := ⟨g2, _, none⟩) hg2).trans (h32 1 _ rfl)
              have p2 := (hbB.cell (p := ⟨g2, _, none⟩) hg2).trans (h32 2 _ rfl)
              have p3 := (hbB.cell (p := ⟨g2, _, none⟩) hg2).trans (h32 3 _ rfl)
              have p4 := (hbB.cell (p := ⟨g2, _, none⟩) hg2).trans (h32 4 _ rfl)
              have p5 := (hbB.cell (p := ⟨g2, _, none⟩) hg2).trans (h32 5 _ rfl)
              simp only [Nat.add_zero] at p0
              have s3 : (m : Int) < (LJ.length : Int) := by omega
              have s2 : (0 : Int) ≤ (m : Int) := by omega
              rw [exN_drop LJ m hm] at hq
              clear h32 hv2 hx2
              generalize LJ[m].expr.length = fl at *
              generalize LJ[m].kind = w0 at *
              generalize LJ[m].name = w1 at *
              generalize LJ[m].ix = w2 at *
              generalize LJ[m].line = w3 at *
              generalize LJ[m].col = w4 at *
              have hqH : Hid (sH VS + (fl + exN (LJ.drop (m + 1)) + (restN L1 L2 L3 (j + 1) + (nxN L4 + allN (SG.drop (k + 1))))) = A) := hq
              have hvH : Hid (VS.length = n) := hvl
              clear hq hvl
              have hbN := hb.alloc hb.size (.cells #[.int .i64 w0, .string w1, .int .i64 w2, .slice fa fl fc, .int .i64 w3, .int .i64 w4] 133)
              have oN := own_bel ow (bel1 (.cells #[.int .i64 w0, .string w1, .int .i64 w2, .slice fa fl fc, .int .i64 w3, .int .i64 w4] 133))
              go_wp2_with (at_builtin; (refine wpList_append_mine _ rfl _ _ 34 rfl W0.heap.size 32 ti _ 1 24 Tryz.underlying34 hi hi0 hi1 hi2 rfl (by decide) (.slice xa n xc) n (vH VS) rfl (own_bel oN (bel1 _)) ⟨wr.heap.size + 1, 0, none⟩ 1 1 [.slice fa fl fc] rfl rfl (cells_at (W := wr.alloc (.cells #[.int .i64 w0, .string w1, .int .i64 w2, .slice fa fl fc, .int .i64 w3, .int .i64 w4] 133)) (b := wr.heap.size + 1) (by simp) _ _) (all_one rfl) (by decide) (by unfold maxLen; omega) (by omega) (by have := hb.size; simp; omega) ?_); intro g' c' y o3 gr dj _ _; have b3 := grown_bel (hbN.alloc hbN.size _) gr (Nat.le_refl _) (fun q hq => (own_lt oN q hq).1))
              have KQ2 := (KQ.alloc (.cells #[.int .i64 w0, .string w1, .int .i64 w2, .slice fa fl fc, .int .i64 w3, .int .i64 w4] 133)).alloc (.cells #[.slice fa fl fc] 32)
              have KQ3 := KQ2.blk gr.size (gr.block _ KQ2.1 (fun e => nq wq e.symm rfl))
              have nq3 : NQ (.slice (some ⟨g', 0, none⟩) (n + 1) c') wq := nq.grow dj KQ.1
              go_roundw
              case rel => exact ⟨m + 1, n + 1, VS ++ [⟨fa, fl, fc⟩], _, _, by omega, by omega, rfl, by go_num, ⟨(by have := hvH.out; simp; omega), by omega⟩, (by show _ = _; rw [sH_app]; have := hqH.out; simp only; omega), (by show World.ownsRow _ _ _ _ _ _ _; rw [show vH (VS ++ [⟨fa, fl, fc⟩]) = vH VS ++ [.slice fa fl fc] by simp [vH]]; exact o3), ⟨KQ3, nq3⟩, b3⟩
              case measure => simp [intOf]; omega
end Go.Proofs.YtnicolaphmffkaaGreatDoor
