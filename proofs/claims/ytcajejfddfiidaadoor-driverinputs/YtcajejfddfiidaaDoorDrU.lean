import Derived.RangeFuncNested
import Derived.RangeFuncBound
import Derived.RangeFuncCalls
import Derived.RangeFuncLeaves
import Derived.Shelf.Abstract
import Derived.Shelf.RegionOpen
import Derived.OwnWalkIn
import Derived.TacticsInMore
import Derived.LoopNIn
import Derived.LoopIn
import Derived.Sort.LoopGhostIn
import Derived.Test.YtcajejfddfiidaaDoorDrT
namespace Go.Proofs.YtcajejfddfiidaaDoor
open Go.RowKit Go.Shelf
set_option linter.unusedVariables false
set_option linter.unusedSimpArgs false

def bs (l : List UInt8) : ByteArray := ⟨l.toArray⟩
theorem bs_data (l : List UInt8) : (bs l).data.toList = l := rfl
theorem bs_size (l : List UInt8) : (bs l).size = l.length := by simp [bs, ByteArray.size]
theorem cutU_last : ∀ (p : List UInt8), 10 ∉ p → p ≠ [] → cutU p = [p]
  | [], _, h => absurd rfl h
  | [c], h, _ => by
    have hc : c ≠ 10 := fun e => h (by simp [e])
    simp [cutU, hc]
  | c :: d :: p, h, _ => by
    have hc : c ≠ 10 := fun e => h (by simp [e])
    rw [cutU, if_neg hc, cutU_last (d :: p) (fun e => h (by simp only [List.mem_cons] at e ⊢; exact .inr e)) (by simp)]
theorem idx_split : ∀ (l : List UInt8), (Lib.indexByte l 10 = -1 ∧ 10 ∉ l) ∨ ∃ p q, l = p ++ 10 :: q ∧ 10 ∉ p ∧ Lib.indexByte l 10 = (p.length : Nat)
  | [] => .inl ⟨rfl, by simp⟩
  | c :: r => by
    by_cases hc : c = 10
    · subst hc
      exact .inr ⟨[], r, rfl, by simp, by simp [Lib.indexByte]⟩
    · have hb : (c == 10) = false := by simpa using hc
      rcases idx_split r with ⟨h1, h2⟩ | ⟨p, q, rfl, h2, h3⟩
      · left
        refine ⟨by unfold Lib.indexByte; rw [hb, h1]; rfl, ?_⟩
        simp only [List.mem_cons, not_or]
        exact ⟨fun e => hc e.symm, h2⟩
      · right
        refine ⟨c :: p, q, rfl, ?_, ?_⟩
        · simp only [List.mem_cons, not_or]
          exact ⟨fun e => hc e.symm, h2⟩
        · unfold Lib.indexByte
          rw [hb, h3]
          have : (((p.length : Nat) : Int) == -1) = false := by rw [beq_eq_false_iff_ne]; omega
          simp [this]
theorem Has.ofHeap {w : World} {b t : Nat} {vs : Array Value} (h : w.heap[b]? = some (.cells vs t (0, 0))) : Has w b vs :=
  ⟨(Array.getElem?_eq_some_iff.1 h).1, fun i => by rw [Lib.cell_of_heap h], fun i => Lib.frozen_of_heap h i⟩

attribute [local go_sem] Oper.semAt_some

theorem ext_bs (l : List UInt8) (a b : Nat) : (bs l).extract a b = bs ((l.drop a).take (b - a)) := by
  have h : ((bs l).extract a b).data = (l.toArray).extract a b := by simp [bs, ByteArray.data_extract]
  have h2 : (l.toArray).extract a b = ((l.drop a).take (b - a)).toArray := by simp
  show (bs l).extract a b = ⟨((l.drop a).take (b - a)).toArray⟩
  rw [← h2, ← h]
theorem sl_preL (p q : List UInt8) (w : World) : Sem.run Tryd.prog (Instr.slice 9 (.string (bs (p ++ 10 :: q))) none (some (.int .i64 ((p.length : Int) + 1))) none) w = .ok (.string (bs (p ++ [10]))) w := by
  have h1 : (0 : Int) ≤ (p.length : Int) + 1 := by omega
  have h2 : (p.length : Int) + 1 ≤ ((bs (p ++ 10 :: q)).size : Int) := by rw [bs_size]; simp; omega
  simp [go_sem, h1, h2]
  rw [ext_bs]
  congr 1
  simp [List.take_append, List.take_of_length_le]
theorem sl_sufL (p q : List UInt8) (w : World) : Sem.run Tryd.prog (Instr.slice 9 (.string (bs (p ++ 10 :: q))) (some (.int .i64 ((p.length : Int) + 1))) none none) w = .ok (.string (bs q)) w := by
  have h1 : (0 : Int) ≤ (p.length : Int) + 1 := by omega
  have h2 : (p.length : Int) + 1 ≤ ((bs (p ++ 10 :: q)).size : Int) := by rw [bs_size]; simp; omega
  simp [go_sem, h1, h2]
  rw [ext_bs, bs_size]
  congr 1
  have e1 : (p ++ 10 :: q).drop (p.length + 1) = q := by
    rw [show p ++ 10 :: q = (p ++ [10]) ++ q by simp, show p.length + 1 = (p ++ [10]).length by simp, List.drop_left]
  rw [e1]
  exact List.take_of_length_le (by simp; omega)

set_option maxRecDepth 100000 in
set_option maxHeartbeats 2000000 in
theorem lines1_any (l n sb : Nat) (X : List UInt8) (J Jx : List (List UInt8) → World → Prop) (W : World) (hX : X.length < 4611686018427387904) (hsb : W.heap[sb]? = some (.cells #[.string (bs X)] 9 (0, 0)))
    (hJ : ∀ pre A B, J pre A → Only (fun k => k = sb) A B → J pre B)
    (hY : ∀ pre x W1, J pre W1 → pre ++ [x] <+: cutU X → (∃ s', W1.heap[sb]? = some (.cells #[.string s'] 9 (0, 0))) → YieldAt Fence.wide (n - 1) Tryd.prog l #[.string (bs x)] W1 fun e W' =>
      (e = .returned (.bool true) ∧ J (pre ++ [x]) W' ∧ W1.heap.size ≤ W'.heap.size ∧ W'.heap[sb]? = W1.heap[sb]?) ∨ (e = .returned (.bool false) ∧ Jx (pre ++ [x]) W'))
    (h0 : J [] W) :
    CallsIn Fence.wide n Tryd.prog 37 #[.func (.yield l) #[] #[], .pointer (some ⟨sb, 0, none⟩)] W fun e W' => (∃ v, e = .returned v) ∧ (J (cutU X) W' ∨ ∃ pre, pre <+: cutU X ∧ Jx pre W') := by
  have hJ' : Hid _ := hJ
  have hY' : Hid _ := hY
  clear hJ hY
  refine callsIn_of_wp Tryd.func37 rfl trivial ?_ rfl
  simp only [Tryd.ntmps37, List.size_toArray, List.length_cons, List.length_nil, Nat.reduceAdd, Nat.reduceSub, Array.replicate_succ, Array.replicate_zero, List.push_toArray, List.append_toArray, List.nil_append, List.cons_append]
  gi_wp2
  gi_loopg [3, 4] (X.length + 1) (fun gk t3 t4 wr => ∃ (pre : List (List UInt8)) (rest : List UInt8), gk = rest.length + 1 ∧ Hid (cutU X = pre ++ cutU rest) ∧ rest.length ≤ X.length ∧ Hid (J pre wr) ∧ Hid (wr.heap[sb]? = some (.cells #[.string (bs rest)] 9 (0, 0))))
  case atStart => exact ⟨[], X, rfl, rfl, Nat.le_refl _, h0, hsb⟩
  case round =>
    obtain ⟨pre, rest, hgk, hcut, hrl, hJw, hHw⟩ := hrel
    have c0 : wr.cell? ⟨sb, 0, none⟩ = some (.string (bs rest)) := (Has.ofHeap hHw.out).2.1 0
    have f0 := (Has.ofHeap hHw.out).2.2 0
    rcases Nat.eq_zero_or_pos rest.length with hr0 | hrp
    · have hr : rest = [] := List.eq_nil_of_length_eq_zero hr0
      have hsz : ¬ (0 : Int) < ((bs rest).size : Int) := by rw [bs_size]; omega
      have hfin : Hid (J (cutU X) wr) := by
        show J _ _
        rw [hcut.out, hr]; simpa [cutU] using hJw.out
      clear hr hr0
      gi_wp2
      go_end0
      exact ⟨⟨_, rfl⟩, .inl hfin⟩
    · have hsz : (0 : Int) < ((bs rest).size : Int) := by rw [bs_size]; omega
      rcases idx_split rest with ⟨hi1, hi2⟩ | ⟨p, q, hpq, hi2, hi3⟩
      · have hI : ∀ w, CallsIn Fence.wide (n - 1) Tryd.prog 38 #[.string (bs rest), .int .u8 10] w fun e w' => e = .returned (.int .i64 (-1)) ∧ w = w' := fun w => callsIn_wide.2 ((Tryd.strings_IndexByte (bs rest) 10 w).mono fun e w' h => ⟨by rw [h.1]; show Ending.returned (.int .i64 (Lib.indexByte rest 10)) = _; rw [hi1], h.2.symm⟩)
        have hcl : cutU rest = [rest] := cutU_last rest hi2 (by intro e; rw [e] at hrp; simp at hrp)
        have hfin : Hid (cutU X = pre ++ [rest]) := by show _ = _; rw [hcut.out, hcl]
        have hHs : (wr.setCell ⟨sb, 0, none⟩ (.string ⟨#[]⟩)).heap[sb]? = some (.cells #[.string (bs [])] 9 (0, 0)) := by rw [heap_setCell_same wr sb 0 _ 9 _ hHw.out]; rfl
        obtain ⟨fn, tmps, assign, body, hy, hR⟩ := hY'.out pre rest (wr.setCell ⟨sb, 0, none⟩ (.string ⟨#[]⟩)) (hJ'.out _ _ _ hJw.out ((Only.refl (fun k => k = sb) _).set rfl _)) (by rw [hfin.out]; exact ⟨[], by simp⟩) ⟨_, hHs⟩
        clear hi1 hi2 hcl hcut
        gi_wp2_with (refine ⟨trivial, fun h => (by cases h), ?_⟩; gi_at_call 38; refine (hI _).mono ?_; rintro e w2 ⟨rfl, rfl⟩)
        refine ⟨fun h => (by cases h), hR.mono ?_⟩
        rintro e w3 (⟨rfl, hJ4, hK1, hK2⟩ | ⟨rfl, hJp⟩)
        · gi_wp2
          go_roundg 1
          case measure => go_light; omega
          case rel =>
            refine ⟨pre ++ [rest], [], rfl, by show _ = _; rw [hfin.out]; simp [cutU], Nat.zero_le _, hJ4, ?_⟩
            exact hK2.trans hHs
        · gi_wp2
          refine bodyPost_ret (results_none rfl _ _ _) rfl ?_
          exact ⟨⟨_, rfl⟩, .inr ⟨pre ++ [rest], by rw [hfin.out]; exact ⟨[], by simp⟩, hJp⟩⟩
      · subst hpq
        have hI : ∀ w, CallsIn Fence.wide (n - 1) Tryd.prog 38 #[.string (bs (p ++ 10 :: q)), .int .u8 10] w fun e w' => e = .returned (.int .i64 (p.length : Int)) ∧ w = w' := fun w => callsIn_wide.2 ((Tryd.strings_IndexByte (bs (p ++ 10 :: q)) 10 w).mono fun e w' h => ⟨by rw [h.1]; show Ending.returned (.int .i64 (Lib.indexByte (p ++ 10 :: q) 10)) = _; rw [hi3], h.2.symm⟩)
        have hfin : Hid (cutU X = pre ++ [p ++ [10]] ++ cutU q) := by show _ = _; rw [hcut.out, cutU_cut p q hi2]; simp
        have hHs : ((wr.setCell ⟨sb, 0, none⟩ (.string (bs q))).drew).heap[sb]? = some (.cells #[.string (bs q)] 9 (0, 0)) := by
          show (wr.setCell ⟨sb, 0, none⟩ (.string (bs q))).heap[sb]? = _
          rw [heap_setCell_same wr sb 0 _ 9 _ hHw.out]; rfl
        obtain ⟨fn, tmps, assign, body, hy, hR⟩ := hY'.out pre (p ++ [10]) ((wr.setCell ⟨sb, 0, none⟩ (.string (bs q))).drew) (hJ'.out _ _ _ hJw.out (((Only.refl (fun k => k = sb) _).set rfl _).drew)) (by rw [hfin.out]; exact ⟨cutU q, by simp⟩) ⟨_, hHs⟩
        have s1 := sl_preL p q
        have s2 := sl_sufL p q
        have hpl : (0 : Int) ≤ (p.length : Int) := by omega
        have hlq : q.length < (p ++ 10 :: q).length := by simp; omega
        have hwr : IntKind.i64.wrap ((p.length : Int) + 1) = (p.length : Int) + 1 := by rw [IntKind.wrap_i64]; simp at hrl; omega
        have hgk' : (p ++ 10 :: q).length + 1 ≤ gk := by omega
        clear hi2 hi3 hcut hgk
        gi_wp2_with (refine ⟨trivial, fun h => (by cases h), ?_⟩; gi_at_call 38; refine (hI _).mono ?_; rintro e w2 ⟨rfl, rfl⟩)
        gi_region
        gi_wp2
        refine ⟨fun h => (by cases h), hR.mono ?_⟩
        rintro e w3 (⟨rfl, hJ4, hK1, hK2⟩ | ⟨rfl, hJp⟩)
        · gi_wp2
          go_roundg (q.length + 1)
          case measure => go_light; omega
          case rel => exact ⟨pre ++ [p ++ [10]], q, rfl, hfin, by omega, hJ4, hK2.trans hHs⟩
        · gi_wp2
          refine bodyPost_ret (results_none rfl _ _ _) rfl ?_
          exact ⟨⟨_, rfl⟩, .inr ⟨pre ++ [p ++ [10]], by rw [hfin.out]; exact ⟨cutU q, by simp⟩, hJp⟩⟩
end Go.Proofs.YtcajejfddfiidaaDoor
