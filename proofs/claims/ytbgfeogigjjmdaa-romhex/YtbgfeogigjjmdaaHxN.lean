import Derived.Test.YtbgfeogigjjmdaaHxL
namespace Go.Proofs.Ytbgfeogigjjmdaa
open Go.RowKit Go.Shelf
set_option linter.unusedVariables false

attribute [local go_sem] Oper.semAt_some

theorem ext_bs (l : List UInt8) (a b : Nat) : (bs l).extract a b = bs ((l.drop a).take (b - a)) := by
  have h : ((bs l).extract a b).data = (l.toArray).extract a b := by simp [bs, ByteArray.data_extract]
  have h2 : (l.toArray).extract a b = ((l.drop a).take (b - a)).toArray := by simp
  show (bs l).extract a b = ⟨((l.drop a).take (b - a)).toArray⟩
  rw [← h2, ← h]
theorem sl_pre (p q : List UInt8) (w : World) : Sem.run Try.prog (Instr.slice 9 (.string (bs (p ++ 10 :: q))) none (some (.int .i64 ((p.length : Int) + 1))) none) w = .ok (.string (bs (p ++ [10]))) w := by
  have h1 : (0 : Int) ≤ (p.length : Int) + 1 := by omega
  have h2 : (p.length : Int) + 1 ≤ ((bs (p ++ 10 :: q)).size : Int) := by rw [bs_size]; simp; omega
  simp [go_sem, h1, h2]
  rw [ext_bs]
  congr 1
  simp [List.take_append, List.take_of_length_le]
theorem sl_suf (p q : List UInt8) (w : World) : Sem.run Try.prog (Instr.slice 9 (.string (bs (p ++ 10 :: q))) (some (.int .i64 ((p.length : Int) + 1))) none none) w = .ok (.string (bs q)) w := by
  have h1 : (0 : Int) ≤ (p.length : Int) + 1 := by omega
  have h2 : (p.length : Int) + 1 ≤ ((bs (p ++ 10 :: q)).size : Int) := by rw [bs_size]; simp; omega
  simp [go_sem, h1, h2]
  rw [ext_bs, bs_size]
  congr 1
  have e1 : (p ++ 10 :: q).drop (p.length + 1) = q := by
    rw [show p ++ 10 :: q = (p ++ [10]) ++ q by simp, show p.length + 1 = (p ++ [10]).length by simp, List.drop_left]
  rw [e1]
  exact List.take_of_length_le (by simp; omega)

set_option maxRecDepth 100000 in
set_option maxHeartbeats 2000000 in
theorem lines1_any (l n sb : Nat) (X : List UInt8) (J : List (List UInt8) → World → Prop) (Jp : List PanicEntry → World → Prop) (W : World) (hX : X.length < 4611686018427387904) (hsb : W.heap[sb]? = some (.cells #[.string (bs X)] 9 (0, 0)))
    (hJ : ∀ pre A B, J pre A → Only (fun k => k = sb) A B → J pre B)
    (hY : ∀ pre x W1, J pre W1 → pre ++ [x] <+: cutU X → (∃ s', W1.heap[sb]? = some (.cells #[.string s'] 9 (0, 0))) → YieldAt Fence.wide (n - 1) Try.prog l #[.string (bs x)] W1 fun e W' =>
      (e = .returned (.bool true) ∧ J (pre ++ [x]) W' ∧ W1.heap.size ≤ W'.heap.size ∧ W'.heap[sb]? = W1.heap[sb]?) ∨ (∃ ch, e = .panicked ch ∧ Jp ch W'))
    (h0 : J [] W) :
    CallsIn Fence.wide n Try.prog 27 #[.func (.yield l) #[] #[], .pointer (some ⟨sb, 0, none⟩)] W fun e W' => (∃ v, e = .returned v ∧ J (cutU X) W') ∨ ∃ ch, e = .panicked ch ∧ Jp ch W' := by
  have hJ' : Hid _ := hJ
  have hY' : Hid _ := hY
  clear hJ hY
  refine callsIn_of_wp Try.func27 rfl trivial ?_ rfl
  simp only [Try.ntmps27, List.size_toArray, List.length_cons, List.length_nil, Nat.reduceAdd, Nat.reduceSub, Array.replicate_succ, Array.replicate_zero, List.push_toArray, List.append_toArray, List.nil_append, List.cons_append]
  gi_wp2
  gi_loopg [3, 4] (X.length + 1) (fun gk t3 t4 wr => ∃ (pre : List (List UInt8)) (rest : List UInt8), gk = rest.length + 1 ∧ Hid (cutU X = pre ++ cutU rest) ∧ rest.length ≤ X.length ∧ Hid (J pre wr) ∧ Hid (wr.heap[sb]? = some (.cells #[.string (bs rest)] 9 (0, 0))))
  case atStart => exact ⟨[], X, rfl, rfl, Nat.le_refl _, h0, hsb⟩
  case round =>
    obtain ⟨pre, rest, hgk, hcut, hrl, hJw, hHw⟩ := hrel
    have c0 : wr.cell? ⟨sb, 0, none⟩ = some (.string (bs rest)) := (Has.ofHeap hHw.out).2.1 0
    have f0 := (Has.ofHeap hHw.out).2.2 0
    rcases Nat.eq_zero_or_pos rest.length with hr0 | hrp
    · have hr : rest = [] := List.eq_nil_of_length_eq_zero hr0
      have hsz : ¬ (0 : Int) < ((bs rest).size : Int) := by rw [bs_size]; omega
      have hfin : Hid (J (cutU X) wr) := by
        show J _ _
        rw [hcut.out, hr]; simpa [cutU] using hJw.out
      clear hr hr0
      gi_wp2
      go_end0
      first | exact .inl ⟨⟨_, rfl⟩, hfin⟩ | exact .inl ⟨_, rfl, hfin⟩
    · have hsz : (0 : Int) < ((bs rest).size : Int) := by rw [bs_size]; omega
      rcases idx_split rest with ⟨hi1, hi2⟩ | ⟨p, q, hpq, hi2, hi3⟩
      · have hI : ∀ w, CallsIn Fence.wide (n - 1) Try.prog 28 #[.string (bs rest), .int .u8 10] w fun e w' => e = .returned (.int .i64 (-1)) ∧ w = w' := fun w => callsIn_wide.2 ((Try.strings_IndexByte (bs rest) 10 w).mono fun e w' h => ⟨by rw [h.1]; show Ending.returned (.int .i64 (Lib.indexByte rest 10)) = _; rw [hi1], h.2.symm⟩)
        have hcl : cutU rest = [rest] := cutU_last rest hi2 (by intro e; rw [e] at hrp; simp at hrp)
        have hfin : Hid (cutU X = pre ++ [rest]) := by show _ = _; rw [hcut.out, hcl]
        have hHs : (wr.setCell ⟨sb, 0, none⟩ (.string ⟨#[]⟩)).heap[sb]? = some (.cells #[.string (bs [])] 9 (0, 0)) := by rw [heap_setCell_same wr sb 0 _ 9 _ hHw.out]; rfl
        obtain ⟨fn, tmps, assign, body, hy, hR⟩ := hY'.out pre rest (wr.setCell ⟨sb, 0, none⟩ (.string ⟨#[]⟩)) (hJ'.out _ _ _ hJw.out ((Only.refl (fun k => k = sb) _).set rfl _)) (by rw [hfin.out]; exact ⟨[], by simp⟩) ⟨_, hHs⟩
        clear hi1 hi2 hcl hcut
        gi_wp2_with (refine ⟨trivial, fun h => (by cases h), ?_⟩; gi_at_call 28; refine (hI _).mono ?_; rintro e w2 ⟨rfl, rfl⟩)
        refine ⟨fun h => (by cases h), hR.mono ?_⟩
        rintro e w3 (⟨rfl, hJ4, hK1, hK2⟩ | ⟨ch, rfl, hJp⟩)
        · gi_wp2
          go_roundg 1
          case measure => go_light; omega
          case rel =>
            refine ⟨pre ++ [rest], [], rfl, by show _ = _; rw [hfin.out]; simp [cutU], Nat.zero_le _, hJ4, ?_⟩
            exact hK2.trans hHs
        · exact ⟨rfl, .inr ⟨_, rfl, hJp⟩⟩
      · subst hpq
        have hI : ∀ w, CallsIn Fence.wide (n - 1) Try.prog 28 #[.string (bs (p ++ 10 :: q)), .int .u8 10] w fun e w' => e = .returned (.int .i64 (p.length : Int)) ∧ w = w' := fun w => callsIn_wide.2 ((Try.strings_IndexByte (bs (p ++ 10 :: q)) 10 w).mono fun e w' h => ⟨by rw [h.1]; show Ending.returned (.int .i64 (Lib.indexByte (p ++ 10 :: q) 10)) = _; rw [hi3], h.2.symm⟩)
        have hfin : Hid (cutU X = pre ++ [p ++ [10]] ++ cutU q) := by show _ = _; rw [hcut.out, cutU_cut p q hi2]; simp
        have hHs : ((wr.setCell ⟨sb, 0, none⟩ (.string (bs q))).drew).heap[sb]? = some (.cells #[.string (bs q)] 9 (0, 0)) := by
          show (wr.setCell ⟨sb, 0, none⟩ (.string (bs q))).heap[sb]? = _
          rw [heap_setCell_same wr sb 0 _ 9 _ hHw.out]; rfl
        obtain ⟨fn, tmps, assign, body, hy, hR⟩ := hY'.out pre (p ++ [10]) ((wr.setCell ⟨sb, 0, none⟩ (.string (bs q))).drew) (hJ'.out _ _ _ hJw.out (((Only.refl (fun k => k = sb) _).set rfl _).drew)) (by rw [hfin.out]; exact ⟨cutU q, by simp⟩) ⟨_, hHs⟩
        have s1 := sl_pre p q
        have s2 := sl_suf p q
        have hpl : (0 : Int) ≤ (p.length : Int) := by omega
        have hlq : q.length < (p ++ 10 :: q).length := by simp; omega
        have hwr : IntKind.i64.wrap ((p.length : Int) + 1) = (p.length : Int) + 1 := by rw [IntKind.wrap_i64]; simp at hrl; omega
        have hgk' : (p ++ 10 :: q).length + 1 ≤ gk := by omega
        clear hi2 hi3 hcut hgk
        gi_wp2_with (refine ⟨trivial, fun h => (by cases h), ?_⟩; gi_at_call 28; refine (hI _).mono ?_; rintro e w2 ⟨rfl, rfl⟩)
        gi_region
        gi_wp2
        refine ⟨fun h => (by cases h), hR.mono ?_⟩
        rintro e w3 (⟨rfl, hJ4, hK1, hK2⟩ | ⟨ch, rfl, hJp⟩)
        · gi_wp2
          go_roundg (q.length + 1)
          case measure => go_light; omega
          case rel => exact ⟨pre ++ [p ++ [10]], q, rfl, hfin, by omega, hJ4, hK2.trans hHs⟩
        · exact ⟨rfl, .inr ⟨_, rfl, hJp⟩⟩
end Go.Proofs.Ytbgfeogigjjmdaa
