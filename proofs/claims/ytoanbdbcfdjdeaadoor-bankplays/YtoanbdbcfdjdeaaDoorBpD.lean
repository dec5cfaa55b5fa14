import Derived.Test.YtoanbdbcfdjdeaaDoorBpC
namespace Go.Proofs.YtoanbdbcfdjdeaaDoor
open Go.RowKit
set_option linter.unusedVariables false
set_option linter.unusedSimpArgs false


set_option maxRecDepth 100000 in
set_option maxHeartbeats 2000000 in
theorem about_any (s : ByteArray) (k : Int) (p : Addr) (w : World) : Calls Tryd.prog 29 #[.string s, .int .i64 k, .iface 79 (.pointer (some p))] w fun e w' => e = .returned (.iface 67 (.agg #[.string s, .int .i64 k, .iface 79 (.pointer (some p))])) ∧ w' = w := by
  go_enter Tryd.func29, Tryd.ntmps29
  go_wp2
  go_ret
  exact ⟨rfl, rfl⟩
set_option maxRecDepth 100000 in
set_option maxHeartbeats 2000000 in
theorem allFit_no {B : Nat} {ea : Nat → Addr} (v : Value) (n : Nat) (w : World) (hE : Er B w ea) (hn : n ≤ 9223372036854775807) (hf : flB n = false) :
    Calls Tryd.prog 17 #[v, .int .i64 (n : Int)] w fun e w' => e = .returned (.iface 79 (.pointer (some (ea 0)))) ∧ Below w.heap.size w w' := by
  have h27 := isFlash_any n w hn
  rw [hf] at h27
  have g0 := hE.glob 0 (by decide)
  clear hE
  go_enter Tryd.func17, Tryd.ntmps17
  go_wp2_with (go_at_call 27; (with_reducible refine Calls.mono h27 ?_); rintro e w1 ⟨rfl, rfl⟩)
  go_ret
  exact ⟨rfl, Below.refl _ _⟩
set_option maxRecDepth 100000 in
set_option maxHeartbeats 2000000 in
theorem allFit_yes {B : Nat} {ea : Nat → Addr} (S : Nat → Prop) (A : List Ac) (v : Value) (n : Nat) (w : World) (hE : Er B w ea) (hA : Acs S w v A) (hn : n ≤ 140737488355328) (hf : flB n = true) :
    Calls Tryd.prog 17 #[v, .int .i64 (n : Int)] w fun e w' => ((okAll A n = true ∧ e = .returned .nilIface) ∨ (okAll A n = false ∧ ∃ k : Int, e = .returned (.iface 67 (.agg #[.string ⟨#[97, 99, 116]⟩, .int .i64 k, .iface 79 (.pointer (some (ea 6)))])))) ∧ Below w.heap.size w w' := by
  have h27 := isFlash_any n w (by omega)
  rw [hf] at h27
  have g6 := fun (X : World) (hX : Below w.heap.size w X) => (hE.below hX).glob 6 (by decide)
  obtain ⟨va0, vcap, rfl, hlen, -⟩ := hA.at
  have hAt := fun (X : World) (hX : Below w.heap.size w X) => (hA.keep (Mv.below hX)).at
  clear hA hE
  generalize ea 6 = e6 at *
  have hg : Hid (∀ (X : World) (hX : Below w.heap.size w X), X.cell? ⟨6, 0, none⟩ = some (.iface 79 (.pointer (some e6)))) := g6
  clear g6
  go_enter Tryd.func17, Tryd.ntmps17
  go_wp2_with (go_at_call 27; (with_reducible refine Calls.mono h27 ?_); rintro e w1 ⟨rfl, rfl⟩)
  go_loopw [13] (fun i wr => ∃ k : Nat, k ≤ A.length ∧ i = .int .i64 (k : Int) ∧ Hid (okAll A n = okAll (A.drop k) n) ∧ Hid (Below w1.heap.size w1 wr)) (fun i _ => A.length - (intOf i).toNat)
  case atStart => exact ⟨0, by omega, rfl, rfl, Below.refl _ _⟩
  case round =>
    obtain ⟨k, hk, rfl, hp', ho'⟩ := hrel
    have oo := ho'.out
    have hp := hp'.out
    clear ho' hp'
    by_cases hlt : k < A.length
    case neg =>
      have t1 : ¬ (k : Int) < (A.length : Int) := by omega
      rw [List.drop_eq_nil_of_le (show A.length ≤ k by omega)] at hp
      go_wp2_with fail
      go_ret
      exact ⟨.inl ⟨by first | exact hp | rfl, rfl⟩, oo⟩
    have t1 : (k : Int) < (A.length : Int) := by omega
    have t2 : (0 : Int) ≤ (k : Int) := by omega
    obtain ⟨a, cap', e, -, hat⟩ := hAt wr oo
    injection e with e _ ec
    subst ec
    subst e
    obtain ⟨ga, oa, vd, cd, rfl, hSa, hga, c0, c1, c2, hBy, r1, r2⟩ := hat k hlt
    rw [List.drop_eq_getElem_cons hlt] at hp
    have hdl : A[k].d.length ≤ 140737488355328 := by obtain ⟨_, _, _, _, h, _⟩ := hBy; exact h
    generalize A[k] = ac at *
    have HX := Has.new wr #[.int .i64 ac.k, .int .i64 ac.o, .slice vd ac.d.length cd] 41 rfl
    have bN := belN1 (w := wr) (o1 := .cells #[.int .i64 ac.k, .int .i64 ac.o, .slice vd ac.d.length cd] 41)
    have ooW : Below w1.heap.size w1 (wr.alloc (.cells #[.int .i64 ac.k, .int .i64 ac.o, .slice vd ac.d.length cd] 41)) := oo.trans (bN.mono oo.size)
    clear bN hBy hAt
    generalize hW : wr.alloc (.cells #[.int .i64 ac.k, .int .i64 ac.o, .slice vd ac.d.length cd] 41) = W at *
    have h28 := fits_any ac vd cd n W hn hdl r1 r2
    obtain ⟨b0, b1, b2⟩ := has3 HX
    cases hok : okA ac n with
    | true =>
      rw [hok] at h28
      go_wp2_with (go_at_call 28; (with_reducible refine Calls.mono h28 ?_); rintro e w2 ⟨rfl, hb⟩)
      go_roundw
      case rel => exact ⟨k + 1, by omega, by go_num, (show okAll A n = _ by rw [hp]; simp [okAll, hok]), ooW.trans (hb.mono ooW.size)⟩
      case measure => simp [intOf]; omega
    | false =>
      rw [hok] at h28
      have hg6 := fun (w2 : World) (hb : Below W.heap.size W w2) => hg.out w2 (ooW.trans (hb.mono ooW.size))
      have h29 := fun (X : World) => about_any ⟨#[97, 99, 116]⟩ (k : Int) e6 X
      go_wp2_with (first
        | (go_at_call 28; (with_reducible refine Calls.mono h28 ?_); rintro e w2 ⟨rfl, hb⟩; have g6 := hg6 w2 hb)
        | (go_at_call 29; (with_reducible refine Calls.mono (h29 _) ?_); rintro e w3 ⟨rfl, rfl⟩))
      go_ret
      exact ⟨.inr ⟨by rw [hp]; simp [okAll, hok], _, rfl⟩, ooW.trans (hb.mono ooW.size)⟩
/-- The number of steps of all acts. -/
def ssF (z : Int) : List Ac → Int
  | [] => z
  | a :: A => ssF (RowKit.wrap64 (z + (nst a : Nat))) A
set_option maxRecDepth 100000 in
set_option maxHeartbeats 2000000 in
theorem steps_all (S : Nat → Prop) (A : List Ac) (v : Value) (w : World) (hA : Acs S w v A) :
    Calls Tryd.prog 10 #[v] w fun e w' => e = .returned (.int .i64 (ssF 0 A)) ∧ Below w.heap.size w w' := by
  obtain ⟨va0, vcap, rfl, hlen, -⟩ := hA.at
  have hAt := fun (X : World) (hX : Below w.heap.size w X) => (hA.keep (Mv.below hX)).at
  clear hA
  go_enter Tryd.func10, Tryd.ntmps10
  go_wp2_with fail
  go_loopw [3, 8] (fun s i wr => ∃ (k : Nat) (z : Int), k ≤ A.length ∧ i = .int .i64 (k : Int) ∧ s = .int .i64 z ∧ Hid (ssF z (A.drop k) = ssF 0 A) ∧ Hid (Below w.heap.size w wr)) (fun _ i _ => A.length - (intOf i).toNat)
  case atStart => exact ⟨0, 0, by omega, rfl, rfl, rfl, Below.refl _ _⟩
  case round =>
    obtain ⟨k, z, hk, rfl, rfl, hp', ho'⟩ := hrel
    have oo := ho'.out
    have hp := hp'.out
    clear ho' hp'
    by_cases hlt : k < A.length
    case neg =>
      have t1 : ¬ (k : Int) < (A.length : Int) := by omega
      rw [List.drop_eq_nil_of_le (show A.length ≤ k by omega)] at hp
      go_wp2_with fail
      go_ret
      exact ⟨by rw [← hp]; rfl, oo⟩
    have t1 : (k : Int) < (A.length : Int) := by omega
    have t2 : (0 : Int) ≤ (k : Int) := by omega
    obtain ⟨a, cap', e, -, hat⟩ := hAt wr oo
    injection e with e _ ec
    subst ec
    subst e
    obtain ⟨ga, oa, vd, cd, rfl, hSa, hga, c0, c1, c2, hBy, r1, r2⟩ := hat k hlt
    rw [List.drop_eq_getElem_cons hlt] at hp
    generalize A[k] = ac at *
    have HX := Has.new wr #[.int .i64 ac.k, .int .i64 ac.o, .slice vd ac.d.length cd] 41 rfl
    have bN := belN1 (w := wr) (o1 := .cells #[.int .i64 ac.k, .int .i64 ac.o, .slice vd ac.d.length cd] 41)
    have ooW : Below w.heap.size w (wr.alloc (.cells #[.int .i64 ac.k, .int .i64 ac.o, .slice vd ac.d.length cd] 41)) := oo.trans (bN.mono oo.size)
    clear bN hBy hAt
    generalize hW : wr.alloc (.cells #[.int .i64 ac.k, .int .i64 ac.o, .slice vd ac.d.length cd] 41) = W at *
    have h23 := steps_any ac vd cd W
    obtain ⟨b0, b1, b2⟩ := has3 HX
    go_wp2_with (go_at_call 23; (with_reducible refine Calls.mono h23 ?_); rintro e w2 ⟨rfl, hb⟩)
    go_roundw
    case rel => exact ⟨k + 1, _, by omega, by go_num, rfl, hp, ooW.trans (hb.mono ooW.size)⟩
    case measure => simp [intOf]; omega
end Go.Proofs.YtoanbdbcfdjdeaaDoor
