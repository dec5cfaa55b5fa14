import Derived.Deep.AppendSrc
import Derived.Laws.AppendOwnNone
import Derived.Test.YtoanbdbcfdjdeaaDoorBpE
namespace Go.Proofs.YtoanbdbcfdjdeaaDoor
open Go.RowKit
set_option linter.unusedVariables false
set_option linter.unusedSimpArgs false


theorem size41 (W : World) : (Go.sizeOf 41).run Tryd.prog W = .ok 3 W := by kernel_rfl
theorem slice_one (W : World) (ga oa n cap k : Nat) (hk : k + 1 ≤ cap) : (Instr.slice 23 (.slice (some ⟨ga, oa, none⟩) n cap) (some (.int .i64 (k : Int))) (some (.int .i64 ((k : Int) + 1))) none).run Tryd.prog W = .ok (.slice (some ⟨ga, oa + k * 3, none⟩) 1 (cap - k)) W := by
  have ht' : Tryd.prog.underlying 23 = some (.slice (Tryd.prog.elem 23)) := by simp [Program.elem, Tryd.underlying23]
  have he : Tryd.prog.elem 23 = 41 := by simp [Program.elem, Tryd.underlying23]
  have e1 : ((k : Int) + 1).toNat - k = 1 := by omega
  have e2 : ¬ cap = k := by omega
  rw [run_slice_lh W 23 _ _ _ ht' .i64 .i64 _ _ (by omega) (by omega) (by omega), he, size41 W]
  simp [Result.andThen, sliced, Addr.add, e1, e2]
theorem Acs.cap {S : Nat → Prop} {w : World} {a : Option Addr} {n c : Nat} {A : List Ac} (h : Acs S w (.slice a n c) A) : A.length ≤ c := by
  rcases Rows.val h with ⟨e, rfl⟩ | ⟨ad, cap, e, h⟩
  · exact Nat.zero_le _
  · injection e with _ _ e; omega
theorem Acs.one {S : Nat → Prop} {w : World} {g o va c : Nat} {vd : Option Addr} {cd : Nat} {x : Ac} (c1 : 1 ≤ c) (hS : S g) (hg : g < w.heap.size) (h0 : w.cell? ⟨g, o, none⟩ = some (.int .i64 x.k)) (h1 : w.cell? ⟨g, o + 1, none⟩ = some (.int .i64 x.o)) (h2 : w.cell? ⟨g, o + 2, none⟩ = some (.slice vd x.d.length cd)) (hb : By S w (.slice vd x.d.length cd) x.d) (r1 : x.o ≤ 9223372036854775807) (r2 : -9223372036854775808 ≤ x.o) : Acs S w (.slice (some ⟨g, o, none⟩) 1 c) [x] := by
  refine .inr ⟨⟨g, o, none⟩, c, rfl, c1, by simp, .inr ⟨rfl, hS, hg, fun i hi => ?_⟩⟩
  have : i = 0 := by simp at hi; omega
  subst this
  refine ⟨[.int .i64 x.k, .int .i64 x.o, .slice vd x.d.length cd], rfl, ⟨_, rfl, hb, r1, r2⟩, fun j u hu => ?_⟩
  match j, hu with
  | 0, hu => simp at hu; subst hu; simpa using h0
  | 1, hu => simp at hu; subst hu; simpa using h1
  | 2, hu => simp at hu; subst hu; simpa using h2
theorem ss_one (a : Ac) (h : a.d.length ≤ 140737488355328) : ssF 0 [a] = ((nst a : Nat) : Int) := by
  have := nst_le h
  show RowKit.wrap64 (0 + ((nst a : Nat) : Int)) = _
  unfold RowKit.wrap64
  omega
set_option maxRecDepth 100000 in
set_option maxHeartbeats 2000000 in
theorem rplay_no (A : List Ac) (F : List Int) (va : Option Addr) (c : Nat) (v : Value) (n t : Int) (w : World) (hn : F.length ≤ 140737488355328) (hf : flB F.length = false) :
    Calls Tryd.prog 9 #[.slice va F.length c, v, .int .i64 n, .int .u8 t] w fun e w' => e = .returned (.tuple #[.slice none 0 0, .int .i64 160]) ∧ Below w.heap.size w w' := by
  have h20 := flash_any F.length w (by omega)
  rw [hf] at h20
  generalize F.length = m at *
  go_enter Tryd.func9, Tryd.ntmps9
  go_wp2_with (go_at_call 20; (with_reducible refine Calls.mono h20 ?_); rintro e w1 ⟨rfl, rfl⟩)
  go_ret2
  exact ⟨rfl, Below.refl _ _⟩
set_option maxRecDepth 100000 in
set_option maxHeartbeats 2000000 in
theorem rplay_bad (S : Nat → Prop) (A : List Ac) (n : Nat) (va : Option Addr) (c : Nat) (v : Value) (m t : Int) (w : World) (hn : n ≤ 140737488355328) (hf : flB n = true) (hA : Acs S w v A) (hok : okAll A n = false) :
    Calls Tryd.prog 9 #[.slice va n c, v, .int .i64 m, .int .u8 t] w fun e w' => e = .returned (.tuple #[.slice none 0 0, .int .i64 166]) ∧ Below w.heap.size w w' := by
  have h20 := flash_any n w (by omega)
  rw [hf] at h20
  obtain ⟨va0, vcap, rfl, hlen, -⟩ := hA.at
  have hAt := fun (X : World) (hX : Below w.heap.size w X) => (hA.keep (Mv.below hX)).at
  clear hA
  have hok' : Hid (okAll A n = false) := hok
  clear hok
  go_enter Tryd.func9, Tryd.ntmps9
  go_wp2_with (go_at_call 20; (with_reducible refine Calls.mono h20 ?_); rintro e w1 ⟨rfl, rfl⟩)
  go_loopw [11] (fun i wr => ∃ k : Nat, k ≤ A.length ∧ i = .int .i64 (k : Int) ∧ Hid (okAll A n = okAll (A.drop k) n) ∧ Hid (Below w1.heap.size w1 wr)) (fun i _ => A.length - (intOf i).toNat)
  case atStart => exact ⟨0, by omega, rfl, rfl, Below.refl _ _⟩
  case round =>
    obtain ⟨k, hk, rfl, hp', ho'⟩ := hrel
    have oo := ho'.out
    have hp := hp'.out
    clear ho' hp'
    by_cases hlt : k < A.length
    case neg =>
      have t1 : ¬ (k : Int) < (A.length : Int) := by omega
      rw [List.drop_eq_nil_of_le (show A.length ≤ k by omega)] at hp
      have := hok'.out
      rw [hp] at this
      cases this
    have t1 : (k : Int) < (A.length : Int) := by omega
    have t2 : (0 : Int) ≤ (k : Int) := by omega
    obtain ⟨a, cap', e, -, hat⟩ := hAt wr oo
    injection e with e _ ec
    subst ec
    subst e
    obtain ⟨ga, oa, vd, cd, rfl, hSa, hga, c0, c1, c2, hBy, r1, r2⟩ := hat k hlt
    rw [List.drop_eq_getElem_cons hlt] at hp
    have hdl : A[k].d.length ≤ 140737488355328 := by obtain ⟨_, _, _, _, h, _⟩ := hBy; exact h
    generalize A[k] = ac at *
    clear hBy hat
    have h21 := can_any ac vd cd n wr (by omega) hdl r1 r2
    cases hoa : okA ac n with
    | true =>
      rw [hoa] at h21
      go_wp2_with (go_at_call 21; (with_reducible refine Calls.mono h21 ?_); rintro e w2 ⟨rfl, hb⟩)
      go_roundw
      case rel => exact ⟨k + 1, by omega, by go_num, (show okAll A n = _ by rw [hp]; simp [okAll, hoa]), oo.trans (hb.mono oo.size)⟩
      case measure => simp [intOf]; omega
    | false =>
      rw [hoa] at h21
      go_wp2_with (go_at_call 21; (with_reducible refine Calls.mono h21 ?_); rintro e w2 ⟨rfl, hb⟩)
      go_ret2
      exact ⟨rfl, oo.trans (hb.mono oo.size)⟩
theorem Acs.atK {S : Nat → Prop} {w : World} {ga oa n c k : Nat} {A : List Ac} (h : Acs S w (.slice (some ⟨ga, oa, none⟩) n c) A) (hk : k < A.length) : ∃ vd cd, w.cell? ⟨ga, oa + k * 3, none⟩ = some (.int .i64 A[k].k) ∧ w.cell? ⟨ga, oa + k * 3 + 1, none⟩ = some (.int .i64 A[k].o) ∧ w.cell? ⟨ga, oa + k * 3 + 2, none⟩ = some (.slice vd A[k].d.length cd) ∧ By S w (.slice vd A[k].d.length cd) A[k].d := by
  obtain ⟨a, cap', e, -, hat⟩ := h.at
  injection e with e _ ec
  subst e
  obtain ⟨g, o, vd, cd, e2, _, _, c0, c1, c2, hBy, _⟩ := hat k hk
  injection e2 with e2
  injection e2 with e2 e3
  subst e2
  subst e3
  exact ⟨vd, cd, c0, c1, c2, hBy⟩
def RPost (w : World) (n : Nat) (L : List Int) (e : Ending) (w' : World) : Prop := (∃ g cap base, e = .returned (.tuple #[.slice (some ⟨g, 0, none⟩) n cap, .int .i64 0]) ∧ w.heap.size ≤ g ∧ w'.ownsRow base 5 1 (.slice (some ⟨g, 0, none⟩) n cap) n (List.map bv (L))) ∧ Below w.heap.size w w'
set_option maxRecDepth 100000 in
set_option maxHeartbeats 2000000 in
theorem rplay_okP (S : Nat → Prop) (A : List Ac) (F : List Int) (n : Nat) (va : Option Addr) (c : Nat) (v : Value) (m t : Int) (w : World) (hFn : F.length = n) (hf : flB n = true) (hB : By S w (.slice va n c) F) (hA : Acs S w v A) (hS : ∀ q, S q → q < w.heap.size) (hok : okAll A n = true) (hm : 0 ≤ m) (hm2 : m ≤ 9223372036854775807) :
    Calls Tryd.prog 9 #[.slice va n c, v, .int .i64 m, .int .u8 t] w fun e w' => RPost w n (plF F A m.toNat t) e w' := by
  obtain ⟨f1, f2, f3⟩ := flB_spec hf
  have h20 := flash_any n w (by omega)
  rw [hf] at h20
  obtain ⟨va0, vcap, rfl, hlen, -⟩ := hA.at
  have hvc := hA.cap
  have hAt := fun (X : World) (hX : Below w.heap.size w X) => (hA.keep (Mv.below hX)).at
  have hA2 : Hid (Acs S w (.slice va0 A.length vcap) A) := hA
  clear hA
  have hsr := fun (W : World) (hW : Below w.heap.size w W) => (show _ ∧ _ ∧ _ from (By.src (S := S) (w := W) (va := va) (c := c) (L := F) (by rw [hFn]; exact hB.keep (Mv.below hW))))
  clear hB
  have hok' : Hid (okAll A n = true) := hok
  clear hok
  obtain ⟨ti, hi, hx⟩ := Option.map_eq_some_iff.1 infoB
  have hi0 : ti.zero = some (.int .u8 0) := congrArg (·.1) hx
  have hi1 : ti.size = 1 := congrArg (·.2.1) hx
  have hi2 : ti.bytes = 1 := congrArg (·.2.2) hx
  obtain ⟨mN, hmN⟩ : ∃ mN : Nat, m.toNat = mN := ⟨_, rfl⟩
  rw [hmN]
  obtain rfl : m = (mN : Int) := by omega
  go_enter Tryd.func9, Tryd.ntmps9
  go_wp2_with (go_at_call 20; (with_reducible refine Calls.mono h20 ?_); rintro e w1 ⟨rfl, rfl⟩)
  go_loopw [11] (fun i wr => ∃ k : Nat, k ≤ A.length ∧ i = .int .i64 (k : Int) ∧ Hid (okAll A n = okAll (A.drop k) n) ∧ Hid (Below w1.heap.size w1 wr)) (fun i _ => A.length - (intOf i).toNat)
  case atStart => exact ⟨0, by omega, rfl, rfl, Below.refl _ _⟩
  case round =>
    obtain ⟨k, hk, rfl, hp', ho'⟩ := hrel
    have oo := ho'.out
    have hp := hp'.out
    clear ho' hp'
    by_cases hlt : k < A.length
    case neg =>
      have t1 : ¬ (k : Int) < (A.length : Int) := by omega
      clear hp hAt
      have hs := hsr wr oo
      clear hsr
      go_wp2_with (at_builtin; (refine wpList_copyv rfl _ _ 22 rfl 5 ti _ 1 1 Tryd.underlying22 hi hi0 hi1 hi2 rfl (by decide) va n c (F.map bv) rfl rfl (by simp; omega) hs.1 (bv_one F) (by intro e; have := hs.2.1 e; omega) (by unfold maxLen; omega) (by omega) ?_); intro a' c' w2 own2 hb2; obtain ⟨g, cap, e2, -, hg2, -⟩ := own_block own2 (by omega); injection e2 with e2 _ e3; subst e2; subst e3)
      have oo2 : Below w1.heap.size w1 w2 := oo.trans (hb2.mono oo.size)
      have hgw : w1.heap.size ≤ g := by have := oo.size; omega
      have hAk := fun (X : World) (hX : Only (fun q => q = g) w2 X) => hA2.out.keep ((Mv.below oo2).trans (mv_only hX (fun q hs e => by have := hS q hs; omega)))
      obtain ⟨base, hbase⟩ : ∃ b : Nat, wr.heap.size = b := ⟨_, rfl⟩
      rw [hbase] at own2
      have own2' : Hid _ := own2
      clear own2 hs hbase
      go_loopw [2, 13] (fun s2 i wr => ∃ (k r : Nat) (X : List Int), k ≤ A.length ∧ i = .int .i64 (k : Int) ∧ s2 = .int .i64 (r : Int) ∧ r ≤ mN ∧ X.length = n ∧ Hid (plF X (A.drop k) r t = plF F A mN t) ∧ Hid (Only (fun q => q = g) w2 wr) ∧ Hid (wr.ownsRow base 5 1 (.slice (some ⟨g, 0, none⟩) n c') n (List.map bv X))) (fun _ i _ => A.length - (intOf i).toNat)
      case atStart => exact ⟨0, mN, F, by omega, rfl, by first | rfl | (rw [e0.out]; rfl), by omega, hFn, rfl, Only.refl _ _, own2'.out⟩
      case round =>
        obtain ⟨k, r, X, hk, rfl, rfl, hr, hX, hp', ho', hw'⟩ := hrel
        have o2 := ho'.out
        have ow := hw'.out
        have hp := hp'.out
        clear ho' hw' hp'
        by_cases hlt : k < A.length
        case neg =>
          have t1 : ¬ (k : Int) < (A.length : Int) := by omega
          rw [plF_nil X A k (by omega)] at hp
          subst hp
          go_wp2_with fail
          go_ret2
          exact (show RPost _ _ _ _ _ from ⟨⟨g, c', _, rfl, hgw, ow⟩, bel_only oo2 o2 (Nat.le_refl _) (fun q hq e => by subst e; omega)⟩)
        have t1 : (k : Int) < (A.length : Int) := by omega
        have t2 : (0 : Int) ≤ (k : Int) := by omega
        obtain ⟨a, cap', e, -, hat⟩ := (hAk wr o2).at
        injection e with e _ ec
        subst ec
        subst e
        obtain ⟨ga, oa, vd, cd, rfl, hSa, hga, c0, c1, c2, hBy, r1, r2⟩ := hat k hlt
        clear hat
        have okk := Acs.okAt hok'.out hlt
        have hK := fun (Y : World) (hY : Only (fun q => q = g) w2 Y) => (hAk Y hY).atK hlt
        rw [plF_cons X A k hlt] at hp
        have hdl : A[k].d.length ≤ 140737488355328 := by obtain ⟨_, _, _, _, h, _⟩ := hBy; exact h
        generalize A[k] = ac at *
        have hns := nst_le hdl
        have hsl := fun (W : World) => slice_one W ga oa A.length vcap k (by omega)
        have h11 := rsteps_all S [ac] _ wr (Acs.one (c := vcap - k) (va := 0) (by omega) hSa hga c0 c1 c2 hBy r1 r2)
        rw [ss_one ac hdl] at h11
        have hSg : ¬ S g := fun h => by have := hS g h; omega
        have h22 := fun (j : Nat) (tt : Int) (Y : World) (hY : Only (fun q => q = g) w2 Y) (vd : Option Addr) (cd : Nat) (hb : By S Y (.slice vd ac.d.length cd) ac.d) (hj : j < nst ac) (hw : Y.ownsRow base 5 1 (.slice (some ⟨g, 0, none⟩) n c') n (List.map bv (rnF X ac j))) => rstep_n S ac vd cd (rnF X ac j) n g c' j tt base Y ((rnF_len X ac j).trans hX) hw hb okk f1 hj f3
        have hK' : Hid _ := hK
        have hAk' : Hid _ := hAk
        clear hK hAk c0 c1 c2 hBy
        have ow' : Hid _ := ow
        clear ow
        go_wp2_with (go_at_call 11; (with_reducible refine Calls.mono h11 ?_); rintro e w3 ⟨rfl, rfl⟩)
        go_loopw [2, 15] (fun s2 i wr => ∃ j : Nat, j ≤ nst ac ∧ j ≤ r ∧ i = .int .i64 (j : Int) ∧ s2 = .int .i64 ((r - j : Nat) : Int) ∧ Hid (Only (fun q => q = g) w2 wr) ∧ Hid (wr.ownsRow base 5 1 (.slice (some ⟨g, 0, none⟩) n c') n (List.map bv (rnF X ac j)))) (fun _ i _ => nst ac - (intOf i).toNat)
        case atStart => exact ⟨0, by omega, by omega, rfl, rfl, o2, ow'.out⟩
        case round =>
          obtain ⟨j, hj, hjr, rfl, rfl, ho', hw'⟩ := hrel
          have o3 := ho'.out
          have ow := hw'.out
          clear ho' hw'
          by_cases hjl : j < nst ac
          case neg =>
            obtain rfl : j = nst ac := by omega
            have t3 : ¬ ((nst ac : Nat) : Int) < ((nst ac : Nat) : Int) := by omega
            rw [if_neg (by omega)] at hp
            go_wp2_with fail
            go_roundw
            case rel => exact ⟨k + 1, r - nst ac, rnF X ac (nst ac), by omega, by go_num, rfl, by omega, (rnF_len X ac _).trans hX, hp, o3, ow⟩
            case measure => simp [intOf]; omega
          have t3 : (j : Int) < ((nst ac : Nat) : Int) := by omega
          obtain ⟨vd', cd', b0, b1, b2, hB2⟩ := hK'.out _ o3
          have h := fun tt => h22 j tt _ o3 vd' cd' hB2 hjl ow
          clear hB2
          by_cases hz : r - j = 0
          · have hz' : ((r - j : Nat) : Int) = 0 := by omega
            obtain rfl : j = r := by omega
            rw [if_pos hjl] at hp
            go_wp2_with (go_at_call 22; (with_reducible refine Calls.mono (h _) ?_); rintro e w4 ⟨rfl, ow4, o4⟩)
            go_ret2
            exact (show RPost _ _ _ _ _ from ⟨⟨g, c', _, rfl, hgw, hp ▸ ow4⟩, bel_only oo2 (o3.trans o4) (Nat.le_refl _) (fun q hq e => by subst e; omega)⟩)
          · have hz' : ¬ ((r - j : Nat) : Int) = 0 := by omega
            go_wp2_with (go_at_call 22; (with_reducible refine Calls.mono (h _) ?_); rintro e w4 ⟨rfl, ow4, o4⟩)
            go_roundw
            case rel => exact ⟨j + 1, by omega, by omega, by go_num, by congr 1; omega, o3.trans o4, ow4⟩
            case measure => simp [intOf]; omega
    have t1 : (k : Int) < (A.length : Int) := by omega
    have t2 : (0 : Int) ≤ (k : Int) := by omega
    obtain ⟨a, cap', e, -, hat⟩ := hAt wr oo
    injection e with e _ ec
    subst ec
    subst e
    obtain ⟨ga, oa, vd, cd, rfl, hSa, hga, c0, c1, c2, hBy, r1, r2⟩ := hat k hlt
    rw [List.drop_eq_getElem_cons hlt] at hp
    have hdl : A[k].d.length ≤ 140737488355328 := by obtain ⟨_, _, _, _, h, _⟩ := hBy; exact h
    generalize A[k] = ac at *
    clear hBy hat
    have h21 := can_any ac vd cd n wr (by omega) hdl r1 r2
    have hoa : okA ac n = true := by
      have h1 := hok'.out
      rw [hp] at h1
      simp only [okAll, List.all_cons, Bool.and_eq_true] at h1
      exact h1.1
    rw [hoa] at h21
    go_wp2_with (go_at_call 21; (with_reducible refine Calls.mono h21 ?_); rintro e w2 ⟨rfl, hb⟩)
    go_roundw
    case rel => exact ⟨k + 1, by omega, by go_num, (show okAll A n = _ by rw [hp]; simp [okAll, hoa]), oo.trans (hb.mono oo.size)⟩
    case measure => simp [intOf]; omega
set_option maxRecDepth 100000 in
set_option maxHeartbeats 2000000 in
theorem rplay_okN (S : Nat → Prop) (A : List Ac) (F : List Int) (n : Nat) (va : Option Addr) (c : Nat) (v : Value) (m t : Int) (w : World) (hFn : F.length = n) (hf : flB n = true) (hB : By S w (.slice va n c) F) (hA : Acs S w v A) (hS : ∀ q, S q → q < w.heap.size) (hok : okAll A n = true) (hm : m < 0) (hm2 : m ≤ 9223372036854775807) :
    Calls Tryd.prog 9 #[.slice va n c, v, .int .i64 m, .int .u8 t] w fun e w' => RPost w n (plF F A m.toNat t) e w' := by
  obtain ⟨f1, f2, f3⟩ := flB_spec hf
  have h20 := flash_any n w (by omega)
  rw [hf] at h20
  obtain ⟨va0, vcap, rfl, hlen, -⟩ := hA.at
  have hvc := hA.cap
  have hAt := fun (X : World) (hX : Below w.heap.size w X) => (hA.keep (Mv.below hX)).at
  have hA2 : Hid (Acs S w (.slice va0 A.length vcap) A) := hA
  clear hA
  have hsr := fun (W : World) (hW : Below w.heap.size w W) => (show _ ∧ _ ∧ _ from (By.src (S := S) (w := W) (va := va) (c := c) (L := F) (by rw [hFn]; exact hB.keep (Mv.below hW))))
  clear hB
  have hok' : Hid (okAll A n = true) := hok
  clear hok
  obtain ⟨ti, hi, hx⟩ := Option.map_eq_some_iff.1 infoB
  have hi0 : ti.zero = some (.int .u8 0) := congrArg (·.1) hx
  have hi1 : ti.size = 1 := congrArg (·.2.1) hx
  have hi2 : ti.bytes = 1 := congrArg (·.2.2) hx
  obtain ⟨mN, hmN⟩ : ∃ mN : Nat, m.toNat = mN := ⟨_, rfl⟩
  rw [hmN]
  have e0 : Hid (mN = 0) := (by omega : mN = 0)
  go_enter Tryd.func9, Tryd.ntmps9
  go_wp2_with (go_at_call 20; (with_reducible refine Calls.mono h20 ?_); rintro e w1 ⟨rfl, rfl⟩)
  go_loopw [11] (fun i wr => ∃ k : Nat, k ≤ A.length ∧ i = .int .i64 (k : Int) ∧ Hid (okAll A n = okAll (A.drop k) n) ∧ Hid (Below w1.heap.size w1 wr)) (fun i _ => A.length - (intOf i).toNat)
  case atStart => exact ⟨0, by omega, rfl, rfl, Below.refl _ _⟩
  case round =>
    obtain ⟨k, hk, rfl, hp', ho'⟩ := hrel
    have oo := ho'.out
    have hp := hp'.out
    clear ho' hp'
    by_cases hlt : k < A.length
    case neg =>
      have t1 : ¬ (k : Int) < (A.length : Int) := by omega
      clear hp hAt
      have hs := hsr wr oo
      clear hsr
      go_wp2_with (at_builtin; (refine wpList_copyv rfl _ _ 22 rfl 5 ti _ 1 1 Tryd.underlying22 hi hi0 hi1 hi2 rfl (by decide) va n c (F.map bv) rfl rfl (by simp; omega) hs.1 (bv_one F) (by intro e; have := hs.2.1 e; omega) (by unfold maxLen; omega) (by omega) ?_); intro a' c' w2 own2 hb2; obtain ⟨g, cap, e2, -, hg2, -⟩ := own_block own2 (by omega); injection e2 with e2 _ e3; subst e2; subst e3)
      have oo2 : Below w1.heap.size w1 w2 := oo.trans (hb2.mono oo.size)
      have hgw : w1.heap.size ≤ g := by have := oo.size; omega
      have hAk := fun (X : World) (hX : Only (fun q => q = g) w2 X) => hA2.out.keep ((Mv.below oo2).trans (mv_only hX (fun q hs e => by have := hS q hs; omega)))
      obtain ⟨base, hbase⟩ : ∃ b : Nat, wr.heap.size = b := ⟨_, rfl⟩
      rw [hbase] at own2
      have own2' : Hid _ := own2
      clear own2 hs hbase
      go_loopw [2, 13] (fun s2 i wr => ∃ (k r : Nat) (X : List Int), k ≤ A.length ∧ i = .int .i64 (k : Int) ∧ s2 = .int .i64 (r : Int) ∧ r ≤ mN ∧ X.length = n ∧ Hid (plF X (A.drop k) r t = plF F A mN t) ∧ Hid (Only (fun q => q = g) w2 wr) ∧ Hid (wr.ownsRow base 5 1 (.slice (some ⟨g, 0, none⟩) n c') n (List.map bv X))) (fun _ i _ => A.length - (intOf i).toNat)
      case atStart => exact ⟨0, mN, F, by omega, rfl, by first | rfl | (rw [e0.out]; rfl), by omega, hFn, rfl, Only.refl _ _, own2'.out⟩
      case round =>
        obtain ⟨k, r, X, hk, rfl, rfl, hr, hX, hp', ho', hw'⟩ := hrel
        have o2 := ho'.out
        have ow := hw'.out
        have hp := hp'.out
        clear ho' hw' hp'
        by_cases hlt : k < A.length
        case neg =>
          have t1 : ¬ (k : Int) < (A.length : Int) := by omega
          rw [plF_nil X A k (by omega)] at hp
          subst hp
          go_wp2_with fail
          go_ret2
          exact (show RPost _ _ _ _ _ from ⟨⟨g, c', _, rfl, hgw, ow⟩, bel_only oo2 o2 (Nat.le_refl _) (fun q hq e => by subst e; omega)⟩)
        have t1 : (k : Int) < (A.length : Int) := by omega
        have t2 : (0 : Int) ≤ (k : Int) := by omega
        obtain ⟨a, cap', e, -, hat⟩ := (hAk wr o2).at
        injection e with e _ ec
        subst ec
        subst e
        obtain ⟨ga, oa, vd, cd, rfl, hSa, hga, c0, c1, c2, hBy, r1, r2⟩ := hat k hlt
        clear hat
        have okk := Acs.okAt hok'.out hlt
        have hK := fun (Y : World) (hY : Only (fun q => q = g) w2 Y) => (hAk Y hY).atK hlt
        rw [plF_cons X A k hlt] at hp
        have hdl : A[k].d.length ≤ 140737488355328 := by obtain ⟨_, _, _, _, h, _⟩ := hBy; exact h
        generalize A[k] = ac at *
        have hns := nst_le hdl
        have hsl := fun (W : World) => slice_one W ga oa A.length vcap k (by omega)
        have h11 := rsteps_all S [ac] _ wr (Acs.one (c := vcap - k) (va := 0) (by omega) hSa hga c0 c1 c2 hBy r1 r2)
        rw [ss_one ac hdl] at h11
        have hSg : ¬ S g := fun h => by have := hS g h; omega
        have h22 := fun (j : Nat) (tt : Int) (Y : World) (hY : Only (fun q => q = g) w2 Y) (vd : Option Addr) (cd : Nat) (hb : By S Y (.slice vd ac.d.length cd) ac.d) (hj : j < nst ac) (hw : Y.ownsRow base 5 1 (.slice (some ⟨g, 0, none⟩) n c') n (List.map bv (rnF X ac j))) => rstep_n S ac vd cd (rnF X ac j) n g c' j tt base Y ((rnF_len X ac j).trans hX) hw hb okk f1 hj f3
        have hK' : Hid _ := hK
        have hAk' : Hid _ := hAk
        clear hK hAk c0 c1 c2 hBy
        have ow' : Hid _ := ow
        clear ow
        go_wp2_with (go_at_call 11; (with_reducible refine Calls.mono h11 ?_); rintro e w3 ⟨rfl, rfl⟩)
        go_loopw [2, 15] (fun s2 i wr => ∃ j : Nat, j ≤ nst ac ∧ j ≤ r ∧ i = .int .i64 (j : Int) ∧ s2 = .int .i64 ((r - j : Nat) : Int) ∧ Hid (Only (fun q => q = g) w2 wr) ∧ Hid (wr.ownsRow base 5 1 (.slice (some ⟨g, 0, none⟩) n c') n (List.map bv (rnF X ac j)))) (fun _ i _ => nst ac - (intOf i).toNat)
        case atStart => exact ⟨0, by omega, by omega, rfl, rfl, o2, ow'.out⟩
        case round =>
          obtain ⟨j, hj, hjr, rfl, rfl, ho', hw'⟩ := hrel
          have o3 := ho'.out
          have ow := hw'.out
          clear ho' hw'
          by_cases hjl : j < nst ac
          case neg =>
            obtain rfl : j = nst ac := by omega
            have t3 : ¬ ((nst ac : Nat) : Int) < ((nst ac : Nat) : Int) := by omega
            rw [if_neg (by omega)] at hp
            go_wp2_with fail
            go_roundw
            case rel => exact ⟨k + 1, r - nst ac, rnF X ac (nst ac), by omega, by go_num, rfl, by omega, (rnF_len X ac _).trans hX, hp, o3, ow⟩
            case measure => simp [intOf]; omega
          have t3 : (j : Int) < ((nst ac : Nat) : Int) := by omega
          obtain ⟨vd', cd', b0, b1, b2, hB2⟩ := hK'.out _ o3
          have h := fun tt => h22 j tt _ o3 vd' cd' hB2 hjl ow
          clear hB2
          by_cases hz : r - j = 0
          · have hz' : ((r - j : Nat) : Int) = 0 := by omega
            obtain rfl : j = r := by omega
            rw [if_pos hjl] at hp
            go_wp2_with (go_at_call 22; (with_reducible refine Calls.mono (h _) ?_); rintro e w4 ⟨rfl, ow4, o4⟩)
            go_ret2
            exact (show RPost _ _ _ _ _ from ⟨⟨g, c', _, rfl, hgw, hp ▸ ow4⟩, bel_only oo2 (o3.trans o4) (Nat.le_refl _) (fun q hq e => by subst e; omega)⟩)
          · exfalso
            have := e0.out
            omega
    have t1 : (k : Int) < (A.length : Int) := by omega
    have t2 : (0 : Int) ≤ (k : Int) := by omega
    obtain ⟨a, cap', e, -, hat⟩ := hAt wr oo
    injection e with e _ ec
    subst ec
    subst e
    obtain ⟨ga, oa, vd, cd, rfl, hSa, hga, c0, c1, c2, hBy, r1, r2⟩ := hat k hlt
    rw [List.drop_eq_getElem_cons hlt] at hp
    have hdl : A[k].d.length ≤ 140737488355328 := by obtain ⟨_, _, _, _, h, _⟩ := hBy; exact h
    generalize A[k] = ac at *
    clear hBy hat
    have h21 := can_any ac vd cd n wr (by omega) hdl r1 r2
    have hoa : okA ac n = true := by
      have h1 := hok'.out
      rw [hp] at h1
      simp only [okAll, List.all_cons, Bool.and_eq_true] at h1
      exact h1.1
    rw [hoa] at h21
    go_wp2_with (go_at_call 21; (with_reducible refine Calls.mono h21 ?_); rintro e w2 ⟨rfl, hb⟩)
    go_roundw
    case rel => exact ⟨k + 1, by omega, by go_num, (show okAll A n = _ by rw [hp]; simp [okAll, hoa]), oo.trans (hb.mono oo.size)⟩
    case measure => simp [intOf]; omega
end Go.Proofs.YtoanbdbcfdjdeaaDoor
