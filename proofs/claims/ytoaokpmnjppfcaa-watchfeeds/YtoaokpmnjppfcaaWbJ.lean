import Derived.Deep.DeepCutAuto
import Derived.Test.YtoaokpmnjppfcaaWbI
namespace Go.Proofs.Ytoaokpmnjppfcaa
open Go.RowKit
set_option linter.unusedVariables false
set_option linter.unusedSimpArgs false

theorem Rm.chg {w w' : World} {b rb : Nat} {vg vc vn vt : Value} {G : List Gp} {C : List Cf} {tk : Int} {la : ByteArray} {ru gn : Nat → Int} {tr : Al} {L : List Al} {vt' : Value} {tk' : Int} {la' : ByteArray} {ru' gn' : Nat → Int} {tr' : Al} {L' : List Al} (h : Rm w b rb vg vc vn vt G C tk la ru gn tr L) (ho : Only (Dyn b rb vn vt) w w') (hob : Has w' b #[vg, vc, .int .i64 tk', .string la', .slice (some ⟨rb, 0, none⟩) G.length G.length, vn, .int .i64 tr'.k, .int .i64 tr'.t, .int .i64 tr'.a, .int .i64 tr'.b, vt']) (hrun : Has w' rb (rwA n64 G.length ru')) (hgrn : w'.ownsRow 0 3 1 vn G.length (cellsF n64 ((List.range G.length).map gn'))) (htol : w'.ownsRow 0 43 4 vt' L'.length (cellsF Al.cs L')) (hv : vt'.ownBlock = vt.ownBlock ∨ ∀ q, vt'.ownBlock = some q → w.heap.size ≤ q) :
    Rm w' b rb vg vc vn vt' G C tk' la' ru' gn' tr' L' ∧ ∀ q, Dyn b rb vn vt' q → Dyn b rb vn vt q ∨ w.heap.size ≤ q := by
  have E : ∀ q, Dyn b rb vn vt' q → Dyn b rb vn vt q ∨ w.heap.size ≤ q := by
    intro q hd
    rcases hd with e | e | e | e
    · exact .inl (.inl e)
    · exact .inl (.inr (.inl e))
    · exact .inl (.inr (.inr (.inl e)))
    · exact hv.elim (fun h => .inl (.inr (.inr (.inr (by rw [← h]; exact e))))) (fun h => .inr (h q e))
  have D : ∀ q, q < w.heap.size → ¬ Dyn b rb vn vt q → ¬ Dyn b rb vn vt' q := fun q hq hn hd => (E q hd).elim hn (fun h => by omega)
  have nb : ∀ q, q < w.heap.size → vt.ownBlock ≠ some q → vt'.ownBlock ≠ some q := fun q hq hn e => hv.elim (fun h => hn (by rw [← h]; exact e)) (fun h => by have := h q e; omega)
  exact ⟨⟨hob, hrun, hgrn, htol, h.gr.move ho (fun q _ hq hn => ⟨hn, D q hq hn⟩), h.cf.move ho (fun q _ hq hn => ⟨hn, D q hq hn⟩), h.d1, h.d2, ⟨nb b h.ob.1 h.d3.1, nb rb h.run.1 h.d3.2⟩, fun q e => nb q (own_lt h.grn q e).2 (h.d4 q e)⟩, E⟩
set_option maxRecDepth 100000 in
set_option maxHeartbeats 2000000 in
theorem feedR_no {w : World} {b rb : Nat} {vg vc vn vt : Value} {G : List Gp} {C : List Cf} {tk : Int} {la : ByteArray} {ru gn : Nat → Int} {tr : Al} {L : List Al} (h : Rm w b rb vg vc vn vt G C tk la ru gn tr L) (s : ByteArray) (hk : tr.k ≠ 0) : Calls Try.prog 21 #[.pointer (some ⟨b, 0, none⟩), .string s] w fun e w' => e = .returned (.agg #[.int .i64 al0.k, .int .i64 al0.t, .int .i64 al0.a, .int .i64 al0.b]) ∧ Below w.heap.size w w' := by
  have hd : (tr.k != 0) = true := by simpa using hk
  have HB : Below w.heap.size w (w.alloc (.cells #[.int .i64 0, .int .i64 0, .int .i64 0, .int .i64 0] 43)) := belN1
  have HR : Has (w.alloc (.cells #[.int .i64 0, .int .i64 0, .int .i64 0, .int .i64 0] 43)) w.heap.size #[.int .i64 0, .int .i64 0, .int .i64 0, .int .i64 0] := Has.new _ _ _ rfl
  have HM := (h.ob.alloc (.cells #[.int .i64 0, .int .i64 0, .int .i64 0, .int .i64 0] 43))
  obtain ⟨k0, t0, a0, b0⟩ := tr
  dsimp only at *
  clear h hk
  generalize G.length = n at *
  go_enter Try.func21, Try.ntmps21
  go_upto_region 1 with fail
  generalize (w.alloc (.cells #[.int .i64 0, .int .i64 0, .int .i64 0, .int .i64 0] 43)) = V at *
  obtain ⟨_, i1, _⟩ := id HM
  obtain ⟨_, i2, f2⟩ := id HR
  go_wp2
  exact bodyPost_ret (v := .agg #[.int .i64 0, .int .i64 0, .int .i64 0, .int .i64 0]) (by simp [results, Try.results21, go_sem, i2]) rfl ⟨rfl, belR HB (Nat.le_refl _) _ _ _ _⟩

set_option maxRecDepth 100000 in
set_option maxHeartbeats 4000000 in
theorem feedR_bad {w : World} {b rb : Nat} {vg vc vn vt : Value} {G : List Gp} {C : List Cf} {tk : Int} {la : ByteArray} {ru gn : Nat → Int} {tr : Al} {L : List Al} {f : Nat → Lm} (h : Rm w b rb vg vc vn vt G C tk la ru gn tr L) (s : ByteArray) (hg : gridB G C = true) (hr : Rel G.length f tk la ru gn) (lC : C.length ≤ 4398046511000) (hb1 : ∀ k, (0 ≤ (f k).lo ∧ (f k).lo ≤ 4611686018427387904) ∧ (f k).fr ≤ 4611686018427387904) (htk : tk ≤ 4611686018427387904) (hL : L.length + 1 ≤ 4398046511000) (hk : tr.k = 0) (x : Al) (ex : ffF G C f tk s = x) (hx : x.k ≠ 0) : Calls Try.prog 21 #[.pointer (some ⟨b, 0, none⟩), .string s] w fun e w' => e = .returned (.agg #[.int .i64 x.k, .int .i64 x.t, .int .i64 x.a, .int .i64 x.b]) ∧ ∃ vt', Rm w' b rb vg vc vn vt' G C tk la ru gn x (L ++ [x]) ∧ (∀ q, Dyn b rb vn vt' q → Dyn b rb vn vt q ∨ w.heap.size ≤ q) ∧ Only (Dyn b rb vn vt) w w' := by
  have hd : (tr.k != 0) = false := by simp [hk]
  have hdx : (x.k != 0) = true := by simpa using hx
  have h32 : ∀ W : World, Below w.heap.size w W → Calls Try.prog 32 #[.pointer (some ⟨b, 0, none⟩), .string s] W fun e w' => e = .returned (.agg #[.int .i64 x.k, .int .i64 x.t, .int .i64 x.a, .int .i64 x.b]) ∧ Below W.heap.size W w' := fun W hW => by rw [← ex]; exact firstR_any (h.below hW) s hg hr lC hb1 htk
  have XB : Below w.heap.size w (w.alloc (.cells #[.int .i64 0, .int .i64 0, .int .i64 0, .int .i64 0] 43)) := belN1
  have XR : Has (w.alloc (.cells #[.int .i64 0, .int .i64 0, .int .i64 0, .int .i64 0] 43)) w.heap.size #[.int .i64 0, .int .i64 0, .int .i64 0, .int .i64 0] := Has.new _ _ _ rfl
  have XM := h.ob.alloc (.cells #[.int .i64 0, .int .i64 0, .int .i64 0, .int .i64 0] 43)
  have hm := h
  have hM : Hid (Rm w b rb vg vc vn vt G C tk la ru gn tr L) := h
  obtain ⟨⟨v1, v3, e1⟩, ⟨y1, y3, e2⟩, ⟨u1, u2, e3⟩, z1, z2, e4⟩ := h.vs
  subst e1 e2 e3 e4
  obtain ⟨n, hn⟩ : ∃ n, G.length = n := ⟨_, rfl⟩
  obtain ⟨m, hmm⟩ : ∃ m, C.length = m := ⟨_, rfl⟩
  have hn' : Hid (G.length = n) := hn
  have hm' : Hid (C.length = m) := hmm
  rw [hn, hmm] at XM
  clear h hk hx hn hmm ex hr hb1 htk hg lC hm
  go_enter Try.func21, Try.ntmps21
  go_upto_region 1 with fail
  generalize (w.alloc (.cells #[.int .i64 0, .int .i64 0, .int .i64 0, .int .i64 0] 43)) = V0 at *
  obtain ⟨_, i1, _⟩ := id XM
  go_upto_region 4 with (go_at_call 32; (with_reducible refine Calls.mono (h32 _ XB) ?_); rintro e V ⟨rfl, hb⟩)
  have p1 : w.heap.size + 1 ≤ V.heap.size := by have := (XR.below hb).1; omega
  have YP : Has (V.alloc (.cells #[.int .i64 x.k, .int .i64 x.t, .int .i64 x.a, .int .i64 x.b] 43)) V.heap.size #[.int .i64 x.k, .int .i64 x.t, .int .i64 x.a, .int .i64 x.b] := Has.new _ _ _ rfl
  have YM := (XM.below hb).alloc (.cells #[.int .i64 x.k, .int .i64 x.t, .int .i64 x.a, .int .i64 x.b] 43)
  have YR := (XR.below hb).alloc (.cells #[.int .i64 x.k, .int .i64 x.t, .int .i64 x.a, .int .i64 x.b] 43)
  have YB := (XB.trans (hb.mono XB.size)).alloc (XB.trans (hb.mono XB.size)).size (.cells #[.int .i64 x.k, .int .i64 x.t, .int .i64 x.a, .int .i64 x.b] 43)
  clear XM XR XB hb i1 h32
  generalize V.heap.size = pp at *
  generalize (V.alloc (.cells #[.int .i64 x.k, .int .i64 x.t, .int .i64 x.a, .int .i64 x.b] 43)) = w1 at *
  have hpb : pp ≠ b := by have := hM.out.ob.1; omega
  have hwb : w.heap.size ≠ b := by have := hM.out.ob.1; omega
  obtain ⟨_, i1, _⟩ := id YP
  obtain ⟨_, i2, f2⟩ := id YM
  go_upto_region 6 with fail
  have hm := hM.out
  have nlb : ¬ (Value.slice z1 L.length z2).ownBlock = some b := hm.d3.1
  have nlp : ¬ (Value.slice z1 L.length z2).ownBlock = some pp := fun e => by have := (own_lt hm.tol pp e).2; omega
  have nlw : ¬ (Value.slice z1 L.length z2).ownBlock = some w.heap.size := fun e => by have := (own_lt hm.tol w.heap.size e).2; omega
  have Y6 := YM.e69 (.int .i64 x.k) (.int .i64 x.t) (.int .i64 x.a) (.int .i64 x.b)
  have Q6 := (((YP.far hpb (i := 6) (.int .i64 x.k)).far hpb (i := 7) (.int .i64 x.t)).far hpb (i := 8) (.int .i64 x.a)).far hpb (i := 9) (.int .i64 x.b)
  have R6 := (((YR.far hwb (i := 6) (.int .i64 x.k)).far hwb (i := 7) (.int .i64 x.t)).far hwb (i := 8) (.int .i64 x.a)).far hwb (i := 9) (.int .i64 x.b)
  have O6 : Only (fun q => q = b) w ((((w1.setCell ⟨b, 6, none⟩ (.int .i64 x.k)).setCell ⟨b, 7, none⟩ (.int .i64 x.t)).setCell ⟨b, 8, none⟩ (.int .i64 x.a)).setCell ⟨b, 9, none⟩ (.int .i64 x.b)) := (((((Only.refl (fun q => q = b) w).below YB).set rfl (b := b) (i := 6) (.int .i64 x.k)).set rfl (b := b) (i := 7) (.int .i64 x.t)).set rfl (b := b) (i := 8) (.int .i64 x.a)).set rfl (b := b) (i := 9) (.int .i64 x.b)
  have G6 := own_only2 hm.tol O6 (fun q hq e => nlb (by rw [hq, e]))
  clear YM YP YR YB i1 i2 f2
  generalize ((((w1.setCell ⟨b, 6, none⟩ (.int .i64 x.k)).setCell ⟨b, 7, none⟩ (.int .i64 x.t)).setCell ⟨b, 8, none⟩ (.int .i64 x.a)).setCell ⟨b, 9, none⟩ (.int .i64 x.b)) = W6 at *
  obtain ⟨ti, hi, hxx⟩ := Option.map_eq_some_iff.1 infoA
  have hi0 : ti.zero = some (.agg #[.int .i64 0, .int .i64 0, .int .i64 0, .int .i64 0]) := congrArg (·.1) hxx
  have hi1 : ti.size = 4 := congrArg (·.2.1) hxx
  have hi2 : ti.bytes = 32 := congrArg (·.2.2) hxx
  have hbw : b < w.heap.size := hm.ob.1
  go_cut [] (fun wx => ∃ g cap, Has wx b #[.slice v1 n v3, .slice y1 m y3, .int .i64 tk, .string la, .slice (some ⟨rb, 0, none⟩) n n, .slice u1 n u2, .int .i64 x.k, .int .i64 x.t, .int .i64 x.a, .int .i64 x.b, .slice (some ⟨g, 0, none⟩) (L.length + 1) cap] ∧ Has wx pp #[.int .i64 x.k, .int .i64 x.t, .int .i64 x.a, .int .i64 x.b] ∧ Has wx w.heap.size #[.int .i64 0, .int .i64 0, .int .i64 0, .int .i64 0] ∧ Only (fun q => q = b ∨ (Value.slice z1 L.length z2).ownBlock = some q) w wx ∧ wx.ownsRow 0 43 4 (.slice (some ⟨g, 0, none⟩) (L.length + 1) cap) (L ++ [x]).length (cellsF Al.cs (L ++ [x])) ∧ g ≠ w.heap.size ∧ ((Value.slice (some ⟨g, 0, none⟩) (L.length + 1) cap).ownBlock = (Value.slice z1 L.length z2).ownBlock ∨ ∀ q, (Value.slice (some ⟨g, 0, none⟩) (L.length + 1) cap).ownBlock = some q → w.heap.size ≤ q))
  case first =>
    refine wp_region_noPanic ?_
    refine wp_region_held_drew (S := fun w' => w'.cell? ⟨pp, 0, none⟩ = some (.int .i64 x.k) ∧ w'.cell? ⟨pp, 1, none⟩ = some (.int .i64 x.t) ∧ w'.cell? ⟨pp, 2, none⟩ = some (.int .i64 x.a) ∧ w'.cell? ⟨pp, 3, none⟩ = some (.int .i64 x.b)) (by kernel_rfl) ?_ (fun hHeld => ?_)
    · (try dsimp only)
      exact ⟨Q6.reads rfl, Q6.reads rfl, Q6.reads rfl, Q6.reads rfl⟩
    refine wpAnyH_take (i := 0) (oi := { dst := some 24, op := Op.move (Operand.tmp 0), type := 32, pos := "ref.go:348", after := #[], guard := none }) (v := ?_) rfl (by kernel_rfl) (by kernel_rfl) (by kernel_rfl) (fun _ _ _ h => h) (Or.inl ⟨by rfl, ?_⟩) (by assumption) ?_
    rotate_left
    · intro wz hSz; (try dsimp only at hSz); go_simp; all_goals (with_reducible rfl)
    (try simp only [Act.put, List.setIfInBounds_toArray, List.set_cons_zero, List.set_cons_succ])
    refine wpAnyH_take (i := 1) (oi := { dst := some 25, op := Op.move (Operand.tmp 0), type := 32, pos := "ref.go:348", after := #[], guard := none }) (v := ?_) rfl (by kernel_rfl) (by kernel_rfl) (by kernel_rfl) (fun _ _ _ h => h) (Or.inl ⟨by rfl, ?_⟩) (by assumption) ?_
    rotate_left
    · intro wz hSz; (try dsimp only at hSz); go_simp; all_goals (with_reducible rfl)
    (try simp only [Act.put, List.setIfInBounds_toArray, List.set_cons_zero, List.set_cons_succ])
    refine wpAnyH_take (i := 2) (oi := { dst := some 26, op := Op.nilCheck (Operand.tmp 25), type := 0, pos := "ref.go:348", after := #[{ on := 1, ground := Ground.data }], guard := none }) (v := ?_) rfl (by kernel_rfl) (by kernel_rfl) (by kernel_rfl) (fun _ _ _ h => h) (Or.inl ⟨by rfl, ?_⟩) (by assumption) ?_
    rotate_left
    · intro wz hSz; (try dsimp only at hSz); go_simp; all_goals (with_reducible rfl)
    (try simp only [Act.put, List.setIfInBounds_toArray, List.set_cons_zero, List.set_cons_succ])
    refine wpAnyH_take (i := 3) (oi := { dst := some 27, op := Op.fieldAddr 64 (Operand.tmp 26) 6, type := 0, pos := "ref.go:348", after := #[{ on := 2, ground := Ground.data }], guard := none }) (v := ?_) rfl (by kernel_rfl) (by kernel_rfl) (by kernel_rfl) (fun _ _ _ h => h) (Or.inl ⟨by rfl, ?_⟩) (by assumption) ?_
    rotate_left
    · intro wz hSz; (try dsimp only at hSz); go_simp; all_goals (with_reducible rfl)
    (try simp only [Act.put, List.setIfInBounds_toArray, List.set_cons_zero, List.set_cons_succ])
    refine wpAnyH_take (i := 5) (oi := { dst := some 29, op := Op.load 43 (Operand.tmp 5), type := 43, pos := "ref.go:348", after := #[], guard := none }) (v := ?_) rfl (by kernel_rfl) (by kernel_rfl) (by kernel_rfl) (fun _ _ _ h => h) (Or.inl ⟨by rfl, ?_⟩) (by assumption) ?_
    rotate_left
    · intro wz hSz; (try dsimp only at hSz); go_simp; all_goals (with_reducible rfl)
    (try simp only [Act.put, List.setIfInBounds_toArray, List.set_cons_zero, List.set_cons_succ])
    replace Y6 := Y6.drew
    replace Q6 := Q6.drew
    replace R6 := R6.drew
    replace O6 := O6.drew
    replace G6 := own_bel G6 (Below.refl _ _).drew
    generalize W6.drew = V7 at *
    refine wpAnyH_ready (rs := [4, 6]) (by kernel_rfl) (by simp) ?_
    refine AllReadyH.cons (o := { dst := some 28, op := Op.load 39 (Operand.tmp 27), type := 39, pos := "ref.go:348", after := #[{ on := 3, ground := Ground.data }], guard := none }) rfl (fun K hK => ?_) (AllReadyH.cons (o := { dst := some 30, op := Op.buildSlice 39 1 #[(0, Operand.tmp 29)], type := 39, pos := "ref.go:348", after := #[{ on := 5, ground := Ground.data }], guard := none }) rfl (fun K hK => ?_) (AllReadyH.nil))
    · skip
      have c8 := Y6.reads (i := 10) rfl
      go_simp
      refine hK.out _ _ ?_ (fun hHeld => ?_)
      · (try dsimp only)
        exact ⟨Q6.reads rfl, Q6.reads rfl, Q6.reads rfl, Q6.reads rfl⟩
      clear hK K
      (try simp only [Act.put, List.setIfInBounds_toArray, List.set_cons_zero, List.set_cons_succ])
      refine wpAnyH_ready (rs := [6]) (by kernel_rfl) (by simp) ?_
      refine AllReadyH.cons (o := { dst := some 30, op := Op.buildSlice 39 1 #[(0, Operand.tmp 29)], type := 39, pos := "ref.go:348", after := #[{ on := 5, ground := Ground.data }], guard := none }) rfl (fun K hK => ?_) (AllReadyH.nil)
      go_simp
      have hbb : Below V7.heap.size V7 (V7.alloc (.cells #[.int .i64 x.k, .int .i64 x.t, .int .i64 x.a, .int .i64 x.b] 43)) := belN1
      have N7 : Has (V7.alloc (.cells #[.int .i64 x.k, .int .i64 x.t, .int .i64 x.a, .int .i64 x.b] 43)) V7.heap.size #[.int .i64 x.k, .int .i64 x.t, .int .i64 x.a, .int .i64 x.b] := Has.new _ _ _ rfl
      have h7 : pp < V7.heap.size := Q6.1
      replace Y6 := Y6.below hbb
      replace Q6 := Q6.below hbb
      replace R6 := R6.below hbb
      replace O6 := O6.below hbb
      replace G6 := own_bel G6 hbb
      clear hbb
      generalize V7.heap.size = q0 at *
      generalize (V7.alloc (.cells #[.int .i64 x.k, .int .i64 x.t, .int .i64 x.a, .int .i64 x.b] 43)) = V8 at *
      refine hK.out _ _ ?_ (fun hHeld => ?_)
      · (try dsimp only)
        exact ⟨Q6.reads rfl, Q6.reads rfl, Q6.reads rfl, Q6.reads rfl⟩
      clear hK K
      (try simp only [Act.put, List.setIfInBounds_toArray, List.set_cons_zero, List.set_cons_succ])
      have nc : ∀ j u, x.cs[j]? = some u → V8.cell? ((⟨q0, 0, none⟩ : Addr).add j) = some u := newsOf N7
      have zH : w.heap.size + 1 ≤ V8.heap.size := by have := R6.1; omega
      refine wpAnyH_ready (rs := [7]) (by kernel_rfl) (by simp) ?_
      refine AllReadyH.cons (o := { dst := some 31, op := Op.call { callee := Callee.builtin Builtin.append, args := #[Operand.tmp 28, Operand.tmp 30], argTypes := #[39, 39] }, type := 39, pos := "ref.go:348", after := #[{ on := 4, ground := Ground.data }, { on := 6, ground := Ground.data }], guard := none }) rfl (fun K hK => ?_) (AllReadyH.nil)
      refine step_append_lies _ rfl _ _ 39 rfl 0 43 ti _ 4 32 Try.underlying39 hi hi0 hi1 hi2 rfl (by decide) (.slice z1 L.length z2) L.length (cellsF Al.cs L) rfl G6 ⟨q0, 0, none⟩ 1 1 x.cs rfl rfl nc (al_one x) (by decide) (by unfold maxLen; omega) (by omega) (by omega) _ rfl ?_
      intro g cap w3 o1 o2 o3 o4
      have NO : Only (fun q => (Value.slice z1 L.length z2).ownBlock = some q) V8 w3 := only_grown (Only.refl _ _) o2 (fun k hk => .inl hk)
      replace Y6 := Y6.only NO nlb
      replace Q6 := Q6.only NO nlp
      replace R6 := R6.only NO nlw
      replace O6 : Only (fun q => q = b ∨ (Value.slice z1 L.length z2).ownBlock = some q) w w3 := (O6.mono (fun q e => .inl e)).trans (NO.mono (fun q e => .inr e))
      replace G6 := o1
      clear o1 o2 NO nc N7
      refine hK.out _ _ ?_ (fun hHeld => ?_)
      · (try dsimp only)
        exact ⟨Q6.reads rfl, Q6.reads rfl, Q6.reads rfl, Q6.reads rfl⟩
      clear hK K
      (try simp only [Act.put, List.setIfInBounds_toArray, List.set_cons_zero, List.set_cons_succ])
      refine wpAnyH_take (i := 8) (oi := { dst := some 32, op := Op.nilCheck (Operand.tmp 24), type := 0, pos := "ref.go:348", after := #[{ on := 0, ground := Ground.data }, { on := 0, ground := Ground.phase }, { on := 1, ground := Ground.phase }, { on := 2, ground := Ground.phase }, { on := 3, ground := Ground.phase }, { on := 4, ground := Ground.phase }, { on := 5, ground := Ground.phase }, { on := 6, ground := Ground.phase }, { on := 7, ground := Ground.phase }], guard := none }) (v := ?_) rfl (by kernel_rfl) (by kernel_rfl) (by kernel_rfl) (fun _ _ _ h => h) (Or.inl ⟨by rfl, ?_⟩) (by assumption) ?_
      rotate_left
      · intro wz hSz; (try dsimp only at hSz); go_simp; all_goals (with_reducible rfl)
      (try simp only [Act.put, List.setIfInBounds_toArray, List.set_cons_zero, List.set_cons_succ])
      refine wpAnyH_take (i := 9) (oi := { dst := some 33, op := Op.fieldAddr 64 (Operand.tmp 32) 6, type := 0, pos := "ref.go:348", after := #[{ on := 8, ground := Ground.data }, { on := 0, ground := Ground.phase }, { on := 1, ground := Ground.phase }, { on := 2, ground := Ground.phase }, { on := 3, ground := Ground.phase }, { on := 4, ground := Ground.phase }, { on := 5, ground := Ground.phase }, { on := 6, ground := Ground.phase }, { on := 7, ground := Ground.phase }], guard := none }) (v := ?_) rfl (by kernel_rfl) (by kernel_rfl) (by kernel_rfl) (fun _ _ _ h => h) (Or.inl ⟨by rfl, ?_⟩) (by assumption) ?_
      rotate_left
      · intro wz hSz; (try dsimp only at hSz); go_simp; all_goals (with_reducible rfl)
      (try simp only [Act.put, List.setIfInBounds_toArray, List.set_cons_zero, List.set_cons_succ])
      have f8 := Y6.2.2 10
      have c8 := Y6.reads (i := 10) rfl
      refine wpAnyH_ready (rs := [10]) (by kernel_rfl) (by simp) ?_
      refine AllReadyH.cons (o := { dst := none, op := Op.store 39 (Operand.tmp 33) (Operand.tmp 31), type := 0, pos := "ref.go:348", after := #[{ on := 9, ground := Ground.data }, { on := 7, ground := Ground.data }, { on := 7, ground := Ground.chain }, { on := 0, ground := Ground.phase }, { on := 1, ground := Ground.phase }, { on := 2, ground := Ground.phase }, { on := 3, ground := Ground.phase }, { on := 4, ground := Ground.phase }, { on := 5, ground := Ground.phase }, { on := 6, ground := Ground.phase }, { on := 7, ground := Ground.phase }], guard := none }) rfl (fun K hK => ?_) (AllReadyH.nil)
      go_simp
      have Q8 := Q6.far hpb (i := 10) (.slice (some ⟨g, 0, none⟩) (L.length + 1) cap)
      refine hK.out _ _ ?_ (fun hHeld => ?_)
      · (try dsimp only)
        exact ⟨Q8.reads rfl, Q8.reads rfl, Q8.reads rfl, Q8.reads rfl⟩
      clear hK K
      (try simp only [Act.put, List.setIfInBounds_toArray, List.set_cons_zero, List.set_cons_succ])
      refine wpAnyH_done (by kernel_rfl) ?_ _
      refine NoPanic.normal ?_
      have fG : cellsF Al.cs L ++ x.cs = cellsF Al.cs (L ++ [x]) := by rw [cellsF_append]; simp [cellsF]
      rw [fG] at G6
      have fL : L.length + 1 = (L ++ [x]).length := by simp
      have G6' : w3.ownsRow 0 43 4 (.slice (some ⟨g, 0, none⟩) (L.length + 1) cap) (L ++ [x]).length (cellsF Al.cs (L ++ [x])) := by rw [← fL]; exact G6
      have hgb : g ≠ b ∧ g ≠ w.heap.size := ⟨fun e => o3.elim (fun h => nlb (e ▸ h)) (fun h => by omega), fun e => o3.elim (fun h => nlw (e ▸ h)) (fun h => by omega)⟩
      have newb : (Value.slice (some ⟨g, 0, none⟩) (L.length + 1) cap).ownBlock = (Value.slice z1 L.length z2).ownBlock ∨ ∀ q, (Value.slice (some ⟨g, 0, none⟩) (L.length + 1) cap).ownBlock = some q → w.heap.size ≤ q := o3.elim (fun h => .inl h.symm) (fun h => .inr (fun q hq => by have e0 : g = q := Option.some.inj hq; omega))
      have Y8 := Y6.e10 (.slice (some ⟨g, 0, none⟩) (L.length + 1) cap)
      have R8 := R6.far hwb (i := 10) (.slice (some ⟨g, 0, none⟩) (L.length + 1) cap)
      have O8 := O6.set (.inl rfl) (b := b) (i := 10) (.slice (some ⟨g, 0, none⟩) (L.length + 1) cap)
      have G8 := own_only2 G6' (only_of_set w3 b 10 (.slice (some ⟨g, 0, none⟩) (L.length + 1) cap)) (fun q hq e => by injection hq with hq; exact hgb.1 (hq.trans e))
      go_wp2_with fail
      go_meet
      exact ⟨g, cap, Y8, Q8, R8, O8, G8, hgb.2, newb⟩
    · skip
      go_simp
      have hbb : Below V7.heap.size V7 (V7.alloc (.cells #[.int .i64 x.k, .int .i64 x.t, .int .i64 x.a, .int .i64 x.b] 43)) := belN1
      have N7 : Has (V7.alloc (.cells #[.int .i64 x.k, .int .i64 x.t, .int .i64 x.a, .int .i64 x.b] 43)) V7.heap.size #[.int .i64 x.k, .int .i64 x.t, .int .i64 x.a, .int .i64 x.b] := Has.new _ _ _ rfl
      have h7 : pp < V7.heap.size := Q6.1
      replace Y6 := Y6.below hbb
      replace Q6 := Q6.below hbb
      replace R6 := R6.below hbb
      replace O6 := O6.below hbb
      replace G6 := own_bel G6 hbb
      clear hbb
      generalize V7.heap.size = q0 at *
      generalize (V7.alloc (.cells #[.int .i64 x.k, .int .i64 x.t, .int .i64 x.a, .int .i64 x.b] 43)) = V8 at *
      refine hK.out _ _ ?_ (fun hHeld => ?_)
      · (try dsimp only)
        exact ⟨Q6.reads rfl, Q6.reads rfl, Q6.reads rfl, Q6.reads rfl⟩
      clear hK K
      (try simp only [Act.put, List.setIfInBounds_toArray, List.set_cons_zero, List.set_cons_succ])
      refine wpAnyH_ready (rs := [4]) (by kernel_rfl) (by simp) ?_
      refine AllReadyH.cons (o := { dst := some 28, op := Op.load 39 (Operand.tmp 27), type := 39, pos := "ref.go:348", after := #[{ on := 3, ground := Ground.data }], guard := none }) rfl (fun K hK => ?_) (AllReadyH.nil)
      have c8 := Y6.reads (i := 10) rfl
      go_simp
      refine hK.out _ _ ?_ (fun hHeld => ?_)
      · (try dsimp only)
        exact ⟨Q6.reads rfl, Q6.reads rfl, Q6.reads rfl, Q6.reads rfl⟩
      clear hK K
      (try simp only [Act.put, List.setIfInBounds_toArray, List.set_cons_zero, List.set_cons_succ])
      have nc : ∀ j u, x.cs[j]? = some u → V8.cell? ((⟨q0, 0, none⟩ : Addr).add j) = some u := newsOf N7
      have zH : w.heap.size + 1 ≤ V8.heap.size := by have := R6.1; omega
      refine wpAnyH_ready (rs := [7]) (by kernel_rfl) (by simp) ?_
      refine AllReadyH.cons (o := { dst := some 31, op := Op.call { callee := Callee.builtin Builtin.append, args := #[Operand.tmp 28, Operand.tmp 30], argTypes := #[39, 39] }, type := 39, pos := "ref.go:348", after := #[{ on := 4, ground := Ground.data }, { on := 6, ground := Ground.data }], guard := none }) rfl (fun K hK => ?_) (AllReadyH.nil)
      refine step_append_lies _ rfl _ _ 39 rfl 0 43 ti _ 4 32 Try.underlying39 hi hi0 hi1 hi2 rfl (by decide) (.slice z1 L.length z2) L.length (cellsF Al.cs L) rfl G6 ⟨q0, 0, none⟩ 1 1 x.cs rfl rfl nc (al_one x) (by decide) (by unfold maxLen; omega) (by omega) (by omega) _ rfl ?_
      intro g cap w3 o1 o2 o3 o4
      have NO : Only (fun q => (Value.slice z1 L.length z2).ownBlock = some q) V8 w3 := only_grown (Only.refl _ _) o2 (fun k hk => .inl hk)
      replace Y6 := Y6.only NO nlb
      replace Q6 := Q6.only NO nlp
      replace R6 := R6.only NO nlw
      replace O6 : Only (fun q => q = b ∨ (Value.slice z1 L.length z2).ownBlock = some q) w w3 := (O6.mono (fun q e => .inl e)).trans (NO.mono (fun q e => .inr e))
      replace G6 := o1
      clear o1 o2 NO nc N7
      refine hK.out _ _ ?_ (fun hHeld => ?_)
      · (try dsimp only)
        exact ⟨Q6.reads rfl, Q6.reads rfl, Q6.reads rfl, Q6.reads rfl⟩
      clear hK K
      (try simp only [Act.put, List.setIfInBounds_toArray, List.set_cons_zero, List.set_cons_succ])
      refine wpAnyH_take (i := 8) (oi := { dst := some 32, op := Op.nilCheck (Operand.tmp 24), type := 0, pos := "ref.go:348", after := #[{ on := 0, ground := Ground.data }, { on := 0, ground := Ground.phase }, { on := 1, ground := Ground.phase }, { on := 2, ground := Ground.phase }, { on := 3, ground := Ground.phase }, { on := 4, ground := Ground.phase }, { on := 5, ground := Ground.phase }, { on := 6, ground := Ground.phase }, { on := 7, ground := Ground.phase }], guard := none }) (v := ?_) rfl (by kernel_rfl) (by kernel_rfl) (by kernel_rfl) (fun _ _ _ h => h) (Or.inl ⟨by rfl, ?_⟩) (by assumption) ?_
      rotate_left
      · intro wz hSz; (try dsimp only at hSz); go_simp; all_goals (with_reducible rfl)
      (try simp only [Act.put, List.setIfInBounds_toArray, List.set_cons_zero, List.set_cons_succ])
      refine wpAnyH_take (i := 9) (oi := { dst := some 33, op := Op.fieldAddr 64 (Operand.tmp 32) 6, type := 0, pos := "ref.go:348", after := #[{ on := 8, ground := Ground.data }, { on := 0, ground := Ground.phase }, { on := 1, ground := Ground.phase }, { on := 2, ground := Ground.phase }, { on := 3, ground := Ground.phase }, { on := 4, ground := Ground.phase }, { on := 5, ground := Ground.phase }, { on := 6, ground := Ground.phase }, { on := 7, ground := Ground.phase }], guard := none }) (v := ?_) rfl (by kernel_rfl) (by kernel_rfl) (by kernel_rfl) (fun _ _ _ h => h) (Or.inl ⟨by rfl, ?_⟩) (by assumption) ?_
      rotate_left
      · intro wz hSz; (try dsimp only at hSz); go_simp; all_goals (with_reducible rfl)
      (try simp only [Act.put, List.setIfInBounds_toArray, List.set_cons_zero, List.set_cons_succ])
      have f8 := Y6.2.2 10
      have c8 := Y6.reads (i := 10) rfl
      refine wpAnyH_ready (rs := [10]) (by kernel_rfl) (by simp) ?_
      refine AllReadyH.cons (o := { dst := none, op := Op.store 39 (Operand.tmp 33) (Operand.tmp 31), type := 0, pos := "ref.go:348", after := #[{ on := 9, ground := Ground.data }, { on := 7, ground := Ground.data }, { on := 7, ground := Ground.chain }, { on := 0, ground := Ground.phase }, { on := 1, ground := Ground.phase }, { on := 2, ground := Ground.phase }, { on := 3, ground := Ground.phase }, { on := 4, ground := Ground.phase }, { on := 5, ground := Ground.phase }, { on := 6, ground := Ground.phase }, { on := 7, ground := Ground.phase }], guard := none }) rfl (fun K hK => ?_) (AllReadyH.nil)
      go_simp
      have Q8 := Q6.far hpb (i := 10) (.slice (some ⟨g, 0, none⟩) (L.length + 1) cap)
      refine hK.out _ _ ?_ (fun hHeld => ?_)
      · (try dsimp only)
        exact ⟨Q8.reads rfl, Q8.reads rfl, Q8.reads rfl, Q8.reads rfl⟩
      clear hK K
      (try simp only [Act.put, List.setIfInBounds_toArray, List.set_cons_zero, List.set_cons_succ])
      refine wpAnyH_done (by kernel_rfl) ?_ _
      refine NoPanic.normal ?_
      have fG : cellsF Al.cs L ++ x.cs = cellsF Al.cs (L ++ [x]) := by rw [cellsF_append]; simp [cellsF]
      rw [fG] at G6
      have fL : L.length + 1 = (L ++ [x]).length := by simp
      have G6' : w3.ownsRow 0 43 4 (.slice (some ⟨g, 0, none⟩) (L.length + 1) cap) (L ++ [x]).length (cellsF Al.cs (L ++ [x])) := by rw [← fL]; exact G6
      have hgb : g ≠ b ∧ g ≠ w.heap.size := ⟨fun e => o3.elim (fun h => nlb (e ▸ h)) (fun h => by omega), fun e => o3.elim (fun h => nlw (e ▸ h)) (fun h => by omega)⟩
      have newb : (Value.slice (some ⟨g, 0, none⟩) (L.length + 1) cap).ownBlock = (Value.slice z1 L.length z2).ownBlock ∨ ∀ q, (Value.slice (some ⟨g, 0, none⟩) (L.length + 1) cap).ownBlock = some q → w.heap.size ≤ q := o3.elim (fun h => .inl h.symm) (fun h => .inr (fun q hq => by have e0 : g = q := Option.some.inj hq; omega))
      have Y8 := Y6.e10 (.slice (some ⟨g, 0, none⟩) (L.length + 1) cap)
      have R8 := R6.far hwb (i := 10) (.slice (some ⟨g, 0, none⟩) (L.length + 1) cap)
      have O8 := O6.set (.inl rfl) (b := b) (i := 10) (.slice (some ⟨g, 0, none⟩) (L.length + 1) cap)
      have G8 := own_only2 G6' (only_of_set w3 b 10 (.slice (some ⟨g, 0, none⟩) (L.length + 1) cap)) (fun q hq e => by injection hq with hq; exact hgb.1 (hq.trans e))
      go_wp2_with fail
      go_meet
      exact ⟨g, cap, Y8, Q8, R8, O8, G8, hgb.2, newb⟩

  case rest =>
  clear Y6 Q6 R6 O6 G6
  obtain ⟨g, cap, Y8, Q8, R8, O8, G8, hgw, newb⟩ := hcut
  obtain ⟨_, i1, _⟩ := id Q8
  obtain ⟨_, i2, f2⟩ := id R8
  go_wp2
  have ZO : Only (fun q => q = b ∨ (Value.slice z1 L.length z2).ownBlock = some q) w ((((wc.setCell ⟨w.heap.size, 0, none⟩ (.int .i64 x.k)).setCell ⟨w.heap.size, 1, none⟩ (.int .i64 x.t)).setCell ⟨w.heap.size, 2, none⟩ (.int .i64 x.a)).setCell ⟨w.heap.size, 3, none⟩ (.int .i64 x.b)) := (((O8.set_new (Nat.le_refl _) _).set_new (Nat.le_refl _) _).set_new (Nat.le_refl _) _).set_new (Nat.le_refl _) _
  have ZD := ZO.mono (T := Dyn b rb (.slice u1 G.length u2) (.slice z1 L.length z2)) (fun q e => e.elim .inl (fun e => .inr (.inr (.inr e))))
  obtain ⟨c1, c2⟩ := hm.chg (vt' := .slice (some ⟨g, 0, none⟩) (L.length + 1) cap) (L' := L ++ [x]) (tr' := x) (tk' := tk) (la' := la) ZD (by rw [hn'.out, hm'.out]; exact far4 Y8 (Ne.symm hwb)) (hm.run.only ZO (fun e => e.elim (fun e => hm.d1 e.symm) (fun e => hm.d3.2 e))) (own_only2 hm.grn ZO (fun q hq e => e.elim (fun e => hm.d2.1 (by rw [hq, e])) (fun e => hm.d4 q hq e))) (own_only2 G8 ((((only_of_set _ w.heap.size 0 _).trans (only_of_set _ w.heap.size 1 _)).trans (only_of_set _ w.heap.size 2 _)).trans (only_of_set _ w.heap.size 3 _)) (fun q hq e => by injection hq with hq; exact hgw (hq.trans e))) newb
  exact bodyPost_ret (v := .agg #[.int .i64 x.k, .int .i64 x.t, .int .i64 x.a, .int .i64 x.b]) (by simp [results, Try.results21, go_sem, i2]) rfl ⟨rfl, _, c1, c2, ZD⟩
end Go.Proofs.Ytoaokpmnjppfcaa
