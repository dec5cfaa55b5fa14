import Derived.Test.YtjfieclmagbfbaaGreatDoorJBnS
import Derived.OrdersHeld
import Derived.Deep.RegionHeld
import Derived.Deep.CutRange
set_option linter.unusedSimpArgs false
set_option linter.unusedVariables false
set_option maxRecDepth 100000
set_option maxHeartbeats 8000000
namespace Go.Proofs.YtjfieclmagbfbaaGreatDoor
open Go.RowKit
section
variable {P : Program} {md : Region.Mode} {ops : Array Oper} {Q : Exit → Act → World → Prop} {S : World → Prop} {E : Nat}
def wpAnyE (P : Program) (md : Region.Mode) (ops : Array Oper) (Q : Exit → Act → World → Prop) (S : World → Prop) (E : Nat) : Nat → Array Bool → Act → World → Prop
 | 0, listed, a, w => Region.ready md ops listed = [] ∧ Q .normal a w
 | fuel + 1, listed, a, w =>
   (Region.ready md ops listed = [] → Q .normal a w) ∧
   ∀ i ∈ Region.ready md ops listed, wpOp P ops Q i (fun a' w' => (i ≠ E → S w') ∧ wpAnyE P md ops Q S E fuel (listed.setIfInBounds i true) a' w') a w
theorem wpAny_of_E : ∀ (fuel : Nat) (listed : Array Bool) (a : Act) (w : World), wpAnyE P md ops Q S E fuel listed a w → wpAny P md ops Q fuel listed a w
 | 0, _, _, _, h => h
 | fuel + 1, _, _, _, h => ⟨h.1, fun i hi => wpOp_mono (fun a' w' h' => wpAny_of_E fuel _ a' w' h'.2) (h.2 i hi)⟩
theorem wp_region_E {id : Nat} {a : Act} {w : World} (hm : P.follows .mixedOrders = true) (hS : S w.drew)
  (h : S w.drew → wpAnyE P .any ops Q S E ops.size (Array.replicate ops.size false) a w.drew) : (Code.region id ops true).wp P Q a w :=
 wp_region_any hm (wpAny_of_E _ _ _ _ (h hS))
theorem wpAnyE_first {i : Nat} {oi : Oper} {v : Value} (hi : ops[i]? = some oi) (hsel : ∀ (j : Nat) (o : Oper) cs b, ops[j]? = some o → o.op ≠ .select cs b)
  (hQ : ∀ c a w, Q (.panic c) (a.put oi.dst v) w → Q (.panic c) a w) (hiE : i ≠ E) (hE : ∀ oE, ops[E]? = some oE → ∃ e ∈ oE.after, Region.binds md e = true ∧ e.on = i) :
  ∀ (fuel : Nat) (listed : Array Bool) (a : Act) (w : World),
   (∀ j oj, ops[j]? = some oj → j ≠ i → listed.getD j true = false → (∀ e ∈ oj.after, Region.binds md e = true → e.on ≠ i) → oi.apart ops oj = true) →
   i ∈ Region.ready md ops listed → YieldsIf P ops S oi v a → S w →
   wpAnyE P md ops Q S E fuel (listed.setIfInBounds i true) (a.put oi.dst v) w → wpAnyE P md ops Q S E (fuel + 1) listed a w := by
 intro fuel
 induction fuel with
 | zero =>
   intro listed a w _ hr hy hS H; refine ⟨fun h => (by rw [h] at hr; cases hr), fun j hj => ?_⟩
   by_cases hji : j = i
   ·subst hji; exact hy.wpOp hi hS ⟨fun _ => hS, H⟩
   ·have := ready_mono hj hji
    rw [H.1] at this
    cases this
 | succ fuel ih =>
   intro listed a w hfree hr hy hS H; refine ⟨fun h => (by rw [h] at hr; cases hr), fun j hj => ?_⟩
   by_cases hji : j = i
   ·subst hji; exact hy.wpOp hi hS ⟨fun _ => hS, H⟩
   ·have h1 := H.2 j (ready_mono hj hji)
    obtain ⟨hjun, oj, hoj, hall⟩ := mem_ready.1 hj; have hnot : ∀ e ∈ oj.after, Region.binds md e = true → e.on ≠ i := fun e he hb heq => by
     have h1 := hall e he hb; have h0 := (mem_ready.1 hr).1; rw [heq] at h1; rcases Nat.lt_or_ge i listed.size with h' | h'
     ·simp [h'] at h0 h1; rw [h0] at h1; cases h1
     ·simp [Array.getElem?_eq_none h'] at h1
    have hjE : j ≠ E := fun e => by
     subst e; obtain ⟨e, he, hb, ho⟩ := hE oj hoj; exact hnot e he hb ho
    have h2 := wpOp_putIf hoj (hfree j oj hoj hji hjun hnot) (fun cs b => hsel i oi cs b hi) (fun cs b => hsel j oj cs b hoj) hQ hy h1; have hfree' : ∀ k ok, ops[k]? = some ok → k ≠ i → (listed.setIfInBounds j true).getD k true = false →
      (∀ e ∈ ok.after, Region.binds md e = true → e.on ≠ i) → oi.apart ops ok = true := fun k ok hk hki hun hno => by
     refine hfree k ok hk hki ?_ hno
     by_cases hjk : j = k
     ·subst hjk; exact hjun
     ·rw [getD_set_ne true hjk] at hun; exact hun
    refine wpOp_mono (fun a' w' h3 => ⟨fun _ => h3.2.1 hjE, ih (listed.setIfInBounds j true) a' w' hfree' (ready_mono hr (Ne.symm hji)) h3.1 (h3.2.1 hjE) ?_⟩) h2; rw [Array.setIfInBounds_comm _ _ hji]; exact h3.2.2
def waitsB (md : Region.Mode) (ops : Array Oper) (E i : Nat) : Bool := decide (i ≠ E) && ((ops[E]?).map (·.after.toList.any fun e => Region.binds md e && decide (e.on = i))).getD true
theorem wpAnyE_take {i : Nat} {oi : Oper} {v : Value} {fuel : Nat} {listed : Array Bool} {a : Act} {w : World} (hi : ops[i]? = some oi)
  (hs : Region.noSelect ops = true) (hf : Region.free md ops listed i = true) (hr : (Region.ready md ops listed).contains i = true) (hE : waitsB md ops E i = true)
  (hQ : ∀ c a w, Q (.panic c) (a.put oi.dst v) w → Q (.panic c) a w) (hy : YieldsIf P ops S oi v a) (hS : S w)
  (h : wpAnyE P md ops Q S E fuel (listed.setIfInBounds i true) (a.put oi.dst v) w) : wpAnyE P md ops Q S E (fuel + 1) listed a w := by
 unfold waitsB at hE
 rw [Bool.and_eq_true, decide_eq_true_eq] at hE
 refine wpAnyE_first hi (Region.noSelect_spec hs) hQ hE.1 (fun oE ho => ?_) fuel listed a w (Region.free_spec hi hf) (by simpa using hr) hy hS h
 have h2 := hE.2
 rw [ho] at h2
 simp only [Option.map_some, Option.getD_some, List.any_eq_true] at h2
 obtain ⟨e, he, hb⟩ := h2
 rw [Bool.and_eq_true, decide_eq_true_eq] at hb
 exact ⟨e, by simpa using he, hb.1, hb.2⟩
theorem wpAnyE_last {o : Oper} {fuel : Nat} {listed : Array Bool} {a : Act} {w : World} (hr : Region.ready md ops listed = [E]) (ho : ops[E]? = some o) (hd : Region.ready md ops (listed.setIfInBounds E true) = [])
  (hw : Region.wanted o (yielded ops a.tmps) = true) (h : ∀ K : Act → World → Prop, (∀ a' w', Q .normal a' w' → K a' w') → Oper.wp P o a w K Q) : wpAnyE P md ops Q S E (fuel + 1) listed a w := by
 refine ⟨fun h0 => (by rw [hr] at h0; cases h0), fun i hi => ?_⟩
 rw [hr] at hi
 obtain rfl : i = E := by simpa using hi
 have hst := h (fun a' w' => (i ≠ i → S w') ∧ wpAnyE P md ops Q S i fuel (listed.setIfInBounds i true) a' w') (fun a' w' hq => ⟨fun e => absurd rfl e, by
  cases fuel with
  | zero => exact ⟨hd, hq⟩
  | succ f => exact ⟨fun _ => hq, by rw [hd]; simp⟩⟩)
 unfold wpOp
 rw [ho]
 dsimp only
 rw [if_pos hw]
 exact .inl hst
end
section
variable {P : Program} {md : Region.Mode} {ops : Array Oper} {Q : Exit → Act → World → Prop} {S : World → Prop} {E : Nat}
theorem wpAnyE_one {i : Nat} {o : Oper} {fuel : Nat} {listed : Array Bool} {a : Act} {w : World} (hr : Region.ready md ops listed = [i]) (ho : ops[i]? = some o)
  (hw : Region.wanted o (yielded ops a.tmps) = true) (h : ∀ K : Act → World → Prop, Hid (∀ a' w', S w' → (S w' → wpAnyE P md ops Q S E fuel (listed.setIfInBounds i true) a' w') → K a' w') → Oper.wp P o a w K Q) : wpAnyE P md ops Q S E (fuel + 1) listed a w := by
 refine ⟨fun h0 => (by rw [hr] at h0; cases h0), fun j hj => ?_⟩
 rw [hr] at hj
 obtain rfl : j = i := by simpa using hj
 have hst := h (fun a' w' => (j ≠ E → S w') ∧ wpAnyE P md ops Q S E fuel (listed.setIfInBounds j true) a' w') (fun a' w' hS hq => ⟨fun _ => hS, hq hS⟩)
 unfold wpOp
 rw [ho]
 dsimp only
 rw [if_pos hw]
 exact .inl hst
end
def o0 (N : Nat) : Nat → Nat := fun b => if b < N + 3 then 2 else 0
theorem o0_new {N B e sz n : Nat} {W : World} {v : Value} {xs : List Value} (h : W.ownsRow B e sz v n xs) (hB : N + 3 ≤ B) : OwnT (o0 N) 0 N e sz W v n xs :=
 ⟨own_mono h (by omega), fun g hg => by have h1 := (own_lt h g hg).1; have h2 : ¬ g < N + 3 := by omega
                                        simp [o0, h2]⟩
theorem belD0 {w : World} : Below w.heap.size w w.drew := (Below.refl _ _).drew
theorem hideF {P : Prop} (h : P) : Hid P := h
theorem CtS.add {w W : World} {o : Nat → Nat} {T0 R0 U : Array Value} {Os : List Ow} {Ls : List Sv} {vS : Value} (h : CtS w o W T0 R0 U Os Ls vS) (y : Ow) (hy : OwnT o 0 w.heap.size y.e y.s W y.v y.n y.xs) : CtS w o W T0 R0 U (y :: Os) Ls vS :=
 ⟨h.hb, h.box, h.res, h.ub, h.lo, h.t0, h.t1, h.t2, h.own, fun z hz => by rcases List.mem_cons.1 hz with rfl | hz; (exact hy); (exact h.fl z hz), h.st⟩
structure CtE (w : World) (o : Nat → Nat) (W : World) (Os : List Ow) (Ls : List Sv) (vS : Value) : Prop where
 hb : Below w.heap.size w W
 lo : ∀ b, b < w.heap.size → o b = 2
 own : OwnT o 1 w.heap.size 51 7 W vS Ls.length (cellsF Sv.cs Ls)
 fl : ∀ y ∈ Os, OwnT o 0 w.heap.size y.e y.s W y.v y.n y.xs
 st : ∀ (i : Nat) (s : Sv), Ls[i]? = some s → StI o w.heap.size W (i + 3) s
theorem info98 : (Tryz.prog.info? 89).map (fun i => (i.zero, i.size, i.bytes)) = some (some (.agg #[.string ⟨#[]⟩, .bool false, .int .i64 0, .int .i64 0]), 4, 40) := by kernel_rfl
theorem info9q : (Tryz.prog.info? 9).map (fun i => (i.zero, i.size, i.bytes)) = some (some (.string ⟨#[]⟩), 1, 16) := by kernel_rfl
theorem info76 : (Tryz.prog.info? 117).map (fun i => (i.zero, i.size, i.bytes)) = some (some (.agg #[.string ⟨#[]⟩, .int .i32 0]), 2, 24) := by kernel_rfl
theorem info81 : (Tryz.prog.info? 51).map (fun i => (i.zero, i.size, i.bytes)) = some (some (.agg #[.string ⟨#[]⟩, .int .i64 0, .int .u64 0, .slice none 0 0, .slice none 0 0, .slice none 0 0, .slice none 0 0]), 7, 128) := by kernel_rfl
theorem info84 : (Tryz.prog.info? 58).map (fun i => (i.zero, i.size, i.bytes)) = some (some (.agg #[.int .i64 0, .slice none 0 0]), 2, 32) := by kernel_rfl
theorem dtlen (x : Dt) : x.cs.length = 4 := rfl
theorem dtone (x : Dt) : ∀ u ∈ x.cs, u.oneCell' = true := all_one rfl
theorem vrlen (x : Vr) : x.cs.length = 2 := rfl
theorem vrone (x : Vr) : ∀ u ∈ x.cs, u.oneCell' = true := all_one rfl
theorem tmlen (x : ByteArray) : (txC x).length = 1 := rfl
theorem tmone (x : ByteArray) : ∀ u ∈ txC x, u.oneCell' = true := all_one rfl
theorem ctlen (x : ByteArray) : (txC x).length = 1 := rfl
theorem ctone (x : ByteArray) : ∀ u ∈ txC x, u.oneCell' = true := all_one rfl
theorem mv_lt {lo c : Nat} {W W' : World} (h : Below c W W') : Mv (fun b => lo < b ∧ b < c) W (fun b => lo < b ∧ b < c) W' := ⟨h.size, fun k _ hs => ⟨h.block k hs.2, hs⟩⟩
theorem set9 {w : World} {b : Nat} {vs : Array Value} (h : Has w b vs) (hs : vs.size = 9) (x0 x1 x2 x3 x4 x5 x6 x7 x8 : Value) : Has (((((((((w.setCell ⟨b, 0, none⟩ x0).setCell ⟨b, 1, none⟩ x1).setCell ⟨b, 2, none⟩ x2).setCell ⟨b, 3, none⟩ x3).setCell ⟨b, 4, none⟩ x4).setCell ⟨b, 5, none⟩ x5).setCell ⟨b, 6, none⟩ x6).setCell ⟨b, 7, none⟩ x7).setCell ⟨b, 8, none⟩ x8) b #[x0, x1, x2, x3, x4, x5, x6, x7, x8] := by
 match vs, hs with
 | ⟨[y0, y1, y2, y3, y4, y5, y6, y7, y8]⟩, _ => simpa using ((((((((h.set 0 (by simp) x0).set 1 (by simp) x1).set 2 (by simp) x2).set 3 (by simp) x3).set 4 (by simp) x4).set 5 (by simp) x5).set 6 (by simp) x6).set 7 (by simp) x7).set 8 (by simp) x8
theorem only9 (w : World) (b : Nat) (x0 x1 x2 x3 x4 x5 x6 x7 x8 : Value) : Only (fun q => q = b) w (((((((((w.setCell ⟨b, 0, none⟩ x0).setCell ⟨b, 1, none⟩ x1).setCell ⟨b, 2, none⟩ x2).setCell ⟨b, 3, none⟩ x3).setCell ⟨b, 4, none⟩ x4).setCell ⟨b, 5, none⟩ x5).setCell ⟨b, 6, none⟩ x6).setCell ⟨b, 7, none⟩ x7).setCell ⟨b, 8, none⟩ x8) :=
 ((((((((only_of_set w b 0 x0).trans (only_of_set _ b 1 x1)).trans (only_of_set _ b 2 x2)).trans (only_of_set _ b 3 x3)).trans (only_of_set _ b 4 x4)).trans (only_of_set _ b 5 x5)).trans (only_of_set _ b 6 x6)).trans (only_of_set _ b 7 x7)).trans (only_of_set _ b 8 x8)
theorem CtS.fin {w W W' : World} {o : Nat → Nat} {T0 R0 U : Array Value} {Os : List Ow} {Ls : List Sv} {vS : Value} (h : CtS w o W T0 R0 U Os Ls vS) (ho : Only (fun q => q = w.heap.size + 1) W W') : CtE w o W' Os Ls vS :=
 have k : Ky o 2 W W' := ⟨ho.size, fun b hb hn => ho.block b hb (fun e => hn (by rw [e]; exact h.t1))⟩
 ⟨bel_only h.hb ho (Nat.le_refl _) (fun b hb e => by omega), h.lo, h.own.ky k (by decide), fun y hy => (h.fl y hy).ky k (by decide), fun i s hs => (h.st i s hs).ky k (by decide) (by omega)⟩
def Sv.rc (s : Sv) : List Value := [.slice s.na (s.x.nexts.length + 2) s.nc]
theorem cut_at9 {α : Type} {L : List α} {k : Nat} {s : α} (h : L[k]? = some s) : L = L.take k ++ s :: L.drop (k + 1) ∧ (L.take k).length = k := by
 obtain ⟨h1, h2⟩ := List.getElem?_eq_some_iff.1 h
 refine ⟨?_, by simp; omega⟩
 rw [← h2, ← List.drop_eq_getElem_cons h1, List.take_append_drop]
theorem own_cap {w : World} {base e size n g c : Nat} {xs : List Value} (h : w.ownsRow base e size (.slice (some ⟨g, 0, none⟩) n c) n xs) (hn : 0 < n) : n ≤ c := by
 obtain ⟨_, _, hv, hc, _⟩ := own_block h hn
 injection hv with _ _ h3
 omega
def oR (o : Nat → Nat) (B p r : Nat) : Nat → Nat := fun b => if b < B then 2 else if b < p then (if 3 ≤ o b then o b + 1 else o b) else if b = p ∨ b = r then 2 else 0
theorem hideG {P : Prop} (h : P) : Hid P := h
theorem RI.eq {n st : Nat} {N : Nat → List Nat} {S T : List Bool} (h : RI n st N S []) (hl : T.length = n) (hb : sn T st = true) (hle : ∀ C : Nat → Prop, C st → (∀ i, C i → ∀ j ∈ N i, C j) → ∀ i, sn T i = true → C i) (hc : ∀ i, sn T i = true → ∀ j ∈ N i, sn T j = true) : S = T := by
 have hcS : ∀ i, sn S i = true → ∀ j ∈ N i, sn S j = true := fun i hi => by
  rcases h.cl i hi with h1 | h1
  ·simp at h1
  ·exact h1
 have h1 := h.le (fun k => sn T k = true) hb hc
 have h2 := hle (fun k => sn S k = true) h.beg hcS
 apply List.ext_getElem (by rw [h.len, hl])
 intro i hi hi2
 have e1 := sn_get hi
 have e2 := sn_get hi2
 rw [← e1, ← e2]
 cases hs : sn S i with
 | true => exact (h1 i hs).symm
 | false =>
   cases ht : sn T i with
   | false => rfl
   | true => rw [h2 i ht] at hs; cases hs
theorem fl_ofK {α : Type} {sz : Nat} {cs : α → List Value} (hl : ∀ x, (cs x).length = sz) {w : World} {base e : Nat} {v : Value} {L : List α} (h : w.ownsRow base e sz v L.length (cellsF cs L)) : Fl sz cs w v L := by
 rcases h.2 with ⟨h0, h1⟩ | ⟨g, cap, cur, h1, h2, h3, h4⟩
 ·exact .inl ⟨h0, List.length_eq_zero_iff.1 h1⟩
 ·subst h1
  refine .inr ⟨⟨g, 0, none⟩, cap, rfl, h4.1, .inr ⟨rfl, (Array.getElem?_eq_some_iff.1 h3).1, fun i hi j u hu => ?_⟩⟩; show w.cell? ⟨g, 0 + i * sz + j, none⟩ = some u; rw [Nat.zero_add]; refine own_reads h rfl _ u ?_; have hj : j < sz := by have := (List.getElem?_eq_some_iff.1 hu).1; rw [hl] at this; exact this
  rw [cellsF_get hl L i j hi hj]; exact hu
theorem Tss.nx {S : Nat → Prop} {w : World} {v : Value} {SG : List Ts} (hS : Tss S w v SG) : ∀ x ∈ SG, x.nexts.length ≤ 4398046511000 := by
 intro x hx
 obtain ⟨_, _, _, _, kS⟩ := Rows.any hS
 obtain ⟨i, hi, rfl⟩ := List.getElem_of_mem hx
 obtain ⟨_, _, _, _, _, P⟩ := kS.resolve_left (by intro e; rw [e] at hi; simp at hi)
 obtain ⟨_, _, ⟨_, _, _, _, _, _, _, _, q⟩, _⟩ := P i hi
 exact Rows.le q
theorem truths_any (S : List Bool) (v u : Value) (w : World) (h1 : Fl 1 bC w v S) (h2 : Fl 1 bC w u S) (hS : S.length ≤ 4611686018427387904) :
  Calls Tryz.prog 15 #[v, u] w fun e w' => e = .returned (.bool true) ∧ Below w.heap.size w w' := by
 obtain ⟨a1, c1, rfl, k1⟩ := h1.any
 obtain ⟨a3, c3, rfl, k3⟩ := h2.any
 clear h1 h2
 go_enter Tryz.func15, Tryz.ntmps15
 go_wp2_with fail
 go_loopw [5] (fun t wr => ∃ k q : Nat, k ≤ S.length ∧ t = .int .i64 (k : Int) ∧ wr = w.drewN q) (fun t _ => S.length - (intOf t).toNat)
 case atStart => exact ⟨0, 0, by omega, rfl, rfl⟩
 case round =>
  obtain ⟨k, q, hk, rfl, rfl⟩ := hrel
  by_cases hlt : k < S.length
  ·obtain ⟨g1, o1, rfl, hg1, P1⟩ := k1.resolve_left (by intro e; rw [e] at hlt; simp at hlt)
   obtain ⟨g3, o3, rfl, hg3, P3⟩ := k3.resolve_left (by intro e; rw [e] at hlt; simp at hlt); have p0 := (P1 k hlt 0 _ rfl); have r0 := (P3 k hlt 0 _ rfl); simp only [Nat.add_zero, Nat.mul_one] at p0 r0; have t1 : (k : Int) < (S.length : Int) := by omega
   have t0 : (0 : Int) ≤ (k : Int) := by omega
   have t2 : k + 1 ≤ S.length := hlt; generalize S[k] = x0 at *; clear P1 P3 k1 k3; go_wp2
   go_quiet (fail)
   go_wp2; go_roundw
   case rel => exact ⟨k + 1, q + nq, by omega, by go_num, rfl⟩
   case measure => simp [intOf]; omega
  ·have t1 : ¬ (k : Int) < (S.length : Int) := by omega
   clear k1 k3; go_wp2; go_ret; exact ⟨rfl, below_drewN _ _⟩
theorem findings_any (L : List Fd) (v u : Value) (w : World) (h1 : Fl 4 Fd.cs w v L) (h2 : Fl 4 Fd.cs w u L) (hL : L.length ≤ 64) :
  Calls Tryz.prog 10 #[v, u] w fun e w' => e = .returned (.bool true) ∧ Below w.heap.size w w' := by
 obtain ⟨a1, c1, rfl, k1⟩ := h1.any
 obtain ⟨a2, c2, rfl, k2⟩ := h2.any
 clear h1 h2
 go_enter Tryz.func10, Tryz.ntmps10
 go_wp2
 go_loopw [5] (fun t wr => ∃ k q : Nat, k ≤ L.length ∧ t = .int .i64 (k : Int) ∧ wr = w.drewN q) (fun t _ => L.length - (intOf t).toNat)
 case atStart => exact ⟨0, 0, by omega, rfl, rfl⟩
 case round =>
  obtain ⟨k, q, hk, rfl, rfl⟩ := hrel
  by_cases hlt : k < L.length
  ·obtain ⟨g1, o1, rfl, hg1, P1⟩ := k1.resolve_left (by intro e; rw [e] at hlt; simp at hlt)
   obtain ⟨g3, o3, rfl, hg3, P3⟩ := k2.resolve_left (by intro e; rw [e] at hlt; simp at hlt); have p0 := P1 k hlt 0 _ rfl; have p1 := P1 k hlt 1 _ rfl; have p2 := P1 k hlt 2 _ rfl; have p3 := P1 k hlt 3 _ rfl; have r0 := P3 k hlt 0 _ rfl; have r1 := P3 k hlt 1 _ rfl; have r2 := P3 k hlt 2 _ rfl; have r3 := P3 k hlt 3 _ rfl; simp only [Nat.add_zero] at p0 r0; have t1 : (k : Int) < (L.length : Int) := by omega
   have t0 : (0 : Int) ≤ (k : Int) := by omega
   have t2 : k + 1 ≤ L.length := hlt; generalize L[k].c = x0 at *; generalize L[k].s = x1 at *; generalize L[k].a = x2 at *; generalize L[k].b = x3 at *; clear P1 P3 k1 k2; go_wp2
   go_quiet (fail)
   go_wp2; go_roundw
   case rel => exact ⟨k + 1, q + nq, by omega, by go_num, rfl⟩
   case measure => simp [intOf]; omega
  ·have t1 : ¬ (k : Int) < (L.length : Int) := by omega
   clear k1 k2; go_wp2; go_ret; exact ⟨rfl, bel_drewN (Below.refl _ _)⟩
theorem chF_len (G : List Gp) (C : List Cf) (R : List Bool) (SG : List Ts) (st : Int) : (chF G C R SG st).length ≤ 64 := by
 unfold chF
 exact addL_le _ _ (addL_le _ _ (addL_le _ _ (addL_le _ _ (addL_le _ _ (addL_le _ _ (by simp))))))
def Sim (R : List Bool) : Nat → List Ts → List Ts → Prop
 | _, [], [] => True
 | k, s :: L, t :: M => s.green = t.green ∧ (sn R k = true → s = t) ∧ Sim R (k + 1) L M
 | _, _, _ => False
theorem Sim.rfl (R : List Bool) : ∀ (L : List Ts) (k : Nat), Sim R k L L
 | [], _ => trivial
 | _ :: L, k => ⟨Eq.refl _, fun _ => Eq.refl _, Sim.rfl R L (k + 1)⟩
theorem Sim.set {R : List Bool} {t : Ts} : ∀ (L : List Ts) (k p : Nat) (h : p < L.length), t.green = L[p].green → sn R (k + p) = false → Sim R k L (L.set p t)
 | s :: L, k, 0, _, hg, hr => ⟨hg.symm, fun e => (by rw [Nat.add_zero] at hr; rw [hr] at e; cases e), Sim.rfl R L (k + 1)⟩
 | s :: L, k, p + 1, h, hg, hr => ⟨Eq.refl _, fun _ => Eq.refl _, Sim.set L (k + 1) p (by simpa using h) (by simpa using hg) (by rw [show k + 1 + p = k + (p + 1) by omega]; exact hr)⟩
theorem Sim.sc {R : List Bool} (C : List Cf) : ∀ (L M : List Ts) (k : Nat), Sim R k L M → scF C k M = scF C k L
 | [], [], _, _ => Eq.refl _
 | s :: L, t :: M, k, h => by
   obtain ⟨h1, _, h3⟩ := h; show scX k t.green.toNat C ++ _ = scX k s.green.toNat C ++ _; rw [← h1, Sim.sc C L M (k + 1) h3]
 | [], _ :: _, _, h => h.elim
 | _ :: _, [], _, h => h.elim
theorem Sim.tr {R : List Bool} : ∀ (L M : List Ts) (k : Nat), Sim R k L M → trF R k M = trF R k L
 | [], [], _, _ => Eq.refl _
 | s :: L, t :: M, k, h => by
   obtain ⟨h1, h2, h3⟩ := h; unfold trF; rw [Sim.tr L M (k + 1) h3]
   cases hr : sn R k with
   | false => simp
   | true => rw [h2 hr]
 | [], _ :: _, _, h => h.elim
 | _ :: _, [], _, h => h.elim
theorem Sim.us {R : List Bool} : ∀ (L M : List Ts) (k U : Nat), Sim R k L M → usK R k M U = usK R k L U
 | [], [], _, _, _ => Eq.refl _
 | s :: L, t :: M, k, U, h => by
   obtain ⟨h1, _, h3⟩ := h; unfold usK; rw [← h1, Sim.us L M (k + 1) _ h3]
 | [], _ :: _, _, _, h => h.elim
 | _ :: _, [], _, _, h => h.elim
theorem Sim.mv {R : List Bool} : ∀ (L M : List Ts) (k : Nat), Sim R k L M → mvsF R k M = mvsF R k L
 | [], [], _, _ => Eq.refl _
 | s :: L, t :: M, k, h => by
   obtain ⟨h1, h2, h3⟩ := h; unfold mvsF; rw [Sim.mv L M (k + 1) h3]
   cases hr : sn R k with
   | false => simp
   | true => rw [h2 hr]
 | [], _ :: _, _, h => h.elim
 | _ :: _, [], _, h => h.elim
theorem Sim.len {R : List Bool} : ∀ (L M : List Ts) (k : Nat), Sim R k L M → M.length = L.length
 | [], [], _, _ => Eq.refl _
 | s :: L, t :: M, k, h => by simp [Sim.len L M (k + 1) h.2.2]
 | [], _ :: _, _, h => h.elim
 | _ :: _, [], _, h => h.elim
theorem Sim.gr {R : List Bool} : ∀ (L M : List Ts) (k : Nat), Sim R k L M → M.map (·.green) = L.map (·.green)
 | [], [], _, _ => Eq.refl _
 | s :: L, t :: M, k, h => by simp [Sim.gr L M (k + 1) h.2.2, h.1]
 | [], _ :: _, _, h => h.elim
 | _ :: _, [], _, h => h.elim
theorem ckL_map (n : Nat) (C : List Cf) (L : List Ts) : ckL n C L = (L.map (·.green)).map fun g => (clashF n g.toNat C).2.2 := by
 simp [ckL, Function.comp]
theorem gOf_map (L : List Ts) (x : Int) : gOf L x = if x = -1 then 0 else ((((L.map (·.green))[x.toNat]?).map fun g => g.toNat)).getD 0 := by
 unfold gOf
 rw [List.getElem?_map]
 cases L[x.toNat]? <;> rfl
theorem Sim.ck {R : List Bool} {L M : List Ts} {k : Nat} (h : Sim R k L M) (n : Nat) (C : List Cf) : ckL n C M = ckL n C L := by rw [ckL_map, ckL_map, h.gr]
theorem Sim.lp {R : List Bool} {L M : List Ts} {k : Nat} (h : Sim R k L M) (G : List Gp) (C : List Cf) : lpA G C M = lpA G C L := by
 funext x y
 unfold lpA
 rw [gOf_map M, gOf_map M, h.gr, ← gOf_map, ← gOf_map]
theorem Sim.mvs {R : List Bool} {L M : List Ts} (h : Sim R 0 L M) (st : Int) : mvsL R M st = mvsL R L st := by unfold mvsL; rw [h.mv]
theorem Sim.ch {R : List Bool} {L M : List Ts} (h : Sim R 0 L M) (G : List Gp) (C : List Cf) (st : Int) : chF G C R M st = chF G C R L st := by
 unfold chF
 rw [h.sc, h.tr, h.us, h.ck, h.lp, h.mvs]
theorem Sim.bn {R : List Bool} {L M : List Ts} (h : Sim R 0 L M) (G : List Gp) (C : List Cf) (st : Int) : bnF (ckL G.length C M) (lpA G C M) (mvsL R M st) 0 = bnF (ckL G.length C L) (lpA G C L) (mvsL R L st) 0 := by
 rw [h.ck, h.lp, h.mvs]
theorem Sim.at {R : List Bool} : ∀ (L M : List Ts) (k i : Nat), Sim R k L M → sn R (k + i) = true → M[i]? = L[i]?
 | [], [], _, _, _, _ => Eq.refl _
 | s :: L, t :: M, k, 0, h, hr => by rw [Nat.add_zero] at hr; rw [h.2.1 hr]; simp
 | s :: L, t :: M, k, i + 1, h, hr => by simpa using Sim.at L M (k + 1) i h.2.2 (by rw [show k + 1 + i = k + (i + 1) by omega]; exact hr)
 | [], _ :: _, _, _, h, _ => h.elim
 | _ :: _, [], _, _, h, _ => h.elim
theorem Sim.go {R : List Bool} {L M : List Ts} (h : Sim R 0 L M) (i : Nat) (hr : sn R i = true) : goN (waysL M) i = goN (waysL L) i := by
 have := Sim.at L M 0 i h (by rw [Nat.zero_add]; exact hr)
 unfold goN waysL
 rw [List.getD_eq_getElem?_getD, List.getD_eq_getElem?_getD, List.getElem?_map, List.getElem?_map, this]
theorem Sim.ri {R : List Bool} {L M : List Ts} {st : Nat} (h : Sim R 0 L M) (k : RI (waysL L).length st (goN (waysL L)) R []) : RI (waysL M).length st (goN (waysL M)) R [] := by
 have hl : (waysL M).length = (waysL L).length := by simp [waysL, h.len]
 have hc : ∀ i, sn R i = true → ∀ j ∈ goN (waysL L) i, sn R j = true := fun i hi => (k.cl i hi).elim (fun e => by cases e) id
 refine ⟨by rw [hl]; exact k.len, k.beg, fun i hi => (by cases hi), fun i hi => Or.inr ?_, ?_, by rw [hl]; exact k.ms⟩
 ·intro j hj
  rw [h.go i hi] at hj; exact hc i hi j hj
 ·intro D h0 hD i hi
  refine (k.le (fun j => D j ∧ sn R j = true) ⟨h0, k.beg⟩ (fun a ha j hj => ⟨hD a ha.1 j (by rw [h.go a ha.2]; exact hj), hc a ha.2 j hj⟩) i hi).1
end Go.Proofs.YtjfieclmagbfbaaGreatDoor
