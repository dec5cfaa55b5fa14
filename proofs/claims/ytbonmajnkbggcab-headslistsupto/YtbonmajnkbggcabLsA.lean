import Derived.Test.YtbonmajnkbggcabRmA
import Derived.Deep.AppendLies
import Derived.ArgAppend
import Derived.Laws.OwnMore
namespace Go.Proofs.Ytbonmajnkbggcab
open Go.RowKit
set_option linter.unusedVariables false


theorem only_tr {S T : Nat → Prop} {a b c : World} (h1 : Only S a b) (h2 : Only T b c) (hT : ∀ q, q < a.heap.size → T q → S q) : Only S a c :=
  ⟨h2.os.trans h1.os, h2.tape.trans h1.tape, h2.output.trans h1.output, Nat.le_trans h1.size h2.size, fun k hk hn => (h2.block k (Nat.lt_of_lt_of_le hk h1.size) (fun t => hn (hT k hk t))).trans (h1.block k hk hn)⟩
/-- An append to a list of the call's own; what the list held ahead of it still reads as it did. -/
theorem step_keeps {P : Program} (w : World) {ops : Array Oper} {o : Oper} {a : Act} {K : Act → World → Prop} {Q : Exit → Act → World → Prop} {E : Prop} (hgd : o.guard = none) (s x : Operand) (t : TypeId)
    (ho : o.op = .call { callee := .builtin .append, args := #[s, x], argTypes := #[t, t] })
    (base e : TypeId) (i : TypeInfo) (z : Value) (size bytes : Nat) (ht : P.underlying t = some (.slice e)) (hi : P.info? e = some i) (hz : i.zero = some z)
    (hsize : i.size = size) (hby : i.bytes = bytes) (hzs : z.cells.size = size) (hsz : 0 < size) (v : Value) (n : Nat) (xs : List Value) (hs : a.eval s = v) (hown : w.ownsRow base e size v n xs)
    (ad : Addr) (m c : Nat) (news : List Value) (hx : a.eval x = .slice (some ad) m c) (hl : news.length = m * size)
    (hnews : ∀ j u, news[j]? = some u → w.cell? (ad.add j) = some u) (h1 : ∀ u ∈ news, u.oneCell' = true) (hm : 0 < m) (h63 : n + m ≤ maxLen) (hbytes : (n + m) * bytes ≤ 140737488355328) (hbase : base ≤ w.heap.size)
    (h : ∀ g cap w', w'.ownsRow base e size (.slice (some ⟨g, 0, none⟩) (n + m) cap) (n + m) (xs ++ news) → w.grownBy w' v.ownBlock → (v.ownBlock = some g ∨ w.heap.size ≤ g) → (∀ q, v.ownBlock = some q → ∀ j u, xs[j]? = some u → w'.cell? ⟨q, j, none⟩ = some u) → K (a.put o.dst (.slice (some ⟨g, 0, none⟩) (n + m) cap)) w') :
    if Region.wanted o (yielded ops a.tmps) = true then Oper.wp P o a w K Q else E := by
  have hw : Region.wanted o (yielded ops a.tmps) = true := by simp [Region.wanted, hgd]
  rw [if_pos hw]
  have run : ∃ g cap w', (Builtin.append_ #[t, t] o.type #[v, .slice (some ad) m c]).run P w = .ok (.slice (some ⟨g, 0, none⟩) (n + m) cap) w' ∧ w'.ownsRow base e size (.slice (some ⟨g, 0, none⟩) (n + m) cap) (n + m) (xs ++ news) ∧ w.grownBy w' v.ownBlock ∧ (v.ownBlock = some g ∨ w.heap.size ≤ g) ∧ (∀ q, v.ownBlock = some q → ∀ j u, xs[j]? = some u → w'.cell? ⟨q, j, none⟩ = some u) := by
    rcases id hown.2 with ⟨rfl, h0⟩ | ⟨g, cap, cur, rfl, hbg, hcur, hnc, hrest⟩
    · obtain ⟨g, cap, w', hr, r2, r3, r4, r5⟩ := run_append_lies (P := P) w t o.type base e i z size bytes ht hi hz hsize hby hzs hsz _ n xs hown ad m c news hl hnews h1 hm h63 hbytes hbase _ rfl
      exact ⟨g, cap, w', hr, r2, r3, r4.imp id (fun h => Nat.le_of_eq h.symm), fun q hq => by cases hq⟩
    · by_cases hr : n + m ≤ cap
      · obtain ⟨w', hrun, r2, r3⟩ := run_append_fits (P := P) w base t o.type e i size ht hi hsize g n cap xs hown ad m c news hl hnews h1 hr
        refine ⟨g, cap, w', hrun, r2, r3, .inl rfl, ?_⟩
        intro q hq j u hu
        have eq : g = q := by injection hq
        subst eq
        refine own_reads r2 rfl j u ?_
        rw [List.getElem?_append_left (List.getElem?_eq_some_iff.1 hu).1]; exact hu
      · obtain ⟨v', w', hrun, r2, r3⟩ := run_append_arg_grows (P := P) w t o.type e i z size bytes ht hi hz hsize hby hzs hsz ⟨g, 0, none⟩ n cap xs hown.1 (fun j u hu => by rw [Go.WideShapes.add_plain, Nat.zero_add]; exact own_reads hown rfl j u hu) ad m c news hl hnews (by omega) h63 hbytes
        obtain ⟨g', cap', rfl, hcap, hg', _⟩ := own_block r2 (by omega)
        refine ⟨g', cap', w', hrun, own_base r2 hbase, ⟨r3.os, r3.tape, r3.output, r3.size, fun k hk _ => r3.block k hk (by simp)⟩, .inr hg', ?_⟩
        intro q hq j u hu
        have hlt := (own_lt hown q hq).2
        rw [← own_reads hown hq j u hu]
        exact World.cell?_of_block (r3.block q hlt (by simp))
  obtain ⟨g, cap, w', hr, r2, r3, r4, r5⟩ := run
  unfold Oper.wp execOp
  simp only [ho, resolve, invoke, builtin, Sem.run_bind, Sem.run_pure, Result.andThen_ok, List.map_toArray, List.map_cons, List.map_nil, hs, hx, hr]
  exact h g cap w' r2 r3 r4 r5
/-- What a list held reads as it did. -/
def Kpt (own : Nat → Nat) (w : World) (v : Value) (xs : List Value) (k : Nat) : Prop := ∀ q, v.ownBlock = some q → q < w.heap.size ∧ own q = k ∧ ∀ j u, xs[j]? = some u → w.cell? ⟨q, j, none⟩ = some u
theorem Kpt.move {own own' : Nat → Nat} {w w' : World} {v : Value} {xs : List Value} {k : Nat} {S : Nat → Prop} (h : Kpt own w v xs k) (O : Only S w w') (hS : ∀ q, own q = k → ¬ S q) (ho : ∀ q, q < w.heap.size → own' q = own q) : Kpt own' w' v xs k := fun q hq => by
  obtain ⟨a, b, c⟩ := h q hq
  exact ⟨Nat.lt_of_lt_of_le a O.size, (ho q a).trans b, fun j u hu => (World.cell?_of_block (O.block q a (hS q b))).trans (c j u hu)⟩
theorem Ch.appK {own : Nat → Nat} {w : World} {B k e sz n : Nat} {xs ms : List Value} {v xb xa : Value} (h : Ch own w B k e sz n xs ms v xb xa true true false) (hB : B ≤ w.heap.size) (hl : ms.length = sz) (h1c : ∀ u ∈ ms, u.oneCell' = true)
    {ops : Array Oper} {o : Oper} {a : Act} {K : Act → World → Prop} {Q' : Exit → Act → World → Prop} {E : Prop} (hgd : o.guard = none) (s x : Operand) (t : TypeId) (ho : o.op = .call { callee := .builtin .append, args := #[s, x], argTypes := #[t, t] }) (i : TypeInfo) (z : Value) (bytes : Nat) (ht : Try.prog.underlying t = some (.slice e)) (hi : Try.prog.info? e = some i) (hz : i.zero = some z) (hs : i.size = sz) (hbt : i.bytes = bytes) (hz1 : z.cells.size = sz) (hsz : 0 < sz)
    (es : a.eval s = v) (ex : a.eval x = xb) (hmax : n + 1 ≤ maxLen) (hbytes : (n + 1) * bytes ≤ 140737488355328)
    (hK : ∀ g d w', Ch (updO own w.heap.size k) w' B k e sz n xs ms v xb (.slice (some ⟨g, 0, none⟩) (n + 1) d) true true true → Kpt (updO own w.heap.size k) w' v xs k → Only (fun q => own q = k) w w' → K (a.put o.dst (.slice (some ⟨g, 0, none⟩) (n + 1) d)) w') :
    if Region.wanted o (yielded ops a.tmps) = true then Oper.wp Try.prog o a w K Q' else E := by
  obtain ⟨p, q⟩ := h.pre rfl rfl
  obtain ⟨g, rfl, hM, hk, hBg⟩ := h.bs rfl rfl
  refine step_keeps w hgd s x t ho B e i z sz bytes ht hi hz hs hbt hz1 hsz v n xs es p ⟨g, 0, none⟩ 1 1 ms ex (by rw [hl]; simp) (newsOf hM) h1c (by decide) hmax hbytes hB ?_
  intro g1 d1 Y nG hg hat hkp
  have O : Only (fun q => own q = k) w Y := only_grown (Only.refl _ _) hg (fun b hb => .inl (q b hb))
  refine hK g1 d1 Y ⟨fun _ h => (by cases h), fun _ h => (by cases h), fun _ => ⟨g1, d1, rfl, nG, ?_⟩⟩ (fun r hr => ⟨Nat.lt_of_lt_of_le (own_lt p r hr).2 O.size, (updO_old (own_lt p r hr).2).trans (q r hr), hkp r hr⟩) O
  rcases hat with h | h
  · rw [updO_old (own_lt p g1 h).2]; exact q g1 h
  · exact updO_new (by omega)
theorem Ch.allocX {own : Nat → Nat} {w : World} {B k j e sz n : Nat} {xs ms : List Value} {v xb xa : Value} {bv bb ba : Bool} (h : Ch own w B k e sz n xs ms v xb xa bv bb ba) (o : Obj) : Ch (updO own w.heap.size j) (w.alloc o) B k e sz n xs ms v xb xa bv bb ba :=
  h.move (S := fun _ => False) ((Only.refl _ _).alloc o) (fun _ _ h => h) (fun q hq => updO_old hq)
theorem Kpt.allocX {own : Nat → Nat} {w : World} {k j : Nat} {xs : List Value} {v : Value} (h : Kpt own w v xs k) (o : Obj) : Kpt (updO own w.heap.size j) (w.alloc o) v xs k :=
  h.move (S := fun _ => False) ((Only.refl _ _).alloc o) (fun _ _ h => h) (fun q hq => updO_old hq)
theorem Kpt.other {own : Nat → Nat} {w w' : World} {k j : Nat} {xs : List Value} {v : Value} (h : Kpt own w v xs k) (O : Only (fun q => own q = j) w w') (hj : k ≠ j) : Kpt (updO own w.heap.size j) w' v xs k :=
  h.move O (fun q hq hs => hj (hq.symm.trans hs)) (fun q hq => updO_old hq)
theorem info3l : (Try.prog.info? 3).map (fun i => (i.zero, i.size, i.bytes)) = some (some (.int .i64 0), 1, 8) := by kernel_rfl
theorem info21l : (Try.prog.info? 21).map (fun i => (i.zero, i.size, i.bytes)) = some (some (.int .i32 0), 1, 4) := by kernel_rfl
end Go.Proofs.Ytbonmajnkbggcab
