import Derived.Test.YtnicolaphmffkaaGreatDoorMaB
import Derived.Test.YtnicolaphmffkaaGreatDoorApA
import Derived.Test.YtnicolaphmffkaaGreatDoorNesC
import Derived.Test.YtnicolaphmffkaaGreatDoorMaC
import Derived.Maps.Own
import Derived.Maps.OwnOps
import Derived.Maps.Views
import Derived.StringKeys
import Derived.Maps.OwnSet
namespace Go.Proofs.YtnicolaphmffkaaGreatDoor
open Go.RowKit
set_option linter.unusedVariables false
set_option linter.unusedSimpArgs false

def vI (st : List Int) : List Value := st.map (Value.int .i64)
theorem vI_get {st : List Int} {j : Nat} (h : j < st.length) : (vI st)[j]? = some (.int .i64 st[j]) := by simp [vI, h]
theorem info3 : (Tryz.prog.info? 3).map (fun i => (i.zero, i.size, i.bytes)) = some (some (.int .i64 0), 1, 8) := by kernel_rfl
theorem Has.set3 {w : World} {b : Nat} {x0 x1 x2 : Value} (h : Has w b #[x0, x1, x2]) (y0 y1 y2 : Value) :
    Has (((w.setCell ⟨b, 0, none⟩ y0).setCell ⟨b, 1, none⟩ y1).setCell ⟨b, 2, none⟩ y2) b #[y0, y1, y2] :=
  ((h.set 0 (by simp) y0).set 1 (by simp) y1).set 2 (by simp) y2
theorem bel3 {B b : Nat} {a w : World} (h : Below B a w) (hb : B ≤ b) (y0 y1 y2 : Value) :
    Below B a (((w.setCell ⟨b, 0, none⟩ y0).setCell ⟨b, 1, none⟩ y1).setCell ⟨b, 2, none⟩ y2) :=
  ((h.setCell hb _).setCell hb _).setCell hb _
theorem set_last {st : List Int} {m : Nat} (h : st.length = m + 1) (t : Int) : st.set m t = st.take m ++ [t] := by
  apply List.ext_getElem
  · simp; omega
  · intro i h1 h2
    by_cases e : i = m
    · subst e
      rw [List.getElem_append_right (by rw [List.length_take]; omega)]
      simp
    · have : i < m := by simp at h1; omega
      rw [List.getElem_set_ne (by omega), List.getElem_append_left (by simp; omega)]; simp
theorem set_two {st : List Int} {m : Nat} (h : st.length = m + 2) (t : Int) : (st.set m t).take (m + 1) = st.take m ++ [t] := by
  apply List.ext_getElem
  · simp; omega
  · intro i h1 h2
    by_cases e : i = m
    · subst e
      rw [List.getElem_append_right (by rw [List.length_take]; omega)]
      simp
    · have : i < m := by simp at h1; omega
      rw [List.getElem_take, List.getElem_set_ne (by omega), List.getElem_append_left (by simp; omega)]; simp
end Go.Proofs.YtnicolaphmffkaaGreatDoor
namespace Go.Proofs.YtnicolaphmffkaaGreatDoor
open Go.RowKit
set_option linter.unusedVariables false
set_option linter.unusedSimpArgs false

/-- May operands of those types stand there? -/
def tkF (T a : Int) (l : List Int) : Bool := l.all fun x => decide ((T = 0 ∨ x = T) ∧ x = a)
theorem tk_end (T a : Int) (l : List Int) (k : Nat) (h : l.length ≤ k) : tkF T a (l.drop k) = true := by
  rw [List.drop_eq_nil_of_le h]; rfl
theorem tk_on (T a : Int) (l : List Int) (k : Nat) (h : k < l.length) : tkF T a (l.drop k) = (decide ((T = 0 ∨ l[k] = T) ∧ l[k] = a) && tkF T a (l.drop (k + 1))) := by
  rw [List.drop_eq_getElem_cons h]; unfold tkF; rw [List.all_cons]
theorem tk_one (op a : Int) (h : opB op) (h2 : op < 30) : resF op a 0 = if tkF (ruT op) a [a] = true then ruI op else 0 := by
  have : op = 20 ∨ op = 21 ∨ op = 22 := by unfold opB at h; omega
  rcases this with rfl | rfl | rfl
  all_goals
    unfold resF tkF ruT ruI
    simp
theorem tk_two (op a b : Int) (h : opB op) (h2 : 30 ≤ op) : resF op a b = if tkF (ruT op) a [a, b] = true then ruI op else 0 := by
  have : (30 ≤ op ∧ op ≤ 36) ∨ (42 ≤ op ∧ op ≤ 45) ∨ op = 40 ∨ op = 41 ∨ op = 50 ∨ op = 51 := by unfold opB at h; omega
  rcases this with ⟨g1, g2⟩ | ⟨g1, g2⟩ | rfl | rfl | rfl | rfl
  · rw [show ruT op = 1 from by unfold ruT; rw [if_neg (by omega), if_neg (by omega), if_neg (by omega)], show ruI op = 1 from by unfold ruI; rw [if_neg (by omega), if_pos (by omega)]]
    unfold resF tkF
    rw [if_neg (by omega), if_neg (by omega), if_pos ⟨g1, g2⟩]
    by_cases c1 : a = 1 <;> by_cases c2 : b = 1 <;> simp_all
  · rw [show ruT op = 1 from by unfold ruT; rw [if_neg (by omega), if_neg (by omega), if_neg (by omega)], show ruI op = 2 from by unfold ruI; rw [if_neg (by omega), if_neg (by omega)]]
    unfold resF tkF
    rw [if_neg (by omega), if_neg (by omega), if_neg (by omega), if_neg (by omega), if_pos ⟨g1, g2⟩]
    by_cases c1 : a = 1 <;> by_cases c2 : b = 1 <;> simp_all
  · unfold resF tkF ruT ruI
    by_cases c1 : a = b
    · subst c1; simp
    · have c2 : ¬ b = a := fun q => c1 q.symm
      simp [c1, c2]
  · unfold resF tkF ruT ruI
    by_cases c1 : a = b
    · subst c1; simp
    · have c2 : ¬ b = a := fun q => c1 q.symm
      simp [c1, c2]
  · unfold resF tkF ruT ruI
    by_cases c1 : a = 2 <;> by_cases c2 : b = 2 <;> simp_all
  · unfold resF tkF ruT ruI
    by_cases c1 : a = 2 <;> by_cases c2 : b = 2 <;> simp_all
set_option maxRecDepth 100000 in
set_option maxHeartbeats 8000000 in
theorem takes_any (O T I : Int) (l : List Int) (g o sc : Nat) (w : World) (h0 : 0 < l.length) (hl : l.length ≤ 256) (hg : g < w.heap.size) (hc : ∀ i (h : i < l.length), w.cell? ⟨g, o + i, none⟩ = some (.int .i64 l[i])) :
    Calls Tryz.prog 105 #[.agg #[.int .i64 O, .int .i64 T, .int .i64 I], .slice (some ⟨g, o, none⟩) l.length sc] w fun e w' => e = .returned (.bool (tkF T l[0] l)) ∧ Below w.heap.size w w' := by
  generalize hA : tkF T l[0] l = A
  have hA0 : tkF T l[0] (l.drop 0) = A := hA
  clear hA
  have hb0 : Below w.heap.size w (w.alloc (.cells #[.int .i64 O, .int .i64 T, .int .i64 I] 206)) := bel1 _
  have K0 : Has (w.alloc (.cells #[.int .i64 O, .int .i64 T, .int .i64 I] 206)) w.heap.size #[.int .i64 O, .int .i64 T, .int .i64 I] := Has.new _ _ _ rfl
  have f0 := hc 0 h0
  simp only [Nat.add_zero] at f0
  generalize l[0] = a at *
  go_enter Tryz.func105, Tryz.ntmps105
  go_wp2_with fail
  generalize w.alloc (.cells #[.int .i64 O, .int .i64 T, .int .i64 I] 206) = W0 at *
  go_loopw [9] (fun i wr => ∃ k : Nat, k ≤ l.length ∧ i = .int .i64 (k : Int) ∧ Hid (tkF T a (l.drop k) = A) ∧ Hid (Below W0.heap.size W0 wr)) (fun i _ => l.length - (intOf i).toNat)
  case atStart => exact ⟨0, by omega, rfl, hA0, Below.refl _ _⟩
  case round =>
    clear hA0
    obtain ⟨k, hkl, rfl, hq', hb'⟩ := hrel
    have hq := hq'.out
    have hb := hb'.out
    clear hq' hb'
    have hbw := bel_after hb0 hb0.size hb
    by_cases hlt : k < l.length
    case neg =>
      have s1 : ¬ (k : Int) < (l.length : Int) := by omega
      rw [tk_end T a l k (by omega)] at hq
      subst hq
      go_wp2_with fail
      go_ret
      exact ⟨rfl, hbw⟩
    case pos =>
      have s1 : (k : Int) < (l.length : Int) := by omega
      have s0 : (0 : Int) ≤ (k : Int) := by omega
      have s2 : (0 : Int) < (l.length : Int) := by omega
      have p0 := (hbw.cell (p := ⟨g, _, none⟩) hg).trans f0
      have p1 := (hbw.cell (p := ⟨g, _, none⟩) hg).trans (hc k hlt)
      have K1 := K0.below hb
      obtain ⟨_, q1, _⟩ := id K1
      rw [tk_on T a l k hlt] at hq
      clear hc f0
      generalize l[k] = x at *
      by_cases c0 : T = 0
      · subst c0
        by_cases c2 : x = a
        · subst c2
          have e1 : decide (((0 : Int) = 0 ∨ x = 0) ∧ x = x) = true := by simp
          rw [e1, Bool.true_and] at hq
          clear e1
          go_wp2_with fail
          go_roundw
          case rel => exact ⟨k + 1, by omega, by go_num, hq, hb⟩
          case measure => simp [intOf]; omega
        · have n2 : (x == a) = false := by simpa using c2
          rw [decide_eq_false (fun q => c2 q.2), Bool.false_and] at hq
          subst hq
          go_wp2_with fail
          go_ret
          exact ⟨rfl, hbw⟩
      · have n0 : (T == 0) = false := by simpa using c0
        by_cases c1 : x = T
        · subst c1
          by_cases c2 : x = a
          · subst c2
            have e1 : decide ((x = 0 ∨ x = x) ∧ x = x) = true := by simp
            rw [e1, Bool.true_and] at hq
            clear e1
            go_wp2_with fail
            go_roundw
            case rel => exact ⟨k + 1, by omega, by go_num, hq, hb⟩
            case measure => simp [intOf]; omega
          · have n2 : (x == a) = false := by simpa using c2
            rw [decide_eq_false (fun q => c2 q.2), Bool.false_and] at hq
            subst hq
            go_wp2_with fail
            go_ret
            exact ⟨rfl, hbw⟩
        · have n1 : (x == T) = false := by simpa using c1
          rw [decide_eq_false (fun q => q.1.elim c0 c1), Bool.false_and] at hq
          subst hq
          go_wp2_with fail
          go_ret
          exact ⟨rfl, hbw⟩
end Go.Proofs.YtnicolaphmffkaaGreatDoor
namespace Go.Proofs.YtnicolaphmffkaaGreatDoor
open Go.RowKit
set_option linter.unusedVariables false
set_option linter.unusedSimpArgs false

end Go.Proofs.YtnicolaphmffkaaGreatDoor
namespace Go.Proofs.YtnicolaphmffkaaGreatDoor
open Go.RowKit
set_option linter.unusedVariables false
set_option linter.unusedSimpArgs false

/-- Symbols as they are read. -/
def Sys (w : World) (v : Value) (S : List Sy) : Prop :=
  ∃ a cap, v = .slice a S.length cap ∧ (S = [] ∨ ∃ g o, a = some ⟨g, o, none⟩ ∧ g < w.heap.size ∧ ∀ (i : Nat) (h : i < S.length),
    w.cell? ⟨g, o + i * 5, none⟩ = some (.string S[i].name) ∧ w.cell? ⟨g, o + i * 5 + 1, none⟩ = some (.int .i64 S[i].kind) ∧ w.cell? ⟨g, o + i * 5 + 2, none⟩ = some (.int .i64 S[i].ix) ∧ w.cell? ⟨g, o + i * 5 + 3, none⟩ = some (.int .i64 S[i].line) ∧ w.cell? ⟨g, o + i * 5 + 4, none⟩ = some (.int .i64 S[i].col))
theorem Sys.below {w w' : World} {v : Value} {S : List Sy} (h : Sys w v S) (hb : Below w.heap.size w w') : Sys w' v S := by
  obtain ⟨a, cap, rfl, h | ⟨g, o, rfl, hg, hc⟩⟩ := h
  · exact ⟨a, cap, rfl, .inl h⟩
  · refine ⟨_, cap, rfl, .inr ⟨g, o, rfl, Nat.lt_of_lt_of_le hg hb.size, fun i hi => ?_⟩⟩
    obtain ⟨h0, h1, h2, h3, h4⟩ := hc i hi
    exact ⟨(hb.cell (p := ⟨g, _, none⟩) hg).trans h0, (hb.cell (p := ⟨g, _, none⟩) hg).trans h1, (hb.cell (p := ⟨g, _, none⟩) hg).trans h2, (hb.cell (p := ⟨g, _, none⟩) hg).trans h3, (hb.cell (p := ⟨g, _, none⟩) hg).trans h4⟩
/-- An entry's cells. -/
def Sy.es (s : Sy) : List Value := [.string s.name, .int .i64 s.kind, .int .i64 s.ix, .int .i64 s.line, .int .i64 s.col, .int .i64 (-1), .int .i32 0, .slice none 0 0]
end Go.Proofs.YtnicolaphmffkaaGreatDoor
namespace Go.Proofs.YtnicolaphmffkaaGreatDoor
open Go.RowKit
open Go.Maps (Keyed)
set_option linter.unusedVariables false
set_option linter.unusedSimpArgs false

/-- A symbol as one value. -/
def Sy.ag (s : Sy) : Value := .agg #[.string s.name, .int .i64 s.kind, .int .i64 s.ix, .int .i64 s.line, .int .i64 s.col]
def zSy : Value := .agg #[.string ⟨#[]⟩, .int .i64 0, .int .i64 0, .int .i64 0, .int .i64 0]
/-- The first symbol of a name. -/
def fsS : List Sy → ByteArray → Option Sy
  | [], _ => none
  | s :: S, nm => if s.name = nm then some s else fsS S nm
theorem fs_app (S : List Sy) (s : Sy) (nm : ByteArray) : fsS (S ++ [s]) nm = match fsS S nm with | some x => some x | none => if s.name = nm then some s else none := by
  induction S with
  | nil => simp only [List.nil_append]; unfold fsS; rfl
  | cons a S ih =>
    rw [List.cons_append]
    conv => lhs; unfold fsS
    conv => rhs; unfold fsS
    by_cases h : a.name = nm
    · rw [if_pos h, if_pos h]
    · rw [if_neg h, if_neg h]; exact ih
/-- Every value reads as itself. -/
def rH (v : Value) : Option (DataW Value × List MemPlace) := some (.held v, [])
/-- A map of the symbols so far, the first ones of their names. -/
def MpS (w : World) (b n : Nat) (S : List Sy) : Prop := ∃ D, w.ownsMap (H := Value) Tryz.prog 9 rH b n D ∧ Maps.IsMap D ∧ ∀ nm : ByteArray, nm.size ≤ maxLen → ∀ z, D.atKey (.string nm.data.toList) z = (match fsS S nm with | some s => .held s.ag | none => z)
theorem MpS.lt {w : World} {b n : Nat} {S : List Sy} (h : MpS w b n S) : b < w.heap.size := by
  obtain ⟨D, h1, _⟩ := h
  exact h1.lt
theorem MpS.below {w w' : World} {B b n : Nat} {S : List Sy} (h : MpS w b n S) (hb : Below B w w') (hl : b < B) : MpS w' b n S := by
  obtain ⟨D, ⟨es, cl, h1, h2⟩, h3⟩ := h
  exact ⟨D, ⟨es, cl, (hb.block b hl).trans h1, h2⟩, h3⟩
theorem MpS.made (w : World) : MpS (w.alloc (.map #[] 0)) w.heap.size 0 [] :=
  ⟨.map [], World.ownsMap_made w _ _ _, ⟨[], rfl⟩, fun nm _ z => rfl⟩
theorem keyS : Keyed Tryz.prog 9 := Maps.string_keyed Tryz.underlying9
theorem zero58 (w : World) : (zeroValue 145).run Tryz.prog w = .ok zSy w := by
  simp [zeroValue, zSy]; rfl
theorem MpS.look {w : World} {b n : Nat} {S : List Sy} (h : MpS w b n S) (nm : ByteArray) (hs : nm.size ≤ maxLen) :
    (Instr.lookup 138 (.map (some b)) (.string nm) true).run Tryz.prog w = .ok (match fsS S nm with | some s => .tuple #[s.ag, .bool true] | none => .tuple #[zSy, .bool false]) w := by
  obtain ⟨D, ⟨es, cl, h1, hF, h2, rfl⟩, -, h3⟩ := h
  have hk := Go.WideMaps.keyOf_string_mk (P := Tryz.prog) (k := 9) Tryz.underlying9 hs
  have h4 := h3 nm hs
  rcases Maps.fit_look true keyS Tryz.underlying138 (zero58 w) h1 hF hk with ⟨hrun, _, hat⟩ | ⟨e0, y, _, _, hrun, hRv, hat, _⟩
  · rw [hrun]
    cases hf : fsS S nm with
    | none => rfl
    | some s =>
      rw [hf] at h4
      have e1 := (hat (.lit (.bool true))).symm.trans (h4 (.lit (.bool true)))
      cases e1
  · rw [hrun]
    have e2 : y = (.held e0.val, []) := (Option.some.inj hRv).symm
    subst e2
    cases hf : fsS S nm with
    | none =>
      rw [hf] at h4
      have e1 := (hat (.lit (.bool true))).symm.trans (h4 (.lit (.bool true)))
      cases e1
    | some s =>
      rw [hf] at h4
      have e1 := (hat (.lit (.bool true))).symm.trans (h4 (.lit (.bool true)))
      rw [show e0.val = s.ag from DataW.held.inj e1]
      simp only [if_true]
theorem put_new {D : DataW Value} {S : List Sy} (hM : Maps.IsMap D) (h3 : ∀ nm : ByteArray, nm.size ≤ maxLen → ∀ z, D.atKey (.string nm.data.toList) z = (match fsS S nm with | some s => .held s.ag | none => z)) (s : Sy) (hs : s.name.size ≤ maxLen) (hf : fsS S s.name = none) :
    ∀ nm : ByteArray, nm.size ≤ maxLen → ∀ z, (D.put (.string s.name.data.toList) (.held s.ag)).atKey (.string nm.data.toList) z = (match fsS (S ++ [s]) nm with | some s => .held s.ag | none => z) := by
  intro nm hn z
  rw [fs_app]
  by_cases e : s.name = nm
  · subst e
    rw [hf, Maps.atKey_put_same hM (by trivial)]
    simp
  · rw [Maps.atKey_put_other (by intro q; injection q with q; exact e (by cases hx : s.name; cases hy : nm; rw [hx, hy] at q; simp only [ByteArray.mk.injEq]; exact (Array.toList_inj.1 q).symm)), h3 nm hn z]
    cases hg : fsS S nm with
    | none => simp [e]
    | some x => rfl
end Go.Proofs.YtnicolaphmffkaaGreatDoor
namespace Go.Proofs.YtnicolaphmffkaaGreatDoor
open Go.RowKit
set_option linter.unusedVariables false
set_option linter.unusedSimpArgs false

theorem fs_twice (S : List Sy) (s x : Sy) (h : fsS S s.name = some x) (nm : ByteArray) : fsS (S ++ [s]) nm = fsS S nm := by
  rw [fs_app]
  cases hg : fsS S nm with
  | some y => rfl
  | none =>
    simp only
    by_cases e : s.name = nm
    · subst e; rw [h] at hg; cases hg
    · rw [if_neg e]
theorem MpS.twice {w : World} {b n : Nat} {S : List Sy} (h : MpS w b n S) (s x : Sy) (hx : fsS S s.name = some x) : MpS w b (n + 1) (S ++ [s]) := by
  obtain ⟨D, h1, h2, h3⟩ := h
  exact ⟨D, h1.mono (Nat.le_succ _), h2, fun nm hn z => by rw [fs_twice S s x hx nm]; exact h3 nm hn z⟩
theorem MpS.only {P : Nat → Prop} {w w' : World} {b n : Nat} {S : List Sy} (h : MpS w b n S) (ho : Only P w w') (hb : ¬ P b) : MpS w' b n S := by
  have hl := h.lt
  obtain ⟨D, ⟨es, cl, h1, h2⟩, h3⟩ := h
  exact ⟨D, ⟨es, cl, (ho.block b hl hb).trans h1, h2⟩, h3⟩
theorem only_map {A w' : World} {b : Nat} (hg : A.grownBy w' (some b)) : Only (fun q => q = b) A w' :=
  ⟨hg.os, hg.tape, hg.output, hg.size, fun k hk hn => hg.block k hk (by intro e; injection e with e; exact hn e)⟩
set_option maxRecDepth 100000 in
set_option maxHeartbeats 8000000 in
theorem add_any (S : List Sy) (s : Sy) (b n : Nat) (w : World) (hM : MpS w b n S) (hs : s.name.size ≤ maxLen) (hn : n < maxLen) :
    Calls Tryz.prog 67 #[.agg #[.map (some b)], s.ag] w fun e w' => (∃ r, e = .returned (.bool r)) ∧ MpS w' b (n + 1) (S ++ [s]) ∧ Only (fun q => q = b) w w' := by
  have hTw := fun (X : World) (hX : MpS X b n S) (x : Sy) (hx : fsS S s.name = some x) => hX.twice s x hx
  have hPn := fun (D : DataW Value) (h1 : Maps.IsMap D) (h3 : ∀ nm : ByteArray, nm.size ≤ maxLen → ∀ z, D.atKey (.string nm.data.toList) z = (match fsS S nm with | some s => .held s.ag | none => z)) (hf : fsS S s.name = none) => put_new h1 h3 s hs hf
  generalize hSS : S ++ [s] = SS at *
  clear hSS
  obtain ⟨sn, sk, si, sl, sq⟩ := s
  simp only [Sy.ag] at *
  have hb2 : Below w.heap.size w ((w.alloc (.cells #[.map (some b)] 140)).alloc (.cells #[.string sn, .int .i64 sk, .int .i64 si, .int .i64 sl, .int .i64 sq] 145)) := ((Below.refl _ _).alloc (Nat.le_refl _) _).alloc (by simp) _
  have hM2 := hM.below hb2 hM.lt
  have hL := hM2.look sn hs
  have hk := Go.WideMaps.keyOf_string_mk (P := Tryz.prog) (k := 9) Tryz.underlying9 hs
  cases hf : fsS S sn with
  | some x =>
    have hM3 := hTw _ (hM2.below (bel1 (.cells #[.string x.name, .int .i64 x.kind, .int .i64 x.ix, .int .i64 x.line, .int .i64 x.col] 145)) hM2.lt) x hf
    have hb3 := hb2.alloc hb2.size (.cells #[.string x.name, .int .i64 x.kind, .int .i64 x.ix, .int .i64 x.line, .int .i64 x.col] 145)
    rw [hf] at hL
    simp only [Sy.ag] at *
    clear hTw hPn hM hM2 hf
    go_enter Tryz.func67, Tryz.ntmps67
    go_wp2_with fail
    go_ret
    exact ⟨⟨_, rfl⟩, hM3, Only.of_below hb3⟩
  | none =>
    rw [hf] at hL
    obtain ⟨D, hD1, hD2, hD3⟩ := hM2
    have hQ := hPn D hD2 hD3 hf
    have hD4 := hD1.alloc (.cells #[.string ⟨#[]⟩, .int .i64 0, .int .i64 0, .int .i64 0, .int .i64 0] 145)
    have hb3 := hb2.alloc hb2.size (.cells #[.string ⟨#[]⟩, .int .i64 0, .int .i64 0, .int .i64 0, .int .i64 0] 145)
    simp only [zSy, Sy.ag] at *
    clear hTw hPn hM hf hD3 hD1
    go_enter Tryz.func67, Tryz.ntmps67
    go_wp2_with (at_mapUpdate; refine wpList_mapUpdate_own _ rfl _ _ _ 138 rfl 9 145 keyS Tryz.underlying138 rH b n D rfl hD4 hn _ _ (.string sn.data.toList) rfl rfl hk (.held (.agg #[.string sn, .int .i64 sk, .int .i64 si, .int .i64 sl, .int .i64 sq])) [] rfl ?_; intro w2 hm2 hg2)
    go_ret
    exact ⟨⟨_, rfl⟩, ⟨_, hm2, hm2.isMap, hQ⟩, (Only.of_below hb3).trans (only_map hg2)⟩
set_option maxRecDepth 100000 in
set_option maxHeartbeats 8000000 in
theorem scope_any (S : List Sy) (vs : Value) (w : World) (hS : Sys w vs S) (hl : S.length ≤ 1048576) (hs : ∀ (i : Nat) (h : i < S.length), S[i].name.size ≤ maxLen) :
    Calls Tryz.prog 64 #[vs] w fun e w' => (∃ b, e = .returned (.agg #[.map (some b)]) ∧ MpS w' b S.length S ∧ w.heap.size ≤ b) ∧ Below w.heap.size w w' := by
  have kA := fun (k : Nat) (hk : k < S.length) (X : World) (hX : MpS X (w.heap.size + 1) k (S.take k)) => add_any (S.take k) S[k] (w.heap.size + 1) k X hX (hs k hk) (by unfold maxLen; omega)
  obtain ⟨a, cap, rfl, hc⟩ := hS
  have hM0 : MpS (((w.alloc (.cells #[.map none] 140)).alloc (.map #[] 0)).alloc (.cells #[.map (some (w.heap.size + 1))] 140)) (w.heap.size + 1) 0 [] := by have := (MpS.made (w.alloc (.cells #[.map none] 140))).below (bel1 (.cells #[.map (some (w.heap.size + 1))] 140)) (by simp); rw [show (w.alloc (.cells #[.map none] 140)).heap.size = w.heap.size + 1 by simp] at this; exact this
  have K0 : Has (((w.alloc (.cells #[.map none] 140)).alloc (.map #[] 0)).alloc (.cells #[.map (some (w.heap.size + 1))] 140)) w.heap.size #[.map none] := ((Has.new _ _ _ rfl).alloc _).alloc _
  have K1 : Has (((w.alloc (.cells #[.map none] 140)).alloc (.map #[] 0)).alloc (.cells #[.map (some (w.heap.size + 1))] 140)) (w.heap.size + 2) #[.map (some (w.heap.size + 1))] := Has.new _ _ _ (by simp)
  have hb0 : Below w.heap.size w (((w.alloc (.cells #[.map none] 140)).alloc (.map #[] 0)).alloc (.cells #[.map (some (w.heap.size + 1))] 140)) := (((Below.refl _ _).alloc (Nat.le_refl _) _).alloc (by simp) _).alloc (by simp; omega) _
  have hmm : ∀ (W : World), (Instr.makeMap 138 none).run Tryz.prog W = .ok (.map (some W.heap.size)) (W.alloc (.map #[] 0)) := fun W => by simp [Instr.makeMap]
  go_enter Tryz.func64, Tryz.ntmps64
  go_wp2_with fail
  generalize (((w.alloc (.cells #[.map none] 140)).alloc (.map #[] 0)).alloc (.cells #[.map (some (w.heap.size + 1))] 140)) = W0 at *
  go_loopw [10] (fun i wr => ∃ k : Nat, k ≤ S.length ∧ i = .int .i64 (k : Int) ∧ Hid (MpS wr (w.heap.size + 1) k (S.take k)) ∧ Hid (Has wr w.heap.size #[.map none]) ∧ Hid (Has wr (w.heap.size + 2) #[.map (some (w.heap.size + 1))]) ∧ Hid (Below w.heap.size w wr)) (fun i _ => S.length - (intOf i).toNat)
  case atStart => exact ⟨0, by omega, rfl, hM0, K0, K1, hb0⟩
  case round =>
    clear hM0 K0 K1 hb0
    obtain ⟨k, hkl, rfl, hM', K0', K1', hb'⟩ := hrel
    have hM := hM'.out
    have K0 := K0'.out
    have K1 := K1'.out
    have hb := hb'.out
    clear hM' K0' K1' hb'
    by_cases hlt : k < S.length
    case neg =>
      have s1 : ¬ (k : Int) < (S.length : Int) := by omega
      obtain rfl : k = S.length := by omega
      rw [List.take_length] at hM
      obtain ⟨_, q1, q2⟩ := id K1
      obtain ⟨_, r1, r2⟩ := id K0
      clear kA hc
      go_wp2_with fail
      obtain ⟨y0, Y1, y2⟩ := K0.set 0 (by simp) (.map (some (w.heap.size + 1)))
      have hO : Only (fun q => q = w.heap.size) wr (wr.setCell ⟨w.heap.size, 0, none⟩ (.map (some (w.heap.size + 1)))) := (Only.refl (fun q => q = w.heap.size) wr).set (b := w.heap.size) rfl _
      exact bodyPost_ret (v := .agg #[.map (some (w.heap.size + 1))]) (by simp [results, Tryz.results64, go_sem, Y1]) rfl ⟨⟨_, rfl, hM.only hO (by omega), by omega⟩, hb.setCell (p := ⟨w.heap.size, 0, none⟩) (Nat.le_refl _) _⟩
    case pos =>
      obtain ⟨g, o, rfl, hg, hx⟩ := hc.resolve_left (by intro e; rw [e] at hlt; simp at hlt)
      obtain ⟨h0, h1, h2, h3, h4⟩ := hx k hlt
      have p0 := (hb.cell (p := ⟨g, _, none⟩) hg).trans h0
      have p1 := (hb.cell (p := ⟨g, _, none⟩) hg).trans h1
      have p2 := (hb.cell (p := ⟨g, _, none⟩) hg).trans h2
      have p3 := (hb.cell (p := ⟨g, _, none⟩) hg).trans h3
      have p4 := (hb.cell (p := ⟨g, _, none⟩) hg).trans h4
      have s1 : (k : Int) < (S.length : Int) := by omega
      have s0 : (0 : Int) ≤ (k : Int) := by omega
      have hnx : S.take (k + 1) = S.take k ++ [S[k]] := List.take_succ_eq_append_getElem hlt
      have cA := kA k hlt
      clear hx hc kA h0 h1 h2 h3 h4
      rw [← hnx] at cA
      clear hnx
      generalize S[k] = s at *
      obtain ⟨sn, sk, si, sl, sq⟩ := s
      simp only [Sy.ag] at *
      have cB := cA _ (hM.below (bel1 (.cells #[.string sn, .int .i64 sk, .int .i64 si, .int .i64 sl, .int .i64 sq] 145)) hM.lt)
      have K0' := K0.alloc (.cells #[.string sn, .int .i64 sk, .int .i64 si, .int .i64 sl, .int .i64 sq] 145)
      have K1' := K1.alloc (.cells #[.string sn, .int .i64 sk, .int .i64 si, .int .i64 sl, .int .i64 sq] 145)
      have hb1 := hb.alloc hb.size (.cells #[.string sn, .int .i64 sk, .int .i64 si, .int .i64 sl, .int .i64 sq] 145)
      obtain ⟨_, q1, q2⟩ := id K1
      clear cA
      go_wp2_with (go_at_call 67; (with_reducible refine Calls.mono cB ?_); rintro e w2 ⟨⟨r, rfl⟩, m2, o2⟩)
      have L0 := K0'.only o2 (by omega)
      have L1 := K1'.only o2 (by omega)
      have hb2 : Below w.heap.size w w2 := ⟨o2.os.trans hb1.os, o2.tape.trans hb1.tape, o2.output.trans hb1.output, Nat.le_trans hb1.size o2.size, fun q hq => (o2.block q (Nat.lt_of_lt_of_le hq hb1.size) (by omega)).trans (hb1.block q hq)⟩
      go_roundw
      case rel => exact ⟨k + 1, by omega, by go_num, m2, L0, L1, hb2⟩
      case measure => simp [intOf]; omega
end Go.Proofs.YtnicolaphmffkaaGreatDoor
