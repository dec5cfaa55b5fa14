import Derived.Test.YtfmdlcfkfglnhaaDoorTyD
import Derived.Test.YtfmdlcfkfglnhaaDoorFmC
namespace Go.Proofs.YtfmdlcfkfglnhaaDoor
open Go.RowKit
set_option linter.unusedVariables false

/-- Symbols as they are read. -/
def Sys (w : World) (v : Value) (S : List Sy) : Prop :=
  ∃ a cap, v = .slice a S.length cap ∧ (S = [] ∨ ∃ g o, a = some ⟨g, o, none⟩ ∧ g < w.heap.size ∧ ∀ (i : Nat) (h : i < S.length),
    w.cell? ⟨g, o + i * 5, none⟩ = some (.string S[i].name) ∧ w.cell? ⟨g, o + i * 5 + 1, none⟩ = some (.int .i64 S[i].kind) ∧ w.cell? ⟨g, o + i * 5 + 2, none⟩ = some (.int .i64 S[i].ix) ∧ w.cell? ⟨g, o + i * 5 + 3, none⟩ = some (.int .i64 S[i].line) ∧ w.cell? ⟨g, o + i * 5 + 4, none⟩ = some (.int .i64 S[i].col))
theorem Sys.below {w w' : World} {v : Value} {S : List Sy} (h : Sys w v S) (hb : Below w.heap.size w w') : Sys w' v S := by
  obtain ⟨a, cap, rfl, h | ⟨g, o, rfl, hg, hc⟩⟩ := h
  · exact ⟨a, cap, rfl, .inl h⟩
  · refine ⟨_, cap, rfl, .inr ⟨g, o, rfl, Nat.lt_of_lt_of_le hg hb.size, fun i hi => ?_⟩⟩
    obtain ⟨h0, h1, h2, h3, h4⟩ := hc i hi
    exact ⟨(hb.cell (p := ⟨g, _, none⟩) hg).trans h0, (hb.cell (p := ⟨g, _, none⟩) hg).trans h1, (hb.cell (p := ⟨g, _, none⟩) hg).trans h2, (hb.cell (p := ⟨g, _, none⟩) hg).trans h3, (hb.cell (p := ⟨g, _, none⟩) hg).trans h4⟩
/-- An entry's cells. -/
def Sy.es (s : Sy) : List Value := [.string s.name, .int .i64 s.kind, .int .i64 s.ix, .int .i64 s.line, .int .i64 s.col, .int .i64 (-1), .int .i32 0, .slice none 0 0]
def vE (S : List Sy) : List Value := S.flatMap Sy.es
theorem vE_append (S R : List Sy) : vE (S ++ R) = vE S ++ vE R := by unfold vE; simp
theorem vE_get : ∀ (S : List Sy) (i j : Nat) (h : i < S.length), j < 8 → (vE S)[i * 8 + j]? = (S[i].es)[j]? := by
  intro S
  induction S with
  | nil => intro i j h; simp at h
  | cons x S ih =>
    intro i j h hj
    have e : vE (x :: S) = x.es ++ vE S := by unfold vE; rw [List.flatMap_cons]
    have hl : x.es.length = 8 := rfl
    rw [e]
    cases i with
    | zero => rw [List.getElem?_append_left (by rw [hl]; omega)]; simp
    | succ i =>
      rw [List.getElem?_append_right (by rw [hl]; omega), hl, show (i + 1) * 8 + j - 8 = i * 8 + j by omega, ih i j (by simpa using h) hj]
      simp
theorem ens_of {w : World} {base sc : Nat} {sa : Option Addr} {S : List Sy} (h : w.ownsRow base 72 8 (.slice sa S.length sc) S.length (vE S)) : Ens w (.slice sa S.length sc) S := by
  refine ⟨sa, sc, rfl, ?_⟩
  by_cases h0 : S.length = 0
  · exact .inl (List.length_eq_zero_iff.1 h0)
  obtain ⟨gs, cs', hsv, -, hgs, -⟩ := own_block h (by omega)
  injection hsv with hsv1 _ hsv2
  subst hsv1
  subst hsv2
  refine .inr ⟨gs, 0, rfl, (own_lt h gs rfl).2, fun i hi => ?_⟩
  have key : ∀ j u, j < 8 → (S[i].es)[j]? = some u → w.cell? ⟨gs, i * 8 + j, none⟩ = some u := by
    intro j u hj hu
    rw [h.cellAt _ (by omega), vE_get S i j hi hj]; exact hu
  simp only [Nat.zero_add]
  exact ⟨key 0 _ (by omega) rfl, key 1 _ (by omega) rfl, key 5 _ (by omega) rfl⟩
theorem info72 : (Tryd.prog.info? 72).map (fun i => (i.zero, i.size, i.bytes)) = some (some (.agg #[.string ⟨#[]⟩, .int .i64 0, .int .i64 0, .int .i64 0, .int .i64 0, .int .i64 0, .int .i32 0, .slice none 0 0]), 8, 88) := by kernel_rfl
/-- What TypeOf answers. -/
def tyA (S : List Sy) (L : List Nd) : Ty := if fEx L = true then tyF S [] L else ⟨0, 33, 0, 0⟩
set_option maxRecDepth 100000 in
set_option maxHeartbeats 8000000 in
theorem typeR_any (S : List Sy) (L : List Nd) (vs vn : Value) (w : World) (hS : Sys w vs S) (hl : S.length ≤ 1048576) (hN : Nds w vn L) (hlN : L.length ≤ 2932031007317) (hse : SmE L) (t : Tb w) :
    Calls Tryd.prog 7 #[vs, vn] w fun e w' => e = .returned (tyV (tyA S L)) ∧ Below w.heap.size w w' := by
  have kF := fun (X : World) (hX : Below w.heap.size w X) => refExpr_any L vn X (hN.below hX) hlN hse (t.below hX)
  have hb0 : Below w.heap.size w (w.alloc (.cells #[.int .i64 0, .int .i64 0, .int .i64 0] 50)) := bel1 _
  have K0 : Has (w.alloc (.cells #[.int .i64 0, .int .i64 0, .int .i64 0] 50)) w.heap.size #[.int .i64 0, .int .i64 0, .int .i64 0] := Has.new _ _ _ rfl
  obtain ⟨ti, hi, hi0, hi1, hi2⟩ := info_parts info72
  unfold tyA
  cases hf : fEx L with
  | false =>
    rw [hf] at kF
    simp only [Bool.false_eq_true, if_false]
    obtain ⟨na, nc, rfl, -⟩ := hN
    go_enter Tryd.func7, Tryd.ntmps7
    go_wp2_with (go_at_call 14; (with_reducible refine Calls.mono (kF _ (by exact hb0)) ?_); rintro e w1 ⟨rfl, h1⟩; have hb1 := bel_after hb0 hb0.size h1; have K1 := K0.below h1; obtain ⟨_, q1, q2⟩ := id K1)
    obtain ⟨y0, Y1, y2⟩ := K1.set3 (.int .i64 33) (.int .i64 0) (.int .i64 0)
    exact bodyPost_ret (v := .tuple #[.int .i64 0, .agg #[.int .i64 33, .int .i64 0, .int .i64 0]]) (by simp [results, Tryd.results7, go_sem, Y1]) rfl ⟨rfl, bel3 hb1 (Nat.le_refl _) _ _ _⟩
  | true =>
    rw [hf] at kF
    rw [if_pos rfl]
    have kL := fun (X : World) (hX : Below w.heap.size w X) (ve : Value) (hE : Ens X ve S) => lookR_any S L ve vn X hE (by omega) (hN.below hX) hf
    obtain ⟨na, nc, rfl, -⟩ := hN
    obtain ⟨a, cap, rfl, hc⟩ := hS
    generalize tyF S [] L = A at *
    obtain ⟨At, Ac, Al, Ak⟩ := A
    simp only [tyV] at *
    go_enter Tryd.func7, Tryd.ntmps7
    go_wp2_with (go_at_call 14; (with_reducible refine Calls.mono (kF _ (by exact hb0)) ?_); rintro e w1 ⟨rfl, h1⟩; have hb1 := bel_after hb0 hb0.size h1; have K1 := K0.below h1)
    clear K0 hb0 h1
    go_loopw [6, 7] (fun u i wr => ∃ (k : Nat) (sa : Option Addr) (sc : Nat), k ≤ S.length ∧ u = .slice sa k sc ∧ i = .int .i64 (k : Int) ∧ Hid (wr.ownsRow w1.heap.size 72 8 (.slice sa k sc) k (vE (S.take k))) ∧ Hid (Below w1.heap.size w1 wr)) (fun _ i _ => S.length - (intOf i).toNat)
    case atStart => exact ⟨0, none, 0, by omega, rfl, rfl, World.ownsRow_nil _ _ _ _, Below.refl _ _⟩
    case round =>
      obtain ⟨k, sa, sc, hkl, rfl, rfl, ow', hb'⟩ := hrel
      have ow := ow'.out
      have hb := hb'.out
      clear ow' hb'
      have hbw := bel_after hb1 hb1.size hb
      by_cases hlt : k < S.length
      case neg =>
        have s1 : ¬ (k : Int) < (S.length : Int) := by omega
        obtain rfl : k = S.length := by omega
        rw [List.take_length] at ow
        have cL := kL wr hbw _ (ens_of ow)
        have K2 := K1.below hb
        clear hc kF kL
        go_wp2_with (go_at_call 15; (with_reducible refine Calls.mono cL ?_); rintro e w2 ⟨rfl, h2⟩; have hb2 := bel_after hbw hbw.size h2; have K3 := K2.below h2; obtain ⟨_, q1, q2⟩ := id K3)
        obtain ⟨y0, Y1, y2⟩ := K3.set3 (.int .i64 Ac) (.int .i64 Al) (.int .i64 Ak)
        exact bodyPost_ret (v := .tuple #[.int .i64 At, .agg #[.int .i64 Ac, .int .i64 Al, .int .i64 Ak]]) (by simp [results, Tryd.results7, go_sem, Y1]) rfl ⟨rfl, bel3 hb2 (Nat.le_refl _) _ _ _⟩
      case pos =>
        obtain ⟨g, o, rfl, hg, hx⟩ := hc.resolve_left (by intro e; rw [e] at hlt; simp at hlt)
        obtain ⟨h0, h1, h2, h3, h4⟩ := hx k hlt
        have p0 := (hbw.cell (p := ⟨g, _, none⟩) hg).trans h0
        have p1 := (hbw.cell (p := ⟨g, _, none⟩) hg).trans h1
        have p2 := (hbw.cell (p := ⟨g, _, none⟩) hg).trans h2
        have p3 := (hbw.cell (p := ⟨g, _, none⟩) hg).trans h3
        have p4 := (hbw.cell (p := ⟨g, _, none⟩) hg).trans h4
        have s1 : (k : Int) < (S.length : Int) := by omega
        have s0 : (0 : Int) ≤ (k : Int) := by omega
        have hnx : vE (S.take (k + 1)) = vE (S.take k) ++ S[k].es := by rw [List.take_succ_eq_append_getElem hlt, vE_append]; simp [vE]
        clear hx hc kF kL h0 h1 h2 h3 h4
        unfold Sy.es at hnx
        generalize S[k].name = xn at *
        generalize S[k].kind = xk at *
        generalize S[k].ix = xi at *
        generalize S[k].line = xl at *
        generalize S[k].col = xc at *
        go_wp2_with (at_builtin; (refine wpList_append_mine _ rfl _ _ 70 rfl w1.heap.size 72 ti _ 8 88 Tryd.underlying70 hi hi0 hi1 hi2 rfl (by decide) (.slice sa k sc) k (vE (S.take k)) rfl (own_bel ow (bel1 _)) ⟨wr.heap.size, 0, none⟩ 1 1 [.string xn, .int .i64 xk, .int .i64 xi, .int .i64 xl, .int .i64 xc, .int .i64 (-1), .int .i32 0, .slice none 0 0] rfl rfl (cells_at (W := wr) rfl _ _) (all_one rfl) (by decide) (by unfold maxLen; omega) (by omega) (by have := hb.size; simp; omega) ?_); intro g' c' y o3 gr _ _ _; have b3 := grown_bel (hb.alloc hb.size _) gr (Nat.le_refl _) (fun q hq => (own_lt ow q hq).1))
        go_roundw
        case rel => exact ⟨k + 1, _, _, by omega, rfl, by go_num, (by show World.ownsRow _ _ _ _ _ _ _; rw [hnx]; exact o3), b3⟩
        case measure => simp [intOf]; omega
end Go.Proofs.YtfmdlcfkfglnhaaDoor
