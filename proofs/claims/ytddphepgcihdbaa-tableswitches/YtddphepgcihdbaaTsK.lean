import Derived.Test.YtddphepgcihdbaaTfI
namespace Go.Proofs.Ytddphepgcihdbaa
open Go.RowKit
set_option linter.unusedVariables false
set_option linter.unusedSimpArgs false

theorem own_cell {w : World} {base e size n g cap : Nat} {xs : List Value} (h : w.ownsRow base e size (.slice (some ⟨g, 0, none⟩) n cap) n xs) (j : Nat) (u : Value) (hu : xs[j]? = some u) : w.cell? ⟨g, j, none⟩ = some u := own_reads h rfl j u hu
theorem fl_pre {α : Type} {sz : Nat} {cs : α → List Value} (hl : ∀ x, (cs x).length = sz) {w : World} {base e g cap n m : Nat} {L : List α} {ms : List Value} (h : w.ownsRow base e sz (.slice (some ⟨g, 0, none⟩) n cap) n (cellsF cs L ++ ms)) (hm : m = L.length) (hc : L.length ≤ cap) : Fl sz cs w (.slice (some ⟨g, 0, none⟩) m cap) L := by
  subst hm
  have hg := (own_lt h g rfl).2
  refine .inr ⟨⟨g, 0, none⟩, cap, rfl, hc, .inr ⟨rfl, hg, fun i hi j u hu => ?_⟩⟩
  show w.cell? ⟨g, 0 + i * sz + j, none⟩ = some u
  rw [Nat.zero_add]
  refine own_cell h _ u ?_
  have hj : j < sz := by have := (List.getElem?_eq_some_iff.1 hu).1; rw [hl] at this; exact this
  have hlt : i * sz + j < (cellsF cs L).length := by
    rw [cellsF_len hl]
    calc i * sz + j < i * sz + sz := by omega
      _ = (i + 1) * sz := (Nat.succ_mul i sz).symm
      _ ≤ L.length * sz := Nat.mul_le_mul_right _ hi
  rw [List.getElem?_append_left hlt, cellsF_get hl L i j hi hj]; exact hu
theorem nm_inj : ∀ i : Fin 8, ∀ j : Fin 8, nmF i = nmF j → i = j := by decide
theorem nm_ok : ∀ i : Fin 8, nmB (nmF i) = true := by decide
theorem ri_of : ∀ (R : List Rw), R.Pairwise (fun x y => x.m < y.m) → riB (R.map (·.m)) = true
  | [], _ => rfl
  | [x], _ => rfl
  | x :: y :: R, h => by
    have h1 := List.pairwise_cons.1 h
    have := h1.1 y (List.mem_cons_self ..)
    show (decide (x.m < y.m) && riB ((y :: R).map (·.m))) = true
    rw [ri_of (y :: R) h1.2]
    simpa using this
theorem names_nodup {D : List Dk} (h8 : D.length ≤ 8) (hn : ∀ i (h : i < D.length), D[i].name = nmF i) : (D.map (·.name)).Nodup := by
  rw [List.nodup_iff_pairwise_ne, List.pairwise_iff_getElem]
  intro i j hi hj hij e
  simp only [List.length_map] at hi hj
  rw [List.getElem_map, List.getElem_map, hn i hi, hn j hj] at e
  have := nm_inj ⟨i, by omega⟩ ⟨j, by omega⟩ e
  have := congrArg Fin.val this
  simp at this
  omega
theorem mem_name {D : List Dk} (hn : ∀ i (h : i < D.length), D[i].name = nmF i) {x : Dk} (hx : x ∈ D) : ∃ i, i < D.length ∧ x.name = nmF i := by
  obtain ⟨i, hi, rfl⟩ := List.getElem_of_mem hx
  exact ⟨i, hi, hn i hi⟩
theorem tt_ok : nmB ⟨#[116, 105, 109, 101, 116, 97, 98, 108, 101]⟩ = true := by decide
/-- A row of the call's own, as it is read. -/
theorem fl_own {α : Type} {sz : Nat} {cs : α → List Value} (hl : ∀ x, (cs x).length = sz) {w : World} {base e n : Nat} {v : Value} {L : List α} (h : w.ownsRow base e sz v n (cellsF cs L)) (hn : L.length = n) : Fl sz cs w v L := by
  rcases h.2 with ⟨h1, h2⟩ | ⟨g, cap, cur, rfl, h3, h4, h5, _⟩
  · exact .inl ⟨h1, List.eq_nil_of_length_eq_zero (by omega)⟩
  · exact fl_pre (ms := []) hl (by rw [List.append_nil]; exact h) hn.symm (by omega)
/-- A timetable that was made. -/
def tT (D : List Dk) (x0 x1 x2 x3 x4 x5 x6 : Int) (S : List Sn) (X : List Ex) (Q : List Sh) : Tt := ⟨⟨#[116, 105, 109, 101, 116, 97, 98, 108, 101]⟩, D, x0, x1, x2, x3, x4, x5, x6, S, X, Q⟩
theorem ri_sh : ∀ (R : List Sh), R.Pairwise (fun x y => x.m < y.m) → riB (R.map (·.m)) = true
  | [], _ => rfl
  | [x], _ => rfl
  | x :: y :: R, h => by
    have h1 := List.pairwise_cons.1 h
    have := h1.1 y (List.mem_cons_self ..)
    show (decide (x.m < y.m) && riB ((y :: R).map (·.m))) = true
    rw [ri_sh (y :: R) h1.2]
    simpa using this
theorem made_errT {w : World} {B : Nat} {vd : Value} {D : List Dk} {n : Nat} {x0 x1 x2 x3 x4 x5 x6 la : Int} {S : List Sn} {X : List Ex} {Q : List Sh} (h : Dn w B vd D) (hl : D.length = n) (h1 : 1 ≤ n) (h8 : n ≤ 8) (hr : 0 ≤ x0 ∧ x0 < (n : Int) ∧ 0 ≤ x1 ∧ x1 < (n : Int) ∧ 0 ≤ x2 ∧ x2 < (n : Int) ∧ 0 ≤ x3 ∧ x3 < (n : Int) ∧ 0 ≤ x4 ∧ x4 < (n : Int) ∧ 0 ≤ x5 ∧ x5 < (n : Int) ∧ 0 ≤ x6 ∧ x6 < (n : Int)) (s3 : S.length ≤ 3) (s4 : X.length ≤ 4) (s5 : Q.length ≤ 3) (k1 : SnK n S) (k2 : ExK n X) (k3 : ShK la Q) : (tT D x0 x1 x2 x3 x4 x5 x6 S X Q).err = 0 := by
  have e1 : (tT D x0 x1 x2 x3 x4 x5 x6 S X Q).nmsB = true := by
    unfold Tt.nmsB tT
    simp only [Bool.and_eq_true, List.all_eq_true]
    refine ⟨tt_ok, fun x hx => ?_⟩
    obtain ⟨i, hi, e⟩ := mem_name h.nm hx
    rw [e]; exact nm_ok ⟨i, by omega⟩
  have e2 : (tT D x0 x1 x2 x3 x4 x5 x6 S X Q).limB = true := by
    unfold Tt.limB tT
    simp only [Bool.and_eq_true, List.all_eq_true, decide_eq_true_eq]
    exact ⟨⟨by omega, by omega, by omega, by omega⟩, fun x hx => by have := (h.ok x hx).2.1; omega⟩
  have e3 : (tT D x0 x1 x2 x3 x4 x5 x6 S X Q).rowB = true := by
    unfold Tt.rowB tT
    simp only [Bool.and_eq_true, List.all_eq_true, decide_eq_true_eq]
    exact ⟨by omega, fun x hx => (h.ok x hx).1⟩
  have e4 : (tT D x0 x1 x2 x3 x4 x5 x6 S X Q).oneB = true := by
    unfold Tt.oneB tT
    simp only [Bool.and_eq_true, decide_eq_true_eq]
    exact ⟨names_nodup (by omega) h.nm, k2.1⟩
  have e5 : (tT D x0 x1 x2 x3 x4 x5 x6 S X Q).clkB = true := by
    unfold Tt.clkB tT
    simp only [Bool.and_eq_true, List.all_eq_true]
    refine ⟨fun x hx y hy => ?_, fun x hx => ?_⟩
    · have := (h.ok x hx).2.2.1 y hy
      simp only [rwB, inB, Bool.and_eq_true, decide_eq_true_eq]
      omega
    · have := k3.1 x hx
      simp only [inB, Bool.and_eq_true, decide_eq_true_eq]
      omega
  have e6 : (tT D x0 x1 x2 x3 x4 x5 x6 S X Q).datB = true := by
    unfold Tt.datB tT
    simp only [Bool.and_eq_true, List.all_eq_true]
    refine ⟨fun x hx => (k1 x hx).1, fun x hx => (k2.2 x hx).1, fun x hx => ?_⟩
    have := k3.1 x hx
    simp only [inB, Bool.and_eq_true, decide_eq_true_eq]
    omega
  have e7 : (tT D x0 x1 x2 x3 x4 x5 x6 S X Q).kinB = true := by
    unfold Tt.kinB Tt.wk tT
    simp only [Bool.and_eq_true]
    rw [hl]
    refine ⟨?_, List.all_eq_true.2 fun x hx => (k1 x hx).2, List.all_eq_true.2 fun x hx => (k2.2 x hx).2⟩
    simp only [List.all_cons, List.all_nil, kdB, Bool.and_true, Bool.and_eq_true, decide_eq_true_eq]
    omega
  have e8 : (tT D x0 x1 x2 x3 x4 x5 x6 S X Q).ordB = true := by
    unfold Tt.ordB tT
    simp only [Bool.and_eq_true, List.all_eq_true]
    exact ⟨fun x hx => ri_of _ (h.ok x hx).2.2.2, ri_sh _ k3.2⟩
  unfold Tt.err
  rw [e1, e2, e3, e4, e5, e6, e7, e8]
  rfl
/-- What Make answers: a sound timetable. -/
theorem made_t {w : World} {e : Ending} {w' : World} (h : MkP w e w') : ∃ (t : Tt) (aD aS aX aH : Option Addr) (cD cS cX cH : Nat) (s b : ByteArray), e = .returned (.tuple #[.agg #[.string t.nm, .slice aD t.D.length cD, .int .i64 t.w0, .int .i64 t.w1, .int .i64 t.w2, .int .i64 t.w3, .int .i64 t.w4, .int .i64 t.w5, .int .i64 t.w6, .slice aS t.S.length cS, .slice aX t.X.length cX, .slice aH t.H.length cH], .string s, .string b]) ∧ t.err = 0 ∧ TR w' t (.slice aD t.D.length cD) (.slice aS t.S.length cS) (.slice aX t.X.length cX) (.slice aH t.H.length cH) ∧ Below w.heap.size w w' := by
  obtain ⟨da, dcp, n, D, x0, x1, x2, x3, x4, x5, x6, sa, xa, ha, sn, sc, xn, xc, hn, hc, s, b, S, X, Q, rfl, hl, n1, n8, hr, hD, ⟨l1, l2, l3, m1, m2, m3⟩, ⟨k1, k2, la, k3⟩, ⟨o1, o2, o3⟩, hb⟩ := h
  subst l1 l2 l3 hl
  refine ⟨tT D x0 x1 x2 x3 x4 x5 x6 S X Q, da, sa, xa, ha, dcp, sc, xc, hc, s, b, rfl, made_errT hD rfl n1 n8 hr m1 m2 m3 k1 k2 k3, ?_, hb⟩
  refine ⟨fl_own (cs := Dk.cs) (fun _ => rfl) hD.own rfl, ?_, fl_own (cs := Sn.cs) (fun _ => rfl) o1 rfl, fl_own (cs := Ex.cs) (fun _ => rfl) o2 rfl, fl_own (cs := Sh.cs) (fun _ => rfl) o3 rfl, ?_, ?_, ?_, ?_, ?_, ?_, ?_, ?_⟩
  · intro x hx
    exact fl_own rw_len (hD.rows x hx) rfl
  · show D.length ≤ _; omega
  · intro x hx
    have := (hD.ok x hx).2.1; omega
  · show S.length ≤ _; omega
  · show X.length ≤ _; omega
  · show Q.length ≤ _; omega
  · show 9 ≤ _; omega
  · intro x hx
    obtain ⟨i, hi, e⟩ := mem_name hD.nm hx
    have := nm_len i (by omega)
    rw [e]; omega
  · intro x hx
    have := (k2.2 x hx).1
    simp only [dayB, inB, Bool.and_eq_true, decide_eq_true_eq] at this
    simp only [Lit.wf, Bool.and_eq_true, decide_eq_true_eq]
    show (-9223372036854775808 : Int) ≤ x.day ∧ x.day ≤ 9223372036854775807
    omega
end Go.Proofs.Ytddphepgcihdbaa
