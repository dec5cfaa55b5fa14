import Derived.Test.YtoaokpmnjppfcaaWbO
namespace Go.Proofs.Ytoaokpmnjppfcaa
open Go.RowKit
set_option linter.unusedVariables false
set_option linter.unusedSimpArgs false

theorem fl_owned {α : Type} {sz : Nat} {cs : α → List Value} (hl : ∀ x, (cs x).length = sz) {w : World} {base e : Nat} {a : Option Addr} {c : Nat} {L : List α} (h : w.ownsRow base e sz (.slice a L.length c) L.length (cellsF cs L)) : Fl sz cs w (.slice a L.length c) L := by
  rcases h.2 with ⟨e1, e2⟩ | ⟨g, cap, cur, e1, h2, h3, h4⟩
  · refine .inl ⟨?_, List.length_eq_zero_iff.1 e2⟩
    exact e1
  · injection e1 with e1 _ e3
    subst e1 e3
    refine .inr ⟨⟨g, 0, none⟩, c, rfl, h4.1, ?_⟩
    by_cases h0 : L = []
    · exact .inl h0
    · refine .inr ⟨rfl, (Array.getElem?_eq_some_iff.1 h3).1, fun i hi j u hu => ?_⟩
      have hj : j < sz := by have := (List.getElem?_eq_some_iff.1 hu).1; rwa [hl] at this
      show w.cell? ⟨g, 0 + i * sz + j, none⟩ = some u
      rw [Nat.zero_add]
      exact own_reads h rfl _ _ (by rw [cellsF_get hl L i j hi hj]; exact hu)
theorem info39 : (Try.prog.info? 39).map (fun i => (i.zero, i.size, i.bytes)) = some (some (.slice none 0 0), 1, 24) := by kernel_rfl
theorem NE.swap {w wr : World} {F1 F2 : Nat → Prop} {vL v : Value} {mark : Int} {i : Nat} (h : NE w wr F1 F2 vL v mark i) : NE w wr F2 F1 vL v mark i := by
  rcases h with e | ⟨n, a, c, h1, h2, h3, h4⟩
  · exact .inl e
  · exact .inr ⟨n, a, c, h1, h2, h3, fun q hq => ⟨(h4 q hq).2.1, (h4 q hq).1, (h4 q hq).2.2⟩⟩
theorem NE.form {w wr : World} {F1 F2 : Nat → Prop} {vL v : Value} {mark : Int} {i : Nat} (h : NE w wr F1 F2 vL v mark i) : ∃ a n c, v = .slice a n c ∧ Hid (NE w wr F1 F2 vL v mark i) := by
  have h' := h
  rcases h with e | ⟨n, a, c, h1, h2, h3, h4⟩
  · exact ⟨none, 0, 0, e, h'⟩
  · exact ⟨a, n + 1, c, h2, h'⟩
theorem wrap64_id (x : Int) (h : -100 ≤ x ∧ x ≤ 100) : RowKit.wrap64 x = x := by
  have := wrap64 x (by omega)
  first | exact this | (unfold RowKit.wrap64; omega) | (simpa [RowKit.wrap64] using this)
/-- Two stretches of blocks. -/
def Rg (l1 l2 l3 l4 : Nat) (q : Nat) : Prop := l1 ≤ q ∧ q < l2 ∨ l3 ≤ q ∧ q < l4
theorem pr_init {w : World} {l1 l2 gl b1 B : Nat} {vg vc : Value} {b2 rb : Nat} {vg' vc' vn : Value} {G : List Gp} {C : List Cf} {l3 l4 : Nat} (mo : Mo w l1 l2 gl b1 B vg vc (.slice none 0 0) (grL G) C (fun _ => lm0) 0 al0 []) (rm : Rm w b2 rb vg' vc' vn (.slice none 0 0) G C 0 ⟨#[]⟩ (fun _ => 0) (fun _ => -1) al0 []) (hf : ∀ q, Ft b2 rb vg' vc' vn (.slice none 0 0) q → l3 ≤ q ∧ q < l4) (h23 : l2 ≤ l3) (h4 : l4 ≤ w.heap.size) : Pr w (Rg l1 l2 l3 l4) b1 b2 G C (st0 []) 0 := by
  have z1 := mo.l1
  have z2 := mo.l2
  refine ⟨l1, l2, gl, B, vg, vc, .slice none 0 0, rb, vg', vc', vn, .slice none 0 0, 0, ⟨#[]⟩, fun _ => 0, fun _ => -1, mo, rm, fun _ => ⟨rfl, rel0 _⟩, sok0 _, Nat.le_refl _, fun q hq => ?_, fun q hq => .inr (hf q hq), fun q hq => ?_⟩
  · rcases hq with e | e
    · exact ⟨.inl e, fun c => by have := hf q c; omega⟩
    · cases e
  · rcases hq with e | e <;> omega
/-- (x mod 8 + 8) mod 8. -/
def kdF (x : Int) : Int := (x.tmod 8 + 8).tmod 8
theorem kd_ok (x : Int) : 0 ≤ kdF x ∧ kdF x < 8 := by
  have h1 := Int.tmod_lt_of_pos x (b := 8) (by decide)
  have h2 : -8 < x.tmod 8 := by
    have := Int.tmod_lt_of_pos (-x) (b := 8) (by decide)
    rw [Int.neg_tmod] at this
    omega
  unfold kdF
  exact ⟨Int.tmod_nonneg _ (by omega), Int.tmod_lt_of_pos _ (by decide)⟩
end Go.Proofs.Ytoaokpmnjppfcaa
