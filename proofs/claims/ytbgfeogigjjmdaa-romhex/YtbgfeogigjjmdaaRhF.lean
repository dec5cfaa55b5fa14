import Derived.Test.YtbgfeogigjjmdaaRhE
import Derived.Test.YtbgfeogigjjmdaaHxS
namespace Go.Proofs.Ytbgfeogigjjmdaa
open Go.RowKit
set_option linter.unusedVariables false

/-- The reference's struct, and what it has read. -/
def BU (w : World) (B xb : Nat) (st : Rd) : Prop := ∃ dv, w.heap[xb]? = some (.cells #[dv, .bool st.en, .bool st.bk] 44 (0, 0)) ∧ w.ownsRow B 5 1 dv st.D.length (v8 st.D) ∧ B ≤ xb ∧ (∀ x ∈ st.D, x < 256)
theorem BU.below {w w' : World} {B xb : Nat} {st : Rd} (h : BU w B xb st) (hb : Below w.heap.size w w') : BU w' B xb st := by
  obtain ⟨dv, h1, h2, h3, h4⟩ := h
  exact ⟨dv, (hb.block xb (Array.getElem?_eq_some_iff.1 h1).1).trans h1, own_only h2 (Only.of_below (S := fun _ => False) hb) (fun _ _ h => h), h3, h4⟩
def BuP (o : Except Flt Rd) (B xb : Nat) (e : Ending) (w' : World) : Prop := match o with
  | .error (c, col) => e = .returned (.tuple #[.int .i64 ((c : Nat) : Int), .int .i64 ((col : Nat) : Int)])
  | .ok st => e = .returned (.tuple #[.int .i64 0, .int .i64 0]) ∧ BU w' B xb st

set_option maxRecDepth 100000 in
set_option maxHeartbeats 4000000 in
theorem burnData_any (B xb : Nat) (st : Rd) (address g o cap : Nat) (d : List Nat) (w : World) (hR : BU w B xb st) (hd : Bs w (some ⟨g, o, none⟩) d) (hdl : d.length ≤ 255) (hD : st.D.length ≤ 1048576) (hBw : B ≤ w.heap.size) :
    Calls Try.prog 24 #[.pointer (some ⟨xb, 0, none⟩), .slice (some ⟨g, o, none⟩) d.length cap, .int .i64 (address : Int)] w fun e w' => BuP (datF st address d) B xb e w' ∧ Below B w w' := by
  have hR' : Hid (BU w B xb st) := hR
  obtain ⟨dv, hh, hown, hBr, h256⟩ := hR
  obtain ⟨da, dc, rfl⟩ := own_slice' hown
  have hH := Has.ofHeap hh
  have k0 : w.cell? ⟨xb, 0, none⟩ = some (.slice da st.D.length dc) := hH.2.1 0
  have k2 : w.cell? ⟨xb, 2, none⟩ = some (.bool st.bk) := hH.2.1 2
  have hq1 : Hid (st.D.length + d.length ≤ maxLen) := by show _ ≤ _; unfold maxLen; omega
  have hnews : Hid (∀ j u, (v8 d)[j]? = some u → w.cell? ((⟨g, o, none⟩ : Addr).add j) = some u) := by
    intro j u hj
    have hjl : j < d.length := by
      have := (List.getElem?_eq_some_iff.1 hj).1
      rwa [v8_len] at this
    obtain ⟨gb, go, e, _, hc⟩ := hd.cell (by omega)
    cases e
    rw [v8_get d j hjl] at hj
    rw [Go.WideShapes.add_plain, ← hj]
    exact hc j hjl
  have hd256 : Hid (∀ x ∈ st.D ++ d, x < 256) := by
    intro x hx
    rcases List.mem_append.1 hx with h | h
    · exact h256 x h
    · exact hd.1 x h
  have hDd : Hid (v8 (st.D ++ d) = v8 st.D ++ v8 d) := v8_app _ _
  have hDl : Hid ((st.D ++ d).length = st.D.length + d.length) := List.length_append
  obtain ⟨i5, hi, hz0, hz1, hz2⟩ := info_parts info5
  obtain ⟨RS, hRS⟩ : ∃ RS, datF st address d = RS := ⟨_, rfl⟩
  rw [hRS]
  unfold datF at hRS
  have hhd : Hid (w.heap[xb]? = some (.cells #[.slice da st.D.length dc, .bool st.en, .bool st.bk] 44 (0, 0))) := hh
  have hown' : Hid (w.ownsRow B 5 1 (.slice da st.D.length dc) st.D.length (v8 st.D)) := hown
  clear hd h256 hH hh hown
  by_cases h1 : address ≠ st.D.length % 65536
  · rw [if_pos h1] at hRS
    have f1 : (((address : Int)) != (st.D.length : Int) % 65536) = true := by simp; omega
    have hRS' : Hid (_ = RS) := hRS
    clear hRS
    clear h1
    go_enter Try.func24, Try.ntmps24
    go_wp2
    go_ret2
    exact ⟨by rw [← hRS'.out]; rfl, Below.refl _ _⟩
  · rw [if_neg h1] at hRS
    have f1 : (((address : Int)) != (st.D.length : Int) % 65536) = false := by simp; omega
    clear h1
    by_cases h2 : 65536 < st.D.length % 65536 + d.length
    · rw [if_pos h2] at hRS
      have f2 : (65536 : Int) < (st.D.length : Int) % 65536 + (d.length : Int) := by omega
      have hRS' : Hid (_ = RS) := hRS
      clear hRS
      clear h2
      go_enter Try.func24, Try.ntmps24
      go_wp2
      go_ret2
      exact ⟨by rw [← hRS'.out]; rfl, Below.refl _ _⟩
    · rw [if_neg h2] at hRS
      have f2 : ¬ (65536 : Int) < (st.D.length : Int) % 65536 + (d.length : Int) := by omega
      clear h2
      by_cases hm5 : d.length = 0
      · by_cases h3 : st.D.length = 0
        · have f3 : ¬ (0 : Int) < (st.D.length : Int) := by omega
          rw [if_pos (by omega)] at hRS
          have f5 : ¬ (0 : Int) < (d.length : Int) := by omega
          have hm5' : Hid (d.length = 0) := hm5
          have f7 : ¬ (1048576 : Int) < (st.D.length : Int) + (d.length : Int) := by omega
          have hRS' : Hid (_ = RS) := hRS
          clear hRS
          try clear h3
          try clear h4
          try clear h4'
          try clear h7
          try clear hm5
          generalize hn0 : st.D.length = n at *
          generalize hm0 : d.length = m at *
          have hm : Hid (d.length = m) := hm0
          clear hn0 hm0
          go_enter Try.func24, Try.ntmps24
          go_wp2_with ((at_builtin; refine wpList_append_own _ rfl _ _ 22 rfl B 5 i5 _ 1 1 Try.underlying22 hi hz0 hz1 hz2 rfl (by decide) (.slice da n dc) n (v8 st.D) rfl hown'.out ⟨g, o, none⟩ m cap (v8 d) rfl (by rw [v8_len, hm.out]; omega) hnews.out (v8_one d) hq1.out (by omega) hBw ?_; intro v9 w9 own9 hg9 hnil9); obtain ⟨a9, c9, rfl⟩ := own_slice' own9; have hne9 : (Value.slice da n dc).ownBlock ≠ some xb := Lib.ownBlock_ne hown'.out hhd.out (by decide); have hh9 : w9.heap[xb]? = some (.cells #[.slice da n dc, .bool st.en, .bool st.bk] 44 (0, 0)) := (hg9.block xb (Array.getElem?_eq_some_iff.1 hhd.out).1 (fun e => hne9 e.symm)).trans hhd.out; have u0 : w9.cell? ⟨xb, 0, none⟩ = some (.slice da n dc) := (Has.ofHeap hh9).2.1 0; have y0 := (Has.ofHeap hh9).2.2 0; have hne8 : (Value.slice a9 (n + m) c9).ownBlock ≠ some xb := Lib.ownBlock_ne own9 hh9 (by decide); have hh8 : (w9.setCell ⟨xb, 0, none⟩ (.slice a9 (n + m) c9)).heap[xb]? = some (.cells #[(.slice a9 (n + m) c9), .bool st.en, .bool st.bk] 44 (0, 0)) := (by rw [heap_setCell_same w9 xb 0 _ 44 _ hh9]; rfl); have own8 := own_set (i := 0) (u := (.slice a9 (n + m) c9)) own9 (b := xb) hne8; have u2 : (w9.setCell ⟨xb, 0, none⟩ (.slice a9 (n + m) c9)).cell? ⟨xb, 2, none⟩ = some (.bool st.bk) := (Has.ofHeap hh8).2.1 2; have y2 := (Has.ofHeap hh8).2.2 2)
          have hB9 : Below B w (w9.setCell ⟨xb, 0, none⟩ (.slice a9 (n + m) c9)) := ((Below.refl B w).grown hg9 hBw (fun k hk => (own_lt hown'.out k hk).1)).setCell (p := ⟨xb, 0, none⟩) hBr _
          go_ret2
          have e0 : d = [] := List.eq_nil_of_length_eq_zero (by have := hm.out; have := hm5'.out; omega)
          have e1 : st.D ++ d = st.D := by rw [e0, List.append_nil]
          have e2 : st.D.length = n + m := by rw [← hDl.out, e1]
          have e3 : v8 st.D = v8 st.D ++ v8 d := by rw [← hDd.out, e1]
          have hOe : (w9.setCell ⟨xb, 0, none⟩ (.slice a9 (n + m) c9)).ownsRow B 5 1 (.slice a9 (n + m) c9) st.D.length (v8 st.D) := by
            rw [e2, e3]; exact own8
          exact ⟨by rw [← hRS'.out]; exact ⟨rfl, (.slice a9 (n + m) c9), hh8, hOe, hBr, fun x hx => hd256.out x (by rw [e1]; exact hx)⟩, hB9⟩
        · have f3 : (0 : Int) < (st.D.length : Int) := by omega
          by_cases h4 : st.D.length % 65536 = 0
          · have f4 : (((st.D.length : Int) % 65536) == 0) = true := by simp; omega
            clear h4
            rw [if_pos (by omega)] at hRS
            have f5 : ¬ (0 : Int) < (d.length : Int) := by omega
            have hm5' : Hid (d.length = 0) := hm5
            have f7 : ¬ (1048576 : Int) < (st.D.length : Int) + (d.length : Int) := by omega
            have hRS' : Hid (_ = RS) := hRS
            clear hRS
            try clear h3
            try clear h4
            try clear h4'
            try clear h7
            try clear hm5
            generalize hn0 : st.D.length = n at *
            generalize hm0 : d.length = m at *
            have hm : Hid (d.length = m) := hm0
            clear hn0 hm0
            go_enter Try.func24, Try.ntmps24
            go_wp2_with ((at_builtin; refine wpList_append_own _ rfl _ _ 22 rfl B 5 i5 _ 1 1 Try.underlying22 hi hz0 hz1 hz2 rfl (by decide) (.slice da n dc) n (v8 st.D) rfl hown'.out ⟨g, o, none⟩ m cap (v8 d) rfl (by rw [v8_len, hm.out]; omega) hnews.out (v8_one d) hq1.out (by omega) hBw ?_; intro v9 w9 own9 hg9 hnil9); obtain ⟨a9, c9, rfl⟩ := own_slice' own9; have hne9 : (Value.slice da n dc).ownBlock ≠ some xb := Lib.ownBlock_ne hown'.out hhd.out (by decide); have hh9 : w9.heap[xb]? = some (.cells #[.slice da n dc, .bool st.en, .bool st.bk] 44 (0, 0)) := (hg9.block xb (Array.getElem?_eq_some_iff.1 hhd.out).1 (fun e => hne9 e.symm)).trans hhd.out; have u0 : w9.cell? ⟨xb, 0, none⟩ = some (.slice da n dc) := (Has.ofHeap hh9).2.1 0; have y0 := (Has.ofHeap hh9).2.2 0; have hne8 : (Value.slice a9 (n + m) c9).ownBlock ≠ some xb := Lib.ownBlock_ne own9 hh9 (by decide); have hh8 : (w9.setCell ⟨xb, 0, none⟩ (.slice a9 (n + m) c9)).heap[xb]? = some (.cells #[(.slice a9 (n + m) c9), .bool st.en, .bool st.bk] 44 (0, 0)) := (by rw [heap_setCell_same w9 xb 0 _ 44 _ hh9]; rfl); have own8 := own_set (i := 0) (u := (.slice a9 (n + m) c9)) own9 (b := xb) hne8; have u2 : (w9.setCell ⟨xb, 0, none⟩ (.slice a9 (n + m) c9)).cell? ⟨xb, 2, none⟩ = some (.bool st.bk) := (Has.ofHeap hh8).2.1 2; have y2 := (Has.ofHeap hh8).2.2 2)
            have hB9 : Below B w (w9.setCell ⟨xb, 0, none⟩ (.slice a9 (n + m) c9)) := ((Below.refl B w).grown hg9 hBw (fun k hk => (own_lt hown'.out k hk).1)).setCell (p := ⟨xb, 0, none⟩) hBr _
            go_ret2
            have e0 : d = [] := List.eq_nil_of_length_eq_zero (by have := hm.out; have := hm5'.out; omega)
            have e1 : st.D ++ d = st.D := by rw [e0, List.append_nil]
            have e2 : st.D.length = n + m := by rw [← hDl.out, e1]
            have e3 : v8 st.D = v8 st.D ++ v8 d := by rw [← hDd.out, e1]
            have hOe : (w9.setCell ⟨xb, 0, none⟩ (.slice a9 (n + m) c9)).ownsRow B 5 1 (.slice a9 (n + m) c9) st.D.length (v8 st.D) := by
              rw [e2, e3]; exact own8
            exact ⟨by rw [← hRS'.out]; exact ⟨rfl, (.slice a9 (n + m) c9), hh8, hOe, hBr, fun x hx => hd256.out x (by rw [e1]; exact hx)⟩, hB9⟩
          · have f4 : (((st.D.length : Int) % 65536) == 0) = false := by simp; omega
            clear h4
            rw [if_pos (by omega)] at hRS
            have f5 : ¬ (0 : Int) < (d.length : Int) := by omega
            have hm5' : Hid (d.length = 0) := hm5
            have f7 : ¬ (1048576 : Int) < (st.D.length : Int) + (d.length : Int) := by omega
            have hRS' : Hid (_ = RS) := hRS
            clear hRS
            try clear h3
            try clear h4
            try clear h4'
            try clear h7
            try clear hm5
            generalize hn0 : st.D.length = n at *
            generalize hm0 : d.length = m at *
            have hm : Hid (d.length = m) := hm0
            clear hn0 hm0
            go_enter Try.func24, Try.ntmps24
            go_wp2_with ((at_builtin; refine wpList_append_own _ rfl _ _ 22 rfl B 5 i5 _ 1 1 Try.underlying22 hi hz0 hz1 hz2 rfl (by decide) (.slice da n dc) n (v8 st.D) rfl hown'.out ⟨g, o, none⟩ m cap (v8 d) rfl (by rw [v8_len, hm.out]; omega) hnews.out (v8_one d) hq1.out (by omega) hBw ?_; intro v9 w9 own9 hg9 hnil9); obtain ⟨a9, c9, rfl⟩ := own_slice' own9; have hne9 : (Value.slice da n dc).ownBlock ≠ some xb := Lib.ownBlock_ne hown'.out hhd.out (by decide); have hh9 : w9.heap[xb]? = some (.cells #[.slice da n dc, .bool st.en, .bool st.bk] 44 (0, 0)) := (hg9.block xb (Array.getElem?_eq_some_iff.1 hhd.out).1 (fun e => hne9 e.symm)).trans hhd.out; have u0 : w9.cell? ⟨xb, 0, none⟩ = some (.slice da n dc) := (Has.ofHeap hh9).2.1 0; have y0 := (Has.ofHeap hh9).2.2 0; have hne8 : (Value.slice a9 (n + m) c9).ownBlock ≠ some xb := Lib.ownBlock_ne own9 hh9 (by decide); have hh8 : (w9.setCell ⟨xb, 0, none⟩ (.slice a9 (n + m) c9)).heap[xb]? = some (.cells #[(.slice a9 (n + m) c9), .bool st.en, .bool st.bk] 44 (0, 0)) := (by rw [heap_setCell_same w9 xb 0 _ 44 _ hh9]; rfl); have own8 := own_set (i := 0) (u := (.slice a9 (n + m) c9)) own9 (b := xb) hne8; have u2 : (w9.setCell ⟨xb, 0, none⟩ (.slice a9 (n + m) c9)).cell? ⟨xb, 2, none⟩ = some (.bool st.bk) := (Has.ofHeap hh8).2.1 2; have y2 := (Has.ofHeap hh8).2.2 2)
            have hB9 : Below B w (w9.setCell ⟨xb, 0, none⟩ (.slice a9 (n + m) c9)) := ((Below.refl B w).grown hg9 hBw (fun k hk => (own_lt hown'.out k hk).1)).setCell (p := ⟨xb, 0, none⟩) hBr _
            go_ret2
            have e0 : d = [] := List.eq_nil_of_length_eq_zero (by have := hm.out; have := hm5'.out; omega)
            have e1 : st.D ++ d = st.D := by rw [e0, List.append_nil]
            have e2 : st.D.length = n + m := by rw [← hDl.out, e1]
            have e3 : v8 st.D = v8 st.D ++ v8 d := by rw [← hDd.out, e1]
            have hOe : (w9.setCell ⟨xb, 0, none⟩ (.slice a9 (n + m) c9)).ownsRow B 5 1 (.slice a9 (n + m) c9) st.D.length (v8 st.D) := by
              rw [e2, e3]; exact own8
            exact ⟨by rw [← hRS'.out]; exact ⟨rfl, (.slice a9 (n + m) c9), hh8, hOe, hBr, fun x hx => hd256.out x (by rw [e1]; exact hx)⟩, hB9⟩
      · by_cases h3 : st.D.length = 0
        · have f3 : ¬ (0 : Int) < (st.D.length : Int) := by omega
          rw [if_neg (by omega), if_neg (by intro h; omega)] at hRS
          have f5 : (0 : Int) < (d.length : Int) := by omega
          by_cases h7 : 1048576 < st.D.length + d.length
          · exact absurd h7 (by omega)
          · rw [if_neg h7] at hRS
            have f7 : ¬ (1048576 : Int) < (st.D.length : Int) + (d.length : Int) := by omega
            have hRS' : Hid (_ = RS) := hRS
            clear hRS
            try clear h3
            try clear h4
            try clear h4'
            try clear h7
            try clear hm5
            generalize hn0 : st.D.length = n at *
            generalize hm0 : d.length = m at *
            have hm : Hid (d.length = m) := hm0
            clear hn0 hm0
            go_enter Try.func24, Try.ntmps24
            go_wp2_with ((at_builtin; refine wpList_append_own _ rfl _ _ 22 rfl B 5 i5 _ 1 1 Try.underlying22 hi hz0 hz1 hz2 rfl (by decide) (.slice da n dc) n (v8 st.D) rfl hown'.out ⟨g, o, none⟩ m cap (v8 d) rfl (by rw [v8_len, hm.out]; omega) hnews.out (v8_one d) hq1.out (by omega) hBw ?_; intro v9 w9 own9 hg9 hnil9); obtain ⟨a9, c9, rfl⟩ := own_slice' own9; have hne9 : (Value.slice da n dc).ownBlock ≠ some xb := Lib.ownBlock_ne hown'.out hhd.out (by decide); have hh9 : w9.heap[xb]? = some (.cells #[.slice da n dc, .bool st.en, .bool st.bk] 44 (0, 0)) := (hg9.block xb (Array.getElem?_eq_some_iff.1 hhd.out).1 (fun e => hne9 e.symm)).trans hhd.out; have u0 : w9.cell? ⟨xb, 0, none⟩ = some (.slice da n dc) := (Has.ofHeap hh9).2.1 0; have y0 := (Has.ofHeap hh9).2.2 0; have hne8 : (Value.slice a9 (n + m) c9).ownBlock ≠ some xb := Lib.ownBlock_ne own9 hh9 (by decide); have hh8 : (w9.setCell ⟨xb, 0, none⟩ (.slice a9 (n + m) c9)).heap[xb]? = some (.cells #[(.slice a9 (n + m) c9), .bool st.en, .bool st.bk] 44 (0, 0)) := (by rw [heap_setCell_same w9 xb 0 _ 44 _ hh9]; rfl); have own8 := own_set (i := 0) (u := (.slice a9 (n + m) c9)) own9 (b := xb) hne8; have u2 : (w9.setCell ⟨xb, 0, none⟩ (.slice a9 (n + m) c9)).cell? ⟨xb, 2, none⟩ = some (.bool st.bk) := (Has.ofHeap hh8).2.1 2; have y2 := (Has.ofHeap hh8).2.2 2)
            have hB9 : Below B w (w9.setCell ⟨xb, 0, none⟩ (.slice a9 (n + m) c9)) := ((Below.refl B w).grown hg9 hBw (fun k hk => (own_lt hown'.out k hk).1)).setCell (p := ⟨xb, 0, none⟩) hBr _
            go_ret2
            have hh7 : ((w9.setCell ⟨xb, 0, none⟩ (.slice a9 (n + m) c9)).setCell ⟨xb, 2, none⟩ (.bool false)).heap[xb]? = some (.cells #[(.slice a9 (n + m) c9), .bool st.en, .bool false] 44 (0, 0)) := by
              rw [heap_setCell_same _ xb 2 _ 44 _ hh8]; rfl
            have own7 := own_set (i := 2) (u := .bool false) own8 (b := xb) hne8
            exact ⟨by rw [← hRS'.out]; exact ⟨rfl, (.slice a9 (n + m) c9), hh7, by show World.ownsRow _ _ _ _ _ (st.D ++ d).length (v8 (st.D ++ d)); rw [hDl.out, hDd.out]; exact own7, hBr, hd256.out⟩, hB9.setCell (p := ⟨xb, 2, none⟩) hBr _⟩
        · have f3 : (0 : Int) < (st.D.length : Int) := by omega
          by_cases h4 : st.D.length % 65536 = 0
          · have f4 : (((st.D.length : Int) % 65536) == 0) = true := by simp; omega
            cases hb : st.bk with
            | false =>
              rw [if_neg hm5, if_pos (show ¬ (0 < st.D.length % 65536) ∧ ¬ st.D.length = 0 ∧ st.bk = false from ⟨by omega, h3, hb⟩)] at hRS
              have f5 : (0 : Int) < (d.length : Int) := by omega
              have hRS' : Hid (_ = RS) := hRS
              clear hRS
              clear h4 h3 hm5
              rw [hb] at k2 hhd
              go_enter Try.func24, Try.ntmps24
              go_wp2
              go_ret2
              exact ⟨by rw [← hRS'.out]; rfl, Below.refl _ _⟩
            | true =>
              have k2' : w.cell? ⟨xb, 2, none⟩ = some (.bool true) := by rw [k2, hb]
              clear k2
              rw [if_neg (by omega), if_neg (by intro h; rw [hb] at h; exact absurd h.2.2 (by decide))] at hRS
              have f5 : (0 : Int) < (d.length : Int) := by omega
              by_cases h7 : 1048576 < st.D.length + d.length
              · rw [if_pos h7] at hRS
                have f7 : (1048576 : Int) < (st.D.length : Int) + (d.length : Int) := by omega
                have hRS' : Hid (_ = RS) := hRS
                clear hRS
                clear h7
                try clear h3
                try clear h4
                try clear h4'
                try clear hm5
                go_enter Try.func24, Try.ntmps24
                go_wp2
                go_ret2
                exact ⟨by rw [← hRS'.out]; rfl, Below.refl _ _⟩
              · rw [if_neg h7] at hRS
                have f7 : ¬ (1048576 : Int) < (st.D.length : Int) + (d.length : Int) := by omega
                have hRS' : Hid (_ = RS) := hRS
                clear hRS
                try clear h3
                try clear h4
                try clear h4'
                try clear h7
                try clear hm5
                generalize hn0 : st.D.length = n at *
                generalize hm0 : d.length = m at *
                have hm : Hid (d.length = m) := hm0
                clear hn0 hm0
                go_enter Try.func24, Try.ntmps24
                go_wp2_with ((at_builtin; refine wpList_append_own _ rfl _ _ 22 rfl B 5 i5 _ 1 1 Try.underlying22 hi hz0 hz1 hz2 rfl (by decide) (.slice da n dc) n (v8 st.D) rfl hown'.out ⟨g, o, none⟩ m cap (v8 d) rfl (by rw [v8_len, hm.out]; omega) hnews.out (v8_one d) hq1.out (by omega) hBw ?_; intro v9 w9 own9 hg9 hnil9); obtain ⟨a9, c9, rfl⟩ := own_slice' own9; have hne9 : (Value.slice da n dc).ownBlock ≠ some xb := Lib.ownBlock_ne hown'.out hhd.out (by decide); have hh9 : w9.heap[xb]? = some (.cells #[.slice da n dc, .bool st.en, .bool st.bk] 44 (0, 0)) := (hg9.block xb (Array.getElem?_eq_some_iff.1 hhd.out).1 (fun e => hne9 e.symm)).trans hhd.out; have u0 : w9.cell? ⟨xb, 0, none⟩ = some (.slice da n dc) := (Has.ofHeap hh9).2.1 0; have y0 := (Has.ofHeap hh9).2.2 0; have hne8 : (Value.slice a9 (n + m) c9).ownBlock ≠ some xb := Lib.ownBlock_ne own9 hh9 (by decide); have hh8 : (w9.setCell ⟨xb, 0, none⟩ (.slice a9 (n + m) c9)).heap[xb]? = some (.cells #[(.slice a9 (n + m) c9), .bool st.en, .bool st.bk] 44 (0, 0)) := (by rw [heap_setCell_same w9 xb 0 _ 44 _ hh9]; rfl); have own8 := own_set (i := 0) (u := (.slice a9 (n + m) c9)) own9 (b := xb) hne8; have u2 : (w9.setCell ⟨xb, 0, none⟩ (.slice a9 (n + m) c9)).cell? ⟨xb, 2, none⟩ = some (.bool st.bk) := (Has.ofHeap hh8).2.1 2; have y2 := (Has.ofHeap hh8).2.2 2)
                have hB9 : Below B w (w9.setCell ⟨xb, 0, none⟩ (.slice a9 (n + m) c9)) := ((Below.refl B w).grown hg9 hBw (fun k hk => (own_lt hown'.out k hk).1)).setCell (p := ⟨xb, 0, none⟩) hBr _
                go_ret2
                have hh7 : ((w9.setCell ⟨xb, 0, none⟩ (.slice a9 (n + m) c9)).setCell ⟨xb, 2, none⟩ (.bool false)).heap[xb]? = some (.cells #[(.slice a9 (n + m) c9), .bool st.en, .bool false] 44 (0, 0)) := by
                  rw [heap_setCell_same _ xb 2 _ 44 _ hh8]; rfl
                have own7 := own_set (i := 2) (u := .bool false) own8 (b := xb) hne8
                exact ⟨by rw [← hRS'.out]; exact ⟨rfl, (.slice a9 (n + m) c9), hh7, by show World.ownsRow _ _ _ _ _ (st.D ++ d).length (v8 (st.D ++ d)); rw [hDl.out, hDd.out]; exact own7, hBr, hd256.out⟩, hB9.setCell (p := ⟨xb, 2, none⟩) hBr _⟩
          · have f4 : (((st.D.length : Int) % 65536) == 0) = false := by simp; omega
            have h4' : ¬ st.D.length % 65536 = 0 := h4
            rw [if_neg (by omega), if_neg (by intro h; omega)] at hRS
            have f5 : (0 : Int) < (d.length : Int) := by omega
            by_cases h7 : 1048576 < st.D.length + d.length
            · rw [if_pos h7] at hRS
              have f7 : (1048576 : Int) < (st.D.length : Int) + (d.length : Int) := by omega
              have hRS' : Hid (_ = RS) := hRS
              clear hRS
              clear h7
              try clear h3
              try clear h4
              try clear h4'
              try clear hm5
              go_enter Try.func24, Try.ntmps24
              go_wp2
              go_ret2
              exact ⟨by rw [← hRS'.out]; rfl, Below.refl _ _⟩
            · rw [if_neg h7] at hRS
              have f7 : ¬ (1048576 : Int) < (st.D.length : Int) + (d.length : Int) := by omega
              have hRS' : Hid (_ = RS) := hRS
              clear hRS
              try clear h3
              try clear h4
              try clear h4'
              try clear h7
              try clear hm5
              generalize hn0 : st.D.length = n at *
              generalize hm0 : d.length = m at *
              have hm : Hid (d.length = m) := hm0
              clear hn0 hm0
              go_enter Try.func24, Try.ntmps24
              go_wp2_with ((at_builtin; refine wpList_append_own _ rfl _ _ 22 rfl B 5 i5 _ 1 1 Try.underlying22 hi hz0 hz1 hz2 rfl (by decide) (.slice da n dc) n (v8 st.D) rfl hown'.out ⟨g, o, none⟩ m cap (v8 d) rfl (by rw [v8_len, hm.out]; omega) hnews.out (v8_one d) hq1.out (by omega) hBw ?_; intro v9 w9 own9 hg9 hnil9); obtain ⟨a9, c9, rfl⟩ := own_slice' own9; have hne9 : (Value.slice da n dc).ownBlock ≠ some xb := Lib.ownBlock_ne hown'.out hhd.out (by decide); have hh9 : w9.heap[xb]? = some (.cells #[.slice da n dc, .bool st.en, .bool st.bk] 44 (0, 0)) := (hg9.block xb (Array.getElem?_eq_some_iff.1 hhd.out).1 (fun e => hne9 e.symm)).trans hhd.out; have u0 : w9.cell? ⟨xb, 0, none⟩ = some (.slice da n dc) := (Has.ofHeap hh9).2.1 0; have y0 := (Has.ofHeap hh9).2.2 0; have hne8 : (Value.slice a9 (n + m) c9).ownBlock ≠ some xb := Lib.ownBlock_ne own9 hh9 (by decide); have hh8 : (w9.setCell ⟨xb, 0, none⟩ (.slice a9 (n + m) c9)).heap[xb]? = some (.cells #[(.slice a9 (n + m) c9), .bool st.en, .bool st.bk] 44 (0, 0)) := (by rw [heap_setCell_same w9 xb 0 _ 44 _ hh9]; rfl); have own8 := own_set (i := 0) (u := (.slice a9 (n + m) c9)) own9 (b := xb) hne8; have u2 : (w9.setCell ⟨xb, 0, none⟩ (.slice a9 (n + m) c9)).cell? ⟨xb, 2, none⟩ = some (.bool st.bk) := (Has.ofHeap hh8).2.1 2; have y2 := (Has.ofHeap hh8).2.2 2)
              have hB9 : Below B w (w9.setCell ⟨xb, 0, none⟩ (.slice a9 (n + m) c9)) := ((Below.refl B w).grown hg9 hBw (fun k hk => (own_lt hown'.out k hk).1)).setCell (p := ⟨xb, 0, none⟩) hBr _
              go_ret2
              have hh7 : ((w9.setCell ⟨xb, 0, none⟩ (.slice a9 (n + m) c9)).setCell ⟨xb, 2, none⟩ (.bool false)).heap[xb]? = some (.cells #[(.slice a9 (n + m) c9), .bool st.en, .bool false] 44 (0, 0)) := by
                rw [heap_setCell_same _ xb 2 _ 44 _ hh8]; rfl
              have own7 := own_set (i := 2) (u := .bool false) own8 (b := xb) hne8
              exact ⟨by rw [← hRS'.out]; exact ⟨rfl, (.slice a9 (n + m) c9), hh7, by show World.ownsRow _ _ _ _ _ (st.D ++ d).length (v8 (st.D ++ d)); rw [hDl.out, hDd.out]; exact own7, hBr, hd256.out⟩, hB9.setCell (p := ⟨xb, 2, none⟩) hBr _⟩
end Go.Proofs.Ytbgfeogigjjmdaa
