import Derived.Test.YtjohnhaahpggkabDoorJnA
import Derived.Test.YtjohnhaahpggkabDoorJnB
namespace Go.Proofs.YtjohnhaahpggkabDoor
open Go.RowKit
set_option linter.unusedVariables false
set_option linter.unusedSimpArgs false

/-- A list of tokens as it is read. -/
def Tqs (w : World) (v : Value) (L : List Tq) : Prop :=
  ∃ a cap, v = .slice a L.length cap ∧ (L = [] ∨ ∃ g o, a = some ⟨g, o, none⟩ ∧ g < w.heap.size ∧ ∀ (i : Nat) (h : i < L.length),
    w.cell? ⟨g, o + i * 5, none⟩ = some (.int .i64 L[i].k) ∧ w.cell? ⟨g, o + i * 5 + 1, none⟩ = some (.int .i32 L[i].n) ∧ w.cell? ⟨g, o + i * 5 + 2, none⟩ = some (.string L[i].tx) ∧ w.cell? ⟨g, o + i * 5 + 3, none⟩ = some (.int .i64 L[i].ln) ∧ w.cell? ⟨g, o + i * 5 + 4, none⟩ = some (.int .i64 L[i].cl))
def Tq.Ok (t : Tq) : Prop := (-2147483648 ≤ t.n ∧ t.n ≤ 2147483647) ∧ t.tx.size < 4611686018427387904
/-- May the token at i be written? -/
def okAt (L : List Tq) (i : Nat) : Bool := match L[i]? with | some t => okF t (decide (i + 1 = L.length)) | none => true
/-- The text of the first tokens. -/
def jnL (L : List Tq) : Nat → List UInt8
  | 0 => []
  | k + 1 => jnL L k ++ ((if k = 0 then [] else [32]) ++ (match L[k]? with | some t => (spF t).data.toList | none => []))
/-- What Join answers. -/
inductive Jn (L : List Tq) : List UInt8 → Int → Prop
  | bad (i : Nat) (h : i < L.length) (hb : okAt L i = false) : Jn L [] 25
  | long (k : Nat) (hk : k ≤ L.length) (ho : ∀ i, i < L.length → okAt L i = true) (he : ∀ i (h : i < L.length), i < k → L[i].k ≠ 0) (hl : 65536 < (jnL L k).length) : Jn L [] 20
  | fine (k : Nat) (hk : k ≤ L.length) (ho : ∀ i, i < L.length → okAt L i = true) (he : ∀ i (h : i < L.length), i < k → L[i].k ≠ 0) (hz : k = L.length ∨ ∃ h : k < L.length, L[k].k = 0) (hl : (jnL L k).length ≤ 65536) : Jn L (jnL L k) 0
theorem jnL_succ (L : List Tq) (k : Nat) (h : k < L.length) : jnL L (k + 1) = jnL L k ++ ((if k = 0 then [] else [32]) ++ (spF L[k]).data.toList) := by
  show jnL L k ++ _ = _
  rw [List.getElem?_eq_getElem h]
theorem okAt_at (L : List Tq) (k : Nat) (h : k < L.length) : okAt L k = okF L[k] (decide (k + 1 = L.length)) := by
  unfold okAt; rw [List.getElem?_eq_getElem h]

theorem Has.ofHeap {w : World} {b t : Nat} {vs : Array Value} (h : w.heap[b]? = some (.cells vs t (0, 0))) : Has w b vs := by
  refine ⟨(Array.getElem?_eq_some_iff.1 h).1, fun i => ?_, fun i => ?_⟩
  · simp [World.cell?, h]
  · simp [World.frozen?, h]
theorem byteCells_app (a b : List UInt8) : byteCells (bs (a ++ b)) = byteCells (bs a) ++ byteCells (bs b) := by unfold byteCells bs; simp
theorem bs_sz (l : List UInt8) : (bs l).size = l.length := by unfold bs; simp [ByteArray.size]
theorem libCells (l : List UInt8) : byteCells (bs l) = Lib.byteCells l := by unfold byteCells bs Lib.byteCells; simp

set_option maxRecDepth 100000 in
set_option maxHeartbeats 4000000 in
theorem join_any (L : List Tq) (v : Value) (w : World) (hT : Tqs w v L) (hok : ∀ t ∈ L, t.Ok) (hlen : L.length ≤ 4611686018427387904) (hW : Wt w) (hP : ∀ W, Below w.heap.size w W → Pw W) (hsz : ∀ t ∈ L, ∀ b, okF t b = true → (spF t).size ≤ 100) :
    Calls Tryd.prog 6 #[v] w fun e w' => (∃ B er, e = .returned (.tuple #[.string (bs B), .int .i64 er]) ∧ Jn L B er) ∧ Below w.heap.size w w' := by
  obtain ⟨a, cap, rfl, hc⟩ := hT
  have hWt : ∀ W, Below w.heap.size w W → Wt W := fun W hb => hW.below hb hW.1
  go_enter Tryd.func6, Tryd.ntmps6
  go_wp2
  go_loopw [11] (fun ti wr => ∃ k : Nat, ti = .int .i64 (k : Int) ∧ k ≤ L.length ∧ Hid (∀ i, i < k → okAt L i = true) ∧ Below w.heap.size w wr) (fun ti _ => L.length - (intOf ti).toNat)
  case atStart => exact ⟨0, rfl, by omega, fun i hi => by omega, Below.refl _ _⟩
  case round =>
    obtain ⟨k, rfl, hk, hall, hb⟩ := hrel
    by_cases hlt : k < L.length
    · have k1 : (k : Int) < (L.length : Int) := by omega
      have k0 : (0 : Int) ≤ (k : Int) := by omega
      obtain ⟨g, o, rfl, hg, hcs⟩ := hc.resolve_left (by intro h; rw [h] at hlt; simp at hlt)
      obtain ⟨p0, p1, p2, p3, p4⟩ := hcs k hlt
      rw [← hb.cell (p := ⟨g, _, none⟩) hg] at p0 p1 p2 p3 p4
      have hOA := okAt_at L k hlt
      have hCan := fun (l : Bool) W (hbw : Below w.heap.size w W) => can_any L[k] l W (hok _ (List.getElem_mem hlt)).2 (hWt W hbw)
      unfold Tq.v at hCan
      have hbz := hb.size
      have hbA := hb.alloc hbz (.cells #[.int .i64 L[k].k, .int .i32 L[k].n, .string L[k].tx, .int .i64 L[k].ln, .int .i64 L[k].cl] 27)
      have hsub : IntKind.i64.wrap ((L.length : Int) - 1) = (L.length : Int) - 1 := by rw [IntKind.wrap_i64]; omega
      by_cases hlast : k + 1 = L.length
      · have hl1 : decide ((k : Int) = (L.length : Int) - 1) = true := by simp; omega
        have hl2 : ((k : Int) == (L.length : Int) - 1) = true := by simp; omega
        have hC := hCan true _ hbA
        rw [show okF L[k] true = okAt L k by rw [hOA]; simp [hlast]] at hC
        clear hCan hOA hlast
        generalize L[k].k = x0 at *
        generalize L[k].n = x1 at *
        generalize L[k].tx = x2 at *
        generalize L[k].ln = x3 at *
        generalize L[k].cl = x4 at *
        cases hO : okAt L k
        · rw [hO] at hC
          go_wp2_with (go_at_call 14; (with_reducible refine hC.mono ?_); rintro e w1 ⟨rfl, hb1⟩)
          exact bodyPost_ret (v := .tuple #[.string ⟨#[]⟩, .int .i64 25]) (by simp [results, Tryd.results6, go_sem]) rfl ⟨⟨[], 25, rfl, .bad k hlt hO⟩, hbA.trans (hb1.mono hbA.size)⟩
        · rw [hO] at hC
          have HO := hid_of hO
          clear hO
          go_wp2_with (go_at_call 14; (with_reducible refine hC.mono ?_); rintro e w1 ⟨rfl, hb1⟩)
          go_roundw
          case rel =>
            refine ⟨k + 1, by go_num, by omega, fun i hi => ?_, hbA.trans (hb1.mono hbA.size)⟩
            by_cases e : i = k
            · subst e; exact HO.out
            · exact hall i (by omega)
          case measure => simp [intOf]; omega
      · have hl1 : decide ((k : Int) = (L.length : Int) - 1) = false := by simp; omega
        have hl2 : ((k : Int) == (L.length : Int) - 1) = false := by simp; omega
        have hC := hCan false _ hbA
        rw [show okF L[k] false = okAt L k by rw [hOA]; simp [hlast]] at hC
        clear hCan hOA hlast
        generalize L[k].k = x0 at *
        generalize L[k].n = x1 at *
        generalize L[k].tx = x2 at *
        generalize L[k].ln = x3 at *
        generalize L[k].cl = x4 at *
        cases hO : okAt L k
        · rw [hO] at hC
          go_wp2_with (go_at_call 14; (with_reducible refine hC.mono ?_); rintro e w1 ⟨rfl, hb1⟩)
          exact bodyPost_ret (v := .tuple #[.string ⟨#[]⟩, .int .i64 25]) (by simp [results, Tryd.results6, go_sem]) rfl ⟨⟨[], 25, rfl, .bad k hlt hO⟩, hbA.trans (hb1.mono hbA.size)⟩
        · rw [hO] at hC
          have HO := hid_of hO
          clear hO
          go_wp2_with (go_at_call 14; (with_reducible refine hC.mono ?_); rintro e w1 ⟨rfl, hb1⟩)
          go_roundw
          case rel =>
            refine ⟨k + 1, by go_num, by omega, fun i hi => ?_, hbA.trans (hb1.mono hbA.size)⟩
            by_cases e : i = k
            · subst e; exact HO.out
            · exact hall i (by omega)
          case measure => simp [intOf]; omega
    · have k1 : ¬ (k : Int) < (L.length : Int) := by omega
      have hAll : Hid (∀ i, i < L.length → okAt L i = true) := fun i hi => hall i (by omega)
      clear hall
      have hbz := hb.size
      go_wp2
      have hb2 := hb.alloc hbz (.cells #[.pointer none, .slice none 0 0] 52)
      have hIs := Lib.fresh_isBuilder 52 5 wr
      generalize hbb : wr.heap.size = bb at *
      generalize wr.alloc (.cells #[.pointer none, .slice none 0 0] 52) = U at *
      have hST : ∀ (W : World) (m : Nat), Lib.IsBuilder 52 5 bb bb (byteCells (bs (jnL L m))) W → bb ≤ W.heap.size → Calls Tryd.prog 19 #[.pointer (some ⟨bb, 0, none⟩)] W fun e w' => e = .returned (.string (bs (jnL L m))) ∧ Below bb W w' := fun W m h hz => by
        have := Tryd.Builder_String_any bb bb (jnL L m) W (by rw [← libCells]; exact h) hz
        exact this
      go_loopw [27] (fun ti wr => ∃ m : Nat, ti = .int .i64 (m : Int) ∧ m ≤ L.length ∧ Hid (∀ i (h : i < L.length), i < m → L[i].k ≠ 0) ∧ (jnL L m).length ≤ 65536 ∧ Lib.IsBuilder 52 5 bb bb (byteCells (bs (jnL L m))) wr ∧ Below w.heap.size w wr) (fun ti _ => L.length - (intOf ti).toNat)
      case atStart => exact ⟨0, rfl, by omega, fun i h hi => by omega, by simp [jnL], hIs, hb2⟩
      case round =>
        obtain ⟨m, rfl, hm, hk2, hjl, hI, hN⟩ := hrel
        have hbbw : bb < wr.heap.size := by
          rcases hI with h | h
          · exact h.lt
          · exact h.lt
        by_cases hmt : m < L.length
        · have m1 : (m : Int) < (L.length : Int) := by omega
          have m0 : (0 : Int) ≤ (m : Int) := by omega
          obtain ⟨g, o, rfl, hg, hcs⟩ := hc.resolve_left (by intro h; rw [h] at hmt; simp at hmt)
          obtain ⟨p0, p1, p2, p3, p4⟩ := hcs m hmt
          rw [← hN.cell (p := ⟨g, _, none⟩) hg] at p0 p1 p2 p3 p4
          have hmem := List.getElem_mem hmt
          have hss : (spF L[m]).size ≤ 100 := hsz _ hmem (decide (m + 1 = L.length)) (by rw [← okAt_at L m hmt]; exact hAll m hmt)
          have hSp := fun W (hb : Below w.heap.size w W) => spell_any L[m] W (hok _ hmem).1.1 (hok _ hmem).1.2 (hWt W hb) (fun X hx => hP X (hb.trans (hx.mono hb.size)))
          unfold Tq.v at hSp
          have hj1 := jnL_succ L m hmt
          have hcase : (L[m].k = 0 ∧ Hid (m = L.length ∨ ∃ h : m < L.length, L[m].k = 0)) ∨ (L[m].k ≠ 0 ∧ Hid (∀ i (h : i < L.length), i < m + 1 → L[i].k ≠ 0)) := by
            by_cases hx : L[m].k = 0
            · exact .inl ⟨hx, .inr ⟨hmt, hx⟩⟩
            · refine .inr ⟨hx, fun i hi hi2 => ?_⟩
              by_cases e : i = m
              · subst e; exact hx
              · exact hk2 i hi (by omega)
          generalize hsp : spF L[m] = sp at *
          generalize L[m].k = x0 at *
          generalize L[m].n = x1 at *
          generalize L[m].tx = x2 at *
          generalize L[m].ln = x3 at *
          generalize L[m].cl = x4 at *
          have hNA : Below w.heap.size w (wr.alloc (.cells #[.int .i64 x0, .int .i32 x1, .string x2, .int .i64 x3, .int .i64 x4] 27)) := hN.alloc hN.size _
          have hIA : Lib.IsBuilder 52 5 bb bb (byteCells (bs (jnL L m))) (wr.alloc (.cells #[.int .i64 x0, .int .i32 x1, .string x2, .int .i64 x3, .int .i64 x4] 27)) := isB_below hI ((Below.refl _ _).alloc (Nat.le_refl _) _)
          have hHA : (wr.alloc (.cells #[.int .i64 x0, .int .i32 x1, .string x2, .int .i64 x3, .int .i64 x4] 27)).heap[wr.heap.size]? = some (.cells #[.int .i64 x0, .int .i32 x1, .string x2, .int .i64 x3, .int .i64 x4] 27 (0, 0)) := heap_alloc_new wr _
          have hU1 : bb ≤ (wr.alloc (.cells #[.int .i64 x0, .int .i32 x1, .string x2, .int .i64 x3, .int .i64 x4] 27)).heap.size := by simp; omega
          rcases hcase with ⟨hx0, hz⟩ | ⟨hx0, hk3⟩
          · subst hx0
            clear hSp hj1
            go_wp2_with (go_at_call 19; (with_reducible refine (hST _ m hIA hU1).mono ?_); rintro e w5 ⟨rfl, hl5⟩)
            exact bodyPost_ret (v := .tuple #[.string (bs (jnL L m)), .int .i64 0]) (by simp [results, Tryd.results6, go_sem]) rfl ⟨⟨_, _, rfl, .fine m hm hAll hk2 hz.out hjl⟩, hNA.trans (hl5.mono hbz)⟩
          · have hLe : ∀ W, Lib.IsBuilder 52 5 bb bb (byteCells (bs (jnL L (m + 1)))) W → Calls Tryd.prog 18 #[.pointer (some ⟨bb, 0, none⟩)] W fun e w' => e = .returned (.int .i64 ((jnL L (m + 1)).length : Int)) ∧ w' = W := fun W h => by
              have := Tryd.Builder_Len bb bb _ W h
              rw [byteCells_length, bs_sz] at this
              exact this
            by_cases hm0 : m = 0
            · have hcat0 : Hid (byteCells (bs (jnL L m)) ++ byteCells sp = byteCells (bs (jnL L (m + 1)))) := by
                show _ = _
                rw [hj1, hm0]
                simp only [if_true, List.nil_append, byteCells_app]
                rfl
              have hWS0 := fun W h hz => writeString_any bb bb (byteCells (bs (jnL L m))) sp W h (by rw [byteCells_length, bs_sz]; omega) hz
              have hm0' : ¬ (0 : Int) < (m : Int) := by omega
              have hm1' : decide ((0 : Int) < (m : Int)) = false := by simp; omega
              clear hj1 hsp hm0
              go_wp2_with (first
                | (go_at_call 17; (with_reducible refine (hSp _ hNA).mono ?_); rintro e w2 ⟨rfl, hb2'⟩; have hI2 := isB_below hIA hb2'; have hN2 := hNA.trans (hb2'.mono hNA.size); have hU2 : bb ≤ w2.heap.size := Nat.le_trans hU1 hb2'.size)
                | (go_at_call 16; (with_reducible refine (hWS0 _ hI2 hU2).mono ?_); rintro e w3 ⟨rfl, hB3, hl3, hs3⟩; have hI3 : Lib.IsBuilder 52 5 bb bb (byteCells (bs (jnL L (m + 1)))) w3 := .inr (by rw [← hcat0.out]; exact hB3); have hN3 := hN2.trans (hl3.mono hbz))
                | (go_at_call 18; (with_reducible refine (hLe _ hI3).mono ?_); rintro e w4 ⟨rfl, hw4⟩; have hw4' := hw4.symm; subst hw4'))
              · exact bodyPost_ret (v := .tuple #[.string ⟨#[]⟩, .int .i64 20]) (by simp [results, Tryd.results6, go_sem]) rfl ⟨⟨[], 20, rfl, .long (m + 1) (by omega) hAll hk3.out (by omega)⟩, hN3⟩
              · go_roundw
                case rel => exact ⟨m + 1, by go_num, by omega, hk3, by omega, hI3, hN3⟩
                case measure => simp [intOf]; omega
            · have hcat1 : Hid (byteCells (bs (jnL L m)) ++ [.int .u8 32] ++ byteCells sp = byteCells (bs (jnL L (m + 1)))) := by
                show _ = _
                rw [hj1]
                simp only [if_neg hm0, byteCells_app, List.append_assoc]
                rfl
              have hWB := fun W h hz => writeByte_any bb bb (byteCells (bs (jnL L m))) 32 W h (by rw [byteCells_length, bs_sz]; omega) hz
              have hWS1 := fun W h hz => writeString_any bb bb (byteCells (bs (jnL L m)) ++ [.int .u8 32]) sp W h (by rw [List.length_append, byteCells_length, bs_sz]; simp; omega) hz
              have hm0' : (0 : Int) < (m : Int) := by omega
              clear hj1 hsp hm0
              go_wp2_with (first
                | (go_at_call 15; (with_reducible refine (hWB _ hIA hU1).mono ?_); rintro e w1 ⟨rfl, hB1, hl1, hs1⟩; have hI1 : Lib.IsBuilder 52 5 bb bb (byteCells (bs (jnL L m)) ++ [.int .u8 32]) w1 := .inr hB1; have hH1 := hs1 _ _ _ _ hHA (by decide) (by decide); obtain ⟨t0, T1, t2⟩ := id (Has.ofHeap hH1); have hN1 := hNA.trans (hl1.mono hbz); have hU1' : bb ≤ w1.heap.size := Nat.le_trans hU1 hl1.size)
                | (go_at_call 17; (with_reducible refine (hSp _ hN1).mono ?_); rintro e w2 ⟨rfl, hb2'⟩; have hI2 := isB_below hI1 hb2'; have hN2 := hN1.trans (hb2'.mono hN1.size); have hU2 : bb ≤ w2.heap.size := Nat.le_trans hU1' hb2'.size)
                | (go_at_call 16; (with_reducible refine (hWS1 _ hI2 hU2).mono ?_); rintro e w3 ⟨rfl, hB3, hl3, hs3⟩; have hI3 : Lib.IsBuilder 52 5 bb bb (byteCells (bs (jnL L (m + 1)))) w3 := .inr (by rw [← hcat1.out]; exact hB3); have hN3 := hN2.trans (hl3.mono hbz))
                | (go_at_call 18; (with_reducible refine (hLe _ hI3).mono ?_); rintro e w4 ⟨rfl, hw4⟩; have hw4' := hw4.symm; subst hw4'))
              · exact bodyPost_ret (v := .tuple #[.string ⟨#[]⟩, .int .i64 20]) (by simp [results, Tryd.results6, go_sem]) rfl ⟨⟨[], 20, rfl, .long (m + 1) (by omega) hAll hk3.out (by omega)⟩, hN3⟩
              · go_roundw
                case rel => exact ⟨m + 1, by go_num, by omega, hk3, by omega, hI3, hN3⟩
                case measure => simp [intOf]; omega
        · have m1 : ¬ (m : Int) < (L.length : Int) := by omega
          have hml : m = L.length := by omega
          have Hm := hid_of hml
          clear hml
          go_wp2_with (go_at_call 19; (with_reducible refine (hST _ m hI (Nat.le_of_lt hbbw)).mono ?_); rintro e w5 ⟨rfl, hl5⟩)
          exact bodyPost_ret (v := .tuple #[.string (bs (jnL L m)), .int .i64 0]) (by simp [results, Tryd.results6, go_sem]) rfl ⟨⟨_, _, rfl, .fine m hm hAll hk2 (.inl Hm.out) hjl⟩, hN.trans (hl5.mono hbz)⟩
end Go.Proofs.YtjohnhaahpggkabDoor
