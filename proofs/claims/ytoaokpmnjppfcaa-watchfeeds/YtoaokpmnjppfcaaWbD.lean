import Derived.Deep.DeepCutAuto
import Derived.Deep.CutBlock
import Derived.Test.YtoaokpmnjppfcaaWbABC
namespace Go.Proofs.Ytoaokpmnjppfcaa
open Go.RowKit
set_option linter.unusedVariables false
set_option linter.unusedSimpArgs false

/-- A list that is read in a block outside N. -/
def FlN {α : Type} (sz : Nat) (cs : α → List Value) (N : Nat → Prop) (w : World) (v : Value) (L : List α) : Prop :=
  ∃ a cap, v = .slice a L.length cap ∧ (L = [] ∨ ∃ g o, a = some ⟨g, o, none⟩ ∧ g < w.heap.size ∧ ¬ N g ∧ ∀ (i : Nat) (h : i < L.length) (j : Nat) (u : Value), (cs L[i])[j]? = some u → w.cell? ⟨g, o + i * sz + j, none⟩ = some u)
theorem FlN.move {α : Type} {sz : Nat} {cs : α → List Value} {N N' S : Nat → Prop} {w w' : World} {v : Value} {L : List α} (h : FlN sz cs N w v L) (ho : Only S w w') (hS : ∀ q, v.ownBlock = some q → q < w.heap.size → ¬ N q → ¬ S q ∧ ¬ N' q) : FlN sz cs N' w' v L := by
  obtain ⟨a, cap, rfl, h⟩ := h
  refine ⟨a, cap, rfl, ?_⟩
  rcases h with h | ⟨g, o, rfl, h1, h2, h3⟩
  · exact .inl h
  · obtain ⟨k1, k2⟩ := hS g rfl h1 h2
    exact .inr ⟨g, o, rfl, Nat.lt_of_lt_of_le h1 ho.size, k2, fun i hi j u hu => by rw [ho.cell h1 k1]; exact h3 i hi j u hu⟩
/-- The blocks of a reference monitor that change. -/
def Dyn (b rb : Nat) (vn vt : Value) (q : Nat) : Prop := q = b ∨ q = rb ∨ vn.ownBlock = some q ∨ vt.ownBlock = some q
/-- Block b holds a monitor of the reference's. -/
structure Rm (w : World) (b rb : Nat) (vg vc vn vt : Value) (G : List Gp) (C : List Cf) (tk : Int) (la : ByteArray) (ru gn : Nat → Int) (tr : Al) (L : List Al) : Prop where
  ob : Has w b #[vg, vc, .int .i64 tk, .string la, .slice (some ⟨rb, 0, none⟩) G.length G.length, vn, .int .i64 tr.k, .int .i64 tr.t, .int .i64 tr.a, .int .i64 tr.b, vt]
  run : Has w rb (rwA n64 G.length ru)
  grn : w.ownsRow 0 3 1 vn G.length (cellsF n64 ((List.range G.length).map gn))
  tol : w.ownsRow 0 43 4 vt L.length (cellsF Al.cs L)
  gr : FlN 5 Gp.cs (Dyn b rb vn vt) w vg G
  cf : FlN 4 Cf.cs (Dyn b rb vn vt) w vc C
  d1 : b ≠ rb
  d2 : vn.ownBlock ≠ some b ∧ vn.ownBlock ≠ some rb
  d3 : vt.ownBlock ≠ some b ∧ vt.ownBlock ≠ some rb
  d4 : ∀ q, vn.ownBlock = some q → vt.ownBlock ≠ some q
theorem Rm.move {w w' : World} {S : Nat → Prop} {b rb : Nat} {vg vc vn vt : Value} {G : List Gp} {C : List Cf} {tk : Int} {la : ByteArray} {ru gn : Nat → Int} {tr : Al} {L : List Al} (h : Rm w b rb vg vc vn vt G C tk la ru gn tr L) (ho : Only S w w') (h1 : ∀ q, Dyn b rb vn vt q → ¬ S q) (h2 : ∀ q, vg.ownBlock = some q ∨ vc.ownBlock = some q → ¬ S q) : Rm w' b rb vg vc vn vt G C tk la ru gn tr L :=
  ⟨h.ob.only ho (h1 b (.inl rfl)), h.run.only ho (h1 rb (.inr (.inl rfl))), own_only2 h.grn ho (fun q hq => h1 q (.inr (.inr (.inl hq)))), own_only2 h.tol ho (fun q hq => h1 q (.inr (.inr (.inr hq)))), h.gr.move ho (fun q hq _ hN => ⟨h2 q (.inl hq), hN⟩), h.cf.move ho (fun q hq _ hN => ⟨h2 q (.inr hq), hN⟩), h.d1, h.d2, h.d3, h.d4⟩
theorem Rm.below {w w' : World} {b rb : Nat} {vg vc vn vt : Value} {G : List Gp} {C : List Cf} {tk : Int} {la : ByteArray} {ru gn : Nat → Int} {tr : Al} {L : List Al} (h : Rm w b rb vg vc vn vt G C tk la ru gn tr L) (hb : Below w.heap.size w w') : Rm w' b rb vg vc vn vt G C tk la ru gn tr L :=
  h.move (only_of_below hb) (fun _ _ h => h) (fun _ _ h => h)
theorem Rm.vs {w : World} {b rb : Nat} {vg vc vn vt : Value} {G : List Gp} {C : List Cf} {tk : Int} {la : ByteArray} {ru gn : Nat → Int} {tr : Al} {L : List Al} (h : Rm w b rb vg vc vn vt G C tk la ru gn tr L) : (∃ a c, vg = .slice a G.length c) ∧ (∃ a c, vc = .slice a C.length c) ∧ (∃ a c, vn = .slice a G.length c) ∧ ∃ a c, vt = .slice a L.length c := by
  obtain ⟨a, c, rfl, _⟩ := h.gr
  obtain ⟨a', c', rfl, _⟩ := h.cf
  exact ⟨⟨_, _, rfl⟩, ⟨_, _, rfl⟩, own_form h.grn, own_form h.tol⟩
/-- What stands while a group is looked at. -/
structure GS (w wx : World) (pa : Nat) (g : Gp) (k : Nat) (tk : Int) : Prop where
  rs : Has wx w.heap.size #[.int .i64 0, .int .i64 0, .int .i64 0, .int .i64 0]
  gb : Has wx (w.heap.size + 1) #[.string g.name, .int .i64 g.sort, .int .i64 g.min, .int .i64 g.amber, .int .i64 g.lead]
  al : Has wx pa #[.int .i64 0, .int .i64 tk, .int .i64 k, .int .i64 (-1)]
  p1 : w.heap.size + 2 ≤ pa
  be : Below w.heap.size w wx
theorem GS.below {w wx wy : World} {pa : Nat} {g : Gp} {k : Nat} {tk : Int} (h : GS w wx pa g k tk) (hb : Below wx.heap.size wx wy) : GS w wy pa g k tk :=
  ⟨h.rs.below hb, h.gb.below hb, h.al.below hb, h.p1, h.be.trans (hb.mono h.be.size)⟩
theorem belR {w wr : World} {p : Nat} (be : Below w.heap.size w wr) (hp : w.heap.size ≤ p) (x0 x1 x2 x3 : Value) : Below w.heap.size w ((((wr.setCell ⟨p, 0, none⟩ x0).setCell ⟨p, 1, none⟩ x1).setCell ⟨p, 2, none⟩ x2).setCell ⟨p, 3, none⟩ x3) :=
  (((be.setCell (p := ⟨p, 0, none⟩) hp _).setCell (p := ⟨p, 1, none⟩) hp _).setCell (p := ⟨p, 2, none⟩) hp _).setCell (p := ⟨p, 3, none⟩) hp _

set_option maxRecDepth 100000 in
set_option maxHeartbeats 8000000 in
theorem group_any {w : World} {b rb : Nat} {vg vc vn vt : Value} {G : List Gp} {C : List Cf} {tk : Int} {la : ByteArray} {ru gn : Nat → Int} {tr : Al} {L : List Al} (hm : Rm w b rb vg vc vn vt G C tk la ru gn tr L) (k : Nat) (c : Int) (l : Lm) (hk : k < G.length) (n64 : G.length ≤ 64) (h0 : 0 ≤ tk) (hp : 0 < tk → k < la.size ∧ ltr la k = l.ch) (hl : ru k = l.lo) (hlo : 0 ≤ l.lo ∧ l.lo ≤ 4611686018427387904) (hg3 : 0 ≤ (G.getD k gp0).amber ∧ (G.getD k gp0).amber ≤ 3600 ∧ 0 ≤ (G.getD k gp0).lead ∧ (G.getD k gp0).lead ≤ 3600) :
    Calls Try.prog 45 #[.pointer (some ⟨b, 0, none⟩), .int .i64 (k : Int), .int .u8 c] w fun e w' => e = .returned (.agg #[.int .i64 (gaF (G.getD k gp0) k tk l c).k, .int .i64 (gaF (G.getD k gp0) k tk l c).t, .int .i64 (gaF (G.getD k gp0) k tk l c).a, .int .i64 (gaF (G.getD k gp0) k tk l c).b]) ∧ Below w.heap.size w w' := by
  obtain ⟨⟨ga, gc, e1⟩, ⟨ca, qc, e2⟩, ⟨na, nc, e3⟩, ta, tc, e4⟩ := hm.vs
  obtain ⟨a0, c0, e0, kG⟩ := hm.gr
  have h57 := fun W => oneOf_any tk k W
  have eg : G.getD k gp0 = G[k] := by rw [List.getD_eq_getElem?_getD, List.getElem?_eq_getElem hk]; rfl
  obtain ⟨g0, o0, ea, hg0, -, P⟩ := kG.resolve_left (by intro e; rw [e] at hk; simp at hk)
  have p0 := P k hk 0 _ rfl
  have p1 := P k hk 1 _ rfl
  have p2 := P k hk 2 _ rfl
  have p3 := P k hk 3 _ rfl
  have p4 := P k hk 4 _ rfl
  simp only [Nat.add_zero] at p0
  rw [← eg] at p0 p1 p2 p3 p4
  have h58 := fun W => follows_any (G.getD k gp0).name (G.getD k gp0).sort (G.getD k gp0).min (G.getD k gp0).amber (G.getD k gp0).lead l.ch c W
  have rr : w.cell? ⟨rb, k, none⟩ = some (.int .i64 l.lo) := by
    have := hm.run.reads (i := k) (v := .int .i64 (ru k)) (by
      have := rwA_get n64_len G.length ru hk (j := 0) (by decide)
      rw [Nat.mul_one, Nat.add_zero] at this
      rw [this]; rfl)
    rwa [hl] at this
  have MB := hm.ob
  have hbl := hm.ob.1
  have hrl := hm.run.1
  rw [e1] at e0 MB
  injection e0 with e0a e0b e0c
  subst e0a
  rw [ea] at MB e1
  rw [e2, e3, e4] at MB
  obtain ⟨g, eg'⟩ : ∃ g, G.getD k gp0 = g := ⟨_, rfl⟩
  rw [eg'] at p0 p1 p2 p3 p4 h58 hg3 ⊢
  obtain ⟨n, hn⟩ : ∃ n, G.length = n := ⟨_, rfl⟩
  have hki : (k : Int) < (n : Int) := by omega
  rw [hn] at MB
  clear P kG eg eg' ea e0b e0c e1 e2 e3 e4 hl
  have XB : Below w.heap.size w ((w.alloc (.cells #[.int .i64 0, .int .i64 0, .int .i64 0, .int .i64 0] 43)).alloc (.cells #[.string g.name, .int .i64 g.sort, .int .i64 g.min, .int .i64 g.amber, .int .i64 g.lead] 66)) := belA
  have X1 : Has ((w.alloc (.cells #[.int .i64 0, .int .i64 0, .int .i64 0, .int .i64 0] 43)).alloc (.cells #[.string g.name, .int .i64 g.sort, .int .i64 g.min, .int .i64 g.amber, .int .i64 g.lead] 66)) w.heap.size #[.int .i64 0, .int .i64 0, .int .i64 0, .int .i64 0] := (Has.new _ _ _ rfl).alloc _
  have X2 : Has ((w.alloc (.cells #[.int .i64 0, .int .i64 0, .int .i64 0, .int .i64 0] 43)).alloc (.cells #[.string g.name, .int .i64 g.sort, .int .i64 g.min, .int .i64 g.amber, .int .i64 g.lead] 66)) (w.heap.size + 1) #[.string g.name, .int .i64 g.sort, .int .i64 g.min, .int .i64 g.amber, .int .i64 g.lead] := Has.new _ _ _ (by simp)
  have MB0 := (MB.alloc (.cells #[.int .i64 0, .int .i64 0, .int .i64 0, .int .i64 0] 43)).alloc (.cells #[.string g.name, .int .i64 g.sort, .int .i64 g.min, .int .i64 g.amber, .int .i64 g.lead] 66)
  obtain ⟨_, j1, _⟩ := id MB
  have hfin : ∀ e, e = gaF g k tk l c → Hid (e = gaF g k tk l c) := fun e h => h
  clear hm
  go_enter Try.func45, Try.ntmps45
  go_upto_region 2 with fail
  generalize ((w.alloc (.cells #[.int .i64 0, .int .i64 0, .int .i64 0, .int .i64 0] 43)).alloc (.cells #[.string g.name, .int .i64 g.sort, .int .i64 g.min, .int .i64 g.amber, .int .i64 g.lead] 66)) = V at *
  have q2 := (XB.cell (p := ⟨rb, k, none⟩) hrl).trans rr
  have hVs : rb < V.heap.size := by have := X1.1; omega
  clear p0 p1 p2 p3 p4 j1 rr MB
  have MB := MB0
  clear MB0
  obtain ⟨_, j1, _⟩ := id MB
  go_upto_if 29 with (go_at_call 57; (with_reducible refine Calls.mono (h57 _) ?_); rintro e w2 ⟨rfl, hb⟩; replace XB := XB.trans (hb.mono XB.size); replace X1 := X1.below hb; replace X2 := X2.below hb; replace MB := MB.below hb; replace q2 := (hb.cell (p := ⟨rb, k, none⟩) hVs).trans q2; clear hb j1; obtain ⟨_, j1, _⟩ := id MB)
  have hS : GS w (w2.alloc (.cells #[.int .i64 0, .int .i64 tk, .int .i64 k, .int .i64 (-1)] 43)) w2.heap.size g k tk := ⟨X1.alloc _, X2.alloc _, Has.new _ _ _ rfl, by have := X2.1; omega, XB.alloc XB.size _⟩
  replace MB := MB.alloc (.cells #[.int .i64 0, .int .i64 tk, .int .i64 k, .int .i64 (-1)] 43)
  replace q2 := (belN1 (o1 := .cells #[.int .i64 0, .int .i64 tk, .int .i64 k, .int .i64 (-1)] 43)).cell (p := ⟨rb, k, none⟩) (show rb < w2.heap.size by have := X2.1; omega) |>.trans q2
  clear X1 X2 XB h57 j1 hVs
  generalize w2.heap.size = pa at *
  generalize (w2.alloc (.cells #[.int .i64 0, .int .i64 tk, .int .i64 k, .int .i64 (-1)] 43)) = w3 at *
  obtain ⟨_, j1, _⟩ := id MB
  have ne1 : w.heap.size ≠ pa := by have := hS.p1; omega
  obtain ⟨_, i1, f1⟩ := id hS.al
  obtain ⟨_, i2, _⟩ := id hS.gb
  obtain ⟨_, i3, f3⟩ := id hS.rs
  by_cases ht : tk = 0
  · by_cases hc : c = 114
    · have eF : gaF g k tk l c = al0 := by unfold gaF; rw [if_pos ht, if_pos hc]
      rw [eF] at hfin
      have g1 : (tk == 0) = true := by simp [ht]
      have g2 : (c != 114) = false := by simp [hc]
      have hv : ∀ (W : World), Ending.returned (.agg #[.int .i64 0, .int .i64 0, .int .i64 0, .int .i64 0]) = .returned (.agg #[.int .i64 (gaF g k tk l c).k, .int .i64 (gaF g k tk l c).t, .int .i64 (gaF g k tk l c).a, .int .i64 (gaF g k tk l c).b]) := fun _ => by rw [eF]; rfl
      clear ht hc eF hfin
      go_wp2
      exact bodyPost_ret (v := .agg #[.int .i64 0, .int .i64 0, .int .i64 0, .int .i64 0]) (by simp [results, Try.results45, go_sem, i3]) rfl ⟨hv w, belR hS.be (Nat.le_refl _) _ _ _ _⟩
    · have eF : gaF g k tk l c = ⟨2, tk, k, -1⟩ := by unfold gaF; rw [if_pos ht, if_neg hc]
      have g1 : (tk == 0) = true := by simp [ht]
      have g2 : (c != 114) = true := by simpa using hc
      have hv : ∀ (W : World), Ending.returned (.agg #[.int .i64 2, .int .i64 tk, .int .i64 k, .int .i64 (-1)]) = .returned (.agg #[.int .i64 (gaF g k tk l c).k, .int .i64 (gaF g k tk l c).t, .int .i64 (gaF g k tk l c).a, .int .i64 (gaF g k tk l c).b]) := fun _ => by rw [eF]
      clear ht hc eF hfin
      go_wp2
      exact bodyPost_ret (v := .agg #[.int .i64 2, .int .i64 tk, .int .i64 k, .int .i64 (-1)]) (by simp [results, Try.results45, go_sem, i3]) rfl ⟨hv w, belR (hS.be.setCell (p := ⟨pa, 0, none⟩) (by show w.heap.size ≤ pa; have := hS.p1; omega) _) (Nat.le_refl _) _ _ _ _⟩
  · have htk : 0 < tk := by omega
    obtain ⟨hks, hch⟩ := hp htk
    have hksi : (k : Int) < la.size := by omega
    have hlt := ltr_get la k hks
    have eF : gaF g k tk l c = if (!decide (l.ch = c) && !flB g l.ch c) = true then ⟨3, tk, k, -1⟩ else if (decide (l.ch = 97) && (!decide (c = 97) && decide ((if l.ch = c then l.lo + 1 else l.lo) < g.amber)) || decide (c = 97) && (decide (l.ch = 97) && decide ((if l.ch = c then l.lo + 1 else l.lo) = g.amber + 1))) = true then ⟨4, tk, k, -1⟩ else if (decide (l.ch = 108) && (!decide (c = 108) && decide ((if l.ch = c then l.lo + 1 else l.lo) < g.lead)) || decide (c = 108) && (decide (l.ch = 108) && decide ((if l.ch = c then l.lo + 1 else l.lo) = g.lead + 1))) = true then ⟨5, tk, k, -1⟩ else if (decide (l.ch = 103) && (!decide (c = 103) && decide ((if l.ch = c then l.lo + 1 else l.lo) < g.min))) = true then ⟨6, tk, k, -1⟩ else al0 := by unfold gaF; rw [if_neg ht]
    have g1 : (tk == 0) = false := beq_eq_false_iff_ne.2 ht
    have hw1 : IntKind.i64.wrap (l.lo + 1) = l.lo + 1 := wrap64 _ (by omega)
    have hw2 : IntKind.i64.wrap (g.amber + 1) = g.amber + 1 := wrap64 _ (by omega)
    have hw3 : IntKind.i64.wrap (g.lead + 1) = g.lead + 1 := wrap64 _ (by omega)
    rw [hch] at hlt
    have eF' : Hid (gaF g k tk l c = if (!decide (l.ch = c) && !flB g l.ch c) = true then ⟨3, tk, k, -1⟩ else if (decide (l.ch = 97) && (!decide (c = 97) && decide ((if l.ch = c then l.lo + 1 else l.lo) < g.amber)) || decide (c = 97) && (decide (l.ch = 97) && decide ((if l.ch = c then l.lo + 1 else l.lo) = g.amber + 1))) = true then ⟨4, tk, k, -1⟩ else if (decide (l.ch = 108) && (!decide (c = 108) && decide ((if l.ch = c then l.lo + 1 else l.lo) < g.lead)) || decide (c = 108) && (decide (l.ch = 108) && decide ((if l.ch = c then l.lo + 1 else l.lo) = g.lead + 1))) = true then ⟨5, tk, k, -1⟩ else if (decide (l.ch = 103) && (!decide (c = 103) && decide ((if l.ch = c then l.lo + 1 else l.lo) < g.min))) = true then ⟨6, tk, k, -1⟩ else al0) := eF
    have hlt' : Hid (((la[k]'hks).toNat : Int) = l.ch) := hlt
    clear eF hch hp ht hlt hfin
    go_upto_if 50 with fail
    generalize hp0 : ((la[k]'hks).toNat : Int) = p at *
    have hpl : Hid (p = l.ch) := hlt'.out
    have h58' : ∀ W, Calls Try.prog 58 #[.agg #[.string g.name, .int .i64 g.sort, .int .i64 g.min, .int .i64 g.amber, .int .i64 g.lead], .int .u8 p, .int .u8 c] W fun e w' => e = .returned (.bool (flB g p c)) ∧ Below W.heap.size W w' := by rw [hpl.out]; exact h58
    obtain ⟨lg, hlg⟩ : ∃ lg : Int, (if p = c then l.lo + 1 else l.lo) = lg := ⟨_, rfl⟩
    have hlg' : Hid ((if p = c then l.lo + 1 else l.lo) = lg) := hlg
    rw [← hpl.out] at eF'
    clear hlg hp0 hlt' h58
    go_cut [10] (fun s wx => s = .int .i64 lg ∧ wx = w3)
    case first =>
      by_cases hpc : p = c
      · have e : l.lo + 1 = lg := by have := hlg'.out; rwa [if_pos hpc] at this
        have gg : (p == c) = true := by simp [hpc]
        clear hpc hlg'
        go_wp2
        go_meet
        exact ⟨by first | rfl | rw [e], rfl⟩
      · have e : l.lo = lg := by have := hlg'.out; rwa [if_neg hpc] at this
        have gg : (p == c) = false := beq_eq_false_iff_ne.2 hpc
        clear hpc hlg'
        go_wp2
        go_meet
        exact ⟨by first | rfl | rw [e], rfl⟩
    case rest =>
    obtain ⟨rfl, rfl⟩ := hcut
    have eF2 : Hid (gaF g k tk l c = if (!decide (p = c) && !flB g p c) = true then ⟨3, tk, k, -1⟩ else if (decide (p = 97) && (!decide (c = 97) && decide (lg < g.amber)) || decide (c = 97) && (decide (p = 97) && decide (lg = g.amber + 1))) = true then ⟨4, tk, k, -1⟩ else if (decide (p = 108) && (!decide (c = 108) && decide (lg < g.lead)) || decide (c = 108) && (decide (p = 108) && decide (lg = g.lead + 1))) = true then ⟨5, tk, k, -1⟩ else if (decide (p = 103) && (!decide (c = 103) && decide (lg < g.min))) = true then ⟨6, tk, k, -1⟩ else al0) := by rw [← hlg'.out]; exact eF'.out
    clear eF' hlg' hw1 q2 j1 MB hlo
    generalize hFL : flB g p c = FL at *
    clear hFL
    have fin : ∀ (kd : Int) (hv : gaF g k tk l c = ⟨kd, tk, k, -1⟩), Ending.returned (.agg #[.int .i64 kd, .int .i64 tk, .int .i64 k, .int .i64 (-1)]) = .returned (.agg #[.int .i64 (gaF g k tk l c).k, .int .i64 (gaF g k tk l c).t, .int .i64 (gaF g k tk l c).a, .int .i64 (gaF g k tk l c).b]) := fun kd hv => by rw [hv]
    obtain ⟨C3v, hC3⟩ : ∃ q : Bool, (!decide (p = c) && !FL) = q := ⟨_, rfl⟩
    have hC3' : Hid ((!decide (p = c) && !FL) = C3v) := hC3
    rw [hC3] at eF2
    clear hC3
    go_upto_region 13 with fail
    go_cut [54] (fun s wx => s = .bool C3v ∧ GS w wx pa g k tk)
    case first =>
      by_cases hpc : p = c
      · have gg : (p != c) = false := by simp [hpc]
        have e : C3v = false := by have := hC3'.out; rw [← this]; simp [hpc]
        have e' : Hid (C3v = false) := e
        clear hpc hC3' e
        go_wp2
        go_meet
        exact ⟨by rw [e'.out], hS⟩
      · have gg : (p != c) = true := by simpa using hpc
        have e : C3v = !FL := by have := hC3'.out; rw [← this]; simp [hpc]
        have e' : Hid (C3v = !FL) := e
        clear hpc hC3' e
        go_wp2_with (go_at_call 58; (with_reducible refine Calls.mono (h58' _) ?_); rintro e w5 ⟨rfl, hb⟩; replace hS := hS.below hb; clear hb i1 i2 i3 f1 f3; obtain ⟨_, i1, f1⟩ := id hS.al; obtain ⟨_, i2, _⟩ := id hS.gb; obtain ⟨_, i3, f3⟩ := id hS.rs)
        go_meet
        exact ⟨by rw [e'.out], hS⟩
    case rest =>
    clear hS i1 i2 i3 f1 f3 hC3' h58'
    obtain ⟨rfl, hS⟩ := hcut
    obtain ⟨_, i1, f1⟩ := id hS.al
    obtain ⟨_, i2, _⟩ := id hS.gb
    obtain ⟨_, i3, f3⟩ := id hS.rs
    cases C3v with
    | true =>
      have hv := fin 3 (by rw [eF2.out, if_pos rfl])
      clear eF2 fin
      go_wp2
      exact bodyPost_ret (v := .agg #[.int .i64 3, .int .i64 tk, .int .i64 k, .int .i64 (-1)]) (by simp [results, Try.results45, go_sem, i3, ne1]) rfl ⟨hv, belR (hS.be.setCell (p := ⟨pa, 0, none⟩) (by show w.heap.size ≤ pa; have := hS.p1; omega) _) (Nat.le_refl _) _ _ _ _⟩
    | false =>
    have eF3 : Hid (gaF g k tk l c = if (decide (p = 97) && (!decide (c = 97) && decide (lg < g.amber)) || decide (c = 97) && (decide (p = 97) && decide (lg = g.amber + 1))) = true then ⟨4, tk, k, -1⟩ else if (decide (p = 108) && (!decide (c = 108) && decide (lg < g.lead)) || decide (c = 108) && (decide (p = 108) && decide (lg = g.lead + 1))) = true then ⟨5, tk, k, -1⟩ else if (decide (p = 103) && (!decide (c = 103) && decide (lg < g.min))) = true then ⟨6, tk, k, -1⟩ else al0) := by have := eF2.out; rwa [if_neg (by decide)] at this
    clear eF2
    obtain ⟨Cv, hC0⟩ : ∃ q : Bool, (decide (p = 97) && (!decide (c = 97) && decide (lg < g.amber)) || decide (c = 97) && (decide (p = 97) && decide (lg = g.amber + 1))) = q := ⟨_, rfl⟩
    have hC : Hid (Cv = (decide (p = 97) && (!decide (c = 97) && decide (lg < g.amber)) || decide (c = 97) && (decide (p = 97) && decide (lg = g.amber + 1)))) := hC0.symm
    rw [hC0] at eF3
    clear hC0
    go_upto_region 15 with fail
    go_cut [66] (fun s wx => s = .bool Cv ∧ GS w wx pa g k tk)
    case first =>
      by_cases hp : p = 97
      · subst hp
        by_cases hc : c = 97
        · subst hc
          have eC : Hid (Cv = decide (lg = g.amber + 1)) := by show _ = _; rw [hC.out]; simp
          clear hC
          go_wp2
          go_meet
          exact ⟨congrArg Value.bool (by rw [eC.out, Bool.eq_iff_iff]; simp), hS⟩
        · have g1 : (c == 97) = false := beq_eq_false_iff_ne.2 hc
          have g2 : (c != 97) = true := by simpa using hc
          have eC : Hid (Cv = decide (lg < g.amber)) := by show _ = _; rw [hC.out]; simp [hc]
          clear hC hc
          by_cases hlg : lg < g.amber
          · have d1 : Hid (true = Cv) := by show _ = _; rw [eC.out]; simp [hlg]
            clear eC
            go_wp2
            go_meet
            exact ⟨congrArg Value.bool d1.out, hS⟩
          · have d1 : Hid (false = Cv) := by show _ = _; rw [eC.out]; simp [hlg]
            clear eC
            go_wp2
            go_meet
            exact ⟨congrArg Value.bool d1.out, hS⟩
      · have g3 : (p == 97) = false := beq_eq_false_iff_ne.2 hp
        have d1 : Hid (false = Cv) := by show _ = _; rw [hC.out]; simp [hp]
        clear hC hp
        by_cases hc : c = 97
        · subst hc
          go_wp2
          go_meet
          exact ⟨congrArg Value.bool d1.out, hS⟩
        · have g1 : (c == 97) = false := beq_eq_false_iff_ne.2 hc
          clear hc
          go_wp2
          go_meet
          exact ⟨congrArg Value.bool d1.out, hS⟩

    case rest =>
    clear hS i1 i2 i3 f1 f3 hC
    obtain ⟨rfl, hS⟩ := hcut
    obtain ⟨_, i1, f1⟩ := id hS.al
    obtain ⟨_, i2, _⟩ := id hS.gb
    obtain ⟨_, i3, f3⟩ := id hS.rs
    cases Cv with
    | true =>
      have hv := fin 4 (by rw [eF3.out, if_pos rfl])
      clear eF3 fin
      go_wp2
      exact bodyPost_ret (v := .agg #[.int .i64 4, .int .i64 tk, .int .i64 k, .int .i64 (-1)]) (by simp [results, Try.results45, go_sem, i3, ne1]) rfl ⟨hv, belR (hS.be.setCell (p := ⟨pa, 0, none⟩) (by show w.heap.size ≤ pa; have := hS.p1; omega) _) (Nat.le_refl _) _ _ _ _⟩
    | false =>
    have eF4 : Hid (gaF g k tk l c = if (decide (p = 108) && (!decide (c = 108) && decide (lg < g.lead)) || decide (c = 108) && (decide (p = 108) && decide (lg = g.lead + 1))) = true then ⟨5, tk, k, -1⟩ else if (decide (p = 103) && (!decide (c = 103) && decide (lg < g.min))) = true then ⟨6, tk, k, -1⟩ else al0) := by have := eF3.out; rwa [if_neg (by decide)] at this
    clear eF3
    obtain ⟨Cv, hC0⟩ : ∃ q : Bool, (decide (p = 108) && (!decide (c = 108) && decide (lg < g.lead)) || decide (c = 108) && (decide (p = 108) && decide (lg = g.lead + 1))) = q := ⟨_, rfl⟩
    have hC : Hid (Cv = (decide (p = 108) && (!decide (c = 108) && decide (lg < g.lead)) || decide (c = 108) && (decide (p = 108) && decide (lg = g.lead + 1)))) := hC0.symm
    rw [hC0] at eF4
    clear hC0
    go_upto_region 17 with fail
    go_cut [95] (fun s wx => s = .bool Cv ∧ GS w wx pa g k tk)
    case first =>
      by_cases hp : p = 108
      · subst hp
        by_cases hc : c = 108
        · subst hc
          have eC : Hid (Cv = decide (lg = g.lead + 1)) := by show _ = _; rw [hC.out]; simp
          clear hC
          go_wp2
          go_meet
          exact ⟨congrArg Value.bool (by rw [eC.out, Bool.eq_iff_iff]; simp), hS⟩
        · have g1 : (c == 108) = false := beq_eq_false_iff_ne.2 hc
          have g2 : (c != 108) = true := by simpa using hc
          have eC : Hid (Cv = decide (lg < g.lead)) := by show _ = _; rw [hC.out]; simp [hc]
          clear hC hc
          by_cases hlg : lg < g.lead
          · have d1 : Hid (true = Cv) := by show _ = _; rw [eC.out]; simp [hlg]
            clear eC
            go_wp2
            go_meet
            exact ⟨congrArg Value.bool d1.out, hS⟩
          · have d1 : Hid (false = Cv) := by show _ = _; rw [eC.out]; simp [hlg]
            clear eC
            go_wp2
            go_meet
            exact ⟨congrArg Value.bool d1.out, hS⟩
      · have g3 : (p == 108) = false := beq_eq_false_iff_ne.2 hp
        have d1 : Hid (false = Cv) := by show _ = _; rw [hC.out]; simp [hp]
        clear hC hp
        by_cases hc : c = 108
        · subst hc
          go_wp2
          go_meet
          exact ⟨congrArg Value.bool d1.out, hS⟩
        · have g1 : (c == 108) = false := beq_eq_false_iff_ne.2 hc
          clear hc
          go_wp2
          go_meet
          exact ⟨congrArg Value.bool d1.out, hS⟩

    case rest =>
    clear hS i1 i2 i3 f1 f3 hC
    obtain ⟨rfl, hS⟩ := hcut
    obtain ⟨_, i1, f1⟩ := id hS.al
    obtain ⟨_, i2, _⟩ := id hS.gb
    obtain ⟨_, i3, f3⟩ := id hS.rs
    cases Cv with
    | true =>
      have hv := fin 5 (by rw [eF4.out, if_pos rfl])
      clear eF4 fin
      go_wp2
      exact bodyPost_ret (v := .agg #[.int .i64 5, .int .i64 tk, .int .i64 k, .int .i64 (-1)]) (by simp [results, Try.results45, go_sem, i3, ne1]) rfl ⟨hv, belR (hS.be.setCell (p := ⟨pa, 0, none⟩) (by show w.heap.size ≤ pa; have := hS.p1; omega) _) (Nat.le_refl _) _ _ _ _⟩
    | false =>
    have eF5 : Hid (gaF g k tk l c = if (decide (p = 103) && (!decide (c = 103) && decide (lg < g.min))) = true then ⟨6, tk, k, -1⟩ else al0) := by have := eF4.out; rwa [if_neg (by decide)] at this
    clear eF4
    by_cases hp : p = 103
    · subst hp
      by_cases hc : c = 103
      · subst hc
        have hv : Ending.returned (.agg #[.int .i64 0, .int .i64 0, .int .i64 0, .int .i64 0]) = .returned (.agg #[.int .i64 (gaF g k tk l 103).k, .int .i64 (gaF g k tk l 103).t, .int .i64 (gaF g k tk l 103).a, .int .i64 (gaF g k tk l 103).b]) := by rw [eF5.out]; simp [al0]
        clear eF5 fin
        go_wp2
        exact bodyPost_ret (v := .agg #[.int .i64 0, .int .i64 0, .int .i64 0, .int .i64 0]) (by simp [results, Try.results45, go_sem, i3]) rfl ⟨hv, belR hS.be (Nat.le_refl _) _ _ _ _⟩
      · have g1 : (c != 103) = true := by simpa using hc
        by_cases hlg : lg < g.min
        · have hv := fin 6 (by rw [eF5.out]; simp [hc, hlg])
          clear eF5 fin hc
          go_wp2
          exact bodyPost_ret (v := .agg #[.int .i64 6, .int .i64 tk, .int .i64 k, .int .i64 (-1)]) (by simp [results, Try.results45, go_sem, i3, ne1]) rfl ⟨hv, belR (hS.be.setCell (p := ⟨pa, 0, none⟩) (by show w.heap.size ≤ pa; have := hS.p1; omega) _) (Nat.le_refl _) _ _ _ _⟩
        · have hv : Ending.returned (.agg #[.int .i64 0, .int .i64 0, .int .i64 0, .int .i64 0]) = .returned (.agg #[.int .i64 (gaF g k tk l c).k, .int .i64 (gaF g k tk l c).t, .int .i64 (gaF g k tk l c).a, .int .i64 (gaF g k tk l c).b]) := by rw [eF5.out]; simp [hlg, al0]
          clear eF5 fin hc
          go_wp2
          exact bodyPost_ret (v := .agg #[.int .i64 0, .int .i64 0, .int .i64 0, .int .i64 0]) (by simp [results, Try.results45, go_sem, i3]) rfl ⟨hv, belR hS.be (Nat.le_refl _) _ _ _ _⟩
    · have g3 : (p == 103) = false := beq_eq_false_iff_ne.2 hp
      have hv : Ending.returned (.agg #[.int .i64 0, .int .i64 0, .int .i64 0, .int .i64 0]) = .returned (.agg #[.int .i64 (gaF g k tk l c).k, .int .i64 (gaF g k tk l c).t, .int .i64 (gaF g k tk l c).a, .int .i64 (gaF g k tk l c).b]) := by rw [eF5.out]; simp [hp, al0]
      clear eF5 fin hp
      go_wp2
      exact bodyPost_ret (v := .agg #[.int .i64 0, .int .i64 0, .int .i64 0, .int .i64 0]) (by simp [results, Try.results45, go_sem, i3]) rfl ⟨hv, belR hS.be (Nat.le_refl _) _ _ _ _⟩

end Go.Proofs.Ytoaokpmnjppfcaa
