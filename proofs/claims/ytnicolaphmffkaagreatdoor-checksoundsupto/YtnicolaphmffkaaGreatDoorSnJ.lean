import Derived.Test.YtnicolaphmffkaaGreatDoorSnI
import Derived.Test.YtnicolaphmffkaaGreatDoorGdA
import Derived.Test.YtnicolaphmffkaaGreatDoorMaD
namespace Go.Proofs.YtnicolaphmffkaaGreatDoor
open Go.RowKit
set_option linter.unusedVariables false
set_option linter.unusedSimpArgs false

structure Dt where
  name : ByteArray
  latch : Bool
  delay : Int
  hold : Int
def Dt.cs (x : Dt) : List Value := [.string x.name, .bool x.latch, .int .i64 x.delay, .int .i64 x.hold]
structure Vr where
  name : ByteArray
  init : Int
def Vr.cs (x : Vr) : List Value := [.string x.name, .int .i32 x.init]
def txC (s : ByteArray) : List Value := [.string s]
structure Tn where
  dst : Int
  wh : List Nd
structure Ts where
  name : ByteArray
  id : Int
  green : Int
  enter : List St
  during : List St
  leave : List St
  nexts : List Tn
def TnR (S : Nat → Prop) (w : World) (cs : List Value) (x : Tn) : Prop := ∃ v, cs = [.int .i64 x.dst, v] ∧ Exs S w v x.wh
def Tns := Rows 2 4398046511000 TnR
def TsR (S : Nat → Prop) (w : World) (cs : List Value) (x : Ts) : Prop := ∃ ve vd vl vn, cs = [.string x.name, .int .i64 x.id, .int .u64 x.green, ve, vd, vl, vn] ∧ Sts S w ve x.enter ∧ Sts S w vd x.during ∧ Sts S w vl x.leave ∧ Tns S w vn x.nexts
def Tss := Rows 7 1172812402961 TsR
/-- All names of a plan's things. -/
def nmsL (G : List Gp) (D : List Dt) (TM CT : List ByteArray) (VR : List Vr) (SG : List Ts) : List ByteArray := G.map (·.name) ++ D.map (·.name) ++ TM ++ CT ++ VR.map (·.name) ++ SG.map (·.name)
theorem cellsT_app (a b : List ByteArray) : cellsT (a ++ b) = cellsT a ++ cellsT b := by simp [cellsT]
theorem cellsT_F (a : List ByteArray) : cellsT a = cellsF txC a := by induction a with | nil => rfl | cons x a ih => simp only [cellsT, List.map_cons]; rw [show cellsF txC (x :: a) = [.string x] ++ cellsF txC a from by simp [cellsF, txC]]; rw [← ih]; rfl
theorem tx_len (x : ByteArray) : (txC x).length = 1 := rfl
theorem tx_one (x : ByteArray) : ∀ u ∈ txC x, u.oneCell' = true := all_one rfl
theorem take_map_succ {α : Type} (f : α → ByteArray) (L : List α) (k : Nat) (h : k < L.length) : (L.map f).take (k + 1) = (L.map f).take k ++ [f L[k]] := by
  rw [List.take_succ_eq_append_getElem (by simpa using h)]; simp
theorem own_form2 {w : World} {base e size n : Nat} {v : Value} {xs : List Value} (h : w.ownsRow base e size v n xs) : ∃ a c, v = .slice a n c ∧ n ≤ c := by
  by_cases h0 : 0 < n
  · obtain ⟨g, cap, e, hc, _⟩ := own_block h h0
    exact ⟨_, cap, e, hc⟩
  · rcases h.2 with ⟨h0', h1⟩ | ⟨g, cap, cur, h1, _⟩
    · exact ⟨none, 0, by rw [h0', h1], by omega⟩
    · exact ⟨_, _, h1, by omega⟩
/-- append(own, row...), where the row may be empty. -/
theorem wpList_more {P : Program} (w : World) {ops : Array Oper} {rest : List Oper} {o : Oper} {a : Act} {Q : Exit → Act → World → Prop}
    (hg : o.guard = none) (s x : Operand) (t : TypeId) (hop : o.op = Op.call { callee := Callee.builtin Builtin.append, args := #[s, x], argTypes := #[t, t] })
    (base : Nat) (e : TypeId) (i : TypeInfo) (z : Value) (size bytes : Nat) (h1 : P.underlying t = some (.slice e)) (h2 : P.info? e = some i) (h3 : i.zero = some z) (h4 : i.size = size) (h5 : i.bytes = bytes) (h6 : z.cells.size = size) (h7 : 0 < size)
    (v : Value) (n : Nat) (xs : List Value) (hs : a.eval s = v) (hown : w.ownsRow base e size v n xs)
    (va : Option Addr) (m c : Nat) (news : List Value) (hx : a.eval x = .slice va m c) (hn : news.length = m * size) (hva : va = none → m = 0) (hc : ∀ ad, va = some ad → ∀ j u, news[j]? = some u → w.cell? (ad.add j) = some u) (h1c : ∀ u ∈ news, u.oneCell' = true)
    (b1 : n + m ≤ maxLen) (b2 : (n + m) * bytes ≤ 140737488355328) (hbase : base ≤ w.heap.size)
    (hK : ∀ a' cap' w', w'.ownsRow base e size (.slice a' (n + m) cap') (n + m) (xs ++ news) → w.grownBy w' v.ownBlock → wpList P ops Q rest (a.put o.dst (.slice a' (n + m) cap')) w') :
    wpList P ops Q (o :: rest) a w := by
  rcases Nat.eq_zero_or_pos m with h0 | hm
  · subst h0
    have hnil : news = [] := List.length_eq_zero_iff.1 (by simpa using hn)
    subst hnil
    obtain ⟨a0, c0, hv, hle⟩ := own_form2 hown
    subst hv
    refine wpList_plain hg fun K hK' => ?_
    have hsrc : Src P i.size t (.slice va 0 c) 0 [] w := by
      cases va with
      | none => exact Src.ofNil w h1 c
      | some ad => exact Src.ofSlice w h1 ad 0 c [] (by simp) (fun j u hu => by simp at hu) (fun u hu => by cases hu)
    have hr := run_append_nothing (P := P) w t t o.type e i h1 h2 a0 n c0 hle (.slice va 0 c) hsrc
    unfold Oper.wp execOp
    simp only [hop, resolve, invoke, builtin, Sem.run_bind, Sem.run_pure, Result.andThen_ok, List.map_toArray, List.map_cons, List.map_nil, hs, hx, hr]
    exact hK' _ _ (hK a0 c0 w (by simpa using hown) ⟨rfl, rfl, rfl, Nat.le_refl _, fun _ _ _ => rfl⟩)
  · cases va with
    | none => exact absurd (hva rfl) (by omega)
    | some ad => exact wpList_append_mine w hg s x t hop base e i z size bytes h1 h2 h3 h4 h5 h6 h7 v n xs hs hown ad m c news hx hn (hc ad rfl) h1c hm b1 b2 hbase (fun g' c' w' q1 q2 _ _ _ => hK _ _ w' q1 q2)
theorem fl_none' {α : Type} {sz : Nat} {cs : α → List Value} {w : World} {va : Option Addr} {c : Nat} {L : List α} (h : Fl sz cs w (.slice va L.length c) L) : va = none → L.length = 0 := by
  intro e
  subst e
  rcases h with ⟨_, h⟩ | ⟨ad, cap, h, _⟩
  · rw [h]; rfl
  · cases h
theorem info9n : (Tryz.prog.info? 9).map (fun i => (i.zero, i.size, i.bytes)) = some (some (.string ⟨#[]⟩), 1, 16) := by kernel_rfl
/-- The names, in a row of the call's own. -/
def NmP (NL : List ByteArray) (w : World) (e : Ending) (w' : World) : Prop := ∃ xa xc, e = .returned (.slice xa NL.length xc) ∧ w'.ownsRow w.heap.size 9 1 (.slice xa NL.length xc) NL.length (cellsT NL)
set_option maxRecDepth 100000 in
set_option maxHeartbeats 8000000 in
theorem names_any (G : List Gp) (D : List Dt) (TM CT : List ByteArray) (VR : List Vr) (SG : List Ts) (pn : ByteArray) (ga ca da ta ka va sa : Option Addr) (gc nC cc dc tc kc vc sc : Nat) (stt : Int) (w : World) (hG : Fl 5 Gp.cs w (.slice ga G.length gc) G) (hD : Fl 4 Dt.cs w (.slice da D.length dc) D) (hT : Fl 1 txC w (.slice ta TM.length tc) TM) (hC : Fl 1 txC w (.slice ka CT.length kc) CT) (hV : Fl 2 Vr.cs w (.slice va VR.length vc) VR) (hS : Tss (fun _ => True) w (.slice sa SG.length sc) SG)
    (lG : G.length ≤ 64) (lD : D.length ≤ 64) (lT : TM.length ≤ 64) (lC : CT.length ≤ 64) (lV : VR.length ≤ 64) (lS : SG.length ≤ 256) :
    Calls Tryz.prog 65 #[(.agg #[.string pn, .slice ga G.length gc, .slice ca nC cc, .slice da D.length dc, .slice ta TM.length tc, .slice ka CT.length kc, .slice va VR.length vc, .slice sa SG.length sc, .int .i64 stt])] w fun e w' => NmP (nmsL G D TM CT VR SG) w e w' ∧ Below w.heap.size w w' := by
  obtain ⟨_, _, e1, kG⟩ := hG.any
  injection e1 with e1 _ e2
  subst e1
  subst e2
  obtain ⟨_, _, e1, kD⟩ := hD.any
  injection e1 with e1 _ e2
  subst e1
  subst e2
  obtain ⟨_, _, e1, kV⟩ := hV.any
  injection e1 with e1 _ e2
  subst e1
  subst e2
  obtain ⟨_, _, e1, _, kS⟩ := Rows.any hS
  injection e1 with e1 _ e2
  subst e1
  subst e2
  obtain ⟨ti, hi, hi0, hi1, hi2⟩ := info_parts info9n
  have hb0 : Below w.heap.size w (w.alloc (.cells #[.string pn, .slice ga G.length gc, .slice ca nC cc, .slice da D.length dc, .slice ta TM.length tc, .slice ka CT.length kc, .slice va VR.length vc, .slice sa SG.length sc, .int .i64 stt] 31)) := bel1 _
  have K0 : Has (w.alloc (.cells #[.string pn, .slice ga G.length gc, .slice ca nC cc, .slice da D.length dc, .slice ta TM.length tc, .slice ka CT.length kc, .slice va VR.length vc, .slice sa SG.length sc, .int .i64 stt] 31)) w.heap.size #[.string pn, .slice ga G.length gc, .slice ca nC cc, .slice da D.length dc, .slice ta TM.length tc, .slice ka CT.length kc, .slice va VR.length vc, .slice sa SG.length sc, .int .i64 stt] := Has.new _ _ _ rfl
  go_enter Tryz.func65, Tryz.ntmps65
  go_wp2_with fail
  generalize (w.alloc (.cells #[.string pn, .slice ga G.length gc, .slice ca nC cc, .slice da D.length dc, .slice ta TM.length tc, .slice ka CT.length kc, .slice va VR.length vc, .slice sa SG.length sc, .int .i64 stt] 31)) = W0 at *
  go_loopw [3, 16] (fun u i wr => ∃ (k n : Nat) (xa : Option Addr) (xc : Nat), k ≤ G.length ∧ n ≤ 576 ∧ u = .slice xa n xc ∧ i = .int .i64 (k : Int) ∧ Hid (n = 0 + k) ∧ Hid (wr.ownsRow W0.heap.size 9 1 (.slice xa n xc) n (cellsT (([] : List ByteArray) ++ (G.map (·.name)).take k))) ∧ Hid (Below W0.heap.size W0 wr)) (fun _ i _ => G.length - (intOf i).toNat)
  case atStart => exact ⟨0, 0, none, 0, by omega, by omega, rfl, rfl, rfl, World.ownsRow_nil _ _ _ _, Below.refl _ _⟩
  case round =>
    obtain ⟨k, n, xa, xc, hkl, hn, rfl, rfl, hnn, ow', hb'⟩ := hrel
    have ow := ow'.out
    have hb := hb'.out
    clear ow' hb'
    have hbB := bel_after hb0 hb0.size hb
    have KT := K0.below hb
    obtain ⟨_, t1, t2⟩ := id KT
    by_cases hlt : k < G.length
    case pos =>
      obtain ⟨g, o, rfl, hg, P⟩ := kG.resolve_left (by intro e; rw [e] at hlt; simp at hlt)
      have p0 := (hbB.cell (p := ⟨g, _, none⟩) hg).trans (P k hlt 0 _ rfl)
      have p1 := (hbB.cell (p := ⟨g, _, none⟩) hg).trans (P k hlt 1 _ rfl)
      have p2 := (hbB.cell (p := ⟨g, _, none⟩) hg).trans (P k hlt 2 _ rfl)
      have p3 := (hbB.cell (p := ⟨g, _, none⟩) hg).trans (P k hlt 3 _ rfl)
      have p4 := (hbB.cell (p := ⟨g, _, none⟩) hg).trans (P k hlt 4 _ rfl)
      simp only [Nat.add_zero] at p0
      have s1 : (k : Int) < (G.length : Int) := by omega
      have s0 : (0 : Int) ≤ (k : Int) := by omega
      have hnx : cellsT (([] : List ByteArray) ++ (G.map (·.name)).take (k + 1)) = cellsT (([] : List ByteArray) ++ (G.map (·.name)).take k) ++ [.string G[k].name] := by rw [take_map_succ (fun x => x.name) G k hlt, ← List.append_assoc, cellsT_app]; rfl
      generalize cellsT (([] : List ByteArray) ++ (G.map (·.name)).take k) = XS at *
      clear P
      generalize G[k].name = x0 at *
      generalize G[k].sort = x1 at *
      generalize G[k].min = x2 at *
      generalize G[k].amber = x3 at *
      generalize G[k].lead = x4 at *
      have hbN := hb.alloc hb.size (.cells #[.string x0, .int .i64 x1, .int .i64 x2, .int .i64 x3, .int .i64 x4] 90)
      have oN := own_bel ow (bel1 (.cells #[.string x0, .int .i64 x1, .int .i64 x2, .int .i64 x3, .int .i64 x4] 90))
      go_wp2_with (at_builtin; (refine wpList_append_mine _ rfl _ _ 27 rfl W0.heap.size 9 ti _ 1 16 Tryz.underlying27 hi hi0 hi1 hi2 rfl (by decide) (.slice xa n xc) n XS rfl (own_bel oN (bel1 _)) ⟨wr.heap.size + 1, 0, none⟩ 1 1 [.string x0] rfl rfl (cells_at (W := wr.alloc (.cells #[.string x0, .int .i64 x1, .int .i64 x2, .int .i64 x3, .int .i64 x4] 90)) (b := wr.heap.size + 1) (by simp) _ _) (all_one rfl) (by decide) (by unfold maxLen; omega) (by omega) (by have := hb.size; simp; omega) ?_); intro g' c' y o3 gr _ _ _; have b3 := grown_bel (hbN.alloc hbN.size _) gr (Nat.le_refl _) (fun q hq => (own_lt oN q hq).1))
      go_roundw
      case rel => exact ⟨k + 1, n + 1, _, _, by omega, (by have := hnn.out; omega), rfl, by go_num, (by show _ = _; have := hnn.out; omega), (by show World.ownsRow _ _ _ _ _ _ _; rw [hnx]; exact o3), b3⟩
      case measure => simp [intOf]; omega
    case neg =>
      have s1 : ¬ (k : Int) < (G.length : Int) := by omega
      obtain rfl : k = G.length := by omega
      rw [List.take_of_length_le (by simp)] at ow
      rw [List.nil_append] at ow
      go_wp2_with fail
      go_loopw [3, 29] (fun u i wr => ∃ (k n : Nat) (xa : Option Addr) (xc : Nat), k ≤ D.length ∧ n ≤ 576 ∧ u = .slice xa n xc ∧ i = .int .i64 (k : Int) ∧ Hid (n = G.length + k) ∧ Hid (wr.ownsRow W0.heap.size 9 1 (.slice xa n xc) n (cellsT (G.map (·.name) ++ (D.map (·.name)).take k))) ∧ Hid (Below W0.heap.size W0 wr)) (fun _ i _ => D.length - (intOf i).toNat)
      case atStart => exact ⟨0, n, _, _, by omega, (by have := hnn.out; omega), rfl, rfl, (by show _ = _; have := hnn.out; omega), (by show World.ownsRow _ _ _ _ _ _ _; rw [List.take_zero, List.append_nil]; exact ow), hb⟩
      case round =>
        obtain ⟨k, n, xa, xc, hkl, hn, rfl, rfl, hnn, ow', hb'⟩ := hrel
        have ow := ow'.out
        have hb := hb'.out
        clear ow' hb'
        have hbB := bel_after hb0 hb0.size hb
        have KT := K0.below hb
        obtain ⟨_, t1, t2⟩ := id KT
        by_cases hlt : k < D.length
        case pos =>
          obtain ⟨g, o, rfl, hg, P⟩ := kD.resolve_left (by intro e; rw [e] at hlt; simp at hlt)
          have p0 := (hbB.cell (p := ⟨g, _, none⟩) hg).trans (P k hlt 0 _ rfl)
          have p1 := (hbB.cell (p := ⟨g, _, none⟩) hg).trans (P k hlt 1 _ rfl)
          have p2 := (hbB.cell (p := ⟨g, _, none⟩) hg).trans (P k hlt 2 _ rfl)
          have p3 := (hbB.cell (p := ⟨g, _, none⟩) hg).trans (P k hlt 3 _ rfl)
          simp only [Nat.add_zero] at p0
          have s1 : (k : Int) < (D.length : Int) := by omega
          have s0 : (0 : Int) ≤ (k : Int) := by omega
          have hnx : cellsT (G.map (·.name) ++ (D.map (·.name)).take (k + 1)) = cellsT (G.map (·.name) ++ (D.map (·.name)).take k) ++ [.string D[k].name] := by rw [take_map_succ (fun x => x.name) D k hlt, ← List.append_assoc, cellsT_app]; rfl
          generalize cellsT (G.map (·.name) ++ (D.map (·.name)).take k) = XS at *
          clear P
          generalize D[k].name = x0 at *
          generalize D[k].latch = x1 at *
          generalize D[k].delay = x2 at *
          generalize D[k].hold = x3 at *
          have hbN := hb.alloc hb.size (.cells #[.string x0, .bool x1, .int .i64 x2, .int .i64 x3] 98)
          have oN := own_bel ow (bel1 (.cells #[.string x0, .bool x1, .int .i64 x2, .int .i64 x3] 98))
          go_wp2_with (at_builtin; (refine wpList_append_mine _ rfl _ _ 27 rfl W0.heap.size 9 ti _ 1 16 Tryz.underlying27 hi hi0 hi1 hi2 rfl (by decide) (.slice xa n xc) n XS rfl (own_bel oN (bel1 _)) ⟨wr.heap.size + 1, 0, none⟩ 1 1 [.string x0] rfl rfl (cells_at (W := wr.alloc (.cells #[.string x0, .bool x1, .int .i64 x2, .int .i64 x3] 98)) (b := wr.heap.size + 1) (by simp) _ _) (all_one rfl) (by decide) (by unfold maxLen; omega) (by omega) (by have := hb.size; simp; omega) ?_); intro g' c' y o3 gr _ _ _; have b3 := grown_bel (hbN.alloc hbN.size _) gr (Nat.le_refl _) (fun q hq => (own_lt oN q hq).1))
          go_roundw
          case rel => exact ⟨k + 1, n + 1, _, _, by omega, (by have := hnn.out; omega), rfl, by go_num, (by show _ = _; have := hnn.out; omega), (by show World.ownsRow _ _ _ _ _ _ _; rw [hnx]; exact o3), b3⟩
          case measure => simp [intOf]; omega
        case neg =>
          have s1 : ¬ (k : Int) < (D.length : Int) := by omega
          obtain rfl : k = D.length := by omega
          rw [List.take_of_length_le (by simp)] at ow
          have hTw : ∀ X : World, Below w.heap.size w X → ∀ ad, ta = some ad → ∀ j u, (cellsF txC TM)[j]? = some u → X.cell? (ad.add j) = some u := fun X hX ad e => by subst e; exact Fl.news tx_len (by decide) (hT.below hX)
          have hCw : ∀ X : World, Below w.heap.size w X → ∀ ad, ka = some ad → ∀ j u, (cellsF txC CT)[j]? = some u → X.cell? (ad.add j) = some u := fun X hX ad e => by subst e; exact Fl.news tx_len (by decide) (hC.below hX)
          have hTn := fl_none' hT
          have hCn := fl_none' hC
          have hcat : cellsT (G.map (·.name) ++ D.map (·.name)) ++ cellsF txC TM ++ cellsF txC CT = cellsT (G.map (·.name) ++ D.map (·.name) ++ TM ++ CT) := by rw [cellsT_app _ CT, cellsT_app _ TM, cellsT_F TM, cellsT_F CT]
          have hsz := hb.size
          generalize cellsT (G.map (·.name) ++ D.map (·.name)) = XS at *
          go_wp2_with (first
            | (at_builtin; (refine wpList_more _ rfl _ _ 27 rfl W0.heap.size 9 ti _ 1 16 Tryz.underlying27 hi hi0 hi1 hi2 rfl (by decide) (.slice xa n xc) n XS rfl ow ta TM.length tc (cellsF txC TM) rfl (cellsF_len tx_len TM) hTn (hTw _ (by exact hbB)) (cellsF_one tx_one TM) (by unfold maxLen; omega) (by omega) hsz ?_); intro a6 c6 w6 o6 gr6; have b6 := grown_bel hb gr6 (Nat.le_refl _) (fun q hq => (own_lt ow q hq).1); have hb6 := bel_after hb0 hb0.size b6; have hs6 := b6.size; have KT6 := K0.below b6; obtain ⟨_, u1, u2⟩ := id KT6)
            | (at_builtin; (refine wpList_more _ rfl _ _ 27 rfl W0.heap.size 9 ti _ 1 16 Tryz.underlying27 hi hi0 hi1 hi2 rfl (by decide) (.slice a6 (n + TM.length) c6) (n + TM.length) (XS ++ cellsF txC TM) rfl o6 ka CT.length kc (cellsF txC CT) rfl (cellsF_len tx_len CT) hCn (hCw _ (by exact hb6)) (cellsF_one tx_one CT) (by unfold maxLen; omega) (by omega) hs6 ?_); intro a7 c7 w7 o5 gr7; have b5 := grown_bel b6 gr7 (Nat.le_refl _) (fun q hq => (own_lt o6 q hq).1); have KT7 := K0.below b5; obtain ⟨_, v1, v2⟩ := id KT7))
          rw [hcat] at o5
          go_loopw [3, 50] (fun u i wr => ∃ (k n : Nat) (xa : Option Addr) (xc : Nat), k ≤ VR.length ∧ n ≤ 576 ∧ u = .slice xa n xc ∧ i = .int .i64 (k : Int) ∧ Hid (n = G.length + D.length + TM.length + CT.length + k) ∧ Hid (wr.ownsRow W0.heap.size 9 1 (.slice xa n xc) n (cellsT (G.map (·.name) ++ D.map (·.name) ++ TM ++ CT ++ (VR.map (·.name)).take k))) ∧ Hid (Below W0.heap.size W0 wr)) (fun _ i _ => VR.length - (intOf i).toNat)
          case atStart => exact ⟨0, n + TM.length + CT.length, _, _, by omega, (by have := hnn.out; omega), rfl, rfl, (by show _ = _; have := hnn.out; omega), (by show World.ownsRow _ _ _ _ _ _ _; rw [List.take_zero, List.append_nil]; exact o5), b5⟩
          case round =>
            obtain ⟨k, n, xa, xc, hkl, hn, rfl, rfl, hnn, ow', hb'⟩ := hrel
            have ow := ow'.out
            have hb := hb'.out
            clear ow' hb'
            have hbB := bel_after hb0 hb0.size hb
            have KT := K0.below hb
            obtain ⟨_, t1, t2⟩ := id KT
            by_cases hlt : k < VR.length
            case pos =>
              obtain ⟨g, o, rfl, hg, P⟩ := kV.resolve_left (by intro e; rw [e] at hlt; simp at hlt)
              have p0 := (hbB.cell (p := ⟨g, _, none⟩) hg).trans (P k hlt 0 _ rfl)
              have p1 := (hbB.cell (p := ⟨g, _, none⟩) hg).trans (P k hlt 1 _ rfl)
              simp only [Nat.add_zero] at p0
              have s1 : (k : Int) < (VR.length : Int) := by omega
              have s0 : (0 : Int) ≤ (k : Int) := by omega
              have hnx : cellsT (G.map (·.name) ++ D.map (·.name) ++ TM ++ CT ++ (VR.map (·.name)).take (k + 1)) = cellsT (G.map (·.name) ++ D.map (·.name) ++ TM ++ CT ++ (VR.map (·.name)).take k) ++ [.string VR[k].name] := by rw [take_map_succ (fun x => x.name) VR k hlt, ← List.append_assoc, cellsT_app]; rfl
              generalize cellsT (G.map (·.name) ++ D.map (·.name) ++ TM ++ CT ++ (VR.map (·.name)).take k) = XS at *
              clear P
              generalize VR[k].name = x0 at *
              generalize VR[k].init = x1 at *
              have hbN := hb.alloc hb.size (.cells #[.string x0, .int .i32 x1] 76)
              have oN := own_bel ow (bel1 (.cells #[.string x0, .int .i32 x1] 76))
              go_wp2_with (at_builtin; (refine wpList_append_mine _ rfl _ _ 27 rfl W0.heap.size 9 ti _ 1 16 Tryz.underlying27 hi hi0 hi1 hi2 rfl (by decide) (.slice xa n xc) n XS rfl (own_bel oN (bel1 _)) ⟨wr.heap.size + 1, 0, none⟩ 1 1 [.string x0] rfl rfl (cells_at (W := wr.alloc (.cells #[.string x0, .int .i32 x1] 76)) (b := wr.heap.size + 1) (by simp) _ _) (all_one rfl) (by decide) (by unfold maxLen; omega) (by omega) (by have := hb.size; simp; omega) ?_); intro g' c' y o3 gr _ _ _; have b3 := grown_bel (hbN.alloc hbN.size _) gr (Nat.le_refl _) (fun q hq => (own_lt oN q hq).1))
              go_roundw
              case rel => exact ⟨k + 1, n + 1, _, _, by omega, (by have := hnn.out; omega), rfl, by go_num, (by show _ = _; have := hnn.out; omega), (by show World.ownsRow _ _ _ _ _ _ _; rw [hnx]; exact o3), b3⟩
              case measure => simp [intOf]; omega
            case neg =>
              have s1 : ¬ (k : Int) < (VR.length : Int) := by omega
              obtain rfl : k = VR.length := by omega
              rw [List.take_of_length_le (by simp)] at ow
              go_wp2_with fail
              go_loopw [3, 63] (fun u i wr => ∃ (k n : Nat) (xa : Option Addr) (xc : Nat), k ≤ SG.length ∧ n ≤ 576 ∧ u = .slice xa n xc ∧ i = .int .i64 (k : Int) ∧ Hid (n = G.length + D.length + TM.length + CT.length + VR.length + k) ∧ Hid (wr.ownsRow W0.heap.size 9 1 (.slice xa n xc) n (cellsT (G.map (·.name) ++ D.map (·.name) ++ TM ++ CT ++ VR.map (·.name) ++ (SG.map (·.name)).take k))) ∧ Hid (Below W0.heap.size W0 wr)) (fun _ i _ => SG.length - (intOf i).toNat)
              case atStart => exact ⟨0, n, _, _, by omega, (by have := hnn.out; omega), rfl, rfl, (by show _ = _; have := hnn.out; omega), (by show World.ownsRow _ _ _ _ _ _ _; rw [List.take_zero, List.append_nil]; exact ow), hb⟩
              case round =>
                obtain ⟨k, n, xa, xc, hkl, hn, rfl, rfl, hnn, ow', hb'⟩ := hrel
                have ow := ow'.out
                have hb := hb'.out
                clear ow' hb'
                have hbB := bel_after hb0 hb0.size hb
                have KT := K0.below hb
                obtain ⟨_, t1, t2⟩ := id KT
                by_cases hlt : k < SG.length
                case pos =>
                  obtain ⟨g, o, rfl, _, hg, P⟩ := kS.resolve_left (by intro e; rw [e] at hlt; simp at hlt)
                  obtain ⟨cs, _, ⟨ve, vd, vl, vn, rfl, q1, q2, q3, q4⟩, P2⟩ := P k hlt
                  obtain ⟨a1, b1, rfl, -⟩ := Rows.any q1
                  obtain ⟨a2, b2, rfl, -⟩ := Rows.any q2
                  obtain ⟨a3, b3', rfl, -⟩ := Rows.any q3
                  obtain ⟨a4, b4, rfl, -⟩ := Rows.any q4
                  have p0 := (hbB.cell (p := ⟨g, _, none⟩) hg).trans (P2 0 _ rfl)
                  have p1 := (hbB.cell (p := ⟨g, _, none⟩) hg).trans (P2 1 _ rfl)
                  have p2 := (hbB.cell (p := ⟨g, _, none⟩) hg).trans (P2 2 _ rfl)
                  have p3 := (hbB.cell (p := ⟨g, _, none⟩) hg).trans (P2 3 _ rfl)
                  have p4 := (hbB.cell (p := ⟨g, _, none⟩) hg).trans (P2 4 _ rfl)
                  have p5 := (hbB.cell (p := ⟨g, _, none⟩) hg).trans (P2 5 _ rfl)
                  have p6 := (hbB.cell (p := ⟨g, _, none⟩) hg).trans (P2 6 _ rfl)
                  simp only [Nat.add_zero] at p0
                  have s1 : (k : Int) < (SG.length : Int) := by omega
                  have s0 : (0 : Int) ≤ (k : Int) := by omega
                  have hnx : cellsT (G.map (·.name) ++ D.map (·.name) ++ TM ++ CT ++ VR.map (·.name) ++ (SG.map (·.name)).take (k + 1)) = cellsT (G.map (·.name) ++ D.map (·.name) ++ TM ++ CT ++ VR.map (·.name) ++ (SG.map (·.name)).take k) ++ [.string SG[k].name] := by rw [take_map_succ (fun x => x.name) SG k hlt, ← List.append_assoc, cellsT_app]; rfl
                  generalize cellsT (G.map (·.name) ++ D.map (·.name) ++ TM ++ CT ++ VR.map (·.name) ++ (SG.map (·.name)).take k) = XS at *
                  clear P P2 q1 q2 q3 q4
                  generalize SG[k].name = x0 at *
                  generalize SG[k].id = x1 at *
                  generalize SG[k].green = x2 at *
                  generalize SG[k].enter.length = y0 at *
                  generalize SG[k].during.length = y1 at *
                  generalize SG[k].leave.length = y2 at *
                  generalize SG[k].nexts.length = y3 at *
                  have hbN := hb.alloc hb.size (.cells #[.string x0, .int .i64 x1, .int .u64 x2, .slice a1 y0 b1, .slice a2 y1 b2, .slice a3 y2 b3', .slice a4 y3 b4] 81)
                  have oN := own_bel ow (bel1 (.cells #[.string x0, .int .i64 x1, .int .u64 x2, .slice a1 y0 b1, .slice a2 y1 b2, .slice a3 y2 b3', .slice a4 y3 b4] 81))
                  go_wp2_with (at_builtin; (refine wpList_append_mine _ rfl _ _ 27 rfl W0.heap.size 9 ti _ 1 16 Tryz.underlying27 hi hi0 hi1 hi2 rfl (by decide) (.slice xa n xc) n XS rfl (own_bel oN (bel1 _)) ⟨wr.heap.size + 1, 0, none⟩ 1 1 [.string x0] rfl rfl (cells_at (W := wr.alloc (.cells #[.string x0, .int .i64 x1, .int .u64 x2, .slice a1 y0 b1, .slice a2 y1 b2, .slice a3 y2 b3', .slice a4 y3 b4] 81)) (b := wr.heap.size + 1) (by simp) _ _) (all_one rfl) (by decide) (by unfold maxLen; omega) (by omega) (by have := hb.size; simp; omega) ?_); intro g' c' y o3 gr _ _ _; have b3 := grown_bel (hbN.alloc hbN.size _) gr (Nat.le_refl _) (fun q hq => (own_lt oN q hq).1))
                  go_roundw
                  case rel => exact ⟨k + 1, n + 1, _, _, by omega, (by have := hnn.out; omega), rfl, by go_num, (by show _ = _; have := hnn.out; omega), (by show World.ownsRow _ _ _ _ _ _ _; rw [hnx]; exact o3), b3⟩
                  case measure => simp [intOf]; omega
                case neg =>
                  have s1 : ¬ (k : Int) < (SG.length : Int) := by omega
                  obtain rfl : k = SG.length := by omega
                  rw [List.take_of_length_le (by simp)] at ow
                  have hnV : Hid (n = (nmsL G D TM CT VR SG).length) := by show _ = _; have := hnn.out; unfold nmsL; simp; omega
                  have ow2 : wr.ownsRow W0.heap.size 9 1 (.slice xa n xc) n (cellsT (nmsL G D TM CT VR SG)) := ow
                  clear ow hnn
                  go_wp2_with fail
                  go_ret
                  exact ⟨⟨xa, xc, by rw [← hnV.out]; rfl, (by rw [← hnV.out]; exact own_mono ow2 hb0.size)⟩, hbB⟩
end Go.Proofs.YtnicolaphmffkaaGreatDoor
