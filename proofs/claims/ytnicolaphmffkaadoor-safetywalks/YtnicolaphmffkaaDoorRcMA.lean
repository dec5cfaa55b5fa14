import Derived.Test.YtnicolaphmffkaaDoorSnJ
namespace Go.Proofs.YtnicolaphmffkaaDoor
open Go.RowKit
set_option linter.unusedVariables false
set_option linter.unusedSimpArgs false

/-- Is a stage marked? -/
def sn (S : List Bool) (i : Nat) : Bool := S.getD i false
/-- How many are not. -/
def unN (S : List Bool) : Nat := S.countP (fun x => !x)
theorem unN_set : ∀ (S : List Bool) (i : Nat), i < S.length → sn S i = false → unN (S.set i true) + 1 = unN S
  | [], i, h, _ => by simp at h
  | x :: S, 0, _, h => by
    have : x = false := h
    subst this
    simp [unN]
  | x :: S, i + 1, h, hf => by
    have ih := unN_set S i (by simpa using h) hf
    simp only [List.set_cons_succ, unN, List.countP_cons] at ih ⊢
    omega
theorem sn_set (S : List Bool) (i j : Nat) (h : i < S.length) : sn (S.set i true) j = (decide (i = j) || sn S j) := by
  unfold sn
  simp only [List.getD_eq_getElem?_getD]
  by_cases e : i = j
  · subst e; simp [h]
  · simp [List.getElem?_set_ne e, e]
theorem unN_rep : ∀ n : Nat, unN (List.replicate n false) = n
  | 0 => rfl
  | n + 1 => by
    have ih := unN_rep n
    simp only [List.replicate_succ, unN, List.countP_cons] at ih ⊢
    simp only [ih]; rfl
theorem sn_rep (n i : Nat) : sn (List.replicate n false) i = false := by
  unfold sn; simp only [List.getD_eq_getElem?_getD, List.getElem?_replicate]; split <;> rfl
/-- What stands while the stages are walked: those behind p's first m ways are seen. -/
structure RJ (n st : Nat) (N : Nat → List Nat) (p m : Nat) (S : List Bool) (W : List Nat) : Prop where
  len : S.length = n
  beg : sn S st = true
  mine : sn S p = true
  wk : ∀ i ∈ W, i < n ∧ sn S i = true
  cl : ∀ i, sn S i = true → i ∈ W ∨ ∀ j ∈ (if i = p then (N p).take m else N i), sn S j = true
  le : ∀ C : Nat → Prop, C st → (∀ i, C i → ∀ j ∈ N i, C j) → ∀ i, sn S i = true → C i
  ms : unN S + W.length ≤ n
/-- What stands between the rounds. -/
structure RI (n st : Nat) (N : Nat → List Nat) (S : List Bool) (W : List Nat) : Prop where
  len : S.length = n
  beg : sn S st = true
  wk : ∀ i ∈ W, i < n ∧ sn S i = true
  cl : ∀ i, sn S i = true → i ∈ W ∨ ∀ j ∈ N i, sn S j = true
  le : ∀ C : Nat → Prop, C st → (∀ i, C i → ∀ j ∈ N i, C j) → ∀ i, sn S i = true → C i
  ms : unN S + W.length ≤ n
theorem RI.first (n st : Nat) (N : Nat → List Nat) (h : st < n) : RI n st N ((List.replicate n false).set st true) [st] := by
  have hl : st < (List.replicate n false).length := by simpa using h
  have key : ∀ i, sn ((List.replicate n false).set st true) i = decide (st = i) := fun i => by rw [sn_set _ _ _ hl, sn_rep]; simp
  refine ⟨by simp, by rw [key]; simp, ?_, ?_, ?_, ?_⟩
  · intro i hi
    have : i = st := by simpa using hi
    subst this
    exact ⟨h, by rw [key]; simp⟩
  · intro i hi
    rw [key] at hi
    left
    simp at hi ⊢
    exact hi.symm
  · intro C h0 _ i hi
    rw [key] at hi
    simp at hi
    rw [← hi]; exact h0
  · have := unN_set (List.replicate n false) st hl (sn_rep _ _)
    rw [unN_rep] at this
    simp; omega
theorem RI.pop {n st : Nat} {N : Nat → List Nat} {S : List Bool} {W : List Nat} {p : Nat} (h : RI n st N S (W ++ [p])) : RJ n st N p 0 S W ∧ p < n ∧ unN S + W.length + 1 ≤ n := by
  have hp := h.wk p (by simp)
  have hm := h.ms
  simp at hm
  refine ⟨⟨h.len, h.beg, hp.2, fun i hi => h.wk i (by simp [hi]), ?_, h.le, by omega⟩, hp.1, by omega⟩
  intro i hi
  by_cases e : i = p
  · right; simp [e]
  · rcases h.cl i hi with h1 | h1
    · left; simpa [e] using h1
    · right; simpa [e] using h1
theorem RJ.fin {n st : Nat} {N : Nat → List Nat} {S : List Bool} {W : List Nat} {p m : Nat} (h : RJ n st N p m S W) (hm : (N p).length ≤ m) : RI n st N S W := by
  refine ⟨h.len, h.beg, h.wk, ?_, h.le, h.ms⟩
  intro i hi
  rcases h.cl i hi with h1 | h1
  · exact .inl h1
  · right
    by_cases e : i = p
    · subst e; simpa [List.take_of_length_le hm] using h1
    · simpa [e] using h1
theorem take_succ_mem {α : Type} {L : List α} {m : Nat} (h : m < L.length) (j : α) : j ∈ L.take (m + 1) ↔ j ∈ L.take m ∨ j = L[m] := by
  have : L.take (m + 1) = L.take m ++ [L[m]] := by simp
  rw [this, List.mem_append]; simp
theorem RJ.old {n st : Nat} {N : Nat → List Nat} {S : List Bool} {W : List Nat} {p m : Nat} (h : RJ n st N p m S W) (hm : m < (N p).length) (hs : sn S (N p)[m] = true) : RJ n st N p (m + 1) S W := by
  refine ⟨h.len, h.beg, h.mine, h.wk, ?_, h.le, h.ms⟩
  intro i hi
  rcases h.cl i hi with h1 | h1
  · exact .inl h1
  · right
    by_cases e : i = p
    · subst e
      simp only [if_true] at h1 ⊢
      intro j hj
      rcases (take_succ_mem hm j).1 hj with h2 | h2
      · exact h1 j h2
      · rw [h2]; exact hs
    · simpa [e] using h1
theorem RJ.new {n st : Nat} {N : Nat → List Nat} {S : List Bool} {W : List Nat} {p m : Nat} (h : RJ n st N p m S W) (hm : m < (N p).length) (hx : (N p)[m] < n) (hs : sn S (N p)[m] = false) :
    RJ n st N p (m + 1) (S.set (N p)[m] true) (W ++ [(N p)[m]]) ∧ unN (S.set (N p)[m] true) + (W ++ [(N p)[m]]).length = unN S + W.length := by
  have hl : (N p)[m] < S.length := by rw [h.len]; exact hx
  have hu := unN_set S _ hl hs
  have up : ∀ j, sn S j = true → sn (S.set (N p)[m] true) j = true := fun j hj => by rw [sn_set _ _ _ hl, hj]; simp
  have hself : sn (S.set (N p)[m] true) (N p)[m] = true := by rw [sn_set _ _ _ hl]; simp
  have hms := h.ms
  refine ⟨⟨by simpa using h.len, up _ h.beg, up _ h.mine, ?_, ?_, ?_, by simp; omega⟩, by simp; omega⟩
  · intro i hi
    rcases List.mem_append.1 hi with h1 | h1
    · exact ⟨(h.wk i h1).1, up _ (h.wk i h1).2⟩
    · have : i = (N p)[m] := by simpa using h1
      subst this
      exact ⟨hx, hself⟩
  · intro i hi
    rw [sn_set _ _ _ hl] at hi
    by_cases e1 : (N p)[m] = i
    · left; simp [e1]
    · have hi' : sn S i = true := by simpa [e1] using hi
      rcases h.cl i hi' with h1 | h1
      · left; simp [h1]
      · right
        by_cases e : i = p
        · subst e
          simp only [if_true] at h1 ⊢
          intro j hj
          rcases (take_succ_mem hm j).1 hj with h2 | h2
          · exact up _ (h1 j h2)
          · rw [h2]; exact hself
        · simp only [e, if_false] at h1 ⊢
          exact fun j hj => up _ (h1 j hj)
  · intro C h0 hc i hi
    rw [sn_set _ _ _ hl] at hi
    by_cases e1 : (N p)[m] = i
    · rw [← e1]
      exact hc p (h.le C h0 hc p h.mine) _ (List.getElem_mem hm)
    · exact h.le C h0 hc i (by simpa [e1] using hi)
/-- Where the stage of that place goes. -/
def goN (L : List (List Nat)) (i : Nat) : List Nat := L.getD i []
/-- Does the set hold where its stages go? -/
def clF (S : List Bool) : Nat → List (List Nat) → Bool
  | _, [] => true
  | i, l :: L => l.all (fun j => !sn S i || sn S j) && clF S (i + 1) L
def clB (L : List (List Nat)) (st : Nat) (S : List Bool) : Bool := decide (S.length = L.length) && (sn S st && clF S 0 L)
theorem clF_iff (S : List Bool) : ∀ (L : List (List Nat)) (k : Nat), clF S k L = true ↔ ∀ i, sn S (k + i) = true → ∀ j ∈ goN L i, sn S j = true
  | [], k => by
    constructor
    · intro _ i _ j hj; simp [goN] at hj
    · intro _; rfl
  | l :: L, k => by
    unfold clF
    rw [Bool.and_eq_true, clF_iff S L (k + 1), List.all_eq_true]
    constructor
    · rintro ⟨h1, h2⟩ i hi j hj
      cases i with
      | zero =>
        have := h1 j (by simpa [goN] using hj)
        have hi' : sn S k = true := hi
        simpa [hi'] using this
      | succ i =>
        exact h2 i (by rw [Nat.add_assoc, Nat.add_comm 1 i]; exact hi) j (by simpa [goN] using hj)
    · intro h
      refine ⟨fun j hj => ?_, fun i hi j hj => ?_⟩
      · cases hk : sn S k with
        | false => rfl
        | true => simpa using h 0 hk j (by simpa [goN] using hj)
      · exact h (i + 1) (by rw [Nat.add_assoc, Nat.add_comm 1 i] at hi; exact hi) j (by simpa [goN] using hj)
theorem clF_drop (S : List Bool) (L : List (List Nat)) (k : Nat) (h : k < L.length) : clF S k (L.drop k) = (L[k].all (fun j => !sn S k || sn S j) && clF S (k + 1) (L.drop (k + 1))) := by
  rw [List.drop_eq_getElem_cons h]; rfl
theorem RI.closed {L : List (List Nat)} {st : Nat} {S : List Bool} (h : RI L.length st (goN L) S []) : clB L st S = true := by
  unfold clB
  rw [h.beg, decide_eq_true h.len, Bool.true_and, Bool.true_and, clF_iff]
  intro i hi j hj
  rw [Nat.zero_add] at hi
  rcases h.cl i hi with h1 | h1
  · simp at h1
  · exact h1 j hj
theorem RI.least {L : List (List Nat)} {st : Nat} {S T : List Bool} {W : List Nat} (h : RI L.length st (goN L) S W) (hT : clB L st T = true) : T.length = S.length ∧ ∀ i, sn S i = true → sn T i = true := by
  unfold clB at hT
  simp only [Bool.and_eq_true, decide_eq_true_eq] at hT
  refine ⟨by rw [hT.1, h.len], fun i hi => h.le (fun k => sn T k = true) hT.2.1 (fun k hk j hj => ?_) i hi⟩
  exact (clF_iff T L 0).1 hT.2.2 k (by rw [Nat.zero_add]; exact hk) j hj
/-- Where the stages go. -/
def waysL (SG : List Ts) : List (List Nat) := SG.map fun s => s.nexts.map fun x => x.dst.toNat
def bC (b : Bool) : List Value := [.bool b]
theorem bC_len (x : Bool) : (bC x).length = 1 := rfl
theorem bC_one (x : Bool) : ∀ u ∈ bC x, u.oneCell' = true := all_one rfl
/-- Every way goes to a stage. -/
def Ways (SG : List Ts) : Prop := ∀ s ∈ SG, ∀ x ∈ s.nexts, 0 ≤ x.dst ∧ x.dst < (SG.length : Int)
theorem sn_get {S : List Bool} {i : Nat} (h : i < S.length) : sn S i = S[i] := by
  unfold sn; simp [List.getD_eq_getElem?_getD, List.getElem?_eq_getElem h]
theorem ways_len (SG : List Ts) : (waysL SG).length = SG.length := by simp [waysL]
theorem ways_at (SG : List Ts) (k : Nat) (h : k < SG.length) : (waysL SG)[k]'(by rw [ways_len]; exact h) = SG[k].nexts.map fun x => x.dst.toNat := by simp [waysL]
theorem all_dropB {α : Type} (f : α → Bool) (L : List α) (k : Nat) (h : k < L.length) : (L.drop k).all f = (f L[k] && (L.drop (k + 1)).all f) := by
  rw [List.drop_eq_getElem_cons h]; rfl
end Go.Proofs.YtnicolaphmffkaaDoor
namespace Go.Proofs.YtnicolaphmffkaaDoor
open Go.RowKit
set_option linter.unusedVariables false
set_option linter.unusedSimpArgs false

set_option maxRecDepth 100000 in
set_option maxHeartbeats 8000000 in
theorem closed_any (G : List Gp) (C : List Cf) (D : List Dt) (TM CT : List ByteArray) (VR : List Vr) (SG : List Ts) (pn : ByteArray) (ga ca da ta ka va sa : Option Addr) (gc cc dc tc kc vc sc : Nat) (stt : Int) (S : List Bool) (ba : Option Addr) (bc : Nat) (w : World) (hS : Tss (fun _ => True) w (.slice sa SG.length sc) SG) (lS : SG.length ≤ 256) (hB : Fl 1 bC w (.slice ba S.length bc) S) (lB : S.length ≤ 4611686018427387904) (hd : Ways SG) (h0 : 0 ≤ stt) (h1 : stt < (SG.length : Int)) :
    Calls Tryd.prog 6 #[(.agg #[.string pn, .slice ga G.length gc, .slice ca C.length cc, .slice da D.length dc, .slice ta TM.length tc, .slice ka CT.length kc, .slice va VR.length vc, .slice sa SG.length sc, .int .i64 stt]), .slice ba S.length bc] w fun e w' => e = .returned (.bool (clB (waysL SG) stt.toNat S)) ∧ Below w.heap.size w w' := by
  obtain ⟨_, _, e1, _, kS⟩ := Rows.any hS
  injection e1 with e1 _ e2
  subst e1
  subst e2
  clear hS
  obtain ⟨st, rfl⟩ : ∃ st : Nat, stt = (st : Int) := ⟨stt.toNat, by omega⟩
  unfold clB
  rw [Int.toNat_natCast, ways_len]
  have hlt0 : st < SG.length := by omega
  obtain ⟨g, o, rfl, _, hg, hx⟩ := kS.resolve_left (by intro e; rw [e] at hlt0; simp at hlt0)
  clear kS
  generalize hT : (decide (S.length = SG.length) && (sn S st && clF S 0 (waysL SG))) = A
  have hb0 : Below w.heap.size w (w.alloc (.cells #[.string pn, .slice ga G.length gc, .slice ca C.length cc, .slice da D.length dc, .slice ta TM.length tc, .slice ka CT.length kc, .slice va VR.length vc, .slice (some ⟨g, o, none⟩) SG.length sc, .int .i64 (st : Int)] 31)) := bel1 _
  have K0 : Has (w.alloc (.cells #[.string pn, .slice ga G.length gc, .slice ca C.length cc, .slice da D.length dc, .slice ta TM.length tc, .slice ka CT.length kc, .slice va VR.length vc, .slice (some ⟨g, o, none⟩) SG.length sc, .int .i64 (st : Int)] 31)) w.heap.size #[.string pn, .slice ga G.length gc, .slice ca C.length cc, .slice da D.length dc, .slice ta TM.length tc, .slice ka CT.length kc, .slice va VR.length vc, .slice (some ⟨g, o, none⟩) SG.length sc, .int .i64 (st : Int)] := Has.new _ _ _ rfl
  obtain ⟨_, v1, v2⟩ := id K0
  go_enter Tryd.func6, Tryd.ntmps6
  by_cases hl : S.length = SG.length
  case neg =>
    have t1 : ¬ (S.length : Int) = (SG.length : Int) := by omega
    have hq2 : A = false := by rw [← hT, decide_eq_false hl]; rfl
    subst hq2
    go_wp2_with fail
    go_ret
    exact ⟨rfl, hb0⟩
  have t1 : (S.length : Int) = (SG.length : Int) := by omega
  rw [decide_eq_true hl, Bool.true_and] at hT
  obtain ⟨_, _, e1, kB⟩ := hB.any
  injection e1 with e1 _ e2
  subst e1
  subst e2
  obtain ⟨gb, ob, rfl, hgb, hxb⟩ := kB.resolve_left (by intro e; rw [e] at hl; simp at hl; omega)
  have pb := fun (i : Nat) (hi : i < S.length) => (hb0.cell (p := ⟨gb, _, none⟩) hgb).trans (hxb i hi 0 _ rfl)
  simp only [Nat.mul_one, Nat.add_zero] at pb
  have pb' : Hid (∀ (i : Nat) (hi : i < S.length), ((w.alloc (.cells #[.string pn, .slice ga G.length gc, .slice ca C.length cc, .slice da D.length dc, .slice ta TM.length tc, .slice ka CT.length kc, .slice va VR.length vc, .slice (some ⟨g, o, none⟩) SG.length sc, .int .i64 (st : Int)] 31))).cell? ⟨gb, ob + i, none⟩ = some (.bool S[i])) := pb
  clear pb
  have pst := pb'.out st (by omega)
  have t3' : (st : Int) < (SG.length : Int) := by omega
  rw [← sn_get] at pst
  have t2 : (0 : Int) ≤ (st : Int) := by omega
  have t3 : (st : Int) < (S.length : Int) := by omega
  generalize hs0 : sn S st = s0 at *
  cases s0 with
  | false =>
    have hq2 : A = false := by rw [← hT]; rfl
    subst hq2
    go_wp2_with fail
    go_ret
    exact ⟨rfl, hb0⟩
  | true =>
    have hA0 : Hid (clF S 0 ((waysL SG).drop 0) = A) := hT
    clear hT
    go_wp2_with fail
    go_loopw [5] (fun i wr => ∃ k : Nat, k ≤ SG.length ∧ i = .int .i64 (k : Int) ∧ Hid (clF S k ((waysL SG).drop k) = A) ∧ wr = (w.alloc (.cells #[.string pn, .slice ga G.length gc, .slice ca C.length cc, .slice da D.length dc, .slice ta TM.length tc, .slice ka CT.length kc, .slice va VR.length vc, .slice (some ⟨g, o, none⟩) SG.length sc, .int .i64 (st : Int)] 31))) (fun i _ => SG.length - (intOf i).toNat)
    case atStart => exact ⟨0, by omega, rfl, hA0, rfl⟩
    case round =>
      clear hA0
      obtain ⟨k, hkl, rfl, hq', rfl⟩ := hrel
      have hq := hq'.out
      clear hq'
      by_cases hlt : k < SG.length
      case neg =>
        have t4 : ¬ (k : Int) < (SG.length : Int) := by omega
        rw [List.drop_eq_nil_of_le (by rw [ways_len]; omega)] at hq
        have hq2 : true = A := hq
        subst hq2
        clear hx hq
        go_wp2_with fail
        go_ret
        exact ⟨rfl, hb0⟩
      case pos =>
        have t4 : (k : Int) < (SG.length : Int) := by omega
        have t5 : (0 : Int) ≤ (k : Int) := by omega
        have t6 : (k : Int) < (S.length : Int) := by omega
        obtain ⟨cs, _, ⟨ve, vd, vl, vn, rfl, -, -, -, q4⟩, P2⟩ := hx k hlt
        have hdk := hd _ (List.getElem_mem hlt)
        obtain ⟨e4, c4, rfl, l4, k4⟩ := Rows.any q4
        have p6 := (hb0.cell (p := ⟨g, _, none⟩) hg).trans (P2 6 _ rfl)
        rw [clF_drop S _ k (by rw [ways_len]; exact hlt), ways_at SG k hlt] at hq
        have pk := pb'.out k (by omega)
        rw [← sn_get] at pk
        generalize hR : clF S (k + 1) ((waysL SG).drop (k + 1)) = R at *
        generalize SG[k].nexts = L4 at *
        generalize sn S k = bk at *
        clear P2 hx q4 hxb
        go_wp2_with fail
        go_loopw [6] (fun i wr => ∃ m : Nat, m ≤ L4.length ∧ i = .int .i64 (m : Int) ∧ Hid ((((L4.map fun x => x.dst.toNat).drop m).all (fun j => !bk || sn S j) && R) = A) ∧ wr = (w.alloc (.cells #[.string pn, .slice ga G.length gc, .slice ca C.length cc, .slice da D.length dc, .slice ta TM.length tc, .slice ka CT.length kc, .slice va VR.length vc, .slice (some ⟨g, o, none⟩) SG.length sc, .int .i64 (st : Int)] 31))) (fun i _ => L4.length - (intOf i).toNat)
        case atStart => exact ⟨0, by omega, rfl, hq, rfl⟩
        case round =>
          clear hq
          obtain ⟨m, hml, rfl, hq', rfl⟩ := hrel
          have hq := hq'.out
          clear hq'
          by_cases hm : m < L4.length
          case neg =>
            have s3 : ¬ (m : Int) < (L4.length : Int) := by omega
            rw [List.drop_eq_nil_of_le (by simp; omega)] at hq
            have hq3 : R = A := hq
            clear hq
            go_wp2_with fail
            go_roundw
            case rel => exact ⟨k + 1, by omega, by go_num, (by show _ = _; rw [hR]; exact hq3), trivial⟩
            case measure => simp [intOf]; omega
          case pos =>
            have s3 : (m : Int) < (L4.length : Int) := by omega
            have s2 : (0 : Int) ≤ (m : Int) := by omega
            obtain ⟨g2, o2, rfl, _, hg2, hx2⟩ := k4.resolve_left (by intro e; rw [e] at hm; simp at hm)
            obtain ⟨cs2, _, ⟨v2, rfl, hv2⟩, h32⟩ := hx2 m hm
            have hdm := hdk _ (List.getElem_mem hm)
            have p0 := (hb0.cell (p := ⟨g2, _, none⟩) hg2).trans (h32 0 _ rfl)
            simp only [Nat.add_zero] at p0
            rw [all_dropB _ _ m (by simpa using hm), List.getElem_map] at hq
            obtain ⟨d, hdd⟩ : ∃ d : Nat, L4[m].dst = (d : Int) := ⟨L4[m].dst.toNat, by omega⟩
            rw [hdd] at p0 hdm hq
            rw [Int.toNat_natCast] at hq
            have pd := pb'.out d (by omega)
            rw [← sn_get] at pd
            have y1 : (0 : Int) ≤ (d : Int) := by omega
            have y2 : (d : Int) < (S.length : Int) := by omega
            have y3 : (d : Int) < (SG.length : Int) := by omega
            have hq : ((!bk || sn S d) && ((((L4.map fun x => x.dst.toNat).drop (m + 1)).all (fun j => !bk || sn S j)) && R)) = A := by rw [← hq, Bool.and_assoc]
            generalize hsd : sn S d = bd at *
            clear h32 hx2 hdm
            cases bk with
            | false =>
              have hq3 : Hid ((((L4.map fun x => x.dst.toNat).drop (m + 1)).all (fun j => !false || sn S j) && R) = A) := hq
              clear hq
              go_wp2_with fail
              go_roundw
              case rel => exact ⟨m + 1, by omega, by go_num, hq3, trivial⟩
              case measure => simp [intOf]; omega
            | true =>
              cases bd with
              | false =>
                have hq3 : A = false := by rw [← hq]; rfl
                subst hq3
                clear hq
                go_wp2_with fail
                go_ret
                exact ⟨rfl, hb0⟩
              | true =>
                have hq3 : Hid ((((L4.map fun x => x.dst.toNat).drop (m + 1)).all (fun j => !true || sn S j) && R) = A) := hq
                clear hq
                go_wp2_with fail
                go_roundw
                case rel => exact ⟨m + 1, by omega, by go_num, hq3, trivial⟩
                case measure => simp [intOf]; omega
end Go.Proofs.YtnicolaphmffkaaDoor
