import Derived.Test.YtddphepgcihdbaaGreatTeB
import Derived.Test.YtddphepgcihdbaaGreatTdI
namespace Go.Proofs.YtddphepgcihdbaaGreat
open Go.RowKit
set_option linter.unusedVariables false
set_option linter.unusedSimpArgs false

def Rm.dk (r : Rm) : Dk := ⟨r.x.name, .slice (some ⟨r.g, 0, none⟩) r.x.rows.length r.c, r.x.rows⟩
/-- The room's table. -/
def rmT (t : Tt) (Ls : List Rm) : Tt := { t with D := Ls.map Rm.dk }
theorem own_cell {w : World} {base e size n g cap : Nat} {xs : List Value} (h : w.ownsRow base e size (.slice (some ⟨g, 0, none⟩) n cap) n xs) (j : Nat) (u : Value) (hu : xs[j]? = some u) : w.cell? ⟨g, j, none⟩ = some u := own_reads h rfl j u hu
theorem fl_pre {α : Type} {sz : Nat} {cs : α → List Value} (hl : ∀ x, (cs x).length = sz) {w : World} {base e g cap n m : Nat} {L : List α} {ms : List Value} (h : w.ownsRow base e sz (.slice (some ⟨g, 0, none⟩) n cap) n (cellsF cs L ++ ms)) (hm : m = L.length) (hc : L.length ≤ cap) : Fl sz cs w (.slice (some ⟨g, 0, none⟩) m cap) L := by
  subst hm
  have hg := (own_lt h g rfl).2
  refine .inr ⟨⟨g, 0, none⟩, cap, rfl, hc, .inr ⟨rfl, hg, fun i hi j u hu => ?_⟩⟩
  show w.cell? ⟨g, 0 + i * sz + j, none⟩ = some u
  rw [Nat.zero_add]
  refine own_cell h _ u ?_
  have hj : j < sz := by have := (List.getElem?_eq_some_iff.1 hu).1; rw [hl] at this; exact this
  have hlt : i * sz + j < (cellsF cs L).length := by
    rw [cellsF_len hl]
    calc i * sz + j < i * sz + sz := by omega
      _ = (i + 1) * sz := (Nat.succ_mul i sz).symm
      _ ≤ L.length * sz := Nat.mul_le_mul_right _ hi
  rw [List.getElem?_append_left hlt, cellsF_get hl L i j hi hj]; exact hu
theorem mark_at {α : Type} {sz : Nat} {cs : α → List Value} (hl : ∀ x, (cs x).length = sz) {w : World} {base e g cap n : Nat} {L : List α} {ms : List Value} (h : w.ownsRow base e sz (.slice (some ⟨g, 0, none⟩) n cap) n (cellsF cs L ++ ms)) (j : Nat) (u : Value) (hu : ms[j]? = some u) : w.cell? ⟨g, L.length * sz + j, none⟩ = some u := by
  refine own_cell h _ u ?_
  rw [List.getElem?_append_right (by rw [cellsF_len hl]; omega), cellsF_len hl]
  rw [show L.length * sz + j - L.length * sz = j by omega]; exact hu
theorem dc_len (r : Rm) : r.dc.length = 2 := rfl
theorem rc_len (r : Rm) : r.rc.length = 1 := rfl
theorem mem4 {α : Type} {l : List α} {a b c d e : α} : a ∈ (((l ++ [a, b]) ++ [c]) ++ [d]) ++ [e] ∧ b ∈ (((l ++ [a, b]) ++ [c]) ++ [d]) ++ [e] ∧ c ∈ (((l ++ [a, b]) ++ [c]) ++ [d]) ++ [e] ∧ d ∈ (((l ++ [a, b]) ++ [c]) ++ [d]) ++ [e] ∧ e ∈ (((l ++ [a, b]) ++ [c]) ++ [d]) ++ [e] := by simp
theorem RG.inner {w W : World} {CB RC : Array Value} {Ls : List Rm} {M : List Own} (h : RG w W CB RC M) (hM : ∀ r ∈ Ls, r.own ∈ M) : ∀ r ∈ Ls, RIn W (w.heap.size + 2) r := fun r hr => h.rows _ (hM r hr)
/-- A room's table, as it is read. -/
theorem room_tr {w W : World} {t : Tt} {vD vS vX vH : Value} (h0 : TR w t vD vS vX vH) {CB RC : Array Value} {Ls : List Rm} {g8 cap8 gS capS gX capX gH capH rcp : Nat} {ra : Option Addr} (hL : Ls.map (·.x) = t.D) (c1 : t.D.length ≤ cap8) (c2 : t.S.length ≤ capS) (c3 : t.X.length ≤ capX) (c4 : t.H.length ≤ capH)
    (h : RG w W CB RC ((((Ls.map Rm.own ++ [⟨49, 2, .slice (some ⟨g8, 0, none⟩) (t.D.length + 2) cap8, t.D.length + 2, cellsF Rm.dc Ls ++ room2⟩, ⟨47, 1, .slice ra t.D.length rcp, t.D.length, cellsF Rm.rc Ls⟩]) ++ [⟨52, 9, .slice (some ⟨gS, 0, none⟩) (t.S.length + 2) capS, t.S.length + 2, cellsF Sn.cs t.S ++ mkS⟩]) ++ [⟨54, 2, .slice (some ⟨gX, 0, none⟩) (t.X.length + 2) capX, t.X.length + 2, cellsF Ex.cs t.X ++ mk2⟩]) ++ [⟨56, 2, .slice (some ⟨gH, 0, none⟩) (t.H.length + 2) capH, t.H.length + 2, cellsF Sh.cs t.H ++ mk2⟩])) : TR W (rmT t Ls) (.slice (some ⟨g8, 0, none⟩) (rmT t Ls).D.length cap8) (.slice (some ⟨gS, 0, none⟩) t.S.length capS) (.slice (some ⟨gX, 0, none⟩) t.X.length capX) (.slice (some ⟨gH, 0, none⟩) t.H.length capH) := by
  obtain ⟨m1, m2, m3, m4, m5⟩ := mem4 (l := Ls.map Rm.own) (a := (⟨49, 2, .slice (some ⟨g8, 0, none⟩) (t.D.length + 2) cap8, t.D.length + 2, cellsF Rm.dc Ls ++ room2⟩ : Own)) (b := ⟨47, 1, .slice ra t.D.length rcp, t.D.length, cellsF Rm.rc Ls⟩) (c := ⟨52, 9, .slice (some ⟨gS, 0, none⟩) (t.S.length + 2) capS, t.S.length + 2, cellsF Sn.cs t.S ++ mkS⟩) (d := ⟨54, 2, .slice (some ⟨gX, 0, none⟩) (t.X.length + 2) capX, t.X.length + 2, cellsF Ex.cs t.X ++ mk2⟩) (e := ⟨56, 2, .slice (some ⟨gH, 0, none⟩) (t.H.length + 2) capH, t.H.length + 2, cellsF Sh.cs t.H ++ mk2⟩)
  have hlen : Ls.length = t.D.length := by rw [← hL, List.length_map]
  have hin : ∀ r ∈ Ls, RIn W (w.heap.size + 2) r := h.inner (fun r hr => by simp only [List.mem_append]; left; left; left; left; exact List.mem_map.2 ⟨r, hr, rfl⟩)
  have hx : ∀ r ∈ Ls, r.x ∈ t.D := fun r hr => by rw [← hL]; exact List.mem_map.2 ⟨r, hr, rfl⟩
  have o1 := h.rows _ m1
  have o3 := h.rows _ m3
  have o4 := h.rows _ m4
  have o5 := h.rows _ m5
  have e1 : cellsF Rm.dc Ls = cellsF Dk.cs (Ls.map Rm.dk) := by
    unfold cellsF; rw [List.flatMap_map]; rfl
  dsimp only at o1 o3 o4 o5
  rw [e1] at o1
  have hcap : ∀ r ∈ Ls, r.x.rows.length ≤ r.c := by
    intro r hr
    rcases (hin r hr).2 with ⟨e, _⟩ | ⟨g, cap, cur, e, _, _, e4⟩
    · cases e
    · injection e with _ _ e3
      have := e4.1
      omega
  refine ⟨fl_pre (cs := Dk.cs) (fun _ => rfl) o1 rfl (by show (Ls.map Rm.dk).length ≤ cap8; simp; omega), ?_, fl_pre sn_len o3 rfl c2, fl_pre ex_len o4 rfl c3, fl_pre sh_len o5 rfl c4, ?_, ?_, h0.sl, h0.xl, h0.hl, h0.nml, ?_, h0.xw⟩
  · intro x hx2
    obtain ⟨r, hr, rfl⟩ := List.mem_map.1 hx2
    exact fl_pre rw_len (hin r hr) rfl (hcap r hr)
  · show (Ls.map Rm.dk).length ≤ _; have := h0.dl; simp; omega
  · intro x hx2
    obtain ⟨r, hr, rfl⟩ := List.mem_map.1 hx2
    exact h0.rl r.x (hx r hr)
  · intro x hx2
    obtain ⟨r, hr, rfl⟩ := List.mem_map.1 hx2
    exact h0.ndl r.x (hx r hr)
theorem all_core {Ls : List Rm} {D : List Dk} (hL : Ls.map (·.x) = D) (p : ByteArray → List Rw → Bool) : (Ls.map Rm.dk).all (fun x => p x.name x.rows) = D.all (fun x => p x.name x.rows) := by
  rw [← hL, List.all_map, List.all_map]; rfl
theorem map_core {β : Type} {Ls : List Rm} {D : List Dk} (hL : Ls.map (·.x) = D) (p : ByteArray → List Rw → β) : (Ls.map Rm.dk).map (fun x => p x.name x.rows) = D.map (fun x => p x.name x.rows) := by
  rw [← hL, List.map_map, List.map_map]; rfl
theorem rm_err {t : Tt} {Ls : List Rm} (hL : Ls.map (·.x) = t.D) : (rmT t Ls).err = t.err := by
  have hl : (Ls.map Rm.dk).length = t.D.length := by rw [← hL]; simp
  have n1 : (rmT t Ls).nmsB = t.nmsB := by
    have := all_core hL (fun n _ => nmB n); simp only [Tt.nmsB, rmT]; rw [this]
  have n2 : (rmT t Ls).limB = t.limB := by
    have h1 := all_core hL (fun _ r => decide (r.length ≤ 48))
    have e : (rmT t Ls).D.length = t.D.length := hl
    unfold Tt.limB
    rw [e]
    exact congrArg (fun b => (decide (t.D.length ≤ 16) && (decide (t.S.length ≤ 16) && (decide (t.X.length ≤ 64) && decide (t.H.length ≤ 16)))) && b) h1
  have n3 : (rmT t Ls).rowB = t.rowB := by
    have h1 := all_core hL (fun _ r => decide (0 < r.length))
    have e : (rmT t Ls).D.length = t.D.length := hl
    unfold Tt.rowB
    rw [e]
    exact congrArg (fun b => decide (0 < t.D.length) && b) h1
  have n4 : (rmT t Ls).oneB = t.oneB := by
    have h1 := map_core hL (fun n _ => n)
    have h2 : decide ((rmT t Ls).D.map (·.name)).Nodup = decide (t.D.map (·.name)).Nodup := by
      rw [decide_eq_decide]
      show ((Ls.map Rm.dk).map (fun x => x.name)).Nodup ↔ _
      rw [h1]
    unfold Tt.oneB
    rw [h2]; rfl
  have n5 : (rmT t Ls).clkB = t.clkB := by
    have := all_core hL (fun _ r => r.all rwB); simp only [Tt.clkB, rmT]; rw [this]
  have n6 : (rmT t Ls).datB = t.datB := rfl
  have n7 : (rmT t Ls).kinB = t.kinB := by simp only [Tt.kinB, Tt.wk, rmT, hl]
  have n8 : (rmT t Ls).ordB = t.ordB := by
    have := all_core hL (fun _ r => riB (r.map (·.m))); simp only [Tt.ordB, rmT]; rw [this]
  unfold Tt.err
  rw [n1, n2, n3, n4, n5, n6, n7, n8]
theorem rm_kn {t : Tt} {Ls : List Rm} (d : Int) : knF (rmT t Ls) d = knF t d := rfl
theorem rm_rw {t : Tt} {Ls : List Rm} (hL : Ls.map (·.x) = t.D) (d : Int) : rwF (rmT t Ls) d = rwF t d := by
  unfold rwF
  rw [rm_kn]
  show (match (Ls.map Rm.dk)[(knF t d).toNat]? with | some x => x.rows | none => []) = _
  rw [← hL, List.getElem?_map, List.getElem?_map]
  cases Ls[(knF t d).toNat]? <;> rfl
theorem rm_sl {t : Tt} {Ls : List Rm} (hL : Ls.map (·.x) = t.D) (m : Int) : slF (rmT t Ls) m = slF t m := by
  unfold slF
  rw [rm_rw hL, rm_rw hL]; rfl
theorem rm_er {t : Tt} {Ls : List Rm} (hL : Ls.map (·.x) = t.D) (n most : Int) : erF (rmT t Ls) n most = erF t n most := by
  unfold erF; rw [rm_err hL]
theorem rm_lo {t : Tt} {Ls : List Rm} (hL : Ls.map (·.x) = t.D) (m : Int) : loA (rmT t Ls) m = loA t m := by
  unfold loA; rw [rm_er hL]; rfl
theorem rm_ka {t : Tt} {Ls : List Rm} (hL : Ls.map (·.x) = t.D) (m : Int) : knA (rmT t Ls) m = knA t m := by
  unfold knA; rw [rm_er hL]; rfl
theorem rm_at {t : Tt} {Ls : List Rm} (hL : Ls.map (·.x) = t.D) (m : Int) : atA (rmT t Ls) m = atA t m := by
  unfold atA; rw [rm_er hL, rm_sl hL]
end Go.Proofs.YtddphepgcihdbaaGreat
