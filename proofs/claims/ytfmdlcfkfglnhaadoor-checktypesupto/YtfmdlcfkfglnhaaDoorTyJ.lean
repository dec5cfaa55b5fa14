import Derived.Test.YtfmdlcfkfglnhaaDoorTyI
namespace Go.Proofs.YtfmdlcfkfglnhaaDoor
open Go.RowKit
set_option linter.unusedVariables false

/-- What find answers. -/
def fdV (S : List Sy) (nm : ByteArray) (l : List Int) : Value × Int := match fsS S nm with
  | none => (zSy, 51)
  | some s => if s.kind ∈ l then (s.ag, 0) else (zSy, 52)
set_option maxRecDepth 100000 in
set_option maxHeartbeats 8000000 in
theorem find_any (S : List Sy) (nm : ByteArray) (l : List Int) (b n g o sc : Nat) (w : World) (hM : MpS w b n S) (hs : nm.size ≤ maxLen) (hl : l.length ≤ 256) (hg : g < w.heap.size) (hc : ∀ i (h : i < l.length), w.cell? ⟨g, o + i, none⟩ = some (.int .i64 l[i])) :
    Calls Tryd.prog 34 #[.agg #[.map (some b)], .string nm, .slice (some ⟨g, o, none⟩) l.length sc] w fun e w' => e = .returned (.tuple #[(fdV S nm l).1, .int .i64 (fdV S nm l).2]) ∧ Below w.heap.size w w' := by
  have hb1 : Below w.heap.size w ((w.alloc (.cells #[.map (some b)] 64)).alloc (.cells #[.string ⟨#[]⟩, .int .i64 0, .int .i64 0, .int .i64 0, .int .i64 0] 58)) := ((Below.refl _ _).alloc (Nat.le_refl _) _).alloc (by simp) _
  have hL := (hM.below hb1 hM.lt).look nm hs
  have KT : Has ((w.alloc (.cells #[.map (some b)] 64)).alloc (.cells #[.string ⟨#[]⟩, .int .i64 0, .int .i64 0, .int .i64 0, .int .i64 0] 58)) (w.alloc (.cells #[.map (some b)] 64)).heap.size #[.string ⟨#[]⟩, .int .i64 0, .int .i64 0, .int .i64 0, .int .i64 0] := Has.new _ _ _ rfl
  have kC := fun (x : Int) (X : World) (hX : Below w.heap.size w X) => contains_any l x g o sc X hl (fun i h => (hX.cell (p := ⟨g, _, none⟩) hg).trans (hc i h))
  clear hc hM
  unfold fdV
  cases hf : fsS S nm with
  | none =>
    rw [hf] at hL
    simp only [zSy] at *
    go_enter Tryd.func34, Tryd.ntmps34
    go_wp2_with fail
    exact bodyPost_ret (v := .tuple #[.agg #[.string ⟨#[]⟩, .int .i64 0, .int .i64 0, .int .i64 0, .int .i64 0], .int .i64 51]) (by simp [results, Tryd.results34, go_sem]) rfl ⟨rfl, hb1.alloc hb1.size _⟩
  | some s =>
    rw [hf] at hL
    obtain ⟨sn, sk, si, sl, sq⟩ := s
    simp only [zSy, Sy.ag] at *
    have hb2 : Below w.heap.size w (((w.alloc (.cells #[.map (some b)] 64)).alloc (.cells #[.string ⟨#[]⟩, .int .i64 0, .int .i64 0, .int .i64 0, .int .i64 0] 58)).alloc (.cells #[.string sn, .int .i64 sk, .int .i64 si, .int .i64 sl, .int .i64 sq] 58)) := hb1.alloc hb1.size _
    have kD := kC sk _ hb2
    clear kC
    by_cases hk : sk ∈ l
    · rw [decide_eq_true hk] at kD
      rw [if_pos hk]
      go_enter Tryd.func34, Tryd.ntmps34
      go_wp2_with fail
      go_at_call 44
      refine Calls.mono kD ?_
      rintro e wx ⟨rfl, hwx⟩
      subst hwx
      go_wp2_with fail
      first | exact bodyPost_ret (v := .tuple #[.agg #[.string sn, .int .i64 sk, .int .i64 si, .int .i64 sl, .int .i64 sq], .int .i64 0]) (by simp [results, Tryd.results34, go_sem]) rfl ⟨rfl, hb2⟩ | exact bodyPost_ret (v := .tuple #[.agg #[.string sn, .int .i64 sk, .int .i64 si, .int .i64 sl, .int .i64 sq], .int .i64 0]) (by simp [results, Tryd.results34, go_sem]) rfl ⟨rfl, bel5 hb2 (by simp) _ _ _ _ _⟩ | exact bodyPost_ret (v := .tuple #[.agg #[.string sn, .int .i64 sk, .int .i64 si, .int .i64 sl, .int .i64 sq], .int .i64 0]) (by simp [results, Tryd.results34, go_sem]) rfl ⟨rfl, (((Below.refl _ _).alloc (Nat.le_refl _) _).alloc (by simp) _).alloc (by simp; omega) _⟩
    · rw [decide_eq_false hk] at kD
      rw [if_neg hk]
      go_enter Tryd.func34, Tryd.ntmps34
      go_wp2_with fail
      go_at_call 44
      refine Calls.mono kD ?_
      rintro e wx ⟨rfl, hwx⟩
      subst hwx
      go_wp2_with fail
      first | exact bodyPost_ret (v := .tuple #[.agg #[.string ⟨#[]⟩, .int .i64 0, .int .i64 0, .int .i64 0, .int .i64 0], .int .i64 52]) (by simp [results, Tryd.results34, go_sem]) rfl ⟨rfl, hb2⟩ | exact bodyPost_ret (v := .tuple #[.agg #[.string ⟨#[]⟩, .int .i64 0, .int .i64 0, .int .i64 0, .int .i64 0], .int .i64 52]) (by simp [results, Tryd.results34, go_sem]) rfl ⟨rfl, bel5 hb2 (by simp) _ _ _ _ _⟩
end Go.Proofs.YtfmdlcfkfglnhaaDoor
