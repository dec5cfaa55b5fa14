import Derived.Test.YtoaokpmnjppfcaaWaA
namespace Go.Proofs.Ytoaokpmnjppfcaa
open Go.RowKit
set_option linter.unusedVariables false
set_option linter.unusedSimpArgs false

/-- The letter of a group. -/
def ltr (s : ByteArray) (k : Nat) : Int := ((s.data.toList.getD k 0).toNat : Int)
/-- The first that is no letter, among n from k on. -/
def msL (t : Int) (s : ByteArray) : Nat → Nat → Al
  | _, 0 => al0
  | k, n + 1 => if letB (ltr s k) then msL t s (k + 1) n else ⟨1, t, k, -1⟩
/-- The alarm of a text that is not formed. -/
def msF (n : Nat) (t : Int) (s : ByteArray) : Al := if s.size = n then msL t s 0 n else ⟨1, t, -1, -1⟩
theorem ltr_get (s : ByteArray) (k : Nat) (h : k < s.size) : ((s[k]'h).toNat : Int) = ltr s k := by
  unfold ltr
  have h' : k < s.data.toList.length := by rw [Array.length_toList]; exact h
  rw [List.getD_eq_getElem?_getD, List.getElem?_eq_getElem h']
  rfl
theorem ltr_rng (s : ByteArray) (k : Nat) : 0 ≤ ltr s k ∧ ltr s k < 256 := by
  unfold ltr
  have := (s.data.toList.getD k 0).toNat_lt
  omega

set_option maxRecDepth 100000 in
set_option maxHeartbeats 2000000 in
theorem misformed_any (n : Nat) (ag : Option Addr) (cg : Nat) (vc : Value) (t : Int) (s : ByteArray) (w : World) (hn : n ≤ 64) (hv : ∃ a m q, vc = .slice a m q) :
    Calls Try.prog 33 #[.agg #[.slice ag n cg, vc], .int .i64 t, .string s] w fun e w' => e = .returned (.agg #[.int .i64 (msF n t s).k, .int .i64 (msF n t s).t, .int .i64 (msF n t s).a, .int .i64 (msF n t s).b]) ∧ Below w.heap.size w w' := by
  obtain ⟨ac, mc, qc, rfl⟩ := hv
  have h48 := fun c W => isLetter_any c W
  have hB : Below w.heap.size w ((w.alloc (.cells #[.slice ag n cg, .slice ac mc qc] 57)).alloc (.cells #[.int .i64 0, .int .i64 0, .int .i64 0, .int .i64 0] 43)) := belA
  by_cases hs : s.size = n
  · have e : msF n t s = msL t s 0 n := by unfold msF; rw [if_pos hs]
    rw [e]
    clear e
    generalize hZ : msL t s 0 n = Z
    have hZ' : Hid (msL t s 0 n = Z) := hZ
    clear hZ
    have hs1 : ((s.size : Int) == (n : Int)) = true := by simp [hs]
    have hs2 : ((s.size : Int) != (n : Int)) = false := by simp [hs]
    have hs' : Hid (s.size = n) := hs
    clear hs
    go_enter Try.func33, Try.ntmps33
    go_wp2
    go_loopg [19] n (fun gk v wr => ∃ k : Nat, k + gk = n ∧ v = .int .i64 (k : Int) ∧ wr = ((w.alloc (.cells #[.slice ag n cg, .slice ac mc qc] 57)).alloc (.cells #[.int .i64 0, .int .i64 0, .int .i64 0, .int .i64 0] 43)) ∧ Hid (msL t s k gk = Z))
    case atStart => exact ⟨0, by omega, rfl, rfl, hZ'⟩
    case round =>
      obtain ⟨k, hk, rfl, rfl, hx⟩ := hrel
      cases gk with
      | zero =>
        have eZ : al0 = Z := hx.out
        obtain rfl : k = n := by omega
        subst eZ
        clear hZ' hx
        go_wp2
        exact bodyPost_ret (v := .agg #[.int .i64 0, .int .i64 0, .int .i64 0, .int .i64 0]) (by simp [results, Try.results33, go_sem]) rfl ⟨rfl, hB⟩
      | succ g =>
        have hkn : k < n := by omega
        have hks : k < s.size := by have := hs'.out; omega
        have hl := ltr_get s k hks
        have h48' := fun W => h48 (ltr s k) W
        have hx' : Hid ((if letB (ltr s k) then msL t s (k + 1) g else ⟨1, t, k, -1⟩) = Z) := hx.out
        rw [← hl] at h48' hx'
        generalize letB ((s[k]'hks).toNat : Int) = L at *
        clear h48 hl
        cases L with
        | true =>
          have hx2 : Hid (msL t s (k + 1) g = Z) := hx'.out
          clear hx' hx
          go_wp2_with (go_at_call 48; (with_reducible refine Calls.mono (h48' _) ?_); rintro e w2 ⟨rfl, rfl⟩)
          go_roundg g
          case measure => omega
          case rel => exact ⟨k + 1, by omega, by push_cast; rfl, rfl, hx2⟩
        | false =>
          have hx2 : (⟨1, t, k, -1⟩ : Al) = Z := hx'.out
          subst hx2
          clear hx' hx hZ'
          go_wp2_with (go_at_call 48; (with_reducible refine Calls.mono (h48' _) ?_); rintro e w2 ⟨rfl, rfl⟩)
          exact bodyPost_ret (v := .agg #[.int .i64 1, .int .i64 t, .int .i64 k, .int .i64 (-1)]) (by simp [results, Try.results33, go_sem]) rfl ⟨rfl, ((Below.refl _ _).alloc (Nat.le_refl _) _).alloc (by simp) _⟩
  · have e : msF n t s = ⟨1, t, -1, -1⟩ := by unfold msF; rw [if_neg hs]
    rw [e]
    dsimp only
    have hs2 : ((s.size : Int) != (n : Int)) = true := by simpa using (fun h : (s.size : Int) = (n : Int) => hs (by omega))
    go_enter Try.func33, Try.ntmps33
    go_wp2
    exact bodyPost_ret (v := .agg #[.int .i64 1, .int .i64 t, .int .i64 (-1), .int .i64 (-1)]) (by simp [results, Try.results33, go_sem]) rfl ⟨rfl, ((Below.refl _ _).alloc (Nat.le_refl _) _).alloc (by simp) _⟩
end Go.Proofs.Ytoaokpmnjppfcaa
