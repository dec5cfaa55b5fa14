import Derived.Test.YtjohnhaahpggkaaDoorStrB
namespace Go.Proofs.YtjohnhaahpggkaaDoor
open Go.RowKit
set_option linter.unusedVariables false

set_option maxRecDepth 100000 in
set_option maxHeartbeats 1000000 in
theorem next_any (s : ByteArray) (i j : Nat) (w : World) (hij : i ≤ j) (hj : j ≤ s.size) (hs : s.size < 4611686018427387904) :
    Calls Tryd.prog 48 #[.string s, .int .i64 i, .int .i64 j, .agg #[.int .i64 (lineAt s i), .int .i64 (colAt s i)]] w fun e w' => e = .returned (.agg #[.int .i64 (lineAt s j), .int .i64 (colAt s j)]) ∧ Below w.heap.size w w' := by
  go_enter Tryd.func48, Tryd.ntmps48
  go_wp2
  go_loopw [1] (fun t wr => ∃ k : Nat, k ≤ j ∧ t = .int .i64 k ∧ Below w.heap.size w wr ∧ Has wr w.heap.size #[.int .i64 (lineAt s k), .int .i64 (colAt s k)] ∧ Has wr (w.heap.size + 1) #[.int .i64 0, .int .i64 0]) (fun t _ => j - (intOf t).toNat)
  case atStart => exact ⟨i, hij, rfl, ((Below.refl _ _).alloc (Nat.le_refl _) _).alloc (by simp) _, (Has.new _ _ _ rfl).alloc _, Has.new _ _ _ (by simp)⟩
  case round =>
    obtain ⟨k, hk, rfl, hB, hP, hR⟩ := hrel
    have bl := lineAt_bd s k
    have bc := colAt_bd s k
    obtain ⟨p0, P1, p2⟩ := id hP
    obtain ⟨r0, R1, r2⟩ := id hR
    by_cases hlt : k < j
    · by_cases h10 : (s[k].toNat : Int) = 10
      · have hl := lineAt_hit s k (by omega) h10
        have hc := colAt_hit s k (by omega) h10
        have HL : Hid (lineAt s (k + 1) = lineAt s k + 1) := hl
        have HC : Hid (colAt s (k + 1) = 1) := hc
        clear hl hc
        go_wp2
        go_roundw
        case rel => exact ⟨k + 1, by omega, by go_num, ((hB.setCell (by simp) _).setCell (by simp) _).setCell (by simp) _, by rw [HL.out, HC.out]; exact ((hP.set 1 (by simp) _).set 0 (by simp) _).set 1 (by simp) _, ((hR.far (by omega) _).far (by omega) _).far (by omega) _⟩
        case measure => simp [intOf]; omega
      · have hl := lineAt_miss s k (by omega) h10
        have hc := colAt_miss s k (by omega) h10
        have HL : Hid (lineAt s (k + 1) = lineAt s k) := hl
        have HC : Hid (colAt s (k + 1) = colAt s k + 1) := hc
        clear hl hc
        go_wp2
        go_roundw
        case rel => exact ⟨k + 1, by omega, by go_num, hB.setCell (by simp) _, by rw [HL.out, HC.out]; exact hP.set 1 (by simp) _, hR.far (by omega) _⟩
        case measure => simp [intOf]; omega
    · obtain rfl : k = j := by omega
      go_wp2
      have hX : Has ((wr.setCell ⟨w.heap.size + 1, 0, none⟩ (.int .i64 (lineAt s k))).setCell ⟨w.heap.size + 1, 1, none⟩ (.int .i64 (colAt s k))) (w.heap.size + 1) #[.int .i64 (lineAt s k), .int .i64 (colAt s k)] := (hR.set 0 (by simp) _).set 1 (by simp) _
      obtain ⟨x0, X1, x2⟩ := hX
      exact bodyPost_ret (v := .agg #[.int .i64 (lineAt s k), .int .i64 (colAt s k)]) (by simp [results, Tryd.results48, go_sem, X1]) rfl ⟨rfl, (hB.setCell (by simp) _).setCell (by simp) _⟩

/-- What the reference's 'one' tells of the token at i. -/
def OneRes (T : Tk × Nat) (i : Nat) (tk : Tk) (en er : Int) : Prop := (T.1.kind ≠ -1 → tk = T.1 ∧ en = ((i + T.2 : Nat) : Int) ∧ er = 0) ∧ (T.1.kind = -1 → er = T.1.num ∧ er ≠ 0)

theorem drop_head (s : ByteArray) (i : Nat) (h : i < s.size) : s.data.toList.drop i = s[i] :: s.data.toList.drop (i + 1) := drop_get s i h
theorem run_cons (c : UInt8) (r : List UInt8) (h : isR c = true) : ∃ r', runL (c :: r) = c :: r' := ⟨r.takeWhile isR, by unfold runL; rw [List.takeWhile_cons_of_pos h]⟩
theorem run_all (l : List UInt8) : (runL l).all isR = true := List.all_takeWhile

/-- KindOf of a run that begins with a letter, of at most 32 bytes. -/
theorem kind_run (l : List UInt8) (c : UInt8) (r : List UInt8) (hl : l = c :: r) (hL : isL c = true) (h32 : ¬ 32 < (runL l).length) : kindL (runL l) = if kwK (runL l) = -1 then 1 else kwK (runL l) := by
  obtain ⟨r', hr⟩ := run_cons c r (isR_of_L hL)
  have ha := run_all l
  rw [hl] at ha h32 ⊢
  rw [hr] at ha h32 ⊢
  unfold kindL restK
  have hs := sg_run c r' (isR_of_L hL)
  by_cases hk : kwK (c :: r') = -1
  · rw [if_neg (by simp [hk]), if_neg (by simp [hs]), if_neg (by simp [ha]), if_pos (show isL ((c :: r').headD 0) = true from hL), if_neg h32, if_pos hk]
  · rw [if_pos hk, if_neg hk]

set_option maxRecDepth 100000 in
set_option maxHeartbeats 4000000 in
theorem one_letter (s : ByteArray) (i : Nat) (w : World) (hs : s.size < 4611686018427387904) (hi : i < s.size) (hK : Kt w) (hS : St w) (hL : isL s[i] = true) :
    Calls Tryd.prog 47 #[.string s, .int .i64 i] w fun e w' => (∃ tk en er, e = .returned (.tuple #[tokV tk 0 0, .int .i64 en, .int .i64 er]) ∧ OneRes (firstTk (s.data.toList.drop i)) i tk en er) ∧ Below w.heap.size w w' := by
  have hT : firstTk (s.data.toList.drop i) = (wordTk (runL (s.data.toList.drop i)), (runL (s.data.toList.drop i)).length) := by
    rw [drop_head s i hi]; exact first_L _ _ hL
  have hRE := fun w => runEnd_any s i w hs (by omega)
  have hLt := fun w => letter_any s[i] w
  have hrun := rEnd_run s i
  have hle := rEnd_le s i (by omega)
  have hge : i ≤ rEnd s i := by unfold rEnd; omega
  have hrsz : (s.extract i (rEnd s i)).size = rEnd s i - i := by simp; omega
  have hlen : (runL (s.data.toList.drop i)).length = rEnd s i - i := by unfold rEnd; omega
  have hWa : Kt (w.alloc (.cells #[.int .i64 0, .int .i32 0, .string ⟨#[]⟩, .int .i64 0, .int .i64 0] 36)) := hK.below ((Below.refl w.heap.size w).alloc (Nat.le_refl _) _) hK.1
  have hSa : St (w.alloc (.cells #[.int .i64 0, .int .i32 0, .string ⟨#[]⟩, .int .i64 0, .int .i64 0] 36)) := hS.below ((Below.refl w.heap.size w).alloc (Nat.le_refl _) _) hS.1
  have hKO := refKindOf_any (s.extract i (rEnd s i)) _ (by rw [hrsz]; omega) hWa hSa
  have hKR := kind_run _ _ _ (drop_head s i hi) hL
  rw [hrun] at hKO
  rw [hL] at hLt
  rw [hT]
  have e1 : (0 : Int) ≤ (i : Int) := by omega
  have e2 : (i : Int) ≤ ((rEnd s i : Nat) : Int) := by omega
  have e3 : ((rEnd s i : Nat) : Int) ≤ (s.size : Int) := by omega
  have hbs : s.extract i (rEnd s i) = bs (runL (s.data.toList.drop i)) := by rw [← hrun]; rfl
  rw [hlen] at hKR
  have hWT : wordTk (runL (s.data.toList.drop i)) = if 32 < rEnd s i - i then ⟨-1, 24, []⟩ else if kwK (runL (s.data.toList.drop i)) = -1 then ⟨1, 0, runL (s.data.toList.drop i)⟩ else ⟨kwK (runL (s.data.toList.drop i)), 0, []⟩ := by unfold wordTk; rw [hlen]
  have hkm := kwK_mem (runL (s.data.toList.drop i))
  generalize kwK (runL (s.data.toList.drop i)) = KW at hKR hWT hkm
  generalize kindL (runL (s.data.toList.drop i)) = KL at hKO hKR
  have hiE : i + (runL (s.data.toList.drop i)).length = rEnd s i := by omega
  rw [hbs] at hKO hrsz
  generalize runL (s.data.toList.drop i) = RL at *
  generalize rEnd s i = E at *
  clear hT hrun hL hK hS hWa hSa
  by_cases h32 : 32 < E - i
  · have HO : Hid (OneRes (wordTk RL, RL.length) i ⟨0, 0, []⟩ i 24) := by
      rw [hWT, if_pos h32]; exact ⟨fun h => absurd rfl h, fun _ => ⟨rfl, by omega⟩⟩
    have h32' : (32 : Int) < ((E - i : Nat) : Int) := by omega
    clear hWT hKR hkm hKO
    go_enter Tryd.func47, Tryd.ntmps47
    go_wp2_with (first
      | (go_at_call 25; (with_reducible refine (hRE _).mono ?_); rintro e w1 ⟨rfl, hwe⟩; subst hwe)
      | (go_at_call 26; (with_reducible refine (hLt _).mono ?_); rintro e w1 ⟨rfl, hwe⟩; subst hwe))
    exact bodyPost_ret (v := .tuple #[.agg #[.int .i64 0, .int .i32 0, .string ⟨#[]⟩, .int .i64 0, .int .i64 0], .int .i64 i, .int .i64 24]) (by simp [results, Tryd.results47, go_sem]) rfl ⟨⟨⟨0, 0, []⟩, i, 24, rfl, HO.out⟩, (Below.refl _ _).alloc (Nat.le_refl _) _⟩
  · have h32' : ¬ (32 : Int) < ((E - i : Nat) : Int) := by omega
    rw [if_neg h32] at hWT
    have hKR' := hKR h32
    by_cases hk : KW = -1
    · rw [if_pos hk] at hWT hKR'
      have HO : Hid (OneRes (wordTk RL, RL.length) i ⟨1, 0, RL⟩ E 0) := by
        rw [hWT]; exact ⟨fun _ => ⟨rfl, by simp only; omega, rfl⟩, fun h => by simp at h⟩
      rw [hKR'] at hKO
      clear hWT hKR hkm hKR' hk
      obtain ⟨BR, hBR⟩ : ∃ BR, bs RL = BR := ⟨_, rfl⟩
      rw [hBR] at hKO hbs hrsz
      have HBR := hid_of hBR
      clear hBR
      go_enter Tryd.func47, Tryd.ntmps47
      go_wp2_with (first
        | (go_at_call 25; (with_reducible refine (hRE _).mono ?_); rintro e w1 ⟨rfl, hwe⟩; subst hwe)
        | (go_at_call 26; (with_reducible refine (hLt _).mono ?_); rintro e w1 ⟨rfl, hwe⟩; subst hwe)
        | (go_at_call 13; (with_reducible refine hKO.mono ?_); rintro e w2 ⟨rfl, hb2⟩; have hX2 := (Has.new w #[.int .i64 0, .int .i32 0, .string ⟨#[]⟩, .int .i64 0, .int .i64 0] 36 rfl).below hb2; obtain ⟨x0, X1, x2⟩ := id hX2))
      obtain ⟨y0, Y1, y2⟩ := hX2.set5 (.int .i64 1) (.int .i32 0) (.string BR) (.int .i64 0) (.int .i64 0)
      exact bodyPost_ret (v := .tuple #[.agg #[.int .i64 1, .int .i32 0, .string BR, .int .i64 0, .int .i64 0], .int .i64 E, .int .i64 0]) (by simp [results, Tryd.results47, go_sem, Y1]) rfl ⟨⟨⟨1, 0, RL⟩, E, 0, by rw [tokV_eq, HBR.out], HO.out⟩, bel5 (((Below.refl _ _).alloc (Nat.le_refl _) _).trans (hb2.mono (by simp))) (Nat.le_refl _) _ _ _ _ _⟩
    · rw [if_neg hk] at hWT hKR'
      have hk1 : ¬ KW = 1 := by omega
      have HO : Hid (OneRes (wordTk RL, RL.length) i ⟨KW, 0, []⟩ E 0) := by
        rw [hWT]; exact ⟨fun _ => ⟨rfl, by simp only; omega, rfl⟩, fun h => absurd h hk⟩
      rw [hKR'] at hKO
      clear hWT hKR hkm hKR' hk
      obtain ⟨BR, hBR⟩ : ∃ BR, bs RL = BR := ⟨_, rfl⟩
      rw [hBR] at hKO hbs hrsz
      have HBR := hid_of hBR
      clear hBR
      go_enter Tryd.func47, Tryd.ntmps47
      go_wp2_with (first
        | (go_at_call 25; (with_reducible refine (hRE _).mono ?_); rintro e w1 ⟨rfl, hwe⟩; subst hwe)
        | (go_at_call 26; (with_reducible refine (hLt _).mono ?_); rintro e w1 ⟨rfl, hwe⟩; subst hwe)
        | (go_at_call 13; (with_reducible refine hKO.mono ?_); rintro e w2 ⟨rfl, hb2⟩; have hX2 := (Has.new w #[.int .i64 0, .int .i32 0, .string ⟨#[]⟩, .int .i64 0, .int .i64 0] 36 rfl).below hb2; obtain ⟨x0, X1, x2⟩ := id hX2))
      obtain ⟨y0, Y1, y2⟩ := hX2.set5 (.int .i64 KW) (.int .i32 0) (.string ⟨#[]⟩) (.int .i64 0) (.int .i64 0)
      exact bodyPost_ret (v := .tuple #[.agg #[.int .i64 KW, .int .i32 0, .string ⟨#[]⟩, .int .i64 0, .int .i64 0], .int .i64 E, .int .i64 0]) (by simp [results, Tryd.results47, go_sem, Y1]) rfl ⟨⟨⟨KW, 0, []⟩, E, 0, rfl, HO.out⟩, bel5 (((Below.refl _ _).alloc (Nat.le_refl _) _).trans (hb2.mono (by simp))) (Nat.le_refl _) _ _ _ _ _⟩

set_option maxRecDepth 100000 in
set_option maxHeartbeats 4000000 in
theorem one_digit (s : ByteArray) (i : Nat) (w : World) (hs : s.size < 4611686018427387904) (hi : i < s.size) (hL : isL s[i] = false) (hD : isD s[i] = true) :
    Calls Tryd.prog 47 #[.string s, .int .i64 i] w fun e w' => (∃ tk en er, e = .returned (.tuple #[tokV tk 0 0, .int .i64 en, .int .i64 er]) ∧ OneRes (firstTk (s.data.toList.drop i)) i tk en er) ∧ Below w.heap.size w w' := by
  have hT : firstTk (s.data.toList.drop i) = (numTk (runL (s.data.toList.drop i)), (runL (s.data.toList.drop i)).length) := by
    rw [drop_head s i hi]; exact first_D _ _ hL hD
  have hRE := fun w => runEnd_any s i w hs (by omega)
  have hLt := fun w => letter_any s[i] w
  have hDg := fun w => digit_any s[i] w
  have hrun := rEnd_run s i
  have hle := rEnd_le s i (by omega)
  have hge : i ≤ rEnd s i := by unfold rEnd; omega
  have hlen : (runL (s.data.toList.drop i)).length = rEnd s i - i := by unfold rEnd; omega
  have hN := fun w => refNumber_any (s.extract i (rEnd s i)) w (by simp; omega)
  rw [hrun] at hN
  unfold numA at hN
  rw [hL] at hLt
  rw [hD] at hDg
  rw [hT]
  have e1 : (0 : Int) ≤ (i : Int) := by omega
  have e2 : (i : Int) ≤ ((rEnd s i : Nat) : Int) := by omega
  have e3 : ((rEnd s i : Nat) : Int) ≤ (s.size : Int) := by omega
  have hNT : numTk (runL (s.data.toList.drop i)) = if numE (numOf (runL (s.data.toList.drop i))) = 0 then ⟨2, numV (numOf (runL (s.data.toList.drop i))), []⟩ else ⟨-1, numE (numOf (runL (s.data.toList.drop i))), []⟩ := rfl
  generalize numE (numOf (runL (s.data.toList.drop i))) = NE at hN hNT
  generalize numV (numOf (runL (s.data.toList.drop i))) = NV at hN hNT
  have HO : Hid (OneRes (numTk (runL (s.data.toList.drop i)), (runL (s.data.toList.drop i)).length) i ⟨2, NV, []⟩ ((rEnd s i : Nat) : Int) NE) := by
    show OneRes _ _ _ _ _
    rw [hNT]
    by_cases h : NE = 0
    · rw [if_pos h]; exact ⟨fun _ => ⟨rfl, by simp only; omega, h⟩, fun h => by simp at h⟩
    · rw [if_neg h]; exact ⟨fun h => absurd rfl h, fun _ => ⟨rfl, h⟩⟩
  generalize (numTk (runL (s.data.toList.drop i)), (runL (s.data.toList.drop i)).length) = T at HO ⊢
  clear hT hrun hL hD hNT hlen
  generalize rEnd s i = E at *
  go_enter Tryd.func47, Tryd.ntmps47
  go_wp2_with (first
    | (go_at_call 25; (with_reducible refine (hRE _).mono ?_); rintro e w1 ⟨rfl, hwe⟩; subst hwe)
    | (go_at_call 26; (with_reducible refine (hLt _).mono ?_); rintro e w1 ⟨rfl, hwe⟩; subst hwe)
    | (go_at_call 40; (with_reducible refine (hDg _).mono ?_); rintro e w1 ⟨rfl, hwe⟩; subst hwe)
    | (go_at_call 9; (with_reducible refine (hN _).mono ?_); rintro e w2 ⟨rfl, hb2⟩; have hX2 := (Has.new w #[.int .i64 0, .int .i32 0, .string ⟨#[]⟩, .int .i64 0, .int .i64 0] 36 rfl).below hb2; obtain ⟨x0, X1, x2⟩ := id hX2))
  obtain ⟨y0, Y1, y2⟩ := hX2.set5 (.int .i64 2) (.int .i32 NV) (.string ⟨#[]⟩) (.int .i64 0) (.int .i64 0)
  exact bodyPost_ret (v := .tuple #[.agg #[.int .i64 2, .int .i32 NV, .string ⟨#[]⟩, .int .i64 0, .int .i64 0], .int .i64 E, .int .i64 NE]) (by simp [results, Tryd.results47, go_sem, Y1]) rfl ⟨⟨⟨2, NV, []⟩, E, NE, rfl, HO.out⟩, bel5 (((Below.refl _ _).alloc (Nat.le_refl _) _).trans (hb2.mono (by simp))) (Nat.le_refl _) _ _ _ _ _⟩
end Go.Proofs.YtjohnhaahpggkaaDoor
