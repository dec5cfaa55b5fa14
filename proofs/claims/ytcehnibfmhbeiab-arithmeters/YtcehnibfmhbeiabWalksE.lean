import Derived.Test.YtcehnibfmhbeiabWalksC
import Derived.Test.YtcehnibfmhbeiabWalksD
namespace Go.Proofs.Ytcehnibfmhbeiab
open Go.RowKit
set_option linter.unusedVariables false

theorem sense_any (s : ByteArray) (latch on mem raw : Bool) (delay hold run left : Int) (w : World) (h1 : -2147483648 ≤ run) (h2 : run ≤ 2147483647) (hlb : left ≤ 2147483647) :
    Calls Try.prog 8 #[.agg #[.string s, .bool latch, .int .i64 delay, .int .i64 hold], .agg #[.int .i32 run, .int .i32 left, .bool on, .bool mem], .bool raw] w
      fun e w' => e = .returned (.agg #[.int .i32 (sRun raw run), .int .i32 (sLeft raw run delay hold left), .bool (sOn raw run delay left), .bool (sMem raw latch mem run delay)]) ∧ Below w.heap.size w w' := by
  have hu := fun w => up_any run w h1 h2
  have ht := fun w => ticks_any delay w
  have hh := fun w => ticks_any hold w
  have hdl := (tickF_bd delay).1
  cases raw
  · have hact := hdl
    have hneg : ¬ tickF delay < 0 := by omega
    by_cases hl : 0 < left
    · cases latch
      · exact (sense_nih_fx s on mem delay hold run left _ _ _ w hu ht hh hact hl hlb).mono fun _ _ h => ⟨h.1.trans (ret_det (by unfold sRun; rfl) (by unfold sLeft sAct sRun; simp [*]) (by unfold sOn sAct sRun; simp [*]) (by unfold sMem sAct sRun; simp [*])), h.2⟩
      · cases mem
        · exact (sense_nih_tf s on delay hold run left _ _ _ w hu ht hh hact hl hlb).mono fun _ _ h => ⟨h.1.trans (ret_det (by unfold sRun; rfl) (by unfold sLeft sAct sRun; simp [*]) (by unfold sOn sAct sRun; simp [*]) (by unfold sMem sAct sRun; simp [*])), h.2⟩
        · exact (sense_nih_tt s on delay hold run left _ _ _ w hu ht hh hact hl hlb).mono fun _ _ h => ⟨h.1.trans (ret_det (by unfold sRun; rfl) (by unfold sLeft sAct sRun; simp [*]) (by unfold sOn sAct sRun; simp [*]) (by unfold sMem sAct sRun; simp [*])), h.2⟩
    · cases latch
      · exact (sense_niz_fx s on mem delay hold run left _ _ _ w hu ht hh hact hl hlb).mono fun _ _ h => ⟨h.1.trans (ret_det (by unfold sRun; rfl) (by unfold sLeft sAct sRun; simp [*]) (by unfold sOn sAct sRun; simp [*]) (by unfold sMem sAct sRun; simp [*])), h.2⟩
      · cases mem
        · exact (sense_niz_tf s on delay hold run left _ _ _ w hu ht hh hact hl hlb).mono fun _ _ h => ⟨h.1.trans (ret_det (by unfold sRun; rfl) (by unfold sLeft sAct sRun; simp [*]) (by unfold sOn sAct sRun; simp [*]) (by unfold sMem sAct sRun; simp [*])), h.2⟩
        · exact (sense_niz_tt s on delay hold run left _ _ _ w hu ht hh hact hl hlb).mono fun _ _ h => ⟨h.1.trans (ret_det (by unfold sRun; rfl) (by unfold sLeft sAct sRun; simp [*]) (by unfold sOn sAct sRun; simp [*]) (by unfold sMem sAct sRun; simp [*])), h.2⟩
  · by_cases hact : tickF delay < upF run
    · by_cases hl : 0 < left
      · cases latch
        · exact (sense_rah_fx s on mem delay hold run left _ _ _ w hu ht hh hact hl hlb).mono fun _ _ h => ⟨h.1.trans (ret_det (by unfold sRun; rfl) (by unfold sLeft sAct sRun; simp [*]) (by unfold sOn sAct sRun; simp [*]) (by unfold sMem sAct sRun; simp [*])), h.2⟩
        · cases mem
          · exact (sense_rah_tf s on delay hold run left _ _ _ w hu ht hh hact hl hlb).mono fun _ _ h => ⟨h.1.trans (ret_det (by unfold sRun; rfl) (by unfold sLeft sAct sRun; simp [*]) (by unfold sOn sAct sRun; simp [*]) (by unfold sMem sAct sRun; simp [*])), h.2⟩
          · exact (sense_rah_tt s on delay hold run left _ _ _ w hu ht hh hact hl hlb).mono fun _ _ h => ⟨h.1.trans (ret_det (by unfold sRun; rfl) (by unfold sLeft sAct sRun; simp [*]) (by unfold sOn sAct sRun; simp [*]) (by unfold sMem sAct sRun; simp [*])), h.2⟩
      · cases latch
        · exact (sense_raz_fx s on mem delay hold run left _ _ _ w hu ht hh hact hl hlb).mono fun _ _ h => ⟨h.1.trans (ret_det (by unfold sRun; rfl) (by unfold sLeft sAct sRun; simp [*]) (by unfold sOn sAct sRun; simp [*]) (by unfold sMem sAct sRun; simp [*])), h.2⟩
        · cases mem
          · exact (sense_raz_tf s on delay hold run left _ _ _ w hu ht hh hact hl hlb).mono fun _ _ h => ⟨h.1.trans (ret_det (by unfold sRun; rfl) (by unfold sLeft sAct sRun; simp [*]) (by unfold sOn sAct sRun; simp [*]) (by unfold sMem sAct sRun; simp [*])), h.2⟩
          · exact (sense_raz_tt s on delay hold run left _ _ _ w hu ht hh hact hl hlb).mono fun _ _ h => ⟨h.1.trans (ret_det (by unfold sRun; rfl) (by unfold sLeft sAct sRun; simp [*]) (by unfold sOn sAct sRun; simp [*]) (by unfold sMem sAct sRun; simp [*])), h.2⟩
    · by_cases hl : 0 < left
      · cases latch
        · exact (sense_rih_fx s on mem delay hold run left _ _ _ w hu ht hh hact hl hlb).mono fun _ _ h => ⟨h.1.trans (ret_det (by unfold sRun; rfl) (by unfold sLeft sAct sRun; simp [*]) (by unfold sOn sAct sRun; simp [*]) (by unfold sMem sAct sRun; simp [*])), h.2⟩
        · cases mem
          · exact (sense_rih_tf s on delay hold run left _ _ _ w hu ht hh hact hl hlb).mono fun _ _ h => ⟨h.1.trans (ret_det (by unfold sRun; rfl) (by unfold sLeft sAct sRun; simp [*]) (by unfold sOn sAct sRun; simp [*]) (by unfold sMem sAct sRun; simp [*])), h.2⟩
          · exact (sense_rih_tt s on delay hold run left _ _ _ w hu ht hh hact hl hlb).mono fun _ _ h => ⟨h.1.trans (ret_det (by unfold sRun; rfl) (by unfold sLeft sAct sRun; simp [*]) (by unfold sOn sAct sRun; simp [*]) (by unfold sMem sAct sRun; simp [*])), h.2⟩
      · cases latch
        · exact (sense_riz_fx s on mem delay hold run left _ _ _ w hu ht hh hact hl hlb).mono fun _ _ h => ⟨h.1.trans (ret_det (by unfold sRun; rfl) (by unfold sLeft sAct sRun; simp [*]) (by unfold sOn sAct sRun; simp [*]) (by unfold sMem sAct sRun; simp [*])), h.2⟩
        · cases mem
          · exact (sense_riz_tf s on delay hold run left _ _ _ w hu ht hh hact hl hlb).mono fun _ _ h => ⟨h.1.trans (ret_det (by unfold sRun; rfl) (by unfold sLeft sAct sRun; simp [*]) (by unfold sOn sAct sRun; simp [*]) (by unfold sMem sAct sRun; simp [*])), h.2⟩
          · exact (sense_riz_tt s on delay hold run left _ _ _ w hu ht hh hact hl hlb).mono fun _ _ h => ⟨h.1.trans (ret_det (by unfold sRun; rfl) (by unfold sLeft sAct sRun; simp [*]) (by unfold sOn sAct sRun; simp [*]) (by unfold sMem sAct sRun; simp [*])), h.2⟩

theorem refSense_any (s : ByteArray) (latch on mem raw : Bool) (delay hold run left : Int) (w : World) (h1 : -2147483648 ≤ run) (h2 : run ≤ 2147483647) (hlb : left ≤ 2147483647) :
    Calls Try.prog 9 #[.agg #[.string s, .bool latch, .int .i64 delay, .int .i64 hold], .agg #[.int .i32 run, .int .i32 left, .bool on, .bool mem], .bool raw] w
      fun e w' => e = .returned (.agg #[.int .i32 (sRun raw run), .int .i32 (sLeft raw run delay hold left), .bool (sOn raw run delay left), .bool (sMem raw latch mem run delay)]) ∧ Below w.heap.size w w' := by
  have hu := fun w => refUp_any run w h1 h2
  have ht := fun w => within_any delay w
  have hh := fun w => within_any hold w
  have hdl := (tickF_bd delay).1
  cases raw
  · have hact := hdl
    have hneg : ¬ tickF delay < 0 := by omega
    by_cases hl : 0 < left
    · cases latch
      · exact (refSense_nih_fx s on mem delay hold run left _ _ _ w hu ht hh hact hl hlb).mono fun _ _ h => ⟨h.1.trans (ret_det (by unfold sRun; rfl) (by unfold sLeft sAct sRun; simp [*]) (by unfold sOn sAct sRun; simp [*]) (by unfold sMem sAct sRun; simp [*])), h.2⟩
      · cases mem
        · exact (refSense_nih_tf s on delay hold run left _ _ _ w hu ht hh hact hl hlb).mono fun _ _ h => ⟨h.1.trans (ret_det (by unfold sRun; rfl) (by unfold sLeft sAct sRun; simp [*]) (by unfold sOn sAct sRun; simp [*]) (by unfold sMem sAct sRun; simp [*])), h.2⟩
        · exact (refSense_nih_tt s on delay hold run left _ _ _ w hu ht hh hact hl hlb).mono fun _ _ h => ⟨h.1.trans (ret_det (by unfold sRun; rfl) (by unfold sLeft sAct sRun; simp [*]) (by unfold sOn sAct sRun; simp [*]) (by unfold sMem sAct sRun; simp [*])), h.2⟩
    · cases latch
      · exact (refSense_niz_fx s on mem delay hold run left _ _ _ w hu ht hh hact hl hlb).mono fun _ _ h => ⟨h.1.trans (ret_det (by unfold sRun; rfl) (by unfold sLeft sAct sRun; simp [*]) (by unfold sOn sAct sRun; simp [*]) (by unfold sMem sAct sRun; simp [*])), h.2⟩
      · cases mem
        · exact (refSense_niz_tf s on delay hold run left _ _ _ w hu ht hh hact hl hlb).mono fun _ _ h => ⟨h.1.trans (ret_det (by unfold sRun; rfl) (by unfold sLeft sAct sRun; simp [*]) (by unfold sOn sAct sRun; simp [*]) (by unfold sMem sAct sRun; simp [*])), h.2⟩
        · exact (refSense_niz_tt s on delay hold run left _ _ _ w hu ht hh hact hl hlb).mono fun _ _ h => ⟨h.1.trans (ret_det (by unfold sRun; rfl) (by unfold sLeft sAct sRun; simp [*]) (by unfold sOn sAct sRun; simp [*]) (by unfold sMem sAct sRun; simp [*])), h.2⟩
  · by_cases hact : tickF delay < upF run
    · by_cases hl : 0 < left
      · cases latch
        · exact (refSense_rah_fx s on mem delay hold run left _ _ _ w hu ht hh hact hl hlb).mono fun _ _ h => ⟨h.1.trans (ret_det (by unfold sRun; rfl) (by unfold sLeft sAct sRun; simp [*]) (by unfold sOn sAct sRun; simp [*]) (by unfold sMem sAct sRun; simp [*])), h.2⟩
        · cases mem
          · exact (refSense_rah_tf s on delay hold run left _ _ _ w hu ht hh hact hl hlb).mono fun _ _ h => ⟨h.1.trans (ret_det (by unfold sRun; rfl) (by unfold sLeft sAct sRun; simp [*]) (by unfold sOn sAct sRun; simp [*]) (by unfold sMem sAct sRun; simp [*])), h.2⟩
          · exact (refSense_rah_tt s on delay hold run left _ _ _ w hu ht hh hact hl hlb).mono fun _ _ h => ⟨h.1.trans (ret_det (by unfold sRun; rfl) (by unfold sLeft sAct sRun; simp [*]) (by unfold sOn sAct sRun; simp [*]) (by unfold sMem sAct sRun; simp [*])), h.2⟩
      · cases latch
        · exact (refSense_raz_fx s on mem delay hold run left _ _ _ w hu ht hh hact hl hlb).mono fun _ _ h => ⟨h.1.trans (ret_det (by unfold sRun; rfl) (by unfold sLeft sAct sRun; simp [*]) (by unfold sOn sAct sRun; simp [*]) (by unfold sMem sAct sRun; simp [*])), h.2⟩
        · cases mem
          · exact (refSense_raz_tf s on delay hold run left _ _ _ w hu ht hh hact hl hlb).mono fun _ _ h => ⟨h.1.trans (ret_det (by unfold sRun; rfl) (by unfold sLeft sAct sRun; simp [*]) (by unfold sOn sAct sRun; simp [*]) (by unfold sMem sAct sRun; simp [*])), h.2⟩
          · exact (refSense_raz_tt s on delay hold run left _ _ _ w hu ht hh hact hl hlb).mono fun _ _ h => ⟨h.1.trans (ret_det (by unfold sRun; rfl) (by unfold sLeft sAct sRun; simp [*]) (by unfold sOn sAct sRun; simp [*]) (by unfold sMem sAct sRun; simp [*])), h.2⟩
    · by_cases hl : 0 < left
      · cases latch
        · exact (refSense_rih_fx s on mem delay hold run left _ _ _ w hu ht hh hact hl hlb).mono fun _ _ h => ⟨h.1.trans (ret_det (by unfold sRun; rfl) (by unfold sLeft sAct sRun; simp [*]) (by unfold sOn sAct sRun; simp [*]) (by unfold sMem sAct sRun; simp [*])), h.2⟩
        · cases mem
          · exact (refSense_rih_tf s on delay hold run left _ _ _ w hu ht hh hact hl hlb).mono fun _ _ h => ⟨h.1.trans (ret_det (by unfold sRun; rfl) (by unfold sLeft sAct sRun; simp [*]) (by unfold sOn sAct sRun; simp [*]) (by unfold sMem sAct sRun; simp [*])), h.2⟩
          · exact (refSense_rih_tt s on delay hold run left _ _ _ w hu ht hh hact hl hlb).mono fun _ _ h => ⟨h.1.trans (ret_det (by unfold sRun; rfl) (by unfold sLeft sAct sRun; simp [*]) (by unfold sOn sAct sRun; simp [*]) (by unfold sMem sAct sRun; simp [*])), h.2⟩
      · cases latch
        · exact (refSense_riz_fx s on mem delay hold run left _ _ _ w hu ht hh hact hl hlb).mono fun _ _ h => ⟨h.1.trans (ret_det (by unfold sRun; rfl) (by unfold sLeft sAct sRun; simp [*]) (by unfold sOn sAct sRun; simp [*]) (by unfold sMem sAct sRun; simp [*])), h.2⟩
        · cases mem
          · exact (refSense_riz_tf s on delay hold run left _ _ _ w hu ht hh hact hl hlb).mono fun _ _ h => ⟨h.1.trans (ret_det (by unfold sRun; rfl) (by unfold sLeft sAct sRun; simp [*]) (by unfold sOn sAct sRun; simp [*]) (by unfold sMem sAct sRun; simp [*])), h.2⟩
          · exact (refSense_riz_tt s on delay hold run left _ _ _ w hu ht hh hact hl hlb).mono fun _ _ h => ⟨h.1.trans (ret_det (by unfold sRun; rfl) (by unfold sLeft sAct sRun; simp [*]) (by unfold sOn sAct sRun; simp [*]) (by unfold sMem sAct sRun; simp [*])), h.2⟩

end Go.Proofs.Ytcehnibfmhbeiab
