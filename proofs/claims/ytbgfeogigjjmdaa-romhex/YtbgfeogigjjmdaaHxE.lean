import Derived.Test.YtbgfeogigjjmdaaHxD
namespace Go.Proofs.Ytbgfeogigjjmdaa
open Go.RowKit
set_option linter.unusedVariables false

theorem isB_row {B b : Nat} {xs : List Value} {w : World} (h : Lib.IsBuilder 52 5 B b xs w) : ∀ p v fr, w.heap[b]? = some (.cells #[p, v] 52 fr) → ∀ g, v.ownBlock = some g → g < w.heap.size := by
  intro p v fr hb g hg
  have key : ∀ q, Lib.BuilderAt 52 5 B b q xs w → g < w.heap.size := by
    rintro q ⟨_, u, hu, hown, _⟩
    rw [hu] at hb
    rw [← cells_inj hb] at hg
    exact (own_lt hown g hg).2
  rcases h with h | h
  · exact key _ h
  · exact key _ h
theorem apart_new {B b : Nat} {X : List Nat} {w : World} (h : Bd B b X w) (o : Obj) : Apart b w.heap.size (w.alloc o) := by
  have hl := h.lt
  refine ⟨by omega, by simp, fun p v fr hb hg => ?_⟩
  rw [Below.heap_alloc _ _ _ hl] at hb
  have := isB_row h.1 p v fr hb _ hg
  omega
/-- A new row of bytes, laid beside a builder. -/
theorem Bsa.new {B b : Nat} {X : List Nat} {w : World} (h : Bd B b X w) (L : List Nat) (hL : ∀ x ∈ L, x < 256) : Bsa b (w.alloc (.cells (v8 L).toArray 5)) (some ⟨w.heap.size, 0, none⟩) L := by
  refine ⟨⟨hL, .inr ⟨w.heap.size, 0, rfl, by simp, fun i hi => ?_⟩⟩, .inr ⟨w.heap.size, 0, rfl, apart_new h _⟩⟩
  have := (Has.new w (v8 L).toArray 5 rfl).2.1 (0 + i)
  rw [this, Nat.zero_add]
  simp [v8, hi]
/-- A record, as a line. -/
def chk (L : List Nat) : Nat := (256 - L.sum % 256) % 256
def hd4 (kind address : Nat) (L : List Nat) : List Nat := [L.length % 256, address / 256 % 256, address % 256, kind]
def recT (kind address : Nat) (L : List Nat) : List Nat := [58] ++ hx (hd4 kind address L) ++ hx L ++ hx [chk (hd4 kind address L ++ L)] ++ [10]
theorem recT_len (kind address : Nat) (L : List Nat) : (recT kind address L).length = 12 + 2 * L.length := by
  simp only [recT, List.length_append, hx_len, hd4, List.length_cons, List.length_nil]; omega
theorem hd4_lt {kind address : Nat} {L : List Nat} (hk : kind < 256) : ∀ x ∈ hd4 kind address L, x < 256 := by
  intro x hx
  simp only [hd4, List.mem_cons, List.not_mem_nil, or_false] at hx
  omega

set_option maxRecDepth 100000 in
set_option maxHeartbeats 4000000 in
theorem wrec_any (B b : Nat) (X L : List Nat) (kind address : Nat) (a : Option Addr) (cap : Nat) (w : World) (hX : Bd B b X w) (hL : Bsa b w a L) (hk : kind < 256) (hl : L.length < 4294967296) (ha : address < 4294967296) (hlen : X.length + 12 + 2 * L.length ≤ 140737488355328) :
    Calls Try.prog 16 #[.pointer (some ⟨b, 0, none⟩), .int .u8 (kind : Int), .int .i64 (address : Int), .slice a L.length cap] w fun e w' => e = .returned (.tuple #[]) ∧ Bd B b (X ++ recT kind address L) w' ∧ Below B w w' ∧ Kp b w w' := by
  have hX' : Hid (Bd B b X w) := hX
  have hL' : Hid (Bsa b w a L) := hL
  have hw1 := writeB B b X 58 w hX (by omega)
  clear hX hL
  go_enter Try.func16, Try.ntmps16
  go_upto_region 1 with (go_at_call 25; (with_reducible refine Calls.mono hw1 ?_); rintro e w1 ⟨rfl, hB1, hE1, hK1⟩)
  clear hw1
  have hN1 := Bsa.new hB1 (hd4 kind address L) (hd4_lt hk)
  have hE0 : Below w1.heap.size w1 (w1.alloc (.cells (v8 (hd4 kind address L)).toArray 5)) := (Below.refl _ _).alloc (Nat.le_refl _) _
  have hD1 := digits_any B b (X ++ [58]) (hd4 kind address L) _ 4 _ (hB1.below hE0) hN1 (by rw [List.length_append]; simp [hd4]; omega)
  have hE2 : Below B w (w1.alloc (.cells (v8 (hd4 kind address L)).toArray 5)) := hE1.alloc (Nat.le_trans hX'.out.2 hE1.size) _
  have hK2 : Kp b w (w1.alloc (.cells (v8 (hd4 kind address L)).toArray 5)) := hK1.trans (Kp.below hE0 hB1.lt)
  have hv : (v8 (hd4 kind address L)).toArray = #[.int .u8 ((L.length : Int) % 256), .int .u8 ((address : Int) / 256 % 256), .int .u8 ((address : Int) % 256), .int .u8 (kind : Int)] := by
    simp [v8, hd4]
  rw [hv] at hD1 hE2 hK2
  rw [show (hd4 kind address L).length = 4 from rfl] at hD1
  clear hN1 hE0 hE1 hK1 hv
  have hs4 : Hid ((hd4 kind address L).sum % 256 < 256) := Nat.mod_lt _ (by decide)
  generalize hS4 : (hd4 kind address L).sum % 256 = s4 at hD1 hs4
  have hS4' : Hid ((hd4 kind address L).sum % 256 = s4) := hS4
  clear hS4
  go_upto_region 2 with (go_at_call 26; (with_reducible refine Calls.mono hD1 ?_); rintro e w2 ⟨rfl, hB2, hE3, hK3⟩)
  clear hD1
  have hE4 := hE2.trans hE3
  have hK4 := hK2.trans hK3
  clear hE2 hK2 hE3 hK3 hB1
  have hlh : (hx (hd4 kind address L)).length = 8 := by rw [hx_len]; rfl
  have hD2 := digits_any B b _ L a cap w2 hB2 (hL'.out.kp hK4) (by simp only [List.length_append, hlh, List.length_cons, List.length_nil]; omega)
  have hsL : Hid (L.sum % 256 < 256) := Nat.mod_lt _ (by decide)
  generalize hSL : L.sum % 256 = sL at hD2 hsL
  have hSL' : Hid (L.sum % 256 = sL) := hSL
  clear hSL
  have h4 : s4 < 256 := hs4.out
  have h5 : sL < 256 := hsL.out
  go_upto_region 3 with (go_at_call 26; (with_reducible refine Calls.mono hD2 ?_); rintro e w3 ⟨rfl, hB3, hE5, hK5⟩)
  clear hD2 hB2
  have hE6 := hE4.trans hE5
  have hK6 := hK4.trans hK5
  clear hE4 hK4 hE5 hK5
  have hc1 : ∀ x ∈ [chk (hd4 kind address L ++ L)], x < 256 := by
    intro x hx
    simp only [List.mem_cons, List.not_mem_nil, or_false] at hx
    rw [hx]; exact Nat.mod_lt _ (by decide)
  have hck : ((chk (hd4 kind address L ++ L) : Nat) : Int) = -(((s4 : Int) + (sL : Int)) % 256) % 256 := by
    have e1 : (hd4 kind address L ++ L).sum % 256 = (s4 + sL) % 256 := by
      rw [List.sum_append, Nat.add_mod, hS4'.out, hSL'.out]
    unfold chk
    rw [e1]
    omega
  have hN3 := Bsa.new hB3 _ hc1
  have hE0 : Below w3.heap.size w3 (w3.alloc (.cells (v8 [chk (hd4 kind address L ++ L)]).toArray 5)) := (Below.refl _ _).alloc (Nat.le_refl _) _
  have hD3 := digits_any B b _ _ _ 1 _ (hB3.below hE0) hN3 (by simp only [List.length_append, hlh, hx_len, List.length_cons, List.length_nil]; omega)
  have hE7 : Below B w (w3.alloc (.cells (v8 [chk (hd4 kind address L ++ L)]).toArray 5)) := hE6.alloc (Nat.le_trans hX'.out.2 hE6.size) _
  have hK7 : Kp b w (w3.alloc (.cells (v8 [chk (hd4 kind address L ++ L)]).toArray 5)) := hK6.trans (Kp.below hE0 hB3.lt)
  have hv : (v8 [chk (hd4 kind address L ++ L)]).toArray = #[.int .u8 ((chk (hd4 kind address L ++ L) : Nat) : Int)] := rfl
  rw [hv] at hD3 hE7 hK7
  rw [show [chk (hd4 kind address L ++ L)].length = 1 from rfl] at hD3
  clear hN3 hE0 hv hB3
  generalize hC : [chk (hd4 kind address L ++ L)].sum % 256 = sC at hD3
  clear hC
  rw [hck] at hD3 hE7 hK7
  clear hck
  go_upto_region 4 with (go_at_call 26; (with_reducible refine Calls.mono hD3 ?_); rintro e w4 ⟨rfl, hB4, hE8, hK8⟩)
  clear hD3
  have hE9 := hE7.trans hE8
  have hK9 := hK7.trans hK8
  clear hE7 hK7 hE8 hK8
  have hw5 := writeB B b _ 10 w4 hB4 (by simp only [List.length_append, hlh, hx_len, List.length_cons, List.length_nil]; omega)
  go_wp2_with (go_at_call 25; (with_reducible refine Calls.mono hw5 ?_); rintro e w5 ⟨rfl, hB5, hE10, hK10⟩)
  go_end0
  refine ⟨rfl, ?_, hE9.trans hE10, hK9.trans hK10⟩
  have e : X ++ [58] ++ hx (hd4 kind address L) ++ hx L ++ hx [chk (hd4 kind address L ++ L)] ++ [10] = X ++ recT kind address L := by
    simp only [recT, List.append_assoc]
  rw [← e]; exact hB5
end Go.Proofs.Ytbgfeogigjjmdaa
