/-
  FnExactSetTurn: the program's SetTurn answers as its model, at every junction, in, out and narrow float. No condition.
-/
import Derived.Test.YtafgcjjgnjialaaLaw
import Derived.Test.YtafgcjjgnjialaaToJn
import Derived.Test.YtafgcjjgnjialaaSetTurnS
namespace Go.Proofs.Ytafgcjjgnjialaa.lawFnExactSetTurn
open Go Go.ChangeShapes Go.WideShapes Go.ChangeAt Go.RowKit

set_option maxRecDepth 100000
set_option maxHeartbeats 1000000 in
theorem walk (i o : Int) (ts ps : List Nat) (hi : -9223372036854775808 ≤ i ∧ i ≤ 9223372036854775807) (ho : -9223372036854775808 ≤ o ∧ o ≤ 9223372036854775807) (hlt : ts.length = 16) (hlp : ps.length = 4) (hct : ∀ x ∈ ts, x < 4294967296) (hcp : ∀ x ∈ ps, x < 4294967296) (k : Int) (hk : -9223372036854775808 ≤ k ∧ k ≤ 9223372036854775807) (n : Int) (hn : -9223372036854775808 ≤ n ∧ n ≤ 9223372036854775807) (x : Nat) (hx : x < 4294967296) (w : World) :
    Calls Try.prog 3 #[.agg (jn i o ts ps), .int .i64 k, .int .i64 n, .float .f32 x] w (True? w) := by
  have HK := Lib.hid hk
  have HN := Lib.hid hn
  have HX := Lib.hid hx
  clear hk hn hx
  have GD := vSetTurn_good (i := i) (o := o) (ts := ts) hlp k n x
  have SR := jn_size GD.1 GD.2.1 (vSetTurn i o ts ps k n x).1 (vSetTurn i o ts ps k n x).2.1
  have A0 := At.new w (jn i o ts ps) 26
  have B0 := Lib.hid (b0 w (.cells (jn i o ts ps) 26))
  have SZ := jn_size hlt hlp i o
  go_enter Try.func3, Try.ntmps3
  go_wp2_with (((with_reducible refine is_load 26 _ rfl ?_); refine wpList_load_at rfl 26 _ rfl _ rfl (jn i o ts ps) _ (by assumption) 22 (SZ) _ Try.underlying26 rfl (by kernel_rfl) ?_))
  refine (toJunction_any i o ts ps hi ho hlt hlp hct hcp _).mono ?_
  rintro e w1 ⟨rfl, hb1⟩
  have A1 := A0.step hb1
  have B1 := Lib.hid (bthen B0.out hb1)
  clear A0 B0 hb1
  go_wp2_with fail
  refine (sSetTurn_b i o ts ps hi ho hlt hlp hct hcp k HK.out n HN.out x HX.out _).mono ?_
  rintro e w2 ⟨rfl, hb2⟩
  have A2 := A1.step hb2
  have B2 := Lib.hid (bthen B1.out hb2)
  clear A1 B1 hb2
  have C1 : At (w2.alloc (.cells (#[.int .i64 0, .int .i64 0, .float .f32 0, .float .f32 0, .float .f32 0, .float .f32 0, .float .f32 0, .float .f32 0, .float .f32 0, .float .f32 0, .float .f32 0, .float .f32 0, .float .f32 0, .float .f32 0, .float .f32 0, .float .f32 0, .float .f32 0, .float .f32 0, .float .f32 0, .float .f32 0, .float .f32 0, .float .f32 0]) 30)) w2.heap.size (#[.int .i64 0, .int .i64 0, .float .f32 0, .float .f32 0, .float .f32 0, .float .f32 0, .float .f32 0, .float .f32 0, .float .f32 0, .float .f32 0, .float .f32 0, .float .f32 0, .float .f32 0, .float .f32 0, .float .f32 0, .float .f32 0, .float .f32 0, .float .f32 0, .float .f32 0, .float .f32 0, .float .f32 0, .float .f32 0]) 30 := At.new w2 _ _
  have C2 := C1.setRow (jn (vSetTurn i o ts ps k n x).1 (vSetTurn i o ts ps k n x).2.1 (vSetTurn i o ts ps k n x).2.2.1 (vSetTurn i o ts ps k n x).2.2.2.1)
  have A3 := (A2.alloc (.cells (#[.int .i64 0, .int .i64 0, .float .f32 0, .float .f32 0, .float .f32 0, .float .f32 0, .float .f32 0, .float .f32 0, .float .f32 0, .float .f32 0, .float .f32 0, .float .f32 0, .float .f32 0, .float .f32 0, .float .f32 0, .float .f32 0, .float .f32 0, .float .f32 0, .float .f32 0, .float .f32 0, .float .f32 0, .float .f32 0]) 30)).setRow_other (k := w2.heap.size) (Nat.ne_of_lt A2.lt) (jn (vSetTurn i o ts ps k n x).1 (vSetTurn i o ts ps k n x).2.1 (vSetTurn i o ts ps k n x).2.2.1 (vSetTurn i o ts ps k n x).2.2.2.1)
  have B3 := Lib.hid (bset (bnew B2.out (.cells (#[.int .i64 0, .int .i64 0, .float .f32 0, .float .f32 0, .float .f32 0, .float .f32 0, .float .f32 0, .float .f32 0, .float .f32 0, .float .f32 0, .float .f32 0, .float .f32 0, .float .f32 0, .float .f32 0, .float .f32 0, .float .f32 0, .float .f32 0, .float .f32 0, .float .f32 0, .float .f32 0, .float .f32 0, .float .f32 0]) 30)) (g := w2.heap.size) B2.out.size (jn (vSetTurn i o ts ps k n x).1 (vSetTurn i o ts ps k n x).2.1 (vSetTurn i o ts ps k n x).2.2.1 (vSetTurn i o ts ps k n x).2.2.2.1))
  clear B2 A2
  go_wp2_with (first | ((with_reducible refine is_store 30 (.tmp 9) (.tmp 20) rfl ?_); refine wpList_store_at rfl 30 (.tmp 9) (.tmp 20) rfl _ rfl (jn (vSetTurn i o ts ps k n x).1 (vSetTurn i o ts ps k n x).2.1 (vSetTurn i o ts ps k n x).2.2.1 (vSetTurn i o ts ps k n x).2.2.2.1) rfl (#[.int .i64 0, .int .i64 0, .float .f32 0, .float .f32 0, .float .f32 0, .float .f32 0, .float .f32 0, .float .f32 0, .float .f32 0, .float .f32 0, .float .f32 0, .float .f32 0, .float .f32 0, .float .f32 0, .float .f32 0, .float .f32 0, .float .f32 0, .float .f32 0, .float .f32 0, .float .f32 0, .float .f32 0, .float .f32 0]) _ (by assumption) 22 (SR) ((by rw [zlit]; exact jn_size (zeros_len 16) (zeros_len 4) _ _)) (by kernel_rfl) (jn_one _ _ _ _) ?_) | ((with_reducible refine is_load 26 _ rfl ?_); refine wpList_load_at rfl 26 _ rfl _ rfl (jn i o ts ps) _ (by assumption) 22 (SZ) _ Try.underlying26 rfl (by kernel_rfl) ?_))
  refine (toJunction_any i o ts ps hi ho hlt hlp hct hcp _).mono ?_
  rintro e w3 ⟨rfl, hb3⟩
  have C3 := C2.step hb3
  have B4 := Lib.hid (bthen B3.out hb3)
  clear C1 C2 B3 A3 hb3
  go_wp2_with fail
  refine (SetTurn_b i o ts ps hi ho hlt hlp hct hcp k HK.out n HN.out x HX.out _).mono ?_
  rintro e w4 ⟨rfl, hb4⟩
  have C4 := C3.step hb4
  have B5 := Lib.hid (bthen B4.out hb4)
  clear C3 B4 hb4
  have D1 : At (w4.alloc (.cells (#[.int .i64 0, .int .i64 0, .float .f32 0, .float .f32 0, .float .f32 0, .float .f32 0, .float .f32 0, .float .f32 0, .float .f32 0, .float .f32 0, .float .f32 0, .float .f32 0, .float .f32 0, .float .f32 0, .float .f32 0, .float .f32 0, .float .f32 0, .float .f32 0, .float .f32 0, .float .f32 0, .float .f32 0, .float .f32 0]) 30)) w4.heap.size (#[.int .i64 0, .int .i64 0, .float .f32 0, .float .f32 0, .float .f32 0, .float .f32 0, .float .f32 0, .float .f32 0, .float .f32 0, .float .f32 0, .float .f32 0, .float .f32 0, .float .f32 0, .float .f32 0, .float .f32 0, .float .f32 0, .float .f32 0, .float .f32 0, .float .f32 0, .float .f32 0, .float .f32 0, .float .f32 0]) 30 := At.new w4 _ _
  have D2 := D1.setRow (jn (vSetTurn i o ts ps k n x).1 (vSetTurn i o ts ps k n x).2.1 (vSetTurn i o ts ps k n x).2.2.1 (vSetTurn i o ts ps k n x).2.2.2.1)
  have C5 := (C4.alloc (.cells (#[.int .i64 0, .int .i64 0, .float .f32 0, .float .f32 0, .float .f32 0, .float .f32 0, .float .f32 0, .float .f32 0, .float .f32 0, .float .f32 0, .float .f32 0, .float .f32 0, .float .f32 0, .float .f32 0, .float .f32 0, .float .f32 0, .float .f32 0, .float .f32 0, .float .f32 0, .float .f32 0, .float .f32 0, .float .f32 0]) 30)).setRow_other (k := w4.heap.size) (Nat.ne_of_lt C4.lt) (jn (vSetTurn i o ts ps k n x).1 (vSetTurn i o ts ps k n x).2.1 (vSetTurn i o ts ps k n x).2.2.1 (vSetTurn i o ts ps k n x).2.2.2.1)
  have B6 := Lib.hid (bset (bnew B5.out (.cells (#[.int .i64 0, .int .i64 0, .float .f32 0, .float .f32 0, .float .f32 0, .float .f32 0, .float .f32 0, .float .f32 0, .float .f32 0, .float .f32 0, .float .f32 0, .float .f32 0, .float .f32 0, .float .f32 0, .float .f32 0, .float .f32 0, .float .f32 0, .float .f32 0, .float .f32 0, .float .f32 0, .float .f32 0, .float .f32 0]) 30)) (g := w4.heap.size) B5.out.size (jn (vSetTurn i o ts ps k n x).1 (vSetTurn i o ts ps k n x).2.1 (vSetTurn i o ts ps k n x).2.2.1 (vSetTurn i o ts ps k n x).2.2.2.1))
  clear C4 B5
  go_wp2_with (first | ((with_reducible refine is_store 30 (.tmp 11) (.tmp 29) rfl ?_); refine wpList_store_at rfl 30 (.tmp 11) (.tmp 29) rfl _ rfl (jn (vSetTurn i o ts ps k n x).1 (vSetTurn i o ts ps k n x).2.1 (vSetTurn i o ts ps k n x).2.2.1 (vSetTurn i o ts ps k n x).2.2.2.1) rfl (#[.int .i64 0, .int .i64 0, .float .f32 0, .float .f32 0, .float .f32 0, .float .f32 0, .float .f32 0, .float .f32 0, .float .f32 0, .float .f32 0, .float .f32 0, .float .f32 0, .float .f32 0, .float .f32 0, .float .f32 0, .float .f32 0, .float .f32 0, .float .f32 0, .float .f32 0, .float .f32 0, .float .f32 0, .float .f32 0]) _ (by assumption) 22 (SR) ((by rw [zlit]; exact jn_size (zeros_len 16) (zeros_len 4) _ _)) (by kernel_rfl) (jn_one _ _ _ _) ?_) | ((with_reducible refine is_load 30 _ rfl ?_); refine wpList_load_at rfl 30 _ rfl _ rfl (jn (vSetTurn i o ts ps k n x).1 (vSetTurn i o ts ps k n x).2.1 (vSetTurn i o ts ps k n x).2.2.1 (vSetTurn i o ts ps k n x).2.2.2.1) _ (by assumption) 22 (SR) _ Try.underlying30 rfl (by kernel_rfl) ?_))
  refine (eqJunction_same _ _ _ _ GD.1 GD.2.1 GD.2.2.1 GD.2.2.2 _).mono ?_
  rintro e w5 ⟨rfl, hb5⟩
  go_wp2_with fail
  go_ret
  exact ⟨rfl, bthen B6.out hb5⟩

set_option maxRecDepth 100000 in
theorem lifted (os : Os) (started : os.Started) (H : Type) (enc : TypeId × Value → H) :
    ReturnsInHanded {} Try.checked os 3 .any (Rows.fnExactSetTurnSpec.pre6 enc Try.prog Try.f3 Rows.fnExactSetTurnRow.domain false) (Rows.fnExactSetTurnSpec.post enc Try.prog Try.f3 false true false false) := by
  refine law_lifted enc os started (by kernel_rfl) Try.func3
    (ChangeSpec.witness6 (enc := enc) (C := Try.checked) false ⟨#[], #[.agg (#[.int .i64 0, .int .i64 0] ++ Array.replicate 20 (.float .f32 0)), .int .i64 0, .int .i64 0, .float .f32 0], []⟩ 24 (by kernel_rfl) (by kernel_rfl) (by kernel_rfl) (by kernel_rfl)) rfl (by kernel_rfl) ?_ ?_ ?_
  · rw [Try.params3]
    intro t ht
    have hall : (#[26, 2, 2, 22].toList.all fun u => Try.prog.readableRec u && decide (u < Try.prog.types.size)) = true := by kernel_rfl
    have := List.all_eq_true.1 hall t ht
    simpa using this
  · intro ds h
    rw [Try.params3] at h
    match ds, h with
    | [d0, d1, d2, d3], _ => rfl
  · intro W base args hl hval
    rw [Try.params3] at hl hval
    obtain ⟨v0, v1, v2, v3, rfl⟩ : ∃ v0 v1 v2 v3, args = #[v0, v1, v2, v3] := by
      obtain ⟨l⟩ := args
      match l, hl with
      | [v0, v1, v2, v3], _ => exact ⟨v0, v1, v2, v3, rfl⟩
    obtain ⟨ji0, jo0, jt0, jp0, rfl, hji0, hjo0, hlt0, hlp0, hct0, hcp0⟩ := shape_jn (hval 0 _ _ rfl rfl)
    obtain ⟨x1, rfl, h1⟩ := shape_i64 (hval 1 _ _ rfl rfl)
    obtain ⟨x2, rfl, h2⟩ := shape_i64 (hval 2 _ _ rfl rfl)
    obtain ⟨x3, rfl, h3⟩ := shape_f32 (hval 3 _ _ rfl rfl)
    exact walk ji0 jo0 jt0 jp0 hji0 hjo0 hlt0 hlp0 hct0 hcp0 x1 h1 x2 h2 x3 h3 W

/-- THE STATEMENT -/
theorem proved : Rows.FnExactSetTurnSaid :=
  OpenClaim.holds_of_wide 3 Try.f3 rfl rfl rfl rfl rfl rfl rfl ⟨rfl, rfl, rfl, rfl, rfl⟩ rfl rfl rfl rfl rfl (by kernel_rfl) Try.func3 (by kernel_rfl)
    (of_decide_eq_true (by kernel_rfl)) (by unfold Func.isWrapper; first | (rw [if_pos (by decide +kernel)]; kernel_rfl) | (rw [if_neg (by decide +kernel)]; exact ⟨rfl, rfl⟩))
    (fun os started H enc _ => lifted os started H enc)
#print axioms proved
end Go.Proofs.Ytafgcjjgnjialaa.lawFnExactSetTurn
