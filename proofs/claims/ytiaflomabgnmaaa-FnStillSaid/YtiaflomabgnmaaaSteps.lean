/-
  CONTRACTS: several steps: the program's checks.
-/
import Derived.Test.YtiaflomabgnmaaaG12
import Derived.Test.YtiaflomabgnmaaaRefuse
import Derived.Test.YtiaflomabgnmaaaG10
namespace Go.Proofs.Ytiaflomabgnmaaa
open Go Go.RowKit
set_option maxRecDepth 100000

theorem isStepCount_any (k : Int) (w : World) : Calls Try.prog 39 #[.int .i64 k] w (Rd (.bool (decide (0 ≤ k ∧ k ≤ 400))) w) := by
  by_cases h : 0 ≤ k
  · by_cases h2 : k ≤ 400
    · rw [decide_eq_true ⟨h, h2⟩]
      go_enter Try.func39, Try.ntmps39
      go_wp2
      go_ret
      exact Rd.mk0
    · rw [decide_eq_false (by omega)]
      go_enter Try.func39, Try.ntmps39
      go_wp2
      go_ret
      exact Rd.mk0
  · rw [decide_eq_false (by omega)]
    go_enter Try.func39, Try.ntmps39
    go_wp2
    go_ret
    exact Rd.mk0

theorem stepsChk_any (gr go gm gn : Nat) (cs : List Nat) (p b l : Nat) (hl : cs.length = 16) (hc : ∀ x ∈ cs, x < 4294967296) (hp : p < 4294967296) (hb : b < 4294967296) (hla : l < 4294967296) (o m : Nat) (ho : o < 4294967296) (hm : m < 4294967296) (n : Int) (w : World) (Ar : At w gr (rd cs p b l) 28) (Ao : At w go #[.float .f32 o] 24) (Am : At w gm #[.float .f32 m] 24) (An : At w gn #[.int .i64 n] 2) :
    Calls Try.prog 38 #[.pointer (some ⟨gr, 0, none⟩), .pointer (some ⟨go, 0, none⟩), .pointer (some ⟨gm, 0, none⟩), .pointer (some ⟨gn, 0, none⟩)] w fun e w' => Chk (stepsC (okB cs p b l) o m n) e ∧ Below w.heap.size w w' := by
  cases h : okB cs p b l
  · rw [show stepsC false o m n = 1 from rfl]
    go_enter Try.func38, Try.ntmps38
    go_wp2_with (((with_reducible refine is_load 28 _ rfl ?_); refine wpList_load_at rfl 28 _ rfl _ rfl (rd cs p b l) _ (by assumption) 19 (rd_size hl p b l) _ Try.underlying28 rfl (by kernel_rfl) ?_))
    have KV := ValidRoad_any cs p b l hl hc hp hb hla w
    rw [h] at KV
    refine KV.mono ?_
    rintro e w1 ⟨rfl, hb1⟩
    clear KV
    go_wp2_with fail
    refine (need_bad 1 w1).mono ?_
    rintro e w2 ⟨rfl, rfl⟩
    go_wp2
    exact ⟨rfl, .inr ⟨by decide, _, .inl rfl, rfl⟩, hb1⟩
  · have e0 : givenC true o m = amtC [o, m] := by simp [givenC, amtC]
    have e1 : stepsC true o m n = if amtC [o, m] = 0 then (if 0 ≤ n ∧ n ≤ 400 then 0 else 2) else amtC [o, m] := by unfold stepsC; rw [e0]
    obtain ⟨c0, hcc⟩ : ∃ c0, c0 = stepsC true o m n := ⟨_, rfl⟩
    rw [← hcc]
    have HC := Lib.hid (hcc.trans e1)
    clear e0 e1 hcc
    go_enter Try.func38, Try.ntmps38
    go_wp2_with (((with_reducible refine is_load 28 _ rfl ?_); refine wpList_load_at rfl 28 _ rfl _ rfl (rd cs p b l) _ (by assumption) 19 (rd_size hl p b l) _ Try.underlying28 rfl (by kernel_rfl) ?_))
    have KV := ValidRoad_any cs p b l hl hc hp hb hla w
    rw [h] at KV
    refine KV.mono ?_
    rintro e w1 ⟨rfl, hb1⟩
    clear KV
    have Ao1 := Ao.step hb1
    have Am1 := Am.step hb1
    have An1 := An.step hb1
    have co := Ao1.cell (k := 0) (v := .float .f32 o) rfl
    have cm := Am1.cell (k := 0) (v := .float .f32 m) rfl
    go_wp2_with fail
    refine (need_ok 1 w1).mono ?_
    rintro e w2 ⟨rfl, rfl⟩
    go_wp2_with fail
    refine (needNew_any [o, m] (by simp; exact ⟨ho, hm⟩) (by simp) w2 24).mono ?_
    rintro e w3 ⟨⟨h0, rfl⟩ | ⟨h0, x, hx, rfl⟩, hb3⟩
    · have An3 := An1.step hb3
      have cn := An3.cell (k := 0) (v := .int .i64 n) rfl
      have B3 := Lib.hid (bthen hb1 hb3)
      have H0 := Lib.hid h0
      clear Ao Am An Ao1 Am1 An1 co cm hb1 hb3 h0
      have KC := isStepCount_any n w3
      by_cases c : 0 ≤ n ∧ n ≤ 400
      · obtain rfl : c0 = 0 := by rw [HC.out, if_pos H0.out, if_pos c]
        clear HC H0
        rw [decide_eq_true c] at KC
        go_wp2_with fail
        refine KC.mono ?_
        rintro e w4 ⟨rfl, n4, rfl⟩
        clear KC
        go_wp2_with fail
        refine (need_ok 2 (w3.drewN n4)).mono ?_
        rintro e w5 ⟨rfl, rfl⟩
        go_wp2
        go_end0
        exact ⟨.inl ⟨rfl, rfl⟩, bdrew B3.out _⟩
      · obtain rfl : c0 = 2 := by rw [HC.out, if_pos H0.out, if_neg c]
        clear HC H0
        rw [decide_eq_false c] at KC
        go_wp2_with fail
        refine KC.mono ?_
        rintro e w4 ⟨rfl, n4, rfl⟩
        clear KC
        go_wp2_with fail
        refine (need_bad 2 (w3.drewN n4)).mono ?_
        rintro e w5 ⟨rfl, rfl⟩
        go_wp2
        exact ⟨rfl, .inr ⟨by decide, _, .inl rfl, rfl⟩, bdrew B3.out _⟩
    · obtain rfl : c0 = amtC [o, m] := by rw [HC.out, if_neg h0]
      clear HC
      go_wp2
      exact ⟨rfl, .inr ⟨h0, x, hx, rfl⟩, bthen hb1 hb3⟩

theorem refusalOfSteps_any (cs : List Nat) (p b l : Nat) (hl : cs.length = 16) (hc : ∀ x ∈ cs, x < 4294967296) (hp : p < 4294967296) (hb : b < 4294967296) (hla : l < 4294967296) (o m : Nat) (ho : o < 4294967296) (hm : m < 4294967296) (n : Int) (w : World) :
    Calls Try.prog 22 #[.agg (rd cs p b l), .float .f32 o, .float .f32 m, .int .i64 n] w fun e w' => e = .returned (.int .i64 (stepsC (okB cs p b l) o m n)) ∧ Below w.heap.size w w' := by
  have hmf : ∀ (fn : Fn) (first cap : Array Value) (w : World), (Instr.makeFunc fn first cap).run Try.prog w = .ok (.func fn first cap) w := fun _ _ _ _ => rfl
  have A0 : At ((((w.alloc (.cells (rd cs p b l) 28)).alloc (.cells #[.float .f32 o] 24)).alloc (.cells #[.float .f32 m] 24)).alloc (.cells #[.int .i64 n] 2)) w.heap.size (rd cs p b l) 28 := (((At.new w _ _).alloc _).alloc _).alloc _
  have O0 : At ((((w.alloc (.cells (rd cs p b l) 28)).alloc (.cells #[.float .f32 o] 24)).alloc (.cells #[.float .f32 m] 24)).alloc (.cells #[.int .i64 n] 2)) (w.heap.size + 1) #[.float .f32 o] 24 := ((At.last1 w _ _ _).alloc _).alloc _
  have M0 : At ((((w.alloc (.cells (rd cs p b l) 28)).alloc (.cells #[.float .f32 o] 24)).alloc (.cells #[.float .f32 m] 24)).alloc (.cells #[.int .i64 n] 2)) (w.heap.size + 1 + 1) #[.float .f32 m] 24 := (At.last2 w _ _ _ _).alloc _
  have N0 : At ((((w.alloc (.cells (rd cs p b l) 28)).alloc (.cells #[.float .f32 o] 24)).alloc (.cells #[.float .f32 m] 24)).alloc (.cells #[.int .i64 n] 2)) (w.heap.size + 1 + 1 + 1) #[.int .i64 n] 2 := by
    have := At.new (((w.alloc (.cells (rd cs p b l) 28)).alloc (.cells #[.float .f32 o] 24)).alloc (.cells #[.float .f32 m] 24)) #[.int .i64 n] 2
    rwa [World.size_alloc, World.size_alloc, World.size_alloc] at this
  have B0 := Lib.hid (bnew (bnew (bnew (b0 w (.cells (rd cs p b l) 28)) (.cells #[.float .f32 o] 24)) (.cells #[.float .f32 m] 24)) (.cells #[.int .i64 n] 2))
  have KR := refusalOf_any 38 #[.pointer (some ⟨w.heap.size, 0, none⟩), .pointer (some ⟨(w.heap.size + 1), 0, none⟩), .pointer (some ⟨(w.heap.size + 1 + 1), 0, none⟩), .pointer (some ⟨(w.heap.size + 1 + 1 + 1), 0, none⟩)] _ ((((w.alloc (.cells (rd cs p b l) 28)).alloc (.cells #[.float .f32 o] 24)).alloc (.cells #[.float .f32 m] 24)).alloc (.cells #[.int .i64 n] 2)) (fun _ => by kernel_rfl) fun w1 h1 => stepsChk_any _ _ _ _ cs p b l hl hc hp hb hla o m ho hm n w1 (A0.step h1) (O0.step h1) (M0.step h1) (N0.step h1)
  clear A0 O0 M0 N0
  go_enter Try.func22, Try.ntmps22
  go_wp2_with fail
  refine KR.mono ?_
  rintro e w1 ⟨rfl, hb1⟩
  go_wp2_with fail
  go_ret
  exact ⟨rfl, bthen B0.out hb1⟩
end Go.Proofs.Ytiaflomabgnmaaa
