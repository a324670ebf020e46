/-
  CONTRACTS: checks that refuse by a panic, and what recovers it.
-/
import Derived.Test.YtiaflomabgnmaaaG9
import Derived.Test.YtiaflomabgnmaaaG5
import Derived.Defers
import Derived.Recover
import Derived.WalkLawsBesides
import Derived.Laws.Pointers
namespace Go.Proofs.Ytiaflomabgnmaaa
open Go Go.RowKit
set_option maxRecDepth 100000

/-- what a check panics with, and the code that it stands for -/
def Refuses (x : Value) (c : Int) : Prop := x = .iface 75 (.int .i64 c) ∨ (c = 2 ∧ ∃ a, x = .iface 76 (.float .f32 a))

/-- how checks end: they return, or they panic -/
def Chk (c : Int) (e : Ending) : Prop := (c = 0 ∧ e = .returned (.tuple #[])) ∨ (c ≠ 0 ∧ ∃ x, Refuses x c ∧ e = .panicked [{ v := x, recovered := false }])

theorem need_ok (c : Int) (w : World) : Calls Try.prog 27 #[.bool true, .int .i64 c] w fun e w' => e = .returned (.tuple #[]) ∧ w' = w := by
  go_enter Try.func27, Try.ntmps27
  go_wp2
  go_end0
  exact ⟨rfl, rfl⟩

theorem need_bad (c : Int) (w : World) : Calls Try.prog 27 #[.bool false, .int .i64 c] w fun e w' => e = .panicked [{ v := .iface 75 (.int .i64 c), recovered := false }] ∧ w' = w := by
  go_enter Try.func27, Try.ntmps27
  go_wp2
  exact ⟨rfl, rfl, rfl⟩

theorem code_unmet (c : Int) (w : World) : Calls Try.prog 70 #[.int .i64 c] w fun e w' => e = .returned (.int .i64 c) ∧ w' = w := by
  go_enter Try.func70, Try.ntmps70
  go_wp2
  go_ret
  exact ⟨rfl, rfl⟩

theorem code_noAmount (a : Nat) (w : World) : Calls Try.prog 71 #[.float .f32 a] w fun e w' => e = .returned (.int .i64 2) ∧ w' = w := by
  go_enter Try.func71, Try.ntmps71
  go_wp2
  go_ret
  exact ⟨rfl, rfl⟩

theorem upon_method {P : Program} {o : Oper} {a : Act} {K : Act → World → Prop} {Q : Exit → Act → World → Prop} {n : Nat} {T : TypeId} {v : Value} {m : String} {w : World} {k : FuncId × Value → World → Result Next} {f : FuncId} {x : Value}
    (h : (method n T v m).run P w = .ok (f, x) w) (H : Oper.upon P o a K Q (k (f, x) w)) : Oper.upon P o a K Q (((method n T v m).run P w).andThen k) := by
  rw [h]; exact H

theorem ta_nil (w : World) : (Instr.typeAssert .nilIface 20 72 true).run Try.prog w = .ok (.tuple #[.nilIface, .bool false]) w := by kernel_rfl

theorem ta_unmet (c : Int) (w : World) : (Instr.typeAssert (.iface 75 (.int .i64 c)) 20 72 true).run Try.prog w = .ok (.tuple #[.iface 75 (.int .i64 c), .bool true]) w := by kernel_rfl

theorem ta_noAmount (a : Nat) (w : World) : (Instr.typeAssert (.iface 76 (.float .f32 a)) 20 72 true).run Try.prog w = .ok (.tuple #[.iface 76 (.float .f32 a), .bool true]) w := by kernel_rfl

theorem catch_idle (p : Addr) (w : World) :
    CallsD Try.prog 42 #[.pointer (some p)] .returning w fun e u' w' => e = .returned (.tuple #[]) ∧ u' = .returning ∧ w' = w := by
  refine callsD_of_wpS Try.func42 rfl fun c₀ cs hu => ?_
  apply wpS_seq
  apply wpS_region
  simp [wpOpsS, go_sem, recoverD, hu, Try.ntmps42, Exit.thenS, ta_nil]
  apply wpS_seq
  apply wpS_region
  simp [wpOpsS, go_sem, Exit.thenS]
  refine wpS_cond (t := false) (by simp [Act.eval, Array.replicate]) ?_
  simp only [Bool.false_eq_true, if_false]
  refine wpS_of_wp (wp_skip ?_)
  cases c₀
  simp_all [bodyPostS, results, Try.results42]

theorem catch_unmet (p : Addr) (c d : Int) (older : List PanicEntry) (w : World) (hc : w.cell? p = some (.int .i64 d)) (hz : w.frozen? p = false) :
    CallsD Try.prog 42 #[.pointer (some p)] (.panicking ({ v := .iface 75 (.int .i64 c), recovered := false } :: older)) w fun e u' w' =>
      e = .returned (.tuple #[]) ∧ u' = .panicking ({ v := .iface 75 (.int .i64 c), recovered := true } :: older) ∧ w' = w.setCell p (.int .i64 c) := by
  refine callsD_of_wpS Try.func42 rfl fun c₀ cs hu => ?_
  apply wpS_seq
  apply wpS_region
  simp [wpOpsS, go_sem, recoverD, hu, Try.ntmps42, Exit.thenS, ta_unmet]
  apply wpS_seq
  apply wpS_region
  simp [wpOpsS, go_sem, Exit.thenS]
  refine wpS_cond (t := true) (by simp [Act.eval, Array.replicate]) ?_
  simp only [if_true]
  refine wpS_of_wp ?_
  simp [Array.replicate]
  go_wp2
  refine upon_method (f := 70) (x := .int .i64 c) (by kernel_rfl) ?_
  go_wp2
  cases c₀
  simp_all [bodyPostS, results, Try.results42]

theorem catch_noAmount (p : Addr) (a : Nat) (d : Int) (older : List PanicEntry) (w : World) (hc : w.cell? p = some (.int .i64 d)) (hz : w.frozen? p = false) :
    CallsD Try.prog 42 #[.pointer (some p)] (.panicking ({ v := .iface 76 (.float .f32 a), recovered := false } :: older)) w fun e u' w' =>
      e = .returned (.tuple #[]) ∧ u' = .panicking ({ v := .iface 76 (.float .f32 a), recovered := true } :: older) ∧ w' = w.setCell p (.int .i64 2) := by
  refine callsD_of_wpS Try.func42 rfl fun c₀ cs hu => ?_
  apply wpS_seq
  apply wpS_region
  simp [wpOpsS, go_sem, recoverD, hu, Try.ntmps42, Exit.thenS, ta_noAmount]
  apply wpS_seq
  apply wpS_region
  simp [wpOpsS, go_sem, Exit.thenS]
  refine wpS_cond (t := true) (by simp [Act.eval, Array.replicate]) ?_
  simp only [if_true]
  refine wpS_of_wp ?_
  simp [Array.replicate]
  go_wp2
  refine upon_method (f := 71) (x := .float .f32 a) (by kernel_rfl) ?_
  go_wp2
  cases c₀
  simp_all [bodyPostS, results, Try.results42]

theorem refusalOf_any (g : Nat) (cap : Array Value) (c : Int) (w : World)
    (hg : ∀ w, (callFunc g cap).run Try.prog w = .ok (.enter g cap) w) (H : ∀ w1, Below w.heap.size w w1 → Calls Try.prog g cap w1 fun e w' => Chk c e ∧ Below w1.heap.size w1 w') :
    Calls Try.prog 25 #[.func (.func g) #[] cap] w fun e w' => e = .returned (.int .i64 c) ∧ Below w.heap.size w w' := by
  have hmf : ∀ (fn : Fn) (first cap : Array Value) (w : World), (Instr.makeFunc fn first cap).run Try.prog w = .ok (.func fn first cap) w := fun _ _ _ _ => rfl
  have A0 := At.new w #[.int .i64 0] 2
  have H1 := H _ (b0 w (.cells #[.int .i64 0] 2))
  have B0 := Lib.hid (b0 w (.cells #[.int .i64 0] 2))
  go_enter_defers Try.func25, Try.ntmps25
  go_wp2
  refine H1.mono ?_
  rintro e w1 ⟨⟨rfl, rfl⟩ | ⟨-, x, hx, rfl⟩, hb1⟩
  · have A1 := A0.step hb1
    have c1 := A1.cell (k := 0) (v := .int .i64 0) rfl
    have z1 := A1.free 0
    have c2 : (w1.setCell ⟨w.heap.size, 0, none⟩ (.int .i64 0)).cell? ⟨w.heap.size, 0, none⟩ = some (.int .i64 0) := World.cell?_setCell_same' _ _ _ (by rw [c1]; rfl)
    have B2 : Below w.heap.size w (w1.setCell ⟨w.heap.size, 0, none⟩ (.int .i64 0)) := (bthen B0.out hb1).setCell (p := ⟨w.heap.size, 0, none⟩) (Nat.le_refl _) _
    go_wp2
    refine leaves_cons (f := 42) (args := #[.pointer (some ⟨w.heap.size, 0, none⟩)]) (by simp) (by simp [go_sem]) ?_
    refine (catch_idle _ _).mono ?_
    rintro e u' w2 ⟨rfl, rfl, rfl⟩
    simp [Leaves, settle, results, Try.results25, go_sem, c2]
    exact B2
  · have A1 := A0.step hb1
    have c1 := A1.cell (k := 0) (v := .int .i64 0) rfl
    have z1 := A1.free 0
    have c2 : (w1.setCell ⟨w.heap.size, 0, none⟩ (.int .i64 c)).cell? ⟨w.heap.size, 0, none⟩ = some (.int .i64 c) := World.cell?_setCell_same' _ _ _ (by rw [c1]; rfl)
    have B2 : Below w.heap.size w (w1.setCell ⟨w.heap.size, 0, none⟩ (.int .i64 c)) := (bthen B0.out hb1).setCell (p := ⟨w.heap.size, 0, none⟩) (Nat.le_refl _) _
    go_wp2
    rcases hx with rfl | ⟨rfl, a, rfl⟩
    · refine leaves_cons (f := 42) (args := #[.pointer (some ⟨w.heap.size, 0, none⟩)]) (by simp) (by simp [go_sem]) ?_
      refine (catch_unmet _ c 0 [] _ c1 z1).mono ?_
      rintro e u' w2 ⟨rfl, rfl, rfl⟩
      simp [Leaves, settle, results, Try.results25, go_sem, c2]
      exact B2
    · refine leaves_cons (f := 42) (args := #[.pointer (some ⟨w.heap.size, 0, none⟩)]) (by simp) (by simp [go_sem]) ?_
      refine (catch_noAmount _ a 0 [] _ c1 z1).mono ?_
      rintro e u' w2 ⟨rfl, rfl, rfl⟩
      simp [Leaves, settle, results, Try.results25, go_sem, c2]
      exact B2

theorem all_no {q : Nat → Bool} {xs : List Nat} {k : Nat} (hk : k < xs.length) (hs : q (nth xs k) = false) : xs.all q = false := by
  cases h : xs.all q
  · rfl
  · have := List.all_eq_true.1 h (nth xs k) (by
      show (xs[k]?).getD 0 ∈ xs
      rw [List.getElem?_eq_getElem hk, Option.getD_some]; exact List.getElem_mem hk)
    rw [hs] at this; cases this

theorem all_next {q : Nat → Bool} {xs : List Nat} {k : Nat} (h : (xs.take k).all q = true) (hk : k < xs.length) (hs : q (nth xs k) = true) : (xs.take (k + 1)).all q = true := by
  have e : nth xs k = xs[k] := by
    show (xs[k]?).getD 0 = _
    rw [List.getElem?_eq_getElem hk, Option.getD_some]
  rw [List.take_succ_eq_append_getElem hk, List.all_append, h, ← e]
  simp [hs]

/-- the code of a list of numbers -/
def amtC (xs : List Nat) : Int := if xs.all amtB then 0 else 2

theorem needAmounts_any (g off cp : Nat) (xs : List Nat) (hx : ∀ x ∈ xs, x < 4294967296) (hn : xs.length ≤ 1048576) (w : World) (hc : ∀ k, k < xs.length → w.cell? ⟨g, off + k, none⟩ = some (.float .f32 (nth xs k))) :
    Calls Try.prog 35 #[.slice (some ⟨g, off, none⟩) xs.length cp] w fun e w' => Chk (amtC xs) e ∧ ∃ m, w' = w.drewN m := by
  obtain ⟨n, hnn⟩ : ∃ n, n = xs.length := ⟨_, rfl⟩
  rw [← hnn]
  have HN := Lib.hid hnn
  have HX := Lib.hid hx
  clear hx
  rw [← hnn] at hn hc
  clear hnn
  go_enter Try.func35, Try.ntmps35
  go_wp2
  go_loopw [6] (fun i wr => ∃ k m : Nat, k ≤ n ∧ i = .int .i64 k ∧ wr = w.drewN m ∧ Hid ((xs.take k).all amtB = true)) (fun i _ => n - (intOf i).toNat)
  case atStart => exact ⟨0, 0, by omega, rfl, rfl, Lib.hid rfl⟩
  case round =>
    obtain ⟨k, m, hk, rfl, rfl, hall⟩ := hrel
    by_cases hlt : k < n
    · have hi : (w.drewN m).cell? ⟨g, off + k, none⟩ = some (.float .f32 (nth xs k)) := hc k hlt
      have hk' : (k : Int) < (n : Int) := by omega
      have hk2 : k < xs.length := by rw [← HN.out]; exact hlt
      have hw : nth xs k < 4294967296 := by
        refine HX.out _ ?_
        show (xs[k]?).getD 0 ∈ xs
        rw [List.getElem?_eq_getElem hk2, Option.getD_some]; exact List.getElem_mem hk2
      have HK2 := Lib.hid hk2
      clear hk2
      have KA := IsAmount_any (nth xs k) hw (w.drewN m)
      cases hs : amtB (nth xs k)
      · have e : amtC xs = 2 := by
          unfold amtC
          rw [all_no HK2.out hs]; rfl
        rw [hs] at KA
        go_wp2_with fail
        refine KA.mono ?_
        rintro e' w1 ⟨rfl, m1, rfl⟩
        clear KA
        go_wp2
        exact ⟨rfl, .inr ⟨by rw [e]; decide, _, .inr ⟨e, _, rfl⟩, rfl⟩, _, rfl⟩
      · have hall2 := Lib.hid (all_next hall.out HK2.out hs)
        rw [hs] at KA
        go_wp2_with fail
        refine KA.mono ?_
        rintro e' w1 ⟨rfl, m1, rfl⟩
        clear KA
        go_wp2
        exact ⟨⟨k + 1, m + m1, by omega, by go_num, rfl, hall2⟩, by simp [intOf]; omega⟩
    · obtain rfl : k = n := by omega
      have e : amtC xs = 0 := by
        unfold amtC
        have h := hall.out
        rw [HN.out, List.take_length] at h
        rw [if_pos h]
      go_wp2
      go_end0
      exact ⟨.inl ⟨e, rfl⟩, _, rfl⟩

theorem At.fl_cells {w : World} {g : Nat} {xs : List Nat} {T : TypeId} (h : At w g (fl xs) T) : ∀ k, k < xs.length → w.cell? ⟨g, 0 + k, none⟩ = some (.float .f32 (nth xs k)) := fun k hk => by
  rw [Nat.zero_add]; exact h.cell (fl_get hk)

/-- numbers that have just been laid in a row, checked -/
theorem needNew_any (xs : List Nat) (hx : ∀ x ∈ xs, x < 4294967296) (hn : xs.length ≤ 1048576) (w : World) (T : TypeId) :
    Calls Try.prog 35 #[.slice (some ⟨w.heap.size, 0, none⟩) xs.length xs.length] (w.alloc (.cells (fl xs) T)) fun e w' => Chk (amtC xs) e ∧ Below w.heap.size w w' :=
  (needAmounts_any w.heap.size 0 xs.length xs hx hn _ (At.new w (fl xs) T).fl_cells).mono fun _ _ ⟨h, m, hw⟩ => ⟨h, by rw [hw]; exact bdrew (b0 _ _) _⟩
end Go.Proofs.Ytiaflomabgnmaaa
