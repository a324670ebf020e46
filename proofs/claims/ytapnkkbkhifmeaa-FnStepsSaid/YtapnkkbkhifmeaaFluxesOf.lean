/-
  CONTRACTS: FluxesOf.
-/
import Derived.Test.YtapnkkbkhifmeaaFluxesS
import Derived.BigQuiet
namespace Go.Proofs.Ytapnkkbkhifmeaa
open Go Go.RowKit
set_option maxRecDepth 100000

def vFluxesOf (cs : List Nat) (p b l o m : Nat) : List Nat × Int := if givenC (okB cs p b l) o m = 0 then (fluxL p b cs o m, 0) else (zeros 17, givenC (okB cs p b l) o m)

theorem given_zero {ok : Bool} {o m : Nat} (h : givenC ok o m = 0) : ok = true ∧ o < 2139095040 ∧ m < 2139095040 := by
  unfold givenC at h
  cases ok
  · simp at h
  · cases c1 : amtB o
    · rw [c1] at h; simp at h
    · cases c2 : amtB m
      · rw [c1, c2] at h; simp at h
      · unfold amtB at c1 c2; simp at c1 c2; exact ⟨rfl, c1, c2⟩

theorem vFluxesOf_good {cs : List Nat} (hl : cs.length = 16) (p b l o m : Nat) : (vFluxesOf cs p b l o m).1.length = 17 ∧ ∀ x ∈ (vFluxesOf cs p b l o m).1, x < 4294967296 ∧ nanB x = false := by
  unfold vFluxesOf
  by_cases h : givenC (okB cs p b l) o m = 0
  · rw [if_pos h]
    have ok := OkR.of hl (given_zero h).1
    exact ⟨fluxL_len _ _ _ _ _, fun x hx => nan_le (fluxL_le ok o m x hx) (by omega)⟩
  · rw [if_neg h]
    exact ⟨zeros_len _, fun x hx => by obtain rfl := List.eq_of_mem_replicate hx; decide⟩

/-- the checks of FluxesOf, run -/
theorem fluxRef_any (gr go gm : Nat) (cs : List Nat) (p b l : Nat) (hl : cs.length = 16) (hc : ∀ x ∈ cs, x < 4294967296) (hp : p < 4294967296) (hb : b < 4294967296) (hla : l < 4294967296) (o m : Nat) (ho : o < 4294967296) (hm : m < 4294967296) (w : World) (Ar : At w gr (rd cs p b l) 28) (Ao : At w go #[.float .f32 o] 24) (Am : At w gm #[.float .f32 m] 24) :
    Calls Try.prog 23 #[.func (.func 24) #[] #[.pointer (some ⟨gr, 0, none⟩), .pointer (some ⟨go, 0, none⟩), .pointer (some ⟨gm, 0, none⟩)]] w fun e w' => e = .returned (.int .i64 (givenC (okB cs p b l) o m)) ∧ Below w.heap.size w w' :=
  refusalOf_any 24 _ _ w (fun _ => by kernel_rfl) fun w1 h1 => fluxChk_any gr go gm cs p b l hl hc hp hb hla o m ho hm w1 (Ar.step h1) (Ao.step h1) (Am.step h1)

theorem FluxesOf_any (cs : List Nat) (p b l : Nat) (hl : cs.length = 16) (hc : ∀ x ∈ cs, x < 4294967296) (hp : p < 4294967296) (hb : b < 4294967296) (hla : l < 4294967296) (o m : Nat) (ho : o < 4294967296) (hm : m < 4294967296) (w : World) :
    Calls Try.prog 9 #[.agg (rd cs p b l), .float .f32 o, .float .f32 m] w fun e w' => e = .returned (.tuple #[.agg (fl (vFluxesOf cs p b l o m).1), .int .i64 (vFluxesOf cs p b l o m).2]) ∧ Below w.heap.size w w' := by
  have hmf : ∀ (fn : Fn) (first cap : Array Value) (w : World), (Instr.makeFunc fn first cap).run Try.prog w = .ok (.func fn first cap) w := fun _ _ _ _ => rfl
  have A0 : At ((((w.alloc (.cells (rd cs p b l) 28)).alloc (.cells #[.float .f32 o] 24)).alloc (.cells #[.float .f32 m] 24)).alloc (.cells (fl (zeros 17)) 33)) w.heap.size (rd cs p b l) 28 := (((At.new w _ _).alloc _).alloc _).alloc _
  have O0 : At ((((w.alloc (.cells (rd cs p b l) 28)).alloc (.cells #[.float .f32 o] 24)).alloc (.cells #[.float .f32 m] 24)).alloc (.cells (fl (zeros 17)) 33)) (w.heap.size + 1) #[.float .f32 o] 24 := ((At.last1 w _ _ _).alloc _).alloc _
  have M0 : At ((((w.alloc (.cells (rd cs p b l) 28)).alloc (.cells #[.float .f32 o] 24)).alloc (.cells #[.float .f32 m] 24)).alloc (.cells (fl (zeros 17)) 33)) (w.heap.size + 1 + 1) #[.float .f32 m] 24 := (At.last2 w _ _ _ _).alloc _
  have R0 : At ((((w.alloc (.cells (rd cs p b l) 28)).alloc (.cells #[.float .f32 o] 24)).alloc (.cells #[.float .f32 m] 24)).alloc (.cells (fl (zeros 17)) 33)) (w.heap.size + 1 + 1 + 1) (fl (zeros 17)) 33 := by
    have := At.new (((w.alloc (.cells (rd cs p b l) 28)).alloc (.cells #[.float .f32 o] 24)).alloc (.cells #[.float .f32 m] 24)) (fl (zeros 17)) 33
    rwa [World.size_alloc, World.size_alloc, World.size_alloc] at this
  have B0 := Lib.hid (bnew (bnew (bnew (b0 w (.cells (rd cs p b l) 28)) (.cells #[.float .f32 o] 24)) (.cells #[.float .f32 m] 24)) (.cells (fl (zeros 17)) 33))
  have KR := fluxRef_any _ _ _ cs p b l hl hc hp hb hla o m ho hm _ A0 O0 M0
  by_cases h : givenC (okB cs p b l) o m = 0
  · have e : (vFluxesOf cs p b l o m) = (fluxL p b cs o m, 0) := by unfold vFluxesOf; rw [if_pos h]
    obtain ⟨ns, hns⟩ : ∃ ns, ns = fluxL p b cs o m := ⟨_, rfl⟩
    have hn17 : ns.length = 17 := by rw [hns]; exact fluxL_len _ _ _ _ _
    have SZ : (fl ns).size = 17 := by rw [fl_size, hn17]
    obtain ⟨hok, ho2, hm2⟩ := given_zero h
    have ok := OkR.of hl hok
    rw [h] at KR
    rw [e, ← hns]
    have HNS := Lib.hid hns
    clear hns e
    go_enter Try.func9, Try.ntmps9
    go_wp2_with fail
    refine KR.mono ?_
    rintro e' w1 ⟨rfl, hb1⟩
    have A1 := A0.step hb1
    have R1 := R0.step hb1
    have c1 := (O0.step hb1).cell (k := 0) (v := .float .f32 o) rfl
    have c2 := (M0.step hb1).cell (k := 0) (v := .float .f32 m) rfl
    have B1 := Lib.hid (bthen B0.out hb1)
    clear KR A0 O0 M0 R0 B0 hb1
    go_wp2_with (((with_reducible refine is_load 28 _ rfl ?_); refine wpList_load_at rfl 28 _ rfl _ rfl (rd cs p b l) _ (by assumption) 19 (rd_size hl p b l) _ Try.underlying28 rfl (by kernel_rfl) ?_))
    refine (fluxesOf_any cs p b l ok o m ho2 hm2 _).mono ?_
    rw [← HNS.out]
    rintro e' w2 ⟨rfl, hb2⟩
    have R2 := R1.step hb2
    have B2 := Lib.hid (bthen B1.out hb2)
    clear A1 R1 c1 c2 B1 hb2
    have R9 := R2.setRow (fl ns)
    have B9 := Lib.hid (bset B2.out (g := w.heap.size + 1 + 1 + 1) (by omega) (fl ns))
    go_wp2_with (((with_reducible refine is_store 33 (.tmp 6) (.tmp 18) rfl ?_); refine wpList_store_at rfl 33 (.tmp 6) (.tmp 18) rfl _ rfl (fl ns) rfl (fl (zeros 17)) _ (by assumption) 17 (SZ) (by rw [fl_size, zeros_len]) (by kernel_rfl) (fl_one _) ?_))
    exact bodyPost_ret (v := .tuple #[.agg (fl ns), .int .i64 0]) (results_at_tmp (p := 6) (ty := 33) rfl _ _ _ (fl ns) _ (.int .i64 0) rfl rfl R9 _ Try.underlying33 rfl 17 (SZ) (by kernel_rfl)) rfl ⟨rfl, B9.out⟩
  · have e : (vFluxesOf cs p b l o m) = (zeros 17, givenC (okB cs p b l) o m) := by unfold vFluxesOf; rw [if_neg h]
    rw [e]
    generalize givenC (okB cs p b l) o m = c at KR h ⊢
    clear e
    go_enter Try.func9, Try.ntmps9
    go_wp2_with fail
    refine KR.mono ?_
    rintro e' w1 ⟨rfl, hb1⟩
    have R1 := R0.step hb1
    have B1 := Lib.hid (bthen B0.out hb1)
    clear KR A0 O0 M0 R0 B0 hb1
    have R9 := R1.setRow (fl (zeros 17))
    have B9 := Lib.hid (bset B1.out (g := w.heap.size + 1 + 1 + 1) (by omega) (fl (zeros 17)))
    go_wp2_with (((with_reducible refine is_store 33 (.tmp 6) (.tmp 13) rfl ?_); refine wpList_store_at rfl 33 (.tmp 6) (.tmp 13) rfl _ rfl (fl (zeros 17)) rfl (fl (zeros 17)) _ (by assumption) 17 (by rw [fl_size, zeros_len]) (by rw [fl_size, zeros_len]) (by kernel_rfl) (fl_one _) ?_))
    exact bodyPost_ret (v := .tuple #[.agg (fl (zeros 17)), .int .i64 c]) (results_at_tmp (p := 6) (ty := 33) rfl _ _ _ (fl (zeros 17)) _ (.int .i64 c) rfl rfl R9 _ Try.underlying33 rfl 17 (by rw [fl_size, zeros_len]) (by kernel_rfl)) rfl ⟨rfl, B9.out⟩

theorem sFluxesOf_any (cs : List Nat) (p b l : Nat) (hl : cs.length = 16) (hc : ∀ x ∈ cs, x < 4294967296) (hp : p < 4294967296) (hb : b < 4294967296) (hla : l < 4294967296) (o m : Nat) (ho : o < 4294967296) (hm : m < 4294967296) (w : World) :
    Calls Try.prog 10 #[.agg (rd cs p b l), .float .f32 o, .float .f32 m] w fun e w' => e = .returned (.tuple #[.agg (fl (vFluxesOf cs p b l o m).1), .int .i64 (vFluxesOf cs p b l o m).2]) ∧ Below w.heap.size w w' := by
  have A0 : At ((w.alloc (.cells (rd cs p b l) 28)).alloc (.cells (fl (zeros 17)) 33)) w.heap.size (rd cs p b l) 28 := (At.new w _ _).alloc _
  have R0 : At ((w.alloc (.cells (rd cs p b l) 28)).alloc (.cells (fl (zeros 17)) 33)) (w.heap.size + 1) (fl (zeros 17)) 33 := At.last1 w _ _ _
  have B0 := Lib.hid (bnew (b0 w (.cells (rd cs p b l) 28)) (.cells (fl (zeros 17)) 33))
  have KR := l02Given_any _ cs p b l hl hc hp hb hla o m ho hm _ ⟨_, _, A0⟩
  by_cases h : givenC (okB cs p b l) o m = 0
  · have e : (vFluxesOf cs p b l o m) = (fluxL p b cs o m, 0) := by unfold vFluxesOf; rw [if_pos h]
    obtain ⟨ns, hns⟩ : ∃ ns, ns = fluxL p b cs o m := ⟨_, rfl⟩
    have hn17 : ns.length = 17 := by rw [hns]; exact fluxL_len _ _ _ _ _
    have SZ : (fl ns).size = 17 := by rw [fl_size, hn17]
    obtain ⟨hok, ho2, hm2⟩ := given_zero h
    have ok := OkR.of hl hok
    rw [h] at KR
    rw [e, ← hns]
    have HNS := Lib.hid hns
    clear hns e
    go_enter Try.func10, Try.ntmps10
    go_wp2_with fail
    refine KR.mono ?_
    rintro e' w1 ⟨rfl, n1, rfl⟩
    have A1 := A0.drewN n1
    have R1 := R0.drewN n1
    have B1 := Lib.hid (bdrew B0.out n1)
    clear KR A0 R0 B0
    go_wp2_with fail
    refine (l02Flows_any _ cs p b l ok o m ho2 hm2 _ _ A1).mono ?_
    rw [← HNS.out]
    rintro e' w2 ⟨rfl, hb2⟩
    have R2 := R1.step hb2
    have B2 := Lib.hid (bthen B1.out hb2)
    clear A1 R1 B1 hb2
    have R9 := R2.setRow (fl ns)
    have B9 := Lib.hid (bset B2.out (g := w.heap.size + 1) (by omega) (fl ns))
    go_wp2_with (((with_reducible refine is_store 33 (.tmp 6) (.tmp 18) rfl ?_); refine wpList_store_at rfl 33 (.tmp 6) (.tmp 18) rfl _ rfl (fl ns) rfl (fl (zeros 17)) _ (by assumption) 17 (SZ) (by rw [fl_size, zeros_len]) (by kernel_rfl) (fl_one _) ?_))
    exact bodyPost_ret (v := .tuple #[.agg (fl ns), .int .i64 0]) (results_at_tmp (p := 6) (ty := 33) rfl _ _ _ (fl ns) _ (.int .i64 0) rfl rfl R9 _ Try.underlying33 rfl 17 (SZ) (by kernel_rfl)) rfl ⟨rfl, B9.out⟩
  · have e : (vFluxesOf cs p b l o m) = (zeros 17, givenC (okB cs p b l) o m) := by unfold vFluxesOf; rw [if_neg h]
    rw [e]
    generalize givenC (okB cs p b l) o m = c at KR h ⊢
    clear e
    go_enter Try.func10, Try.ntmps10
    go_wp2_with fail
    refine KR.mono ?_
    rintro e' w1 ⟨rfl, n1, rfl⟩
    have R1 := R0.drewN n1
    have B1 := Lib.hid (bdrew B0.out n1)
    clear KR A0 R0 B0
    generalize hw1 : World.drewN _ n1 = w1 at R1 B1 ⊢
    clear hw1
    have R9 := R1.setRow (fl (zeros 17))
    have B9 := Lib.hid (bset B1.out (g := w.heap.size + 1) (by omega) (fl (zeros 17)))
    go_wp2_with (((with_reducible refine is_store 33 (.tmp 6) (.tmp 14) rfl ?_); refine wpList_store_at rfl 33 (.tmp 6) (.tmp 14) rfl _ rfl (fl (zeros 17)) rfl (fl (zeros 17)) _ (by assumption) 17 (by rw [fl_size, zeros_len]) (by rw [fl_size, zeros_len]) (by kernel_rfl) (fl_one _) ?_))
    exact bodyPost_ret (v := .tuple #[.agg (fl (zeros 17)), .int .i64 c]) (results_at_tmp (p := 6) (ty := 33) rfl _ _ _ (fl (zeros 17)) _ (.int .i64 c) rfl rfl R9 _ Try.underlying33 rfl 17 (by rw [fl_size, zeros_len]) (by kernel_rfl)) rfl ⟨rfl, B9.out⟩

end Go.Proofs.Ytapnkkbkhifmeaa
