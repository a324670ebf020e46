/-
  CONTRACTS: a law's slice of numbers copied; two copies compared.
-/
import Derived.Test.YtboahhipobcabaaGreatG8
import Derived.Test.YtboahhipobcabaaGreatG10
import Derived.OwnWalk
import Derived.Test.YtboahhipobcabaaGreatG11
namespace Go.Proofs.YtboahhipobcabaaGreat
open Go Go.RowKit
set_option maxRecDepth 100000
variable {w : World}

theorem wpList_make_runL {P : Program} {w w' : World} {ops : Array Oper} {rest : List Oper} {o : Oper} {a : Act} {Q : Exit → Act → World → Prop}
    (hg : o.guard = none) (l c : Operand) (t : TypeId) (hop : o.op = Op.makeSlice t l c) (v1 v2 v : Value) (hl : a.eval l = v1) (hc : a.eval c = v2) (hrun : (Instr.makeSlice t v1 v2).run P w = .ok v w') (h : wpList P ops Q rest (a.put o.dst v) w') : wpList P ops Q (o :: rest) a w := by
  refine wpList_plain hg fun K hK' => ?_
  unfold Oper.wp execOp
  simp only [hop, hl, hc, Sem.run_bind, hrun, Sem.run_pure, Result.andThen_ok]
  exact hK' _ _ h
theorem made_zeros (n : Nat) : madeCells (Value.float .f32 0).cells (n * 1) = fl (zeros n) := by
  unfold madeCells fl zeros
  apply Array.ext
  · simp
  · intro i h1 h2
    have e : (Value.float .f32 0).cells = #[.float .f32 0] := rfl
    simp [e, Nat.mod_one]
theorem hs_conv {P : Program} {o : Oper} {a : Act} {w w' : World} {v : Value} (s t : TypeId) (x : Operand) (ho : o.op = .convert s t x) (v1 : Value) (h1 : a.eval x = v1) (hrun : (convert s t v1).run P w = .ok v w') : (execOp a.eval o).run P w = .ok (.value v) w' := by
  unfold execOp
  simp only [ho, h1, Sem.run_bind, hrun, Sem.run_pure, Result.andThen_ok]
theorem run_indexL {P : Program} (w : World) (ty e : TypeId) (g off n cap k s : Nat) (hu : P.underlying ty = some (.slice e)) (he : (P.info? e).map (·.size) = some s) (hk : k < n) :
    (Instr.indexAt ty (.slice (some ⟨g, off, none⟩) n cap) (.int .i64 (k : Int))).run P w = .ok (.pointer (some ⟨g, off + k * s, none⟩)) w := by
  cases hq : P.info? e with
  | none => simp [hq] at he
  | some i =>
    have hs : i.size = s := by simpa [hq] using he
    by_cases h0 : k * s = 0
    · simp [Instr.indexAt, asIntOf, run_underlying hu, hk, sizeOf, typeInfo, hq, hs, Addr.add, h0]
    · simp [Instr.indexAt, asIntOf, run_underlying hu, hk, sizeOf, typeInfo, hq, hs, Addr.add, h0]
theorem run_make_f32 (W : World) (n : Nat) (hn : n ≤ 1048576) : (Instr.makeSlice 23 (.int .i64 (n : Int)) (.int .i64 (n : Int))).run Tryz.prog W = .ok (.slice (some ⟨W.heap.size, 0, none⟩) n n) (W.alloc (.cells (fl (zeros n)) 26)) := by
  have hi : (Tryz.prog.info? 26).map (fun i => (i.zero, i.size, i.bytes)) = some (some (.float .f32 0), 1, 4) := by kernel_rfl
  obtain ⟨i, h1, h2, h3, h4⟩ := info_parts hi
  have := run_make (P := Tryz.prog) W 23 26 i (.float .f32 0) Tryz.underlying23 h1 h2 .i64 .i64 (n : Int) (n : Int) (by omega) (by omega) (by rw [h4]; omega) (by omega)
  rw [Int.toNat_natCast, h3, made_zeros] at this
  exact this
theorem drewN2 (W : World) (a b : Nat) : (W.drewN a).drewN b = W.drewN (a + b) := by simp [World.drewN, Nat.add_assoc]
theorem Agr.self {x : Nat} (h : x < 4294967296) : Agr x x := ⟨h, h, by cases h : nanB x; exact .inr ⟨rfl, rfl⟩; exact .inl ⟨rfl, rfl⟩⟩
theorem toFloat32S_any (v : Value) (xs : List Nat) (hF : FSl w v xs) (hn : xs.length ≤ 1048576) :
    Calls Tryz.prog 28 #[v] w fun e w' => e = .returned (.slice (some ⟨w.heap.size, 0, none⟩) xs.length xs.length) ∧ At w' w.heap.size (fl xs) 26 ∧ Below w.heap.size w w' := by
  have hmk := run_make_f32 w xs.length hn
  have A0 := At.new w (fl (zeros xs.length)) 26
  have B0 := Lib.hid (b0 w (.cells (fl (zeros xs.length)) 26))
  rcases hF.val with ⟨hx, a, cap, rfl⟩ | ⟨g, off, cap, rfl, hg, hcell⟩
  · subst hx
    have hmk' : (Instr.makeSlice 23 (.int .i64 0) (.int .i64 0)).run Tryz.prog w = .ok (.slice (some ⟨w.heap.size, 0, none⟩) 0 0) (w.alloc (.cells (fl (zeros 0)) 26)) := hmk
    clear hmk hF
    go_enter Tryz.func28, Tryz.ntmps28
    go_wp2_with ((at_make; refine wpList_make_runL rfl _ _ _ rfl _ _ _ rfl rfl hmk' ?_))
    go_loopw [4] (fun i wr => i = .int .i64 0 ∧ wr = w.alloc (.cells (fl (zeros 0)) 26)) (fun _ _ => 0)
    case atStart => exact ⟨rfl, rfl⟩
    case round =>
      obtain ⟨rfl, rfl⟩ := hrel
      go_wp2
      go_ret
      exact ⟨rfl, A0, B0.out⟩
  · have HC := Lib.hid hcell
    clear hcell hF
    obtain ⟨n, hnn⟩ : ∃ n, n = xs.length := ⟨_, rfl⟩
    rw [← hnn] at hn hmk A0 B0 ⊢
    have HN := Lib.hid hnn
    clear hnn
    go_enter Tryz.func28, Tryz.ntmps28
    go_wp2_with ((at_make; refine wpList_make_runL rfl _ _ _ rfl _ _ _ rfl rfl hmk ?_))
    clear hmk
    go_loopw [4] (fun i wr => ∃ k : Nat, k ≤ n ∧ i = .int .i64 (k : Int) ∧ At wr w.heap.size (fl (cpN n xs k)) 26 ∧ Hid (Below w.heap.size w wr)) (fun i _ => n - (intOf i).toNat)
    case atStart => exact ⟨0, by omega, rfl, by have : cpN n xs 0 = zeros n := by simp [cpN, zeros]
                                                rw [this]; exact A0, B0⟩
    case round =>
      clear A0 B0
      obtain ⟨k, hk, rfl, A1, B1⟩ := hrel
      have hl := HN.out.symm
      by_cases hlt : k < n
      · have s2 : IntKind.i64.wrap ((k : Int) + 1) = (k : Int) + 1 := IntWalk.i64_in _ (by omega)
        have kd : (k : Int) < (n : Int) := by omega
        have hi : wr.cell? ⟨g, off + k, none⟩ = some (.float .f32 (nth xs k)) := by
          rw [← HC.out k (by omega)]
          unfold World.cell?
          rw [B1.out.block g hg]
        have G := run_storeAt_one (P := Tryz.prog) wr w.heap.size k 26 26 (fl (cpN n xs k)) (.float .f32 (nth xs k)) A1 (by kernel_rfl) (by rw [fl_size, cpN_len hl _ hk]; omega) rfl
        rw [fl_set, cpN_set hl hlt] at G
        have A2 := A1.setRow (fl (cpN n xs (k + 1)))
        have B2 := Lib.hid (bset B1.out (g := w.heap.size) (Nat.le_refl _) (fl (cpN n xs (k + 1))))
        have GS := G
        clear hl
        go_wp2_with ((with_reducible refine is_store 26 _ _ rfl ?_); refine wpList_store_of rfl 26 _ _ rfl _ rfl _ rfl _ G ?_)
        exact ⟨⟨k + 1, by omega, by go_num, A2, B2⟩, by simp [intOf]; omega⟩
      · obtain rfl : n = k := by omega
        rw [cpN_all hl] at A1
        clear hl
        go_wp2
        go_ret
        exact ⟨rfl, A1, B1.out⟩
theorem eqFloat32S_same (g1 g2 : Nat) (xs : List Nat) (hx : ∀ x ∈ xs, x < 4294967296) (hn : xs.length ≤ 1048576) (T1 T2 : TypeId) (w : World) (h1 : At w g1 (fl xs) T1) (h2 : At w g2 (fl xs) T2) :
    Calls Tryz.prog 35 #[.slice (some ⟨g1, 0, none⟩) xs.length xs.length, .slice (some ⟨g2, 0, none⟩) xs.length xs.length] w fun e w' => e = .returned (.bool true) ∧ Below w.heap.size w w' := by
  have HX := Lib.hid (And.intro hx (And.intro h1 h2))
  obtain ⟨n, hnn⟩ : ∃ n, n = xs.length := ⟨_, rfl⟩
  rw [← hnn] at hn ⊢
  have HN := Lib.hid hnn
  clear hnn hx h1 h2
  go_enter Tryz.func35, Tryz.ntmps35
  go_wp2
  go_loopw [5] (fun i wr => ∃ k m : Nat, k ≤ n ∧ i = .int .i64 (k : Int) ∧ wr = w.drewN m) (fun i _ => n - (intOf i).toNat)
  case atStart => exact ⟨0, 0, by omega, rfl, rfl⟩
  case round =>
    obtain ⟨k, m, hk, rfl, rfl⟩ := hrel
    by_cases hlt : k < n
    · have s2 : IntKind.i64.wrap ((k : Int) + 1) = (k : Int) + 1 := IntWalk.i64_in _ (by omega)
      have kd : (k : Int) < (n : Int) := by omega
      have A1 := HX.out.2.1.drewN m
      have A2 := HX.out.2.2.drewN m
      have hxk : nth xs k < 4294967296 := u32_lt HX.out.1 k
      go_wp2
      refine wp_region_held (S := fun w' => ∃ m', w' = w.drewN m') (by kernel_rfl) ?_
      show wpAnyH _ _ _ _ _ 12 (Array.replicate 12 false) _ _
      have S0 : ∃ m', ({ w.drewN m with drawn := (w.drewN m).drawn + 1 } : World) = w.drewN m' := ⟨m + 1, rfl⟩
      have L1 : ∀ w', (∃ m', w' = w.drewN m') → (Instr.loadAt 26 (.pointer (some ⟨g1, 0 + k * 1, none⟩))).run Tryz.prog w' = .ok (.float .f32 (nth xs k)) w' := by
        rintro _ ⟨m', rfl⟩
        exact run_load_cell _ 26 _ Tryz.underlying26 _ _ ((HX.out.2.1.drewN m').cell (by rw [show 0 + k * 1 = k from by omega]; exact fl_get (by rw [← HN.out]; exact hlt)))
      have L2 : ∀ w', (∃ m', w' = w.drewN m') → (Instr.loadAt 26 (.pointer (some ⟨g2, 0 + k * 1, none⟩))).run Tryz.prog w' = .ok (.float .f32 (nth xs k)) w' := by
        rintro _ ⟨m', rfl⟩
        exact run_load_cell _ 26 _ Tryz.underlying26 _ _ ((HX.out.2.2.drewN m').cell (by rw [show 0 + k * 1 = k from by omega]; exact fl_get (by rw [← HN.out]; exact hlt)))
      generalize hw0 : ({ w.drewN m with drawn := (w.drewN m).drawn + 1 } : World) = w0 at S0 ⊢
      clear hw0
      obtain ⟨m0, rfl⟩ := S0
      have S0 : ∃ m', w.drewN m0 = w.drewN m' := ⟨_, rfl⟩
      refine wpAnyH_take (i := 0) (v := .slice (some ⟨g1, 0, none⟩) n n) rfl (by kernel_rfl) (by kernel_rfl) (by kernel_rfl) (fun _ _ _ h => h) (yif rfl fun w' hw' => hx_move (.tmp 0) rfl (by kernel_rfl)) (by assumption) ?_
      refine wpAnyH_take (i := 1) (v := .int .i64 (k : Int)) rfl (by kernel_rfl) (by kernel_rfl) (by kernel_rfl) (fun _ _ _ h => h) (yif rfl fun w' hw' => hx_move (.tmp 5) rfl (by kernel_rfl)) (by assumption) ?_
      refine wpAnyH_take (i := 2) (v := .pointer (some ⟨g1, 0 + k * 1, none⟩)) rfl (by kernel_rfl) (by kernel_rfl) (by kernel_rfl) (fun _ _ _ h => h) (yif rfl fun w' hw' => hx_index 23 (.tmp 17) (.tmp 18) rfl (.slice (some ⟨g1, 0, none⟩) n n) (.int .i64 (k : Int)) (by kernel_rfl) (by kernel_rfl) (run_indexL w' 23 26 g1 0 n n k 1 Tryz.underlying23 (by kernel_rfl) hlt)) (by assumption) ?_
      refine wpAnyH_take (i := 3) (v := .float .f32 (nth xs k)) rfl (by kernel_rfl) (by kernel_rfl) (by kernel_rfl) (fun _ _ _ h => h) (yif rfl fun w' hw' => x_load 26 (.tmp 19) rfl ⟨g1, 0 + k * 1, none⟩ (by kernel_rfl) (L1 w' hw')) (by assumption) ?_
      refine wpAnyH_take (i := 5) (v := .slice (some ⟨g2, 0, none⟩) n n) rfl (by kernel_rfl) (by kernel_rfl) (by kernel_rfl) (fun _ _ _ h => h) (yif rfl fun w' hw' => hx_move (.tmp 1) rfl (by kernel_rfl)) (by assumption) ?_
      refine wpAnyH_take (i := 6) (v := .int .i64 (k : Int)) rfl (by kernel_rfl) (by kernel_rfl) (by kernel_rfl) (fun _ _ _ h => h) (yif rfl fun w' hw' => hx_move (.tmp 5) rfl (by kernel_rfl)) (by assumption) ?_
      refine wpAnyH_take (i := 7) (v := .pointer (some ⟨g2, 0 + k * 1, none⟩)) rfl (by kernel_rfl) (by kernel_rfl) (by kernel_rfl) (fun _ _ _ h => h) (yif rfl fun w' hw' => hx_index 23 (.tmp 22) (.tmp 23) rfl (.slice (some ⟨g2, 0, none⟩) n n) (.int .i64 (k : Int)) (by kernel_rfl) (by kernel_rfl) (run_indexL w' 23 26 g2 0 n n k 1 Tryz.underlying23 (by kernel_rfl) hlt)) (by assumption) ?_
      refine wpAnyH_take (i := 8) (v := .float .f32 (nth xs k)) rfl (by kernel_rfl) (by kernel_rfl) (by kernel_rfl) (fun _ _ _ h => h) (yif rfl fun w' hw' => x_load 26 (.tmp 24) rfl ⟨g2, 0 + k * 1, none⟩ (by kernel_rfl) (L2 w' hw')) (by assumption) ?_
      refine wpAnyH_all (rs := [4, 9]) (by kernel_rfl) (by simp) fun i' hi' => ?_
      have hi2 : i' = 4 ∨ i' = 9 := by simpa using hi'
      clear hi'
      rcases hi2 with rfl | rfl
      · obtain ⟨X, n1, e1, hX⟩ := wide_agr hxk (w.drewN m0)
        refine op_value (v := .float .f64 X) rfl rfl (hs_conv 26 96 (.tmp 20) rfl (.float .f32 (nth xs k)) (by kernel_rfl) e1) ⟨⟨_, by first | exact drewN2 _ _ _ | rw [drewN2, drewN2]⟩, ?_⟩
        refine wpAnyH_all (rs := [9]) (by kernel_rfl) (by simp) fun i' hi'' => ?_
        obtain rfl := one_of hi''
        obtain ⟨Y, n2, e2, hY⟩ := wide_agr hxk ((w.drewN m0).drewN n1)
        refine op_value (v := .float .f64 Y) rfl rfl (hs_conv 26 96 (.tmp 25) rfl (.float .f32 (nth xs k)) (by kernel_rfl) e2) ⟨⟨_, by first | exact drewN2 _ _ _ | rw [drewN2, drewN2]⟩, ?_⟩
        refine wpAnyH_all (rs := [10]) (by kernel_rfl) (by simp) fun i' hi'' => ?_
        obtain rfl := one_of hi''
        refine op_call (f := 38) (args := #[.float .f64 X, .float .f64 Y]) rfl rfl (by kernel_rfl) ((sameFloat_agr (Agr.self hxk) hX hY _).mono ?_)
        rintro e w9 ⟨rfl, rfl⟩
        refine ⟨_, rfl, ⟨_, by rw [drewN2, drewN2]⟩, ?_⟩
        refine wpAnyH_take (i := 11) (v := .bool false) rfl (by kernel_rfl) (by kernel_rfl) (by kernel_rfl) (fun _ _ _ h => h) (yif rfl fun w' hw' => by kernel_rfl) ⟨_, by rw [drewN2, drewN2]⟩ ?_
        refine wpAnyH_done (by kernel_rfl) ?_ _
        clear hX hY L1 L2 A1 A2 hxk
        generalize hA : Act.put _ _ _ = A
        have eA : A = { tmps := #[.slice (some ⟨g1, 0, none⟩) n n, .slice (some ⟨g2, 0, none⟩) n n, undef, undef, u4, .int .i64 (k : Int), .slice (some ⟨g1, 0, none⟩) n n, .int .i64 (n : Int), .slice (some ⟨g2, 0, none⟩) n n, .int .i64 (n : Int), .bool false, .int .i64 (k : Int), .slice (some ⟨g1, 0, none⟩) n n, .int .i64 (n : Int), .bool true, u15, u16, .slice (some ⟨g1, 0, none⟩) n n, .int .i64 (k : Int), .pointer (some ⟨g1, 0 + k * 1, none⟩), .float .f32 (nth xs k), .float .f64 X, .slice (some ⟨g2, 0, none⟩) n n, .int .i64 (k : Int), .pointer (some ⟨g2, 0 + k * 1, none⟩), .float .f32 (nth xs k), .float .f64 Y, .bool true, .bool false], defers := [] } := by rw [← hA]; kernel_rfl
        clear hA
        subst eA
        go_wp2
        exact ⟨⟨k + 1, _, by omega, by go_num, rfl⟩, by simp [intOf]; omega⟩
      · obtain ⟨Y, n2, e2, hY⟩ := wide_agr hxk (w.drewN m0)
        refine op_value (v := .float .f64 Y) rfl rfl (hs_conv 26 96 (.tmp 25) rfl (.float .f32 (nth xs k)) (by kernel_rfl) e2) ⟨⟨_, by first | exact drewN2 _ _ _ | rw [drewN2, drewN2]⟩, ?_⟩
        refine wpAnyH_all (rs := [4]) (by kernel_rfl) (by simp) fun i' hi'' => ?_
        obtain rfl := one_of hi''
        obtain ⟨X, n1, e1, hX⟩ := wide_agr hxk ((w.drewN m0).drewN n2)
        refine op_value (v := .float .f64 X) rfl rfl (hs_conv 26 96 (.tmp 20) rfl (.float .f32 (nth xs k)) (by kernel_rfl) e1) ⟨⟨_, by first | exact drewN2 _ _ _ | rw [drewN2, drewN2]⟩, ?_⟩
        refine wpAnyH_all (rs := [10]) (by kernel_rfl) (by simp) fun i' hi'' => ?_
        obtain rfl := one_of hi''
        refine op_call (f := 38) (args := #[.float .f64 X, .float .f64 Y]) rfl rfl (by kernel_rfl) ((sameFloat_agr (Agr.self hxk) hX hY _).mono ?_)
        rintro e w9 ⟨rfl, rfl⟩
        refine ⟨_, rfl, ⟨_, by rw [drewN2, drewN2]⟩, ?_⟩
        refine wpAnyH_take (i := 11) (v := .bool false) rfl (by kernel_rfl) (by kernel_rfl) (by kernel_rfl) (fun _ _ _ h => h) (yif rfl fun w' hw' => by kernel_rfl) ⟨_, by rw [drewN2, drewN2]⟩ ?_
        refine wpAnyH_done (by kernel_rfl) ?_ _
        clear hX hY L1 L2 A1 A2 hxk
        generalize hA : Act.put _ _ _ = A
        have eA : A = { tmps := #[.slice (some ⟨g1, 0, none⟩) n n, .slice (some ⟨g2, 0, none⟩) n n, undef, undef, u4, .int .i64 (k : Int), .slice (some ⟨g1, 0, none⟩) n n, .int .i64 (n : Int), .slice (some ⟨g2, 0, none⟩) n n, .int .i64 (n : Int), .bool false, .int .i64 (k : Int), .slice (some ⟨g1, 0, none⟩) n n, .int .i64 (n : Int), .bool true, u15, u16, .slice (some ⟨g1, 0, none⟩) n n, .int .i64 (k : Int), .pointer (some ⟨g1, 0 + k * 1, none⟩), .float .f32 (nth xs k), .float .f64 X, .slice (some ⟨g2, 0, none⟩) n n, .int .i64 (k : Int), .pointer (some ⟨g2, 0 + k * 1, none⟩), .float .f32 (nth xs k), .float .f64 Y, .bool true, .bool false], defers := [] } := by rw [← hA]; kernel_rfl
        clear hA
        subst eA
        go_wp2
        exact ⟨⟨k + 1, _, by omega, by go_num, rfl⟩, by simp [intOf]; omega⟩
    · obtain rfl : n = k := by omega
      go_wp2
      go_ret
      exact ⟨rfl, bdrew (Below.refl _ _) _⟩

end Go.Proofs.YtboahhipobcabaaGreat
