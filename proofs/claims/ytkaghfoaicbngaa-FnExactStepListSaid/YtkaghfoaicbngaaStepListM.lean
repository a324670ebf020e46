/-
  SEVERAL TEXTS IN ONE.
-/
import Derived.Test.YtkaghfoaicbngaaSteady
import Derived.Test.YtkaghfoaicbngaaSteps
import Derived.Test.YtkaghfoaicbngaaSlicesM
import Derived.Test.YtkaghfoaicbngaaStepRds

/-
  CONTRACTS: steps that are told by lists: the program's checks.
-/
namespace Go.Proofs.Ytkaghfoaicbngaa
open Go Go.RowKit Go.Shelf
set_option maxRecDepth 100000

/-- the code of lists of steps -/
def listC (ok : Bool) (xs ys : List Nat) : Int := if ok then (if xs.length = ys.length ∧ xs.length ≤ 400 then (if amtC xs = 0 then amtC ys else amtC xs) else 2) else 1
theorem amtC_cases (xs : List Nat) : amtC xs = 0 ∨ amtC xs = 2 := by unfold amtC; split; exact .inl rfl; exact .inr rfl
theorem amtC_zero {xs : List Nat} (h : amtC xs = 0) : ∀ k, k < xs.length → nth xs k < 2139095040 := by
  intro k hk
  unfold amtC at h
  by_cases c : xs.all amtB = true
  · have := List.all_eq_true.1 c _ (nth_mem hk)
    unfold amtB at this
    simpa using this
  · rw [if_neg c] at h; cases h
theorem listC_zero {ok : Bool} {xs ys : List Nat} (h : listC ok xs ys = 0) : ok = true ∧ xs.length = ys.length ∧ xs.length ≤ 400 ∧ amtC xs = 0 ∧ amtC ys = 0 := by
  unfold listC at h
  cases ok
  · simp at h
  · rw [if_pos rfl] at h
    by_cases c : xs.length = ys.length ∧ xs.length ≤ 400
    · rw [if_pos c] at h
      by_cases a : amtC xs = 0
      · rw [if_pos a] at h; exact ⟨rfl, c.1, c.2, a, h⟩
      · rw [if_neg a] at h; exact absurd h a
    · rw [if_neg c] at h; cases h

theorem listChk_any (gr g1 g2 : Nat) (cs : List Nat) (p b l : Nat) (hl : cs.length = 16) (hc : ∀ x ∈ cs, x < 4294967296) (hp : p < 4294967296) (hb : b < 4294967296) (hla : l < 4294967296) (xs ys : List Nat) (hx : ∀ x ∈ xs, x < 4294967296) (hy : ∀ x ∈ ys, x < 4294967296) (hnx : xs.length ≤ 1048576) (hny : ys.length ≤ 1048576) (ga gb : Nat) (Ta Tb : TypeId) (w : World) (Ar : At w gr (rd cs p b l) 28) (A1 : At w g1 #[.slice (some ⟨ga, 0, none⟩) xs.length xs.length] 38) (A2 : At w g2 #[.slice (some ⟨gb, 0, none⟩) ys.length ys.length] 38) (X0 : At w ga (fl xs) Ta) (Y0 : At w gb (fl ys) Tb) :
    Calls Try.prog 38 #[.pointer (some ⟨gr, 0, none⟩), .pointer (some ⟨g1, 0, none⟩), .pointer (some ⟨g2, 0, none⟩)] w fun e w' => Chk (listC (okB cs p b l) xs ys) e ∧ Below w.heap.size w w' := by
  cases h : okB cs p b l
  · rw [show listC false xs ys = 1 from rfl]
    go_enter Try.func38, Try.ntmps38
    go_wp2_with (((with_reducible refine is_load 28 _ rfl ?_); refine wpList_load_at rfl 28 _ rfl _ rfl (rd cs p b l) _ Ar 19 (rd_size hl p b l) _ Try.underlying28 rfl (by kernel_rfl) ?_))
    have KV := ValidRoad_any cs p b l hl hc hp hb hla w
    rw [h] at KV
    refine KV.mono ?_
    rintro e w1 ⟨rfl, hb1⟩
    clear KV
    go_wp2_with fail
    refine (need_bad 1 w1).mono ?_
    rintro e w2 ⟨rfl, rfl⟩
    go_wp2
    exact ⟨rfl, .inr ⟨by decide, _, .inl rfl, rfl⟩, hb1⟩
  · obtain ⟨c0, hcc⟩ : ∃ c0, c0 = listC true xs ys := ⟨_, rfl⟩
    rw [← hcc]
    have HC := Lib.hid hcc
    have hnx' := hnx
    have hny' := hny
    clear hcc
    obtain ⟨n, hn⟩ : ∃ n, n = xs.length := ⟨_, rfl⟩
    obtain ⟨m, hm⟩ : ∃ m, m = ys.length := ⟨_, rfl⟩
    have KX := fun W (hA : At W ga (fl xs) Ta) => needAmounts_any ga 0 n xs hx hnx W hA.fl_cells
    have KY := fun W (hA : At W gb (fl ys) Tb) => needAmounts_any gb 0 m ys hy hny W hA.fl_cells
    rw [← hn] at A1 KX hnx'
    rw [← hm] at A2 KY hny'
    have HN := Lib.hid (And.intro hn hm)
    clear hn hm hnx hny
    go_enter Try.func38, Try.ntmps38
    go_wp2_with (((with_reducible refine is_load 28 _ rfl ?_); refine wpList_load_at rfl 28 _ rfl _ rfl (rd cs p b l) _ Ar 19 (rd_size hl p b l) _ Try.underlying28 rfl (by kernel_rfl) ?_))
    have KV := ValidRoad_any cs p b l hl hc hp hb hla w
    rw [h] at KV
    refine KV.mono ?_
    rintro e w1 ⟨rfl, hb1⟩
    clear KV
    have A3 := A1.step hb1
    have A4 := A2.step hb1
    have X1 := X0.step hb1
    have Y1 := Y0.step hb1
    clear A1 A2 X0 Y0
    go_wp2_with fail
    refine (need_ok 1 w1).mono ?_
    rintro e w2 ⟨rfl, rfl⟩
    by_cases hnm : n = m
    · have e1 : decide ((n : Int) = (m : Int)) = true := decide_eq_true (by omega)
      have e2 : ((n : Int) == (m : Int)) = true := by simp [hnm]
      by_cases h4 : n ≤ 400
      · have h4d : decide ((n : Int) ≤ 400) = true := decide_eq_true (by omega)
        have HC1 : Hid (c0 = if amtC xs = 0 then amtC ys else amtC xs) := Lib.hid (by rw [HC.out]; unfold listC; rw [if_pos rfl, if_pos (by rw [← HN.out.1, ← HN.out.2]; exact ⟨hnm, h4⟩)])
        clear hnm HC
        go_wp2_with (first | ((with_reducible refine is_load 38 (.tmp 1) rfl ?_); refine wpList_load_cell rfl 38 (.tmp 1) rfl _ _ rfl (#[.slice (some ⟨ga, 0, none⟩) n n]) _ A3 _ Try.underlying38 rfl (.slice (some ⟨ga, 0, none⟩) n n) rfl ?_) | ((with_reducible refine is_load 38 (.tmp 2) rfl ?_); refine wpList_load_cell rfl 38 (.tmp 2) rfl _ _ rfl (#[.slice (some ⟨gb, 0, none⟩) m m]) _ A4 _ Try.underlying38 rfl (.slice (some ⟨gb, 0, none⟩) m m) rfl ?_) | ((with_reducible refine is_load 38 (.tmp 1) rfl ?_); refine wpList_load_cell_g rfl 38 (.tmp 1) rfl _ _ rfl (#[.slice (some ⟨ga, 0, none⟩) n n]) _ A3 _ Try.underlying38 rfl (.slice (some ⟨ga, 0, none⟩) n n) rfl ?_))
        refine (need_ok 2 _).mono ?_
        rintro e w2 ⟨rfl, rfl⟩
        go_wp2_with (((with_reducible refine is_load 38 (.tmp 1) rfl ?_); refine wpList_load_cell rfl 38 (.tmp 1) rfl _ _ rfl (#[.slice (some ⟨ga, 0, none⟩) n n]) _ A3 _ Try.underlying38 rfl (.slice (some ⟨ga, 0, none⟩) n n) rfl ?_))
        refine (KX _ X1).mono ?_
        rintro e w2 ⟨⟨h0, rfl⟩ | ⟨h0, x, hx', rfl⟩, m2, rfl⟩
        · have HC2 : Hid (c0 = amtC ys) := Lib.hid (by rw [HC1.out, if_pos h0])
          clear HC1 h0 KX
          have A5 := A4.drewN m2
          have Y2 := Y1.drewN m2
          go_wp2_with (((with_reducible refine is_load 38 (.tmp 2) rfl ?_); refine wpList_load_cell rfl 38 (.tmp 2) rfl _ _ rfl (#[.slice (some ⟨gb, 0, none⟩) m m]) _ A5 _ Try.underlying38 rfl (.slice (some ⟨gb, 0, none⟩) m m) rfl ?_))
          refine (KY _ Y2).mono ?_
          rintro e w2 ⟨⟨h0, rfl⟩ | ⟨h0, x, hx', rfl⟩, m3, rfl⟩
          · go_wp2
            go_end0
            exact ⟨.inl ⟨by rw [HC2.out, h0], rfl⟩, bdrew hb1 _⟩
          · go_wp2
            exact ⟨rfl, .inr ⟨by rw [HC2.out]; exact h0, x, by rw [HC2.out]; exact hx', rfl⟩, bdrew hb1 _⟩
        · have HC2 : Hid (c0 = amtC xs) := Lib.hid (by rw [HC1.out, if_neg h0])
          go_wp2
          exact ⟨rfl, .inr ⟨by rw [HC2.out]; exact h0, x, by rw [HC2.out]; exact hx', rfl⟩, bdrew hb1 _⟩
      · have h4d : decide ((n : Int) ≤ 400) = false := decide_eq_false (by omega)
        have hc2 : c0 = 2 := by rw [HC.out]; unfold listC; rw [if_pos rfl, if_neg (by rw [← HN.out.1]; omega)]
        subst hc2
        clear hnm HC h4
        go_wp2_with (first | ((with_reducible refine is_load 38 (.tmp 1) rfl ?_); refine wpList_load_cell rfl 38 (.tmp 1) rfl _ _ rfl (#[.slice (some ⟨ga, 0, none⟩) n n]) _ A3 _ Try.underlying38 rfl (.slice (some ⟨ga, 0, none⟩) n n) rfl ?_) | ((with_reducible refine is_load 38 (.tmp 2) rfl ?_); refine wpList_load_cell rfl 38 (.tmp 2) rfl _ _ rfl (#[.slice (some ⟨gb, 0, none⟩) m m]) _ A4 _ Try.underlying38 rfl (.slice (some ⟨gb, 0, none⟩) m m) rfl ?_) | ((with_reducible refine is_load 38 (.tmp 1) rfl ?_); refine wpList_load_cell_g rfl 38 (.tmp 1) rfl _ _ rfl (#[.slice (some ⟨ga, 0, none⟩) n n]) _ A3 _ Try.underlying38 rfl (.slice (some ⟨ga, 0, none⟩) n n) rfl ?_))
        refine (need_bad 2 _).mono ?_
        rintro e w2 ⟨rfl, rfl⟩
        go_wp2
        exact ⟨rfl, .inr ⟨by decide, _, .inl rfl, rfl⟩, hb1⟩
    · have e1 : decide ((n : Int) = (m : Int)) = false := decide_eq_false (by omega)
      have e2 : ((n : Int) == (m : Int)) = false := by simp; omega
      have hc2 : c0 = 2 := by rw [HC.out]; unfold listC; rw [if_pos rfl, if_neg (by rw [← HN.out.1, ← HN.out.2]; omega)]
      subst hc2
      clear hnm HC
      go_wp2_with (first | ((with_reducible refine is_load 38 (.tmp 1) rfl ?_); refine wpList_load_cell rfl 38 (.tmp 1) rfl _ _ rfl (#[.slice (some ⟨ga, 0, none⟩) n n]) _ A3 _ Try.underlying38 rfl (.slice (some ⟨ga, 0, none⟩) n n) rfl ?_) | ((with_reducible refine is_load 38 (.tmp 2) rfl ?_); refine wpList_load_cell rfl 38 (.tmp 2) rfl _ _ rfl (#[.slice (some ⟨gb, 0, none⟩) m m]) _ A4 _ Try.underlying38 rfl (.slice (some ⟨gb, 0, none⟩) m m) rfl ?_) | ((with_reducible refine is_load 38 (.tmp 1) rfl ?_); refine wpList_load_cell_g rfl 38 (.tmp 1) rfl _ _ rfl (#[.slice (some ⟨ga, 0, none⟩) n n]) _ A3 _ Try.underlying38 rfl (.slice (some ⟨ga, 0, none⟩) n n) rfl ?_))
      refine (need_bad 2 _).mono ?_
      rintro e w2 ⟨rfl, rfl⟩
      go_wp2
      exact ⟨rfl, .inr ⟨by decide, _, .inl rfl, rfl⟩, hb1⟩

end Go.Proofs.Ytkaghfoaicbngaa

/-
  CONTRACTS: steps that are told by lists, the program's.
-/
namespace Go.Proofs.Ytkaghfoaicbngaa
open Go Go.RowKit Go.Shelf
set_option maxRecDepth 100000

theorem StepList_no (cs : List Nat) (p b l : Nat) (hl : cs.length = 16) (hc : ∀ x ∈ cs, x < 4294967296) (hp : p < 4294967296) (hb : b < 4294967296) (hla : l < 4294967296) (xs ys : List Nat) (hx : ∀ x ∈ xs, x < 4294967296) (hy : ∀ x ∈ ys, x < 4294967296) (hnx : xs.length ≤ 1048576) (hny : ys.length ≤ 1048576) (ga gb : Nat) (Ta Tb : TypeId) (h : listC (okB cs p b l) xs ys ≠ 0) (w : World) (X0 : At w ga (fl xs) Ta) (Y0 : At w gb (fl ys) Tb) :
    Calls Try.prog 18 #[.agg (rd cs p b l), .slice (some ⟨ga, 0, none⟩) xs.length xs.length, .slice (some ⟨gb, 0, none⟩) ys.length ys.length] w fun e w' => e = .returned (.tuple #[.agg ((rd (zeros 16) 0 0 0)), .float .f32 0, .float .f32 0, .int .i64 (listC (okB cs p b l) xs ys)]) ∧ Below w.heap.size w w' := by
  have R0 : At ((((w.alloc (.cells (rd cs p b l) 28)).alloc (.cells #[.slice (some ⟨ga, 0, none⟩) xs.length xs.length] 38)).alloc (.cells #[.slice (some ⟨gb, 0, none⟩) ys.length ys.length] 38)).alloc (.cells (rd (zeros 16) 0 0 0) 28)) w.heap.size (rd cs p b l) 28 := (((At.new w _ _).alloc _).alloc _).alloc _
  have A0 : At ((((w.alloc (.cells (rd cs p b l) 28)).alloc (.cells #[.slice (some ⟨ga, 0, none⟩) xs.length xs.length] 38)).alloc (.cells #[.slice (some ⟨gb, 0, none⟩) ys.length ys.length] 38)).alloc (.cells (rd (zeros 16) 0 0 0) 28)) (w.heap.size + 1) #[.slice (some ⟨ga, 0, none⟩) xs.length xs.length] 38 := ((At.last1 w _ _ _).alloc _).alloc _
  have C0 : At ((((w.alloc (.cells (rd cs p b l) 28)).alloc (.cells #[.slice (some ⟨ga, 0, none⟩) xs.length xs.length] 38)).alloc (.cells #[.slice (some ⟨gb, 0, none⟩) ys.length ys.length] 38)).alloc (.cells (rd (zeros 16) 0 0 0) 28)) (w.heap.size + 1 + 1) #[.slice (some ⟨gb, 0, none⟩) ys.length ys.length] 38 := (At.last2 w _ _ _ _).alloc _
  have T0 : At ((((w.alloc (.cells (rd cs p b l) 28)).alloc (.cells #[.slice (some ⟨ga, 0, none⟩) xs.length xs.length] 38)).alloc (.cells #[.slice (some ⟨gb, 0, none⟩) ys.length ys.length] 38)).alloc (.cells (rd (zeros 16) 0 0 0) 28)) (w.heap.size + 1 + 1 + 1) (rd (zeros 16) 0 0 0) 28 := by
    have := At.new (((w.alloc (.cells (rd cs p b l) 28)).alloc (.cells #[.slice (some ⟨ga, 0, none⟩) xs.length xs.length] 38)).alloc (.cells #[.slice (some ⟨gb, 0, none⟩) ys.length ys.length] 38)) (rd (zeros 16) 0 0 0) 28
    rwa [World.size_alloc, World.size_alloc, World.size_alloc] at this
  have X1 : At ((((w.alloc (.cells (rd cs p b l) 28)).alloc (.cells #[.slice (some ⟨ga, 0, none⟩) xs.length xs.length] 38)).alloc (.cells #[.slice (some ⟨gb, 0, none⟩) ys.length ys.length] 38)).alloc (.cells (rd (zeros 16) 0 0 0) 28)) ga (fl xs) Ta := (((X0.alloc _).alloc _).alloc _).alloc _
  have Y1 : At ((((w.alloc (.cells (rd cs p b l) 28)).alloc (.cells #[.slice (some ⟨ga, 0, none⟩) xs.length xs.length] 38)).alloc (.cells #[.slice (some ⟨gb, 0, none⟩) ys.length ys.length] 38)).alloc (.cells (rd (zeros 16) 0 0 0) 28)) gb (fl ys) Tb := (((Y0.alloc _).alloc _).alloc _).alloc _
  have B0 := Lib.hid (bnew (bnew (bnew (b0 w (.cells (rd cs p b l) 28)) (.cells #[.slice (some ⟨ga, 0, none⟩) xs.length xs.length] 38)) (.cells #[.slice (some ⟨gb, 0, none⟩) ys.length ys.length] 38)) (.cells (rd (zeros 16) 0 0 0) 28))
  have hmf : ∀ (fn : Fn) (first cap : Array Value) (w : World), (Instr.makeFunc fn first cap).run Try.prog w = .ok (.func fn first cap) w := fun _ _ _ _ => rfl
  have KR := refusalOf_any 38 #[.pointer (some ⟨w.heap.size, 0, none⟩), .pointer (some ⟨(w.heap.size + 1), 0, none⟩), .pointer (some ⟨(w.heap.size + 1 + 1), 0, none⟩)] _ ((((w.alloc (.cells (rd cs p b l) 28)).alloc (.cells #[.slice (some ⟨ga, 0, none⟩) xs.length xs.length] 38)).alloc (.cells #[.slice (some ⟨gb, 0, none⟩) ys.length ys.length] 38)).alloc (.cells (rd (zeros 16) 0 0 0) 28)) (fun _ => by kernel_rfl) fun w1 h1 => listChk_any _ _ _ cs p b l hl hc hp hb hla xs ys hx hy hnx hny ga gb Ta Tb w1 (R0.step h1) (A0.step h1) (C0.step h1) (X1.step h1) (Y1.step h1)
  generalize listC (okB cs p b l) xs ys = c at KR h ⊢
  have gne : (c == 0) = false := by simp [h]
  go_enter Try.func18, Try.ntmps18
  go_wp2_with fail
  refine KR.mono ?_
  rintro e' w1 ⟨rfl, hb1⟩
  have T1 := T0.step hb1
  have B1 := Lib.hid (bthen B0.out hb1)
  clear KR R0 A0 C0 T0 X0 Y0 X1 Y1 B0 hb1
  have T9 := T1.setRow (rd (zeros 16) 0 0 0)
  have B9 := Lib.hid (bset B1.out (g := w.heap.size + 1 + 1 + 1) (by omega) (rd (zeros 16) 0 0 0))
  go_wp2_with (((with_reducible refine is_store 28 (.tmp 6) (.tmp 15) rfl ?_); refine wpList_store_at rfl 28 (.tmp 6) (.tmp 15) rfl _ rfl (rd (zeros 16) 0 0 0) rfl (rd (zeros 16) 0 0 0) _ T1 19 (rd_size (zeros_len 16) _ _ _) (rd_size (zeros_len 16) _ _ _) (by kernel_rfl) (fl_one _) ?_))
  exact bodyPost_ret (v := .tuple #[.agg ((rd (zeros 16) 0 0 0)), .float .f32 0, .float .f32 0, .int .i64 c]) (results_at3 (p := 6) (ty := 28) rfl _ _ _ ((rd (zeros 16) 0 0 0)) _ _ _ _ (by kernel_rfl) (by kernel_rfl) (by kernel_rfl) (by kernel_rfl) T9 _ Try.underlying28 rfl 19 (rd_size (zeros_len 16) _ _ _) (by kernel_rfl)) (by kernel_rfl) ⟨rfl, B9.out⟩

set_option maxHeartbeats 1000000 in
theorem StepList_yes (cs : List Nat) (p b l : Nat) (hl : cs.length = 16) (hc : ∀ x ∈ cs, x < 4294967296) (hp : p < 4294967296) (hb : b < 4294967296) (hla : l < 4294967296) (xs ys : List Nat) (hx : ∀ x ∈ xs, x < 4294967296) (hy : ∀ x ∈ ys, x < 4294967296) (hnx : xs.length ≤ 1048576) (hny : ys.length ≤ 1048576) (ga gb : Nat) (Ta Tb : TypeId) (h : listC (okB cs p b l) xs ys = 0) (w : World) (X0 : At w ga (fl xs) Ta) (Y0 : At w gb (fl ys) Tb) :
    Calls Try.prog 18 #[.agg (rd cs p b l), .slice (some ⟨ga, 0, none⟩) xs.length xs.length, .slice (some ⟨gb, 0, none⟩) ys.length ys.length] w fun e w' => e = .returned (.tuple #[.agg (rd (itL p b cs (fun k => nth xs k) (fun k => nth ys k) xs.length) p b l), .float .f32 (itS p b cs (fun k => nth xs k) (fun k => nth ys k) 0 xs.length), .float .f32 (itS p b cs (fun k => nth xs k) (fun k => nth ys k) 16 xs.length), .int .i64 0]) ∧ Below w.heap.size w w' := by
  have lz := listC_zero h
  have ok := OkR.of hl lz.1
  have hox := amtC_zero lz.2.2.2.1
  have hoy := amtC_zero lz.2.2.2.2
  have hN : xs.length ≤ 400 := lz.2.2.1
  have hxy := lz.2.1
  have SZN : (rd (itL p b cs (fun k => nth xs k) (fun k => nth ys k) xs.length) p b l).size = 19 := rd_size (itL_ok ok (fun k => nth xs k) (fun k => nth ys k) xs.length).len p b l
  have R0 : At ((((w.alloc (.cells (rd cs p b l) 28)).alloc (.cells #[.slice (some ⟨ga, 0, none⟩) xs.length xs.length] 38)).alloc (.cells #[.slice (some ⟨gb, 0, none⟩) ys.length ys.length] 38)).alloc (.cells (rd (zeros 16) 0 0 0) 28)) w.heap.size (rd cs p b l) 28 := (((At.new w _ _).alloc _).alloc _).alloc _
  have A0 : At ((((w.alloc (.cells (rd cs p b l) 28)).alloc (.cells #[.slice (some ⟨ga, 0, none⟩) xs.length xs.length] 38)).alloc (.cells #[.slice (some ⟨gb, 0, none⟩) ys.length ys.length] 38)).alloc (.cells (rd (zeros 16) 0 0 0) 28)) (w.heap.size + 1) #[.slice (some ⟨ga, 0, none⟩) xs.length xs.length] 38 := ((At.last1 w _ _ _).alloc _).alloc _
  have C0 : At ((((w.alloc (.cells (rd cs p b l) 28)).alloc (.cells #[.slice (some ⟨ga, 0, none⟩) xs.length xs.length] 38)).alloc (.cells #[.slice (some ⟨gb, 0, none⟩) ys.length ys.length] 38)).alloc (.cells (rd (zeros 16) 0 0 0) 28)) (w.heap.size + 1 + 1) #[.slice (some ⟨gb, 0, none⟩) ys.length ys.length] 38 := (At.last2 w _ _ _ _).alloc _
  have T0 : At ((((w.alloc (.cells (rd cs p b l) 28)).alloc (.cells #[.slice (some ⟨ga, 0, none⟩) xs.length xs.length] 38)).alloc (.cells #[.slice (some ⟨gb, 0, none⟩) ys.length ys.length] 38)).alloc (.cells (rd (zeros 16) 0 0 0) 28)) (w.heap.size + 1 + 1 + 1) (rd (zeros 16) 0 0 0) 28 := by
    have := At.new (((w.alloc (.cells (rd cs p b l) 28)).alloc (.cells #[.slice (some ⟨ga, 0, none⟩) xs.length xs.length] 38)).alloc (.cells #[.slice (some ⟨gb, 0, none⟩) ys.length ys.length] 38)) (rd (zeros 16) 0 0 0) 28
    rwa [World.size_alloc, World.size_alloc, World.size_alloc] at this
  have X1 : At ((((w.alloc (.cells (rd cs p b l) 28)).alloc (.cells #[.slice (some ⟨ga, 0, none⟩) xs.length xs.length] 38)).alloc (.cells #[.slice (some ⟨gb, 0, none⟩) ys.length ys.length] 38)).alloc (.cells (rd (zeros 16) 0 0 0) 28)) ga (fl xs) Ta := (((X0.alloc _).alloc _).alloc _).alloc _
  have Y1 : At ((((w.alloc (.cells (rd cs p b l) 28)).alloc (.cells #[.slice (some ⟨ga, 0, none⟩) xs.length xs.length] 38)).alloc (.cells #[.slice (some ⟨gb, 0, none⟩) ys.length ys.length] 38)).alloc (.cells (rd (zeros 16) 0 0 0) 28)) gb (fl ys) Tb := (((Y0.alloc _).alloc _).alloc _).alloc _
  have B0 := Lib.hid (bnew (bnew (bnew (b0 w (.cells (rd cs p b l) 28)) (.cells #[.slice (some ⟨ga, 0, none⟩) xs.length xs.length] 38)) (.cells #[.slice (some ⟨gb, 0, none⟩) ys.length ys.length] 38)) (.cells (rd (zeros 16) 0 0 0) 28))
  have hmf : ∀ (fn : Fn) (first cap : Array Value) (w : World), (Instr.makeFunc fn first cap).run Try.prog w = .ok (.func fn first cap) w := fun _ _ _ _ => rfl
  have KR := refusalOf_any 38 #[.pointer (some ⟨w.heap.size, 0, none⟩), .pointer (some ⟨(w.heap.size + 1), 0, none⟩), .pointer (some ⟨(w.heap.size + 1 + 1), 0, none⟩)] _ ((((w.alloc (.cells (rd cs p b l) 28)).alloc (.cells #[.slice (some ⟨ga, 0, none⟩) xs.length xs.length] 38)).alloc (.cells #[.slice (some ⟨gb, 0, none⟩) ys.length ys.length] 38)).alloc (.cells (rd (zeros 16) 0 0 0) 28)) (fun _ => by kernel_rfl) fun w1 h1 => listChk_any _ _ _ cs p b l hl hc hp hb hla xs ys hx hy hnx hny ga gb Ta Tb w1 (R0.step h1) (A0.step h1) (C0.step h1) (X1.step h1) (Y1.step h1)
  rw [h] at KR
  have HH := Lib.hid (And.intro hox (And.intro (fun k (hk : k < xs.length) => hoy k (by omega)) (And.intro hN hxy)))
  clear lz h hox hoy hN hxy
  go_enter Try.func18, Try.ntmps18
  go_wp2_with fail
  refine KR.mono ?_
  rintro e' w1 ⟨rfl, hb1⟩
  have R1 := R0.step hb1
  have A1 := A0.step hb1
  have C1 := C0.step hb1
  have T1 := T0.step hb1
  have X2 := X1.step hb1
  have Y2 := Y1.step hb1
  have B1 := Lib.hid (bthen B0.out hb1)
  clear KR R0 A0 C0 T0 X0 Y0 X1 Y1 B0 hb1
  go_wp2
  refine wp_region_held (S := fun w' => At w' w.heap.size (rd cs p b l) 28 ∧ At w' (w.heap.size + 1) #[.slice (some ⟨ga, 0, none⟩) xs.length xs.length] 38 ∧ At w' (w.heap.size + 1 + 1) #[.slice (some ⟨gb, 0, none⟩) ys.length ys.length] 38) (by kernel_rfl) ?_
  show wpAnyH _ _ _ _ _ 14 (Array.replicate 14 false) _ _
  have SS : At { w1 with drawn := w1.drawn + 1 } w.heap.size (rd cs p b l) 28 ∧ At { w1 with drawn := w1.drawn + 1 } (w.heap.size + 1) #[.slice (some ⟨ga, 0, none⟩) xs.length xs.length] 38 ∧ At { w1 with drawn := w1.drawn + 1 } (w.heap.size + 1 + 1) #[.slice (some ⟨gb, 0, none⟩) ys.length ys.length] 38 := ⟨R1, A1, C1⟩
  have T2 : At { w1 with drawn := w1.drawn + 1 } (w.heap.size + 1 + 1 + 1) (rd (zeros 16) 0 0 0) 28 := T1
  have X3 : At { w1 with drawn := w1.drawn + 1 } ga (fl xs) Ta := X2
  have Y3 : At { w1 with drawn := w1.drawn + 1 } gb (fl ys) Tb := Y2
  have B2 : Hid (Below w.heap.size w { w1 with drawn := w1.drawn + 1 }) := Lib.hid ⟨B1.out.1, B1.out.2, B1.out.3, B1.out.4, B1.out.5⟩
  generalize ({ w1 with drawn := w1.drawn + 1 } : World) = w2 at SS T2 X3 Y3 B2 ⊢
  clear R1 A1 C1 T1 X2 Y2 B1
  have L0 : ∀ w', At w' w.heap.size (rd cs p b l) 28 → (Instr.loadAt 28 (.pointer (some ⟨w.heap.size, 0, none⟩))).run Try.prog w' = .ok (.agg (rd cs p b l)) w' := fun w' h => run_load_road hl h
  refine wpAnyH_take (i := 0) (v := .agg (rd cs p b l)) rfl (by kernel_rfl) (by kernel_rfl) (by kernel_rfl) (fun _ _ _ h => h) (yif rfl fun w' hw' => x_load 28 (.tmp 3) rfl _ rfl (L0 w' hw'.1)) (by assumption) ?_
  refine wpAnyH_take (i := 1) (v := .agg (rd cs p b l)) rfl (by kernel_rfl) (by kernel_rfl) (by kernel_rfl) (fun _ _ _ h => h) (yif rfl fun w' hw' => x_load 28 (.tmp 3) rfl _ rfl (L0 w' hw'.1)) (by assumption) ?_
  refine wpAnyH_take (i := 2) (v := .slice (some ⟨ga, 0, none⟩) xs.length xs.length) rfl (by kernel_rfl) (by kernel_rfl) (by kernel_rfl) (fun _ _ _ h => h) (yif rfl fun w' hw' => x_load 38 (.tmp 4) rfl _ rfl (run_load_one w' 38 _ Try.underlying38 rfl _ _ (hw'.2.1.cell (k := 0) rfl))) (by assumption) ?_
  refine wpAnyH_take (i := 3) (v := .slice (some ⟨gb, 0, none⟩) ys.length ys.length) rfl (by kernel_rfl) (by kernel_rfl) (by kernel_rfl) (fun _ _ _ h => h) (yif rfl fun w' hw' => x_load 38 (.tmp 5) rfl _ rfl (run_load_one w' 38 _ Try.underlying38 rfl _ _ (hw'.2.2.cell (k := 0) rfl))) (by assumption) ?_
  refine wpAnyH_all (rs := [4]) (by kernel_rfl) (by simp) fun i' hi' => ?_
  obtain rfl := one_of hi'
  refine op_call (f := 42) (args := #[.agg (rd cs p b l), .slice (some ⟨ga, 0, none⟩) xs.length xs.length, .slice (some ⟨gb, 0, none⟩) ys.length ys.length]) rfl rfl (by kernel_rfl) ((stepsOf_any (rd cs p b l) (rd_size hl p b l) _ _ _ _ _ _ w2).mono ?_)
  rintro e w3 ⟨rfl, hw3⟩
  have hb3 : Below w2.heap.size w2 w3 := by rw [hw3]; exact bnew (bnew (b0 w2 _) _) _
  have G1 : At w3 w2.heap.size (rd cs p b l) 28 := by rw [hw3]; exact ((At.new w2 _ _).alloc _).alloc _
  have G2 : At w3 (w2.heap.size + 1) #[.slice (some ⟨ga, 0, none⟩) xs.length xs.length] 38 := by rw [hw3]; exact (At.last1 w2 _ _ _).alloc _
  have G3 : At w3 (w2.heap.size + 1 + 1) #[.slice (some ⟨gb, 0, none⟩) ys.length ys.length] 38 := by rw [hw3]; exact At.last2 w2 _ _ _ _
  clear hw3
  have SS3 := And.intro (SS.1.step hb3) (And.intro (SS.2.1.step hb3) (SS.2.2.step hb3))
  refine ⟨_, rfl, SS3, ?_⟩
  rw [← HH.out.2.2.2] at G3
  have SQ := steps_seq cs p b l ok (fun k => nth xs k) (fun k => nth ys k) xs.length HH.out.2.2.1 HH.out.1 HH.out.2.1 _ _ _ ga gb _ _ _ _ (fun k hk => fl_get hk) (fun k hk => fl_get (by rw [← HH.out.2.2.2]; exact hk)) w3 G1 G2 G3 (X3.step hb3) (Y3.step hb3)
  refine wpAnyH_all (rs := [5]) (by kernel_rfl) (by simp) fun i' hi' => ?_
  obtain rfl := one_of hi'
  refine op_call (f := 33) (args := #[.agg (rd cs p b l), .func (.func 65) #[] #[.pointer (some ⟨w2.heap.size, 0, none⟩), .pointer (some ⟨(w2.heap.size + 1), 0, none⟩), .pointer (some ⟨(w2.heap.size + 1 + 1), 0, none⟩)]]) rfl rfl (by kernel_rfl) ((sumOfSteps_any cs p b l ok (fun k => nth xs k) (fun k => nth ys k) xs.length _ w3 SQ).mono ?_)
  rintro e w4 ⟨rfl, hb4⟩
  have SS4 := And.intro (SS3.1.step hb4) (And.intro (SS3.2.1.step hb4) (SS3.2.2.step hb4))
  have T4 := (T2.step hb3).step hb4
  have B4 := Lib.hid (bthen (bthen B2.out hb3) hb4)
  refine ⟨_, rfl, SS4, ?_⟩
  clear SQ G1 G2 G3 SS SS3 T2 X3 Y3 B2 hb3 hb4
  refine wpAnyH_take (i := 6) (v := .agg (rd (itL p b cs (fun k => nth xs k) (fun k => nth ys k) xs.length) p b l)) rfl (by kernel_rfl) (by kernel_rfl) (by kernel_rfl) (fun _ _ _ h => h) (yif rfl fun w' hw' => by kernel_rfl) (by assumption) ?_
  refine wpAnyH_take (i := 7) (v := .float .f32 (itS p b cs (fun k => nth xs k) (fun k => nth ys k) 0 xs.length)) rfl (by kernel_rfl) (by kernel_rfl) (by kernel_rfl) (fun _ _ _ h => h) (yif rfl fun w' hw' => by kernel_rfl) (by assumption) ?_
  refine wpAnyH_take (i := 8) (v := .float .f32 (itS p b cs (fun k => nth xs k) (fun k => nth ys k) 16 xs.length)) rfl (by kernel_rfl) (by kernel_rfl) (by kernel_rfl) (fun _ _ _ h => h) (yif rfl fun w' hw' => by kernel_rfl) (by assumption) ?_
  refine wpAnyH_take (i := 9) (v := .int .i64 0) rfl (by kernel_rfl) (by kernel_rfl) (by kernel_rfl) (fun _ _ _ h => h) (yif rfl fun w' hw' => by kernel_rfl) (by assumption) ?_
  have T5 := T4.setRow (rd (itL p b cs (fun k => nth xs k) (fun k => nth ys k) xs.length) p b l)
  have SS5 := And.intro (SS4.1.setRow_other (k := w.heap.size + 1 + 1 + 1) (by omega) (rd (itL p b cs (fun k => nth xs k) (fun k => nth ys k) xs.length) p b l)) (And.intro (SS4.2.1.setRow_other (k := w.heap.size + 1 + 1 + 1) (by omega) (rd (itL p b cs (fun k => nth xs k) (fun k => nth ys k) xs.length) p b l)) (SS4.2.2.setRow_other (k := w.heap.size + 1 + 1 + 1) (by omega) (rd (itL p b cs (fun k => nth xs k) (fun k => nth ys k) xs.length) p b l)))
  have B5 := Lib.hid (bset B4.out (g := w.heap.size + 1 + 1 + 1) (by omega) (rd (itL p b cs (fun k => nth xs k) (fun k => nth ys k) xs.length) p b l))
  refine wpAnyH_all (rs := [10]) (by kernel_rfl) (by simp) fun i' hi' => ?_
  obtain rfl := one_of hi'
  refine op_skip rfl rfl (store_fresh (ty := 28) (d := 6) (s := 23) rfl 19 SZN (rd_size (zeros_len 16) _ _ _) (by kernel_rfl) (fl_one _) _ w4 (w.heap.size + 1 + 1 + 1) (by kernel_rfl) (by kernel_rfl) T4) ⟨SS5, ?_⟩
  refine wpAnyH_take (i := 11) (v := .float .f32 (itS p b cs (fun k => nth xs k) (fun k => nth ys k) 0 xs.length)) rfl (by kernel_rfl) (by kernel_rfl) (by kernel_rfl) (fun _ _ _ h => h) (yif rfl fun w' hw' => by kernel_rfl) (by assumption) ?_
  refine wpAnyH_take (i := 12) (v := .float .f32 (itS p b cs (fun k => nth xs k) (fun k => nth ys k) 16 xs.length)) rfl (by kernel_rfl) (by kernel_rfl) (by kernel_rfl) (fun _ _ _ h => h) (yif rfl fun w' hw' => by kernel_rfl) (by assumption) ?_
  refine wpAnyH_take (i := 13) (v := .int .i64 0) rfl (by kernel_rfl) (by kernel_rfl) (by kernel_rfl) (fun _ _ _ h => h) (yif rfl fun w' hw' => by kernel_rfl) (by assumption) ?_
  refine wpAnyH_done (by kernel_rfl) ?_ _
  clear T4 SS4 SS5 B4
  generalize w4.setRow (w.heap.size + 1 + 1 + 1) (rd (itL p b cs (fun k => nth xs k) (fun k => nth ys k) xs.length) p b l) = w5 at T5 B5 ⊢
  generalize hA : Act.put _ _ _ = A
  have HA := Lib.hid hA
  clear hA
  go_wp2
  have hA := HA.out
  subst hA
  exact bodyPost_ret (v := .tuple #[.agg (rd (itL p b cs (fun k => nth xs k) (fun k => nth ys k) xs.length) p b l), .float .f32 (itS p b cs (fun k => nth xs k) (fun k => nth ys k) 0 xs.length), .float .f32 (itS p b cs (fun k => nth xs k) (fun k => nth ys k) 16 xs.length), .int .i64 0]) (results_at3 (p := 6) (ty := 28) rfl _ _ _ (rd (itL p b cs (fun k => nth xs k) (fun k => nth ys k) xs.length) p b l) _ _ _ _ (by kernel_rfl) (by kernel_rfl) (by kernel_rfl) (by kernel_rfl) T5 _ Try.underlying28 rfl 19 (SZN) (by kernel_rfl)) (by kernel_rfl) ⟨rfl, B5.out⟩

def vStepList (cs : List Nat) (p b l : Nat) (xs ys : List Nat) : List Nat × Nat × Nat × Nat × Nat × Nat × Int := if listC (okB cs p b l) xs ys = 0 then (itL p b cs (fun k => nth xs k) (fun k => nth ys k) xs.length, p, b, l, itS p b cs (fun k => nth xs k) (fun k => nth ys k) 0 xs.length, itS p b cs (fun k => nth xs k) (fun k => nth ys k) 16 xs.length, 0) else (zeros 16, 0, 0, 0, 0, 0, listC (okB cs p b l) xs ys)

theorem StepList_any (cs : List Nat) (p b l : Nat) (hl : cs.length = 16) (hc : ∀ x ∈ cs, x < 4294967296) (hp : p < 4294967296) (hb : b < 4294967296) (hla : l < 4294967296) (xs ys : List Nat) (hx : ∀ x ∈ xs, x < 4294967296) (hy : ∀ x ∈ ys, x < 4294967296) (hnx : xs.length ≤ 1048576) (hny : ys.length ≤ 1048576) (ga gb : Nat) (Ta Tb : TypeId) (w : World) (X0 : At w ga (fl xs) Ta) (Y0 : At w gb (fl ys) Tb) :
    Calls Try.prog 18 #[.agg (rd cs p b l), .slice (some ⟨ga, 0, none⟩) xs.length xs.length, .slice (some ⟨gb, 0, none⟩) ys.length ys.length] w fun e w' => e = .returned (.tuple #[.agg (rd (vStepList cs p b l xs ys).1 (vStepList cs p b l xs ys).2.1 (vStepList cs p b l xs ys).2.2.1 (vStepList cs p b l xs ys).2.2.2.1), .float .f32 (vStepList cs p b l xs ys).2.2.2.2.1, .float .f32 (vStepList cs p b l xs ys).2.2.2.2.2.1, .int .i64 (vStepList cs p b l xs ys).2.2.2.2.2.2]) ∧ Below w.heap.size w w' := by
  by_cases h : listC (okB cs p b l) xs ys = 0
  · have e : (vStepList cs p b l xs ys) = (itL p b cs (fun k => nth xs k) (fun k => nth ys k) xs.length, p, b, l, itS p b cs (fun k => nth xs k) (fun k => nth ys k) 0 xs.length, itS p b cs (fun k => nth xs k) (fun k => nth ys k) 16 xs.length, 0) := by unfold vStepList; rw [if_pos h]
    rw [e]
    exact StepList_yes cs p b l hl hc hp hb hla xs ys hx hy hnx hny ga gb Ta Tb h w X0 Y0
  · have e : (vStepList cs p b l xs ys) = (zeros 16, 0, 0, 0, 0, 0, listC (okB cs p b l) xs ys) := by unfold vStepList; rw [if_neg h]
    rw [e]
    exact StepList_no cs p b l hl hc hp hb hla xs ys hx hy hnx hny ga gb Ta Tb h w X0 Y0

end Go.Proofs.Ytkaghfoaicbngaa

/-
  CONTRACTS: steps that are told by lists, the model's.
-/
namespace Go.Proofs.Ytkaghfoaicbngaa
open Go Go.RowKit Go.Shelf
set_option maxRecDepth 100000

set_option maxHeartbeats 4000000 in
theorem sStepList_any (cs : List Nat) (p b l : Nat) (hl : cs.length = 16) (hc : ∀ x ∈ cs, x < 4294967296) (hp : p < 4294967296) (hb : b < 4294967296) (hla : l < 4294967296) (xs ys : List Nat) (hx : ∀ x ∈ xs, x < 4294967296) (hy : ∀ x ∈ ys, x < 4294967296) (hnx : xs.length ≤ 1048576) (hny : ys.length ≤ 1048576) (ga gb : Nat) (Ta Tb : TypeId) (w : World) (X0 : At w ga (fl xs) Ta) (Y0 : At w gb (fl ys) Tb) :
    Calls Try.prog 16 #[.agg (rd cs p b l), .slice (some ⟨ga, 0, none⟩) xs.length xs.length, .slice (some ⟨gb, 0, none⟩) ys.length ys.length] w fun e w' => e = .returned (.tuple #[.agg (rd (vStepList cs p b l xs ys).1 (vStepList cs p b l xs ys).2.1 (vStepList cs p b l xs ys).2.2.1 (vStepList cs p b l xs ys).2.2.2.1), .float .f32 (vStepList cs p b l xs ys).2.2.2.2.1, .float .f32 (vStepList cs p b l xs ys).2.2.2.2.2.1, .int .i64 (vStepList cs p b l xs ys).2.2.2.2.2.2]) ∧ Below w.heap.size w w' := by
  have R0 : At ((w.alloc (.cells (rd cs p b l) 28)).alloc (.cells (rd (zeros 16) 0 0 0) 28)) w.heap.size (rd cs p b l) 28 := (At.new w _ _).alloc _
  have T0 : At ((w.alloc (.cells (rd cs p b l) 28)).alloc (.cells (rd (zeros 16) 0 0 0) 28)) (w.heap.size + 1) (rd (zeros 16) 0 0 0) 28 := At.last1 w _ _ _
  have X1 : At ((w.alloc (.cells (rd cs p b l) 28)).alloc (.cells (rd (zeros 16) 0 0 0) 28)) ga (fl xs) Ta := (X0.alloc _).alloc _
  have Y1 : At ((w.alloc (.cells (rd cs p b l) 28)).alloc (.cells (rd (zeros 16) 0 0 0) 28)) gb (fl ys) Tb := (Y0.alloc _).alloc _
  have B0 := Lib.hid (bnew (b0 w (.cells (rd cs p b l) 28)) (.cells (rd (zeros 16) 0 0 0) 28))
  have gxl := X0.lt
  have gyl := Y0.lt
  cases h : okB cs p b l
  · have hv : Hid ((vStepList cs p b l xs ys) = (zeros 16, 0, 0, 0, 0, 0, 1)) := Lib.hid (by unfold vStepList listC; rw [h]; rfl)
    go_enter Try.func16, Try.ntmps16
    go_wp2_with fail
    refine (l01Ok_any _ cs p b l hl hc hp hb hla _ ⟨_, _, R0⟩).mono ?_
    rw [h]
    rintro e w1 ⟨rfl, n1, rfl⟩
    have T1 := T0.drewN n1
    have B1 := Lib.hid (bdrew B0.out n1)
    have T9 := T1.setRow (rd (zeros 16) 0 0 0)
    have B9 := Lib.hid (bset B1.out (g := w.heap.size + 1) (by omega) (rd (zeros 16) 0 0 0))
    go_wp2_with (((with_reducible refine is_store 28 (.tmp 6) (.tmp 17) rfl ?_); refine wpList_store_at rfl 28 (.tmp 6) (.tmp 17) rfl _ rfl (rd (zeros 16) 0 0 0) rfl (rd (zeros 16) 0 0 0) _ T1 19 (rd_size (zeros_len 16) _ _ _) (rd_size (zeros_len 16) _ _ _) (by kernel_rfl) (fl_one _) ?_))
    exact bodyPost_ret (v := .tuple #[.agg ((rd (zeros 16) 0 0 0)), .float .f32 0, .float .f32 0, .int .i64 1]) (results_at3 (p := 6) (ty := 28) rfl _ _ _ ((rd (zeros 16) 0 0 0)) _ _ _ _ (by kernel_rfl) (by kernel_rfl) (by kernel_rfl) (by kernel_rfl) T9 _ Try.underlying28 rfl 19 (rd_size (zeros_len 16) _ _ _) (by kernel_rfl)) (by kernel_rfl) ⟨by rw [hv.out], B9.out⟩
  have ok := OkR.of hl h
  have HVN : Hid (∀ c, listC true xs ys = c → c ≠ 0 → (vStepList cs p b l xs ys) = (zeros 16, 0, 0, 0, 0, 0, c)) := Lib.hid fun c h1 h2 => by unfold vStepList; rw [h, h1, if_neg h2]
  have HVY : Hid (listC true xs ys = 0 → (vStepList cs p b l xs ys) = (itL p b cs (fun k => nth xs k) (fun k => nth ys k) xs.length, p, b, l, itS p b cs (fun k => nth xs k) (fun k => nth ys k) 0 xs.length, itS p b cs (fun k => nth xs k) (fun k => nth ys k) 16 xs.length, 0)) := Lib.hid fun h1 => by unfold vStepList; rw [h, if_pos h1]
  obtain ⟨n, hn⟩ : ∃ n, n = xs.length := ⟨_, rfl⟩
  obtain ⟨m, hm⟩ : ∃ m, m = ys.length := ⟨_, rfl⟩
  have HN := Lib.hid (And.intro hn hm)
  generalize hVV : (vStepList cs p b l xs ys) = VV at HVN HVY ⊢
  clear hVV
  have hnx' := hnx
  have hny' := hny
  rw [← hn] at hnx' ⊢
  rw [← hm] at hny' ⊢
  clear hn hm hnx hny X0 Y0
  by_cases hnm : n = m ∧ n ≤ 400
  · obtain ⟨rfl, h4⟩ := hnm
    have e1 : decide ((n : Int) = (n : Int)) = true := decide_eq_true rfl
    have h4d : decide ((400 : Int) < (n : Int)) = false := decide_eq_false (by omega)
    go_enter Try.func16, Try.ntmps16
    go_wp2_with fail
    refine (l01Ok_any _ cs p b l hl hc hp hb hla _ ⟨_, _, R0⟩).mono ?_
    rw [h]
    rintro e w1 ⟨rfl, n1, rfl⟩
    go_wp2_with fail
    have R1 := R0.drewN n1
    have T1 := T0.drewN n1
    have X2 := X1.drewN n1
    have Y2 := Y1.drewN n1
    have B1 := Lib.hid (bdrew B0.out n1)
    clear R0 T0 X1 Y1 B0
    generalize hw1 : World.drewN _ _ = w1 at R1 T1 X2 Y2 B1 ⊢
    clear hw1
    go_loopw [10] (fun i wr => ∃ k m' : Nat, k ≤ n ∧ i = .int .i64 (k : Int) ∧ wr = w1.drewN m' ∧ Hid ((xs.take k).all amtB = true) ∧ Hid ((ys.take k).all amtB = true)) (fun i _ => n - (intOf i).toNat)
    case atStart => exact ⟨0, 0, by omega, rfl, rfl, Lib.hid rfl, Lib.hid rfl⟩
    case round =>
      obtain ⟨k, m', hk, rfl, rfl, hax, hay⟩ := hrel
      by_cases hkn : k < n
      · have s2 : IntKind.i64.wrap ((k : Int) + 1) = (k : Int) + 1 := IntWalk.i64_in _ (by omega)
        have kd : (k : Int) < (n : Int) := by omega
        have R3 := R1.drewN m'
        have cx : ∀ q, ((w1.drewN m').drewN q).cell? ⟨ga, k, none⟩ = some (.float .f32 (nth xs k)) := fun q => ((X2.drewN m').drewN q).cell (fl_get (by rw [← HN.out.1]; exact hkn))
        have cx0 : (w1.drewN m').cell? ⟨ga, k, none⟩ = some (.float .f32 (nth xs k)) := (X2.drewN m').cell (fl_get (by rw [← HN.out.1]; exact hkn))
        have cyq : ∀ q, (w1.drewN q).cell? ⟨gb, k, none⟩ = some (.float .f32 (nth ys k)) := fun q => (Y2.drewN q).cell (fl_get (by rw [← HN.out.2]; exact hkn))
        clear cx
        cases h1 : amtB (nth xs k)
        · have hv : Hid (VV = (zeros 16, 0, 0, 0, 0, 0, 2)) := Lib.hid (HVN.out 2 (by
            have a2 : amtC xs = 2 := by unfold amtC; rw [all_no (by rw [← HN.out.1]; exact hkn) h1]; rfl
            unfold listC; rw [if_pos rfl, if_pos (by rw [← HN.out.1, ← HN.out.2]; exact ⟨rfl, h4⟩), if_neg (by rw [a2]; decide), a2]) (by decide))
          go_wp2_with fail
          refine (l01Amount_any (nth xs k) (u32_lt hx k) _).mono ?_
          rw [h1]
          rintro e w3 ⟨rfl, n3, rfl⟩
          have T2 := T1.drewN (m' + n3)
          have B2 := Lib.hid (bdrew B1.out (m' + n3))
          have T9 := T2.setRow (rd (zeros 16) 0 0 0)
          have B9 := Lib.hid (bset B2.out (g := w.heap.size + 1) (by omega) (rd (zeros 16) 0 0 0))
          go_wp2_with (((with_reducible refine is_store 28 (.tmp 6) (.tmp 49) rfl ?_); refine wpList_store_at rfl 28 (.tmp 6) (.tmp 49) rfl _ rfl (rd (zeros 16) 0 0 0) rfl (rd (zeros 16) 0 0 0) _ T2 19 (rd_size (zeros_len 16) _ _ _) (rd_size (zeros_len 16) _ _ _) (by kernel_rfl) (fl_one _) ?_))
          exact bodyPost_ret (v := .tuple #[.agg ((rd (zeros 16) 0 0 0)), .float .f32 0, .float .f32 0, .int .i64 2]) (results_at3 (p := 6) (ty := 28) rfl _ _ _ ((rd (zeros 16) 0 0 0)) _ _ _ _ (by kernel_rfl) (by kernel_rfl) (by kernel_rfl) (by kernel_rfl) T9 _ Try.underlying28 rfl 19 (rd_size (zeros_len 16) _ _ _) (by kernel_rfl)) (by kernel_rfl) ⟨by rw [hv.out], B9.out⟩
        · have hax2 := Lib.hid (all_next hax.out (by rw [← HN.out.1]; exact hkn) h1)
          cases h2 : amtB (nth ys k)
          · have hv : Hid (VV = (zeros 16, 0, 0, 0, 0, 0, 2)) := Lib.hid (HVN.out 2 (by
              have a2 : amtC ys = 2 := by unfold amtC; rw [all_no (by rw [← HN.out.2]; exact hkn) h2]; rfl
              unfold listC; rw [if_pos rfl, if_pos (by rw [← HN.out.1, ← HN.out.2]; exact ⟨rfl, h4⟩), a2]
              rcases amtC_cases xs with a | a
              · rw [if_pos a]
              · rw [if_neg (by rw [a]; decide), a]) (by decide))
            go_wp2_with fail
            refine (l01Amount_any (nth xs k) (u32_lt hx k) _).mono ?_
            rw [h1]
            rintro e w3 ⟨rfl, n2, rfl⟩
            have cy0 := cyq (m' + n2)
            go_wp2_with fail
            refine (l01Amount_any (nth ys k) (u32_lt hy k) _).mono ?_
            rw [h2]
            rintro e w3 ⟨rfl, n3, rfl⟩
            have T2 := T1.drewN (m' + n2 + n3)
            have B2 := Lib.hid (bdrew B1.out (m' + n2 + n3))
            have T9 := T2.setRow (rd (zeros 16) 0 0 0)
            have B9 := Lib.hid (bset B2.out (g := w.heap.size + 1) (by omega) (rd (zeros 16) 0 0 0))
            go_wp2_with (((with_reducible refine is_store 28 (.tmp 6) (.tmp 49) rfl ?_); refine wpList_store_at rfl 28 (.tmp 6) (.tmp 49) rfl _ rfl (rd (zeros 16) 0 0 0) rfl (rd (zeros 16) 0 0 0) _ T2 19 (rd_size (zeros_len 16) _ _ _) (rd_size (zeros_len 16) _ _ _) (by kernel_rfl) (fl_one _) ?_))
            exact bodyPost_ret (v := .tuple #[.agg ((rd (zeros 16) 0 0 0)), .float .f32 0, .float .f32 0, .int .i64 2]) (results_at3 (p := 6) (ty := 28) rfl _ _ _ ((rd (zeros 16) 0 0 0)) _ _ _ _ (by kernel_rfl) (by kernel_rfl) (by kernel_rfl) (by kernel_rfl) T9 _ Try.underlying28 rfl 19 (rd_size (zeros_len 16) _ _ _) (by kernel_rfl)) (by kernel_rfl) ⟨by rw [hv.out], B9.out⟩
          · have hay2 := Lib.hid (all_next hay.out (by rw [← HN.out.2]; exact hkn) h2)
            go_wp2_with fail
            refine (l01Amount_any (nth xs k) (u32_lt hx k) _).mono ?_
            rw [h1]
            rintro e w3 ⟨rfl, n2, rfl⟩
            have cy0 := cyq (m' + n2)
            go_wp2_with fail
            refine (l01Amount_any (nth ys k) (u32_lt hy k) _).mono ?_
            rw [h2]
            rintro e w3 ⟨rfl, n3, rfl⟩
            go_wp2_with fail
            exact ⟨⟨k + 1, m' + n2 + n3, by omega, by go_num, rfl, hax2, hay2⟩, by simp [intOf]; omega⟩
      · obtain rfl : n = k := by omega
        have az : amtC xs = 0 ∧ amtC ys = 0 := by
          have h1 := hax.out
          have h2 := hay.out
          rw [HN.out.1, List.take_length] at h1
          rw [HN.out.2, List.take_length] at h2
          exact ⟨by unfold amtC; rw [if_pos h1], by unfold amtC; rw [if_pos h2]⟩
        have hv : Hid (VV = (itL p b cs (fun k => nth xs k) (fun k => nth ys k) n, p, b, l, itS p b cs (fun k => nth xs k) (fun k => nth ys k) 0 n, itS p b cs (fun k => nth xs k) (fun k => nth ys k) 16 n, 0)) := Lib.hid (by
          have := HVY.out (by unfold listC; rw [if_pos rfl, if_pos (by rw [← HN.out.1, ← HN.out.2]; exact ⟨rfl, h4⟩), if_pos az.1, az.2])
          rw [← HN.out.1] at this; exact this)
        have HH := Lib.hid (And.intro (amtC_zero az.1) (amtC_zero az.2))
        clear az hax hay HVN HVY
        have R3 := R1.drewN m'
        have T3 := T1.drewN m'
        have X3 := X2.drewN m'
        have Y3 := Y2.drewN m'
        have B3 := Lib.hid (bdrew B1.out m')
        clear R1 T1 X2 Y2 B1
        generalize hw3 : World.drewN _ _ = w3 at R3 T3 X3 Y3 B3 ⊢
        clear hw3
        go_wp2
        go_loopw [11, 12, 13] (fun i1 i2 i wr => ∃ k : Nat, k ≤ n ∧ i = .int .i64 (k : Int) ∧ i1 = .float .f32 (itS p b cs (fun k => nth xs k) (fun k => nth ys k) 0 k) ∧ i2 = .float .f32 (itS p b cs (fun k => nth xs k) (fun k => nth ys k) 16 k) ∧ At wr w.heap.size (rd (itL p b cs (fun k => nth xs k) (fun k => nth ys k) k) p b l) 28 ∧ At wr ga (fl xs) Ta ∧ At wr gb (fl ys) Tb ∧ At wr (w.heap.size + 1) (rd (zeros 16) 0 0 0) 28 ∧ Hid (Below w.heap.size w wr)) (fun _ _ i _ => n - (intOf i).toNat)
        case atStart => exact ⟨0, by omega, rfl, rfl, rfl, R3, X3, Y3, T3, B3⟩
        case round =>
          clear R3 T3 X3 Y3 B3 hk hkn
          obtain ⟨k, hk, rfl, rfl, rfl, R4, X4, Y4, T4, B4⟩ := hrel
          by_cases hkn : k < n
          · skip
            have okk := itL_ok ok (fun k => nth xs k) (fun k => nth ys k) k
            have hLk := okk.len
            have s2 : IntKind.i64.wrap ((k : Int) + 1) = (k : Int) + 1 := IntWalk.i64_in _ (by omega)
            have kd : (k : Int) < (n : Int) := by omega
            obtain ⟨ns, hns⟩ : ∃ ns, ns = itF p b cs (fun k => nth xs k) (fun k => nth ys k) k := ⟨_, rfl⟩
            have hn17 : ns.length = 17 := by rw [hns]; exact itF_len _ _ _ _ _ _
            have hnb : ∀ x ∈ ns, x ≤ 1065353216 := by rw [hns]; exact itF_le ok _ _ k
            have a0 := itS_add ok (fun k => nth xs k) (fun k => nth ys k) 0 k
            have a6 := itS_add ok (fun k => nth xs k) (fun k => nth ys k) 16 k
            rw [← hns] at a0 a6
            have f0 : ∀ t w, (binOp .add t (.float .f32 (itS p b cs (fun k => nth xs k) (fun k => nth ys k) 0 k)) (.float .f32 (nth ns 0))).run Try.prog w = .ok (.float .f32 (itS p b cs (fun k => nth xs k) (fun k => nth ys k) 0 (k + 1))) w := fun t w => run_float_arith w .add t .f32 _ _ _ a0
            have f6 : ∀ t w, (binOp .add t (.float .f32 (itS p b cs (fun k => nth xs k) (fun k => nth ys k) 16 k)) (.float .f32 (nth ns 16))).run Try.prog w = .ok (.float .f32 (itS p b cs (fun k => nth xs k) (fun k => nth ys k) 16 (k + 1))) w := fun t w => run_float_arith w .add t .f32 _ _ _ a6
            have e1 : itL p b cs (fun k => nth xs k) (fun k => nth ys k) (k + 1) = stepL (itL p b cs (fun k => nth xs k) (fun k => nth ys k) k) (intoL ns) (outL ns) := by rw [hns]; rfl
            have HE := Lib.hid (And.intro hns e1)
            clear a0 a6 hns e1
            have FZ : (fl ns).size = 17 := by rw [fl_size, hn17]
            have KF : ∀ W, At W w.heap.size (rd (itL p b cs (fun k => nth xs k) (fun k => nth ys k) k) p b l) 28 → Calls Try.prog 27 #[.pointer (some ⟨w.heap.size, 0, none⟩), .float .f32 (nth xs k), .float .f32 (nth ys k)] W fun e w' => e = .returned (.agg (fl ns)) ∧ Below W.heap.size W w' := fun W hA => by
              rw [HE.out.1]; exact l02Flows_any _ _ p b l okk (nth xs k) (nth ys k) (HH.out.1 k (by have q1 := HN.out.1; omega)) (HH.out.2 k (by have q2 := HN.out.2; omega)) W _ hA
            have KS : ∀ W gf, At W w.heap.size (rd (itL p b cs (fun k => nth xs k) (fun k => nth ys k) k) p b l) 28 → At W gf (fl ns) 52 → Calls Try.prog 28 #[.pointer (some ⟨w.heap.size, 0, none⟩), .pointer (some ⟨gf, 0, none⟩)] W fun e w' => e = .returned (.agg (rd (itL p b cs (fun k => nth xs k) (fun k => nth ys k) (k + 1)) p b l)) ∧ Below W.heap.size W w' := fun W gf hA hF => by
              rw [HE.out.2]; exact l02Step_any _ gf _ ns p b l hLk hn17 okk.cars hnb W _ _ hA hF
            have SK : (rd (itL p b cs (fun k => nth xs k) (fun k => nth ys k) k) p b l).size = 19 := rd_size hLk p b l
            have SK1 : (rd (itL p b cs (fun k => nth xs k) (fun k => nth ys k) (k + 1)) p b l).size = 19 := rd_size (itL_ok ok (fun k => nth xs k) (fun k => nth ys k) (k + 1)).len p b l
            clear okk hLk hnb
            go_wp2
            refine wp_region_held (S := fun w' => At w' w.heap.size (rd (itL p b cs (fun k => nth xs k) (fun k => nth ys k) k) p b l) 28 ∧ At w' ga (fl xs) Ta ∧ At w' gb (fl ys) Tb) (by kernel_rfl) ?_
            show wpAnyH _ _ _ _ _ 11 (Array.replicate 11 false) _ _
            have SS : At ({ wr with drawn := wr.drawn + 1 } : World) w.heap.size (rd (itL p b cs (fun k => nth xs k) (fun k => nth ys k) k) p b l) 28 ∧ At ({ wr with drawn := wr.drawn + 1 } : World) ga (fl xs) Ta ∧ At ({ wr with drawn := wr.drawn + 1 } : World) gb (fl ys) Tb := ⟨R4, X4, Y4⟩
            have T5 : At { wr with drawn := wr.drawn + 1 } (w.heap.size + 1) (rd (zeros 16) 0 0 0) 28 := T4
            have B5 : Hid (Below w.heap.size w { wr with drawn := wr.drawn + 1 }) := Lib.hid (bdrew B4.out 1)
            generalize ({ wr with drawn := wr.drawn + 1 } : World) = w4 at SS T5 B5 ⊢
            clear R4 X4 Y4 T4 B4
            refine wpAnyH_take (i := 0) (v := .slice (some ⟨ga, 0, none⟩) n n) rfl (by kernel_rfl) (by kernel_rfl) (by kernel_rfl) (fun _ _ _ h => h) (yif rfl fun w' hw' => hx_move (.tmp 1) rfl (by kernel_rfl)) (by assumption) ?_
            refine wpAnyH_take (i := 1) (v := .int .i64 (k : Int)) rfl (by kernel_rfl) (by kernel_rfl) (by kernel_rfl) (fun _ _ _ h => h) (yif rfl fun w' hw' => hx_move (.tmp 13) rfl (by kernel_rfl)) (by assumption) ?_
            refine wpAnyH_take (i := 2) (v := .pointer (some ⟨ga, 0 + k * 1, none⟩)) rfl (by kernel_rfl) (by kernel_rfl) (by kernel_rfl) (fun _ _ _ h => h) (yif rfl fun w' hw' => hx_index 38 (.tmp 56) (.tmp 57) rfl (.slice (some ⟨ga, 0, none⟩) n n) (.int .i64 (k : Int)) (by kernel_rfl) (by kernel_rfl) (run_indexS w' 38 22 ga 0 n n k 1 Try.underlying38 (by kernel_rfl) hkn)) (by assumption) ?_
            refine wpAnyH_take (i := 3) (v := .float .f32 (nth xs k)) rfl (by kernel_rfl) (by kernel_rfl) (by kernel_rfl) (fun _ _ _ h => h) (yif rfl fun w' hw' => x_load 22 (.tmp 58) rfl ⟨ga, 0 + k * 1, none⟩ (by kernel_rfl) (run_load_cell w' 22 _ Try.underlying22 _ _ (hw'.2.1.cell (by rw [show 0 + k * 1 = k from by omega]; exact fl_get (by have q1 := HN.out.1; have q2 := HN.out.2; omega))))) (by assumption) ?_
            refine wpAnyH_take (i := 4) (v := .slice (some ⟨gb, 0, none⟩) n n) rfl (by kernel_rfl) (by kernel_rfl) (by kernel_rfl) (fun _ _ _ h => h) (yif rfl fun w' hw' => hx_move (.tmp 2) rfl (by kernel_rfl)) (by assumption) ?_
            refine wpAnyH_take (i := 5) (v := .int .i64 (k : Int)) rfl (by kernel_rfl) (by kernel_rfl) (by kernel_rfl) (fun _ _ _ h => h) (yif rfl fun w' hw' => hx_move (.tmp 13) rfl (by kernel_rfl)) (by assumption) ?_
            refine wpAnyH_take (i := 6) (v := .pointer (some ⟨gb, 0 + k * 1, none⟩)) rfl (by kernel_rfl) (by kernel_rfl) (by kernel_rfl) (fun _ _ _ h => h) (yif rfl fun w' hw' => hx_index 38 (.tmp 60) (.tmp 61) rfl (.slice (some ⟨gb, 0, none⟩) n n) (.int .i64 (k : Int)) (by kernel_rfl) (by kernel_rfl) (run_indexS w' 38 22 gb 0 n n k 1 Try.underlying38 (by kernel_rfl) hkn)) (by assumption) ?_
            refine wpAnyH_take (i := 7) (v := .float .f32 (nth ys k)) rfl (by kernel_rfl) (by kernel_rfl) (by kernel_rfl) (fun _ _ _ h => h) (yif rfl fun w' hw' => x_load 22 (.tmp 62) rfl ⟨gb, 0 + k * 1, none⟩ (by kernel_rfl) (run_load_cell w' 22 _ Try.underlying22 _ _ (hw'.2.2.cell (by rw [show 0 + k * 1 = k from by omega]; exact fl_get (by have q1 := HN.out.1; have q2 := HN.out.2; omega))))) (by assumption) ?_
            have gl4 := SS.1.lt
            have gx4 := SS.2.1.lt
            have gy4 := SS.2.2.lt
            have gt4 := T5.lt
            refine wpAnyH_all (rs := [8, 9]) (by kernel_rfl) (by simp) fun i' hi' => ?_
            have hi2 : i' = 8 ∨ i' = 9 := by simpa using hi'
            clear hi'
            rcases hi2 with rfl | rfl
            · refine op_call (f := 27) (args := #[.pointer (some ⟨w.heap.size, 0, none⟩), .float .f32 (nth xs k), .float .f32 (nth ys k)]) rfl rfl (by kernel_rfl) ((KF w4 SS.1).mono ?_)
              rintro e w5 ⟨rfl, hb5⟩
              refine ⟨_, rfl, ⟨SS.1.step hb5, SS.2.1.step hb5, SS.2.2.step hb5⟩, ?_⟩
              refine wpAnyH_all (rs := [9]) (by kernel_rfl) (by simp) fun i' hi' => ?_
              obtain rfl := one_of hi'
              refine op_value (v := .pointer (some ⟨w5.heap.size, 0, none⟩)) (w' := w5.alloc (.cells (fl (zeros 17)) 52)) rfl rfl (by kernel_rfl) ⟨⟨(SS.1.step hb5).alloc _, (SS.2.1.step hb5).alloc _, (SS.2.2.step hb5).alloc _⟩, ?_⟩
              have F6 := At.new w5 (fl (zeros 17)) 52
              have R6 := (SS.1.step hb5).alloc (.cells (fl (zeros 17)) 52)
              have X6 := (SS.2.1.step hb5).alloc (.cells (fl (zeros 17)) 52)
              have Y6 := (SS.2.2.step hb5).alloc (.cells (fl (zeros 17)) 52)
              have T6 := (T5.step hb5).alloc (.cells (fl (zeros 17)) 52)
              have B6 := Lib.hid (bnew (bthen B5.out hb5) (.cells (fl (zeros 17)) 52))
              have gl5 := hb5.size
              clear SS T5 B5 hb5
              generalize hgf : w5.heap.size = gf at F6 gl5 ⊢
              generalize w5.alloc (.cells (fl (zeros 17)) 52) = w6 at F6 R6 X6 Y6 T6 B6 ⊢
              clear hgf
              have F7 := F6.setRow (fl ns)
              have R7 := R6.setRow_other (k := gf) (by omega) (fl ns)
              have X7 := X6.setRow_other (k := gf) (by omega) (fl ns)
              have Y7 := Y6.setRow_other (k := gf) (by omega) (fl ns)
              have T7 := T6.setRow_other (k := gf) (by omega) (fl ns)
              have B7 := Lib.hid (bset B6.out (g := gf) (by omega) (fl ns))
              refine wpAnyH_all (rs := [10]) (by kernel_rfl) (by simp) fun i' hi' => ?_
              obtain rfl := one_of hi'
              refine op_skip rfl rfl (store_fresh (ty := 52) (d := 14) (s := 64) rfl 17 FZ (by rw [fl_size, zeros_len]) (by kernel_rfl) (fl_one _) _ w6 gf (by kernel_rfl) (by kernel_rfl) F6) ⟨⟨R7, X7, Y7⟩, ?_⟩
              refine wpAnyH_done (by kernel_rfl) ?_ _
              clear F6 R6 X6 Y6 T6 B6 KF
              generalize w6.setRow gf (fl ns) = w7 at F7 R7 X7 Y7 T7 B7 ⊢
              generalize hA : Act.put _ _ _ = A
              have eA : A = { tmps := #[.agg (rd cs p b l), .slice (some ⟨ga, 0, none⟩) n n, .slice (some ⟨gb, 0, none⟩) n n, .pointer (some ⟨w.heap.size, 0, none⟩), undef, undef, .pointer (some ⟨w.heap.size + 1, 0, none⟩), u7, u8, u9, .int .i64 (n : Int), .float .f32 (itS p b cs (fun k => nth xs k) (fun k => nth ys k) 0 k), .float .f32 (itS p b cs (fun k => nth xs k) (fun k => nth ys k) 16 k), .int .i64 (k : Int), .pointer (some ⟨gf, 0, none⟩), .bool true, .bool false, undef, .slice (some ⟨ga, 0, none⟩) n n, .int .i64 (n : Int), .slice (some ⟨gb, 0, none⟩) n n, .int .i64 (n : Int), .bool false, .bool false, .slice (some ⟨ga, 0, none⟩) n n, .int .i64 (n : Int), .bool false, .bool false, undef, .int .i64 (n : Int), .slice (some ⟨ga, 0, none⟩) n n, .int .i64 (n : Int), .bool false, u33, u34, u35, u36, u37, u38, u39, u40, u41, u42, u43, u44, u45, u46, u47, u48, u49, .int .i64 (k : Int), .slice (some ⟨ga, 0, none⟩) n n, .int .i64 (n : Int), .bool true, u54, u55, .slice (some ⟨ga, 0, none⟩) n n, .int .i64 (k : Int), .pointer (some ⟨ga, 0 + k * 1, none⟩), .float .f32 (nth xs k), .slice (some ⟨gb, 0, none⟩) n n, .int .i64 (k : Int), .pointer (some ⟨gb, 0 + k * 1, none⟩), .float .f32 (nth ys k), .agg (fl ns), u65, u66, u67, u68, u69, u70, u71, u72, u73, undef, undef, undef], defers := [] } := by rw [← hA]; kernel_rfl
              clear hA
              subst eA
              go_wp2_with fail
              refine (KS _ gf R7 F7).mono ?_
              rintro e' w8 ⟨rfl, hb8⟩
              have R8 := R7.step hb8
              have X8 := X7.step hb8
              have Y8 := Y7.step hb8
              have T8 := T7.step hb8
              have F8 := F7.step hb8
              have B8 := Lib.hid (bthen B7.out hb8)
              clear R7 X7 Y7 T7 F7 B7 hb8 KS
              have R9 := R8.setRow (rd (itL p b cs (fun k => nth xs k) (fun k => nth ys k) (k + 1)) p b l)
              have X9 := X8.setRow_other (k := w.heap.size) (by omega) (rd (itL p b cs (fun k => nth xs k) (fun k => nth ys k) (k + 1)) p b l)
              have Y9 := Y8.setRow_other (k := w.heap.size) (by omega) (rd (itL p b cs (fun k => nth xs k) (fun k => nth ys k) (k + 1)) p b l)
              have T9 := T8.setRow_other (k := w.heap.size) (by omega) (rd (itL p b cs (fun k => nth xs k) (fun k => nth ys k) (k + 1)) p b l)
              have F9 := F8.setRow_other (k := w.heap.size) (by omega) (rd (itL p b cs (fun k => nth xs k) (fun k => nth ys k) (k + 1)) p b l)
              have B9 := Lib.hid (bset B8.out (g := w.heap.size) (Nat.le_refl _) (rd (itL p b cs (fun k => nth xs k) (fun k => nth ys k) (k + 1)) p b l))
              have c0 := F9.cell (fl_get (xs := ns) (k := 0) (by omega))
              have c6 := F9.cell (fl_get (xs := ns) (k := 16) (by omega))
              clear X8 Y8 T8 F8 B8
              go_wp2_with (((with_reducible refine is_store 28 (.tmp 3) (.tmp 65) rfl ?_); refine wpList_store_at rfl 28 (.tmp 3) (.tmp 65) rfl _ rfl (rd (itL p b cs (fun k => nth xs k) (fun k => nth ys k) (k + 1)) p b l) rfl (rd (itL p b cs (fun k => nth xs k) (fun k => nth ys k) k) p b l) _ R8 19 (SK1) (SK) (by kernel_rfl) (fl_one _) ?_))
              exact ⟨⟨k + 1, by omega, by go_num, rfl, rfl, R9, X9, Y9, T9, B9⟩, by simp [intOf]; omega⟩
            · refine op_value (v := .pointer (some ⟨w4.heap.size, 0, none⟩)) (w' := w4.alloc (.cells (fl (zeros 17)) 52)) rfl rfl (by kernel_rfl) ⟨⟨SS.1.alloc _, SS.2.1.alloc _, SS.2.2.alloc _⟩, ?_⟩
              have F5 := At.new w4 (fl (zeros 17)) 52
              have SS5 := And.intro (SS.1.alloc (.cells (fl (zeros 17)) 52)) (And.intro (SS.2.1.alloc (.cells (fl (zeros 17)) 52)) (SS.2.2.alloc (.cells (fl (zeros 17)) 52)))
              have T55 := T5.alloc (.cells (fl (zeros 17)) 52)
              have B55 := Lib.hid (bnew B5.out (.cells (fl (zeros 17)) 52))
              have gl5 : w4.heap.size ≤ w4.heap.size := Nat.le_refl _
              clear SS T5 B5
              generalize hgf : w4.heap.size = gf at F5 gl5 gl4 gx4 gy4 gt4 ⊢
              generalize w4.alloc (.cells (fl (zeros 17)) 52) = w5 at F5 SS5 T55 B55 ⊢
              clear hgf
              refine wpAnyH_all (rs := [8]) (by kernel_rfl) (by simp) fun i' hi' => ?_
              obtain rfl := one_of hi'
              refine op_call (f := 27) (args := #[.pointer (some ⟨w.heap.size, 0, none⟩), .float .f32 (nth xs k), .float .f32 (nth ys k)]) rfl rfl (by kernel_rfl) ((KF w5 SS5.1).mono ?_)
              rintro e w6 ⟨rfl, hb6⟩
              have F6 := F5.step hb6
              have R6 := SS5.1.step hb6
              have X6 := SS5.2.1.step hb6
              have Y6 := SS5.2.2.step hb6
              have T6 := T55.step hb6
              have B6 := Lib.hid (bthen B55.out hb6)
              refine ⟨_, rfl, ⟨R6, X6, Y6⟩, ?_⟩
              clear F5 SS5 T55 B55 hb6
              have F7 := F6.setRow (fl ns)
              have R7 := R6.setRow_other (k := gf) (by omega) (fl ns)
              have X7 := X6.setRow_other (k := gf) (by omega) (fl ns)
              have Y7 := Y6.setRow_other (k := gf) (by omega) (fl ns)
              have T7 := T6.setRow_other (k := gf) (by omega) (fl ns)
              have B7 := Lib.hid (bset B6.out (g := gf) (by omega) (fl ns))
              refine wpAnyH_all (rs := [10]) (by kernel_rfl) (by simp) fun i' hi' => ?_
              obtain rfl := one_of hi'
              refine op_skip rfl rfl (store_fresh (ty := 52) (d := 14) (s := 64) rfl 17 FZ (by rw [fl_size, zeros_len]) (by kernel_rfl) (fl_one _) _ w6 gf (by kernel_rfl) (by kernel_rfl) F6) ⟨⟨R7, X7, Y7⟩, ?_⟩
              refine wpAnyH_done (by kernel_rfl) ?_ _
              clear F6 R6 X6 Y6 T6 B6 KF
              generalize w6.setRow gf (fl ns) = w7 at F7 R7 X7 Y7 T7 B7 ⊢
              generalize hA : Act.put _ _ _ = A
              have eA : A = { tmps := #[.agg (rd cs p b l), .slice (some ⟨ga, 0, none⟩) n n, .slice (some ⟨gb, 0, none⟩) n n, .pointer (some ⟨w.heap.size, 0, none⟩), undef, undef, .pointer (some ⟨w.heap.size + 1, 0, none⟩), u7, u8, u9, .int .i64 (n : Int), .float .f32 (itS p b cs (fun k => nth xs k) (fun k => nth ys k) 0 k), .float .f32 (itS p b cs (fun k => nth xs k) (fun k => nth ys k) 16 k), .int .i64 (k : Int), .pointer (some ⟨gf, 0, none⟩), .bool true, .bool false, undef, .slice (some ⟨ga, 0, none⟩) n n, .int .i64 (n : Int), .slice (some ⟨gb, 0, none⟩) n n, .int .i64 (n : Int), .bool false, .bool false, .slice (some ⟨ga, 0, none⟩) n n, .int .i64 (n : Int), .bool false, .bool false, undef, .int .i64 (n : Int), .slice (some ⟨ga, 0, none⟩) n n, .int .i64 (n : Int), .bool false, u33, u34, u35, u36, u37, u38, u39, u40, u41, u42, u43, u44, u45, u46, u47, u48, u49, .int .i64 (k : Int), .slice (some ⟨ga, 0, none⟩) n n, .int .i64 (n : Int), .bool true, u54, u55, .slice (some ⟨ga, 0, none⟩) n n, .int .i64 (k : Int), .pointer (some ⟨ga, 0 + k * 1, none⟩), .float .f32 (nth xs k), .slice (some ⟨gb, 0, none⟩) n n, .int .i64 (k : Int), .pointer (some ⟨gb, 0 + k * 1, none⟩), .float .f32 (nth ys k), .agg (fl ns), u65, u66, u67, u68, u69, u70, u71, u72, u73, undef, undef, undef], defers := [] } := by rw [← hA]; kernel_rfl
              clear hA
              subst eA
              go_wp2_with fail
              refine (KS _ gf R7 F7).mono ?_
              rintro e' w8 ⟨rfl, hb8⟩
              have R8 := R7.step hb8
              have X8 := X7.step hb8
              have Y8 := Y7.step hb8
              have T8 := T7.step hb8
              have F8 := F7.step hb8
              have B8 := Lib.hid (bthen B7.out hb8)
              clear R7 X7 Y7 T7 F7 B7 hb8 KS
              have R9 := R8.setRow (rd (itL p b cs (fun k => nth xs k) (fun k => nth ys k) (k + 1)) p b l)
              have X9 := X8.setRow_other (k := w.heap.size) (by omega) (rd (itL p b cs (fun k => nth xs k) (fun k => nth ys k) (k + 1)) p b l)
              have Y9 := Y8.setRow_other (k := w.heap.size) (by omega) (rd (itL p b cs (fun k => nth xs k) (fun k => nth ys k) (k + 1)) p b l)
              have T9 := T8.setRow_other (k := w.heap.size) (by omega) (rd (itL p b cs (fun k => nth xs k) (fun k => nth ys k) (k + 1)) p b l)
              have F9 := F8.setRow_other (k := w.heap.size) (by omega) (rd (itL p b cs (fun k => nth xs k) (fun k => nth ys k) (k + 1)) p b l)
              have B9 := Lib.hid (bset B8.out (g := w.heap.size) (Nat.le_refl _) (rd (itL p b cs (fun k => nth xs k) (fun k => nth ys k) (k + 1)) p b l))
              have c0 := F9.cell (fl_get (xs := ns) (k := 0) (by omega))
              have c6 := F9.cell (fl_get (xs := ns) (k := 16) (by omega))
              clear X8 Y8 T8 F8 B8
              go_wp2_with (((with_reducible refine is_store 28 (.tmp 3) (.tmp 65) rfl ?_); refine wpList_store_at rfl 28 (.tmp 3) (.tmp 65) rfl _ rfl (rd (itL p b cs (fun k => nth xs k) (fun k => nth ys k) (k + 1)) p b l) rfl (rd (itL p b cs (fun k => nth xs k) (fun k => nth ys k) k) p b l) _ R8 19 (SK1) (SK) (by kernel_rfl) (fl_one _) ?_))
              exact ⟨⟨k + 1, by omega, by go_num, rfl, rfl, R9, X9, Y9, T9, B9⟩, by simp [intOf]; omega⟩
          · obtain rfl : n = k := by omega
            have SK : (rd (itL p b cs (fun k => nth xs k) (fun k => nth ys k) n) p b l).size = 19 := rd_size (itL_ok ok (fun k => nth xs k) (fun k => nth ys k) n).len p b l
            have T9 := T4.setRow (rd (itL p b cs (fun k => nth xs k) (fun k => nth ys k) n) p b l)
            have B9 := Lib.hid (bset B4.out (g := w.heap.size + 1) (by omega) (rd (itL p b cs (fun k => nth xs k) (fun k => nth ys k) n) p b l))
            go_wp2_with (first | ((with_reducible refine is_load 28 _ rfl ?_); refine wpList_load_at rfl 28 _ rfl _ rfl (rd (itL p b cs (fun k => nth xs k) (fun k => nth ys k) n) p b l) _ R4 19 SK _ Try.underlying28 rfl (by kernel_rfl) ?_) | ((with_reducible refine is_store 28 (.tmp 6) (.tmp 74) rfl ?_); refine wpList_store_at rfl 28 (.tmp 6) (.tmp 74) rfl _ rfl (rd (itL p b cs (fun k => nth xs k) (fun k => nth ys k) n) p b l) rfl (rd (zeros 16) 0 0 0) _ T4 19 SK (rd_size (zeros_len 16) _ _ _) (by kernel_rfl) (fl_one _) ?_))
            exact bodyPost_ret (v := .tuple #[.agg (rd (itL p b cs (fun k => nth xs k) (fun k => nth ys k) n) p b l), .float .f32 (itS p b cs (fun k => nth xs k) (fun k => nth ys k) 0 n), .float .f32 (itS p b cs (fun k => nth xs k) (fun k => nth ys k) 16 n), .int .i64 0]) (results_at3 (p := 6) (ty := 28) rfl _ _ _ (rd (itL p b cs (fun k => nth xs k) (fun k => nth ys k) n) p b l) _ _ _ _ (by kernel_rfl) (by kernel_rfl) (by kernel_rfl) (by kernel_rfl) T9 _ Try.underlying28 rfl 19 (SK) (by kernel_rfl)) (by kernel_rfl) ⟨by rw [hv.out], B9.out⟩
  · have hv : Hid (VV = (zeros 16, 0, 0, 0, 0, 0, 2)) := Lib.hid (HVN.out 2 (by unfold listC; rw [if_pos rfl, if_neg (by rw [← HN.out.1, ← HN.out.2]; exact hnm)]) (by decide))
    by_cases hq : n = m
    · have e2 : ((n : Int) != (m : Int)) = false := by simp [hq]
      have e1 : decide ((n : Int) = (m : Int)) = true := decide_eq_true (by omega)
      have h4d : decide ((400 : Int) < (n : Int)) = true := decide_eq_true (by omega)
      clear hnm hq
      go_enter Try.func16, Try.ntmps16
      go_wp2_with fail
      refine (l01Ok_any _ cs p b l hl hc hp hb hla _ ⟨_, _, R0⟩).mono ?_
      rw [h]
      rintro e w1 ⟨rfl, n1, rfl⟩
      have T1 := T0.drewN n1
      have B1 := Lib.hid (bdrew B0.out n1)
      have T9 := T1.setRow (rd (zeros 16) 0 0 0)
      have B9 := Lib.hid (bset B1.out (g := w.heap.size + 1) (by omega) (rd (zeros 16) 0 0 0))
      go_wp2_with (((with_reducible refine is_store 28 (.tmp 6) (.tmp 28) rfl ?_); refine wpList_store_at rfl 28 (.tmp 6) (.tmp 28) rfl _ rfl (rd (zeros 16) 0 0 0) rfl (rd (zeros 16) 0 0 0) _ T1 19 (rd_size (zeros_len 16) _ _ _) (rd_size (zeros_len 16) _ _ _) (by kernel_rfl) (fl_one _) ?_))
      exact bodyPost_ret (v := .tuple #[.agg ((rd (zeros 16) 0 0 0)), .float .f32 0, .float .f32 0, .int .i64 2]) (results_at3 (p := 6) (ty := 28) rfl _ _ _ ((rd (zeros 16) 0 0 0)) _ _ _ _ (by kernel_rfl) (by kernel_rfl) (by kernel_rfl) (by kernel_rfl) T9 _ Try.underlying28 rfl 19 (rd_size (zeros_len 16) _ _ _) (by kernel_rfl)) (by kernel_rfl) ⟨by rw [hv.out], B9.out⟩
    · have e2 : ((n : Int) != (m : Int)) = true := by simp; omega
      have e1 : decide ((n : Int) = (m : Int)) = false := decide_eq_false (by omega)
      clear hnm hq
      go_enter Try.func16, Try.ntmps16
      go_wp2_with fail
      refine (l01Ok_any _ cs p b l hl hc hp hb hla _ ⟨_, _, R0⟩).mono ?_
      rw [h]
      rintro e w1 ⟨rfl, n1, rfl⟩
      have T1 := T0.drewN n1
      have B1 := Lib.hid (bdrew B0.out n1)
      have T9 := T1.setRow (rd (zeros 16) 0 0 0)
      have B9 := Lib.hid (bset B1.out (g := w.heap.size + 1) (by omega) (rd (zeros 16) 0 0 0))
      go_wp2_with (((with_reducible refine is_store 28 (.tmp 6) (.tmp 28) rfl ?_); refine wpList_store_at rfl 28 (.tmp 6) (.tmp 28) rfl _ rfl (rd (zeros 16) 0 0 0) rfl (rd (zeros 16) 0 0 0) _ T1 19 (rd_size (zeros_len 16) _ _ _) (rd_size (zeros_len 16) _ _ _) (by kernel_rfl) (fl_one _) ?_))
      exact bodyPost_ret (v := .tuple #[.agg ((rd (zeros 16) 0 0 0)), .float .f32 0, .float .f32 0, .int .i64 2]) (results_at3 (p := 6) (ty := 28) rfl _ _ _ ((rd (zeros 16) 0 0 0)) _ _ _ _ (by kernel_rfl) (by kernel_rfl) (by kernel_rfl) (by kernel_rfl) T9 _ Try.underlying28 rfl 19 (rd_size (zeros_len 16) _ _ _) (by kernel_rfl)) (by kernel_rfl) ⟨by rw [hv.out], B9.out⟩

end Go.Proofs.Ytkaghfoaicbngaa
