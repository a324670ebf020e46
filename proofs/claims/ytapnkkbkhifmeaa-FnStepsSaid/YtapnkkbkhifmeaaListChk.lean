/-
  CONTRACTS: steps that are told by lists: the program's checks.
-/
import Derived.Test.YtapnkkbkhifmeaaG15
import Derived.Test.YtapnkkbkhifmeaaSteps
import Derived.Test.YtapnkkbkhifmeaaG16
namespace Go.Proofs.Ytapnkkbkhifmeaa
open Go Go.RowKit Go.Shelf
set_option maxRecDepth 100000

/-- the code of lists of steps -/
def listC (ok : Bool) (xs ys : List Nat) : Int := if ok then (if xs.length = ys.length ∧ xs.length ≤ 400 then (if amtC xs = 0 then amtC ys else amtC xs) else 2) else 1
theorem amtC_cases (xs : List Nat) : amtC xs = 0 ∨ amtC xs = 2 := by unfold amtC; split; exact .inl rfl; exact .inr rfl
theorem amtC_zero {xs : List Nat} (h : amtC xs = 0) : ∀ k, k < xs.length → nth xs k < 2139095040 := by
  intro k hk
  unfold amtC at h
  by_cases c : xs.all amtB = true
  · have := List.all_eq_true.1 c _ (nth_mem hk)
    unfold amtB at this
    simpa using this
  · rw [if_neg c] at h; cases h
theorem listC_zero {ok : Bool} {xs ys : List Nat} (h : listC ok xs ys = 0) : ok = true ∧ xs.length = ys.length ∧ xs.length ≤ 400 ∧ amtC xs = 0 ∧ amtC ys = 0 := by
  unfold listC at h
  cases ok
  · simp at h
  · rw [if_pos rfl] at h
    by_cases c : xs.length = ys.length ∧ xs.length ≤ 400
    · rw [if_pos c] at h
      by_cases a : amtC xs = 0
      · rw [if_pos a] at h; exact ⟨rfl, c.1, c.2, a, h⟩
      · rw [if_neg a] at h; exact absurd h a
    · rw [if_neg c] at h; cases h

theorem listChk_any (gr g1 g2 : Nat) (cs : List Nat) (p b l : Nat) (hl : cs.length = 16) (hc : ∀ x ∈ cs, x < 4294967296) (hp : p < 4294967296) (hb : b < 4294967296) (hla : l < 4294967296) (xs ys : List Nat) (hx : ∀ x ∈ xs, x < 4294967296) (hy : ∀ x ∈ ys, x < 4294967296) (hnx : xs.length ≤ 1048576) (hny : ys.length ≤ 1048576) (ga gb : Nat) (Ta Tb : TypeId) (w : World) (Ar : At w gr (rd cs p b l) 28) (A1 : At w g1 #[.slice (some ⟨ga, 0, none⟩) xs.length xs.length] 41) (A2 : At w g2 #[.slice (some ⟨gb, 0, none⟩) ys.length ys.length] 41) (X0 : At w ga (fl xs) Ta) (Y0 : At w gb (fl ys) Tb) :
    Calls Try.prog 35 #[.pointer (some ⟨gr, 0, none⟩), .pointer (some ⟨g1, 0, none⟩), .pointer (some ⟨g2, 0, none⟩)] w fun e w' => Chk (listC (okB cs p b l) xs ys) e ∧ Below w.heap.size w w' := by
  cases h : okB cs p b l
  · rw [show listC false xs ys = 1 from rfl]
    go_enter Try.func35, Try.ntmps35
    go_wp2_with (((with_reducible refine is_load 28 _ rfl ?_); refine wpList_load_at rfl 28 _ rfl _ rfl (rd cs p b l) _ Ar 19 (rd_size hl p b l) _ Try.underlying28 rfl (by kernel_rfl) ?_))
    have KV := ValidRoad_any cs p b l hl hc hp hb hla w
    rw [h] at KV
    refine KV.mono ?_
    rintro e w1 ⟨rfl, hb1⟩
    clear KV
    go_wp2_with fail
    refine (need_bad 1 w1).mono ?_
    rintro e w2 ⟨rfl, rfl⟩
    go_wp2
    exact ⟨rfl, .inr ⟨by decide, _, .inl rfl, rfl⟩, hb1⟩
  · obtain ⟨c0, hcc⟩ : ∃ c0, c0 = listC true xs ys := ⟨_, rfl⟩
    rw [← hcc]
    have HC := Lib.hid hcc
    have hnx' := hnx
    have hny' := hny
    clear hcc
    obtain ⟨n, hn⟩ : ∃ n, n = xs.length := ⟨_, rfl⟩
    obtain ⟨m, hm⟩ : ∃ m, m = ys.length := ⟨_, rfl⟩
    have KX := fun W (hA : At W ga (fl xs) Ta) => needAmounts_any ga 0 n xs hx hnx W hA.fl_cells
    have KY := fun W (hA : At W gb (fl ys) Tb) => needAmounts_any gb 0 m ys hy hny W hA.fl_cells
    rw [← hn] at A1 KX hnx'
    rw [← hm] at A2 KY hny'
    have HN := Lib.hid (And.intro hn hm)
    clear hn hm hnx hny
    go_enter Try.func35, Try.ntmps35
    go_wp2_with (((with_reducible refine is_load 28 _ rfl ?_); refine wpList_load_at rfl 28 _ rfl _ rfl (rd cs p b l) _ Ar 19 (rd_size hl p b l) _ Try.underlying28 rfl (by kernel_rfl) ?_))
    have KV := ValidRoad_any cs p b l hl hc hp hb hla w
    rw [h] at KV
    refine KV.mono ?_
    rintro e w1 ⟨rfl, hb1⟩
    clear KV
    have A3 := A1.step hb1
    have A4 := A2.step hb1
    have X1 := X0.step hb1
    have Y1 := Y0.step hb1
    clear A1 A2 X0 Y0
    go_wp2_with fail
    refine (need_ok 1 w1).mono ?_
    rintro e w2 ⟨rfl, rfl⟩
    by_cases hnm : n = m
    · have e1 : decide ((n : Int) = (m : Int)) = true := decide_eq_true (by omega)
      have e2 : ((n : Int) == (m : Int)) = true := by simp [hnm]
      by_cases h4 : n ≤ 400
      · have h4d : decide ((n : Int) ≤ 400) = true := decide_eq_true (by omega)
        have HC1 : Hid (c0 = if amtC xs = 0 then amtC ys else amtC xs) := Lib.hid (by rw [HC.out]; unfold listC; rw [if_pos rfl, if_pos (by rw [← HN.out.1, ← HN.out.2]; exact ⟨hnm, h4⟩)])
        clear hnm HC
        go_wp2_with (first | ((with_reducible refine is_load 41 (.tmp 1) rfl ?_); refine wpList_load_cell rfl 41 (.tmp 1) rfl _ _ rfl (#[.slice (some ⟨ga, 0, none⟩) n n]) _ A3 _ Try.underlying41 rfl (.slice (some ⟨ga, 0, none⟩) n n) rfl ?_) | ((with_reducible refine is_load 41 (.tmp 2) rfl ?_); refine wpList_load_cell rfl 41 (.tmp 2) rfl _ _ rfl (#[.slice (some ⟨gb, 0, none⟩) m m]) _ A4 _ Try.underlying41 rfl (.slice (some ⟨gb, 0, none⟩) m m) rfl ?_) | ((with_reducible refine is_load 41 (.tmp 1) rfl ?_); refine wpList_load_cell_g rfl 41 (.tmp 1) rfl _ _ rfl (#[.slice (some ⟨ga, 0, none⟩) n n]) _ A3 _ Try.underlying41 rfl (.slice (some ⟨ga, 0, none⟩) n n) rfl ?_))
        refine (need_ok 2 _).mono ?_
        rintro e w2 ⟨rfl, rfl⟩
        go_wp2_with (((with_reducible refine is_load 41 (.tmp 1) rfl ?_); refine wpList_load_cell rfl 41 (.tmp 1) rfl _ _ rfl (#[.slice (some ⟨ga, 0, none⟩) n n]) _ A3 _ Try.underlying41 rfl (.slice (some ⟨ga, 0, none⟩) n n) rfl ?_))
        refine (KX _ X1).mono ?_
        rintro e w2 ⟨⟨h0, rfl⟩ | ⟨h0, x, hx', rfl⟩, m2, rfl⟩
        · have HC2 : Hid (c0 = amtC ys) := Lib.hid (by rw [HC1.out, if_pos h0])
          clear HC1 h0 KX
          have A5 := A4.drewN m2
          have Y2 := Y1.drewN m2
          go_wp2_with (((with_reducible refine is_load 41 (.tmp 2) rfl ?_); refine wpList_load_cell rfl 41 (.tmp 2) rfl _ _ rfl (#[.slice (some ⟨gb, 0, none⟩) m m]) _ A5 _ Try.underlying41 rfl (.slice (some ⟨gb, 0, none⟩) m m) rfl ?_))
          refine (KY _ Y2).mono ?_
          rintro e w2 ⟨⟨h0, rfl⟩ | ⟨h0, x, hx', rfl⟩, m3, rfl⟩
          · go_wp2
            go_end0
            exact ⟨.inl ⟨by rw [HC2.out, h0], rfl⟩, bdrew hb1 _⟩
          · go_wp2
            exact ⟨rfl, .inr ⟨by rw [HC2.out]; exact h0, x, by rw [HC2.out]; exact hx', rfl⟩, bdrew hb1 _⟩
        · have HC2 : Hid (c0 = amtC xs) := Lib.hid (by rw [HC1.out, if_neg h0])
          go_wp2
          exact ⟨rfl, .inr ⟨by rw [HC2.out]; exact h0, x, by rw [HC2.out]; exact hx', rfl⟩, bdrew hb1 _⟩
      · have h4d : decide ((n : Int) ≤ 400) = false := decide_eq_false (by omega)
        have hc2 : c0 = 2 := by rw [HC.out]; unfold listC; rw [if_pos rfl, if_neg (by rw [← HN.out.1]; omega)]
        subst hc2
        clear hnm HC h4
        go_wp2_with (first | ((with_reducible refine is_load 41 (.tmp 1) rfl ?_); refine wpList_load_cell rfl 41 (.tmp 1) rfl _ _ rfl (#[.slice (some ⟨ga, 0, none⟩) n n]) _ A3 _ Try.underlying41 rfl (.slice (some ⟨ga, 0, none⟩) n n) rfl ?_) | ((with_reducible refine is_load 41 (.tmp 2) rfl ?_); refine wpList_load_cell rfl 41 (.tmp 2) rfl _ _ rfl (#[.slice (some ⟨gb, 0, none⟩) m m]) _ A4 _ Try.underlying41 rfl (.slice (some ⟨gb, 0, none⟩) m m) rfl ?_) | ((with_reducible refine is_load 41 (.tmp 1) rfl ?_); refine wpList_load_cell_g rfl 41 (.tmp 1) rfl _ _ rfl (#[.slice (some ⟨ga, 0, none⟩) n n]) _ A3 _ Try.underlying41 rfl (.slice (some ⟨ga, 0, none⟩) n n) rfl ?_))
        refine (need_bad 2 _).mono ?_
        rintro e w2 ⟨rfl, rfl⟩
        go_wp2
        exact ⟨rfl, .inr ⟨by decide, _, .inl rfl, rfl⟩, hb1⟩
    · have e1 : decide ((n : Int) = (m : Int)) = false := decide_eq_false (by omega)
      have e2 : ((n : Int) == (m : Int)) = false := by simp; omega
      have hc2 : c0 = 2 := by rw [HC.out]; unfold listC; rw [if_pos rfl, if_neg (by rw [← HN.out.1, ← HN.out.2]; omega)]
      subst hc2
      clear hnm HC
      go_wp2_with (first | ((with_reducible refine is_load 41 (.tmp 1) rfl ?_); refine wpList_load_cell rfl 41 (.tmp 1) rfl _ _ rfl (#[.slice (some ⟨ga, 0, none⟩) n n]) _ A3 _ Try.underlying41 rfl (.slice (some ⟨ga, 0, none⟩) n n) rfl ?_) | ((with_reducible refine is_load 41 (.tmp 2) rfl ?_); refine wpList_load_cell rfl 41 (.tmp 2) rfl _ _ rfl (#[.slice (some ⟨gb, 0, none⟩) m m]) _ A4 _ Try.underlying41 rfl (.slice (some ⟨gb, 0, none⟩) m m) rfl ?_) | ((with_reducible refine is_load 41 (.tmp 1) rfl ?_); refine wpList_load_cell_g rfl 41 (.tmp 1) rfl _ _ rfl (#[.slice (some ⟨ga, 0, none⟩) n n]) _ A3 _ Try.underlying41 rfl (.slice (some ⟨ga, 0, none⟩) n n) rfl ?_))
      refine (need_bad 2 _).mono ?_
      rintro e w2 ⟨rfl, rfl⟩
      go_wp2
      exact ⟨rfl, .inr ⟨by decide, _, .inl rfl, rfl⟩, hb1⟩

end Go.Proofs.Ytapnkkbkhifmeaa
