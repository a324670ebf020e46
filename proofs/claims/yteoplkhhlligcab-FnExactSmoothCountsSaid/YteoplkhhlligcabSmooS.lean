/-
  CONTRACTS: smoothed counts, as the model has them.
-/
import Derived.Test.YteoplkhhlligcabVTlI
import Derived.Test.YteoplkhhlligcabSmNum
import Derived.Test.YteoplkhhlligcabOwnF
import Derived.Test.YteoplkhhlligcabNum
import Derived.Test.YteoplkhhlligcabEqF
namespace Go.Proofs.Yteoplkhhlligcab
open Go Go.ChangeShapes Go.WideShapes Go.ChangeAt Go.RowKit
set_option maxRecDepth 100000

theorem At.keepF {w w' : World} {g : Nat} {c : Array Value} {T : TypeId} {r : Option Nat} (h : At w g c T) (hg : w.grownBy w' r) (hne : ∀ q, r = some q → q ≠ g) : At w' g c T :=
  (hg.block g h.lt (fun e => hne g e.symm rfl)).trans h
theorem cntF {xs : Ts} {k : Nat} (h : 0 ≤ tc xs k) : floatOfInt .f32 (tc xs k) = fN (tc xs k).toNat := by
  obtain ⟨m, hm⟩ : ∃ m : Nat, tc xs k = (m : Int) := ⟨(tc xs k).toNat, by omega⟩
  rw [hm, floatOfInt_nat, Int.toNat_natCast]
theorem made_zerosF (n : Nat) : madeCells (Value.float .f32 0).cells (n * 1) = fl (zeros n) := by
  unfold madeCells fl zeros
  apply Array.ext
  · simp
  · intro i h1 h2
    have e : (Value.float .f32 0).cells = #[.float .f32 0] := rfl
    simp [e, Nat.mod_one]
theorem run_make_floats (W : World) (n : Nat) (hn : n ≤ 1048576) : (Instr.makeSlice 25 (.int .i64 (n : Int)) (.int .i64 (n : Int))).run Try.prog W = .ok (.slice (some ⟨W.heap.size, 0, none⟩) n n) (W.alloc (.cells (fl (zeros n)) 23)) := by
  have hi : (Try.prog.info? 23).map (fun i => (i.zero, i.size, i.bytes)) = some (some (.float .f32 0), 1, 4) := by kernel_rfl
  obtain ⟨i, h1, h2, h3, h4⟩ := info_parts hi
  have := run_make (P := Try.prog) W 25 23 i (.float .f32 0) Try.underlying25 h1 h2 .i64 .i64 (n : Int) (n : Int) (by omega) (by omega) (by rw [h4]; omega) (by omega)
  rw [Int.toNat_natCast, h3, made_zerosF] at this
  exact this
/-- the row while it is filled: k places done; the place k is x -/
def smR (xs : Ts) (s n k : Nat) : List Nat := smL xs s k ++ zeros (n - k)
def smM (xs : Ts) (s n k x : Nat) : List Nat := smL xs s k ++ (x :: zeros (n - (k + 1)))
theorem smR_len {xs : Ts} {s n k : Nat} (h : k ≤ n) : (smR xs s n k).length = n := by simp [smR, smL_len, zeros]; omega
theorem smM_len {xs : Ts} {s n k x : Nat} (h : k < n) : (smM xs s n k x).length = n := by simp [smM, smL_len, zeros]; omega
theorem smR_0 (xs : Ts) (s n : Nat) : smR xs s n 0 = zeros n := by simp [smR, smL]
theorem smR_n (xs : Ts) (s n : Nat) : smR xs s n n = smL xs s n := by simp [smR, zeros]
theorem smR_set {xs : Ts} {s n k : Nat} (h : k < n) (x : Nat) : (smR xs s n k).set k x = smM xs s n k x := by
  unfold smR smM
  rw [List.set_append_right _ _ (by rw [smL_len]; omega), smL_len, Nat.sub_self, show n - k = (n - (k + 1)) + 1 from by omega]
  rfl
theorem smM_set (xs : Ts) (s n k x y : Nat) : (smM xs s n k x).set k y = smM xs s n k y := by
  unfold smM
  rw [List.set_append_right _ _ (by rw [smL_len]; omega), smL_len, Nat.sub_self]
  rfl
theorem smM_done (xs : Ts) (s n k : Nat) : smM xs s n k (smN xs s k) = smR xs s n (k + 1) := by
  unfold smM smR
  rw [smL_next, List.append_assoc]; rfl
theorem smM_at (xs : Ts) (s n k x : Nat) : nth (smM xs s n k x) k = x := by
  unfold smM nth
  rw [List.getD_eq_getElem?_getD, List.getElem?_append_right (by rw [smL_len]; omega), smL_len, Nat.sub_self]; rfl
theorem smM_lo {xs : Ts} {s n k x i : Nat} (h : i < k) : nth (smM xs s n k x) i = smN xs s i := by
  have := smL_nth (xs := xs) (s := s) h
  unfold nth at this ⊢
  unfold smM
  rw [List.getD_eq_getElem?_getD, List.getElem?_append_left (by rw [smL_len]; exact h), ← List.getD_eq_getElem?_getD]
  exact this

set_option maxHeartbeats 2000000 in
theorem sSmoothCounts_any (G : Nat) (xs : Ts) (cap : Nat) (hW : TW xs) (hn : xs.length ≤ 1048576) (T : TypeId) (s : Nat) (hs : s < 4294967296) (w : World) (h0 : At w G (tC xs) T) :
    Calls Try.prog 14 #[(.slice (some ⟨G, 0, none⟩) xs.length cap), .float .f32 s] w fun e w' => FR w w' (vSmooth xs s).1 (vSmooth xs s).2 e := by
  have KV := l05List_any G xs cap hW hn T w h0
  have KT := l01Share_any s hs
  obtain ⟨i0, hi, hz0, hz1, hz2⟩ := info_float
  cases h : okT xs
  · rw [vSmooth_1 h]
    rw [h] at KV
    generalize xs.length = n at KV
    go_enter Try.func14, Try.ntmps14
    go_wp2_with fail
    refine KV.mono ?_
    rintro e w1 ⟨rfl, hb1⟩
    go_wp2_with (((with_reducible refine is_bslice 25 0 _ rfl ?_); refine wpList_bslice rfl 25 0 _ rfl #[] (by simp) _ (run_noF _) ?_))
    go_ret2
    exact ⟨⟨_, rfl, OwnF.empty rfl hb1.size⟩, bnew hb1 _⟩
  · rw [h] at KV
    cases h2 : shrB s
    · rw [vSmooth_2 h h2]
      rw [h2] at KT
      generalize xs.length = n at KV
      go_enter Try.func14, Try.ntmps14
      go_wp2_with fail
      refine KV.mono ?_
      rintro e w1 ⟨rfl, hb1⟩
      go_wp2_with fail
      refine (KT _).mono ?_
      rintro e w2 ⟨rfl, n2, rfl⟩
      have hb2 := bdrew hb1 n2
      generalize World.drewN _ n2 = w2 at hb2 ⊢
      go_wp2_with (((with_reducible refine is_bslice 25 0 _ rfl ?_); refine wpList_bslice rfl 25 0 _ rfl #[] (by simp) _ (run_noF _) ?_))
      go_ret2
      exact ⟨⟨_, rfl, OwnF.empty rfl hb2.size⟩, bnew hb2 _⟩
    · rw [vSmooth_0 h h2]
      rw [h2] at KT
      have hsh : s ≤ 1065353216 := of_decide_eq_true h2
      have h96 := okT_len h
      have HX := Lib.hid h0
      have HG := Lib.hid (show ∀ q, w.heap.size ≤ q → q ≠ G from fun q hq => by have := h0.lt; omega)
      have HC := Lib.hid (fun k hk => (cnt_wd h hW (i := k) hk).1)
      have HO := Lib.hid (fun i hi => sm_ops h hW hsh (i := i) hi)
      obtain ⟨n, hnn⟩ : ∃ n, n = xs.length := ⟨_, rfl⟩
      rw [← hnn] at h96 KV ⊢
      have HN := Lib.hid hnn
      clear hnn h0 h hn hW h2
      go_enter Try.func14, Try.ntmps14
      go_wp2_with fail
      refine KV.mono ?_
      rintro e w1 ⟨rfl, hb1⟩
      go_wp2_with fail
      refine (KT _).mono ?_
      rintro e w2 ⟨rfl, n2, rfl⟩
      have hb2 := bdrew hb1 n2
      generalize World.drewN _ n2 = w2 at hb2 ⊢
      clear hb1 KV KT
      have A1 := (HX.out.step hb2).alloc (.cells #[] 23)
      have B1 := Lib.hid (bnew hb2 (.cells #[] 23))
      have O1 := OwnF.empty (w := w2) (lo := w.heap.size) rfl hb2.size
      clear hb2
      go_wp2_with (((with_reducible refine is_bslice 25 0 _ rfl ?_); refine wpList_bslice rfl 25 0 _ rfl #[] (by simp) _ (run_noF _) ?_))
      go_loopw [6, 7] (fun v i wr => ∃ k : Nat, k ≤ n ∧ i = .int .i64 (k : Int) ∧ OwnF wr w.heap.size v (smL xs s k) ∧ At wr G (tC xs) T ∧ Hid (Below w.heap.size w wr)) (fun _ i _ => n - (intOf i).toNat)
      case atStart => exact ⟨0, by omega, rfl, O1, A1, B1⟩
      case round =>
        clear A1 B1 O1
        obtain ⟨k, hk, rfl, O1, A1, B1⟩ := hrel
        obtain ⟨a, c, hv⟩ := O1.any
        rw [smL_len] at hv
        subst hv
        by_cases hlt : k < n
        · have s2 : IntKind.i64.wrap ((k : Int) + 1) = (k : Int) + 1 := IntWalk.i64_in _ (by omega)
          have kd : (k : Int) < (n : Int) := by omega
          have hkl : k < xs.length := by rw [← HN.out]; exact hlt
          have hws : w.heap.size ≤ wr.heap.size := B1.out.size
          have c1 := A1.cell (tC_count hkl (k := k * 3 + 1) rfl)
          have fc := cntF (HC.out k hkl)
          have hL := Lib.hid (smL_next xs s k).symm
          by_cases kz : 0 < k
          · have kz' : decide (0 < k) = true := decide_eq_true kz
            obtain ⟨g, cap', cur, hv, -, hA, -, -, hc⟩ := O1.at (by rw [smL_len]; omega)
            rw [smL_len] at hv hc
            obtain ⟨rfl, rfl⟩ : a = some ⟨g, 0, none⟩ ∧ c = cap' := by simpa using hv
            have g0 := hA.cell (hc (k - 1) (by omega))
            rw [smL_nth (by omega)] at g0
            obtain ⟨o1, o2, o3, o4⟩ := HO.out (k - 1) (by omega)
            rw [show k - 1 + 1 = k from by omega] at o3 o4
            have s3 : IntKind.i64.wrap ((k : Int) - 1) = ((k - 1 : Nat) : Int) := by rw [IntWalk.i64_in _ (by omega)]; omega
            have kn : ((k - 1 : Nat) : Int) < (k : Int) := by omega
            have kn0 : (0 : Int) ≤ ((k - 1 : Nat) : Int) := by omega
            have q1 := fun t w => run_float_arith (P := Try.prog) w .sub t .f32 _ _ _ o1
            have q2 := fun t w => run_float_arith (P := Try.prog) w .mul t .f32 _ _ _ o2
            have q3 := fun t w => run_float_arith (P := Try.prog) w .mul t .f32 _ _ _ o3
            have q4 := fun t w => run_float_arith (P := Try.prog) w .add t .f32 _ _ _ o4
            clear o1 o2 o3 o4 hkl hv hA hc
            generalize k - 1 = k' at *
            generalize subB 1065353216 s = Q at *
            generalize mulB (smN xs s k') Q = M1 at *
            generalize fN (tc xs k).toNat = C0 at *
            generalize mulB C0 s = M2 at *
            go_wp2_with (first | ((with_reducible refine is_bslice 25 1 _ rfl ?_); refine wpList_bslice rfl 25 1 _ rfl #[(0, .float .f32 (smN xs s k))] (by kernel_rfl) _ (run_oneF _ (smN xs s k)) ?_) | (at_builtin; go_loud (refine wpList_append_own _ rfl _ _ 25 rfl w.heap.size 23 i0 (.float .f32 0) 1 4 Try.underlying25 hi hz0 hz1 hz2 rfl (by decide) _ (smL xs s k).length _ rfl (O1.step (b0 _ _)) ⟨wr.heap.size, 0, none⟩ 1 1 [.float .f32 (smN xs s k)] rfl rfl (one_cellsF wr (smN xs s k)) (fun u hu => by simp at hu; subst hu; rfl) (by rw [smL_len]; unfold maxLen; omega) (by rw [smL_len]; omega) (by simp; omega) ?_)) | (simp only [q1, q2, q3, q4]))
            intro v' w5 hown hgrow _
            have O5 := OwnF.grown hown
            rw [hL.out] at O5
            have hb5 : Below w.heap.size (wr.alloc (.cells #[.float .f32 (smN xs s k)] 23)) w5 := Below.grownBy hgrow (by rw [World.size_alloc]; have := B1.out.size; omega) (fun q hq => (O1.block q hq).1)
            have B5 := Lib.hid ((bnew B1.out (.cells #[.float .f32 (smN xs s k)] 23)).trans hb5)
            have A5 : At w5 G (tC xs) T := (A1.alloc (.cells #[.float .f32 (smN xs s k)] 23)).keepF hgrow (fun q hq => HG.out q ((O1.block q hq).1))
            clear hown hgrow hb5
            go_wp2_with fail
            exact ⟨⟨k + 1, by omega, by go_num, O5, A5, B5⟩, by simp [intOf]; omega⟩
          · have kz' : decide (0 < k) = false := decide_eq_false kz
            have e0 : fN (tc xs k).toNat = smN xs s k := by rw [show k = 0 from by omega]; rfl
            rw [e0] at fc
            clear hkl
            go_wp2_with (first | ((with_reducible refine is_bslice 25 1 _ rfl ?_); refine wpList_bslice rfl 25 1 _ rfl #[(0, .float .f32 (smN xs s k))] (by kernel_rfl) _ (run_oneF _ (smN xs s k)) ?_) | (at_builtin; go_loud (refine wpList_append_own _ rfl _ _ 25 rfl w.heap.size 23 i0 (.float .f32 0) 1 4 Try.underlying25 hi hz0 hz1 hz2 rfl (by decide) _ (smL xs s k).length _ rfl (O1.step (b0 _ _)) ⟨wr.heap.size, 0, none⟩ 1 1 [.float .f32 (smN xs s k)] rfl rfl (one_cellsF wr (smN xs s k)) (fun u hu => by simp at hu; subst hu; rfl) (by rw [smL_len]; unfold maxLen; omega) (by rw [smL_len]; omega) (by simp; omega) ?_)))
            intro v' w5 hown hgrow _
            have O5 := OwnF.grown hown
            rw [hL.out] at O5
            have hb5 : Below w.heap.size (wr.alloc (.cells #[.float .f32 (smN xs s k)] 23)) w5 := Below.grownBy hgrow (by rw [World.size_alloc]; have := B1.out.size; omega) (fun q hq => (O1.block q hq).1)
            have B5 := Lib.hid ((bnew B1.out (.cells #[.float .f32 (smN xs s k)] 23)).trans hb5)
            have A5 : At w5 G (tC xs) T := (A1.alloc (.cells #[.float .f32 (smN xs s k)] 23)).keepF hgrow (fun q hq => HG.out q ((O1.block q hq).1))
            clear hown hgrow hb5
            go_wp2_with fail
            exact ⟨⟨k + 1, by omega, by go_num, O5, A5, B5⟩, by simp [intOf]; omega⟩
        · obtain rfl : n = k := by omega
          go_wp2_with fail
          go_ret2
          exact ⟨⟨_, rfl, O1⟩, B1.out⟩

end Go.Proofs.Yteoplkhhlligcab
