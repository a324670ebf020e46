/-
  CONTRACTS: shared green: the program.
-/
import Derived.Test.YtlpbehokcogcpaaShg
import Derived.Test.YtlpbehokcogcpaaWpt
import Derived.Test.YtlpbehokcogcpaaOwnSl
import Derived.Test.YtlpbehokcogcpaaIfc
import Derived.Test.YtlpbehokcogcpaaNeedP
namespace Go.Proofs.Ytlpbehokcogcpaa
open Go Go.ChangeShapes Go.WideShapes Go.ChangeAt Go.RowKit Go.Deep
set_option maxRecDepth 100000

theorem OwnSl.of_at {w : World} {lo g : Nat} {xs : Slots} (h : At w g (slC xs) 49) (hW : SlW xs) (hl : lo ≤ g) (hn : xs.length ≤ 1048576) : OwnSl w lo (.slice (some ⟨g, 0, none⟩) xs.length xs.length) xs :=
  ⟨slL_length hW, .inr ⟨g, xs.length, slC xs, rfl, hl, h, Nat.le_refl _, by unfold maxLen; omega, slC_size hW, by
    rw [← slL_toC]
    show (slL xs).take _ = slL xs
    exact List.take_of_length_le (by rw [slL_length hW]; exact Nat.le_refl _)⟩⟩

theorem built_slot (b : List Bool) (hb : b.length = 8) (t : Int) : Try.prog.built 49 [(0, .agg (bl b)), (1, .int .i64 t)] = some (sl1 b t) :=
  match b, hb with
  | [_, _, _, _, _, _, _, _], _ => by kernel_rfl

theorem built_plan (a : Option Addr) (n c : Nat) (b : Int) : Try.prog.built 28 [(0, .slice a n c), (1, .int .i64 b)] = some (plC (.slice a n c) b 0) := by kernel_rfl

theorem ones_sp {ps : List P8} {n : Nat} (h : ps.length = n) {k : Nat} (hk : k < n) : splice (slC (cpS n (ones ps) k)) (k * 9) (sl1 (fe z8 ps k).1 1) = slC (cpS n (ones ps) (k + 1)) := by
  have := ones_at (ps := ps) (i := k) (by omega)
  rw [← this.1, ← this.2]
  exact cpS_splice (ones_w ps) (by rw [ones_len]; exact h) hk rfl

set_option maxHeartbeats 1000000 in
theorem ShareGreen_any (G : Nat) (ps : List P8) (hn : ps.length ≤ 1048576) (ds : List Nat) (hl : ds.length = 8) (hx : ∀ x ∈ ds, x < 4294967296) (cy bt : Int) (T : TypeId) (w : World) (A0 : At w G (fm f8 ps) T) :
    Calls Try.prog 9 #[(.slice (some ⟨G, 0, none⟩) ps.length ps.length), .agg (fl ds), .int .i64 cy, .int .i64 bt] w fun e w' => PR w w' (vShg ps ds cy bt).1 (vShg ps ds cy bt).2.1 (vShg ps ds cy bt).2.2.1 (vShg ps ds cy bt).2.2.2 e := by
  have hmf : ∀ (fn : Fn) (first cap : Array Value) (w : World), (Instr.makeFunc fn first cap).run Try.prog w = .ok (.func fn first cap) w := fun _ _ _ _ => rfl
  have D0 : At (((((w.alloc (.cells (fl ds) 24)).alloc (.cells #[.int .i64 cy] 2)).alloc (.cells #[.int .i64 bt] 2)).alloc (.cells (#[.slice none 0 0, .int .i64 0, .int .i64 0]) 28)).alloc (.cells #[.int .i64 (ps.length : Int)] 2)) (w.heap.size) (fl ds) 24 := by
    have h := At.new w (fl ds) 24
    
    exact ((((h).alloc _).alloc _).alloc _).alloc _
  have C0 : At (((((w.alloc (.cells (fl ds) 24)).alloc (.cells #[.int .i64 cy] 2)).alloc (.cells #[.int .i64 bt] 2)).alloc (.cells (#[.slice none 0 0, .int .i64 0, .int .i64 0]) 28)).alloc (.cells #[.int .i64 (ps.length : Int)] 2)) (w.heap.size + 1) #[.int .i64 cy] 2 := by
    have h := At.new (w.alloc (.cells (fl ds) 24)) (#[.int .i64 cy]) 2
    rw [World.size_alloc] at h
    exact (((h).alloc _).alloc _).alloc _
  have R0 : At (((((w.alloc (.cells (fl ds) 24)).alloc (.cells #[.int .i64 cy] 2)).alloc (.cells #[.int .i64 bt] 2)).alloc (.cells (#[.slice none 0 0, .int .i64 0, .int .i64 0]) 28)).alloc (.cells #[.int .i64 (ps.length : Int)] 2)) (w.heap.size + 1 + 1) #[.int .i64 bt] 2 := by
    have h := At.new ((w.alloc (.cells (fl ds) 24)).alloc (.cells #[.int .i64 cy] 2)) (#[.int .i64 bt]) 2
    rw [World.size_alloc, World.size_alloc] at h
    exact ((h).alloc _).alloc _
  have Z0 : At (((((w.alloc (.cells (fl ds) 24)).alloc (.cells #[.int .i64 cy] 2)).alloc (.cells #[.int .i64 bt] 2)).alloc (.cells (#[.slice none 0 0, .int .i64 0, .int .i64 0]) 28)).alloc (.cells #[.int .i64 (ps.length : Int)] 2)) (w.heap.size + 1 + 1 + 1) (plC (.slice none 0 0) 0 0) 28 := by
    have h := At.new (((w.alloc (.cells (fl ds) 24)).alloc (.cells #[.int .i64 cy] 2)).alloc (.cells #[.int .i64 bt] 2)) (#[.slice none 0 0, .int .i64 0, .int .i64 0]) 28
    rw [World.size_alloc, World.size_alloc, World.size_alloc] at h
    exact (h).alloc _
  have N0 : At (((((w.alloc (.cells (fl ds) 24)).alloc (.cells #[.int .i64 cy] 2)).alloc (.cells #[.int .i64 bt] 2)).alloc (.cells (#[.slice none 0 0, .int .i64 0, .int .i64 0]) 28)).alloc (.cells #[.int .i64 (ps.length : Int)] 2)) (w.heap.size + 1 + 1 + 1 + 1) #[.int .i64 (ps.length : Int)] 2 := by
    have h := At.new ((((w.alloc (.cells (fl ds) 24)).alloc (.cells #[.int .i64 cy] 2)).alloc (.cells #[.int .i64 bt] 2)).alloc (.cells (#[.slice none 0 0, .int .i64 0, .int .i64 0]) 28)) (#[.int .i64 (ps.length : Int)]) 2
    rw [World.size_alloc, World.size_alloc, World.size_alloc, World.size_alloc] at h
    exact h
  have A1 := ((((A0.alloc (.cells (fl ds) 24)).alloc (.cells #[.int .i64 cy] 2)).alloc (.cells #[.int .i64 bt] 2)).alloc (.cells (#[.slice none 0 0, .int .i64 0, .int .i64 0]) 28)).alloc (.cells #[.int .i64 (ps.length : Int)] 2)
  have B0 := Lib.hid (bnew (bnew (bnew (bnew (b0 w (.cells (fl ds) 24)) (.cells #[.int .i64 cy] 2)) (.cells #[.int .i64 bt] 2)) (.cells (#[.slice none 0 0, .int .i64 0, .int .i64 0]) 28)) (.cells #[.int .i64 (ps.length : Int)] 2))
  have KR := refusalOf_any 24 #[.pointer (some ⟨w.heap.size + 1 + 1 + 1 + 1, 0, none⟩), .pointer (some ⟨w.heap.size, 0, none⟩), .pointer (some ⟨w.heap.size + 1 + 1, 0, none⟩), .pointer (some ⟨w.heap.size + 1, 0, none⟩)] (gC ps.length ds cy bt) (((((w.alloc (.cells (fl ds) 24)).alloc (.cells #[.int .i64 cy] 2)).alloc (.cells #[.int .i64 bt] 2)).alloc (.cells (#[.slice none 0 0, .int .i64 0, .int .i64 0]) 28)).alloc (.cells #[.int .i64 (ps.length : Int)] 2)) (fun _ => by kernel_rfl) (fun w1 hb => ShareGreen1_any (w.heap.size + 1 + 1 + 1 + 1) (w.heap.size) (w.heap.size + 1 + 1) (w.heap.size + 1) 2 24 2 2 ps.length (by omega) ds hl hx cy bt w1 (N0.step hb) (D0.step hb) (R0.step hb) (C0.step hb))
  by_cases hg : gOk ps.length ds cy bt
  · have hv := Lib.hid (vShg_yes hg)
    rw [gC_yes hg] at KR
    have h1 : 1 ≤ ps.length := hg.1
    have h2 : ps.length ≤ 8 := hg.2.1
    have hd := amts_nth hg.2.2.1
    have h4 : 0 ≤ bt := hg.2.2.2.1
    have h5 : bt ≤ 240 := hg.2.2.2.2.1
    have h6 : (ps.length : Int) * (1 + bt) ≤ cy := hg.2.2.2.2.2.1
    have h7 : cy ≤ 240 := hg.2.2.2.2.2.2
    have hm := g_mul h2 h4 h5
    have HZ := Lib.hid (show ps.length ≠ 0 by omega)
    obtain ⟨n, hnn⟩ : ∃ n, n = ps.length := ⟨_, rfl⟩
    obtain ⟨l, hll⟩ : ∃ l : Nat, (l : Int) = cy - (ps.length : Int) * (1 + bt) := ⟨(cy - (ps.length : Int) * (1 + bt)).toNat, by omega⟩
    rw [← hll, Int.toNat_natCast] at hv
    have s11 : IntKind.i64.wrap (1 + bt) = 1 + bt := IntWalk.i64_in _ (by omega)
    have s12 : IntKind.i64.wrap ((n : Int) * (1 + bt)) = (n : Int) * (1 + bt) := by rw [hnn]; exact IntWalk.i64_in _ (by omega)
    have s13 : IntKind.i64.wrap (cy - (n : Int) * (1 + bt)) = (l : Int) := by rw [hnn, ← hll]; exact IntWalk.i64_in _ (by omega)
    have hl240 : l ≤ 240 := by omega
    have HM := Lib.hid (And.intro hm.1 hm.2)
    clear hm h6 h7 hll hg hx
    rw [← hnn] at hn KR N0 D0 C0 R0 Z0 B0 A1 h1 h2 ⊢
    have HN := Lib.hid hnn
    clear hnn A0
    go_enter Try.func9, Try.ntmps9
    go_wp2_with fail
    refine KR.mono ?_
    rintro e w1 ⟨rfl, hb1⟩
    have hs5 : w.heap.size + 5 ≤ w1.heap.size := by
      have := hb1.size
      simp only [World.size_alloc] at this
      omega
    replace D1 := D0.step hb1
    have C1 := C0.step hb1
    have R1 := R0.step hb1
    have Z1 := Z0.step hb1
    have N1 := N0.step hb1
    replace A1 := A1.step hb1
    have B1 := Lib.hid (bthen B0.out hb1)
    clear D0 C0 R0 Z0 N0 B0 hb1 KR
    have cn : w1.cell? ⟨w.heap.size + 1 + 1 + 1 + 1, 0, none⟩ = some (.int .i64 (n : Int)) := N1.cell rfl
    have hmk := run_make_slots w1 n hn
    have S0 : At (w1.alloc (.cells (slC (slZ n)) 49)) w1.heap.size (slC (cpS n (ones ps) 0)) 49 := by
      rw [cpS_zero]
      exact At.new w1 (slC (slZ n)) 49
    have B2 := Lib.hid (b0 w1 (.cells (slC (slZ n)) 49))
    go_wp2_with ((at_make; refine wpList_make_run rfl _ _ _ rfl _ _ _ rfl rfl hmk ?_))
    clear hmk cn
    generalize w1.alloc _ = w2 at S0 B2 ⊢
    go_loopw [27] (fun i wr => ∃ k : Nat, k ≤ n ∧ i = .int .i64 (k : Int) ∧ At wr w1.heap.size (slC (cpS n (ones ps) k)) 49 ∧ Hid (Below w1.heap.size w1 wr)) (fun i _ => n - (intOf i).toNat)
    case atStart => exact ⟨0, by omega, rfl, S0, B2⟩
    case round =>
      clear S0 B2
      obtain ⟨k, hk, rfl, S3, B3⟩ := hrel
      by_cases hlt : k < n
      · have s2 : IntKind.i64.wrap ((k : Int) + 1) = (k : Int) + 1 := IntWalk.i64_in _ (by omega)
        have kd : (k : Int) < (n : Int) := by omega
        have hkl : k < ps.length := by rw [← HN.out]; exact hlt
        have A3 := A1.step B3.out
        have hle : k * 8 + 8 ≤ (fm f8 ps).size := by rw [fm_size f8_size]; omega
        have hsl := fm_at (d := z8) f8_size hkl (k := k * 8) rfl
        have hb8 := (fe z8 ps k).2
        have e3 := ones_sp HN.out.symm hlt
        change (fm f8 ps).extract (k * 8) (k * 8 + 8) = bl (fe z8 ps k).1 at hsl
        generalize (fe z8 ps k).1 = row at hb8 hsl e3
        have hz8 : (bl row).size = 8 := by rw [bl_size, hb8]
        have hsz : (slC (cpS n (ones ps) k)).size = n * 9 := by rw [slC_size (cpS_w (ones_w ps) n k), cpS_len (by rw [ones_len]; exact HN.out.symm) hk]
        have N3 := At.new wr (#[.bool false, .bool false, .bool false, .bool false, .bool false, .bool false, .bool false, .bool false]) 43
        have N4 := N3.setRow (bl row)
        have hS3 := S3.lt
        have S4 := (S3.alloc (.cells (#[.bool false, .bool false, .bool false, .bool false, .bool false, .bool false, .bool false, .bool false]) 43)).setRow_other (k := wr.heap.size) (by omega) (bl row)
        have B4 := Lib.hid (bset (bnew B3.out (.cells (#[.bool false, .bool false, .bool false, .bool false, .bool false, .bool false, .bool false, .bool false]) 43)) (g := wr.heap.size) (by have := B3.out.size; omega) (bl row))
        have S5 := S4.setRow (slC (cpS n (ones ps) (k + 1)))
        have B5 := Lib.hid (bset B4.out (g := w1.heap.size) (Nat.le_refl _) (slC (cpS n (ones ps) (k + 1))))
        have hbs := built_slot row hb8 1
        have s19 := sl1_size hb8 1
        have HE := Lib.hid e3
        clear e3 hkl hS3
        go_wp2_with (first
          | ((with_reducible refine is_load 43 _ rfl ?_); refine wpList_load_part rfl 43 _ rfl _ (k * 8) rfl (fm f8 ps) _ A3 8 hle _ Try.underlying43 rfl (by kernel_rfl) (bl row) hsl ?_)
          | ((with_reducible refine is_store 43 _ _ rfl ?_); refine wpList_store_at rfl 43 _ _ rfl _ rfl (bl row) rfl (#[.bool false, .bool false, .bool false, .bool false, .bool false, .bool false, .bool false, .bool false]) _ (by with_reducible assumption) 8 (hz8) (rfl) (by kernel_rfl) (bl_one _) ?_)
          | ((with_reducible refine is_load 43 _ rfl ?_); refine wpList_load_at rfl 43 _ rfl _ rfl (bl row) _ N4 8 (hz8) _ Try.underlying43 rfl (by kernel_rfl) ?_)
          | ((with_reducible refine is_bld 49 _ rfl ?_); refine wpList_bld rfl 49 _ rfl #[(0, .agg (bl row)), (1, .int .i64 1)] (by kernel_rfl) (sl1 row 1) hbs ?_)
          | ((with_reducible refine is_store 49 _ _ rfl ?_); refine wpList_store_part rfl 49 _ _ rfl _ (k * 9) rfl (sl1 row 1) rfl (slC (cpS n (ones ps) k)) _ S4 9 s19 (by rw [hsz]; omega) (by kernel_rfl) (sl1_one _ _) (slC (cpS n (ones ps) (k + 1))) HE.out ?_))
        exact ⟨⟨k + 1, by omega, by go_num, S5, B5⟩, by simp [intOf]; omega⟩
      · obtain rfl : n = k := by omega
        rw [cpS_all (by rw [ones_len]; exact HN.out.symm)] at S3
        have cn : wr.cell? ⟨w.heap.size + 1 + 1 + 1 + 1, 0, none⟩ = some (.int .i64 (n : Int)) := (N1.step B3.out).cell rfl
        have cc : wr.cell? ⟨w.heap.size + 1, 0, none⟩ = some (.int .i64 cy) := (C1.step B3.out).cell rfl
        have cb : wr.cell? ⟨w.heap.size + 1 + 1, 0, none⟩ = some (.int .i64 bt) := (R1.step B3.out).cell rfl
        go_wp2_with fail
        clear cn cc cb
        go_loopw [44] (fun i wr => ∃ j : Nat, j ≤ l ∧ i = .int .i64 (j : Int) ∧ At wr w1.heap.size (slC (shr ds (ones ps) j)) 49 ∧ Hid (Below w1.heap.size w1 wr)) (fun i _ => l - (intOf i).toNat)
        case atStart => exact ⟨0, by omega, rfl, S3, B3⟩
        case round =>
          clear S3 B3
          obtain ⟨j, hj, rfl, S3, B3⟩ := hrel
          by_cases hlt : j < l
          · have s2 : IntKind.i64.wrap ((j : Int) + 1) = (j : Int) + 1 := IntWalk.i64_in _ (by omega)
            have kd : (j : Int) < (l : Int) := by omega
            have hX := shr_facts ds (ps := ps) HZ.out j (by omega)
            have hXl : (shr ds (ones ps) j).length = n := by rw [shr_len, ones_len]; exact HN.out.symm
            have hb := bst_lt (ds := ds) (xs := shr ds (ones ps) j) n (by omega)
            have hE := Lib.hid (show inc (shr ds (ones ps) j) (bst ds (shr ds (ones ps) j) n) = shr ds (ones ps) (j + 1) from by
              show _ = inc _ (bst ds _ (ones ps).length)
              rw [ones_len, ← HN.out])
            have hT : ∀ i, i < (shr ds (ones ps) j).length → 1 ≤ st (shr ds (ones ps) j) i ∧ st (shr ds (ones ps) j) i ≤ 1048576 := fun i hi => by
              have := (hX.2 i (by rw [← HN.out, ← hXl]; exact hi)).2
              omega
            have hW := hX.1
            clear hX
            generalize shr ds (ones ps) j = X at S3 hXl hb hE hT hW
            have D3 := D1.step B3.out
            have KF := firstToGet_any w1.heap.size n X hW (by omega) (by omega) hT ds hl hd 49 wr S3
            have hbt := hT (bst ds X n) (by omega)
            have hbX : bst ds X n < X.length := by omega
            rw [hXl] at KF
            have hfs : (fl ds).size = 8 := by rw [fl_size, hl]
            go_wp2_with (((with_reducible refine is_load 24 _ rfl ?_); refine wpList_load_at rfl 24 _ rfl _ rfl (fl ds) _ D3 8 (hfs) _ Try.underlying24 rfl (by kernel_rfl) ?_))
            refine KF.mono ?_
            rintro e w4 ⟨rfl, hb4⟩
            have S4 := S3.step hb4
            have B4 := Lib.hid (B3.out.trans (hb4.mono B3.out.size))
            clear S3 B3 KF D3 hb4
            have c1 : w4.cell? ⟨w1.heap.size, bst ds X n * 9 + 8, none⟩ = some (.int .i64 (st X (bst ds X n))) := S4.cell (slC_ticks hW hbX rfl)
            have s3 : IntKind.i64.wrap (st X (bst ds X n) + 1) = st X (bst ds X n) + 1 := IntWalk.i64_in _ (by omega)
            have e4' := slC_inc hW hbX (by unfold I64; omega)
            rw [hE.out] at e4'
            have e4 := Lib.hid e4'
            have hsz := slC_size hW
            have S5 := S4.setRow (slC (shr ds (ones ps) (j + 1)))
            have B5 := Lib.hid (bset B4.out (g := w1.heap.size) (Nat.le_refl _) (slC (shr ds (ones ps) (j + 1))))
            clear e4'
            have hbn : ((bst ds X n : Nat) : Int) < (n : Int) := by omega
            clear hE
            generalize bst ds X n = q at *
            generalize hY : slC (shr ds (ones ps) (j + 1)) = Y at *
            have HY := Lib.hid hY
            clear hY
            go_wp2_with (((with_reducible refine is_store 2 _ _ rfl ?_); refine wpList_store_cell rfl 2 _ _ rfl _ (q * 9 + 8) rfl (.int .i64 (st X q + 1)) rfl (slC X) _ S4 (by omega) (by kernel_rfl) rfl Y e4.out ?_))
            exact ⟨⟨j + 1, by omega, by go_num, by rw [HY.out]; exact S5, B5⟩, by simp [intOf]; omega⟩
          · obtain rfl : l = j := by omega
            have hW := (shr_facts ds (ps := ps) HZ.out l (by omega)).1
            have hXl : (shr ds (ones ps) l).length = n := by rw [shr_len, ones_len]; exact HN.out.symm
            have HV := Lib.hid (show vShg ps ds cy bt = (shr ds (ones ps) l, bt, 0, 0) from by rw [hv.out])
            have O3 := OwnSl.of_at S3 hW (lo := w.heap.size) (by omega) (by omega)
            rw [hXl] at O3
            generalize shr ds (ones ps) l = X at S3 O3 HV
            obtain ⟨S, hS⟩ : ∃ S, S = w1.heap.size := ⟨_, rfl⟩
            rw [← hS] at S3 O3
            have cb : wr.cell? ⟨w.heap.size + 1 + 1, 0, none⟩ = some (.int .i64 bt) := (R1.step B3.out).cell rfl
            have Z3 := Z1.step B3.out
            have R9 := Z3.setRow (plC (.slice (some ⟨S, 0, none⟩) n n) bt 0)
            have O9 := O3.setRow_other (g := w.heap.size + 1 + 1 + 1) (fun q hq => by have : q = S := (by simpa [Value.ownBlock] using hq.symm); omega) (plC (.slice (some ⟨S, 0, none⟩) n n) bt 0)
            have B9 := Lib.hid (bset (B1.out.trans (B3.out.mono (by omega))) (g := w.heap.size + 1 + 1 + 1) (by omega) (plC (.slice (some ⟨S, 0, none⟩) n n) bt 0))
            go_wp2_with (first
              | ((with_reducible refine is_bld 28 _ rfl ?_); refine wpList_bld rfl 28 _ rfl #[(0, .slice (some ⟨w1.heap.size, 0, none⟩) n n), (1, .int .i64 bt)] (by kernel_rfl) _ (built_plan _ _ _ _) ?_)
              | ((with_reducible refine is_store 28 _ _ rfl ?_); refine wpList_store_at rfl 28 _ _ rfl _ rfl (plC (.slice (some ⟨w1.heap.size, 0, none⟩) n n) bt 0) rfl (plC (.slice none 0 0) 0 0) _ Z3 3 (plC_size _ _ _) (plC_size _ _ _) (by kernel_rfl) (pl_one _ (sl_one _ _ _) _ _) ?_))
            rw [← hS]
            exact bodyPost_ret (v := .tuple #[.agg (plC (.slice (some ⟨S, 0, none⟩) n n) bt 0), .int .i64 0]) (results_at_tmp (p := 8) (ty := 28) rfl _ _ _ (plC (.slice (some ⟨S, 0, none⟩) n n) bt 0) _ (.int .i64 0) rfl rfl R9 _ Try.underlying28 rfl 3 (plC_size _ _ _) (by kernel_rfl)) rfl ⟨⟨_, by rw [HV.out], by rw [HV.out]; exact O9⟩, B9.out⟩
  · have hv := Lib.hid (vShg_no hg)
    rw [gC_no hg] at KR
    clear hg
    go_enter Try.func9, Try.ntmps9
    go_wp2_with fail
    refine KR.mono ?_
    rintro e w1 ⟨rfl, hb1⟩
    have R1 := Z0.step hb1
    have B1 := Lib.hid (bthen B0.out hb1)
    clear D0 C0 R0 Z0 N0 A1 B0 hb1 KR A0
    have R9 := R1.setRow (plC (.slice none 0 0) 0 0)
    have B9 := Lib.hid (bset B1.out (g := w.heap.size + 1 + 1 + 1) (by omega) (plC (.slice none 0 0) 0 0))
    go_wp2_with (((with_reducible refine is_store 28 _ _ rfl ?_); refine wpList_store_at rfl 28 _ _ rfl _ rfl (plC (.slice none 0 0) 0 0) rfl (plC (.slice none 0 0) 0 0) _ (by with_reducible assumption) 3 (plC_size _ _ _) (plC_size _ _ _) (by kernel_rfl) (pl_one _ rfl _ _) ?_))
    exact bodyPost_ret (v := .tuple #[.agg (plC (.slice none 0 0) 0 0), .int .i64 2]) (results_at_tmp (p := 8) (ty := 28) rfl _ _ _ (plC (.slice none 0 0) 0 0) _ (.int .i64 2) rfl rfl R9 _ Try.underlying28 rfl 3 (plC_size _ _ _) (by kernel_rfl)) rfl ⟨⟨_, by rw [hv.out], by rw [hv.out]; exact OwnSl.nil _ _⟩, B9.out⟩

end Go.Proofs.Ytlpbehokcogcpaa
