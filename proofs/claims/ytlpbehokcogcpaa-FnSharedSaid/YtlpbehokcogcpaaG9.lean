/-
  SEVERAL TEXTS IN ONE.
-/
import Derived.Test.YtlpbehokcogcpaaShgI
import Derived.Test.YtlpbehokcogcpaaG3
import Derived.BigQuiet
import Derived.Laws.BitsLemmas
import Derived.Laws.Bits64
import Derived.Test.YtlpbehokcogcpaaToSlots
import Derived.Laws.AppendOwn
import Derived.Laws.AppendOwnNone
import Derived.Great.BuildSlice
import Derived.Test.YtlpbehokcogcpaaToPlan
import Derived.Test.YtlpbehokcogcpaaCyc
import Derived.Laws.StructEq
import Derived.Test.YtlpbehokcogcpaaG2
import Derived.Test.YtlpbehokcogcpaaCycZ
import Derived.Test.YtlpbehokcogcpaaNeedP
import Derived.Test.YtlpbehokcogcpaaVPlanI
import Derived.Test.YtlpbehokcogcpaaShgS
import Derived.Test.YtlpbehokcogcpaaShg
import Derived.Test.YtlpbehokcogcpaaG4
import Derived.Test.YtlpbehokcogcpaaLawS
import Derived.Test.YtlpbehokcogcpaaG1
import Derived.Test.YtlpbehokcogcpaaMix
import Derived.OwnWalk
import Derived.Test.YtlpbehokcogcpaaIfc
import Derived.Test.YtlpbehokcogcpaaIl

/-
  CONTRACTS: shared green, the program, at phases with a capacity.
-/
namespace Go.Proofs.Ytlpbehokcogcpaa
open Go Go.ChangeShapes Go.WideShapes Go.ChangeAt Go.RowKit Go.Deep
set_option maxRecDepth 100000

/-- phases, and what lies behind them -/
def fmY (ps : List P8) (yz : Array Value) : Array Value := fm f8 ps ++ yz

theorem fmY_size (ps : List P8) (yz : Array Value) : ps.length * 8 ≤ (fmY ps yz).size := by
  unfold fmY
  rw [Array.size_append, fm_size f8_size]
  omega

theorem fmY_get {ps : List P8} (yz : Array Value) {i j : Nat} (hi : i < ps.length) (hj : j < 8) : (fmY ps yz)[i * 8 + j]? = (f8 (fe z8 ps i))[j]? := by
  unfold fmY
  rw [Array.getElem?_append_left (by rw [fm_size f8_size]; omega)]
  exact fm_get f8_size hi hj

theorem fmY_at {ps : List P8} (yz : Array Value) {i k : Nat} (hi : i < ps.length) (hk : k = i * 8) : (fmY ps yz).extract k (k + 8) = f8 (fe z8 ps i) := by
  rw [← fm_at (d := z8) f8_size hi hk]
  subst hk
  have hs := fm_size f8_size ps
  apply Array.ext_getElem?
  intro j
  rw [Array.getElem?_extract, Array.getElem?_extract]
  unfold fmY
  by_cases c : j < 8
  · rw [if_pos (by rw [Array.size_append]; omega), if_pos (by omega), Array.getElem?_append_left (by omega)]
  · rw [if_neg (by omega), if_neg (by omega)]

set_option maxHeartbeats 1000000 in
theorem ShareGreen_anyZ (cp : Nat) (yz : Array Value) (G : Nat) (ps : List P8) (hn : ps.length ≤ 1048576) (ds : List Nat) (hl : ds.length = 8) (hx : ∀ x ∈ ds, x < 4294967296) (cy bt : Int) (T : TypeId) (w : World) (A0 : At w G (fmY ps yz) T) :
    Calls Try.prog 9 #[(.slice (some ⟨G, 0, none⟩) ps.length cp), .agg (fl ds), .int .i64 cy, .int .i64 bt] w fun e w' => PR w w' (vShg ps ds cy bt).1 (vShg ps ds cy bt).2.1 (vShg ps ds cy bt).2.2.1 (vShg ps ds cy bt).2.2.2 e := by
  have hmf : ∀ (fn : Fn) (first cap : Array Value) (w : World), (Instr.makeFunc fn first cap).run Try.prog w = .ok (.func fn first cap) w := fun _ _ _ _ => rfl
  have D0 : At (((((w.alloc (.cells (fl ds) 24)).alloc (.cells #[.int .i64 cy] 2)).alloc (.cells #[.int .i64 bt] 2)).alloc (.cells (#[.slice none 0 0, .int .i64 0, .int .i64 0]) 28)).alloc (.cells #[.int .i64 (ps.length : Int)] 2)) (w.heap.size) (fl ds) 24 := by
    have h := At.new w (fl ds) 24
    
    exact ((((h).alloc _).alloc _).alloc _).alloc _
  have C0 : At (((((w.alloc (.cells (fl ds) 24)).alloc (.cells #[.int .i64 cy] 2)).alloc (.cells #[.int .i64 bt] 2)).alloc (.cells (#[.slice none 0 0, .int .i64 0, .int .i64 0]) 28)).alloc (.cells #[.int .i64 (ps.length : Int)] 2)) (w.heap.size + 1) #[.int .i64 cy] 2 := by
    have h := At.new (w.alloc (.cells (fl ds) 24)) (#[.int .i64 cy]) 2
    rw [World.size_alloc] at h
    exact (((h).alloc _).alloc _).alloc _
  have R0 : At (((((w.alloc (.cells (fl ds) 24)).alloc (.cells #[.int .i64 cy] 2)).alloc (.cells #[.int .i64 bt] 2)).alloc (.cells (#[.slice none 0 0, .int .i64 0, .int .i64 0]) 28)).alloc (.cells #[.int .i64 (ps.length : Int)] 2)) (w.heap.size + 1 + 1) #[.int .i64 bt] 2 := by
    have h := At.new ((w.alloc (.cells (fl ds) 24)).alloc (.cells #[.int .i64 cy] 2)) (#[.int .i64 bt]) 2
    rw [World.size_alloc, World.size_alloc] at h
    exact ((h).alloc _).alloc _
  have Z0 : At (((((w.alloc (.cells (fl ds) 24)).alloc (.cells #[.int .i64 cy] 2)).alloc (.cells #[.int .i64 bt] 2)).alloc (.cells (#[.slice none 0 0, .int .i64 0, .int .i64 0]) 28)).alloc (.cells #[.int .i64 (ps.length : Int)] 2)) (w.heap.size + 1 + 1 + 1) (plC (.slice none 0 0) 0 0) 28 := by
    have h := At.new (((w.alloc (.cells (fl ds) 24)).alloc (.cells #[.int .i64 cy] 2)).alloc (.cells #[.int .i64 bt] 2)) (#[.slice none 0 0, .int .i64 0, .int .i64 0]) 28
    rw [World.size_alloc, World.size_alloc, World.size_alloc] at h
    exact (h).alloc _
  have N0 : At (((((w.alloc (.cells (fl ds) 24)).alloc (.cells #[.int .i64 cy] 2)).alloc (.cells #[.int .i64 bt] 2)).alloc (.cells (#[.slice none 0 0, .int .i64 0, .int .i64 0]) 28)).alloc (.cells #[.int .i64 (ps.length : Int)] 2)) (w.heap.size + 1 + 1 + 1 + 1) #[.int .i64 (ps.length : Int)] 2 := by
    have h := At.new ((((w.alloc (.cells (fl ds) 24)).alloc (.cells #[.int .i64 cy] 2)).alloc (.cells #[.int .i64 bt] 2)).alloc (.cells (#[.slice none 0 0, .int .i64 0, .int .i64 0]) 28)) (#[.int .i64 (ps.length : Int)]) 2
    rw [World.size_alloc, World.size_alloc, World.size_alloc, World.size_alloc] at h
    exact h
  have A1 := ((((A0.alloc (.cells (fl ds) 24)).alloc (.cells #[.int .i64 cy] 2)).alloc (.cells #[.int .i64 bt] 2)).alloc (.cells (#[.slice none 0 0, .int .i64 0, .int .i64 0]) 28)).alloc (.cells #[.int .i64 (ps.length : Int)] 2)
  have B0 := Lib.hid (bnew (bnew (bnew (bnew (b0 w (.cells (fl ds) 24)) (.cells #[.int .i64 cy] 2)) (.cells #[.int .i64 bt] 2)) (.cells (#[.slice none 0 0, .int .i64 0, .int .i64 0]) 28)) (.cells #[.int .i64 (ps.length : Int)] 2))
  have KR := refusalOf_any 24 #[.pointer (some ⟨w.heap.size + 1 + 1 + 1 + 1, 0, none⟩), .pointer (some ⟨w.heap.size, 0, none⟩), .pointer (some ⟨w.heap.size + 1 + 1, 0, none⟩), .pointer (some ⟨w.heap.size + 1, 0, none⟩)] (gC ps.length ds cy bt) (((((w.alloc (.cells (fl ds) 24)).alloc (.cells #[.int .i64 cy] 2)).alloc (.cells #[.int .i64 bt] 2)).alloc (.cells (#[.slice none 0 0, .int .i64 0, .int .i64 0]) 28)).alloc (.cells #[.int .i64 (ps.length : Int)] 2)) (fun _ => by kernel_rfl) (fun w1 hb => ShareGreen1_any (w.heap.size + 1 + 1 + 1 + 1) (w.heap.size) (w.heap.size + 1 + 1) (w.heap.size + 1) 2 24 2 2 ps.length (by omega) ds hl hx cy bt w1 (N0.step hb) (D0.step hb) (R0.step hb) (C0.step hb))
  by_cases hg : gOk ps.length ds cy bt
  · have hv := Lib.hid (vShg_yes hg)
    rw [gC_yes hg] at KR
    have h1 : 1 ≤ ps.length := hg.1
    have h2 : ps.length ≤ 8 := hg.2.1
    have hd := amts_nth hg.2.2.1
    have h4 : 0 ≤ bt := hg.2.2.2.1
    have h5 : bt ≤ 240 := hg.2.2.2.2.1
    have h6 : (ps.length : Int) * (1 + bt) ≤ cy := hg.2.2.2.2.2.1
    have h7 : cy ≤ 240 := hg.2.2.2.2.2.2
    have hm := g_mul h2 h4 h5
    have HZ := Lib.hid (show ps.length ≠ 0 by omega)
    obtain ⟨n, hnn⟩ : ∃ n, n = ps.length := ⟨_, rfl⟩
    obtain ⟨l, hll⟩ : ∃ l : Nat, (l : Int) = cy - (ps.length : Int) * (1 + bt) := ⟨(cy - (ps.length : Int) * (1 + bt)).toNat, by omega⟩
    rw [← hll, Int.toNat_natCast] at hv
    have s11 : IntKind.i64.wrap (1 + bt) = 1 + bt := IntWalk.i64_in _ (by omega)
    have s12 : IntKind.i64.wrap ((n : Int) * (1 + bt)) = (n : Int) * (1 + bt) := by rw [hnn]; exact IntWalk.i64_in _ (by omega)
    have s13 : IntKind.i64.wrap (cy - (n : Int) * (1 + bt)) = (l : Int) := by rw [hnn, ← hll]; exact IntWalk.i64_in _ (by omega)
    have hl240 : l ≤ 240 := by omega
    have HM := Lib.hid (And.intro hm.1 hm.2)
    clear hm h6 h7 hll hg hx
    rw [← hnn] at hn KR N0 D0 C0 R0 Z0 B0 A1 h1 h2 ⊢
    have HN := Lib.hid hnn
    clear hnn A0
    go_enter Try.func9, Try.ntmps9
    go_wp2_with fail
    refine KR.mono ?_
    rintro e w1 ⟨rfl, hb1⟩
    have hs5 : w.heap.size + 5 ≤ w1.heap.size := by
      have := hb1.size
      simp only [World.size_alloc] at this
      omega
    replace D1 := D0.step hb1
    have C1 := C0.step hb1
    have R1 := R0.step hb1
    have Z1 := Z0.step hb1
    have N1 := N0.step hb1
    replace A1 := A1.step hb1
    have B1 := Lib.hid (bthen B0.out hb1)
    clear D0 C0 R0 Z0 N0 B0 hb1 KR
    have cn : w1.cell? ⟨w.heap.size + 1 + 1 + 1 + 1, 0, none⟩ = some (.int .i64 (n : Int)) := N1.cell rfl
    have hmk := run_make_slots w1 n hn
    have S0 : At (w1.alloc (.cells (slC (slZ n)) 49)) w1.heap.size (slC (cpS n (ones ps) 0)) 49 := by
      rw [cpS_zero]
      exact At.new w1 (slC (slZ n)) 49
    have B2 := Lib.hid (b0 w1 (.cells (slC (slZ n)) 49))
    go_wp2_with ((at_make; refine wpList_make_run rfl _ _ _ rfl _ _ _ rfl rfl hmk ?_))
    clear hmk cn
    generalize w1.alloc _ = w2 at S0 B2 ⊢
    go_loopw [27] (fun i wr => ∃ k : Nat, k ≤ n ∧ i = .int .i64 (k : Int) ∧ At wr w1.heap.size (slC (cpS n (ones ps) k)) 49 ∧ Hid (Below w1.heap.size w1 wr)) (fun i _ => n - (intOf i).toNat)
    case atStart => exact ⟨0, by omega, rfl, S0, B2⟩
    case round =>
      clear S0 B2
      obtain ⟨k, hk, rfl, S3, B3⟩ := hrel
      by_cases hlt : k < n
      · have s2 : IntKind.i64.wrap ((k : Int) + 1) = (k : Int) + 1 := IntWalk.i64_in _ (by omega)
        have kd : (k : Int) < (n : Int) := by omega
        have hkl : k < ps.length := by rw [← HN.out]; exact hlt
        have A3 := A1.step B3.out
        have hle : k * 8 + 8 ≤ (fmY ps yz).size := by have := fmY_size ps yz; omega
        have hsl := fmY_at yz hkl (k := k * 8) rfl
        have hb8 := (fe z8 ps k).2
        have e3 := ones_sp HN.out.symm hlt
        change (fmY ps yz).extract (k * 8) (k * 8 + 8) = bl (fe z8 ps k).1 at hsl
        generalize (fe z8 ps k).1 = row at hb8 hsl e3
        have hz8 : (bl row).size = 8 := by rw [bl_size, hb8]
        have hsz : (slC (cpS n (ones ps) k)).size = n * 9 := by rw [slC_size (cpS_w (ones_w ps) n k), cpS_len (by rw [ones_len]; exact HN.out.symm) hk]
        have N3 := At.new wr (#[.bool false, .bool false, .bool false, .bool false, .bool false, .bool false, .bool false, .bool false]) 43
        have N4 := N3.setRow (bl row)
        have hS3 := S3.lt
        have S4 := (S3.alloc (.cells (#[.bool false, .bool false, .bool false, .bool false, .bool false, .bool false, .bool false, .bool false]) 43)).setRow_other (k := wr.heap.size) (by omega) (bl row)
        have B4 := Lib.hid (bset (bnew B3.out (.cells (#[.bool false, .bool false, .bool false, .bool false, .bool false, .bool false, .bool false, .bool false]) 43)) (g := wr.heap.size) (by have := B3.out.size; omega) (bl row))
        have S5 := S4.setRow (slC (cpS n (ones ps) (k + 1)))
        have B5 := Lib.hid (bset B4.out (g := w1.heap.size) (Nat.le_refl _) (slC (cpS n (ones ps) (k + 1))))
        have hbs := built_slot row hb8 1
        have s19 := sl1_size hb8 1
        have HE := Lib.hid e3
        clear e3 hkl hS3
        go_wp2_with (first
          | ((with_reducible refine is_load 43 _ rfl ?_); refine wpList_load_part rfl 43 _ rfl _ (k * 8) rfl (fmY ps yz) _ A3 8 hle _ Try.underlying43 rfl (by kernel_rfl) (bl row) hsl ?_)
          | ((with_reducible refine is_store 43 _ _ rfl ?_); refine wpList_store_at rfl 43 _ _ rfl _ rfl (bl row) rfl (#[.bool false, .bool false, .bool false, .bool false, .bool false, .bool false, .bool false, .bool false]) _ (by with_reducible assumption) 8 (hz8) (rfl) (by kernel_rfl) (bl_one _) ?_)
          | ((with_reducible refine is_load 43 _ rfl ?_); refine wpList_load_at rfl 43 _ rfl _ rfl (bl row) _ N4 8 (hz8) _ Try.underlying43 rfl (by kernel_rfl) ?_)
          | ((with_reducible refine is_bld 49 _ rfl ?_); refine wpList_bld rfl 49 _ rfl #[(0, .agg (bl row)), (1, .int .i64 1)] (by kernel_rfl) (sl1 row 1) hbs ?_)
          | ((with_reducible refine is_store 49 _ _ rfl ?_); refine wpList_store_part rfl 49 _ _ rfl _ (k * 9) rfl (sl1 row 1) rfl (slC (cpS n (ones ps) k)) _ S4 9 s19 (by rw [hsz]; omega) (by kernel_rfl) (sl1_one _ _) (slC (cpS n (ones ps) (k + 1))) HE.out ?_))
        exact ⟨⟨k + 1, by omega, by go_num, S5, B5⟩, by simp [intOf]; omega⟩
      · obtain rfl : n = k := by omega
        rw [cpS_all (by rw [ones_len]; exact HN.out.symm)] at S3
        have cn : wr.cell? ⟨w.heap.size + 1 + 1 + 1 + 1, 0, none⟩ = some (.int .i64 (n : Int)) := (N1.step B3.out).cell rfl
        have cc : wr.cell? ⟨w.heap.size + 1, 0, none⟩ = some (.int .i64 cy) := (C1.step B3.out).cell rfl
        have cb : wr.cell? ⟨w.heap.size + 1 + 1, 0, none⟩ = some (.int .i64 bt) := (R1.step B3.out).cell rfl
        go_wp2_with fail
        clear cn cc cb
        go_loopw [44] (fun i wr => ∃ j : Nat, j ≤ l ∧ i = .int .i64 (j : Int) ∧ At wr w1.heap.size (slC (shr ds (ones ps) j)) 49 ∧ Hid (Below w1.heap.size w1 wr)) (fun i _ => l - (intOf i).toNat)
        case atStart => exact ⟨0, by omega, rfl, S3, B3⟩
        case round =>
          clear S3 B3
          obtain ⟨j, hj, rfl, S3, B3⟩ := hrel
          by_cases hlt : j < l
          · have s2 : IntKind.i64.wrap ((j : Int) + 1) = (j : Int) + 1 := IntWalk.i64_in _ (by omega)
            have kd : (j : Int) < (l : Int) := by omega
            have hX := shr_facts ds (ps := ps) HZ.out j (by omega)
            have hXl : (shr ds (ones ps) j).length = n := by rw [shr_len, ones_len]; exact HN.out.symm
            have hb := bst_lt (ds := ds) (xs := shr ds (ones ps) j) n (by omega)
            have hE := Lib.hid (show inc (shr ds (ones ps) j) (bst ds (shr ds (ones ps) j) n) = shr ds (ones ps) (j + 1) from by
              show _ = inc _ (bst ds _ (ones ps).length)
              rw [ones_len, ← HN.out])
            have hT : ∀ i, i < (shr ds (ones ps) j).length → 1 ≤ st (shr ds (ones ps) j) i ∧ st (shr ds (ones ps) j) i ≤ 1048576 := fun i hi => by
              have := (hX.2 i (by rw [← HN.out, ← hXl]; exact hi)).2
              omega
            have hW := hX.1
            clear hX
            generalize shr ds (ones ps) j = X at S3 hXl hb hE hT hW
            have D3 := D1.step B3.out
            have KF := firstToGet_any w1.heap.size n X hW (by omega) (by omega) hT ds hl hd 49 wr S3
            have hbt := hT (bst ds X n) (by omega)
            have hbX : bst ds X n < X.length := by omega
            rw [hXl] at KF
            have hfs : (fl ds).size = 8 := by rw [fl_size, hl]
            go_wp2_with (((with_reducible refine is_load 24 _ rfl ?_); refine wpList_load_at rfl 24 _ rfl _ rfl (fl ds) _ D3 8 (hfs) _ Try.underlying24 rfl (by kernel_rfl) ?_))
            refine KF.mono ?_
            rintro e w4 ⟨rfl, hb4⟩
            have S4 := S3.step hb4
            have B4 := Lib.hid (B3.out.trans (hb4.mono B3.out.size))
            clear S3 B3 KF D3 hb4
            have c1 : w4.cell? ⟨w1.heap.size, bst ds X n * 9 + 8, none⟩ = some (.int .i64 (st X (bst ds X n))) := S4.cell (slC_ticks hW hbX rfl)
            have s3 : IntKind.i64.wrap (st X (bst ds X n) + 1) = st X (bst ds X n) + 1 := IntWalk.i64_in _ (by omega)
            have e4' := slC_inc hW hbX (by unfold I64; omega)
            rw [hE.out] at e4'
            have e4 := Lib.hid e4'
            have hsz := slC_size hW
            have S5 := S4.setRow (slC (shr ds (ones ps) (j + 1)))
            have B5 := Lib.hid (bset B4.out (g := w1.heap.size) (Nat.le_refl _) (slC (shr ds (ones ps) (j + 1))))
            clear e4'
            have hbn : ((bst ds X n : Nat) : Int) < (n : Int) := by omega
            clear hE
            generalize bst ds X n = q at *
            generalize hY : slC (shr ds (ones ps) (j + 1)) = Y at *
            have HY := Lib.hid hY
            clear hY
            go_wp2_with (((with_reducible refine is_store 2 _ _ rfl ?_); refine wpList_store_cell rfl 2 _ _ rfl _ (q * 9 + 8) rfl (.int .i64 (st X q + 1)) rfl (slC X) _ S4 (by omega) (by kernel_rfl) rfl Y e4.out ?_))
            exact ⟨⟨j + 1, by omega, by go_num, by rw [HY.out]; exact S5, B5⟩, by simp [intOf]; omega⟩
          · obtain rfl : l = j := by omega
            have hW := (shr_facts ds (ps := ps) HZ.out l (by omega)).1
            have hXl : (shr ds (ones ps) l).length = n := by rw [shr_len, ones_len]; exact HN.out.symm
            have HV := Lib.hid (show vShg ps ds cy bt = (shr ds (ones ps) l, bt, 0, 0) from by rw [hv.out])
            have O3 := OwnSl.of_at S3 hW (lo := w.heap.size) (by omega) (by omega)
            rw [hXl] at O3
            generalize shr ds (ones ps) l = X at S3 O3 HV
            obtain ⟨S, hS⟩ : ∃ S, S = w1.heap.size := ⟨_, rfl⟩
            rw [← hS] at S3 O3
            have cb : wr.cell? ⟨w.heap.size + 1 + 1, 0, none⟩ = some (.int .i64 bt) := (R1.step B3.out).cell rfl
            have Z3 := Z1.step B3.out
            have R9 := Z3.setRow (plC (.slice (some ⟨S, 0, none⟩) n n) bt 0)
            have O9 := O3.setRow_other (g := w.heap.size + 1 + 1 + 1) (fun q hq => by have : q = S := (by simpa [Value.ownBlock] using hq.symm); omega) (plC (.slice (some ⟨S, 0, none⟩) n n) bt 0)
            have B9 := Lib.hid (bset (B1.out.trans (B3.out.mono (by omega))) (g := w.heap.size + 1 + 1 + 1) (by omega) (plC (.slice (some ⟨S, 0, none⟩) n n) bt 0))
            go_wp2_with (first
              | ((with_reducible refine is_bld 28 _ rfl ?_); refine wpList_bld rfl 28 _ rfl #[(0, .slice (some ⟨w1.heap.size, 0, none⟩) n n), (1, .int .i64 bt)] (by kernel_rfl) _ (built_plan _ _ _ _) ?_)
              | ((with_reducible refine is_store 28 _ _ rfl ?_); refine wpList_store_at rfl 28 _ _ rfl _ rfl (plC (.slice (some ⟨w1.heap.size, 0, none⟩) n n) bt 0) rfl (plC (.slice none 0 0) 0 0) _ Z3 3 (plC_size _ _ _) (plC_size _ _ _) (by kernel_rfl) (pl_one _ (sl_one _ _ _) _ _) ?_))
            rw [← hS]
            exact bodyPost_ret (v := .tuple #[.agg (plC (.slice (some ⟨S, 0, none⟩) n n) bt 0), .int .i64 0]) (results_at_tmp (p := 8) (ty := 28) rfl _ _ _ (plC (.slice (some ⟨S, 0, none⟩) n n) bt 0) _ (.int .i64 0) rfl rfl R9 _ Try.underlying28 rfl 3 (plC_size _ _ _) (by kernel_rfl)) rfl ⟨⟨_, by rw [HV.out], by rw [HV.out]; exact O9⟩, B9.out⟩
  · have hv := Lib.hid (vShg_no hg)
    rw [gC_no hg] at KR
    clear hg
    go_enter Try.func9, Try.ntmps9
    go_wp2_with fail
    refine KR.mono ?_
    rintro e w1 ⟨rfl, hb1⟩
    have R1 := Z0.step hb1
    have B1 := Lib.hid (bthen B0.out hb1)
    clear D0 C0 R0 Z0 N0 A1 B0 hb1 KR A0
    have R9 := R1.setRow (plC (.slice none 0 0) 0 0)
    have B9 := Lib.hid (bset B1.out (g := w.heap.size + 1 + 1 + 1) (by omega) (plC (.slice none 0 0) 0 0))
    go_wp2_with (((with_reducible refine is_store 28 _ _ rfl ?_); refine wpList_store_at rfl 28 _ _ rfl _ rfl (plC (.slice none 0 0) 0 0) rfl (plC (.slice none 0 0) 0 0) _ (by with_reducible assumption) 3 (plC_size _ _ _) (plC_size _ _ _) (by kernel_rfl) (pl_one _ rfl _ _) ?_))
    exact bodyPost_ret (v := .tuple #[.agg (plC (.slice none 0 0) 0 0), .int .i64 2]) (results_at_tmp (p := 8) (ty := 28) rfl _ _ _ (plC (.slice none 0 0) 0 0) _ (.int .i64 2) rfl rfl R9 _ Try.underlying28 rfl 3 (plC_size _ _ _) (by kernel_rfl)) rfl ⟨⟨_, by rw [hv.out], by rw [hv.out]; exact OwnSl.nil _ _⟩, B9.out⟩

end Go.Proofs.Ytlpbehokcogcpaa

/-
  CONTRACTS: the bytes that the drawn laws choose by, wherever they lie.
-/
namespace Go.Proofs.Ytlpbehokcogcpaa
open Go Go.RowKit
set_option maxRecDepth 100000

/-- a cell of whatever plain type, in whatever world of the class -/
theorem q_oneY {P : Program} {W : World} {o : Oper} {a : Act} {K : Act → Prop} {g : Nat} {c : Array Value} {T : TypeId} (ty : TypeId) (x : Operand) (ho : o.op = .load ty x) (d : TypeDesc) (hu : P.underlying ty = some d)
    (hd : (match d with | .struct _ | .array _ _ => true | _ => false) = false) (k : Nat) (hx : a.eval x = .pointer (some ⟨g, k, none⟩)) (hA : At W g c T) (v : Value) (hk : c[k]? = some v) (hK : K (a.put o.dst v)) : o.quiet P a (Cb W) K :=
  q_load ty x ho _ hx v (fun w hw => run_load_one w ty d hu hd _ v (At.cell (At.step hA hw) hk)) hK

/-- nothing has turned but the block g -/
structure Only (g : Nat) (w w' : World) : Prop where
  below : Below g w w'
  rest : ∀ i, i < w.heap.size → i ≠ g → w'.heap[i]? = w.heap[i]?

theorem Only.refl (g : Nat) (w : World) : Only g w w := ⟨Below.refl _ _, fun _ _ _ => rfl⟩

theorem Only.step {g : Nat} {w w1 w2 : World} (h : Only g w w1) (hg : g ≤ w.heap.size) (k : Below w1.heap.size w1 w2) : Only g w w2 :=
  ⟨h.below.trans (k.mono (Nat.le_trans hg h.below.size)), fun i hi hn => (k.block i (Nat.lt_of_lt_of_le hi h.below.size)).trans (h.rest i hi hn)⟩

theorem Only.set {g : Nat} {w w1 : World} (h : Only g w w1) (c : Array Value) : Only g w (w1.setRow g c) :=
  ⟨bset h.below (Nat.le_refl _) c, fun i hi hn => (heap_setRow_other _ _ _ _ (by omega)).trans (h.rest i hi hn)⟩

theorem Only.at {g i : Nat} {w w' : World} {c : Array Value} {T : TypeId} (h : Only g w w') (hA : At w i c T) (hn : i ≠ g) : At w' i c T := (h.rest i hA.lt hn).trans hA

/-- the cells of a source: the bytes, the place, the seed -/
def srcC (ad : Option Addr) (n c k : Nat) (sd : Int) : Array Value := #[.slice ad n c, .int .i64 k, .int .u64 sd]

/-- the byte of a turn (0 behind the end) -/
def byteAt (bs : List Nat) (k : Nat) : Nat := bs.getD k 0

/-- a slice of bytes that came in: where it lies, what it holds -/
structure BSl (w : World) (ad : Option Addr) (bs : List Nat) : Prop where
  val : bs = [] ∨ ∃ g off, ad = some ⟨g, off, none⟩ ∧ g < w.heap.size ∧ ∀ i, i < bs.length → w.cell? ⟨g, off + i, none⟩ = some (.int .u8 (byteAt bs i : Nat))
  lt : ∀ b ∈ bs, b < 256
  len : bs.length ≤ maxLen

theorem BSl.keep {w w' : World} {ad : Option Addr} {bs : List Nat} (h : BSl w ad bs) (hb : ∀ g, g < w.heap.size → w'.heap[g]? = w.heap[g]?) (hs : w.heap.size ≤ w'.heap.size) : BSl w' ad bs := by
  refine ⟨h.val.imp id ?_, h.lt, h.len⟩
  rintro ⟨g, off, rfl, hg, hc⟩
  refine ⟨g, off, rfl, Nat.lt_of_lt_of_le hg hs, fun i hi => ?_⟩
  rw [← hc i hi]
  unfold World.cell?
  rw [hb g hg]

theorem BSl.step {B : Nat} {w w' : World} {ad : Option Addr} {bs : List Nat} (h : BSl w ad bs) (hb : Below B w w') (hB : w.heap.size ≤ B) : BSl w' ad bs :=
  h.keep (fun g hg => hb.block g (by omega)) hb.size

/-- a plain cell read, in whatever world of the class -/
theorem q_byte {P : Program} {W : World} {o : Oper} {a : Act} {K : Act → Prop} (ty : TypeId) (x : Operand) (ho : o.op = .load ty x) (d : TypeDesc) (hu : P.underlying ty = some d)
    (hd : (match d with | .struct _ | .array _ _ => true | _ => false) = false) (g k : Nat) (hx : a.eval x = .pointer (some ⟨g, k, none⟩)) (v : Value) (hk : W.cell? ⟨g, k, none⟩ = some v) (hg : g < W.heap.size) (hK : K (a.put o.dst v)) : o.quiet P a (Cb W) K :=
  q_load ty x ho _ hx v (fun w hw => run_load_one w ty d hu hd _ v (by rw [← hk]; unfold World.cell?; rw [Below.block hw g hg])) hK

/-- the next seed -/
def seedOf (sd b : Int) : Int := IntKind.u64.wrap (IntKind.u64.wrap (IntKind.u64.wrap (sd * 6364136223846793005) + IntKind.u64.wrap b) + 1442695040888963407)

def seedOf0 (sd : Int) : Int := IntKind.u64.wrap (IntKind.u64.wrap (IntKind.u64.wrap (sd * 6364136223846793005)) + 1442695040888963407)

theorem seedOf_zero (sd : Int) : seedOf sd 0 = seedOf0 sd := by
  unfold seedOf seedOf0
  rw [show IntKind.u64.wrap 0 = 0 from rfl, Int.add_zero]

/-- what comes next -/
def nextV (bs : List Nat) (k : Nat) (sd : Int) : Int := if k < bs.length then (byteAt bs k : Nat) else wrap64 (bits .and .u64 (seedOf sd 0 / 1099511627776) 255)

theorem byte_lt {bs : List Nat} (h : ∀ b ∈ bs, b < 256) (j : Nat) : byteAt bs j < 256 := by
  unfold byteAt
  rcases Nat.lt_or_ge j bs.length with c | c
  · rw [List.getD, List.getElem?_eq_getElem c]; exact h _ (List.getElem_mem c)
  · rw [List.getD, List.getElem?_eq_none c]; decide

theorem next_b (g : Nat) (ad : Option Addr) (cp k : Nat) (bs : List Nat) (sd : Int) (w : World) (hk : k < 4611686018427387904) (h8 : ∀ b ∈ bs, b < 256) (hA : At w g (srcC ad bs.length cp k sd) 81) (hC : BSl w ad bs) :
    Calls Try.prog 45 #[.pointer (some ⟨g, 0, none⟩)] w fun e w' => e = .returned (.int .i64 (nextV bs k sd)) ∧ Only g w w' ∧ At w' g (srcC ad bs.length cp (k + 1) (seedOf sd (byteAt bs k))) 81 := by
  go_enter Try.func45, Try.ntmps45
  by_cases hlt : (k : Int) < (bs.length : Int)
  · obtain ⟨gc, off, rfl, hgc, hcell⟩ : ∃ gc off, ad = some ⟨gc, off, none⟩ ∧ gc < w.heap.size ∧ ∀ i, i < bs.length → w.cell? ⟨gc, off + i, none⟩ = some (.int .u8 (byteAt bs i : Nat)) := by
      rcases hC.val with rfl | h
      · simp at hlt; omega
      · exact h
    have hb := hcell k (by omega)
    go_wp2_with fail
    have hCb := Cb.const w
    refine wp_region_cb (by kernel_rfl) (by kernel_rfl) ?_
    repeat (first
      | go_big_quiet_skip
      | (go_big_quiet_want; first
        | (refine q_oneY 3 _ rfl _ Try.underlying3 rfl 1 rfl hA (.int .i64 k) rfl ?_; go_simp; go_big_quiet_on)
        | (refine q_oneY 39 _ rfl _ Try.underlying39 rfl 0 rfl hA (.slice (some ⟨gc, off, none⟩) bs.length cp) rfl ?_; go_simp; go_big_quiet_on)
        | (go_big_quiet_op; go_big_quiet_on)))
    refine wpQuiet_nil ?_
    intro w1 hw1
    have A1 := hA.step hw1
    have hb1 : w1.cell? ⟨gc, off + k, none⟩ = some (.int .u8 (byteAt bs k : Nat)) := by rw [← hb]; unfold World.cell?; rw [Below.block hw1 gc hgc]
    have hgc1 : gc < w1.heap.size := Nat.lt_of_lt_of_le hgc (Below.size hw1)
    have hc1 := Cb.const w1
    go_wp2_with fail
    refine wp_region_cb (by kernel_rfl) (by kernel_rfl) ?_
    repeat (first
      | go_big_quiet_skip
      | (go_big_quiet_want; first
        | (refine q_oneY 3 _ rfl _ Try.underlying3 rfl 1 rfl A1 (.int .i64 k) rfl ?_; go_simp; go_big_quiet_on)
        | (refine q_oneY 39 _ rfl _ Try.underlying39 rfl 0 rfl A1 (.slice (some ⟨gc, off, none⟩) bs.length cp) rfl ?_; go_simp; go_big_quiet_on)
        | (refine q_byte 5 _ rfl _ Try.underlying5 rfl gc (off + k) rfl (.int .u8 (byteAt bs k : Nat)) hb1 hgc1 ?_; go_simp; go_big_quiet_on)
        | (go_big_quiet_op; go_big_quiet_on)))
    refine wpQuiet_nil ?_
    intro w2 hw2
    rw [show wrap64 ((byteAt bs k : Nat) : Int) = (byteAt bs k : Nat) from by have := byte_lt h8 k; unfold wrap64; omega]
    have A2 := A1.step hw2
    have A3 := A2.setRow (srcC (some ⟨gc, off, none⟩) bs.length cp (k + 1) sd)
    go_wp2_with (first | ((with_reducible refine is_load 3 _ rfl ?_); refine wpList_load_cell rfl 3 _ rfl _ _ rfl (srcC (some ⟨gc, off, none⟩) bs.length cp k sd) _ A2 _ Try.underlying3 rfl (.int .i64 k) rfl ?_) | ((with_reducible refine is_store 3 _ _ rfl ?_); refine wpList_store_cell rfl 3 _ _ rfl _ _ rfl (.int .i64 ((k + 1 : Nat) : Int)) rfl (srcC (some ⟨gc, off, none⟩) bs.length cp k sd) _ A2 (by simp [srcC]) (by kernel_rfl) rfl (srcC (some ⟨gc, off, none⟩) bs.length cp (k + 1) sd) rfl ?_) | ((with_reducible refine is_load 79 _ rfl ?_); refine wpList_load_cell rfl 79 _ rfl _ _ rfl (srcC (some ⟨gc, off, none⟩) bs.length cp (k + 1) sd) _ A3 _ Try.underlying79 rfl (.int .u64 sd) rfl ?_) | ((with_reducible refine is_store 79 _ _ rfl ?_); refine wpList_store_cell rfl 79 _ _ rfl _ _ rfl (.int .u64 (seedOf sd (byteAt bs k))) rfl (srcC (some ⟨gc, off, none⟩) bs.length cp (k + 1) sd) _ A3 (by simp [srcC]) (by kernel_rfl) rfl (srcC (some ⟨gc, off, none⟩) bs.length cp (k + 1) (seedOf sd (byteAt bs k))) rfl ?_))
    go_simp
    have A4 := A3.setRow (srcC (some ⟨gc, off, none⟩) bs.length cp (k + 1) (seedOf sd (byteAt bs k)))
    have B4 : Only g w ((w2.setRow g (srcC (some ⟨gc, off, none⟩) bs.length cp (k + 1) sd)).setRow g (srcC (some ⟨gc, off, none⟩) bs.length cp (k + 1) (seedOf sd (byteAt bs k)))) := ((((Only.refl g w).step (Nat.le_of_lt hA.lt) hw1).step (Nat.le_of_lt hA.lt) hw2).set _).set _
    generalize (w2.setRow g (srcC (some ⟨gc, off, none⟩) bs.length cp (k + 1) sd)).setRow g (srcC (some ⟨gc, off, none⟩) bs.length cp (k + 1) (seedOf sd (byteAt bs k))) = w4 at A4 B4 ⊢
    clear A3 A2
    have hc4 := Cb.const w4
    have hle : (k : Int) + 1 ≤ (bs.length : Int) := by omega
    refine wp_region_cb (by kernel_rfl) (by kernel_rfl) ?_
    repeat (first
      | go_big_quiet_skip
      | (go_big_quiet_want; first
        | (refine q_oneY 3 _ rfl _ Try.underlying3 rfl 1 rfl A4 (.int .i64 ((k + 1 : Nat) : Int)) rfl ?_; go_simp; go_big_quiet_on)
        | (refine q_oneY 39 _ rfl _ Try.underlying39 rfl 0 rfl A4 (.slice (some ⟨gc, off, none⟩) bs.length cp) rfl ?_; go_simp; go_big_quiet_on)
        | (go_big_quiet_op; go_big_quiet_on)))
    refine wpQuiet_nil ?_
    intro w5 hw5
    have A5 := A4.step hw5
    go_wp2_with fail
    go_ret
    exact ⟨by rw [nextV, if_pos (by omega)]; rfl, B4.step (Nat.le_of_lt hA.lt) hw5, A5⟩
  · have hb0 : byteAt bs k = 0 := by unfold byteAt; rw [List.getD, List.getElem?_eq_none (by omega)]; rfl
    go_wp2_with fail
    have hCb := Cb.const w
    refine wp_region_cb (by kernel_rfl) (by kernel_rfl) ?_
    repeat (first
      | go_big_quiet_skip
      | (go_big_quiet_want; first
        | (refine q_oneY 3 _ rfl _ Try.underlying3 rfl 1 rfl hA (.int .i64 k) rfl ?_; go_simp; go_big_quiet_on)
        | (refine q_oneY 39 _ rfl _ Try.underlying39 rfl 0 rfl hA (.slice ad bs.length cp) rfl ?_; go_simp; go_big_quiet_on)
        | (go_big_quiet_op; go_big_quiet_on)))
    refine wpQuiet_nil ?_
    intro w1 hw1
    have A1 := hA.step hw1
    have A3 := A1.setRow (srcC ad bs.length cp (k + 1) sd)
    go_wp2_with (first | ((with_reducible refine is_load 3 _ rfl ?_); refine wpList_load_cell rfl 3 _ rfl _ _ rfl (srcC ad bs.length cp k sd) _ A1 _ Try.underlying3 rfl (.int .i64 k) rfl ?_) | ((with_reducible refine is_store 3 _ _ rfl ?_); refine wpList_store_cell rfl 3 _ _ rfl _ _ rfl (.int .i64 ((k + 1 : Nat) : Int)) rfl (srcC ad bs.length cp k sd) _ A1 (by simp [srcC]) (by kernel_rfl) rfl (srcC ad bs.length cp (k + 1) sd) rfl ?_) | ((with_reducible refine is_load 79 _ rfl ?_); refine wpList_load_cell rfl 79 _ rfl _ _ rfl (srcC ad bs.length cp (k + 1) sd) _ A3 _ Try.underlying79 rfl (.int .u64 sd) rfl ?_) | ((with_reducible refine is_store 79 _ _ rfl ?_); refine wpList_store_cell rfl 79 _ _ rfl _ _ rfl (.int .u64 (seedOf0 sd)) rfl (srcC ad bs.length cp (k + 1) sd) _ A3 (by simp [srcC]) (by kernel_rfl) rfl (srcC ad bs.length cp (k + 1) (seedOf0 sd)) rfl ?_))
    go_simp
    have A4 := A3.setRow (srcC ad bs.length cp (k + 1) (seedOf0 sd))
    have B4 : Only g w ((w1.setRow g (srcC ad bs.length cp (k + 1) sd)).setRow g (srcC ad bs.length cp (k + 1) (seedOf0 sd))) := (((Only.refl g w).step (Nat.le_of_lt hA.lt) hw1).set _).set _
    generalize (w1.setRow g (srcC ad bs.length cp (k + 1) sd)).setRow g (srcC ad bs.length cp (k + 1) (seedOf0 sd)) = w4 at A4 B4 ⊢
    clear A3 A1
    have hc4 := Cb.const w4
    have hle : (bs.length : Int) < (k : Int) + 1 := by omega
    refine wp_region_cb (by kernel_rfl) (by kernel_rfl) ?_
    repeat (first
      | go_big_quiet_skip
      | (go_big_quiet_want; first
        | (refine q_oneY 3 _ rfl _ Try.underlying3 rfl 1 rfl A4 (.int .i64 ((k + 1 : Nat) : Int)) rfl ?_; go_simp; go_big_quiet_on)
        | (refine q_oneY 39 _ rfl _ Try.underlying39 rfl 0 rfl A4 (.slice ad bs.length cp) rfl ?_; go_simp; go_big_quiet_on)
        | (go_big_quiet_op; go_big_quiet_on)))
    refine wpQuiet_nil ?_
    intro w5 hw5
    have A5 := A4.step hw5
    go_wp2_with ((with_reducible refine is_load 79 _ rfl ?_); refine wpList_load_cell rfl 79 _ rfl _ _ rfl (srcC ad bs.length cp (k + 1) (seedOf0 sd)) _ A5 _ Try.underlying79 rfl (.int .u64 (seedOf0 sd)) rfl ?_)
    go_ret
    rw [hb0, show ((0 : Nat) : Int) = 0 from rfl, seedOf_zero]
    exact ⟨by rw [nextV, if_neg (by omega), seedOf_zero]; rfl, B4.step (Nat.le_of_lt hA.lt) hw5, A5⟩

theorem seedOf_lo (sd b : Int) : 0 ≤ seedOf sd b ∧ seedOf sd b < 18446744073709551616 := by
  unfold seedOf
  generalize IntKind.u64.wrap (IntKind.u64.wrap (sd * 6364136223846793005) + IntKind.u64.wrap b) + 1442695040888963407 = x
  rw [IntKind.wrap_u64]
  omega

theorem bits_u64_63 (n : Int) (h₀ : 0 ≤ n) (h₁ : n < 2 ^ 63) : IntKind.u64.wrap n = n := by rw [IntKind.wrap_u64]; omega

theorem nextV_in {bs : List Nat} (h8 : ∀ b ∈ bs, b < 256) (k : Nat) (sd : Int) : 0 ≤ nextV bs k sd ∧ nextV bs k sd < 256 := by
  unfold nextV
  split
  · have := byte_lt h8 k; omega
  · obtain ⟨h1, h2⟩ := seedOf_lo sd 0
    have h := bits_mask .u64 63 (by decide) bits_u64_63 8 (by decide) (seedOf sd 0 / 1099511627776) (by omega) (by omega)
    rw [show ((2 : Int) ^ 8 - 1) = 255 by decide, show ((2 : Int) ^ 8) = 256 by decide] at h
    rw [h]
    unfold wrap64
    omega

/-- a number from 0 to n - 1 -/
def pickV (bs : List Nat) (k : Nat) (sd n : Int) : Int := if n ≤ 1 then 0 else nextV bs k sd % n

def pickK (k : Nat) (n : Int) : Nat := if n ≤ 1 then k else k + 1

def pickS (bs : List Nat) (k : Nat) (sd n : Int) : Int := if n ≤ 1 then sd else seedOf sd (byteAt bs k)

theorem pick_b (g : Nat) (ad : Option Addr) (cp k : Nat) (bs : List Nat) (sd n : Int) (w : World) (hk : k < 4611686018427387904) (h8 : ∀ b ∈ bs, b < 256) (hn : n ≤ 200) (hA : At w g (srcC ad bs.length cp k sd) 81) (hC : BSl w ad bs) :
    Calls Try.prog 34 #[.pointer (some ⟨g, 0, none⟩), .int .i64 n] w fun e w' => e = .returned (.int .i64 (pickV bs k sd n)) ∧ Only g w w' ∧ At w' g (srcC ad bs.length cp (pickK k n) (pickS bs k sd n)) 81 := by
  go_enter Try.func34, Try.ntmps34
  by_cases h1 : n ≤ 1
  · go_wp2
    go_ret
    exact ⟨by rw [pickV, if_pos h1]; rfl, Only.refl _ _, by rw [pickK, pickS, if_pos h1, if_pos h1]; exact hA⟩
  · obtain ⟨v0, v1⟩ := nextV_in h8 k sd
    go_wp2_with (go_at_call 45; refine (next_b g ad cp k bs sd _ hk h8 hA hC).mono ?_; rintro e w1 ⟨rfl, B1, A1⟩)
    go_ret
    exact ⟨by rw [pickV, if_neg (by omega)]; rfl, B1, by rw [pickK, pickS, if_neg (by omega), if_neg (by omega)]; exact A1⟩

/-- a source is made of bytes that lie somewhere -/
theorem l00From_b (ad : Option Addr) (cp : Nat) (bs : List Nat) (w : World) :
    Calls Try.prog 33 #[.slice ad bs.length cp] w fun e w' => e = .returned (.pointer (some ⟨w.heap.size, 0, none⟩)) ∧ Below w.heap.size w w' ∧ At w' w.heap.size (srcC ad bs.length cp 0 0) 81 := by
  have A0 := At.new w (srcC ad bs.length cp 0 0) 81
  go_enter Try.func33, Try.ntmps33
  go_wp2
  go_ret
  exact ⟨rfl, b0 _ _, A0⟩

/-- what a byte row chooses first -/
def pick1 (bs : List Nat) (n : Int) : Int := pickV bs 0 0 n

theorem pick1_in {bs : List Nat} (h8 : ∀ b ∈ bs, b < 256) {n : Int} (h : 1 < n) : 0 ≤ pick1 bs n ∧ pick1 bs n < n := by
  have := nextV_in h8 0 0
  unfold pick1 pickV
  rw [if_neg (by omega)]
  exact ⟨Int.emod_nonneg _ (by omega), Int.emod_lt_of_pos _ (by omega)⟩

theorem P6Pick_b (ad : Option Addr) (cp : Nat) (bs : List Nat) (n : Int) (w : World) (h8 : ∀ b ∈ bs, b < 256) (hn : n ≤ 200) (hC : BSl w ad bs) :
    Calls Try.prog 16 #[.slice ad bs.length cp, .int .i64 n] w fun e w' => e = .returned (.int .i64 (pick1 bs n)) ∧ Below w.heap.size w w' := by
  go_enter Try.func16, Try.ntmps16
  go_wp2_with (go_at_call 33; refine (l00From_b ad cp bs _).mono ?_; rintro e w1 ⟨rfl, B1, A1⟩)
  have C1 := hC.step B1 (Nat.le_refl _)
  go_wp2_with (go_at_call 34; refine (pick_b _ ad cp 0 bs 0 n _ (by omega) h8 hn A1 C1).mono ?_; rintro e w2 ⟨rfl, B2, A2⟩)
  go_ret
  exact ⟨rfl, B1.trans B2.below⟩
end Go.Proofs.Ytlpbehokcogcpaa

/-
  CONTRACTS: a byte laid ahead of the bytes that came in.
-/
namespace Go.Proofs.Ytlpbehokcogcpaa
open Go Go.ChangeShapes Go.WideShapes Go.ChangeAt Go.RowKit Go.Deep
set_option maxRecDepth 100000

theorem run_oneY (W : World) (b : Int) : (Instr.buildSlice 39 1 #[(0, .int .u8 b)]).run Try.prog W = .ok (.slice (some ⟨W.heap.size, 0, none⟩) 1 1) (W.alloc (.cells #[.int .u8 b] 5)) := by kernel_rfl

theorem info_byte : ∃ i : TypeInfo, Try.prog.info? 5 = some i ∧ i.zero = some (.int .u8 0) ∧ i.size = 1 ∧ i.bytes = 1 := by
  have hi : (Try.prog.info? 5).map (fun i => (i.zero, i.size, i.bytes)) = some (some (.int .u8 0), 1, 1) := by kernel_rfl
  obtain ⟨i, h1, h2, h3, h4⟩ := info_parts hi
  exact ⟨i, h1, h2, h3, h4⟩

/-- the cells of bytes -/
def byL (bs : List Nat) : List Value := bs.map fun (b : Nat) => Value.int .u8 (b : Int)

theorem byL_at {bs : List Nat} {i : Nat} (h : i < bs.length) : (byL bs)[i]? = some (.int .u8 (byteAt bs i : Nat)) := by
  unfold byL byteAt
  rw [List.getElem?_map, List.getElem?_eq_getElem h, List.getD, List.getElem?_eq_getElem h]
  rfl

theorem addr_add (g off j : Nat) : (⟨g, off, none⟩ : Addr).add j = ⟨g, off + j, none⟩ := by
  unfold Addr.add
  by_cases z : j = 0
  · subst z; rfl
  · rw [if_neg z]

theorem BSl.of_own {w : World} {lo : Nat} {v : Value} {bs : List Nat} (h : w.ownsRow lo 5 1 v bs.length (byL bs)) (hn : bs.length ≠ 0) (hb : ∀ b ∈ bs, b < 256) (hm : bs.length ≤ maxLen) : ∃ ad cp, v = .slice ad bs.length cp ∧ BSl w ad bs ∧ (ad = none → cp = 0) := by
  rcases h.2 with ⟨-, h0⟩ | ⟨g, cap, cur, rfl, h1, h2, h3, h4, h5, h6⟩
  · exact absurd h0 hn
  · refine ⟨_, cap, rfl, ⟨.inr ⟨g, 0, rfl, (Array.getElem?_eq_some_iff.1 h2).1, fun i hi => ?_⟩, hb, hm⟩, fun e => by cases e⟩
    have hA : At w g cur 5 := h2
    rw [Nat.zero_add]
    refine hA.cell ?_
    rw [← byL_at hi, ← h6, List.getElem?_take_of_lt (by omega), Array.getElem?_toList]

/-- a byte laid ahead of bytes that came in -/
theorem wpList_app_bytes {w : World} {ops : Array Oper} {rest : List Oper} {o : Oper} {a : Act} {Q : Exit → Act → World → Prop} (hg : o.guard = none) (s x : Operand) (ho : o.op = .call { callee := .builtin .append, args := #[s, x], argTypes := #[39, 39] })
    (ad : Option Addr) (cp : Nat) (bs : List Nat) (hC : BSl w ad bs) (hnil : ad = none → cp = 0) (hlen : bs.length ≤ 4096) (b : Nat) (hb : b < 256) (g : Nat) (hA : At w g #[.int .u8 (b : Int)] 5)
    (hs : a.eval s = .slice (some ⟨g, 0, none⟩) 1 1) (hx : a.eval x = .slice ad bs.length cp)
    (h : ∀ ad' cp' w', BSl w' ad' (b :: bs) → (ad' = none → cp' = 0) → Below g w w' → wpList Try.prog ops Q rest (a.put o.dst (.slice ad' (b :: bs).length cp')) w') : wpList Try.prog ops Q (o :: rest) a w := by
  obtain ⟨i0, hi, hz0, hz1, hz2⟩ := info_byte
  have hown : w.ownsRow g 5 1 (.slice (some ⟨g, 0, none⟩) 1 1) 1 (byL [b]) := ⟨rfl, .inr ⟨g, 1, _, rfl, Nat.le_refl _, hA, Nat.le_refl _, by unfold maxLen; omega, rfl, rfl⟩⟩
  have hall : ∀ y ∈ b :: bs, y < 256 := fun y hy => by
    rcases List.mem_cons.1 hy with rfl | hy
    · exact hb
    · exact hC.lt y hy
  have hl1 : (b :: bs).length ≤ maxLen := by unfold maxLen; simp; omega
  have hgw := hA.lt
  cases ad with
  | none =>
    obtain rfl : bs = [] := by
      rcases hC.val with e | ⟨g', off, e, -⟩
      · exact e
      · cases e
    obtain rfl := hnil rfl
    refine wpList_append_own_none hg s x 39 ho g 5 i0 1 Try.underlying39 hi _ 1 _ hs hown hx ?_
    obtain ⟨ad', cp', e, h1, h2⟩ := BSl.of_own (bs := [b]) hown (by simp) hall hl1
    have := h ad' cp' w h1 h2 (Below.refl _ _)
    rw [e]
    exact this
  | some ad0 =>
    have hcells : ∀ j u, (byL bs)[j]? = some u → w.cell? (ad0.add j) = some u := by
      intro j u hj
      have hjl : j < bs.length := by
        have := (List.getElem?_eq_some_iff.1 hj).1
        simpa [byL] using this
      rcases hC.val with e | ⟨g', off, e, -, hc⟩
      · subst e; simp at hjl
      · obtain rfl := Option.some.inj e
        rw [addr_add, hc j hjl, ← byL_at hjl]
        exact hj
    refine wpList_append_own w hg s x 39 ho g 5 i0 (.int .u8 0) 1 1 Try.underlying39 hi hz0 hz1 hz2 rfl (by decide) _ 1 _ hs hown ad0 bs.length cp (byL bs) hx (by simp [byL]) hcells (fun u hu => by
      obtain ⟨y, -, rfl⟩ := List.mem_map.1 hu
      rfl) (by unfold maxLen; omega) (by omega) (Nat.le_of_lt hgw) ?_
    intro v' w' hown' hgrow _
    have hown2 : w'.ownsRow g 5 1 v' (b :: bs).length (byL (b :: bs)) := by
      have e : (b :: bs).length = 1 + bs.length := by simp; omega
      rw [e]
      exact hown'
    obtain ⟨ad', cp', rfl, h1, h2⟩ := BSl.of_own hown2 (by simp) hall hl1
    exact h ad' cp' w' h1 h2 ⟨hgrow.os, hgrow.tape, hgrow.output, hgrow.size, fun k hk => hgrow.block k (by omega) (fun e => by have : k = g := by simpa [Value.ownBlock] using e
                                                                                                                                omega)⟩

end Go.Proofs.Ytlpbehokcogcpaa

/-
  CONTRACTS: slices of phases of one's own.
-/
namespace Go.Proofs.Ytlpbehokcogcpaa
open Go Go.ChangeShapes Go.WideShapes Go.ChangeAt Go.RowKit Go.Deep
set_option maxRecDepth 100000

/-- cells of phases, as a list -/
def phL (ps : List P8) : List Value := (fm f8 ps).toList

theorem phL_length (ps : List P8) : (phL ps).length = ps.length * 8 := by unfold phL; rw [Array.length_toList, fm_size f8_size]

theorem phL_app (ps : List P8) (p : P8) : phL (ps ++ [p]) = phL ps ++ (f8 p).toList := by unfold phL fm; simp

/-- v is a slice of the phases ps, in memory from block lo on -/
def OwnPh (w : World) (lo : Nat) (v : Value) (ps : List P8) : Prop := w.ownsRow lo 43 8 v ps.length (phL ps)

section

variable {w w' : World} {lo : Nat} {v : Value} {ps : List P8}

theorem OwnPh.step (h : OwnPh w lo v ps) (hb : Below w.heap.size w w') : OwnPh w' lo v ps := by
  refine ⟨h.1, h.2.imp id ?_⟩
  rintro ⟨g, cap, cur, rfl, h1, h2, h3, h4, h5, h6⟩
  have hl : g < w.heap.size := (Array.getElem?_eq_some_iff.1 h2).1
  exact ⟨g, cap, cur, rfl, h1, (hb.block g hl).trans h2, h3, h4, h5, h6⟩

theorem OwnPh.any (h : OwnPh w lo v ps) : ∃ a cap, v = .slice a ps.length cap := by
  rcases h.2 with ⟨rfl, e⟩ | ⟨g, cap, cur, rfl, -⟩
  · exact ⟨none, 0, by rw [e]⟩
  · exact ⟨_, cap, rfl⟩

theorem OwnPh.block (h : OwnPh w lo v ps) : ∀ k, v.ownBlock = some k → lo ≤ k ∧ k < w.heap.size := by
  intro k hk
  rcases h.2 with ⟨rfl, -⟩ | ⟨g, cap, cur, rfl, h1, h2, -⟩
  · cases hk
  · have e : g = k := by simpa [Value.ownBlock] using hk
    have hl : g < w.heap.size := (Array.getElem?_eq_some_iff.1 h2).1
    omega

theorem OwnPh.atY (h : OwnPh w lo v ps) (hn : ps.length ≠ 0) : ∃ g cap yz, v = .slice (some ⟨g, 0, none⟩) ps.length cap ∧ lo ≤ g ∧ At w g (fmY ps yz) 43 := by
  rcases h.2 with ⟨-, h0⟩ | ⟨g, cap, cur, rfl, h1, h2, h3, h4, h5, h6⟩
  · exact absurd h0 hn
  · have e : fmY ps (cur.extract (ps.length * 8) cur.size) = cur := by
      have hs := fm_size f8_size ps
      apply Array.ext_getElem?
      intro j
      unfold fmY
      by_cases c : j < ps.length * 8
      · rw [Array.getElem?_append_left (by omega), ← Array.getElem?_toList]
        show (phL ps)[j]? = _
        rw [← h6, List.getElem?_take_of_lt c, Array.getElem?_toList]
      · rw [Array.getElem?_append_right (by omega), Array.getElem?_extract, hs]
        by_cases d : j < cur.size
        · rw [if_pos (by omega)]; congr 1; omega
        · rw [if_neg (by omega), Array.getElem?_eq_none (by omega)]
    exact ⟨g, cap, cur.extract (ps.length * 8) cur.size, rfl, h1, by rw [e]; exact h2⟩

end

theorem OwnPh.grown {w' : World} {lo : Nat} {v : Value} {ps : List P8} {p : P8} (h : w'.ownsRow lo 43 8 v (ps.length + 1) (phL ps ++ (f8 p).toList)) : OwnPh w' lo v (ps ++ [p]) := by
  unfold OwnPh
  rw [phL_app, List.length_append]
  exact h

theorem run_noPh (W : World) : (Instr.buildSlice 31 0 #[]).run Try.prog W = .ok (.slice (some ⟨W.heap.size, 0, none⟩) 0 0) (W.alloc (.cells #[] 43)) := by kernel_rfl

theorem OwnPh.empty {w : World} {s lo : Nat} (hs : w.heap.size = s) (hl : lo ≤ s) : OwnPh (w.alloc (.cells #[] 43)) lo (.slice (some ⟨s, 0, none⟩) 0 0) [] := by
  subst hs
  exact ⟨rfl, .inr ⟨w.heap.size, 0, #[], rfl, hl, At.new w #[] 43, Nat.le_refl _, by unfold maxLen; omega, rfl, rfl⟩⟩

theorem run_onePh (W : World) (b : List Bool) (hb : b.length = 8) : (Instr.buildSlice 31 1 #[(0, .agg (bl b))]).run Try.prog W = .ok (.slice (some ⟨W.heap.size, 0, none⟩) 1 1) (W.alloc (.cells (bl b) 43)) :=
  match b, hb with
  | [_, _, _, _, _, _, _, _], _ => by kernel_rfl

theorem info_phase : ∃ i : TypeInfo, Try.prog.info? 43 = some i ∧ i.zero = some (.agg #[.bool false, .bool false, .bool false, .bool false, .bool false, .bool false, .bool false, .bool false]) ∧ i.size = 8 ∧ i.bytes = 8 := by
  have hi : (Try.prog.info? 43).map (fun i => (i.zero, i.size, i.bytes)) = some (some (.agg #[.bool false, .bool false, .bool false, .bool false, .bool false, .bool false, .bool false, .bool false]), 8, 8) := by kernel_rfl
  obtain ⟨i, h1, h2, h3, h4⟩ := info_parts hi
  exact ⟨i, h1, h2, h3, h4⟩

theorem one_cellsPh (w : World) (p : P8) : ∀ j u, (f8 p).toList[j]? = some u → (w.alloc (.cells (bl p.1) 43)).cell? ((⟨w.heap.size, 0, none⟩ : Addr).add j) = some u := by
  intro j u h
  rw [addr_add, Nat.zero_add]
  refine (At.new w (bl p.1) 43).cell ?_
  rw [← Array.getElem?_toList]
  exact h

theorem f8_ones (p : P8) : ∀ u ∈ (f8 p).toList, u.oneCell' = true := by
  have h := f8_one p
  rw [← Array.all_toList, List.all_eq_true] at h
  exact h

end Go.Proofs.Ytlpbehokcogcpaa

/-
  CONTRACTS: slots held against each other by ==.
-/
namespace Go.Proofs.Ytlpbehokcogcpaa
open Go Go.ChangeShapes Go.WideShapes Go.ChangeAt Go.RowKit
set_option maxRecDepth 100000

variable {P : Program}
theorem run_part_bool (w : World) (e : TypeId) (xs : List Bool) (k : Nat) (hue : P.underlying e = some .bool) (hk : k < xs.length) : (part e (bl xs) k).run P w = .ok (.bool (bn xs k)) w := by
  have hagg : (isAgg e).run P w = .ok false w := by
    unfold isAgg
    rw [Sem.run_bind, run_underlying hue w]
    rfl
  simp [part, Sem.run_bind, hagg, bl_get hk]
theorem forInB_run (w : World) (f : Nat → (Option Bool × Unit) → Sem (ForInStep (Option Bool × Unit))) (p : Nat → Bool) (L : List Nat)
    (h : ∀ i ∈ L, ∀ s, (f i s).run P w = .ok (if p i then .yield (none, ()) else .done (some false, ())) w) :
    (forIn L (none, ()) f).run P w = .ok (if L.all p then (none, ()) else (some false, ())) w := by
  induction L with
  | nil => rfl
  | cons i L ih =>
    have h0 := h i (by simp) (none, ())
    have ih' := ih (fun j hj s => h j (by simp [hj]) s)
    rw [List.forIn_cons, Sem.run_bind, h0]
    cases hp : p i
    · simp [hp]
    · simp [hp, ih']
theorem all_eqB {xs ys : List Bool} (h : xs.length = ys.length) : ((List.range' 0 xs.length).all fun i => decide (bn xs i = bn ys i)) = decide (xs = ys) := by
  rw [Bool.eq_iff_iff]
  simp only [List.all_eq_true, decide_eq_true_eq]
  constructor
  · intro q
    apply List.ext_getElem h
    intro i h1 h2
    have := q i (by simp [List.mem_range'_1]; exact h1)
    simpa [bn, List.getD, List.getElem?_eq_getElem h1, List.getElem?_eq_getElem h2] using this
  · intro e i _; rw [e]
/-- two arrays of words yes and no -/
theorem run_eq_bools (w : World) (d : Nat) (t e : TypeId) (n : Nat) (xs ys : List Bool) (hu : P.underlying t = some (.array n e)) (hue : P.underlying e = some .bool) (he : (P.info? e).map (·.size) = some 1) (hx : xs.length = n) (hy : ys.length = n) :
    (Op.equalIn (d + 2) t (.agg (bl xs)) (.agg (bl ys))).run P w = .ok (decide (xs = ys)) w := by
  cases hq : P.info? e with
  | none => simp [hq] at he
  | some i =>
    have hs : i.size = 1 := by simpa [hq] using he
    unfold Op.equalIn
    simp only [Sem.run_bind, run_underlying hu w, Result.andThen_ok, sizeOf, typeInfo]
    simp [hq, hs]
    rw [forInB_run w _ (fun i => decide (bn xs i = bn ys i)) _ ?_]
    · subst hx
      rw [all_eqB hy.symm]
      by_cases c : xs = ys <;> simp [c]
    · intro k hk s
      have hk' : k < n := by simpa [List.mem_range'_1] using hk
      rw [Sem.run_bind, run_part_bool w e xs k hue (by omega)]
      simp only [Result.andThen_ok]
      rw [Sem.run_bind, run_part_bool w e ys k hue (by omega)]
      simp only [Result.andThen_ok]
      rw [Sem.run_bind, run_equalIn_bool' w d e _ _ hue]
      simp only [Result.andThen_ok]
      by_cases c : bn xs k = bn ys k
      · simp [c]
      · simp [c]
theorem run_part_ph (w : World) (b : List Bool) (hb : b.length = 8) (t : Int) : (part 43 (sl1 b t) 0).run Try.prog w = .ok (.agg (bl b)) w := by
  have hagg : (isAgg 43).run Try.prog w = .ok true w := by
    unfold isAgg
    rw [Sem.run_bind, run_underlying Try.underlying43 w]
    rfl
  have hi : (Try.prog.info? 43).map (·.size) = some 8 := by kernel_rfl
  have hx := sl1_phase hb t
  have hs := sl1_size hb t
  rw [Nat.zero_add] at hx
  cases hq : Try.prog.info? 43 with
  | none => simp [hq] at hi
  | some i =>
    have hsz : i.size = 8 := by simpa [hq] using hi
    simp [part, Sem.run_bind, hagg, sizeOf, typeInfo, hq, hsz, hx, hs]
theorem run_part_tk (w : World) (b : List Bool) (hb : b.length = 8) (t : Int) : (part 2 (sl1 b t) 8).run Try.prog w = .ok (.int .i64 t) w := by
  have hagg : (isAgg 2).run Try.prog w = .ok false w := by
    unfold isAgg
    rw [Sem.run_bind, run_underlying Try.underlying2 w]
    rfl
  simp [part, Sem.run_bind, hagg, sl1_ticks hb t]
/-- two slots -/
theorem run_eq_slot (w : World) (b b' : List Bool) (t t' : Int) (hb : b.length = 8) (hb' : b'.length = 8) : (Op.equalIn 10000 49 (.agg (sl1 b t)) (.agg (sl1 b' t'))).run Try.prog w = .ok (decide (b = b' ∧ t = t')) w := by
  have ht : Try.prog.underlying 49 = some (.struct (Try.prog.fieldsOf 49)) := by kernel_rfl
  have hp : Try.prog.stoodInHeld 49 = false := by kernel_rfl
  rw [show (10000 : Nat) = 9999 + 1 from rfl, run_equalIn_struct w 9999 49 _ _ ht hp]
  have hf : (Try.prog.fieldsOf 49).toList.map (fun f => (f.name, f.type, f.offset)) = [("Green", 43, 0), ("Ticks", 2, 8)] := by kernel_rfl
  generalize (Try.prog.fieldsOf 49).toList = L at hf ⊢
  obtain _ | ⟨f1, _ | ⟨f2, _ | ⟨f3, L⟩⟩⟩ := L
  · simp at hf
  · simp at hf
  rotate_left
  · simp at hf
  simp only [List.map_cons, List.map_nil, List.cons.injEq, Prod.mk.injEq, and_true] at hf
  obtain ⟨⟨n1', t1, o1⟩, n2', t2, o2⟩ := hf
  have n1 : f1.name ≠ "_" := by rw [n1']; decide
  have n2 : f2.name ≠ "_" := by rw [n2']; decide
  have E1 := run_eq_bools w 9997 43 4 8 b b' Try.underlying43 Try.underlying4 (by kernel_rfl) hb hb'
  have E2 : (Op.equalIn 9999 2 (.int .i64 t) (.int .i64 t')).run Try.prog w = .ok (t == t') w := run_equalIn_int w 9998 2 .i64 .i64 t t' Try.underlying2
  have p1 := run_part_tk w b hb t
  have p2 := run_part_tk w b' hb' t'
  simp only [Op.eqFields, n1, n2, ne_eq, not_false_eq_true, if_true, t1, t2, o1, o2, Sem.run_bind, Sem.run_ite, run_part_ph w b hb, run_part_ph w b' hb', Result.andThen_ok]
  have E1' : (Op.equalIn 9999 43 (.agg (bl b)) (.agg (bl b'))).run Try.prog w = .ok (decide (b = b')) w := E1
  rw [E1']
  simp only [Result.andThen_ok]
  by_cases c1 : b = b'
  · rw [decide_eq_true c1]
    simp only [Bool.not_true, Bool.false_eq_true, if_false]
    rw [p1]
    simp only [Result.andThen_ok]
    rw [p2]
    simp only [Result.andThen_ok]
    rw [E2]
    by_cases c2 : t = t' <;> simp [c1, c2]
  · rw [decide_eq_false c1]
    simp [c1]
theorem run_neq_slot (w : World) (b b' : List Bool) (t t' : Int) (hb : b.length = 8) (hb' : b'.length = 8) : (binOp .neq 49 (.agg (sl1 b t)) (.agg (sl1 b' t'))).run Try.prog w = .ok (.bool (!decide (b = b' ∧ t = t'))) w := by
  rw [run_neq_struct, run_eq_slot w b b' t t' hb hb']; rfl
theorem slots_ext {xs ys : Slots} (h : xs.length = ys.length) (hq : ∀ j, j < xs.length → sb xs j = sb ys j ∧ st xs j = st ys j) : xs = ys := by
  apply List.ext_getElem h
  intro i h1 h2
  have := hq i h1
  unfold sb st at this
  rw [List.getD_eq_getElem?_getD, List.getElem?_eq_getElem h1, List.getD_eq_getElem?_getD, List.getElem?_eq_getElem h2] at this
  exact Prod.ext this.1 this.2

end Go.Proofs.Ytlpbehokcogcpaa

/-
  CONTRACTS: plans held against each other, as the program does it.
-/
namespace Go.Proofs.Ytlpbehokcogcpaa
open Go Go.ChangeShapes Go.WideShapes Go.ChangeAt Go.RowKit
set_option maxRecDepth 100000

section
variable {P : Program} {W : World} {o : Oper} {a : Act} {K : Act → Prop} {g : Nat} {c : Array Value} {T : TypeId}
theorem q_one (ty : TypeId) (x : Operand) (ho : o.op = .load ty x) (d : TypeDesc) (hu : P.underlying ty = some d) (hd : (match d with | .struct _ | .array _ _ => true | _ => false) = false) (k : Nat) (hx : a.eval x = .pointer (some ⟨g, k, none⟩)) (hA : At W g c T) (v : Value) (hk : c[k]? = some v) (hK : K (a.put o.dst v)) : o.quiet P a (Cb W) K :=
  q_load ty x ho _ hx v (fun w hw => run_load_one w ty d hu hd _ v (At.cell (At.step hA hw) hk)) hK

theorem q_neq {C : World → Prop} (ty : TypeId) (x y : Operand) {T : TypeId} (ho : o.op = .binOp .neq ty x y T) (c1 c2 : Array Value) (h1 : a.eval x = .agg c1) (h2 : a.eval y = .agg c2) (hm : P.eqGuardType P.depth ty = false) (v : Value) (hrun : ∀ w, (binOp .neq ty (.agg c1) (.agg c2)).run P w = .ok v w) (hK : K (a.put o.dst v)) : o.quiet P a C K := by
  refine ⟨v, fun w hw => ?_, hK⟩
  have hg := run_eqGuard_agg w .neq ty x y c1 c2 hm
  unfold Oper.quietAt execOp
  simp only [ho, h1, h2, Sem.run_bind, hg, hrun w, Sem.run_pure, Result.andThen_ok]
  exact ⟨rfl, rfl⟩
end

def vSame (xs ys : Slots) (b o b' o' : Int) : Bool := decide (b = b') && (decide (o = o') && decide (xs = ys))

end Go.Proofs.Ytlpbehokcogcpaa

/-
  CONTRACTS: plans held against each other, as the model does it.
-/
namespace Go.Proofs.Ytlpbehokcogcpaa
open Go Go.ChangeShapes Go.WideShapes Go.ChangeAt Go.RowKit
set_option maxRecDepth 100000

set_option maxHeartbeats 1000000 in
theorem l04Same_any (g1 g2 : Nat) (T3 T4 : TypeId) (G1 G2 : Nat) (xs ys : Slots) (b o b' o' : Int) (hx : SlW xs) (hy : SlW ys) (h1 : xs.length ≤ 1048576) (T1 T2 : TypeId) (w : World) (X1 : At w g1 (plC (.slice (some ⟨G1, 0, none⟩) xs.length xs.length) b o) T3) (X2 : At w g2 (plC (.slice (some ⟨G2, 0, none⟩) ys.length ys.length) b' o') T4) (A1 : At w G1 (slC xs) T1) (A2 : At w G2 (slC ys) T2) :
    Calls Try.prog 38 #[.pointer (some ⟨g1, 0, none⟩), .pointer (some ⟨g2, 0, none⟩)] w fun e w' => e = .returned ((.bool (vSame xs ys b o b' o'))) ∧ Below w.heap.size w w' := by
  have B0 := Lib.hid (Below.refl w.heap.size w)
  by_cases hl : xs.length = ys.length
  · have HX := Lib.hid (And.intro hx hy)
    obtain ⟨n, hnn⟩ : ∃ n, n = xs.length := ⟨_, rfl⟩
    have HN := Lib.hid (And.intro hnn (hnn.trans hl))
    rw [← hnn] at h1 X1
    rw [← hl, ← hnn] at X2
    clear hnn hl hx hy
    have c1 : w.cell? ⟨g1, 0, none⟩ = some (.slice (some ⟨G1, 0, none⟩) n n) := X1.cell (plC_0 _ _ _)
    have c2 : w.cell? ⟨g2, 0, none⟩ = some (.slice (some ⟨G2, 0, none⟩) n n) := X2.cell (plC_0 _ _ _)
    go_enter Try.func38, Try.ntmps38
    go_wp2
    go_quiet (fail)
    have X3 := X1.drewN nq
    have X4 := X2.drewN nq
    have A3 := A1.drewN nq
    have A4 := A2.drewN nq
    have B1 := Lib.hid (bdrew B0.out nq)
    generalize hw1 : w.drewN nq = w1 at X3 X4 A3 A4 B1 ⊢
    clear hw1 X1 X2 A1 A2 B0 c1 c2
    go_wp2
    go_loopw [5] (fun i wr => ∃ k : Nat, k ≤ n ∧ i = .int .i64 (k : Int) ∧ Hid (∀ j, j < k → sb xs j = sb ys j ∧ st xs j = st ys j) ∧ At wr g1 (plC (.slice (some ⟨G1, 0, none⟩) n n) b o) T3 ∧ At wr g2 (plC (.slice (some ⟨G2, 0, none⟩) n n) b' o') T4 ∧ At wr G1 (slC xs) T1 ∧ At wr G2 (slC ys) T2 ∧ Hid (Below w.heap.size w wr)) (fun i _ => n - (intOf i).toNat)
    case atStart => exact ⟨0, by omega, rfl, Lib.hid (fun j hj => by omega), X3, X4, A3, A4, B1⟩
    case round =>
      clear X3 X4 A3 A4 B1
      obtain ⟨k, hk, rfl, hall, X1, X2, A1, A2, B1⟩ := hrel
      have c1 : wr.cell? ⟨g1, 0, none⟩ = some (.slice (some ⟨G1, 0, none⟩) n n) := X1.cell (plC_0 _ _ _)
      by_cases hlt : k < n
      · have s2 : IntKind.i64.wrap ((k : Int) + 1) = (k : Int) + 1 := IntWalk.i64_in _ (by omega)
        have kd : (k : Int) < (n : Int) := by omega
        have hkx : k < xs.length := by rw [← HN.out.1]; exact hlt
        have hky : k < ys.length := by rw [← HN.out.2]; exact hlt
        have bx := (HX.out.1.at hkx).1
        have by_ := (HX.out.2.at hky).1
        have SS1 := slC_size HX.out.1
        have SS2 := slC_size HX.out.2
        have hle1 : k * 9 + 9 ≤ (slC xs).size := by rw [SS1]; omega
        have hle2 : k * 9 + 9 ≤ (slC ys).size := by rw [SS2]; omega
        have hsl1 := slC_slot HX.out.1 hkx (k := k * 9) rfl
        have hsl2 := slC_slot HX.out.2 hky (k := k * 9) rfl
        have hneq := fun W => run_neq_slot W (sb xs k) (sb ys k) (st xs k) (st ys k) bx by_
        clear SS1 SS2
        have hC := Cb.const wr
        by_cases he : sb xs k = sb ys k ∧ st xs k = st ys k
        · simp only [decide_eq_true he, Bool.not_true] at hneq
          have HE := Lib.hid he
          clear he
          go_wp2
          refine wp_region_cb (by kernel_rfl) (by kernel_rfl) ?_
          repeat (first
            | go_big_quiet_skip
            | (go_big_quiet_want; first
              | (refine q_one 26 _ rfl _ Try.underlying26 rfl 0 rfl X1 _ (plC_0 _ _ _) ?_; go_simp; go_big_quiet_on)
              | (refine q_one 26 _ rfl _ Try.underlying26 rfl 0 rfl X2 _ (plC_0 _ _ _) ?_; go_simp; go_big_quiet_on)
              | (refine q_part 49 _ rfl (k * 9) rfl A1 9 hle1 _ Try.underlying49 rfl (by kernel_rfl) (sl1 (sb xs k) (st xs k)) hsl1 ?_; go_simp; go_big_quiet_on)
              | (refine q_part 49 _ rfl (k * 9) rfl A2 9 hle2 _ Try.underlying49 rfl (by kernel_rfl) (sl1 (sb ys k) (st ys k)) hsl2 ?_; go_simp; go_big_quiet_on)
              | (refine q_neq 49 _ _ rfl (sl1 (sb xs k) (st xs k)) (sl1 (sb ys k) (st ys k)) rfl rfl (by kernel_rfl) _ hneq ?_; go_simp; go_big_quiet_on)
              | (go_big_quiet_op; go_big_quiet_on)))
          refine wpQuiet_nil ?_
          intro w2 hw2
          have X3 := X1.step hw2
          have X4 := X2.step hw2
          have A3 := A1.step hw2
          have A4 := A2.step hw2
          have B2 := Lib.hid (bthen B1.out hw2)
          clear A1 A2 B1 hw2 hC X1 X2 c1
          go_wp2
          exact ⟨⟨k + 1, by omega, by go_num, Lib.hid (fun j hj => by
            by_cases c : j = k
            · subst c; exact HE.out
            · exact hall.out j (by omega)), X3, X4, A3, A4, B2⟩, by simp [intOf]; omega⟩
        · simp only [decide_eq_false he, Bool.not_false] at hneq
          have hno : vSame xs ys b o b' o' = false := by unfold vSame; rw [decide_eq_false (fun e => he (by rw [e]; exact ⟨rfl, rfl⟩) : ¬ xs = ys)]; simp
          go_wp2
          refine wp_region_cb (by kernel_rfl) (by kernel_rfl) ?_
          repeat (first
            | go_big_quiet_skip
            | (go_big_quiet_want; first
              | (refine q_one 26 _ rfl _ Try.underlying26 rfl 0 rfl X1 _ (plC_0 _ _ _) ?_; go_simp; go_big_quiet_on)
              | (refine q_one 26 _ rfl _ Try.underlying26 rfl 0 rfl X2 _ (plC_0 _ _ _) ?_; go_simp; go_big_quiet_on)
              | (refine q_part 49 _ rfl (k * 9) rfl A1 9 hle1 _ Try.underlying49 rfl (by kernel_rfl) (sl1 (sb xs k) (st xs k)) hsl1 ?_; go_simp; go_big_quiet_on)
              | (refine q_part 49 _ rfl (k * 9) rfl A2 9 hle2 _ Try.underlying49 rfl (by kernel_rfl) (sl1 (sb ys k) (st ys k)) hsl2 ?_; go_simp; go_big_quiet_on)
              | (refine q_neq 49 _ _ rfl (sl1 (sb xs k) (st xs k)) (sl1 (sb ys k) (st ys k)) rfl rfl (by kernel_rfl) _ hneq ?_; go_simp; go_big_quiet_on)
              | (go_big_quiet_op; go_big_quiet_on)))
          refine wpQuiet_nil ?_
          intro w2 hw2
          go_wp2
          go_ret
          exact ⟨by rw [hno]; rfl, bthen B1.out hw2⟩
      · obtain rfl : n = k := by omega
        have hyes : decide (xs = ys) = true := decide_eq_true (slots_ext (HN.out.1.symm.trans HN.out.2) (fun j hj => hall.out j (by rw [HN.out.1]; exact hj)))
        have c11 : wr.cell? ⟨g1, 1, none⟩ = some (.int .i64 b) := X1.cell (plC_1 _ _ _)
        have c12 : wr.cell? ⟨g1, 2, none⟩ = some (.int .i64 o) := X1.cell (plC_2 _ _ _)
        have c21 : wr.cell? ⟨g2, 1, none⟩ = some (.int .i64 b') := X2.cell (plC_1 _ _ _)
        have c22 : wr.cell? ⟨g2, 2, none⟩ = some (.int .i64 o') := X2.cell (plC_2 _ _ _)
        by_cases hb : b = b'
        · have ev : vSame xs ys b o b' o' = (o == o') := by
            unfold vSame; rw [decide_eq_true hb, hyes]
            by_cases c : o = o' <;> simp [c]
          subst hb
          generalize hoo : (o == o') = oo at ev
          go_wp2
          go_quiet (fail)
          go_wp2
          go_ret
          exact ⟨by rw [ev]; rfl, bdrew B1.out _⟩
        · have ev : vSame xs ys b o b' o' = false := by unfold vSame; rw [decide_eq_false hb]; rfl
          have hd : (b == b') = false := by simpa using hb
          go_wp2
          go_quiet (fail)
          go_wp2
          go_ret
          exact ⟨by rw [ev]; rfl, bdrew B1.out _⟩
  · have ev : vSame xs ys b o b' o' = false := by unfold vSame; rw [decide_eq_false (fun e => hl (by rw [e]) : ¬ xs = ys)]; simp
    generalize xs.length = n at hl X1
    generalize ys.length = m at hl X2
    have hne : ¬ (n : Int) = (m : Int) := by omega
    have c1 : w.cell? ⟨g1, 0, none⟩ = some (.slice (some ⟨G1, 0, none⟩) n n) := X1.cell (plC_0 _ _ _)
    have c2 : w.cell? ⟨g2, 0, none⟩ = some (.slice (some ⟨G2, 0, none⟩) m m) := X2.cell (plC_0 _ _ _)
    rw [ev]
    go_enter Try.func38, Try.ntmps38
    go_wp2
    go_quiet (fail)
    go_wp2
    go_ret
    exact ⟨rfl, bdrew B0.out _⟩

theorem sSamePlan_any (G1 G2 : Nat) (xs ys : Slots) (b o b' o' : Int) (hx : SlW xs) (hy : SlW ys) (h1 : xs.length ≤ 1048576) (T1 T2 : TypeId) (w : World) (A1 : At w G1 (slC xs) T1) (A2 : At w G2 (slC ys) T2) :
    Calls Try.prog 19 #[.agg (plC (.slice (some ⟨G1, 0, none⟩) xs.length xs.length) b o), .agg (plC (.slice (some ⟨G2, 0, none⟩) ys.length ys.length) b' o')] w fun e w' => e = .returned ((.bool (vSame xs ys b o b' o'))) ∧ Below w.heap.size w w' := by
  have X1 : At ((w.alloc (.cells (plC (.slice (some ⟨G1, 0, none⟩) xs.length xs.length) b o) 28)).alloc (.cells (plC (.slice (some ⟨G2, 0, none⟩) ys.length ys.length) b' o') 28)) w.heap.size (plC (.slice (some ⟨G1, 0, none⟩) xs.length xs.length) b o) 28 := (At.new w _ _).alloc _
  have X2 : At ((w.alloc (.cells (plC (.slice (some ⟨G1, 0, none⟩) xs.length xs.length) b o) 28)).alloc (.cells (plC (.slice (some ⟨G2, 0, none⟩) ys.length ys.length) b' o') 28)) (w.heap.size + 1) (plC (.slice (some ⟨G2, 0, none⟩) ys.length ys.length) b' o') 28 := At.last1 w _ _ _
  have KE := l04Same_any w.heap.size (w.heap.size + 1) 28 28 G1 G2 xs ys b o b' o' hx hy h1 T1 T2 ((w.alloc (.cells (plC (.slice (some ⟨G1, 0, none⟩) xs.length xs.length) b o) 28)).alloc (.cells (plC (.slice (some ⟨G2, 0, none⟩) ys.length ys.length) b' o') 28)) X1 X2 ((A1.alloc _).alloc _) ((A2.alloc _).alloc _)
  go_enter Try.func19, Try.ntmps19
  go_wp2_with fail
  refine KE.mono ?_
  rintro e w1 ⟨rfl, hb1⟩
  go_wp2_with fail
  go_ret
  exact ⟨rfl, bthen (bnew (b0 _ _) _) hb1⟩

end Go.Proofs.Ytlpbehokcogcpaa

/-
  CONTRACTS: valid plans, cycles, plans held against each other, at slots with a capacity.
-/
namespace Go.Proofs.Ytlpbehokcogcpaa
open Go Go.ChangeShapes Go.WideShapes Go.ChangeAt Go.RowKit Go.Deep
set_option maxRecDepth 100000

set_option maxHeartbeats 400000 in
theorem ValidPlanZ_any (cp : Nat) (zs : Array Value) (G : Nat) (xs : Slots) (b o : Int) (hW : SlW xs) (T : TypeId) (w : World) (A0 : At w G (slY xs zs) T) :
    Calls Try.prog 50 #[.agg (plC (.slice (some ⟨G, 0, none⟩) xs.length cp) b o)] w fun e w' => e = .returned (.bool (okP xs b o)) ∧ Below w.heap.size w w' := by
  have P0 := At.new w (plC (.slice (some ⟨G, 0, none⟩) xs.length cp) b o) 28
  have A1 := A0.alloc (.cells (plC (.slice (some ⟨G, 0, none⟩) xs.length cp) b o) 28)
  have B0 := Lib.hid (b0 w (.cells (plC (.slice (some ⟨G, 0, none⟩) xs.length cp) b o) 28))
  have HX := Lib.hid hW
  have KB := isBetween_b b
  have c0 : (w.alloc (.cells (plC (.slice (some ⟨G, 0, none⟩) xs.length cp) b o) 28)).cell? ⟨w.heap.size, 0, none⟩ = some (.slice (some ⟨G, 0, none⟩) xs.length cp) := P0.cell (plC_0 _ _ _)
  have c1 : (w.alloc (.cells (plC (.slice (some ⟨G, 0, none⟩) xs.length cp) b o) 28)).cell? ⟨w.heap.size, 1, none⟩ = some (.int .i64 b) := P0.cell (plC_1 _ _ _)
  have KC := fun (h1 : xs.length ≤ 8) (h2 : 0 ≤ b ∧ b ≤ 240) (h3 : tkOk xs xs.length = true) (wr : World) (hA : At wr G (slY xs zs) T) => cycleOfZ_any cp zs G xs b o hW T h1 h2 h3 wr hA
  obtain ⟨n, hnn⟩ : ∃ n, n = xs.length := ⟨_, rfl⟩
  have HN := Lib.hid hnn
  have HKC := Lib.hid KC
  rw [← hnn] at P0 A1 B0 c0 c1 ⊢
  clear hnn hW A0 KC
  by_cases h1 : 1 ≤ n
  · by_cases h2 : n ≤ 8
    · have hlen := Lib.hid (show lenOk xs = true from by unfold lenOk; rw [← HN.out]; exact decide_eq_true ⟨h1, h2⟩)
      cases hb : btw b
      · rw [hb] at KB
        have hno := Lib.hid (okP_btw (xs := xs) (o := o) hb)
        clear hb
        go_enter Try.func50, Try.ntmps50
        go_wp2_with fail
        refine (KB _).mono ?_
        rintro e w1 ⟨rfl, n1, rfl⟩
        go_wp2_with fail
        go_ret
        exact ⟨by rw [hno.out]; rfl, bdrew B0.out _⟩
      · rw [hb] at KB
        have HB := Lib.hid hb
        clear hb
        go_enter Try.func50, Try.ntmps50
        go_wp2_with fail
        refine (KB _).mono ?_
        rintro e w1 ⟨rfl, n1, rfl⟩
        have P1 := P0.drewN n1
        have A2 := A1.drewN n1
        have B1 := Lib.hid (bdrew B0.out n1)
        clear c0 c1 P0 A1 B0 KB
        generalize hw1 : (w.alloc (.cells (plC (.slice (some ⟨G, 0, none⟩) n cp) b o) 28)).drewN n1 = w1 at P1 A2 B1 ⊢
        clear hw1
        go_wp2_with (((with_reducible refine is_load 26 _ rfl ?_); refine wpList_load_cell rfl 26 _ rfl _ 0 rfl ((plC (.slice (some ⟨G, 0, none⟩) n cp) b o)) _ (by with_reducible assumption) _ Try.underlying26 rfl ((.slice (some ⟨G, 0, none⟩) n cp)) (plC_0 _ _ _) ?_))
        go_loopw [25] (fun i wr => ∃ k : Nat, k ≤ n ∧ i = .int .i64 (k : Int) ∧ Hid (tkOk xs k = true) ∧ At wr w.heap.size (plC (.slice (some ⟨G, 0, none⟩) n cp) b o) 28 ∧ At wr G (slY xs zs) T ∧ Hid (Below w.heap.size w wr)) (fun i _ => n - (intOf i).toNat)
        case atStart => exact ⟨0, by omega, rfl, Lib.hid rfl, P1, A2, B1⟩
        case round =>
          clear P1 A2 B1
          obtain ⟨k, hk, rfl, hall, P1, A1, B1⟩ := hrel
          by_cases hlt : k < n
          · have s2 : IntKind.i64.wrap ((k : Int) + 1) = (k : Int) + 1 := IntWalk.i64_in _ (by omega)
            have kd : (k : Int) < (n : Int) := by omega
            have hkl : k < xs.length := by rw [← HN.out]; exact hlt
            have hb8 := (HX.out.at hkl).1
            have SS := slY_size (zs := zs) HX.out
            have hle : k * 9 + 9 ≤ (slY xs zs).size := by omega
            have hsl := slY_slot (zs := zs) HX.out hkl (k := k * 9) rfl
            have S1 := sl1_size hb8 (st xs k)
            clear SS
            have hyes := fun h => Lib.hid (tkOk_next hall.out (show tkOne (st xs k) = true from h))
            have hno := fun h => Lib.hid (okP_tk (b := b) (o := o) hkl (show tkOne (st xs k) = false from h))
            generalize sb xs k = bb at hb8 hsl S1
            have N0 := At.new wr #[.bool false, .bool false, .bool false, .bool false, .bool false, .bool false, .bool false, .bool false, .int .i64 0] 49
            have N1 := N0.setRow (sl1 bb (st xs k))
            have ct := N1.cell (sl1_ticks hb8 (st xs k))
            have P2 := (P1.alloc (.cells #[.bool false, .bool false, .bool false, .bool false, .bool false, .bool false, .bool false, .bool false, .int .i64 0] 49)).setRow_other (k := wr.heap.size) (Nat.ne_of_lt P1.lt) (sl1 bb (st xs k))
            have A2 := (A1.alloc (.cells #[.bool false, .bool false, .bool false, .bool false, .bool false, .bool false, .bool false, .bool false, .int .i64 0] 49)).setRow_other (k := wr.heap.size) (Nat.ne_of_lt A1.lt) (sl1 bb (st xs k))
            have B2 := Lib.hid (bset (bnew B1.out (.cells #[.bool false, .bool false, .bool false, .bool false, .bool false, .bool false, .bool false, .bool false, .int .i64 0] 49)) (g := wr.heap.size) B1.out.size (sl1 bb (st xs k)))
            clear B1 hkl
            by_cases t1 : 1 ≤ st xs k
            · by_cases t2 : st xs k ≤ 240
              · have hy := hyes (decide_eq_true ⟨t1, t2⟩)
                clear hyes hno
                go_wp2_with (first | ((with_reducible refine is_load 49 _ rfl ?_); refine wpList_load_part rfl 49 _ rfl _ (k * 9) rfl (slY xs zs) _ (by with_reducible assumption) 9 (hle) _ Try.underlying49 rfl (by kernel_rfl) (sl1 bb (st xs k)) (hsl) ?_) | ((with_reducible refine is_store 49 _ _ rfl ?_); refine wpList_store_at rfl 49 _ _ rfl _ rfl (sl1 bb (st xs k)) rfl (#[.bool false, .bool false, .bool false, .bool false, .bool false, .bool false, .bool false, .bool false, .int .i64 0]) _ (by with_reducible assumption) 9 (S1) (rfl) (by kernel_rfl) (sl1_one _ _) ?_))
                exact ⟨⟨k + 1, by omega, by go_num, hy, P2, A2, B2⟩, by simp [intOf]; omega⟩
              · have hn := hno (decide_eq_false (by omega))
                clear hyes hno
                go_wp2_with (first | ((with_reducible refine is_load 49 _ rfl ?_); refine wpList_load_part rfl 49 _ rfl _ (k * 9) rfl (slY xs zs) _ (by with_reducible assumption) 9 (hle) _ Try.underlying49 rfl (by kernel_rfl) (sl1 bb (st xs k)) (hsl) ?_) | ((with_reducible refine is_store 49 _ _ rfl ?_); refine wpList_store_at rfl 49 _ _ rfl _ rfl (sl1 bb (st xs k)) rfl (#[.bool false, .bool false, .bool false, .bool false, .bool false, .bool false, .bool false, .bool false, .int .i64 0]) _ (by with_reducible assumption) 9 (S1) (rfl) (by kernel_rfl) (sl1_one _ _) ?_))
                go_ret
                exact ⟨by rw [hn.out]; rfl, B2.out⟩
            · have hn := hno (decide_eq_false (by omega))
              clear hyes hno
              go_wp2_with (first | ((with_reducible refine is_load 49 _ rfl ?_); refine wpList_load_part rfl 49 _ rfl _ (k * 9) rfl (slY xs zs) _ (by with_reducible assumption) 9 (hle) _ Try.underlying49 rfl (by kernel_rfl) (sl1 bb (st xs k)) (hsl) ?_) | ((with_reducible refine is_store 49 _ _ rfl ?_); refine wpList_store_at rfl 49 _ _ rfl _ rfl (sl1 bb (st xs k)) rfl (#[.bool false, .bool false, .bool false, .bool false, .bool false, .bool false, .bool false, .bool false, .int .i64 0]) _ (by with_reducible assumption) 9 (S1) (rfl) (by kernel_rfl) (sl1_one _ _) ?_))
              go_ret
              exact ⟨by rw [hn.out]; rfl, B2.out⟩
          · obtain rfl : n = k := by omega
            have hall' := hall.out
            rw [HN.out] at hall'
            have hyes := Lib.hid (okP_rest (o := o) hlen.out HB.out hall')
            have hbr : 0 ≤ b ∧ b ≤ 240 := by have := HB.out; simpa [btw] using this
            have KC := fun wr hA => HKC.out (by rw [← HN.out]; exact h2) hbr hall' wr hA
            rw [← HN.out] at KC
            have K1 := KC wr A1
            clear hall' KC HKC hbr
            generalize cyc xs b = cc at hyes K1
            go_wp2_with (((with_reducible refine is_load 28 _ rfl ?_); refine wpList_load_at rfl 28 _ rfl _ rfl ((plC (.slice (some ⟨G, 0, none⟩) n cp) b o)) _ (by with_reducible assumption) 3 (plC_size _ _ _) _ Try.underlying28 rfl (by kernel_rfl) ?_))
            refine K1.mono ?_
            rintro e w2 ⟨rfl, hb2⟩
            have P2 := P1.step hb2
            have B2 := Lib.hid (bthen B1.out hb2)
            have c2 : w2.cell? ⟨w.heap.size, 2, none⟩ = some (.int .i64 o) := P2.cell (plC_2 _ _ _)
            clear P1 A1 B1 hb2 K1 P2
            by_cases d1 : cc ≤ 240
            · by_cases d2 : 0 ≤ o
              · rw [decide_eq_true d1, show decide (0 ≤ o ∧ o < cc) = decide (o < cc) from decide_eq_decide.2 (by omega)] at hyes
                go_wp2_with fail
                go_ret
                exact ⟨by rw [hyes.out]; rfl, B2.out⟩
              · rw [decide_eq_true d1, decide_eq_false (by omega : ¬ (0 ≤ o ∧ o < cc))] at hyes
                go_wp2_with fail
                go_ret
                exact ⟨by rw [hyes.out]; rfl, B2.out⟩
            · rw [decide_eq_false d1] at hyes
              go_wp2_with fail
              go_ret
              exact ⟨by rw [hyes.out]; rfl, B2.out⟩
    · have hno := Lib.hid (okP_len (b := b) (o := o) (show lenOk xs = false from by unfold lenOk; rw [← HN.out]; exact decide_eq_false (by omega)))
      go_enter Try.func50, Try.ntmps50
      go_wp2_with fail
      go_ret
      exact ⟨by rw [hno.out]; rfl, B0.out⟩
  · have hno := Lib.hid (okP_len (b := b) (o := o) (show lenOk xs = false from by unfold lenOk; rw [← HN.out]; exact decide_eq_false (by omega)))
    obtain rfl : n = 0 := by omega
    go_enter Try.func50, Try.ntmps50
    go_wp2_with fail
    go_ret
    exact ⟨by rw [hno.out]; rfl, B0.out⟩




theorem needPlanZ_any (cp : Nat) (zs : Array Value) (G : Nat) (xs : Slots) (b o : Int) (hW : SlW xs) (T : TypeId) (w : World) (A0 : At w G (slY xs zs) T) :
    Calls Try.prog 48 #[.agg (plC (.slice (some ⟨G, 0, none⟩) xs.length cp) b o)] w fun e w' => Chk (okC xs b o) e ∧ Below w.heap.size w w' := by
  have P0 := At.new w (plC (.slice (some ⟨G, 0, none⟩) xs.length cp) b o) 28
  have A1 := A0.alloc (.cells (plC (.slice (some ⟨G, 0, none⟩) xs.length cp) b o) 28)
  have B0 := Lib.hid (b0 w (.cells (plC (.slice (some ⟨G, 0, none⟩) xs.length cp) b o) 28))
  have KV := ValidPlanZ_any cp zs G xs b o hW T _ A1
  cases h : okP xs b o
  · rw [h] at KV
    rw [okC_no h]
    clear h A0 A1
    go_enter Try.func48, Try.ntmps48
    go_wp2_with (((with_reducible refine is_load 28 _ rfl ?_); refine wpList_load_at rfl 28 _ rfl _ rfl ((plC (.slice (some ⟨G, 0, none⟩) xs.length cp) b o)) _ (by with_reducible assumption) 3 (plC_size _ _ _) _ Try.underlying28 rfl (by kernel_rfl) ?_))
    refine KV.mono ?_
    rintro e w1 ⟨rfl, hb1⟩
    have P1 := P0.step hb1
    have B1 := Lib.hid (bthen B0.out hb1)
    clear P0 B0 hb1 KV
    go_wp2_with (((with_reducible refine is_load 28 _ rfl ?_); refine wpList_load_at rfl 28 _ rfl _ rfl ((plC (.slice (some ⟨G, 0, none⟩) xs.length cp) b o)) _ (by with_reducible assumption) 3 (plC_size _ _ _) _ Try.underlying28 rfl (by kernel_rfl) ?_))
    exact ⟨rfl, .inr ⟨by decide, _, .inr (.inr ⟨rfl, _, _, _, rfl⟩), rfl⟩, B1.out⟩
  · rw [h] at KV
    rw [okC_yes h]
    clear h A0 A1
    go_enter Try.func48, Try.ntmps48
    go_wp2_with (((with_reducible refine is_load 28 _ rfl ?_); refine wpList_load_at rfl 28 _ rfl _ rfl ((plC (.slice (some ⟨G, 0, none⟩) xs.length cp) b o)) _ (by with_reducible assumption) 3 (plC_size _ _ _) _ Try.underlying28 rfl (by kernel_rfl) ?_))
    refine KV.mono ?_
    rintro e w1 ⟨rfl, hb1⟩
    have B1 := Lib.hid (bthen B0.out hb1)
    clear P0 B0 hb1 KV
    go_wp2_with fail
    go_end0
    exact ⟨.inl ⟨rfl, rfl⟩, B1.out⟩


theorem refusalOfPlan1Z_any (cp : Nat) (zs : Array Value) (g : Nat) (T' : TypeId) (G : Nat) (xs : Slots) (b o : Int) (hW : SlW xs) (T : TypeId) (w : World) (P0 : At w g (plC (.slice (some ⟨G, 0, none⟩) xs.length cp) b o) T') (A0 : At w G (slY xs zs) T) :
    Calls Try.prog 47 #[.pointer (some ⟨g, 0, none⟩)] w fun e w' => Chk (okC xs b o) e ∧ Below w.heap.size w w' := by
  have KN := needPlanZ_any cp zs G xs b o hW T w A0
  go_enter Try.func47, Try.ntmps47
  go_wp2_with (((with_reducible refine is_load 28 _ rfl ?_); refine wpList_load_at rfl 28 _ rfl _ rfl ((plC (.slice (some ⟨G, 0, none⟩) xs.length cp) b o)) _ (by with_reducible assumption) 3 (plC_size _ _ _) _ Try.underlying28 rfl (by kernel_rfl) ?_))
  refine KN.mono ?_
  rintro e w1 ⟨⟨h, rfl⟩ | ⟨h, x, hx, rfl⟩, hb1⟩
  · go_wp2_with fail
    go_end0
    exact ⟨.inl ⟨h, rfl⟩, hb1⟩
  · go_wp2_with fail
    exact ⟨rfl, .inr ⟨h, x, hx, rfl⟩, hb1⟩


theorem refusalOfPlanZ_any (cp : Nat) (zs : Array Value) (G : Nat) (xs : Slots) (b o : Int) (hW : SlW xs) (T : TypeId) (w : World) (A0 : At w G (slY xs zs) T) :
    Calls Try.prog 36 #[.agg (plC (.slice (some ⟨G, 0, none⟩) xs.length cp) b o)] w fun e w' => e = .returned (.int .i64 (okC xs b o)) ∧ Below w.heap.size w w' := by
  have hmf : ∀ (fn : Fn) (first cap : Array Value) (w : World), (Instr.makeFunc fn first cap).run Try.prog w = .ok (.func fn first cap) w := fun _ _ _ _ => rfl
  have P0 := At.new w (plC (.slice (some ⟨G, 0, none⟩) xs.length cp) b o) 28
  have A1 := A0.alloc (.cells (plC (.slice (some ⟨G, 0, none⟩) xs.length cp) b o) 28)
  have KR := refusalOf_any 47 #[.pointer (some ⟨w.heap.size, 0, none⟩)] (okC xs b o) (w.alloc (.cells (plC (.slice (some ⟨G, 0, none⟩) xs.length cp) b o) 28)) (fun _ => by kernel_rfl) (fun w1 hb => refusalOfPlan1Z_any cp zs w.heap.size 28 G xs b o hW T w1 (P0.step hb) (A1.step hb))
  clear P0 A0 A1
  go_enter Try.func36, Try.ntmps36
  go_wp2_with fail
  refine KR.mono ?_
  rintro e w1 ⟨rfl, hb1⟩
  go_wp2_with fail
  go_ret
  exact ⟨rfl, bthen (b0 _ _) hb1⟩


theorem CycleOfZ_any (cp : Nat) (zs : Array Value) (G : Nat) (xs : Slots) (b o : Int) (hW : SlW xs) (T : TypeId) (w : World) (A0 : At w G (slY xs zs) T) :
    Calls Try.prog 18 #[.agg (plC (.slice (some ⟨G, 0, none⟩) xs.length cp) b o)] w fun e w' => e = .returned (.tuple #[.int .i64 (vCycleOf xs b o).1, .int .i64 (vCycleOf xs b o).2]) ∧ Below w.heap.size w w' := by
  have P0 := At.new w (plC (.slice (some ⟨G, 0, none⟩) xs.length cp) b o) 28
  have A1 := A0.alloc (.cells (plC (.slice (some ⟨G, 0, none⟩) xs.length cp) b o) 28)
  have B0 := Lib.hid (b0 w (.cells (plC (.slice (some ⟨G, 0, none⟩) xs.length cp) b o) 28))
  have KR := refusalOfPlanZ_any cp zs G xs b o hW T _ A1
  cases h : okP xs b o
  · rw [okC_no h] at KR
    go_enter Try.func18, Try.ntmps18
    go_wp2_with (((with_reducible refine is_load 28 _ rfl ?_); refine wpList_load_at rfl 28 _ rfl _ rfl ((plC (.slice (some ⟨G, 0, none⟩) xs.length cp) b o)) _ (by with_reducible assumption) 3 (plC_size _ _ _) _ Try.underlying28 rfl (by kernel_rfl) ?_))
    refine KR.mono ?_
    rintro e w1 ⟨rfl, hb1⟩
    go_wp2_with fail
    go_ret2
    exact ⟨by rw [vCycleOf_no h]; rfl, bthen B0.out hb1⟩
  · rw [okC_yes h] at KR
    obtain ⟨hl, hb, ht, -, -⟩ := okP_parts h
    go_enter Try.func18, Try.ntmps18
    go_wp2_with (((with_reducible refine is_load 28 _ rfl ?_); refine wpList_load_at rfl 28 _ rfl _ rfl ((plC (.slice (some ⟨G, 0, none⟩) xs.length cp) b o)) _ (by with_reducible assumption) 3 (plC_size _ _ _) _ Try.underlying28 rfl (by kernel_rfl) ?_))
    refine KR.mono ?_
    rintro e w1 ⟨rfl, hb1⟩
    have P1 := P0.step hb1
    have KC := cycleOfZ_any cp zs G xs b o hW T hl.2 hb ht w1 (A1.step hb1)
    have B1 := Lib.hid (bthen B0.out hb1)
    clear P0 A0 A1 B0 hb1 KR hl hb ht
    go_wp2_with (((with_reducible refine is_load 28 _ rfl ?_); refine wpList_load_at rfl 28 _ rfl _ rfl ((plC (.slice (some ⟨G, 0, none⟩) xs.length cp) b o)) _ (by with_reducible assumption) 3 (plC_size _ _ _) _ Try.underlying28 rfl (by kernel_rfl) ?_))
    refine KC.mono ?_
    rintro e w2 ⟨rfl, hb2⟩
    go_wp2_with fail
    go_ret2
    exact ⟨by rw [vCycleOf_yes h]; rfl, bthen B1.out hb2⟩


set_option maxHeartbeats 1000000 in
theorem l04SameZ_any (cp1 cp2 : Nat) (zs1 zs2 : Array Value) (g1 g2 : Nat) (T3 T4 : TypeId) (G1 G2 : Nat) (xs ys : Slots) (b o b' o' : Int) (hx : SlW xs) (hy : SlW ys) (h1 : xs.length ≤ 1048576) (T1 T2 : TypeId) (w : World) (X1 : At w g1 (plC (.slice (some ⟨G1, 0, none⟩) xs.length cp1) b o) T3) (X2 : At w g2 (plC (.slice (some ⟨G2, 0, none⟩) ys.length cp2) b' o') T4) (A1 : At w G1 (slY xs zs1) T1) (A2 : At w G2 (slY ys zs2) T2) :
    Calls Try.prog 38 #[.pointer (some ⟨g1, 0, none⟩), .pointer (some ⟨g2, 0, none⟩)] w fun e w' => e = .returned ((.bool (vSame xs ys b o b' o'))) ∧ Below w.heap.size w w' := by
  have B0 := Lib.hid (Below.refl w.heap.size w)
  by_cases hl : xs.length = ys.length
  · have HX := Lib.hid (And.intro hx hy)
    obtain ⟨n, hnn⟩ : ∃ n, n = xs.length := ⟨_, rfl⟩
    have HN := Lib.hid (And.intro hnn (hnn.trans hl))
    rw [← hnn] at h1 X1
    rw [← hl, ← hnn] at X2
    clear hnn hl hx hy
    have c1 : w.cell? ⟨g1, 0, none⟩ = some (.slice (some ⟨G1, 0, none⟩) n cp1) := X1.cell (plC_0 _ _ _)
    have c2 : w.cell? ⟨g2, 0, none⟩ = some (.slice (some ⟨G2, 0, none⟩) n cp2) := X2.cell (plC_0 _ _ _)
    go_enter Try.func38, Try.ntmps38
    go_wp2
    go_quiet (fail)
    have X3 := X1.drewN nq
    have X4 := X2.drewN nq
    have A3 := A1.drewN nq
    have A4 := A2.drewN nq
    have B1 := Lib.hid (bdrew B0.out nq)
    generalize hw1 : w.drewN nq = w1 at X3 X4 A3 A4 B1 ⊢
    clear hw1 X1 X2 A1 A2 B0 c1 c2
    go_wp2
    go_loopw [5] (fun i wr => ∃ k : Nat, k ≤ n ∧ i = .int .i64 (k : Int) ∧ Hid (∀ j, j < k → sb xs j = sb ys j ∧ st xs j = st ys j) ∧ At wr g1 (plC (.slice (some ⟨G1, 0, none⟩) n cp1) b o) T3 ∧ At wr g2 (plC (.slice (some ⟨G2, 0, none⟩) n cp2) b' o') T4 ∧ At wr G1 (slY xs zs1) T1 ∧ At wr G2 (slY ys zs2) T2 ∧ Hid (Below w.heap.size w wr)) (fun i _ => n - (intOf i).toNat)
    case atStart => exact ⟨0, by omega, rfl, Lib.hid (fun j hj => by omega), X3, X4, A3, A4, B1⟩
    case round =>
      clear X3 X4 A3 A4 B1
      obtain ⟨k, hk, rfl, hall, X1, X2, A1, A2, B1⟩ := hrel
      have c1 : wr.cell? ⟨g1, 0, none⟩ = some (.slice (some ⟨G1, 0, none⟩) n cp1) := X1.cell (plC_0 _ _ _)
      by_cases hlt : k < n
      · have s2 : IntKind.i64.wrap ((k : Int) + 1) = (k : Int) + 1 := IntWalk.i64_in _ (by omega)
        have kd : (k : Int) < (n : Int) := by omega
        have hkx : k < xs.length := by rw [← HN.out.1]; exact hlt
        have hky : k < ys.length := by rw [← HN.out.2]; exact hlt
        have bx := (HX.out.1.at hkx).1
        have by_ := (HX.out.2.at hky).1
        have SS1 := slY_size (zs := zs1) HX.out.1
        have SS2 := slY_size (zs := zs2) HX.out.2
        have hle1 : k * 9 + 9 ≤ (slY xs zs1).size := by omega
        have hle2 : k * 9 + 9 ≤ (slY ys zs2).size := by omega
        have hsl1 := slY_slot (zs := zs1) HX.out.1 hkx (k := k * 9) rfl
        have hsl2 := slY_slot (zs := zs2) HX.out.2 hky (k := k * 9) rfl
        have hneq := fun W => run_neq_slot W (sb xs k) (sb ys k) (st xs k) (st ys k) bx by_
        clear SS1 SS2
        have hC := Cb.const wr
        by_cases he : sb xs k = sb ys k ∧ st xs k = st ys k
        · simp only [decide_eq_true he, Bool.not_true] at hneq
          have HE := Lib.hid he
          clear he
          go_wp2
          refine wp_region_cb (by kernel_rfl) (by kernel_rfl) ?_
          repeat (first
            | go_big_quiet_skip
            | (go_big_quiet_want; first
              | (refine q_one 26 _ rfl _ Try.underlying26 rfl 0 rfl X1 _ (plC_0 _ _ _) ?_; go_simp; go_big_quiet_on)
              | (refine q_one 26 _ rfl _ Try.underlying26 rfl 0 rfl X2 _ (plC_0 _ _ _) ?_; go_simp; go_big_quiet_on)
              | (refine q_part 49 _ rfl (k * 9) rfl A1 9 hle1 _ Try.underlying49 rfl (by kernel_rfl) (sl1 (sb xs k) (st xs k)) hsl1 ?_; go_simp; go_big_quiet_on)
              | (refine q_part 49 _ rfl (k * 9) rfl A2 9 hle2 _ Try.underlying49 rfl (by kernel_rfl) (sl1 (sb ys k) (st ys k)) hsl2 ?_; go_simp; go_big_quiet_on)
              | (refine q_neq 49 _ _ rfl (sl1 (sb xs k) (st xs k)) (sl1 (sb ys k) (st ys k)) rfl rfl (by kernel_rfl) _ hneq ?_; go_simp; go_big_quiet_on)
              | (go_big_quiet_op; go_big_quiet_on)))
          refine wpQuiet_nil ?_
          intro w2 hw2
          have X3 := X1.step hw2
          have X4 := X2.step hw2
          have A3 := A1.step hw2
          have A4 := A2.step hw2
          have B2 := Lib.hid (bthen B1.out hw2)
          clear A1 A2 B1 hw2 hC X1 X2 c1
          go_wp2
          exact ⟨⟨k + 1, by omega, by go_num, Lib.hid (fun j hj => by
            by_cases c : j = k
            · subst c; exact HE.out
            · exact hall.out j (by omega)), X3, X4, A3, A4, B2⟩, by simp [intOf]; omega⟩
        · simp only [decide_eq_false he, Bool.not_false] at hneq
          have hno : vSame xs ys b o b' o' = false := by unfold vSame; rw [decide_eq_false (fun e => he (by rw [e]; exact ⟨rfl, rfl⟩) : ¬ xs = ys)]; simp
          go_wp2
          refine wp_region_cb (by kernel_rfl) (by kernel_rfl) ?_
          repeat (first
            | go_big_quiet_skip
            | (go_big_quiet_want; first
              | (refine q_one 26 _ rfl _ Try.underlying26 rfl 0 rfl X1 _ (plC_0 _ _ _) ?_; go_simp; go_big_quiet_on)
              | (refine q_one 26 _ rfl _ Try.underlying26 rfl 0 rfl X2 _ (plC_0 _ _ _) ?_; go_simp; go_big_quiet_on)
              | (refine q_part 49 _ rfl (k * 9) rfl A1 9 hle1 _ Try.underlying49 rfl (by kernel_rfl) (sl1 (sb xs k) (st xs k)) hsl1 ?_; go_simp; go_big_quiet_on)
              | (refine q_part 49 _ rfl (k * 9) rfl A2 9 hle2 _ Try.underlying49 rfl (by kernel_rfl) (sl1 (sb ys k) (st ys k)) hsl2 ?_; go_simp; go_big_quiet_on)
              | (refine q_neq 49 _ _ rfl (sl1 (sb xs k) (st xs k)) (sl1 (sb ys k) (st ys k)) rfl rfl (by kernel_rfl) _ hneq ?_; go_simp; go_big_quiet_on)
              | (go_big_quiet_op; go_big_quiet_on)))
          refine wpQuiet_nil ?_
          intro w2 hw2
          go_wp2
          go_ret
          exact ⟨by rw [hno]; rfl, bthen B1.out hw2⟩
      · obtain rfl : n = k := by omega
        have hyes : decide (xs = ys) = true := decide_eq_true (slots_ext (HN.out.1.symm.trans HN.out.2) (fun j hj => hall.out j (by rw [HN.out.1]; exact hj)))
        have c11 : wr.cell? ⟨g1, 1, none⟩ = some (.int .i64 b) := X1.cell (plC_1 _ _ _)
        have c12 : wr.cell? ⟨g1, 2, none⟩ = some (.int .i64 o) := X1.cell (plC_2 _ _ _)
        have c21 : wr.cell? ⟨g2, 1, none⟩ = some (.int .i64 b') := X2.cell (plC_1 _ _ _)
        have c22 : wr.cell? ⟨g2, 2, none⟩ = some (.int .i64 o') := X2.cell (plC_2 _ _ _)
        by_cases hb : b = b'
        · have ev : vSame xs ys b o b' o' = (o == o') := by
            unfold vSame; rw [decide_eq_true hb, hyes]
            by_cases c : o = o' <;> simp [c]
          subst hb
          generalize hoo : (o == o') = oo at ev
          go_wp2
          go_quiet (fail)
          go_wp2
          go_ret
          exact ⟨by rw [ev]; rfl, bdrew B1.out _⟩
        · have ev : vSame xs ys b o b' o' = false := by unfold vSame; rw [decide_eq_false hb]; rfl
          have hd : (b == b') = false := by simpa using hb
          go_wp2
          go_quiet (fail)
          go_wp2
          go_ret
          exact ⟨by rw [ev]; rfl, bdrew B1.out _⟩
  · have ev : vSame xs ys b o b' o' = false := by unfold vSame; rw [decide_eq_false (fun e => hl (by rw [e]) : ¬ xs = ys)]; simp
    generalize xs.length = n at hl X1
    generalize ys.length = m at hl X2
    have hne : ¬ (n : Int) = (m : Int) := by omega
    have c1 : w.cell? ⟨g1, 0, none⟩ = some (.slice (some ⟨G1, 0, none⟩) n cp1) := X1.cell (plC_0 _ _ _)
    have c2 : w.cell? ⟨g2, 0, none⟩ = some (.slice (some ⟨G2, 0, none⟩) m cp2) := X2.cell (plC_0 _ _ _)
    rw [ev]
    go_enter Try.func38, Try.ntmps38
    go_wp2
    go_quiet (fail)
    go_wp2
    go_ret
    exact ⟨rfl, bdrew B0.out _⟩


theorem sSamePlanZ_any (cp1 cp2 : Nat) (zs1 zs2 : Array Value) (G1 G2 : Nat) (xs ys : Slots) (b o b' o' : Int) (hx : SlW xs) (hy : SlW ys) (h1 : xs.length ≤ 1048576) (T1 T2 : TypeId) (w : World) (A1 : At w G1 (slY xs zs1) T1) (A2 : At w G2 (slY ys zs2) T2) :
    Calls Try.prog 19 #[.agg (plC (.slice (some ⟨G1, 0, none⟩) xs.length cp1) b o), .agg (plC (.slice (some ⟨G2, 0, none⟩) ys.length cp2) b' o')] w fun e w' => e = .returned ((.bool (vSame xs ys b o b' o'))) ∧ Below w.heap.size w w' := by
  have X1 : At ((w.alloc (.cells (plC (.slice (some ⟨G1, 0, none⟩) xs.length cp1) b o) 28)).alloc (.cells (plC (.slice (some ⟨G2, 0, none⟩) ys.length cp2) b' o') 28)) w.heap.size (plC (.slice (some ⟨G1, 0, none⟩) xs.length cp1) b o) 28 := (At.new w _ _).alloc _
  have X2 : At ((w.alloc (.cells (plC (.slice (some ⟨G1, 0, none⟩) xs.length cp1) b o) 28)).alloc (.cells (plC (.slice (some ⟨G2, 0, none⟩) ys.length cp2) b' o') 28)) (w.heap.size + 1) (plC (.slice (some ⟨G2, 0, none⟩) ys.length cp2) b' o') 28 := At.last1 w _ _ _
  have KE := l04SameZ_any cp1 cp2 zs1 zs2 w.heap.size (w.heap.size + 1) 28 28 G1 G2 xs ys b o b' o' hx hy h1 T1 T2 ((w.alloc (.cells (plC (.slice (some ⟨G1, 0, none⟩) xs.length cp1) b o) 28)).alloc (.cells (plC (.slice (some ⟨G2, 0, none⟩) ys.length cp2) b' o') 28)) X1 X2 ((A1.alloc _).alloc _) ((A2.alloc _).alloc _)
  go_enter Try.func19, Try.ntmps19
  go_wp2_with fail
  refine KE.mono ?_
  rintro e w1 ⟨rfl, hb1⟩
  go_wp2_with fail
  go_ret
  exact ⟨rfl, bthen (bnew (b0 _ _) _) hb1⟩

end Go.Proofs.Ytlpbehokcogcpaa

/-
  CONTRACTS: helpers of the law FnShared.
-/
namespace Go.Proofs.Ytlpbehokcogcpaa
open Go Go.ChangeShapes Go.WideShapes Go.ChangeAt Go.RowKit Go.Deep
set_option maxRecDepth 100000

theorem slY_phase {xs : Slots} {zs : Array Value} (hW : SlW xs) {i : Nat} (hi : i < xs.length) : (slY xs zs).extract (i * 9) (i * 9 + 8) = bl (sb xs i) := by
  rw [← slC_phase hW hi rfl]
  have hs := slC_size hW
  apply Array.ext_getElem?
  intro j
  rw [Array.getElem?_extract, Array.getElem?_extract]
  unfold slY
  by_cases c : j < 8
  · rw [if_pos (by rw [Array.size_append]; omega), if_pos (by omega), Array.getElem?_append_left (by omega)]
  · rw [if_neg (by omega), if_neg (by omega)]
theorem all_amts {ds : List Nat} (h : ∀ k, nth ds k < 2139095040) : ds.all amtB = true := by
  rw [List.all_eq_true]
  intro x hx
  obtain ⟨i, hi, rfl⟩ := List.mem_iff_getElem.1 hx
  have := h i
  have e : nth ds i = ds[i] := by
    show (ds[i]?).getD 0 = _
    rw [List.getElem?_eq_getElem hi, Option.getD_some]
  rw [e] at this
  exact decide_eq_true this
theorem nth_zeros8 (j : Nat) : nth (zeros 8) j = 0 := by
  show ((zeros 8)[j]?).getD 0 = 0
  unfold zeros
  rw [List.getElem?_replicate]
  split <;> rfl

theorem At.stepB {w w' : World} {g B : Nat} {c : Array Value} {T : TypeId} (h : At w g c T) (hb : Below B w w') (hg : g < B) : At w' g c T := (hb.block _ hg).trans h

theorem OwnPh.keepB {w w' : World} {lo B : Nat} {v : Value} {ps : List P8} (h : OwnPh w lo v ps) (hb : Below B w w') (hq : ∀ q, v.ownBlock = some q → q < B) : OwnPh w' lo v ps := by
  refine ⟨h.1, h.2.imp id ?_⟩
  rintro ⟨g, cap, cur, rfl, h1, h2, h3, h4, h5, h6⟩
  exact ⟨g, cap, cur, rfl, h1, (hb.block g (hq g rfl)).trans h2, h3, h4, h5, h6⟩

theorem OwnPh.setRow_other {w : World} {lo : Nat} {v : Value} {ps : List P8} (h : OwnPh w lo v ps) {g : Nat} (hne : ∀ k, v.ownBlock = some k → k ≠ g) (c : Array Value) : OwnPh (w.setRow g c) lo v ps := by
  refine ⟨h.1, h.2.imp id ?_⟩
  rintro ⟨g', cap, cur, rfl, h1, h2, h3, h4, h5, h6⟩
  exact ⟨g', cap, cur, rfl, h1, (heap_setRow_other _ _ _ _ (hne g' rfl)).trans h2, h3, h4, h5, h6⟩
theorem nth_setN {ds : List Nat} {k : Nat} {x : Nat} (hk : k < ds.length) (j : Nat) : nth (ds.set k x) j = if k = j then x else nth ds j := by
  show ((ds.set k x)[j]?).getD 0 = _
  rw [List.getElem?_set]
  by_cases c : k = j
  · rw [if_pos c, if_pos c, if_pos hk]; rfl
  · rw [if_neg c, if_neg c]; rfl

theorem OwnPh.ne {w : World} {lo g : Nat} {v : Value} {ps : List P8} {c : Array Value} (h : OwnPh w lo v ps) (hA : At w g c 24) : ∀ k, v.ownBlock = some k → k ≠ g := by
  intro k hk e
  rcases h.2 with ⟨rfl, -⟩ | ⟨g', cap, cur, rfl, -, h2, -⟩
  · cases hk
  · have e' : g' = k := by simpa [Value.ownBlock] using hk
    subst e' e
    have hA' : w.heap[g']? = some (.cells c 24) := hA
    rw [hA'] at h2
    simp at h2

theorem run_neq_phase (w : World) (ps : List Bool) (hl : ps.length = 8) : (binOp .neq 43 (.agg (bl ps)) (.agg (bl ps))).run Try.prog w = .ok (.bool false) w := by
  have h := run_eq_bools w 9998 43 4 8 ps ps Try.underlying43 Try.underlying4 (by kernel_rfl) hl hl
  have e : (binOp .neq 43 (.agg (bl ps)) (.agg (bl ps))).run Try.prog w = ((Op.equalIn 10000 43 (.agg (bl ps)) (.agg (bl ps))).run Try.prog w).andThen fun b w' => .ok (.bool (!b)) w' := by rw [run_neq_struct]
  rw [e, show (10000 : Nat) = 9998 + 2 from rfl, h]; simp

theorem vSame_self (xs : Slots) (b o : Int) : vSame xs xs b o b o = true := by unfold vSame; simp

end Go.Proofs.Ytlpbehokcogcpaa

/-
  CONTRACTS: shared green, the model, at phases with a capacity.
-/
namespace Go.Proofs.Ytlpbehokcogcpaa
open Go Go.ChangeShapes Go.WideShapes Go.ChangeAt Go.RowKit Go.Deep
set_option maxRecDepth 100000

set_option maxHeartbeats 4000000 in
theorem sShareGreen_anyZ (cp : Nat) (yz : Array Value) (G : Nat) (ps : List P8) (hn : ps.length ≤ 1048576) (ds : List Nat) (hl : ds.length = 8) (hx : ∀ x ∈ ds, x < 4294967296) (cy bt : Int) (T : TypeId) (w : World) (A0 : At w G (fmY ps yz) T) :
    Calls Try.prog 6 #[(.slice (some ⟨G, 0, none⟩) ps.length cp), .agg (fl ds), .int .i64 cy, .int .i64 bt] w fun e w' => PR w w' (vShg ps ds cy bt).1 (vShg ps ds cy bt).2.1 (vShg ps ds cy bt).2.2.1 (vShg ps ds cy bt).2.2.2 e := by
  obtain ⟨n, hnn⟩ : ∃ n, n = ps.length := ⟨_, rfl⟩
  rw [← hnn]
  have HN := Lib.hid hnn
  rw [← hnn] at hn
  clear hnn
  have D0 : At ((w.alloc (.cells (fl ds) 24)).alloc (.cells (#[.slice none 0 0, .int .i64 0, .int .i64 0]) 28)) w.heap.size (fl ds) 24 := (At.new w _ _).alloc _
  have Z0 : At ((w.alloc (.cells (fl ds) 24)).alloc (.cells (#[.slice none 0 0, .int .i64 0, .int .i64 0]) 28)) (w.heap.size + 1) (plC (.slice none 0 0) 0 0) 28 := At.last1 w _ _ _
  have A1 := (A0.alloc (.cells (fl ds) 24)).alloc (.cells (#[.slice none 0 0, .int .i64 0, .int .i64 0]) 28)
  have B0 := Lib.hid (bnew (b0 w (.cells (fl ds) 24)) (.cells (#[.slice none 0 0, .int .i64 0, .int .i64 0]) 28))
  have hGw := A0.lt
  have hsz2 : (((w.alloc (.cells (fl ds) 24)).alloc (.cells (#[.slice none 0 0, .int .i64 0, .int .i64 0]) 28))).heap.size = w.heap.size + 1 + 1 := by simp
  obtain ⟨w1, hw1⟩ : ∃ w1, w1 = ((w.alloc (.cells (fl ds) 24)).alloc (.cells (#[.slice none 0 0, .int .i64 0, .int .i64 0]) 28)) := ⟨_, rfl⟩
  rw [← hw1] at D0 Z0 A1 B0 hsz2
  have KN := l00In_b (n : Int) 1 8 w1
  cases e1 : inB 1 8 (n : Int)
  · have hv := Lib.hid (vShg_no (ps := ps) (ds := ds) (cy := cy) (bt := bt) (fun h => by have hnn := HN.out; unfold inB at e1; have := h.1; have := h.2.1; simp at e1; omega))
    rw [e1] at KN
    go_enter Try.func6, Try.ntmps6
    rw [hw1] at KN
    go_wp2_with fail
    refine KN.mono ?_
    rintro e w2 ⟨rfl, m1, rfl⟩
    rw [← hw1]
    have Z1 := Z0.drewN m1
    have B1 := Lib.hid (bdrew B0.out m1)
    generalize World.drewN w1 m1 = w2 at Z1 B1 ⊢
    clear KN D0 Z0 A1 B0 hw1 A0
    go_wp2_with fail
    go_loopw [11, 12] (fun o i wr => ∃ k : Nat, k ≤ 8 ∧ i = .int .i64 (k : Int) ∧ o = .bool false ∧ wr = w2) (fun _ i _ => 8 - (intOf i).toNat)
    case atStart => exact ⟨0, by omega, rfl, rfl, rfl⟩
    case round =>
      obtain ⟨k, hk, rfl, rfl, rfl⟩ := hrel
      by_cases hlt : k < 8
      · have s2 : IntKind.i64.wrap ((k : Int) + 1) = (k : Int) + 1 := IntWalk.i64_in _ (by omega)
        have kd : (k : Int) < 8 := by omega
        go_wp2_with fail
        exact ⟨⟨k + 1, by omega, by go_num, rfl, by trivial⟩, by simp [intOf]; omega⟩
      · obtain rfl : k = 8 := by omega
        have R9 := Z1.setRow (plC (.slice none 0 0) 0 0)
        have B9 := Lib.hid (bset B1.out (g := w.heap.size + 1) (by omega) (plC (.slice none 0 0) 0 0))
        go_wp2_with (((with_reducible refine is_store 28 _ _ rfl ?_); refine wpList_store_at rfl 28 _ _ rfl _ rfl (plC (.slice none 0 0) 0 0) rfl (plC (.slice none 0 0) 0 0) _ (by with_reducible assumption) 3 (plC_size _ _ _) (plC_size _ _ _) (by kernel_rfl) (pl_one _ rfl _ _) ?_))
        exact bodyPost_ret (v := .tuple #[.agg (plC (.slice none 0 0) 0 0), .int .i64 2]) (results_at_tmp (p := 8) (ty := 28) rfl _ _ _ (plC (.slice none 0 0) 0 0) _ (.int .i64 2) rfl rfl R9 _ Try.underlying28 rfl 3 (plC_size _ _ _) (by kernel_rfl)) rfl ⟨⟨_, by rw [hv.out], by rw [hv.out]; exact OwnSl.nil _ _⟩, B9.out⟩
  · rw [e1] at KN
    have KB := fun w => l00In_b bt 0 240 w
    cases e2 : inB 0 240 bt
    · have hv := Lib.hid (vShg_no (ps := ps) (ds := ds) (cy := cy) (bt := bt) (fun h => by unfold inB at e2; have := h.2.2.2.1; have := h.2.2.2.2.1; simp at e2; omega))
      rw [e2] at KB
      go_enter Try.func6, Try.ntmps6
      rw [hw1] at KN
      go_wp2_with fail
      refine KN.mono ?_
      rintro e w2 ⟨rfl, m1, rfl⟩
      go_wp2_with fail
      refine (KB _).mono ?_
      rintro e w3 ⟨rfl, m2, rfl⟩
      rw [← hw1]
      have Z1 := (Z0.drewN m1).drewN m2
      have B1 := Lib.hid (bdrew (bdrew B0.out m1) m2)
      generalize World.drewN (World.drewN w1 m1) m2 = w2 at Z1 B1 ⊢
      clear KN KB D0 Z0 A1 B0 hw1 A0
      go_wp2_with fail
      go_loopw [11, 12] (fun o i wr => ∃ k : Nat, k ≤ 8 ∧ i = .int .i64 (k : Int) ∧ o = .bool false ∧ wr = w2) (fun _ i _ => 8 - (intOf i).toNat)
      case atStart => exact ⟨0, by omega, rfl, rfl, rfl⟩
      case round =>
        obtain ⟨k, hk, rfl, rfl, rfl⟩ := hrel
        by_cases hlt : k < 8
        · have s2 : IntKind.i64.wrap ((k : Int) + 1) = (k : Int) + 1 := IntWalk.i64_in _ (by omega)
          have kd : (k : Int) < 8 := by omega
          go_wp2_with fail
          exact ⟨⟨k + 1, by omega, by go_num, rfl, by trivial⟩, by simp [intOf]; omega⟩
        · obtain rfl : k = 8 := by omega
          have R9 := Z1.setRow (plC (.slice none 0 0) 0 0)
          have B9 := Lib.hid (bset B1.out (g := w.heap.size + 1) (by omega) (plC (.slice none 0 0) 0 0))
          go_wp2_with (((with_reducible refine is_store 28 _ _ rfl ?_); refine wpList_store_at rfl 28 _ _ rfl _ rfl (plC (.slice none 0 0) 0 0) rfl (plC (.slice none 0 0) 0 0) _ (by with_reducible assumption) 3 (plC_size _ _ _) (plC_size _ _ _) (by kernel_rfl) (pl_one _ rfl _ _) ?_))
          exact bodyPost_ret (v := .tuple #[.agg (plC (.slice none 0 0) 0 0), .int .i64 2]) (results_at_tmp (p := 8) (ty := 28) rfl _ _ _ (plC (.slice none 0 0) 0 0) _ (.int .i64 2) rfl rfl R9 _ Try.underlying28 rfl 3 (plC_size _ _ _) (by kernel_rfl)) rfl ⟨⟨_, by rw [hv.out], by rw [hv.out]; exact OwnSl.nil _ _⟩, B9.out⟩
    · rw [e2] at KB
      have KC := fun w => l00In_b cy 0 240 w
      cases e3 : inB 0 240 cy
      · have hv := Lib.hid (vShg_no (ps := ps) (ds := ds) (cy := cy) (bt := bt) (fun h => by
          have h1 := g_mul h.2.1 h.2.2.2.1 h.2.2.2.2.1
          unfold inB at e3; have := h.2.2.2.2.2.1; have := h.2.2.2.2.2.2; simp at e3; omega))
        rw [e3] at KC
        go_enter Try.func6, Try.ntmps6
        rw [hw1] at KN
        go_wp2_with fail
        refine KN.mono ?_
        rintro e w2 ⟨rfl, m1, rfl⟩
        go_wp2_with fail
        refine (KB _).mono ?_
        rintro e w3 ⟨rfl, m2, rfl⟩
        go_wp2_with fail
        refine (KC _).mono ?_
        rintro e w4 ⟨rfl, m3, rfl⟩
        rw [← hw1]
        have Z1 := (Z0.drewN (m1 + m2)).drewN m3
        have B1 := Lib.hid (bdrew (bdrew B0.out (m1 + m2)) m3)
        generalize World.drewN (World.drewN w1 (m1 + m2)) m3 = w2 at Z1 B1 ⊢
        clear KN KB KC D0 Z0 A1 B0 hw1 A0
        go_wp2_with fail
        go_loopw [11, 12] (fun o i wr => ∃ k : Nat, k ≤ 8 ∧ i = .int .i64 (k : Int) ∧ o = .bool false ∧ wr = w2) (fun _ i _ => 8 - (intOf i).toNat)
        case atStart => exact ⟨0, by omega, rfl, rfl, rfl⟩
        case round =>
          obtain ⟨k, hk, rfl, rfl, rfl⟩ := hrel
          by_cases hlt : k < 8
          · have s2 : IntKind.i64.wrap ((k : Int) + 1) = (k : Int) + 1 := IntWalk.i64_in _ (by omega)
            have kd : (k : Int) < 8 := by omega
            go_wp2_with fail
            exact ⟨⟨k + 1, by omega, by go_num, rfl, by trivial⟩, by simp [intOf]; omega⟩
          · obtain rfl : k = 8 := by omega
            have R9 := Z1.setRow (plC (.slice none 0 0) 0 0)
            have B9 := Lib.hid (bset B1.out (g := w.heap.size + 1) (by omega) (plC (.slice none 0 0) 0 0))
            go_wp2_with (((with_reducible refine is_store 28 _ _ rfl ?_); refine wpList_store_at rfl 28 _ _ rfl _ rfl (plC (.slice none 0 0) 0 0) rfl (plC (.slice none 0 0) 0 0) _ (by with_reducible assumption) 3 (plC_size _ _ _) (plC_size _ _ _) (by kernel_rfl) (pl_one _ rfl _ _) ?_))
            exact bodyPost_ret (v := .tuple #[.agg (plC (.slice none 0 0) 0 0), .int .i64 2]) (results_at_tmp (p := 8) (ty := 28) rfl _ _ _ (plC (.slice none 0 0) 0 0) _ (.int .i64 2) rfl rfl R9 _ Try.underlying28 rfl 3 (plC_size _ _ _) (by kernel_rfl)) rfl ⟨⟨_, by rw [hv.out], by rw [hv.out]; exact OwnSl.nil _ _⟩, B9.out⟩
      · rw [e3] at KC
        go_enter Try.func6, Try.ntmps6
        rw [hw1] at KN
        go_wp2_with fail
        refine KN.mono ?_
        rintro e w2 ⟨rfl, m1, rfl⟩
        go_wp2_with fail
        refine (KB _).mono ?_
        rintro e w3 ⟨rfl, m2, rfl⟩
        go_wp2_with fail
        refine (KC _).mono ?_
        rintro e w4 ⟨rfl, m3, rfl⟩
        rw [← hw1]
        have Z1 := (Z0.drewN (m1 + m2)).drewN m3
        have D1 := (D0.drewN (m1 + m2)).drewN m3
        have A2 := (A1.drewN (m1 + m2)).drewN m3
        have B1 := Lib.hid (bdrew (bdrew B0.out (m1 + m2)) m3)
        have hsz3 : (World.drewN (World.drewN w1 (m1 + m2)) m3).heap.size = w.heap.size + 1 + 1 := hsz2
        generalize World.drewN (World.drewN w1 (m1 + m2)) m3 = w2 at Z1 D1 A2 B1 hsz3 ⊢
        clear KN KB KC D0 Z0 A1 B0 hw1 A0 hsz2
        have hn8 : 1 ≤ n ∧ n ≤ 8 := by unfold inB at e1; simp at e1; omega
        have hb240 : 0 ≤ bt ∧ bt ≤ 240 := by unfold inB at e2; simpa using e2
        have hc240 : 0 ≤ cy ∧ cy ≤ 240 := by unfold inB at e3; simpa using e3
        clear e1 e2 e3
        go_wp2_with fail
        go_loopw [11, 12] (fun o i wr => ∃ (k m : Nat) (q : Bool), k ≤ 8 ∧ i = .int .i64 (k : Int) ∧ o = .bool q ∧ Hid (q = (ds.take k).all amtB) ∧ wr = w2.drewN m) (fun _ i _ => 8 - (intOf i).toNat)
        case atStart => exact ⟨0, 0, true, by omega, rfl, rfl, Lib.hid rfl, rfl⟩
        case round =>
          obtain ⟨k, m, q, hk, rfl, rfl, hq, rfl⟩ := hrel
          by_cases hlt : k < 8
          · have s2 : IntKind.i64.wrap ((k : Int) + 1) = (k : Int) + 1 := IntWalk.i64_in _ (by omega)
            have kd : (k : Int) < 8 := by omega
            cases q
            · have hq2 := Lib.hid (all_tk_no hq.out.symm)
              go_wp2_with fail
              exact ⟨⟨k + 1, m, false, by omega, by go_num, rfl, Lib.hid hq2.out.symm, by trivial⟩, by simp [intOf]; omega⟩
            · have hq2 := Lib.hid (all_tk_yes (by omega) hq.out.symm)
              have c1 : (w2.drewN m).cell? ⟨w.heap.size, k, none⟩ = some (.float .f32 (nth ds k)) := (D1.drewN m).cell (fl_get (by omega))
              have hw : nth ds k < 4294967296 := by
                refine hx _ ?_
                show (ds[k]?).getD 0 ∈ ds
                rw [List.getElem?_eq_getElem (by omega), Option.getD_some]; exact List.getElem_mem (by omega)
              have KA := l01Amount_any (nth ds k) hw (w2.drewN m)
              go_wp2_with fail
              refine KA.mono ?_
              rintro e w3 ⟨rfl, m2, rfl⟩
              go_wp2_with fail
              exact ⟨⟨k + 1, m + m2, amtB (nth ds k), by omega, by go_num, rfl, Lib.hid hq2.out.symm, rfl⟩, by simp [intOf]; omega⟩
          · obtain rfl : k = 8 := by omega
            rw [← hl, List.take_length] at hq
            have hm := g_mul hn8.2 hb240.1 hb240.2
            have Z3 := Z1.drewN m
            have D3 := D1.drewN m
            have A3 := A2.drewN m
            have B3 := Lib.hid (bdrew B1.out m)
            have hsz4 : (w2.drewN m).heap.size = w.heap.size + 1 + 1 := hsz3
            generalize World.drewN w2 m = w3 at Z3 D3 A3 B3 hsz4 ⊢
            clear Z1 D1 A2 B1 hsz3
            cases q
            · have hv := Lib.hid (vShg_no (ps := ps) (ds := ds) (cy := cy) (bt := bt) (fun h => by
                have := h.2.2.1
                rw [← hq.out] at this
                cases this))
              have R9 := Z3.setRow (plC (.slice none 0 0) 0 0)
              have B9 := Lib.hid (bset B3.out (g := w.heap.size + 1) (by omega) (plC (.slice none 0 0) 0 0))
              go_wp2_with (((with_reducible refine is_store 28 _ _ rfl ?_); refine wpList_store_at rfl 28 _ _ rfl _ rfl (plC (.slice none 0 0) 0 0) rfl (plC (.slice none 0 0) 0 0) _ (by with_reducible assumption) 3 (plC_size _ _ _) (plC_size _ _ _) (by kernel_rfl) (pl_one _ rfl _ _) ?_))
              exact bodyPost_ret (v := .tuple #[.agg (plC (.slice none 0 0) 0 0), .int .i64 2]) (results_at_tmp (p := 8) (ty := 28) rfl _ _ _ (plC (.slice none 0 0) 0 0) _ (.int .i64 2) rfl rfl R9 _ Try.underlying28 rfl 3 (plC_size _ _ _) (by kernel_rfl)) rfl ⟨⟨_, by rw [hv.out], by rw [hv.out]; exact OwnSl.nil _ _⟩, B9.out⟩
            · have hall := hq.out.symm
              have s11 : IntKind.i64.wrap (1 + bt) = 1 + bt := IntWalk.i64_in _ (by omega)
              have s12 : IntKind.i64.wrap ((n : Int) * (1 + bt)) = (n : Int) * (1 + bt) := IntWalk.i64_in _ (by omega)
              by_cases h6 : cy < (n : Int) * (1 + bt)
              · have hv := Lib.hid (vShg_no (ps := ps) (ds := ds) (cy := cy) (bt := bt) (fun h => by have := h.2.2.2.2.2.1; rw [← HN.out] at this; omega))
                clear hall hq
                have R9 := Z3.setRow (plC (.slice none 0 0) 0 0)
                have B9 := Lib.hid (bset B3.out (g := w.heap.size + 1) (by omega) (plC (.slice none 0 0) 0 0))
                go_wp2_with (((with_reducible refine is_store 28 _ _ rfl ?_); refine wpList_store_at rfl 28 _ _ rfl _ rfl (plC (.slice none 0 0) 0 0) rfl (plC (.slice none 0 0) 0 0) _ (by with_reducible assumption) 3 (plC_size _ _ _) (plC_size _ _ _) (by kernel_rfl) (pl_one _ rfl _ _) ?_))
                exact bodyPost_ret (v := .tuple #[.agg (plC (.slice none 0 0) 0 0), .int .i64 2]) (results_at_tmp (p := 8) (ty := 28) rfl _ _ _ (plC (.slice none 0 0) 0 0) _ (.int .i64 2) rfl rfl R9 _ Try.underlying28 rfl 3 (plC_size _ _ _) (by kernel_rfl)) rfl ⟨⟨_, by rw [hv.out], by rw [hv.out]; exact OwnSl.nil _ _⟩, B9.out⟩
              · have hv := Lib.hid (vShg_yes (ps := ps) (ds := ds) (cy := cy) (bt := bt) ⟨by have := HN.out; omega, by have := HN.out; omega, hall, hb240.1, hb240.2, by rw [← HN.out]; omega, hc240.2⟩)
                have hd := amts_nth hall
                have HZ := Lib.hid (show ps.length ≠ 0 by have := HN.out; omega)
                clear hall hq
                obtain ⟨l, hll⟩ : ∃ l : Nat, (l : Int) = cy - (n : Int) * (1 + bt) := ⟨(cy - (n : Int) * (1 + bt)).toNat, by omega⟩
                have hv2 := Lib.hid (show vShg ps ds cy bt = (shr ds (ones ps) l, bt, 0, 0) from by rw [hv.out, ← HN.out, ← hll, Int.toNat_natCast])
                have s13 : IntKind.i64.wrap (cy - (n : Int) * (1 + bt)) = (l : Int) := by rw [← hll]; exact IntWalk.i64_in _ (by omega)
                have hl240 : l ≤ 240 := by omega
                obtain ⟨i0, hi, hz0, hz1, hz2⟩ := info_float
                obtain ⟨i1, hi1, hy0, hy1, hy2⟩ := info_slot
                clear hv hll
                have N3 : At (w3.alloc (.cells (#[.slice none 0 0, .int .i64 0, .int .i64 0]) 28)) w3.heap.size (plC (.slice none 0 0) 0 0) 28 := At.new w3 (#[.slice none 0 0, .int .i64 0, .int .i64 0]) 28
                have P5 := (N3.setRow (plC (.slice none 0 0) bt 0)).alloc (.cells #[] 23)
                have D5 := ((D3.alloc (.cells (#[.slice none 0 0, .int .i64 0, .int .i64 0]) 28)).setRow_other (k := w3.heap.size) (by omega) (plC (.slice none 0 0) bt 0)).alloc (.cells #[] 23)
                have Z5 := ((Z3.alloc (.cells (#[.slice none 0 0, .int .i64 0, .int .i64 0]) 28)).setRow_other (k := w3.heap.size) (by omega) (plC (.slice none 0 0) bt 0)).alloc (.cells #[] 23)
                have A5 := ((A3.alloc (.cells (#[.slice none 0 0, .int .i64 0, .int .i64 0]) 28)).setRow_other (k := w3.heap.size) (by omega) (plC (.slice none 0 0) bt 0)).alloc (.cells #[] 23)
                have B5 := Lib.hid (bnew (bset (bnew B3.out (.cells (#[.slice none 0 0, .int .i64 0, .int .i64 0]) 28)) (g := w3.heap.size) (by omega) (plC (.slice none 0 0) bt 0)) (.cells #[] 23))
                have F5 := OwnF.empty (w := ((w3.alloc (.cells (#[.slice none 0 0, .int .i64 0, .int .i64 0]) 28)).setRow w3.heap.size (plC (.slice none 0 0) bt 0))) (s := w3.heap.size + 1) (lo := w3.heap.size + 1) (by simp) (Nat.le_refl _)
                have h6' : decide (cy < (n : Int) * (1 + bt)) = false := decide_eq_false h6
                have HS4 := Lib.hid hsz4
                clear hsz4
                go_wp2_with (first
                  | ((with_reducible refine is_bld 28 _ rfl ?_); refine wpList_bld rfl 28 _ rfl #[(1, .int .i64 bt)] (by kernel_rfl) (plC (.slice none 0 0) bt 0) (by kernel_rfl) ?_)
                  | ((with_reducible refine is_store 28 _ _ rfl ?_); refine wpList_store_at rfl 28 _ _ rfl _ rfl (plC (.slice none 0 0) bt 0) rfl (plC (.slice none 0 0) 0 0) _ N3 3 (plC_size _ _ _) (plC_size _ _ _) (by kernel_rfl) (pl_one _ rfl _ _) ?_)
                  | ((with_reducible refine is_bslice 47 0 _ rfl ?_); refine wpList_bslice rfl 47 0 _ rfl #[] (by simp) _ (run_noF _) ?_))
                clear N3 D3 Z3 A3 B3 h6 h6'
                have hsz4 := HS4.out
                obtain ⟨P, hP⟩ : ∃ P, P = w3.heap.size := ⟨_, rfl⟩
                rw [← hP] at hsz4
                rw [← hP] at P5 D5 Z5 A5 B5 F5 ⊢
                clear hP
                have HS4 := Lib.hid hsz4
                have hPw : w.heap.size + 1 < P := by omega
                clear hsz4
                obtain ⟨B, hB⟩ : ∃ B, B = P + 1 := ⟨_, rfl⟩
                rw [← hB] at F5 ⊢
                have hPB : P < B := by omega
                have hBP : B ≤ P + 1 := by omega
                clear hB
                generalize World.alloc (World.setRow _ P _) (.cells #[] 23) = w5 at P5 D5 Z5 A5 B5 F5 ⊢
                have S5 : OwnSl w5 B (.slice none 0 0) (ones (ps.take 0)) := OwnSl.nil _ _
                have F5 : OwnF w5 B _ (wtL ds ps 0) := F5
                go_loopw [14, 15] (fun v i wr => ∃ (k : Nat) (sv : Value), k ≤ n ∧ i = .int .i64 (k : Int) ∧ OwnF wr B v (wtL ds ps k) ∧ OwnSl wr B sv (ones (ps.take k)) ∧ At wr P (plC sv bt 0) 28 ∧ At wr w.heap.size (fl ds) 24 ∧ At wr (w.heap.size + 1) (plC (.slice none 0 0) 0 0) 28 ∧ At wr G (fmY ps yz) T ∧ Hid (Below w.heap.size w wr)) (fun _ i _ => n - (intOf i).toNat)
                case atStart => exact ⟨0, _, by omega, rfl, F5, S5, P5, D5, Z5, A5, B5⟩
                case round =>
                  clear P5 D5 Z5 A5 B5 F5 S5
                  obtain ⟨k, sv, hk, rfl, F1, S1, P1, D1, Z1, A1, B1⟩ := hrel
                  by_cases hlt : k < n
                  · have s2 : IntKind.i64.wrap ((k : Int) + 1) = (k : Int) + 1 := IntWalk.i64_in _ (by omega)
                    have kd : (k : Int) < (n : Int) := by omega
                    have hkl : k < ps.length := by rw [← HN.out]; exact hlt
                    obtain ⟨fa, fc, hvF⟩ := F1.any
                    rw [wtL_len] at hvF
                    subst hvF
                    obtain ⟨va, vc, hvS⟩ := S1.any
                    rw [ones_tlen (Nat.le_of_lt hkl)] at hvS
                    subst hvS
                    have hle : k * 8 + 8 ≤ (fmY ps yz).size := by have := fmY_size ps yz; omega
                    have hsl := fmY_at yz hkl (k := k * 8) rfl
                    have hb8 := (fe z8 ps k).2
                    have hT := Lib.hid (ones_take hkl)
                    have hWn := Lib.hid (wtL_next ds ps k)
                    have hrow := Lib.hid (fun q (hq : q < 8) => show (fmY ps yz)[k * 8 + q]? = some (.bool (bn (fe z8 ps k).1 q)) from by rw [fmY_get yz hkl hq]; exact f8_get _ hq)
                    change (fmY ps yz).extract (k * 8) (k * 8 + 8) = bl (fe z8 ps k).1 at hsl
                    generalize (fe z8 ps k).1 = row at hb8 hsl hT hWn hrow
                    have hbs := built_slot row hb8 1
                    have HL := Lib.hid (fun (w' : World) (h : At w' G (fmY ps yz) T) => show (Instr.loadAt 43 (.pointer (some ⟨G, k * 8, none⟩))).run Try.prog w' = .ok (.agg (bl row)) w' from by
                      have := run_loadAt_part (P := Try.prog) w' G (k * 8) 8 43 (fmY ps yz) T (0, 0) _ h Try.underlying43 rfl (by kernel_rfl) hle
                      rwa [hsl] at this)
                    have HI := Lib.hid (fun (w' : World) => show (Instr.indexAt 31 (.slice (some ⟨G, 0, none⟩) n cp) (.int .i64 (k : Int))).run Try.prog w' = .ok (.pointer (some ⟨G, k * 8, none⟩)) w' from by
                      have := run_indexS (P := Try.prog) w' 31 43 G 0 n cp k 8 Try.underlying31 (by kernel_rfl) hlt
                      rwa [Nat.zero_add] at this)
                    clear hsl hle
                    have hBw : P < wr.heap.size := P1.lt
                    have hGB : G < B := by omega
                    go_wp2_with fail
                    go_loopw [16, 17] (fun x i wq => ∃ (q x0 : Nat), q ≤ 8 ∧ i = .int .i64 (q : Int) ∧ x = .float .f32 x0 ∧ Hid (x0 = wtK ds row q) ∧ wq = wr) (fun _ i _ => 8 - (intOf i).toNat)
                    case atStart => exact ⟨0, 0, by omega, rfl, rfl, Lib.hid rfl, rfl⟩
                    case round =>
                      obtain ⟨q, x0, hq, rfl, rfl, hx0, rfl⟩ := hrel
                      have hx1 : x0 < 2139095040 := by rw [hx0.out]; exact wtK_lt hd row q
                      by_cases hlq : q < 8
                      · have s3 : IntKind.i64.wrap ((q : Int) + 1) = (q : Int) + 1 := IntWalk.i64_in _ (by omega)
                        have qd : (q : Int) < 8 := by omega
                        have c0 := A1.cell (hrow.out q hlq)
                        have c1 : wr.cell? ⟨w.heap.size, q, none⟩ = some (.float .f32 (nth ds q)) := D1.cell (fl_get (by omega))
                        have hgt := gt_amt (x := nth ds q) (y := x0) (Nat.le_of_lt (hd q)) (Nat.le_of_lt hx1)
                        cases hbq : bn row q
                        · rw [hbq] at c0
                          have hx2 := Lib.hid (show x0 = wtK ds row (q + 1) from by rw [wtK_no hbq]; exact hx0.out)
                          clear hbq hgt
                          go_wp2_with fail
                          exact ⟨⟨q + 1, x0, by omega, by go_num, rfl, hx2, by trivial⟩, by simp [intOf]; omega⟩
                        · rw [hbq] at c0
                          by_cases hc : x0 < nth ds q
                          · have hx2 := Lib.hid (show nth ds q = wtK ds row (q + 1) from by rw [wtK_yes hbq, ← hx0.out]; omega)
                            rw [decide_eq_true hc] at hgt
                            clear hbq hc
                            go_wp2_with fail
                            exact ⟨⟨q + 1, _, by omega, by go_num, rfl, hx2, by trivial⟩, by simp [intOf]; omega⟩
                          · have hx2 := Lib.hid (show x0 = wtK ds row (q + 1) from by rw [wtK_yes hbq, ← hx0.out]; omega)
                            rw [decide_eq_false hc] at hgt
                            clear hbq hc
                            go_wp2_with fail
                            exact ⟨⟨q + 1, x0, by omega, by go_num, rfl, hx2, by trivial⟩, by simp [intOf]; omega⟩
                      · obtain rfl : q = 8 := by omega
                        rw [← hx0.out] at hWn
                        clear hx0 hx1
                        go_wp2_with (first | ((with_reducible refine is_bslice 47 1 _ rfl ?_); refine wpList_bslice rfl 47 1 _ rfl #[(0, .float .f32 (x0))] (by kernel_rfl) _ (run_oneF _ (x0)) ?_) | (at_builtin; go_loud (refine wpList_append_own _ rfl _ _ 47 rfl B 23 i0 (.float .f32 0) 1 4 Try.underlying47 hi hz0 hz1 hz2 rfl (by decide) _ (wtL ds ps k).length _ rfl (F1.step (b0 _ _)) ⟨wr.heap.size, 0, none⟩ 1 1 [.float .f32 (x0)] rfl rfl (one_cellsF wr (x0)) (fun u hu => by simp at hu; subst hu; rfl) (by rw [wtL_len]; unfold maxLen; omega) (by rw [wtL_len]; omega) (by rw [World.size_alloc]; omega) ?_)))
                        intro v' w5 hown hgrow _
                        have F5 : OwnF w5 B v' (wtL ds ps (k + 1)) := by
                          rw [← hWn.out]
                          exact OwnF.grown hown
                        have S5 := (S1.step (b0 _ (.cells #[.float .f32 x0] 23))).keepG hgrow (fun q hq e => own_apart S1 F1 q hq e)
                        have P5 := (P1.alloc (.cells #[.float .f32 x0] 23)).keepF hgrow (fun q hq e => by have := (F1.block q hq).1; omega)
                        have D5 := (D1.alloc (.cells #[.float .f32 x0] 23)).keepF hgrow (fun q hq e => by have := (F1.block q hq).1; omega)
                        have Z5 := (Z1.alloc (.cells #[.float .f32 x0] 23)).keepF hgrow (fun q hq e => by have := (F1.block q hq).1; omega)
                        have A5 := (A1.alloc (.cells #[.float .f32 x0] 23)).keepF hgrow (fun q hq e => by have := (F1.block q hq).1; omega)
                        have B5 := Lib.hid ((bnew B1.out (.cells #[.float .f32 x0] 23)).trans (Below.grownBy hgrow (by rw [World.size_alloc]; omega) (fun q hq => by have := (F1.block q hq).1; omega)))
                        clear hown hgrow F1 S1 P1 D1 Z1 A1 B1
                        go_wp2_with fail
                        refine wp_region_held (S := fun w' => At w' G (fmY ps yz) T) (by kernel_rfl) ?_
                        show wpAnyH _ _ _ _ _ 11 (Array.replicate 11 false) _ _
                        obtain ⟨w6, hw6⟩ : ∃ w6 : World, w6 = { w5 with drawn := w5.drawn + 1 } := ⟨_, rfl⟩
                        have hb6 : Below w5.heap.size w5 w6 := by rw [hw6]; exact bdrew (Below.refl _ w5) 1
                        have SS6 := A5.step hb6
                        have P6 := P5.step hb6
                        have D6 := D5.step hb6
                        have Z6 := Z5.step hb6
                        have F6 := F5.step hb6
                        have S6 := S5.step hb6
                        have B6 := Lib.hid (bthen B5.out hb6)
                        rw [← hw6]
                        clear A5 P5 D5 Z5 F5 S5 B5 hb6 hw6
                        have hB6 : B ≤ w6.heap.size := by have := P6.lt; omega
                        refine wpAnyH_take (i := 0) (v := .pointer (some ⟨P, 0, none⟩)) rfl (by kernel_rfl) (by kernel_rfl) (by kernel_rfl) (fun _ _ _ h => h) (yif rfl fun w2 hw2 => by kernel_rfl) (by assumption) ?_
                        refine wpAnyH_take (i := 2) (v := .slice (some ⟨G, 0, none⟩) n cp) rfl (by kernel_rfl) (by kernel_rfl) (by kernel_rfl) (fun _ _ _ h => h) (yif rfl fun w2 hw2 => by kernel_rfl) (by assumption) ?_
                        refine wpAnyH_take (i := 3) (v := .int .i64 (k : Int)) rfl (by kernel_rfl) (by kernel_rfl) (by kernel_rfl) (fun _ _ _ h => h) (yif rfl fun w2 hw2 => by kernel_rfl) (by assumption) ?_
                        refine wpAnyH_take (i := 4) (v := .pointer (some ⟨G, k * 8, none⟩)) rfl (by kernel_rfl) (by kernel_rfl) (by kernel_rfl) (fun _ _ _ h => h) (yif rfl fun w' hw' => x_index 31 (.tmp 90) (.tmp 91) rfl _ _ (by kernel_rfl) (by kernel_rfl) (HI.out w')) (by assumption) ?_
                        refine wpAnyH_take (i := 5) (v := .agg (bl row)) rfl (by kernel_rfl) (by kernel_rfl) (by kernel_rfl) (fun _ _ _ h => h) (yif rfl fun w' hw' => x_load 43 (.tmp 92) rfl ⟨G, k * 8, none⟩ (by kernel_rfl) (HL.out w' hw')) (by assumption) ?_
                        refine wpAnyH_take (i := 6) (v := .agg (sl1 row 1)) rfl (by kernel_rfl) (by kernel_rfl) (by kernel_rfl) (fun _ _ _ h => h) (yif rfl fun w' hw' => x_bld 49 _ rfl #[(0, .agg (bl row)), (1, .int .i64 1)] (by kernel_rfl) (sl1 row 1) hbs) (by assumption) ?_
                        refine wpAnyH_all (rs := [1, 7]) (by kernel_rfl) (by simp) fun i9 hi9 => ?_
                        rcases two_of8 hi9 with rfl | rfl
                        · refine op_value (v := .slice va k vc) (w' := w6) rfl rfl (x_cell 26 (.tmp 88) rfl ⟨P, 0, none⟩ (by kernel_rfl) _ Try.underlying26 rfl (P6.cell (plC_0 _ _ _))) ⟨SS6, ?_⟩
                          refine wpAnyH_all (rs := [7]) (by kernel_rfl) (by simp) fun _ hi8 => ?_
                          obtain rfl := one_of hi8
                          refine op_value (v := .slice (some ⟨w6.heap.size, 0, none⟩) 1 1) (w' := w6.alloc (.cells (sl1 row 1) 49)) rfl rfl (x_bslice 26 1 _ rfl #[(0, .agg (sl1 row 1))] (by kernel_rfl) (run_oneSl _ row hb8 1)) ⟨SS6.alloc _, ?_⟩
                          have hcell := one_cellsSl w6 (row, 1)
                          obtain ⟨gn, hgn⟩ : ∃ gn, gn = w6.heap.size := ⟨_, rfl⟩
                          rw [← hgn]
                          rw [← hgn] at hcell
                          obtain ⟨w7, hw7⟩ : ∃ w7, w7 = w6.alloc (.cells (sl1 row 1) 49) := ⟨_, rfl⟩
                          change ∀ j u, _ → (w6.alloc (.cells (sl1 row 1) 49)).cell? _ = _ at hcell
                          have SS7 := SS6.alloc (.cells (sl1 row 1) 49)
                          have P7 := P6.alloc (.cells (sl1 row 1) 49)
                          have D7 := D6.alloc (.cells (sl1 row 1) 49)
                          have Z7 := Z6.alloc (.cells (sl1 row 1) 49)
                          have F7 := F6.step (b0 w6 (.cells (sl1 row 1) 49))
                          have S7 := S6.step (b0 w6 (.cells (sl1 row 1) 49))
                          have B7 := Lib.hid (bnew B6.out (.cells (sl1 row 1) 49))
                          have hs7 : (w6.alloc (.cells (sl1 row 1) 49)).heap.size = w6.heap.size + 1 := by simp
                          rw [← hw7] at hcell SS7 P7 D7 Z7 F7 S7 B7 hs7 ⊢
                          have S7' := Lib.hid S7
                          clear SS6 P6 D6 Z6 F6 S6 B6 hw7 hgn
                          refine wpAnyH_all (rs := [8]) (by kernel_rfl) (by simp) fun _ hi8 => ?_
                          obtain rfl := one_of hi8
                          refine op_wp rfl rfl fun Q' => wp_append_own _ (.tmp 89) (.tmp 95) 26 rfl B 49 i1 (.agg #[.bool false, .bool false, .bool false, .bool false, .bool false, .bool false, .bool false, .bool false, .int .i64 0]) 9 16 Try.underlying26 hi1 hy0 hy1 hy2 rfl (by decide) (.slice va k vc) (ones (ps.take k)).length _ (by kernel_rfl) S7 ⟨gn, 0, none⟩ 1 1 (sll (row, 1)) (by kernel_rfl) (sll_len (s := (row, 1)) hb8) hcell (sll_one _) (by rw [ones_tlen (Nat.le_of_lt hkl)]; unfold maxLen; omega) (by rw [ones_tlen (Nat.le_of_lt hkl)]; omega) (by omega) ?_
                          intro v' w9 hown hgrow _
                          have O9 : OwnSl w9 B v' (ones (ps.take (k + 1))) := by
                            rw [← hT.out]
                            exact OwnSl.grown hown
                          have S7' : OwnSl w7 B (.slice va k vc) (ones (ps.take k)) := S7'.out
                          have F9 := F7.keepG hgrow (fun q hq e => own_apart S7' F7 q e hq)
                          have P9 := P7.keepF hgrow (fun q hq e => by have := (S7'.block q hq).1; omega)
                          have SS9 := SS7.keepF hgrow (fun q hq e => by have := (S7'.block q hq).1; omega)
                          have D9 := D7.keepF hgrow (fun q hq e => by have := (S7'.block q hq).1; omega)
                          have Z9 := Z7.keepF hgrow (fun q hq e => by have := (S7'.block q hq).1; omega)
                          have B9 := Lib.hid (B7.out.trans (Below.grownBy hgrow (by omega) (fun q hq => by have := (S7'.block q hq).1; omega)))
                          clear F7 S7 S7' P7 D7 Z7 B7 SS7 hown hgrow hcell
                          refine ⟨SS9, ?_⟩
                          obtain ⟨xa, xc, rfl⟩ := O9.any
                          refine wpAnyH_take (i := 9) (v := .pointer (some ⟨P, 0, none⟩)) rfl (by kernel_rfl) (by kernel_rfl) (by kernel_rfl) (fun _ _ _ h => h) (yif rfl fun w2 hw2 => by kernel_rfl) (by assumption) ?_
                          have hst : (Instr.storeAt 26 (.pointer (some ⟨P, 0, none⟩)) (.slice xa (ones (ps.take (k + 1))).length xc)).run Try.prog w9 = .ok () (w9.setRow P (plC (.slice xa (ones (ps.take (k + 1))).length xc) bt 0)) := by
                            have := run_storeAt_one (P := Try.prog) w9 P 0 28 26 (plC (.slice va k vc) bt 0) (.slice xa (ones (ps.take (k + 1))).length xc) P9 (by kernel_rfl) (by rw [plC_size]; omega) rfl
                            rwa [plC_s0] at this
                          have SS10 := SS9.setRow_other (k := P) (by omega) (plC (.slice xa (ones (ps.take (k + 1))).length xc) bt 0)
                          refine wpAnyH_all (rs := [10]) (by kernel_rfl) (by simp) fun _ hi8 => ?_
                          obtain rfl := one_of hi8
                          refine op_skip (w' := w9.setRow P (plC (.slice xa (ones (ps.take (k + 1))).length xc) bt 0)) rfl rfl (hx_store 26 (.tmp 97) (.tmp 96) rfl (.pointer (some ⟨P, 0, none⟩)) (.slice xa (ones (ps.take (k + 1))).length xc) (by kernel_rfl) (by kernel_rfl) hst) ⟨SS10, ?_⟩
                          refine wpAnyH_done (by kernel_rfl) ?_ _
                          have P10 := P9.setRow (plC (.slice xa (ones (ps.take (k + 1))).length xc) bt 0)
                          have D10 := D9.setRow_other (k := P) (by omega) (plC (.slice xa (ones (ps.take (k + 1))).length xc) bt 0)
                          have Z10 := Z9.setRow_other (k := P) (by omega) (plC (.slice xa (ones (ps.take (k + 1))).length xc) bt 0)
                          have F10 := F9.setRow_other (g := P) (fun q hq => by have := (F9.block q hq).1; omega) (plC (.slice xa (ones (ps.take (k + 1))).length xc) bt 0)
                          have O10 := O9.setRow_other (g := P) (fun q hq => by have := (O9.block q hq).1; omega) (plC (.slice xa (ones (ps.take (k + 1))).length xc) bt 0)
                          have B10 := Lib.hid (bset B9.out (g := P) (by omega) (plC (.slice xa (ones (ps.take (k + 1))).length xc) bt 0))
                          clear SS9 P9 D9 Z9 F9 O9 B9 hst
                          generalize World.setRow w9 P _ = w10 at SS10 P10 D10 Z10 F10 O10 B10 ⊢
                          go_simp
                          go_wp2_with fail
                          exact ⟨⟨k + 1, _, by omega, by go_num, F10, O10, P10, D10, Z10, SS10, B10⟩, by simp [intOf]; omega⟩
                        · refine op_value (v := .slice (some ⟨w6.heap.size, 0, none⟩) 1 1) (w' := w6.alloc (.cells (sl1 row 1) 49)) rfl rfl (x_bslice 26 1 _ rfl #[(0, .agg (sl1 row 1))] (by kernel_rfl) (run_oneSl _ row hb8 1)) ⟨SS6.alloc _, ?_⟩
                          have hcell := one_cellsSl w6 (row, 1)
                          obtain ⟨gn, hgn⟩ : ∃ gn, gn = w6.heap.size := ⟨_, rfl⟩
                          rw [← hgn]
                          rw [← hgn] at hcell
                          obtain ⟨w7, hw7⟩ : ∃ w7, w7 = w6.alloc (.cells (sl1 row 1) 49) := ⟨_, rfl⟩
                          change ∀ j u, _ → (w6.alloc (.cells (sl1 row 1) 49)).cell? _ = _ at hcell
                          have SS7 := SS6.alloc (.cells (sl1 row 1) 49)
                          have P7 := P6.alloc (.cells (sl1 row 1) 49)
                          have D7 := D6.alloc (.cells (sl1 row 1) 49)
                          have Z7 := Z6.alloc (.cells (sl1 row 1) 49)
                          have F7 := F6.step (b0 w6 (.cells (sl1 row 1) 49))
                          have S7 := S6.step (b0 w6 (.cells (sl1 row 1) 49))
                          have B7 := Lib.hid (bnew B6.out (.cells (sl1 row 1) 49))
                          have hs7 : (w6.alloc (.cells (sl1 row 1) 49)).heap.size = w6.heap.size + 1 := by simp
                          rw [← hw7] at hcell SS7 P7 D7 Z7 F7 S7 B7 hs7 ⊢
                          have S7' := Lib.hid S7
                          clear SS6 P6 D6 Z6 F6 S6 B6 hw7 hgn
                          refine wpAnyH_all (rs := [1]) (by kernel_rfl) (by simp) fun _ hi8 => ?_
                          obtain rfl := one_of hi8
                          refine op_value (v := .slice va k vc) (w' := w7) rfl rfl (x_cell 26 (.tmp 88) rfl ⟨P, 0, none⟩ (by kernel_rfl) _ Try.underlying26 rfl (P7.cell (plC_0 _ _ _))) ⟨SS7, ?_⟩
                          refine wpAnyH_all (rs := [8]) (by kernel_rfl) (by simp) fun _ hi8 => ?_
                          obtain rfl := one_of hi8
                          refine op_wp rfl rfl fun Q' => wp_append_own _ (.tmp 89) (.tmp 95) 26 rfl B 49 i1 (.agg #[.bool false, .bool false, .bool false, .bool false, .bool false, .bool false, .bool false, .bool false, .int .i64 0]) 9 16 Try.underlying26 hi1 hy0 hy1 hy2 rfl (by decide) (.slice va k vc) (ones (ps.take k)).length _ (by kernel_rfl) S7 ⟨gn, 0, none⟩ 1 1 (sll (row, 1)) (by kernel_rfl) (sll_len (s := (row, 1)) hb8) hcell (sll_one _) (by rw [ones_tlen (Nat.le_of_lt hkl)]; unfold maxLen; omega) (by rw [ones_tlen (Nat.le_of_lt hkl)]; omega) (by omega) ?_
                          intro v' w9 hown hgrow _
                          have O9 : OwnSl w9 B v' (ones (ps.take (k + 1))) := by
                            rw [← hT.out]
                            exact OwnSl.grown hown
                          have S7' : OwnSl w7 B (.slice va k vc) (ones (ps.take k)) := S7'.out
                          have F9 := F7.keepG hgrow (fun q hq e => own_apart S7' F7 q e hq)
                          have P9 := P7.keepF hgrow (fun q hq e => by have := (S7'.block q hq).1; omega)
                          have SS9 := SS7.keepF hgrow (fun q hq e => by have := (S7'.block q hq).1; omega)
                          have D9 := D7.keepF hgrow (fun q hq e => by have := (S7'.block q hq).1; omega)
                          have Z9 := Z7.keepF hgrow (fun q hq e => by have := (S7'.block q hq).1; omega)
                          have B9 := Lib.hid (B7.out.trans (Below.grownBy hgrow (by omega) (fun q hq => by have := (S7'.block q hq).1; omega)))
                          clear F7 S7 S7' P7 D7 Z7 B7 SS7 hown hgrow hcell
                          refine ⟨SS9, ?_⟩
                          obtain ⟨xa, xc, rfl⟩ := O9.any
                          refine wpAnyH_take (i := 9) (v := .pointer (some ⟨P, 0, none⟩)) rfl (by kernel_rfl) (by kernel_rfl) (by kernel_rfl) (fun _ _ _ h => h) (yif rfl fun w2 hw2 => by kernel_rfl) (by assumption) ?_
                          have hst : (Instr.storeAt 26 (.pointer (some ⟨P, 0, none⟩)) (.slice xa (ones (ps.take (k + 1))).length xc)).run Try.prog w9 = .ok () (w9.setRow P (plC (.slice xa (ones (ps.take (k + 1))).length xc) bt 0)) := by
                            have := run_storeAt_one (P := Try.prog) w9 P 0 28 26 (plC (.slice va k vc) bt 0) (.slice xa (ones (ps.take (k + 1))).length xc) P9 (by kernel_rfl) (by rw [plC_size]; omega) rfl
                            rwa [plC_s0] at this
                          have SS10 := SS9.setRow_other (k := P) (by omega) (plC (.slice xa (ones (ps.take (k + 1))).length xc) bt 0)
                          refine wpAnyH_all (rs := [10]) (by kernel_rfl) (by simp) fun _ hi8 => ?_
                          obtain rfl := one_of hi8
                          refine op_skip (w' := w9.setRow P (plC (.slice xa (ones (ps.take (k + 1))).length xc) bt 0)) rfl rfl (hx_store 26 (.tmp 97) (.tmp 96) rfl (.pointer (some ⟨P, 0, none⟩)) (.slice xa (ones (ps.take (k + 1))).length xc) (by kernel_rfl) (by kernel_rfl) hst) ⟨SS10, ?_⟩
                          refine wpAnyH_done (by kernel_rfl) ?_ _
                          have P10 := P9.setRow (plC (.slice xa (ones (ps.take (k + 1))).length xc) bt 0)
                          have D10 := D9.setRow_other (k := P) (by omega) (plC (.slice xa (ones (ps.take (k + 1))).length xc) bt 0)
                          have Z10 := Z9.setRow_other (k := P) (by omega) (plC (.slice xa (ones (ps.take (k + 1))).length xc) bt 0)
                          have F10 := F9.setRow_other (g := P) (fun q hq => by have := (F9.block q hq).1; omega) (plC (.slice xa (ones (ps.take (k + 1))).length xc) bt 0)
                          have O10 := O9.setRow_other (g := P) (fun q hq => by have := (O9.block q hq).1; omega) (plC (.slice xa (ones (ps.take (k + 1))).length xc) bt 0)
                          have B10 := Lib.hid (bset B9.out (g := P) (by omega) (plC (.slice xa (ones (ps.take (k + 1))).length xc) bt 0))
                          clear SS9 P9 D9 Z9 F9 O9 B9 hst
                          generalize World.setRow w9 P _ = w10 at SS10 P10 D10 Z10 F10 O10 B10 ⊢
                          go_simp
                          go_wp2_with fail
                          exact ⟨⟨k + 1, _, by omega, by go_num, F10, O10, P10, D10, Z10, SS10, B10⟩, by simp [intOf]; omega⟩
                  · obtain rfl : n = k := by omega
                    have hnl : ps.length = n := HN.out.symm
                    have hn1 : 1 ≤ n := by omega
                    rw [← hnl, List.take_length] at S1
                    obtain ⟨g, cap, zs, rfl, hBg, Y1, hy3, hy4, hy5⟩ := S1.atY (by rw [ones_len]; omega) (ones_w ps)
                    obtain ⟨gw, capw, cw, rfl, hBw, W1, -, -, hcw⟩ := F1.at (by rw [wtL_len]; omega)
                    rw [wtL_len] at hcw ⊢
                    rw [ones_len, hnl] at P1 hy3
                    have hgw : g ≠ gw := fun e => by
                      subst e
                      have a1 : wr.heap[g]? = some (.cells (slY (ones ps) zs) 49) := Y1
                      have a2 : wr.heap[g]? = some (.cells cw 23) := W1
                      rw [a1] at a2
                      simp at a2
                    have HYZ := Lib.hid (fun (X : Slots) (hX : SlW X) (hl : X.length = n) => show (slY X zs).size = cap * 9 from by
                      have h1 := slC_size (ones_w ps)
                      have h2 := slC_size hX
                      rw [ones_len, hnl] at h1
                      unfold slY at hy5 ⊢
                      rw [Array.size_append] at hy5 ⊢
                      rw [h2, hl]
                      omega)
                    have HCW := Lib.hid hcw
                    have hgP : g ≠ P := by omega
                    have hgwP : gw ≠ P := by omega
                    have hyn := hy3
                    clear S1 F1 hy5 hcw A1 D1
                    go_wp2_with fail
                    go_loopw [18] (fun i wr => ∃ j : Nat, j ≤ l ∧ i = .int .i64 ((l : Int) - (j : Int)) ∧ At wr g (slY (shr ds (ones ps) j) zs) 49 ∧ At wr gw cw 23 ∧ At wr P (plC (.slice (some ⟨g, 0, none⟩) n cap) bt 0) 28 ∧ At wr (w.heap.size + 1) (plC (.slice none 0 0) 0 0) 28 ∧ Hid (Below w.heap.size w wr)) (fun i _ => (intOf i).toNat)
                    case atStart => exact ⟨0, by omega, by simp, Y1, W1, P1, Z1, B1⟩
                    case round =>
                      clear Y1 W1 P1 Z1 B1
                      obtain ⟨j, hj, rfl, Y1, W1, P1, Z1, B1⟩ := hrel
                      by_cases hlt : j < l
                      · have kd : 0 < (l : Int) - (j : Int) := by omega
                        have s4 : IntKind.i64.wrap ((l : Int) - (j : Int) - 1) = (l : Int) - ((j + 1 : Nat) : Int) := by rw [IntWalk.i64_in _ (by omega)]; omega
                        have hX := shr_facts ds (ps := ps) HZ.out j (by omega)
                        have hXl : (shr ds (ones ps) j).length = n := by rw [shr_len, ones_len]; exact hnl
                        have hb := bst_lt (ds := ds) (xs := shr ds (ones ps) j) n (by omega)
                        have hE := Lib.hid (show inc (shr ds (ones ps) j) (bst ds (shr ds (ones ps) j) n) = shr ds (ones ps) (j + 1) from by
                          show _ = inc _ (bst ds _ (ones ps).length)
                          rw [ones_len, hnl])
                        have HT := Lib.hid (fun (i : Nat) (hi : i < n) => show ∃ m : Nat, st (shr ds (ones ps) j) i = (m : Int) ∧ (1 ≤ m ∧ m ≤ 1048576) ∧ nth (wtL ds ps n) i = wtK ds (sb (shr ds (ones ps) j) i) 8 from by
                          have h := hX.2 i (by omega)
                          refine ⟨(st (shr ds (ones ps) j) i).toNat, by omega, by omega, ?_⟩
                          rw [h.1]
                          exact wtL_nth ds ps hi)
                        have hW := hX.1
                        clear hX
                        generalize shr ds (ones ps) j = X at Y1 hXl hb hE HT hW
                        have HC := Lib.hid (fun (i : Nat) (hi : i < n) => show (slY X zs)[i * 9 + 8]? = some (.int .i64 (st X i)) from by rw [slY_get hW (by omega)]; exact slC_ticks hW (by omega) rfl)
                        have b1 := bst_one ds X
                        go_wp2_with fail
                        go_loopw [19, 20] (fun b i wq => ∃ (k b0 : Nat), 1 ≤ k ∧ k ≤ n ∧ i = .int .i64 (k : Int) ∧ b = .int .i64 (b0 : Int) ∧ Hid (b0 = bst ds X k) ∧ b0 < n ∧ Hid (Below wr.heap.size wr wq)) (fun _ i _ => n - (intOf i).toNat)
                        case atStart => exact ⟨1, 0, by omega, by omega, rfl, rfl, Lib.hid b1.symm, by omega, Lib.hid (Below.refl _ _)⟩
                        case round =>
                          clear b1
                          obtain ⟨k, b0, hk1, hk, rfl, rfl, hb0, hbn, C1⟩ := hrel
                          have Y2 := Y1.step C1.out
                          have W2 := W1.step C1.out
                          have P2 := P1.step C1.out
                          by_cases hlk : k < n
                          · have s2 : IntKind.i64.wrap ((k : Int) + 1) = (k : Int) + 1 := IntWalk.i64_in _ (by omega)
                            have kn : (k : Int) < (n : Int) := by omega
                            have bn0 : (b0 : Int) < (n : Int) := by omega
                            obtain ⟨ma, ha, hma, hwa⟩ := HT.out k hlk
                            obtain ⟨mb, hb', hmb, hwb⟩ := HT.out b0 hbn
                            have ck := HCW.out k hlk
                            have cb := HCW.out b0 hbn
                            have yk := HC.out k hlk
                            have yb := HC.out b0 hbn
                            have q1 := qB_fits hd (sb X k) hma
                            have q2 := qB_fits hd (sb X b0) hmb
                            rw [← ha] at q1
                            rw [← hb'] at q2
                            change _ = some (qt ds X k) ∧ qt ds X k ≤ _ at q1
                            change _ = some (qt ds X b0) ∧ qt ds X b0 ≤ _ at q2
                            rw [← hwa] at q1
                            rw [← hwb] at q2
                            rw [ha] at yk
                            rw [hb'] at yb
                            have hgt := gt_amt (x := qt ds X k) (y := qt ds X b0) q1.2 q2.2
                            have f1 := floatOfInt_nat ma
                            have f2 := floatOfInt_nat mb
                            have r1 := fun t w => run_float_arith (P := Try.prog) w .quo t .f32 _ _ _ q1.1
                            have r2 := fun t w => run_float_arith (P := Try.prog) w .quo t .f32 _ _ _ q2.1
                            have HB1 := Lib.hid (fun (h : qt ds X b0 < qt ds X k) => show k = bst ds X (k + 1) from by rw [hb0.out] at h; rw [bst_yes h])
                            have HB2 := Lib.hid (fun (h : ¬ qt ds X b0 < qt ds X k) => show b0 = bst ds X (k + 1) from by rw [hb0.out] at h; rw [bst_no h]; exact hb0.out)
                            clear q1 q2 ha hb' hwa hwb hma hmb
                            generalize qt ds X k = y1 at *
                            generalize qt ds X b0 = y2 at *
                            generalize nth (wtL ds ps n) k = u1 at *
                            generalize nth (wtL ds ps n) b0 = u2 at *
                            generalize fN ma = v1 at *
                            generalize fN mb = v2 at *
                            have hC := Cb.const wr
                            go_wp2_with fail
                            refine wp_region_cb (by kernel_rfl) (by kernel_rfl) ?_
                            repeat (first
                              | go_big_quiet_skip
                              | (go_big_quiet_want; first
                                | (refine q_oneG 26 _ rfl _ Try.underlying26 rfl 0 rfl P2 _ (plC_0 _ _ _) ?_; go_simp; go_big_quiet_on)
                                | (refine q_oneG 23 _ rfl _ Try.underlying23 rfl k rfl W2 _ ck ?_; go_simp; go_big_quiet_on)
                                | (refine q_oneG 23 _ rfl _ Try.underlying23 rfl b0 rfl W2 _ cb ?_; go_simp; go_big_quiet_on)
                                | (refine q_oneG 2 _ rfl _ Try.underlying2 rfl (k * 9 + 8) rfl Y2 _ yk ?_; go_simp; go_big_quiet_on)
                                | (refine q_oneG 2 _ rfl _ Try.underlying2 rfl (b0 * 9 + 8) rfl Y2 _ yb ?_; go_simp; go_big_quiet_on)
                                | (go_big_quiet_op; go_big_quiet_on)))
                            refine wpQuiet_nil ?_
                            intro w5 hw5
                            have C5 := Lib.hid (bthen C1.out hw5)
                            clear Y2 W2 P2 hC hw5 C1 r1 r2 f1 f2 yk yb ck cb
                            by_cases hc : y2 < y1
                            · have hx5 := Lib.hid (HB1.out hc)
                              clear hgt HB1 HB2
                              go_wp2_with fail
                              exact ⟨⟨k + 1, k, by omega, by omega, by go_num, rfl, hx5, by omega, C5⟩, by simp [intOf]; omega⟩
                            · have hx5 := Lib.hid (HB2.out hc)
                              clear hgt HB1 HB2
                              go_wp2_with fail
                              exact ⟨⟨k + 1, b0, by omega, by omega, by go_num, rfl, hx5, by omega, C5⟩, by simp [intOf]; omega⟩
                          · obtain rfl : n = k := by omega
                            have Z2 := Z1.step C1.out
                            have B2 := Lib.hid (bthen B1.out C1.out)
                            clear Y1 W1 P1 Z1 B1 C1
                            obtain rfl := hb0.out
                            have hbX : bst ds X n < X.length := by omega
                            obtain ⟨ma, ha, hma, -⟩ := HT.out (bst ds X n) hbn
                            have c0 : wr.cell? ⟨P, 0, none⟩ = some (.slice (some ⟨g, 0, none⟩) n cap) := P2.cell (plC_0 _ _ _)
                            have c1 : wr.cell? ⟨g, bst ds X n * 9 + 8, none⟩ = some (.int .i64 (st X (bst ds X n))) := Y2.cell (HC.out _ hbn)
                            have s3 : IntKind.i64.wrap (st X (bst ds X n) + 1) = st X (bst ds X n) + 1 := IntWalk.i64_in _ (by omega)
                            have e4' := slY_inc (zs := zs) hW hbX (by unfold I64; omega)
                            rw [hE.out] at e4'
                            have e4 := Lib.hid e4'
                            have hsz := HYZ.out X hW hXl
                            have hbI : ((bst ds X n : Nat) : Int) < (n : Int) := by omega
                            have Y5 := Y2.setRow (slY (shr ds (ones ps) (j + 1)) zs)
                            have W5 := W2.setRow_other (k := g) (by omega) (slY (shr ds (ones ps) (j + 1)) zs)
                            have P5 := P2.setRow_other (k := g) (by omega) (slY (shr ds (ones ps) (j + 1)) zs)
                            have Z5 := Z2.setRow_other (k := g) (by omega) (slY (shr ds (ones ps) (j + 1)) zs)
                            have B5 := Lib.hid (bset B2.out (g := g) (by omega) (slY (shr ds (ones ps) (j + 1)) zs))
                            clear hE e4' ha hma HT HC
                            generalize hY : slY (shr ds (ones ps) (j + 1)) zs = Y at *
                            have HY := Lib.hid hY
                            clear hY hb0
                            generalize bst ds X n = q at *
                            go_wp2_with (((with_reducible refine is_store 2 _ _ rfl ?_); refine wpList_store_cell rfl 2 _ _ rfl _ (q * 9 + 8) rfl (.int .i64 (st X q + 1)) rfl (slY X zs) _ Y2 (by rw [hsz]; omega) (by kernel_rfl) rfl Y e4.out ?_))
                            exact ⟨⟨j + 1, by omega, by go_num, by rw [HY.out]; exact Y5, W5, P5, Z5, B5⟩, by simp [intOf]; omega⟩
                      · obtain rfl : l = j := by omega
                        have kd : ¬ 0 < (l : Int) - (l : Int) := by omega
                        have hX := (shr_facts ds (ps := ps) HZ.out l (by omega)).1
                        have hXl : (shr ds (ones ps) l).length = n := by rw [shr_len, ones_len]; exact hnl
                        have O1 := OwnSl.of_atY (lo := w.heap.size) Y1 hX (by omega) (by rw [hXl]; exact hyn) hy4 (HYZ.out _ hX hXl)
                        rw [hXl] at O1
                        have R9 := Z1.setRow (plC (.slice (some ⟨g, 0, none⟩) n cap) bt 0)
                        have O9 := O1.setRow_other (g := (w.heap.size + 1)) (fun q hq => by have : g = q := (by simpa [Value.ownBlock] using hq); omega) (plC (.slice (some ⟨g, 0, none⟩) n cap) bt 0)
                        have B9 := Lib.hid (bset B1.out (g := (w.heap.size + 1)) (by omega) (plC (.slice (some ⟨g, 0, none⟩) n cap) bt 0))
                        clear O1
                        go_wp2_with (first | ((with_reducible refine is_load 28 _ rfl ?_); refine wpList_load_at rfl 28 _ rfl _ rfl (plC (.slice (some ⟨g, 0, none⟩) n cap) bt 0) _ P1 3 (plC_size _ _ _) _ Try.underlying28 rfl (by kernel_rfl) ?_) | ((with_reducible refine is_store 28 _ _ rfl ?_); refine wpList_store_at rfl 28 _ _ rfl _ rfl (plC (.slice (some ⟨g, 0, none⟩) n cap) bt 0) rfl (plC (.slice none 0 0) 0 0) _ Z1 3 (plC_size _ _ _) (plC_size _ _ _) (by kernel_rfl) (pl_one _ (sl_one _ _ _) _ _) ?_))
                        exact bodyPost_ret (v := .tuple #[.agg (plC (.slice (some ⟨g, 0, none⟩) n cap) bt 0), .int .i64 0]) (results_at_tmp (p := 8) (ty := 28) rfl _ _ _ (plC (.slice (some ⟨g, 0, none⟩) n cap) bt 0) _ (.int .i64 0) rfl rfl R9 _ Try.underlying28 rfl 3 (plC_size _ _ _) (by kernel_rfl)) rfl ⟨⟨_, by rw [hv2.out], by rw [hv2.out]; exact O9⟩, B9.out⟩

end Go.Proofs.Ytlpbehokcogcpaa

/-
  CONTRACTS: shared green is fair.
-/
namespace Go.Proofs.Ytlpbehokcogcpaa
open Go Go.ChangeShapes Go.WideShapes Go.ChangeAt Go.RowKit Go.Deep
set_option maxRecDepth 100000

/-- an eighth, so many times -/
def e8 (a : Nat) : Nat := divB (fN a) 1090519040

theorem e8_op {a : Nat} (h : a ≤ 1048576) : floatBits .quo .f32 (fN a) 1090519040 = some (e8 a) :=
  (div_some (by have := fN_le h; omega) (by omega) (by omega)).1

theorem e8_lt : ∀ a, a < 33 → e8 a < 2139095040 := by decide +kernel

theorem e8_zero : e8 0 = 0 := by decide +kernel

theorem e8_step : ∀ t, t < 64 → ∀ a, a < 32 → divB (e8 a) (fN (t + 1)) < divB (e8 (a + 1)) (fN (t + 1)) := by decide +kernel

theorem e8_mono : ∀ a, a < 32 → e8 a < e8 (a + 1) := by decide +kernel

theorem e8_less {t : Nat} (ht : 1 ≤ t ∧ t ≤ 64) : ∀ {a b : Nat}, a < b → b ≤ 32 → divB (e8 a) (fN t) < divB (e8 b) (fN t)
  | a, 0, h, _ => by omega
  | a, b + 1, h, hb => by
    have h1 := e8_step (t - 1) (by omega) b (by omega)
    rw [show t - 1 + 1 = t from by omega] at h1
    by_cases c : a = b
    · subst c; exact h1
    · have := e8_less ht (a := a) (b := b) (by omega) (by omega)
      omega

theorem e8_le : ∀ {a b : Nat}, a ≤ b → b ≤ 32 → e8 a ≤ e8 b
  | a, 0, h, _ => by rw [show a = 0 from by omega]; exact Nat.le_refl _
  | a, b + 1, h, hb => by
    by_cases c : a = b + 1
    · subst c; exact Nat.le_refl _
    · have h1 := e8_le (a := a) (b := b) (by omega) (by omega)
      have := e8_mono b (by omega)
      omega

/-- numbers that are eighths, none greater than 4 -/
def E8 (x : Nat) : Prop := ∃ a, a ≤ 32 ∧ x = e8 a

theorem E8.lt {x : Nat} (h : E8 x) : x < 2139095040 := by
  obtain ⟨a, ha, rfl⟩ := h
  exact e8_lt a (by omega)

theorem E8.less {x y t : Nat} (hx : E8 x) (hy : E8 y) (h : x < y) (ht : 1 ≤ t ∧ t ≤ 64) : divB x (fN t) < divB y (fN t) := by
  obtain ⟨a, ha, rfl⟩ := hx
  obtain ⟨b, hb, rfl⟩ := hy
  refine e8_less ht ?_ hb
  rcases Nat.lt_or_ge a b with c | c
  · exact c
  · have := e8_le c ha; omega

theorem wtK_E8 {ds : List Nat} (hd : ∀ k, E8 (nth ds k)) (b : List Bool) : ∀ k, E8 (wtK ds b k)
  | 0 => ⟨0, by omega, e8_zero.symm⟩
  | k + 1 => by
    have h1 := wtK_E8 hd b k
    cases c : bn b k
    · rw [wtK_no c]; exact h1
    · rw [wtK_yes c]
      rcases Nat.le_total (wtK ds b k) (nth ds k) with e | e
      · rw [Nat.max_eq_right e]; exact hd k
      · rw [Nat.max_eq_left e]; exact h1

theorem bst_max (ds : List Nat) (xs : Slots) : ∀ k m, m < k → qt ds xs m ≤ qt ds xs (bst ds xs k)
  | 0, m, h => by omega
  | k + 1, m, h => by
    by_cases c : qt ds xs (bst ds xs k) < qt ds xs k
    · rw [bst_yes c]
      by_cases e : m = k
      · subst e; exact Nat.le_refl _
      · have := bst_max ds xs k m (by omega); omega
    · rw [bst_no c]
      by_cases e : m = k
      · subst e; omega
      · exact bst_max ds xs k m (by omega)

/-- no phase has more ticks than one with a greater weight -/
theorem shr_fair {ds : List Nat} (hd : ∀ k, E8 (nth ds k)) {ps : List P8} (h0 : ps.length ≠ 0) : ∀ j, j ≤ 60 → ∀ i k, i < ps.length → k < ps.length → wtK ds (fe z8 ps i).1 8 < wtK ds (fe z8 ps k).1 8 → st (shr ds (ones ps) j) i ≤ st (shr ds (ones ps) j) k
  | 0, _, i, k, hi, hk, _ => by
    show st (ones ps) i ≤ st (ones ps) k
    rw [(ones_at hi).2, (ones_at hk).2]; omega
  | j + 1, hj, i, k, hi, hk, hw => by
    have IH := shr_fair hd h0 j (by omega) i k hi hk hw
    obtain ⟨hW, hf⟩ := shr_facts ds h0 j (by omega)
    have hl := shr_len ds (ones ps) j
    have hb := bst_lt (ds := ds) (xs := shr ds (ones ps) j) (ones ps).length (by rw [ones_len]; omega)
    have hm := bst_max ds (shr ds (ones ps) j) (ones ps).length k (by rw [ones_len]; exact hk)
    have hfi := hf i hi
    have hfk := hf k hk
    have hq : bst ds (shr ds (ones ps) j) (ones ps).length < (shr ds (ones ps) j).length := by rw [hl]; exact hb
    show st (inc _ _) i ≤ st (inc _ _) k
    rw [inc_st hq, inc_st hq]
    generalize bst ds (shr ds (ones ps) j) (ones ps).length = q at *
    by_cases c1 : q = i
    · subst c1
      by_cases c2 : q = k
      · subst c2; omega
      · rw [if_pos rfl, if_neg c2]
        by_cases c : st (shr ds (ones ps) j) q < st (shr ds (ones ps) j) k
        · omega
        · exfalso
          have e : st (shr ds (ones ps) j) q = st (shr ds (ones ps) j) k := by omega
          unfold qt qB at hm
          rw [e, hfi.1, hfk.1] at hm
          have := E8.less (wtK_E8 hd (fe z8 ps q).1 8) (wtK_E8 hd (fe z8 ps k).1 8) hw (t := (st (shr ds (ones ps) j) k).toNat) (by omega)
          omega
    · rw [if_neg c1]
      by_cases c2 : q = k
      · subst c2; rw [if_pos rfl]; omega
      · rw [if_neg c2]; exact IH

theorem tks_inc {xs : Slots} {q : Nat} (hq : q < xs.length) : ∀ m, tks (inc xs q) m = tks xs m + (if q < m then 1 else 0)
  | 0 => by rw [if_neg (by omega)]; rfl
  | m + 1 => by
    show tks (inc xs q) m + st (inc xs q) m = tks xs m + st xs m + _
    rw [tks_inc hq m, inc_st hq]
    by_cases c1 : q < m
    · rw [if_pos c1, if_neg (by omega), if_pos (by omega)]; omega
    · by_cases c2 : q = m
      · subst c2; rw [if_neg (by omega), if_pos rfl, if_pos (by omega)]; omega
      · rw [if_neg c1, if_neg c2, if_neg (by omega)]; omega

theorem tks_ones (ps : List P8) : ∀ m, m ≤ ps.length → tks (ones ps) m = (m : Int)
  | 0, _ => rfl
  | m + 1, h => by
    show tks (ones ps) m + st (ones ps) m = _
    rw [tks_ones ps m (by omega), (ones_at (by omega)).2]
    omega

theorem tks_shr (ds : List Nat) {ps : List P8} (h0 : ps.length ≠ 0) : ∀ j, tks (shr ds (ones ps) j) ps.length = (ps.length : Int) + (j : Int)
  | 0 => by
    show tks (ones ps) ps.length = _
    rw [tks_ones ps _ (Nat.le_refl _)]; omega
  | j + 1 => by
    have hl := shr_len ds (ones ps) j
    have hb := bst_lt (ds := ds) (xs := shr ds (ones ps) j) (ones ps).length (by rw [ones_len]; omega)
    show tks (inc _ _) _ = _
    rw [tks_inc (by rw [hl]; exact hb), tks_shr ds h0 j, if_pos (by rw [ones_len] at hb ⊢; exact hb)]
    omega

theorem tkOk_all {xs : Slots} : ∀ m, (∀ i, i < m → 1 ≤ st xs i ∧ st xs i ≤ 240) → tkOk xs m = true
  | 0, _ => rfl
  | m + 1, h => tkOk_next (tkOk_all m (fun i hi => h i (by omega))) (by have := h m (by omega); unfold tkOne; simpa using this)

/-- shared green is a valid plan, and its cycle is the one that was asked for -/
theorem shr_ok (ds : List Nat) {ps : List P8} (h1 : 1 ≤ ps.length) (h8 : ps.length ≤ 8) {bt : Int} (hb : 0 ≤ bt ∧ bt ≤ 240) {j : Nat} (hj : j ≤ 239) (hc : (ps.length : Int) * (1 + bt) + (j : Int) ≤ 240) :
    cyc (shr ds (ones ps) j) bt = (ps.length : Int) * (1 + bt) + (j : Int) ∧ okP (shr ds (ones ps) j) bt 0 = true := by
  have hl : (shr ds (ones ps) j).length = ps.length := by rw [shr_len, ones_len]
  have hf := shr_facts ds (ps := ps) (by omega) j (by omega)
  have hm := g_mul h8 hb.1 hb.2
  have hcy : cyc (shr ds (ones ps) j) bt = (ps.length : Int) * (1 + bt) + (j : Int) := by
    unfold cyc
    rw [hl, tks_shr ds (by omega), Int.mul_add, Int.mul_one]
    omega
  have hpos : (ps.length : Int) ≤ (ps.length : Int) * (1 + bt) := by
    have := Int.mul_nonneg (show (0 : Int) ≤ (ps.length : Int) by omega) hb.1
    rw [Int.mul_add, Int.mul_one]
    omega
  refine ⟨hcy, ?_⟩
  have hk := tkOk_all (xs := shr ds (ones ps) j) (shr ds (ones ps) j).length (fun i hi => by have := hf.2 i (by omega); omega)
  have hlen : lenOk (shr ds (ones ps) j) = true := by unfold lenOk; rw [hl]; simpa using ⟨h1, h8⟩
  have hbt : btw bt = true := by unfold btw; simpa using hb
  rw [okP_rest hlen hbt hk, hcy]
  simp
  omega

end Go.Proofs.Ytlpbehokcogcpaa

/-
  THE SHAPE OF A SLICE OF BYTES that comes into a law.
-/
namespace Go.Proofs.Ytlpbehokcogcpaa
open Go Go.ChangeShapes Go.WideShapes Go.ChangeAt Go.RowKit Go.Deep
set_option maxRecDepth 100000

theorem trod_u8 {H : Type} {enc : TypeId × Value → H} {P : Program} {w : World} {base : Nat} {sp : Nat → Bool} {hd : Bool} {t : TypeId} {n : Nat} {v : Value} {x : DataW H × List MemPlace} (ht : P.underlying t = some (.int .u8)) (h : DataW.trod enc P w base sp hd n t [v] = some x) : ∃ b : Int, v = .int .u8 b ∧ 0 ≤ b ∧ b < 256 := by
  cases n with
  | zero => simp [DataW.trod] at h
  | succ n =>
    unfold DataW.trod at h
    rw [ht] at h
    split at h <;> simp_all
    rename_i k1 k2 n1 hk
    obtain ⟨⟨-, h1⟩, -⟩ := h
    subst hk
    simp only [Lit.wf, Bool.and_eq_true, decide_eq_true_eq] at h1
    have m1 : IntKind.u8.min = 0 := by decide
    have m2 : IntKind.u8.max = 255 := by decide
    omega

theorem shape_bytes {H : Type} {enc : TypeId × Value → H} {W : World} {v : Value} {d : DataW H} {ps : List MemPlace} {t e : TypeId} (ht : Try.prog.underlying t = some (.slice e)) (he : Try.prog.underlying e = some (.int .u8)) (hc : Try.prog.cellsOf e = 1)
    (hv : ∃ a len cap, v = .slice a len cap) (h : DataW.Trod enc Try.prog W 0 (fun _ => true) true t v d ps) : ∃ ad cap bs, v = .slice ad bs.length cap ∧ BSl W ad bs := by
  obtain ⟨fuel, h⟩ := h
  obtain ⟨a0, l0, c0, rfl⟩ := hv
  have e1 : (Value.slice a0 l0 c0).cells.toList = [.slice a0 l0 c0] := rfl
  rw [e1] at h
  rcases open_slice1 ht hc h with ⟨h0, -⟩ | ⟨a, len, cap, m, n, V, D, Pl, h0, -, hl, hm, hmm, -, hx⟩
  · obtain ⟨rfl, rfl, rfl⟩ : a0 = none ∧ l0 = 0 ∧ c0 = 0 := by simpa using h0
    exact ⟨none, 0, [], rfl, .inl rfl, by simp, by simp⟩
  · have hm2 : len ≤ m := by rw [hmm]; simp; exact hl
    have hv : Value.slice a0 l0 c0 = .slice (some a) len cap := by simpa using h0
    rw [hv]
    clear h0 hv
    by_cases hz : len = 0
    · subst hz
      exact ⟨some a, cap, [], rfl, .inl rfl, by simp, by simp⟩
    obtain ⟨g, off, spot⟩ := a
    have h00 := (hx 0 (by omega)).1
    have hs : spot = none := by
      unfold World.cell? at h00
      rw [show (Addr.add ⟨g, off, spot⟩ 0) = ⟨g, off, spot⟩ from rfl] at h00
      cases spot with
      | none => rfl
      | some s => split at h00 <;> simp at h00
    subst hs
    have hadd : ∀ i, Addr.add ⟨g, off, none⟩ i = ⟨g, off + i, none⟩ := fun i => by
      unfold Addr.add
      by_cases h : i = 0
      · subst h; rfl
      · rw [if_neg h]
    let xs : List Nat := (List.range len).map fun i => match V i with | .int _ x => x.toNat | _ => 0
    have hxs : xs.length = len := by simp [xs]
    have key : ∀ i, i < len → V i = .int .u8 ((byteAt xs i : Nat) : Int) ∧ byteAt xs i < 256 := by
      intro i hi
      obtain ⟨h1, h2⟩ := hx i (by omega)
      obtain ⟨b, hb, hb1, hb2⟩ := trod_u8 he h2
      have : byteAt xs i = b.toNat := by
        unfold byteAt
        simp only [xs, List.getD_eq_getElem?_getD, List.getElem?_map, List.getElem?_range hi, Option.map_some, Option.getD_some, hb]
      rw [this]
      exact ⟨by rw [hb]; congr 1; omega, by omega⟩
    refine ⟨some ⟨g, off, none⟩, cap, xs, by rw [hxs], ⟨.inr ⟨g, off, rfl, cell_block h00, fun i hi => ?_⟩, fun x hx' => ?_, by omega⟩⟩
    · rw [hxs] at hi
      obtain ⟨h1, -⟩ := hx i (by omega)
      rw [(key i hi).1, hadd] at h1
      exact h1
    · obtain ⟨i, hi, rfl⟩ := List.mem_iff_getElem.1 hx'
      have := (key i (by omega)).2
      unfold byteAt at this
      rwa [List.getD_eq_getElem?_getD, List.getElem?_eq_getElem hi, Option.getD_some] at this
end Go.Proofs.Ytlpbehokcogcpaa

/-
  CONTRACTS: the shape of a slice of bytes that comes into a law, nil or not.
-/
namespace Go.Proofs.Ytlpbehokcogcpaa
open Go Go.ChangeShapes Go.WideShapes Go.ChangeAt Go.RowKit Go.Deep
set_option maxRecDepth 100000

theorem shape_bytesN {H : Type} {enc : TypeId × Value → H} {W : World} {v : Value} {d : DataW H} {ps : List MemPlace} {t e : TypeId} (ht : Try.prog.underlying t = some (.slice e)) (he : Try.prog.underlying e = some (.int .u8)) (hc : Try.prog.cellsOf e = 1)
    (hv : ∃ a len cap, v = .slice a len cap) (h : DataW.Trod enc Try.prog W 0 (fun _ => true) true t v d ps) : ∃ ad cap bs, v = .slice ad bs.length cap ∧ BSl W ad bs ∧ (ad = none → cap = 0) := by
  obtain ⟨fuel, h⟩ := h
  obtain ⟨a0, l0, c0, rfl⟩ := hv
  have e1 : (Value.slice a0 l0 c0).cells.toList = [.slice a0 l0 c0] := rfl
  rw [e1] at h
  rcases open_slice1 ht hc h with ⟨h0, -⟩ | ⟨a, len, cap, m, n, V, D, Pl, h0, -, hl, hm, hmm, -, hx⟩
  · obtain ⟨rfl, rfl, rfl⟩ : a0 = none ∧ l0 = 0 ∧ c0 = 0 := by simpa using h0
    exact ⟨none, 0, [], rfl, ⟨.inl rfl, by simp, by simp⟩, fun _ => rfl⟩
  · have hm2 : len ≤ m := by rw [hmm]; simp; exact hl
    have hv : Value.slice a0 l0 c0 = .slice (some a) len cap := by simpa using h0
    rw [hv]
    clear h0 hv
    by_cases hz : len = 0
    · subst hz
      exact ⟨some a, cap, [], rfl, ⟨.inl rfl, by simp, by simp⟩, fun e => by cases e⟩
    obtain ⟨g, off, spot⟩ := a
    have h00 := (hx 0 (by omega)).1
    have hs : spot = none := by
      unfold World.cell? at h00
      rw [show (Addr.add ⟨g, off, spot⟩ 0) = ⟨g, off, spot⟩ from rfl] at h00
      cases spot with
      | none => rfl
      | some s => split at h00 <;> simp at h00
    subst hs
    have hadd : ∀ i, Addr.add ⟨g, off, none⟩ i = ⟨g, off + i, none⟩ := fun i => by
      unfold Addr.add
      by_cases h : i = 0
      · subst h; rfl
      · rw [if_neg h]
    let xs : List Nat := (List.range len).map fun i => match V i with | .int _ x => x.toNat | _ => 0
    have hxs : xs.length = len := by simp [xs]
    have key : ∀ i, i < len → V i = .int .u8 ((byteAt xs i : Nat) : Int) ∧ byteAt xs i < 256 := by
      intro i hi
      obtain ⟨h1, h2⟩ := hx i (by omega)
      obtain ⟨b, hb, hb1, hb2⟩ := trod_u8 he h2
      have : byteAt xs i = b.toNat := by
        unfold byteAt
        simp only [xs, List.getD_eq_getElem?_getD, List.getElem?_map, List.getElem?_range hi, Option.map_some, Option.getD_some, hb]
      rw [this]
      exact ⟨by rw [hb]; congr 1; omega, by omega⟩
    refine ⟨some ⟨g, off, none⟩, cap, xs, by rw [hxs], ⟨.inr ⟨g, off, rfl, cell_block h00, fun i hi => ?_⟩, fun x hx' => ?_, by omega⟩, fun e => by cases e⟩
    · rw [hxs] at hi
      obtain ⟨h1, -⟩ := hx i (by omega)
      rw [(key i hi).1, hadd] at h1
      exact h1
    · obtain ⟨i, hi, rfl⟩ := List.mem_iff_getElem.1 hx'
      have := (key i (by omega)).2
      unfold byteAt at this
      rwa [List.getD_eq_getElem?_getD, List.getElem?_eq_getElem hi, Option.getD_some] at this

end Go.Proofs.Ytlpbehokcogcpaa

/-
  CONTRACTS: shares and roads drawn from bytes: valid ones, whatever the bytes.
-/
namespace Go.Proofs.Ytlpbehokcogcpaa
open Go Go.RowKit
set_option maxRecDepth 100000

/-- drawing goes on: the bytes lie as they lay, the source is at some turn up to k -/
structure Draws (w0 : World) (g : Nat) (ad : Option Addr) (cp : Nat) (bs : List Nat) (k : Nat) (w : World) : Prop where
  c : BSl w0 ad bs
  lo : w0.heap.size ≤ g
  below : Below w0.heap.size w0 w
  src : ∃ k' sd, k' ≤ k ∧ At w g (srcC ad bs.length cp k' sd) 81
section
variable {w0 w : World} {g : Nat} {ad : Option Addr} {cp : Nat} {bs : List Nat} {k : Nat}
theorem Draws.bsl (h : Draws w0 g ad cp bs k w) : BSl w ad bs := h.c.step h.below (Nat.le_refl _)

theorem Draws.lt (h : Draws w0 g ad cp bs k w) : g < w.heap.size := by obtain ⟨k', sd, -, hA⟩ := h.src; exact hA.lt

theorem Draws.step {w' : World} (h : Draws w0 g ad cp bs k w) (hb : Below w.heap.size w w') : Draws w0 g ad cp bs k w' :=
  ⟨h.c, h.lo, h.below.trans (hb.mono h.below.size), by obtain ⟨k', sd, h1, hA⟩ := h.src; exact ⟨k', sd, h1, hA.step hb⟩⟩

theorem Draws.row {r : Nat} (h : Draws w0 g ad cp bs k w) (hr : w0.heap.size ≤ r) (hn : g ≠ r) (c : Array Value) : Draws w0 g ad cp bs k (w.setRow r c) :=
  ⟨h.c, h.lo, bset h.below hr c, by obtain ⟨k', sd, h1, hA⟩ := h.src; exact ⟨k', sd, h1, hA.setRow_other hn c⟩⟩

theorem Draws.more {k2 : Nat} (h : Draws w0 g ad cp bs k w) (hk : k ≤ k2) : Draws w0 g ad cp bs k2 w :=
  ⟨h.c, h.lo, h.below, by obtain ⟨k', sd, h1, hA⟩ := h.src; exact ⟨k', sd, by omega, hA⟩⟩

/-- a number below n -/
theorem pick_e (h : Draws w0 g ad cp bs k w) (hk : k < 1000000) (n : Nat) (h1 : 1 < n) (h2 : n ≤ 200) :
    Calls Try.prog 34 #[.pointer (some ⟨g, 0, none⟩), .int .i64 (n : Int)] w fun e w' => ∃ m : Nat, e = .returned (.int .i64 (m : Int)) ∧ m < n ∧ Only g w w' ∧ Draws w0 g ad cp bs (k + 1) w' := by
  obtain ⟨k', sd, hk', hA⟩ := h.src
  refine (pick_b g ad cp k' bs sd n w (by omega) h.c.lt (by omega) hA h.bsl).mono ?_
  rintro e w' ⟨rfl, hO, hA'⟩
  obtain ⟨v0, v1⟩ := nextV_in h.c.lt k' sd
  have hv : pickV bs k' sd (n : Int) = ((pickV bs k' sd (n : Int)).toNat : Int) ∧ (pickV bs k' sd (n : Int)).toNat < n := by
    unfold pickV
    rw [if_neg (by omega)]
    have a1 := Int.emod_nonneg (nextV bs k' sd) (b := (n : Int)) (by omega)
    have a2 := Int.emod_lt_of_pos (nextV bs k' sd) (b := (n : Int)) (by omega)
    omega
  refine ⟨_, by rw [hv.1]; rfl, hv.2, hO, ⟨h.c, h.lo, h.below.trans (hO.below.mono h.lo), ⟨_, _, ?_, hA'⟩⟩⟩
  unfold pickK
  split <;> omega
end

theorem q32_facts : ∀ m : Fin 33, ∃ q, FloatKind.f32.format.div (FloatKind.f32.nearest (m.val : Int)) 1107296256 = some q ∧ q ≤ 1065353216 := by
  have h : ∀ m : Fin 33, ((FloatKind.f32.format.div (FloatKind.f32.nearest (m.val : Int)) 1107296256).map fun q => decide (q ≤ 1065353216)) = some true := by decide
  intro m
  have := h m
  cases hq : FloatKind.f32.format.div (FloatKind.f32.nearest (m.val : Int)) 1107296256 with
  | none => rw [hq] at this; cases this
  | some q => rw [hq] at this; exact ⟨q, rfl, by simpa using this⟩

theorem qpace_facts : ∀ m : Fin 16, ∃ q, FloatKind.f32.format.div (FloatKind.f32.nearest (1 + (m.val : Int))) 1098907648 = some q ∧ (1015021568 ≤ q ∧ q ≤ 1065353216) := by
  have h : ∀ m : Fin 16, ((FloatKind.f32.format.div (FloatKind.f32.nearest (1 + (m.val : Int))) 1098907648).map fun q => decide (1015021568 ≤ q ∧ q ≤ 1065353216)) = some true := by decide
  intro m
  have := h m
  cases hq : FloatKind.f32.format.div (FloatKind.f32.nearest (1 + (m.val : Int))) 1098907648 with
  | none => rw [hq] at this; cases this
  | some q => rw [hq] at this; exact ⟨q, rfl, by simpa using this⟩

theorem qlane_facts : ∀ m : Fin 12, ∃ q, FloatKind.f32.format.div (FloatKind.f32.nearest (1 + (m.val : Int))) 1082130432 = some q ∧ (1048576000 ≤ q ∧ q ≤ 1090519040) := by
  have h : ∀ m : Fin 12, ((FloatKind.f32.format.div (FloatKind.f32.nearest (1 + (m.val : Int))) 1082130432).map fun q => decide (1048576000 ≤ q ∧ q ≤ 1090519040)) = some true := by decide
  intro m
  have := h m
  cases hq : FloatKind.f32.format.div (FloatKind.f32.nearest (1 + (m.val : Int))) 1082130432 with
  | none => rw [hq] at this; cases this
  | some q => rw [hq] at this; exact ⟨q, rfl, by simpa using this⟩

theorem run_conv64 (n : Int) (W : World) : (convert 2 23 (.int .i64 n)).run Try.prog W = .ok (.float .f32 (FloatKind.f32.nearest n)) W := by kernel_rfl

def GoodC (cs : List Nat) : Prop := cs.length = 16 ∧ cs.all shrB = true

theorem good_zeros : GoodC (zeros 16) := by unfold GoodC; decide

theorem good_set {cs : List Nat} {i x : Nat} (h : GoodC cs) (hx : x ≤ 1065353216) : GoodC (cs.set i x) := by
  refine ⟨by rw [List.length_set]; exact h.1, List.all_eq_true.2 fun y hy => ?_⟩
  rcases List.mem_or_eq_of_mem_set hy with h1 | rfl
  · exact List.all_eq_true.1 h.2 y h1
  · unfold shrB; simpa using hx

theorem okB_mk {cs : List Nat} {p b l : Nat} (h : GoodC cs) (hp : 1015021568 ≤ p ∧ p ≤ 1065353216) (hb : 1015021568 ≤ b ∧ b ≤ 1065353216) (hl : 1048576000 ≤ l ∧ l ≤ 1090519040) : okB cs p b l = true := by
  unfold okB paceB lanesB
  rw [h.2, decide_eq_true hp, decide_eq_true hb, decide_eq_true hl]; rfl

theorem rd_one (cs : List Nat) (p b l : Nat) : (rd cs p b l).all (·.oneCell') = true := by
  simp [rd, fl, Value.oneCell']

end Go.Proofs.Ytlpbehokcogcpaa

/-
  CONTRACTS: phases and movements drawn from bytes, whatever the bytes.
-/
namespace Go.Proofs.Ytlpbehokcogcpaa
open Go Go.RowKit
set_option maxRecDepth 100000

theorem one_e {w0 w : World} {g : Nat} {ad : Option Addr} {cp : Nat} {bs : List Nat} {k : Nat} (h : Draws w0 g ad cp bs k w) (hk : k < 1000000) (n : Nat) (h1 : 1 < n) (h2 : n ≤ 200) :
    Calls Try.prog 46 #[.pointer (some ⟨g, 0, none⟩), .int .i64 (n : Int)] w fun e w' => ∃ b : Bool, e = .returned (.bool b) ∧ Only g w w' ∧ Draws w0 g ad cp bs (k + 1) w' := by
  have K := pick_e h hk n h1 h2
  clear h
  go_enter Try.func46, Try.ntmps46
  go_wp2_with fail
  refine K.mono ?_
  rintro e w1 ⟨m, rfl, -, hO, hD⟩
  by_cases z : (m : Int) = 0
  · have z1 : ((m : Int) == 0) = true := by simpa using z
    go_wp2_with fail
    go_ret
    exact ⟨_, rfl, hO, hD⟩
  · have z1 : ((m : Int) == 0) = false := by simpa using z
    go_wp2_with fail
    go_ret
    exact ⟨_, rfl, hO, hD⟩

set_option maxHeartbeats 1000000 in
theorem phase_e {w0 w : World} {g : Nat} {ad : Option Addr} {cp : Nat} {bs : List Nat} {k : Nat} (h : Draws w0 g ad cp bs k w) (hk : k < 1000) :
    Calls Try.prog 35 #[.pointer (some ⟨g, 0, none⟩)] w fun e w' => ∃ ps : List Bool, e = .returned (.agg (bl ps)) ∧ ps.length = 8 ∧ Below g w w' := by
  have hgw := h.lt
  have hlo := h.lo
  have hsz0 := h.below.size
  have R0 := At.new w (#[.bool false, .bool false, .bool false, .bool false, .bool false, .bool false, .bool false, .bool false]) 43
  have P0 : At ((w.alloc (.cells (#[.bool false, .bool false, .bool false, .bool false, .bool false, .bool false, .bool false, .bool false]) 43)).alloc (.cells (#[.bool false, .bool false, .bool false, .bool false, .bool false, .bool false, .bool false, .bool false]) 43)) (w.heap.size + 1) (#[.bool false, .bool false, .bool false, .bool false, .bool false, .bool false, .bool false, .bool false]) 43 := At.last1 w _ _ _
  have P1 := P0.setRow (bl (noes 8))
  have R1 := (R0.alloc (.cells (#[.bool false, .bool false, .bool false, .bool false, .bool false, .bool false, .bool false, .bool false]) 43)).setRow_other (k := w.heap.size + 1) (by omega) (bl (noes 8))
  have D1 := (((h.step (b0 w (.cells (#[.bool false, .bool false, .bool false, .bool false, .bool false, .bool false, .bool false, .bool false]) 43))).step (b0 _ (.cells (#[.bool false, .bool false, .bool false, .bool false, .bool false, .bool false, .bool false, .bool false]) 43))).row (r := w.heap.size + 1) (by omega) (by omega) (bl (noes 8)))
  have B1 := Lib.hid ((bset (bnew (b0 w (.cells (#[.bool false, .bool false, .bool false, .bool false, .bool false, .bool false, .bool false, .bool false]) 43)) (.cells (#[.bool false, .bool false, .bool false, .bool false, .bool false, .bool false, .bool false, .bool false]) 43)) (g := w.heap.size + 1) (by omega) (bl (noes 8))).mono (Nat.le_of_lt hgw))
  clear h
  go_enter Try.func35, Try.ntmps35
  go_wp2_with (first | ((with_reducible refine is_bld 43 _ rfl ?_); refine wpList_bld rfl 43 _ rfl #[] (by kernel_rfl) (bl (noes 8)) (by kernel_rfl) ?_) | ((with_reducible refine is_store 43 _ _ rfl ?_); refine wpList_store_at rfl 43 _ _ rfl _ rfl (bl (noes 8)) rfl (#[.bool false, .bool false, .bool false, .bool false, .bool false, .bool false, .bool false, .bool false]) _ (by with_reducible assumption) 8 (rfl) (rfl) (by kernel_rfl) (bl_one _) ?_))
  generalize ((w.alloc (.cells (#[.bool false, .bool false, .bool false, .bool false, .bool false, .bool false, .bool false, .bool false]) 43)).alloc (.cells (#[.bool false, .bool false, .bool false, .bool false, .bool false, .bool false, .bool false, .bool false]) 43)).setRow (w.heap.size + 1) (bl (noes 8)) = w1 at R1 P1 D1 B1 ⊢
  clear R0 P0
  go_loopw [4] (fun n wr => ∃ i : Nat, ∃ ps : List Bool, i ≤ 8 ∧ n = .int .i64 (i : Int) ∧ ps.length = 8 ∧ At wr (w.heap.size + 1) (bl ps) 43 ∧ At wr w.heap.size (#[.bool false, .bool false, .bool false, .bool false, .bool false, .bool false, .bool false, .bool false]) 43 ∧ Draws w0 g ad cp bs (k + i) wr ∧ Hid (Below g w wr)) (fun n _ => 8 - (intOf n).toNat)
  case atStart => exact ⟨0, noes 8, by omega, rfl, noes_len 8, P1, R1, D1, B1⟩
  case round =>
    clear R1 P1 D1 B1
    obtain ⟨i, ps, hi, rfl, hps, P2, R2, D2, B2⟩ := hrel
    by_cases hlt : i < 8
    · have s2 : IntKind.i64.wrap ((i : Int) + 1) = (i : Int) + 1 := IntWalk.i64_in _ (by omega)
      have K := one_e D2 (by omega) 3 (by omega) (by omega)
      have hsz : (bl ps).size = 8 := by rw [bl_size, hps]
      go_wp2_with fail
      refine K.mono ?_
      rintro e w3 ⟨b, rfl, O3, D3⟩
      have P3 := O3.at P2 (by omega)
      have R3 := O3.at R2 (by omega)
      have B3 := Lib.hid (B2.out.trans O3.below)
      have P4 := P3.setRow (bl (ps.set i b))
      have R4 := R3.setRow_other (k := w.heap.size + 1) (by omega) (bl (ps.set i b))
      have D4 := (D3.row (r := w.heap.size + 1) (by omega) (by omega) (bl (ps.set i b))).more (k2 := k + (i + 1)) (by omega)
      have B4 := Lib.hid (bset B3.out (g := w.heap.size + 1) (by omega) (bl (ps.set i b)))
      clear P2 R2 D2 B2 K O3
      go_wp2_with (((with_reducible refine is_store 4 _ _ rfl ?_); refine wpList_store_cell rfl 4 _ _ rfl _ i rfl (.bool b) rfl (bl ps) _ (by with_reducible assumption) (by rw [hsz]; omega) (by kernel_rfl) rfl (bl (ps.set i b)) (bl_set _ _ _) ?_))
      exact ⟨⟨i + 1, ps.set i b, by omega, by go_num, by rw [List.length_set]; exact hps, P4, R4, D4, B4⟩, by simp [intOf]; omega⟩
    · obtain rfl : i = 8 := by omega
      have hsz : (bl ps).size = 8 := by rw [bl_size, hps]
      have R3 := R2.setRow (bl ps)
      have B3 := Lib.hid (bset B2.out (g := w.heap.size) (Nat.le_of_lt hgw) (bl ps))
      go_wp2_with (first | ((with_reducible refine is_load 43 _ rfl ?_); refine wpList_load_at rfl 43 _ rfl _ rfl (bl ps) _ (by with_reducible assumption) 8 (hsz) _ Try.underlying43 rfl (by kernel_rfl) ?_) | ((with_reducible refine is_store 43 _ _ rfl ?_); refine wpList_store_at rfl 43 _ _ rfl _ rfl (bl ps) rfl (#[.bool false, .bool false, .bool false, .bool false, .bool false, .bool false, .bool false, .bool false]) _ (by with_reducible assumption) 8 (hsz) (rfl) (by kernel_rfl) (bl_one _) ?_))
      exact bodyPost_ret (v := .agg (bl ps)) (results_at (p := 2) (ty := 43) rfl _ _ _ (bl ps) _ rfl R3 _ Try.underlying43 rfl 8 hsz (by kernel_rfl)) rfl ⟨ps, rfl, hps, B3.out⟩

theorem results_twoM {P : Program} {fn : Func} {p q u : Tmp} {ty1 ty2 : TypeId} (h : fn.results = #[.cell p ty1, .cell q ty2, .tmp u]) (tmps : Array Value) (W : World) (g1 : Nat) (c1 : Array Value) (T1 : TypeId) (g2 : Nat) (c2 : Array Value) (T2 : TypeId) (v : Value)
    (hp : tmps.getD p undef = .pointer (some ⟨g1, 0, none⟩)) (hq : tmps.getD q undef = .pointer (some ⟨g2, 0, none⟩)) (hv : tmps.getD u undef = v) (hA1 : At W g1 c1 T1) (hA2 : At W g2 c2 T2)
    (d1 : TypeDesc) (hu1 : P.underlying ty1 = some d1) (hd1 : (match d1 with | .struct _ | .array _ _ => true | _ => false) = true) (n1 : Nat) (hn1 : c1.size = n1) (hi1 : (P.info? ty1).map (·.size) = some n1)
    (d2 : TypeDesc) (hu2 : P.underlying ty2 = some d2) (hd2 : (match d2 with | .struct _ | .array _ _ => true | _ => false) = true) (n2 : Nat) (hn2 : c2.size = n2) (hi2 : (P.info? ty2).map (·.size) = some n2) :
    (results fn tmps).run P W = .ok (.tuple #[.agg c1, .agg c2, v]) W := by
  have e : (results fn tmps).run P W = ((asAddr (tmps.getD p undef)).run P W).andThen fun a w₁ => ((loadVar ty1 a).run P w₁).andThen fun v1 w₂ => ((asAddr (tmps.getD q undef)).run P w₂).andThen fun b w₃ => ((loadVar ty2 b).run P w₃).andThen fun v2 w₄ => .ok (.tuple #[v1, v2, tmps.getD u undef]) w₄ := by
    simp only [results, h]
    simp [Sem.run_bind, Result.andThen]
  rw [e, hp, hq, hv]
  have l1 := run_loadVar_row (P := P) W g1 T1 ty1 c1 (0, 0) d1 hA1 hu1 hd1 (by rw [hn1]; exact hi1)
  have l2 := run_loadVar_row (P := P) W g2 T2 ty2 c2 (0, 0) d2 hA2 hu2 hd2 (by rw [hn2]; exact hi2)
  simp only [asAddr, Sem.run_pure, Result.andThen_ok, l1, l2]

theorem hx_addI {P : Program} {o : Oper} {a : Act} {w w' : World} {v : Value} (ty : TypeId) (x y : Operand) {T : TypeId} (ho : o.op = .binOp .add ty x y T) (v1 v2 : Value) (h1 : a.eval x = v1) (h2 : a.eval y = v2) (hrun : (binOp .add ty v1 v2).run P w = .ok v w') : (execOp a.eval o).run P w = .ok (.value v) w' := by
  unfold execOp
  simp [ho, h1, h2, eqGuard, hrun, Result.andThen]

theorem hx_remI {P : Program} {o : Oper} {a : Act} {w w' : World} {v : Value} (ty : TypeId) (x y : Operand) {T : TypeId} (ho : o.op = .binOp .rem ty x y T) (v1 v2 : Value) (h1 : a.eval x = v1) (h2 : a.eval y = v2) (hrun : (binOp .rem ty v1 v2).run P w = .ok v w') : (execOp a.eval o).run P w = .ok (.value v) w' := by
  unfold execOp
  simp [ho, h1, h2, eqGuard, hrun, Result.andThen]

theorem fin_add {m : Nat} (hm : m < 4) (t : TypeId) (W : World) : (binOp .add t (.int .i64 (m : Int)) (.int .i64 1)).run Try.prog W = .ok (.int .i64 ((m + 1 : Nat) : Int)) W := by
  rcases (by omega : m = 0 ∨ m = 1 ∨ m = 2 ∨ m = 3) with rfl | rfl | rfl | rfl <;> kernel_rfl

theorem fin_add2 {m x : Nat} (hm : m < 4) (hx : x < 3) (t : TypeId) (W : World) : (binOp .add t (.int .i64 ((m + 1 : Nat) : Int)) (.int .i64 (x : Int))).run Try.prog W = .ok (.int .i64 ((m + 1 + x : Nat) : Int)) W := by
  rcases (by omega : m = 0 ∨ m = 1 ∨ m = 2 ∨ m = 3) with rfl | rfl | rfl | rfl <;> rcases (by omega : x = 0 ∨ x = 1 ∨ x = 2) with rfl | rfl | rfl <;> kernel_rfl

theorem fin_rem {m x : Nat} (hm : m < 4) (hx : x < 3) (t : TypeId) (W : World) : (binOp .rem t (.int .i64 ((m + 1 + x : Nat) : Int)) (.int .i64 4)).run Try.prog W = .ok (.int .i64 (((m + 1 + x) % 4 : Nat) : Int)) W := by
  rcases (by omega : m = 0 ∨ m = 1 ∨ m = 2 ∨ m = 3) with rfl | rfl | rfl | rfl <;> rcases (by omega : x = 0 ∨ x = 1 ∨ x = 2) with rfl | rfl | rfl <;> kernel_rfl

def zi8 : List Int := List.replicate 8 0

theorem zi8_len : zi8.length = 8 := rfl

/-- movements drawn: the first n are ways, the rest is nothing -/
structure MvOk (fs ts : List Int) (n : Nat) : Prop where
  hf : fs.length = 8
  ht : ts.length = 8
  way : ∀ i, i < n → ∃ m x : Nat, m < 4 ∧ x < 3 ∧ ith fs i = (m : Int) ∧ ith ts i = (((m + 1 + x) % 4 : Nat) : Int)
  non : ∀ i, n ≤ i → i < 8 → ith fs i = 0 ∧ ith ts i = 0

theorem ith_set {xs : List Int} {i j : Nat} {y : Int} (hi : i < xs.length) : ith (xs.set i y) j = if i = j then y else ith xs j := by
  unfold ith
  rw [List.getD_eq_getElem?_getD, List.getD_eq_getElem?_getD, List.getElem?_set]
  by_cases c : i = j
  · rw [if_pos c, if_pos c, if_pos hi]; rfl
  · rw [if_neg c, if_neg c]

theorem MvOk.zero : MvOk zi8 zi8 0 := ⟨rfl, rfl, fun i h => by omega, fun i _ hi => by
  rcases (by omega : i = 0 ∨ i = 1 ∨ i = 2 ∨ i = 3 ∨ i = 4 ∨ i = 5 ∨ i = 6 ∨ i = 7) with rfl | rfl | rfl | rfl | rfl | rfl | rfl | rfl <;> exact ⟨rfl, rfl⟩⟩

theorem MvOk.next {fs ts : List Int} {n m x : Nat} (h : MvOk fs ts n) (hn : n < 8) (hm : m < 4) (hx : x < 3) : MvOk (fs.set n (m : Int)) (ts.set n (((m + 1 + x) % 4 : Nat) : Int)) (n + 1) := by
  refine ⟨by rw [List.length_set]; exact h.hf, by rw [List.length_set]; exact h.ht, fun i hi => ?_, fun i h1 h2 => ?_⟩
  · rw [ith_set (by rw [h.hf]; exact hn), ith_set (by rw [h.ht]; exact hn)]
    by_cases c : n = i
    · rw [if_pos c, if_pos c]; exact ⟨m, x, hm, hx, rfl, rfl⟩
    · rw [if_neg c, if_neg c]; exact h.way i (by omega)
  · rw [ith_set (by rw [h.hf]; exact hn), ith_set (by rw [h.ht]; exact hn), if_neg (by omega), if_neg (by omega)]
    exact h.non i (by omega) h2

theorem from_draws {ad : Option Addr} {cp : Nat} {bs : List Nat} {w w1 : World} (hC : BSl w ad bs) (hb : Below w.heap.size w w1) (hA : At w1 w.heap.size (srcC ad bs.length cp 0 0) 81) : Draws w w.heap.size ad cp bs 0 w1 :=
  ⟨hC, Nat.le_refl _, hb, ⟨0, 0, Nat.le_refl _, hA⟩⟩

theorem P6Phase_e (ad : Option Addr) (cp : Nat) (bs : List Nat) (w : World) (hC : BSl w ad bs) :
    Calls Try.prog 17 #[.slice ad bs.length cp] w fun e w' => ∃ ps : List Bool, e = .returned (.agg (bl ps)) ∧ ps.length = 8 ∧ Below w.heap.size w w' := by
  have R0 := At.new w (#[.bool false, .bool false, .bool false, .bool false, .bool false, .bool false, .bool false, .bool false]) 43
  have B0 := Lib.hid (b0 w (.cells (#[.bool false, .bool false, .bool false, .bool false, .bool false, .bool false, .bool false, .bool false]) 43))
  have hC0 := hC.step (b0 w (.cells (#[.bool false, .bool false, .bool false, .bool false, .bool false, .bool false, .bool false, .bool false]) 43)) (Nat.le_refl _)
  have K := l00From_b ad cp bs (w.alloc (.cells (#[.bool false, .bool false, .bool false, .bool false, .bool false, .bool false, .bool false, .bool false]) 43))
  clear hC
  go_enter Try.func17, Try.ntmps17
  go_wp2_with fail
  refine K.mono ?_
  rintro e w1 ⟨rfl, hb1, A1⟩
  have R1 := R0.step hb1
  have B1 := Lib.hid (bthen B0.out hb1)
  have D1 := from_draws hC0 hb1 A1
  have hsz : (w.alloc (.cells (#[.bool false, .bool false, .bool false, .bool false, .bool false, .bool false, .bool false, .bool false]) 43)).heap.size = w.heap.size + 1 := by simp
  rw [hsz] at D1
  clear R0 B0 K A1 hb1 hC0
  go_wp2_with fail
  refine (phase_e D1 (by omega)).mono ?_
  rintro e w2 ⟨ps, rfl, hps, hb2⟩
  have hz : (bl ps).size = 8 := by rw [bl_size, hps]
  have R2 : At w2 w.heap.size (#[.bool false, .bool false, .bool false, .bool false, .bool false, .bool false, .bool false, .bool false]) 43 := (hb2.block _ (by omega)).trans R1
  have B2 := Lib.hid (B1.out.trans (hb2.mono (by omega)))
  have R3 := R2.setRow (bl ps)
  have B3 := Lib.hid (bset B2.out (g := w.heap.size) (Nat.le_refl _) (bl ps))
  clear R1 B1 D1
  go_wp2_with (((with_reducible refine is_store 43 _ _ rfl ?_); refine wpList_store_at rfl 43 _ _ rfl _ rfl (bl ps) rfl (#[.bool false, .bool false, .bool false, .bool false, .bool false, .bool false, .bool false, .bool false]) _ (by with_reducible assumption) 8 (hz) (rfl) (by kernel_rfl) (bl_one _) ?_))
  exact bodyPost_ret (v := .agg (bl ps)) (results_at (p := 2) (ty := 43) rfl _ _ _ (bl ps) _ rfl R3 _ Try.underlying43 rfl 8 hz (by kernel_rfl)) rfl ⟨ps, rfl, hps, B3.out⟩

theorem P6Pick_e (ad : Option Addr) (cp : Nat) (bs : List Nat) (n : Nat) (h1 : 1 < n) (h2 : n ≤ 200) (w : World) (hC : BSl w ad bs) :
    Calls Try.prog 16 #[.slice ad bs.length cp, .int .i64 (n : Int)] w fun e w' => ∃ m : Nat, e = .returned (.int .i64 (m : Int)) ∧ m < n ∧ Below w.heap.size w w' := by
  have K := l00From_b ad cp bs w
  go_enter Try.func16, Try.ntmps16
  go_wp2_with fail
  refine K.mono ?_
  rintro e w1 ⟨rfl, hb1, A1⟩
  have D1 := from_draws hC hb1 A1
  clear K A1
  go_wp2_with fail
  refine (pick_e D1 (by omega) n h1 h2).mono ?_
  rintro e w2 ⟨m, rfl, hm, hO, hD⟩
  go_wp2_with fail
  go_ret
  exact ⟨m, rfl, hm, hD.below⟩

end Go.Proofs.Ytlpbehokcogcpaa
