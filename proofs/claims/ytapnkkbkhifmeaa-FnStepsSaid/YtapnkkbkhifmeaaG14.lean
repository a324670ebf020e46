/-
  SEVERAL TEXTS IN ONE.
-/
import Derived.Test.YtapnkkbkhifmeaaG12
import Derived.Test.YtapnkkbkhifmeaaRes
import Derived.Test.YtapnkkbkhifmeaaFluxesOf
import Derived.Test.YtapnkkbkhifmeaaIterator

/-
  CONTRACTS: several steps, the model's.
-/
namespace Go.Proofs.Ytapnkkbkhifmeaa
open Go Go.RowKit
set_option maxRecDepth 100000


end Go.Proofs.Ytapnkkbkhifmeaa

/-
  CONTRACTS: the function that hands the steps on, made; the model's one step.
-/
namespace Go.Proofs.Ytapnkkbkhifmeaa
open Go Go.RowKit Go.Shelf
set_option maxRecDepth 100000

theorem stepsOf_any (c : Array Value) (_hz : c.size = 19) (p1 p2 : Option Addr) (n1 c1 n2 c2 : Nat) (w : World) :
    Calls Try.prog 36 #[.agg c, .slice p1 n1 c1, .slice p2 n2 c2] w fun e w' => e = .returned (.func (.func 54) #[] #[.pointer (some ⟨w.heap.size, 0, none⟩), .pointer (some ⟨(w.heap.size + 1), 0, none⟩), .pointer (some ⟨(w.heap.size + 1 + 1), 0, none⟩)]) ∧ w' = (((w.alloc (.cells c 28)).alloc (.cells #[.slice p1 n1 c1] 41)).alloc (.cells #[.slice p2 n2 c2] 41)) := by
  have hmf : ∀ (fn : Fn) (first cap : Array Value) (w : World), (Instr.makeFunc fn first cap).run Try.prog w = .ok (.func fn first cap) w := fun _ _ _ _ => rfl
  go_enter Try.func36, Try.ntmps36
  go_wp2
  go_ret
  exact ⟨rfl, rfl⟩

theorem sStepRoad_no (cs : List Nat) (p b l : Nat) (hl : cs.length = 16) (hc : ∀ x ∈ cs, x < 4294967296) (hp : p < 4294967296) (hb : b < 4294967296) (hla : l < 4294967296) (o m : Nat) (ho : o < 4294967296) (hm : m < 4294967296) (h : givenC (okB cs p b l) o m ≠ 0) (w : World) :
    Calls Try.prog 8 #[.agg (rd cs p b l), .float .f32 o, .float .f32 m] w fun e w' => e = .returned (.tuple #[.agg (rd (zeros 16) 0 0 0), .float .f32 0, .float .f32 0, .int .i64 (givenC (okB cs p b l) o m)]) ∧ Below w.heap.size w w' := by
  have R0 : At ((w.alloc (.cells (rd cs p b l) 28)).alloc (.cells (rd (zeros 16) 0 0 0) 28)) w.heap.size (rd cs p b l) 28 := (At.new w _ _).alloc _
  have Y0 : At ((w.alloc (.cells (rd cs p b l) 28)).alloc (.cells (rd (zeros 16) 0 0 0) 28)) (w.heap.size + 1) (rd (zeros 16) 0 0 0) 28 := At.last1 w _ _ _
  have B0 := Lib.hid (bnew (b0 w (.cells (rd cs p b l) 28)) (.cells (rd (zeros 16) 0 0 0) 28))
  have KG := l02Given_any _ cs p b l hl hc hp hb hla o m ho hm _ ⟨_, _, R0⟩
  generalize givenC (okB cs p b l) o m = c at KG h ⊢
  have gne : (c == 0) = false := by simp [h]
  go_enter Try.func8, Try.ntmps8
  go_wp2_with fail
  refine KG.mono ?_
  rintro e' w1 ⟨rfl, n1, rfl⟩
  have Y1 := Y0.drewN n1
  have B1 := Lib.hid (bdrew B0.out n1)
  clear KG R0
  have Y9 := Y1.setRow (rd (zeros 16) 0 0 0)
  have B9 := Lib.hid (bset B1.out (g := w.heap.size + 1) (by omega) (rd (zeros 16) 0 0 0))
  go_wp2_with (((with_reducible refine is_store 28 (.tmp 6) (.tmp 17) rfl ?_); refine wpList_store_at rfl 28 (.tmp 6) (.tmp 17) rfl _ rfl (rd (zeros 16) 0 0 0) rfl (rd (zeros 16) 0 0 0) _ (by assumption) 19 (rd_size (zeros_len 16) _ _ _) (rd_size (zeros_len 16) _ _ _) (by kernel_rfl) (fl_one _) ?_))
  exact bodyPost_ret (v := .tuple #[.agg (rd (zeros 16) 0 0 0), .float .f32 0, .float .f32 0, .int .i64 c]) (results_at3 (p := 6) (ty := 28) rfl _ _ _ (rd (zeros 16) 0 0 0) _ _ _ _ rfl rfl rfl rfl Y9 _ Try.underlying28 rfl 19 (rd_size (zeros_len 16) _ _ _) (by kernel_rfl)) rfl ⟨rfl, B9.out⟩

theorem sStepRoad_yes (cs : List Nat) (p b l : Nat) (hl : cs.length = 16) (hc : ∀ x ∈ cs, x < 4294967296) (hp : p < 4294967296) (hb : b < 4294967296) (hla : l < 4294967296) (o m : Nat) (ho : o < 4294967296) (hm : m < 4294967296) (h : givenC (okB cs p b l) o m = 0) (w : World) :
    Calls Try.prog 8 #[.agg (rd cs p b l), .float .f32 o, .float .f32 m] w fun e w' => e = .returned (.tuple #[.agg (rd (nextL p b cs o m) p b l), .float .f32 (nth (fluxL p b cs o m) 0), .float .f32 (nth (fluxL p b cs o m) 16), .int .i64 0]) ∧ Below w.heap.size w w' := by
  have R0 : At ((w.alloc (.cells (rd cs p b l) 28)).alloc (.cells (rd (zeros 16) 0 0 0) 28)) w.heap.size (rd cs p b l) 28 := (At.new w _ _).alloc _
  have Y0 : At ((w.alloc (.cells (rd cs p b l) 28)).alloc (.cells (rd (zeros 16) 0 0 0) 28)) (w.heap.size + 1) (rd (zeros 16) 0 0 0) 28 := At.last1 w _ _ _
  have B0 := Lib.hid (bnew (b0 w (.cells (rd cs p b l) 28)) (.cells (rd (zeros 16) 0 0 0) 28))
  have KG := l02Given_any _ cs p b l hl hc hp hb hla o m ho hm _ ⟨_, _, R0⟩
  have gz := given_zero h
  have ok := OkR.of hl gz.1
  rw [h] at KG
  obtain ⟨ns, hns⟩ : ∃ ns, ns = fluxL p b cs o m := ⟨_, rfl⟩
  have hn17 : ns.length = 17 := by rw [hns]; exact fluxL_len _ _ _ _ _
  have hnb : ∀ x ∈ ns, x ≤ 1065353216 := by rw [hns]; exact fluxL_le ok o m
  have FZ : (fl ns).size = 17 := by rw [fl_size, hn17]
  have SZ : (rd (nextL p b cs o m) p b l).size = 19 := rd_size (nextL_len _ _ _ _ _) p b l
  have KF : ∀ W g, At W g (rd cs p b l) 28 → Calls Try.prog 21 #[.pointer (some ⟨g, 0, none⟩), .float .f32 o, .float .f32 m] W fun e w' => e = .returned (.agg (fl ns)) ∧ Below W.heap.size W w' := fun W g hA => by
    rw [hns]; exact l02Flows_any g _ p b l ok o m gz.2.1 gz.2.2 W _ hA
  have KS : ∀ W g gf, At W g (rd cs p b l) 28 → At W gf (fl ns) 33 → Calls Try.prog 22 #[.pointer (some ⟨g, 0, none⟩), .pointer (some ⟨gf, 0, none⟩)] W fun e w' => e = .returned (.agg (rd (nextL p b cs o m) p b l)) ∧ Below W.heap.size W w' := fun W g gf hA hF => by
    rw [nextL, ← hns]; exact l02Step_any g gf _ ns p b l hl hn17 ok.cars hnb W _ _ hA hF
  rw [← hns]
  have HNS := Lib.hid hns
  clear hns gz h hnb
  go_enter Try.func8, Try.ntmps8
  go_wp2_with fail
  refine KG.mono ?_
  rintro e' w1 ⟨rfl, n1, rfl⟩
  have R1 := R0.drewN n1
  have Y1 := Y0.drewN n1
  have B1 := Lib.hid (bdrew B0.out n1)
  clear KG R0 Y0 B0
  go_wp2_with fail
  refine (KF _ _ R1).mono ?_
  rintro e' w5 ⟨rfl, hb5⟩
  have R5 := R1.step hb5
  have Y5 := Y1.step hb5
  have B5 := Lib.hid (bthen B1.out hb5)
  clear R1 Y1 B1 hb5 KF
  have F0 := At.new w5 (fl (zeros 17)) 33
  have F6 := F0.setRow (fl ns)
  have R6 := (R5.alloc (.cells (fl (zeros 17)) 33)).setRow_other (k := w5.heap.size) (Nat.ne_of_lt R5.lt) (fl ns)
  have Y6 := (Y5.alloc (.cells (fl (zeros 17)) 33)).setRow_other (k := w5.heap.size) (Nat.ne_of_lt Y5.lt) (fl ns)
  have B6 := Lib.hid (bset (bnew B5.out (.cells (fl (zeros 17)) 33)) (g := w5.heap.size) B5.out.size (fl ns))
  have gl5 := Y5.lt
  go_wp2_with (((with_reducible refine is_store 33 (.tmp 11) (.tmp 21) rfl ?_); refine wpList_store_at rfl 33 (.tmp 11) (.tmp 21) rfl _ rfl (fl ns) rfl (fl (zeros 17)) _ (by assumption) 17 (FZ) (by rw [fl_size, zeros_len]) (by kernel_rfl) (fl_one _) ?_))
  clear F0 R5 Y5 B5
  rw [show (fl (zeros 17) : Array Value) = #[.float .f32 0, .float .f32 0, .float .f32 0, .float .f32 0, .float .f32 0, .float .f32 0, .float .f32 0, .float .f32 0, .float .f32 0, .float .f32 0, .float .f32 0, .float .f32 0, .float .f32 0, .float .f32 0, .float .f32 0, .float .f32 0, .float .f32 0] from rfl] at F6 R6 Y6 B6
  generalize hw6 : (w5.alloc (.cells #[.float .f32 0, .float .f32 0, .float .f32 0, .float .f32 0, .float .f32 0, .float .f32 0, .float .f32 0, .float .f32 0, .float .f32 0, .float .f32 0, .float .f32 0, .float .f32 0, .float .f32 0, .float .f32 0, .float .f32 0, .float .f32 0, .float .f32 0] 33)).setRow w5.heap.size (fl ns) = w6 at F6 R6 Y6 B6 ⊢
  clear hw6
  generalize w5.heap.size = gf at F6 gl5 ⊢
  try simp only [Act.put]
  have YL := Y6.lt
  refine wp_region_late (n := 7) (ist := 5) (d := 6) (s := 22) (T := 28) (gR := w.heap.size + 1) (OV := rd (zeros 16) 0 0 0) (RV := rd (nextL p b cs o m) p b l) (by kernel_rfl) (by kernel_rfl) (by kernel_rfl) ⟨rfl, rfl, by decide, by kernel_rfl, by kernel_rfl, by kernel_rfl, by kernel_rfl⟩ rfl Y6 (fun ev w' h1 h2 h3 => store_fresh rfl 19 SZ (rd_size (zeros_len 16) _ _ _) (by kernel_rfl) (fl_one _) ev w' _ h1 h2 h3) ?_
  intro CC hC0
  have R9 : ∀ w', CC w' → At w' w.heap.size (rd cs p b l) 28 := fun w' h => (hC0.sub w' h).at R6 (by omega)
  have F9 : ∀ w', CC w' → At w' gf (fl ns) 33 := fun w' h => (hC0.sub w' h).at F6 (by omega)
  have hC := hC0.const
  have d0 := fl_get (xs := ns) (k := 0) (by omega)
  have d6 := fl_get (xs := ns) (k := 16) (by omega)
  simp (config := { decide := true }) only [cutOut, nop, List.mapIdx_cons, List.mapIdx_nil, if_true, if_false, List.take, List.drop]
  repeat (first
    | go_big_quiet_skip
    | (go_big_quiet_want; first
      | (refine q_cellC 24 _ rfl _ Try.underlying24 _ rfl F9 _ d0 ?_; go_simp; go_big_quiet_on)
      | (refine q_cellC 24 _ rfl _ Try.underlying24 _ rfl F9 _ d6 ?_; go_simp; go_big_quiet_on)
      | (go_big_quiet_op; go_big_quiet_on)
      | (go_big_quiet_op; apply Exists.intro; refine ⟨fun w' hw' => ?_, ?_⟩; (go_at_call 22; exact (KS _ _ _ (R9 _ hw') (F9 _ hw')).mono fun _ _ h => ⟨h.1, hC0.step _ _ hw' h.2⟩); go_big_quiet_on)))
  refine wpQuiet_nil ?_
  refine ⟨rfl, fun w9 hw9 hA9 => ?_⟩
  have BB := Lib.hid (B6.out.trans (hw9.below (by omega) YL))
  clear hC R9 F9 hC0 hw9 R6 Y6 F6 B6
  go_wp2
  exact bodyPost_ret (v := .tuple #[.agg (rd (nextL p b cs o m) p b l), .float .f32 (nth ns 0), .float .f32 (nth ns 16), .int .i64 0]) (results_at3 (p := 6) (ty := 28) rfl _ _ _ (rd (nextL p b cs o m) p b l) _ _ _ _ rfl rfl rfl rfl hA9 _ Try.underlying28 rfl 19 (SZ) (by kernel_rfl)) rfl ⟨rfl, BB.out⟩

end Go.Proofs.Ytapnkkbkhifmeaa
