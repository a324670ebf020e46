/-
  CONTRACTS: joints.
-/
import Derived.Test.YtboahhipobcabaaGreatEqRd
import Derived.Test.YtboahhipobcabaaGreatG13
namespace Go.Proofs.YtboahhipobcabaaGreat
open Go Go.ChangeShapes Go.WideShapes Go.ChangeAt Go.RowKit
set_option maxRecDepth 100000

/-- a joint's cells -/
def jr (i o : Int) (ts ps : List Nat) (v u : Value) (p : Int) : Array Value := jn i o ts ps ++ #[v, u, .int .i64 p]

section
variable {ts ps : List Nat} (ht : ts.length = 16) (hp : ps.length = 4) (i o : Int) (v u : Value) (p : Int)
include ht hp

theorem jr_size : (jr i o ts ps v u p).size = 25 := by unfold jr; rw [Array.size_append, jn_size ht hp]; rfl

theorem jr_lo {k : Nat} (hk : k < 22) : (jr i o ts ps v u p)[k]? = (jn i o ts ps)[k]? := by unfold jr; rw [Array.getElem?_append_left (by rw [jn_size ht hp]; exact hk)]

theorem jr_v : (jr i o ts ps v u p)[22]? = some v := by unfold jr; rw [Array.getElem?_append_right (by rw [jn_size ht hp]; omega), jn_size ht hp]; rfl

theorem jr_u : (jr i o ts ps v u p)[23]? = some u := by unfold jr; rw [Array.getElem?_append_right (by rw [jn_size ht hp]; omega), jn_size ht hp]; rfl

theorem jr_p : (jr i o ts ps v u p)[24]? = some (.int .i64 p) := by unfold jr; rw [Array.getElem?_append_right (by rw [jn_size ht hp]; omega), jn_size ht hp]; rfl

theorem jr_jn : (jr i o ts ps v u p).extract 0 (0 + 22) = jn i o ts ps := by
  unfold jr
  rw [Nat.zero_add, Array.extract_append, jn_size ht hp]
  have := jn_size ht hp i o
  rw [Array.extract_eq_self_of_le (by omega)]
  simp

theorem jr_sv (x : Value) : (jr i o ts ps v u p).setIfInBounds 22 x = jr i o ts ps x u p := by
  unfold jr
  rw [Array.setIfInBounds_append_right (by rw [jn_size ht hp]; omega), jn_size ht hp]; rfl

theorem jr_su (x : Value) : (jr i o ts ps v u p).setIfInBounds 23 x = jr i o ts ps v x p := by
  unfold jr
  rw [Array.setIfInBounds_append_right (by rw [jn_size ht hp]; omega), jn_size ht hp]; rfl

theorem jr_sp (x : Int) : (jr i o ts ps v u p).setIfInBounds 24 (.int .i64 x) = jr i o ts ps v u x := by
  unfold jr
  rw [Array.setIfInBounds_append_right (by rw [jn_size ht hp]; omega), jn_size ht hp]; rfl

theorem jr_sj (i' o' : Int) {ts' ps' : List Nat} (ht' : ts'.length = 16) (hp' : ps'.length = 4) : splice (jr i o ts ps v u p) 0 (jn i' o' ts' ps') = jr i' o' ts' ps' v u p := by
  apply Array.ext'
  have e1 := jn_size ht hp i o
  have e2 := jn_size ht' hp' i' o'
  unfold splice jr
  simp only [Array.toList_append]
  show List.take 0 _ ++ (jn i' o' ts' ps').toList ++ List.drop (0 + (jn i' o' ts' ps').size) ((jn i o ts ps).toList ++ _) = _
  rw [e2, List.take_zero, List.nil_append, List.drop_append, Array.length_toList, e1, List.drop_eq_nil_of_le (by rw [Array.length_toList]; omega)]
  rfl

end

theorem jr_one (i o : Int) (ts ps : List Nat) (v u : Value) (p : Int) (hv : v.oneCell' = true) (hu : u.oneCell' = true) : (jr i o ts ps v u p).all (·.oneCell') = true := by
  unfold jr
  rw [Array.all_append, jn_one]
  rw [List.all_toArray, List.all_cons, List.all_cons, List.all_cons, List.all_nil, hv, hu]
  rfl

theorem jr_z : (#[.int .i64 0, .int .i64 0, .float .f32 0, .float .f32 0, .float .f32 0, .float .f32 0, .float .f32 0, .float .f32 0, .float .f32 0, .float .f32 0, .float .f32 0, .float .f32 0, .float .f32 0, .float .f32 0, .float .f32 0, .float .f32 0, .float .f32 0, .float .f32 0, .float .f32 0, .float .f32 0, .float .f32 0, .float .f32 0, .slice none 0 0, .slice none 0 0, .int .i64 0] : Array Value) = jr 0 0 (zeros 16) (zeros 4) (.slice none 0 0) (.slice none 0 0) 0 := by kernel_rfl

/-- a joint's numbers, all of them words -/
structure Jt where
  i : Int
  o : Int
  ts : List Nat
  ps : List Nat
  ns : List Int
  us : List Int
  p : Int
  hi : I64j i
  ho : I64j o
  hlt : ts.length = 16
  hlp : ps.length = 4
  hct : ∀ x ∈ ts, x < 4294967296
  hcp : ∀ x ∈ ps, x < 4294967296
  hns : ∀ x ∈ ns, I64j x
  hus : ∀ x ∈ us, I64j x
  hpl : I64j p

def zJ : Jt := ⟨0, 0, zeros 16, zeros 4, [], [], 0, ⟨by decide, by decide⟩, ⟨by decide, by decide⟩, zeros_len 16, zeros_len 4, fun x hx => by have := List.eq_of_mem_replicate hx; omega, fun x hx => by have := List.eq_of_mem_replicate hx; omega, by simp, by simp, ⟨by decide, by decide⟩⟩

/-- a joint's row: the numbers and its two slices -/
abbrev Jr := Jt × Value × Value

def jrC (x : Jr) : Array Value := jr x.1.i x.1.o x.1.ts x.1.ps x.2.1 x.2.2 x.1.p

theorem jrC_size (x : Jr) : (jrC x).size = 25 := jr_size x.1.hlt x.1.hlp _ _ _ _ _

def zJr : Jr := (zJ, .slice none 0 0, .slice none 0 0)

theorem ISl.of_at {w : World} {G cap : Nat} {xs : List Int} {T : TypeId} (h : At w G (il xs) T) (hm : xs.length ≤ maxLen) (hx : ∀ x ∈ xs, I64j x) : ISl w (.slice (some ⟨G, 0, none⟩) xs.length cap) xs :=
  ⟨.inr ⟨G, 0, cap, rfl, h.lt, fun i hi => by rw [Nat.zero_add]; exact h.cell (il_get hi)⟩, hx, hm⟩

set_option maxHeartbeats 1000000 in
theorem eqInt64S_st (v1 v2 : Value) (xs : List Int) (hn : xs.length ≤ 1048576) (w : World) (h1 : ISl w v1 xs) (h2 : ISl w v2 xs) :
    Calls Tryz.prog 111 #[v1, v2] w fun e w' => e = .returned (.bool true) ∧ Below w.heap.size w w' := by
  by_cases z : xs.length = 0
  · obtain ⟨a1, c1, rfl⟩ := h1.any
    obtain ⟨a2, c2, rfl⟩ := h2.any
    rw [z]
    clear h1 h2
    go_enter Tryz.func111, Tryz.ntmps111
    go_wp2
    go_loopw [5] (fun i wr => i = .int .i64 0 ∧ wr = w) (fun _ _ => 0)
    case atStart => exact ⟨rfl, rfl⟩
    case round =>
      obtain ⟨rfl, rfl⟩ := hrel
      go_wp2
      go_ret
      exact ⟨rfl, Below.refl _ _⟩
  · obtain ⟨g1, off1, cap1, rfl, hg1, L1⟩ := h1.val.resolve_left fun ⟨e, _⟩ => z (by rw [e]; rfl)
    obtain ⟨g2, off2, cap2, rfl, hg2, L2⟩ := h2.val.resolve_left fun ⟨e, _⟩ => z (by rw [e]; rfl)
    have HX := Lib.hid (And.intro L1 (And.intro L2 (And.intro hg1 hg2)))
    obtain ⟨n, hnn⟩ : ∃ n, n = xs.length := ⟨_, rfl⟩
    rw [← hnn] at hn z ⊢
    have HN := Lib.hid hnn
    clear hnn h1 h2 L1 L2 hg1 hg2
    go_enter Tryz.func111, Tryz.ntmps111
    go_wp2
    go_loopw [5] (fun i wr => ∃ k : Nat, k ≤ n ∧ i = .int .i64 (k : Int) ∧ Hid (Below w.heap.size w wr)) (fun i _ => n - (intOf i).toNat)
    case atStart => exact ⟨0, by omega, rfl, Lib.hid (Below.refl _ _)⟩
    case round =>
      obtain ⟨k, hk, rfl, B1⟩ := hrel
      by_cases hlt : k < n
      · have s2 : IntKind.i64.wrap ((k : Int) + 1) = (k : Int) + 1 := IntWalk.i64_in _ (by omega)
        have kd : (k : Int) < (n : Int) := by omega
        have M1 : ∀ w', Below wr.heap.size wr w' → w'.cell? ⟨g1, off1 + k, none⟩ = some (.int .i64 (ith xs k)) := fun w' hb => by
          rw [← HX.out.1 k (by rw [← HN.out]; exact hlt)]
          unfold World.cell?
          rw [(bthen B1.out hb).block g1 HX.out.2.2.1]
        have M2 : ∀ w', Below wr.heap.size wr w' → w'.cell? ⟨g2, off2 + k, none⟩ = some (.int .i64 (ith xs k)) := fun w' hb => by
          rw [← HX.out.2.1 k (by rw [← HN.out]; exact hlt)]
          unfold World.cell?
          rw [(bthen B1.out hb).block g2 HX.out.2.2.2]
        have M1 := Lib.hid (fun w' (hw : Below wr.heap.size wr w') => run_load_one w' 2 _ Tryz.underlying2 rfl _ _ (M1 w' hw))
        have M2 := Lib.hid (fun w' (hw : Below wr.heap.size wr w') => run_load_one w' 2 _ Tryz.underlying2 rfl _ _ (M2 w' hw))
        generalize ith xs k = x at *
        go_wp2_with fail
        refine wp_region_cb (by kernel_rfl) (by kernel_rfl) ?_
        have hC := Cb.const wr
        repeat (first
          | go_big_quiet_skip
          | (go_big_quiet_want; first
            | (refine q_load 2 _ rfl ⟨g1, off1 + k, none⟩ rfl (.int .i64 x) (fun w' hw' => M1.out w' hw') ?_; go_simp; go_big_quiet_on)
            | (refine q_load 2 _ rfl ⟨g2, off2 + k, none⟩ rfl (.int .i64 x) (fun w' hw' => M2.out w' hw') ?_; go_simp; go_big_quiet_on)
            | (go_big_quiet_op; go_big_quiet_on)))
        refine wpQuiet_nil ?_
        intro w5 hw5
        have B5 := Lib.hid (bthen B1.out hw5)
        clear hC M1 M2 hw5 B1
        go_wp2_with fail
        exact ⟨⟨k + 1, by omega, by go_num, B5⟩, by simp [intOf]; omega⟩
      · obtain rfl : n = k := by omega
        go_wp2
        go_ret
        exact ⟨rfl, B1.out⟩

theorem szJoint_any (i o : Int) (ts ps : List Nat) (ht : ts.length = 16) (hp : ps.length = 4) (a a' : Option Addr) (n c m c' : Nat) (p : Int) (hn : n ≤ maxLen) (hm : m ≤ maxLen) (left : Int) (hl : 0 ≤ left ∧ left ≤ 1048576) (w : World) :
    Calls Tryz.prog 53 #[.agg (jr i o ts ps (.slice a n c) (.slice a' m c') p), .int .i64 left] w fun e w' => e = .returned (.int .i64 (szV left ((n : Int) + (m : Int)))) ∧ Below w.heap.size w w' := by
  have K1 := fun w' => szInt64S_any a n c hn left hl w'
  have A0 := At.new w (jr i o ts ps (.slice a n c) (.slice a' m c') p) 118
  by_cases h : left < (n : Int)
  · rw [szV_lt (by omega)]
    simp only [if_pos h] at K1
    go_enter Tryz.func53, Tryz.ntmps53
    go_wp2_with (((with_reducible refine is_load 71 _ rfl ?_); refine wpList_load_cell rfl 71 _ rfl _ 22 rfl (jr i o ts ps (.slice a n c) (.slice a' m c') p) _ (by with_reducible assumption) _ Tryz.underlying71 rfl (.slice a n c) (jr_v ht hp _ _ _ _ _) ?_))
    refine (K1 _).mono ?_
    rintro e w1 ⟨rfl, hb1⟩
    go_wp2_with fail
    go_ret
    exact ⟨rfl, bthen (b0 _ _) hb1⟩
  · simp only [if_neg h] at K1
    have hd : 0 ≤ left - (n : Int) ∧ left - (n : Int) ≤ 1048576 := by omega
    have hd0 : ¬ left - (n : Int) < 0 := by omega
    have K2 := fun w' => szInt64S_any a' m c' hm (left - (n : Int)) hd w'
    by_cases h2 : left - (n : Int) < (m : Int)
    · rw [szV_lt (by omega)]
      simp only [if_pos h2] at K2
      clear h h2
      go_enter Tryz.func53, Tryz.ntmps53
      go_wp2_with (((with_reducible refine is_load 71 _ rfl ?_); refine wpList_load_cell rfl 71 _ rfl _ 22 rfl (jr i o ts ps (.slice a n c) (.slice a' m c') p) _ (by with_reducible assumption) _ Tryz.underlying71 rfl (.slice a n c) (jr_v ht hp _ _ _ _ _) ?_))
      refine (K1 _).mono ?_
      rintro e w1 ⟨rfl, hb1⟩
      have A1 := A0.step hb1
      have B1 := Lib.hid (bthen (b0 w _) hb1)
      clear A0 hb1 K1
      go_wp2_with (((with_reducible refine is_load 71 _ rfl ?_); refine wpList_load_cell rfl 71 _ rfl _ 23 rfl (jr i o ts ps (.slice a n c) (.slice a' m c') p) _ (by with_reducible assumption) _ Tryz.underlying71 rfl (.slice a' m c') (jr_u ht hp _ _ _ _ _) ?_))
      refine (K2 _).mono ?_
      rintro e w2 ⟨rfl, hb2⟩
      go_wp2_with fail
      go_ret
      exact ⟨rfl, bthen B1.out hb2⟩
    · rw [szV_ge (by omega)]
      simp only [if_neg h2] at K2
      have he : left - ((n : Int) + (m : Int)) = left - (n : Int) - (m : Int) := by omega
      have hd2 : ¬ left - (n : Int) - (m : Int) < 0 := by omega
      rw [he]
      clear h h2 he
      go_enter Tryz.func53, Tryz.ntmps53
      go_wp2_with (((with_reducible refine is_load 71 _ rfl ?_); refine wpList_load_cell rfl 71 _ rfl _ 22 rfl (jr i o ts ps (.slice a n c) (.slice a' m c') p) _ (by with_reducible assumption) _ Tryz.underlying71 rfl (.slice a n c) (jr_v ht hp _ _ _ _ _) ?_))
      refine (K1 _).mono ?_
      rintro e w1 ⟨rfl, hb1⟩
      have A1 := A0.step hb1
      have B1 := Lib.hid (bthen (b0 w _) hb1)
      clear A0 hb1 K1
      go_wp2_with (((with_reducible refine is_load 71 _ rfl ?_); refine wpList_load_cell rfl 71 _ rfl _ 23 rfl (jr i o ts ps (.slice a n c) (.slice a' m c') p) _ (by with_reducible assumption) _ Tryz.underlying71 rfl (.slice a' m c') (jr_u ht hp _ _ _ _ _) ?_))
      refine (K2 _).mono ?_
      rintro e w2 ⟨rfl, hb2⟩
      go_wp2_with fail
      go_ret
      exact ⟨rfl, bthen B1.out hb2⟩

set_option maxHeartbeats 1000000 in
theorem toJoint_any (i o : Int) (ts ps : List Nat) (ht : ts.length = 16) (hp : ps.length = 4) (hi : I64j i) (ho : I64j o) (hct : ∀ x ∈ ts, x < 4294967296) (hcp : ∀ x ∈ ps, x < 4294967296) (a a' : Option Addr) (c c' : Nat) (ns us : List Int) (p : Int) (w : World)
    (h1 : ISl w (.slice a ns.length c) ns) (h2 : ISl w (.slice a' us.length c') us) (hn : ns.length ≤ 1048576) (hu : us.length ≤ 1048576) :
    Calls Tryz.prog 58 #[.agg (jr i o ts ps (.slice a ns.length c) (.slice a' us.length c') p)] w fun e w' => ∃ G H, e = .returned (.agg (jr i o ts ps (.slice (some ⟨G, 0, none⟩) ns.length ns.length) (.slice (some ⟨H, 0, none⟩) us.length us.length) p)) ∧ At w' G (il ns) 2 ∧ At w' H (il us) 2 ∧ w.heap.size ≤ G ∧ w.heap.size ≤ H ∧ Below w.heap.size w w' := by
  have A0 : At (((w.alloc (.cells (jr i o ts ps (.slice a ns.length c) (.slice a' us.length c') p) 118)).alloc (.cells (#[.int .i64 0, .int .i64 0, .float .f32 0, .float .f32 0, .float .f32 0, .float .f32 0, .float .f32 0, .float .f32 0, .float .f32 0, .float .f32 0, .float .f32 0, .float .f32 0, .float .f32 0, .float .f32 0, .float .f32 0, .float .f32 0, .float .f32 0, .float .f32 0, .float .f32 0, .float .f32 0, .float .f32 0, .float .f32 0, .slice none 0 0, .slice none 0 0, .int .i64 0]) 73)).alloc (.cells (#[.int .i64 0, .int .i64 0, .float .f32 0, .float .f32 0, .float .f32 0, .float .f32 0, .float .f32 0, .float .f32 0, .float .f32 0, .float .f32 0, .float .f32 0, .float .f32 0, .float .f32 0, .float .f32 0, .float .f32 0, .float .f32 0, .float .f32 0, .float .f32 0, .float .f32 0, .float .f32 0, .float .f32 0, .float .f32 0, .slice none 0 0, .slice none 0 0, .int .i64 0]) 73)) w.heap.size (jr i o ts ps (.slice a ns.length c) (.slice a' us.length c') p) 118 := ((At.new w _ _).alloc _).alloc _
  have R0 : At (((w.alloc (.cells (jr i o ts ps (.slice a ns.length c) (.slice a' us.length c') p) 118)).alloc (.cells (#[.int .i64 0, .int .i64 0, .float .f32 0, .float .f32 0, .float .f32 0, .float .f32 0, .float .f32 0, .float .f32 0, .float .f32 0, .float .f32 0, .float .f32 0, .float .f32 0, .float .f32 0, .float .f32 0, .float .f32 0, .float .f32 0, .float .f32 0, .float .f32 0, .float .f32 0, .float .f32 0, .float .f32 0, .float .f32 0, .slice none 0 0, .slice none 0 0, .int .i64 0]) 73)).alloc (.cells (#[.int .i64 0, .int .i64 0, .float .f32 0, .float .f32 0, .float .f32 0, .float .f32 0, .float .f32 0, .float .f32 0, .float .f32 0, .float .f32 0, .float .f32 0, .float .f32 0, .float .f32 0, .float .f32 0, .float .f32 0, .float .f32 0, .float .f32 0, .float .f32 0, .float .f32 0, .float .f32 0, .float .f32 0, .float .f32 0, .slice none 0 0, .slice none 0 0, .int .i64 0]) 73)) (w.heap.size + 1) (#[.int .i64 0, .int .i64 0, .float .f32 0, .float .f32 0, .float .f32 0, .float .f32 0, .float .f32 0, .float .f32 0, .float .f32 0, .float .f32 0, .float .f32 0, .float .f32 0, .float .f32 0, .float .f32 0, .float .f32 0, .float .f32 0, .float .f32 0, .float .f32 0, .float .f32 0, .float .f32 0, .float .f32 0, .float .f32 0, .slice none 0 0, .slice none 0 0, .int .i64 0]) 73 := (At.last1 w _ _ _).alloc _
  have L0 : At (((w.alloc (.cells (jr i o ts ps (.slice a ns.length c) (.slice a' us.length c') p) 118)).alloc (.cells (#[.int .i64 0, .int .i64 0, .float .f32 0, .float .f32 0, .float .f32 0, .float .f32 0, .float .f32 0, .float .f32 0, .float .f32 0, .float .f32 0, .float .f32 0, .float .f32 0, .float .f32 0, .float .f32 0, .float .f32 0, .float .f32 0, .float .f32 0, .float .f32 0, .float .f32 0, .float .f32 0, .float .f32 0, .float .f32 0, .slice none 0 0, .slice none 0 0, .int .i64 0]) 73)).alloc (.cells (#[.int .i64 0, .int .i64 0, .float .f32 0, .float .f32 0, .float .f32 0, .float .f32 0, .float .f32 0, .float .f32 0, .float .f32 0, .float .f32 0, .float .f32 0, .float .f32 0, .float .f32 0, .float .f32 0, .float .f32 0, .float .f32 0, .float .f32 0, .float .f32 0, .float .f32 0, .float .f32 0, .float .f32 0, .float .f32 0, .slice none 0 0, .slice none 0 0, .int .i64 0]) 73)) (w.heap.size + 1 + 1) (#[.int .i64 0, .int .i64 0, .float .f32 0, .float .f32 0, .float .f32 0, .float .f32 0, .float .f32 0, .float .f32 0, .float .f32 0, .float .f32 0, .float .f32 0, .float .f32 0, .float .f32 0, .float .f32 0, .float .f32 0, .float .f32 0, .float .f32 0, .float .f32 0, .float .f32 0, .float .f32 0, .float .f32 0, .float .f32 0, .slice none 0 0, .slice none 0 0, .int .i64 0]) 73 := by
    have := At.new ((w.alloc (.cells (jr i o ts ps (.slice a ns.length c) (.slice a' us.length c') p) 118)).alloc (.cells (#[.int .i64 0, .int .i64 0, .float .f32 0, .float .f32 0, .float .f32 0, .float .f32 0, .float .f32 0, .float .f32 0, .float .f32 0, .float .f32 0, .float .f32 0, .float .f32 0, .float .f32 0, .float .f32 0, .float .f32 0, .float .f32 0, .float .f32 0, .float .f32 0, .float .f32 0, .float .f32 0, .float .f32 0, .float .f32 0, .slice none 0 0, .slice none 0 0, .int .i64 0]) 73)) (#[.int .i64 0, .int .i64 0, .float .f32 0, .float .f32 0, .float .f32 0, .float .f32 0, .float .f32 0, .float .f32 0, .float .f32 0, .float .f32 0, .float .f32 0, .float .f32 0, .float .f32 0, .float .f32 0, .float .f32 0, .float .f32 0, .float .f32 0, .float .f32 0, .float .f32 0, .float .f32 0, .float .f32 0, .float .f32 0, .slice none 0 0, .slice none 0 0, .int .i64 0]) 73
    rwa [World.size_alloc, World.size_alloc] at this
  have B0 := Lib.hid (bnew (bnew (b0 w (.cells (jr i o ts ps (.slice a ns.length c) (.slice a' us.length c') p) 118)) (.cells (#[.int .i64 0, .int .i64 0, .float .f32 0, .float .f32 0, .float .f32 0, .float .f32 0, .float .f32 0, .float .f32 0, .float .f32 0, .float .f32 0, .float .f32 0, .float .f32 0, .float .f32 0, .float .f32 0, .float .f32 0, .float .f32 0, .float .f32 0, .float .f32 0, .float .f32 0, .float .f32 0, .float .f32 0, .float .f32 0, .slice none 0 0, .slice none 0 0, .int .i64 0]) 73)) (.cells (#[.int .i64 0, .int .i64 0, .float .f32 0, .float .f32 0, .float .f32 0, .float .f32 0, .float .f32 0, .float .f32 0, .float .f32 0, .float .f32 0, .float .f32 0, .float .f32 0, .float .f32 0, .float .f32 0, .float .f32 0, .float .f32 0, .float .f32 0, .float .f32 0, .float .f32 0, .float .f32 0, .float .f32 0, .float .f32 0, .slice none 0 0, .slice none 0 0, .int .i64 0]) 73))
  have KJ := toJunction_any i o ts ps hi ho ht hp hct hcp
  have SZ := jr_size ht hp i o (.slice a ns.length c) (.slice a' us.length c') p
  have SZ0 : (jr 0 0 (zeros 16) (zeros 4) (.slice none 0 0) (.slice none 0 0) 0).size = 25 := jr_size (zeros_len 16) (zeros_len 4) _ _ _ _ _
  go_enter Tryz.func58, Tryz.ntmps58
  go_wp2_with (((with_reducible refine is_load 116 _ rfl ?_); refine wpList_load_part rfl 116 _ rfl _ 0 rfl (jr i o ts ps (.slice a ns.length c) (.slice a' us.length c') p) _ (by with_reducible assumption) 22 (by rw [SZ]; omega) _ Tryz.underlying116 rfl (by kernel_rfl) (jn i o ts ps) (jr_jn ht hp _ _ _ _ _) ?_))
  refine (KJ _).mono ?_
  rintro e w1 ⟨rfl, hb1⟩
  have A1 := A0.step hb1
  have R1 := R0.step hb1
  have L1 := L0.step hb1
  have B1 := Lib.hid (bthen B0.out hb1)
  clear A0 R0 L0 B0 hb1
  rw [jr_z] at R1 L1
  have A2 := A1.setRow_other (k := w.heap.size + 1 + 1) (by omega) (jr i o ts ps (.slice none 0 0) (.slice none 0 0) 0)
  have R2 := R1.setRow_other (k := w.heap.size + 1 + 1) (by omega) (jr i o ts ps (.slice none 0 0) (.slice none 0 0) 0)
  have L2 := L1.setRow (jr i o ts ps (.slice none 0 0) (.slice none 0 0) 0)
  have B2 := Lib.hid (bset B1.out (g := w.heap.size + 1 + 1) (by omega) (jr i o ts ps (.slice none 0 0) (.slice none 0 0) 0))
  have KS := toInt64S_any (.slice a ns.length c) ns _ (h1.step (Nat.le_refl _) B2.out) hn
  obtain ⟨G, hGd⟩ : ∃ G, G = (w1.setRow (w.heap.size + 1 + 1) (jr i o ts ps (.slice none 0 0) (.slice none 0 0) 0)).heap.size := ⟨_, rfl⟩
  rw [← hGd] at KS
  have hGg : w.heap.size + 1 + 1 < G := by have := L2.lt; omega
  have HGd := Lib.hid hGd
  clear hGd
  go_wp2_with (first | ((with_reducible refine is_store 70 _ _ rfl ?_); refine wpList_store_part rfl 70 _ _ rfl _ 0 rfl (jn i o ts ps) rfl (jr 0 0 (zeros 16) (zeros 4) (.slice none 0 0) (.slice none 0 0) 0) _ (by with_reducible assumption) 22 (jn_size ht hp _ _) (by rw [SZ0]; omega) (by kernel_rfl) (jn_one _ _ _ _) (jr i o ts ps (.slice none 0 0) (.slice none 0 0) 0) (jr_sj (zeros_len 16) (zeros_len 4) _ _ _ _ _ _ _ ht hp) ?_) | ((with_reducible refine is_load 71 _ rfl ?_); refine wpList_load_cell rfl 71 _ rfl _ 22 rfl (jr i o ts ps (.slice a ns.length c) (.slice a' us.length c') p) _ (by with_reducible assumption) _ Tryz.underlying71 rfl (.slice a ns.length c) (jr_v ht hp _ _ _ _ _) ?_))
  refine KS.mono ?_
  rintro e w2 ⟨rfl, G3, hb2⟩
  rw [HGd.out] at hb2
  clear KS HGd
  have A3 := A2.step hb2
  have R3 := R2.step hb2
  have L3 := L2.step hb2
  have B3 := Lib.hid (bthen B2.out hb2)
  clear A2 R2 L2 B2 hb2
  have A4 := A3.setRow_other (k := w.heap.size + 1 + 1) (by omega) (jr i o ts ps (.slice (some ⟨G, 0, none⟩) ns.length ns.length) (.slice none 0 0) 0)
  have R4 := R3.setRow_other (k := w.heap.size + 1 + 1) (by omega) (jr i o ts ps (.slice (some ⟨G, 0, none⟩) ns.length ns.length) (.slice none 0 0) 0)
  have L4 := L3.setRow (jr i o ts ps (.slice (some ⟨G, 0, none⟩) ns.length ns.length) (.slice none 0 0) 0)
  have G4 := G3.setRow_other (k := w.heap.size + 1 + 1) (by omega) (jr i o ts ps (.slice (some ⟨G, 0, none⟩) ns.length ns.length) (.slice none 0 0) 0)
  have B4 := Lib.hid (bset B3.out (g := w.heap.size + 1 + 1) (by omega) (jr i o ts ps (.slice (some ⟨G, 0, none⟩) ns.length ns.length) (.slice none 0 0) 0))
  have KS := toInt64S_any (.slice a' us.length c') us _ (h2.step (Nat.le_refl _) B4.out) hu
  obtain ⟨H, hHd⟩ : ∃ H, H = (w2.setRow (w.heap.size + 1 + 1) (jr i o ts ps (.slice (some ⟨G, 0, none⟩) ns.length ns.length) (.slice none 0 0) 0)).heap.size := ⟨_, rfl⟩
  rw [← hHd] at KS
  have hHg : w.heap.size + 1 + 1 < H := by have := L4.lt; omega
  have HHd := Lib.hid hHd
  clear hHd
  go_wp2_with (first | ((with_reducible refine is_store 71 _ _ rfl ?_); refine wpList_store_cell rfl 71 _ _ rfl _ 22 rfl (.slice (some ⟨G, 0, none⟩) ns.length ns.length) rfl (jr i o ts ps (.slice none 0 0) (.slice none 0 0) 0) _ (by with_reducible assumption) (by rw [jr_size ht hp]; omega) (by kernel_rfl) rfl (jr i o ts ps (.slice (some ⟨G, 0, none⟩) ns.length ns.length) (.slice none 0 0) 0) (jr_sv ht hp _ _ _ _ _ _) ?_) | ((with_reducible refine is_load 71 _ rfl ?_); refine wpList_load_cell rfl 71 _ rfl _ 23 rfl (jr i o ts ps (.slice a ns.length c) (.slice a' us.length c') p) _ (by with_reducible assumption) _ Tryz.underlying71 rfl (.slice a' us.length c') (jr_u ht hp _ _ _ _ _) ?_))
  refine KS.mono ?_
  rintro e w3 ⟨rfl, H5, hb3⟩
  rw [HHd.out] at hb3
  clear KS HHd
  have A5 := A4.step hb3
  have R5 := R4.step hb3
  have L5 := L4.step hb3
  have G5 := G4.step hb3
  have B5 := Lib.hid (bthen B4.out hb3)
  clear A4 R4 L4 G4 B4 hb3
  have A6 := A5.setRow_other (k := w.heap.size + 1 + 1) (by omega) (jr i o ts ps (.slice (some ⟨G, 0, none⟩) ns.length ns.length) (.slice (some ⟨H, 0, none⟩) us.length us.length) 0)
  have R6 := R5.setRow_other (k := w.heap.size + 1 + 1) (by omega) (jr i o ts ps (.slice (some ⟨G, 0, none⟩) ns.length ns.length) (.slice (some ⟨H, 0, none⟩) us.length us.length) 0)
  have L6 := L5.setRow (jr i o ts ps (.slice (some ⟨G, 0, none⟩) ns.length ns.length) (.slice (some ⟨H, 0, none⟩) us.length us.length) 0)
  have G6 := G5.setRow_other (k := w.heap.size + 1 + 1) (by omega) (jr i o ts ps (.slice (some ⟨G, 0, none⟩) ns.length ns.length) (.slice (some ⟨H, 0, none⟩) us.length us.length) 0)
  have H6 := H5.setRow_other (k := w.heap.size + 1 + 1) (by omega) (jr i o ts ps (.slice (some ⟨G, 0, none⟩) ns.length ns.length) (.slice (some ⟨H, 0, none⟩) us.length us.length) 0)
  have B6 := Lib.hid (bset B5.out (g := w.heap.size + 1 + 1) (by omega) (jr i o ts ps (.slice (some ⟨G, 0, none⟩) ns.length ns.length) (.slice (some ⟨H, 0, none⟩) us.length us.length) 0))
  have A7 := A6.setRow_other (k := w.heap.size + 1 + 1) (by omega) (jr i o ts ps (.slice (some ⟨G, 0, none⟩) ns.length ns.length) (.slice (some ⟨H, 0, none⟩) us.length us.length) p)
  have R7 := R6.setRow_other (k := w.heap.size + 1 + 1) (by omega) (jr i o ts ps (.slice (some ⟨G, 0, none⟩) ns.length ns.length) (.slice (some ⟨H, 0, none⟩) us.length us.length) p)
  have L7 := L6.setRow (jr i o ts ps (.slice (some ⟨G, 0, none⟩) ns.length ns.length) (.slice (some ⟨H, 0, none⟩) us.length us.length) p)
  have G7 := G6.setRow_other (k := w.heap.size + 1 + 1) (by omega) (jr i o ts ps (.slice (some ⟨G, 0, none⟩) ns.length ns.length) (.slice (some ⟨H, 0, none⟩) us.length us.length) p)
  have H7 := H6.setRow_other (k := w.heap.size + 1 + 1) (by omega) (jr i o ts ps (.slice (some ⟨G, 0, none⟩) ns.length ns.length) (.slice (some ⟨H, 0, none⟩) us.length us.length) p)
  have B7 := Lib.hid (bset B6.out (g := w.heap.size + 1 + 1) (by omega) (jr i o ts ps (.slice (some ⟨G, 0, none⟩) ns.length ns.length) (.slice (some ⟨H, 0, none⟩) us.length us.length) p))
  have R8 := R7.setRow (jr i o ts ps (.slice (some ⟨G, 0, none⟩) ns.length ns.length) (.slice (some ⟨H, 0, none⟩) us.length us.length) p)
  have L8 := L7.setRow_other (k := w.heap.size + 1) (by omega) (jr i o ts ps (.slice (some ⟨G, 0, none⟩) ns.length ns.length) (.slice (some ⟨H, 0, none⟩) us.length us.length) p)
  have G8 := G7.setRow_other (k := w.heap.size + 1) (by omega) (jr i o ts ps (.slice (some ⟨G, 0, none⟩) ns.length ns.length) (.slice (some ⟨H, 0, none⟩) us.length us.length) p)
  have H8 := H7.setRow_other (k := w.heap.size + 1) (by omega) (jr i o ts ps (.slice (some ⟨G, 0, none⟩) ns.length ns.length) (.slice (some ⟨H, 0, none⟩) us.length us.length) p)
  have B8 := Lib.hid (bset B7.out (g := w.heap.size + 1) (by omega) (jr i o ts ps (.slice (some ⟨G, 0, none⟩) ns.length ns.length) (.slice (some ⟨H, 0, none⟩) us.length us.length) p))
  go_wp2_with (first | ((with_reducible refine is_store 71 _ _ rfl ?_); refine wpList_store_cell rfl 71 _ _ rfl _ 23 rfl (.slice (some ⟨H, 0, none⟩) us.length us.length) rfl (jr i o ts ps (.slice (some ⟨G, 0, none⟩) ns.length ns.length) (.slice none 0 0) 0) _ (by with_reducible assumption) (by rw [jr_size ht hp]; omega) (by kernel_rfl) rfl (jr i o ts ps (.slice (some ⟨G, 0, none⟩) ns.length ns.length) (.slice (some ⟨H, 0, none⟩) us.length us.length) 0) (jr_su ht hp _ _ _ _ _ _) ?_) | ((with_reducible refine is_load 2 _ rfl ?_); refine wpList_load_cell rfl 2 _ rfl _ 24 rfl (jr i o ts ps (.slice a ns.length c) (.slice a' us.length c') p) _ (by with_reducible assumption) _ Tryz.underlying2 rfl (.int .i64 p) (jr_p ht hp _ _ _ _ _) ?_) | ((with_reducible refine is_store 2 _ _ rfl ?_); refine wpList_store_cell rfl 2 _ _ rfl _ 24 rfl (.int .i64 p) rfl (jr i o ts ps (.slice (some ⟨G, 0, none⟩) ns.length ns.length) (.slice (some ⟨H, 0, none⟩) us.length us.length) 0) _ (by with_reducible assumption) (by rw [jr_size ht hp]; omega) (by kernel_rfl) rfl (jr i o ts ps (.slice (some ⟨G, 0, none⟩) ns.length ns.length) (.slice (some ⟨H, 0, none⟩) us.length us.length) p) (jr_sp ht hp _ _ _ _ _ _) ?_) | ((with_reducible refine is_load 73 _ rfl ?_); refine wpList_load_at rfl 73 _ rfl _ rfl (jr i o ts ps (.slice (some ⟨G, 0, none⟩) ns.length ns.length) (.slice (some ⟨H, 0, none⟩) us.length us.length) p) _ (by with_reducible assumption) 25 (jr_size ht hp _ _ _ _ _) _ Tryz.underlying73 rfl (by kernel_rfl) ?_) | ((with_reducible refine is_store 73 _ _ rfl ?_); refine wpList_store_at rfl 73 _ _ rfl _ rfl (jr i o ts ps (.slice (some ⟨G, 0, none⟩) ns.length ns.length) (.slice (some ⟨H, 0, none⟩) us.length us.length) p) rfl (jr 0 0 (zeros 16) (zeros 4) (.slice none 0 0) (.slice none 0 0) 0) _ (by with_reducible assumption) 25 (jr_size ht hp _ _ _ _ _) (SZ0) (by kernel_rfl) (jr_one _ _ _ _ _ _ _ rfl rfl) ?_))
  exact bodyPost_ret (v := .agg (jr i o ts ps (.slice (some ⟨G, 0, none⟩) ns.length ns.length) (.slice (some ⟨H, 0, none⟩) us.length us.length) p)) (results_at (p := 2) (ty := 73) rfl _ _ _ (jr i o ts ps (.slice (some ⟨G, 0, none⟩) ns.length ns.length) (.slice (some ⟨H, 0, none⟩) us.length us.length) p) _ rfl R8 _ Tryz.underlying73 rfl 25 (jr_size ht hp _ _ _ _ _) (by kernel_rfl)) rfl ⟨_, _, rfl, G8, H8, by omega, by omega, B8.out⟩

set_option maxHeartbeats 1000000 in
theorem eqJoint_st (i o : Int) (ts ps : List Nat) (ht : ts.length = 16) (hp : ps.length = 4) (hct : ∀ x ∈ ts, x < 4294967296) (hcp : ∀ x ∈ ps, x < 4294967296) (a1 a2 b1 b2 : Option Addr) (c1 c2 d1 d2 : Nat) (ns us : List Int) (p : Int) (w : World)
    (h1 : ISl w (.slice a1 ns.length c1) ns) (h2 : ISl w (.slice a2 us.length c2) us) (h3 : ISl w (.slice b1 ns.length d1) ns) (h4 : ISl w (.slice b2 us.length d2) us) (hn : ns.length ≤ 1048576) (hu : us.length ≤ 1048576) :
    Calls Tryz.prog 63 #[.agg (jr i o ts ps (.slice a1 ns.length c1) (.slice a2 us.length c2) p), .agg (jr i o ts ps (.slice b1 ns.length d1) (.slice b2 us.length d2) p)] w fun e w' => e = .returned (.bool true) ∧ Below w.heap.size w w' := by
  have A0 : At ((w.alloc (.cells (jr i o ts ps (.slice a1 ns.length c1) (.slice a2 us.length c2) p) 73)).alloc (.cells (jr i o ts ps (.slice b1 ns.length d1) (.slice b2 us.length d2) p) 73)) w.heap.size (jr i o ts ps (.slice a1 ns.length c1) (.slice a2 us.length c2) p) 73 := (At.new w _ _).alloc _
  have C0 : At ((w.alloc (.cells (jr i o ts ps (.slice a1 ns.length c1) (.slice a2 us.length c2) p) 73)).alloc (.cells (jr i o ts ps (.slice b1 ns.length d1) (.slice b2 us.length d2) p) 73)) (w.heap.size + 1) (jr i o ts ps (.slice b1 ns.length d1) (.slice b2 us.length d2) p) 73 := At.last1 w _ _ _
  have B0 := Lib.hid (bnew (b0 w (.cells (jr i o ts ps (.slice a1 ns.length c1) (.slice a2 us.length c2) p) 73)) (.cells (jr i o ts ps (.slice b1 ns.length d1) (.slice b2 us.length d2) p) 73))
  have SZ1 := jr_size ht hp i o (.slice a1 ns.length c1) (.slice a2 us.length c2) p
  have SZ2 := jr_size ht hp i o (.slice b1 ns.length d1) (.slice b2 us.length d2) p
  have KJ := eqJunction_all i o ts ps ht hp hct hcp
  go_enter Tryz.func63, Tryz.ntmps63
  go_wp2_with (first | ((with_reducible refine is_load 70 _ rfl ?_); refine wpList_load_part rfl 70 _ rfl _ 0 rfl (jr i o ts ps (.slice a1 ns.length c1) (.slice a2 us.length c2) p) _ (by with_reducible assumption) 22 (by rw [SZ1]; omega) _ Tryz.underlying70 rfl (by kernel_rfl) (jn i o ts ps) (jr_jn ht hp _ _ _ _ _) ?_) | ((with_reducible refine is_load 70 _ rfl ?_); refine wpList_load_part rfl 70 _ rfl _ 0 rfl (jr i o ts ps (.slice b1 ns.length d1) (.slice b2 us.length d2) p) _ (by with_reducible assumption) 22 (by rw [SZ2]; omega) _ Tryz.underlying70 rfl (by kernel_rfl) (jn i o ts ps) (jr_jn ht hp _ _ _ _ _) ?_))
  refine (KJ _).mono ?_
  rintro e w1 ⟨rfl, hb1⟩
  have A1 := A0.step hb1
  have C1 := C0.step hb1
  have B1 := Lib.hid (bthen B0.out hb1)
  clear A0 C0 B0 hb1 KJ
  have KS := eqInt64S_st (.slice a1 ns.length c1) (.slice b1 ns.length d1) ns hn _ (h1.step (Nat.le_refl _) B1.out) (h3.step (Nat.le_refl _) B1.out)
  go_wp2_with (first | ((with_reducible refine is_load 71 _ rfl ?_); refine wpList_load_cell rfl 71 _ rfl _ 22 rfl (jr i o ts ps (.slice a1 ns.length c1) (.slice a2 us.length c2) p) _ (by with_reducible assumption) _ Tryz.underlying71 rfl (.slice a1 ns.length c1) (jr_v ht hp _ _ _ _ _) ?_) | ((with_reducible refine is_load 71 _ rfl ?_); refine wpList_load_cell rfl 71 _ rfl _ 22 rfl (jr i o ts ps (.slice b1 ns.length d1) (.slice b2 us.length d2) p) _ (by with_reducible assumption) _ Tryz.underlying71 rfl (.slice b1 ns.length d1) (jr_v ht hp _ _ _ _ _) ?_))
  refine KS.mono ?_
  rintro e w2 ⟨rfl, hb2⟩
  have A2 := A1.step hb2
  have C2 := C1.step hb2
  have B2 := Lib.hid (bthen B1.out hb2)
  clear A1 C1 B1 hb2 KS
  have KS := eqInt64S_st (.slice a2 us.length c2) (.slice b2 us.length d2) us hu _ (h2.step (Nat.le_refl _) B2.out) (h4.step (Nat.le_refl _) B2.out)
  go_wp2_with (first | ((with_reducible refine is_load 71 _ rfl ?_); refine wpList_load_cell rfl 71 _ rfl _ 23 rfl (jr i o ts ps (.slice a1 ns.length c1) (.slice a2 us.length c2) p) _ (by with_reducible assumption) _ Tryz.underlying71 rfl (.slice a2 us.length c2) (jr_u ht hp _ _ _ _ _) ?_) | ((with_reducible refine is_load 71 _ rfl ?_); refine wpList_load_cell rfl 71 _ rfl _ 23 rfl (jr i o ts ps (.slice b1 ns.length d1) (.slice b2 us.length d2) p) _ (by with_reducible assumption) _ Tryz.underlying71 rfl (.slice b2 us.length d2) (jr_u ht hp _ _ _ _ _) ?_))
  refine KS.mono ?_
  rintro e w3 ⟨rfl, hb3⟩
  have x1 := (A2.step hb3).cell (jr_p ht hp i o (.slice a1 ns.length c1) (.slice a2 us.length c2) p)
  have x2 := (C2.step hb3).cell (jr_p ht hp i o (.slice b1 ns.length d1) (.slice b2 us.length d2) p)
  have B3 := Lib.hid (bthen B2.out hb3)
  clear A2 C2 B2 hb3 KS
  go_wp2_with fail
  go_ret
  exact ⟨rfl, B3.out⟩

end Go.Proofs.YtboahhipobcabaaGreat
