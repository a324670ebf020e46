/-
  CONTRACTS: the roads on one side of joints.
-/
import Derived.Test.YtboahhipobcabaaGreatTnA
import Derived.Test.YtboahhipobcabaaGreatMapI
namespace Go.Proofs.YtboahhipobcabaaGreat
open Go Go.ChangeShapes Go.WideShapes Go.ChangeAt Go.RowKit
set_option maxRecDepth 100000

theorem bputI {B : Nat} {w wr : World} (h : Below B w wr) {r : Nat} (hr : B ≤ r) (o : Obj) : Below B w (wr.putObj r o) := by
  have hsz : (wr.putObj r o).heap.size = wr.heap.size := World.putObj_size
  refine ⟨h.1, h.2, h.3, ?_, fun i hi => ?_⟩
  · have := h.size; omega
  · exact (World.putObj_heap_other (by omega)).trans (h.block i hi)

/-- lists one behind the other, up to a number -/
def flatN (F : Nat → List Int) : Nat → List Int
  | 0 => []
  | k + 1 => flatN F k ++ F k

def nodB (xs : List Int) : Bool := decide xs.Nodup

theorem nodB_snoc (xs : List Int) (q : Int) : nodB (xs ++ [q]) = (nodB xs && !decide (q ∈ xs)) := by
  have h : (xs ++ [q]).Nodup ↔ xs.Nodup ∧ q ∉ xs := by
    rw [List.nodup_append]
    constructor
    · rintro ⟨h1, -, h3⟩
      exact ⟨h1, fun hq => h3 q hq q (by simp) rfl⟩
    · rintro ⟨h1, h2⟩
      refine ⟨h1, by simp, fun a ha b hb => ?_⟩
      obtain rfl := List.mem_singleton.1 hb
      rintro rfl
      exact h2 ha
  unfold nodB
  by_cases c : xs.Nodup
  · by_cases d : q ∈ xs
    · rw [decide_eq_false (fun e => (h.1 e).2 d), decide_eq_true d]; simp
    · rw [decide_eq_true (h.2 ⟨c, d⟩), decide_eq_true c, decide_eq_false d]; rfl
  · rw [decide_eq_false (fun e => c (h.1 e).1), decide_eq_false c]; rfl

theorem take_snoc (xs : List Int) {t : Nat} (h : t < xs.length) : xs.take (t + 1) = xs.take t ++ [ith xs t] := by
  rw [List.take_succ_eq_append_getElem h]
  unfold ith
  rw [List.getD_eq_getElem?_getD, List.getElem?_eq_getElem h]
  rfl

theorem heap_old' {w : World} {r : Nat} (h : r < w.heap.size) (o : Obj) : (w.alloc o).heap[r]? = w.heap[r]? := by
  have := heap_old (w := w) (Array.getElem?_eq_getElem h) o
  rw [this, Array.getElem?_eq_getElem h]

theorem setRow_old' {W : World} {r k : Nat} (h : r ≠ k) (c : Array Value) : (W.setRow k c).heap[r]? = W.heap[r]? := heap_setRow_other W k r c h

theorem insOf_own (j : Jt) (a : Option Addr) (c : Nat) (a' : Option Addr) (c' : Nat) (w : World) :
    Calls Tryz.prog 129 #[.agg (jrC (jrOf j a c a' c'))] w fun e w' => e = .returned (.slice a j.ns.length c) ∧ Below w.heap.size w w' := by
  have A0 := At.new w (jrC (jrOf j a c a' c')) 73
  have hv : (jrC (jrOf j a c a' c'))[22]? = some (.slice a j.ns.length c) := jr_v j.hlt j.hlp _ _ _ _ _
  have B0 := Lib.hid (b0 w (.cells (jrC (jrOf j a c a' c')) 73))
  go_enter Tryz.func129, Tryz.ntmps129
  go_wp2_with (((with_reducible refine is_load 71 _ rfl ?_); refine wpList_load_cell rfl 71 _ rfl _ 22 rfl (jrC (jrOf j a c a' c')) _ (by with_reducible assumption) _ Tryz.underlying71 rfl (.slice a j.ns.length c) (hv) ?_))
  go_ret
  exact ⟨rfl, B0.out⟩

set_option maxHeartbeats 2000000 in
theorem roadsOn_insOf (gj : Nat) (js : List Jt) (ys : List Jr) (hn : js.length ≤ 1048576) (hN : jsN js js.length ≤ 1048576) (hl : ys.length = js.length) (w : World) (h : At w gj (fm jrC ys) 73) (hk0 : JOk w gj ys js) :
    Calls Tryz.prog 128 #[.slice (some ⟨gj, 0, none⟩) js.length js.length, .func (Fn.func 129) #[] #[]] w fun e w' => ∃ r, e = .returned (.tuple #[.map (some r), .bool (nodB (flatN (fun k => (fe zJ js k).ns) js.length))]) ∧ MpI w' r (flatN (fun k => (fe zJ js k).ns) js.length) ∧ w.heap.size ≤ r ∧ Below w.heap.size w w' := by
  have HX := Lib.hid (And.intro h (And.intro hk0 (And.intro hl hN)))
  obtain ⟨n, hnn⟩ : ∃ n, n = js.length := ⟨_, rfl⟩
  obtain ⟨FF, hF⟩ : ∃ FF, FF = fun k => (fe zJ js k).ns := ⟨_, rfl⟩
  rw [← hnn, ← hF]
  rw [← hnn] at hn
  have HN := Lib.hid hnn
  have HF := Lib.hid hF
  have hmm : (Instr.makeMap 203 none).run Tryz.prog w = .ok (.map (some w.heap.size)) (w.alloc (.map #[] 0)) := by kernel_rfl
  have HMM := Lib.hid hmm
  have M0 := MpI.new w
  have B0 := Lib.hid (b0 w (.map #[] 0))
  obtain ⟨M, hM⟩ : ∃ M, M = w.heap.size := ⟨_, rfl⟩
  have HMs := Lib.hid hM
  rw [← hM] at M0 hmm
  have HMM := Lib.hid hmm
  clear hnn h hk0 hl hN hF hmm hM
  go_enter Tryz.func128, Tryz.ntmps128
  go_wp2_with ((refine is_makeMapI 203 rfl ?_); refine wpList_makeMapI rfl 203 rfl _ _ HMM.out ?_)
  go_loopw [7, 15] (fun s i wr => ∃ k : Nat, k ≤ n ∧ i = .int .i64 (k : Int) ∧ s = .bool (nodB (flatN FF k)) ∧ MpI wr M (flatN FF k) ∧ Hid (Below w.heap.size w wr)) (fun _ i _ => n - (intOf i).toNat)
  case atStart => exact ⟨0, by omega, rfl, rfl, M0, B0⟩
  case round =>
    clear M0 B0
    obtain ⟨k, hk, rfl, rfl, MK, B1⟩ := hrel
    by_cases hlt : k < n
    · have s2 : IntKind.i64.wrap ((k : Int) + 1) = (k : Int) + 1 := IntWalk.i64_in _ (by omega)
      have kd : (k : Int) < (n : Int) := by omega
      have hkl : k < js.length := by rw [← HN.out]; exact hlt
      have A1 := HX.out.1.step B1.out
      have hsl := fm_at (d := zJr) (k := k * 25) jrC_size (xs := ys) (i := k) (by rw [HX.out.2.2.1]; exact hkl) rfl
      have hle : k * 25 + 25 ≤ (fm jrC ys).size := by rw [fm_size jrC_size, HX.out.2.2.1]; omega
      obtain ⟨g, h, hy, G0, H0, -, -⟩ := HX.out.2.1 k (by rw [HX.out.2.2.1]; exact hkl)
      rw [hy] at hsl
      have hNk := jsN_le (js := js) hkl
      have hFk : FF k = (fe zJ js k).ns := by rw [HF.out]
      have hml : (FF k).length ≤ 1048576 := by rw [hFk]; have := HX.out.2.2.2; omega
      have X0 : At w g (il (FF k)) 2 := by rw [hFk]; exact G0
      obtain ⟨y, hyy⟩ : ∃ y : Jr, y = jrOf (fe zJ js k) (some ⟨g, 0, none⟩) (fe zJ js k).ns.length (some ⟨h, 0, none⟩) (fe zJ js k).us.length := ⟨_, rfl⟩
      have KF := insOf_own (fe zJ js k) (some ⟨g, 0, none⟩) (fe zJ js k).ns.length (some ⟨h, 0, none⟩) (fe zJ js k).us.length
      have hone : (jrC y).all (·.oneCell') = true := by rw [hyy]; exact jr_one _ _ _ _ _ _ _ rfl rfl
      rw [← hyy] at hsl KF
      rw [← hFk] at KF
      have hfl : flatN FF (k + 1) = flatN FF k ++ FF k := rfl
      have HFL := Lib.hid hfl
      clear hyy hy G0 H0 hNk hkl hFk hfl
      have X0 := Lib.hid X0
      obtain ⟨xs, hxs⟩ : ∃ xs, xs = FF k := ⟨_, rfl⟩
      rw [← hxs] at KF hml X0 HFL
      clear hxs
      have N0 := At.new wr (#[.int .i64 0, .int .i64 0, .float .f32 0, .float .f32 0, .float .f32 0, .float .f32 0, .float .f32 0, .float .f32 0, .float .f32 0, .float .f32 0, .float .f32 0, .float .f32 0, .float .f32 0, .float .f32 0, .float .f32 0, .float .f32 0, .float .f32 0, .float .f32 0, .float .f32 0, .float .f32 0, .float .f32 0, .float .f32 0, .slice none 0 0, .slice none 0 0, .int .i64 0]) 73
      have N1 := N0.setRow (jrC y)
      have M1 := (MK.of (heap_old' MK.lt (.cells (#[.int .i64 0, .int .i64 0, .float .f32 0, .float .f32 0, .float .f32 0, .float .f32 0, .float .f32 0, .float .f32 0, .float .f32 0, .float .f32 0, .float .f32 0, .float .f32 0, .float .f32 0, .float .f32 0, .float .f32 0, .float .f32 0, .float .f32 0, .float .f32 0, .float .f32 0, .float .f32 0, .float .f32 0, .float .f32 0, .slice none 0 0, .slice none 0 0, .int .i64 0]) 73))).of (setRow_old' (Nat.ne_of_lt MK.lt) (jrC y) (W := wr.alloc (.cells (#[.int .i64 0, .int .i64 0, .float .f32 0, .float .f32 0, .float .f32 0, .float .f32 0, .float .f32 0, .float .f32 0, .float .f32 0, .float .f32 0, .float .f32 0, .float .f32 0, .float .f32 0, .float .f32 0, .float .f32 0, .float .f32 0, .float .f32 0, .float .f32 0, .float .f32 0, .float .f32 0, .float .f32 0, .float .f32 0, .slice none 0 0, .slice none 0 0, .int .i64 0]) 73)))
      have B2 := Lib.hid (bset (bnew B1.out (.cells (#[.int .i64 0, .int .i64 0, .float .f32 0, .float .f32 0, .float .f32 0, .float .f32 0, .float .f32 0, .float .f32 0, .float .f32 0, .float .f32 0, .float .f32 0, .float .f32 0, .float .f32 0, .float .f32 0, .float .f32 0, .float .f32 0, .float .f32 0, .float .f32 0, .float .f32 0, .float .f32 0, .float .f32 0, .float .f32 0, .slice none 0 0, .slice none 0 0, .int .i64 0]) 73)) (g := wr.heap.size) B1.out.size (jrC y))
      clear B1 MK
      generalize flatN FF k = xk at *
      go_wp2_with (first | ((with_reducible refine is_load 73 _ rfl ?_); refine wpList_load_part rfl 73 _ rfl _ (k * 25) rfl (fm jrC ys) _ (by with_reducible assumption) 25 hle _ Tryz.underlying73 rfl (by kernel_rfl) (jrC y) hsl ?_) | ((with_reducible refine is_store 73 _ _ rfl ?_); refine wpList_store_at rfl 73 _ _ rfl _ rfl (jrC y) rfl (#[.int .i64 0, .int .i64 0, .float .f32 0, .float .f32 0, .float .f32 0, .float .f32 0, .float .f32 0, .float .f32 0, .float .f32 0, .float .f32 0, .float .f32 0, .float .f32 0, .float .f32 0, .float .f32 0, .float .f32 0, .float .f32 0, .float .f32 0, .float .f32 0, .float .f32 0, .float .f32 0, .float .f32 0, .float .f32 0, .slice none 0 0, .slice none 0 0, .int .i64 0]) _ (by with_reducible assumption) 25 (jrC_size _) rfl (by kernel_rfl) hone ?_) | ((with_reducible refine is_load 73 _ rfl ?_); refine wpList_load_at rfl 73 _ rfl _ rfl (jrC y) _ (by with_reducible assumption) 25 (jrC_size _) _ Tryz.underlying73 rfl (by kernel_rfl) ?_))
      refine (KF _).mono ?_
      rintro e w3 ⟨rfl, hb3⟩
      have M3 := M1.step hb3
      have B3 := Lib.hid (bthen B2.out hb3)
      clear M1 B2 N0 N1 A1 hb3 KF hsl hle hone
      have m0 : nodB xk = nodB (xk ++ xs.take 0) := by rw [List.take_zero, List.append_nil]
      have M3 : MpI w3 M (xk ++ xs.take 0) := by rw [List.take_zero, List.append_nil]; exact M3
      have HM0 := Lib.hid m0
      obtain ⟨m, hm⟩ : ∃ m, m = xs.length := ⟨_, rfl⟩
      rw [← hm] at hml ⊢
      have HM := Lib.hid hm
      clear hm m0
      go_wp2_with fail
      go_loopw [7, 23] (fun s i wr => ∃ t : Nat, t ≤ m ∧ i = .int .i64 (t : Int) ∧ s = .bool (nodB (xk ++ xs.take t)) ∧ MpI wr M (xk ++ xs.take t) ∧ Hid (Below w.heap.size w wr)) (fun _ i _ => m - (intOf i).toNat)
      case atStart => exact ⟨0, by omega, rfl, by rw [HM0.out], M3, B3⟩
      case round =>
        clear M3 B3
        obtain ⟨t, ht, rfl, rfl, MK, B4⟩ := hrel
        by_cases htl : t < m
        · have s3 : IntKind.i64.wrap ((t : Int) + 1) = (t : Int) + 1 := IntWalk.i64_in _ (by omega)
          have kt : (t : Int) < (m : Int) := by omega
          have htx : t < xs.length := by rw [← HM.out]; exact htl
          have X4 := X0.out.step B4.out
          have dt := il_get htx
          have hts := take_snoc xs htx
          obtain ⟨q, hq⟩ : ∃ q, q = ith xs t := ⟨_, rfl⟩
          rw [← hq] at dt hts
          have HLK := Lib.hid (MK.look q 203 2 4 Tryz.underlying203 Tryz.underlying2 rfl)
          obtain ⟨o, hu, hM2⟩ := MK.add q 203 2 4 Tryz.underlying203 Tryz.underlying2
          have HU := Lib.hid hu
          have hnd := nodB_snoc (xk ++ xs.take t) q
          rw [List.append_assoc, ← hts] at hnd hM2
          have HM2 := hM2
          have B5 := Lib.hid (bputI B4.out (r := M) (by rw [HMs.out]; exact Nat.le_refl _) o)
          clear hu hM2 hts hq htx MK
          generalize decide (q ∈ xk ++ xs.take t) = d at *
          have HND := Lib.hid hnd
          clear hnd
          cases hb : nodB (xk ++ xs.take t)
          · have HV := Lib.hid (show Value.bool false = .bool (nodB (xk ++ xs.take (t + 1))) from by rw [HND.out, hb]; rfl)
            clear HND hb
            go_wp2_with (first | ((with_reducible refine is_load 2 _ rfl ?_); refine wpList_load_cell rfl 2 _ rfl _ t rfl (il xs) _ (by with_reducible assumption) _ Tryz.underlying2 rfl (.int .i64 q) (dt) ?_) | ((refine is_lookupI 203 _ _ false rfl ?_); refine wpList_lookupI_g rfl 203 _ _ false rfl _ _ rfl rfl _ HLK.out ?_) | ((refine is_mapUpdateI 203 _ _ _ rfl ?_); refine wpList_mapUpdateI rfl 203 _ _ _ rfl _ _ _ rfl rfl rfl _ HU.out ?_))
            exact ⟨⟨t + 1, by omega, by go_num, HV.out, HM2, B5⟩, by simp [intOf]; omega⟩
          · have HV := Lib.hid (show Value.bool (!d) = .bool (nodB (xk ++ xs.take (t + 1))) from by rw [HND.out, hb]; rfl)
            clear HND hb
            go_wp2_with (first | ((with_reducible refine is_load 2 _ rfl ?_); refine wpList_load_cell rfl 2 _ rfl _ t rfl (il xs) _ (by with_reducible assumption) _ Tryz.underlying2 rfl (.int .i64 q) (dt) ?_) | ((refine is_lookupI 203 _ _ false rfl ?_); refine wpList_lookupI_g rfl 203 _ _ false rfl _ _ rfl rfl _ HLK.out ?_) | ((refine is_mapUpdateI 203 _ _ _ rfl ?_); refine wpList_mapUpdateI rfl 203 _ _ _ rfl _ _ _ rfl rfl rfl _ HU.out ?_))
            exact ⟨⟨t + 1, by omega, by go_num, HV.out, HM2, B5⟩, by simp [intOf]; omega⟩
        · obtain rfl : m = t := by omega
          have he : xk ++ xs.take xs.length = xk ++ xs := by rw [List.take_length]
          rw [HM.out, he, ← HFL.out] at MK ⊢
          clear he
          go_wp2_with fail
          exact ⟨⟨k + 1, by omega, by go_num, rfl, MK, B4⟩, by simp [intOf]; omega⟩
    · obtain rfl : n = k := by omega
      go_wp2_with fail
      go_ret2
      exact ⟨M, rfl, MK, by rw [HMs.out]; exact Nat.le_refl _, B1.out⟩

theorem outsOf_own (j : Jt) (a : Option Addr) (c : Nat) (a' : Option Addr) (c' : Nat) (w : World) :
    Calls Tryz.prog 130 #[.agg (jrC (jrOf j a c a' c'))] w fun e w' => e = .returned (.slice a' j.us.length c') ∧ Below w.heap.size w w' := by
  have A0 := At.new w (jrC (jrOf j a c a' c')) 73
  have hv : (jrC (jrOf j a c a' c'))[23]? = some (.slice a' j.us.length c') := jr_u j.hlt j.hlp _ _ _ _ _
  have B0 := Lib.hid (b0 w (.cells (jrC (jrOf j a c a' c')) 73))
  go_enter Tryz.func130, Tryz.ntmps130
  go_wp2_with (((with_reducible refine is_load 71 _ rfl ?_); refine wpList_load_cell rfl 71 _ rfl _ 23 rfl (jrC (jrOf j a c a' c')) _ (by with_reducible assumption) _ Tryz.underlying71 rfl (.slice a' j.us.length c') (hv) ?_))
  go_ret
  exact ⟨rfl, B0.out⟩

set_option maxHeartbeats 2000000 in
theorem roadsOn_outsOf (gj : Nat) (js : List Jt) (ys : List Jr) (hn : js.length ≤ 1048576) (hN : jsN js js.length ≤ 1048576) (hl : ys.length = js.length) (w : World) (h : At w gj (fm jrC ys) 73) (hk0 : JOk w gj ys js) :
    Calls Tryz.prog 128 #[.slice (some ⟨gj, 0, none⟩) js.length js.length, .func (Fn.func 130) #[] #[]] w fun e w' => ∃ r, e = .returned (.tuple #[.map (some r), .bool (nodB (flatN (fun k => (fe zJ js k).us) js.length))]) ∧ MpI w' r (flatN (fun k => (fe zJ js k).us) js.length) ∧ w.heap.size ≤ r ∧ Below w.heap.size w w' := by
  have HX := Lib.hid (And.intro h (And.intro hk0 (And.intro hl hN)))
  obtain ⟨n, hnn⟩ : ∃ n, n = js.length := ⟨_, rfl⟩
  obtain ⟨FF, hF⟩ : ∃ FF, FF = fun k => (fe zJ js k).us := ⟨_, rfl⟩
  rw [← hnn, ← hF]
  rw [← hnn] at hn
  have HN := Lib.hid hnn
  have HF := Lib.hid hF
  have hmm : (Instr.makeMap 203 none).run Tryz.prog w = .ok (.map (some w.heap.size)) (w.alloc (.map #[] 0)) := by kernel_rfl
  have HMM := Lib.hid hmm
  have M0 := MpI.new w
  have B0 := Lib.hid (b0 w (.map #[] 0))
  obtain ⟨M, hM⟩ : ∃ M, M = w.heap.size := ⟨_, rfl⟩
  have HMs := Lib.hid hM
  rw [← hM] at M0 hmm
  have HMM := Lib.hid hmm
  clear hnn h hk0 hl hN hF hmm hM
  go_enter Tryz.func128, Tryz.ntmps128
  go_wp2_with ((refine is_makeMapI 203 rfl ?_); refine wpList_makeMapI rfl 203 rfl _ _ HMM.out ?_)
  go_loopw [7, 15] (fun s i wr => ∃ k : Nat, k ≤ n ∧ i = .int .i64 (k : Int) ∧ s = .bool (nodB (flatN FF k)) ∧ MpI wr M (flatN FF k) ∧ Hid (Below w.heap.size w wr)) (fun _ i _ => n - (intOf i).toNat)
  case atStart => exact ⟨0, by omega, rfl, rfl, M0, B0⟩
  case round =>
    clear M0 B0
    obtain ⟨k, hk, rfl, rfl, MK, B1⟩ := hrel
    by_cases hlt : k < n
    · have s2 : IntKind.i64.wrap ((k : Int) + 1) = (k : Int) + 1 := IntWalk.i64_in _ (by omega)
      have kd : (k : Int) < (n : Int) := by omega
      have hkl : k < js.length := by rw [← HN.out]; exact hlt
      have A1 := HX.out.1.step B1.out
      have hsl := fm_at (d := zJr) (k := k * 25) jrC_size (xs := ys) (i := k) (by rw [HX.out.2.2.1]; exact hkl) rfl
      have hle : k * 25 + 25 ≤ (fm jrC ys).size := by rw [fm_size jrC_size, HX.out.2.2.1]; omega
      obtain ⟨g, h, hy, G0, H0, -, -⟩ := HX.out.2.1 k (by rw [HX.out.2.2.1]; exact hkl)
      rw [hy] at hsl
      have hNk := jsN_le (js := js) hkl
      have hFk : FF k = (fe zJ js k).us := by rw [HF.out]
      have hml : (FF k).length ≤ 1048576 := by rw [hFk]; have := HX.out.2.2.2; omega
      have X0 : At w h (il (FF k)) 2 := by rw [hFk]; exact H0
      obtain ⟨y, hyy⟩ : ∃ y : Jr, y = jrOf (fe zJ js k) (some ⟨g, 0, none⟩) (fe zJ js k).ns.length (some ⟨h, 0, none⟩) (fe zJ js k).us.length := ⟨_, rfl⟩
      have KF := outsOf_own (fe zJ js k) (some ⟨g, 0, none⟩) (fe zJ js k).ns.length (some ⟨h, 0, none⟩) (fe zJ js k).us.length
      have hone : (jrC y).all (·.oneCell') = true := by rw [hyy]; exact jr_one _ _ _ _ _ _ _ rfl rfl
      rw [← hyy] at hsl KF
      rw [← hFk] at KF
      have hfl : flatN FF (k + 1) = flatN FF k ++ FF k := rfl
      have HFL := Lib.hid hfl
      clear hyy hy G0 H0 hNk hkl hFk hfl
      have X0 := Lib.hid X0
      obtain ⟨xs, hxs⟩ : ∃ xs, xs = FF k := ⟨_, rfl⟩
      rw [← hxs] at KF hml X0 HFL
      clear hxs
      have N0 := At.new wr (#[.int .i64 0, .int .i64 0, .float .f32 0, .float .f32 0, .float .f32 0, .float .f32 0, .float .f32 0, .float .f32 0, .float .f32 0, .float .f32 0, .float .f32 0, .float .f32 0, .float .f32 0, .float .f32 0, .float .f32 0, .float .f32 0, .float .f32 0, .float .f32 0, .float .f32 0, .float .f32 0, .float .f32 0, .float .f32 0, .slice none 0 0, .slice none 0 0, .int .i64 0]) 73
      have N1 := N0.setRow (jrC y)
      have M1 := (MK.of (heap_old' MK.lt (.cells (#[.int .i64 0, .int .i64 0, .float .f32 0, .float .f32 0, .float .f32 0, .float .f32 0, .float .f32 0, .float .f32 0, .float .f32 0, .float .f32 0, .float .f32 0, .float .f32 0, .float .f32 0, .float .f32 0, .float .f32 0, .float .f32 0, .float .f32 0, .float .f32 0, .float .f32 0, .float .f32 0, .float .f32 0, .float .f32 0, .slice none 0 0, .slice none 0 0, .int .i64 0]) 73))).of (setRow_old' (Nat.ne_of_lt MK.lt) (jrC y) (W := wr.alloc (.cells (#[.int .i64 0, .int .i64 0, .float .f32 0, .float .f32 0, .float .f32 0, .float .f32 0, .float .f32 0, .float .f32 0, .float .f32 0, .float .f32 0, .float .f32 0, .float .f32 0, .float .f32 0, .float .f32 0, .float .f32 0, .float .f32 0, .float .f32 0, .float .f32 0, .float .f32 0, .float .f32 0, .float .f32 0, .float .f32 0, .slice none 0 0, .slice none 0 0, .int .i64 0]) 73)))
      have B2 := Lib.hid (bset (bnew B1.out (.cells (#[.int .i64 0, .int .i64 0, .float .f32 0, .float .f32 0, .float .f32 0, .float .f32 0, .float .f32 0, .float .f32 0, .float .f32 0, .float .f32 0, .float .f32 0, .float .f32 0, .float .f32 0, .float .f32 0, .float .f32 0, .float .f32 0, .float .f32 0, .float .f32 0, .float .f32 0, .float .f32 0, .float .f32 0, .float .f32 0, .slice none 0 0, .slice none 0 0, .int .i64 0]) 73)) (g := wr.heap.size) B1.out.size (jrC y))
      clear B1 MK
      generalize flatN FF k = xk at *
      go_wp2_with (first | ((with_reducible refine is_load 73 _ rfl ?_); refine wpList_load_part rfl 73 _ rfl _ (k * 25) rfl (fm jrC ys) _ (by with_reducible assumption) 25 hle _ Tryz.underlying73 rfl (by kernel_rfl) (jrC y) hsl ?_) | ((with_reducible refine is_store 73 _ _ rfl ?_); refine wpList_store_at rfl 73 _ _ rfl _ rfl (jrC y) rfl (#[.int .i64 0, .int .i64 0, .float .f32 0, .float .f32 0, .float .f32 0, .float .f32 0, .float .f32 0, .float .f32 0, .float .f32 0, .float .f32 0, .float .f32 0, .float .f32 0, .float .f32 0, .float .f32 0, .float .f32 0, .float .f32 0, .float .f32 0, .float .f32 0, .float .f32 0, .float .f32 0, .float .f32 0, .float .f32 0, .slice none 0 0, .slice none 0 0, .int .i64 0]) _ (by with_reducible assumption) 25 (jrC_size _) rfl (by kernel_rfl) hone ?_) | ((with_reducible refine is_load 73 _ rfl ?_); refine wpList_load_at rfl 73 _ rfl _ rfl (jrC y) _ (by with_reducible assumption) 25 (jrC_size _) _ Tryz.underlying73 rfl (by kernel_rfl) ?_))
      refine (KF _).mono ?_
      rintro e w3 ⟨rfl, hb3⟩
      have M3 := M1.step hb3
      have B3 := Lib.hid (bthen B2.out hb3)
      clear M1 B2 N0 N1 A1 hb3 KF hsl hle hone
      have m0 : nodB xk = nodB (xk ++ xs.take 0) := by rw [List.take_zero, List.append_nil]
      have M3 : MpI w3 M (xk ++ xs.take 0) := by rw [List.take_zero, List.append_nil]; exact M3
      have HM0 := Lib.hid m0
      obtain ⟨m, hm⟩ : ∃ m, m = xs.length := ⟨_, rfl⟩
      rw [← hm] at hml ⊢
      have HM := Lib.hid hm
      clear hm m0
      go_wp2_with fail
      go_loopw [7, 23] (fun s i wr => ∃ t : Nat, t ≤ m ∧ i = .int .i64 (t : Int) ∧ s = .bool (nodB (xk ++ xs.take t)) ∧ MpI wr M (xk ++ xs.take t) ∧ Hid (Below w.heap.size w wr)) (fun _ i _ => m - (intOf i).toNat)
      case atStart => exact ⟨0, by omega, rfl, by rw [HM0.out], M3, B3⟩
      case round =>
        clear M3 B3
        obtain ⟨t, ht, rfl, rfl, MK, B4⟩ := hrel
        by_cases htl : t < m
        · have s3 : IntKind.i64.wrap ((t : Int) + 1) = (t : Int) + 1 := IntWalk.i64_in _ (by omega)
          have kt : (t : Int) < (m : Int) := by omega
          have htx : t < xs.length := by rw [← HM.out]; exact htl
          have X4 := X0.out.step B4.out
          have dt := il_get htx
          have hts := take_snoc xs htx
          obtain ⟨q, hq⟩ : ∃ q, q = ith xs t := ⟨_, rfl⟩
          rw [← hq] at dt hts
          have HLK := Lib.hid (MK.look q 203 2 4 Tryz.underlying203 Tryz.underlying2 rfl)
          obtain ⟨o, hu, hM2⟩ := MK.add q 203 2 4 Tryz.underlying203 Tryz.underlying2
          have HU := Lib.hid hu
          have hnd := nodB_snoc (xk ++ xs.take t) q
          rw [List.append_assoc, ← hts] at hnd hM2
          have HM2 := hM2
          have B5 := Lib.hid (bputI B4.out (r := M) (by rw [HMs.out]; exact Nat.le_refl _) o)
          clear hu hM2 hts hq htx MK
          generalize decide (q ∈ xk ++ xs.take t) = d at *
          have HND := Lib.hid hnd
          clear hnd
          cases hb : nodB (xk ++ xs.take t)
          · have HV := Lib.hid (show Value.bool false = .bool (nodB (xk ++ xs.take (t + 1))) from by rw [HND.out, hb]; rfl)
            clear HND hb
            go_wp2_with (first | ((with_reducible refine is_load 2 _ rfl ?_); refine wpList_load_cell rfl 2 _ rfl _ t rfl (il xs) _ (by with_reducible assumption) _ Tryz.underlying2 rfl (.int .i64 q) (dt) ?_) | ((refine is_lookupI 203 _ _ false rfl ?_); refine wpList_lookupI_g rfl 203 _ _ false rfl _ _ rfl rfl _ HLK.out ?_) | ((refine is_mapUpdateI 203 _ _ _ rfl ?_); refine wpList_mapUpdateI rfl 203 _ _ _ rfl _ _ _ rfl rfl rfl _ HU.out ?_))
            exact ⟨⟨t + 1, by omega, by go_num, HV.out, HM2, B5⟩, by simp [intOf]; omega⟩
          · have HV := Lib.hid (show Value.bool (!d) = .bool (nodB (xk ++ xs.take (t + 1))) from by rw [HND.out, hb]; rfl)
            clear HND hb
            go_wp2_with (first | ((with_reducible refine is_load 2 _ rfl ?_); refine wpList_load_cell rfl 2 _ rfl _ t rfl (il xs) _ (by with_reducible assumption) _ Tryz.underlying2 rfl (.int .i64 q) (dt) ?_) | ((refine is_lookupI 203 _ _ false rfl ?_); refine wpList_lookupI_g rfl 203 _ _ false rfl _ _ rfl rfl _ HLK.out ?_) | ((refine is_mapUpdateI 203 _ _ _ rfl ?_); refine wpList_mapUpdateI rfl 203 _ _ _ rfl _ _ _ rfl rfl rfl _ HU.out ?_))
            exact ⟨⟨t + 1, by omega, by go_num, HV.out, HM2, B5⟩, by simp [intOf]; omega⟩
        · obtain rfl : m = t := by omega
          have he : xk ++ xs.take xs.length = xk ++ xs := by rw [List.take_length]
          rw [HM.out, he, ← HFL.out] at MK ⊢
          clear he
          go_wp2_with fail
          exact ⟨⟨k + 1, by omega, by go_num, rfl, MK, B4⟩, by simp [intOf]; omega⟩
    · obtain rfl : n = k := by omega
      go_wp2_with fail
      go_ret2
      exact ⟨M, rfl, MK, by rw [HMs.out]; exact Nat.le_refl _, B1.out⟩

end Go.Proofs.YtboahhipobcabaaGreat
