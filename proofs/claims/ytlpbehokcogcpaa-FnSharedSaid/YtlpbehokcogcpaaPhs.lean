/-
  CONTRACTS: slices of phases, made the program's, compared, marked.
-/
import Derived.Test.YtlpbehokcogcpaaRdS
import Derived.Test.YtlpbehokcogcpaaToTab
import Derived.Test.YtlpbehokcogcpaaG3
namespace Go.Proofs.Ytlpbehokcogcpaa
open Go Go.ChangeShapes Go.WideShapes Go.ChangeAt Go.RowKit Go.Deep
set_option maxRecDepth 100000

/-- eight yes or no -/
abbrev P8 := { b : List Bool // b.length = 8 }

def z8 : P8 := ⟨noes 8, noes_len 8⟩

instance : Inhabited P8 := ⟨z8⟩

def f8 (p : P8) : Array Value := bl p.1

theorem f8_size (p : P8) : (f8 p).size = 8 := by unfold f8; rw [bl_size]; exact p.2

theorem f8_one (p : P8) : (f8 p).all (·.oneCell') = true := bl_one _

theorem f8_get (p : P8) {j : Nat} (hj : j < 8) : (f8 p)[j]? = some (.bool (bn p.1 j)) := bl_get (by have := p.2; omega)

/-- a slice of rows that is not empty: its elements are loaded -/
theorem GSl.getA {α : Type} {f : α → Array Value} {s : Nat} {d : α} (hf : ∀ x, (f x).size = s) {w : World} {v : Value} {xs : List α} (h : GSl f s d w v xs) (hz : xs.length ≠ 0) (ty : TypeId) {n : Nat} {e : TypeId} (hu : Try.prog.underlying ty = some (.array n e)) (hi : (Try.prog.info? ty).map (·.size) = some s) : ∃ g off cap, v = .slice (some ⟨g, off, none⟩) xs.length cap ∧
    ∀ k, k < xs.length → ∀ w', Below w.heap.size w w' → (Instr.loadAt ty (.pointer (some ⟨g, off + k * s, none⟩))).run Try.prog w' = .ok (.agg (f (fe d xs k))) w' := by
  rcases h.val with ⟨rfl, -⟩ | ⟨g, off, cap, rfl, hg, hc⟩
  · exact absurd rfl hz
  · refine ⟨g, off, cap, rfl, fun k hk w' hb => run_loadAt_cells (P := Try.prog) w' g (off + k * s) s ty (f (fe d xs k)) _ (hf _) hu rfl hi (fun j hj' => ?_)⟩
    rw [← hc k hk j hj']
    unfold World.cell?
    rw [hb.block g hg]

theorem szPhaseS_any (a : Option Addr) (n cap : Nat) (hn : n ≤ maxLen) (left : Int) (hl : 0 ≤ left ∧ left ≤ 1048576) (w : World) :
    Calls Try.prog 5 #[.slice a n cap, .int .i64 left] w fun e w' => e = .returned (.int .i64 (if left < (n : Int) then -1 else left - (n : Int))) ∧ Below w.heap.size w w' := by
  have hm : n ≤ 9223372036854775807 := Nat.le_trans hn (by decide)
  have s1 : IntKind.i64.wrap (left - (n : Int)) = left - (n : Int) := IntWalk.i64_in _ (by omega)
  by_cases hb : left < (n : Int)
  · rw [if_pos hb]
    have h1 : left - (n : Int) < 0 := by omega
    go_enter Try.func5, Try.ntmps5
    go_wp2
    go_ret
    exact ⟨rfl, Below.refl _ _⟩
  · rw [if_neg hb]
    have h1 : ¬ left - (n : Int) < 0 := by omega
    go_enter Try.func5, Try.ntmps5
    go_wp2
    go_ret
    exact ⟨rfl, Below.refl _ _⟩

theorem run_make_phases (W : World) (n : Nat) (hn : n ≤ 1048576) : (Instr.makeSlice 31 (.int .i64 (n : Int)) (.int .i64 (n : Int))).run Try.prog W = .ok (.slice (some ⟨W.heap.size, 0, none⟩) n n) (W.alloc (.cells (fm f8 (List.replicate n z8)) 43)) := by
  have hi : (Try.prog.info? 43).map (fun i => (i.zero, i.size, i.bytes)) = some (some (.agg (f8 z8)), 8, 8) := by kernel_rfl
  obtain ⟨i, h1, h2, h3, h4⟩ := info_parts hi
  have := run_make (P := Try.prog) W 31 43 i (.agg (f8 z8)) Try.underlying31 h1 h2 .i64 .i64 (n : Int) (n : Int) (by omega) (by omega) (by rw [h4]; omega) (by omega)
  rw [Int.toNat_natCast, h3] at this
  rw [← made_fm f8_size z8 n]
  exact this

set_option maxHeartbeats 1000000 in
theorem toPhaseS_any (v : Value) (rs : List P8) (w : World) (hF : GSl f8 8 z8 w v rs) (hn : rs.length ≤ 1048576) :
    Calls Try.prog 7 #[v] w fun e w' => e = .returned (.slice (some ⟨w.heap.size, 0, none⟩) rs.length rs.length) ∧ At w' w.heap.size (fm f8 rs) 43 ∧ Below w.heap.size w w' := by
  have hmk := run_make_phases w rs.length hn
  have A0 := At.new w (fm f8 (List.replicate rs.length z8)) 43
  have B0 := Lib.hid (b0 w (.cells (fm f8 (List.replicate rs.length z8)) 43))
  by_cases z : rs.length = 0
  · obtain ⟨a, cap, rfl⟩ := hF.any
    obtain rfl := List.length_eq_zero_iff.1 z
    have hmk' : (Instr.makeSlice 31 (.int .i64 0) (.int .i64 0)).run Try.prog w = .ok (.slice (some ⟨w.heap.size, 0, none⟩) 0 0) (w.alloc (.cells (fm f8 (List.replicate 0 z8)) 43)) := hmk
    clear hmk hF
    go_enter Try.func7, Try.ntmps7
    go_wp2_with ((at_make; refine wpList_make_runI rfl _ _ _ rfl _ _ _ rfl rfl hmk' ?_))
    go_loopw [4] (fun i wr => i = .int .i64 0 ∧ wr = w.alloc (.cells (fm f8 (List.replicate 0 z8)) 43)) (fun _ _ => 0)
    case atStart => exact ⟨rfl, rfl⟩
    case round =>
      obtain ⟨rfl, rfl⟩ := hrel
      go_wp2
      go_ret
      exact ⟨rfl, A0, B0.out⟩
  · obtain ⟨g, off, cap, rfl, HG⟩ := hF.getA f8_size z 42 Try.underlying42 (by kernel_rfl)
    have HL := Lib.hid HG
    clear HG hF
    obtain ⟨n, hnn⟩ : ∃ n, n = rs.length := ⟨_, rfl⟩
    rw [← hnn] at hn hmk A0 B0 z ⊢
    have HN := Lib.hid hnn
    rw [← cpF_zero n z8 rs] at A0
    clear hnn
    have HA := Lib.hid A0
    clear A0
    go_enter Try.func7, Try.ntmps7
    go_wp2_with ((at_make; refine wpList_make_runI rfl _ _ _ rfl _ _ _ rfl rfl hmk ?_))
    clear hmk
    go_loopw [4] (fun i wr => ∃ k : Nat, k ≤ n ∧ i = .int .i64 (k : Int) ∧ At wr w.heap.size (fm f8 (cpF n z8 rs k)) 43 ∧ Hid (Below w.heap.size w wr)) (fun i _ => n - (intOf i).toNat)
    case atStart => exact ⟨0, by omega, rfl, HA.out, B0⟩
    case round =>
      clear B0
      obtain ⟨k, hk, rfl, A1, B1⟩ := hrel
      have hlen := HN.out.symm
      by_cases hlt : k < n
      · have s2 : IntKind.i64.wrap ((k : Int) + 1) = (k : Int) + 1 := IntWalk.i64_in _ (by omega)
        have kd : (k : Int) < (n : Int) := by omega
        have hld2 := Lib.hid (HL.out k (by rw [hlen]; exact hlt) _ B1.out)
        have hsz := fm_size f8_size (cpF n z8 rs k)
        rw [cpF_len hlen k hk] at hsz
        have KT := toPhase_any (fe z8 rs k).1 (fe z8 rs k).2 wr
        have e3 : splice (fm f8 (cpF n z8 rs k)) (k * 8) (f8 (fe z8 rs k)) = fm f8 (cpF n z8 rs (k + 1)) := by rw [fm_set f8_size (by rw [cpF_len hlen k hk]; exact hlt) rfl, cpF_set hlen hlt]
        change Calls _ _ #[.agg (f8 (fe z8 rs k))] _ (fun e w' => e = .returned (.agg (f8 (fe z8 rs k))) ∧ _) at KT
        generalize fe z8 rs k = r at *
        clear hlen
        go_wp2_with ((with_reducible refine is_load 42 _ rfl ?_); refine wpList_load_of rfl 42 _ rfl _ rfl _ hld2.out ?_)
        refine KT.mono ?_
        rintro e w2 ⟨rfl, hb2⟩
        have A2 := A1.step hb2
        have A3 := A2.setRow (fm f8 (cpF n z8 rs (k + 1)))
        have B3 := Lib.hid (bset (bthen B1.out hb2) (g := w.heap.size) (Nat.le_refl _) (fm f8 (cpF n z8 rs (k + 1))))
        clear A1 B1 hb2 hld2 KT
        go_wp2_with (((with_reducible refine is_store 43 _ _ rfl ?_); refine wpList_store_part rfl 43 _ _ rfl _ _ rfl (f8 r) rfl (fm f8 (cpF n z8 rs k)) _ (by with_reducible assumption) 8 (f8_size _) (by rw [hsz]; omega) (by kernel_rfl) (f8_one _) (fm f8 (cpF n z8 rs (k + 1))) e3 ?_))
        exact ⟨⟨k + 1, by omega, by go_num, A3, B3⟩, by simp [intOf]; omega⟩
      · obtain rfl : n = k := by omega
        rw [cpF_all hlen] at A1
        clear hlen
        go_wp2
        go_ret
        exact ⟨rfl, A1, B1.out⟩


theorem eqPhaseS_same (g1 g2 : Nat) (xs : List P8) (hn : xs.length ≤ 1048576) (T1 T2 : TypeId) (w : World) (h1 : At w g1 (fm f8 xs) T1) (h2 : At w g2 (fm f8 xs) T2) :
    Calls Try.prog 11 #[.slice (some ⟨g1, 0, none⟩) xs.length xs.length, .slice (some ⟨g2, 0, none⟩) xs.length xs.length] w fun e w' => e = .returned (.bool true) ∧ Below w.heap.size w w' := by
  have HX := Lib.hid (And.intro h1 h2)
  obtain ⟨n, hnn⟩ : ∃ n, n = xs.length := ⟨_, rfl⟩
  rw [← hnn] at hn ⊢
  have HN := Lib.hid hnn
  clear hnn h1 h2
  go_enter Try.func11, Try.ntmps11
  go_wp2
  go_loopw [5] (fun i wr => ∃ k : Nat, k ≤ n ∧ i = .int .i64 (k : Int) ∧ Hid (Below w.heap.size w wr)) (fun i _ => n - (intOf i).toNat)
  case atStart => exact ⟨0, by omega, rfl, Lib.hid (Below.refl _ _)⟩
  case round =>
    obtain ⟨k, hk, rfl, B1⟩ := hrel
    by_cases hlt : k < n
    · have s2 : IntKind.i64.wrap ((k : Int) + 1) = (k : Int) + 1 := IntWalk.i64_in _ (by omega)
      have kd : (k : Int) < (n : Int) := by omega
      have A1 := HX.out.1.step B1.out
      have A2 := HX.out.2.step B1.out
      have hkl : k < xs.length := by rw [← HN.out]; exact hlt
      have SS := fm_size f8_size xs
      have hle : k * 8 + 8 ≤ (fm f8 xs).size := by rw [SS]; omega
      have hsl := fm_at (d := z8) f8_size hkl (k := k * 8) rfl
      have hb := (fe z8 xs k).2
      change (fm f8 xs).extract (k * 8) (k * 8 + 8) = bl (fe z8 xs k).1 at hsl
      generalize (fe z8 xs k).1 = row at hb hsl
      have hC := Cb.const wr
      clear SS hkl
      go_wp2
      refine wp_region_cb (by kernel_rfl) (by kernel_rfl) ?_
      repeat (first
        | go_big_quiet_skip
        | (go_big_quiet_want; first
          | (refine q_part 43 _ rfl (k * 8) rfl A1 8 hle _ Try.underlying43 rfl (by kernel_rfl) (bl row) hsl ?_; go_simp; go_big_quiet_on)
          | (refine q_part 43 _ rfl (k * 8) rfl A2 8 hle _ Try.underlying43 rfl (by kernel_rfl) (bl row) hsl ?_; go_simp; go_big_quiet_on)
          | (go_big_quiet_op; go_big_quiet_on)
          | (go_big_quiet_op; apply Exists.intro; refine ⟨fun w' hw' => ?_, ?_⟩; (go_at_call 30; exact (eqPhase_same row hb _).mono fun _ _ h => ⟨h.1, hw'.step h.2⟩); go_big_quiet_on)))
      refine wpQuiet_nil ?_
      intro w2 hw2
      have B2 := Lib.hid (bthen B1.out hw2)
      clear A1 A2 hb hle hsl hC B1 hw2
      go_wp2
      exact ⟨⟨k + 1, by omega, by go_num, B2⟩, by simp [intOf]; omega⟩
    · obtain rfl : n = k := by omega
      go_wp2
      go_ret
      exact ⟨rfl, B1.out⟩

theorem setRow_same8 {w : World} {g : Nat} {c : Array Value} {T : TypeId} (h0 : At w g c T) : w.setRow g c = w := by
  unfold World.setRow
  congr 1
  apply Array.ext_getElem?
  intro i
  rw [Array.getElem?_modify]
  by_cases e : g = i
  · subst e
    rw [if_pos rfl]
    unfold At at h0
    rw [h0]; rfl
  · rw [if_neg e]

set_option maxHeartbeats 1000000 in
theorem markPhaseS_any (g n cap : Nat) (cur : Array Value) (T : TypeId) (hn : n ≤ 1048576) (hs : n * 8 ≤ cur.size) (w : World) (h0 : At w g cur T) :
    Calls Try.prog 12 #[.slice (some ⟨g, 0, none⟩) n cap, .int .i64 1] w fun e w' => e = .returned (.int .i64 ((n : Int) * 8 + 1)) ∧ ∃ c, w' = w.setRow g c := by
  have HA := Lib.hid (fun c => h0.setRow c)
  have H0 := Lib.hid (show w.setRow g cur = w from setRow_same8 h0)
  obtain ⟨sz, hsz⟩ : ∃ sz, sz = cur.size := ⟨_, rfl⟩
  rw [← hsz] at hs
  have HSZ := Lib.hid hsz.symm
  clear hsz
  go_enter Try.func12, Try.ntmps12
  go_wp2
  go_loopw [1, 5] (fun s i wr => ∃ k : Nat, ∃ m : Int, ∃ c : Array Value, k ≤ n ∧ i = .int .i64 (k : Int) ∧ s = .int .i64 m ∧ Hid (m = (k : Int) * 8 + 1) ∧ Hid (wr = w.setRow g c ∧ c.size = sz)) (fun _ i _ => n - (intOf i).toNat)
  case atStart => exact ⟨0, 1, cur, by omega, rfl, rfl, Lib.hid rfl, Lib.hid ⟨H0.out.symm, HSZ.out⟩⟩
  case round =>
    clear h0 H0 HSZ
    obtain ⟨k, m, c, hk, rfl, rfl, hm, hw⟩ := hrel
    by_cases hlt : k < n
    · have s2 : IntKind.i64.wrap ((k : Int) + 1) = (k : Int) + 1 := IntWalk.i64_in _ (by omega)
      have kd : (k : Int) < (n : Int) := by omega
      have M0 := hm
      have W0 := hw
      go_wp2
      go_loopw [1, 6] (fun s j wr => ∃ q : Nat, ∃ m : Int, ∃ c : Array Value, q ≤ 8 ∧ j = .int .i64 (q : Int) ∧ s = .int .i64 m ∧ Hid (m = (k : Int) * 8 + (q : Int) + 1) ∧ Hid (wr = w.setRow g c ∧ c.size = sz)) (fun _ j _ => 8 - (intOf j).toNat)
      case atStart => exact ⟨0, m, c, by omega, rfl, rfl, Lib.hid (by have := M0.out; omega), W0⟩
      case round =>
        clear M0 W0 hm hw
        obtain ⟨q, m, c, hq, rfl, rfl, hm, hw⟩ := hrel
        have hmo := hm.out
        have s3 : IntKind.i64.wrap (m + 1) = m + 1 := IntWalk.i64_in _ (by omega)
        have Z : c.size = sz := hw.out.2
        have A1 : At wr g c T := by rw [hw.out.1]; exact HA.out _
        by_cases hql : q < 8
        · have s4 : IntKind.i64.wrap ((q : Int) + 1) = (q : Int) + 1 := IntWalk.i64_in _ (by omega)
          have qd : (q : Int) < 8 := by omega
          obtain ⟨c2, hc2⟩ : ∃ c2, c.setIfInBounds (k * 8 + q) (.bool (m.tmod 3 == 0)) = c2 := ⟨_, rfl⟩
          have hz2 : c2.size = sz := by rw [← hc2, Array.size_setIfInBounds]; exact Z
          have e1 := Lib.hid hc2
          have hw2 := Lib.hid (show (w.setRow g c).setRow g c2 = w.setRow g c2 ∧ c2.size = sz from ⟨setRow_setRow _ _ _ _, hz2⟩)
          have hm2 := Lib.hid (show m + 1 = (k : Int) * 8 + ((q + 1 : Nat) : Int) + 1 from by omega)
          clear hmo hm hc2 hz2
          go_wp2_with (((with_reducible refine is_store 4 _ _ rfl ?_); refine wpList_store_cell rfl 4 _ _ rfl _ (k * 8 + q) rfl (.bool (m.tmod 3 == 0)) rfl c _ (by with_reducible assumption) (by rw [Z]; omega) (by kernel_rfl) rfl c2 e1.out ?_))
          exact ⟨⟨q + 1, m + 1, c2, by omega, by go_num, rfl, hm2, Lib.hid (by rw [hw.out.1]; exact hw2.out)⟩, by simp [intOf]; omega⟩
        · obtain rfl : q = 8 := by omega
          have hm2 := Lib.hid (show m = ((k + 1 : Nat) : Int) * 8 + 1 from by omega)
          clear hmo hm
          go_wp2
          exact ⟨⟨k + 1, m, c, by omega, by go_num, rfl, hm2, hw⟩, by simp [intOf]; omega⟩
    · obtain rfl : n = k := by omega
      go_wp2
      go_ret
      exact ⟨by rw [hm.out]; rfl, c, hw.out.1⟩

end Go.Proofs.Ytlpbehokcogcpaa
