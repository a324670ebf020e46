/-
  CONTRACTS: slices of flat elements; slices of roads, made the program's.
-/
import Derived.Test.YtboahhipobcabaaG2
import Derived.Test.YtboahhipobcabaaG8
import Derived.Test.YtboahhipobcabaaInts
import Derived.Test.YtboahhipobcabaaConv
namespace Go.Proofs.Ytboahhipobcabaa
open Go Go.ChangeShapes Go.WideShapes Go.ChangeAt Go.RowKit
set_option maxRecDepth 100000

/-- a slice of flat elements, wherever it lies -/
structure GSl {α : Type} (f : α → Array Value) (s : Nat) (d : α) (w : World) (v : Value) (xs : List α) : Prop where
  val : (xs = [] ∧ ∃ a cap, v = .slice a 0 cap) ∨ ∃ g off cap, v = .slice (some ⟨g, off, none⟩) xs.length cap ∧ g < w.heap.size ∧ ∀ i, i < xs.length → ∀ j, j < s → w.cell? ⟨g, off + i * s + j, none⟩ = (f (fe d xs i))[j]?
  len : xs.length ≤ maxLen

theorem GSl.step {α : Type} {f : α → Array Value} {s : Nat} {d : α} {B : Nat} {w w' : World} {v : Value} {xs : List α} (h : GSl f s d w v xs) (hB : w.heap.size ≤ B) (hb : Below B w w') : GSl f s d w' v xs := by
  refine ⟨h.val.imp id ?_, h.len⟩
  rintro ⟨g, off, cap, rfl, hg, hc⟩
  refine ⟨g, off, cap, rfl, Nat.lt_of_lt_of_le hg hb.size, fun i hi j hj => ?_⟩
  rw [← hc i hi j hj]
  unfold World.cell?
  rw [hb.block g (by omega)]

theorem GSl.any {α : Type} {f : α → Array Value} {s : Nat} {d : α} {w : World} {v : Value} {xs : List α} (h : GSl f s d w v xs) : ∃ a cap, v = .slice a xs.length cap := by
  rcases h.val with ⟨rfl, a, cap, rfl⟩ | ⟨g, off, cap, rfl, -⟩
  · exact ⟨a, cap, rfl⟩
  · exact ⟨_, cap, rfl⟩

theorem GSl.of_at {α : Type} {f : α → Array Value} {s : Nat} {d : α} (hf : ∀ x, (f x).size = s) {w : World} {G cap : Nat} {xs : List α} {T : TypeId} (h : At w G (fm f xs) T) (hm : xs.length ≤ maxLen) : GSl f s d w (.slice (some ⟨G, 0, none⟩) xs.length cap) xs :=
  ⟨.inr ⟨G, 0, cap, rfl, h.lt, fun i hi j hj => by rw [cell_of_row _ _ _ _ _ _ h, Nat.zero_add]; exact fm_get hf hi hj⟩, hm⟩

/-- a slice that is not empty: its elements are loaded -/
theorem GSl.get {α : Type} {f : α → Array Value} {s : Nat} {d : α} (hf : ∀ x, (f x).size = s) {w : World} {v : Value} {xs : List α} (h : GSl f s d w v xs) (hz : xs.length ≠ 0) (ty : TypeId) (fs : Array Field) (hu : Try.prog.underlying ty = some (.struct fs)) (hi : (Try.prog.info? ty).map (·.size) = some s) : ∃ g off cap, v = .slice (some ⟨g, off, none⟩) xs.length cap ∧
    ∀ k, k < xs.length → ∀ w', Below w.heap.size w w' → (Instr.loadAt ty (.pointer (some ⟨g, off + k * s, none⟩))).run Try.prog w' = .ok (.agg (f (fe d xs k))) w' := by
  rcases h.val with ⟨rfl, -⟩ | ⟨g, off, cap, rfl, hg, hc⟩
  · exact absurd rfl hz
  · refine ⟨g, off, cap, rfl, fun k hk w' hb => run_loadAt_cells (P := Try.prog) w' g (off + k * s) s ty (f (fe d xs k)) _ (hf _) hu rfl hi (fun j hj' => ?_)⟩
    rw [← hc k hk j hj']
    unfold World.cell?
    rw [hb.block g hg]

/-- a road's numbers, all of them words -/
structure Rd4 where
  cs : List Nat
  p : Nat
  b : Nat
  l : Nat
  hl : cs.length = 16
  hc : ∀ x ∈ cs, x < 4294967296
  hp : p < 4294967296
  hb : b < 4294967296
  hla : l < 4294967296

def rdr (r : Rd4) : Array Value := rd r.cs r.p r.b r.l

def zR : Rd4 := ⟨zeros 16, 0, 0, 0, zeros_len 16, fun x hx => by have := List.eq_of_mem_replicate hx; omega, by omega, by omega, by omega⟩

theorem rdr_size (r : Rd4) : (rdr r).size = 19 := rd_size r.hl _ _ _

theorem rdr_one (r : Rd4) : (rdr r).all (·.oneCell') = true := fl_one _

theorem rdr_z : rdr zR = rd (zeros 16) 0 0 0 := rfl

theorem szRoadS_any (a : Option Addr) (n cap : Nat) (hn : n ≤ maxLen) (left : Int) (hl : 0 ≤ left ∧ left ≤ 1048576) (w : World) :
    Calls Try.prog 18 #[.slice a n cap, .int .i64 left] w fun e w' => e = .returned (.int .i64 (if left < (n : Int) then -1 else left - (n : Int))) ∧ Below w.heap.size w w' := by
  have hm : n ≤ 9223372036854775807 := Nat.le_trans hn (by decide)
  have s1 : IntKind.i64.wrap (left - (n : Int)) = left - (n : Int) := IntWalk.i64_in _ (by omega)
  by_cases hb : left < (n : Int)
  · rw [if_pos hb]
    have h1 : left - (n : Int) < 0 := by omega
    go_enter Try.func18, Try.ntmps18
    go_wp2
    go_ret
    exact ⟨rfl, Below.refl _ _⟩
  · rw [if_neg hb]
    have h1 : ¬ left - (n : Int) < 0 := by omega
    go_enter Try.func18, Try.ntmps18
    go_wp2
    go_ret
    exact ⟨rfl, Below.refl _ _⟩

theorem run_make_roads (W : World) (n : Nat) (hn : n ≤ 1048576) : (Instr.makeSlice 31 (.int .i64 (n : Int)) (.int .i64 (n : Int))).run Try.prog W = .ok (.slice (some ⟨W.heap.size, 0, none⟩) n n) (W.alloc (.cells (fm rdr (List.replicate n zR)) 62)) := by
  have hi : (Try.prog.info? 62).map (fun i => (i.zero, i.size, i.bytes)) = some (some (.agg (rdr zR)), 19, 76) := by kernel_rfl
  obtain ⟨i, h1, h2, h3, h4⟩ := info_parts hi
  have := run_make (P := Try.prog) W 31 62 i (.agg (rdr zR)) Try.underlying31 h1 h2 .i64 .i64 (n : Int) (n : Int) (by omega) (by omega) (by rw [h4]; omega) (by omega)
  rw [Int.toNat_natCast, h3] at this
  rw [← made_fm rdr_size zR n]
  exact this

set_option maxHeartbeats 1000000 in
theorem toRoadS_any (v : Value) (rs : List Rd4) (w : World) (hF : GSl rdr 19 zR w v rs) (hn : rs.length ≤ 1048576) :
    Calls Try.prog 23 #[v] w fun e w' => e = .returned (.slice (some ⟨w.heap.size, 0, none⟩) rs.length rs.length) ∧ At w' w.heap.size (fm rdr rs) 62 ∧ Below w.heap.size w w' := by
  have hmk := run_make_roads w rs.length hn
  have A0 := At.new w (fm rdr (List.replicate rs.length zR)) 62
  have B0 := Lib.hid (b0 w (.cells (fm rdr (List.replicate rs.length zR)) 62))
  by_cases z : rs.length = 0
  · obtain ⟨a, cap, rfl⟩ := hF.any
    obtain rfl := List.length_eq_zero_iff.1 z
    have hmk' : (Instr.makeSlice 31 (.int .i64 0) (.int .i64 0)).run Try.prog w = .ok (.slice (some ⟨w.heap.size, 0, none⟩) 0 0) (w.alloc (.cells (fm rdr (List.replicate 0 zR)) 62)) := hmk
    clear hmk hF
    go_enter Try.func23, Try.ntmps23
    go_wp2_with ((at_make; refine wpList_make_runI rfl _ _ _ rfl _ _ _ rfl rfl hmk' ?_))
    go_loopw [4] (fun i wr => i = .int .i64 0 ∧ wr = w.alloc (.cells (fm rdr (List.replicate 0 zR)) 62)) (fun _ _ => 0)
    case atStart => exact ⟨rfl, rfl⟩
    case round =>
      obtain ⟨rfl, rfl⟩ := hrel
      go_wp2
      go_ret
      exact ⟨rfl, A0, B0.out⟩
  · obtain ⟨g, off, cap, rfl, HG⟩ := hF.get rdr_size z 127 _ Try.underlying127 (by kernel_rfl)
    have HL := Lib.hid HG
    clear HG hF
    obtain ⟨n, hnn⟩ : ∃ n, n = rs.length := ⟨_, rfl⟩
    rw [← hnn] at hn hmk A0 B0 z ⊢
    have HN := Lib.hid hnn
    rw [← cpF_zero n zR rs] at A0
    clear hnn
    have HA := Lib.hid A0
    clear A0
    go_enter Try.func23, Try.ntmps23
    go_wp2_with ((at_make; refine wpList_make_runI rfl _ _ _ rfl _ _ _ rfl rfl hmk ?_))
    clear hmk
    go_loopw [4] (fun i wr => ∃ k : Nat, k ≤ n ∧ i = .int .i64 (k : Int) ∧ At wr w.heap.size (fm rdr (cpF n zR rs k)) 62 ∧ Hid (Below w.heap.size w wr)) (fun i _ => n - (intOf i).toNat)
    case atStart => exact ⟨0, by omega, rfl, HA.out, B0⟩
    case round =>
      clear B0
      obtain ⟨k, hk, rfl, A1, B1⟩ := hrel
      have hlen := HN.out.symm
      by_cases hlt : k < n
      · have s2 : IntKind.i64.wrap ((k : Int) + 1) = (k : Int) + 1 := IntWalk.i64_in _ (by omega)
        have kd : (k : Int) < (n : Int) := by omega
        have hld2 := Lib.hid (HL.out k (by rw [hlen]; exact hlt) _ B1.out)
        have hsz := fm_size rdr_size (cpF n zR rs k)
        rw [cpF_len hlen k hk] at hsz
        have KT := toRoad_any (fe zR rs k).cs (fe zR rs k).p (fe zR rs k).b (fe zR rs k).l (fe zR rs k).hl wr
        have e3 : splice (fm rdr (cpF n zR rs k)) (k * 19) (rdr (fe zR rs k)) = fm rdr (cpF n zR rs (k + 1)) := by rw [fm_set rdr_size (by rw [cpF_len hlen k hk]; exact hlt) rfl, cpF_set hlen hlt]
        change Calls _ _ #[.agg (rdr (fe zR rs k))] _ (fun e w' => e = .returned (.agg (rdr (fe zR rs k))) ∧ _) at KT
        generalize fe zR rs k = r at *
        clear hlen
        go_wp2_with ((with_reducible refine is_load 127 _ rfl ?_); refine wpList_load_of rfl 127 _ rfl _ rfl _ hld2.out ?_)
        refine KT.mono ?_
        rintro e w2 ⟨rfl, hb2⟩
        have A2 := A1.step hb2
        have A3 := A2.setRow (fm rdr (cpF n zR rs (k + 1)))
        have B3 := Lib.hid (bset (bthen B1.out hb2) (g := w.heap.size) (Nat.le_refl _) (fm rdr (cpF n zR rs (k + 1))))
        clear A1 B1 hb2 hld2 KT
        go_wp2_with (((with_reducible refine is_store 62 _ _ rfl ?_); refine wpList_store_part rfl 62 _ _ rfl _ _ rfl (rdr r) rfl (fm rdr (cpF n zR rs k)) _ (by with_reducible assumption) 19 (rdr_size _) (by rw [hsz]; omega) (by kernel_rfl) (rdr_one _) (fm rdr (cpF n zR rs (k + 1))) e3 ?_))
        exact ⟨⟨k + 1, by omega, by go_num, A3, B3⟩, by simp [intOf]; omega⟩
      · obtain rfl : n = k := by omega
        rw [cpF_all hlen] at A1
        clear hlen
        go_wp2
        go_ret
        exact ⟨rfl, A1, B1.out⟩

end Go.Proofs.Ytboahhipobcabaa
