/-
  CONTRACTS: slices of flat elements; slices of roads, made the program's.
-/
import Derived.Test.YtlpbehokcogcpaaFm
import Derived.Test.YtlpbehokcogcpaaToSlots
import Derived.Test.YtlpbehokcogcpaaInts
import Derived.Test.YtlpbehokcogcpaaG1
namespace Go.Proofs.Ytlpbehokcogcpaa
open Go Go.ChangeShapes Go.WideShapes Go.ChangeAt Go.RowKit
set_option maxRecDepth 100000

/-- a slice of flat elements, wherever it lies -/
structure GSl {α : Type} (f : α → Array Value) (s : Nat) (d : α) (w : World) (v : Value) (xs : List α) : Prop where
  val : (xs = [] ∧ ∃ a cap, v = .slice a 0 cap) ∨ ∃ g off cap, v = .slice (some ⟨g, off, none⟩) xs.length cap ∧ g < w.heap.size ∧ ∀ i, i < xs.length → ∀ j, j < s → w.cell? ⟨g, off + i * s + j, none⟩ = (f (fe d xs i))[j]?
  len : xs.length ≤ maxLen

theorem GSl.step {α : Type} {f : α → Array Value} {s : Nat} {d : α} {B : Nat} {w w' : World} {v : Value} {xs : List α} (h : GSl f s d w v xs) (hB : w.heap.size ≤ B) (hb : Below B w w') : GSl f s d w' v xs := by
  refine ⟨h.val.imp id ?_, h.len⟩
  rintro ⟨g, off, cap, rfl, hg, hc⟩
  refine ⟨g, off, cap, rfl, Nat.lt_of_lt_of_le hg hb.size, fun i hi j hj => ?_⟩
  rw [← hc i hi j hj]
  unfold World.cell?
  rw [hb.block g (by omega)]

theorem GSl.any {α : Type} {f : α → Array Value} {s : Nat} {d : α} {w : World} {v : Value} {xs : List α} (h : GSl f s d w v xs) : ∃ a cap, v = .slice a xs.length cap := by
  rcases h.val with ⟨rfl, a, cap, rfl⟩ | ⟨g, off, cap, rfl, -⟩
  · exact ⟨a, cap, rfl⟩
  · exact ⟨_, cap, rfl⟩

theorem GSl.of_at {α : Type} {f : α → Array Value} {s : Nat} {d : α} (hf : ∀ x, (f x).size = s) {w : World} {G cap : Nat} {xs : List α} {T : TypeId} (h : At w G (fm f xs) T) (hm : xs.length ≤ maxLen) : GSl f s d w (.slice (some ⟨G, 0, none⟩) xs.length cap) xs :=
  ⟨.inr ⟨G, 0, cap, rfl, h.lt, fun i hi j hj => by rw [cell_of_row _ _ _ _ _ _ h, Nat.zero_add]; exact fm_get hf hi hj⟩, hm⟩

/-- a slice that is not empty: its elements are loaded -/
theorem GSl.get {α : Type} {f : α → Array Value} {s : Nat} {d : α} (hf : ∀ x, (f x).size = s) {w : World} {v : Value} {xs : List α} (h : GSl f s d w v xs) (hz : xs.length ≠ 0) (ty : TypeId) (fs : Array Field) (hu : Try.prog.underlying ty = some (.struct fs)) (hi : (Try.prog.info? ty).map (·.size) = some s) : ∃ g off cap, v = .slice (some ⟨g, off, none⟩) xs.length cap ∧
    ∀ k, k < xs.length → ∀ w', Below w.heap.size w w' → (Instr.loadAt ty (.pointer (some ⟨g, off + k * s, none⟩))).run Try.prog w' = .ok (.agg (f (fe d xs k))) w' := by
  rcases h.val with ⟨rfl, -⟩ | ⟨g, off, cap, rfl, hg, hc⟩
  · exact absurd rfl hz
  · refine ⟨g, off, cap, rfl, fun k hk w' hb => run_loadAt_cells (P := Try.prog) w' g (off + k * s) s ty (f (fe d xs k)) _ (hf _) hu rfl hi (fun j hj' => ?_)⟩
    rw [← hc k hk j hj']
    unfold World.cell?
    rw [hb.block g hg]

/-- a road's numbers, all of them words -/
structure Rd4 where
  cs : List Nat
  p : Nat
  b : Nat
  l : Nat
  hl : cs.length = 16
  hc : ∀ x ∈ cs, x < 4294967296
  hp : p < 4294967296
  hb : b < 4294967296
  hla : l < 4294967296

def rdr (r : Rd4) : Array Value := rd r.cs r.p r.b r.l

def zR : Rd4 := ⟨zeros 16, 0, 0, 0, zeros_len 16, fun x hx => by have := List.eq_of_mem_replicate hx; omega, by omega, by omega, by omega⟩

theorem rdr_size (r : Rd4) : (rdr r).size = 19 := rd_size r.hl _ _ _

theorem rdr_one (r : Rd4) : (rdr r).all (·.oneCell') = true := fl_one _

theorem rdr_z : rdr zR = rd (zeros 16) 0 0 0 := rfl

end Go.Proofs.Ytlpbehokcogcpaa
