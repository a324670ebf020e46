/-
  CONTRACTS: the shape of a detector that came in.
-/
import Derived.Test.YtopjikgkoodbmabDet
import Derived.Test.YtopjikgkoodbmabShI16
namespace Go.Proofs.Ytopjikgkoodbmab
open Go Go.ChangeShapes Go.WideShapes Go.ChangeAt Go.RowKit
set_option maxRecDepth 100000

theorem cell_i64 {W : World} {r : Reach} {base : Nat} {v : Value} (h : Cell.okWide Try.prog W r base 2 v) : ∃ x, v = .int .i64 x ∧ I64t x := by
  have h1 : Value.okWide Try.prog W r base 2 v := by simpa [Value.okWide, Try.underlying2] using h
  obtain ⟨x, rfl, h2⟩ := shape_i64 h1
  exact ⟨x, rfl, h2⟩
theorem cell_i16 {W : World} {r : Reach} {base : Nat} {v : Value} (h : Cell.okWide Try.prog W r base 30 v) : ∃ x, v = .int .i16 x ∧ I16 x := by
  have h1 : Value.okWide Try.prog W r base 30 v := by simpa [Value.okWide, Try.underlying30] using h
  exact shape_i16 h1
theorem shape_det {W : World} {r : Reach} {base : Nat} {v : Value} (h : Value.okWide Try.prog W r base 95 v) : ∃ (c : Int) (y : Nat) (n : Int) (f : Nat) (t : Int), v = .agg (dt c y n f t) ∧ I64t c ∧ y < 4294967296 ∧ I16 n ∧ f < 4294967296 ∧ I64t t := by
  have h' : ∃ cs, v = .agg cs ∧ cs.size = Try.prog.cellsOf 95 ∧ Row.okWide Try.prog W r base 95 cs := by
    unfold Value.okWide at h
    rw [Try.underlying95] at h
    simpa using h
  obtain ⟨cs, rfl, hsz, ts, hts, -, hcell⟩ := h'
  have hc : Try.prog.cellsOf 95 = 5 := by kernel_rfl
  have ht : Try.prog.cellTypes Try.prog.depth 95 = some [2, 27, 30, 27, 2] := by kernel_rfl
  rw [ht] at hts
  obtain rfl := Option.some.inj hts
  rw [hc] at hsz
  obtain ⟨c0, c1, c2, c3, c4, rfl⟩ : ∃ c0 c1 c2 c3 c4, cs = #[c0, c1, c2, c3, c4] := by
    obtain ⟨l⟩ := cs
    match l, hsz with
    | [c0, c1, c2, c3, c4], _ => exact ⟨c0, c1, c2, c3, c4, rfl⟩
  obtain ⟨u0, hu0, k0⟩ := hcell 0 c0 rfl
  obtain ⟨u1, hu1, k1⟩ := hcell 1 c1 rfl
  obtain ⟨u2, hu2, k2⟩ := hcell 2 c2 rfl
  obtain ⟨u3, hu3, k3⟩ := hcell 3 c3 rfl
  obtain ⟨u4, hu4, k4⟩ := hcell 4 c4 rfl
  obtain rfl := Option.some.inj hu0
  obtain rfl := Option.some.inj hu1
  obtain rfl := Option.some.inj hu2
  obtain rfl := Option.some.inj hu3
  obtain rfl := Option.some.inj hu4
  obtain ⟨c, rfl, hcc⟩ := cell_i64 k0
  obtain ⟨y, rfl, hyy⟩ := cell_f32 k1
  obtain ⟨n, rfl, hnn⟩ := cell_i16 k2
  obtain ⟨f, rfl, hff⟩ := cell_f32 k3
  obtain ⟨t, rfl, htt⟩ := cell_i64 k4
  exact ⟨c, y, n, f, t, rfl, hcc, hyy, hnn, hff, htt⟩

end Go.Proofs.Ytopjikgkoodbmab
