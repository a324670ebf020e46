/-
  Quarters from -250 on: made whole, they are within a half, and whole numbers stay what they are (a table of 2000).
  No Go text in it. Conditions: those of each theorem.
-/
import Derived.Test.YtcfoghckdloknaaDetF
namespace Go.Proofs.Ytcfoghckdloknaa
open Go Go.RowKit
set_option maxRecDepth 100000

/-- the quarter with a number -/
def qtr (k : Nat) : Nat := (floatBits .quo .f32 (floatOfInt .f32 ((k : Int) - 1000)) 1082130432).getD 0

/-- the nearest whole number, as a float -/
def qwh (k : Nat) : Nat := floatOfInt .f32 (cntB (qtr k))

/-- how far the quarter lies from it -/
def qdf (k : Nat) : Nat := (floatBits .sub .f32 (qwh k) (qtr k)).getD 0

def qtrOk (k : Nat) : Bool := decide (floatBits .quo .f32 (floatOfInt .f32 ((k : Int) - 1000)) 1082130432 = some (qtr k)) && decide (qtr k < 4294967296) && decide (qwh k < 4294967296) && decide (floatBits .sub .f32 (qwh k) (qtr k) = some (qdf k)) && (decide (qdf k ≤ 1056964608) || (decide (2147483648 < qdf k) && decide (qdf k ≤ 2147483648 + 1056964608))) && decide (cntB (qwh k) = cntB (qtr k))

theorem qtr_0 : ∀ k, k < 500 → qtrOk k = true := by decide +kernel

theorem qtr_1 : ∀ k, k < 500 → qtrOk (k + 500) = true := by decide +kernel

theorem qtr_2 : ∀ k, k < 500 → qtrOk (k + 1000) = true := by decide +kernel

theorem qtr_3 : ∀ k, k < 500 → qtrOk (k + 1500) = true := by decide +kernel

theorem qtr_ok (k : Nat) (h : k < 2000) : qtrOk k = true := by
  rcases Nat.lt_or_ge k 500 with c | c
  · exact qtr_0 k c
  · rcases Nat.lt_or_ge k 1000 with d | d
    · have := qtr_1 (k - 500) (by omega)
      rwa [show k - 500 + 500 = k from by omega] at this
    · rcases Nat.lt_or_ge k 1500 with e | e
      · have := qtr_2 (k - 1000) (by omega)
        rwa [show k - 1000 + 1000 = k from by omega] at this
      · have := qtr_3 (k - 1500) (by omega)
        rwa [show k - 1500 + 1500 = k from by omega] at this

end Go.Proofs.Ytcfoghckdloknaa
