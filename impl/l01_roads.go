package impl

import (
	"math"
	"strconv"
	"strings"
)

// Codes of errors.
const (
	OK          = 0
	ErrInvalid  = 1
	ErrRange    = 2
	ErrLimit    = 3
	ErrState    = 4
	ErrSyntax   = 5
	ErrNotFound = 6
	ErrBudget   = 7
	ErrProof    = 8
)

// Cells is how many cells a road has.
const Cells = 16

// nanBits stands for each NaN, whatever its own bits are.
const nanBits = 0x7fc00000

// numberDigits is how many hexadecimal digits the text of a number has.
const numberDigits = 8

// roadWord begins the text of a road.
const roadWord = "road"

// headWords is how many words the text of a road has ahead of its shares.
const headWords = 4

var codeNames = [9]string{"ok", "invalid", "range", "limit", "state", "syntax", "notfound", "budget", "proof"}

// Cars has for each cell which share of it is full.
type Cars [16]float32

// Road has cells, one behind the other.
type Road struct {
	Cars  Cars
	Pace  float32
	Back  float32
	Lanes float32
}

// ruleBits has the bits of the numbers of a road that hold for all its cells.
type ruleBits struct {
	pace  uint32
	back  uint32
	lanes uint32
}

// CodeName returns the name of an error code.
func CodeName(code int64) string {
	if code < 0 || code >= int64(len(codeNames)) {
		return ""
	}
	return codeNames[code]
}

// numberBits returns bits that are equal just for numbers that are the same.
func numberBits(a float32) uint32 {
	if math.IsNaN(float64(a)) {
		return nanBits
	}
	return math.Float32bits(a)
}

// SameNumber reports whether two numbers are the same.
func SameNumber(a, b float32) bool {
	return numberBits(a) == numberBits(b)
}

// IsAmount reports whether a number is an amount.
func IsAmount(a float32) bool {
	return a >= 0 && a <= math.MaxFloat32 && !math.Signbit(float64(a))
}

// IsShare reports whether a number is a share.
func IsShare(a float32) bool {
	return IsAmount(a) && a <= 1
}

// ValidRoad reports whether a road is valid.
func ValidRoad(r Road) bool {
	for _, share := range r.Cars {
		if !IsShare(share) {
			return false
		}
	}
	return isPace(r.Pace) && isPace(r.Back) && isLanes(r.Lanes)
}

func isPace(a float32) bool {
	return IsShare(a) && a >= 1.0/64
}

func isLanes(a float32) bool {
	return a >= 1.0/4 && a <= 8
}

func isCell(cell int64) bool {
	return cell >= 0 && cell < Cells
}

// SameRoad reports whether two roads are the same.
func SameRoad(r, s Road) bool {
	// Floats cannot be compared by == here: 0 would equal -0, and no NaN another one.
	return carBits(r.Cars) == carBits(s.Cars) && rulesOf(r) == rulesOf(s)
}

func carBits(cars Cars) [Cells]uint32 {
	var bits [Cells]uint32
	for i, share := range cars {
		bits[i] = numberBits(share)
	}
	return bits
}

func rulesOf(r Road) ruleBits {
	return ruleBits{numberBits(r.Pace), numberBits(r.Back), numberBits(r.Lanes)}
}

// MakeRoad returns an empty road.
func MakeRoad(pace, back, lanes float32) (Road, int64) {
	r := Road{Pace: pace, Back: back, Lanes: lanes}
	if !ValidRoad(r) {
		return Road{}, ErrInvalid
	}
	return r, OK
}

// FillRoad returns the road with the same share in all cells.
func FillRoad(r Road, share float32) (Road, int64) {
	if !ValidRoad(r) {
		return Road{}, ErrInvalid
	}
	if !IsShare(share) {
		return Road{}, ErrRange
	}
	for i := range r.Cars {
		r.Cars[i] = share
	}
	return r, OK
}

// SetCell returns the road with a share in one cell.
func SetCell(r Road, cell int64, share float32) (Road, int64) {
	if !ValidRoad(r) {
		return Road{}, ErrInvalid
	}
	if !isCell(cell) || !IsShare(share) {
		return Road{}, ErrRange
	}
	r.Cars[cell] = share
	return r, OK
}

// BestShare returns the share at which most cars flow.
func BestShare(r Road) (float32, int64) {
	if !ValidRoad(r) {
		return 0, ErrInvalid
	}
	return bestShare(r), OK
}

func bestShare(r Road) float32 {
	return r.Back / (r.Pace + r.Back)
}

// MostFlow returns how many cars can flow at most.
func MostFlow(r Road) (float32, int64) {
	if !ValidRoad(r) {
		return 0, ErrInvalid
	}
	return mostFlow(r), OK
}

func mostFlow(r Road) float32 {
	return float32(r.Pace * bestShare(r))
}

// SendsAt returns what a cell sends.
func SendsAt(r Road, cell int64) (float32, int64) {
	if !ValidRoad(r) {
		return 0, ErrInvalid
	}
	if !isCell(cell) {
		return 0, ErrRange
	}
	return sendsAt(r, cell), OK
}

func sendsAt(r Road, cell int64) float32 {
	return min(float32(r.Pace*r.Cars[cell]), mostFlow(r))
}

// TakesAt returns what a cell takes.
func TakesAt(r Road, cell int64) (float32, int64) {
	if !ValidRoad(r) {
		return 0, ErrInvalid
	}
	if !isCell(cell) {
		return 0, ErrRange
	}
	return takesAt(r, cell), OK
}

func takesAt(r Road, cell int64) float32 {
	return min(float32(r.Back*(1-r.Cars[cell])), mostFlow(r))
}

// FlowBetween returns what flows from a cell to the next one.
func FlowBetween(r Road, cell int64) (float32, int64) {
	if !ValidRoad(r) {
		return 0, ErrInvalid
	}
	if !isCell(cell) || cell == Cells-1 {
		return 0, ErrRange
	}
	return flowBetween(r, cell), OK
}

func flowBetween(r Road, cell int64) float32 {
	return min(sendsAt(r, cell), takesAt(r, cell+1))
}

// SpeedAt returns the speed in a cell.
func SpeedAt(r Road, cell int64) (float32, int64) {
	if !ValidRoad(r) {
		return 0, ErrInvalid
	}
	if !isCell(cell) {
		return 0, ErrRange
	}
	share := r.Cars[cell]
	if share == 0 {
		return r.Pace, OK
	}
	return min(leavesAt(r, cell)/share, r.Pace), OK
}

// leavesAt returns what leaves a cell, with room behind the last one.
func leavesAt(r Road, cell int64) float32 {
	if cell == Cells-1 {
		return sendsAt(r, cell)
	}
	return flowBetween(r, cell)
}

// CarsOn returns how many cars are on a road.
func CarsOn(r Road) (float32, int64) {
	if !ValidRoad(r) {
		return 0, ErrInvalid
	}
	return carsOn(r), OK
}

func carsOn(r Road) float32 {
	sum := r.Cars[0]
	for i := 1; i < Cells; i++ {
		sum += r.Cars[i]
	}
	return float32(sum * r.Lanes)
}

// DensestCell returns the first cell with the greatest share.
func DensestCell(r Road) (int64, float32, int64) {
	if !ValidRoad(r) {
		return 0, 0, ErrInvalid
	}
	cell := densestOf(r.Cars)
	return cell, r.Cars[cell], OK
}

func densestOf(cars Cars) int64 {
search:
	for i, share := range cars {
		for _, other := range cars {
			if other > share {
				continue search
			}
		}
		return int64(i)
	}
	return 0
}

// QueueOf returns how many cells at the end are fuller than the best share.
func QueueOf(r Road) (int64, int64) {
	if !ValidRoad(r) {
		return 0, ErrInvalid
	}
	best := bestShare(r)
	queue := int64(0)
	for queue < Cells && r.Cars[Cells-1-queue] > best {
		queue++
	}
	return queue, OK
}

// IsFree reports whether no cell is fuller than the best share.
func IsFree(r Road) (bool, int64) {
	if !ValidRoad(r) {
		return false, ErrInvalid
	}
	return r.Cars[densestOf(r.Cars)] <= bestShare(r), OK
}

// MixRoads returns a road with shares between those of two roads.
func MixRoads(r, s Road, share float32) (Road, int64) {
	if !ValidRoad(r) || !ValidRoad(s) {
		return Road{}, ErrInvalid
	}
	if !IsShare(share) {
		return Road{}, ErrRange
	}
	rest := 1 - share
	for i := range r.Cars {
		r.Cars[i] = min(float32(r.Cars[i]*rest)+float32(s.Cars[i]*share), 1)
	}
	return r, OK
}

// NumberText returns the text of a number.
func NumberText(a float32) string {
	digits := strconv.FormatUint(uint64(numberBits(a)), 16)
	return strings.Repeat("0", numberDigits-len(digits)) + digits
}

// ReadNumber returns the number with a text.
func ReadNumber(text string) (float32, int64) {
	if len(text) != numberDigits {
		return 0, ErrSyntax
	}
	bits, err := strconv.ParseUint(text, 16, 32)
	if err != nil {
		return 0, ErrSyntax
	}
	a := math.Float32frombits(uint32(bits))
	// Great letters and other bits of NaN are read above, but are no text of a number.
	if NumberText(a) != text {
		return 0, ErrSyntax
	}
	return a, OK
}

// RoadText returns the text of a road.
func RoadText(r Road) string {
	if !ValidRoad(r) {
		return ""
	}
	words := []string{roadWord, NumberText(r.Pace), NumberText(r.Back), NumberText(r.Lanes)}
	for _, share := range r.Cars {
		words = append(words, NumberText(share))
	}
	return strings.Join(words, " ")
}

// ReadRoad returns the road with a text.
func ReadRoad(text string) (Road, int64) {
	words := strings.Split(text, " ")
	if len(words) != headWords+Cells || words[0] != roadWord {
		return Road{}, ErrSyntax
	}
	var numbers [headWords - 1 + Cells]float32
	for i := range numbers {
		a, code := ReadNumber(words[i+1])
		if code != OK {
			return Road{}, ErrSyntax
		}
		numbers[i] = a
	}
	r := Road{Pace: numbers[0], Back: numbers[1], Lanes: numbers[2]}
	copy(r.Cars[:], numbers[headWords-1:])
	if !ValidRoad(r) {
		return Road{}, ErrSyntax
	}
	return r, OK
}
