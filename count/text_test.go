package count_test

import (
	"math"
	"math/big"
	"math/rand"
	"strings"
	"testing"

	"quillon/count"
)

func wantsText(t *testing.T, x float64, places int, want string) {
	t.Helper()
	if got := count.Text(x, places); got != want {
		t.Errorf("Text of %v, %d is %q, not %q", x, places, got, want)
	}
}

func TestP16_3Text(t *testing.T) {
	minus := math.Copysign(0, -1)
	for _, c := range []struct {
		x      float64
		places int
		want   string
	}{
		{0, 0, "0"}, {0, 1, "0.0"}, {0, 6, "0.000000"}, {minus, 0, "-0"}, {minus, 3, "-0.000"},
		{1, 0, "1"}, {1, 6, "1.000000"}, {-1, 2, "-1.00"}, {0.25, 6, "0.250000"}, {0.5, 1, "0.5"}, {-0.75, 2, "-0.75"}, {12.5, 3, "12.500"},
		{1.0 / 3, 6, "0.333333"}, {2.0 / 3, 6, "0.666667"}, {1 - 0x1p-30, 6, "1.000000"}, {999.9999, 3, "1000.000"},
		// Halves that are so go to the even one; what is no half to the nearest one.
		{0.5, 0, "0"}, {1.5, 0, "2"}, {2.5, 0, "2"}, {3.5, 0, "4"}, {-0.5, 0, "-0"}, {-1.5, 0, "-2"}, {0.125, 2, "0.12"}, {0.375, 2, "0.38"},
		{0.0625, 3, "0.062"}, {0.1875, 3, "0.188"}, {math.Nextafter(0.5, 1), 0, "1"}, {math.Nextafter(2.5, 3), 0, "3"}, {math.Nextafter(1.5, 1), 0, "1"},
		{0.15, 1, "0.1"}, {0.25, 1, "0.2"}, {0.35, 1, "0.3"}, {0.45, 1, "0.5"},
		// What is rounded to nothing keeps its sign.
		{-0x1p-64, 6, "-0.000000"}, {0x1p-64, 6, "0.000000"}, {-math.SmallestNonzeroFloat64, 30, "-0." + strings.Repeat("0", 30)},
		{0x1p-64, 30, "0.000000000000000000054210108624"}, {0.1, 30, "0.100000000000000005551115123126"},
		{1e21, 0, "1000000000000000000000"}, {1e22, 1, "10000000000000000000000.0"}, {1 << 53, 0, "9007199254740992"}, {-1e15, 2, "-1000000000000000.00"},
	} {
		wantsText(t, c.x, c.places, c.want)
	}
}

func TestP16_3TextWithoutNumber(t *testing.T) {
	for _, places := range []int{math.MinInt, -1, 0, 1, 6, 30, 31, math.MaxInt} {
		for _, nan := range noNumbers {
			wantsText(t, nan, places, "nan")
		}
		wantsText(t, math.Inf(1), places, "inf")
		wantsText(t, math.Inf(-1), places, "-inf")
	}
}

func TestP16_3TextIsHeld(t *testing.T) {
	for _, places := range []int{0, -1, -6, math.MinInt} {
		wantsText(t, 0.75, places, "1")
		wantsText(t, math.Copysign(0, -1), places, "-0")
		wantsText(t, 1.0/3, places, "0")
	}
	for places := range 31 {
		behind := strings.TrimSuffix("."+strings.Repeat("0", places), ".")
		wantsText(t, -7, places, "-7"+behind)
	}
	for _, places := range []int{30, 31, 64, 1 << 32, math.MaxInt} {
		wantsText(t, 1, places, "1."+strings.Repeat("0", 30))
		wantsText(t, 0x1p-30, places, "0.000000000931322574615478515625")
		wantsText(t, 0x1p-31, places, "0.000000000465661287307739257812")
		wantsText(t, -math.MaxFloat64, places, decimal(-math.MaxFloat64, 30))
	}
}

// decimal goes by whole numbers: of the nearest ones to so many tens, halves to the even one.
func decimal(x float64, places int) string {
	tens := new(big.Int).Exp(big.NewInt(10), big.NewInt(int64(places)), nil)
	n := new(big.Rat).SetFloat64(math.Abs(x))
	n.Mul(n, new(big.Rat).SetInt(tens))
	q, rest := new(big.Int).QuoRem(n.Num(), n.Denom(), new(big.Int))
	more := rest.Lsh(rest, 1).Cmp(n.Denom())
	if more > 0 || more == 0 && q.Bit(0) == 1 {
		q.Add(q, big.NewInt(1))
	}
	s := q.String()
	s = strings.Repeat("0", max(places+1-len(s), 0)) + s
	if places > 0 {
		s = s[:len(s)-places] + "." + s[len(s)-places:]
	}
	if math.Signbit(x) {
		s = "-" + s
	}
	return s
}

func TestP16_3TextByChance(t *testing.T) {
	r := rand.New(rand.NewSource(169))
	for range 30000 {
		x, places := anyFloat(r), r.Intn(31)
		if math.IsNaN(x) || math.IsInf(x, 0) {
			continue
		}
		wantsText(t, x, places, decimal(x, places))
	}
}
