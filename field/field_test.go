package field_test

import (
	"math"
	"testing"

	"paritymill/api"
	"paritymill/field"
	"paritymill/plain"
)

// modulus is x^8 + x^4 + x^3 + x^2 + 1, the bit of 2 to the i that of x to the i.
const modulus = 1<<8 | 1<<4 | 1<<3 | 1<<2 | 1

// longProduct multiplies whole polynomials and only then takes the rest, so that it shares no step with field.Mul.
func longProduct(a, b int) int {
	product := 0
	for i := range 8 {
		for k := range 8 {
			product ^= (a >> i & 1) * (b >> k & 1) << (i + k)
		}
	}
	for i := 14; i >= 8; i-- {
		if product>>i&1 == 1 {
			product ^= modulus << (i - 8)
		}
	}
	return product
}

// wantError holds that err tells this number, and nothing else is told with it.
func wantError(t *testing.T, what string, result int, err error, want api.Errno) {
	t.Helper()
	if plain.Told(err) != want {
		t.Errorf("%s: error %v, want %v", what, err, want)
	}
	if result != 0 {
		t.Errorf("%s: %d beside the error, want 0", what, result)
	}
}

// wantFine holds that there is no error at all: an OK in an error is none of these either.
func wantFine(t *testing.T, what string, err error) {
	t.Helper()
	if err != nil {
		t.Errorf("%s: error %v, want nil", what, err)
	}
}

func TestAddIsExclusiveOr(t *testing.T) {
	for a := range 256 {
		for b := range 256 {
			if got := field.Add(byte(a), byte(b)); got != byte(a^b) {
				t.Fatalf("Add(%d, %d) = %d, want %d", a, b, got, a^b)
			}
		}
	}
}

func TestMulIsTheProductOfPolynomials(t *testing.T) {
	for a := range 256 {
		for b := range 256 {
			if got, want := field.Mul(byte(a), byte(b)), longProduct(a, b); int(got) != want {
				t.Fatalf("Mul(%d, %d) = %d, want %d", a, b, got, want)
			}
		}
	}
}

func TestMulOfKnownElements(t *testing.T) {
	for _, c := range []struct{ a, b, want byte }{
		{0, 0, 0}, {0, 255, 0}, {255, 0, 0}, {1, 255, 255}, {255, 1, 255},
		{2, 128, 29}, {128, 2, 29}, {255, 255, 226}, {255, 243, 146}, {3, 255, 28},
	} {
		if got := field.Mul(c.a, c.b); got != c.want {
			t.Errorf("Mul(%d, %d) = %d, want %d", c.a, c.b, got, c.want)
		}
	}
}

func TestInvTimesItsElementIsOne(t *testing.T) {
	for a := 1; a < 256; a++ {
		got, err := field.Inv(byte(a))
		wantFine(t, "Inv", err)
		if longProduct(a, int(got)) != 1 {
			t.Errorf("Inv(%d) = %d, and their product is not 1", a, got)
		}
	}
}

func TestInvOfZeroIsNone(t *testing.T) {
	got, err := field.Inv(0)
	wantError(t, "Inv(0)", int(got), err, api.ErrNone)
}

func TestDivTimesItsDivisorIsTheElement(t *testing.T) {
	for a := range 256 {
		for b := 1; b < 256; b++ {
			got, err := field.Div(byte(a), byte(b))
			wantFine(t, "Div", err)
			if longProduct(int(got), b) != a {
				t.Fatalf("Div(%d, %d) = %d, and that times %d is not %d", a, b, got, b, a)
			}
		}
	}
}

func TestDivByZeroIsNone(t *testing.T) {
	for a := range 256 {
		got, err := field.Div(byte(a), 0)
		wantError(t, "Div by 0", int(got), err, api.ErrNone)
	}
}

func TestPowIsTimesItself(t *testing.T) {
	for a := range 256 {
		want := 1
		for n := range 600 {
			got, err := field.Pow(byte(a), n)
			wantFine(t, "Pow", err)
			if int(got) != want {
				t.Fatalf("Pow(%d, %d) = %d, want %d", a, n, got, want)
			}
			want = longProduct(want, a)
		}
	}
}

func TestPowOfZeroAtZeroIsOne(t *testing.T) {
	got, err := field.Pow(0, 0)
	wantFine(t, "Pow(0, 0)", err)
	if got != 1 {
		t.Errorf("Pow(0, 0) = %d, want 1", got)
	}
}

// An element to the 255 is 1, or 0 if it is 0: so a great power is that of what is left by 255.
func TestPowOfGreatNumbersEnds(t *testing.T) {
	for _, n := range []int{math.MaxInt32, 1 << 40, 1 << 62, math.MaxInt - 1, math.MaxInt} {
		for a := range 256 {
			want := 1
			for range n % 255 {
				want = longProduct(want, a)
			}
			if a == 0 {
				want = 0
			}
			got, err := field.Pow(byte(a), n)
			wantFine(t, "Pow", err)
			if int(got) != want {
				t.Fatalf("Pow(%d, %d) = %d, want %d", a, n, got, want)
			}
		}
	}
}

func TestPowBelowZeroIsOutOfRange(t *testing.T) {
	for _, n := range []int{-1, -2, -254, -255, -256, math.MinInt32, math.MinInt + 1, math.MinInt} {
		for a := range 256 {
			got, err := field.Pow(byte(a), n)
			wantError(t, "Pow below 0", int(got), err, api.ErrRange)
		}
	}
}

func TestLogIsTheLeastPowerOfTwo(t *testing.T) {
	reached := 1
	for n := range 255 {
		got, err := field.Log(byte(reached))
		wantFine(t, "Log", err)
		if got != n {
			t.Errorf("Log(%d) = %d, want %d", reached, got, n)
		}
		if back, _ := field.Pow(2, got); int(back) != reached {
			t.Errorf("2 to the %d is %d, want %d", got, back, reached)
		}
		reached = longProduct(reached, 2)
	}
	if reached != 1 {
		t.Errorf("2 to the 255 is %d, want 1: not all elements were asked", reached)
	}
}

func TestLogOfZeroIsNone(t *testing.T) {
	got, err := field.Log(0)
	wantError(t, "Log(0)", got, err, api.ErrNone)
}

// answers puts all that the package says of a, b and n side by side.
func answers(a, b byte, n int) [10]int {
	inv, noInv := field.Inv(a)
	div, noDiv := field.Div(a, b)
	pow, noPow := field.Pow(a, n)
	log, noLog := field.Log(a)
	return [10]int{
		int(field.Add(a, b)), int(field.Mul(a, b)),
		int(inv), int(plain.Told(noInv)), int(div), int(plain.Told(noDiv)),
		int(pow), int(plain.Told(noPow)), log, int(plain.Told(noLog)),
	}
}

func TestAnswersHangOnArgumentsAlone(t *testing.T) {
	first := make([][10]int, 256)
	for a := range 256 {
		first[a] = answers(byte(a), byte(a*7), a-20)
	}
	for a := 255; a >= 0; a-- {
		if again := answers(byte(a), byte(a*7), a-20); again != first[a] {
			t.Errorf("of %d first %v, then %v", a, first[a], again)
		}
	}
}

func TestErrorsAreTheNumbersOfThePromise(t *testing.T) {
	_, none := field.Inv(0)
	_, outside := field.Pow(1, -1)
	if plain.Told(none) != 5 || plain.Told(outside) != 1 || plain.Told(nil) != 0 {
		t.Errorf("told %d, %d, %d, want 5, 1, 0", plain.Told(none), plain.Told(outside), plain.Told(nil))
	}
}
