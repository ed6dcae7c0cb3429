package check

import (
	"math/big"
	"math/rand"
	"strconv"
	"strings"
	"testing"
)

// valueIn is the value of a constant with that expression.
func valueIn(t *testing.T, expression string) int32 {
	t.Helper()
	w := newWorld()
	if _, err := w.add("MODULE M; CONST a = " + expression + "; END M."); err != nil {
		t.Fatalf("%s: %v", expression, err)
	}
	return w.modules["M"].names["a"].Value
}

// D5, G3: values of constants, of 32 bits, that come round; quotients are rounded down.
func TestValues(t *testing.T) {
	for text, want := range map[string]int32{
		"0": 0, "007": 7, "2147483647": 2147483647, "-2147483647": -2147483647, "-2147483647 - 1": -2147483648,
		"2147483647 + 1": -2147483648, "-(-2147483647 - 1)": -2147483648, "-2147483647 - 2": 2147483647,
		"65536 * 65536": 0, "65536 * 32768": -2147483648, "46341 * 46341": -2147479015,
		"7 DIV 2": 3, "7 MOD 2": 1, "(-7) DIV 2": -4, "(-7) MOD 2": 1, "-7 DIV 2": -3, "-7 MOD 2": -1,
		"6 DIV 2": 3, "(-6) DIV 2": -3, "(-6) MOD 2": 0, "0 DIV 5": 0, "0 MOD 5": 0, "(-1) DIV 2147483647": -1, "(-1) MOD 2147483647": 2147483646,
		"2147483646 MOD 2147483647": 2147483646, "(-2147483647 - 1) DIV 2147483647": -2, "(-2147483647 - 1) MOD 2147483647": 2147483646,
		"(-2147483647 - 1) DIV 1": -2147483648, "(-2147483647 - 1) MOD 1": 0,
		"TRUE": 1, "FALSE": 0, "~TRUE": 0, "~FALSE": 1,
		"TRUE & TRUE": 1, "TRUE & FALSE": 0, "FALSE & TRUE": 0, "FALSE & FALSE": 0,
		"TRUE OR TRUE": 1, "TRUE OR FALSE": 1, "FALSE OR TRUE": 1, "FALSE OR FALSE": 0,
		"TRUE = TRUE": 1, "TRUE = FALSE": 0, "TRUE # FALSE": 1, "FALSE # FALSE": 0,
		"1 = 1": 1, "1 = 2": 0, "1 # 1": 0, "1 # 2": 1, "1 < 2": 1, "2 < 2": 0, "1 <= 1": 1, "2 <= 1": 0,
		"2 > 1": 1, "2 > 2": 0, "2 >= 2": 1, "1 >= 2": 0, "-1 < 0": 1, "2147483647 + 1 < 0": 1,
		"2 + 3 * 4": 14, "(2 + 3) * 4": 20, "-2 + 3": 1, "10 - 3 - 4": 3, "100 DIV 7 DIV 2": 7,
	} {
		if got := valueIn(t, text); got != want {
			t.Errorf("%s: %d, wanted %d", text, got, want)
		}
	}
}

// D5: a constant has the value of the one that it names, also of another module's.
func TestNamedValues(t *testing.T) {
	w := newWorld()
	for _, text := range []string{"MODULE L; CONST a* = 40 + 2; b* = TRUE; END L.", "MODULE M; IMPORT L; CONST c = L.a; d = c * 2; e = ~L.b; f = ~e; END M."} {
		if _, err := w.add(text); err != nil {
			t.Fatal(err)
		}
	}
	for name, want := range map[string]int32{"c": 42, "d": 84, "e": 0, "f": 1} {
		if got := w.modules["M"].names[name].Value; got != want {
			t.Errorf("%s: %d, wanted %d", name, got, want)
		}
	}
}

// D5, G3: chains of random numbers are worked out as they are with numbers of any length, brought round behind each step.
func TestRandomValues(t *testing.T) {
	r := rand.New(rand.NewSource(4))
	for range 2000 {
		var text strings.Builder
		v := edge(r)
		text.WriteString(strings.Repeat("(", 5) + "0 + " + told(v))
		for range 5 {
			sign, y := []string{"+", "-", "*", "DIV", "MOD"}[r.Intn(5)], edge(r)
			if sign == "DIV" || sign == "MOD" {
				y = max(1, y)
			}
			v = stepped(sign, v, y)
			text.WriteString(") " + sign + " " + told(y))
		}
		if got := valueIn(t, text.String()); int64(got) != v {
			t.Fatalf("%s: %d, wanted %d", text.String(), got, v)
		}
	}
}

// edge is a number, often one at an edge.
func edge(r *rand.Rand) int64 {
	switch r.Intn(4) {
	case 0:
		return []int64{0, 1, 2, -1, 1<<31 - 1, -1 << 31, -1<<31 + 1, 1 << 30, 65536}[r.Intn(9)]
	case 1:
		return int64(r.Intn(21) - 10)
	}
	return int64(int32(r.Uint32()))
}

// told is a number as a factor.
func told(v int64) string {
	switch {
	case v == -1<<31:
		return "(-2147483647 - 1)"
	case v < 0:
		return "(" + strconv.FormatInt(v, 10) + ")"
	}
	return strconv.FormatInt(v, 10)
}

// stepped is what an operator makes of two numbers, of 32 bits.
func stepped(sign string, x, y int64) int64 {
	a, b, z := big.NewInt(x), big.NewInt(y), new(big.Int)
	switch sign {
	case "+":
		z.Add(a, b)
	case "-":
		z.Sub(a, b)
	case "*":
		z.Mul(a, b)
	case "DIV":
		z.Div(a, b)
	case "MOD":
		z.Mod(a, b)
	}
	half, all := big.NewInt(1<<31), big.NewInt(1<<32)
	z.Add(z, half).Mod(z, all).Sub(z, half)
	return z.Int64()
}
