package tests

import (
	"math"
	"math/big"
	"math/rand"
	"slices"
	"strings"
	"testing"

	"loop.example/g00921/impl"
)

func TestPromise1CodesAreNumberedInOrder(t *testing.T) {
	codes := []int64{
		impl.OK, impl.ErrInvalid, impl.ErrRange, impl.ErrNotFound, impl.ErrExists, impl.ErrFull,
		impl.ErrState, impl.ErrSyntax, impl.ErrFormat, impl.ErrLoop, impl.ErrBroken,
	}
	names := strings.Split("ok invalid range not-found exists full state syntax format loop broken", " ")
	for i, code := range codes {
		if code != int64(i) {
			t.Errorf("code of %s: got %d, want %d", names[i], code, i)
		}
		if got := impl.CodeName(code); got != names[i] {
			t.Errorf("CodeName(%d): got %q, want %q", code, got, names[i])
		}
	}
	for _, code := range []int64{math.MinInt64, -11, -1, 11, 12, 1 << 32, math.MaxInt64} {
		if got := impl.CodeName(code); got != "" {
			t.Errorf("CodeName(%d): got %q, want the empty string", code, got)
		}
	}
}

func TestPromise1Names(t *testing.T) {
	if impl.MaxName != 12 {
		t.Errorf("MaxName: got %d, want 12", impl.MaxName)
	}
	for _, s := range []string{"a", "z", "great-wheel", "a-", "a--b", "z0", "a9-", "abcdefghijkl", "a23456789012"} {
		if !impl.IsName(s) {
			t.Errorf("IsName(%q): got false, want true", s)
		}
	}
	for _, s := range []string{
		"", "-", "-a", "0", "9a", "A", "aB", "a b", " a", "a ", "a_b", "a.b", "a\n", "a\x00", "a\xff", "\xff",
		"é", "aé", "a\u0660", "a\u2010", "abcdefghijklm", "abcdefghijké", strings.Repeat("a", 100000),
	} {
		if impl.IsName(s) {
			t.Errorf("IsName(%q): got true, want false", s)
		}
	}
}

func TestPromise1NamesOfEveryByte(t *testing.T) {
	for i := range 256 {
		c := string([]byte{byte(i)})
		first := strings.Contains("abcdefghijklmnopqrstuvwxyz", c)
		if got := impl.IsName(c); got != first {
			t.Errorf("IsName(%q): got %t, want %t", c, got, first)
		}
		later := first || strings.Contains("0123456789-", c)
		for _, s := range []string{"a" + c, "a" + c + "a"} {
			if got := impl.IsName(s); got != later {
				t.Errorf("IsName(%q): got %t, want %t", s, got, later)
			}
		}
	}
}

// edgeNumbers are the numbers next to the limits of chapters 1 and 2 and of int64.
func edgeNumbers() []int64 {
	var list []int64
	for _, n := range []int64{0, 10, 100, 1000000000, 99999999999999999, 999999999999999999, 1 << 32, 1 << 62} {
		for d := int64(-2); d <= 2; d++ {
			list = append(list, n+d, -(n + d))
		}
	}
	list = append(list, math.MaxInt64, math.MaxInt64-1, math.MinInt64, math.MinInt64+1, math.MinInt64+2)
	slices.Sort(list)
	return slices.Compact(list)
}

func TestPromise1DecimalOfAnyNumber(t *testing.T) {
	numbers := edgeNumbers()
	source := rand.New(rand.NewSource(1))
	for range 2000 {
		numbers = append(numbers, int64(source.Uint64())>>source.Intn(64))
	}
	for _, n := range numbers {
		text := big.NewInt(n).String()
		if got := impl.Decimal(n); got != text {
			t.Errorf("Decimal(%d): got %q", n, got)
		}
		want, digits := n, len(strings.TrimPrefix(text, "-"))
		if digits > 18 {
			want = 0
		}
		if got, ok := impl.ReadDecimal(text); got != want || ok != (digits <= 18) {
			t.Errorf("ReadDecimal(%q): got %d %t, want %d %t", text, got, ok, want, digits <= 18)
		}
	}
}

func TestPromise1ReadDecimal(t *testing.T) {
	good := map[string]int64{
		"0": 0, "7": 7, "-1": -1, "-12": -12, "10": 10,
		"100000000000000000": 100000000000000000, "999999999999999999": 999999999999999999,
		"-100000000000000000": -100000000000000000, "-999999999999999999": -999999999999999999,
	}
	for s, want := range good {
		if got, ok := impl.ReadDecimal(s); got != want || !ok {
			t.Errorf("ReadDecimal(%q): got %d %t, want %d true", s, got, ok, want)
		}
	}
	for _, s := range []string{
		"", "-", "--1", "+1", "+", "-0", "00", "01", "-01", "000000000000000001", "0000000000000000001",
		"1000000000000000000", "-1000000000000000000", "9223372036854775807", "-9223372036854775808",
		"9223372036854775808", "18446744073709551617", strings.Repeat("9", 100000), strings.Repeat("0", 100000),
		" 1", "1 ", "1 2", "1-", "1-2", "1.0", "1e3", "0x1", "1_000", "a", "1a", "1\n", "1\x00", "\xff", "\u0661", "１",
	} {
		if got, ok := impl.ReadDecimal(s); got != 0 || ok {
			t.Errorf("ReadDecimal(%q): got %d %t, want 0 false", s, got, ok)
		}
	}
}

func TestPromise1SplitWords(t *testing.T) {
	cases := []struct {
		text string
		want []string
	}{
		{"", nil},
		{" ", nil},
		{"     ", nil},
		{"a", []string{"a"}},
		{" a b", []string{"a", "b"}},
		{"a  b   ", []string{"a", "b"}},
		{"one two one", []string{"one", "two", "one"}},
		{"a\tb c\nd\re\vf\fg h", []string{"a\tb", "c\nd\re\vf\fg", "h"}},
		{"a\u00a0b\u2003c\u0085d\u3000", []string{"a\u00a0b\u2003c\u0085d\u3000"}},
		{"\x00 \xff \xe2\x80 é", []string{"\x00", "\xff", "\xe2\x80", "é"}},
	}
	for _, c := range cases {
		if got := impl.SplitWords(c.text); !slices.Equal(got, c.want) {
			t.Errorf("SplitWords(%q): got %q, want %q", c.text, got, c.want)
		}
	}
}

func TestPromise1SplitWordsOfAnyBytes(t *testing.T) {
	source := rand.New(rand.NewSource(2))
	for range 2000 {
		text := make([]byte, source.Intn(30))
		for i := range text {
			text[i] = byte(source.Intn(256))
			if source.Intn(3) == 0 {
				text[i] = ' '
			}
		}
		var want []string
		for _, word := range strings.Split(string(text), " ") {
			if word != "" {
				want = append(want, word)
			}
		}
		if got := impl.SplitWords(string(text)); !slices.Equal(got, want) {
			t.Errorf("SplitWords(%q): got %q, want %q", text, got, want)
		}
	}
}

func TestPromise1ResultsAreNewAndEqual(t *testing.T) {
	const text = " great wheel  of the going train"
	first := impl.SplitWords(text)
	kept := slices.Clone(first)
	for i := range first[:cap(first)] {
		first[:cap(first)][i] = "changed"
	}
	if again := impl.SplitWords(text); !slices.Equal(again, kept) {
		t.Errorf("SplitWords after a change of its result: got %q, want %q", again, kept)
	}
	for _, n := range edgeNumbers() {
		if impl.CodeName(n) != impl.CodeName(n) || impl.Decimal(n) != impl.Decimal(n) {
			t.Errorf("unequal results for %d", n)
		}
	}
}
