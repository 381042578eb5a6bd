package tests

import (
	"bytes"
	"math"
	"math/big"
	"regexp"
	"slices"
	"strconv"
	"strings"
	"testing"

	"loop.example/g01017/impl"
)

// wordsOver returns all strings of at most length bytes of the alphabet, the empty one first.
func wordsOver(alphabet string, length int) []string {
	words := []string{""}
	last := words
	for range length {
		var next []string
		for _, w := range last {
			for i := range len(alphabet) {
				next = append(next, w+alphabet[i:i+1])
			}
		}
		words = append(words, next...)
		last = next
	}
	return words
}

// mixed returns n bytes in which all byte values but that of # occur if n is great enough.
func mixed(n int) string {
	b := make([]byte, n)
	for i := range b {
		b[i] = byte(i * 7)
		if b[i] == '#' {
			b[i] = '$'
		}
	}
	return string(b)
}

// sumOf is the checksum as the document's formula has it, without a bound of the length.
func sumOf(s string) int {
	h := big.NewInt(7)
	for i := range len(s) {
		h.Mul(h, big.NewInt(41))
		h.Add(h, big.NewInt(int64(s[i])+1))
	}
	return int(h.Mod(h, big.NewInt(999979)).Int64())
}

// sealedTo returns a string that has length bytes with its checksum, and both together.
func sealedTo(t *testing.T, length int) (string, string) {
	t.Helper()
	for n := length - 7; n < length; n++ {
		s := mixed(n)
		if sealed := s + "#" + strconv.Itoa(sumOf(s)); len(sealed) == length {
			return s, sealed
		}
	}
	t.Fatal("no string becomes", length, "bytes long")
	return "", ""
}

func wantNoInt(t *testing.T, s string) {
	t.Helper()
	if n, ok := impl.ParseInt(s); ok || n != 0 {
		t.Errorf("ParseInt(%.20q) = %d, %v; want 0, false", s, n, ok)
	}
}

func wantNoSplit(t *testing.T, s string, sep string) {
	t.Helper()
	if l, ok := impl.SplitString(s, sep); ok || len(l) != 0 {
		t.Errorf("SplitString(%.20q, %q) = %.40q, %v; want none, false", s, sep, l, ok)
	}
}

func wantNoJoin(t *testing.T, parts []string, sep string) {
	t.Helper()
	if s, ok := impl.JoinStrings(parts, sep); ok || s != "" {
		t.Errorf("JoinStrings(%.40q, %q) = %.20q, %v; want \"\", false", parts, sep, s, ok)
	}
}

func wantNotSealed(t *testing.T, s string) {
	t.Helper()
	if x, ok := impl.AppendChecksum(s); ok || x != "" {
		t.Errorf("AppendChecksum(%.20q) = %.20q, %v; want \"\", false", s, x, ok)
	}
}

func wantNotOpened(t *testing.T, s string) {
	t.Helper()
	if x, ok := impl.VerifyChecksum(s); ok || x != "" {
		t.Errorf("VerifyChecksum(%.20q) = %.20q, %v; want \"\", false", s, x, ok)
	}
}

func TestFormatIntAndParseIntRoundTrip(t *testing.T) {
	for n := -impl.MaxDecimal; n <= impl.MaxDecimal; n++ {
		s, ok := impl.FormatInt(n)
		if !ok || s != strconv.Itoa(n) {
			t.Fatalf("FormatInt(%d) = %q, %v", n, s, ok)
		}
		if m, ok := impl.ParseInt(s); !ok || m != n {
			t.Fatalf("ParseInt(%q) = %d, %v", s, m, ok)
		}
	}
}

func TestFormatIntExamplesAndLimits(t *testing.T) {
	if impl.MaxDecimal != 999999 || impl.MaxString != 4000 {
		t.Error("limits", impl.MaxDecimal, impl.MaxString)
	}
	for n, want := range map[int]string{0: "0", 7: "7", -12: "-12", 10: "10", 999999: "999999", -999999: "-999999"} {
		if s, ok := impl.FormatInt(n); !ok || s != want {
			t.Errorf("FormatInt(%d) = %q, %v; want %q", n, s, ok, want)
		}
	}
	for _, n := range []int{1000000, -1000000, math.MaxInt, math.MinInt, 1 << 32, -1 << 32} {
		if s, ok := impl.FormatInt(n); ok || s != "" {
			t.Errorf("FormatInt(%d) = %q, %v; want \"\", false", n, s, ok)
		}
	}
}

func TestParseIntTakesCanonicalStringsOnly(t *testing.T) {
	canonical := regexp.MustCompile(`^(0|-?[1-9][0-9]{0,5})$`)
	for _, s := range wordsOver("-+019 ._a", 5) {
		want := 0
		if canonical.MatchString(s) {
			want, _ = strconv.Atoi(s)
		}
		if n, ok := impl.ParseInt(s); n != want || ok != canonical.MatchString(s) {
			t.Fatalf("ParseInt(%q) = %d, %v", s, n, ok)
		}
	}
}

func TestParseIntInvalid(t *testing.T) {
	for _, s := range []string{
		"", "-", "+", "-0", "+0", "00", "01", "-01", "007", "+1", "--1", "-+1", "1-", " 1", "1 ", "1\n",
		"1000000", "-1000000", "0999999", "9223372036854775807", "-9223372036854775808",
		"9223372036854775808", "18446744073709551617", "4294967297", "1_000", "0x10", "1e3", "1.0", "\x00",
		"1\x00", "\xb2", "\u0661", "a", strings.Repeat("0", 5000), strings.Repeat("9", 5000),
	} {
		wantNoInt(t, s)
	}
}

func TestSplitStringPieces(t *testing.T) {
	for _, c := range []struct {
		s, sep string
		want   []string
	}{
		{"a,,b", ",", []string{"a", "", "b"}},
		{"", ",", []string{""}},
		{",", ",", []string{"", ""}},
		{"abc", ",", []string{"abc"}},
		{",a,", ",", []string{"", "a", ""}},
		{"a;b,c", ";", []string{"a", "b,c"}},
		{"a\x00b", "\x00", []string{"a", "b"}},
		{"a\xffb\xff", "\xff", []string{"a", "b", ""}},
		{"x\xc3\xa9y", "\xa9", []string{"x\xc3", "y"}},
		{"line\nline", "\n", []string{"line", "line"}},
	} {
		if l, ok := impl.SplitString(c.s, c.sep); !ok || !slices.Equal(l, c.want) {
			t.Errorf("SplitString(%q, %q) = %q, %v; want %q", c.s, c.sep, l, ok, c.want)
		}
	}
}

func TestSplitStringLimits(t *testing.T) {
	full := strings.Repeat(",", impl.MaxString)
	if l, ok := impl.SplitString(full, ","); !ok || len(l) != impl.MaxString+1 || strings.Join(l, "") != "" {
		t.Error("split of MaxString separators", len(l), ok)
	}
	if l, ok := impl.SplitString(strings.Repeat("a", impl.MaxString), ","); !ok || len(l) != 1 {
		t.Error("split of MaxString letters", len(l), ok)
	}
	wantNoSplit(t, full+",", ",")
	wantNoSplit(t, strings.Repeat("a", impl.MaxString+1), ",")
	for _, sep := range []string{"", ",,", ", ", "\u00e9", "a,b"} {
		wantNoSplit(t, "a,b", sep)
		wantNoSplit(t, "", sep)
		wantNoSplit(t, "\u00e9,,", sep)
	}
}

func TestSplitStringAndJoinStringsRoundTrip(t *testing.T) {
	for _, s := range append(wordsOver("a,;\x00\xff", 5), mixed(impl.MaxString)) {
		for _, sep := range []string{",", ";", "\x00", "\xff", "b"} {
			parts, ok := impl.SplitString(s, sep)
			if !ok || len(parts) != strings.Count(s, sep)+1 {
				t.Fatalf("SplitString(%.20q, %q) has %d parts, %v", s, sep, len(parts), ok)
			}
			for _, part := range parts {
				if strings.Contains(part, sep) {
					t.Fatalf("SplitString(%.20q, %q) has the part %q", s, sep, part)
				}
			}
			if joined, ok := impl.JoinStrings(parts, sep); !ok || joined != s {
				t.Fatalf("JoinStrings(%.40q, %q) = %.20q, %v", parts, sep, joined, ok)
			}
		}
	}
}

func TestJoinStringsThenSplitString(t *testing.T) {
	elements := []string{"", "a", ",", "a,", ",a", "a,b", ";", "bc"}
	for _, digits := range wordsOver("01234567", 4)[1:] {
		parts := []string{}
		within := false
		for _, d := range digits {
			parts = append(parts, elements[d-'0'])
			within = within || strings.Contains(elements[d-'0'], ",")
		}
		if within {
			wantNoJoin(t, parts, ",")
			continue
		}
		s, ok := impl.JoinStrings(parts, ",")
		if !ok || s != strings.Join(parts, ",") {
			t.Fatalf("JoinStrings(%q) = %q, %v", parts, s, ok)
		}
		if back, ok := impl.SplitString(s, ","); !ok || !slices.Equal(back, parts) {
			t.Fatalf("SplitString(%q) = %q, %v; want %q", s, back, ok, parts)
		}
	}
}

func TestJoinStringsInvalid(t *testing.T) {
	wantNoJoin(t, nil, ",")
	wantNoJoin(t, []string{}, ",")
	wantNoJoin(t, []string{}, "")
	for _, sep := range []string{"", ",,", ", ", "\u00e9"} {
		wantNoJoin(t, []string{"a"}, sep)
		wantNoJoin(t, []string{"a", "b"}, sep)
	}
	wantNoJoin(t, []string{"a;b"}, ";")
	wantNoJoin(t, []string{"a", "b", "c;"}, ";")
	wantNoJoin(t, []string{";", "b"}, ";")
	wantNoJoin(t, []string{"x\xc3\xa9y", "b"}, "\xa9")
}

func TestJoinStringsLimits(t *testing.T) {
	half := strings.Repeat("a", impl.MaxString/2)
	for _, parts := range [][]string{
		{half + half},
		{half, half[1:]},
		{half + half[1:], ""},
		{"", half[1:], half[1:]},
		make([]string, impl.MaxString+1),
	} {
		if s, ok := impl.JoinStrings(parts, ","); !ok || s != strings.Join(parts, ",") || len(s) != impl.MaxString {
			t.Errorf("JoinStrings of MaxString bytes has %d bytes, %v", len(s), ok)
		}
	}
	wantNoJoin(t, []string{half + half + "a"}, ",")
	wantNoJoin(t, []string{half, half}, ",")
	wantNoJoin(t, []string{half + half, ""}, ",")
	wantNoJoin(t, []string{"", half, half[1:]}, ",")
	wantNoJoin(t, make([]string, impl.MaxString+2), ",")
}

func TestStringFunctionsKeepTheirArguments(t *testing.T) {
	backing := []string{"a", "b", "c", "d;"}
	parts := backing[:3]
	if s, ok := impl.JoinStrings(parts, ";"); !ok || s != "a;b;c" {
		t.Error("joined", s, ok)
	}
	if !slices.Equal(backing, []string{"a", "b", "c", "d;"}) {
		t.Error("argument changed", backing)
	}
	first, _ := impl.SplitString("a,b", ",")
	first[0] = "x"
	_ = append(first[:1], "y")
	if second, ok := impl.SplitString("a,b", ","); !ok || !slices.Equal(second, []string{"a", "b"}) {
		t.Error("result is shared", second)
	}
}

func TestLessStringComparesBytes(t *testing.T) {
	words := wordsOver("\x00aB\x7f\x80\xff", 3)
	for _, a := range words {
		for _, b := range words {
			if got := impl.LessString(a, b); got != (bytes.Compare([]byte(a), []byte(b)) < 0) {
				t.Fatalf("LessString(%q, %q) = %v", a, b, got)
			}
		}
	}
	long := strings.Repeat("a", impl.MaxString+10)
	if !impl.LessString(long, long+"a") || impl.LessString(long, long) || impl.LessString(long+"a", long) {
		t.Error("long strings")
	}
}

func TestChecksumValues(t *testing.T) {
	for s, want := range map[string]int{"": 7, "a": 385, "ab": 15884, "\x00": 288, "\xff": 543, "#": 323, "\x00\x00": 11809} {
		if n, ok := impl.Checksum(s); !ok || n != want {
			t.Errorf("Checksum(%q) = %d, %v; want %d", s, n, ok, want)
		}
	}
	for n := 0; n <= 300; n++ {
		if h, ok := impl.Checksum(mixed(n)); !ok || h != sumOf(mixed(n)) {
			t.Fatalf("Checksum of %d bytes = %d, %v; want %d", n, h, ok, sumOf(mixed(n)))
		}
	}
}

func TestChecksumLimits(t *testing.T) {
	s := mixed(impl.MaxString)
	if h, ok := impl.Checksum(s); !ok || h != sumOf(s) {
		t.Error("Checksum of MaxString bytes", h, ok)
	}
	for _, s := range []string{s + "a", strings.Repeat("z", 100000)} {
		if h, ok := impl.Checksum(s); ok || h != 0 {
			t.Error("Checksum of", len(s), "bytes", h, ok)
		}
	}
}

func TestAppendChecksumRoundTrip(t *testing.T) {
	for _, s := range append(wordsOver("a0\x00\xff-", 5), "a", "caf\u00e9", mixed(300)) {
		want := s + "#" + strconv.Itoa(sumOf(s))
		sealed, ok := impl.AppendChecksum(s)
		if !ok || sealed != want {
			t.Fatalf("AppendChecksum(%.20q) = %.20q, %v", s, sealed, ok)
		}
		if back, ok := impl.VerifyChecksum(sealed); !ok || back != s {
			t.Fatalf("VerifyChecksum(%.20q) = %.20q, %v", sealed, back, ok)
		}
	}
}

func TestAppendChecksumInvalid(t *testing.T) {
	for _, s := range []string{"#", "a#", "#a", "a#385", "a#b#c", mixed(impl.MaxString-20) + "#"} {
		wantNotSealed(t, s)
	}
	for _, n := range []int{impl.MaxString - 1, impl.MaxString, impl.MaxString + 1, 100000} {
		wantNotSealed(t, mixed(n))
	}
}

func TestAppendChecksumLimits(t *testing.T) {
	s, want := sealedTo(t, impl.MaxString)
	sealed, ok := impl.AppendChecksum(s)
	if !ok || sealed != want {
		t.Error("AppendChecksum to MaxString bytes", len(sealed), ok)
	}
	if back, ok := impl.VerifyChecksum(want); !ok || back != s {
		t.Error("VerifyChecksum of MaxString bytes", len(back), ok)
	}
	s, tooLong := sealedTo(t, impl.MaxString+1)
	wantNotSealed(t, s)
	wantNotOpened(t, tooLong)
}

func TestVerifyChecksumInvalid(t *testing.T) {
	for _, s := range []string{
		"", "#", "a", "385", "a385", "#385", "a#", "a#384", "a#386", "b#385", "a#0385", "a#+385", "a#-385", "a# 385",
		"a#385 ", "a#385\n", "a#1000364", "a#385#", "a#385#1", "##7", "#07", "#7#", "#-7", "a#\xb3", "a#99999999999999999999",
		"a#b#" + strconv.Itoa(sumOf("a#b")), "a##" + strconv.Itoa(sumOf("a#")), "#" + strconv.Itoa(7+999979),
	} {
		wantNotOpened(t, s)
	}
	if x, ok := impl.VerifyChecksum("#7"); !ok || x != "" {
		t.Error("the empty string is sealed as #7", x, ok)
	}
	wantNotOpened(t, strings.Repeat("a", impl.MaxString+1))
	wantNotOpened(t, strings.Repeat("#", impl.MaxString))
}

func TestEachChangedByteIsDetected(t *testing.T) {
	for _, s := range []string{"", "a", "aa", "\x00", "\xff\xff", "event 12 at 3456", mixed(60)} {
		sealed, ok := impl.AppendChecksum(s)
		if !ok {
			t.Fatal("not sealed", s)
		}
		changed := []byte(sealed)
		for i := range changed {
			for d := 1; d < 256; d++ {
				changed[i] = sealed[i] + byte(d)
				wantNotOpened(t, string(changed))
			}
			changed[i] = sealed[i]
		}
	}
}

func TestEachChangedByteOfALongStringIsDetected(t *testing.T) {
	_, sealed := sealedTo(t, impl.MaxString)
	if _, ok := impl.VerifyChecksum(sealed); !ok {
		t.Fatal("not opened", len(sealed))
	}
	changed := []byte(sealed)
	for i := range changed {
		for _, d := range []byte{1, 128, 255} {
			changed[i] = sealed[i] + d
			wantNotOpened(t, string(changed))
		}
		changed[i] = sealed[i]
	}
}
