package tests

import (
	"bytes"
	"math"
	"slices"
	"strconv"
	"strings"
	"testing"

	"loop.example/g00935/impl"
)

// wordsOver returns all strings over the bytes of alphabet with at most longest bytes.
func wordsOver(alphabet string, longest int) []string {
	words := []string{""}
	start := 0
	for range longest {
		end := len(words)
		for _, word := range words[start:end] {
			for i := range len(alphabet) {
				words = append(words, word+alphabet[i:i+1])
			}
		}
		start = end
	}
	return words
}

func TestFormatIntAndParseIntRoundTrip(t *testing.T) {
	for n := -impl.MaxDecimal; n <= impl.MaxDecimal; n++ {
		s, ok := impl.FormatInt(n)
		if !ok || s != strconv.Itoa(n) {
			t.Fatalf("FormatInt(%d) = %q, %v", n, s, ok)
		}
		m, ok := impl.ParseInt(s)
		if !ok || m != n {
			t.Fatalf("ParseInt(%q) = %d, %v", s, m, ok)
		}
	}
}

func TestFormatIntOutsideTheRange(t *testing.T) {
	for _, n := range []int{impl.MaxDecimal + 1, -impl.MaxDecimal - 1, 12345678, math.MaxInt, math.MinInt} {
		if s, ok := impl.FormatInt(n); ok || s != "" {
			t.Errorf("FormatInt(%d) = %q, %v", n, s, ok)
		}
	}
}

func TestParseIntRejectsOtherForms(t *testing.T) {
	others := []string{
		"", "-", "+", "+1", "+0", "-0", "00", "-00", "01", "-01", "007", "--1", "-+1", "1-", "1+",
		" 1", "1 ", "1\n", "\t1", "- 1", "1\x00", "\x001", "1_0", "1,000", "1.0", "1e3", "0x1", "0b1", "0o7", "a", "1a",
		"1000000", "-1000000", "0999999", "-0999999", "0000001", "9999999", "00999999", "-00999999",
		"9223372036854775807", "9223372036854775808", "-9223372036854775808", "18446744073709551617", "18446744073709551616",
		"\u0661", "\uff11", "\u22121", "1\xff", "\xff",
		strings.Repeat("0", 100000) + "1", strings.Repeat("9", 100000),
	}
	for _, s := range others {
		if n, ok := impl.ParseInt(s); ok || n != 0 {
			t.Errorf("ParseInt(%.40q) = %d, %v", s, n, ok)
		}
	}
}

func TestParseIntAcceptsOnlyWhatFormatIntWrites(t *testing.T) {
	written := map[string]int{}
	for n := -999; n <= 9999; n++ {
		written[strconv.Itoa(n)] = n
	}
	for _, s := range wordsOver("019-+ _x", 4) {
		want, known := written[s]
		if n, ok := impl.ParseInt(s); ok != known || n != want {
			t.Errorf("ParseInt(%q) = %d, %v", s, n, ok)
		}
	}
}

func TestSplitStringExamples(t *testing.T) {
	cases := []struct {
		s, sep string
		want   []string
	}{
		{"a,,b", ",", []string{"a", "", "b"}},
		{"", ",", []string{""}},
		{",", ",", []string{"", ""}},
		{"abc", ",", []string{"abc"}},
		{",a", ",", []string{"", "a"}},
		{"a,", ",", []string{"a", ""}},
		{"a;b,c", ";", []string{"a", "b,c"}},
		{"a\x00b", "\x00", []string{"a", "b"}},
		{"a\nb\n", "\n", []string{"a", "b", ""}},
		{"a\xffb\xfe", "\xff", []string{"a", "b\xfe"}},
		{"\u00e9", "\xa9", []string{"\xc3", ""}},
		{strings.Repeat("x", impl.MaxString), ",", []string{strings.Repeat("x", impl.MaxString)}},
		{strings.Repeat(",", impl.MaxString), ",", make([]string, impl.MaxString+1)},
	}
	for _, c := range cases {
		parts, ok := impl.SplitString(c.s, c.sep)
		if !ok || !slices.Equal(parts, c.want) {
			t.Errorf("SplitString(%.40q, %q) = %d parts, %v", c.s, c.sep, len(parts), ok)
		}
		s, ok := impl.JoinStrings(parts, c.sep)
		if !ok || s != c.s {
			t.Errorf("JoinStrings does not give back %.40q, but %.40q, %v", c.s, s, ok)
		}
	}
}

func TestSplitStringRejects(t *testing.T) {
	cases := []struct{ s, sep string }{
		{"a,b", ""}, {"", ""}, {"a,,b", ",,"}, {"a", "ab"}, {"a\u00e9b", "\u00e9"}, {"a", strings.Repeat(",", 5000)},
		{strings.Repeat("x", impl.MaxString+1), ","},
		{strings.Repeat(",", impl.MaxString+1), ","},
	}
	for _, c := range cases {
		if parts, ok := impl.SplitString(c.s, c.sep); ok || len(parts) != 0 {
			t.Errorf("SplitString(%.40q, %.10q) = %d parts, %v", c.s, c.sep, len(parts), ok)
		}
	}
}

func TestSplitStringIsUndoneByJoinStrings(t *testing.T) {
	for _, s := range wordsOver("a,;", 7) {
		for _, sep := range []string{",", ";", "a", "x"} {
			parts, ok := impl.SplitString(s, sep)
			if !ok || len(parts) != strings.Count(s, sep)+1 {
				t.Fatalf("SplitString(%q, %q) = %q, %v", s, sep, parts, ok)
			}
			for _, part := range parts {
				if strings.Contains(part, sep) {
					t.Fatalf("SplitString(%q, %q) = %q", s, sep, parts)
				}
			}
			if joined, ok := impl.JoinStrings(parts, sep); !ok || joined != s {
				t.Fatalf("JoinStrings(%q, %q) = %q, %v", parts, sep, joined, ok)
			}
		}
	}
}

func TestJoinStringsIsUndoneBySplitString(t *testing.T) {
	words := wordsOver("ab,", 2)
	for _, a := range words {
		for _, b := range words {
			for _, c := range words {
				parts := []string{a, b, c}
				joined, ok := impl.JoinStrings(parts, ",")
				if within := strings.Contains(a+b+c, ","); ok == within {
					t.Fatalf("JoinStrings(%q) = %q, %v", parts, joined, ok)
				}
				if !ok {
					continue
				}
				if again, ok := impl.SplitString(joined, ","); !ok || !slices.Equal(again, parts) {
					t.Fatalf("SplitString(%q) = %q, %v", joined, again, ok)
				}
			}
		}
	}
}

func TestJoinStringsAcceptsUpToTheLimit(t *testing.T) {
	half := strings.Repeat("x", impl.MaxString/2)
	cases := []struct {
		parts []string
		want  string
	}{
		{[]string{""}, ""},
		{[]string{"a"}, "a"},
		{[]string{"", ""}, ","},
		{[]string{"a;b", "c"}, "a;b,c"},
		{[]string{half + half}, half + half},
		{[]string{half, half[1:]}, half + "," + half[1:]},
		{make([]string, impl.MaxString+1), strings.Repeat(",", impl.MaxString)},
	}
	for _, c := range cases {
		if s, ok := impl.JoinStrings(c.parts, ","); !ok || s != c.want {
			t.Errorf("JoinStrings of %d parts = %.40q, %v", len(c.parts), s, ok)
		}
	}
}

func TestJoinStringsRejects(t *testing.T) {
	half := strings.Repeat("x", impl.MaxString/2)
	cases := []struct {
		parts []string
		sep   string
	}{
		{nil, ","}, {[]string{}, ","}, {nil, ""},
		{[]string{"a", "b"}, ""}, {[]string{"a", "b"}, ",,"}, {[]string{"a", "b"}, "\u00e9"}, {[]string{"a"}, ""}, {[]string{"a"}, ";;"},
		{[]string{","}, ","}, {[]string{"a,b"}, ","}, {[]string{",a", "b"}, ","}, {[]string{"a", "b,", "c"}, ","}, {[]string{"a", "", "b,c"}, ","},
		{[]string{"a", "\u00e9"}, "\xa9"}, {[]string{"a\x00"}, "\x00"},
		{[]string{half, half}, ","}, {[]string{half + half + "x"}, ","}, {make([]string, impl.MaxString+2), ","},
		{append(make([]string, impl.MaxString), "xx"), ","},
		{[]string{half + half + half, "a,b"}, ","},
	}
	for _, c := range cases {
		if s, ok := impl.JoinStrings(c.parts, c.sep); ok || s != "" {
			t.Errorf("JoinStrings(%.60q, %q) = %.40q, %v", c.parts, c.sep, s, ok)
		}
	}
}

func TestJoinStringsReadsNothingBeyondTheLength(t *testing.T) {
	memory := []string{"a", "b", "c,d", strings.Repeat("x", 5000)}
	before := slices.Clone(memory)
	if s, ok := impl.JoinStrings(memory[:2], ","); !ok || s != "a,b" {
		t.Errorf("JoinStrings = %q, %v", s, ok)
	}
	impl.JoinStrings(memory[:3], ",")
	impl.JoinStrings(memory, ";")
	if !slices.Equal(memory, before) {
		t.Error("JoinStrings changes its argument")
	}
}

func TestSplitStringReturnsNewMemory(t *testing.T) {
	first, _ := impl.SplitString("a,b", ",")
	second, _ := impl.SplitString("a,b", ",")
	_ = append(first[:1], "x")
	first[0] = "y"
	if !slices.Equal(second, []string{"a", "b"}) {
		t.Errorf("two results share memory: %q", second)
	}
}

func TestLessStringComparesBytes(t *testing.T) {
	words := append(wordsOver("\x00a\x7f\x80\xff", 3), "abc", "abd", "ab\x00", "B", "\u00e9", "e", "10", "9")
	for _, a := range words {
		for _, b := range words {
			want := bytes.Compare([]byte(a), []byte(b)) < 0
			if got := impl.LessString(a, b); got != want {
				t.Errorf("LessString(%q, %q) = %v", a, b, got)
			}
		}
	}
	long := strings.Repeat("x", 10000)
	if impl.LessString(long, long) || !impl.LessString(long, long+"\x00") || impl.LessString(long+"a", long) {
		t.Error("LessString of long strings")
	}
}

func TestChecksumValues(t *testing.T) {
	// 41*7+98 = 385; 41*385+99 = 15884; 41*15884+100 = 651344;
	// 41*651344+101 = 26705205, which is 705751 modulo 999979.
	cases := map[string]int{
		"": 7, "a": 385, "ab": 15884, "abc": 651344, "abcd": 705751,
		"\x00": 288, "\xff": 543, "#": 323, "\u00e9": 19973,
	}
	for s, want := range cases {
		if sum, ok := impl.Checksum(s); !ok || sum != want {
			t.Errorf("Checksum(%q) = %d, %v, not %d", s, sum, ok, want)
		}
	}
}

func TestChecksumOfLongStrings(t *testing.T) {
	for _, c := range []byte{0, 'a', '#', 255} {
		text := strings.Repeat(string([]byte{c}), impl.MaxString+1)
		want := 7
		for range impl.MaxString {
			want = (41*want + int(c) + 1) % 999979
		}
		if sum, ok := impl.Checksum(text[1:]); !ok || sum != want {
			t.Errorf("Checksum of %d bytes %d = %d, %v, not %d", impl.MaxString, c, sum, ok, want)
		}
		if sum, ok := impl.Checksum(text); ok || sum != 0 {
			t.Errorf("Checksum of %d bytes %d = %d, %v", len(text), c, sum, ok)
		}
	}
}

func TestAppendAndVerifyChecksumRoundTrip(t *testing.T) {
	texts := append(wordsOver("a0 \x00\xff", 4), "S0:1200 T300:1350 S900:1500", "a,b;c\n", "\u00e9", "385")
	for _, text := range texts {
		sum, _ := impl.Checksum(text)
		sealed, ok := impl.AppendChecksum(text)
		if !ok || sealed != text+"#"+strconv.Itoa(sum) {
			t.Fatalf("AppendChecksum(%q) = %q, %v", text, sealed, ok)
		}
		if opened, ok := impl.VerifyChecksum(sealed); !ok || opened != text {
			t.Fatalf("VerifyChecksum(%q) = %q, %v", sealed, opened, ok)
		}
	}
}

func TestAppendChecksumRejects(t *testing.T) {
	for _, s := range []string{"#", "a#", "#a", "a#b", "a#385", "##", strings.Repeat("x", 100000), strings.Repeat("x", 3990) + "#"} {
		if sealed, ok := impl.AppendChecksum(s); ok || sealed != "" {
			t.Errorf("AppendChecksum(%.40q) = %.40q, %v", s, sealed, ok)
		}
	}
}

// TestChecksumAtTheLimit takes each length near the limit with many last bytes, so that sums of
// several lengths occur, and compares with the limit of the sealed string.
func TestChecksumAtTheLimit(t *testing.T) {
	accepted, rejected := 0, 0
	for length := impl.MaxString - 8; length <= impl.MaxString+1; length++ {
		for c := range 256 {
			if c == '#' {
				continue
			}
			text := strings.Repeat("x", length-1) + string([]byte{byte(c)})
			sum := 7
			for i := range length {
				sum = (41*sum + int(text[i]) + 1) % 999979
			}
			whole := text + "#" + strconv.Itoa(sum)
			fits := len(whole) <= impl.MaxString
			sealed, ok := impl.AppendChecksum(text)
			if ok != fits || ok && sealed != whole || !ok && sealed != "" {
				t.Fatalf("AppendChecksum of %d bytes, %d with the sum: %d bytes, %v", length, len(whole), len(sealed), ok)
			}
			opened, ok := impl.VerifyChecksum(whole)
			if ok != fits || ok && opened != text || !ok && opened != "" {
				t.Fatalf("VerifyChecksum of %d bytes: %d bytes, %v", len(whole), len(opened), ok)
			}
			if fits && len(whole) == impl.MaxString {
				accepted++
			} else if len(whole) == impl.MaxString+1 {
				rejected++
			}
		}
	}
	if accepted == 0 || rejected == 0 {
		t.Errorf("%d strings meet the limit, %d exceed it by one", accepted, rejected)
	}
}

func TestVerifyChecksumRejects(t *testing.T) {
	others := []string{
		"", "#", "a", "385", "a#", "#385", "a#384", "a#386", "a#0385", "a#+385", "a# 385", "a#385 ", "a#385\n", "a#3850", "a#38",
		"b#385", "a385", "a##385", "a#385#", "#a#385", "a#385#385", "a#-385", "#07", "#-7", "#8", "a#1000364", "#999986",
		"#323", "##323", strings.Repeat("x", 100000), strings.Repeat("#", 100000), strings.Repeat("x", 5000) + "#1",
	}
	if sealed, ok := impl.AppendChecksum("b"); ok {
		others = append(others, "a"+sealed[1:], "a#385"+sealed)
	}
	for _, s := range others {
		if text, ok := impl.VerifyChecksum(s); ok || text != "" {
			t.Errorf("VerifyChecksum(%.40q) = %.40q, %v", s, text, ok)
		}
	}
}

// rejectsChanges fails the test if some other byte at the place i of sealed is not detected.
func rejectsChanges(t *testing.T, sealed string, i int) {
	t.Helper()
	changed := []byte(sealed)
	for c := range 256 {
		if byte(c) == sealed[i] {
			continue
		}
		changed[i] = byte(c)
		if text, ok := impl.VerifyChecksum(string(changed)); ok || text != "" {
			t.Fatalf("byte %d of %d is changed to %d: %.40q, %v", i, len(sealed), c, text, ok)
		}
	}
}

func TestEverySingleChangedByteIsDetected(t *testing.T) {
	texts := []string{"", "a", "\x00", "\xff\xff", "12", "S0:1200 T300:1350 S900:1500", "all kinds \x00\x7f\x80\xff\n,;@"}
	for seed := range 20 {
		text := []byte{}
		for k := range 30 {
			if c := byte(seed*seed*7 + k*k*13 + 31*k); c != '#' {
				text = append(text, c)
			}
		}
		texts = append(texts, string(text))
	}
	for _, text := range texts {
		sealed, ok := impl.AppendChecksum(text)
		if !ok {
			t.Fatalf("AppendChecksum(%q) fails", text)
		}
		for i := range len(sealed) {
			rejectsChanges(t, sealed, i)
		}
	}
	long, ok := impl.AppendChecksum(strings.Repeat("rope ", 798))
	if !ok {
		t.Fatal("AppendChecksum of 3990 bytes fails")
	}
	for i := 0; i < len(long); i += 97 {
		rejectsChanges(t, long, i)
	}
	for i := len(long) - 8; i < len(long); i++ {
		rejectsChanges(t, long, i)
	}
}

// TestStringsReturnForAllArguments gives arbitrary arguments to every function of the chapter,
// twice, and expects the same results, and zero values beside false.
func TestStringsReturnForAllArguments(t *testing.T) {
	texts := append(wordsOver("#-0\xff", 4), "\u00e9", "a#385", "999999", strings.Repeat("#", 4001), strings.Repeat("-", 100000))
	for _, s := range texts {
		n, parsed := impl.ParseInt(s)
		m, again := impl.ParseInt(s)
		if n != m || parsed != again || !parsed && n != 0 {
			t.Errorf("ParseInt(%.40q) = %d, %v and %d, %v", s, n, parsed, m, again)
		}
		sum, short := impl.Checksum(s)
		if short != (len(s) <= impl.MaxString) || !short && sum != 0 || sum < 0 || sum >= 999979 {
			t.Errorf("Checksum(%.40q) = %d, %v", s, sum, short)
		}
		sealed, ok := impl.AppendChecksum(s)
		if ok == (strings.Contains(s, "#") || !short) || !ok && sealed != "" {
			t.Errorf("AppendChecksum(%.40q) = %.40q, %v", s, sealed, ok)
		}
		if opened, ok := impl.VerifyChecksum(s); !ok && opened != "" {
			t.Errorf("VerifyChecksum(%.40q) = %.40q, %v", s, opened, ok)
		}
		for _, sep := range texts {
			parts, ok := impl.SplitString(s, sep)
			if ok != (len(sep) == 1 && short) || !ok && len(parts) != 0 {
				t.Fatalf("SplitString(%.40q, %.10q) = %d parts, %v", s, sep, len(parts), ok)
			}
			given := []string{s, sep, s}
			joined, ok := impl.JoinStrings(given, sep)
			if ok || joined != "" || !slices.Equal(given, []string{s, sep, s}) {
				t.Fatalf("JoinStrings(%.40q, %.10q) = %.40q, %v", given, sep, joined, ok)
			}
			if impl.LessString(s, sep) && impl.LessString(sep, s) {
				t.Fatalf("%.40q and %.40q are less than each other", s, sep)
			}
		}
	}
}
