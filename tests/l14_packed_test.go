package tests

import (
	"encoding/binary"
	"math"
	"math/big"
	"math/rand"
	"slices"
	"strings"
	"testing"

	"loop.example/g00926/impl"
)

func TestLimitsOfPackedLists(t *testing.T) {
	if impl.MaxItem != 1000000 || impl.MaxItems != 4000 {
		t.Errorf("MaxItem is %d, MaxItems is %d", impl.MaxItem, impl.MaxItems)
	}
}

func isItem(n int64) bool {
	return n >= -1000000 && n <= 1000000
}

// bytesOf has the bytes of any number; the varints of the standard library have the same digits.
func bytesOf(n int64) string {
	return string(binary.AppendVarint(nil, n))
}

// expectNumber is what the chapter says of GetNumber.
func expectNumber(s string, at int64) (int64, int64, int64) {
	if at < 0 || at > int64(len(s)) {
		return 0, 0, impl.ErrRange
	}
	n, size := binary.Varint([]byte(s[at:]))
	// Varint also reads other numbers, and needless zeros.
	if size <= 0 || !isItem(n) || bytesOf(n) != s[at:at+int64(size)] {
		return 0, 0, impl.ErrFormat
	}
	return n, at + int64(size), impl.OK
}

func checkPut(t *testing.T, n int64, want string, code int64) {
	t.Helper()
	if got, other := impl.PutNumber(n); got != want || other != code {
		t.Errorf("PutNumber(%d) = %v, %d, want %v, %d", n, []byte(got), other, []byte(want), code)
	}
}

func checkGet(t *testing.T, s string, at, want, end, code int64) {
	t.Helper()
	if got, behind, other := impl.GetNumber(s, at); got != want || behind != end || other != code {
		t.Errorf("GetNumber(%v, %d) = %d, %d, %d, want %d, %d, %d", []byte(s), at, got, behind, other, want, end, code)
	}
}

// checkAnyGet compares with what the chapter says, and returns the code.
func checkAnyGet(t *testing.T, s string, at int64) int64 {
	t.Helper()
	want, end, code := expectNumber(s, at)
	checkGet(t, s, at, want, end, code)
	return code
}

func TestNumbersAsBytesByHand(t *testing.T) {
	for _, c := range []struct {
		n     int64
		bytes string
	}{
		{0, "\x00"}, {-1, "\x01"}, {1, "\x02"}, {-2, "\x03"}, {2, "\x04"}, {63, "\x7e"}, {-64, "\x7f"},
		{64, "\x80\x01"}, {-65, "\x81\x01"}, {65, "\x82\x01"}, {100, "\xc8\x01"}, {127, "\xfe\x01"}, {-128, "\xff\x01"}, {128, "\x80\x02"}, {-129, "\x81\x02"},
		{8191, "\xfe\x7f"}, {-8192, "\xff\x7f"}, {8192, "\x80\x80\x01"}, {-8193, "\x81\x80\x01"}, {8193, "\x82\x80\x01"}, {16384, "\x80\x80\x02"},
		{999999, "\xfe\x88\x7a"}, {-999999, "\xfd\x88\x7a"}, {1000000, "\x80\x89\x7a"}, {-1000000, "\xff\x88\x7a"},
	} {
		size := int64(len(c.bytes))
		checkPut(t, c.n, c.bytes, impl.OK)
		checkGet(t, c.bytes, 0, c.n, size, impl.OK)
		checkGet(t, c.bytes+"\x00", 0, c.n, size, impl.OK)
		checkGet(t, c.bytes+"\xff", 0, c.n, size, impl.OK)
		checkGet(t, "\xff"+c.bytes+c.bytes, 1, c.n, 1+size, impl.OK)
		checkGet(t, "\xff"+c.bytes+c.bytes, 1+size, c.n, 1+2*size, impl.OK)
	}
	for _, n := range []int64{
		1000001, -1000001, 1000002, -1000002, 1048575, -1048576, 1048576, -1048577, 2000000, -2000000, 1 << 32, 1<<32 + 1, -1 << 32, 1 << 62, -1 << 62, 1<<62 + 1,
		math.MaxInt64, math.MaxInt64 - 1, math.MinInt64, math.MinInt64 + 1,
	} {
		checkPut(t, n, "", impl.ErrRange)
	}
}

// TestAllItemsAsBytes has each item, and the numbers around them.
func TestAllItemsAsBytes(t *testing.T) {
	sizes := map[int]int{}
	for n := int64(-1001000); n <= 1001000; n++ {
		if !isItem(n) {
			checkPut(t, n, "", impl.ErrRange)
			checkGet(t, bytesOf(n), 0, 0, 0, impl.ErrFormat)
			continue
		}
		s := bytesOf(n)
		sizes[len(s)]++
		checkPut(t, n, s, impl.OK)
		checkGet(t, s, 0, n, int64(len(s)), impl.OK)
		if t.Failed() {
			return
		}
	}
	// An item never has four bytes: 2 * MaxItem is less than 128 * 128 * 128.
	if len(sizes) != 3 || sizes[1] != 128 || sizes[2] != 16384-128 || sizes[3] != 2000001-16384 {
		t.Errorf("the numbers of items with some numbers of bytes are %v", sizes)
	}
}

// TestEndsOfSizes has the first and the last item of each number of bytes, and their neighbours.
func TestEndsOfSizes(t *testing.T) {
	for _, c := range [][2]int64{
		{0, 1}, {63, 1}, {-64, 1}, {62, 1}, {-63, 1}, {64, 2}, {-65, 2}, {65, 2}, {-66, 2}, {8190, 2}, {8191, 2}, {-8191, 2}, {-8192, 2},
		{8192, 3}, {8193, 3}, {-8193, 3}, {-8194, 3}, {999999, 3}, {1000000, 3}, {-999999, 3}, {-1000000, 3},
	} {
		s, code := impl.PutNumber(c[0])
		if int64(len(s)) != c[1] || code != impl.OK {
			t.Errorf("PutNumber(%d) = %v, %d", c[0], []byte(s), code)
		}
		checkAnyGet(t, s, 0)
	}
	// These have three or four bytes, and are no items.
	for _, n := range []int64{1000001, -1000001, 1048575, -1048576, 1048576, -1048577, 134217727, -134217728} {
		checkPut(t, n, "", impl.ErrRange)
		checkGet(t, bytesOf(n), 0, 0, 0, impl.ErrFormat)
	}
}

func TestBytesOfNoItem(t *testing.T) {
	for _, s := range []string{
		// These end too early.
		"", "\x80", "\xff", "\x81", "\x80\x80", "\xff\xff", "\x80\x89", "\xff\xff\xff", "\x80\x80\x80", "\xff\xff\xff\xff",
		// These have needless zeros at the end.
		"\x80\x00", "\x81\x00", "\xff\x00", "\xc8\x81\x00", "\x80\x80\x00", "\xff\xff\x00", "\x80\x81\x00", "\x80\x89\xfa\x00", "\x80\x80\x80\x00", "\x80\x80\x80\x80\x00",
		"\x80\x80\x80\x80\x80\x80\x80\x80\x80\x00", "\x82\x80\x80\x80\x80\x80\x80\x80\x80\x80\x00",
		// These are 2000001, 2000002, 2097151 and 2097152 without the sign, and greater ones.
		"\x81\x89\x7a", "\x82\x89\x7a", "\xff\xff\x7f", "\x80\x80\x80\x01", "\x81\x80\x80\x01", "\xff\xff\xff\x7f", "\x80\x80\x80\x80\x01",
		// In 32 or 64 bits these wrap around to 0, 1 or 2.
		"\x80\x80\x80\x80\x10", "\x81\x80\x80\x80\x10", "\x80\x80\x80\x80\x80\x80\x80\x80\x80\x02", "\x82\x80\x80\x80\x80\x80\x80\x80\x80\x02",
		"\x80\x80\x80\x80\x80\x80\x80\x80\x80\x80\x02", strings.Repeat("\x80", 5000) + "\x02", strings.Repeat("\xff", 5000), "\xff\xff\xff\xff\xff\xff\xff\xff\xff\x01", "\xff\xff\xff\xff\xff\xff\xff\xff\xff\x7f",
	} {
		checkGet(t, s, 0, 0, 0, impl.ErrFormat)
		checkGet(t, "\x02"+s, 1, 0, 0, impl.ErrFormat)
		checkGet(t, "\x02"+s, 0, 1, 1, impl.OK)
		checkGet(t, s, int64(len(s)), 0, 0, impl.ErrFormat)
	}
}

func TestIndicesOfBytes(t *testing.T) {
	const s = "\x02\xc8\x01\x80\x89\x7a\x80"
	for _, c := range [][4]int64{
		{0, 1, 1, impl.OK}, {1, 100, 3, impl.OK}, {2, -1, 3, impl.OK}, {3, 1000000, 6, impl.OK}, {4, -7813, 6, impl.OK}, {5, 61, 6, impl.OK},
		{6, 0, 0, impl.ErrFormat}, {7, 0, 0, impl.ErrFormat}, {8, 0, 0, impl.ErrRange}, {9, 0, 0, impl.ErrRange}, {-1, 0, 0, impl.ErrRange}, {-6, 0, 0, impl.ErrRange},
		{1 << 32, 0, 0, impl.ErrRange}, {1<<32 + 1, 0, 0, impl.ErrRange}, {math.MaxInt64, 0, 0, impl.ErrRange}, {math.MinInt64, 0, 0, impl.ErrRange},
	} {
		checkGet(t, s, c[0], c[1], c[2], c[3])
	}
	for _, at := range append([]int64{1, 2, 3}, extremes...) {
		checkGet(t, "", at, 0, 0, impl.ErrRange)
	}
	checkGet(t, "", 0, 0, 0, impl.ErrFormat)
	checkGet(t, "\x02", 1, 0, 0, impl.ErrFormat)
	checkGet(t, "\x02", 2, 0, 0, impl.ErrRange)
}

// TestGetNumberOfFewBytes has all texts of one and two bytes, and many with more, also from other indices.
func TestGetNumberOfFewBytes(t *testing.T) {
	codes := map[int64]int{}
	edges := []byte{0, 1, 2, 63, 64, 121, 122, 123, 127, 128, 129, 136, 137, 191, 192, 254, 255}
	for first := range 256 {
		codes[checkAnyGet(t, string([]byte{byte(first)}), 0)]++
		for second := range 256 {
			codes[checkAnyGet(t, string([]byte{byte(first), byte(second)}), 0)]++
			for _, third := range edges {
				codes[checkAnyGet(t, string([]byte{byte(first), byte(second), third}), 0)]++
			}
		}
	}
	for _, first := range edges {
		for _, second := range edges {
			for _, third := range edges {
				for _, fourth := range edges {
					s := string([]byte{first, second, third, fourth})
					for at := int64(-1); at <= 5; at++ {
						codes[checkAnyGet(t, s, at)]++
					}
				}
			}
		}
	}
	if len(codes) != 3 || min(codes[impl.OK], codes[impl.ErrFormat], codes[impl.ErrRange]) < 1000 {
		t.Errorf("the codes were %v", codes)
	}
}

// listOf is the list of runs, without any limit.
func listOf(runs []impl.Run) []int64 {
	var list []int64
	for _, run := range runs {
		for range run.Times {
			list = append(list, run.Value)
		}
	}
	return list
}

// runsFrom goes from the end of a list to its beginning.
func runsFrom(list []int64) []impl.Run {
	var runs []impl.Run
	for _, n := range slices.Backward(list) {
		if len(runs) > 0 && runs[len(runs)-1].Value == n {
			runs[len(runs)-1].Times++
			continue
		}
		runs = append(runs, impl.Run{Value: n, Times: 1})
	}
	slices.Reverse(runs)
	return runs
}

// expectChecksum is the sum of the bytes times powers of 31, and of the power of the 1 at the beginning.
func expectChecksum(s string) int64 {
	modulus := big.NewInt(65521)
	power := func(n int) *big.Int {
		return new(big.Int).Exp(big.NewInt(31), big.NewInt(int64(n)), modulus)
	}
	sum := power(len(s))
	for i := range len(s) {
		sum.Add(sum, new(big.Int).Mul(big.NewInt(int64(s[i])), power(len(s)-1-i)))
	}
	return sum.Mod(sum, modulus).Int64()
}

// withChecksum adds the right checksum to any bytes.
func withChecksum(body string) string {
	sum := expectChecksum(body)
	return body + string([]byte{byte(sum >> 8), byte(sum)})
}

// bodyOf has the bytes of a number of runs and of runs, which need not be right.
func bodyOf(count int64, runs ...impl.Run) string {
	body := bytesOf(count)
	for _, run := range runs {
		body += bytesOf(run.Value) + bytesOf(run.Times)
	}
	return body
}

// packedOf is what the chapter says of the packed form of a list of items.
func packedOf(list []int64) string {
	runs := runsFrom(list)
	return withChecksum(bodyOf(int64(len(runs)), runs...))
}

// checkList checks what the functions return for a list that can be packed, and that it is restored.
func checkList(t *testing.T, list []int64) string {
	t.Helper()
	s, one := impl.PackList(list)
	if want := packedOf(list); s != want || one != impl.OK {
		t.Fatalf("PackList of %d elements is %v, %d, want %v", len(list), []byte(s), one, []byte(want))
	}
	if got, code := impl.UnpackList(s); !slices.Equal(got, list) || code != impl.OK {
		t.Fatalf("UnpackList(%v) = %v, %d, want %v", []byte(s), got, code, list)
	}
	if size, code := impl.PackedSize(list); size != int64(len(s)) || code != impl.OK {
		t.Errorf("PackedSize of %d elements is %d, %d, want %d", len(list), size, code, len(s))
	}
	runs, two := impl.RunsOf(list)
	if !slices.Equal(runs, runsFrom(list)) || !slices.Equal(listOf(runs), list) || two != impl.OK {
		t.Fatalf("RunsOf(%v) = %v, %d", list, runs, two)
	}
	if got, code := impl.FromRuns(runs); !slices.Equal(got, list) || code != impl.OK {
		t.Fatalf("FromRuns(%v) = %v, %d", runs, got, code)
	}
	return s
}

// checkNoList checks that a list cannot be packed.
func checkNoList(t *testing.T, list []int64) {
	t.Helper()
	s, one := impl.PackList(list)
	size, two := impl.PackedSize(list)
	runs, three := impl.RunsOf(list)
	if s != "" || size != 0 || len(runs) > 0 || one != impl.ErrRange || two != impl.ErrRange || three != impl.ErrRange {
		t.Errorf("%d elements, %v: PackList returns %v, %d, PackedSize %d, %d, RunsOf %v, %d", len(list), list[:min(len(list), 5)], []byte(s), one, size, two, runs, three)
	}
}

// alternating has two values that follow one another.
func alternating(a, b int64, length int) []int64 {
	return slices.Repeat([]int64{a, b}, length/2+1)[:length]
}

// shortLists has lists that can be packed and have few bytes then.
func shortLists() [][]int64 {
	random := rand.New(rand.NewSource(1401))
	lists := [][]int64{
		nil, {}, {0, 0, 0}, {0, 0}, {5, 5, 3}, {5, 3, 5}, {3, 5, 5}, {1, 2, 3}, {-1, -1, 1, 1}, {0, -1, 0, -1, 0}, {1000000, -1000000}, {-1000000, -1000000, 1000000},
		slices.Repeat([]int64{7}, 63), slices.Repeat([]int64{7}, 64), slices.Repeat([]int64{-7}, 65), slices.Repeat([]int64{0}, 3999), slices.Repeat([]int64{0}, 4000), slices.Repeat([]int64{-1000000}, 4000),
		append(slices.Repeat([]int64{0}, 3999), 1), append([]int64{1}, slices.Repeat([]int64{0}, 3999)...), append(slices.Repeat([]int64{64}, 2000), slices.Repeat([]int64{-65}, 2000)...),
	}
	for _, n := range []int64{0, 1, -1, 2, 60, 63, 64, -64, -65, 100, 127, 128, 255, 256, 8191, 8192, -8192, -8193, 65520, 65521, 65536, 999999, 1000000, -999999, -1000000} {
		lists = append(lists, []int64{n}, []int64{n, n}, []int64{n, 0}, []int64{0, n, n})
	}
	for range 20 {
		var list []int64
		for range 1 + random.Intn(5) {
			list = append(list, slices.Repeat([]int64{random.Int63n(5) - 2}, 1+random.Intn(4))...)
		}
		lists = append(lists, list, []int64{random.Int63n(2000001) - 1000000, random.Int63n(20001) - 10000, random.Int63n(201) - 100})
	}
	return lists
}

// longLists has lists that can be packed, with many runs.
func longLists() [][]int64 {
	random := rand.New(rand.NewSource(1402))
	var lists [][]int64
	// 64 runs are the first ones whose number has two bytes.
	for _, length := range []int{10, 62, 63, 64, 65, 127, 128, 129, 500, 3999, 4000} {
		lists = append(lists,
			alternating(0, 1, length), alternating(-1, 0, length), alternating(1000000, -1000000, length),
			append(slices.Repeat([]int64{0}, length/2), alternating(3, 4, length-length/2)...),
		)
		few, many := make([]int64, length), make([]int64, length)
		for i := range length {
			few[i], many[i] = random.Int63n(3), random.Int63n(2000001)-1000000
		}
		lists = append(lists, few, many)
	}
	for range 300 {
		var list []int64
		for len(list) < 3900 && random.Intn(20) > 0 {
			n := random.Int63n(2000001) - 1000000
			if random.Intn(3) > 0 {
				n = random.Int63n(300) - 150
			}
			list = append(list, slices.Repeat([]int64{n}, 1+random.Intn(1+random.Intn(100)))...)
		}
		lists = append(lists, list)
	}
	return lists
}

// TestPackedLists is promise 14 for lists of all kinds.
func TestPackedLists(t *testing.T) {
	for _, list := range slices.Concat(shortLists(), longLists()) {
		checkList(t, list)
	}
}

func TestPackedListsByHand(t *testing.T) {
	for _, c := range []struct {
		list  []int64
		bytes string
	}{
		{nil, "\x00\x00\x1f"},
		{[]int64{0, 0, 0}, "\x02\x00\x06\x7b\xe7"},
		{[]int64{0}, "\x02\x00\x02\x7b\xe3"},
		{[]int64{1}, "\x02\x02\x02\x7c\x21"},
		{[]int64{-1, -1}, "\x02\x01\x04\x7c\x04"},
		{[]int64{100}, "\x02\xc8\x01\x02\xf0\x27"},
	} {
		if s, code := impl.PackList(c.list); s != c.bytes || code != impl.OK {
			t.Errorf("PackList(%v) = %v, %d, want %v", c.list, []byte(s), code, []byte(c.bytes))
		}
		if list, code := impl.UnpackList(c.bytes); !slices.Equal(list, c.list) || code != impl.OK {
			t.Errorf("UnpackList(%v) = %v, %d, want %v", []byte(c.bytes), list, code, c.list)
		}
		if size, code := impl.PackedSize(c.list); size != int64(len(c.bytes)) || code != impl.OK {
			t.Errorf("PackedSize(%v) = %d, %d", c.list, size, code)
		}
	}
	for _, c := range []struct {
		list []int64
		size int64
	}{
		{slices.Repeat([]int64{0}, 4000), 6}, {slices.Repeat([]int64{1000000}, 4000), 8}, {alternating(0, 1, 63), 129}, {alternating(0, 1, 64), 132},
		{alternating(0, 1, 4000), 8004}, {alternating(1000000, -1000000, 4000), 16004}, {alternating(64, -65, 4000), 12004},
	} {
		if size, code := impl.PackedSize(c.list); size != c.size || code != impl.OK {
			t.Errorf("PackedSize of %d elements is %d, %d, want %d", len(c.list), size, code, c.size)
		}
	}
}

func TestExamplesOfPackedLists(t *testing.T) {
	s, code := impl.PackList([]int64{0, 0, 0})
	if !slices.Equal([]byte(s), []byte{2, 0, 6, 123, 231}) || code != impl.OK {
		t.Errorf("the packed form of 0, 0, 0 is %v, %d", []byte(s), code)
	}
}

// TestChecksumsOfPackedLists has lists whose checksums have each byte as the higher one, and each as the lower one.
func TestChecksumsOfPackedLists(t *testing.T) {
	high, low := map[byte]bool{}, map[byte]bool{}
	for n := range int64(70000) {
		s := packedOf([]int64{n, -n})
		if a, b := s[len(s)-2], s[len(s)-1]; !high[a] || !low[b] {
			high[a], low[b] = true, true
			checkList(t, []int64{n, -n})
		}
	}
	if len(high) != 256 || len(low) != 256 {
		t.Errorf("there were %d high bytes and %d low ones", len(high), len(low))
	}
}

// unpackable has lists that cannot be packed, for one reason or both.
func unpackable() [][]int64 {
	lists := [][]int64{
		make([]int64, 4001), make([]int64, 4002), make([]int64, 8000), make([]int64, 65536), slices.Repeat([]int64{1000000}, 4001), alternating(0, 1, 4001),
		slices.Repeat([]int64{1000001}, 4001), append(make([]int64, 4000), math.MinInt64),
	}
	for _, n := range append([]int64{1000001, -1000001, 2000000, 1048576, 1<<32 + 5, -1 << 62}, extremes...) {
		if isItem(n) {
			continue
		}
		lists = append(lists, []int64{n}, []int64{n, 0}, []int64{0, n}, []int64{0, n, 0}, []int64{n, n}, slices.Repeat([]int64{n}, 4000))
		for _, at := range []int{0, 1, 2000, 3999} {
			list := make([]int64, 4000)
			list[at] = n
			lists = append(lists, list)
		}
	}
	return lists
}

func TestListsThatCannotBePacked(t *testing.T) {
	for _, list := range unpackable() {
		checkNoList(t, list)
	}
}

// expectList is what the chapter says of FromRuns.
func expectList(runs []impl.Run) ([]int64, int64) {
	total := new(big.Int)
	for _, run := range runs {
		if !isItem(run.Value) || run.Times < 1 || run.Times > 4000 {
			return nil, impl.ErrRange
		}
		total.Add(total, big.NewInt(run.Times))
	}
	if total.Cmp(big.NewInt(4000)) > 0 {
		return nil, impl.ErrFull
	}
	return listOf(runs), impl.OK
}

func checkFromRuns(t *testing.T, runs []impl.Run, code int64) {
	t.Helper()
	want, other := expectList(runs)
	if other != code {
		t.Fatalf("the code for %v is %d", runs, other)
	}
	if got, other := impl.FromRuns(runs); !slices.Equal(got, want) || other != code {
		t.Errorf("FromRuns(%v) has %d elements and the code %d, want %d, %d", runs[:min(len(runs), 5)], len(got), other, len(want), code)
	}
}

// runsOf has runs with these values and times by turns.
func runsOf(numbers ...int64) []impl.Run {
	var runs []impl.Run
	for i := 0; i < len(numbers); i += 2 {
		runs = append(runs, impl.Run{Value: numbers[i], Times: numbers[i+1]})
	}
	return runs
}

// runCases has runs with the code of FromRuns.
func runCases() map[int64][][]impl.Run {
	many := func(n int, last ...int64) []impl.Run {
		return append(slices.Repeat(runsOf(0, 1), n), runsOf(last...)...)
	}
	return map[int64][][]impl.Run{
		impl.OK: {
			nil, {}, runsOf(0, 1), runsOf(5, 2, 5, 1), runsOf(5, 2, 5, 2, 3, 1, 5, 1, 5, 1), runsOf(0, 4000), runsOf(0, 3999), runsOf(1000000, 4000), runsOf(-1000000, 4000),
			runsOf(0, 3999, 1, 1), runsOf(0, 1, 0, 3999), runsOf(0, 2000, 1, 2000), runsOf(1000000, 1, -1000000, 1, 0, 1), many(4000), many(3999, 0, 1), many(3999), many(1, 0, 3999),
		},
		impl.ErrRange: {
			runsOf(0, 0), runsOf(0, -1), runsOf(0, 4001), runsOf(0, 4002), runsOf(1000001, 1), runsOf(-1000001, 1), runsOf(0, math.MaxInt64), runsOf(0, math.MinInt64), runsOf(math.MaxInt64, 1), runsOf(math.MinInt64, 1),
			runsOf(1000001, 0), runsOf(math.MinInt64, math.MaxInt64), runsOf(0, 1<<32+1), runsOf(1<<32, 1), runsOf(0, -4000), runsOf(0, 1000001),
			runsOf(0, 1, 0, 0), runsOf(0, 0, 0, 1), runsOf(0, 1, 1, 4001), runsOf(1, 4001, 0, 1), runsOf(0, 1, 1000001, 1), runsOf(-1000001, 1, 0, 1),
			// The sums of these are 0, 3 and 2 in 64 bits.
			runsOf(0, math.MinInt64, 0, math.MinInt64), runsOf(0, -1, 0, 4), runsOf(0, math.MaxInt64, 0, math.MaxInt64, 0, 4), runsOf(0, 4001, 0, -1),
			// There are too many elements before the run that is not allowed, too.
			runsOf(0, 4000, 0, 1, 0, 0), runsOf(0, 4000, 0, 4000, 1000001, 1), runsOf(0, 4000, 1, 4001), runsOf(0, 4001, 0, 4000), many(4001, 0, -1), many(4000, -1000001, 1), many(5000, 0, 4001), many(4000, 0, 0),
		},
		impl.ErrFull: {
			runsOf(0, 4000, 1, 1), runsOf(0, 4000, 0, 1), runsOf(1, 1, 0, 4000), runsOf(0, 3999, 1, 2), runsOf(0, 2000, 1, 2001), runsOf(0, 2000, 1, 2000, 2, 1), runsOf(0, 4000, 0, 4000), many(4001), many(4000, 0, 1),
			many(1, 0, 4000), many(5000), slices.Repeat(runsOf(-1000000, 4000), 5000), slices.Repeat(runsOf(3, 400), 11),
		},
	}
}

func TestFromRuns(t *testing.T) {
	for code, cases := range runCases() {
		for _, runs := range cases {
			checkFromRuns(t, runs, code)
		}
	}
	for _, n := range append([]int64{0, -1, 4001, 4002, 1000000, 1 << 32}, extremes...) {
		if n < 1 || n > 4000 {
			checkFromRuns(t, runsOf(0, n), impl.ErrRange)
			checkFromRuns(t, runsOf(0, 1, 1, n, 2, 1), impl.ErrRange)
		}
		if !isItem(n) {
			checkFromRuns(t, runsOf(n, 1), impl.ErrRange)
			checkFromRuns(t, runsOf(0, 1, n, 1, 2, 1), impl.ErrRange)
		}
	}
}

// TestFromRunsAtRandom has runs at the limits, also with equal values one after the other.
func TestFromRunsAtRandom(t *testing.T) {
	random := rand.New(rand.NewSource(1403))
	codes := map[int64]int{}
	for range 4000 {
		runs := make([]impl.Run, random.Intn(9))
		for i := range runs {
			runs[i] = impl.Run{Value: random.Int63n(3), Times: 1 + random.Int63n(1000)}
		}
		if len(runs) > 0 && random.Intn(3) == 0 {
			total := int64(len(listOf(runs)))
			if last := &runs[len(runs)-1]; total-last.Times < 4000 {
				last.Times += 4000 - total + random.Int63n(3) - 1
			}
		}
		if len(runs) > 0 && random.Intn(4) == 0 {
			runs[random.Intn(len(runs))].Value = (1000000 + random.Int63n(3) - 1) * (1 - 2*random.Int63n(2))
		}
		_, code := expectList(runs)
		codes[code]++
		checkFromRuns(t, runs, code)
	}
	if len(codes) != 3 || min(codes[impl.OK], codes[impl.ErrRange], codes[impl.ErrFull]) < 200 {
		t.Errorf("the codes were %v", codes)
	}
}

// expectUnpacked is what the chapter says of UnpackList.
func expectUnpacked(s string) ([]int64, int64) {
	if len(s) < 3 || withChecksum(s[:len(s)-2]) != s {
		return nil, impl.ErrFormat
	}
	body := s[:len(s)-2]
	count, at, code := expectNumber(body, 0)
	var runs []impl.Run
	for code == impl.OK && at < int64(len(body)) {
		var run impl.Run
		if run.Value, at, code = expectNumber(body, at); code == impl.OK {
			run.Times, at, code = expectNumber(body, at)
		}
		if len(runs) > 0 && runs[len(runs)-1].Value == run.Value {
			return nil, impl.ErrFormat
		}
		runs = append(runs, run)
	}
	list, full := expectList(runs)
	if code != impl.OK || full != impl.OK || count != int64(len(runs)) {
		return nil, impl.ErrFormat
	}
	return list, impl.OK
}

// checkUnpacked compares with what the chapter says, and returns the code.
func checkUnpacked(t *testing.T, s string) int64 {
	t.Helper()
	want, code := expectUnpacked(s)
	if got, other := impl.UnpackList(s); !slices.Equal(got, want) || other != code {
		t.Fatalf("UnpackList(%v) has %d elements and the code %d, want %d, %d", []byte(s), len(got), other, len(want), code)
	}
	return code
}

// checkNotPacked checks that there is no list with this packed form.
func checkNotPacked(t *testing.T, s string) {
	t.Helper()
	if list, code := impl.UnpackList(s); len(list) > 0 || code != impl.ErrFormat {
		t.Errorf("UnpackList(%v) has %d elements and the code %d", []byte(s), len(list), code)
	}
}

// TestFewBytesUnpacked has all texts of up to two bytes, and those of three bytes with a right checksum.
func TestFewBytesUnpacked(t *testing.T) {
	checkNotPacked(t, "")
	for first := range 256 {
		checkNotPacked(t, string([]byte{byte(first)}))
		for second := range 256 {
			checkNotPacked(t, string([]byte{byte(first), byte(second)}))
		}
		// Only the list without elements has one byte for its number of runs, and no runs.
		if s := withChecksum(string([]byte{byte(first)})); first > 0 {
			checkNotPacked(t, s)
		} else if list, code := impl.UnpackList(s); len(list) > 0 || code != impl.OK {
			t.Errorf("UnpackList(%v) = %v, %d", []byte(s), list, code)
		}
	}
	// Two bytes can have the right checksum of the empty text, which is 1, and of no more.
	checkNotPacked(t, "\x00\x01")
	checkNotPacked(t, "abc")
	checkNotPacked(t, "\x00\x00\x00")
	checkNotPacked(t, "\x00\x1f\x00")
	checkNotPacked(t, strings.Repeat("\x00", 5000))
	checkNotPacked(t, strings.Repeat("\xff", 5000))
}

// TestOneChangedByte is the second part of promise 14.
func TestOneChangedByte(t *testing.T) {
	for _, list := range shortLists() {
		s := []byte(packedOf(list))
		for at, old := range s {
			for b := range 256 {
				if s[at] = byte(b); s[at] != old {
					checkNotPacked(t, string(s))
				}
			}
			s[at] = old
		}
	}
	random := rand.New(rand.NewSource(1404))
	for _, list := range longLists() {
		s := []byte(packedOf(list))
		for range 20 {
			at := random.Intn(len(s))
			old := s[at]
			s[at] += byte(1 + random.Intn(255))
			checkNotPacked(t, string(s))
			s[at] = old
		}
	}
}

// TestMissingAndAdditionalBytes leaves out parts of packed forms, or adds bytes; the checksum is that of before, or right.
func TestMissingAndAdditionalBytes(t *testing.T) {
	codes := map[int64]int{}
	for _, list := range shortLists() {
		s := packedOf(list)
		for at := range len(s) + 1 {
			for _, more := range []string{"\x00", "\x02", "\x7f", "\x80", "\xff", "\x00\x02", "\x02\x02", "\x00\x1f", s} {
				codes[checkUnpacked(t, s[:at]+more+s[at:])]++
				codes[checkUnpacked(t, withChecksum(s[:at]+more+s[at:]))]++
				if at <= len(s)-2 {
					codes[checkUnpacked(t, withChecksum(s[:at]+more+s[at:len(s)-2]))]++
				}
			}
			if at == len(s) {
				continue
			}
			checkNotPacked(t, s[:at])
			checkNotPacked(t, s[at+1:])
			checkNotPacked(t, s[:at]+s[at+1:])
			codes[checkUnpacked(t, withChecksum(s[:at]))]++
			codes[checkUnpacked(t, withChecksum(s[at+1:]))]++
			if at < len(s)-2 {
				codes[checkUnpacked(t, withChecksum(s[:at]+s[at+1:len(s)-2]))]++
			}
		}
	}
	// With a right checksum there is a packed form now and then, for example that of another value.
	if len(codes) != 2 || min(codes[impl.OK], codes[impl.ErrFormat]) < 100 {
		t.Errorf("the codes were %v", codes)
	}
}

func TestWrongBytesWithRightChecksums(t *testing.T) {
	two := runsOf(5, 2, 3, 1)
	checkUnpackedByHand := func(code int64, bodies ...string) {
		t.Helper()
		for _, body := range bodies {
			if got := checkUnpacked(t, withChecksum(body)); got != code {
				t.Errorf("the code for %v is %d", []byte(body), got)
			}
		}
	}
	checkUnpackedByHand(impl.OK, bodyOf(0), bodyOf(2, two...), bodyOf(1, runsOf(0, 4000)...), bodyOf(2, runsOf(0, 3999, 1, 1)...), bodyOf(1, runsOf(-1000000, 1)...))
	// Too few runs are said, too many or a negative number; or a number that is no item, or is not in its shortest form.
	checkUnpackedByHand(impl.ErrFormat,
		bodyOf(0, two...), bodyOf(1, two...), bodyOf(3, two...), bodyOf(64, two...), bodyOf(4000, two...), bodyOf(4001, two...), bodyOf(1000000, two...), bodyOf(-1, two...), bodyOf(-2, two...), bodyOf(-1000000, two...),
		bodyOf(1), bodyOf(2), bodyOf(-1), bodyOf(-2), bodyOf(1000000), bodyOf(-1000000), bodyOf(1000001), bodyOf(-1000001), bodyOf(1<<32), bodyOf(1<<32, two...), bodyOf(math.MaxInt64), bodyOf(math.MinInt64),
		"\x80\x00", "\x80\x80\x00", "\x84\x00"+bodyOf(2, two...)[1:], "\x84\x80\x00"+bodyOf(2, two...)[1:], "", "\x80", "\xff",
	)
	// Runs have equal values one after the other, or Times that are not allowed, or are no items.
	checkUnpackedByHand(impl.ErrFormat,
		bodyOf(2, runsOf(5, 2, 5, 1)...), bodyOf(2, runsOf(0, 1, 0, 1)...), bodyOf(3, runsOf(1, 1, 5, 2, 5, 2)...), bodyOf(3, runsOf(5, 2, 5, 2, 1, 1)...), bodyOf(2, runsOf(0, 2000, 0, 2000)...),
		bodyOf(1, runsOf(0, 0)...), bodyOf(1, runsOf(0, -1)...), bodyOf(1, runsOf(0, 4001)...), bodyOf(1, runsOf(0, 4002)...), bodyOf(1, runsOf(0, 1000000)...), bodyOf(1, runsOf(0, -1000000)...), bodyOf(1, runsOf(0, -4000)...),
		bodyOf(2, runsOf(0, 1, 1, 0)...), bodyOf(2, runsOf(0, 0, 1, 1)...), bodyOf(2, runsOf(0, 1, 1, -1)...), bodyOf(2, runsOf(0, 4001, 1, -1)...), bodyOf(2, runsOf(0, -1, 1, 2)...), bodyOf(3, runsOf(0, 1, 1, 0, 0, 1)...),
		bodyOf(1, runsOf(1000001, 1)...), bodyOf(1, runsOf(-1000001, 1)...), bodyOf(1, runsOf(0, 1000001)...), bodyOf(1, runsOf(1<<32, 1)...), bodyOf(1, runsOf(0, 1<<32+1)...),
		bodyOf(1, runsOf(math.MaxInt64, 1)...), bodyOf(1, runsOf(0, math.MaxInt64)...), bodyOf(1, runsOf(0, math.MinInt64)...),
	)
	// There are too many elements together.
	checkUnpackedByHand(impl.ErrFormat,
		bodyOf(2, runsOf(0, 4000, 1, 1)...), bodyOf(2, runsOf(1, 1, 0, 4000)...), bodyOf(2, runsOf(0, 2001, 1, 2000)...), bodyOf(2, runsOf(0, 4000, 1, 4000)...), bodyOf(3, runsOf(0, 3999, 1, 1, 2, 1)...),
		bodyOf(4001, runsFrom(alternating(0, 1, 4001))...), bodyOf(5000, runsFrom(alternating(0, 1, 5000))...),
	)
	checkUnpackedByHand(impl.OK, bodyOf(4000, runsFrom(alternating(0, 1, 4000))...))
	// There are bytes between the last run and the checksum.
	for _, more := range []string{"\x00", "\x01", "\x02", "\x80", "\xff", "\x00\x00", "\x02\x02", "\x00\x1f", "\x04\x02\x04", "\x00\x00\x00\x00", strings.Repeat("\x00", 300)} {
		checkUnpackedByHand(impl.ErrFormat, bodyOf(0)+more, bodyOf(2, two...)+more, bodyOf(1, runsOf(0, 3)...)+more)
	}
	// The values or the times are not in their shortest form, or end too early.
	checkUnpackedByHand(impl.ErrFormat,
		"\x02\x80\x00\x06", "\x02\x00\x86\x00", "\x02\x80\x80\x00\x06", "\x02\x00\x86\x80\x00", "\x82\x00\x00\x06", "\x82\x80\x00\x00\x06", "\x82\x00\x80\x00\x86\x00", "\x02\xc8\x81\x00\x02", "\x02\x00\xc0\xbe\x00",
		"\x02", "\x02\x00", "\x02\x80", "\x02\x00\x80", "\x02\x00\xff", "\x02\xff\xff\xff", "\x04\x00\x02", "\x04\x00\x02\x02", "\x04\x00\x02\x02\x80",
	)
}

// TestWrongChecksums has the right bytes before a checksum that is not right.
func TestWrongChecksums(t *testing.T) {
	for _, list := range shortLists()[:40] {
		s := packedOf(list)
		body, sum := s[:len(s)-2], expectChecksum(s[:len(s)-2])
		for _, other := range []int64{0, 1, 31, 255, 256, 65520, 65521, 65535, sum - 1, sum + 1, sum + 256, sum - 256, sum + 65521, 65535 - sum, sum>>8 | sum&255<<8} {
			if other&65535 != sum {
				checkNotPacked(t, body+string([]byte{byte(other >> 8), byte(other)}))
			}
		}
		checkNotPacked(t, body)
		checkNotPacked(t, body+"\x00"+s[len(body):])
		checkNotPacked(t, s+s[len(body):])
	}
	// The checksum of the bytes of the list without elements is 31, which is a number of two bytes here.
	checkNotPacked(t, "\x00\x1f")
	checkNotPacked(t, "\x00\x1f\x00")
	checkNotPacked(t, "\x00\x00\x00\x1f")
}

// TestUnpackedAtRandom changes the bytes before the checksum, and makes it right.
func TestUnpackedAtRandom(t *testing.T) {
	random := rand.New(rand.NewSource(1405))
	codes := map[int64]int{}
	few := []int64{-1, 0, 1, 2, 3, 63, 64, 1999, 2000, 2001, 3999, 4000, 4001, 1000000, 1000001}
	for range 20000 {
		runs := make([]impl.Run, random.Intn(4))
		for i := range runs {
			runs[i] = impl.Run{Value: random.Int63n(3), Times: 1 + random.Int63n(3)}
			if random.Intn(4) == 0 {
				runs[i].Times = few[random.Intn(len(few))]
			}
		}
		body := []byte(bodyOf(int64(len(runs)), runs...))
		for range random.Intn(3) {
			body[random.Intn(len(body))] = byte(random.Intn(256))
		}
		codes[checkUnpacked(t, withChecksum(string(body)))]++
		noise := make([]byte, random.Intn(7))
		for i := range noise {
			noise[i] = byte(random.Intn(5))
		}
		codes[checkUnpacked(t, withChecksum(string(noise)))]++
	}
	if len(codes) != 2 || min(codes[impl.OK], codes[impl.ErrFormat]) < 1000 {
		t.Errorf("the codes were %v", codes)
	}
}

func checkChecksum(t *testing.T, s string, want int64) {
	t.Helper()
	if got := impl.ChecksumOf(s); got != want || expectChecksum(s) != want {
		t.Errorf("ChecksumOf(%v) = %d, want %d or %d", []byte(s), got, want, expectChecksum(s))
	}
}

func TestChecksums(t *testing.T) {
	for s, want := range map[string]int64{
		"": 1, "\x00": 31, "\x01": 32, "\xff": 286, "a": 128, "\x00\x00": 961, "\x00\xff": 1216, "\xff\x00": 8866, "\xff\xff": 9121, "\x02\x00\x06": 31719,
		"\x00\x00\x00": 29791, "\x00\x00\x00\x00": 6227, "\xff\xff\xff": 20922, "abc": 29791 + 31*31*97 + 31*98 + 99 - 65521, "\x02\xc8\x01\x02": 61479, "é": 7175,
	} {
		checkChecksum(t, s, want)
	}
	random := rand.New(rand.NewSource(1406))
	for length := range 200 {
		bytes := make([]byte, length)
		random.Read(bytes)
		for _, s := range []string{string(bytes), strings.Repeat("\x00", length), strings.Repeat("\xff", length), strings.Repeat("\x00\xff", length)} {
			checkChecksum(t, s, expectChecksum(s))
		}
	}
	for _, s := range []string{strings.Repeat("\xff", 70000), strings.Repeat("\x00", 70000), strings.Repeat("sow ", 20000)} {
		sum := impl.ChecksumOf(s[:len(s)/2])
		for i := len(s) / 2; i < len(s); i++ {
			sum = (31*sum + int64(s[i])) % 65521
		}
		checkChecksum(t, s, sum)
	}
}

// TestEndsOfChecksums has texts of three bytes with the least and the greatest checksums, after they have been reduced once or more often.
func TestEndsOfChecksums(t *testing.T) {
	for _, sum := range []int64{0, 1, 2, 30, 31, 255, 256, 257, 32767, 32768, 65279, 65280, 65519, 65520} {
		for _, all := range []int64{sum + 65521, sum + 2*65521, sum + 3*65521} {
			// All is the checksum of these bytes before it is reduced.
			s := string([]byte{byte(all/961 - 31), byte(all % 961 / 31), byte(all % 31)})
			checkChecksum(t, s, sum)
		}
	}
}

// spaciousRuns has runs with unused capacity, and tells whether all of it is as before.
func spaciousRuns(runs []impl.Run) ([]impl.Run, func() bool) {
	list := append(slices.Clone(runs), slices.Repeat(runsOf(-7, -7), 4)...)
	old := slices.Clone(list)
	return list[:len(runs)], func() bool { return slices.Equal(list, old) }
}

func TestPackedListsLeaveTheirArguments(t *testing.T) {
	lists := slices.Concat(shortLists(), unpackable(), longLists()[:20])
	var all [][]impl.Run
	for _, cases := range runCases() {
		all = append(all, cases...)
	}
	for i, list := range lists {
		p, unchanged := spacious(impl.Position{Pits: list})
		runs, same := spaciousRuns(all[i%len(all)])
		resultsOfPacking(p.Pits, runs, "\x02\x00\x06\x7b\xe7", 5, 0)
		if !unchanged() || !same() {
			t.Fatalf("%v or %v was changed", list, runs)
		}
	}
}

func TestPackedListsAreNewMemory(t *testing.T) {
	for _, list := range slices.Concat(shortLists(), longLists()[:20]) {
		p, unchanged := spacious(impl.Position{Pits: list})
		runs, same := spaciousRuns(runsFrom(list))
		s := packedOf(list)
		checkNewPositions(t, list, func() bool { return unchanged() && same() }, map[string]func() impl.Position{
			"FromRuns":   func() impl.Position { l, _ := impl.FromRuns(runs); return impl.Position{Pits: l} },
			"UnpackList": func() impl.Position { l, _ := impl.UnpackList(s); return impl.Position{Pits: l} },
		})
		first, _ := impl.RunsOf(p.Pits)
		second, _ := impl.RunsOf(p.Pits)
		clear(first[:cap(first)])
		third, _ := impl.RunsOf(p.Pits)
		if !slices.Equal(second, runs) || !slices.Equal(third, runs) || !unchanged() {
			t.Fatalf("RunsOf(%v) shares memory: %v and %v", list, second, third)
		}
	}
}
