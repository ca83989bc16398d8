package tests

import (
	"fmt"
	"strconv"
	"strings"
	"testing"

	"loop.example/g01223/impl"
)

func TestUnpackMap(t *testing.T) {
	m, ok := impl.UnpackMap("\x02\x02\x01\x00", 3, 1)
	wantMap(t, "UnpackMap of the example", m, ok, mapOf(3, 1, 1, -1))
	m, ok = impl.UnpackMap("\x02\x01\x02\x01", 2, 2)
	wantMap(t, "UnpackMap of zeros", m, ok, mapAt(2, 0, 0, 0, 0))
	m, ok = impl.UnpackMap("\x18\x05", 24, 1)
	wantMap(t, "UnpackMap of a whole row", m, ok, mapOf(24, 4, 4, 4, 4, 4, 4, 4, 4, 4, 4, 4, 4, 4, 4, 4, 4, 4, 4, 4, 4, 4, 4, 4, 4))
}

// wantNoRuns checks that no map of a size is packed so.
func wantNoRuns(t *testing.T, s string, wide, high int64) {
	t.Helper()
	m, ok := impl.UnpackMap(s, wide, high)
	wantNoMap(t, fmt.Sprint("UnpackMap of ", strconv.Quote(s), ", ", wide, " wide and ", high, " high"), m, ok)
}

func TestUnpackMapThatDoesNotExist(t *testing.T) {
	for _, c := range []struct {
		s          string
		wide, high int64
	}{
		// Runs that are told in two where one would do.
		{"\x01\x02\x01\x02", 2, 1}, {"\x01\x02\x02\x02", 3, 1}, {"\x02\x02\x01\x02", 3, 1}, {"\x01\x00\x01\x00", 2, 1},
		{"\x02\x02\x01\x02\x01\x02", 2, 2}, {"\x01\x02\x01\x02\x02\x02", 2, 2}, {"\x01\x01\x01\x01\x01\x01", 3, 1},
		// Runs that go beyond a row.
		{"\x04\x02", 2, 2}, {"\x02\x02", 1, 2}, {"\x01\x01\x02\x02\x01\x03", 2, 2}, {"\x03\x01\x01\x02", 2, 2}, {"\x30\x01", 24, 2},
		// Runs that go beyond the map.
		{"\x02\x02", 1, 1}, {"\x03\x02", 2, 1}, {"\xff\x02", 16, 1}, {"\x02\x02\x01\x03", 2, 1}, {"\x01\x02\x01\x03\x01\x04", 2, 1}, {"\xff\x01", 1, 1},
		// Runs of no values.
		{"\x00\x02", 1, 1}, {"\x00\x00", 1, 1}, {"\x01\x02\x00\x03", 1, 1}, {"\x00\x02\x01\x02", 1, 1}, {"\x01\x02\x00\x03\x01\x02", 2, 1},
		{"\x02\x02\x00\x02", 2, 1}, {"\x02\x02\x00\x00", 2, 1}, {"\x00\x01\x02\x02", 2, 1},
		// Runs that are cut.
		{"", 1, 1}, {"\x01", 1, 1}, {"\x02\x02", 3, 1}, {"\x02\x02\x01", 3, 1}, {"\x02\x02\x01\x00\x01", 3, 1}, {"\x01\x02\x01", 1, 1},
		{"\x02\x02\x01\x00", 4, 1}, {"\x02\x02\x01\x00", 3, 2}, {"\x02\x02", 2, 2}, {"\x01\x02\x02", 1, 1},
		// Runs of another size.
		{"\x02\x02\x01\x00", 1, 3}, {"\x02\x02\x01\x00", 2, 1}, {"\x02\x02\x01\x00", 4, 1}, {"\x02\x02\x01\x00", 2, 2},
	} {
		wantNoRuns(t, c.s, c.wide, c.high)
	}
	for _, size := range noSizes {
		wantNoRuns(t, "", size[0], size[1])
		wantNoRuns(t, "\x01\x01", size[0], size[1])
		wantNoRuns(t, "\x10\x01\x10\x01", size[0], size[1])
		wantNoRuns(t, strings.Repeat("\x10\x01", 17), size[0], size[1])
		wantNoRuns(t, strings.Repeat("\x01\x01", int(min(max(size[0]*size[1], 0), 300))), size[0], size[1])
	}
	wantNoRuns(t, strings.Repeat("\x00\x01", 1<<16), 2, 2)
	wantNoRuns(t, strings.Repeat("\xff\xff", 1<<16), 24, 10)
}

// All texts of two runs: there is one for each map, and none for anything else.
func TestUnpackMapOfAllShortTexts(t *testing.T) {
	for _, size := range [][2]int64{{1, 1}, {2, 1}, {1, 2}, {3, 1}, {2, 2}} {
		maps := map[string]impl.Map{}
		values := []float32{-1, 0, 1, 254}
		rowsOf(size[0]*size[1], int64(len(values)), func(choice []int64) {
			m := impl.Map{Wide: size[0], High: size[1]}
			for _, k := range choice {
				m.Values = append(m.Values, values[k])
			}
			maps[runsOf(m)] = m
		})
		found := 0
		for _, s := range shortRuns() {
			m, ok := impl.UnpackMap(s, size[0], size[1])
			wanted, is := maps[s]
			want(t, fmt.Sprint("UnpackMap of ", strconv.Quote(s), " and ", size), textOfResult(m, ok), textOfResult(wanted, is))
			if is {
				found++
			}
		}
		short := 0
		for s := range maps {
			if len(s) <= 4 {
				short++
			}
		}
		want(t, "maps that were found", found, short)
	}
}

// shortRuns returns all texts of at most two runs of at most four of four values.
func shortRuns() []string {
	var ones []string
	for run := range byte(5) {
		for _, value := range []byte{0, 1, 2, 255} {
			ones = append(ones, string([]byte{run, value}))
		}
	}
	list := append([]string{""}, ones...)
	for _, a := range ones {
		for _, b := range ones {
			list = append(list, a+b)
		}
	}
	return list
}

// A packed map in which a byte is another one, or that is cut or longer, is
// another map or none.
func TestPackedMapsThatAreChanged(t *testing.T) {
	for i, size := range [][2]int64{{3, 1}, {1, 3}, {4, 3}, {24, 2}, {5, 5}} {
		m := packable(1, size[0], size[1], i)
		s, ok := impl.PackMap(m)
		want(t, "PackMap succeeds", ok, true)
		for cut := range len(s) {
			wantNoRuns(t, s[:cut], size[0], size[1])
			wantNoRuns(t, s[cut+1:], size[0], size[1])
		}
		wantNoRuns(t, s+"\x00", size[0], size[1])
		wantNoRuns(t, s+"\x00\x00", size[0], size[1])
		wantNoRuns(t, s+s[len(s)-2:], size[0], size[1])
		for k := range len(s) {
			for other := range 256 {
				if byte(other) == s[k] {
					continue
				}
				changed := s[:k] + string([]byte{byte(other)}) + s[k+1:]
				n, ok := impl.UnpackMap(changed, size[0], size[1])
				if !ok {
					wantNoRuns(t, changed, size[0], size[1])
					continue
				}
				want(t, "changed byte is that of a value", k%2, 1)
				want(t, "runs of what is unpacked", runsOf(n), changed)
				want(t, "map is another one", impl.SameMap(m, n), false)
			}
		}
	}
}
