package tests

import (
	"bytes"
	"math"
	"reflect"
	"slices"
	"strings"
	"testing"

	"loop.example/g00639/impl"
)

const headSize = 6

// row is a line of a table as it stands in the bytes, whatever it tells.
type row struct {
	name       string
	begin, len int
}

// raw lays a head and a table whose count is that of rows, and body behind it.
func raw(class byte, rows []row, body ...byte) []byte {
	data := append([]byte("prof"), class, byte(len(rows)))
	for _, r := range rows {
		data = append(data, r.name...)
		data = append(data, byte(r.begin>>8), byte(r.begin), byte(r.len>>8), byte(r.len))
	}
	return append(data, body...)
}

// run answers n bytes, each one more than the one ahead, so that no two neighbours are like.
func run(n int, first byte) []byte {
	list := make([]byte, n)
	for i := range list {
		list[i] = first + byte(i)
	}
	return list
}

func tag(name string, n int) impl.Tag {
	return impl.Tag{Name: name, Bytes: run(n, name[len(name)-1])}
}

func profile(class int64, tags ...impl.Tag) impl.Profile {
	return impl.Profile{Class: class, Tags: tags}
}

// names answers n names that differ in their first byte or in their last one.
func names(n int) []string {
	var list []string
	for i := range n {
		list = append(list, string([]byte{'a' + byte(i/2), 'm', 'z', 'z' - byte(i%2)}))
	}
	return list
}

func manyTags(n int, size int) impl.Profile {
	p := impl.Profile{Class: 3}
	for i, name := range names(n) {
		p.Tags = append(p.Tags, impl.Tag{Name: name, Bytes: run(size, byte(i*17))})
	}
	return p
}

func cloneProfile(p impl.Profile) impl.Profile {
	q := impl.Profile{Class: p.Class}
	for _, t := range p.Tags {
		q.Tags = append(q.Tags, impl.Tag{Name: strings.Clone(t.Name), Bytes: bytes.Clone(t.Bytes)})
	}
	return q
}

// alike compares field by field without SameProfiles, which is tested itself; nil and empty are the same.
func alike(a impl.Profile, b impl.Profile) bool {
	if a.Class != b.Class || len(a.Tags) != len(b.Tags) {
		return false
	}
	for i := range a.Tags {
		if a.Tags[i].Name != b.Tags[i].Name || string(a.Tags[i].Bytes) != string(b.Tags[i].Bytes) {
			return false
		}
	}
	return true
}

// profiles are without a fault: none, one and the most tags, each rest by 4, the fewest and the most bytes.
func profiles() []impl.Profile {
	list := []impl.Profile{profile(1), profile(2), profile(3), {Class: 1, Tags: []impl.Tag{}}}
	for _, n := range []int{1, 2, 3, 4, 5, 7, 8, 95, 96} {
		list = append(list, profile(1, tag("desc", n)), profile(2, tag("aaaa", n), tag("zzzz", 97-n)))
		list = append(list, profile(3, tag("rtrc", 1), tag("gtrc", n), tag("btrc", 2)))
	}
	for n := 1; n <= impl.MaxTags; n++ {
		list = append(list, manyTags(n, 1), manyTags(n, 7), manyTags(n, impl.MaxTag))
	}
	sizes := spread(40*impl.MaxTags, 1, impl.MaxTag)
	for i := range 40 {
		p := manyTags(i%(impl.MaxTags+1), 1)
		p.Class = int64(i%3 + 1)
		for j := range p.Tags {
			p.Tags[j].Bytes = run(int(sizes[i*impl.MaxTags+j]), byte(i+j))
		}
		list = append(list, p)
	}
	return list
}

// noNames are texts that are no name of a tag.
func noNames() []string {
	return []string{
		"", "a", "abc", "abcde", "abcdabcd", "Abcd", "aBcd", "abCd", "abcD", "`bcd", "abc`", "{bcd", "abc{",
		"ab1d", "ab d", " abc", "abc ", "ab\nd", "ab\x00d", "abc\x00", "\x00\x00\x00\x00", "\xff\xff\xff\xff",
		"ab\u00e9", "abc\u00e9", "\u00e9\u00e9", "abc\xe1", strings.Repeat("a", 70000),
	}
}

type faultCase struct {
	what string
	p    impl.Profile
	code int64
}

func checkFaults(t *testing.T, cases []faultCase) {
	t.Helper()
	for _, c := range cases {
		if got := impl.ProfileFault(c.p); got != c.code {
			t.Errorf("%q: ProfileFault is %d, want %d", c.what, got, c.code)
		}
		if got := impl.EncodeProfile(c.p); got.Code != c.code || c.code != impl.OK && len(got.Bytes) != 0 {
			t.Errorf("%q: EncodeProfile is %+v, want code %d", c.what, got, c.code)
		}
		want := c.code
		if want == impl.OK {
			want = impl.ErrNone
		}
		if got := impl.FindTag(c.p, "none"); got.Code != want || len(got.Bytes) != 0 {
			t.Errorf("%q: FindTag is %+v, want code %d alone", c.what, got, want)
		}
	}
}

func TestTagConstants(t *testing.T) {
	sizes := []int64{impl.MaxTags, impl.MaxTag, impl.MaxProfile}
	if !slices.Equal(sizes, []int64{8, 96, 900}) {
		t.Errorf("MaxTags, MaxTag, MaxProfile are %v", sizes)
	}
}

func TestProfileFaultOfClass(t *testing.T) {
	for _, class := range append(edges(), 4, -4, 256+1, 1<<32+1, math.MinInt64+1) {
		code := int64(impl.ErrRange)
		if within(class, 1, 3) {
			code = impl.OK
		}
		checkFaults(t, []faultCase{
			{"class alone", profile(class), code},
			{"class and a tag", profile(class, tag("desc", 3)), code},
		})
	}
}

func TestProfileFaultOfTags(t *testing.T) {
	for _, p := range profiles() {
		checkFaults(t, []faultCase{{"no fault", p, impl.OK}})
	}
	cases := []faultCase{
		{"eight tags", manyTags(8, 96), impl.OK},
		{"nine tags", manyTags(9, 1), impl.ErrMany},
		{"all tags there are names for", manyTags(50, 1), impl.ErrMany},
		{"no bytes", profile(1, impl.Tag{Name: "desc"}), impl.ErrMany},
		{"empty bytes", profile(1, impl.Tag{Name: "desc", Bytes: []byte{}}), impl.ErrMany},
		{"96 bytes", profile(1, tag("desc", 96)), impl.OK},
		{"97 bytes", profile(1, tag("desc", 97)), impl.ErrMany},
		{"very many bytes", profile(1, tag("desc", 70000)), impl.ErrMany},
		{"one name twice", profile(1, tag("desc", 1), tag("desc", 1)), impl.ErrForm},
		{"one name twice, not side by side", profile(1, tag("desc", 1), tag("clut", 2), tag("desc", 3)), impl.ErrForm},
		{"a name and that name turned round", profile(1, tag("abcd", 1), tag("dcba", 1)), impl.OK},
	}
	for _, name := range noNames() {
		cases = append(cases,
			faultCase{"alone: " + name[:min(len(name), 9)], profile(1, impl.Tag{Name: name, Bytes: []byte{1}}), impl.ErrText},
			faultCase{"last: " + name[:min(len(name), 9)], profile(1, tag("desc", 1), impl.Tag{Name: name, Bytes: []byte{1}}), impl.ErrText})
	}
	checkFaults(t, cases)
}

// Rule 6: each code is asked ahead of the next one, and the tags one by one.
func TestProfileFaultOrder(t *testing.T) {
	none := impl.Tag{Name: "Desc", Bytes: []byte{1}}
	empty := impl.Tag{Name: "clut"}
	both := impl.Tag{Name: "Desc"}
	ok, again := tag("desc", 1), tag("desc", 2)
	emptyAgain := impl.Tag{Name: "desc"}
	nine := manyTags(9, 1)
	nine.Tags[0] = both
	nineOfNoClass := manyTags(9, 1)
	nineOfNoClass.Class = 4
	checkFaults(t, []faultCase{
		{"the class ahead of how many", nineOfNoClass, impl.ErrRange},
		{"the class ahead of a name", profile(0, none), impl.ErrRange},
		{"the class ahead of bytes", profile(0, empty), impl.ErrRange},
		{"the class ahead of a name that is twice", profile(0, ok, again), impl.ErrRange},
		{"how many ahead of a name", nine, impl.ErrMany},
		{"a name ahead of its bytes", profile(1, both), impl.ErrText},
		{"a name that is none twice", profile(1, none, none), impl.ErrText},
		{"bytes ahead of a name that is twice", profile(1, ok, emptyAgain), impl.ErrMany},
		{"bytes of the first ahead of the name of the next", profile(1, empty, none), impl.ErrMany},
		{"the name of the first ahead of the bytes of the next", profile(1, none, empty), impl.ErrText},
		{"twice ahead of the name of the next", profile(1, ok, again, none), impl.ErrForm},
		{"twice ahead of the bytes of the next", profile(1, ok, again, empty), impl.ErrForm},
		{"a name ahead of twice behind it", profile(1, ok, none, again), impl.ErrText},
		{"bytes ahead of twice behind them", profile(1, ok, empty, again), impl.ErrMany},
	})
}

func TestEncodeProfileCases(t *testing.T) {
	cases := []struct {
		p    impl.Profile
		want string
	}{
		{profile(1), "prof\x01\x00"},
		{profile(3), "prof\x03\x00"},
		{profile(1, impl.Tag{Name: "desc", Bytes: []byte{7}}), "prof\x01\x01desc\x00\x10\x00\x01\x00\x00\x07"},
		{profile(2, impl.Tag{Name: "zzzz", Bytes: []byte("abcd")}, impl.Tag{Name: "aaaa", Bytes: []byte("efghi")}),
			"prof\x02\x02zzzz\x00\x18\x00\x04aaaa\x00\x1c\x00\x05\x00\x00abcdefghi"},
		{profile(2, impl.Tag{Name: "aaaa", Bytes: []byte("abcde")}, impl.Tag{Name: "bbbb", Bytes: []byte("f")}, impl.Tag{Name: "cccc", Bytes: []byte("gh")}, impl.Tag{Name: "dddd", Bytes: []byte("ijk")}),
			"prof\x02\x04aaaa\x00\x28\x00\x05bbbb\x00\x30\x00\x01cccc\x00\x34\x00\x02dddd\x00\x38\x00\x03\x00\x00abcde\x00\x00\x00f\x00\x00\x00gh\x00\x00ijk"},
	}
	for _, c := range cases {
		if got := impl.EncodeProfile(c.p); got.Code != impl.OK || string(got.Bytes) != c.want {
			t.Errorf("EncodeProfile(%+v) = %d %q, want %q", c.p, got.Code, got.Bytes, c.want)
		}
	}
}

// The most tags with the most bytes need two bytes for where the last ones begin.
func TestTheMostTagsWithTheMostBytes(t *testing.T) {
	p := manyTags(impl.MaxTags, impl.MaxTag)
	data := impl.EncodeProfile(p).Bytes
	if len(data) != 72+8*96 {
		t.Fatalf("%d bytes", len(data))
	}
	if last := string(data[62:70]); last != p.Tags[7].Name+"\x02\xe8\x00\x60" {
		t.Errorf("the last row is %q", last)
	}
	if !bytes.Equal(data[744:], p.Tags[7].Bytes) || !alike(impl.ParseProfile(data).Profile, p) {
		t.Error("not read back")
	}
	full := append(bytes.Clone(data), make([]byte, impl.MaxProfile-len(data))...)
	if got := impl.ParseProfile(full); got.Code != impl.OK || !alike(got.Profile, p) {
		t.Errorf("of 900 bytes: %d", got.Code)
	}
	if got := impl.ParseProfile(append(full, 0)); got.Code != impl.ErrLarge || !reflect.DeepEqual(got.Profile, impl.Profile{}) {
		t.Errorf("of 901 bytes: %+v", got)
	}
}

// Promise 3: a profile is read back from its bytes, which are canonical.
func TestProfileIsReadBack(t *testing.T) {
	for _, p := range profiles() {
		e := impl.EncodeProfile(p)
		got := impl.ParseProfile(e.Bytes)
		if e.Code != impl.OK || got.Code != impl.OK || !alike(got.Profile, p) || !impl.SameProfiles(got.Profile, p) {
			t.Fatalf("%+v is read back as %+v", p, got)
		}
		if !impl.IsCanonical(e.Bytes) {
			t.Fatalf("%q is not canonical", e.Bytes)
		}
		if end := len(e.Bytes); len(p.Tags) > 0 && !bytes.HasSuffix(e.Bytes, p.Tags[len(p.Tags)-1].Bytes) || len(p.Tags) == 0 && end != headSize {
			t.Fatalf("%q has bytes behind the last one", e.Bytes)
		}
	}
}

// Promise 3: what stands behind its last byte is nothing to it, but the bytes are not canonical with it.
func TestBytesBehindTheLastByte(t *testing.T) {
	for _, p := range profiles() {
		e := impl.EncodeProfile(p).Bytes
		for _, behind := range []string{"\x00", "\x07", "prof", "\xff\xff\xff\xff\xff", strings.Repeat("x", impl.MaxProfile-len(e))} {
			data := append(bytes.Clone(e), behind...)
			if got := impl.ParseProfile(data); got.Code != impl.OK || !alike(got.Profile, p) {
				t.Fatalf("%q: %+v, want %+v", data, got, p)
			}
			if impl.IsCanonical(data) {
				t.Fatalf("%q is canonical", data)
			}
		}
	}
}

// Every byte of a profile up to its last one is needed.
func TestProfilesThatAreCutShort(t *testing.T) {
	for _, p := range profiles() {
		e := impl.EncodeProfile(p).Bytes
		tableEnd := headSize + 8*len(p.Tags)
		for n := range e {
			want := int64(impl.ErrRange)
			if n < tableEnd {
				want = impl.ErrText
			}
			// What lies behind the data in the same memory is not of the data.
			if got := impl.ParseProfile(e[:n]); got.Code != want || !reflect.DeepEqual(got.Profile, impl.Profile{}) || impl.IsCanonical(e[:n]) {
				t.Fatalf("%d bytes of %q: %+v, want %d alone", n, e, got, want)
			}
		}
	}
}

type parseCase struct {
	what string
	data []byte
	code int64
}

func checkParse(t *testing.T, cases []parseCase) {
	t.Helper()
	for _, c := range cases {
		got := impl.ParseProfile(c.data)
		if got.Code != c.code {
			t.Errorf("%q: code %d, want %d", c.what, got.Code, c.code)
		}
		if got.Code != impl.OK && !reflect.DeepEqual(got.Profile, impl.Profile{}) {
			t.Errorf("%q: %+v beside a code", c.what, got.Profile)
		}
		if c.code != impl.OK && impl.IsCanonical(c.data) {
			t.Errorf("%q: canonical", c.what)
		}
	}
}

func TestParseProfileOfHeads(t *testing.T) {
	checkParse(t, []parseCase{
		{"nothing", nil, impl.ErrText},
		{"empty", []byte{}, impl.ErrText},
		{"four bytes", []byte("prof"), impl.ErrText},
		{"five bytes", []byte("prof\x01"), impl.ErrText},
		{"no tags", []byte("prof\x01\x00"), impl.OK},
		{"no tags and more bytes", []byte("prof\x02\x00abc"), impl.OK},
		{"other first byte", []byte("qrof\x01\x00"), impl.ErrText},
		{"other last byte", []byte("pros\x01\x00"), impl.ErrText},
		{"capitals", []byte("PROF\x01\x00"), impl.ErrText},
		{"one byte further on", []byte("\x00prof\x01\x00"), impl.ErrText},
		{"class 0", []byte("prof\x00\x00"), impl.ErrRange},
		{"class 3", []byte("prof\x03\x00"), impl.OK},
		{"class 4", []byte("prof\x04\x00"), impl.ErrRange},
		{"class as a digit", []byte("prof1\x00"), impl.ErrRange},
		{"class 255", []byte("prof\xff\x00"), impl.ErrRange},
		{"900 bytes", append([]byte("prof\x01\x00"), make([]byte, 894)...), impl.OK},
		{"901 bytes", append([]byte("prof\x01\x00"), make([]byte, 895)...), impl.ErrLarge},
		{"901 bytes that are nothing", make([]byte, 901), impl.ErrLarge},
		{"900 bytes that are nothing", make([]byte, 900), impl.ErrText},
		{"very many bytes", make([]byte, 1<<20), impl.ErrLarge},
	})
}

func TestParseProfileOfTables(t *testing.T) {
	one := raw(1, []row{{"desc", 16, 1}}, 0, 0, 7)
	cases := []parseCase{{"whole", one, impl.OK}}
	for n := headSize; n < 14; n++ {
		cases = append(cases, parseCase{"not whole", one[:n], impl.ErrText})
	}
	for _, count := range []int{1, 2, 8, 9, 111, 112, 255} {
		data := make([]byte, min(headSize+8*count-1, impl.MaxProfile))
		copy(data, []byte{'p', 'r', 'o', 'f', 1, byte(count)})
		cases = append(cases, parseCase{"one byte too few", data, impl.ErrText})
	}
	for _, name := range noNames() {
		if len(name) == 4 {
			cases = append(cases,
				parseCase{"no name: " + name, raw(1, []row{{name, 16, 1}}, 0, 0, 7), impl.ErrText},
				parseCase{"no name behind one: " + name, raw(1, []row{{"desc", 24, 1}, {name, 24, 1}}, 0, 0, 7), impl.ErrText})
		}
	}
	checkParse(t, cases)
}

func TestParseProfileOfPlaces(t *testing.T) {
	at := func(begin int, n int) []byte {
		return raw(1, []row{{"desc", begin, n}}, run(26, 1)...)
	}
	// 40 bytes, of which the table ends at 14.
	checkParse(t, []parseCase{
		{"the first place", at(16, 1), impl.OK},
		{"the last byte", at(36, 4), impl.OK},
		{"all bytes", at(16, 24), impl.OK},
		{"in the table", at(12, 1), impl.ErrRange},
		{"in the table and behind it", at(12, 8), impl.ErrRange},
		{"in the head", at(4, 1), impl.ErrRange},
		{"from the head on", at(0, 40), impl.ErrRange},
		{"at the end of the table, which 4 does not divide", at(14, 1), impl.ErrRange},
		{"15", at(15, 1), impl.ErrRange},
		{"17", at(17, 1), impl.ErrRange},
		{"18", at(18, 1), impl.ErrRange},
		{"19", at(19, 1), impl.ErrRange},
		{"20", at(20, 1), impl.OK},
		{"one byte behind the end", at(36, 5), impl.ErrRange},
		{"one byte behind the end of all", at(16, 25), impl.ErrRange},
		{"at the end", at(40, 1), impl.ErrRange},
		{"behind the end", at(44, 1), impl.ErrRange},
		{"as far as two bytes go", at(65532, 65535), impl.ErrRange},
		{"as many as two bytes tell", at(16, 65535), impl.ErrRange},
		{"256 more than there are", at(16, 256+4), impl.ErrRange},
		{"256 further on", at(256+16, 4), impl.ErrRange},
		{"no bytes", at(16, 0), impl.ErrMany},
		{"no bytes at the end", at(40, 0), impl.ErrMany},
		{"no bytes behind the end", at(44, 0), impl.ErrRange},
		{"no bytes in the table", at(12, 0), impl.ErrRange},
	})
}

// The table ends at 30, behind its last row: bytes of a row ahead of that may not begin in it.
func TestParseProfileOfPlacesInALongerTable(t *testing.T) {
	rows := func(second int) []byte {
		return raw(1, []row{{"aaaa", 32, 1}, {"bbbb", second, 2}, {"cccc", 36, 1}}, run(12, 1)...)
	}
	checkParse(t, []parseCase{
		{"first", rows(32), impl.OK},
		{"in the last row", rows(28), impl.ErrRange},
		{"in its own row", rows(16), impl.ErrRange},
		{"last", rows(40), impl.OK},
		{"one too far", rows(44), impl.ErrRange},
	})
}

func TestParseProfileOfMoreThanTheMost(t *testing.T) {
	long := func(n int) []byte {
		return raw(1, []row{{"desc", 16, n}}, make([]byte, 400)...)
	}
	many := func(class byte, n int, length int) []byte {
		var rows []row
		for _, name := range names(n) {
			rows = append(rows, row{name, 96, length})
		}
		return append(raw(class, rows), make([]byte, 100)...)
	}
	checkParse(t, []parseCase{
		{"96 bytes", long(96), impl.OK},
		{"97 bytes", long(97), impl.ErrMany},
		{"256 bytes", long(256), impl.ErrMany},
		{"257 bytes, of which the lower byte tells 1", long(257), impl.ErrMany},
		{"eight tags", many(1, 8, 1), impl.OK},
		{"nine tags", many(1, 9, 1), impl.ErrMany},
		{"eleven tags", many(1, 11, 1), impl.ErrMany},
		{"nine tags of no class", many(9, 9, 1), impl.ErrRange},
		{"nine tags without bytes", many(1, 9, 0), impl.ErrMany},
		{"one name twice", raw(1, []row{{"desc", 24, 1}, {"desc", 24, 1}}, 0, 0, 7), impl.ErrForm},
		{"one name twice, other bytes", raw(1, []row{{"desc", 32, 1}, {"clut", 32, 2}, {"desc", 36, 3}}, run(9, 1)...), impl.ErrForm},
	})
}

// Rule 6: each code is asked ahead of the next one.
func TestParseProfileOrder(t *testing.T) {
	fill := make([]byte, 20)
	checkParse(t, []parseCase{
		{"how large ahead of the head", append([]byte("none"), make([]byte, 900)...), impl.ErrLarge},
		{"the head ahead of the table", []byte("prog\x01\x09"), impl.ErrText},
		{"the table ahead of the class", []byte("prof\x09\x01"), impl.ErrText},
		{"the table ahead of a place", raw(1, []row{{"desc", 0, 1}})[:13], impl.ErrText},
		{"the table ahead of how many", []byte("prof\x01\xff"), impl.ErrText},
		{"a name ahead of its place", raw(1, []row{{"Desc", 3, 1}}, fill...), impl.ErrText},
		{"a name ahead of the class", raw(0, []row{{"Desc", 16, 1}}, fill...), impl.ErrText},
		{"the place of the first ahead of the name of the next", raw(1, []row{{"desc", 0, 1}, {"Desc", 24, 1}}, fill...), impl.ErrRange},
		{"the name of the first ahead of the place of the next", raw(1, []row{{"Desc", 24, 1}, {"desc", 0, 1}}, fill...), impl.ErrText},
		{"the name of the next ahead of the bytes of the first", raw(1, []row{{"desc", 24, 0}, {"Desc", 24, 1}}, fill...), impl.ErrText},
		{"the place of the next ahead of the bytes of the first", raw(1, []row{{"desc", 24, 0}, {"clut", 25, 1}}, fill...), impl.ErrRange},
		{"the name of the third ahead of a name that is twice", raw(1, []row{{"desc", 32, 1}, {"desc", 32, 1}, {"Desc", 32, 1}}, fill...), impl.ErrText},
		{"the place of the third ahead of a name that is twice", raw(1, []row{{"desc", 32, 1}, {"desc", 32, 1}, {"clut", 33, 1}}, fill...), impl.ErrRange},
		{"the class ahead of bytes", raw(4, []row{{"desc", 16, 0}}, fill...), impl.ErrRange},
		{"the class ahead of a name that is twice", raw(4, []row{{"desc", 24, 1}, {"desc", 24, 1}}, fill...), impl.ErrRange},
		{"bytes ahead of a name that is twice", raw(1, []row{{"desc", 24, 1}, {"desc", 24, 0}}, fill...), impl.ErrMany},
		{"a name that is twice ahead of bytes behind it", raw(1, []row{{"desc", 32, 1}, {"desc", 32, 1}, {"clut", 32, 0}}, fill...), impl.ErrForm},
	})
	var rows []row
	for range 9 {
		rows = append(rows, row{"desc", 80, 0})
	}
	checkParse(t, []parseCase{{"how many ahead of bytes and of a name that is twice", raw(1, rows, fill...), impl.ErrMany}})
	rows[8].name = "Desc"
	checkParse(t, []parseCase{{"a name ahead of how many", raw(1, rows, fill...), impl.ErrText}})
}

// Bytes of two tags may lie on each other; each tag has its own copy, and the bytes are not canonical.
func TestBytesThatLieOnEachOther(t *testing.T) {
	body := append([]byte{0, 0}, run(12, 50)...)
	cases := []struct {
		rows []row
		want impl.Profile
	}{
		{[]row{{"aaaa", 24, 12}, {"bbbb", 24, 12}}, profile(2, impl.Tag{Name: "aaaa", Bytes: run(12, 50)}, impl.Tag{Name: "bbbb", Bytes: run(12, 50)})},
		{[]row{{"aaaa", 24, 12}, {"bbbb", 28, 4}}, profile(2, impl.Tag{Name: "aaaa", Bytes: run(12, 50)}, impl.Tag{Name: "bbbb", Bytes: run(4, 54)})},
		{[]row{{"aaaa", 24, 8}, {"bbbb", 28, 8}}, profile(2, impl.Tag{Name: "aaaa", Bytes: run(8, 50)}, impl.Tag{Name: "bbbb", Bytes: run(8, 54)})},
		{[]row{{"bbbb", 28, 8}, {"aaaa", 24, 5}}, profile(2, impl.Tag{Name: "bbbb", Bytes: run(8, 54)}, impl.Tag{Name: "aaaa", Bytes: run(5, 50)})},
	}
	for _, c := range cases {
		data := raw(2, c.rows, body...)
		got := impl.ParseProfile(data)
		if got.Code != impl.OK || !alike(got.Profile, c.want) {
			t.Fatalf("%q: %+v, want %+v", data, got, c.want)
		}
		if impl.IsCanonical(data) {
			t.Errorf("%q is canonical", data)
		}
		spoil(got.Profile.Tags[0].Bytes)
		if !bytes.Equal(got.Profile.Tags[1].Bytes, c.want.Tags[1].Bytes) {
			t.Errorf("%q: both tags share memory", data)
		}
		if again := impl.EncodeProfile(c.want).Bytes; !impl.IsCanonical(again) || !alike(impl.ParseProfile(again).Profile, c.want) {
			t.Errorf("%q: what was read is not read back", data)
		}
	}
}

// spoil changes all bytes, and those that list has room for behind them.
func spoil(list []byte) {
	for i := range list[:cap(list)] {
		list[:cap(list)][i] ^= 0xff
	}
}

func TestBytesThatCanBeReadAndAreNotCanonical(t *testing.T) {
	cases := map[string][]byte{
		"a byte ahead of the bytes is not 0":      raw(1, []row{{"desc", 16, 1}}, 0, 1, 7),
		"the first of these bytes is not 0":       raw(1, []row{{"desc", 16, 1}}, 1, 0, 7),
		"a byte between two tags is not 0":        raw(1, []row{{"aaaa", 24, 1}, {"bbbb", 28, 1}}, 0, 0, 7, 0, 9, 0, 8),
		"bytes begin further on":                  raw(1, []row{{"desc", 20, 1}}, 0, 0, 0, 0, 0, 0, 7),
		"the second bytes begin further on":       raw(1, []row{{"aaaa", 24, 1}, {"bbbb", 32, 1}}, 0, 0, 7, 0, 0, 0, 0, 0, 0, 0, 8),
		"the bytes change their places":           raw(1, []row{{"aaaa", 28, 1}, {"bbbb", 24, 1}}, 0, 0, 8, 0, 0, 0, 7),
		"a byte behind the last one":              raw(1, []row{{"desc", 16, 1}}, 0, 0, 7, 0),
		"a byte behind the head":                  []byte("prof\x01\x00\x00"),
		"bytes up to a place that 4 divides":      raw(1, []row{{"desc", 16, 1}}, 0, 0, 7, 0, 0, 0),
		"no tags, up to a place that 4 divides":   []byte("prof\x01\x00\x00\x00"),
		"two tags of like bytes on the same ones": raw(1, []row{{"aaaa", 24, 1}, {"bbbb", 24, 1}}, 0, 0, 7),
	}
	for what, data := range cases {
		if got := impl.ParseProfile(data); got.Code != impl.OK {
			t.Errorf("%s: code %d", what, got.Code)
		}
		if impl.IsCanonical(data) {
			t.Errorf("%s: canonical", what)
		}
	}
	for _, data := range [][]byte{
		[]byte("prof\x01\x00"),
		raw(1, []row{{"desc", 16, 1}}, 0, 0, 7),
		raw(1, []row{{"aaaa", 24, 1}, {"bbbb", 28, 1}}, 0, 0, 7, 0, 0, 0, 8),
		raw(1, []row{{"bbbb", 24, 4}, {"aaaa", 28, 1}}, 0, 0, 7, 0, 0, 0, 0),
	} {
		if !impl.IsCanonical(data) {
			t.Errorf("%q is not canonical", data)
		}
	}
}

func TestFindTag(t *testing.T) {
	for _, p := range profiles() {
		for _, want := range p.Tags {
			if got := impl.FindTag(p, want.Name); got.Code != impl.OK || !bytes.Equal(got.Bytes, want.Bytes) {
				t.Fatalf("FindTag(%+v, %q) = %+v", p, want.Name, got)
			}
		}
		for _, name := range append(noNames(), "none", "descdesc", "zzzy\x00") {
			if got := impl.FindTag(p, name); got.Code != impl.ErrNone || len(got.Bytes) != 0 {
				t.Fatalf("FindTag(%+v, %q) = %+v", p, name, got)
			}
		}
	}
	faulty := map[int64]impl.Profile{
		impl.ErrRange: profile(4, tag("desc", 1)),
		impl.ErrText:  profile(1, tag("desc", 1), tag("Desc", 1)),
		impl.ErrMany:  profile(1, tag("desc", 1), tag("clut", 97)),
		impl.ErrForm:  profile(1, tag("desc", 1), tag("clut", 1), tag("clut", 1)),
	}
	for code, p := range faulty {
		for _, name := range []string{"desc", "Desc", "clut", "none", ""} {
			if got := impl.FindTag(p, name); got.Code != code || len(got.Bytes) != 0 {
				t.Errorf("FindTag(%+v, %q) = %+v, want %d alone", p, name, got, code)
			}
		}
	}
}

func TestSameProfiles(t *testing.T) {
	base := profile(2, tag("aaaa", 5), tag("bbbb", 7))
	same := []impl.Profile{
		base, cloneProfile(base), profile(1), {Class: 1, Tags: []impl.Tag{}}, {}, manyTags(8, 96),
		profile(-5, tag("Desc", 97)), manyTags(20, 1), profile(1, impl.Tag{}), profile(1, tag("desc", 1), tag("desc", 1)),
	}
	for _, p := range same {
		if !impl.SameProfiles(p, p) || !impl.SameProfiles(p, cloneProfile(p)) || !impl.SameProfiles(cloneProfile(p), p) {
			t.Errorf("%+v is not the same as itself", p)
		}
	}
	if !impl.SameProfiles(profile(1), impl.Profile{Class: 1, Tags: []impl.Tag{}}) ||
		!impl.SameProfiles(profile(1, impl.Tag{Name: "desc"}), profile(1, impl.Tag{Name: "desc", Bytes: []byte{}})) {
		t.Error("nil and empty are not the same")
	}
	other := []impl.Profile{
		{}, profile(2), profile(1, base.Tags...), profile(2, base.Tags[0]), profile(2, base.Tags[1], base.Tags[0]),
		profile(2, base.Tags[0], base.Tags[1], tag("cccc", 1)), profile(2, tag("aaaa", 5), tag("bbbb", 6)), profile(2, tag("aaaa", 4), tag("bbbb", 7)),
		profile(2, impl.Tag{Name: "aaab", Bytes: base.Tags[0].Bytes}, base.Tags[1]), profile(2, base.Tags[0], impl.Tag{Name: "bbb", Bytes: base.Tags[1].Bytes}),
		profile(2, base.Tags[0], impl.Tag{Name: "bbbb"}),
	}
	for i := range base.Tags {
		for j := range base.Tags[i].Bytes {
			p := cloneProfile(base)
			p.Tags[i].Bytes[j]++
			other = append(other, p)
		}
	}
	for _, p := range other {
		if impl.SameProfiles(base, p) || impl.SameProfiles(p, base) {
			t.Errorf("%+v is the same as %+v", p, base)
		}
	}
}

func wantFault(p impl.Profile) int64 {
	switch {
	case !within(p.Class, 1, 3):
		return impl.ErrRange
	case len(p.Tags) > 8:
		return impl.ErrMany
	}
	for i, tag := range p.Tags {
		switch {
		case len(tag.Name) != 4 || strings.Trim(tag.Name, "abcdefghijklmnopqrstuvwxyz") != "":
			return impl.ErrText
		case len(tag.Bytes) == 0 || len(tag.Bytes) > 96:
			return impl.ErrMany
		case slices.ContainsFunc(p.Tags[:i], func(a impl.Tag) bool { return a.Name == tag.Name }):
			return impl.ErrForm
		}
	}
	return impl.OK
}

// wantParse follows the chapter's words, with no regard for how the program does it.
func wantParse(data []byte) impl.ProfileResult {
	fault := func(code int64) impl.ProfileResult { return impl.ProfileResult{Code: code} }
	if len(data) > 900 {
		return fault(impl.ErrLarge)
	}
	if len(data) < 6 || !strings.HasPrefix(string(data), "prof") || len(data)-6 < 8*int(data[5]) {
		return fault(impl.ErrText)
	}
	p := impl.Profile{Class: int64(data[4])}
	end := 6 + 8*int(data[5])
	for line := range slices.Chunk(data[6:end], 8) {
		name := string(line[:4])
		if strings.Trim(name, "abcdefghijklmnopqrstuvwxyz") != "" {
			return fault(impl.ErrText)
		}
		begin, n := 256*int(line[4])+int(line[5]), 256*int(line[6])+int(line[7])
		if begin < end || begin&3 != 0 || begin+n > len(data) {
			return fault(impl.ErrRange)
		}
		p.Tags = append(p.Tags, impl.Tag{Name: name, Bytes: bytes.Clone(data[begin : begin+n])})
	}
	if code := wantFault(p); code != impl.OK {
		return fault(code)
	}
	return impl.ProfileResult{Profile: p}
}

func checkAgainstWords(t *testing.T, data []byte) int64 {
	t.Helper()
	got, want := impl.ParseProfile(data), wantParse(data)
	if got.Code != want.Code || !alike(got.Profile, want.Profile) {
		t.Fatalf("ParseProfile(%q) = %+v, want %+v", data, got, want)
	}
	e := impl.EncodeProfile(got.Profile)
	if canonical := got.Code == impl.OK && string(e.Bytes) == string(data); impl.IsCanonical(data) != canonical {
		t.Fatalf("IsCanonical(%q) is not %v", data, canonical)
	}
	if got.Code == impl.OK && !impl.IsCanonical(e.Bytes) {
		t.Fatalf("%q, of %q, is not canonical", e.Bytes, data)
	}
	return got.Code
}

// Any one byte of a profile may be any other one: the answer is that of the chapter's words.
func TestParseProfileOfOneOtherByte(t *testing.T) {
	codes := map[int64]int{}
	for _, p := range []impl.Profile{profile(1), profile(2, tag("desc", 3)), profile(3, tag("rtrc", 5), tag("rtrd", 4), tag("btrc", 1))} {
		e := impl.EncodeProfile(p).Bytes
		for i := range e {
			for b := range 256 {
				data := append(bytes.Clone(e), 1, 2, 3)
				data[i] = byte(b)
				codes[checkAgainstWords(t, data)]++
				codes[checkAgainstWords(t, data[:len(e)])]++
			}
		}
	}
	for _, code := range []int64{impl.OK, impl.ErrText, impl.ErrRange, impl.ErrMany, impl.ErrForm} {
		if codes[code] == 0 {
			t.Errorf("no bytes had code %d", code)
		}
	}
}

// Tables of which several things are wrong at once: the answer is that of the chapter's words.
func TestParseProfileOfSpreadTables(t *testing.T) {
	codes := map[int64]int{}
	dice := spread(60000, 0, 1<<40)
	roll := func(n int) int {
		v := int(dice[0]) % n
		dice = dice[1:]
		return v
	}
	for len(dice) > 100 {
		class, count := byte(roll(5)), roll(11)
		var rows []row
		for range count {
			rows = append(rows, spreadRow(roll, headSize+8*count))
		}
		codes[checkAgainstWords(t, raw(class, rows, run(40+roll(140), class)...))]++
	}
	for _, code := range []int64{impl.OK, impl.ErrText, impl.ErrRange, impl.ErrMany, impl.ErrForm} {
		if codes[code] < 10 {
			t.Errorf("only %d tables had code %d", codes[code], code)
		}
	}
}

// spreadRow is mostly right, so that several rows may be so together.
func spreadRow(roll func(int) int, tableEnd int) row {
	r := row{names(30)[roll(30)], (tableEnd+3)/4*4 + 4*roll(8), 1 + roll(40)}
	switch roll(40) {
	case 0:
		r.name = "Desc"
	case 1:
		r.begin = roll(300)
	case 2:
		r.len = roll(300)
	case 3:
		r.len = 0
	}
	return r
}

// argument answers p in memory that has room behind each list, so that a write behind its end is seen, too.
func argument(p impl.Profile) (impl.Profile, func() bool) {
	q := impl.Profile{Class: p.Class, Tags: make([]impl.Tag, len(p.Tags), len(p.Tags)+3)}
	for i, tag := range p.Tags {
		q.Tags[i] = impl.Tag{Name: tag.Name, Bytes: append(make([]byte, 0, len(tag.Bytes)+9), tag.Bytes...)}
	}
	whole := func() impl.Profile {
		all := impl.Profile{Class: q.Class, Tags: q.Tags[:cap(q.Tags)]}
		all = cloneProfile(all)
		for i, tag := range q.Tags {
			all.Tags[i].Bytes = bytes.Clone(tag.Bytes[:cap(tag.Bytes)])
		}
		return all
	}
	kept := whole()
	return q, func() bool { return alike(whole(), kept) && q.Class == p.Class }
}

// Promise 1: no argument is changed, whether there is a code or not, nor what lies behind it in its memory.
func TestTagsChangeNoArgument(t *testing.T) {
	list := append(profiles(), impl.Profile{}, profile(1, tag("Desc", 1)), profile(1, tag("desc", 97)), profile(1, tag("desc", 1), tag("desc", 2)), manyTags(9, 1))
	for _, p := range list {
		q, unchanged := argument(p)
		impl.ProfileFault(q)
		impl.EncodeProfile(q)
		impl.FindTag(q, "desc")
		impl.SameProfiles(q, p)
		impl.SameProfiles(p, q)
		if !unchanged() {
			t.Fatalf("%+v was changed", p)
		}
		data := append(append(make([]byte, 0, 1000), impl.EncodeProfile(p).Bytes...), 1, 2, 3, 4)
		for n := range len(data) + 1 {
			kept := bytes.Clone(data[:cap(data)])
			impl.ParseProfile(data[:n])
			impl.IsCanonical(data[:n])
			if !bytes.Equal(data[:cap(data)], kept) {
				t.Fatalf("%q was changed", kept)
			}
		}
	}
}

// Promise 1: what is answered is new memory, and no two lists of one answer share any.
func TestTagsAnswerNewMemory(t *testing.T) {
	for _, p := range profiles() {
		q, unchanged := argument(p)
		e := impl.EncodeProfile(q)
		data := bytes.Clone(e.Bytes)
		spoil(e.Bytes)
		for _, tag := range q.Tags {
			spoil(impl.FindTag(q, tag.Name).Bytes)
		}
		if !unchanged() || !bytes.Equal(impl.EncodeProfile(q).Bytes, data) {
			t.Fatalf("%+v shares memory with an answer", p)
		}
		kept := bytes.Clone(data)
		first, second := impl.ParseProfile(data), impl.ParseProfile(data)
		for i := range first.Profile.Tags {
			spoil(first.Profile.Tags[i].Bytes)
			if !alike(profile(p.Class, first.Profile.Tags[i+1:]...), profile(p.Class, p.Tags[i+1:]...)) {
				t.Fatalf("two tags of %q share memory", kept)
			}
		}
		clear(first.Profile.Tags[:cap(first.Profile.Tags)])
		if !bytes.Equal(data, kept) || !alike(second.Profile, p) || !alike(impl.ParseProfile(data).Profile, p) {
			t.Fatalf("%q shares memory with an answer", kept)
		}
		spoil(data)
		if !alike(second.Profile, p) {
			t.Fatalf("an answer shares memory with %q", kept)
		}
	}
}

// Promise 1: the same arguments have the same answer.
func TestTagsAnswerTheSameAgain(t *testing.T) {
	for _, p := range append(profiles(), profile(1, tag("desc", 1), tag("desc", 2)), profile(0), manyTags(9, 1)) {
		q := cloneProfile(p)
		e := impl.EncodeProfile(p)
		if impl.ProfileFault(p) != impl.ProfileFault(q) || !reflect.DeepEqual(e, impl.EncodeProfile(q)) || !reflect.DeepEqual(impl.FindTag(p, "desc"), impl.FindTag(q, "desc")) {
			t.Fatalf("%+v has two answers", p)
		}
		if !reflect.DeepEqual(impl.ParseProfile(e.Bytes), impl.ParseProfile(bytes.Clone(e.Bytes))) || impl.IsCanonical(e.Bytes) != impl.IsCanonical(bytes.Clone(e.Bytes)) {
			t.Fatalf("%q has two answers", e.Bytes)
		}
	}
}
