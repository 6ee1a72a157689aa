package clog_test

import (
	"math"
	"slices"
	"strings"
	"testing"

	"almonry/api"
	"almonry/clog"
	"almonry/page"
)

// wrongModuli are odd ones, and those on both sides of what a modulus may be.
var wrongModuli = []int{math.MinInt, -16, -1, 0, 1, 2, 8, 14, 15, 17, 1023, 1025, 1026, 2048, math.MaxInt - 1, math.MaxInt}

// notIDs are no ids of a modulus.
func notIDs(modulus int) []int {
	return []int{math.MinInt, -modulus, -1, 0, modulus + 1, 2 * modulus, math.MaxInt}
}

func blank(t *testing.T, modulus, frozen int) api.Page {
	t.Helper()
	p, err := clog.Blank(modulus, frozen)
	if err != api.OK {
		t.Fatalf("Blank(%d, %d): %v", modulus, frozen, err)
	}
	return p
}

func set(t *testing.T, modulus int, p api.Page, x int, s api.Status) api.Page {
	t.Helper()
	q, err := clog.Set(modulus, p, x, s)
	if err != api.OK {
		t.Fatalf("Set(%d, %d, %d): %v", modulus, x, s, err)
	}
	return q
}

func cut(t *testing.T, modulus int, p api.Page, limit int) api.Page {
	t.Helper()
	q, err := clog.Cut(modulus, p, limit)
	if err != api.OK {
		t.Fatalf("Cut(%d, %d): %v", modulus, limit, err)
	}
	return q
}

func checks(t *testing.T, modulus int, p api.Page, want api.Errno) {
	t.Helper()
	if err := clog.Check(modulus, p); err != want {
		t.Errorf("Check(%d, %+v): %v, want %v", modulus, p, err, want)
	}
}

func gets(t *testing.T, modulus int, p api.Page, x int, want api.Status) {
	t.Helper()
	if got, err := clog.Get(modulus, p, x); got != want || err != api.OK {
		t.Fatalf("Get(%d, %d): %d %v, want %d", modulus, x, got, err, want)
	}
}

// refuses asks for an error, and for zero values beside it.
func refuses(t *testing.T, what string, p api.Page, err, want api.Errno) {
	t.Helper()
	if err != want {
		t.Errorf("%s: %v, want %v", what, err, want)
	}
	if !page.Same(p, api.Page{}) {
		t.Errorf("%s: %+v beside an error", what, p)
	}
}

// allRefuse asks for an error of Get, Set, Frozen and Cut.
func allRefuse(t *testing.T, modulus int, p api.Page, x int, want api.Errno) {
	t.Helper()
	if s, err := clog.Get(modulus, p, x); s != 0 || err != want {
		t.Errorf("Get(%d, %+v, %d): %d %v, want %v", modulus, p, x, s, err, want)
	}
	q, err := clog.Set(modulus, p, x, api.Committed)
	refuses(t, "Set", q, err, want)
	if limit, err := clog.Frozen(modulus, p); limit != 0 || err != want {
		t.Errorf("Frozen(%d, %+v): %d %v, want %v", modulus, p, limit, err, want)
	}
	q, err = clog.Cut(modulus, p, x)
	refuses(t, "Cut", q, err, want)
}

// table is the statuses of ids, that of id x in place x; place 0 is not used.
type table []api.Status

// laid is the bytes of a table, made of what each status is worth.
func (s table) laid() string {
	worth := make([]int, (len(s)-1+3)/4)
	for x := 1; x < len(s); x++ {
		power := 1
		for range (x - 1) % 4 {
			power *= 4
		}
		worth[(x-1)/4] += int(s[x]) * power
	}
	bytes := make([]byte, len(worth))
	for i, n := range worth {
		bytes[i] = byte(n)
	}
	return string(bytes)
}

// sevens is the bytes of a limit, at most 1024.
func sevens(n int) string {
	if n < 128 {
		return string([]byte{byte(n)})
	}
	return string([]byte{byte(128 + n%128), byte(n / 128)})
}

// pageOf is a page of statuses, written out.
func pageOf(lsn, limit int, s table) api.Page {
	return api.Page{LSN: lsn, Kind: api.ClogPage, Items: []string{sevens(limit), s.laid()}}
}

// mixed is a table in which all statuses stand, turned by some.
func mixed(modulus, turn int) table {
	s := make(table, modulus+1)
	for x := 1; x <= modulus; x++ {
		s[x] = api.Status((x*x + x/3 + turn) % 4)
	}
	return s
}

// full is a table of one status.
func full(modulus int, status api.Status) table {
	s := make(table, modulus+1)
	for x := 1; x <= modulus; x++ {
		s[x] = status
	}
	return s
}

func is(t *testing.T, what string, got, want api.Page) {
	t.Helper()
	if !page.Same(got, want) {
		t.Fatalf("%s: %+v, want %+v", what, got, want)
	}
}

// P8.1

func TestBlankKnowsNobody(t *testing.T) {
	for m := 16; m <= 1024; m += 2 {
		for _, frozen := range []int{1, 2, m / 2, m - 1, m} {
			p := blank(t, m, frozen)
			is(t, "Blank", p, pageOf(0, frozen, make(table, m+1)))
			checks(t, m, p, api.OK)
		}
	}
}

func TestBlankLaysTheLimitAsSevens(t *testing.T) {
	for _, c := range []struct {
		m, frozen, bytes int
		want             string
	}{
		{16, 1, 4, "\x01"},
		{16, 16, 4, "\x10"},
		{18, 18, 5, "\x12"},
		{20, 7, 5, "\x07"},
		{1024, 127, 256, "\x7f"},
		{1024, 128, 256, "\x80\x01"},
		{1022, 300, 256, "\xac\x02"},
		{1024, 1024, 256, "\x80\x08"},
	} {
		p := blank(t, c.m, c.frozen)
		if !slices.Equal(p.Items, []string{c.want, strings.Repeat("\x00", c.bytes)}) {
			t.Errorf("Blank(%d, %d): %q", c.m, c.frozen, p.Items)
		}
	}
}

func TestBlankRefusesWrongNumbers(t *testing.T) {
	for _, m := range wrongModuli {
		for _, frozen := range []int{-1, 0, 1, m} {
			p, err := clog.Blank(m, frozen)
			refuses(t, "Blank of a wrong modulus", p, err, api.ErrArg)
		}
	}
	for _, m := range []int{16, 18, 1024} {
		for _, frozen := range notIDs(m) {
			p, err := clog.Blank(m, frozen)
			refuses(t, "Blank of no id", p, err, api.ErrArg)
		}
	}
}

func TestCheckTakesAllStatuses(t *testing.T) {
	for _, m := range []int{16, 18, 20, 22, 1022, 1024} {
		for status := api.Unknown; status <= api.Aborted; status++ {
			checks(t, m, pageOf(0, m, full(m, status)), api.OK)
			checks(t, m, pageOf(math.MaxInt, 1, mixed(m, int(status))), api.OK)
		}
	}
}

func TestCheckRefusesAWrongModulusFirst(t *testing.T) {
	for _, m := range wrongModuli {
		for _, p := range []api.Page{{}, blank(t, 16, 3), {Kind: api.HeapPage, LSN: -1}} {
			checks(t, m, p, api.ErrArg)
		}
	}
}

// faults are pages of the modulus 16 with one thing wrong each.
func faults(t *testing.T) []api.Page {
	t.Helper()
	var list []api.Page
	for _, spoil := range []func(p *api.Page){
		func(p *api.Page) { *p = api.Page{} },
		func(p *api.Page) { p.Kind = 0 },
		func(p *api.Page) { p.Kind = api.HeapPage },
		func(p *api.Page) { p.Kind = api.NodePage },
		func(p *api.Page) { p.Kind = -1 },
		func(p *api.Page) { p.Level = 1 },
		func(p *api.Page) { p.Level = -1 },
		func(p *api.Page) { p.Right = 1 },
		func(p *api.Page) { p.Right = -1 },
		func(p *api.Page) { p.High = "\x00" },
		func(p *api.Page) { p.High = "h" },
		func(p *api.Page) { p.LSN = -1 },
		func(p *api.Page) { p.LSN = math.MinInt },
		func(p *api.Page) { p.Items = nil },
		func(p *api.Page) { p.Items = []string{} },
		func(p *api.Page) { p.Items = p.Items[:1] },
		func(p *api.Page) { p.Items = p.Items[1:] },
		func(p *api.Page) { p.Items = append(p.Items, "") },
		func(p *api.Page) { p.Items = append(p.Items, p.Items...) },
		func(p *api.Page) { slices.Reverse(p.Items) },
		func(p *api.Page) { p.Items = make([]string, 300) },
	} {
		p := blank(t, 16, 3)
		spoil(&p)
		list = append(list, p)
	}
	for _, limit := range []string{"", "\x00", "\x11", "\x7f", "\x80", "\x83", "\x83\x00", "\x03\x00", "\x03\x03", "\x83\x01", strings.Repeat("\xff", 8) + "\x7f", strings.Repeat("\xff", 9), strings.Repeat("\x03", 600)} {
		p := blank(t, 16, 3)
		p.Items[0] = limit
		list = append(list, p)
	}
	for _, n := range []int{0, 1, 3, 5, 8, 16, 600} {
		p := blank(t, 16, 3)
		p.Items[1] = strings.Repeat("\x00", n)
		list = append(list, p)
	}
	return list
}

func TestCheckRefusesWhatIsNoPageOfStatuses(t *testing.T) {
	for _, p := range faults(t) {
		checks(t, 16, p, api.ErrBody)
	}
}

func TestCheckRefusesLimitsAboveTheModulus(t *testing.T) {
	for _, c := range []struct {
		m     int
		limit string
		want  api.Errno
	}{
		{16, "\x10", api.OK},
		{18, "\x12", api.OK},
		{18, "\x13", api.ErrBody},
		{126, "\x7e", api.OK},
		{126, "\x7f", api.ErrBody},
		{128, "\x80\x01", api.OK},
		{128, "\x81\x01", api.ErrBody},
		{1024, "\x80\x08", api.OK},
		{1024, "\x81\x08", api.ErrBody},
		{1024, "\x80\x80\x01", api.ErrBody},
		{1022, "\xfe\x07", api.OK},
		{1022, "\xff\x07", api.ErrBody},
	} {
		p := blank(t, c.m, 1)
		p.Items[0] = c.limit
		checks(t, c.m, p, c.want)
	}
}

func TestCheckWantsTheBytesOfItsModulus(t *testing.T) {
	for _, c := range []struct{ page, modulus int }{{16, 18}, {16, 20}, {18, 16}, {18, 22}, {22, 18}, {1020, 1022}, {1024, 1020}, {1024, 16}, {16, 1024}} {
		checks(t, c.modulus, blank(t, c.page, 1), api.ErrBody)
	}
	// 17 to 20 ids take 5 bytes each, so that the page of one is one of the other, too, as long as it keeps nothing behind 18.
	checks(t, 20, blank(t, 18, 1), api.OK)
	checks(t, 18, blank(t, 20, 18), api.OK)
	checks(t, 18, blank(t, 20, 19), api.ErrBody)
	checks(t, 18, set(t, 20, blank(t, 20, 1), 18, api.Aborted), api.OK)
	checks(t, 18, set(t, 20, blank(t, 20, 1), 19, api.Running), api.ErrBody)
	checks(t, 18, set(t, 20, blank(t, 20, 1), 20, api.Committed), api.ErrBody)
}

func TestCheckWantsNoBitsOfNoID(t *testing.T) {
	for _, m := range []int{18, 22, 1022} {
		for last := range 256 {
			p := pageOf(0, 1, mixed(m, 2))
			all := p.Items[1]
			p.Items[1] = all[:len(all)-1] + string([]byte{byte(last)})
			want := api.OK
			if last >= 16 {
				want = api.ErrBody
			}
			checks(t, m, p, want)
		}
	}
	for last := range 256 {
		p := blank(t, 20, 1)
		p.Items[1] = "\x00\x00\x00\x00" + string([]byte{byte(last)})
		checks(t, 20, p, api.OK)
	}
}

// P8.2

func TestCheckIsAskedFirst(t *testing.T) {
	for _, p := range faults(t) {
		for _, x := range append(notIDs(16), 1, 16) {
			allRefuse(t, 16, p, x, api.ErrBody)
		}
		q, err := clog.Set(16, p, 1, api.Aborted+1)
		refuses(t, "Set", q, err, api.ErrBody)
	}
	for _, m := range wrongModuli {
		for _, p := range []api.Page{{}, blank(t, 16, 3)} {
			allRefuse(t, m, p, 1, api.ErrArg)
			allRefuse(t, m, p, 0, api.ErrArg)
		}
	}
}

func TestNumbersThatAreNoIDs(t *testing.T) {
	for _, m := range []int{16, 18, 1022, 1024} {
		p := pageOf(9, m, full(m, api.Aborted))
		for _, x := range notIDs(m) {
			if s, err := clog.Get(m, p, x); s != 0 || err != api.ErrArg {
				t.Errorf("Get(%d, %d): %d %v", m, x, s, err)
			}
			q, err := clog.Set(m, p, x, api.Committed)
			refuses(t, "Set", q, err, api.ErrArg)
			q, err = clog.Cut(m, p, x)
			refuses(t, "Cut", q, err, api.ErrArg)
		}
	}
}

func TestSetRefusesWhatIsNoStatus(t *testing.T) {
	p := blank(t, 16, 3)
	for s := int(api.Aborted) + 1; s <= math.MaxUint8; s++ {
		for _, x := range []int{0, 1, 16} {
			q, err := clog.Set(16, p, x, api.Status(s))
			refuses(t, "Set", q, err, api.ErrArg)
		}
	}
}

func TestGetIsTheStatus(t *testing.T) {
	for _, m := range []int{16, 18, 20, 1022, 1024} {
		for turn := range 4 {
			s := mixed(m, turn)
			p := pageOf(turn, m, s)
			for x := 1; x <= m; x++ {
				gets(t, m, p, x, s[x])
			}
		}
	}
}

func TestFrozenIsTheLimit(t *testing.T) {
	for _, m := range []int{16, 18, 1022, 1024} {
		for limit := 1; limit <= m; limit++ {
			if got, err := clog.Frozen(m, pageOf(7, limit, mixed(m, limit))); got != limit || err != api.OK {
				t.Errorf("Frozen: %d %v, want %d", got, err, limit)
			}
		}
	}
}

func TestSetWritesOneStatusAlone(t *testing.T) {
	for _, m := range []int{16, 18, 20, 22, 64} {
		for turn := range 4 {
			before := mixed(m, turn)
			p := pageOf(math.MaxInt-turn, m-turn, before)
			for x := 1; x <= m; x++ {
				for status := api.Unknown; status <= api.Aborted; status++ {
					after := slices.Clone(before)
					after[x] = status
					is(t, "Set", set(t, m, p, x, status), pageOf(math.MaxInt-turn, m-turn, after))
				}
			}
		}
	}
}

// forgotten is a table without those that single steps lead over, from a limit to another one.
func forgotten(s table, from, to int) table {
	s = slices.Clone(s)
	for x := from; x != to; {
		s[x] = api.Unknown
		if x++; x == len(s) {
			x = 1
		}
	}
	return s
}

func TestCutForgetsFromTheOldLimitToTheNew(t *testing.T) {
	for _, m := range []int{16, 18, 20, 64, 130} {
		for from := 1; from <= m; from++ {
			for to := 1; to <= m; to++ {
				s := full(m, api.Aborted)
				is(t, "Cut", cut(t, m, pageOf(6, from, s), to), pageOf(6, to, forgotten(s, from, to)))
			}
		}
	}
}

func TestCutOfAGreatRing(t *testing.T) {
	s := mixed(1024, 1)
	for _, c := range []struct{ from, to int }{{1, 1024}, {1024, 1}, {1024, 1023}, {1000, 20}, {127, 128}, {128, 127}, {512, 512}} {
		is(t, "Cut", cut(t, 1024, pageOf(0, c.from, s), c.to), pageOf(0, c.to, forgotten(s, c.from, c.to)))
	}
}

func TestCutToTheLimitThatItHasChangesNothing(t *testing.T) {
	for _, m := range []int{16, 18, 1024} {
		for _, limit := range []int{1, m / 2, m} {
			p := pageOf(3, limit, mixed(m, 3))
			is(t, "Cut", cut(t, m, p, limit), p)
		}
	}
}

// P8.3

func TestWhatIsSetIsGot(t *testing.T) {
	for _, m := range []int{16, 18, 1022, 1024} {
		p, want := blank(t, m, 1), make(table, m+1)
		for turn := range 3 * m {
			x := turn*7%m + 1
			status := api.Status((turn + turn/m) % 4)
			p, want[x] = set(t, m, p, x, status), status
			gets(t, m, p, x, status)
			is(t, "Set", p, pageOf(0, 1, want))
		}
		for x := 1; x <= m; x++ {
			gets(t, m, p, x, want[x])
		}
	}
}

func TestCutForgetsNoneFromTheNewLimitOn(t *testing.T) {
	const m = 18
	s := mixed(m, 1)
	for old := 1; old <= m; old++ {
		for on := range m {
			limit := (old-1+on)%m + 1
			p := cut(t, m, pageOf(2, old, s), limit)
			for step := range m - on {
				x := (limit-1+step)%m + 1
				gets(t, m, p, x, s[x])
			}
			for step := range on {
				gets(t, m, p, (old-1+step)%m+1, api.Unknown)
			}
		}
	}
}

// TestPagesOfManyRounds sets and cuts till the ring went round several times: each page is one of statuses, and can be encoded.
func TestPagesOfManyRounds(t *testing.T) {
	for _, m := range []int{16, 18, 130, 1022, 1024} {
		p, limit := blank(t, m, m), m
		p.LSN = math.MaxInt
		for turn := range 60 {
			p = set(t, m, p, turn*turn%m+1, api.Status(turn%4))
			limit = (limit-1+turn%(m/2))%m + 1
			p = cut(t, m, p, limit)
			checks(t, m, p, api.OK)
			encodes(t, p)
		}
	}
	for m := 16; m <= 1024; m += 2 {
		encodes(t, cut(t, m, pageOf(math.MaxInt, 1, full(m, api.Aborted)), m))
		encodes(t, set(t, m, pageOf(math.MaxInt, m, full(m, api.Aborted)), m, api.Running))
	}
}

func encodes(t *testing.T, p api.Page) {
	t.Helper()
	data, err := page.Encode(p)
	if err != api.OK {
		t.Fatalf("Encode(%+v): %v", p, err)
	}
	q, err := page.Decode(data)
	if err != api.OK || !page.Same(p, q) {
		t.Fatalf("Decode: %+v %v, want %+v", q, err, p)
	}
}

// R2

func TestNoPageSharesItsListWithTheOneHandedIn(t *testing.T) {
	for what, change := range map[string]func(p api.Page) (api.Page, api.Errno){
		"Set":             func(p api.Page) (api.Page, api.Errno) { return clog.Set(16, p, 5, api.Committed) },
		"Set as it is":    func(p api.Page) (api.Page, api.Errno) { return clog.Set(16, p, 5, api.Aborted) },
		"Set of no id":    func(p api.Page) (api.Page, api.Errno) { return clog.Set(16, p, 17, api.Committed) },
		"Set of none":     func(p api.Page) (api.Page, api.Errno) { return clog.Set(16, p, 5, 4) },
		"Cut":             func(p api.Page) (api.Page, api.Errno) { return clog.Cut(16, p, 9) },
		"Cut as it is":    func(p api.Page) (api.Page, api.Errno) { return clog.Cut(16, p, 3) },
		"Cut of no id":    func(p api.Page) (api.Page, api.Errno) { return clog.Cut(16, p, 0) },
		"a wrong modulus": func(p api.Page) (api.Page, api.Errno) { return clog.Set(18, p, 5, api.Committed) },
	} {
		want := pageOf(7, 3, full(16, api.Aborted))
		p := want
		p.Items = append(make([]string, 0, 6), want.Items...)
		q, _ := change(p)
		for i := range q.Items {
			q.Items[i] = "written"
		}
		_ = append(q.Items, "behind")
		is(t, what, p, want)
		if behind := p.Items[2:6]; !slices.Equal(behind, make([]string, 4)) {
			t.Errorf("%s: behind the list stand %q", what, behind)
		}

		r, _ := change(p)
		before := slices.Clone(r.Items)
		p.Items[0], p.Items[1] = "changed", "changed"
		if !slices.Equal(r.Items, before) {
			t.Errorf("%s: %q was changed with the page handed in", what, r.Items)
		}
	}
}

func TestBlankPagesAreApart(t *testing.T) {
	p, q := blank(t, 16, 3), blank(t, 16, 3)
	p.Items[0], p.Items[1] = "changed", "changed"
	is(t, "Blank", q, pageOf(0, 3, make(table, 17)))
}

// Examples

func TestExamples(t *testing.T) {
	p := blank(t, 16, 3)
	is(t, "Blank", p, api.Page{Kind: api.ClogPage, Items: []string{"\x03", "\x00\x00\x00\x00"}})
	p = set(t, 16, p, 5, api.Committed)
	is(t, "Set", p, api.Page{Kind: api.ClogPage, Items: []string{"\x03", "\x00\x02\x00\x00"}})
	p = set(t, 16, p, 8, api.Aborted)
	is(t, "Set", p, api.Page{Kind: api.ClogPage, Items: []string{"\x03", "\x00\xc2\x00\x00"}})
	gets(t, 16, p, 5, api.Committed)
	gets(t, 16, p, 6, api.Unknown)
	is(t, "Cut", cut(t, 16, p, 8), api.Page{Kind: api.ClogPage, Items: []string{"\x08", "\x00\xc0\x00\x00"}})
	is(t, "Cut", cut(t, 16, p, 9), api.Page{Kind: api.ClogPage, Items: []string{"\x09", "\x00\x00\x00\x00"}})
	if s, err := clog.Get(16, p, 17); s != 0 || err != api.ErrArg {
		t.Errorf("Get of 17: %d %v", s, err)
	}
	checks(t, 18, p, api.ErrBody)
}
