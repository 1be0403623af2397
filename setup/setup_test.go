package setup

import (
	"math"
	"math/big"
	"reflect"
	"slices"
	"strconv"
	"strings"
	"testing"

	"analemma/api"
)

const (
	second = api.Second
	// How many fields there are, and how many of them are floating-point numbers.
	all    = 12
	floats = 7
)

// The numbers of those fields that others hang on, or that hang on them.
const (
	step    = 1
	panics  = 3
	phi     = 5
	minPoll = 8
	maxPoll = 9
)

// rows are the chapter's table: a field's name, from what to what it may be, what is standard.
var rows = [all + 1][4]string{
	{},
	{"step", "0.001", "10", "0.125"},
	{"watch", "1", "3600", "300"},
	{"panic", "1", "100000", "1000"},
	{"maxrate", "0.000001", "0.1", "0.0005"},
	{"phi", "0", "0.01", "0.000015"},
	{"maxdist", "0.01", "16", "1.5"},
	{"gate", "1", "100", "4"},
	{"minpoll", "4", "17", "6"},
	{"maxpoll", "4", "17", "10"},
	{"burst", "0", "8", "0"},
	{"minsane", "1", "10", "1"},
	{"minleft", "1", "10", "3"},
}

// number tells the float64 of what stands there.
func number(text string) float64 {
	f, err := strconv.ParseFloat(text, 64)
	if err != nil {
		panic(err)
	}
	return f
}

func low(field int) float64      { return number(rows[field][1]) }
func high(field int) float64     { return number(rows[field][2]) }
func standard(field int) float64 { return number(rows[field][3]) }

// with tells c, where the field of that number is x; a whole number beyond all of them is the last one on that side.
func with(c Config, field int, x float64) Config {
	v := reflect.ValueOf(&c).Elem().Field(field - 1)
	switch {
	case field <= floats:
		v.SetFloat(x)
	case x >= 1<<63:
		v.SetInt(math.MaxInt64)
	default:
		v.SetInt(int64(x))
	}
	return c
}

// in tells what the field of that number is in c.
func in(c Config, field int) float64 {
	v := reflect.ValueOf(c).Field(field - 1)
	if field <= floats {
		return v.Float()
	}
	return float64(v.Int())
}

// faultAlone tells the error of a field by its own bounds, by the chapter's own words.
func faultAlone(field int, x float64) api.Errno {
	switch {
	case x >= low(field) && x <= high(field):
		return api.OK
	case field > floats:
		return api.ErrSetup
	case math.IsNaN(x):
		return api.ErrNaN
	case math.IsInf(x, 0):
		return api.ErrInf
	}
	return api.ErrRange
}

// faultsOf tells each field's error, at the place of its number.
func faultsOf(c Config) [all + 1]api.Errno {
	var l [all + 1]api.Errno
	for field := 1; field <= all; field++ {
		l[field] = faultAlone(field, in(c, field))
	}
	if l[panics] == api.OK && l[step] == api.OK && !(c.Panic > c.Step) {
		l[panics] = api.ErrSetup
	}
	if l[maxPoll] == api.OK && l[minPoll] == api.OK && c.MaxPoll < c.MinPoll {
		l[maxPoll] = api.ErrSetup
	}
	return l
}

// floorOf tells f times 2^32, rounded down, by whole numbers of any length.
func floorOf(f float64) int64 {
	r := new(big.Rat).SetFloat64(f)
	r.Mul(r, new(big.Rat).SetInt64(second))
	return new(big.Int).Div(r.Num(), r.Denom()).Int64()
}

// paramsOf tells the Params of what has no fault.
func paramsOf(c Config) Params {
	return Params{
		floorOf(c.Step), floorOf(c.Watch), floorOf(c.Panic), floorOf(c.MaxRate), floorOf(c.Phi), floorOf(c.MaxDist), floorOf(c.Gate),
		c.MinPoll, c.MaxPoll, c.Burst, c.MinSane, c.MinLeft,
	}
}

// checkFaults holds the fields that are faults, and the first one's error, against what they should be.
func checkFaults(t *testing.T, c Config, first api.Errno, fields ...int) {
	t.Helper()
	if is := Faults(c); !slices.Equal(is, fields) {
		t.Errorf("Faults(%+v) = %v, not %v", c, is, fields)
	}
	should, field := Params{}, 0
	if first == api.OK {
		should = paramsOf(c)
	}
	if len(fields) > 0 {
		field = fields[0]
	}
	if p, f, e := Check(c); p != should || f != field || e != first {
		t.Errorf("Check(%+v) = %+v, %d, %d, not %+v, %d, %d", c, p, f, e, should, field, first)
	}
}

// checkModel holds c against the chapter's own words.
func checkModel(t *testing.T, c Config) {
	t.Helper()
	first, fields := api.OK, []int(nil)
	for field, fault := range faultsOf(c) {
		if fault == api.OK {
			continue
		}
		if fields == nil {
			first = fault
		}
		fields = append(fields, field)
	}
	checkFaults(t, c, first, fields...)
}

// widest tells what is standard, but with as much room for one field's change as the others leave.
func widest() Config {
	c := Standard()
	c.Step, c.Panic, c.MinPoll, c.MaxPoll = 0.001, 100000, 4, 17
	return c
}

// tries are what a field is set to: its ends, what is next to them, and what is no number of its kind at all.
func tries(field int) []float64 {
	l := []float64{
		low(field), high(field), standard(field), (low(field) + high(field)) / 2,
		low(field) - 1, high(field) + 1, low(field) + 1, high(field) - 1,
		0, 1, 2, -1, math.MinInt32, math.MaxInt32, 1 << 31, 1 << 32, 1<<32 + 5, math.MinInt64, 1 << 63,
	}
	if field > floats {
		return l
	}
	above, below := math.Inf(1), math.Inf(-1)
	return append(l,
		math.Nextafter(low(field), below), math.Nextafter(low(field), above), math.Nextafter(high(field), below), math.Nextafter(high(field), above),
		math.NaN(), above, below, math.Copysign(0, -1), math.SmallestNonzeroFloat64, -math.SmallestNonzeroFloat64, math.MaxFloat64, -math.MaxFloat64,
		1<<31-1, -1<<31, math.Nextafter(1<<31, 0), 1e300,
	)
}

// draws hands on numbers of 64 bits, the same ones each time.
func draws() func() uint64 {
	state := uint64(88172645463325252)
	return func() uint64 {
		state ^= state << 13
		state ^= state >> 7
		state ^= state << 17
		return state
	}
}

// configs tells as many configurations, the same ones each time: some standard in most fields, some in few.
func configs(n int) []Config {
	draw := draws()
	var l []Config
	for i := range n {
		c := Standard()
		for field := 1; field <= all; field++ {
			if draw()%12 < uint64(i%12) {
				x := tries(field)
				c = with(c, field, x[draw()%uint64(len(x))])
			}
		}
		// Both pairs near each other, so that they are held against each other.
		if i%3 == 0 {
			c.Step, c.Panic = 0.5+float64(draw()%19)/2, 0.5+float64(draw()%19)/2
			c.MinPoll, c.MaxPoll = int(3+draw()%16), int(3+draw()%16)
		}
		l = append(l, c)
	}
	return l
}

// The chapter's example.
func TestExample(t *testing.T) {
	c := Standard()
	c.Phi = math.NaN()
	checkFaults(t, c, api.ErrNaN, phi)
}

// P10.1: fields have numbers from 1 on, in the order that Config has them, and names in small letters.
func TestName(t *testing.T) {
	order := reflect.TypeFor[Config]()
	if order.NumField() != all {
		t.Fatalf("Config has %d fields", order.NumField())
	}
	for field := 1; field <= all; field++ {
		should := rows[field][0]
		if Name(field) != should || strings.ToLower(order.Field(field-1).Name) != should {
			t.Errorf("Name(%d) = %q, not %q", field, Name(field), should)
		}
	}
}

// P10.1: other numbers have no name.
func TestNameOfNone(t *testing.T) {
	for _, field := range []int{0, -1, -all, all + 1, 2 * all, 1 << 32, 1<<32 + 1, math.MaxInt64, math.MinInt64, math.MinInt64 + 1} {
		if Name(field) != "" {
			t.Errorf("Name(%d) = %q", field, Name(field))
		}
	}
}

// P10.1: both ends are within; what is next to them, on the other side, is not, and is ErrRange.
func TestEndsOfFloats(t *testing.T) {
	for field := 1; field <= floats; field++ {
		for _, x := range []float64{low(field), high(field), math.Nextafter(low(field), high(field)), math.Nextafter(high(field), low(field))} {
			checkFaults(t, with(widest(), field, x), api.OK)
		}
		for _, x := range []float64{math.Nextafter(low(field), math.Inf(-1)), math.Nextafter(high(field), math.Inf(1)), low(field) - 1, high(field) + 1} {
			checkFaults(t, with(widest(), field, x), api.ErrRange, field)
		}
	}
}

// P10.1: of a whole number likewise, by ErrSetup.
func TestEndsOfWholes(t *testing.T) {
	for field := floats + 1; field <= all; field++ {
		for x := low(field); x <= high(field); x++ {
			checkFaults(t, with(widest(), field, x), api.OK)
		}
		for _, x := range []float64{low(field) - 1, high(field) + 1, low(field) - 2, high(field) + 2, 1 << 32, 1<<32 + 5, -1 << 32, math.MinInt64, 1 << 63} {
			checkFaults(t, with(widest(), field, x), api.ErrSetup, field)
		}
	}
}

// P10.1, P10.2: what is no number, or an infinite one, is a fault by that error; what has no room is out of range.
func TestEdgesOfFloats(t *testing.T) {
	for field := 1; field <= floats; field++ {
		for _, bits := range []uint64{0x7ff8000000000001, 0x7ff0000000000001, 0xfff8000000000000, 0xffffffffffffffff} {
			checkFaults(t, with(widest(), field, math.Float64frombits(bits)), api.ErrNaN, field)
		}
		checkFaults(t, with(widest(), field, math.Inf(1)), api.ErrInf, field)
		checkFaults(t, with(widest(), field, math.Inf(-1)), api.ErrInf, field)
		for _, x := range []float64{1 << 31, math.Nextafter(1<<31, 0), 1 << 63, math.MaxFloat64} {
			checkFaults(t, with(widest(), field, x), api.ErrRange, field)
			checkFaults(t, with(widest(), field, -x), api.ErrRange, field)
		}
	}
}

// P10.1: Phi alone may be nought, with a sign too.
func TestNought(t *testing.T) {
	for _, x := range []float64{0, math.Copysign(0, -1), math.SmallestNonzeroFloat64} {
		for field := 1; field <= floats; field++ {
			if field == phi {
				checkFaults(t, with(widest(), field, x), api.OK)
				continue
			}
			checkFaults(t, with(widest(), field, x), api.ErrRange, field)
		}
	}
	checkFaults(t, with(widest(), phi, -math.SmallestNonzeroFloat64), api.ErrRange, phi)
}

// P10.1: Panic is above Step, or a fault of its own, if both are within.
func TestPanicAboveStep(t *testing.T) {
	nan := math.NaN()
	for _, x := range []struct {
		step, panic float64
		first       api.Errno
		fields      []int
	}{
		{1, 2, api.OK, nil},
		{1, 1, api.ErrSetup, []int{panics}},
		{2, 1, api.ErrSetup, []int{panics}},
		{10, 10, api.ErrSetup, []int{panics}},
		{10, 1, api.ErrSetup, []int{panics}},
		{10, 9.5, api.ErrSetup, []int{panics}},
		{10, math.Nextafter(10, 0), api.ErrSetup, []int{panics}},
		{10, math.Nextafter(10, 11), api.OK, nil},
		{math.Nextafter(1, 0), 1, api.OK, nil},
		{math.Nextafter(1, 2), 1, api.ErrSetup, []int{panics}},
		// A difference that is lost behind 2^-32 seconds is one.
		{5, math.Nextafter(5, 6), api.OK, nil},
		{math.Nextafter(5, 6), 5, api.ErrSetup, []int{panics}},
		// A Step that is a fault makes Panic none.
		{11, 2, api.ErrRange, []int{step}},
		{math.Nextafter(10, 11), 5, api.ErrRange, []int{step}},
		{1e300, 100000, api.ErrRange, []int{step}},
		{nan, 5, api.ErrNaN, []int{step}},
		{math.Inf(1), 5, api.ErrInf, []int{step}},
		{0, 5, api.ErrRange, []int{step}},
		// Of a Panic that is not within the bounds alone tell.
		{5, 0.5, api.ErrRange, []int{panics}},
		{0.001, 0, api.ErrRange, []int{panics}},
		{5, nan, api.ErrNaN, []int{panics}},
		{5, math.Inf(-1), api.ErrInf, []int{panics}},
		{5, math.Inf(1), api.ErrInf, []int{panics}},
		{11, 0.5, api.ErrRange, []int{step, panics}},
		{nan, math.Inf(1), api.ErrNaN, []int{step, panics}},
		{math.Inf(1), nan, api.ErrInf, []int{step, panics}},
	} {
		c := Standard()
		c.Step, c.Panic = x.step, x.panic
		checkFaults(t, c, x.first, x.fields...)
	}
}

// P10.1: MaxPoll is not below MinPoll, or a fault, if both are within.
func TestPolls(t *testing.T) {
	edges := []int{math.MinInt64, -1, 0, math.MaxInt64}
	for n := 2; n <= 20; n++ {
		edges = append(edges, n)
	}
	for _, least := range edges {
		for _, most := range edges {
			c := Standard()
			c.MinPoll, c.MaxPoll = least, most
			var fields []int
			leastIn, mostIn := least >= 4 && least <= 17, most >= 4 && most <= 17
			if !leastIn {
				fields = append(fields, minPoll)
			}
			if !mostIn || leastIn && most < least {
				fields = append(fields, maxPoll)
			}
			first := api.OK
			if fields != nil {
				first = api.ErrSetup
			}
			checkFaults(t, c, first, fields...)
		}
	}
}

// P10.2: each field that is a fault is told, in order; Check tells the first one alone.
func TestManyFaults(t *testing.T) {
	checkFaults(t, Config{}, api.ErrRange, 1, 2, 3, 4, 6, 7, 8, 9, 11, 12)
	c := Standard()
	c.MinLeft = 11
	checkFaults(t, c, api.ErrSetup, 12)
	c.Burst = -1
	checkFaults(t, c, api.ErrSetup, 10, 12)
	c.Gate = math.Inf(-1)
	checkFaults(t, c, api.ErrInf, 7, 10, 12)
	c.Phi = math.NaN()
	checkFaults(t, c, api.ErrNaN, 5, 7, 10, 12)
	c.Panic, c.Step = 5, 6
	checkFaults(t, c, api.ErrSetup, 3, 5, 7, 10, 12)
	c.Watch = 3601
	checkFaults(t, c, api.ErrRange, 2, 3, 5, 7, 10, 12)
	c.Step = math.NaN()
	checkFaults(t, c, api.ErrNaN, 1, 2, 5, 7, 10, 12)
}

// P10.2: all fields that are faults are told in order, whichever they are.
func TestEachOfTwo(t *testing.T) {
	for a := 1; a <= all; a++ {
		for b := a; b <= all; b++ {
			c := with(with(widest(), a, -5), b, -5)
			first := api.ErrRange
			if a > floats {
				first = api.ErrSetup
			}
			checkFaults(t, c, first, slices.Compact([]int{a, b})...)
		}
	}
}

// P10.2: the standard column.
func TestStandard(t *testing.T) {
	for field := 1; field <= all; field++ {
		if is := in(Standard(), field); is != standard(field) {
			t.Errorf("%s is %g, not %g", rows[field][0], is, standard(field))
		}
	}
}

// P10.2: Params are 2^-32 seconds, rounded down, and whole numbers as they are.
func TestParams(t *testing.T) {
	should := Params{
		Step: second / 8, Watch: 300 * second, Panic: 1000 * second, MaxRate: 2147483, Phi: 64424, MaxDist: 3 * second / 2, Gate: 4 * second,
		MinPoll: 6, MaxPoll: 10, Burst: 0, MinSane: 1, MinLeft: 3,
	}
	if p, field, e := Check(Standard()); p != should || field != 0 || e != api.OK {
		t.Errorf("Check(Standard()) = %+v, %d, %d, not %+v", p, field, e, should)
	}
	least := Config{0.001, 1, 1, 0.000001, 0, 0.01, 1, 4, 4, 0, 1, 1}
	should = Params{4294967, second, second, 4294, 0, 42949672, second, 4, 4, 0, 1, 1}
	if p, field, e := Check(least); p != should || field != 0 || e != api.OK {
		t.Errorf("Check(%+v) = %+v, %d, %d, not %+v", least, p, field, e, should)
	}
	most := Config{10, 3600, 100000, 0.1, 0.01, 16, 100, 17, 17, 8, 10, 10}
	should = Params{10 * second, 3600 * second, 100000 * second, 429496729, 42949672, 16 * second, 100 * second, 17, 17, 8, 10, 10}
	if p, field, e := Check(most); p != should || field != 0 || e != api.OK {
		t.Errorf("Check(%+v) = %+v, %d, %d, not %+v", most, p, field, e, should)
	}
	other := Config{9.5, 2, 33, 0.03, 0.004, 5, 6, 7, 9, 8, 10, 4}
	checkFaults(t, other, api.OK)
}

// P10.3: what is standard is no fault.
func TestStandardIsNoFault(t *testing.T) {
	checkFaults(t, Standard(), api.OK)
}

// P10.3: a field that is changed makes no other field a fault but Panic and MaxPoll, nor mends it.
func TestChanged(t *testing.T) {
	for _, c := range append(configs(300), Standard(), widest(), Config{}) {
		for field := 1; field <= all; field++ {
			hangs := func(n int) bool { return n == field || n == panics || n == maxPoll }
			before := slices.DeleteFunc(Faults(c), hangs)
			for _, x := range tries(field) {
				changed := with(c, field, x)
				if is := slices.DeleteFunc(Faults(changed), hangs); !slices.Equal(is, before) {
					t.Fatalf("%s of %+v changed to %g: faults %v, not %v", rows[field][0], c, x, is, before)
				}
			}
		}
	}
}

// P10.3: Panic hangs on Step, and MaxPoll on MinPoll, on no other field.
func TestHangsOnOne(t *testing.T) {
	for field := 1; field <= all; field++ {
		for _, x := range tries(field) {
			l := Faults(with(Standard(), field, x))
			if field != step && field != panics && slices.Contains(l, panics) {
				t.Errorf("%s of %g makes Panic a fault", rows[field][0], x)
			}
			if field != minPoll && field != maxPoll && slices.Contains(l, maxPoll) {
				t.Errorf("%s of %g makes MaxPoll a fault", rows[field][0], x)
			}
		}
	}
}

// P10.1, P10.2: each field, changed alone, and many of them, as the chapter's own words tell.
func TestAnyConfig(t *testing.T) {
	for field := 1; field <= all; field++ {
		for _, x := range tries(field) {
			checkModel(t, with(Standard(), field, x))
			checkModel(t, with(widest(), field, x))
			checkModel(t, with(Config{}, field, x))
		}
	}
	for _, c := range configs(20000) {
		if checkModel(t, c); t.Failed() {
			break
		}
	}
}

// R1: any bits of floating-point numbers.
func TestAnyBits(t *testing.T) {
	draw := draws()
	for range 3000 {
		c := Standard()
		for field := 1; field <= floats; field++ {
			if draw()%3 == 0 {
				c = with(c, field, math.Float64frombits(draw()))
			}
		}
		if checkModel(t, c); t.Failed() {
			break
		}
	}
}

// R3, R5: a list that was told is changed, and the next one is the same as before.
func TestNewMemory(t *testing.T) {
	c := Standard()
	c.Watch, c.Gate = 0, 0
	l := Faults(c)
	l[0], l[1] = 11, 12
	_ = append(l[:1], 5)
	s := Standard()
	s.Step = 7
	checkFaults(t, c, api.ErrRange, 2, 7)
	checkFaults(t, Standard(), api.OK)
	if Standard().Step != 0.125 {
		t.Error("what is standard was changed")
	}
}
