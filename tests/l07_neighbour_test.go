package tests

import (
	"fmt"
	"math"
	"testing"

	"loop.example/g00726/impl"
)

const lastTime = 100000000
const lastIp = 4294967295
const lastMac = 281474976710655

func entry(ip int64, mac int64, until int64) impl.Entry {
	return impl.Entry{Ip: ip, Mac: mac, Until: until}
}

// someCache tells count entries whose ips and times stand in no order, so that one that was sorted by them shows.
func someCache(count int) []impl.Entry {
	all := []impl.Entry{entry(30, 303, 500), entry(10, 101, 900), entry(40, 404, 100), entry(20, 202, 700), entry(50, 505, 300)}
	return all[:count:count]
}

// areEntries does not lean on SameCaches, which is itself asked.
func areEntries(got []impl.Entry, want []impl.Entry) bool {
	if len(got) != len(want) {
		return false
	}
	for i := range got {
		if got[i].Ip != want[i].Ip || got[i].Mac != want[i].Mac || got[i].Until != want[i].Until {
			return false
		}
	}
	return true
}

func wantCache(t *testing.T, call string, got impl.CacheResult, code int64, want ...impl.Entry) {
	t.Helper()
	if got.Code != code || !areEntries(got.Cache, want) {
		t.Errorf("%s: code %d, cache %v; want code %d, cache %v", call, got.Code, got.Cache, code, want)
	}
}

// without tells the cache again but for the entries that are so: another way to let one go than the program's.
func without(cache []impl.Entry, isGone func(impl.Entry) bool) []impl.Entry {
	left := []impl.Entry{}
	for _, e := range cache {
		if !isGone(e) {
			left = append(left, e)
		}
	}
	return left
}

func cacheThen(cache []impl.Entry, ip int64, mac int64, now int64) []impl.Entry {
	others := without(cache, func(e impl.Entry) bool { return e.Ip == ip })
	if len(others) == 4 {
		others = others[1:]
	}
	until := now + 60000
	if until > lastTime {
		until = lastTime
	}
	return append(others, entry(ip, mac, until))
}

// checkLearn holds LearnEntry against the model, and asks for what was learned as long as it counts; it tells the cache then.
func checkLearn(t *testing.T, cache []impl.Entry, ip int64, mac int64, now int64) []impl.Entry {
	t.Helper()
	call := fmt.Sprintf("LearnEntry of ip %d, mac %d, now %d, cache %v", ip, mac, now, cache)
	want := cacheThen(cache, ip, mac, now)
	got := impl.LearnEntry(cache, ip, mac, now)
	wantCache(t, call, got, impl.OK, want...)
	wantCode(t, "CacheFault behind "+call, impl.CacheFault(got.Cache), impl.OK)
	until := want[len(want)-1].Until
	for _, at := range []int64{now, until - 1, until} {
		if at >= now {
			wantInt(t, fmt.Sprintf("FindEntry at %d behind %s", at, call), impl.FindEntry(got.Cache, ip, at), impl.OK, mac)
		}
	}
	if until < lastTime {
		wantInt(t, "FindEntry too late behind "+call, impl.FindEntry(got.Cache, ip, until+1), impl.ErrNone, 0)
	}
	return got.Cache
}

func TestP8Constants(t *testing.T) {
	if impl.MaxEntries != 4 || impl.KeepTime != 60000 || impl.MaxTime != lastTime {
		t.Error("a bound is another one")
	}
}

func TestP8LearningOneThatWasNotThere(t *testing.T) {
	cache := someCache(4)
	learned := entry(25, 9, 60700)
	rows := [][]impl.Entry{
		{learned},
		{cache[0], learned},
		{cache[0], cache[1], learned},
		{cache[0], cache[1], cache[2], learned},
		{cache[1], cache[2], cache[3], learned},
	}
	for count, want := range rows {
		got := impl.LearnEntry(someCache(count), 25, 9, 700)
		wantCache(t, fmt.Sprintf("one more than %d", count), got, impl.OK, want...)
		checkLearn(t, someCache(count), 25, 9, 700)
	}
	wantCache(t, "into an empty cache", impl.LearnEntry([]impl.Entry{}, 25, 9, 700), impl.OK, learned)
}

func TestP8LearningOneThatIsThere(t *testing.T) {
	for count := 1; count <= 4; count++ {
		for at, e := range someCache(count) {
			for _, mac := range []int64{e.Mac, 9, 0} {
				cache := someCache(count)
				want := append(cache[:at:at], cache[at+1:]...)
				want = append(want, entry(e.Ip, mac, 60700))
				got := impl.LearnEntry(someCache(count), e.Ip, mac, 700)
				wantCache(t, fmt.Sprintf("entry %d of %d again, mac %d", at, count, mac), got, impl.OK, want...)
				checkLearn(t, someCache(count), e.Ip, mac, 700)
			}
		}
	}
}

// An entry that counts no more takes room as well: it is AgeCache that lets it go.
func TestP8LearningLetsNoneGoByItsTime(t *testing.T) {
	cache := someCache(3)
	got := impl.LearnEntry(cache, 25, 9, 5000)
	wantCache(t, "all others are old", got, impl.OK, cache[0], cache[1], cache[2], entry(25, 9, 65000))
	cache = []impl.Entry{entry(1, 1, 9000), entry(2, 2, 10), entry(3, 3, 9000), entry(4, 4, 9000)}
	got = impl.LearnEntry(cache, 5, 5, 5000)
	wantCache(t, "the second one is old, the first one goes", got, impl.OK, cache[1], cache[2], cache[3], entry(5, 5, 65000))
}

// A time that goes back is no fault: what was learned last counts.
func TestP8LearningAtAnEarlierTime(t *testing.T) {
	cache := []impl.Entry{entry(1, 1, 90000), entry(2, 2, 90000)}
	wantCache(t, "earlier", impl.LearnEntry(cache, 1, 1, 0), impl.OK, cache[1], entry(1, 1, 60000))
}

func TestP8LearnedUntil(t *testing.T) {
	rows := []struct{ now, until int64 }{
		{0, 60000},
		{1, 60001},
		{60000, 120000},
		{lastTime - 60000 - 1, lastTime - 1},
		{lastTime - 60000, lastTime},
		{lastTime - 60000 + 1, lastTime},
		{lastTime - 1, lastTime},
		{lastTime, lastTime},
	}
	for _, row := range rows {
		call := fmt.Sprint("learned at ", row.now)
		wantCache(t, call, impl.LearnEntry(nil, 7, 70, row.now), impl.OK, entry(7, 70, row.until))
		wantCache(t, call+" again", impl.LearnEntry([]impl.Entry{entry(7, 7, 3)}, 7, 70, row.now), impl.OK, entry(7, 70, row.until))
		checkLearn(t, someCache(4), 7, 70, row.now)
	}
}

func TestP8LearningAllThatIsAnAddress(t *testing.T) {
	for _, ip := range someIps() {
		for _, mac := range someMacs() {
			for _, now := range []int64{0, 1, lastTime - 1, lastTime} {
				for count := range 5 {
					checkLearn(t, someCache(count), ip, mac, now)
				}
			}
		}
	}
}

func TestP8Finding(t *testing.T) {
	for count := range 5 {
		cache := someCache(count)
		for _, e := range cache {
			call := fmt.Sprintf("FindEntry of %d among %d at ", e.Ip, count)
			for _, now := range []int64{0, e.Until - 1, e.Until} {
				wantInt(t, call+fmt.Sprint(now), impl.FindEntry(cache, e.Ip, now), impl.OK, e.Mac)
			}
			for _, now := range []int64{e.Until + 1, e.Until + 1000, lastTime} {
				wantInt(t, call+fmt.Sprint(now), impl.FindEntry(cache, e.Ip, now), impl.ErrNone, 0)
			}
		}
		for _, ip := range []int64{0, 9, 11, 50, 101, lastIp} {
			for _, now := range []int64{0, 500, lastTime} {
				wantInt(t, fmt.Sprintf("FindEntry of %d, that is not there, at %d", ip, now), impl.FindEntry(cache, ip, now), impl.ErrNone, 0)
			}
		}
	}
}

func TestP8FindingAtTheEndsOfTime(t *testing.T) {
	cache := []impl.Entry{entry(0, 5, 0), entry(lastIp, lastMac, lastTime), entry(6, 0, 10)}
	wantInt(t, "until 0, at 0", impl.FindEntry(cache, 0, 0), impl.OK, 5)
	wantInt(t, "until 0, at 1", impl.FindEntry(cache, 0, 1), impl.ErrNone, 0)
	wantInt(t, "until the last time, at 0", impl.FindEntry(cache, lastIp, 0), impl.OK, lastMac)
	wantInt(t, "until the last time, then", impl.FindEntry(cache, lastIp, lastTime), impl.OK, lastMac)
	wantInt(t, "a mac of 0 is found", impl.FindEntry(cache, 6, 10), impl.OK, 0)
}

func TestP8Ageing(t *testing.T) {
	cache := []impl.Entry{entry(30, 3, 500), entry(10, 1, 499), entry(40, 4, 501), entry(20, 2, 500)}
	rows := []struct {
		now  int64
		want []impl.Entry
	}{
		{0, cache},
		{499, cache},
		{500, []impl.Entry{cache[0], cache[2], cache[3]}},
		{501, []impl.Entry{cache[2]}},
		{502, nil},
		{lastTime, nil},
	}
	for _, row := range rows {
		wantCache(t, fmt.Sprint("AgeCache at ", row.now), impl.AgeCache(cache, row.now), impl.OK, row.want...)
	}
	ends := []impl.Entry{entry(1, 1, 0), entry(2, 2, lastTime), entry(3, 3, lastTime-1)}
	wantCache(t, "ends of time at 0", impl.AgeCache(ends, 0), impl.OK, ends...)
	wantCache(t, "ends of time at 1", impl.AgeCache(ends, 1), impl.OK, ends[1], ends[2])
	wantCache(t, "ends of time at the last but one", impl.AgeCache(ends, lastTime-1), impl.OK, ends[1], ends[2])
	wantCache(t, "ends of time at the last one", impl.AgeCache(ends, lastTime), impl.OK, ends[1])
	for _, now := range []int64{0, 1, lastTime} {
		wantCache(t, "AgeCache of none", impl.AgeCache(nil, now), impl.OK)
		wantCache(t, "AgeCache of an empty one", impl.AgeCache([]impl.Entry{}, now), impl.OK)
	}
}

// Each entry is one below now, now or one above it, in all ways that four can be.
func TestP8AgeingEachOfFour(t *testing.T) {
	for _, now := range []int64{1, 500, lastTime - 1} {
		for way := range 81 {
			for count := range 5 {
				cache := someCache(count)
				rest := int64(way)
				for i := range cache {
					cache[i].Until = now - 1 + rest%3
					rest /= 3
				}
				want := without(cache, func(e impl.Entry) bool { return e.Until < now })
				got := impl.AgeCache(cache, now)
				wantCache(t, fmt.Sprintf("AgeCache at %d of %v", now, cache), got, impl.OK, want...)
				wantCode(t, "CacheFault behind it", impl.CacheFault(got.Cache), impl.OK)
			}
		}
	}
}

// What is aged away is what is not found: both mean the same by "counts".
func TestP8AgeingLeavesWhatIsFound(t *testing.T) {
	cache := someCache(4)
	for now := int64(0); now <= 1000; now++ {
		aged := impl.AgeCache(cache, now).Cache
		for _, e := range cache {
			wantInt(t, fmt.Sprintf("FindEntry of %d at %d", e.Ip, now), impl.FindEntry(aged, e.Ip, now), impl.FindEntry(cache, e.Ip, now).Code, impl.FindEntry(cache, e.Ip, now).Value)
			isLeft := len(without(aged, func(o impl.Entry) bool { return o.Ip != e.Ip })) == 1
			wantBool(t, fmt.Sprintf("entry of %d is left at %d", e.Ip, now), isLeft, e.Until >= now)
		}
	}
}

func TestP8ALongTimeOfLearning(t *testing.T) {
	state := uint32(7)
	cache, now := []impl.Entry(nil), int64(0)
	for range 3000 {
		ip, mac := int64(nextDraw(&state, 7))*613566756, int64(nextDraw(&state, 1<<20))
		cache = checkLearn(t, cache, ip, mac, now)
		now += int64(nextDraw(&state, 50000))
		if nextDraw(&state, 4) == 0 {
			want := without(cache, func(e impl.Entry) bool { return e.Until < now })
			aged := impl.AgeCache(cache, now)
			wantCache(t, fmt.Sprintf("AgeCache at %d of %v", now, cache), aged, impl.OK, want...)
			cache = aged.Cache
		}
	}
	if now >= lastTime {
		t.Fatal("the time ran out; the draws are to be shorter")
	}
}

// sizeOfNet doubles as often as an ip has bits that are not those of the net.
func sizeOfNet(bits int64) int64 {
	size := int64(1)
	for ; bits < 32; bits++ {
		size *= 2
	}
	return size
}

// checkHop holds NextHop against the first and the last ip of the net.
func checkHop(t *testing.T, r impl.Route, ip int64) {
	t.Helper()
	size := sizeOfNet(r.Bits)
	first := r.Ip - r.Ip%size
	code, hop := int64(impl.OK), ip
	if ip < first || ip > first+size-1 {
		hop = r.Gateway
		if hop == 0 {
			code = impl.ErrNone
		}
	}
	wantInt(t, fmt.Sprintf("NextHop of %v to %d", r, ip), impl.NextHop(r, ip), code, hop)
}

func TestP8Hops(t *testing.T) {
	own := int64(10<<24 + 1<<16 + 130<<8 + 77) // 10.1.130.77
	rows := []struct{ bits, first, last int64 }{
		{8, 10 << 24, 11<<24 - 1},
		{9, 10 << 24, 10<<24 + 127<<16 + 65535},
		{24, 10<<24 + 1<<16 + 130<<8, 10<<24 + 1<<16 + 130<<8 + 255},
		{29, 10<<24 + 1<<16 + 130<<8 + 72, 10<<24 + 1<<16 + 130<<8 + 79},
		{30, 10<<24 + 1<<16 + 130<<8 + 76, 10<<24 + 1<<16 + 130<<8 + 79},
	}
	gateway := int64(10<<24 + 1<<16 + 130<<8 + 78)
	for _, row := range rows {
		bare := impl.Route{Ip: own, Bits: row.bits}
		served := impl.Route{Ip: own, Bits: row.bits, Gateway: gateway}
		for _, ip := range []int64{own, own + 1, row.first, row.first + 1, row.last - 1, row.last} {
			call := fmt.Sprintf("%d bits, near, to %d", row.bits, ip)
			wantInt(t, call+" without a gateway", impl.NextHop(bare, ip), impl.OK, ip)
			wantInt(t, call+" with a gateway", impl.NextHop(served, ip), impl.OK, ip)
		}
		for _, ip := range []int64{0, 1, row.first - 1, row.last + 1, 192<<24 + 168<<16 + 1, lastIp} {
			call := fmt.Sprintf("%d bits, far, to %d", row.bits, ip)
			wantInt(t, call+" without a gateway", impl.NextHop(bare, ip), impl.ErrNone, 0)
			wantInt(t, call+" with a gateway", impl.NextHop(served, ip), impl.OK, gateway)
		}
	}
}

// Any own ip will do, 0 and the last one of a net as well, and so does any gateway: near, far, or the own ip.
func TestP8HopsOfAllNets(t *testing.T) {
	owns := append(someIps(), 1<<24-1, 1<<24, 1<<31-1, 1<<31, 3232235521)
	for bits := int64(8); bits <= 30; bits++ {
		size := sizeOfNet(bits)
		for _, own := range owns {
			first := own - own%size
			for _, gateway := range []int64{0, 1, own, first, first + 1, 3232235774, lastIp} {
				r := impl.Route{Ip: own, Bits: bits, Gateway: gateway}
				wantCode(t, fmt.Sprintf("RouteFault of %v", r), impl.RouteFault(r), impl.OK)
				for _, ip := range append(owns, first-1, first, first+1, first+size-2, first+size-1, first+size, first+2*size, own^1) {
					if ip >= 0 && ip <= lastIp {
						checkHop(t, r, ip)
					}
				}
			}
		}
	}
}

// wantCacheFault asks all that asks the fault, with arguments that have one of their own, too: the fault is ahead.
func wantCacheFault(t *testing.T, call string, code int64, cache ...impl.Entry) {
	t.Helper()
	wantCode(t, "CacheFault: "+call, impl.CacheFault(cache), code)
	if code == impl.OK {
		return
	}
	for _, n := range []int64{0, 5, -1, math.MinInt64, math.MaxInt64} {
		wantCache(t, "LearnEntry: "+call, impl.LearnEntry(cache, n, n, n), code)
		wantInt(t, "FindEntry: "+call, impl.FindEntry(cache, n, n), code, 0)
		wantCache(t, "AgeCache: "+call, impl.AgeCache(cache, n), code)
	}
}

func TestP1CachesOfHowMany(t *testing.T) {
	for count := range 5 {
		wantCacheFault(t, fmt.Sprint(count, " entries"), impl.OK, someCache(count)...)
	}
	wantCacheFault(t, "5 entries", impl.ErrMany, someCache(5)...)
	wantCacheFault(t, "5 entries that are all the same", impl.ErrMany, make([]impl.Entry, 5)...)
	wantCacheFault(t, "70000 entries", impl.ErrMany, make([]impl.Entry, 70000)...)
	outOf := someCache(5)
	outOf[0].Ip, outOf[1].Ip = -1, -1
	wantCacheFault(t, "5 entries, a range, two alike", impl.ErrMany, outOf...)
	wantCode(t, "CacheFault of an empty cache", impl.CacheFault([]impl.Entry{}), impl.OK)
}

func noTime() []int64 {
	return outside(0, lastTime)
}

// withOneEntryField tells a cache once with each number that is not so in one field of the entry at a place.
func withOneEntryField(count int, at int) [][]impl.Entry {
	list := [][]impl.Entry{}
	add := func(numbers []int64, turn func(*impl.Entry, int64)) {
		for _, number := range numbers {
			cache := append([]impl.Entry{}, someCache(count)...)
			turn(&cache[at], number)
			list = append(list, cache)
		}
	}
	add(outside(0, lastIp), func(e *impl.Entry, n int64) { e.Ip = n })
	add(outside(0, lastMac), func(e *impl.Entry, n int64) { e.Mac = n })
	add(noTime(), func(e *impl.Entry, n int64) { e.Until = n })
	return list
}

func TestP1EntriesOutOfRange(t *testing.T) {
	for count := 1; count <= 4; count++ {
		for at := range count {
			for _, cache := range withOneEntryField(count, at) {
				wantCacheFault(t, fmt.Sprint(cache), impl.ErrRange, cache...)
			}
		}
	}
	for _, ip := range someIps() {
		for _, mac := range someMacs() {
			for _, until := range []int64{0, 1, lastTime - 1, lastTime} {
				wantCacheFault(t, "within all bounds", impl.OK, entry(ip, mac, until))
				wantCacheFault(t, "within all bounds, behind another one", impl.OK, entry(7, 7, 7), entry(ip, mac, until))
			}
		}
	}
}

func TestP1EntriesOfTheSameIp(t *testing.T) {
	for count := 2; count <= 4; count++ {
		for first := range count {
			for second := first + 1; second < count; second++ {
				call := fmt.Sprintf("entries %d and %d of %d", first, second, count)
				cache := append([]impl.Entry{}, someCache(count)...)
				cache[second].Ip = cache[first].Ip
				wantCacheFault(t, call+" have the same ip", impl.ErrTaken, cache...)
				cache[second] = cache[first]
				wantCacheFault(t, call+" are the same", impl.ErrTaken, cache...)
			}
		}
	}
	wantCacheFault(t, "all have the ip 0", impl.ErrTaken, entry(0, 1, 2), entry(0, 2, 3), entry(0, 3, 4))
	wantCacheFault(t, "all but the ips are the same", impl.OK, entry(1, 5, 5), entry(2, 5, 5), entry(3, 5, 5), entry(4, 5, 5))
	wantCacheFault(t, "the ips are macs and times of others", impl.OK, entry(1, 2, 3), entry(2, 3, 1), entry(3, 1, 2))
}

// A range of the last entry is ahead of two of the same ip that stand ahead of it.
func TestP1RangeAheadOfTaken(t *testing.T) {
	bad := []impl.Entry{entry(-1, 0, 0), entry(lastIp+1, 0, 0), entry(7, -1, 0), entry(7, lastMac+1, 0), entry(7, 0, -1), entry(7, 0, lastTime+1)}
	for _, e := range bad {
		wantCacheFault(t, "behind two of the same ip", impl.ErrRange, entry(3, 0, 0), entry(3, 0, 0), e)
		wantCacheFault(t, "between two of the same ip", impl.ErrRange, entry(3, 0, 0), e, entry(3, 0, 0))
		wantCacheFault(t, "ahead of two of the same ip", impl.ErrRange, e, entry(3, 0, 0), entry(3, 0, 0))
		wantCacheFault(t, "twice", impl.ErrRange, e, e)
	}
}

// ErrRange is ahead of ErrNone, and is asked whether or not the ip is there.
func TestP1NeighbourArgumentsOutOfRange(t *testing.T) {
	for count := range 5 {
		cache := someCache(count)
		for _, ip := range append([]int64{30, 99}, someIps()...) {
			for _, n := range noMac() {
				wantCache(t, fmt.Sprint("LearnEntry of mac ", n), impl.LearnEntry(cache, ip, n, 5), impl.ErrRange)
			}
			for _, n := range noTime() {
				wantCache(t, fmt.Sprint("LearnEntry at ", n), impl.LearnEntry(cache, ip, 5, n), impl.ErrRange)
				wantInt(t, fmt.Sprint("FindEntry at ", n), impl.FindEntry(cache, ip, n), impl.ErrRange, 0)
				wantCache(t, fmt.Sprint("AgeCache at ", n), impl.AgeCache(cache, n), impl.ErrRange)
			}
		}
		for _, n := range noIp() {
			wantCache(t, fmt.Sprint("LearnEntry of ip ", n), impl.LearnEntry(cache, n, 5, 5), impl.ErrRange)
			for _, now := range []int64{0, 5, lastTime} {
				wantInt(t, fmt.Sprint("FindEntry of ip ", n), impl.FindEntry(cache, n, now), impl.ErrRange, 0)
			}
			for _, m := range noTime() {
				wantInt(t, fmt.Sprintf("FindEntry of ip %d at %d", n, m), impl.FindEntry(cache, n, m), impl.ErrRange, 0)
				wantCache(t, fmt.Sprintf("LearnEntry of %d and %d", n, m), impl.LearnEntry(cache, n, m, m), impl.ErrRange)
			}
		}
	}
}

func wantRouteFault(t *testing.T, r impl.Route) {
	t.Helper()
	wantCode(t, fmt.Sprintf("RouteFault of %v", r), impl.RouteFault(r), impl.ErrRange)
	for _, ip := range append(someIps(), r.Ip, r.Gateway, -1, math.MinInt64, math.MaxInt64) {
		wantInt(t, fmt.Sprintf("NextHop of %v to %d", r, ip), impl.NextHop(r, ip), impl.ErrRange, 0)
	}
}

func TestP1RoutesOutOfRange(t *testing.T) {
	fine := impl.Route{Ip: hostA, Bits: 24, Gateway: hostB}
	wantRouteFault(t, impl.Route{})
	for _, bits := range append([]int64{-8, 0, 7, 31, 32, 33, 64, 65}, outside(8, 30)...) {
		wantRouteFault(t, impl.Route{Ip: fine.Ip, Bits: bits, Gateway: fine.Gateway})
		wantRouteFault(t, impl.Route{Ip: fine.Ip, Bits: bits})
	}
	for _, n := range noIp() {
		wantRouteFault(t, impl.Route{Ip: n, Bits: 24, Gateway: fine.Gateway})
		wantRouteFault(t, impl.Route{Ip: fine.Ip, Bits: 24, Gateway: n})
		wantRouteFault(t, impl.Route{Ip: n, Bits: n, Gateway: n})
	}
	for _, bits := range []int64{8, 30} {
		for _, ip := range someIps() {
			for _, gateway := range someIps() {
				r := impl.Route{Ip: ip, Bits: bits, Gateway: gateway}
				wantCode(t, fmt.Sprintf("RouteFault of %v", r), impl.RouteFault(r), impl.OK)
			}
		}
	}
}

// With no gateway a far ip has ErrNone; one that is none has ErrRange ahead of it.
func TestP1HopsToNoIp(t *testing.T) {
	for _, bits := range []int64{8, 24, 30} {
		for _, own := range someIps() {
			for _, gateway := range []int64{0, hostB} {
				for _, n := range noIp() {
					r := impl.Route{Ip: own, Bits: bits, Gateway: gateway}
					wantInt(t, fmt.Sprintf("NextHop of %v to %d", r, n), impl.NextHop(r, n), impl.ErrRange, 0)
				}
			}
		}
	}
}

func TestP1SameCaches(t *testing.T) {
	wantSame(t, impl.SameCaches, "nil and empty", nil, []impl.Entry{}, true)
	for count := range 6 {
		cache := someCache(count)
		wantSame(t, impl.SameCaches, fmt.Sprint(count, " entries"), cache, someCache(count), true)
		for fewer := range count {
			wantSame(t, impl.SameCaches, fmt.Sprintf("%d and %d entries", count, fewer), cache, someCache(fewer), false)
			wantSame(t, impl.SameCaches, "the last ones alone", cache, cache[count-fewer:], false)
		}
		for at := range count {
			checkOneEntryField(t, cache, at)
		}
	}
	wantSame(t, impl.SameCaches, "one entry, that is zero, and none", make([]impl.Entry, 1), nil, false)
}

func checkOneEntryField(t *testing.T, cache []impl.Entry, at int) {
	t.Helper()
	for _, by := range []int64{1, -1, 1 << 32, 1 << 48} {
		turns := []impl.Entry{{Ip: by}, {Mac: by}, {Until: by}}
		for _, turn := range turns {
			other := append([]impl.Entry{}, cache...)
			e := other[at]
			other[at] = entry(e.Ip+turn.Ip, e.Mac+turn.Mac, e.Until+turn.Until)
			wantSame(t, impl.SameCaches, fmt.Sprintf("entry %d is turned by %v", at, turn), cache, other, false)
		}
	}
	for to := range at {
		other := append([]impl.Entry{}, cache...)
		other[at], other[to] = other[to], other[at]
		wantSame(t, impl.SameCaches, fmt.Sprintf("entries %d and %d stand the other way round", at, to), cache, other, false)
	}
}

func TestP1SameCachesThatHaveAFault(t *testing.T) {
	faulty := [][]impl.Entry{
		make([]impl.Entry, 5),
		make([]impl.Entry, 70),
		{entry(3, 1, 1), entry(3, 1, 1)},
		{entry(3, 1, 1), entry(3, 2, 1)},
		{entry(3, 2, 1), entry(3, 1, 1)},
		{entry(-1, -1, -1)},
		{entry(lastIp+1, lastMac+1, lastTime+1)},
		{entry(math.MinInt64, math.MinInt64, math.MinInt64)},
		{entry(math.MaxInt64, math.MaxInt64, math.MaxInt64)},
	}
	for i, a := range faulty {
		for j, b := range faulty {
			wantSame(t, impl.SameCaches, fmt.Sprintf("%v and %v", a, b), a, append([]impl.Entry{}, b...), i == j)
		}
	}
}

// wantOwnCache asks that the cache and what is behind it are not changed, and that the answer shares no memory with it.
func wantOwnCache(t *testing.T, call string, cache []impl.Entry, ask func([]impl.Entry) impl.CacheResult) {
	t.Helper()
	spare := []impl.Entry{entry(91, 92, 93), entry(94, 95, 96)}
	whole := append(append([]impl.Entry{}, cache...), spare...)
	before := append([]impl.Entry{}, whole...)
	answer := ask(whole[:len(cache)])
	if !areEntries(whole, before) {
		t.Errorf("%s: the argument, or what is behind it, was changed", call)
	}
	kept := append([]impl.Entry{}, answer.Cache...)
	clear(whole)
	if !areEntries(answer.Cache, kept) {
		t.Errorf("%s: the answer changes with the argument", call)
	}
	copy(whole, before)
	clear(answer.Cache[:cap(answer.Cache)])
	if !areEntries(whole, before) {
		t.Errorf("%s: the argument changes with the answer", call)
	}
}

func TestP1CachesAreNewMemory(t *testing.T) {
	faulty := [][]impl.Entry{make([]impl.Entry, 2), {entry(-1, 0, 0), entry(2, 2, 2)}}
	caches := append([][]impl.Entry{}, faulty...)
	for count := range 6 {
		caches = append(caches, someCache(count))
	}
	for _, cache := range caches {
		for _, now := range []int64{-1, 0, 100, 400, 899, 1000, lastTime} {
			call := fmt.Sprintf(" at %d, %v", now, cache)
			for _, ip := range []int64{-1, 30, 10, 40, 20, 99} {
				wantOwnCache(t, "LearnEntry"+call, cache, func(given []impl.Entry) impl.CacheResult {
					return impl.LearnEntry(given, ip, 5, now)
				})
				wantOwnCache(t, "FindEntry"+call, cache, func(given []impl.Entry) impl.CacheResult {
					impl.FindEntry(given, ip, now)
					return impl.CacheResult{}
				})
			}
			wantOwnCache(t, "AgeCache"+call, cache, func(given []impl.Entry) impl.CacheResult {
				return impl.AgeCache(given, now)
			})
		}
		wantOwnCache(t, "what tells no cache", cache, func(given []impl.Entry) impl.CacheResult {
			impl.CacheFault(given)
			impl.SameCaches(given, given)
			impl.SameCaches(given, someCache(4))
			impl.SameCaches(someCache(4), given)
			return impl.CacheResult{}
		})
	}
}

// A map is gone through in another order each time: the answers stay as they are, however often they are asked for.
func TestP1CachesHangOnTheArgumentsAlone(t *testing.T) {
	cache := someCache(4)
	for range 300 {
		learned := impl.LearnEntry(cache, 99, 9, 5)
		wantCache(t, "LearnEntry", learned, impl.OK, cache[1], cache[2], cache[3], entry(99, 9, 60005))
		again := impl.LearnEntry(cache, 40, 9, 5)
		wantCache(t, "LearnEntry again", again, impl.OK, cache[0], cache[1], cache[3], entry(40, 9, 60005))
		wantCache(t, "AgeCache", impl.AgeCache(cache, 101), impl.OK, cache[0], cache[1], cache[3])
		wantCache(t, "AgeCache of none that is old", impl.AgeCache(cache, 100), impl.OK, cache...)
		wantInt(t, "FindEntry", impl.FindEntry(cache, 20, 700), impl.OK, 202)
		wantInt(t, "FindEntry too late", impl.FindEntry(cache, 20, 701), impl.ErrNone, 0)
		wantCacheFault(t, "two alike", impl.ErrTaken, cache[0], cache[1], cache[0])
		wantInt(t, "NextHop", impl.NextHop(impl.Route{Ip: hostA, Bits: 8, Gateway: hostB}, hostA^1), impl.OK, hostA^1)
	}
}

// The order in which entries stand is that in which they were learned, whatever their ips, macs and times are.
func TestP8TheOrderOfLearning(t *testing.T) {
	ips, macs := []int64{0, 7, 3232235521, lastIp}, []int64{lastMac, 0, 5, 6}
	orders([]int{0, 1, 2, 3}, 0, func(order []int) {
		cache, want := []impl.Entry(nil), []impl.Entry{}
		for i, at := range order {
			now := int64(1000 * (4 - i))
			cache = impl.LearnEntry(cache, ips[at], macs[at], now).Cache
			want = append(want, entry(ips[at], macs[at], now+60000))
		}
		wantCache(t, fmt.Sprint("in the order ", order), impl.CacheResult{Cache: cache}, impl.OK, want...)
	})
}
