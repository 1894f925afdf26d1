package lay

import (
	"math"
	"slices"
	"testing"

	"ashlar/api"
)

// edges are whole numbers at which a call may go wrong.
func edges() []int {
	return []int{
		math.MinInt, math.MinInt + 1, math.MinInt + 15, math.MinInt + 16, math.MinInt / 2, -1 << 32, -1024, -17, -16, -3, -2, -1,
		0, 1, 2, 3, 4, 5, 7, 8, 9, 15, 16, 17, 18, 31, 32, 255, 256, 1023, 1024, 1025, 1 << 16, 1<<32 + 3,
		math.MaxInt / 2, math.MaxInt - 16, math.MaxInt - 15, math.MaxInt - 3, math.MaxInt - 2, math.MaxInt - 1, math.MaxInt,
	}
}

// sizes are how many members an array may have.
func sizes() []int {
	return []int{3, 4, 5, 6, 7, 8, 9, 10, 11, 12, 13, 14, 15, 16}
}

// farStripes are stripes near to the first one, and near to the greatest int.
func farStripes() []int {
	var l []int
	for s := range 100 {
		l = append(l, s, 1000+s, math.MaxInt-s)
	}
	return l
}

func isSize(members int) bool { return slices.Contains(sizes(), members) }

// wrong tells whether an error is not the one that is asked for: ErrArg, where it is refused, else OK.
func wrong(e api.Errno, refused bool) bool {
	if refused {
		return e != api.ErrArg
	}
	return e != api.OK
}

func TestExamples(t *testing.T) { // the chapter's example
	for stripe, want := range []int{3, 2, 1, 0, 3} {
		if p, e := Parity(4, stripe); p != want || e != api.OK {
			t.Errorf("Parity(4, %d) = %d, %d", stripe, p, e)
		}
	}
	if s, e := Map(4, 4); s != (api.Spot{Stripe: 1, Member: 0, Place: 1}) || e != api.OK {
		t.Errorf("Map(4, 4) = %v, %d", s, e)
	}
	if l, e := Members(4, 1); !slices.Equal(l, []int{3, 0, 1, 2}) || e != api.OK {
		t.Errorf("Members(4, 1) = %v, %d", l, e)
	}
}

func TestCapacityIsTheDataOfAllStripes(t *testing.T) { // P3.1
	for _, c := range []struct{ members, stripes, want int }{
		{3, 1, 2}, {3, 1024, 2048}, {4, 40, 120}, {16, 1, 15}, {16, 1024, 15360},
	} {
		if n, e := Capacity(c.members, c.stripes); n != c.want || e != api.OK {
			t.Errorf("Capacity(%d, %d) = %d, %d", c.members, c.stripes, n, e)
		}
	}
	for _, members := range edges() {
		for _, stripes := range edges() {
			refused := !isSize(members) || stripes < 1 || stripes > 1024
			if n, e := Capacity(members, stripes); wrong(e, refused) || refused != (n == 0) {
				t.Errorf("Capacity(%d, %d) = %d, %d", members, stripes, n, e)
			}
		}
	}
}

func TestParityTurns(t *testing.T) { // P3.1
	for _, members := range sizes() {
		for _, stripe := range farStripes() {
			if p, e := Parity(members, stripe); p != members-1-stripe%members || e != api.OK {
				t.Errorf("Parity(%d, %d) = %d, %d", members, stripe, p, e)
			}
		}
	}
	if p, e := Parity(16, math.MaxInt); p != 0 || e != api.OK { // MaxInt is 15 modulo 16
		t.Errorf("%d, %d", p, e)
	}
}

func TestParityAndMembersRefuse(t *testing.T) { // P3.1, P3.2
	for _, members := range edges() {
		for _, stripe := range edges() {
			refused := !isSize(members) || stripe < 0
			if p, e := Parity(members, stripe); wrong(e, refused) || (refused && p != 0) {
				t.Errorf("Parity(%d, %d) = %d, %d", members, stripe, p, e)
			}
			if l, e := Members(members, stripe); wrong(e, refused) || (refused && l != nil) {
				t.Errorf("Members(%d, %d) = %v, %d", members, stripe, l, e)
			}
		}
	}
}

// spot is where a block lies, reckoned as the chapter's Words say.
func spot(members, block int) api.Spot {
	stripe, place := block/(members-1), block%(members-1)
	parity := members - 1 - stripe%members
	return api.Spot{Stripe: stripe, Member: (parity + 1 + place) % members, Place: place}
}

func TestMapTellsTheSpot(t *testing.T) { // P3.1
	for _, members := range edges() {
		for _, block := range append(edges(), farStripes()...) {
			if !isSize(members) || block < 0 {
				if s, e := Map(members, block); e != api.ErrArg || s != (api.Spot{}) {
					t.Errorf("Map(%d, %d) = %v, %d", members, block, s, e)
				}
				continue
			}
			if s, e := Map(members, block); e != api.OK || s != spot(members, block) {
				t.Errorf("Map(%d, %d) = %v, %d", members, block, s, e)
			}
		}
	}
}

func TestMapOfThreeMembers(t *testing.T) { // P3.1
	for block, want := range []api.Spot{
		{Stripe: 0, Member: 0, Place: 0}, {Stripe: 0, Member: 1, Place: 1},
		{Stripe: 1, Member: 2, Place: 0}, {Stripe: 1, Member: 0, Place: 1},
		{Stripe: 2, Member: 1, Place: 0}, {Stripe: 2, Member: 2, Place: 1},
		{Stripe: 3, Member: 0, Place: 0},
	} {
		if s, e := Map(3, block); s != want || e != api.OK {
			t.Errorf("Map(3, %d) = %v, %d", block, s, e)
		}
	}
}

func TestBackOfThreeMembers(t *testing.T) { // P3.2
	for stripe, row := range [][]int{{0, 1, -1}, {3, -1, 2}, {-1, 4, 5}, {6, 7, -1}} {
		for member, want := range row {
			b, is, e := Back(3, stripe, member)
			if e != api.OK || is != (want >= 0) || b != max(want, 0) {
				t.Errorf("Back(3, %d, %d) = %d, %v, %d", stripe, member, b, is, e)
			}
		}
	}
}

func TestBackRefuses(t *testing.T) { // P3.2
	for _, members := range edges() {
		for _, stripe := range edges() {
			for _, member := range edges() {
				refused := !isSize(members) || stripe < 0 || stripe > 1023 || member < 0 || member >= members
				b, is, e := Back(members, stripe, member)
				if wrong(e, refused) || (refused && (b != 0 || is)) {
					t.Errorf("Back(%d, %d, %d) = %d, %v, %d", members, stripe, member, b, is, e)
				}
			}
		}
	}
}

func TestMembersStandByTheirPlaces(t *testing.T) { // P3.2
	for _, members := range sizes() {
		for _, stripe := range farStripes() {
			l, e := Members(members, stripe)
			if e != api.OK || len(l) != members {
				t.Fatalf("Members(%d, %d) = %v, %d", members, stripe, l, e)
			}
			parity := members - 1 - stripe%members
			for place, member := range l[:members-1] {
				if member != (parity+1+place)%members {
					t.Errorf("Members(%d, %d) = %v", members, stripe, l)
				}
			}
			if l[members-1] != parity {
				t.Errorf("Members(%d, %d) = %v: the parity is on %d", members, stripe, l, parity)
			}
		}
	}
}

func TestBaseIsBehindTheLog(t *testing.T) { // P3.3
	for _, logs := range edges() {
		refused := logs < 1 || logs > 8
		want := 0
		if !refused {
			want = 2 + 2*logs
		}
		if n, e := Base(logs); wrong(e, refused) || n != want {
			t.Errorf("Base(%d) = %d, %d", logs, n, e)
		}
	}
}

func TestNeedIsAllOfADisk(t *testing.T) { // P3.3
	for _, stripes := range edges() {
		for _, logs := range edges() {
			refused := logs < 1 || logs > 8 || stripes < 1 || stripes > 1024
			want := 0
			if !refused {
				want = 2 + 2*logs + stripes
			}
			if n, e := Need(stripes, logs); wrong(e, refused) || n != want {
				t.Errorf("Need(%d, %d) = %d, %d", stripes, logs, n, e)
			}
		}
	}
}

func TestEachBlockHasOneSpot(t *testing.T) { // P3.4
	for _, members := range sizes() {
		seen := map[api.Spot]bool{}
		n, e := Capacity(members, api.MaxStripes)
		if e != api.OK {
			t.Fatal(e)
		}
		for block := range n {
			s, e := Map(members, block)
			if e != api.OK || s.Stripe < 0 || s.Stripe >= api.MaxStripes || s.Place < 0 || s.Place > members-2 {
				t.Fatalf("Map(%d, %d) = %v, %d", members, block, s, e)
			}
			on := api.Spot{Stripe: s.Stripe, Member: s.Member}
			if seen[on] {
				t.Errorf("Map(%d, %d) = %v: another block lies there", members, block, s)
			}
			seen[on] = true
			if b, is, e := Back(members, s.Stripe, s.Member); b != block || !is || e != api.OK {
				t.Errorf("Map(%d, %d) = %v, and Back of it %d, %v, %d", members, block, s, b, is, e)
			}
		}
	}
}

func TestEachSpotHasOneBlockOrTheParity(t *testing.T) { // P3.4
	for _, members := range sizes() {
		for stripe := range api.MaxStripes {
			parity, _ := Parity(members, stripe)
			for member := range members {
				b, is, e := Back(members, stripe, member)
				if e != api.OK || is != (member != parity) || (!is && b != 0) {
					t.Fatalf("Back(%d, %d, %d) = %d, %v, %d", members, stripe, member, b, is, e)
				}
				if !is {
					continue
				}
				if s, e := Map(members, b); e != api.OK || s.Stripe != stripe || s.Member != member {
					t.Errorf("Back(%d, %d, %d) = %d, and Map of it %v, %d", members, stripe, member, b, s, e)
				}
			}
		}
	}
}

func TestEachMemberHasAParityInTurn(t *testing.T) { // P3.5
	for _, members := range sizes() {
		for _, first := range []int{0, 1, 2, 17, 1000, math.MaxInt - members} {
			seen := make([]int, members)
			for k := range members {
				p, e := Parity(members, first+k)
				if e != api.OK || p < 0 || p >= members {
					t.Fatalf("Parity(%d, %d) = %d, %d", members, first+k, p, e)
				}
				seen[p]++
			}
			for member, n := range seen {
				if n != 1 {
					t.Errorf("of %d stripes from %d on the member %d has %d parities", members, first, member, n)
				}
			}
		}
	}
}

func TestTheNextBlockLiesOnTheNextMember(t *testing.T) { // P3.6
	for _, members := range sizes() {
		for _, first := range []int{0, 10000, math.MaxInt - 1000} {
			for block := first; block < first+1000; block++ {
				a, _ := Map(members, block)
				b, _ := Map(members, block+1)
				if b.Member != (a.Member+1)%members {
					t.Errorf("of %d members the block %d lies on %d, the next one on %d", members, block, a.Member, b.Member)
				}
			}
		}
	}
}

func TestMembersAreNewMemory(t *testing.T) { // R3, R5
	for _, members := range sizes() {
		first, _ := Members(members, 5)
		was := slices.Clone(first)
		for i := range first {
			first[i] = -7
		}
		if second, e := Members(members, 5); e != api.OK || !slices.Equal(second, was) {
			t.Errorf("Members(%d, 5) = %v, then %v, %d", members, was, second, e)
		}
	}
}

func TestNoCallPanics(t *testing.T) { // P1, R1
	for _, a := range edges() {
		Base(a)
		for _, b := range edges() {
			Capacity(a, b)
			Parity(a, b)
			Map(a, b)
			Members(a, b)
			Need(a, b)
			for _, c := range edges() {
				Back(a, b, c)
			}
		}
	}
}
