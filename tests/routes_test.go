package tests

import (
	"fmt"
	"slices"
	"testing"

	"loop.example/g00419/impl"
)

const maxCost = 1099511627776

func plainRoutes() []impl.Route {
	return routesAs([][4]int{{2, 2, 1, 1}, {3, 3, 5, 1}, {4, 3, 7, 2}, {8, 2, 90, 5}})
}

// edgeRoutes has the least and the greatest of all that a route may have.
func edgeRoutes() []impl.Route {
	return routesAs([][4]int{{1, 1, 1, 1}, {2, 8, 1, 8}, {7, 1, maxCost, 1}, {8, 8, maxCost, 8}})
}

func fullRoutes() []impl.Route {
	var list []impl.Route
	for to := 1; to <= 8; to++ {
		list = append(list, impl.Route{To: to, Next: 1 + to*3%8, Cost: 10 * to, Hops: 1 + to*5%8})
	}
	return list
}

// routes has few different numbers, so that two lists often share routes.
func (d *draws) routes() []impl.Route {
	of := 1 + d.next(3)
	var list []impl.Route
	for to := 1; to <= 8; to++ {
		if d.next(of) == 0 {
			list = append(list, impl.Route{To: to, Next: 1 + d.next(2), Cost: 1 + d.next(2), Hops: 1 + d.next(2)})
		}
	}
	return list
}

func rightRoutes() [][]impl.Route {
	lists := [][]impl.Route{nil, {}, plainRoutes(), edgeRoutes(), fullRoutes(), fullRoutes()[1:], fullRoutes()[:7]}
	for _, x := range append(fullRoutes(), edgeRoutes()...) {
		lists = append(lists, []impl.Route{x})
	}
	d := &draws{126}
	for range 40 {
		lists = append(lists, d.routes())
	}
	return lists
}

func routeText(x impl.Route) string {
	return fmt.Sprintf("%d by %d cost %d hops %d", x.To, x.Next, x.Cost, x.Hops)
}

// wantRouteTo goes from the first route on.
func wantRouteTo(list []impl.Route, to int) (impl.Route, int) {
	for _, x := range list {
		if x.To == to {
			return x, impl.OK
		}
	}
	return impl.Route{}, impl.ErrNone
}

// wantDiff goes from address to address: what went or is another one, then what came or is another one.
func wantDiff(a, b []impl.Route) []string {
	var want []string
	for to := 1; to <= 8; to++ {
		if x, code := wantRouteTo(a, to); code == impl.OK && !slices.Contains(b, x) {
			want = append(want, "- "+routeText(x))
		}
		if x, code := wantRouteTo(b, to); code == impl.OK && !slices.Contains(a, x) {
			want = append(want, "+ "+routeText(x))
		}
	}
	return want
}

func checkRoutes(t *testing.T, list []impl.Route) {
	t.Helper()
	var want []string
	for _, x := range list {
		want = append(want, routeText(x))
	}
	if got, code := impl.RoutesText(list); !slices.Equal(got, want) || code != impl.OK {
		t.Errorf("RoutesText(%v) = %q, %d", list, got, code)
	}
	for to := -1; to <= 10; to++ {
		x, wantCode := wantRouteTo(list, to)
		if got, code := impl.RouteTo(list, to); got != x || code != wantCode {
			t.Errorf("RouteTo(%v, %d) = %v, %d", list, to, got, code)
		}
	}
	checkDiff(t, list, list)
	checkDiff(t, list, slices.Clone(list))
	checkDiff(t, list, nil)
	checkDiff(t, nil, list)
}

func checkDiff(t *testing.T, a, b []impl.Route) {
	t.Helper()
	if got, code := impl.RouteDiff(a, b); !slices.Equal(got, wantDiff(a, b)) || code != impl.OK {
		t.Errorf("RouteDiff(%v, %v) = %q, %d, not %q", a, b, got, code, wantDiff(a, b))
	}
}

func TestPromise12RoutesByHand(t *testing.T) {
	lines, code := impl.RoutesText(plainRoutes())
	if want := []string{"2 by 2 cost 1 hops 1", "3 by 3 cost 5 hops 1", "4 by 3 cost 7 hops 2", "8 by 2 cost 90 hops 5"}; !slices.Equal(lines, want) || code != impl.OK {
		t.Errorf("RoutesText = %q, %d", lines, code)
	}
	lines, code = impl.RoutesText(edgeRoutes())
	if want := []string{"1 by 1 cost 1 hops 1", "2 by 8 cost 1 hops 8", "7 by 1 cost 1099511627776 hops 1", "8 by 8 cost 1099511627776 hops 8"}; !slices.Equal(lines, want) || code != impl.OK {
		t.Errorf("RoutesText = %q, %d", lines, code)
	}
	if lines, code = impl.RoutesText(nil); len(lines) != 0 || code != impl.OK {
		t.Errorf("RoutesText of none = %q, %d", lines, code)
	}
	for to, want := range []int{0, 0, 1, 5, 7, 0, 0, 0, 90, 0} {
		wantCode := impl.OK
		if want == 0 {
			wantCode = impl.ErrNone
		}
		if x, code := impl.RouteTo(plainRoutes(), to); x.Cost != want || code != wantCode || want > 0 && x.To != to {
			t.Errorf("RouteTo %d = %v, %d", to, x, code)
		}
	}
}

func TestPromise12RoutesHeldAgainstOthersByHand(t *testing.T) {
	three, four := [4]int{3, 2, 5, 2}, [4]int{4, 2, 6, 3}
	for _, c := range []struct {
		what string
		a, b [][4]int
		want []string
	}{
		{"none on either side", nil, nil, nil},
		{"alike", [][4]int{three, four}, [][4]int{three, four}, nil},
		{"one that went", [][4]int{three, four}, [][4]int{four}, []string{"- 3 by 2 cost 5 hops 2"}},
		{"one that came", [][4]int{three}, [][4]int{three, four}, []string{"+ 4 by 2 cost 6 hops 3"}},
		{"all went", [][4]int{three, four}, nil, []string{"- 3 by 2 cost 5 hops 2", "- 4 by 2 cost 6 hops 3"}},
		{"all came", nil, [][4]int{three, four}, []string{"+ 3 by 2 cost 5 hops 2", "+ 4 by 2 cost 6 hops 3"}},
		{"one went, another came ahead of it", [][4]int{four}, [][4]int{three}, []string{"+ 3 by 2 cost 5 hops 2", "- 4 by 2 cost 6 hops 3"}},
		{"one went, another came behind it", [][4]int{three}, [][4]int{four}, []string{"- 3 by 2 cost 5 hops 2", "+ 4 by 2 cost 6 hops 3"}},
		{"another next hop", [][4]int{three, four}, [][4]int{{3, 7, 5, 2}, four}, []string{"- 3 by 2 cost 5 hops 2", "+ 3 by 7 cost 5 hops 2"}},
		{"another cost", [][4]int{three, four}, [][4]int{{3, 2, 4, 2}, four}, []string{"- 3 by 2 cost 5 hops 2", "+ 3 by 2 cost 4 hops 2"}},
		{"other hops", [][4]int{three, four}, [][4]int{three, {4, 2, 6, 2}}, []string{"- 4 by 2 cost 6 hops 3", "+ 4 by 2 cost 6 hops 2"}},
		{"all others", [][4]int{three, four}, [][4]int{{3, 3, 1, 1}, {4, 4, 1, 1}}, []string{"- 3 by 2 cost 5 hops 2", "+ 3 by 3 cost 1 hops 1", "- 4 by 2 cost 6 hops 3", "+ 4 by 4 cost 1 hops 1"}},
		{"alike but for To", [][4]int{{1, 5, 6, 3}}, [][4]int{{8, 5, 6, 3}}, []string{"- 1 by 5 cost 6 hops 3", "+ 8 by 5 cost 6 hops 3"}},
	} {
		if got, code := impl.RouteDiff(routesAs(c.a), routesAs(c.b)); !slices.Equal(got, c.want) || code != impl.OK {
			t.Errorf("%s: %q, %d, not %q", c.what, got, code, c.want)
		}
	}
}

func TestPromise12RightRoutes(t *testing.T) {
	for _, list := range rightRoutes() {
		checkRoutes(t, list)
		for _, other := range rightRoutes() {
			checkDiff(t, list, other)
		}
	}
}

func TestPromise12EachChoiceOfRoutes(t *testing.T) {
	for choice := range 1 << 8 {
		var list, others []impl.Route
		for i, x := range fullRoutes() {
			if choice>>i&1 == 1 {
				list = append(list, x)
			} else {
				others = append(others, x)
			}
		}
		checkRoutes(t, list)
		checkDiff(t, list, others)
		checkDiff(t, list, fullRoutes())
		checkDiff(t, fullRoutes(), list)
		checkDiff(t, plainRoutes(), list)
	}
}

func TestPromise12DrawnRoutesHeldAgainstOthers(t *testing.T) {
	d := &draws{127}
	for range 3000 {
		checkDiff(t, d.routes(), d.routes())
	}
}

// Routes as they come from graphs: what went and what came make the one list the other.
func TestPromise12RoutesOfGraphsHeldAgainstOthers(t *testing.T) {
	d := &draws{128}
	for range 1000 {
		g, from := d.closeGraph(), 1+d.next(8)
		a, _ := impl.RoutesOf(g, from)
		if len(g) > 0 {
			i := d.next(len(g))
			g = slices.Delete(g, i, i+1)
		}
		b, _ := impl.RoutesOf(g, from)
		checkDiff(t, a, b)
		checkDiff(t, b, a)
		if slices.Equal(a, b) {
			if got, code := impl.RouteDiff(a, b); len(got) != 0 || code != impl.OK {
				t.Errorf("RouteDiff of alike routes %v: %q, %d", a, got, code)
			}
		}
		for _, to := range a {
			if x, code := impl.RouteTo(a, to.To); x != to || code != impl.OK {
				t.Errorf("RouteTo(%v, %d) = %v, %d", a, to.To, x, code)
			}
		}
	}
}
