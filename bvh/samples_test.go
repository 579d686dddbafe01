package bvh_test

import (
	"slices"
	"testing"

	"carom/api"
	"carom/bvh"
)

// session is a tree beside the list with the same boxes, and what happened to them.
type session struct {
	t          *testing.T
	d          dice
	f          field
	first, ids int // the least ID that is drawn, and how many there are
	tree       *bvh.Tree
	want       *list
	kinds      map[string]int
}

func (s *session) id() int {
	return s.first + s.d.source.Intn(s.ids)
}

func (s *session) count(name string, e api.Errno) {
	s.kinds[name+" "+map[api.Errno]string{api.OK: "OK", api.ErrArgument: "argument", api.ErrDuplicate: "duplicate", api.ErrNotFound: "not found", api.ErrFull: "full"}[e]]++
}

func (s *session) insert() {
	id, bounds := s.id(), s.d.argument(s.f)
	got, want := s.tree.Insert(id, bounds), s.want.insert(id, bounds)
	if got != want {
		s.t.Fatalf("Insert(%d, %v) = %d, want %d", id, bounds, got, want)
	}
	s.count("insert", want)
}

func (s *session) update() {
	id, bounds := s.id(), s.d.argument(s.f)
	if old := s.want.bounds(id); old.ok && s.d.source.Intn(2) == 0 {
		// Bodies move little from step to step.
		bounds = box(saturated(old.bounds.Min.X-1), old.bounds.Min.Y, old.bounds.Max.X, saturated(old.bounds.Max.Y+1))
	}
	got, want := s.tree.Update(id, bounds), s.want.update(id, bounds)
	if got != want {
		s.t.Fatalf("Update(%d, %v) = %d, want %d", id, bounds, got, want)
	}
	s.count("update", want)
}

func (s *session) remove() {
	id := s.id()
	got, want := s.tree.Remove(id), s.want.remove(id)
	if got != want {
		s.t.Fatalf("Remove(%d) = %v, want %v", id, got, want)
	}
	if want {
		s.count("remove", api.OK)
	} else {
		s.count("remove", api.ErrNotFound)
	}
}

// change makes one change. Each kind of change prevails for some time, so that the tree grows and shrinks.
func (s *session) change(time int) {
	kinds := []func(){s.insert, s.remove, s.update}
	kind := time / s.ids % 4
	if kind == 3 || s.d.source.Intn(4) == 0 {
		kind = s.d.source.Intn(3)
	}
	kinds[kind]()
}

// ask compares some answers.
func (s *session) ask() {
	if got := s.tree.Len(); got != len(s.want.boxes) {
		s.t.Fatalf("Len() = %d, want %d", got, len(s.want.boxes))
	}
	checkHeight(s.t, s.tree)
	id := s.id()
	if got, want := boundsOf(s.tree, id), s.want.bounds(id); got != want {
		s.t.Fatalf("Bounds(%d) = %v, want %v", id, got, want)
	}
	checkSearch(s.t, s.tree, s.want, s.d.argument(s.f), s.d.end(s.f), s.d.end(s.f))
}

// P20.1, P20.2, P20.4: long sequences of operations against a plain list.
func TestLongSequences(t *testing.T) {
	kinds := map[string]int{}
	for i, f := range fields() {
		for j, ids := range []int{3, 12, 200, 1500} {
			s := &session{t, newDice(int64(10*i + j)), f, -ids / 2, ids, bvh.New(), &list{}, kinds}
			for time := range 6000 {
				s.change(time)
				s.ask()
				if time%500 == 499 {
					checkTree(t, s.tree, s.want)
					// The clone goes on in the place of the tree, so that it is tried as well.
					s.tree = s.tree.Clone()
				}
			}
		}
	}
	for _, name := range []string{"insert OK", "insert argument", "insert duplicate", "update OK", "update argument", "update not found", "remove OK", "remove not found"} {
		if kinds[name] < 1000 {
			t.Errorf("only %d operations were: %s", kinds[name], name)
		}
	}
}

// P20.1, P20.2, P20.4: the same around the capacity.
func TestLongSequencesInAFullTree(t *testing.T) {
	kinds := map[string]int{}
	for i, f := range fields()[:2] {
		s := &session{t, newDice(int64(90 + i)), f, 4000, 200, bvh.New(), &list{}, kinds}
		for id := range 4100 {
			bounds := s.d.box(f.limit, f.length)
			if got, want := s.tree.Insert(id, bounds), s.want.insert(id, bounds); got != want {
				t.Fatalf("inserting the box number %d gives %d, want %d", id+1, got, want)
			}
		}
		for time := range 3000 {
			if time%2 == 0 {
				s.insert()
			} else {
				s.change(3 * s.ids)
			}
			if time%10 == 0 {
				s.ask()
			}
		}
		checkTree(t, s.tree, s.want)
	}
	for _, name := range []string{"insert OK", "insert full", "insert duplicate", "update OK", "remove OK"} {
		if kinds[name] < 100 {
			t.Errorf("only %d operations were: %s", kinds[name], name)
		}
	}
}

// detour makes a tree with the boxes in a roundabout way: with other boxes first, which are moved or removed again.
func detour(t *testing.T, d dice, f field, boxes []stored) *bvh.Tree {
	t.Helper()
	tree := bvh.New()
	for i, s := range d.order(boxes) {
		other := d.box(f.limit, f.length)
		tree.Insert(10000+i, other)
		tree.Insert(s.id, other)
	}
	for i, s := range d.order(boxes) {
		if tree.Update(s.id, s.bounds) != api.OK || !tree.Remove(10000+i) {
			t.Fatal("a box got lost")
		}
		if i%3 == 0 && (!tree.Remove(s.id) || tree.Insert(s.id, s.bounds) != api.OK) {
			t.Fatal("a box could not be inserted again")
		}
	}
	return tree
}

// P20.3: trees with the same boxes answer alike.
func TestAnswersDependOnTheBoxesOnly(t *testing.T) {
	d := newDice(40)
	for round := range 200 {
		f := fields()[round%len(fields())]
		var boxes []stored
		for i := range d.source.Intn(120) {
			boxes = append(boxes, stored{i*77%128 - 60, d.box(f.limit, f.length)})
		}
		backwards := slices.Clone(boxes)
		slices.Reverse(backwards)
		want := treeOf(t, boxes...)
		trees := []*bvh.Tree{treeOf(t, backwards...), treeOf(t, d.order(boxes)...), detour(t, d, f, boxes), detour(t, d, f, boxes).Clone()}
		for _, tree := range trees {
			checkTree(t, tree, &list{boxes})
			if got, want := tree.Pairs(), want.Pairs(); !slices.Equal(got, want) {
				t.Fatalf("Pairs() = %v, and %v for the same boxes", got, want)
			}
			for range 20 {
				bounds, from, to := d.argument(f), d.end(f), d.end(f)
				if got, want := tree.Query(bounds), want.Query(bounds); !slices.Equal(got, want) {
					t.Fatalf("Query(%v) = %v, and %v for the same boxes", bounds, got, want)
				}
				if got, want := tree.RayQuery(from, to), want.RayQuery(from, to); !slices.Equal(got, want) {
					t.Fatalf("RayQuery(%v, %v) = %v, and %v for the same boxes", from, to, got, want)
				}
			}
		}
	}
}

// P20.2: asking changes nothing, and the same operations make the same tree.
func TestTreesAreDeterministic(t *testing.T) {
	for _, f := range fields() {
		d := newDice(50)
		first, second := bvh.New(), bvh.New()
		for i := range 500 {
			id, bounds := d.source.Intn(200), d.box(f.limit, f.length)
			for _, tree := range []*bvh.Tree{first, second} {
				switch i % 3 {
				case 0:
					tree.Insert(id, bounds)
				case 1:
					tree.Update(id, bounds)
				default:
					tree.Remove(id - 1)
				}
			}
			first.Query(bounds)
			first.RayQuery(bounds.Min, bounds.Max)
			first.Pairs()
			if first.Height() != second.Height() || !slices.Equal(first.Query(bounds), second.Query(bounds)) {
				t.Fatalf("after %d equal operations the trees differ", i+1)
			}
		}
	}
}
