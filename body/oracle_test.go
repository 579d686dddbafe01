package body_test

import (
	"carom/angle"
	"carom/api"
	"carom/massdata"
	"carom/shape"
	"carom/transform"
)

// The functions of this file work the promised values out by plain ints, component by component, so that they share no vector arithmetic with the package. Rotations, mass data, bounding boxes of single shapes and the points of single shapes come from packages angle, massdata and shape, which have tests of their own. A product of saturated numbers is below 2^58, so that sums of two fit into an int.

func saturated(x int) int {
	return min(max(x, -most), most)
}

// divided is n/d for a positive d, halves away from zero.
func divided(n, d int) int {
	if n < 0 {
		return -divided(-n, d)
	}
	return (n + d/2) / d
}

func sum(a, b int) int {
	return saturated(saturated(a) + saturated(b))
}

func product(a, b int) int {
	return saturated(divided(saturated(a)*saturated(b), one))
}

// outOf tells whether a number is out of its range. The ranges are pairs of bounds, one for each number.
func outOf(numbers, ranges []int) bool {
	for i, x := range numbers {
		if x < ranges[2*i] || x > ranges[2*i+1] {
			return true
		}
	}
	return false
}

func wantValidateFixture(f api.Fixture) api.Errno {
	err := shape.Validate(f.Shape)
	if err == api.OK && outOf(
		[]int{f.Density, f.Friction, f.Restitution, f.Category, f.Mask, f.Group},
		[]int{0, 262144, 0, 131072, 0, 65536, 0, 65535, 0, 65535, -32, 32}) {
		return api.ErrRange
	}
	return err
}

// wantValidate looks for the faults from the last one in the order of the promise to the first one.
func wantValidate(b api.Body) api.Errno {
	err := api.OK
	still := b.Velocity == vec(0, 0) && b.AngularVelocity == 0
	free := b.Force == vec(0, 0) && b.Torque == 0
	if b.Kind == 1 && !(still && free) || b.Kind != 3 && (b.Asleep || b.Bullet) || b.Asleep && !still {
		err = api.ErrBody
	}
	for _, f := range b.Fixtures {
		if wantValidateFixture(f) != api.OK {
			err = api.ErrFixture
		}
	}
	if len(b.Fixtures) > 4 {
		err = api.ErrCount
	}
	if !transform.Valid(b.Transform) || outOf(
		[]int{b.ID, b.Velocity.X, b.Velocity.Y, b.AngularVelocity, b.Force.X, b.Force.Y, b.Torque, b.LinearDamping, b.AngularDamping, b.GravityScale, b.IdleSteps},
		[]int{1, 1 << 40, -1 << 24, 1 << 24, -1 << 24, 1 << 24, -1 << 22, 1 << 22, -most, most, -most, most, -most, most, 0, one, 0, one, -4 * one, 4 * one, 0, 1 << 20}) {
		err = api.ErrRange
	}
	if b.Kind < 1 || b.Kind > 3 {
		err = api.ErrKind
	}
	return err
}

func wantMassData(b api.Body) api.MassData {
	return massdata.OfFixtures(b.Fixtures)
}

func wantWorldCenter(b api.Body) api.Vec {
	r, c := angle.Rot(b.Transform.Angle), wantMassData(b).Center
	x, y := saturated(divided(r.Cos*c.X-r.Sin*c.Y, one)), saturated(divided(r.Sin*c.X+r.Cos*c.Y, one))
	return vec(sum(x, b.Transform.Position.X), sum(y, b.Transform.Position.Y))
}

// wantInverses are the inverse mass and the inverse inertia.
func wantInverses(b api.Body) (int, int) {
	m := wantMassData(b)
	if b.Kind != 3 {
		return 0, 0
	}
	mass, inertia := one, 0
	if m.Mass > 0 {
		mass = saturated(divided(one*one, saturated(m.Mass)))
	}
	if m.Inertia > 0 && !b.FixedRotation {
		inertia = saturated(divided(one*one, saturated(m.Inertia)))
	}
	return mass, inertia
}

func wantSolverBody(b api.Body) api.SolverBody {
	mass, inertia := wantInverses(b)
	return api.SolverBody{Velocity: b.Velocity, AngularVelocity: b.AngularVelocity, InvMass: mass, InvInertia: inertia}
}

// wantArm is the way from the center of mass to the point.
func wantArm(b api.Body, point api.Vec) api.Vec {
	c := wantWorldCenter(b)
	return vec(saturated(saturated(point.X)-c.X), saturated(saturated(point.Y)-c.Y))
}

func wantVelocityAt(p pointed) api.Vec {
	arm := wantArm(p.b, p.point)
	return vec(sum(p.b.Velocity.X, -product(p.b.AngularVelocity, arm.Y)), sum(p.b.Velocity.Y, product(p.b.AngularVelocity, arm.X)))
}

// wantPushed is a dynamic body after a change of its velocities that is not limited yet.
func wantPushed(b api.Body, x, y, angular int) api.Body {
	b = copyOf(b)
	if b.Kind == 3 {
		b.Velocity = vec(sum(b.Velocity.X, x), sum(b.Velocity.Y, y))
		b.AngularVelocity = sum(b.AngularVelocity, angular)
		b.Asleep, b.IdleSteps = false, 0
		b = wantClampVelocity(b)
	}
	return b
}

func wantApplyImpulse(p pushed) api.Body {
	mass, inertia := wantInverses(p.b)
	arm, x, y := wantArm(p.b, p.point), saturated(p.impulse.X), saturated(p.impulse.Y)
	turn := saturated(divided(arm.X*y-arm.Y*x, one))
	return wantPushed(p.b, product(x, mass), product(y, mass), product(turn, inertia))
}

func wantApplyAngularImpulse(s spun) api.Body {
	_, inertia := wantInverses(s.b)
	return wantPushed(s.b, 0, 0, product(s.impulse, inertia))
}

func wantClampVelocity(b api.Body) api.Body {
	b = copyOf(b)
	b.Velocity = vec(min(max(b.Velocity.X, -1<<24), 1<<24), min(max(b.Velocity.Y, -1<<24), 1<<24))
	b.AngularVelocity = min(max(b.AngularVelocity, -1<<22), 1<<22)
	return b
}

// wantBounds takes the outermost sides of the boxes of all shapes.
func wantBounds(b api.Body) bounded {
	sides := [4]int{high, high, high, high}
	for _, f := range b.Fixtures {
		s := shape.Bounds(f.Shape, b.Transform)
		for i, side := range []int{s.Min.X, s.Min.Y, -s.Max.X, -s.Max.Y} {
			sides[i] = min(sides[i], side)
		}
	}
	if len(b.Fixtures) == 0 {
		return bounded{}
	}
	return bounded{api.AABB{Min: vec(sides[0], sides[1]), Max: vec(-sides[2], -sides[3])}, true}
}

// wantFixtureAt goes from the last fixture to the first one.
func wantFixtureAt(p pointed) int {
	index := -1
	for i := len(p.b.Fixtures) - 1; i >= 0; i-- {
		if shape.ContainsPoint(p.b.Fixtures[i].Shape, p.b.Transform, p.point) {
			index = i
		}
	}
	return index
}
