package body_test

import (
	"slices"
	"testing"

	"carom/api"
	"carom/body"
)

// The arguments of one call.
type (
	pointed struct {
		b     api.Body
		point api.Vec
	}
	pushed struct {
		b              api.Body
		point, impulse api.Vec
	}
	spun struct {
		b       api.Body
		impulse int
	}
)

func velocityAt(p pointed) api.Vec {
	return body.VelocityAt(p.b, p.point)
}

func applyImpulse(p pushed) api.Body {
	return body.ApplyImpulse(p.b, p.point, p.impulse)
}

func applyAngularImpulse(s spun) api.Body {
	return body.ApplyAngularImpulse(s.b, s.impulse)
}

func data(mass, x, y, inertia int) api.MassData {
	return api.MassData{Mass: mass, Center: vec(x, y), Inertia: inertia}
}

func solver(x, y, angular, inverseMass, inverseInertia int) api.SolverBody {
	return api.SolverBody{Velocity: vec(x, y), AngularVelocity: angular, InvMass: inverseMass, InvInertia: inverseInertia}
}

// massless has fixtures, but neither a mass nor an inertia.
func massless() api.Body {
	return dynamic(fixture(circle(one, 5*one, 0), 0), sensor(circle(one, 0, 7*one)))
}

// crowded has one fixture too many, so that it has no mass data.
func crowded() api.Body {
	return dynamic(slices.Repeat(pair().Fixtures[2:], 5)...)
}

// P23.3: the mass data are those of the fixtures alone.
func TestMassData(t *testing.T) {
	rows := []row[api.Body, api.MassData]{
		{api.Body{}, api.MassData{}},
		{dynamic(), api.MassData{}},
		{massless(), api.MassData{}},
		{crowded(), api.MassData{}},
		{dynamic(api.Fixture{}), api.MassData{}},
	}
	for _, kind := range append(kinds(), 0, 4, low) {
		for _, r := range []row[api.Body, api.MassData]{
			{disc(), data(pi, 0, 0, pi/2)},
			{block(), data(4*one, 0, 0, 174764)},
			{pair(), data(4*pi, one, 0, 2882432)},
		} {
			b := fixed(moving(5, 6, 7, placed(at(10*one, 5*one, quarter), ofKind(kind, r.args))))
			rows = append(rows, r, row[api.Body, api.MassData]{b, r.want})
		}
	}
	check(t, "MassData", body.MassData, wantMassData, rows, anyBodies(2))
}

// P23.3
func TestWorldCenter(t *testing.T) {
	rows := []row[api.Body, api.Vec]{
		{api.Body{}, vec(0, 0)},
		{disc(), vec(0, 0)},
		{pair(), vec(one, 0)},
		{placed(at(10*one, 5*one, 0), pair()), vec(11*one, 5*one)},
		{placed(at(10*one, 5*one, quarter), pair()), vec(10*one, 6*one)},
		{placed(at(10*one, 5*one, -quarter), pair()), vec(10*one, 4*one)},
		{placed(at(10*one, 5*one, -pi), pair()), vec(9*one, 5*one)},
		{placed(at(10*one, 5*one, pi), pair()), vec(9*one, 5*one)},
		{placed(at(-world, world, quarter), pair()), vec(-world, world+one)},
		{placed(at(10*one, 5*one, 9), disc()), vec(10*one, 5*one)},
		// Without a mass the center is the position.
		{placed(at(10*one, 5*one, 9), dynamic()), vec(10*one, 5*one)},
		{placed(at(10*one, 5*one, 9), massless()), vec(10*one, 5*one)},
		{placed(at(10*one, 5*one, 9), crowded()), vec(10*one, 5*one)},
		// Positions that no valid body has.
		{placed(at(most, most-half, 0), pair()), vec(most, most-half)},
		{placed(at(-most, high, -pi), pair()), vec(-most, most)},
		{placed(at(low, far, 0), pair()), vec(one-most, most)},
	}
	for _, kind := range append(kinds(), 0) {
		rows = append(rows, row[api.Body, api.Vec]{ofKind(kind, placed(at(7, 8, 0), pair())), vec(one+7, 8)})
	}
	check(t, "WorldCenter", body.WorldCenter, wantWorldCenter, rows, anyBodies(3))
}

// P23.3: no body but a dynamic one has inverses.
func TestSolverBody(t *testing.T) {
	rows := []row[api.Body, api.SolverBody]{
		{api.Body{}, api.SolverBody{}},
		{disc(), solver(0, 0, 0, 20861, 41721)},
		{block(), solver(0, 0, 0, 16384, 24576)},
		{pair(), solver(0, 0, 0, 5215, 1490)},
		{fixed(disc()), solver(0, 0, 0, 20861, 0)},
		{fixed(pair()), solver(0, 0, 0, 5215, 0)},
		{dynamic(), solver(0, 0, 0, one, 0)},
		{massless(), solver(0, 0, 0, one, 0)},
		{crowded(), solver(0, 0, 0, one, 0)},
		// The heaviest body there is, and the lightest ones with a mass.
		{dynamic(fixture(box(-16*one, -16*one, 16*one, 16*one), 4*one)), solver(0, 0, 0, 16, 8)},
		{dynamic(fixture(circle(half, 0, 0), 100)), solver(0, 0, 0, 54366675, 429496730)},
		{dynamic(fixture(circle(one/4, 0, 0), 6)), solver(0, 0, 0, most, 0)},
		{dynamic(fixture(circle(one/32, 0, 0), 32)), solver(0, 0, 0, one, 0)},
	}
	for _, r := range slices.Clone(rows) {
		for _, kind := range []api.BodyKind{api.Static, api.Kinematic, 0, 4, high} {
			// The velocities are those of the body, whatever they are.
			b := moving(fast+7, low, high, ofKind(kind, r.args))
			rows = append(rows, row[api.Body, api.SolverBody]{b, solver(fast+7, low, high, 0, 0)})
		}
		b := moving(-5, fast, quick, placed(at(world, 9, 77), asleep(r.args)))
		want := r.want
		want.Velocity, want.AngularVelocity = vec(-5, fast), quick
		if b.Kind == api.Dynamic {
			rows = append(rows, row[api.Body, api.SolverBody]{b, want})
		}
	}
	check(t, "SolverBody", body.SolverBody, wantSolverBody, rows, anyBodies(4))
}

// P23.3: the velocity at the center is the body's own.
func TestVelocityAt(t *testing.T) {
	turning := placed(at(10*one, 5*one, quarter), moving(3*one, 4*one, 2*one, pair()))
	rows := []row[pointed, api.Vec]{
		{pointed{api.Body{}, vec(5, 6)}, vec(0, 0)},
		{pointed{turning, vec(10*one, 6*one)}, vec(3*one, 4*one)},
		{pointed{turning, vec(11*one, 6*one)}, vec(3*one, 6*one)},
		{pointed{turning, vec(9*one, 6*one)}, vec(3*one, 2*one)},
		{pointed{turning, vec(10*one, 7*one)}, vec(one, 4*one)},
		{pointed{turning, vec(10*one, 5*one)}, vec(5*one, 4*one)},
		{pointed{turning, vec(0, 0)}, vec(15*one, -16*one)},
		{pointed{moving(3*one, 4*one, -2*one, disc()), vec(one, one)}, vec(5*one, 2*one)},
		{pointed{moving(3*one, 4*one, 0, disc()), vec(one, one)}, vec(3*one, 4*one)},
		// Nothing but the velocities and the center counts.
		{pointed{fixed(asleep(turning)), vec(11*one, 7*one)}, vec(one, 6*one)},
		{pointed{placed(at(one, 0, 0), moving(0, 0, one, massless())), vec(one, one)}, vec(-one, 0)},
		{pointed{placed(at(one, 0, 0), moving(0, 0, one, crowded())), vec(one, one)}, vec(-one, 0)},
		// Products are rounded, halves away from zero.
		{pointed{moving(0, 0, half, disc()), vec(1, 3)}, vec(-2, 1)},
		{pointed{moving(0, 0, half, disc()), vec(-1, -3)}, vec(2, -1)},
		{pointed{moving(0, 0, one/4, disc()), vec(1, 1)}, vec(0, 0)},
		// The arm, the product and the sum are saturated, and so is what is given.
		{pointed{moving(7, 7, one, disc()), vec(high, low)}, vec(most, most)},
		{pointed{moving(-7, 7, one, disc()), vec(high, high)}, vec(-most, most)},
		{pointed{moving(7, -7, -one, disc()), vec(far, far)}, vec(most, -most)},
		{pointed{placed(at(-world, 0, 0), moving(0, -one, one, disc())), vec(most, 0)}, vec(0, most-one)},
		{pointed{moving(0, -one, 2*one, disc()), vec(most-one, 0)}, vec(0, most-one)},
		{pointed{moving(high, low, 0, disc()), vec(one, one)}, vec(most, -most)},
		{pointed{moving(far, -far, one, disc()), vec(one, one)}, vec(most-one, one-most)},
		{pointed{moving(0, 0, high, disc()), vec(1, 1)}, vec(-8192, 8192)},
		{pointed{moving(0, 0, low, disc()), vec(1, 1)}, vec(8192, -8192)},
	}
	for _, kind := range append(kinds(), 0, 4) {
		rows = append(rows, row[pointed, api.Vec]{pointed{ofKind(kind, turning), vec(11*one, 7*one)}, vec(one, 6*one)})
	}
	check(t, "VelocityAt", velocityAt, wantVelocityAt, rows, anyPointed(5))
}

// P23.4: impulses at the center and off it, on bodies with different masses.
func TestApplyImpulse(t *testing.T) {
	turned := placed(at(10*one, 5*one, quarter), pair())
	check(t, "ApplyImpulse", applyImpulse, wantApplyImpulse, []row[pushed, api.Body]{
		// The example of the chapter.
		{pushed{disc(), vec(0, 0), vec(pi, 0)}, moving(one+1, 0, 0, disc())},
		{pushed{disc(), vec(0, one), vec(one, 0)}, moving(20861, 0, -41721, disc())},
		{pushed{disc(), vec(0, -one), vec(one, 0)}, moving(20861, 0, 41721, disc())},
		{pushed{disc(), vec(one, 0), vec(0, one)}, moving(0, 20861, 41721, disc())},
		{pushed{disc(), vec(7*one, 7*one), vec(0, 0)}, disc()},
		// Along the arm it does not turn.
		{pushed{disc(), vec(9*one, 0), vec(one, 0)}, moving(20861, 0, 0, disc())},
		{pushed{disc(), vec(3*one, 4*one), vec(-3*one, -4*one)}, moving(-62583, -83444, 0, disc())},
		// The velocities that are there are added to.
		{pushed{moving(one, -2*one, 3*one, disc()), vec(one, one), vec(4*one, -8*one)}, moving(148980, -297960, -304044, disc())},
		{pushed{moving(one, -2*one, 3*one, block()), vec(one, one), vec(4*one, -8*one)}, moving(2*one, -4*one, -98304, block())},
		{pushed{moving(one, -2*one, 3*one, block()), vec(-3*one, half), vec(-4*one, 8*one)}, moving(0, 0, -344064, block())},
		{pushed{moving(one, -2*one, 3*one, turned), vec(10*one, 6*one), vec(4*one, -8*one)}, moving(86396, -172792, 196608, turned)},
		{pushed{moving(one, -2*one, 3*one, turned), vec(13*one, 8*one), vec(4*one, -8*one)}, moving(86396, -172792, 148928, turned)},
		{pushed{moving(one, -2*one, 3*one, turned), vec(0, 0), vec(4*one, -8*one)}, moving(86396, -172792, 351568, turned)},
		// Without an inverse inertia it does not turn.
		{pushed{fixed(block()), vec(one, one), vec(4*one, -8*one)}, moving(one, -2*one, 0, fixed(block()))},
		{pushed{moving(1, 2, 3, dynamic()), vec(one, one), vec(4*one, -8*one)}, moving(4*one+1, -8*one+2, 3, dynamic())},
		{pushed{massless(), vec(one, one), vec(4*one, -8*one)}, moving(4*one, -8*one, 0, massless())},
		{pushed{crowded(), vec(one, one), vec(4*one, -8*one)}, moving(4*one, -8*one, 0, crowded())},
		// Products are rounded, halves away from zero.
		{pushed{block(), vec(0, 0), vec(1, -1)}, block()},
		{pushed{block(), vec(0, 0), vec(2, -2)}, moving(1, -1, 0, block())},
		{pushed{block(), vec(0, 0), vec(5, -6)}, moving(1, -2, 0, block())},
		{pushed{block(), vec(one, 0), vec(0, 1)}, block()},
		{pushed{block(), vec(one, 0), vec(0, -2)}, moving(0, -1, -1, block())},
		{pushed{block(), vec(half, 0), vec(0, 1)}, block()},
		{pushed{block(), vec(half, 0), vec(0, 3)}, moving(0, 1, 1, block())},
	}, anyPushed(6))
}

// P23.4: an angular impulse leaves the velocity alone.
func TestApplyAngularImpulse(t *testing.T) {
	turned := placed(at(10*one, 5*one, quarter), pair())
	check(t, "ApplyAngularImpulse", applyAngularImpulse, wantApplyAngularImpulse, []row[spun, api.Body]{
		{spun{disc(), 0}, disc()},
		{spun{disc(), one}, moving(0, 0, 41721, disc())},
		{spun{disc(), -one}, moving(0, 0, -41721, disc())},
		{spun{disc(), pi / 2}, moving(0, 0, one-1, disc())},
		{spun{moving(5, -6, 7, block()), 4 * one}, moving(5, -6, 7+4*24576, block())},
		{spun{moving(5, -6, 7, turned), -2 * one}, moving(5, -6, 7-2*1490, turned)},
		{spun{moving(5, -6, 7, fixed(block())), 4 * one}, moving(5, -6, 7, fixed(block()))},
		{spun{moving(5, -6, 7, dynamic()), 4 * one}, moving(5, -6, 7, dynamic())},
		{spun{moving(5, -6, 7, massless()), high}, moving(5, -6, 7, massless())},
		{spun{moving(5, -6, 7, crowded()), low}, moving(5, -6, 7, crowded())},
		// 0.375, 0.75, 1.125, 1.5 and 10.5 units.
		{spun{block(), 1}, block()},
		{spun{block(), 2}, moving(0, 0, 1, block())},
		{spun{block(), -3}, moving(0, 0, -1, block())},
		{spun{block(), 4}, moving(0, 0, 2, block())},
		{spun{block(), -28}, moving(0, 0, -11, block())},
		// Both velocities are limited, and so is the impulse before it is used.
		{spun{block(), high}, moving(0, 0, quick, block())},
		{spun{block(), low}, moving(0, 0, -quick, block())},
		{spun{moving(0, 0, quick-24576, block()), one}, moving(0, 0, quick, block())},
		{spun{moving(0, 0, quick-24576, block()), one + 2}, moving(0, 0, quick, block())},
		{spun{moving(0, 0, 24576-quick, block()), -one - 2}, moving(0, 0, -quick, block())},
		{spun{moving(fast+1, -fast-1, 0, block()), one}, moving(fast, -fast, 24576, block())},
		{spun{moving(low, high, 0, block()), one}, moving(-fast, fast, 24576, block())},
		{spun{moving(0, 0, high, block()), -1 << 40}, moving(0, 0, quick, block())},
		{spun{moving(0, 0, far, pair()), low}, moving(0, 0, quick, pair())},
		{spun{moving(0, 0, far, dynamic(fixture(circle(half, 0, 0), 100))), low}, dynamic(fixture(circle(half, 0, 0), 100))},
	}, anySpun(7))
}

// P23.4: the velocities are clamped in each component, on both sides.
func TestApplyImpulseClampsTheVelocities(t *testing.T) {
	b := dynamic()
	light := dynamic(fixture(circle(half, 0, 0), 100))
	check(t, "ApplyImpulse", applyImpulse, wantApplyImpulse, []row[pushed, api.Body]{
		{pushed{b, vec(0, 0), vec(fast, -fast)}, moving(fast, -fast, 0, b)},
		{pushed{b, vec(0, 0), vec(fast+1, 5)}, moving(fast, 5, 0, b)},
		{pushed{b, vec(0, 0), vec(-fast-1, 5)}, moving(-fast, 5, 0, b)},
		{pushed{b, vec(0, 0), vec(5, fast+1)}, moving(5, fast, 0, b)},
		{pushed{b, vec(0, 0), vec(5, -fast-1)}, moving(5, -fast, 0, b)},
		{pushed{b, vec(0, 0), vec(high, low)}, moving(fast, -fast, 0, b)},
		{pushed{moving(fast-one, one-fast, 0, b), vec(0, 0), vec(one, -one)}, moving(fast, -fast, 0, b)},
		{pushed{moving(fast-one, one-fast, 0, b), vec(0, 0), vec(one+1, -one-1)}, moving(fast, -fast, 0, b)},
		{pushed{moving(fast, -fast, 0, b), vec(0, 0), vec(-one, one)}, moving(fast-one, one-fast, 0, b)},
		// The turn alone.
		{pushed{block(), vec(0, 100*one), vec(-2*one, 0)}, moving(-one/2, 0, quick, block())},
		{pushed{block(), vec(0, 100*one), vec(2*one, 0)}, moving(one/2, 0, -quick, block())},
		{pushed{moving(0, 0, quick-24576, block()), vec(one, 0), vec(0, one)}, moving(0, 16384, quick, block())},
		{pushed{moving(0, 0, quick-24576, block()), vec(one, 0), vec(0, one+2)}, moving(0, 16385, quick, block())},
		{pushed{moving(0, 0, 24576-quick, block()), vec(one, 0), vec(0, -one-2)}, moving(0, -16385, -quick, block())},
		// Velocities that were out of range are so no longer, be the impulse zero.
		{pushed{moving(fast+1, -fast-1, quick+1, block()), vec(0, 0), vec(0, 0)}, moving(fast, -fast, quick, block())},
		{pushed{moving(low, high, low, block()), vec(0, 0), vec(0, 0)}, moving(-fast, fast, -quick, block())},
		// Saturation before the sum: the numbers that are added up are MaxValue at most.
		{pushed{moving(high, -far, 0, b), vec(0, 0), vec(low, high)}, b},
		{pushed{moving(far, 0, 0, b), vec(0, 0), vec(1-most, 0)}, moving(1, 0, 0, b)},
		{pushed{moving(0, 0, far, light), vec(one, 0), vec(0, -most)}, moving(0, -fast, 0, light)},
		{pushed{moving(0, 0, 0, b), vec(low, high), vec(high, low)}, moving(fast, -fast, 0, b)},
	}, nil)
}

// P23.4: a dynamic body is awake after an impulse, be it zero, and has no idle steps.
func TestImpulsesWakeTheBody(t *testing.T) {
	for _, b := range []api.Body{disc(), block(), dynamic(), fixed(pair()), crowded()} {
		for _, steps := range []int{0, 1, 1 << 20, high, low} {
			for _, sleeps := range []bool{false, true} {
				before := with(b, func(b *api.Body) {
					b.Asleep, b.IdleSteps, b.NoSleep, b.Bullet = sleeps, steps, true, true
					b.Force, b.Torque, b.LinearDamping, b.AngularDamping = vec(5, 6), 7, 8, 9
				})
				want := with(before, func(b *api.Body) { b.Asleep, b.IdleSteps = false, 0 })
				check(t, "ApplyImpulse", applyImpulse, wantApplyImpulse, []row[pushed, api.Body]{
					{pushed{before, vec(0, 0), vec(0, 0)}, want},
					{pushed{before, vec(one, one), vec(0, 0)}, want},
				}, []pushed{{before, vec(one, one), vec(4*one, -8*one)}})
				check(t, "ApplyAngularImpulse", applyAngularImpulse, wantApplyAngularImpulse, []row[spun, api.Body]{{spun{before, 0}, want}}, []spun{{before, one}})
			}
		}
	}
}

// P23.4: a body that is not dynamic stays as it is, be it valid or not.
func TestImpulsesOnBodiesThatAreNotDynamic(t *testing.T) {
	for _, kind := range []api.BodyKind{api.Static, api.Kinematic, 0, 4, -1, low, high} {
		for _, b := range []api.Body{disc(), dynamic(), moving(one, -2*one, 3*one, pair()), moving(fast+1, low, high, asleep(block())), crowded()} {
			b = ofKind(kind, b)
			check(t, "ApplyImpulse", applyImpulse, wantApplyImpulse, []row[pushed, api.Body]{
				{pushed{b, vec(0, 0), vec(one, one)}, b},
				{pushed{b, vec(5*one, 0), vec(high, low)}, b},
				{pushed{b, vec(0, 0), vec(0, 0)}, b},
			}, nil)
			check(t, "ApplyAngularImpulse", applyAngularImpulse, wantApplyAngularImpulse, []row[spun, api.Body]{{spun{b, one}, b}, {spun{b, low}, b}, {spun{b, 0}, b}}, nil)
		}
	}
}

// P23.4: each velocity at both bounds, beside them and far beyond them.
func TestClampVelocity(t *testing.T) {
	var rows []row[api.Body, api.Body]
	for _, kind := range append(kinds(), 0, 4) {
		for _, b := range []api.Body{api.Body{}, moving(5, -6, 7, asleep(block())), moving(-fast, fast, -quick, pair())} {
			b = ofKind(kind, b)
			for _, n := range velocityNumbers() {
				for _, x := range []int{n.low, n.low + 1, -1, 0, 1, n.high - 1, n.high} {
					inside := with(b, func(b *api.Body) { n.set(b, x) })
					rows = append(rows, row[api.Body, api.Body]{inside, inside})
				}
				for _, x := range n.beyond() {
					outside := with(b, func(b *api.Body) { n.set(b, x) })
					edge := with(b, func(b *api.Body) { n.set(b, min(max(x, n.low), n.high)) })
					rows = append(rows, row[api.Body, api.Body]{outside, edge})
				}
			}
		}
		rows = append(rows, row[api.Body, api.Body]{ofKind(kind, moving(low, high, low, disc())), ofKind(kind, moving(-fast, fast, -quick, disc()))})
		rows = append(rows, row[api.Body, api.Body]{ofKind(kind, moving(fast+1, -fast-1, quick+1, disc())), ofKind(kind, moving(fast, -fast, quick, disc()))})
	}
	check(t, "ClampVelocity", body.ClampVelocity, wantClampVelocity, rows, anyBodies(8))
}

// P23.6: an impulse keeps a valid body valid, whatever it is.
func TestImpulsesKeepTheBodyValid(t *testing.T) {
	d := newDice(9)
	for range 6000 {
		b := d.validBody()
		if err := body.Validate(b); err != api.OK {
			t.Fatalf("%v has the error %d", b, err)
		}
		after := []api.Body{
			body.ApplyImpulse(b, d.pointNear(b), d.vec(d.pick(one, 100*one, most))),
			body.ApplyImpulse(b, d.anyVec(), d.anyVec()),
			body.ApplyAngularImpulse(b, d.number(d.pick(one, 100*one, most))),
			body.ApplyAngularImpulse(b, d.anyNumber()),
			body.ClampVelocity(b),
		}
		for i, a := range after {
			if err := body.Validate(a); err != api.OK {
				t.Fatalf("after impulse %d %v became %v, which has the error %d", i, b, a, err)
			}
		}
		if !body.Equal(after[4], b) {
			t.Fatalf("ClampVelocity(%v) = %v", b, after[4])
		}
	}
}

// P23.6: the opposite impulse restores both velocities if neither is clamped.
func TestOppositeImpulses(t *testing.T) {
	d := newDice(10)
	restored := 0
	for range 20000 {
		b, impulse, turn := d.validBody(), d.vec(d.pick(5, one, 100*one, most)), d.number(d.pick(5, one, 100*one, most))
		point := d.pointNear(b)
		there := body.ApplyImpulse(b, point, impulse)
		back := body.ApplyImpulse(there, point, vec(-impulse.X, -impulse.Y))
		if !isAtALimit(there) {
			restored++
			if back.Velocity != b.Velocity || back.AngularVelocity != b.AngularVelocity {
				t.Fatalf("the impulse %v at %v and its opposite made %v %v", impulse, point, b, back)
			}
		}
		there = body.ApplyAngularImpulse(b, turn)
		back = body.ApplyAngularImpulse(there, -turn)
		if !isAtALimit(there) && (back.Velocity != b.Velocity || back.AngularVelocity != b.AngularVelocity) {
			t.Fatalf("the angular impulse %d and its opposite made %v %v", turn, b, back)
		}
	}
	if restored < 5000 {
		t.Errorf("only %d bodies were not clamped", restored)
	}
}

// isAtALimit tells whether a velocity can have been clamped.
func isAtALimit(b api.Body) bool {
	return slices.Contains([]int{fast, -fast}, b.Velocity.X) || slices.Contains([]int{fast, -fast}, b.Velocity.Y) || slices.Contains([]int{quick, -quick}, b.AngularVelocity)
}

// P23.6: what is clamped is lost.
func TestOppositeImpulsesOfClampedBodies(t *testing.T) {
	b := dynamic()
	for _, r := range []struct {
		before      api.Body
		point, push api.Vec
		want        api.Body
	}{
		{moving(fast-5, 7, 9, b), vec(0, 0), vec(5, 0), moving(fast-5, 7, 9, b)},
		{moving(fast-5, 7, 9, b), vec(0, 0), vec(6, 0), moving(fast-6, 7, 9, b)},
		{moving(7, 5-fast, 9, b), vec(0, 0), vec(0, -8), moving(7, 8-fast, 9, b)},
		{moving(0, 0, 0, b), vec(0, 0), vec(2*fast, 3), moving(-fast, 0, 0, b)},
		{moving(7, 8, quick, block()), vec(one, 0), vec(0, 4*one), moving(7, 8, quick-4*24576, block())},
		{moving(7, 8, 1-quick, block()), vec(one, 0), vec(0, -4*one), moving(7, 8, 4*24576-quick, block())},
	} {
		there := body.ApplyImpulse(r.before, r.point, r.push)
		if back := body.ApplyImpulse(there, r.point, vec(-r.push.X, -r.push.Y)); !body.Equal(back, r.want) {
			t.Errorf("the impulse %v at %v and its opposite made %v %v, want %v", r.push, r.point, r.before, back, r.want)
		}
	}
	there := body.ApplyAngularImpulse(moving(7, 8, quick-5, block()), one)
	if back := body.ApplyAngularImpulse(there, -one); !body.Equal(back, moving(7, 8, quick-24576, block())) {
		t.Errorf("the angular impulse and its opposite made %v", back)
	}
}
