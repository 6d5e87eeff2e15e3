package tests

import "loop.example/g00063/impl"

// The functions of all chapters, each with arguments that it takes; every_function_test.go
// says what is asked of them.

func askedOfAir() []asked {
	curve := impl.Curve{X: []int{0, 3, 5}, Y: []int{1, 7, 2}}
	ofCurve := bound(20, "0.X", "0.Y")
	grid := impl.Grid{X: []int{0, 2}, Y: []int{0, 3, 4}, Z: [][]int{{1, 2}, {3, 4}, {5, 6}}}
	ofGrid := bound(20, "0.X", "0.Y", "0.Z", "0.Z[]")
	air := impl.Air{Base: 15, Slopes: []int{-2, 1}, Tops: []int{10, 20}}
	ofAir := bound(6, "0.Slopes", "0.Tops")
	return []asked{
		{name: "CurveOk", of: impl.CurveOk, right: []any{curve}, refuses: []any{false}, most: ofCurve},
		{name: "At", of: impl.At, right: []any{curve, 4}, refuses: []any{impl.Frac{}, false}, most: ofCurve},
		{name: "Held", of: impl.Held, right: []any{curve, 4}, refuses: []any{impl.Frac{}, false}, most: ofCurve, free: "1"},
		{name: "Find", of: impl.Find, right: []any{curve, 3}, refuses: []any{0, false}, most: ofCurve, free: "1"},
		{name: "GridOk", of: impl.GridOk, right: []any{grid}, refuses: []any{false}, most: ofGrid},
		{name: "AtGrid", of: impl.AtGrid, right: []any{grid, 1, 2}, refuses: []any{impl.Frac{}, false}, most: ofGrid},
		{name: "AirOk", of: impl.AirOk, right: []any{air}, refuses: []any{false}, most: ofAir},
		{name: "Warm", of: impl.Warm, right: []any{air, 5}, refuses: []any{0, false}, most: ofAir},
		{name: "Coldest", of: impl.Coldest, right: []any{air}, refuses: []any{0, 0, false}, most: ofAir},
	}
}

func askedOfMass() []asked {
	envelope := impl.Envelope{Mass: []int{0, 100}, Fore: []int{-10, -10}, Aft: []int{10, 12}}
	ofEnvelope := bound(10, "0.Mass", "0.Fore", "0.Aft")
	dry := impl.Sum2{Mass: 50, Moment: 20}
	tanks := []impl.FuelTank{{Has: 10, Arm: 1}, {Has: 5, Arm: -1}}
	plan := []impl.Burn{{Tank: 0, Many: 5}, {Tank: 1, Many: 3}}
	return []asked{
		{name: "SumOf", of: impl.SumOf, right: []any{[]impl.Item{{Mass: 5, Arm: 1}, {Mass: 3, Arm: -2}}},
			refuses: []any{impl.Sum2{}, false}, most: bound(40, "0"), empty: "0"},
		{name: "EnvelopeOk", of: impl.EnvelopeOk, right: []any{envelope}, refuses: []any{false}, most: ofEnvelope},
		{name: "Inside", of: impl.Inside, right: []any{envelope, dry}, refuses: []any{false}, most: ofEnvelope},
		{name: "Burnt", of: impl.Burnt, right: []any{tanks, plan}, refuses: []any{nil, -2},
			most: joined(bound(8, "0"), bound(60, "1")), empty: "0 1", free: "1[]*"},
		{name: "Leaves", of: impl.Leaves, right: []any{envelope, dry, tanks, plan}, refuses: []any{-2},
			most: joined(ofEnvelope, bound(8, "2"), bound(60, "3")), empty: "3"},
		{name: "Order", of: impl.Order, right: []any{envelope, dry, tanks, 5}, refuses: []any{nil, false},
			most: joined(ofEnvelope, bound(8, "2")), empty: "2"},
	}
}

func askedOfRunways() []asked {
	runner := impl.Runner{Push: 10, Drag: 2, Stop: 5, Engines: 2}
	phases := []impl.Phase{{Climb: 5, Ticks: 10}, {Climb: -1, Ticks: 20}}
	peaks := []impl.Peak{{At: 5, High: 10}, {At: 200, High: 20}}
	return []asked{
		{name: "RunnerOk", of: impl.RunnerOk, right: []any{runner}, refuses: []any{false}},
		{name: "Rolls", of: impl.Rolls, right: []any{runner, 50, 100}, refuses: []any{0, 0, false}},
		{name: "Stops", of: impl.Stops, right: []any{runner, 50}, refuses: []any{0, false}},
		{name: "Decide", of: impl.Decide, right: []any{runner, 100, 100000}, refuses: []any{0, 0, false}},
		{name: "Climbs", of: impl.Climbs, right: []any{100, phases}, refuses: []any{nil, false}, most: bound(12, "1"), empty: "1"},
		{name: "Clears", of: impl.Clears, right: []any{100, phases, peaks, 10}, refuses: []any{-2, false},
			most: joined(bound(12, "1"), bound(20, "2")), empty: "1 2"},
	}
}

func askedOfModes() []asked {
	a, b := impl.Cx{Re: 1.5, Im: -2}, impl.Cx{Re: 0.25, Im: 3}
	list := []impl.Cx{a, b}
	return []asked{
		{name: "Wider", of: impl.Wider, right: []any{impl.Sharp{Re: 1.5, Im: -2}}},
		{name: "Sharper", of: impl.Sharper, right: []any{a}},
		{name: "CxAdd", of: impl.CxAdd, right: []any{a, b}},
		{name: "CxLess", of: impl.CxLess, right: []any{a, b}},
		{name: "CxTimes", of: impl.CxTimes, right: []any{a, b}},
		{name: "CxOver", of: impl.CxOver, right: []any{a, b}},
		{name: "CxSame", of: impl.CxSame, right: []any{a, b}},
		{name: "Poly", of: impl.Poly, right: []any{list, b}, refuses: []any{impl.Cx{}, false}, most: bound(12, "0"), empty: "0"},
		{name: "FromRoots", of: impl.FromRoots, right: []any{list}, refuses: []any{nil, false}, most: bound(11, "0"), empty: "0"},
		{name: "Steps4", of: impl.Steps4, right: []any{a, 3}, refuses: []any{nil, false}},
		{name: "Damped", of: impl.Damped, right: []any{[]impl.Cx{{Re: -1}, b}}, refuses: []any{0, false}, most: bound(12, "0"), empty: "0"},
		{name: "Flutter", of: impl.Flutter, right: []any{a, b, b, a}},
	}
}

func askedOfSteps() []asked {
	motion := impl.Motion{Speed: 100, Height: 1000, Pitch: 0.1, Rate: 0.01}
	forces := impl.Forces{Thrust: 10, Drag: 0.001, Lift: 0.5, Damp: 0.1, Weight: 9}
	list := []float64{1, 2.5, 3}
	return []asked{
		{name: "StepOnce", of: impl.StepOnce, right: []any{motion, forces, 0.5, 0.1}},
		{name: "Fly", of: impl.Fly, right: []any{motion, forces, list, 0.1}, refuses: []any{nil, false}, most: bound(400, "2"), empty: "2"},
		{name: "Load5", of: impl.Load5, right: []any{motion, forces}},
		{name: "MeanOf", of: impl.MeanOf, right: []any{list}, refuses: []any{0.0, 0, false}, most: bound(60, "0")},
		{name: "Smooth", of: impl.Smooth, right: []any{list, 0.5}, refuses: []any{nil, false}, most: bound(60, "0"), empty: "0"},
		{name: "FirstOver", of: impl.FirstOver, right: []any{[]impl.Motion{{}, motion}, 5.0}, free: "0"},
		{name: "Near5", of: impl.Near5, right: []any{motion, motion, 0.5}},
	}
}

func askedOfStructure() []asked {
	crack := impl.Crack{Now: 10, Limit: 100, Grows: 50}
	lives := []impl.Life{{Part: "a", Hours: 10, Days: 5}, {Part: "b", Cycles: 7}}
	stays := []impl.Stay{{Part: "a", Hours: 10, Cycles: 1, Days: 1}, {Part: "c", Cycles: 7}}
	return []asked{
		{name: "Crossings", of: impl.Crossings, right: []any{[]int{1, 5, 2, 4}, 3}, refuses: []any{0, false}, most: bound(300, "0"), empty: "0", free: "1"},
		{name: "Used", of: impl.Used, right: []any{[]impl.Step6{{Range: 10, Cycles: 1000}, {Range: 20, Cycles: 100}}, []int{5, 15, 25}},
			refuses: []any{impl.Frac{}, false}, most: joined(bound(20, "0"), bound(40, "1")), empty: "1"},
		{name: "Flights", of: impl.Flights, right: []any{crack}, refuses: []any{0, false}},
		{name: "Inspect", of: impl.Inspect, right: []any{crack, 5, 3}, refuses: []any{0, false}},
		{name: "Left6", of: impl.Left6, right: []any{lives[0], stays[0]}, refuses: []any{-1, 0, false}},
		{name: "Due6", of: impl.Due6, right: []any{lives, stays}, refuses: []any{nil, false}, most: bound(30, "0", "1"), empty: "0 1"},
	}
}

func askedOfPower() []asked {
	net := impl.Net7{
		Buses: 3, Sources: []impl.Source{{Bus: 0, Power: 100, Works: true}, {Bus: 2, Power: 50}},
		Ties: []impl.Tie{{A: 0, B: 1}, {A: 1, B: 2, Closed: true}}, Uses: []impl.Use{{Bus: 1, Power: 50}, {Bus: 0, Power: 70, Rank: 9}},
	}
	ofNet := joined(bound(6, "0.Sources"), bound(16, "0.Ties"), bound(40, "0.Uses"))
	lists := "0.Sources 0.Ties 0.Uses"
	return []asked{
		{name: "NetOk", of: impl.NetOk, right: []any{net}, refuses: []any{false}, most: ofNet, empty: lists},
		{name: "Islands", of: impl.Islands, right: []any{net}, refuses: []any{nil, false}, most: ofNet, empty: lists},
		{name: "Shed", of: impl.Shed, right: []any{net}, refuses: []any{nil, false}, most: ofNet, empty: lists},
		{name: "CloseFor", of: impl.CloseFor, right: []any{net, 1}, refuses: []any{nil, false}, most: ofNet, empty: lists},
		{name: "Lasts", of: impl.Lasts, right: []any{impl.Battery{Charge: 50, Most: 100, Loss: 1}, []int{5, -3}},
			refuses: []any{0, 0, false}, most: bound(300, "1"), empty: "1"},
		{name: "PumpTick", of: impl.PumpTick, right: []any{impl.Pump7{State: 1, Pressure: 1500}, true, 10}, refuses: []any{impl.Pump7{}, false}},
	}
}

func askedOfVotes() []asked {
	voter := impl.Voter{Near: 5, Hold: 3, Out: []bool{false, false, true}, Odd: []int{0, 1, 3}}
	ofVoter := bound(5, "0.Out", "0.Odd")
	seen := []int{1, 20, 3}
	return []asked{
		{name: "VoterOk", of: impl.VoterOk, right: []any{voter}, refuses: []any{false}, most: ofVoter},
		{name: "Fresh", of: impl.Fresh, right: []any{3, 5, 2}, refuses: []any{impl.Voter{}, false}},
		{name: "Vote", of: impl.Vote, right: []any{voter, seen}, refuses: []any{given(0), 0, impl.VoteNone}, most: joined(ofVoter, bound(5, "1"))},
		{name: "Votes", of: impl.Votes, right: []any{voter, [][]int{seen, {2, 2, 2}}}, refuses: []any{given(0), nil},
			most: bound(200, "1"), empty: "1", free: "0* 1[]*"},
		{name: "TwoAlike", of: impl.TwoAlike, right: []any{voter, seen}, refuses: []any{false}, most: joined(ofVoter, bound(5, "1"))},
		{name: "Fight", of: impl.Fight, right: []any{[]int{1, 20}, 5}, refuses: []any{0, impl.ForceNone}, most: bound(5, "0")},
		{name: "Monitor", of: impl.Monitor, right: []any{[]int{1, 9, 9}, 0, 5, 2}, refuses: []any{-1, false}, most: bound(500, "0"), free: "0[] 1 2"},
	}
}

func askedOfLaws() []asked {
	gain := impl.Gain{Speeds: []int{0, 100}, Gains: []int{10, 20}}
	limits := impl.Limits{Low: -100, High: 100, Step: 10}
	stick := impl.Stick{Ask: 10, Rate: 1, Speed: 50, Load: 100}
	return []asked{
		{name: "GainOk", of: impl.GainOk, right: []any{gain}, refuses: []any{false}, most: bound(8, "0.Speeds", "0.Gains")},
		{name: "GainAt", of: impl.GainAt, right: []any{gain, 50}, refuses: []any{0}, most: bound(8, "0.Speeds", "0.Gains"), free: "1"},
		{name: "Law", of: impl.Law, right: []any{impl.LawNormal, gain, stick, limits, 5}, refuses: []any{given(4), impl.LawBad},
			most: bound(8, "1.Speeds", "1.Gains"), free: "2.Speed"},
		{name: "ModeOf", of: impl.ModeOf, right: []any{3, true, 0}, free: "0 2"},
		{name: "Mix", of: impl.Mix, right: []any{impl.Mixer{A: []int{10, 20}, B: []int{1, 2}}, 100, -100, limits}, refuses: []any{nil, 0, false},
			most: bound(12, "0.A", "0.B")},
		{name: "TrimTick", of: impl.TrimTick, right: []any{5, 1, 3}, refuses: []any{0, 0, false}},
	}
}

func askedOfThePilot() []asked {
	pilot := impl.Pilot{Vert: impl.VertClimb, Lat: impl.LatHeading, Height: 1000, Target: 2000, Rate: 20, Heading: 10, Wanted: 90, Off: 70, Armed: true}
	return []asked{
		{name: "PilotOk", of: impl.PilotOk, right: []any{pilot}, refuses: []any{false}},
		{name: "Press", of: impl.Press, right: []any{pilot, impl.KeyTarget, 3000}, refuses: []any{given(0), false}},
		{name: "PilotTick", of: impl.PilotTick, right: []any{pilot, 5}, refuses: []any{impl.Pilot{}, false}},
		{name: "Ticks", of: impl.Ticks, right: []any{pilot, []int{5, -5}}, refuses: []any{nil, false}, most: bound(300, "1"), empty: "1"},
		{name: "Changes", of: impl.Changes, right: []any{[]impl.Pilot{pilot, {}}}, free: "0*"},
	}
}

func askedOfNavigation() []asked {
	fixes := []impl.Fix{{X: 10, Y: 0, Far: 100}, {X: 0, Y: 10, Far: 100}, {X: -3, Y: -4, Far: 25}}
	drift, place := impl.Drift{X: 1, Y: 2, VX: 3, VY: 4}, impl.Place{X: 5, Y: -6}
	return []asked{
		{name: "Misfit", of: impl.Misfit, right: []any{place, fixes[0]}, refuses: []any{0}},
		{name: "Locate", of: impl.Locate, right: []any{fixes, 100}, refuses: []any{impl.Place{}, 0, false}, most: bound(12, "0"), free: "1"},
		{name: "LeaveOut", of: impl.LeaveOut, right: []any{append(fixes[:3:3], impl.Fix{X: 6, Y: 8, Far: 100}), 100}, refuses: []any{-2, false},
			most: bound(12, "0"), free: "1"},
		{name: "Inertial", of: impl.Inertial, right: []any{drift, []impl.Push{{AX: 1, AY: -1}, {AX: 2}}}, refuses: []any{impl.Drift{}, false},
			most: bound(300, "1"), empty: "1"},
		{name: "Blend", of: impl.Blend, right: []any{drift, place, 50}, refuses: []any{impl.Drift{}, false}},
		{name: "Beside", of: impl.Beside, right: []any{impl.Place{}, place, impl.Place{X: 7, Y: 7}}, refuses: []any{0, false}},
	}
}

func askedOfLegs() []asked {
	craft, leg := impl.Craft{X: 1, Y: 2, Dir: 3, Height: 4, Climb: 5}, impl.Leg{Kind: impl.LegTo, X: 5, Y: 6}
	return []asked{
		{name: "CraftOk", of: impl.CraftOk, right: []any{craft}, refuses: []any{false}},
		{name: "LegOk", of: impl.LegOk, right: []any{leg}, refuses: []any{false}, free: "0.Many"},
		{name: "FlyLeg", of: impl.FlyLeg, right: []any{craft, leg}, refuses: []any{given(0), 0, impl.FlyBad}, free: "1.Many"},
		{name: "FlyRoute", of: impl.FlyRoute, right: []any{craft, []impl.Leg{leg}}, refuses: []any{given(0), nil, impl.FlyBad},
			most: bound(30, "1"), empty: "1", free: "1[].Many"},
		{name: "LegText", of: impl.LegText, right: []any{leg}, refuses: []any{"", false}, free: "0.Many"},
		{name: "LegRead", of: impl.LegRead, right: []any{"to 5 6"}, refuses: []any{impl.Leg{}, false}},
	}
}

func askedOfProfiles() []asked {
	points := []impl.Point{{Far: 0, Low: 0, High: 100}, {Far: 10, Low: 50, High: 60}}
	most := bound(30, "0")
	return []asked{
		{name: "PointsOk", of: impl.PointsOk, right: []any{points}, refuses: []any{false}, most: most},
		{name: "Reach", of: impl.Reach, right: []any{points, 10, 10}, refuses: []any{nil, -1, false}, most: most},
		{name: "Profile", of: impl.Profile, right: []any{points, 10, 10, 20}, refuses: []any{nil, false}, most: most},
		{name: "Best", of: impl.Best, right: []any{points, 10, 10}, refuses: []any{0, false}, most: most},
		{name: "Descent", of: impl.Descent, right: []any{100, 10, 50}, refuses: []any{0, false}},
	}
}

func askedOfWarnings() []asked {
	rules := []impl.WarnRule{{Name: "a", Rank: 3, Quiet: []int{1}, Latch: true}, {Name: "b", Rank: 1, Quiet: []int{0, 9}, Needs: "a"}}
	// No more phases than there are stand in a list that ascends, and no more names than there are rules.
	ofRules, quiet := joined(bound(30, "0"), bound(10, "0[].Quiet")), "0[].Quiet "
	panel, ofPanel, lists := impl.Panel{Active: []string{"a", "b"}, Latched: []string{"a"}, Taken: []string{"b"}},
		bound(2, "1.Active", "1.Latched", "1.Taken"), "1.Active 1.Latched 1.Taken "
	return []asked{
		{name: "RulesOk", of: impl.RulesOk, right: []any{rules}, refuses: []any{false}, most: ofRules, empty: quiet + "0", free: "0[].Needs"},
		{name: "Update14", of: impl.Update14, right: []any{rules, panel, 5, []string{"a", "b"}}, refuses: []any{impl.Panel{}, nil, false},
			most: joined(ofRules, ofPanel, bound(2, "3")), empty: quiet + lists + "3", free: "0[].Needs"},
		{name: "Take14", of: impl.Take14, right: []any{rules, panel, "a"}, refuses: []any{given(1), false},
			most: joined(ofRules, ofPanel), empty: quiet + lists, free: "0[].Needs"},
		{name: "Inhibited", of: impl.Inhibited, right: []any{rules, 1}, refuses: []any{nil, false}, most: ofRules, empty: quiet + "0", free: "0[].Needs"},
		{name: "Loudest", of: impl.Loudest, right: []any{rules, []string{"zz", "b"}}, refuses: []any{0, false},
			most: joined(ofRules, bound(30, "1")), empty: quiet + "0 1", free: "0[].Needs 1[]"},
	}
}

func askedOfKeepingApart() []asked {
	track := impl.Track{Id: 7, Height: 1000, Climb: 0, Range: 500, Close: 100}
	own, other := impl.Own{Id: 3, Height: 1100, Climb: -10}, impl.Own{Id: 9, Height: 1000, Climb: 10}
	return []asked{
		{name: "TrackOk", of: impl.TrackOk, right: []any{track}, refuses: []any{false}},
		{name: "OwnOk", of: impl.OwnOk, right: []any{own}, refuses: []any{false}},
		{name: "TicksTo", of: impl.TicksTo, right: []any{track}, refuses: []any{0, false}},
		{name: "Threat", of: impl.Threat, right: []any{own, track, 500, 100}, refuses: []any{false}},
		{name: "Advise", of: impl.Advise, right: []any{own, track, 500, 100}, refuses: []any{impl.SenseNone}},
		{name: "Pair", of: impl.Pair, right: []any{own, other, 500, 100, 500, 100}, refuses: []any{0, 0, false}},
		{name: "Nearest", of: impl.Nearest, right: []any{own, []impl.Track{track}, 500, 100}, refuses: []any{-1, false}, most: bound(20, "1")},
		{name: "Alert", of: impl.Alert, right: []any{[]int{0, 0, 90}, 100, -10, 50}, refuses: []any{-1, false}, most: bound(200, "0")},
	}
}

func askedOfBuses() []asked {
	word, receiver := impl.Word16{Link: 5, Seq: 7, Data: []byte{1, 2}}, impl.Receiver{Link: 5, Next: 6, Skew: 10}
	frame, _ := impl.Put16(word)
	frames := [][]byte{frame, {1, 2, 3}}
	return []asked{
		{name: "WordOk", of: impl.WordOk, right: []any{word}, refuses: []any{false}, most: bound(32, "0.Data"), empty: "0.Data"},
		{name: "Put16", of: impl.Put16, right: []any{word}, refuses: []any{nil, false}, most: bound(32, "0.Data"), empty: "0.Data"},
		{name: "Get16", of: impl.Get16, right: []any{frame}, free: "0*"},
		{name: "ReceiverOk", of: impl.ReceiverOk, right: []any{receiver}, refuses: []any{false}},
		{name: "Accept", of: impl.Accept, right: []any{receiver, word}, refuses: []any{given(0), false, 0}, most: bound(32, "1.Data"), empty: "1.Data"},
		{name: "Both16", of: impl.Both16, right: []any{receiver, frames, frames}, refuses: []any{nil, 0, given(0)},
			most: bound(200, "1", "2"), empty: "1 2", free: "1[]* 2[]*"},
		{name: "Slot16", of: impl.Slot16, right: []any{[]int{1, 0, 2}, 5}, refuses: []any{0, false}, most: bound(40, "0")},
		{name: "Gap16", of: impl.Gap16, right: []any{[]int{1, 0, 1, 2}, 1}, refuses: []any{0, false}, most: bound(40, "0")},
	}
}

func askedOfPartitions() []asked {
	plan := impl.Plan17{Frame: 100, Parts: 2, Windows: []impl.Window{{Part: 0, At: 0, Long: 10}, {Part: 1, At: 20, Long: 30}}}
	most, lists := bound(40, "0.Windows"), "0.Windows "
	return []asked{
		{name: "PlanOk", of: impl.PlanOk, right: []any{plan}, refuses: []any{false}, most: most, empty: lists},
		{name: "Owner", of: impl.Owner, right: []any{plan, 5}, refuses: []any{-1, false}, most: most, empty: lists},
		{name: "Share", of: impl.Share, right: []any{plan, 0}, refuses: []any{0, 0, false}, most: most, empty: lists},
		{name: "RunJobs", of: impl.RunJobs, right: []any{plan, []impl.Job{{Part: 0, Every: 50, Needs: 20}, {Part: 1, Every: 9, Needs: 1}}, 500},
			refuses: []any{nil, 0, false}, most: joined(most, bound(20, "1")), empty: lists + "1"},
		{name: "FitWindow", of: impl.FitWindow, right: []any{plan, 0, 5}, refuses: []any{given(0), false}, most: most, empty: lists},
	}
}

func askedOfLoads() []asked {
	load := impl.Load18{Part: "eec", Number: 50, Fits: impl.Fits{Least: 1, Most: 100}, Needs: 7, Data: []byte{1, 2}}
	aboard := impl.Aboard{Serial: 20, Loads: []impl.Load18{
		{Part: "fms", Number: 7, Fits: impl.Fits{Least: 1, Most: 100}, Data: []byte{3}},
		{Part: "adc", Number: 9, Fits: impl.Fits{Least: 20, Most: 20}, Needs: 7, Data: []byte{4, 5}},
	}}
	seal, _ := impl.Seal(load)
	ofAboard, lists := joined(bound(30, "0.Loads"), bound(400, "0.Loads[].Data")), "0.Loads 0.Loads[].Data "
	return []asked{
		{name: "LoadOk", of: impl.LoadOk, right: []any{load}, refuses: []any{false}, most: bound(400, "0.Data"), empty: "0.Data"},
		{name: "Seal", of: impl.Seal, right: []any{load}, refuses: []any{0, false}, most: bound(400, "0.Data"), empty: "0.Data"},
		{name: "AboardOk", of: impl.AboardOk, right: []any{aboard}, refuses: []any{false}, most: ofAboard, empty: lists},
		{name: "Take18", of: impl.Take18, right: []any{aboard, load, seal}, refuses: []any{given(0), impl.TakeBad},
			most: joined(ofAboard, bound(400, "1.Data")), empty: lists + "1.Data", free: "2"},
		{name: "Drop18", of: impl.Drop18, right: []any{aboard, 9}, refuses: []any{given(0), false}, most: ofAboard, empty: lists},
		{name: "Effective", of: impl.Effective, right: []any{aboard, []impl.Load18{load}}, refuses: []any{nil, false},
			most: joined(ofAboard, bound(30, "1"), bound(400, "1[].Data")), empty: lists + "1 1[].Data"},
	}
}

func askedOfMaintenance() []asked {
	fleet := fleet19()
	ofFleet, lists := joined(bound(40, "0.Tasks"), bound(20, "0.Carries", "0.Defects")), "0.Tasks 0.Carries 0.Defects "
	deed := impl.Deed19{Kind: impl.WorkFind, Name: "fan", Item: 7}
	return []asked{
		{name: "ClockOk", of: impl.ClockOk, right: []any{fleet.Now}, refuses: []any{false}},
		{name: "TaskOk", of: impl.TaskOk, right: []any{fleet.Tasks[0]}, refuses: []any{false}},
		{name: "Due19", of: impl.Due19, right: []any{fleet.Tasks[0], fleet.Now}, refuses: []any{false, impl.Clock{}, false}},
		{name: "CarryOk", of: impl.CarryOk, right: []any{fleet.Carries}, refuses: []any{false}, most: bound(20, "0"), empty: "0"},
		{name: "FleetOk", of: impl.FleetOk, right: []any{fleet}, refuses: []any{false}, most: ofFleet, empty: lists},
		{name: "Release", of: impl.Release, right: []any{fleet}, refuses: []any{impl.FreeBad, ""}, most: ofFleet, empty: lists},
		{name: "DoWork", of: impl.DoWork, right: []any{fleet, deed}, refuses: []any{given(0), false}, most: ofFleet, empty: lists, free: "1.Many"},
		{name: "RunWork", of: impl.RunWork, right: []any{fleet, []impl.Deed19{deed, {Kind: impl.WorkMend, Item: 20}}}, refuses: []any{given(0), nil},
			most: bound(100, "1"), empty: "1", free: "0* 1[]*"},
		{name: "NextDue", of: impl.NextDue, right: []any{fleet}, refuses: []any{"", 0, false}, most: ofFleet, empty: lists},
	}
}

func askedOfRecords() []asked {
	rows := [][]int{{1, 200}, {3, -4}, {9, 9}}
	most := joined(bound(200, "0"), bound(8, "0[]"))
	packed, _ := impl.Pack20(rows)
	return []asked{
		{name: "RecordOk", of: impl.RecordOk, right: []any{rows}, refuses: []any{false}, most: most, empty: "0"},
		{name: "Pack20", of: impl.Pack20, right: []any{rows}, refuses: []any{nil, false}, most: most, empty: "0"},
		{name: "Unpack20", of: impl.Unpack20, right: []any{packed}, free: "0*"},
		{name: "Column", of: impl.Column, right: []any{rows, 1}, refuses: []any{nil, false}, most: most},
		{name: "Events20", of: impl.Events20, right: []any{rows, 0, 2}, refuses: []any{nil, false}, most: most, free: "2"},
		{name: "Same20", of: impl.Same20, right: []any{rows, [][]int{{1, 200}, {3, -5}}}, refuses: []any{-2, -2, false},
			most: joined(most, bound(200, "1"), bound(8, "1[]")), empty: "0 1"},
	}
}

func askedOfTheDesk() []asked {
	desk := desk21()
	desk.Legs = []impl.Leg{legTo(12, -20), legTo(1, 1)}
	ofDesk := joined(bound(30, "0.Legs"), bound(40, "0.Fleet.Tasks"), bound(20, "0.Fleet.Carries", "0.Fleet.Defects"))
	lists, unnamed := "0.Legs 0.Fleet.Tasks 0.Fleet.Carries 0.Fleet.Defects ", "0.Legs[].Many "
	return []asked{
		{name: "DeskOk", of: impl.DeskOk, right: []any{desk}, refuses: []any{false}, most: ofDesk, empty: lists, free: unnamed},
		{name: "NewDesk", of: impl.NewDesk},
		{name: "DoLine", of: impl.DoLine, right: []any{desk, "fly"}, refuses: []any{given(0), "no"}, most: ofDesk, empty: lists, free: unnamed + "1"},
		{name: "Session", of: impl.Session, right: []any{"fly\nrelease\nfind lamp 5"}, free: "0"},
		{name: "Replay", of: impl.Replay, right: []any{desk, []string{"fly", "find lamp 5"}}, refuses: []any{given(0), nil},
			most: bound(150, "1"), empty: "1", free: "0* 1[]"},
	}
}
