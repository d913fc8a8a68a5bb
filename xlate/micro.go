package xlate

import "tandem/api"

// mostMicros is how many micro-ops an instruction has at most.
const mostMicros = 4

// recipes is the micro-ops of each kind of instruction; 0 is none. (What a kind has in one mode alone stands in recipeOf.)
var recipes = [api.KindJam + 1][mostMicros]api.MicroKind{
	api.KindPlain:  {api.MicroAlu},
	api.KindRead:   {api.MicroAddr, api.MicroLoad, api.MicroAlu},
	api.KindFixed:  {api.MicroAddr, api.MicroLoad},
	api.KindWrite:  {api.MicroAddr, api.MicroAlu, api.MicroStore},
	api.KindRmw:    {api.MicroAddr, api.MicroLoad, api.MicroAlu, api.MicroStore},
	api.KindBranch: {api.MicroBranch},
	api.KindJump:   {api.MicroJump},
	api.KindCall:   {api.MicroCall},
	api.KindReturn: {api.MicroReturn},
	api.KindPush:   {api.MicroAlu, api.MicroPush},
	api.KindPull:   {api.MicroPull, api.MicroAlu},
}

// recipeOf is the micro-ops of an instruction.
func recipeOf(i api.Inst) [mostMicros]api.MicroKind {
	switch i.Mode {
	case api.ModeImm:
		return [mostMicros]api.MicroKind{api.MicroConst, api.MicroAlu}
	case api.ModeInd:
		return [mostMicros]api.MicroKind{api.MicroVia}
	}
	return recipes[i.Kind]
}

// withMicros lays an instruction's micro-ops behind those that are there.
func withMicros(ops []api.Micro, p piece) []api.Micro {
	for _, kind := range recipeOf(p.inst) {
		if kind == 0 {
			break
		}
		o := api.Micro{Kind: kind, Op: p.inst.Op, Mode: p.inst.Mode, Inst: p.number, Cycle: p.cycle}
		switch kind {
		case api.MicroAddr, api.MicroConst, api.MicroJump, api.MicroVia, api.MicroCall:
			o.Arg = p.operand()
		case api.MicroBranch:
			o.Arg = p.target()
		case api.MicroAlu:
			o.Flags = p.live
		}
		ops = append(ops, o)
	}
	return ops
}
