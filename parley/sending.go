package parley

import (
	"parley/api"
	"parley/frames"
)

func toKeeper(keeper int, f frames.Frame) api.Out {
	return api.Out{To: keeper, Bytes: frames.Bytes(f)}
}

func toClient(f frames.Told) api.Out {
	return api.Out{Client: true, To: f.Line.Client, Bytes: frames.Bytes(f)}
}

// answer is all that is sent: one frame, to the keeper that was heard.
func answer(to frames.Stamp, f frames.Frame) []api.Out {
	return []api.Out{toKeeper(to.From, f)}
}

// toOthers makes the bytes anew for each keeper, so that no two frames share memory.
func (k *Keeper) toOthers(f frames.Frame) []api.Out {
	var out []api.Out
	for _, other := range k.others() {
		out = append(out, toKeeper(other, f))
	}
	return out
}
