package typed

import "postern/api"

// Ends: does a block never end but by a return?
func Ends(l []api.Stmt) bool {
	if len(l) == 0 {
		return false
	}
	last := l[len(l)-1]
	switch last.Kind {
	case api.Return:
		return true
	case api.If:
		return Ends(last.Body) && Ends(last.Else)
	case api.Switch:
		for _, c := range last.Cases {
			if !Ends(c.Body) {
				return false
			}
		}
		return Ends(last.Else)
	}
	return false
}
