package forge

import "ingot/api"

// The statuses of replies.
const (
	statusDone      = 200
	statusMade      = 201
	statusUnknown   = 401
	statusForbidden = 403
	statusMissing   = 404
	statusConflict  = 409
	statusWrong     = 422
	statusTooOften  = 429
	statusFault     = 500
	statusNoRoom    = 507
)

// Status tells an error's status.
func Status(e api.Errno) int {
	switch e {
	case api.OK:
		return statusDone
	case api.ErrHead, api.ErrDeps, api.ErrOp, api.ErrCode, api.ErrOrder, api.ErrLoop:
		fallthrough // a patch that may not be is an argument that may not be
	case api.ErrArg, api.ErrName, api.ErrText:
		return statusWrong
	case api.ErrMissing:
		return statusMissing
	case api.ErrLast, api.ErrOwn, api.ErrClosed:
		fallthrough // what people may not do as things stand is a conflict as that of patches is
	case api.ErrThere, api.ErrNeeded, api.ErrConflict, api.ErrOver:
		return statusConflict
	case api.ErrLong, api.ErrQuota, api.ErrFull:
		return statusNoRoom
	case api.ErrRate:
		return statusTooOften
	case api.ErrToken, api.ErrRevoked, api.ErrExpired:
		return statusUnknown
	}
	return statusFault
}
