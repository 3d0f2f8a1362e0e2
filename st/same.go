package st

import (
	"slices"

	"relay/api"
)

// maxNested is more parts within one another than anything is promised of. Deeper trees, which may lead back into themselves, are the same as none.
const maxNested = 1 << 17

func sameStmts(a, b []api.Stmt, nested int) bool {
	return slices.EqualFunc(a, b, func(x, y api.Stmt) bool { return sameStmt(x, y, nested+1) })
}

func sameStmt(a, b api.Stmt, nested int) bool {
	// Of a FOR the number is layer 15's.
	isNum := a.Num == b.Num || a.Op == api.StFor
	return nested <= maxNested && a.Op == b.Op && a.Name == b.Name && isNum &&
		slices.Equal(a.Names, b.Names) && slices.Equal(a.OutNames, b.OutNames) && slices.Equal(a.Ranges, b.Ranges) &&
		sameExprs(a.Exprs, b.Exprs, nested) && sameExprs(a.Outs, b.Outs, nested) &&
		sameStmts(a.Body, b.Body, nested) && sameStmts(a.Else, b.Else, nested)
}

func sameExprs(a, b []api.Expr, nested int) bool {
	return slices.EqualFunc(a, b, func(x, y api.Expr) bool { return sameExpr(x, y, nested+1) })
}

func sameExpr(a, b api.Expr, nested int) bool {
	return nested <= maxNested && a.Op == b.Op && a.Name == b.Name && a.Field == b.Field && a.Value == b.Value &&
		slices.Equal(a.Names, b.Names) && sameExprs(a.Kids, b.Kids, nested)
}
