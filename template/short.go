package template

import "sentry/formula"

// Short names, so that the templates read like the formulas that they stand for.

func not(f *formula.Formula) *formula.Formula { return formula.One(formula.Not, f) }

func next(f *formula.Formula) *formula.Formula { return formula.One(formula.Next, f) }

func weakNext(f *formula.Formula) *formula.Formula { return formula.One(formula.WeakNext, f) }

func finally(f *formula.Formula) *formula.Formula { return formula.One(formula.Finally, f) }

func globally(f *formula.Formula) *formula.Formula { return formula.One(formula.Globally, f) }

func until(f, g *formula.Formula) *formula.Formula { return formula.Two(formula.Until, f, g) }

func and(f, g *formula.Formula) *formula.Formula { return formula.Two(formula.And, f, g) }

func or(f, g *formula.Formula) *formula.Formula { return formula.Two(formula.Or, f, g) }

func implies(f, g *formula.Formula) *formula.Formula { return formula.Two(formula.Implies, f, g) }
