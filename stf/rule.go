package stf

import (
	"math"

	"proctor/api"
)

// The program keeps a state as one tree: the node 1 is its root, and the halves of the node n's Pair are the nodes 2n and 2n + 1. So the accounts' tree hangs below the node 4, that of the withdrawals below 5, and the node 3 is how many of these there are.
// To open a node is to put its halves into the data, of the preimage of its sum. All that will be asked is opened ahead of the first change: of what is new no preimage is known.
const (
	topNode      = 1
	countNode    = 3
	accountsNode = 4
	outsNode     = 5
	levels       = api.Levels + 2 // from a leaf up to the top
	firstAccount = accountsNode << api.Levels
	firstOut     = outsNode << api.Levels
	allNodes     = firstOut + api.MaxOuts
)

// Where the data stand, behind those that are spoken for.
const (
	fieldsAt  = didAt + 1                // the message's words
	accountAt = fieldsAt + fieldWords    // the account that is looked at
	keySumAt  = accountAt + accountWords // the sum of the message's Key
	nodesAt   = keySumAt                 // the nodes: there is no node 0, so the sum of the Key has its place
	countAt   = nodesAt + sumWords*countNode + sumWords - 1
	dataWords = nodesAt + sumWords*allNodes
)

// The words of a message, of an account and of a withdrawal: a message has these side by side as well.
const (
	kindField   = 0
	fromField   = 1
	toField     = 2
	amountField = 3
	nonceField  = 4
	keyField    = 5
	nextField   = keyField + sumWords
	fieldWords  = nextField + sumWords

	balanceWord  = 0
	nonceWord    = 1
	lockWord     = 2
	accountWords = lockWord + sumWords

	outWords = 2
)

const wordBytes = 8

// What is summed ahead of a leaf's bytes, of a Pair's halves, of a Key.
const (
	leafTag = 0
	pairTag = 1
	noTag   = 256
)

// The functions' numbers: each one calls earlier ones alone.
const (
	openNode = iota
	openRow
	openWay
	closeWay
	readAccount
	writeAccount
	addUp
	spend
	deposit
	transfer
	withdraw
	apply
	begin
	allFuncs
)

// rule is all functions of the rule's program.
func rule() []api.Func {
	all := [allFuncs]api.Func{
		openNode:     openNodeFunc(),
		openRow:      openRowFunc(),
		openWay:      openWayFunc(),
		closeWay:     closeWayFunc(),
		readAccount:  readAccountFunc(),
		writeAccount: writeAccountFunc(),
		addUp:        addUpFunc(),
		spend:        spendFunc(),
		deposit:      depositFunc(),
		transfer:     transferFunc(),
		withdraw:     withdrawFunc(),
		apply:        applyFunc(),
		begin:        beginFunc(),
	}
	return all[:]
}

// node is where the sum of the node of some number stands.
func node(n api.Expr) api.Expr {
	return sum(number(nodesAt), reckon(api.MUL, n, number(sumWords)))
}

// half is the number of a node's first half.
func half(n int) api.Expr { return sum(variable(n), variable(n)) }

// field is a word of the message.
func field(n uint64) api.Expr { return word(number(fieldsAt + n)) }

// has is a word of the account that is looked at.
func has(n uint64) api.Expr { return word(number(accountAt + n)) }

// becomes writes over a word of that account.
func becomes(n uint64, x api.Expr) part { return store(number(accountAt+n), x) }

// gains puts the message's Amount to that account's Balance.
func gains() part { return becomes(balanceWord, sum(has(balanceWord), field(amountField))) }

// leafOf is the number of the node of the account that a field names.
func leafOf(n uint64) api.Expr { return sum(number(firstAccount), field(n)) }

// strange is not 0, if a field names no account.
func strange(n uint64) api.Expr { return less(number(api.Accounts-1), field(n)) }

// openNodeFunc opens a node.
func openNodeFunc() api.Func {
	const n, of, to, got = 0, 1, 2, 3
	return function(1, 4,
		set(of, node(variable(n))),
		set(to, node(half(n))),
		pieces(got, 2*sumWords, 1,
			func() api.Expr { return variable(of) },
			func(n uint64) api.Expr { return sum(variable(to), number(n)) }),
	)
}

// openRowFunc opens all nodes from one on, up to another one without it.
func openRowFunc() api.Func {
	const n, end, none = 0, 1, 2
	return function(2, 3,
		rising(n, variable(end), call(none, openNode, variable(n))),
	)
}

// openWayFunc opens all nodes from the top down to a leaf, that one not.
func openWayFunc() api.Func {
	const leaf, up, none = 0, 1, 2
	return function(1, 3,
		set(up, number(levels)),
		while(variable(up),
			call(none, openNode, reckon(api.SHR, variable(leaf), variable(up))),
			set(up, reckon(api.SUB, variable(up), number(1)))),
	)
}

// closeWayFunc sums all nodes above one anew, up to the top.
func closeWayFunc() api.Func {
	const n = 0
	return function(1, 1,
		while(less(number(topNode), variable(n)),
			set(n, reckon(api.SHR, variable(n), number(1))),
			hash(pairTag, node(variable(n)), node(half(n)), 2*sumWords*wordBytes)),
	)
}

// readAccountFunc looks at the account of a leaf.
func readAccountFunc() api.Func {
	const leaf, of, got = 0, 1, 2
	return function(1, 3,
		set(of, node(variable(leaf))),
		pieces(got, accountWords, 1,
			func() api.Expr { return variable(of) },
			func(n uint64) api.Expr { return number(accountAt + n) }),
	)
}

// writeAccountFunc makes the account that is looked at that of a leaf.
func writeAccountFunc() api.Func {
	const leaf, none = 0, 1
	return function(1, 2,
		hash(leafTag, node(variable(leaf)), number(accountAt), accountWords*wordBytes),
		call(none, closeWay, variable(leaf)),
	)
}

// nodeRow is the nodes from one on, up to another one without it.
type nodeRow struct{ from, to uint64 }

// rowsToAccounts is all nodes that the accounts' leaves hang below, from the top down.
func rowsToAccounts() []nodeRow {
	rows := []nodeRow{{topNode, countNode}}
	for level := range api.Levels {
		rows = append(rows, nodeRow{accountsNode << level, outsNode << level})
	}
	return rows
}

// addUpFunc opens all that is above the accounts, and answers all balances together: as the state may be, no sum wraps.
func addUpFunc() api.Func {
	const total, leaf, got, none = 0, 1, 2, 3
	return function(0, 4,
		each(rowsToAccounts(), func(r nodeRow) part {
			return call(none, openRow, number(r.from), number(r.to))
		}),
		set(leaf, number(firstAccount)),
		rising(leaf, number(firstAccount+api.Accounts),
			piece(got, node(variable(leaf)), 1+wordBytes*balanceWord),
			set(total, sum(variable(total), variable(got)))),
		answer(variable(total)),
	)
}

// spendFunc opens the way to the account From, looks at it, takes the message's Amount from it and locks it anew; it answers 0, if it may not.
func spendFunc() api.Func {
	const leaf, none = 0, 1
	locked := mapped(upTo(sumWords), func(n uint64) api.Expr {
		return differ(has(lockWord+n), word(number(keySumAt+n)))
	})
	return function(0, 2,
		refuse(strange(fromField)),
		set(leaf, leafOf(fromField)),
		call(none, openWay, variable(leaf)),
		call(none, readAccount, variable(leaf)),
		hash(noTag, number(keySumAt), number(fieldsAt+keyField), sumWords*wordBytes),
		refuse(locked...),
		refuse(
			differ(has(nonceWord), field(nonceField)),
			less(has(balanceWord), field(amountField)),
			equal(has(nonceWord), number(math.MaxUint64))),
		becomes(balanceWord, reckon(api.SUB, has(balanceWord), field(amountField))),
		becomes(nonceWord, sum(has(nonceWord), number(1))),
		moved(sumWords, fieldsAt+nextField, accountAt+lockWord),
		answer(number(1)),
	)
}

// depositFunc does a MDeposit; it answers whether that did something, as the next two do.
func depositFunc() api.Func {
	const leaf, total, none = 0, 1, 2
	unnamed := append([]uint64{fromField}, upTo(fieldWords)[nonceField:]...)
	return function(0, 3,
		refuse(mapped(unnamed, field)...),
		refuse(strange(toField), not(field(amountField))),
		call(total, addUp),
		refuse(less(reckon(api.SUB, number(api.Supply), variable(total)), field(amountField))),
		set(leaf, leafOf(toField)),
		call(none, readAccount, variable(leaf)),
		gains(),
		call(none, writeAccount, variable(leaf)),
		answer(number(1)),
	)
}

// transferFunc does a MTransfer.
func transferFunc() api.Func {
	const leaf, done, none = 0, 1, 2
	return function(0, 3,
		refuse(strange(toField)),
		call(done, spend),
		refuse(not(variable(done))),
		set(leaf, leafOf(toField)),
		// An account that pays to itself is looked at as it has just become.
		when(differ(field(fromField), field(toField)),
			call(none, openWay, variable(leaf)),
			call(none, writeAccount, leafOf(fromField)),
			call(none, readAccount, variable(leaf))),
		gains(),
		call(none, writeAccount, variable(leaf)),
		answer(number(1)),
	)
}

// withdrawFunc does a MWithdraw.
func withdrawFunc() api.Func {
	const leaf, done, none = 0, 1, 2
	count := func() api.Expr { return word(number(countAt)) }
	return function(0, 3,
		refuse(not(field(amountField))),
		call(done, spend),
		refuse(not(variable(done)), less(number(api.MaxOuts-1), count())),
		set(leaf, sum(number(firstOut), count())),
		call(none, openWay, variable(leaf)),
		call(none, writeAccount, leafOf(fromField)),
		hash(leafTag, node(variable(leaf)), number(fieldsAt+toField), outWords*wordBytes),
		store(number(countAt), sum(count(), number(1))),
		call(none, closeWay, variable(leaf)),
		answer(number(1)),
	)
}

// kindDoer is a Kind, and the function that does it.
type kindDoer struct {
	kind api.MsgKind
	does int
}

// applyFunc does what the message's bytes do to the state, and answers whether they did something.
func applyFunc() api.Func {
	const got, done = 0, 1
	kinds := []kindDoer{{api.MDeposit, deposit}, {api.MTransfer, transfer}, {api.MWithdraw, withdraw}}
	return function(0, 2,
		length(got, number(messageAt)),
		refuse(differ(variable(got), number(fieldWords*wordBytes))),
		pieces(got, fieldWords, 0,
			func() api.Expr { return number(messageAt) },
			func(n uint64) api.Expr { return number(fieldsAt + n) }),
		each(kinds, func(k kindDoer) part {
			return when(equal(field(kindField), number(uint64(k.kind))),
				call(done, k.does),
				answer(variable(done)))
		}),
	)
}

// beginFunc is where the program begins: the top is the root at first, and what has become of it in the end.
func beginFunc() api.Func {
	const did = 0
	const topAt = nodesAt + sumWords*topNode
	return function(0, 1,
		moved(sumWords, rootAt, topAt),
		call(did, apply),
		store(number(didAt), variable(did)),
		moved(sumWords, topAt, endAt),
	)
}
