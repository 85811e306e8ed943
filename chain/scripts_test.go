package chain

import (
	"testing"

	"touchstone/api"
	"touchstone/check"
)

// Scripts that the tests lean on. What each leaves behind is to be seen in its storage.
var (
	// adder adds what it is given to what it has, in four steps.
	adder = script{"nat", "nat", "UNPAIR; ADD; NIL operation; PAIR"}
	// still changes nothing, in three steps.
	still = script{"list string", "list string", "CDR; NIL operation; PAIR"}
	// notes keeps all that it was given, the last one first.
	notes = script{"nat", "list nat", "UNPAIR; CONS; NIL operation; PAIR"}
	// surroundings keeps who it is, who sent, how much, and how much there is.
	surroundings = script{"unit", "pair (pair address address) (pair mutez mutez)", "DROP; BALANCE; AMOUNT; PAIR; SENDER; SELF; PAIR; PAIR; NIL operation; PAIR"}
	// twins keeps all that it was given, the last one first, and sends of n below 4 the numbers 2n and 2n+1 to itself, in this order.
	twins = script{"nat", "list nat", "UNPAIR; DUP 1; DIP {CONS}; PUSH nat 4; DUP 2; COMPARE; LT;" +
		" IF {PUSH nat 2; MUL; NIL operation; SWAP; DUP 1; PUSH nat 1; ADD; SELF; PUSH mutez 0; DIG 2; TRANSFER nat; SWAP; DIP {CONS}; SELF; PUSH mutez 0; DIG 2; TRANSFER nat; CONS}" +
		" {DROP; NIL operation}; PAIR"}
	// countdown sends to itself one less than it was given, down to 0.
	countdown = script{"nat", "unit", "CAR; PUSH integer -1; ADD; ISNAT; NIL operation; SWAP;" +
		" IFNONE {} {SELF; PUSH mutez 0; DIG 2; TRANSFER nat; CONS}; PUSH unit DUnit; SWAP; PAIR"}
	// spray sends amounts to addresses, the last one first.
	spray = script{"list (pair address mutez)", "unit", "CAR; NIL operation; SWAP; ITER {UNPAIR; SWAP; PUSH unit DUnit; TRANSFER unit; CONS}; PUSH unit DUnit; SWAP; PAIR"}
	// relay sends numbers to addresses, the last one first, and keeps how often it was asked to.
	relay = script{"list (pair address nat)", "nat", "UNPAIR; NIL operation; SWAP; ITER {UNPAIR; PUSH mutez 0; DIG 2; TRANSFER nat; CONS}; DIP {PUSH nat 1; ADD}; PAIR"}
	// forward sends on what it gets to an address.
	forward = script{"unit", "address", "CDR; DUP 1; AMOUNT; PUSH unit DUnit; TRANSFER unit; NIL operation; SWAP; CONS; PAIR"}
	// says says no with its number, if it is not 0.
	says = script{"nat", "unit", "UNPAIR; DUP 1; INT; EQ; IF {DROP} {FAILWITH}; NIL operation; PAIR"}
	// minter mints tickets of "x", and sends them to an address.
	minter = script{"nat", "address", `UNPAIR; PUSH string "x"; TICKET; IFNONE {PUSH unit DUnit; FAILWITH} {}; DUP 2; PUSH mutez 0; DIG 2; TRANSFER (ticket string); NIL operation; SWAP; CONS; PAIR`}
	// filler mints tickets of "x", and sends them to a wallet.
	filler = script{"nat", "address", `UNPAIR; PUSH string "x"; TICKET; IFNONE {PUSH unit DUnit; FAILWITH} {}; LEFT address; DUP 2; PUSH mutez 0; DIG 2; TRANSFER (or (ticket string) address); NIL operation; SWAP; CONS; PAIR`}
	// joiner keeps tickets as one, with what it had; those that can't be joined are lost.
	joiner = script{"ticket string", "option (ticket string)", "UNPAIR; SWAP; IFNONE {SOME} {PAIR; JOIN}; NIL operation; PAIR"}
	// wallet keeps tickets, and sends the last one to an address that it is given.
	wallet = script{"or (ticket string) address", "list (ticket string)", "UNPAIR; IFLEFT {CONS; NIL operation}" +
		" {SWAP; IFCONS {DIG 2; PUSH mutez 0; DIG 2; TRANSFER (ticket string); NIL operation; SWAP; CONS} {DROP; NIL (ticket string); NIL operation}}; PAIR"}
	// mints mints tickets, and keeps none.
	mints = script{"nat", "unit", `UNPAIR; PUSH string "y"; TICKET; DROP; NIL operation; PAIR`}
	// spins takes the more steps, the more it is given.
	spins = script{"nat", "unit", "UNPAIR; PUSH bool DTrue; LOOP {PUSH nat 1; SWAP; SUB; ISNAT; IFNONE {PUSH nat 0; PUSH bool DFalse} {PUSH bool DTrue}}; DROP; NIL operation; PAIR"}
	// learns keeps a lambda, or has it work on what it is given and keeps it no more.
	learns = script{"option nat", "option (lambda nat nat)", "UNPAIR; IFNONE {DROP; LAMBDA nat nat {PUSH nat 2; MUL}; SOME}" +
		" {SWAP; IFNONE {DROP} {SWAP; EXEC; DROP}; NONE (lambda nat nat)}; NIL operation; PAIR"}
	// teaches sends a lambda to an address.
	teaches = script{"unit", "address", "CDR; DUP 1; PUSH mutez 0; LAMBDA nat nat {PUSH nat 3; ADD}; TRANSFER (lambda nat nat); NIL operation; SWAP; CONS; PAIR"}
	// taught keeps a lambda that it is given.
	taught = script{"lambda nat nat", "option (lambda nat nat)", "CAR; SOME; NIL operation; PAIR"}
	// never says no, whatever it is given.
	never = script{"nat", "string", "CDR; FAILWITH"}
	// swells keeps a text twice as long each time.
	swells = script{"unit", "string", "CDR; DUP 1; CONCAT; NIL operation; PAIR"}
)

func allScripts() []script {
	return []script{adder, still, notes, surroundings, twins, countdown, spray, relay, forward, says, minter, filler, joiner, wallet, mints, spins, learns, teaches, taught, never, swells}
}

func TestScripts(t *testing.T) {
	for _, s := range allScripts() {
		if e := check.Script(typeOf(s.param), typeOf(s.store), seq(codeOf(s.code)...)); e != api.OK {
			t.Errorf("%s: %s", s.code, errorName(e))
		}
	}
}
