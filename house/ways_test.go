package house

import (
	"strings"
	"testing"
)

// asked is, by package, which of the language's ways the document's section 'Ways' asks for.
var asked = []struct{ face, ways string }{
	{"sha1", "array function-field range-function embedding variadic generic-function label"},
	{"hmac", "array closure embedding promoted variadic range-function generic-function"},
	{"aes", "array once range-function label function-field embedding variadic generic-function"},
	{"cmac", "array array-compared closure embedding variadic range-function label generic-function"},
	{"mac", "function-field map range-function label array closure variadic generic-function"},
	{"kdf", "function-field map generic-function variadic closure range-function label embedding"},
	{"sum", "range-function label variadic embedding promoted generic-function closure"},
	{"tcp", "function-field map range-function label panic recover generic-function closure embedding defer"},
	{"seg", "function-field label range-function variadic closure embedding generic-function"},
	{"keys", "generic-function closure array function-field map goto"},
	{"sne", "closure goto embedding struct-compared iota method-value"},
	{"ao", "array function-field variadic embedding promoted goto"},
	{"window", "embedding struct-compared variadic goto closure"},
	{"rto", "embedding generic-function goto struct-compared promoted"},
	{"reasm", "range-function generic-function function-field closure goto"},
	{"stream", "array method-value embedding promoted variadic goto closure function-field"},
	{"frame", "function-field label embedding promoted generic-function variadic closure"},
	{"open", "function-field label range-function generic-function variadic closure embedding"},
	{"attrs", "function-field range-function label generic-function variadic closure embedding"},
	{"update", "range-function label variadic function-field closure embedding generic-function struct-compared map"},
	{"msg", "map function-field range-function label embedding promoted generic-function variadic closure"},
	{"fsm", "map method-value variadic closure panic recover defer type-switch embedding promoted iota function-field"},
	{"policy", "closure label range-function generic-function function-field variadic struct-compared"},
	{"ribin", "map range-function label function-field embedding closure variadic generic-function"},
	{"decide", "function-field range-function label generic-function variadic closure array"},
	{"ribout", "map range-function label closure function-field variadic embedding generic-function"},
	{"rib", "embedding range-function label variadic map closure generic-function promoted"},
	{"line", "map method-value variadic array function-field embedding promoted goto"},
	{"speaker", "map method-expression range-function closure embedding promoted goto variadic function-field"},
	{"world", "map method-value variadic goto iota generic-function range-integer"},
	{"script", "map function-field range-function label variadic generic-function embedding closure"},
	{"console", "map function-field panic recover defer embedding range-function label generic-function variadic"},
}

func TestWays(t *testing.T) {
	for _, a := range asked {
		missing, err := WaysMissing("..", "pursuivant", []string{a.face}, strings.Fields(a.ways))
		if err != nil {
			t.Fatal(err)
		}
		for _, m := range missing {
			t.Errorf("%s: way missing: %s", a.face, m)
		}
	}
}
