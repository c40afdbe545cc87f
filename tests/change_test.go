package tests

import (
	"testing"

	"loop.example/tabularium/impl"
)

// checkChange checks a result of ChangePut or ChangeOwn: the engine wanted and true, or, if that is the unchanged one, false.
func checkChange(t *testing.T, e, want, got impl.Engine, ok bool) {
	t.Helper()
	if ok == sameEngine(e, want) || !sameEngine(got, want) || !impl.EngineOk(got) {
		t.Fatalf("changed to %v, %v, want %v, of %v", got, ok, want, e)
	}
}

func TestChangeMay(t *testing.T) {
	for e := range runs {
		for tx := -1; tx <= 4; tx++ {
			for page := -1; page <= 5; page++ {
				exist := 1 <= tx && tx <= 3 && 0 <= page && page <= 4
				if may := impl.ChangeMay(e, tx, page); may != (exist && mayModify(e, tx, page)) {
					t.Fatalf("ChangeMay of transaction %d and page %d is %v, of %v", tx, page, may, e)
				}
			}
		}
	}
}

func TestChangePut(t *testing.T) {
	for e := range runs {
		for n := range 15 {
			tx, page, slot, val := 1+n/5, n%5, n%3, (n+len(e.Log))%10
			got, ok := impl.ChangePut(e, tx, page, slot, val)
			checkChange(t, e, runPut(e, tx, page, slot, val), got, ok)
		}
	}
}

func TestChangeOwn(t *testing.T) {
	for e := range runs {
		for n := range 15 {
			tx, page, table := 1+n/5, n%5, (n+len(e.Log))%4
			got, ok := impl.ChangeOwn(e, tx, page, table)
			checkChange(t, e, runOwn(e, tx, page, table), got, ok)
		}
	}
}

func TestChangeWithWhatDoesNotExist(t *testing.T) {
	e := runPut(runOwn(newEngine(), 1, 0, 1), 1, 0, 0, 5)
	for _, a := range [][4]int{{0, 0, 0, 1}, {4, 0, 0, 1}, {-1, 0, 0, 1}, {1, -1, 0, 1}, {1, 5, 0, 1}, {1, 0, -1, 1}, {1, 0, 3, 1}, {1, 0, 0, -1}, {1, 0, 0, 10}} {
		got, ok := impl.ChangePut(e, a[0], a[1], a[2], a[3])
		checkChange(t, e, e, got, ok)
	}
	for _, a := range [][3]int{{0, 1, 1}, {4, 1, 1}, {1, -1, 1}, {1, 5, 1}, {1, 1, -1}, {1, 1, 4}, {1, 1, 0}, {1, 0, 0}, {1, 0, 2}} {
		got, ok := impl.ChangeOwn(e, a[0], a[1], a[2])
		checkChange(t, e, e, got, ok)
	}
}

func TestChangeOfInvalidEngines(t *testing.T) {
	for _, c := range engineCases(t) {
		if c.valid {
			continue
		}
		put, putOk := impl.ChangePut(c.engine, 1, 0, 0, 5)
		own, ownOk := impl.ChangeOwn(c.engine, 1, 3, 1)
		if putOk || ownOk || !sameEngine(put, impl.Engine{}) || !sameEngine(own, impl.Engine{}) || impl.ChangeMay(c.engine, 1, 0) {
			t.Errorf("%s: ChangePut %v, ChangeOwn %v", c.name, put, own)
		}
	}
}

func TestChangeWithoutLogSpace(t *testing.T) {
	for _, c := range []struct {
		txs, records, tx int
		ok               bool
	}{{1, 73, 1, true}, {1, 74, 1, false}, {2, 73, 1, true}, {2, 74, 2, false}, {1, 73, 2, true}, {1, 74, 2, false}, {2, 73, 3, false}} {
		e := puts(c.txs, c.records)
		if after, ok := impl.ChangeOwn(e, c.tx, 4, 1); ok != c.ok || !impl.EngineOk(after) || !ok && !sameEngine(after, e) {
			t.Errorf("ChangeOwn of transaction %d, with %d records of %d transactions, is %v", c.tx, c.records, c.txs, ok)
		}
	}
}
