/- Layer 4: what is called with a test, at this test. -/
import Derived.Test.YtnjhbmcambofgaaS32
import Derived.Test.YtnjhbmcambofgaaS10
namespace Go.Proofs.Ytnjhbmcambofgaa
open Go.V
set_option linter.unusedSimpArgs false
set_option linter.unusedVariables false

theorem isLt (t : Tst) (hn : t.n ≤ 1000) : isL stpL t.n fun i => stpL (t.s i) := .mk t.s (by omega) rfl
theorem isTt (t : Tst) (h : okT t) : isT t fun i => stpL (t.s i) := .mk h rfl
theorem many_zero {t : Tst} (h : okT t) : (manyL (famsM t) == 0) = (((famsM t).length : Int) == 0) := by
  cases hb : (manyL (famsM t) == 0) with
  | true =>
    rw [show famsM t = [] from manyL_zero (l := famsM t) (by have := famsM_len h; omega) (allF_ok h t.nb) hb]
    rfl
  | false =>
    have := manyL_one hb
    have : (((famsM t).length : Int) == 0) = false := by
      rw [beq_eq_false_iff_ne]
      omega
    rw [this]
theorem ask_agr (t : Tst) (d : Bool) : askE t d 2 = agrE t (!d) := by
  unfold askE agrE
  cases hb : (tfE t != 0) with
  | true => rfl
  | false =>
    have hok : okT t := tfE_ok (by simpa using hb)
    cases d with
    | true => rfl
    | false => simp only [cond_false, Bool.not_false, cond_true, many_zero hok]
theorem ask_agr0 (t : Tst) : askE t false 0 = agrE t true := by
  rw [← Bool.not_false, ← ask_agr t false]
  rfl
theorem c20 (t : Tst) (hn : t.n ≤ 100) : SF Try.prog 20 (V.atS [.agg (tstC t)] (.agg (tstC t))) := sf_at sf20 (show isL stpL t.n _ ∧ t.n ≤ 100 from ⟨isLt t (by omega), hn⟩) rfl
theorem c19 (t : Tst) (hn : t.n ≤ 100) : SF Try.prog 19 (V.atS [.agg (tstC t)] (I (tfE t))) := sf_at sf19 (show isL stpL t.n _ from isLt t (by omega)) rfl
theorem c21 (t : Tst) (hn : t.n ≤ 100) : SF Try.prog 21 (V.atS [.agg (tstC t)] (I (tfE t))) := sf_at sf21 (show isL stpL t.n _ from isLt t (by omega)) rfl
theorem c22 (t : Tst) (A B C : Int) (hn : t.n ≤ 100) : SF Try.prog 22 (V.atS [.agg (tstC t), .agg [I A, I B, I C]] (.bool ((tfE t == 0) && agrB t A B C))) := sf_at sf22 (show isL stpL t.n _ from isLt t (by omega)) rfl
theorem c23 (t : Tst) (A B C : Int) (hn : t.n ≤ 100) : SF Try.prog 23 (V.atS [.agg (tstC t), .agg [I A, I B, I C]] (.bool (agrB t A B C))) := sf_at sf23 (show isL stpL t.n _ from isLt t (by omega)) rfl
def curV (t : Tst) : PV := .tup [I (manyL (agrLst t true)), encR (encL restsF (agrLst t true)), encR (encL bF (agrLst t true)), encR (encL cF (agrLst t true)), I (agrE t true)]
theorem c24 (t : Tst) (hn : t.n ≤ 100) : SF Try.prog 24 (V.atS [.agg (tstC t)] (curV t)) := sf_at sf24 (show isL stpL t.n _ from isLt t (by omega)) rfl
theorem c25 (t : Tst) (hn : t.n ≤ 100) {p : PV} {d : Bool} (hp : boolOf p = some d) : SF Try.prog 25 (V.atS [.agg (tstC t), p, I 2] (I (agrE t (!d)))) := by
  refine sf_at sf25 ?_ ?_
  · unfold askS
    show (match boolOf p with | some b => _ | none => bad).1.getD True
    rw [hp]
    exact isLt t (by omega)
  · unfold askS
    show (match boolOf p with | some b => _ | none => bad).2 = _
    rw [hp]
    exact congrArg I (ask_agr t d)
theorem c25z (t : Tst) (hn : t.n ≤ 100) : SF Try.prog 25 (V.atS [.agg (tstC t), .ff, I 0] (I (agrE t true))) := by
  refine sf_at sf25 ?_ ?_
  · exact isLt t (by omega)
  · exact congrArg I (ask_agr0 t)
theorem c26 (t : Tst) (h : okT t) : SF Try.prog 26 (V.atS [.agg (tstC t)] (.tup [I (manyL (famsM t)), encR (encL restsF (famsM t)), encR (encL bF (famsM t)), encR (encL cF (famsM t))])) := sf_at sf26 (show isT t _ from isTt t h) rfl
theorem c28 (t : Tst) (q : Int) (hn : t.n ≤ 100) : SF Try.prog 28 (V.atS [.agg (tstC t), I q] (.tup [encR (encL (dropF q) (agrLst t (flowB q))), I (agrE t (flowB q))])) := sf_at sf28 (show isL stpL t.n _ from isLt t (by omega)) rfl
theorem c31 (t : Tst) (q : Int) (h : okT t) : SF Try.prog 31 (V.atS [.agg (tstC t), I q] (.tup [encR (encL (dropF q) (famsM t)), .bool (Nat.blt 0 (famsM t).length)])) := sf_at sf31 (show isT t _ from isTt t h) rfl
end Go.Proofs.Ytnjhbmcambofgaa
