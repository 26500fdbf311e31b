/- Layer 4: Pulse, with its error as one number. -/
import Derived.Test.YtnjhbmcambofgaaS44
namespace Go.Proofs.Ytnjhbmcambofgaa
open Go.V
set_option linter.unusedSimpArgs false
set_option linter.unusedVariables false

/-- The error of a pulse. -/
def pulE (v : Svy) (q : Int) (k : Nat) (p : Nat → Int) : Int :=
  bif !(decide (okWell v.wl q) && ((k : Int) == v.wl)) then 2 else bif (v.lv == -2000000000) && !allSame p q k then 2 else bif !fitsM v p then 9 else bif decide (60 < IntKind.i64.wrap (IntKind.i64.wrap ((v.n : Int) + v.wl) - 1)) then 3 else 0
def pulR (v : Svy) (q : Int) (k : Nat) (p : Nat → Int) : Svy := bif pulE v q k p == 0 then pulV v q p k else zeroV
theorem d56 (v : Svy) (h : okV v) (q : Int) (k : Nat) (p : Nat → Int) (hk0 : k ≤ 1000) : SF Try.prog 56 (V.atS [.agg (svyC v), I q, .slice none k fun i => intL (p i)] (.tup [.agg (svyC (pulR v q k p)), I (pulE v q k p)])) := by
  have p1 := svE_okV h
  have hn : v.n ≤ 1000 := by have := h.n; omega
  unfold pulR pulE
  cases p2 : decide (okWell v.wl q) with
  | false => exact pulseE2 v hn q k p hk0 p1 p2
  | true =>
    cases p3 : ((k : Int) == v.wl) with
    | false => exact pulseE3 v hn q k p hk0 p1 p2 (by rw [bne, p3]; rfl)
    | true =>
      have p3n : ((k : Int) != v.wl) = false := by rw [bne, p3]; rfl
      cases pl : (v.lv == -2000000000) with
      | false =>
        cases pf : fitsM v p with
        | false => exact pulseE5a v hn q k p hk0 p1 p2 p3n pl pf
        | true =>
          cases ps : decide (60 < IntKind.i64.wrap (IntKind.i64.wrap ((v.n : Int) + v.wl) - 1)) with
          | true => exact pulseE6a v hn q k p hk0 p1 p2 p3n pl pf ps
          | false => exact pulseKa v hn q k p hk0 p1 p2 p3n pl pf ps
      | true =>
        cases pa : allSame p q k with
        | false => exact pulseE4 v hn q k p hk0 p1 p2 p3n pl pa
        | true =>
          cases pf : fitsM v p with
          | false => exact pulseE5b v hn q k p hk0 p1 p2 p3n pl pa pf
          | true =>
            cases ps : decide (60 < IntKind.i64.wrap (IntKind.i64.wrap ((v.n : Int) + v.wl) - 1)) with
            | true => exact pulseE6b v hn q k p hk0 p1 p2 p3n pl pa pf ps
            | false => exact pulseKb v hn q k p hk0 p1 p2 p3n pl pa pf ps
end Go.Proofs.Ytnjhbmcambofgaa
