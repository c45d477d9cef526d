/-
  TopEmberSent returns true for every map and every lost: the walk's parts joined.
-/
import Derived.Test.YtnlbgikhkpalcaaCYh
import Derived.Test.YtnlbgikhkpalcaaCYj
import Derived.Test.YtnlbgikhkpalcaaCYp
namespace Go.Proofs.Ytnlbgikhkpalcaa
open Go.RowKit
set_option linter.unusedVariables false

theorem sent_all (W H : Int) (a : Option Addr) (n c : Nat) (xs : List Nat) (lost : Int) (hl : 0 ≤ lost ∧ lost ≤ 65535) (hm : n ≤ 4611686018427387904) (w : World) (hwf : ∀ j, j < n → xs[j]?.getD 0 < 2 ^ 32) (hxl : xs.length = n)
    (hs : ∀ j, j < n → ∃ b o, a = some ⟨b, o, none⟩ ∧ b < w.heap.size ∧ ∀ j, j < n → w.cell? ⟨b, o + j, none⟩ = some (.float .f32 (xs[j]?.getD 0))) :
    Calls Try.prog 3 #[.agg #[.int .i64 W, .int .i64 H, .slice a n c], .int .u16 lost] w (SentPost w) :=
  sent_of28 W H a n c xs lost hl hm w hwf hxl hs (fun b o ks m g cc lev B =>
    tail28 W H b o n c xs ks m g cc lev B lost hl w (tail48 W H b o n c xs ks m g cc lev B lost hl w (tail57 W H b o n c xs ks m g cc lev B lost hl w (tail59 W H b o n c xs ks m g cc lev B lost hl w (tail60 W H b o n c xs ks m g cc lev B lost hl w)))))
end Go.Proofs.Ytnlbgikhkpalcaa
