/-
  TopEmberSent, given what stands behind region 28.
-/
import Derived.Test.YtnlbgikhkpalcaaCYf
import Derived.Test.YtnlbgikhkpalcaaCYg
namespace Go.Proofs.Ytnlbgikhkpalcaa
open Go.RowKit
set_option linter.unusedVariables false

theorem sent_of28 (W H : Int) (a : Option Addr) (n c : Nat) (xs : List Nat) (lost : Int) (hl : 0 ≤ lost ∧ lost ≤ 65535) (hm : n ≤ 4611686018427387904) (w : World) (hwf : ∀ j, j < n → xs[j]?.getD 0 < 2 ^ 32) (hxl : xs.length = n)
    (hs : ∀ j, j < n → ∃ b o, a = some ⟨b, o, none⟩ ∧ b < w.heap.size ∧ ∀ j, j < n → w.cell? ⟨b, o + j, none⟩ = some (.float .f32 (xs[j]?.getD 0)))
    (hT : ∀ (b o : Nat) (ks : List Int) (m g cc : Nat) (lev : List Int) (B : Nat), Tail28 W H b o n c xs ks m g cc lev B lost w) :
    Calls Try.prog 3 #[.agg #[.int .i64 W, .int .i64 H, .slice a n c], .int .u16 lost] w (SentPost w) :=
  sent_try W H a n c xs lost hl hm w hwf hxl hs (fun b o ks m g cc lev B wx hS =>
    tail21 W H b o n c xs ks m g cc lev B lost hl w wx hS (tail26 W H b o n c xs ks m g cc lev B lost hl w (hT b o ks m g cc lev B)))
end Go.Proofs.Ytnlbgikhkpalcaa
