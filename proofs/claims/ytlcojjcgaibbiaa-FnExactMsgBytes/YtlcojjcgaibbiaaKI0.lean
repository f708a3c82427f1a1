import Derived.Test.YtlcojjcgaibbiaaTouch
import Derived.Laws.Rows
set_option linter.unusedVariables false
namespace Go.Proofs.Ytlcojjcgaibbiaa
open Go.RowKit

/-- Only blocks of P may have turned. -/
structure TouchX (P : Nat → Prop) (w w' : World) : Prop where
  os : w'.os = w.os
  tape : w'.tape = w.tape
  output : w'.output = w.output
  size : w.heap.size ≤ w'.heap.size
  block : ∀ k, k < w.heap.size → ¬ P k → w'.heap[k]? = w.heap[k]?
theorem TouchX.trans {P : Nat → Prop} {a b c : World} (h : TouchX P a b) (k : TouchX P b c) : TouchX P a c :=
  ⟨k.os.trans h.os, k.tape.trans h.tape, k.output.trans h.output, Nat.le_trans h.size k.size, fun i hi hn => (k.block i (Nat.lt_of_lt_of_le hi h.size) hn).trans (h.block i hi hn)⟩
theorem TouchX.mono {P Q : Nat → Prop} {w w' : World} (h : TouchX P w w') (hpq : ∀ k, P k → Q k) : TouchX Q w w' := ⟨h.os, h.tape, h.output, h.size, fun k hk hn => h.block k hk (fun hp => hn (hpq k hp))⟩
theorem TouchX.touch {P : Nat → Prop} {lo hi : Nat} {w w' : World} (h : TouchX P w w') (hpq : ∀ k, P k → lo ≤ k ∧ k < hi) : Touch lo hi w w' := ⟨h.os, h.tape, h.output, h.size, fun k hk hn => h.block k hk (fun hp => by have := hpq k hp; omega)⟩
theorem Touch.toX {lo hi : Nat} {w w' : World} (h : Touch lo hi w w') : TouchX (fun k => lo ≤ k ∧ k < hi) w w' := ⟨h.os, h.tape, h.output, h.size, fun k hk hn => h.block k hk (by have : ¬ (lo ≤ k ∧ k < hi) := hn; omega)⟩
theorem TouchX.of_below {P : Nat → Prop} {w w' : World} (h : Below w.heap.size w w') : TouchX P w w' := ⟨h.os, h.tape, h.output, h.size, fun k hk _ => h.block k hk⟩
theorem touchX_g {w w' : World} {row : Option Nat} {P : Nat → Prop} (hg : w.grownBy w' row) (hr : ∀ k, row = some k → P k) : TouchX P w w' :=
  ⟨hg.os, hg.tape, hg.output, hg.size, fun k hk hn => hg.block k hk (fun e => hn (hr k e.symm))⟩

theorem ownsRow_moveX {P S : Nat → Prop} {B e size n : Nat} {w w' : World} {v : Value} {xs : List Value} (h : w.ownsRow B e size v n xs) (hS : ∀ k, v.ownBlock = some k → S k) (hd : ∀ k, S k → ¬ P k) (ht : TouchX P w w') : w'.ownsRow B e size v n xs := by
  refine ⟨h.1, ?_⟩
  rcases h.2 with hn | ⟨g, cap, cur, rfl, hbb, hgg, rest⟩
  · exact .inl hn
  · exact .inr ⟨g, cap, cur, rfl, hbb, (ht.block g (Array.getElem?_eq_some_iff.1 hgg).1 (hd g (hS g rfl))).trans hgg, rest⟩


end Go.Proofs.Ytlcojjcgaibbiaa
