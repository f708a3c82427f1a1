import Derived.Test.YtjkkokjojaknkaaDoorBase
namespace Go.Proofs.YtjkkokjojaknkaaDoor
open Go.RowKit

/-- Of what was there in w only blocks from lo up to hi may have turned. -/
structure Touch (lo hi : Nat) (w w' : World) : Prop where
  os : w'.os = w.os
  tape : w'.tape = w.tape
  output : w'.output = w.output
  size : w.heap.size ≤ w'.heap.size
  block : ∀ k, k < w.heap.size → k < lo ∨ hi ≤ k → w'.heap[k]? = w.heap[k]?

theorem Touch.of_below {lo hi : Nat} {w w' : World} (h : Below w.heap.size w w') : Touch lo hi w w' := ⟨h.os, h.tape, h.output, h.size, fun k hk _ => h.block k hk⟩
theorem Touch.trans {lo hi : Nat} {a b c : World} (h : Touch lo hi a b) (k : Touch lo hi b c) : Touch lo hi a c :=
  ⟨k.os.trans h.os, k.tape.trans h.tape, k.output.trans h.output, Nat.le_trans h.size k.size, fun i hi' ho => (k.block i (Nat.lt_of_lt_of_le hi' h.size) ho).trans (h.block i hi' ho)⟩
theorem Touch.mono {lo hi lo' hi' : Nat} {w w' : World} (h : Touch lo hi w w') (h1 : lo' ≤ lo) (h2 : hi ≤ hi') : Touch lo' hi' w w' :=
  ⟨h.os, h.tape, h.output, h.size, fun k hk ho => h.block k hk (by omega)⟩
theorem Touch.below {lo hi B : Nat} {w w' : World} (h : Touch lo hi w w') (hB : B ≤ lo) (hw : B ≤ w.heap.size) : Below B w w' :=
  ⟨h.os, h.tape, h.output, h.size, fun k hk => h.block k (by omega) (by omega)⟩

/-- Where a slice's cells lie. -/
def In (a : Option Addr) (n lo hi : Nat) : Prop := ∀ b off, a = some ⟨b, off, none⟩ → 0 < n → lo ≤ b ∧ b < hi

theorem Own.in_ {B : Nat} {w : World} {a : Option Addr} {n cap : Nat} {bs : List Int} (h : Own B w a n cap bs) : In a n B w.heap.size := by
  intro b off ha hn
  obtain ⟨g, hg⟩ := h.shape hn
  rw [hg] at ha
  simp at ha
  obtain ⟨rfl, _⟩ := ha
  subst hg
  exact h.base
theorem Row.in_ {w : World} {a : Option Addr} {n : Nat} {bs : List Int} (h : Row w a n bs) : In a n 0 w.heap.size := by
  intro b off ha hn
  obtain ⟨b', off', ha', hb, _⟩ := h.get 0 hn
  rw [ha'] at ha
  simp at ha
  omega
theorem Row.touch {lo hi p q : Nat} {w w' : World} {a : Option Addr} {n : Nat} {bs : List Int} (h : Row w a n bs) (hi' : In a n p q) (hd : q ≤ lo ∨ hi ≤ p) (ht : Touch lo hi w w') : Row w' a n bs := by
  refine ⟨h.len, fun k hk => ?_, h.byte⟩
  obtain ⟨b, off, ha, hb, hc⟩ := h.get k hk
  have hp := hi' b off ha (by omega)
  exact ⟨b, off, ha, Nat.lt_of_lt_of_le hb ht.size, (World.cell?_of_block (a := ⟨b, off + k, none⟩) (ht.block b hb (by omega))).trans hc⟩
theorem Own.touch {lo hi p q B : Nat} {w w' : World} {a : Option Addr} {n cap : Nat} {bs : List Int} (h : Own B w a n cap bs) (hi' : In a n p q) (hd : q ≤ lo ∨ hi ≤ p) (ht : Touch lo hi w w') (hn : 0 < n) : Own B w' a n cap bs := by
  refine ⟨⟨h.row.1, ?_⟩, h.byte⟩
  rcases h.row.2 with hn' | ⟨g, cap', cur, hv, hbb, hgg, rest⟩
  · exact .inl hn'
  · simp only [Value.slice.injEq] at hv
    obtain ⟨rfl, _, rfl⟩ := hv
    have hp := hi' g 0 rfl hn
    exact .inr ⟨g, cap, cur, rfl, hbb, (ht.block g (Array.getElem?_eq_some_iff.1 hgg).1 (by omega)).trans hgg, rest⟩

/-- A write into a row of our own that lies in lo .. hi. -/
theorem Own.wrote {B lo hi : Nat} {w w' : World} {a : Option Addr} {n cap : Nat} {bs : List Int} (h : Own B w a n cap bs) (hp : In a n lo hi) (hn : 0 < n) (hg : w.grownBy w' (Value.slice a n cap).ownBlock) : Touch lo hi w w' := by
  obtain ⟨g, rfl⟩ := h.shape hn
  have := hp g 0 rfl hn
  exact ⟨hg.os, hg.tape, hg.output, hg.size, fun k hk ho => hg.block k hk (by simp [Value.ownBlock]; omega)⟩

end Go.Proofs.YtjkkokjojaknkaaDoor
