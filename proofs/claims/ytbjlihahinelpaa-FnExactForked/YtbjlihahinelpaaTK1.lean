import Derived.Test.YtbjlihahinelpaaTT4
namespace Go.Proofs.Ytbjlihahinelpaa
open Go.RowKit

def kyW : List Int := [107, 101, 121]
theorem kyW_byte : ∀ k, 0 ≤ kyW.getD k 0 ∧ kyW.getD k 0 ≤ 255 := bytes_of_all (by decide)
def kidN (sc y h : Int) : Int := hashL (partsL [kyW, putI sc, eightI y, putI h])
theorem kid_total (sc y h : Int) (hl : sc ≤ 9223372036854775807) (hd : h ≤ 9223372036854775807) : total [kyW, putI sc, eightI y, putI h] ≤ 2097152 := by
  have h1 := putI_len sc hl
  have h2 := putI_len h hd
  simp [total, kyW, eightI_len]
  omega
def kpv (sc y h : Int) : Value := .agg #[.int .i64 sc, .int .u64 y, .int .i64 h]
/-- The world in which the row at g bears the run-time's mark behind its third cell. -/
def frz (W : World) (g : Nat) : World := W.freeze ⟨g, 3, none⟩ 1
theorem frz_size (W : World) (g : Nat) : (frz W g).heap.size = W.heap.size := by simp [frz, World.freeze]
theorem frz_other (W : World) (g k : Nat) (h : k ≠ g) : (frz W g).heap[k]? = W.heap[k]? := by
  simp only [frz, World.freeze]
  rw [if_neg (by decide)]
  simp only [Array.getElem?_modify]
  rw [if_neg (fun e => h e.symm)]
theorem frz_cell (W : World) (g : Nat) (a : Addr) : (frz W g).cell? a = W.cell? a := by
  by_cases h : a.block = g
  · subst h
    simp only [frz, World.freeze, World.cell?]
    rw [if_neg (by decide)]
    simp only [Array.getElem?_modify]
    rw [if_pos trivial]
    cases hb : W.heap[a.block]? with
    | none => rfl
    | some o =>
      cases o <;> rfl
  · exact World.cell?_of_block (frz_other W g a.block h)
theorem run_conv_any (W : World) (g : Nat) (hg : W.heap[g]? = some (.cells #[.int .u8 107, .int .u8 101, .int .u8 121] 5)) : (convert 23 23 (.slice (some ⟨g, 0, none⟩) 3 3)).run Try.prog W = .ok (.slice (some ⟨g, 0, none⟩) 3 3) (frz W g) := by
  have hsh : W.shape? g = some (5, 3) := by unfold World.shape?; rw [hg]; rfl
  simp [convert, run_underlying Try.underlying23, run_underlying Try.underlying5, markStringish, hsh]
  rfl
structure Grow (B : Nat) (W W' : World) : Prop where
  b : Below B W W'
  lo : B ≤ W.heap.size
  size : W.heap.size ≤ W'.heap.size
  cell : ∀ x : Addr, x.block < W.heap.size → W'.cell? x = W.cell? x
theorem Grow.refl {B : Nat} {W : World} (h : B ≤ W.heap.size) : Grow B W W := ⟨Below.refl _ _, h, Nat.le_refl _, fun _ _ => rfl⟩
theorem Grow.then_below {B : Nat} {W X Y : World} (h : Grow B W X) (k : Below X.heap.size X Y) : Grow B W Y :=
  ⟨h.b.trans (k.mono (Nat.le_trans h.lo h.size)), h.lo, Nat.le_trans h.size k.size, fun x hx => (k.cell (p := x) (Nat.lt_of_lt_of_le hx h.size)).trans (h.cell x hx)⟩
theorem Grow.then_alloc {B : Nat} {W X : World} (h : Grow B W X) (o : Obj) : Grow B W (X.alloc o) := h.then_below ((Below.refl _ _).alloc (Nat.le_refl _) o)
theorem Grow.then_drew {B : Nat} {W X : World} (h : Grow B W X) : Grow B W X.drew := h.then_below ((Below.refl _ _).drew)
theorem Grow.then_frz {B : Nat} {W X : World} (h : Grow B W X) (g : Nat) (hg : B ≤ g) : Grow B W (frz X g) := by
  refine ⟨h.b.trans ⟨rfl, rfl, rfl, by rw [frz_size]; exact Nat.le_refl _, fun k hk => frz_other X g k (by omega)⟩, h.lo, by rw [frz_size]; exact h.size, fun x hx => (frz_cell X g x).trans (h.cell x hx)⟩
theorem Row.grew {B : Nat} {W W' : World} {a : Option Addr} {n : Nat} {bs : List Int} (h : Row W a n bs) (g : Grow B W W') : Row W' a n bs := by
  refine ⟨h.len, fun k hk => ?_, h.byte⟩
  obtain ⟨b, off, ha, hb, hc⟩ := h.get k hk
  exact ⟨b, off, ha, Nat.lt_of_lt_of_le hb g.size, (g.cell ⟨b, off + k, none⟩ hb).trans hc⟩

theorem kid_rows (X : World) (k : Nat) (a1 : Option Addr) (n1 c1 : Nat) (a2 : Option Addr) (c2 : Nat) (a3 : Option Addr) (n3 c3 : Nat) (p1 p2 p3 : List Int) (hk : Row X (some ⟨k, 0, none⟩) 3 kyW) (h1 : Row X a1 n1 p1) (e1 : a1 = none → c1 = 0) (h2 : Row X a2 8 p2) (e2 : a2 = none → c2 = 0) (h3 : Row X a3 n3 p3) (e3 : a3 = none → c3 = 0) :
    Rows2 (X.alloc (.cells #[.slice (some ⟨k, 0, none⟩) 3 3, .slice a1 n1 c1, .slice a2 8 c2, .slice a3 n3 c3] 23)) (some ⟨X.heap.size, 0, none⟩) 4 [kyW, p1, p2, p3] := by
  refine rows2_lit X [(some ⟨k, 0, none⟩, 3, 3, kyW), (a1, n1, c1, p1), (a2, 8, c2, p2), (a3, n3, c3, p3)] 23 ?_
  intro p hp
  simp only [List.mem_cons, List.not_mem_nil, or_false] at hp
  rcases hp with rfl | rfl | rfl | rfl
  · exact ⟨hk, fun h => by cases h⟩
  · exact ⟨h1, e1⟩
  · exact ⟨h2, e2⟩
  · exact ⟨h3, e3⟩

end Go.Proofs.Ytbjlihahinelpaa
