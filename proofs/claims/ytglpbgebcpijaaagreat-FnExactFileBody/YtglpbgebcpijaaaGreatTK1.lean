import Derived.Test.YtglpbgebcpijaaaGreatTT4
namespace Go.Proofs.YtglpbgebcpijaaaGreat
open Go.RowKit

def kyW : List Int := [107, 101, 121]
theorem kyW_byte : ∀ k, 0 ≤ kyW.getD k 0 ∧ kyW.getD k 0 ≤ 255 := bytes_of_all (by decide)
def kidN (sc y h : Int) : Int := hashL (partsL [kyW, putI sc, eightI y, putI h])
theorem kid_total (sc y h : Int) (hl : sc ≤ 9223372036854775807) (hd : h ≤ 9223372036854775807) : total [kyW, putI sc, eightI y, putI h] ≤ 2097152 := by
  have h1 := putI_len sc hl
  have h2 := putI_len h hd
  simp [total, kyW, eightI_len]
  omega
def kpv (sc y h : Int) : Value := .agg #[.int .i64 sc, .int .u64 y, .int .i64 h]
/-- The world in which the row at g bears the run-time's mark behind its third cell. -/
def frz (W : World) (g : Nat) : World := W.freeze ⟨g, 3, none⟩ 1
theorem frz_size (W : World) (g : Nat) : (frz W g).heap.size = W.heap.size := by simp [frz, World.freeze]
theorem frz_other (W : World) (g k : Nat) (h : k ≠ g) : (frz W g).heap[k]? = W.heap[k]? := by
  simp only [frz, World.freeze]
  rw [if_neg (by decide)]
  simp only [Array.getElem?_modify]
  rw [if_neg (fun e => h e.symm)]
theorem frz_cell (W : World) (g : Nat) (a : Addr) : (frz W g).cell? a = W.cell? a := by
  by_cases h : a.block = g
  · subst h
    simp only [frz, World.freeze, World.cell?]
    rw [if_neg (by decide)]
    simp only [Array.getElem?_modify]
    rw [if_pos trivial]
    cases hb : W.heap[a.block]? with
    | none => rfl
    | some o =>
      cases o <;> rfl
  · exact World.cell?_of_block (frz_other W g a.block h)
theorem run_conv_any (W : World) (g : Nat) (hg : W.heap[g]? = some (.cells #[.int .u8 107, .int .u8 101, .int .u8 121] 5)) : (convert 35 35 (.slice (some ⟨g, 0, none⟩) 3 3)).run Tryz.prog W = .ok (.slice (some ⟨g, 0, none⟩) 3 3) (frz W g) := by
  have hsh : W.shape? g = some (5, 3) := by unfold World.shape?; rw [hg]; rfl
  simp [convert, run_underlying Tryz.underlying35, run_underlying Tryz.underlying5, markStringish, hsh]
  rfl
structure Grow (B : Nat) (W W' : World) : Prop where
  b : Below B W W'
  lo : B ≤ W.heap.size
  size : W.heap.size ≤ W'.heap.size
  cell : ∀ x : Addr, x.block < W.heap.size → W'.cell? x = W.cell? x
theorem Grow.refl {B : Nat} {W : World} (h : B ≤ W.heap.size) : Grow B W W := ⟨Below.refl _ _, h, Nat.le_refl _, fun _ _ => rfl⟩
theorem Grow.then_below {B : Nat} {W X Y : World} (h : Grow B W X) (k : Below X.heap.size X Y) : Grow B W Y :=
  ⟨h.b.trans (k.mono (Nat.le_trans h.lo h.size)), h.lo, Nat.le_trans h.size k.size, fun x hx => (k.cell (p := x) (Nat.lt_of_lt_of_le hx h.size)).trans (h.cell x hx)⟩
theorem Grow.then_alloc {B : Nat} {W X : World} (h : Grow B W X) (o : Obj) : Grow B W (X.alloc o) := h.then_below ((Below.refl _ _).alloc (Nat.le_refl _) o)
theorem Grow.then_drew {B : Nat} {W X : World} (h : Grow B W X) : Grow B W X.drew := h.then_below ((Below.refl _ _).drew)
theorem Grow.then_frz {B : Nat} {W X : World} (h : Grow B W X) (g : Nat) (hg : B ≤ g) : Grow B W (frz X g) := by
  refine ⟨h.b.trans ⟨rfl, rfl, rfl, by rw [frz_size]; exact Nat.le_refl _, fun k hk => frz_other X g k (by omega)⟩, h.lo, by rw [frz_size]; exact h.size, fun x hx => (frz_cell X g x).trans (h.cell x hx)⟩
theorem Row.grew {B : Nat} {W W' : World} {a : Option Addr} {n : Nat} {bs : List Int} (h : Row W a n bs) (g : Grow B W W') : Row W' a n bs := by
  refine ⟨h.len, fun k hk => ?_, h.byte⟩
  obtain ⟨b, off, ha, hb, hc⟩ := h.get k hk
  exact ⟨b, off, ha, Nat.lt_of_lt_of_le hb g.size, (g.cell ⟨b, off + k, none⟩ hb).trans hc⟩

theorem kid_rows (X : World) (k : Nat) (a1 : Option Addr) (n1 c1 : Nat) (a2 : Option Addr) (c2 : Nat) (a3 : Option Addr) (n3 c3 : Nat) (p1 p2 p3 : List Int) (hk : Row X (some ⟨k, 0, none⟩) 3 kyW) (h1 : Row X a1 n1 p1) (e1 : a1 = none → c1 = 0) (h2 : Row X a2 8 p2) (e2 : a2 = none → c2 = 0) (h3 : Row X a3 n3 p3) (e3 : a3 = none → c3 = 0) :
    Rows2 (X.alloc (.cells #[.slice (some ⟨k, 0, none⟩) 3 3, .slice a1 n1 c1, .slice a2 8 c2, .slice a3 n3 c3] 35)) (some ⟨X.heap.size, 0, none⟩) 4 [kyW, p1, p2, p3] := by
  refine rows2_lit X [(some ⟨k, 0, none⟩, 3, 3, kyW), (a1, n1, c1, p1), (a2, 8, c2, p2), (a3, n3, c3, p3)] 35 ?_
  intro p hp
  simp only [List.mem_cons, List.not_mem_nil, or_false] at hp
  rcases hp with rfl | rfl | rfl | rfl
  · exact ⟨hk, fun h => by cases h⟩
  · exact ⟨h1, e1⟩
  · exact ⟨h2, e2⟩
  · exact ⟨h3, e3⟩

set_option maxRecDepth 10000 in
set_option maxHeartbeats 8000000 in
theorem implKeyId_any (sc y h : Int) (w : World) (hx : U64 y) (hl : sc ≤ 9223372036854775807) (hd : h ≤ 9223372036854775807) :
    Calls Tryz.prog 109 #[kpv sc y h] w fun e w' => e = .returned (.int .u64 (kidN sc y h)) ∧ Below w.heap.size w w' := by
  have HT : Hid (_ ≤ _) := kid_total sc y h hl hd
  obtain ⟨wb, hwb⟩ : ∃ wb, wb = w.alloc (.cells #[.int .i64 sc, .int .u64 y, .int .i64 h] 120) := ⟨_, rfl⟩
  have hbb : Below w.heap.size w wb := by rw [hwb]; exact (Below.refl _ _).alloc (Nat.le_refl _) _
  have s0 : w.heap.size ≤ wb.heap.size := hbb.size
  have hlw : w.heap.size < wb.heap.size := by rw [hwb]; simp
  have hbx : wb.heap[w.heap.size]? = some (.cells #[.int .i64 sc, .int .u64 y, .int .i64 h] 120) := by rw [hwb]; exact heap_alloc_new w _
  have HXG : ∀ W, Grow w.heap.size wb W → W.cell? ⟨w.heap.size, 0, none⟩ = some (.int .i64 sc) ∧ W.cell? ⟨w.heap.size, 1, none⟩ = some (.int .u64 y) ∧ W.cell? ⟨w.heap.size, 2, none⟩ = some (.int .i64 h) := by
    intro W g
    exact ⟨(g.cell ⟨w.heap.size, 0, none⟩ hlw).trans ((cell_of_row _ w.heap.size 0 _ 120 (0, 0) hbx).trans rfl), (g.cell ⟨w.heap.size, 1, none⟩ hlw).trans ((cell_of_row _ w.heap.size 1 _ 120 (0, 0) hbx).trans rfl), (g.cell ⟨w.heap.size, 2, none⟩ hlw).trans ((cell_of_row _ w.heap.size 2 _ 120 (0, 0) hbx).trans rfl)⟩
  have HWB : Hid (_ = _) := hwb
  clear hwb hbx
  have hn0 : (wb.alloc (.cells #[.int .u8 107, .int .u8 101, .int .u8 121] 5)).drew.heap[wb.heap.size]? = some (.cells #[.int .u8 107, .int .u8 101, .int .u8 121] 5) := heap_alloc_new wb _
  have hc0 := run_conv_any _ _ hn0
  have t0 : w.heap.size ≤ (wb.alloc (.cells #[.int .u8 107, .int .u8 101, .int .u8 121] 5)).heap.size := by simp; omega
  unfold kpv
  go_enter Tryz.func109, Tryz.ntmps109
  go_upto_region 1 with fail
  rw [← HWB.out]
  clear HWB
  go_region_held_law (fun W => W.cell? ⟨w.heap.size, 0, none⟩ = some (.int .i64 sc) ∧ W.cell? ⟨w.heap.size, 1, none⟩ = some (.int .u64 y) ∧ W.cell? ⟨w.heap.size, 2, none⟩ = some (.int .i64 h)) (first | assumption | (refine HXG _ ?_; (repeat (first | exact Grow.refl t0 | exact Grow.refl t1 | exact Grow.refl t2 | exact Grow.refl t3 | exact Grow.refl s0 | exact Grow.refl s1 | exact Grow.refl s2 | exact Grow.refl s3 | refine Grow.then_below ?_ hb1 | refine Grow.then_below ?_ hb2 | refine Grow.then_below ?_ hb3 | refine Grow.then_drew ?_ | refine Grow.then_alloc ?_ _ | refine Grow.then_frz ?_ _ (by first | exact s0 | exact s1 | exact s2 | exact s3)))))
    (first
      | (go_at_call_of 126 sc; refine (implPutNum_any sc _ hl).mono ?_; rintro e w1 ⟨a1, c1, rfl, ho1, hb1⟩; have s1 : w.heap.size ≤ w1.heap.size := Nat.le_trans s0 (Grow.size (B := w.heap.size) (W := wb) (by (repeat (first | exact Grow.refl t0 | exact Grow.refl t1 | exact Grow.refl t2 | exact Grow.refl t3 | exact Grow.refl s0 | exact Grow.refl s1 | exact Grow.refl s2 | exact Grow.refl s3 | refine Grow.then_below ?_ hb1 | refine Grow.then_below ?_ hb2 | refine Grow.then_below ?_ hb3 | refine Grow.then_drew ?_ | refine Grow.then_alloc ?_ _ | refine Grow.then_frz ?_ _ (by first | exact s0 | exact s1 | exact s2 | exact s3))))); have hr1 := ho1.toRow; have hl1 := ho1.nil; have hn1 : (w1.alloc (.cells #[.int .u8 107, .int .u8 101, .int .u8 121] 5)).heap[w1.heap.size]? = some (.cells #[.int .u8 107, .int .u8 101, .int .u8 121] 5) := heap_alloc_new w1 _; have hc1 := run_conv_any _ _ hn1; have t1 : w.heap.size ≤ (w1.alloc (.cells #[.int .u8 107, .int .u8 101, .int .u8 121] 5)).heap.size := (by simp; omega); (try (have kb := (hb1.block _ (Array.getElem?_eq_some_iff.1 hn0).1).trans hn0; have hck := run_conv_any _ _ kb)); skip)
      | (go_at_call 127; refine (digestBytes_any y _ hx.1 hx.2).mono ?_; rintro e w2 ⟨g2, rfl, hr2, _, hb2⟩; have hl2 : (some (⟨g2, 0, none⟩ : Addr)) = none → 8 = 0 := (fun h => by cases h); have s2 : w.heap.size ≤ w2.heap.size := Nat.le_trans s0 (Grow.size (B := w.heap.size) (W := wb) (by (repeat (first | exact Grow.refl t0 | exact Grow.refl t1 | exact Grow.refl t2 | exact Grow.refl t3 | exact Grow.refl s0 | exact Grow.refl s1 | exact Grow.refl s2 | exact Grow.refl s3 | refine Grow.then_below ?_ hb1 | refine Grow.then_below ?_ hb2 | refine Grow.then_below ?_ hb3 | refine Grow.then_drew ?_ | refine Grow.then_alloc ?_ _ | refine Grow.then_frz ?_ _ (by first | exact s0 | exact s1 | exact s2 | exact s3))))); have hn2 : (w2.alloc (.cells #[.int .u8 107, .int .u8 101, .int .u8 121] 5)).heap[w2.heap.size]? = some (.cells #[.int .u8 107, .int .u8 101, .int .u8 121] 5) := heap_alloc_new w2 _; have hc2 := run_conv_any _ _ hn2; have t2 : w.heap.size ≤ (w2.alloc (.cells #[.int .u8 107, .int .u8 101, .int .u8 121] 5)).heap.size := (by simp; omega); (try (have kb := (hb2.block _ (Array.getElem?_eq_some_iff.1 hn0).1).trans hn0; have hck := run_conv_any _ _ kb)); (try (have kb := (hb2.block _ (Array.getElem?_eq_some_iff.1 hn1).1).trans hn1; have hck := run_conv_any _ _ kb)); (try (have kb := (hb2.block _ (Array.getElem?_eq_some_iff.1 kb).1).trans kb; have hck := run_conv_any _ _ kb)); skip)
      | (go_at_call_of 126 h; refine (implPutNum_any h _ hd).mono ?_; rintro e w3 ⟨a3, c3, rfl, ho3, hb3⟩; have s3 : w.heap.size ≤ w3.heap.size := Nat.le_trans s0 (Grow.size (B := w.heap.size) (W := wb) (by (repeat (first | exact Grow.refl t0 | exact Grow.refl t1 | exact Grow.refl t2 | exact Grow.refl t3 | exact Grow.refl s0 | exact Grow.refl s1 | exact Grow.refl s2 | exact Grow.refl s3 | refine Grow.then_below ?_ hb1 | refine Grow.then_below ?_ hb2 | refine Grow.then_below ?_ hb3 | refine Grow.then_drew ?_ | refine Grow.then_alloc ?_ _ | refine Grow.then_frz ?_ _ (by first | exact s0 | exact s1 | exact s2 | exact s3))))); have hr3 := ho3.toRow; have hl3 := ho3.nil; have hn3 : (w3.alloc (.cells #[.int .u8 107, .int .u8 101, .int .u8 121] 5)).heap[w3.heap.size]? = some (.cells #[.int .u8 107, .int .u8 101, .int .u8 121] 5) := heap_alloc_new w3 _; have hc3 := run_conv_any _ _ hn3; have t3 : w.heap.size ≤ (w3.alloc (.cells #[.int .u8 107, .int .u8 101, .int .u8 121] 5)).heap.size := (by simp; omega); (try (have kb := (hb3.block _ (Array.getElem?_eq_some_iff.1 hn0).1).trans hn0; have hck := run_conv_any _ _ kb)); (try (have kb := (hb3.block _ (Array.getElem?_eq_some_iff.1 hn1).1).trans hn1; have hck := run_conv_any _ _ kb)); (try (have kb := (hb3.block _ (Array.getElem?_eq_some_iff.1 hn2).1).trans hn2; have hck := run_conv_any _ _ kb)); (try (have kb := (hb3.block _ (Array.getElem?_eq_some_iff.1 kb).1).trans kb; have hck := run_conv_any _ _ kb)); skip)
      | (go_at_call 125; refine (implHashParts_any _ 4 4 [kyW, putI sc, eightI y, putI h] _ (kid_rows _ _ _ _ _ _ _ _ _ _ _ _ _ (by first | exact (row_word wb kyW (0, 0) kyW_byte).grew (B := w.heap.size) (by (repeat (first | exact Grow.refl t0 | exact Grow.refl t1 | exact Grow.refl t2 | exact Grow.refl t3 | exact Grow.refl s0 | exact Grow.refl s1 | exact Grow.refl s2 | exact Grow.refl s3 | refine Grow.then_below ?_ hb1 | refine Grow.then_below ?_ hb2 | refine Grow.then_below ?_ hb3 | refine Grow.then_drew ?_ | refine Grow.then_alloc ?_ _ | refine Grow.then_frz ?_ _ (by first | exact s0 | exact s1 | exact s2 | exact s3))); done) | exact (row_word w1 kyW (0, 0) kyW_byte).grew (B := w.heap.size) (by (repeat (first | exact Grow.refl t0 | exact Grow.refl t1 | exact Grow.refl t2 | exact Grow.refl t3 | exact Grow.refl s0 | exact Grow.refl s1 | exact Grow.refl s2 | exact Grow.refl s3 | refine Grow.then_below ?_ hb1 | refine Grow.then_below ?_ hb2 | refine Grow.then_below ?_ hb3 | refine Grow.then_drew ?_ | refine Grow.then_alloc ?_ _ | refine Grow.then_frz ?_ _ (by first | exact s0 | exact s1 | exact s2 | exact s3))); done) | exact (row_word w2 kyW (0, 0) kyW_byte).grew (B := w.heap.size) (by (repeat (first | exact Grow.refl t0 | exact Grow.refl t1 | exact Grow.refl t2 | exact Grow.refl t3 | exact Grow.refl s0 | exact Grow.refl s1 | exact Grow.refl s2 | exact Grow.refl s3 | refine Grow.then_below ?_ hb1 | refine Grow.then_below ?_ hb2 | refine Grow.then_below ?_ hb3 | refine Grow.then_drew ?_ | refine Grow.then_alloc ?_ _ | refine Grow.then_frz ?_ _ (by first | exact s0 | exact s1 | exact s2 | exact s3))); done) | exact (row_word w3 kyW (0, 0) kyW_byte).grew (B := w.heap.size) (by (repeat (first | exact Grow.refl t0 | exact Grow.refl t1 | exact Grow.refl t2 | exact Grow.refl t3 | exact Grow.refl s0 | exact Grow.refl s1 | exact Grow.refl s2 | exact Grow.refl s3 | refine Grow.then_below ?_ hb1 | refine Grow.then_below ?_ hb2 | refine Grow.then_below ?_ hb3 | refine Grow.then_drew ?_ | refine Grow.then_alloc ?_ _ | refine Grow.then_frz ?_ _ (by first | exact s0 | exact s1 | exact s2 | exact s3))); done)) (hr1.grew (B := w.heap.size) (by (repeat (first | exact Grow.refl t0 | exact Grow.refl t1 | exact Grow.refl t2 | exact Grow.refl t3 | exact Grow.refl s0 | exact Grow.refl s1 | exact Grow.refl s2 | exact Grow.refl s3 | refine Grow.then_below ?_ hb1 | refine Grow.then_below ?_ hb2 | refine Grow.then_below ?_ hb3 | refine Grow.then_drew ?_ | refine Grow.then_alloc ?_ _ | refine Grow.then_frz ?_ _ (by first | exact s0 | exact s1 | exact s2 | exact s3))))) hl1 (hr2.grew (B := w.heap.size) (by (repeat (first | exact Grow.refl t0 | exact Grow.refl t1 | exact Grow.refl t2 | exact Grow.refl t3 | exact Grow.refl s0 | exact Grow.refl s1 | exact Grow.refl s2 | exact Grow.refl s3 | refine Grow.then_below ?_ hb1 | refine Grow.then_below ?_ hb2 | refine Grow.then_below ?_ hb3 | refine Grow.then_drew ?_ | refine Grow.then_alloc ?_ _ | refine Grow.then_frz ?_ _ (by first | exact s0 | exact s1 | exact s2 | exact s3))))) hl2 (hr3.grew (B := w.heap.size) (by (repeat (first | exact Grow.refl t0 | exact Grow.refl t1 | exact Grow.refl t2 | exact Grow.refl t3 | exact Grow.refl s0 | exact Grow.refl s1 | exact Grow.refl s2 | exact Grow.refl s3 | refine Grow.then_below ?_ hb1 | refine Grow.then_below ?_ hb2 | refine Grow.then_below ?_ hb3 | refine Grow.then_drew ?_ | refine Grow.then_alloc ?_ _ | refine Grow.then_frz ?_ _ (by first | exact s0 | exact s1 | exact s2 | exact s3))))) hl3) (by decide) HT.out).mono ?_; rintro e w4 ⟨rfl, hb4⟩; have G4 : Grow w.heap.size wb w4 := (by refine Grow.then_below ?_ hb4; (repeat (first | exact Grow.refl t0 | exact Grow.refl t1 | exact Grow.refl t2 | exact Grow.refl t3 | exact Grow.refl s0 | exact Grow.refl s1 | exact Grow.refl s2 | exact Grow.refl s3 | refine Grow.then_below ?_ hb1 | refine Grow.then_below ?_ hb2 | refine Grow.then_below ?_ hb3 | refine Grow.then_drew ?_ | refine Grow.then_alloc ?_ _ | refine Grow.then_frz ?_ _ (by first | exact s0 | exact s1 | exact s2 | exact s3)))); have SS4 := HXG _ G4))
  all_goals
    go_wp2
    go_ret
    exact ⟨rfl, hbb.trans G4.b⟩

set_option maxRecDepth 10000 in
set_option maxHeartbeats 8000000 in
theorem specKeyId_any (sc y h : Int) (w : World) (hx : U64 y) (hl : sc ≤ 9223372036854775807) (hd : h ≤ 9223372036854775807) :
    Calls Tryz.prog 88 #[kpv sc y h] w fun e w' => e = .returned (.int .u64 (kidN sc y h)) ∧ Below w.heap.size w w' := by
  have HT : Hid (_ ≤ _) := kid_total sc y h hl hd
  obtain ⟨wb, hwb⟩ : ∃ wb, wb = w.alloc (.cells #[.int .i64 sc, .int .u64 y, .int .i64 h] 120) := ⟨_, rfl⟩
  have hbb : Below w.heap.size w wb := by rw [hwb]; exact (Below.refl _ _).alloc (Nat.le_refl _) _
  have s0 : w.heap.size ≤ wb.heap.size := hbb.size
  have hlw : w.heap.size < wb.heap.size := by rw [hwb]; simp
  have hbx : wb.heap[w.heap.size]? = some (.cells #[.int .i64 sc, .int .u64 y, .int .i64 h] 120) := by rw [hwb]; exact heap_alloc_new w _
  have HXG : ∀ W, Grow w.heap.size wb W → W.cell? ⟨w.heap.size, 0, none⟩ = some (.int .i64 sc) ∧ W.cell? ⟨w.heap.size, 1, none⟩ = some (.int .u64 y) ∧ W.cell? ⟨w.heap.size, 2, none⟩ = some (.int .i64 h) := by
    intro W g
    exact ⟨(g.cell ⟨w.heap.size, 0, none⟩ hlw).trans ((cell_of_row _ w.heap.size 0 _ 120 (0, 0) hbx).trans rfl), (g.cell ⟨w.heap.size, 1, none⟩ hlw).trans ((cell_of_row _ w.heap.size 1 _ 120 (0, 0) hbx).trans rfl), (g.cell ⟨w.heap.size, 2, none⟩ hlw).trans ((cell_of_row _ w.heap.size 2 _ 120 (0, 0) hbx).trans rfl)⟩
  have HWB : Hid (_ = _) := hwb
  clear hwb hbx
  have hn0 : (wb.alloc (.cells #[.int .u8 107, .int .u8 101, .int .u8 121] 5)).drew.heap[wb.heap.size]? = some (.cells #[.int .u8 107, .int .u8 101, .int .u8 121] 5) := heap_alloc_new wb _
  have hc0 := run_conv_any _ _ hn0
  have t0 : w.heap.size ≤ (wb.alloc (.cells #[.int .u8 107, .int .u8 101, .int .u8 121] 5)).heap.size := by simp; omega
  unfold kpv
  go_enter Tryz.func88, Tryz.ntmps88
  go_upto_region 1 with fail
  rw [← HWB.out]
  clear HWB
  go_region_held_law (fun W => W.cell? ⟨w.heap.size, 0, none⟩ = some (.int .i64 sc) ∧ W.cell? ⟨w.heap.size, 1, none⟩ = some (.int .u64 y) ∧ W.cell? ⟨w.heap.size, 2, none⟩ = some (.int .i64 h)) (first | assumption | (refine HXG _ ?_; (repeat (first | exact Grow.refl t0 | exact Grow.refl t1 | exact Grow.refl t2 | exact Grow.refl t3 | exact Grow.refl s0 | exact Grow.refl s1 | exact Grow.refl s2 | exact Grow.refl s3 | refine Grow.then_below ?_ hb1 | refine Grow.then_below ?_ hb2 | refine Grow.then_below ?_ hb3 | refine Grow.then_drew ?_ | refine Grow.then_alloc ?_ _ | refine Grow.then_frz ?_ _ (by first | exact s0 | exact s1 | exact s2 | exact s3)))))
    (first
      | (go_at_call_of 118 sc; refine (specPutNum_any sc _ hl).mono ?_; rintro e w1 ⟨a1, c1, rfl, ho1, hb1⟩; have s1 : w.heap.size ≤ w1.heap.size := Nat.le_trans s0 (Grow.size (B := w.heap.size) (W := wb) (by (repeat (first | exact Grow.refl t0 | exact Grow.refl t1 | exact Grow.refl t2 | exact Grow.refl t3 | exact Grow.refl s0 | exact Grow.refl s1 | exact Grow.refl s2 | exact Grow.refl s3 | refine Grow.then_below ?_ hb1 | refine Grow.then_below ?_ hb2 | refine Grow.then_below ?_ hb3 | refine Grow.then_drew ?_ | refine Grow.then_alloc ?_ _ | refine Grow.then_frz ?_ _ (by first | exact s0 | exact s1 | exact s2 | exact s3))))); have hr1 := ho1.toRow; have hl1 := ho1.nil; have hn1 : (w1.alloc (.cells #[.int .u8 107, .int .u8 101, .int .u8 121] 5)).heap[w1.heap.size]? = some (.cells #[.int .u8 107, .int .u8 101, .int .u8 121] 5) := heap_alloc_new w1 _; have hc1 := run_conv_any _ _ hn1; have t1 : w.heap.size ≤ (w1.alloc (.cells #[.int .u8 107, .int .u8 101, .int .u8 121] 5)).heap.size := (by simp; omega); (try (have kb := (hb1.block _ (Array.getElem?_eq_some_iff.1 hn0).1).trans hn0; have hck := run_conv_any _ _ kb)); skip)
      | (go_at_call 62; refine (l1Eight_any y _ hx.1 hx.2).mono ?_; rintro e w2 ⟨a2, c2, rfl, ho2, hb2⟩; have hr2 := ho2.toRow; have hl2 := ho2.nil; have s2 : w.heap.size ≤ w2.heap.size := Nat.le_trans s0 (Grow.size (B := w.heap.size) (W := wb) (by (repeat (first | exact Grow.refl t0 | exact Grow.refl t1 | exact Grow.refl t2 | exact Grow.refl t3 | exact Grow.refl s0 | exact Grow.refl s1 | exact Grow.refl s2 | exact Grow.refl s3 | refine Grow.then_below ?_ hb1 | refine Grow.then_below ?_ hb2 | refine Grow.then_below ?_ hb3 | refine Grow.then_drew ?_ | refine Grow.then_alloc ?_ _ | refine Grow.then_frz ?_ _ (by first | exact s0 | exact s1 | exact s2 | exact s3))))); have hn2 : (w2.alloc (.cells #[.int .u8 107, .int .u8 101, .int .u8 121] 5)).heap[w2.heap.size]? = some (.cells #[.int .u8 107, .int .u8 101, .int .u8 121] 5) := heap_alloc_new w2 _; have hc2 := run_conv_any _ _ hn2; have t2 : w.heap.size ≤ (w2.alloc (.cells #[.int .u8 107, .int .u8 101, .int .u8 121] 5)).heap.size := (by simp; omega); (try (have kb := (hb2.block _ (Array.getElem?_eq_some_iff.1 hn0).1).trans hn0; have hck := run_conv_any _ _ kb)); (try (have kb := (hb2.block _ (Array.getElem?_eq_some_iff.1 hn1).1).trans hn1; have hck := run_conv_any _ _ kb)); (try (have kb := (hb2.block _ (Array.getElem?_eq_some_iff.1 kb).1).trans kb; have hck := run_conv_any _ _ kb)); skip)
      | (go_at_call_of 118 h; refine (specPutNum_any h _ hd).mono ?_; rintro e w3 ⟨a3, c3, rfl, ho3, hb3⟩; have s3 : w.heap.size ≤ w3.heap.size := Nat.le_trans s0 (Grow.size (B := w.heap.size) (W := wb) (by (repeat (first | exact Grow.refl t0 | exact Grow.refl t1 | exact Grow.refl t2 | exact Grow.refl t3 | exact Grow.refl s0 | exact Grow.refl s1 | exact Grow.refl s2 | exact Grow.refl s3 | refine Grow.then_below ?_ hb1 | refine Grow.then_below ?_ hb2 | refine Grow.then_below ?_ hb3 | refine Grow.then_drew ?_ | refine Grow.then_alloc ?_ _ | refine Grow.then_frz ?_ _ (by first | exact s0 | exact s1 | exact s2 | exact s3))))); have hr3 := ho3.toRow; have hl3 := ho3.nil; have hn3 : (w3.alloc (.cells #[.int .u8 107, .int .u8 101, .int .u8 121] 5)).heap[w3.heap.size]? = some (.cells #[.int .u8 107, .int .u8 101, .int .u8 121] 5) := heap_alloc_new w3 _; have hc3 := run_conv_any _ _ hn3; have t3 : w.heap.size ≤ (w3.alloc (.cells #[.int .u8 107, .int .u8 101, .int .u8 121] 5)).heap.size := (by simp; omega); (try (have kb := (hb3.block _ (Array.getElem?_eq_some_iff.1 hn0).1).trans hn0; have hck := run_conv_any _ _ kb)); (try (have kb := (hb3.block _ (Array.getElem?_eq_some_iff.1 hn1).1).trans hn1; have hck := run_conv_any _ _ kb)); (try (have kb := (hb3.block _ (Array.getElem?_eq_some_iff.1 hn2).1).trans hn2; have hck := run_conv_any _ _ kb)); (try (have kb := (hb3.block _ (Array.getElem?_eq_some_iff.1 kb).1).trans kb; have hck := run_conv_any _ _ kb)); skip)
      | (go_at_call 117; refine (specHashAll_any _ 4 4 [kyW, putI sc, eightI y, putI h] _ (kid_rows _ _ _ _ _ _ _ _ _ _ _ _ _ (by first | exact (row_word wb kyW (0, 0) kyW_byte).grew (B := w.heap.size) (by (repeat (first | exact Grow.refl t0 | exact Grow.refl t1 | exact Grow.refl t2 | exact Grow.refl t3 | exact Grow.refl s0 | exact Grow.refl s1 | exact Grow.refl s2 | exact Grow.refl s3 | refine Grow.then_below ?_ hb1 | refine Grow.then_below ?_ hb2 | refine Grow.then_below ?_ hb3 | refine Grow.then_drew ?_ | refine Grow.then_alloc ?_ _ | refine Grow.then_frz ?_ _ (by first | exact s0 | exact s1 | exact s2 | exact s3))); done) | exact (row_word w1 kyW (0, 0) kyW_byte).grew (B := w.heap.size) (by (repeat (first | exact Grow.refl t0 | exact Grow.refl t1 | exact Grow.refl t2 | exact Grow.refl t3 | exact Grow.refl s0 | exact Grow.refl s1 | exact Grow.refl s2 | exact Grow.refl s3 | refine Grow.then_below ?_ hb1 | refine Grow.then_below ?_ hb2 | refine Grow.then_below ?_ hb3 | refine Grow.then_drew ?_ | refine Grow.then_alloc ?_ _ | refine Grow.then_frz ?_ _ (by first | exact s0 | exact s1 | exact s2 | exact s3))); done) | exact (row_word w2 kyW (0, 0) kyW_byte).grew (B := w.heap.size) (by (repeat (first | exact Grow.refl t0 | exact Grow.refl t1 | exact Grow.refl t2 | exact Grow.refl t3 | exact Grow.refl s0 | exact Grow.refl s1 | exact Grow.refl s2 | exact Grow.refl s3 | refine Grow.then_below ?_ hb1 | refine Grow.then_below ?_ hb2 | refine Grow.then_below ?_ hb3 | refine Grow.then_drew ?_ | refine Grow.then_alloc ?_ _ | refine Grow.then_frz ?_ _ (by first | exact s0 | exact s1 | exact s2 | exact s3))); done) | exact (row_word w3 kyW (0, 0) kyW_byte).grew (B := w.heap.size) (by (repeat (first | exact Grow.refl t0 | exact Grow.refl t1 | exact Grow.refl t2 | exact Grow.refl t3 | exact Grow.refl s0 | exact Grow.refl s1 | exact Grow.refl s2 | exact Grow.refl s3 | refine Grow.then_below ?_ hb1 | refine Grow.then_below ?_ hb2 | refine Grow.then_below ?_ hb3 | refine Grow.then_drew ?_ | refine Grow.then_alloc ?_ _ | refine Grow.then_frz ?_ _ (by first | exact s0 | exact s1 | exact s2 | exact s3))); done)) (hr1.grew (B := w.heap.size) (by (repeat (first | exact Grow.refl t0 | exact Grow.refl t1 | exact Grow.refl t2 | exact Grow.refl t3 | exact Grow.refl s0 | exact Grow.refl s1 | exact Grow.refl s2 | exact Grow.refl s3 | refine Grow.then_below ?_ hb1 | refine Grow.then_below ?_ hb2 | refine Grow.then_below ?_ hb3 | refine Grow.then_drew ?_ | refine Grow.then_alloc ?_ _ | refine Grow.then_frz ?_ _ (by first | exact s0 | exact s1 | exact s2 | exact s3))))) hl1 (hr2.grew (B := w.heap.size) (by (repeat (first | exact Grow.refl t0 | exact Grow.refl t1 | exact Grow.refl t2 | exact Grow.refl t3 | exact Grow.refl s0 | exact Grow.refl s1 | exact Grow.refl s2 | exact Grow.refl s3 | refine Grow.then_below ?_ hb1 | refine Grow.then_below ?_ hb2 | refine Grow.then_below ?_ hb3 | refine Grow.then_drew ?_ | refine Grow.then_alloc ?_ _ | refine Grow.then_frz ?_ _ (by first | exact s0 | exact s1 | exact s2 | exact s3))))) hl2 (hr3.grew (B := w.heap.size) (by (repeat (first | exact Grow.refl t0 | exact Grow.refl t1 | exact Grow.refl t2 | exact Grow.refl t3 | exact Grow.refl s0 | exact Grow.refl s1 | exact Grow.refl s2 | exact Grow.refl s3 | refine Grow.then_below ?_ hb1 | refine Grow.then_below ?_ hb2 | refine Grow.then_below ?_ hb3 | refine Grow.then_drew ?_ | refine Grow.then_alloc ?_ _ | refine Grow.then_frz ?_ _ (by first | exact s0 | exact s1 | exact s2 | exact s3))))) hl3) (by decide) HT.out).mono ?_; rintro e w4 ⟨rfl, hb4⟩; have G4 : Grow w.heap.size wb w4 := (by refine Grow.then_below ?_ hb4; (repeat (first | exact Grow.refl t0 | exact Grow.refl t1 | exact Grow.refl t2 | exact Grow.refl t3 | exact Grow.refl s0 | exact Grow.refl s1 | exact Grow.refl s2 | exact Grow.refl s3 | refine Grow.then_below ?_ hb1 | refine Grow.then_below ?_ hb2 | refine Grow.then_below ?_ hb3 | refine Grow.then_drew ?_ | refine Grow.then_alloc ?_ _ | refine Grow.then_frz ?_ _ (by first | exact s0 | exact s1 | exact s2 | exact s3)))); have SS4 := HXG _ G4))
  all_goals
    go_wp2
    go_ret
    exact ⟨rfl, hbb.trans G4.b⟩

end Go.Proofs.YtglpbgebcpijaaaGreat
