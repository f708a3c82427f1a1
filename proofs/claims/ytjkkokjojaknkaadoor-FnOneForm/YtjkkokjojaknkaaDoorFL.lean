import Derived.Test.YtjkkokjojaknkaaDoorFA
import Derived.Test.YtjkkokjojaknkaaDoorG13
import Derived.Test.YtjkkokjojaknkaaDoorG08
namespace Go.Proofs.YtjkkokjojaknkaaDoor
open Go.RowKit

/-- The slice at a reads as the numbers zs. -/
structure Row64 (w : World) (a : Option Addr) (n : Nat) (zs : List Int) : Prop where
  len : zs.length = n
  get : ∀ k, k < n → ∃ b off, a = some ⟨b, off, none⟩ ∧ b < w.heap.size ∧ w.cell? ⟨b, off + k, none⟩ = some (.int .i64 (zs.getD k 0))
theorem Row64.kept {w w' : World} {a : Option Addr} {n : Nat} {zs : List Int} (h : Row64 w a n zs) (hb : Below w.heap.size w w') : Row64 w' a n zs := by
  refine ⟨h.len, fun k hk => ?_⟩
  obtain ⟨b, off, ha, hlt, hc⟩ := h.get k hk
  exact ⟨b, off, ha, Nat.lt_of_lt_of_le hlt hb.size, (hb.cell (p := ⟨b, off + k, none⟩) hlt).trans hc⟩

/-- Numbers of our own, between lo and hi. -/
structure Own64 (lo hi : Nat) (w : World) (a : Option Addr) (n cap : Nat) (zs : List Int) : Prop where
  row : w.ownsRow lo 2 1 (.slice a n cap) n (zs.map (Value.int .i64))
  lt : ∀ x, a = some x → x.block < hi
theorem Own64.toRow {lo hi : Nat} {w : World} {a : Option Addr} {n cap : Nat} {zs : List Int} (h : Own64 lo hi w a n cap zs) : Row64 w a n zs := by
  have hl : zs.length = n := by simpa using h.row.1
  refine ⟨hl, fun k hk => ?_⟩
  rcases h.row.2 with ⟨_, h0⟩ | ⟨g, cap', cur, hv, hb, hg, r⟩
  · omega
  · simp only [Value.slice.injEq] at hv
    obtain ⟨rfl, _, rfl⟩ := hv
    refine ⟨g, 0, rfl, (Array.getElem?_eq_some_iff.1 hg).1, ?_⟩
    rw [Nat.zero_add, World.ownsRow.cellAt h.row k (by omega)]
    simp [show k < zs.length by omega]
theorem Own64.kept {lo hi : Nat} {w w' : World} {a : Option Addr} {n cap : Nat} {zs : List Int} (h : Own64 lo hi w a n cap zs) (hb : Below w.heap.size w w') : Own64 lo hi w' a n cap zs := ⟨ownsRow_below h.row hb, h.lt⟩
theorem Own64.touch {lo hi p q : Nat} {w w' : World} {a : Option Addr} {n cap : Nat} {zs : List Int} (h : Own64 lo hi w a n cap zs) (hd : hi ≤ p ∨ q ≤ lo) (ht : Touch p q w w') : Own64 lo hi w' a n cap zs := by
  refine ⟨⟨h.row.1, ?_⟩, h.lt⟩
  rcases h.row.2 with hn' | ⟨g, cap', cur, hv, hbb, hgg, rest⟩
  · exact .inl hn'
  · simp only [Value.slice.injEq] at hv
    obtain ⟨rfl, _, rfl⟩ := hv
    have hp := h.lt _ rfl
    simp at hp
    exact .inr ⟨g, cap, cur, rfl, hbb, (ht.block g (Array.getElem?_eq_some_iff.1 hgg).1 (by omega)).trans hgg, rest⟩

theorem Tryd.info2 : (Tryd.prog.info? 2).map (fun i => (i.zero, i.size, i.bytes)) = some (some (.int .i64 0), 1, 8) := by kernel_rfl

theorem made64 {B n : Nat} {w : World} {v : Value} (h : w.ownsRow B 2 1 v n (madeCells (Value.int .i64 0).cells (n * 1)).toList) : w.ownsRow B 2 1 v n ((List.replicate n (0 : Int)).map (Value.int .i64)) := by
  have e : (madeCells (Value.int .i64 0).cells (n * 1)).toList = (List.replicate n (0 : Int)).map (Value.int .i64) := by
    rw [List.map_replicate, Nat.mul_one]; exact toList_madeCells_one _ _
  rwa [e] at h

end Go.Proofs.YtjkkokjojaknkaaDoor

namespace Go.Proofs.YtjkkokjojaknkaaDoor
open Go.RowKit

/-- One item, marked from k on; and the number behind it. -/
def mkItem (f : List It → Nat → List It × Nat) (x : It) (k : Nat) : It × Nat :=
  (.mk (k : Int) ((k : Int) + 1) (((k : Int) + 1 + 1) % 3 == 0) (marks (k + 3) x.body.length) (f x.kids (k + 3 + x.body.length)).1, (f x.kids (k + 3 + x.body.length)).2)
/-- The number ahead of the j-th. -/
def kkAt (f : List It → Nat → List It × Nat) (xs : List It) (k : Nat) : Nat → Nat
  | 0 => k
  | j + 1 => (mkItem f (xs.getD j default) (kkAt f xs k j)).2
def mkK (f : List It → Nat → List It × Nat) (xs : List It) (k : Nat) : List It × Nat := ((List.range xs.length).map fun j => (mkItem f (xs.getD j default) (kkAt f xs k j)).1, kkAt f xs k xs.length)
def mkS : Nat → List It → Nat → List It × Nat
  | 0, xs, k => (xs, k)
  | d + 1, xs, k => mkK (mkS d) xs k

theorem mkS_le (d : Nat) : ∀ xs k, (mkS d xs k).2 ≤ k + 3 * wtS d xs := by
  induction d with
  | zero => intro xs k; exact Nat.le_add_right _ _
  | succ d ih =>
    intro xs k
    have hj : ∀ j, j ≤ xs.length → kkAt (mkS d) xs k j ≤ k + 3 * (j + wtP d xs j) := by
      intro j
      induction j with
      | zero => intro _; exact Nat.le_add_right _ _
      | succ j ihj =>
        intro hj
        have h1 := ihj (by omega)
        have h2 := wtP_next d xs j (by omega)
        have h3 := ih (xs.getD j default).kids (kkAt (mkS d) xs k j + 3 + (xs.getD j default).body.length)
        show (mkItem (mkS d) (xs.getD j default) (kkAt (mkS d) xs k j)).2 ≤ _
        unfold mkItem
        show (mkS d (xs.getD j default).kids (kkAt (mkS d) xs k j + 3 + (xs.getD j default).body.length)).2 ≤ _
        omega
    have := hj xs.length (Nat.le_refl _)
    rw [wtS_succ]
    exact this
theorem kkAt_le (d : Nat) (xs : List It) (k j : Nat) (hj : j ≤ xs.length) : kkAt (mkS d) xs k j ≤ k + 3 * (j + wtP d xs j) := by
  induction j with
  | zero => exact Nat.le_add_right _ _
  | succ j ihj =>
    have h1 := ihj (by omega)
    have h2 := wtP_next d xs j (by omega)
    have h3 := mkS_le d (xs.getD j default).kids (kkAt (mkS d) xs k j + 3 + (xs.getD j default).body.length)
    show (mkS d (xs.getD j default).kids (kkAt (mkS d) xs k j + 3 + (xs.getD j default).body.length)).2 ≤ _
    omega

/-- The item x lies in the row g at place j, what hangs on it between lo and hi. -/
def ItemAt (K : Nat → Nat → World → Option Addr → Nat → List It → Prop) (lo hi : Nat) (w : World) (g j : Nat) (x : It) : Prop :=
  ∃ ab nb cb ak nk ck M, w.cell? ⟨g, j * 5, none⟩ = some (.int .i64 x.cls) ∧ w.cell? ⟨g, j * 5 + 1, none⟩ = some (.int .i64 x.tag) ∧ w.cell? ⟨g, j * 5 + 2, none⟩ = some (.bool x.cons)
      ∧ w.cell? ⟨g, j * 5 + 3, none⟩ = some (.slice ab nb cb) ∧ w.cell? ⟨g, j * 5 + 4, none⟩ = some (.slice ak nk ck)
      ∧ lo ≤ M ∧ M ≤ hi ∧ OwnB lo M w ab nb cb x.body ∧ K M hi w ak nk x.kids

theorem ItemAt.move {K : Nat → Nat → World → Option Addr → Nat → List It → Prop} (hK : Moves K) {lo hi p q : Nat} {w w' : World} {g j : Nat} {x : It} (h : ItemAt K lo hi w g j x)
    (hc : ∀ i, j * 5 ≤ i → i < j * 5 + 5 → w'.cell? ⟨g, i, none⟩ = w.cell? ⟨g, i, none⟩) (hd : hi ≤ p ∨ q ≤ lo) (ht : Touch p q w w') : ItemAt K lo hi w' g j x := by
  obtain ⟨ab, nb, cb, ak, nk, ck, M, c0, c1, c2, c3, c4, m1, m2, ob, ok⟩ := h
  exact ⟨ab, nb, cb, ak, nk, ck, M, (hc _ (by omega) (by omega)).trans c0, (hc _ (by omega) (by omega)).trans c1, (hc _ (by omega) (by omega)).trans c2, (hc _ (by omega) (by omega)).trans c3, (hc _ (by omega) (by omega)).trans c4, m1, m2,
    ob.touch (by omega) ht, hK _ _ _ _ _ _ _ _ _ ok (by omega) ht⟩

structure Set3 (B : Nat) (w w' : World) (g n cap i : Nat) (u0 u1 u2 : Value) : Prop where
  own : ∃ vs, w'.ownsRow B 26 5 (.slice (some ⟨g, 0, none⟩) n cap) n vs
  touch : Touch g (g + 1) w w'
  old : ∀ j, j < n * 5 → j < i * 5 ∨ i * 5 + 3 ≤ j → w'.cell? ⟨g, j, none⟩ = w.cell? ⟨g, j, none⟩
  c0 : w'.cell? ⟨g, i * 5, none⟩ = some u0
  c1 : w'.cell? ⟨g, i * 5 + 1, none⟩ = some u1
  c2 : w'.cell? ⟨g, i * 5 + 2, none⟩ = some u2

theorem set3_is {B : Nat} {w : World} {g n cap : Nat} {vs : List Value} (h : w.ownsRow B 26 5 (.slice (some ⟨g, 0, none⟩) n cap) n vs) (i : Nat) (hi : i < n) (u0 u1 u2 : Value) :
    Set3 B w (((w.setCell ⟨g, i * 5, none⟩ u0).setCell ⟨g, i * 5 + 1, none⟩ u1).setCell ⟨g, i * 5 + 2, none⟩ u2) g n cap i u0 u1 u2 := by
  have h1 := (((h.stored (i * 5) u0).1.stored (i * 5 + 1) u1).1.stored (i * 5 + 2) u2).1
  have hl : vs.length = n * 5 := h.1
  have cc := fun j (hj : j < n * 5) => h1.cellAt j hj
  refine ⟨⟨_, h1⟩, ?_, fun j hj ho => ?_, ?_, ?_, ?_⟩
  · exact ((touch_set _ _ _ _ (Nat.le_refl _) (Nat.lt_succ_self _)).trans (touch_set _ _ _ _ (Nat.le_refl _) (Nat.lt_succ_self _))).trans (touch_set _ _ _ _ (Nat.le_refl _) (Nat.lt_succ_self _))
  · rw [cc j hj, h.cellAt j hj]
    rw [List.getElem?_set_ne (by omega), List.getElem?_set_ne (by omega), List.getElem?_set_ne (by omega)]
  · rw [cc _ (by omega), List.getElem?_set_ne (by omega), List.getElem?_set_ne (by omega), List.getElem?_set_self (by omega)]
  · rw [cc _ (by omega), List.getElem?_set_ne (by omega), List.getElem?_set_self (by simp; omega)]
  · rw [cc _ (by omega), List.getElem?_set_self (by simp; omega)]

theorem OwnB.wrote {lo hi : Nat} {w w' : World} {a : Option Addr} {n cap : Nat} {bs : List Int} (h : OwnB lo hi w a n cap bs) (hg : w.grownBy w' (Value.slice a n cap).ownBlock) : Touch lo hi w w' := by
  refine ⟨hg.os, hg.tape, hg.output, hg.size, fun k hk ho => hg.block k hk ?_⟩
  intro e
  have h1 := (h.own.row.lt k e.symm).1
  cases a with
  | none => simp [Value.ownBlock] at e
  | some x =>
    simp [Value.ownBlock] at e
    have h2 := h.lt x rfl
    omega
theorem ownsRow_same {B e size n g cap : Nat} {w w' : World} {xs : List Value} (h : w.ownsRow B e size (.slice (some ⟨g, 0, none⟩) n cap) n xs) (hb : w'.heap[g]? = w.heap[g]?) : w'.ownsRow B e size (.slice (some ⟨g, 0, none⟩) n cap) n xs := by
  refine ⟨h.1, ?_⟩
  rcases h.2 with hn | ⟨g', cap', cur, hv, hbb, hgg, rest⟩
  · exact .inl hn
  · simp only [Value.slice.injEq, Option.some.injEq, Addr.mk.injEq, and_true, true_and] at hv
    obtain ⟨rfl, rfl⟩ := hv
    exact .inr ⟨g, cap, cur, rfl, hbb, hb.trans hgg, rest⟩

/-- What the j-th is when i are marked. -/
def zAt (f : List It → Nat → List It × Nat) (xs : List It) (k i j : Nat) : It := if j < i then (mkItem f (xs.getD j default) (kkAt f xs k j)).1 else xs.getD j default

def MarkS (d : Nat) : Prop := ∀ (lo hi : Nat) (a : Option Addr) (n cap : Nat) (xs : List It) (k : Nat) (K : Int) (w : World), K = (k : Int) → OwnKids d lo hi w a n xs → k + 3 * wtS d xs ≤ 100000000 →
    Calls Tryd.prog 47 #[.slice a n cap, .int .i64 K] w fun e w' => e = .returned (.int .i64 ((mkS d xs k).2 : Nat)) ∧ OwnKids d lo hi w' a n (mkS d xs k).1 ∧ Touch lo hi w w'

set_option maxRecDepth 10000 in
set_option maxHeartbeats 2000000 in
theorem markS_next (d : Nat) (ih : MarkS d) : MarkS (d + 1) := by
  intro lo hi a n cap xs k K w hKk hown hwt
  have hlen := hown.1
  have hn := hown.2.1
  have HW : Hid (k + 3 * (n + wtP d xs n) ≤ 100000000) := by show _ ≤ _; rw [wtS_succ, hlen] at hwt; exact hwt
  have HLN : Hid (xs.length = n) := hlen
  have hn9 : n ≤ 100000000 := by have := HW.out; omega
  subst hKk
  rcases hown.2.2 with h0 | ⟨g, capo, vs, rfl, g1, g2, hrow, L, H, h1, h2, h3⟩
  · subst h0
    have hx : xs = [] := List.eq_nil_of_length_eq_zero hlen
    subst hx
    clear hown hwt
    go_enter Tryd.func47, Tryd.ntmps47
    go_wp2
    refine wp_loop_rounds 2 ?_
    rw [rounds_succ]
    go_wp2
    go_ret
    exact ⟨rfl, ⟨rfl, hn, .inl rfl⟩, Touch.of_below (Below.refl _ _)⟩
  · have H3 : Hid (∀ j, j < n → ItemAt (OwnKids d) (L j) (H j) w g j (zAt (mkS d) xs k 0 j)) := fun j hj => h3 j hj
    have H1 : Hid (_) := h1
    have H2 : Hid (_) := h2
    clear h1 h2 h3 hown hwt hlen
    go_enter Tryd.func47, Tryd.ntmps47
    go_wp2
    go_loopw [1, 5] (fun kk i wr => ∃ j q : Nat, j ≤ n ∧ i = .int .i64 j ∧ kk = .int .i64 q ∧ Hid (q = kkAt (mkS d) xs k j) ∧ (∃ us, wr.ownsRow lo 26 5 (.slice (some ⟨g, 0, none⟩) n capo) n us) ∧ (∀ m, m < n → ItemAt (OwnKids d) (L m) (H m) wr g m (zAt (mkS d) xs k j m)) ∧ Touch lo hi w wr) (fun _ i _ => n - (intOf i).toNat)
    case atStart => exact ⟨0, k, Nat.zero_le _, rfl, rfl, rfl, ⟨_, hrow⟩, H3.out, Touch.of_below (Below.refl _ _)⟩
    case round =>
      obtain ⟨j, q, hj, rfl, rfl, HQ, ⟨us, hor⟩, hit, htr⟩ := hrel
      by_cases hjn : j < n
      · obtain ⟨ab, nb, cb, ak, nk, ck, M, c0, c1, c2, c3, c4, m1, m2, ob, ok⟩ := hit j hjn
        have hkl := kkAt_le d xs k j (by rw [HLN.out]; omega)
        rw [← HQ.out] at hkl
        have hz : zAt (mkS d) xs k j j = xs.getD j default := by rw [zAt, if_neg (by omega)]
        rw [hz] at c0 c1 c2 ob ok
        have hnx := wtP_next d xs j (by rw [HLN.out]; exact hjn)
        have hle := wtP_le d xs (j + 1)
        rw [HLN.out] at hle
        obtain ⟨y, hy⟩ : ∃ y, y = xs.getD j default := ⟨_, rfl⟩
        rw [← hy] at c0 c1 c2 ob ok hnx
        have HY : Hid (y = xs.getD j default) := hy
        have hbl := ob.own.length
        have hqk : q + 3 + nb + 3 * wtS d y.kids ≤ 100000000 := by have := HW.out; rw [hbl] at hnx; omega
        clear hy hz hnx hle
        have f0 := hor.frozenAt (j * 5)
        have f1 := hor.frozenAt (j * 5 + 1)
        have f2 := hor.frozenAt (j * 5 + 2)
        have hji : (j : Int) < (n : Int) := by omega
        have OB : Hid (_) := ob
        have OKK : Hid (_) := ok
        have IT : Hid (∀ m, m < n → ItemAt (OwnKids d) (L m) (H m) wr g m (zAt (mkS d) xs k j m)) := hit
        clear ob ok hit
        have hS := set3_is hor j hjn (.int .i64 (q : Int)) (.int .i64 ((q : Int) + 1)) (.bool (((q : Int) + 1 + 1) % 3 == 0))
        have hLH := H1.out j hjn
        have hglt := (hor.lt g rfl).2
        have HS : Hid (_) := hS
        have ob3 := OB.out.touch (p := g) (q := g + 1) (by omega) hS.touch
        have ok3 := ownKids_moves d _ _ g (g + 1) _ _ _ _ _ OKK.out (by omega) hS.touch
        have c43 := (hS.old (j * 5 + 4) (by omega) (by omega)).trans c4
        have c33 := (hS.old (j * 5 + 3) (by omega) (by omega)).trans c3
        clear hS
        go_wp2_with fail
        obtain ⟨W3, hW3⟩ : ∃ W3, W3 = ((wr.setCell ⟨g, j * 5, none⟩ (.int .i64 (q : Int))).setCell ⟨g, j * 5 + 1, none⟩ (.int .i64 ((q : Int) + 1))).setCell ⟨g, j * 5 + 2, none⟩ (.bool (((q : Int) + 1 + 1) % 3 == 0)) := ⟨_, rfl⟩
        rw [← hW3] at HS ob3 ok3 c43 c33 ⊢
        clear hW3 c0 c1 c2 c3 c4 f0 f1 f2
        refine (markByteS_int (L j) ab nb cb ((q : Int) + 1 + 1 + 1) y.body _ ob3.own (by omega) (by omega) (by omega)).mono ?_
        rintro e w2 ⟨rfl, ho2, hg2⟩
        have htn : ((q : Int) + 1 + 1 + 1).toNat = q + 3 := by omega
        rw [htn] at ho2
        have t2 : Touch (L j) M W3 w2 := ob3.wrote hg2
        have hg3 : g < W3.heap.size := Nat.lt_of_lt_of_le hglt HS.out.touch.size
        have b2 : w2.heap[g]? = W3.heap[g]? := t2.block g hg3 (by omega)
        have c44 : w2.cell? ⟨g, j * 5 + 4, none⟩ = some (.slice ak nk ck) := (World.cell?_of_block (a := ⟨g, j * 5 + 4, none⟩) b2).trans c43
        have ok2 := ownKids_moves d _ _ (L j) M _ _ _ _ _ ok3 (.inr (Nat.le_refl _)) t2
        have ob2 : OwnB (L j) M w2 ab nb cb (marks (q + 3) nb) := ⟨ho2, ob3.lt⟩
        have OB2 : Hid (_) := ob2
        have OK2 : Hid (_) := ok2
        have T2 : Hid (_) := t2
        have B2 : Hid (_ = _) := b2
        have C33 : Hid (_ = _) := c33
        have C43 : Hid (_ = _) := c43
        clear ho2 hg2 ob3 ok3 c33 c43 ob2 ok2 t2 b2 htn
        go_wp2_with fail
        refine (ih M (H j) ak nk ck y.kids (q + 3 + nb) ((q : Int) + 1 + 1 + 1 + (nb : Int)) w2 (by omega) OK2.out hqk).mono ?_
        rintro e w4 ⟨rfl, ok4, t4⟩
        have hg4 : g < w2.heap.size := Nat.lt_of_lt_of_le hg3 T2.out.size
        have b4 : w4.heap[g]? = W3.heap[g]? := (t4.block g hg4 (by omega)).trans B2.out
        have cc4 : ∀ i, w4.cell? ⟨g, i, none⟩ = W3.cell? ⟨g, i, none⟩ := fun i => World.cell?_of_block (a := ⟨g, i, none⟩) b4
        have hown4 : ∃ us, w4.ownsRow lo 26 5 (.slice (some ⟨g, 0, none⟩) n capo) n us := by
          obtain ⟨us', hu⟩ := HS.out.own
          exact ⟨us', ownsRow_same hu b4⟩
        have hzj : zAt (mkS d) xs k (j + 1) j = .mk (q : Int) ((q : Int) + 1) (((q : Int) + 1 + 1) % 3 == 0) (marks (q + 3) nb) (mkS d y.kids (q + 3 + nb)).1 := by
          rw [zAt, if_pos (by omega), ← HY.out, ← HQ.out, mkItem, hbl]
        have hkj : (mkS d y.kids (q + 3 + nb)).2 = kkAt (mkS d) xs k (j + 1) := by
          show _ = (mkItem (mkS d) (xs.getD j default) (kkAt (mkS d) xs k j)).2
          rw [← HY.out, ← HQ.out, mkItem, hbl]
        have hit4 : ∀ m, m < n → ItemAt (OwnKids d) (L m) (H m) w4 g m (zAt (mkS d) xs k (j + 1) m) := by
          intro m hm
          by_cases hmj : m = j
          · subst hmj
            rw [hzj]
            exact ⟨ab, nb, cb, ak, nk, ck, M, (cc4 _).trans HS.out.c0, (cc4 _).trans HS.out.c1, (cc4 _).trans HS.out.c2, (cc4 _).trans C33.out, (cc4 _).trans C43.out, m1, m2, OB2.out.touch (.inl (Nat.le_refl _)) t4, ok4⟩
          · have hzm : zAt (mkS d) xs k (j + 1) m = zAt (mkS d) xs k j m := by
              unfold zAt
              by_cases hlt : m < j
              · rw [if_pos hlt, if_pos (by omega)]
              · rw [if_neg hlt, if_neg (by omega)]
            rw [hzm]
            have hm1 := H1.out m hm
            have hdj : H m ≤ L j ∨ H j ≤ L m := by
              by_cases hlt : m < j
              · exact .inl (H2.out m j hlt hjn)
              · exact .inr (H2.out j m (by omega) hm)
            have s1 := (IT.out m hm).move (ownKids_moves d) (w' := W3) (p := g) (q := g + 1) (fun i hi1 hi2 => HS.out.old i (by omega) (by omega)) (by omega) HS.out.touch
            have s2 := s1.move (ownKids_moves d) (w' := w2) (p := L j) (q := M) (fun i _ _ => World.cell?_of_block (a := ⟨g, i, none⟩) B2.out) (by omega) T2.out
            exact s2.move (ownKids_moves d) (w' := w4) (p := M) (q := H j) (fun i _ _ => (cc4 i).trans (World.cell?_of_block (a := ⟨g, i, none⟩) B2.out).symm) (by omega) t4
        have ht4 : Touch lo hi w w4 := ((htr.trans (HS.out.touch.mono (by omega) (by omega))).trans (T2.out.mono (by omega) (by omega))).trans (t4.mono (by omega) (by omega))
        have hq4 := mkS_le d y.kids (q + 3 + nb)
        obtain ⟨q2, hq2⟩ : ∃ q2, q2 = (mkS d y.kids (q + 3 + nb)).2 := ⟨_, rfl⟩
        rw [← hq2] at hkj hq4 ⊢
        have FIN : Hid (_ ∧ _ ∧ _ ∧ _) := ⟨hkj, hown4, hit4, ht4⟩
        clear hkj hown4 hit4 ht4 hzj cc4 b4 hq2 ok4 t4
        go_wp2
        go_roundw
        case rel => exact ⟨j + 1, q2, by omega, by go_num, rfl, FIN.out.1, FIN.out.2.1, FIN.out.2.2.1, FIN.out.2.2.2⟩
        case measure => simp [intOf]; omega
      · obtain rfl : n = j := by omega
        have hkl := kkAt_le d xs k n (by rw [HLN.out]; exact Nat.le_refl _)
        rw [← HQ.out] at hkl
        have hq9 : q ≤ 100000000 := by have := HW.out; omega
        have hE : (mkS (d + 1) xs k).2 = q := by show kkAt (mkS d) xs k xs.length = q; rw [HLN.out, ← HQ.out]
        have hO : OwnKids (d + 1) lo hi wr (some ⟨g, 0, none⟩) n (mkS (d + 1) xs k).1 := by
          refine ⟨by show ((List.range xs.length).map _).length = n; simp [HLN.out], hn, .inr ⟨g, capo, us, rfl, g1, g2, hor, L, H, H1.out, H2.out, fun m hm => ?_⟩⟩
          have hg : ((mkS (d + 1) xs k).1).getD m default = zAt (mkS d) xs k n m := by
            show ((List.range xs.length).map fun j => (mkItem (mkS d) (xs.getD j default) (kkAt (mkS d) xs k j)).1).getD m default = _
            rw [zAt, if_pos hm]
            have hm' : m < xs.length := by rw [HLN.out]; exact hm
            simp [hm']
          rw [hg]
          exact hit m hm
        have FIN : Hid (_ ∧ _ ∧ _) := ⟨hE, hO, htr⟩
        clear hE hO htr hit hor hkl
        go_wp2
        go_ret
        exact ⟨by rw [FIN.out.1]; rfl, FIN.out.2.1, FIN.out.2.2⟩

theorem markS_all (d : Nat) : MarkS d := by
  induction d with
  | zero => intro lo hi a n cap xs k K w _ h; exact h.elim
  | succ d ih => exact markS_next d ih

end Go.Proofs.YtjkkokjojaknkaaDoor
