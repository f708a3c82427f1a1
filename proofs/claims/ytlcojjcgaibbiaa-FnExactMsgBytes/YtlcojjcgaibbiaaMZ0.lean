import Derived.Test.YtlcojjcgaibbiaaMB0
set_option linter.unusedVariables false
namespace Go.Proofs.Ytlcojjcgaibbiaa
open Go.RowKit Go.Sort

/-- A row of items in blocks of our own from B on. -/
def KidZ (L B : Nat) (w : World) (g d : Nat) (ks : List It) : Prop := ∃ S : Nat → Prop, KidsI d S w (some ⟨g, 0, none⟩) ks.length ks ∧ ∀ b, S b → (b < L ∨ B ≤ b) ∧ b < w.heap.size

theorem KidZ.kept {L : Nat} {B : Nat} {w w' : World} {g d : Nat} {ks : List It} (h : KidZ L B w g d ks) (hb : Below w.heap.size w w') : KidZ L B w' g d ks := by
  obtain ⟨S, h1, h2⟩ := h
  exact ⟨S, h1.touch (P := fun _ => False) (fun _ _ h => h) (TouchX.of_below hb), fun b hs => ⟨(h2 b hs).1, Nat.lt_of_lt_of_le (h2 b hs).2 hb.size⟩⟩

theorem KidZ.touched {L : Nat} {B : Nat} {w w' : World} {g d gb : Nat} {ks : List It} (h : KidZ L B w g d ks) (ht : Touch gb (gb + 1) w w') (hlt : L ≤ gb ∧ gb < B) : KidZ L B w' g d ks := by
  obtain ⟨S, h1, h2⟩ := h
  exact ⟨S, h1.touch (fun b hb e => by have := (h2 b hb).1; omega) ht.toX, fun b hs => ⟨(h2 b hs).1, Nat.lt_of_lt_of_le (h2 b hs).2 ht.size⟩⟩

theorem KidZ.mono {L : Nat} {B B' : Nat} {w : World} {g d : Nat} {ks : List It} (h : KidZ L B w g d ks) (hB : B' ≤ B) : KidZ L B' w g d ks := by
  obtain ⟨S, h1, h2⟩ := h
  exact ⟨S, h1, fun b hs => ⟨by have := (h2 b hs).1; omega, (h2 b hs).2⟩⟩

/-- A row of items of our own; all else of it from R on. -/
def OwnItZ (d L R : Nat) (w : World) (a : Option Addr) (n c : Nat) (xs : List It) : Prop := OwnIts d (fun b => (b < L ∨ R ≤ b) ∧ b < w.heap.size ∧ (Value.slice a n c).ownBlock ≠ some b) w a n c xs ∧ ∀ b, (Value.slice a n c).ownBlock = some b → R ≤ b

theorem ownItZ_none (d L R : Nat) (w : World) : OwnItZ d L R w none 0 0 [] := ⟨(OwnIts.nil d w).mono (fun _ h => h.elim) (fun b hb => by cases hb), fun b hb => by cases hb⟩

theorem OwnItZ.kept {L : Nat} {d R : Nat} {w w' : World} {a : Option Addr} {n c : Nat} {xs : List It} (h : OwnItZ d L R w a n c xs) (hb : Below w.heap.size w w') : OwnItZ d L R w' a n c xs :=
  ⟨(h.1.kept hb).mono (fun k hk => ⟨hk.1, Nat.lt_of_lt_of_le hk.2.1 hb.size, hk.2.2⟩) (fun b hb hc => hc.2.2 hb), h.2⟩

/-- One more, whose parts were made behind all this. -/
theorem OwnItZ.appended {L : Nat} {d R : Nat} {w1 w : World} {a : Option Addr} {n c : Nat} {xs : List It} {y : It} {ab : Option Addr} {nb cb : Nat} {ak : Option Addr} {nk ck : Nat} {g' c' : Nat} {T : Nat → Prop}
    (h : OwnItZ d L R w a n c xs) (hy : ItV d T w y ab nb cb ak nk ck) (hT : ∀ b, T b → (b < L ∨ R ≤ b) ∧ b < w.heap.size ∧ (Value.slice a n c).ownBlock ≠ some b) (hn : n + 1 ≤ 9223372036854775807)
    {vs : List Value} (hv0 : w.ownsRow 0 43 5 (.slice a n c) n vs) (hv : w1.ownsRow 0 43 5 (.slice (some ⟨g', 0, none⟩) (n + 1) c') (n + 1) (vs ++ itc y ab nb cb ak nk ck)) (hg : w.grownBy w1 (Value.slice a n c).ownBlock) (hl : (Value.slice a n c).ownBlock = some g' ∨ g' = w.heap.size) (hR : R ≤ w.heap.size) : OwnItZ d L R w1 (some ⟨g', 0, none⟩) (n + 1) c' (xs ++ [y]) := by
  refine ⟨((h.1.appended (hy.mono hT) (fun b hb => hb) (fun b hb hc => hc.2.2 hb) (fun b hb => hb.2.1) hn hv0 hv hg hl)).mono (fun k hk => ⟨hk.1, Nat.lt_of_lt_of_le hk.2.1 hg.size, fun e => ?_⟩) (fun b hb hc => hc.2.2 hb), fun b hb => ?_⟩
  · have e2 : g' = k := by injection e
    rcases hl with hl | hl
    · exact hk.2.2 (by rw [hl, e2])
    · have := hk.2.1
      omega
  · have e2 : g' = b := by injection hb
    rcases hl with hl | hl
    · rw [← e2]; exact h.2 g' hl
    · omega

theorem OwnItZ.row {L : Nat} {d R : Nat} {w : World} {a : Option Addr} {n c : Nat} {xs : List It} (h : OwnItZ d L R w a n c xs) : ∃ vs, w.ownsRow 0 43 5 (.slice a n c) n vs := by
  obtain ⟨vs, h1, _⟩ := h.1.own
  exact ⟨vs, h1⟩

theorem OwnItZ.kids {L : Nat} {d R : Nat} {w : World} {a : Option Addr} {n c : Nat} {xs : List It} (h : OwnItZ d L R w a n c xs) : KidsI (d + 1) (fun b => (b < L ∨ R ≤ b) ∧ b < w.heap.size) w a n xs := by
  obtain ⟨vs, hv⟩ := h.row
  exact h.1.kids (fun k hk => ⟨hk.1, hk.2.1⟩) (fun b hb => ⟨.inr (h.2 b hb), (hv.lt b hb).2⟩)

theorem KidZ.grown {L : Nat} {R : Nat} {w w' : World} {g d : Nat} {ks : List It} {row : Option Nat} (h : KidZ L R w g d ks) (hg : w.grownBy w' row) (hlt : ∀ j, row = some j → L ≤ j ∧ j < R) : KidZ L R w' g d ks := by
  obtain ⟨S, h1, h2⟩ := h
  exact ⟨S, h1.touch (fun k hk e => by have := hlt k e; have := (h2 k hk).1; omega) (touchX_g hg (P := fun k => row = some k) (fun k hk => hk)), fun b hb => ⟨(h2 b hb).1, Nat.lt_of_lt_of_le (h2 b hb).2 hg.size⟩⟩

/-- An item as a value, what hangs on it in blocks of our own from B on. -/
structure ItZ (L B d : Nat) (w : World) (x : It) (ab : Option Addr) (nb cb : Nat) (ak : Option Addr) (nk ck : Nat) : Prop where
  it : ItV d (fun b => (b < L ∨ B ≤ b) ∧ b < w.heap.size) w x ab nb cb ak nk ck

theorem ItZ.kept {L : Nat} {B d : Nat} {w w' : World} {x : It} {ab : Option Addr} {nb cb : Nat} {ak : Option Addr} {nk ck : Nat} (h : ItZ L B d w x ab nb cb ak nk ck) (hb : Below w.heap.size w w') : ItZ L B d w' x ab nb cb ak nk ck := ⟨(h.it.kept hb).mono (fun b hs => ⟨hs.1, Nat.lt_of_lt_of_le hs.2 hb.size⟩)⟩

theorem ItZ.touched {L : Nat} {B d gb : Nat} {w w' : World} {x : It} {ab : Option Addr} {nb cb : Nat} {ak : Option Addr} {nk ck : Nat} (h : ItZ L B d w x ab nb cb ak nk ck) (ht : Touch gb (gb + 1) w w') (hlt : L ≤ gb ∧ gb < B) : ItZ L B d w' x ab nb cb ak nk ck := ⟨(h.it.touch (fun b hs e => by have := hs.1; omega) ht.toX).mono (fun b hs => ⟨hs.1, Nat.lt_of_lt_of_le hs.2 ht.size⟩)⟩

theorem ItZ.mono {L : Nat} {B B' d : Nat} {w : World} {x : It} {ab : Option Addr} {nb cb : Nat} {ak : Option Addr} {nk ck : Nat} (h : ItZ L B d w x ab nb cb ak nk ck) (hB : B' ≤ B) : ItZ L B' d w x ab nb cb ak nk ck := ⟨h.it.mono (fun b hs => ⟨by have := hs.1; omega, hs.2⟩)⟩

theorem ItZ.more {L : Nat} {B d : Nat} {w : World} {x : It} {ab : Option Addr} {nb cb : Nat} {ak : Option Addr} {nk ck : Nat} (h : ItZ L B d w x ab nb cb ak nk ck) : ItZ L B (d + 1) w x ab nb cb ak nk ck := ⟨h.it.more⟩

theorem RowG.itz {L : Nat} {B : Nat} {w : World} {g k n : Nat} {bs : List Int} (h : RowG B w g k n bs) (t : Int) (hn : n ≤ 1000) : ItZ L B 1 w (.mk 0 t false bs []) (some ⟨g, k, none⟩) n n none 0 0 := by
  refine ⟨⟨⟨h.row.row, fun x hx h0 => ?_⟩, fun e => (by cases e), by omega, KidsI.none 0 _ _ _⟩⟩
  have e : x.block = g := h.row.lt x hx h0
  rw [e]
  exact ⟨.inr h.ge, h.blk h0⟩

theorem Own.itz {L : Nat} {B : Nat} {w : World} {a : Option Addr} {n c : Nat} {bs : List Int} (h : Own B w a n c bs) (t : Int) (hn : n ≤ 1000) : ItZ L B 1 w (.mk 0 t false bs []) a n c none 0 0 := ⟨(h.itv1 t (by omega)).mono (fun b hs => ⟨.inr hs.1, hs.2⟩)⟩

theorem KidZ.itz {L : Nat} {B : Nat} {w : World} {g d ck : Nat} {ks : List It} (h : KidZ L B w g d ks) (cls tag : Int) : ItZ L B d w (.mk cls tag true [] ks) none 0 0 (some ⟨g, 0, none⟩) ks.length ck := by
  obtain ⟨S, h1, h2⟩ := h
  exact ⟨⟨⟨⟨rfl, fun j hj => absurd hj (Nat.not_lt_zero _), by simp [It.body]⟩, fun x hx => by cases hx⟩, fun _ => rfl, by decide, h1.mono h2⟩⟩

/-- The kids of a list. -/
structure ListZ (L B d : Nat) (w : World) (ao : Option Addr) (n : Nat) (ks : List It) : Prop where
  kids : KidsI d (fun b => (b < L ∨ B ≤ b) ∧ b < w.heap.size) w ao n ks

theorem ListZ.kept {L : Nat} {B d : Nat} {w w' : World} {ao : Option Addr} {n : Nat} {ks : List It} (h : ListZ L B d w ao n ks) (hb : Below w.heap.size w w') : ListZ L B d w' ao n ks := ⟨(h.kids.touch (P := fun _ => False) (fun _ _ h => h) (TouchX.of_below hb)).mono (fun b hs => ⟨hs.1, Nat.lt_of_lt_of_le hs.2 hb.size⟩)⟩

theorem ListZ.touched {L : Nat} {B d gb : Nat} {w w' : World} {ao : Option Addr} {n : Nat} {ks : List It} (h : ListZ L B d w ao n ks) (ht : Touch gb (gb + 1) w w') (hlt : L ≤ gb ∧ gb < B) : ListZ L B d w' ao n ks := ⟨(h.kids.touch (fun b hs e => by have := hs.1; omega) ht.toX).mono (fun b hs => ⟨hs.1, Nat.lt_of_lt_of_le hs.2 ht.size⟩)⟩

theorem ListZ.mono {L : Nat} {B B' d : Nat} {w : World} {ao : Option Addr} {n : Nat} {ks : List It} (h : ListZ L B d w ao n ks) (hB : B' ≤ B) : ListZ L B' d w ao n ks := ⟨h.kids.mono (fun b hs => ⟨by have := hs.1; omega, hs.2⟩)⟩

theorem ListZ.itz {L : Nat} {B d : Nat} {w : World} {ao : Option Addr} {n co : Nat} {ks : List It} (h : ListZ L B d w ao n ks) : ItZ L B d w (lstI ks) none 0 0 ao n co := ⟨⟨⟨⟨rfl, fun j hj => absurd hj (Nat.not_lt_zero _), by simp [lstI, It.body]⟩, fun x hx => by cases hx⟩, fun _ => rfl, by decide, h.kids⟩⟩

theorem kidZ_n2 {L : Nat} {B d : Nat} {X : World} {x1 x2 : It} {a1 : Option Addr} {n1 c1 : Nat} {k1 : Option Addr} {m1 e1 : Nat} {a2 : Option Addr} {n2 c2 : Nat} {k2 : Option Addr} {m2 e2 : Nat} {t : Nat} (hB : B ≤ X.heap.size) (h1 : ItZ L B d X x1 a1 n1 c1 k1 m1 e1) (h2 : ItZ L B d X x2 a2 n2 c2 k2 m2 e2) : KidZ L B (X.alloc (.cells #[.int .i64 x1.cls, .int .i64 x1.tag, .bool x1.cons, .slice a1 n1 c1, .slice k1 m1 e1, .int .i64 x2.cls, .int .i64 x2.tag, .bool x2.cons, .slice a2 n2 c2, .slice k2 m2 e2] t)) X.heap.size (d + 1) [x1, x2] := by
  refine ⟨fun b => (b < L ∨ B ≤ b) ∧ b < X.heap.size + 1, kidsI_n2 (S := fun b => (b < L ∨ B ≤ b) ∧ b < X.heap.size) h1.it h2.it (fun b hb => ⟨hb.1, by have := hb.2; omega⟩) ⟨.inr hB, by omega⟩ rfl, fun b hb => ⟨hb.1, ?_⟩⟩
  have s : (X.alloc (.cells #[.int .i64 x1.cls, .int .i64 x1.tag, .bool x1.cons, .slice a1 n1 c1, .slice k1 m1 e1, .int .i64 x2.cls, .int .i64 x2.tag, .bool x2.cons, .slice a2 n2 c2, .slice k2 m2 e2] t)).heap.size = X.heap.size + 1 := by simp
  have := hb.2
  omega

theorem kidZ_n4 {L : Nat} {B d : Nat} {X : World} {x1 x2 x3 x4 : It} {a1 : Option Addr} {n1 c1 : Nat} {k1 : Option Addr} {m1 e1 : Nat} {a2 : Option Addr} {n2 c2 : Nat} {k2 : Option Addr} {m2 e2 : Nat} {a3 : Option Addr} {n3 c3 : Nat} {k3 : Option Addr} {m3 e3 : Nat} {a4 : Option Addr} {n4 c4 : Nat} {k4 : Option Addr} {m4 e4 : Nat} {t : Nat} (hB : B ≤ X.heap.size) (h1 : ItZ L B d X x1 a1 n1 c1 k1 m1 e1) (h2 : ItZ L B d X x2 a2 n2 c2 k2 m2 e2) (h3 : ItZ L B d X x3 a3 n3 c3 k3 m3 e3) (h4 : ItZ L B d X x4 a4 n4 c4 k4 m4 e4) : KidZ L B (X.alloc (.cells #[.int .i64 x1.cls, .int .i64 x1.tag, .bool x1.cons, .slice a1 n1 c1, .slice k1 m1 e1, .int .i64 x2.cls, .int .i64 x2.tag, .bool x2.cons, .slice a2 n2 c2, .slice k2 m2 e2, .int .i64 x3.cls, .int .i64 x3.tag, .bool x3.cons, .slice a3 n3 c3, .slice k3 m3 e3, .int .i64 x4.cls, .int .i64 x4.tag, .bool x4.cons, .slice a4 n4 c4, .slice k4 m4 e4] t)) X.heap.size (d + 1) [x1, x2, x3, x4] := by
  refine ⟨fun b => (b < L ∨ B ≤ b) ∧ b < X.heap.size + 1, kidsI_n4 (S := fun b => (b < L ∨ B ≤ b) ∧ b < X.heap.size) h1.it h2.it h3.it h4.it (fun b hb => ⟨hb.1, by have := hb.2; omega⟩) ⟨.inr hB, by omega⟩ rfl, fun b hb => ⟨hb.1, ?_⟩⟩
  have s : (X.alloc (.cells #[.int .i64 x1.cls, .int .i64 x1.tag, .bool x1.cons, .slice a1 n1 c1, .slice k1 m1 e1, .int .i64 x2.cls, .int .i64 x2.tag, .bool x2.cons, .slice a2 n2 c2, .slice k2 m2 e2, .int .i64 x3.cls, .int .i64 x3.tag, .bool x3.cons, .slice a3 n3 c3, .slice k3 m3 e3, .int .i64 x4.cls, .int .i64 x4.tag, .bool x4.cons, .slice a4 n4 c4, .slice k4 m4 e4] t)).heap.size = X.heap.size + 1 := by simp
  have := hb.2
  omega

theorem ListZ.grown {L : Nat} {B d : Nat} {w w' : World} {ao : Option Addr} {n : Nat} {ks : List It} {row : Option Nat} (h : ListZ L B d w ao n ks) (hg : w.grownBy w' row) (hlt : ∀ j, row = some j → L ≤ j ∧ j < B) : ListZ L B d w' ao n ks :=
  ⟨(h.kids.touch (fun k hk e => by have := hlt k e; have := hk.1; omega) (touchX_g hg (P := fun k => row = some k) (fun k hk => hk))).mono (fun b hs => ⟨hs.1, Nat.lt_of_lt_of_le hs.2 hg.size⟩)⟩

theorem ItZ.grown {L : Nat} {B d : Nat} {w w' : World} {x : It} {ab : Option Addr} {nb cb : Nat} {ak : Option Addr} {nk ck : Nat} {row : Option Nat} (h : ItZ L B d w x ab nb cb ak nk ck) (hg : w.grownBy w' row) (hlt : ∀ j, row = some j → L ≤ j ∧ j < B) : ItZ L B d w' x ab nb cb ak nk ck :=
  ⟨(h.it.touch (fun k hk e => by have := hlt k e; have := hk.1; omega) (touchX_g hg (P := fun k => row = some k) (fun k hk => hk))).mono (fun b hs => ⟨hs.1, Nat.lt_of_lt_of_le hs.2 hg.size⟩)⟩

theorem KidZ.kidsZ {L : Nat} {B : Nat} {w : World} {g d : Nat} {ks : List It} (h : KidZ L B w g d ks) : Kids d w (some ⟨g, 0, none⟩) ks.length ks := by
  obtain ⟨S, h1, _⟩ := h
  exact KidsI.kids h1

theorem row_itz {L B : Nat} {w : World} {a : Option Addr} {n c : Nat} {bs : List Int} (h : Row w a n bs) (hL : ∀ x, a = some x → 0 < n → x.block < L) (hnil : a = none → c = 0) (t : Int) (hn : n ≤ 9223372036854775807) : ItZ L B 1 w (.mk 0 t false bs []) a n c none 0 0 := by
  refine ⟨⟨⟨h, fun x hx h0 => ?_⟩, hnil, hn, KidsI.none 0 _ _ _⟩⟩
  obtain ⟨b, off, ha, hlt, _⟩ := h.get 0 h0
  refine ⟨.inl (hL x hx h0), ?_⟩
  rw [ha] at hx
  injection hx with hx
  rw [← hx]
  exact hlt

end Go.Proofs.Ytlcojjcgaibbiaa
