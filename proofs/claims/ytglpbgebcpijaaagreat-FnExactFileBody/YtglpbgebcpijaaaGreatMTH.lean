import Derived.Test.YtglpbgebcpijaaaGreatMTB
set_option linter.unusedVariables false
namespace Go.Proofs.YtglpbgebcpijaaaGreat
open Go.RowKit Go.Sort

/-- An item as a value, what hangs on it in blocks of our own from B on. -/
structure ItG (B d : Nat) (w : World) (x : It) (ab : Option Addr) (nb cb : Nat) (ak : Option Addr) (nk ck : Nat) : Prop where
  it : ItV d (fun b => B ≤ b ∧ b < w.heap.size) w x ab nb cb ak nk ck
theorem ItG.kept {B d : Nat} {w w' : World} {x : It} {ab : Option Addr} {nb cb : Nat} {ak : Option Addr} {nk ck : Nat} (h : ItG B d w x ab nb cb ak nk ck) (hb : Below w.heap.size w w') : ItG B d w' x ab nb cb ak nk ck := ⟨(h.it.kept hb).mono (fun b hs => ⟨hs.1, Nat.lt_of_lt_of_le hs.2 hb.size⟩)⟩
theorem ItG.touched {B d gb : Nat} {w w' : World} {x : It} {ab : Option Addr} {nb cb : Nat} {ak : Option Addr} {nk ck : Nat} (h : ItG B d w x ab nb cb ak nk ck) (ht : Touch gb (gb + 1) w w') (hlt : gb < B) : ItG B d w' x ab nb cb ak nk ck := ⟨(h.it.touch (fun b hs e => by have := hs.1; omega) ht.toX).mono (fun b hs => ⟨hs.1, Nat.lt_of_lt_of_le hs.2 ht.size⟩)⟩
theorem ItG.mono {B B' d : Nat} {w : World} {x : It} {ab : Option Addr} {nb cb : Nat} {ak : Option Addr} {nk ck : Nat} (h : ItG B d w x ab nb cb ak nk ck) (hB : B' ≤ B) : ItG B' d w x ab nb cb ak nk ck := ⟨h.it.mono (fun b hs => ⟨Nat.le_trans hB hs.1, hs.2⟩)⟩
theorem ItG.more {B d : Nat} {w : World} {x : It} {ab : Option Addr} {nb cb : Nat} {ak : Option Addr} {nk ck : Nat} (h : ItG B d w x ab nb cb ak nk ck) : ItG B (d + 1) w x ab nb cb ak nk ck := ⟨h.it.more⟩
theorem RowG.itg {B : Nat} {w : World} {g k n : Nat} {bs : List Int} (h : RowG B w g k n bs) (t : Int) (hn : n ≤ 1000) : ItG B 1 w (.mk 0 t false bs []) (some ⟨g, k, none⟩) n n none 0 0 := by
  refine ⟨⟨⟨h.row.row, fun x hx h0 => ?_⟩, fun e => (by cases e), by omega, KidsI.none 0 _ _ _⟩⟩
  have e : x.block = g := h.row.lt x hx h0
  rw [e]
  exact ⟨h.ge, h.blk h0⟩
theorem Own.itg {B : Nat} {w : World} {a : Option Addr} {n c : Nat} {bs : List Int} (h : Own B w a n c bs) (t : Int) (hn : n ≤ 1000) : ItG B 1 w (.mk 0 t false bs []) a n c none 0 0 := ⟨h.itv1 t (by omega)⟩
theorem KidG.itg {B : Nat} {w : World} {g d ck : Nat} {ks : List It} (h : KidG B w g d ks) (cls tag : Int) : ItG B d w (.mk cls tag true [] ks) none 0 0 (some ⟨g, 0, none⟩) ks.length ck := by
  obtain ⟨S, h1, h2⟩ := h
  exact ⟨⟨⟨⟨rfl, fun j hj => absurd hj (Nat.not_lt_zero _), by simp [It.body]⟩, fun x hx => by cases hx⟩, fun _ => rfl, by decide, h1.mono h2⟩⟩
/-- The kids of a list. -/
structure ListH (B d : Nat) (w : World) (ao : Option Addr) (n : Nat) (ks : List It) : Prop where
  kids : KidsI d (fun b => B ≤ b ∧ b < w.heap.size) w ao n ks
theorem ListH.kept {B d : Nat} {w w' : World} {ao : Option Addr} {n : Nat} {ks : List It} (h : ListH B d w ao n ks) (hb : Below w.heap.size w w') : ListH B d w' ao n ks := ⟨(h.kids.touch (P := fun _ => False) (fun _ _ h => h) (TouchX.of_below hb)).mono (fun b hs => ⟨hs.1, Nat.lt_of_lt_of_le hs.2 hb.size⟩)⟩
theorem ListH.touched {B d gb : Nat} {w w' : World} {ao : Option Addr} {n : Nat} {ks : List It} (h : ListH B d w ao n ks) (ht : Touch gb (gb + 1) w w') (hlt : gb < B) : ListH B d w' ao n ks := ⟨(h.kids.touch (fun b hs e => by have := hs.1; omega) ht.toX).mono (fun b hs => ⟨hs.1, Nat.lt_of_lt_of_le hs.2 ht.size⟩)⟩
theorem ListH.mono {B B' d : Nat} {w : World} {ao : Option Addr} {n : Nat} {ks : List It} (h : ListH B d w ao n ks) (hB : B' ≤ B) : ListH B' d w ao n ks := ⟨h.kids.mono (fun b hs => ⟨Nat.le_trans hB hs.1, hs.2⟩)⟩
theorem ListH.itg {B d : Nat} {w : World} {ao : Option Addr} {n co : Nat} {ks : List It} (h : ListH B d w ao n ks) : ItG B d w (lstI ks) none 0 0 ao n co := ⟨⟨⟨⟨rfl, fun j hj => absurd hj (Nat.not_lt_zero _), by simp [lstI, It.body]⟩, fun x hx => by cases hx⟩, fun _ => rfl, by decide, h.kids⟩⟩
theorem kidsI_n2 {d : Nat} {S : Nat → Prop} {X : World} {x1 x2 : It} {a1 : Option Addr} {n1 c1 : Nat} {k1 : Option Addr} {m1 e1 : Nat} {a2 : Option Addr} {n2 c2 : Nat} {k2 : Option Addr} {m2 e2 : Nat} (h1 : ItV d S X x1 a1 n1 c1 k1 m1 e1) (h2 : ItV d S X x2 a2 n2 c2 k2 m2 e2) {T : Nat → Prop} (hs : ∀ b, S b → T b) (hT : T X.heap.size) {W : World} {t : Nat} (hW : W = X.alloc (.cells #[.int .i64 x1.cls, .int .i64 x1.tag, .bool x1.cons, .slice a1 n1 c1, .slice k1 m1 e1, .int .i64 x2.cls, .int .i64 x2.tag, .bool x2.cons, .slice a2 n2 c2, .slice k2 m2 e2] t)) : KidsI (d + 1) T W (some ⟨X.heap.size, 0, none⟩) 2 [x1, x2] := by
  subst hW
  have hb : Below X.heap.size X (X.alloc (.cells #[.int .i64 x1.cls, .int .i64 x1.tag, .bool x1.cons, .slice a1 n1 c1, .slice k1 m1 e1, .int .i64 x2.cls, .int .i64 x2.tag, .bool x2.cons, .slice a2 n2 c2, .slice k2 m2 e2] t)) := (Below.refl _ _).alloc (Nat.le_refl _) _
  have hc := fun j => cell_of_row _ X.heap.size j _ t (0, 0) (heap_alloc_new X (.cells #[.int .i64 x1.cls, .int .i64 x1.tag, .bool x1.cons, .slice a1 n1 c1, .slice k1 m1 e1, .int .i64 x2.cls, .int .i64 x2.tag, .bool x2.cons, .slice a2 n2 c2, .slice k2 m2 e2] t))
  have g1 := (h1.kept hb).mono hs
  have g2 := (h2.kept hb).mono hs
  refine ⟨rfl, by decide, fun k hk => ⟨X.heap.size, 0, rfl, by simp, hT, ?_⟩⟩
  rcases (show k = 0 ∨ k = 1 by omega) with rfl | rfl
  · exact ⟨a1, n1, c1, k1, m1, e1, (hc 0).trans rfl, (hc 1).trans rfl, (hc 2).trans rfl, (hc 3).trans rfl, (hc 4).trans rfl, g1.row, g1.nil, g1.max, g1.kids⟩
  · exact ⟨a2, n2, c2, k2, m2, e2, (hc 5).trans rfl, (hc 6).trans rfl, (hc 7).trans rfl, (hc 8).trans rfl, (hc 9).trans rfl, g2.row, g2.nil, g2.max, g2.kids⟩
theorem kidG_n2 {B d : Nat} {X : World} {x1 x2 : It} {a1 : Option Addr} {n1 c1 : Nat} {k1 : Option Addr} {m1 e1 : Nat} {a2 : Option Addr} {n2 c2 : Nat} {k2 : Option Addr} {m2 e2 : Nat} {t : Nat} (hB : B ≤ X.heap.size) (h1 : ItG B d X x1 a1 n1 c1 k1 m1 e1) (h2 : ItG B d X x2 a2 n2 c2 k2 m2 e2) : KidG B (X.alloc (.cells #[.int .i64 x1.cls, .int .i64 x1.tag, .bool x1.cons, .slice a1 n1 c1, .slice k1 m1 e1, .int .i64 x2.cls, .int .i64 x2.tag, .bool x2.cons, .slice a2 n2 c2, .slice k2 m2 e2] t)) X.heap.size (d + 1) [x1, x2] := by
  refine ⟨fun b => B ≤ b ∧ b < X.heap.size + 1, kidsI_n2 (S := fun b => B ≤ b ∧ b < X.heap.size) h1.it h2.it (fun b hb => ⟨hb.1, by have := hb.2; omega⟩) ⟨hB, by omega⟩ rfl, fun b hb => ⟨hb.1, ?_⟩⟩
  have s : (X.alloc (.cells #[.int .i64 x1.cls, .int .i64 x1.tag, .bool x1.cons, .slice a1 n1 c1, .slice k1 m1 e1, .int .i64 x2.cls, .int .i64 x2.tag, .bool x2.cons, .slice a2 n2 c2, .slice k2 m2 e2] t)).heap.size = X.heap.size + 1 := by simp
  have := hb.2
  omega
theorem kidsI_n3 {d : Nat} {S : Nat → Prop} {X : World} {x1 x2 x3 : It} {a1 : Option Addr} {n1 c1 : Nat} {k1 : Option Addr} {m1 e1 : Nat} {a2 : Option Addr} {n2 c2 : Nat} {k2 : Option Addr} {m2 e2 : Nat} {a3 : Option Addr} {n3 c3 : Nat} {k3 : Option Addr} {m3 e3 : Nat} (h1 : ItV d S X x1 a1 n1 c1 k1 m1 e1) (h2 : ItV d S X x2 a2 n2 c2 k2 m2 e2) (h3 : ItV d S X x3 a3 n3 c3 k3 m3 e3) {T : Nat → Prop} (hs : ∀ b, S b → T b) (hT : T X.heap.size) {W : World} {t : Nat} (hW : W = X.alloc (.cells #[.int .i64 x1.cls, .int .i64 x1.tag, .bool x1.cons, .slice a1 n1 c1, .slice k1 m1 e1, .int .i64 x2.cls, .int .i64 x2.tag, .bool x2.cons, .slice a2 n2 c2, .slice k2 m2 e2, .int .i64 x3.cls, .int .i64 x3.tag, .bool x3.cons, .slice a3 n3 c3, .slice k3 m3 e3] t)) : KidsI (d + 1) T W (some ⟨X.heap.size, 0, none⟩) 3 [x1, x2, x3] := by
  subst hW
  have hb : Below X.heap.size X (X.alloc (.cells #[.int .i64 x1.cls, .int .i64 x1.tag, .bool x1.cons, .slice a1 n1 c1, .slice k1 m1 e1, .int .i64 x2.cls, .int .i64 x2.tag, .bool x2.cons, .slice a2 n2 c2, .slice k2 m2 e2, .int .i64 x3.cls, .int .i64 x3.tag, .bool x3.cons, .slice a3 n3 c3, .slice k3 m3 e3] t)) := (Below.refl _ _).alloc (Nat.le_refl _) _
  have hc := fun j => cell_of_row _ X.heap.size j _ t (0, 0) (heap_alloc_new X (.cells #[.int .i64 x1.cls, .int .i64 x1.tag, .bool x1.cons, .slice a1 n1 c1, .slice k1 m1 e1, .int .i64 x2.cls, .int .i64 x2.tag, .bool x2.cons, .slice a2 n2 c2, .slice k2 m2 e2, .int .i64 x3.cls, .int .i64 x3.tag, .bool x3.cons, .slice a3 n3 c3, .slice k3 m3 e3] t))
  have g1 := (h1.kept hb).mono hs
  have g2 := (h2.kept hb).mono hs
  have g3 := (h3.kept hb).mono hs
  refine ⟨rfl, by decide, fun k hk => ⟨X.heap.size, 0, rfl, by simp, hT, ?_⟩⟩
  rcases (show k = 0 ∨ k = 1 ∨ k = 2 by omega) with rfl | rfl | rfl
  · exact ⟨a1, n1, c1, k1, m1, e1, (hc 0).trans rfl, (hc 1).trans rfl, (hc 2).trans rfl, (hc 3).trans rfl, (hc 4).trans rfl, g1.row, g1.nil, g1.max, g1.kids⟩
  · exact ⟨a2, n2, c2, k2, m2, e2, (hc 5).trans rfl, (hc 6).trans rfl, (hc 7).trans rfl, (hc 8).trans rfl, (hc 9).trans rfl, g2.row, g2.nil, g2.max, g2.kids⟩
  · exact ⟨a3, n3, c3, k3, m3, e3, (hc 10).trans rfl, (hc 11).trans rfl, (hc 12).trans rfl, (hc 13).trans rfl, (hc 14).trans rfl, g3.row, g3.nil, g3.max, g3.kids⟩
theorem kidG_n3 {B d : Nat} {X : World} {x1 x2 x3 : It} {a1 : Option Addr} {n1 c1 : Nat} {k1 : Option Addr} {m1 e1 : Nat} {a2 : Option Addr} {n2 c2 : Nat} {k2 : Option Addr} {m2 e2 : Nat} {a3 : Option Addr} {n3 c3 : Nat} {k3 : Option Addr} {m3 e3 : Nat} {t : Nat} (hB : B ≤ X.heap.size) (h1 : ItG B d X x1 a1 n1 c1 k1 m1 e1) (h2 : ItG B d X x2 a2 n2 c2 k2 m2 e2) (h3 : ItG B d X x3 a3 n3 c3 k3 m3 e3) : KidG B (X.alloc (.cells #[.int .i64 x1.cls, .int .i64 x1.tag, .bool x1.cons, .slice a1 n1 c1, .slice k1 m1 e1, .int .i64 x2.cls, .int .i64 x2.tag, .bool x2.cons, .slice a2 n2 c2, .slice k2 m2 e2, .int .i64 x3.cls, .int .i64 x3.tag, .bool x3.cons, .slice a3 n3 c3, .slice k3 m3 e3] t)) X.heap.size (d + 1) [x1, x2, x3] := by
  refine ⟨fun b => B ≤ b ∧ b < X.heap.size + 1, kidsI_n3 (S := fun b => B ≤ b ∧ b < X.heap.size) h1.it h2.it h3.it (fun b hb => ⟨hb.1, by have := hb.2; omega⟩) ⟨hB, by omega⟩ rfl, fun b hb => ⟨hb.1, ?_⟩⟩
  have s : (X.alloc (.cells #[.int .i64 x1.cls, .int .i64 x1.tag, .bool x1.cons, .slice a1 n1 c1, .slice k1 m1 e1, .int .i64 x2.cls, .int .i64 x2.tag, .bool x2.cons, .slice a2 n2 c2, .slice k2 m2 e2, .int .i64 x3.cls, .int .i64 x3.tag, .bool x3.cons, .slice a3 n3 c3, .slice k3 m3 e3] t)).heap.size = X.heap.size + 1 := by simp
  have := hb.2
  omega
theorem kidsI_n4 {d : Nat} {S : Nat → Prop} {X : World} {x1 x2 x3 x4 : It} {a1 : Option Addr} {n1 c1 : Nat} {k1 : Option Addr} {m1 e1 : Nat} {a2 : Option Addr} {n2 c2 : Nat} {k2 : Option Addr} {m2 e2 : Nat} {a3 : Option Addr} {n3 c3 : Nat} {k3 : Option Addr} {m3 e3 : Nat} {a4 : Option Addr} {n4 c4 : Nat} {k4 : Option Addr} {m4 e4 : Nat} (h1 : ItV d S X x1 a1 n1 c1 k1 m1 e1) (h2 : ItV d S X x2 a2 n2 c2 k2 m2 e2) (h3 : ItV d S X x3 a3 n3 c3 k3 m3 e3) (h4 : ItV d S X x4 a4 n4 c4 k4 m4 e4) {T : Nat → Prop} (hs : ∀ b, S b → T b) (hT : T X.heap.size) {W : World} {t : Nat} (hW : W = X.alloc (.cells #[.int .i64 x1.cls, .int .i64 x1.tag, .bool x1.cons, .slice a1 n1 c1, .slice k1 m1 e1, .int .i64 x2.cls, .int .i64 x2.tag, .bool x2.cons, .slice a2 n2 c2, .slice k2 m2 e2, .int .i64 x3.cls, .int .i64 x3.tag, .bool x3.cons, .slice a3 n3 c3, .slice k3 m3 e3, .int .i64 x4.cls, .int .i64 x4.tag, .bool x4.cons, .slice a4 n4 c4, .slice k4 m4 e4] t)) : KidsI (d + 1) T W (some ⟨X.heap.size, 0, none⟩) 4 [x1, x2, x3, x4] := by
  subst hW
  have hb : Below X.heap.size X (X.alloc (.cells #[.int .i64 x1.cls, .int .i64 x1.tag, .bool x1.cons, .slice a1 n1 c1, .slice k1 m1 e1, .int .i64 x2.cls, .int .i64 x2.tag, .bool x2.cons, .slice a2 n2 c2, .slice k2 m2 e2, .int .i64 x3.cls, .int .i64 x3.tag, .bool x3.cons, .slice a3 n3 c3, .slice k3 m3 e3, .int .i64 x4.cls, .int .i64 x4.tag, .bool x4.cons, .slice a4 n4 c4, .slice k4 m4 e4] t)) := (Below.refl _ _).alloc (Nat.le_refl _) _
  have hc := fun j => cell_of_row _ X.heap.size j _ t (0, 0) (heap_alloc_new X (.cells #[.int .i64 x1.cls, .int .i64 x1.tag, .bool x1.cons, .slice a1 n1 c1, .slice k1 m1 e1, .int .i64 x2.cls, .int .i64 x2.tag, .bool x2.cons, .slice a2 n2 c2, .slice k2 m2 e2, .int .i64 x3.cls, .int .i64 x3.tag, .bool x3.cons, .slice a3 n3 c3, .slice k3 m3 e3, .int .i64 x4.cls, .int .i64 x4.tag, .bool x4.cons, .slice a4 n4 c4, .slice k4 m4 e4] t))
  have g1 := (h1.kept hb).mono hs
  have g2 := (h2.kept hb).mono hs
  have g3 := (h3.kept hb).mono hs
  have g4 := (h4.kept hb).mono hs
  refine ⟨rfl, by decide, fun k hk => ⟨X.heap.size, 0, rfl, by simp, hT, ?_⟩⟩
  rcases (show k = 0 ∨ k = 1 ∨ k = 2 ∨ k = 3 by omega) with rfl | rfl | rfl | rfl
  · exact ⟨a1, n1, c1, k1, m1, e1, (hc 0).trans rfl, (hc 1).trans rfl, (hc 2).trans rfl, (hc 3).trans rfl, (hc 4).trans rfl, g1.row, g1.nil, g1.max, g1.kids⟩
  · exact ⟨a2, n2, c2, k2, m2, e2, (hc 5).trans rfl, (hc 6).trans rfl, (hc 7).trans rfl, (hc 8).trans rfl, (hc 9).trans rfl, g2.row, g2.nil, g2.max, g2.kids⟩
  · exact ⟨a3, n3, c3, k3, m3, e3, (hc 10).trans rfl, (hc 11).trans rfl, (hc 12).trans rfl, (hc 13).trans rfl, (hc 14).trans rfl, g3.row, g3.nil, g3.max, g3.kids⟩
  · exact ⟨a4, n4, c4, k4, m4, e4, (hc 15).trans rfl, (hc 16).trans rfl, (hc 17).trans rfl, (hc 18).trans rfl, (hc 19).trans rfl, g4.row, g4.nil, g4.max, g4.kids⟩
theorem kidG_n4 {B d : Nat} {X : World} {x1 x2 x3 x4 : It} {a1 : Option Addr} {n1 c1 : Nat} {k1 : Option Addr} {m1 e1 : Nat} {a2 : Option Addr} {n2 c2 : Nat} {k2 : Option Addr} {m2 e2 : Nat} {a3 : Option Addr} {n3 c3 : Nat} {k3 : Option Addr} {m3 e3 : Nat} {a4 : Option Addr} {n4 c4 : Nat} {k4 : Option Addr} {m4 e4 : Nat} {t : Nat} (hB : B ≤ X.heap.size) (h1 : ItG B d X x1 a1 n1 c1 k1 m1 e1) (h2 : ItG B d X x2 a2 n2 c2 k2 m2 e2) (h3 : ItG B d X x3 a3 n3 c3 k3 m3 e3) (h4 : ItG B d X x4 a4 n4 c4 k4 m4 e4) : KidG B (X.alloc (.cells #[.int .i64 x1.cls, .int .i64 x1.tag, .bool x1.cons, .slice a1 n1 c1, .slice k1 m1 e1, .int .i64 x2.cls, .int .i64 x2.tag, .bool x2.cons, .slice a2 n2 c2, .slice k2 m2 e2, .int .i64 x3.cls, .int .i64 x3.tag, .bool x3.cons, .slice a3 n3 c3, .slice k3 m3 e3, .int .i64 x4.cls, .int .i64 x4.tag, .bool x4.cons, .slice a4 n4 c4, .slice k4 m4 e4] t)) X.heap.size (d + 1) [x1, x2, x3, x4] := by
  refine ⟨fun b => B ≤ b ∧ b < X.heap.size + 1, kidsI_n4 (S := fun b => B ≤ b ∧ b < X.heap.size) h1.it h2.it h3.it h4.it (fun b hb => ⟨hb.1, by have := hb.2; omega⟩) ⟨hB, by omega⟩ rfl, fun b hb => ⟨hb.1, ?_⟩⟩
  have s : (X.alloc (.cells #[.int .i64 x1.cls, .int .i64 x1.tag, .bool x1.cons, .slice a1 n1 c1, .slice k1 m1 e1, .int .i64 x2.cls, .int .i64 x2.tag, .bool x2.cons, .slice a2 n2 c2, .slice k2 m2 e2, .int .i64 x3.cls, .int .i64 x3.tag, .bool x3.cons, .slice a3 n3 c3, .slice k3 m3 e3, .int .i64 x4.cls, .int .i64 x4.tag, .bool x4.cons, .slice a4 n4 c4, .slice k4 m4 e4] t)).heap.size = X.heap.size + 1 := by simp
  have := hb.2
  omega
/-- A key, a role, the body of a root, of a stamp. -/
def pbI (p : Int × Int × Int) : It := strI [numI p.1, bytI (eightI p.2.1), numI p.2.2]
def roI (x : RoP) : It := strI [lstI (x.ks.map pbI), numI x.need]
def W64 (n : Int) : Prop := -9223372036854775808 ≤ n ∧ n ≤ 9223372036854775807
def PbW (ks : List (Int × Int × Int)) : Prop := ∀ k, W64 (ks.getD k (0, 0, 0)).1 ∧ W64 (ks.getD k (0, 0, 0)).2.2
/-- What is known of a region (RJ). -/
def th1 (y : Int × Int × Int) (R G B : Nat) : RSpec where
  m := 12
  n := 14
  slots := [3, 4, 5, 6, 7, 8, 9, 10, 11, 12, 13, 100011, 100012, 100013]
  kills := [[], [], [], [], [], [], [], [], [], [], [], [], [], [11]]
  pres := [[], [], [], [], [], [], [], [], [], [], [], [], [], []]
  fact := fun k v w => match k with
    | 0 => v = .pointer (some ⟨G, 0, none⟩)
    | 1 => v = .int .i64 y.1
    | 2 => ∃ g1 k1, v = .agg #[.int .i64 0, .int .i64 2, .bool false, .slice (some ⟨g1, k1, none⟩) (wsz y.1) (wsz y.1), .slice none 0 0] ∧ ItG R 1 w (numI y.1) (some ⟨g1, k1, none⟩) (wsz y.1) (wsz y.1) none 0 0 ∧ G + 1 < R
    | 3 => v = .pointer (some ⟨G, 1, none⟩)
    | 4 => v = .int .u64 y.2.1
    | 5 => ∃ g2, v = .agg #[.int .i64 0, .int .i64 4, .bool false, .slice (some ⟨g2, 0, none⟩) 8 8, .slice none 0 0] ∧ ItG R 1 w (bytI (eightI y.2.1)) (some ⟨g2, 0, none⟩) 8 8 none 0 0 ∧ G + 1 < R
    | 6 => v = .pointer (some ⟨G, 2, none⟩)
    | 7 => v = .int .i64 y.2.2
    | 8 => ∃ g3 k3, v = .agg #[.int .i64 0, .int .i64 2, .bool false, .slice (some ⟨g3, k3, none⟩) (wsz y.2.2) (wsz y.2.2), .slice none 0 0] ∧ ItG R 1 w (numI y.2.2) (some ⟨g3, k3, none⟩) (wsz y.2.2) (wsz y.2.2) none 0 0 ∧ G + 1 < R
    | 9 => ∃ gr, v = .slice (some ⟨gr, 0, none⟩) 3 3 ∧ KidG R w gr 2 [numI y.1, bytI (eightI y.2.1), numI y.2.2] ∧ G + 1 < R
    | 10 => ∃ gr, v = .agg #[.int .i64 0, .int .i64 16, .bool true, .slice none 0 0, .slice (some ⟨gr, 0, none⟩) 3 3] ∧ KidG R w gr 2 [numI y.1, bytI (eightI y.2.1), numI y.2.2] ∧ G + 1 < R
    | 11 => ∃ gr, w.heap[(G + 1)]? = some (.cells #[.int .i64 0, .int .i64 16, .bool true, .slice none 0 0, .slice (some ⟨gr, 0, none⟩) 3 3] 117 (0, 0)) ∧ KidG R w gr 2 [numI y.1, bytI (eightI y.2.1), numI y.2.2] ∧ G + 1 < R
    | 12 => w.heap[G]? = some (.cells #[.int .i64 y.1, .int .u64 y.2.1, .int .i64 y.2.2] 120 (0, 0))
    | _ => w.heap[(G + 1)]? = some (.cells #[.int .i64 0, .int .i64 0, .bool false, .slice none 0 0, .slice none 0 0] 117 (0, 0))
set_option linter.unusedVariables false in
theorem th1_stb (y : Int × Int × Int) (R G B : Nat) (k : Nat) (hk : k < 14) : StB ((th1 y R G (B)).fact k) := by
  match k, hk with
  | 0, _ => exact fun _ _ _ h _ => h
  | 1, _ => exact fun _ _ _ h _ => h
  | 2, _ => exact fun _ _ _ ⟨g1, k1, hv, q_0, q_1⟩ hb => ⟨g1, k1, hv, q_0.kept hb, q_1⟩
  | 3, _ => exact fun _ _ _ h _ => h
  | 4, _ => exact fun _ _ _ h _ => h
  | 5, _ => exact fun _ _ _ ⟨g2, hv, q_0, q_1⟩ hb => ⟨g2, hv, q_0.kept hb, q_1⟩
  | 6, _ => exact fun _ _ _ h _ => h
  | 7, _ => exact fun _ _ _ h _ => h
  | 8, _ => exact fun _ _ _ ⟨g3, k3, hv, q_0, q_1⟩ hb => ⟨g3, k3, hv, q_0.kept hb, q_1⟩
  | 9, _ => exact fun _ _ _ ⟨gr, hv, q_0, q_1⟩ hb => ⟨gr, hv, q_0.kept hb, q_1⟩
  | 10, _ => exact fun _ _ _ ⟨gr, hv, q_0, q_1⟩ hb => ⟨gr, hv, q_0.kept hb, q_1⟩
  | 11, _ => exact fun _ _ _ ⟨gr, q_0, q_1, q_2⟩ hb => ⟨gr, below_kept q_0 hb, q_1.kept hb, q_2⟩
  | 12, _ => exact fun _ _ _ q_0 hb => below_kept q_0 hb
  | 13, _ => exact fun _ _ _ q_0 hb => below_kept q_0 hb
  | k + 14, hk => omega
set_option linter.unusedVariables false in
theorem th1_st11 (y : Int × Int × Int) (R G B : Nat) {W W2 : World} {cs : Array Value} {fr : Nat × Nat} (hg : W.heap[(G + 1)]? = some (.cells cs 117 fr)) (ht : Touch ((G + 1)) ((G + 1) + 1) W W2) (k : Nat) (hk : k < 14) (hne : k ≠ 11) (hkill : 11 ∉ (th1 y R G (B)).kill k) (v : Value) (hfact : (th1 y R G (B)).fact k v W) : (th1 y R G (B)).fact k v W2 := by
  match k, hk, hne, hkill, hfact with
  | 0, _, _, _, hq => exact hq
  | 1, _, _, _, hq => exact hq
  | 2, _, _, _, ⟨g1, k1, hv, q_0, q_1⟩ => exact ⟨g1, k1, hv, q_0.touched ht (by omega), q_1⟩
  | 3, _, _, _, hq => exact hq
  | 4, _, _, _, hq => exact hq
  | 5, _, _, _, ⟨g2, hv, q_0, q_1⟩ => exact ⟨g2, hv, q_0.touched ht (by omega), q_1⟩
  | 6, _, _, _, hq => exact hq
  | 7, _, _, _, hq => exact hq
  | 8, _, _, _, ⟨g3, k3, hv, q_0, q_1⟩ => exact ⟨g3, k3, hv, q_0.touched ht (by omega), q_1⟩
  | 9, _, _, _, ⟨gr, hv, q_0, q_1⟩ => exact ⟨gr, hv, q_0.touched ht (by omega), q_1⟩
  | 10, _, _, _, ⟨gr, hv, q_0, q_1⟩ => exact ⟨gr, hv, q_0.touched ht (by omega), q_1⟩
  | 11, _, hne, _, _ => exact absurd rfl hne
  | 12, _, _, _, q_0 => exact box_box q_0 hg (by decide) ht
  | 13, _, _, hkill, _ => exact absurd (List.Mem.head _) hkill
  | k + 14, hk, _, _, _ => omega

set_option maxRecDepth 10000 in
set_option maxHeartbeats 4000000 in
theorem pubItem_any (y : Int × Int × Int) (w : World) (hu : U64 y.2.1) (h1 : W64 y.1) (h3 : W64 y.2.2) :
    Calls Tryz.prog 167 #[.agg #[.int .i64 y.1, .int .u64 y.2.1, .int .i64 y.2.2]] w fun e w' => ∃ gr, e = .returned (.agg #[.int .i64 0, .int .i64 16, .bool true, .slice none 0 0, .slice (some ⟨gr, 0, none⟩) 3 3]) ∧ KidG w.heap.size w' gr 2 [numI y.1, bytI (eightI y.2.1), numI y.2.2] ∧ Below w.heap.size w w' := by
  obtain ⟨w1, hw1⟩ : ∃ w1, w1 = (w.alloc (.cells #[.int .i64 y.1, .int .u64 y.2.1, .int .i64 y.2.2] 120)).alloc (.cells #[.int .i64 0, .int .i64 0, .bool false, .slice none 0 0, .slice none 0 0] 117) := ⟨_, rfl⟩
  have hbb : Below w.heap.size w w1 := by rw [hw1]; exact ((Below.refl _ _).alloc (Nat.le_refl _) _).alloc (by simp) _
  have HB1 : Hid (_ ∧ _) := two_blocks w (.cells #[.int .i64 y.1, .int .u64 y.2.1, .int .i64 y.2.2] 120) (.cells #[.int .i64 0, .int .i64 0, .bool false, .slice none 0 0, .slice none 0 0] 117)
  rw [← hw1] at HB1
  have hsz : w1.heap.size = w.heap.size + 2 := by rw [hw1]; simp
  have HGB : w.heap.size + 1 < w1.heap.size := by omega
  have HBB : w.heap.size ≤ w1.heap.size := hbb.size
  have HW : Hid (_ = _) := hw1
  clear hw1
  go_enter Tryz.func167, Tryz.ntmps167
  go_upto_region 1 with fail
  rw [← HW.out]
  clear HW
  refine wp_region_ri (th1 y w1.heap.size w.heap.size (w.heap.size)) [3, 4, 5, 6, 7, 8, 9, 10, 11, 12, 13] (w.heap.size) (fun a0 => a0.tmps.size = 14 ∧ aT a0 1 = .pointer (some ⟨w.heap.size, 0, none⟩) ∧ aT a0 2 = .pointer (some ⟨(w.heap.size + 1), 0, none⟩)) (by kernel_rfl) rfl (by kernel_rfl) rfl ⟨rfl, rfl, rfl⟩ (th1_stb y w1.heap.size w.heap.size (w.heap.size)) ?_ ?_ ?_
  · intro k hk hk2
    match k, hk, hk2 with
    | 12, _, _ => exact HB1.out.1
    | 13, _, _ => exact HB1.out.2
    | 0, hk, _ => exact absurd hk (by show ¬ (12 ≤ 0); omega)
    | 1, hk, _ => exact absurd hk (by show ¬ (12 ≤ 1); omega)
    | 2, hk, _ => exact absurd hk (by show ¬ (12 ≤ 2); omega)
    | 3, hk, _ => exact absurd hk (by show ¬ (12 ≤ 3); omega)
    | 4, hk, _ => exact absurd hk (by show ¬ (12 ≤ 4); omega)
    | 5, hk, _ => exact absurd hk (by show ¬ (12 ≤ 5); omega)
    | 6, hk, _ => exact absurd hk (by show ¬ (12 ≤ 6); omega)
    | 7, hk, _ => exact absurd hk (by show ¬ (12 ≤ 7); omega)
    | 8, hk, _ => exact absurd hk (by show ¬ (12 ≤ 8); omega)
    | 9, hk, _ => exact absurd hk (by show ¬ (12 ≤ 9); omega)
    | 10, hk, _ => exact absurd hk (by show ¬ (12 ≤ 10); omega)
    | 11, hk, _ => exact absurd hk (by show ¬ (12 ≤ 11); omega)
    | k + 14, _, hk2 => exact absurd hk2 (by show ¬ (k + 14 < 14); omega)
  · rintro a0 ⟨hz, g1, g2⟩
    refine StepsRI.cons ?_ (StepsRI.cons ?_ (StepsRI.cons ?_ (StepsRI.cons ?_ (StepsRI.cons ?_ (StepsRI.cons ?_ (StepsRI.cons ?_ (StepsRI.cons ?_ (StepsRI.cons ?_ (StepsRI.cons ?_ (StepsRI.cons ?_ (StepsRI.cons ?_ (StepsRI.nil))))))))))))
    · intro lQ b W hI hUN hED KQ hKQ
      exact opw_field 120 1 0 rfl _ ((hI.fr.same 1 (by decide)).trans g1) _ (by kernel_rfl) (hKQ.out _ _ (hI.put 0 3 rfl rfl (by rw [hz]; decide) rfl hUN rfl HBB (th1_stb y w1.heap.size w.heap.size (w.heap.size)) (Below.refl _ _) rfl))
    · intro lQ b W hI hUN hED KQ hKQ
      have f := hI.got 0 (of_decide_eq_true rfl) (edge hED 0 (by kernel_rfl)) rfl
      have hg := (hI.vot 12 (of_decide_eq_true rfl) (of_decide_eq_true rfl) rfl)
      have hc : W.cell? ⟨w.heap.size, 0, none⟩ = some (.int .i64 y.1) := (cell_of_row _ _ 0 _ _ (0, 0) hg).trans rfl
      exact opw_load1 2 3 rfl _ f _ (by simp [Instr.loadAt, go_sem, hc]) (hKQ.out _ _ (hI.put 1 4 rfl rfl (by rw [hz]; decide) rfl hUN rfl HBB (th1_stb y w1.heap.size w.heap.size (w.heap.size)) (Below.refl _ _) rfl))
    · intro lQ b W hI hUN hED KQ hKQ
      have f0 := hI.got 1 (of_decide_eq_true rfl) (edge hED 1 (by kernel_rfl)) rfl
      replace f0 : aT b 4 = .int .i64 y.1 := f0
      refine opw_call 128 #[.tmp 4] _ _ _ rfl Tryz.func128 (by kernel_rfl) rfl #[.int .i64 y.1] (by simp [ev, f0]) ?_
      refine (numberItem_agg y.1 W h1.1 h1.2).mono ?_
      rintro e W2 ⟨g1, k1, rfl, hge, hr, hb⟩
      exact ⟨_, rfl, hKQ.out _ _ (hI.put 2 5 rfl rfl (by rw [hz]; decide) rfl hUN rfl HBB (th1_stb y w1.heap.size w.heap.size (w.heap.size)) hb ⟨g1, k1, rfl, RowG.itg ⟨Nat.le_trans hI.bel.size hge, hr.atG⟩ 2 (by have := wsz_bd y.1; omega), HGB⟩)⟩
    · intro lQ b W hI hUN hED KQ hKQ
      exact opw_field 120 1 1 rfl _ ((hI.fr.same 1 (by decide)).trans g1) _ (by kernel_rfl) (hKQ.out _ _ (hI.put 3 6 rfl rfl (by rw [hz]; decide) rfl hUN rfl HBB (th1_stb y w1.heap.size w.heap.size (w.heap.size)) (Below.refl _ _) rfl))
    · intro lQ b W hI hUN hED KQ hKQ
      have f := hI.got 3 (of_decide_eq_true rfl) (edge hED 3 (by kernel_rfl)) rfl
      have hg := (hI.vot 12 (of_decide_eq_true rfl) (of_decide_eq_true rfl) rfl)
      have hc : W.cell? ⟨w.heap.size, 1, none⟩ = some (.int .u64 y.2.1) := (cell_of_row _ _ 1 _ _ (0, 0) hg).trans rfl
      exact opw_load1 26 6 rfl _ f _ (by simp [Instr.loadAt, go_sem, hc]) (hKQ.out _ _ (hI.put 4 7 rfl rfl (by rw [hz]; decide) rfl hUN rfl HBB (th1_stb y w1.heap.size w.heap.size (w.heap.size)) (Below.refl _ _) rfl))
    · intro lQ b W hI hUN hED KQ hKQ
      have f0 := hI.got 4 (of_decide_eq_true rfl) (edge hED 4 (by kernel_rfl)) rfl
      replace f0 : aT b 7 = .int .u64 y.2.1 := f0
      refine opw_call 133 #[.tmp 7] _ _ _ rfl Tryz.func133 (by kernel_rfl) rfl #[.int .u64 y.2.1] (by simp [ev, f0]) ?_
      refine (digestItem_agg y.2.1 W hu.1 hu.2).mono ?_
      rintro e W2 ⟨g2, rfl, hge, hr, hb⟩
      exact ⟨_, rfl, hKQ.out _ _ (hI.put 5 8 rfl rfl (by rw [hz]; decide) rfl hUN rfl HBB (th1_stb y w1.heap.size w.heap.size (w.heap.size)) hb ⟨g2, rfl, RowG.itg ⟨Nat.le_trans hI.bel.size hge, hr.atG⟩ 4 (by decide), HGB⟩)⟩
    · intro lQ b W hI hUN hED KQ hKQ
      exact opw_field 120 1 2 rfl _ ((hI.fr.same 1 (by decide)).trans g1) _ (by kernel_rfl) (hKQ.out _ _ (hI.put 6 9 rfl rfl (by rw [hz]; decide) rfl hUN rfl HBB (th1_stb y w1.heap.size w.heap.size (w.heap.size)) (Below.refl _ _) rfl))
    · intro lQ b W hI hUN hED KQ hKQ
      have f := hI.got 6 (of_decide_eq_true rfl) (edge hED 6 (by kernel_rfl)) rfl
      have hg := (hI.vot 12 (of_decide_eq_true rfl) (of_decide_eq_true rfl) rfl)
      have hc : W.cell? ⟨w.heap.size, 2, none⟩ = some (.int .i64 y.2.2) := (cell_of_row _ _ 2 _ _ (0, 0) hg).trans rfl
      exact opw_load1 2 9 rfl _ f _ (by simp [Instr.loadAt, go_sem, hc]) (hKQ.out _ _ (hI.put 7 10 rfl rfl (by rw [hz]; decide) rfl hUN rfl HBB (th1_stb y w1.heap.size w.heap.size (w.heap.size)) (Below.refl _ _) rfl))
    · intro lQ b W hI hUN hED KQ hKQ
      have f0 := hI.got 7 (of_decide_eq_true rfl) (edge hED 7 (by kernel_rfl)) rfl
      replace f0 : aT b 10 = .int .i64 y.2.2 := f0
      refine opw_call 128 #[.tmp 10] _ _ _ rfl Tryz.func128 (by kernel_rfl) rfl #[.int .i64 y.2.2] (by simp [ev, f0]) ?_
      refine (numberItem_agg y.2.2 W h3.1 h3.2).mono ?_
      rintro e W2 ⟨g3, k3, rfl, hge, hr, hb⟩
      exact ⟨_, rfl, hKQ.out _ _ (hI.put 8 11 rfl rfl (by rw [hz]; decide) rfl hUN rfl HBB (th1_stb y w1.heap.size w.heap.size (w.heap.size)) hb ⟨g3, k3, rfl, RowG.itg ⟨Nat.le_trans hI.bel.size hge, hr.atG⟩ 2 (by have := wsz_bd y.2.2; omega), HGB⟩)⟩
    · intro lQ b W hI hUN hED KQ hKQ
      obtain ⟨g1, k1, f0, o0, _⟩ := hI.got 2 (of_decide_eq_true rfl) (edge hED 2 (by kernel_rfl)) rfl
      obtain ⟨g2, f1, o1, _⟩ := hI.got 5 (of_decide_eq_true rfl) (edge hED 5 (by kernel_rfl)) rfl
      obtain ⟨g3, k3, f2, o2, _⟩ := hI.got 8 (of_decide_eq_true rfl) (edge hED 8 (by kernel_rfl)) rfl
      replace f0 : aT b 5 = .agg #[.int .i64 0, .int .i64 2, .bool false, .slice (some ⟨g1, k1, none⟩) (wsz y.1) (wsz y.1), .slice none 0 0] := f0
      replace f1 : aT b 8 = .agg #[.int .i64 0, .int .i64 4, .bool false, .slice (some ⟨g2, 0, none⟩) 8 8, .slice none 0 0] := f1
      replace f2 : aT b 11 = .agg #[.int .i64 0, .int .i64 2, .bool false, .slice (some ⟨g3, k3, none⟩) (wsz y.2.2) (wsz y.2.2), .slice none 0 0] := f2
      refine opw_buildSliceT _ 3 _ rfl #[(0, .agg #[.int .i64 0, .int .i64 2, .bool false, .slice (some ⟨g1, k1, none⟩) (wsz y.1) (wsz y.1), .slice none 0 0]), (1, .agg #[.int .i64 0, .int .i64 4, .bool false, .slice (some ⟨g2, 0, none⟩) 8 8, .slice none 0 0]), (2, .agg #[.int .i64 0, .int .i64 2, .bool false, .slice (some ⟨g3, k3, none⟩) (wsz y.2.2) (wsz y.2.2), .slice none 0 0])] (by simp [ev, f0, f1, f2]) (.slice (some ⟨W.heap.size, 0, none⟩) 3 3) (W.alloc (.cells #[.int .i64 0, .int .i64 2, .bool false, .slice (some ⟨g1, k1, none⟩) (wsz y.1) (wsz y.1), .slice none 0 0, .int .i64 0, .int .i64 4, .bool false, .slice (some ⟨g2, 0, none⟩) 8 8, .slice none 0 0, .int .i64 0, .int .i64 2, .bool false, .slice (some ⟨g3, k3, none⟩) (wsz y.2.2) (wsz y.2.2), .slice none 0 0] 117)) (by kernel_rfl) ?_
      exact hKQ.out _ _ (hI.put 9 12 rfl rfl (by rw [hz]; decide) rfl hUN rfl HBB (th1_stb y w1.heap.size w.heap.size (w.heap.size)) ((Below.refl _ _).alloc (Nat.le_refl _) _) ⟨W.heap.size, rfl, kidG_n3 hI.bel.size o0 o1 o2, HGB⟩)
    · intro lQ b W hI hUN hED KQ hKQ
      have f0 := hI.got 9 (of_decide_eq_true rfl) (edge hED 9 (by kernel_rfl)) rfl
      obtain ⟨gr, f0, o0_0, o0_1⟩ := f0
      replace f0 : aT b 12 = .slice (some ⟨gr, 0, none⟩) 3 3 := f0
      refine opw_call 132 #[.tmp 12] _ _ _ rfl Tryz.func132 (by kernel_rfl) rfl #[.slice (some ⟨gr, 0, none⟩) 3 3] (by simp [ev, f0]) ?_
      refine (structItem_agg (some ⟨gr, 0, none⟩) 3 3 W).mono ?_
      rintro e W2 ⟨rfl, hb⟩
      exact ⟨_, rfl, hKQ.out _ _ (hI.put 10 13 rfl rfl (by rw [hz]; decide) rfl hUN rfl HBB (th1_stb y w1.heap.size w.heap.size (w.heap.size)) hb ⟨gr, rfl, o0_0.kept hb, HGB⟩)⟩
    · intro lQ b W hI hUN hED KQ hKQ
      have hgb := (hI.vot1 13 11 (of_decide_eq_true rfl) (of_decide_eq_true rfl) hUN rfl)
      have fb := ((hI.fr.same 2 (by decide)).trans g2)
      have f := hI.got 10 (of_decide_eq_true rfl) (edge hED 10 (by kernel_rfl)) rfl
      obtain ⟨gr, f, o_0, o_1⟩ := f
      refine wp_store_row 117 _ _ rfl ((w.heap.size + 1)) #[.int .i64 0, .int .i64 16, .bool true, .slice none 0 0, .slice (some ⟨gr, 0, none⟩) 3 3] fb f 117 _ hgb (by kernel_rfl) rfl (by simp [Value.oneCell']) ?_
      have ht := setRow_touch W ((w.heap.size + 1)) #[.int .i64 0, .int .i64 16, .bool true, .slice none 0 0, .slice (some ⟨gr, 0, none⟩) 3 3]
      exact hKQ.out _ _ (hI.store 11 (fun j hj => by cases hj) (hI.bel.trans (ht.below (by first | exact HGE2 | omega) (Nat.le_trans HBB hI.bel.size))) (th1_st11 y w1.heap.size w.heap.size (w.heap.size) hgb ht) ⟨gr, (setRow_heap W ((w.heap.size + 1)) _ _ _ _ hgb), o_0.touched ht (by omega), o_1⟩)
  · intro b W hf hb F
    obtain ⟨gr, hbx, hk, _⟩ := F 11 (of_decide_eq_true rfl) rfl
    rw [hf.eq]
    simp only [puts, Act.put, List.setIfInBounds_toArray, List.set_cons_zero, List.set_cons_succ]
    clear hf F
    generalize aT b = AT
    clear b
    go_wp2
    try simp only [Exit.inBlock, Exit.then]
    exact bodyPost_ret (results_it rfl _ (w.heap.size + 1) rfl _ _ _ _ _ _ hbx) rfl ⟨gr, rfl, hk.mono hbb.size, hbb.trans hb⟩

theorem Pb_next (xs : List (Int × Int × Int)) (k : Nat) (h : k < xs.length) : (xs.take (k + 1)).map pbI = (xs.take k).map pbI ++ [pbI (xs.getD k (0, 0, 0))] := by
  rw [List.take_add_one, List.map_append]
  simp [h]
set_option maxRecDepth 10000 in
set_option maxHeartbeats 4000000 in
theorem eachPb_any (a : Option Addr) (n c : Nat) (xs : List (Int × Int × Int)) (w : World) (h : RowPu w a n xs) (hw : PbW xs) (hn : n ≤ 1000) :
    Calls Tryz.prog 168 #[.slice a n c, .func (Fn.func 167) #[] #[]] w fun e w' => ∃ ao co, e = .returned (.slice ao n co) ∧ OwnItR 2 w.heap.size w' ao n co (xs.map pbI) ∧ Below w.heap.size w w' := by
  obtain ⟨i0, hi, hz0, hz1, hz2⟩ := info_parts Tryz.infoIt
  have H0 : Hid (RowPu w a n xs) := h
  have HPw : Hid (PbW xs) := hw
  have HLX : Hid (xs.length = n) := h.len
  clear h hw
  go_enter Tryz.func168, Tryz.ntmps168
  go_wp2
  go_loopw [5, 10] (fun o i wr => ∃ (k : Nat) (ao : Option Addr) (cc : Nat), k ≤ n ∧ i = .int .i64 k ∧ o = .slice ao k cc ∧ Hid (OwnItR 2 w.heap.size wr ao k cc ((xs.take k).map pbI)) ∧ Below w.heap.size w wr) (fun _ i _ => n - (intOf i).toNat)
  case atStart => exact ⟨0, none, 0, Nat.zero_le _, rfl, rfl, ownItR_none _ _ _, Below.refl _ _⟩
  case round =>
    obtain ⟨k, ao, cc, hk, rfl, rfl, HO, hbr⟩ := hrel
    have hws := hbr.size
    by_cases hlt : k < n
    · obtain ⟨b, off, rfl, hlb, e0, e1, e2⟩ := H0.out.get k hlt
      obtain ⟨y, hy⟩ : ∃ y, y = xs.getD k (0, 0, 0) := ⟨_, rfl⟩
      rw [← hy] at e0 e1 e2
      have HUY : Hid (U64 y.2.1) := by show U64 _; rw [hy]; exact H0.out.rng k
      have HYW : Hid (W64 y.1 ∧ W64 y.2.2) := by show _ ∧ _; rw [hy]; exact HPw.out k
      have HXK : Hid ((xs.take (k + 1)).map pbI = (xs.take k).map pbI ++ [pbI y]) := by show _ = _; rw [hy]; exact Pb_next xs k (by rw [HLX.out]; exact hlt)
      have c0 := (hbr.cell (p := ⟨b, off + k * 3, none⟩) hlb).trans e0
      have c1 := (hbr.cell (p := ⟨b, off + k * 3 + 1, none⟩) hlb).trans e1
      have c2 := (hbr.cell (p := ⟨b, off + k * 3 + 2, none⟩) hlb).trans e2
      clear e0 e1 e2
      have hkni : (k : Int) < (n : Int) := by omega
      have hbw : b < wr.heap.size := by omega
      have hbz : Below wr.heap.size wr (wr.alloc (.cells #[.int .i64 y.1, .int .u64 y.2.1, .int .i64 y.2.2] 120)) := (Below.refl _ _).alloc (Nat.le_refl _) _
      clear hy
      go_wp2_with fail
      refine (pubItem_any y _ HUY.out HYW.out.1 HYW.out.2).mono ?_
      rintro e w2 ⟨gr, rfl, hkg, hb2⟩
      have hb2r : Below wr.heap.size wr w2 := keepT hbz hb2
      have B2 : Below w.heap.size w w2 := hbr.trans (hb2r.mono hws)
      have hal : Below w2.heap.size w2 (w2.alloc (.cells #[.int .i64 0, .int .i64 16, .bool true, .slice none 0 0, .slice (some ⟨gr, 0, none⟩) 3 3] 117)) := (Below.refl _ _).alloc (Nat.le_refl _) _
      have B6 : Below w.heap.size w (w2.alloc (.cells #[.int .i64 0, .int .i64 16, .bool true, .slice none 0 0, .slice (some ⟨gr, 0, none⟩) 3 3] 117)) := B2.trans (hal.mono B2.size)
      have hs6 : (w2.alloc (.cells #[.int .i64 0, .int .i64 16, .bool true, .slice none 0 0, .slice (some ⟨gr, 0, none⟩) 3 3] 117)).heap.size = w2.heap.size + 1 := by simp
      have hs2 := hb2r.size
      have HQ3 : Hid (OwnItR 2 w.heap.size (w2.alloc (.cells #[.int .i64 0, .int .i64 16, .bool true, .slice none 0 0, .slice (some ⟨gr, 0, none⟩) 3 3] 117)) ao k cc ((xs.take k).map pbI)) := (HO.out.kept hb2r).kept hal
      obtain ⟨vs, hrow⟩ := HQ3.out.row
      have HROW : Hid (_) := hrow
      have hown : ∀ b, (Value.slice ao k cc).ownBlock = some b → b < wr.heap.size := fun b hb => by obtain ⟨vs0, hv0⟩ := HO.out.row; exact (hv0.lt b hb).2
      have HAPP : Hid (∀ g7 c7 w7, w7.ownsRow 0 117 5 (.slice (some ⟨g7, 0, none⟩) (k + 1) c7) (k + 1) (vs ++ itc (pbI y) none 0 0 (some ⟨gr, 0, none⟩) 3 3) → (w2.alloc (.cells #[.int .i64 0, .int .i64 16, .bool true, .slice none 0 0, .slice (some ⟨gr, 0, none⟩) 3 3] 117)).grownBy w7 (Value.slice ao k cc).ownBlock → ((Value.slice ao k cc).ownBlock = some g7 ∨ g7 = w2.heap.size + 1) → OwnItR 2 w.heap.size w7 (some ⟨g7, 0, none⟩) (k + 1) c7 ((xs.take (k + 1)).map pbI) ∧ Below w.heap.size w w7) := by
        intro g7 c7 w7 hv7 hg7 hl7
        obtain ⟨S, k1, k2⟩ := hkg.kept hal
        have hsw : (wr.alloc (.cells #[.int .i64 y.1, .int .u64 y.2.1, .int .i64 y.2.2] 120)).heap.size = wr.heap.size + 1 := by simp
        rw [HXK.out]
        refine ⟨HQ3.out.appended (T := S) (ab := none) (nb := 0) (cb := 0) (ak := some ⟨gr, 0, none⟩) (nk := 3) (ck := 3) ⟨⟨⟨rfl, fun j hj => absurd hj (Nat.not_lt_zero _), by simp [pbI, strI, It.body]⟩, fun x hx => by cases hx⟩, fun _ => rfl, by decide, k1⟩ (fun b hb => ⟨by have := (k2 b hb).1; omega, (k2 b hb).2, fun e => by have := hown b e; have := (k2 b hb).1; omega⟩) (by omega) HROW.out hv7 hg7 (by rw [hs6]; exact hl7) B6.size, B6.grown hg7 (by have := B6.size; omega) (fun kx hx => HQ3.out.2 kx hx)⟩
      clear c0 c1 c2 hrow HO hb2 hb2r B2 hal hbz hkg
      go_wp2_with (at_builtin; refine wpList_append_lies _ rfl (.tmp 14) (.tmp 18) 115 rfl 0 117 i0 _ 5 72 Tryz.underlying115 hi hz0 hz1 hz2 rfl (by decide) _ k vs rfl HROW.out ⟨w2.heap.size, 0, none⟩ 1 1 [.int .i64 0, .int .i64 16, .bool true, .slice none 0 0, .slice (some ⟨gr, 0, none⟩) 3 3] rfl rfl (World.news_of_block (heap_alloc_new w2 (.cells #[.int .i64 0, .int .i64 16, .bool true, .slice none 0 0, .slice (some ⟨gr, 0, none⟩) 3 3] 117))) (by intro u hu; simp only [List.mem_cons, List.not_mem_nil, or_false] at hu; rcases hu with rfl | rfl | rfl | rfl | rfl <;> rfl) (by decide) (by unfold maxLen; omega) (by omega) (Nat.zero_le _) (w2.heap.size + 1) (by simp) ?_; intro g7 c7 w7 hv7 hg7 hl7 hlt7; have HN7 := HAPP.out g7 c7 w7 hv7 hg7 hl7; have HO7 : Hid (_) := HN7.1; have B7 := HN7.2; clear hv7 hg7 hl7 hlt7 HN7 HAPP HQ3 HROW)
      go_roundw
      case rel => exact ⟨k + 1, _, c7, by omega, by go_num, rfl, HO7, B7⟩
      case measure => simp [intOf]; omega
    · obtain rfl : k = n := by omega
      have HX : Hid (xs.take k = xs) := by show _ = _; rw [List.take_of_length_le (by rw [HLX.out]; exact Nat.le_refl _)]
      go_wp2
      go_ret
      refine ⟨ao, cc, rfl, ?_, hbr⟩
      have := HO.out
      rw [HX.out] at this
      exact this

set_option maxRecDepth 10000 in
set_option maxHeartbeats 4000000 in
theorem listItemPb_any (a : Option Addr) (n c : Nat) (xs : List (Int × Int × Int)) (w : World) (h : RowPu w a n xs) (hw : PbW xs) (hn : n ≤ 1000) :
    Calls Tryz.prog 166 #[.slice a n c, .func (Fn.func 167) #[] #[]] w fun e w' => ∃ ao co, e = .returned (.agg #[.int .i64 0, .int .i64 17, .bool true, .slice none 0 0, .slice ao n co]) ∧ ListH w.heap.size 3 w' ao n (xs.map pbI) ∧ Below w.heap.size w w' := by
  have hbx := box5_below w
  have hsz := box5_size w
  have HB5 : Hid (_ = _) := box5_new w
  have HR : Hid (RowPu (box5 w) a n xs) := h.kept hbx
  have HPw : Hid (PbW xs) := hw
  clear h hw
  go_enter Tryz.func166, Tryz.ntmps166
  go_wp2_with fail
  refine (eachPb_any a n c xs (box5 w) HR.out HPw.out hn).mono ?_
  rintro e w2 ⟨ao, co, rfl, ho, hb2⟩
  have HK : Hid (KidsI 3 (fun b => (box5 w).heap.size ≤ b ∧ b < w2.heap.size) w2 ao n (xs.map pbI)) := ho.kids
  have h5 := below_kept HB5.out hb2
  obtain ⟨_, q0, q1, q2, q3, q4, q5, q6, q7, q8, q9⟩ := Box5.of h5
  have H5 : Hid (_ = _) := h5
  have B2 : Below w.heap.size w w2 := keepT hbx hb2
  have hs2 := hb2.size
  clear ho h5 hb2
  go_wp2_with fail
  try simp only [Exit.inBlock, Exit.then]
  have T := put5_touch w2 w.heap.size (.int .i64 0) (.int .i64 17) (.bool true) (.slice none 0 0) (.slice ao n co)
  refine bodyPost_ret (results_it rfl _ w.heap.size rfl _ _ _ _ _ _ (put5_heap H5.out _ _ _ _ _)) rfl ⟨ao, co, rfl, ⟨(HK.out.touch (fun b hb e => by have := hb.1; omega) T.toX).mono (fun b hb => ⟨by have := hb.1; omega, Nat.lt_of_lt_of_le hb.2 T.size⟩)⟩, B2.trans (T.below (Nat.le_refl _) B2.size)⟩

end Go.Proofs.YtglpbgebcpijaaaGreat

set_option linter.unusedVariables false
namespace Go.Proofs.YtglpbgebcpijaaaGreat
open Go.RowKit Go.Sort

def RoW (xs : List RoP) : Prop := ∀ k, PbW (xs.getD k default).ks ∧ W64 (xs.getD k default).need ∧ (xs.getD k default).ks.length ≤ 1000
/-- What is known of a region (RJ). -/
def th2 (y : RoP) (kl : List It) (s1 : Option Addr) (n1 c1 : Nat) (R G B : Nat) : RSpec where
  m := 9
  n := 11
  slots := [3, 4, 5, 6, 7, 8, 9, 10, 100008, 100009, 100010]
  kills := [[], [], [], [], [], [], [], [], [], [], [8]]
  pres := [[], [], [], [], [], [], [], [], [], [], []]
  fact := fun k v w => match k with
    | 0 => v = .pointer (some ⟨G, 0, none⟩)
    | 1 => v = .slice s1 n1 c1
    | 2 => ∃ ao co, v = .agg #[.int .i64 0, .int .i64 17, .bool true, .slice none 0 0, .slice ao n1 co] ∧ ListH R 3 w ao n1 kl ∧ G + 1 < R
    | 3 => v = .pointer (some ⟨G, 1, none⟩)
    | 4 => v = .int .i64 y.need
    | 5 => ∃ g2 k2, v = .agg #[.int .i64 0, .int .i64 2, .bool false, .slice (some ⟨g2, k2, none⟩) (wsz y.need) (wsz y.need), .slice none 0 0] ∧ ItG R 1 w (numI y.need) (some ⟨g2, k2, none⟩) (wsz y.need) (wsz y.need) none 0 0 ∧ G + 1 < R
    | 6 => ∃ gr, v = .slice (some ⟨gr, 0, none⟩) 2 2 ∧ KidG R w gr 4 [lstI kl, numI y.need] ∧ G + 1 < R
    | 7 => ∃ gr, v = .agg #[.int .i64 0, .int .i64 16, .bool true, .slice none 0 0, .slice (some ⟨gr, 0, none⟩) 2 2] ∧ KidG R w gr 4 [lstI kl, numI y.need] ∧ G + 1 < R
    | 8 => ∃ gr, w.heap[(G + 1)]? = some (.cells #[.int .i64 0, .int .i64 16, .bool true, .slice none 0 0, .slice (some ⟨gr, 0, none⟩) 2 2] 117 (0, 0)) ∧ KidG R w gr 4 [lstI kl, numI y.need] ∧ G + 1 < R
    | 9 => w.heap[G]? = some (.cells #[.slice s1 n1 c1, .int .i64 y.need] 113 (0, 0))
    | _ => w.heap[(G + 1)]? = some (.cells #[.int .i64 0, .int .i64 0, .bool false, .slice none 0 0, .slice none 0 0] 117 (0, 0))
set_option linter.unusedVariables false in
theorem th2_stb (y : RoP) (kl : List It) (s1 : Option Addr) (n1 c1 : Nat) (R G B : Nat) (k : Nat) (hk : k < 11) : StB ((th2 y kl s1 n1 c1 R G (B)).fact k) := by
  match k, hk with
  | 0, _ => exact fun _ _ _ h _ => h
  | 1, _ => exact fun _ _ _ h _ => h
  | 2, _ => exact fun _ _ _ ⟨ao, co, hv, q_0, q_1⟩ hb => ⟨ao, co, hv, q_0.kept hb, q_1⟩
  | 3, _ => exact fun _ _ _ h _ => h
  | 4, _ => exact fun _ _ _ h _ => h
  | 5, _ => exact fun _ _ _ ⟨g2, k2, hv, q_0, q_1⟩ hb => ⟨g2, k2, hv, q_0.kept hb, q_1⟩
  | 6, _ => exact fun _ _ _ ⟨gr, hv, q_0, q_1⟩ hb => ⟨gr, hv, q_0.kept hb, q_1⟩
  | 7, _ => exact fun _ _ _ ⟨gr, hv, q_0, q_1⟩ hb => ⟨gr, hv, q_0.kept hb, q_1⟩
  | 8, _ => exact fun _ _ _ ⟨gr, q_0, q_1, q_2⟩ hb => ⟨gr, below_kept q_0 hb, q_1.kept hb, q_2⟩
  | 9, _ => exact fun _ _ _ q_0 hb => below_kept q_0 hb
  | 10, _ => exact fun _ _ _ q_0 hb => below_kept q_0 hb
  | k + 11, hk => omega
set_option linter.unusedVariables false in
theorem th2_st8 (y : RoP) (kl : List It) (s1 : Option Addr) (n1 c1 : Nat) (R G B : Nat) {W W2 : World} {cs : Array Value} {fr : Nat × Nat} (hg : W.heap[(G + 1)]? = some (.cells cs 117 fr)) (ht : Touch ((G + 1)) ((G + 1) + 1) W W2) (k : Nat) (hk : k < 11) (hne : k ≠ 8) (hkill : 8 ∉ (th2 y kl s1 n1 c1 R G (B)).kill k) (v : Value) (hfact : (th2 y kl s1 n1 c1 R G (B)).fact k v W) : (th2 y kl s1 n1 c1 R G (B)).fact k v W2 := by
  match k, hk, hne, hkill, hfact with
  | 0, _, _, _, hq => exact hq
  | 1, _, _, _, hq => exact hq
  | 2, _, _, _, ⟨ao, co, hv, q_0, q_1⟩ => exact ⟨ao, co, hv, q_0.touched ht (by omega), q_1⟩
  | 3, _, _, _, hq => exact hq
  | 4, _, _, _, hq => exact hq
  | 5, _, _, _, ⟨g2, k2, hv, q_0, q_1⟩ => exact ⟨g2, k2, hv, q_0.touched ht (by omega), q_1⟩
  | 6, _, _, _, ⟨gr, hv, q_0, q_1⟩ => exact ⟨gr, hv, q_0.touched ht (by omega), q_1⟩
  | 7, _, _, _, ⟨gr, hv, q_0, q_1⟩ => exact ⟨gr, hv, q_0.touched ht (by omega), q_1⟩
  | 8, _, hne, _, _ => exact absurd rfl hne
  | 9, _, _, _, q_0 => exact box_box q_0 hg (by decide) ht
  | 10, _, _, hkill, _ => exact absurd (List.Mem.head _) hkill
  | k + 11, hk, _, _, _ => omega

set_option maxRecDepth 10000 in
set_option maxHeartbeats 4000000 in
theorem roleItem_any (y : RoP) (kl : List It) (hkl : kl = y.ks.map pbI) (s1 : Option Addr) (n1 c1 : Nat) (w : World) (hr : RowPu w s1 n1 y.ks) (hpw : PbW y.ks) (hn1 : n1 ≤ 1000) (hnd : W64 y.need) :
    Calls Tryz.prog 164 #[.agg #[.slice s1 n1 c1, .int .i64 y.need]] w fun e w' => ∃ gr, e = .returned (.agg #[.int .i64 0, .int .i64 16, .bool true, .slice none 0 0, .slice (some ⟨gr, 0, none⟩) 2 2]) ∧ KidG w.heap.size w' gr 4 [lstI kl, numI y.need] ∧ Below w.heap.size w w' := by
  obtain ⟨w1, hw1⟩ : ∃ w1, w1 = (w.alloc (.cells #[.slice s1 n1 c1, .int .i64 y.need] 113)).alloc (.cells #[.int .i64 0, .int .i64 0, .bool false, .slice none 0 0, .slice none 0 0] 117) := ⟨_, rfl⟩
  have hbb : Below w.heap.size w w1 := by rw [hw1]; exact ((Below.refl _ _).alloc (Nat.le_refl _) _).alloc (by simp) _
  have HB1 : Hid (_ ∧ _) := two_blocks w (.cells #[.slice s1 n1 c1, .int .i64 y.need] 113) (.cells #[.int .i64 0, .int .i64 0, .bool false, .slice none 0 0, .slice none 0 0] 117)
  rw [← hw1] at HB1
  have hsz : w1.heap.size = w.heap.size + 2 := by rw [hw1]; simp
  have HGB : w.heap.size + 1 < w1.heap.size := by omega
  have HBB : w.heap.size ≤ w1.heap.size := hbb.size
  have HW : Hid (_ = _) := hw1
  have HLI : Hid (∀ W, RowPu W s1 n1 y.ks → Calls Tryz.prog 166 #[.slice s1 n1 c1, .func (Fn.func 167) #[] #[]] W fun e w' => ∃ ao co, e = .returned (.agg #[.int .i64 0, .int .i64 17, .bool true, .slice none 0 0, .slice ao n1 co]) ∧ ListH W.heap.size 3 w' ao n1 kl ∧ Below W.heap.size W w') := fun W hW => by rw [hkl]; exact listItemPb_any s1 n1 c1 y.ks W hW hpw hn1
  have HRW : Hid (∀ W, Below w.heap.size w1 W → RowPu W s1 n1 y.ks) := fun W hW => hr.kept (hbb.trans hW)
  clear hkl hr
  clear hw1
  go_enter Tryz.func164, Tryz.ntmps164
  go_upto_region 1 with fail
  rw [← HW.out]
  clear HW
  refine wp_region_ri (th2 y kl s1 n1 c1 w1.heap.size w.heap.size (w.heap.size)) [3, 4, 5, 6, 7, 8, 9, 10] (w.heap.size) (fun a0 => a0.tmps.size = 11 ∧ aT a0 1 = .pointer (some ⟨w.heap.size, 0, none⟩) ∧ aT a0 2 = .pointer (some ⟨(w.heap.size + 1), 0, none⟩)) (by kernel_rfl) rfl (by kernel_rfl) rfl ⟨rfl, rfl, rfl⟩ (th2_stb y kl s1 n1 c1 w1.heap.size w.heap.size (w.heap.size)) ?_ ?_ ?_
  · intro k hk hk2
    match k, hk, hk2 with
    | 9, _, _ => exact HB1.out.1
    | 10, _, _ => exact HB1.out.2
    | 0, hk, _ => exact absurd hk (by show ¬ (9 ≤ 0); omega)
    | 1, hk, _ => exact absurd hk (by show ¬ (9 ≤ 1); omega)
    | 2, hk, _ => exact absurd hk (by show ¬ (9 ≤ 2); omega)
    | 3, hk, _ => exact absurd hk (by show ¬ (9 ≤ 3); omega)
    | 4, hk, _ => exact absurd hk (by show ¬ (9 ≤ 4); omega)
    | 5, hk, _ => exact absurd hk (by show ¬ (9 ≤ 5); omega)
    | 6, hk, _ => exact absurd hk (by show ¬ (9 ≤ 6); omega)
    | 7, hk, _ => exact absurd hk (by show ¬ (9 ≤ 7); omega)
    | 8, hk, _ => exact absurd hk (by show ¬ (9 ≤ 8); omega)
    | k + 11, _, hk2 => exact absurd hk2 (by show ¬ (k + 11 < 11); omega)
  · rintro a0 ⟨hz, g1, g2⟩
    refine StepsRI.cons ?_ (StepsRI.cons ?_ (StepsRI.cons ?_ (StepsRI.cons ?_ (StepsRI.cons ?_ (StepsRI.cons ?_ (StepsRI.cons ?_ (StepsRI.cons ?_ (StepsRI.cons ?_ (StepsRI.nil)))))))))
    · intro lQ b W hI hUN hED KQ hKQ
      exact opw_field 113 1 0 rfl _ ((hI.fr.same 1 (by decide)).trans g1) _ (by kernel_rfl) (hKQ.out _ _ (hI.put 0 3 rfl rfl (by rw [hz]; decide) rfl hUN rfl HBB (th2_stb y kl s1 n1 c1 w1.heap.size w.heap.size (w.heap.size)) (Below.refl _ _) rfl))
    · intro lQ b W hI hUN hED KQ hKQ
      have f := hI.got 0 (of_decide_eq_true rfl) (edge hED 0 (by kernel_rfl)) rfl
      have hg := (hI.vot 9 (of_decide_eq_true rfl) (of_decide_eq_true rfl) rfl)
      have hc : W.cell? ⟨w.heap.size, 0, none⟩ = some (.slice s1 n1 c1) := (cell_of_row _ _ 0 _ _ (0, 0) hg).trans rfl
      exact opw_load1 111 3 rfl _ f _ (by simp [Instr.loadAt, go_sem, hc]) (hKQ.out _ _ (hI.put 1 4 rfl rfl (by rw [hz]; decide) rfl hUN rfl HBB (th2_stb y kl s1 n1 c1 w1.heap.size w.heap.size (w.heap.size)) (Below.refl _ _) rfl))
    · intro lQ b W hI hUN hED KQ hKQ
      have f0 : aT b 4 = .slice s1 n1 c1 := hI.got 1 (of_decide_eq_true rfl) (edge hED 1 (by kernel_rfl)) rfl
      refine opw_call 166 #[.tmp 4, .func 167] _ _ _ rfl Tryz.func166 (by kernel_rfl) rfl #[.slice s1 n1 c1, .func (Fn.func 167) #[] #[]] (by simp [ev, f0]; rfl) ?_
      refine (HLI.out W (HRW.out W hI.bel)).mono ?_
      rintro r W2 ⟨ao, co, rfl, hk, hb⟩
      exact ⟨_, rfl, hKQ.out _ _ (hI.put 2 5 rfl rfl (by rw [hz]; decide) rfl hUN rfl HBB (th2_stb y kl s1 n1 c1 w1.heap.size w.heap.size (w.heap.size)) hb ⟨ao, co, rfl, hk.mono hI.bel.size, HGB⟩)⟩
    · intro lQ b W hI hUN hED KQ hKQ
      exact opw_field 113 1 1 rfl _ ((hI.fr.same 1 (by decide)).trans g1) _ (by kernel_rfl) (hKQ.out _ _ (hI.put 3 6 rfl rfl (by rw [hz]; decide) rfl hUN rfl HBB (th2_stb y kl s1 n1 c1 w1.heap.size w.heap.size (w.heap.size)) (Below.refl _ _) rfl))
    · intro lQ b W hI hUN hED KQ hKQ
      have f := hI.got 3 (of_decide_eq_true rfl) (edge hED 3 (by kernel_rfl)) rfl
      have hg := (hI.vot 9 (of_decide_eq_true rfl) (of_decide_eq_true rfl) rfl)
      have hc : W.cell? ⟨w.heap.size, 1, none⟩ = some (.int .i64 y.need) := (cell_of_row _ _ 1 _ _ (0, 0) hg).trans rfl
      exact opw_load1 2 6 rfl _ f _ (by simp [Instr.loadAt, go_sem, hc]) (hKQ.out _ _ (hI.put 4 7 rfl rfl (by rw [hz]; decide) rfl hUN rfl HBB (th2_stb y kl s1 n1 c1 w1.heap.size w.heap.size (w.heap.size)) (Below.refl _ _) rfl))
    · intro lQ b W hI hUN hED KQ hKQ
      have f0 := hI.got 4 (of_decide_eq_true rfl) (edge hED 4 (by kernel_rfl)) rfl
      replace f0 : aT b 7 = .int .i64 y.need := f0
      refine opw_call 128 #[.tmp 7] _ _ _ rfl Tryz.func128 (by kernel_rfl) rfl #[.int .i64 y.need] (by simp [ev, f0]) ?_
      refine (numberItem_agg y.need W hnd.1 hnd.2).mono ?_
      rintro e W2 ⟨g2, k2, rfl, hge, hr, hb⟩
      exact ⟨_, rfl, hKQ.out _ _ (hI.put 5 8 rfl rfl (by rw [hz]; decide) rfl hUN rfl HBB (th2_stb y kl s1 n1 c1 w1.heap.size w.heap.size (w.heap.size)) hb ⟨g2, k2, rfl, RowG.itg ⟨Nat.le_trans hI.bel.size hge, hr.atG⟩ 2 (by have := wsz_bd y.need; omega), HGB⟩)⟩
    · intro lQ b W hI hUN hED KQ hKQ
      obtain ⟨ao, co, f0, o0, _⟩ := hI.got 2 (of_decide_eq_true rfl) (edge hED 2 (by kernel_rfl)) rfl
      obtain ⟨g2, k2, f1, o1, _⟩ := hI.got 5 (of_decide_eq_true rfl) (edge hED 5 (by kernel_rfl)) rfl
      replace f0 : aT b 5 = .agg #[.int .i64 0, .int .i64 17, .bool true, .slice none 0 0, .slice ao n1 co] := f0
      replace f1 : aT b 8 = .agg #[.int .i64 0, .int .i64 2, .bool false, .slice (some ⟨g2, k2, none⟩) (wsz y.need) (wsz y.need), .slice none 0 0] := f1
      refine opw_buildSliceT _ 2 _ rfl #[(0, .agg #[.int .i64 0, .int .i64 17, .bool true, .slice none 0 0, .slice ao n1 co]), (1, .agg #[.int .i64 0, .int .i64 2, .bool false, .slice (some ⟨g2, k2, none⟩) (wsz y.need) (wsz y.need), .slice none 0 0])] (by simp [ev, f0, f1]) (.slice (some ⟨W.heap.size, 0, none⟩) 2 2) (W.alloc (.cells #[.int .i64 0, .int .i64 17, .bool true, .slice none 0 0, .slice ao n1 co, .int .i64 0, .int .i64 2, .bool false, .slice (some ⟨g2, k2, none⟩) (wsz y.need) (wsz y.need), .slice none 0 0] 117)) (by kernel_rfl) ?_
      exact hKQ.out _ _ (hI.put 6 9 rfl rfl (by rw [hz]; decide) rfl hUN rfl HBB (th2_stb y kl s1 n1 c1 w1.heap.size w.heap.size (w.heap.size)) ((Below.refl _ _).alloc (Nat.le_refl _) _) ⟨W.heap.size, rfl, kidG_n2 hI.bel.size o0.itg (o1.more).more, HGB⟩)
    · intro lQ b W hI hUN hED KQ hKQ
      have f0 := hI.got 6 (of_decide_eq_true rfl) (edge hED 6 (by kernel_rfl)) rfl
      obtain ⟨gr, f0, o0_0, o0_1⟩ := f0
      replace f0 : aT b 9 = .slice (some ⟨gr, 0, none⟩) 2 2 := f0
      refine opw_call 132 #[.tmp 9] _ _ _ rfl Tryz.func132 (by kernel_rfl) rfl #[.slice (some ⟨gr, 0, none⟩) 2 2] (by simp [ev, f0]) ?_
      refine (structItem_agg (some ⟨gr, 0, none⟩) 2 2 W).mono ?_
      rintro e W2 ⟨rfl, hb⟩
      exact ⟨_, rfl, hKQ.out _ _ (hI.put 7 10 rfl rfl (by rw [hz]; decide) rfl hUN rfl HBB (th2_stb y kl s1 n1 c1 w1.heap.size w.heap.size (w.heap.size)) hb ⟨gr, rfl, o0_0.kept hb, HGB⟩)⟩
    · intro lQ b W hI hUN hED KQ hKQ
      have hgb := (hI.vot1 10 8 (of_decide_eq_true rfl) (of_decide_eq_true rfl) hUN rfl)
      have fb := ((hI.fr.same 2 (by decide)).trans g2)
      have f := hI.got 7 (of_decide_eq_true rfl) (edge hED 7 (by kernel_rfl)) rfl
      obtain ⟨gr, f, o_0, o_1⟩ := f
      refine wp_store_row 117 _ _ rfl ((w.heap.size + 1)) #[.int .i64 0, .int .i64 16, .bool true, .slice none 0 0, .slice (some ⟨gr, 0, none⟩) 2 2] fb f 117 _ hgb (by kernel_rfl) rfl (by simp [Value.oneCell']) ?_
      have ht := setRow_touch W ((w.heap.size + 1)) #[.int .i64 0, .int .i64 16, .bool true, .slice none 0 0, .slice (some ⟨gr, 0, none⟩) 2 2]
      exact hKQ.out _ _ (hI.store 8 (fun j hj => by cases hj) (hI.bel.trans (ht.below (by first | exact HGE2 | omega) (Nat.le_trans HBB hI.bel.size))) (th2_st8 y kl s1 n1 c1 w1.heap.size w.heap.size (w.heap.size) hgb ht) ⟨gr, (setRow_heap W ((w.heap.size + 1)) _ _ _ _ hgb), o_0.touched ht (by omega), o_1⟩)
  · intro b W hf hb F
    obtain ⟨gr, hbx, hk, _⟩ := F 8 (of_decide_eq_true rfl) rfl
    rw [hf.eq]
    simp only [puts, Act.put, List.setIfInBounds_toArray, List.set_cons_zero, List.set_cons_succ]
    clear hf F
    generalize aT b = AT
    clear b
    go_wp2
    try simp only [Exit.inBlock, Exit.then]
    exact bodyPost_ret (results_it rfl _ (w.heap.size + 1) rfl _ _ _ _ _ _ hbx) rfl ⟨gr, rfl, hk.mono hbb.size, hbb.trans hb⟩

theorem Ro_next (xs : List RoP) (k : Nat) (h : k < xs.length) : (xs.take (k + 1)).map roI = (xs.take k).map roI ++ [roI (xs.getD k default)] := by
  rw [List.take_add_one, List.map_append]
  simp [h]
set_option maxRecDepth 10000 in
set_option maxHeartbeats 4000000 in
theorem eachRo_any (a : Option Addr) (n c : Nat) (xs : List RoP) (w : World) (h : Ros KT w a n xs) (hw : RoW xs) (hn : n ≤ 1000) :
    Calls Tryz.prog 165 #[.slice a n c, .func (Fn.func 164) #[] #[]] w fun e w' => ∃ ao co, e = .returned (.slice ao n co) ∧ OwnItR 4 w.heap.size w' ao n co (xs.map roI) ∧ Below w.heap.size w w' := by
  obtain ⟨i0, hi, hz0, hz1, hz2⟩ := info_parts Tryz.infoIt
  have H0 : Hid (Ros KT w a n xs) := h
  have HPw : Hid (RoW xs) := hw
  have HLX : Hid (xs.length = n) := h.len
  clear h hw
  go_enter Tryz.func165, Tryz.ntmps165
  go_wp2
  go_loopw [5, 10] (fun o i wr => ∃ (k : Nat) (ao : Option Addr) (cc : Nat), k ≤ n ∧ i = .int .i64 k ∧ o = .slice ao k cc ∧ Hid (OwnItR 4 w.heap.size wr ao k cc ((xs.take k).map roI)) ∧ Below w.heap.size w wr) (fun _ i _ => n - (intOf i).toNat)
  case atStart => exact ⟨0, none, 0, Nat.zero_le _, rfl, rfl, ownItR_none _ _ _, Below.refl _ _⟩
  case round =>
    obtain ⟨k, ao, cc, hk, rfl, rfl, HO, hbr⟩ := hrel
    have hws := hbr.size
    by_cases hlt : k < n
    · obtain ⟨b, off, s1, n1, d1, rfl, hlb, hc, hp, hm, hu, _⟩ := H0.out.get k hlt
      obtain ⟨y, hy⟩ : ∃ y, y = xs.getD k default := ⟨_, rfl⟩
      rw [← hy] at hc hp
      have HYW : Hid (PbW y.ks ∧ W64 y.need ∧ y.ks.length ≤ 1000) := by show _ ∧ _ ∧ _; rw [hy]; exact HPw.out k
      have HPK : Hid (RowPu w s1 n1 y.ks) := hp
      have hn1 : n1 ≤ 1000 := by rw [← hp.len]; exact HYW.out.2.2
      have HXK : Hid ((xs.take (k + 1)).map roI = (xs.take k).map roI ++ [roI y]) := by show _ = _; rw [hy]; exact Ro_next xs k (by rw [HLX.out]; exact hlt)
      obtain ⟨c0, c1⟩ := hc.of (w' := wr) (fun i => hbr.cell (p := ⟨b, i, none⟩) hlb)
      clear hc hp hm hu
      have hkni : (k : Int) < (n : Int) := by omega
      have hbw : b < wr.heap.size := by omega
      have hbz : Below wr.heap.size wr (wr.alloc (.cells #[.slice s1 n1 d1, .int .i64 y.need] 113)) := (Below.refl _ _).alloc (Nat.le_refl _) _
      clear hy
      go_wp2_with fail
      refine (roleItem_any y (y.ks.map pbI) rfl s1 n1 d1 _ (HPK.out.kept (hbr.trans (hbz.mono hws))) HYW.out.1 hn1 HYW.out.2.1).mono ?_
      rintro e w2 ⟨gr, rfl, hkg, hb2⟩
      have hb2r : Below wr.heap.size wr w2 := keepT hbz hb2
      have B2 : Below w.heap.size w w2 := hbr.trans (hb2r.mono hws)
      have hal : Below w2.heap.size w2 (w2.alloc (.cells #[.int .i64 0, .int .i64 16, .bool true, .slice none 0 0, .slice (some ⟨gr, 0, none⟩) 2 2] 117)) := (Below.refl _ _).alloc (Nat.le_refl _) _
      have B6 : Below w.heap.size w (w2.alloc (.cells #[.int .i64 0, .int .i64 16, .bool true, .slice none 0 0, .slice (some ⟨gr, 0, none⟩) 2 2] 117)) := B2.trans (hal.mono B2.size)
      have hs6 : (w2.alloc (.cells #[.int .i64 0, .int .i64 16, .bool true, .slice none 0 0, .slice (some ⟨gr, 0, none⟩) 2 2] 117)).heap.size = w2.heap.size + 1 := by simp
      have hs2 := hb2r.size
      have HQ3 : Hid (OwnItR 4 w.heap.size (w2.alloc (.cells #[.int .i64 0, .int .i64 16, .bool true, .slice none 0 0, .slice (some ⟨gr, 0, none⟩) 2 2] 117)) ao k cc ((xs.take k).map roI)) := (HO.out.kept hb2r).kept hal
      obtain ⟨vs, hrow⟩ := HQ3.out.row
      have HROW : Hid (_) := hrow
      have hown : ∀ b, (Value.slice ao k cc).ownBlock = some b → b < wr.heap.size := fun b hb => by obtain ⟨vs0, hv0⟩ := HO.out.row; exact (hv0.lt b hb).2
      have HAPP : Hid (∀ g7 c7 w7, w7.ownsRow 0 117 5 (.slice (some ⟨g7, 0, none⟩) (k + 1) c7) (k + 1) (vs ++ itc (roI y) none 0 0 (some ⟨gr, 0, none⟩) 2 2) → (w2.alloc (.cells #[.int .i64 0, .int .i64 16, .bool true, .slice none 0 0, .slice (some ⟨gr, 0, none⟩) 2 2] 117)).grownBy w7 (Value.slice ao k cc).ownBlock → ((Value.slice ao k cc).ownBlock = some g7 ∨ g7 = w2.heap.size + 1) → OwnItR 4 w.heap.size w7 (some ⟨g7, 0, none⟩) (k + 1) c7 ((xs.take (k + 1)).map roI) ∧ Below w.heap.size w w7) := by
        intro g7 c7 w7 hv7 hg7 hl7
        obtain ⟨S, k1, k2⟩ := hkg.kept hal
        have hsw : (wr.alloc (.cells #[.slice s1 n1 d1, .int .i64 y.need] 113)).heap.size = wr.heap.size + 1 := by simp
        rw [HXK.out]
        refine ⟨HQ3.out.appended (T := S) (ab := none) (nb := 0) (cb := 0) (ak := some ⟨gr, 0, none⟩) (nk := 2) (ck := 2) ⟨⟨⟨rfl, fun j hj => absurd hj (Nat.not_lt_zero _), by simp [roI, strI, It.body]⟩, fun x hx => by cases hx⟩, fun _ => rfl, by decide, k1⟩ (fun b hb => ⟨by have := (k2 b hb).1; omega, (k2 b hb).2, fun e => by have := hown b e; have := (k2 b hb).1; omega⟩) (by omega) HROW.out hv7 hg7 (by rw [hs6]; exact hl7) B6.size, B6.grown hg7 (by have := B6.size; omega) (fun kx hx => HQ3.out.2 kx hx)⟩
      clear c0 c1 hrow HO hb2 hb2r B2 hal hbz hkg
      go_wp2_with (at_builtin; refine wpList_append_lies _ rfl (.tmp 14) (.tmp 18) 115 rfl 0 117 i0 _ 5 72 Tryz.underlying115 hi hz0 hz1 hz2 rfl (by decide) _ k vs rfl HROW.out ⟨w2.heap.size, 0, none⟩ 1 1 [.int .i64 0, .int .i64 16, .bool true, .slice none 0 0, .slice (some ⟨gr, 0, none⟩) 2 2] rfl rfl (World.news_of_block (heap_alloc_new w2 (.cells #[.int .i64 0, .int .i64 16, .bool true, .slice none 0 0, .slice (some ⟨gr, 0, none⟩) 2 2] 117))) (by intro u hu; simp only [List.mem_cons, List.not_mem_nil, or_false] at hu; rcases hu with rfl | rfl | rfl | rfl | rfl <;> rfl) (by decide) (by unfold maxLen; omega) (by omega) (Nat.zero_le _) (w2.heap.size + 1) (by simp) ?_; intro g7 c7 w7 hv7 hg7 hl7 hlt7; have HN7 := HAPP.out g7 c7 w7 hv7 hg7 hl7; have HO7 : Hid (_) := HN7.1; have B7 := HN7.2; clear hv7 hg7 hl7 hlt7 HN7 HAPP HQ3 HROW)
      go_roundw
      case rel => exact ⟨k + 1, _, c7, by omega, by go_num, rfl, HO7, B7⟩
      case measure => simp [intOf]; omega
    · obtain rfl : k = n := by omega
      have HX : Hid (xs.take k = xs) := by show _ = _; rw [List.take_of_length_le (by rw [HLX.out]; exact Nat.le_refl _)]
      go_wp2
      go_ret
      refine ⟨ao, cc, rfl, ?_, hbr⟩
      have := HO.out
      rw [HX.out] at this
      exact this

set_option maxRecDepth 10000 in
set_option maxHeartbeats 4000000 in
theorem listItemRo_any (a : Option Addr) (n c : Nat) (xs : List RoP) (w : World) (h : Ros KT w a n xs) (hw : RoW xs) (hn : n ≤ 1000) :
    Calls Tryz.prog 163 #[.slice a n c, .func (Fn.func 164) #[] #[]] w fun e w' => ∃ ao co, e = .returned (.agg #[.int .i64 0, .int .i64 17, .bool true, .slice none 0 0, .slice ao n co]) ∧ ListH w.heap.size 5 w' ao n (xs.map roI) ∧ Below w.heap.size w w' := by
  have hbx := box5_below w
  have hsz := box5_size w
  have HB5 : Hid (_ = _) := box5_new w
  have HR : Hid (Ros KT (box5 w) a n xs) := h.kept hbx
  have HPw : Hid (RoW xs) := hw
  clear h hw
  go_enter Tryz.func163, Tryz.ntmps163
  go_wp2_with fail
  refine (eachRo_any a n c xs (box5 w) HR.out HPw.out hn).mono ?_
  rintro e w2 ⟨ao, co, rfl, ho, hb2⟩
  have HK : Hid (KidsI 5 (fun b => (box5 w).heap.size ≤ b ∧ b < w2.heap.size) w2 ao n (xs.map roI)) := ho.kids
  have h5 := below_kept HB5.out hb2
  obtain ⟨_, q0, q1, q2, q3, q4, q5, q6, q7, q8, q9⟩ := Box5.of h5
  have H5 : Hid (_ = _) := h5
  have B2 : Below w.heap.size w w2 := keepT hbx hb2
  have hs2 := hb2.size
  clear ho h5 hb2
  go_wp2_with fail
  try simp only [Exit.inBlock, Exit.then]
  have T := put5_touch w2 w.heap.size (.int .i64 0) (.int .i64 17) (.bool true) (.slice none 0 0) (.slice ao n co)
  refine bodyPost_ret (results_it rfl _ w.heap.size rfl _ _ _ _ _ _ (put5_heap H5.out _ _ _ _ _)) rfl ⟨ao, co, rfl, ⟨(HK.out.touch (fun b hb e => by have := hb.1; omega) T.toX).mono (fun b hb => ⟨by have := hb.1; omega, Nat.lt_of_lt_of_le hb.2 T.size⟩)⟩, B2.trans (T.below (Nat.le_refl _) B2.size)⟩

end Go.Proofs.YtglpbgebcpijaaaGreat

set_option linter.unusedVariables false
namespace Go.Proofs.YtglpbgebcpijaaaGreat
open Go.RowKit

def rbI (x : RfP) : It := boxI 13 [numI x.v, numI x.e, lstI (x.rs.map roI)]
def sbI (x : SfP) : It := boxI 14 [numI x.v, numI x.e, numI x.lv, bytI (eightI x.lh)]
theorem pbI_enc (r : Nat) (p : Int × Int × Int) : ∃ l, enc (r + 2) (pbI p) = some l ∧ l.length ≤ 110 := by
  refine enc_boxL (r + 1) 0 16 _ 30 (.inl rfl) (by decide) (by decide) (fun x hx => ?_) (by simp)
  simp only [List.mem_cons, List.not_mem_nil, or_false] at hx
  rcases hx with rfl | rfl | rfl
  · exact numI_enc r _
  · obtain ⟨l, h1, h2⟩ := eigI_enc r p.2.1
    exact ⟨l, h1, by omega⟩
  · exact numI_enc r _
theorem pbs_enc (r : Nat) (ks : List (Int × Int × Int)) (h : ks.length ≤ 6) : ∃ l, enc (r + 3) (lstI (ks.map pbI)) = some l ∧ l.length ≤ 680 := by
  obtain ⟨l, h1, h2⟩ := enc_boxL (r + 2) 0 17 (ks.map pbI) 110 (.inl rfl) (by decide) (by decide) (fun x hx => by
    obtain ⟨p, _, rfl⟩ := List.mem_map.1 hx
    exact pbI_enc r p) (by rw [List.length_map]; omega)
  rw [List.length_map] at h2
  exact ⟨l, h1, by omega⟩
theorem roI_enc (r : Nat) (x : RoP) (h : x.ks.length ≤ 6) : ∃ l, enc (r + 4) (roI x) = some l ∧ l.length ≤ 1380 := by
  obtain ⟨l, h1, h2⟩ := enc_boxL (r + 3) 0 16 [lstI (x.ks.map pbI), numI x.need] 680 (.inl rfl) (by decide) (by decide) (fun y hy => by
    simp only [List.mem_cons, List.not_mem_nil, or_false] at hy
    rcases hy with rfl | rfl
    · exact pbs_enc r x.ks h
    · obtain ⟨l, h1, h2⟩ := numI_enc (r + 2) x.need
      exact ⟨l, h1, by omega⟩) (by simp)
  exact ⟨l, h1, Nat.le_trans h2 (by simp)⟩
theorem ros_enc (r : Nat) (xs : List RoP) (h : xs.length = 3) (hk : ∀ k, k < 3 → (xs.getD k default).ks.length ≤ 6) : ∃ l, enc (r + 5) (lstI (xs.map roI)) = some l ∧ l.length ≤ 4160 := by
  obtain ⟨l, h1, h2⟩ := enc_boxL (r + 4) 0 17 (xs.map roI) 1380 (.inl rfl) (by decide) (by decide) (fun x hx => by
    obtain ⟨p, hp, rfl⟩ := List.mem_map.1 hx
    obtain ⟨k, hk1, rfl⟩ := List.mem_iff_getElem.1 hp
    refine roI_enc r _ ?_
    have := hk k (by omega)
    rw [List.getD_eq_getElem?_getD, List.getElem?_eq_getElem hk1] at this
    exact this) (by rw [List.length_map]; omega)
  rw [List.length_map] at h2
  exact ⟨l, h1, by omega⟩
theorem rbI_enc (x : RfP) (h : rootP x) : ∃ l, enc 12 (rbI x) = some l ∧ l.length ≤ 20000 := by
  have hn : ∀ n, ∃ p, enc 11 (numI n) = some p ∧ p.length ≤ 4160 := fun n => by
    obtain ⟨l, h1, h2⟩ := numI_enc 10 n
    exact ⟨l, h1, by omega⟩
  obtain ⟨l, h1, h2⟩ := enc_boxL 11 1 13 [numI x.v, numI x.e, lstI (x.rs.map roI)] 4160 (.inr rfl) (by decide) (by decide) (fun y hy => by
    simp only [List.mem_cons, List.not_mem_nil, or_false] at hy
    rcases hy with rfl | rfl | rfl
    · exact hn _
    · exact hn _
    · exact ros_enc 6 x.rs h.2.2.2.1 (fun k hk => (h.2.2.2.2 k hk).1.2)) (by simp)
  exact ⟨l, h1, Nat.le_trans h2 (by simp)⟩
theorem sbI_enc (x : SfP) : ∃ l, enc 12 (sbI x) = some l ∧ l.length ≤ 20000 := by
  have hn : ∀ n, ∃ p, enc 11 (numI n) = some p ∧ p.length ≤ 30 := fun n => numI_enc 10 n
  obtain ⟨l, h1, h2⟩ := enc_boxL 11 1 14 [numI x.v, numI x.e, numI x.lv, bytI (eightI x.lh)] 30 (.inr rfl) (by decide) (by decide) (fun y hy => by
    simp only [List.mem_cons, List.not_mem_nil, or_false] at hy
    rcases hy with rfl | rfl | rfl | rfl
    · exact hn _
    · exact hn _
    · exact hn _
    · obtain ⟨l, h1, h2⟩ := eigI_enc 10 x.lh
      exact ⟨l, h1, by omega⟩) (by simp)
  exact ⟨l, h1, Nat.le_trans h2 (by simp)⟩
theorem w64_of {x a b : Int} (h : a ≤ x ∧ x ≤ b) (ha : -9223372036854775808 ≤ a) (hb : b ≤ 9223372036854775807) : W64 x := ⟨by omega, by omega⟩
theorem pbW_of {ks : List (Int × Int × Int)} (h : ∀ k, k < ks.length → pubP (ks.getD k (0, 0, 0)).1 (ks.getD k (0, 0, 0)).2.1 (ks.getD k (0, 0, 0)).2.2) : PbW ks := fun k => by
  by_cases hk : k < ks.length
  · generalize hp : ks.getD k (0, 0, 0) = p
    have h1 := h k hk
    rw [hp] at h1
    rcases h1 with ⟨h1, h2, h3⟩ | ⟨h1, h2, h3⟩
    · exact ⟨by rw [h1]; exact ⟨by decide, by decide⟩, by rw [h3]; exact ⟨by decide, by decide⟩⟩
    · exact ⟨by rw [h1]; exact ⟨by decide, by decide⟩, by constructor <;> omega⟩
  · rw [List.getD_eq_getElem?_getD, List.getElem?_eq_none (by omega)]
    exact ⟨⟨by decide, by decide⟩, ⟨by decide, by decide⟩⟩
theorem rootP_w {x : RfP} (h : rootP x) : RoW x.rs ∧ W64 x.v ∧ W64 x.e := by
  refine ⟨fun k => ?_, w64_of h.1 (by decide) (by decide), w64_of h.2.1 (by decide) (by decide)⟩
  by_cases hk : k < 3
  · have hr := h.2.2.2.2 k hk
    generalize x.rs.getD k default = y at hr
    have h6 := hr.1.2
    exact ⟨pbW_of hr.2.2.1, w64_of hr.2.1 (by decide) (by omega), by omega⟩
  · rw [List.getD_eq_getElem?_getD, List.getElem?_eq_none (by have := h.2.2.2.1; omega)]
    have e : (none : Option RoP).getD default = ⟨[], 0⟩ := rfl
    rw [e]
    have z : ∀ j, ([] : List (Int × Int × Int)).getD j (0, 0, 0) = (0, 0, 0) := fun j => by simp
    exact ⟨fun j => by show W64 (([] : List (Int × Int × Int)).getD j (0, 0, 0)).1 ∧ W64 (([] : List (Int × Int × Int)).getD j (0, 0, 0)).2.2; rw [z]; exact ⟨⟨by decide, by decide⟩, ⟨by decide, by decide⟩⟩, ⟨by decide, by decide⟩, by decide⟩
theorem stampP_w {x : SfP} (h : stampP x) : W64 x.v ∧ W64 x.e ∧ W64 x.lv := ⟨w64_of h.1 (by decide) (by decide), w64_of h.2.1 (by decide) (by decide), w64_of h.2.2.2 (by decide) (by decide)⟩
theorem listP_w {x : LfP} (h : listP x) : I64R x.es ∧ (-9223372036854775808 ≤ x.v ∧ x.v ≤ 9223372036854775807) ∧ (-9223372036854775808 ≤ x.e ∧ x.e ≤ 9223372036854775807) := by
  refine ⟨fun k => ?_, w64_of h.1 (by decide) (by decide), w64_of h.2.1 (by decide) (by decide)⟩
  by_cases hk : k < x.es.length
  · have := h.2.2.2.2 k hk
    exact w64_of this (by decide) (by decide)
  · rw [List.getD_eq_getElem?_getD, List.getElem?_eq_none (by omega)]
    exact ⟨by decide, by decide⟩
/-- A file; what FileBody answers. -/
structure TfP where
  k : Int
  r : RfP
  s : SfP
  l : LfP
def FbY (x : TfP) (l : List Int) : Prop := (x.k = 1 ∧ rootP x.r ∧ enc 12 (rbI x.r) = some l) ∨ (x.k = 2 ∧ stampP x.s ∧ enc 12 (sbI x.s) = some l) ∨ (x.k = 3 ∧ listP x.l ∧ enc 12 (lbI x.l.v x.l.e x.l.es) = some l)
def FbN (x : TfP) : Prop := ¬ (x.k = 1 ∧ rootP x.r) ∧ ¬ (x.k = 2 ∧ stampP x.s) ∧ ¬ (x.k = 3 ∧ listP x.l)
def FbR (x : TfP) (b : Bool) (l : List Int) : Prop := (b = true ∧ FbY x l) ∨ (b = false ∧ l = [] ∧ FbN x)
theorem fbR_any (x : TfP) : ∃ b l, FbR x b l ∧ l.length ≤ 20000 := by
  by_cases h1 : x.k = 1 ∧ rootP x.r
  · obtain ⟨l, e, hl⟩ := rbI_enc x.r h1.2
    exact ⟨true, l, .inl ⟨rfl, .inl ⟨h1.1, h1.2, e⟩⟩, hl⟩
  by_cases h2 : x.k = 2 ∧ stampP x.s
  · obtain ⟨l, e, hl⟩ := sbI_enc x.s
    exact ⟨true, l, .inl ⟨rfl, .inr (.inl ⟨h2.1, h2.2, e⟩)⟩, hl⟩
  by_cases h3 : x.k = 3 ∧ listP x.l
  · obtain ⟨l, e, hl⟩ := lbI_enc x.l.v x.l.e x.l.es h3.2.2.2.2.1
    exact ⟨true, l, .inl ⟨rfl, .inr (.inr ⟨h3.1, h3.2, e⟩)⟩, by omega⟩
  · exact ⟨false, [], .inr ⟨rfl, rfl, h1, h2, h3⟩, by decide⟩
theorem fbR_1 {x : TfP} {b : Bool} {l : List Int} (h : FbR x b l) (hk : x.k = 1) : (b = true ∧ rootP x.r ∧ enc 12 (rbI x.r) = some l) ∨ (b = false ∧ l = [] ∧ ¬ rootP x.r) := by
  rcases h with ⟨rfl, h | h | h⟩ | ⟨rfl, rfl, h⟩
  · exact .inl ⟨rfl, h.2⟩
  · exact absurd (hk.symm.trans h.1) (by decide)
  · exact absurd (hk.symm.trans h.1) (by decide)
  · exact .inr ⟨rfl, rfl, fun hr => h.1 ⟨hk, hr⟩⟩
theorem fbR_2 {x : TfP} {b : Bool} {l : List Int} (h : FbR x b l) (hk : x.k = 2) : (b = true ∧ stampP x.s ∧ enc 12 (sbI x.s) = some l) ∨ (b = false ∧ l = [] ∧ ¬ stampP x.s) := by
  rcases h with ⟨rfl, h | h | h⟩ | ⟨rfl, rfl, h⟩
  · exact absurd (hk.symm.trans h.1) (by decide)
  · exact .inl ⟨rfl, h.2⟩
  · exact absurd (hk.symm.trans h.1) (by decide)
  · exact .inr ⟨rfl, rfl, fun hr => h.2.1 ⟨hk, hr⟩⟩
theorem fbR_3 {x : TfP} {b : Bool} {l : List Int} (h : FbR x b l) (hk : x.k = 3) : (b = true ∧ listP x.l ∧ enc 12 (lbI x.l.v x.l.e x.l.es) = some l) ∨ (b = false ∧ l = [] ∧ ¬ listP x.l) := by
  rcases h with ⟨rfl, h | h | h⟩ | ⟨rfl, rfl, h⟩
  · exact absurd (hk.symm.trans h.1) (by decide)
  · exact absurd (hk.symm.trans h.1) (by decide)
  · exact .inl ⟨rfl, h.2⟩
  · exact .inr ⟨rfl, rfl, fun hr => h.2.2 ⟨hk, hr⟩⟩
theorem fbR_0 {x : TfP} {b : Bool} {l : List Int} (h : FbR x b l) (h1 : x.k ≠ 1) (h2 : x.k ≠ 2) (h3 : x.k ≠ 3) : b = false ∧ l = [] := by
  rcases h with ⟨rfl, h | h | h⟩ | ⟨rfl, rfl, h⟩
  · exact absurd h.1 h1
  · exact absurd h.1 h2
  · exact absurd h.1 h3
  · exact ⟨rfl, rfl⟩
/-- A file's rows, read. -/
structure TfR (x : TfP) (a0 : Option Addr) (n0 : Nat) (a1 : Option Addr) (n1 : Nat) (a2 : Option Addr) (n2 : Nat) (a3 : Option Addr) (n3 : Nat) (a4 : Option Addr) (n4 : Nat) (w : World) : Prop where
  r0 : Ros KT w a0 n0 x.r.rs
  r1 : Fss KT w a1 n1 x.r.ss
  r2 : Fss KT w a2 n2 x.s.ss
  r3 : RowTe w a3 n3 x.l.es
  r4 : Fss KT w a4 n4 x.l.ss
  m0 : n0 ≤ 9223372036854775807
  m1 : n1 ≤ 9223372036854775807
  m2 : n2 ≤ 9223372036854775807
  m3 : n3 ≤ 9223372036854775807
  m4 : n4 ≤ 9223372036854775807
  lh : U64 x.s.lh
theorem TfR.kept {x : TfP} {a0 : Option Addr} {n0 : Nat} {a1 : Option Addr} {n1 : Nat} {a2 : Option Addr} {n2 : Nat} {a3 : Option Addr} {n3 : Nat} {a4 : Option Addr} {n4 : Nat} {w w' : World} (h : TfR x a0 n0 a1 n1 a2 n2 a3 n3 a4 n4 w) (hb : Below w.heap.size w w') : TfR x a0 n0 a1 n1 a2 n2 a3 n3 a4 n4 w' := ⟨h.r0.kept hb, h.r1.kept hb, h.r2.kept hb, h.r3.kept hb, h.r4.kept hb, h.m0, h.m1, h.m2, h.m3, h.m4, h.lh⟩
def tfv (x : TfP) (a0 : Option Addr) (n0 c0 : Nat) (a1 : Option Addr) (n1 c1 : Nat) (a2 : Option Addr) (n2 c2 : Nat) (a3 : Option Addr) (n3 c3 : Nat) (a4 : Option Addr) (n4 c4 : Nat) : Array Value := #[.int .i64 x.k, .int .i64 x.r.v, .int .i64 x.r.e, .slice a0 n0 c0, .slice a1 n1 c1, .int .i64 x.s.v, .int .i64 x.s.e, .int .i64 x.s.lv, .int .u64 x.s.lh, .slice a2 n2 c2, .int .i64 x.l.v, .int .i64 x.l.e, .slice a3 n3 c3, .slice a4 n4 c4]
theorem own_nilF (B : Nat) (w : World) : Own B w none 0 0 [] := ⟨World.ownsRow_nil w B 5 1, by simp⟩

end Go.Proofs.YtglpbgebcpijaaaGreat

set_option linter.unusedVariables false
namespace Go.Proofs.YtglpbgebcpijaaaGreat
open Go.RowKit Go.Sort

theorem itV_up {S : Nat → Prop} {w : World} {x : It} {ab : Option Addr} {nb cb : Nat} {ak : Option Addr} {nk ck : Nat} (d : Nat) (h : ItV 1 S w x ab nb cb ak nk ck) : ItV (d + 1) S w x ab nb cb ak nk ck := by
  induction d with
  | zero => exact h
  | succ d ih => exact ih.more
def KidD (d : Nat) (w : World) (g : Nat) (ks : List It) : Prop := KidsI d (fun _ => True) w (some ⟨g, 0, none⟩) ks.length ks
theorem KidD.kept {d : Nat} {w w' : World} {g : Nat} {ks : List It} (h : KidD d w g ks) (hb : Below w.heap.size w w') : KidD d w' g ks := KidsI.touch (P := fun _ => False) h (fun _ _ h => h) (TouchX.of_below hb)
theorem KidD.kids {d : Nat} {w : World} {g : Nat} {ks : List It} (h : KidD d w g ks) : Kids d w (some ⟨g, 0, none⟩) ks.length ks := KidsI.kids h
structure ListD (d : Nat) (w : World) (ao : Option Addr) (n : Nat) (ks : List It) : Prop where
  kids : KidsI d (fun _ => True) w ao n ks
theorem ListD.kept {d : Nat} {w w' : World} {ao : Option Addr} {n : Nat} {ks : List It} (h : ListD d w ao n ks) (hb : Below w.heap.size w w') : ListD d w' ao n ks := ⟨h.kids.touch (P := fun _ => False) (fun _ _ h => h) (TouchX.of_below hb)⟩
theorem ListD.itv {d : Nat} {w : World} {ao : Option Addr} {n co : Nat} {ks : List It} (h : ListD d w ao n ks) : ItV d (fun _ => True) w (lstI ks) none 0 0 ao n co :=
  ⟨⟨⟨rfl, fun j hj => absurd hj (Nat.not_lt_zero _), by simp [lstI, It.body]⟩, fun _ _ _ => trivial⟩, fun _ => rfl, by decide, h.kids⟩
theorem kidsR_n3 {d B0 B : Nat} {W : World} {gf cf g1 k1 n1 g2 k2 n2 : Nat} {b1 b2 : List Int} {y3 : It} {a3 : Option Addr} {n3 c3 : Nat} {k3 : Option Addr} {m3 e3 : Nat}
    (hv : W.ownsRow B0 117 5 (.slice (some ⟨gf, 0, none⟩) 3 cf) 3 ([.int .i64 0, .int .i64 2, .bool false, .slice (some ⟨g1, k1, none⟩) n1 n1, .slice none 0 0, .int .i64 0, .int .i64 2, .bool false, .slice (some ⟨g2, k2, none⟩) n2 n2, .slice none 0 0] ++ [.int .i64 y3.cls, .int .i64 y3.tag, .bool y3.cons, .slice a3 n3 c3, .slice k3 m3 e3]))
    (h1 : RowG B W g1 k1 n1 b1) (h2 : RowG B W g2 k2 n2 b2) (h3 : ItV (d + 1) (fun _ => True) W y3 a3 n3 c3 k3 m3 e3) (z1 : n1 ≤ 1000) (z2 : n2 ≤ 1000) : KidD (d + 2) W gf [.mk 0 2 false b1 [], .mk 0 2 false b2 [], y3] := by
  have hc : ∀ j, j < 15 → W.cell? ⟨gf, 0 + j, none⟩ = (([.int .i64 0, .int .i64 2, .bool false, .slice (some ⟨g1, k1, none⟩) n1 n1, .slice none 0 0, .int .i64 0, .int .i64 2, .bool false, .slice (some ⟨g2, k2, none⟩) n2 n2, .slice none 0 0] ++ [.int .i64 y3.cls, .int .i64 y3.tag, .bool y3.cons, .slice a3 n3 c3, .slice k3 m3 e3]) : List Value)[j]? := fun j hj => (congrArg (fun q => W.cell? ⟨gf, q, none⟩) (Nat.zero_add j)).trans (hv.cellAt j hj)
  have i1 : ItV (d + 1) (fun _ => True) W (.mk 0 2 false b1 []) (some ⟨g1, k1, none⟩) n1 n1 none 0 0 := itV_up d (h1.itv 2 (by omega) (T := fun _ => True) trivial)
  have i2 : ItV (d + 1) (fun _ => True) W (.mk 0 2 false b2 []) (some ⟨g2, k2, none⟩) n2 n2 none 0 0 := itV_up d (h2.itv 2 (by omega) (T := fun _ => True) trivial)
  have hlt : gf < W.heap.size := (hv.lt gf rfl).2
  refine ⟨rfl, (show 3 ≤ 9223372036854775807 by decide), fun k hk => ⟨gf, 0, rfl, hlt, trivial, ?_⟩⟩
  have hk3 : k < 3 := hk
  rcases (show k = 0 ∨ k = 1 ∨ k = 2 by omega) with rfl | rfl | rfl
  · exact ⟨some ⟨g1, k1, none⟩, n1, n1, none, 0, 0, (hc 0 (by decide)).trans rfl, (hc 1 (by decide)).trans rfl, (hc 2 (by decide)).trans rfl, (hc 3 (by decide)).trans rfl, (hc 4 (by decide)).trans rfl, i1.row, i1.nil, i1.max, i1.kids⟩
  · exact ⟨some ⟨g2, k2, none⟩, n2, n2, none, 0, 0, (hc 5 (by decide)).trans rfl, (hc 6 (by decide)).trans rfl, (hc 7 (by decide)).trans rfl, (hc 8 (by decide)).trans rfl, (hc 9 (by decide)).trans rfl, i2.row, i2.nil, i2.max, i2.kids⟩
  · exact ⟨a3, n3, c3, k3, m3, e3, (hc 10 (by decide)).trans rfl, (hc 11 (by decide)).trans rfl, (hc 12 (by decide)).trans rfl, (hc 13 (by decide)).trans rfl, (hc 14 (by decide)).trans rfl, h3.row, h3.nil, h3.max, h3.kids⟩
theorem kidsR_n4 {d B0 B : Nat} {W : World} {gf cf g1 k1 n1 g2 k2 n2 : Nat} {b1 b2 : List Int} {y3 : It} {a3 : Option Addr} {n3 c3 : Nat} {k3 : Option Addr} {m3 e3 : Nat} {y4 : It} {a4 : Option Addr} {n4 c4 : Nat} {k4 : Option Addr} {m4 e4 : Nat}
    (hv : W.ownsRow B0 117 5 (.slice (some ⟨gf, 0, none⟩) 4 cf) 4 ([.int .i64 0, .int .i64 2, .bool false, .slice (some ⟨g1, k1, none⟩) n1 n1, .slice none 0 0, .int .i64 0, .int .i64 2, .bool false, .slice (some ⟨g2, k2, none⟩) n2 n2, .slice none 0 0] ++ [.int .i64 y3.cls, .int .i64 y3.tag, .bool y3.cons, .slice a3 n3 c3, .slice k3 m3 e3, .int .i64 y4.cls, .int .i64 y4.tag, .bool y4.cons, .slice a4 n4 c4, .slice k4 m4 e4]))
    (h1 : RowG B W g1 k1 n1 b1) (h2 : RowG B W g2 k2 n2 b2) (h3 : ItV (d + 1) (fun _ => True) W y3 a3 n3 c3 k3 m3 e3) (h4 : ItV (d + 1) (fun _ => True) W y4 a4 n4 c4 k4 m4 e4) (z1 : n1 ≤ 1000) (z2 : n2 ≤ 1000) : KidD (d + 2) W gf [.mk 0 2 false b1 [], .mk 0 2 false b2 [], y3, y4] := by
  have hc : ∀ j, j < 20 → W.cell? ⟨gf, 0 + j, none⟩ = (([.int .i64 0, .int .i64 2, .bool false, .slice (some ⟨g1, k1, none⟩) n1 n1, .slice none 0 0, .int .i64 0, .int .i64 2, .bool false, .slice (some ⟨g2, k2, none⟩) n2 n2, .slice none 0 0] ++ [.int .i64 y3.cls, .int .i64 y3.tag, .bool y3.cons, .slice a3 n3 c3, .slice k3 m3 e3, .int .i64 y4.cls, .int .i64 y4.tag, .bool y4.cons, .slice a4 n4 c4, .slice k4 m4 e4]) : List Value)[j]? := fun j hj => (congrArg (fun q => W.cell? ⟨gf, q, none⟩) (Nat.zero_add j)).trans (hv.cellAt j hj)
  have i1 : ItV (d + 1) (fun _ => True) W (.mk 0 2 false b1 []) (some ⟨g1, k1, none⟩) n1 n1 none 0 0 := itV_up d (h1.itv 2 (by omega) (T := fun _ => True) trivial)
  have i2 : ItV (d + 1) (fun _ => True) W (.mk 0 2 false b2 []) (some ⟨g2, k2, none⟩) n2 n2 none 0 0 := itV_up d (h2.itv 2 (by omega) (T := fun _ => True) trivial)
  have hlt : gf < W.heap.size := (hv.lt gf rfl).2
  refine ⟨rfl, (show 4 ≤ 9223372036854775807 by decide), fun k hk => ⟨gf, 0, rfl, hlt, trivial, ?_⟩⟩
  have hk3 : k < 4 := hk
  rcases (show k = 0 ∨ k = 1 ∨ k = 2 ∨ k = 3 by omega) with rfl | rfl | rfl | rfl
  · exact ⟨some ⟨g1, k1, none⟩, n1, n1, none, 0, 0, (hc 0 (by decide)).trans rfl, (hc 1 (by decide)).trans rfl, (hc 2 (by decide)).trans rfl, (hc 3 (by decide)).trans rfl, (hc 4 (by decide)).trans rfl, i1.row, i1.nil, i1.max, i1.kids⟩
  · exact ⟨some ⟨g2, k2, none⟩, n2, n2, none, 0, 0, (hc 5 (by decide)).trans rfl, (hc 6 (by decide)).trans rfl, (hc 7 (by decide)).trans rfl, (hc 8 (by decide)).trans rfl, (hc 9 (by decide)).trans rfl, i2.row, i2.nil, i2.max, i2.kids⟩
  · exact ⟨a3, n3, c3, k3, m3, e3, (hc 10 (by decide)).trans rfl, (hc 11 (by decide)).trans rfl, (hc 12 (by decide)).trans rfl, (hc 13 (by decide)).trans rfl, (hc 14 (by decide)).trans rfl, h3.row, h3.nil, h3.max, h3.kids⟩
  · exact ⟨a4, n4, c4, k4, m4, e4, (hc 15 (by decide)).trans rfl, (hc 16 (by decide)).trans rfl, (hc 17 (by decide)).trans rfl, (hc 18 (by decide)).trans rfl, (hc 19 (by decide)).trans rfl, h4.row, h4.nil, h4.max, h4.kids⟩
/-- What is known of a region (RJ). -/
def th3a (vn en : Int) (a : Option Addr) (n c gm : Nat) (y3 : It) (G B : Nat) : RSpec where
  m := 10
  n := 11
  slots := [10, 11, 12, 13, 14, 15, 16, 17, 18, 7, 100010]
  kills := [[], [], [], [], [], [], [], [], [], [], []]
  pres := [[], [], [], [], [], [], [], [], [], [], []]
  fact := fun k v w => match k with
    | 0 => v = .pointer (some ⟨G, 0, none⟩)
    | 1 => v = .int .i64 vn
    | 2 => ∃ g1 k1, v = .agg #[.int .i64 0, .int .i64 2, .bool false, .slice (some ⟨g1, k1, none⟩) (wsz vn) (wsz vn), .slice none 0 0] ∧ RowG B w g1 k1 (wsz vn) (wbL vn)
    | 3 => v = .pointer (some ⟨G, 1, none⟩)
    | 4 => v = .int .i64 en
    | 5 => ∃ g2 k2, v = .agg #[.int .i64 0, .int .i64 2, .bool false, .slice (some ⟨g2, k2, none⟩) (wsz en) (wsz en), .slice none 0 0] ∧ RowG B w g2 k2 (wsz en) (wbL en)
    | 6 => ∃ gr g1 k1 g2 k2, v = .slice (some ⟨gr, 0, none⟩) 2 2 ∧ w.heap[gr]? = some (.cells #[.int .i64 0, .int .i64 2, .bool false, .slice (some ⟨g1, k1, none⟩) (wsz vn) (wsz vn), .slice none 0 0, .int .i64 0, .int .i64 2, .bool false, .slice (some ⟨g2, k2, none⟩) (wsz en) (wsz en), .slice none 0 0] 117 (0, 0)) ∧ RowG B w g1 k1 (wsz vn) (wbL vn) ∧ RowG B w g2 k2 (wsz en) (wbL en)
    | 7 => v = .slice (some ⟨gm, 0, none⟩) 1 1
    | 8 => ∃ gf cf, v = .slice (some ⟨gf, 0, none⟩) 3 cf ∧ KidD 6 w gf [numI vn, numI en, y3]
    | 9 => ∃ gf cf, v = .slice (some ⟨gf, 0, none⟩) 3 cf ∧ KidD 6 w gf [numI vn, numI en, y3]
    | _ => w.heap[G]? = some (.cells #[.int .i64 vn, .int .i64 en, .slice a n c] 93 (0, 0))
set_option linter.unusedVariables false in
theorem th3a_stb (vn en : Int) (a : Option Addr) (n c gm : Nat) (y3 : It) (G B : Nat) (k : Nat) (hk : k < 11) : StB ((th3a vn en a n c gm y3 G (B)).fact k) := by
  match k, hk with
  | 0, _ => exact fun _ _ _ h _ => h
  | 1, _ => exact fun _ _ _ h _ => h
  | 2, _ => exact fun _ _ _ ⟨g1, k1, hv, q_0⟩ hb => ⟨g1, k1, hv, q_0.kept hb⟩
  | 3, _ => exact fun _ _ _ h _ => h
  | 4, _ => exact fun _ _ _ h _ => h
  | 5, _ => exact fun _ _ _ ⟨g2, k2, hv, q_0⟩ hb => ⟨g2, k2, hv, q_0.kept hb⟩
  | 6, _ => exact fun _ _ _ ⟨gr, g1, k1, g2, k2, hv, q_0, q_1, q_2⟩ hb => ⟨gr, g1, k1, g2, k2, hv, below_kept q_0 hb, q_1.kept hb, q_2.kept hb⟩
  | 7, _ => exact fun _ _ _ h _ => h
  | 8, _ => exact fun _ _ _ ⟨gf, cf, hv, q_0⟩ hb => ⟨gf, cf, hv, q_0.kept hb⟩
  | 9, _ => exact fun _ _ _ ⟨gf, cf, hv, q_0⟩ hb => ⟨gf, cf, hv, q_0.kept hb⟩
  | 10, _ => exact fun _ _ _ q_0 hb => below_kept q_0 hb
  | k + 11, hk => omega

set_option maxRecDepth 10000 in
set_option maxHeartbeats 4000000 in
theorem bodyOf1_any (vn en : Int) (a : Option Addr) (n c gm : Nat) (y3 : It) (a3 : Option Addr) (n3 c3 : Nat) (k3 : Option Addr) (m3 e3 : Nat) (l : List Int) (w : World) (hv : W64 vn) (he : W64 en) (hm : w.heap[gm]? = some (.cells #[.int .i64 y3.cls, .int .i64 y3.tag, .bool y3.cons, .slice a3 n3 c3, .slice k3 m3 e3] 117 (0, 0))) (h3 : ItV 5 (fun _ => True) w y3 a3 n3 c3 k3 m3 e3) (hl : enc 12 (boxI 13 [numI vn, numI en, y3]) = some l) :
    Calls Tryz.prog 112 #[.agg #[.int .i64 vn, .int .i64 en, .slice a n c], .int .i64 1, .slice (some ⟨gm, 0, none⟩) 1 1] w fun r w' => ∃ a' c', r = .returned (.slice a' l.length c') ∧ Own w.heap.size w' a' l.length c' l ∧ Below w.heap.size w w' := by
  obtain ⟨i0, hi, hz0, hz1, hz2⟩ := info_parts Tryz.infoIt
  obtain ⟨w1, hw1⟩ : ∃ w1, w1 = w.alloc (.cells #[.int .i64 vn, .int .i64 en, .slice a n c] 93) := ⟨_, rfl⟩
  have hbb : Below w.heap.size w w1 := by rw [hw1]; exact (Below.refl _ _).alloc (Nat.le_refl _) _
  have HB1 : Hid (w1.heap[w.heap.size]? = some (.cells #[.int .i64 vn, .int .i64 en, .slice a n c] 93 (0, 0))) := by show _ = _; rw [hw1]; exact heap_alloc_new w _
  have HGM : Hid (w1.heap[gm]? = some (.cells #[.int .i64 y3.cls, .int .i64 y3.tag, .bool y3.cons, .slice a3 n3 c3, .slice k3 m3 e3] 117 (0, 0))) := below_kept hm hbb
  have HYV3 : Hid (ItV 5 (fun _ => True) w1 y3 a3 n3 c3 k3 m3 e3) := h3.kept hbb
  have HL : Hid (_ = _) := hl
  have HBB : w1.heap.size ≤ w1.heap.size := Nat.le_refl _
  have HW : Hid (_ = _) := hw1
  clear hw1 hm h3 hl
  go_enter Tryz.func112, Tryz.ntmps112
  go_upto_region 1 with fail
  rw [← HW.out]
  clear HW
  refine wp_region_ri (th3a vn en a n c gm y3 w.heap.size (w1.heap.size)) [7, 10, 11, 12, 13, 14, 15, 16, 17, 18] (w1.heap.size) (fun a0 => a0.tmps.size = 28 ∧ aT a0 2 = .slice (some ⟨gm, 0, none⟩) 1 1 ∧ aT a0 3 = .pointer (some ⟨w.heap.size, 0, none⟩)) (by kernel_rfl) rfl (by kernel_rfl) rfl ⟨rfl, rfl, rfl⟩ (th3a_stb vn en a n c gm y3 w.heap.size (w1.heap.size)) ?_ ?_ ?_
  · intro k hk hk2
    match k, hk, hk2 with
    | 10, _, _ => exact HB1.out
    | 0, hk, _ => exact absurd hk (by show ¬ (10 ≤ 0); omega)
    | 1, hk, _ => exact absurd hk (by show ¬ (10 ≤ 1); omega)
    | 2, hk, _ => exact absurd hk (by show ¬ (10 ≤ 2); omega)
    | 3, hk, _ => exact absurd hk (by show ¬ (10 ≤ 3); omega)
    | 4, hk, _ => exact absurd hk (by show ¬ (10 ≤ 4); omega)
    | 5, hk, _ => exact absurd hk (by show ¬ (10 ≤ 5); omega)
    | 6, hk, _ => exact absurd hk (by show ¬ (10 ≤ 6); omega)
    | 7, hk, _ => exact absurd hk (by show ¬ (10 ≤ 7); omega)
    | 8, hk, _ => exact absurd hk (by show ¬ (10 ≤ 8); omega)
    | 9, hk, _ => exact absurd hk (by show ¬ (10 ≤ 9); omega)
    | k + 11, _, hk2 => exact absurd hk2 (by show ¬ (k + 11 < 11); omega)
  · rintro a0 ⟨hz, g2, g3⟩
    refine StepsRI.cons ?_ (StepsRI.cons ?_ (StepsRI.cons ?_ (StepsRI.cons ?_ (StepsRI.cons ?_ (StepsRI.cons ?_ (StepsRI.cons ?_ (StepsRI.cons ?_ (StepsRI.cons ?_ (StepsRI.cons ?_ (StepsRI.nil))))))))))
    · intro lQ b W hI hUN hED KQ hKQ
      exact opw_field 93 3 0 rfl _ ((hI.fr.same 3 (by decide)).trans g3) _ (by kernel_rfl) (hKQ.out _ _ (hI.put 0 10 rfl rfl (by rw [hz]; decide) rfl hUN rfl HBB (th3a_stb vn en a n c gm y3 w.heap.size (w1.heap.size)) (Below.refl _ _) rfl))
    · intro lQ b W hI hUN hED KQ hKQ
      have f := hI.got 0 (of_decide_eq_true rfl) (edge hED 0 (by kernel_rfl)) rfl
      have hg := (hI.vot 10 (of_decide_eq_true rfl) (of_decide_eq_true rfl) rfl)
      have hc : W.cell? ⟨w.heap.size, 0, none⟩ = some (.int .i64 vn) := (cell_of_row _ _ 0 _ _ (0, 0) hg).trans rfl
      exact opw_load1 2 10 rfl _ f _ (by simp [Instr.loadAt, go_sem, hc]) (hKQ.out _ _ (hI.put 1 11 rfl rfl (by rw [hz]; decide) rfl hUN rfl HBB (th3a_stb vn en a n c gm y3 w.heap.size (w1.heap.size)) (Below.refl _ _) rfl))
    · intro lQ b W hI hUN hED KQ hKQ
      have f0 := hI.got 1 (of_decide_eq_true rfl) (edge hED 1 (by kernel_rfl)) rfl
      replace f0 : aT b 11 = .int .i64 vn := f0
      refine opw_call 128 #[.tmp 11] _ _ _ rfl Tryz.func128 (by kernel_rfl) rfl #[.int .i64 vn] (by simp [ev, f0]) ?_
      refine (numberItem_agg vn W hv.1 hv.2).mono ?_
      rintro e W2 ⟨g1, k1, rfl, hge, hr, hb⟩
      exact ⟨_, rfl, hKQ.out _ _ (hI.put 2 12 rfl rfl (by rw [hz]; decide) rfl hUN rfl HBB (th3a_stb vn en a n c gm y3 w.heap.size (w1.heap.size)) hb ⟨g1, k1, rfl, ⟨Nat.le_trans hI.bel.size hge, hr.atG⟩⟩)⟩
    · intro lQ b W hI hUN hED KQ hKQ
      exact opw_field 93 3 1 rfl _ ((hI.fr.same 3 (by decide)).trans g3) _ (by kernel_rfl) (hKQ.out _ _ (hI.put 3 13 rfl rfl (by rw [hz]; decide) rfl hUN rfl HBB (th3a_stb vn en a n c gm y3 w.heap.size (w1.heap.size)) (Below.refl _ _) rfl))
    · intro lQ b W hI hUN hED KQ hKQ
      have f := hI.got 3 (of_decide_eq_true rfl) (edge hED 3 (by kernel_rfl)) rfl
      have hg := (hI.vot 10 (of_decide_eq_true rfl) (of_decide_eq_true rfl) rfl)
      have hc : W.cell? ⟨w.heap.size, 1, none⟩ = some (.int .i64 en) := (cell_of_row _ _ 1 _ _ (0, 0) hg).trans rfl
      exact opw_load1 2 13 rfl _ f _ (by simp [Instr.loadAt, go_sem, hc]) (hKQ.out _ _ (hI.put 4 14 rfl rfl (by rw [hz]; decide) rfl hUN rfl HBB (th3a_stb vn en a n c gm y3 w.heap.size (w1.heap.size)) (Below.refl _ _) rfl))
    · intro lQ b W hI hUN hED KQ hKQ
      have f0 := hI.got 4 (of_decide_eq_true rfl) (edge hED 4 (by kernel_rfl)) rfl
      replace f0 : aT b 14 = .int .i64 en := f0
      refine opw_call 128 #[.tmp 14] _ _ _ rfl Tryz.func128 (by kernel_rfl) rfl #[.int .i64 en] (by simp [ev, f0]) ?_
      refine (numberItem_agg en W he.1 he.2).mono ?_
      rintro e W2 ⟨g2, k2, rfl, hge, hr, hb⟩
      exact ⟨_, rfl, hKQ.out _ _ (hI.put 5 15 rfl rfl (by rw [hz]; decide) rfl hUN rfl HBB (th3a_stb vn en a n c gm y3 w.heap.size (w1.heap.size)) hb ⟨g2, k2, rfl, ⟨Nat.le_trans hI.bel.size hge, hr.atG⟩⟩)⟩
    · intro lQ b W hI hUN hED KQ hKQ
      obtain ⟨g1, k1, f0, o0⟩ := hI.got 2 (of_decide_eq_true rfl) (edge hED 2 (by kernel_rfl)) rfl
      obtain ⟨g2, k2, f1, o1⟩ := hI.got 5 (of_decide_eq_true rfl) (edge hED 5 (by kernel_rfl)) rfl
      replace f0 : aT b 12 = .agg #[.int .i64 0, .int .i64 2, .bool false, .slice (some ⟨g1, k1, none⟩) (wsz vn) (wsz vn), .slice none 0 0] := f0
      replace f1 : aT b 15 = .agg #[.int .i64 0, .int .i64 2, .bool false, .slice (some ⟨g2, k2, none⟩) (wsz en) (wsz en), .slice none 0 0] := f1
      refine opw_buildSliceT _ 2 _ rfl #[(0, .agg #[.int .i64 0, .int .i64 2, .bool false, .slice (some ⟨g1, k1, none⟩) (wsz vn) (wsz vn), .slice none 0 0]), (1, .agg #[.int .i64 0, .int .i64 2, .bool false, .slice (some ⟨g2, k2, none⟩) (wsz en) (wsz en), .slice none 0 0])] (by simp [ev, f0, f1]) (.slice (some ⟨W.heap.size, 0, none⟩) 2 2) (W.alloc (.cells #[.int .i64 0, .int .i64 2, .bool false, .slice (some ⟨g1, k1, none⟩) (wsz vn) (wsz vn), .slice none 0 0, .int .i64 0, .int .i64 2, .bool false, .slice (some ⟨g2, k2, none⟩) (wsz en) (wsz en), .slice none 0 0] 117)) (by kernel_rfl) ?_
      have hbA : Below W.heap.size W (W.alloc (.cells #[.int .i64 0, .int .i64 2, .bool false, .slice (some ⟨g1, k1, none⟩) (wsz vn) (wsz vn), .slice none 0 0, .int .i64 0, .int .i64 2, .bool false, .slice (some ⟨g2, k2, none⟩) (wsz en) (wsz en), .slice none 0 0] 117)) := (Below.refl _ _).alloc (Nat.le_refl _) _
      exact hKQ.out _ _ (hI.put 6 16 rfl rfl (by rw [hz]; decide) rfl hUN rfl HBB (th3a_stb vn en a n c gm y3 w.heap.size (w1.heap.size)) hbA ⟨W.heap.size, g1, k1, g2, k2, rfl, heap_alloc_new W _, o0.kept hbA, o1.kept hbA⟩)
    · intro lQ b W hI hUN hED KQ hKQ
      exact opw_move 2 rfl (hKQ.out _ _ (hI.put 7 17 rfl rfl (by rw [hz]; decide) rfl hUN rfl HBB (th3a_stb vn en a n c gm y3 w.heap.size (w1.heap.size)) (Below.refl _ _) ((hI.fr.same 2 (by decide)).trans g2)))
    · intro lQ b W hI hUN hED KQ hKQ
      obtain ⟨gr, g1, k1, g2, k2, f0, hgr, o0, o1⟩ := hI.got 6 (of_decide_eq_true rfl) (edge hED 6 (by kernel_rfl)) rfl
      have f1 := hI.got 7 (of_decide_eq_true rfl) (edge hED 7 (by kernel_rfl)) rfl
      replace f0 : aT b 16 = .slice (some ⟨gr, 0, none⟩) 2 2 := f0
      replace f1 : aT b 17 = .slice (some ⟨gm, 0, none⟩) 1 1 := f1
      have hmb := below_kept HGM.out hI.bel
      refine opw_append_grows 16 17 115 rfl 117 i0 _ 5 72 Tryz.underlying115 hi hz0 hz1 hz2 rfl (by decide) ⟨gr, 0, none⟩ 2 2 _ f0 rfl (World.news_of_block hgr) ⟨gm, 0, none⟩ 1 1 _ f1 rfl (World.news_of_block hmb) (by decide) (by decide) (by decide) ?_
      intro v' w' hv' hg'
      have hbW : Below W.heap.size W w' := ⟨hg'.os, hg'.tape, hg'.output, hg'.size, fun k hk => hg'.block k hk (by simp)⟩
      obtain ⟨gf, cf, rfl, _, _⟩ := hv'.form (by decide)
      exact hKQ.out _ _ (hI.put 8 18 rfl rfl (by rw [hz]; decide) rfl hUN rfl HBB (th3a_stb vn en a n c gm y3 w.heap.size (w1.heap.size)) hbW ⟨gf, cf, rfl, kidsR_n3 hv' (o0.kept hbW) (o1.kept hbW) ((HYV3.out.kept hI.bel).kept hbW) (by have := wsz_bd vn; omega) (by have := wsz_bd en; omega)⟩)
    · intro lQ b W hI hUN hED KQ hKQ
      have f := hI.got 8 (of_decide_eq_true rfl) (edge hED 8 (by kernel_rfl)) rfl
      exact opw_assign 18 rfl (hKQ.out _ _ (hI.put 9 7 rfl rfl (by rw [hz]; decide) rfl hUN rfl HBB (th3a_stb vn en a n c gm y3 w.heap.size (w1.heap.size)) (Below.refl _ _) f))
  · intro b W hf hb F
    obtain ⟨gf, cf, e7, hkf⟩ := F 9 (of_decide_eq_true rfl) rfl
    replace e7 : aT b 7 = _ := e7
    rw [hf.eq]
    simp only [puts, Act.put, List.setIfInBounds_toArray, List.set_cons_zero, List.set_cons_succ, e7]
    clear hf F e7
    generalize aT b = AT
    clear b
    have HKF : Hid (KidD 6 W gf [numI vn, numI en, y3]) := hkf
    clear hkf
    have hbW : Below w.heap.size w W := keepT hbb hb
    go_wp2_with fail
    refine (ownItem_agg 13 (some ⟨gf, 0, none⟩) 3 cf _).mono ?_
    rintro r w3 ⟨rfl, hb3⟩
    go_wp2_with fail
    refine (itemBytesD_agg 6 13 (some ⟨gf, 0, none⟩) 3 cf [numI vn, numI en, y3] l _ (HKF.out.kids.kept hb3) HL.out).mono ?_
    rintro r w4 ⟨a4, c4, rfl, ho, hb4⟩
    have k4 : Below w.heap.size w w4 := keepT hbW (keepT hb3 hb4)
    have HO : Hid (Own w.heap.size w4 a4 l.length c4 l) := ho.mono (keepT hbW hb3).size
    clear ho
    go_wp2
    go_ret
    exact ⟨a4, c4, rfl, HO.out, k4⟩

/-- What is known of a region (RJ). -/
def th3b (vn en : Int) (a : Option Addr) (n c gm : Nat) (y3 : It) (y4 : It) (G B : Nat) : RSpec where
  m := 10
  n := 11
  slots := [10, 11, 12, 13, 14, 15, 16, 17, 18, 7, 100010]
  kills := [[], [], [], [], [], [], [], [], [], [], []]
  pres := [[], [], [], [], [], [], [], [], [], [], []]
  fact := fun k v w => match k with
    | 0 => v = .pointer (some ⟨G, 0, none⟩)
    | 1 => v = .int .i64 vn
    | 2 => ∃ g1 k1, v = .agg #[.int .i64 0, .int .i64 2, .bool false, .slice (some ⟨g1, k1, none⟩) (wsz vn) (wsz vn), .slice none 0 0] ∧ RowG B w g1 k1 (wsz vn) (wbL vn)
    | 3 => v = .pointer (some ⟨G, 1, none⟩)
    | 4 => v = .int .i64 en
    | 5 => ∃ g2 k2, v = .agg #[.int .i64 0, .int .i64 2, .bool false, .slice (some ⟨g2, k2, none⟩) (wsz en) (wsz en), .slice none 0 0] ∧ RowG B w g2 k2 (wsz en) (wbL en)
    | 6 => ∃ gr g1 k1 g2 k2, v = .slice (some ⟨gr, 0, none⟩) 2 2 ∧ w.heap[gr]? = some (.cells #[.int .i64 0, .int .i64 2, .bool false, .slice (some ⟨g1, k1, none⟩) (wsz vn) (wsz vn), .slice none 0 0, .int .i64 0, .int .i64 2, .bool false, .slice (some ⟨g2, k2, none⟩) (wsz en) (wsz en), .slice none 0 0] 117 (0, 0)) ∧ RowG B w g1 k1 (wsz vn) (wbL vn) ∧ RowG B w g2 k2 (wsz en) (wbL en)
    | 7 => v = .slice (some ⟨gm, 0, none⟩) 2 2
    | 8 => ∃ gf cf, v = .slice (some ⟨gf, 0, none⟩) 4 cf ∧ KidD 2 w gf [numI vn, numI en, y3, y4]
    | 9 => ∃ gf cf, v = .slice (some ⟨gf, 0, none⟩) 4 cf ∧ KidD 2 w gf [numI vn, numI en, y3, y4]
    | _ => w.heap[G]? = some (.cells #[.int .i64 vn, .int .i64 en, .slice a n c] 93 (0, 0))
set_option linter.unusedVariables false in
theorem th3b_stb (vn en : Int) (a : Option Addr) (n c gm : Nat) (y3 : It) (y4 : It) (G B : Nat) (k : Nat) (hk : k < 11) : StB ((th3b vn en a n c gm y3 y4 G (B)).fact k) := by
  match k, hk with
  | 0, _ => exact fun _ _ _ h _ => h
  | 1, _ => exact fun _ _ _ h _ => h
  | 2, _ => exact fun _ _ _ ⟨g1, k1, hv, q_0⟩ hb => ⟨g1, k1, hv, q_0.kept hb⟩
  | 3, _ => exact fun _ _ _ h _ => h
  | 4, _ => exact fun _ _ _ h _ => h
  | 5, _ => exact fun _ _ _ ⟨g2, k2, hv, q_0⟩ hb => ⟨g2, k2, hv, q_0.kept hb⟩
  | 6, _ => exact fun _ _ _ ⟨gr, g1, k1, g2, k2, hv, q_0, q_1, q_2⟩ hb => ⟨gr, g1, k1, g2, k2, hv, below_kept q_0 hb, q_1.kept hb, q_2.kept hb⟩
  | 7, _ => exact fun _ _ _ h _ => h
  | 8, _ => exact fun _ _ _ ⟨gf, cf, hv, q_0⟩ hb => ⟨gf, cf, hv, q_0.kept hb⟩
  | 9, _ => exact fun _ _ _ ⟨gf, cf, hv, q_0⟩ hb => ⟨gf, cf, hv, q_0.kept hb⟩
  | 10, _ => exact fun _ _ _ q_0 hb => below_kept q_0 hb
  | k + 11, hk => omega

set_option maxRecDepth 10000 in
set_option maxHeartbeats 4000000 in
theorem bodyOf2_any (vn en : Int) (a : Option Addr) (n c gm : Nat) (y3 : It) (a3 : Option Addr) (n3 c3 : Nat) (k3 : Option Addr) (m3 e3 : Nat) (y4 : It) (a4 : Option Addr) (n4 c4 : Nat) (k4 : Option Addr) (m4 e4 : Nat) (l : List Int) (w : World) (hv : W64 vn) (he : W64 en) (hm : w.heap[gm]? = some (.cells #[.int .i64 y3.cls, .int .i64 y3.tag, .bool y3.cons, .slice a3 n3 c3, .slice k3 m3 e3, .int .i64 y4.cls, .int .i64 y4.tag, .bool y4.cons, .slice a4 n4 c4, .slice k4 m4 e4] 117 (0, 0))) (h3 : ItV 1 (fun _ => True) w y3 a3 n3 c3 k3 m3 e3) (h4 : ItV 1 (fun _ => True) w y4 a4 n4 c4 k4 m4 e4) (hl : enc 12 (boxI 14 [numI vn, numI en, y3, y4]) = some l) :
    Calls Tryz.prog 112 #[.agg #[.int .i64 vn, .int .i64 en, .slice a n c], .int .i64 2, .slice (some ⟨gm, 0, none⟩) 2 2] w fun r w' => ∃ a' c', r = .returned (.slice a' l.length c') ∧ Own w.heap.size w' a' l.length c' l ∧ Below w.heap.size w w' := by
  obtain ⟨i0, hi, hz0, hz1, hz2⟩ := info_parts Tryz.infoIt
  obtain ⟨w1, hw1⟩ : ∃ w1, w1 = w.alloc (.cells #[.int .i64 vn, .int .i64 en, .slice a n c] 93) := ⟨_, rfl⟩
  have hbb : Below w.heap.size w w1 := by rw [hw1]; exact (Below.refl _ _).alloc (Nat.le_refl _) _
  have HB1 : Hid (w1.heap[w.heap.size]? = some (.cells #[.int .i64 vn, .int .i64 en, .slice a n c] 93 (0, 0))) := by show _ = _; rw [hw1]; exact heap_alloc_new w _
  have HGM : Hid (w1.heap[gm]? = some (.cells #[.int .i64 y3.cls, .int .i64 y3.tag, .bool y3.cons, .slice a3 n3 c3, .slice k3 m3 e3, .int .i64 y4.cls, .int .i64 y4.tag, .bool y4.cons, .slice a4 n4 c4, .slice k4 m4 e4] 117 (0, 0))) := below_kept hm hbb
  have HYV3 : Hid (ItV 1 (fun _ => True) w1 y3 a3 n3 c3 k3 m3 e3) := h3.kept hbb
  have HYV4 : Hid (ItV 1 (fun _ => True) w1 y4 a4 n4 c4 k4 m4 e4) := h4.kept hbb
  have HL : Hid (_ = _) := hl
  have HBB : w1.heap.size ≤ w1.heap.size := Nat.le_refl _
  have HW : Hid (_ = _) := hw1
  clear hw1 hm h3 h4 hl
  go_enter Tryz.func112, Tryz.ntmps112
  go_upto_region 1 with fail
  rw [← HW.out]
  clear HW
  refine wp_region_ri (th3b vn en a n c gm y3 y4 w.heap.size (w1.heap.size)) [7, 10, 11, 12, 13, 14, 15, 16, 17, 18] (w1.heap.size) (fun a0 => a0.tmps.size = 28 ∧ aT a0 2 = .slice (some ⟨gm, 0, none⟩) 2 2 ∧ aT a0 3 = .pointer (some ⟨w.heap.size, 0, none⟩)) (by kernel_rfl) rfl (by kernel_rfl) rfl ⟨rfl, rfl, rfl⟩ (th3b_stb vn en a n c gm y3 y4 w.heap.size (w1.heap.size)) ?_ ?_ ?_
  · intro k hk hk2
    match k, hk, hk2 with
    | 10, _, _ => exact HB1.out
    | 0, hk, _ => exact absurd hk (by show ¬ (10 ≤ 0); omega)
    | 1, hk, _ => exact absurd hk (by show ¬ (10 ≤ 1); omega)
    | 2, hk, _ => exact absurd hk (by show ¬ (10 ≤ 2); omega)
    | 3, hk, _ => exact absurd hk (by show ¬ (10 ≤ 3); omega)
    | 4, hk, _ => exact absurd hk (by show ¬ (10 ≤ 4); omega)
    | 5, hk, _ => exact absurd hk (by show ¬ (10 ≤ 5); omega)
    | 6, hk, _ => exact absurd hk (by show ¬ (10 ≤ 6); omega)
    | 7, hk, _ => exact absurd hk (by show ¬ (10 ≤ 7); omega)
    | 8, hk, _ => exact absurd hk (by show ¬ (10 ≤ 8); omega)
    | 9, hk, _ => exact absurd hk (by show ¬ (10 ≤ 9); omega)
    | k + 11, _, hk2 => exact absurd hk2 (by show ¬ (k + 11 < 11); omega)
  · rintro a0 ⟨hz, g2, g3⟩
    refine StepsRI.cons ?_ (StepsRI.cons ?_ (StepsRI.cons ?_ (StepsRI.cons ?_ (StepsRI.cons ?_ (StepsRI.cons ?_ (StepsRI.cons ?_ (StepsRI.cons ?_ (StepsRI.cons ?_ (StepsRI.cons ?_ (StepsRI.nil))))))))))
    · intro lQ b W hI hUN hED KQ hKQ
      exact opw_field 93 3 0 rfl _ ((hI.fr.same 3 (by decide)).trans g3) _ (by kernel_rfl) (hKQ.out _ _ (hI.put 0 10 rfl rfl (by rw [hz]; decide) rfl hUN rfl HBB (th3b_stb vn en a n c gm y3 y4 w.heap.size (w1.heap.size)) (Below.refl _ _) rfl))
    · intro lQ b W hI hUN hED KQ hKQ
      have f := hI.got 0 (of_decide_eq_true rfl) (edge hED 0 (by kernel_rfl)) rfl
      have hg := (hI.vot 10 (of_decide_eq_true rfl) (of_decide_eq_true rfl) rfl)
      have hc : W.cell? ⟨w.heap.size, 0, none⟩ = some (.int .i64 vn) := (cell_of_row _ _ 0 _ _ (0, 0) hg).trans rfl
      exact opw_load1 2 10 rfl _ f _ (by simp [Instr.loadAt, go_sem, hc]) (hKQ.out _ _ (hI.put 1 11 rfl rfl (by rw [hz]; decide) rfl hUN rfl HBB (th3b_stb vn en a n c gm y3 y4 w.heap.size (w1.heap.size)) (Below.refl _ _) rfl))
    · intro lQ b W hI hUN hED KQ hKQ
      have f0 := hI.got 1 (of_decide_eq_true rfl) (edge hED 1 (by kernel_rfl)) rfl
      replace f0 : aT b 11 = .int .i64 vn := f0
      refine opw_call 128 #[.tmp 11] _ _ _ rfl Tryz.func128 (by kernel_rfl) rfl #[.int .i64 vn] (by simp [ev, f0]) ?_
      refine (numberItem_agg vn W hv.1 hv.2).mono ?_
      rintro e W2 ⟨g1, k1, rfl, hge, hr, hb⟩
      exact ⟨_, rfl, hKQ.out _ _ (hI.put 2 12 rfl rfl (by rw [hz]; decide) rfl hUN rfl HBB (th3b_stb vn en a n c gm y3 y4 w.heap.size (w1.heap.size)) hb ⟨g1, k1, rfl, ⟨Nat.le_trans hI.bel.size hge, hr.atG⟩⟩)⟩
    · intro lQ b W hI hUN hED KQ hKQ
      exact opw_field 93 3 1 rfl _ ((hI.fr.same 3 (by decide)).trans g3) _ (by kernel_rfl) (hKQ.out _ _ (hI.put 3 13 rfl rfl (by rw [hz]; decide) rfl hUN rfl HBB (th3b_stb vn en a n c gm y3 y4 w.heap.size (w1.heap.size)) (Below.refl _ _) rfl))
    · intro lQ b W hI hUN hED KQ hKQ
      have f := hI.got 3 (of_decide_eq_true rfl) (edge hED 3 (by kernel_rfl)) rfl
      have hg := (hI.vot 10 (of_decide_eq_true rfl) (of_decide_eq_true rfl) rfl)
      have hc : W.cell? ⟨w.heap.size, 1, none⟩ = some (.int .i64 en) := (cell_of_row _ _ 1 _ _ (0, 0) hg).trans rfl
      exact opw_load1 2 13 rfl _ f _ (by simp [Instr.loadAt, go_sem, hc]) (hKQ.out _ _ (hI.put 4 14 rfl rfl (by rw [hz]; decide) rfl hUN rfl HBB (th3b_stb vn en a n c gm y3 y4 w.heap.size (w1.heap.size)) (Below.refl _ _) rfl))
    · intro lQ b W hI hUN hED KQ hKQ
      have f0 := hI.got 4 (of_decide_eq_true rfl) (edge hED 4 (by kernel_rfl)) rfl
      replace f0 : aT b 14 = .int .i64 en := f0
      refine opw_call 128 #[.tmp 14] _ _ _ rfl Tryz.func128 (by kernel_rfl) rfl #[.int .i64 en] (by simp [ev, f0]) ?_
      refine (numberItem_agg en W he.1 he.2).mono ?_
      rintro e W2 ⟨g2, k2, rfl, hge, hr, hb⟩
      exact ⟨_, rfl, hKQ.out _ _ (hI.put 5 15 rfl rfl (by rw [hz]; decide) rfl hUN rfl HBB (th3b_stb vn en a n c gm y3 y4 w.heap.size (w1.heap.size)) hb ⟨g2, k2, rfl, ⟨Nat.le_trans hI.bel.size hge, hr.atG⟩⟩)⟩
    · intro lQ b W hI hUN hED KQ hKQ
      obtain ⟨g1, k1, f0, o0⟩ := hI.got 2 (of_decide_eq_true rfl) (edge hED 2 (by kernel_rfl)) rfl
      obtain ⟨g2, k2, f1, o1⟩ := hI.got 5 (of_decide_eq_true rfl) (edge hED 5 (by kernel_rfl)) rfl
      replace f0 : aT b 12 = .agg #[.int .i64 0, .int .i64 2, .bool false, .slice (some ⟨g1, k1, none⟩) (wsz vn) (wsz vn), .slice none 0 0] := f0
      replace f1 : aT b 15 = .agg #[.int .i64 0, .int .i64 2, .bool false, .slice (some ⟨g2, k2, none⟩) (wsz en) (wsz en), .slice none 0 0] := f1
      refine opw_buildSliceT _ 2 _ rfl #[(0, .agg #[.int .i64 0, .int .i64 2, .bool false, .slice (some ⟨g1, k1, none⟩) (wsz vn) (wsz vn), .slice none 0 0]), (1, .agg #[.int .i64 0, .int .i64 2, .bool false, .slice (some ⟨g2, k2, none⟩) (wsz en) (wsz en), .slice none 0 0])] (by simp [ev, f0, f1]) (.slice (some ⟨W.heap.size, 0, none⟩) 2 2) (W.alloc (.cells #[.int .i64 0, .int .i64 2, .bool false, .slice (some ⟨g1, k1, none⟩) (wsz vn) (wsz vn), .slice none 0 0, .int .i64 0, .int .i64 2, .bool false, .slice (some ⟨g2, k2, none⟩) (wsz en) (wsz en), .slice none 0 0] 117)) (by kernel_rfl) ?_
      have hbA : Below W.heap.size W (W.alloc (.cells #[.int .i64 0, .int .i64 2, .bool false, .slice (some ⟨g1, k1, none⟩) (wsz vn) (wsz vn), .slice none 0 0, .int .i64 0, .int .i64 2, .bool false, .slice (some ⟨g2, k2, none⟩) (wsz en) (wsz en), .slice none 0 0] 117)) := (Below.refl _ _).alloc (Nat.le_refl _) _
      exact hKQ.out _ _ (hI.put 6 16 rfl rfl (by rw [hz]; decide) rfl hUN rfl HBB (th3b_stb vn en a n c gm y3 y4 w.heap.size (w1.heap.size)) hbA ⟨W.heap.size, g1, k1, g2, k2, rfl, heap_alloc_new W _, o0.kept hbA, o1.kept hbA⟩)
    · intro lQ b W hI hUN hED KQ hKQ
      exact opw_move 2 rfl (hKQ.out _ _ (hI.put 7 17 rfl rfl (by rw [hz]; decide) rfl hUN rfl HBB (th3b_stb vn en a n c gm y3 y4 w.heap.size (w1.heap.size)) (Below.refl _ _) ((hI.fr.same 2 (by decide)).trans g2)))
    · intro lQ b W hI hUN hED KQ hKQ
      obtain ⟨gr, g1, k1, g2, k2, f0, hgr, o0, o1⟩ := hI.got 6 (of_decide_eq_true rfl) (edge hED 6 (by kernel_rfl)) rfl
      have f1 := hI.got 7 (of_decide_eq_true rfl) (edge hED 7 (by kernel_rfl)) rfl
      replace f0 : aT b 16 = .slice (some ⟨gr, 0, none⟩) 2 2 := f0
      replace f1 : aT b 17 = .slice (some ⟨gm, 0, none⟩) 2 2 := f1
      have hmb := below_kept HGM.out hI.bel
      refine opw_append_grows 16 17 115 rfl 117 i0 _ 5 72 Tryz.underlying115 hi hz0 hz1 hz2 rfl (by decide) ⟨gr, 0, none⟩ 2 2 _ f0 rfl (World.news_of_block hgr) ⟨gm, 0, none⟩ 2 2 _ f1 rfl (World.news_of_block hmb) (by decide) (by decide) (by decide) ?_
      intro v' w' hv' hg'
      have hbW : Below W.heap.size W w' := ⟨hg'.os, hg'.tape, hg'.output, hg'.size, fun k hk => hg'.block k hk (by simp)⟩
      obtain ⟨gf, cf, rfl, _, _⟩ := hv'.form (by decide)
      exact hKQ.out _ _ (hI.put 8 18 rfl rfl (by rw [hz]; decide) rfl hUN rfl HBB (th3b_stb vn en a n c gm y3 y4 w.heap.size (w1.heap.size)) hbW ⟨gf, cf, rfl, kidsR_n4 hv' (o0.kept hbW) (o1.kept hbW) ((HYV3.out.kept hI.bel).kept hbW) ((HYV4.out.kept hI.bel).kept hbW) (by have := wsz_bd vn; omega) (by have := wsz_bd en; omega)⟩)
    · intro lQ b W hI hUN hED KQ hKQ
      have f := hI.got 8 (of_decide_eq_true rfl) (edge hED 8 (by kernel_rfl)) rfl
      exact opw_assign 18 rfl (hKQ.out _ _ (hI.put 9 7 rfl rfl (by rw [hz]; decide) rfl hUN rfl HBB (th3b_stb vn en a n c gm y3 y4 w.heap.size (w1.heap.size)) (Below.refl _ _) f))
  · intro b W hf hb F
    obtain ⟨gf, cf, e7, hkf⟩ := F 9 (of_decide_eq_true rfl) rfl
    replace e7 : aT b 7 = _ := e7
    rw [hf.eq]
    simp only [puts, Act.put, List.setIfInBounds_toArray, List.set_cons_zero, List.set_cons_succ, e7]
    clear hf F e7
    generalize aT b = AT
    clear b
    have HKF : Hid (KidD 2 W gf [numI vn, numI en, y3, y4]) := hkf
    clear hkf
    have hbW : Below w.heap.size w W := keepT hbb hb
    go_wp2_with fail
    refine (ownItem_agg 14 (some ⟨gf, 0, none⟩) 4 cf _).mono ?_
    rintro r w3 ⟨rfl, hb3⟩
    go_wp2_with fail
    refine (itemBytesD_agg 2 14 (some ⟨gf, 0, none⟩) 4 cf [numI vn, numI en, y3, y4] l _ (HKF.out.kids.kept hb3) HL.out).mono ?_
    rintro r w4 ⟨a4, c4, rfl, ho, hb4⟩
    have k4 : Below w.heap.size w w4 := keepT hbW (keepT hb3 hb4)
    have HO : Hid (Own w.heap.size w4 a4 l.length c4 l) := ho.mono (keepT hbW hb3).size
    clear ho
    go_wp2
    go_ret
    exact ⟨a4, c4, rfl, HO.out, k4⟩

/-- What is known of a region (RJ). -/
def th4 (x : RfP) (ks : List It) (ae : Option Addr) (n0 c0 : Nat) (ag : Option Addr) (n1 c1 : Nat) (l : List Int) (G B : Nat) : RSpec where
  m := 8
  n := 9
  slots := [3, 4, 5, 6, 7, 8, 9, 2, 100008]
  kills := [[], [], [], [], [], [], [], [], []]
  pres := [[], [], [], [], [], [], [], [], []]
  fact := fun k v w => match k with
    | 0 => v = .pointer (some ⟨G, 0, none⟩)
    | 1 => v = .agg #[.int .i64 x.v, .int .i64 x.e, .slice ag n1 c1]
    | 2 => v = .pointer (some ⟨G, 3, none⟩)
    | 3 => v = .slice ae n0 c0
    | 4 => ∃ ao co, v = .agg #[.int .i64 0, .int .i64 17, .bool true, .slice none 0 0, .slice ao n0 co] ∧ ListD 5 w ao n0 ks
    | 5 => ∃ gm ao co, v = .slice (some ⟨gm, 0, none⟩) 1 1 ∧ w.heap[gm]? = some (.cells #[.int .i64 0, .int .i64 17, .bool true, .slice none 0 0, .slice ao n0 co] 117 (0, 0)) ∧ ListD 5 w ao n0 ks
    | 6 => ∃ a4 c4, v = .slice a4 l.length c4 ∧ Own B w a4 l.length c4 l
    | 7 => ∃ a4 c4, v = .slice a4 l.length c4 ∧ Own B w a4 l.length c4 l
    | _ => w.heap[G]? = some (.cells #[.int .i64 x.v, .int .i64 x.e, .slice ag n1 c1, .slice ae n0 c0] 95 (0, 0))
set_option linter.unusedVariables false in
theorem th4_stb (x : RfP) (ks : List It) (ae : Option Addr) (n0 c0 : Nat) (ag : Option Addr) (n1 c1 : Nat) (l : List Int) (G B : Nat) (k : Nat) (hk : k < 9) : StB ((th4 x ks ae n0 c0 ag n1 c1 l G (B)).fact k) := by
  match k, hk with
  | 0, _ => exact fun _ _ _ h _ => h
  | 1, _ => exact fun _ _ _ h _ => h
  | 2, _ => exact fun _ _ _ h _ => h
  | 3, _ => exact fun _ _ _ h _ => h
  | 4, _ => exact fun _ _ _ ⟨ao, co, hv, q_0⟩ hb => ⟨ao, co, hv, q_0.kept hb⟩
  | 5, _ => exact fun _ _ _ ⟨gm, ao, co, hv, q_0, q_1⟩ hb => ⟨gm, ao, co, hv, below_kept q_0 hb, q_1.kept hb⟩
  | 6, _ => exact fun _ _ _ ⟨a4, c4, hv, q_0⟩ hb => ⟨a4, c4, hv, q_0.kept hb⟩
  | 7, _ => exact fun _ _ _ ⟨a4, c4, hv, q_0⟩ hb => ⟨a4, c4, hv, q_0.kept hb⟩
  | 8, _ => exact fun _ _ _ q_0 hb => below_kept q_0 hb
  | k + 9, hk => omega

set_option maxRecDepth 10000 in
set_option maxHeartbeats 4000000 in
theorem rootBody_any (x : RfP) (ks : List It) (hks : ks = x.rs.map roI) (ae : Option Addr) (n0 c0 : Nat) (ag : Option Addr) (n1 c1 : Nat) (l : List Int) (w : World) (hr : Ros KT w ae n0 x.rs) (hw : RoW x.rs) (hn : n0 ≤ 1000) (hv : W64 x.v) (he : W64 x.e) (hl : enc 12 (boxI 13 [numI x.v, numI x.e, lstI ks]) = some l) :
    Calls Tryz.prog 162 #[.agg #[.int .i64 x.v, .int .i64 x.e, .slice ag n1 c1, .slice ae n0 c0]] w fun r w' => ∃ a' c', r = .returned (.slice a' l.length c') ∧ Own w.heap.size w' a' l.length c' l ∧ Below w.heap.size w w' := by
  obtain ⟨w1, hw1⟩ : ∃ w1, w1 = w.alloc (.cells #[.int .i64 x.v, .int .i64 x.e, .slice ag n1 c1, .slice ae n0 c0] 95) := ⟨_, rfl⟩
  have hbb : Below w.heap.size w w1 := by rw [hw1]; exact (Below.refl _ _).alloc (Nat.le_refl _) _
  have HB1 : Hid (w1.heap[w.heap.size]? = some (.cells #[.int .i64 x.v, .int .i64 x.e, .slice ag n1 c1, .slice ae n0 c0] 95 (0, 0))) := by show _ = _; rw [hw1]; exact heap_alloc_new w _
  have HR : Hid (∀ W, Below w1.heap.size w1 W → Ros KT W ae n0 x.rs) := fun W hW => hr.kept (keepT hbb hW)
  have HWI : Hid (RoW x.rs) := hw
  have HBO : Hid (∀ (gm : Nat) (ao : Option Addr) (n2 co : Nat) (W : World), W.heap[gm]? = some (.cells #[.int .i64 0, .int .i64 17, .bool true, .slice none 0 0, .slice ao n2 co] 117 (0, 0)) → ItV 5 (fun _ => True) W (lstI ks) none 0 0 ao n2 co → Calls Tryz.prog 112 #[.agg #[.int .i64 x.v, .int .i64 x.e, .slice ag n1 c1], .int .i64 1, .slice (some ⟨gm, 0, none⟩) 1 1] W fun r w' => ∃ a' c', r = .returned (.slice a' l.length c') ∧ Own W.heap.size w' a' l.length c' l ∧ Below W.heap.size W w') := fun gm ao n2 co W h1 h2 => bodyOf1_any x.v x.e ag n1 c1 gm (lstI ks) none 0 0 ao n2 co l W hv he h1 h2 hl
  have HBB : w1.heap.size ≤ w1.heap.size := Nat.le_refl _
  have HW : Hid (_ = _) := hw1
  clear hw1 hr hw hl
  go_enter Tryz.func162, Tryz.ntmps162
  go_upto_region 1 with fail
  rw [← HW.out]
  clear HW
  refine wp_region_ri (th4 x ks ae n0 c0 ag n1 c1 l w.heap.size (w1.heap.size)) [2, 3, 4, 5, 6, 7, 8, 9] (w1.heap.size) (fun a0 => a0.tmps.size = 10 ∧ aT a0 1 = .pointer (some ⟨w.heap.size, 0, none⟩)) (by kernel_rfl) rfl (by kernel_rfl) rfl ⟨rfl, rfl⟩ (th4_stb x ks ae n0 c0 ag n1 c1 l w.heap.size (w1.heap.size)) ?_ ?_ ?_
  · intro k hk hk2
    match k, hk, hk2 with
    | 8, _, _ => exact HB1.out
    | 0, hk, _ => exact absurd hk (by show ¬ (8 ≤ 0); omega)
    | 1, hk, _ => exact absurd hk (by show ¬ (8 ≤ 1); omega)
    | 2, hk, _ => exact absurd hk (by show ¬ (8 ≤ 2); omega)
    | 3, hk, _ => exact absurd hk (by show ¬ (8 ≤ 3); omega)
    | 4, hk, _ => exact absurd hk (by show ¬ (8 ≤ 4); omega)
    | 5, hk, _ => exact absurd hk (by show ¬ (8 ≤ 5); omega)
    | 6, hk, _ => exact absurd hk (by show ¬ (8 ≤ 6); omega)
    | 7, hk, _ => exact absurd hk (by show ¬ (8 ≤ 7); omega)
    | k + 9, _, hk2 => exact absurd hk2 (by show ¬ (k + 9 < 9); omega)
  · rintro a0 ⟨hz, g1⟩
    refine StepsRI.cons ?_ (StepsRI.cons ?_ (StepsRI.cons ?_ (StepsRI.cons ?_ (StepsRI.cons ?_ (StepsRI.cons ?_ (StepsRI.cons ?_ (StepsRI.cons ?_ (StepsRI.nil))))))))
    · intro lQ b W hI hUN hED KQ hKQ
      exact opw_field 95 1 0 rfl _ ((hI.fr.same 1 (by decide)).trans g1) _ (by kernel_rfl) (hKQ.out _ _ (hI.put 0 3 rfl rfl (by rw [hz]; decide) rfl hUN rfl HBB (th4_stb x ks ae n0 c0 ag n1 c1 l w.heap.size (w1.heap.size)) (Below.refl _ _) rfl))
    · intro lQ b W hI hUN hED KQ hKQ
      have f : aT b 3 = .pointer (some ⟨w.heap.size, 0, none⟩) := hI.got 0 (of_decide_eq_true rfl) (edge hED 0 (by kernel_rfl)) rfl
      have hg := (hI.vot 8 (of_decide_eq_true rfl) (of_decide_eq_true rfl) rfl)
      have q0 : W.cell? ⟨w.heap.size, 0, none⟩ = some (.int .i64 x.v) := (cell_of_row _ _ 0 _ _ (0, 0) hg).trans rfl
      have q1 : W.cell? ⟨w.heap.size, 1, none⟩ = some (.int .i64 x.e) := (cell_of_row _ _ 1 _ _ (0, 0) hg).trans rfl
      have q2 : W.cell? ⟨w.heap.size, 2, none⟩ = some (.slice ag n1 c1) := (cell_of_row _ _ 2 _ _ (0, 0) hg).trans rfl
      exact opw_load1 93 3 rfl _ f (.agg #[.int .i64 x.v, .int .i64 x.e, .slice ag n1 c1]) (by simp [Instr.loadAt, go_sem, q0, q1, q2]) (hKQ.out _ _ (hI.put 1 4 rfl rfl (by rw [hz]; decide) rfl hUN rfl HBB (th4_stb x ks ae n0 c0 ag n1 c1 l w.heap.size (w1.heap.size)) (Below.refl _ _) rfl))
    · intro lQ b W hI hUN hED KQ hKQ
      exact opw_field 95 1 1 rfl _ ((hI.fr.same 1 (by decide)).trans g1) _ (by kernel_rfl) (hKQ.out _ _ (hI.put 2 5 rfl rfl (by rw [hz]; decide) rfl hUN rfl HBB (th4_stb x ks ae n0 c0 ag n1 c1 l w.heap.size (w1.heap.size)) (Below.refl _ _) rfl))
    · intro lQ b W hI hUN hED KQ hKQ
      have f : aT b 5 = .pointer (some ⟨w.heap.size, 3, none⟩) := hI.got 2 (of_decide_eq_true rfl) (edge hED 2 (by kernel_rfl)) rfl
      have hg := (hI.vot 8 (of_decide_eq_true rfl) (of_decide_eq_true rfl) rfl)
      have q0 : W.cell? ⟨w.heap.size, 3, none⟩ = some (.slice ae n0 c0) := (cell_of_row _ _ 3 _ _ (0, 0) hg).trans rfl
      exact opw_load1 38 5 rfl _ f _ (by simp [Instr.loadAt, go_sem, q0]) (hKQ.out _ _ (hI.put 3 6 rfl rfl (by rw [hz]; decide) rfl hUN rfl HBB (th4_stb x ks ae n0 c0 ag n1 c1 l w.heap.size (w1.heap.size)) (Below.refl _ _) rfl))
    · intro lQ b W hI hUN hED KQ hKQ
      have f0 : aT b 6 = .slice ae n0 c0 := hI.got 3 (of_decide_eq_true rfl) (edge hED 3 (by kernel_rfl)) rfl
      refine opw_call 163 #[.tmp 6, .func 164] _ _ _ rfl Tryz.func163 (by kernel_rfl) rfl #[.slice ae n0 c0, .func (Fn.func 164) #[] #[]] (by simp [ev, f0]; rfl) ?_
      refine (listItemRo_any ae n0 c0 x.rs W (HR.out _ hI.bel) HWI.out hn).mono ?_
      rintro r W2 ⟨ao, co, rfl, hk, hb⟩
      exact ⟨_, rfl, hKQ.out _ _ (hI.put 4 7 rfl rfl (by rw [hz]; decide) rfl hUN rfl HBB (th4_stb x ks ae n0 c0 ag n1 c1 l w.heap.size (w1.heap.size)) hb ⟨ao, co, rfl, ⟨by rw [hks]; exact hk.kids.mono (fun _ _ => trivial)⟩⟩)⟩
    · intro lQ b W hI hUN hED KQ hKQ
      obtain ⟨ao, co, f0, o0⟩ := hI.got 4 (of_decide_eq_true rfl) (edge hED 4 (by kernel_rfl)) rfl
      replace f0 : aT b 7 = .agg #[.int .i64 0, .int .i64 17, .bool true, .slice none 0 0, .slice ao n0 co] := f0
      refine opw_buildSliceT _ 1 _ rfl #[(0, .agg #[.int .i64 0, .int .i64 17, .bool true, .slice none 0 0, .slice ao n0 co])] (by simp [ev, f0]) (.slice (some ⟨W.heap.size, 0, none⟩) 1 1) (W.alloc (.cells #[.int .i64 0, .int .i64 17, .bool true, .slice none 0 0, .slice ao n0 co] 117)) (by kernel_rfl) ?_
      have hbA : Below W.heap.size W (W.alloc (.cells #[.int .i64 0, .int .i64 17, .bool true, .slice none 0 0, .slice ao n0 co] 117)) := (Below.refl _ _).alloc (Nat.le_refl _) _
      exact hKQ.out _ _ (hI.put 5 8 rfl rfl (by rw [hz]; decide) rfl hUN rfl HBB (th4_stb x ks ae n0 c0 ag n1 c1 l w.heap.size (w1.heap.size)) hbA ⟨W.heap.size, ao, co, rfl, heap_alloc_new W _, o0.kept hbA⟩)
    · intro lQ b W hI hUN hED KQ hKQ
      have f0 : aT b 4 = .agg #[.int .i64 x.v, .int .i64 x.e, .slice ag n1 c1] := hI.got 1 (of_decide_eq_true rfl) (edge hED 1 (by kernel_rfl)) rfl
      obtain ⟨gm, ao, co, f1, hgm, o1⟩ := hI.got 5 (of_decide_eq_true rfl) (edge hED 5 (by kernel_rfl)) rfl
      replace f1 : aT b 8 = .slice (some ⟨gm, 0, none⟩) 1 1 := f1
      refine opw_call 112 #[.tmp 4, .const (.int .i64 1), .tmp 8] _ _ _ rfl Tryz.func112 (by kernel_rfl) rfl #[.agg #[.int .i64 x.v, .int .i64 x.e, .slice ag n1 c1], .int .i64 1, .slice (some ⟨gm, 0, none⟩) 1 1] (by simp [ev, evc, f0, f1]) ?_
      have q2 := HBO.out gm ao n0 co W hgm o1.itv
      refine q2.mono ?_
      rintro r W2 ⟨a4, c4, rfl, ho, hb⟩
      exact ⟨_, rfl, hKQ.out _ _ (hI.put 6 9 rfl rfl (by rw [hz]; decide) rfl hUN rfl HBB (th4_stb x ks ae n0 c0 ag n1 c1 l w.heap.size (w1.heap.size)) hb ⟨a4, c4, rfl, ho.mono hI.bel.size⟩)⟩
    · intro lQ b W hI hUN hED KQ hKQ
      have f := hI.got 6 (of_decide_eq_true rfl) (edge hED 6 (by kernel_rfl)) rfl
      exact opw_assign 9 rfl (hKQ.out _ _ (hI.put 7 2 rfl rfl (by rw [hz]; decide) rfl hUN rfl HBB (th4_stb x ks ae n0 c0 ag n1 c1 l w.heap.size (w1.heap.size)) (Below.refl _ _) f))
  · intro b W hf hb F
    obtain ⟨a4, c4, e2, ho⟩ := F 7 (of_decide_eq_true rfl) rfl
    replace e2 : aT b 2 = _ := e2
    rw [hf.eq]
    simp only [puts, Act.put, List.setIfInBounds_toArray, List.set_cons_zero, List.set_cons_succ, e2]
    clear hf F e2
    generalize aT b = AT
    clear b
    have HO : Hid (_) := ho.mono hbb.size
    have hbW : Below w.heap.size w W := keepT hbb hb
    clear ho
    go_wp2
    go_ret
    exact ⟨a4, c4, rfl, HO.out, hbW⟩

/-- What is known of a region (RJ). -/
def th5 (x : SfP) (ag : Option Addr) (n1 c1 : Nat) (l : List Int) (G B : Nat) : RSpec where
  m := 11
  n := 12
  slots := [3, 4, 5, 6, 7, 8, 9, 10, 11, 12, 2, 100011]
  kills := [[], [], [], [], [], [], [], [], [], [], [], []]
  pres := [[], [], [], [], [], [], [], [], [], [], [], []]
  fact := fun k v w => match k with
    | 0 => v = .pointer (some ⟨G, 0, none⟩)
    | 1 => v = .agg #[.int .i64 x.v, .int .i64 x.e, .slice ag n1 c1]
    | 2 => v = .pointer (some ⟨G, 3, none⟩)
    | 3 => v = .int .i64 x.lv
    | 4 => ∃ g1 k1, v = .agg #[.int .i64 0, .int .i64 2, .bool false, .slice (some ⟨g1, k1, none⟩) (wsz x.lv) (wsz x.lv), .slice none 0 0] ∧ RowG B w g1 k1 (wsz x.lv) (wbL x.lv)
    | 5 => v = .pointer (some ⟨G, 4, none⟩)
    | 6 => v = .int .u64 x.lh
    | 7 => ∃ g2, v = .agg #[.int .i64 0, .int .i64 4, .bool false, .slice (some ⟨g2, 0, none⟩) 8 8, .slice none 0 0] ∧ RowG B w g2 0 8 (eightI x.lh)
    | 8 => ∃ gm g1 k1 g2, v = .slice (some ⟨gm, 0, none⟩) 2 2 ∧ w.heap[gm]? = some (.cells #[.int .i64 0, .int .i64 2, .bool false, .slice (some ⟨g1, k1, none⟩) (wsz x.lv) (wsz x.lv), .slice none 0 0, .int .i64 0, .int .i64 4, .bool false, .slice (some ⟨g2, 0, none⟩) 8 8, .slice none 0 0] 117 (0, 0)) ∧ RowG B w g1 k1 (wsz x.lv) (wbL x.lv) ∧ RowG B w g2 0 8 (eightI x.lh)
    | 9 => ∃ a4 c4, v = .slice a4 l.length c4 ∧ Own B w a4 l.length c4 l
    | 10 => ∃ a4 c4, v = .slice a4 l.length c4 ∧ Own B w a4 l.length c4 l
    | _ => w.heap[G]? = some (.cells #[.int .i64 x.v, .int .i64 x.e, .slice ag n1 c1, .int .i64 x.lv, .int .u64 x.lh] 97 (0, 0))
set_option linter.unusedVariables false in
theorem th5_stb (x : SfP) (ag : Option Addr) (n1 c1 : Nat) (l : List Int) (G B : Nat) (k : Nat) (hk : k < 12) : StB ((th5 x ag n1 c1 l G (B)).fact k) := by
  match k, hk with
  | 0, _ => exact fun _ _ _ h _ => h
  | 1, _ => exact fun _ _ _ h _ => h
  | 2, _ => exact fun _ _ _ h _ => h
  | 3, _ => exact fun _ _ _ h _ => h
  | 4, _ => exact fun _ _ _ ⟨g1, k1, hv, q_0⟩ hb => ⟨g1, k1, hv, q_0.kept hb⟩
  | 5, _ => exact fun _ _ _ h _ => h
  | 6, _ => exact fun _ _ _ h _ => h
  | 7, _ => exact fun _ _ _ ⟨g2, hv, q_0⟩ hb => ⟨g2, hv, q_0.kept hb⟩
  | 8, _ => exact fun _ _ _ ⟨gm, g1, k1, g2, hv, q_0, q_1, q_2⟩ hb => ⟨gm, g1, k1, g2, hv, below_kept q_0 hb, q_1.kept hb, q_2.kept hb⟩
  | 9, _ => exact fun _ _ _ ⟨a4, c4, hv, q_0⟩ hb => ⟨a4, c4, hv, q_0.kept hb⟩
  | 10, _ => exact fun _ _ _ ⟨a4, c4, hv, q_0⟩ hb => ⟨a4, c4, hv, q_0.kept hb⟩
  | 11, _ => exact fun _ _ _ q_0 hb => below_kept q_0 hb
  | k + 12, hk => omega

set_option maxRecDepth 10000 in
set_option maxHeartbeats 4000000 in
theorem stampBody_any (x : SfP) (ag : Option Addr) (n1 c1 : Nat) (l : List Int) (w : World) (hv : W64 x.v) (he : W64 x.e) (hlv : W64 x.lv) (hlh : U64 x.lh) (hl : enc 12 (boxI 14 [numI x.v, numI x.e, numI x.lv, bytI (eightI x.lh)]) = some l) :
    Calls Tryz.prog 169 #[.agg #[.int .i64 x.v, .int .i64 x.e, .slice ag n1 c1, .int .i64 x.lv, .int .u64 x.lh]] w fun r w' => ∃ a' c', r = .returned (.slice a' l.length c') ∧ Own w.heap.size w' a' l.length c' l ∧ Below w.heap.size w w' := by
  obtain ⟨w1, hw1⟩ : ∃ w1, w1 = w.alloc (.cells #[.int .i64 x.v, .int .i64 x.e, .slice ag n1 c1, .int .i64 x.lv, .int .u64 x.lh] 97) := ⟨_, rfl⟩
  have hbb : Below w.heap.size w w1 := by rw [hw1]; exact (Below.refl _ _).alloc (Nat.le_refl _) _
  have HB1 : Hid (w1.heap[w.heap.size]? = some (.cells #[.int .i64 x.v, .int .i64 x.e, .slice ag n1 c1, .int .i64 x.lv, .int .u64 x.lh] 97 (0, 0))) := by show _ = _; rw [hw1]; exact heap_alloc_new w _
  have HBO : Hid (∀ (gm g1 k1 g2 : Nat) (W : World), W.heap[gm]? = some (.cells #[.int .i64 0, .int .i64 2, .bool false, .slice (some ⟨g1, k1, none⟩) (wsz x.lv) (wsz x.lv), .slice none 0 0, .int .i64 0, .int .i64 4, .bool false, .slice (some ⟨g2, 0, none⟩) 8 8, .slice none 0 0] 117 (0, 0)) → ItV 1 (fun _ => True) W (numI x.lv) (some ⟨g1, k1, none⟩) (wsz x.lv) (wsz x.lv) none 0 0 → ItV 1 (fun _ => True) W (bytI (eightI x.lh)) (some ⟨g2, 0, none⟩) 8 8 none 0 0 → Calls Tryz.prog 112 #[.agg #[.int .i64 x.v, .int .i64 x.e, .slice ag n1 c1], .int .i64 2, .slice (some ⟨gm, 0, none⟩) 2 2] W fun r w' => ∃ a' c', r = .returned (.slice a' l.length c') ∧ Own W.heap.size w' a' l.length c' l ∧ Below W.heap.size W w') := fun gm g1 k1 g2 W h1 h2 h3 => bodyOf2_any x.v x.e ag n1 c1 gm (numI x.lv) (some ⟨g1, k1, none⟩) (wsz x.lv) (wsz x.lv) none 0 0 (bytI (eightI x.lh)) (some ⟨g2, 0, none⟩) 8 8 none 0 0 l W hv he h1 h2 h3 hl
  have HBB : w1.heap.size ≤ w1.heap.size := Nat.le_refl _
  have HW : Hid (_ = _) := hw1
  clear hw1 hl
  go_enter Tryz.func169, Tryz.ntmps169
  go_upto_region 1 with fail
  rw [← HW.out]
  clear HW
  refine wp_region_ri (th5 x ag n1 c1 l w.heap.size (w1.heap.size)) [2, 3, 4, 5, 6, 7, 8, 9, 10, 11, 12] (w1.heap.size) (fun a0 => a0.tmps.size = 13 ∧ aT a0 1 = .pointer (some ⟨w.heap.size, 0, none⟩)) (by kernel_rfl) rfl (by kernel_rfl) rfl ⟨rfl, rfl⟩ (th5_stb x ag n1 c1 l w.heap.size (w1.heap.size)) ?_ ?_ ?_
  · intro k hk hk2
    match k, hk, hk2 with
    | 11, _, _ => exact HB1.out
    | 0, hk, _ => exact absurd hk (by show ¬ (11 ≤ 0); omega)
    | 1, hk, _ => exact absurd hk (by show ¬ (11 ≤ 1); omega)
    | 2, hk, _ => exact absurd hk (by show ¬ (11 ≤ 2); omega)
    | 3, hk, _ => exact absurd hk (by show ¬ (11 ≤ 3); omega)
    | 4, hk, _ => exact absurd hk (by show ¬ (11 ≤ 4); omega)
    | 5, hk, _ => exact absurd hk (by show ¬ (11 ≤ 5); omega)
    | 6, hk, _ => exact absurd hk (by show ¬ (11 ≤ 6); omega)
    | 7, hk, _ => exact absurd hk (by show ¬ (11 ≤ 7); omega)
    | 8, hk, _ => exact absurd hk (by show ¬ (11 ≤ 8); omega)
    | 9, hk, _ => exact absurd hk (by show ¬ (11 ≤ 9); omega)
    | 10, hk, _ => exact absurd hk (by show ¬ (11 ≤ 10); omega)
    | k + 12, _, hk2 => exact absurd hk2 (by show ¬ (k + 12 < 12); omega)
  · rintro a0 ⟨hz, g1⟩
    refine StepsRI.cons ?_ (StepsRI.cons ?_ (StepsRI.cons ?_ (StepsRI.cons ?_ (StepsRI.cons ?_ (StepsRI.cons ?_ (StepsRI.cons ?_ (StepsRI.cons ?_ (StepsRI.cons ?_ (StepsRI.cons ?_ (StepsRI.cons ?_ (StepsRI.nil)))))))))))
    · intro lQ b W hI hUN hED KQ hKQ
      exact opw_field 97 1 0 rfl _ ((hI.fr.same 1 (by decide)).trans g1) _ (by kernel_rfl) (hKQ.out _ _ (hI.put 0 3 rfl rfl (by rw [hz]; decide) rfl hUN rfl HBB (th5_stb x ag n1 c1 l w.heap.size (w1.heap.size)) (Below.refl _ _) rfl))
    · intro lQ b W hI hUN hED KQ hKQ
      have f : aT b 3 = .pointer (some ⟨w.heap.size, 0, none⟩) := hI.got 0 (of_decide_eq_true rfl) (edge hED 0 (by kernel_rfl)) rfl
      have hg := (hI.vot 11 (of_decide_eq_true rfl) (of_decide_eq_true rfl) rfl)
      have q0 : W.cell? ⟨w.heap.size, 0, none⟩ = some (.int .i64 x.v) := (cell_of_row _ _ 0 _ _ (0, 0) hg).trans rfl
      have q1 : W.cell? ⟨w.heap.size, 1, none⟩ = some (.int .i64 x.e) := (cell_of_row _ _ 1 _ _ (0, 0) hg).trans rfl
      have q2 : W.cell? ⟨w.heap.size, 2, none⟩ = some (.slice ag n1 c1) := (cell_of_row _ _ 2 _ _ (0, 0) hg).trans rfl
      exact opw_load1 93 3 rfl _ f (.agg #[.int .i64 x.v, .int .i64 x.e, .slice ag n1 c1]) (by simp [Instr.loadAt, go_sem, q0, q1, q2]) (hKQ.out _ _ (hI.put 1 4 rfl rfl (by rw [hz]; decide) rfl hUN rfl HBB (th5_stb x ag n1 c1 l w.heap.size (w1.heap.size)) (Below.refl _ _) rfl))
    · intro lQ b W hI hUN hED KQ hKQ
      exact opw_field 97 1 1 rfl _ ((hI.fr.same 1 (by decide)).trans g1) _ (by kernel_rfl) (hKQ.out _ _ (hI.put 2 5 rfl rfl (by rw [hz]; decide) rfl hUN rfl HBB (th5_stb x ag n1 c1 l w.heap.size (w1.heap.size)) (Below.refl _ _) rfl))
    · intro lQ b W hI hUN hED KQ hKQ
      have f : aT b 5 = .pointer (some ⟨w.heap.size, 3, none⟩) := hI.got 2 (of_decide_eq_true rfl) (edge hED 2 (by kernel_rfl)) rfl
      have hg := (hI.vot 11 (of_decide_eq_true rfl) (of_decide_eq_true rfl) rfl)
      have q0 : W.cell? ⟨w.heap.size, 3, none⟩ = some (.int .i64 x.lv) := (cell_of_row _ _ 3 _ _ (0, 0) hg).trans rfl
      exact opw_load1 2 5 rfl _ f _ (by simp [Instr.loadAt, go_sem, q0]) (hKQ.out _ _ (hI.put 3 6 rfl rfl (by rw [hz]; decide) rfl hUN rfl HBB (th5_stb x ag n1 c1 l w.heap.size (w1.heap.size)) (Below.refl _ _) rfl))
    · intro lQ b W hI hUN hED KQ hKQ
      have f0 := hI.got 3 (of_decide_eq_true rfl) (edge hED 3 (by kernel_rfl)) rfl
      replace f0 : aT b 6 = .int .i64 x.lv := f0
      refine opw_call 128 #[.tmp 6] _ _ _ rfl Tryz.func128 (by kernel_rfl) rfl #[.int .i64 x.lv] (by simp [ev, f0]) ?_
      refine (numberItem_agg x.lv W hlv.1 hlv.2).mono ?_
      rintro e W2 ⟨g1, k1, rfl, hge, hr, hb⟩
      exact ⟨_, rfl, hKQ.out _ _ (hI.put 4 7 rfl rfl (by rw [hz]; decide) rfl hUN rfl HBB (th5_stb x ag n1 c1 l w.heap.size (w1.heap.size)) hb ⟨g1, k1, rfl, ⟨Nat.le_trans hI.bel.size hge, hr.atG⟩⟩)⟩
    · intro lQ b W hI hUN hED KQ hKQ
      exact opw_field 97 1 2 rfl _ ((hI.fr.same 1 (by decide)).trans g1) _ (by kernel_rfl) (hKQ.out _ _ (hI.put 5 8 rfl rfl (by rw [hz]; decide) rfl hUN rfl HBB (th5_stb x ag n1 c1 l w.heap.size (w1.heap.size)) (Below.refl _ _) rfl))
    · intro lQ b W hI hUN hED KQ hKQ
      have f : aT b 8 = .pointer (some ⟨w.heap.size, 4, none⟩) := hI.got 5 (of_decide_eq_true rfl) (edge hED 5 (by kernel_rfl)) rfl
      have hg := (hI.vot 11 (of_decide_eq_true rfl) (of_decide_eq_true rfl) rfl)
      have q0 : W.cell? ⟨w.heap.size, 4, none⟩ = some (.int .u64 x.lh) := (cell_of_row _ _ 4 _ _ (0, 0) hg).trans rfl
      exact opw_load1 26 8 rfl _ f _ (by simp [Instr.loadAt, go_sem, q0]) (hKQ.out _ _ (hI.put 6 9 rfl rfl (by rw [hz]; decide) rfl hUN rfl HBB (th5_stb x ag n1 c1 l w.heap.size (w1.heap.size)) (Below.refl _ _) rfl))
    · intro lQ b W hI hUN hED KQ hKQ
      have f0 := hI.got 6 (of_decide_eq_true rfl) (edge hED 6 (by kernel_rfl)) rfl
      replace f0 : aT b 9 = .int .u64 x.lh := f0
      refine opw_call 133 #[.tmp 9] _ _ _ rfl Tryz.func133 (by kernel_rfl) rfl #[.int .u64 x.lh] (by simp [ev, f0]) ?_
      refine (digestItem_agg x.lh W hlh.1 hlh.2).mono ?_
      rintro e W2 ⟨g2, rfl, hge, hr, hb⟩
      exact ⟨_, rfl, hKQ.out _ _ (hI.put 7 10 rfl rfl (by rw [hz]; decide) rfl hUN rfl HBB (th5_stb x ag n1 c1 l w.heap.size (w1.heap.size)) hb ⟨g2, rfl, ⟨Nat.le_trans hI.bel.size hge, hr.atG⟩⟩)⟩
    · intro lQ b W hI hUN hED KQ hKQ
      obtain ⟨g1, k1, f0, o0⟩ := hI.got 4 (of_decide_eq_true rfl) (edge hED 4 (by kernel_rfl)) rfl
      obtain ⟨g2, f1, o1⟩ := hI.got 7 (of_decide_eq_true rfl) (edge hED 7 (by kernel_rfl)) rfl
      replace f0 : aT b 7 = .agg #[.int .i64 0, .int .i64 2, .bool false, .slice (some ⟨g1, k1, none⟩) (wsz x.lv) (wsz x.lv), .slice none 0 0] := f0
      replace f1 : aT b 10 = .agg #[.int .i64 0, .int .i64 4, .bool false, .slice (some ⟨g2, 0, none⟩) 8 8, .slice none 0 0] := f1
      refine opw_buildSliceT _ 2 _ rfl #[(0, .agg #[.int .i64 0, .int .i64 2, .bool false, .slice (some ⟨g1, k1, none⟩) (wsz x.lv) (wsz x.lv), .slice none 0 0]), (1, .agg #[.int .i64 0, .int .i64 4, .bool false, .slice (some ⟨g2, 0, none⟩) 8 8, .slice none 0 0])] (by simp [ev, f0, f1]) (.slice (some ⟨W.heap.size, 0, none⟩) 2 2) (W.alloc (.cells #[.int .i64 0, .int .i64 2, .bool false, .slice (some ⟨g1, k1, none⟩) (wsz x.lv) (wsz x.lv), .slice none 0 0, .int .i64 0, .int .i64 4, .bool false, .slice (some ⟨g2, 0, none⟩) 8 8, .slice none 0 0] 117)) (by kernel_rfl) ?_
      have hbA : Below W.heap.size W (W.alloc (.cells #[.int .i64 0, .int .i64 2, .bool false, .slice (some ⟨g1, k1, none⟩) (wsz x.lv) (wsz x.lv), .slice none 0 0, .int .i64 0, .int .i64 4, .bool false, .slice (some ⟨g2, 0, none⟩) 8 8, .slice none 0 0] 117)) := (Below.refl _ _).alloc (Nat.le_refl _) _
      exact hKQ.out _ _ (hI.put 8 11 rfl rfl (by rw [hz]; decide) rfl hUN rfl HBB (th5_stb x ag n1 c1 l w.heap.size (w1.heap.size)) hbA ⟨W.heap.size, g1, k1, g2, rfl, heap_alloc_new W _, o0.kept hbA, o1.kept hbA⟩)
    · intro lQ b W hI hUN hED KQ hKQ
      have f0 : aT b 4 = .agg #[.int .i64 x.v, .int .i64 x.e, .slice ag n1 c1] := hI.got 1 (of_decide_eq_true rfl) (edge hED 1 (by kernel_rfl)) rfl
      obtain ⟨gm, g1, k1, g2, f1, hgm, o1, o2⟩ := hI.got 8 (of_decide_eq_true rfl) (edge hED 8 (by kernel_rfl)) rfl
      replace f1 : aT b 11 = .slice (some ⟨gm, 0, none⟩) 2 2 := f1
      refine opw_call 112 #[.tmp 4, .const (.int .i64 2), .tmp 11] _ _ _ rfl Tryz.func112 (by kernel_rfl) rfl #[.agg #[.int .i64 x.v, .int .i64 x.e, .slice ag n1 c1], .int .i64 2, .slice (some ⟨gm, 0, none⟩) 2 2] (by simp [ev, evc, f0, f1]) ?_
      have q2 := HBO.out gm g1 k1 g2 W hgm (o1.itv 2 (by have := wsz_bd x.lv; omega) (T := fun _ => True) trivial) (o2.itv 4 (by decide) (T := fun _ => True) trivial)
      refine q2.mono ?_
      rintro r W2 ⟨a4, c4, rfl, ho, hb⟩
      exact ⟨_, rfl, hKQ.out _ _ (hI.put 9 12 rfl rfl (by rw [hz]; decide) rfl hUN rfl HBB (th5_stb x ag n1 c1 l w.heap.size (w1.heap.size)) hb ⟨a4, c4, rfl, ho.mono hI.bel.size⟩)⟩
    · intro lQ b W hI hUN hED KQ hKQ
      have f := hI.got 9 (of_decide_eq_true rfl) (edge hED 9 (by kernel_rfl)) rfl
      exact opw_assign 12 rfl (hKQ.out _ _ (hI.put 10 2 rfl rfl (by rw [hz]; decide) rfl hUN rfl HBB (th5_stb x ag n1 c1 l w.heap.size (w1.heap.size)) (Below.refl _ _) f))
  · intro b W hf hb F
    obtain ⟨a4, c4, e2, ho⟩ := F 10 (of_decide_eq_true rfl) rfl
    replace e2 : aT b 2 = _ := e2
    rw [hf.eq]
    simp only [puts, Act.put, List.setIfInBounds_toArray, List.set_cons_zero, List.set_cons_succ, e2]
    clear hf F e2
    generalize aT b = AT
    clear b
    have HO : Hid (_) := ho.mono hbb.size
    have hbW : Below w.heap.size w W := keepT hbb hb
    clear ho
    go_wp2
    go_ret
    exact ⟨a4, c4, rfl, HO.out, hbW⟩

end Go.Proofs.YtglpbgebcpijaaaGreat

set_option linter.unusedVariables false
namespace Go.Proofs.YtglpbgebcpijaaaGreat
open Go.RowKit Go.Sort

structure OwnT (B : Nat) (w : World) (a : Option Addr) (n c : Nat) (bs : List Int) : Prop where
  own : Own B w a n c bs
theorem OwnT.kept {B : Nat} {w w' : World} {a : Option Addr} {n c : Nat} {bs : List Int} (h : OwnT B w a n c bs) (hb : Below w.heap.size w w') : OwnT B w' a n c bs := ⟨h.own.kept hb⟩
theorem OwnT.touched {B gb : Nat} {w w' : World} {a : Option Addr} {n c : Nat} {bs : List Int} (h : OwnT B w a n c bs) (ht : Touch gb (gb + 1) w w') (hlt : gb < B) : OwnT B w' a n c bs := ⟨h.own.touch5 ht (by omega)⟩
theorem KidG.kidsF {B : Nat} {w : World} {g d : Nat} {ks : List It} (h : KidG B w g d ks) : Kids d w (some ⟨g, 0, none⟩) ks.length ks := by
  obtain ⟨S, h1, _⟩ := h
  exact KidsI.kids h1
theorem ListH.grown {B d : Nat} {w w' : World} {ao : Option Addr} {n : Nat} {ks : List It} {row : Option Nat} (h : ListH B d w ao n ks) (hg : w.grownBy w' row) (hlt : ∀ j, row = some j → j < B) : ListH B d w' ao n ks :=
  ⟨(h.kids.touch (fun k hk e => by have := hlt k e; have := hk.1; omega) (touchX_g hg (P := fun k => row = some k) (fun k hk => hk))).mono (fun b hs => ⟨hs.1, Nat.lt_of_lt_of_le hs.2 hg.size⟩)⟩
theorem ItG.grown {B d : Nat} {w w' : World} {x : It} {ab : Option Addr} {nb cb : Nat} {ak : Option Addr} {nk ck : Nat} {row : Option Nat} (h : ItG B d w x ab nb cb ak nk ck) (hg : w.grownBy w' row) (hlt : ∀ j, row = some j → j < B) : ItG B d w' x ab nb cb ak nk ck :=
  ⟨(h.it.touch (fun k hk e => by have := hlt k e; have := hk.1; omega) (touchX_g hg (P := fun k => row = some k) (fun k hk => hk))).mono (fun b hs => ⟨hs.1, Nat.lt_of_lt_of_le hs.2 hg.size⟩)⟩
theorem indexRo (bq oq n c kq : Nat) (W : World) (h : kq < n) : (Instr.indexAt 38 (.slice (some ⟨bq, oq, none⟩) n c) (.int .i64 (kq : Int))).run Tryz.prog W = .ok (.pointer (some ⟨bq, oq + kq * 2, none⟩)) W := by
  refine (run_indexAt_slice (P := Tryz.prog) (w := W) 38 ⟨bq, oq, none⟩ n c .i64 (kq : Int) (by kernel_rfl)).trans ?_
  rw [if_pos ⟨by omega, by omega⟩]
  have hs : (sizeOf (Tryz.prog.elem 38)).run Tryz.prog W = .ok 2 W := by kernel_rfl
  rw [hs]
  simp [Result.andThen, Addr.add_lit]
/-- What is known of a region (RJ). -/
def tp9 (y : Int × Int × Int) (R G B : Nat) : RSpec where
  m := 13
  n := 15
  slots := [3, 4, 5, 6, 7, 8, 9, 10, 11, 12, 13, 14, 100012, 100013, 100014]
  kills := [[], [], [], [], [], [], [], [], [], [], [], [], [], [], [12]]
  pres := [[], [], [], [], [], [], [], [], [], [], [], [], [], [], []]
  fact := fun k v w => match k with
    | 0 => v = .pointer (some ⟨G, 0, none⟩)
    | 1 => v = .int .i64 y.1
    | 2 => ∃ q1 d1, v = .agg #[.int .i64 0, .int .i64 2, .bool false, .slice q1 (wsz y.1) d1, .slice none 0 0] ∧ ItG R 1 w (numI y.1) q1 (wsz y.1) d1 none 0 0 ∧ G + 1 < R
    | 3 => v = .pointer (some ⟨G, 1, none⟩)
    | 4 => v = .int .u64 y.2.1
    | 5 => ∃ q0 d0, v = .slice q0 8 d0 ∧ OwnT R w q0 8 d0 (eightI y.2.1) ∧ G + 1 < R
    | 6 => ∃ q2 d2, v = .agg #[.int .i64 0, .int .i64 4, .bool false, .slice q2 8 d2, .slice none 0 0] ∧ ItG R 1 w (bytI (eightI y.2.1)) q2 8 d2 none 0 0 ∧ G + 1 < R
    | 7 => v = .pointer (some ⟨G, 2, none⟩)
    | 8 => v = .int .i64 y.2.2
    | 9 => ∃ q3 d3, v = .agg #[.int .i64 0, .int .i64 2, .bool false, .slice q3 (wsz y.2.2) d3, .slice none 0 0] ∧ ItG R 1 w (numI y.2.2) q3 (wsz y.2.2) d3 none 0 0 ∧ G + 1 < R
    | 10 => ∃ gr, v = .slice (some ⟨gr, 0, none⟩) 3 3 ∧ KidG R w gr 2 [numI y.1, bytI (eightI y.2.1), numI y.2.2] ∧ G + 1 < R
    | 11 => ∃ gr, v = .agg #[.int .i64 0, .int .i64 16, .bool true, .slice none 0 0, .slice (some ⟨gr, 0, none⟩) 3 3] ∧ KidG R w gr 2 [numI y.1, bytI (eightI y.2.1), numI y.2.2] ∧ G + 1 < R
    | 12 => ∃ gr, w.heap[(G + 1)]? = some (.cells #[.int .i64 0, .int .i64 16, .bool true, .slice none 0 0, .slice (some ⟨gr, 0, none⟩) 3 3] 117 (0, 0)) ∧ KidG R w gr 2 [numI y.1, bytI (eightI y.2.1), numI y.2.2] ∧ G + 1 < R
    | 13 => w.heap[G]? = some (.cells #[.int .i64 y.1, .int .u64 y.2.1, .int .i64 y.2.2] 120 (0, 0))
    | _ => w.heap[(G + 1)]? = some (.cells #[.int .i64 0, .int .i64 0, .bool false, .slice none 0 0, .slice none 0 0] 117 (0, 0))
set_option linter.unusedVariables false in
theorem tp9_stb (y : Int × Int × Int) (R G B : Nat) (k : Nat) (hk : k < 15) : StB ((tp9 y R G (B)).fact k) := by
  match k, hk with
  | 0, _ => exact fun _ _ _ h _ => h
  | 1, _ => exact fun _ _ _ h _ => h
  | 2, _ => exact fun _ _ _ ⟨q1, d1, hv, q_0, q_1⟩ hb => ⟨q1, d1, hv, q_0.kept hb, q_1⟩
  | 3, _ => exact fun _ _ _ h _ => h
  | 4, _ => exact fun _ _ _ h _ => h
  | 5, _ => exact fun _ _ _ ⟨q0, d0, hv, q_0, q_1⟩ hb => ⟨q0, d0, hv, q_0.kept hb, q_1⟩
  | 6, _ => exact fun _ _ _ ⟨q2, d2, hv, q_0, q_1⟩ hb => ⟨q2, d2, hv, q_0.kept hb, q_1⟩
  | 7, _ => exact fun _ _ _ h _ => h
  | 8, _ => exact fun _ _ _ h _ => h
  | 9, _ => exact fun _ _ _ ⟨q3, d3, hv, q_0, q_1⟩ hb => ⟨q3, d3, hv, q_0.kept hb, q_1⟩
  | 10, _ => exact fun _ _ _ ⟨gr, hv, q_0, q_1⟩ hb => ⟨gr, hv, q_0.kept hb, q_1⟩
  | 11, _ => exact fun _ _ _ ⟨gr, hv, q_0, q_1⟩ hb => ⟨gr, hv, q_0.kept hb, q_1⟩
  | 12, _ => exact fun _ _ _ ⟨gr, q_0, q_1, q_2⟩ hb => ⟨gr, below_kept q_0 hb, q_1.kept hb, q_2⟩
  | 13, _ => exact fun _ _ _ q_0 hb => below_kept q_0 hb
  | 14, _ => exact fun _ _ _ q_0 hb => below_kept q_0 hb
  | k + 15, hk => omega
set_option linter.unusedVariables false in
theorem tp9_st12 (y : Int × Int × Int) (R G B : Nat) {W W2 : World} {cs : Array Value} {fr : Nat × Nat} (hg : W.heap[(G + 1)]? = some (.cells cs 117 fr)) (ht : Touch ((G + 1)) ((G + 1) + 1) W W2) (k : Nat) (hk : k < 15) (hne : k ≠ 12) (hkill : 12 ∉ (tp9 y R G (B)).kill k) (v : Value) (hfact : (tp9 y R G (B)).fact k v W) : (tp9 y R G (B)).fact k v W2 := by
  match k, hk, hne, hkill, hfact with
  | 0, _, _, _, hq => exact hq
  | 1, _, _, _, hq => exact hq
  | 2, _, _, _, ⟨q1, d1, hv, q_0, q_1⟩ => exact ⟨q1, d1, hv, q_0.touched ht (by omega), q_1⟩
  | 3, _, _, _, hq => exact hq
  | 4, _, _, _, hq => exact hq
  | 5, _, _, _, ⟨q0, d0, hv, q_0, q_1⟩ => exact ⟨q0, d0, hv, q_0.touched ht (by omega), q_1⟩
  | 6, _, _, _, ⟨q2, d2, hv, q_0, q_1⟩ => exact ⟨q2, d2, hv, q_0.touched ht (by omega), q_1⟩
  | 7, _, _, _, hq => exact hq
  | 8, _, _, _, hq => exact hq
  | 9, _, _, _, ⟨q3, d3, hv, q_0, q_1⟩ => exact ⟨q3, d3, hv, q_0.touched ht (by omega), q_1⟩
  | 10, _, _, _, ⟨gr, hv, q_0, q_1⟩ => exact ⟨gr, hv, q_0.touched ht (by omega), q_1⟩
  | 11, _, _, _, ⟨gr, hv, q_0, q_1⟩ => exact ⟨gr, hv, q_0.touched ht (by omega), q_1⟩
  | 12, _, hne, _, _ => exact absurd rfl hne
  | 13, _, _, _, q_0 => exact box_box q_0 hg (by decide) ht
  | 14, _, _, hkill, _ => exact absurd (List.Mem.head _) hkill
  | k + 15, hk, _, _, _ => omega

set_option maxRecDepth 10000 in
set_option maxHeartbeats 4000000 in
theorem l9Pub_any (y : Int × Int × Int) (w : World) (hu : U64 y.2.1) :
    Calls Tryz.prog 55 #[.agg #[.int .i64 y.1, .int .u64 y.2.1, .int .i64 y.2.2]] w fun e w' => ∃ gr, e = .returned (.agg #[.int .i64 0, .int .i64 16, .bool true, .slice none 0 0, .slice (some ⟨gr, 0, none⟩) 3 3]) ∧ KidG w.heap.size w' gr 2 [numI y.1, bytI (eightI y.2.1), numI y.2.2] ∧ Below w.heap.size w w' := by
  obtain ⟨w1, hw1⟩ : ∃ w1, w1 = (w.alloc (.cells #[.int .i64 y.1, .int .u64 y.2.1, .int .i64 y.2.2] 120)).alloc (.cells #[.int .i64 0, .int .i64 0, .bool false, .slice none 0 0, .slice none 0 0] 117) := ⟨_, rfl⟩
  have hbb : Below w.heap.size w w1 := by rw [hw1]; exact ((Below.refl _ _).alloc (Nat.le_refl _) _).alloc (by simp) _
  have HB1 : Hid (_ ∧ _) := two_blocks w (.cells #[.int .i64 y.1, .int .u64 y.2.1, .int .i64 y.2.2] 120) (.cells #[.int .i64 0, .int .i64 0, .bool false, .slice none 0 0, .slice none 0 0] 117)
  rw [← hw1] at HB1
  have hsz : w1.heap.size = w.heap.size + 2 := by rw [hw1]; simp
  have HGB : w.heap.size + 1 < w1.heap.size := by omega
  have HBB : w.heap.size ≤ w1.heap.size := hbb.size
  have HW : Hid (_ = _) := hw1
  clear hw1
  go_enter Tryz.func55, Tryz.ntmps55
  go_upto_region 1 with fail
  rw [← HW.out]
  clear HW
  refine wp_region_ri (tp9 y w1.heap.size w.heap.size (w.heap.size)) [3, 4, 5, 6, 7, 8, 9, 10, 11, 12, 13, 14] (w.heap.size) (fun a0 => a0.tmps.size = 15 ∧ aT a0 1 = .pointer (some ⟨w.heap.size, 0, none⟩) ∧ aT a0 2 = .pointer (some ⟨(w.heap.size + 1), 0, none⟩)) (by kernel_rfl) rfl (by kernel_rfl) rfl ⟨rfl, rfl, rfl⟩ (tp9_stb y w1.heap.size w.heap.size (w.heap.size)) ?_ ?_ ?_
  · intro k hk hk2
    match k, hk, hk2 with
    | 13, _, _ => exact HB1.out.1
    | 14, _, _ => exact HB1.out.2
    | 0, hk, _ => exact absurd hk (by show ¬ (13 ≤ 0); omega)
    | 1, hk, _ => exact absurd hk (by show ¬ (13 ≤ 1); omega)
    | 2, hk, _ => exact absurd hk (by show ¬ (13 ≤ 2); omega)
    | 3, hk, _ => exact absurd hk (by show ¬ (13 ≤ 3); omega)
    | 4, hk, _ => exact absurd hk (by show ¬ (13 ≤ 4); omega)
    | 5, hk, _ => exact absurd hk (by show ¬ (13 ≤ 5); omega)
    | 6, hk, _ => exact absurd hk (by show ¬ (13 ≤ 6); omega)
    | 7, hk, _ => exact absurd hk (by show ¬ (13 ≤ 7); omega)
    | 8, hk, _ => exact absurd hk (by show ¬ (13 ≤ 8); omega)
    | 9, hk, _ => exact absurd hk (by show ¬ (13 ≤ 9); omega)
    | 10, hk, _ => exact absurd hk (by show ¬ (13 ≤ 10); omega)
    | 11, hk, _ => exact absurd hk (by show ¬ (13 ≤ 11); omega)
    | 12, hk, _ => exact absurd hk (by show ¬ (13 ≤ 12); omega)
    | k + 15, _, hk2 => exact absurd hk2 (by show ¬ (k + 15 < 15); omega)
  · rintro a0 ⟨hz, g1, g2⟩
    refine StepsRI.cons ?_ (StepsRI.cons ?_ (StepsRI.cons ?_ (StepsRI.cons ?_ (StepsRI.cons ?_ (StepsRI.cons ?_ (StepsRI.cons ?_ (StepsRI.cons ?_ (StepsRI.cons ?_ (StepsRI.cons ?_ (StepsRI.cons ?_ (StepsRI.cons ?_ (StepsRI.cons ?_ (StepsRI.nil)))))))))))))
    · intro lQ b W hI hUN hED KQ hKQ
      exact opw_field 120 1 0 rfl _ ((hI.fr.same 1 (by decide)).trans g1) _ (by kernel_rfl) (hKQ.out _ _ (hI.put 0 3 rfl rfl (by rw [hz]; decide) rfl hUN rfl HBB (tp9_stb y w1.heap.size w.heap.size (w.heap.size)) (Below.refl _ _) rfl))
    · intro lQ b W hI hUN hED KQ hKQ
      have f := hI.got 0 (of_decide_eq_true rfl) (edge hED 0 (by kernel_rfl)) rfl
      have hg := (hI.vot 13 (of_decide_eq_true rfl) (of_decide_eq_true rfl) rfl)
      have hc : W.cell? ⟨w.heap.size, 0, none⟩ = some (.int .i64 y.1) := (cell_of_row _ _ 0 _ _ (0, 0) hg).trans rfl
      exact opw_load1 2 3 rfl _ f _ (by simp [Instr.loadAt, go_sem, hc]) (hKQ.out _ _ (hI.put 1 4 rfl rfl (by rw [hz]; decide) rfl hUN rfl HBB (tp9_stb y w1.heap.size w.heap.size (w.heap.size)) (Below.refl _ _) rfl))
    · intro lQ b W hI hUN hED KQ hKQ
      have f0 := hI.got 1 (of_decide_eq_true rfl) (edge hED 1 (by kernel_rfl)) rfl
      replace f0 : aT b 4 = .int .i64 y.1 := f0
      refine opw_call 58 #[.tmp 4] _ _ _ rfl Tryz.func58 (by kernel_rfl) rfl #[.int .i64 y.1] (by simp [ev, f0]) ?_
      refine (l9Num_agg y.1 W).mono ?_
      rintro e W2 ⟨q1, d1, rfl, ho, hb⟩
      exact ⟨_, rfl, hKQ.out _ _ (hI.put 2 5 rfl rfl (by rw [hz]; decide) rfl hUN rfl HBB (tp9_stb y w1.heap.size w.heap.size (w.heap.size)) hb ⟨q1, d1, rfl, Own.itg (ho.mono (Nat.le_succ_of_le hI.bel.size)) 2 (by have := wsz_bd y.1; omega), HGB⟩)⟩
    · intro lQ b W hI hUN hED KQ hKQ
      exact opw_field 120 1 1 rfl _ ((hI.fr.same 1 (by decide)).trans g1) _ (by kernel_rfl) (hKQ.out _ _ (hI.put 3 6 rfl rfl (by rw [hz]; decide) rfl hUN rfl HBB (tp9_stb y w1.heap.size w.heap.size (w.heap.size)) (Below.refl _ _) rfl))
    · intro lQ b W hI hUN hED KQ hKQ
      have f := hI.got 3 (of_decide_eq_true rfl) (edge hED 3 (by kernel_rfl)) rfl
      have hg := (hI.vot 13 (of_decide_eq_true rfl) (of_decide_eq_true rfl) rfl)
      have hc : W.cell? ⟨w.heap.size, 1, none⟩ = some (.int .u64 y.2.1) := (cell_of_row _ _ 1 _ _ (0, 0) hg).trans rfl
      exact opw_load1 26 6 rfl _ f _ (by simp [Instr.loadAt, go_sem, hc]) (hKQ.out _ _ (hI.put 4 7 rfl rfl (by rw [hz]; decide) rfl hUN rfl HBB (tp9_stb y w1.heap.size w.heap.size (w.heap.size)) (Below.refl _ _) rfl))
    · intro lQ b W hI hUN hED KQ hKQ
      have f0 := hI.got 4 (of_decide_eq_true rfl) (edge hED 4 (by kernel_rfl)) rfl
      replace f0 : aT b 7 = .int .u64 y.2.1 := f0
      refine opw_call 62 #[.tmp 7] _ _ _ rfl Tryz.func62 (by kernel_rfl) rfl #[.int .u64 y.2.1] (by simp [ev, f0]) ?_
      refine (l1Eight_any y.2.1 W hu.1 hu.2).mono ?_
      rintro e W2 ⟨q0, d0, rfl, ho, hb⟩
      exact ⟨_, rfl, hKQ.out _ _ (hI.put 5 8 rfl rfl (by rw [hz]; decide) rfl hUN rfl HBB (tp9_stb y w1.heap.size w.heap.size (w.heap.size)) hb ⟨q0, d0, rfl, ⟨ho.mono hI.bel.size⟩, HGB⟩)⟩
    · intro lQ b W hI hUN hED KQ hKQ
      have f0 := hI.got 5 (of_decide_eq_true rfl) (edge hED 5 (by kernel_rfl)) rfl
      obtain ⟨q0, d0, f0, o0_0, o0_1⟩ := f0
      replace f0 : aT b 8 = .slice q0 8 d0 := f0
      refine opw_call 61 #[.tmp 8] _ _ _ rfl Tryz.func61 (by kernel_rfl) rfl #[.slice q0 8 d0] (by simp [ev, f0]) ?_
      refine (l9Bytes_agg q0 8 d0 (eightI y.2.1) W o0_0.own.toRow o0_0.own.nil (by decide)).mono ?_
      rintro e W2 ⟨q2, d2, rfl, ho, hb⟩
      exact ⟨_, rfl, hKQ.out _ _ (hI.put 6 9 rfl rfl (by rw [hz]; decide) rfl hUN rfl HBB (tp9_stb y w1.heap.size w.heap.size (w.heap.size)) hb ⟨q2, d2, rfl, Own.itg (ho.mono (Nat.le_succ_of_le hI.bel.size)) 4 (by decide), HGB⟩)⟩
    · intro lQ b W hI hUN hED KQ hKQ
      exact opw_field 120 1 2 rfl _ ((hI.fr.same 1 (by decide)).trans g1) _ (by kernel_rfl) (hKQ.out _ _ (hI.put 7 10 rfl rfl (by rw [hz]; decide) rfl hUN rfl HBB (tp9_stb y w1.heap.size w.heap.size (w.heap.size)) (Below.refl _ _) rfl))
    · intro lQ b W hI hUN hED KQ hKQ
      have f := hI.got 7 (of_decide_eq_true rfl) (edge hED 7 (by kernel_rfl)) rfl
      have hg := (hI.vot 13 (of_decide_eq_true rfl) (of_decide_eq_true rfl) rfl)
      have hc : W.cell? ⟨w.heap.size, 2, none⟩ = some (.int .i64 y.2.2) := (cell_of_row _ _ 2 _ _ (0, 0) hg).trans rfl
      exact opw_load1 2 10 rfl _ f _ (by simp [Instr.loadAt, go_sem, hc]) (hKQ.out _ _ (hI.put 8 11 rfl rfl (by rw [hz]; decide) rfl hUN rfl HBB (tp9_stb y w1.heap.size w.heap.size (w.heap.size)) (Below.refl _ _) rfl))
    · intro lQ b W hI hUN hED KQ hKQ
      have f0 := hI.got 8 (of_decide_eq_true rfl) (edge hED 8 (by kernel_rfl)) rfl
      replace f0 : aT b 11 = .int .i64 y.2.2 := f0
      refine opw_call 58 #[.tmp 11] _ _ _ rfl Tryz.func58 (by kernel_rfl) rfl #[.int .i64 y.2.2] (by simp [ev, f0]) ?_
      refine (l9Num_agg y.2.2 W).mono ?_
      rintro e W2 ⟨q3, d3, rfl, ho, hb⟩
      exact ⟨_, rfl, hKQ.out _ _ (hI.put 9 12 rfl rfl (by rw [hz]; decide) rfl hUN rfl HBB (tp9_stb y w1.heap.size w.heap.size (w.heap.size)) hb ⟨q3, d3, rfl, Own.itg (ho.mono (Nat.le_succ_of_le hI.bel.size)) 2 (by have := wsz_bd y.2.2; omega), HGB⟩)⟩
    · intro lQ b W hI hUN hED KQ hKQ
      obtain ⟨q1, d1, f0, o0, _⟩ := hI.got 2 (of_decide_eq_true rfl) (edge hED 2 (by kernel_rfl)) rfl
      obtain ⟨q2, d2, f1, o1, _⟩ := hI.got 6 (of_decide_eq_true rfl) (edge hED 6 (by kernel_rfl)) rfl
      obtain ⟨q3, d3, f2, o2, _⟩ := hI.got 9 (of_decide_eq_true rfl) (edge hED 9 (by kernel_rfl)) rfl
      replace f0 : aT b 5 = .agg #[.int .i64 0, .int .i64 2, .bool false, .slice q1 (wsz y.1) d1, .slice none 0 0] := f0
      replace f1 : aT b 9 = .agg #[.int .i64 0, .int .i64 4, .bool false, .slice q2 8 d2, .slice none 0 0] := f1
      replace f2 : aT b 12 = .agg #[.int .i64 0, .int .i64 2, .bool false, .slice q3 (wsz y.2.2) d3, .slice none 0 0] := f2
      refine opw_buildSliceT _ 3 _ rfl #[(0, .agg #[.int .i64 0, .int .i64 2, .bool false, .slice q1 (wsz y.1) d1, .slice none 0 0]), (1, .agg #[.int .i64 0, .int .i64 4, .bool false, .slice q2 8 d2, .slice none 0 0]), (2, .agg #[.int .i64 0, .int .i64 2, .bool false, .slice q3 (wsz y.2.2) d3, .slice none 0 0])] (by simp [ev, f0, f1, f2]) (.slice (some ⟨W.heap.size, 0, none⟩) 3 3) (W.alloc (.cells #[.int .i64 0, .int .i64 2, .bool false, .slice q1 (wsz y.1) d1, .slice none 0 0, .int .i64 0, .int .i64 4, .bool false, .slice q2 8 d2, .slice none 0 0, .int .i64 0, .int .i64 2, .bool false, .slice q3 (wsz y.2.2) d3, .slice none 0 0] 117)) (by kernel_rfl) ?_
      exact hKQ.out _ _ (hI.put 10 13 rfl rfl (by rw [hz]; decide) rfl hUN rfl HBB (tp9_stb y w1.heap.size w.heap.size (w.heap.size)) ((Below.refl _ _).alloc (Nat.le_refl _) _) ⟨W.heap.size, rfl, kidG_n3 hI.bel.size o0 o1 o2, HGB⟩)
    · intro lQ b W hI hUN hED KQ hKQ
      have f0 := hI.got 10 (of_decide_eq_true rfl) (edge hED 10 (by kernel_rfl)) rfl
      obtain ⟨gr, f0, o0_0, o0_1⟩ := f0
      replace f0 : aT b 13 = .slice (some ⟨gr, 0, none⟩) 3 3 := f0
      refine opw_call 56 #[.tmp 13] _ _ _ rfl Tryz.func56 (by kernel_rfl) rfl #[.slice (some ⟨gr, 0, none⟩) 3 3] (by simp [ev, f0]) ?_
      refine (l9Struct_agg (some ⟨gr, 0, none⟩) 3 3 W).mono ?_
      rintro e W2 ⟨rfl, hb⟩
      exact ⟨_, rfl, hKQ.out _ _ (hI.put 11 14 rfl rfl (by rw [hz]; decide) rfl hUN rfl HBB (tp9_stb y w1.heap.size w.heap.size (w.heap.size)) hb ⟨gr, rfl, o0_0.kept hb, HGB⟩)⟩
    · intro lQ b W hI hUN hED KQ hKQ
      have hgb := (hI.vot1 14 12 (of_decide_eq_true rfl) (of_decide_eq_true rfl) hUN rfl)
      have fb := ((hI.fr.same 2 (by decide)).trans g2)
      have f := hI.got 11 (of_decide_eq_true rfl) (edge hED 11 (by kernel_rfl)) rfl
      obtain ⟨gr, f, o_0, o_1⟩ := f
      refine wp_store_row 117 _ _ rfl ((w.heap.size + 1)) #[.int .i64 0, .int .i64 16, .bool true, .slice none 0 0, .slice (some ⟨gr, 0, none⟩) 3 3] fb f 117 _ hgb (by kernel_rfl) rfl (by simp [Value.oneCell']) ?_
      have ht := setRow_touch W ((w.heap.size + 1)) #[.int .i64 0, .int .i64 16, .bool true, .slice none 0 0, .slice (some ⟨gr, 0, none⟩) 3 3]
      exact hKQ.out _ _ (hI.store 12 (fun j hj => by cases hj) (hI.bel.trans (ht.below (by first | exact HGE2 | omega) (Nat.le_trans HBB hI.bel.size))) (tp9_st12 y w1.heap.size w.heap.size (w.heap.size) hgb ht) ⟨gr, (setRow_heap W ((w.heap.size + 1)) _ _ _ _ hgb), o_0.touched ht (by omega), o_1⟩)
  · intro b W hf hb F
    obtain ⟨gr, hbx, hk, _⟩ := F 12 (of_decide_eq_true rfl) rfl
    rw [hf.eq]
    simp only [puts, Act.put, List.setIfInBounds_toArray, List.set_cons_zero, List.set_cons_succ]
    clear hf F
    generalize aT b = AT
    clear b
    go_wp2
    try simp only [Exit.inBlock, Exit.then]
    exact bodyPost_ret (results_it rfl _ (w.heap.size + 1) rfl _ _ _ _ _ _ hbx) rfl ⟨gr, rfl, hk.mono hbb.size, hbb.trans hb⟩

/-- What is known of a region (RJ). -/
def ts9 (x : SfP) (ag : Option Addr) (n1 c1 : Nat) (l : List Int) (G B : Nat) : RSpec where
  m := 17
  n := 18
  slots := [3, 4, 5, 6, 7, 8, 9, 10, 11, 12, 13, 14, 15, 16, 17, 18, 2, 100017]
  kills := [[], [], [], [], [], [], [], [], [], [], [], [], [], [], [], [], [], []]
  pres := [[], [], [], [], [], [], [], [], [], [], [], [], [], [], [], [], [], []]
  fact := fun k v w => match k with
    | 0 => v = .pointer (some ⟨G, 0, none⟩)
    | 1 => v = .int .i64 x.v
    | 2 => ∃ q1 d1, v = .agg #[.int .i64 0, .int .i64 2, .bool false, .slice q1 (wsz x.v) d1, .slice none 0 0] ∧ ItG B 1 w (numI x.v) q1 (wsz x.v) d1 none 0 0
    | 3 => v = .pointer (some ⟨G, 1, none⟩)
    | 4 => v = .int .i64 x.e
    | 5 => ∃ q2 d2, v = .agg #[.int .i64 0, .int .i64 2, .bool false, .slice q2 (wsz x.e) d2, .slice none 0 0] ∧ ItG B 1 w (numI x.e) q2 (wsz x.e) d2 none 0 0
    | 6 => v = .pointer (some ⟨G, 2, none⟩)
    | 7 => v = .int .i64 x.lv
    | 8 => ∃ q3 d3, v = .agg #[.int .i64 0, .int .i64 2, .bool false, .slice q3 (wsz x.lv) d3, .slice none 0 0] ∧ ItG B 1 w (numI x.lv) q3 (wsz x.lv) d3 none 0 0
    | 9 => v = .pointer (some ⟨G, 3, none⟩)
    | 10 => v = .int .u64 x.lh
    | 11 => ∃ q0 d0, v = .slice q0 8 d0 ∧ OwnT B w q0 8 d0 (eightI x.lh)
    | 12 => ∃ q4 d4, v = .agg #[.int .i64 0, .int .i64 4, .bool false, .slice q4 8 d4, .slice none 0 0] ∧ ItG B 1 w (bytI (eightI x.lh)) q4 8 d4 none 0 0
    | 13 => ∃ gr, v = .slice (some ⟨gr, 0, none⟩) 4 4 ∧ KidG B w gr 2 [numI x.v, numI x.e, numI x.lv, bytI (eightI x.lh)]
    | 14 => ∃ gr, v = .agg #[.int .i64 1, .int .i64 14, .bool true, .slice none 0 0, .slice (some ⟨gr, 0, none⟩) 4 4] ∧ KidG B w gr 2 [numI x.v, numI x.e, numI x.lv, bytI (eightI x.lh)]
    | 15 => ∃ a4 c4, v = .slice a4 l.length c4 ∧ Own B w a4 l.length c4 l
    | 16 => ∃ a4 c4, v = .slice a4 l.length c4 ∧ Own B w a4 l.length c4 l
    | _ => w.heap[G]? = some (.cells #[.int .i64 x.v, .int .i64 x.e, .int .i64 x.lv, .int .u64 x.lh, .slice ag n1 c1] 43 (0, 0))
set_option linter.unusedVariables false in
theorem ts9_stb (x : SfP) (ag : Option Addr) (n1 c1 : Nat) (l : List Int) (G B : Nat) (k : Nat) (hk : k < 18) : StB ((ts9 x ag n1 c1 l G (B)).fact k) := by
  match k, hk with
  | 0, _ => exact fun _ _ _ h _ => h
  | 1, _ => exact fun _ _ _ h _ => h
  | 2, _ => exact fun _ _ _ ⟨q1, d1, hv, q_0⟩ hb => ⟨q1, d1, hv, q_0.kept hb⟩
  | 3, _ => exact fun _ _ _ h _ => h
  | 4, _ => exact fun _ _ _ h _ => h
  | 5, _ => exact fun _ _ _ ⟨q2, d2, hv, q_0⟩ hb => ⟨q2, d2, hv, q_0.kept hb⟩
  | 6, _ => exact fun _ _ _ h _ => h
  | 7, _ => exact fun _ _ _ h _ => h
  | 8, _ => exact fun _ _ _ ⟨q3, d3, hv, q_0⟩ hb => ⟨q3, d3, hv, q_0.kept hb⟩
  | 9, _ => exact fun _ _ _ h _ => h
  | 10, _ => exact fun _ _ _ h _ => h
  | 11, _ => exact fun _ _ _ ⟨q0, d0, hv, q_0⟩ hb => ⟨q0, d0, hv, q_0.kept hb⟩
  | 12, _ => exact fun _ _ _ ⟨q4, d4, hv, q_0⟩ hb => ⟨q4, d4, hv, q_0.kept hb⟩
  | 13, _ => exact fun _ _ _ ⟨gr, hv, q_0⟩ hb => ⟨gr, hv, q_0.kept hb⟩
  | 14, _ => exact fun _ _ _ ⟨gr, hv, q_0⟩ hb => ⟨gr, hv, q_0.kept hb⟩
  | 15, _ => exact fun _ _ _ ⟨a4, c4, hv, q_0⟩ hb => ⟨a4, c4, hv, q_0.kept hb⟩
  | 16, _ => exact fun _ _ _ ⟨a4, c4, hv, q_0⟩ hb => ⟨a4, c4, hv, q_0.kept hb⟩
  | 17, _ => exact fun _ _ _ q_0 hb => below_kept q_0 hb
  | k + 18, hk => omega

set_option maxRecDepth 10000 in
set_option maxHeartbeats 4000000 in
theorem l22StampBody_any (x : SfP) (ag : Option Addr) (n1 c1 : Nat) (l : List Int) (w : World) (hlh : U64 x.lh) (hl : enc 12 (boxI 14 [numI x.v, numI x.e, numI x.lv, bytI (eightI x.lh)]) = some l) :
    Calls Tryz.prog 25 #[.agg #[.int .i64 x.v, .int .i64 x.e, .int .i64 x.lv, .int .u64 x.lh, .slice ag n1 c1]] w fun r w' => ∃ a' c', r = .returned (.slice a' l.length c') ∧ Own w.heap.size w' a' l.length c' l ∧ Below w.heap.size w w' := by
  obtain ⟨w1, hw1⟩ : ∃ w1, w1 = w.alloc (.cells #[.int .i64 x.v, .int .i64 x.e, .int .i64 x.lv, .int .u64 x.lh, .slice ag n1 c1] 43) := ⟨_, rfl⟩
  have hbb : Below w.heap.size w w1 := by rw [hw1]; exact (Below.refl _ _).alloc (Nat.le_refl _) _
  have HB1 : Hid (w1.heap[w.heap.size]? = some (.cells #[.int .i64 x.v, .int .i64 x.e, .int .i64 x.lv, .int .u64 x.lh, .slice ag n1 c1] 43 (0, 0))) := by show _ = _; rw [hw1]; exact heap_alloc_new w _
  have HBY : Hid (∀ (gr : Nat) (W : World), KidG w1.heap.size W gr 2 [numI x.v, numI x.e, numI x.lv, bytI (eightI x.lh)] → Calls Tryz.prog 59 #[.agg #[.int .i64 1, .int .i64 14, .bool true, .slice none 0 0, .slice (some ⟨gr, 0, none⟩) 4 4]] W fun e w' => ∃ a' c', e = .returned (.slice a' l.length c') ∧ Own W.heap.size w' a' l.length c' l ∧ Below W.heap.size W w') := fun gr W h => l2BytesF_agg 2 14 (some ⟨gr, 0, none⟩) 4 4 [numI x.v, numI x.e, numI x.lv, bytI (eightI x.lh)] l W h.kidsF hl
  have HBB : w1.heap.size ≤ w1.heap.size := Nat.le_refl _
  have HW : Hid (_ = _) := hw1
  clear hw1 hl
  go_enter Tryz.func25, Tryz.ntmps25
  go_upto_region 1 with fail
  rw [← HW.out]
  clear HW
  refine wp_region_ri (ts9 x ag n1 c1 l w.heap.size (w1.heap.size)) [2, 3, 4, 5, 6, 7, 8, 9, 10, 11, 12, 13, 14, 15, 16, 17, 18] (w1.heap.size) (fun a0 => a0.tmps.size = 19 ∧ aT a0 1 = .pointer (some ⟨w.heap.size, 0, none⟩)) (by kernel_rfl) rfl (by kernel_rfl) rfl ⟨rfl, rfl⟩ (ts9_stb x ag n1 c1 l w.heap.size (w1.heap.size)) ?_ ?_ ?_
  · intro k hk hk2
    match k, hk, hk2 with
    | 17, _, _ => exact HB1.out
    | 0, hk, _ => exact absurd hk (by show ¬ (17 ≤ 0); omega)
    | 1, hk, _ => exact absurd hk (by show ¬ (17 ≤ 1); omega)
    | 2, hk, _ => exact absurd hk (by show ¬ (17 ≤ 2); omega)
    | 3, hk, _ => exact absurd hk (by show ¬ (17 ≤ 3); omega)
    | 4, hk, _ => exact absurd hk (by show ¬ (17 ≤ 4); omega)
    | 5, hk, _ => exact absurd hk (by show ¬ (17 ≤ 5); omega)
    | 6, hk, _ => exact absurd hk (by show ¬ (17 ≤ 6); omega)
    | 7, hk, _ => exact absurd hk (by show ¬ (17 ≤ 7); omega)
    | 8, hk, _ => exact absurd hk (by show ¬ (17 ≤ 8); omega)
    | 9, hk, _ => exact absurd hk (by show ¬ (17 ≤ 9); omega)
    | 10, hk, _ => exact absurd hk (by show ¬ (17 ≤ 10); omega)
    | 11, hk, _ => exact absurd hk (by show ¬ (17 ≤ 11); omega)
    | 12, hk, _ => exact absurd hk (by show ¬ (17 ≤ 12); omega)
    | 13, hk, _ => exact absurd hk (by show ¬ (17 ≤ 13); omega)
    | 14, hk, _ => exact absurd hk (by show ¬ (17 ≤ 14); omega)
    | 15, hk, _ => exact absurd hk (by show ¬ (17 ≤ 15); omega)
    | 16, hk, _ => exact absurd hk (by show ¬ (17 ≤ 16); omega)
    | k + 18, _, hk2 => exact absurd hk2 (by show ¬ (k + 18 < 18); omega)
  · rintro a0 ⟨hz, g1⟩
    refine StepsRI.cons ?_ (StepsRI.cons ?_ (StepsRI.cons ?_ (StepsRI.cons ?_ (StepsRI.cons ?_ (StepsRI.cons ?_ (StepsRI.cons ?_ (StepsRI.cons ?_ (StepsRI.cons ?_ (StepsRI.cons ?_ (StepsRI.cons ?_ (StepsRI.cons ?_ (StepsRI.cons ?_ (StepsRI.cons ?_ (StepsRI.cons ?_ (StepsRI.cons ?_ (StepsRI.cons ?_ (StepsRI.nil)))))))))))))))))
    · intro lQ b W hI hUN hED KQ hKQ
      exact opw_field 43 1 0 rfl _ ((hI.fr.same 1 (by decide)).trans g1) _ (by kernel_rfl) (hKQ.out _ _ (hI.put 0 3 rfl rfl (by rw [hz]; decide) rfl hUN rfl HBB (ts9_stb x ag n1 c1 l w.heap.size (w1.heap.size)) (Below.refl _ _) rfl))
    · intro lQ b W hI hUN hED KQ hKQ
      have f := hI.got 0 (of_decide_eq_true rfl) (edge hED 0 (by kernel_rfl)) rfl
      have hg := (hI.vot 17 (of_decide_eq_true rfl) (of_decide_eq_true rfl) rfl)
      have hc : W.cell? ⟨w.heap.size, 0, none⟩ = some (.int .i64 x.v) := (cell_of_row _ _ 0 _ _ (0, 0) hg).trans rfl
      exact opw_load1 2 3 rfl _ f _ (by simp [Instr.loadAt, go_sem, hc]) (hKQ.out _ _ (hI.put 1 4 rfl rfl (by rw [hz]; decide) rfl hUN rfl HBB (ts9_stb x ag n1 c1 l w.heap.size (w1.heap.size)) (Below.refl _ _) rfl))
    · intro lQ b W hI hUN hED KQ hKQ
      have f0 := hI.got 1 (of_decide_eq_true rfl) (edge hED 1 (by kernel_rfl)) rfl
      replace f0 : aT b 4 = .int .i64 x.v := f0
      refine opw_call 58 #[.tmp 4] _ _ _ rfl Tryz.func58 (by kernel_rfl) rfl #[.int .i64 x.v] (by simp [ev, f0]) ?_
      refine (l9Num_agg x.v W).mono ?_
      rintro e W2 ⟨q1, d1, rfl, ho, hb⟩
      exact ⟨_, rfl, hKQ.out _ _ (hI.put 2 5 rfl rfl (by rw [hz]; decide) rfl hUN rfl HBB (ts9_stb x ag n1 c1 l w.heap.size (w1.heap.size)) hb ⟨q1, d1, rfl, Own.itg (ho.mono (Nat.le_succ_of_le hI.bel.size)) 2 (by have := wsz_bd x.v; omega)⟩)⟩
    · intro lQ b W hI hUN hED KQ hKQ
      exact opw_field 43 1 1 rfl _ ((hI.fr.same 1 (by decide)).trans g1) _ (by kernel_rfl) (hKQ.out _ _ (hI.put 3 6 rfl rfl (by rw [hz]; decide) rfl hUN rfl HBB (ts9_stb x ag n1 c1 l w.heap.size (w1.heap.size)) (Below.refl _ _) rfl))
    · intro lQ b W hI hUN hED KQ hKQ
      have f := hI.got 3 (of_decide_eq_true rfl) (edge hED 3 (by kernel_rfl)) rfl
      have hg := (hI.vot 17 (of_decide_eq_true rfl) (of_decide_eq_true rfl) rfl)
      have hc : W.cell? ⟨w.heap.size, 1, none⟩ = some (.int .i64 x.e) := (cell_of_row _ _ 1 _ _ (0, 0) hg).trans rfl
      exact opw_load1 2 6 rfl _ f _ (by simp [Instr.loadAt, go_sem, hc]) (hKQ.out _ _ (hI.put 4 7 rfl rfl (by rw [hz]; decide) rfl hUN rfl HBB (ts9_stb x ag n1 c1 l w.heap.size (w1.heap.size)) (Below.refl _ _) rfl))
    · intro lQ b W hI hUN hED KQ hKQ
      have f0 := hI.got 4 (of_decide_eq_true rfl) (edge hED 4 (by kernel_rfl)) rfl
      replace f0 : aT b 7 = .int .i64 x.e := f0
      refine opw_call 58 #[.tmp 7] _ _ _ rfl Tryz.func58 (by kernel_rfl) rfl #[.int .i64 x.e] (by simp [ev, f0]) ?_
      refine (l9Num_agg x.e W).mono ?_
      rintro e W2 ⟨q2, d2, rfl, ho, hb⟩
      exact ⟨_, rfl, hKQ.out _ _ (hI.put 5 8 rfl rfl (by rw [hz]; decide) rfl hUN rfl HBB (ts9_stb x ag n1 c1 l w.heap.size (w1.heap.size)) hb ⟨q2, d2, rfl, Own.itg (ho.mono (Nat.le_succ_of_le hI.bel.size)) 2 (by have := wsz_bd x.e; omega)⟩)⟩
    · intro lQ b W hI hUN hED KQ hKQ
      exact opw_field 43 1 2 rfl _ ((hI.fr.same 1 (by decide)).trans g1) _ (by kernel_rfl) (hKQ.out _ _ (hI.put 6 9 rfl rfl (by rw [hz]; decide) rfl hUN rfl HBB (ts9_stb x ag n1 c1 l w.heap.size (w1.heap.size)) (Below.refl _ _) rfl))
    · intro lQ b W hI hUN hED KQ hKQ
      have f := hI.got 6 (of_decide_eq_true rfl) (edge hED 6 (by kernel_rfl)) rfl
      have hg := (hI.vot 17 (of_decide_eq_true rfl) (of_decide_eq_true rfl) rfl)
      have hc : W.cell? ⟨w.heap.size, 2, none⟩ = some (.int .i64 x.lv) := (cell_of_row _ _ 2 _ _ (0, 0) hg).trans rfl
      exact opw_load1 2 9 rfl _ f _ (by simp [Instr.loadAt, go_sem, hc]) (hKQ.out _ _ (hI.put 7 10 rfl rfl (by rw [hz]; decide) rfl hUN rfl HBB (ts9_stb x ag n1 c1 l w.heap.size (w1.heap.size)) (Below.refl _ _) rfl))
    · intro lQ b W hI hUN hED KQ hKQ
      have f0 := hI.got 7 (of_decide_eq_true rfl) (edge hED 7 (by kernel_rfl)) rfl
      replace f0 : aT b 10 = .int .i64 x.lv := f0
      refine opw_call 58 #[.tmp 10] _ _ _ rfl Tryz.func58 (by kernel_rfl) rfl #[.int .i64 x.lv] (by simp [ev, f0]) ?_
      refine (l9Num_agg x.lv W).mono ?_
      rintro e W2 ⟨q3, d3, rfl, ho, hb⟩
      exact ⟨_, rfl, hKQ.out _ _ (hI.put 8 11 rfl rfl (by rw [hz]; decide) rfl hUN rfl HBB (ts9_stb x ag n1 c1 l w.heap.size (w1.heap.size)) hb ⟨q3, d3, rfl, Own.itg (ho.mono (Nat.le_succ_of_le hI.bel.size)) 2 (by have := wsz_bd x.lv; omega)⟩)⟩
    · intro lQ b W hI hUN hED KQ hKQ
      exact opw_field 43 1 3 rfl _ ((hI.fr.same 1 (by decide)).trans g1) _ (by kernel_rfl) (hKQ.out _ _ (hI.put 9 12 rfl rfl (by rw [hz]; decide) rfl hUN rfl HBB (ts9_stb x ag n1 c1 l w.heap.size (w1.heap.size)) (Below.refl _ _) rfl))
    · intro lQ b W hI hUN hED KQ hKQ
      have f := hI.got 9 (of_decide_eq_true rfl) (edge hED 9 (by kernel_rfl)) rfl
      have hg := (hI.vot 17 (of_decide_eq_true rfl) (of_decide_eq_true rfl) rfl)
      have hc : W.cell? ⟨w.heap.size, 3, none⟩ = some (.int .u64 x.lh) := (cell_of_row _ _ 3 _ _ (0, 0) hg).trans rfl
      exact opw_load1 26 12 rfl _ f _ (by simp [Instr.loadAt, go_sem, hc]) (hKQ.out _ _ (hI.put 10 13 rfl rfl (by rw [hz]; decide) rfl hUN rfl HBB (ts9_stb x ag n1 c1 l w.heap.size (w1.heap.size)) (Below.refl _ _) rfl))
    · intro lQ b W hI hUN hED KQ hKQ
      have f0 := hI.got 10 (of_decide_eq_true rfl) (edge hED 10 (by kernel_rfl)) rfl
      replace f0 : aT b 13 = .int .u64 x.lh := f0
      refine opw_call 62 #[.tmp 13] _ _ _ rfl Tryz.func62 (by kernel_rfl) rfl #[.int .u64 x.lh] (by simp [ev, f0]) ?_
      refine (l1Eight_any x.lh W hlh.1 hlh.2).mono ?_
      rintro e W2 ⟨q0, d0, rfl, ho, hb⟩
      exact ⟨_, rfl, hKQ.out _ _ (hI.put 11 14 rfl rfl (by rw [hz]; decide) rfl hUN rfl HBB (ts9_stb x ag n1 c1 l w.heap.size (w1.heap.size)) hb ⟨q0, d0, rfl, ⟨ho.mono hI.bel.size⟩⟩)⟩
    · intro lQ b W hI hUN hED KQ hKQ
      have f0 := hI.got 11 (of_decide_eq_true rfl) (edge hED 11 (by kernel_rfl)) rfl
      obtain ⟨q0, d0, f0, o0_0⟩ := f0
      replace f0 : aT b 14 = .slice q0 8 d0 := f0
      refine opw_call 61 #[.tmp 14] _ _ _ rfl Tryz.func61 (by kernel_rfl) rfl #[.slice q0 8 d0] (by simp [ev, f0]) ?_
      refine (l9Bytes_agg q0 8 d0 (eightI x.lh) W o0_0.own.toRow o0_0.own.nil (by decide)).mono ?_
      rintro e W2 ⟨q4, d4, rfl, ho, hb⟩
      exact ⟨_, rfl, hKQ.out _ _ (hI.put 12 15 rfl rfl (by rw [hz]; decide) rfl hUN rfl HBB (ts9_stb x ag n1 c1 l w.heap.size (w1.heap.size)) hb ⟨q4, d4, rfl, Own.itg (ho.mono (Nat.le_succ_of_le hI.bel.size)) 4 (by decide)⟩)⟩
    · intro lQ b W hI hUN hED KQ hKQ
      obtain ⟨q1, d1, f0, o0⟩ := hI.got 2 (of_decide_eq_true rfl) (edge hED 2 (by kernel_rfl)) rfl
      obtain ⟨q2, d2, f1, o1⟩ := hI.got 5 (of_decide_eq_true rfl) (edge hED 5 (by kernel_rfl)) rfl
      obtain ⟨q3, d3, f2, o2⟩ := hI.got 8 (of_decide_eq_true rfl) (edge hED 8 (by kernel_rfl)) rfl
      obtain ⟨q4, d4, f3, o3⟩ := hI.got 12 (of_decide_eq_true rfl) (edge hED 12 (by kernel_rfl)) rfl
      replace f0 : aT b 5 = .agg #[.int .i64 0, .int .i64 2, .bool false, .slice q1 (wsz x.v) d1, .slice none 0 0] := f0
      replace f1 : aT b 8 = .agg #[.int .i64 0, .int .i64 2, .bool false, .slice q2 (wsz x.e) d2, .slice none 0 0] := f1
      replace f2 : aT b 11 = .agg #[.int .i64 0, .int .i64 2, .bool false, .slice q3 (wsz x.lv) d3, .slice none 0 0] := f2
      replace f3 : aT b 15 = .agg #[.int .i64 0, .int .i64 4, .bool false, .slice q4 8 d4, .slice none 0 0] := f3
      refine opw_buildSliceT _ 4 _ rfl #[(0, .agg #[.int .i64 0, .int .i64 2, .bool false, .slice q1 (wsz x.v) d1, .slice none 0 0]), (1, .agg #[.int .i64 0, .int .i64 2, .bool false, .slice q2 (wsz x.e) d2, .slice none 0 0]), (2, .agg #[.int .i64 0, .int .i64 2, .bool false, .slice q3 (wsz x.lv) d3, .slice none 0 0]), (3, .agg #[.int .i64 0, .int .i64 4, .bool false, .slice q4 8 d4, .slice none 0 0])] (by simp [ev, f0, f1, f2, f3]) (.slice (some ⟨W.heap.size, 0, none⟩) 4 4) (W.alloc (.cells #[.int .i64 0, .int .i64 2, .bool false, .slice q1 (wsz x.v) d1, .slice none 0 0, .int .i64 0, .int .i64 2, .bool false, .slice q2 (wsz x.e) d2, .slice none 0 0, .int .i64 0, .int .i64 2, .bool false, .slice q3 (wsz x.lv) d3, .slice none 0 0, .int .i64 0, .int .i64 4, .bool false, .slice q4 8 d4, .slice none 0 0] 117)) (by kernel_rfl) ?_
      exact hKQ.out _ _ (hI.put 13 16 rfl rfl (by rw [hz]; decide) rfl hUN rfl HBB (ts9_stb x ag n1 c1 l w.heap.size (w1.heap.size)) ((Below.refl _ _).alloc (Nat.le_refl _) _) ⟨W.heap.size, rfl, kidG_n4 hI.bel.size o0 o1 o2 o3⟩)
    · intro lQ b W hI hUN hED KQ hKQ
      have f2 := hI.got 13 (of_decide_eq_true rfl) (edge hED 13 (by kernel_rfl)) rfl
      obtain ⟨gr, f2, o2_0⟩ := f2
      replace f2 : aT b 16 = .slice (some ⟨gr, 0, none⟩) 4 4 := f2
      refine opw_call 60 #[.const (.int .i64 1), .const (.int .i64 14), .tmp 16] _ _ _ rfl Tryz.func60 (by kernel_rfl) rfl #[.int .i64 1, .int .i64 14, .slice (some ⟨gr, 0, none⟩) 4 4] (by simp [ev, evc, f2]) ?_
      refine (l2BoxC_agg 1 14 (some ⟨gr, 0, none⟩) 4 4 W).mono ?_
      rintro e W2 ⟨rfl, hb⟩
      exact ⟨_, rfl, hKQ.out _ _ (hI.put 14 17 rfl rfl (by rw [hz]; decide) rfl hUN rfl HBB (ts9_stb x ag n1 c1 l w.heap.size (w1.heap.size)) hb ⟨gr, rfl, o2_0.kept hb⟩)⟩
    · intro lQ b W hI hUN hED KQ hKQ
      obtain ⟨gr, f0, o0⟩ := hI.got 14 (of_decide_eq_true rfl) (edge hED 14 (by kernel_rfl)) rfl
      replace f0 : aT b 17 = .agg #[.int .i64 1, .int .i64 14, .bool true, .slice none 0 0, .slice (some ⟨gr, 0, none⟩) 4 4] := f0
      refine opw_call 59 #[.tmp 17] _ _ _ rfl Tryz.func59 (by kernel_rfl) rfl #[.agg #[.int .i64 1, .int .i64 14, .bool true, .slice none 0 0, .slice (some ⟨gr, 0, none⟩) 4 4]] (by simp [ev, f0]) ?_
      refine (HBY.out gr W o0).mono ?_
      rintro r W2 ⟨a4, c4, rfl, ho, hb⟩
      exact ⟨_, rfl, hKQ.out _ _ (hI.put 15 18 rfl rfl (by rw [hz]; decide) rfl hUN rfl HBB (ts9_stb x ag n1 c1 l w.heap.size (w1.heap.size)) hb ⟨a4, c4, rfl, ho.mono hI.bel.size⟩)⟩
    · intro lQ b W hI hUN hED KQ hKQ
      have f := hI.got 15 (of_decide_eq_true rfl) (edge hED 15 (by kernel_rfl)) rfl
      exact opw_assign 18 rfl (hKQ.out _ _ (hI.put 16 2 rfl rfl (by rw [hz]; decide) rfl hUN rfl HBB (ts9_stb x ag n1 c1 l w.heap.size (w1.heap.size)) (Below.refl _ _) f))
  · intro b W hf hb F
    obtain ⟨a4, c4, e2, ho⟩ := F 16 (of_decide_eq_true rfl) rfl
    replace e2 : aT b 2 = _ := e2
    rw [hf.eq]
    simp only [puts, Act.put, List.setIfInBounds_toArray, List.set_cons_zero, List.set_cons_succ, e2]
    clear hf F e2
    generalize aT b = AT
    clear b
    have HO : Hid (Own w.heap.size W a4 l.length c4 l) := ho.mono hbb.size
    have hbW : Below w.heap.size w W := keepT hbb hb
    clear ho
    go_wp2
    go_ret
    exact ⟨a4, c4, rfl, HO.out, hbW⟩

end Go.Proofs.YtglpbgebcpijaaaGreat

set_option linter.unusedVariables false
namespace Go.Proofs.YtglpbgebcpijaaaGreat
open Go.RowKit Go.Sort

/-- What is known of a region (RJ). -/
def tr5 (x : RfP) (b0 off n c : Nat) (ag : Option Addr) (n1 c1 : Nat) (y : RoP) (kl : List It) (ak : Option Addr) (m1 ck : Nat) (ao : Option Addr) (kq cc : Nat) (es0 : List It) (Q R G B : Nat) : RSpec where
  m := 15
  n := 19
  slots := [40, 41, 42, 43, 44, 45, 46, 47, 48, 49, 50, 51, 52, 53, 3, 100015, 100016, 3, 100018]
  kills := [[], [], [], [], [], [], [], [], [], [], [], [], [], [], [], [], [13], [14], []]
  pres := [[], [], [], [], [], [], [], [], [], [], [], [], [], [0], [13], [], [], [], []]
  fact := fun k v w => match k with
    | 0 => v = .slice ao kq cc
    | 1 => v = .slice ak m1 ck
    | 2 => v = .agg #[.int .i64 0, .int .i64 17, .bool true, .slice none 0 0, .slice ak m1 ck] ∧ ListH Q 3 w ak m1 kl
    | 3 => v = .pointer (some ⟨G, 2, none⟩)
    | 4 => v = .slice (some ⟨b0, off, none⟩) n c
    | 5 => v = .int .i64 (kq : Int)
    | 6 => v = .pointer (some ⟨b0, off + kq * 2, none⟩)
    | 7 => v = .pointer (some ⟨b0, off + kq * 2 + 1, none⟩)
    | 8 => v = .int .i64 y.need
    | 9 => ∃ q2 d2, v = .agg #[.int .i64 0, .int .i64 2, .bool false, .slice q2 (wsz y.need) d2, .slice none 0 0] ∧ ItG Q 1 w (numI y.need) q2 (wsz y.need) d2 none 0 0
    | 10 => ∃ gr, v = .slice (some ⟨gr, 0, none⟩) 2 2 ∧ KidG Q w gr 4 [lstI kl, numI y.need]
    | 11 => ∃ gr, v = .agg #[.int .i64 0, .int .i64 16, .bool true, .slice none 0 0, .slice (some ⟨gr, 0, none⟩) 2 2] ∧ KidG Q w gr 4 [lstI kl, numI y.need]
    | 12 => ∃ g8 gr, v = .slice (some ⟨g8, 0, none⟩) 1 1 ∧ w.heap[g8]? = some (.cells #[.int .i64 0, .int .i64 16, .bool true, .slice none 0 0, .slice (some ⟨gr, 0, none⟩) 2 2] 117 (0, 0)) ∧ KidG Q w gr 4 [lstI kl, numI y.need] ∧ Q ≤ g8
    | 13 => ∃ gf cf, v = .slice (some ⟨gf, 0, none⟩) (kq + 1) cf ∧ OwnItR 4 R w (some ⟨gf, 0, none⟩) (kq + 1) cf (es0 ++ [roI y])
    | 14 => ∃ gf cf, v = .slice (some ⟨gf, 0, none⟩) (kq + 1) cf ∧ OwnItR 4 R w (some ⟨gf, 0, none⟩) (kq + 1) cf (es0 ++ [roI y])
    | 15 => w.heap[G]? = some (.cells #[.int .i64 x.v, .int .i64 x.e, .slice (some ⟨b0, off, none⟩) n c, .slice ag n1 c1] 41 (0, 0))
    | 16 => OwnItR 4 R w ao kq cc es0
    | 17 => v = .slice ao kq cc
    | _ => ListH Q 3 w ak m1 kl
set_option linter.unusedVariables false in
theorem tr5_stb (x : RfP) (b0 off n c : Nat) (ag : Option Addr) (n1 c1 : Nat) (y : RoP) (kl : List It) (ak : Option Addr) (m1 ck : Nat) (ao : Option Addr) (kq cc : Nat) (es0 : List It) (Q R G B : Nat) (k : Nat) (hk : k < 19) : StB ((tr5 x b0 off n c ag n1 c1 y kl ak m1 ck ao kq cc es0 Q R G (B)).fact k) := by
  match k, hk with
  | 0, _ => exact fun _ _ _ h _ => h
  | 1, _ => exact fun _ _ _ h _ => h
  | 2, _ => exact fun _ _ _ ⟨hv, q_0⟩ hb => ⟨hv, q_0.kept hb⟩
  | 3, _ => exact fun _ _ _ h _ => h
  | 4, _ => exact fun _ _ _ h _ => h
  | 5, _ => exact fun _ _ _ h _ => h
  | 6, _ => exact fun _ _ _ h _ => h
  | 7, _ => exact fun _ _ _ h _ => h
  | 8, _ => exact fun _ _ _ h _ => h
  | 9, _ => exact fun _ _ _ ⟨q2, d2, hv, q_0⟩ hb => ⟨q2, d2, hv, q_0.kept hb⟩
  | 10, _ => exact fun _ _ _ ⟨gr, hv, q_0⟩ hb => ⟨gr, hv, q_0.kept hb⟩
  | 11, _ => exact fun _ _ _ ⟨gr, hv, q_0⟩ hb => ⟨gr, hv, q_0.kept hb⟩
  | 12, _ => exact fun _ _ _ ⟨g8, gr, hv, q_0, q_1, q_2⟩ hb => ⟨g8, gr, hv, below_kept q_0 hb, q_1.kept hb, q_2⟩
  | 13, _ => exact fun _ _ _ ⟨gf, cf, hv, q_0⟩ hb => ⟨gf, cf, hv, q_0.kept hb⟩
  | 14, _ => exact fun _ _ _ ⟨gf, cf, hv, q_0⟩ hb => ⟨gf, cf, hv, q_0.kept hb⟩
  | 15, _ => exact fun _ _ _ q_0 hb => below_kept q_0 hb
  | 16, _ => exact fun _ _ _ q_0 hb => q_0.kept hb
  | 17, _ => exact fun _ _ _ h _ => h
  | 18, _ => exact fun _ _ _ q_0 hb => q_0.kept hb
  | k + 19, hk => omega

/-- What is known of a region (RJ). -/
def tr6 (x : RfP) (ks : List It) (ae : Option Addr) (n c : Nat) (ag : Option Addr) (n1 c1 : Nat) (ao : Option Addr) (cc : Nat) (l : List Int) (R G B : Nat) : RSpec where
  m := 12
  n := 13
  slots := [54, 55, 56, 57, 58, 59, 60, 61, 62, 63, 64, 2, 100012]
  kills := [[], [], [], [], [], [], [], [], [], [], [], [], []]
  pres := [[], [], [], [], [], [], [], [], [], [], [], [], []]
  fact := fun k v w => match k with
    | 0 => v = .pointer (some ⟨G, 0, none⟩)
    | 1 => v = .int .i64 x.v
    | 2 => ∃ q1 d1, v = .agg #[.int .i64 0, .int .i64 2, .bool false, .slice q1 (wsz x.v) d1, .slice none 0 0] ∧ ItG R 1 w (numI x.v) q1 (wsz x.v) d1 none 0 0
    | 3 => v = .pointer (some ⟨G, 1, none⟩)
    | 4 => v = .int .i64 x.e
    | 5 => ∃ q2 d2, v = .agg #[.int .i64 0, .int .i64 2, .bool false, .slice q2 (wsz x.e) d2, .slice none 0 0] ∧ ItG R 1 w (numI x.e) q2 (wsz x.e) d2 none 0 0
    | 6 => v = .slice ao n cc
    | 7 => v = .agg #[.int .i64 0, .int .i64 17, .bool true, .slice none 0 0, .slice ao n cc]
    | 8 => ∃ gr, v = .slice (some ⟨gr, 0, none⟩) 3 3 ∧ KidG R w gr 6 [numI x.v, numI x.e, lstI ks]
    | 9 => ∃ gr, v = .agg #[.int .i64 1, .int .i64 13, .bool true, .slice none 0 0, .slice (some ⟨gr, 0, none⟩) 3 3] ∧ KidG R w gr 6 [numI x.v, numI x.e, lstI ks]
    | 10 => ∃ a4 c4, v = .slice a4 l.length c4 ∧ Own B w a4 l.length c4 l
    | 11 => ∃ a4 c4, v = .slice a4 l.length c4 ∧ Own B w a4 l.length c4 l
    | _ => w.heap[G]? = some (.cells #[.int .i64 x.v, .int .i64 x.e, .slice ae n c, .slice ag n1 c1] 41 (0, 0))
set_option linter.unusedVariables false in
theorem tr6_stb (x : RfP) (ks : List It) (ae : Option Addr) (n c : Nat) (ag : Option Addr) (n1 c1 : Nat) (ao : Option Addr) (cc : Nat) (l : List Int) (R G B : Nat) (k : Nat) (hk : k < 13) : StB ((tr6 x ks ae n c ag n1 c1 ao cc l R G (B)).fact k) := by
  match k, hk with
  | 0, _ => exact fun _ _ _ h _ => h
  | 1, _ => exact fun _ _ _ h _ => h
  | 2, _ => exact fun _ _ _ ⟨q1, d1, hv, q_0⟩ hb => ⟨q1, d1, hv, q_0.kept hb⟩
  | 3, _ => exact fun _ _ _ h _ => h
  | 4, _ => exact fun _ _ _ h _ => h
  | 5, _ => exact fun _ _ _ ⟨q2, d2, hv, q_0⟩ hb => ⟨q2, d2, hv, q_0.kept hb⟩
  | 6, _ => exact fun _ _ _ h _ => h
  | 7, _ => exact fun _ _ _ h _ => h
  | 8, _ => exact fun _ _ _ ⟨gr, hv, q_0⟩ hb => ⟨gr, hv, q_0.kept hb⟩
  | 9, _ => exact fun _ _ _ ⟨gr, hv, q_0⟩ hb => ⟨gr, hv, q_0.kept hb⟩
  | 10, _ => exact fun _ _ _ ⟨a4, c4, hv, q_0⟩ hb => ⟨a4, c4, hv, q_0.kept hb⟩
  | 11, _ => exact fun _ _ _ ⟨a4, c4, hv, q_0⟩ hb => ⟨a4, c4, hv, q_0.kept hb⟩
  | 12, _ => exact fun _ _ _ q_0 hb => below_kept q_0 hb
  | k + 13, hk => omega

set_option maxRecDepth 10000 in
set_option maxHeartbeats 8000000 in
theorem l22RootBody_any (x : RfP) (ks : List It) (hks : ks = x.rs.map roI) (ae : Option Addr) (n c : Nat) (ag : Option Addr) (n1 c1 : Nat) (l : List Int) (w : World) (hr : Ros KT w ae n x.rs) (hw : RoW x.rs) (hn : n ≤ 1000) (hl : enc 12 (boxI 13 [numI x.v, numI x.e, lstI ks]) = some l) :
    Calls Tryz.prog 23 #[.agg #[.int .i64 x.v, .int .i64 x.e, .slice ae n c, .slice ag n1 c1]] w fun r w' => ∃ a' c', r = .returned (.slice a' l.length c') ∧ Own w.heap.size w' a' l.length c' l ∧ Below w.heap.size w w' := by
  obtain ⟨i0, hi, hz0, hz1, hz2⟩ := info_parts Tryz.infoIt
  obtain ⟨w1, hw1⟩ : ∃ w1, w1 = w.alloc (.cells #[.int .i64 x.v, .int .i64 x.e, .slice ae n c, .slice ag n1 c1] 41) := ⟨_, rfl⟩
  have hbb : Below w.heap.size w w1 := by rw [hw1]; exact (Below.refl _ _).alloc (Nat.le_refl _) _
  have HB1 : Hid (w1.heap[w.heap.size]? = some (.cells #[.int .i64 x.v, .int .i64 x.e, .slice ae n c, .slice ag n1 c1] 41 (0, 0))) := by show _ = _; rw [hw1]; exact heap_alloc_new w _
  have hsz1 : w.heap.size < w1.heap.size := (Array.getElem?_eq_some_iff.1 HB1.out).1
  have HR : Hid (Ros KT w1 ae n x.rs) := hr.kept hbb
  have HRW0 : Hid (RoW x.rs) := hw
  have HLX : Hid (x.rs.length = n) := hr.len
  have HLE : Hid (_ = _) := hl
  have HKS : Hid (ks = x.rs.map roI) := hks
  have HW : Hid (_ = _) := hw1
  clear hw1 hr hl hks hw
  have x2 : w1.cell? ⟨w.heap.size, 2, none⟩ = some (.slice ae n c) := (cell_of_row _ _ 2 _ _ (0, 0) HB1.out).trans rfl
  have hbE : Below w1.heap.size w1 (w1.alloc (.cells #[] 117)) := (Below.refl _ _).alloc (Nat.le_refl _) _
  have HO0 : Hid (OwnItR 4 w1.heap.size (w1.alloc (.cells #[] 117)) (some ⟨w1.heap.size, 0, none⟩) 0 0 ((x.rs.take 0).map roI)) := ownItR_empty 4 w1
  go_enter Tryz.func23, Tryz.ntmps23
  go_upto_region 1 with fail
  rw [← HW.out]
  clear HW
  go_wp2
  go_loopw [3, 4] (fun o i wr => ∃ (kq : Nat) (ao : Option Addr) (cc : Nat), kq ≤ n ∧ i = .int .i64 kq ∧ o = .slice ao kq cc ∧ Hid (OwnItR 4 w1.heap.size wr ao kq cc ((x.rs.take kq).map roI)) ∧ Below w1.heap.size w1 wr) (fun _ i _ => n - (intOf i).toNat)
  case atStart => exact ⟨0, _, 0, Nat.zero_le _, rfl, rfl, HO0, hbE⟩
  case round =>
    obtain ⟨kq, ao, cc, hk, rfl, rfl, HOR0, hbr⟩ := hrel
    have hws := hbr.size
    clear x2
    have HBR : Hid (wr.heap[w.heap.size]? = some (.cells #[.int .i64 x.v, .int .i64 x.e, .slice ae n c, .slice ag n1 c1] 41 (0, 0))) := below_kept HB1.out hbr
    have x2 : wr.cell? ⟨w.heap.size, 2, none⟩ = some (.slice ae n c) := (cell_of_row _ _ 2 _ _ (0, 0) HBR.out).trans rfl
    by_cases hkn : kq < n
    · have hkni : (kq : Int) < (n : Int) := by omega
      obtain ⟨b0, off, s1, m1, e1, hA, hlb, hcr, hp, hm, hu, _⟩ := HR.out.get kq hkn
      subst hA
      obtain ⟨y, hy⟩ : ∃ y, y = x.rs.getD kq default := ⟨_, rfl⟩
      rw [← hy] at hcr hp
      have HYW : Hid (PbW y.ks ∧ W64 y.need ∧ y.ks.length ≤ 1000) := by show _ ∧ _ ∧ _; rw [hy]; exact HRW0.out kq
      have hm1 : m1 ≤ 1000 := by rw [← hp.len]; exact HYW.out.2.2
      have HXK0 : Hid ((x.rs.take (kq + 1)).map roI = (x.rs.take kq).map roI ++ [roI y]) := by show _ = _; rw [hy]; exact Ro_next x.rs kq (by rw [HLX.out]; exact hkn)
      have HCR : Hid (∀ W, Below w1.heap.size w1 W → CellsRo W b0 (off + kq * 2) s1 m1 e1 y) := fun W hW => hcr.of (fun i => hW.cell (p := ⟨b0, i, none⟩) hlb)
      have HPK : Hid (∀ W, Below w1.heap.size w1 W → RowPu W s1 m1 y.ks) := fun W hW => hp.kept hW
      have HLY : Hid (y.ks.length = m1) := hp.len
      obtain ⟨wo, hwo⟩ : ∃ wo, wo = wr := ⟨_, rfl⟩
      have HOR1 : Hid (OwnItR 4 w1.heap.size wo ao kq cc ((x.rs.take kq).map roI)) := by rw [hwo]; exact HOR0
      have hbo : Below w1.heap.size w1 wo := by rw [hwo]; exact hbr
      have hwso := hbo.size
      have HOK0 : Hid (OwnItR 2 wo.heap.size (wo.alloc (.cells #[] 117)) (some ⟨wo.heap.size, 0, none⟩) 0 0 ((y.ks.take 0).map pbI)) := ownItR_empty 2 wo
      have HBRO : Hid (wo.heap[w.heap.size]? = some (.cells #[.int .i64 x.v, .int .i64 x.e, .slice (some ⟨b0, off, none⟩) n c, .slice ag n1 c1] 41 (0, 0))) := by rw [hwo]; exact HBR
      rw [← hwo] at x2 ⊢
      have hbK : Below wo.heap.size wo (wo.alloc (.cells #[] 117)) := (Below.refl _ _).alloc (Nat.le_refl _) _
      clear hy hcr hp hu HOR0 HBR hbr hws hwo wr
      go_wp2
      clear x2
      go_loopw [5, 6] (fun o i wr => ∃ (jq : Nat) (ak : Option Addr) (ck : Nat), jq ≤ m1 ∧ i = .int .i64 jq ∧ o = .slice ak jq ck ∧ Hid (OwnItR 2 wo.heap.size wr ak jq ck ((y.ks.take jq).map pbI)) ∧ Below wo.heap.size wo wr) (fun _ i _ => m1 - (intOf i).toNat)
      case atStart => exact ⟨0, _, 0, Nat.zero_le _, rfl, rfl, HOK0, hbK⟩
      case round =>
        obtain ⟨jq, ak, ck, hj, rfl, rfl, HO, hbr⟩ := hrel
        have hws := hbr.size
        have B1 : Below w1.heap.size w1 wr := hbo.trans (hbr.mono hwso)
        have HBR : Hid (wr.heap[w.heap.size]? = some (.cells #[.int .i64 x.v, .int .i64 x.e, .slice (some ⟨b0, off, none⟩) n c, .slice ag n1 c1] 41 (0, 0))) := below_kept HBRO.out hbr
        have x2 : wr.cell? ⟨w.heap.size, 2, none⟩ = some (.slice (some ⟨b0, off, none⟩) n c) := (cell_of_row _ _ 2 _ _ (0, 0) HBR.out).trans rfl
        obtain ⟨r0, r1⟩ := HCR.out _ B1
        by_cases hlt : jq < m1
        · obtain ⟨bk, ok, hs1, hlk, e0, e1', e2⟩ := (HPK.out _ B1).get jq hlt
          subst hs1
          obtain ⟨p, hp⟩ : ∃ p, p = y.ks.getD jq (0, 0, 0) := ⟨_, rfl⟩
          rw [← hp] at e0 e1' e2
          have HUP : Hid (U64 p.2.1) := by show U64 _; rw [hp]; exact (HPK.out _ B1).rng jq
          have HXJ : Hid ((y.ks.take (jq + 1)).map pbI = (y.ks.take jq).map pbI ++ [pbI p]) := by show _ = _; rw [hp]; exact Pb_next y.ks jq (by rw [HLY.out]; exact hlt)
          have hjni : (jq : Int) < (m1 : Int) := by omega
          clear hp
          go_wp2_with fail
          refine (l9Pub_any p _ HUP.out).mono ?_
          rintro e w2 ⟨gr, rfl, hkg, hb2⟩
          have B2 : Below wo.heap.size wo w2 := hbr.trans (hb2.mono hws)
          have hal : Below w2.heap.size w2 (w2.alloc (.cells #[.int .i64 0, .int .i64 16, .bool true, .slice none 0 0, .slice (some ⟨gr, 0, none⟩) 3 3] 117)) := (Below.refl _ _).alloc (Nat.le_refl _) _
          have B6 : Below wo.heap.size wo (w2.alloc (.cells #[.int .i64 0, .int .i64 16, .bool true, .slice none 0 0, .slice (some ⟨gr, 0, none⟩) 3 3] 117)) := B2.trans (hal.mono B2.size)
          have hs6 : (w2.alloc (.cells #[.int .i64 0, .int .i64 16, .bool true, .slice none 0 0, .slice (some ⟨gr, 0, none⟩) 3 3] 117)).heap.size = w2.heap.size + 1 := by simp
          have hs2 := hb2.size
          have HQ3 : Hid (OwnItR 2 wo.heap.size (w2.alloc (.cells #[.int .i64 0, .int .i64 16, .bool true, .slice none 0 0, .slice (some ⟨gr, 0, none⟩) 3 3] 117)) ak jq ck ((y.ks.take jq).map pbI)) := (HO.out.kept hb2).kept hal
          obtain ⟨vs, hrow⟩ := HQ3.out.row
          have HROW : Hid (_) := hrow
          have hown : ∀ b, (Value.slice ak jq ck).ownBlock = some b → b < wr.heap.size := fun b hb => by obtain ⟨vs0, hv0⟩ := HO.out.row; exact (hv0.lt b hb).2
          have HAPP : Hid (∀ g7 c7 w7, w7.ownsRow 0 117 5 (.slice (some ⟨g7, 0, none⟩) (jq + 1) c7) (jq + 1) (vs ++ itc (pbI p) none 0 0 (some ⟨gr, 0, none⟩) 3 3) → (w2.alloc (.cells #[.int .i64 0, .int .i64 16, .bool true, .slice none 0 0, .slice (some ⟨gr, 0, none⟩) 3 3] 117)).grownBy w7 (Value.slice ak jq ck).ownBlock → ((Value.slice ak jq ck).ownBlock = some g7 ∨ g7 = w2.heap.size + 1) → OwnItR 2 wo.heap.size w7 (some ⟨g7, 0, none⟩) (jq + 1) c7 ((y.ks.take (jq + 1)).map pbI) ∧ Below wo.heap.size wo w7) := by
            intro g7 c7 w7 hv7 hg7 hl7
            obtain ⟨S, k1, k2⟩ := hkg.kept hal
            rw [HXJ.out]
            refine ⟨HQ3.out.appended (T := S) (ab := none) (nb := 0) (cb := 0) (ak := some ⟨gr, 0, none⟩) (nk := 3) (ck := 3) ⟨⟨⟨rfl, fun j hj => absurd hj (Nat.not_lt_zero _), by simp [pbI, strI, It.body]⟩, fun x hx => by cases hx⟩, fun _ => rfl, by decide, k1⟩ (fun b hb => ⟨by have := (k2 b hb).1; omega, (k2 b hb).2, fun e => by have := hown b e; have := (k2 b hb).1; omega⟩) (by omega) HROW.out hv7 hg7 (by rw [hs6]; exact hl7) B6.size, B6.grown hg7 (by have := B6.size; omega) (fun kx hx => HQ3.out.2 kx hx)⟩
          clear e0 e1' e2 r0 r1 x2 hrow HO hb2 B2 hal hkg
          go_wp2_with (at_builtin; refine wpList_append_lies _ rfl (.tmp 27) (.tmp 38) 115 rfl 0 117 i0 _ 5 72 Tryz.underlying115 hi hz0 hz1 hz2 rfl (by decide) _ jq vs rfl HROW.out ⟨w2.heap.size, 0, none⟩ 1 1 [.int .i64 0, .int .i64 16, .bool true, .slice none 0 0, .slice (some ⟨gr, 0, none⟩) 3 3] rfl rfl (World.news_of_block (heap_alloc_new w2 (.cells #[.int .i64 0, .int .i64 16, .bool true, .slice none 0 0, .slice (some ⟨gr, 0, none⟩) 3 3] 117))) (by intro u hu; simp only [List.mem_cons, List.not_mem_nil, or_false] at hu; rcases hu with rfl | rfl | rfl | rfl | rfl <;> rfl) (by decide) (by unfold maxLen; omega) (by omega) (Nat.zero_le _) (w2.heap.size + 1) (by simp) ?_; intro g7 c7 w7 hv7 hg7 hl7 hlt7; have HN7 := HAPP.out g7 c7 w7 hv7 hg7 hl7; have HO7 : Hid (_) := HN7.1; have B7 := HN7.2; clear hv7 hg7 hl7 hlt7 HN7 HAPP HQ3 HROW)
          go_roundw
          case rel => exact ⟨jq + 1, _, c7, by omega, by go_num, rfl, HO7, B7⟩
          case measure => simp [intOf]; omega
        · obtain rfl : m1 = jq := by omega
          obtain ⟨kl, hkl⟩ : ∃ kl, kl = y.ks.map pbI := ⟨_, rfl⟩
          have HKL : Hid (kl = y.ks.map pbI) := hkl
          have HLK : Hid (ListH wo.heap.size 3 wr ak m1 kl) := ⟨by
            have := HO.out
            rw [List.take_of_length_le (by rw [HLY.out]; exact Nat.le_refl _), ← hkl] at this
            exact this.kids⟩
          obtain ⟨es0, hes⟩ : ∃ es0, es0 = (x.rs.take kq).map roI := ⟨_, rfl⟩
          have HXK : Hid ((x.rs.take (kq + 1)).map roI = es0 ++ [roI y]) := by rw [hes]; exact HXK0
          have HOR : Hid (OwnItR 4 w1.heap.size wr ao kq cc es0) := by show OwnItR _ _ _ _ _ _ _; rw [hes]; exact HOR1.out.kept hbr
          have HOWN : Hid (∀ b, (Value.slice ao kq cc).ownBlock = some b → b < wo.heap.size) := fun b hb => by obtain ⟨vs0, hv0⟩ := HOR1.out.row; exact (hv0.lt b hb).2
          have HCE : Hid (∀ W, Below w1.heap.size wr W → W.cell? ⟨b0, off + kq * 2 + 1, none⟩ = some (.int .i64 y.need)) := fun W hW => (HCR.out _ (B1.trans hW)).c1
          have HQI : Hid (wo.heap.size ≤ wr.heap.size) := hws
          have HBB : w1.heap.size ≤ wr.heap.size := B1.size
          have hjj : ¬ ((m1 : Int) < (m1 : Int)) := by omega
          clear HO hkl hes HOR1 HXK0
          go_upto_region 10 with fail
          clear x2 r0 r1
          have hbr := B1
          clear B1
          refine wp_region_ri (tr5 x b0 off n c ag n1 c1 y kl ak m1 ck ao kq cc es0 wo.heap.size w1.heap.size w.heap.size (w1.heap.size)) [3, 40, 41, 42, 43, 44, 45, 46, 47, 48, 49, 50, 51, 52, 53] (w1.heap.size) (fun a0 => a0.tmps.size = 65 ∧ aT a0 1 = .pointer (some ⟨w.heap.size, 0, none⟩) ∧ aT a0 4 = .int .i64 (kq : Int) ∧ aT a0 5 = .slice ak m1 ck) (by kernel_rfl) rfl (by kernel_rfl) rfl ⟨rfl, rfl, rfl, rfl⟩ (tr5_stb x b0 off n c ag n1 c1 y kl ak m1 ck ao kq cc es0 wo.heap.size w1.heap.size w.heap.size (w1.heap.size)) ?_ ?_ ?_
          · intro k hk hk2
            match k, hk, hk2 with
            | 15, _, _ => exact HBR.out
            | 16, _, _ => exact HOR.out
            | 17, _, _ => exact rfl
            | 18, _, _ => exact HLK.out
            | 0, hk, _ => exact absurd hk (by show ¬ (15 ≤ 0); omega)
            | 1, hk, _ => exact absurd hk (by show ¬ (15 ≤ 1); omega)
            | 2, hk, _ => exact absurd hk (by show ¬ (15 ≤ 2); omega)
            | 3, hk, _ => exact absurd hk (by show ¬ (15 ≤ 3); omega)
            | 4, hk, _ => exact absurd hk (by show ¬ (15 ≤ 4); omega)
            | 5, hk, _ => exact absurd hk (by show ¬ (15 ≤ 5); omega)
            | 6, hk, _ => exact absurd hk (by show ¬ (15 ≤ 6); omega)
            | 7, hk, _ => exact absurd hk (by show ¬ (15 ≤ 7); omega)
            | 8, hk, _ => exact absurd hk (by show ¬ (15 ≤ 8); omega)
            | 9, hk, _ => exact absurd hk (by show ¬ (15 ≤ 9); omega)
            | 10, hk, _ => exact absurd hk (by show ¬ (15 ≤ 10); omega)
            | 11, hk, _ => exact absurd hk (by show ¬ (15 ≤ 11); omega)
            | 12, hk, _ => exact absurd hk (by show ¬ (15 ≤ 12); omega)
            | 13, hk, _ => exact absurd hk (by show ¬ (15 ≤ 13); omega)
            | 14, hk, _ => exact absurd hk (by show ¬ (15 ≤ 14); omega)
            | k + 19, _, hk2 => exact absurd hk2 (by show ¬ (k + 19 < 19); omega)
          · rintro a0 ⟨hz, g1, g4, g5⟩
            refine StepsRI.cons ?_ (StepsRI.cons ?_ (StepsRI.cons ?_ (StepsRI.cons ?_ (StepsRI.cons ?_ (StepsRI.cons ?_ (StepsRI.cons ?_ (StepsRI.cons ?_ (StepsRI.cons ?_ (StepsRI.cons ?_ (StepsRI.cons ?_ (StepsRI.cons ?_ (StepsRI.cons ?_ (StepsRI.cons ?_ (StepsRI.cons ?_ (StepsRI.nil)))))))))))))))
            · intro lQ b W hI hUN hED KQ hKQ
              have hu14 : lQ 14 = false := unT fun h => by
                have h2 := hI.cl 13 (of_decide_eq_true rfl) (hI.cl 14 (of_decide_eq_true rfl) h 13 (List.Mem.head _)) 0 (List.Mem.head _)
                rw [show lQ 0 = false from hUN] at h2
                cases h2
              have f : aT b 3 = .slice ao kq cc := hI.vot1 17 14 (of_decide_eq_true rfl) (of_decide_eq_true rfl) hu14 rfl
              exact opw_move 3 rfl (hKQ.out _ _ (hI.put 0 40 rfl rfl (by rw [hz]; decide) rfl hUN rfl HBB (tr5_stb x b0 off n c ag n1 c1 y kl ak m1 ck ao kq cc es0 wo.heap.size w1.heap.size w.heap.size (w1.heap.size)) (Below.refl _ _) f))
            · intro lQ b W hI hUN hED KQ hKQ
              exact opw_move 5 rfl (hKQ.out _ _ (hI.put 1 41 rfl rfl (by rw [hz]; decide) rfl hUN rfl HBB (tr5_stb x b0 off n c ag n1 c1 y kl ak m1 ck ao kq cc es0 wo.heap.size w1.heap.size w.heap.size (w1.heap.size)) (Below.refl _ _) ((hI.fr.same 5 (by decide)).trans g5)))
            · intro lQ b W hI hUN hED KQ hKQ
              have f0 : aT b 41 = .slice ak m1 ck := hI.got 1 (of_decide_eq_true rfl) (edge hED 1 (by kernel_rfl)) rfl
              refine opw_call 57 #[.tmp 41] _ _ _ rfl Tryz.func57 (by kernel_rfl) rfl #[.slice ak m1 ck] (by simp [ev, f0]) ?_
              refine (l9List_agg ak m1 ck W).mono ?_
              rintro r W2 ⟨rfl, hb⟩
              have hl0 : ListH wo.heap.size 3 W ak m1 kl := hI.vot 18 (of_decide_eq_true rfl) (of_decide_eq_true rfl) rfl
              exact ⟨_, rfl, hKQ.out _ _ (hI.put 2 42 rfl rfl (by rw [hz]; decide) rfl hUN rfl HBB (tr5_stb x b0 off n c ag n1 c1 y kl ak m1 ck ao kq cc es0 wo.heap.size w1.heap.size w.heap.size (w1.heap.size)) hb ⟨rfl, hl0.kept hb⟩)⟩
            · intro lQ b W hI hUN hED KQ hKQ
              exact opw_field 41 1 2 rfl _ ((hI.fr.same 1 (by decide)).trans g1) _ (by kernel_rfl) (hKQ.out _ _ (hI.put 3 43 rfl rfl (by rw [hz]; decide) rfl hUN rfl HBB (tr5_stb x b0 off n c ag n1 c1 y kl ak m1 ck ao kq cc es0 wo.heap.size w1.heap.size w.heap.size (w1.heap.size)) (Below.refl _ _) rfl))
            · intro lQ b W hI hUN hED KQ hKQ
              have f := hI.got 3 (of_decide_eq_true rfl) (edge hED 3 (by kernel_rfl)) rfl
              have hg := (hI.vot 15 (of_decide_eq_true rfl) (of_decide_eq_true rfl) rfl)
              have hc : W.cell? ⟨w.heap.size, 2, none⟩ = some (.slice (some ⟨b0, off, none⟩) n c) := (cell_of_row _ _ 2 _ _ (0, 0) hg).trans rfl
              exact opw_load1 38 43 rfl _ f _ (by simp [Instr.loadAt, go_sem, hc]) (hKQ.out _ _ (hI.put 4 44 rfl rfl (by rw [hz]; decide) rfl hUN rfl HBB (tr5_stb x b0 off n c ag n1 c1 y kl ak m1 ck ao kq cc es0 wo.heap.size w1.heap.size w.heap.size (w1.heap.size)) (Below.refl _ _) rfl))
            · intro lQ b W hI hUN hED KQ hKQ
              exact opw_move 4 rfl (hKQ.out _ _ (hI.put 5 45 rfl rfl (by rw [hz]; decide) rfl hUN rfl HBB (tr5_stb x b0 off n c ag n1 c1 y kl ak m1 ck ao kq cc es0 wo.heap.size w1.heap.size w.heap.size (w1.heap.size)) (Below.refl _ _) ((hI.fr.same 4 (by decide)).trans g4)))
            · intro lQ b W hI hUN hED KQ hKQ
              have f0 : aT b 44 = .slice (some ⟨b0, off, none⟩) n c := hI.got 4 (of_decide_eq_true rfl) (edge hED 4 (by kernel_rfl)) rfl
              have f1 : aT b 45 = .int .i64 (kq : Int) := hI.got 5 (of_decide_eq_true rfl) (edge hED 5 (by kernel_rfl)) rfl
              exact opw_indexY 38 44 45 rfl _ _ f0 f1 _ (indexRo b0 off n c kq W hkn) (hKQ.out _ _ (hI.put 6 46 rfl rfl (by rw [hz]; decide) rfl hUN rfl HBB (tr5_stb x b0 off n c ag n1 c1 y kl ak m1 ck ao kq cc es0 wo.heap.size w1.heap.size w.heap.size (w1.heap.size)) (Below.refl _ _) rfl))
            · intro lQ b W hI hUN hED KQ hKQ
              have f : aT b 46 = .pointer (some ⟨b0, off + kq * 2, none⟩) := hI.got 6 (of_decide_eq_true rfl) (edge hED 6 (by kernel_rfl)) rfl
              exact opw_field 113 46 1 rfl _ f (.pointer (some ⟨b0, off + kq * 2 + 1, none⟩)) (by kernel_rfl) (hKQ.out _ _ (hI.put 7 47 rfl rfl (by rw [hz]; decide) rfl hUN rfl HBB (tr5_stb x b0 off n c ag n1 c1 y kl ak m1 ck ao kq cc es0 wo.heap.size w1.heap.size w.heap.size (w1.heap.size)) (Below.refl _ _) rfl))
            · intro lQ b W hI hUN hED KQ hKQ
              have f : aT b 47 = .pointer (some ⟨b0, off + kq * 2 + 1, none⟩) := hI.got 7 (of_decide_eq_true rfl) (edge hED 7 (by kernel_rfl)) rfl
              have hc : W.cell? ⟨b0, off + kq * 2 + 1, none⟩ = some (.int .i64 y.need) := HCE.out W hI.bel
              exact opw_load1 2 47 rfl _ f _ (by simp [Instr.loadAt, go_sem, hc]) (hKQ.out _ _ (hI.put 8 48 rfl rfl (by rw [hz]; decide) rfl hUN rfl HBB (tr5_stb x b0 off n c ag n1 c1 y kl ak m1 ck ao kq cc es0 wo.heap.size w1.heap.size w.heap.size (w1.heap.size)) (Below.refl _ _) rfl))
            · intro lQ b W hI hUN hED KQ hKQ
              have f0 := hI.got 8 (of_decide_eq_true rfl) (edge hED 8 (by kernel_rfl)) rfl
              replace f0 : aT b 48 = .int .i64 y.need := f0
              refine opw_call 58 #[.tmp 48] _ _ _ rfl Tryz.func58 (by kernel_rfl) rfl #[.int .i64 y.need] (by simp [ev, f0]) ?_
              refine (l9Num_agg y.need W).mono ?_
              rintro e W2 ⟨q2, d2, rfl, ho, hb⟩
              exact ⟨_, rfl, hKQ.out _ _ (hI.put 9 49 rfl rfl (by rw [hz]; decide) rfl hUN rfl HBB (tr5_stb x b0 off n c ag n1 c1 y kl ak m1 ck ao kq cc es0 wo.heap.size w1.heap.size w.heap.size (w1.heap.size)) hb ⟨q2, d2, rfl, Own.itg (ho.mono (Nat.le_succ_of_le (Nat.le_trans HQI.out hI.bel.size))) 2 (by have := wsz_bd y.need; omega)⟩)⟩
            · intro lQ b W hI hUN hED KQ hKQ
              obtain ⟨f0, o0⟩ := hI.got 2 (of_decide_eq_true rfl) (edge hED 2 (by kernel_rfl)) rfl
              obtain ⟨q2, d2, f1, o1⟩ := hI.got 9 (of_decide_eq_true rfl) (edge hED 9 (by kernel_rfl)) rfl
              replace f0 : aT b 42 = .agg #[.int .i64 0, .int .i64 17, .bool true, .slice none 0 0, .slice ak m1 ck] := f0
              replace f1 : aT b 49 = .agg #[.int .i64 0, .int .i64 2, .bool false, .slice q2 (wsz y.need) d2, .slice none 0 0] := f1
              refine opw_buildSliceT _ 2 _ rfl #[(0, .agg #[.int .i64 0, .int .i64 17, .bool true, .slice none 0 0, .slice ak m1 ck]), (1, .agg #[.int .i64 0, .int .i64 2, .bool false, .slice q2 (wsz y.need) d2, .slice none 0 0])] (by simp [ev, f0, f1]) (.slice (some ⟨W.heap.size, 0, none⟩) 2 2) (W.alloc (.cells #[.int .i64 0, .int .i64 17, .bool true, .slice none 0 0, .slice ak m1 ck, .int .i64 0, .int .i64 2, .bool false, .slice q2 (wsz y.need) d2, .slice none 0 0] 117)) (by kernel_rfl) ?_
              exact hKQ.out _ _ (hI.put 10 50 rfl rfl (by rw [hz]; decide) rfl hUN rfl HBB (tr5_stb x b0 off n c ag n1 c1 y kl ak m1 ck ao kq cc es0 wo.heap.size w1.heap.size w.heap.size (w1.heap.size)) ((Below.refl _ _).alloc (Nat.le_refl _) _) ⟨W.heap.size, rfl, kidG_n2 (Nat.le_trans HQI.out hI.bel.size) o0.itg (o1.more).more⟩)
            · intro lQ b W hI hUN hED KQ hKQ
              have f0 := hI.got 10 (of_decide_eq_true rfl) (edge hED 10 (by kernel_rfl)) rfl
              obtain ⟨gr, f0, o0_0⟩ := f0
              replace f0 : aT b 50 = .slice (some ⟨gr, 0, none⟩) 2 2 := f0
              refine opw_call 56 #[.tmp 50] _ _ _ rfl Tryz.func56 (by kernel_rfl) rfl #[.slice (some ⟨gr, 0, none⟩) 2 2] (by simp [ev, f0]) ?_
              refine (l9Struct_agg (some ⟨gr, 0, none⟩) 2 2 W).mono ?_
              rintro e W2 ⟨rfl, hb⟩
              exact ⟨_, rfl, hKQ.out _ _ (hI.put 11 51 rfl rfl (by rw [hz]; decide) rfl hUN rfl HBB (tr5_stb x b0 off n c ag n1 c1 y kl ak m1 ck ao kq cc es0 wo.heap.size w1.heap.size w.heap.size (w1.heap.size)) hb ⟨gr, rfl, o0_0.kept hb⟩)⟩
            · intro lQ b W hI hUN hED KQ hKQ
              obtain ⟨gr, f0, o0⟩ := hI.got 11 (of_decide_eq_true rfl) (edge hED 11 (by kernel_rfl)) rfl
              replace f0 : aT b 51 = .agg #[.int .i64 0, .int .i64 16, .bool true, .slice none 0 0, .slice (some ⟨gr, 0, none⟩) 2 2] := f0
              refine opw_buildSliceT _ 1 _ rfl #[(0, .agg #[.int .i64 0, .int .i64 16, .bool true, .slice none 0 0, .slice (some ⟨gr, 0, none⟩) 2 2])] (by simp [ev, f0]) (.slice (some ⟨W.heap.size, 0, none⟩) 1 1) (W.alloc (.cells #[.int .i64 0, .int .i64 16, .bool true, .slice none 0 0, .slice (some ⟨gr, 0, none⟩) 2 2] 117)) (by kernel_rfl) ?_
              have hbA : Below W.heap.size W (W.alloc (.cells #[.int .i64 0, .int .i64 16, .bool true, .slice none 0 0, .slice (some ⟨gr, 0, none⟩) 2 2] 117)) := (Below.refl _ _).alloc (Nat.le_refl _) _
              exact hKQ.out _ _ (hI.put 12 52 rfl rfl (by rw [hz]; decide) rfl hUN rfl HBB (tr5_stb x b0 off n c ag n1 c1 y kl ak m1 ck ao kq cc es0 wo.heap.size w1.heap.size w.heap.size (w1.heap.size)) hbA ⟨W.heap.size, gr, rfl, heap_alloc_new W _, o0.kept hbA, (Nat.le_trans HQI.out hI.bel.size)⟩)
            · intro lQ b W hI hUN hED KQ hKQ
              obtain ⟨g8, gr, f1, hg8, o1, _⟩ := hI.got 12 (of_decide_eq_true rfl) (edge hED 12 (by kernel_rfl)) rfl
              have f0 : aT b 40 = .slice ao kq cc := hI.got 0 (of_decide_eq_true rfl) (edge hED 0 (by kernel_rfl)) rfl
              have hits : OwnItR 4 w1.heap.size W ao kq cc es0 := hI.vot1 16 13 (of_decide_eq_true rfl) (of_decide_eq_true rfl) hUN rfl
              replace f1 : aT b 52 = .slice (some ⟨g8, 0, none⟩) 1 1 := f1
              obtain ⟨vs, hrow⟩ := hits.row
              have hWs := hI.bel.size
              refine wp_append_lies W (.tmp 40) (.tmp 52) 115 rfl 0 117 i0 _ 5 72 Tryz.underlying115 hi hz0 hz1 hz2 rfl (by decide) (.slice ao kq cc) kq vs f0 hrow ⟨g8, 0, none⟩ 1 1 [.int .i64 0, .int .i64 16, .bool true, .slice none 0 0, .slice (some ⟨gr, 0, none⟩) 2 2] f1 rfl (World.news_of_block hg8) (by intro u hu; simp only [List.mem_cons, List.not_mem_nil, or_false] at hu; rcases hu with rfl | rfl | rfl | rfl | rfl <;> rfl) (by decide) (by unfold maxLen; omega) (by omega) (Nat.zero_le _) _ rfl ?_
              intro gf cf w' hv hg hl hlt
              obtain ⟨S, k1, k2⟩ := o1
              rw [HKL.out] at k1
              have hnew : OwnItR 4 w1.heap.size w' (some ⟨gf, 0, none⟩) (kq + 1) cf (es0 ++ [roI y]) := hits.appended (T := S) (ab := none) (nb := 0) (cb := 0) (ak := some ⟨gr, 0, none⟩) (nk := 2) (ck := 2) ⟨⟨⟨rfl, fun j hj => absurd hj (Nat.not_lt_zero _), by simp [roI, strI, It.body]⟩, fun x hx => by cases hx⟩, fun _ => rfl, by decide, k1⟩ (fun b hb => ⟨by have := (k2 b hb).1; omega, (k2 b hb).2, fun e => by have := HOWN.out b e; have := (k2 b hb).1; omega⟩) (by omega) hrow hv hg hl (by omega)
              have hb' : Below w1.heap.size wr w' := hI.bel.grown hg (by omega) (fun kx hx => hits.2 kx hx)
              have hno : lQ 14 = true → False := fun h => by
                have h2 := hI.cl 14 (of_decide_eq_true rfl) h 13 (List.Mem.head _)
                rw [show lQ 13 = false from hUN] at h2
                cases h2
              refine hKQ.out _ _ (hI.turn 13 53 (fun j hj => by rcases List.mem_singleton.1 hj with rfl; exact edge hED 0 (by kernel_rfl)) rfl (by rw [hz]; decide) rfl hUN rfl hb' ?_ ⟨gf, cf, rfl, hnew⟩)
              intro kx hkx hne hlk hkill u hu
              match kx, hkx, hne, hkill, hu with
                | 0, _, _, _, hu => exact hu
                | 1, _, _, _, hu => exact hu
                | 2, _, _, _, ⟨hv, q_0⟩ => exact ⟨hv, q_0.grown hg HOWN.out⟩
                | 3, _, _, _, hu => exact hu
                | 4, _, _, _, hu => exact hu
                | 5, _, _, _, hu => exact hu
                | 6, _, _, _, hu => exact hu
                | 7, _, _, _, hu => exact hu
                | 8, _, _, _, hu => exact hu
                | 9, _, _, _, ⟨q2, d2, hv, q_0⟩ => exact ⟨q2, d2, hv, q_0.grown hg HOWN.out⟩
                | 10, _, _, _, ⟨gr, hv, q_0⟩ => exact ⟨gr, hv, q_0.grown hg HOWN.out⟩
                | 11, _, _, _, ⟨gr, hv, q_0⟩ => exact ⟨gr, hv, q_0.grown hg HOWN.out⟩
                | 12, _, _, _, ⟨g8, gr, hv, q_0, q_1, q_2⟩ => exact ⟨g8, gr, hv, (hg.block _ (Array.getElem?_eq_some_iff.1 q_0).1 (fun e => by have := HOWN.out _ e.symm; omega)).trans q_0, q_1.grown hg HOWN.out, q_2⟩
                | 13, _, hne, _, _ => exact absurd rfl hne
                | 14, _, _, hkill, hu => exact (hno hlk).elim
                | 15, _, _, _, hu => exact (hg.block _ (Array.getElem?_eq_some_iff.1 hu).1 (fun e => by have := hits.2 _ e.symm; omega)).trans hu
                | 16, _, _, hkill, _ => exact absurd (hkill 13 (List.Mem.head _)) (by rw [upd_same]; decide)
                | 17, _, _, _, hu => exact hu
                | 18, _, _, _, q_0 => exact q_0.grown hg HOWN.out
                | kx + 19, hkx, _, _, _ => exact absurd hkx (by show ¬ (kx + 19 < 19); omega)
            · intro lQ b W hI hUN hED KQ hKQ
              have f := hI.got 13 (of_decide_eq_true rfl) (edge hED 13 (by kernel_rfl)) rfl
              obtain ⟨gf, cf, f0, o0⟩ := f
              replace f0 : aT b 53 = .slice (some ⟨gf, 0, none⟩) (kq + 1) cf := f0
              refine opw_assign 53 rfl ?_
              rw [f0]
              exact hKQ.out _ _ (hI.putp 14 3 (fun j hj => by rcases List.mem_singleton.1 hj with rfl; exact edge hED 13 (by kernel_rfl)) rfl (by rw [hz]; decide) rfl hUN rfl HBB (tr5_stb x b0 off n c ag n1 c1 y kl ak m1 ck ao kq cc es0 wo.heap.size w1.heap.size w.heap.size (w1.heap.size)) (Below.refl _ _) ⟨gf, cf, rfl, o0⟩)
          · intro b W hf hb F
            obtain ⟨gf, cf, e3, hits⟩ := F 14 (of_decide_eq_true rfl) rfl
            replace e3 : aT b 3 = _ := e3
            rw [hf.eq]
            simp only [puts, Act.put, List.setIfInBounds_toArray, List.set_cons_zero, List.set_cons_succ, e3]
            clear hf F e3
            generalize aT b = AT
            clear b
            have HO7 : Hid (OwnItR 4 w1.heap.size W (some ⟨gf, 0, none⟩) (kq + 1) cf ((x.rs.take (kq + 1)).map roI)) := by show OwnItR _ _ _ _ _ _ _; rw [HXK.out]; exact hits
            have B7 : Below w1.heap.size w1 W := hbr.trans hb
            clear hits
            go_wp2
            go_roundw
            case rel => exact ⟨kq + 1, _, cf, by omega, by go_num, rfl, HO7, B7⟩
            case measure => simp [intOf]; omega
    · obtain rfl : n = kq := by omega
      have HLG : Hid (ListH w1.heap.size 5 wr ao n ks) := ⟨by
        have := HOR0.out
        rw [List.take_of_length_le (by rw [HLX.out]; exact Nat.le_refl _), ← HKS.out] at this
        exact this.kids⟩
      have HBY : Hid (∀ (gr : Nat) (W : World), KidG w1.heap.size W gr 6 [numI x.v, numI x.e, lstI ks] → Calls Tryz.prog 59 #[.agg #[.int .i64 1, .int .i64 13, .bool true, .slice none 0 0, .slice (some ⟨gr, 0, none⟩) 3 3]] W fun e w' => ∃ a' c', e = .returned (.slice a' l.length c') ∧ Own W.heap.size w' a' l.length c' l ∧ Below W.heap.size W w') := fun gr W h => l2BytesF_agg 6 13 (some ⟨gr, 0, none⟩) 3 3 [numI x.v, numI x.e, lstI ks] l W h.kidsF HLE.out
      have HRS : Hid (w.heap.size ≤ wr.heap.size) := by show _ ≤ _; omega
      have HRW : Hid (w1.heap.size ≤ wr.heap.size) := hws
      have HBX : Hid (Below w.heap.size w wr) := keepT hbb hbr
      have HBB : wr.heap.size ≤ wr.heap.size := Nat.le_refl _
      clear HOR0 HLX HKS HLE
      have hkk : ¬ ((n : Int) < (n : Int)) := by omega
      go_upto_region 11 with fail
      clear x2
      refine wp_region_ri (tr6 x ks ae n c ag n1 c1 ao cc l w1.heap.size w.heap.size (wr.heap.size)) [2, 54, 55, 56, 57, 58, 59, 60, 61, 62, 63, 64] (wr.heap.size) (fun a0 => a0.tmps.size = 65 ∧ aT a0 1 = .pointer (some ⟨w.heap.size, 0, none⟩) ∧ aT a0 3 = .slice ao n cc) (by kernel_rfl) rfl (by kernel_rfl) rfl ⟨rfl, rfl, rfl⟩ (tr6_stb x ks ae n c ag n1 c1 ao cc l w1.heap.size w.heap.size (wr.heap.size)) ?_ ?_ ?_
      · intro k hk hk2
        match k, hk, hk2 with
        | 12, _, _ => exact HBR.out
        | 0, hk, _ => exact absurd hk (by show ¬ (12 ≤ 0); omega)
        | 1, hk, _ => exact absurd hk (by show ¬ (12 ≤ 1); omega)
        | 2, hk, _ => exact absurd hk (by show ¬ (12 ≤ 2); omega)
        | 3, hk, _ => exact absurd hk (by show ¬ (12 ≤ 3); omega)
        | 4, hk, _ => exact absurd hk (by show ¬ (12 ≤ 4); omega)
        | 5, hk, _ => exact absurd hk (by show ¬ (12 ≤ 5); omega)
        | 6, hk, _ => exact absurd hk (by show ¬ (12 ≤ 6); omega)
        | 7, hk, _ => exact absurd hk (by show ¬ (12 ≤ 7); omega)
        | 8, hk, _ => exact absurd hk (by show ¬ (12 ≤ 8); omega)
        | 9, hk, _ => exact absurd hk (by show ¬ (12 ≤ 9); omega)
        | 10, hk, _ => exact absurd hk (by show ¬ (12 ≤ 10); omega)
        | 11, hk, _ => exact absurd hk (by show ¬ (12 ≤ 11); omega)
        | k + 13, _, hk2 => exact absurd hk2 (by show ¬ (k + 13 < 13); omega)
      · rintro a0 ⟨hz, g1, g3⟩
        refine StepsRI.cons ?_ (StepsRI.cons ?_ (StepsRI.cons ?_ (StepsRI.cons ?_ (StepsRI.cons ?_ (StepsRI.cons ?_ (StepsRI.cons ?_ (StepsRI.cons ?_ (StepsRI.cons ?_ (StepsRI.cons ?_ (StepsRI.cons ?_ (StepsRI.cons ?_ (StepsRI.nil))))))))))))
        · intro lQ b W hI hUN hED KQ hKQ
          exact opw_field 41 1 0 rfl _ ((hI.fr.same 1 (by decide)).trans g1) _ (by kernel_rfl) (hKQ.out _ _ (hI.put 0 54 rfl rfl (by rw [hz]; decide) rfl hUN rfl HBB (tr6_stb x ks ae n c ag n1 c1 ao cc l w1.heap.size w.heap.size (wr.heap.size)) (Below.refl _ _) rfl))
        · intro lQ b W hI hUN hED KQ hKQ
          have f := hI.got 0 (of_decide_eq_true rfl) (edge hED 0 (by kernel_rfl)) rfl
          have hg := (hI.vot 12 (of_decide_eq_true rfl) (of_decide_eq_true rfl) rfl)
          have hc : W.cell? ⟨w.heap.size, 0, none⟩ = some (.int .i64 x.v) := (cell_of_row _ _ 0 _ _ (0, 0) hg).trans rfl
          exact opw_load1 2 54 rfl _ f _ (by simp [Instr.loadAt, go_sem, hc]) (hKQ.out _ _ (hI.put 1 55 rfl rfl (by rw [hz]; decide) rfl hUN rfl HBB (tr6_stb x ks ae n c ag n1 c1 ao cc l w1.heap.size w.heap.size (wr.heap.size)) (Below.refl _ _) rfl))
        · intro lQ b W hI hUN hED KQ hKQ
          have f0 := hI.got 1 (of_decide_eq_true rfl) (edge hED 1 (by kernel_rfl)) rfl
          replace f0 : aT b 55 = .int .i64 x.v := f0
          refine opw_call 58 #[.tmp 55] _ _ _ rfl Tryz.func58 (by kernel_rfl) rfl #[.int .i64 x.v] (by simp [ev, f0]) ?_
          refine (l9Num_agg x.v W).mono ?_
          rintro e W2 ⟨q1, d1, rfl, ho, hb⟩
          exact ⟨_, rfl, hKQ.out _ _ (hI.put 2 56 rfl rfl (by rw [hz]; decide) rfl hUN rfl HBB (tr6_stb x ks ae n c ag n1 c1 ao cc l w1.heap.size w.heap.size (wr.heap.size)) hb ⟨q1, d1, rfl, Own.itg (ho.mono (Nat.le_succ_of_le (Nat.le_trans HRW.out hI.bel.size))) 2 (by have := wsz_bd x.v; omega)⟩)⟩
        · intro lQ b W hI hUN hED KQ hKQ
          exact opw_field 41 1 1 rfl _ ((hI.fr.same 1 (by decide)).trans g1) _ (by kernel_rfl) (hKQ.out _ _ (hI.put 3 57 rfl rfl (by rw [hz]; decide) rfl hUN rfl HBB (tr6_stb x ks ae n c ag n1 c1 ao cc l w1.heap.size w.heap.size (wr.heap.size)) (Below.refl _ _) rfl))
        · intro lQ b W hI hUN hED KQ hKQ
          have f := hI.got 3 (of_decide_eq_true rfl) (edge hED 3 (by kernel_rfl)) rfl
          have hg := (hI.vot 12 (of_decide_eq_true rfl) (of_decide_eq_true rfl) rfl)
          have hc : W.cell? ⟨w.heap.size, 1, none⟩ = some (.int .i64 x.e) := (cell_of_row _ _ 1 _ _ (0, 0) hg).trans rfl
          exact opw_load1 2 57 rfl _ f _ (by simp [Instr.loadAt, go_sem, hc]) (hKQ.out _ _ (hI.put 4 58 rfl rfl (by rw [hz]; decide) rfl hUN rfl HBB (tr6_stb x ks ae n c ag n1 c1 ao cc l w1.heap.size w.heap.size (wr.heap.size)) (Below.refl _ _) rfl))
        · intro lQ b W hI hUN hED KQ hKQ
          have f0 := hI.got 4 (of_decide_eq_true rfl) (edge hED 4 (by kernel_rfl)) rfl
          replace f0 : aT b 58 = .int .i64 x.e := f0
          refine opw_call 58 #[.tmp 58] _ _ _ rfl Tryz.func58 (by kernel_rfl) rfl #[.int .i64 x.e] (by simp [ev, f0]) ?_
          refine (l9Num_agg x.e W).mono ?_
          rintro e W2 ⟨q2, d2, rfl, ho, hb⟩
          exact ⟨_, rfl, hKQ.out _ _ (hI.put 5 59 rfl rfl (by rw [hz]; decide) rfl hUN rfl HBB (tr6_stb x ks ae n c ag n1 c1 ao cc l w1.heap.size w.heap.size (wr.heap.size)) hb ⟨q2, d2, rfl, Own.itg (ho.mono (Nat.le_succ_of_le (Nat.le_trans HRW.out hI.bel.size))) 2 (by have := wsz_bd x.e; omega)⟩)⟩
        · intro lQ b W hI hUN hED KQ hKQ
          exact opw_move 3 rfl (hKQ.out _ _ (hI.put 6 60 rfl rfl (by rw [hz]; decide) rfl hUN rfl HBB (tr6_stb x ks ae n c ag n1 c1 ao cc l w1.heap.size w.heap.size (wr.heap.size)) (Below.refl _ _) ((hI.fr.same 3 (by decide)).trans g3)))
        · intro lQ b W hI hUN hED KQ hKQ
          have f0 := hI.got 6 (of_decide_eq_true rfl) (edge hED 6 (by kernel_rfl)) rfl
          replace f0 : aT b 60 = .slice ao n cc := f0
          refine opw_call 57 #[.tmp 60] _ _ _ rfl Tryz.func57 (by kernel_rfl) rfl #[.slice ao n cc] (by simp [ev, f0]) ?_
          refine (l9List_agg ao n cc W).mono ?_
          rintro e W2 ⟨rfl, hb⟩
          exact ⟨_, rfl, hKQ.out _ _ (hI.put 7 61 rfl rfl (by rw [hz]; decide) rfl hUN rfl HBB (tr6_stb x ks ae n c ag n1 c1 ao cc l w1.heap.size w.heap.size (wr.heap.size)) hb rfl)⟩
        · intro lQ b W hI hUN hED KQ hKQ
          obtain ⟨q1, d1, f0, o0⟩ := hI.got 2 (of_decide_eq_true rfl) (edge hED 2 (by kernel_rfl)) rfl
          obtain ⟨q2, d2, f1, o1⟩ := hI.got 5 (of_decide_eq_true rfl) (edge hED 5 (by kernel_rfl)) rfl
          have f2 : aT b 61 = .agg #[.int .i64 0, .int .i64 17, .bool true, .slice none 0 0, .slice ao n cc] := hI.got 7 (of_decide_eq_true rfl) (edge hED 7 (by kernel_rfl)) rfl
          replace f0 : aT b 56 = .agg #[.int .i64 0, .int .i64 2, .bool false, .slice q1 (wsz x.v) d1, .slice none 0 0] := f0
          replace f1 : aT b 59 = .agg #[.int .i64 0, .int .i64 2, .bool false, .slice q2 (wsz x.e) d2, .slice none 0 0] := f1
          refine opw_buildSliceT _ 3 _ rfl #[(0, .agg #[.int .i64 0, .int .i64 2, .bool false, .slice q1 (wsz x.v) d1, .slice none 0 0]), (1, .agg #[.int .i64 0, .int .i64 2, .bool false, .slice q2 (wsz x.e) d2, .slice none 0 0]), (2, .agg #[.int .i64 0, .int .i64 17, .bool true, .slice none 0 0, .slice ao n cc])] (by simp [ev, f0, f1, f2]) (.slice (some ⟨W.heap.size, 0, none⟩) 3 3) (W.alloc (.cells #[.int .i64 0, .int .i64 2, .bool false, .slice q1 (wsz x.v) d1, .slice none 0 0, .int .i64 0, .int .i64 2, .bool false, .slice q2 (wsz x.e) d2, .slice none 0 0, .int .i64 0, .int .i64 17, .bool true, .slice none 0 0, .slice ao n cc] 117)) (by kernel_rfl) ?_
          exact hKQ.out _ _ (hI.put 8 62 rfl rfl (by rw [hz]; decide) rfl hUN rfl HBB (tr6_stb x ks ae n c ag n1 c1 ao cc l w1.heap.size w.heap.size (wr.heap.size)) ((Below.refl _ _).alloc (Nat.le_refl _) _) ⟨W.heap.size, rfl, kidG_n3 (Nat.le_trans HRW.out hI.bel.size) o0.more.more.more.more o1.more.more.more.more (HLG.out.kept hI.bel).itg⟩)
        · intro lQ b W hI hUN hED KQ hKQ
          have f2 := hI.got 8 (of_decide_eq_true rfl) (edge hED 8 (by kernel_rfl)) rfl
          obtain ⟨gr, f2, o2_0⟩ := f2
          replace f2 : aT b 62 = .slice (some ⟨gr, 0, none⟩) 3 3 := f2
          refine opw_call 60 #[.const (.int .i64 1), .const (.int .i64 13), .tmp 62] _ _ _ rfl Tryz.func60 (by kernel_rfl) rfl #[.int .i64 1, .int .i64 13, .slice (some ⟨gr, 0, none⟩) 3 3] (by simp [ev, evc, f2]) ?_
          refine (l2BoxC_agg 1 13 (some ⟨gr, 0, none⟩) 3 3 W).mono ?_
          rintro e W2 ⟨rfl, hb⟩
          exact ⟨_, rfl, hKQ.out _ _ (hI.put 9 63 rfl rfl (by rw [hz]; decide) rfl hUN rfl HBB (tr6_stb x ks ae n c ag n1 c1 ao cc l w1.heap.size w.heap.size (wr.heap.size)) hb ⟨gr, rfl, o2_0.kept hb⟩)⟩
        · intro lQ b W hI hUN hED KQ hKQ
          obtain ⟨gr, f0, o0⟩ := hI.got 9 (of_decide_eq_true rfl) (edge hED 9 (by kernel_rfl)) rfl
          replace f0 : aT b 63 = .agg #[.int .i64 1, .int .i64 13, .bool true, .slice none 0 0, .slice (some ⟨gr, 0, none⟩) 3 3] := f0
          refine opw_call 59 #[.tmp 63] _ _ _ rfl Tryz.func59 (by kernel_rfl) rfl #[.agg #[.int .i64 1, .int .i64 13, .bool true, .slice none 0 0, .slice (some ⟨gr, 0, none⟩) 3 3]] (by simp [ev, f0]) ?_
          refine (HBY.out gr W o0).mono ?_
          rintro r W2 ⟨a4, c4, rfl, ho, hb⟩
          exact ⟨_, rfl, hKQ.out _ _ (hI.put 10 64 rfl rfl (by rw [hz]; decide) rfl hUN rfl HBB (tr6_stb x ks ae n c ag n1 c1 ao cc l w1.heap.size w.heap.size (wr.heap.size)) hb ⟨a4, c4, rfl, ho.mono hI.bel.size⟩)⟩
        · intro lQ b W hI hUN hED KQ hKQ
          have f := hI.got 10 (of_decide_eq_true rfl) (edge hED 10 (by kernel_rfl)) rfl
          exact opw_assign 64 rfl (hKQ.out _ _ (hI.put 11 2 rfl rfl (by rw [hz]; decide) rfl hUN rfl HBB (tr6_stb x ks ae n c ag n1 c1 ao cc l w1.heap.size w.heap.size (wr.heap.size)) (Below.refl _ _) f))
      · intro b W hf hb F
        obtain ⟨a4, c4, e2, ho⟩ := F 11 (of_decide_eq_true rfl) rfl
        replace e2 : aT b 2 = _ := e2
        rw [hf.eq]
        simp only [puts, Act.put, List.setIfInBounds_toArray, List.set_cons_zero, List.set_cons_succ, e2]
        clear hf F e2
        generalize aT b = AT
        clear b
        have HO : Hid (Own w.heap.size W a4 l.length c4 l) := ho.mono HRS.out
        have hbW : Below w.heap.size w W := keepT HBX.out hb
        clear ho
        go_wp2
        go_ret
        exact ⟨a4, c4, rfl, HO.out, hbW⟩

end Go.Proofs.YtglpbgebcpijaaaGreat

