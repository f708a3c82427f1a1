import Derived.Test.YtbfjkmlmnhphoaaDoorGMD3MD5
import Derived.Test.YtbfjkmlmnhphoaaDoorGK3K4
import Derived.Test.YtbfjkmlmnhphoaaDoorGW1W6
set_option linter.unusedVariables false
namespace Go.Proofs.YtbfjkmlmnhphoaaDoor
open Go.RowKit Go.Sort

set_option maxRecDepth 10000 in
set_option maxHeartbeats 4000000 in
theorem heldGoneS_any (B : Nat) (a : Option Addr) (n cap k : Nat) (sl : Nat → Sl) (pv : Nat → List Value) (vs : List Value) (w : World) (h : OwnQ B w a n cap sl (mkP sl k pv n) (mkV sl k vs n)) (hn : n ≤ 1048576) (hs : ∀ j, j < n → (sl j).2.1 ≤ 1048576) (h0 : 0 < k) (hk : nxQ sl k n ≤ 2000000000000000) :
    Calls Tryd.prog 54 #[.slice a n cap, .int .i64 k] w fun e w' => e = .returned (.int .i64 (nxQ sl k n : Nat)) ∧ Below w.heap.size w w' := by
  have HS : Hid (∀ j, j < n → (sl j).2.1 ≤ 1048576) := hs
  have H0 : Hid (OwnQ B w a n cap sl (mkP sl k pv n) (mkV sl k vs n)) := h
  have HK : Hid (nxQ sl k n ≤ 2000000000000000) := hk
  have HK0 : Hid (0 < k) := h0
  clear h hs hk h0
  go_enter Tryd.func54, Tryd.ntmps54
  go_wp2
  go_loopw [1, 5] (fun q i wr => ∃ j : Nat, j ≤ n ∧ i = .int .i64 j ∧ q = .int .i64 (nxQ sl k j : Nat) ∧ Below w.heap.size w wr) (fun _ i _ => n - (intOf i).toNat)
  case atStart => exact ⟨0, Nat.zero_le _, rfl, rfl, Below.refl _ _⟩
  case round =>
    obtain ⟨j, hj, rfl, rfl, hbr⟩ := hrel
    by_cases hlt : j < n
    · have HR : Hid (OwnQ B wr a n cap sl (mkP sl k pv n) (mkV sl k vs n)) := H0.out.below hbr
      obtain ⟨g, rfl, hgB, hgl⟩ := ownsRow_shape HR.out.row (by omega)
      have hlen : vs.length = n * 4 := by rw [← mkV_len sl k vs n]; exact HR.out.row.1
      obtain ⟨m1, m2, m3⟩ := mkV_get sl k vs n j hlt (by omega)
      have c0 : wr.cell? ⟨g, j * 4, none⟩ = some (.slice (sl j).1 (sl j).2.1 (sl j).2.2) := (HR.out.row.cellAt (j * 4) (by omega)).trans (HR.out.at0 j hlt)
      have c1 := (HR.out.row.cellAt (j * 4 + 1) (by omega)).trans m1
      have c2 := (HR.out.row.cellAt (j * 4 + 2) (by omega)).trans m2
      have c3 := (HR.out.row.cellAt (j * 4 + 3) (by omega)).trans m3
      have hq1 : nxQ sl k (j + 1) ≤ 2000000000000000 := Nat.le_trans (nxQ_le sl k (by omega)) HK.out
      have hq0 : k ≤ nxQ sl k j := nxQ_le sl k (Nat.zero_le _)
      have hsj := HS.out j hlt
      simp only [nxQ] at hq1
      have HM := heldPartS_q B (sl j).1 (sl j).2.1 (sl j).2.2 (nxQ sl k j) wr (fun hp => by have h1 := HR.out.each j hlt hp; unfold mkP at h1; rw [if_pos hlt] at h1; exact h1) hsj (by have := HK0.out; omega) (by omega)
      have HX : Hid (nxQ sl k (j + 1) = nxQ sl k j + 2 * (sl j).2.1 + 3) := rfl
      obtain ⟨p, hp⟩ : ∃ p, p = nxQ sl k j + 2 * (sl j).2.1 := ⟨_, rfl⟩
      rw [← hp] at HX HM c1 c2 c3
      have hp1 : p ≤ 2000000000000000 := by omega
      obtain ⟨q, hq⟩ : ∃ q, q = nxQ sl k j := ⟨_, rfl⟩
      obtain ⟨a1, ha⟩ : ∃ x, x = (sl j).1 := ⟨_, rfl⟩
      obtain ⟨n1, hn1⟩ : ∃ x, x = (sl j).2.1 := ⟨_, rfl⟩
      obtain ⟨d1, hd1⟩ : ∃ x, x = (sl j).2.2 := ⟨_, rfl⟩
      rw [← ha, ← hn1, ← hd1] at c0
      rw [← ha, ← hn1, ← hd1, ← hq] at HM
      rw [← hq]
      have hjn : (j : Int) < (n : Int) := by omega
      have hglr : g < wr.heap.size := hgl
      clear hp ha hn1 hd1 hq hq1 hq0 hsj HR m1 m2 m3 hgl
      go_wp2_with fail
      refine HM.mono ?_
      rintro e w2 ⟨rfl, hb2⟩
      have x1 : w2.cell? ⟨g, j * 4 + 1, none⟩ = _ := (hb2.cell (p := ⟨g, j * 4 + 1, none⟩) hglr).trans c1
      have x2 : w2.cell? ⟨g, j * 4 + 2, none⟩ = _ := (hb2.cell (p := ⟨g, j * 4 + 2, none⟩) hglr).trans c2
      have x3 : w2.cell? ⟨g, j * 4 + 3, none⟩ = _ := (hb2.cell (p := ⟨g, j * 4 + 3, none⟩) hglr).trans c3
      have HB : Hid (Below w.heap.size w w2) := hbr.trans (hb2.mono hbr.size)
      have hpn : ¬ ((p : Int) < 0) := by omega
      clear HM hb2 c0 c1 c2 c3
      go_wp2
      go_roundw
      case rel => exact ⟨j + 1, by omega, by go_num, by rw [HX.out, show ((p + 3 : Nat) : Int) = (p : Int) + 1 + 1 + 1 from by omega], HB.out⟩
      case measure => simp [intOf]; omega
    · have hjn : j = n := by omega
      subst hjn
      go_wp2
      go_ret
      exact ⟨rfl, hbr⟩

end Go.Proofs.YtbfjkmlmnhphoaaDoor

set_option linter.unusedVariables false
namespace Go.Proofs.YtbfjkmlmnhphoaaDoor
open Go.RowKit Go.Sort

theorem markName_q (B : Nat) (a : Option Addr) (n cap k : Nat) (vs : List Value) (w : World) (h : 0 < n → w.ownsRow B 107 2 (.slice a n cap) n vs) (hn : n ≤ 1048576) (h0 : 0 < k) (hk : k ≤ 2000000000000000) :
    Calls Tryd.prog 50 #[.agg #[.slice a n cap], .int .i64 k] w fun e w' => e = .returned (.int .i64 (k + 2 * n : Nat)) ∧ (0 < n → w'.ownsRow B 107 2 (.slice a n cap) n (mkPs k n)) ∧ TouchA a n w w' := by
  have hb : Below w.heap.size w (w.alloc (.cells #[.slice a n cap] 33)) := (Below.refl _ _).alloc (Nat.le_refl _) _
  have HM := markPartS_q B a n cap k vs (w.alloc (.cells #[.slice a n cap] 33)) (fun hp => ownsRow_below (h hp) hb) hn h0 hk
  clear h
  go_enter Tryd.func50, Tryd.ntmps50
  go_wp2_with fail
  refine HM.mono ?_
  rintro e w2 ⟨rfl, ho, ht⟩
  have HO : Hid (_) := ho
  have HT : Hid (_) := (TouchA.of_below hb).trans ht
  clear HM ho ht
  go_wp2
  go_ret
  exact ⟨rfl, HO.out, HT.out⟩
theorem heldName_q (B : Nat) (a : Option Addr) (n cap k : Nat) (w : World) (h : 0 < n → w.ownsRow B 107 2 (.slice a n cap) n (mkPs k n)) (hn : n ≤ 1048576) (h0 : 0 < k) (hk : k ≤ 2000000000000000) :
    Calls Tryd.prog 53 #[.agg #[.slice a n cap], .int .i64 k] w fun e w' => e = .returned (.int .i64 (k + 2 * n : Nat)) ∧ Below w.heap.size w w' := by
  have hb : Below w.heap.size w (w.alloc (.cells #[.slice a n cap] 33)) := (Below.refl _ _).alloc (Nat.le_refl _) _
  have HM := heldPartS_q B a n cap k (w.alloc (.cells #[.slice a n cap] 33)) (fun hp => ownsRow_below (h hp) hb) hn h0 hk
  have hpn : ¬ (((k + 2 * n : Nat) : Int) < 0) := by omega
  clear h
  obtain ⟨p, hp⟩ : ∃ p, p = k + 2 * n := ⟨_, rfl⟩
  rw [← hp] at HM hpn
  rw [← hp]
  clear hp
  go_enter Tryd.func53, Tryd.ntmps53
  go_wp2_with fail
  refine HM.mono ?_
  rintro e w2 ⟨rfl, hb2⟩
  have HB : Hid (Below w.heap.size w w2) := hb.trans (hb2.mono hb.size)
  clear HM hb2
  go_wp2
  go_ret
  exact ⟨rfl, HB.out⟩

/-- A list's memory of our own. -/
structure OwnC (B : Nat) (w : World) (a1 : Option Addr) (n1 c1 : Nat) (a2 : Option Addr) (n2 c2 : Nat) (a3 : Option Addr) (n3 c3 : Nat) (v1 : List Value) (sl : Nat → Sl) (pv : Nat → List Value) (vs : List Value) (bs : List Int) : Prop where
  nm : 0 < n1 → w.ownsRow B 107 2 (.slice a1 n1 c1) n1 v1
  en : OwnQ B w a2 n2 c2 sl pv vs
  sg : Own B w a3 n3 c3 bs
  ap : ∀ j, j < n2 → 0 < n1 → 0 < (sl j).2.1 → a1 ≠ (sl j).1

theorem OwnQ.keepS {B : Nat} {S : Nat → Prop} {w w' : World} {a : Option Addr} {n cap : Nat} {sl : Nat → Sl} {pv : Nat → List Value} {vs : List Value} (h : OwnQ B w a n cap sl pv vs) (k : TouchS S w w') (h1 : ∀ g, a = some ⟨g, 0, none⟩ → B ≤ g → ¬ S g) (h2 : ∀ j, j < n → 0 < (sl j).2.1 → ∀ g, (sl j).1 = some ⟨g, 0, none⟩ → B ≤ g → ¬ S g) : OwnQ B w' a n cap sl pv vs :=
  ⟨ownsRow_keepS h.row k h1, h.at0, fun j hj hp => ownsRow_keepS (h.each j hj hp) k (h2 j hj hp), h.apart⟩
theorem OwnC.low {B : Nat} {S : Nat → Prop} {w w' : World} {a1 : Option Addr} {n1 c1 : Nat} {a2 : Option Addr} {n2 c2 : Nat} {a3 : Option Addr} {n3 c3 : Nat} {v1 : List Value} {sl : Nat → Sl} {pv : Nat → List Value} {vs : List Value} {bs : List Int} (h : OwnC B w a1 n1 c1 a2 n2 c2 a3 n3 c3 v1 sl pv vs bs) (k : TouchS S w w') (hS : ∀ i, S i → i < B) : OwnC B w' a1 n1 c1 a2 n2 c2 a3 n3 c3 v1 sl pv vs bs :=
  ⟨fun hp => ownsRow_keepS (h.nm hp) k (fun g _ hg q => by have := hS g q; omega), h.en.keepS k (fun g _ hg q => by have := hS g q; omega) (fun j hj hp g _ hg q => by have := hS g q; omega),
   ⟨ownsRow_keepS h.sg.row k (fun g _ hg q => by have := hS g q; omega), h.sg.byte⟩, h.ap⟩
theorem OwnC.below {B : Nat} {w w' : World} {a1 : Option Addr} {n1 c1 : Nat} {a2 : Option Addr} {n2 c2 : Nat} {a3 : Option Addr} {n3 c3 : Nat} {v1 : List Value} {sl : Nat → Sl} {pv : Nat → List Value} {vs : List Value} {bs : List Int} (h : OwnC B w a1 n1 c1 a2 n2 c2 a3 n3 c3 v1 sl pv vs bs) (hb : Below w.heap.size w w') : OwnC B w' a1 n1 c1 a2 n2 c2 a3 n3 c3 v1 sl pv vs bs :=
  h.low (S := fun _ => False) (TouchS.of_below hb) (fun _ q => q.elim)

end Go.Proofs.YtbfjkmlmnhphoaaDoor

set_option linter.unusedVariables false
namespace Go.Proofs.YtbfjkmlmnhphoaaDoor
open Go.RowKit Go.Sort

/-- Where a list's memory lies. -/
structure InC (S : Nat → Prop) (a1 : Option Addr) (n1 : Nat) (a2 : Option Addr) (n2 : Nat) (a3 : Option Addr) (sl : Nat → Sl) : Prop where
  nm : ∀ g, a1 = some ⟨g, 0, none⟩ → 0 < n1 → S g
  en : ∀ g, a2 = some ⟨g, 0, none⟩ → 0 < n2 → S g
  each : ∀ j, j < n2 → ∀ g, (sl j).1 = some ⟨g, 0, none⟩ → 0 < (sl j).2.1 → S g
  sg : ∀ g, a3 = some ⟨g, 0, none⟩ → S g
theorem ownsRow_in {w : World} {B t s n c : Nat} {a : Option Addr} {vs : List Value} (h : w.ownsRow B t s (.slice a n c) n vs) (g : Nat) (e : a = some ⟨g, 0, none⟩) : B ≤ g ∧ g < w.heap.size := by
  rcases h.2 with ⟨q, _⟩ | ⟨g', c1, cur, h1, hb, hg, r⟩
  · simp only [Value.slice.injEq] at q
    rw [e] at q
    simp at q
  · simp only [Value.slice.injEq] at h1
    have e2 := h1.1.symm.trans e
    simp only [Option.some.injEq, Addr.mk.injEq] at e2
    rw [← e2.1]
    exact ⟨hb, (Array.getElem?_eq_some_iff.1 hg).1⟩
theorem OwnC.inC {B : Nat} {w : World} {a1 : Option Addr} {n1 c1 : Nat} {a2 : Option Addr} {n2 c2 : Nat} {a3 : Option Addr} {n3 c3 : Nat} {v1 : List Value} {sl : Nat → Sl} {pv : Nat → List Value} {vs : List Value} {bs : List Int} (h : OwnC B w a1 n1 c1 a2 n2 c2 a3 n3 c3 v1 sl pv vs bs) : InC (fun i => B ≤ i ∧ i < w.heap.size) a1 n1 a2 n2 a3 sl :=
  ⟨fun g e hp => ownsRow_in (h.nm hp) g e, fun g e _ => ownsRow_in h.en.row g e, fun j hj g e hp => ownsRow_in (h.en.each j hj hp) g e, fun g e => ownsRow_in h.sg.row g e⟩

def S2 (a2 : Option Addr) (n2 : Nat) (sl : Nat → Sl) (i : Nat) : Prop := (0 < n2 ∧ a2 = some ⟨i, 0, none⟩) ∨ ∃ j, j < n2 ∧ 0 < (sl j).2.1 ∧ (sl j).1 = some ⟨i, 0, none⟩

/-- The parts are marked. -/
theorem OwnC.step1 {B : Nat} {w w1 : World} {a1 : Option Addr} {n1 c1 : Nat} {a2 : Option Addr} {n2 c2 : Nat} {a3 : Option Addr} {n3 c3 : Nat} {v1 u1 : List Value} {sl : Nat → Sl} {pv : Nat → List Value} {vs : List Value} {bs : List Int} (h : OwnC B w a1 n1 c1 a2 n2 c2 a3 n3 c3 v1 sl pv vs bs)
    (ho : 0 < n1 → w1.ownsRow B 107 2 (.slice a1 n1 c1) n1 u1) (ht : TouchA a1 n1 w w1) : OwnC B w1 a1 n1 c1 a2 n2 c2 a3 n3 c3 u1 sl pv vs bs :=
  ⟨ho, h.en.keepS (ht.touchS (S := fun i => 0 < n1 ∧ a1 = some ⟨i, 0, none⟩) (fun g e hp => ⟨hp, e⟩)) (fun g e _ q => ownsRow_ne (h.nm q.1) h.en.row (by decide) q.1 (q.2.trans e.symm)) (fun j hj hp g e _ q => h.ap j hj q.1 hp (q.2.trans e.symm)),
   ⟨ownsRow_keepA h.sg.row ht (fun hp => ownsRow_ne (h.nm hp) h.sg.row (by decide) hp), h.sg.byte⟩, h.ap⟩
/-- The entries are marked. -/
theorem OwnC.step2 {B : Nat} {w w1 : World} {a1 : Option Addr} {n1 c1 : Nat} {a2 : Option Addr} {n2 c2 : Nat} {a3 : Option Addr} {n3 c3 : Nat} {v1 : List Value} {sl : Nat → Sl} {pv pu : Nat → List Value} {vs us : List Value} {bs : List Int} (h : OwnC B w a1 n1 c1 a2 n2 c2 a3 n3 c3 v1 sl pv vs bs)
    (ho : OwnQ B w1 a2 n2 c2 sl pu us) (ht : TouchS (S2 a2 n2 sl) w w1) : OwnC B w1 a1 n1 c1 a2 n2 c2 a3 n3 c3 v1 sl pu us bs := by
  refine ⟨fun hp => ownsRow_keepS (h.nm hp) ht ?_, ho, ⟨ownsRow_keepS h.sg.row ht ?_, h.sg.byte⟩, h.ap⟩
  · rintro g e _ (⟨_, e2⟩ | ⟨j, hj, hp2, e2⟩)
    · exact ownsRow_ne (h.nm hp) h.en.row (by decide) hp (e.trans e2.symm)
    · exact h.ap j hj hp hp2 (e.trans e2.symm)
  · rintro g e _ (⟨hp2, e2⟩ | ⟨j, hj, hp2, e2⟩)
    · exact ownsRow_ne h.en.row h.sg.row (by decide) hp2 (e2.trans e.symm)
    · exact ownsRow_ne (h.en.each j hj hp2) h.sg.row (by decide) hp2 (e2.trans e.symm)
/-- The signature is marked. -/
theorem OwnC.step3 {B : Nat} {w w1 : World} {a1 : Option Addr} {n1 c1 : Nat} {a2 : Option Addr} {n2 c2 : Nat} {a3 : Option Addr} {n3 c3 : Nat} {v1 : List Value} {sl : Nat → Sl} {pv : Nat → List Value} {vs : List Value} {bs us : List Int} (h : OwnC B w a1 n1 c1 a2 n2 c2 a3 n3 c3 v1 sl pv vs bs)
    (ho : Own B w1 a3 n3 c3 us) (ht : TouchS (fun i => a3 = some ⟨i, 0, none⟩) w w1) : OwnC B w1 a1 n1 c1 a2 n2 c2 a3 n3 c3 v1 sl pv vs us :=
  ⟨fun hp => ownsRow_keepS (h.nm hp) ht (fun g e _ q => ownsRow_ne (h.nm hp) h.sg.row (by decide) hp (e.trans q.symm)),
   ⟨ownsRow_keepS h.en.row ht (fun g e _ q => by
      have h1 := h.en.row
      have h3 := h.sg.row
      rcases h1.2 with ⟨z, _⟩ | ⟨g1, k1, cur, y1, _, hg1, _⟩
      · simp only [Value.slice.injEq] at z; rw [e] at z; simp at z
      · rcases h3.2 with ⟨z, _⟩ | ⟨g3, k3, cur3, y3, _, hg3, _⟩
        · simp only [Value.slice.injEq] at z; rw [q] at z; simp at z
        · simp only [Value.slice.injEq] at y1 y3
          have e1 := y1.1.symm.trans e
          have e3 := y3.1.symm.trans q
          simp only [Option.some.injEq, Addr.mk.injEq] at e1 e3
          rw [e1.1] at hg1
          rw [e3.1, hg1] at hg3
          simp only [Option.some.injEq, Obj.cells.injEq] at hg3
          exact absurd hg3.2.1 (by decide)), h.en.at0,
    fun j hj hp => ownsRow_keepS (h.en.each j hj hp) ht (fun g e _ q => ownsRow_ne (h.en.each j hj hp) h.sg.row (by decide) hp (e.trans q.symm)), h.en.apart⟩, ho, h.ap⟩
theorem touchS_grown {w w' : World} {a : Option Addr} {n c : Nat} (h : w.grownBy w' (Value.slice a n c).ownBlock) (hz : ∀ g, (Value.slice a n c).ownBlock = some g → a = some ⟨g, 0, none⟩) : TouchS (fun i => a = some ⟨i, 0, none⟩) w w' :=
  ⟨h.os, h.tape, h.output, h.size, fun i hi ho => h.block i hi (fun e => ho (hz i e.symm))⟩

end Go.Proofs.YtbfjkmlmnhphoaaDoor

set_option linter.unusedVariables false
namespace Go.Proofs.YtbfjkmlmnhphoaaDoor
open Go.RowKit

set_option maxRecDepth 10000 in
set_option maxHeartbeats 400000 in
theorem markByteS_big (B : Nat) (a : Option Addr) (n cap k : Nat) (bs : List Int) (w : World) (h : Own B w a n cap bs) (hn : n ≤ 4000000000000000) (hk : k ≤ 4000000000000000) :
    Calls Tryd.prog 52 #[.slice a n cap, .int .i64 k] w fun e w' => e = .returned (.int .i64 (k + n : Nat)) ∧ Own B w' a n cap (marks k n) ∧ w.grownBy w' (Value.slice a n cap).ownBlock := by
  have HL : Hid (bs.length = n) := h.length
  have H0 : Hid (Own B w a n cap bs) := h
  clear h
  go_enter Tryd.func52, Tryd.ntmps52
  go_wp2
  go_loopw [1, 5] (fun kk i wr => ∃ j : Nat, j ≤ n ∧ i = .int .i64 j ∧ kk = .int .i64 (k + j : Nat) ∧ Own B wr a n cap (mkd bs k j) ∧ w.grownBy wr (Value.slice a n cap).ownBlock) (fun _ i _ => n - (intOf i).toNat)
  case atStart => exact ⟨0, Nat.zero_le _, rfl, rfl, by rw [mkd_zero]; exact H0.out, World.grownBy.refl _ _⟩
  case round =>
    obtain ⟨j, hj, rfl, rfl, hor, hgr⟩ := hrel
    by_cases hlt : j < n
    · obtain ⟨g, rfl⟩ := hor.shape (by omega)
      have hfr : wr.frozen? ⟨g, j, none⟩ = false := hor.row.frozenAt j
      obtain ⟨y, hy⟩ : ∃ y, wr.cell? ⟨g, j, none⟩ = some y := ⟨_, (hor.row.cellAt j (by omega)).trans (List.getElem?_eq_getElem (by simp [mkd_len bs k j (by have := HL.out; omega), HL.out]; exact hlt))⟩
      have hs := hor.store j (((k + j : Nat) : Int) % 256) (by omega)
      rw [mkd_set bs k j (by have := HL.out; omega)] at hs
      have hg2 := grown_trans hgr (hor.row.stored j (.int .u8 (((k + j : Nat) : Int) % 256))).2
      clear hor hgr
      have e0 : ((k + j : Nat) : Int) = (k : Int) + (j : Int) := by omega
      have HS : Hid (Own B (wr.setCell ⟨g, j, none⟩ (.int .u8 (((k + j : Nat) : Int) % 256))) (some ⟨g, 0, none⟩) n cap (mkd bs k (j + 1))) := hs
      have HG : Hid (w.grownBy (wr.setCell ⟨g, j, none⟩ (.int .u8 (((k + j : Nat) : Int) % 256))) (Value.slice (some ⟨g, 0, none⟩) n cap).ownBlock) := hg2
      clear hs hg2 e0
      go_wp2
      go_roundw
      case rel => exact ⟨j + 1, by omega, by go_num, by go_num, by have := HS.out; rw [Int.natCast_add] at this; exact this, by have := HG.out; rw [Int.natCast_add] at this; exact this⟩
      case measure => simp [intOf]; omega
    · have hjn : j = n := by omega
      subst hjn
      go_wp2
      go_ret
      exact ⟨rfl, by rw [← HL.out, mkd_all, HL.out] at hor; exact hor, hgr⟩

set_option maxRecDepth 10000 in
set_option maxHeartbeats 400000 in
theorem heldByteS_big (a : Option Addr) (n cap k : Nat) (w : World) (h : Row w a n (marks k n)) (hn : n ≤ 4000000000000000) (hk : k ≤ 4000000000000000) :
    Calls Tryd.prog 55 #[.slice a n cap, .int .i64 k] w fun e w' => e = .returned (.int .i64 (k + n : Nat)) ∧ w' = w := by
  have H0 : Hid (Row w a n (marks k n)) := h
  clear h
  go_enter Tryd.func55, Tryd.ntmps55
  go_wp2
  go_loop [1, 5] (fun kk i => ∃ j : Nat, j ≤ n ∧ i = .int .i64 j ∧ kk = .int .i64 (k + j : Nat)) (fun _ i => n - (intOf i).toNat)
  case atStart => exact ⟨0, Nat.zero_le _, rfl, rfl⟩
  case round =>
    obtain ⟨j, hj, rfl, rfl⟩ := hrel
    by_cases hlt : j < n
    · obtain ⟨b, off, rfl, hb, hc⟩ := H0.out.get j hlt
      rw [marks_get k n j hlt, Int.natCast_add] at hc
      go_wp2
      go_round
      case rel => exact ⟨j + 1, by omega, by go_num, by go_num⟩
      case measure => simp [intOf]; omega
    · have hjn : j = n := by omega
      subst hjn
      go_wp2
      go_ret
      exact ⟨rfl, rfl⟩

end Go.Proofs.YtbfjkmlmnhphoaaDoor
