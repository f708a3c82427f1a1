import Derived.Test.YtoncodoimnideaaGreatDoorDB1
import Derived.Deep.RegionHeldLaw
namespace Go.Proofs.YtoncodoimnideaaGreatDoor
open Go.RowKit

def bendC : Array Value := #[.string ⟨#[]⟩, .string ⟨#[32]⟩, .string ⟨#[10]⟩, .string ⟨#[97, 127]⟩]
theorem bendC_get (v : Nat) (h : v < 4) : ∃ s : ByteArray, bendC[v]? = some (.string s) ∧ s.size ≤ 2 := by
  match v, h with
  | 0, _ | 1, _ | 2, _ | 3, _ => exact ⟨_, rfl, by decide⟩
def lenAt (w : World) (b : Nat) : Nat := match w.cell? ⟨b, 0, none⟩ with
  | some (.slice _ n _) => n
  | _ => 0
theorem lenAt_eq {w : World} {b n c : Nat} {a : Option Addr} (h : w.cell? ⟨b, 0, none⟩ = some (.slice a n c)) : lenAt w b = n := by unfold lenAt; rw [h]
theorem BS.gbox {w : World} {g B E : Nat} {a : Option Addr} {n cap : Nat} {bs : List Int} {W W' : World} {ao : Option Addr} {m c : Nat} {ys : List PT} (h : BS w g B E a n cap bs W ao m c ys) (hg : W.grownBy W' (Value.slice ao m c).ownBlock) : W'.cell? ⟨w.heap.size, 0, none⟩ = some (.slice ao m c) ∧ W'.frozen? ⟨w.heap.size, 0, none⟩ = false ∧ w.heap.size < W'.heap.size := by
  have h3 := h.Ew
  have h4 := h.size
  have hs := hg.size
  have e : W'.heap[w.heap.size]? = some (.cells #[.slice ao m c] 28 (0, 0)) := by
    refine (hg.block _ (by omega) fun e => ?_).trans h.box
    rcases ao with _ | q
    · simp [Value.ownBlock] at e
    · simp [Value.ownBlock] at e
      have := h.nt _ rfl
      omega
  exact ⟨(cell_of_row _ _ 0 _ 28 (0, 0) e).trans rfl, frozen_of_row W' _ 0 _ 28 e, by omega⟩

set_option maxRecDepth 10000 in
set_option maxHeartbeats 8000000 in
theorem bend_any (g B E : Nat) (a : Option Addr) (n cap : Nat) (bs : List Int) (ao : Option Addr) (m c : Nat) (ys : List PT) (w : World) (h : Rd w g a n cap bs) (ho : OwnPt B w ao m c ys) (hE : ∀ q, ao = some q → q.block < E) (hm : m ≤ 3) (hgB : g < B) (hBE : B ≤ E) (hEw : E ≤ w.heap.size) :
    Calls Tryz.prog 47 #[.pointer (some ⟨g, 0, none⟩), nmv ao m c] w (BnR w g B E a n cap bs) := by
  obtain ⟨i0, hi, hz0, hz1, hz2⟩ := info_parts Tryz.infoPart
  unfold nmv
  obtain ⟨wb, hwb⟩ : ∃ wb, wb = (w.alloc (.cells #[.slice ao m c] 28)).alloc (.cells #[.slice none 0 0] 28) := ⟨_, rfl⟩
  have HBS : Hid (BS w g B E a n cap bs wb ao m c ys) := by
    have hb1 : Below w.heap.size w (w.alloc (.cells #[.slice ao m c] 28)) := (Below.refl _ _).alloc (Nat.le_refl _) _
    have hbb : Below w.heap.size w wb := by rw [hwb]; exact hb1.alloc (by simp) _
    have hss : wb.heap.size = w.heap.size + 2 := by rw [hwb]; simp
    refine ⟨hgB, hBE, hEw, h.kept hbb, ho.keep fun q hq _ hl => hbb.block _ hl, fun q hq => .inl (hE q hq), ?_, ?_, hbb.os, hbb.tape, hbb.output, Nat.le_of_eq hss.symm, fun l hl _ _ => hbb.block l hl⟩
    · rw [hwb]; exact (((Below.refl _ _).alloc (Nat.le_refl _) _).block w.heap.size (by simp)).trans (heap_alloc_new w _)
    · rw [hwb]; have := heap_alloc_new (w.alloc (.cells #[.slice ao m c] 28)) (.cells #[.slice none 0 0] 28 (0, 0)); simpa using this
  have HWB : Hid (_ = _) := hwb
  clear hwb h ho hE
  go_enter Tryz.func47, Tryz.ntmps47
  go_upto_region 1 with fail
  rw [← HWB.out]
  clear HWB
  go_wp2_with fail
  refine (once_any g a n cap bs 5 _ HBS.out.rd (by decide) (by decide)).mono ?_
  rintro e w1 ⟨v, rfl, hp1⟩
  have HB1 : Hid (BS w g B E a n cap bs w1 ao m c ys) := HBS.out.rdp hp1
  clear hp1 HBS
  have RET : Hid (∀ {W : World} {ao2 : Option Addr} {m2 c2 : Nat} {zs : List PT}, BS w g B E a n cap bs W ao2 m2 c2 zs → W.cell? ⟨w.heap.size, 0, none⟩ = some (.slice ao2 m2 c2) ∧ W.cell? ⟨w.heap.size + 1, 0, none⟩ = some (.slice none 0 0) ∧ W.frozen? ⟨w.heap.size + 1, 0, none⟩ = false ∧ w.heap.size + 1 < W.heap.size ∧ w.heap.size < W.heap.size ∧ W.frozen? ⟨w.heap.size, 0, none⟩ = false) := fun hb => ⟨hb.cell.1, hb.cellR.1, hb.cellR.2.1, hb.cellR.2.2, hb.cell.2.2, hb.cell.2.1⟩
  obtain ⟨k0, k1, k2, k3, k4, k5⟩ := RET.out HB1.out
  rcases v with _ | _
  · go_wp2
    try simp only [Exit.inBlock, Exit.then]
    exact bodyPost_ret (results_nm rfl _ (w.heap.size + 1) rfl _ _ (HB1.out.fin (by omega)).1) rfl (HB1.out.fin (by omega)).2
  · by_cases hm0 : m = 0
    · subst hm0
      go_wp2
      try simp only [Exit.inBlock, Exit.then]
      exact bodyPost_ret (results_nm rfl _ (w.heap.size + 1) rfl _ _ (HB1.out.fin (by omega)).1) rfl (HB1.out.fin (by omega)).2
    · obtain ⟨gb, rfl, hgb, hgl⟩ := HB1.out.own.there (by omega)
      have hm1 : (m : Int) ≠ 0 := by omega
      go_wp2_with fail
      refine (below_any g a n cap bs m _ HB1.out.rd (by omega)).mono ?_
      rintro e w2 ⟨v1, rfl, hv10, hv11, hp2⟩
      obtain ⟨i, rfl⟩ := Int.eq_ofNat_of_zero_le hv10
      have him : i < m := by omega
      have himi : (i : Int) < (m : Int) := by omega
      have HB2 : Hid (BS w g B E a n cap bs w2 (some ⟨gb, 0, none⟩) m c ys) := HB1.out.rdp hp2
      clear hp2 HB1 hv10 hv11 k0 k1 k2 k3 k4 k5 hgl
      go_wp2_with fail
      refine (below_any g a n cap bs 5 _ HB2.out.rd (by decide)).mono ?_
      rintro e w3 ⟨v2, rfl, hv20, hv21, hp3⟩
      have HB3 : Hid (BS w g B E a n cap bs w3 (some ⟨gb, 0, none⟩) m c ys) := HB2.out.rdp hp3
      clear hp3 HB2
      have hv2 : v2 = 0 ∨ v2 = 1 ∨ v2 = 2 ∨ v2 = 3 ∨ v2 = 4 := by omega
      clear hv20 hv21
      obtain ⟨k0, k1, k2, k3, k4, k5⟩ := RET.out HB3.out
      obtain ⟨d0, d1, d2, d3, d4, d5⟩ := RET.out (HB3.out.below (Below.refl _ _).drew)
      rcases hv2 with rfl | rfl | rfl | rfl | rfl
      · go_upto_region 12 with fail
        go_region_law (go_simp; go_at_call 22; refine (below_any g a n cap bs 23 _ (HB3.out.rd.kept (Below.refl _ _).drew) (by decide)).mono ?_; rintro e w5 ⟨x, rfl, hx0, hx1, hp5⟩; have HB5 : Hid (BS w g B E a n cap bs w5 (some ⟨gb, 0, none⟩) m c ys) := (HB3.out.below (Below.refl _ _).drew).rdp hp5; obtain ⟨⟨pv, p0⟩, ⟨ps, p1⟩, pf0, pf1, pl⟩ := HB5.out.part i him; obtain ⟨q0, q1, q2, q3, q4, q5⟩ := RET.out HB5.out; have hx2 : x ≤ 22 := (by omega); clear hp5 hx1)
        all_goals
          obtain ⟨zs, w6, hw6, hF⟩ : ∃ zs w6, w6 = w5.setCell ⟨gb, i * 2, none⟩ (.int .i64 (IntKind.i64.wrap (x - 1))) ∧ BS w g B E a n cap bs w6 (some ⟨gb, 0, none⟩) m c zs := by
            obtain ⟨zs, hz⟩ := HB5.out.own.set0 i him (IntKind.i64.wrap (x - 1))
            exact ⟨zs, _, rfl, HB5.out.put _ _ hz⟩
          have HF : Hid (BS w g B E a n cap bs w6 (some ⟨gb, 0, none⟩) m c zs) := hF
          rw [← hw6]
          clear hw6 hF
          obtain ⟨r0, r1, r2, r3, r4, r5⟩ := RET.out HF.out
          go_wp2
          try simp only [Exit.inBlock, Exit.then]
          exact bodyPost_ret (results_nm rfl _ (w.heap.size + 1) rfl _ _ (HF.out.fin (by omega)).1) rfl (HF.out.fin (by omega)).2
      · have hbT : Below w3.heap.size w3 (w3.drew.alloc (.cells #[.string ⟨#[]⟩, .string ⟨#[32]⟩, .string ⟨#[10]⟩, .string ⟨#[97, 127]⟩] 9)) := (Below.refl _ _).drew.alloc (Nat.le_refl _) _
        obtain ⟨c0, c1, c2, c3, c4, c5⟩ := RET.out (HB3.out.below hbT)
        have HBT : Hid (Below w3.heap.size w3 (w3.drew.alloc (.cells #[.string ⟨#[]⟩, .string ⟨#[32]⟩, .string ⟨#[10]⟩, .string ⟨#[97, 127]⟩] 9))) := hbT
        clear hbT
        go_upto_region 14 with fail
        go_region_law
          (first
            | (go_simp; go_at_call 22; refine (below_any g a n cap bs 4 (w3.drew.alloc (.cells #[.string ⟨#[]⟩, .string ⟨#[32]⟩, .string ⟨#[10]⟩, .string ⟨#[97, 127]⟩] 9)) (HB3.out.rd.kept HBT.out) (by decide)).mono ?_; rintro e w5 ⟨x, rfl, hx0, hx1, hp5⟩; obtain ⟨u, rfl⟩ := Int.eq_ofNat_of_zero_le hx0; have hu : u < 4 := (by omega); have hui : (u : Int) < 4 := (by omega); have HB6 : Hid (BS w g B E a n cap bs w5 (some ⟨gb, 0, none⟩) m c ys) := (HB3.out.below HBT.out).rdp hp5; obtain ⟨⟨pv, p0⟩, ⟨ps, p1⟩, pf0, pf1, pl⟩ := HB6.out.part i him; obtain ⟨q0, q1, q2, q3, q4, q5⟩ := RET.out HB6.out; obtain ⟨s, js, hs⟩ : ∃ s : ByteArray, w5.cell? ⟨w3.heap.size, u, none⟩ = some (.string s) ∧ s.size ≤ 2 := (by obtain ⟨s, h1, h2⟩ := bendC_get u hu; exact ⟨s, (cell_of_row _ _ u _ 9 (0, 0) ((hp5.2.block _ (by simp) (.inr (by have := HB3.out.gB; have := HB3.out.BE; have := HB3.out.Ew; have := HB3.out.size; show g + 1 ≤ w3.heap.size; omega))).trans (heap_alloc_new w3.drew _))).trans h1, h2⟩); have hl5 : w3.heap.size < w5.heap.size := (by have := hp5.2.size; simp at this; omega); obtain ⟨zs, w6, hw6, hF⟩ : ∃ zs w6, w6 = World.setCell w5 ⟨gb, i * 2 + 1, none⟩ (.string s) ∧ BS w g B E a n cap bs w6 (some ⟨gb, 0, none⟩) m c zs := (by obtain ⟨zs, hz⟩ := HB6.out.own.set1 i him s (by omega); exact ⟨zs, _, rfl, HB6.out.put _ _ hz⟩); have HW6 : Hid (_) := hw6; have HF : Hid (BS w g B E a n cap bs w6 (some ⟨gb, 0, none⟩) m c zs) := hF; clear hw6 hF hp5 hx1 hx0)
            | (go_simp; go_at_call 22; refine (below_any g a n cap bs 4 w3.drew (HB3.out.rd.kept (Below.refl _ _).drew) (by decide)).mono ?_; rintro e w5 ⟨x, rfl, hx0, hx1, hp5⟩; obtain ⟨u, rfl⟩ := Int.eq_ofNat_of_zero_le hx0; have hu : u < 4 := (by omega); have hui : (u : Int) < 4 := (by omega); have HB5 : Hid (BS w g B E a n cap bs w5 (some ⟨gb, 0, none⟩) m c ys) := (HB3.out.below (Below.refl _ _).drew).rdp hp5; obtain ⟨u0, u1, u2, u3, u4, u5⟩ := RET.out HB5.out; have HB6 : Hid (BS w g B E a n cap bs (w5.alloc (.cells #[.string ⟨#[]⟩, .string ⟨#[32]⟩, .string ⟨#[10]⟩, .string ⟨#[97, 127]⟩] 9)) (some ⟨gb, 0, none⟩) m c ys) := HB5.out.below ((Below.refl _ _).alloc (Nat.le_refl _) _); obtain ⟨⟨pv, p0⟩, ⟨ps, p1⟩, pf0, pf1, pl⟩ := HB6.out.part i him; obtain ⟨q0, q1, q2, q3, q4, q5⟩ := RET.out HB6.out; obtain ⟨s, js, hs⟩ : ∃ s : ByteArray, (w5.alloc (.cells #[.string ⟨#[]⟩, .string ⟨#[32]⟩, .string ⟨#[10]⟩, .string ⟨#[97, 127]⟩] 9)).cell? ⟨w5.heap.size, u, none⟩ = some (.string s) ∧ s.size ≤ 2 := (by obtain ⟨s, h1, h2⟩ := bendC_get u hu; exact ⟨s, (cell_of_row _ _ u _ 9 (0, 0) (heap_alloc_new w5 _)).trans h1, h2⟩); obtain ⟨zs, w6, hw6, hF⟩ : ∃ zs w6, w6 = World.setCell (w5.alloc (.cells #[.string ⟨#[]⟩, .string ⟨#[32]⟩, .string ⟨#[10]⟩, .string ⟨#[97, 127]⟩] 9)) ⟨gb, i * 2 + 1, none⟩ (.string s) ∧ BS w g B E a n cap bs w6 (some ⟨gb, 0, none⟩) m c zs := (by obtain ⟨zs, hz⟩ := HB6.out.own.set1 i him s (by omega); exact ⟨zs, _, rfl, HB6.out.put _ _ hz⟩); have HW6 : Hid (_) := hw6; have HF : Hid (BS w g B E a n cap bs w6 (some ⟨gb, 0, none⟩) m c zs) := hF; clear hw6 hF hp5 hx1 hx0))
        all_goals
          rw [← HW6.out]
          clear HW6
          obtain ⟨r0, r1, r2, r3, r4, r5⟩ := RET.out HF.out
          go_wp2
          try simp only [Exit.inBlock, Exit.then]
          exact bodyPost_ret (results_nm rfl _ (w.heap.size + 1) rfl _ _ (HF.out.fin (by omega)).1) rfl (HF.out.fin (by omega)).2
      · have hb4 : Below w3.heap.size w3 (w3.alloc (.cells #[] 80)) := (Below.refl _ _).alloc (Nat.le_refl _) _
        obtain ⟨c0, c1, c2, c3, c4, c5⟩ := RET.out (HB3.out.below hb4)
        obtain ⟨zs, w6, hw6, hF⟩ : ∃ zs w6, w6 = (w3.alloc (.cells #[] 80)).setCell ⟨w.heap.size, 0, none⟩ (.slice (some ⟨w3.heap.size, 0, none⟩) 0 0) ∧ BS w g B E a n cap bs w6 (some ⟨w3.heap.size, 0, none⟩) 0 0 zs := by
          refine ⟨[], _, rfl, HB3.out.setBox ⟨rfl, rfl, rfl, by simp, fun l hl _ => hb4.block l hl⟩ ⟨World.ownsRow_lit w3 #[] 0 (by have := HB3.out.BE; have := HB3.out.Ew; have := HB3.out.size; omega) (Nat.zero_le _) rfl, rfl, by simp⟩ fun q hq => ?_⟩
          simp only [Option.some.injEq] at hq
          subst hq
          exact .inr HB3.out.size
        rw [World.setCell_alloc_past _ _ _ _ k4] at hw6
        clear hb4
        go_upto_region 20 with fail
        have HF : Hid (BS w g B E a n cap bs w6 (some ⟨w3.heap.size, 0, none⟩) 0 0 zs) := hF
        rw [← hw6]
        clear hw6 hF
        obtain ⟨r0, r1, r2, r3, r4, r5⟩ := RET.out HF.out
        go_wp2
        try simp only [Exit.inBlock, Exit.then]
        exact bodyPost_ret (results_nm rfl _ (w.heap.size + 1) rfl _ _ (HF.out.fin (by omega)).1) rfl (HF.out.fin (by omega)).2
      · go_wp2
        go_loopw [75] (fun _ wr => ∃ (k cc : Nat) (ax : Option Addr) (zs : List PT), 1 ≤ k ∧ k ≤ 9 ∧ Hid (BS w g B E a n cap bs wr ax k cc zs)) (fun _ wr => 9 - lenAt wr w.heap.size)
        case atStart => exact ⟨m, c, _, ys, by omega, by omega, HB3⟩
        case round =>
          obtain ⟨k, cc, ax, zs, hk1, hk, HB⟩ := hrel
          obtain ⟨gk, rfl, hgk1, hgk2⟩ := HB.out.own.there hk1
          clear hgk1 hgk2
          clear HB3 k0 k1 k2 k3 k4 k5 d0 d1 d2 d3 d4 d5
          obtain ⟨k0, k1, k2, k3, k4, k5⟩ := RET.out HB.out
          obtain ⟨d0, d1, d2, d3, d4, d5⟩ := RET.out (HB.out.below (Below.refl _ _).drew)
          go_upto_region 18 with fail
          go_region_law (go_simp; go_at_call 22; refine (below_any g a n cap bs 2 _ (HB.out.rd.kept (Below.refl _ _).drew) (by decide)).mono ?_; rintro e w5 ⟨x, rfl, hx0, hx1, hp5⟩; have HB5 : Hid (BS w g B E a n cap bs w5 (some ⟨gk, 0, none⟩) k cc zs) := (HB.out.below (Below.refl _ _).drew).rdp hp5; obtain ⟨q0, q1, q2, q3, q4, q5⟩ := RET.out HB5.out; have hx2 : x ≤ 1 := (by omega); clear hp5 hx1)
          all_goals
            have hw8 : IntKind.i64.wrap (8 + x) = 8 + x := by rcases (show x = 0 ∨ x = 1 by omega) with rfl | rfl <;> decide
            by_cases hlt : (k : Int) < 8 + x
            · have hbQ : Below w5.heap.size w5 (w5.alloc (.cells #[.int .i64 1, .string ⟨#[113]⟩] 80)) := (Below.refl _ _).alloc (Nat.le_refl _) _
              have HBQ : Hid (BS w g B E a n cap bs (w5.alloc (.cells #[.int .i64 1, .string ⟨#[113]⟩] 80)) (some ⟨gk, 0, none⟩) k cc zs) := HB5.out.below hbQ
              obtain ⟨b0, b1, b2, b3, b4, b5⟩ := RET.out HBQ.out
              have hcl : ∀ jj uu, ([.int .i64 1, .string ⟨#[113]⟩] : List Value)[jj]? = some uu → (w5.alloc (.cells #[.int .i64 1, .string ⟨#[113]⟩] 80)).cell? ((⟨w5.heap.size, 0, none⟩ : Addr).add jj) = some uu := (by intro jj uu hju; rw [Addr.add_lit, Nat.zero_add, cell_of_row _ w5.heap.size jj _ 80 _ (heap_alloc_new w5 _), ← hju]; simp)
              have h1c : ∀ u ∈ ([.int .i64 1, .string ⟨#[113]⟩] : List Value), u.oneCell' = true := (by intro u hu; simp at hu; rcases hu with rfl | rfl; exact rfl; exact rfl)
              have HCL : Hid (_) := hcl
              have HH1 : Hid (_) := h1c
              have hbB : B ≤ (w5.alloc (.cells #[.int .i64 1, .string ⟨#[113]⟩] 80)).heap.size := (by have := HB5.out.BE; have := HB5.out.Ew; have := HBQ.out.size; omega)
              have HBB : Hid (_) := hbB
              clear hcl h1c hbQ hbB
              go_wp2_with (at_builtin; refine wpList_append_lies _ rfl _ _ 26 rfl B 80 i0 _ 2 24 Tryz.underlying26 hi hz0 hz1 hz2 rfl (by decide) (.slice (some ⟨gk, 0, none⟩) k cc) k _ rfl HBQ.out.own.row ⟨w5.heap.size, 0, none⟩ 1 1 [.int .i64 1, .string ⟨#[113]⟩] rfl rfl HCL.out HH1.out (by decide) (by unfold maxLen; omega) (by omega) HBB.out _ rfl ?_; intro g8 c8 w8 hown8 hgrow8 hat8 hlt8; obtain ⟨y0, y1, y2⟩ := HBQ.out.gbox hgrow8; have HO8 : Hid (_) := hown8; have HG8 : Hid (_) := hgrow8; have HA8 : Hid (_) := hat8; clear hown8 hgrow8 hat8)
              have HBN : Hid (BS w g B E a n cap bs (w8.setCell ⟨w.heap.size, 0, none⟩ (.slice (some ⟨g8, 0, none⟩) (k + 1) c8)) (some ⟨g8, 0, none⟩) (k + 1) c8 (zs ++ [⟨1, ⟨#[113]⟩⟩])) := by
                refine HBQ.out.setBox HG8.out ⟨by rw [ptc_snoc]; exact HO8.out, by simp [HBQ.out.own.len], fun y hy => ?_⟩ fun q hq => ?_
                · rcases List.mem_append.1 hy with h1 | h1
                  · exact HBQ.out.own.small y h1
                  · simp at h1; subst h1; decide
                · simp only [Option.some.injEq] at hq
                  subst hq
                  rcases HA8.out with h1 | h1
                  · simp [Value.ownBlock] at h1
                    have := HBQ.out.nt _ rfl
                    rw [h1] at this
                    exact this
                  · right
                    have := HBQ.out.size
                    show w.heap.size + 2 ≤ g8
                    omega
              go_roundw
              case rel => exact ⟨k + 1, c8, some ⟨g8, 0, none⟩, zs ++ [⟨1, ⟨#[113]⟩⟩], by omega, by omega, HBN⟩
              case measure =>
                rw [lenAt_eq (RET.out HBN.out).1, lenAt_eq (RET.out HB.out).1]
                omega
            · have hltd : decide ((k : Int) < 8 + x) = false := decide_eq_false hlt
              go_wp2
              try simp only [Exit.inBlock, Exit.then]
              exact bodyPost_ret (results_nm rfl _ (w.heap.size + 1) rfl _ _ (HB5.out.fin (by omega)).1) rfl (HB5.out.fin (by omega)).2
      · obtain ⟨i5, hi5, hy0, hy1, hy2⟩ := info_parts Tryz.info5
        go_wp2_with fail
        refine (below_any g a n cap bs 2 _ HB3.out.rd (by decide)).mono ?_
        rintro e w5 ⟨x, rfl, hx0, hx1, hp5⟩
        have HB5 : Hid (BS w g B E a n cap bs w5 (some ⟨gb, 0, none⟩) m c ys) := HB3.out.rdp hp5
        clear hp5 HB3 k0 k1 k2 k3 k4 k5 d0 d1 d2 d3 d4 d5
        obtain ⟨L, hL⟩ : ∃ L : Nat, (60 : Int) + x = (L : Int) := ⟨(60 + x).toNat, by omega⟩
        have hL1 : L ≤ 61 := by omega
        go_wp2_with (at_make; refine wpList_make_full _ rfl _ _ 22 rfl w5.heap.size 5 i5 (.int .u8 0) 1 Tryz.underlying22 hi5 hy0 hy1 _ _ _ _ L rfl rfl (by first | exact hL | rfl | simp [Act.eval, hL]) (by first | exact hL | rfl | simp [Act.eval, hL]) (by rw [hy2]; omega) (by unfold maxLen; omega) (by exact Nat.le_refl _) ?_; intro w6 hown6 hgrow6)
        have hb6 : Below w5.heap.size w5 w6 := (Below.refl _ _).grown hgrow6 (Nat.le_refl _) (by simp)
        have HO6 : Hid (Own w5.heap.size w6 (some ⟨w5.heap.size, 0, none⟩) L L (List.replicate L 0)) := own_made hown6
        clear hown6 hgrow6
        have HX : Hid (60 + x = (L : Int)) := hL
        clear hL hx0 hx1
        go_loopw [7] (fun kv wr => ∃ (k : Nat) (xs : List Int), k ≤ L ∧ kv = .int .i64 k ∧ Hid (Own w5.heap.size wr (some ⟨w5.heap.size, 0, none⟩) L L xs) ∧ Below w5.heap.size w5 wr) (fun kv _ => L - (intOf kv).toNat)
        case atStart => exact ⟨0, _, Nat.zero_le _, rfl, HO6, hb6⟩
        case round =>
          obtain ⟨k, xs, hk, rfl, HO, hbr⟩ := hrel
          clear HO6 hb6
          by_cases hkl : k < L
          · have hkli : (k : Int) < (L : Int) := by omega
            have hc0 : ∃ y, wr.cell? ⟨w5.heap.size, k, none⟩ = some (.int .u8 y) := by
              obtain ⟨b, off, hb, _, hc⟩ := HO.out.toRow.get k hkl
              simp only [Option.some.injEq, Addr.mk.injEq] at hb
              obtain ⟨rfl, rfl, _⟩ := hb
              rw [Nat.zero_add] at hc
              exact ⟨_, hc⟩
            obtain ⟨y, hc0⟩ := hc0
            have hfz : wr.frozen? ⟨w5.heap.size, k, none⟩ = false := HO.out.row.frozenAt k
            have hlw := HO.out.base.2
            have HS : Hid (_) := HO.out.store k 109 (by decide)
            have HBN : Hid (Below w5.heap.size w5 (wr.setCell ⟨w5.heap.size, k, none⟩ (.int .u8 109))) := hbr.setCell (Nat.le_refl _) _
            go_wp2
            go_roundw
            case rel => exact ⟨k + 1, _, by omega, by go_num, HS, HBN.out⟩
            case measure => simp [intOf]; omega
          · obtain rfl : k = L := by omega
            have HF5 : Hid (BS w g B E a n cap bs wr (some ⟨gb, 0, none⟩) m c ys) := HB5.out.below hbr
            obtain ⟨⟨pv, p0⟩, ⟨ps, p1⟩, pf0, pf1, pl⟩ := HF5.out.part i him
            obtain ⟨q0, q1, q2, q3, q4, q5⟩ := RET.out HF5.out
            have hcv := convert_row (cap := k) HO.out.toRow
            obtain ⟨s, hs⟩ : ∃ s, s = strOfNums xs := ⟨_, rfl⟩
            have hsz : s.size ≤ 61 := by rw [hs, strOfNums_size, HO.out.length]; exact hL1
            rw [← hs] at hcv
            clear hs
            go_upto_region 20 with fail
            obtain ⟨zs, w6, hw6, hF⟩ : ∃ zs w6, w6 = World.setCell wr ⟨gb, i * 2 + 1, none⟩ (.string s) ∧ BS w g B E a n cap bs w6 (some ⟨gb, 0, none⟩) m c zs := (by obtain ⟨zs, hz⟩ := HF5.out.own.set1 i him s (by omega); exact ⟨zs, _, rfl, HF5.out.put _ _ hz⟩)
            have HF : Hid (BS w g B E a n cap bs w6 (some ⟨gb, 0, none⟩) m c zs) := hF
            rw [← hw6]
            clear hw6 hF
            obtain ⟨r0, r1, r2, r3, r4, r5⟩ := RET.out HF.out
            go_wp2
            try simp only [Exit.inBlock, Exit.then]
            exact bodyPost_ret (results_nm rfl _ (w.heap.size + 1) rfl _ _ (HF.out.fin (by omega)).1) rfl (HF.out.fin (by omega)).2

end Go.Proofs.YtoncodoimnideaaGreatDoor
