import Derived.Test.YtoncodoimnideaaGreatDoorDN1
import Derived.Test.YtoncodoimnideaaGreatDoorWApp
import Derived.Deep.RegionHeldLaw
namespace Go.Proofs.YtoncodoimnideaaGreatDoor
open Go.RowKit

theorem owns_touchN {w w' : World} {B e s n lo hi : Nat} {v : Value} {xs : List Value} (h : w.ownsRow B e s v n xs) (ht : Touch lo hi w w') (hd : hi ≤ B) : w'.ownsRow B e s v n xs := by
  refine ⟨h.1, ?_⟩
  rcases h.2 with hv | ⟨g, cap, cur, hv, hb, hg, rest⟩
  · exact .inl hv
  · exact .inr ⟨g, cap, cur, hv, hb, (ht.block g (Array.getElem?_eq_some_iff.1 hg).1 (by omega)).trans hg, rest⟩
theorem step_append_ownT {P : Program} {ops : Array Oper} {o : Oper} {a : Act} {w : World} {K : Act → World → Prop} {Q : Exit → Act → World → Prop} {E : Prop}
    (hg : o.guard = none) (s x : Operand) (t : TypeId) (hop : o.op = Op.call { callee := Callee.builtin Builtin.append, args := #[s, x], argTypes := #[t, t] })
    (base : Nat) (e : TypeId) (i : TypeInfo) (z : Value) (size bytes : Nat) (h1 : P.underlying t = some (.slice e)) (h2 : P.info? e = some i) (h3 : i.zero = some z) (h4 : i.size = size) (h5 : i.bytes = bytes) (h6 : z.cells.size = size) (h7 : 0 < size)
    (v : Value) (n : Nat) (xs : List Value) (hs : a.eval s = v) (hown : w.ownsRow base e size v n xs)
    (ad : Addr) (m c : Nat) (news : List Value) (hx : a.eval x = .slice (some ad) m c) (hn : news.length = m * size) (hc : ∀ j u, news[j]? = some u → w.cell? (ad.add j) = some u) (h1c : ∀ u ∈ news, u.oneCell' = true)
    (b1 : n + m ≤ maxLen) (b2 : (n + m) * bytes ≤ 140737488355328) (b3 : base ≤ w.heap.size)
    (hK : ∀ v' w', w'.ownsRow base e size v' (n + m) (xs ++ news) → w.grownBy w' v.ownBlock → K (a.put o.dst v') w') :
    if Region.wanted o (yielded ops a.tmps) = true then Oper.wp P o a w K Q else E := by
  have hw : Region.wanted o (yielded ops a.tmps) = true := by simp [Region.wanted, hg]
  rw [if_pos hw]
  obtain ⟨v', w', hrun, r1, r2, _⟩ := run_append_own (P := P) w base t o.type e i z size bytes h1 h2 h3 h4 h5 h6 h7 v n xs hown ad m c news hn hc h1c b1 b2 b3
  unfold Oper.wp
  simp [execOp, hop, resolve, invoke, builtin, hs, hx, hrun, Result.andThen]
  exact hK v' w' r1 r2
theorem owns_shapeN {w : World} {B e s n : Nat} {v : Value} {xs : List Value} (h : w.ownsRow B e s v n xs) : ∃ a c, v = .slice a n c := by
  rcases h.2 with ⟨rfl, rfl⟩ | ⟨g, cap, cur, rfl, _⟩
  · exact ⟨_, _, rfl⟩
  · exact ⟨_, _, rfl⟩
def ptc (xs : List PT) : List Value := xs.flatMap fun x => [Value.int .i64 x.attr, .string x.val]
theorem ptc_snoc (xs : List PT) (x : PT) : ptc (xs ++ [x]) = ptc xs ++ [.int .i64 x.attr, .string x.val] := by simp [ptc]
/-- Parts of our own. -/
structure OwnPt (B : Nat) (w : World) (a : Option Addr) (n cap : Nat) (xs : List PT) : Prop where
  row : w.ownsRow B 80 2 (.slice a n cap) n (ptc xs)
  len : xs.length = n
  small : ∀ x ∈ xs, x.val.size ≤ 1000
theorem ownPt_none (B : Nat) (w : World) : OwnPt B w none 0 0 [] := ⟨World.ownsRow_nil _ _ _ _, rfl, by simp⟩
theorem OwnPt.same {B : Nat} {w w' : World} {a : Option Addr} {n cap : Nat} {xs : List PT} (h : OwnPt B w a n cap xs) (e : ∀ g, B ≤ g → w'.heap[g]? = w.heap[g]?) : OwnPt B w' a n cap xs := by
  refine ⟨⟨h.row.1, ?_⟩, h.len, h.small⟩
  rcases h.row.2 with q | ⟨g, c, cur, h1, hb, hg, r⟩
  · exact .inl q
  · exact .inr ⟨g, c, cur, h1, hb, (e g hb).trans hg, r⟩
theorem results_nm' {fn : Func} {t : Tmp} (h : fn.results = #[.cell t 28]) (tmps : Array Value) (g : Nat) (ht : tmps.getD t undef = .pointer (some ⟨g, 0, none⟩)) (w : World) (c0 : Value)
    (hb : w.heap[g]? = some (.cells #[c0] 28 (0, 0))) : (results fn tmps).run Tryz.prog w = .ok (.agg #[c0]) w := results_nm h tmps g ht w c0 hb

/-- A drawn name. -/
def DnR (w : World) (g : Nat) (a : Option Addr) (n cap : Nat) (bs : List Int) (e : Ending) (w' : World) : Prop := ∃ (m c : Nat) (ao : Option Addr) (xs : List PT), e = .returned (nmv ao m c) ∧ m ≤ 3 ∧ OwnPt w.heap.size w' ao m c xs ∧ (∀ x ∈ xs, x.val.size ≤ 8) ∧ RdPost w g a n cap bs w'

set_option maxRecDepth 10000 in
set_option maxHeartbeats 4000000 in
theorem drawName_any (g : Nat) (a : Option Addr) (n cap : Nat) (bs : List Int) (w : World) (h : Rd w g a n cap bs) :
    Calls Tryz.prog 46 #[.pointer (some ⟨g, 0, none⟩)] w (DnR w g a n cap bs) := by
  obtain ⟨i0, hi, hz0, hz1, hz2⟩ := info_parts Tryz.infoPart
  obtain ⟨wb, hwb⟩ : ∃ wb, wb = (w.alloc (.cells #[.slice none 0 0] 28)).alloc (.cells #[.slice none 0 0] 28) := ⟨_, rfl⟩
  have hss : wb.heap.size = w.heap.size + 2 := by rw [hwb]; simp
  have x1 : wb.heap[w.heap.size + 1]? = some (.cells #[.slice none 0 0] 28) := by rw [hwb]; have := heap_alloc_new (w.alloc (.cells #[.slice none 0 0] 28)) (.cells #[.slice none 0 0] 28 (0, 0)); simpa using this
  have x0 : wb.heap[w.heap.size]? = some (.cells #[.slice none 0 0] 28) := by rw [hwb]; exact (((Below.refl _ _).alloc (Nat.le_refl _) _).block w.heap.size (by simp)).trans (heap_alloc_new w _)
  have hbb : Below w.heap.size w wb := by rw [hwb]; exact ((Below.refl _ _).alloc (Nat.le_refl _) _).alloc (by simp) _
  have hgw : g < w.heap.size := h.lt
  have HR : Hid (Rd wb g a n cap bs) := by
    have h1 := h.kept ((Below.refl w.heap.size w).alloc (Nat.le_refl _) (.cells #[.slice none 0 0] 28))
    have h2 := h1.kept ((Below.refl _ _).alloc (Nat.le_refl _) (.cells #[.slice none 0 0] 28))
    rw [hwb]; exact h2
  have HX0 : Hid (wb.heap[w.heap.size]? = some (.cells #[.slice none 0 0] 28)) := x0
  have HX1 : Hid (wb.heap[w.heap.size + 1]? = some (.cells #[.slice none 0 0] 28)) := x1
  have HSS : Hid (wb.heap.size = w.heap.size + 2) := hss
  have HTB : Hid (Touch g (g + 1) w wb) := Touch.of_below hbb
  have HWB : Hid (_ = _) := hwb
  have hsb : w.heap.size + 1 < wb.heap.size := by omega
  clear hwb x0 x1 hbb h hss
  go_enter Tryz.func46, Tryz.ntmps46
  go_upto_region 2 with fail
  rw [← HWB.out]
  clear HWB
  go_wp2_with fail
  refine (below_any g a n cap bs 3 _ HR.out (by decide)).mono ?_
  rintro e w1 ⟨v1, rfl, hv10, hv11, hp1⟩
  obtain ⟨V, rfl⟩ := Int.eq_ofNat_of_zero_le hv10
  have hV : V ≤ 2 := by omega
  have HP1 : Hid (RdPost wb g a n cap bs w1) := hp1
  have s1 := hp1.2.size
  have HX01 : Hid (w1.heap[w.heap.size]? = some (.cells #[.slice none 0 0] 28)) := (hp1.2.block _ (by omega) (.inr (by omega))).trans HX0.out
  have HX11 : Hid (w1.heap[w.heap.size + 1]? = some (.cells #[.slice none 0 0] 28)) := (hp1.2.block _ (by omega) (.inr (by omega))).trans HX1.out
  clear hp1 hv11 hv10
  go_wp2
  go_loopw [5] (fun i wr => ∃ (k cc : Nat) (ao : Option Addr) (xs : List PT), k ≤ V + 1 ∧ i = .int .i64 k ∧ Hid (wr.heap[w.heap.size]? = some (.cells #[.slice none 0 0] 28)) ∧ Hid (wr.heap[w.heap.size + 1]? = some (.cells #[.slice ao k cc] 28)) ∧ Hid (OwnPt (w.heap.size + 2) wr ao k cc xs) ∧ Hid (∀ x ∈ xs, x.val.size ≤ 8) ∧ Hid (Rd wr g a n cap bs) ∧ Hid (Touch g (g + 1) w wr)) (fun i _ => V + 1 - (intOf i).toNat)
  case atStart => exact ⟨0, 0, none, [], Nat.zero_le _, rfl, HX01, HX11, ownPt_none _ _, fun _ h => absurd h List.not_mem_nil, HP1.out.1, HTB.out.trans HP1.out.2⟩
  case round =>
    obtain ⟨k, cc, ao, xs, hk, rfl, HX, HN, HO, H8, HRD, HT⟩ := hrel
    clear HX01 HX11 HP1
    have hnr : w.heap.size + 1 < wr.heap.size := (Array.getElem?_eq_some_iff.1 HN.out).1
    by_cases hlt : k < V + 1
    · have hlti : (k : Int) < 1 + (V : Int) := by omega
      have hlti2 : (k : Int) < (V : Int) + 1 := by omega
      have HXX : Hid (∀ W : World, W.heap[w.heap.size + 1]? = some (.cells #[.slice ao k cc] 28) → W.cell? ⟨w.heap.size + 1, 0, none⟩ = some (.slice ao k cc) ∧ W.frozen? ⟨w.heap.size + 1, 0, none⟩ = false ∧ w.heap.size + 1 < W.heap.size) := fun W hW => ⟨(cell_of_row _ _ 0 _ 28 (0, 0) hW).trans rfl, frozen_of_row W _ 0 _ 28 hW, (Array.getElem?_eq_some_iff.1 hW).1⟩
      obtain ⟨t00, t01, t02⟩ := HXX.out wr HN.out
      obtain ⟨t10, t11, t12⟩ := HXX.out wr.drew HN.out
      go_upto_region 6 with fail
      go_region_law
        (first
          | (go_simp; go_at_call 75; refine (drawPart_any g a n cap bs _ (HRD.out.kept (Below.refl _ _).drew)).mono ?_; rintro e w5 ⟨⟨xa, xv⟩, rfl, hxs, hp5⟩; unfold ptv; have hN5 : w5.heap[w.heap.size + 1]? = some (.cells #[.slice ao k cc] 28) := (hp5.2.block _ hnr (.inr (by omega))).trans HN.out; have HN5 : Hid (_ = _) := hN5; obtain ⟨t20, t21, t22⟩ := HXX.out w5 hN5; have hNa := (((Below.refl w5.heap.size w5).alloc (Nat.le_refl _) (.cells #[.int .i64 xa, .string xv] 80)).block _ t22).trans hN5; obtain ⟨t30, t31, t32⟩ := HXX.out _ hNa; have hor3 := (owns_touchN HO.out.row (show Touch g (g + 1) wr w5 from ⟨hp5.2.os, hp5.2.tape, hp5.2.output, hp5.2.size, hp5.2.block⟩) (by omega)).alloc (.cells #[.int .i64 xa, .string xv] 80); have hcl : ∀ jj uu, ([.int .i64 xa, .string xv] : List Value)[jj]? = some uu → (w5.alloc (.cells #[.int .i64 xa, .string xv] 80)).cell? ((⟨w5.heap.size, 0, none⟩ : Addr).add jj) = some uu := (by intro jj uu hju; rw [Addr.add_lit, Nat.zero_add, cell_of_row _ w5.heap.size jj _ 80 _ (heap_alloc_new w5 _), ← hju]; simp); have HP5 : Hid (RdPost wr.drew g a n cap bs w5) := hp5; have hb3 : w.heap.size + 2 ≤ (w5.alloc (.cells #[.int .i64 xa, .string xv] 80)).heap.size := Nat.le_trans t22 ((Below.refl w5.heap.size w5).alloc (Nat.le_refl _) (.cells #[.int .i64 xa, .string xv] 80)).size; have h1c : ∀ u ∈ ([.int .i64 xa, .string xv] : List Value), u.oneCell' = true := (by intro u hu; simp at hu; rcases hu with rfl | rfl; exact rfl; exact rfl); have hb1 : k + 1 ≤ maxLen := (by unfold maxLen; omega); have hb2 : (k + 1) * 24 ≤ 140737488355328 := (by omega); clear hp5 hN5 hNa)
          | (refine step_append_ownT rfl (.tmp 16) (.tmp 19) 26 rfl (w.heap.size + 2) 80 i0 _ 2 24 Tryz.underlying26 hi hz0 hz1 hz2 rfl (by decide) _ k _ (by simp [Act.eval]) hor3 ⟨w5.heap.size, 0, none⟩ 1 1 [.int .i64 xa, .string xv] (by simp [Act.eval]) rfl hcl h1c hb1 hb2 hb3 ?_; intro v4 w8 hv4 hg4; obtain ⟨a4, c4, rfl⟩ := owns_shapeN hv4; have bl : Below (w.heap.size + 2) w5 w8 := ((Below.refl (w.heap.size + 2) w5).alloc t22 _).grown hg4 hb3 (fun l hl => (hor3.lt l hl).1); have HN8 : Hid (w8.heap[w.heap.size + 1]? = some (.cells #[.slice ao k cc] 28)) := (bl.block _ (Nat.lt_succ_self _)).trans HN5.out; obtain ⟨t50, t51, t52⟩ := HXX.out w8 HN8.out; have HV4 : Hid (_) := hv4; have HBL : Hid (Below (w.heap.size + 2) w5 w8) := bl; clear hv4 hg4 bl))
      all_goals
        have hp5 := HP5.out
        have s5 := hp5.2.size
        have s8 := HBL.out.size
        have x8 : w8.heap[w.heap.size]? = some (.cells #[.slice none 0 0] 28) := (HBL.out.block _ (by omega)).trans ((hp5.2.block _ (by show w.heap.size < wr.heap.size; omega) (.inr (by omega))).trans HX.out)
        have HX8 : Hid ((w8.setCell ⟨w.heap.size + 1, 0, none⟩ (.slice a4 (k + 1) c4)).heap[w.heap.size]? = some (.cells #[.slice none 0 0] 28)) := (Below.heap_setCell _ _ _ _ (by simp)).trans x8
        have HN9 : Hid ((w8.setCell ⟨w.heap.size + 1, 0, none⟩ (.slice a4 (k + 1) c4)).heap[w.heap.size + 1]? = some (.cells #[.slice a4 (k + 1) c4] 28)) := (heap_setCell_same w8 (w.heap.size + 1) 0 _ 28 _ HN8.out).trans rfl
        have HO8 : Hid (OwnPt (w.heap.size + 2) w8 a4 (k + 1) c4 (xs ++ [⟨xa, xv⟩])) := ⟨by rw [ptc_snoc]; exact HV4.out, by simp [HO.out.len], fun y hy => by
          rcases List.mem_append.1 hy with h1 | h1
          · exact HO.out.small y h1
          · simp at h1; subst h1; exact Nat.le_trans hxs (by decide)⟩
        have HO9 : Hid (OwnPt (w.heap.size + 2) (w8.setCell ⟨w.heap.size + 1, 0, none⟩ (.slice a4 (k + 1) c4)) a4 (k + 1) c4 (xs ++ [⟨xa, xv⟩])) := HO8.out.same fun l hl => Below.heap_setCell _ _ _ _ (by show l ≠ w.heap.size + 1; omega)
        have T5 : Touch g (g + 1) w w5 := HT.out.trans ⟨hp5.2.os, hp5.2.tape, hp5.2.output, hp5.2.size, hp5.2.block⟩
        have HT9 : Hid (Touch g (g + 1) w (w8.setCell ⟨w.heap.size + 1, 0, none⟩ (.slice a4 (k + 1) c4))) := ⟨HBL.out.os.trans T5.os, HBL.out.tape.trans T5.tape, HBL.out.output.trans T5.output, by simp [World.setCell]; have := T5.size; omega, fun l hl ho => (Below.heap_setCell _ _ _ _ (by show l ≠ w.heap.size + 1; omega)).trans ((HBL.out.block l (by omega)).trans (T5.block l hl ho))⟩
        have hR8 : Rd w8 g a n cap bs := hp5.1.touch (lo := w.heap.size + 2) (hi := w5.heap.size + 1) ⟨HBL.out.os, HBL.out.tape, HBL.out.output, s8, fun l hl ho => HBL.out.block l (by omega)⟩ (by omega)
        have HR9 : Hid (Rd (w8.setCell ⟨w.heap.size + 1, 0, none⟩ (.slice a4 (k + 1) c4)) g a n cap bs) := hR8.touch (touch_set' (p := w.heap.size + 1) (q := w.heap.size + 2) _ _ _ _ (Nat.le_refl _) (Nat.lt_succ_self _)) (by omega)
        have H88 : Hid (∀ y ∈ xs ++ [(⟨xa, xv⟩ : PT)], y.val.size ≤ 8) := fun y hy => by
          rcases List.mem_append.1 hy with h1 | h1
          · exact H8.out y h1
          · simp at h1; subst h1; exact hxs
        clear hp5 x8 T5 hR8
        go_wp2
        go_roundw
        case rel => exact ⟨k + 1, c4, a4, xs ++ [⟨xa, xv⟩], by omega, by go_num, HX8, HN9, HO9, H88, HR9, HT9⟩
        case measure => simp [intOf]; omega
    · obtain rfl : k = V + 1 := by omega
      have hge : ¬ (((V + 1 : Nat) : Int) < 1 + (V : Int)) := by omega
      have kn : wr.cell? ⟨w.heap.size + 1, 0, none⟩ = some (.slice ao (V + 1) cc) := (cell_of_row _ _ 0 _ 28 (0, 0) HN.out).trans rfl
      have k0 : wr.cell? ⟨w.heap.size, 0, none⟩ = some (.slice none 0 0) := (cell_of_row _ _ 0 _ 28 (0, 0) HX.out).trans rfl
      have f0 : wr.frozen? ⟨w.heap.size, 0, none⟩ = false := frozen_of_row wr _ 0 _ 28 HX.out
      have hr0 : w.heap.size < wr.heap.size := by omega
      go_wp2
      have q1 := heap_setCell_same wr w.heap.size 0 _ 28 (.slice ao (V + 1) cc) HX.out
      have tt := touch_set' (p := w.heap.size) (q := w.heap.size + 1) wr w.heap.size 0 (.slice ao (V + 1) cc) (Nat.le_refl _) (Nat.lt_succ_self _)
      try simp only [Exit.inBlock, Exit.then]
      refine bodyPost_ret (results_nm rfl _ w.heap.size rfl _ _ q1) rfl ⟨V + 1, cc, ao, xs, rfl, by omega, ?_, H8.out, HRD.out.touch tt (by omega), ?_⟩
      · have h1 := HO.out.same (w' := wr.setCell ⟨w.heap.size, 0, none⟩ (.slice ao (V + 1) cc)) fun l hl => Below.heap_setCell _ _ _ _ (by show l ≠ w.heap.size; omega)
        refine ⟨⟨h1.row.1, ?_⟩, h1.len, h1.small⟩
        rcases h1.row.2 with h | ⟨g, cap, cur, hv, hb, r⟩
        · exact .inl h
        · exact .inr ⟨g, cap, cur, hv, by omega, r⟩
      · exact ⟨HT.out.os, HT.out.tape, HT.out.output, by simp [World.setCell]; have := HT.out.size; omega, fun l hl ho => (Below.heap_setCell _ _ _ _ (by show l ≠ w.heap.size; omega)).trans (HT.out.block l hl ho)⟩

end Go.Proofs.YtoncodoimnideaaGreatDoor
