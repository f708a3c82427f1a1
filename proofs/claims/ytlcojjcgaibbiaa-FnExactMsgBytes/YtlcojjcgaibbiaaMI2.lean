import Derived.Test.YtlcojjcgaibbiaaMI1
import Derived.Test.YtlcojjcgaibbiaaMK2
set_option linter.unusedVariables false
namespace Go.Proofs.Ytlcojjcgaibbiaa
open Go.RowKit Go.Sort

/-- The k-th piece of ct, as an item; all of them. -/
def pcB (ct : List Int) (m k : Nat) : List Int := (ct.drop (64 * k)).take (pcL m k)
def pcI (ct : List Int) (m k : Nat) : It := bytI (pcB ct m k)
theorem Row.sub {w : World} {b off n : Nat} {bs : List Int} (h : Row w (some ⟨b, off, none⟩) n bs) (i m : Nat) (hm : i + m ≤ n) : Row w (some ⟨b, off + i, none⟩) m ((bs.drop i).take m) := by
  have hl := h.len
  have hg : ∀ k, k < m → ((bs.drop i).take m).getD k 0 = bs.getD (i + k) 0 := fun k hk => by
    rw [List.getD_eq_getElem?_getD, List.getD_eq_getElem?_getD, List.getElem?_take_of_lt hk, List.getElem?_drop]
  refine ⟨by rw [List.length_take, List.length_drop]; omega, fun k hk => ?_, fun k => ?_⟩
  · obtain ⟨b', off', ha, hlt, hc⟩ := h.get (i + k) (by omega)
    simp only [Option.some.injEq, Addr.mk.injEq, and_true] at ha
    obtain ⟨rfl, rfl⟩ := ha
    exact ⟨b, off + i, rfl, hlt, by rw [hg k hk, Nat.add_assoc]; exact hc⟩
  · by_cases hk : k < m
    · rw [hg k hk]; exact h.byte _
    · rw [List.getD_eq_getElem?_getD, List.getElem?_eq_none (by rw [List.length_take, List.length_drop]; omega)]
      exact ⟨by decide, by decide⟩
theorem pcL_le {m k : Nat} (h : k < pcN m) : 64 * k + pcL m k ≤ m ∧ pcL m k ≤ 64 ∧ 1 ≤ pcL m k := by
  unfold pcN at h
  unfold pcL
  split <;> omega
theorem pcN_le {m : Nat} (h : m ≤ 4000) : pcN m ≤ 63 := by unfold pcN; omega
/-- A slice of the pieces. -/
structure RowPc (w : World) (av : Option Addr) (b off m : Nat) : Prop where
  get : ∀ k, k < pcN m → ∃ g, av = some ⟨g, 0, none⟩ ∧ g < w.heap.size ∧ w.cell? ⟨g, k, none⟩ = some (pcV b off m k)
theorem RowPc.kept {w w' : World} {av : Option Addr} {b off m : Nat} (h : RowPc w av b off m) (hb : Below w.heap.size w w') : RowPc w' av b off m := ⟨fun k hk => by
  obtain ⟨g, ha, hl, hc⟩ := h.get k hk
  exact ⟨g, ha, Nat.lt_of_lt_of_le hl hb.size, (hb.cell (p := ⟨g, k, none⟩) hl).trans hc⟩⟩
theorem rowPc_of {w : World} {B b off m : Nat} {v : Value} (h : w.ownsRow B 22 1 v (pcN m) ((List.range (pcN m)).map (pcV b off m))) : ∃ av cv, v = .slice av (pcN m) cv ∧ RowPc w av b off m := by
  by_cases hz : pcN m = 0
  · rcases h.2 with ⟨rfl, h0⟩ | ⟨g, cap, cur, rfl, _⟩
    · exact ⟨none, 0, by rw [hz], ⟨fun k hk => by omega⟩⟩
    · exact ⟨_, _, rfl, ⟨fun k hk => by omega⟩⟩
  · obtain ⟨g, cf, rfl, _, _⟩ := h.form (by omega)
    refine ⟨_, _, rfl, ⟨fun k hk => ⟨g, rfl, (h.lt g rfl).2, ?_⟩⟩⟩
    have := h.cellAt k (by omega)
    rw [this]
    simp [hk]
theorem pc_next (ct : List Int) (m k : Nat) : (List.range (k + 1)).map (pcI ct m) = (List.range k).map (pcI ct m) ++ [pcI ct m k] := by rw [List.range_succ, List.map_append]; rfl

set_option maxRecDepth 10000 in
set_option maxHeartbeats 4000000 in
theorem eachPc_any (w0 : World) (b off m : Nat) (ct : List Int) (hct : 0 < m → Row w0 (some ⟨b, off, none⟩) m ct) (hm : m ≤ 4000) (av : Option Addr) (cv : Nat) (w : World) (hw : Below w0.heap.size w0 w) (h : RowPc w av b off m) :
    Calls Try.prog 44 #[.slice av (pcN m) cv, .func (Fn.func 26) #[] #[]] w fun e w' => ∃ ao co, e = .returned (.slice ao (pcN m) co) ∧ OwnItZ 1 w0.heap.size w.heap.size w' ao (pcN m) co ((List.range (pcN m)).map (pcI ct m)) ∧ Below w.heap.size w w' := by
  obtain ⟨i0, hi, hz0, hz1, hz2⟩ := info_parts Try.infoIt
  have H0 : Hid (RowPc w av b off m) := h
  have HCT : Hid (0 < m → Row w0 (some ⟨b, off, none⟩) m ct) := hct
  have hLw := hw.size
  have hpn := pcN_le hm
  obtain ⟨n, hn⟩ : ∃ n, n = pcN m := ⟨_, rfl⟩
  have HN : Hid (n = pcN m) := hn
  rw [← hn] at hpn
  have H1 : Hid (∀ k, k < n → ∃ g, av = some ⟨g, 0, none⟩ ∧ g < w.heap.size ∧ w.cell? ⟨g, k, none⟩ = some (.slice (some ⟨b, off + 64 * k, none⟩) (pcL m k) (pcL m k))) := fun k hk => h.get k (by omega)
  rw [← hn]
  clear h hct hn
  go_enter Try.func44, Try.ntmps44
  go_wp2
  go_loopw [5, 10] (fun o i wr => ∃ (k : Nat) (ao : Option Addr) (cc : Nat), k ≤ n ∧ i = .int .i64 k ∧ o = .slice ao k cc ∧ Hid (OwnItZ 1 w0.heap.size w.heap.size wr ao k cc ((List.range k).map (pcI ct m))) ∧ Below w.heap.size w wr) (fun _ i _ => n - (intOf i).toNat)
  case atStart => exact ⟨0, none, 0, Nat.zero_le _, rfl, rfl, ownItZ_none _ _ _ _, Below.refl _ _⟩
  case round =>
    obtain ⟨k, ao, cc, hk, rfl, rfl, HO, hbr⟩ := hrel
    have hws := hbr.size
    by_cases hlt : k < n
    · obtain ⟨g, rfl, hlg, e0⟩ := H1.out k hlt
      have hpl := pcL_le (m := m) (k := k) (by rw [← HN.out]; exact hlt)
      obtain ⟨p, hp⟩ : ∃ p, p = pcL m k := ⟨_, rfl⟩
      rw [← hp] at e0 hpl
      have hwr : Below w0.heap.size w0 wr := hw.trans (hbr.mono hLw)
      have HRP : Hid (∀ W, Below w0.heap.size w0 W → Row W (some ⟨b, off + 64 * k, none⟩) p (pcB ct m k)) := fun W hW => by
        have := ((HCT.out (by omega)).kept hW).sub (64 * k) p hpl.1
        rw [hp]
        unfold pcB
        rw [hp] at this
        exact this
      have HRL : Hid (b < w0.heap.size) := by
        obtain ⟨b', off', ha, hl, _⟩ := (HCT.out (by omega)).get 0 (by omega)
        simp only [Option.some.injEq, Addr.mk.injEq, and_true] at ha
        rw [ha.1]
        exact hl
      have c0 := (hbr.cell (p := ⟨g, k, none⟩) hlg).trans e0
      have hkni : (k : Int) < (n : Int) := by omega
      have hsw0 := hwr.size
      have hgw : g < wr.heap.size := by omega
      clear hp e0
      go_wp2_with fail
      refine (bytesItem_agg (some ⟨b, off + 64 * k, none⟩) p p (pcB ct m k) _).mono ?_
      rintro e w2 ⟨rfl, hb2r⟩
      have B2 : Below w.heap.size w w2 := hbr.trans (hb2r.mono hws)
      have hal : Below w2.heap.size w2 (w2.alloc (.cells #[.int .i64 0, .int .i64 4, .bool false, .slice (some ⟨b, off + 64 * k, none⟩) p p, .slice none 0 0] 43)) := (Below.refl _ _).alloc (Nat.le_refl _) _
      have B6 : Below w.heap.size w (w2.alloc (.cells #[.int .i64 0, .int .i64 4, .bool false, .slice (some ⟨b, off + 64 * k, none⟩) p p, .slice none 0 0] 43)) := B2.trans (hal.mono B2.size)
      have hs6 : (w2.alloc (.cells #[.int .i64 0, .int .i64 4, .bool false, .slice (some ⟨b, off + 64 * k, none⟩) p p, .slice none 0 0] 43)).heap.size = w2.heap.size + 1 := by simp
      have hs2 := hb2r.size
      have HQ3 : Hid (OwnItZ 1 w0.heap.size w.heap.size (w2.alloc (.cells #[.int .i64 0, .int .i64 4, .bool false, .slice (some ⟨b, off + 64 * k, none⟩) p p, .slice none 0 0] 43)) ao k cc ((List.range k).map (pcI ct m))) := (HO.out.kept hb2r).kept hal
      obtain ⟨vs, hrow⟩ := HQ3.out.row
      have HROW : Hid (_) := hrow
      have hown : ∀ b, (Value.slice ao k cc).ownBlock = some b → w.heap.size ≤ b ∧ b < wr.heap.size := fun b hb => by obtain ⟨vs0, hv0⟩ := HO.out.row; exact ⟨HO.out.2 b hb, (hv0.lt b hb).2⟩
      have HAPP : Hid (∀ g7 c7 w7, w7.ownsRow 0 43 5 (.slice (some ⟨g7, 0, none⟩) (k + 1) c7) (k + 1) (vs ++ itc (pcI ct m k) (some ⟨b, off + 64 * k, none⟩) p p none 0 0) → (w2.alloc (.cells #[.int .i64 0, .int .i64 4, .bool false, .slice (some ⟨b, off + 64 * k, none⟩) p p, .slice none 0 0] 43)).grownBy w7 (Value.slice ao k cc).ownBlock → ((Value.slice ao k cc).ownBlock = some g7 ∨ g7 = w2.heap.size + 1) → OwnItZ 1 w0.heap.size w.heap.size w7 (some ⟨g7, 0, none⟩) (k + 1) c7 ((List.range (k + 1)).map (pcI ct m)) ∧ Below w.heap.size w w7) := by
        intro g7 c7 w7 hv7 hg7 hl7
        have hR := HRP.out (w2.alloc (.cells #[.int .i64 0, .int .i64 4, .bool false, .slice (some ⟨b, off + 64 * k, none⟩) p p, .slice none 0 0] 43)) (hw.trans (B6.mono hLw))
        have hbL := HRL.out
        rw [pc_next]
        refine ⟨HQ3.out.appended (T := fun q => q = b) (ab := some ⟨b, off + 64 * k, none⟩) (nb := p) (cb := p) (ak := none) (nk := 0) (ck := 0) ⟨⟨hR, fun x hx h0 => by injection hx with hx; rw [← hx]⟩, fun e => (by cases e), by omega, KidsI.none 0 _ _ _⟩ (fun q hq => ⟨.inl (by omega), by omega, fun e => by have := hown q e; omega⟩) (by omega) HROW.out hv7 hg7 (by rw [hs6]; exact hl7) B6.size, B6.grown hg7 (by have := B6.size; omega) (fun kx hx => HQ3.out.2 kx hx)⟩
      clear c0 hrow HO hb2r B2 hal
      go_wp2_with (at_builtin; refine wpList_append_lies _ rfl (.tmp 14) (.tmp 18) 41 rfl 0 43 i0 _ 5 72 Try.underlying41 hi hz0 hz1 hz2 rfl (by decide) _ k vs rfl HROW.out ⟨w2.heap.size, 0, none⟩ 1 1 [.int .i64 0, .int .i64 4, .bool false, .slice (some ⟨b, off + 64 * k, none⟩) p p, .slice none 0 0] rfl rfl (World.news_of_block (heap_alloc_new w2 (.cells #[.int .i64 0, .int .i64 4, .bool false, .slice (some ⟨b, off + 64 * k, none⟩) p p, .slice none 0 0] 43))) (by intro u hu; simp only [List.mem_cons, List.not_mem_nil, or_false] at hu; rcases hu with rfl | rfl | rfl | rfl | rfl <;> rfl) (by decide) (by unfold maxLen; omega) (by omega) (Nat.zero_le _) (w2.heap.size + 1) (by simp) ?_; intro g7 c7 w7 hv7 hg7 hl7 hlt7; have HN7 := HAPP.out g7 c7 w7 hv7 hg7 hl7; have HO7 : Hid (_) := HN7.1; have B7 := HN7.2; clear hv7 hg7 hl7 hlt7 HN7 HAPP HQ3 HROW)
      go_roundw
      case rel => exact ⟨k + 1, _, c7, by omega, by go_num, rfl, HO7, B7⟩
      case measure => simp [intOf]; omega
    · obtain rfl : k = n := by omega
      go_wp2
      go_ret
      exact ⟨ao, cc, rfl, HO.out, hbr⟩

set_option maxRecDepth 10000 in
set_option maxHeartbeats 4000000 in
theorem listItemPc_any (w0 : World) (b off m : Nat) (ct : List Int) (hct : 0 < m → Row w0 (some ⟨b, off, none⟩) m ct) (hm : m ≤ 4000) (av : Option Addr) (cv : Nat) (w : World) (hw : Below w0.heap.size w0 w) (h : RowPc w av b off m) :
    Calls Try.prog 25 #[.slice av (pcN m) cv, .func (Fn.func 26) #[] #[]] w fun e w' => ∃ ao co, e = .returned (.agg #[.int .i64 0, .int .i64 17, .bool true, .slice none 0 0, .slice ao (pcN m) co]) ∧ ListZ w0.heap.size w.heap.size 2 w' ao (pcN m) ((List.range (pcN m)).map (pcI ct m)) ∧ Below w.heap.size w w' := by
  have hbx := box5_below w
  have hsz := box5_size w
  have HB5 : Hid (_ = _) := box5_new w
  have hLw := hw.size
  have HE : Hid (_) := eachPc_any w0 b off m ct hct hm av cv (box5 w) (hw.trans (hbx.mono hLw)) (h.kept hbx)
  clear h hct
  go_enter Try.func25, Try.ntmps25
  go_wp2_with fail
  refine Calls.mono HE.out ?_
  rintro e w2 ⟨ao, co, rfl, ho, hb2⟩
  have HK : Hid (KidsI 2 (fun b => (b < w0.heap.size ∨ (box5 w).heap.size ≤ b) ∧ b < w2.heap.size) w2 ao (pcN m) ((List.range (pcN m)).map (pcI ct m))) := ho.kids
  have h5 := below_kept HB5.out hb2
  obtain ⟨_, q0, q1, q2, q3, q4, q5, q6, q7, q8, q9⟩ := Box5.of h5
  have H5 : Hid (_ = _) := h5
  have B2 : Below w.heap.size w w2 := keepT hbx hb2
  have hs2 := hb2.size
  clear ho h5 hb2 HE
  go_wp2_with fail
  try simp only [Exit.inBlock, Exit.then]
  have T := put5_touch w2 w.heap.size (.int .i64 0) (.int .i64 17) (.bool true) (.slice none 0 0) (.slice ao (pcN m) co)
  refine bodyPost_ret (results_it rfl _ w.heap.size rfl _ _ _ _ _ _ (put5_heap H5.out _ _ _ _ _)) rfl ⟨ao, co, rfl, ⟨(HK.out.touch (fun b hb e => by have := hb.1; omega) T.toX).mono (fun b hb => ⟨by have := hb.1; omega, Nat.lt_of_lt_of_le hb.2 T.size⟩)⟩, B2.trans (T.below (Nat.le_refl _) B2.size)⟩

end Go.Proofs.Ytlcojjcgaibbiaa
