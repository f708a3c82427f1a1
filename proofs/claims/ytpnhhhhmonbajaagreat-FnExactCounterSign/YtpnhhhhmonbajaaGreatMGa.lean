import Derived.Test.YtpnhhhhmonbajaaGreatMTRs
set_option linter.unusedVariables false
namespace Go.Proofs.YtpnhhhhmonbajaaGreat
open Go.RowKit

/-- Only blocks of P may have turned. -/
structure TouchX (P : Nat → Prop) (w w' : World) : Prop where
  os : w'.os = w.os
  tape : w'.tape = w.tape
  output : w'.output = w.output
  size : w.heap.size ≤ w'.heap.size
  block : ∀ k, k < w.heap.size → ¬ P k → w'.heap[k]? = w.heap[k]?
theorem TouchX.trans {P : Nat → Prop} {a b c : World} (h : TouchX P a b) (k : TouchX P b c) : TouchX P a c :=
  ⟨k.os.trans h.os, k.tape.trans h.tape, k.output.trans h.output, Nat.le_trans h.size k.size, fun i hi hn => (k.block i (Nat.lt_of_lt_of_le hi h.size) hn).trans (h.block i hi hn)⟩
theorem TouchX.mono {P Q : Nat → Prop} {w w' : World} (h : TouchX P w w') (hpq : ∀ k, P k → Q k) : TouchX Q w w' := ⟨h.os, h.tape, h.output, h.size, fun k hk hn => h.block k hk (fun hp => hn (hpq k hp))⟩
theorem TouchX.touch {P : Nat → Prop} {lo hi : Nat} {w w' : World} (h : TouchX P w w') (hpq : ∀ k, P k → lo ≤ k ∧ k < hi) : Touch lo hi w w' := ⟨h.os, h.tape, h.output, h.size, fun k hk hn => h.block k hk (fun hp => by have := hpq k hp; omega)⟩
theorem Touch.toX {lo hi : Nat} {w w' : World} (h : Touch lo hi w w') : TouchX (fun k => lo ≤ k ∧ k < hi) w w' := ⟨h.os, h.tape, h.output, h.size, fun k hk hn => h.block k hk (by have : ¬ (lo ≤ k ∧ k < hi) := hn; omega)⟩
theorem TouchX.of_below {P : Nat → Prop} {w w' : World} (h : Below w.heap.size w w') : TouchX P w w' := ⟨h.os, h.tape, h.output, h.size, fun k hk _ => h.block k hk⟩
theorem touchX_g {w w' : World} {row : Option Nat} {P : Nat → Prop} (hg : w.grownBy w' row) (hr : ∀ k, row = some k → P k) : TouchX P w w' :=
  ⟨hg.os, hg.tape, hg.output, hg.size, fun k hk hn => hg.block k hk (fun e => hn (hr k e.symm))⟩

theorem ownsRow_moveX {P S : Nat → Prop} {B e size n : Nat} {w w' : World} {v : Value} {xs : List Value} (h : w.ownsRow B e size v n xs) (hS : ∀ k, v.ownBlock = some k → S k) (hd : ∀ k, S k → ¬ P k) (ht : TouchX P w w') : w'.ownsRow B e size v n xs := by
  refine ⟨h.1, ?_⟩
  rcases h.2 with hn | ⟨g, cap, cur, rfl, hbb, hgg, rest⟩
  · exact .inl hn
  · exact .inr ⟨g, cap, cur, rfl, hbb, (ht.block g (Array.getElem?_eq_some_iff.1 hgg).1 (hd g (hS g rfl))).trans hgg, rest⟩

/-- Bytes of our own, in a block of S. -/
structure OwnBX (S : Nat → Prop) (w : World) (a : Option Addr) (n cap : Nat) (bs : List Int) : Prop where
  own : Own 0 w a n cap bs
  lt : ∀ k, (Value.slice a n cap).ownBlock = some k → S k
theorem OwnBX.touch {P S : Nat → Prop} {w w' : World} {a : Option Addr} {n cap : Nat} {bs : List Int} (h : OwnBX S w a n cap bs) (hd : ∀ k, S k → ¬ P k) (ht : TouchX P w w') : OwnBX S w' a n cap bs :=
  ⟨⟨ownsRow_moveX h.own.row h.lt hd ht, h.own.byte⟩, h.lt⟩
theorem OwnBX.wrote {S : Nat → Prop} {w w' : World} {a : Option Addr} {n cap : Nat} {bs : List Int} (h : OwnBX S w a n cap bs) (hg : w.grownBy w' (Value.slice a n cap).ownBlock) : TouchX S w w' := touchX_g hg h.lt
theorem OwnBX.mono {S T : Nat → Prop} {w : World} {a : Option Addr} {n cap : Nat} {bs : List Int} (h : OwnBX S w a n cap bs) (hs : ∀ k, S k → T k) : OwnBX T w a n cap bs := ⟨h.own, fun k hk => hs k (h.lt k hk)⟩

/-- The signer x lies in the row g at place j, what hangs on it in blocks of T. -/
def ItemAtX (K : (Nat → Prop) → World → Option Addr → Nat → Nat → List ItT → Prop) (T : Nat → Prop) (w : World) (g j : Nat) (x : ItT) : Prop :=
  ∃ ab nb cb ak nk ck, ∃ U V : Nat → Prop, w.cell? ⟨g, j * 4, none⟩ = some (.int .u64 x.ky) ∧ w.cell? ⟨g, j * 4 + 1, none⟩ = some (.int .i64 x.at2)
      ∧ w.cell? ⟨g, j * 4 + 2, none⟩ = some (.slice ab nb cb) ∧ w.cell? ⟨g, j * 4 + 3, none⟩ = some (.slice ak nk ck)
      ∧ (∀ b, U b → T b) ∧ (∀ b, V b → T b) ∧ (∀ b, U b → ¬ V b) ∧ U64 x.ky ∧ OwnBX U w ab nb cb x.sg ∧ K V w ak nk ck x.over

/-- The slice at a holds the signers xs, all of it our own memory, in blocks of S; no two parts share any. -/
def OwnKidsX : Nat → (Nat → Prop) → World → Option Addr → Nat → Nat → List ItT → Prop
  | 0, _, _, _, _, _, _ => False
  | d + 1, S, w, a, n, cap, xs => xs.length = n ∧ n ≤ 9223372036854775807 ∧ (∃ vs, w.ownsRow 0 47 4 (.slice a n cap) n vs) ∧ (∀ k, (Value.slice a n cap).ownBlock = some k → S k) ∧
      (n = 0 ∨ ∃ g, a = some ⟨g, 0, none⟩ ∧ ∃ T : Nat → Nat → Prop, (∀ k, k < n → ∀ b, T k b → S b ∧ b ≠ g) ∧ (∀ j k, j < k → k < n → ∀ b, T j b → ¬ T k b) ∧ ∀ k, k < n → ItemAtX (OwnKidsX d) (T k) w g k (xs.getD k default))

def MovesX (K : (Nat → Prop) → World → Option Addr → Nat → Nat → List ItT → Prop) : Prop := ∀ (S P : Nat → Prop) w w' a n c xs, K S w a n c xs → (∀ k, S k → ¬ P k) → TouchX P w w' → K S w' a n c xs

theorem ItemAtX.move {K : (Nat → Prop) → World → Option Addr → Nat → Nat → List ItT → Prop} (hK : MovesX K) {T P : Nat → Prop} {w w' : World} {g j : Nat} {x : ItT} (h : ItemAtX K T w g j x)
    (hc : ∀ i, j * 4 ≤ i → i < j * 4 + 4 → w'.cell? ⟨g, i, none⟩ = w.cell? ⟨g, i, none⟩) (hd : ∀ k, T k → ¬ P k) (ht : TouchX P w w') : ItemAtX K T w' g j x := by
  obtain ⟨ab, nb, cb, ak, nk, ck, U, V, c0, c1, c3, c4, m1, m2, m3, hu, ob, ok⟩ := h
  exact ⟨ab, nb, cb, ak, nk, ck, U, V, (hc _ (by omega) (by omega)).trans c0, (hc _ (by omega) (by omega)).trans c1, (hc _ (by omega) (by omega)).trans c3, (hc _ (by omega) (by omega)).trans c4, m1, m2, m3, hu,
    ob.touch (fun k hk => hd k (m1 k hk)) ht, hK _ _ _ _ _ _ _ _ ok (fun k hk => hd k (m2 k hk)) ht⟩

theorem ownKids_movesX (d : Nat) : MovesX (OwnKidsX d) := by
  induction d with
  | zero => intro _ _ _ _ _ _ _ _ h; exact h.elim
  | succ d ih =>
    intro S P w w' a n c xs h hd ht
    obtain ⟨h0, h1, ⟨vs, hr⟩, hS, h2⟩ := h
    refine ⟨h0, h1, ⟨vs, ownsRow_moveX hr hS hd ht⟩, hS, ?_⟩
    rcases h2 with h2 | ⟨g, rfl, T, t1, t2, t3⟩
    · exact .inl h2
    · have hlt := (hr.lt g rfl).2
      have hblk : w'.heap[g]? = w.heap[g]? := ht.block g hlt (hd g (hS g rfl))
      exact .inr ⟨g, rfl, T, t1, t2, fun k hk => (t3 k hk).move ih (fun j _ _ => World.cell?_of_block (a := ⟨g, j, none⟩) hblk) (fun b hb => hd b (t1 k hk b hb).1) ht⟩

theorem OwnKidsX.kept {d : Nat} {S : Nat → Prop} {w w' : World} {a : Option Addr} {n c : Nat} {xs : List ItT} (h : OwnKidsX d S w a n c xs) (hb : Below w.heap.size w w') : OwnKidsX d S w' a n c xs :=
  ownKids_movesX d S (fun _ => False) w w' a n c xs h (fun _ _ h => h) (TouchX.of_below hb)

theorem OwnKidsX.mono {d : Nat} {S T : Nat → Prop} {w : World} {a : Option Addr} {n c : Nat} {xs : List ItT} (h : OwnKidsX d S w a n c xs) (hs : ∀ k, S k → T k) : OwnKidsX d T w a n c xs := by
  cases d with
  | zero => exact h.elim
  | succ d =>
    obtain ⟨h0, h1, hr, hS, h2⟩ := h
    refine ⟨h0, h1, hr, fun k hk => hs k (hS k hk), ?_⟩
    rcases h2 with h2 | ⟨g, rfl, T', t1, t2, t3⟩
    · exact .inl h2
    · exact .inr ⟨g, rfl, T', fun k hk b hb => ⟨hs b (t1 k hk b hb).1, (t1 k hk b hb).2⟩, t2, t3⟩

theorem OwnKidsX.over {d : Nat} : ∀ {S : Nat → Prop} {w : World} {a : Option Addr} {n c : Nat} {xs : List ItT}, OwnKidsX d S w a n c xs → KidsT d w a n xs := by
  induction d with
  | zero => intro _ _ _ _ _ _ h; exact h.elim
  | succ d ih =>
    intro S w a n c xs h
    obtain ⟨h0, h1, ⟨vs, hr⟩, hS, h2⟩ := h
    refine ⟨h0, h1, fun k hk => ?_⟩
    rcases h2 with h2 | ⟨g, rfl, T, t1, t2, t3⟩
    · omega
    · obtain ⟨ab, nb, cb, ak, nk, ck, U, V, c0, c1, c3, c4, m1, m2, m3, hu, ob, ok⟩ := t3 k hk
      exact ⟨g, 0, rfl, (hr.lt g rfl).2, ab, nb, cb, ak, nk, ck, by rw [Nat.zero_add]; exact c0, by rw [Nat.zero_add]; exact c1, by rw [Nat.zero_add]; exact c3, by rw [Nat.zero_add]; exact c4, ob.own.toRow, ⟨ob.own.nil, own_capT ob.own⟩, ob.own.maxT, hu, ih ok⟩

theorem OwnKidsX.more {d : Nat} : ∀ {S : Nat → Prop} {w : World} {a : Option Addr} {n c : Nat} {xs : List ItT}, OwnKidsX d S w a n c xs → OwnKidsX (d + 1) S w a n c xs := by
  induction d with
  | zero => intro _ _ _ _ _ _ h; exact h.elim
  | succ d ih =>
    intro S w a n c xs h
    obtain ⟨h0, h1, hr, hS, h2⟩ := h
    refine ⟨h0, h1, hr, hS, ?_⟩
    rcases h2 with h2 | ⟨g, rfl, T, t1, t2, t3⟩
    · exact .inl h2
    · refine .inr ⟨g, rfl, T, t1, t2, fun k hk => ?_⟩
      obtain ⟨ab, nb, cb, ak, nk, ck, U, V, c0, c1, c3, c4, m1, m2, m3, hu, ob, ok⟩ := t3 k hk
      exact ⟨ab, nb, cb, ak, nk, ck, U, V, c0, c1, c3, c4, m1, m2, m3, hu, ob, ih ok⟩

end Go.Proofs.YtpnhhhhmonbajaaGreat

set_option linter.unusedVariables false
namespace Go.Proofs.YtpnhhhhmonbajaaGreat
open Go.RowKit

def MarkSX (d : Nat) : Prop := ∀ (S : Nat → Prop) (a : Option Addr) (n cap : Nat) (xs : List ItT) (k : Nat) (K : Int) (w : World), K = (k : Int) → OwnKidsX d S w a n cap xs → k + 3 * wtST d xs ≤ 100000000 →
    Calls Tryz.prog 31 #[.slice a n cap, .int .i64 K] w fun e w' => e = .returned (.int .i64 ((mkST d xs k).2 : Nat)) ∧ OwnKidsX d S w' a n cap (mkST d xs k).1 ∧ TouchX S w w'

set_option maxRecDepth 10000 in
set_option maxHeartbeats 2000000 in
theorem markS_nextX (d : Nat) (ih : MarkSX d) : MarkSX (d + 1) := by
  intro S a n cap xs k K w hKk hown hwt
  have hlen := hown.1
  have hn := hown.2.1
  have HW : Hid (k + 3 * (n + wtPT d xs n) ≤ 100000000) := by show _ ≤ _; rw [wtS_succT, hlen] at hwt; exact hwt
  have HLN : Hid (xs.length = n) := hlen
  have hn9 : n ≤ 100000000 := by have := HW.out; omega
  subst hKk
  obtain ⟨vs, hrow⟩ := hown.2.2.1
  have hSg := hown.2.2.2.1
  rcases hown.2.2.2.2 with h0 | ⟨g, rfl, T, h1, h2, h3⟩
  · subst h0
    have hx : xs = [] := List.eq_nil_of_length_eq_zero hlen
    subst hx
    clear hown hwt
    go_enter Tryz.func31, Tryz.ntmps31
    go_wp2
    refine wp_loop_rounds 2 ?_
    rw [rounds_succ]
    go_wp2
    go_ret
    exact ⟨rfl, ⟨rfl, hn, ⟨vs, hrow⟩, hSg, .inl rfl⟩, TouchX.of_below (Below.refl _ _)⟩
  · have H3 : Hid (∀ j, j < n → ItemAtX (OwnKidsX d) (T j) w g j (zAtT (mkST d) xs k 0 j)) := fun j hj => h3 j hj
    have H1 : Hid (_) := h1
    have H2 : Hid (_) := h2
    clear h1 h2 h3 hown hwt hlen
    go_enter Tryz.func31, Tryz.ntmps31
    go_wp2
    go_loopw [1, 5] (fun kk i wr => ∃ j q : Nat, j ≤ n ∧ i = .int .i64 j ∧ kk = .int .i64 q ∧ Hid (q = kkAtT (mkST d) xs k j) ∧ (∃ us, wr.ownsRow 0 47 4 (.slice (some ⟨g, 0, none⟩) n cap) n us) ∧ (∀ m, m < n → ItemAtX (OwnKidsX d) (T m) wr g m (zAtT (mkST d) xs k j m)) ∧ TouchX S w wr) (fun _ i _ => n - (intOf i).toNat)
    case atStart => exact ⟨0, k, Nat.zero_le _, rfl, rfl, rfl, ⟨_, hrow⟩, H3.out, TouchX.of_below (Below.refl _ _)⟩
    case round =>
      obtain ⟨j, q, hj, rfl, rfl, HQ, ⟨us, hor⟩, hit, htr⟩ := hrel
      by_cases hjn : j < n
      · obtain ⟨ab, nb, cb, ak, nk, ck, U, V, c0, c1, c3, c4, m1, m2, m3, hu, ob, ok⟩ := hit j hjn
        have hkl := kkAt_leT d xs k j (by rw [HLN.out]; omega)
        rw [← HQ.out] at hkl
        have hz : zAtT (mkST d) xs k j j = xs.getD j default := by rw [zAtT, if_neg (by omega)]
        rw [hz] at c0 c1 ob ok
        have hnx := wtP_nextT d xs j (by rw [HLN.out]; exact hjn)
        have hle := wtP_leT d xs (j + 1)
        rw [HLN.out] at hle
        obtain ⟨y, hy⟩ : ∃ y, y = xs.getD j default := ⟨_, rfl⟩
        rw [← hy] at c0 c1 ob ok hnx
        have HY : Hid (y = xs.getD j default) := hy
        have hbl := ob.own.length
        have hqk : q + 2 + nb + 3 * wtST d y.over ≤ 100000000 := by have := HW.out; rw [hbl] at hnx; omega
        clear hy hz hnx hle
        have f0 := hor.frozenAt (j * 4)
        have f1 := hor.frozenAt (j * 4 + 1)
        have hji : (j : Int) < (n : Int) := by omega
        have vq : IntKind.u64.wrap (q : Int) = (q : Int) := by rw [IntKind.wrap_u64]; omega
        have OB : Hid (_) := ob
        have OKK : Hid (_) := ok
        have IT : Hid (∀ m, m < n → ItemAtX (OwnKidsX d) (T m) wr g m (zAtT (mkST d) xs k j m)) := hit
        clear ob ok hit
        have hS := set3_isT hor j hjn (.int .u64 (q : Int)) (.int .i64 ((q : Int) + 1))
        have hgS : ∀ b, g ≤ b → b < g + 1 → S b := fun b h1 h2 => by
          have e : b = g := by omega
          rw [e]
          exact hSg g rfl
        have hLH : ∀ b, T j b → b ≠ g := fun b hb => (H1.out j hjn b hb).2
        have hSj : ∀ b, T j b → S b := fun b hb => (H1.out j hjn b hb).1
        have hglt := (hor.lt g rfl).2
        have HS : Hid (_) := hS
        have ob3 := OB.out.touch (P := fun b => g ≤ b ∧ b < g + 1) (fun b hb e => hLH b (m1 b hb) (by omega)) hS.touch.toX
        have ok3 := ownKids_movesX d _ (fun b => g ≤ b ∧ b < g + 1) _ _ _ _ _ _ OKK.out (fun b hb e => hLH b (m2 b hb) (by omega)) hS.touch.toX
        have c43 := (hS.old (j * 4 + 3) (by omega) (by omega)).trans c4
        have c33 := (hS.old (j * 4 + 2) (by omega) (by omega)).trans c3
        clear hS
        go_wp2_with fail
        obtain ⟨W3, hW3⟩ : ∃ W3, W3 = (wr.setCell ⟨g, j * 4, none⟩ (.int .u64 (q : Int))).setCell ⟨g, j * 4 + 1, none⟩ (.int .i64 ((q : Int) + 1)) := ⟨_, rfl⟩
        rw [← hW3] at HS ob3 ok3 c43 c33 ⊢
        clear hW3 c0 c1 c3 c4 f0 f1
        refine (markByteS_int 0 ab nb cb ((q : Int) + 1 + 1) y.sg _ ob3.own (by omega) (by omega) (by omega)).mono ?_
        rintro e w2 ⟨rfl, ho2, hg2⟩
        have htn : ((q : Int) + 1 + 1).toNat = q + 2 := by omega
        rw [htn] at ho2
        have t2 : TouchX U W3 w2 := ob3.wrote hg2
        have hg3 : g < W3.heap.size := Nat.lt_of_lt_of_le hglt HS.out.touch.size
        have b2 : w2.heap[g]? = W3.heap[g]? := t2.block g hg3 (fun hb => hLH g (m1 g hb) rfl)
        have c44 : w2.cell? ⟨g, j * 4 + 3, none⟩ = some (.slice ak nk ck) := (World.cell?_of_block (a := ⟨g, j * 4 + 3, none⟩) b2).trans c43
        have ok2 := ownKids_movesX d _ U _ _ _ _ _ _ ok3 (fun b hv hu => m3 b hu hv) t2
        have ob2 : OwnBX U w2 ab nb cb (marks (q + 2) nb) := ⟨ho2, ob3.lt⟩
        have OB2 : Hid (_) := ob2
        have OK2 : Hid (_) := ok2
        have T2 : Hid (_) := t2
        have B2 : Hid (_ = _) := b2
        have C33 : Hid (_ = _) := c33
        have C43 : Hid (_ = _) := c43
        clear ho2 hg2 ob3 ok3 c33 c43 ob2 ok2 t2 b2 htn
        go_wp2_with fail
        refine (ih V ak nk ck y.over (q + 2 + nb) ((q : Int) + 1 + 1 + (nb : Int)) w2 (by omega) OK2.out hqk).mono ?_
        rintro e w4 ⟨rfl, ok4, t4⟩
        have hg4 : g < w2.heap.size := Nat.lt_of_lt_of_le hg3 T2.out.size
        have b4 : w4.heap[g]? = W3.heap[g]? := (t4.block g hg4 (fun hb => hLH g (m2 g hb) rfl)).trans B2.out
        have cc4 : ∀ i, w4.cell? ⟨g, i, none⟩ = W3.cell? ⟨g, i, none⟩ := fun i => World.cell?_of_block (a := ⟨g, i, none⟩) b4
        have hown4 : ∃ us, w4.ownsRow 0 47 4 (.slice (some ⟨g, 0, none⟩) n cap) n us := by
          obtain ⟨us', hu⟩ := HS.out.own
          exact ⟨us', ownsRow_sameT hu b4⟩
        have hzj : zAtT (mkST d) xs k (j + 1) j = .mk (q : Int) ((q : Int) + 1) (marks (q + 2) nb) (mkST d y.over (q + 2 + nb)).1 := by
          rw [zAtT, if_pos (by omega), ← HY.out, ← HQ.out, mkItemT, hbl]
        have hkj : (mkST d y.over (q + 2 + nb)).2 = kkAtT (mkST d) xs k (j + 1) := by
          show _ = (mkItemT (mkST d) (xs.getD j default) (kkAtT (mkST d) xs k j)).2
          rw [← HY.out, ← HQ.out, mkItemT, hbl]
        have hit4 : ∀ m, m < n → ItemAtX (OwnKidsX d) (T m) w4 g m (zAtT (mkST d) xs k (j + 1) m) := by
          intro m hm
          by_cases hmj : m = j
          · subst hmj
            rw [hzj]
            exact ⟨ab, nb, cb, ak, nk, ck, U, V, (cc4 _).trans HS.out.c0, (cc4 _).trans HS.out.c1, (cc4 _).trans C33.out, (cc4 _).trans C43.out, m1, m2, m3, ⟨by show (0 : Int) ≤ (q : Int); omega, by show (q : Int) ≤ _; omega⟩, OB2.out.touch m3 t4, ok4⟩
          · have hzm : zAtT (mkST d) xs k (j + 1) m = zAtT (mkST d) xs k j m := by
              unfold zAtT
              by_cases hlt : m < j
              · rw [if_pos hlt, if_pos (by omega)]
              · rw [if_neg hlt, if_neg (by omega)]
            rw [hzm]
            have hm1 := H1.out m hm
            have hdj : ∀ b, T m b → ¬ T j b := by
              by_cases hlt : m < j
              · exact H2.out m j hlt hjn
              · exact fun b hm' hj' => H2.out j m (by omega) hm b hj' hm'
            have s1 := (IT.out m hm).move (ownKids_movesX d) (w' := W3) (P := fun b => g ≤ b ∧ b < g + 1) (fun i hi1 hi2 => HS.out.old i (by omega) (by omega)) (fun b hb e => (hm1 b hb).2 (by omega)) HS.out.touch.toX
            have s2 := s1.move (ownKids_movesX d) (w' := w2) (P := U) (fun i _ _ => World.cell?_of_block (a := ⟨g, i, none⟩) B2.out) (fun b hb hu => hdj b hb (m1 b hu)) T2.out
            exact s2.move (ownKids_movesX d) (w' := w4) (P := V) (fun i _ _ => (cc4 i).trans (World.cell?_of_block (a := ⟨g, i, none⟩) B2.out).symm) (fun b hb hu => hdj b hb (m2 b hu)) t4
        have ht4 : TouchX S w w4 := ((htr.trans (HS.out.touch.toX.mono (fun b hb => hgS b hb.1 hb.2))).trans (T2.out.mono (fun b hb => hSj b (m1 b hb)))).trans (t4.mono (fun b hb => hSj b (m2 b hb)))
        have hq4 := mkS_leT d y.over (q + 2 + nb)
        obtain ⟨q2, hq2⟩ : ∃ q2, q2 = (mkST d y.over (q + 2 + nb)).2 := ⟨_, rfl⟩
        rw [← hq2] at hkj hq4 ⊢
        have FIN : Hid (_ ∧ _ ∧ _ ∧ _) := ⟨hkj, hown4, hit4, ht4⟩
        clear hkj hown4 hit4 ht4 hzj cc4 b4 hq2 ok4 t4
        go_wp2
        go_roundw
        case rel => exact ⟨j + 1, q2, by omega, by go_num, rfl, FIN.out.1, FIN.out.2.1, FIN.out.2.2.1, FIN.out.2.2.2⟩
        case measure => simp [intOf]; omega
      · obtain rfl : n = j := by omega
        have hkl := kkAt_leT d xs k n (by rw [HLN.out]; exact Nat.le_refl _)
        rw [← HQ.out] at hkl
        have hq9 : q ≤ 100000000 := by have := HW.out; omega
        have hE : (mkST (d + 1) xs k).2 = q := by show kkAtT (mkST d) xs k xs.length = q; rw [HLN.out, ← HQ.out]
        have hO : OwnKidsX (d + 1) S wr (some ⟨g, 0, none⟩) n cap (mkST (d + 1) xs k).1 := by
          refine ⟨by show ((List.range xs.length).map _).length = n; simp [HLN.out], hn, ⟨us, hor⟩, hSg, .inr ⟨g, rfl, T, H1.out, H2.out, fun m hm => ?_⟩⟩
          have hg : ((mkST (d + 1) xs k).1).getD m default = zAtT (mkST d) xs k n m := by
            show ((List.range xs.length).map fun j => (mkItemT (mkST d) (xs.getD j default) (kkAtT (mkST d) xs k j)).1).getD m default = _
            rw [zAtT, if_pos hm]
            have hm' : m < xs.length := by rw [HLN.out]; exact hm
            simp [hm']
          rw [hg]
          exact hit m hm
        have FIN : Hid (_ ∧ _ ∧ _) := ⟨hE, hO, htr⟩
        clear hE hO htr hit hor hkl
        go_wp2
        go_ret
        exact ⟨by rw [FIN.out.1]; rfl, FIN.out.2.1, FIN.out.2.2⟩

theorem markS_allX (d : Nat) : MarkSX d := by
  induction d with
  | zero => intro S a n cap xs k K w _ h; exact h.elim
  | succ d ih => exact markS_nextX d ih

end Go.Proofs.YtpnhhhhmonbajaaGreat

set_option linter.unusedVariables false
namespace Go.Proofs.YtpnhhhhmonbajaaGreat
open Go.RowKit

theorem ItemAtX.regrow {K : (Nat → Prop) → World → Option Addr → Nat → Nat → List ItT → Prop} (hK : MovesX K) {T P : Nat → Prop} {w w' : World} {g g' j : Nat} {x : ItT} (h : ItemAtX K T w g j x)
    (hc : ∀ i, j * 4 ≤ i → i < j * 4 + 4 → w'.cell? ⟨g', i, none⟩ = w.cell? ⟨g, i, none⟩) (hd : ∀ k, T k → ¬ P k) (ht : TouchX P w w') : ItemAtX K T w' g' j x := by
  obtain ⟨ab, nb, cb, ak, nk, ck, U, V, c0, c1, c3, c4, m1, m2, m3, hu, ob, ok⟩ := h
  exact ⟨ab, nb, cb, ak, nk, ck, U, V, (hc _ (by omega) (by omega)).trans c0, (hc _ (by omega) (by omega)).trans c1, (hc _ (by omega) (by omega)).trans c3, (hc _ (by omega) (by omega)).trans c4, m1, m2, m3, hu,
    ob.touch (fun k hk => hd k (m1 k hk)) ht, hK _ _ _ _ _ _ _ _ ok (fun k hk => hd k (m2 k hk)) ht⟩

theorem getX_more (xs : List ItT) (y : ItT) (j : Nat) (hj : j < xs.length) : (xs ++ [y]).getD j default = xs.getD j default := by simp [List.getElem?_append, hj]
theorem getX_last (xs : List ItT) (y : ItT) : (xs ++ [y]).getD xs.length default = y := by simp

/-- An empty row. -/
theorem ownKidsX_none (d : Nat) (S : Nat → Prop) (w : World) : OwnKidsX (d + 1) S w none 0 0 [] := ⟨rfl, by omega, ⟨_, World.ownsRow_nil _ _ _ _⟩, fun k hk => by simp [Value.ownBlock] at hk, .inl rfl⟩
theorem ownKidsX_empty (d : Nat) {S : Nat → Prop} (w : World) (hS : S w.heap.size) : OwnKidsX (d + 1) S (w.alloc (.cells #[] 47)) (some ⟨w.heap.size, 0, none⟩) 0 0 [] :=
  ⟨rfl, by omega, ⟨_, World.ownsRow_lit w #[] 0 (Nat.zero_le _) (Nat.zero_le _) rfl⟩, fun k hk => by simp [Value.ownBlock] at hk; subst hk; exact hS, .inl rfl⟩

/-- A signer more. -/
theorem OwnKidsX.appended {d : Nat} {S U V R : Nat → Prop} {w w' : World} {a : Option Addr} {n cap : Nat} {xs : List ItT} {y : ItT} {ab : Option Addr} {nb cb : Nat} {ak : Option Addr} {nk ck : Nat} {g' cap' : Nat} {vs : List Value}
    (h : OwnKidsX (d + 1) S w a n cap xs) (hob : OwnBX U w ab nb cb y.sg) (hok : OwnKidsX d V w ak nk ck y.over) (hu : U64 y.ky) (dSU : ∀ b, U b → ¬ S b) (dSV : ∀ b, V b → ¬ S b) (dUV : ∀ b, U b → ¬ V b)
    (bS : ∀ b, S b → b < w.heap.size) (bU : ∀ b, U b → b < w.heap.size) (bV : ∀ b, V b → b < w.heap.size)
    (hr : w.ownsRow 0 47 4 (.slice a n cap) n vs) (hv : w'.ownsRow 0 47 4 (.slice (some ⟨g', 0, none⟩) (n + 1) cap') (n + 1) (vs ++ [.int .u64 y.ky, .int .i64 y.at2, .slice ab nb cb, .slice ak nk ck]))
    (hg : w.grownBy w' (Value.slice a n cap).ownBlock) (hl : (Value.slice a n cap).ownBlock = some g' ∨ g' = w.heap.size) (hn : n + 1 ≤ 9223372036854775807)
    (rS : ∀ b, S b → R b) (rU : ∀ b, U b → R b) (rV : ∀ b, V b → R b) (rg : R g') : OwnKidsX (d + 1) R w' (some ⟨g', 0, none⟩) (n + 1) cap' (xs ++ [y]) := by
  obtain ⟨h0, h1, _, hS, h2⟩ := h
  have ht : TouchX (fun b => (Value.slice a n cap).ownBlock = some b) w w' := touchX_g hg (fun k hk => hk)
  have hvl : vs.length = n * 4 := hr.1
  have cn : ∀ i, i < 4 → w'.cell? ⟨g', n * 4 + i, none⟩ = [Value.int .u64 y.ky, .int .i64 y.at2, .slice ab nb cb, .slice ak nk ck][i]? := fun i hi => by
    rw [hv.cellAt _ (by omega), List.getElem?_append_right (by omega)]
    congr 1; omega
  have hgn : ∀ b, (U b ∨ V b) → b ≠ g' := fun b hb e => by
    rcases hl with hl | hl
    · have := hS g' hl
      rw [← e] at this
      exact hb.elim (fun h => dSU b h this) (fun h => dSV b h this)
    · have := hb.elim (bU b) (bV b)
      omega
  have hob' := hob.touch (fun k hk => fun e => dSU k hk (hS k e)) ht
  have hok' := ownKids_movesX d _ _ _ _ _ _ _ _ hok (fun k hk => fun e => dSV k hk (hS k e)) ht
  have hnew : ItemAtX (OwnKidsX d) (fun b => U b ∨ V b) w' g' n y :=
    ⟨ab, nb, cb, ak, nk, ck, U, V, cn 0 (by omega), cn 1 (by omega), cn 2 (by omega), cn 3 (by omega), fun b hb => .inl hb, fun b hb => .inr hb, dUV, hu, hob', hok'⟩
  refine ⟨by simp [h0], hn, ⟨_, hv⟩, fun k hk => by simp [Value.ownBlock] at hk; subst hk; exact rg, .inr ⟨g', rfl, ?_⟩⟩
  rcases h2 with h2 | ⟨g, rfl, T, t1, t2, t3⟩
  · subst h2
    have hx : xs = [] := List.eq_nil_of_length_eq_zero h0
    subst hx
    refine ⟨fun _ b => U b ∨ V b, fun k hk b hb => ⟨hb.elim (rU b) (rV b), hgn b hb⟩, fun j k hj hk => by omega, fun k hk => ?_⟩
    obtain rfl : k = 0 := by omega
    exact hnew
  · refine ⟨fun k b => if k = n then U b ∨ V b else T k b, fun k hk b hb => ?_, fun j k hj hk b hb => ?_, fun k hk => ?_⟩
    · by_cases e : k = n
      · simp only [if_pos e] at hb
        exact ⟨hb.elim (rU b) (rV b), hgn b hb⟩
      · simp only [if_neg e] at hb
        have h3 := t1 k (by omega) b hb
        refine ⟨rS b h3.1, ?_⟩
        rcases hl with hl | hl
        · simp [Value.ownBlock] at hl
          omega
        · have := bS b h3.1
          omega
    · simp only [if_neg (show j ≠ n by omega)] at hb
      by_cases e : k = n
      · simp only [if_pos e]
        have := (t1 j (by omega) b hb).1
        exact fun h => h.elim (fun h => dSU b h this) (fun h => dSV b h this)
      · simp only [if_neg e]
        exact t2 j k hj (by omega) b hb
    · by_cases e : k = n
      · subst e
        have e2 : (xs ++ [y]).getD k default = y := by rw [← h0]; exact getX_last xs y
        rw [e2]
        simp only [if_true]
        exact hnew
      · have e2 : (xs ++ [y]).getD k default = xs.getD k default := getX_more xs y k (by omega)
        rw [e2]
        simp only [if_neg e]
        refine (t3 k (by omega)).regrow (ownKids_movesX d) (fun i hi1 hi2 => ?_) (fun b hb e3 => ?_) ht
        · rw [hv.cellAt _ (by omega), hr.cellAt _ (by omega), List.getElem?_append_left (by omega)]
        · simp [Value.ownBlock] at e3
          exact (t1 k (by omega) b hb).2 e3.symm

end Go.Proofs.YtpnhhhhmonbajaaGreat

set_option linter.unusedVariables false
namespace Go.Proofs.YtpnhhhhmonbajaaGreat
open Go.RowKit

/-- A signer more, whatever else has turned outside of the tree. -/
theorem OwnKidsX.appendedX {d : Nat} {S U V R P : Nat → Prop} {w w' : World} {a : Option Addr} {n cap : Nat} {xs : List ItT} {y : ItT} {ab : Option Addr} {nb cb : Nat} {ak : Option Addr} {nk ck : Nat} {g' cap' : Nat} {vs : List Value}
    (h : OwnKidsX (d + 1) S w a n cap xs) (hob : OwnBX U w ab nb cb y.sg) (hok : OwnKidsX d V w ak nk ck y.over) (hu : U64 y.ky) (dSU : ∀ b, U b → ¬ S b) (dSV : ∀ b, V b → ¬ S b) (dUV : ∀ b, U b → ¬ V b)
    (hr : w.ownsRow 0 47 4 (.slice a n cap) n vs) (hv : w'.ownsRow 0 47 4 (.slice (some ⟨g', 0, none⟩) (n + 1) cap') (n + 1) (vs ++ [.int .u64 y.ky, .int .i64 y.at2, .slice ab nb cb, .slice ak nk ck]))
    (ht : TouchX P w w') (hP : ∀ b, P b → (Value.slice a n cap).ownBlock = some b ∨ (¬ S b ∧ ¬ U b ∧ ¬ V b)) (hl : (Value.slice a n cap).ownBlock = some g' ∨ (¬ S g' ∧ ¬ U g' ∧ ¬ V g')) (hn : n + 1 ≤ 9223372036854775807)
    (rS : ∀ b, S b → R b) (rU : ∀ b, U b → R b) (rV : ∀ b, V b → R b) (rg : R g') : OwnKidsX (d + 1) R w' (some ⟨g', 0, none⟩) (n + 1) cap' (xs ++ [y]) := by
  obtain ⟨h0, h1, _, hS, h2⟩ := h
  have hvl : vs.length = n * 4 := hr.1
  have cn : ∀ i, i < 4 → w'.cell? ⟨g', n * 4 + i, none⟩ = [Value.int .u64 y.ky, .int .i64 y.at2, .slice ab nb cb, .slice ak nk ck][i]? := fun i hi => by
    rw [hv.cellAt _ (by omega), List.getElem?_append_right (by omega)]
    congr 1; omega
  have hgn : ∀ b, (U b ∨ V b) → b ≠ g' := fun b hb e => by
    rcases hl with hl | hl
    · have := hS g' hl
      rw [← e] at this
      exact hb.elim (fun h => dSU b h this) (fun h => dSV b h this)
    · rw [← e] at hl
      exact hb.elim hl.2.1 hl.2.2
  have hob' := hob.touch (fun k hk => fun e => (hP k e).elim (fun e => dSU k hk (hS k e)) (fun e => e.2.1 hk)) ht
  have hok' := ownKids_movesX d _ _ _ _ _ _ _ _ hok (fun k hk => fun e => (hP k e).elim (fun e => dSV k hk (hS k e)) (fun e => e.2.2 hk)) ht
  have hnew : ItemAtX (OwnKidsX d) (fun b => U b ∨ V b) w' g' n y :=
    ⟨ab, nb, cb, ak, nk, ck, U, V, cn 0 (by omega), cn 1 (by omega), cn 2 (by omega), cn 3 (by omega), fun b hb => .inl hb, fun b hb => .inr hb, dUV, hu, hob', hok'⟩
  refine ⟨by simp [h0], hn, ⟨_, hv⟩, fun k hk => by simp [Value.ownBlock] at hk; subst hk; exact rg, .inr ⟨g', rfl, ?_⟩⟩
  rcases h2 with h2 | ⟨g, rfl, T, t1, t2, t3⟩
  · subst h2
    have hx : xs = [] := List.eq_nil_of_length_eq_zero h0
    subst hx
    refine ⟨fun _ b => U b ∨ V b, fun k hk b hb => ⟨hb.elim (rU b) (rV b), hgn b hb⟩, fun j k hj hk => by omega, fun k hk => ?_⟩
    obtain rfl : k = 0 := by omega
    exact hnew
  · refine ⟨fun k b => if k = n then U b ∨ V b else T k b, fun k hk b hb => ?_, fun j k hj hk b hb => ?_, fun k hk => ?_⟩
    · by_cases e : k = n
      · simp only [if_pos e] at hb
        exact ⟨hb.elim (rU b) (rV b), hgn b hb⟩
      · simp only [if_neg e] at hb
        have h3 := t1 k (by omega) b hb
        refine ⟨rS b h3.1, ?_⟩
        rcases hl with hl | hl
        · simp [Value.ownBlock] at hl
          omega
        · intro e4
          rw [e4] at h3
          exact hl.1 h3.1
    · simp only [if_neg (show j ≠ n by omega)] at hb
      by_cases e : k = n
      · simp only [if_pos e]
        have := (t1 j (by omega) b hb).1
        exact fun h => h.elim (fun h => dSU b h this) (fun h => dSV b h this)
      · simp only [if_neg e]
        exact t2 j k hj (by omega) b hb
    · by_cases e : k = n
      · subst e
        have e2 : (xs ++ [y]).getD k default = y := by rw [← h0]; exact getX_last xs y
        rw [e2]
        simp only [if_true]
        exact hnew
      · have e2 : (xs ++ [y]).getD k default = xs.getD k default := getX_more xs y k (by omega)
        rw [e2]
        simp only [if_neg e]
        refine (t3 k (by omega)).regrow (ownKids_movesX d) (fun i hi1 hi2 => ?_) (fun b hb e3 => ?_) ht
        · rw [hv.cellAt _ (by omega), hr.cellAt _ (by omega), List.getElem?_append_left (by omega)]
        · rcases hP b e3 with e4 | e4
          · simp [Value.ownBlock] at e4
            exact (t1 k (by omega) b hb).2 e4.symm
          · exact e4.1 (t1 k (by omega) b hb).1

/-- One more over x. -/
def overT (x y : ItT) : ItT := .mk x.ky x.at2 x.sg (x.over ++ [y])
theorem setT_at (xs : List ItT) (i j : Nat) (z : ItT) (hj : j < xs.length) : (xs.set i z).getD j default = if j = i then z else xs.getD j default := by
  by_cases e : j = i
  · subst e
    simp [hj]
  · simp [e, List.getElem?_set_ne (Ne.symm e)]

/-- What must be known of the one that is signed over. -/
theorem OwnKidsX.at {d : Nat} {S : Nat → Prop} {w : World} {g n c : Nat} {xs : List ItT} (h : OwnKidsX (d + 1) S w (some ⟨g, 0, none⟩) n c xs) {i : Nat} (hi : i < n) :
    ∃ ab nb cb ak nk ck, ∃ U V : Nat → Prop, w.cell? ⟨g, i * 4, none⟩ = some (.int .u64 (xs.getD i default).ky) ∧ w.cell? ⟨g, i * 4 + 1, none⟩ = some (.int .i64 (xs.getD i default).at2)
      ∧ w.cell? ⟨g, i * 4 + 2, none⟩ = some (.slice ab nb cb) ∧ w.cell? ⟨g, i * 4 + 3, none⟩ = some (.slice ak nk ck)
      ∧ (∀ b, U b → S b ∧ b ≠ g) ∧ (∀ b, V b → S b ∧ b ≠ g) ∧ OwnBX U w ab nb cb (xs.getD i default).sg ∧ OwnKidsX d V w ak nk ck (xs.getD i default).over := by
  rcases h.2.2.2.2 with h2 | ⟨g2, e, T, t1, t2, t3⟩
  · omega
  · simp only [Option.some.injEq, Addr.mk.injEq, and_true] at e
    subst e
    obtain ⟨ab, nb, cb, ak, nk, ck, U, V, c0, c1, c3, c4, m1, m2, m3, hu, ob, ok⟩ := t3 i hi
    exact ⟨ab, nb, cb, ak, nk, ck, U, V, c0, c1, c3, c4, fun b hb => t1 i hi b (m1 b hb), fun b hb => t1 i hi b (m2 b hb), ob, ok⟩

/-- A signer put over the i-th. -/
theorem OwnKidsX.putOver {d : Nat} {S Q R : Nat → Prop} {w w2 : World} {g n c : Nat} {xs : List ItT} {y : ItT} {i : Nat} {ak : Option Addr} {nk ck : Nat} {aq : Option Addr} {nq cq g' c' : Nat} {vs us : List Value}
    (h : OwnKidsX (d + 2) S w (some ⟨g, 0, none⟩) n c xs) (hd : 1 ≤ d) (hi : i < n) (hq : OwnBX Q w aq nq cq y.sg) (ho : y.over = []) (hu : U64 y.ky) (dQ : ∀ b, Q b → ¬ S b)
    (hr : w.ownsRow 0 47 4 (.slice (some ⟨g, 0, none⟩) n c) n vs) (hc : w.cell? ⟨g, i * 4 + 3, none⟩ = some (.slice ak nk ck)) (hk : w.ownsRow 0 47 4 (.slice ak nk ck) nk us)
    (hr2 : w2.ownsRow 0 47 4 (.slice (some ⟨g, 0, none⟩) n c) n (vs.set (i * 4 + 3) (.slice (some ⟨g', 0, none⟩) (nk + 1) c')))
    (hk2 : w2.ownsRow 0 47 4 (.slice (some ⟨g', 0, none⟩) (nk + 1) c') (nk + 1) (us ++ [.int .u64 y.ky, .int .i64 y.at2, .slice aq nq cq, .slice none 0 0]))
    (ht : TouchX (fun b => b = g ∨ (Value.slice ak nk ck).ownBlock = some b) w w2) (hl : (Value.slice ak nk ck).ownBlock = some g' ∨ (¬ S g' ∧ ¬ Q g')) (hn : nk + 1 ≤ 9223372036854775807)
    (rS : ∀ b, S b → R b) (rQ : ∀ b, Q b → R b) (rg : R g') : OwnKidsX (d + 2) R w2 (some ⟨g, 0, none⟩) n c (xs.set i (overT (xs.getD i default) y)) := by
  obtain ⟨h0, h1, _, hS, h2⟩ := h
  have hSg : S g := hS g rfl
  have hvl : vs.length = n * 4 := hr.1
  refine ⟨by simp [h0], h1, ⟨_, hr2⟩, fun k hk => rS k (hS k hk), .inr ⟨g, rfl, ?_⟩⟩
  rcases h2 with h2 | ⟨g2, e, T, t1, t2, t3⟩
  · omega
  simp only [Option.some.injEq, Addr.mk.injEq, and_true] at e
  subst e
  obtain ⟨ab, nb, cb, ak', nk', ck', U, V, c0, c1, c3, c4, m1, m2, m3, hui, ob, ok⟩ := t3 i hi
  have e4 : (Value.slice ak' nk' ck') = .slice ak nk ck := by rw [c4] at hc; exact Option.some.inj hc
  simp only [Value.slice.injEq] at e4
  obtain ⟨rfl, rfl, rfl⟩ := e4
  have hVb : ∀ b, (Value.slice ak' nk' ck').ownBlock = some b → V b := ok.2.2.2.1
  have gT : ∀ b, T i b → b ≠ g := fun b hb => (t1 i hi b hb).2
  have hg' : g' ≠ g := fun e => by
    rcases hl with hl | hl
    · exact gT g' (m2 g' (hVb g' hl)) e
    · rw [e] at hl
      exact hl.1 hSg
  -- the row that lies over it
  have hempty : OwnKidsX (d + 1 - 1) (fun _ => False) w none 0 0 y.over := by
    rw [ho]
    obtain ⟨d', rfl⟩ : ∃ d', d = d' + 1 := ⟨d - 1, by omega⟩
    exact ownKidsX_none d' _ w
  have hov : OwnKidsX (d + 1) (fun b => V b ∨ Q b ∨ b = g') w2 (some ⟨g', 0, none⟩) (nk' + 1) c' ((xs.getD i default).over ++ [y]) :=
    OwnKidsX.appendedX ok hq hempty hu (fun b hb hv => dQ b hb (t1 i hi b (m2 b hv)).1) (fun _ h => h.elim) (fun _ _ h => h) hk hk2 ht (fun b hb => by
      rcases hb with rfl | hb
      · exact .inr ⟨fun hv => gT _ (m2 _ hv) rfl, fun hq' => dQ _ hq' hSg, fun h => h⟩
      · exact .inl hb) (hl.imp (fun h => h) (fun h => ⟨fun hv => h.1 (t1 i hi g' (m2 g' hv)).1, h.2, fun h => h⟩)) hn (fun b hb => .inl hb) (fun b hb => .inr (.inl hb)) (fun _ h => h.elim) (.inr (.inr rfl))
  have cell2 : ∀ j, j < n * 4 → j ≠ i * 4 + 3 → w2.cell? ⟨g, j, none⟩ = w.cell? ⟨g, j, none⟩ := fun j hj hne => by
    rw [hr2.cellAt j hj, hr.cellAt j hj, List.getElem?_set_ne (Ne.symm hne)]
  have cell3 : w2.cell? ⟨g, i * 4 + 3, none⟩ = some (.slice (some ⟨g', 0, none⟩) (nk' + 1) c') := by
    rw [hr2.cellAt _ (by omega), List.getElem?_set_self (by omega)]
  have apart : ∀ j, j < n → j ≠ i → ∀ b, T j b → ¬ T i b := fun j hj hne b hb hb2 => by
    rcases Nat.lt_or_gt_of_ne hne with hlt | hlt
    · exact t2 j i hlt hi b hb hb2
    · exact t2 i j hlt hj b hb2 hb
  refine ⟨fun k b => if k = i then T i b ∨ Q b ∨ b = g' else T k b, fun k hk b hb => ?_, fun j k hj hk b hb => ?_, fun k hk => ?_⟩
  · by_cases e : k = i
    · simp only [if_pos e] at hb
      rcases hb with hb | hb | rfl
      · exact ⟨rS b (t1 i hi b hb).1, gT b hb⟩
      · exact ⟨rQ b hb, fun e => dQ b hb (by rw [e]; exact hSg)⟩
      · exact ⟨rg, hg'⟩
    · simp only [if_neg e] at hb
      exact ⟨rS b (t1 k hk b hb).1, (t1 k hk b hb).2⟩
  · have key : ∀ m, m < n → m ≠ i → T m b → ¬ (T i b ∨ Q b ∨ b = g') := fun m hm hne hmb h3 => by
      rcases h3 with h3 | h3 | h3
      · exact apart m hm hne b hmb h3
      · exact dQ b h3 (t1 m hm b hmb).1
      · rw [h3] at hmb
        rcases hl with hl | hl
        · exact apart m hm hne _ hmb (m2 _ (hVb _ hl))
        · exact hl.1 (t1 m hm _ hmb).1
    by_cases ej : j = i
    · have ek : k ≠ i := by omega
      simp only [if_pos ej] at hb
      simp only [if_neg ek]
      exact fun h3 => key k hk ek h3 hb
    · simp only [if_neg ej] at hb
      by_cases ek : k = i
      · simp only [if_pos ek]
        exact key j (by omega) ej hb
      · simp only [if_neg ek]
        exact t2 j k hj hk b hb
  · rw [setT_at xs i k _ (by omega)]
    by_cases e : k = i
    · subst e
      rw [if_pos rfl]
      simp only [if_true]
      exact ⟨ab, nb, cb, some ⟨g', 0, none⟩, nk' + 1, c', U, fun b => V b ∨ Q b ∨ b = g', (cell2 _ (by omega) (by omega)).trans c0, (cell2 _ (by omega) (by omega)).trans c1, (cell2 _ (by omega) (by omega)).trans c3, cell3, fun b hb => .inl (m1 b hb), fun b hb => hb.elim (fun h => .inl (m2 b h)) (fun h => .inr h), fun b hb h3 => by
        rcases h3 with h3 | h3 | rfl
        · exact m3 b hb h3
        · exact dQ b h3 (t1 k hi b (m1 b hb)).1
        · rcases hl with hl | hl
          · exact m3 _ hb (hVb _ hl)
          · exact hl.1 (t1 k hi _ (m1 _ hb)).1, hui, ob.touch (fun b hb h3 => by
        rcases h3 with rfl | h3
        · exact gT _ (m1 _ hb) rfl
        · exact m3 b hb (hVb b h3)) ht, hov⟩
    · rw [if_neg e]
      simp only [if_neg e]
      exact (t3 k hk).move (ownKids_movesX (d + 1)) (fun j h3 h4 => cell2 j (by omega) (by omega)) (fun b hb h3 => by
        rcases h3 with rfl | h3
        · exact (t1 k hk _ hb).2 rfl
        · exact apart k hk e b hb (m2 b (hVb b h3))) ht

end Go.Proofs.YtpnhhhhmonbajaaGreat

