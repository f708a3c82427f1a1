import Derived.Test.YtjechndhgkkpeaaRG1
namespace Go.Proofs.Ytjechndhgkkpeaa
open Go.RowKit

/-- Alike modulo Q. -/
def Cg (Q a b : Int) : Prop := Q ∣ a - b
theorem Cg.rfl' {Q a : Int} : Cg Q a a := ⟨0, by grind⟩
theorem Cg.of_eq {Q a b : Int} (h : a = b) : Cg Q a b := ⟨0, by grind⟩
theorem Cg.symm {Q a b : Int} (h : Cg Q a b) : Cg Q b a := by obtain ⟨k, hk⟩ := h; exact ⟨-k, by grind⟩
theorem Cg.trans {Q a b c : Int} (h : Cg Q a b) (h' : Cg Q b c) : Cg Q a c := by obtain ⟨k, hk⟩ := h; obtain ⟨l, hl⟩ := h'; exact ⟨k + l, by grind⟩
theorem Cg.add {Q a b c d : Int} (h : Cg Q a b) (h' : Cg Q c d) : Cg Q (a + c) (b + d) := by obtain ⟨k, hk⟩ := h; obtain ⟨l, hl⟩ := h'; exact ⟨k + l, by grind⟩
theorem Cg.sub {Q a b c d : Int} (h : Cg Q a b) (h' : Cg Q c d) : Cg Q (a - c) (b - d) := by obtain ⟨k, hk⟩ := h; obtain ⟨l, hl⟩ := h'; exact ⟨k - l, by grind⟩
theorem Cg.mul {Q a b c d : Int} (h : Cg Q a b) (h' : Cg Q c d) : Cg Q (a * c) (b * d) := by obtain ⟨k, hk⟩ := h; obtain ⟨l, hl⟩ := h'; exact ⟨k * c + b * l, by grind⟩

/-- The factor of the place z in the weight of the place i. -/
def tf (iv : Int → Int) (z i : Int) : Int := if z = i then 1 else z * iv (z - i)
def lp (iv : Int → Int) : List Int → Int → Int
  | [], _ => 1
  | z :: zs, i => tf iv z i * lp iv zs i
/-- The sum over the places ws of weight and value. -/
def sw (L F : Int → Int) : List Int → Int
  | [] => 0
  | w :: ws => L w * F w + sw L F ws
def Inv (Q : Int) (iv : Int → Int) : Prop := ∀ u, ¬ Q ∣ u → Cg Q (iv u * u) 1
/-- Unlike modulo Q. -/
def Apart (Q : Int) (zs : List Int) : Prop := zs.Pairwise fun a b => ¬ Q ∣ a - b

theorem sw_cong {Q : Int} {L F L' F' : Int → Int} : ∀ (ws : List Int), (∀ i ∈ ws, Cg Q (L i * F i) (L' i * F' i)) → Cg Q (sw L F ws) (sw L' F' ws) := by
  intro ws
  induction ws with
  | nil => intro _; exact Cg.rfl'
  | cons w ws ih => intro h; exact Cg.add (h w (by simp)) (ih fun i hi => h i (by simp [hi]))
theorem sw_lin {L F G : Int → Int} (a b : Int) : ∀ ws : List Int, sw L (fun i => a * F i + b * G i) ws = a * sw L F ws + b * sw L G ws := by
  intro ws
  induction ws with
  | nil => simp [sw]
  | cons w ws ih => rw [sw, sw, sw, ih]; grind
theorem sw_scale {L F : Int → Int} (a : Int) : ∀ ws : List Int, sw (fun i => a * L i) F ws = a * sw L F ws := by
  intro ws
  induction ws with
  | nil => simp [sw]
  | cons w ws ih => rw [sw, sw, ih]; grind

theorem tf_drop {Q : Int} {iv : Int → Int} (hi : Inv Q iv) {z i : Int} (h : ¬ Q ∣ z - i) : Cg Q (tf iv z i * (i - z)) (-z) := by
  have hne : z ≠ i := by rintro rfl; exact h ⟨0, by grind⟩
  rw [tf, if_neg hne]
  obtain ⟨k, hk⟩ := hi _ h
  exact ⟨-z * k, by grind⟩

/-- The first place dropped. -/
theorem drop_head {Q : Int} {iv : Int → Int} (hi : Inv Q iv) (z : Int) (zs : List Int) (h : ∀ i ∈ zs, ¬ Q ∣ z - i) (G : Int → Int) :
    Cg Q (sw (lp iv (z :: zs)) (fun i => (i - z) * G i) (z :: zs)) (-z * sw (lp iv zs) G zs) := by
  rw [sw, ← sw_scale]
  have h0 : lp iv (z :: zs) z * ((z - z) * G z) = 0 := by grind
  rw [h0, Int.zero_add]
  refine sw_cong zs fun i hm => ?_
  rw [lp]
  obtain ⟨k, hk⟩ := tf_drop hi (h i hm)
  exact ⟨k * lp iv zs i * G i, by grind⟩
/-- The second place dropped. -/
theorem drop_second {Q : Int} {iv : Int → Int} (hi : Inv Q iv) (z y : Int) (zs : List Int) (hz : ¬ Q ∣ z - y) (h : ∀ i ∈ zs, ¬ Q ∣ y - i) (G : Int → Int) :
    Cg Q (sw (lp iv (z :: y :: zs)) (fun i => (i - y) * G i) (z :: y :: zs)) (-y * sw (lp iv (z :: zs)) G (z :: zs)) := by
  have hz' : ¬ Q ∣ y - z := fun ⟨k, hk⟩ => hz ⟨-k, by grind⟩
  rw [sw, sw, ← sw_scale, sw]
  have h0 : lp iv (z :: y :: zs) y * ((y - y) * G y) = 0 := by grind
  rw [h0, Int.zero_add]
  refine Cg.add ?_ (sw_cong zs fun i hm => ?_)
  · simp only [lp]
    obtain ⟨k, hk⟩ := tf_drop hi hz'
    exact ⟨tf iv z z * k * lp iv zs z * G z, by grind⟩
  · simp only [lp]
    obtain ⟨k, hk⟩ := tf_drop hi (h i hm)
    exact ⟨tf iv z i * k * lp iv zs i * G i, by grind⟩

/-- The weights sum up to 1. -/
theorem weights_one {Q : Int} {iv : Int → Int} (hi : Inv Q iv) : ∀ (n : Nat) (zs : List Int), zs.length = n + 1 → Apart Q zs → Cg Q (sw (lp iv zs) (fun _ => 1) zs) 1 := by
  intro n
  induction n with
  | zero =>
    intro zs hl _
    match zs, hl with
    | [z], _ => exact Cg.of_eq (by simp [sw, lp, tf])
  | succ n ih =>
    intro zs hl ha
    match zs, hl with
    | z :: y :: zs, hl =>
      have ha' := ha
      simp only [Apart, List.pairwise_cons, List.mem_cons, forall_eq_or_imp] at ha
      obtain ⟨⟨hzy, hz⟩, hy, hr⟩ := ha
      have e1 := drop_head hi z (y :: zs) (by simp only [List.mem_cons, forall_eq_or_imp]; exact ⟨hzy, hz⟩) (fun _ => 1)
      have e2 := drop_second hi z y zs hzy hy (fun _ => 1)
      have i1 := ih (y :: zs) (by simpa using hl) (by simp only [Apart, List.pairwise_cons]; exact ⟨hy, hr⟩)
      have i2 := ih (z :: zs) (by simpa using hl) (by simp only [Apart, List.pairwise_cons]; exact ⟨hz, hr⟩)
      have e3 := sw_lin (L := lp iv (z :: y :: zs)) (F := fun i => (i - z) * 1) (G := fun i => (i - y) * 1) 1 (-1) (z :: y :: zs)
      have e4 : sw (lp iv (z :: y :: zs)) (fun i => 1 * ((i - z) * 1) + -1 * ((i - y) * 1)) (z :: y :: zs) = (y - z) * sw (lp iv (z :: y :: zs)) (fun _ => 1) (z :: y :: zs) := by
        have := sw_lin (L := lp iv (z :: y :: zs)) (F := fun _ => 1) (G := fun _ => 0) (y - z) 0 (z :: y :: zs)
        rw [show (fun i : Int => 1 * ((i - z) * 1) + -1 * ((i - y) * 1)) = (fun i : Int => (y - z) * 1 + 0 * 0) by funext i; grind, this]
        grind
      rw [e4] at e3
      have hyz : ¬ Q ∣ y - z := fun ⟨k, hk⟩ => hzy ⟨-k, by grind⟩
      obtain ⟨k1, h1⟩ := e1
      obtain ⟨k2, h2⟩ := e2
      obtain ⟨j1, g1⟩ := i1
      obtain ⟨j2, g2⟩ := i2
      obtain ⟨m, hm⟩ := hi _ hyz
      generalize sw (lp iv (z :: y :: zs)) (fun _ => 1) (z :: y :: zs) = S at *
      generalize sw (lp iv (z :: y :: zs)) (fun i => (i - z) * 1) (z :: y :: zs) = A at *
      generalize sw (lp iv (z :: y :: zs)) (fun i => (i - y) * 1) (z :: y :: zs) = B at *
      generalize sw (lp iv (y :: zs)) (fun _ => 1) (y :: zs) = S1 at *
      generalize sw (lp iv (z :: zs)) (fun _ => 1) (z :: zs) = S2 at *
      generalize iv (y - z) = v at *
      have key : (y - z) * (S - 1) = Q * (k1 - k2 - z * j1 + y * j2) := by grind
      exact ⟨v * (k1 - k2 - z * j1 + y * j2) - m * (S - 1), by grind⟩

/-- A polynomial of fewer than n coefficients ahead. -/
def Deg : Nat → (Int → Int) → Prop
  | 0, F => ∀ i, F i = 0
  | n + 1, F => ∃ c F', Deg n F' ∧ ∀ i, F i = c + i * F' i
theorem Deg.zero : ∀ n, Deg n fun _ => 0
  | 0 => fun _ => rfl
  | n + 1 => ⟨0, fun _ => 0, Deg.zero n, fun i => by grind⟩
theorem Deg.lin (z : Int) : ∀ n (F G : Int → Int), Deg n F → Deg n G → Deg n fun i => F i + z * G i
  | 0, F, G, hF, hG => fun i => by simp only []; rw [hF i, hG i]; grind
  | n + 1, F, G, ⟨c, F', hF, eF⟩, ⟨d, G', hG, eG⟩ => ⟨c + z * d, _, Deg.lin z n F' G' hF hG, fun i => by simp only []; rw [eF i, eG i]; grind⟩
theorem Deg.up : ∀ n F, Deg n F → Deg (n + 1) F
  | 0, F, h => ⟨0, fun _ => 0, fun _ => rfl, fun i => by rw [h i]; grind⟩
  | n + 1, F, ⟨c, F', hF, e⟩ => ⟨c, F', Deg.up n F' hF, e⟩
theorem Deg.part (z : Int) : ∀ n F, Deg (n + 1) F → ∃ G, Deg n G ∧ ∀ i, F i = F z + (i - z) * G i
  | 0, F, ⟨c, F', hF, e⟩ => ⟨fun _ => 0, fun _ => rfl, fun i => by rw [e i, e z, hF i, hF z]; grind⟩
  | n + 1, F, ⟨c, F', hF, e⟩ => by
    obtain ⟨G', hG, eG⟩ := Deg.part z n F' hF
    refine ⟨fun i => F' i + z * G' i, Deg.lin z _ _ _ hF (Deg.up _ _ hG), fun i => ?_⟩
    have h1 := e i
    have h2 := e z
    have h3 := eG i
    simp only []
    grind

/-- The value at 0 out of the values at enough places. -/
theorem lagrange {Q : Int} {iv : Int → Int} (hi : Inv Q iv) : ∀ (zs : List Int) (F : Int → Int), Apart Q zs → Deg zs.length F → Cg Q (sw (lp iv zs) F zs) (F 0) := by
  intro zs
  induction zs with
  | nil => intro F _ hd; exact Cg.of_eq (by rw [sw]; exact (hd 0).symm)
  | cons z zs ih =>
    intro F ha hd
    obtain ⟨G, hG, e⟩ := Deg.part z _ F hd
    have ha' := ha
    simp only [Apart, List.pairwise_cons] at ha
    have e1 := drop_head hi z zs ha.1 G
    have e2 := weights_one hi zs.length (z :: zs) rfl ha'
    have e3 := ih G ha.2 hG
    have e4 : sw (lp iv (z :: zs)) F (z :: zs) = F z * sw (lp iv (z :: zs)) (fun _ => 1) (z :: zs) + 1 * sw (lp iv (z :: zs)) (fun i => (i - z) * G i) (z :: zs) := by
      rw [← sw_lin]
      congr 1
      funext i
      rw [e i]
      grind
    rw [e4]
    have h0 := e 0
    obtain ⟨k1, h1⟩ := e1
    obtain ⟨k2, h2⟩ := e2
    obtain ⟨k3, h3⟩ := e3
    exact ⟨F z * k2 + k1 - z * k3, by grind⟩

end Go.Proofs.Ytjechndhgkkpeaa
