/- Package stripe's Spread and the document's, each as a contract over memory: rows of rows of the call's own. -/
import Derived.Test.YtcdmljlangbloaaStf
import Derived.Test.YtcdmljlangbloaaMsb
import Derived.Test.YtcdmljlangbloaaSol
namespace Go.Proofs.Ytcdmljlangbloaa
open Go.RowKit
set_option linter.unusedVariables false
set_option linter.unusedSimpArgs false
set_option maxRecDepth 100000

theorem ty_rws : Ty 39 (.slice none 0 0) 1 24 := ty_of (by kernel_rfl) rfl (by omega) (by omega)
theorem Kp.frz {w w1 : World} {p : Addr} (hk : Kp No w w1) (hp : p.block < w.heap.size) (h : w.frozen? p = false) : w1.frozen? p = false := (hk.below0.frozen hp).trans h
theorem Grd.mono {w : World} {base b g n : Nat} {hv : Nat → Value} {F : Nat → List UInt8} (h : Grd w b g n hv F) (hb : base ≤ b) : Grd w base g n hv F := ⟨h.out, fun j hj => (h.row j hj).rebase fun k hk => Nat.le_trans hb ((h.row j hj).ge k hk), Nat.le_trans hb h.bas⟩
/-- A block of rows of rows is no row. -/
theorem Grd.under {w w1 : World} {base b g n i : Nat} {hv : Nat → Value} {F : Nat → List UInt8} {v : Value} {xs : List Value} (h : Grd w base g n hv F) (ho : OwnT w b 39 1 v i xs) (hk : Kp (fun k => v.ownBlock = some k) w w1) : Grd w1 base g n hv F := by
  refine h.keep hk (fun e => ?_) fun j k hj hq e => ?_
  · obtain ⟨cur, h1⟩ := ho.kind e
    obtain ⟨c2, h2, _⟩ := h.out
    rw [h1] at h2
    injection h2 with h2
    injection h2 with h3 h4
    exact absurd h4 (by decide)
  · obtain ⟨cur, h1⟩ := ho.kind e
    rcases (h.row j hj).2 with ⟨e2, _⟩ | ⟨g', cap, c2, e2, _, h2, _⟩
    · rw [e2] at hq
      cases hq
    · rw [e2] at hq
      injection hq with hq
      rw [show (⟨g', 0, none⟩ : Addr).block = g' from rfl] at hq
      subst hq
      rw [h1] at h2
      injection h2 with h2
      injection h2 with h3 h4
      exact absurd h4 (by decide)
/-- So many stripes' shards are there. -/
structure SpI (w : World) (n : Nat) (F : Nat → Nat → List UInt8) (i : Nat) (v : Value) (xs : List Value) (wr : World) : Prop where
  own : OwnT wr w.heap.size 39 1 v i xs
  row : ∀ j, j < i → ∃ g cp hv, xs[j]? = some (.slice (some ⟨g, 0, none⟩) n cp) ∧ Grd wr w.heap.size g n hv (F j)
  kp : Kp No w wr
theorem SpI.step {w wr w2 w3 : World} {n i b g cp : Nat} {F : Nat → Nat → List UInt8} {v v1 : Value} {xs : List Value} {hv : Nat → Value} {o : Obj} (h : SpI w n F i v xs wr) (hk : Kp No wr w2) (hG : Grd w2 b g n hv (F i)) (hb : w.heap.size ≤ b)
    (ha : AppT (w2.alloc o) w.heap.size 39 1 v i xs 1 [.slice (some ⟨g, 0, none⟩) n cp] v1 w3) : SpI w n F (i + 1) v1 (xs ++ [.slice (some ⟨g, 0, none⟩) n cp]) w3 := by
  have ho : OwnT (w2.alloc o) w.heap.size 39 1 v i xs := (h.own.no hk).no (Kp.alloc No _ _)
  have hl : xs.length = i := by have := h.own.1; omega
  refine ⟨ha.own, fun j hj => ?_, ha.keeps ho ((h.kp.trans' hk).trans' (Kp.alloc No _ _))⟩
  by_cases e : j = i
  · subst e
    exact ⟨g, cp, hv, by rw [List.getElem?_append_right (by omega), hl, Nat.sub_self]; rfl, ((hG.mono hb).no (Kp.alloc No _ _)).under ho ha.kp⟩
  · obtain ⟨g', cp', hv', h1, h2⟩ := h.row j (by omega)
    exact ⟨g', cp', hv', by rw [List.getElem?_append_left (by omega)]; exact h1, ((h2.no hk).no (Kp.alloc No _ _)).under ho ha.kp⟩
theorem SpI.no {w wr w1 : World} {n i : Nat} {F : Nat → Nat → List UInt8} {v : Value} {xs : List Value} (h : SpI w n F i v xs wr) (hk : Kp No wr w1) : SpI w n F i v xs w1 := ⟨h.own.no hk, fun j hj => by
  obtain ⟨g, cp, hv, h1, h2⟩ := h.row j hj
  exact ⟨g, cp, hv, h1, h2.no hk⟩, h.kp.trans' hk⟩
/-- So many stripes, each of n shards. -/
def Rw3 (w : World) (A : Option Addr) (c n : Nat) (F : Nat → Nat → List UInt8) : Prop := ∀ i, i < c → ∃ G A' cp, A = some ⟨G, 0, none⟩ ∧ w.cell? ⟨G, i, none⟩ = some (.slice A' n cp) ∧ Rws w A' n ((List.range n).map (F i))
theorem Rw3.no {w w1 : World} {A : Option Addr} {c n : Nat} {F : Nat → Nat → List UInt8} (h : Rw3 w A c n F) (hk : Kp No w w1) : Rw3 w1 A c n F := fun i hi => by
  obtain ⟨G, A', cp, h1, h2, h3⟩ := h i hi
  exact ⟨G, A', cp, h1, hk.cell h2 fun f => f, h3.no hk⟩
theorem SpI.rw3 {w wr : World} {n i r cp : Nat} {A : Option Addr} {F : Nat → Nat → List UInt8} {xs : List Value} (h : SpI w n F i (.slice A r cp) xs wr) : Rw3 wr A i n F := fun j hj => by
  obtain ⟨g, cp', hv, h1, h2⟩ := h.row j hj
  obtain ⟨G, e, _, _, _, hc⟩ := h.own.cell h1
  exact ⟨G, _, cp', e, hc, h2.rws⟩
theorem SpI.rw3k {w wr w1 : World} {S : Nat → Prop} {n i r cp : Nat} {A : Option Addr} {F : Nat → Nat → List UInt8} {xs : List Value} (h : SpI w n F i (.slice A r cp) xs wr) (hk : Kp S wr w1) (hS : ∀ k, S k → k < w.heap.size) : Rw3 w1 A i n F := fun j hj => by
  obtain ⟨g, cp', hv, h1, h2⟩ := h.row j hj
  have ho := h.own.keep hk fun k hk hs => by have := h.own.ge k hk; have := hS k hs; omega
  have hG := h2.keep hk (fun hs => by have := h2.bas; have := hS g hs; omega) fun j' k hj' hq hs => by have := (h2.row j' hj').ge k hq; have := hS k hs; omega
  obtain ⟨G, e, _, _, _, hc⟩ := ho.cell h1
  exact ⟨G, _, cp', e, hc, hG.rws⟩
theorem kp_three {w : World} {b : Nat} {u v x : Value} : Kp (fun q => q = b) w (((w.setCell ⟨b, 0, none⟩ u).setCell ⟨b, 1, none⟩ v).setCell ⟨b, 2, none⟩ x) :=
  ((Kp.setCell (p := ⟨b, 0, none⟩) (S := fun q => q = b) rfl u).trans' (Kp.setCell (p := ⟨b, 1, none⟩) (S := fun q => q = b) rfl v)).trans' (Kp.setCell (p := ⟨b, 2, none⟩) (S := fun q => q = b) rfl x)
theorem three_al {w : World} {b : Nat} {u v x u0 v0 x0 : Value} (h0 : w.cell? ⟨b, 0, none⟩ = some u0) (h1 : w.cell? ⟨b, 1, none⟩ = some v0) (h2 : w.cell? ⟨b, 2, none⟩ = some x0) (o : Obj) (hb : b < w.heap.size) :
    ((((w.setCell ⟨b, 0, none⟩ u).setCell ⟨b, 1, none⟩ v).setCell ⟨b, 2, none⟩ x).alloc o).cell? ⟨b, 0, none⟩ = some u ∧ ((((w.setCell ⟨b, 0, none⟩ u).setCell ⟨b, 1, none⟩ v).setCell ⟨b, 2, none⟩ x).alloc o).cell? ⟨b, 1, none⟩ = some v ∧ ((((w.setCell ⟨b, 0, none⟩ u).setCell ⟨b, 1, none⟩ v).setCell ⟨b, 2, none⟩ x).alloc o).cell? ⟨b, 2, none⟩ = some x := by
  refine ⟨?_, ?_, ?_⟩ <;> rw [World.cell?_alloc_lt _ _ _ (by simp; omega)] <;> simp [h0, h1, h2, go_sem]
/-- The shards of stripe i. -/
def spF (a d p f : Nat) (bs : List UInt8) (x : Nat → UInt8) (i s : Nat) : List UInt8 := rowL (a * p) (shE a d p (rowL f fun j => lg bs (i * f + j)) (x s))
/-- A plan and all stripes' shards come back, and no error. -/
def SpPost (w : World) (l c p n : Nat) (F : Nat → Nat → List UInt8) (e : Ending) (w1 : World) : Prop := ∃ A cp, e = .returned (.tuple #[plV (l : Int) (c : Int) (p : Int), .slice A c cp, .int .i64 0]) ∧ Rw3 w1 A c n F ∧ Kp No w w1
/-- No plan, no shards, an error. -/
def SpErr (w : World) (k : Nat) (e : Ending) (w1 : World) : Prop := e = .returned (.tuple #[plV 0 0 0, .slice none 0 0, .int .i64 (k : Int)]) ∧ Kp No w w1
set_option maxHeartbeats 1000000 in
theorem spread_err {w : World} {g n k a d q : Nat} {x : Nat → UInt8} (h : CodeAt w g n k x) (hD : Dim n k a d q) {pc : Int} {k0 m cp l c p : Nat} {A : Option Addr} (hO : OfR q (m : Int) pc l c p k0) (hk0 : k0 = 1 ∨ k0 = 29) (hm : m ≤ 1000000000) : Calls Try.prog 21 #[cptr g, .int .i64 pc, .slice A m cp] w (SpErr w k0) := by
  have hz : l = 0 ∧ c = 0 ∧ p = 0 := by rcases hO.err with ⟨h, _⟩ | ⟨_, h⟩ <;> omega
  obtain ⟨rfl, rfl, rfl⟩ := hz
  have hne : ((k0 : Int) != 0) = true := by rcases hk0 with rfl | rfl <;> rfl
  have HO := hide (fun w' (hk : Kp No w w') => of_any (h.no hk) hD hO)
  clear hO hk0
  go_enter Try.func21, Try.ntmps21
  go_wp2_with fail
  refine (HO.out _ ((Kp.refl _ _).al _)).mono ?_
  rintro e w1 ⟨rfl, hk1⟩
  obtain ⟨hc1, hz1⟩ := hk1.rd
  have e0 : w1.cell? ⟨w.heap.size, 0, none⟩ = some (.int .i64 0) := by simp [hc1, go_sem]
  have e1 : w1.cell? ⟨w.heap.size, 1, none⟩ = some (.int .i64 0) := by simp [hc1, go_sem]
  have e2 : w1.cell? ⟨w.heap.size, 2, none⟩ = some (.int .i64 0) := by simp [hc1, go_sem]
  have hs1 : w.heap.size < w1.heap.size := by have := hk1.size; simp at this; omega
  have hn1 : w.heap.size ≠ w1.heap.size := by omega
  have hn2 : w1.heap.size ≠ w.heap.size := by omega
  clear hc1
  have z0 : w1.frozen? ⟨w.heap.size, 0, none⟩ = false := by simp [hz1, go_sem]
  have z1 : w1.frozen? ⟨w.heap.size, 1, none⟩ = false := by simp [hz1, go_sem]
  have z2 : w1.frozen? ⟨w.heap.size, 2, none⟩ = false := by simp [hz1, go_sem]
  clear hz1
  have K1 : Kp No w (w1.alloc (.cells #[.int .i64 ((0 : Nat) : Int), .int .i64 ((0 : Nat) : Int), .int .i64 ((0 : Nat) : Int)] 29)) := (((Kp.refl No w).al _).trans' hk1).al _
  go_wp2_with fail
  obtain ⟨y0, y1, y2⟩ := three_al (u := .int .i64 0) (v := .int .i64 0) (x := .int .i64 0) e0 e1 e2 (.cells #[.int .i64 0, .int .i64 0, .int .i64 0] 29) hs1
  exact bodyPost_ret (v := .tuple #[plV 0 0 0, .slice none 0 0, .int .i64 (k0 : Int)]) (by simp [results, Try.results21, go_sem, y0, y1, y2]) rfl ⟨rfl, by have hk9 := ((Kp.refl No w).al _).trans' hk1; repeat (first | exact hk9 | refine Kp.fresh ?_ (by simp) _ | refine Kp.al ?_ _)⟩
set_option maxHeartbeats 1000000 in
theorem rspread_err {w : World} {n k a d q : Nat} (hD : Dim n k a d q) {pc : Int} {k0 m cp l c p : Nat} {A : Option Addr} (hO : OfR q (m : Int) pc l c p k0) (hk0 : k0 = 1 ∨ k0 = 29) (hm : m ≤ 1000000000) : Calls Try.prog 22 #[.int .i64 (n : Int), .int .i64 (k : Int), .int .i64 pc, .slice A m cp] w (SpErr w k0) := by
  have hz : l = 0 ∧ c = 0 ∧ p = 0 := by rcases hO.err with ⟨h, _⟩ | ⟨_, h⟩ <;> omega
  obtain ⟨rfl, rfl, rfl⟩ := hz
  have hne : ((k0 : Int) != 0) = true := by rcases hk0 with rfl | rfl <;> rfl
  have HO := hide (fun w' (hk : Kp No w w') => rof_any w' hD hO)
  clear hO hk0
  go_enter Try.func22, Try.ntmps22
  go_wp2_with fail
  refine (HO.out _ ((Kp.refl _ _).al _)).mono ?_
  rintro e w1 ⟨rfl, hk1⟩
  obtain ⟨hc1, hz1⟩ := hk1.rd
  have e0 : w1.cell? ⟨w.heap.size, 0, none⟩ = some (.int .i64 0) := by simp [hc1, go_sem]
  have e1 : w1.cell? ⟨w.heap.size, 1, none⟩ = some (.int .i64 0) := by simp [hc1, go_sem]
  have e2 : w1.cell? ⟨w.heap.size, 2, none⟩ = some (.int .i64 0) := by simp [hc1, go_sem]
  have hs1 : w.heap.size < w1.heap.size := by have := hk1.size; simp at this; omega
  have hn1 : w.heap.size ≠ w1.heap.size := by omega
  have hn2 : w1.heap.size ≠ w.heap.size := by omega
  clear hc1
  have z0 : w1.frozen? ⟨w.heap.size, 0, none⟩ = false := by simp [hz1, go_sem]
  have z1 : w1.frozen? ⟨w.heap.size, 1, none⟩ = false := by simp [hz1, go_sem]
  have z2 : w1.frozen? ⟨w.heap.size, 2, none⟩ = false := by simp [hz1, go_sem]
  clear hz1
  have K1 : Kp No w (w1.alloc (.cells #[.int .i64 ((0 : Nat) : Int), .int .i64 ((0 : Nat) : Int), .int .i64 ((0 : Nat) : Int)] 32)) := (((Kp.refl No w).al _).trans' hk1).al _
  go_wp2_with fail
  obtain ⟨y0, y1, y2⟩ := three_al (u := .int .i64 0) (v := .int .i64 0) (x := .int .i64 0) e0 e1 e2 (.cells #[.int .i64 0, .int .i64 0, .int .i64 0] 32) hs1
  exact bodyPost_ret (v := .tuple #[plV 0 0 0, .slice none 0 0, .int .i64 (k0 : Int)]) (by simp [results, Try.results22, go_sem, y0, y1, y2]) rfl ⟨rfl, by have hk9 := ((Kp.refl No w).al _).trans' hk1; repeat (first | exact hk9 | refine Kp.fresh ?_ (by simp) _ | refine Kp.al ?_ _)⟩
set_option maxHeartbeats 4000000 in
theorem spread_ok {w : World} {g n k a d q : Nat} {x : Nat → UInt8} (h : CodeAt w g n k x) (hD : Dim n k a d q) {pc : Int} {m cp c p f : Nat} {A : Option Addr} {bs : List UInt8} (hB : Bts w (.slice A m cp) bs) (hcap : m ≤ cp) (hO : OfR q (m : Int) pc m c p 0) (hf : f = q * p) (hsz : 1 ≤ c → f ≤ 1000) : Calls Try.prog 21 #[cptr g, .int .i64 pc, .slice A m cp] w (SpPost w m c p n (spF a d p f bs x)) := by
  have hP := hO.pln hD.q56.1
  have hl16 := hP.l16
  have hc32 := hP.c32
  have hp1 := hP.p1
  have hn2 := hD.n2
  have hn0 : 0 < n := by have := hD.n1; omega
  have HO := hide (fun w' (hk : Kp No w w') => of_any (h.no hk) hD hO)
  have HCUT := hide (fun w' (hk : Kp No w w') => cut_yes (h.no hk) hD (hB.no hk) hcap hP hf)
  have HE := hide (fun w' (hk : Kp No w w') A4 c4 bs4 (hb : Bts w' (.slice A4 f c4) bs4) (hf : f = q * p) (hm : f ≤ 1000) => enc_grd (h.no hk) hD hb hf hm hp1)
  have HF := hide hf
  have HSZ := hide hsz
  clear hO hP hf hsz
  go_enter Try.func21, Try.ntmps21
  go_wp2_with fail
  refine (HO.out _ ((Kp.refl _ _).al _)).mono ?_
  rintro e w1 ⟨rfl, hk1⟩
  obtain ⟨hc1, hz1⟩ := hk1.rd
  have e0 : w1.cell? ⟨w.heap.size, 0, none⟩ = some (.int .i64 0) := by simp [hc1, go_sem]
  have e1 : w1.cell? ⟨w.heap.size, 1, none⟩ = some (.int .i64 0) := by simp [hc1, go_sem]
  have e2 : w1.cell? ⟨w.heap.size, 2, none⟩ = some (.int .i64 0) := by simp [hc1, go_sem]
  have hs1 : w.heap.size < w1.heap.size := by have := hk1.size; simp at this; omega
  clear hc1
  have z0 : w1.frozen? ⟨w.heap.size, 0, none⟩ = false := by simp [hz1, go_sem]
  have z1 : w1.frozen? ⟨w.heap.size, 1, none⟩ = false := by simp [hz1, go_sem]
  have z2 : w1.frozen? ⟨w.heap.size, 2, none⟩ = false := by simp [hz1, go_sem]
  clear hz1
  have K1 : Kp No w (w1.alloc (.cells #[.int .i64 (m : Int), .int .i64 (c : Int), .int .i64 (p : Int)] 29)) := (((Kp.refl No w).al _).trans' hk1).al _
  have P1 := PC.new w1 (m : Int) (c : Int) (p : Int) 29
  have H0 : Hid (∀ w', Kp No w1 w' → w'.cell? ⟨w.heap.size, 0, none⟩ = some (.int .i64 0) ∧ w'.cell? ⟨w.heap.size, 1, none⟩ = some (.int .i64 0) ∧ w'.cell? ⟨w.heap.size, 2, none⟩ = some (.int .i64 0) ∧ w'.frozen? ⟨w.heap.size, 0, none⟩ = false ∧ w'.frozen? ⟨w.heap.size, 1, none⟩ = false ∧ w'.frozen? ⟨w.heap.size, 2, none⟩ = false) :=
    fun w' hk => ⟨hk.cell e0 fun f => f, hk.cell e1 fun f => f, hk.cell e2 fun f => f, hk.frz hs1 z0, hk.frz hs1 z1, hk.frz hs1 z2⟩
  clear e0 e1 e2 z0 z1 z2 hk1
  obtain ⟨b1, hb1⟩ : ∃ b1, b1 = w1.heap.size := ⟨_, rfl⟩
  have hn1 : w.heap.size ≠ b1 := by omega
  have hn3 : b1 ≠ w.heap.size := by omega
  have K0 := Kp.alloc No w1 (.cells #[.int .i64 (m : Int), .int .i64 (c : Int), .int .i64 (p : Int)] 29)
  go_wp2_with fail
  rw [← hb1] at P1 ⊢
  clear hb1 hs1
  generalize (w1.alloc (.cells #[.int .i64 (m : Int), .int .i64 (c : Int), .int .i64 (p : Int)] 29)) = w2 at *
  refine (HCUT.out _ K1).mono ?_
  rintro e w3 ⟨A3, c3, rfl, hR3, hk3⟩
  go_wp2_with fail
  have P3 := hide (fun w' (hk : Kp No w3 w') => P1.no (hk3.trans' hk))
  have H3 := hide (fun w' (hk : Kp No w3 w') => H0.out w' ((K0.trans' hk3).trans' hk))
  have K3 := K1.trans' hk3
  clear P1 H0 hk3 K1 K0
  go_loopw [13, 39] (fun v iv wr => ∃ (i : Nat) (A' : Option Addr) (r cc : Nat) (xs : List Value), i ≤ c ∧ iv = .int .i64 (i : Int) ∧ v = .slice A' r cc ∧ Hid (r = i) ∧ SpI w3 n (spF a d p f bs x) i (.slice A' r cc) xs wr) (fun _ iv _ => c - (intOf iv).toNat)
  case atStart => exact ⟨0, none, 0, 0, [], Nat.zero_le _, rfl, rfl, rfl, OwnT.nil _ _ _ _, (fun j hj => absurd hj (Nat.not_lt_zero _)), Kp.refl _ _⟩
  case round =>
    obtain ⟨i, A', r, cc, xs, hi, rfl, rfl, HRI, hI⟩ := hrel
    have hkr := hI.kp.size
    by_cases hlt : i < c
    · obtain ⟨B, off, A4, m4, c4, bs4, rfl, e4, hb4, hB4⟩ := (hR3.no hI.kp).get hlt
      rw [matL_get _ hlt] at hb4
      injection hb4 with hb4
      subst hb4
      obtain rfl : m4 = f := by rw [hB4.len, rowL_len]
      have hm4 : m4 ≤ 1000 := HSZ.out (by omega)
      go_wp2_with fail
      refine (HE.out _ (K3.trans' hI.kp) _ _ _ hB4 HF.out hm4).mono ?_
      rintro e w5 ⟨g5, c5, hv5, rfl, hG5, hk5⟩
      have hk5s := hk5.size
      have ho2 : OwnT (w5.alloc (.cells #[.slice (some ⟨g5, 0, none⟩) n c5] 39)) w3.heap.size 39 1 (.slice A' r cc) i xs := (hI.own.no hk5).no (Kp.alloc No _ _)
      go_wp2_with (first
        | (at_builtin
           refine wpList_appT ty_rws rfl (.tmp 49) (.tmp 51) _ rfl Try.underlying49 rfl ho2 _ _ rfl (nws_one (fresh_cell _ _ _) rfl) (by omega) ?hs ?_
           case hs => simp; omega
           intro A6 n6 c6 w6 hn6 ha
           have HN6 := hide hn6
           clear hn6
           have hI6 := hI.step hk5 hG5 (by omega) ha))
      go_round
      case rel => exact ⟨i + 1, A6, n6, c6, _, by omega, by go_num, rfl, HN6.out, hI6⟩
      case measure => simp [intOf]; omega
    · obtain rfl : c = i := by omega
      clear hi hlt
      obtain rfl : r = c := HRI.out
      obtain ⟨q0, q1, q2⟩ := P3.out wr hI.kp
      obtain ⟨e0, e1, e2, z0, z1, z2⟩ := H3.out wr hI.kp
      have hw3 : w.heap.size < w3.heap.size := World.block_lt_of_cell? w3 ⟨w.heap.size, 0, none⟩ (H3.out w3 (Kp.refl _ _)).1
      go_wp2_with fail
      exact bodyPost_ret (v := .tuple #[plV (m : Int) (r : Int) (p : Int), .slice A' r cc, .int .i64 0]) (by simp [results, Try.results21, go_sem, e0, e1, e2, q0, q1, q2, z0, z1, z2, hn1, hn3]) rfl ⟨A', cc, rfl, hI.rw3k kp_three fun k hk => by rw [hk]; exact hw3, by have hk9 := K3.trans' hI.kp; repeat (first | exact hk9 | refine Kp.fresh ?_ (by simp) _ | refine Kp.al ?_ _)⟩
set_option maxHeartbeats 4000000 in
theorem rspread_ok {w : World} {n k a d q : Nat} {x : Nat → UInt8} (hD : Dim n k a d q) (hX : Pts n a x) {pc : Int} {m cp c p f : Nat} {A : Option Addr} {bs : List UInt8} (hB : Bts w (.slice A m cp) bs) (hcap : m ≤ cp) (hO : OfR q (m : Int) pc m c p 0) (hf : f = q * p) (hsz : 1 ≤ c → f ≤ 1000) : Calls Try.prog 22 #[.int .i64 (n : Int), .int .i64 (k : Int), .int .i64 pc, .slice A m cp] w (SpPost w m c p n (spF a d p f bs x)) := by
  have hP := hO.pln hD.q56.1
  have hl16 := hP.l16
  have hc32 := hP.c32
  have hp1 := hP.p1
  have hn2 := hD.n2
  have hn0 : 0 < n := by have := hD.n1; omega
  have HO := hide (fun w' (hk : Kp No w w') => rof_any w' hD hO)
  have HCUT := hide (fun w' (hk : Kp No w w') => rcut_any hD (hB.no hk) hP hf)
  have HE := hide (fun w' (hk : Kp No w w') A4 c4 bs4 (hb : Bts w' (.slice A4 f c4) bs4) (hf : f = q * p) (hm : f ≤ 1000) => renc_grd hD hX hb hf hm hp1)
  have HF := hide hf
  have HSZ := hide hsz
  clear hO hP hf hsz
  go_enter Try.func22, Try.ntmps22
  go_wp2_with fail
  refine (HO.out _ ((Kp.refl _ _).al _)).mono ?_
  rintro e w1 ⟨rfl, hk1⟩
  obtain ⟨hc1, hz1⟩ := hk1.rd
  have e0 : w1.cell? ⟨w.heap.size, 0, none⟩ = some (.int .i64 0) := by simp [hc1, go_sem]
  have e1 : w1.cell? ⟨w.heap.size, 1, none⟩ = some (.int .i64 0) := by simp [hc1, go_sem]
  have e2 : w1.cell? ⟨w.heap.size, 2, none⟩ = some (.int .i64 0) := by simp [hc1, go_sem]
  have hs1 : w.heap.size < w1.heap.size := by have := hk1.size; simp at this; omega
  clear hc1
  have z0 : w1.frozen? ⟨w.heap.size, 0, none⟩ = false := by simp [hz1, go_sem]
  have z1 : w1.frozen? ⟨w.heap.size, 1, none⟩ = false := by simp [hz1, go_sem]
  have z2 : w1.frozen? ⟨w.heap.size, 2, none⟩ = false := by simp [hz1, go_sem]
  clear hz1
  have K1 : Kp No w (w1.alloc (.cells #[.int .i64 (m : Int), .int .i64 (c : Int), .int .i64 (p : Int)] 32)) := (((Kp.refl No w).al _).trans' hk1).al _
  have P1 := PC.new w1 (m : Int) (c : Int) (p : Int) 32
  have H0 : Hid (∀ w', Kp No w1 w' → w'.cell? ⟨w.heap.size, 0, none⟩ = some (.int .i64 0) ∧ w'.cell? ⟨w.heap.size, 1, none⟩ = some (.int .i64 0) ∧ w'.cell? ⟨w.heap.size, 2, none⟩ = some (.int .i64 0) ∧ w'.frozen? ⟨w.heap.size, 0, none⟩ = false ∧ w'.frozen? ⟨w.heap.size, 1, none⟩ = false ∧ w'.frozen? ⟨w.heap.size, 2, none⟩ = false) :=
    fun w' hk => ⟨hk.cell e0 fun f => f, hk.cell e1 fun f => f, hk.cell e2 fun f => f, hk.frz hs1 z0, hk.frz hs1 z1, hk.frz hs1 z2⟩
  clear e0 e1 e2 z0 z1 z2 hk1
  obtain ⟨b1, hb1⟩ : ∃ b1, b1 = w1.heap.size := ⟨_, rfl⟩
  have hn1 : w.heap.size ≠ b1 := by omega
  have hn3 : b1 ≠ w.heap.size := by omega
  have K0 := Kp.alloc No w1 (.cells #[.int .i64 (m : Int), .int .i64 (c : Int), .int .i64 (p : Int)] 32)
  go_wp2_with fail
  rw [← hb1] at P1 ⊢
  clear hb1 hs1
  generalize (w1.alloc (.cells #[.int .i64 (m : Int), .int .i64 (c : Int), .int .i64 (p : Int)] 32)) = w2 at *
  refine (HCUT.out _ K1).mono ?_
  rintro e w3 ⟨A3, c3, rfl, hR3, hk3⟩
  go_wp2_with fail
  have P3 := hide (fun w' (hk : Kp No w3 w') => P1.no (hk3.trans' hk))
  have H3 := hide (fun w' (hk : Kp No w3 w') => H0.out w' ((K0.trans' hk3).trans' hk))
  have K3 := K1.trans' hk3
  clear P1 H0 hk3 K1 K0
  go_loopw [14, 15] (fun v iv wr => ∃ (i : Nat) (A' : Option Addr) (r cc : Nat) (xs : List Value), i ≤ c ∧ iv = .int .i64 (i : Int) ∧ v = .slice A' r cc ∧ Hid (r = i) ∧ SpI w3 n (spF a d p f bs x) i (.slice A' r cc) xs wr) (fun _ iv _ => c - (intOf iv).toNat)
  case atStart => exact ⟨0, none, 0, 0, [], Nat.zero_le _, rfl, rfl, rfl, OwnT.nil _ _ _ _, (fun j hj => absurd hj (Nat.not_lt_zero _)), Kp.refl _ _⟩
  case round =>
    obtain ⟨i, A', r, cc, xs, hi, rfl, rfl, HRI, hI⟩ := hrel
    have hkr := hI.kp.size
    by_cases hlt : i < c
    · obtain ⟨B, off, A4, m4, c4, bs4, rfl, e4, hb4, hB4⟩ := (hR3.no hI.kp).get hlt
      rw [matL_get _ hlt] at hb4
      injection hb4 with hb4
      subst hb4
      obtain rfl : m4 = f := by rw [hB4.len, rowL_len]
      have hm4 : m4 ≤ 1000 := HSZ.out (by omega)
      go_wp2_with fail
      refine (HE.out _ (K3.trans' hI.kp) _ _ _ hB4 HF.out hm4).mono ?_
      rintro e w5 ⟨A5, c5, vs5, w0, rfl, hI5, hw0, hk5⟩
      obtain ⟨g5, hv5, rfl, hG5⟩ := hI5.grd hn0
      clear hI5
      have hk5s := hk5.size
      have ho2 : OwnT (w5.alloc (.cells #[.slice (some ⟨g5, 0, none⟩) n c5] 39)) w3.heap.size 39 1 (.slice A' r cc) i xs := (hI.own.no hk5).no (Kp.alloc No _ _)
      go_wp2_with (first
        | (at_builtin
           refine wpList_appT ty_rws rfl (.tmp 50) (.tmp 52) _ rfl Try.underlying49 rfl ho2 _ _ rfl (nws_one (fresh_cell _ _ _) rfl) (by omega) ?hs ?_
           case hs => simp; omega
           intro A6 n6 c6 w6 hn6 ha
           have HN6 := hide hn6
           clear hn6
           have hI6 := hI.step hk5 hG5 (by omega) ha))
      go_round
      case rel => exact ⟨i + 1, A6, n6, c6, _, by omega, by go_num, rfl, HN6.out, hI6⟩
      case measure => simp [intOf]; omega
    · obtain rfl : c = i := by omega
      clear hi hlt
      obtain rfl : r = c := HRI.out
      obtain ⟨q0, q1, q2⟩ := P3.out wr hI.kp
      obtain ⟨e0, e1, e2, z0, z1, z2⟩ := H3.out wr hI.kp
      have hw3 : w.heap.size < w3.heap.size := World.block_lt_of_cell? w3 ⟨w.heap.size, 0, none⟩ (H3.out w3 (Kp.refl _ _)).1
      go_wp2_with fail
      exact bodyPost_ret (v := .tuple #[plV (m : Int) (r : Int) (p : Int), .slice A' r cc, .int .i64 0]) (by simp [results, Try.results22, go_sem, e0, e1, e2, q0, q1, q2, z0, z1, z2, hn1, hn3]) rfl ⟨A', cc, rfl, hI.rw3k kp_three fun k hk => by rw [hk]; exact hw3, by have hk9 := K3.trans' hI.kp; repeat (first | exact hk9 | refine Kp.fresh ?_ (by simp) _ | refine Kp.al ?_ _)⟩
end Go.Proofs.Ytcdmljlangbloaa
