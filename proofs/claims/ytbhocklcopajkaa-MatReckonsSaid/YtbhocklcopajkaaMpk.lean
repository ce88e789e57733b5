/- Package mat's Pick, as a contract over memory; whole numbers in a slice. -/
import Derived.Test.YtbhocklcopajkaaMw
namespace Go.Proofs.Ytbhocklcopajkaa
open Go.RowKit
set_option linter.unusedVariables false

/-- The slice at A of n numbers reads as zs. -/
structure Ints (w : World) (A : Option Addr) (n : Nat) (zs : List Int) : Prop where
  len : n = zs.length
  at_ : ∀ (j : Nat) z, zs[j]? = some z → ∃ B off, A = some ⟨B, off, none⟩ ∧ w.cell? ⟨B, off + j, none⟩ = some (.int .i64 z)
theorem Ints.no {w w1 : World} {A : Option Addr} {n : Nat} {zs : List Int} (h : Ints w A n zs) (hk : Kp No w w1) : Ints w1 A n zs := by
  refine ⟨h.len, fun j z hj => ?_⟩
  obtain ⟨B, off, h1, h2⟩ := h.at_ j z hj
  exact ⟨B, off, h1, hk.cell h2 (fun f => f)⟩
theorem Ints.get {w : World} {A : Option Addr} {n : Nat} {zs : List Int} (h : Ints w A n zs) {j : Nat} (hj : j < n) : ∃ B off z, A = some ⟨B, off, none⟩ ∧ zs[j]? = some z ∧ w.cell? ⟨B, off + j, none⟩ = some (.int .i64 z) := by
  have hl := h.len
  obtain ⟨B, off, h1, h2⟩ := h.at_ j _ (List.getElem?_eq_getElem (by omega))
  exact ⟨B, off, _, h1, List.getElem?_eq_getElem (by omega), h2⟩

/-- The rows with these numbers. -/
def pickL (c : Nat) (f : Nat → Nat → UInt8) (zs : List Int) : List (List UInt8) := zs.map fun z => rowL c (f z.toNat)
theorem pickL_len (c : Nat) (f : Nat → Nat → UInt8) (zs : List Int) : (pickL c f zs).length = zs.length := by simp [pickL]
theorem pickL_get {c : Nat} {f : Nat → Nat → UInt8} {zs : List Int} {j : Nat} {z : Int} (h : zs[j]? = some z) : (pickL c f zs)[j]? = some (rowL c (f z.toNat)) := by simp [pickL, h]
theorem pickL_row {c : Nat} {f : Nat → Nat → UInt8} {zs : List Int} {j : Nat} {bs : List UInt8} (h : (pickL c f zs)[j]? = some bs) : bs.length = c := by
  unfold pickL at h
  rw [List.getElem?_map, Option.map_eq_some_iff] at h
  obtain ⟨z, _, rfl⟩ := h
  exact rowL_len _ _
theorem pickL_rect {c : Nat} {f : Nat → Nat → UInt8} {zs : List Int} (h1 : 1 ≤ zs.length) (h2 : zs.length ≤ 64) (c1 : 1 ≤ c) (c2 : c ≤ 64) : Rect (pickL c f zs) zs.length c :=
  ⟨pickL_len _ _ _, fun j bs hj => pickL_row hj, h1, h2, c1, c2⟩

/-- So many rows are picked. -/
structure PInv (w : World) (c : Nat) (f : Nat → Nat → UInt8) (zs : List Int) (k : Nat) (v : Value) (vs : List Value) (wr : World) : Prop where
  own : OwnV wr w.heap.size v vs
  len : vs.length = k
  row : ∀ (j : Nat) u, vs[j]? = some u → ∃ z, zs[j]? = some z ∧ Bts w u (rowL c (f z.toNat))
  kp : Kp No w wr
theorem PInv.step {w wr w3 : World} {c : Nat} {f : Nat → Nat → UInt8} {zs : List Int} {k : Nat} {v v1 u : Value} {vs : List Value} {o : Obj} {z : Int} (h : PInv w c f zs k v vs wr) (hz : zs[k]? = some z) (hu : Bts w u (rowL c (f z.toNat)))
    (ha : AppV (wr.alloc o) w.heap.size v vs u v1 w3) : PInv w c f zs (k + 1) v1 (vs ++ [u]) w3 := by
  have ho : OwnV (wr.alloc o) w.heap.size v vs := h.own.no (Kp.alloc No _ _)
  refine ⟨ha.own, by simp [h.len], fun j x hj => ?_, ha.keeps ho (h.kp.trans' (Kp.alloc No _ _))⟩
  rcases Nat.lt_or_ge j vs.length with g | g
  · rw [List.getElem?_append_left g] at hj
    exact h.row j x hj
  · rw [List.getElem?_append_right g] at hj
    have hj0 : j - vs.length = 0 := by
      have := (List.getElem?_eq_some_iff.1 hj).1
      simp at this
      omega
    rw [hj0] at hj
    simp at hj
    subst hj
    have e : j = k := by have := h.len; omega
    subst e
    exact ⟨z, hz, hu⟩
theorem PInv.sm {w wr w2 : World} {c : Nat} {f : Nat → Nat → UInt8} {zs : List Int} {k : Nat} {v : Value} {vs : List Value} (h : PInv w c f zs k v vs wr) (hs : Kp No wr w2) : PInv w c f zs k v vs w2 :=
  ⟨h.own.no hs, h.len, h.row, h.kp.trans' hs⟩
theorem PInv.rws {w wr : World} {c : Nat} {f : Nat → Nat → UInt8} {zs : List Int} {k : Nat} {A : Option Addr} {n cp : Nat} {vs : List Value} (h : PInv w c f zs k (.slice A n cp) vs wr) (hk : k = zs.length) : Rws wr A k (pickL c f zs) := by
  have hn := h.own.len
  rw [h.len] at hn
  subst hn
  refine h.own.rws (by rw [h.len, pickL_len]; exact hk) fun j u bs hj hbs => ?_
  obtain ⟨z, hz, hb⟩ := h.row j u hj
  rw [pickL_get hz] at hbs
  injection hbs with hbs
  subst hbs
  exact hb.no h.kp

section
variable {w : World} {m : MB} {r c n cp : Nat} {f : Nat → Nat → UInt8} {A : Option Addr} {zs : List Int}

set_option maxHeartbeats 2000000 in
theorem pick_bad (h : MatAt w m r c f) (hz : Ints w A n zs) (hn : n ≤ 1000) (q : Nat) (zq : Int) (hq : zs[q]? = some zq) (hbad : zq < 0 ∨ (r : Int) ≤ zq) :
    Calls Try.prog 24 #[m.ptr, .slice A n cp] w (ArgPost w) := by
  have hqn : q < n := by rw [hz.len]; exact (List.getElem?_eq_some_iff.1 hq).1
  have hc1 := h.c1
  have HQ := hide hq
  clear hq
  go_enter Try.func24, Try.ntmps24
  go_wp2_with fail
  go_loopw [6, 12] (fun v i wr => ∃ (k : Nat) (A' : Option Addr) (n' cp' : Nat) (vs : List Value), k ≤ q ∧ i = .int .i64 (k : Int) ∧ v = .slice A' n' cp' ∧ PInv w c f zs k (.slice A' n' cp') vs wr) (fun _ i _ => n - (intOf i).toNat)
  case atStart => exact ⟨0, none, 0, 0, [], Nat.zero_le _, rfl, rfl, OwnV.nil _ _, rfl, (fun j u hj => by simp at hj), Kp.refl _ _⟩
  case round =>
    obtain ⟨k, A', n', cp', vs, hk, rfl, rfl, hI⟩ := hrel
    have hlt : k < n := by omega
    obtain ⟨B, off, z, rfl, hzk, hc⟩ := (hz.no hI.kp).get hlt
    by_cases hin : 0 ≤ z ∧ z < r
    · have hkq : k < q := by
        rcases Nat.lt_or_ge k q with g | g
        · exact g
        · obtain rfl : k = q := by omega
          have := HQ.out
          rw [hzk] at this
          injection this with this
          subst this
          omega
      obtain ⟨j, rfl⟩ : ∃ j : Nat, z = j := ⟨z.toNat, by omega⟩
      have hj : j < r := by omega
      have HZ := hide hzk
      clear hzk hin
      go_wp2_with fail
      refine (row_any (h.no hI.kp) j hj).mono ?_
      rintro e w2 ⟨o, cp2, rfl, ho, hcp2, hs2⟩
      have hb := h.bts hj ho cp2
      have hI2 := hI.sm hs2.kp
      clear ho
      have hlen : vs.length ≤ 1000000 := by rw [hI.len]; omega
      have hsz := hI2.kp.size
      have hc0 : ((c : Int) == 0) = false := by simp; omega
      have ho2 : OwnV (w2.alloc (.cells #[.slice (some ⟨m.b, o, none⟩) c cp2] 34)) w.heap.size (.slice A' n' cp') vs := hI2.own.no (Kp.alloc No _ _)
      go_wp2_with (first
        | (at_builtin
           refine wpList_appV rfl (.tmp 22) (.tmp 24) _ rfl Try.underlying22 rfl ho2 _ rfl (fresh_cell _ _ _) rfl rfl hlen ?hs ?_
           case hs => simp; omega
           intro A3 n3 c3 w3 ha))
      go_round
      case rel => exact ⟨k + 1, A3, n3, c3, _, by omega, by go_num, rfl, hI2.step HZ.out (by simpa using hb) ha⟩
      case measure => simp [intOf]; omega
    · have hout : z < 0 ∨ (r : Int) ≤ z := by omega
      clear hzk hin
      go_wp2_with fail
      refine (row_out (h.no hI.kp) z hout).mono ?_
      rintro e w2 ⟨rfl, hs2⟩
      go_wp2_with fail
      go_ret2
      exact ⟨rfl, hI.kp.trans' hs2.kp⟩

theorem pick_nil (w : World) (B : Nat) (z : Int) (hc : w.cell? ⟨B, 0, none⟩ = some (.int .i64 z)) : Calls Try.prog 24 #[.pointer none, .slice (some ⟨B, 0, none⟩) 1 1] w (ArgPost w) := by
  go_enter Try.func24, Try.ntmps24
  go_wp2_with fail
  go_loopw [6, 12] (fun v i wr => ∃ k : Nat, k = 0 ∧ i = .int .i64 (k : Int) ∧ wr = w) (fun _ i _ => 1 - (intOf i).toNat)
  case atStart => exact ⟨0, rfl, rfl, rfl⟩
  case round =>
    obtain ⟨k, rfl, rfl, rfl⟩ := hrel
    go_wp2_with fail
    refine (row_nil wr z).mono ?_
    rintro e w2 ⟨rfl, hs2⟩
    go_wp2_with fail
    go_ret2
    exact ⟨rfl, hs2.kp⟩

theorem NewPost.of_kp {w w1 w2 : World} {r c : Nat} {f : Nat → Nat → UInt8} {e : Ending} (hk : Kp No w w1) (h : NewPost w1 r c f e w2) : NewPost w r c f e w2 := by
  obtain ⟨m, rfl, hM, hg, hb, hk2⟩ := h
  have := hk.size
  exact ⟨m, rfl, hM, by omega, by omega, hk.trans' hk2⟩
theorem ArgPost.of_kp {w w1 w2 : World} {e : Ending} (hk : Kp No w w1) (h : ArgPost w1 e w2) : ArgPost w e w2 := ⟨h.1, hk.trans' h.2⟩

/-- A pair comes back. -/
def PairPost (P : Value → Value → World → Prop) (e : Ending) (w1 : World) : Prop := ∃ a b, e = .returned (.tuple #[a, b]) ∧ P a b w1

set_option maxHeartbeats 2000000 in
theorem pick_all (h : MatAt w m r c f) (hz : Ints w A n zs) (hn : n ≤ 1000) (hin : ∀ (j : Nat) z, zs[j]? = some z → 0 ≤ z ∧ z < r) (P : Value → Value → World → Prop)
    (hP : ∀ wr A' cp', Rws wr A' n (pickL c f zs) → Kp No w wr → Calls Try.prog 8 #[.slice A' n cp'] wr (PairPost P)) :
    Calls Try.prog 24 #[m.ptr, .slice A n cp] w (PairPost P) := by
  have hc1 := h.c1
  have HI := hide hin
  have HP := hide hP
  have HL := hide hz.len
  clear hin hP
  go_enter Try.func24, Try.ntmps24
  go_wp2_with fail
  go_loopw [6, 12] (fun v i wr => ∃ (k : Nat) (A' : Option Addr) (n' cp' : Nat) (vs : List Value), k ≤ n ∧ i = .int .i64 (k : Int) ∧ v = .slice A' n' cp' ∧ PInv w c f zs k (.slice A' n' cp') vs wr) (fun _ i _ => n - (intOf i).toNat)
  case atStart => exact ⟨0, none, 0, 0, [], Nat.zero_le _, rfl, rfl, OwnV.nil _ _, rfl, (fun j u hj => by simp at hj), Kp.refl _ _⟩
  case round =>
    obtain ⟨k, A', n', cp', vs, hk, rfl, rfl, hI⟩ := hrel
    by_cases hlt : k < n
    · obtain ⟨B, off, z, rfl, hzk, hc⟩ := (hz.no hI.kp).get hlt
      have hin := HI.out k z hzk
      obtain ⟨j, rfl⟩ : ∃ j : Nat, z = j := ⟨z.toNat, by omega⟩
      have hj : j < r := by omega
      have HZ := hide hzk
      clear hzk hin
      go_wp2_with fail
      refine (row_any (h.no hI.kp) j hj).mono ?_
      rintro e w2 ⟨o, cp2, rfl, ho, hcp2, hs2⟩
      have hb := h.bts hj ho cp2
      have hI2 := hI.sm hs2.kp
      clear ho
      have hlen : vs.length ≤ 1000000 := by rw [hI.len]; omega
      have hsz := hI2.kp.size
      have hc0 : ((c : Int) == 0) = false := by simp; omega
      have ho2 : OwnV (w2.alloc (.cells #[.slice (some ⟨m.b, o, none⟩) c cp2] 34)) w.heap.size (.slice A' n' cp') vs := hI2.own.no (Kp.alloc No _ _)
      go_wp2_with (first
        | (at_builtin
           refine wpList_appV rfl (.tmp 22) (.tmp 24) _ rfl Try.underlying22 rfl ho2 _ rfl (fresh_cell _ _ _) rfl rfl hlen ?hs ?_
           case hs => simp; omega
           intro A3 n3 c3 w3 ha))
      go_round
      case rel => exact ⟨k + 1, A3, n3, c3, _, by omega, by go_num, rfl, hI2.step HZ.out (by simpa using hb) ha⟩
      case measure => simp [intOf]; omega
    · have hkn : k = n := by omega
      subst hkn
      have hn' : n' = k := by rw [hI.own.len, hI.len]
      subst hn'
      have hR := hI.rws HL.out
      go_wp2_with fail
      refine (HP.out wr A' cp' hR hI.kp).mono ?_
      rintro e w2 ⟨a, b, rfl, hp⟩
      go_wp2_with fail
      go_ret2
      exact ⟨a, b, rfl, hp⟩

theorem pick_yes (h : MatAt w m r c f) (hz : Ints w A n zs) (hin : ∀ (j : Nat) z, zs[j]? = some z → 0 ≤ z ∧ z < r) (h1 : 1 ≤ n) (h2 : n ≤ 64) :
    Calls Try.prog 24 #[m.ptr, .slice A n cp] w (NewPost w n c (fnL (pickL c f zs))) := by
  have hl := hz.len
  refine (pick_all h hz (by omega) hin (fun a b w1 => NewPost w n c (fnL (pickL c f zs)) (.returned (.tuple #[a, b])) w1) fun wr A' cp' hR hk => ?_).mono ?_
  · refine (of_yes hR (c := c) (by rw [hl]; exact pickL_rect (by omega) (by omega) h.c1 h.c2)).mono ?_
    rintro e w2 hp
    obtain ⟨m2, rfl, hp2⟩ := hp
    exact ⟨_, _, rfl, NewPost.of_kp hk ⟨m2, rfl, hp2⟩⟩
  · rintro e w2 ⟨a, b, rfl, hp⟩
    exact hp
theorem pick_size (h : MatAt w m r c f) (hz : Ints w A n zs) (hn : n ≤ 1000) (hin : ∀ (j : Nat) z, zs[j]? = some z → 0 ≤ z ∧ z < r) (hbad : ¬ (1 ≤ n ∧ n ≤ 64)) :
    Calls Try.prog 24 #[m.ptr, .slice A n cp] w (ArgPost w) := by
  have hl := hz.len
  refine (pick_all h hz hn hin (fun a b w1 => ArgPost w (.returned (.tuple #[a, b])) w1) fun wr A' cp' hR hk => ?_).mono ?_
  · refine (of_no hR (fun hr => hbad ⟨hr.r1, hr.r2⟩)).mono ?_
    rintro e w2 hp
    obtain ⟨rfl, hp2⟩ := hp
    exact ⟨_, _, rfl, rfl, hk.trans' hp2⟩
  · rintro e w2 ⟨a, b, rfl, hp⟩
    exact hp
end
end Go.Proofs.Ytbhocklcopajkaa
