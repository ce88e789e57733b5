/- What a law of layer 19 knows of its queue; UrgentOrders walked: it returns true for any jobs. No condition. -/
import Derived.Test.YtjbnbbblafmldaaUaax
import Derived.Deep.DeepCutAuto
import Derived.Deep.CutBlock
namespace Go.Proofs.Ytjbnbbblafmldaa
open Go.RowKit
set_option linter.unusedVariables false
set_option linter.unusedSimpArgs false
set_option maxRecDepth 20000

/-- The law's queue at g: the jobs r; what is its own is younger than W, and none of X. -/
structure QxS (W : World) (g : Nat) (X : Nat → Prop) (r : List Nat) (wr : World) : Prop where
  ex : ∃ F, QuAt wr F g r ∧ ∀ k, F k → W.heap.size ≤ k ∧ k < wr.heap.size ∧ ¬ X k
  kp : Kp No W wr
  xl : ∀ k, X k → k < wr.heap.size
/-- The law's young blocks but those of X. -/
def Fre (W : World) (X : Nat → Prop) (k : Nat) : Prop := W.heap.size ≤ k ∧ ¬ X k
section
variable {W wr w1 : World} {g b : Nat} {X : Nat → Prop} {r r' : List Nat} {v : Value}
theorem QxS.no (h : QxS W g X r wr) (hk : Kp No wr w1) : QxS W g X r w1 := by
  obtain ⟨F, hq, hF⟩ := h.ex
  exact ⟨⟨F, hq.no hk, fun k hk' => ⟨(hF k hk').1, Nat.lt_of_lt_of_le (hF k hk').2.1 hk.size, (hF k hk').2.2⟩⟩, h.kp.trans' hk, fun k hx => Nat.lt_of_lt_of_le (h.xl k hx) hk.size⟩
theorem QxS.new (h : QuAt w1 (fun k => wr.heap.size ≤ k) g r) (hW : Kp No W wr) (hk : Kp No wr w1) (hX : ∀ k, X k → k < wr.heap.size) : QxS W g X r w1 :=
  ⟨⟨_, h.lt, fun k hk' => ⟨Nat.le_trans hW.size hk'.1, hk'.2, fun e => by have := hX k e; have := hk'.1; omega⟩⟩, hW.trans' hk, fun k hx => Nat.lt_of_lt_of_le (hX k hx) hk.size⟩
/-- What a call on the law's queue comes to. -/
def QxPost (W : World) (g : Nat) (X : Nat → Prop) (wr : World) (r : List Nat) (v : Value) (e : Ending) (w1 : World) : Prop := e = .returned v ∧ QxS W g X r w1 ∧ Kp (Fre W X) wr w1
theorem QxS.run (h : QxS W g X r wr) {f : Nat} {args : Array Value} (hc : ∀ F, QuAt wr F g r → Calls Try.prog f args wr (UqPost wr F g r' v)) : Calls Try.prog f args wr (QxPost W g X wr r' v) := by
  obtain ⟨F, hq, hF⟩ := h.ex
  refine (hc F hq).mono fun e w1 hp => ⟨hp.1, ⟨⟨_, hp.2.1.lt, fun k hk => ?_⟩, h.kp.trans (hp.2.2.mono fun k hk => .inr (hF k hk).1), fun k hx => Nat.lt_of_lt_of_le (h.xl k hx) hp.2.2.size⟩, hp.2.2.mono fun k hk => ⟨(hF k hk).1, (hF k hk).2.2⟩⟩
  rcases hk.1 with hk' | hk'
  · exact ⟨(hF k hk').1, hk.2, (hF k hk').2.2⟩
  · exact ⟨Nat.le_trans h.kp.size hk', hk.2, fun e => by have := h.xl k e; omega⟩
end
/-- The jobs that are put, one behind the other. -/
def insAll (l : List Nat) : List Nat := l.foldl rPut []
theorem insAll_snoc (l : List Nat) (x : Nat) : insAll (l ++ [x]) = rPut (insAll l) x := by unfold insAll; rw [List.foldl_append]; rfl
theorem fold_len : ∀ (l acc : List Nat), (l.foldl rPut acc).length ≤ acc.length + l.length
  | [], acc => Nat.le_refl _
  | x :: l, acc => by
    rw [List.foldl_cons, List.length_cons]
    have h1 := fold_len l (rPut acc x)
    have h2 := rPut_len_le (r := acc) (j := x)
    omega
theorem insAll_len (l : List Nat) : (insAll l).length ≤ l.length := by have := fold_len l []; simpa [insAll] using this
theorem insAll_take {l : List Nat} {i x : Nat} (hx : l[i]? = some x) : insAll (l.take (i + 1)) = rPut (insAll (l.take i)) x := by
  rw [List.take_add_one, hx]
  exact insAll_snoc _ x
set_option maxHeartbeats 4000000 in
theorem urgentorders_walk {W : World} {A : Option Addr} {n c : Nat} {l : List Nat} (hr : RdJ W A n l) (hl : ∀ x ∈ l, x < NJ) (hbig : n ≤ 9223372036854775807) :
    Calls Try.prog 4 #[.slice A n c] W (TruePost W) := by
  have HR := hide hr
  have HLT := hide hl
  have hn := hr.len
  have HN := hide hn
  clear hr hl hn
  go_enter Try.func4, Try.ntmps4
  go_wp2_with fail
  refine (awake19_any _).mono ?_
  rintro e w0 ⟨rfl, k0⟩
  have HK0 := hide k0
  clear k0
  go_wp2_with fail
  refine (unew_any _).mono ?_
  rintro e w1 ⟨g, rfl, h1, k1⟩
  have HI : Hid (QxS W g (fun _ => False) (insAll (l.take 0)) w1) := QxS.new (X := fun _ => False) h1 HK0.out k1 (fun _ f => f.elim)
  clear h1 k1 HK0
  go_upto_block 0 with fail
  go_cut [4] (fun v wx => ∃ k, k ≤ 60 ∧ k ≤ n ∧ QxS W g (fun _ => False) (insAll (l.take k)) wx)
  case first =>
    go_wp2_with fail
    go_loopw [4] (fun u wr => ∃ i : Nat, i ≤ n ∧ i ≤ 60 ∧ u = .int .i64 (i : Int) ∧ QxS W g (fun _ => False) (insAll (l.take i)) wr) (fun u _ => 60 - (intOf u).toNat)
    case atStart => exact ⟨0, Nat.zero_le _, by omega, rfl, HI.out⟩
    case round =>
      clear HI
      obtain ⟨i, hi, hi6, rfl, hI⟩ := hrel
      have HI := hide hI
      clear hI
      by_cases hin : i < n
      · by_cases h60 : i < 60
        · obtain ⟨x, hx⟩ : ∃ x, l[i]? = some x := ⟨_, List.getElem?_eq_getElem (by rw [← HN.out]; exact hin)⟩
          obtain ⟨B, off, rfl, y0, y1, y2⟩ := (HR.out.no HI.out.kp).at_ i x hx
          have hxl : x < NJ := HLT.out x (List.mem_of_getElem? hx)
          have HX := hide hx
          have HXL := hide hxl
          have HT := hide (fun w' => jto_any w' x)
          have hz : (i : Int) < n := by omega
          clear hx hxl
          go_wp2_with fail
          refine (HT.out _).mono ?_
          rintro e w2 ⟨rfl, k2⟩
          have HI2 := hide (HI.out.no k2)
          have hlen : (insAll (l.take i)).length ≤ 900000 := Nat.le_trans (insAll_len _) (by rw [List.length_take]; omega)
          have HP := hide (HI2.out.run (v := .tuple #[]) (fun F hq => uput_any hq HXL.out hlen))
          clear k2 hlen HI HT y0 y1 y2
          go_wp2_with fail
          refine HP.out.mono ?_
          rintro e w3 ⟨rfl, h3, -⟩
          have H3 := hide h3
          clear h3 HP HI2
          go_wp2_with fail
          go_round
          case rel => exact ⟨i + 1, by omega, by omega, by go_num, by rw [insAll_take HX.out]; exact H3.out⟩
          case measure => simp [intOf]; omega
        · obtain rfl : i = 60 := by omega
          go_wp2_with fail
          go_meet
          exact ⟨60, by omega, hi, HI.out⟩
      · have hz : ¬ (i : Int) < n := by omega
        go_wp2_with fail
        go_meet
        exact ⟨i, hi6, hi, HI.out⟩
  case rest =>
    obtain ⟨k, hk6, hkn, hI⟩ := hcut
    rename World => w2
    obtain ⟨r, hr⟩ : ∃ r, r = insAll (l.take k) := ⟨_, rfl⟩
    have hrl : r.length ≤ 60 := by rw [hr]; exact Nat.le_trans (insAll_len _) (by rw [List.length_take]; omega)
    rw [← hr] at hI
    have HRL := hide hrl
    have HI := hide hI
    obtain ⟨F, hq, hF⟩ := hI.ex
    have HA := hide (uall_any hq (by omega))
    have HSO := hide hq.sor
    have HKY := hide hq.keys
    have HLN := hide hq.lts
    clear hr hrl hI hk6 hkn hq hF
    go_wp2_with fail
    refine HA.out.mono ?_
    rintro e w3 ⟨Aa, na, ca, rfl, ho, k3⟩
    have hna := OwnT.len ho
    have HO := hide ho
    have HI3 := hide (HI.out.no k3)
    obtain ⟨N, hNa⟩ : ∃ N, N = r.length := ⟨_, rfl⟩
    have HNN := hide hNa
    rw [← hNa] at hna
    subst hna
    have hLE : Calls Try.prog 17 #[.pointer (some ⟨g, 0, none⟩)] w3 fun e w1 => e = .returned (.int .i64 (na : Int)) ∧ w3 = w1 := by
      obtain ⟨F, hq, hF⟩ := HI3.out.ex
      rw [hNa]
      exact ulen_any hq
    have HLE := hide hLE
    have HX3 : Hid (QxS W g (fun q => Aa.map (·.block) = some q) r w3) := by
      obtain ⟨F, hq, hF⟩ := HI.out.ex
      refine ⟨⟨F, hq.no k3, fun q hk => ⟨(hF q hk).1, Nat.lt_of_lt_of_le (hF q hk).2.1 k3.size, fun e => ?_⟩⟩, HI3.out.kp, fun q e => ?_⟩
      · rcases Aa with _ | a
        · cases e
        · have h1 := OwnT.ge HO.out q e
          have h2 := (hF q hk).2.1
          omega
      · rcases Aa with _ | a
        · cases e
        · exact OwnT.lt HO.out q e
    have hnb : na ≤ 60 := by rw [hNa]; exact HRL.out
    clear ho k3 hNa hLE HA HI HI3
    go_wp2_with fail
    refine HLE.out.mono ?_
    rintro e w4 ⟨rfl, rfl⟩
    clear HLE
    go_wp2_with fail
    go_loopw [7] (fun u wr => ∃ i : Nat, i ≤ na ∧ u = .int .i64 (i : Int) ∧ QxS W g (fun q => Aa.map (·.block) = some q) (r.drop i) wr ∧ JbR wr w2.heap.size 36 (.slice Aa na ca) r) (fun u _ => na - (intOf u).toNat)
    case atStart => exact ⟨0, Nat.zero_le _, rfl, HX3.out, HO.out⟩
    case round =>
      clear HX3 HO
      obtain ⟨i, hi, rfl, hX, ho⟩ := hrel
      have HX := hide hX
      have HO := hide ho
      clear hX ho
      by_cases hin : i < na
      · obtain ⟨x, hx⟩ : ∃ x, r[i]? = some x := ⟨_, List.getElem?_eq_getElem (by rw [← HNN.out]; exact hin)⟩
        have hdr : r.drop i = x :: r.drop (i + 1) := by
          obtain ⟨h1, h2⟩ := List.getElem?_eq_some_iff.1 hx
          rw [← h2]
          exact List.drop_eq_getElem_cons h1
        have hxr : x ∈ r := List.mem_of_getElem? hx
        have HXN : Hid (x < NJ) := HLN.out x hxr
        have HP0 := HX.out.run (v := .tuple #[jbV x, .bool true]) (r' := r.drop (i + 1)) (fun F hq => by
          have := upop_any hq (by rw [List.length_drop]; have := HRL.out; omega)
          rw [hdr] at this
          exact this)
        have HP := hide HP0
        have HXX := hide hx
        have hz : (i : Int) < na := by omega
        clear hx hdr hxr HP0
        go_wp2_with fail
        refine HP.out.mono ?_
        rintro e w5 ⟨rfl, h5, k5⟩
        have HX5 := hide h5
        have HO5 := hide (OwnT.keep HO.out k5 (fun q hq e => by
          rcases Aa with _ | a
          · cases hq
          · exact e.2 hq))
        clear h5 k5 HP HX HO
        go_upto_region 14 with (fail)
        have HB6 : Hid (BxJ (w5.alloc (.cells #[.int .u32 (jO x : Int), .int .u16 (jS x : Int), .int .i64 (jG x)] 36)) w5.heap.size x) := Bx3.new w5 _ _ _ _
        have HX6 := hide (HX5.out.no (Kp.alloc No w5 (.cells #[.int .u32 (jO x : Int), .int .u16 (jS x : Int), .int .i64 (jG x)] 36)))
        have HO6 := hide (OwnT.no HO5.out (Kp.alloc No w5 (.cells #[.int .u32 (jO x : Int), .int .u16 (jS x : Int), .int .i64 (jG x)] 36)))
        clear HX5 HO5
        generalize w5.alloc (.cells #[.int .u32 (jO x : Int), .int .u16 (jS x : Int), .int .i64 (jG x)] 36) = w6 at HB6 HX6 HO6 ⊢
        generalize w5.heap.size = s5 at HB6 ⊢
        obtain ⟨gl, rfl, -⟩ := OwnT.some_ HO6.out (by have := HNN.out; omega)
        obtain ⟨b0, b1, b2⟩ := HB6.out.cell
        obtain ⟨a0, a1, a2⟩ := JbR.cells HO6.out HXX.out
        have he := fun w' => uj_equal w' HXN.out HXN.out
        have hg := uj_guard
        rw [show (x == x) = true by simp] at he
        unfold jbV at he
        have z1 : decide (na ≤ i) = false := decide_eq_false (by omega)
        have z2 : decide ((na : Int) ≤ (i : Int)) = false := decide_eq_false (by omega)
        rcases Nat.eq_zero_or_pos i with h0 | h0
        · subst h0
          have z3 : decide ((na : Int) ≤ 0) = false := decide_eq_false (by omega)
          have z4 : decide (na = 0) = false := decide_eq_false (by omega)
          go_quiet (fail)
          clear b0 b1 b2 a0 a1 a2 he hg z1 z2
          go_wp2_with fail
          go_round
          case rel => exact ⟨1, by omega, by go_num, HX6.out.no ((Kp.refl No w6).drewN _), OwnT.no HO6.out ((Kp.refl No w6).drewN _)⟩
          case measure => simp [intOf]; omega
        · obtain ⟨d, hd⟩ : ∃ d : Nat, d = i - 1 := ⟨_, rfl⟩
          obtain ⟨y, hy⟩ : ∃ y, r[d]? = some y := ⟨_, List.getElem?_eq_getElem (by have := HNN.out; omega)⟩
          have hyx : y < x := by
            obtain ⟨h1, h2⟩ := List.getElem?_eq_some_iff.1 hy
            obtain ⟨h3, h4⟩ := List.getElem?_eq_some_iff.1 HXX.out
            have := List.pairwise_iff_getElem.1 HSO.out d i h1 h3 (by omega)
            rw [h2, h4] at this
            exact this
          have hky : (ky y == ky x) = false := by
            have : ky y ≠ ky x := fun e => by
              have := HKY.out y (List.mem_of_getElem? hy) x (List.mem_of_getElem? HXX.out) e
              omega
            simp [this]
          have hgg : ¬ jG x < jG y := fun e => by
            have := (lt_job (x := y) (y := x)).1 hyx
            omega
          have e1 : (i : Int) - 1 = (d : Int) := by omega
          obtain ⟨c0, c1, c2⟩ := JbR.cells HO6.out hy
          have hne : jO y = jO x → jS y ≠ jS x := fun e0 e1 => by
            have : ky y = ky x := k_inj e0 e1
            simp [this] at hky
          have t1 : decide (jG x < jG y) = false := decide_eq_false hgg
          have t2 : decide (0 < i) = true := decide_eq_true h0
          have t3 : decide ((0 : Int) < (i : Int)) = true := decide_eq_true (by omega)
          have hdb : d < na := by omega
          have hdb2 : d < 1000000 := by omega
          have hwd : IntKind.i64.wrap (d : Int) = (d : Int) := IntWalk.i64_in _ (by omega)
          clear hd hy hyx hky hgg
          by_cases h0 : jO y = jO x
          · have ne : ¬ (jS y : Int) = (jS x : Int) := fun e => hne h0 (by omega)
            rw [h0] at c0
            clear hne h0
            go_quiet (fail)
            clear b0 b1 b2 a0 a1 a2 he hg z1 z2 c0 c1 c2 t1 t2 t3 ne
            go_wp2_with fail
            go_round
            case rel => exact ⟨i + 1, by omega, by go_num, HX6.out.no ((Kp.refl No w6).drewN _), OwnT.no HO6.out ((Kp.refl No w6).drewN _)⟩
            case measure => simp [intOf]; omega
          · have ne : ¬ (jO y : Int) = (jO x : Int) := fun e => h0 (by omega)
            clear hne h0
            go_quiet (fail)
            clear b0 b1 b2 a0 a1 a2 he hg z1 z2 c0 c1 c2 t1 t2 t3 ne
            go_wp2_with fail
            go_round
            case rel => exact ⟨i + 1, by omega, by go_num, HX6.out.no ((Kp.refl No w6).drewN _), OwnT.no HO6.out ((Kp.refl No w6).drewN _)⟩
            case measure => simp [intOf]; omega
      · have hz : ¬ (i : Int) < na := by omega
        obtain rfl : i = na := by omega
        have hLE : Calls Try.prog 17 #[.pointer (some ⟨g, 0, none⟩)] wr fun e w1 => e = .returned (.int .i64 0) ∧ wr = w1 := by
          obtain ⟨F, hq, hF⟩ := HX.out.ex
          have := ulen_any hq
          rw [List.length_drop, HNN.out, Nat.sub_self] at this
          exact this
        have HLE := hide hLE
        have HKW := hide HX.out.kp
        clear hLE HX HO
        go_wp2_with fail
        refine HLE.out.mono ?_
        rintro e w5 ⟨rfl, rfl⟩
        go_wp2_with fail
        refine (awake19_any _).mono ?_
        rintro e w6 ⟨rfl, k6⟩
        go_wp2_with fail
        go_ret
        exact ⟨rfl, HKW.out.trans' k6⟩
end Go.Proofs.Ytjbnbbblafmldaa
