/- A tape of package tape in memory; New, Len, Read, Append, each as a contract. No condition. -/
import Derived.Test.YtikegnhjnbjclaaTpm
import Derived.Test.YtikegnhjnbjclaaBtf
import Derived.Test.YtikegnhjnbjclaaSl
import Derived.Deep.QuietTactic
import Derived.BigQuiet
namespace Go.Proofs.Ytikegnhjnbjclaa
open Go.RowKit
set_option linter.unusedVariables false
set_option maxRecDepth 20000
set_option linter.unusedSimpArgs false

/-- At block g lies a tape T, its bytes in the row va; all that is its own lies in F. -/
structure TpR (w : World) (F : Nat → Prop) (g : Nat) (T : Tp) (va : Value) : Prop where
  blk : w.heap[g]? = some (.cells #[va, .int .i64 (T.sf.length : Int), .int .i64 (T.most : Int)] 80 (0, 0))
  own : Own w 0 5 va (T.sf ++ T.ls)
  fg : F g
  fa : ∀ k, va.ownBlock = some k → F k
  mx : T.most ≤ 9223372036854775807
def TpAt (w : World) (F : Nat → Prop) (g : Nat) (T : Tp) : Prop := ∃ va, TpR w F g T va
section
variable {w w1 : World} {F S G : Nat → Prop} {g : Nat} {T T' : Tp} {va v : Value}
theorem TpR.mono (h : TpR w F g T va) (hF : ∀ k, F k → G k) : TpR w G g T va := ⟨h.blk, h.own, hF _ h.fg, fun k hk => hF _ (h.fa k hk), h.mx⟩
theorem TpR.glt (h : TpR w F g T va) : g < w.heap.size := (Array.getElem?_eq_some_iff.1 h.blk).1
theorem TpR.lt (h : TpR w F g T va) : TpR w (fun k => F k ∧ k < w.heap.size) g T va := ⟨h.blk, h.own, ⟨h.fg, h.glt⟩, fun k hk => ⟨h.fa k hk, h.own.lt k hk⟩, h.mx⟩
theorem TpR.keep (h : TpR w F g T va) (hk : Kp S w w1) (hS : ∀ k, k < w.heap.size → F k → ¬ S k) : TpR w1 F g T va :=
  ⟨(hk.block g h.glt (hS g h.glt h.fg)).trans h.blk, h.own.keep hk fun k hk' => hS k (h.own.lt k hk') (h.fa k hk'), h.fg, h.fa, h.mx⟩
theorem TpR.no (h : TpR w F g T va) (hk : Kp No w w1) : TpR w1 F g T va := h.keep hk fun _ _ _ f => f
theorem TpR.at_ (h : TpR w F g T va) : TpAt w F g T := ⟨va, h⟩
theorem TpAt.mono (h : TpAt w F g T) (hF : ∀ k, F k → G k) : TpAt w G g T := h.imp fun _ h => h.mono hF
theorem TpAt.lt (h : TpAt w F g T) : TpAt w (fun k => F k ∧ k < w.heap.size) g T := h.imp fun _ h => h.lt
theorem TpAt.keep (h : TpAt w F g T) (hk : Kp S w w1) (hS : ∀ k, k < w.heap.size → F k → ¬ S k) : TpAt w1 F g T := h.imp fun _ h => h.keep hk hS
theorem TpAt.no (h : TpAt w F g T) (hk : Kp No w w1) : TpAt w1 F g T := h.imp fun _ h => h.no hk
theorem TpR.c0 (h : TpR w F g T va) : w.cell? ⟨g, 0, none⟩ = some va := by rw [cell_of_row w g 0 _ _ _ h.blk]; rfl
theorem TpR.c1 (h : TpR w F g T va) : w.cell? ⟨g, 1, none⟩ = some (.int .i64 (T.sf.length : Int)) := by rw [cell_of_row w g 1 _ _ _ h.blk]; rfl
theorem TpR.c2 (h : TpR w F g T va) : w.cell? ⟨g, 2, none⟩ = some (.int .i64 (T.most : Int)) := by rw [cell_of_row w g 2 _ _ _ h.blk]; rfl
theorem TpR.fz (h : TpR w F g T va) (j : Nat) : w.frozen? ⟨g, j, none⟩ = false := frozen_of_row w g j _ _ h.blk
theorem TpR.va_ (h : TpR w F g T va) : ∃ A c, va = .slice A T.len c ∧ T.len ≤ c := by
  obtain ⟨A, n, c, e⟩ := h.own.form
  have ho := h.own
  rw [e] at ho
  have h1 := ho.len
  have h2 := ho.cap
  rw [List.length_append] at h1
  have h3 : n = T.len := h1
  subst h3
  exact ⟨A, c, e, h2⟩
theorem TpR.apart (h : TpR w F g T va) : va.ownBlock ≠ some g := own_ne_at h.own h.blk (by decide)
/-- Nothing was turned. -/
theorem TpR.stay (h : TpR w F g T va) : TpR w (Up F w) g T va := h.mono fun _ hk => .inl hk
/-- The row of bytes and how many are safe are other ones. -/
theorem TpR.put (h : TpR w F g T va) (hk : Kp (fun k => va.ownBlock = some k) w w1) {v : Value} (ho : Own w1 0 5 v (T'.sf ++ T'.ls)) (hat : ∀ k, v.ownBlock = some k → Up F w k) (hm : T'.most = T.most) :
    w1.heap[g]? = some (.cells #[va, .int .i64 (T.sf.length : Int), .int .i64 (T.most : Int)] 80 (0, 0)) ∧
    (∀ w2, w2.heap[g]? = some (.cells #[v, .int .i64 (T'.sf.length : Int), .int .i64 (T'.most : Int)] 80 (0, 0)) → Kp (fun k => k = g) w1 w2 → TpAt w2 (Up F w) g T' ∧ Kp F w w2) := by
  have hb : w1.heap[g]? = _ := (hk.block g h.glt h.apart).trans h.blk
  refine ⟨hb, fun w2 h2 hk2 => ⟨⟨v, h2, ho.keep hk2 fun k hv e => ?_, .inl h.fg, hat, by rw [hm]; exact h.mx⟩, (hk.mono fun k hv => h.fa k hv).trans' (hk2.mono fun k e => by rw [e]; exact h.fg)⟩⟩
  subst e
  exact own_ne_at ho hb (by decide) hv
end

/-- What New returns. -/
def TnPost (w : World) (z : Int) (e : Ending) (w1 : World) : Prop := ∃ g, e = .returned (.pointer (some ⟨g, 0, none⟩)) ∧ w.heap.size ≤ g ∧ TpAt w1 (fun k => w.heap.size ≤ k) g (Tp.new z) ∧ Kp No w w1
theorem tnew_any (w : World) (z : Int) (hz : z ≤ 9223372036854775807) : Calls Try.prog 12 #[.int .i64 z] w (TnPost w z) := by
  have key : ∀ x : Int, x = (z.toNat : Int) → TnPost w z (.returned (.pointer (some ⟨w.heap.size, 0, none⟩))) (w.alloc (.cells #[.slice none 0 0, .int .i64 0, .int .i64 x] 80)) := fun x hx => by
    subst hx
    exact ⟨w.heap.size, rfl, Nat.le_refl _, ⟨.slice none 0 0, heap_alloc_new w _, Own.nil _ _ _, Nat.le_refl _, (fun k hk => by cases hk), by show z.toNat ≤ _; omega⟩, Kp.alloc No _ _⟩
  by_cases h0 : z ≤ 0
  · go_enter Try.func12, Try.ntmps12
    go_wp2
    go_ret
    exact key _ (by omega)
  · go_enter Try.func12, Try.ntmps12
    go_wp2
    go_ret
    exact key _ (by omega)

theorem tread_nil (w : World) : Calls Try.prog 25 #[.pointer none] w fun e w1 => e = .returned (.slice none 0 0) ∧ w = w1 := by
  go_enter Try.func25, Try.ntmps25
  go_wp2
  go_ret
  exact ⟨rfl, rfl⟩
theorem tput_nil (w : World) (v : Value) : Calls Try.prog 42 #[.pointer none, v] w fun e w1 => e = .returned (.int .i64 3) ∧ w = w1 := by
  go_enter Try.func42, Try.ntmps42
  go_wp2
  go_ret
  exact ⟨rfl, rfl⟩
theorem tsync_nil (w : World) : Calls Try.prog 39 #[.pointer none] w fun e w1 => e = .returned (.int .i64 3) ∧ w = w1 := by
  go_enter Try.func39, Try.ntmps39
  go_wp2
  go_ret
  exact ⟨rfl, rfl⟩
theorem tcrash_nil (w : World) (z : Int) (x : Value) : Calls Try.prog 17 #[.pointer none, .int .i64 z, x] w fun e w1 => e = .returned (.int .i64 0) ∧ w = w1 := by
  go_enter Try.func17, Try.ntmps17
  go_wp2
  go_ret
  exact ⟨rfl, rfl⟩
theorem tback_nil (w : World) : Calls Try.prog 40 #[.pointer none] w fun e w1 => e = .returned (.int .i64 0) ∧ w = w1 := by
  go_enter Try.func40, Try.ntmps40
  go_wp2_with fail
  refine (tcrash_nil w 0 _).mono ?_
  rintro e w1 ⟨rfl, rfl⟩
  go_wp2_with fail
  go_ret
  exact ⟨rfl, rfl⟩
theorem tcut_nil (w : World) (z : Int) : Calls Try.prog 37 #[.pointer none, .int .i64 z] w fun e w1 => e = .returned (.int .i64 3) ∧ w = w1 := by
  go_enter Try.func37, Try.ntmps37
  go_wp2
  go_ret
  exact ⟨rfl, rfl⟩

section
variable {w : World} {F : Nat → Prop} {g : Nat} {T : Tp}
theorem tread_any (h : TpAt w F g T) (hL : T.len ≤ 900000000) : Calls Try.prog 25 #[.pointer (some ⟨g, 0, none⟩)] w (OwnPost w (T.sf ++ T.ls)) := by
  obtain ⟨va, h⟩ := h
  obtain ⟨A, c, rfl, hc⟩ := h.va_
  have x0 := h.c0
  have hb := h.own.bts
  have HB := hide hb
  clear h hb
  go_enter Try.func25, Try.ntmps25
  go_wp2_with fail
  refine (sclone_any HB.out (by rw [List.length_append]; exact hL)).mono ?_
  rintro e w1 ⟨A1, n1, c1, rfl, ho, k1⟩
  go_wp2_with fail
  go_ret
  exact ⟨A1, n1, c1, rfl, ho, k1⟩

/-- What a call on a tape comes to. -/
def TpPost (w : World) (F : Nat → Prop) (g : Nat) (T' : Tp) (v : Value) (e : Ending) (w1 : World) : Prop := e = .returned v ∧ TpAt w1 (Up F w) g T' ∧ Kp F w w1
theorem TpAt.stay (h : TpAt w F g T) (v : Value) : TpPost w F g T v (.returned v) w := ⟨rfl, h.mono fun _ hk => .inl hk, Kp.refl _ _⟩
theorem TpAt.stayD (h : TpAt w F g T) (v : Value) : TpPost w F g T v (.returned v) w.drew := ⟨rfl, (h.no (Kp.refl No w).drew).mono fun _ hk => .inl hk, (Kp.refl _ _).drew⟩
set_option maxHeartbeats 2000000 in
theorem tput_any (h : TpAt w F g T) {u : Value} {b : List UInt8} (hu : Bts w u b) (hL : T.len + b.length ≤ 900000000) : Calls Try.prog 42 #[.pointer (some ⟨g, 0, none⟩), u] w (TpPost w F g (T.put b) (.int .i64 (T.putE b : Int))) := by
  obtain ⟨i0, hi0, hz0, hz1, hz2⟩ := byte_parts
  have HH := hide h
  obtain ⟨va, h⟩ := h
  obtain ⟨A, c, rfl, hc⟩ := h.va_
  obtain ⟨B, m, d, rfl⟩ := hu.form
  have HM := hide hu.len
  have hml : m ≤ 900000000 := by have := HM.out; omega
  have hTl : T.len ≤ 900000000 := by omega
  have x0 : w.drew.cell? ⟨g, 0, none⟩ = some (.slice A T.len c) := h.c0
  have x2 : w.drew.cell? ⟨g, 2, none⟩ = some (.int .i64 (T.most : Int)) := h.c2
  have hmx := h.mx
  have HR := hide (h.no (Kp.refl No w).drew)
  have HU := hide hu.drew
  have HO := hide (show Own w.drew 0 5 (.slice A T.len c) (T.sf ++ T.ls) from h.own)
  clear h hu
  by_cases hf : T.most < T.len + m
  · have hE : T.putE b = 20 := by unfold Tp.putE; rw [if_pos (by have := HM.out; omega)]
    have hP : T.put b = T := by unfold Tp.put; rw [if_neg (by omega)]
    rw [hE, hP]
    clear hE hP
    go_enter Try.func42, Try.ntmps42
    go_wp2_with fail
    go_region
    go_wp2_with fail
    go_ret
    exact HH.out.stayD _
  · have hE : T.putE b = 0 := by unfold Tp.putE; rw [if_neg (by have := HM.out; omega)]
    have hP : T.put b = ⟨T.sf, T.ls ++ b, T.most⟩ := by unfold Tp.put; rw [if_pos hE]
    rw [hE, hP]
    clear hE hP
    have hbl : b.length ≤ 900000000 := by have := HM.out; omega
    have HLL : Hid ((T.sf ++ T.ls).length + b.length ≤ 1000000000) := by show _ ≤ _; rw [List.length_append]; have : T.len = T.sf.length + T.ls.length := rfl; omega
    go_enter Try.func42, Try.ntmps42
    go_wp2_with fail
    go_region
    go_wp2_with (first
      | (at_builtin
         refine wpList_app rfl (.tmp 24) (.tmp 25) _ rfl i0 Try.underlying22 hi0 hz0 hz1 hz2 rfl HO.out rfl HU.out HLL.out (Nat.zero_le _) ?_
         intro A1 n1 c1 w1 ha
         have hn1 := ha.own.len
         have hp := HR.out.put (T' := ⟨T.sf, T.ls ++ b, T.most⟩) (w1 := w1) ha.kp (by rw [← List.append_assoc]; exact ha.own) (fun k hk => by
           rcases ha.at_ with e | e
           · rw [hk] at e
             exact .inl (HR.out.fa k e.symm)
           · rw [hk] at e
             injection e with e
             exact .inr (by rw [e]; exact Nat.le_refl _)) rfl
         have y0 : w1.cell? ⟨g, 0, none⟩ = some (.slice A T.len c) := by rw [cell_of_row w1 g 0 _ _ _ hp.1]; rfl
         have yf : w1.frozen? ⟨g, 0, none⟩ = false := frozen_of_row w1 g 0 _ _ hp.1
         have HP := hide hp
         clear hp ha hn1))
    go_ret
    have := HP.out.2 _ (heap_setCell_same w1 g 0 _ _ (.slice A1 n1 c1) HP.out.1) (Kp.setCell (p := ⟨g, 0, none⟩) (S := fun k => k = g) rfl _)
    exact ⟨rfl, this.1, (Kp.refl F w).drew.trans' this.2⟩
end
end Go.Proofs.Ytikegnhjnbjclaa
