/- A queue of package urgent: New, Len, place, First, Get, Put and Drop, each as a contract; those of a queue that is none. No condition. -/
import Derived.Test.YtjbnbbblafmldaaUbap
namespace Go.Proofs.Ytjbnbbblafmldaa
open Go.RowKit
set_option linter.unusedVariables false
set_option linter.unusedSimpArgs false
set_option maxRecDepth 20000

/-- At block g lies a queue of the jobs r (the most urgent first); all that is its own lies in F. -/
def QuAt (w : World) (F : Nat → Prop) (g : Nat) (r : List Nat) : Prop := ∃ b A n cp R M, QuR w F g b A n cp R M R.length ∧ QOk R M r
section
variable {w w1 : World} {F S G : Nat → Prop} {g : Nat} {r : List Nat}
theorem QuAt.mono (h : QuAt w F g r) (hF : ∀ k, F k → G k) : QuAt w G g r := by
  obtain ⟨b, A, n, cp, R, M, h1, h2⟩ := h
  exact ⟨b, A, n, cp, R, M, h1.mono hF, h2⟩
theorem QuAt.lt (h : QuAt w F g r) : QuAt w (fun k => F k ∧ k < w.heap.size) g r := by
  obtain ⟨b, A, n, cp, R, M, h1, h2⟩ := h
  exact ⟨b, A, n, cp, R, M, h1.lt, h2⟩
theorem QuAt.keep (h : QuAt w F g r) (hk : Kp S w w1) (hS : ∀ k, k < w.heap.size → F k → ¬ S k) : QuAt w1 F g r := by
  obtain ⟨b, A, n, cp, R, M, h1, h2⟩ := h
  exact ⟨b, A, n, cp, R, M, h1.keep hk hS, h2⟩
theorem QuAt.no (h : QuAt w F g r) (hk : Kp No w w1) : QuAt w1 F g r := h.keep hk fun _ _ _ f => f
theorem QuAt.sor (h : QuAt w F g r) : r.Pairwise (· < ·) := by
  obtain ⟨b, A, n, cp, R, M, h1, h2⟩ := h
  exact h2.sor
theorem QuAt.lts (h : QuAt w F g r) : ∀ x, x ∈ r → x < NJ := by
  obtain ⟨b, A, n, cp, R, M, h1, h2⟩ := h
  exact h2.lt
theorem QuAt.keys (h : QuAt w F g r) : ∀ x ∈ r, ∀ y ∈ r, ky x = ky y → x = y := by
  obtain ⟨b, A, n, cp, R, M, h1, h2⟩ := h
  exact h2.keys
end
/-- A queue that nobody made. -/
def QuZ (w : World) (g : Nat) : Prop := w.heap[g]? = some (.cells #[.slice none 0 0, .map none] 50 (0, 0))
section
variable {w w1 : World} {g : Nat}
theorem QuZ.lt (h : QuZ w g) : g < w.heap.size := (Array.getElem?_eq_some_iff.1 h).1
theorem QuZ.no (h : QuZ w g) (hk : Kp No w w1) : QuZ w1 g := (hk.block g h.lt fun f => f).trans h
theorem QuZ.c0 (h : QuZ w g) : w.cell? ⟨g, 0, none⟩ = some (.slice none 0 0) := by rw [cell_of_row w g 0 _ _ _ h]; rfl
theorem QuZ.c1 (h : QuZ w g) : w.cell? ⟨g, 1, none⟩ = some (.map none) := by rw [cell_of_row w g 1 _ _ _ h]; rfl
theorem QuZ.new (w : World) : QuZ (w.alloc (.cells #[.slice none 0 0, .map none] 50)) w.heap.size := heap_alloc_new w _
end
theorem unew_any (w : World) : Calls Try.prog 6 #[] w fun e w1 => ∃ g, e = .returned (.pointer (some ⟨g, 0, none⟩)) ∧ QuAt w1 (fun k => w.heap.size ≤ k) g [] ∧ Kp No w w1 := by
  have hmm := @run_makeMap Try.prog
  go_enter Try.func6, Try.ntmps6
  go_wp2
  go_ret
  have hm := MpU.new w
  have hz : (w.alloc (.map #[] 0)).heap.size = w.heap.size + 1 := by simp
  have hb := heap_alloc_new (w.alloc (.map #[] 0)) (.cells #[.slice none 0 0, .map (some w.heap.size)] 50)
  rw [hz] at hb
  exact ⟨_, rfl, ⟨w.heap.size, none, 0, 0, [], fun _ => none, ⟨hb, OwnT.nil _ _ _ _, hm.no (Kp.alloc No _ _), Nat.le_succ _, Nat.le_refl _, fun k hk => by cases hk⟩, QOk.new⟩, (Kp.alloc No w _).trans' (Kp.alloc No _ _)⟩
theorem ulen_any {w : World} {F : Nat → Prop} {g : Nat} {r : List Nat} (h : QuAt w F g r) : Calls Try.prog 17 #[.pointer (some ⟨g, 0, none⟩)] w fun e w1 => e = .returned (.int .i64 (r.length : Int)) ∧ w = w1 := by
  obtain ⟨b, A, n, cp, R, M, h1, h2⟩ := h
  have hl : n = r.length := by rw [h1.len, h2.len]
  rw [← hl]
  have x0 := h1.c0
  clear h1 h2 hl
  go_enter Try.func17, Try.ntmps17
  go_wp2
  go_ret
  exact ⟨rfl, rfl⟩
theorem ulen_nil (w : World) : Calls Try.prog 17 #[.pointer none] w fun e w1 => e = .returned (.int .i64 0) ∧ w = w1 := by
  go_enter Try.func17, Try.ntmps17
  go_wp2
  go_ret
  exact ⟨rfl, rfl⟩
theorem ulen_zero {w : World} {g : Nat} (h : QuZ w g) : Calls Try.prog 17 #[.pointer (some ⟨g, 0, none⟩)] w fun e w1 => e = .returned (.int .i64 0) ∧ w = w1 := by
  have x0 := h.c0
  clear h
  go_enter Try.func17, Try.ntmps17
  go_wp2
  go_ret
  exact ⟨rfl, rfl⟩
/-- A place, and is there one? -/
def UpPost (w : World) (z : Int) (q : Bool) (e : Ending) (w1 : World) : Prop := e = .returned (.tuple #[.int .i64 z, .bool q]) ∧ Kp No w w1
theorem uplace_any {w : World} {F : Nat → Prop} {g b n cp c k : Nat} {A : Option Addr} {R : List Nat} {M : Nat → Option Nat} (h : QuR w F g b A n cp R M c) (hk : k < N48) :
    Calls Try.prog 19 #[.pointer (some ⟨g, 0, none⟩), kyV k] w (UpPost w (((M k).getD 0 : Nat) : Int) (M k).isSome) := by
  have x1 := h.c1
  have HL := fun w' (hk' : Kp No w w') => (h.mp.no hk').look hk
  generalize (((M k).getD 0 : Nat) : Int) = z at HL ⊢
  generalize (M k).isSome = q at HL ⊢
  unfold kyV at HL ⊢
  generalize kO k = k0 at HL ⊢
  generalize kS k = k1 at HL ⊢
  have KA := Kp.alloc No w (.cells #[.int .u32 (k0 : Int), .int .u16 (k1 : Int)] 34)
  have y1 := KA.cell x1 (fun f => f)
  have y2 := heap_alloc_new w (.cells #[.int .u32 (k0 : Int), .int .u16 (k1 : Int)] 34)
  clear x1 h hk
  go_enter Try.func19, Try.ntmps19
  go_upto_region 3 with (fail)
  generalize w.alloc (.cells #[.int .u32 (k0 : Int), .int .u16 (k1 : Int)] 34) = wa at KA y1 y2 ⊢
  generalize w.heap.size = s at y2 ⊢
  have z0 : wa.cell? ⟨s, 0, none⟩ = some (.int .u32 (k0 : Int)) := by rw [cell_of_row wa s 0 _ _ _ y2]; rfl
  have z1 : wa.cell? ⟨s, 1, none⟩ = some (.int .u16 (k1 : Int)) := by rw [cell_of_row wa s 1 _ _ _ y2]; rfl
  have HLA := HL _ KA.drew
  have KD := hide KA.drew
  clear HL KA y2
  go_region
  go_wp2
  go_ret2
  exact ⟨rfl, KD.out⟩
theorem uplace_nil (w : World) (k : Nat) : Calls Try.prog 19 #[.pointer none, kyV k] w (UpPost w 0 false) := by
  unfold kyV
  generalize kO k = k0
  generalize kS k = k1
  go_enter Try.func19, Try.ntmps19
  go_wp2
  go_ret2
  exact ⟨rfl, Kp.alloc No w _⟩
theorem uplace_zero {w : World} {g k : Nat} (h : QuZ w g) (hk : k < N48) :
    Calls Try.prog 19 #[.pointer (some ⟨g, 0, none⟩), kyV k] w (UpPost w 0 false) := by
  have x1 := h.c1
  have HL : ∀ w' : World, (Instr.lookup 48 (.map none) (kyV k) true).run Try.prog w' = .ok (.tuple #[.int .i64 0, .bool false]) w' := fun w' => Maps.look_nil true uk_law Try.underlying48 (uzero_int w') (ukey_kl hk)
  unfold kyV at HL ⊢
  generalize kO k = k0 at HL ⊢
  generalize kS k = k1 at HL ⊢
  have KA := Kp.alloc No w (.cells #[.int .u32 (k0 : Int), .int .u16 (k1 : Int)] 34)
  have y1 := KA.cell x1 (fun f => f)
  have y2 := heap_alloc_new w (.cells #[.int .u32 (k0 : Int), .int .u16 (k1 : Int)] 34)
  clear x1 h hk
  go_enter Try.func19, Try.ntmps19
  go_upto_region 3 with (fail)
  generalize w.alloc (.cells #[.int .u32 (k0 : Int), .int .u16 (k1 : Int)] 34) = wa at KA y1 y2 ⊢
  generalize w.heap.size = s at y2 ⊢
  have z0 : wa.cell? ⟨s, 0, none⟩ = some (.int .u32 (k0 : Int)) := by rw [cell_of_row wa s 0 _ _ _ y2]; rfl
  have z1 : wa.cell? ⟨s, 1, none⟩ = some (.int .u16 (k1 : Int)) := by rw [cell_of_row wa s 1 _ _ _ y2]; rfl
  have HLA := HL wa.drew
  have KD := hide KA.drew
  clear HL KA y2
  go_region
  go_wp2
  go_ret2
  exact ⟨rfl, KD.out⟩
end Go.Proofs.Ytjbnbbblafmldaa
