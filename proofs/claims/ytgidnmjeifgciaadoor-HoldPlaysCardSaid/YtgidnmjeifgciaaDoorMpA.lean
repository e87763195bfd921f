/- Facts for the walk of MemPlays: a memory, and the document's; what a stretch is refused for. -/
import Derived.Test.YtgidnmjeifgciaaDoorMmU
import Derived.Test.YtgidnmjeifgciaaDoorMmR
import Derived.Test.YtgidnmjeifgciaaDoorMmN
import Derived.Test.YtgidnmjeifgciaaDoorMrC
import Derived.Test.YtgidnmjeifgciaaDoorMrE
namespace Go.Proofs.YtgidnmjeifgciaaDoor
set_option maxRecDepth 100000
open Go.RowKit Go.ChangeMaps Go.MapKept
set_option linter.unusedVariables false
set_option linter.unusedSimpArgs false

/-- A memory, and the document's, are alike; what is not mapped is as new. -/
structure LKM (σ : MS) (r : RS) : Prop where
  same : ∀ y, y < 8 → σ.pg y = r.o y
  high : ∀ y, 8 ≤ y → σ.pg y = false
  byt : ∀ x, x < 2048 → σ.c x = r.b x
  tag : ∀ g, g < 128 → r.t g = (σ.f g : Int)
  kep : ∀ g, g < 128 → r.k g = σ.kp g
  khi : ∀ g, 128 ≤ g → σ.kp g = false
  val : ∀ g, g < 128 → σ.kp g = true → r.v (6 * g) = .int .i64 (σ.kv g 0 : Int)
  vlt : ∀ g, g < 128 → σ.kp g = true → σ.kv g 0 < 256
  cb : ∀ x, x < 2048 → r.o (x / 256) = false → r.b x = 0
  ct : ∀ g, g < 128 → r.o (g / 16) = false → r.t g = 0 ∧ r.k g = false
theorem LKM.start (k : Int) : LKM (newS k) zeroR := ⟨fun _ _ => rfl, fun _ _ => rfl, fun _ _ => rfl, fun _ _ => rfl, fun _ _ => rfl, fun _ _ => rfl, fun _ _ h => (by cases h), fun _ _ h => (by cases h), fun _ _ _ => rfl, fun _ _ _ => ⟨rfl, rfl⟩⟩
def errE (r : RS) (a n : Int) : Int := if a < 0 ∨ n < 1 then 1 else if openR r.o a n = true then 0 else 5
theorem LKM.err {σ : MS} {r : RS} (h : LKM σ r) {a n : Int} (h0 : 0 ≤ a) (h1 : a < 2048) (h2 : n ≤ 256) : refE σ.pg a n = errE r a n := by
  unfold refE errE
  rw [open_same h.same h.high]
  by_cases e : n < 1
  · rw [if_neg (by rw [mayB_false.2 (by omega)]; decide), if_pos (.inr e)]
  · rw [if_pos (mayB_iff.2 (by omega)), if_neg (show ¬ (a < 0 ∨ n < 1) by omega)]
set_option maxHeartbeats 1600000 in
theorem lerr (r : RS) (res : Int) (hr : r.One) (a n : Int) (hn : n ≤ 9223372036854775807) (W : World) (hres : errE r a n = res) :
    Calls Tryd.prog 17 #[.agg r.l.toArray, .int .i64 a, .int .i64 n] W fun e w' => e = .returned (.int .i64 res) ∧ Below W.heap.size W w' := by
  have HR1 := fun W => RAt.new W r 34
  have hLs : r.l.toArray.size = 3080 := by rw [List.size_toArray, RS.len]
  have hL1 := RS.one hr
  have HRO := Lib.hid hr
  by_cases h1 : a < 0
  · obtain rfl : res = 1 := by rw [← hres, errE, if_pos (.inl h1)]
    clear HR1 hres
    generalize r.l.toArray = L at *
    go_enter Tryd.func17, Tryd.ntmps17
    go_wp2
    go_ret
    exact ⟨rfl, alc0 _ _⟩
  · by_cases h2 : n < 1
    · obtain rfl : res = 1 := by rw [← hres, errE, if_pos (.inr h2)]
      clear HR1 hres
      generalize r.l.toArray = L at *
      go_enter Tryd.func17, Tryd.ntmps17
      go_wp2
      go_ret
      exact ⟨rfl, alc0 _ _⟩
    · rw [errE, if_neg (by omega)] at hres
      have HRG := Lib.hid (HR1 W).range
      have HI1 := Lib.hid (RS.info r)
      cases ho : openR r.o a n with
      | true =>
        obtain rfl : res = 0 := by rw [← hres, if_pos ho]
        have HC := Lib.hid (fun W => ropen r true HRO.out a n hn W ho)
        clear HR1 hres ho
        generalize hL : r.l.toArray = L at *
        have HL := Lib.hid hL
        clear hL
        go_enter Tryd.func17, Tryd.ntmps17
        go_wp2_with (refine wpList_load_mid rfl 34 (.tmp 3) rfl W.heap.size 0 rfl r.l _ HRG.out Tryd.underlying34 rfl HI1.out ?_)
        rw [HL.out]
        refine (HC.out _).mono ?_
        rintro e w1 ⟨rfl, hb⟩
        have HB : Hid (Below W.heap.size W w1) := Lib.hid (thn (alc0 _ _) hb)
        clear hb
        go_wp2
        go_ret
        exact ⟨rfl, HB.out⟩
      | false =>
        obtain rfl : res = 5 := by rw [← hres, if_neg (by rw [ho]; decide)]
        have HC := Lib.hid (fun W => ropen r false HRO.out a n hn W ho)
        clear HR1 hres ho
        generalize hL : r.l.toArray = L at *
        have HL := Lib.hid hL
        clear hL
        go_enter Tryd.func17, Tryd.ntmps17
        go_wp2_with (refine wpList_load_mid rfl 34 (.tmp 3) rfl W.heap.size 0 rfl r.l _ HRG.out Tryd.underlying34 rfl HI1.out ?_)
        rw [HL.out]
        refine (HC.out _).mono ?_
        rintro e w1 ⟨rfl, hb⟩
        have HB : Hid (Below W.heap.size W w1) := Lib.hid (thn (alc0 _ _) hb)
        clear hb
        go_wp2
        go_ret
        exact ⟨rfl, HB.out⟩
end Go.Proofs.YtgidnmjeifgciaaDoor
