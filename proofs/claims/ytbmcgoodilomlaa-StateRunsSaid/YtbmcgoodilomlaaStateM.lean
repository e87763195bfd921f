/- The contract of changes. -/
import Derived.Test.YtbmcgoodilomlaaStateL
import Derived.Deep.RegionHeld3
namespace Go.Proofs.Ytbmcgoodilomlaa
open Go.RowKit Go.ChangeMaps Go.MapKept
set_option linter.unusedVariables false
set_option linter.unusedSimpArgs false

def ChPost (w : World) (e : Ending) (w' : World) : Prop := ∃ b, e = .returned (.map (some b)) ∧ w.heap.size ≤ b ∧ MapAt b w' ∧ Below w.heap.size w w'
set_option maxHeartbeats 1600000 in
theorem changes_any (w : World) : Calls Try.prog 25 #[] w (ChPost w) := by
  go_enter Try.func25, Try.ntmps25
  go_wp2_with fail
  refine wp_region_held_drew (S := fun _ => True) (by kernel_rfl) trivial (fun hHeld => ?_)
  have hmm := @run_makeMap Try.prog
  refine wpAnyH_take (i := 1) (v := ?_) rfl (by kernel_rfl) (by kernel_rfl) (by kernel_rfl) (fun _ _ _ h => h) (Or.inl ⟨by kernel_rfl, ?_⟩) (by assumption) ?_
  rotate_left
  · (intro w hSw; (try dsimp only at hSw); go_simp)
    try (with_reducible rfl)
  rotate_left
  try simp (maxSteps := 4000000) only [Act.put, List.setIfInBounds_toArray, List.set_cons_zero, List.set_cons_succ, List.getElem_toArray, List.getElem_cons_zero, List.getElem_cons_succ]
  refine wpAnyH_take (i := 3) (v := ?_) rfl (by kernel_rfl) (by kernel_rfl) (by kernel_rfl) (fun _ _ _ h => h) (Or.inl ⟨by kernel_rfl, ?_⟩) (by assumption) ?_
  rotate_left
  · (intro w hSw; (try dsimp only at hSw); go_simp)
    try (with_reducible rfl)
  rotate_left
  try simp (maxSteps := 4000000) only [Act.put, List.setIfInBounds_toArray, List.set_cons_zero, List.set_cons_succ, List.getElem_toArray, List.getElem_cons_zero, List.getElem_cons_succ]
  refine wpAnyH_take (i := 5) (v := ?_) rfl (by kernel_rfl) (by kernel_rfl) (by kernel_rfl) (fun _ _ _ h => h) (Or.inl ⟨by kernel_rfl, ?_⟩) (by assumption) ?_
  rotate_left
  · (intro w hSw; (try dsimp only at hSw); go_simp)
    try (with_reducible rfl)
  rotate_left
  try simp (maxSteps := 4000000) only [Act.put, List.setIfInBounds_toArray, List.set_cons_zero, List.set_cons_succ, List.getElem_toArray, List.getElem_cons_zero, List.getElem_cons_succ]
  refine wpAnyH_ready (rs := [0]) (by kernel_rfl) (by simp) ?_
  refine AllReadyH.cons rfl (fun K2 hK2 => ?_) AllReadyH.nil
  go_simp
  obtain ⟨b, hbb⟩ : ∃ b, w.heap.size = b := ⟨_, rfl⟩
  have hbase : w.heap.size ≤ b := by omega
  obtain ⟨w_, hW⟩ : ∃ w_, (w.alloc (.map #[] 0)).drew = w_ := ⟨_, rfl⟩
  have hb : w_.heap[b]? = some (.map #[] 0) := by rw [← hW, ← hbb]; exact (MapKept.heap_alloc w _).1
  have hlt : b < w_.heap.size := by rw [← hW, ← hbb]; show w.heap.size < (w.alloc (.map #[] 0)).heap.size; simp
  have HB : Hid (Below w.heap.size w w_) := Lib.hid (by rw [← hW]; exact (alc0 w (.map #[] 0)).drew)
  rw [hW, hbb]
  clear hW hbb hmm
  refine hK2.out _ _ trivial (fun hHeld2 => ?_)
  clear hK2 K2 hHeld
  have hHeld := hHeld2
  clear hHeld2
  try simp (maxSteps := 4000000) only [Act.put, List.setIfInBounds_toArray, List.set_cons_zero, List.set_cons_succ]
  have hI0 := insC w_ b #[] 0 hb 1 1 2 (by omega) (by intro e he; simp at he)
  have hI1 := insC w_ b #[] 0 hb 2 2 3 (by omega) (by intro e he; simp at he)
  have hI2 := insC w_ b #[] 0 hb 3 3 1 (by omega) (by intro e he; simp at he)
  refine wpAnyH_ready (rs := [2, 4, 6]) (by kernel_rfl) (by simp) ?_
  refine AllReadyH.cons rfl (fun K2 hK2 => ?_) (AllReadyH.cons rfl (fun K2 hK2 => ?_) (AllReadyH.cons rfl (fun K2 hK2 => ?_) AllReadyH.nil))
  all_goals go_simp
  · obtain ⟨w0, hW⟩ : ∃ w0, setBlock w_ b (.map #[⟨.agg #[.int .i64 1, .int .i64 1], .int .i64 2, 0⟩] 1) = w0 := ⟨_, rfl⟩
    have hb2 : w0.heap[b]? = some (.map #[⟨.agg #[.int .i64 1, .int .i64 1], .int .i64 2, 0⟩] 1) := by rw [← hW]; exact block_same hlt
    have hB2 := below_block (b := b) (o := .map #[⟨.agg #[.int .i64 1, .int .i64 1], .int .i64 2, 0⟩] 1) HB.out hbase
    rw [hW] at hB2 ⊢
    have hlt2 : b < w0.heap.size := by rw [← hW, size_block]; exact hlt
    have HB2 := Lib.hid hB2
    clear hW hB2 HB hb hlt hI0 hI1 hI2
    have hb := hb2
    have HB := HB2
    have hlt := hlt2
    clear hb2 HB2 hlt2
    refine hK2.out _ _ trivial (fun hHeld2 => ?_)
    clear hK2 K2 hHeld
    have hHeld := hHeld2
    clear hHeld2
    try simp (maxSteps := 4000000) only [Act.put, List.setIfInBounds_toArray, List.set_cons_zero, List.set_cons_succ]
    have hI1 := insC w0 b #[⟨.agg #[.int .i64 1, .int .i64 1], .int .i64 2, 0⟩] 1 hb 2 2 3 (by omega) (by intro e he; simp at he; subst he; all_goals exact ⟨keyS _ _ (by omega), by simp⟩)
    have hI2 := insC w0 b #[⟨.agg #[.int .i64 1, .int .i64 1], .int .i64 2, 0⟩] 1 hb 3 3 1 (by omega) (by intro e he; simp at he; subst he; all_goals exact ⟨keyS _ _ (by omega), by simp⟩)
    refine wpAnyH_ready (rs := [4, 6]) (by kernel_rfl) (by simp) ?_
    refine AllReadyH.cons rfl (fun K2 hK2 => ?_) (AllReadyH.cons rfl (fun K2 hK2 => ?_) AllReadyH.nil)
    all_goals go_simp
    · obtain ⟨w01, hW⟩ : ∃ w01, setBlock w0 b (.map #[⟨.agg #[.int .i64 1, .int .i64 1], .int .i64 2, 0⟩, ⟨.agg #[.int .i64 2, .int .i64 2], .int .i64 3, 1⟩] 2) = w01 := ⟨_, rfl⟩
      have hb2 : w01.heap[b]? = some (.map #[⟨.agg #[.int .i64 1, .int .i64 1], .int .i64 2, 0⟩, ⟨.agg #[.int .i64 2, .int .i64 2], .int .i64 3, 1⟩] 2) := by rw [← hW]; exact block_same hlt
      have hB2 := below_block (b := b) (o := .map #[⟨.agg #[.int .i64 1, .int .i64 1], .int .i64 2, 0⟩, ⟨.agg #[.int .i64 2, .int .i64 2], .int .i64 3, 1⟩] 2) HB.out hbase
      rw [hW] at hB2 ⊢
      have hlt2 : b < w01.heap.size := by rw [← hW, size_block]; exact hlt
      have HB2 := Lib.hid hB2
      clear hW hB2 HB hb hlt hI1 hI2
      have hb := hb2
      have HB := HB2
      have hlt := hlt2
      clear hb2 HB2 hlt2
      refine hK2.out _ _ trivial (fun hHeld2 => ?_)
      clear hK2 K2 hHeld
      have hHeld := hHeld2
      clear hHeld2
      try simp (maxSteps := 4000000) only [Act.put, List.setIfInBounds_toArray, List.set_cons_zero, List.set_cons_succ]
      have hI2 := insC w01 b #[⟨.agg #[.int .i64 1, .int .i64 1], .int .i64 2, 0⟩, ⟨.agg #[.int .i64 2, .int .i64 2], .int .i64 3, 1⟩] 2 hb 3 3 1 (by omega) (by intro e he; simp at he; rcases he with rfl | rfl; all_goals exact ⟨keyS _ _ (by omega), by simp⟩)
      refine wpAnyH_ready (rs := [6]) (by kernel_rfl) (by simp) ?_
      refine AllReadyH.cons rfl (fun K2 hK2 => ?_) AllReadyH.nil
      go_simp
      obtain ⟨w012, hW⟩ : ∃ w012, setBlock w01 b (.map #[⟨.agg #[.int .i64 1, .int .i64 1], .int .i64 2, 0⟩, ⟨.agg #[.int .i64 2, .int .i64 2], .int .i64 3, 1⟩, ⟨.agg #[.int .i64 3, .int .i64 3], .int .i64 1, 2⟩] 3) = w012 := ⟨_, rfl⟩
      have hb2 : w012.heap[b]? = some (.map #[⟨.agg #[.int .i64 1, .int .i64 1], .int .i64 2, 0⟩, ⟨.agg #[.int .i64 2, .int .i64 2], .int .i64 3, 1⟩, ⟨.agg #[.int .i64 3, .int .i64 3], .int .i64 1, 2⟩] 3) := by rw [← hW]; exact block_same hlt
      have hB2 := below_block (b := b) (o := .map #[⟨.agg #[.int .i64 1, .int .i64 1], .int .i64 2, 0⟩, ⟨.agg #[.int .i64 2, .int .i64 2], .int .i64 3, 1⟩, ⟨.agg #[.int .i64 3, .int .i64 3], .int .i64 1, 2⟩] 3) HB.out hbase
      rw [hW] at hB2 ⊢
      have hlt2 : b < w012.heap.size := by rw [← hW, size_block]; exact hlt
      have HB2 := Lib.hid hB2
      clear hW hB2 HB hb hlt hI2
      have hb := hb2
      have HB := HB2
      have hlt := hlt2
      clear hb2 HB2 hlt2
      refine hK2.out _ _ trivial (fun hHeld2 => ?_)
      clear hK2 K2 hHeld
      have hHeld := hHeld2
      clear hHeld2
      try simp (maxSteps := 4000000) only [Act.put, List.setIfInBounds_toArray, List.set_cons_zero, List.set_cons_succ]
      refine wpAnyH_take (i := 7) (v := ?_) rfl (by kernel_rfl) (by kernel_rfl) (by kernel_rfl) (fun _ _ _ h => h) (Or.inl ⟨by kernel_rfl, ?_⟩) (by assumption) ?_
      rotate_left
      · (intro w hSw; (try dsimp only at hSw); go_simp)
        try (with_reducible rfl)
      rotate_left
      try simp (maxSteps := 4000000) only [Act.put, List.setIfInBounds_toArray, List.set_cons_zero, List.set_cons_succ, List.getElem_toArray, List.getElem_cons_zero, List.getElem_cons_succ]
      refine wpAnyH_take (i := 8) (v := ?_) rfl (by kernel_rfl) (by kernel_rfl) (by kernel_rfl) (fun _ _ _ h => h) (Or.inl ⟨by kernel_rfl, ?_⟩) (by assumption) ?_
      rotate_left
      · (intro w hSw; (try dsimp only at hSw); go_simp)
        try (with_reducible rfl)
      rotate_left
      try simp (maxSteps := 4000000) only [Act.put, List.setIfInBounds_toArray, List.set_cons_zero, List.set_cons_succ, List.getElem_toArray, List.getElem_cons_zero, List.getElem_cons_succ]
      refine wpAnyH_done (by kernel_rfl) ?_ _
      go_wp2
      go_ret
      exact ⟨b, rfl, hbase, ⟨_, _, hb, by intro e he; simp at he; rcases he with rfl | rfl | rfl <;> simp, ⟨_, by simp; exact Or.inl rfl, rfl⟩, ⟨_, by simp; exact Or.inr (Or.inl rfl), rfl⟩, ⟨_, by simp; exact Or.inr (Or.inr rfl), rfl⟩⟩, HB.out⟩
    · obtain ⟨w02, hW⟩ : ∃ w02, setBlock w0 b (.map #[⟨.agg #[.int .i64 1, .int .i64 1], .int .i64 2, 0⟩, ⟨.agg #[.int .i64 3, .int .i64 3], .int .i64 1, 1⟩] 2) = w02 := ⟨_, rfl⟩
      have hb2 : w02.heap[b]? = some (.map #[⟨.agg #[.int .i64 1, .int .i64 1], .int .i64 2, 0⟩, ⟨.agg #[.int .i64 3, .int .i64 3], .int .i64 1, 1⟩] 2) := by rw [← hW]; exact block_same hlt
      have hB2 := below_block (b := b) (o := .map #[⟨.agg #[.int .i64 1, .int .i64 1], .int .i64 2, 0⟩, ⟨.agg #[.int .i64 3, .int .i64 3], .int .i64 1, 1⟩] 2) HB.out hbase
      rw [hW] at hB2 ⊢
      have hlt2 : b < w02.heap.size := by rw [← hW, size_block]; exact hlt
      have HB2 := Lib.hid hB2
      clear hW hB2 HB hb hlt hI2 hI1
      have hb := hb2
      have HB := HB2
      have hlt := hlt2
      clear hb2 HB2 hlt2
      refine hK2.out _ _ trivial (fun hHeld2 => ?_)
      clear hK2 K2 hHeld
      have hHeld := hHeld2
      clear hHeld2
      try simp (maxSteps := 4000000) only [Act.put, List.setIfInBounds_toArray, List.set_cons_zero, List.set_cons_succ]
      have hI1 := insC w02 b #[⟨.agg #[.int .i64 1, .int .i64 1], .int .i64 2, 0⟩, ⟨.agg #[.int .i64 3, .int .i64 3], .int .i64 1, 1⟩] 2 hb 2 2 3 (by omega) (by intro e he; simp at he; rcases he with rfl | rfl; all_goals exact ⟨keyS _ _ (by omega), by simp⟩)
      refine wpAnyH_ready (rs := [4]) (by kernel_rfl) (by simp) ?_
      refine AllReadyH.cons rfl (fun K2 hK2 => ?_) AllReadyH.nil
      go_simp
      obtain ⟨w021, hW⟩ : ∃ w021, setBlock w02 b (.map #[⟨.agg #[.int .i64 1, .int .i64 1], .int .i64 2, 0⟩, ⟨.agg #[.int .i64 3, .int .i64 3], .int .i64 1, 1⟩, ⟨.agg #[.int .i64 2, .int .i64 2], .int .i64 3, 2⟩] 3) = w021 := ⟨_, rfl⟩
      have hb2 : w021.heap[b]? = some (.map #[⟨.agg #[.int .i64 1, .int .i64 1], .int .i64 2, 0⟩, ⟨.agg #[.int .i64 3, .int .i64 3], .int .i64 1, 1⟩, ⟨.agg #[.int .i64 2, .int .i64 2], .int .i64 3, 2⟩] 3) := by rw [← hW]; exact block_same hlt
      have hB2 := below_block (b := b) (o := .map #[⟨.agg #[.int .i64 1, .int .i64 1], .int .i64 2, 0⟩, ⟨.agg #[.int .i64 3, .int .i64 3], .int .i64 1, 1⟩, ⟨.agg #[.int .i64 2, .int .i64 2], .int .i64 3, 2⟩] 3) HB.out hbase
      rw [hW] at hB2 ⊢
      have hlt2 : b < w021.heap.size := by rw [← hW, size_block]; exact hlt
      have HB2 := Lib.hid hB2
      clear hW hB2 HB hb hlt hI1
      have hb := hb2
      have HB := HB2
      have hlt := hlt2
      clear hb2 HB2 hlt2
      refine hK2.out _ _ trivial (fun hHeld2 => ?_)
      clear hK2 K2 hHeld
      have hHeld := hHeld2
      clear hHeld2
      try simp (maxSteps := 4000000) only [Act.put, List.setIfInBounds_toArray, List.set_cons_zero, List.set_cons_succ]
      refine wpAnyH_take (i := 7) (v := ?_) rfl (by kernel_rfl) (by kernel_rfl) (by kernel_rfl) (fun _ _ _ h => h) (Or.inl ⟨by kernel_rfl, ?_⟩) (by assumption) ?_
      rotate_left
      · (intro w hSw; (try dsimp only at hSw); go_simp)
        try (with_reducible rfl)
      rotate_left
      try simp (maxSteps := 4000000) only [Act.put, List.setIfInBounds_toArray, List.set_cons_zero, List.set_cons_succ, List.getElem_toArray, List.getElem_cons_zero, List.getElem_cons_succ]
      refine wpAnyH_take (i := 8) (v := ?_) rfl (by kernel_rfl) (by kernel_rfl) (by kernel_rfl) (fun _ _ _ h => h) (Or.inl ⟨by kernel_rfl, ?_⟩) (by assumption) ?_
      rotate_left
      · (intro w hSw; (try dsimp only at hSw); go_simp)
        try (with_reducible rfl)
      rotate_left
      try simp (maxSteps := 4000000) only [Act.put, List.setIfInBounds_toArray, List.set_cons_zero, List.set_cons_succ, List.getElem_toArray, List.getElem_cons_zero, List.getElem_cons_succ]
      refine wpAnyH_done (by kernel_rfl) ?_ _
      go_wp2
      go_ret
      exact ⟨b, rfl, hbase, ⟨_, _, hb, by intro e he; simp at he; rcases he with rfl | rfl | rfl <;> simp, ⟨_, by simp; exact Or.inl rfl, rfl⟩, ⟨_, by simp; exact Or.inr (Or.inr rfl), rfl⟩, ⟨_, by simp; exact Or.inr (Or.inl rfl), rfl⟩⟩, HB.out⟩
  · obtain ⟨w1, hW⟩ : ∃ w1, setBlock w_ b (.map #[⟨.agg #[.int .i64 2, .int .i64 2], .int .i64 3, 0⟩] 1) = w1 := ⟨_, rfl⟩
    have hb2 : w1.heap[b]? = some (.map #[⟨.agg #[.int .i64 2, .int .i64 2], .int .i64 3, 0⟩] 1) := by rw [← hW]; exact block_same hlt
    have hB2 := below_block (b := b) (o := .map #[⟨.agg #[.int .i64 2, .int .i64 2], .int .i64 3, 0⟩] 1) HB.out hbase
    rw [hW] at hB2 ⊢
    have hlt2 : b < w1.heap.size := by rw [← hW, size_block]; exact hlt
    have HB2 := Lib.hid hB2
    clear hW hB2 HB hb hlt hI1 hI0 hI2
    have hb := hb2
    have HB := HB2
    have hlt := hlt2
    clear hb2 HB2 hlt2
    refine hK2.out _ _ trivial (fun hHeld2 => ?_)
    clear hK2 K2 hHeld
    have hHeld := hHeld2
    clear hHeld2
    try simp (maxSteps := 4000000) only [Act.put, List.setIfInBounds_toArray, List.set_cons_zero, List.set_cons_succ]
    have hI0 := insC w1 b #[⟨.agg #[.int .i64 2, .int .i64 2], .int .i64 3, 0⟩] 1 hb 1 1 2 (by omega) (by intro e he; simp at he; subst he; all_goals exact ⟨keyS _ _ (by omega), by simp⟩)
    have hI2 := insC w1 b #[⟨.agg #[.int .i64 2, .int .i64 2], .int .i64 3, 0⟩] 1 hb 3 3 1 (by omega) (by intro e he; simp at he; subst he; all_goals exact ⟨keyS _ _ (by omega), by simp⟩)
    refine wpAnyH_ready (rs := [2, 6]) (by kernel_rfl) (by simp) ?_
    refine AllReadyH.cons rfl (fun K2 hK2 => ?_) (AllReadyH.cons rfl (fun K2 hK2 => ?_) AllReadyH.nil)
    all_goals go_simp
    · obtain ⟨w10, hW⟩ : ∃ w10, setBlock w1 b (.map #[⟨.agg #[.int .i64 2, .int .i64 2], .int .i64 3, 0⟩, ⟨.agg #[.int .i64 1, .int .i64 1], .int .i64 2, 1⟩] 2) = w10 := ⟨_, rfl⟩
      have hb2 : w10.heap[b]? = some (.map #[⟨.agg #[.int .i64 2, .int .i64 2], .int .i64 3, 0⟩, ⟨.agg #[.int .i64 1, .int .i64 1], .int .i64 2, 1⟩] 2) := by rw [← hW]; exact block_same hlt
      have hB2 := below_block (b := b) (o := .map #[⟨.agg #[.int .i64 2, .int .i64 2], .int .i64 3, 0⟩, ⟨.agg #[.int .i64 1, .int .i64 1], .int .i64 2, 1⟩] 2) HB.out hbase
      rw [hW] at hB2 ⊢
      have hlt2 : b < w10.heap.size := by rw [← hW, size_block]; exact hlt
      have HB2 := Lib.hid hB2
      clear hW hB2 HB hb hlt hI0 hI2
      have hb := hb2
      have HB := HB2
      have hlt := hlt2
      clear hb2 HB2 hlt2
      refine hK2.out _ _ trivial (fun hHeld2 => ?_)
      clear hK2 K2 hHeld
      have hHeld := hHeld2
      clear hHeld2
      try simp (maxSteps := 4000000) only [Act.put, List.setIfInBounds_toArray, List.set_cons_zero, List.set_cons_succ]
      have hI2 := insC w10 b #[⟨.agg #[.int .i64 2, .int .i64 2], .int .i64 3, 0⟩, ⟨.agg #[.int .i64 1, .int .i64 1], .int .i64 2, 1⟩] 2 hb 3 3 1 (by omega) (by intro e he; simp at he; rcases he with rfl | rfl; all_goals exact ⟨keyS _ _ (by omega), by simp⟩)
      refine wpAnyH_ready (rs := [6]) (by kernel_rfl) (by simp) ?_
      refine AllReadyH.cons rfl (fun K2 hK2 => ?_) AllReadyH.nil
      go_simp
      obtain ⟨w102, hW⟩ : ∃ w102, setBlock w10 b (.map #[⟨.agg #[.int .i64 2, .int .i64 2], .int .i64 3, 0⟩, ⟨.agg #[.int .i64 1, .int .i64 1], .int .i64 2, 1⟩, ⟨.agg #[.int .i64 3, .int .i64 3], .int .i64 1, 2⟩] 3) = w102 := ⟨_, rfl⟩
      have hb2 : w102.heap[b]? = some (.map #[⟨.agg #[.int .i64 2, .int .i64 2], .int .i64 3, 0⟩, ⟨.agg #[.int .i64 1, .int .i64 1], .int .i64 2, 1⟩, ⟨.agg #[.int .i64 3, .int .i64 3], .int .i64 1, 2⟩] 3) := by rw [← hW]; exact block_same hlt
      have hB2 := below_block (b := b) (o := .map #[⟨.agg #[.int .i64 2, .int .i64 2], .int .i64 3, 0⟩, ⟨.agg #[.int .i64 1, .int .i64 1], .int .i64 2, 1⟩, ⟨.agg #[.int .i64 3, .int .i64 3], .int .i64 1, 2⟩] 3) HB.out hbase
      rw [hW] at hB2 ⊢
      have hlt2 : b < w102.heap.size := by rw [← hW, size_block]; exact hlt
      have HB2 := Lib.hid hB2
      clear hW hB2 HB hb hlt hI2
      have hb := hb2
      have HB := HB2
      have hlt := hlt2
      clear hb2 HB2 hlt2
      refine hK2.out _ _ trivial (fun hHeld2 => ?_)
      clear hK2 K2 hHeld
      have hHeld := hHeld2
      clear hHeld2
      try simp (maxSteps := 4000000) only [Act.put, List.setIfInBounds_toArray, List.set_cons_zero, List.set_cons_succ]
      refine wpAnyH_take (i := 7) (v := ?_) rfl (by kernel_rfl) (by kernel_rfl) (by kernel_rfl) (fun _ _ _ h => h) (Or.inl ⟨by kernel_rfl, ?_⟩) (by assumption) ?_
      rotate_left
      · (intro w hSw; (try dsimp only at hSw); go_simp)
        try (with_reducible rfl)
      rotate_left
      try simp (maxSteps := 4000000) only [Act.put, List.setIfInBounds_toArray, List.set_cons_zero, List.set_cons_succ, List.getElem_toArray, List.getElem_cons_zero, List.getElem_cons_succ]
      refine wpAnyH_take (i := 8) (v := ?_) rfl (by kernel_rfl) (by kernel_rfl) (by kernel_rfl) (fun _ _ _ h => h) (Or.inl ⟨by kernel_rfl, ?_⟩) (by assumption) ?_
      rotate_left
      · (intro w hSw; (try dsimp only at hSw); go_simp)
        try (with_reducible rfl)
      rotate_left
      try simp (maxSteps := 4000000) only [Act.put, List.setIfInBounds_toArray, List.set_cons_zero, List.set_cons_succ, List.getElem_toArray, List.getElem_cons_zero, List.getElem_cons_succ]
      refine wpAnyH_done (by kernel_rfl) ?_ _
      go_wp2
      go_ret
      exact ⟨b, rfl, hbase, ⟨_, _, hb, by intro e he; simp at he; rcases he with rfl | rfl | rfl <;> simp, ⟨_, by simp; exact Or.inr (Or.inl rfl), rfl⟩, ⟨_, by simp; exact Or.inl rfl, rfl⟩, ⟨_, by simp; exact Or.inr (Or.inr rfl), rfl⟩⟩, HB.out⟩
    · obtain ⟨w12, hW⟩ : ∃ w12, setBlock w1 b (.map #[⟨.agg #[.int .i64 2, .int .i64 2], .int .i64 3, 0⟩, ⟨.agg #[.int .i64 3, .int .i64 3], .int .i64 1, 1⟩] 2) = w12 := ⟨_, rfl⟩
      have hb2 : w12.heap[b]? = some (.map #[⟨.agg #[.int .i64 2, .int .i64 2], .int .i64 3, 0⟩, ⟨.agg #[.int .i64 3, .int .i64 3], .int .i64 1, 1⟩] 2) := by rw [← hW]; exact block_same hlt
      have hB2 := below_block (b := b) (o := .map #[⟨.agg #[.int .i64 2, .int .i64 2], .int .i64 3, 0⟩, ⟨.agg #[.int .i64 3, .int .i64 3], .int .i64 1, 1⟩] 2) HB.out hbase
      rw [hW] at hB2 ⊢
      have hlt2 : b < w12.heap.size := by rw [← hW, size_block]; exact hlt
      have HB2 := Lib.hid hB2
      clear hW hB2 HB hb hlt hI2 hI0
      have hb := hb2
      have HB := HB2
      have hlt := hlt2
      clear hb2 HB2 hlt2
      refine hK2.out _ _ trivial (fun hHeld2 => ?_)
      clear hK2 K2 hHeld
      have hHeld := hHeld2
      clear hHeld2
      try simp (maxSteps := 4000000) only [Act.put, List.setIfInBounds_toArray, List.set_cons_zero, List.set_cons_succ]
      have hI0 := insC w12 b #[⟨.agg #[.int .i64 2, .int .i64 2], .int .i64 3, 0⟩, ⟨.agg #[.int .i64 3, .int .i64 3], .int .i64 1, 1⟩] 2 hb 1 1 2 (by omega) (by intro e he; simp at he; rcases he with rfl | rfl; all_goals exact ⟨keyS _ _ (by omega), by simp⟩)
      refine wpAnyH_ready (rs := [2]) (by kernel_rfl) (by simp) ?_
      refine AllReadyH.cons rfl (fun K2 hK2 => ?_) AllReadyH.nil
      go_simp
      obtain ⟨w120, hW⟩ : ∃ w120, setBlock w12 b (.map #[⟨.agg #[.int .i64 2, .int .i64 2], .int .i64 3, 0⟩, ⟨.agg #[.int .i64 3, .int .i64 3], .int .i64 1, 1⟩, ⟨.agg #[.int .i64 1, .int .i64 1], .int .i64 2, 2⟩] 3) = w120 := ⟨_, rfl⟩
      have hb2 : w120.heap[b]? = some (.map #[⟨.agg #[.int .i64 2, .int .i64 2], .int .i64 3, 0⟩, ⟨.agg #[.int .i64 3, .int .i64 3], .int .i64 1, 1⟩, ⟨.agg #[.int .i64 1, .int .i64 1], .int .i64 2, 2⟩] 3) := by rw [← hW]; exact block_same hlt
      have hB2 := below_block (b := b) (o := .map #[⟨.agg #[.int .i64 2, .int .i64 2], .int .i64 3, 0⟩, ⟨.agg #[.int .i64 3, .int .i64 3], .int .i64 1, 1⟩, ⟨.agg #[.int .i64 1, .int .i64 1], .int .i64 2, 2⟩] 3) HB.out hbase
      rw [hW] at hB2 ⊢
      have hlt2 : b < w120.heap.size := by rw [← hW, size_block]; exact hlt
      have HB2 := Lib.hid hB2
      clear hW hB2 HB hb hlt hI0
      have hb := hb2
      have HB := HB2
      have hlt := hlt2
      clear hb2 HB2 hlt2
      refine hK2.out _ _ trivial (fun hHeld2 => ?_)
      clear hK2 K2 hHeld
      have hHeld := hHeld2
      clear hHeld2
      try simp (maxSteps := 4000000) only [Act.put, List.setIfInBounds_toArray, List.set_cons_zero, List.set_cons_succ]
      refine wpAnyH_take (i := 7) (v := ?_) rfl (by kernel_rfl) (by kernel_rfl) (by kernel_rfl) (fun _ _ _ h => h) (Or.inl ⟨by kernel_rfl, ?_⟩) (by assumption) ?_
      rotate_left
      · (intro w hSw; (try dsimp only at hSw); go_simp)
        try (with_reducible rfl)
      rotate_left
      try simp (maxSteps := 4000000) only [Act.put, List.setIfInBounds_toArray, List.set_cons_zero, List.set_cons_succ, List.getElem_toArray, List.getElem_cons_zero, List.getElem_cons_succ]
      refine wpAnyH_take (i := 8) (v := ?_) rfl (by kernel_rfl) (by kernel_rfl) (by kernel_rfl) (fun _ _ _ h => h) (Or.inl ⟨by kernel_rfl, ?_⟩) (by assumption) ?_
      rotate_left
      · (intro w hSw; (try dsimp only at hSw); go_simp)
        try (with_reducible rfl)
      rotate_left
      try simp (maxSteps := 4000000) only [Act.put, List.setIfInBounds_toArray, List.set_cons_zero, List.set_cons_succ, List.getElem_toArray, List.getElem_cons_zero, List.getElem_cons_succ]
      refine wpAnyH_done (by kernel_rfl) ?_ _
      go_wp2
      go_ret
      exact ⟨b, rfl, hbase, ⟨_, _, hb, by intro e he; simp at he; rcases he with rfl | rfl | rfl <;> simp, ⟨_, by simp; exact Or.inr (Or.inr rfl), rfl⟩, ⟨_, by simp; exact Or.inl rfl, rfl⟩, ⟨_, by simp; exact Or.inr (Or.inl rfl), rfl⟩⟩, HB.out⟩
  · obtain ⟨w2, hW⟩ : ∃ w2, setBlock w_ b (.map #[⟨.agg #[.int .i64 3, .int .i64 3], .int .i64 1, 0⟩] 1) = w2 := ⟨_, rfl⟩
    have hb2 : w2.heap[b]? = some (.map #[⟨.agg #[.int .i64 3, .int .i64 3], .int .i64 1, 0⟩] 1) := by rw [← hW]; exact block_same hlt
    have hB2 := below_block (b := b) (o := .map #[⟨.agg #[.int .i64 3, .int .i64 3], .int .i64 1, 0⟩] 1) HB.out hbase
    rw [hW] at hB2 ⊢
    have hlt2 : b < w2.heap.size := by rw [← hW, size_block]; exact hlt
    have HB2 := Lib.hid hB2
    clear hW hB2 HB hb hlt hI2 hI0 hI1
    have hb := hb2
    have HB := HB2
    have hlt := hlt2
    clear hb2 HB2 hlt2
    refine hK2.out _ _ trivial (fun hHeld2 => ?_)
    clear hK2 K2 hHeld
    have hHeld := hHeld2
    clear hHeld2
    try simp (maxSteps := 4000000) only [Act.put, List.setIfInBounds_toArray, List.set_cons_zero, List.set_cons_succ]
    have hI0 := insC w2 b #[⟨.agg #[.int .i64 3, .int .i64 3], .int .i64 1, 0⟩] 1 hb 1 1 2 (by omega) (by intro e he; simp at he; subst he; all_goals exact ⟨keyS _ _ (by omega), by simp⟩)
    have hI1 := insC w2 b #[⟨.agg #[.int .i64 3, .int .i64 3], .int .i64 1, 0⟩] 1 hb 2 2 3 (by omega) (by intro e he; simp at he; subst he; all_goals exact ⟨keyS _ _ (by omega), by simp⟩)
    refine wpAnyH_ready (rs := [2, 4]) (by kernel_rfl) (by simp) ?_
    refine AllReadyH.cons rfl (fun K2 hK2 => ?_) (AllReadyH.cons rfl (fun K2 hK2 => ?_) AllReadyH.nil)
    all_goals go_simp
    · obtain ⟨w20, hW⟩ : ∃ w20, setBlock w2 b (.map #[⟨.agg #[.int .i64 3, .int .i64 3], .int .i64 1, 0⟩, ⟨.agg #[.int .i64 1, .int .i64 1], .int .i64 2, 1⟩] 2) = w20 := ⟨_, rfl⟩
      have hb2 : w20.heap[b]? = some (.map #[⟨.agg #[.int .i64 3, .int .i64 3], .int .i64 1, 0⟩, ⟨.agg #[.int .i64 1, .int .i64 1], .int .i64 2, 1⟩] 2) := by rw [← hW]; exact block_same hlt
      have hB2 := below_block (b := b) (o := .map #[⟨.agg #[.int .i64 3, .int .i64 3], .int .i64 1, 0⟩, ⟨.agg #[.int .i64 1, .int .i64 1], .int .i64 2, 1⟩] 2) HB.out hbase
      rw [hW] at hB2 ⊢
      have hlt2 : b < w20.heap.size := by rw [← hW, size_block]; exact hlt
      have HB2 := Lib.hid hB2
      clear hW hB2 HB hb hlt hI0 hI1
      have hb := hb2
      have HB := HB2
      have hlt := hlt2
      clear hb2 HB2 hlt2
      refine hK2.out _ _ trivial (fun hHeld2 => ?_)
      clear hK2 K2 hHeld
      have hHeld := hHeld2
      clear hHeld2
      try simp (maxSteps := 4000000) only [Act.put, List.setIfInBounds_toArray, List.set_cons_zero, List.set_cons_succ]
      have hI1 := insC w20 b #[⟨.agg #[.int .i64 3, .int .i64 3], .int .i64 1, 0⟩, ⟨.agg #[.int .i64 1, .int .i64 1], .int .i64 2, 1⟩] 2 hb 2 2 3 (by omega) (by intro e he; simp at he; rcases he with rfl | rfl; all_goals exact ⟨keyS _ _ (by omega), by simp⟩)
      refine wpAnyH_ready (rs := [4]) (by kernel_rfl) (by simp) ?_
      refine AllReadyH.cons rfl (fun K2 hK2 => ?_) AllReadyH.nil
      go_simp
      obtain ⟨w201, hW⟩ : ∃ w201, setBlock w20 b (.map #[⟨.agg #[.int .i64 3, .int .i64 3], .int .i64 1, 0⟩, ⟨.agg #[.int .i64 1, .int .i64 1], .int .i64 2, 1⟩, ⟨.agg #[.int .i64 2, .int .i64 2], .int .i64 3, 2⟩] 3) = w201 := ⟨_, rfl⟩
      have hb2 : w201.heap[b]? = some (.map #[⟨.agg #[.int .i64 3, .int .i64 3], .int .i64 1, 0⟩, ⟨.agg #[.int .i64 1, .int .i64 1], .int .i64 2, 1⟩, ⟨.agg #[.int .i64 2, .int .i64 2], .int .i64 3, 2⟩] 3) := by rw [← hW]; exact block_same hlt
      have hB2 := below_block (b := b) (o := .map #[⟨.agg #[.int .i64 3, .int .i64 3], .int .i64 1, 0⟩, ⟨.agg #[.int .i64 1, .int .i64 1], .int .i64 2, 1⟩, ⟨.agg #[.int .i64 2, .int .i64 2], .int .i64 3, 2⟩] 3) HB.out hbase
      rw [hW] at hB2 ⊢
      have hlt2 : b < w201.heap.size := by rw [← hW, size_block]; exact hlt
      have HB2 := Lib.hid hB2
      clear hW hB2 HB hb hlt hI1
      have hb := hb2
      have HB := HB2
      have hlt := hlt2
      clear hb2 HB2 hlt2
      refine hK2.out _ _ trivial (fun hHeld2 => ?_)
      clear hK2 K2 hHeld
      have hHeld := hHeld2
      clear hHeld2
      try simp (maxSteps := 4000000) only [Act.put, List.setIfInBounds_toArray, List.set_cons_zero, List.set_cons_succ]
      refine wpAnyH_take (i := 7) (v := ?_) rfl (by kernel_rfl) (by kernel_rfl) (by kernel_rfl) (fun _ _ _ h => h) (Or.inl ⟨by kernel_rfl, ?_⟩) (by assumption) ?_
      rotate_left
      · (intro w hSw; (try dsimp only at hSw); go_simp)
        try (with_reducible rfl)
      rotate_left
      try simp (maxSteps := 4000000) only [Act.put, List.setIfInBounds_toArray, List.set_cons_zero, List.set_cons_succ, List.getElem_toArray, List.getElem_cons_zero, List.getElem_cons_succ]
      refine wpAnyH_take (i := 8) (v := ?_) rfl (by kernel_rfl) (by kernel_rfl) (by kernel_rfl) (fun _ _ _ h => h) (Or.inl ⟨by kernel_rfl, ?_⟩) (by assumption) ?_
      rotate_left
      · (intro w hSw; (try dsimp only at hSw); go_simp)
        try (with_reducible rfl)
      rotate_left
      try simp (maxSteps := 4000000) only [Act.put, List.setIfInBounds_toArray, List.set_cons_zero, List.set_cons_succ, List.getElem_toArray, List.getElem_cons_zero, List.getElem_cons_succ]
      refine wpAnyH_done (by kernel_rfl) ?_ _
      go_wp2
      go_ret
      exact ⟨b, rfl, hbase, ⟨_, _, hb, by intro e he; simp at he; rcases he with rfl | rfl | rfl <;> simp, ⟨_, by simp; exact Or.inr (Or.inl rfl), rfl⟩, ⟨_, by simp; exact Or.inr (Or.inr rfl), rfl⟩, ⟨_, by simp; exact Or.inl rfl, rfl⟩⟩, HB.out⟩
    · obtain ⟨w21, hW⟩ : ∃ w21, setBlock w2 b (.map #[⟨.agg #[.int .i64 3, .int .i64 3], .int .i64 1, 0⟩, ⟨.agg #[.int .i64 2, .int .i64 2], .int .i64 3, 1⟩] 2) = w21 := ⟨_, rfl⟩
      have hb2 : w21.heap[b]? = some (.map #[⟨.agg #[.int .i64 3, .int .i64 3], .int .i64 1, 0⟩, ⟨.agg #[.int .i64 2, .int .i64 2], .int .i64 3, 1⟩] 2) := by rw [← hW]; exact block_same hlt
      have hB2 := below_block (b := b) (o := .map #[⟨.agg #[.int .i64 3, .int .i64 3], .int .i64 1, 0⟩, ⟨.agg #[.int .i64 2, .int .i64 2], .int .i64 3, 1⟩] 2) HB.out hbase
      rw [hW] at hB2 ⊢
      have hlt2 : b < w21.heap.size := by rw [← hW, size_block]; exact hlt
      have HB2 := Lib.hid hB2
      clear hW hB2 HB hb hlt hI1 hI0
      have hb := hb2
      have HB := HB2
      have hlt := hlt2
      clear hb2 HB2 hlt2
      refine hK2.out _ _ trivial (fun hHeld2 => ?_)
      clear hK2 K2 hHeld
      have hHeld := hHeld2
      clear hHeld2
      try simp (maxSteps := 4000000) only [Act.put, List.setIfInBounds_toArray, List.set_cons_zero, List.set_cons_succ]
      have hI0 := insC w21 b #[⟨.agg #[.int .i64 3, .int .i64 3], .int .i64 1, 0⟩, ⟨.agg #[.int .i64 2, .int .i64 2], .int .i64 3, 1⟩] 2 hb 1 1 2 (by omega) (by intro e he; simp at he; rcases he with rfl | rfl; all_goals exact ⟨keyS _ _ (by omega), by simp⟩)
      refine wpAnyH_ready (rs := [2]) (by kernel_rfl) (by simp) ?_
      refine AllReadyH.cons rfl (fun K2 hK2 => ?_) AllReadyH.nil
      go_simp
      obtain ⟨w210, hW⟩ : ∃ w210, setBlock w21 b (.map #[⟨.agg #[.int .i64 3, .int .i64 3], .int .i64 1, 0⟩, ⟨.agg #[.int .i64 2, .int .i64 2], .int .i64 3, 1⟩, ⟨.agg #[.int .i64 1, .int .i64 1], .int .i64 2, 2⟩] 3) = w210 := ⟨_, rfl⟩
      have hb2 : w210.heap[b]? = some (.map #[⟨.agg #[.int .i64 3, .int .i64 3], .int .i64 1, 0⟩, ⟨.agg #[.int .i64 2, .int .i64 2], .int .i64 3, 1⟩, ⟨.agg #[.int .i64 1, .int .i64 1], .int .i64 2, 2⟩] 3) := by rw [← hW]; exact block_same hlt
      have hB2 := below_block (b := b) (o := .map #[⟨.agg #[.int .i64 3, .int .i64 3], .int .i64 1, 0⟩, ⟨.agg #[.int .i64 2, .int .i64 2], .int .i64 3, 1⟩, ⟨.agg #[.int .i64 1, .int .i64 1], .int .i64 2, 2⟩] 3) HB.out hbase
      rw [hW] at hB2 ⊢
      have hlt2 : b < w210.heap.size := by rw [← hW, size_block]; exact hlt
      have HB2 := Lib.hid hB2
      clear hW hB2 HB hb hlt hI0
      have hb := hb2
      have HB := HB2
      have hlt := hlt2
      clear hb2 HB2 hlt2
      refine hK2.out _ _ trivial (fun hHeld2 => ?_)
      clear hK2 K2 hHeld
      have hHeld := hHeld2
      clear hHeld2
      try simp (maxSteps := 4000000) only [Act.put, List.setIfInBounds_toArray, List.set_cons_zero, List.set_cons_succ]
      refine wpAnyH_take (i := 7) (v := ?_) rfl (by kernel_rfl) (by kernel_rfl) (by kernel_rfl) (fun _ _ _ h => h) (Or.inl ⟨by kernel_rfl, ?_⟩) (by assumption) ?_
      rotate_left
      · (intro w hSw; (try dsimp only at hSw); go_simp)
        try (with_reducible rfl)
      rotate_left
      try simp (maxSteps := 4000000) only [Act.put, List.setIfInBounds_toArray, List.set_cons_zero, List.set_cons_succ, List.getElem_toArray, List.getElem_cons_zero, List.getElem_cons_succ]
      refine wpAnyH_take (i := 8) (v := ?_) rfl (by kernel_rfl) (by kernel_rfl) (by kernel_rfl) (fun _ _ _ h => h) (Or.inl ⟨by kernel_rfl, ?_⟩) (by assumption) ?_
      rotate_left
      · (intro w hSw; (try dsimp only at hSw); go_simp)
        try (with_reducible rfl)
      rotate_left
      try simp (maxSteps := 4000000) only [Act.put, List.setIfInBounds_toArray, List.set_cons_zero, List.set_cons_succ, List.getElem_toArray, List.getElem_cons_zero, List.getElem_cons_succ]
      refine wpAnyH_done (by kernel_rfl) ?_ _
      go_wp2
      go_ret
      exact ⟨b, rfl, hbase, ⟨_, _, hb, by intro e he; simp at he; rcases he with rfl | rfl | rfl <;> simp, ⟨_, by simp; exact Or.inr (Or.inr rfl), rfl⟩, ⟨_, by simp; exact Or.inr (Or.inl rfl), rfl⟩, ⟨_, by simp; exact Or.inl rfl, rfl⟩⟩, HB.out⟩
end Go.Proofs.Ytbmcgoodilomlaa
