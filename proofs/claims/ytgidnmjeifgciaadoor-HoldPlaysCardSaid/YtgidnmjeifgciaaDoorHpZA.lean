/- HpZPtree, HpZPw3, HpZPw4 in one text: a claim holds at most 60 files. -/
import Derived.Test.YtgidnmjeifgciaaDoorHpZS
import Derived.Deep.RegionHeld3
import Derived.Deep.CutBlock
namespace Go.Proofs.YtgidnmjeifgciaaDoor
set_option maxRecDepth 100000
open Go.RowKit Go.ChangeMaps Go.MapKept
set_option linter.unusedVariables false
set_option linter.unusedSimpArgs false

set_option maxHeartbeats 60000000 in
theorem hpStep_tree : hpStep.1 := by
  intro l cp W T L hl HLEN Z zz0 v0 HB0 v1 M col a0 va v2 cl1 zz1 wo u24 u25 u26 u27 u28 u29 u30 zz2 zz3 v3 cl3 w4 zz4 zz5 wr u2 u7 u8 u9 u10 u11 u12 u13 u14 u15 u16 u17 u36 u37 u38 u39 u40 u41 u42 u43 u44 u45 u46 u47 u48 u49 u50 u51 u52 u53 u54 u55 u56 u57 u58 u59 u60 u61 u62 u63 u64 u65 u66 u67 u68 u69 u70 u71 u72 u73 u74 u75 u76 u77 u78 u79 u80 u81 u82 u83 u84 u85 u86 u87 u88 u89 u90 u91 u92 u93 u94 u95 u96 u97 u98 u99 u100 u101 u102 u103 u104 u105 u106 u107 u108 u109 u110 u111 u112 u113 u114 u115 u116 u117 u118 u119 u120 u121 u122 u123 u124 u125 u126 u127 u128 u129 u130 u131 u132 u133 u134 u135 u136 u137 u138 u139 u140 u141 u142 u143 u144 u145 u146 u147 u148 u149 u150 u151 u152 u153 u154 u155 u156 u157 u158 u159 u160 u161 u162 u163 u164 u165 u166 u167 u168 u169 u170 u171 u172 u173 u174 u175 u176 u177 u178 u179 u180 u181 i σ r cl hi hi30 HP g1 g2 g1I g2I p ab ao HA zz6 zz7 HAB HZW zz8 zz9 zz10 zz11 zz12 zz13 zz14 zz15 zz16
  have HTAKE := Lib.hid (fun (w' : World) (h : HVAt w' ab (ao + i * 13) p) => h.1)
  refine wp_region_held_drew (S := fun w' => HVAt w' ab (ao + i * 13) p) (by kernel_rfl) ?_ (fun hHeld => ?_)
  · exact HAB.out.2.keep (by have := HAB.out.1; have := HZW.out; omega) (Below.refl _ _).drew
  refine wpAnyH_take (i := 0) (v := ?_) rfl (by kernel_rfl) (by kernel_rfl) (by kernel_rfl) (fun _ _ _ h => h) (Or.inl ⟨by kernel_rfl, ?_⟩) (by assumption) ?_
  rotate_left
  · (intro w hSw; (try dsimp only at hSw); (try have hTk := Hid.out HTAKE _ hSw); go_simp)
    try (with_reducible rfl)
  rotate_left
  try simp (maxSteps := 4000000) only [Act.put, List.setIfInBounds_toArray, List.set_cons_zero, List.set_cons_succ, List.getElem_toArray, List.getElem_cons_zero, List.getElem_cons_succ]
  refine wpAnyH_take (i := 1) (v := ?_) rfl (by kernel_rfl) (by kernel_rfl) (by kernel_rfl) (fun _ _ _ h => h) (Or.inl ⟨by kernel_rfl, ?_⟩) (by assumption) ?_
  rotate_left
  · (intro w hSw; (try dsimp only at hSw); (try have hTk := Hid.out HTAKE _ hSw); go_simp)
    try (with_reducible rfl)
  rotate_left
  try simp (maxSteps := 4000000) only [Act.put, List.setIfInBounds_toArray, List.set_cons_zero, List.set_cons_succ, List.getElem_toArray, List.getElem_cons_zero, List.getElem_cons_succ]
  refine wpAnyH_take (i := 2) (v := ?_) rfl (by kernel_rfl) (by kernel_rfl) (by kernel_rfl) (fun _ _ _ h => h) (Or.inl ⟨by kernel_rfl, ?_⟩) (by assumption) ?_
  rotate_left
  · (intro w hSw; (try dsimp only at hSw); (try have hTk := Hid.out HTAKE _ hSw); go_simp)
    try (with_reducible rfl)
  rotate_left
  try simp (maxSteps := 4000000) only [Act.put, List.setIfInBounds_toArray, List.set_cons_zero, List.set_cons_succ, List.getElem_toArray, List.getElem_cons_zero, List.getElem_cons_succ]
  refine wpAnyH_take (i := 3) (v := ?_) rfl (by kernel_rfl) (by kernel_rfl) (by kernel_rfl) (fun _ _ _ h => h) (Or.inl ⟨by kernel_rfl, ?_⟩) (by assumption) ?_
  rotate_left
  · (intro w hSw; (try dsimp only at hSw); (try have hTk := Hid.out HTAKE _ hSw); go_simp)
    try (with_reducible rfl)
  rotate_left
  try simp (maxSteps := 4000000) only [Act.put, List.setIfInBounds_toArray, List.set_cons_zero, List.set_cons_succ, List.getElem_toArray, List.getElem_cons_zero, List.getElem_cons_succ]
  refine wpAnyH_take (i := 4) (v := ?_) rfl (by kernel_rfl) (by kernel_rfl) (by kernel_rfl) (fun _ _ _ h => h) (Or.inl ⟨by kernel_rfl, ?_⟩) (by assumption) ?_
  rotate_left
  · (intro w hSw; (try dsimp only at hSw); (try have hTk := Hid.out HTAKE _ hSw); go_simp)
    try (with_reducible rfl)
  rotate_left
  try simp (maxSteps := 4000000) only [Act.put, List.setIfInBounds_toArray, List.set_cons_zero, List.set_cons_succ, List.getElem_toArray, List.getElem_cons_zero, List.getElem_cons_succ]
  refine wpAnyH_take (i := 6) (v := ?_) rfl (by kernel_rfl) (by kernel_rfl) (by kernel_rfl) (fun _ _ _ h => h) (Or.inl ⟨by kernel_rfl, ?_⟩) (by assumption) ?_
  rotate_left
  · (intro w hSw; (try dsimp only at hSw); (try have hTk := Hid.out HTAKE _ hSw); go_simp)
    try (with_reducible rfl)
  rotate_left
  try simp (maxSteps := 4000000) only [Act.put, List.setIfInBounds_toArray, List.set_cons_zero, List.set_cons_succ, List.getElem_toArray, List.getElem_cons_zero, List.getElem_cons_succ]
  refine wpAnyH_take (i := 7) (v := ?_) rfl (by kernel_rfl) (by kernel_rfl) (by kernel_rfl) (fun _ _ _ h => h) (Or.inl ⟨by kernel_rfl, ?_⟩) (by assumption) ?_
  rotate_left
  · (intro w hSw; (try dsimp only at hSw); (try have hTk := Hid.out HTAKE _ hSw); go_simp)
    try (with_reducible rfl)
  rotate_left
  try simp (maxSteps := 4000000) only [Act.put, List.setIfInBounds_toArray, List.set_cons_zero, List.set_cons_succ, List.getElem_toArray, List.getElem_cons_zero, List.getElem_cons_succ]
  refine wpAnyH_take (i := 8) (v := ?_) rfl (by kernel_rfl) (by kernel_rfl) (by kernel_rfl) (fun _ _ _ h => h) (Or.inl ⟨by kernel_rfl, ?_⟩) (by assumption) ?_
  rotate_left
  · (intro w hSw; (try dsimp only at hSw); (try have hTk := Hid.out HTAKE _ hSw); go_simp)
    try (with_reducible rfl)
  rotate_left
  try simp (maxSteps := 4000000) only [Act.put, List.setIfInBounds_toArray, List.set_cons_zero, List.set_cons_succ, List.getElem_toArray, List.getElem_cons_zero, List.getElem_cons_succ]
  refine wpAnyH_take (i := 9) (v := ?_) rfl (by kernel_rfl) (by kernel_rfl) (by kernel_rfl) (fun _ _ _ h => h) (Or.inl ⟨by kernel_rfl, ?_⟩) (by assumption) ?_
  rotate_left
  · (intro w hSw; (try dsimp only at hSw); (try have hTk := Hid.out HTAKE _ hSw); go_simp)
    try (with_reducible rfl)
  rotate_left
  try simp (maxSteps := 4000000) only [Act.put, List.setIfInBounds_toArray, List.set_cons_zero, List.set_cons_succ, List.getElem_toArray, List.getElem_cons_zero, List.getElem_cons_succ]
  refine wpAnyH_take (i := 10) (v := ?_) rfl (by kernel_rfl) (by kernel_rfl) (by kernel_rfl) (fun _ _ _ h => h) (Or.inl ⟨by kernel_rfl, ?_⟩) (by assumption) ?_
  rotate_left
  · (intro w hSw; (try dsimp only at hSw); (try have hTk := Hid.out HTAKE _ hSw); go_simp)
    try (with_reducible rfl)
  rotate_left
  try simp (maxSteps := 4000000) only [Act.put, List.setIfInBounds_toArray, List.set_cons_zero, List.set_cons_succ, List.getElem_toArray, List.getElem_cons_zero, List.getElem_cons_succ]
  refine wpAnyH_ready (rs := [5, 12, 13]) (by kernel_rfl) (by simp) ?_
  refine AllReadyH.cons rfl (fun K2 hK2 => ?_) (AllReadyH.cons rfl (fun K2 hK2 => ?_) (AllReadyH.cons rfl (fun K2 hK2 => ?_) AllReadyH.nil))
  all_goals go_simp
  · with_reducible refine Calls.mono (few14 _ _ _ _ _ _ _) ?_
    rintro e u1 ⟨b0, l0, c0, p0, t0, rfl, hq0, hb⟩
    have HQ0 := Lib.hid hq0
    clear hq0
    have hb : Below wr.heap.size wr u1 := thn (Below.refl _ _).drew hb
    have HB9 := Lib.hid hb
    refine hK2.out _ _ (HAB.out.2.keep (by have := HAB.out.1; have := HZW.out; omega) hb) (fun hHeld2 => ?_)
    clear hb
    clear hK2 K2 hHeld
    have hHeld := hHeld2
    clear hHeld2
    try simp (maxSteps := 4000000) only [Act.put, List.setIfInBounds_toArray, List.set_cons_zero, List.set_cons_succ]
    refine wpAnyH_ready (rs := [11, 12, 13]) (by kernel_rfl) (by simp) ?_
    refine AllReadyH.cons rfl (fun K2 hK2 => ?_) (AllReadyH.cons rfl (fun K2 hK2 => ?_) (AllReadyH.cons rfl (fun K2 hK2 => ?_) AllReadyH.nil))
    all_goals go_simp
    · with_reducible refine Calls.mono (few14 _ _ _ _ _ _ _) ?_
      rintro e u2 ⟨b1, l1, c1, p1, t1, rfl, hq1, hb⟩
      have HQ1 := Lib.hid hq1
      clear hq1
      have HB9n := Lib.hid (thn HB9.out hb)
      clear HB9
      have HB9 := HB9n
      clear HB9n
      refine hK2.out _ _ (HVAt.keep hHeld (HVAt.low hHeld) hb) (fun hHeld2 => ?_)
      clear hb
      clear hK2 K2 hHeld
      have hHeld := hHeld2
      clear hHeld2
      try simp (maxSteps := 4000000) only [Act.put, List.setIfInBounds_toArray, List.set_cons_zero, List.set_cons_succ]
      refine wpAnyH_ready (rs := [12, 13]) (by kernel_rfl) (by simp) ?_
      refine AllReadyH.cons rfl (fun K2 hK2 => ?_) (AllReadyH.cons rfl (fun K2 hK2 => ?_) AllReadyH.nil)
      all_goals go_simp
      · obtain ⟨x6, u3, hx6, hw9, hz9, hb⟩ := cz_next u2
        rw [hw9]
        try rw [hx6]
        clear hw9
        have HB9n := Lib.hid (thn HB9.out hb)
        have HA6n := Lib.hid (And.intro hz9 (show wr.heap.size ≤ x6 by have := HB9.out.size; omega))
        clear hx6 hz9
        clear HB9
        have HB9 := HB9n
        clear HB9n
        have HA6 := HA6n
        clear HA6n
        refine hK2.out _ _ (HVAt.keep hHeld (HVAt.low hHeld) hb) (fun hHeld2 => ?_)
        clear hb
        clear hK2 K2 hHeld
        have hHeld := hHeld2
        clear hHeld2
        try simp (maxSteps := 4000000) only [Act.put, List.setIfInBounds_toArray, List.set_cons_zero, List.set_cons_succ]
        refine wpAnyH_ready (rs := [13]) (by kernel_rfl) (by simp) ?_
        refine AllReadyH.cons rfl (fun K2 hK2 => ?_) AllReadyH.nil
        go_simp
        obtain ⟨x7, u4, hx7, hw9, hz9, hb⟩ := cz_next u3
        rw [hw9]
        try rw [hx7]
        clear hw9
        have HB9n := Lib.hid (thn HB9.out hb)
        have HA7n := Lib.hid (And.intro hz9 (show wr.heap.size ≤ x7 by have := HB9.out.size; omega))
        have hx67 : x6 ≠ x7 := by have h1 := HA6.out.1.1; omega
        clear hx7 hz9
        clear HB9
        have HB9 := HB9n
        clear HB9n
        have HA6n := Lib.hid (And.intro (HA6.out.1.below hb) HA6.out.2)
        clear HA6
        have HA6 := HA6n
        clear HA6n
        have HA7 := HA7n
        clear HA7n
        refine hK2.out _ _ (HVAt.keep hHeld (HVAt.low hHeld) hb) (fun hHeld2 => ?_)
        clear hb
        clear hK2 K2 hHeld
        have hHeld := hHeld2
        clear hHeld2
        try simp (maxSteps := 4000000) only [Act.put, List.setIfInBounds_toArray, List.set_cons_zero, List.set_cons_succ]
        obtain ⟨-, z60, z61, z62, z63, z64, z65, -⟩ := HA6.out.1
        obtain ⟨g60, g61, g62, g63, g64, g65⟩ := HA6.out.1.fz
        refine wpAnyH_ready (rs := [14]) (by kernel_rfl) (by simp) ?_
        refine AllReadyH.cons rfl (fun K2 hK2 => ?_) AllReadyH.nil
        go_simp
        obtain ⟨u5, hw9, hz9, hs9, hk9, hb9⟩ := cap_st HA6.out.1 HA6.out.2 HB9.out b0 l0 c0 p0 t0 true
        rw [hw9]
        clear hw9 z60 g60 z61 g61 z62 g62 z63 g63 z64 g64 z65 g65
        have HA6n := Lib.hid (And.intro hz9 HA6.out.2)
        have HA7n := Lib.hid (And.intro (HA7.out.1.keep (Nat.le_of_eq hs9.symm) (hk9 _ hx67.symm)) HA7.out.2)
        have HB9n := Lib.hid hb9
        refine hK2.out _ _ (HVAt.same hHeld (hk9 _ (by have := HAB.out.1; have := HZW.out; have := HA6.out.2; omega))) (fun hHeld2 => ?_)
        clear HA6 HA7 HB9 hz9 hs9 hk9 hb9
        have HA6 := HA6n
        have HA7 := HA7n
        have HB9 := HB9n
        clear HA6n HA7n HB9n
        clear hK2 K2 hHeld
        have hHeld := hHeld2
        clear hHeld2
        try simp (maxSteps := 4000000) only [Act.put, List.setIfInBounds_toArray, List.set_cons_zero, List.set_cons_succ]
        obtain ⟨-, z70, z71, z72, z73, z74, z75, -⟩ := HA7.out.1
        obtain ⟨g70, g71, g72, g73, g74, g75⟩ := HA7.out.1.fz
        refine wpAnyH_ready (rs := [15]) (by kernel_rfl) (by simp) ?_
        refine AllReadyH.cons rfl (fun K2 hK2 => ?_) AllReadyH.nil
        go_simp
        obtain ⟨u6, hw9, hz9, hs9, hk9, hb9⟩ := cap_st HA7.out.1 HA7.out.2 HB9.out b1 l1 c1 p1 t1 true
        rw [hw9]
        clear hw9 z70 g70 z71 g71 z72 g72 z73 g73 z74 g74 z75 g75
        have HA7n := Lib.hid (And.intro hz9 HA7.out.2)
        have HA6n := Lib.hid (And.intro (HA6.out.1.keep (Nat.le_of_eq hs9.symm) (hk9 _ hx67)) HA6.out.2)
        have HB9n := Lib.hid hb9
        refine hK2.out _ _ (HVAt.same hHeld (hk9 _ (by have := HAB.out.1; have := HZW.out; have := HA7.out.2; omega))) (fun hHeld2 => ?_)
        clear HA6 HA7 HB9 hz9 hs9 hk9 hb9
        have HA6 := HA6n
        have HA7 := HA7n
        have HB9 := HB9n
        clear HA6n HA7n HB9n
        clear hK2 K2 hHeld
        have hHeld := hHeld2
        clear hHeld2
        try simp (maxSteps := 4000000) only [Act.put, List.setIfInBounds_toArray, List.set_cons_zero, List.set_cons_succ]
        refine wpAnyH_done (by kernel_rfl) ?_ _
        go_wp2_with fail
        go_meet
        exact ⟨x6, x7, _, _, _, _, _, _, _, _, _, _, rfl, rfl, Lib.hid ⟨HQ0.out, HQ1.out⟩, Lib.hid ⟨HA6.out.1, HA7.out.1, hx67, HA6.out.2, HA7.out.2⟩, HB9⟩
      · obtain ⟨x7, u3, hx7, hw9, hz9, hb⟩ := cz_next u2
        rw [hw9]
        try rw [hx7]
        clear hw9
        have HB9n := Lib.hid (thn HB9.out hb)
        have HA7n := Lib.hid (And.intro hz9 (show wr.heap.size ≤ x7 by have := HB9.out.size; omega))
        clear hx7 hz9
        clear HB9
        have HB9 := HB9n
        clear HB9n
        have HA7 := HA7n
        clear HA7n
        refine hK2.out _ _ (HVAt.keep hHeld (HVAt.low hHeld) hb) (fun hHeld2 => ?_)
        clear hb
        clear hK2 K2 hHeld
        have hHeld := hHeld2
        clear hHeld2
        try simp (maxSteps := 4000000) only [Act.put, List.setIfInBounds_toArray, List.set_cons_zero, List.set_cons_succ]
        refine wpAnyH_ready (rs := [12]) (by kernel_rfl) (by simp) ?_
        refine AllReadyH.cons rfl (fun K2 hK2 => ?_) AllReadyH.nil
        go_simp
        obtain ⟨x6, u4, hx6, hw9, hz9, hb⟩ := cz_next u3
        rw [hw9]
        try rw [hx6]
        clear hw9
        have HB9n := Lib.hid (thn HB9.out hb)
        have HA6n := Lib.hid (And.intro hz9 (show wr.heap.size ≤ x6 by have := HB9.out.size; omega))
        have hx67 : x6 ≠ x7 := by have h1 := HA7.out.1.1; omega
        clear hx6 hz9
        clear HB9
        have HB9 := HB9n
        clear HB9n
        have HA7n := Lib.hid (And.intro (HA7.out.1.below hb) HA7.out.2)
        clear HA7
        have HA7 := HA7n
        clear HA7n
        have HA6 := HA6n
        clear HA6n
        refine hK2.out _ _ (HVAt.keep hHeld (HVAt.low hHeld) hb) (fun hHeld2 => ?_)
        clear hb
        clear hK2 K2 hHeld
        have hHeld := hHeld2
        clear hHeld2
        try simp (maxSteps := 4000000) only [Act.put, List.setIfInBounds_toArray, List.set_cons_zero, List.set_cons_succ]
        obtain ⟨-, z60, z61, z62, z63, z64, z65, -⟩ := HA6.out.1
        obtain ⟨g60, g61, g62, g63, g64, g65⟩ := HA6.out.1.fz
        refine wpAnyH_ready (rs := [14]) (by kernel_rfl) (by simp) ?_
        refine AllReadyH.cons rfl (fun K2 hK2 => ?_) AllReadyH.nil
        go_simp
        obtain ⟨u5, hw9, hz9, hs9, hk9, hb9⟩ := cap_st HA6.out.1 HA6.out.2 HB9.out b0 l0 c0 p0 t0 true
        rw [hw9]
        clear hw9 z60 g60 z61 g61 z62 g62 z63 g63 z64 g64 z65 g65
        have HA6n := Lib.hid (And.intro hz9 HA6.out.2)
        have HA7n := Lib.hid (And.intro (HA7.out.1.keep (Nat.le_of_eq hs9.symm) (hk9 _ hx67.symm)) HA7.out.2)
        have HB9n := Lib.hid hb9
        refine hK2.out _ _ (HVAt.same hHeld (hk9 _ (by have := HAB.out.1; have := HZW.out; have := HA6.out.2; omega))) (fun hHeld2 => ?_)
        clear HA6 HA7 HB9 hz9 hs9 hk9 hb9
        have HA6 := HA6n
        have HA7 := HA7n
        have HB9 := HB9n
        clear HA6n HA7n HB9n
        clear hK2 K2 hHeld
        have hHeld := hHeld2
        clear hHeld2
        try simp (maxSteps := 4000000) only [Act.put, List.setIfInBounds_toArray, List.set_cons_zero, List.set_cons_succ]
        obtain ⟨-, z70, z71, z72, z73, z74, z75, -⟩ := HA7.out.1
        obtain ⟨g70, g71, g72, g73, g74, g75⟩ := HA7.out.1.fz
        refine wpAnyH_ready (rs := [15]) (by kernel_rfl) (by simp) ?_
        refine AllReadyH.cons rfl (fun K2 hK2 => ?_) AllReadyH.nil
        go_simp
        obtain ⟨u6, hw9, hz9, hs9, hk9, hb9⟩ := cap_st HA7.out.1 HA7.out.2 HB9.out b1 l1 c1 p1 t1 true
        rw [hw9]
        clear hw9 z70 g70 z71 g71 z72 g72 z73 g73 z74 g74 z75 g75
        have HA7n := Lib.hid (And.intro hz9 HA7.out.2)
        have HA6n := Lib.hid (And.intro (HA6.out.1.keep (Nat.le_of_eq hs9.symm) (hk9 _ hx67)) HA6.out.2)
        have HB9n := Lib.hid hb9
        refine hK2.out _ _ (HVAt.same hHeld (hk9 _ (by have := HAB.out.1; have := HZW.out; have := HA7.out.2; omega))) (fun hHeld2 => ?_)
        clear HA6 HA7 HB9 hz9 hs9 hk9 hb9
        have HA6 := HA6n
        have HA7 := HA7n
        have HB9 := HB9n
        clear HA6n HA7n HB9n
        clear hK2 K2 hHeld
        have hHeld := hHeld2
        clear hHeld2
        try simp (maxSteps := 4000000) only [Act.put, List.setIfInBounds_toArray, List.set_cons_zero, List.set_cons_succ]
        refine wpAnyH_done (by kernel_rfl) ?_ _
        go_wp2_with fail
        go_meet
        exact ⟨x6, x7, _, _, _, _, _, _, _, _, _, _, rfl, rfl, Lib.hid ⟨HQ0.out, HQ1.out⟩, Lib.hid ⟨HA6.out.1, HA7.out.1, hx67, HA6.out.2, HA7.out.2⟩, HB9⟩
    · obtain ⟨x6, u2, hx6, hw9, hz9, hb⟩ := cz_next u1
      rw [hw9]
      try rw [hx6]
      clear hw9
      have HB9n := Lib.hid (thn HB9.out hb)
      have HA6n := Lib.hid (And.intro hz9 (show wr.heap.size ≤ x6 by have := HB9.out.size; omega))
      clear hx6 hz9
      clear HB9
      have HB9 := HB9n
      clear HB9n
      have HA6 := HA6n
      clear HA6n
      refine hK2.out _ _ (HVAt.keep hHeld (HVAt.low hHeld) hb) (fun hHeld2 => ?_)
      clear hb
      clear hK2 K2 hHeld
      have hHeld := hHeld2
      clear hHeld2
      try simp (maxSteps := 4000000) only [Act.put, List.setIfInBounds_toArray, List.set_cons_zero, List.set_cons_succ]
      refine wpAnyH_ready (rs := [11, 13]) (by kernel_rfl) (by simp) ?_
      refine AllReadyH.cons rfl (fun K2 hK2 => ?_) (AllReadyH.cons rfl (fun K2 hK2 => ?_) AllReadyH.nil)
      all_goals go_simp
      · with_reducible refine Calls.mono (few14 _ _ _ _ _ _ _) ?_
        rintro e u3 ⟨b1, l1, c1, p1, t1, rfl, hq1, hb⟩
        have HQ1 := Lib.hid hq1
        clear hq1
        have HB9n := Lib.hid (thn HB9.out hb)
        clear HB9
        have HB9 := HB9n
        clear HB9n
        have HA6n := Lib.hid (And.intro (HA6.out.1.below hb) HA6.out.2)
        clear HA6
        have HA6 := HA6n
        clear HA6n
        refine hK2.out _ _ (HVAt.keep hHeld (HVAt.low hHeld) hb) (fun hHeld2 => ?_)
        clear hb
        clear hK2 K2 hHeld
        have hHeld := hHeld2
        clear hHeld2
        try simp (maxSteps := 4000000) only [Act.put, List.setIfInBounds_toArray, List.set_cons_zero, List.set_cons_succ]
        refine wpAnyH_ready (rs := [13]) (by kernel_rfl) (by simp) ?_
        refine AllReadyH.cons rfl (fun K2 hK2 => ?_) AllReadyH.nil
        go_simp
        obtain ⟨x7, u4, hx7, hw9, hz9, hb⟩ := cz_next u3
        rw [hw9]
        try rw [hx7]
        clear hw9
        have HB9n := Lib.hid (thn HB9.out hb)
        have HA7n := Lib.hid (And.intro hz9 (show wr.heap.size ≤ x7 by have := HB9.out.size; omega))
        have hx67 : x6 ≠ x7 := by have h1 := HA6.out.1.1; omega
        clear hx7 hz9
        clear HB9
        have HB9 := HB9n
        clear HB9n
        have HA6n := Lib.hid (And.intro (HA6.out.1.below hb) HA6.out.2)
        clear HA6
        have HA6 := HA6n
        clear HA6n
        have HA7 := HA7n
        clear HA7n
        refine hK2.out _ _ (HVAt.keep hHeld (HVAt.low hHeld) hb) (fun hHeld2 => ?_)
        clear hb
        clear hK2 K2 hHeld
        have hHeld := hHeld2
        clear hHeld2
        try simp (maxSteps := 4000000) only [Act.put, List.setIfInBounds_toArray, List.set_cons_zero, List.set_cons_succ]
        obtain ⟨-, z60, z61, z62, z63, z64, z65, -⟩ := HA6.out.1
        obtain ⟨g60, g61, g62, g63, g64, g65⟩ := HA6.out.1.fz
        refine wpAnyH_ready (rs := [14]) (by kernel_rfl) (by simp) ?_
        refine AllReadyH.cons rfl (fun K2 hK2 => ?_) AllReadyH.nil
        go_simp
        obtain ⟨u5, hw9, hz9, hs9, hk9, hb9⟩ := cap_st HA6.out.1 HA6.out.2 HB9.out b0 l0 c0 p0 t0 true
        rw [hw9]
        clear hw9 z60 g60 z61 g61 z62 g62 z63 g63 z64 g64 z65 g65
        have HA6n := Lib.hid (And.intro hz9 HA6.out.2)
        have HA7n := Lib.hid (And.intro (HA7.out.1.keep (Nat.le_of_eq hs9.symm) (hk9 _ hx67.symm)) HA7.out.2)
        have HB9n := Lib.hid hb9
        refine hK2.out _ _ (HVAt.same hHeld (hk9 _ (by have := HAB.out.1; have := HZW.out; have := HA6.out.2; omega))) (fun hHeld2 => ?_)
        clear HA6 HA7 HB9 hz9 hs9 hk9 hb9
        have HA6 := HA6n
        have HA7 := HA7n
        have HB9 := HB9n
        clear HA6n HA7n HB9n
        clear hK2 K2 hHeld
        have hHeld := hHeld2
        clear hHeld2
        try simp (maxSteps := 4000000) only [Act.put, List.setIfInBounds_toArray, List.set_cons_zero, List.set_cons_succ]
        obtain ⟨-, z70, z71, z72, z73, z74, z75, -⟩ := HA7.out.1
        obtain ⟨g70, g71, g72, g73, g74, g75⟩ := HA7.out.1.fz
        refine wpAnyH_ready (rs := [15]) (by kernel_rfl) (by simp) ?_
        refine AllReadyH.cons rfl (fun K2 hK2 => ?_) AllReadyH.nil
        go_simp
        obtain ⟨u6, hw9, hz9, hs9, hk9, hb9⟩ := cap_st HA7.out.1 HA7.out.2 HB9.out b1 l1 c1 p1 t1 true
        rw [hw9]
        clear hw9 z70 g70 z71 g71 z72 g72 z73 g73 z74 g74 z75 g75
        have HA7n := Lib.hid (And.intro hz9 HA7.out.2)
        have HA6n := Lib.hid (And.intro (HA6.out.1.keep (Nat.le_of_eq hs9.symm) (hk9 _ hx67)) HA6.out.2)
        have HB9n := Lib.hid hb9
        refine hK2.out _ _ (HVAt.same hHeld (hk9 _ (by have := HAB.out.1; have := HZW.out; have := HA7.out.2; omega))) (fun hHeld2 => ?_)
        clear HA6 HA7 HB9 hz9 hs9 hk9 hb9
        have HA6 := HA6n
        have HA7 := HA7n
        have HB9 := HB9n
        clear HA6n HA7n HB9n
        clear hK2 K2 hHeld
        have hHeld := hHeld2
        clear hHeld2
        try simp (maxSteps := 4000000) only [Act.put, List.setIfInBounds_toArray, List.set_cons_zero, List.set_cons_succ]
        refine wpAnyH_done (by kernel_rfl) ?_ _
        go_wp2_with fail
        go_meet
        exact ⟨x6, x7, _, _, _, _, _, _, _, _, _, _, rfl, rfl, Lib.hid ⟨HQ0.out, HQ1.out⟩, Lib.hid ⟨HA6.out.1, HA7.out.1, hx67, HA6.out.2, HA7.out.2⟩, HB9⟩
      · obtain ⟨x7, u3, hx7, hw9, hz9, hb⟩ := cz_next u2
        rw [hw9]
        try rw [hx7]
        clear hw9
        have HB9n := Lib.hid (thn HB9.out hb)
        have HA7n := Lib.hid (And.intro hz9 (show wr.heap.size ≤ x7 by have := HB9.out.size; omega))
        have hx67 : x6 ≠ x7 := by have h1 := HA6.out.1.1; omega
        clear hx7 hz9
        clear HB9
        have HB9 := HB9n
        clear HB9n
        have HA6n := Lib.hid (And.intro (HA6.out.1.below hb) HA6.out.2)
        clear HA6
        have HA6 := HA6n
        clear HA6n
        have HA7 := HA7n
        clear HA7n
        refine hK2.out _ _ (HVAt.keep hHeld (HVAt.low hHeld) hb) (fun hHeld2 => ?_)
        clear hb
        clear hK2 K2 hHeld
        have hHeld := hHeld2
        clear hHeld2
        try simp (maxSteps := 4000000) only [Act.put, List.setIfInBounds_toArray, List.set_cons_zero, List.set_cons_succ]
        refine wpAnyH_ready (rs := [11]) (by kernel_rfl) (by simp) ?_
        refine AllReadyH.cons rfl (fun K2 hK2 => ?_) AllReadyH.nil
        go_simp
        with_reducible refine Calls.mono (few14 _ _ _ _ _ _ _) ?_
        rintro e u4 ⟨b1, l1, c1, p1, t1, rfl, hq1, hb⟩
        have HQ1 := Lib.hid hq1
        clear hq1
        have HB9n := Lib.hid (thn HB9.out hb)
        clear HB9
        have HB9 := HB9n
        clear HB9n
        have HA6n := Lib.hid (And.intro (HA6.out.1.below hb) HA6.out.2)
        clear HA6
        have HA6 := HA6n
        clear HA6n
        have HA7n := Lib.hid (And.intro (HA7.out.1.below hb) HA7.out.2)
        clear HA7
        have HA7 := HA7n
        clear HA7n
        refine hK2.out _ _ (HVAt.keep hHeld (HVAt.low hHeld) hb) (fun hHeld2 => ?_)
        clear hb
        clear hK2 K2 hHeld
        have hHeld := hHeld2
        clear hHeld2
        try simp (maxSteps := 4000000) only [Act.put, List.setIfInBounds_toArray, List.set_cons_zero, List.set_cons_succ]
        obtain ⟨-, z60, z61, z62, z63, z64, z65, -⟩ := HA6.out.1
        obtain ⟨g60, g61, g62, g63, g64, g65⟩ := HA6.out.1.fz
        refine wpAnyH_ready (rs := [14]) (by kernel_rfl) (by simp) ?_
        refine AllReadyH.cons rfl (fun K2 hK2 => ?_) AllReadyH.nil
        go_simp
        obtain ⟨u5, hw9, hz9, hs9, hk9, hb9⟩ := cap_st HA6.out.1 HA6.out.2 HB9.out b0 l0 c0 p0 t0 true
        rw [hw9]
        clear hw9 z60 g60 z61 g61 z62 g62 z63 g63 z64 g64 z65 g65
        have HA6n := Lib.hid (And.intro hz9 HA6.out.2)
        have HA7n := Lib.hid (And.intro (HA7.out.1.keep (Nat.le_of_eq hs9.symm) (hk9 _ hx67.symm)) HA7.out.2)
        have HB9n := Lib.hid hb9
        refine hK2.out _ _ (HVAt.same hHeld (hk9 _ (by have := HAB.out.1; have := HZW.out; have := HA6.out.2; omega))) (fun hHeld2 => ?_)
        clear HA6 HA7 HB9 hz9 hs9 hk9 hb9
        have HA6 := HA6n
        have HA7 := HA7n
        have HB9 := HB9n
        clear HA6n HA7n HB9n
        clear hK2 K2 hHeld
        have hHeld := hHeld2
        clear hHeld2
        try simp (maxSteps := 4000000) only [Act.put, List.setIfInBounds_toArray, List.set_cons_zero, List.set_cons_succ]
        obtain ⟨-, z70, z71, z72, z73, z74, z75, -⟩ := HA7.out.1
        obtain ⟨g70, g71, g72, g73, g74, g75⟩ := HA7.out.1.fz
        refine wpAnyH_ready (rs := [15]) (by kernel_rfl) (by simp) ?_
        refine AllReadyH.cons rfl (fun K2 hK2 => ?_) AllReadyH.nil
        go_simp
        obtain ⟨u6, hw9, hz9, hs9, hk9, hb9⟩ := cap_st HA7.out.1 HA7.out.2 HB9.out b1 l1 c1 p1 t1 true
        rw [hw9]
        clear hw9 z70 g70 z71 g71 z72 g72 z73 g73 z74 g74 z75 g75
        have HA7n := Lib.hid (And.intro hz9 HA7.out.2)
        have HA6n := Lib.hid (And.intro (HA6.out.1.keep (Nat.le_of_eq hs9.symm) (hk9 _ hx67)) HA6.out.2)
        have HB9n := Lib.hid hb9
        refine hK2.out _ _ (HVAt.same hHeld (hk9 _ (by have := HAB.out.1; have := HZW.out; have := HA7.out.2; omega))) (fun hHeld2 => ?_)
        clear HA6 HA7 HB9 hz9 hs9 hk9 hb9
        have HA6 := HA6n
        have HA7 := HA7n
        have HB9 := HB9n
        clear HA6n HA7n HB9n
        clear hK2 K2 hHeld
        have hHeld := hHeld2
        clear hHeld2
        try simp (maxSteps := 4000000) only [Act.put, List.setIfInBounds_toArray, List.set_cons_zero, List.set_cons_succ]
        refine wpAnyH_done (by kernel_rfl) ?_ _
        go_wp2_with fail
        go_meet
        exact ⟨x6, x7, _, _, _, _, _, _, _, _, _, _, rfl, rfl, Lib.hid ⟨HQ0.out, HQ1.out⟩, Lib.hid ⟨HA6.out.1, HA7.out.1, hx67, HA6.out.2, HA7.out.2⟩, HB9⟩
    · obtain ⟨x7, u2, hx7, hw9, hz9, hb⟩ := cz_next u1
      rw [hw9]
      try rw [hx7]
      clear hw9
      have HB9n := Lib.hid (thn HB9.out hb)
      have HA7n := Lib.hid (And.intro hz9 (show wr.heap.size ≤ x7 by have := HB9.out.size; omega))
      clear hx7 hz9
      clear HB9
      have HB9 := HB9n
      clear HB9n
      have HA7 := HA7n
      clear HA7n
      refine hK2.out _ _ (HVAt.keep hHeld (HVAt.low hHeld) hb) (fun hHeld2 => ?_)
      clear hb
      clear hK2 K2 hHeld
      have hHeld := hHeld2
      clear hHeld2
      try simp (maxSteps := 4000000) only [Act.put, List.setIfInBounds_toArray, List.set_cons_zero, List.set_cons_succ]
      refine wpAnyH_ready (rs := [11, 12]) (by kernel_rfl) (by simp) ?_
      refine AllReadyH.cons rfl (fun K2 hK2 => ?_) (AllReadyH.cons rfl (fun K2 hK2 => ?_) AllReadyH.nil)
      all_goals go_simp
      · with_reducible refine Calls.mono (few14 _ _ _ _ _ _ _) ?_
        rintro e u3 ⟨b1, l1, c1, p1, t1, rfl, hq1, hb⟩
        have HQ1 := Lib.hid hq1
        clear hq1
        have HB9n := Lib.hid (thn HB9.out hb)
        clear HB9
        have HB9 := HB9n
        clear HB9n
        have HA7n := Lib.hid (And.intro (HA7.out.1.below hb) HA7.out.2)
        clear HA7
        have HA7 := HA7n
        clear HA7n
        refine hK2.out _ _ (HVAt.keep hHeld (HVAt.low hHeld) hb) (fun hHeld2 => ?_)
        clear hb
        clear hK2 K2 hHeld
        have hHeld := hHeld2
        clear hHeld2
        try simp (maxSteps := 4000000) only [Act.put, List.setIfInBounds_toArray, List.set_cons_zero, List.set_cons_succ]
        refine wpAnyH_ready (rs := [12]) (by kernel_rfl) (by simp) ?_
        refine AllReadyH.cons rfl (fun K2 hK2 => ?_) AllReadyH.nil
        go_simp
        obtain ⟨x6, u4, hx6, hw9, hz9, hb⟩ := cz_next u3
        rw [hw9]
        try rw [hx6]
        clear hw9
        have HB9n := Lib.hid (thn HB9.out hb)
        have HA6n := Lib.hid (And.intro hz9 (show wr.heap.size ≤ x6 by have := HB9.out.size; omega))
        have hx67 : x6 ≠ x7 := by have h1 := HA7.out.1.1; omega
        clear hx6 hz9
        clear HB9
        have HB9 := HB9n
        clear HB9n
        have HA7n := Lib.hid (And.intro (HA7.out.1.below hb) HA7.out.2)
        clear HA7
        have HA7 := HA7n
        clear HA7n
        have HA6 := HA6n
        clear HA6n
        refine hK2.out _ _ (HVAt.keep hHeld (HVAt.low hHeld) hb) (fun hHeld2 => ?_)
        clear hb
        clear hK2 K2 hHeld
        have hHeld := hHeld2
        clear hHeld2
        try simp (maxSteps := 4000000) only [Act.put, List.setIfInBounds_toArray, List.set_cons_zero, List.set_cons_succ]
        obtain ⟨-, z60, z61, z62, z63, z64, z65, -⟩ := HA6.out.1
        obtain ⟨g60, g61, g62, g63, g64, g65⟩ := HA6.out.1.fz
        refine wpAnyH_ready (rs := [14]) (by kernel_rfl) (by simp) ?_
        refine AllReadyH.cons rfl (fun K2 hK2 => ?_) AllReadyH.nil
        go_simp
        obtain ⟨u5, hw9, hz9, hs9, hk9, hb9⟩ := cap_st HA6.out.1 HA6.out.2 HB9.out b0 l0 c0 p0 t0 true
        rw [hw9]
        clear hw9 z60 g60 z61 g61 z62 g62 z63 g63 z64 g64 z65 g65
        have HA6n := Lib.hid (And.intro hz9 HA6.out.2)
        have HA7n := Lib.hid (And.intro (HA7.out.1.keep (Nat.le_of_eq hs9.symm) (hk9 _ hx67.symm)) HA7.out.2)
        have HB9n := Lib.hid hb9
        refine hK2.out _ _ (HVAt.same hHeld (hk9 _ (by have := HAB.out.1; have := HZW.out; have := HA6.out.2; omega))) (fun hHeld2 => ?_)
        clear HA6 HA7 HB9 hz9 hs9 hk9 hb9
        have HA6 := HA6n
        have HA7 := HA7n
        have HB9 := HB9n
        clear HA6n HA7n HB9n
        clear hK2 K2 hHeld
        have hHeld := hHeld2
        clear hHeld2
        try simp (maxSteps := 4000000) only [Act.put, List.setIfInBounds_toArray, List.set_cons_zero, List.set_cons_succ]
        obtain ⟨-, z70, z71, z72, z73, z74, z75, -⟩ := HA7.out.1
        obtain ⟨g70, g71, g72, g73, g74, g75⟩ := HA7.out.1.fz
        refine wpAnyH_ready (rs := [15]) (by kernel_rfl) (by simp) ?_
        refine AllReadyH.cons rfl (fun K2 hK2 => ?_) AllReadyH.nil
        go_simp
        obtain ⟨u6, hw9, hz9, hs9, hk9, hb9⟩ := cap_st HA7.out.1 HA7.out.2 HB9.out b1 l1 c1 p1 t1 true
        rw [hw9]
        clear hw9 z70 g70 z71 g71 z72 g72 z73 g73 z74 g74 z75 g75
        have HA7n := Lib.hid (And.intro hz9 HA7.out.2)
        have HA6n := Lib.hid (And.intro (HA6.out.1.keep (Nat.le_of_eq hs9.symm) (hk9 _ hx67)) HA6.out.2)
        have HB9n := Lib.hid hb9
        refine hK2.out _ _ (HVAt.same hHeld (hk9 _ (by have := HAB.out.1; have := HZW.out; have := HA7.out.2; omega))) (fun hHeld2 => ?_)
        clear HA6 HA7 HB9 hz9 hs9 hk9 hb9
        have HA6 := HA6n
        have HA7 := HA7n
        have HB9 := HB9n
        clear HA6n HA7n HB9n
        clear hK2 K2 hHeld
        have hHeld := hHeld2
        clear hHeld2
        try simp (maxSteps := 4000000) only [Act.put, List.setIfInBounds_toArray, List.set_cons_zero, List.set_cons_succ]
        refine wpAnyH_done (by kernel_rfl) ?_ _
        go_wp2_with fail
        go_meet
        exact ⟨x6, x7, _, _, _, _, _, _, _, _, _, _, rfl, rfl, Lib.hid ⟨HQ0.out, HQ1.out⟩, Lib.hid ⟨HA6.out.1, HA7.out.1, hx67, HA6.out.2, HA7.out.2⟩, HB9⟩
      · obtain ⟨x6, u3, hx6, hw9, hz9, hb⟩ := cz_next u2
        rw [hw9]
        try rw [hx6]
        clear hw9
        have HB9n := Lib.hid (thn HB9.out hb)
        have HA6n := Lib.hid (And.intro hz9 (show wr.heap.size ≤ x6 by have := HB9.out.size; omega))
        have hx67 : x6 ≠ x7 := by have h1 := HA7.out.1.1; omega
        clear hx6 hz9
        clear HB9
        have HB9 := HB9n
        clear HB9n
        have HA7n := Lib.hid (And.intro (HA7.out.1.below hb) HA7.out.2)
        clear HA7
        have HA7 := HA7n
        clear HA7n
        have HA6 := HA6n
        clear HA6n
        refine hK2.out _ _ (HVAt.keep hHeld (HVAt.low hHeld) hb) (fun hHeld2 => ?_)
        clear hb
        clear hK2 K2 hHeld
        have hHeld := hHeld2
        clear hHeld2
        try simp (maxSteps := 4000000) only [Act.put, List.setIfInBounds_toArray, List.set_cons_zero, List.set_cons_succ]
        refine wpAnyH_ready (rs := [11]) (by kernel_rfl) (by simp) ?_
        refine AllReadyH.cons rfl (fun K2 hK2 => ?_) AllReadyH.nil
        go_simp
        with_reducible refine Calls.mono (few14 _ _ _ _ _ _ _) ?_
        rintro e u4 ⟨b1, l1, c1, p1, t1, rfl, hq1, hb⟩
        have HQ1 := Lib.hid hq1
        clear hq1
        have HB9n := Lib.hid (thn HB9.out hb)
        clear HB9
        have HB9 := HB9n
        clear HB9n
        have HA6n := Lib.hid (And.intro (HA6.out.1.below hb) HA6.out.2)
        clear HA6
        have HA6 := HA6n
        clear HA6n
        have HA7n := Lib.hid (And.intro (HA7.out.1.below hb) HA7.out.2)
        clear HA7
        have HA7 := HA7n
        clear HA7n
        refine hK2.out _ _ (HVAt.keep hHeld (HVAt.low hHeld) hb) (fun hHeld2 => ?_)
        clear hb
        clear hK2 K2 hHeld
        have hHeld := hHeld2
        clear hHeld2
        try simp (maxSteps := 4000000) only [Act.put, List.setIfInBounds_toArray, List.set_cons_zero, List.set_cons_succ]
        obtain ⟨-, z60, z61, z62, z63, z64, z65, -⟩ := HA6.out.1
        obtain ⟨g60, g61, g62, g63, g64, g65⟩ := HA6.out.1.fz
        refine wpAnyH_ready (rs := [14]) (by kernel_rfl) (by simp) ?_
        refine AllReadyH.cons rfl (fun K2 hK2 => ?_) AllReadyH.nil
        go_simp
        obtain ⟨u5, hw9, hz9, hs9, hk9, hb9⟩ := cap_st HA6.out.1 HA6.out.2 HB9.out b0 l0 c0 p0 t0 true
        rw [hw9]
        clear hw9 z60 g60 z61 g61 z62 g62 z63 g63 z64 g64 z65 g65
        have HA6n := Lib.hid (And.intro hz9 HA6.out.2)
        have HA7n := Lib.hid (And.intro (HA7.out.1.keep (Nat.le_of_eq hs9.symm) (hk9 _ hx67.symm)) HA7.out.2)
        have HB9n := Lib.hid hb9
        refine hK2.out _ _ (HVAt.same hHeld (hk9 _ (by have := HAB.out.1; have := HZW.out; have := HA6.out.2; omega))) (fun hHeld2 => ?_)
        clear HA6 HA7 HB9 hz9 hs9 hk9 hb9
        have HA6 := HA6n
        have HA7 := HA7n
        have HB9 := HB9n
        clear HA6n HA7n HB9n
        clear hK2 K2 hHeld
        have hHeld := hHeld2
        clear hHeld2
        try simp (maxSteps := 4000000) only [Act.put, List.setIfInBounds_toArray, List.set_cons_zero, List.set_cons_succ]
        obtain ⟨-, z70, z71, z72, z73, z74, z75, -⟩ := HA7.out.1
        obtain ⟨g70, g71, g72, g73, g74, g75⟩ := HA7.out.1.fz
        refine wpAnyH_ready (rs := [15]) (by kernel_rfl) (by simp) ?_
        refine AllReadyH.cons rfl (fun K2 hK2 => ?_) AllReadyH.nil
        go_simp
        obtain ⟨u6, hw9, hz9, hs9, hk9, hb9⟩ := cap_st HA7.out.1 HA7.out.2 HB9.out b1 l1 c1 p1 t1 true
        rw [hw9]
        clear hw9 z70 g70 z71 g71 z72 g72 z73 g73 z74 g74 z75 g75
        have HA7n := Lib.hid (And.intro hz9 HA7.out.2)
        have HA6n := Lib.hid (And.intro (HA6.out.1.keep (Nat.le_of_eq hs9.symm) (hk9 _ hx67)) HA6.out.2)
        have HB9n := Lib.hid hb9
        refine hK2.out _ _ (HVAt.same hHeld (hk9 _ (by have := HAB.out.1; have := HZW.out; have := HA7.out.2; omega))) (fun hHeld2 => ?_)
        clear HA6 HA7 HB9 hz9 hs9 hk9 hb9
        have HA6 := HA6n
        have HA7 := HA7n
        have HB9 := HB9n
        clear HA6n HA7n HB9n
        clear hK2 K2 hHeld
        have hHeld := hHeld2
        clear hHeld2
        try simp (maxSteps := 4000000) only [Act.put, List.setIfInBounds_toArray, List.set_cons_zero, List.set_cons_succ]
        refine wpAnyH_done (by kernel_rfl) ?_ _
        go_wp2_with fail
        go_meet
        exact ⟨x6, x7, _, _, _, _, _, _, _, _, _, _, rfl, rfl, Lib.hid ⟨HQ0.out, HQ1.out⟩, Lib.hid ⟨HA6.out.1, HA7.out.1, hx67, HA6.out.2, HA7.out.2⟩, HB9⟩
  · obtain ⟨x6, u1, hx6, hw9, hz9, hb⟩ := cz_first wr
    rw [hw9]
    try rw [hx6]
    clear hw9
    have HB9 := Lib.hid hb
    have HA6n := Lib.hid (And.intro hz9 (show wr.heap.size ≤ x6 by omega))
    clear hx6 hz9
    have HA6 := HA6n
    clear HA6n
    refine hK2.out _ _ (HAB.out.2.keep (by have := HAB.out.1; have := HZW.out; omega) hb) (fun hHeld2 => ?_)
    clear hb
    clear hK2 K2 hHeld
    have hHeld := hHeld2
    clear hHeld2
    try simp (maxSteps := 4000000) only [Act.put, List.setIfInBounds_toArray, List.set_cons_zero, List.set_cons_succ]
    refine wpAnyH_ready (rs := [5, 13]) (by kernel_rfl) (by simp) ?_
    refine AllReadyH.cons rfl (fun K2 hK2 => ?_) (AllReadyH.cons rfl (fun K2 hK2 => ?_) AllReadyH.nil)
    all_goals go_simp
    · with_reducible refine Calls.mono (few14 _ _ _ _ _ _ _) ?_
      rintro e u2 ⟨b0, l0, c0, p0, t0, rfl, hq0, hb⟩
      have HQ0 := Lib.hid hq0
      clear hq0
      have HB9n := Lib.hid (thn HB9.out hb)
      clear HB9
      have HB9 := HB9n
      clear HB9n
      have HA6n := Lib.hid (And.intro (HA6.out.1.below hb) HA6.out.2)
      clear HA6
      have HA6 := HA6n
      clear HA6n
      refine hK2.out _ _ (HVAt.keep hHeld (HVAt.low hHeld) hb) (fun hHeld2 => ?_)
      clear hb
      clear hK2 K2 hHeld
      have hHeld := hHeld2
      clear hHeld2
      try simp (maxSteps := 4000000) only [Act.put, List.setIfInBounds_toArray, List.set_cons_zero, List.set_cons_succ]
      refine wpAnyH_ready (rs := [11, 13]) (by kernel_rfl) (by simp) ?_
      refine AllReadyH.cons rfl (fun K2 hK2 => ?_) (AllReadyH.cons rfl (fun K2 hK2 => ?_) AllReadyH.nil)
      all_goals go_simp
      · with_reducible refine Calls.mono (few14 _ _ _ _ _ _ _) ?_
        rintro e u3 ⟨b1, l1, c1, p1, t1, rfl, hq1, hb⟩
        have HQ1 := Lib.hid hq1
        clear hq1
        have HB9n := Lib.hid (thn HB9.out hb)
        clear HB9
        have HB9 := HB9n
        clear HB9n
        have HA6n := Lib.hid (And.intro (HA6.out.1.below hb) HA6.out.2)
        clear HA6
        have HA6 := HA6n
        clear HA6n
        refine hK2.out _ _ (HVAt.keep hHeld (HVAt.low hHeld) hb) (fun hHeld2 => ?_)
        clear hb
        clear hK2 K2 hHeld
        have hHeld := hHeld2
        clear hHeld2
        try simp (maxSteps := 4000000) only [Act.put, List.setIfInBounds_toArray, List.set_cons_zero, List.set_cons_succ]
        refine wpAnyH_ready (rs := [13]) (by kernel_rfl) (by simp) ?_
        refine AllReadyH.cons rfl (fun K2 hK2 => ?_) AllReadyH.nil
        go_simp
        obtain ⟨x7, u4, hx7, hw9, hz9, hb⟩ := cz_next u3
        rw [hw9]
        try rw [hx7]
        clear hw9
        have HB9n := Lib.hid (thn HB9.out hb)
        have HA7n := Lib.hid (And.intro hz9 (show wr.heap.size ≤ x7 by have := HB9.out.size; omega))
        have hx67 : x6 ≠ x7 := by have h1 := HA6.out.1.1; omega
        clear hx7 hz9
        clear HB9
        have HB9 := HB9n
        clear HB9n
        have HA6n := Lib.hid (And.intro (HA6.out.1.below hb) HA6.out.2)
        clear HA6
        have HA6 := HA6n
        clear HA6n
        have HA7 := HA7n
        clear HA7n
        refine hK2.out _ _ (HVAt.keep hHeld (HVAt.low hHeld) hb) (fun hHeld2 => ?_)
        clear hb
        clear hK2 K2 hHeld
        have hHeld := hHeld2
        clear hHeld2
        try simp (maxSteps := 4000000) only [Act.put, List.setIfInBounds_toArray, List.set_cons_zero, List.set_cons_succ]
        obtain ⟨-, z60, z61, z62, z63, z64, z65, -⟩ := HA6.out.1
        obtain ⟨g60, g61, g62, g63, g64, g65⟩ := HA6.out.1.fz
        refine wpAnyH_ready (rs := [14]) (by kernel_rfl) (by simp) ?_
        refine AllReadyH.cons rfl (fun K2 hK2 => ?_) AllReadyH.nil
        go_simp
        obtain ⟨u5, hw9, hz9, hs9, hk9, hb9⟩ := cap_st HA6.out.1 HA6.out.2 HB9.out b0 l0 c0 p0 t0 true
        rw [hw9]
        clear hw9 z60 g60 z61 g61 z62 g62 z63 g63 z64 g64 z65 g65
        have HA6n := Lib.hid (And.intro hz9 HA6.out.2)
        have HA7n := Lib.hid (And.intro (HA7.out.1.keep (Nat.le_of_eq hs9.symm) (hk9 _ hx67.symm)) HA7.out.2)
        have HB9n := Lib.hid hb9
        refine hK2.out _ _ (HVAt.same hHeld (hk9 _ (by have := HAB.out.1; have := HZW.out; have := HA6.out.2; omega))) (fun hHeld2 => ?_)
        clear HA6 HA7 HB9 hz9 hs9 hk9 hb9
        have HA6 := HA6n
        have HA7 := HA7n
        have HB9 := HB9n
        clear HA6n HA7n HB9n
        clear hK2 K2 hHeld
        have hHeld := hHeld2
        clear hHeld2
        try simp (maxSteps := 4000000) only [Act.put, List.setIfInBounds_toArray, List.set_cons_zero, List.set_cons_succ]
        obtain ⟨-, z70, z71, z72, z73, z74, z75, -⟩ := HA7.out.1
        obtain ⟨g70, g71, g72, g73, g74, g75⟩ := HA7.out.1.fz
        refine wpAnyH_ready (rs := [15]) (by kernel_rfl) (by simp) ?_
        refine AllReadyH.cons rfl (fun K2 hK2 => ?_) AllReadyH.nil
        go_simp
        obtain ⟨u6, hw9, hz9, hs9, hk9, hb9⟩ := cap_st HA7.out.1 HA7.out.2 HB9.out b1 l1 c1 p1 t1 true
        rw [hw9]
        clear hw9 z70 g70 z71 g71 z72 g72 z73 g73 z74 g74 z75 g75
        have HA7n := Lib.hid (And.intro hz9 HA7.out.2)
        have HA6n := Lib.hid (And.intro (HA6.out.1.keep (Nat.le_of_eq hs9.symm) (hk9 _ hx67)) HA6.out.2)
        have HB9n := Lib.hid hb9
        refine hK2.out _ _ (HVAt.same hHeld (hk9 _ (by have := HAB.out.1; have := HZW.out; have := HA7.out.2; omega))) (fun hHeld2 => ?_)
        clear HA6 HA7 HB9 hz9 hs9 hk9 hb9
        have HA6 := HA6n
        have HA7 := HA7n
        have HB9 := HB9n
        clear HA6n HA7n HB9n
        clear hK2 K2 hHeld
        have hHeld := hHeld2
        clear hHeld2
        try simp (maxSteps := 4000000) only [Act.put, List.setIfInBounds_toArray, List.set_cons_zero, List.set_cons_succ]
        refine wpAnyH_done (by kernel_rfl) ?_ _
        go_wp2_with fail
        go_meet
        exact ⟨x6, x7, _, _, _, _, _, _, _, _, _, _, rfl, rfl, Lib.hid ⟨HQ0.out, HQ1.out⟩, Lib.hid ⟨HA6.out.1, HA7.out.1, hx67, HA6.out.2, HA7.out.2⟩, HB9⟩
      · obtain ⟨x7, u3, hx7, hw9, hz9, hb⟩ := cz_next u2
        rw [hw9]
        try rw [hx7]
        clear hw9
        have HB9n := Lib.hid (thn HB9.out hb)
        have HA7n := Lib.hid (And.intro hz9 (show wr.heap.size ≤ x7 by have := HB9.out.size; omega))
        have hx67 : x6 ≠ x7 := by have h1 := HA6.out.1.1; omega
        clear hx7 hz9
        clear HB9
        have HB9 := HB9n
        clear HB9n
        have HA6n := Lib.hid (And.intro (HA6.out.1.below hb) HA6.out.2)
        clear HA6
        have HA6 := HA6n
        clear HA6n
        have HA7 := HA7n
        clear HA7n
        refine hK2.out _ _ (HVAt.keep hHeld (HVAt.low hHeld) hb) (fun hHeld2 => ?_)
        clear hb
        clear hK2 K2 hHeld
        have hHeld := hHeld2
        clear hHeld2
        try simp (maxSteps := 4000000) only [Act.put, List.setIfInBounds_toArray, List.set_cons_zero, List.set_cons_succ]
        refine wpAnyH_ready (rs := [11]) (by kernel_rfl) (by simp) ?_
        refine AllReadyH.cons rfl (fun K2 hK2 => ?_) AllReadyH.nil
        go_simp
        with_reducible refine Calls.mono (few14 _ _ _ _ _ _ _) ?_
        rintro e u4 ⟨b1, l1, c1, p1, t1, rfl, hq1, hb⟩
        have HQ1 := Lib.hid hq1
        clear hq1
        have HB9n := Lib.hid (thn HB9.out hb)
        clear HB9
        have HB9 := HB9n
        clear HB9n
        have HA6n := Lib.hid (And.intro (HA6.out.1.below hb) HA6.out.2)
        clear HA6
        have HA6 := HA6n
        clear HA6n
        have HA7n := Lib.hid (And.intro (HA7.out.1.below hb) HA7.out.2)
        clear HA7
        have HA7 := HA7n
        clear HA7n
        refine hK2.out _ _ (HVAt.keep hHeld (HVAt.low hHeld) hb) (fun hHeld2 => ?_)
        clear hb
        clear hK2 K2 hHeld
        have hHeld := hHeld2
        clear hHeld2
        try simp (maxSteps := 4000000) only [Act.put, List.setIfInBounds_toArray, List.set_cons_zero, List.set_cons_succ]
        obtain ⟨-, z60, z61, z62, z63, z64, z65, -⟩ := HA6.out.1
        obtain ⟨g60, g61, g62, g63, g64, g65⟩ := HA6.out.1.fz
        refine wpAnyH_ready (rs := [14]) (by kernel_rfl) (by simp) ?_
        refine AllReadyH.cons rfl (fun K2 hK2 => ?_) AllReadyH.nil
        go_simp
        obtain ⟨u5, hw9, hz9, hs9, hk9, hb9⟩ := cap_st HA6.out.1 HA6.out.2 HB9.out b0 l0 c0 p0 t0 true
        rw [hw9]
        clear hw9 z60 g60 z61 g61 z62 g62 z63 g63 z64 g64 z65 g65
        have HA6n := Lib.hid (And.intro hz9 HA6.out.2)
        have HA7n := Lib.hid (And.intro (HA7.out.1.keep (Nat.le_of_eq hs9.symm) (hk9 _ hx67.symm)) HA7.out.2)
        have HB9n := Lib.hid hb9
        refine hK2.out _ _ (HVAt.same hHeld (hk9 _ (by have := HAB.out.1; have := HZW.out; have := HA6.out.2; omega))) (fun hHeld2 => ?_)
        clear HA6 HA7 HB9 hz9 hs9 hk9 hb9
        have HA6 := HA6n
        have HA7 := HA7n
        have HB9 := HB9n
        clear HA6n HA7n HB9n
        clear hK2 K2 hHeld
        have hHeld := hHeld2
        clear hHeld2
        try simp (maxSteps := 4000000) only [Act.put, List.setIfInBounds_toArray, List.set_cons_zero, List.set_cons_succ]
        obtain ⟨-, z70, z71, z72, z73, z74, z75, -⟩ := HA7.out.1
        obtain ⟨g70, g71, g72, g73, g74, g75⟩ := HA7.out.1.fz
        refine wpAnyH_ready (rs := [15]) (by kernel_rfl) (by simp) ?_
        refine AllReadyH.cons rfl (fun K2 hK2 => ?_) AllReadyH.nil
        go_simp
        obtain ⟨u6, hw9, hz9, hs9, hk9, hb9⟩ := cap_st HA7.out.1 HA7.out.2 HB9.out b1 l1 c1 p1 t1 true
        rw [hw9]
        clear hw9 z70 g70 z71 g71 z72 g72 z73 g73 z74 g74 z75 g75
        have HA7n := Lib.hid (And.intro hz9 HA7.out.2)
        have HA6n := Lib.hid (And.intro (HA6.out.1.keep (Nat.le_of_eq hs9.symm) (hk9 _ hx67)) HA6.out.2)
        have HB9n := Lib.hid hb9
        refine hK2.out _ _ (HVAt.same hHeld (hk9 _ (by have := HAB.out.1; have := HZW.out; have := HA7.out.2; omega))) (fun hHeld2 => ?_)
        clear HA6 HA7 HB9 hz9 hs9 hk9 hb9
        have HA6 := HA6n
        have HA7 := HA7n
        have HB9 := HB9n
        clear HA6n HA7n HB9n
        clear hK2 K2 hHeld
        have hHeld := hHeld2
        clear hHeld2
        try simp (maxSteps := 4000000) only [Act.put, List.setIfInBounds_toArray, List.set_cons_zero, List.set_cons_succ]
        refine wpAnyH_done (by kernel_rfl) ?_ _
        go_wp2_with fail
        go_meet
        exact ⟨x6, x7, _, _, _, _, _, _, _, _, _, _, rfl, rfl, Lib.hid ⟨HQ0.out, HQ1.out⟩, Lib.hid ⟨HA6.out.1, HA7.out.1, hx67, HA6.out.2, HA7.out.2⟩, HB9⟩
    · obtain ⟨x7, u2, hx7, hw9, hz9, hb⟩ := cz_next u1
      rw [hw9]
      try rw [hx7]
      clear hw9
      have HB9n := Lib.hid (thn HB9.out hb)
      have HA7n := Lib.hid (And.intro hz9 (show wr.heap.size ≤ x7 by have := HB9.out.size; omega))
      have hx67 : x6 ≠ x7 := by have h1 := HA6.out.1.1; omega
      clear hx7 hz9
      clear HB9
      have HB9 := HB9n
      clear HB9n
      have HA6n := Lib.hid (And.intro (HA6.out.1.below hb) HA6.out.2)
      clear HA6
      have HA6 := HA6n
      clear HA6n
      have HA7 := HA7n
      clear HA7n
      refine hK2.out _ _ (HVAt.keep hHeld (HVAt.low hHeld) hb) (fun hHeld2 => ?_)
      clear hb
      clear hK2 K2 hHeld
      have hHeld := hHeld2
      clear hHeld2
      try simp (maxSteps := 4000000) only [Act.put, List.setIfInBounds_toArray, List.set_cons_zero, List.set_cons_succ]
      refine wpAnyH_ready (rs := [5]) (by kernel_rfl) (by simp) ?_
      refine AllReadyH.cons rfl (fun K2 hK2 => ?_) AllReadyH.nil
      go_simp
      with_reducible refine Calls.mono (few14 _ _ _ _ _ _ _) ?_
      rintro e u3 ⟨b0, l0, c0, p0, t0, rfl, hq0, hb⟩
      have HQ0 := Lib.hid hq0
      clear hq0
      have HB9n := Lib.hid (thn HB9.out hb)
      clear HB9
      have HB9 := HB9n
      clear HB9n
      have HA6n := Lib.hid (And.intro (HA6.out.1.below hb) HA6.out.2)
      clear HA6
      have HA6 := HA6n
      clear HA6n
      have HA7n := Lib.hid (And.intro (HA7.out.1.below hb) HA7.out.2)
      clear HA7
      have HA7 := HA7n
      clear HA7n
      refine hK2.out _ _ (HVAt.keep hHeld (HVAt.low hHeld) hb) (fun hHeld2 => ?_)
      clear hb
      clear hK2 K2 hHeld
      have hHeld := hHeld2
      clear hHeld2
      try simp (maxSteps := 4000000) only [Act.put, List.setIfInBounds_toArray, List.set_cons_zero, List.set_cons_succ]
      refine wpAnyH_ready (rs := [11]) (by kernel_rfl) (by simp) ?_
      refine AllReadyH.cons rfl (fun K2 hK2 => ?_) AllReadyH.nil
      go_simp
      with_reducible refine Calls.mono (few14 _ _ _ _ _ _ _) ?_
      rintro e u4 ⟨b1, l1, c1, p1, t1, rfl, hq1, hb⟩
      have HQ1 := Lib.hid hq1
      clear hq1
      have HB9n := Lib.hid (thn HB9.out hb)
      clear HB9
      have HB9 := HB9n
      clear HB9n
      have HA6n := Lib.hid (And.intro (HA6.out.1.below hb) HA6.out.2)
      clear HA6
      have HA6 := HA6n
      clear HA6n
      have HA7n := Lib.hid (And.intro (HA7.out.1.below hb) HA7.out.2)
      clear HA7
      have HA7 := HA7n
      clear HA7n
      refine hK2.out _ _ (HVAt.keep hHeld (HVAt.low hHeld) hb) (fun hHeld2 => ?_)
      clear hb
      clear hK2 K2 hHeld
      have hHeld := hHeld2
      clear hHeld2
      try simp (maxSteps := 4000000) only [Act.put, List.setIfInBounds_toArray, List.set_cons_zero, List.set_cons_succ]
      obtain ⟨-, z60, z61, z62, z63, z64, z65, -⟩ := HA6.out.1
      obtain ⟨g60, g61, g62, g63, g64, g65⟩ := HA6.out.1.fz
      refine wpAnyH_ready (rs := [14]) (by kernel_rfl) (by simp) ?_
      refine AllReadyH.cons rfl (fun K2 hK2 => ?_) AllReadyH.nil
      go_simp
      obtain ⟨u5, hw9, hz9, hs9, hk9, hb9⟩ := cap_st HA6.out.1 HA6.out.2 HB9.out b0 l0 c0 p0 t0 true
      rw [hw9]
      clear hw9 z60 g60 z61 g61 z62 g62 z63 g63 z64 g64 z65 g65
      have HA6n := Lib.hid (And.intro hz9 HA6.out.2)
      have HA7n := Lib.hid (And.intro (HA7.out.1.keep (Nat.le_of_eq hs9.symm) (hk9 _ hx67.symm)) HA7.out.2)
      have HB9n := Lib.hid hb9
      refine hK2.out _ _ (HVAt.same hHeld (hk9 _ (by have := HAB.out.1; have := HZW.out; have := HA6.out.2; omega))) (fun hHeld2 => ?_)
      clear HA6 HA7 HB9 hz9 hs9 hk9 hb9
      have HA6 := HA6n
      have HA7 := HA7n
      have HB9 := HB9n
      clear HA6n HA7n HB9n
      clear hK2 K2 hHeld
      have hHeld := hHeld2
      clear hHeld2
      try simp (maxSteps := 4000000) only [Act.put, List.setIfInBounds_toArray, List.set_cons_zero, List.set_cons_succ]
      obtain ⟨-, z70, z71, z72, z73, z74, z75, -⟩ := HA7.out.1
      obtain ⟨g70, g71, g72, g73, g74, g75⟩ := HA7.out.1.fz
      refine wpAnyH_ready (rs := [15]) (by kernel_rfl) (by simp) ?_
      refine AllReadyH.cons rfl (fun K2 hK2 => ?_) AllReadyH.nil
      go_simp
      obtain ⟨u6, hw9, hz9, hs9, hk9, hb9⟩ := cap_st HA7.out.1 HA7.out.2 HB9.out b1 l1 c1 p1 t1 true
      rw [hw9]
      clear hw9 z70 g70 z71 g71 z72 g72 z73 g73 z74 g74 z75 g75
      have HA7n := Lib.hid (And.intro hz9 HA7.out.2)
      have HA6n := Lib.hid (And.intro (HA6.out.1.keep (Nat.le_of_eq hs9.symm) (hk9 _ hx67)) HA6.out.2)
      have HB9n := Lib.hid hb9
      refine hK2.out _ _ (HVAt.same hHeld (hk9 _ (by have := HAB.out.1; have := HZW.out; have := HA7.out.2; omega))) (fun hHeld2 => ?_)
      clear HA6 HA7 HB9 hz9 hs9 hk9 hb9
      have HA6 := HA6n
      have HA7 := HA7n
      have HB9 := HB9n
      clear HA6n HA7n HB9n
      clear hK2 K2 hHeld
      have hHeld := hHeld2
      clear hHeld2
      try simp (maxSteps := 4000000) only [Act.put, List.setIfInBounds_toArray, List.set_cons_zero, List.set_cons_succ]
      refine wpAnyH_done (by kernel_rfl) ?_ _
      go_wp2_with fail
      go_meet
      exact ⟨x6, x7, _, _, _, _, _, _, _, _, _, _, rfl, rfl, Lib.hid ⟨HQ0.out, HQ1.out⟩, Lib.hid ⟨HA6.out.1, HA7.out.1, hx67, HA6.out.2, HA7.out.2⟩, HB9⟩
  · obtain ⟨x7, u1, hx7, hw9, hz9, hb⟩ := cz_first wr
    rw [hw9]
    try rw [hx7]
    clear hw9
    have HB9 := Lib.hid hb
    have HA7n := Lib.hid (And.intro hz9 (show wr.heap.size ≤ x7 by omega))
    clear hx7 hz9
    have HA7 := HA7n
    clear HA7n
    refine hK2.out _ _ (HAB.out.2.keep (by have := HAB.out.1; have := HZW.out; omega) hb) (fun hHeld2 => ?_)
    clear hb
    clear hK2 K2 hHeld
    have hHeld := hHeld2
    clear hHeld2
    try simp (maxSteps := 4000000) only [Act.put, List.setIfInBounds_toArray, List.set_cons_zero, List.set_cons_succ]
    refine wpAnyH_ready (rs := [5, 12]) (by kernel_rfl) (by simp) ?_
    refine AllReadyH.cons rfl (fun K2 hK2 => ?_) (AllReadyH.cons rfl (fun K2 hK2 => ?_) AllReadyH.nil)
    all_goals go_simp
    · with_reducible refine Calls.mono (few14 _ _ _ _ _ _ _) ?_
      rintro e u2 ⟨b0, l0, c0, p0, t0, rfl, hq0, hb⟩
      have HQ0 := Lib.hid hq0
      clear hq0
      have HB9n := Lib.hid (thn HB9.out hb)
      clear HB9
      have HB9 := HB9n
      clear HB9n
      have HA7n := Lib.hid (And.intro (HA7.out.1.below hb) HA7.out.2)
      clear HA7
      have HA7 := HA7n
      clear HA7n
      refine hK2.out _ _ (HVAt.keep hHeld (HVAt.low hHeld) hb) (fun hHeld2 => ?_)
      clear hb
      clear hK2 K2 hHeld
      have hHeld := hHeld2
      clear hHeld2
      try simp (maxSteps := 4000000) only [Act.put, List.setIfInBounds_toArray, List.set_cons_zero, List.set_cons_succ]
      refine wpAnyH_ready (rs := [11, 12]) (by kernel_rfl) (by simp) ?_
      refine AllReadyH.cons rfl (fun K2 hK2 => ?_) (AllReadyH.cons rfl (fun K2 hK2 => ?_) AllReadyH.nil)
      all_goals go_simp
      · with_reducible refine Calls.mono (few14 _ _ _ _ _ _ _) ?_
        rintro e u3 ⟨b1, l1, c1, p1, t1, rfl, hq1, hb⟩
        have HQ1 := Lib.hid hq1
        clear hq1
        have HB9n := Lib.hid (thn HB9.out hb)
        clear HB9
        have HB9 := HB9n
        clear HB9n
        have HA7n := Lib.hid (And.intro (HA7.out.1.below hb) HA7.out.2)
        clear HA7
        have HA7 := HA7n
        clear HA7n
        refine hK2.out _ _ (HVAt.keep hHeld (HVAt.low hHeld) hb) (fun hHeld2 => ?_)
        clear hb
        clear hK2 K2 hHeld
        have hHeld := hHeld2
        clear hHeld2
        try simp (maxSteps := 4000000) only [Act.put, List.setIfInBounds_toArray, List.set_cons_zero, List.set_cons_succ]
        refine wpAnyH_ready (rs := [12]) (by kernel_rfl) (by simp) ?_
        refine AllReadyH.cons rfl (fun K2 hK2 => ?_) AllReadyH.nil
        go_simp
        obtain ⟨x6, u4, hx6, hw9, hz9, hb⟩ := cz_next u3
        rw [hw9]
        try rw [hx6]
        clear hw9
        have HB9n := Lib.hid (thn HB9.out hb)
        have HA6n := Lib.hid (And.intro hz9 (show wr.heap.size ≤ x6 by have := HB9.out.size; omega))
        have hx67 : x6 ≠ x7 := by have h1 := HA7.out.1.1; omega
        clear hx6 hz9
        clear HB9
        have HB9 := HB9n
        clear HB9n
        have HA7n := Lib.hid (And.intro (HA7.out.1.below hb) HA7.out.2)
        clear HA7
        have HA7 := HA7n
        clear HA7n
        have HA6 := HA6n
        clear HA6n
        refine hK2.out _ _ (HVAt.keep hHeld (HVAt.low hHeld) hb) (fun hHeld2 => ?_)
        clear hb
        clear hK2 K2 hHeld
        have hHeld := hHeld2
        clear hHeld2
        try simp (maxSteps := 4000000) only [Act.put, List.setIfInBounds_toArray, List.set_cons_zero, List.set_cons_succ]
        obtain ⟨-, z60, z61, z62, z63, z64, z65, -⟩ := HA6.out.1
        obtain ⟨g60, g61, g62, g63, g64, g65⟩ := HA6.out.1.fz
        refine wpAnyH_ready (rs := [14]) (by kernel_rfl) (by simp) ?_
        refine AllReadyH.cons rfl (fun K2 hK2 => ?_) AllReadyH.nil
        go_simp
        obtain ⟨u5, hw9, hz9, hs9, hk9, hb9⟩ := cap_st HA6.out.1 HA6.out.2 HB9.out b0 l0 c0 p0 t0 true
        rw [hw9]
        clear hw9 z60 g60 z61 g61 z62 g62 z63 g63 z64 g64 z65 g65
        have HA6n := Lib.hid (And.intro hz9 HA6.out.2)
        have HA7n := Lib.hid (And.intro (HA7.out.1.keep (Nat.le_of_eq hs9.symm) (hk9 _ hx67.symm)) HA7.out.2)
        have HB9n := Lib.hid hb9
        refine hK2.out _ _ (HVAt.same hHeld (hk9 _ (by have := HAB.out.1; have := HZW.out; have := HA6.out.2; omega))) (fun hHeld2 => ?_)
        clear HA6 HA7 HB9 hz9 hs9 hk9 hb9
        have HA6 := HA6n
        have HA7 := HA7n
        have HB9 := HB9n
        clear HA6n HA7n HB9n
        clear hK2 K2 hHeld
        have hHeld := hHeld2
        clear hHeld2
        try simp (maxSteps := 4000000) only [Act.put, List.setIfInBounds_toArray, List.set_cons_zero, List.set_cons_succ]
        obtain ⟨-, z70, z71, z72, z73, z74, z75, -⟩ := HA7.out.1
        obtain ⟨g70, g71, g72, g73, g74, g75⟩ := HA7.out.1.fz
        refine wpAnyH_ready (rs := [15]) (by kernel_rfl) (by simp) ?_
        refine AllReadyH.cons rfl (fun K2 hK2 => ?_) AllReadyH.nil
        go_simp
        obtain ⟨u6, hw9, hz9, hs9, hk9, hb9⟩ := cap_st HA7.out.1 HA7.out.2 HB9.out b1 l1 c1 p1 t1 true
        rw [hw9]
        clear hw9 z70 g70 z71 g71 z72 g72 z73 g73 z74 g74 z75 g75
        have HA7n := Lib.hid (And.intro hz9 HA7.out.2)
        have HA6n := Lib.hid (And.intro (HA6.out.1.keep (Nat.le_of_eq hs9.symm) (hk9 _ hx67)) HA6.out.2)
        have HB9n := Lib.hid hb9
        refine hK2.out _ _ (HVAt.same hHeld (hk9 _ (by have := HAB.out.1; have := HZW.out; have := HA7.out.2; omega))) (fun hHeld2 => ?_)
        clear HA6 HA7 HB9 hz9 hs9 hk9 hb9
        have HA6 := HA6n
        have HA7 := HA7n
        have HB9 := HB9n
        clear HA6n HA7n HB9n
        clear hK2 K2 hHeld
        have hHeld := hHeld2
        clear hHeld2
        try simp (maxSteps := 4000000) only [Act.put, List.setIfInBounds_toArray, List.set_cons_zero, List.set_cons_succ]
        refine wpAnyH_done (by kernel_rfl) ?_ _
        go_wp2_with fail
        go_meet
        exact ⟨x6, x7, _, _, _, _, _, _, _, _, _, _, rfl, rfl, Lib.hid ⟨HQ0.out, HQ1.out⟩, Lib.hid ⟨HA6.out.1, HA7.out.1, hx67, HA6.out.2, HA7.out.2⟩, HB9⟩
      · obtain ⟨x6, u3, hx6, hw9, hz9, hb⟩ := cz_next u2
        rw [hw9]
        try rw [hx6]
        clear hw9
        have HB9n := Lib.hid (thn HB9.out hb)
        have HA6n := Lib.hid (And.intro hz9 (show wr.heap.size ≤ x6 by have := HB9.out.size; omega))
        have hx67 : x6 ≠ x7 := by have h1 := HA7.out.1.1; omega
        clear hx6 hz9
        clear HB9
        have HB9 := HB9n
        clear HB9n
        have HA7n := Lib.hid (And.intro (HA7.out.1.below hb) HA7.out.2)
        clear HA7
        have HA7 := HA7n
        clear HA7n
        have HA6 := HA6n
        clear HA6n
        refine hK2.out _ _ (HVAt.keep hHeld (HVAt.low hHeld) hb) (fun hHeld2 => ?_)
        clear hb
        clear hK2 K2 hHeld
        have hHeld := hHeld2
        clear hHeld2
        try simp (maxSteps := 4000000) only [Act.put, List.setIfInBounds_toArray, List.set_cons_zero, List.set_cons_succ]
        refine wpAnyH_ready (rs := [11]) (by kernel_rfl) (by simp) ?_
        refine AllReadyH.cons rfl (fun K2 hK2 => ?_) AllReadyH.nil
        go_simp
        with_reducible refine Calls.mono (few14 _ _ _ _ _ _ _) ?_
        rintro e u4 ⟨b1, l1, c1, p1, t1, rfl, hq1, hb⟩
        have HQ1 := Lib.hid hq1
        clear hq1
        have HB9n := Lib.hid (thn HB9.out hb)
        clear HB9
        have HB9 := HB9n
        clear HB9n
        have HA6n := Lib.hid (And.intro (HA6.out.1.below hb) HA6.out.2)
        clear HA6
        have HA6 := HA6n
        clear HA6n
        have HA7n := Lib.hid (And.intro (HA7.out.1.below hb) HA7.out.2)
        clear HA7
        have HA7 := HA7n
        clear HA7n
        refine hK2.out _ _ (HVAt.keep hHeld (HVAt.low hHeld) hb) (fun hHeld2 => ?_)
        clear hb
        clear hK2 K2 hHeld
        have hHeld := hHeld2
        clear hHeld2
        try simp (maxSteps := 4000000) only [Act.put, List.setIfInBounds_toArray, List.set_cons_zero, List.set_cons_succ]
        obtain ⟨-, z60, z61, z62, z63, z64, z65, -⟩ := HA6.out.1
        obtain ⟨g60, g61, g62, g63, g64, g65⟩ := HA6.out.1.fz
        refine wpAnyH_ready (rs := [14]) (by kernel_rfl) (by simp) ?_
        refine AllReadyH.cons rfl (fun K2 hK2 => ?_) AllReadyH.nil
        go_simp
        obtain ⟨u5, hw9, hz9, hs9, hk9, hb9⟩ := cap_st HA6.out.1 HA6.out.2 HB9.out b0 l0 c0 p0 t0 true
        rw [hw9]
        clear hw9 z60 g60 z61 g61 z62 g62 z63 g63 z64 g64 z65 g65
        have HA6n := Lib.hid (And.intro hz9 HA6.out.2)
        have HA7n := Lib.hid (And.intro (HA7.out.1.keep (Nat.le_of_eq hs9.symm) (hk9 _ hx67.symm)) HA7.out.2)
        have HB9n := Lib.hid hb9
        refine hK2.out _ _ (HVAt.same hHeld (hk9 _ (by have := HAB.out.1; have := HZW.out; have := HA6.out.2; omega))) (fun hHeld2 => ?_)
        clear HA6 HA7 HB9 hz9 hs9 hk9 hb9
        have HA6 := HA6n
        have HA7 := HA7n
        have HB9 := HB9n
        clear HA6n HA7n HB9n
        clear hK2 K2 hHeld
        have hHeld := hHeld2
        clear hHeld2
        try simp (maxSteps := 4000000) only [Act.put, List.setIfInBounds_toArray, List.set_cons_zero, List.set_cons_succ]
        obtain ⟨-, z70, z71, z72, z73, z74, z75, -⟩ := HA7.out.1
        obtain ⟨g70, g71, g72, g73, g74, g75⟩ := HA7.out.1.fz
        refine wpAnyH_ready (rs := [15]) (by kernel_rfl) (by simp) ?_
        refine AllReadyH.cons rfl (fun K2 hK2 => ?_) AllReadyH.nil
        go_simp
        obtain ⟨u6, hw9, hz9, hs9, hk9, hb9⟩ := cap_st HA7.out.1 HA7.out.2 HB9.out b1 l1 c1 p1 t1 true
        rw [hw9]
        clear hw9 z70 g70 z71 g71 z72 g72 z73 g73 z74 g74 z75 g75
        have HA7n := Lib.hid (And.intro hz9 HA7.out.2)
        have HA6n := Lib.hid (And.intro (HA6.out.1.keep (Nat.le_of_eq hs9.symm) (hk9 _ hx67)) HA6.out.2)
        have HB9n := Lib.hid hb9
        refine hK2.out _ _ (HVAt.same hHeld (hk9 _ (by have := HAB.out.1; have := HZW.out; have := HA7.out.2; omega))) (fun hHeld2 => ?_)
        clear HA6 HA7 HB9 hz9 hs9 hk9 hb9
        have HA6 := HA6n
        have HA7 := HA7n
        have HB9 := HB9n
        clear HA6n HA7n HB9n
        clear hK2 K2 hHeld
        have hHeld := hHeld2
        clear hHeld2
        try simp (maxSteps := 4000000) only [Act.put, List.setIfInBounds_toArray, List.set_cons_zero, List.set_cons_succ]
        refine wpAnyH_done (by kernel_rfl) ?_ _
        go_wp2_with fail
        go_meet
        exact ⟨x6, x7, _, _, _, _, _, _, _, _, _, _, rfl, rfl, Lib.hid ⟨HQ0.out, HQ1.out⟩, Lib.hid ⟨HA6.out.1, HA7.out.1, hx67, HA6.out.2, HA7.out.2⟩, HB9⟩
    · obtain ⟨x6, u2, hx6, hw9, hz9, hb⟩ := cz_next u1
      rw [hw9]
      try rw [hx6]
      clear hw9
      have HB9n := Lib.hid (thn HB9.out hb)
      have HA6n := Lib.hid (And.intro hz9 (show wr.heap.size ≤ x6 by have := HB9.out.size; omega))
      have hx67 : x6 ≠ x7 := by have h1 := HA7.out.1.1; omega
      clear hx6 hz9
      clear HB9
      have HB9 := HB9n
      clear HB9n
      have HA7n := Lib.hid (And.intro (HA7.out.1.below hb) HA7.out.2)
      clear HA7
      have HA7 := HA7n
      clear HA7n
      have HA6 := HA6n
      clear HA6n
      refine hK2.out _ _ (HVAt.keep hHeld (HVAt.low hHeld) hb) (fun hHeld2 => ?_)
      clear hb
      clear hK2 K2 hHeld
      have hHeld := hHeld2
      clear hHeld2
      try simp (maxSteps := 4000000) only [Act.put, List.setIfInBounds_toArray, List.set_cons_zero, List.set_cons_succ]
      refine wpAnyH_ready (rs := [5]) (by kernel_rfl) (by simp) ?_
      refine AllReadyH.cons rfl (fun K2 hK2 => ?_) AllReadyH.nil
      go_simp
      with_reducible refine Calls.mono (few14 _ _ _ _ _ _ _) ?_
      rintro e u3 ⟨b0, l0, c0, p0, t0, rfl, hq0, hb⟩
      have HQ0 := Lib.hid hq0
      clear hq0
      have HB9n := Lib.hid (thn HB9.out hb)
      clear HB9
      have HB9 := HB9n
      clear HB9n
      have HA6n := Lib.hid (And.intro (HA6.out.1.below hb) HA6.out.2)
      clear HA6
      have HA6 := HA6n
      clear HA6n
      have HA7n := Lib.hid (And.intro (HA7.out.1.below hb) HA7.out.2)
      clear HA7
      have HA7 := HA7n
      clear HA7n
      refine hK2.out _ _ (HVAt.keep hHeld (HVAt.low hHeld) hb) (fun hHeld2 => ?_)
      clear hb
      clear hK2 K2 hHeld
      have hHeld := hHeld2
      clear hHeld2
      try simp (maxSteps := 4000000) only [Act.put, List.setIfInBounds_toArray, List.set_cons_zero, List.set_cons_succ]
      refine wpAnyH_ready (rs := [11]) (by kernel_rfl) (by simp) ?_
      refine AllReadyH.cons rfl (fun K2 hK2 => ?_) AllReadyH.nil
      go_simp
      with_reducible refine Calls.mono (few14 _ _ _ _ _ _ _) ?_
      rintro e u4 ⟨b1, l1, c1, p1, t1, rfl, hq1, hb⟩
      have HQ1 := Lib.hid hq1
      clear hq1
      have HB9n := Lib.hid (thn HB9.out hb)
      clear HB9
      have HB9 := HB9n
      clear HB9n
      have HA6n := Lib.hid (And.intro (HA6.out.1.below hb) HA6.out.2)
      clear HA6
      have HA6 := HA6n
      clear HA6n
      have HA7n := Lib.hid (And.intro (HA7.out.1.below hb) HA7.out.2)
      clear HA7
      have HA7 := HA7n
      clear HA7n
      refine hK2.out _ _ (HVAt.keep hHeld (HVAt.low hHeld) hb) (fun hHeld2 => ?_)
      clear hb
      clear hK2 K2 hHeld
      have hHeld := hHeld2
      clear hHeld2
      try simp (maxSteps := 4000000) only [Act.put, List.setIfInBounds_toArray, List.set_cons_zero, List.set_cons_succ]
      obtain ⟨-, z60, z61, z62, z63, z64, z65, -⟩ := HA6.out.1
      obtain ⟨g60, g61, g62, g63, g64, g65⟩ := HA6.out.1.fz
      refine wpAnyH_ready (rs := [14]) (by kernel_rfl) (by simp) ?_
      refine AllReadyH.cons rfl (fun K2 hK2 => ?_) AllReadyH.nil
      go_simp
      obtain ⟨u5, hw9, hz9, hs9, hk9, hb9⟩ := cap_st HA6.out.1 HA6.out.2 HB9.out b0 l0 c0 p0 t0 true
      rw [hw9]
      clear hw9 z60 g60 z61 g61 z62 g62 z63 g63 z64 g64 z65 g65
      have HA6n := Lib.hid (And.intro hz9 HA6.out.2)
      have HA7n := Lib.hid (And.intro (HA7.out.1.keep (Nat.le_of_eq hs9.symm) (hk9 _ hx67.symm)) HA7.out.2)
      have HB9n := Lib.hid hb9
      refine hK2.out _ _ (HVAt.same hHeld (hk9 _ (by have := HAB.out.1; have := HZW.out; have := HA6.out.2; omega))) (fun hHeld2 => ?_)
      clear HA6 HA7 HB9 hz9 hs9 hk9 hb9
      have HA6 := HA6n
      have HA7 := HA7n
      have HB9 := HB9n
      clear HA6n HA7n HB9n
      clear hK2 K2 hHeld
      have hHeld := hHeld2
      clear hHeld2
      try simp (maxSteps := 4000000) only [Act.put, List.setIfInBounds_toArray, List.set_cons_zero, List.set_cons_succ]
      obtain ⟨-, z70, z71, z72, z73, z74, z75, -⟩ := HA7.out.1
      obtain ⟨g70, g71, g72, g73, g74, g75⟩ := HA7.out.1.fz
      refine wpAnyH_ready (rs := [15]) (by kernel_rfl) (by simp) ?_
      refine AllReadyH.cons rfl (fun K2 hK2 => ?_) AllReadyH.nil
      go_simp
      obtain ⟨u6, hw9, hz9, hs9, hk9, hb9⟩ := cap_st HA7.out.1 HA7.out.2 HB9.out b1 l1 c1 p1 t1 true
      rw [hw9]
      clear hw9 z70 g70 z71 g71 z72 g72 z73 g73 z74 g74 z75 g75
      have HA7n := Lib.hid (And.intro hz9 HA7.out.2)
      have HA6n := Lib.hid (And.intro (HA6.out.1.keep (Nat.le_of_eq hs9.symm) (hk9 _ hx67)) HA6.out.2)
      have HB9n := Lib.hid hb9
      refine hK2.out _ _ (HVAt.same hHeld (hk9 _ (by have := HAB.out.1; have := HZW.out; have := HA7.out.2; omega))) (fun hHeld2 => ?_)
      clear HA6 HA7 HB9 hz9 hs9 hk9 hb9
      have HA6 := HA6n
      have HA7 := HA7n
      have HB9 := HB9n
      clear HA6n HA7n HB9n
      clear hK2 K2 hHeld
      have hHeld := hHeld2
      clear hHeld2
      try simp (maxSteps := 4000000) only [Act.put, List.setIfInBounds_toArray, List.set_cons_zero, List.set_cons_succ]
      refine wpAnyH_done (by kernel_rfl) ?_ _
      go_wp2_with fail
      go_meet
      exact ⟨x6, x7, _, _, _, _, _, _, _, _, _, _, rfl, rfl, Lib.hid ⟨HQ0.out, HQ1.out⟩, Lib.hid ⟨HA6.out.1, HA7.out.1, hx67, HA6.out.2, HA7.out.2⟩, HB9⟩
end Go.Proofs.YtgidnmjeifgciaaDoor
namespace Go.Proofs.YtgidnmjeifgciaaDoor
set_option maxRecDepth 100000
open Go.RowKit Go.ChangeMaps Go.MapKept
set_option linter.unusedVariables false
set_option linter.unusedSimpArgs false

set_option maxHeartbeats 60000000 in
theorem hpStep_w3 : hpStep.2.2.2.1 := by
  intro l cp W T L hl HLEN Z zz0 v0 HB0 v1 M col a0 va v2 cl1 zz1 wo u24 u25 u26 u27 u28 u29 u30 zz2 zz3 v3 cl3 zz4 zz5 zz6 wr u2 u7 u8 u9 u10 u11 u12 u13 u14 u15 u16 u17 zz7 zz8 zz9 zz10 zz11 zz12 zz13 zz14 zz15 zz16 zz17 zz18 zz19 zz20 zz21 zz22 zz23 zz24 zz25 zz26 zz27 zz28 zz29 zz30 zz31 zz32 zz33 zz34 u64 zz35 zz36 zz37 zz38 zz39 zz40 zz41 zz42 zz43 zz44 zz45 zz46 zz47 zz48 zz49 zz50 zz51 zz52 zz53 u84 zz54 zz55 zz56 zz57 zz58 zz59 zz60 zz61 zz62 zz63 zz64 zz65 zz66 zz67 zz68 zz69 zz70 zz71 zz72 zz73 zz74 zz75 zz76 zz77 zz78 zz79 zz80 zz81 zz82 zz83 zz84 zz85 u117 zz86 zz87 zz88 zz89 zz90 zz91 zz92 zz93 zz94 zz95 zz96 zz97 zz98 zz99 zz100 zz101 zz102 zz103 zz104 zz105 zz106 zz107 zz108 zz109 zz110 zz111 zz112 zz113 zz114 zz115 zz116 zz117 zz118 zz119 zz120 zz121 zz122 zz123 zz124 zz125 zz126 zz127 zz128 zz129 zz130 u163 zz131 zz132 zz133 zz134 zz135 zz136 zz137 zz138 zz139 zz140 zz141 zz142 zz143 zz144 zz145 zz146 zz147 zz148 i σ r cl hi hi30 g1 g2 g1I g2I p ab ao HA zz149 zz150 HZW zz151 zz152 zz153 w4 u36 u37 u38 u39 u40 u41 u42 u43 u44 u45 u46 u47 u48 u49 u50 u51 u52 u53 u54 u55 u56 u57 u58 u59 u60 u61 u62 u63 u65 u66 u67 u68 u69 u70 u71 u72 u73 u74 u75 u76 u77 u78 u79 u80 u81 u82 u83 u85 u86 u87 u88 u89 u90 u91 u92 u93 u94 u95 u96 u97 u98 u99 u100 u101 u102 u103 u104 u105 u106 u107 u108 u109 u110 u111 u112 u113 u114 u115 u116 u118 u119 u120 u121 u122 u123 u124 u125 u126 u127 u128 u129 u130 u131 u132 u133 u134 u135 u136 u137 u138 u139 u140 u141 u142 u143 u144 u145 u146 u147 u148 u149 u150 u151 u152 u153 u154 u155 u156 u157 u158 u159 u160 u161 u162 u164 u165 u166 u167 u168 u169 u170 u171 u172 u173 u174 u175 u176 u177 u178 u179 u180 u181 x6 x7 b1 l1 c1 p1 t1 b2 l2 c2 p2 t2 q1 q2 q3 q4 q5 q6 q7 q8 q9 q10 q11 k1 k2 k3 k4 k5 k6 k7 k8 k9 k10 k11 HP4 HX60 HX70 HNA HX6 HX7 a0' a1 a2 a3 a4 a5 d0 d1 d2 d3 d4 d5 kd f15 hk5 fr
  obtain ⟨E, hE⟩ : ∃ E, accE σ b1 l1 c1 p1 t1 true 3 2 = E := ⟨_, rfl⟩
  have HE : Hid (accE σ b1 l1 c1 p1 t1 true ((3 : Nat) : Int) 2 = E) := Lib.hid hE
  have HER : Hid (accR r b1 l1 c1 p1 t1 true 3 2 = E) := Lib.hid (by rw [← HP4.out.lk.acc _ _ _ _ _ _ 3 2 (by decide)]; exact hE)
  clear hE
  go_upto_region 39 with (fail)
  have hbq := alc0 w4 (.cells #[.int .u8 1, .int .u8 2, .int .u8 3] 5)
  have HP5 := Lib.hid (HP4.out.later hbq)
  have HX65 := Lib.hid (HX6.out.below hbq)
  have HX75 := Lib.hid (HX7.out.below hbq)
  have HRW := Lib.hid (row3 w4 5)
  have HD0 : Hid (cl w4.heap.size = 0) := Lib.hid (HP4.out.half.mem.old (Nat.le_refl _))
  clear hbq a0' a1 a2 a3 a4 a5 d0 d1 d2 d3 d4 d5
  generalize hw5 : World.alloc w4 _ = w5 at *
  generalize w4.heap.size = DB at *
  clear hw5
  obtain ⟨-, a0', a1, a2, a3, a4, a5, -⟩ := HX65.out
  have HRG := Lib.hid HP5.out.half.rat.range
  have HI1 := Lib.hid (RS.info r)
  go_wp2_with (refine wpList_load_mid rfl 34 (.tmp 4) rfl a0 0 rfl r.l _ HRG.out Tryd.underlying34 rfl HI1.out ?_)
  refine (raccess E r HP5.out.half.one b1 l1 c1 p1 t1 true 3 2 _ HER.out).mono ?_
  rintro e w6 ⟨rfl, hb6⟩
  have HP6 := Lib.hid (HP5.out.later hb6)
  have HX66 := Lib.hid (HX65.out.below hb6)
  have HRW6 := Lib.hid (HRW.out.below hb6)
  clear hb6 HRG a0' a1 a2 a3 a4 a5
  obtain ⟨-, a0', a1, a2, a3, a4, a5, -⟩ := HX66.out
  by_cases h0 : E = 0
  · subst h0
    have hn := accE_nat HE.out
    obtain ⟨C, rfl⟩ : ∃ n : Nat, c1 = n := ⟨c1.toNat, by omega⟩
    have HC3 : Hid (C + 3 ≤ 2048) := Lib.hid (by
      have h1 := HP4.out.lk.low (tagd_open ((accE_ok HE.out).2.2.2 (by decide)))
      omega)
    clear hn
    go_wp2_with fail
    with_reducible refine Calls.mono (ckstore_yes b1 l1 p1 t1 C 3 DB 0 3 true (fun i => i + 1) HP6.out.half.mem (by decide) (by decide) HE.out HRW6.out.at_ (fun i hi => by omega) HD0.out) ?_
    rintro e w7 ⟨rfl, hs7⟩
    obtain ⟨cl7, hh7, hc7, ho7, hz7⟩ := HP6.out.half.step hs7
    have HH7 : Hid (MHalf v0.heap.size M a0 v0 (wrS σ C 3 (fun i => i + 1)) r cl7 w7) := Lib.hid hh7
    have HX67 := Lib.hid (HX66.out.keep hz7 (ho7 _ HX66.out.1 (by rw [HX60.out]; decide)))
    have HRW7 := Lib.hid (HRW6.out.keep hz7 (ho7 _ HRW6.out.1 (by rw [HD0.out]; decide)))
    clear hs7 hh7 hc7 ho7 hz7 a0' a1 a2 a3 a4 a5
    obtain ⟨-, a0', a1, a2, a3, a4, a5, -⟩ := HX67.out
    have HRG := Lib.hid HH7.out.rat.range
    go_wp2_with (refine wpList_load_mid rfl 34 (.tmp 4) rfl a0 0 rfl r.l _ HRG.out Tryd.underlying34 rfl HI1.out ?_)
    refine (rwrite r HH7.out.one C 3 DB 0 3 (fun i => i + 1) HC3.out (by decide) w7 HRW7.out.at_ (fun i hi => by omega)).mono ?_
    rintro e w8 ⟨rfl, hb8⟩
    have hone := wrN_one HH7.out.one C (fun i => i + 1) 3
    have HTH := Lib.hid ((HH7.out.later hb8).there (wrN r C (fun i => i + 1) 3))
    have HI2 := Lib.hid (RS.infoA (wrN r C (fun i => i + 1) 3))
    have HON := Lib.hid (RS.one hone)
    have HFIN := Lib.hid (MH.mk ((HH7.out.later hb8).put hone) (HP4.out.lk.write (a := C) (n := 3) (d := fun i => i + 1) (by decide) HC3.out) HP4.out.pg)
    clear hb8 hone HRG a0' a1 a2 a3 a4 a5
    go_wp2_with (refine wpList_store_mid rfl 34 (.tmp 4) (.tmp 181) rfl a0 0 (wrN r C (fun i => i + 1) 3).l.toArray rfl rfl ?htc ?hic ?h1c ?_; simpa using HTH.out; exact HI2.out; exact HON.out)
    go_roundw
    case rel => exact ⟨i + 1, _, _, _, by omega, by omega, by go_num, HFIN⟩
    case measure => simp [intOf]; omega
  · have h5 : (E == 0) = false := by simpa using h0
    go_wp2_with fail
    with_reducible refine Calls.mono (ckstore_no E b1 l1 c1 p1 t1 true (some ⟨DB, 0, none⟩) 3 3 HP6.out.half.mem HE.out h0) ?_
    rintro e w7 ⟨rfl, hb7⟩
    have HFIN := Lib.hid (HP6.out.later hb7)
    clear hb7 h0 a0' a1 a2 a3 a4 a5
    go_wp2_with fail
    go_roundw
    case rel => exact ⟨i + 1, _, _, _, by omega, by omega, by go_num, HFIN⟩
    case measure => simp [intOf]; omega
end Go.Proofs.YtgidnmjeifgciaaDoor
namespace Go.Proofs.YtgidnmjeifgciaaDoor
set_option maxRecDepth 100000
open Go.RowKit Go.ChangeMaps Go.MapKept
set_option linter.unusedVariables false
set_option linter.unusedSimpArgs false

set_option maxHeartbeats 60000000 in
theorem hpStep_w4 : hpStep.2.2.2.2.1 := by
  intro l cp W T L hl HLEN Z zz0 v0 HB0 v1 M col a0 va v2 cl1 zz1 wo u24 u25 u26 u27 u28 u29 u30 zz2 zz3 v3 cl3 zz4 zz5 zz6 wr u2 u7 u8 u9 u10 u11 u12 u13 u14 u15 u16 u17 zz7 zz8 zz9 zz10 zz11 zz12 zz13 zz14 zz15 zz16 zz17 zz18 zz19 zz20 zz21 zz22 zz23 zz24 zz25 zz26 zz27 zz28 zz29 zz30 zz31 zz32 zz33 zz34 u64 zz35 zz36 zz37 zz38 zz39 zz40 zz41 zz42 zz43 zz44 zz45 zz46 zz47 zz48 zz49 zz50 zz51 zz52 zz53 u84 zz54 zz55 zz56 zz57 zz58 zz59 zz60 zz61 zz62 zz63 zz64 zz65 zz66 zz67 zz68 zz69 zz70 zz71 zz72 zz73 zz74 zz75 zz76 zz77 zz78 zz79 zz80 zz81 zz82 zz83 zz84 zz85 u117 zz86 zz87 zz88 zz89 zz90 zz91 zz92 zz93 zz94 zz95 zz96 zz97 zz98 zz99 zz100 zz101 zz102 zz103 zz104 zz105 zz106 zz107 zz108 zz109 zz110 zz111 zz112 zz113 zz114 zz115 zz116 zz117 zz118 zz119 zz120 zz121 zz122 zz123 zz124 zz125 zz126 zz127 zz128 zz129 zz130 u163 zz131 zz132 zz133 zz134 zz135 zz136 zz137 zz138 zz139 zz140 zz141 zz142 zz143 zz144 zz145 zz146 zz147 zz148 i σ r cl hi hi30 g1 g2 g1I g2I p ab ao HA zz149 zz150 HZW zz151 zz152 zz153 w4 u36 u37 u38 u39 u40 u41 u42 u43 u44 u45 u46 u47 u48 u49 u50 u51 u52 u53 u54 u55 u56 u57 u58 u59 u60 u61 u62 u63 u65 u66 u67 u68 u69 u70 u71 u72 u73 u74 u75 u76 u77 u78 u79 u80 u81 u82 u83 u85 u86 u87 u88 u89 u90 u91 u92 u93 u94 u95 u96 u97 u98 u99 u100 u101 u102 u103 u104 u105 u106 u107 u108 u109 u110 u111 u112 u113 u114 u115 u116 u118 u119 u120 u121 u122 u123 u124 u125 u126 u127 u128 u129 u130 u131 u132 u133 u134 u135 u136 u137 u138 u139 u140 u141 u142 u143 u144 u145 u146 u147 u148 u149 u150 u151 u152 u153 u154 u155 u156 u157 u158 u159 u160 u161 u162 u164 u165 u166 u167 u168 u169 u170 u171 u172 u173 u174 u175 u176 u177 u178 u179 u180 u181 x6 x7 b1 l1 c1 p1 t1 b2 l2 c2 p2 t2 q1 q2 q3 q4 q5 q6 q7 q8 q9 q10 q11 k1 k2 k3 k4 k5 k6 k7 k8 k9 k10 k11 HP4 HX60 HX70 HNA HX6 HX7 a0' a1 a2 a3 a4 a5 d0 d1 d2 d3 d4 d5 kd f15 hk5 fr
  have hX0 : 0 ≤ b1 / 16 * 16 := by omega
  have hX1 : b1 / 16 * 16 ≤ 1023 := by omega
  go_upto_if 70 with (fail)
  go_cut [16] (fun v16 wx => ∃ a : Nat, v16 = .int .i64 (a : Int) ∧ a ≤ 960 ∧ w4 = wx)
  case first =>
    by_cases h96 : 960 < b1 / 16 * 16
    · go_wp2_with fail
      go_meet
      exact ⟨960, rfl, by omega, rfl⟩
    · go_wp2_with fail
      go_meet
      exact ⟨(b1 / 16 * 16).toNat, congrArg (Value.int .i64) (by omega), by omega, rfl⟩
  case rest =>
    obtain ⟨a, rfl, ha9, rfl⟩ := hcut
    clear hX0 hX1
    obtain ⟨L5, rfl⟩ : ∃ n : Nat, t2 = n := ⟨t2.toNat, by omega⟩
    have HL5 : Hid (L5 < 16) := Lib.hid (by omega)
    have HAO : Hid (openB σ.pg (a : Int) 64 = true) := Lib.hid (pg4_open HP4.out.pg (by omega) (by decide) (by omega))
    have HA9 := Lib.hid ha9
    clear ha9
    go_wp2_with fail
    with_reducible refine Calls.mono (msettag_ok (a : Int) 64 L5 HP4.out.half.mem HL5.out HAO.out) ?_
    rintro e w5 ⟨rfl, hs5⟩
    obtain ⟨cl5, hh5, hc5, ho5, hz5⟩ := HP4.out.half.step hs5
    have HH5 : Hid (MHalf v0.heap.size M a0 v0 { σ with f := setF σ.f (grF (a : Int)) (grN (a : Int) 64) L5 } r cl5 w5) := Lib.hid hh5
    have HX75 := Lib.hid (HX7.out.keep hz5 (ho5 _ HX7.out.1 (by rw [HX70.out]; decide)))
    clear hs5 hh5 hc5 ho5 hz5 a0' a1 a2 a3 a4 a5 d0 d1 d2 d3 d4 d5
    obtain ⟨-, d0, d1, d2, d3, d4, d5, -⟩ := HX75.out
    obtain ⟨F, hF⟩ : ∃ F : Nat, (a : Int) / 16 = F := ⟨a / 16, by omega⟩
    obtain ⟨Z, hZ⟩ : ∃ Z : Nat, ((a : Int) + 64 - 1) / 16 = Z := ⟨(a + 63) / 16, by omega⟩
    have HLK := Lib.hid (HP4.out.lk.tags (t := L5) hF hZ (by omega) (by decide))
    have RT := Lib.hid (fun W => rtag r HH5.out.one (a : Int) 64 (L5 : Int) F Z hF hZ (by omega) (by decide) (by have := HA9.out; omega) W)
    clear hF hZ
    have HRG := Lib.hid HH5.out.rat.range
    have HI1 := Lib.hid (RS.info r)
    go_wp2_with (refine wpList_load_mid rfl 34 (.tmp 4) rfl a0 0 rfl r.l _ HRG.out Tryd.underlying34 rfl HI1.out ?_)
    refine (RT.out _).mono ?_
    rintro e w6 ⟨rfl, hb6⟩
    have hone : (tagN r F (Z - F + 1) (L5 : Int)).One := HH5.out.one
    have HTH := Lib.hid ((HH5.out.later hb6).there (tagN r F (Z - F + 1) (L5 : Int)))
    have HI2 := Lib.hid (RS.infoA (tagN r F (Z - F + 1) (L5 : Int)))
    have HON := Lib.hid (RS.one hone)
    have HFIN := Lib.hid (MH.mk ((HH5.out.later hb6).put hone) HLK.out HP4.out.pg)
    clear hb6 hone HRG d0 d1 d2 d3 d4 d5
    go_wp2_with (refine wpList_store_mid rfl 34 (.tmp 4) (.tmp 83) rfl a0 0 (tagN r F (Z - F + 1) (L5 : Int)).l.toArray rfl rfl ?htd ?hid ?h1d ?_; simpa using HTH.out; exact HI2.out; exact HON.out)
    go_roundw
    case rel => exact ⟨i + 1, _, _, _, by omega, by omega, by go_num, HFIN⟩
    case measure => simp [intOf]; omega
end Go.Proofs.YtgidnmjeifgciaaDoor
