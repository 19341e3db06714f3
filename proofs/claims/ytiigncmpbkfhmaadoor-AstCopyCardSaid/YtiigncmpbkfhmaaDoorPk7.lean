/-
  What AstCopyCard stands on, part 7.
-/
import Derived.Test.YtiigncmpbkfhmaaDoorPk6
namespace Go.Proofs.YtiigncmpbkfhmaaDoor
open Go Go.RowKit
theorem pgHf_sz2 (p : Pg) (h : 0 ≤ pgHf p 3000) : thsSz p.ts ≤ 3000 := by
 unfold pgHf at h
 have h1 := thsHf_sz _ _ h
 have h2 := dcsHf_le p.ds (3000 - min (3000 + 1) ((p.ds.length : Nat) : Int) - min (3000 + 1) ((p.ts.length : Nat) : Int))
 omega
theorem pgHf_len (p : Pg) (h : 0 ≤ pgHf p 3000) : p.ds.length ≤ 1000000 ∧ p.ts.length ≤ 1000000 := by
 unfold pgHf at h
 have h1 := thsHf_sz _ _ h
 have h2 := dcsHf_le p.ds (3000 - min (3000 + 1) ((p.ds.length : Nat) : Int) - min (3000 + 1) ((p.ts.length : Nat) : Int))
 omega
theorem own_el {α : Type} {G : List It} {t : TypeId} {A : Option Addr} {f : α → List Value} {s : Nat} (hf : ∀ x, (f x).length = s) (hs : 0 < s) {l : List α} (h : RowIn G t A (l.flatMap f)) {k : Nat} {x : α} (hk : l[k]? = some x) :
  ∃ (b j : Nat) (ds : List Value), A = some ⟨b, 0, none⟩ ∧ G[j]? = some (.row b t ds) ∧ (ds.drop (k * s)).take s = f x := by
 rcases h with h | ⟨b, rfl, hm⟩
 ·exfalso
  have h1 := List.flatMap_eq_nil_iff.1 h x (List.mem_of_getElem? hk)
  have h2 := hf x
  rw [h1] at h2
  simp at h2
  omega
 ·obtain ⟨j, hj, e⟩ := List.getElem_of_mem hm
  exact ⟨b, j, _, rfl, by rw [List.getElem?_eq_getElem hj, e], flat_at (f := f) (s := s) hf hk⟩
abbrev rG (b : Nat) (q : Pg) : It := .row b 25 [.slice q.A1 q.ds.length q.c1, .slice q.A2 q.ts.length q.c2]
abbrev rN (b : Nat) : It := .row b 25 [.slice none 0 0, .slice none 0 0]
set_option maxRecDepth 100000 in
set_option maxHeartbeats 4000000 in
theorem copy_yes (p : Pg) (w0 : World) (hTab : TabOk w0) (hp : PgAt w0 p) : Calls Tryd.prog 5 #[vG p] w0 (Ret w0 (.bool true)) := by
 refine calls_K (args := [vG p]) (n := 156) (env := [(0, vG p)]) Tryd.func5 rfl rfl rfl ⟨rfl, trivial⟩ fun a w hK hM => ?_
 refine wp_seq ?_
 refine region_go (lst := [0, 1]) (by kernel_rfl) ?_
 refine stepAlloc hK hM 1 25 [.slice p.A1 p.ds.length p.c1, .slice p.A2 p.ts.length p.c2] (fun b => pA b 0) (by kernel_rfl) (by kernel_rfl) fun b1 a w hK hM => ?_
 refine stepP hK 2 (.bool false) (by kernel_rfl) (by kernel_rfl) fun a hK => ?_
 refine region_done hK [(2, .bool false), (1, pA b1 0), (0, vG p)] ⟨rfl, rfl, rfl, trivial⟩ fun a hK => ?_
 refine wp_seq ?_
 refine wp_seq ?_
 refine region_go (lst := [0, 1]) (by kernel_rfl) ?_
 refine stepRet hK hM 13 #[] (.bool true) (by kernel_rfl) (run_callE en_cantileverlaw03_lives rfl rfl (by kernel_rfl)) (lives_yes _ (hTab.on hM.below)) fun a w hK hM => ?_
 refine stepP hK 14 (.bool false) (by kernel_rfl) (by kernel_rfl) fun a hK => ?_
 refine region_done hK [(14, .bool false), (2, .bool false), (1, pA b1 0), (0, vG p)] ⟨rfl, rfl, rfl, rfl, trivial⟩ fun a hK => ?_
 refine wp_cond_false (hK.get rfl) ?_
 refine wp_skip ?_
 refine wp_seq ?_
 refine wp_seq ?_
 refine region_go (lst := [0, 1, 2]) (by kernel_rfl) ?_
 refine stepLoad hK 15 (vG p) (by kernel_rfl) rfl rfl ((hM.row 0 rfl).cells 0 2) (by kernel_rfl) fun a hK => ?_
 rcases Bool.eq_false_or_eq_true (decide ((0 : Int) ≤ pgHf p 3000)) with h2 | h2
 ·refine stepRet hK hM 16 #[vG p, .int .i64 3000] (.bool true) (by kernel_rfl) (run_callE en_cantileverkit_LightProgram rfl rfl (by kernel_rfl)) (ret_eq (kit_LightProgram p 3000 _ (hp.on hM.below) (by decide) (by decide)) (congrArg Value.bool h2)) fun a w hK hM => ?_
  refine stepP hK 17 (.bool false) (by kernel_rfl) (by kernel_rfl) fun a hK => ?_
  refine region_done hK [(17, .bool false), (14, .bool false), (2, .bool false), (1, pA b1 0), (0, vG p)] ⟨rfl, rfl, rfl, rfl, rfl, trivial⟩ fun a hK => ?_
  refine wp_cond_false (hK.get rfl) ?_
  refine wp_skip ?_
  refine wp_seq ?_
  have hlp : 0 ≤ pgHf p 3000 := of_decide_eq_true h2
  have hsh := pgHf_sh p hlp
  have hsz : thsSz p.ts ≤ 3000 := pgHf_sz2 p hlp
  have hsh2 := pg_sh hsh
  have hsz2 : ∀ t ∈ p.ts, smsSz t.l ≤ 1000000 := fun t ht => (by obtain ⟨i, hi, rfl⟩ := List.getElem_of_mem ht; have h8 := thsSz_mem (List.getElem?_eq_getElem hi); omega)
  have hln2 := pgHf_len p hlp
  refine wp_cut (fun a w => ∃ (G5_1 : List It), ∃ (G5_3 : List It), ∃ (b5_4 : Nat), ∃ (b5_5 : Nat), ∃ (q5_1 : Pg), ∃ (q5_3 : Pg), Knows a 156 [(4, pA b5_5 0), (3, pA b5_4 0), (17, .bool false), (14, .bool false), (2, .bool false), (1, pA b1 0), (0, vG p)] ∧ Mem w0 w (rG b5_5 q5_3 :: rG b5_4 q5_1 :: rG b1 p :: (G5_1 ++ G5_3)) ∧ (q5_1.ds = p.ds) ∧ (q5_3.ds = p.ds) ∧ (PgRows G5_1 q5_1) ∧ (PgRows G5_3 q5_3) ∧ (pgSame q5_1 p = true) ∧ (pgSame q5_3 p = true)) ?_ ?_
  ·refine region_tree hM (by kernel_rfl) 8 (by kernel_rfl) #[false, false, false, false, false, false, false, false] (by kernel_rfl) ?_
   clear hM; intro w hM
   refine treeM [0, 2, 4, 5] (by kernel_rfl) rfl ⟨?_, ?_, ?_, ?_, trivial⟩
   ·refine stepLoad hK 18 (vG p) (by kernel_rfl) rfl rfl ((hM.row 0 rfl).cells 0 2) (by kernel_rfl) fun a hK => ?_
    refine tree_next #[true, false, false, false, false, false, false, false] (by kernel_rfl) ?_
    refine treeM [1, 2, 4, 5] (by kernel_rfl) rfl ⟨?_, ?_, ?_, ?_, trivial⟩
    ·refine stepCall hK hM 19 #[vG p] (by kernel_rfl) (run_callE en_ast_Copy rfl rfl (by kernel_rfl)) (ast_Copy p _ (hp.on hM.below) hsh2 hsz2 hln2) ?_
     rintro ⟨q5_1, G5_1⟩ a w ⟨hr5_1, hs5_1, hd5_1⟩ hK hM
     replace hM := (Mem.comm hM).to ((rG b1 p :: G5_1)) (by kernel_rfl)
     refine tree_next #[true, true, false, false, false, false, false, false] (by kernel_rfl) ?_
     refine treeM [2, 4, 5] (by kernel_rfl) rfl ⟨?_, ?_, ?_, trivial⟩
     ·refine stepLoad hK 20 (vG p) (by kernel_rfl) rfl rfl ((hM.row 0 rfl).cells 0 2) (by kernel_rfl) fun a hK => ?_
      refine tree_next #[true, true, true, false, false, false, false, false] (by kernel_rfl) ?_
      refine treeM [3, 4, 5] (by kernel_rfl) rfl ⟨?_, ?_, ?_, trivial⟩
      ·refine stepCall hK hM 21 #[vG p] (by kernel_rfl) (run_callE en_ast_Copy rfl rfl (by kernel_rfl)) (ast_Copy p _ (hp.on hM.below) hsh2 hsz2 hln2) ?_
       rintro ⟨q5_3, G5_3⟩ a w ⟨hr5_3, hs5_3, hd5_3⟩ hK hM
       replace hM := (Mem.comm hM).to ((rG b1 p :: (G5_1 ++ G5_3))) (by kernel_rfl)
       refine tree_next #[true, true, true, true, false, false, false, false] (by kernel_rfl) ?_
       refine treeM [4, 5] (by kernel_rfl) rfl ⟨?_, ?_, trivial⟩
       ·refine stepAlloc hK hM 3 25 [.slice none 0 0, .slice none 0 0] (fun b => pA b 0) (by kernel_rfl) (by kernel_rfl) fun b5_4 a w hK hM => ?_
        refine tree_next #[true, true, true, true, true, false, false, false] (by kernel_rfl) ?_
        refine treeM [5] (by kernel_rfl) rfl ⟨?_, trivial⟩
        refine stepAlloc hK hM 4 25 [.slice none 0 0, .slice none 0 0] (fun b => pA b 0) (by kernel_rfl) (by kernel_rfl) fun b5_5 a w hK hM => ?_
        refine tree_next #[true, true, true, true, true, true, false, false] (by kernel_rfl) ?_
        refine treeM [6] (by kernel_rfl) rfl ⟨?_, trivial⟩
        refine stepStore hK hM 1 [.slice q5_1.A1 q5_1.ds.length q5_1.c1, .slice q5_1.A2 q5_1.ts.length q5_1.c2] (by kernel_rfl) rfl rfl rfl rfl (by kernel_rfl) fun w hM => ?_
        replace hM := hM.to (rN b5_5 :: rG b5_4 q5_1 :: rG b1 p :: (G5_1 ++ G5_3)) (by kernel_rfl)
        refine tree_next #[true, true, true, true, true, true, true, false] (by kernel_rfl) ?_
        refine treeM [7] (by kernel_rfl) rfl ⟨?_, trivial⟩
        refine stepStore hK hM 0 [.slice q5_3.A1 q5_3.ds.length q5_3.c1, .slice q5_3.A2 q5_3.ts.length q5_3.c2] (by kernel_rfl) rfl rfl rfl rfl (by kernel_rfl) fun w hM => ?_
        replace hM := hM.to (rG b5_5 q5_3 :: rG b5_4 q5_1 :: rG b1 p :: (G5_1 ++ G5_3)) (by kernel_rfl)
        refine tree_next #[true, true, true, true, true, true, true, true] (by kernel_rfl) ?_
        exact treeE (by kernel_rfl) ⟨G5_1, G5_3, b5_4, b5_5, q5_1, q5_3, hK.sub ⟨rfl, rfl, rfl, rfl, rfl, rfl, rfl, trivial⟩, hM, hd5_1, hd5_3, hr5_1, hr5_3, hs5_1, hs5_3⟩
       ·refine stepAlloc hK hM 4 25 [.slice none 0 0, .slice none 0 0] (fun b => pA b 0) (by kernel_rfl) (by kernel_rfl) fun b5_5 a w hK hM => ?_
        refine tree_next #[true, true, true, true, false, true, false, false] (by kernel_rfl) ?_
        refine treeM [4] (by kernel_rfl) rfl ⟨?_, trivial⟩
        refine stepAlloc hK hM 3 25 [.slice none 0 0, .slice none 0 0] (fun b => pA b 0) (by kernel_rfl) (by kernel_rfl) fun b5_4 a w hK hM => ?_
        refine tree_next #[true, true, true, true, true, true, false, false] (by kernel_rfl) ?_
        refine treeM [6] (by kernel_rfl) rfl ⟨?_, trivial⟩
        refine stepStore hK hM 0 [.slice q5_1.A1 q5_1.ds.length q5_1.c1, .slice q5_1.A2 q5_1.ts.length q5_1.c2] (by kernel_rfl) rfl rfl rfl rfl (by kernel_rfl) fun w hM => ?_
        replace hM := hM.to (rG b5_4 q5_1 :: rN b5_5 :: rG b1 p :: (G5_1 ++ G5_3)) (by kernel_rfl)
        refine tree_next #[true, true, true, true, true, true, true, false] (by kernel_rfl) ?_
        refine treeM [7] (by kernel_rfl) rfl ⟨?_, trivial⟩
        refine stepStore hK hM 1 [.slice q5_3.A1 q5_3.ds.length q5_3.c1, .slice q5_3.A2 q5_3.ts.length q5_3.c2] (by kernel_rfl) rfl rfl rfl rfl (by kernel_rfl) fun w hM => ?_
        replace hM := hM.to (rG b5_4 q5_1 :: rG b5_5 q5_3 :: rG b1 p :: (G5_1 ++ G5_3)) (by kernel_rfl)
        refine tree_next #[true, true, true, true, true, true, true, true] (by kernel_rfl) ?_
        exact treeE (by kernel_rfl) ⟨G5_1, G5_3, b5_4, b5_5, q5_1, q5_3, hK.sub ⟨rfl, rfl, rfl, rfl, rfl, rfl, rfl, trivial⟩, (hM.order [[rG b5_4 q5_1], [rG b5_5 q5_3], [rG b1 p], G5_1, G5_3] [1, 0, 2, 3, 4] 5 rfl (by simp) (by decide) _ (by simp)), hd5_1, hd5_3, hr5_1, hr5_3, hs5_1, hs5_3⟩
      ·refine stepAlloc hK hM 3 25 [.slice none 0 0, .slice none 0 0] (fun b => pA b 0) (by kernel_rfl) (by kernel_rfl) fun b5_4 a w hK hM => ?_
       refine tree_next #[true, true, true, false, true, false, false, false] (by kernel_rfl) ?_
       refine treeM [3, 5] (by kernel_rfl) rfl ⟨?_, ?_, trivial⟩
       ·refine stepCall hK hM 21 #[vG p] (by kernel_rfl) (run_callE en_ast_Copy rfl rfl (by kernel_rfl)) (ast_Copy p _ (hp.on hM.below) hsh2 hsz2 hln2) ?_
        rintro ⟨q5_3, G5_3⟩ a w ⟨hr5_3, hs5_3, hd5_3⟩ hK hM
        replace hM := (Mem.comm hM).to ((rN b5_4 :: rG b1 p :: (G5_1 ++ G5_3))) (by kernel_rfl)
        refine tree_next #[true, true, true, true, true, false, false, false] (by kernel_rfl) ?_
        refine treeM [5] (by kernel_rfl) rfl ⟨?_, trivial⟩
        refine stepAlloc hK hM 4 25 [.slice none 0 0, .slice none 0 0] (fun b => pA b 0) (by kernel_rfl) (by kernel_rfl) fun b5_5 a w hK hM => ?_
        refine tree_next #[true, true, true, true, true, true, false, false] (by kernel_rfl) ?_
        refine treeM [6] (by kernel_rfl) rfl ⟨?_, trivial⟩
        refine stepStore hK hM 1 [.slice q5_1.A1 q5_1.ds.length q5_1.c1, .slice q5_1.A2 q5_1.ts.length q5_1.c2] (by kernel_rfl) rfl rfl rfl rfl (by kernel_rfl) fun w hM => ?_
        replace hM := hM.to (rN b5_5 :: rG b5_4 q5_1 :: rG b1 p :: (G5_1 ++ G5_3)) (by kernel_rfl)
        refine tree_next #[true, true, true, true, true, true, true, false] (by kernel_rfl) ?_
        refine treeM [7] (by kernel_rfl) rfl ⟨?_, trivial⟩
        refine stepStore hK hM 0 [.slice q5_3.A1 q5_3.ds.length q5_3.c1, .slice q5_3.A2 q5_3.ts.length q5_3.c2] (by kernel_rfl) rfl rfl rfl rfl (by kernel_rfl) fun w hM => ?_
        replace hM := hM.to (rG b5_5 q5_3 :: rG b5_4 q5_1 :: rG b1 p :: (G5_1 ++ G5_3)) (by kernel_rfl)
        refine tree_next #[true, true, true, true, true, true, true, true] (by kernel_rfl) ?_
        exact treeE (by kernel_rfl) ⟨G5_1, G5_3, b5_4, b5_5, q5_1, q5_3, hK.sub ⟨rfl, rfl, rfl, rfl, rfl, rfl, rfl, trivial⟩, hM, hd5_1, hd5_3, hr5_1, hr5_3, hs5_1, hs5_3⟩
       ·refine stepAlloc hK hM 4 25 [.slice none 0 0, .slice none 0 0] (fun b => pA b 0) (by kernel_rfl) (by kernel_rfl) fun b5_5 a w hK hM => ?_
        refine tree_next #[true, true, true, false, true, true, false, false] (by kernel_rfl) ?_
        refine treeM [3] (by kernel_rfl) rfl ⟨?_, trivial⟩
        refine stepCall hK hM 21 #[vG p] (by kernel_rfl) (run_callE en_ast_Copy rfl rfl (by kernel_rfl)) (ast_Copy p _ (hp.on hM.below) hsh2 hsz2 hln2) ?_
        rintro ⟨q5_3, G5_3⟩ a w ⟨hr5_3, hs5_3, hd5_3⟩ hK hM
        replace hM := (Mem.comm hM).to ((rN b5_5 :: rN b5_4 :: rG b1 p :: (G5_1 ++ G5_3))) (by kernel_rfl)
        refine tree_next #[true, true, true, true, true, true, false, false] (by kernel_rfl) ?_
        refine treeM [6] (by kernel_rfl) rfl ⟨?_, trivial⟩
        refine stepStore hK hM 1 [.slice q5_1.A1 q5_1.ds.length q5_1.c1, .slice q5_1.A2 q5_1.ts.length q5_1.c2] (by kernel_rfl) rfl rfl rfl rfl (by kernel_rfl) fun w hM => ?_
        replace hM := hM.to (rN b5_5 :: rG b5_4 q5_1 :: rG b1 p :: (G5_1 ++ G5_3)) (by kernel_rfl)
        refine tree_next #[true, true, true, true, true, true, true, false] (by kernel_rfl) ?_
        refine treeM [7] (by kernel_rfl) rfl ⟨?_, trivial⟩
        refine stepStore hK hM 0 [.slice q5_3.A1 q5_3.ds.length q5_3.c1, .slice q5_3.A2 q5_3.ts.length q5_3.c2] (by kernel_rfl) rfl rfl rfl rfl (by kernel_rfl) fun w hM => ?_
        replace hM := hM.to (rG b5_5 q5_3 :: rG b5_4 q5_1 :: rG b1 p :: (G5_1 ++ G5_3)) (by kernel_rfl)
        refine tree_next #[true, true, true, true, true, true, true, true] (by kernel_rfl) ?_
        exact treeE (by kernel_rfl) ⟨G5_1, G5_3, b5_4, b5_5, q5_1, q5_3, hK.sub ⟨rfl, rfl, rfl, rfl, rfl, rfl, rfl, trivial⟩, hM, hd5_1, hd5_3, hr5_1, hr5_3, hs5_1, hs5_3⟩
      ·refine stepAlloc hK hM 4 25 [.slice none 0 0, .slice none 0 0] (fun b => pA b 0) (by kernel_rfl) (by kernel_rfl) fun b5_5 a w hK hM => ?_
       refine tree_next #[true, true, true, false, false, true, false, false] (by kernel_rfl) ?_
       refine treeM [3, 4] (by kernel_rfl) rfl ⟨?_, ?_, trivial⟩
       ·refine stepCall hK hM 21 #[vG p] (by kernel_rfl) (run_callE en_ast_Copy rfl rfl (by kernel_rfl)) (ast_Copy p _ (hp.on hM.below) hsh2 hsz2 hln2) ?_
        rintro ⟨q5_3, G5_3⟩ a w ⟨hr5_3, hs5_3, hd5_3⟩ hK hM
        replace hM := (Mem.comm hM).to ((rN b5_5 :: rG b1 p :: (G5_1 ++ G5_3))) (by kernel_rfl)
        refine tree_next #[true, true, true, true, false, true, false, false] (by kernel_rfl) ?_
        refine treeM [4] (by kernel_rfl) rfl ⟨?_, trivial⟩
        refine stepAlloc hK hM 3 25 [.slice none 0 0, .slice none 0 0] (fun b => pA b 0) (by kernel_rfl) (by kernel_rfl) fun b5_4 a w hK hM => ?_
        refine tree_next #[true, true, true, true, true, true, false, false] (by kernel_rfl) ?_
        refine treeM [6] (by kernel_rfl) rfl ⟨?_, trivial⟩
        refine stepStore hK hM 0 [.slice q5_1.A1 q5_1.ds.length q5_1.c1, .slice q5_1.A2 q5_1.ts.length q5_1.c2] (by kernel_rfl) rfl rfl rfl rfl (by kernel_rfl) fun w hM => ?_
        replace hM := hM.to (rG b5_4 q5_1 :: rN b5_5 :: rG b1 p :: (G5_1 ++ G5_3)) (by kernel_rfl)
        refine tree_next #[true, true, true, true, true, true, true, false] (by kernel_rfl) ?_
        refine treeM [7] (by kernel_rfl) rfl ⟨?_, trivial⟩
        refine stepStore hK hM 1 [.slice q5_3.A1 q5_3.ds.length q5_3.c1, .slice q5_3.A2 q5_3.ts.length q5_3.c2] (by kernel_rfl) rfl rfl rfl rfl (by kernel_rfl) fun w hM => ?_
        replace hM := hM.to (rG b5_4 q5_1 :: rG b5_5 q5_3 :: rG b1 p :: (G5_1 ++ G5_3)) (by kernel_rfl)
        refine tree_next #[true, true, true, true, true, true, true, true] (by kernel_rfl) ?_
        exact treeE (by kernel_rfl) ⟨G5_1, G5_3, b5_4, b5_5, q5_1, q5_3, hK.sub ⟨rfl, rfl, rfl, rfl, rfl, rfl, rfl, trivial⟩, (hM.order [[rG b5_4 q5_1], [rG b5_5 q5_3], [rG b1 p], G5_1, G5_3] [1, 0, 2, 3, 4] 5 rfl (by simp) (by decide) _ (by simp)), hd5_1, hd5_3, hr5_1, hr5_3, hs5_1, hs5_3⟩
       ·refine stepAlloc hK hM 3 25 [.slice none 0 0, .slice none 0 0] (fun b => pA b 0) (by kernel_rfl) (by kernel_rfl) fun b5_4 a w hK hM => ?_
        refine tree_next #[true, true, true, false, true, true, false, false] (by kernel_rfl) ?_
        refine treeM [3] (by kernel_rfl) rfl ⟨?_, trivial⟩
        refine stepCall hK hM 21 #[vG p] (by kernel_rfl) (run_callE en_ast_Copy rfl rfl (by kernel_rfl)) (ast_Copy p _ (hp.on hM.below) hsh2 hsz2 hln2) ?_
        rintro ⟨q5_3, G5_3⟩ a w ⟨hr5_3, hs5_3, hd5_3⟩ hK hM
        replace hM := (Mem.comm hM).to ((rN b5_4 :: rN b5_5 :: rG b1 p :: (G5_1 ++ G5_3))) (by kernel_rfl)
        refine tree_next #[true, true, true, true, true, true, false, false] (by kernel_rfl) ?_
        refine treeM [6] (by kernel_rfl) rfl ⟨?_, trivial⟩
        refine stepStore hK hM 0 [.slice q5_1.A1 q5_1.ds.length q5_1.c1, .slice q5_1.A2 q5_1.ts.length q5_1.c2] (by kernel_rfl) rfl rfl rfl rfl (by kernel_rfl) fun w hM => ?_
        replace hM := hM.to (rG b5_4 q5_1 :: rN b5_5 :: rG b1 p :: (G5_1 ++ G5_3)) (by kernel_rfl)
        refine tree_next #[true, true, true, true, true, true, true, false] (by kernel_rfl) ?_
        refine treeM [7] (by kernel_rfl) rfl ⟨?_, trivial⟩
        refine stepStore hK hM 1 [.slice q5_3.A1 q5_3.ds.length q5_3.c1, .slice q5_3.A2 q5_3.ts.length q5_3.c2] (by kernel_rfl) rfl rfl rfl rfl (by kernel_rfl) fun w hM => ?_
        replace hM := hM.to (rG b5_4 q5_1 :: rG b5_5 q5_3 :: rG b1 p :: (G5_1 ++ G5_3)) (by kernel_rfl)
        refine tree_next #[true, true, true, true, true, true, true, true] (by kernel_rfl) ?_
        exact treeE (by kernel_rfl) ⟨G5_1, G5_3, b5_4, b5_5, q5_1, q5_3, hK.sub ⟨rfl, rfl, rfl, rfl, rfl, rfl, rfl, trivial⟩, (hM.order [[rG b5_4 q5_1], [rG b5_5 q5_3], [rG b1 p], G5_1, G5_3] [1, 0, 2, 3, 4] 5 rfl (by simp) (by decide) _ (by simp)), hd5_1, hd5_3, hr5_1, hr5_3, hs5_1, hs5_3⟩
     ·refine stepAlloc hK hM 3 25 [.slice none 0 0, .slice none 0 0] (fun b => pA b 0) (by kernel_rfl) (by kernel_rfl) fun b5_4 a w hK hM => ?_
      refine tree_next #[true, true, false, false, true, false, false, false] (by kernel_rfl) ?_
      refine treeM [2, 5] (by kernel_rfl) rfl ⟨?_, ?_, trivial⟩
      ·refine stepLoad hK 20 (vG p) (by kernel_rfl) rfl rfl ((hM.row 1 rfl).cells 0 2) (by kernel_rfl) fun a hK => ?_
       refine tree_next #[true, true, true, false, true, false, false, false] (by kernel_rfl) ?_
       refine treeM [3, 5] (by kernel_rfl) rfl ⟨?_, ?_, trivial⟩
       ·refine stepCall hK hM 21 #[vG p] (by kernel_rfl) (run_callE en_ast_Copy rfl rfl (by kernel_rfl)) (ast_Copy p _ (hp.on hM.below) hsh2 hsz2 hln2) ?_
        rintro ⟨q5_3, G5_3⟩ a w ⟨hr5_3, hs5_3, hd5_3⟩ hK hM
        replace hM := (Mem.comm hM).to ((rN b5_4 :: rG b1 p :: (G5_1 ++ G5_3))) (by kernel_rfl)
        refine tree_next #[true, true, true, true, true, false, false, false] (by kernel_rfl) ?_
        refine treeM [5] (by kernel_rfl) rfl ⟨?_, trivial⟩
        refine stepAlloc hK hM 4 25 [.slice none 0 0, .slice none 0 0] (fun b => pA b 0) (by kernel_rfl) (by kernel_rfl) fun b5_5 a w hK hM => ?_
        refine tree_next #[true, true, true, true, true, true, false, false] (by kernel_rfl) ?_
        refine treeM [6] (by kernel_rfl) rfl ⟨?_, trivial⟩
        refine stepStore hK hM 1 [.slice q5_1.A1 q5_1.ds.length q5_1.c1, .slice q5_1.A2 q5_1.ts.length q5_1.c2] (by kernel_rfl) rfl rfl rfl rfl (by kernel_rfl) fun w hM => ?_
        replace hM := hM.to (rN b5_5 :: rG b5_4 q5_1 :: rG b1 p :: (G5_1 ++ G5_3)) (by kernel_rfl)
        refine tree_next #[true, true, true, true, true, true, true, false] (by kernel_rfl) ?_
        refine treeM [7] (by kernel_rfl) rfl ⟨?_, trivial⟩
        refine stepStore hK hM 0 [.slice q5_3.A1 q5_3.ds.length q5_3.c1, .slice q5_3.A2 q5_3.ts.length q5_3.c2] (by kernel_rfl) rfl rfl rfl rfl (by kernel_rfl) fun w hM => ?_
        replace hM := hM.to (rG b5_5 q5_3 :: rG b5_4 q5_1 :: rG b1 p :: (G5_1 ++ G5_3)) (by kernel_rfl)
        refine tree_next #[true, true, true, true, true, true, true, true] (by kernel_rfl) ?_
        exact treeE (by kernel_rfl) ⟨G5_1, G5_3, b5_4, b5_5, q5_1, q5_3, hK.sub ⟨rfl, rfl, rfl, rfl, rfl, rfl, rfl, trivial⟩, hM, hd5_1, hd5_3, hr5_1, hr5_3, hs5_1, hs5_3⟩
       ·refine stepAlloc hK hM 4 25 [.slice none 0 0, .slice none 0 0] (fun b => pA b 0) (by kernel_rfl) (by kernel_rfl) fun b5_5 a w hK hM => ?_
        refine tree_next #[true, true, true, false, true, true, false, false] (by kernel_rfl) ?_
        refine treeM [3] (by kernel_rfl) rfl ⟨?_, trivial⟩
        refine stepCall hK hM 21 #[vG p] (by kernel_rfl) (run_callE en_ast_Copy rfl rfl (by kernel_rfl)) (ast_Copy p _ (hp.on hM.below) hsh2 hsz2 hln2) ?_
        rintro ⟨q5_3, G5_3⟩ a w ⟨hr5_3, hs5_3, hd5_3⟩ hK hM
        replace hM := (Mem.comm hM).to ((rN b5_5 :: rN b5_4 :: rG b1 p :: (G5_1 ++ G5_3))) (by kernel_rfl)
        refine tree_next #[true, true, true, true, true, true, false, false] (by kernel_rfl) ?_
        refine treeM [6] (by kernel_rfl) rfl ⟨?_, trivial⟩
        refine stepStore hK hM 1 [.slice q5_1.A1 q5_1.ds.length q5_1.c1, .slice q5_1.A2 q5_1.ts.length q5_1.c2] (by kernel_rfl) rfl rfl rfl rfl (by kernel_rfl) fun w hM => ?_
        replace hM := hM.to (rN b5_5 :: rG b5_4 q5_1 :: rG b1 p :: (G5_1 ++ G5_3)) (by kernel_rfl)
        refine tree_next #[true, true, true, true, true, true, true, false] (by kernel_rfl) ?_
        refine treeM [7] (by kernel_rfl) rfl ⟨?_, trivial⟩
        refine stepStore hK hM 0 [.slice q5_3.A1 q5_3.ds.length q5_3.c1, .slice q5_3.A2 q5_3.ts.length q5_3.c2] (by kernel_rfl) rfl rfl rfl rfl (by kernel_rfl) fun w hM => ?_
        replace hM := hM.to (rG b5_5 q5_3 :: rG b5_4 q5_1 :: rG b1 p :: (G5_1 ++ G5_3)) (by kernel_rfl)
        refine tree_next #[true, true, true, true, true, true, true, true] (by kernel_rfl) ?_
        exact treeE (by kernel_rfl) ⟨G5_1, G5_3, b5_4, b5_5, q5_1, q5_3, hK.sub ⟨rfl, rfl, rfl, rfl, rfl, rfl, rfl, trivial⟩, hM, hd5_1, hd5_3, hr5_1, hr5_3, hs5_1, hs5_3⟩
      ·refine stepAlloc hK hM 4 25 [.slice none 0 0, .slice none 0 0] (fun b => pA b 0) (by kernel_rfl) (by kernel_rfl) fun b5_5 a w hK hM => ?_
       refine tree_next #[true, true, false, false, true, true, false, false] (by kernel_rfl) ?_
       refine treeM [2] (by kernel_rfl) rfl ⟨?_, trivial⟩
       refine stepLoad hK 20 (vG p) (by kernel_rfl) rfl rfl ((hM.row 2 rfl).cells 0 2) (by kernel_rfl) fun a hK => ?_
       refine tree_next #[true, true, true, false, true, true, false, false] (by kernel_rfl) ?_
       refine treeM [3] (by kernel_rfl) rfl ⟨?_, trivial⟩
       refine stepCall hK hM 21 #[vG p] (by kernel_rfl) (run_callE en_ast_Copy rfl rfl (by kernel_rfl)) (ast_Copy p _ (hp.on hM.below) hsh2 hsz2 hln2) ?_
       rintro ⟨q5_3, G5_3⟩ a w ⟨hr5_3, hs5_3, hd5_3⟩ hK hM
       replace hM := (Mem.comm hM).to ((rN b5_5 :: rN b5_4 :: rG b1 p :: (G5_1 ++ G5_3))) (by kernel_rfl)
       refine tree_next #[true, true, true, true, true, true, false, false] (by kernel_rfl) ?_
       refine treeM [6] (by kernel_rfl) rfl ⟨?_, trivial⟩
       refine stepStore hK hM 1 [.slice q5_1.A1 q5_1.ds.length q5_1.c1, .slice q5_1.A2 q5_1.ts.length q5_1.c2] (by kernel_rfl) rfl rfl rfl rfl (by kernel_rfl) fun w hM => ?_
       replace hM := hM.to (rN b5_5 :: rG b5_4 q5_1 :: rG b1 p :: (G5_1 ++ G5_3)) (by kernel_rfl)
       refine tree_next #[true, true, true, true, true, true, true, false] (by kernel_rfl) ?_
       refine treeM [7] (by kernel_rfl) rfl ⟨?_, trivial⟩
       refine stepStore hK hM 0 [.slice q5_3.A1 q5_3.ds.length q5_3.c1, .slice q5_3.A2 q5_3.ts.length q5_3.c2] (by kernel_rfl) rfl rfl rfl rfl (by kernel_rfl) fun w hM => ?_
       replace hM := hM.to (rG b5_5 q5_3 :: rG b5_4 q5_1 :: rG b1 p :: (G5_1 ++ G5_3)) (by kernel_rfl)
       refine tree_next #[true, true, true, true, true, true, true, true] (by kernel_rfl) ?_
       exact treeE (by kernel_rfl) ⟨G5_1, G5_3, b5_4, b5_5, q5_1, q5_3, hK.sub ⟨rfl, rfl, rfl, rfl, rfl, rfl, rfl, trivial⟩, hM, hd5_1, hd5_3, hr5_1, hr5_3, hs5_1, hs5_3⟩
     ·refine stepAlloc hK hM 4 25 [.slice none 0 0, .slice none 0 0] (fun b => pA b 0) (by kernel_rfl) (by kernel_rfl) fun b5_5 a w hK hM => ?_
      refine tree_next #[true, true, false, false, false, true, false, false] (by kernel_rfl) ?_
      refine treeM [2, 4] (by kernel_rfl) rfl ⟨?_, ?_, trivial⟩
      ·refine stepLoad hK 20 (vG p) (by kernel_rfl) rfl rfl ((hM.row 1 rfl).cells 0 2) (by kernel_rfl) fun a hK => ?_
       refine tree_next #[true, true, true, false, false, true, false, false] (by kernel_rfl) ?_
       refine treeM [3, 4] (by kernel_rfl) rfl ⟨?_, ?_, trivial⟩
       ·refine stepCall hK hM 21 #[vG p] (by kernel_rfl) (run_callE en_ast_Copy rfl rfl (by kernel_rfl)) (ast_Copy p _ (hp.on hM.below) hsh2 hsz2 hln2) ?_
        rintro ⟨q5_3, G5_3⟩ a w ⟨hr5_3, hs5_3, hd5_3⟩ hK hM
        replace hM := (Mem.comm hM).to ((rN b5_5 :: rG b1 p :: (G5_1 ++ G5_3))) (by kernel_rfl)
        refine tree_next #[true, true, true, true, false, true, false, false] (by kernel_rfl) ?_
        refine treeM [4] (by kernel_rfl) rfl ⟨?_, trivial⟩
        refine stepAlloc hK hM 3 25 [.slice none 0 0, .slice none 0 0] (fun b => pA b 0) (by kernel_rfl) (by kernel_rfl) fun b5_4 a w hK hM => ?_
        refine tree_next #[true, true, true, true, true, true, false, false] (by kernel_rfl) ?_
        refine treeM [6] (by kernel_rfl) rfl ⟨?_, trivial⟩
        refine stepStore hK hM 0 [.slice q5_1.A1 q5_1.ds.length q5_1.c1, .slice q5_1.A2 q5_1.ts.length q5_1.c2] (by kernel_rfl) rfl rfl rfl rfl (by kernel_rfl) fun w hM => ?_
        replace hM := hM.to (rG b5_4 q5_1 :: rN b5_5 :: rG b1 p :: (G5_1 ++ G5_3)) (by kernel_rfl)
        refine tree_next #[true, true, true, true, true, true, true, false] (by kernel_rfl) ?_
        refine treeM [7] (by kernel_rfl) rfl ⟨?_, trivial⟩
        refine stepStore hK hM 1 [.slice q5_3.A1 q5_3.ds.length q5_3.c1, .slice q5_3.A2 q5_3.ts.length q5_3.c2] (by kernel_rfl) rfl rfl rfl rfl (by kernel_rfl) fun w hM => ?_
        replace hM := hM.to (rG b5_4 q5_1 :: rG b5_5 q5_3 :: rG b1 p :: (G5_1 ++ G5_3)) (by kernel_rfl)
        refine tree_next #[true, true, true, true, true, true, true, true] (by kernel_rfl) ?_
        exact treeE (by kernel_rfl) ⟨G5_1, G5_3, b5_4, b5_5, q5_1, q5_3, hK.sub ⟨rfl, rfl, rfl, rfl, rfl, rfl, rfl, trivial⟩, (hM.order [[rG b5_4 q5_1], [rG b5_5 q5_3], [rG b1 p], G5_1, G5_3] [1, 0, 2, 3, 4] 5 rfl (by simp) (by decide) _ (by simp)), hd5_1, hd5_3, hr5_1, hr5_3, hs5_1, hs5_3⟩
       ·refine stepAlloc hK hM 3 25 [.slice none 0 0, .slice none 0 0] (fun b => pA b 0) (by kernel_rfl) (by kernel_rfl) fun b5_4 a w hK hM => ?_
        refine tree_next #[true, true, true, false, true, true, false, false] (by kernel_rfl) ?_
        refine treeM [3] (by kernel_rfl) rfl ⟨?_, trivial⟩
        refine stepCall hK hM 21 #[vG p] (by kernel_rfl) (run_callE en_ast_Copy rfl rfl (by kernel_rfl)) (ast_Copy p _ (hp.on hM.below) hsh2 hsz2 hln2) ?_
        rintro ⟨q5_3, G5_3⟩ a w ⟨hr5_3, hs5_3, hd5_3⟩ hK hM
        replace hM := (Mem.comm hM).to ((rN b5_4 :: rN b5_5 :: rG b1 p :: (G5_1 ++ G5_3))) (by kernel_rfl)
        refine tree_next #[true, true, true, true, true, true, false, false] (by kernel_rfl) ?_
        refine treeM [6] (by kernel_rfl) rfl ⟨?_, trivial⟩
        refine stepStore hK hM 0 [.slice q5_1.A1 q5_1.ds.length q5_1.c1, .slice q5_1.A2 q5_1.ts.length q5_1.c2] (by kernel_rfl) rfl rfl rfl rfl (by kernel_rfl) fun w hM => ?_
        replace hM := hM.to (rG b5_4 q5_1 :: rN b5_5 :: rG b1 p :: (G5_1 ++ G5_3)) (by kernel_rfl)
        refine tree_next #[true, true, true, true, true, true, true, false] (by kernel_rfl) ?_
        refine treeM [7] (by kernel_rfl) rfl ⟨?_, trivial⟩
        refine stepStore hK hM 1 [.slice q5_3.A1 q5_3.ds.length q5_3.c1, .slice q5_3.A2 q5_3.ts.length q5_3.c2] (by kernel_rfl) rfl rfl rfl rfl (by kernel_rfl) fun w hM => ?_
        replace hM := hM.to (rG b5_4 q5_1 :: rG b5_5 q5_3 :: rG b1 p :: (G5_1 ++ G5_3)) (by kernel_rfl)
        refine tree_next #[true, true, true, true, true, true, true, true] (by kernel_rfl) ?_
        exact treeE (by kernel_rfl) ⟨G5_1, G5_3, b5_4, b5_5, q5_1, q5_3, hK.sub ⟨rfl, rfl, rfl, rfl, rfl, rfl, rfl, trivial⟩, (hM.order [[rG b5_4 q5_1], [rG b5_5 q5_3], [rG b1 p], G5_1, G5_3] [1, 0, 2, 3, 4] 5 rfl (by simp) (by decide) _ (by simp)), hd5_1, hd5_3, hr5_1, hr5_3, hs5_1, hs5_3⟩
      ·refine stepAlloc hK hM 3 25 [.slice none 0 0, .slice none 0 0] (fun b => pA b 0) (by kernel_rfl) (by kernel_rfl) fun b5_4 a w hK hM => ?_
       refine tree_next #[true, true, false, false, true, true, false, false] (by kernel_rfl) ?_
       refine treeM [2] (by kernel_rfl) rfl ⟨?_, trivial⟩
       refine stepLoad hK 20 (vG p) (by kernel_rfl) rfl rfl ((hM.row 2 rfl).cells 0 2) (by kernel_rfl) fun a hK => ?_
       refine tree_next #[true, true, true, false, true, true, false, false] (by kernel_rfl) ?_
       refine treeM [3] (by kernel_rfl) rfl ⟨?_, trivial⟩
       refine stepCall hK hM 21 #[vG p] (by kernel_rfl) (run_callE en_ast_Copy rfl rfl (by kernel_rfl)) (ast_Copy p _ (hp.on hM.below) hsh2 hsz2 hln2) ?_
       rintro ⟨q5_3, G5_3⟩ a w ⟨hr5_3, hs5_3, hd5_3⟩ hK hM
       replace hM := (Mem.comm hM).to ((rN b5_4 :: rN b5_5 :: rG b1 p :: (G5_1 ++ G5_3))) (by kernel_rfl)
       refine tree_next #[true, true, true, true, true, true, false, false] (by kernel_rfl) ?_
       refine treeM [6] (by kernel_rfl) rfl ⟨?_, trivial⟩
       refine stepStore hK hM 0 [.slice q5_1.A1 q5_1.ds.length q5_1.c1, .slice q5_1.A2 q5_1.ts.length q5_1.c2] (by kernel_rfl) rfl rfl rfl rfl (by kernel_rfl) fun w hM => ?_
       replace hM := hM.to (rG b5_4 q5_1 :: rN b5_5 :: rG b1 p :: (G5_1 ++ G5_3)) (by kernel_rfl)
       refine tree_next #[true, true, true, true, true, true, true, false] (by kernel_rfl) ?_
       refine treeM [7] (by kernel_rfl) rfl ⟨?_, trivial⟩
       refine stepStore hK hM 1 [.slice q5_3.A1 q5_3.ds.length q5_3.c1, .slice q5_3.A2 q5_3.ts.length q5_3.c2] (by kernel_rfl) rfl rfl rfl rfl (by kernel_rfl) fun w hM => ?_
       replace hM := hM.to (rG b5_4 q5_1 :: rG b5_5 q5_3 :: rG b1 p :: (G5_1 ++ G5_3)) (by kernel_rfl)
       refine tree_next #[true, true, true, true, true, true, true, true] (by kernel_rfl) ?_
       exact treeE (by kernel_rfl) ⟨G5_1, G5_3, b5_4, b5_5, q5_1, q5_3, hK.sub ⟨rfl, rfl, rfl, rfl, rfl, rfl, rfl, trivial⟩, (hM.order [[rG b5_4 q5_1], [rG b5_5 q5_3], [rG b1 p], G5_1, G5_3] [1, 0, 2, 3, 4] 5 rfl (by simp) (by decide) _ (by simp)), hd5_1, hd5_3, hr5_1, hr5_3, hs5_1, hs5_3⟩
    ·refine stepLoad hK 20 (vG p) (by kernel_rfl) rfl rfl ((hM.row 0 rfl).cells 0 2) (by kernel_rfl) fun a hK => ?_
     refine tree_next #[true, false, true, false, false, false, false, false] (by kernel_rfl) ?_
     refine treeM [1, 4, 5] (by kernel_rfl) rfl ⟨?_, ?_, ?_, trivial⟩
     ·refine stepCall hK hM 19 #[vG p] (by kernel_rfl) (run_callE en_ast_Copy rfl rfl (by kernel_rfl)) (ast_Copy p _ (hp.on hM.below) hsh2 hsz2 hln2) ?_
      rintro ⟨q5_1, G5_1⟩ a w ⟨hr5_1, hs5_1, hd5_1⟩ hK hM
      replace hM := (Mem.comm hM).to ((rG b1 p :: G5_1)) (by kernel_rfl)
      refine tree_next #[true, true, true, false, false, false, false, false] (by kernel_rfl) ?_
      refine treeM [3, 4, 5] (by kernel_rfl) rfl ⟨?_, ?_, ?_, trivial⟩
      ·refine stepCall hK hM 21 #[vG p] (by kernel_rfl) (run_callE en_ast_Copy rfl rfl (by kernel_rfl)) (ast_Copy p _ (hp.on hM.below) hsh2 hsz2 hln2) ?_
       rintro ⟨q5_3, G5_3⟩ a w ⟨hr5_3, hs5_3, hd5_3⟩ hK hM
       replace hM := (Mem.comm hM).to ((rG b1 p :: (G5_1 ++ G5_3))) (by kernel_rfl)
       refine tree_next #[true, true, true, true, false, false, false, false] (by kernel_rfl) ?_
       refine treeM [4, 5] (by kernel_rfl) rfl ⟨?_, ?_, trivial⟩
       ·refine stepAlloc hK hM 3 25 [.slice none 0 0, .slice none 0 0] (fun b => pA b 0) (by kernel_rfl) (by kernel_rfl) fun b5_4 a w hK hM => ?_
        refine tree_next #[true, true, true, true, true, false, false, false] (by kernel_rfl) ?_
        refine treeM [5] (by kernel_rfl) rfl ⟨?_, trivial⟩
        refine stepAlloc hK hM 4 25 [.slice none 0 0, .slice none 0 0] (fun b => pA b 0) (by kernel_rfl) (by kernel_rfl) fun b5_5 a w hK hM => ?_
        refine tree_next #[true, true, true, true, true, true, false, false] (by kernel_rfl) ?_
        refine treeM [6] (by kernel_rfl) rfl ⟨?_, trivial⟩
        refine stepStore hK hM 1 [.slice q5_1.A1 q5_1.ds.length q5_1.c1, .slice q5_1.A2 q5_1.ts.length q5_1.c2] (by kernel_rfl) rfl rfl rfl rfl (by kernel_rfl) fun w hM => ?_
        replace hM := hM.to (rN b5_5 :: rG b5_4 q5_1 :: rG b1 p :: (G5_1 ++ G5_3)) (by kernel_rfl)
        refine tree_next #[true, true, true, true, true, true, true, false] (by kernel_rfl) ?_
        refine treeM [7] (by kernel_rfl) rfl ⟨?_, trivial⟩
        refine stepStore hK hM 0 [.slice q5_3.A1 q5_3.ds.length q5_3.c1, .slice q5_3.A2 q5_3.ts.length q5_3.c2] (by kernel_rfl) rfl rfl rfl rfl (by kernel_rfl) fun w hM => ?_
        replace hM := hM.to (rG b5_5 q5_3 :: rG b5_4 q5_1 :: rG b1 p :: (G5_1 ++ G5_3)) (by kernel_rfl)
        refine tree_next #[true, true, true, true, true, true, true, true] (by kernel_rfl) ?_
        exact treeE (by kernel_rfl) ⟨G5_1, G5_3, b5_4, b5_5, q5_1, q5_3, hK.sub ⟨rfl, rfl, rfl, rfl, rfl, rfl, rfl, trivial⟩, hM, hd5_1, hd5_3, hr5_1, hr5_3, hs5_1, hs5_3⟩
       ·refine stepAlloc hK hM 4 25 [.slice none 0 0, .slice none 0 0] (fun b => pA b 0) (by kernel_rfl) (by kernel_rfl) fun b5_5 a w hK hM => ?_
        refine tree_next #[true, true, true, true, false, true, false, false] (by kernel_rfl) ?_
        refine treeM [4] (by kernel_rfl) rfl ⟨?_, trivial⟩
        refine stepAlloc hK hM 3 25 [.slice none 0 0, .slice none 0 0] (fun b => pA b 0) (by kernel_rfl) (by kernel_rfl) fun b5_4 a w hK hM => ?_
        refine tree_next #[true, true, true, true, true, true, false, false] (by kernel_rfl) ?_
        refine treeM [6] (by kernel_rfl) rfl ⟨?_, trivial⟩
        refine stepStore hK hM 0 [.slice q5_1.A1 q5_1.ds.length q5_1.c1, .slice q5_1.A2 q5_1.ts.length q5_1.c2] (by kernel_rfl) rfl rfl rfl rfl (by kernel_rfl) fun w hM => ?_
        replace hM := hM.to (rG b5_4 q5_1 :: rN b5_5 :: rG b1 p :: (G5_1 ++ G5_3)) (by kernel_rfl)
        refine tree_next #[true, true, true, true, true, true, true, false] (by kernel_rfl) ?_
        refine treeM [7] (by kernel_rfl) rfl ⟨?_, trivial⟩
        refine stepStore hK hM 1 [.slice q5_3.A1 q5_3.ds.length q5_3.c1, .slice q5_3.A2 q5_3.ts.length q5_3.c2] (by kernel_rfl) rfl rfl rfl rfl (by kernel_rfl) fun w hM => ?_
        replace hM := hM.to (rG b5_4 q5_1 :: rG b5_5 q5_3 :: rG b1 p :: (G5_1 ++ G5_3)) (by kernel_rfl)
        refine tree_next #[true, true, true, true, true, true, true, true] (by kernel_rfl) ?_
        exact treeE (by kernel_rfl) ⟨G5_1, G5_3, b5_4, b5_5, q5_1, q5_3, hK.sub ⟨rfl, rfl, rfl, rfl, rfl, rfl, rfl, trivial⟩, (hM.order [[rG b5_4 q5_1], [rG b5_5 q5_3], [rG b1 p], G5_1, G5_3] [1, 0, 2, 3, 4] 5 rfl (by simp) (by decide) _ (by simp)), hd5_1, hd5_3, hr5_1, hr5_3, hs5_1, hs5_3⟩
      ·refine stepAlloc hK hM 3 25 [.slice none 0 0, .slice none 0 0] (fun b => pA b 0) (by kernel_rfl) (by kernel_rfl) fun b5_4 a w hK hM => ?_
       refine tree_next #[true, true, true, false, true, false, false, false] (by kernel_rfl) ?_
       refine treeM [3, 5] (by kernel_rfl) rfl ⟨?_, ?_, trivial⟩
       ·refine stepCall hK hM 21 #[vG p] (by kernel_rfl) (run_callE en_ast_Copy rfl rfl (by kernel_rfl)) (ast_Copy p _ (hp.on hM.below) hsh2 hsz2 hln2) ?_
        rintro ⟨q5_3, G5_3⟩ a w ⟨hr5_3, hs5_3, hd5_3⟩ hK hM
        replace hM := (Mem.comm hM).to ((rN b5_4 :: rG b1 p :: (G5_1 ++ G5_3))) (by kernel_rfl)
        refine tree_next #[true, true, true, true, true, false, false, false] (by kernel_rfl) ?_
        refine treeM [5] (by kernel_rfl) rfl ⟨?_, trivial⟩
        refine stepAlloc hK hM 4 25 [.slice none 0 0, .slice none 0 0] (fun b => pA b 0) (by kernel_rfl) (by kernel_rfl) fun b5_5 a w hK hM => ?_
        refine tree_next #[true, true, true, true, true, true, false, false] (by kernel_rfl) ?_
        refine treeM [6] (by kernel_rfl) rfl ⟨?_, trivial⟩
        refine stepStore hK hM 1 [.slice q5_1.A1 q5_1.ds.length q5_1.c1, .slice q5_1.A2 q5_1.ts.length q5_1.c2] (by kernel_rfl) rfl rfl rfl rfl (by kernel_rfl) fun w hM => ?_
        replace hM := hM.to (rN b5_5 :: rG b5_4 q5_1 :: rG b1 p :: (G5_1 ++ G5_3)) (by kernel_rfl)
        refine tree_next #[true, true, true, true, true, true, true, false] (by kernel_rfl) ?_
        refine treeM [7] (by kernel_rfl) rfl ⟨?_, trivial⟩
        refine stepStore hK hM 0 [.slice q5_3.A1 q5_3.ds.length q5_3.c1, .slice q5_3.A2 q5_3.ts.length q5_3.c2] (by kernel_rfl) rfl rfl rfl rfl (by kernel_rfl) fun w hM => ?_
        replace hM := hM.to (rG b5_5 q5_3 :: rG b5_4 q5_1 :: rG b1 p :: (G5_1 ++ G5_3)) (by kernel_rfl)
        refine tree_next #[true, true, true, true, true, true, true, true] (by kernel_rfl) ?_
        exact treeE (by kernel_rfl) ⟨G5_1, G5_3, b5_4, b5_5, q5_1, q5_3, hK.sub ⟨rfl, rfl, rfl, rfl, rfl, rfl, rfl, trivial⟩, hM, hd5_1, hd5_3, hr5_1, hr5_3, hs5_1, hs5_3⟩
       ·refine stepAlloc hK hM 4 25 [.slice none 0 0, .slice none 0 0] (fun b => pA b 0) (by kernel_rfl) (by kernel_rfl) fun b5_5 a w hK hM => ?_
        refine tree_next #[true, true, true, false, true, true, false, false] (by kernel_rfl) ?_
        refine treeM [3] (by kernel_rfl) rfl ⟨?_, trivial⟩
        refine stepCall hK hM 21 #[vG p] (by kernel_rfl) (run_callE en_ast_Copy rfl rfl (by kernel_rfl)) (ast_Copy p _ (hp.on hM.below) hsh2 hsz2 hln2) ?_
        rintro ⟨q5_3, G5_3⟩ a w ⟨hr5_3, hs5_3, hd5_3⟩ hK hM
        replace hM := (Mem.comm hM).to ((rN b5_5 :: rN b5_4 :: rG b1 p :: (G5_1 ++ G5_3))) (by kernel_rfl)
        refine tree_next #[true, true, true, true, true, true, false, false] (by kernel_rfl) ?_
        refine treeM [6] (by kernel_rfl) rfl ⟨?_, trivial⟩
        refine stepStore hK hM 1 [.slice q5_1.A1 q5_1.ds.length q5_1.c1, .slice q5_1.A2 q5_1.ts.length q5_1.c2] (by kernel_rfl) rfl rfl rfl rfl (by kernel_rfl) fun w hM => ?_
        replace hM := hM.to (rN b5_5 :: rG b5_4 q5_1 :: rG b1 p :: (G5_1 ++ G5_3)) (by kernel_rfl)
        refine tree_next #[true, true, true, true, true, true, true, false] (by kernel_rfl) ?_
        refine treeM [7] (by kernel_rfl) rfl ⟨?_, trivial⟩
        refine stepStore hK hM 0 [.slice q5_3.A1 q5_3.ds.length q5_3.c1, .slice q5_3.A2 q5_3.ts.length q5_3.c2] (by kernel_rfl) rfl rfl rfl rfl (by kernel_rfl) fun w hM => ?_
        replace hM := hM.to (rG b5_5 q5_3 :: rG b5_4 q5_1 :: rG b1 p :: (G5_1 ++ G5_3)) (by kernel_rfl)
        refine tree_next #[true, true, true, true, true, true, true, true] (by kernel_rfl) ?_
        exact treeE (by kernel_rfl) ⟨G5_1, G5_3, b5_4, b5_5, q5_1, q5_3, hK.sub ⟨rfl, rfl, rfl, rfl, rfl, rfl, rfl, trivial⟩, hM, hd5_1, hd5_3, hr5_1, hr5_3, hs5_1, hs5_3⟩
      ·refine stepAlloc hK hM 4 25 [.slice none 0 0, .slice none 0 0] (fun b => pA b 0) (by kernel_rfl) (by kernel_rfl) fun b5_5 a w hK hM => ?_
       refine tree_next #[true, true, true, false, false, true, false, false] (by kernel_rfl) ?_
       refine treeM [3, 4] (by kernel_rfl) rfl ⟨?_, ?_, trivial⟩
       ·refine stepCall hK hM 21 #[vG p] (by kernel_rfl) (run_callE en_ast_Copy rfl rfl (by kernel_rfl)) (ast_Copy p _ (hp.on hM.below) hsh2 hsz2 hln2) ?_
        rintro ⟨q5_3, G5_3⟩ a w ⟨hr5_3, hs5_3, hd5_3⟩ hK hM
        replace hM := (Mem.comm hM).to ((rN b5_5 :: rG b1 p :: (G5_1 ++ G5_3))) (by kernel_rfl)
        refine tree_next #[true, true, true, true, false, true, false, false] (by kernel_rfl) ?_
        refine treeM [4] (by kernel_rfl) rfl ⟨?_, trivial⟩
        refine stepAlloc hK hM 3 25 [.slice none 0 0, .slice none 0 0] (fun b => pA b 0) (by kernel_rfl) (by kernel_rfl) fun b5_4 a w hK hM => ?_
        refine tree_next #[true, true, true, true, true, true, false, false] (by kernel_rfl) ?_
        refine treeM [6] (by kernel_rfl) rfl ⟨?_, trivial⟩
        refine stepStore hK hM 0 [.slice q5_1.A1 q5_1.ds.length q5_1.c1, .slice q5_1.A2 q5_1.ts.length q5_1.c2] (by kernel_rfl) rfl rfl rfl rfl (by kernel_rfl) fun w hM => ?_
        replace hM := hM.to (rG b5_4 q5_1 :: rN b5_5 :: rG b1 p :: (G5_1 ++ G5_3)) (by kernel_rfl)
        refine tree_next #[true, true, true, true, true, true, true, false] (by kernel_rfl) ?_
        refine treeM [7] (by kernel_rfl) rfl ⟨?_, trivial⟩
        refine stepStore hK hM 1 [.slice q5_3.A1 q5_3.ds.length q5_3.c1, .slice q5_3.A2 q5_3.ts.length q5_3.c2] (by kernel_rfl) rfl rfl rfl rfl (by kernel_rfl) fun w hM => ?_
        replace hM := hM.to (rG b5_4 q5_1 :: rG b5_5 q5_3 :: rG b1 p :: (G5_1 ++ G5_3)) (by kernel_rfl)
        refine tree_next #[true, true, true, true, true, true, true, true] (by kernel_rfl) ?_
        exact treeE (by kernel_rfl) ⟨G5_1, G5_3, b5_4, b5_5, q5_1, q5_3, hK.sub ⟨rfl, rfl, rfl, rfl, rfl, rfl, rfl, trivial⟩, (hM.order [[rG b5_4 q5_1], [rG b5_5 q5_3], [rG b1 p], G5_1, G5_3] [1, 0, 2, 3, 4] 5 rfl (by simp) (by decide) _ (by simp)), hd5_1, hd5_3, hr5_1, hr5_3, hs5_1, hs5_3⟩
       ·refine stepAlloc hK hM 3 25 [.slice none 0 0, .slice none 0 0] (fun b => pA b 0) (by kernel_rfl) (by kernel_rfl) fun b5_4 a w hK hM => ?_
        refine tree_next #[true, true, true, false, true, true, false, false] (by kernel_rfl) ?_
        refine treeM [3] (by kernel_rfl) rfl ⟨?_, trivial⟩
        refine stepCall hK hM 21 #[vG p] (by kernel_rfl) (run_callE en_ast_Copy rfl rfl (by kernel_rfl)) (ast_Copy p _ (hp.on hM.below) hsh2 hsz2 hln2) ?_
        rintro ⟨q5_3, G5_3⟩ a w ⟨hr5_3, hs5_3, hd5_3⟩ hK hM
        replace hM := (Mem.comm hM).to ((rN b5_4 :: rN b5_5 :: rG b1 p :: (G5_1 ++ G5_3))) (by kernel_rfl)
        refine tree_next #[true, true, true, true, true, true, false, false] (by kernel_rfl) ?_
        refine treeM [6] (by kernel_rfl) rfl ⟨?_, trivial⟩
        refine stepStore hK hM 0 [.slice q5_1.A1 q5_1.ds.length q5_1.c1, .slice q5_1.A2 q5_1.ts.length q5_1.c2] (by kernel_rfl) rfl rfl rfl rfl (by kernel_rfl) fun w hM => ?_
        replace hM := hM.to (rG b5_4 q5_1 :: rN b5_5 :: rG b1 p :: (G5_1 ++ G5_3)) (by kernel_rfl)
        refine tree_next #[true, true, true, true, true, true, true, false] (by kernel_rfl) ?_
        refine treeM [7] (by kernel_rfl) rfl ⟨?_, trivial⟩
        refine stepStore hK hM 1 [.slice q5_3.A1 q5_3.ds.length q5_3.c1, .slice q5_3.A2 q5_3.ts.length q5_3.c2] (by kernel_rfl) rfl rfl rfl rfl (by kernel_rfl) fun w hM => ?_
        replace hM := hM.to (rG b5_4 q5_1 :: rG b5_5 q5_3 :: rG b1 p :: (G5_1 ++ G5_3)) (by kernel_rfl)
        refine tree_next #[true, true, true, true, true, true, true, true] (by kernel_rfl) ?_
        exact treeE (by kernel_rfl) ⟨G5_1, G5_3, b5_4, b5_5, q5_1, q5_3, hK.sub ⟨rfl, rfl, rfl, rfl, rfl, rfl, rfl, trivial⟩, (hM.order [[rG b5_4 q5_1], [rG b5_5 q5_3], [rG b1 p], G5_1, G5_3] [1, 0, 2, 3, 4] 5 rfl (by simp) (by decide) _ (by simp)), hd5_1, hd5_3, hr5_1, hr5_3, hs5_1, hs5_3⟩
     ·refine stepAlloc hK hM 3 25 [.slice none 0 0, .slice none 0 0] (fun b => pA b 0) (by kernel_rfl) (by kernel_rfl) fun b5_4 a w hK hM => ?_
      refine tree_next #[true, false, true, false, true, false, false, false] (by kernel_rfl) ?_
      refine treeM [1, 5] (by kernel_rfl) rfl ⟨?_, ?_, trivial⟩
      ·refine stepCall hK hM 19 #[vG p] (by kernel_rfl) (run_callE en_ast_Copy rfl rfl (by kernel_rfl)) (ast_Copy p _ (hp.on hM.below) hsh2 hsz2 hln2) ?_
       rintro ⟨q5_1, G5_1⟩ a w ⟨hr5_1, hs5_1, hd5_1⟩ hK hM
       replace hM := (Mem.comm hM).to ((rN b5_4 :: rG b1 p :: G5_1)) (by kernel_rfl)
       refine tree_next #[true, true, true, false, true, false, false, false] (by kernel_rfl) ?_
       refine treeM [3, 5] (by kernel_rfl) rfl ⟨?_, ?_, trivial⟩
       ·refine stepCall hK hM 21 #[vG p] (by kernel_rfl) (run_callE en_ast_Copy rfl rfl (by kernel_rfl)) (ast_Copy p _ (hp.on hM.below) hsh2 hsz2 hln2) ?_
        rintro ⟨q5_3, G5_3⟩ a w ⟨hr5_3, hs5_3, hd5_3⟩ hK hM
        replace hM := (Mem.comm hM).to ((rN b5_4 :: rG b1 p :: (G5_1 ++ G5_3))) (by kernel_rfl)
        refine tree_next #[true, true, true, true, true, false, false, false] (by kernel_rfl) ?_
        refine treeM [5] (by kernel_rfl) rfl ⟨?_, trivial⟩
        refine stepAlloc hK hM 4 25 [.slice none 0 0, .slice none 0 0] (fun b => pA b 0) (by kernel_rfl) (by kernel_rfl) fun b5_5 a w hK hM => ?_
        refine tree_next #[true, true, true, true, true, true, false, false] (by kernel_rfl) ?_
        refine treeM [6] (by kernel_rfl) rfl ⟨?_, trivial⟩
        refine stepStore hK hM 1 [.slice q5_1.A1 q5_1.ds.length q5_1.c1, .slice q5_1.A2 q5_1.ts.length q5_1.c2] (by kernel_rfl) rfl rfl rfl rfl (by kernel_rfl) fun w hM => ?_
        replace hM := hM.to (rN b5_5 :: rG b5_4 q5_1 :: rG b1 p :: (G5_1 ++ G5_3)) (by kernel_rfl)
        refine tree_next #[true, true, true, true, true, true, true, false] (by kernel_rfl) ?_
        refine treeM [7] (by kernel_rfl) rfl ⟨?_, trivial⟩
        refine stepStore hK hM 0 [.slice q5_3.A1 q5_3.ds.length q5_3.c1, .slice q5_3.A2 q5_3.ts.length q5_3.c2] (by kernel_rfl) rfl rfl rfl rfl (by kernel_rfl) fun w hM => ?_
        replace hM := hM.to (rG b5_5 q5_3 :: rG b5_4 q5_1 :: rG b1 p :: (G5_1 ++ G5_3)) (by kernel_rfl)
        refine tree_next #[true, true, true, true, true, true, true, true] (by kernel_rfl) ?_
        exact treeE (by kernel_rfl) ⟨G5_1, G5_3, b5_4, b5_5, q5_1, q5_3, hK.sub ⟨rfl, rfl, rfl, rfl, rfl, rfl, rfl, trivial⟩, hM, hd5_1, hd5_3, hr5_1, hr5_3, hs5_1, hs5_3⟩
       ·refine stepAlloc hK hM 4 25 [.slice none 0 0, .slice none 0 0] (fun b => pA b 0) (by kernel_rfl) (by kernel_rfl) fun b5_5 a w hK hM => ?_
        refine tree_next #[true, true, true, false, true, true, false, false] (by kernel_rfl) ?_
        refine treeM [3] (by kernel_rfl) rfl ⟨?_, trivial⟩
        refine stepCall hK hM 21 #[vG p] (by kernel_rfl) (run_callE en_ast_Copy rfl rfl (by kernel_rfl)) (ast_Copy p _ (hp.on hM.below) hsh2 hsz2 hln2) ?_
        rintro ⟨q5_3, G5_3⟩ a w ⟨hr5_3, hs5_3, hd5_3⟩ hK hM
        replace hM := (Mem.comm hM).to ((rN b5_5 :: rN b5_4 :: rG b1 p :: (G5_1 ++ G5_3))) (by kernel_rfl)
        refine tree_next #[true, true, true, true, true, true, false, false] (by kernel_rfl) ?_
        refine treeM [6] (by kernel_rfl) rfl ⟨?_, trivial⟩
        refine stepStore hK hM 1 [.slice q5_1.A1 q5_1.ds.length q5_1.c1, .slice q5_1.A2 q5_1.ts.length q5_1.c2] (by kernel_rfl) rfl rfl rfl rfl (by kernel_rfl) fun w hM => ?_
        replace hM := hM.to (rN b5_5 :: rG b5_4 q5_1 :: rG b1 p :: (G5_1 ++ G5_3)) (by kernel_rfl)
        refine tree_next #[true, true, true, true, true, true, true, false] (by kernel_rfl) ?_
        refine treeM [7] (by kernel_rfl) rfl ⟨?_, trivial⟩
        refine stepStore hK hM 0 [.slice q5_3.A1 q5_3.ds.length q5_3.c1, .slice q5_3.A2 q5_3.ts.length q5_3.c2] (by kernel_rfl) rfl rfl rfl rfl (by kernel_rfl) fun w hM => ?_
        replace hM := hM.to (rG b5_5 q5_3 :: rG b5_4 q5_1 :: rG b1 p :: (G5_1 ++ G5_3)) (by kernel_rfl)
        refine tree_next #[true, true, true, true, true, true, true, true] (by kernel_rfl) ?_
        exact treeE (by kernel_rfl) ⟨G5_1, G5_3, b5_4, b5_5, q5_1, q5_3, hK.sub ⟨rfl, rfl, rfl, rfl, rfl, rfl, rfl, trivial⟩, hM, hd5_1, hd5_3, hr5_1, hr5_3, hs5_1, hs5_3⟩
      ·refine stepAlloc hK hM 4 25 [.slice none 0 0, .slice none 0 0] (fun b => pA b 0) (by kernel_rfl) (by kernel_rfl) fun b5_5 a w hK hM => ?_
       refine tree_next #[true, false, true, false, true, true, false, false] (by kernel_rfl) ?_
       refine treeM [1] (by kernel_rfl) rfl ⟨?_, trivial⟩
       refine stepCall hK hM 19 #[vG p] (by kernel_rfl) (run_callE en_ast_Copy rfl rfl (by kernel_rfl)) (ast_Copy p _ (hp.on hM.below) hsh2 hsz2 hln2) ?_
       rintro ⟨q5_1, G5_1⟩ a w ⟨hr5_1, hs5_1, hd5_1⟩ hK hM
       replace hM := (Mem.comm hM).to ((rN b5_5 :: rN b5_4 :: rG b1 p :: G5_1)) (by kernel_rfl)
       refine tree_next #[true, true, true, false, true, true, false, false] (by kernel_rfl) ?_
       refine treeM [3] (by kernel_rfl) rfl ⟨?_, trivial⟩
       refine stepCall hK hM 21 #[vG p] (by kernel_rfl) (run_callE en_ast_Copy rfl rfl (by kernel_rfl)) (ast_Copy p _ (hp.on hM.below) hsh2 hsz2 hln2) ?_
       rintro ⟨q5_3, G5_3⟩ a w ⟨hr5_3, hs5_3, hd5_3⟩ hK hM
       replace hM := (Mem.comm hM).to ((rN b5_5 :: rN b5_4 :: rG b1 p :: (G5_1 ++ G5_3))) (by kernel_rfl)
       refine tree_next #[true, true, true, true, true, true, false, false] (by kernel_rfl) ?_
       refine treeM [6] (by kernel_rfl) rfl ⟨?_, trivial⟩
       refine stepStore hK hM 1 [.slice q5_1.A1 q5_1.ds.length q5_1.c1, .slice q5_1.A2 q5_1.ts.length q5_1.c2] (by kernel_rfl) rfl rfl rfl rfl (by kernel_rfl) fun w hM => ?_
       replace hM := hM.to (rN b5_5 :: rG b5_4 q5_1 :: rG b1 p :: (G5_1 ++ G5_3)) (by kernel_rfl)
       refine tree_next #[true, true, true, true, true, true, true, false] (by kernel_rfl) ?_
       refine treeM [7] (by kernel_rfl) rfl ⟨?_, trivial⟩
       refine stepStore hK hM 0 [.slice q5_3.A1 q5_3.ds.length q5_3.c1, .slice q5_3.A2 q5_3.ts.length q5_3.c2] (by kernel_rfl) rfl rfl rfl rfl (by kernel_rfl) fun w hM => ?_
       replace hM := hM.to (rG b5_5 q5_3 :: rG b5_4 q5_1 :: rG b1 p :: (G5_1 ++ G5_3)) (by kernel_rfl)
       refine tree_next #[true, true, true, true, true, true, true, true] (by kernel_rfl) ?_
       exact treeE (by kernel_rfl) ⟨G5_1, G5_3, b5_4, b5_5, q5_1, q5_3, hK.sub ⟨rfl, rfl, rfl, rfl, rfl, rfl, rfl, trivial⟩, hM, hd5_1, hd5_3, hr5_1, hr5_3, hs5_1, hs5_3⟩
     ·refine stepAlloc hK hM 4 25 [.slice none 0 0, .slice none 0 0] (fun b => pA b 0) (by kernel_rfl) (by kernel_rfl) fun b5_5 a w hK hM => ?_
      refine tree_next #[true, false, true, false, false, true, false, false] (by kernel_rfl) ?_
      refine treeM [1, 4] (by kernel_rfl) rfl ⟨?_, ?_, trivial⟩
      ·refine stepCall hK hM 19 #[vG p] (by kernel_rfl) (run_callE en_ast_Copy rfl rfl (by kernel_rfl)) (ast_Copy p _ (hp.on hM.below) hsh2 hsz2 hln2) ?_
       rintro ⟨q5_1, G5_1⟩ a w ⟨hr5_1, hs5_1, hd5_1⟩ hK hM
       replace hM := (Mem.comm hM).to ((rN b5_5 :: rG b1 p :: G5_1)) (by kernel_rfl)
       refine tree_next #[true, true, true, false, false, true, false, false] (by kernel_rfl) ?_
       refine treeM [3, 4] (by kernel_rfl) rfl ⟨?_, ?_, trivial⟩
       ·refine stepCall hK hM 21 #[vG p] (by kernel_rfl) (run_callE en_ast_Copy rfl rfl (by kernel_rfl)) (ast_Copy p _ (hp.on hM.below) hsh2 hsz2 hln2) ?_
        rintro ⟨q5_3, G5_3⟩ a w ⟨hr5_3, hs5_3, hd5_3⟩ hK hM
        replace hM := (Mem.comm hM).to ((rN b5_5 :: rG b1 p :: (G5_1 ++ G5_3))) (by kernel_rfl)
        refine tree_next #[true, true, true, true, false, true, false, false] (by kernel_rfl) ?_
        refine treeM [4] (by kernel_rfl) rfl ⟨?_, trivial⟩
        refine stepAlloc hK hM 3 25 [.slice none 0 0, .slice none 0 0] (fun b => pA b 0) (by kernel_rfl) (by kernel_rfl) fun b5_4 a w hK hM => ?_
        refine tree_next #[true, true, true, true, true, true, false, false] (by kernel_rfl) ?_
        refine treeM [6] (by kernel_rfl) rfl ⟨?_, trivial⟩
        refine stepStore hK hM 0 [.slice q5_1.A1 q5_1.ds.length q5_1.c1, .slice q5_1.A2 q5_1.ts.length q5_1.c2] (by kernel_rfl) rfl rfl rfl rfl (by kernel_rfl) fun w hM => ?_
        replace hM := hM.to (rG b5_4 q5_1 :: rN b5_5 :: rG b1 p :: (G5_1 ++ G5_3)) (by kernel_rfl)
        refine tree_next #[true, true, true, true, true, true, true, false] (by kernel_rfl) ?_
        refine treeM [7] (by kernel_rfl) rfl ⟨?_, trivial⟩
        refine stepStore hK hM 1 [.slice q5_3.A1 q5_3.ds.length q5_3.c1, .slice q5_3.A2 q5_3.ts.length q5_3.c2] (by kernel_rfl) rfl rfl rfl rfl (by kernel_rfl) fun w hM => ?_
        replace hM := hM.to (rG b5_4 q5_1 :: rG b5_5 q5_3 :: rG b1 p :: (G5_1 ++ G5_3)) (by kernel_rfl)
        refine tree_next #[true, true, true, true, true, true, true, true] (by kernel_rfl) ?_
        exact treeE (by kernel_rfl) ⟨G5_1, G5_3, b5_4, b5_5, q5_1, q5_3, hK.sub ⟨rfl, rfl, rfl, rfl, rfl, rfl, rfl, trivial⟩, (hM.order [[rG b5_4 q5_1], [rG b5_5 q5_3], [rG b1 p], G5_1, G5_3] [1, 0, 2, 3, 4] 5 rfl (by simp) (by decide) _ (by simp)), hd5_1, hd5_3, hr5_1, hr5_3, hs5_1, hs5_3⟩
       ·refine stepAlloc hK hM 3 25 [.slice none 0 0, .slice none 0 0] (fun b => pA b 0) (by kernel_rfl) (by kernel_rfl) fun b5_4 a w hK hM => ?_
        refine tree_next #[true, true, true, false, true, true, false, false] (by kernel_rfl) ?_
        refine treeM [3] (by kernel_rfl) rfl ⟨?_, trivial⟩
        refine stepCall hK hM 21 #[vG p] (by kernel_rfl) (run_callE en_ast_Copy rfl rfl (by kernel_rfl)) (ast_Copy p _ (hp.on hM.below) hsh2 hsz2 hln2) ?_
        rintro ⟨q5_3, G5_3⟩ a w ⟨hr5_3, hs5_3, hd5_3⟩ hK hM
        replace hM := (Mem.comm hM).to ((rN b5_4 :: rN b5_5 :: rG b1 p :: (G5_1 ++ G5_3))) (by kernel_rfl)
        refine tree_next #[true, true, true, true, true, true, false, false] (by kernel_rfl) ?_
        refine treeM [6] (by kernel_rfl) rfl ⟨?_, trivial⟩
        refine stepStore hK hM 0 [.slice q5_1.A1 q5_1.ds.length q5_1.c1, .slice q5_1.A2 q5_1.ts.length q5_1.c2] (by kernel_rfl) rfl rfl rfl rfl (by kernel_rfl) fun w hM => ?_
        replace hM := hM.to (rG b5_4 q5_1 :: rN b5_5 :: rG b1 p :: (G5_1 ++ G5_3)) (by kernel_rfl)
        refine tree_next #[true, true, true, true, true, true, true, false] (by kernel_rfl) ?_
        refine treeM [7] (by kernel_rfl) rfl ⟨?_, trivial⟩
        refine stepStore hK hM 1 [.slice q5_3.A1 q5_3.ds.length q5_3.c1, .slice q5_3.A2 q5_3.ts.length q5_3.c2] (by kernel_rfl) rfl rfl rfl rfl (by kernel_rfl) fun w hM => ?_
        replace hM := hM.to (rG b5_4 q5_1 :: rG b5_5 q5_3 :: rG b1 p :: (G5_1 ++ G5_3)) (by kernel_rfl)
        refine tree_next #[true, true, true, true, true, true, true, true] (by kernel_rfl) ?_
        exact treeE (by kernel_rfl) ⟨G5_1, G5_3, b5_4, b5_5, q5_1, q5_3, hK.sub ⟨rfl, rfl, rfl, rfl, rfl, rfl, rfl, trivial⟩, (hM.order [[rG b5_4 q5_1], [rG b5_5 q5_3], [rG b1 p], G5_1, G5_3] [1, 0, 2, 3, 4] 5 rfl (by simp) (by decide) _ (by simp)), hd5_1, hd5_3, hr5_1, hr5_3, hs5_1, hs5_3⟩
      ·refine stepAlloc hK hM 3 25 [.slice none 0 0, .slice none 0 0] (fun b => pA b 0) (by kernel_rfl) (by kernel_rfl) fun b5_4 a w hK hM => ?_
       refine tree_next #[true, false, true, false, true, true, false, false] (by kernel_rfl) ?_
       refine treeM [1] (by kernel_rfl) rfl ⟨?_, trivial⟩
       refine stepCall hK hM 19 #[vG p] (by kernel_rfl) (run_callE en_ast_Copy rfl rfl (by kernel_rfl)) (ast_Copy p _ (hp.on hM.below) hsh2 hsz2 hln2) ?_
       rintro ⟨q5_1, G5_1⟩ a w ⟨hr5_1, hs5_1, hd5_1⟩ hK hM
       replace hM := (Mem.comm hM).to ((rN b5_4 :: rN b5_5 :: rG b1 p :: G5_1)) (by kernel_rfl)
       refine tree_next #[true, true, true, false, true, true, false, false] (by kernel_rfl) ?_
       refine treeM [3] (by kernel_rfl) rfl ⟨?_, trivial⟩
       refine stepCall hK hM 21 #[vG p] (by kernel_rfl) (run_callE en_ast_Copy rfl rfl (by kernel_rfl)) (ast_Copy p _ (hp.on hM.below) hsh2 hsz2 hln2) ?_
       rintro ⟨q5_3, G5_3⟩ a w ⟨hr5_3, hs5_3, hd5_3⟩ hK hM
       replace hM := (Mem.comm hM).to ((rN b5_4 :: rN b5_5 :: rG b1 p :: (G5_1 ++ G5_3))) (by kernel_rfl)
       refine tree_next #[true, true, true, true, true, true, false, false] (by kernel_rfl) ?_
       refine treeM [6] (by kernel_rfl) rfl ⟨?_, trivial⟩
       refine stepStore hK hM 0 [.slice q5_1.A1 q5_1.ds.length q5_1.c1, .slice q5_1.A2 q5_1.ts.length q5_1.c2] (by kernel_rfl) rfl rfl rfl rfl (by kernel_rfl) fun w hM => ?_
       replace hM := hM.to (rG b5_4 q5_1 :: rN b5_5 :: rG b1 p :: (G5_1 ++ G5_3)) (by kernel_rfl)
       refine tree_next #[true, true, true, true, true, true, true, false] (by kernel_rfl) ?_
       refine treeM [7] (by kernel_rfl) rfl ⟨?_, trivial⟩
       refine stepStore hK hM 1 [.slice q5_3.A1 q5_3.ds.length q5_3.c1, .slice q5_3.A2 q5_3.ts.length q5_3.c2] (by kernel_rfl) rfl rfl rfl rfl (by kernel_rfl) fun w hM => ?_
       replace hM := hM.to (rG b5_4 q5_1 :: rG b5_5 q5_3 :: rG b1 p :: (G5_1 ++ G5_3)) (by kernel_rfl)
       refine tree_next #[true, true, true, true, true, true, true, true] (by kernel_rfl) ?_
       exact treeE (by kernel_rfl) ⟨G5_1, G5_3, b5_4, b5_5, q5_1, q5_3, hK.sub ⟨rfl, rfl, rfl, rfl, rfl, rfl, rfl, trivial⟩, (hM.order [[rG b5_4 q5_1], [rG b5_5 q5_3], [rG b1 p], G5_1, G5_3] [1, 0, 2, 3, 4] 5 rfl (by simp) (by decide) _ (by simp)), hd5_1, hd5_3, hr5_1, hr5_3, hs5_1, hs5_3⟩
    ·refine stepAlloc hK hM 3 25 [.slice none 0 0, .slice none 0 0] (fun b => pA b 0) (by kernel_rfl) (by kernel_rfl) fun b5_4 a w hK hM => ?_
     refine tree_next #[true, false, false, false, true, false, false, false] (by kernel_rfl) ?_
     refine treeM [1, 2, 5] (by kernel_rfl) rfl ⟨?_, ?_, ?_, trivial⟩
     ·refine stepCall hK hM 19 #[vG p] (by kernel_rfl) (run_callE en_ast_Copy rfl rfl (by kernel_rfl)) (ast_Copy p _ (hp.on hM.below) hsh2 hsz2 hln2) ?_
      rintro ⟨q5_1, G5_1⟩ a w ⟨hr5_1, hs5_1, hd5_1⟩ hK hM
      replace hM := (Mem.comm hM).to ((rN b5_4 :: rG b1 p :: G5_1)) (by kernel_rfl)
      refine tree_next #[true, true, false, false, true, false, false, false] (by kernel_rfl) ?_
      refine treeM [2, 5] (by kernel_rfl) rfl ⟨?_, ?_, trivial⟩
      ·refine stepLoad hK 20 (vG p) (by kernel_rfl) rfl rfl ((hM.row 1 rfl).cells 0 2) (by kernel_rfl) fun a hK => ?_
       refine tree_next #[true, true, true, false, true, false, false, false] (by kernel_rfl) ?_
       refine treeM [3, 5] (by kernel_rfl) rfl ⟨?_, ?_, trivial⟩
       ·refine stepCall hK hM 21 #[vG p] (by kernel_rfl) (run_callE en_ast_Copy rfl rfl (by kernel_rfl)) (ast_Copy p _ (hp.on hM.below) hsh2 hsz2 hln2) ?_
        rintro ⟨q5_3, G5_3⟩ a w ⟨hr5_3, hs5_3, hd5_3⟩ hK hM
        replace hM := (Mem.comm hM).to ((rN b5_4 :: rG b1 p :: (G5_1 ++ G5_3))) (by kernel_rfl)
        refine tree_next #[true, true, true, true, true, false, false, false] (by kernel_rfl) ?_
        refine treeM [5] (by kernel_rfl) rfl ⟨?_, trivial⟩
        refine stepAlloc hK hM 4 25 [.slice none 0 0, .slice none 0 0] (fun b => pA b 0) (by kernel_rfl) (by kernel_rfl) fun b5_5 a w hK hM => ?_
        refine tree_next #[true, true, true, true, true, true, false, false] (by kernel_rfl) ?_
        refine treeM [6] (by kernel_rfl) rfl ⟨?_, trivial⟩
        refine stepStore hK hM 1 [.slice q5_1.A1 q5_1.ds.length q5_1.c1, .slice q5_1.A2 q5_1.ts.length q5_1.c2] (by kernel_rfl) rfl rfl rfl rfl (by kernel_rfl) fun w hM => ?_
        replace hM := hM.to (rN b5_5 :: rG b5_4 q5_1 :: rG b1 p :: (G5_1 ++ G5_3)) (by kernel_rfl)
        refine tree_next #[true, true, true, true, true, true, true, false] (by kernel_rfl) ?_
        refine treeM [7] (by kernel_rfl) rfl ⟨?_, trivial⟩
        refine stepStore hK hM 0 [.slice q5_3.A1 q5_3.ds.length q5_3.c1, .slice q5_3.A2 q5_3.ts.length q5_3.c2] (by kernel_rfl) rfl rfl rfl rfl (by kernel_rfl) fun w hM => ?_
        replace hM := hM.to (rG b5_5 q5_3 :: rG b5_4 q5_1 :: rG b1 p :: (G5_1 ++ G5_3)) (by kernel_rfl)
        refine tree_next #[true, true, true, true, true, true, true, true] (by kernel_rfl) ?_
        exact treeE (by kernel_rfl) ⟨G5_1, G5_3, b5_4, b5_5, q5_1, q5_3, hK.sub ⟨rfl, rfl, rfl, rfl, rfl, rfl, rfl, trivial⟩, hM, hd5_1, hd5_3, hr5_1, hr5_3, hs5_1, hs5_3⟩
       ·refine stepAlloc hK hM 4 25 [.slice none 0 0, .slice none 0 0] (fun b => pA b 0) (by kernel_rfl) (by kernel_rfl) fun b5_5 a w hK hM => ?_
        refine tree_next #[true, true, true, false, true, true, false, false] (by kernel_rfl) ?_
        refine treeM [3] (by kernel_rfl) rfl ⟨?_, trivial⟩
        refine stepCall hK hM 21 #[vG p] (by kernel_rfl) (run_callE en_ast_Copy rfl rfl (by kernel_rfl)) (ast_Copy p _ (hp.on hM.below) hsh2 hsz2 hln2) ?_
        rintro ⟨q5_3, G5_3⟩ a w ⟨hr5_3, hs5_3, hd5_3⟩ hK hM
        replace hM := (Mem.comm hM).to ((rN b5_5 :: rN b5_4 :: rG b1 p :: (G5_1 ++ G5_3))) (by kernel_rfl)
        refine tree_next #[true, true, true, true, true, true, false, false] (by kernel_rfl) ?_
        refine treeM [6] (by kernel_rfl) rfl ⟨?_, trivial⟩
        refine stepStore hK hM 1 [.slice q5_1.A1 q5_1.ds.length q5_1.c1, .slice q5_1.A2 q5_1.ts.length q5_1.c2] (by kernel_rfl) rfl rfl rfl rfl (by kernel_rfl) fun w hM => ?_
        replace hM := hM.to (rN b5_5 :: rG b5_4 q5_1 :: rG b1 p :: (G5_1 ++ G5_3)) (by kernel_rfl)
        refine tree_next #[true, true, true, true, true, true, true, false] (by kernel_rfl) ?_
        refine treeM [7] (by kernel_rfl) rfl ⟨?_, trivial⟩
        refine stepStore hK hM 0 [.slice q5_3.A1 q5_3.ds.length q5_3.c1, .slice q5_3.A2 q5_3.ts.length q5_3.c2] (by kernel_rfl) rfl rfl rfl rfl (by kernel_rfl) fun w hM => ?_
        replace hM := hM.to (rG b5_5 q5_3 :: rG b5_4 q5_1 :: rG b1 p :: (G5_1 ++ G5_3)) (by kernel_rfl)
        refine tree_next #[true, true, true, true, true, true, true, true] (by kernel_rfl) ?_
        exact treeE (by kernel_rfl) ⟨G5_1, G5_3, b5_4, b5_5, q5_1, q5_3, hK.sub ⟨rfl, rfl, rfl, rfl, rfl, rfl, rfl, trivial⟩, hM, hd5_1, hd5_3, hr5_1, hr5_3, hs5_1, hs5_3⟩
      ·refine stepAlloc hK hM 4 25 [.slice none 0 0, .slice none 0 0] (fun b => pA b 0) (by kernel_rfl) (by kernel_rfl) fun b5_5 a w hK hM => ?_
       refine tree_next #[true, true, false, false, true, true, false, false] (by kernel_rfl) ?_
       refine treeM [2] (by kernel_rfl) rfl ⟨?_, trivial⟩
       refine stepLoad hK 20 (vG p) (by kernel_rfl) rfl rfl ((hM.row 2 rfl).cells 0 2) (by kernel_rfl) fun a hK => ?_
       refine tree_next #[true, true, true, false, true, true, false, false] (by kernel_rfl) ?_
       refine treeM [3] (by kernel_rfl) rfl ⟨?_, trivial⟩
       refine stepCall hK hM 21 #[vG p] (by kernel_rfl) (run_callE en_ast_Copy rfl rfl (by kernel_rfl)) (ast_Copy p _ (hp.on hM.below) hsh2 hsz2 hln2) ?_
       rintro ⟨q5_3, G5_3⟩ a w ⟨hr5_3, hs5_3, hd5_3⟩ hK hM
       replace hM := (Mem.comm hM).to ((rN b5_5 :: rN b5_4 :: rG b1 p :: (G5_1 ++ G5_3))) (by kernel_rfl)
       refine tree_next #[true, true, true, true, true, true, false, false] (by kernel_rfl) ?_
       refine treeM [6] (by kernel_rfl) rfl ⟨?_, trivial⟩
       refine stepStore hK hM 1 [.slice q5_1.A1 q5_1.ds.length q5_1.c1, .slice q5_1.A2 q5_1.ts.length q5_1.c2] (by kernel_rfl) rfl rfl rfl rfl (by kernel_rfl) fun w hM => ?_
       replace hM := hM.to (rN b5_5 :: rG b5_4 q5_1 :: rG b1 p :: (G5_1 ++ G5_3)) (by kernel_rfl)
       refine tree_next #[true, true, true, true, true, true, true, false] (by kernel_rfl) ?_
       refine treeM [7] (by kernel_rfl) rfl ⟨?_, trivial⟩
       refine stepStore hK hM 0 [.slice q5_3.A1 q5_3.ds.length q5_3.c1, .slice q5_3.A2 q5_3.ts.length q5_3.c2] (by kernel_rfl) rfl rfl rfl rfl (by kernel_rfl) fun w hM => ?_
       replace hM := hM.to (rG b5_5 q5_3 :: rG b5_4 q5_1 :: rG b1 p :: (G5_1 ++ G5_3)) (by kernel_rfl)
       refine tree_next #[true, true, true, true, true, true, true, true] (by kernel_rfl) ?_
       exact treeE (by kernel_rfl) ⟨G5_1, G5_3, b5_4, b5_5, q5_1, q5_3, hK.sub ⟨rfl, rfl, rfl, rfl, rfl, rfl, rfl, trivial⟩, hM, hd5_1, hd5_3, hr5_1, hr5_3, hs5_1, hs5_3⟩
     ·refine stepLoad hK 20 (vG p) (by kernel_rfl) rfl rfl ((hM.row 1 rfl).cells 0 2) (by kernel_rfl) fun a hK => ?_
      refine tree_next #[true, false, true, false, true, false, false, false] (by kernel_rfl) ?_
      refine treeM [1, 5] (by kernel_rfl) rfl ⟨?_, ?_, trivial⟩
      ·refine stepCall hK hM 19 #[vG p] (by kernel_rfl) (run_callE en_ast_Copy rfl rfl (by kernel_rfl)) (ast_Copy p _ (hp.on hM.below) hsh2 hsz2 hln2) ?_
       rintro ⟨q5_1, G5_1⟩ a w ⟨hr5_1, hs5_1, hd5_1⟩ hK hM
       replace hM := (Mem.comm hM).to ((rN b5_4 :: rG b1 p :: G5_1)) (by kernel_rfl)
       refine tree_next #[true, true, true, false, true, false, false, false] (by kernel_rfl) ?_
       refine treeM [3, 5] (by kernel_rfl) rfl ⟨?_, ?_, trivial⟩
       ·refine stepCall hK hM 21 #[vG p] (by kernel_rfl) (run_callE en_ast_Copy rfl rfl (by kernel_rfl)) (ast_Copy p _ (hp.on hM.below) hsh2 hsz2 hln2) ?_
        rintro ⟨q5_3, G5_3⟩ a w ⟨hr5_3, hs5_3, hd5_3⟩ hK hM
        replace hM := (Mem.comm hM).to ((rN b5_4 :: rG b1 p :: (G5_1 ++ G5_3))) (by kernel_rfl)
        refine tree_next #[true, true, true, true, true, false, false, false] (by kernel_rfl) ?_
        refine treeM [5] (by kernel_rfl) rfl ⟨?_, trivial⟩
        refine stepAlloc hK hM 4 25 [.slice none 0 0, .slice none 0 0] (fun b => pA b 0) (by kernel_rfl) (by kernel_rfl) fun b5_5 a w hK hM => ?_
        refine tree_next #[true, true, true, true, true, true, false, false] (by kernel_rfl) ?_
        refine treeM [6] (by kernel_rfl) rfl ⟨?_, trivial⟩
        refine stepStore hK hM 1 [.slice q5_1.A1 q5_1.ds.length q5_1.c1, .slice q5_1.A2 q5_1.ts.length q5_1.c2] (by kernel_rfl) rfl rfl rfl rfl (by kernel_rfl) fun w hM => ?_
        replace hM := hM.to (rN b5_5 :: rG b5_4 q5_1 :: rG b1 p :: (G5_1 ++ G5_3)) (by kernel_rfl)
        refine tree_next #[true, true, true, true, true, true, true, false] (by kernel_rfl) ?_
        refine treeM [7] (by kernel_rfl) rfl ⟨?_, trivial⟩
        refine stepStore hK hM 0 [.slice q5_3.A1 q5_3.ds.length q5_3.c1, .slice q5_3.A2 q5_3.ts.length q5_3.c2] (by kernel_rfl) rfl rfl rfl rfl (by kernel_rfl) fun w hM => ?_
        replace hM := hM.to (rG b5_5 q5_3 :: rG b5_4 q5_1 :: rG b1 p :: (G5_1 ++ G5_3)) (by kernel_rfl)
        refine tree_next #[true, true, true, true, true, true, true, true] (by kernel_rfl) ?_
        exact treeE (by kernel_rfl) ⟨G5_1, G5_3, b5_4, b5_5, q5_1, q5_3, hK.sub ⟨rfl, rfl, rfl, rfl, rfl, rfl, rfl, trivial⟩, hM, hd5_1, hd5_3, hr5_1, hr5_3, hs5_1, hs5_3⟩
       ·refine stepAlloc hK hM 4 25 [.slice none 0 0, .slice none 0 0] (fun b => pA b 0) (by kernel_rfl) (by kernel_rfl) fun b5_5 a w hK hM => ?_
        refine tree_next #[true, true, true, false, true, true, false, false] (by kernel_rfl) ?_
        refine treeM [3] (by kernel_rfl) rfl ⟨?_, trivial⟩
        refine stepCall hK hM 21 #[vG p] (by kernel_rfl) (run_callE en_ast_Copy rfl rfl (by kernel_rfl)) (ast_Copy p _ (hp.on hM.below) hsh2 hsz2 hln2) ?_
        rintro ⟨q5_3, G5_3⟩ a w ⟨hr5_3, hs5_3, hd5_3⟩ hK hM
        replace hM := (Mem.comm hM).to ((rN b5_5 :: rN b5_4 :: rG b1 p :: (G5_1 ++ G5_3))) (by kernel_rfl)
        refine tree_next #[true, true, true, true, true, true, false, false] (by kernel_rfl) ?_
        refine treeM [6] (by kernel_rfl) rfl ⟨?_, trivial⟩
        refine stepStore hK hM 1 [.slice q5_1.A1 q5_1.ds.length q5_1.c1, .slice q5_1.A2 q5_1.ts.length q5_1.c2] (by kernel_rfl) rfl rfl rfl rfl (by kernel_rfl) fun w hM => ?_
        replace hM := hM.to (rN b5_5 :: rG b5_4 q5_1 :: rG b1 p :: (G5_1 ++ G5_3)) (by kernel_rfl)
        refine tree_next #[true, true, true, true, true, true, true, false] (by kernel_rfl) ?_
        refine treeM [7] (by kernel_rfl) rfl ⟨?_, trivial⟩
        refine stepStore hK hM 0 [.slice q5_3.A1 q5_3.ds.length q5_3.c1, .slice q5_3.A2 q5_3.ts.length q5_3.c2] (by kernel_rfl) rfl rfl rfl rfl (by kernel_rfl) fun w hM => ?_
        replace hM := hM.to (rG b5_5 q5_3 :: rG b5_4 q5_1 :: rG b1 p :: (G5_1 ++ G5_3)) (by kernel_rfl)
        refine tree_next #[true, true, true, true, true, true, true, true] (by kernel_rfl) ?_
        exact treeE (by kernel_rfl) ⟨G5_1, G5_3, b5_4, b5_5, q5_1, q5_3, hK.sub ⟨rfl, rfl, rfl, rfl, rfl, rfl, rfl, trivial⟩, hM, hd5_1, hd5_3, hr5_1, hr5_3, hs5_1, hs5_3⟩
      ·refine stepAlloc hK hM 4 25 [.slice none 0 0, .slice none 0 0] (fun b => pA b 0) (by kernel_rfl) (by kernel_rfl) fun b5_5 a w hK hM => ?_
       refine tree_next #[true, false, true, false, true, true, false, false] (by kernel_rfl) ?_
       refine treeM [1] (by kernel_rfl) rfl ⟨?_, trivial⟩
       refine stepCall hK hM 19 #[vG p] (by kernel_rfl) (run_callE en_ast_Copy rfl rfl (by kernel_rfl)) (ast_Copy p _ (hp.on hM.below) hsh2 hsz2 hln2) ?_
       rintro ⟨q5_1, G5_1⟩ a w ⟨hr5_1, hs5_1, hd5_1⟩ hK hM
       replace hM := (Mem.comm hM).to ((rN b5_5 :: rN b5_4 :: rG b1 p :: G5_1)) (by kernel_rfl)
       refine tree_next #[true, true, true, false, true, true, false, false] (by kernel_rfl) ?_
       refine treeM [3] (by kernel_rfl) rfl ⟨?_, trivial⟩
       refine stepCall hK hM 21 #[vG p] (by kernel_rfl) (run_callE en_ast_Copy rfl rfl (by kernel_rfl)) (ast_Copy p _ (hp.on hM.below) hsh2 hsz2 hln2) ?_
       rintro ⟨q5_3, G5_3⟩ a w ⟨hr5_3, hs5_3, hd5_3⟩ hK hM
       replace hM := (Mem.comm hM).to ((rN b5_5 :: rN b5_4 :: rG b1 p :: (G5_1 ++ G5_3))) (by kernel_rfl)
       refine tree_next #[true, true, true, true, true, true, false, false] (by kernel_rfl) ?_
       refine treeM [6] (by kernel_rfl) rfl ⟨?_, trivial⟩
       refine stepStore hK hM 1 [.slice q5_1.A1 q5_1.ds.length q5_1.c1, .slice q5_1.A2 q5_1.ts.length q5_1.c2] (by kernel_rfl) rfl rfl rfl rfl (by kernel_rfl) fun w hM => ?_
       replace hM := hM.to (rN b5_5 :: rG b5_4 q5_1 :: rG b1 p :: (G5_1 ++ G5_3)) (by kernel_rfl)
       refine tree_next #[true, true, true, true, true, true, true, false] (by kernel_rfl) ?_
       refine treeM [7] (by kernel_rfl) rfl ⟨?_, trivial⟩
       refine stepStore hK hM 0 [.slice q5_3.A1 q5_3.ds.length q5_3.c1, .slice q5_3.A2 q5_3.ts.length q5_3.c2] (by kernel_rfl) rfl rfl rfl rfl (by kernel_rfl) fun w hM => ?_
       replace hM := hM.to (rG b5_5 q5_3 :: rG b5_4 q5_1 :: rG b1 p :: (G5_1 ++ G5_3)) (by kernel_rfl)
       refine tree_next #[true, true, true, true, true, true, true, true] (by kernel_rfl) ?_
       exact treeE (by kernel_rfl) ⟨G5_1, G5_3, b5_4, b5_5, q5_1, q5_3, hK.sub ⟨rfl, rfl, rfl, rfl, rfl, rfl, rfl, trivial⟩, hM, hd5_1, hd5_3, hr5_1, hr5_3, hs5_1, hs5_3⟩
     ·refine stepAlloc hK hM 4 25 [.slice none 0 0, .slice none 0 0] (fun b => pA b 0) (by kernel_rfl) (by kernel_rfl) fun b5_5 a w hK hM => ?_
      refine tree_next #[true, false, false, false, true, true, false, false] (by kernel_rfl) ?_
      refine treeM [1, 2] (by kernel_rfl) rfl ⟨?_, ?_, trivial⟩
      ·refine stepCall hK hM 19 #[vG p] (by kernel_rfl) (run_callE en_ast_Copy rfl rfl (by kernel_rfl)) (ast_Copy p _ (hp.on hM.below) hsh2 hsz2 hln2) ?_
       rintro ⟨q5_1, G5_1⟩ a w ⟨hr5_1, hs5_1, hd5_1⟩ hK hM
       replace hM := (Mem.comm hM).to ((rN b5_5 :: rN b5_4 :: rG b1 p :: G5_1)) (by kernel_rfl)
       refine tree_next #[true, true, false, false, true, true, false, false] (by kernel_rfl) ?_
       refine treeM [2] (by kernel_rfl) rfl ⟨?_, trivial⟩
       refine stepLoad hK 20 (vG p) (by kernel_rfl) rfl rfl ((hM.row 2 rfl).cells 0 2) (by kernel_rfl) fun a hK => ?_
       refine tree_next #[true, true, true, false, true, true, false, false] (by kernel_rfl) ?_
       refine treeM [3] (by kernel_rfl) rfl ⟨?_, trivial⟩
       refine stepCall hK hM 21 #[vG p] (by kernel_rfl) (run_callE en_ast_Copy rfl rfl (by kernel_rfl)) (ast_Copy p _ (hp.on hM.below) hsh2 hsz2 hln2) ?_
       rintro ⟨q5_3, G5_3⟩ a w ⟨hr5_3, hs5_3, hd5_3⟩ hK hM
       replace hM := (Mem.comm hM).to ((rN b5_5 :: rN b5_4 :: rG b1 p :: (G5_1 ++ G5_3))) (by kernel_rfl)
       refine tree_next #[true, true, true, true, true, true, false, false] (by kernel_rfl) ?_
       refine treeM [6] (by kernel_rfl) rfl ⟨?_, trivial⟩
       refine stepStore hK hM 1 [.slice q5_1.A1 q5_1.ds.length q5_1.c1, .slice q5_1.A2 q5_1.ts.length q5_1.c2] (by kernel_rfl) rfl rfl rfl rfl (by kernel_rfl) fun w hM => ?_
       replace hM := hM.to (rN b5_5 :: rG b5_4 q5_1 :: rG b1 p :: (G5_1 ++ G5_3)) (by kernel_rfl)
       refine tree_next #[true, true, true, true, true, true, true, false] (by kernel_rfl) ?_
       refine treeM [7] (by kernel_rfl) rfl ⟨?_, trivial⟩
       refine stepStore hK hM 0 [.slice q5_3.A1 q5_3.ds.length q5_3.c1, .slice q5_3.A2 q5_3.ts.length q5_3.c2] (by kernel_rfl) rfl rfl rfl rfl (by kernel_rfl) fun w hM => ?_
       replace hM := hM.to (rG b5_5 q5_3 :: rG b5_4 q5_1 :: rG b1 p :: (G5_1 ++ G5_3)) (by kernel_rfl)
       refine tree_next #[true, true, true, true, true, true, true, true] (by kernel_rfl) ?_
       exact treeE (by kernel_rfl) ⟨G5_1, G5_3, b5_4, b5_5, q5_1, q5_3, hK.sub ⟨rfl, rfl, rfl, rfl, rfl, rfl, rfl, trivial⟩, hM, hd5_1, hd5_3, hr5_1, hr5_3, hs5_1, hs5_3⟩
      ·refine stepLoad hK 20 (vG p) (by kernel_rfl) rfl rfl ((hM.row 2 rfl).cells 0 2) (by kernel_rfl) fun a hK => ?_
       refine tree_next #[true, false, true, false, true, true, false, false] (by kernel_rfl) ?_
       refine treeM [1] (by kernel_rfl) rfl ⟨?_, trivial⟩
       refine stepCall hK hM 19 #[vG p] (by kernel_rfl) (run_callE en_ast_Copy rfl rfl (by kernel_rfl)) (ast_Copy p _ (hp.on hM.below) hsh2 hsz2 hln2) ?_
       rintro ⟨q5_1, G5_1⟩ a w ⟨hr5_1, hs5_1, hd5_1⟩ hK hM
       replace hM := (Mem.comm hM).to ((rN b5_5 :: rN b5_4 :: rG b1 p :: G5_1)) (by kernel_rfl)
       refine tree_next #[true, true, true, false, true, true, false, false] (by kernel_rfl) ?_
       refine treeM [3] (by kernel_rfl) rfl ⟨?_, trivial⟩
       refine stepCall hK hM 21 #[vG p] (by kernel_rfl) (run_callE en_ast_Copy rfl rfl (by kernel_rfl)) (ast_Copy p _ (hp.on hM.below) hsh2 hsz2 hln2) ?_
       rintro ⟨q5_3, G5_3⟩ a w ⟨hr5_3, hs5_3, hd5_3⟩ hK hM
       replace hM := (Mem.comm hM).to ((rN b5_5 :: rN b5_4 :: rG b1 p :: (G5_1 ++ G5_3))) (by kernel_rfl)
       refine tree_next #[true, true, true, true, true, true, false, false] (by kernel_rfl) ?_
       refine treeM [6] (by kernel_rfl) rfl ⟨?_, trivial⟩
       refine stepStore hK hM 1 [.slice q5_1.A1 q5_1.ds.length q5_1.c1, .slice q5_1.A2 q5_1.ts.length q5_1.c2] (by kernel_rfl) rfl rfl rfl rfl (by kernel_rfl) fun w hM => ?_
       replace hM := hM.to (rN b5_5 :: rG b5_4 q5_1 :: rG b1 p :: (G5_1 ++ G5_3)) (by kernel_rfl)
       refine tree_next #[true, true, true, true, true, true, true, false] (by kernel_rfl) ?_
       refine treeM [7] (by kernel_rfl) rfl ⟨?_, trivial⟩
       refine stepStore hK hM 0 [.slice q5_3.A1 q5_3.ds.length q5_3.c1, .slice q5_3.A2 q5_3.ts.length q5_3.c2] (by kernel_rfl) rfl rfl rfl rfl (by kernel_rfl) fun w hM => ?_
       replace hM := hM.to (rG b5_5 q5_3 :: rG b5_4 q5_1 :: rG b1 p :: (G5_1 ++ G5_3)) (by kernel_rfl)
       refine tree_next #[true, true, true, true, true, true, true, true] (by kernel_rfl) ?_
       exact treeE (by kernel_rfl) ⟨G5_1, G5_3, b5_4, b5_5, q5_1, q5_3, hK.sub ⟨rfl, rfl, rfl, rfl, rfl, rfl, rfl, trivial⟩, hM, hd5_1, hd5_3, hr5_1, hr5_3, hs5_1, hs5_3⟩
    ·refine stepAlloc hK hM 4 25 [.slice none 0 0, .slice none 0 0] (fun b => pA b 0) (by kernel_rfl) (by kernel_rfl) fun b5_5 a w hK hM => ?_
     refine tree_next #[true, false, false, false, false, true, false, false] (by kernel_rfl) ?_
     refine treeM [1, 2, 4] (by kernel_rfl) rfl ⟨?_, ?_, ?_, trivial⟩
     ·refine stepCall hK hM 19 #[vG p] (by kernel_rfl) (run_callE en_ast_Copy rfl rfl (by kernel_rfl)) (ast_Copy p _ (hp.on hM.below) hsh2 hsz2 hln2) ?_
      rintro ⟨q5_1, G5_1⟩ a w ⟨hr5_1, hs5_1, hd5_1⟩ hK hM
      replace hM := (Mem.comm hM).to ((rN b5_5 :: rG b1 p :: G5_1)) (by kernel_rfl)
      refine tree_next #[true, true, false, false, false, true, false, false] (by kernel_rfl) ?_
      refine treeM [2, 4] (by kernel_rfl) rfl ⟨?_, ?_, trivial⟩
      ·refine stepLoad hK 20 (vG p) (by kernel_rfl) rfl rfl ((hM.row 1 rfl).cells 0 2) (by kernel_rfl) fun a hK => ?_
       refine tree_next #[true, true, true, false, false, true, false, false] (by kernel_rfl) ?_
       refine treeM [3, 4] (by kernel_rfl) rfl ⟨?_, ?_, trivial⟩
       ·refine stepCall hK hM 21 #[vG p] (by kernel_rfl) (run_callE en_ast_Copy rfl rfl (by kernel_rfl)) (ast_Copy p _ (hp.on hM.below) hsh2 hsz2 hln2) ?_
        rintro ⟨q5_3, G5_3⟩ a w ⟨hr5_3, hs5_3, hd5_3⟩ hK hM
        replace hM := (Mem.comm hM).to ((rN b5_5 :: rG b1 p :: (G5_1 ++ G5_3))) (by kernel_rfl)
        refine tree_next #[true, true, true, true, false, true, false, false] (by kernel_rfl) ?_
        refine treeM [4] (by kernel_rfl) rfl ⟨?_, trivial⟩
        refine stepAlloc hK hM 3 25 [.slice none 0 0, .slice none 0 0] (fun b => pA b 0) (by kernel_rfl) (by kernel_rfl) fun b5_4 a w hK hM => ?_
        refine tree_next #[true, true, true, true, true, true, false, false] (by kernel_rfl) ?_
        refine treeM [6] (by kernel_rfl) rfl ⟨?_, trivial⟩
        refine stepStore hK hM 0 [.slice q5_1.A1 q5_1.ds.length q5_1.c1, .slice q5_1.A2 q5_1.ts.length q5_1.c2] (by kernel_rfl) rfl rfl rfl rfl (by kernel_rfl) fun w hM => ?_
        replace hM := hM.to (rG b5_4 q5_1 :: rN b5_5 :: rG b1 p :: (G5_1 ++ G5_3)) (by kernel_rfl)
        refine tree_next #[true, true, true, true, true, true, true, false] (by kernel_rfl) ?_
        refine treeM [7] (by kernel_rfl) rfl ⟨?_, trivial⟩
        refine stepStore hK hM 1 [.slice q5_3.A1 q5_3.ds.length q5_3.c1, .slice q5_3.A2 q5_3.ts.length q5_3.c2] (by kernel_rfl) rfl rfl rfl rfl (by kernel_rfl) fun w hM => ?_
        replace hM := hM.to (rG b5_4 q5_1 :: rG b5_5 q5_3 :: rG b1 p :: (G5_1 ++ G5_3)) (by kernel_rfl)
        refine tree_next #[true, true, true, true, true, true, true, true] (by kernel_rfl) ?_
        exact treeE (by kernel_rfl) ⟨G5_1, G5_3, b5_4, b5_5, q5_1, q5_3, hK.sub ⟨rfl, rfl, rfl, rfl, rfl, rfl, rfl, trivial⟩, (hM.order [[rG b5_4 q5_1], [rG b5_5 q5_3], [rG b1 p], G5_1, G5_3] [1, 0, 2, 3, 4] 5 rfl (by simp) (by decide) _ (by simp)), hd5_1, hd5_3, hr5_1, hr5_3, hs5_1, hs5_3⟩
       ·refine stepAlloc hK hM 3 25 [.slice none 0 0, .slice none 0 0] (fun b => pA b 0) (by kernel_rfl) (by kernel_rfl) fun b5_4 a w hK hM => ?_
        refine tree_next #[true, true, true, false, true, true, false, false] (by kernel_rfl) ?_
        refine treeM [3] (by kernel_rfl) rfl ⟨?_, trivial⟩
        refine stepCall hK hM 21 #[vG p] (by kernel_rfl) (run_callE en_ast_Copy rfl rfl (by kernel_rfl)) (ast_Copy p _ (hp.on hM.below) hsh2 hsz2 hln2) ?_
        rintro ⟨q5_3, G5_3⟩ a w ⟨hr5_3, hs5_3, hd5_3⟩ hK hM
        replace hM := (Mem.comm hM).to ((rN b5_4 :: rN b5_5 :: rG b1 p :: (G5_1 ++ G5_3))) (by kernel_rfl)
        refine tree_next #[true, true, true, true, true, true, false, false] (by kernel_rfl) ?_
        refine treeM [6] (by kernel_rfl) rfl ⟨?_, trivial⟩
        refine stepStore hK hM 0 [.slice q5_1.A1 q5_1.ds.length q5_1.c1, .slice q5_1.A2 q5_1.ts.length q5_1.c2] (by kernel_rfl) rfl rfl rfl rfl (by kernel_rfl) fun w hM => ?_
        replace hM := hM.to (rG b5_4 q5_1 :: rN b5_5 :: rG b1 p :: (G5_1 ++ G5_3)) (by kernel_rfl)
        refine tree_next #[true, true, true, true, true, true, true, false] (by kernel_rfl) ?_
        refine treeM [7] (by kernel_rfl) rfl ⟨?_, trivial⟩
        refine stepStore hK hM 1 [.slice q5_3.A1 q5_3.ds.length q5_3.c1, .slice q5_3.A2 q5_3.ts.length q5_3.c2] (by kernel_rfl) rfl rfl rfl rfl (by kernel_rfl) fun w hM => ?_
        replace hM := hM.to (rG b5_4 q5_1 :: rG b5_5 q5_3 :: rG b1 p :: (G5_1 ++ G5_3)) (by kernel_rfl)
        refine tree_next #[true, true, true, true, true, true, true, true] (by kernel_rfl) ?_
        exact treeE (by kernel_rfl) ⟨G5_1, G5_3, b5_4, b5_5, q5_1, q5_3, hK.sub ⟨rfl, rfl, rfl, rfl, rfl, rfl, rfl, trivial⟩, (hM.order [[rG b5_4 q5_1], [rG b5_5 q5_3], [rG b1 p], G5_1, G5_3] [1, 0, 2, 3, 4] 5 rfl (by simp) (by decide) _ (by simp)), hd5_1, hd5_3, hr5_1, hr5_3, hs5_1, hs5_3⟩
      ·refine stepAlloc hK hM 3 25 [.slice none 0 0, .slice none 0 0] (fun b => pA b 0) (by kernel_rfl) (by kernel_rfl) fun b5_4 a w hK hM => ?_
       refine tree_next #[true, true, false, false, true, true, false, false] (by kernel_rfl) ?_
       refine treeM [2] (by kernel_rfl) rfl ⟨?_, trivial⟩
       refine stepLoad hK 20 (vG p) (by kernel_rfl) rfl rfl ((hM.row 2 rfl).cells 0 2) (by kernel_rfl) fun a hK => ?_
       refine tree_next #[true, true, true, false, true, true, false, false] (by kernel_rfl) ?_
       refine treeM [3] (by kernel_rfl) rfl ⟨?_, trivial⟩
       refine stepCall hK hM 21 #[vG p] (by kernel_rfl) (run_callE en_ast_Copy rfl rfl (by kernel_rfl)) (ast_Copy p _ (hp.on hM.below) hsh2 hsz2 hln2) ?_
       rintro ⟨q5_3, G5_3⟩ a w ⟨hr5_3, hs5_3, hd5_3⟩ hK hM
       replace hM := (Mem.comm hM).to ((rN b5_4 :: rN b5_5 :: rG b1 p :: (G5_1 ++ G5_3))) (by kernel_rfl)
       refine tree_next #[true, true, true, true, true, true, false, false] (by kernel_rfl) ?_
       refine treeM [6] (by kernel_rfl) rfl ⟨?_, trivial⟩
       refine stepStore hK hM 0 [.slice q5_1.A1 q5_1.ds.length q5_1.c1, .slice q5_1.A2 q5_1.ts.length q5_1.c2] (by kernel_rfl) rfl rfl rfl rfl (by kernel_rfl) fun w hM => ?_
       replace hM := hM.to (rG b5_4 q5_1 :: rN b5_5 :: rG b1 p :: (G5_1 ++ G5_3)) (by kernel_rfl)
       refine tree_next #[true, true, true, true, true, true, true, false] (by kernel_rfl) ?_
       refine treeM [7] (by kernel_rfl) rfl ⟨?_, trivial⟩
       refine stepStore hK hM 1 [.slice q5_3.A1 q5_3.ds.length q5_3.c1, .slice q5_3.A2 q5_3.ts.length q5_3.c2] (by kernel_rfl) rfl rfl rfl rfl (by kernel_rfl) fun w hM => ?_
       replace hM := hM.to (rG b5_4 q5_1 :: rG b5_5 q5_3 :: rG b1 p :: (G5_1 ++ G5_3)) (by kernel_rfl)
       refine tree_next #[true, true, true, true, true, true, true, true] (by kernel_rfl) ?_
       exact treeE (by kernel_rfl) ⟨G5_1, G5_3, b5_4, b5_5, q5_1, q5_3, hK.sub ⟨rfl, rfl, rfl, rfl, rfl, rfl, rfl, trivial⟩, (hM.order [[rG b5_4 q5_1], [rG b5_5 q5_3], [rG b1 p], G5_1, G5_3] [1, 0, 2, 3, 4] 5 rfl (by simp) (by decide) _ (by simp)), hd5_1, hd5_3, hr5_1, hr5_3, hs5_1, hs5_3⟩
     ·refine stepLoad hK 20 (vG p) (by kernel_rfl) rfl rfl ((hM.row 1 rfl).cells 0 2) (by kernel_rfl) fun a hK => ?_
      refine tree_next #[true, false, true, false, false, true, false, false] (by kernel_rfl) ?_
      refine treeM [1, 4] (by kernel_rfl) rfl ⟨?_, ?_, trivial⟩
      ·refine stepCall hK hM 19 #[vG p] (by kernel_rfl) (run_callE en_ast_Copy rfl rfl (by kernel_rfl)) (ast_Copy p _ (hp.on hM.below) hsh2 hsz2 hln2) ?_
       rintro ⟨q5_1, G5_1⟩ a w ⟨hr5_1, hs5_1, hd5_1⟩ hK hM
       replace hM := (Mem.comm hM).to ((rN b5_5 :: rG b1 p :: G5_1)) (by kernel_rfl)
       refine tree_next #[true, true, true, false, false, true, false, false] (by kernel_rfl) ?_
       refine treeM [3, 4] (by kernel_rfl) rfl ⟨?_, ?_, trivial⟩
       ·refine stepCall hK hM 21 #[vG p] (by kernel_rfl) (run_callE en_ast_Copy rfl rfl (by kernel_rfl)) (ast_Copy p _ (hp.on hM.below) hsh2 hsz2 hln2) ?_
        rintro ⟨q5_3, G5_3⟩ a w ⟨hr5_3, hs5_3, hd5_3⟩ hK hM
        replace hM := (Mem.comm hM).to ((rN b5_5 :: rG b1 p :: (G5_1 ++ G5_3))) (by kernel_rfl)
        refine tree_next #[true, true, true, true, false, true, false, false] (by kernel_rfl) ?_
        refine treeM [4] (by kernel_rfl) rfl ⟨?_, trivial⟩
        refine stepAlloc hK hM 3 25 [.slice none 0 0, .slice none 0 0] (fun b => pA b 0) (by kernel_rfl) (by kernel_rfl) fun b5_4 a w hK hM => ?_
        refine tree_next #[true, true, true, true, true, true, false, false] (by kernel_rfl) ?_
        refine treeM [6] (by kernel_rfl) rfl ⟨?_, trivial⟩
        refine stepStore hK hM 0 [.slice q5_1.A1 q5_1.ds.length q5_1.c1, .slice q5_1.A2 q5_1.ts.length q5_1.c2] (by kernel_rfl) rfl rfl rfl rfl (by kernel_rfl) fun w hM => ?_
        replace hM := hM.to (rG b5_4 q5_1 :: rN b5_5 :: rG b1 p :: (G5_1 ++ G5_3)) (by kernel_rfl)
        refine tree_next #[true, true, true, true, true, true, true, false] (by kernel_rfl) ?_
        refine treeM [7] (by kernel_rfl) rfl ⟨?_, trivial⟩
        refine stepStore hK hM 1 [.slice q5_3.A1 q5_3.ds.length q5_3.c1, .slice q5_3.A2 q5_3.ts.length q5_3.c2] (by kernel_rfl) rfl rfl rfl rfl (by kernel_rfl) fun w hM => ?_
        replace hM := hM.to (rG b5_4 q5_1 :: rG b5_5 q5_3 :: rG b1 p :: (G5_1 ++ G5_3)) (by kernel_rfl)
        refine tree_next #[true, true, true, true, true, true, true, true] (by kernel_rfl) ?_
        exact treeE (by kernel_rfl) ⟨G5_1, G5_3, b5_4, b5_5, q5_1, q5_3, hK.sub ⟨rfl, rfl, rfl, rfl, rfl, rfl, rfl, trivial⟩, (hM.order [[rG b5_4 q5_1], [rG b5_5 q5_3], [rG b1 p], G5_1, G5_3] [1, 0, 2, 3, 4] 5 rfl (by simp) (by decide) _ (by simp)), hd5_1, hd5_3, hr5_1, hr5_3, hs5_1, hs5_3⟩
       ·refine stepAlloc hK hM 3 25 [.slice none 0 0, .slice none 0 0] (fun b => pA b 0) (by kernel_rfl) (by kernel_rfl) fun b5_4 a w hK hM => ?_
        refine tree_next #[true, true, true, false, true, true, false, false] (by kernel_rfl) ?_
        refine treeM [3] (by kernel_rfl) rfl ⟨?_, trivial⟩
        refine stepCall hK hM 21 #[vG p] (by kernel_rfl) (run_callE en_ast_Copy rfl rfl (by kernel_rfl)) (ast_Copy p _ (hp.on hM.below) hsh2 hsz2 hln2) ?_
        rintro ⟨q5_3, G5_3⟩ a w ⟨hr5_3, hs5_3, hd5_3⟩ hK hM
        replace hM := (Mem.comm hM).to ((rN b5_4 :: rN b5_5 :: rG b1 p :: (G5_1 ++ G5_3))) (by kernel_rfl)
        refine tree_next #[true, true, true, true, true, true, false, false] (by kernel_rfl) ?_
        refine treeM [6] (by kernel_rfl) rfl ⟨?_, trivial⟩
        refine stepStore hK hM 0 [.slice q5_1.A1 q5_1.ds.length q5_1.c1, .slice q5_1.A2 q5_1.ts.length q5_1.c2] (by kernel_rfl) rfl rfl rfl rfl (by kernel_rfl) fun w hM => ?_
        replace hM := hM.to (rG b5_4 q5_1 :: rN b5_5 :: rG b1 p :: (G5_1 ++ G5_3)) (by kernel_rfl)
        refine tree_next #[true, true, true, true, true, true, true, false] (by kernel_rfl) ?_
        refine treeM [7] (by kernel_rfl) rfl ⟨?_, trivial⟩
        refine stepStore hK hM 1 [.slice q5_3.A1 q5_3.ds.length q5_3.c1, .slice q5_3.A2 q5_3.ts.length q5_3.c2] (by kernel_rfl) rfl rfl rfl rfl (by kernel_rfl) fun w hM => ?_
        replace hM := hM.to (rG b5_4 q5_1 :: rG b5_5 q5_3 :: rG b1 p :: (G5_1 ++ G5_3)) (by kernel_rfl)
        refine tree_next #[true, true, true, true, true, true, true, true] (by kernel_rfl) ?_
        exact treeE (by kernel_rfl) ⟨G5_1, G5_3, b5_4, b5_5, q5_1, q5_3, hK.sub ⟨rfl, rfl, rfl, rfl, rfl, rfl, rfl, trivial⟩, (hM.order [[rG b5_4 q5_1], [rG b5_5 q5_3], [rG b1 p], G5_1, G5_3] [1, 0, 2, 3, 4] 5 rfl (by simp) (by decide) _ (by simp)), hd5_1, hd5_3, hr5_1, hr5_3, hs5_1, hs5_3⟩
      ·refine stepAlloc hK hM 3 25 [.slice none 0 0, .slice none 0 0] (fun b => pA b 0) (by kernel_rfl) (by kernel_rfl) fun b5_4 a w hK hM => ?_
       refine tree_next #[true, false, true, false, true, true, false, false] (by kernel_rfl) ?_
       refine treeM [1] (by kernel_rfl) rfl ⟨?_, trivial⟩
       refine stepCall hK hM 19 #[vG p] (by kernel_rfl) (run_callE en_ast_Copy rfl rfl (by kernel_rfl)) (ast_Copy p _ (hp.on hM.below) hsh2 hsz2 hln2) ?_
       rintro ⟨q5_1, G5_1⟩ a w ⟨hr5_1, hs5_1, hd5_1⟩ hK hM
       replace hM := (Mem.comm hM).to ((rN b5_4 :: rN b5_5 :: rG b1 p :: G5_1)) (by kernel_rfl)
       refine tree_next #[true, true, true, false, true, true, false, false] (by kernel_rfl) ?_
       refine treeM [3] (by kernel_rfl) rfl ⟨?_, trivial⟩
       refine stepCall hK hM 21 #[vG p] (by kernel_rfl) (run_callE en_ast_Copy rfl rfl (by kernel_rfl)) (ast_Copy p _ (hp.on hM.below) hsh2 hsz2 hln2) ?_
       rintro ⟨q5_3, G5_3⟩ a w ⟨hr5_3, hs5_3, hd5_3⟩ hK hM
       replace hM := (Mem.comm hM).to ((rN b5_4 :: rN b5_5 :: rG b1 p :: (G5_1 ++ G5_3))) (by kernel_rfl)
       refine tree_next #[true, true, true, true, true, true, false, false] (by kernel_rfl) ?_
       refine treeM [6] (by kernel_rfl) rfl ⟨?_, trivial⟩
       refine stepStore hK hM 0 [.slice q5_1.A1 q5_1.ds.length q5_1.c1, .slice q5_1.A2 q5_1.ts.length q5_1.c2] (by kernel_rfl) rfl rfl rfl rfl (by kernel_rfl) fun w hM => ?_
       replace hM := hM.to (rG b5_4 q5_1 :: rN b5_5 :: rG b1 p :: (G5_1 ++ G5_3)) (by kernel_rfl)
       refine tree_next #[true, true, true, true, true, true, true, false] (by kernel_rfl) ?_
       refine treeM [7] (by kernel_rfl) rfl ⟨?_, trivial⟩
       refine stepStore hK hM 1 [.slice q5_3.A1 q5_3.ds.length q5_3.c1, .slice q5_3.A2 q5_3.ts.length q5_3.c2] (by kernel_rfl) rfl rfl rfl rfl (by kernel_rfl) fun w hM => ?_
       replace hM := hM.to (rG b5_4 q5_1 :: rG b5_5 q5_3 :: rG b1 p :: (G5_1 ++ G5_3)) (by kernel_rfl)
       refine tree_next #[true, true, true, true, true, true, true, true] (by kernel_rfl) ?_
       exact treeE (by kernel_rfl) ⟨G5_1, G5_3, b5_4, b5_5, q5_1, q5_3, hK.sub ⟨rfl, rfl, rfl, rfl, rfl, rfl, rfl, trivial⟩, (hM.order [[rG b5_4 q5_1], [rG b5_5 q5_3], [rG b1 p], G5_1, G5_3] [1, 0, 2, 3, 4] 5 rfl (by simp) (by decide) _ (by simp)), hd5_1, hd5_3, hr5_1, hr5_3, hs5_1, hs5_3⟩
     ·refine stepAlloc hK hM 3 25 [.slice none 0 0, .slice none 0 0] (fun b => pA b 0) (by kernel_rfl) (by kernel_rfl) fun b5_4 a w hK hM => ?_
      refine tree_next #[true, false, false, false, true, true, false, false] (by kernel_rfl) ?_
      refine treeM [1, 2] (by kernel_rfl) rfl ⟨?_, ?_, trivial⟩
      ·refine stepCall hK hM 19 #[vG p] (by kernel_rfl) (run_callE en_ast_Copy rfl rfl (by kernel_rfl)) (ast_Copy p _ (hp.on hM.below) hsh2 hsz2 hln2) ?_
       rintro ⟨q5_1, G5_1⟩ a w ⟨hr5_1, hs5_1, hd5_1⟩ hK hM
       replace hM := (Mem.comm hM).to ((rN b5_4 :: rN b5_5 :: rG b1 p :: G5_1)) (by kernel_rfl)
       refine tree_next #[true, true, false, false, true, true, false, false] (by kernel_rfl) ?_
       refine treeM [2] (by kernel_rfl) rfl ⟨?_, trivial⟩
       refine stepLoad hK 20 (vG p) (by kernel_rfl) rfl rfl ((hM.row 2 rfl).cells 0 2) (by kernel_rfl) fun a hK => ?_
       refine tree_next #[true, true, true, false, true, true, false, false] (by kernel_rfl) ?_
       refine treeM [3] (by kernel_rfl) rfl ⟨?_, trivial⟩
       refine stepCall hK hM 21 #[vG p] (by kernel_rfl) (run_callE en_ast_Copy rfl rfl (by kernel_rfl)) (ast_Copy p _ (hp.on hM.below) hsh2 hsz2 hln2) ?_
       rintro ⟨q5_3, G5_3⟩ a w ⟨hr5_3, hs5_3, hd5_3⟩ hK hM
       replace hM := (Mem.comm hM).to ((rN b5_4 :: rN b5_5 :: rG b1 p :: (G5_1 ++ G5_3))) (by kernel_rfl)
       refine tree_next #[true, true, true, true, true, true, false, false] (by kernel_rfl) ?_
       refine treeM [6] (by kernel_rfl) rfl ⟨?_, trivial⟩
       refine stepStore hK hM 0 [.slice q5_1.A1 q5_1.ds.length q5_1.c1, .slice q5_1.A2 q5_1.ts.length q5_1.c2] (by kernel_rfl) rfl rfl rfl rfl (by kernel_rfl) fun w hM => ?_
       replace hM := hM.to (rG b5_4 q5_1 :: rN b5_5 :: rG b1 p :: (G5_1 ++ G5_3)) (by kernel_rfl)
       refine tree_next #[true, true, true, true, true, true, true, false] (by kernel_rfl) ?_
       refine treeM [7] (by kernel_rfl) rfl ⟨?_, trivial⟩
       refine stepStore hK hM 1 [.slice q5_3.A1 q5_3.ds.length q5_3.c1, .slice q5_3.A2 q5_3.ts.length q5_3.c2] (by kernel_rfl) rfl rfl rfl rfl (by kernel_rfl) fun w hM => ?_
       replace hM := hM.to (rG b5_4 q5_1 :: rG b5_5 q5_3 :: rG b1 p :: (G5_1 ++ G5_3)) (by kernel_rfl)
       refine tree_next #[true, true, true, true, true, true, true, true] (by kernel_rfl) ?_
       exact treeE (by kernel_rfl) ⟨G5_1, G5_3, b5_4, b5_5, q5_1, q5_3, hK.sub ⟨rfl, rfl, rfl, rfl, rfl, rfl, rfl, trivial⟩, (hM.order [[rG b5_4 q5_1], [rG b5_5 q5_3], [rG b1 p], G5_1, G5_3] [1, 0, 2, 3, 4] 5 rfl (by simp) (by decide) _ (by simp)), hd5_1, hd5_3, hr5_1, hr5_3, hs5_1, hs5_3⟩
      ·refine stepLoad hK 20 (vG p) (by kernel_rfl) rfl rfl ((hM.row 2 rfl).cells 0 2) (by kernel_rfl) fun a hK => ?_
       refine tree_next #[true, false, true, false, true, true, false, false] (by kernel_rfl) ?_
       refine treeM [1] (by kernel_rfl) rfl ⟨?_, trivial⟩
       refine stepCall hK hM 19 #[vG p] (by kernel_rfl) (run_callE en_ast_Copy rfl rfl (by kernel_rfl)) (ast_Copy p _ (hp.on hM.below) hsh2 hsz2 hln2) ?_
       rintro ⟨q5_1, G5_1⟩ a w ⟨hr5_1, hs5_1, hd5_1⟩ hK hM
       replace hM := (Mem.comm hM).to ((rN b5_4 :: rN b5_5 :: rG b1 p :: G5_1)) (by kernel_rfl)
       refine tree_next #[true, true, true, false, true, true, false, false] (by kernel_rfl) ?_
       refine treeM [3] (by kernel_rfl) rfl ⟨?_, trivial⟩
       refine stepCall hK hM 21 #[vG p] (by kernel_rfl) (run_callE en_ast_Copy rfl rfl (by kernel_rfl)) (ast_Copy p _ (hp.on hM.below) hsh2 hsz2 hln2) ?_
       rintro ⟨q5_3, G5_3⟩ a w ⟨hr5_3, hs5_3, hd5_3⟩ hK hM
       replace hM := (Mem.comm hM).to ((rN b5_4 :: rN b5_5 :: rG b1 p :: (G5_1 ++ G5_3))) (by kernel_rfl)
       refine tree_next #[true, true, true, true, true, true, false, false] (by kernel_rfl) ?_
       refine treeM [6] (by kernel_rfl) rfl ⟨?_, trivial⟩
       refine stepStore hK hM 0 [.slice q5_1.A1 q5_1.ds.length q5_1.c1, .slice q5_1.A2 q5_1.ts.length q5_1.c2] (by kernel_rfl) rfl rfl rfl rfl (by kernel_rfl) fun w hM => ?_
       replace hM := hM.to (rG b5_4 q5_1 :: rN b5_5 :: rG b1 p :: (G5_1 ++ G5_3)) (by kernel_rfl)
       refine tree_next #[true, true, true, true, true, true, true, false] (by kernel_rfl) ?_
       refine treeM [7] (by kernel_rfl) rfl ⟨?_, trivial⟩
       refine stepStore hK hM 1 [.slice q5_3.A1 q5_3.ds.length q5_3.c1, .slice q5_3.A2 q5_3.ts.length q5_3.c2] (by kernel_rfl) rfl rfl rfl rfl (by kernel_rfl) fun w hM => ?_
       replace hM := hM.to (rG b5_4 q5_1 :: rG b5_5 q5_3 :: rG b1 p :: (G5_1 ++ G5_3)) (by kernel_rfl)
       refine tree_next #[true, true, true, true, true, true, true, true] (by kernel_rfl) ?_
       exact treeE (by kernel_rfl) ⟨G5_1, G5_3, b5_4, b5_5, q5_1, q5_3, hK.sub ⟨rfl, rfl, rfl, rfl, rfl, rfl, rfl, trivial⟩, (hM.order [[rG b5_4 q5_1], [rG b5_5 q5_3], [rG b1 p], G5_1, G5_3] [1, 0, 2, 3, 4] 5 rfl (by simp) (by decide) _ (by simp)), hd5_1, hd5_3, hr5_1, hr5_3, hs5_1, hs5_3⟩
   ·refine stepLoad hK 20 (vG p) (by kernel_rfl) rfl rfl ((hM.row 0 rfl).cells 0 2) (by kernel_rfl) fun a hK => ?_
    refine tree_next #[false, false, true, false, false, false, false, false] (by kernel_rfl) ?_
    refine treeM [0, 4, 5] (by kernel_rfl) rfl ⟨?_, ?_, ?_, trivial⟩
    ·refine stepLoad hK 18 (vG p) (by kernel_rfl) rfl rfl ((hM.row 0 rfl).cells 0 2) (by kernel_rfl) fun a hK => ?_
     refine tree_next #[true, false, true, false, false, false, false, false] (by kernel_rfl) ?_
     refine treeM [1, 4, 5] (by kernel_rfl) rfl ⟨?_, ?_, ?_, trivial⟩
     ·refine stepCall hK hM 19 #[vG p] (by kernel_rfl) (run_callE en_ast_Copy rfl rfl (by kernel_rfl)) (ast_Copy p _ (hp.on hM.below) hsh2 hsz2 hln2) ?_
      rintro ⟨q5_1, G5_1⟩ a w ⟨hr5_1, hs5_1, hd5_1⟩ hK hM
      replace hM := (Mem.comm hM).to ((rG b1 p :: G5_1)) (by kernel_rfl)
      refine tree_next #[true, true, true, false, false, false, false, false] (by kernel_rfl) ?_
      refine treeM [3, 4, 5] (by kernel_rfl) rfl ⟨?_, ?_, ?_, trivial⟩
      ·refine stepCall hK hM 21 #[vG p] (by kernel_rfl) (run_callE en_ast_Copy rfl rfl (by kernel_rfl)) (ast_Copy p _ (hp.on hM.below) hsh2 hsz2 hln2) ?_
       rintro ⟨q5_3, G5_3⟩ a w ⟨hr5_3, hs5_3, hd5_3⟩ hK hM
       replace hM := (Mem.comm hM).to ((rG b1 p :: (G5_1 ++ G5_3))) (by kernel_rfl)
       refine tree_next #[true, true, true, true, false, false, false, false] (by kernel_rfl) ?_
       refine treeM [4, 5] (by kernel_rfl) rfl ⟨?_, ?_, trivial⟩
       ·refine stepAlloc hK hM 3 25 [.slice none 0 0, .slice none 0 0] (fun b => pA b 0) (by kernel_rfl) (by kernel_rfl) fun b5_4 a w hK hM => ?_
        refine tree_next #[true, true, true, true, true, false, false, false] (by kernel_rfl) ?_
        refine treeM [5] (by kernel_rfl) rfl ⟨?_, trivial⟩
        refine stepAlloc hK hM 4 25 [.slice none 0 0, .slice none 0 0] (fun b => pA b 0) (by kernel_rfl) (by kernel_rfl) fun b5_5 a w hK hM => ?_
        refine tree_next #[true, true, true, true, true, true, false, false] (by kernel_rfl) ?_
        refine treeM [6] (by kernel_rfl) rfl ⟨?_, trivial⟩
        refine stepStore hK hM 1 [.slice q5_1.A1 q5_1.ds.length q5_1.c1, .slice q5_1.A2 q5_1.ts.length q5_1.c2] (by kernel_rfl) rfl rfl rfl rfl (by kernel_rfl) fun w hM => ?_
        replace hM := hM.to (rN b5_5 :: rG b5_4 q5_1 :: rG b1 p :: (G5_1 ++ G5_3)) (by kernel_rfl)
        refine tree_next #[true, true, true, true, true, true, true, false] (by kernel_rfl) ?_
        refine treeM [7] (by kernel_rfl) rfl ⟨?_, trivial⟩
        refine stepStore hK hM 0 [.slice q5_3.A1 q5_3.ds.length q5_3.c1, .slice q5_3.A2 q5_3.ts.length q5_3.c2] (by kernel_rfl) rfl rfl rfl rfl (by kernel_rfl) fun w hM => ?_
        replace hM := hM.to (rG b5_5 q5_3 :: rG b5_4 q5_1 :: rG b1 p :: (G5_1 ++ G5_3)) (by kernel_rfl)
        refine tree_next #[true, true, true, true, true, true, true, true] (by kernel_rfl) ?_
        exact treeE (by kernel_rfl) ⟨G5_1, G5_3, b5_4, b5_5, q5_1, q5_3, hK.sub ⟨rfl, rfl, rfl, rfl, rfl, rfl, rfl, trivial⟩, hM, hd5_1, hd5_3, hr5_1, hr5_3, hs5_1, hs5_3⟩
       ·refine stepAlloc hK hM 4 25 [.slice none 0 0, .slice none 0 0] (fun b => pA b 0) (by kernel_rfl) (by kernel_rfl) fun b5_5 a w hK hM => ?_
        refine tree_next #[true, true, true, true, false, true, false, false] (by kernel_rfl) ?_
        refine treeM [4] (by kernel_rfl) rfl ⟨?_, trivial⟩
        refine stepAlloc hK hM 3 25 [.slice none 0 0, .slice none 0 0] (fun b => pA b 0) (by kernel_rfl) (by kernel_rfl) fun b5_4 a w hK hM => ?_
        refine tree_next #[true, true, true, true, true, true, false, false] (by kernel_rfl) ?_
        refine treeM [6] (by kernel_rfl) rfl ⟨?_, trivial⟩
        refine stepStore hK hM 0 [.slice q5_1.A1 q5_1.ds.length q5_1.c1, .slice q5_1.A2 q5_1.ts.length q5_1.c2] (by kernel_rfl) rfl rfl rfl rfl (by kernel_rfl) fun w hM => ?_
        replace hM := hM.to (rG b5_4 q5_1 :: rN b5_5 :: rG b1 p :: (G5_1 ++ G5_3)) (by kernel_rfl)
        refine tree_next #[true, true, true, true, true, true, true, false] (by kernel_rfl) ?_
        refine treeM [7] (by kernel_rfl) rfl ⟨?_, trivial⟩
        refine stepStore hK hM 1 [.slice q5_3.A1 q5_3.ds.length q5_3.c1, .slice q5_3.A2 q5_3.ts.length q5_3.c2] (by kernel_rfl) rfl rfl rfl rfl (by kernel_rfl) fun w hM => ?_
        replace hM := hM.to (rG b5_4 q5_1 :: rG b5_5 q5_3 :: rG b1 p :: (G5_1 ++ G5_3)) (by kernel_rfl)
        refine tree_next #[true, true, true, true, true, true, true, true] (by kernel_rfl) ?_
        exact treeE (by kernel_rfl) ⟨G5_1, G5_3, b5_4, b5_5, q5_1, q5_3, hK.sub ⟨rfl, rfl, rfl, rfl, rfl, rfl, rfl, trivial⟩, (hM.order [[rG b5_4 q5_1], [rG b5_5 q5_3], [rG b1 p], G5_1, G5_3] [1, 0, 2, 3, 4] 5 rfl (by simp) (by decide) _ (by simp)), hd5_1, hd5_3, hr5_1, hr5_3, hs5_1, hs5_3⟩
      ·refine stepAlloc hK hM 3 25 [.slice none 0 0, .slice none 0 0] (fun b => pA b 0) (by kernel_rfl) (by kernel_rfl) fun b5_4 a w hK hM => ?_
       refine tree_next #[true, true, true, false, true, false, false, false] (by kernel_rfl) ?_
       refine treeM [3, 5] (by kernel_rfl) rfl ⟨?_, ?_, trivial⟩
       ·refine stepCall hK hM 21 #[vG p] (by kernel_rfl) (run_callE en_ast_Copy rfl rfl (by kernel_rfl)) (ast_Copy p _ (hp.on hM.below) hsh2 hsz2 hln2) ?_
        rintro ⟨q5_3, G5_3⟩ a w ⟨hr5_3, hs5_3, hd5_3⟩ hK hM
        replace hM := (Mem.comm hM).to ((rN b5_4 :: rG b1 p :: (G5_1 ++ G5_3))) (by kernel_rfl)
        refine tree_next #[true, true, true, true, true, false, false, false] (by kernel_rfl) ?_
        refine treeM [5] (by kernel_rfl) rfl ⟨?_, trivial⟩
        refine stepAlloc hK hM 4 25 [.slice none 0 0, .slice none 0 0] (fun b => pA b 0) (by kernel_rfl) (by kernel_rfl) fun b5_5 a w hK hM => ?_
        refine tree_next #[true, true, true, true, true, true, false, false] (by kernel_rfl) ?_
        refine treeM [6] (by kernel_rfl) rfl ⟨?_, trivial⟩
        refine stepStore hK hM 1 [.slice q5_1.A1 q5_1.ds.length q5_1.c1, .slice q5_1.A2 q5_1.ts.length q5_1.c2] (by kernel_rfl) rfl rfl rfl rfl (by kernel_rfl) fun w hM => ?_
        replace hM := hM.to (rN b5_5 :: rG b5_4 q5_1 :: rG b1 p :: (G5_1 ++ G5_3)) (by kernel_rfl)
        refine tree_next #[true, true, true, true, true, true, true, false] (by kernel_rfl) ?_
        refine treeM [7] (by kernel_rfl) rfl ⟨?_, trivial⟩
        refine stepStore hK hM 0 [.slice q5_3.A1 q5_3.ds.length q5_3.c1, .slice q5_3.A2 q5_3.ts.length q5_3.c2] (by kernel_rfl) rfl rfl rfl rfl (by kernel_rfl) fun w hM => ?_
        replace hM := hM.to (rG b5_5 q5_3 :: rG b5_4 q5_1 :: rG b1 p :: (G5_1 ++ G5_3)) (by kernel_rfl)
        refine tree_next #[true, true, true, true, true, true, true, true] (by kernel_rfl) ?_
        exact treeE (by kernel_rfl) ⟨G5_1, G5_3, b5_4, b5_5, q5_1, q5_3, hK.sub ⟨rfl, rfl, rfl, rfl, rfl, rfl, rfl, trivial⟩, hM, hd5_1, hd5_3, hr5_1, hr5_3, hs5_1, hs5_3⟩
       ·refine stepAlloc hK hM 4 25 [.slice none 0 0, .slice none 0 0] (fun b => pA b 0) (by kernel_rfl) (by kernel_rfl) fun b5_5 a w hK hM => ?_
        refine tree_next #[true, true, true, false, true, true, false, false] (by kernel_rfl) ?_
        refine treeM [3] (by kernel_rfl) rfl ⟨?_, trivial⟩
        refine stepCall hK hM 21 #[vG p] (by kernel_rfl) (run_callE en_ast_Copy rfl rfl (by kernel_rfl)) (ast_Copy p _ (hp.on hM.below) hsh2 hsz2 hln2) ?_
        rintro ⟨q5_3, G5_3⟩ a w ⟨hr5_3, hs5_3, hd5_3⟩ hK hM
        replace hM := (Mem.comm hM).to ((rN b5_5 :: rN b5_4 :: rG b1 p :: (G5_1 ++ G5_3))) (by kernel_rfl)
        refine tree_next #[true, true, true, true, true, true, false, false] (by kernel_rfl) ?_
        refine treeM [6] (by kernel_rfl) rfl ⟨?_, trivial⟩
        refine stepStore hK hM 1 [.slice q5_1.A1 q5_1.ds.length q5_1.c1, .slice q5_1.A2 q5_1.ts.length q5_1.c2] (by kernel_rfl) rfl rfl rfl rfl (by kernel_rfl) fun w hM => ?_
        replace hM := hM.to (rN b5_5 :: rG b5_4 q5_1 :: rG b1 p :: (G5_1 ++ G5_3)) (by kernel_rfl)
        refine tree_next #[true, true, true, true, true, true, true, false] (by kernel_rfl) ?_
        refine treeM [7] (by kernel_rfl) rfl ⟨?_, trivial⟩
        refine stepStore hK hM 0 [.slice q5_3.A1 q5_3.ds.length q5_3.c1, .slice q5_3.A2 q5_3.ts.length q5_3.c2] (by kernel_rfl) rfl rfl rfl rfl (by kernel_rfl) fun w hM => ?_
        replace hM := hM.to (rG b5_5 q5_3 :: rG b5_4 q5_1 :: rG b1 p :: (G5_1 ++ G5_3)) (by kernel_rfl)
        refine tree_next #[true, true, true, true, true, true, true, true] (by kernel_rfl) ?_
        exact treeE (by kernel_rfl) ⟨G5_1, G5_3, b5_4, b5_5, q5_1, q5_3, hK.sub ⟨rfl, rfl, rfl, rfl, rfl, rfl, rfl, trivial⟩, hM, hd5_1, hd5_3, hr5_1, hr5_3, hs5_1, hs5_3⟩
      ·refine stepAlloc hK hM 4 25 [.slice none 0 0, .slice none 0 0] (fun b => pA b 0) (by kernel_rfl) (by kernel_rfl) fun b5_5 a w hK hM => ?_
       refine tree_next #[true, true, true, false, false, true, false, false] (by kernel_rfl) ?_
       refine treeM [3, 4] (by kernel_rfl) rfl ⟨?_, ?_, trivial⟩
       ·refine stepCall hK hM 21 #[vG p] (by kernel_rfl) (run_callE en_ast_Copy rfl rfl (by kernel_rfl)) (ast_Copy p _ (hp.on hM.below) hsh2 hsz2 hln2) ?_
        rintro ⟨q5_3, G5_3⟩ a w ⟨hr5_3, hs5_3, hd5_3⟩ hK hM
        replace hM := (Mem.comm hM).to ((rN b5_5 :: rG b1 p :: (G5_1 ++ G5_3))) (by kernel_rfl)
        refine tree_next #[true, true, true, true, false, true, false, false] (by kernel_rfl) ?_
        refine treeM [4] (by kernel_rfl) rfl ⟨?_, trivial⟩
        refine stepAlloc hK hM 3 25 [.slice none 0 0, .slice none 0 0] (fun b => pA b 0) (by kernel_rfl) (by kernel_rfl) fun b5_4 a w hK hM => ?_
        refine tree_next #[true, true, true, true, true, true, false, false] (by kernel_rfl) ?_
        refine treeM [6] (by kernel_rfl) rfl ⟨?_, trivial⟩
        refine stepStore hK hM 0 [.slice q5_1.A1 q5_1.ds.length q5_1.c1, .slice q5_1.A2 q5_1.ts.length q5_1.c2] (by kernel_rfl) rfl rfl rfl rfl (by kernel_rfl) fun w hM => ?_
        replace hM := hM.to (rG b5_4 q5_1 :: rN b5_5 :: rG b1 p :: (G5_1 ++ G5_3)) (by kernel_rfl)
        refine tree_next #[true, true, true, true, true, true, true, false] (by kernel_rfl) ?_
        refine treeM [7] (by kernel_rfl) rfl ⟨?_, trivial⟩
        refine stepStore hK hM 1 [.slice q5_3.A1 q5_3.ds.length q5_3.c1, .slice q5_3.A2 q5_3.ts.length q5_3.c2] (by kernel_rfl) rfl rfl rfl rfl (by kernel_rfl) fun w hM => ?_
        replace hM := hM.to (rG b5_4 q5_1 :: rG b5_5 q5_3 :: rG b1 p :: (G5_1 ++ G5_3)) (by kernel_rfl)
        refine tree_next #[true, true, true, true, true, true, true, true] (by kernel_rfl) ?_
        exact treeE (by kernel_rfl) ⟨G5_1, G5_3, b5_4, b5_5, q5_1, q5_3, hK.sub ⟨rfl, rfl, rfl, rfl, rfl, rfl, rfl, trivial⟩, (hM.order [[rG b5_4 q5_1], [rG b5_5 q5_3], [rG b1 p], G5_1, G5_3] [1, 0, 2, 3, 4] 5 rfl (by simp) (by decide) _ (by simp)), hd5_1, hd5_3, hr5_1, hr5_3, hs5_1, hs5_3⟩
       ·refine stepAlloc hK hM 3 25 [.slice none 0 0, .slice none 0 0] (fun b => pA b 0) (by kernel_rfl) (by kernel_rfl) fun b5_4 a w hK hM => ?_
        refine tree_next #[true, true, true, false, true, true, false, false] (by kernel_rfl) ?_
        refine treeM [3] (by kernel_rfl) rfl ⟨?_, trivial⟩
        refine stepCall hK hM 21 #[vG p] (by kernel_rfl) (run_callE en_ast_Copy rfl rfl (by kernel_rfl)) (ast_Copy p _ (hp.on hM.below) hsh2 hsz2 hln2) ?_
        rintro ⟨q5_3, G5_3⟩ a w ⟨hr5_3, hs5_3, hd5_3⟩ hK hM
        replace hM := (Mem.comm hM).to ((rN b5_4 :: rN b5_5 :: rG b1 p :: (G5_1 ++ G5_3))) (by kernel_rfl)
        refine tree_next #[true, true, true, true, true, true, false, false] (by kernel_rfl) ?_
        refine treeM [6] (by kernel_rfl) rfl ⟨?_, trivial⟩
        refine stepStore hK hM 0 [.slice q5_1.A1 q5_1.ds.length q5_1.c1, .slice q5_1.A2 q5_1.ts.length q5_1.c2] (by kernel_rfl) rfl rfl rfl rfl (by kernel_rfl) fun w hM => ?_
        replace hM := hM.to (rG b5_4 q5_1 :: rN b5_5 :: rG b1 p :: (G5_1 ++ G5_3)) (by kernel_rfl)
        refine tree_next #[true, true, true, true, true, true, true, false] (by kernel_rfl) ?_
        refine treeM [7] (by kernel_rfl) rfl ⟨?_, trivial⟩
        refine stepStore hK hM 1 [.slice q5_3.A1 q5_3.ds.length q5_3.c1, .slice q5_3.A2 q5_3.ts.length q5_3.c2] (by kernel_rfl) rfl rfl rfl rfl (by kernel_rfl) fun w hM => ?_
        replace hM := hM.to (rG b5_4 q5_1 :: rG b5_5 q5_3 :: rG b1 p :: (G5_1 ++ G5_3)) (by kernel_rfl)
        refine tree_next #[true, true, true, true, true, true, true, true] (by kernel_rfl) ?_
        exact treeE (by kernel_rfl) ⟨G5_1, G5_3, b5_4, b5_5, q5_1, q5_3, hK.sub ⟨rfl, rfl, rfl, rfl, rfl, rfl, rfl, trivial⟩, (hM.order [[rG b5_4 q5_1], [rG b5_5 q5_3], [rG b1 p], G5_1, G5_3] [1, 0, 2, 3, 4] 5 rfl (by simp) (by decide) _ (by simp)), hd5_1, hd5_3, hr5_1, hr5_3, hs5_1, hs5_3⟩
     ·refine stepAlloc hK hM 3 25 [.slice none 0 0, .slice none 0 0] (fun b => pA b 0) (by kernel_rfl) (by kernel_rfl) fun b5_4 a w hK hM => ?_
      refine tree_next #[true, false, true, false, true, false, false, false] (by kernel_rfl) ?_
      refine treeM [1, 5] (by kernel_rfl) rfl ⟨?_, ?_, trivial⟩
      ·refine stepCall hK hM 19 #[vG p] (by kernel_rfl) (run_callE en_ast_Copy rfl rfl (by kernel_rfl)) (ast_Copy p _ (hp.on hM.below) hsh2 hsz2 hln2) ?_
       rintro ⟨q5_1, G5_1⟩ a w ⟨hr5_1, hs5_1, hd5_1⟩ hK hM
       replace hM := (Mem.comm hM).to ((rN b5_4 :: rG b1 p :: G5_1)) (by kernel_rfl)
       refine tree_next #[true, true, true, false, true, false, false, false] (by kernel_rfl) ?_
       refine treeM [3, 5] (by kernel_rfl) rfl ⟨?_, ?_, trivial⟩
       ·refine stepCall hK hM 21 #[vG p] (by kernel_rfl) (run_callE en_ast_Copy rfl rfl (by kernel_rfl)) (ast_Copy p _ (hp.on hM.below) hsh2 hsz2 hln2) ?_
        rintro ⟨q5_3, G5_3⟩ a w ⟨hr5_3, hs5_3, hd5_3⟩ hK hM
        replace hM := (Mem.comm hM).to ((rN b5_4 :: rG b1 p :: (G5_1 ++ G5_3))) (by kernel_rfl)
        refine tree_next #[true, true, true, true, true, false, false, false] (by kernel_rfl) ?_
        refine treeM [5] (by kernel_rfl) rfl ⟨?_, trivial⟩
        refine stepAlloc hK hM 4 25 [.slice none 0 0, .slice none 0 0] (fun b => pA b 0) (by kernel_rfl) (by kernel_rfl) fun b5_5 a w hK hM => ?_
        refine tree_next #[true, true, true, true, true, true, false, false] (by kernel_rfl) ?_
        refine treeM [6] (by kernel_rfl) rfl ⟨?_, trivial⟩
        refine stepStore hK hM 1 [.slice q5_1.A1 q5_1.ds.length q5_1.c1, .slice q5_1.A2 q5_1.ts.length q5_1.c2] (by kernel_rfl) rfl rfl rfl rfl (by kernel_rfl) fun w hM => ?_
        replace hM := hM.to (rN b5_5 :: rG b5_4 q5_1 :: rG b1 p :: (G5_1 ++ G5_3)) (by kernel_rfl)
        refine tree_next #[true, true, true, true, true, true, true, false] (by kernel_rfl) ?_
        refine treeM [7] (by kernel_rfl) rfl ⟨?_, trivial⟩
        refine stepStore hK hM 0 [.slice q5_3.A1 q5_3.ds.length q5_3.c1, .slice q5_3.A2 q5_3.ts.length q5_3.c2] (by kernel_rfl) rfl rfl rfl rfl (by kernel_rfl) fun w hM => ?_
        replace hM := hM.to (rG b5_5 q5_3 :: rG b5_4 q5_1 :: rG b1 p :: (G5_1 ++ G5_3)) (by kernel_rfl)
        refine tree_next #[true, true, true, true, true, true, true, true] (by kernel_rfl) ?_
        exact treeE (by kernel_rfl) ⟨G5_1, G5_3, b5_4, b5_5, q5_1, q5_3, hK.sub ⟨rfl, rfl, rfl, rfl, rfl, rfl, rfl, trivial⟩, hM, hd5_1, hd5_3, hr5_1, hr5_3, hs5_1, hs5_3⟩
       ·refine stepAlloc hK hM 4 25 [.slice none 0 0, .slice none 0 0] (fun b => pA b 0) (by kernel_rfl) (by kernel_rfl) fun b5_5 a w hK hM => ?_
        refine tree_next #[true, true, true, false, true, true, false, false] (by kernel_rfl) ?_
        refine treeM [3] (by kernel_rfl) rfl ⟨?_, trivial⟩
        refine stepCall hK hM 21 #[vG p] (by kernel_rfl) (run_callE en_ast_Copy rfl rfl (by kernel_rfl)) (ast_Copy p _ (hp.on hM.below) hsh2 hsz2 hln2) ?_
        rintro ⟨q5_3, G5_3⟩ a w ⟨hr5_3, hs5_3, hd5_3⟩ hK hM
        replace hM := (Mem.comm hM).to ((rN b5_5 :: rN b5_4 :: rG b1 p :: (G5_1 ++ G5_3))) (by kernel_rfl)
        refine tree_next #[true, true, true, true, true, true, false, false] (by kernel_rfl) ?_
        refine treeM [6] (by kernel_rfl) rfl ⟨?_, trivial⟩
        refine stepStore hK hM 1 [.slice q5_1.A1 q5_1.ds.length q5_1.c1, .slice q5_1.A2 q5_1.ts.length q5_1.c2] (by kernel_rfl) rfl rfl rfl rfl (by kernel_rfl) fun w hM => ?_
        replace hM := hM.to (rN b5_5 :: rG b5_4 q5_1 :: rG b1 p :: (G5_1 ++ G5_3)) (by kernel_rfl)
        refine tree_next #[true, true, true, true, true, true, true, false] (by kernel_rfl) ?_
        refine treeM [7] (by kernel_rfl) rfl ⟨?_, trivial⟩
        refine stepStore hK hM 0 [.slice q5_3.A1 q5_3.ds.length q5_3.c1, .slice q5_3.A2 q5_3.ts.length q5_3.c2] (by kernel_rfl) rfl rfl rfl rfl (by kernel_rfl) fun w hM => ?_
        replace hM := hM.to (rG b5_5 q5_3 :: rG b5_4 q5_1 :: rG b1 p :: (G5_1 ++ G5_3)) (by kernel_rfl)
        refine tree_next #[true, true, true, true, true, true, true, true] (by kernel_rfl) ?_
        exact treeE (by kernel_rfl) ⟨G5_1, G5_3, b5_4, b5_5, q5_1, q5_3, hK.sub ⟨rfl, rfl, rfl, rfl, rfl, rfl, rfl, trivial⟩, hM, hd5_1, hd5_3, hr5_1, hr5_3, hs5_1, hs5_3⟩
      ·refine stepAlloc hK hM 4 25 [.slice none 0 0, .slice none 0 0] (fun b => pA b 0) (by kernel_rfl) (by kernel_rfl) fun b5_5 a w hK hM => ?_
       refine tree_next #[true, false, true, false, true, true, false, false] (by kernel_rfl) ?_
       refine treeM [1] (by kernel_rfl) rfl ⟨?_, trivial⟩
       refine stepCall hK hM 19 #[vG p] (by kernel_rfl) (run_callE en_ast_Copy rfl rfl (by kernel_rfl)) (ast_Copy p _ (hp.on hM.below) hsh2 hsz2 hln2) ?_
       rintro ⟨q5_1, G5_1⟩ a w ⟨hr5_1, hs5_1, hd5_1⟩ hK hM
       replace hM := (Mem.comm hM).to ((rN b5_5 :: rN b5_4 :: rG b1 p :: G5_1)) (by kernel_rfl)
       refine tree_next #[true, true, true, false, true, true, false, false] (by kernel_rfl) ?_
       refine treeM [3] (by kernel_rfl) rfl ⟨?_, trivial⟩
       refine stepCall hK hM 21 #[vG p] (by kernel_rfl) (run_callE en_ast_Copy rfl rfl (by kernel_rfl)) (ast_Copy p _ (hp.on hM.below) hsh2 hsz2 hln2) ?_
       rintro ⟨q5_3, G5_3⟩ a w ⟨hr5_3, hs5_3, hd5_3⟩ hK hM
       replace hM := (Mem.comm hM).to ((rN b5_5 :: rN b5_4 :: rG b1 p :: (G5_1 ++ G5_3))) (by kernel_rfl)
       refine tree_next #[true, true, true, true, true, true, false, false] (by kernel_rfl) ?_
       refine treeM [6] (by kernel_rfl) rfl ⟨?_, trivial⟩
       refine stepStore hK hM 1 [.slice q5_1.A1 q5_1.ds.length q5_1.c1, .slice q5_1.A2 q5_1.ts.length q5_1.c2] (by kernel_rfl) rfl rfl rfl rfl (by kernel_rfl) fun w hM => ?_
       replace hM := hM.to (rN b5_5 :: rG b5_4 q5_1 :: rG b1 p :: (G5_1 ++ G5_3)) (by kernel_rfl)
       refine tree_next #[true, true, true, true, true, true, true, false] (by kernel_rfl) ?_
       refine treeM [7] (by kernel_rfl) rfl ⟨?_, trivial⟩
       refine stepStore hK hM 0 [.slice q5_3.A1 q5_3.ds.length q5_3.c1, .slice q5_3.A2 q5_3.ts.length q5_3.c2] (by kernel_rfl) rfl rfl rfl rfl (by kernel_rfl) fun w hM => ?_
       replace hM := hM.to (rG b5_5 q5_3 :: rG b5_4 q5_1 :: rG b1 p :: (G5_1 ++ G5_3)) (by kernel_rfl)
       refine tree_next #[true, true, true, true, true, true, true, true] (by kernel_rfl) ?_
       exact treeE (by kernel_rfl) ⟨G5_1, G5_3, b5_4, b5_5, q5_1, q5_3, hK.sub ⟨rfl, rfl, rfl, rfl, rfl, rfl, rfl, trivial⟩, hM, hd5_1, hd5_3, hr5_1, hr5_3, hs5_1, hs5_3⟩
     ·refine stepAlloc hK hM 4 25 [.slice none 0 0, .slice none 0 0] (fun b => pA b 0) (by kernel_rfl) (by kernel_rfl) fun b5_5 a w hK hM => ?_
      refine tree_next #[true, false, true, false, false, true, false, false] (by kernel_rfl) ?_
      refine treeM [1, 4] (by kernel_rfl) rfl ⟨?_, ?_, trivial⟩
      ·refine stepCall hK hM 19 #[vG p] (by kernel_rfl) (run_callE en_ast_Copy rfl rfl (by kernel_rfl)) (ast_Copy p _ (hp.on hM.below) hsh2 hsz2 hln2) ?_
       rintro ⟨q5_1, G5_1⟩ a w ⟨hr5_1, hs5_1, hd5_1⟩ hK hM
       replace hM := (Mem.comm hM).to ((rN b5_5 :: rG b1 p :: G5_1)) (by kernel_rfl)
       refine tree_next #[true, true, true, false, false, true, false, false] (by kernel_rfl) ?_
       refine treeM [3, 4] (by kernel_rfl) rfl ⟨?_, ?_, trivial⟩
       ·refine stepCall hK hM 21 #[vG p] (by kernel_rfl) (run_callE en_ast_Copy rfl rfl (by kernel_rfl)) (ast_Copy p _ (hp.on hM.below) hsh2 hsz2 hln2) ?_
        rintro ⟨q5_3, G5_3⟩ a w ⟨hr5_3, hs5_3, hd5_3⟩ hK hM
        replace hM := (Mem.comm hM).to ((rN b5_5 :: rG b1 p :: (G5_1 ++ G5_3))) (by kernel_rfl)
        refine tree_next #[true, true, true, true, false, true, false, false] (by kernel_rfl) ?_
        refine treeM [4] (by kernel_rfl) rfl ⟨?_, trivial⟩
        refine stepAlloc hK hM 3 25 [.slice none 0 0, .slice none 0 0] (fun b => pA b 0) (by kernel_rfl) (by kernel_rfl) fun b5_4 a w hK hM => ?_
        refine tree_next #[true, true, true, true, true, true, false, false] (by kernel_rfl) ?_
        refine treeM [6] (by kernel_rfl) rfl ⟨?_, trivial⟩
        refine stepStore hK hM 0 [.slice q5_1.A1 q5_1.ds.length q5_1.c1, .slice q5_1.A2 q5_1.ts.length q5_1.c2] (by kernel_rfl) rfl rfl rfl rfl (by kernel_rfl) fun w hM => ?_
        replace hM := hM.to (rG b5_4 q5_1 :: rN b5_5 :: rG b1 p :: (G5_1 ++ G5_3)) (by kernel_rfl)
        refine tree_next #[true, true, true, true, true, true, true, false] (by kernel_rfl) ?_
        refine treeM [7] (by kernel_rfl) rfl ⟨?_, trivial⟩
        refine stepStore hK hM 1 [.slice q5_3.A1 q5_3.ds.length q5_3.c1, .slice q5_3.A2 q5_3.ts.length q5_3.c2] (by kernel_rfl) rfl rfl rfl rfl (by kernel_rfl) fun w hM => ?_
        replace hM := hM.to (rG b5_4 q5_1 :: rG b5_5 q5_3 :: rG b1 p :: (G5_1 ++ G5_3)) (by kernel_rfl)
        refine tree_next #[true, true, true, true, true, true, true, true] (by kernel_rfl) ?_
        exact treeE (by kernel_rfl) ⟨G5_1, G5_3, b5_4, b5_5, q5_1, q5_3, hK.sub ⟨rfl, rfl, rfl, rfl, rfl, rfl, rfl, trivial⟩, (hM.order [[rG b5_4 q5_1], [rG b5_5 q5_3], [rG b1 p], G5_1, G5_3] [1, 0, 2, 3, 4] 5 rfl (by simp) (by decide) _ (by simp)), hd5_1, hd5_3, hr5_1, hr5_3, hs5_1, hs5_3⟩
       ·refine stepAlloc hK hM 3 25 [.slice none 0 0, .slice none 0 0] (fun b => pA b 0) (by kernel_rfl) (by kernel_rfl) fun b5_4 a w hK hM => ?_
        refine tree_next #[true, true, true, false, true, true, false, false] (by kernel_rfl) ?_
        refine treeM [3] (by kernel_rfl) rfl ⟨?_, trivial⟩
        refine stepCall hK hM 21 #[vG p] (by kernel_rfl) (run_callE en_ast_Copy rfl rfl (by kernel_rfl)) (ast_Copy p _ (hp.on hM.below) hsh2 hsz2 hln2) ?_
        rintro ⟨q5_3, G5_3⟩ a w ⟨hr5_3, hs5_3, hd5_3⟩ hK hM
        replace hM := (Mem.comm hM).to ((rN b5_4 :: rN b5_5 :: rG b1 p :: (G5_1 ++ G5_3))) (by kernel_rfl)
        refine tree_next #[true, true, true, true, true, true, false, false] (by kernel_rfl) ?_
        refine treeM [6] (by kernel_rfl) rfl ⟨?_, trivial⟩
        refine stepStore hK hM 0 [.slice q5_1.A1 q5_1.ds.length q5_1.c1, .slice q5_1.A2 q5_1.ts.length q5_1.c2] (by kernel_rfl) rfl rfl rfl rfl (by kernel_rfl) fun w hM => ?_
        replace hM := hM.to (rG b5_4 q5_1 :: rN b5_5 :: rG b1 p :: (G5_1 ++ G5_3)) (by kernel_rfl)
        refine tree_next #[true, true, true, true, true, true, true, false] (by kernel_rfl) ?_
        refine treeM [7] (by kernel_rfl) rfl ⟨?_, trivial⟩
        refine stepStore hK hM 1 [.slice q5_3.A1 q5_3.ds.length q5_3.c1, .slice q5_3.A2 q5_3.ts.length q5_3.c2] (by kernel_rfl) rfl rfl rfl rfl (by kernel_rfl) fun w hM => ?_
        replace hM := hM.to (rG b5_4 q5_1 :: rG b5_5 q5_3 :: rG b1 p :: (G5_1 ++ G5_3)) (by kernel_rfl)
        refine tree_next #[true, true, true, true, true, true, true, true] (by kernel_rfl) ?_
        exact treeE (by kernel_rfl) ⟨G5_1, G5_3, b5_4, b5_5, q5_1, q5_3, hK.sub ⟨rfl, rfl, rfl, rfl, rfl, rfl, rfl, trivial⟩, (hM.order [[rG b5_4 q5_1], [rG b5_5 q5_3], [rG b1 p], G5_1, G5_3] [1, 0, 2, 3, 4] 5 rfl (by simp) (by decide) _ (by simp)), hd5_1, hd5_3, hr5_1, hr5_3, hs5_1, hs5_3⟩
      ·refine stepAlloc hK hM 3 25 [.slice none 0 0, .slice none 0 0] (fun b => pA b 0) (by kernel_rfl) (by kernel_rfl) fun b5_4 a w hK hM => ?_
       refine tree_next #[true, false, true, false, true, true, false, false] (by kernel_rfl) ?_
       refine treeM [1] (by kernel_rfl) rfl ⟨?_, trivial⟩
       refine stepCall hK hM 19 #[vG p] (by kernel_rfl) (run_callE en_ast_Copy rfl rfl (by kernel_rfl)) (ast_Copy p _ (hp.on hM.below) hsh2 hsz2 hln2) ?_
       rintro ⟨q5_1, G5_1⟩ a w ⟨hr5_1, hs5_1, hd5_1⟩ hK hM
       replace hM := (Mem.comm hM).to ((rN b5_4 :: rN b5_5 :: rG b1 p :: G5_1)) (by kernel_rfl)
       refine tree_next #[true, true, true, false, true, true, false, false] (by kernel_rfl) ?_
       refine treeM [3] (by kernel_rfl) rfl ⟨?_, trivial⟩
       refine stepCall hK hM 21 #[vG p] (by kernel_rfl) (run_callE en_ast_Copy rfl rfl (by kernel_rfl)) (ast_Copy p _ (hp.on hM.below) hsh2 hsz2 hln2) ?_
       rintro ⟨q5_3, G5_3⟩ a w ⟨hr5_3, hs5_3, hd5_3⟩ hK hM
       replace hM := (Mem.comm hM).to ((rN b5_4 :: rN b5_5 :: rG b1 p :: (G5_1 ++ G5_3))) (by kernel_rfl)
       refine tree_next #[true, true, true, true, true, true, false, false] (by kernel_rfl) ?_
       refine treeM [6] (by kernel_rfl) rfl ⟨?_, trivial⟩
       refine stepStore hK hM 0 [.slice q5_1.A1 q5_1.ds.length q5_1.c1, .slice q5_1.A2 q5_1.ts.length q5_1.c2] (by kernel_rfl) rfl rfl rfl rfl (by kernel_rfl) fun w hM => ?_
       replace hM := hM.to (rG b5_4 q5_1 :: rN b5_5 :: rG b1 p :: (G5_1 ++ G5_3)) (by kernel_rfl)
       refine tree_next #[true, true, true, true, true, true, true, false] (by kernel_rfl) ?_
       refine treeM [7] (by kernel_rfl) rfl ⟨?_, trivial⟩
       refine stepStore hK hM 1 [.slice q5_3.A1 q5_3.ds.length q5_3.c1, .slice q5_3.A2 q5_3.ts.length q5_3.c2] (by kernel_rfl) rfl rfl rfl rfl (by kernel_rfl) fun w hM => ?_
       replace hM := hM.to (rG b5_4 q5_1 :: rG b5_5 q5_3 :: rG b1 p :: (G5_1 ++ G5_3)) (by kernel_rfl)
       refine tree_next #[true, true, true, true, true, true, true, true] (by kernel_rfl) ?_
       exact treeE (by kernel_rfl) ⟨G5_1, G5_3, b5_4, b5_5, q5_1, q5_3, hK.sub ⟨rfl, rfl, rfl, rfl, rfl, rfl, rfl, trivial⟩, (hM.order [[rG b5_4 q5_1], [rG b5_5 q5_3], [rG b1 p], G5_1, G5_3] [1, 0, 2, 3, 4] 5 rfl (by simp) (by decide) _ (by simp)), hd5_1, hd5_3, hr5_1, hr5_3, hs5_1, hs5_3⟩
    ·refine stepAlloc hK hM 3 25 [.slice none 0 0, .slice none 0 0] (fun b => pA b 0) (by kernel_rfl) (by kernel_rfl) fun b5_4 a w hK hM => ?_
     refine tree_next #[false, false, true, false, true, false, false, false] (by kernel_rfl) ?_
     refine treeM [0, 5] (by kernel_rfl) rfl ⟨?_, ?_, trivial⟩
     ·refine stepLoad hK 18 (vG p) (by kernel_rfl) rfl rfl ((hM.row 1 rfl).cells 0 2) (by kernel_rfl) fun a hK => ?_
      refine tree_next #[true, false, true, false, true, false, false, false] (by kernel_rfl) ?_
      refine treeM [1, 5] (by kernel_rfl) rfl ⟨?_, ?_, trivial⟩
      ·refine stepCall hK hM 19 #[vG p] (by kernel_rfl) (run_callE en_ast_Copy rfl rfl (by kernel_rfl)) (ast_Copy p _ (hp.on hM.below) hsh2 hsz2 hln2) ?_
       rintro ⟨q5_1, G5_1⟩ a w ⟨hr5_1, hs5_1, hd5_1⟩ hK hM
       replace hM := (Mem.comm hM).to ((rN b5_4 :: rG b1 p :: G5_1)) (by kernel_rfl)
       refine tree_next #[true, true, true, false, true, false, false, false] (by kernel_rfl) ?_
       refine treeM [3, 5] (by kernel_rfl) rfl ⟨?_, ?_, trivial⟩
       ·refine stepCall hK hM 21 #[vG p] (by kernel_rfl) (run_callE en_ast_Copy rfl rfl (by kernel_rfl)) (ast_Copy p _ (hp.on hM.below) hsh2 hsz2 hln2) ?_
        rintro ⟨q5_3, G5_3⟩ a w ⟨hr5_3, hs5_3, hd5_3⟩ hK hM
        replace hM := (Mem.comm hM).to ((rN b5_4 :: rG b1 p :: (G5_1 ++ G5_3))) (by kernel_rfl)
        refine tree_next #[true, true, true, true, true, false, false, false] (by kernel_rfl) ?_
        refine treeM [5] (by kernel_rfl) rfl ⟨?_, trivial⟩
        refine stepAlloc hK hM 4 25 [.slice none 0 0, .slice none 0 0] (fun b => pA b 0) (by kernel_rfl) (by kernel_rfl) fun b5_5 a w hK hM => ?_
        refine tree_next #[true, true, true, true, true, true, false, false] (by kernel_rfl) ?_
        refine treeM [6] (by kernel_rfl) rfl ⟨?_, trivial⟩
        refine stepStore hK hM 1 [.slice q5_1.A1 q5_1.ds.length q5_1.c1, .slice q5_1.A2 q5_1.ts.length q5_1.c2] (by kernel_rfl) rfl rfl rfl rfl (by kernel_rfl) fun w hM => ?_
        replace hM := hM.to (rN b5_5 :: rG b5_4 q5_1 :: rG b1 p :: (G5_1 ++ G5_3)) (by kernel_rfl)
        refine tree_next #[true, true, true, true, true, true, true, false] (by kernel_rfl) ?_
        refine treeM [7] (by kernel_rfl) rfl ⟨?_, trivial⟩
        refine stepStore hK hM 0 [.slice q5_3.A1 q5_3.ds.length q5_3.c1, .slice q5_3.A2 q5_3.ts.length q5_3.c2] (by kernel_rfl) rfl rfl rfl rfl (by kernel_rfl) fun w hM => ?_
        replace hM := hM.to (rG b5_5 q5_3 :: rG b5_4 q5_1 :: rG b1 p :: (G5_1 ++ G5_3)) (by kernel_rfl)
        refine tree_next #[true, true, true, true, true, true, true, true] (by kernel_rfl) ?_
        exact treeE (by kernel_rfl) ⟨G5_1, G5_3, b5_4, b5_5, q5_1, q5_3, hK.sub ⟨rfl, rfl, rfl, rfl, rfl, rfl, rfl, trivial⟩, hM, hd5_1, hd5_3, hr5_1, hr5_3, hs5_1, hs5_3⟩
       ·refine stepAlloc hK hM 4 25 [.slice none 0 0, .slice none 0 0] (fun b => pA b 0) (by kernel_rfl) (by kernel_rfl) fun b5_5 a w hK hM => ?_
        refine tree_next #[true, true, true, false, true, true, false, false] (by kernel_rfl) ?_
        refine treeM [3] (by kernel_rfl) rfl ⟨?_, trivial⟩
        refine stepCall hK hM 21 #[vG p] (by kernel_rfl) (run_callE en_ast_Copy rfl rfl (by kernel_rfl)) (ast_Copy p _ (hp.on hM.below) hsh2 hsz2 hln2) ?_
        rintro ⟨q5_3, G5_3⟩ a w ⟨hr5_3, hs5_3, hd5_3⟩ hK hM
        replace hM := (Mem.comm hM).to ((rN b5_5 :: rN b5_4 :: rG b1 p :: (G5_1 ++ G5_3))) (by kernel_rfl)
        refine tree_next #[true, true, true, true, true, true, false, false] (by kernel_rfl) ?_
        refine treeM [6] (by kernel_rfl) rfl ⟨?_, trivial⟩
        refine stepStore hK hM 1 [.slice q5_1.A1 q5_1.ds.length q5_1.c1, .slice q5_1.A2 q5_1.ts.length q5_1.c2] (by kernel_rfl) rfl rfl rfl rfl (by kernel_rfl) fun w hM => ?_
        replace hM := hM.to (rN b5_5 :: rG b5_4 q5_1 :: rG b1 p :: (G5_1 ++ G5_3)) (by kernel_rfl)
        refine tree_next #[true, true, true, true, true, true, true, false] (by kernel_rfl) ?_
        refine treeM [7] (by kernel_rfl) rfl ⟨?_, trivial⟩
        refine stepStore hK hM 0 [.slice q5_3.A1 q5_3.ds.length q5_3.c1, .slice q5_3.A2 q5_3.ts.length q5_3.c2] (by kernel_rfl) rfl rfl rfl rfl (by kernel_rfl) fun w hM => ?_
        replace hM := hM.to (rG b5_5 q5_3 :: rG b5_4 q5_1 :: rG b1 p :: (G5_1 ++ G5_3)) (by kernel_rfl)
        refine tree_next #[true, true, true, true, true, true, true, true] (by kernel_rfl) ?_
        exact treeE (by kernel_rfl) ⟨G5_1, G5_3, b5_4, b5_5, q5_1, q5_3, hK.sub ⟨rfl, rfl, rfl, rfl, rfl, rfl, rfl, trivial⟩, hM, hd5_1, hd5_3, hr5_1, hr5_3, hs5_1, hs5_3⟩
      ·refine stepAlloc hK hM 4 25 [.slice none 0 0, .slice none 0 0] (fun b => pA b 0) (by kernel_rfl) (by kernel_rfl) fun b5_5 a w hK hM => ?_
       refine tree_next #[true, false, true, false, true, true, false, false] (by kernel_rfl) ?_
       refine treeM [1] (by kernel_rfl) rfl ⟨?_, trivial⟩
       refine stepCall hK hM 19 #[vG p] (by kernel_rfl) (run_callE en_ast_Copy rfl rfl (by kernel_rfl)) (ast_Copy p _ (hp.on hM.below) hsh2 hsz2 hln2) ?_
       rintro ⟨q5_1, G5_1⟩ a w ⟨hr5_1, hs5_1, hd5_1⟩ hK hM
       replace hM := (Mem.comm hM).to ((rN b5_5 :: rN b5_4 :: rG b1 p :: G5_1)) (by kernel_rfl)
       refine tree_next #[true, true, true, false, true, true, false, false] (by kernel_rfl) ?_
       refine treeM [3] (by kernel_rfl) rfl ⟨?_, trivial⟩
       refine stepCall hK hM 21 #[vG p] (by kernel_rfl) (run_callE en_ast_Copy rfl rfl (by kernel_rfl)) (ast_Copy p _ (hp.on hM.below) hsh2 hsz2 hln2) ?_
       rintro ⟨q5_3, G5_3⟩ a w ⟨hr5_3, hs5_3, hd5_3⟩ hK hM
       replace hM := (Mem.comm hM).to ((rN b5_5 :: rN b5_4 :: rG b1 p :: (G5_1 ++ G5_3))) (by kernel_rfl)
       refine tree_next #[true, true, true, true, true, true, false, false] (by kernel_rfl) ?_
       refine treeM [6] (by kernel_rfl) rfl ⟨?_, trivial⟩
       refine stepStore hK hM 1 [.slice q5_1.A1 q5_1.ds.length q5_1.c1, .slice q5_1.A2 q5_1.ts.length q5_1.c2] (by kernel_rfl) rfl rfl rfl rfl (by kernel_rfl) fun w hM => ?_
       replace hM := hM.to (rN b5_5 :: rG b5_4 q5_1 :: rG b1 p :: (G5_1 ++ G5_3)) (by kernel_rfl)
       refine tree_next #[true, true, true, true, true, true, true, false] (by kernel_rfl) ?_
       refine treeM [7] (by kernel_rfl) rfl ⟨?_, trivial⟩
       refine stepStore hK hM 0 [.slice q5_3.A1 q5_3.ds.length q5_3.c1, .slice q5_3.A2 q5_3.ts.length q5_3.c2] (by kernel_rfl) rfl rfl rfl rfl (by kernel_rfl) fun w hM => ?_
       replace hM := hM.to (rG b5_5 q5_3 :: rG b5_4 q5_1 :: rG b1 p :: (G5_1 ++ G5_3)) (by kernel_rfl)
       refine tree_next #[true, true, true, true, true, true, true, true] (by kernel_rfl) ?_
       exact treeE (by kernel_rfl) ⟨G5_1, G5_3, b5_4, b5_5, q5_1, q5_3, hK.sub ⟨rfl, rfl, rfl, rfl, rfl, rfl, rfl, trivial⟩, hM, hd5_1, hd5_3, hr5_1, hr5_3, hs5_1, hs5_3⟩
     ·refine stepAlloc hK hM 4 25 [.slice none 0 0, .slice none 0 0] (fun b => pA b 0) (by kernel_rfl) (by kernel_rfl) fun b5_5 a w hK hM => ?_
      refine tree_next #[false, false, true, false, true, true, false, false] (by kernel_rfl) ?_
      refine treeM [0] (by kernel_rfl) rfl ⟨?_, trivial⟩
      refine stepLoad hK 18 (vG p) (by kernel_rfl) rfl rfl ((hM.row 2 rfl).cells 0 2) (by kernel_rfl) fun a hK => ?_
      refine tree_next #[true, false, true, false, true, true, false, false] (by kernel_rfl) ?_
      refine treeM [1] (by kernel_rfl) rfl ⟨?_, trivial⟩
      refine stepCall hK hM 19 #[vG p] (by kernel_rfl) (run_callE en_ast_Copy rfl rfl (by kernel_rfl)) (ast_Copy p _ (hp.on hM.below) hsh2 hsz2 hln2) ?_
      rintro ⟨q5_1, G5_1⟩ a w ⟨hr5_1, hs5_1, hd5_1⟩ hK hM
      replace hM := (Mem.comm hM).to ((rN b5_5 :: rN b5_4 :: rG b1 p :: G5_1)) (by kernel_rfl)
      refine tree_next #[true, true, true, false, true, true, false, false] (by kernel_rfl) ?_
      refine treeM [3] (by kernel_rfl) rfl ⟨?_, trivial⟩
      refine stepCall hK hM 21 #[vG p] (by kernel_rfl) (run_callE en_ast_Copy rfl rfl (by kernel_rfl)) (ast_Copy p _ (hp.on hM.below) hsh2 hsz2 hln2) ?_
      rintro ⟨q5_3, G5_3⟩ a w ⟨hr5_3, hs5_3, hd5_3⟩ hK hM
      replace hM := (Mem.comm hM).to ((rN b5_5 :: rN b5_4 :: rG b1 p :: (G5_1 ++ G5_3))) (by kernel_rfl)
      refine tree_next #[true, true, true, true, true, true, false, false] (by kernel_rfl) ?_
      refine treeM [6] (by kernel_rfl) rfl ⟨?_, trivial⟩
      refine stepStore hK hM 1 [.slice q5_1.A1 q5_1.ds.length q5_1.c1, .slice q5_1.A2 q5_1.ts.length q5_1.c2] (by kernel_rfl) rfl rfl rfl rfl (by kernel_rfl) fun w hM => ?_
      replace hM := hM.to (rN b5_5 :: rG b5_4 q5_1 :: rG b1 p :: (G5_1 ++ G5_3)) (by kernel_rfl)
      refine tree_next #[true, true, true, true, true, true, true, false] (by kernel_rfl) ?_
      refine treeM [7] (by kernel_rfl) rfl ⟨?_, trivial⟩
      refine stepStore hK hM 0 [.slice q5_3.A1 q5_3.ds.length q5_3.c1, .slice q5_3.A2 q5_3.ts.length q5_3.c2] (by kernel_rfl) rfl rfl rfl rfl (by kernel_rfl) fun w hM => ?_
      replace hM := hM.to (rG b5_5 q5_3 :: rG b5_4 q5_1 :: rG b1 p :: (G5_1 ++ G5_3)) (by kernel_rfl)
      refine tree_next #[true, true, true, true, true, true, true, true] (by kernel_rfl) ?_
      exact treeE (by kernel_rfl) ⟨G5_1, G5_3, b5_4, b5_5, q5_1, q5_3, hK.sub ⟨rfl, rfl, rfl, rfl, rfl, rfl, rfl, trivial⟩, hM, hd5_1, hd5_3, hr5_1, hr5_3, hs5_1, hs5_3⟩
    ·refine stepAlloc hK hM 4 25 [.slice none 0 0, .slice none 0 0] (fun b => pA b 0) (by kernel_rfl) (by kernel_rfl) fun b5_5 a w hK hM => ?_
     refine tree_next #[false, false, true, false, false, true, false, false] (by kernel_rfl) ?_
     refine treeM [0, 4] (by kernel_rfl) rfl ⟨?_, ?_, trivial⟩
     ·refine stepLoad hK 18 (vG p) (by kernel_rfl) rfl rfl ((hM.row 1 rfl).cells 0 2) (by kernel_rfl) fun a hK => ?_
      refine tree_next #[true, false, true, false, false, true, false, false] (by kernel_rfl) ?_
      refine treeM [1, 4] (by kernel_rfl) rfl ⟨?_, ?_, trivial⟩
      ·refine stepCall hK hM 19 #[vG p] (by kernel_rfl) (run_callE en_ast_Copy rfl rfl (by kernel_rfl)) (ast_Copy p _ (hp.on hM.below) hsh2 hsz2 hln2) ?_
       rintro ⟨q5_1, G5_1⟩ a w ⟨hr5_1, hs5_1, hd5_1⟩ hK hM
       replace hM := (Mem.comm hM).to ((rN b5_5 :: rG b1 p :: G5_1)) (by kernel_rfl)
       refine tree_next #[true, true, true, false, false, true, false, false] (by kernel_rfl) ?_
       refine treeM [3, 4] (by kernel_rfl) rfl ⟨?_, ?_, trivial⟩
       ·refine stepCall hK hM 21 #[vG p] (by kernel_rfl) (run_callE en_ast_Copy rfl rfl (by kernel_rfl)) (ast_Copy p _ (hp.on hM.below) hsh2 hsz2 hln2) ?_
        rintro ⟨q5_3, G5_3⟩ a w ⟨hr5_3, hs5_3, hd5_3⟩ hK hM
        replace hM := (Mem.comm hM).to ((rN b5_5 :: rG b1 p :: (G5_1 ++ G5_3))) (by kernel_rfl)
        refine tree_next #[true, true, true, true, false, true, false, false] (by kernel_rfl) ?_
        refine treeM [4] (by kernel_rfl) rfl ⟨?_, trivial⟩
        refine stepAlloc hK hM 3 25 [.slice none 0 0, .slice none 0 0] (fun b => pA b 0) (by kernel_rfl) (by kernel_rfl) fun b5_4 a w hK hM => ?_
        refine tree_next #[true, true, true, true, true, true, false, false] (by kernel_rfl) ?_
        refine treeM [6] (by kernel_rfl) rfl ⟨?_, trivial⟩
        refine stepStore hK hM 0 [.slice q5_1.A1 q5_1.ds.length q5_1.c1, .slice q5_1.A2 q5_1.ts.length q5_1.c2] (by kernel_rfl) rfl rfl rfl rfl (by kernel_rfl) fun w hM => ?_
        replace hM := hM.to (rG b5_4 q5_1 :: rN b5_5 :: rG b1 p :: (G5_1 ++ G5_3)) (by kernel_rfl)
        refine tree_next #[true, true, true, true, true, true, true, false] (by kernel_rfl) ?_
        refine treeM [7] (by kernel_rfl) rfl ⟨?_, trivial⟩
        refine stepStore hK hM 1 [.slice q5_3.A1 q5_3.ds.length q5_3.c1, .slice q5_3.A2 q5_3.ts.length q5_3.c2] (by kernel_rfl) rfl rfl rfl rfl (by kernel_rfl) fun w hM => ?_
        replace hM := hM.to (rG b5_4 q5_1 :: rG b5_5 q5_3 :: rG b1 p :: (G5_1 ++ G5_3)) (by kernel_rfl)
        refine tree_next #[true, true, true, true, true, true, true, true] (by kernel_rfl) ?_
        exact treeE (by kernel_rfl) ⟨G5_1, G5_3, b5_4, b5_5, q5_1, q5_3, hK.sub ⟨rfl, rfl, rfl, rfl, rfl, rfl, rfl, trivial⟩, (hM.order [[rG b5_4 q5_1], [rG b5_5 q5_3], [rG b1 p], G5_1, G5_3] [1, 0, 2, 3, 4] 5 rfl (by simp) (by decide) _ (by simp)), hd5_1, hd5_3, hr5_1, hr5_3, hs5_1, hs5_3⟩
       ·refine stepAlloc hK hM 3 25 [.slice none 0 0, .slice none 0 0] (fun b => pA b 0) (by kernel_rfl) (by kernel_rfl) fun b5_4 a w hK hM => ?_
        refine tree_next #[true, true, true, false, true, true, false, false] (by kernel_rfl) ?_
        refine treeM [3] (by kernel_rfl) rfl ⟨?_, trivial⟩
        refine stepCall hK hM 21 #[vG p] (by kernel_rfl) (run_callE en_ast_Copy rfl rfl (by kernel_rfl)) (ast_Copy p _ (hp.on hM.below) hsh2 hsz2 hln2) ?_
        rintro ⟨q5_3, G5_3⟩ a w ⟨hr5_3, hs5_3, hd5_3⟩ hK hM
        replace hM := (Mem.comm hM).to ((rN b5_4 :: rN b5_5 :: rG b1 p :: (G5_1 ++ G5_3))) (by kernel_rfl)
        refine tree_next #[true, true, true, true, true, true, false, false] (by kernel_rfl) ?_
        refine treeM [6] (by kernel_rfl) rfl ⟨?_, trivial⟩
        refine stepStore hK hM 0 [.slice q5_1.A1 q5_1.ds.length q5_1.c1, .slice q5_1.A2 q5_1.ts.length q5_1.c2] (by kernel_rfl) rfl rfl rfl rfl (by kernel_rfl) fun w hM => ?_
        replace hM := hM.to (rG b5_4 q5_1 :: rN b5_5 :: rG b1 p :: (G5_1 ++ G5_3)) (by kernel_rfl)
        refine tree_next #[true, true, true, true, true, true, true, false] (by kernel_rfl) ?_
        refine treeM [7] (by kernel_rfl) rfl ⟨?_, trivial⟩
        refine stepStore hK hM 1 [.slice q5_3.A1 q5_3.ds.length q5_3.c1, .slice q5_3.A2 q5_3.ts.length q5_3.c2] (by kernel_rfl) rfl rfl rfl rfl (by kernel_rfl) fun w hM => ?_
        replace hM := hM.to (rG b5_4 q5_1 :: rG b5_5 q5_3 :: rG b1 p :: (G5_1 ++ G5_3)) (by kernel_rfl)
        refine tree_next #[true, true, true, true, true, true, true, true] (by kernel_rfl) ?_
        exact treeE (by kernel_rfl) ⟨G5_1, G5_3, b5_4, b5_5, q5_1, q5_3, hK.sub ⟨rfl, rfl, rfl, rfl, rfl, rfl, rfl, trivial⟩, (hM.order [[rG b5_4 q5_1], [rG b5_5 q5_3], [rG b1 p], G5_1, G5_3] [1, 0, 2, 3, 4] 5 rfl (by simp) (by decide) _ (by simp)), hd5_1, hd5_3, hr5_1, hr5_3, hs5_1, hs5_3⟩
      ·refine stepAlloc hK hM 3 25 [.slice none 0 0, .slice none 0 0] (fun b => pA b 0) (by kernel_rfl) (by kernel_rfl) fun b5_4 a w hK hM => ?_
       refine tree_next #[true, false, true, false, true, true, false, false] (by kernel_rfl) ?_
       refine treeM [1] (by kernel_rfl) rfl ⟨?_, trivial⟩
       refine stepCall hK hM 19 #[vG p] (by kernel_rfl) (run_callE en_ast_Copy rfl rfl (by kernel_rfl)) (ast_Copy p _ (hp.on hM.below) hsh2 hsz2 hln2) ?_
       rintro ⟨q5_1, G5_1⟩ a w ⟨hr5_1, hs5_1, hd5_1⟩ hK hM
       replace hM := (Mem.comm hM).to ((rN b5_4 :: rN b5_5 :: rG b1 p :: G5_1)) (by kernel_rfl)
       refine tree_next #[true, true, true, false, true, true, false, false] (by kernel_rfl) ?_
       refine treeM [3] (by kernel_rfl) rfl ⟨?_, trivial⟩
       refine stepCall hK hM 21 #[vG p] (by kernel_rfl) (run_callE en_ast_Copy rfl rfl (by kernel_rfl)) (ast_Copy p _ (hp.on hM.below) hsh2 hsz2 hln2) ?_
       rintro ⟨q5_3, G5_3⟩ a w ⟨hr5_3, hs5_3, hd5_3⟩ hK hM
       replace hM := (Mem.comm hM).to ((rN b5_4 :: rN b5_5 :: rG b1 p :: (G5_1 ++ G5_3))) (by kernel_rfl)
       refine tree_next #[true, true, true, true, true, true, false, false] (by kernel_rfl) ?_
       refine treeM [6] (by kernel_rfl) rfl ⟨?_, trivial⟩
       refine stepStore hK hM 0 [.slice q5_1.A1 q5_1.ds.length q5_1.c1, .slice q5_1.A2 q5_1.ts.length q5_1.c2] (by kernel_rfl) rfl rfl rfl rfl (by kernel_rfl) fun w hM => ?_
       replace hM := hM.to (rG b5_4 q5_1 :: rN b5_5 :: rG b1 p :: (G5_1 ++ G5_3)) (by kernel_rfl)
       refine tree_next #[true, true, true, true, true, true, true, false] (by kernel_rfl) ?_
       refine treeM [7] (by kernel_rfl) rfl ⟨?_, trivial⟩
       refine stepStore hK hM 1 [.slice q5_3.A1 q5_3.ds.length q5_3.c1, .slice q5_3.A2 q5_3.ts.length q5_3.c2] (by kernel_rfl) rfl rfl rfl rfl (by kernel_rfl) fun w hM => ?_
       replace hM := hM.to (rG b5_4 q5_1 :: rG b5_5 q5_3 :: rG b1 p :: (G5_1 ++ G5_3)) (by kernel_rfl)
       refine tree_next #[true, true, true, true, true, true, true, true] (by kernel_rfl) ?_
       exact treeE (by kernel_rfl) ⟨G5_1, G5_3, b5_4, b5_5, q5_1, q5_3, hK.sub ⟨rfl, rfl, rfl, rfl, rfl, rfl, rfl, trivial⟩, (hM.order [[rG b5_4 q5_1], [rG b5_5 q5_3], [rG b1 p], G5_1, G5_3] [1, 0, 2, 3, 4] 5 rfl (by simp) (by decide) _ (by simp)), hd5_1, hd5_3, hr5_1, hr5_3, hs5_1, hs5_3⟩
     ·refine stepAlloc hK hM 3 25 [.slice none 0 0, .slice none 0 0] (fun b => pA b 0) (by kernel_rfl) (by kernel_rfl) fun b5_4 a w hK hM => ?_
      refine tree_next #[false, false, true, false, true, true, false, false] (by kernel_rfl) ?_
      refine treeM [0] (by kernel_rfl) rfl ⟨?_, trivial⟩
      refine stepLoad hK 18 (vG p) (by kernel_rfl) rfl rfl ((hM.row 2 rfl).cells 0 2) (by kernel_rfl) fun a hK => ?_
      refine tree_next #[true, false, true, false, true, true, false, false] (by kernel_rfl) ?_
      refine treeM [1] (by kernel_rfl) rfl ⟨?_, trivial⟩
      refine stepCall hK hM 19 #[vG p] (by kernel_rfl) (run_callE en_ast_Copy rfl rfl (by kernel_rfl)) (ast_Copy p _ (hp.on hM.below) hsh2 hsz2 hln2) ?_
      rintro ⟨q5_1, G5_1⟩ a w ⟨hr5_1, hs5_1, hd5_1⟩ hK hM
      replace hM := (Mem.comm hM).to ((rN b5_4 :: rN b5_5 :: rG b1 p :: G5_1)) (by kernel_rfl)
      refine tree_next #[true, true, true, false, true, true, false, false] (by kernel_rfl) ?_
      refine treeM [3] (by kernel_rfl) rfl ⟨?_, trivial⟩
      refine stepCall hK hM 21 #[vG p] (by kernel_rfl) (run_callE en_ast_Copy rfl rfl (by kernel_rfl)) (ast_Copy p _ (hp.on hM.below) hsh2 hsz2 hln2) ?_
      rintro ⟨q5_3, G5_3⟩ a w ⟨hr5_3, hs5_3, hd5_3⟩ hK hM
      replace hM := (Mem.comm hM).to ((rN b5_4 :: rN b5_5 :: rG b1 p :: (G5_1 ++ G5_3))) (by kernel_rfl)
      refine tree_next #[true, true, true, true, true, true, false, false] (by kernel_rfl) ?_
      refine treeM [6] (by kernel_rfl) rfl ⟨?_, trivial⟩
      refine stepStore hK hM 0 [.slice q5_1.A1 q5_1.ds.length q5_1.c1, .slice q5_1.A2 q5_1.ts.length q5_1.c2] (by kernel_rfl) rfl rfl rfl rfl (by kernel_rfl) fun w hM => ?_
      replace hM := hM.to (rG b5_4 q5_1 :: rN b5_5 :: rG b1 p :: (G5_1 ++ G5_3)) (by kernel_rfl)
      refine tree_next #[true, true, true, true, true, true, true, false] (by kernel_rfl) ?_
      refine treeM [7] (by kernel_rfl) rfl ⟨?_, trivial⟩
      refine stepStore hK hM 1 [.slice q5_3.A1 q5_3.ds.length q5_3.c1, .slice q5_3.A2 q5_3.ts.length q5_3.c2] (by kernel_rfl) rfl rfl rfl rfl (by kernel_rfl) fun w hM => ?_
      replace hM := hM.to (rG b5_4 q5_1 :: rG b5_5 q5_3 :: rG b1 p :: (G5_1 ++ G5_3)) (by kernel_rfl)
      refine tree_next #[true, true, true, true, true, true, true, true] (by kernel_rfl) ?_
      exact treeE (by kernel_rfl) ⟨G5_1, G5_3, b5_4, b5_5, q5_1, q5_3, hK.sub ⟨rfl, rfl, rfl, rfl, rfl, rfl, rfl, trivial⟩, (hM.order [[rG b5_4 q5_1], [rG b5_5 q5_3], [rG b1 p], G5_1, G5_3] [1, 0, 2, 3, 4] 5 rfl (by simp) (by decide) _ (by simp)), hd5_1, hd5_3, hr5_1, hr5_3, hs5_1, hs5_3⟩
   ·refine stepAlloc hK hM 3 25 [.slice none 0 0, .slice none 0 0] (fun b => pA b 0) (by kernel_rfl) (by kernel_rfl) fun b5_4 a w hK hM => ?_
    refine tree_next #[false, false, false, false, true, false, false, false] (by kernel_rfl) ?_
    refine treeM [0, 2, 5] (by kernel_rfl) rfl ⟨?_, ?_, ?_, trivial⟩
    ·refine stepLoad hK 18 (vG p) (by kernel_rfl) rfl rfl ((hM.row 1 rfl).cells 0 2) (by kernel_rfl) fun a hK => ?_
     refine tree_next #[true, false, false, false, true, false, false, false] (by kernel_rfl) ?_
     refine treeM [1, 2, 5] (by kernel_rfl) rfl ⟨?_, ?_, ?_, trivial⟩
     ·refine stepCall hK hM 19 #[vG p] (by kernel_rfl) (run_callE en_ast_Copy rfl rfl (by kernel_rfl)) (ast_Copy p _ (hp.on hM.below) hsh2 hsz2 hln2) ?_
      rintro ⟨q5_1, G5_1⟩ a w ⟨hr5_1, hs5_1, hd5_1⟩ hK hM
      replace hM := (Mem.comm hM).to ((rN b5_4 :: rG b1 p :: G5_1)) (by kernel_rfl)
      refine tree_next #[true, true, false, false, true, false, false, false] (by kernel_rfl) ?_
      refine treeM [2, 5] (by kernel_rfl) rfl ⟨?_, ?_, trivial⟩
      ·refine stepLoad hK 20 (vG p) (by kernel_rfl) rfl rfl ((hM.row 1 rfl).cells 0 2) (by kernel_rfl) fun a hK => ?_
       refine tree_next #[true, true, true, false, true, false, false, false] (by kernel_rfl) ?_
       refine treeM [3, 5] (by kernel_rfl) rfl ⟨?_, ?_, trivial⟩
       ·refine stepCall hK hM 21 #[vG p] (by kernel_rfl) (run_callE en_ast_Copy rfl rfl (by kernel_rfl)) (ast_Copy p _ (hp.on hM.below) hsh2 hsz2 hln2) ?_
        rintro ⟨q5_3, G5_3⟩ a w ⟨hr5_3, hs5_3, hd5_3⟩ hK hM
        replace hM := (Mem.comm hM).to ((rN b5_4 :: rG b1 p :: (G5_1 ++ G5_3))) (by kernel_rfl)
        refine tree_next #[true, true, true, true, true, false, false, false] (by kernel_rfl) ?_
        refine treeM [5] (by kernel_rfl) rfl ⟨?_, trivial⟩
        refine stepAlloc hK hM 4 25 [.slice none 0 0, .slice none 0 0] (fun b => pA b 0) (by kernel_rfl) (by kernel_rfl) fun b5_5 a w hK hM => ?_
        refine tree_next #[true, true, true, true, true, true, false, false] (by kernel_rfl) ?_
        refine treeM [6] (by kernel_rfl) rfl ⟨?_, trivial⟩
        refine stepStore hK hM 1 [.slice q5_1.A1 q5_1.ds.length q5_1.c1, .slice q5_1.A2 q5_1.ts.length q5_1.c2] (by kernel_rfl) rfl rfl rfl rfl (by kernel_rfl) fun w hM => ?_
        replace hM := hM.to (rN b5_5 :: rG b5_4 q5_1 :: rG b1 p :: (G5_1 ++ G5_3)) (by kernel_rfl)
        refine tree_next #[true, true, true, true, true, true, true, false] (by kernel_rfl) ?_
        refine treeM [7] (by kernel_rfl) rfl ⟨?_, trivial⟩
        refine stepStore hK hM 0 [.slice q5_3.A1 q5_3.ds.length q5_3.c1, .slice q5_3.A2 q5_3.ts.length q5_3.c2] (by kernel_rfl) rfl rfl rfl rfl (by kernel_rfl) fun w hM => ?_
        replace hM := hM.to (rG b5_5 q5_3 :: rG b5_4 q5_1 :: rG b1 p :: (G5_1 ++ G5_3)) (by kernel_rfl)
        refine tree_next #[true, true, true, true, true, true, true, true] (by kernel_rfl) ?_
        exact treeE (by kernel_rfl) ⟨G5_1, G5_3, b5_4, b5_5, q5_1, q5_3, hK.sub ⟨rfl, rfl, rfl, rfl, rfl, rfl, rfl, trivial⟩, hM, hd5_1, hd5_3, hr5_1, hr5_3, hs5_1, hs5_3⟩
       ·refine stepAlloc hK hM 4 25 [.slice none 0 0, .slice none 0 0] (fun b => pA b 0) (by kernel_rfl) (by kernel_rfl) fun b5_5 a w hK hM => ?_
        refine tree_next #[true, true, true, false, true, true, false, false] (by kernel_rfl) ?_
        refine treeM [3] (by kernel_rfl) rfl ⟨?_, trivial⟩
        refine stepCall hK hM 21 #[vG p] (by kernel_rfl) (run_callE en_ast_Copy rfl rfl (by kernel_rfl)) (ast_Copy p _ (hp.on hM.below) hsh2 hsz2 hln2) ?_
        rintro ⟨q5_3, G5_3⟩ a w ⟨hr5_3, hs5_3, hd5_3⟩ hK hM
        replace hM := (Mem.comm hM).to ((rN b5_5 :: rN b5_4 :: rG b1 p :: (G5_1 ++ G5_3))) (by kernel_rfl)
        refine tree_next #[true, true, true, true, true, true, false, false] (by kernel_rfl) ?_
        refine treeM [6] (by kernel_rfl) rfl ⟨?_, trivial⟩
        refine stepStore hK hM 1 [.slice q5_1.A1 q5_1.ds.length q5_1.c1, .slice q5_1.A2 q5_1.ts.length q5_1.c2] (by kernel_rfl) rfl rfl rfl rfl (by kernel_rfl) fun w hM => ?_
        replace hM := hM.to (rN b5_5 :: rG b5_4 q5_1 :: rG b1 p :: (G5_1 ++ G5_3)) (by kernel_rfl)
        refine tree_next #[true, true, true, true, true, true, true, false] (by kernel_rfl) ?_
        refine treeM [7] (by kernel_rfl) rfl ⟨?_, trivial⟩
        refine stepStore hK hM 0 [.slice q5_3.A1 q5_3.ds.length q5_3.c1, .slice q5_3.A2 q5_3.ts.length q5_3.c2] (by kernel_rfl) rfl rfl rfl rfl (by kernel_rfl) fun w hM => ?_
        replace hM := hM.to (rG b5_5 q5_3 :: rG b5_4 q5_1 :: rG b1 p :: (G5_1 ++ G5_3)) (by kernel_rfl)
        refine tree_next #[true, true, true, true, true, true, true, true] (by kernel_rfl) ?_
        exact treeE (by kernel_rfl) ⟨G5_1, G5_3, b5_4, b5_5, q5_1, q5_3, hK.sub ⟨rfl, rfl, rfl, rfl, rfl, rfl, rfl, trivial⟩, hM, hd5_1, hd5_3, hr5_1, hr5_3, hs5_1, hs5_3⟩
      ·refine stepAlloc hK hM 4 25 [.slice none 0 0, .slice none 0 0] (fun b => pA b 0) (by kernel_rfl) (by kernel_rfl) fun b5_5 a w hK hM => ?_
       refine tree_next #[true, true, false, false, true, true, false, false] (by kernel_rfl) ?_
       refine treeM [2] (by kernel_rfl) rfl ⟨?_, trivial⟩
       refine stepLoad hK 20 (vG p) (by kernel_rfl) rfl rfl ((hM.row 2 rfl).cells 0 2) (by kernel_rfl) fun a hK => ?_
       refine tree_next #[true, true, true, false, true, true, false, false] (by kernel_rfl) ?_
       refine treeM [3] (by kernel_rfl) rfl ⟨?_, trivial⟩
       refine stepCall hK hM 21 #[vG p] (by kernel_rfl) (run_callE en_ast_Copy rfl rfl (by kernel_rfl)) (ast_Copy p _ (hp.on hM.below) hsh2 hsz2 hln2) ?_
       rintro ⟨q5_3, G5_3⟩ a w ⟨hr5_3, hs5_3, hd5_3⟩ hK hM
       replace hM := (Mem.comm hM).to ((rN b5_5 :: rN b5_4 :: rG b1 p :: (G5_1 ++ G5_3))) (by kernel_rfl)
       refine tree_next #[true, true, true, true, true, true, false, false] (by kernel_rfl) ?_
       refine treeM [6] (by kernel_rfl) rfl ⟨?_, trivial⟩
       refine stepStore hK hM 1 [.slice q5_1.A1 q5_1.ds.length q5_1.c1, .slice q5_1.A2 q5_1.ts.length q5_1.c2] (by kernel_rfl) rfl rfl rfl rfl (by kernel_rfl) fun w hM => ?_
       replace hM := hM.to (rN b5_5 :: rG b5_4 q5_1 :: rG b1 p :: (G5_1 ++ G5_3)) (by kernel_rfl)
       refine tree_next #[true, true, true, true, true, true, true, false] (by kernel_rfl) ?_
       refine treeM [7] (by kernel_rfl) rfl ⟨?_, trivial⟩
       refine stepStore hK hM 0 [.slice q5_3.A1 q5_3.ds.length q5_3.c1, .slice q5_3.A2 q5_3.ts.length q5_3.c2] (by kernel_rfl) rfl rfl rfl rfl (by kernel_rfl) fun w hM => ?_
       replace hM := hM.to (rG b5_5 q5_3 :: rG b5_4 q5_1 :: rG b1 p :: (G5_1 ++ G5_3)) (by kernel_rfl)
       refine tree_next #[true, true, true, true, true, true, true, true] (by kernel_rfl) ?_
       exact treeE (by kernel_rfl) ⟨G5_1, G5_3, b5_4, b5_5, q5_1, q5_3, hK.sub ⟨rfl, rfl, rfl, rfl, rfl, rfl, rfl, trivial⟩, hM, hd5_1, hd5_3, hr5_1, hr5_3, hs5_1, hs5_3⟩
     ·refine stepLoad hK 20 (vG p) (by kernel_rfl) rfl rfl ((hM.row 1 rfl).cells 0 2) (by kernel_rfl) fun a hK => ?_
      refine tree_next #[true, false, true, false, true, false, false, false] (by kernel_rfl) ?_
      refine treeM [1, 5] (by kernel_rfl) rfl ⟨?_, ?_, trivial⟩
      ·refine stepCall hK hM 19 #[vG p] (by kernel_rfl) (run_callE en_ast_Copy rfl rfl (by kernel_rfl)) (ast_Copy p _ (hp.on hM.below) hsh2 hsz2 hln2) ?_
       rintro ⟨q5_1, G5_1⟩ a w ⟨hr5_1, hs5_1, hd5_1⟩ hK hM
       replace hM := (Mem.comm hM).to ((rN b5_4 :: rG b1 p :: G5_1)) (by kernel_rfl)
       refine tree_next #[true, true, true, false, true, false, false, false] (by kernel_rfl) ?_
       refine treeM [3, 5] (by kernel_rfl) rfl ⟨?_, ?_, trivial⟩
       ·refine stepCall hK hM 21 #[vG p] (by kernel_rfl) (run_callE en_ast_Copy rfl rfl (by kernel_rfl)) (ast_Copy p _ (hp.on hM.below) hsh2 hsz2 hln2) ?_
        rintro ⟨q5_3, G5_3⟩ a w ⟨hr5_3, hs5_3, hd5_3⟩ hK hM
        replace hM := (Mem.comm hM).to ((rN b5_4 :: rG b1 p :: (G5_1 ++ G5_3))) (by kernel_rfl)
        refine tree_next #[true, true, true, true, true, false, false, false] (by kernel_rfl) ?_
        refine treeM [5] (by kernel_rfl) rfl ⟨?_, trivial⟩
        refine stepAlloc hK hM 4 25 [.slice none 0 0, .slice none 0 0] (fun b => pA b 0) (by kernel_rfl) (by kernel_rfl) fun b5_5 a w hK hM => ?_
        refine tree_next #[true, true, true, true, true, true, false, false] (by kernel_rfl) ?_
        refine treeM [6] (by kernel_rfl) rfl ⟨?_, trivial⟩
        refine stepStore hK hM 1 [.slice q5_1.A1 q5_1.ds.length q5_1.c1, .slice q5_1.A2 q5_1.ts.length q5_1.c2] (by kernel_rfl) rfl rfl rfl rfl (by kernel_rfl) fun w hM => ?_
        replace hM := hM.to (rN b5_5 :: rG b5_4 q5_1 :: rG b1 p :: (G5_1 ++ G5_3)) (by kernel_rfl)
        refine tree_next #[true, true, true, true, true, true, true, false] (by kernel_rfl) ?_
        refine treeM [7] (by kernel_rfl) rfl ⟨?_, trivial⟩
        refine stepStore hK hM 0 [.slice q5_3.A1 q5_3.ds.length q5_3.c1, .slice q5_3.A2 q5_3.ts.length q5_3.c2] (by kernel_rfl) rfl rfl rfl rfl (by kernel_rfl) fun w hM => ?_
        replace hM := hM.to (rG b5_5 q5_3 :: rG b5_4 q5_1 :: rG b1 p :: (G5_1 ++ G5_3)) (by kernel_rfl)
        refine tree_next #[true, true, true, true, true, true, true, true] (by kernel_rfl) ?_
        exact treeE (by kernel_rfl) ⟨G5_1, G5_3, b5_4, b5_5, q5_1, q5_3, hK.sub ⟨rfl, rfl, rfl, rfl, rfl, rfl, rfl, trivial⟩, hM, hd5_1, hd5_3, hr5_1, hr5_3, hs5_1, hs5_3⟩
       ·refine stepAlloc hK hM 4 25 [.slice none 0 0, .slice none 0 0] (fun b => pA b 0) (by kernel_rfl) (by kernel_rfl) fun b5_5 a w hK hM => ?_
        refine tree_next #[true, true, true, false, true, true, false, false] (by kernel_rfl) ?_
        refine treeM [3] (by kernel_rfl) rfl ⟨?_, trivial⟩
        refine stepCall hK hM 21 #[vG p] (by kernel_rfl) (run_callE en_ast_Copy rfl rfl (by kernel_rfl)) (ast_Copy p _ (hp.on hM.below) hsh2 hsz2 hln2) ?_
        rintro ⟨q5_3, G5_3⟩ a w ⟨hr5_3, hs5_3, hd5_3⟩ hK hM
        replace hM := (Mem.comm hM).to ((rN b5_5 :: rN b5_4 :: rG b1 p :: (G5_1 ++ G5_3))) (by kernel_rfl)
        refine tree_next #[true, true, true, true, true, true, false, false] (by kernel_rfl) ?_
        refine treeM [6] (by kernel_rfl) rfl ⟨?_, trivial⟩
        refine stepStore hK hM 1 [.slice q5_1.A1 q5_1.ds.length q5_1.c1, .slice q5_1.A2 q5_1.ts.length q5_1.c2] (by kernel_rfl) rfl rfl rfl rfl (by kernel_rfl) fun w hM => ?_
        replace hM := hM.to (rN b5_5 :: rG b5_4 q5_1 :: rG b1 p :: (G5_1 ++ G5_3)) (by kernel_rfl)
        refine tree_next #[true, true, true, true, true, true, true, false] (by kernel_rfl) ?_
        refine treeM [7] (by kernel_rfl) rfl ⟨?_, trivial⟩
        refine stepStore hK hM 0 [.slice q5_3.A1 q5_3.ds.length q5_3.c1, .slice q5_3.A2 q5_3.ts.length q5_3.c2] (by kernel_rfl) rfl rfl rfl rfl (by kernel_rfl) fun w hM => ?_
        replace hM := hM.to (rG b5_5 q5_3 :: rG b5_4 q5_1 :: rG b1 p :: (G5_1 ++ G5_3)) (by kernel_rfl)
        refine tree_next #[true, true, true, true, true, true, true, true] (by kernel_rfl) ?_
        exact treeE (by kernel_rfl) ⟨G5_1, G5_3, b5_4, b5_5, q5_1, q5_3, hK.sub ⟨rfl, rfl, rfl, rfl, rfl, rfl, rfl, trivial⟩, hM, hd5_1, hd5_3, hr5_1, hr5_3, hs5_1, hs5_3⟩
      ·refine stepAlloc hK hM 4 25 [.slice none 0 0, .slice none 0 0] (fun b => pA b 0) (by kernel_rfl) (by kernel_rfl) fun b5_5 a w hK hM => ?_
       refine tree_next #[true, false, true, false, true, true, false, false] (by kernel_rfl) ?_
       refine treeM [1] (by kernel_rfl) rfl ⟨?_, trivial⟩
       refine stepCall hK hM 19 #[vG p] (by kernel_rfl) (run_callE en_ast_Copy rfl rfl (by kernel_rfl)) (ast_Copy p _ (hp.on hM.below) hsh2 hsz2 hln2) ?_
       rintro ⟨q5_1, G5_1⟩ a w ⟨hr5_1, hs5_1, hd5_1⟩ hK hM
       replace hM := (Mem.comm hM).to ((rN b5_5 :: rN b5_4 :: rG b1 p :: G5_1)) (by kernel_rfl)
       refine tree_next #[true, true, true, false, true, true, false, false] (by kernel_rfl) ?_
       refine treeM [3] (by kernel_rfl) rfl ⟨?_, trivial⟩
       refine stepCall hK hM 21 #[vG p] (by kernel_rfl) (run_callE en_ast_Copy rfl rfl (by kernel_rfl)) (ast_Copy p _ (hp.on hM.below) hsh2 hsz2 hln2) ?_
       rintro ⟨q5_3, G5_3⟩ a w ⟨hr5_3, hs5_3, hd5_3⟩ hK hM
       replace hM := (Mem.comm hM).to ((rN b5_5 :: rN b5_4 :: rG b1 p :: (G5_1 ++ G5_3))) (by kernel_rfl)
       refine tree_next #[true, true, true, true, true, true, false, false] (by kernel_rfl) ?_
       refine treeM [6] (by kernel_rfl) rfl ⟨?_, trivial⟩
       refine stepStore hK hM 1 [.slice q5_1.A1 q5_1.ds.length q5_1.c1, .slice q5_1.A2 q5_1.ts.length q5_1.c2] (by kernel_rfl) rfl rfl rfl rfl (by kernel_rfl) fun w hM => ?_
       replace hM := hM.to (rN b5_5 :: rG b5_4 q5_1 :: rG b1 p :: (G5_1 ++ G5_3)) (by kernel_rfl)
       refine tree_next #[true, true, true, true, true, true, true, false] (by kernel_rfl) ?_
       refine treeM [7] (by kernel_rfl) rfl ⟨?_, trivial⟩
       refine stepStore hK hM 0 [.slice q5_3.A1 q5_3.ds.length q5_3.c1, .slice q5_3.A2 q5_3.ts.length q5_3.c2] (by kernel_rfl) rfl rfl rfl rfl (by kernel_rfl) fun w hM => ?_
       replace hM := hM.to (rG b5_5 q5_3 :: rG b5_4 q5_1 :: rG b1 p :: (G5_1 ++ G5_3)) (by kernel_rfl)
       refine tree_next #[true, true, true, true, true, true, true, true] (by kernel_rfl) ?_
       exact treeE (by kernel_rfl) ⟨G5_1, G5_3, b5_4, b5_5, q5_1, q5_3, hK.sub ⟨rfl, rfl, rfl, rfl, rfl, rfl, rfl, trivial⟩, hM, hd5_1, hd5_3, hr5_1, hr5_3, hs5_1, hs5_3⟩
     ·refine stepAlloc hK hM 4 25 [.slice none 0 0, .slice none 0 0] (fun b => pA b 0) (by kernel_rfl) (by kernel_rfl) fun b5_5 a w hK hM => ?_
      refine tree_next #[true, false, false, false, true, true, false, false] (by kernel_rfl) ?_
      refine treeM [1, 2] (by kernel_rfl) rfl ⟨?_, ?_, trivial⟩
      ·refine stepCall hK hM 19 #[vG p] (by kernel_rfl) (run_callE en_ast_Copy rfl rfl (by kernel_rfl)) (ast_Copy p _ (hp.on hM.below) hsh2 hsz2 hln2) ?_
       rintro ⟨q5_1, G5_1⟩ a w ⟨hr5_1, hs5_1, hd5_1⟩ hK hM
       replace hM := (Mem.comm hM).to ((rN b5_5 :: rN b5_4 :: rG b1 p :: G5_1)) (by kernel_rfl)
       refine tree_next #[true, true, false, false, true, true, false, false] (by kernel_rfl) ?_
       refine treeM [2] (by kernel_rfl) rfl ⟨?_, trivial⟩
       refine stepLoad hK 20 (vG p) (by kernel_rfl) rfl rfl ((hM.row 2 rfl).cells 0 2) (by kernel_rfl) fun a hK => ?_
       refine tree_next #[true, true, true, false, true, true, false, false] (by kernel_rfl) ?_
       refine treeM [3] (by kernel_rfl) rfl ⟨?_, trivial⟩
       refine stepCall hK hM 21 #[vG p] (by kernel_rfl) (run_callE en_ast_Copy rfl rfl (by kernel_rfl)) (ast_Copy p _ (hp.on hM.below) hsh2 hsz2 hln2) ?_
       rintro ⟨q5_3, G5_3⟩ a w ⟨hr5_3, hs5_3, hd5_3⟩ hK hM
       replace hM := (Mem.comm hM).to ((rN b5_5 :: rN b5_4 :: rG b1 p :: (G5_1 ++ G5_3))) (by kernel_rfl)
       refine tree_next #[true, true, true, true, true, true, false, false] (by kernel_rfl) ?_
       refine treeM [6] (by kernel_rfl) rfl ⟨?_, trivial⟩
       refine stepStore hK hM 1 [.slice q5_1.A1 q5_1.ds.length q5_1.c1, .slice q5_1.A2 q5_1.ts.length q5_1.c2] (by kernel_rfl) rfl rfl rfl rfl (by kernel_rfl) fun w hM => ?_
       replace hM := hM.to (rN b5_5 :: rG b5_4 q5_1 :: rG b1 p :: (G5_1 ++ G5_3)) (by kernel_rfl)
       refine tree_next #[true, true, true, true, true, true, true, false] (by kernel_rfl) ?_
       refine treeM [7] (by kernel_rfl) rfl ⟨?_, trivial⟩
       refine stepStore hK hM 0 [.slice q5_3.A1 q5_3.ds.length q5_3.c1, .slice q5_3.A2 q5_3.ts.length q5_3.c2] (by kernel_rfl) rfl rfl rfl rfl (by kernel_rfl) fun w hM => ?_
       replace hM := hM.to (rG b5_5 q5_3 :: rG b5_4 q5_1 :: rG b1 p :: (G5_1 ++ G5_3)) (by kernel_rfl)
       refine tree_next #[true, true, true, true, true, true, true, true] (by kernel_rfl) ?_
       exact treeE (by kernel_rfl) ⟨G5_1, G5_3, b5_4, b5_5, q5_1, q5_3, hK.sub ⟨rfl, rfl, rfl, rfl, rfl, rfl, rfl, trivial⟩, hM, hd5_1, hd5_3, hr5_1, hr5_3, hs5_1, hs5_3⟩
      ·refine stepLoad hK 20 (vG p) (by kernel_rfl) rfl rfl ((hM.row 2 rfl).cells 0 2) (by kernel_rfl) fun a hK => ?_
       refine tree_next #[true, false, true, false, true, true, false, false] (by kernel_rfl) ?_
       refine treeM [1] (by kernel_rfl) rfl ⟨?_, trivial⟩
       refine stepCall hK hM 19 #[vG p] (by kernel_rfl) (run_callE en_ast_Copy rfl rfl (by kernel_rfl)) (ast_Copy p _ (hp.on hM.below) hsh2 hsz2 hln2) ?_
       rintro ⟨q5_1, G5_1⟩ a w ⟨hr5_1, hs5_1, hd5_1⟩ hK hM
       replace hM := (Mem.comm hM).to ((rN b5_5 :: rN b5_4 :: rG b1 p :: G5_1)) (by kernel_rfl)
       refine tree_next #[true, true, true, false, true, true, false, false] (by kernel_rfl) ?_
       refine treeM [3] (by kernel_rfl) rfl ⟨?_, trivial⟩
       refine stepCall hK hM 21 #[vG p] (by kernel_rfl) (run_callE en_ast_Copy rfl rfl (by kernel_rfl)) (ast_Copy p _ (hp.on hM.below) hsh2 hsz2 hln2) ?_
       rintro ⟨q5_3, G5_3⟩ a w ⟨hr5_3, hs5_3, hd5_3⟩ hK hM
       replace hM := (Mem.comm hM).to ((rN b5_5 :: rN b5_4 :: rG b1 p :: (G5_1 ++ G5_3))) (by kernel_rfl)
       refine tree_next #[true, true, true, true, true, true, false, false] (by kernel_rfl) ?_
       refine treeM [6] (by kernel_rfl) rfl ⟨?_, trivial⟩
       refine stepStore hK hM 1 [.slice q5_1.A1 q5_1.ds.length q5_1.c1, .slice q5_1.A2 q5_1.ts.length q5_1.c2] (by kernel_rfl) rfl rfl rfl rfl (by kernel_rfl) fun w hM => ?_
       replace hM := hM.to (rN b5_5 :: rG b5_4 q5_1 :: rG b1 p :: (G5_1 ++ G5_3)) (by kernel_rfl)
       refine tree_next #[true, true, true, true, true, true, true, false] (by kernel_rfl) ?_
       refine treeM [7] (by kernel_rfl) rfl ⟨?_, trivial⟩
       refine stepStore hK hM 0 [.slice q5_3.A1 q5_3.ds.length q5_3.c1, .slice q5_3.A2 q5_3.ts.length q5_3.c2] (by kernel_rfl) rfl rfl rfl rfl (by kernel_rfl) fun w hM => ?_
       replace hM := hM.to (rG b5_5 q5_3 :: rG b5_4 q5_1 :: rG b1 p :: (G5_1 ++ G5_3)) (by kernel_rfl)
       refine tree_next #[true, true, true, true, true, true, true, true] (by kernel_rfl) ?_
       exact treeE (by kernel_rfl) ⟨G5_1, G5_3, b5_4, b5_5, q5_1, q5_3, hK.sub ⟨rfl, rfl, rfl, rfl, rfl, rfl, rfl, trivial⟩, hM, hd5_1, hd5_3, hr5_1, hr5_3, hs5_1, hs5_3⟩
    ·refine stepLoad hK 20 (vG p) (by kernel_rfl) rfl rfl ((hM.row 1 rfl).cells 0 2) (by kernel_rfl) fun a hK => ?_
     refine tree_next #[false, false, true, false, true, false, false, false] (by kernel_rfl) ?_
     refine treeM [0, 5] (by kernel_rfl) rfl ⟨?_, ?_, trivial⟩
     ·refine stepLoad hK 18 (vG p) (by kernel_rfl) rfl rfl ((hM.row 1 rfl).cells 0 2) (by kernel_rfl) fun a hK => ?_
      refine tree_next #[true, false, true, false, true, false, false, false] (by kernel_rfl) ?_
      refine treeM [1, 5] (by kernel_rfl) rfl ⟨?_, ?_, trivial⟩
      ·refine stepCall hK hM 19 #[vG p] (by kernel_rfl) (run_callE en_ast_Copy rfl rfl (by kernel_rfl)) (ast_Copy p _ (hp.on hM.below) hsh2 hsz2 hln2) ?_
       rintro ⟨q5_1, G5_1⟩ a w ⟨hr5_1, hs5_1, hd5_1⟩ hK hM
       replace hM := (Mem.comm hM).to ((rN b5_4 :: rG b1 p :: G5_1)) (by kernel_rfl)
       refine tree_next #[true, true, true, false, true, false, false, false] (by kernel_rfl) ?_
       refine treeM [3, 5] (by kernel_rfl) rfl ⟨?_, ?_, trivial⟩
       ·refine stepCall hK hM 21 #[vG p] (by kernel_rfl) (run_callE en_ast_Copy rfl rfl (by kernel_rfl)) (ast_Copy p _ (hp.on hM.below) hsh2 hsz2 hln2) ?_
        rintro ⟨q5_3, G5_3⟩ a w ⟨hr5_3, hs5_3, hd5_3⟩ hK hM
        replace hM := (Mem.comm hM).to ((rN b5_4 :: rG b1 p :: (G5_1 ++ G5_3))) (by kernel_rfl)
        refine tree_next #[true, true, true, true, true, false, false, false] (by kernel_rfl) ?_
        refine treeM [5] (by kernel_rfl) rfl ⟨?_, trivial⟩
        refine stepAlloc hK hM 4 25 [.slice none 0 0, .slice none 0 0] (fun b => pA b 0) (by kernel_rfl) (by kernel_rfl) fun b5_5 a w hK hM => ?_
        refine tree_next #[true, true, true, true, true, true, false, false] (by kernel_rfl) ?_
        refine treeM [6] (by kernel_rfl) rfl ⟨?_, trivial⟩
        refine stepStore hK hM 1 [.slice q5_1.A1 q5_1.ds.length q5_1.c1, .slice q5_1.A2 q5_1.ts.length q5_1.c2] (by kernel_rfl) rfl rfl rfl rfl (by kernel_rfl) fun w hM => ?_
        replace hM := hM.to (rN b5_5 :: rG b5_4 q5_1 :: rG b1 p :: (G5_1 ++ G5_3)) (by kernel_rfl)
        refine tree_next #[true, true, true, true, true, true, true, false] (by kernel_rfl) ?_
        refine treeM [7] (by kernel_rfl) rfl ⟨?_, trivial⟩
        refine stepStore hK hM 0 [.slice q5_3.A1 q5_3.ds.length q5_3.c1, .slice q5_3.A2 q5_3.ts.length q5_3.c2] (by kernel_rfl) rfl rfl rfl rfl (by kernel_rfl) fun w hM => ?_
        replace hM := hM.to (rG b5_5 q5_3 :: rG b5_4 q5_1 :: rG b1 p :: (G5_1 ++ G5_3)) (by kernel_rfl)
        refine tree_next #[true, true, true, true, true, true, true, true] (by kernel_rfl) ?_
        exact treeE (by kernel_rfl) ⟨G5_1, G5_3, b5_4, b5_5, q5_1, q5_3, hK.sub ⟨rfl, rfl, rfl, rfl, rfl, rfl, rfl, trivial⟩, hM, hd5_1, hd5_3, hr5_1, hr5_3, hs5_1, hs5_3⟩
       ·refine stepAlloc hK hM 4 25 [.slice none 0 0, .slice none 0 0] (fun b => pA b 0) (by kernel_rfl) (by kernel_rfl) fun b5_5 a w hK hM => ?_
        refine tree_next #[true, true, true, false, true, true, false, false] (by kernel_rfl) ?_
        refine treeM [3] (by kernel_rfl) rfl ⟨?_, trivial⟩
        refine stepCall hK hM 21 #[vG p] (by kernel_rfl) (run_callE en_ast_Copy rfl rfl (by kernel_rfl)) (ast_Copy p _ (hp.on hM.below) hsh2 hsz2 hln2) ?_
        rintro ⟨q5_3, G5_3⟩ a w ⟨hr5_3, hs5_3, hd5_3⟩ hK hM
        replace hM := (Mem.comm hM).to ((rN b5_5 :: rN b5_4 :: rG b1 p :: (G5_1 ++ G5_3))) (by kernel_rfl)
        refine tree_next #[true, true, true, true, true, true, false, false] (by kernel_rfl) ?_
        refine treeM [6] (by kernel_rfl) rfl ⟨?_, trivial⟩
        refine stepStore hK hM 1 [.slice q5_1.A1 q5_1.ds.length q5_1.c1, .slice q5_1.A2 q5_1.ts.length q5_1.c2] (by kernel_rfl) rfl rfl rfl rfl (by kernel_rfl) fun w hM => ?_
        replace hM := hM.to (rN b5_5 :: rG b5_4 q5_1 :: rG b1 p :: (G5_1 ++ G5_3)) (by kernel_rfl)
        refine tree_next #[true, true, true, true, true, true, true, false] (by kernel_rfl) ?_
        refine treeM [7] (by kernel_rfl) rfl ⟨?_, trivial⟩
        refine stepStore hK hM 0 [.slice q5_3.A1 q5_3.ds.length q5_3.c1, .slice q5_3.A2 q5_3.ts.length q5_3.c2] (by kernel_rfl) rfl rfl rfl rfl (by kernel_rfl) fun w hM => ?_
        replace hM := hM.to (rG b5_5 q5_3 :: rG b5_4 q5_1 :: rG b1 p :: (G5_1 ++ G5_3)) (by kernel_rfl)
        refine tree_next #[true, true, true, true, true, true, true, true] (by kernel_rfl) ?_
        exact treeE (by kernel_rfl) ⟨G5_1, G5_3, b5_4, b5_5, q5_1, q5_3, hK.sub ⟨rfl, rfl, rfl, rfl, rfl, rfl, rfl, trivial⟩, hM, hd5_1, hd5_3, hr5_1, hr5_3, hs5_1, hs5_3⟩
      ·refine stepAlloc hK hM 4 25 [.slice none 0 0, .slice none 0 0] (fun b => pA b 0) (by kernel_rfl) (by kernel_rfl) fun b5_5 a w hK hM => ?_
       refine tree_next #[true, false, true, false, true, true, false, false] (by kernel_rfl) ?_
       refine treeM [1] (by kernel_rfl) rfl ⟨?_, trivial⟩
       refine stepCall hK hM 19 #[vG p] (by kernel_rfl) (run_callE en_ast_Copy rfl rfl (by kernel_rfl)) (ast_Copy p _ (hp.on hM.below) hsh2 hsz2 hln2) ?_
       rintro ⟨q5_1, G5_1⟩ a w ⟨hr5_1, hs5_1, hd5_1⟩ hK hM
       replace hM := (Mem.comm hM).to ((rN b5_5 :: rN b5_4 :: rG b1 p :: G5_1)) (by kernel_rfl)
       refine tree_next #[true, true, true, false, true, true, false, false] (by kernel_rfl) ?_
       refine treeM [3] (by kernel_rfl) rfl ⟨?_, trivial⟩
       refine stepCall hK hM 21 #[vG p] (by kernel_rfl) (run_callE en_ast_Copy rfl rfl (by kernel_rfl)) (ast_Copy p _ (hp.on hM.below) hsh2 hsz2 hln2) ?_
       rintro ⟨q5_3, G5_3⟩ a w ⟨hr5_3, hs5_3, hd5_3⟩ hK hM
       replace hM := (Mem.comm hM).to ((rN b5_5 :: rN b5_4 :: rG b1 p :: (G5_1 ++ G5_3))) (by kernel_rfl)
       refine tree_next #[true, true, true, true, true, true, false, false] (by kernel_rfl) ?_
       refine treeM [6] (by kernel_rfl) rfl ⟨?_, trivial⟩
       refine stepStore hK hM 1 [.slice q5_1.A1 q5_1.ds.length q5_1.c1, .slice q5_1.A2 q5_1.ts.length q5_1.c2] (by kernel_rfl) rfl rfl rfl rfl (by kernel_rfl) fun w hM => ?_
       replace hM := hM.to (rN b5_5 :: rG b5_4 q5_1 :: rG b1 p :: (G5_1 ++ G5_3)) (by kernel_rfl)
       refine tree_next #[true, true, true, true, true, true, true, false] (by kernel_rfl) ?_
       refine treeM [7] (by kernel_rfl) rfl ⟨?_, trivial⟩
       refine stepStore hK hM 0 [.slice q5_3.A1 q5_3.ds.length q5_3.c1, .slice q5_3.A2 q5_3.ts.length q5_3.c2] (by kernel_rfl) rfl rfl rfl rfl (by kernel_rfl) fun w hM => ?_
       replace hM := hM.to (rG b5_5 q5_3 :: rG b5_4 q5_1 :: rG b1 p :: (G5_1 ++ G5_3)) (by kernel_rfl)
       refine tree_next #[true, true, true, true, true, true, true, true] (by kernel_rfl) ?_
       exact treeE (by kernel_rfl) ⟨G5_1, G5_3, b5_4, b5_5, q5_1, q5_3, hK.sub ⟨rfl, rfl, rfl, rfl, rfl, rfl, rfl, trivial⟩, hM, hd5_1, hd5_3, hr5_1, hr5_3, hs5_1, hs5_3⟩
     ·refine stepAlloc hK hM 4 25 [.slice none 0 0, .slice none 0 0] (fun b => pA b 0) (by kernel_rfl) (by kernel_rfl) fun b5_5 a w hK hM => ?_
      refine tree_next #[false, false, true, false, true, true, false, false] (by kernel_rfl) ?_
      refine treeM [0] (by kernel_rfl) rfl ⟨?_, trivial⟩
      refine stepLoad hK 18 (vG p) (by kernel_rfl) rfl rfl ((hM.row 2 rfl).cells 0 2) (by kernel_rfl) fun a hK => ?_
      refine tree_next #[true, false, true, false, true, true, false, false] (by kernel_rfl) ?_
      refine treeM [1] (by kernel_rfl) rfl ⟨?_, trivial⟩
      refine stepCall hK hM 19 #[vG p] (by kernel_rfl) (run_callE en_ast_Copy rfl rfl (by kernel_rfl)) (ast_Copy p _ (hp.on hM.below) hsh2 hsz2 hln2) ?_
      rintro ⟨q5_1, G5_1⟩ a w ⟨hr5_1, hs5_1, hd5_1⟩ hK hM
      replace hM := (Mem.comm hM).to ((rN b5_5 :: rN b5_4 :: rG b1 p :: G5_1)) (by kernel_rfl)
      refine tree_next #[true, true, true, false, true, true, false, false] (by kernel_rfl) ?_
      refine treeM [3] (by kernel_rfl) rfl ⟨?_, trivial⟩
      refine stepCall hK hM 21 #[vG p] (by kernel_rfl) (run_callE en_ast_Copy rfl rfl (by kernel_rfl)) (ast_Copy p _ (hp.on hM.below) hsh2 hsz2 hln2) ?_
      rintro ⟨q5_3, G5_3⟩ a w ⟨hr5_3, hs5_3, hd5_3⟩ hK hM
      replace hM := (Mem.comm hM).to ((rN b5_5 :: rN b5_4 :: rG b1 p :: (G5_1 ++ G5_3))) (by kernel_rfl)
      refine tree_next #[true, true, true, true, true, true, false, false] (by kernel_rfl) ?_
      refine treeM [6] (by kernel_rfl) rfl ⟨?_, trivial⟩
      refine stepStore hK hM 1 [.slice q5_1.A1 q5_1.ds.length q5_1.c1, .slice q5_1.A2 q5_1.ts.length q5_1.c2] (by kernel_rfl) rfl rfl rfl rfl (by kernel_rfl) fun w hM => ?_
      replace hM := hM.to (rN b5_5 :: rG b5_4 q5_1 :: rG b1 p :: (G5_1 ++ G5_3)) (by kernel_rfl)
      refine tree_next #[true, true, true, true, true, true, true, false] (by kernel_rfl) ?_
      refine treeM [7] (by kernel_rfl) rfl ⟨?_, trivial⟩
      refine stepStore hK hM 0 [.slice q5_3.A1 q5_3.ds.length q5_3.c1, .slice q5_3.A2 q5_3.ts.length q5_3.c2] (by kernel_rfl) rfl rfl rfl rfl (by kernel_rfl) fun w hM => ?_
      replace hM := hM.to (rG b5_5 q5_3 :: rG b5_4 q5_1 :: rG b1 p :: (G5_1 ++ G5_3)) (by kernel_rfl)
      refine tree_next #[true, true, true, true, true, true, true, true] (by kernel_rfl) ?_
      exact treeE (by kernel_rfl) ⟨G5_1, G5_3, b5_4, b5_5, q5_1, q5_3, hK.sub ⟨rfl, rfl, rfl, rfl, rfl, rfl, rfl, trivial⟩, hM, hd5_1, hd5_3, hr5_1, hr5_3, hs5_1, hs5_3⟩
    ·refine stepAlloc hK hM 4 25 [.slice none 0 0, .slice none 0 0] (fun b => pA b 0) (by kernel_rfl) (by kernel_rfl) fun b5_5 a w hK hM => ?_
     refine tree_next #[false, false, false, false, true, true, false, false] (by kernel_rfl) ?_
     refine treeM [0, 2] (by kernel_rfl) rfl ⟨?_, ?_, trivial⟩
     ·refine stepLoad hK 18 (vG p) (by kernel_rfl) rfl rfl ((hM.row 2 rfl).cells 0 2) (by kernel_rfl) fun a hK => ?_
      refine tree_next #[true, false, false, false, true, true, false, false] (by kernel_rfl) ?_
      refine treeM [1, 2] (by kernel_rfl) rfl ⟨?_, ?_, trivial⟩
      ·refine stepCall hK hM 19 #[vG p] (by kernel_rfl) (run_callE en_ast_Copy rfl rfl (by kernel_rfl)) (ast_Copy p _ (hp.on hM.below) hsh2 hsz2 hln2) ?_
       rintro ⟨q5_1, G5_1⟩ a w ⟨hr5_1, hs5_1, hd5_1⟩ hK hM
       replace hM := (Mem.comm hM).to ((rN b5_5 :: rN b5_4 :: rG b1 p :: G5_1)) (by kernel_rfl)
       refine tree_next #[true, true, false, false, true, true, false, false] (by kernel_rfl) ?_
       refine treeM [2] (by kernel_rfl) rfl ⟨?_, trivial⟩
       refine stepLoad hK 20 (vG p) (by kernel_rfl) rfl rfl ((hM.row 2 rfl).cells 0 2) (by kernel_rfl) fun a hK => ?_
       refine tree_next #[true, true, true, false, true, true, false, false] (by kernel_rfl) ?_
       refine treeM [3] (by kernel_rfl) rfl ⟨?_, trivial⟩
       refine stepCall hK hM 21 #[vG p] (by kernel_rfl) (run_callE en_ast_Copy rfl rfl (by kernel_rfl)) (ast_Copy p _ (hp.on hM.below) hsh2 hsz2 hln2) ?_
       rintro ⟨q5_3, G5_3⟩ a w ⟨hr5_3, hs5_3, hd5_3⟩ hK hM
       replace hM := (Mem.comm hM).to ((rN b5_5 :: rN b5_4 :: rG b1 p :: (G5_1 ++ G5_3))) (by kernel_rfl)
       refine tree_next #[true, true, true, true, true, true, false, false] (by kernel_rfl) ?_
       refine treeM [6] (by kernel_rfl) rfl ⟨?_, trivial⟩
       refine stepStore hK hM 1 [.slice q5_1.A1 q5_1.ds.length q5_1.c1, .slice q5_1.A2 q5_1.ts.length q5_1.c2] (by kernel_rfl) rfl rfl rfl rfl (by kernel_rfl) fun w hM => ?_
       replace hM := hM.to (rN b5_5 :: rG b5_4 q5_1 :: rG b1 p :: (G5_1 ++ G5_3)) (by kernel_rfl)
       refine tree_next #[true, true, true, true, true, true, true, false] (by kernel_rfl) ?_
       refine treeM [7] (by kernel_rfl) rfl ⟨?_, trivial⟩
       refine stepStore hK hM 0 [.slice q5_3.A1 q5_3.ds.length q5_3.c1, .slice q5_3.A2 q5_3.ts.length q5_3.c2] (by kernel_rfl) rfl rfl rfl rfl (by kernel_rfl) fun w hM => ?_
       replace hM := hM.to (rG b5_5 q5_3 :: rG b5_4 q5_1 :: rG b1 p :: (G5_1 ++ G5_3)) (by kernel_rfl)
       refine tree_next #[true, true, true, true, true, true, true, true] (by kernel_rfl) ?_
       exact treeE (by kernel_rfl) ⟨G5_1, G5_3, b5_4, b5_5, q5_1, q5_3, hK.sub ⟨rfl, rfl, rfl, rfl, rfl, rfl, rfl, trivial⟩, hM, hd5_1, hd5_3, hr5_1, hr5_3, hs5_1, hs5_3⟩
      ·refine stepLoad hK 20 (vG p) (by kernel_rfl) rfl rfl ((hM.row 2 rfl).cells 0 2) (by kernel_rfl) fun a hK => ?_
       refine tree_next #[true, false, true, false, true, true, false, false] (by kernel_rfl) ?_
       refine treeM [1] (by kernel_rfl) rfl ⟨?_, trivial⟩
       refine stepCall hK hM 19 #[vG p] (by kernel_rfl) (run_callE en_ast_Copy rfl rfl (by kernel_rfl)) (ast_Copy p _ (hp.on hM.below) hsh2 hsz2 hln2) ?_
       rintro ⟨q5_1, G5_1⟩ a w ⟨hr5_1, hs5_1, hd5_1⟩ hK hM
       replace hM := (Mem.comm hM).to ((rN b5_5 :: rN b5_4 :: rG b1 p :: G5_1)) (by kernel_rfl)
       refine tree_next #[true, true, true, false, true, true, false, false] (by kernel_rfl) ?_
       refine treeM [3] (by kernel_rfl) rfl ⟨?_, trivial⟩
       refine stepCall hK hM 21 #[vG p] (by kernel_rfl) (run_callE en_ast_Copy rfl rfl (by kernel_rfl)) (ast_Copy p _ (hp.on hM.below) hsh2 hsz2 hln2) ?_
       rintro ⟨q5_3, G5_3⟩ a w ⟨hr5_3, hs5_3, hd5_3⟩ hK hM
       replace hM := (Mem.comm hM).to ((rN b5_5 :: rN b5_4 :: rG b1 p :: (G5_1 ++ G5_3))) (by kernel_rfl)
       refine tree_next #[true, true, true, true, true, true, false, false] (by kernel_rfl) ?_
       refine treeM [6] (by kernel_rfl) rfl ⟨?_, trivial⟩
       refine stepStore hK hM 1 [.slice q5_1.A1 q5_1.ds.length q5_1.c1, .slice q5_1.A2 q5_1.ts.length q5_1.c2] (by kernel_rfl) rfl rfl rfl rfl (by kernel_rfl) fun w hM => ?_
       replace hM := hM.to (rN b5_5 :: rG b5_4 q5_1 :: rG b1 p :: (G5_1 ++ G5_3)) (by kernel_rfl)
       refine tree_next #[true, true, true, true, true, true, true, false] (by kernel_rfl) ?_
       refine treeM [7] (by kernel_rfl) rfl ⟨?_, trivial⟩
       refine stepStore hK hM 0 [.slice q5_3.A1 q5_3.ds.length q5_3.c1, .slice q5_3.A2 q5_3.ts.length q5_3.c2] (by kernel_rfl) rfl rfl rfl rfl (by kernel_rfl) fun w hM => ?_
       replace hM := hM.to (rG b5_5 q5_3 :: rG b5_4 q5_1 :: rG b1 p :: (G5_1 ++ G5_3)) (by kernel_rfl)
       refine tree_next #[true, true, true, true, true, true, true, true] (by kernel_rfl) ?_
       exact treeE (by kernel_rfl) ⟨G5_1, G5_3, b5_4, b5_5, q5_1, q5_3, hK.sub ⟨rfl, rfl, rfl, rfl, rfl, rfl, rfl, trivial⟩, hM, hd5_1, hd5_3, hr5_1, hr5_3, hs5_1, hs5_3⟩
     ·refine stepLoad hK 20 (vG p) (by kernel_rfl) rfl rfl ((hM.row 2 rfl).cells 0 2) (by kernel_rfl) fun a hK => ?_
      refine tree_next #[false, false, true, false, true, true, false, false] (by kernel_rfl) ?_
      refine treeM [0] (by kernel_rfl) rfl ⟨?_, trivial⟩
      refine stepLoad hK 18 (vG p) (by kernel_rfl) rfl rfl ((hM.row 2 rfl).cells 0 2) (by kernel_rfl) fun a hK => ?_
      refine tree_next #[true, false, true, false, true, true, false, false] (by kernel_rfl) ?_
      refine treeM [1] (by kernel_rfl) rfl ⟨?_, trivial⟩
      refine stepCall hK hM 19 #[vG p] (by kernel_rfl) (run_callE en_ast_Copy rfl rfl (by kernel_rfl)) (ast_Copy p _ (hp.on hM.below) hsh2 hsz2 hln2) ?_
      rintro ⟨q5_1, G5_1⟩ a w ⟨hr5_1, hs5_1, hd5_1⟩ hK hM
      replace hM := (Mem.comm hM).to ((rN b5_5 :: rN b5_4 :: rG b1 p :: G5_1)) (by kernel_rfl)
      refine tree_next #[true, true, true, false, true, true, false, false] (by kernel_rfl) ?_
      refine treeM [3] (by kernel_rfl) rfl ⟨?_, trivial⟩
      refine stepCall hK hM 21 #[vG p] (by kernel_rfl) (run_callE en_ast_Copy rfl rfl (by kernel_rfl)) (ast_Copy p _ (hp.on hM.below) hsh2 hsz2 hln2) ?_
      rintro ⟨q5_3, G5_3⟩ a w ⟨hr5_3, hs5_3, hd5_3⟩ hK hM
      replace hM := (Mem.comm hM).to ((rN b5_5 :: rN b5_4 :: rG b1 p :: (G5_1 ++ G5_3))) (by kernel_rfl)
      refine tree_next #[true, true, true, true, true, true, false, false] (by kernel_rfl) ?_
      refine treeM [6] (by kernel_rfl) rfl ⟨?_, trivial⟩
      refine stepStore hK hM 1 [.slice q5_1.A1 q5_1.ds.length q5_1.c1, .slice q5_1.A2 q5_1.ts.length q5_1.c2] (by kernel_rfl) rfl rfl rfl rfl (by kernel_rfl) fun w hM => ?_
      replace hM := hM.to (rN b5_5 :: rG b5_4 q5_1 :: rG b1 p :: (G5_1 ++ G5_3)) (by kernel_rfl)
      refine tree_next #[true, true, true, true, true, true, true, false] (by kernel_rfl) ?_
      refine treeM [7] (by kernel_rfl) rfl ⟨?_, trivial⟩
      refine stepStore hK hM 0 [.slice q5_3.A1 q5_3.ds.length q5_3.c1, .slice q5_3.A2 q5_3.ts.length q5_3.c2] (by kernel_rfl) rfl rfl rfl rfl (by kernel_rfl) fun w hM => ?_
      replace hM := hM.to (rG b5_5 q5_3 :: rG b5_4 q5_1 :: rG b1 p :: (G5_1 ++ G5_3)) (by kernel_rfl)
      refine tree_next #[true, true, true, true, true, true, true, true] (by kernel_rfl) ?_
      exact treeE (by kernel_rfl) ⟨G5_1, G5_3, b5_4, b5_5, q5_1, q5_3, hK.sub ⟨rfl, rfl, rfl, rfl, rfl, rfl, rfl, trivial⟩, hM, hd5_1, hd5_3, hr5_1, hr5_3, hs5_1, hs5_3⟩
   ·refine stepAlloc hK hM 4 25 [.slice none 0 0, .slice none 0 0] (fun b => pA b 0) (by kernel_rfl) (by kernel_rfl) fun b5_5 a w hK hM => ?_
    refine tree_next #[false, false, false, false, false, true, false, false] (by kernel_rfl) ?_
    refine treeM [0, 2, 4] (by kernel_rfl) rfl ⟨?_, ?_, ?_, trivial⟩
    ·refine stepLoad hK 18 (vG p) (by kernel_rfl) rfl rfl ((hM.row 1 rfl).cells 0 2) (by kernel_rfl) fun a hK => ?_
     refine tree_next #[true, false, false, false, false, true, false, false] (by kernel_rfl) ?_
     refine treeM [1, 2, 4] (by kernel_rfl) rfl ⟨?_, ?_, ?_, trivial⟩
     ·refine stepCall hK hM 19 #[vG p] (by kernel_rfl) (run_callE en_ast_Copy rfl rfl (by kernel_rfl)) (ast_Copy p _ (hp.on hM.below) hsh2 hsz2 hln2) ?_
      rintro ⟨q5_1, G5_1⟩ a w ⟨hr5_1, hs5_1, hd5_1⟩ hK hM
      replace hM := (Mem.comm hM).to ((rN b5_5 :: rG b1 p :: G5_1)) (by kernel_rfl)
      refine tree_next #[true, true, false, false, false, true, false, false] (by kernel_rfl) ?_
      refine treeM [2, 4] (by kernel_rfl) rfl ⟨?_, ?_, trivial⟩
      ·refine stepLoad hK 20 (vG p) (by kernel_rfl) rfl rfl ((hM.row 1 rfl).cells 0 2) (by kernel_rfl) fun a hK => ?_
       refine tree_next #[true, true, true, false, false, true, false, false] (by kernel_rfl) ?_
       refine treeM [3, 4] (by kernel_rfl) rfl ⟨?_, ?_, trivial⟩
       ·refine stepCall hK hM 21 #[vG p] (by kernel_rfl) (run_callE en_ast_Copy rfl rfl (by kernel_rfl)) (ast_Copy p _ (hp.on hM.below) hsh2 hsz2 hln2) ?_
        rintro ⟨q5_3, G5_3⟩ a w ⟨hr5_3, hs5_3, hd5_3⟩ hK hM
        replace hM := (Mem.comm hM).to ((rN b5_5 :: rG b1 p :: (G5_1 ++ G5_3))) (by kernel_rfl)
        refine tree_next #[true, true, true, true, false, true, false, false] (by kernel_rfl) ?_
        refine treeM [4] (by kernel_rfl) rfl ⟨?_, trivial⟩
        refine stepAlloc hK hM 3 25 [.slice none 0 0, .slice none 0 0] (fun b => pA b 0) (by kernel_rfl) (by kernel_rfl) fun b5_4 a w hK hM => ?_
        refine tree_next #[true, true, true, true, true, true, false, false] (by kernel_rfl) ?_
        refine treeM [6] (by kernel_rfl) rfl ⟨?_, trivial⟩
        refine stepStore hK hM 0 [.slice q5_1.A1 q5_1.ds.length q5_1.c1, .slice q5_1.A2 q5_1.ts.length q5_1.c2] (by kernel_rfl) rfl rfl rfl rfl (by kernel_rfl) fun w hM => ?_
        replace hM := hM.to (rG b5_4 q5_1 :: rN b5_5 :: rG b1 p :: (G5_1 ++ G5_3)) (by kernel_rfl)
        refine tree_next #[true, true, true, true, true, true, true, false] (by kernel_rfl) ?_
        refine treeM [7] (by kernel_rfl) rfl ⟨?_, trivial⟩
        refine stepStore hK hM 1 [.slice q5_3.A1 q5_3.ds.length q5_3.c1, .slice q5_3.A2 q5_3.ts.length q5_3.c2] (by kernel_rfl) rfl rfl rfl rfl (by kernel_rfl) fun w hM => ?_
        replace hM := hM.to (rG b5_4 q5_1 :: rG b5_5 q5_3 :: rG b1 p :: (G5_1 ++ G5_3)) (by kernel_rfl)
        refine tree_next #[true, true, true, true, true, true, true, true] (by kernel_rfl) ?_
        exact treeE (by kernel_rfl) ⟨G5_1, G5_3, b5_4, b5_5, q5_1, q5_3, hK.sub ⟨rfl, rfl, rfl, rfl, rfl, rfl, rfl, trivial⟩, (hM.order [[rG b5_4 q5_1], [rG b5_5 q5_3], [rG b1 p], G5_1, G5_3] [1, 0, 2, 3, 4] 5 rfl (by simp) (by decide) _ (by simp)), hd5_1, hd5_3, hr5_1, hr5_3, hs5_1, hs5_3⟩
       ·refine stepAlloc hK hM 3 25 [.slice none 0 0, .slice none 0 0] (fun b => pA b 0) (by kernel_rfl) (by kernel_rfl) fun b5_4 a w hK hM => ?_
        refine tree_next #[true, true, true, false, true, true, false, false] (by kernel_rfl) ?_
        refine treeM [3] (by kernel_rfl) rfl ⟨?_, trivial⟩
        refine stepCall hK hM 21 #[vG p] (by kernel_rfl) (run_callE en_ast_Copy rfl rfl (by kernel_rfl)) (ast_Copy p _ (hp.on hM.below) hsh2 hsz2 hln2) ?_
        rintro ⟨q5_3, G5_3⟩ a w ⟨hr5_3, hs5_3, hd5_3⟩ hK hM
        replace hM := (Mem.comm hM).to ((rN b5_4 :: rN b5_5 :: rG b1 p :: (G5_1 ++ G5_3))) (by kernel_rfl)
        refine tree_next #[true, true, true, true, true, true, false, false] (by kernel_rfl) ?_
        refine treeM [6] (by kernel_rfl) rfl ⟨?_, trivial⟩
        refine stepStore hK hM 0 [.slice q5_1.A1 q5_1.ds.length q5_1.c1, .slice q5_1.A2 q5_1.ts.length q5_1.c2] (by kernel_rfl) rfl rfl rfl rfl (by kernel_rfl) fun w hM => ?_
        replace hM := hM.to (rG b5_4 q5_1 :: rN b5_5 :: rG b1 p :: (G5_1 ++ G5_3)) (by kernel_rfl)
        refine tree_next #[true, true, true, true, true, true, true, false] (by kernel_rfl) ?_
        refine treeM [7] (by kernel_rfl) rfl ⟨?_, trivial⟩
        refine stepStore hK hM 1 [.slice q5_3.A1 q5_3.ds.length q5_3.c1, .slice q5_3.A2 q5_3.ts.length q5_3.c2] (by kernel_rfl) rfl rfl rfl rfl (by kernel_rfl) fun w hM => ?_
        replace hM := hM.to (rG b5_4 q5_1 :: rG b5_5 q5_3 :: rG b1 p :: (G5_1 ++ G5_3)) (by kernel_rfl)
        refine tree_next #[true, true, true, true, true, true, true, true] (by kernel_rfl) ?_
        exact treeE (by kernel_rfl) ⟨G5_1, G5_3, b5_4, b5_5, q5_1, q5_3, hK.sub ⟨rfl, rfl, rfl, rfl, rfl, rfl, rfl, trivial⟩, (hM.order [[rG b5_4 q5_1], [rG b5_5 q5_3], [rG b1 p], G5_1, G5_3] [1, 0, 2, 3, 4] 5 rfl (by simp) (by decide) _ (by simp)), hd5_1, hd5_3, hr5_1, hr5_3, hs5_1, hs5_3⟩
      ·refine stepAlloc hK hM 3 25 [.slice none 0 0, .slice none 0 0] (fun b => pA b 0) (by kernel_rfl) (by kernel_rfl) fun b5_4 a w hK hM => ?_
       refine tree_next #[true, true, false, false, true, true, false, false] (by kernel_rfl) ?_
       refine treeM [2] (by kernel_rfl) rfl ⟨?_, trivial⟩
       refine stepLoad hK 20 (vG p) (by kernel_rfl) rfl rfl ((hM.row 2 rfl).cells 0 2) (by kernel_rfl) fun a hK => ?_
       refine tree_next #[true, true, true, false, true, true, false, false] (by kernel_rfl) ?_
       refine treeM [3] (by kernel_rfl) rfl ⟨?_, trivial⟩
       refine stepCall hK hM 21 #[vG p] (by kernel_rfl) (run_callE en_ast_Copy rfl rfl (by kernel_rfl)) (ast_Copy p _ (hp.on hM.below) hsh2 hsz2 hln2) ?_
       rintro ⟨q5_3, G5_3⟩ a w ⟨hr5_3, hs5_3, hd5_3⟩ hK hM
       replace hM := (Mem.comm hM).to ((rN b5_4 :: rN b5_5 :: rG b1 p :: (G5_1 ++ G5_3))) (by kernel_rfl)
       refine tree_next #[true, true, true, true, true, true, false, false] (by kernel_rfl) ?_
       refine treeM [6] (by kernel_rfl) rfl ⟨?_, trivial⟩
       refine stepStore hK hM 0 [.slice q5_1.A1 q5_1.ds.length q5_1.c1, .slice q5_1.A2 q5_1.ts.length q5_1.c2] (by kernel_rfl) rfl rfl rfl rfl (by kernel_rfl) fun w hM => ?_
       replace hM := hM.to (rG b5_4 q5_1 :: rN b5_5 :: rG b1 p :: (G5_1 ++ G5_3)) (by kernel_rfl)
       refine tree_next #[true, true, true, true, true, true, true, false] (by kernel_rfl) ?_
       refine treeM [7] (by kernel_rfl) rfl ⟨?_, trivial⟩
       refine stepStore hK hM 1 [.slice q5_3.A1 q5_3.ds.length q5_3.c1, .slice q5_3.A2 q5_3.ts.length q5_3.c2] (by kernel_rfl) rfl rfl rfl rfl (by kernel_rfl) fun w hM => ?_
       replace hM := hM.to (rG b5_4 q5_1 :: rG b5_5 q5_3 :: rG b1 p :: (G5_1 ++ G5_3)) (by kernel_rfl)
       refine tree_next #[true, true, true, true, true, true, true, true] (by kernel_rfl) ?_
       exact treeE (by kernel_rfl) ⟨G5_1, G5_3, b5_4, b5_5, q5_1, q5_3, hK.sub ⟨rfl, rfl, rfl, rfl, rfl, rfl, rfl, trivial⟩, (hM.order [[rG b5_4 q5_1], [rG b5_5 q5_3], [rG b1 p], G5_1, G5_3] [1, 0, 2, 3, 4] 5 rfl (by simp) (by decide) _ (by simp)), hd5_1, hd5_3, hr5_1, hr5_3, hs5_1, hs5_3⟩
     ·refine stepLoad hK 20 (vG p) (by kernel_rfl) rfl rfl ((hM.row 1 rfl).cells 0 2) (by kernel_rfl) fun a hK => ?_
      refine tree_next #[true, false, true, false, false, true, false, false] (by kernel_rfl) ?_
      refine treeM [1, 4] (by kernel_rfl) rfl ⟨?_, ?_, trivial⟩
      ·refine stepCall hK hM 19 #[vG p] (by kernel_rfl) (run_callE en_ast_Copy rfl rfl (by kernel_rfl)) (ast_Copy p _ (hp.on hM.below) hsh2 hsz2 hln2) ?_
       rintro ⟨q5_1, G5_1⟩ a w ⟨hr5_1, hs5_1, hd5_1⟩ hK hM
       replace hM := (Mem.comm hM).to ((rN b5_5 :: rG b1 p :: G5_1)) (by kernel_rfl)
       refine tree_next #[true, true, true, false, false, true, false, false] (by kernel_rfl) ?_
       refine treeM [3, 4] (by kernel_rfl) rfl ⟨?_, ?_, trivial⟩
       ·refine stepCall hK hM 21 #[vG p] (by kernel_rfl) (run_callE en_ast_Copy rfl rfl (by kernel_rfl)) (ast_Copy p _ (hp.on hM.below) hsh2 hsz2 hln2) ?_
        rintro ⟨q5_3, G5_3⟩ a w ⟨hr5_3, hs5_3, hd5_3⟩ hK hM
        replace hM := (Mem.comm hM).to ((rN b5_5 :: rG b1 p :: (G5_1 ++ G5_3))) (by kernel_rfl)
        refine tree_next #[true, true, true, true, false, true, false, false] (by kernel_rfl) ?_
        refine treeM [4] (by kernel_rfl) rfl ⟨?_, trivial⟩
        refine stepAlloc hK hM 3 25 [.slice none 0 0, .slice none 0 0] (fun b => pA b 0) (by kernel_rfl) (by kernel_rfl) fun b5_4 a w hK hM => ?_
        refine tree_next #[true, true, true, true, true, true, false, false] (by kernel_rfl) ?_
        refine treeM [6] (by kernel_rfl) rfl ⟨?_, trivial⟩
        refine stepStore hK hM 0 [.slice q5_1.A1 q5_1.ds.length q5_1.c1, .slice q5_1.A2 q5_1.ts.length q5_1.c2] (by kernel_rfl) rfl rfl rfl rfl (by kernel_rfl) fun w hM => ?_
        replace hM := hM.to (rG b5_4 q5_1 :: rN b5_5 :: rG b1 p :: (G5_1 ++ G5_3)) (by kernel_rfl)
        refine tree_next #[true, true, true, true, true, true, true, false] (by kernel_rfl) ?_
        refine treeM [7] (by kernel_rfl) rfl ⟨?_, trivial⟩
        refine stepStore hK hM 1 [.slice q5_3.A1 q5_3.ds.length q5_3.c1, .slice q5_3.A2 q5_3.ts.length q5_3.c2] (by kernel_rfl) rfl rfl rfl rfl (by kernel_rfl) fun w hM => ?_
        replace hM := hM.to (rG b5_4 q5_1 :: rG b5_5 q5_3 :: rG b1 p :: (G5_1 ++ G5_3)) (by kernel_rfl)
        refine tree_next #[true, true, true, true, true, true, true, true] (by kernel_rfl) ?_
        exact treeE (by kernel_rfl) ⟨G5_1, G5_3, b5_4, b5_5, q5_1, q5_3, hK.sub ⟨rfl, rfl, rfl, rfl, rfl, rfl, rfl, trivial⟩, (hM.order [[rG b5_4 q5_1], [rG b5_5 q5_3], [rG b1 p], G5_1, G5_3] [1, 0, 2, 3, 4] 5 rfl (by simp) (by decide) _ (by simp)), hd5_1, hd5_3, hr5_1, hr5_3, hs5_1, hs5_3⟩
       ·refine stepAlloc hK hM 3 25 [.slice none 0 0, .slice none 0 0] (fun b => pA b 0) (by kernel_rfl) (by kernel_rfl) fun b5_4 a w hK hM => ?_
        refine tree_next #[true, true, true, false, true, true, false, false] (by kernel_rfl) ?_
        refine treeM [3] (by kernel_rfl) rfl ⟨?_, trivial⟩
        refine stepCall hK hM 21 #[vG p] (by kernel_rfl) (run_callE en_ast_Copy rfl rfl (by kernel_rfl)) (ast_Copy p _ (hp.on hM.below) hsh2 hsz2 hln2) ?_
        rintro ⟨q5_3, G5_3⟩ a w ⟨hr5_3, hs5_3, hd5_3⟩ hK hM
        replace hM := (Mem.comm hM).to ((rN b5_4 :: rN b5_5 :: rG b1 p :: (G5_1 ++ G5_3))) (by kernel_rfl)
        refine tree_next #[true, true, true, true, true, true, false, false] (by kernel_rfl) ?_
        refine treeM [6] (by kernel_rfl) rfl ⟨?_, trivial⟩
        refine stepStore hK hM 0 [.slice q5_1.A1 q5_1.ds.length q5_1.c1, .slice q5_1.A2 q5_1.ts.length q5_1.c2] (by kernel_rfl) rfl rfl rfl rfl (by kernel_rfl) fun w hM => ?_
        replace hM := hM.to (rG b5_4 q5_1 :: rN b5_5 :: rG b1 p :: (G5_1 ++ G5_3)) (by kernel_rfl)
        refine tree_next #[true, true, true, true, true, true, true, false] (by kernel_rfl) ?_
        refine treeM [7] (by kernel_rfl) rfl ⟨?_, trivial⟩
        refine stepStore hK hM 1 [.slice q5_3.A1 q5_3.ds.length q5_3.c1, .slice q5_3.A2 q5_3.ts.length q5_3.c2] (by kernel_rfl) rfl rfl rfl rfl (by kernel_rfl) fun w hM => ?_
        replace hM := hM.to (rG b5_4 q5_1 :: rG b5_5 q5_3 :: rG b1 p :: (G5_1 ++ G5_3)) (by kernel_rfl)
        refine tree_next #[true, true, true, true, true, true, true, true] (by kernel_rfl) ?_
        exact treeE (by kernel_rfl) ⟨G5_1, G5_3, b5_4, b5_5, q5_1, q5_3, hK.sub ⟨rfl, rfl, rfl, rfl, rfl, rfl, rfl, trivial⟩, (hM.order [[rG b5_4 q5_1], [rG b5_5 q5_3], [rG b1 p], G5_1, G5_3] [1, 0, 2, 3, 4] 5 rfl (by simp) (by decide) _ (by simp)), hd5_1, hd5_3, hr5_1, hr5_3, hs5_1, hs5_3⟩
      ·refine stepAlloc hK hM 3 25 [.slice none 0 0, .slice none 0 0] (fun b => pA b 0) (by kernel_rfl) (by kernel_rfl) fun b5_4 a w hK hM => ?_
       refine tree_next #[true, false, true, false, true, true, false, false] (by kernel_rfl) ?_
       refine treeM [1] (by kernel_rfl) rfl ⟨?_, trivial⟩
       refine stepCall hK hM 19 #[vG p] (by kernel_rfl) (run_callE en_ast_Copy rfl rfl (by kernel_rfl)) (ast_Copy p _ (hp.on hM.below) hsh2 hsz2 hln2) ?_
       rintro ⟨q5_1, G5_1⟩ a w ⟨hr5_1, hs5_1, hd5_1⟩ hK hM
       replace hM := (Mem.comm hM).to ((rN b5_4 :: rN b5_5 :: rG b1 p :: G5_1)) (by kernel_rfl)
       refine tree_next #[true, true, true, false, true, true, false, false] (by kernel_rfl) ?_
       refine treeM [3] (by kernel_rfl) rfl ⟨?_, trivial⟩
       refine stepCall hK hM 21 #[vG p] (by kernel_rfl) (run_callE en_ast_Copy rfl rfl (by kernel_rfl)) (ast_Copy p _ (hp.on hM.below) hsh2 hsz2 hln2) ?_
       rintro ⟨q5_3, G5_3⟩ a w ⟨hr5_3, hs5_3, hd5_3⟩ hK hM
       replace hM := (Mem.comm hM).to ((rN b5_4 :: rN b5_5 :: rG b1 p :: (G5_1 ++ G5_3))) (by kernel_rfl)
       refine tree_next #[true, true, true, true, true, true, false, false] (by kernel_rfl) ?_
       refine treeM [6] (by kernel_rfl) rfl ⟨?_, trivial⟩
       refine stepStore hK hM 0 [.slice q5_1.A1 q5_1.ds.length q5_1.c1, .slice q5_1.A2 q5_1.ts.length q5_1.c2] (by kernel_rfl) rfl rfl rfl rfl (by kernel_rfl) fun w hM => ?_
       replace hM := hM.to (rG b5_4 q5_1 :: rN b5_5 :: rG b1 p :: (G5_1 ++ G5_3)) (by kernel_rfl)
       refine tree_next #[true, true, true, true, true, true, true, false] (by kernel_rfl) ?_
       refine treeM [7] (by kernel_rfl) rfl ⟨?_, trivial⟩
       refine stepStore hK hM 1 [.slice q5_3.A1 q5_3.ds.length q5_3.c1, .slice q5_3.A2 q5_3.ts.length q5_3.c2] (by kernel_rfl) rfl rfl rfl rfl (by kernel_rfl) fun w hM => ?_
       replace hM := hM.to (rG b5_4 q5_1 :: rG b5_5 q5_3 :: rG b1 p :: (G5_1 ++ G5_3)) (by kernel_rfl)
       refine tree_next #[true, true, true, true, true, true, true, true] (by kernel_rfl) ?_
       exact treeE (by kernel_rfl) ⟨G5_1, G5_3, b5_4, b5_5, q5_1, q5_3, hK.sub ⟨rfl, rfl, rfl, rfl, rfl, rfl, rfl, trivial⟩, (hM.order [[rG b5_4 q5_1], [rG b5_5 q5_3], [rG b1 p], G5_1, G5_3] [1, 0, 2, 3, 4] 5 rfl (by simp) (by decide) _ (by simp)), hd5_1, hd5_3, hr5_1, hr5_3, hs5_1, hs5_3⟩
     ·refine stepAlloc hK hM 3 25 [.slice none 0 0, .slice none 0 0] (fun b => pA b 0) (by kernel_rfl) (by kernel_rfl) fun b5_4 a w hK hM => ?_
      refine tree_next #[true, false, false, false, true, true, false, false] (by kernel_rfl) ?_
      refine treeM [1, 2] (by kernel_rfl) rfl ⟨?_, ?_, trivial⟩
      ·refine stepCall hK hM 19 #[vG p] (by kernel_rfl) (run_callE en_ast_Copy rfl rfl (by kernel_rfl)) (ast_Copy p _ (hp.on hM.below) hsh2 hsz2 hln2) ?_
       rintro ⟨q5_1, G5_1⟩ a w ⟨hr5_1, hs5_1, hd5_1⟩ hK hM
       replace hM := (Mem.comm hM).to ((rN b5_4 :: rN b5_5 :: rG b1 p :: G5_1)) (by kernel_rfl)
       refine tree_next #[true, true, false, false, true, true, false, false] (by kernel_rfl) ?_
       refine treeM [2] (by kernel_rfl) rfl ⟨?_, trivial⟩
       refine stepLoad hK 20 (vG p) (by kernel_rfl) rfl rfl ((hM.row 2 rfl).cells 0 2) (by kernel_rfl) fun a hK => ?_
       refine tree_next #[true, true, true, false, true, true, false, false] (by kernel_rfl) ?_
       refine treeM [3] (by kernel_rfl) rfl ⟨?_, trivial⟩
       refine stepCall hK hM 21 #[vG p] (by kernel_rfl) (run_callE en_ast_Copy rfl rfl (by kernel_rfl)) (ast_Copy p _ (hp.on hM.below) hsh2 hsz2 hln2) ?_
       rintro ⟨q5_3, G5_3⟩ a w ⟨hr5_3, hs5_3, hd5_3⟩ hK hM
       replace hM := (Mem.comm hM).to ((rN b5_4 :: rN b5_5 :: rG b1 p :: (G5_1 ++ G5_3))) (by kernel_rfl)
       refine tree_next #[true, true, true, true, true, true, false, false] (by kernel_rfl) ?_
       refine treeM [6] (by kernel_rfl) rfl ⟨?_, trivial⟩
       refine stepStore hK hM 0 [.slice q5_1.A1 q5_1.ds.length q5_1.c1, .slice q5_1.A2 q5_1.ts.length q5_1.c2] (by kernel_rfl) rfl rfl rfl rfl (by kernel_rfl) fun w hM => ?_
       replace hM := hM.to (rG b5_4 q5_1 :: rN b5_5 :: rG b1 p :: (G5_1 ++ G5_3)) (by kernel_rfl)
       refine tree_next #[true, true, true, true, true, true, true, false] (by kernel_rfl) ?_
       refine treeM [7] (by kernel_rfl) rfl ⟨?_, trivial⟩
       refine stepStore hK hM 1 [.slice q5_3.A1 q5_3.ds.length q5_3.c1, .slice q5_3.A2 q5_3.ts.length q5_3.c2] (by kernel_rfl) rfl rfl rfl rfl (by kernel_rfl) fun w hM => ?_
       replace hM := hM.to (rG b5_4 q5_1 :: rG b5_5 q5_3 :: rG b1 p :: (G5_1 ++ G5_3)) (by kernel_rfl)
       refine tree_next #[true, true, true, true, true, true, true, true] (by kernel_rfl) ?_
       exact treeE (by kernel_rfl) ⟨G5_1, G5_3, b5_4, b5_5, q5_1, q5_3, hK.sub ⟨rfl, rfl, rfl, rfl, rfl, rfl, rfl, trivial⟩, (hM.order [[rG b5_4 q5_1], [rG b5_5 q5_3], [rG b1 p], G5_1, G5_3] [1, 0, 2, 3, 4] 5 rfl (by simp) (by decide) _ (by simp)), hd5_1, hd5_3, hr5_1, hr5_3, hs5_1, hs5_3⟩
      ·refine stepLoad hK 20 (vG p) (by kernel_rfl) rfl rfl ((hM.row 2 rfl).cells 0 2) (by kernel_rfl) fun a hK => ?_
       refine tree_next #[true, false, true, false, true, true, false, false] (by kernel_rfl) ?_
       refine treeM [1] (by kernel_rfl) rfl ⟨?_, trivial⟩
       refine stepCall hK hM 19 #[vG p] (by kernel_rfl) (run_callE en_ast_Copy rfl rfl (by kernel_rfl)) (ast_Copy p _ (hp.on hM.below) hsh2 hsz2 hln2) ?_
       rintro ⟨q5_1, G5_1⟩ a w ⟨hr5_1, hs5_1, hd5_1⟩ hK hM
       replace hM := (Mem.comm hM).to ((rN b5_4 :: rN b5_5 :: rG b1 p :: G5_1)) (by kernel_rfl)
       refine tree_next #[true, true, true, false, true, true, false, false] (by kernel_rfl) ?_
       refine treeM [3] (by kernel_rfl) rfl ⟨?_, trivial⟩
       refine stepCall hK hM 21 #[vG p] (by kernel_rfl) (run_callE en_ast_Copy rfl rfl (by kernel_rfl)) (ast_Copy p _ (hp.on hM.below) hsh2 hsz2 hln2) ?_
       rintro ⟨q5_3, G5_3⟩ a w ⟨hr5_3, hs5_3, hd5_3⟩ hK hM
       replace hM := (Mem.comm hM).to ((rN b5_4 :: rN b5_5 :: rG b1 p :: (G5_1 ++ G5_3))) (by kernel_rfl)
       refine tree_next #[true, true, true, true, true, true, false, false] (by kernel_rfl) ?_
       refine treeM [6] (by kernel_rfl) rfl ⟨?_, trivial⟩
       refine stepStore hK hM 0 [.slice q5_1.A1 q5_1.ds.length q5_1.c1, .slice q5_1.A2 q5_1.ts.length q5_1.c2] (by kernel_rfl) rfl rfl rfl rfl (by kernel_rfl) fun w hM => ?_
       replace hM := hM.to (rG b5_4 q5_1 :: rN b5_5 :: rG b1 p :: (G5_1 ++ G5_3)) (by kernel_rfl)
       refine tree_next #[true, true, true, true, true, true, true, false] (by kernel_rfl) ?_
       refine treeM [7] (by kernel_rfl) rfl ⟨?_, trivial⟩
       refine stepStore hK hM 1 [.slice q5_3.A1 q5_3.ds.length q5_3.c1, .slice q5_3.A2 q5_3.ts.length q5_3.c2] (by kernel_rfl) rfl rfl rfl rfl (by kernel_rfl) fun w hM => ?_
       replace hM := hM.to (rG b5_4 q5_1 :: rG b5_5 q5_3 :: rG b1 p :: (G5_1 ++ G5_3)) (by kernel_rfl)
       refine tree_next #[true, true, true, true, true, true, true, true] (by kernel_rfl) ?_
       exact treeE (by kernel_rfl) ⟨G5_1, G5_3, b5_4, b5_5, q5_1, q5_3, hK.sub ⟨rfl, rfl, rfl, rfl, rfl, rfl, rfl, trivial⟩, (hM.order [[rG b5_4 q5_1], [rG b5_5 q5_3], [rG b1 p], G5_1, G5_3] [1, 0, 2, 3, 4] 5 rfl (by simp) (by decide) _ (by simp)), hd5_1, hd5_3, hr5_1, hr5_3, hs5_1, hs5_3⟩
    ·refine stepLoad hK 20 (vG p) (by kernel_rfl) rfl rfl ((hM.row 1 rfl).cells 0 2) (by kernel_rfl) fun a hK => ?_
     refine tree_next #[false, false, true, false, false, true, false, false] (by kernel_rfl) ?_
     refine treeM [0, 4] (by kernel_rfl) rfl ⟨?_, ?_, trivial⟩
     ·refine stepLoad hK 18 (vG p) (by kernel_rfl) rfl rfl ((hM.row 1 rfl).cells 0 2) (by kernel_rfl) fun a hK => ?_
      refine tree_next #[true, false, true, false, false, true, false, false] (by kernel_rfl) ?_
      refine treeM [1, 4] (by kernel_rfl) rfl ⟨?_, ?_, trivial⟩
      ·refine stepCall hK hM 19 #[vG p] (by kernel_rfl) (run_callE en_ast_Copy rfl rfl (by kernel_rfl)) (ast_Copy p _ (hp.on hM.below) hsh2 hsz2 hln2) ?_
       rintro ⟨q5_1, G5_1⟩ a w ⟨hr5_1, hs5_1, hd5_1⟩ hK hM
       replace hM := (Mem.comm hM).to ((rN b5_5 :: rG b1 p :: G5_1)) (by kernel_rfl)
       refine tree_next #[true, true, true, false, false, true, false, false] (by kernel_rfl) ?_
       refine treeM [3, 4] (by kernel_rfl) rfl ⟨?_, ?_, trivial⟩
       ·refine stepCall hK hM 21 #[vG p] (by kernel_rfl) (run_callE en_ast_Copy rfl rfl (by kernel_rfl)) (ast_Copy p _ (hp.on hM.below) hsh2 hsz2 hln2) ?_
        rintro ⟨q5_3, G5_3⟩ a w ⟨hr5_3, hs5_3, hd5_3⟩ hK hM
        replace hM := (Mem.comm hM).to ((rN b5_5 :: rG b1 p :: (G5_1 ++ G5_3))) (by kernel_rfl)
        refine tree_next #[true, true, true, true, false, true, false, false] (by kernel_rfl) ?_
        refine treeM [4] (by kernel_rfl) rfl ⟨?_, trivial⟩
        refine stepAlloc hK hM 3 25 [.slice none 0 0, .slice none 0 0] (fun b => pA b 0) (by kernel_rfl) (by kernel_rfl) fun b5_4 a w hK hM => ?_
        refine tree_next #[true, true, true, true, true, true, false, false] (by kernel_rfl) ?_
        refine treeM [6] (by kernel_rfl) rfl ⟨?_, trivial⟩
        refine stepStore hK hM 0 [.slice q5_1.A1 q5_1.ds.length q5_1.c1, .slice q5_1.A2 q5_1.ts.length q5_1.c2] (by kernel_rfl) rfl rfl rfl rfl (by kernel_rfl) fun w hM => ?_
        replace hM := hM.to (rG b5_4 q5_1 :: rN b5_5 :: rG b1 p :: (G5_1 ++ G5_3)) (by kernel_rfl)
        refine tree_next #[true, true, true, true, true, true, true, false] (by kernel_rfl) ?_
        refine treeM [7] (by kernel_rfl) rfl ⟨?_, trivial⟩
        refine stepStore hK hM 1 [.slice q5_3.A1 q5_3.ds.length q5_3.c1, .slice q5_3.A2 q5_3.ts.length q5_3.c2] (by kernel_rfl) rfl rfl rfl rfl (by kernel_rfl) fun w hM => ?_
        replace hM := hM.to (rG b5_4 q5_1 :: rG b5_5 q5_3 :: rG b1 p :: (G5_1 ++ G5_3)) (by kernel_rfl)
        refine tree_next #[true, true, true, true, true, true, true, true] (by kernel_rfl) ?_
        exact treeE (by kernel_rfl) ⟨G5_1, G5_3, b5_4, b5_5, q5_1, q5_3, hK.sub ⟨rfl, rfl, rfl, rfl, rfl, rfl, rfl, trivial⟩, (hM.order [[rG b5_4 q5_1], [rG b5_5 q5_3], [rG b1 p], G5_1, G5_3] [1, 0, 2, 3, 4] 5 rfl (by simp) (by decide) _ (by simp)), hd5_1, hd5_3, hr5_1, hr5_3, hs5_1, hs5_3⟩
       ·refine stepAlloc hK hM 3 25 [.slice none 0 0, .slice none 0 0] (fun b => pA b 0) (by kernel_rfl) (by kernel_rfl) fun b5_4 a w hK hM => ?_
        refine tree_next #[true, true, true, false, true, true, false, false] (by kernel_rfl) ?_
        refine treeM [3] (by kernel_rfl) rfl ⟨?_, trivial⟩
        refine stepCall hK hM 21 #[vG p] (by kernel_rfl) (run_callE en_ast_Copy rfl rfl (by kernel_rfl)) (ast_Copy p _ (hp.on hM.below) hsh2 hsz2 hln2) ?_
        rintro ⟨q5_3, G5_3⟩ a w ⟨hr5_3, hs5_3, hd5_3⟩ hK hM
        replace hM := (Mem.comm hM).to ((rN b5_4 :: rN b5_5 :: rG b1 p :: (G5_1 ++ G5_3))) (by kernel_rfl)
        refine tree_next #[true, true, true, true, true, true, false, false] (by kernel_rfl) ?_
        refine treeM [6] (by kernel_rfl) rfl ⟨?_, trivial⟩
        refine stepStore hK hM 0 [.slice q5_1.A1 q5_1.ds.length q5_1.c1, .slice q5_1.A2 q5_1.ts.length q5_1.c2] (by kernel_rfl) rfl rfl rfl rfl (by kernel_rfl) fun w hM => ?_
        replace hM := hM.to (rG b5_4 q5_1 :: rN b5_5 :: rG b1 p :: (G5_1 ++ G5_3)) (by kernel_rfl)
        refine tree_next #[true, true, true, true, true, true, true, false] (by kernel_rfl) ?_
        refine treeM [7] (by kernel_rfl) rfl ⟨?_, trivial⟩
        refine stepStore hK hM 1 [.slice q5_3.A1 q5_3.ds.length q5_3.c1, .slice q5_3.A2 q5_3.ts.length q5_3.c2] (by kernel_rfl) rfl rfl rfl rfl (by kernel_rfl) fun w hM => ?_
        replace hM := hM.to (rG b5_4 q5_1 :: rG b5_5 q5_3 :: rG b1 p :: (G5_1 ++ G5_3)) (by kernel_rfl)
        refine tree_next #[true, true, true, true, true, true, true, true] (by kernel_rfl) ?_
        exact treeE (by kernel_rfl) ⟨G5_1, G5_3, b5_4, b5_5, q5_1, q5_3, hK.sub ⟨rfl, rfl, rfl, rfl, rfl, rfl, rfl, trivial⟩, (hM.order [[rG b5_4 q5_1], [rG b5_5 q5_3], [rG b1 p], G5_1, G5_3] [1, 0, 2, 3, 4] 5 rfl (by simp) (by decide) _ (by simp)), hd5_1, hd5_3, hr5_1, hr5_3, hs5_1, hs5_3⟩
      ·refine stepAlloc hK hM 3 25 [.slice none 0 0, .slice none 0 0] (fun b => pA b 0) (by kernel_rfl) (by kernel_rfl) fun b5_4 a w hK hM => ?_
       refine tree_next #[true, false, true, false, true, true, false, false] (by kernel_rfl) ?_
       refine treeM [1] (by kernel_rfl) rfl ⟨?_, trivial⟩
       refine stepCall hK hM 19 #[vG p] (by kernel_rfl) (run_callE en_ast_Copy rfl rfl (by kernel_rfl)) (ast_Copy p _ (hp.on hM.below) hsh2 hsz2 hln2) ?_
       rintro ⟨q5_1, G5_1⟩ a w ⟨hr5_1, hs5_1, hd5_1⟩ hK hM
       replace hM := (Mem.comm hM).to ((rN b5_4 :: rN b5_5 :: rG b1 p :: G5_1)) (by kernel_rfl)
       refine tree_next #[true, true, true, false, true, true, false, false] (by kernel_rfl) ?_
       refine treeM [3] (by kernel_rfl) rfl ⟨?_, trivial⟩
       refine stepCall hK hM 21 #[vG p] (by kernel_rfl) (run_callE en_ast_Copy rfl rfl (by kernel_rfl)) (ast_Copy p _ (hp.on hM.below) hsh2 hsz2 hln2) ?_
       rintro ⟨q5_3, G5_3⟩ a w ⟨hr5_3, hs5_3, hd5_3⟩ hK hM
       replace hM := (Mem.comm hM).to ((rN b5_4 :: rN b5_5 :: rG b1 p :: (G5_1 ++ G5_3))) (by kernel_rfl)
       refine tree_next #[true, true, true, true, true, true, false, false] (by kernel_rfl) ?_
       refine treeM [6] (by kernel_rfl) rfl ⟨?_, trivial⟩
       refine stepStore hK hM 0 [.slice q5_1.A1 q5_1.ds.length q5_1.c1, .slice q5_1.A2 q5_1.ts.length q5_1.c2] (by kernel_rfl) rfl rfl rfl rfl (by kernel_rfl) fun w hM => ?_
       replace hM := hM.to (rG b5_4 q5_1 :: rN b5_5 :: rG b1 p :: (G5_1 ++ G5_3)) (by kernel_rfl)
       refine tree_next #[true, true, true, true, true, true, true, false] (by kernel_rfl) ?_
       refine treeM [7] (by kernel_rfl) rfl ⟨?_, trivial⟩
       refine stepStore hK hM 1 [.slice q5_3.A1 q5_3.ds.length q5_3.c1, .slice q5_3.A2 q5_3.ts.length q5_3.c2] (by kernel_rfl) rfl rfl rfl rfl (by kernel_rfl) fun w hM => ?_
       replace hM := hM.to (rG b5_4 q5_1 :: rG b5_5 q5_3 :: rG b1 p :: (G5_1 ++ G5_3)) (by kernel_rfl)
       refine tree_next #[true, true, true, true, true, true, true, true] (by kernel_rfl) ?_
       exact treeE (by kernel_rfl) ⟨G5_1, G5_3, b5_4, b5_5, q5_1, q5_3, hK.sub ⟨rfl, rfl, rfl, rfl, rfl, rfl, rfl, trivial⟩, (hM.order [[rG b5_4 q5_1], [rG b5_5 q5_3], [rG b1 p], G5_1, G5_3] [1, 0, 2, 3, 4] 5 rfl (by simp) (by decide) _ (by simp)), hd5_1, hd5_3, hr5_1, hr5_3, hs5_1, hs5_3⟩
     ·refine stepAlloc hK hM 3 25 [.slice none 0 0, .slice none 0 0] (fun b => pA b 0) (by kernel_rfl) (by kernel_rfl) fun b5_4 a w hK hM => ?_
      refine tree_next #[false, false, true, false, true, true, false, false] (by kernel_rfl) ?_
      refine treeM [0] (by kernel_rfl) rfl ⟨?_, trivial⟩
      refine stepLoad hK 18 (vG p) (by kernel_rfl) rfl rfl ((hM.row 2 rfl).cells 0 2) (by kernel_rfl) fun a hK => ?_
      refine tree_next #[true, false, true, false, true, true, false, false] (by kernel_rfl) ?_
      refine treeM [1] (by kernel_rfl) rfl ⟨?_, trivial⟩
      refine stepCall hK hM 19 #[vG p] (by kernel_rfl) (run_callE en_ast_Copy rfl rfl (by kernel_rfl)) (ast_Copy p _ (hp.on hM.below) hsh2 hsz2 hln2) ?_
      rintro ⟨q5_1, G5_1⟩ a w ⟨hr5_1, hs5_1, hd5_1⟩ hK hM
      replace hM := (Mem.comm hM).to ((rN b5_4 :: rN b5_5 :: rG b1 p :: G5_1)) (by kernel_rfl)
      refine tree_next #[true, true, true, false, true, true, false, false] (by kernel_rfl) ?_
      refine treeM [3] (by kernel_rfl) rfl ⟨?_, trivial⟩
      refine stepCall hK hM 21 #[vG p] (by kernel_rfl) (run_callE en_ast_Copy rfl rfl (by kernel_rfl)) (ast_Copy p _ (hp.on hM.below) hsh2 hsz2 hln2) ?_
      rintro ⟨q5_3, G5_3⟩ a w ⟨hr5_3, hs5_3, hd5_3⟩ hK hM
      replace hM := (Mem.comm hM).to ((rN b5_4 :: rN b5_5 :: rG b1 p :: (G5_1 ++ G5_3))) (by kernel_rfl)
      refine tree_next #[true, true, true, true, true, true, false, false] (by kernel_rfl) ?_
      refine treeM [6] (by kernel_rfl) rfl ⟨?_, trivial⟩
      refine stepStore hK hM 0 [.slice q5_1.A1 q5_1.ds.length q5_1.c1, .slice q5_1.A2 q5_1.ts.length q5_1.c2] (by kernel_rfl) rfl rfl rfl rfl (by kernel_rfl) fun w hM => ?_
      replace hM := hM.to (rG b5_4 q5_1 :: rN b5_5 :: rG b1 p :: (G5_1 ++ G5_3)) (by kernel_rfl)
      refine tree_next #[true, true, true, true, true, true, true, false] (by kernel_rfl) ?_
      refine treeM [7] (by kernel_rfl) rfl ⟨?_, trivial⟩
      refine stepStore hK hM 1 [.slice q5_3.A1 q5_3.ds.length q5_3.c1, .slice q5_3.A2 q5_3.ts.length q5_3.c2] (by kernel_rfl) rfl rfl rfl rfl (by kernel_rfl) fun w hM => ?_
      replace hM := hM.to (rG b5_4 q5_1 :: rG b5_5 q5_3 :: rG b1 p :: (G5_1 ++ G5_3)) (by kernel_rfl)
      refine tree_next #[true, true, true, true, true, true, true, true] (by kernel_rfl) ?_
      exact treeE (by kernel_rfl) ⟨G5_1, G5_3, b5_4, b5_5, q5_1, q5_3, hK.sub ⟨rfl, rfl, rfl, rfl, rfl, rfl, rfl, trivial⟩, (hM.order [[rG b5_4 q5_1], [rG b5_5 q5_3], [rG b1 p], G5_1, G5_3] [1, 0, 2, 3, 4] 5 rfl (by simp) (by decide) _ (by simp)), hd5_1, hd5_3, hr5_1, hr5_3, hs5_1, hs5_3⟩
    ·refine stepAlloc hK hM 3 25 [.slice none 0 0, .slice none 0 0] (fun b => pA b 0) (by kernel_rfl) (by kernel_rfl) fun b5_4 a w hK hM => ?_
     refine tree_next #[false, false, false, false, true, true, false, false] (by kernel_rfl) ?_
     refine treeM [0, 2] (by kernel_rfl) rfl ⟨?_, ?_, trivial⟩
     ·refine stepLoad hK 18 (vG p) (by kernel_rfl) rfl rfl ((hM.row 2 rfl).cells 0 2) (by kernel_rfl) fun a hK => ?_
      refine tree_next #[true, false, false, false, true, true, false, false] (by kernel_rfl) ?_
      refine treeM [1, 2] (by kernel_rfl) rfl ⟨?_, ?_, trivial⟩
      ·refine stepCall hK hM 19 #[vG p] (by kernel_rfl) (run_callE en_ast_Copy rfl rfl (by kernel_rfl)) (ast_Copy p _ (hp.on hM.below) hsh2 hsz2 hln2) ?_
       rintro ⟨q5_1, G5_1⟩ a w ⟨hr5_1, hs5_1, hd5_1⟩ hK hM
       replace hM := (Mem.comm hM).to ((rN b5_4 :: rN b5_5 :: rG b1 p :: G5_1)) (by kernel_rfl)
       refine tree_next #[true, true, false, false, true, true, false, false] (by kernel_rfl) ?_
       refine treeM [2] (by kernel_rfl) rfl ⟨?_, trivial⟩
       refine stepLoad hK 20 (vG p) (by kernel_rfl) rfl rfl ((hM.row 2 rfl).cells 0 2) (by kernel_rfl) fun a hK => ?_
       refine tree_next #[true, true, true, false, true, true, false, false] (by kernel_rfl) ?_
       refine treeM [3] (by kernel_rfl) rfl ⟨?_, trivial⟩
       refine stepCall hK hM 21 #[vG p] (by kernel_rfl) (run_callE en_ast_Copy rfl rfl (by kernel_rfl)) (ast_Copy p _ (hp.on hM.below) hsh2 hsz2 hln2) ?_
       rintro ⟨q5_3, G5_3⟩ a w ⟨hr5_3, hs5_3, hd5_3⟩ hK hM
       replace hM := (Mem.comm hM).to ((rN b5_4 :: rN b5_5 :: rG b1 p :: (G5_1 ++ G5_3))) (by kernel_rfl)
       refine tree_next #[true, true, true, true, true, true, false, false] (by kernel_rfl) ?_
       refine treeM [6] (by kernel_rfl) rfl ⟨?_, trivial⟩
       refine stepStore hK hM 0 [.slice q5_1.A1 q5_1.ds.length q5_1.c1, .slice q5_1.A2 q5_1.ts.length q5_1.c2] (by kernel_rfl) rfl rfl rfl rfl (by kernel_rfl) fun w hM => ?_
       replace hM := hM.to (rG b5_4 q5_1 :: rN b5_5 :: rG b1 p :: (G5_1 ++ G5_3)) (by kernel_rfl)
       refine tree_next #[true, true, true, true, true, true, true, false] (by kernel_rfl) ?_
       refine treeM [7] (by kernel_rfl) rfl ⟨?_, trivial⟩
       refine stepStore hK hM 1 [.slice q5_3.A1 q5_3.ds.length q5_3.c1, .slice q5_3.A2 q5_3.ts.length q5_3.c2] (by kernel_rfl) rfl rfl rfl rfl (by kernel_rfl) fun w hM => ?_
       replace hM := hM.to (rG b5_4 q5_1 :: rG b5_5 q5_3 :: rG b1 p :: (G5_1 ++ G5_3)) (by kernel_rfl)
       refine tree_next #[true, true, true, true, true, true, true, true] (by kernel_rfl) ?_
       exact treeE (by kernel_rfl) ⟨G5_1, G5_3, b5_4, b5_5, q5_1, q5_3, hK.sub ⟨rfl, rfl, rfl, rfl, rfl, rfl, rfl, trivial⟩, (hM.order [[rG b5_4 q5_1], [rG b5_5 q5_3], [rG b1 p], G5_1, G5_3] [1, 0, 2, 3, 4] 5 rfl (by simp) (by decide) _ (by simp)), hd5_1, hd5_3, hr5_1, hr5_3, hs5_1, hs5_3⟩
      ·refine stepLoad hK 20 (vG p) (by kernel_rfl) rfl rfl ((hM.row 2 rfl).cells 0 2) (by kernel_rfl) fun a hK => ?_
       refine tree_next #[true, false, true, false, true, true, false, false] (by kernel_rfl) ?_
       refine treeM [1] (by kernel_rfl) rfl ⟨?_, trivial⟩
       refine stepCall hK hM 19 #[vG p] (by kernel_rfl) (run_callE en_ast_Copy rfl rfl (by kernel_rfl)) (ast_Copy p _ (hp.on hM.below) hsh2 hsz2 hln2) ?_
       rintro ⟨q5_1, G5_1⟩ a w ⟨hr5_1, hs5_1, hd5_1⟩ hK hM
       replace hM := (Mem.comm hM).to ((rN b5_4 :: rN b5_5 :: rG b1 p :: G5_1)) (by kernel_rfl)
       refine tree_next #[true, true, true, false, true, true, false, false] (by kernel_rfl) ?_
       refine treeM [3] (by kernel_rfl) rfl ⟨?_, trivial⟩
       refine stepCall hK hM 21 #[vG p] (by kernel_rfl) (run_callE en_ast_Copy rfl rfl (by kernel_rfl)) (ast_Copy p _ (hp.on hM.below) hsh2 hsz2 hln2) ?_
       rintro ⟨q5_3, G5_3⟩ a w ⟨hr5_3, hs5_3, hd5_3⟩ hK hM
       replace hM := (Mem.comm hM).to ((rN b5_4 :: rN b5_5 :: rG b1 p :: (G5_1 ++ G5_3))) (by kernel_rfl)
       refine tree_next #[true, true, true, true, true, true, false, false] (by kernel_rfl) ?_
       refine treeM [6] (by kernel_rfl) rfl ⟨?_, trivial⟩
       refine stepStore hK hM 0 [.slice q5_1.A1 q5_1.ds.length q5_1.c1, .slice q5_1.A2 q5_1.ts.length q5_1.c2] (by kernel_rfl) rfl rfl rfl rfl (by kernel_rfl) fun w hM => ?_
       replace hM := hM.to (rG b5_4 q5_1 :: rN b5_5 :: rG b1 p :: (G5_1 ++ G5_3)) (by kernel_rfl)
       refine tree_next #[true, true, true, true, true, true, true, false] (by kernel_rfl) ?_
       refine treeM [7] (by kernel_rfl) rfl ⟨?_, trivial⟩
       refine stepStore hK hM 1 [.slice q5_3.A1 q5_3.ds.length q5_3.c1, .slice q5_3.A2 q5_3.ts.length q5_3.c2] (by kernel_rfl) rfl rfl rfl rfl (by kernel_rfl) fun w hM => ?_
       replace hM := hM.to (rG b5_4 q5_1 :: rG b5_5 q5_3 :: rG b1 p :: (G5_1 ++ G5_3)) (by kernel_rfl)
       refine tree_next #[true, true, true, true, true, true, true, true] (by kernel_rfl) ?_
       exact treeE (by kernel_rfl) ⟨G5_1, G5_3, b5_4, b5_5, q5_1, q5_3, hK.sub ⟨rfl, rfl, rfl, rfl, rfl, rfl, rfl, trivial⟩, (hM.order [[rG b5_4 q5_1], [rG b5_5 q5_3], [rG b1 p], G5_1, G5_3] [1, 0, 2, 3, 4] 5 rfl (by simp) (by decide) _ (by simp)), hd5_1, hd5_3, hr5_1, hr5_3, hs5_1, hs5_3⟩
     ·refine stepLoad hK 20 (vG p) (by kernel_rfl) rfl rfl ((hM.row 2 rfl).cells 0 2) (by kernel_rfl) fun a hK => ?_
      refine tree_next #[false, false, true, false, true, true, false, false] (by kernel_rfl) ?_
      refine treeM [0] (by kernel_rfl) rfl ⟨?_, trivial⟩
      refine stepLoad hK 18 (vG p) (by kernel_rfl) rfl rfl ((hM.row 2 rfl).cells 0 2) (by kernel_rfl) fun a hK => ?_
      refine tree_next #[true, false, true, false, true, true, false, false] (by kernel_rfl) ?_
      refine treeM [1] (by kernel_rfl) rfl ⟨?_, trivial⟩
      refine stepCall hK hM 19 #[vG p] (by kernel_rfl) (run_callE en_ast_Copy rfl rfl (by kernel_rfl)) (ast_Copy p _ (hp.on hM.below) hsh2 hsz2 hln2) ?_
      rintro ⟨q5_1, G5_1⟩ a w ⟨hr5_1, hs5_1, hd5_1⟩ hK hM
      replace hM := (Mem.comm hM).to ((rN b5_4 :: rN b5_5 :: rG b1 p :: G5_1)) (by kernel_rfl)
      refine tree_next #[true, true, true, false, true, true, false, false] (by kernel_rfl) ?_
      refine treeM [3] (by kernel_rfl) rfl ⟨?_, trivial⟩
      refine stepCall hK hM 21 #[vG p] (by kernel_rfl) (run_callE en_ast_Copy rfl rfl (by kernel_rfl)) (ast_Copy p _ (hp.on hM.below) hsh2 hsz2 hln2) ?_
      rintro ⟨q5_3, G5_3⟩ a w ⟨hr5_3, hs5_3, hd5_3⟩ hK hM
      replace hM := (Mem.comm hM).to ((rN b5_4 :: rN b5_5 :: rG b1 p :: (G5_1 ++ G5_3))) (by kernel_rfl)
      refine tree_next #[true, true, true, true, true, true, false, false] (by kernel_rfl) ?_
      refine treeM [6] (by kernel_rfl) rfl ⟨?_, trivial⟩
      refine stepStore hK hM 0 [.slice q5_1.A1 q5_1.ds.length q5_1.c1, .slice q5_1.A2 q5_1.ts.length q5_1.c2] (by kernel_rfl) rfl rfl rfl rfl (by kernel_rfl) fun w hM => ?_
      replace hM := hM.to (rG b5_4 q5_1 :: rN b5_5 :: rG b1 p :: (G5_1 ++ G5_3)) (by kernel_rfl)
      refine tree_next #[true, true, true, true, true, true, true, false] (by kernel_rfl) ?_
      refine treeM [7] (by kernel_rfl) rfl ⟨?_, trivial⟩
      refine stepStore hK hM 1 [.slice q5_3.A1 q5_3.ds.length q5_3.c1, .slice q5_3.A2 q5_3.ts.length q5_3.c2] (by kernel_rfl) rfl rfl rfl rfl (by kernel_rfl) fun w hM => ?_
      replace hM := hM.to (rG b5_4 q5_1 :: rG b5_5 q5_3 :: rG b1 p :: (G5_1 ++ G5_3)) (by kernel_rfl)
      refine tree_next #[true, true, true, true, true, true, true, true] (by kernel_rfl) ?_
      exact treeE (by kernel_rfl) ⟨G5_1, G5_3, b5_4, b5_5, q5_1, q5_3, hK.sub ⟨rfl, rfl, rfl, rfl, rfl, rfl, rfl, trivial⟩, (hM.order [[rG b5_4 q5_1], [rG b5_5 q5_3], [rG b1 p], G5_1, G5_3] [1, 0, 2, 3, 4] 5 rfl (by simp) (by decide) _ (by simp)), hd5_1, hd5_3, hr5_1, hr5_3, hs5_1, hs5_3⟩
  rintro a w ⟨G5_1, G5_3, b5_4, b5_5, q5_1, q5_3, hK, hM, hd5_1, hd5_3, hr5_1, hr5_3, hs5_1, hs5_3⟩
  refine wp_seq ?_
  refine wp_seq ?_
  have hPa : ∀ w, Mem w0 w (rG b5_5 q5_3 :: rG b5_4 q5_1 :: rG b1 p :: (G5_1 ++ G5_3)) → PgAt w q5_1 := fun w hM => (hr5_1.mono (fun it hi => by simp [hi])).at hM
  have hpl := hp.len; have hdz := thsDp_sz p.ts
  have hal := hr5_1.len; have hbl := hr5_3.len
  refine region_any (F := fun w => Mem w0 w (rG b5_5 q5_3 :: rG b5_4 q5_1 :: rG b1 p :: (G5_1 ++ G5_3))) hK [some (vG q5_1), some (vG p), some (.bool true), some (.bool false), some (.bool false), some (vG p), some (.int .i64 (((thsSz p.ts) : Nat) : Int)), some (vG p), some (.int .i64 (((thsDp p.ts) : Nat) : Int)), some (.bool false), some (.bool false)] 11 (fun _ _ hb hm => hm.go hb) hM (by kernel_rfl) (by kernel_rfl) ⟨⟨⟨⟨⟨⟨⟨⟨⟨⟨⟨trivial, ?_⟩, ?_⟩, ?_⟩, ?_⟩, ?_⟩, ?_⟩, ?_⟩, ?_⟩, ?_⟩, ?_⟩, ?_⟩ [(32, .bool false), (4, pA b5_5 0), (3, pA b5_4 0), (17, .bool false), (14, .bool false), (2, .bool false), (1, pA b1 0), (0, vG p)] (by kernel_rfl) fun a w hK hM => ?_
  ·exact .val (vG q5_1) rfl (by kernel_rfl) (fun w hM => run_loadE rfl rfl ((hM.row 1 rfl).cells 0 2) (by kernel_rfl))
  ·exact .val (vG p) rfl (by kernel_rfl) (fun w hM => run_loadE rfl rfl ((hM.row 2 rfl).cells 0 2) (by kernel_rfl))
  ·exact .call _ #[vG q5_1, vG p] (.bool true) rfl (by kernel_rfl) (fun w => (run_callE en_ast_Same rfl rfl (by kernel_rfl))) (fun w hM => ret_eq (ast_Same q5_1 p _ (hPa _ hM) (hp.on hM.below)) (congrArg Value.bool hs5_1))
  ·exact .val (.bool false) rfl (by kernel_rfl) (fun w hM => (by kernel_rfl))
  ·exact .val (.bool false) rfl (by kernel_rfl) (fun w hM => (by kernel_rfl))
  ·exact .val (vG p) rfl (by kernel_rfl) (fun w hM => run_loadE rfl rfl ((hM.row 2 rfl).cells 0 2) (by kernel_rfl))
  ·exact .call _ #[vG p] (.int .i64 (((thsSz p.ts) : Nat) : Int)) rfl (by kernel_rfl) (fun w => (run_callE en_ast_Size rfl rfl (by kernel_rfl))) (fun w hM => ast_Size p _ (hp.on hM.below) (by omega) hsh)
  ·exact .val (vG p) rfl (by kernel_rfl) (fun w hM => run_loadE rfl rfl ((hM.row 2 rfl).cells 0 2) (by kernel_rfl))
  ·exact .call _ #[vG p] (.int .i64 (((thsDp p.ts) : Nat) : Int)) rfl (by kernel_rfl) (fun w => (run_callE en_ast_Deep rfl rfl (by kernel_rfl))) (fun w hM => ast_Deep p _ (hp.on hM.below) (by omega) hsh)
  ·exact .val (.bool false) rfl (by kernel_rfl) (fun w hM => (okBool (b := (decide (((((thsSz p.ts) : Nat) : Int) : Int) < (((thsDp p.ts) : Nat) : Int)))) (by kernel_rfl) (decide_eq_false (by omega))))
  ·exact .val (.bool false) rfl (by kernel_rfl) (fun w hM => (by kernel_rfl))
  refine wp_cond_false (hK.get rfl) ?_
  refine wp_skip ?_
  refine wp_seq ?_
  refine wp_seq ?_
  refine region_go (lst := [0]) (by kernel_rfl) ?_
  refine stepP hK 5 (.int .i64 0) (by kernel_rfl) (by kernel_rfl) fun a hK => ?_
  refine region_done hK [(5, .int .i64 0), (32, .bool false), (4, pA b5_5 0), (3, pA b5_4 0), (17, .bool false), (14, .bool false), (2, .bool false), (1, pA b1 0), (0, vG p)] ⟨rfl, rfl, rfl, rfl, rfl, rfl, rfl, rfl, rfl, trivial⟩ fun a hK => ?_
  refine wp_block ?_
  refine wp_loopX (fun x : Nat × (List It) => [(32, .bool false), (4, pA b5_5 0), (3, pA b5_4 0), (17, .bool false), (14, .bool false), (2, .bool false), (1, pA b1 0), (0, vG p), (5, .int .i64 ((x.1 : Nat) : Int))]) (fun x : Nat × (List It) => (rG b5_5 q5_3 :: rG b5_4 q5_1 :: rG b1 p :: (x.2 ++ G5_3))) (fun x : Nat × (List It) => x.1 ≤ q5_1.ds.length ∧ Like G5_1 x.2) (fun x : Nat × (List It) => q5_1.ds.length - x.1) (0, G5_1) (hK.sub ⟨rfl, rfl, rfl, rfl, rfl, rfl, rfl, rfl, rfl, trivial⟩) hM ⟨Nat.zero_le _, (Like.refl G5_1)⟩ ?_
  rintro ⟨di, F3⟩ a w hK hM hR
  replace hK : Knows a 156 [(32, .bool false), (4, pA b5_5 0), (3, pA b5_4 0), (17, .bool false), (14, .bool false), (2, .bool false), (1, pA b1 0), (0, vG p), (5, vN di)] := hK
  replace hM : Mem w0 w (rG b5_5 q5_3 :: rG b5_4 q5_1 :: rG b1 p :: (F3 ++ G5_3)) := hM
  replace hR : di ≤ q5_1.ds.length ∧ Like G5_1 F3 := hR
  have hL3 := hR.2
  refine wp_seq ?_
  refine wp_seq ?_
  refine region_go (lst := [0, 1, 2, 3, 4]) (by kernel_rfl) ?_
  refine stepM hK 33 5 (by kernel_rfl) (.inl rfl) rfl fun a hK => ?_
  refine stepP hK 34 (pA b5_4 0) (by kernel_rfl) (by kernel_rfl) fun a hK => ?_
  refine stepLoad hK 35 (.slice q5_1.A1 q5_1.ds.length q5_1.c1) (by kernel_rfl) rfl rfl ((hM.row 1 rfl).cells 0 1) (by kernel_rfl) fun a hK => ?_
  refine stepP hK 36 (.int .i64 ((q5_1.ds.length : Nat) : Int)) (by kernel_rfl) (by kernel_rfl) fun a hK => ?_
  by_cases h4 : (((di : Nat) : Int) : Int) < ((q5_1.ds.length : Nat) : Int)
  ·refine stepP hK 37 (.bool true) (by kernel_rfl) (okBool (b := (decide ((((di : Nat) : Int) : Int) < ((q5_1.ds.length : Nat) : Int)))) (by kernel_rfl) (decide_eq_true h4)) fun a hK => ?_
   refine region_done hK [(37, .bool true), (32, .bool false), (4, pA b5_5 0), (3, pA b5_4 0), (17, .bool false), (14, .bool false), (2, .bool false), (1, pA b1 0), (0, vG p), (5, vN di)] ⟨rfl, rfl, rfl, rfl, rfl, rfl, rfl, rfl, rfl, rfl, trivial⟩ fun a hK => ?_
   refine wp_cond_true (hK.get rfl) ?_
   refine wp_skip ?_
   refine wp_seq ?_
   refine wp_block ?_
   refine region_go (lst := [0, 1, 2, 3, 4, 5]) (by kernel_rfl) ?_
   refine stepP hK 40 (pA b5_4 0) (by kernel_rfl) (by kernel_rfl) fun a hK => ?_
   refine stepLoad hK 41 (.slice q5_1.A1 q5_1.ds.length q5_1.c1) (by kernel_rfl) rfl rfl ((hM.row 1 rfl).cells 0 1) (by kernel_rfl) fun a hK => ?_
   refine stepM hK 42 5 (by kernel_rfl) (.inl rfl) rfl fun a hK => ?_
   obtain ⟨t5, ht5⟩ : ∃ t, q5_1.ds[(di : Nat)]? = some t := ⟨_, List.getElem?_eq_getElem (by omega)⟩
   obtain ⟨b6, j6, d6, A6, g6, l6, -⟩ := like_el hL3 (f := cD) (s := 3) (fun _ => rfl) (by decide) hr5_1.decls ht5
   obtain ⟨o6q, e6⟩ := like_D l6
   refine stepP hK 43 (.pointer (some ((⟨b6, 0, none⟩ : Addr).add (di * 3)))) (by kernel_rfl) (run_ixA (k := di) (s := 3) rfl rfl A6 rfl Tryd.underlying22 (by kernel_rfl) (by omega)) fun a hK => ?_
   refine stepP hK 44 (.pointer (some (((⟨b6, 0, none⟩ : Addr).add (di * 3)).add 2))) (by kernel_rfl) (by kernel_rfl) fun a hK => ?_
   refine stepStoreLike hK [rG b5_5 q5_3, rG b5_4 q5_1, rG b1 p] _ F3 G5_3 hM hL3 2 (k := di) (s := 3) (by kernel_rfl) rfl rfl rfl rfl g6 (by kernel_rfl) e6 rfl fun w F7 hL7 hM => ?_
   replace hM := hM.to ((rG b5_5 q5_3 :: rG b5_4 q5_1 :: rG b1 p :: (F7 ++ G5_3))) (by kernel_rfl)
   refine region_done hK [(37, .bool true), (32, .bool false), (4, pA b5_5 0), (3, pA b5_4 0), (17, .bool false), (14, .bool false), (2, .bool false), (1, pA b1 0), (0, vG p), (5, vN di)] ⟨rfl, rfl, rfl, rfl, rfl, rfl, rfl, rfl, rfl, rfl, trivial⟩ fun a hK => ?_
   refine region_go (lst := [0, 1, 2]) (by kernel_rfl) ?_
   refine stepM hK 38 5 (by kernel_rfl) (.inl rfl) rfl fun a hK => ?_
   refine stepP hK 39 (.int .i64 (((di + 1) : Nat) : Int)) (by kernel_rfl) (run_addN (i := di) (j := 1) rfl rfl rfl (by omega)) fun a hK => ?_
   refine stepM hK 5 39 (by kernel_rfl) (.inr rfl) rfl fun a hK => ?_
   refine region_done hK [(5, .int .i64 (((di + 1) : Nat) : Int)), (37, .bool true), (32, .bool false), (4, pA b5_5 0), (3, pA b5_4 0), (17, .bool false), (14, .bool false), (2, .bool false), (1, pA b1 0), (0, vG p)] ⟨rfl, rfl, rfl, rfl, rfl, rfl, rfl, rfl, rfl, rfl, trivial⟩ fun a hK => ?_
   have hRn : (di + 1) ≤ q5_1.ds.length ∧ Like G5_1 F7 := ⟨by omega, hL7⟩
   have hmn : q5_1.ds.length - (di + 1) < q5_1.ds.length - di := by omega
   exact ⟨(di + 1, F7), hK.sub ⟨rfl, rfl, rfl, rfl, rfl, rfl, rfl, rfl, rfl, trivial⟩, hM, hRn, hmn⟩
  ·refine stepP hK 37 (.bool false) (by kernel_rfl) (okBool (b := (decide ((((di : Nat) : Int) : Int) < ((q5_1.ds.length : Nat) : Int)))) (by kernel_rfl) (decide_eq_false h4)) fun a hK => ?_
   refine region_done hK [(37, .bool false), (32, .bool false), (4, pA b5_5 0), (3, pA b5_4 0), (17, .bool false), (14, .bool false), (2, .bool false), (1, pA b1 0), (0, vG p), (5, vN di)] ⟨rfl, rfl, rfl, rfl, rfl, rfl, rfl, rfl, rfl, rfl, trivial⟩ fun a hK => ?_
   refine wp_cond_false (hK.get rfl) ?_
   refine wp_exit (exit_then (exit_then (exit_here 0 ?_)))
   refine wp_seq ?_
   refine wp_seq ?_
   refine region_go (lst := [0]) (by kernel_rfl) ?_
   refine stepP hK 6 (.int .i64 0) (by kernel_rfl) (by kernel_rfl) fun a hK => ?_
   refine region_done hK [(6, .int .i64 0), (37, .bool false), (32, .bool false), (4, pA b5_5 0), (3, pA b5_4 0), (17, .bool false), (14, .bool false), (2, .bool false), (1, pA b1 0), (0, vG p), (5, vN di)] ⟨rfl, rfl, rfl, rfl, rfl, rfl, rfl, rfl, rfl, rfl, rfl, trivial⟩ fun a hK => ?_
   refine wp_block ?_
   refine wp_loopX (fun x : Nat × (List It) => [(37, .bool false), (32, .bool false), (4, pA b5_5 0), (3, pA b5_4 0), (17, .bool false), (14, .bool false), (2, .bool false), (1, pA b1 0), (0, vG p), (5, vN di), (6, .int .i64 ((x.1 : Nat) : Int))]) (fun x : Nat × (List It) => (rG b5_5 q5_3 :: rG b5_4 q5_1 :: rG b1 p :: (x.2 ++ G5_3))) (fun x : Nat × (List It) => x.1 ≤ q5_1.ts.length ∧ Like G5_1 x.2) (fun x : Nat × (List It) => q5_1.ts.length - x.1) (0, F3) (hK.sub ⟨rfl, rfl, rfl, rfl, rfl, rfl, rfl, rfl, rfl, rfl, rfl, trivial⟩) hM ⟨Nat.zero_le _, hL3⟩ ?_
   rintro ⟨ti, F8⟩ a w hK hM hR
   replace hK : Knows a 156 [(37, .bool false), (32, .bool false), (4, pA b5_5 0), (3, pA b5_4 0), (17, .bool false), (14, .bool false), (2, .bool false), (1, pA b1 0), (0, vG p), (5, vN di), (6, vN ti)] := hK
   replace hM : Mem w0 w (rG b5_5 q5_3 :: rG b5_4 q5_1 :: rG b1 p :: (F8 ++ G5_3)) := hM
   replace hR : ti ≤ q5_1.ts.length ∧ Like G5_1 F8 := hR
   have hL8 := hR.2
   refine wp_seq ?_
   refine wp_seq ?_
   refine region_go (lst := [0, 1, 2, 3, 4]) (by kernel_rfl) ?_
   refine stepM hK 45 6 (by kernel_rfl) (.inl rfl) rfl fun a hK => ?_
   refine stepP hK 46 (pA b5_4 1) (by kernel_rfl) (by kernel_rfl) fun a hK => ?_
   refine stepLoad hK 47 (.slice q5_1.A2 q5_1.ts.length q5_1.c2) (by kernel_rfl) rfl rfl ((hM.row 1 rfl).cells 1 1) (by kernel_rfl) fun a hK => ?_
   refine stepP hK 48 (.int .i64 ((q5_1.ts.length : Nat) : Int)) (by kernel_rfl) (by kernel_rfl) fun a hK => ?_
   by_cases h9 : (((ti : Nat) : Int) : Int) < ((q5_1.ts.length : Nat) : Int)
   ·refine stepP hK 49 (.bool true) (by kernel_rfl) (okBool (b := (decide ((((ti : Nat) : Int) : Int) < ((q5_1.ts.length : Nat) : Int)))) (by kernel_rfl) (decide_eq_true h9)) fun a hK => ?_
    refine region_done hK [(49, .bool true), (37, .bool false), (32, .bool false), (4, pA b5_5 0), (3, pA b5_4 0), (17, .bool false), (14, .bool false), (2, .bool false), (1, pA b1 0), (0, vG p), (5, vN di), (6, vN ti)] ⟨rfl, rfl, rfl, rfl, rfl, rfl, rfl, rfl, rfl, rfl, rfl, rfl, trivial⟩ fun a hK => ?_
    refine wp_cond_true (hK.get rfl) ?_
    refine wp_skip ?_
    refine wp_seq ?_
    refine wp_block ?_
    refine wp_seq ?_
    refine region_go (lst := [0]) (by kernel_rfl) ?_
    refine stepP hK 7 (.int .i64 0) (by kernel_rfl) (by kernel_rfl) fun a hK => ?_
    refine region_done hK [(7, .int .i64 0), (49, .bool true), (37, .bool false), (32, .bool false), (4, pA b5_5 0), (3, pA b5_4 0), (17, .bool false), (14, .bool false), (2, .bool false), (1, pA b1 0), (0, vG p), (5, vN di), (6, vN ti)] ⟨rfl, rfl, rfl, rfl, rfl, rfl, rfl, rfl, rfl, rfl, rfl, rfl, rfl, trivial⟩ fun a hK => ?_
    refine wp_block ?_
    obtain ⟨t10, ht10⟩ : ∃ t, q5_1.ts[(ti : Nat)]? = some t := ⟨_, List.getElem?_eq_getElem (by omega)⟩
    have mt10 := hr5_1.lists _ (List.mem_of_getElem? ht10)
    have nt10 := mt10.2.2
    obtain ⟨b11, j11, d11, A11, g11, l11, -⟩ := like_el hL8 (f := cT) (s := 1) (fun _ => rfl) (by decide) hr5_1.threads ht10
    have e11 := like_T l11
    refine wp_loopX (fun x : Nat × (List It) => [(49, .bool true), (37, .bool false), (32, .bool false), (4, pA b5_5 0), (3, pA b5_4 0), (17, .bool false), (14, .bool false), (2, .bool false), (1, pA b1 0), (0, vG p), (5, vN di), (6, vN ti), (7, .int .i64 ((x.1 : Nat) : Int))]) (fun x : Nat × (List It) => (rG b5_5 q5_3 :: rG b5_4 q5_1 :: rG b1 p :: (x.2 ++ G5_3))) (fun x : Nat × (List It) => x.1 ≤ t10.l.length ∧ Like G5_1 x.2) (fun x : Nat × (List It) => t10.l.length - x.1) (0, F8) (hK.sub ⟨rfl, rfl, rfl, rfl, rfl, rfl, rfl, rfl, rfl, rfl, rfl, rfl, rfl, trivial⟩) hM ⟨Nat.zero_le _, hL8⟩ ?_
    rintro ⟨si, F12⟩ a w hK hM hR
    replace hK : Knows a 156 [(49, .bool true), (37, .bool false), (32, .bool false), (4, pA b5_5 0), (3, pA b5_4 0), (17, .bool false), (14, .bool false), (2, .bool false), (1, pA b1 0), (0, vG p), (5, vN di), (6, vN ti), (7, vN si)] := hK
    replace hM : Mem w0 w (rG b5_5 q5_3 :: rG b5_4 q5_1 :: rG b1 p :: (F12 ++ G5_3)) := hM
    replace hR : si ≤ t10.l.length ∧ Like G5_1 F12 := hR
    have hL12 := hR.2
    refine wp_seq ?_
    refine wp_seq ?_
    refine region_go (lst := [0, 1, 2, 3, 4, 5, 6, 7]) (by kernel_rfl) ?_
    refine stepM hK 52 7 (by kernel_rfl) (.inl rfl) rfl fun a hK => ?_
    refine stepP hK 53 (pA b5_4 1) (by kernel_rfl) (by kernel_rfl) fun a hK => ?_
    refine stepLoad hK 54 (.slice q5_1.A2 q5_1.ts.length q5_1.c2) (by kernel_rfl) rfl rfl ((hM.row 1 rfl).cells 1 1) (by kernel_rfl) fun a hK => ?_
    refine stepM hK 55 6 (by kernel_rfl) (.inl rfl) rfl fun a hK => ?_
    obtain ⟨b13, j13, d13, A13, g13, l13, -⟩ := like_el hL12 (f := cT) (s := 1) (fun _ => rfl) (by decide) hr5_1.threads ht10
    have e13 := like_T l13
    refine stepP hK 56 (.pointer (some ((⟨b13, 0, none⟩ : Addr).add (ti * 1)))) (by kernel_rfl) (run_ixA (k := ti) (s := 1) rfl rfl A13 rfl Tryd.underlying23 (by kernel_rfl) (by omega)) fun a hK => ?_
    refine stepLoad hK 57 (.slice t10.A t10.l.length t10.c) (by kernel_rfl) rfl rfl ((like_cells [rG b5_5 q5_3, rG b5_4 q5_1, rG b1 p] G5_3 hM (k := ti) (s := 1) g13 e13)) (by kernel_rfl) fun a hK => ?_
    refine stepP hK 58 (.int .i64 ((t10.l.length : Nat) : Int)) (by kernel_rfl) (by kernel_rfl) fun a hK => ?_
    by_cases h14 : (((si : Nat) : Int) : Int) < ((t10.l.length : Nat) : Int)
    ·refine stepP hK 59 (.bool true) (by kernel_rfl) (okBool (b := (decide ((((si : Nat) : Int) : Int) < ((t10.l.length : Nat) : Int)))) (by kernel_rfl) (decide_eq_true h14)) fun a hK => ?_
     refine region_done hK [(59, .bool true), (49, .bool true), (37, .bool false), (32, .bool false), (4, pA b5_5 0), (3, pA b5_4 0), (17, .bool false), (14, .bool false), (2, .bool false), (1, pA b1 0), (0, vG p), (5, vN di), (6, vN ti), (7, vN si)] ⟨rfl, rfl, rfl, rfl, rfl, rfl, rfl, rfl, rfl, rfl, rfl, rfl, rfl, rfl, trivial⟩ fun a hK => ?_
     refine wp_cond_true (hK.get rfl) ?_
     refine wp_skip ?_
     refine wp_seq ?_
     refine wp_block ?_
     refine wp_seq ?_
     refine region_go (lst := [0, 1, 2, 3, 4, 5, 6, 7, 8, 9]) (by kernel_rfl) ?_
     refine stepP hK 62 (pA b5_4 1) (by kernel_rfl) (by kernel_rfl) fun a hK => ?_
     refine stepLoad hK 63 (.slice q5_1.A2 q5_1.ts.length q5_1.c2) (by kernel_rfl) rfl rfl ((hM.row 1 rfl).cells 1 1) (by kernel_rfl) fun a hK => ?_
     refine stepM hK 64 6 (by kernel_rfl) (.inl rfl) rfl fun a hK => ?_
     refine stepP hK 65 (.pointer (some ((⟨b13, 0, none⟩ : Addr).add (ti * 1)))) (by kernel_rfl) (run_ixA (k := ti) (s := 1) rfl rfl A13 rfl Tryd.underlying23 (by kernel_rfl) (by omega)) fun a hK => ?_
     refine stepLoad hK 66 (.slice t10.A t10.l.length t10.c) (by kernel_rfl) rfl rfl ((like_cells [rG b5_5 q5_3, rG b5_4 q5_1, rG b1 p] G5_3 hM (k := ti) (s := 1) g13 e13)) (by kernel_rfl) fun a hK => ?_
     refine stepM hK 67 7 (by kernel_rfl) (.inl rfl) rfl fun a hK => ?_
     obtain ⟨t15, ht15⟩ : ∃ t, t10.l[(si : Nat)]? = some t := ⟨_, List.getElem?_eq_getElem (by omega)⟩
     have mt15 := mt10.2.1 _ (List.mem_of_getElem? ht15)
     have nt15 := mt15.len
     obtain ⟨b16, j16, d16, A16, g16, l16, -⟩ := like_el hL12 (f := cS) (s := 7) (fun _ => rfl) (by decide) mt10.1 ht15
     obtain ⟨o16q, u16q, e16⟩ := like_S l16
     refine stepP hK 68 (.pointer (some ((⟨b16, 0, none⟩ : Addr).add (si * 7)))) (by kernel_rfl) (run_ixA (k := si) (s := 7) rfl rfl A16 rfl Tryd.underlying28 (by kernel_rfl) (by omega)) fun a hK => ?_
     refine stepLoad hK 69 (.agg #[.int .i64 o16q, Str t15.nm, Str t15.loc, .int .i64 u16q, .slice t15.A1 t15.es.length t15.c1, .slice t15.A2 t15.th.length t15.c2, .slice t15.A3 t15.el.length t15.c3]) (by kernel_rfl) rfl rfl ((like_cells [rG b5_5 q5_3, rG b5_4 q5_1, rG b1 p] G5_3 hM (k := si) (s := 7) g16 e16)) (by kernel_rfl) fun a hK => ?_
     refine stepAlloc hK hM 8 30 [.int .i64 0, Str [], Str [], .int .i64 0, .slice none 0 0, .slice none 0 0, .slice none 0 0] (fun b => pA b 0) (by kernel_rfl) (by kernel_rfl) fun b17 a w hK hM => ?_
     refine stepStore hK hM 0 [.int .i64 o16q, Str t15.nm, Str t15.loc, .int .i64 u16q, .slice t15.A1 t15.es.length t15.c1, .slice t15.A2 t15.th.length t15.c2, .slice t15.A3 t15.el.length t15.c3] (by kernel_rfl) rfl rfl rfl rfl (by kernel_rfl) fun w hM => ?_
     replace hM := hM.to (.row b17 30 [.int .i64 o16q, Str t15.nm, Str t15.loc, .int .i64 u16q, .slice t15.A1 t15.es.length t15.c1, .slice t15.A2 t15.th.length t15.c2, .slice t15.A3 t15.el.length t15.c3] :: rG b5_5 q5_3 :: rG b5_4 q5_1 :: rG b1 p :: (F12 ++ G5_3)) (by kernel_rfl)
     refine region_done hK [(8, pA b17 0), (59, .bool true), (49, .bool true), (37, .bool false), (32, .bool false), (4, pA b5_5 0), (3, pA b5_4 0), (17, .bool false), (14, .bool false), (2, .bool false), (1, pA b1 0), (0, vG p), (5, vN di), (6, vN ti), (7, vN si)] ⟨rfl, rfl, rfl, rfl, rfl, rfl, rfl, rfl, rfl, rfl, rfl, rfl, rfl, rfl, rfl, trivial⟩ fun a hK => ?_
     refine wp_seq ?_
     refine wp_seq ?_
     refine region_go (lst := [0]) (by kernel_rfl) ?_
     refine stepP hK 9 (.int .i64 0) (by kernel_rfl) (by kernel_rfl) fun a hK => ?_
     refine region_done hK [(9, .int .i64 0), (8, pA b17 0), (59, .bool true), (49, .bool true), (37, .bool false), (32, .bool false), (4, pA b5_5 0), (3, pA b5_4 0), (17, .bool false), (14, .bool false), (2, .bool false), (1, pA b1 0), (0, vG p), (5, vN di), (6, vN ti), (7, vN si)] ⟨rfl, rfl, rfl, rfl, rfl, rfl, rfl, rfl, rfl, rfl, rfl, rfl, rfl, rfl, rfl, rfl, trivial⟩ fun a hK => ?_
     refine wp_block ?_
     refine wp_loopX (fun x : Nat × (List It) => [(8, pA b17 0), (59, .bool true), (49, .bool true), (37, .bool false), (32, .bool false), (4, pA b5_5 0), (3, pA b5_4 0), (17, .bool false), (14, .bool false), (2, .bool false), (1, pA b1 0), (0, vG p), (5, vN di), (6, vN ti), (7, vN si), (9, .int .i64 ((x.1 : Nat) : Int))]) (fun x : Nat × (List It) => (.row b17 30 [.int .i64 o16q, Str t15.nm, Str t15.loc, .int .i64 u16q, .slice t15.A1 t15.es.length t15.c1, .slice t15.A2 t15.th.length t15.c2, .slice t15.A3 t15.el.length t15.c3] :: rG b5_5 q5_3 :: rG b5_4 q5_1 :: rG b1 p :: (x.2 ++ G5_3))) (fun x : Nat × (List It) => x.1 ≤ t15.es.length ∧ Like G5_1 x.2) (fun x : Nat × (List It) => t15.es.length - x.1) (0, F12) (hK.sub ⟨rfl, rfl, rfl, rfl, rfl, rfl, rfl, rfl, rfl, rfl, rfl, rfl, rfl, rfl, rfl, rfl, trivial⟩) hM ⟨Nat.zero_le _, hL12⟩ ?_
     rintro ⟨ek, F18⟩ a w hK hM hR
     replace hK : Knows a 156 [(8, pA b17 0), (59, .bool true), (49, .bool true), (37, .bool false), (32, .bool false), (4, pA b5_5 0), (3, pA b5_4 0), (17, .bool false), (14, .bool false), (2, .bool false), (1, pA b1 0), (0, vG p), (5, vN di), (6, vN ti), (7, vN si), (9, vN ek)] := hK
     replace hM : Mem w0 w (.row b17 30 [.int .i64 o16q, Str t15.nm, Str t15.loc, .int .i64 u16q, .slice t15.A1 t15.es.length t15.c1, .slice t15.A2 t15.th.length t15.c2, .slice t15.A3 t15.el.length t15.c3] :: rG b5_5 q5_3 :: rG b5_4 q5_1 :: rG b1 p :: (F18 ++ G5_3)) := hM
     replace hR : ek ≤ t15.es.length ∧ Like G5_1 F18 := hR
     have hL18 := hR.2
     refine wp_seq ?_
     refine wp_seq ?_
     refine region_go (lst := [0, 1, 2, 3, 4]) (by kernel_rfl) ?_
     refine stepM hK 70 9 (by kernel_rfl) (.inl rfl) rfl fun a hK => ?_
     refine stepP hK 71 (pA b17 4) (by kernel_rfl) (by kernel_rfl) fun a hK => ?_
     refine stepLoad hK 72 (.slice t15.A1 t15.es.length t15.c1) (by kernel_rfl) rfl rfl ((hM.row 0 rfl).cells 4 1) (by kernel_rfl) fun a hK => ?_
     refine stepP hK 73 (.int .i64 ((t15.es.length : Nat) : Int)) (by kernel_rfl) (by kernel_rfl) fun a hK => ?_
     by_cases h19 : (((ek : Nat) : Int) : Int) < ((t15.es.length : Nat) : Int)
     ·refine stepP hK 74 (.bool true) (by kernel_rfl) (okBool (b := (decide ((((ek : Nat) : Int) : Int) < ((t15.es.length : Nat) : Int)))) (by kernel_rfl) (decide_eq_true h19)) fun a hK => ?_
      refine region_done hK [(74, .bool true), (8, pA b17 0), (59, .bool true), (49, .bool true), (37, .bool false), (32, .bool false), (4, pA b5_5 0), (3, pA b5_4 0), (17, .bool false), (14, .bool false), (2, .bool false), (1, pA b1 0), (0, vG p), (5, vN di), (6, vN ti), (7, vN si), (9, vN ek)] ⟨rfl, rfl, rfl, rfl, rfl, rfl, rfl, rfl, rfl, rfl, rfl, rfl, rfl, rfl, rfl, rfl, rfl, trivial⟩ fun a hK => ?_
      refine wp_cond_true (hK.get rfl) ?_
      refine wp_skip ?_
      refine wp_seq ?_
      refine wp_block ?_
      refine wp_seq ?_
      refine wp_seq ?_
      refine region_go (lst := [0]) (by kernel_rfl) ?_
      refine stepP hK 10 (.int .i64 0) (by kernel_rfl) (by kernel_rfl) fun a hK => ?_
      refine region_done hK [(10, .int .i64 0), (74, .bool true), (8, pA b17 0), (59, .bool true), (49, .bool true), (37, .bool false), (32, .bool false), (4, pA b5_5 0), (3, pA b5_4 0), (17, .bool false), (14, .bool false), (2, .bool false), (1, pA b1 0), (0, vG p), (5, vN di), (6, vN ti), (7, vN si), (9, vN ek)] ⟨rfl, rfl, rfl, rfl, rfl, rfl, rfl, rfl, rfl, rfl, rfl, rfl, rfl, rfl, rfl, rfl, rfl, rfl, trivial⟩ fun a hK => ?_
      refine wp_block ?_
      obtain ⟨t20, ht20⟩ : ∃ t, t15.es[(ek : Nat)]? = some t := ⟨_, List.getElem?_eq_getElem (by omega)⟩
      have mt20 := mt15.es _ (List.mem_of_getElem? ht20)
      have nt20 := mt20.len
      obtain ⟨b21, j21, d21, A21, g21, l21, -⟩ := like_el hL18 (f := cE) (s := 4) (fun _ => rfl) (by decide) mt15.row1 ht20
      obtain ⟨o21q, u21q, e21⟩ := like_E l21
      refine wp_loopX (fun x : Nat × (List It) => [(74, .bool true), (8, pA b17 0), (59, .bool true), (49, .bool true), (37, .bool false), (32, .bool false), (4, pA b5_5 0), (3, pA b5_4 0), (17, .bool false), (14, .bool false), (2, .bool false), (1, pA b1 0), (0, vG p), (5, vN di), (6, vN ti), (7, vN si), (9, vN ek), (10, .int .i64 ((x.1 : Nat) : Int))]) (fun x : Nat × (List It) => (.row b17 30 [.int .i64 o16q, Str t15.nm, Str t15.loc, .int .i64 u16q, .slice t15.A1 t15.es.length t15.c1, .slice t15.A2 t15.th.length t15.c2, .slice t15.A3 t15.el.length t15.c3] :: rG b5_5 q5_3 :: rG b5_4 q5_1 :: rG b1 p :: (x.2 ++ G5_3))) (fun x : Nat × (List It) => x.1 ≤ t20.ks.length ∧ Like G5_1 x.2) (fun x : Nat × (List It) => t20.ks.length - x.1) (0, F18) (hK.sub ⟨rfl, rfl, rfl, rfl, rfl, rfl, rfl, rfl, rfl, rfl, rfl, rfl, rfl, rfl, rfl, rfl, rfl, rfl, trivial⟩) hM ⟨Nat.zero_le _, hL18⟩ ?_
      rintro ⟨km, F22⟩ a w hK hM hR
      replace hK : Knows a 156 [(74, .bool true), (8, pA b17 0), (59, .bool true), (49, .bool true), (37, .bool false), (32, .bool false), (4, pA b5_5 0), (3, pA b5_4 0), (17, .bool false), (14, .bool false), (2, .bool false), (1, pA b1 0), (0, vG p), (5, vN di), (6, vN ti), (7, vN si), (9, vN ek), (10, vN km)] := hK
      replace hM : Mem w0 w (.row b17 30 [.int .i64 o16q, Str t15.nm, Str t15.loc, .int .i64 u16q, .slice t15.A1 t15.es.length t15.c1, .slice t15.A2 t15.th.length t15.c2, .slice t15.A3 t15.el.length t15.c3] :: rG b5_5 q5_3 :: rG b5_4 q5_1 :: rG b1 p :: (F22 ++ G5_3)) := hM
      replace hR : km ≤ t20.ks.length ∧ Like G5_1 F22 := hR
      have hL22 := hR.2
      refine wp_seq ?_
      refine wp_seq ?_
      refine region_go (lst := [0, 1, 2, 3, 4, 5, 6, 7, 8]) (by kernel_rfl) ?_
      refine stepM hK 77 10 (by kernel_rfl) (.inl rfl) rfl fun a hK => ?_
      refine stepP hK 78 (pA b17 4) (by kernel_rfl) (by kernel_rfl) fun a hK => ?_
      refine stepLoad hK 79 (.slice t15.A1 t15.es.length t15.c1) (by kernel_rfl) rfl rfl ((hM.row 0 rfl).cells 4 1) (by kernel_rfl) fun a hK => ?_
      refine stepM hK 80 9 (by kernel_rfl) (.inl rfl) rfl fun a hK => ?_
      obtain ⟨b23, j23, d23, A23, g23, l23, -⟩ := like_el hL22 (f := cE) (s := 4) (fun _ => rfl) (by decide) mt15.row1 ht20
      obtain ⟨o23q, u23q, e23⟩ := like_E l23
      refine stepP hK 81 (.pointer (some ((⟨b23, 0, none⟩ : Addr).add (ek * 4)))) (by kernel_rfl) (run_ixA (k := ek) (s := 4) rfl rfl A23 rfl Tryd.underlying27 (by kernel_rfl) (by omega)) fun a hK => ?_
      refine stepP hK 82 (.pointer (some (((⟨b23, 0, none⟩ : Addr).add (ek * 4)).add 3))) (by kernel_rfl) (by kernel_rfl) fun a hK => ?_
      refine stepLoad hK 83 (.slice t20.A t20.ks.length t20.c) (by kernel_rfl) rfl rfl (((like_cells [.row b17 30 [.int .i64 o16q, Str t15.nm, Str t15.loc, .int .i64 u16q, .slice t15.A1 t15.es.length t15.c1, .slice t15.A2 t15.th.length t15.c2, .slice t15.A3 t15.el.length t15.c3], rG b5_5 q5_3, rG b5_4 q5_1, rG b1 p] G5_3 hM (k := ek) (s := 4) g23 e23)).addA 3 1 (by decide)) (by kernel_rfl) fun a hK => ?_
      refine stepP hK 84 (.int .i64 ((t20.ks.length : Nat) : Int)) (by kernel_rfl) (by kernel_rfl) fun a hK => ?_
      by_cases h24 : (((km : Nat) : Int) : Int) < ((t20.ks.length : Nat) : Int)
      ·refine stepP hK 85 (.bool true) (by kernel_rfl) (okBool (b := (decide ((((km : Nat) : Int) : Int) < ((t20.ks.length : Nat) : Int)))) (by kernel_rfl) (decide_eq_true h24)) fun a hK => ?_
       refine region_done hK [(85, .bool true), (74, .bool true), (8, pA b17 0), (59, .bool true), (49, .bool true), (37, .bool false), (32, .bool false), (4, pA b5_5 0), (3, pA b5_4 0), (17, .bool false), (14, .bool false), (2, .bool false), (1, pA b1 0), (0, vG p), (5, vN di), (6, vN ti), (7, vN si), (9, vN ek), (10, vN km)] ⟨rfl, rfl, rfl, rfl, rfl, rfl, rfl, rfl, rfl, rfl, rfl, rfl, rfl, rfl, rfl, rfl, rfl, rfl, rfl, trivial⟩ fun a hK => ?_
       refine wp_cond_true (hK.get rfl) ?_
       refine wp_skip ?_
       refine wp_seq ?_
       refine wp_block ?_
       refine region_go (lst := [0, 1, 2, 3, 4, 5, 6, 7, 8, 9]) (by kernel_rfl) ?_
       refine stepP hK 88 (pA b17 4) (by kernel_rfl) (by kernel_rfl) fun a hK => ?_
       refine stepLoad hK 89 (.slice t15.A1 t15.es.length t15.c1) (by kernel_rfl) rfl rfl ((hM.row 0 rfl).cells 4 1) (by kernel_rfl) fun a hK => ?_
       refine stepM hK 90 9 (by kernel_rfl) (.inl rfl) rfl fun a hK => ?_
       refine stepP hK 91 (.pointer (some ((⟨b23, 0, none⟩ : Addr).add (ek * 4)))) (by kernel_rfl) (run_ixA (k := ek) (s := 4) rfl rfl A23 rfl Tryd.underlying27 (by kernel_rfl) (by omega)) fun a hK => ?_
       refine stepP hK 92 (.pointer (some (((⟨b23, 0, none⟩ : Addr).add (ek * 4)).add 3))) (by kernel_rfl) (by kernel_rfl) fun a hK => ?_
       refine stepLoad hK 93 (.slice t20.A t20.ks.length t20.c) (by kernel_rfl) rfl rfl (((like_cells [.row b17 30 [.int .i64 o16q, Str t15.nm, Str t15.loc, .int .i64 u16q, .slice t15.A1 t15.es.length t15.c1, .slice t15.A2 t15.th.length t15.c2, .slice t15.A3 t15.el.length t15.c3], rG b5_5 q5_3, rG b5_4 q5_1, rG b1 p] G5_3 hM (k := ek) (s := 4) g23 e23)).addA 3 1 (by decide)) (by kernel_rfl) fun a hK => ?_
       refine stepM hK 94 10 (by kernel_rfl) (.inl rfl) rfl fun a hK => ?_
       obtain ⟨t25, ht25⟩ : ∃ t, t20.ks[(km : Nat)]? = some t := ⟨_, List.getElem?_eq_getElem (by omega)⟩
       have mt25 := mt20.kids _ (List.mem_of_getElem? ht25)
       have nt25 := mt25.len
       obtain ⟨b26, j26, d26, A26, g26, l26, -⟩ := like_el hL22 (f := cE) (s := 4) (fun _ => rfl) (by decide) mt20.row ht25
       obtain ⟨o26q, u26q, e26⟩ := like_E l26
       refine stepP hK 95 (.pointer (some ((⟨b26, 0, none⟩ : Addr).add (km * 4)))) (by kernel_rfl) (run_ixA (k := km) (s := 4) rfl rfl A26 rfl Tryd.underlying27 (by kernel_rfl) (by omega)) fun a hK => ?_
       refine stepP hK 96 (.pointer (some ((⟨b26, 0, none⟩ : Addr).add (km * 4)))) (by kernel_rfl) (by kernel_rfl) fun a hK => ?_
       refine stepStoreLike hK [.row b17 30 [.int .i64 o16q, Str t15.nm, Str t15.loc, .int .i64 u16q, .slice t15.A1 t15.es.length t15.c1, .slice t15.A2 t15.th.length t15.c2, .slice t15.A3 t15.el.length t15.c3], rG b5_5 q5_3, rG b5_4 q5_1, rG b1 p] _ F22 G5_3 hM hL22 0 (k := km) (s := 4) (by kernel_rfl) rfl rfl rfl rfl g26 (by kernel_rfl) e26 rfl fun w F27 hL27 hM => ?_
       replace hM := hM.to ((.row b17 30 [.int .i64 o16q, Str t15.nm, Str t15.loc, .int .i64 u16q, .slice t15.A1 t15.es.length t15.c1, .slice t15.A2 t15.th.length t15.c2, .slice t15.A3 t15.el.length t15.c3] :: rG b5_5 q5_3 :: rG b5_4 q5_1 :: rG b1 p :: (F27 ++ G5_3))) (by kernel_rfl)
       refine region_done hK [(85, .bool true), (74, .bool true), (8, pA b17 0), (59, .bool true), (49, .bool true), (37, .bool false), (32, .bool false), (4, pA b5_5 0), (3, pA b5_4 0), (17, .bool false), (14, .bool false), (2, .bool false), (1, pA b1 0), (0, vG p), (5, vN di), (6, vN ti), (7, vN si), (9, vN ek), (10, vN km)] ⟨rfl, rfl, rfl, rfl, rfl, rfl, rfl, rfl, rfl, rfl, rfl, rfl, rfl, rfl, rfl, rfl, rfl, rfl, rfl, trivial⟩ fun a hK => ?_
       refine region_go (lst := [0, 1, 2]) (by kernel_rfl) ?_
       refine stepM hK 86 10 (by kernel_rfl) (.inl rfl) rfl fun a hK => ?_
       refine stepP hK 87 (.int .i64 (((km + 1) : Nat) : Int)) (by kernel_rfl) (run_addN (i := km) (j := 1) rfl rfl rfl (by omega)) fun a hK => ?_
       refine stepM hK 10 87 (by kernel_rfl) (.inr rfl) rfl fun a hK => ?_
       refine region_done hK [(10, .int .i64 (((km + 1) : Nat) : Int)), (85, .bool true), (74, .bool true), (8, pA b17 0), (59, .bool true), (49, .bool true), (37, .bool false), (32, .bool false), (4, pA b5_5 0), (3, pA b5_4 0), (17, .bool false), (14, .bool false), (2, .bool false), (1, pA b1 0), (0, vG p), (5, vN di), (6, vN ti), (7, vN si), (9, vN ek)] ⟨rfl, rfl, rfl, rfl, rfl, rfl, rfl, rfl, rfl, rfl, rfl, rfl, rfl, rfl, rfl, rfl, rfl, rfl, rfl, trivial⟩ fun a hK => ?_
       have hRn : (km + 1) ≤ t20.ks.length ∧ Like G5_1 F27 := ⟨by omega, hL27⟩
       have hmn : t20.ks.length - (km + 1) < t20.ks.length - km := by omega
       exact ⟨(km + 1, F27), hK.sub ⟨rfl, rfl, rfl, rfl, rfl, rfl, rfl, rfl, rfl, rfl, rfl, rfl, rfl, rfl, rfl, rfl, rfl, rfl, trivial⟩, hM, hRn, hmn⟩
      ·refine stepP hK 85 (.bool false) (by kernel_rfl) (okBool (b := (decide ((((km : Nat) : Int) : Int) < ((t20.ks.length : Nat) : Int)))) (by kernel_rfl) (decide_eq_false h24)) fun a hK => ?_
       refine region_done hK [(85, .bool false), (74, .bool true), (8, pA b17 0), (59, .bool true), (49, .bool true), (37, .bool false), (32, .bool false), (4, pA b5_5 0), (3, pA b5_4 0), (17, .bool false), (14, .bool false), (2, .bool false), (1, pA b1 0), (0, vG p), (5, vN di), (6, vN ti), (7, vN si), (9, vN ek), (10, vN km)] ⟨rfl, rfl, rfl, rfl, rfl, rfl, rfl, rfl, rfl, rfl, rfl, rfl, rfl, rfl, rfl, rfl, rfl, rfl, rfl, trivial⟩ fun a hK => ?_
       refine wp_cond_false (hK.get rfl) ?_
       refine wp_exit (exit_then (exit_then (exit_here 8 ?_)))
       refine region_go (lst := [0, 1, 2, 3, 4, 5]) (by kernel_rfl) ?_
       refine stepP hK 97 (pA b17 4) (by kernel_rfl) (by kernel_rfl) fun a hK => ?_
       refine stepLoad hK 98 (.slice t15.A1 t15.es.length t15.c1) (by kernel_rfl) rfl rfl ((hM.row 0 rfl).cells 4 1) (by kernel_rfl) fun a hK => ?_
       refine stepM hK 99 9 (by kernel_rfl) (.inl rfl) rfl fun a hK => ?_
       refine stepP hK 100 (.pointer (some ((⟨b23, 0, none⟩ : Addr).add (ek * 4)))) (by kernel_rfl) (run_ixA (k := ek) (s := 4) rfl rfl A23 rfl Tryd.underlying27 (by kernel_rfl) (by omega)) fun a hK => ?_
       refine stepP hK 101 (.pointer (some ((⟨b23, 0, none⟩ : Addr).add (ek * 4)))) (by kernel_rfl) (by kernel_rfl) fun a hK => ?_
       refine stepStoreLike hK [.row b17 30 [.int .i64 o16q, Str t15.nm, Str t15.loc, .int .i64 u16q, .slice t15.A1 t15.es.length t15.c1, .slice t15.A2 t15.th.length t15.c2, .slice t15.A3 t15.el.length t15.c3], rG b5_5 q5_3, rG b5_4 q5_1, rG b1 p] _ F22 G5_3 hM hL22 0 (k := ek) (s := 4) (by kernel_rfl) rfl rfl rfl rfl g23 (by kernel_rfl) e23 rfl fun w F28 hL28 hM => ?_
       replace hM := hM.to ((.row b17 30 [.int .i64 o16q, Str t15.nm, Str t15.loc, .int .i64 u16q, .slice t15.A1 t15.es.length t15.c1, .slice t15.A2 t15.th.length t15.c2, .slice t15.A3 t15.el.length t15.c3] :: rG b5_5 q5_3 :: rG b5_4 q5_1 :: rG b1 p :: (F28 ++ G5_3))) (by kernel_rfl)
       refine region_done hK [(85, .bool false), (74, .bool true), (8, pA b17 0), (59, .bool true), (49, .bool true), (37, .bool false), (32, .bool false), (4, pA b5_5 0), (3, pA b5_4 0), (17, .bool false), (14, .bool false), (2, .bool false), (1, pA b1 0), (0, vG p), (5, vN di), (6, vN ti), (7, vN si), (9, vN ek), (10, vN km)] ⟨rfl, rfl, rfl, rfl, rfl, rfl, rfl, rfl, rfl, rfl, rfl, rfl, rfl, rfl, rfl, rfl, rfl, rfl, rfl, trivial⟩ fun a hK => ?_
       refine region_go (lst := [0, 1, 2]) (by kernel_rfl) ?_
       refine stepM hK 75 9 (by kernel_rfl) (.inl rfl) rfl fun a hK => ?_
       refine stepP hK 76 (.int .i64 (((ek + 1) : Nat) : Int)) (by kernel_rfl) (run_addN (i := ek) (j := 1) rfl rfl rfl (by omega)) fun a hK => ?_
       refine stepM hK 9 76 (by kernel_rfl) (.inr rfl) rfl fun a hK => ?_
       refine region_done hK [(9, .int .i64 (((ek + 1) : Nat) : Int)), (85, .bool false), (74, .bool true), (8, pA b17 0), (59, .bool true), (49, .bool true), (37, .bool false), (32, .bool false), (4, pA b5_5 0), (3, pA b5_4 0), (17, .bool false), (14, .bool false), (2, .bool false), (1, pA b1 0), (0, vG p), (5, vN di), (6, vN ti), (7, vN si), (10, vN km)] ⟨rfl, rfl, rfl, rfl, rfl, rfl, rfl, rfl, rfl, rfl, rfl, rfl, rfl, rfl, rfl, rfl, rfl, rfl, rfl, trivial⟩ fun a hK => ?_
       have hRn : (ek + 1) ≤ t15.es.length ∧ Like G5_1 F28 := ⟨by omega, hL28⟩
       have hmn : t15.es.length - (ek + 1) < t15.es.length - ek := by omega
       exact ⟨(ek + 1, F28), hK.sub ⟨rfl, rfl, rfl, rfl, rfl, rfl, rfl, rfl, rfl, rfl, rfl, rfl, rfl, rfl, rfl, rfl, trivial⟩, hM, hRn, hmn⟩
     ·refine stepP hK 74 (.bool false) (by kernel_rfl) (okBool (b := (decide ((((ek : Nat) : Int) : Int) < ((t15.es.length : Nat) : Int)))) (by kernel_rfl) (decide_eq_false h19)) fun a hK => ?_
      refine region_done hK [(74, .bool false), (8, pA b17 0), (59, .bool true), (49, .bool true), (37, .bool false), (32, .bool false), (4, pA b5_5 0), (3, pA b5_4 0), (17, .bool false), (14, .bool false), (2, .bool false), (1, pA b1 0), (0, vG p), (5, vN di), (6, vN ti), (7, vN si), (9, vN ek)] ⟨rfl, rfl, rfl, rfl, rfl, rfl, rfl, rfl, rfl, rfl, rfl, rfl, rfl, rfl, rfl, rfl, rfl, trivial⟩ fun a hK => ?_
      refine wp_cond_false (hK.get rfl) ?_
      refine wp_exit (exit_then (exit_then (exit_here 6 ?_)))
      refine wp_seq ?_
      refine wp_seq ?_
      refine region_go (lst := [0]) (by kernel_rfl) ?_
      refine stepP hK 11 (.int .i64 0) (by kernel_rfl) (by kernel_rfl) fun a hK => ?_
      refine region_done hK [(11, .int .i64 0), (74, .bool false), (8, pA b17 0), (59, .bool true), (49, .bool true), (37, .bool false), (32, .bool false), (4, pA b5_5 0), (3, pA b5_4 0), (17, .bool false), (14, .bool false), (2, .bool false), (1, pA b1 0), (0, vG p), (5, vN di), (6, vN ti), (7, vN si), (9, vN ek)] ⟨rfl, rfl, rfl, rfl, rfl, rfl, rfl, rfl, rfl, rfl, rfl, rfl, rfl, rfl, rfl, rfl, rfl, rfl, trivial⟩ fun a hK => ?_
      refine wp_block ?_
      refine wp_loopX (fun x : Nat × (List It) => [(74, .bool false), (8, pA b17 0), (59, .bool true), (49, .bool true), (37, .bool false), (32, .bool false), (4, pA b5_5 0), (3, pA b5_4 0), (17, .bool false), (14, .bool false), (2, .bool false), (1, pA b1 0), (0, vG p), (5, vN di), (6, vN ti), (7, vN si), (9, vN ek), (11, .int .i64 ((x.1 : Nat) : Int))]) (fun x : Nat × (List It) => (.row b17 30 [.int .i64 o16q, Str t15.nm, Str t15.loc, .int .i64 u16q, .slice t15.A1 t15.es.length t15.c1, .slice t15.A2 t15.th.length t15.c2, .slice t15.A3 t15.el.length t15.c3] :: rG b5_5 q5_3 :: rG b5_4 q5_1 :: rG b1 p :: (x.2 ++ G5_3))) (fun x : Nat × (List It) => x.1 ≤ t15.th.length ∧ Like G5_1 x.2) (fun x : Nat × (List It) => t15.th.length - x.1) (0, F18) (hK.sub ⟨rfl, rfl, rfl, rfl, rfl, rfl, rfl, rfl, rfl, rfl, rfl, rfl, rfl, rfl, rfl, rfl, rfl, rfl, trivial⟩) hM ⟨Nat.zero_le _, hL18⟩ ?_
      rintro ⟨tk, F29⟩ a w hK hM hR
      replace hK : Knows a 156 [(74, .bool false), (8, pA b17 0), (59, .bool true), (49, .bool true), (37, .bool false), (32, .bool false), (4, pA b5_5 0), (3, pA b5_4 0), (17, .bool false), (14, .bool false), (2, .bool false), (1, pA b1 0), (0, vG p), (5, vN di), (6, vN ti), (7, vN si), (9, vN ek), (11, vN tk)] := hK
      replace hM : Mem w0 w (.row b17 30 [.int .i64 o16q, Str t15.nm, Str t15.loc, .int .i64 u16q, .slice t15.A1 t15.es.length t15.c1, .slice t15.A2 t15.th.length t15.c2, .slice t15.A3 t15.el.length t15.c3] :: rG b5_5 q5_3 :: rG b5_4 q5_1 :: rG b1 p :: (F29 ++ G5_3)) := hM
      replace hR : tk ≤ t15.th.length ∧ Like G5_1 F29 := hR
      have hL29 := hR.2
      refine wp_seq ?_
      refine wp_seq ?_
      refine region_go (lst := [0, 1, 2, 3, 4]) (by kernel_rfl) ?_
      refine stepM hK 102 11 (by kernel_rfl) (.inl rfl) rfl fun a hK => ?_
      refine stepP hK 103 (pA b17 5) (by kernel_rfl) (by kernel_rfl) fun a hK => ?_
      refine stepLoad hK 104 (.slice t15.A2 t15.th.length t15.c2) (by kernel_rfl) rfl rfl ((hM.row 0 rfl).cells 5 1) (by kernel_rfl) fun a hK => ?_
      refine stepP hK 105 (.int .i64 ((t15.th.length : Nat) : Int)) (by kernel_rfl) (by kernel_rfl) fun a hK => ?_
      by_cases h30 : (((tk : Nat) : Int) : Int) < ((t15.th.length : Nat) : Int)
      ·refine stepP hK 106 (.bool true) (by kernel_rfl) (okBool (b := (decide ((((tk : Nat) : Int) : Int) < ((t15.th.length : Nat) : Int)))) (by kernel_rfl) (decide_eq_true h30)) fun a hK => ?_
       refine region_done hK [(106, .bool true), (74, .bool false), (8, pA b17 0), (59, .bool true), (49, .bool true), (37, .bool false), (32, .bool false), (4, pA b5_5 0), (3, pA b5_4 0), (17, .bool false), (14, .bool false), (2, .bool false), (1, pA b1 0), (0, vG p), (5, vN di), (6, vN ti), (7, vN si), (9, vN ek), (11, vN tk)] ⟨rfl, rfl, rfl, rfl, rfl, rfl, rfl, rfl, rfl, rfl, rfl, rfl, rfl, rfl, rfl, rfl, rfl, rfl, rfl, trivial⟩ fun a hK => ?_
       refine wp_cond_true (hK.get rfl) ?_
       refine wp_skip ?_
       refine wp_seq ?_
       refine wp_block ?_
       refine region_go (lst := [0, 1, 2, 3, 4, 5]) (by kernel_rfl) ?_
       refine stepP hK 109 (pA b17 5) (by kernel_rfl) (by kernel_rfl) fun a hK => ?_
       refine stepLoad hK 110 (.slice t15.A2 t15.th.length t15.c2) (by kernel_rfl) rfl rfl ((hM.row 0 rfl).cells 5 1) (by kernel_rfl) fun a hK => ?_
       refine stepM hK 111 11 (by kernel_rfl) (.inl rfl) rfl fun a hK => ?_
       obtain ⟨t31, ht31⟩ : ∃ t, t15.th[(tk : Nat)]? = some t := ⟨_, List.getElem?_eq_getElem (by omega)⟩
       have mt31 := mt15.th _ (List.mem_of_getElem? ht31)
       have nt31 := mt31.len
       obtain ⟨b32, j32, d32, A32, g32, l32, -⟩ := like_el hL29 (f := cS) (s := 7) (fun _ => rfl) (by decide) mt15.row2 ht31
       obtain ⟨o32q, u32q, e32⟩ := like_S l32
       refine stepP hK 112 (.pointer (some ((⟨b32, 0, none⟩ : Addr).add (tk * 7)))) (by kernel_rfl) (run_ixA (k := tk) (s := 7) rfl rfl A32 rfl Tryd.underlying28 (by kernel_rfl) (by omega)) fun a hK => ?_
       refine stepP hK 113 (.pointer (some ((⟨b32, 0, none⟩ : Addr).add (tk * 7)))) (by kernel_rfl) (by kernel_rfl) fun a hK => ?_
       refine stepStoreLike hK [.row b17 30 [.int .i64 o16q, Str t15.nm, Str t15.loc, .int .i64 u16q, .slice t15.A1 t15.es.length t15.c1, .slice t15.A2 t15.th.length t15.c2, .slice t15.A3 t15.el.length t15.c3], rG b5_5 q5_3, rG b5_4 q5_1, rG b1 p] _ F29 G5_3 hM hL29 0 (k := tk) (s := 7) (by kernel_rfl) rfl rfl rfl rfl g32 (by kernel_rfl) e32 rfl fun w F33 hL33 hM => ?_
       replace hM := hM.to ((.row b17 30 [.int .i64 o16q, Str t15.nm, Str t15.loc, .int .i64 u16q, .slice t15.A1 t15.es.length t15.c1, .slice t15.A2 t15.th.length t15.c2, .slice t15.A3 t15.el.length t15.c3] :: rG b5_5 q5_3 :: rG b5_4 q5_1 :: rG b1 p :: (F33 ++ G5_3))) (by kernel_rfl)
       refine region_done hK [(106, .bool true), (74, .bool false), (8, pA b17 0), (59, .bool true), (49, .bool true), (37, .bool false), (32, .bool false), (4, pA b5_5 0), (3, pA b5_4 0), (17, .bool false), (14, .bool false), (2, .bool false), (1, pA b1 0), (0, vG p), (5, vN di), (6, vN ti), (7, vN si), (9, vN ek), (11, vN tk)] ⟨rfl, rfl, rfl, rfl, rfl, rfl, rfl, rfl, rfl, rfl, rfl, rfl, rfl, rfl, rfl, rfl, rfl, rfl, rfl, trivial⟩ fun a hK => ?_
       refine region_go (lst := [0, 1, 2]) (by kernel_rfl) ?_
       refine stepM hK 107 11 (by kernel_rfl) (.inl rfl) rfl fun a hK => ?_
       refine stepP hK 108 (.int .i64 (((tk + 1) : Nat) : Int)) (by kernel_rfl) (run_addN (i := tk) (j := 1) rfl rfl rfl (by omega)) fun a hK => ?_
       refine stepM hK 11 108 (by kernel_rfl) (.inr rfl) rfl fun a hK => ?_
       refine region_done hK [(11, .int .i64 (((tk + 1) : Nat) : Int)), (106, .bool true), (74, .bool false), (8, pA b17 0), (59, .bool true), (49, .bool true), (37, .bool false), (32, .bool false), (4, pA b5_5 0), (3, pA b5_4 0), (17, .bool false), (14, .bool false), (2, .bool false), (1, pA b1 0), (0, vG p), (5, vN di), (6, vN ti), (7, vN si), (9, vN ek)] ⟨rfl, rfl, rfl, rfl, rfl, rfl, rfl, rfl, rfl, rfl, rfl, rfl, rfl, rfl, rfl, rfl, rfl, rfl, rfl, trivial⟩ fun a hK => ?_
       have hRn : (tk + 1) ≤ t15.th.length ∧ Like G5_1 F33 := ⟨by omega, hL33⟩
       have hmn : t15.th.length - (tk + 1) < t15.th.length - tk := by omega
       exact ⟨(tk + 1, F33), hK.sub ⟨rfl, rfl, rfl, rfl, rfl, rfl, rfl, rfl, rfl, rfl, rfl, rfl, rfl, rfl, rfl, rfl, rfl, rfl, trivial⟩, hM, hRn, hmn⟩
      ·refine stepP hK 106 (.bool false) (by kernel_rfl) (okBool (b := (decide ((((tk : Nat) : Int) : Int) < ((t15.th.length : Nat) : Int)))) (by kernel_rfl) (decide_eq_false h30)) fun a hK => ?_
       refine region_done hK [(106, .bool false), (74, .bool false), (8, pA b17 0), (59, .bool true), (49, .bool true), (37, .bool false), (32, .bool false), (4, pA b5_5 0), (3, pA b5_4 0), (17, .bool false), (14, .bool false), (2, .bool false), (1, pA b1 0), (0, vG p), (5, vN di), (6, vN ti), (7, vN si), (9, vN ek), (11, vN tk)] ⟨rfl, rfl, rfl, rfl, rfl, rfl, rfl, rfl, rfl, rfl, rfl, rfl, rfl, rfl, rfl, rfl, rfl, rfl, rfl, trivial⟩ fun a hK => ?_
       refine wp_cond_false (hK.get rfl) ?_
       refine wp_exit (exit_then (exit_then (exit_here 10 ?_)))
       refine wp_seq ?_
       refine wp_seq ?_
       refine region_go (lst := [0]) (by kernel_rfl) ?_
       refine stepP hK 12 (.int .i64 0) (by kernel_rfl) (by kernel_rfl) fun a hK => ?_
       refine region_done hK [(12, .int .i64 0), (106, .bool false), (74, .bool false), (8, pA b17 0), (59, .bool true), (49, .bool true), (37, .bool false), (32, .bool false), (4, pA b5_5 0), (3, pA b5_4 0), (17, .bool false), (14, .bool false), (2, .bool false), (1, pA b1 0), (0, vG p), (5, vN di), (6, vN ti), (7, vN si), (9, vN ek), (11, vN tk)] ⟨rfl, rfl, rfl, rfl, rfl, rfl, rfl, rfl, rfl, rfl, rfl, rfl, rfl, rfl, rfl, rfl, rfl, rfl, rfl, rfl, trivial⟩ fun a hK => ?_
       refine wp_block ?_
       refine wp_loopX (fun x : Nat × (List It) => [(106, .bool false), (74, .bool false), (8, pA b17 0), (59, .bool true), (49, .bool true), (37, .bool false), (32, .bool false), (4, pA b5_5 0), (3, pA b5_4 0), (17, .bool false), (14, .bool false), (2, .bool false), (1, pA b1 0), (0, vG p), (5, vN di), (6, vN ti), (7, vN si), (9, vN ek), (11, vN tk), (12, .int .i64 ((x.1 : Nat) : Int))]) (fun x : Nat × (List It) => (.row b17 30 [.int .i64 o16q, Str t15.nm, Str t15.loc, .int .i64 u16q, .slice t15.A1 t15.es.length t15.c1, .slice t15.A2 t15.th.length t15.c2, .slice t15.A3 t15.el.length t15.c3] :: rG b5_5 q5_3 :: rG b5_4 q5_1 :: rG b1 p :: (x.2 ++ G5_3))) (fun x : Nat × (List It) => x.1 ≤ t15.el.length ∧ Like G5_1 x.2) (fun x : Nat × (List It) => t15.el.length - x.1) (0, F29) (hK.sub ⟨rfl, rfl, rfl, rfl, rfl, rfl, rfl, rfl, rfl, rfl, rfl, rfl, rfl, rfl, rfl, rfl, rfl, rfl, rfl, rfl, trivial⟩) hM ⟨Nat.zero_le _, hL29⟩ ?_
       rintro ⟨uk, F34⟩ a w hK hM hR
       replace hK : Knows a 156 [(106, .bool false), (74, .bool false), (8, pA b17 0), (59, .bool true), (49, .bool true), (37, .bool false), (32, .bool false), (4, pA b5_5 0), (3, pA b5_4 0), (17, .bool false), (14, .bool false), (2, .bool false), (1, pA b1 0), (0, vG p), (5, vN di), (6, vN ti), (7, vN si), (9, vN ek), (11, vN tk), (12, vN uk)] := hK
       replace hM : Mem w0 w (.row b17 30 [.int .i64 o16q, Str t15.nm, Str t15.loc, .int .i64 u16q, .slice t15.A1 t15.es.length t15.c1, .slice t15.A2 t15.th.length t15.c2, .slice t15.A3 t15.el.length t15.c3] :: rG b5_5 q5_3 :: rG b5_4 q5_1 :: rG b1 p :: (F34 ++ G5_3)) := hM
       replace hR : uk ≤ t15.el.length ∧ Like G5_1 F34 := hR
       have hL34 := hR.2
       refine wp_seq ?_
       refine wp_seq ?_
       refine region_go (lst := [0, 1, 2, 3, 4]) (by kernel_rfl) ?_
       refine stepM hK 114 12 (by kernel_rfl) (.inl rfl) rfl fun a hK => ?_
       refine stepP hK 115 (pA b17 6) (by kernel_rfl) (by kernel_rfl) fun a hK => ?_
       refine stepLoad hK 116 (.slice t15.A3 t15.el.length t15.c3) (by kernel_rfl) rfl rfl ((hM.row 0 rfl).cells 6 1) (by kernel_rfl) fun a hK => ?_
       refine stepP hK 117 (.int .i64 ((t15.el.length : Nat) : Int)) (by kernel_rfl) (by kernel_rfl) fun a hK => ?_
       by_cases h35 : (((uk : Nat) : Int) : Int) < ((t15.el.length : Nat) : Int)
       ·refine stepP hK 118 (.bool true) (by kernel_rfl) (okBool (b := (decide ((((uk : Nat) : Int) : Int) < ((t15.el.length : Nat) : Int)))) (by kernel_rfl) (decide_eq_true h35)) fun a hK => ?_
        refine region_done hK [(118, .bool true), (106, .bool false), (74, .bool false), (8, pA b17 0), (59, .bool true), (49, .bool true), (37, .bool false), (32, .bool false), (4, pA b5_5 0), (3, pA b5_4 0), (17, .bool false), (14, .bool false), (2, .bool false), (1, pA b1 0), (0, vG p), (5, vN di), (6, vN ti), (7, vN si), (9, vN ek), (11, vN tk), (12, vN uk)] ⟨rfl, rfl, rfl, rfl, rfl, rfl, rfl, rfl, rfl, rfl, rfl, rfl, rfl, rfl, rfl, rfl, rfl, rfl, rfl, rfl, rfl, trivial⟩ fun a hK => ?_
        refine wp_cond_true (hK.get rfl) ?_
        refine wp_skip ?_
        refine wp_seq ?_
        refine wp_block ?_
        refine region_go (lst := [0, 1, 2, 3, 4, 5]) (by kernel_rfl) ?_
        refine stepP hK 121 (pA b17 6) (by kernel_rfl) (by kernel_rfl) fun a hK => ?_
        refine stepLoad hK 122 (.slice t15.A3 t15.el.length t15.c3) (by kernel_rfl) rfl rfl ((hM.row 0 rfl).cells 6 1) (by kernel_rfl) fun a hK => ?_
        refine stepM hK 123 12 (by kernel_rfl) (.inl rfl) rfl fun a hK => ?_
        obtain ⟨t36, ht36⟩ : ∃ t, t15.el[(uk : Nat)]? = some t := ⟨_, List.getElem?_eq_getElem (by omega)⟩
        have mt36 := mt15.el _ (List.mem_of_getElem? ht36)
        have nt36 := mt36.len
        obtain ⟨b37, j37, d37, A37, g37, l37, -⟩ := like_el hL34 (f := cS) (s := 7) (fun _ => rfl) (by decide) mt15.row3 ht36
        obtain ⟨o37q, u37q, e37⟩ := like_S l37
        refine stepP hK 124 (.pointer (some ((⟨b37, 0, none⟩ : Addr).add (uk * 7)))) (by kernel_rfl) (run_ixA (k := uk) (s := 7) rfl rfl A37 rfl Tryd.underlying28 (by kernel_rfl) (by omega)) fun a hK => ?_
        refine stepP hK 125 (.pointer (some ((⟨b37, 0, none⟩ : Addr).add (uk * 7)))) (by kernel_rfl) (by kernel_rfl) fun a hK => ?_
        refine stepStoreLike hK [.row b17 30 [.int .i64 o16q, Str t15.nm, Str t15.loc, .int .i64 u16q, .slice t15.A1 t15.es.length t15.c1, .slice t15.A2 t15.th.length t15.c2, .slice t15.A3 t15.el.length t15.c3], rG b5_5 q5_3, rG b5_4 q5_1, rG b1 p] _ F34 G5_3 hM hL34 0 (k := uk) (s := 7) (by kernel_rfl) rfl rfl rfl rfl g37 (by kernel_rfl) e37 rfl fun w F38 hL38 hM => ?_
        replace hM := hM.to ((.row b17 30 [.int .i64 o16q, Str t15.nm, Str t15.loc, .int .i64 u16q, .slice t15.A1 t15.es.length t15.c1, .slice t15.A2 t15.th.length t15.c2, .slice t15.A3 t15.el.length t15.c3] :: rG b5_5 q5_3 :: rG b5_4 q5_1 :: rG b1 p :: (F38 ++ G5_3))) (by kernel_rfl)
        refine region_done hK [(118, .bool true), (106, .bool false), (74, .bool false), (8, pA b17 0), (59, .bool true), (49, .bool true), (37, .bool false), (32, .bool false), (4, pA b5_5 0), (3, pA b5_4 0), (17, .bool false), (14, .bool false), (2, .bool false), (1, pA b1 0), (0, vG p), (5, vN di), (6, vN ti), (7, vN si), (9, vN ek), (11, vN tk), (12, vN uk)] ⟨rfl, rfl, rfl, rfl, rfl, rfl, rfl, rfl, rfl, rfl, rfl, rfl, rfl, rfl, rfl, rfl, rfl, rfl, rfl, rfl, rfl, trivial⟩ fun a hK => ?_
        refine region_go (lst := [0, 1, 2]) (by kernel_rfl) ?_
        refine stepM hK 119 12 (by kernel_rfl) (.inl rfl) rfl fun a hK => ?_
        refine stepP hK 120 (.int .i64 (((uk + 1) : Nat) : Int)) (by kernel_rfl) (run_addN (i := uk) (j := 1) rfl rfl rfl (by omega)) fun a hK => ?_
        refine stepM hK 12 120 (by kernel_rfl) (.inr rfl) rfl fun a hK => ?_
        refine region_done hK [(12, .int .i64 (((uk + 1) : Nat) : Int)), (118, .bool true), (106, .bool false), (74, .bool false), (8, pA b17 0), (59, .bool true), (49, .bool true), (37, .bool false), (32, .bool false), (4, pA b5_5 0), (3, pA b5_4 0), (17, .bool false), (14, .bool false), (2, .bool false), (1, pA b1 0), (0, vG p), (5, vN di), (6, vN ti), (7, vN si), (9, vN ek), (11, vN tk)] ⟨rfl, rfl, rfl, rfl, rfl, rfl, rfl, rfl, rfl, rfl, rfl, rfl, rfl, rfl, rfl, rfl, rfl, rfl, rfl, rfl, rfl, trivial⟩ fun a hK => ?_
        have hRn : (uk + 1) ≤ t15.el.length ∧ Like G5_1 F38 := ⟨by omega, hL38⟩
        have hmn : t15.el.length - (uk + 1) < t15.el.length - uk := by omega
        exact ⟨(uk + 1, F38), hK.sub ⟨rfl, rfl, rfl, rfl, rfl, rfl, rfl, rfl, rfl, rfl, rfl, rfl, rfl, rfl, rfl, rfl, rfl, rfl, rfl, rfl, trivial⟩, hM, hRn, hmn⟩
       ·refine stepP hK 118 (.bool false) (by kernel_rfl) (okBool (b := (decide ((((uk : Nat) : Int) : Int) < ((t15.el.length : Nat) : Int)))) (by kernel_rfl) (decide_eq_false h35)) fun a hK => ?_
        refine region_done hK [(118, .bool false), (106, .bool false), (74, .bool false), (8, pA b17 0), (59, .bool true), (49, .bool true), (37, .bool false), (32, .bool false), (4, pA b5_5 0), (3, pA b5_4 0), (17, .bool false), (14, .bool false), (2, .bool false), (1, pA b1 0), (0, vG p), (5, vN di), (6, vN ti), (7, vN si), (9, vN ek), (11, vN tk), (12, vN uk)] ⟨rfl, rfl, rfl, rfl, rfl, rfl, rfl, rfl, rfl, rfl, rfl, rfl, rfl, rfl, rfl, rfl, rfl, rfl, rfl, rfl, rfl, trivial⟩ fun a hK => ?_
        refine wp_cond_false (hK.get rfl) ?_
        refine wp_exit (exit_then (exit_then (exit_here 12 ?_)))
        refine region_go (lst := [0, 1, 2, 3, 4, 5, 6, 7, 8]) (by kernel_rfl) ?_
        refine stepP hK 126 (pA b5_4 1) (by kernel_rfl) (by kernel_rfl) fun a hK => ?_
        refine stepLoad hK 127 (.slice q5_1.A2 q5_1.ts.length q5_1.c2) (by kernel_rfl) rfl rfl ((hM.row 2 rfl).cells 1 1) (by kernel_rfl) fun a hK => ?_
        refine stepM hK 128 6 (by kernel_rfl) (.inl rfl) rfl fun a hK => ?_
        obtain ⟨b39, j39, d39, A39, g39, l39, -⟩ := like_el hL34 (f := cT) (s := 1) (fun _ => rfl) (by decide) hr5_1.threads ht10
        have e39 := like_T l39
        refine stepP hK 129 (.pointer (some ((⟨b39, 0, none⟩ : Addr).add (ti * 1)))) (by kernel_rfl) (run_ixA (k := ti) (s := 1) rfl rfl A39 rfl Tryd.underlying23 (by kernel_rfl) (by omega)) fun a hK => ?_
        refine stepLoad hK 130 (.slice t10.A t10.l.length t10.c) (by kernel_rfl) rfl rfl ((like_cells [.row b17 30 [.int .i64 o16q, Str t15.nm, Str t15.loc, .int .i64 u16q, .slice t15.A1 t15.es.length t15.c1, .slice t15.A2 t15.th.length t15.c2, .slice t15.A3 t15.el.length t15.c3], rG b5_5 q5_3, rG b5_4 q5_1, rG b1 p] G5_3 hM (k := ti) (s := 1) g39 e39)) (by kernel_rfl) fun a hK => ?_
        refine stepM hK 131 7 (by kernel_rfl) (.inl rfl) rfl fun a hK => ?_
        obtain ⟨b40, j40, d40, A40, g40, l40, -⟩ := like_el hL34 (f := cS) (s := 7) (fun _ => rfl) (by decide) mt10.1 ht15
        obtain ⟨o40q, u40q, e40⟩ := like_S l40
        refine stepP hK 132 (.pointer (some ((⟨b40, 0, none⟩ : Addr).add (si * 7)))) (by kernel_rfl) (run_ixA (k := si) (s := 7) rfl rfl A40 rfl Tryd.underlying28 (by kernel_rfl) (by omega)) fun a hK => ?_
        refine stepP hK 133 (.pointer (some ((⟨b40, 0, none⟩ : Addr).add (si * 7)))) (by kernel_rfl) (by kernel_rfl) fun a hK => ?_
        refine stepStoreLike hK [.row b17 30 [.int .i64 o16q, Str t15.nm, Str t15.loc, .int .i64 u16q, .slice t15.A1 t15.es.length t15.c1, .slice t15.A2 t15.th.length t15.c2, .slice t15.A3 t15.el.length t15.c3], rG b5_5 q5_3, rG b5_4 q5_1, rG b1 p] _ F34 G5_3 hM hL34 0 (k := si) (s := 7) (by kernel_rfl) rfl rfl rfl rfl g40 (by kernel_rfl) e40 rfl fun w F41 hL41 hM => ?_
        replace hM := hM.to ((.row b17 30 [.int .i64 o16q, Str t15.nm, Str t15.loc, .int .i64 u16q, .slice t15.A1 t15.es.length t15.c1, .slice t15.A2 t15.th.length t15.c2, .slice t15.A3 t15.el.length t15.c3] :: rG b5_5 q5_3 :: rG b5_4 q5_1 :: rG b1 p :: (F41 ++ G5_3))) (by kernel_rfl)
        refine region_done hK [(118, .bool false), (106, .bool false), (74, .bool false), (8, pA b17 0), (59, .bool true), (49, .bool true), (37, .bool false), (32, .bool false), (4, pA b5_5 0), (3, pA b5_4 0), (17, .bool false), (14, .bool false), (2, .bool false), (1, pA b1 0), (0, vG p), (5, vN di), (6, vN ti), (7, vN si), (9, vN ek), (11, vN tk), (12, vN uk)] ⟨rfl, rfl, rfl, rfl, rfl, rfl, rfl, rfl, rfl, rfl, rfl, rfl, rfl, rfl, rfl, rfl, rfl, rfl, rfl, rfl, rfl, trivial⟩ fun a hK => ?_
        refine region_go (lst := [0, 1, 2]) (by kernel_rfl) ?_
        refine stepM hK 60 7 (by kernel_rfl) (.inl rfl) rfl fun a hK => ?_
        refine stepP hK 61 (.int .i64 (((si + 1) : Nat) : Int)) (by kernel_rfl) (run_addN (i := si) (j := 1) rfl rfl rfl (by omega)) fun a hK => ?_
        refine stepM hK 7 61 (by kernel_rfl) (.inr rfl) rfl fun a hK => ?_
        refine region_done hK [(7, .int .i64 (((si + 1) : Nat) : Int)), (118, .bool false), (106, .bool false), (74, .bool false), (8, pA b17 0), (59, .bool true), (49, .bool true), (37, .bool false), (32, .bool false), (4, pA b5_5 0), (3, pA b5_4 0), (17, .bool false), (14, .bool false), (2, .bool false), (1, pA b1 0), (0, vG p), (5, vN di), (6, vN ti), (9, vN ek), (11, vN tk), (12, vN uk)] ⟨rfl, rfl, rfl, rfl, rfl, rfl, rfl, rfl, rfl, rfl, rfl, rfl, rfl, rfl, rfl, rfl, rfl, rfl, rfl, rfl, rfl, trivial⟩ fun a hK => ?_
        have hRn : (si + 1) ≤ t10.l.length ∧ Like G5_1 F41 := ⟨by omega, hL41⟩
        have hmn : t10.l.length - (si + 1) < t10.l.length - si := by omega
        exact ⟨(si + 1, F41), hK.sub ⟨rfl, rfl, rfl, rfl, rfl, rfl, rfl, rfl, rfl, rfl, rfl, rfl, rfl, trivial⟩, (hM.drop 1), hRn, hmn⟩
    ·refine stepP hK 59 (.bool false) (by kernel_rfl) (okBool (b := (decide ((((si : Nat) : Int) : Int) < ((t10.l.length : Nat) : Int)))) (by kernel_rfl) (decide_eq_false h14)) fun a hK => ?_
     refine region_done hK [(59, .bool false), (49, .bool true), (37, .bool false), (32, .bool false), (4, pA b5_5 0), (3, pA b5_4 0), (17, .bool false), (14, .bool false), (2, .bool false), (1, pA b1 0), (0, vG p), (5, vN di), (6, vN ti), (7, vN si)] ⟨rfl, rfl, rfl, rfl, rfl, rfl, rfl, rfl, rfl, rfl, rfl, rfl, rfl, rfl, trivial⟩ fun a hK => ?_
     refine wp_cond_false (hK.get rfl) ?_
     refine wp_exit (exit_then (exit_then (exit_here 4 ?_)))
     refine region_go (lst := [0, 1, 2]) (by kernel_rfl) ?_
     refine stepM hK 50 6 (by kernel_rfl) (.inl rfl) rfl fun a hK => ?_
     refine stepP hK 51 (.int .i64 (((ti + 1) : Nat) : Int)) (by kernel_rfl) (run_addN (i := ti) (j := 1) rfl rfl rfl (by omega)) fun a hK => ?_
     refine stepM hK 6 51 (by kernel_rfl) (.inr rfl) rfl fun a hK => ?_
     refine region_done hK [(6, .int .i64 (((ti + 1) : Nat) : Int)), (59, .bool false), (49, .bool true), (37, .bool false), (32, .bool false), (4, pA b5_5 0), (3, pA b5_4 0), (17, .bool false), (14, .bool false), (2, .bool false), (1, pA b1 0), (0, vG p), (5, vN di), (7, vN si)] ⟨rfl, rfl, rfl, rfl, rfl, rfl, rfl, rfl, rfl, rfl, rfl, rfl, rfl, rfl, trivial⟩ fun a hK => ?_
     have hRn : (ti + 1) ≤ q5_1.ts.length ∧ Like G5_1 F12 := ⟨by omega, hL12⟩
     have hmn : q5_1.ts.length - (ti + 1) < q5_1.ts.length - ti := by omega
     exact ⟨(ti + 1, F12), hK.sub ⟨rfl, rfl, rfl, rfl, rfl, rfl, rfl, rfl, rfl, rfl, rfl, trivial⟩, hM, hRn, hmn⟩
   ·refine stepP hK 49 (.bool false) (by kernel_rfl) (okBool (b := (decide ((((ti : Nat) : Int) : Int) < ((q5_1.ts.length : Nat) : Int)))) (by kernel_rfl) (decide_eq_false h9)) fun a hK => ?_
    refine region_done hK [(49, .bool false), (37, .bool false), (32, .bool false), (4, pA b5_5 0), (3, pA b5_4 0), (17, .bool false), (14, .bool false), (2, .bool false), (1, pA b1 0), (0, vG p), (5, vN di), (6, vN ti)] ⟨rfl, rfl, rfl, rfl, rfl, rfl, rfl, rfl, rfl, rfl, rfl, rfl, trivial⟩ fun a hK => ?_
    refine wp_cond_false (hK.get rfl) ?_
    refine wp_exit (exit_then (exit_then (exit_here 2 ?_)))
    refine wp_seq ?_
    have hbd : q5_3.ds.length = p.ds.length := by rw [hd5_3]
    by_cases h42 : (((p.ds.length : Nat) : Int) : Int) = 0
    ·have hbd : q5_3.ds.length = p.ds.length := by rw [hd5_3]
     refine region_any (F := fun w => Mem w0 w (rG b5_5 q5_3 :: rG b5_4 q5_1 :: rG b1 p :: (F8 ++ G5_3))) hK [some (vG q5_3), some (vG p), some (.bool true), some (.bool true), some (pA b1 0), some (.slice p.A1 p.ds.length p.c1), some (.int .i64 ((p.ds.length : Nat) : Int)), some (.bool true), some (.bool true), some undef, some undef, some undef, some undef, some undef, some undef, some undef, some undef, some undef, some undef, some undef, some (.bool true), some (.bool true), some (.bool true)] 23 (fun _ _ hb hm => hm.go hb) hM (by kernel_rfl) (by kernel_rfl) ?_ [(2, .bool true), (49, .bool false), (37, .bool false), (32, .bool false), (4, pA b5_5 0), (3, pA b5_4 0), (17, .bool false), (14, .bool false), (1, pA b1 0), (0, vG p), (5, vN di), (6, vN ti)] (by kernel_rfl) fun a w hK hM => ?_
     iterate 23 refine ⟨?_, ?_⟩
     trivial
     ·exact .val _ rfl (by kernel_rfl) (fun w hM => run_loadE rfl rfl ((hM.row 0 rfl).cells 0 2) (by kernel_rfl))
     ·exact .val _ rfl (by kernel_rfl) (fun w hM => run_loadE rfl rfl ((hM.row 2 rfl).cells 0 2) (by kernel_rfl))
     ·exact .call _ #[vG q5_3, vG p] (.bool true) rfl (by kernel_rfl) (fun w => (run_callE en_cantileverkit_Program rfl rfl (by kernel_rfl))) (fun w hM => ret_eq (kit_Program q5_3 p _ ((hr5_3.mono (fun it hi => by simp [hi])).at hM) (hp.on hM.below)) (congrArg Value.bool hs5_3))
     iterate 2 exact .val _ rfl (by kernel_rfl) fun _ _ => by kernel_rfl
     ·exact .val _ rfl (by kernel_rfl) (fun w hM => run_loadE rfl rfl ((hM.row 2 rfl).cells 0 1) (by kernel_rfl))
     ·exact .val _ rfl (by kernel_rfl) fun _ _ => by kernel_rfl
     ·exact .val _ rfl (by kernel_rfl) (fun w hM => (okBool (b := (decide ((((p.ds.length : Nat) : Int) : Int) = 0))) (by kernel_rfl) (decide_eq_true h42)))
     ·exact .val _ rfl (by kernel_rfl) fun _ _ => by kernel_rfl
     iterate 11 exact .skip rfl (by kernel_rfl)
     iterate 3 exact .val _ rfl (by kernel_rfl) fun _ _ => by kernel_rfl
     refine wp_ret ?_
     exact ret_t hK rfl (u := (.bool true)) rfl (⟨rfl, hM.below⟩)
    ·have hbd : q5_3.ds.length = p.ds.length := by rw [hd5_3]
     obtain ⟨t43, ht43⟩ : ∃ t, p.ds[(0 : Nat)]? = some t := ⟨_, List.getElem?_eq_getElem (by omega)⟩
     obtain ⟨⟨at43, At43, ct43⟩, et43⟩ := hp.decls _ _ ht43; have nt43 := et43
     obtain ⟨b44, j44, d44, A44, g44, e44⟩ := own_el (f := cD) (s := 3) (fun _ => rfl) (by decide) (hd5_3 ▸ hr5_3.decls) ht43
     refine region_any (F := fun w => Mem w0 w (rG b5_5 q5_3 :: rG b5_4 q5_1 :: rG b1 p :: (F8 ++ G5_3))) hK [some (vG q5_3), some (vG p), some (.bool true), some (.bool true), some (pA b1 0), some (.slice p.A1 p.ds.length p.c1), some (.int .i64 ((p.ds.length : Nat) : Int)), some (.bool false), some (.bool false), some (pA b1 0), some (.slice p.A1 p.ds.length p.c1), some (.pointer (some (at43.add (0 * 3)))), some (.pointer (some ((at43.add (0 * 3)).add 2))), some (.int .i64 t43.val), some (pA b5_5 0), some (.slice q5_3.A1 q5_3.ds.length q5_3.c1), some (.pointer (some ((⟨b44, 0, none⟩ : Addr).add (0 * 3)))), some (.pointer (some (((⟨b44, 0, none⟩ : Addr).add (0 * 3)).add 2))), some (.int .i64 t43.val), some (.bool true), some (.bool true), some (.bool true), some (.bool true)] 23 (fun _ _ hb hm => hm.go hb) hM (by kernel_rfl) (by kernel_rfl) ?_ [(2, .bool true), (49, .bool false), (37, .bool false), (32, .bool false), (4, pA b5_5 0), (3, pA b5_4 0), (17, .bool false), (14, .bool false), (1, pA b1 0), (0, vG p), (5, vN di), (6, vN ti)] (by kernel_rfl) fun a w hK hM => ?_
     iterate 23 refine ⟨?_, ?_⟩
     trivial
     ·exact .val _ rfl (by kernel_rfl) (fun w hM => run_loadE rfl rfl ((hM.row 0 rfl).cells 0 2) (by kernel_rfl))
     ·exact .val _ rfl (by kernel_rfl) (fun w hM => run_loadE rfl rfl ((hM.row 2 rfl).cells 0 2) (by kernel_rfl))
     ·exact .call _ #[vG q5_3, vG p] (.bool true) rfl (by kernel_rfl) (fun w => (run_callE en_cantileverkit_Program rfl rfl (by kernel_rfl))) (fun w hM => ret_eq (kit_Program q5_3 p _ ((hr5_3.mono (fun it hi => by simp [hi])).at hM) (hp.on hM.below)) (congrArg Value.bool hs5_3))
     iterate 2 exact .val _ rfl (by kernel_rfl) fun _ _ => by kernel_rfl
     ·exact .val _ rfl (by kernel_rfl) (fun w hM => run_loadE rfl rfl ((hM.row 2 rfl).cells 0 1) (by kernel_rfl))
     ·exact .val _ rfl (by kernel_rfl) fun _ _ => by kernel_rfl
     ·exact .val _ rfl (by kernel_rfl) (fun w hM => (okBool (b := (decide ((((p.ds.length : Nat) : Int) : Int) = 0))) (by kernel_rfl) (decide_eq_false h42)))
     iterate 2 exact .val _ rfl (by kernel_rfl) fun _ _ => by kernel_rfl
     ·exact .val _ rfl (by kernel_rfl) (fun w hM => run_loadE rfl rfl ((hM.row 2 rfl).cells 0 1) (by kernel_rfl))
     ·exact .val _ rfl (by kernel_rfl) (fun w hM => (run_ixA (k := 0) (s := 3) rfl rfl At43 rfl Tryd.underlying22 (by kernel_rfl) (by omega)))
     ·exact .val _ rfl (by kernel_rfl) fun _ _ => by kernel_rfl
     ·exact .val _ rfl (by kernel_rfl) (fun w hM => run_loadE rfl rfl (((ct43.on hM.below)).addA 2 1 (by decide)) (by kernel_rfl))
     ·exact .val _ rfl (by kernel_rfl) fun _ _ => by kernel_rfl
     ·exact .val _ rfl (by kernel_rfl) (fun w hM => run_loadE rfl rfl ((hM.row 0 rfl).cells 0 1) (by kernel_rfl))
     ·exact .val _ rfl (by kernel_rfl) (fun w hM => (run_ixA (k := 0) (s := 3) rfl rfl A44 rfl Tryd.underlying22 (by kernel_rfl) (by omega)))
     ·exact .val _ rfl (by kernel_rfl) fun _ _ => by kernel_rfl
     ·exact .val _ rfl (by kernel_rfl) (fun w hM => run_loadE rfl rfl (((like_cells ([rG b5_5 q5_3, rG b5_4 q5_1, rG b1 p] ++ F8) [] (hM.to (([rG b5_5 q5_3, rG b5_4 q5_1, rG b1 p] ++ F8) ++ (G5_3 ++ [])) (by simp)) (k := 0) (s := 3) g44 e44)).addA 2 1 (by decide)) (by kernel_rfl))
     ·exact .val _ rfl (by kernel_rfl) (fun w hM => (okBool (b := (decide ((t43.val : Int) = t43.val))) (by kernel_rfl) (decide_eq_true rfl)))
     iterate 3 exact .val _ rfl (by kernel_rfl) fun _ _ => by kernel_rfl
     refine wp_ret ?_
     exact ret_t hK rfl (u := (.bool true)) rfl (⟨rfl, hM.below⟩)
 ·refine stepRet hK hM 16 #[vG p, .int .i64 3000] (.bool false) (by kernel_rfl) (run_callE en_cantileverkit_LightProgram rfl rfl (by kernel_rfl)) (ret_eq (kit_LightProgram p 3000 _ (hp.on hM.below) (by decide) (by decide)) (congrArg Value.bool h2)) fun a w hK hM => ?_
  refine stepP hK 17 (.bool true) (by kernel_rfl) (by kernel_rfl) fun a hK => ?_
  refine region_done hK [(17, .bool true), (14, .bool false), (2, .bool false), (1, pA b1 0), (0, vG p)] ⟨rfl, rfl, rfl, rfl, rfl, trivial⟩ fun a hK => ?_
  refine wp_cond_true (hK.get rfl) ?_
  refine wp_seq ?_
  refine region_go (lst := [0]) (by kernel_rfl) ?_
  refine stepP hK 2 (.bool true) (by kernel_rfl) (by kernel_rfl) fun a hK => ?_
  refine region_done hK [(2, .bool true), (17, .bool true), (14, .bool false), (1, pA b1 0), (0, vG p)] ⟨rfl, rfl, rfl, rfl, rfl, trivial⟩ fun a hK => ?_
  refine wp_ret ?_
  exact ret_t hK rfl (u := (.bool true)) rfl (⟨rfl, hM.below⟩)
end Go.Proofs.YtiigncmpbkfhmaaDoor
