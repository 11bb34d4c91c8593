/- AuditHit holds: each fault hits its node, but those of guardians. For all arguments. -/
import Derived.Test.YtkaeikjfegjpjaaAB10
namespace Go.Proofs.Ytkaeikjfegjpjaa
open Go.ChangeShapes Go.WideShapes Go.ChangeAt Go.RowKit
open Tb (D T)

/-- n acts, the first k of them slots. -/
def acN (n k : Nat) : List AcV := List.replicate k (acZ 5) ++ List.replicate (n - k) (acZ 0)
def acC (n k : Nat) : Array Value := ((acN n k).flatMap acc).toArray
theorem acN_length (n k : Nat) (hk : k ≤ n) : (acN n k).length = n := by simp [acN]; omega
theorem infoAct : (Try.prog.info? 35).map (fun i => (i.zero, i.size)) = some (some (.agg #[.int .i64 0, .int .i64 0, .int .i64 0, .slice none 0 0, .slice none 0 0]), 5) := by kernel_rfl
theorem infoActB : (Try.prog.info? 35).map (fun i => decide (i.bytes ≤ 100)) = some true := by kernel_rfl
theorem made5 (n : Nat) (hn : n ≤ 20) : madeCells (Value.agg #[.int .i64 0, .int .i64 0, .int .i64 0, .slice none 0 0, .slice none 0 0]).cells (n * 5) = acC n 0 := by
  rcases (by omega : n = 0 ∨ n = 1 ∨ n = 2 ∨ n = 3 ∨ n = 4 ∨ n = 5 ∨ n = 6 ∨ n = 7 ∨ n = 8 ∨ n = 9 ∨ n = 10 ∨ n = 11 ∨ n = 12 ∨ n = 13 ∨ n = 14 ∨ n = 15 ∨ n = 16 ∨ n = 17 ∨ n = 18 ∨ n = 19 ∨ n = 20) with rfl | rfl | rfl | rfl | rfl | rfl | rfl | rfl | rfl | rfl | rfl | rfl | rfl | rfl | rfl | rfl | rfl | rfl | rfl | rfl | rfl <;> kernel_rfl
theorem run_makeA (n : Nat) (hn : n ≤ 20) (w : World) : (Instr.makeSlice 25 (.int .i64 (n : Int)) (.int .i64 (n : Int))).run Try.prog w = .ok (.slice (some ⟨w.heap.size, 0, none⟩) n n) (w.alloc (.cells (acC n 0) 35)) := by
  have h1 := infoAct
  have h2 := infoActB
  cases hi : Try.prog.info? 35 with
  | none => rw [hi] at h1; simp at h1
  | some i =>
    rw [hi] at h1 h2
    simp only [Option.map_some, Option.some.injEq, Prod.mk.injEq, decide_eq_true_eq] at h1 h2
    have hb : (i.bytes : Int) * (n : Int) ≤ 281474976710656 := by
      have : i.bytes * n ≤ 100 * 20 := Nat.mul_le_mul h2 hn
      have h : ((i.bytes * n : Nat) : Int) ≤ 281474976710656 := by omega
      rwa [Int.natCast_mul] at h
    have hr := run_make (P := Try.prog) w 25 35 i _ Try.underlying25 hi h1.1 .i64 .i64 n n (by omega) (by omega) hb (by omega)
    simp only [Int.toNat_natCast] at hr
    rw [hr, h1.2, made5 n hn]
theorem acC_get (n k : Nat) (hk : k < n) : (acC n k)[k * 5]? = some (.int .i64 0) := by
  have h := accs_getD (acN n k) k (by rw [acN_length n k (by omega)]; exact hk) 0 (by omega)
  have e : (acN n k).getD k default = acZ 0 := by
    unfold acN
    rw [List.getD_eq_getElem?_getD, List.getElem?_append_right (by simp), List.length_replicate, Nat.sub_self, List.getElem?_replicate, if_pos (by omega)]
    rfl
  rw [e] at h
  unfold acC
  rw [List.getElem?_toArray]
  simpa [acc, acZ] using h
theorem flat_set (l : List AcV) (k : Nat) (x : Int) (hk : k < l.length) (h0 : l.getD k default = acZ 0) : (l.flatMap acc).set (k * 5) (.int .i64 x) = (l.set k (acZ x)).flatMap acc := by
  induction l generalizing k with
  | nil => simp at hk
  | cons d l ih =>
    cases k with
    | zero =>
      have : d = acZ 0 := by simpa using h0
      subst this
      simp [acc, acZ, List.flatMap_cons]
    | succ k =>
      rw [List.flatMap_cons, List.set_cons_succ, List.flatMap_cons, ← ih k (by simpa using hk) (by simpa using h0)]
      have h4 : (acc d).length = 5 := rfl
      rw [List.set_append_right (h := by rw [h4]; omega), h4, show (k + 1) * 5 - 5 = k * 5 by omega]
theorem acC_set (n k : Nat) (hk : k < n) : (acC n k).setIfInBounds (k * 5) (.int .i64 5) = acC n (k + 1) := by
  have e : (acN n k).getD k default = acZ 0 := by
    unfold acN
    rw [List.getD_eq_getElem?_getD, List.getElem?_append_right (by simp), List.length_replicate, Nat.sub_self, List.getElem?_replicate, if_pos (by omega)]
    rfl
  unfold acC
  rw [List.setIfInBounds_toArray, flat_set _ _ _ (by rw [acN_length n k (by omega)]; exact hk) e]
  congr 2
  unfold acN
  rw [List.set_append_right (h := by simp)]
  simp only [List.length_replicate, Nat.sub_self]
  obtain ⟨d, hd⟩ : ∃ d, n - k = d + 1 := ⟨n - k - 1, by omega⟩
  rw [hd, show n - (k + 1) = d by omega, List.replicate_succ, List.set_cons_zero, List.replicate_succ', List.append_assoc]
  rfl
theorem hit_slots (n : Nat) (l : List Ac) : auHit (List.replicate n ⟨5, 0, 0, [], []⟩ ++ l) = auHit l := by
  unfold auHit hitAs
  simp only [List.take_length, List.foldl_append]
  congr 1
  induction n with
  | zero => rfl
  | succ n ih => rw [List.replicate_succ, List.foldl_cons]; exact ih
theorem hit_two (k who : Int) (hk : 1 ≤ k ∧ k ≤ 7) (hw : 0 ≤ who ∧ who ≤ 7) : auHit [⟨5, 0, 0, [], [⟨k, who, 0, []⟩]⟩, ⟨3, 0, 0, [], [⟨1, 7 - who, 0, []⟩]⟩] = if k = 4 ∨ k = 7 then 0 else 2 ^ who.toNat := by
  have e : auHit [⟨5, 0, 0, [], [⟨k, who, 0, []⟩]⟩, ⟨3, 0, 0, [], [⟨1, 7 - who, 0, []⟩]⟩] = hitF 0 ⟨k, who, 0, []⟩ := rfl
  rw [e]
  unfold hitF
  simp only
  by_cases h : k = 4 ∨ k = 7
  · rw [if_neg (by omega), if_pos h]
  · rw [if_pos (by omega), if_neg h]
    unfold ins
    simp
set_option maxRecDepth 100000 in
set_option maxHeartbeats 4000000 in
theorem core_auditHit (k who n : Int) (w : World) :
    Calls Try.prog 7 #[.int .i64 k, .int .i64 who, .int .i64 n] w fun e w' => e = .returned (.bool true) ∧ Below w.heap.size w w' := by
  by_cases call : 1 ≤ k ∧ k ≤ 7 ∧ 0 ≤ who ∧ who ≤ 7 ∧ 0 ≤ n ∧ n ≤ 20
  case neg =>
    go_enter Try.func7, Try.ntmps7
    go_wp2
    all_goals first
      | (exfalso; omega)
      | (go_ret; exact ⟨rfl, Below.refl _ _⟩)
      | skip
  obtain ⟨k1, k7, w0, w7, n0, n20⟩ := call
  obtain ⟨N, rfl⟩ : ∃ t : Nat, n = t := ⟨n.toNat, by omega⟩
  obtain ⟨V, rfl⟩ : ∃ t : Nat, who = t := ⟨who.toNat, by omega⟩
  have q1 : decide (k < (1 : Int)) = false := decide_eq_false (by omega)
  have q2 : decide ((7 : Int) < k) = false := decide_eq_false (by omega)
  have q3 : decide (((V : Nat) : Int) < 0) = false := decide_eq_false (by omega)
  have q4 : decide ((7 : Int) < ((V : Nat) : Int)) = false := decide_eq_false (by omega)
  have q4n : decide (7 < V) = false := decide_eq_false (by omega)
  have q5 : decide (((N : Nat) : Int) < 0) = false := decide_eq_false (by omega)
  have q6 : decide ((20 : Int) < ((N : Nat) : Int)) = false := decide_eq_false (by omega)
  have q6n : decide (20 < N) = false := decide_eq_false (by omega)
  have hmk := run_makeA N (by omega) w
  have Y := Blk.new w w.heap.size rfl (acC N 0) 35
  have hb1 := (Below.refl w.heap.size w).alloc (Nat.le_refl _) (.cells (acC N 0) 35)
  have wu : IntKind.u64.wrap (V : Int) = V := by rw [IntKind.wrap_u64]; omega
  have wp := wrap_pow (show V < 8 by omega)
  have ws : IntKind.i64.wrap (7 - (V : Int)) = 7 - (V : Int) := IntWalk.i64_in _ (by omega)
  have hH := fun W v (h : SeesAc W W.heap.size v (List.replicate N ⟨5, 0, 0, [], []⟩ ++ [⟨5, 0, 0, [], [⟨k, V, 0, []⟩]⟩, ⟨3, 0, 0, [], [⟨1, 7 - V, 0, []⟩]⟩])) => Lib.hid (Hit_au v _ W h)
  have hI := fun W v (h : SeesAc W W.heap.size v (List.replicate N ⟨5, 0, 0, [], []⟩ ++ [⟨5, 0, 0, [], [⟨k, V, 0, []⟩]⟩, ⟨3, 0, 0, [], [⟨1, 7 - V, 0, []⟩]⟩])) => Lib.hid (HitR_au v _ W h)
  rw [hit_slots, hit_two k V ⟨k1, k7⟩ ⟨w0, w7⟩] at hH hI
  have hK := fun W => Lib.hid (known_au W)
  go_enter Try.func7, Try.ntmps7
  go_wp2_with fail
  clear hmk
  generalize w.alloc (.cells (acC N 0) 35) = w1 at *
  go_loopw [8] (fun i wr => ∃ j : Nat, j ≤ N ∧ i = .int .i64 j ∧ Blk wr w.heap.size (acC N j) 35 ∧ Below w.heap.size w wr) (fun i _ => N - (intOf i).toNat)
  case atStart => exact ⟨0, by omega, rfl, Y, hb1⟩
  case round =>
    clear Y hb1
    obtain ⟨j, hj, rfl, Y, hb⟩ := hrel
    by_cases hlt : j < N
    · have r1 : decide ((j : Int) < (N : Nat)) = true := by simp; omega
      have c0 := Y.cell _ (acC_get N j hlt)
      have g0 := Y.frozen (j * 5)
      have YY := Lib.hid ((Y.set (j * 5) (.int .i64 5)).eq (acC_set N j hlt))
      have BB := Lib.hid (hb.setCell (p := ⟨w.heap.size, j * 5, none⟩) (Nat.le_refl _) (.int .i64 5))
      clear Y hb hH hI hK
      go_wp2_with fail
      go_roundw
      case rel => exact ⟨j + 1, by omega, by go_num, YY.out, BB.out⟩
      case measure => simp [intOf]; omega
    · obtain rfl : j = N := by omega
      have r1 : decide ((j : Int) < (j : Nat)) = false := by simp
      have hBx := (((hb.alloc hb.size (.cells #[.int .i64 k, .int .i64 (V : Nat), .int .i64 0, .slice none 0 0] 32)).alloc (by have := hb.size; simp <;> omega) (.cells #[.int .i64 k, .int .i64 (V : Nat), .int .i64 0, .slice none 0 0] 32)).alloc (by have := hb.size; simp <;> omega) (.cells #[.int .i64 1, .int .i64 (7 - (V : Nat)), .int .i64 0, .slice none 0 0] 32)).alloc (by have := hb.size; simp <;> omega) (.cells #[.int .i64 5, .int .i64 0, .int .i64 0, .slice none 0 0, .slice (some ⟨wr.heap.size + 1, 0, none⟩) 1 1, .int .i64 3, .int .i64 0, .int .i64 0, .slice none 0 0, .slice (some ⟨wr.heap.size + 1 + 1, 0, none⟩) 1 1] 35)
      have hown := OwnsAc.blk (l := acN j j) Y (Nat.le_refl _) (by rw [acN_length j j (Nat.le_refl _)]; unfold maxLen; omega)
      rw [acN_length j j (Nat.le_refl _)] at hown
      have hown := (((hown.alloc (.cells #[.int .i64 k, .int .i64 (V : Nat), .int .i64 0, .slice none 0 0] 32)).alloc (.cells #[.int .i64 k, .int .i64 (V : Nat), .int .i64 0, .slice none 0 0] 32)).alloc (.cells #[.int .i64 1, .int .i64 (7 - (V : Nat)), .int .i64 0, .slice none 0 0] 32)).alloc (.cells #[.int .i64 5, .int .i64 0, .int .i64 0, .slice none 0 0, .slice (some ⟨wr.heap.size + 1, 0, none⟩) 1 1, .int .i64 3, .int .i64 0, .int .i64 0, .slice none 0 0, .slice (some ⟨wr.heap.size + 1 + 1, 0, none⟩) 1 1] 35)
      have hf1 := ((Blk.new (wr.alloc (.cells #[.int .i64 k, .int .i64 (V : Nat), .int .i64 0, .slice none 0 0] 32)) (wr.heap.size + 1) (by simp) #[.int .i64 k, .int .i64 (V : Nat), .int .i64 0, .slice none 0 0] 32).alloc (.cells #[.int .i64 1, .int .i64 (7 - (V : Nat)), .int .i64 0, .slice none 0 0] 32)).alloc (.cells #[.int .i64 5, .int .i64 0, .int .i64 0, .slice none 0 0, .slice (some ⟨wr.heap.size + 1, 0, none⟩) 1 1, .int .i64 3, .int .i64 0, .int .i64 0, .slice none 0 0, .slice (some ⟨wr.heap.size + 1 + 1, 0, none⟩) 1 1] 35)
      have hf2 := (Blk.new ((wr.alloc (.cells #[.int .i64 k, .int .i64 (V : Nat), .int .i64 0, .slice none 0 0] 32)).alloc (.cells #[.int .i64 k, .int .i64 (V : Nat), .int .i64 0, .slice none 0 0] 32)) (wr.heap.size + 1 + 1) (by simp) #[.int .i64 1, .int .i64 (7 - (V : Nat)), .int .i64 0, .slice none 0 0] 32).alloc (.cells #[.int .i64 5, .int .i64 0, .int .i64 0, .slice none 0 0, .slice (some ⟨wr.heap.size + 1, 0, none⟩) 1 1, .int .i64 3, .int .i64 0, .int .i64 0, .slice none 0 0, .slice (some ⟨wr.heap.size + 1 + 1, 0, none⟩) 1 1] 35)
      have hac := Blk.new (((wr.alloc (.cells #[.int .i64 k, .int .i64 (V : Nat), .int .i64 0, .slice none 0 0] 32)).alloc (.cells #[.int .i64 k, .int .i64 (V : Nat), .int .i64 0, .slice none 0 0] 32)).alloc (.cells #[.int .i64 1, .int .i64 (7 - (V : Nat)), .int .i64 0, .slice none 0 0] 32)) (wr.heap.size + 1 + 1 + 1) (by simp) #[.int .i64 5, .int .i64 0, .int .i64 0, .slice none 0 0, .slice (some ⟨wr.heap.size + 1, 0, none⟩) 1 1, .int .i64 3, .int .i64 0, .int .i64 0, .slice none 0 0, .slice (some ⟨wr.heap.size + 1 + 1, 0, none⟩) 1 1] 35
      have hylt := Y.lt
      have hsz : w.heap.size ≤ ((((wr.alloc (.cells #[.int .i64 k, .int .i64 (V : Nat), .int .i64 0, .slice none 0 0] 32)).alloc (.cells #[.int .i64 k, .int .i64 (V : Nat), .int .i64 0, .slice none 0 0] 32)).alloc (.cells #[.int .i64 1, .int .i64 (7 - (V : Nat)), .int .i64 0, .slice none 0 0] 32)).alloc (.cells #[.int .i64 5, .int .i64 0, .int .i64 0, .slice none 0 0, .slice (some ⟨wr.heap.size + 1, 0, none⟩) 1 1, .int .i64 3, .int .i64 0, .int .i64 0, .slice none 0 0, .slice (some ⟨wr.heap.size + 1 + 1, 0, none⟩) 1 1] 35)).heap.size := hBx.size
      have hsrc := src_acs _ [⟨⟨5, 0, 0, [], [⟨k, V, 0, []⟩]⟩, .slice none 0 0, .slice (some ⟨wr.heap.size + 1, 0, none⟩) 1 1⟩, ⟨⟨3, 0, 0, [], [⟨1, 7 - V, 0, []⟩]⟩, .slice none 0 0, .slice (some ⟨wr.heap.size + 1 + 1, 0, none⟩) 1 1⟩] _ 2 2 rfl hac (fun y hy => by
        simp only [List.mem_cons, List.not_mem_nil, or_false] at hy
        rcases hy with rfl | rfl <;> exact ⟨rfl, rfl⟩)
      have hroom : (acN j j).length + 2 ≤ maxLen ∧ ((acN j j).length + 2) * 72 ≤ 140737488355328 := by rw [acN_length j j (Nat.le_refl _)]; exact ⟨by unfold maxLen; omega, by omega⟩
      have hBx := Lib.hid hBx
      have hown := Lib.hid hown
      have hf1 := Lib.hid hf1
      have hf2 := Lib.hid hf2
      have hsrc := Lib.hid hsrc
      clear Y hb hac
      go_wp2_with (at_builtin; go_loud (refine wpList_pushC _ rfl (.tmp 47) (.tmp 56) 25 rfl w.heap.size 35 _ 5 72 info_act rfl (by omega) Try.underlying25 _ (acN j j).length _ hown.out rfl _ 2 _ rfl hsrc.out hsz hroom.1 hroom.2 ?_))
      intro v2 w2 ho2 hx2
      have own2 := OwnsAc.joined (l := acN j j) (m := [⟨⟨5, 0, 0, [], [⟨k, V, 0, []⟩]⟩, .slice none 0 0, .slice (some ⟨wr.heap.size + 1, 0, none⟩) 1 1⟩, ⟨⟨3, 0, 0, [], [⟨1, 7 - V, 0, []⟩]⟩, .slice none 0 0, .slice (some ⟨wr.heap.size + 1 + 1, 0, none⟩) 1 1⟩]) ho2
      have g1 := hf1.out.ext hx2 (by simp [Value.ownBlock]; omega)
      have g2 := hf2.out.ext hx2 (by simp [Value.ownBlock]; omega)
      have hb2 := Lib.hid (hBx.out.trans (hx2.toBelow hsz (fun i hi => by simp [Value.ownBlock] at hi; omega)))
      have see := own2.sees (acs_ok (fun y hy => by
        rcases List.mem_append.1 hy with hy | hy
        · rcases List.mem_append.1 hy with hy | hy
          · rw [List.eq_of_mem_replicate hy]; exact acZ_ok _ _ _
          · rw [List.eq_of_mem_replicate hy]; exact acZ_ok _ _ _
        · simp only [List.mem_cons, List.not_mem_nil, or_false] at hy
          rcases hy with rfl | rfl
          · exact ⟨SeesL.nil, SeesF.ofBlk g1 ⟨k, V, 0, []⟩ rfl rfl rfl rfl SeesL.nil bytesL_nil, bytesL_nil⟩
          · exact ⟨SeesL.nil, SeesF.ofBlk g2 ⟨1, 7 - V, 0, []⟩ rfl rfl rfl rfl SeesL.nil bytesL_nil, bytesL_nil⟩))
      have em : (acN j j ++ ([⟨⟨5, 0, 0, [], [⟨k, V, 0, []⟩]⟩, .slice none 0 0, .slice (some ⟨wr.heap.size + 1, 0, none⟩) 1 1⟩, ⟨⟨3, 0, 0, [], [⟨1, 7 - V, 0, []⟩]⟩, .slice none 0 0, .slice (some ⟨wr.heap.size + 1 + 1, 0, none⟩) 1 1⟩] : List AcV)).map AcV.x = List.replicate j ⟨5, 0, 0, [], []⟩ ++ [⟨5, 0, 0, [], [⟨k, V, 0, []⟩]⟩, ⟨3, 0, 0, [], [⟨1, 7 - V, 0, []⟩]⟩] := by
        simp [acN, acZ]
      rw [em] at see
      have see := Lib.hid see
      clear own2 g1 g2 hBx hown hf1 hf2 hsrc hx2 ho2 em hylt hsz hroom
      by_cases h47 : k = 4 ∨ k = 7
      · rw [if_pos h47] at hH hI
        rcases h47 with rfl | rfl
        all_goals
          go_wp2_with fail
          refine (hH _ _ see.out).out.mono ?_
          rintro e w3 ⟨rfl, b3⟩
          have see3 := Lib.hid ((see.out.below b3).more b3.size)
          have hb3 := Lib.hid (hb2.out.trans (b3.mono hb2.out.size))
          clear see hb2 b3
          go_wp2_with fail
          refine (hH _ _ see3.out).out.mono ?_
          rintro e w4 ⟨rfl, b4⟩
          have see4 := Lib.hid ((see3.out.below b4).more b4.size)
          have hb4 := Lib.hid (hb3.out.trans (b4.mono hb3.out.size))
          clear see3 hb3 b4
          go_wp2_with fail
          refine (hI _ _ see4.out).out.mono ?_
          rintro e w5 ⟨rfl, b5⟩
          have hb5 := Lib.hid (hb4.out.trans (b5.mono hb4.out.size))
          clear see4 hb4 b5
          go_wp2_with fail
          refine (hK _).out.mono ?_
          rintro e w6 ⟨rfl, b6⟩
          have hb6 := Lib.hid (hb5.out.trans (b6.mono hb5.out.size))
          clear hb5 b6 hH hI hK
          go_wp2_with fail
          go_ret
          exact ⟨rfl, hb6.out⟩
      · rw [if_neg h47, Int.toNat_natCast] at hH hI
        have r4 : (k == 4) = false := by rw [beq_eq_false_iff_ne]; omega
        have r7 : (k == 7) = false := by rw [beq_eq_false_iff_ne]; omega
        rw [cast_pow] at hH hI
        go_wp2_with fail
        refine (hH _ _ see.out).out.mono ?_
        rintro e w3 ⟨rfl, b3⟩
        have see3 := Lib.hid ((see.out.below b3).more b3.size)
        have hb3 := Lib.hid (hb2.out.trans (b3.mono hb2.out.size))
        clear see hb2 b3
        go_wp2_with fail
        refine (hH _ _ see3.out).out.mono ?_
        rintro e w4 ⟨rfl, b4⟩
        have see4 := Lib.hid ((see3.out.below b4).more b4.size)
        have hb4 := Lib.hid (hb3.out.trans (b4.mono hb3.out.size))
        clear see3 hb3 b4
        go_wp2_with fail
        refine (hI _ _ see4.out).out.mono ?_
        rintro e w5 ⟨rfl, b5⟩
        have hb5 := Lib.hid (hb4.out.trans (b5.mono hb4.out.size))
        clear see4 hb4 b5
        go_wp2_with fail
        refine (hK _).out.mono ?_
        rintro e w6 ⟨rfl, b6⟩
        have hb6 := Lib.hid (hb5.out.trans (b6.mono hb5.out.size))
        clear hb5 b6 hH hI hK
        go_wp2_with fail
        go_ret
        exact ⟨rfl, hb6.out⟩
theorem walk_auditHit (k who n : Int) (w : World) (_h_k : -9223372036854775808 ≤ k ∧ k ≤ 9223372036854775807) (_h_w : -9223372036854775808 ≤ who ∧ who ≤ 9223372036854775807) (_h_n : -9223372036854775808 ≤ n ∧ n ≤ 9223372036854775807) :
    Calls Try.prog 7 #[.int .i64 k, .int .i64 who, .int .i64 n] w fun e w' => e = .returned (.bool true) ∧ Below w.heap.size w w' := core_auditHit k who n w

/-! ### THE ROW's STEP around the walk. -/
theorem own_auditHit : ownKnob Try.prog.godebug = none := by kernel_rfl
theorem laidOut_auditHit : laidOutB Try.prog = true := by kernel_rfl
set_option maxRecDepth 100000 in
theorem lifted_auditHit (os : Os) (started : os.Started) (H : Type) (enc : TypeId × Value → H) :
    ReturnsInHanded {} Try.checked os 7 .any (Rows.auditHitSpec.pre6 enc Try.prog Try.f7 Rows.auditHitRow.domain false) (Rows.auditHitSpec.post enc Try.prog Try.f7 false true false false) := by
  refine returnsInHanded_of_change (C := Try.checked) own_auditHit started (by kernel_rfl) Try.func7
    (ChangeSpec.witness6 (enc := enc) (C := Try.checked) false ⟨#[], #[.int .i64 0, .int .i64 0, .int .i64 0], []⟩ 8 (by kernel_rfl) (by kernel_rfl) (by kernel_rfl) (by kernel_rfl)) ?_
  intro W base args ds gs before hval0 hW hcnd _
  have hval : ∀ (j : Nat) t v, Try.f7.params[j]? = some t → args[j]? = some v → Value.okWide Try.prog W .any base t v := hval0
  have hW' := hW
  obtain ⟨p, q, hA0, hV, rfl, hfz, hnd⟩ := hW
  have hA : DataW.TrodAll enc Try.prog W 0 (fun _ => true) true Try.f7.params.toList args.toList ds p := hA0
  rw [Try.params7] at hA hval
  obtain ⟨v0, vs0, d0, ds0, p0, q0, hargs, rfl, rfl, h0, r0⟩ := trodAll_cons hA
  obtain ⟨v1, vs1, d1, ds1, p1, q1, rfl, rfl, rfl, h1, r1⟩ := trodAll_cons r0
  obtain ⟨v2, vs2, d2, ds2, p2, q2, rfl, rfl, rfl, h2, r2⟩ := trodAll_cons r1
  obtain ⟨rfl, rfl, rfl⟩ := trodAll_nil r2
  obtain rfl : args = #[v0, v1, v2] := by cases args; simp_all
  obtain ⟨rfl, rfl⟩ := trodVars_none hV
  obtain ⟨a0, rfl, rfl, rfl, w0⟩ := open_int Try.underlying3 (hval 0 3 v0 rfl rfl) h0
  obtain ⟨a1, rfl, rfl, rfl, w1⟩ := open_int Try.underlying3 (hval 1 3 v1 rfl rfl) h1
  obtain ⟨a2, rfl, rfl, rfl, w2⟩ := open_int Try.underlying3 (hval 2 3 v2 rfl rfl) h2
  clear hA0 hval0
  refine (walk_auditHit a0 a1 a2 W (bounds_i64 w0) (bounds_i64 w1) (bounds_i64 w2)).mono fun e W' ⟨he, bel⟩ => ?_
  subst he
  exact ⟨_, rfl, _, _, _, [], _, [], hW', trodAll_mk1 (shut_bool Try.underlying4 _), (trodAll_cons_mk (shut_int Try.underlying3 w0) (trodAll_cons_mk (shut_int Try.underlying3 w1) (trodAll_cons_mk (shut_int Try.underlying3 w2) trodAll_mk0))), rfl, bel.frame _, fun h => by cases h⟩

theorem over_auditHit : Rows.auditHitRow.holds Try.pinned (OpenSpec.ofChange Rows.auditHitSpec) :=
  OpenClaim.holds_of_wide 7 Try.f7 rfl rfl rfl rfl rfl rfl rfl ⟨rfl, rfl, rfl, rfl, rfl⟩ rfl rfl rfl rfl rfl (by kernel_rfl) Try.func7 (by kernel_rfl)
    (of_decide_eq_true (by kernel_rfl)) (by unfold Func.isWrapper; first | (rw [if_pos (by decide +kernel)]; kernel_rfl) | (rw [if_neg (by decide +kernel)]; exact ⟨rfl, rfl⟩))
    (fun os started H enc _ => lifted_auditHit os started H enc)

theorem proved_auditHit : Rows.AuditHitSaid := over_auditHit
end Go.Proofs.Ytkaeikjfegjpjaa
