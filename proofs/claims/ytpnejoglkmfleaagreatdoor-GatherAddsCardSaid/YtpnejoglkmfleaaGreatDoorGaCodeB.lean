/-
  agreeing; a gatherer's Add. Printed with gengc.py.
-/
import Derived.Test.YtpnejoglkmfleaaGreatDoorGaCodeA
import Derived.Test.YtpnejoglkmfleaaGreatDoorGaPl
namespace Go.Proofs.YtpnejoglkmfleaaGreatDoor
set_option maxRecDepth 20000
open Go.RowKit
attribute [local go_sem ↓] exec_load_att exec_alloc_att exec_store_att exec_slice_at1 exec_alloc_pl exec_store_pl exec_load_pl
set_option maxHeartbeats 6400000 in
theorem gAgree_any (s : Value) (l : List AtM) (a : AtM) (w : World) (hs : Els atl 101 w s l) (ho : ∀ x ∈ l, x.Ok) (ha : a.Ok) (hl : l.length ≤ 1000) :
    Calls Tryz.prog 25 #[s, .agg (atc a)] w fun e w' => ∃ x, e = .returned x ∧ OwnE atl 101 36 w.heap.size w' x (l.filter (fun x => alikeA x a)) ∧ Below w.heap.size w w' := by
  obtain ⟨A, c, rfl⟩ := hs.shape
  have HA : Hid (∀ j (h : j < l.length), ∃ b off, A = some ⟨b, off, none⟩ ∧ ∀ W, Below w.heap.size w W → ElG W b (off + j * 101) l[j]) := hid (fun j h => elG_at hs ho h)
  have HO := hid ho
  have HAO := hid ha
  obtain ⟨N, HN⟩ : ∃ n : Nat, Hid (l.length = n) := ⟨_, hid rfl⟩
  rw [HN.out] at hl ⊢
  have HLN := hid hl
  obtain ⟨F, HF⟩ : ∃ C : Array Value, Hid (atc a = C) := ⟨_, hid rfl⟩
  have HFS : Hid (F.size = 101) := hid (by rw [← HF.out]; exact atc_size ha)
  rw [HF.out]
  have hr := heap_alloc_new w (.cells F 36)
  have HB0 : Hid (Below w.heap.size w (w.alloc (.cells F 36))) := hid ((Below.refl _ _).alloc (Nat.le_refl _) _)
  have HR := hid hr
  obtain ⟨ZA, HZA⟩ : ∃ C : Array Value, Hid (atc atZ = C) := ⟨_, hid rfl⟩
  have HALA : Hid (∀ W, allocAtt W = .ok (.value (.pointer (some ⟨W.heap.size, 0, none⟩))) (W.alloc (.cells ZA 36))) := hid (fun W => by rw [← HZA.out]; exact allocAtt_eq W)
  have HSZA : Hid (ZA.size = 101) := hid (by rw [← HZA.out]; exact atc_size atZ_ok)
  clear hs ho ha hl hr
  go_enter Tryz.func25, Tryz.ntmps25
  go_upto_region 1 with (fail)
  generalize (w.alloc (.cells F 36)) = wz at *
  have HBW : Hid (∀ W, Below wz.heap.size wz W → Below w.heap.size w W ∧ loadAtt (.pointer (some ⟨w.heap.size, 0, none⟩)) W = .ok (.value (.agg F)) W) := hid (fun W h => ⟨HB0.out.trans (h.mono HB0.out.size), loadAtt_row ((h.block _ (lt_of_block HR.out)).trans HR.out) HFS.out⟩)
  go_wp2_with fail
  go_loopw [5, 10] (fun s7 s8 wr => ∃ (i : Nat) (A7 : Option Addr) (n7 c7 : Nat), i ≤ N ∧ s8 = .int .i64 i ∧ s7 = .slice A7 n7 c7 ∧ Hid (FlSt wz wr (.slice A7 n7 c7) ((l.take i).filter (fun x => alikeA x a)))) (fun _ s8 _ => N - (intOf s8).toNat)
  case atStart => exact ⟨0, none, 0, 0, Nat.zero_le _, rfl, rfl, hid ⟨OwnE.nil _ _, Below.refl _ _⟩⟩
  case round =>
    obtain ⟨i, A7, n7, c7, hi, rfl, rfl, HT⟩ := hrel
    by_cases hlt : i < N
    · have hlt' : (i : Int) < (N : Int) := by omega
      have hiL : i < l.length := by rw [HN.out]; exact hlt
      obtain ⟨b1, o1, rfl, h1⟩ := HA.out i hiL
      obtain ⟨_, _, _, l1⟩ := h1 wr (HBW.out wr HT.out.bel).1
      have HYES : Hid (alikeA l[i] a = true → (l.take (i + 1)).filter (fun x => alikeA x a) = (l.take i).filter (fun x => alikeA x a) ++ [l[i]]) := hid (fun e => filter_take_yes _ hiL e)
      have HNO : Hid (alikeA l[i] a = false → (l.take (i + 1)).filter (fun x => alikeA x a) = (l.take i).filter (fun x => alikeA x a)) := hid (fun e => filter_take_no _ hiL e)
      have HXO := hid (HO.out _ (List.getElem_mem hiL))
      have HML : Hid (((l.take i).filter (fun x => alikeA x a)).length ≤ 1000) := hid (Nat.le_trans (filter_take_len l i _) (by have := HLN.out; omega))
      generalize l[i] = x at *
      obtain ⟨M, HM⟩ : ∃ q : List AtM, Hid ((l.take i).filter (fun x => alikeA x a) = q) := ⟨_, hid rfl⟩
      rw [HM.out] at HT HYES HNO HML
      have HHK := hid (show i < N from hlt)
      have HWI : Hid (wrap64 ((i : Int) + 1) = (i : Int) + 1) := hid (by have := HLN.out; unfold wrap64; omega)
      have hwi := HWI.out
      obtain ⟨q, HQ⟩ : ∃ q : Bool, Hid (alikeA x a = q) := ⟨_, hid rfl⟩
      have HAK : Hid (∀ W, Calls Tryz.prog 39 #[.agg (atc x), .agg (atc a)] W fun e w' => e = .returned (.bool (alikeA x a)) ∧ Below W.heap.size W w') := hid (fun W => atAlike_ok x a W HXO.out HAO.out)
      rw [HQ.out] at HYES HNO HAK
      rw [HF.out] at HAK
      obtain ⟨G, HG⟩ : ∃ C : Array Value, Hid (atc x = C) := ⟨_, hid rfl⟩
      have HGS : Hid (G.size = 101 ∧ G.all (·.oneCell') = true) := hid (by rw [← HG.out]; exact ⟨atc_size HXO.out, atc_one _⟩)
      rw [HG.out] at l1 HAK
      have hal := HALA.out wr
      have hst : storeAtt (.pointer (some ⟨wr.heap.size, 0, none⟩)) (.agg G) (wr.alloc (.cells ZA 36)) = .ok .skip (wr.alloc (.cells G 36)) := by
        rw [storeAtt_eq (heap_alloc_new wr _) HSZA.out HGS.out.1 HGS.out.2]
        exact congrArg (fun W => Result.ok Next.skip W) (setCt_alloc wr _ _ G)
      clear h1 hiL hlt hi
      go_upto_region 5 with (fail)
      have hr1 := heap_alloc_new wr (.cells G 36)
      have HF2 := hid (HT.out.below ((Below.refl wr.heap.size wr).alloc (Nat.le_refl _) (.cells G 36)))
      clear l1 hst hal
      generalize (wr.alloc (.cells G 36)) = w2 at *
      generalize wr.heap.size = gx at *
      have HLD : Hid (∀ W, Below w2.heap.size w2 W → loadAtt (.pointer (some ⟨gx, 0, none⟩)) W = .ok (.value (.agg G)) W) := hid (fun W h => loadAtt_row ((h.block _ (lt_of_block hr1)).trans hr1) HGS.out.1)
      have l2 := HLD.out w2 (Below.refl _ _)
      have l3 := (HBW.out w2 HF2.out.bel).2
      clear hr1
      go_wp2_with fail
      refine (HAK.out w2).mono ?_
      rintro e w3 ⟨rfl, hb3⟩
      have HF3 := hid (HF2.out.below hb3)
      have l4 := HLD.out w3 hb3
      clear l2 l3 hb3
      cases q with
      | false =>
        have HE := hid (HNO.out rfl)
        clear l4
        go_wp2_with fail
        go_roundw
        case rel => exact ⟨i + 1, _, _, _, HHK.out, by first | go_num | (rw [HWI.out]; rfl), rfl, by rw [HE.out]; exact HF3⟩
        case measure => exact ga_meas HHK.out hwi
      | true =>
        have HE := hid (HYES.out rfl)
        have hsl : sliceAt1 (.agg G) w3 = .ok (.value (.slice (some ⟨w3.heap.size, 0, none⟩) 1 1)) (w3.alloc (.cells G 36)) := by rw [← HG.out]; exact sliceAt1_eq x HXO.out w3
        have HSGK : Hid (∀ u ∈ [x], u.Ok) := hid (fun u hu => by obtain rfl := List.mem_singleton.1 hu; exact HXO.out)
        have HS4 := hid (HF3.out.below ((Below.refl w3.heap.size w3).alloc (Nat.le_refl _) (.cells G 36)))
        have HEL : Hid (Els atl 101 (w3.alloc (.cells G 36)) (.slice (some ⟨w3.heap.size, 0, none⟩) 1 1) [x]) := hid (els_one w3 x G 36 HG.out)
        have HLN2 : Hid (M.length + [x].length ≤ 1000000) := hid (by have := HML.out; simp only [List.length_cons, List.length_nil]; omega)
        go_wp2_with (at_builtin; go_loud (refine eltAt.wpList_append rfl (.tmp 17) (.tmp 19) rfl rfl rfl HSGK.out HS4.out.own HEL.out HLN2.out HS4.out.bel.size ?_; intro v5 w5 ho5 hg5 hv5; have HS5 := hid (HS4.out.app ho5 hg5); obtain ⟨A5, n5, c5, rfl⟩ : ∃ A n c, v5 = .slice A n c := (by obtain ⟨A, c, e⟩ := ho5.shape; exact ⟨_, _, _, e⟩); clear ho5 hg5 hv5 l4 hsl))
        go_roundw
        case rel => exact ⟨i + 1, _, _, _, HHK.out, by first | go_num | (rw [HWI.out]; rfl), rfl, by rw [HE.out]; exact HS5⟩
        case measure => exact ga_meas HHK.out hwi
    · have hlt' : ¬ (i : Int) < (N : Int) := by omega
      have HE : Hid ((l.take i).filter (fun x => alikeA x a) = l.filter (fun x => alikeA x a)) := hid (by rw [List.take_of_length_le (by rw [HN.out]; omega)])
      rw [HE.out] at HT
      clear hlt hi
      go_wp2_with fail
      go_ret
      exact ⟨_, rfl, HT.out.own.more HB0.out.size, (HBW.out wr HT.out.bel).1⟩
end Go.Proofs.YtpnejoglkmfleaaGreatDoor
