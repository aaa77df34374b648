import Derived.Test.YtihmgigfkmofnaaGreatDoorG41
import Derived.Test.YtihmgigfkmofnaaGreatDoorTSnF
import Derived.Test.YtihmgigfkmofnaaGreatDoorTie
import Derived.Test.YtihmgigfkmofnaaGreatDoorCards
import Derived.SevenTiedAt
import Derived.Deep.DeepHandedRow
import Derived.Deep.DeepWitnessRowRef
set_option maxRecDepth 100000
open Go.Proofs.Tryz
namespace Go.Proofs.YtihmgigfkmofnaaGreatDoor
open Go.ChangeShapes Go.WideShapes Go.ChangeAt Go.WideMaps Go.WideElems Go.RowKit Go.Joins
theorem sound_lifted(os:Os)(started:os.Started)(H:Type)(enc:TypeId × Value→H):ReturnsInHanded {} Tryz.checked os 8 .any (fun w args=>(Rows.treeSoundSpec.pre enc prog Tryz.f8 [] false w args∧laidMetH prog Rows.treeSoundRow.laid w)∧sizedMet enc prog Tryz.f8 (OpenSpec.ofChange Rows.treeSoundSpec) false w args) (Rows.treeSoundSpec.post enc prog Tryz.f8 false true false false):=by
 refine returnsInHanded_of_change_and (C:=Tryz.checked) (X:=fun w _=>laidMetH prog Rows.treeSoundRow.laid w) (fun _ _ _ hh h=>h.of_heap hh) own started (by kernel_rfl) func8
  (ChangeSpec.witness_shaped (enc:=enc) (C:=Tryz.checked) (os:=os) (X:=fun w _=>laidMetH prog Rows.treeSoundRow.laid w) false (World.laidAll prog os Rows.treeSoundRow.laid) #[.agg #[.int .i64 0,.slice none 0 0]] 8 (World.laidAll_os _ _ _)
   (World.shaped_of_ZipB (by kernel_rfl) (by kernel_rfl)) (by kernel_rfl) (by kernel_rfl) (by kernel_rfl)
   (by rw [MakeChecks.laidMetH_plain _ _ _ (by kernel_rfl)];exact laidMet_laidAll _ (by kernel_rfl) (by kernel_rfl))) ?_
 intro W base args ds gs before VH hW _ Xr hL _;have aar:∀ (j:Nat) t v,Tryz.f8.params[j]?=some t→args[j]?=some v→Value.okWide prog W .any base t v:=VH;have b8:(DataW.weightsEach prog (Tryz.f8.params.toList++Rows.treeSoundSpec.plain.varTypes prog) (ds++gs)).all (·≤reachBytes)=true:=Xr;have Zi:=hW;obtain ⟨p,q,hA0,hV,rfl,hfz,jb⟩:=hW;have hA:DataW.TrodAll enc prog W 0 (fun _=>true) true Tryz.f8.params.toList args.toList ds p:=hA0
 rw [Tryz.params8] at hA aar b8;obtain ⟨v0,d0,rfl,rfl,h0⟩:=trodAll_one hA;obtain ⟨rfl,rfl⟩:=trodVars_none hV;have h0k:=h0;have bO:=hA.lt;have dn:(DataW.weightsEach prog [37] [d0]).all (·≤reachBytes)=true:=b8;obtain ⟨rT,sv,ks,rfl,iV,qk,Mf⟩:=T.Ps (aar 0 37 v0 rfl rfl) h0 (fun z hz=>of_decide_eq_true (List.all_eq_true.1 dn z (by simp [DataW.weightsEach,hz])))
 clear hA0 VH Xr;simp only [List.append_nil] at Zi;obtain ⟨A,hE,hG,n7,Uy⟩:=T.xl hL;refine (T.K4 rT sv ks W hE hG n7 Uy iV qk Mf).mono fun e W' ⟨he,hb⟩=>?_
 subst he;refine ⟨_,rfl,_,_,_,[],p,[],Zi,?_,?_,rfl,hb.frame _,fun h=>by cases h⟩
 ·exact trodAll_mk1 (shut_bool underlying4 _)
 ·exact trodAll_mk1 (Below.trod laidOut (by kernel_rfl) (of_decide_eq_true (by kernel_rfl)) h0k hb bO)
theorem sound_holds:Rows.TreeSoundSaid :=
 OpenClaim.holds_of_wide 8 Tryz.f8 rfl rfl rfl rfl rfl rfl rfl ⟨rfl,rfl,rfl,rfl,rfl⟩ rfl rfl rfl rfl rfl (by kernel_rfl) func8 Dt
  (of_decide_eq_true (by kernel_rfl)) (by unfold Func.isWrapper;first | (rw [if_pos (by decide +kernel)];kernel_rfl) | (rw [if_neg (by decide +kernel)];exact ⟨rfl,rfl⟩))
  (fun os started H enc _=>sound_lifted os started H enc)
theorem sound_card_holds:Rows.TreeSoundCardSaid :=
 Claim7.holds_tied_plain_at .later [] _ _ _ _
  sound_holds (fun _ h=>by cases h) (by kernel_rfl) (fun _ h=>by cases h) treeSound_row_tie rfl ⟨rfl,rfl⟩ (by kernel_rfl) rfl
  (fun f fn hf hfn=>by
   obtain rfl:f=8:=Option.some.inj ((show prog.funcNamed "copse/copselaw10.TreeSound" = some 8 by kernel_rfl).symm.trans hf) |>.symm
   obtain rfl:fn=Tryz.f8:=(Option.some.inj (func8.symm.trans hfn)).symm;exact ⟨by kernel_rfl,fun j t ht=>by
    rw [Tryz.params8] at ht;have hm:t ∈ [37]:=by simpa using Array.mem_of_getElem? ht
    have dn:([37].all fun u=>!prog.wantsStandIn u)=true:=by kernel_rfl
    exact (show prog.wantsStandIn t=false by simpa using List.all_eq_true.1 dn t hm)⟩)
  (by kernel_rfl)
#print axioms sound_card_holds
end Go.Proofs.YtihmgigfkmofnaaGreatDoor
