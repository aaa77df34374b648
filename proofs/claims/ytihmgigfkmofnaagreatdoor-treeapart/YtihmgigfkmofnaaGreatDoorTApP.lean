import Derived.Test.YtihmgigfkmofnaaGreatDoorG39
import Derived.Test.YtihmgigfkmofnaaGreatDoorTApF
import Derived.Test.YtihmgigfkmofnaaGreatDoorTie
import Derived.Test.YtihmgigfkmofnaaGreatDoorCards
import Derived.SevenTiedAt
import Derived.Deep.DeepHandedRow
import Derived.Deep.DeepWitnessRowRef
set_option maxRecDepth 100000
open Go.Proofs.Tryz
namespace Go.Proofs.YtihmgigfkmofnaaGreatDoor
open Go.ChangeShapes Go.WideShapes Go.ChangeAt Go.WideMaps Go.WideElems Go.RowKit Go.Joins
theorem apart_lifted(os:Os)(started:os.Started)(H:Type)(enc:TypeId × Value→H):ReturnsInHanded {} Tryz.checked os 6 .any (fun w args=>(Rows.treeApartSpec.pre enc prog Tryz.f6 [] false w args∧laidMetH prog Rows.treeApartRow.laid w)∧sizedMet enc prog Tryz.f6 (OpenSpec.ofChange Rows.treeApartSpec) false w args) (Rows.treeApartSpec.post enc prog Tryz.f6 false true false false):=by
 refine returnsInHanded_of_change_and (C:=Tryz.checked) (X:=fun w _=>laidMetH prog Rows.treeApartRow.laid w) (fun _ _ _ hh h=>h.of_heap hh) own started (by kernel_rfl) func6
  (ChangeSpec.witness_shaped (enc:=enc) (C:=Tryz.checked) (os:=os) (X:=fun w _=>laidMetH prog Rows.treeApartRow.laid w) false (World.laidAll prog os Rows.treeApartRow.laid) #[.agg #[.int .i64 0,.slice none 0 0,.int .i64 0,.slice none 0 0,.int .i64 0,.slice none 0 0]] 8 (World.laidAll_os _ _ _)
   (World.shaped_of_ZipB (by kernel_rfl) (by kernel_rfl)) (by kernel_rfl) (by kernel_rfl) (by kernel_rfl)
   (by rw [MakeChecks.laidMetH_plain _ _ _ (by kernel_rfl)];exact laidMet_laidAll _ (by kernel_rfl) (by kernel_rfl))) ?_
 intro W base args ds gs before Um hW _ YF hL _;have Yx:∀ (j:Nat) t v,Tryz.f6.params[j]?=some t→args[j]?=some v→Value.okWide prog W .any base t v:=Um;have b7:(DataW.weightsEach prog (Tryz.f6.params.toList++Rows.treeApartSpec.plain.varTypes prog) (ds++gs)).all (·≤reachBytes)=true:=YF;have XA:=hW;obtain ⟨p,q,hA0,hV,rfl,hfz,jo⟩:=hW;have hA:DataW.TrodAll enc prog W 0 (fun _=>true) true Tryz.f6.params.toList args.toList ds p:=hA0
 rw [Tryz.params6] at hA Yx b7;obtain ⟨v0,d0,rfl,rfl,h0⟩:=trodAll_one hA;obtain ⟨rfl,rfl⟩:=trodVars_none hV;have h0k:=h0;have bN:=hA.lt;have df:(DataW.weightsEach prog [76] [d0]).all (·≤reachBytes)=true:=b7;obtain ⟨px,sx,pa,sa,pb,sb,kx,ka,kb,rfl,hx,ha,hb⟩:=T.Kt (Yx 0 76 v0 rfl rfl) h0 (fun z hz=>of_decide_eq_true (List.all_eq_true.1 df z (by simp [DataW.weightsEach,hz])))
 clear hA0 Um YF;simp only [List.append_nil] at XA;obtain ⟨A,hE,hG,o8,MK⟩:=T.vT hL;refine (T.Mg px pa pb sx sa sb kx ka kb W hE hG o8 MK hx.1 hx.2.1 hx.2.2 ha.1 ha.2 hb.1 hb.2).mono fun e W' ⟨he,hb⟩=>?_
 subst he;refine ⟨_,rfl,_,_,_,[],p,[],XA,?_,?_,rfl,hb.frame _,fun h=>by cases h⟩
 ·exact trodAll_mk1 (shut_bool underlying4 _)
 ·exact trodAll_mk1 (Below.trod laidOut (by kernel_rfl) (of_decide_eq_true (by kernel_rfl)) h0k hb bN)
theorem apart_holds:Rows.TreeApartSaid :=
 OpenClaim.holds_of_wide 6 Tryz.f6 rfl rfl rfl rfl rfl rfl rfl ⟨rfl,rfl,rfl,rfl,rfl⟩ rfl rfl rfl rfl rfl (by kernel_rfl) func6 EU
  (of_decide_eq_true (by kernel_rfl)) (by unfold Func.isWrapper;first | (rw [if_pos (by decide +kernel)];kernel_rfl) | (rw [if_neg (by decide +kernel)];exact ⟨rfl,rfl⟩))
  (fun os started H enc _=>apart_lifted os started H enc)
theorem apart_card_holds:Rows.TreeApartCardSaid :=
 Claim7.holds_tied_plain_at .later [] _ _ _ _
  apart_holds (fun _ h=>by cases h) (by kernel_rfl) (fun _ h=>by cases h) treeApart_row_tie rfl ⟨rfl,rfl⟩ (by kernel_rfl) rfl
  (fun f fn hf hfn=>by
   obtain rfl:f=6:=Option.some.inj ((show prog.funcNamed "copse/copselaw10.TreeApart" = some 6 by kernel_rfl).symm.trans hf) |>.symm
   obtain rfl:fn=Tryz.f6:=(Option.some.inj (func6.symm.trans hfn)).symm;exact ⟨by kernel_rfl,fun j t ht=>by
    rw [Tryz.params6] at ht;have hm:t ∈ [76]:=by simpa using Array.mem_of_getElem? ht
    have df:([76].all fun u=>!prog.wantsStandIn u)=true:=by kernel_rfl
    exact (show prog.wantsStandIn t=false by simpa using List.all_eq_true.1 df t hm)⟩)
  (by kernel_rfl)
#print axioms apart_card_holds
end Go.Proofs.YtihmgigfkmofnaaGreatDoor
