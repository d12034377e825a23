/-
  THE LAW 'Rewritten', PROVED: for every document and every selector the law answers true, and both read behind the call as they read before; the tables 'references', 'asciiSpace', 'White_Space', 'uint64pow10', 'deBruijn32tab' and 'deBruijn64tab' begin as the program's text lays them (the card ties them).
  The walk of the whole call, beside the goroutines that find.All starts, stands in XC and XD ('rewritten_run'); here are: what the condition on the variables gives the walk, a start that meets it, the row and the card.
-/
import Derived.Test.YtclpcnignheijaaGreatDoorQ41
import Derived.Test.YtclpcnignheijaaGreatDoorHN1
import Derived.Test.YtclpcnignheijaaGreatDoorHR4
import Derived.Test.YtclpcnignheijaaGreatDoorTie
import Derived.Test.YtclpcnignheijaaGreatDoorCards
set_option maxRecDepth 100000
namespace Go.Proofs.YtclpcnignheijaaGreatDoor
open Go.ChangeShapes Go.WideShapes Go.ChangeAt Go.RowKit
open Go.ChangeMaps (open_string shut_string)
theorem qH1{x:String×DataW Unit}{xs:List (String×DataW Unit)}{W:World}(h:laidMet Tryz.prog (x::xs) W):laidMet Tryz.prog xs W:=by
 obtain⟨ps,⟨_,_,_,_,_,q,_,_,_,_,hq,rfl⟩,hn,hc⟩:=h;exact⟨q,hq,(List.nodup_append.1 hn).2.1,fun b off hm=>hc b off (List.mem_append_right _ hm)⟩
theorem tPow:(Tryz.prog.globals[5]?).map (·.type)=some 375:=by kernel_rfl
theorem qSe:Tryz.prog.cellsOf 278=1:=by kernel_rfl
theorem qSb:Tryz.prog.cellsOf 375=20:=by kernel_rfl
theorem qU3:(Rows.laid_internal_strconv_uint64pow10:DataW Unit)=Lib.tabData .u64 Lib.pow10Tab:=by kernel_rfl
theorem qKu {W : World} (hs : W.ShapedOpen Tryz.prog) (h : laidMetH Tryz.prog [("math/bits.deBruijn32tab", Rows.laid_math_bits_deBruijn32tab), ("math/bits.deBruijn64tab", Rows.laid_math_bits_deBruijn64tab), ("internal/strconv.uint64pow10", Rows.laid_internal_strconv_uint64pow10), ("unicode.White_Space", Rows.laid_unicode_White_Space), ("strings.asciiSpace", Rows.laid_strings_asciiSpace), ("copse/markup.references", Rows.laid_copse_markup_references)] W) : Num.Start W ∧ Tb W := by
 rw[MakeChecks.laidMetH_plain _ _ _ (by kernel_rfl)]at h;have h2:=qH1 (qH1 h);refine⟨qTh hs (by rw[MakeChecks.laidMetH_plain _ _ _ (by kernel_rfl)];exact qH1 h2),?_⟩;obtain⟨ps,⟨g,t,cs,fuel,p,q,hg,ht,hvar,hd,_,_⟩,_⟩:=h2;obtain rfl:=Option.some.inj (Tryz.gPow.symm.trans hg);obtain rfl:=Option.some.inj (tPow.symm.trans ht);rw[qU3]at hd;unfold Tb Lib.TabIs;rw[hvar,<-Lib.cells_of_tab Tryz.underlying375 Tryz.underlying278 qSe qSb hd]
theorem qSl (os : Os) (args : Array Value) : laidMetH Tryz.prog [("math/bits.deBruijn32tab", Rows.laid_math_bits_deBruijn32tab), ("math/bits.deBruijn64tab", Rows.laid_math_bits_deBruijn64tab), ("internal/strconv.uint64pow10", Rows.laid_internal_strconv_uint64pow10), ("unicode.White_Space", Rows.laid_unicode_White_Space), ("strings.asciiSpace", Rows.laid_strings_asciiSpace), ("copse/markup.references", Rows.laid_copse_markup_references)] ((World.doorLaid Tryz.prog 257 os).forCall (fun _ _ => 0) ⟨#[], args, []⟩).memory :=
 laidMetH_of_parts3 (fuel:=8) (laidMet_of_run' 8 (by kernel_rfl) (by kernel_rfl)) (by kernel_rfl) (by kernel_rfl)
theorem lifted(os:Os)(started:os.Started)(H:Type)(enc:TypeId×Value->H) :
  ReturnsInLeavingWide {} Tryz.checked os 7 .any (fun w args => (Rows.rewrittenSpec.pre enc Tryz.prog Tryz.f7 [] false w args ∧ laidMetH Tryz.prog [("math/bits.deBruijn32tab", Rows.laid_math_bits_deBruijn32tab), ("math/bits.deBruijn64tab", Rows.laid_math_bits_deBruijn64tab), ("internal/strconv.uint64pow10", Rows.laid_internal_strconv_uint64pow10), ("unicode.White_Space", Rows.laid_unicode_White_Space), ("strings.asciiSpace", Rows.laid_strings_asciiSpace), ("copse/markup.references", Rows.laid_copse_markup_references)] w) ∧ sizedMet enc Tryz.prog Tryz.f7 (OpenSpec.ofChange Rows.rewrittenSpec) false w args)
   (Rows.rewrittenSpec.post enc Tryz.prog Tryz.f7 false true false false):=by
 refine returnsInLeavingWide_of_good (C := Tryz.checked) own started (ChangeSpec.witness_shaped (enc := enc) (C := Tryz.checked) (os := os) (X := fun w _ => laidMetH Tryz.prog [("math/bits.deBruijn32tab", Rows.laid_math_bits_deBruijn32tab), ("math/bits.deBruijn64tab", Rows.laid_math_bits_deBruijn64tab), ("internal/strconv.uint64pow10", Rows.laid_internal_strconv_uint64pow10), ("unicode.White_Space", Rows.laid_unicode_White_Space), ("strings.asciiSpace", Rows.laid_strings_asciiSpace), ("copse/markup.references", Rows.laid_copse_markup_references)] w) false (World.doorLaid Tryz.prog 257 os) #[.string ⟨#[]⟩, .string ⟨#[]⟩] 8 rfl (World.shaped_of_RefB (by kernel_rfl) (by kernel_rfl)) (by kernel_rfl) (by kernel_rfl) (by kernel_rfl) (qSl os _)) ?_
 intro w tape i _ hsh _ hok hpre _;obtain⟨⟨⟨ds,gs,before,hw,hc⟩,hL⟩,hz⟩:=hpre;obtain⟨_,_,_,fn',hfn',_,_,_,_,hval0⟩:=hok;obtain rfl:fn'=Tryz.f7:=Option.some.inj (hfn'.symm.trans Tryz.func7);have hweights:=hz.weights hw;have hW:=DataW.Whole.of_heap (w':=w.forCall tape i) (by rfl) hw
 have hL' : laidMetH Tryz.prog [("math/bits.deBruijn32tab", Rows.laid_math_bits_deBruijn32tab), ("math/bits.deBruijn64tab", Rows.laid_math_bits_deBruijn64tab), ("internal/strconv.uint64pow10", Rows.laid_internal_strconv_uint64pow10), ("unicode.White_Space", Rows.laid_unicode_White_Space), ("strings.asciiSpace", Rows.laid_strings_asciiSpace), ("copse/markup.references", Rows.laid_copse_markup_references)] (w.forCall tape i) := hL.of_heap (by rfl)
 generalize hWW:w.forCall tape i=W at *;have hval:∀(j:Nat) t v,Tryz.f7.params[j]? = some t->i.args[j]? = some v->Value.okWide Tryz.prog W .any w.heap.size t v:=hval0;have hW':=hW;obtain⟨p,q,hA0,hV,rfl,hfz,hnd⟩:=hW;have hA:DataW.TrodAll enc Tryz.prog W 0 (fun _=>true) true Tryz.f7.params.toList i.args.toList ds p:=hA0;rw[Tryz.params7]at hA hval;obtain⟨v0,v1,d0,d1,p0,p1,hargs,rfl,rfl,h0,h1⟩:=trodAll_two hA;obtain⟨rfl,rfl⟩:=trodVars_none hV;rw[hargs]at hval hW' ⊢;obtain⟨s0,rfl,rfl,rfl,hs0⟩:=open_string Tryz.underlying9 (hval 0 9 v0 rfl rfl) h0;obtain⟨s1,rfl,rfl,rfl,hs1⟩:=open_string Tryz.underlying9 (hval 1 9 v1 rfl rfl) h1;have hd:s0.size<=140737488351232:=by
  have:=List.all_eq_true.1 hweights s0.data.toList.length (by
   rw[Tryz.params7];simp[DataW.weightsEach,DataW.weights])
  simp[reachBytes]at this;exact of_decide_eq_true this
 clear hA0 hval0 hval hweights;have e1:Rows.rewrittenSpec.fn H ([.lit (.string s0.data.toList),.lit (.string s1.data.toList)]++[])={ results:=[.lit (.bool true)],args:=[.lit (.string s0.data.toList),.lit (.string s1.data.toList)] }:=by simp[Rows.rewrittenSpec]
 obtain⟨M,last,o,w',t',r1,r2,r3,r4⟩:=Num.rewritten_run (qKu hsh hL').1 (qKu hsh hL').2 s0 s1 hd;refine⟨M,last,o,w',t',r1,r2,r3,r4.mono fun v hp=>?_⟩;obtain⟨rfl,hk⟩:=hp;refine ChangeSpec.post_blind ⟨_,_,_,[],[],[],hW',?_,?_,?_,hk.frame _,fun h=>by cases h⟩
 ·rw[e1];exact trodAll_mk1 (shut_bool Tryz.underlying4 true)
 ·rw[e1];exact trodAll_mk2 (shut_string Tryz.underlying9 hs0) (shut_string Tryz.underlying9 hs1)
 ·rw[e1];rfl
theorem qIG:Rows.RewrittenSaid :=
 OpenClaim.holds_of_wide_leaving 7 Tryz.f7 rfl rfl rfl rfl rfl rfl rfl ⟨rfl,rfl,rfl,rfl,rfl⟩ rfl rfl rfl rfl rfl (by kernel_rfl) Tryz.func7 qG6
  (of_decide_eq_true (by kernel_rfl)) (by unfold Func.isWrapper;first|(rw[if_pos (by decide +kernel)];kernel_rfl)|(rw[if_neg (by decide +kernel)];exact⟨rfl,rfl⟩))
  (fun os started H enc _=>lifted os started H enc)
theorem tied_goes(Lk:Looks){p:Pinned}{s:OpenSpec}{c:OpenClaim}(kinds:List LaidKind)(tests:Bool)(har:Bool×String)(lk:Bool)
  (hc:c.holds p s) (hw:c.wfByText s=true) (htie:c.laidByTextAt Lk p kinds tests)
  (hst:c.start=.entering) (hnb:c.noBlocks=false/\c.again=false) (hm:p.checked.prog.mainIs=some (har.1,har.2.toList)) (hn:(!har.1&&har.2.isEmpty&&!lk)=false)
  (hl:∀f fn,p.checked.prog.funcNamed c.func=some f->p.checked.prog.funcs[f]? = some fn->lk=p.checked.prog.looks []/\∀(j:Nat) t,fn.params[j]? = some t->p.checked.prog.wantsStandIn t=false)
  (hg:true=c.goesBy p.checked.prog) :
  Claim7.holds p (.plain s) { stood:={ row:=c,standIns:=[],harness:=har,looks:=lk },kinds:=[],alts:=[],goes:=true,laidByText:=true,laidKinds:=kinds,laidTests:=tests,laidLooks:=Lk }:=by
 have h6:∀r:OpenClaim,Claim7.isSixth { stood:={ row:=r,standIns:=[],harness:=har,looks:=lk },kinds:=[] }=false:=fun r=>by simpa [Claim7.isSixth]using hn
 exact⟨Claim7.tied_new_at Lk kinds tests (Claim7.new_of_sixth hc har lk hst hnb hm (h6 c) hl) hw,fun D hD=>(by cases hD),htie,(fun h=>by cases h),hg⟩
theorem rewritten_card:Rows.RewrittenCardSaid :=
 tied_goes .later [.data, .data, .data, .listed, .data, .data] true (true, "c3481bd773bf7ab2bcc6d7f47be1508ad9b445e53d2f9f1fcee2be0d2f503958") true
  qIG (by kernel_rfl) rewritten_row_tie rfl ⟨rfl,rfl⟩ (by kernel_rfl) rfl
  (fun f fn hf hfn=>by
   obtain rfl : f = 7 := Option.some.inj ((show Tryz.prog.funcNamed "copse/copsekeep.Rewritten" = some 7 by kernel_rfl).symm.trans hf) |>.symm
   obtain rfl:fn=Tryz.f7:=(Option.some.inj (Tryz.func7.symm.trans hfn)).symm;exact⟨by kernel_rfl,fun j t ht=>by
    rw[Tryz.params7]at ht;have h3:t=9:=by
     rcases j with _|_|j
     ·simpa using ht.symm
     ·simpa using ht.symm
     ·simp at ht
    subst h3;exact(show Tryz.prog.wantsStandIn 9=false by kernel_rfl)⟩)
  (by kernel_rfl)
end Go.Proofs.YtclpcnignheijaaGreatDoor
