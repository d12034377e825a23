/-
  Parts of the proof: O1, O2, O3, O4, O5, O6, O7, O8, O9, O10, O11.
-/
import Derived.Test.YtclpcnignheijaaGreatDoorProg
import Derived.Test.YtclpcnignheijaaGreatDoorQ20
import Derived.Great.BuildSlice
import Derived.Conc.CompanyDraw
import Derived.Test.YtclpcnignheijaaGreatDoorI3
set_option maxRecDepth 100000
namespace Go.Proofs.YtclpcnignheijaaGreatDoor
open Go Go.Conc Go.Proofs.Tryz
structure Finder(P:Program)(n:Nat)(mP:Nat->Bool)(tv:Value)(Fnd:Value->World->Prop):Prop where
 re:∀x u T d,Fnd x u->Fnd x (u.re T d)
 tree:∀x u,Fnd x u->∃b off,x=.pointer (some ⟨b,off,none⟩)/\u.cell? ⟨b,off,none⟩=some tv
 small:n<4611686018427387904
 has:∀x u (k:Nat),Fnd x u->k<n+2->Calls P 73 #[tv,.int .i64 k] u fun e u'=>∃y,e=.returned y/\y=.bool (decide (k<n))/\Fnd x u'
 means:∀x u (k:Nat),Fnd x u->k<n->Calls P 97 #[x,.int .i64 k] u fun e u'=>∃y,e=.returned y/\y=.bool (mP k)/\Fnd x u'
def qBl(n:Nat)(mP:Nat->Bool):Nat->Nat->List Int
 |0,_=>[]
 |f+1,k=>if k<n then(if mP k then[(k:Int)]else[])++qBl n mP f (k+2)else[]
noncomputable def qG2:Code:=Tryz.f90.body.getD .skip
noncomputable def qOy:Code:=match qG2 with|.seq (.seq _ (.block _ (.loop c))) _=>c|_=>.skip
noncomputable def qTc:Code:=match qG2 with|.seq _ r=>r|_=>.skip
def frS:Frame:={ (default:Frame)with fn:=90,kind:=.deferred }
def qR8(P:Program):Frame:={ (default:Frame)with fn:=P.funcs.size,defers:=[],mode:=.panicking [goexitEntry] }
section
variable{al:Cfg}{gl:Nat->Bool}{N0 n:Nat}{mP:Nat->Bool}{tv:Value}{Fnd:Value->World->Prop}{c:Nat}{w0:World}
def qSE(al:Cfg)(gl:Nat->Bool)(N0 n:Nat)(mP:Nat->Bool)(Fnd:Value->World->Prop)(c:Nat)(w0:World)(f:Nat)(a:Act)(xs:List Int)(O:Nat->Prop)(w:World):Prop :=
 ∃(k:Nat)(x:Value)(π:Ren prog.globals.size)(u:World),n<=k+2*f/\a.tmps.size=22/\a.defers=[]/\a.eval (.tmp 2)=.chan (some c)/\a.eval (.tmp 6)=.int .i64 k/\k<n+2/\xs=qBl n mP f k /\
  InView prog al gl N0 (fun _=>False) w0 O π u w/\Fnd x u/\VRel (fun f=>al f=true) π x (a.eval (.tmp 0))
def qSB(c:Nat):Exit->Act->List Int->(Nat->Prop)->World->Prop
 |.normal,a,xs,_,_=>a.tmps.size=22/\a.defers=[]/\a.eval (.tmp 2)=.chan (some c)/\xs=[]
 |_,_,_,_,_=>False
theorem qWB(S:Setup prog al gl (fun r=>r<N0))(hF:Finder prog n mP tv Fnd)(hal1:al 73=true)(hal2:al 97=true)(f:Nat)(a:Act)(xs:List Int)(O:Nat->Prop)(w:World)(h:qSE al gl N0 n mP Fnd c w0 f a xs O w) :
  wpK (WScr prog N0 c) 90 qOy (qKW (fun a' s' O' w'=>∃f',f'<f/\qSE al gl N0 n mP Fnd c w0 f' a' s' O' w') (qEw 0 (qSB c))) a xs O w:=by
 obtain⟨k,x,π,u,hk,hsz,hdf,h2,h6,hkn,hxs,V,hx,hv⟩:=h;have C:=qKe (P:=prog) (N0:=N0) c;simp only[qOy,qG2,Tryz.f90,Option.getD_some];refine qBn C (qBn C (qAp C ?_));simp only[List.size_toArray,List.length_cons,List.length_nil,Nat.reduceAdd,Nat.zero_add,List.range,List.range.loop];refine qBE C (some 8) (.tmp 0) rfl rfl rfl rfl ?_;obtain⟨bk,off,rfl,hcell⟩:=hF.tree x u hx;have hcell':∀T d,(u.re T d).cell? ⟨bk,off,none⟩=some tv:=fun _ _=>hcell;refine qCG C S V rfl rfl rfl (some 9) rfl 8 rfl (.pointer (some ⟨bk,off,none⟩)) (by simp only[qAA,hsz];exact hv) (.pointer (some ⟨bk,off,none⟩)) (fun T d=>by unfold execOp;simp[go_sem,one]) ?_;rintro O1 π1 y1 w1⟨hle1,-⟩hy1 V1;refine qCG C S V1 rfl rfl rfl (some 10) rfl 9 rfl (.pointer (some ⟨bk,off,none⟩)) (by simp only[qAA,qAB,hsz];exact hy1) (.pointer (some ⟨bk,off,none⟩)) (fun T d=>by unfold execOp;simp[go_sem,one]) ?_;rintro O2 π2 y2 w2⟨hle2,-⟩hy2 V2;refine qCG C S V2 rfl rfl rfl (some 11) rfl 10 rfl (.pointer (some ⟨bk,off,none⟩)) (by simp only[qAA,qAB,hsz];exact hy2) tv (fun T d=>by unfold execOp;simp[go_sem,one,hcell']) ?_;rintro O3 π3 y3 w3⟨hle3,-⟩hy3 V3;refine qBE C (some 12) (.tmp 6) rfl rfl rfl rfl ?_;refine qJA C S V3 73 (some 13) 11 12 rfl rfl rfl rfl hal1 func73 rfl rfl tv (.int .i64 k) (by simp only[qAA,qAB,hsz];exact hy3) (by simp[qAA,qAB,hsz,h6];exact .int _ _) (fun y u'=>y=.bool (decide (k<n))/\Fnd (.pointer (some ⟨bk,off,none⟩)) u') (fun y u' T d q=>⟨q.1,hF.re _ _ _ _ q.2⟩) (fun T=>hF.has _ _ k (hF.re _ _ _ _ hx) hkn) ?_;rintro O4 π4 y4 y4' u4 w4 hle4⟨rfl,hx4⟩hy4 V4;refine qBG C ?_;have hle:=Ren.le_trans (Ren.le_trans hle1 hle2) (Ren.le_trans hle3 hle4);generalize hA:Act.put _ _ _=A;have f0:A.eval (.tmp 0)=a.eval (.tmp 0):=by rw[<-hA];simp[qAA,qAB,hsz]
 have f2:A.eval (.tmp 2)=.chan (some c):=by rw[<-hA];simp[qAA,qAB,hsz,h2]
 have f6:A.eval (.tmp 6)=.int .i64 k:=by rw[<-hA];simp[qAA,qAB,hsz,h6]
 have f13:A.eval (.tmp 13)=.bool (decide (k<n)):=by
  rw[<-hA];simp only[qAA,qAB,hsz];generalize y4'=z at hy4;cases hy4;rfl
 have fs:A.tmps.size=22:=by rw[<-hA];simp[qAB,hsz]
 have fd:A.defers=[]:=by rw[<-hA];simp[qAM,hdf]
 clear hA;refine qDs C f13 ?_;have hv4:=hv.mono hle;rw[<-f0]at hv4;by_cases hlt:k<n
 ·simp only[hlt,decide_true,if_true];obtain⟨f,rfl⟩:∃f',f=f'+1:=⟨f-1,by omega⟩;refine qKd C ?_;refine qBn C (qEa C (qBn C (qAp C ?_)));simp only[List.size_toArray,List.length_cons,List.length_nil,Nat.reduceAdd,Nat.zero_add,List.range,List.range.loop];refine qBE C (some 16) (.tmp 0) rfl rfl rfl rfl ?_;refine qBE C (some 17) (.tmp 6) rfl rfl rfl rfl ?_;refine qJA C S V4 97 (some 18) 16 17 rfl rfl rfl rfl hal2 func97 rfl rfl (.pointer (some ⟨bk,off,none⟩)) (.int .i64 k) (by simp only[qAA,qAB,fs];exact hv4) (by simp[qAA,qAB,fs,f6];exact .int _ _) (fun y u'=>y=.bool (mP k)/\Fnd (.pointer (some ⟨bk,off,none⟩)) u') (fun y u' T d q=>⟨q.1,hF.re _ _ _ _ q.2⟩) (fun T=>hF.means _ _ k (hF.re _ _ _ _ hx4) hlt) ?_;rintro O5 π5 y5 y5' u5 w5 hle5⟨rfl,hx5⟩hy5 V5;refine qBG C ?_;generalize hB:Act.put _ _ _=B;have g0:B.eval (.tmp 0)=A.eval (.tmp 0):=by rw[<-hB];simp[qAA,qAB,fs]
  have g2:B.eval (.tmp 2)=.chan (some c):=by rw[<-hB];simp[qAA,qAB,fs,f2]
  have g6:B.eval (.tmp 6)=.int .i64 k:=by rw[<-hB];simp[qAA,qAB,fs,f6]
  have g18:B.eval (.tmp 18)=.bool (mP k):=by
   rw[<-hB];simp only[qAA,qAB,fs];generalize y5'=z at hy5;cases hy5;rfl
  have gs:B.tmps.size=22:=by rw[<-hB];simp[qAB,fs]
  have gd:B.defers=[]:=by rw[<-hB];simp[qAM,fd]
  clear hB;have hv5:=hv4.mono hle5;rw[<-g0]at hv5;have last:∀(D:Act),D.eval (.tmp 0)=B.eval (.tmp 0)->D.eval (.tmp 2)=.chan (some c)->D.eval (.tmp 6)=.int .i64 k->D.tmps.size=22->D.defers=[]->wpK (WScr prog N0 c) 90 (match qOy with|.seq _ (.seq _ r)=>r|_=>.skip) (qKW (fun a' s' O' w'=>∃f',f'<f+1/\qSE al gl N0 n mP Fnd c w0 f' a' s' O' w') (qEw 0 (qSB c))) D (qBl n mP f (k+2)) O5 w5:=by
   intro D d0 d2 d6 ds dd;simp only[qOy,qG2,Tryz.f90,Option.getD_some];refine qAp C ?_;simp only[List.size_toArray,List.length_cons,List.length_nil,Nat.reduceAdd,Nat.zero_add,List.range,List.range.loop];refine qBE C (some 14) (.tmp 6) rfl rfl rfl rfl ?_;have hwr:IntKind.i64.wrap ((k:Int)+2)=((k+2:Nat):Int):=by
    have:=hF.small;rw[IntKind.wrap_i64];omega
   refine qDj C S V5 rfl rfl rfl (some 15) rfl 14 (.int .i64 2) rfl (.int _ _) (.int .i64 k) (by simp[qAA,ds,d6];exact .int _ _) (.int .i64 ((k+2:Nat):Int)) (fun T d=>by unfold execOp;simp[go_sem,one,hwr]) ?_;rintro O6 π6 y6 w6⟨hle6,-⟩hy6 V6;refine qBK C (some 6) (.tmp 15) rfl rfl rfl rfl ?_;refine qBG C ?_;refine⟨f,by omega,k+2,_,π6,u5,by omega,by simp[qAB,ds],by simp[qAM,dd],by simp[qAA,qAB,ds,d2],?_,by omega,rfl,V6,hx5,?_⟩
   ·simp[qAA,qAB,ds];cases hy6;rfl
   ·have:=hv5.mono hle6;rw[<-d0]at this;simp only[qAA,qAB,ds];exact this
  simp only[qOy,qG2,Tryz.f90,Option.getD_some]at last;subst hxs;refine qDs C g18 ?_;cases hm:mP k with
  |true =>
   rw[show qBl n mP (f+1) k=(k:Int)::qBl n mP f (k+2) from by simp[qBl,hlt,hm]];refine qAp C ?_;simp only[List.size_toArray,List.length_cons,List.length_nil,Nat.reduceAdd,Nat.zero_add,List.range,List.range.loop];refine qBE C (some 19) (.tmp 2) rfl rfl rfl rfl ?_;refine qBE C (some 20) (.tmp 6) rfl rfl rfl rfl ?_;refine qQ9 rfl rfl rfl (by simp[qAA,qAB,gs,g2]) (by simp[qAA,qAB,gs,g6];rfl) ?_;refine qBG C ?_;exact last _ (by rw[show Oper.dst _=none from rfl,qHT];simp[qAA,qAB,gs]) (by rw[show Oper.dst _=none from rfl,qHT];simp[qAA,qAB,gs,g2]) (by rw[show Oper.dst _=none from rfl,qHT];simp[qAA,qAB,gs,g6]) (by simp[qAB,gs]) (by simp[qAM,gd])
  |false =>
   rw[show qBl n mP (f+1) k=qBl n mP f (k+2) from by simp[qBl,hlt,hm]];exact qKd C (last B rfl g2 g6 gs gd)
 ·simp only[hlt,decide_false,if_false,Bool.false_eq_true];refine qOG C ⟨fs,fd,f2,?_⟩;subst hxs;cases f<;>simp[qBl,hlt]
theorem qUq{a:Act}(hd:a.defers=[]){ops:Array Oper}:QuitsD prog 4 0 (G (frS.at a [.inRegion ops []]) [qR8 prog]):=by
 refine QuitsD.of_quitsIn ?_;refine .inr ⟨rfl,_,fun w=>stepG_region_end,?_⟩;refine .inr ⟨rfl,_,fun w=>stepG_end,?_⟩;refine .inr ⟨rfl,G (qR8 prog) [],fun w=>?_,?_⟩
 ·simp[G,stepG,unwind,doReturn,results,Frame.at,frS,qR8,func90,Tryz.f90,seen,GStep.after,goexitEntry,hd]
 refine .inr ⟨rfl,{ G (qR8 prog) []with status:=.finished },fun w=>?_,rfl⟩;simp[G,stepG,unwind,qR8,goexitEntry,Frame.catches];rfl
theorem qW4(S:Setup prog al gl (fun r=>r<N0))(hF:Finder prog n mP tv Fnd)(hal1:al 73=true)(hal2:al 97=true){k:Nat}(hk:k<2){a:Act}{O:Nat->Prop}{w:World}{x:Value}{π:Ren prog.globals.size}{u:World}
  (hsz:a.tmps.size=22) (hd:a.defers=[]) (h2:a.eval (.tmp 2)=.chan (some c)) (h1:a.eval (.tmp 1)=.int .i64 k) (V:InView prog al gl N0 (fun _=>False) w0 O π u w) (hx:Fnd x u) (hv:VRel (fun f=>al f=true) π x (a.eval (.tmp 0))) :
  WScr prog N0 c (qBl n mP n k) O (G (frS.at a [.code qG2]) [qR8 prog]) w:=by
 have C:=qKe (P:=prog) (N0:=N0) c;have hfin:∀e a' s' O' w',qSB c e a' s' O' w'->AfterK (WScr prog N0 c) frS [.code qTc] [qR8 prog] e a' s' O' w':=by
  intro e a' s' O' w' q;cases e with
  |normal =>
   obtain⟨q1,q2,q3,rfl⟩:=q;show WScr prog N0 c [] O' (G (frS.at a' [.code qTc]) [qR8 prog]) w';simp only[qTc,qG2,Tryz.f90,Option.getD_some];refine C.idle rfl rfl (fun _=>stepG_region) ?_;simp only[List.size_toArray,List.length_cons,List.length_nil,Nat.reduceAdd,Nat.zero_add,List.range,List.range.loop];refine qEe C (by simp[frS]) (some 21) (.tmp 2) rfl (.inl rfl) rfl rfl ?_;refine qPs (by simp[frS]) rfl rfl rfl (by simp[qAA,q1,q3]) (by simp[frS,func90,Tryz.f90]) (by simp[mayWake,G,Frame.at]) 4 ?_;exact qUq (by simp[qAM,q2])
  |_=>exact q.elim
 simp only[qG2,Tryz.f90,Option.getD_some];simp only[qTc,qG2,Tryz.f90,Option.getD_some]at hfin;refine C.idle rfl rfl (fun _=>stepG_seq) ?_;refine(?_:wpK (WScr prog N0 c) 90 _ (qSB c) a (qBl n mP n k) O w) frS _ _ rfl (by simp[frS]) hfin;refine qBn C (qAp C ?_);simp only[List.size_toArray,List.length_cons,List.length_nil,Nat.reduceAdd,Nat.zero_add,List.range,List.range.loop];refine qBE C (some 7) (.tmp 1) rfl rfl rfl rfl ?_;refine qBK C (some 6) (.tmp 7) rfl rfl rfl rfl ?_;refine qBG C ?_;refine qEa C ?_;have hr:=fun f a xs O w h=>qWB (c:=c) (w0:=w0) S hF hal1 hal2 f a xs O w h;simp only[qOy,qG2,Tryz.f90,Option.getD_some]at hr;refine qOH C (qSE al gl N0 n mP Fnd c w0) n ?_ hr;exact⟨k,x,π,u,by omega,by simp[qAB,hsz],by simp[qAM,hd],by simp[qAA,qAB,hsz,h2],by simp[qAA,qAB,hsz,h1],by omega,rfl,V,hx,by simp only[qAA,qAB,hsz];exact hv⟩
end
theorem qWi:(prog.info? 3).map (fun i=>(i.zero,i.size,i.bytes))=some (some (.int .i64 0),1,8):=by kernel_rfl
theorem qSw:∃i,prog.info? 3=some i/\i.zero=some (.int .i64 0)/\i.size=1/\i.bytes=8:=by
 have h:=qWi;cases hi:prog.info? 3 with
 |none=>rw[hi]at h;cases h
 |some i =>
  rw[hi]at h;simp only[Option.map_some,Option.some.injEq,Prod.mk.injEq]at h;exact⟨i,rfl,h.1,h.2.1,h.2.2⟩
theorem qPL(o:Oper)(s:Nat)(hop:o.op=.buildSlice 62 1 #[(0,.tmp s)])(u:World)(n:Int):(execOp (one (.int .i64 n)) o).run prog u=.ok (.value (.slice (some ⟨u.heap.size,0,none⟩) 1 1)) (u.alloc (.cells #[.int .i64 n] 3)):=by
 obtain⟨i,hi,hz,hs,hb⟩:=qSw;have e:=run_buildSlice u 62 3 1 #[(0,.int .i64 n)] #[.int .i64 n] i _ underlying62 hi hz (by rw[hs];decide) (by rw[hs];decide) (by rw[hs];simp[Instr.fill,Value.cells,show Array.range 1=#[0] from rfl]);unfold execOp;rw[hop];simp[one,e]
theorem qMn(o:Oper)(s t:Nat)(hop:o.op=.call { callee:=.builtin .append,args:=#[.tmp s,.tmp t],argTypes:=#[62,62] })(u:World)(base:Nat)(v:Value)(l:List Int)(n:Int)(ad:Addr)(hown:u.ownsRow base 3 1 v l.length (l.map (.int .i64)))(hx:u.cell? ad=some (.int .i64 n))(hl:l.length<1099511627776)(hb:base<=u.heap.size)
  (ρ:Operand->Value) (h1:ρ (.tmp s)=v) (h2:ρ (.tmp t)=.slice (some ad) 1 1):∃v' u',(execOp ρ o).run prog u=.ok (.value v') u'/\u'.ownsRow base 3 1 v' (l.length+1) ((l++[n]).map (.int .i64))/\u.grownBy u' v.ownBlock:=by
 obtain⟨i,hi,hz,hs,hb'⟩:=qSw;obtain⟨v',u',e,h3,h4,-⟩:=run_append_own (P:=prog) u base 62 o.type 3 i _ 1 8 underlying62 hi hz hs hb' rfl (by decide) v l.length (l.map (.int .i64)) hown ad 1 1 [.int .i64 n] rfl (fun j x hj=>by
  cases j with
  |zero=>simp at hj;subst hj;exact hx
  |succ j=>simp at hj) (fun x hx=>by simp at hx;subst hx;rfl) (by simp only[maxLen];omega) (by omega) hb
 refine⟨v',u',?_,by rw[List.map_append];exact h3,h4⟩;unfold execOp;rw[hop];simp only[resolve,invoke,builtin,Sem.run_bind,Sem.run_pure,Result.andThen_ok,List.map_toArray,List.map_cons,List.map_nil,h1,h2,e]
theorem qMo(a b:Option Nat)(u:World):(Op.equal 222 (.chan a) (.chan b)).run prog u=.ok (a==b) u:=by
 unfold Op.equal;rw[show Op.maxDepth=9999+1 from rfl];unfold Op.equalIn;simp only[Sem.run_bind,run_underlying underlying222,Result.andThen_ok];rfl
theorem qNs(o:Oper)(s:Nat)(c:Option Nat)(hop:o.op=.binOp .neq 222 (.tmp s) (.const (.chan none)) 222)(u:World):(execOp (one (.chan c)) o).run prog u=.ok (.value (.bool c.isSome)) u:=by
 unfold execOp;rw[hop];cases c<;>simp[go_sem,one,binOp,qMo]
theorem qNq(o:Oper)(s:Nat)(c k:Int)(hop:o.op=.binOp .eql 3 (.tmp s) (.const (.int .i64 k)) 3)(u:World):(execOp (one (.int .i64 c)) o).run prog u=.ok (.value (.bool (c==k))) u:=by
 unfold execOp;rw[hop];simp[go_sem,one]
theorem qFy(o:Oper)(s i:Nat)(c:Array Value)(v:Value)(hv:c[i]? = some v)(hop:o.op=.extract (.tmp s) i)(u:World):(execOp (one (.tuple c)) o).run prog u=.ok (.value v) u:=by
 unfold execOp;rw[hop];simp[go_sem,one,hv]
section
variable{al:Cfg}{gl:Nat->Bool}{N0:Nat}{σ:Type}{K:σ->(Nat->Prop)->Goroutine->World->Prop}{m:Bool}{fn:FuncId}{Q:Exit->Act->σ->(Nat->Prop)->World->Prop}{a:Act}{s:σ}{O E:Nat->Prop}{w0 w u:World}{π:Ren prog.globals.size}
def two(t:Nat)(x y:Value):Operand->Value
 |.const v=>v
 |.tmp i=>if i=t then y else x
 |_=>x
theorem qNf(C:Clo prog m N0 K)(S:Setup prog al gl (fun r=>r<N0))(V:InView prog al gl N0 E w0 O π u w){ops:Array Oper}{o0 o1 o2 o3 o4:Oper}(t1 t2 t3 t4 src:Nat)(ht:t1≠t2/\t1≠t3/\t2≠t3/\src≠t1/\5≠t1)(hs:5<a.tmps.size/\t1<a.tmps.size/\t2<a.tmps.size/\t3<a.tmps.size/\t4<a.tmps.size)
  (h0:ops[0]? = some o0) (e0:o0.op=.move (.tmp 5)) (d0:o0.dst=some t1) (g0:o0.guard=none)
  (h1:ops[1]? = some o1) (e1:o1.op=.move (.tmp src)) (d1:o1.dst=some t2) (g1:o1.guard=none)
  (h2:ops[2]? = some o2) (e2:o2.op=.buildSlice 62 1 #[(0,.tmp t2)]) (d2:o2.dst=some t3) (g2:o2.guard=none)
  (h3:ops[3]? = some o3) (e3:o3.op=.call { callee:=.builtin .append,args:=#[.tmp t1,.tmp t3],argTypes:=#[62,62] }) (d3:o3.dst=some t4) (g3:o3.guard=none)
  (h4:ops[4]? = some o4) (e4:o4.op=.assign (.tmp t4)) (d4:o4.dst=some 5) (g4:o4.guard=none)
  (ok2:qLY prog al o2.op=true) (ok3:qLY prog al o3.op=true)
  {base:Nat} {x:Value} {l:List Int} {n:Int} (hown:u.ownsRow base 3 1 x l.length (l.map (.int .i64))) (hx:VRel (fun f=>al f=true) π x (a.eval (.tmp 5))) (hn:a.eval (.tmp src)=.int .i64 n) (hb:base<=u.heap.size) (hl:l.length<1099511627776)
  (hnext:∀O' π' u' w' x' D,Ext N0 π π'->InView prog al gl N0 E w0 O' π' u' w'->u'.ownsRow base 3 1 x' (l++[n]).length ((l++[n]).map (.int .i64))->base<=u'.heap.size->VRel (fun f=>al f=true) π' x' (D.eval (.tmp 5))->(∀i,i≠5->i≠t1->i≠t2->i≠t3->i≠t4->D.eval (.tmp i)=a.eval (.tmp i))->D.tmps.size=a.tmps.size->D.defers=a.defers->Q .normal D s O' w') :
  qEG K fn ops [0,1,2,3,4] Q a s O w:=by
 obtain⟨n12,n13,n23,ns1,n51⟩:=ht;obtain⟨s5,s1,s2,s3,s4⟩:=hs;refine qBE C (some t1) (.tmp 5) h0 e0 g0 d0 ?_;refine qBE C (some t2) (.tmp src) h1 e1 g1 d1 ?_;refine qFo C S V (ρ:=one (.int .i64 n)) (Post:=fun y u1=>y=.slice (some ⟨u.heap.size,0,none⟩) 1 1/\∃T d,u1=(u.re T d).alloc (.cells #[.int .i64 n] 3)) h2 (by simp[Region.wanted,g2]) ok2 (fun _=>rfl) (fun z hz=>?_) (fun T d=>⟨_,_,qPL o2 t2 e2 _ n,rfl,T,d,rfl⟩) ?_
 ·rw[e2]at hz;have hz:z∈(#[Operand.tmp t2]:Array Operand):=by simpa [Op.operands]using hz
  simp only[List.mem_toArray,List.mem_singleton]at hz;subst hz;simp[qAA,qAB,s2,ns1,hn];exact .int _ _
 rintro O1 π1 y y1 u1 w1 ext1⟨rfl,T1,d1',rfl⟩hy1 V1;have hle1:=ext1.le;rw[d2];have hown1:∀T d,World.ownsRow (((u.re T1 d1').alloc (.cells #[.int .i64 n] 3)).re T d) base 3 1 x l.length (l.map (.int .i64)):=fun T d=>by
  have hown':(u.re T1 d1').ownsRow base 3 1 x l.length (l.map (.int .i64)):=hown;exact hown'.alloc _
 have hcell1:∀T d,World.cell? (((u.re T1 d1').alloc (.cells #[.int .i64 n] 3)).re T d) ⟨u.heap.size,0,none⟩=some (.int .i64 n):=fun T d=>by
  have e:(((u.re T1 d1').alloc (.cells #[.int .i64 n] 3)).re T d).heap[u.heap.size]? = some (.cells #[.int .i64 n] 3):=by
   show(u.heap.push _)[u.heap.size]? = _;simp
  simp[World.cell?,e]
 have vx:VRel (fun f=>al f=true) π1 x (Act.eval (Act.put (Act.put (Act.put a (some t1) (a.eval (.tmp 5))) (some t2) (Act.eval (Act.put a (some t1) (a.eval (.tmp 5))) (.tmp src))) (some t3) y1) (.tmp t1)):=by
  simp only[qAA,qAB,n12,n13,s1,false_and,if_false,and_self,if_true];exact hx.mono hle1
 refine qFo C S V1 (ρ:=two t3 x (.slice (some ⟨u.heap.size,0,none⟩) 1 1)) (Post:=fun y u2=>u2.ownsRow base 3 1 y (l.length+1) ((l++[n]).map (.int .i64))/\base<=u2.heap.size) h3 (by simp[Region.wanted,g3]) ok3 (fun _=>rfl) (fun z hz=>?_) (fun T d=>?_) ?_
 ·rw[e3]at hz;have hz:z∈(#[Operand.tmp t1,.tmp t3]:Array Operand):=by simpa [Op.operands,Call.operands]using hz
  simp only[List.mem_toArray,List.mem_cons,List.not_mem_nil,or_false]at hz;rcases hz with rfl|rfl
  ·simp only[two,n13,if_false];exact vx
  ·simp only[two,if_true,qAA,qAB,s3,and_self];exact hy1
 ·obtain⟨v',u',q1,q2,q3⟩:=qMn o3 t1 t3 e3 _ base x l n ⟨u.heap.size,0,none⟩ (hown1 T d) (hcell1 T d) hl (by
   show base<=(u.heap.push _).size;simp;omega) (two t3 x (.slice (some ⟨u.heap.size,0,none⟩) 1 1)) (by simp[two,n13]) (by simp[two])
  refine⟨v',u',q1,q2,Nat.le_trans ?_ q3.size⟩;show base<=(u.heap.push _).size;simp;omega
 rintro O2 π2 x' y2 u2 w2 ext2⟨q1,q2⟩hy2 V2;rw[d3];refine qBK C (some 5) (.tmp t4) h4 e4 g4 d4 ?_;refine qBG C ?_;refine hnext O2 π2 u2 w2 x' _ (ext1.trans ext2) V2 (by simpa using q1) q2 ?_ (fun i i5 i1 i2 i3 i4=>?_) (by simp[qAB]) (by simp[qAM])
 ·simp only[qAA,qAB,s5,s4,and_self,if_true];exact hy2
 ·simp[qAA,i5,i1,i2,i3,i4]
end
def chB(c:Bool->Nat)(rem:Bool->Option (List Int))(b:Bool):Value:=.chan ((rem b).map fun _=>c b)
def qCq(rem:Bool->Option (List Int))(b:Bool):List Int:=(rem b).getD []
def qFi(rem:Bool->Option (List Int))(b:Bool):Nat:=match rem b with|some l=>l.length+1|none=>0
theorem qLb{P:Program}{m:Bool}{N0:Nat}{σ:Type}{K:σ->(Nat->Prop)->Goroutine->World->Prop}{fn:FuncId}{Q:Exit->Act->σ->(Nat->Prop)->World->Prop}{a:Act}{s:σ}{O:Nat->Prop}{w:World}{ops:Array Oper}{i:Nat}{rest:List Nat}{o:Oper}(C:Clo P m N0 K)(d:Option Nat)(q x y:Operand)(t:Bool)(ho:ops[i]? = some o)(hop:o.op=.pick q x y)(hg:o.guard=none)(hd:o.dst=d)(hq:a.eval q=.bool t)
  (h:qEG K fn ops rest Q (a.put d (if t then a.eval x else a.eval y)) s O w):qEG K fn ops (i::rest) Q a s O w:=by
 subst hd;refine qEj C ho (by simp[Region.wanted,hg]) (fun w1=>?_) (fun w1=>?_) h
 ·unfold execOp;rw[hop];simp[hq,asBool]
 ·unfold listed;rw[show(execOp a.eval o).events P w1 #[]=#[] from by unfold execOp;rw[hop];simp only[asBool,hq];simp,seen_none]
theorem qGI(c:Bool->Nat)(z:Value)(rem:Bool->Option (List Int))(b:Bool)(v:Value)(ok:Bool) :
  commResult (qA5 c z rem) .select (qDz b:Nat) v ok=.tuple #[.int .i64 (qDz b:Nat),.bool ok,if b then z else v,if b then v else z]:=by
 have h:∀b,(qCJ c z rem b).send=none/\(qCJ c z rem b).zero=z:=fun b=>by
  unfold qCJ;cases rem b<;>exact⟨rfl,rfl⟩
 unfold commResult qA5;cases b<;>simp[h,qDz,goInt,Array.zipIdx]
theorem qRO(o:Oper)(c:Bool->Nat)(rem:Bool->Option (List Int))(a:Act)(hop:o.op=.select #[{ chan:=.tmp 16,send:=none,elem:=3 },{ chan:=.tmp 17,send:=none,elem:=3 }] true)(h1:a.eval (.tmp 16)=chB c rem false)(h2:a.eval (.tmp 17)=chB c rem true)(w:World) :
  (execOp a.eval o).run prog w=.ok (.comm (qA5 c (.int .i64 0) rem) true .select) w/\(execOp a.eval o).events prog w #[]=#[]:=by
 obtain⟨i,hi,hz,hs,hb⟩:=qSw;have key:∀b,qCJ c (.int .i64 0) rem b={ chan:=chB c rem b,send:=none,zero:=.int .i64 0 }:=fun b=>by
  unfold qCJ chB;cases rem b<;>rfl
 unfold qA5;rw[key,key];unfold execOp;rw[hop];simp[h1,h2,zeroValue,typeInfo,hi,hz]
noncomputable def qFX:Code:=Tryz.f91.body.getD .skip
noncomputable def qFh:Code:=match qFX with|.seq _ (.seq _ (.seq (.block _ (.loop c)) _))=>c|_=>.skip
section
variable{al:Cfg}{gl:Nat->Bool}{N0:Nat}{E:Nat->Prop}{w0:World}{c:Bool->Nat}{Fin:qG1}{base:Nat}{tot:List Int}
def HeldT(al:Cfg)(gl:Nat->Bool)(N0:Nat)(E:Nat->Prop)(w0:World)(base:Nat)(tot:List Int)(a:Act)(rem:Bool->Option (List Int))(O:Nat->Prop)(w:World):Prop :=
 a.tmps.size=37/\a.defers=[]/\∃(π:Ren prog.globals.size)(u:World)(x:Value)(l:List Int),InView prog al gl N0 E w0 O π u w/\u.ownsRow base 3 1 x l.length (l.map (.int .i64))/\VRel (fun f=>al f=true) π x (a.eval (.tmp 5))/\base<=u.heap.size/\(l++(qCq rem false++qCq rem true)).Perm tot/\∀r r',π r r'->r<base\/N0<=r'
def qF9(al:Cfg)(gl:Nat->Bool)(N0:Nat)(E:Nat->Prop)(w0:World)(c:Bool->Nat)(base:Nat)(tot:List Int)(f:Nat)(a:Act)(rem:Bool->Option (List Int))(O:Nat->Prop)(w:World):Prop :=
 HeldT al gl N0 E w0 base tot a rem O w/\a.eval (.tmp 0)=chB c rem false/\a.eval (.tmp 1)=chB c rem true/\f=qFi rem false+qFi rem true
def qSC(al:Cfg)(gl:Nat->Bool)(N0:Nat)(E:Nat->Prop)(w0:World)(base:Nat)(tot:List Int):Exit->Act->(Bool->Option (List Int))->(Nat->Prop)->World->Prop
 |.normal,a,rem,O,w=>HeldT al gl N0 E w0 base tot a rem O w/\∀b,rem b=none
 |_,_,_,_,_=>False
theorem HeldT.same{a a':Act}{rem:Bool->Option (List Int)}{O:Nat->Prop}{w:World}(h:HeldT al gl N0 E w0 base tot a rem O w)(h1:a'.tmps.size=a.tmps.size)(h2:a'.defers=a.defers)(h3:a'.eval (.tmp 5)=a.eval (.tmp 5)):HeldT al gl N0 E w0 base tot a' rem O w:=by
 obtain⟨i1,i2,π,u,x,l,i3,i4,i5,i6⟩:=h;exact⟨h1.trans i1,h2.trans i2,π,u,x,l,i3,i4,by rw[h3];exact i5,i6⟩
noncomputable def qFL:Code:=match qFh with|.seq _ r=>r|_=>.skip
noncomputable def qVZ(b:Bool):Code:=match qFL with|.block _ (.seq _ (.seq _ (.block _ (.cond _ x (.cond _ y _)))))=>if b then y else x|_=>.skip
def qW8(al:Cfg)(gl:Nat->Bool)(N0:Nat)(E:Nat->Prop)(w0:World)(c:Bool->Nat)(base:Nat)(tot:List Int)(f:Nat)(b ok:Bool)(v:Int)(a:Act)(rem:Bool->Option (List Int))(O:Nat->Prop)(w:World):Prop :=
 ∃rem0,HeldT al gl N0 E w0 base tot a rem0 O w/\a.eval (.tmp 0)=chB c rem0 false/\a.eval (.tmp 1)=chB c rem0 true/\f=qFi rem0 false+qFi rem0 true/\a.eval (.tmp 18)=.tuple #[.int .i64 (qDz b:Nat),.bool ok,.int .i64 (if b then 0 else v),.int .i64 (if b then v else 0)] /\
  ((ok=true/\∃xs,rem0 b=some (v::xs)/\rem=upB rem0 b (some xs))\/(ok=false/\v=0/\rem0 b=some []/\rem=upB rem0 b none))
theorem qNn{rem0:Bool->Option (List Int)}{b:Bool}{v:Int}{xs l:List Int}(h:rem0 b=some (v::xs))(hp:(l++(qCq rem0 false++qCq rem0 true)).Perm tot):((l++[v])++(qCq (upB rem0 b (some xs)) false++qCq (upB rem0 b (some xs)) true)).Perm tot:=by
 refine List.Perm.trans ?_ hp;cases b with
 |false =>
  simp only[qCq,upB,h,if_true,Option.getD_some,List.append_assoc,List.cons_append,List.nil_append,Bool.true_eq_false,if_false];exact .refl _
 |true =>
  simp only[qCq,upB,h,if_true,Option.getD_some,List.append_assoc,List.cons_append,List.nil_append,if_false,Bool.false_eq_true];exact(List.perm_append_left_iff l).2 List.perm_middle.symm
theorem qLk{rem0:Bool->Option (List Int)}{b:Bool}{l:List Int}(h:rem0 b=some [])(hp:(l++(qCq rem0 false++qCq rem0 true)).Perm tot):(l++(qCq (upB rem0 b none) false++qCq (upB rem0 b none) true)).Perm tot:=by
 cases b<;>simpa [qCq,upB,h]using hp
theorem qNZ{rem0:Bool->Option (List Int)}{b:Bool}{v:Int}{xs:List Int}(h:rem0 b=some (v::xs)):qFi (upB rem0 b (some xs)) false+qFi (upB rem0 b (some xs)) true<qFi rem0 false+qFi rem0 true:=by
 cases b<;>simp[qFi,upB,h]
theorem qLT{rem0:Bool->Option (List Int)}{b:Bool}(h:rem0 b=some []):qFi (upB rem0 b none) false+qFi (upB rem0 b none) true<qFi rem0 false+qFi rem0 true:=by
 cases b<;>simp[qFi,upB,h]
theorem qJl{rem0:Bool->Option (List Int)}{b:Bool}{v:Int}{xs:List Int}(h:rem0 b=some (v::xs))(b':Bool):chB c (upB rem0 b (some xs)) b'=chB c rem0 b':=by
 unfold chB upB;by_cases e:b'=b
 ·subst e;simp[h]
 ·simp[e]
theorem qPn(S:Setup prog al gl (fun r=>r<N0))(htot:tot.length<1099511627776)(f:Nat)(ok:Bool)(v:Int)(a:Act)(rem:Bool->Option (List Int))(O:Nat->Prop)(w:World)(h:qW8 al gl N0 E w0 c base tot f false ok v a rem O w) :
  wpK (MScr prog N0 c Fin) 91 (qVZ false) (fun e a' s' O' w'=>e=.normal/\∃f',f'<f/\qF9 al gl N0 E w0 c base tot f' a' s' O' w') a rem O w:=by
 have C:=qDH (P:=prog) (N0:=N0) c Fin;obtain⟨rem0,⟨hsz,hdf,π,u,x,l,V,hown,hx,hb,hperm,hlow⟩,h0,h1,hf,h18,hcase⟩:=h;simp only[qVZ,qFL,qFh,qFX,Tryz.f91,Option.getD_some,if_false,Bool.false_eq_true];have htup:VRel (fun f=>al f=true) π (.tuple #[.int .i64 (qDz false:Nat),.bool ok,.int .i64 (if false then 0 else v),.int .i64 (if false then v else 0)]) (.tuple #[.int .i64 (qDz false:Nat),.bool ok,.int .i64 (if false then 0 else v),.int .i64 (if false then v else 0)]):=by
  refine .tuple rfl fun i hi hi'=>?_;have hi:i<4:=hi;rcases (by omega:i=0\/i=1\/i=2\/i=3)with rfl|rfl|rfl|rfl
  ·exact .int _ _
  ·exact .bool _
  ·exact .int _ _
  ·exact .int _ _
 refine qBn C (qAp C ?_);simp only[List.size_toArray,List.length_cons,List.length_nil,Nat.reduceAdd,Nat.zero_add,List.range,List.range.loop];refine qCG C S V rfl rfl rfl (some 22) rfl 18 rfl _ (by rw[h18];exact htup) (.int .i64 v) (fun T d=>by rw[qFy _ 18 2 _ (.int .i64 v) (by simp) rfl]) ?_;rintro O1 π1 y1 w1⟨hle1,hnw1⟩hy1 V1;obtain rfl:y1=.int .i64 v:=by cases hy1;rfl
 refine qCG C S V1 rfl rfl rfl (some 23) rfl 18 rfl _ (by simp only[qAA];simp only[show(18=22)=False by simp,false_and,if_false,h18];exact htup.mono hle1) (.bool ok) (fun T d=>by rw[qFy _ 18 1 _ (.bool ok) (by simp) rfl]) ?_;rintro O2 π2 y2 w2⟨hle2,hnw2⟩hy2 V2;obtain rfl:y2=.bool ok:=by cases hy2;rfl
 refine qBK C (some 6) (.tmp 22) rfl rfl rfl rfl ?_;refine qBK C (some 7) (.tmp 23) rfl rfl rfl rfl ?_;refine qBG C ?_;refine qBn C (qAp C ?_);simp only[List.size_toArray,List.length_cons,List.length_nil,Nat.zero_add,List.range,List.range.loop];refine qBE C (some 24) (.tmp 7) rfl rfl rfl rfl ?_;refine qBG C ?_;generalize hA:Act.put _ _ _=A;have f0:A.eval (.tmp 0)=chB c rem0 false:=by rw[<-hA];simp[qAA,qAB,hsz,h0]
 have f1:A.eval (.tmp 1)=chB c rem0 true:=by rw[<-hA];simp[qAA,qAB,hsz,h1]
 have f5:A.eval (.tmp 5)=a.eval (.tmp 5):=by rw[<-hA];simp[qAA,qAB,hsz]
 have fv:A.eval (.tmp 6)=.int .i64 v:=by rw[<-hA];simp[qAA,qAB,hsz]
 have fk:A.eval (.tmp 24)=.bool ok:=by rw[<-hA];simp[qAA,qAB,hsz]
 have fs:A.tmps.size=37:=by rw[<-hA];simp[qAB,hsz]
 have fd:A.defers=[]:=by rw[<-hA];simp[qAM,hdf]
 clear hA;refine qDs C fk ?_;rcases hcase with⟨rfl,xs,hr,rfl⟩|⟨rfl,rfl,hr,rfl⟩
 ·simp only[if_true];refine qAp C ?_;simp only[List.size_toArray,List.length_cons,List.length_nil,Nat.reduceAdd,Nat.zero_add,List.range,List.range.loop];have hlen:l.length<1099511627776:=by
   have:=hperm.length_eq;simp only[List.length_append]at this;omega
  refine qNf C S V2 25 26 27 28 6 (by decide) (by simp[fs]) rfl rfl rfl rfl rfl rfl rfl rfl rfl rfl rfl rfl rfl rfl rfl rfl rfl rfl rfl rfl rfl rfl hown (by rw[f5];exact(hx.mono hle1).mono hle2) fv hb hlen ?_;intro O' π' u' w' x' D' ext' V' hown' hb' hx' hD hDs hDd;refine⟨rfl,_,?_,⟨hDs.trans fs,hDd.trans fd,π',u',x',l++[v],V',hown',hx',hb',qNn hr hperm,fun r r' p=>(ext'.new r r' p).elim (fun p=>(hnw2 r r' p).elim (fun p=>(hnw1 r r' p).elim (hlow r r') .inr) .inr) .inr⟩,?_,?_,rfl⟩
  ·rw[hf];exact qNZ hr
  ·rw[qJl hr,hD 0 (by decide) (by decide) (by decide) (by decide) (by decide)];exact f0
  ·rw[qJl hr,hD 1 (by decide) (by decide) (by decide) (by decide) (by decide)];exact f1
 ·simp only[if_false,Bool.false_eq_true];refine qAp C ?_;simp only[List.size_toArray,List.length_cons,List.length_nil,Nat.zero_add,List.range,List.range.loop];refine qBK C (some 0) (.const (.chan none)) rfl rfl rfl rfl ?_;refine qBG C ?_;refine⟨rfl,_,?_,⟨by simp[qAB,fs],by simp[qAM,fd],π2,u,x,l,V2,hown,?_,hb,qLk hr hperm,fun r r' p=>(hnw2 r r' p).elim (fun p=>(hnw1 r r' p).elim (hlow r r') .inr) .inr⟩,?_,?_,rfl⟩
  ·rw[hf];exact qLT hr
  ·simp only[qAA];simp only[show(5=0)=False by simp,false_and,if_false,f5];exact(hx.mono hle1).mono hle2
  ·simp[qAA,fs,chB,upB,qCT]
  ·simp[qAA,fs,f1,chB,upB,qCT]
theorem qSM(S:Setup prog al gl (fun r=>r<N0))(htot:tot.length<1099511627776)(f:Nat)(ok:Bool)(v:Int)(a:Act)(rem:Bool->Option (List Int))(O:Nat->Prop)(w:World)(h:qW8 al gl N0 E w0 c base tot f true ok v a rem O w) :
  wpK (MScr prog N0 c Fin) 91 (qVZ true) (fun e a' s' O' w'=>e=.normal/\∃f',f'<f/\qF9 al gl N0 E w0 c base tot f' a' s' O' w') a rem O w:=by
 have C:=qDH (P:=prog) (N0:=N0) c Fin;obtain⟨rem0,⟨hsz,hdf,π,u,x,l,V,hown,hx,hb,hperm,hlow⟩,h0,h1,hf,h18,hcase⟩:=h;simp only[qVZ,qFL,qFh,qFX,Tryz.f91,Option.getD_some,if_true];have htup:VRel (fun f=>al f=true) π (.tuple #[.int .i64 (qDz true:Nat),.bool ok,.int .i64 (if true then 0 else v),.int .i64 (if true then v else 0)]) (.tuple #[.int .i64 (qDz true:Nat),.bool ok,.int .i64 (if true then 0 else v),.int .i64 (if true then v else 0)]):=by
  refine .tuple rfl fun i hi hi'=>?_;have hi:i<4:=hi;rcases (by omega:i=0\/i=1\/i=2\/i=3)with rfl|rfl|rfl|rfl
  ·exact .int _ _
  ·exact .bool _
  ·exact .int _ _
  ·exact .int _ _
 refine qBn C (qAp C ?_);simp only[List.size_toArray,List.length_cons,List.length_nil,Nat.reduceAdd,Nat.zero_add,List.range,List.range.loop];refine qCG C S V rfl rfl rfl (some 29) rfl 18 rfl _ (by rw[h18];exact htup) (.int .i64 v) (fun T d=>by rw[qFy _ 18 3 _ (.int .i64 v) (by simp) rfl]) ?_;rintro O1 π1 y1 w1⟨hle1,hnw1⟩hy1 V1;obtain rfl:y1=.int .i64 v:=by cases hy1;rfl
 refine qCG C S V1 rfl rfl rfl (some 30) rfl 18 rfl _ (by simp only[qAA];simp only[show(18=29)=False by simp,false_and,if_false,h18];exact htup.mono hle1) (.bool ok) (fun T d=>by rw[qFy _ 18 1 _ (.bool ok) (by simp) rfl]) ?_;rintro O2 π2 y2 w2⟨hle2,hnw2⟩hy2 V2;obtain rfl:y2=.bool ok:=by cases hy2;rfl
 refine qBK C (some 8) (.tmp 29) rfl rfl rfl rfl ?_;refine qBK C (some 9) (.tmp 30) rfl rfl rfl rfl ?_;refine qBG C ?_;refine qBn C (qAp C ?_);simp only[List.size_toArray,List.length_cons,List.length_nil,Nat.zero_add,List.range,List.range.loop];refine qBE C (some 31) (.tmp 9) rfl rfl rfl rfl ?_;refine qBG C ?_;generalize hA:Act.put _ _ _=A;have f0:A.eval (.tmp 0)=chB c rem0 false:=by rw[<-hA];simp[qAA,qAB,hsz,h0]
 have f1:A.eval (.tmp 1)=chB c rem0 true:=by rw[<-hA];simp[qAA,qAB,hsz,h1]
 have f5:A.eval (.tmp 5)=a.eval (.tmp 5):=by rw[<-hA];simp[qAA,qAB,hsz]
 have fv:A.eval (.tmp 8)=.int .i64 v:=by rw[<-hA];simp[qAA,qAB,hsz]
 have fk:A.eval (.tmp 31)=.bool ok:=by rw[<-hA];simp[qAA,qAB,hsz]
 have fs:A.tmps.size=37:=by rw[<-hA];simp[qAB,hsz]
 have fd:A.defers=[]:=by rw[<-hA];simp[qAM,hdf]
 clear hA;refine qDs C fk ?_;rcases hcase with⟨rfl,xs,hr,rfl⟩|⟨rfl,rfl,hr,rfl⟩
 ·simp only[if_true];refine qAp C ?_;simp only[List.size_toArray,List.length_cons,List.length_nil,Nat.reduceAdd,Nat.zero_add,List.range,List.range.loop];have hlen:l.length<1099511627776:=by
   have:=hperm.length_eq;simp only[List.length_append]at this;omega
  refine qNf C S V2 32 33 34 35 8 (by decide) (by simp[fs]) rfl rfl rfl rfl rfl rfl rfl rfl rfl rfl rfl rfl rfl rfl rfl rfl rfl rfl rfl rfl rfl rfl hown (by rw[f5];exact(hx.mono hle1).mono hle2) fv hb hlen ?_;intro O' π' u' w' x' D' ext' V' hown' hb' hx' hD hDs hDd;refine⟨rfl,_,?_,⟨hDs.trans fs,hDd.trans fd,π',u',x',l++[v],V',hown',hx',hb',qNn hr hperm,fun r r' p=>(ext'.new r r' p).elim (fun p=>(hnw2 r r' p).elim (fun p=>(hnw1 r r' p).elim (hlow r r') .inr) .inr) .inr⟩,?_,?_,rfl⟩
  ·rw[hf];exact qNZ hr
  ·rw[qJl hr,hD 0 (by decide) (by decide) (by decide) (by decide) (by decide)];exact f0
  ·rw[qJl hr,hD 1 (by decide) (by decide) (by decide) (by decide) (by decide)];exact f1
 ·simp only[if_false,Bool.false_eq_true];refine qAp C ?_;simp only[List.size_toArray,List.length_cons,List.length_nil,Nat.zero_add,List.range,List.range.loop];refine qBK C (some 1) (.const (.chan none)) rfl rfl rfl rfl ?_;refine qBG C ?_;refine⟨rfl,_,?_,⟨by simp[qAB,fs],by simp[qAM,fd],π2,u,x,l,V2,hown,?_,hb,qLk hr hperm,fun r r' p=>(hnw2 r r' p).elim (fun p=>(hnw1 r r' p).elim (hlow r r') .inr) .inr⟩,?_,?_,rfl⟩
  ·rw[hf];exact qLT hr
  ·simp only[qAA];simp only[show(5=1)=False by simp,false_and,if_false,f5];exact(hx.mono hle1).mono hle2
  ·simp[qAA,fs,f0,chB,upB,qCT]
  ·simp[qAA,fs,chB,upB,qCT]
theorem qVO(S:Setup prog al gl (fun r=>r<N0))(htot:tot.length<1099511627776)(f:Nat)(a:Act)(rem:Bool->Option (List Int))(O:Nat->Prop)(w:World)(h:qF9 al gl N0 E w0 c base tot f a rem O w)(hopen:∃b,rem b≠none) :
  wpK (MScr prog N0 c Fin) 91 qFL (fun e a' s' O' w'=>e=.normal/\∃f',f'<f/\qF9 al gl N0 E w0 c base tot f' a' s' O' w') a rem O w:=by
 have C:=qDH (P:=prog) (N0:=N0) c Fin;have arm0:=qPn (al:=al) (gl:=gl) (E:=E) (w0:=w0) (c:=c) (Fin:=Fin) (base:=base) S htot f;have arm1:=qSM (al:=al) (gl:=gl) (E:=E) (w0:=w0) (c:=c) (Fin:=Fin) (base:=base) S htot f;obtain⟨hH,h0,h1,hf⟩:=h;have hsz:=hH.1;have hdf:=hH.2.1;simp only[qVZ,qFL,qFh,qFX,Tryz.f91,Option.getD_some,if_false,if_true,Bool.false_eq_true]at arm0 arm1 ⊢;refine qEa C (qBn C (qBn C (qAp C ?_)));simp only[List.size_toArray,List.length_cons,List.length_nil,Nat.zero_add,List.range,List.range.loop];refine qBE C (some 16) (.tmp 0) rfl rfl rfl rfl ?_;refine qBG C ?_;refine qAp C ?_;simp only[List.size_toArray,List.length_cons,List.length_nil,Nat.zero_add,List.range,List.range.loop];refine qBE C (some 17) (.tmp 1) rfl rfl rfl rfl ?_;refine qBG C ?_;refine qBn C (qAp C ?_);simp only[List.size_toArray,List.length_cons,List.length_nil,Nat.reduceAdd,Nat.zero_add,List.range,List.range.loop];generalize hA:Act.put _ _ _=A;have e16:A.eval (.tmp 16)=chB c rem false:=by rw[<-hA];simp[qAA,qAB,hsz,h0]
 have e17:A.eval (.tmp 17)=chB c rem true:=by rw[<-hA];simp[qAA,qAB,hsz,h1]
 have f0:A.eval (.tmp 0)=chB c rem false:=by rw[<-hA];simp[qAA,h0]
 have f1:A.eval (.tmp 1)=chB c rem true:=by rw[<-hA];simp[qAA,h1]
 have hHA:HeldT al gl N0 E w0 base tot A rem O w:=hH.same (by rw[<-hA];simp[qAB]) (by rw[<-hA];simp[qAM]) (by rw[<-hA];simp[qAA]);clear hA;have fs:=hHA.1;have behind:∀(b ok:Bool)(v:Int)(rem':Bool->Option (List Int)),((ok=true/\∃xs,rem b=some (v::xs)/\rem'=upB rem b (some xs))\/(ok=false/\v=0/\rem b=some []/\rem'=upB rem b none))->∀(B:Act)(O':Nat->Prop)(w':World),HeldT al gl N0 E w0 base tot B rem O' w'->B.eval (.tmp 0)=chB c rem false->B.eval (.tmp 1)=chB c rem true ->
   B.eval (.tmp 18)=.tuple #[.int .i64 (qDz b:Nat),.bool ok,.int .i64 (if b then 0 else v),.int .i64 (if b then v else 0)]->B.eval (.tmp 20)=.bool !b->B.eval (.tmp 21)=.bool b ->
   wpK (MScr prog N0 c Fin) 91 (match qFL with|.block _ (.seq _ (.seq _ q))=>q|_=>.skip) (fun e a' s' O' w'=>e=.normal/\∃f',f'<f/\qF9 al gl N0 E w0 c base tot f' a' s' O' w') B rem' O' w':=by
  intro b ok v rem' hc B O' w' hB b0 b1 b18 b20 b21;simp only[qFL,qFh,qFX,Tryz.f91,Option.getD_some];refine qEa C (qHV (Q:=fun e a' s' O' w'=>e=.normal/\∃f',f'<f/\qF9 al gl N0 E w0 c base tot f' a' s' O' w') ?_ (by rintro e a' s' O' w' ⟨rfl,q⟩;exact⟨rfl,q⟩));refine qDs C b20 ?_;cases b with
  |false=>exact arm0 ok v B rem' O' w' ⟨rem,hB,b0,b1,hf,b18,hc⟩
  |true =>
   refine qDs C b21 ?_;exact arm1 ok v B rem' O' w' ⟨rem,hB,b0,b1,hf,b18,hc⟩
 simp only[qFL,qFh,qFX,Tryz.f91,Option.getD_some]at behind;obtain⟨-,fd,π,u,x,l,V,hown,hx,hb,hperm,hlow⟩:=hHA;have three:∀(b ok:Bool)(v:Int)(rem':Bool->Option (List Int)),((ok=true/\∃xs,rem b=some (v::xs)/\rem'=upB rem b (some xs))\/(ok=false/\v=0/\rem b=some []/\rem'=upB rem b none)) ->
   qEG (MScr prog N0 c Fin) 91 (match qFL with|.block _ (.seq _ (.seq (.region _ ops _) _))=>ops|_=>#[]) [1,2,3] (qKW (fun a' s' O' w'=>wpK (MScr prog N0 c Fin) 91 (match qFL with|.block _ (.seq _ (.seq _ q))=>q|_=>.skip) (qEw 1 fun e a' s' O' w'=>e=.normal/\∃f',f'<f/\qF9 al gl N0 E w0 c base tot f' a' s' O' w') a' s' O' w') (qEw 1 fun e a' s' O' w'=>e=.normal/\∃f',f'<f/\qF9 al gl N0 E w0 c base tot f' a' s' O' w'))
    (A.put (some 18) (.tuple #[.int .i64 (qDz b:Nat),.bool ok,.int .i64 (if b then 0 else v),.int .i64 (if b then v else 0)])) rem' O w:=by
  intro b ok v rem' hc;simp only[qFL,qFh,qFX,Tryz.f91,Option.getD_some];have htup:VRel (fun f=>al f=true) π (.tuple #[.int .i64 (qDz b:Nat),.bool ok,.int .i64 (if b then 0 else v),.int .i64 (if b then v else 0)]) (.tuple #[.int .i64 (qDz b:Nat),.bool ok,.int .i64 (if b then 0 else v),.int .i64 (if b then v else 0)]):=by
   refine .tuple rfl fun i hi hi'=>?_;have hi:i<4:=hi;rcases (by omega:i=0\/i=1\/i=2\/i=3)with rfl|rfl|rfl|rfl
   ·exact .int _ _
   ·exact .bool _
   ·exact .int _ _
   ·exact .int _ _
  refine qCG C S V rfl rfl rfl (some 19) rfl 18 rfl _ (by simp only[qAA,fs];exact htup) (.int .i64 (qDz b:Nat)) (fun T d=>by rw[qFy _ 18 0 _ (.int .i64 (qDz b:Nat)) (by simp) rfl]) ?_;rintro O1 π1 y1 w1⟨hle1,hnw1⟩hy1 V1;obtain rfl:y1=.int .i64 (qDz b:Nat):=by cases hy1;rfl
  refine qDj C S V1 rfl rfl rfl (some 20) rfl 19 (.int .i64 0) rfl (.int _ _) (.int .i64 (qDz b:Nat)) (by simp only[qAA,qAB,fs];exact .int _ _) (.bool !b) (fun T d=>by rw[qNq _ 19 _ _ rfl];cases b<;>rfl) ?_;rintro O2 π2 y2 w2⟨hle2,hnw2⟩hy2 V2;obtain rfl:y2=.bool !b:=by cases hy2;rfl
  refine qDj C S V2 rfl rfl rfl (some 21) rfl 19 (.int .i64 1) rfl (.int _ _) (.int .i64 (qDz b:Nat)) (by simp[qAA,qAB,fs];exact .int _ _) (.bool b) (fun T d=>by rw[qNq _ 19 _ _ rfl];cases b<;>rfl) ?_;rintro O3 π3 y3 w3⟨hle3,hnw3⟩hy3 V3;obtain rfl:y3=.bool b:=by cases hy3;rfl
  refine qBG C ?_;refine qHV (behind b ok v rem' hc _ O3 w3 ⟨by simp[qAB,fs],by simp[qAM,fd],π3,u,x,l,V3,hown,?_,hb,hperm,fun r r' p=>(hnw3 r r' p).elim (fun p=>(hnw2 r r' p).elim (fun p=>(hnw1 r r' p).elim (hlow r r') .inr) .inr) .inr⟩ (by simp[qAA,f0]) (by simp[qAA,f1]) (by simp[qAA,qAB,fs]) (by simp[qAA,qAB,fs]) (by simp[qAA,qAB,fs])) (by rintro e a' s' O' w' ⟨rfl,q⟩;exact⟨rfl,q⟩);simp only[qAA,qAB];exact((hx.mono hle1).mono hle2).mono hle3
 simp only[qFL,qFh,qFX,Tryz.f91,Option.getD_some]at three;refine qS9 (z:=.int .i64 0) rfl rfl (fun w=>(qRO _ c rem A rfl e16 e17 w).1) (fun w=>(qRO _ c rem A rfl e16 e17 w).2) hopen (fun b x xs e=>?_) fun b e=>?_
 all_goals rw[qGI]
 ·have hc:(true=true/\∃xs',rem b=some (x::xs')/\upB rem b (some xs)=upB rem b (some xs'))\/(true=false/\x=0/\rem b=some []/\upB rem b (some xs)=upB rem b none):=.inl ⟨rfl,xs,e,rfl⟩;have ht:(Value.tuple #[.int .i64 (qDz b:Nat),.bool true,if b then .int .i64 0 else goInt x,if b then goInt x else .int .i64 0])=.tuple #[.int .i64 (qDz b:Nat),.bool true,.int .i64 (if b then 0 else x),.int .i64 (if b then x else 0)]:=by
   cases b<;>rfl
  rw[ht];exact three b true x _ hc
 ·have hc:(false=true/\∃xs',rem b=some (0::xs')/\upB rem b none=upB rem b (some xs'))\/(false=false/\(0:Int)=0/\rem b=some []/\upB rem b none=upB rem b none):=.inr ⟨rfl,rfl,e,rfl⟩;have ht:(Value.tuple #[.int .i64 (qDz b:Nat),.bool false,if b then .int .i64 0 else .int .i64 0,if b then .int .i64 0 else .int .i64 0])=.tuple #[.int .i64 (qDz b:Nat),.bool false,.int .i64 (if b then 0 else 0),.int .i64 (if b then 0 else 0)]:=by
   cases b<;>rfl
  rw[ht];exact three b false 0 _ hc
theorem qWC(S:Setup prog al gl (fun r=>r<N0))(htot:tot.length<1099511627776)(f:Nat)(a:Act)(rem:Bool->Option (List Int))(O:Nat->Prop)(w:World)(h:qF9 al gl N0 E w0 c base tot f a rem O w) :
  wpK (MScr prog N0 c Fin) 91 qFh (qKW (fun a' s' O' w'=>∃f',f'<f/\qF9 al gl N0 E w0 c base tot f' a' s' O' w') (qEw 0 (qSC al gl N0 E w0 base tot))) a rem O w:=by
 have C:=qDH (P:=prog) (N0:=N0) c Fin;obtain⟨hH,h0,h1,hf⟩:=h;have hH0:=hH;obtain⟨hsz,hdf,π,u,x,l,V,hown,hx,hb,hperm,hlow⟩:=hH0;simp only[qFh,qFX,Tryz.f91,Option.getD_some];refine qBn C (qBn C (qAp C ?_));simp only[List.size_toArray,List.length_cons,List.length_nil,Nat.reduceAdd,Nat.zero_add,List.range,List.range.loop];refine qBE C (some 10) (.tmp 0) rfl rfl rfl rfl ?_;refine qDj C S V rfl rfl rfl (some 11) rfl 10 (.chan none) rfl .nilChan (chB c rem false) (by simp only[qAA,hsz];rw[h0];unfold chB;cases rem false;exact .nilChan;exact .chan _) (.bool (rem false).isSome) (fun T d=>?_) ?_
 ·unfold chB;rw[qNs _ 10 _ rfl];cases rem false<;>rfl
 rintro O1 π1 y1 w1⟨hle1,hnw1⟩hy1 V1;obtain rfl:y1=.bool (rem false).isSome:=by cases hy1;rfl
 refine qBE C (some 12) (.tmp 11) rfl rfl rfl rfl ?_;have fin:∀(A:Act)(O':Nat->Prop)(w':World),HeldT al gl N0 E w0 base tot A rem O' w'->A.eval (.tmp 0)=chB c rem false->A.eval (.tmp 1)=chB c rem true->A.eval (.tmp 15)=.bool ((rem false).isSome||(rem true).isSome) ->
   wpK (MScr prog N0 c Fin) 91 (match qFh with|.seq (.seq _ q) _=>q|_=>.skip) (qKW (fun a' s' O' w'=>wpK (MScr prog N0 c Fin) 91 qFL (qKW (fun a' s' O' w'=>∃f',f'<f/\qF9 al gl N0 E w0 c base tot f' a' s' O' w') (qEw 0 (qSC al gl N0 E w0 base tot))) a' s' O' w') (qKW (fun a' s' O' w'=>∃f',f'<f/\qF9 al gl N0 E w0 c base tot f' a' s' O' w') (qEw 0 (qSC al gl N0 E w0 base tot)))) A rem O' w':=by
  intro A O' w' hA a0 a1 a15;have tail:=qVO (c:=c) (Fin:=Fin) S htot f A rem O' w' ⟨hA,a0,a1,hf⟩;simp only[qFL,qFh,qFX,Tryz.f91,Option.getD_some]at tail ⊢;refine qDs C a15 ?_;cases hopen:((rem false).isSome||(rem true).isSome)with
  |true =>
   refine qKd C (qHV (tail ?_) (by rintro e a' s' O' w' ⟨rfl,q⟩;exact q));rw[Bool.or_eq_true]at hopen;rcases hopen with q|q
   ·exact⟨false,fun e=>by rw[e]at q;cases q⟩
   ·exact⟨true,fun e=>by rw[e]at q;cases q⟩
  |false =>
   refine qOG C ⟨hA,fun b=>?_⟩;rw[Bool.or_eq_false_iff,Option.isSome_eq_false_iff,Option.isSome_eq_false_iff,Option.isNone_iff_eq_none,Option.isNone_iff_eq_none]at hopen;cases b
   ·exact hopen.1
   ·exact hopen.2
 simp only[qFL,qFh,qFX,Tryz.f91,Option.getD_some]at fin;cases hrf:rem false with
 |some lf =>
  refine qQ8 C (some 13) rfl (by refine(qDK (j:=2) (want:=false) rfl rfl 12 rfl ?_ true ?_).trans rfl<;>simp[qAA,qAB,hsz]) rfl ?_;refine qQ8 C (some 14) rfl (by refine(qDK (j:=2) (want:=false) rfl rfl 12 rfl ?_ true ?_).trans rfl<;>simp[qAA,qAB,hsz]) rfl ?_;refine qLb C (some 15) (.tmp 12) (.const (.bool true)) (.tmp 14) true rfl rfl rfl rfl (by simp[qAA,qAB,hsz]) ?_;refine qBG C ?_;refine fin _ O1 w1 ⟨by simp[qAB,hsz],by simp[qAM,hdf],π1,u,x,l,V1,hown,?_,hb,hperm,fun r r' p=>(hnw1 r r' p).elim (hlow r r') .inr⟩ (by simp[qAA,h0]) (by simp[qAA,h1]) (by simp[qAA,qAB,hsz,hrf,qCT]);simp only[qAA];exact hx.mono hle1
 | none =>
  refine qO9 C (some 13) (.tmp 1) rfl rfl (by refine(qDK (j:=2) (want:=false) rfl rfl 12 rfl ?_ false ?_).trans rfl<;>simp[qAA,qAB,hsz]) rfl ?_;refine qGr C S V1 rfl (by refine(qDK (j:=2) (want:=false) rfl rfl 12 rfl ?_ false ?_).trans rfl<;>simp[qAA,qAB,hsz]) rfl (some 14) rfl 13 (.chan none) rfl .nilChan (chB c rem true) (by simp[qAA,qAB,hsz,h1];unfold chB;cases rem true;exact .nilChan;exact .chan _) (.bool (rem true).isSome) (fun T d=>?_) ?_
  ·unfold chB;rw[qNs _ 13 _ rfl];cases rem true<;>rfl
  rintro O2 π2 y2 w2⟨hle2,hnw2⟩hy2 V2;obtain rfl:y2=.bool (rem true).isSome:=by cases hy2;rfl
  refine qLb C (some 15) (.tmp 12) (.const (.bool true)) (.tmp 14) false rfl rfl rfl rfl (by simp[qAA,qAB,hsz]) ?_;refine qBG C ?_;refine fin _ O2 w2 ⟨by simp[qAB,hsz],by simp[qAM,hdf],π2,u,x,l,V2,hown,?_,hb,hperm,fun r r' p=>(hnw2 r r' p).elim (fun p=>(hnw1 r r' p).elim (hlow r r') .inr) .inr⟩ (by simp[qAA,h0]) (by simp[qAA,h1]) (by simp[qAA,qAB,hsz,hrf]);simp only[qAA];exact(hx.mono hle1).mono hle2
def qW7(al:Cfg)(gl:Nat->Bool)(N0:Nat)(E:Nat->Prop)(w0:World)(base:Nat)(tot:List Int):Exit->Act->(Bool->Option (List Int))->(Nat->Prop)->World->Prop
 |.ret,a,rem,O,w=>(∀b,rem b=none)/\a.tmps.size=37/\a.defers=[]/\∃(π:Ren prog.globals.size)(u:World)(x:Value)(l:List Int),InView prog al gl N0 E w0 O π u w/\u.ownsRow base 3 1 x l.length (l.map (.int .i64))/\VRel (fun f=>al f=true) π x (a.eval (.tmp 4))/\l.Perm tot/\∀r r',π r r'->r<base\/N0<=r'
 |_,_,_,_,_=>False
theorem qW5(S:Setup prog al gl (fun r=>r<N0)){a:Act}{rem:Bool->Option (List Int)}{O:Nat->Prop}{w:World}{π:Ren prog.globals.size}{u:World}(htot:(qCq rem false++qCq rem true).length<1099511627776)(hsz:a.tmps.size=37)(hd:a.defers=[])(h0:a.eval (.tmp 0)=chB c rem false)(h1:a.eval (.tmp 1)=chB c rem true)(V:InView prog al gl N0 E w0 O π u w)(hlow:∀r r',π r r'->r<u.heap.size\/N0<=r') :
  wpK (MScr prog N0 c Fin) 91 qFX (qW7 al gl N0 E w0 u.heap.size (qCq rem false++qCq rem true)) a rem O w:=by
 have C:=qDH (P:=prog) (N0:=N0) c Fin;have hr:=fun f a rem' O w h=>qWC (Fin:=Fin) (al:=al) (gl:=gl) (E:=E) (w0:=w0) (c:=c) (base:=u.heap.size) (tot:=qCq rem false++qCq rem true) S htot f a rem' O w h;simp only[qFh,qFX,Tryz.f91,Option.getD_some]at hr ⊢;refine qBn C (qAp C ?_);simp only[List.size_toArray,List.length_cons,List.length_nil,Nat.zero_add,List.range,List.range.loop];refine qBK C (some 4) (.const (.slice none 0 0)) rfl rfl rfl rfl ?_;refine qBG C ?_;refine qBn C (qAp C ?_);simp only[List.size_toArray,List.length_cons,List.length_nil,Nat.zero_add,List.range,List.range.loop];refine qBK C (some 5) (.const (.slice none 0 0)) rfl rfl rfl rfl ?_;refine qBG C ?_;refine qBn C ?_;refine qHV (qEa C (Q:=qSC al gl N0 E w0 u.heap.size (qCq rem false++qCq rem true)) (qOH C (qF9 al gl N0 E w0 c u.heap.size (qCq rem false++qCq rem true)) _ ⟨⟨by simp[qAB,hsz],by simp[qAM,hd],π,u,.slice none 0 0,[],V,⟨rfl,.inl ⟨rfl,rfl⟩⟩,?_,Nat.le_refl _,.refl _,hlow⟩,by simp[qAA,h0],by simp[qAA,h1],rfl⟩ hr)) ?_
 ·simp only[qAA,qAB,hsz];exact .nilSlice _ _
 intro e A rem1 O1 w1 q;cases e with
 | normal =>
  obtain⟨⟨i1,i2,π1,u1,x1,l1,V1,own1,hx1,hb1,hp1,hlow1⟩,hn⟩:=q;refine qBn C (qAp C ?_);simp only[List.size_toArray,List.length_cons,List.length_nil,Nat.reduceAdd,Nat.zero_add,List.range,List.range.loop];refine qBE C (some 36) (.tmp 5) rfl rfl rfl rfl ?_;refine qBK C (some 4) (.tmp 36) rfl rfl rfl rfl ?_;refine qBG C ?_;refine qVU C ⟨hn,by simp[qAB,i1],by simp[qAM,i2],π1,u1,x1,l1,V1,own1,?_,?_⟩
  ·simp only[qAA,qAB,i1];exact hx1
  ·exact⟨by simpa [qCq,hn]using hp1,hlow1⟩
 |_=>exact q.elim
end
section
variable{P:Program}{Ends:Machine->Trace->Prop}
theorem EndsCl.many(hE:EndsCl P Ends):∀(n:Nat){m m':Machine}{t t':Trace},runNT P n m t=(.next m',t')->Ends m' t'->Ends m t
 |0,m,m',t,t',h,he=>by
  simp only[runNT,Prod.mk.injEq,Stepped.next.injEq]at h;obtain⟨rfl,rfl⟩:=h;exact he
 | n + 1, m, m', t, t', h, he => by
  simp only[runNT]at h;split at h
  ·rename_i m1 ops hst;exact hE m t m1 ops hst (EndsCl.many hE n h he)
  ·rename_i e ops hne hst;simp only[Prod.mk.injEq]at h;obtain⟨rfl,-⟩:=h;exact absurd rfl (hne m')
theorem Inv.then(hE:EndsCl P Ends){N0:Nat}{c idx:Bool->Nat}{Fin:qG1}{km:MKey}{pk:Bool}{ph:Bool->WPh}{mm:Bool->Nat}{gs:Array Goroutine}{w:World}{t:Trace}{q:Nat->Nat}(h:Inv P N0 c idx Fin km pk ph mm gs w t q)(sl:Option (Nat×Nat))
  (hnext:∀km pk ph mm gs1 w1 sl1 t1 q1,gs1.size=gs.size->gs1[0]? = some km.g->Inv P N0 c idx Fin km pk ph mm gs1 w1 t1 q1->(∀d,Fin km.rem km.O km.g (w1.at d))->(∃d sl',stepT P (crowd gs1 w1 sl1)=runT P (crowd gs1 (w1.at d) sl') 0)->Ends (crowd gs1 w1 sl1) t1):Ends (crowd gs w sl) t:=by
 obtain⟨N,km',pk',ph',mm',gs',w',sl',t',q',h1,h2,h3,h4,h5,h6⟩:=h.runs sl;exact hE.many N h1 (hnext km' pk' ph' mm' gs' w' sl' t' q' h2 h3 h4 (fun d=>(h5 _ (h4.rel.trans (qDO d))).1) h6)
def allOrd(md:Region.Mode)(ops:Array Oper):Nat->Array Bool->List Nat->List (List Nat)
 |0,_,acc=>[acc.reverse]
 |f+1,l,acc=>match Region.ready md ops l with
  |[]=>[acc.reverse]
  |r=>r.flatMap fun i=>allOrd md ops f (l.setIfInBounds i true) (i::acc)
theorem qJ3(md:Region.Mode)(ops:Array Oper):∀(f t:Nat)(l:Array Bool)(acc:List Nat),Region.linearise.go md ops f t l acc∈allOrd md ops f l acc
 |0,t,l,acc=>by simp[Region.linearise.go,allOrd]
 | f + 1, t, l, acc => by
  unfold allOrd;simp only[Region.linearise.go]
  change (match (Region.ready md ops l)[t%(Region.ready md ops l).length]? with
   |some i=>Region.linearise.go md ops f (t/(Region.ready md ops l).length) (l.setIfInBounds i true) (i::acc)
   |none=>acc.reverse)∈_
  cases hr:Region.ready md ops l with
  |nil=>simp
  | cons x xs =>
   cases hi:(x::xs)[t%(x::xs).length]? with
   |none =>
    have hlt:t%(x::xs).length<(x::xs).length:=Nat.mod_lt _ (by simp);rw[List.getElem?_eq_getElem hlt]at hi;cases hi
   |some i =>
    simp only[List.mem_flatMap];exact⟨i,List.mem_of_getElem? hi,qJ3 md ops f _ _ _⟩
theorem qLw(mixed:Bool)(ops:Array Oper)(t:Nat):Region.schedule mixed ops t∈allOrd .any ops ops.size (Array.replicate ops.size false) []++(allOrd .text ops ops.size (Array.replicate ops.size false) []++allOrd .gc ops ops.size (Array.replicate ops.size false) []):=by
 unfold Region.schedule;split
 ·exact List.mem_append.2 (.inl (qJ3 _ _ _ _ _ _))
 ·refine List.mem_append.2 (.inr (List.mem_append.2 ?_));split
  ·exact .inl (qJ3 _ _ _ _ _ _)
  ·exact .inr (qJ3 _ _ _ _ _ _)
end
noncomputable def qJi:Code:=Tryz.f61.body.getD .skip
noncomputable def qBZ(n:Nat):Code:=match n,qJi with
 |1,.seq _ x=>x
 |2,.seq _ (.seq _ x)=>x
 |3,.seq _ (.seq _ (.seq _ x))=>x
 |4,.seq _ (.seq _ (.seq _ (.seq _ x)))=>x
 |5,.seq _ (.seq _ (.seq _ (.seq _ (.seq _ x))))=>x
 |_,_=>.skip
noncomputable def qDN(n:Nat):Array Oper:=match n,qJi with
 |1,.seq _ (.seq (.region _ ops _) _)=>ops
 |2,.seq _ (.seq _ (.seq (.region _ ops _) _))=>ops
 |3,.seq _ (.seq _ (.seq _ (.seq (.region _ ops _) _)))=>ops
 |4,.seq _ (.seq _ (.seq _ (.seq _ (.seq (.region _ ops _) _))))=>ops
 |_,_=>#[]
theorem qU0(mixed:Bool)(t:Nat):Region.schedule mixed (qDN 1) t=[0,1,2,3]\/Region.schedule mixed (qDN 1) t=[1,0,2,3]\/Region.schedule mixed (qDN 1) t=[0,2,1,3]:=by
 have h:=qLw mixed (qDN 1) t;have e:(allOrd .any (qDN 1) (qDN 1).size (Array.replicate (qDN 1).size false) []++(allOrd .text (qDN 1) (qDN 1).size (Array.replicate (qDN 1).size false) []++allOrd .gc (qDN 1) (qDN 1).size (Array.replicate (qDN 1).size false) [])).all (fun l=>l==[0,1,2,3]||l==[1,0,2,3]||l==[0,2,1,3])=true:=by kernel_rfl
 have:=List.all_eq_true.1 e _ h;simpa [or_assoc]using this
section
variable{P:Program}{Ends:Machine->Trace->Prop}
def KLA(P:Program)(Ends:Machine->Trace->Prop)(g:Goroutine)(w:World):Prop:=∀d,KL P Ends g (w.at d)
theorem KLA.step(hE:EndsCl P Ends){g:Goroutine}{w:World}(hr:g.status=.running)
  (h:∀d,∃g1 w1 es,stepG P true g (w.at d)=.go g1 w1 es/\w.heap.size<=w1.heap.size/\(∀e∈es,EvL (fun _=>False) w1.heap.size e)/\KLA P Ends g1 w1):KLA P Ends g w:=fun d0 =>
 KL.step hE hr fun d=>by
  obtain⟨g1,w1,es,e,h1,h2,h3⟩:=h d;exact⟨g1,w1,es,e,h1,h2,h3 w1.drawn⟩
theorem KLA.idle(hE:EndsCl P Ends){g g':Goroutine}{w:World}(hr:g.status=.running)(h:∀w1,stepG P true g w1=.go g' w1 #[])(hk:KLA P Ends g' w):KLA P Ends g w :=
 KLA.step hE hr fun d=>⟨g',w.at d,#[],h _,Nat.le_refl _,by simp,fun d'=>hk d'⟩
variable{ops:Array Oper}{i:Nat}{rest:List Nat}{o:Oper}{b:Frame}{a:Act}{k:List Item}{cs:List Frame}{w:World}
theorem KLA.move(hE:EndsCl P Ends)(hk:b.kind≠.early)(d:Option Nat)(x:Operand)(ho:ops[i]? = some o)(hop:o.op=.move x\/o.op=.assign x)(hg:o.guard=none)(hd:o.dst=d)(h:KLA P Ends (G (b.at (a.put d (a.eval x)) (.inRegion ops rest::k)) cs) w):KLA P Ends (G (b.at a (.inRegion ops (i::rest)::k)) cs) w:=by
 subst hd;have e:∀w1,(execOp a.eval o).run P w1=.ok (.value (a.eval x)) w1:=fun w1=>by
  unfold execOp;rcases hop with hop|hop<;>rw[hop]<;>rfl
 refine KLA.idle hE rfl (fun w1=>?_) h;rw[stepG_value ho (by simp[Region.wanted,hg]) hk (e w1),listed_none];unfold execOp;rcases hop with hop|hop<;>rw[hop]<;>simp
theorem KLA.make(hE:EndsCl P Ends)(hk:b.kind≠.early)(d:Option Nat)(t e:TypeId)(inf:TypeInfo)(dir:ChanDir)(ht:P.underlying t=some (.chan dir e))(hi:P.info? e=some inf)(ho:ops[i]? = some o)(hop:o.op=.makeChan t (.const (.int .i64 0)))(hg:o.guard=none)(hd:o.dst=d)
  (h:KLA P Ends (G (b.at (a.put d (.chan (some w.heap.size))) (.inRegion ops rest::k)) cs) (w.alloc (.chan 0 #[] false 0 0 false))):KLA P Ends (G (b.at a (.inRegion ops (i::rest)::k)) cs) w:=by
 subst hd;refine KLA.step hE rfl fun d=>⟨_,(w.at d).alloc (.chan 0 #[] false 0 0 false),#[],?_,?_,by simp,fun d'=>h d'⟩
 ·have hr:(execOp a.eval o).run P (w.at d)=.ok (.value (.chan (some w.heap.size))) ((w.at d).alloc (.chan 0 #[] false 0 0 false)):=by
   have:=run_makeChan (P:=P) (w:=w.at d) ht hi .i64 0 (by decide) (by simp);unfold execOp;rw[hop];simp only[qCT,Sem.run_bind];rw[show(Value.int IntKind.i64 0)=Value.int IntKind.i64 ((0:Nat):Int) from rfl,this];rfl
  have he:(execOp a.eval o).events P (w.at d) #[]=#[]:=by
   have hev:=events_makeChan (P:=P) (w:=w.at d) ht hi .i64 0 (by decide) (by simp) #[];unfold execOp;rw[hop];simp only[qCT];rw[show(Value.int IntKind.i64 0)=Value.int IntKind.i64 ((0:Nat):Int) from rfl];simp;exact hev
  rw[stepG_value ho (by simp[Region.wanted,hg]) hk hr,listed_none he]
 ·show w.heap.size<=(w.heap.push _).size;simp
end
section
variable{Ends:Machine->Trace->Prop}{b:Frame}{a:Act}{k:List Item}{cs:List Frame}{w:World}
structure Made(a:Act)(w:World)(A:Act)(w2:World)(c:Bool->Nat):Prop where
 size:A.tmps.size=24
 defers:A.defers=a.defers
 s5:A.eval (.tmp 5)=.chan (some (c false))
 s6:A.eval (.tmp 6)=.chan (some (c true))
 s8:A.eval (.tmp 8)=.chan (some (c false))
 s9:A.eval (.tmp 9)=.chan (some (c true))
 rest:∀i,i≠5->i≠6->i≠8->i≠9->A.eval (.tmp i)=a.eval (.tmp i)
 ne:c false≠c true
 at':∀b,c b=w.heap.size\/c b=w.heap.size+1
 heap:w2.heap=(w.heap.push (.chan 0 #[] false 0 0 false)).push (.chan 0 #[] false 0 0 false)
 tape:w2.tape=w.tape
 os:qEz w2=qEz w
theorem qVt(hE:EndsCl prog Ends)(hk:b.kind≠.early)(hsz:a.tmps.size=24)(hnext:∀A w2 c,Made a w A w2 c->KLA prog Ends (G (b.at A (.code (qBZ 2)::k)) cs) w2):KLA prog Ends (G (b.at a (.code (qBZ 1)::k)) cs) w:=by
 obtain⟨inf,hi,hz,hs,hb⟩:=qSw;have hord:=qU0 (prog.follows .mixedOrders);simp only[qBZ,qDN,qJi,Tryz.f61,Option.getD_some]at hnext hord ⊢;refine KLA.idle hE rfl (fun _=>stepG_seq) ?_;refine KLA.step hE rfl fun d=>⟨_,_,_,stepG_region_draw,Nat.le_refl _,by simp,?_⟩;generalize hsch:Region.schedule _ _ _=sch;have h3:sch=[0,1,2,3]\/sch=[1,0,2,3]\/sch=[0,2,1,3]:=by
  rw[<-hsch];exact hord _
 clear hsch;intro d';rcases h3 with rfl|rfl|rfl
 ·refine(?_:KLA prog Ends _ w) d';refine KLA.make hE hk (some 8) 172 3 inf .both underlying172 hi rfl rfl rfl rfl ?_;refine KLA.make hE hk (some 9) 172 3 inf .both underlying172 hi rfl rfl rfl rfl ?_;refine KLA.move hE hk (some 5) (.tmp 8) rfl (.inr rfl) rfl rfl ?_;refine KLA.move hE hk (some 6) (.tmp 9) rfl (.inr rfl) rfl rfl ?_;refine KLA.idle hE rfl (fun _=>stepG_region_end) ?_;refine hnext _ _ (fun b=>if b then w.heap.size+1 else w.heap.size) ⟨by simp[qAB,hsz],by simp[qAM],?_,?_,?_,?_,fun i i5 i6 i8 i9=>by simp[qAA,i5,i6,i8,i9],by simp,fun b=>by cases b<;>simp,rfl,rfl,rfl⟩
  all_goals simp[qAA,qAB,hsz]
 ·refine(?_:KLA prog Ends _ w) d';refine KLA.make hE hk (some 9) 172 3 inf .both underlying172 hi rfl rfl rfl rfl ?_;refine KLA.make hE hk (some 8) 172 3 inf .both underlying172 hi rfl rfl rfl rfl ?_;refine KLA.move hE hk (some 5) (.tmp 8) rfl (.inr rfl) rfl rfl ?_;refine KLA.move hE hk (some 6) (.tmp 9) rfl (.inr rfl) rfl rfl ?_;refine KLA.idle hE rfl (fun _=>stepG_region_end) ?_;refine hnext _ _ (fun b=>if b then w.heap.size else w.heap.size+1) ⟨by simp[qAB,hsz],by simp[qAM],?_,?_,?_,?_,fun i i5 i6 i8 i9=>by simp[qAA,i5,i6,i8,i9],by simp,fun b=>by cases b<;>simp,rfl,rfl,rfl⟩
  all_goals simp[qAA,qAB,hsz]
 ·refine(?_:KLA prog Ends _ w) d';refine KLA.make hE hk (some 8) 172 3 inf .both underlying172 hi rfl rfl rfl rfl ?_;refine KLA.move hE hk (some 5) (.tmp 8) rfl (.inr rfl) rfl rfl ?_;refine KLA.make hE hk (some 9) 172 3 inf .both underlying172 hi rfl rfl rfl rfl ?_;refine KLA.move hE hk (some 6) (.tmp 9) rfl (.inr rfl) rfl rfl ?_;refine KLA.idle hE rfl (fun _=>stepG_region_end) ?_;refine hnext _ _ (fun b=>if b then w.heap.size+1 else w.heap.size) ⟨by simp[qAB,hsz],by simp[qAM],?_,?_,?_,?_,fun i i5 i6 i8 i9=>by simp[qAA,i5,i6,i8,i9],by simp,fun b=>by cases b<;>simp,rfl,rfl,rfl⟩
  all_goals simp[qAA,qAB,hsz]
end
section
theorem qRm{a:Act}{o:Oper}{t3 t4:Nat}{kk:Int}{ats:Array TypeId}(hop:o.op=.go { callee:=.value (.func 90),args:=#[.tmp t3,.const (.int .i64 kk),.tmp t4],argTypes:=ats }) :
  ∃d,(∀w,(execOp a.eval o).run prog w=.ok (.spawn d) w)/\(∃f c,d.target=.fn f c)/\(∀w,(execOp a.eval o).events prog w #[]=#[]) /\
   ∀w1,stepG prog false (born prog d) w1=.go (G (frS.at { tmps:=#[a.eval (.tmp t3),.int .i64 kk,a.eval (.tmp t4)]++Array.replicate 19 undef,defers:=[] } [.code qG2]) [qR8 prog]) w1 #[]:=by
 refine⟨{ target:=.fn (.func 90) #[],args:=#[a.eval (.tmp t3),.int .i64 kk,a.eval (.tmp t4)] },fun w=>?_,⟨_,_,rfl⟩,fun w=>?_,fun w1=>?_⟩
 ·unfold execOp;rw[hop];simp[resolve,Act.eval,Deferred.ofValue]
 ·unfold execOp;rw[hop];simp[resolve,Act.eval,Deferred.ofValue]
 ·have hb:Tryz.f90.body=some qG2:=rfl
  have h1 : ¬ Tryz.f90.name = "runtime.NumGoroutine" := by
   have : (Tryz.f90.name == "runtime.NumGoroutine") = false := rfl
   simpa using this
  have h0:∀w,((invoke (.fn (.func 90) #[]) #[a.eval (.tmp t3),.int .i64 kk,a.eval (.tmp t4)]).runT prog w #[])=(.ok (.enter 90 #[a.eval (.tmp t3),.int .i64 kk,a.eval (.tmp t4)]) w,#[]):=fun w=>by
   simp[invoke,callFunc,func90,h1,hb]
  simp only[born,stepG,unwind,callDeferred,h0];simp[seen_none,GStep.after,Frame.enter,func90,hb,G,Frame.at,frS,qR8]
end
structure AllSpec(al alF:Cfg)(gl:Nat->Bool)(v:World)(tv lv:Value)(n:Nat)(mP:Nat->Bool)(Fnd:Value->World->Prop)(LayF:World->Prop):Prop where
 fin:Finder prog n mP tv Fnd
 layre:∀u T d,LayF u->LayF (u.re T d)
 lay:∀T d (π:Ren prog.globals.size) w,WRel (fun f=>al f=true) (fun r=>r<0) π (v.re T d) w->LayF (fz (fun f=>alF f=true) π (v.re T d) w)
 new:∀u,LayF u->Calls prog 89 #[tv,lv] u fun e u'=>∃x,e=.returned x/\Fnd x u'
 ct:Clean v tv
 cl:Clean v lv
 rows:∀x,gl x=true->qIj v x
 setup:∀N0,Setup prog alF gl (fun r=>r<N0)
 a1:alF 89=true
 a2:alF 73=true
 a3:alF 97=true
section
variable{al alF:Cfg}{gl:Nat->Bool}{P:Program}
theorem VRel.lose{G:Nat}{Al Al':FuncId->Prop}{π π':Ren G}{x x':Value}(h:VRel Al π x x'):∃y,VRel Al' π' y x':=by
 obtain⟨y,hy,-⟩:=h.rows (Al':=Al') (v:=default);refine⟨y,hy.mono fun r s p=>?_⟩;obtain⟨-,c,e,f,hc⟩:=p;exact absurd hc (by simp[show(default:World).heap=#[] from rfl])
def RelSlots(al:Cfg){G:Nat}(π:Ren G)(A:Act):Prop:=∀i,∃z,VRel (fun f=>al f=true) π z (A.eval (.tmp i))
theorem RelSlots.put{G:Nat}{π:Ren G}{A:Act}(h:RelSlots al π A)(d:Nat){z z':Value}(hz:VRel (fun f=>al f=true) π z z'):RelSlots al π (A.put (some d) z'):=by
 intro i;rw[qAA];split
 ·exact⟨z,hz⟩
 ·exact h i
theorem RelSlots.of{G:Nat}{π:Ren G}{A A':Act}(h:RelSlots al π A)(h':∀i,A'.eval (.tmp i)=A.eval (.tmp i)\/∃z,VRel (fun f=>al f=true) π z (A'.eval (.tmp i))):RelSlots al π A':=fun i=>(h' i).elim (fun e=>by rw[e];exact h i) id
theorem qW3{π:Ren P.globals.size}{v w w' w0:World}(hW:WRel (fun f=>al f=true) (fun r=>r<0) π v w)(hgl:∀x,gl x=true->π x x)(hrow:∀x,gl x=true->qIj v x)(hsz:w.heap.size<=w'.heap.size)(h1:∀r,r<w.heap.size->w'.heap[r]? = w.heap[r]?)(hos:qEz w'=qEz w)
  {E O:Nat->Prop} (hge:∀r,O r->w.heap.size<=r) (hsub:∀r,E r->O r) (hold:∀r,E r\/r<w.heap.size->r<w'.heap.size/\w'.heap[r]? = w0.heap[r]?) (hos0:qEz w'=qEz w0):InView P alF gl w.heap.size E w0 O (π.rows v) (fz (fun f=>alF f=true) π v w) w':=by
 have h0:=qVq (Al':=fun f=>alF f=true) hW;refine⟨?_,fun r r' p=>.inl (hW.low p.1).2,fun x hx=>⟨hgl x hx,hrow x hx⟩,hge,hsub,hold,hos0⟩;have:=h0.rely (N0:=w.heap.size) (O:=fun _=>False) (w1:=w') (fun r r' p=>.inl (hW.low p.1).2) ⟨hsz,fun _ h=>h.elim,h1,hos⟩;exact this
end
section
variable{al:Cfg}{gl:Nat->Bool}{N0:Nat}{σ:Type}{K:σ->(Nat->Prop)->Goroutine->World->Prop}{s:σ}{O E:Nat->Prop}{w0 w u:World}{π:Ren prog.globals.size}{b:Frame}{a:Act}{k:List Item}{cs:List Frame}
theorem qPr(C:Clo prog true N0 K)(S:Setup prog al gl (fun r=>r<N0))(V:InView prog al gl N0 E w0 O π u w)(hk:b.kind≠.early){tv lv:Value}{Fnd:Value->World->Prop}(hre:∀x u T d,Fnd x u->Fnd x (u.re T d))(hal:al 89=true)
  (hC:∀T,Calls prog 89 #[tv,lv] (u.re T 0) fun e u'=>∃x,e=.returned x/\Fnd x u') (ht:VRel (fun f=>al f=true) π tv (a.eval (.tmp 0))) (hl:VRel (fun f=>al f=true) π lv (a.eval (.tmp 1))) (hsz:a.tmps.size=24)
  {ops:Array Oper} {o0 o1 o2 o3:Oper} (t1 t2 t3 t4 src:Nat) (hne:t1<24/\t2<24/\t3<24/\t4<24/\t1≠1/\t1≠t2/\t1≠t3/\t1≠t4/\t2≠t3/\t2≠t4/\t3≠t4/\src≠t1/\src≠t2/\src≠t3) {ats:Array TypeId}
  (h0:ops[0]? = some o0) (e0:o0.op=.move (.tmp 0)) (d0:o0.dst=some t1) (g0:o0.guard=none)
  (h1:ops[1]? = some o1) (e1:o1.op=.move (.tmp 1)) (d1:o1.dst=some t2) (g1:o1.guard=none)
  (h2:ops[2]? = some o2) (e2:o2.op=.call { callee:=.value (.func 89),args:=#[.tmp t1,.tmp t2],argTypes:=ats }) (d2:o2.dst=some t3) (g2:o2.guard=none)
  (h3:ops[3]? = some o3) (e3:o3.op=.move (.tmp src)) (d3:o3.dst=some t4) (g3:o3.guard=none)
  (hnext:∀O' π' u' w' x A',InView prog al gl N0 E w0 O' π' u' w'->Fnd x u'->VRel (fun f=>al f=true) π' x (A'.eval (.tmp t3))->A'.eval (.tmp t4)=a.eval (.tmp src)->A'.eval (.tmp t1)=a.eval (.tmp 0)->A'.eval (.tmp t2)=a.eval (.tmp 1)->(∀i,i≠t1->i≠t2->i≠t3->i≠t4->A'.eval (.tmp i)=a.eval (.tmp i))->A'.tmps.size=24->A'.defers=a.defers->K s O' (G (b.at A' (.inRegion ops [4]::k)) cs) w') :
  K s O (G (b.at a (.inRegion ops [0,1,2,3,4]::k)) cs) w:=by
 obtain⟨q1,q2,q3,q4,n1,n12,n13,n14,n23,n24,n34,ns1,ns2,ns3⟩:=hne;refine qEe C hk (some t1) (.tmp 0) h0 (.inl e0) g0 d0 ?_;refine qEe C hk (some t2) (.tmp 1) h1 (.inl e1) g1 d1 ?_;refine qNC C S V hk h2 (by simp[Region.wanted,g2]) e2 hal func89 rfl rfl (xs:=#[tv,lv]) ⟨by simp,fun j hj hj'=>?_⟩ (Post:=Fnd) hre hC ?_
 ·have hj:j<2:=hj;obtain rfl|rfl:j=0\/j=1:=by omega
  ·simp[qAA,qAB,hsz,n12,q1];exact ht
  ·simp[qAA,qAB,hsz,q2,Ne.symm n1];exact hl
 intro O' π' x x' u' w' hle hx hv V';rw[d2];refine qEe C hk (some t4) (.tmp src) h3 (.inl e3) g3 d3 ?_;refine hnext O' π' u' w' x _ V' hx ?_ ?_ ?_ ?_ (fun i i1 i2 i3 i4=>by simp[qAA,i1,i2,i3,i4]) (by simp[qAB,hsz]) (by simp[qAM])
 ·simp only[qAA,qAB,hsz,n34,false_and,if_false,q3,and_self,if_true];exact hv
 ·simp[qAA,qAB,hsz,q4,ns1,ns2,ns3]
 ·simp[qAA,qAB,hsz,q1,n12,n13,n14]
 ·simp[qAA,qAB,hsz,q2,n23,n24,Ne.symm n1]
end
structure AA(al:Cfg){G:Nat}(πF:Ren G)(c:Bool->Nat)(t' l':Value)(A:Act):Prop where
 size:A.tmps.size=24
 defers:A.defers=[]
 s0:A.eval (.tmp 0)=t'
 s1:A.eval (.tmp 1)=l'
 s5:A.eval (.tmp 5)=.chan (some (c false))
 s6:A.eval (.tmp 6)=.chan (some (c true))
 rel:RelSlots al πF A
section
variable{al:Cfg}{gl:Nat->Bool}{N0:Nat}{c:Bool->Nat}{πF:Ren prog.globals.size}{uF w0:World}{tv lv t' l':Value}{n:Nat}{mP:Nat->Bool}{Fnd:Value->World->Prop}{b:Frame}{k:List Item}{cs:List Frame}
def qOM(al:Cfg)(gl:Nat->Bool)(N0:Nat)(c:Bool->Nat)(πF:Ren prog.globals.size)(w0:World)(t' l':Value)(Fnd:Value->World->Prop)(b:Frame)(k:List Item)(cs:List Frame)(E:Nat->Prop)(rem0:Bool->Option (List Int))(ops:Array Oper)(rest:Code)(t3 t4:Nat)(ch:Nat):qG1 :=
 fun rem O g w1=>rem=rem0/\∃A x π u,g=G (b.at A (.inRegion ops [4]::.code rest::k)) cs/\AA al πF c t' l' A/\InView prog al gl N0 E w0 O π u w1/\Fnd x u/\VRel (fun f=>al f=true) π x (A.eval (.tmp t3))/\A.eval (.tmp t4)=.chan (some ch)
theorem qEC{P:Program}{g g' child:Goroutine}{w w':World}{es:Array Event}(h:stepG P true g w=.spawn g' child w' es):qNB P g w:=fun g2 cs b sh w2 es2 e=>by rw[h]at e;cases e
theorem qLV{P:Program}{g g':Goroutine}{w w':World}{es:Array Event}(h:stepG P true g w=.go g' w' es):qNB P g w:=fun g2 cs b sh w2 es2 e=>by rw[h]at e;cases e
theorem qVJ(S:Setup prog al gl (fun r=>r<N0))(hk:b.kind≠.early)(hre:∀x u T d,Fnd x u->Fnd x (u.re T d))(hal:al 89=true)(hC:∀T,Calls prog 89 #[tv,lv] (uF.re T 0) fun e u'=>∃x,e=.returned x/\Fnd x u')(ht:VRel (fun f=>al f=true) πF tv t')(hl:VRel (fun f=>al f=true) πF lv l')
  {E O:Nat->Prop} {rem:Bool->Option (List Int)} {A:Act} {w:World} (hA:AA al πF c t' l' A) (V:InView prog al gl N0 E w0 O πF uF w) :
  MScr prog N0 c (qOM al gl N0 c πF w0 t' l' Fnd b k cs E rem (qDN 2) (qBZ 3) 12 13 (c false)) rem O (G (b.at A (.code (qBZ 2)::k)) cs) w:=by
 have C:=qDH (P:=prog) (N0:=N0) c (qOM al gl N0 c πF w0 t' l' Fnd b k cs E rem (qDN 2) (qBZ 3) 12 13 (c false));have key:∀O' π' u' w' x A',InView prog al gl N0 E w0 O' π' u' w'->Fnd x u'->VRel (fun f=>al f=true) π' x (A'.eval (.tmp 12))->A'.eval (.tmp 13)=A.eval (.tmp 5)->A'.eval (.tmp 10)=A.eval (.tmp 0)->A'.eval (.tmp 11)=A.eval (.tmp 1)->(∀i,i≠10->i≠11->i≠12->i≠13->A'.eval (.tmp i)=A.eval (.tmp i))->A'.tmps.size=24->A'.defers=A.defers->MScr prog N0 c (qOM al gl N0 c πF w0 t' l' Fnd b k cs E rem (qDN 2) (qBZ 3) 12 13 (c false)) rem O' (G (b.at A' (.inRegion (qDN 2) [4]::.code (qBZ 3)::k)) cs) w':=by
  intro O' π' u' w' x A' V' hx hv e13 e10 e11 hr hsz hdf;have hAA:AA al πF c t' l' A':=by
   refine⟨hsz,hdf.trans hA.defers,?_,?_,?_,?_,hA.rel.of fun i=>?_⟩
   ·rw[hr 0 (by decide) (by decide) (by decide) (by decide)];exact hA.s0
   ·rw[hr 1 (by decide) (by decide) (by decide) (by decide)];exact hA.s1
   ·rw[hr 5 (by decide) (by decide) (by decide) (by decide)];exact hA.s5
   ·rw[hr 6 (by decide) (by decide) (by decide) (by decide)];exact hA.s6
   ·by_cases i1:i=10
    ·subst i1;exact .inr ⟨tv,by rw[e10,hA.s0];exact ht⟩
    by_cases i2:i=11
    ·subst i2;exact .inr ⟨lv,by rw[e11,hA.s1];exact hl⟩
    by_cases i3:i=12
    ·subst i3;exact .inr hv.lose
    by_cases i4:i=13
    ·subst i4;exact .inr ⟨_,by rw[e13,hA.s5];exact .chan _⟩
    ·exact .inl (hr i i1 i2 i3 i4)
  refine .fin rfl fun w1 h1=>⟨⟨rfl,A',x,π',u',rfl,hAA,V'.rely h1,hx,hv,e13.trans hA.s5⟩,?_⟩;obtain⟨o,ho,hop,hg⟩:∃o,(qDN 2)[4]? = some o/\o.op=.go { callee:=.value (.func 90),args:=#[.tmp 12,.const (.int .i64 0),.tmp 13],argTypes:=#[173,3,221] }/\o.guard=none:=⟨_,rfl,rfl,rfl⟩;obtain⟨d,hd1,⟨f,cc,hd2⟩,-,-⟩:=qRm (a:=A') hop;exact qEC (stepG_spawn ho (by simp[Region.wanted,hg]) hk (hd1 w1) hd2)
 simp only[qBZ,qDN,qJi,Tryz.f61,Option.getD_some]at key C ⊢;refine C.idle rfl rfl (fun _=>stepG_seq) ?_;refine C.idle rfl rfl (fun _=>stepG_region) ?_;simp only[List.size_toArray,List.length_cons,List.length_nil,Nat.reduceAdd,Nat.zero_add,List.range,List.range.loop];exact qPr C S V hk hre hal hC (by rw[hA.s0];exact ht) (by rw[hA.s1];exact hl) hA.size 10 11 12 13 5 (by decide) rfl rfl rfl rfl rfl rfl rfl rfl rfl rfl rfl rfl rfl rfl rfl rfl key
theorem qVK(S:Setup prog al gl (fun r=>r<N0))(hk:b.kind≠.early)(hre:∀x u T d,Fnd x u->Fnd x (u.re T d))(hal:al 89=true)(hC:∀T,Calls prog 89 #[tv,lv] (uF.re T 0) fun e u'=>∃x,e=.returned x/\Fnd x u')(ht:VRel (fun f=>al f=true) πF tv t')(hl:VRel (fun f=>al f=true) πF lv l')
  {E O:Nat->Prop} {rem:Bool->Option (List Int)} {A:Act} {w:World} (hA:AA al πF c t' l' A) (V:InView prog al gl N0 E w0 O πF uF w) :
  MScr prog N0 c (qOM al gl N0 c πF w0 t' l' Fnd b k cs E rem (qDN 3) (qBZ 4) 16 17 (c true)) rem O (G (b.at A (.inRegion (qDN 2) []::.code (qBZ 3)::k)) cs) w:=by
 have C:=qDH (P:=prog) (N0:=N0) c (qOM al gl N0 c πF w0 t' l' Fnd b k cs E rem (qDN 3) (qBZ 4) 16 17 (c true));have key:∀O' π' u' w' x A',InView prog al gl N0 E w0 O' π' u' w'->Fnd x u'->VRel (fun f=>al f=true) π' x (A'.eval (.tmp 16))->A'.eval (.tmp 17)=A.eval (.tmp 6)->A'.eval (.tmp 14)=A.eval (.tmp 0)->A'.eval (.tmp 15)=A.eval (.tmp 1)->(∀i,i≠14->i≠15->i≠16->i≠17->A'.eval (.tmp i)=A.eval (.tmp i))->A'.tmps.size=24->A'.defers=A.defers->MScr prog N0 c (qOM al gl N0 c πF w0 t' l' Fnd b k cs E rem (qDN 3) (qBZ 4) 16 17 (c true)) rem O' (G (b.at A' (.inRegion (qDN 3) [4]::.code (qBZ 4)::k)) cs) w':=by
  intro O' π' u' w' x A' V' hx hv e13 e10 e11 hr hsz hdf;have hAA:AA al πF c t' l' A':=by
   refine⟨hsz,hdf.trans hA.defers,?_,?_,?_,?_,hA.rel.of fun i=>?_⟩
   ·rw[hr 0 (by decide) (by decide) (by decide) (by decide)];exact hA.s0
   ·rw[hr 1 (by decide) (by decide) (by decide) (by decide)];exact hA.s1
   ·rw[hr 5 (by decide) (by decide) (by decide) (by decide)];exact hA.s5
   ·rw[hr 6 (by decide) (by decide) (by decide) (by decide)];exact hA.s6
   ·by_cases i1:i=14
    ·subst i1;exact .inr ⟨tv,by rw[e10,hA.s0];exact ht⟩
    by_cases i2:i=15
    ·subst i2;exact .inr ⟨lv,by rw[e11,hA.s1];exact hl⟩
    by_cases i3:i=16
    ·subst i3;exact .inr hv.lose
    by_cases i4:i=17
    ·subst i4;exact .inr ⟨_,by rw[e13,hA.s6];exact .chan _⟩
    ·exact .inl (hr i i1 i2 i3 i4)
  refine .fin rfl fun w1 h1=>⟨⟨rfl,A',x,π',u',rfl,hAA,V'.rely h1,hx,hv,e13.trans hA.s6⟩,?_⟩;obtain⟨o,ho,hop,hg⟩:∃o,(qDN 3)[4]? = some o/\o.op=.go { callee:=.value (.func 90),args:=#[.tmp 16,.const (.int .i64 1),.tmp 17],argTypes:=#[173,3,221] }/\o.guard=none:=⟨_,rfl,rfl,rfl⟩;obtain⟨d,hd1,⟨f,cc,hd2⟩,-,-⟩:=qRm (a:=A') hop;exact qEC (stepG_spawn ho (by simp[Region.wanted,hg]) hk (hd1 w1) hd2)
 simp only[qBZ,qDN,qJi,Tryz.f61,Option.getD_some]at key C ⊢;refine C.idle rfl rfl (fun _=>stepG_region_end) ?_;refine C.idle rfl rfl (fun _=>stepG_seq) ?_;refine C.idle rfl rfl (fun _=>stepG_region) ?_;simp only[List.size_toArray,List.length_cons,List.length_nil,Nat.reduceAdd,Nat.zero_add,List.range,List.range.loop];exact qPr C S V hk hre hal hC (by rw[hA.s0];exact ht) (by rw[hA.s1];exact hl) hA.size 14 15 16 17 6 (by decide) rfl rfl rfl rfl rfl rfl rfl rfl rfl rfl rfl rfl rfl rfl rfl rfl key
def qNA(al:Cfg)(gl:Nat->Bool)(N0:Nat)(πF:Ren prog.globals.size)(w0:World)(b:Frame)(k:List Item)(cs:List Frame)(base:Nat)(tot:List Int):qG1 :=
 fun rem O g w1=>(∀b,rem b=none)/\∃(A:Act)(π:Ren prog.globals.size)(u:World)(x:Value)(l:List Int),g=G (b.at A (.inRegion (qDN 4) [3]::.code (qBZ 5)::k)) cs/\A.tmps.size=24/\A.defers=[]/\(∀i,i≠20->∃z,VRel (fun f=>al f=true) πF z (A.eval (.tmp i))) /\
  InView prog al gl N0 (fun _=>False) w0 O π u w1/\u.ownsRow base 3 1 x l.length (l.map (.int .i64))/\VRel (fun f=>al f=true) π x (A.eval (.tmp 20))/\l.Perm tot/\∀r r',π r r'->r<base\/N0<=r'
theorem qVL(S:Setup prog al gl (fun r=>r<N0))(hk:b.kind≠.early){xs:Bool->List Int}(hxs:(xs false++xs true).length<1099511627776){A:Act}{w:World}{O:Nat->Prop}(hA:AA al πF c t' l' A)(V:InView prog al gl N0 (fun _=>False) w0 O πF uF w)(hlow:∀r r',πF r r'->r<uF.heap.size\/N0<=r') :
  MScr prog N0 c (qNA al gl N0 πF w0 b k cs uF.heap.size (xs false++xs true)) (fun b=>some (xs b)) O (G (b.at A (.inRegion (qDN 3) []::.code (qBZ 4)::k)) cs) w:=by
 have C:=qDH (P:=prog) (N0:=N0) c (qNA al gl N0 πF w0 b k cs uF.heap.size (xs false++xs true));have back:∀(B a':Act)(rem1:Bool->Option (List Int))(O1:Nat->Prop)(w1:World),qW7 al gl N0 (fun _=>False) w0 uF.heap.size (xs false++xs true) .ret a' rem1 O1 w1->B.tmps.size=24->B.defers=[]->RelSlots al πF B->∀todo,
   MScr prog N0 c (qNA al gl N0 πF w0 b k cs uF.heap.size (xs false++xs true)) rem1 O1 (G { (Go.Conc.base 91).at a' todo with mode:=.returning } (b.at B (.inRegion (qDN 4) [2,3]::.code (qBZ 5)::k)::cs)) w1:=by
  intro B a' rem1 O1 w1 q hB1 hB2 hB3 todo;obtain⟨hn,hs,hd,π,u,x,l,V1,own1,hx1,hp1,hlow1⟩:=q;have hfin:∀z,(b.at B (.inRegion (qDN 4) [2,3]::.code (qBZ 5)::k)).finish z=b.at (B.put (some 20) z) (.inRegion (qDN 4) [3]::.code (qBZ 5)::k):=fun z=>by
   rw[Frame.finish_at];rfl
  refine C.idle rfl rfl (fun w2=>stepG_leave rfl hd func91 (results_tmp (t:=4) rfl _ _ w2) (events_results_tmp rfl _ _)) ?_;rw[hfin];refine .fin rfl fun w2 h2=>⟨⟨hn,_,π,u,x,l,rfl,by simp[qAB,hB1],by simp[qAM,hB2],fun i hi=>?_,V1.rely h2,own1,?_,hp1,hlow1⟩,?_⟩
  ·rw[qAA];simp only[hi,false_and,if_false];exact hB3 i
  ·rw[qAA];simp only[hB1];exact hx1
  ·obtain⟨o,ho,hop,hg⟩:∃o,(qDN 4)[3]? = some o/\o.op=.assign (.tmp 20)/\o.guard=none:=⟨_,rfl,rfl,rfl⟩;exact qLV (stepG_value (v:=Act.eval (B.put (some 20) _) (.tmp 20)) (w':=w2) ho (by simp[Region.wanted,hg]) hk (by unfold execOp;rw[hop];rfl))
 simp only[qBZ,qDN,qJi,Tryz.f61,Option.getD_some]at back C ⊢;refine C.idle rfl rfl (fun _=>stepG_region_end) ?_;refine C.idle rfl rfl (fun _=>stepG_seq) ?_;refine C.idle rfl rfl (fun _=>stepG_region) ?_;simp only[List.size_toArray,List.length_cons,List.length_nil,Nat.reduceAdd,Nat.zero_add,List.range,List.range.loop];refine qEe C hk (some 18) (.tmp 5) rfl (.inl rfl) rfl rfl ?_;refine qEe C hk (some 19) (.tmp 6) rfl (.inl rfl) rfl rfl ?_;generalize hB:Act.put (Act.put A _ _) _ _=B;have b18:B.eval (.tmp 18)=.chan (some (c false)):=by rw[<-hB];simp[qAA,qAB,hA.size,hA.s5]
 have b19:B.eval (.tmp 19)=.chan (some (c true)):=by rw[<-hB];simp[qAA,qAB,hA.size,hA.s6]
 have bs:B.tmps.size=24:=by rw[<-hB];simp[qAB,hA.size]
 have bd:B.defers=[]:=by rw[<-hB];simp[qAM,hA.defers]
 have br:RelSlots al πF B:=by
  rw[<-hB];refine(hA.rel.put 18 (z:=.chan (some (c false))) ?_).put 19 (z:=.chan (some (c true))) ?_
  ·rw[hA.s5];exact .chan _
  ·simp[qAA,hA.s6];exact .chan _
 clear hB;have hb:Tryz.f91.body=some qFX:=rfl;refine C.idle rfl rfl (fun w1=>qMz hk rfl rfl rfl func91 rfl hb w1) ?_;have hw:=qW5 (c:=c) (Fin:=qNA al gl N0 πF w0 b k cs uF.heap.size (xs false++xs true)) (a:={ tmps:=#[.chan (some (c false)),.chan (some (c true))]++Array.replicate 35 undef,defers:=[] }) (rem:=fun b=>some (xs b)) S hxs (by simp) rfl (by simp[Act.eval,chB]) (by simp[Act.eval,chB]) V hlow;have:=hw (Go.Conc.base 91) [] (b.at B (.inRegion _ [2,3]::.code _::k)::cs) rfl (by simp[Go.Conc.base]) (fun e a' s' O' w' q=>by
  cases e with
  |ret=>exact back B a' s' O' w' q bs bd br
  |_=>exact q.elim)
 have hn:Tryz.f91.ntmps=37:=rfl;simp only[List.map_toArray,List.map_cons,List.map_nil,b18,b19,hn,List.size_toArray,List.length_cons,List.length_nil,Nat.reduceAdd,Nat.zero_add,Nat.reduceSub];exact this
end
section
variable{P:Program}{al alF:Cfg}{gl:Nat->Bool}
theorem Clean.re{v:World}{x:Value}(h:Clean v x)(T:Nat->Question->Nat)(d:Nat):Clean (v.re T d) x:=by
 induction h with
 |pointer h=>exact Clean.pointer (v:=v.re T d) h
 |slice h n c=>exact Clean.slice (v:=v.re T d) h n c
 |iface t _ ih=>exact .iface t ih
 |_=>constructor
theorem InView.give{N0:Nat}{E:Nat->Prop}{w0:World}{O:Nat->Prop}{π:Ren P.globals.size}{u w:World}(h:InView P al gl N0 E w0 O π u w):InView P al gl N0 (fun _=>False) w0 (fun r=>O r/\¬E r) π u w :=
 ⟨h.rel,fun r r' p=>(h.own r r' p).imp id fun x=>⟨x,id⟩,h.gls,fun r x=>h.ge r x.1,fun _ x=>x.elim,fun r x=>h.old r (.inr (x.elim False.elim id)),h.os⟩
theorem qTr{π:Ren P.globals.size}{vv w w5 w0 u:World}{E O:Nat->Prop}{π1:Ren P.globals.size}(hW:WRel (fun f=>al f=true) (fun r=>r<0) π vv w)(V:InView P alF gl w.heap.size E w0 O π1 u w5)(hold:∀r,r<w.heap.size->w5.heap[r]? = w.heap[r]?)(hos:qEz w5=qEz w){x x':Value}{l:List Int}(own:u.ownsRow vv.heap.size 3 1 x l.length (l.map (.int .i64)))(hx:VRel (fun f=>alF f=true) π1 x x')(hlow:∀r r',π1 r r'->r<vv.heap.size\/w.heap.size<=r') :
  ∃(π':Ren P.globals.size)(v':World)(y:Value),Grown π π' w/\WRel (fun f=>al f=true) (fun r=>r<0) π' (v'.re w5.tape w5.drawn) w5/\VRel (fun f=>al f=true) π' y x'/\v'.ownsRow vv.heap.size 3 1 y l.length (l.map (.int .i64))/\(∀r,r<vv.heap.size->v'.heap[r]? = vv.heap[r]?)/\vv.heap.size<=v'.heap.size/\v'.os=vv.os/\v'.output=vv.output:=by
 have hsz5:w.heap.size<=w5.heap.size:=by
  rcases Nat.eq_zero_or_pos w.heap.size with e|e
  ·omega
  ·have:=(V.old (w.heap.size-1) (.inr (by omega))).1;omega
 rcases own.2 with⟨rfl,hn⟩|⟨g,cap,cur,rfl,hg,hh,hcap,hmax,hcs,htake⟩
 ·refine⟨π,vv,.slice none 0 0,Grown.refl _ _,⟨rfl,rfl,?_,fun p=>⟨(hW.low p).1,Nat.lt_of_lt_of_le (hW.low p).2 hsz5⟩,fun p=>?_,fun r h=>absurd h (by omega),hW.gv,Nat.le_trans hW.gw hsz5,hW.dead⟩,?_,⟨own.1,.inl ⟨rfl,hn⟩⟩,fun _ _=>rfl,Nat.le_refl _,rfl,rfl⟩
  ·exact(congrArg Prod.fst hos).trans hW.os
  ·rw[hold _ (hW.low p).2];exact hW.obj p
  ·cases hx;exact .nilSlice _ _
 ·cases hx with
  | @slice _ b' h _ _ =>
   have hge:w.heap.size<=b'.block:=(hlow _ _ h.block).elim (fun q=>absurd q (by simp at q ⊢;omega)) id;obtain⟨c',hc',hrel⟩:∃c',w5.heap[b'.block]? = some (.cells c' 3 (0,0))/\VsRel (fun f=>alF f=true) π1 cur c':=by
    rcases V.rel.obj h.block with⟨c1,c',e1,f1,f',q1,q2,q3,q4,-⟩|⟨o,o',q1,-,q2,-⟩
    ·have q1:u.heap[g]? = some (.cells c1 e1 f1):=q1;rw[hh]at q1;cases q1;exact⟨c',by rw[q2,q4 (by simp;omega)],q3⟩
    ·have q1:u.heap[g]? = some o:=q1;rw[hh]at q1;cases q1;cases q2
   obtain⟨d,hd1,hd2,hd3⟩:=hrel.rows (Al':=fun f=>al f=true) (v:=default);have hnone:∀r s,¬(π1.rows default) r s:=fun r s p=>by
    obtain⟨-,c,e,f,hc⟩:=p;exact absurd hc (by simp[show(default:World).heap=#[] from rfl])
   have hlt5:b'.block<w5.heap.size:=(Array.getElem?_eq_some_iff.1 hc').1;have hnew:(vv.heap.size<P.globals.size↔b'.block<P.globals.size)/\∀x y,π x y->x≠vv.heap.size/\y≠b'.block:=by
    have h1:=hW.gv;have h2:=hW.gw;refine⟨by omega,fun x y p=>?_⟩;have:=hW.low p;omega
   have hle:Ren.le π (π.and vv.heap.size b'.block hnew):=fun _ _ p=>.inl p;refine⟨π.and vv.heap.size b'.block hnew,{ vv with heap:=vv.heap.push (.cells d 3 (0,0)) },.slice (some ⟨vv.heap.size,0,none⟩) l.length cap,⟨hle,fun r r' p=>p.imp id fun q=>by rw[q.2];exact hge⟩,⟨rfl,rfl,(congrArg Prod.fst hos).trans hW.os,fun{r r'} p=>?_,fun{r r'} p=>?_,fun r h=>absurd h (by omega),?_,Nat.le_trans hW.gw hsz5,⟨by show(vv.heap.push _)[deadN]? = _;rw[Array.getElem?_push,if_neg (by have:=(Array.getElem?_eq_some_iff.1 hW.dead.1).1;omega)];exact hW.dead.1,fun r r' p=>p.elim (hW.dead.2 r r') fun q=>by rw[q.1];have:=(Array.getElem?_eq_some_iff.1 hW.dead.1).1;omega⟩⟩,VRel.slice (π:=π.and vv.heap.size b'.block hnew) (a:=⟨vv.heap.size,0,none⟩) (b:=b') ⟨Or.inr ⟨rfl,rfl⟩,h.off,h.spot⟩ _ _,⟨own.1,.inr ⟨vv.heap.size,cap,d,rfl,Nat.le_refl _,?_,hcap,hmax,by rw[hd2];exact hcs,?_⟩⟩,fun r hr=>?_,?_,rfl,rfl⟩
   ·show r<(vv.heap.push _).size/\r'<w5.heap.size;rcases p with p|⟨rfl,rfl⟩
    ·have:=hW.low p;simp only[Array.size_push];omega
    ·simp only[Array.size_push];omega
   ·show(∃c c' e f f',(vv.heap.push _)[r]? = some (.cells c e f)/\_)\/∃o o',(vv.heap.push _)[r]? = some o/\_;rcases p with p|⟨rfl,rfl⟩
    ·have hl:=hW.low p;rw[Array.getElem?_push,if_neg (by omega),hold _ hl.2];rcases hW.obj p with⟨c1,c1',e1,f1,f1',q1,q2,q3,q4,q5⟩|⟨o,o',q1,q2,q3,q4⟩
     ·exact .inl ⟨c1,c1',e1,f1,f1',q1,q2,q3.mono hle,q4,q5⟩
     ·exact .inr ⟨o,o',q1,q2,q3.mono hle,q4⟩
    ·refine .inl ⟨d,c',3,(0,0),(0,0),by simp,hc',hd1.mono fun r s p=>absurd p (hnone r s),fun _=>rfl,fun q=>absurd q (by omega)⟩
   ·show P.globals.size<=(vv.heap.push _).size;have:=hW.gv;simp only[Array.size_push];omega
   ·show(vv.heap.push _)[vv.heap.size]? = _;simp
   ·rw[<-htake];apply List.ext_getElem?;intro i;rw[List.getElem?_take,List.getElem?_take];split
    ·rename_i hi;have hi':i<l.length:=by simpa using hi
     have hci:cur[i]? = some (.int .i64 l[i]):=by
      have:=congrArg (·[i]?) htake;simp only[List.getElem?_take,hi,if_true,List.getElem?_map,List.getElem?_eq_getElem hi',Option.map_some]at this;simpa using this
     have:=hd3 i _ hci (.int _ _);simp only[Array.getElem?_toList];rw[this,hci]
    ·rfl
   ·show(vv.heap.push _)[r]? = _;rw[Array.getElem?_push,if_neg (by omega)]
   ·show vv.heap.size<=(vv.heap.push _).size;simp
end
section
variable{al alF:Cfg}{gl:Nat->Bool}{Ends:Machine->Trace->Prop}{F:Fr0 prog}
theorem qUr{P:Program}{N0:Nat}{c idx:Bool->Nat}{Fin:qG1}{km:MKey}{pk:Bool}{ph:Bool->WPh}{mm:Bool->Nat}{gs:Array Goroutine}{w:World}{t:Trace}{q:Nat->Nat}(h:Inv P N0 c idx Fin km pk ph mm gs w t q){b:Bool}(hn:km.rem b=none):ph b=.left:=by
 have hw:=h.work b;cases hp:ph b with
 |left=>rfl
 |run k=>rw[hp,hn]at hw;cases hw.2.2.2
 |wait k x xs z=>rw[hp,hn]at hw;cases hw.2.2.2.2.2
theorem goA(hE:EndsCl prog Ends){N0:Nat}{c idx:Bool->Nat}{Fin Fin':qG1}{km:MKey}{pk:Bool}{ph:Bool->WPh}{mm:Bool->Nat}{gs:Array Goroutine}{w:World}{sl sl':Option (Nat×Nat)}{t:Trace}{q:Nat->Nat}{d:Nat}
  (hI:Inv prog N0 c idx Fin km pk ph mm gs w t q) (h0:gs[0]? = some km.g) (hst:stepT prog (crowd gs w sl)=runT prog (crowd gs (w.at d) sl') 0)
  {b:Frame} {A:Act} {ops:Array Oper} {rest:Code} {k:List Item} {cs:List Frame} (hg:km.g=G (b.at A (.inRegion ops [4]::.code rest::k)) cs) (hk:b.kind≠.early) {o:Oper} {t3 t4:Nat} {kk:Nat} (hkk:kk<2) {ats:Array TypeId} (ho:ops[4]? = some o) (hop:o.op=.go { callee:=.value (.func 90),args:=#[.tmp t3,.const (.int .i64 kk),.tmp t4],argTypes:=ats }) (hgd:o.guard=none) (hdst:o.dst=none)
  {x:Bool} (hrem:km.rem x=none) (hix:idx x=gs.size) {E E':Nat->Prop} {w0:World} {π:Ren prog.globals.size} {u:World} {fx:Value} {n:Nat} {mP:Nat->Bool} {tv:Value} {Fnd:Value->World->Prop} (S:Setup prog al gl (fun r=>r<N0)) (hF:Finder prog n mP tv Fnd) (a2:al 73=true) (a3:al 97=true)
  (V:InView prog al gl N0 E w0 km.O π u (w.at d)) (hfx:Fnd fx u) (hv:VRel (fun f=>al f=true) π fx (A.eval (.tmp t3))) (h4:A.eval (.tmp t4)=.chan (some (c x))) (hEx:E (c x)) (hE':∀r,E' r->E r/\r≠c x) (hch:w0.heap[c x]? = some (.chan 0 #[] false 0 0 false))
  (hM:MScr prog N0 c Fin' (upB km.rem x (some (qBl n mP n kk))) E' (G (b.at A (.inRegion ops []::.code rest::k)) cs) (w.at d))
  (hnext:∀gs' t' pk' ph' mm',gs'.size=gs.size+1->Inv prog N0 c idx Fin' ⟨upB km.rem x (some (qBl n mP n kk)),E',G (b.at A (.inRegion ops []::.code rest::k)) cs,w.at d⟩ pk' ph' mm' gs' (w.at d) t' q->Ends (crowd gs' (w.at d) sl') t'):Ends (crowd gs w sl) t:=by
 obtain⟨dd,hd1,⟨f,cc,hd2⟩,hd3,hd4⟩:=qRm (a:=A) hop;have hsp:∀w1,stepG prog true (G (b.at A (.inRegion ops [4]::.code rest::k)) cs) w1=.spawn (G (b.at A (.inRegion ops []::.code rest::k)) cs) (born prog dd) w1 #[]:=fun w1=>by
  rw[stepG_spawn ho (by simp[Region.wanted,hgd]) hk (hd1 w1) hd2,hdst,qHT,listed_none (hd3 w1)]
 have hrun:=runT_crowd_spawn (P:=prog) (sl:=sl') (i:=0) (w:=w.at d) (by rw[h0,hg]) (by rw[show((0:Nat)==0)=true from rfl];exact hsp (w.at d));refine hE _ _ _ _ (hst.trans hrun) ?_;have hS:WScr prog N0 (c x) (qBl n mP n kk) (fun r=>km.O r/\¬E r) (born prog dd) (w.at d):=by
  have C:=qKe (P:=prog) (N0:=N0) (c x);refine C.idle rfl rfl hd4 ?_;exact qW4 S hF a2 a3 hkk (by simp) rfl (by simpa [Act.eval]using h4) (by simp[Act.eval]) V.give hfx (by simpa [Act.eval]using hv)
 have hInv:=(hI.drew d).hire (b:=x) (qUr hI hrem) hrem hix (Fin':=Fin') (O':=E') (Ob:=fun r=>km.O r/\¬E r) (fun r h=>V.sub r (hE' r h).1) (fun r h=>h.1) (fun r h k=>k.2 (hE' r h).1) (V.sub _ hEx) (fun h=>(hE' _ h).2 rfl) (fun h=>h.2 hEx) ⟨0,0,by rw[(V.old _ (.inl hEx)).2];exact hch⟩ hS hM (b.at A (.inRegion ops [4]::.code rest::k)).fn (b.at A (.inRegion ops [4]::.code rest::k)).place (born prog dd).frame.fn;have:=hnext _ _ _ _ _ (by simp) hInv;exact this
def qVY(al:Cfg)(gl:Nat->Bool)(F:Fr0 prog)(Ends:Machine->Trace->Prop)(b:Frame)(k:List Item)(cs:List Frame)(v:World)(tot:List Int):Prop :=
 ∀(a':Act)(v':World)(x:Value)(l:List Int),a'.tmps.size=24->a'.defers=[]->a'.eval (.tmp 20)=x->l.Perm tot->v'.ownsRow v.heap.size 3 1 x l.length (l.map (.int .i64))->(∀r,r<v.heap.size->v'.heap[r]? = v.heap[r]?)->v.heap.size<=v'.heap.size->v'.os=v.os->v'.output=v.output ->
  KM prog al gl F Ends (G (b.at a' (.inRegion (qDN 4) [3]::.code (qBZ 5)::k)) cs) v'
theorem qTL(h:qA4 prog al gl true (qBZ 1)=true):qCR prog al gl true (.inRegion (qDN 4) [3])=true/\qCR prog al gl true (.code (qBZ 5))=true:=by
 have e:qBZ 1=.seq (.region 1 (qDN 1) true) (.seq (.region 2 (qDN 2) false) (.seq (.region 3 (qDN 3) false) (.seq (.region 4 (qDN 4) false) (qBZ 5)))):=rfl;rw[e]at h;simp only[qA4,Bool.and_eq_true]at h;exact⟨h.2.2.2.1,h.2.2.2.2⟩
theorem qVj{v w w5 w0 u:World}{T:Nat->Question->Nat}{d:Nat}{π π1:Ren prog.globals.size}{b:Frame}{a A:Act}{k k':List Item}{cs cs1:List Frame}{fr1:Frame}(hs:Stk prog al gl ⟨true,[]⟩ π (deadEnd prog) F.B (b.at a (.code (qBZ 1)::k)) cs fr1 cs1)(hk:TodoR prog al gl ⟨true,[]⟩ k k')(hok:qA4 prog al gl true (qBZ 1)=true)
  (hW:WRel (fun f=>al f=true) (fun r=>r<0) π (v.re T d) w) (hgl:∀x,gl x=true->π x x) (hfm:Frm F π w) {E O:Nat->Prop} (V:InView prog alF gl w.heap.size E w0 O π1 u w5) (hold:∀r,r<w.heap.size->w5.heap[r]? = w.heap[r]?) (hos:qEz w5=qEz w) {x:Value} {l tot:List Int} (own:u.ownsRow v.heap.size 3 1 x l.length (l.map (.int .i64))) (hx:VRel (fun f=>alF f=true) π1 x (A.eval (.tmp 20))) (hp:l.Perm tot) (hlow:∀r r',π1 r r'->r<v.heap.size\/w.heap.size<=r')
  (hsz:A.tmps.size=24) (hA:∀i,i≠20->∃z,VRel (fun f=>alF f=true) (π.rows (v.re T d)) z (A.eval (.tmp i))) (hAd:A.defers=[])
  (hnext:qVY al gl F Ends b k cs v tot):KL prog Ends (G (b.at A (.inRegion (qDN 4) [3]::.code (qBZ 5)::k')) cs1) w5:=by
 obtain⟨π',v',y,hgr,hW',hy,own',h1,h2,h3,h4⟩:=qTr (vv:=v.re T d) hW V hold hos own hx hlow;have hle:=hgr.le;have hz:∀i,∃z,VRel (fun f=>al f=true) π' z (A.eval (.tmp i))/\(i=20->z=y):=fun i=>by
  by_cases e:i=20
  ·subst e;exact⟨y,hy,fun _=>rfl⟩
  ·obtain⟨z,hz⟩:=hA i e;obtain⟨y',hy'⟩:=hz.lose (Al':=fun f=>al f=true) (π':=π');exact⟨y',hy',fun q=>absurd q e⟩
 have hF:=hs.top;obtain⟨av,h0,hav,h20⟩:∃av:Array Value,av.size=24/\(∀i (h:i<av.size),VRel (fun f=>al f=true) π' av[i] (A.eval (.tmp i)))/\av[20]? = some y:=by
  refine⟨Array.ofFn (n:=24) fun i=>(hz i).choose,Array.size_ofFn,fun i h=>?_,?_⟩
  ·rw[Array.getElem_ofFn];exact(hz i).choose_spec.1
  ·rw[Array.getElem?_ofFn,dif_pos (by decide)];exact congrArg some ((hz 20).choose_spec.2 rfl)
 refine hnext { tmps:=av,defers:=[] } v' y l h0 rfl ?_ hp own' h1 h2 h3 h4 w5.tape w5.drawn π' _ w5 ⟨?_,rfl,rfl,rfl,rfl,rfl,rfl⟩ hW' (fun x hx=>hle _ _ (hgl x hx)) ⟨?_,fun r' hr=>?_,Ren.le_trans hfm.le hle,fun r r' p=>?_,hos.trans hfm.oo⟩
 ·simp[Act.eval,Array.getD_eq_getD_getElem?,h20]
 ·refine(hs.mono hle).put ⟨rfl,⟨h0.trans hsz.symm,fun i i1 i2=>?_⟩,?_,rfl,hAd,.run,rfl,?_,rfl,rfl⟩
  ·have:=hav i i1;have hlt:i<A.tmps.size:=i2;have e:A.eval (.tmp i)=A.tmps[i]'hlt:=by simp[Act.eval,hlt]
   rw[e]at this;exact this
  ·obtain⟨q1,q2⟩:=qTL hok;exact TodoR.cons (st:=⟨true,[]⟩) q1 (TodoR.cons (st:=⟨true,[]⟩) q2 hk)
  ·exact hF.normal
 ·have hsz5:w.heap.size<=w5.heap.size:=by
   rcases Nat.eq_zero_or_pos w.heap.size with e|e
   ·omega
   ·have:=(V.old (w.heap.size-1) (.inr (by omega))).1;omega
  exact Nat.le_trans hfm.size hsz5
 ·rw[hold r' (Nat.lt_of_lt_of_le hr hfm.size)];exact hfm.same r' hr
 ·exact(hgr.new r r' p).elim (hfm.old r r') fun q=>.inr (Nat.le_trans hfm.size q)
theorem KM.all(hE:EndsCl prog Ends){v:World}{tv lv:Value}{n:Nat}{mP:Nat->Bool}{Fnd:Value->World->Prop}{LayF:World->Prop}(H:AllSpec al alF gl v tv lv n mP Fnd LayF){b:Frame}(hbk:b.kind≠.early){a:Act}{k:List Item}{cs:List Frame}(hsz:a.tmps.size=24)(h0:a.eval (.tmp 0)=tv)(h1:a.eval (.tmp 1)=lv)
  (hlen:(qBl n mP n 0++qBl n mP n 1).length<1099511627776) (hnext:qVY al gl F Ends b k cs v (qBl n mP n 0++qBl n mP n 1)):KM prog al gl F Ends (G (b.at a (.code (qBZ 1)::k)) cs) v:=by
 intro T d π g' w hG hW hgl hfm;obtain⟨fr1,cs1,sx1,dy1,of1⟩:=g';obtain⟨hs,y2,y3,y4,y5,y6,y7⟩:=hG;simp only at hs y3 y5 y6;subst y3 y5 y6;have hF:=hs.top;have hT:TodoR prog al gl ⟨true,[]⟩ (.code (qBZ 1)::k) fr1.todo:=hF.todo;have hrf:∀s,qBZ 1≠.refuse s:=fun s e=>by
  have e1:qBZ 1=.seq (.region 1 (qDN 1) true) (qBZ 2):=rfl;rw[e1]at e;cases e
 obtain⟨k',ht,hok,hk⟩:∃k',fr1.todo=.code (qBZ 1)::k'/\qA4 prog al gl true (qBZ 1)=true/\TodoR prog al gl ⟨true,[]⟩ k k':=by
  generalize fr1.todo=t at hT;generalize hz:(Item.code (qBZ 1)::k)=z at hT;cases hT with
  |nil=>cases hz
  |tail _ =>
   simp only[mark,List.cons.injEq,Item.code.injEq]at hz;exact absurd hz.1 (hrf _)
  |@cons x ok k1 k1' h =>
   simp only[List.cons.injEq]at hz;obtain⟨rfl,rfl⟩:=hz;exact⟨k1',rfl,ok,h⟩
 have hreal:=hF.real;rw[ht]at hreal;have htm:=hF.tmps;obtain⟨a1,ha1,hd1⟩:∃a1:Act,a1.tmps=fr1.tmps/\a1.defers=[]:=⟨⟨fr1.tmps,[]⟩,rfl,rfl⟩;have hfr:fr1=b.at a1 (.code (qBZ 1)::k'):=by
  rw[hreal];obtain⟨x,y⟩:=a1;simp only at ha1 hd1;subst ha1 hd1;rfl
 rw[<-ha1]at htm;have hslot:∀i,∃z,VRel (fun f=>al f=true) π z (a1.eval (.tmp i))/\z=a.eval (.tmp i):=fun i=>by
  rcases htm.get? i with⟨q1,q2⟩|⟨z,z',q1,q2,hz⟩
  ·refine⟨undef,?_,?_⟩
   ·simp only[Act.eval,Array.getD_eq_getD_getElem?,q2];exact qCP _ _
   ·have q1:a.tmps[i]? = none:=q1;simp only[Act.eval,Array.getD_eq_getD_getElem?,q1];rfl
  ·refine⟨z,?_,?_⟩
   ·simp only[Act.eval,Array.getD_eq_getD_getElem?,q2];exact hz
   ·have q1:a.tmps[i]? = some z:=q1;simp only[Act.eval,Array.getD_eq_getD_getElem?,q1];rfl
 have hsz1:a1.tmps.size=24:=htm.size.symm.trans hsz;have pick:∀i x,a.eval (.tmp i)=x->Clean v x->VRel (fun f=>alF f=true) (π.rows (v.re T d)) x (a1.eval (.tmp i)):=fun i x e hc=>by
  obtain⟨z,hz,rfl⟩:=hslot i;obtain⟨y,hy,he⟩:=hz.rows (Al':=fun f=>alF f=true) (v:=v.re T d);rw[e]at he;rw[he (hc.re T d)]at hy;exact hy
 have ht':=pick 0 tv h0 H.ct;have hl':=pick 1 lv h1 H.cl;have hrel1:RelSlots alF (π.rows (v.re T d)) a1:=fun i=>by
  obtain⟨z,hz,-⟩:=hslot i;exact hz.lose
 have S:=H.setup w.heap.size;have main:KLA prog Ends (G (b.at a1 (.code (qBZ 1)::k')) cs1) w:=by
  refine qVt hE hbk hsz1 fun A w2 c hM=>?_;intro d2 gs sl t q hg0 hL hP;have hsz2:(w2.at d2).heap.size=w.heap.size+2:=by
   show w2.heap.size=_;rw[hM.heap];simp
  have hold2:∀r,r<w.heap.size->(w2.at d2).heap[r]? = w.heap[r]?:=fun r hr=>by
   show w2.heap[r]? = _;rw[hM.heap,Array.getElem?_push,if_neg (by simp;omega),Array.getElem?_push,if_neg (by omega)]
  have hc:∀x,w.heap.size<=c x/\c x<w.heap.size+2:=fun x=>by have:=hM.at' x;omega
  have hch:∀x,(w2.at d2).heap[c x]? = some (.chan 0 #[] false 0 0 false):=fun x=>by
   show w2.heap[c x]? = _;rw[hM.heap,Array.getElem?_push];rcases hM.at' x with e|e
   ·rw[e,if_neg (by simp),Array.getElem?_push,if_pos rfl]
   ·rw[e,if_pos (by simp)]
  have hos2:qEz (w2.at d2)=qEz w:=hM.os;have hgs:0<gs.size:=qCf hg0;obtain⟨idx,hi0,hi1⟩:∃idx:Bool->Nat,idx false=gs.size/\idx true=gs.size+1:=⟨fun x=>if x then gs.size+1 else gs.size,rfl,rfl⟩;have hAA:AA alF (π.rows (v.re T d)) c (a1.eval (.tmp 0)) (a1.eval (.tmp 1)) A:=by
   refine⟨hM.size,hM.defers.trans hd1,hM.rest 0 (by decide) (by decide) (by decide) (by decide),hM.rest 1 (by decide) (by decide) (by decide) (by decide),hM.s5,hM.s6,hrel1.of fun i=>?_⟩;by_cases i1:i=5
   ·subst i1;exact .inr ⟨_,by rw[hM.s5];exact .chan _⟩
   by_cases i2:i=6
   ·subst i2;exact .inr ⟨_,by rw[hM.s6];exact .chan _⟩
   by_cases i3:i=8
   ·subst i3;exact .inr ⟨_,by rw[hM.s8];exact .chan _⟩
   by_cases i4:i=9
   ·subst i4;exact .inr ⟨_,by rw[hM.s9];exact .chan _⟩
   ·exact .inl (hM.rest i i1 i2 i3 i4)
  have hlayF:=H.lay T d π w hW;have hnew:∀T',Calls prog 89 #[tv,lv] ((fz (fun f=>alF f=true) π (v.re T d) w).re T' 0) fun e u'=>∃x,e=.returned x/\Fnd x u':=fun T'=>H.new _ (H.layre _ _ _ hlayF);have view:∀(E:Nat->Prop)(w':World),(∀r,E r->∃x,r=c x)->(∀r,E r\/r<w.heap.size->r<w'.heap.size/\w'.heap[r]? = (w2.at d2).heap[r]?)->qEz w'=qEz (w2.at d2)->InView prog alF gl w.heap.size E (w2.at d2) E (π.rows (v.re T d)) (fz (fun f=>alF f=true) π (v.re T d) w) w':=by
   intro E w' hEc hE2 hos';have hle:w.heap.size<=w'.heap.size:=by
    rcases Nat.eq_zero_or_pos w.heap.size with e|e
    ·omega
    ·have:=(hE2 (w.heap.size-1) (.inr (by omega))).1;omega
   exact qW3 hW hgl (fun x hx=>H.rows x hx) hle (fun r hr=>(hE2 r (.inr hr)).2.trans (hold2 r hr)) (hos'.trans hos2) (fun r hr=>by obtain⟨x,rfl⟩:=hEc r hr;exact(hc x).1) (fun _ h=>h) hE2 hos'
  have V1:=view (fun r=>r=c false\/r=c true) (w2.at d2) (fun r hr=>hr.elim (fun e=>⟨_,e⟩) fun e=>⟨_,e⟩) (fun r hr=>⟨by
   rw[hsz2];rcases hr with(rfl|rfl)|hr
   ·exact(hc false).2
   ·exact(hc true).2
   ·omega,rfl⟩) rfl
  have M1:=qVJ (b:=b) (k:=k') (cs:=cs1) (rem:=fun _=>none) (c:=c) S hbk H.fin.re H.a1 hnew ht' hl' hAA V1;have I1:=Inv.base (idx:=idx) hL hP hg0 (fun r hr=>⟨V1.ge r hr,by
   rw[hsz2];rcases hr with rfl|rfl
   ·exact(hc false).2
   ·exact(hc true).2⟩) (by rw[hsz2];omega) M1 hM.ne (fun x=>by cases x<;>omega) (by omega) (fun _=>0)
  refine I1.then hE sl fun km pk ph mm gs1 w3 sl1 t1 q1 hs1 hg1 hI hFin ⟨d3,sl3,hst⟩=>?_;obtain⟨hrem,A1,x1,π1,u1,hgA,hAA1,VV1,hx1,hv1,h13⟩:=hFin d3;have V2:=view (fun r=>r=c true) (w3.at d3) (fun r hr=>⟨_,hr⟩) (fun r hr=>VV1.old r (hr.imp .inr id)) VV1.os;have M2:=qVK (b:=b) (k:=k') (cs:=cs1) (rem:=upB (fun _=>none) false (some (qBl n mP n 0))) (c:=c) S hbk H.fin.re H.a1 hnew ht' hl' hAA1 V2;refine goA hE hI hg1 hst hgA hbk (kk:=0) (by decide) (x:=false) rfl rfl rfl rfl (by rw[hrem]) (by rw[hi0,hs1]) S H.fin H.a2 H.a3 VV1 hx1 hv1 h13 (.inl rfl) (E':=fun r=>r=c true) (fun r hr=>⟨.inr hr,fun e=>hM.ne (e.symm.trans hr)⟩) (hch false) (by rw[hrem];exact M2) ?_;intro gs2 t2 pk2 ph2 mm2 hs2 I2;refine I2.then hE sl3 fun km pk ph mm gs3 w4 sl4 t3 q3 hs3 hg3 hI hFin ⟨d4,sl5,hst⟩=>?_;obtain⟨hrem2,A2,x2,π2,u2,hgA2,hAA2,VV2,hx2,hv2,h17⟩:=hFin d4;have V3:=view (fun _=>False) (w4.at d4) (fun r hr=>hr.elim) (fun r hr=>VV2.old r (.inr (hr.elim False.elim id))) VV2.os;have M3:=qVL (b:=b) (k:=k') (cs:=cs1) (c:=c) (xs:=fun x=>if x then qBl n mP n 1 else qBl n mP n 0) S hbk (by simpa using hlen) hAA2 V3 (fun r r' p=>.inl (by rw[qJ0];exact(hW.low p.1).1));have hrem3:(fun x:Bool=>some (if x then qBl n mP n 1 else qBl n mP n 0))=upB km.rem true (some (qBl n mP n 1)):=by
   rw[hrem2];funext x;cases x<;>rfl
  rw[hrem3]at M3;refine goA hE hI hg3 hst hgA2 hbk (kk:=1) (by decide) (x:=true) rfl rfl rfl rfl (by rw[hrem2];rfl) (by rw[hi1,hs3,hs2,hs1]) S H.fin H.a2 H.a3 VV2 hx2 hv2 h17 rfl (E':=fun _=>False) (fun r hr=>hr.elim) (hch true) M3 ?_;intro gs4 t4 pk4 ph4 mm4 hs4 I3;refine I3.then hE sl5 fun km pk ph mm gs5 w5 sl6 t5 q5 hs5 hg5 hI hFin _=>?_;obtain⟨hnone,A3,π3,u3,x3,l3,hgA3,hA3s,hA3d,hA3,VV3,own3,hx3,hp3,hlow3⟩:=hFin w5.drawn;obtain⟨hL5,hP5⟩:=hI.leavers hnone;have VV3:InView prog alF gl w.heap.size (fun _=>False) (w2.at d2) km.O π3 u3 w5:=VV3;rw[qJ0]at own3 hlow3;have hKL:=qVj hs hk hok hW hgl hfm VV3 (fun r hr=>(VV3.old r (.inr hr)).2.trans (hold2 r hr)) (VV3.os.trans hos2) own3 hx3 hp3 hlow3 hA3s hA3 hA3d hnext;exact hKL gs5 sl6 t5 q5 (by rw[hg5,hgA3]) hL5 hP5
 rw[show(Goroutine.mk fr1 cs1 .running none none)=G (b.at a1 (.code (qBZ 1)::k')) cs1 from by rw[hfr];rfl];exact main w.drawn
end
def qDv(n:Nat)(mP:Nat->Bool):List Int:=((List.range n).filter mP).map fun(k:Nat)=>(k:Int)
theorem qDW(n:Nat)(mP:Nat->Bool):∀(f k:Nat)(x:Int),x∈qBl n mP f k↔∃j:Nat,x=j/\k<=j/\j<n/\j<k+2*f/\(j-k)%2=0/\mP j=true
 |0,k,x=>by
  simp only[qBl,List.not_mem_nil,false_iff];rintro⟨j,-,h1,-,h2,-⟩;omega
 | f + 1, k, x => by
  unfold qBl;by_cases hk:k<n
  ·simp only[hk,if_true,List.mem_append,qDW n mP f (k+2)];constructor
   ·rintro(h|⟨j,rfl,h1,h2,h3,h4,h5⟩)
    ·cases hm:mP k with
     |false=>rw[hm]at h;simp at h
     |true =>
      rw[hm]at h;simp only[if_true,List.mem_singleton]at h;exact⟨k,h,Nat.le_refl _,hk,by omega,by simp,hm⟩
    ·exact⟨j,rfl,by omega,h2,by omega,by omega,h5⟩
   ·rintro⟨j,rfl,h1,h2,h3,h4,h5⟩;by_cases e:j=k
    ·subst e;left;rw[h5];simp
    ·exact .inr ⟨j,rfl,by omega,h2,by omega,by omega,h5⟩
  ·simp only[hk,if_false,List.not_mem_nil,false_iff];rintro⟨j,-,h1,h2,-⟩;omega
theorem qFH(n:Nat)(mP:Nat->Bool):∀(f k:Nat),(qBl n mP f k).Pairwise (·<·)
 |0,k=>by simp[qBl]
 | f + 1, k => by
  unfold qBl;split
  ·rw[List.pairwise_append];refine⟨by split<;>simp,qFH n mP f (k+2),fun a ha b hb=>?_⟩;obtain⟨j,rfl,h1,-⟩:=(qDW n mP f (k+2) b).1 hb;split at ha
   ·simp only[List.mem_singleton]at ha;subst ha;omega
   ·simp at ha
  ·simp
theorem qDM{l:List Int}(h:l.Pairwise (·<·)):l.Nodup:=h.imp fun h e=>by omega
theorem qGo(n:Nat)(mP:Nat->Bool):(qDv n mP).Pairwise (·<·):=by
 unfold qDv;rw[List.pairwise_map];refine(List.pairwise_lt_range.filter mP).imp fun h=>?_;omega
theorem qOz{n:Nat}{mP:Nat->Bool}{x:Int}:x∈qDv n mP↔∃j:Nat,x=j/\j<n/\mP j=true:=by
 unfold qDv;simp only[List.mem_map,List.mem_filter,List.mem_range];constructor
 ·rintro⟨j,⟨h1,h2⟩,rfl⟩;exact⟨j,rfl,h1,h2⟩
 ·rintro⟨j,rfl,h1,h2⟩;exact⟨j,⟨h1,h2⟩,rfl⟩
theorem qLz(n:Nat)(mP:Nat->Bool):(qBl n mP n 0++qBl n mP n 1).Perm (qDv n mP):=by
 rw[List.perm_ext_iff_of_nodup]
 ·intro x;rw[List.mem_append,qDW,qDW,qOz];constructor
  ·rintro(⟨j,rfl,h1,h2,-,-,h3⟩|⟨j,rfl,h1,h2,-,-,h3⟩)<;>exact⟨j,rfl,h2,h3⟩
  ·rintro⟨j,rfl,h1,h2⟩;rcases (by omega:j%2=0\/j%2=1)with e|e
   ·exact .inl ⟨j,rfl,by omega,h1,by omega,by omega,h2⟩
   ·exact .inr ⟨j,rfl,by omega,h1,by omega,by omega,h2⟩
 ·rw[List.nodup_append];refine⟨qDM (qFH ..),qDM (qFH ..),fun a ha b hb e=>?_⟩;obtain⟨j,rfl,-,-,-,h1,-⟩:=(qDW ..).1 ha;obtain⟨i,e2,h3,-,-,h4,-⟩:=(qDW ..).1 hb;omega
 ·exact qDM (qGo ..)
theorem qL2{n:Nat}{mP:Nat->Bool}{l:List Int}(h:l.Perm (qBl n mP n 0++qBl n mP n 1)):(l.mergeSort fun x y=>decide (x<=y))=qDv n mP:=by
 refine List.Perm.eq_of_pairwise (le:=fun a b=>a<=b) (fun a b _ _ h1 h2=>by omega) ?_ ?_ ((List.mergeSort_perm l _).trans (h.trans (qLz n mP)))
 ·refine(List.pairwise_mergeSort (le:=fun x y:Int=>decide (x<=y)) (fun a b c h1 h2=>?_) (fun a b=>?_) l).imp fun h=>by simpa using h
  ·simp only[decide_eq_true_eq]at *;omega
  ·simp only[Bool.or_eq_true,decide_eq_true_eq];omega
 ·exact(qGo n mP).imp fun h=>by omega
theorem qI7(n:Nat)(mP:Nat->Bool):(qDv n mP).length<=n:=by
 unfold qDv;rw[List.length_map];refine Nat.le_trans (List.length_filter_le _ _) ?_;simp
def qTy(v:World)(base:Nat)(x:Value)(L:List Int):Prop :=
 (L=[]/\∃p cap,x=.slice p 0 cap)\/∃g cap,x=.slice (some ⟨g,0,none⟩) L.length cap/\base<=g/\∀j (h:j<L.length),v.cell? ⟨g,j,none⟩=some (.int .i64 L[j])
structure AllPost(v:World)(L:List Int)(x:Value)(v1:World):Prop where
 row:qTy v1 v.heap.size x L
 old:∀r,r<v.heap.size->v1.heap[r]? = v.heap[r]?
 size:v.heap.size<=v1.heap.size
 os:v1.os=v.os
 output:v1.output=v.output
theorem AllPost.re{v v1:World}{L:List Int}{x:Value}(h:AllPost v L x v1)(T:Nat->Question->Nat)(d:Nat):AllPost v L x (v1.re T d):=⟨h.row,h.old,h.size,h.os,h.output⟩
theorem qTg(v v':World)(x:Value)(l:List Int)(hl:l.length<4611686018427387904)(own:v'.ownsRow v.heap.size 3 1 x l.length (l.map (.int .i64)))(hold:∀r,r<v.heap.size->v'.heap[r]? = v.heap[r]?)(hsz:v.heap.size<=v'.heap.size)(hos:v'.os=v.os)(hout:v'.output=v.output) :
  Calls prog 92 #[x] v' fun e w'=>∃y,e=.returned y/\AllPost v (l.mergeSort fun x y=>decide (x<=y)) x w':=by
 rcases own.2 with⟨rfl,h0⟩|⟨g,cap,cur,rfl,hg,hh,hcap,hmax,hcs,htake⟩
 ·have:l=[]:=List.eq_nil_of_length_eq_zero h0;subst this;refine(Tryz.slices_Sort_int_none none 0 v').mono ?_;rintro e w'⟨rfl,rfl⟩;exact⟨_,rfl,.inl ⟨by simp,none,0,rfl⟩,hold,hsz,hos,hout⟩
 ·have hlen:(l.mergeSort fun x y=>decide (x<=y)).length=l.length:=(List.mergeSort_perm l _).length_eq;have hcell:∀j (h:j<l.length),v'.cell? ⟨g,j,none⟩=some (.int .i64 l[j]):=fun j hj=>by
   have:=congrArg (·[j]?) htake;simp only[List.getElem?_take,show j<l.length*1 by omega,if_true,List.getElem?_map,List.getElem?_eq_getElem hj,Option.map_some]at this;simp only[World.cell?,hh];simpa using this
  have hH:Go.Sort.Holds (Value.int .i64) v' g 0 l.toArray:=fun j hj=>by
   have hj:j<l.length:=by simpa using hj
   refine⟨?_,?_⟩
   ·rw[Nat.zero_add,hcell j hj];simp[hj]
   ·simp[World.frozen?,hh]
  refine(Tryz.slices_Sort_int g 0 cap l v' hH (Array.getElem?_eq_some_iff.1 hh).1 hl).mono ?_;rintro e w'⟨rfl,n,os,rfl⟩;have hput:∀r,r≠g->r<v'.heap.size->(Go.Sort.grow (Go.Sort.putRow (Value.int .i64) (Go.Sort.ahead v' n) g 0 (l.mergeSort fun x y=>decide (x<=y)).toArray) os).heap[r]? = v'.heap[r]?:=fun r hr hlt=>by
   show((Array.modify v'.heap g _)++os)[r]? = _;rw[Array.getElem?_append,if_pos (by simpa using hlt),Array.getElem?_modify,if_neg (Ne.symm hr)]
  refine⟨_,rfl,.inr ⟨g,cap,by rw[hlen],hg,fun j hj=>?_⟩,fun r hr=>?_,?_,hos,hout⟩
  ·have hj':j<l.length:=by rw[<-hlen];exact hj
   have:=Go.Sort.cell?_putRow (Value.int .i64) (Go.Sort.ahead v' n) g 0 l.toArray (l.mergeSort fun x y=>decide (x<=y)).toArray hH (by simp[hlen]) j (by simpa using hj);rw[Nat.zero_add]at this;have hlt:g<v'.heap.size:=(Array.getElem?_eq_some_iff.1 hh).1;have e:(Go.Sort.grow (Go.Sort.putRow (Value.int .i64) (Go.Sort.ahead v' n) g 0 (l.mergeSort fun x y=>decide (x<=y)).toArray) os).cell? ⟨g,j,none⟩=(Go.Sort.putRow (Value.int .i64) (Go.Sort.ahead v' n) g 0 (l.mergeSort fun x y=>decide (x<=y)).toArray).cell? ⟨g,j,none⟩:=by
    unfold World.cell?;have:(Go.Sort.grow (Go.Sort.putRow (Value.int .i64) (Go.Sort.ahead v' n) g 0 (l.mergeSort fun x y=>decide (x<=y)).toArray) os).heap[g]? = (Go.Sort.putRow (Value.int .i64) (Go.Sort.ahead v' n) g 0 (l.mergeSort fun x y=>decide (x<=y)).toArray).heap[g]?:=by
     show((Array.modify v'.heap g _)++os)[g]? = (Array.modify v'.heap g _)[g]?;rw[Array.getElem?_append,if_pos (by simpa using hlt)]
    simp only[this]
   rw[e,this];simp only[List.getElem!_toArray];rw[getElem!_pos (l.mergeSort fun x y=>decide (x<=y)) j hj]
  ·rw[hput r (by omega) (by omega)];exact hold r hr
  ·show v.heap.size<=((Array.modify v'.heap g _)++os).size;simp only[Array.size_append,Array.size_modify];omega
section
variable{al alF:Cfg}{gl:Nat->Bool}{Ends:Machine->Trace->Prop}
theorem qAb{P:Program}{F:Fr0 P}{Q:Exit->Act->World->Prop}{a:Act}{v:World}(S:Setup P al gl (fun r=>r<0))(hE:EndsCl P Ends){ops:Array Oper}{i:Nat}{rest:List Nat}{o:Oper}(d:Option Nat)(x:Operand)(ho:ops[i]? = some o)(hop:o.op=.move x\/o.op=.assign x)(hg:o.guard=none)(hd:o.dst=d)(h:qFp P al gl F Ends ops rest Q (a.put d (a.eval x)) v):qFp P al gl F Ends ops (i::rest) Q a v:=by
 subst hd;refine qCY S hE ho (by rcases hop with hop|hop<;>rw[hop]<;>rfl) (by simp[Region.wanted,hg]) fun T d=>⟨a.eval x,v.re T d,?_,?_⟩
 ·unfold execOp;rcases hop with hop|hop<;>rw[hop]<;>rfl
 ·exact fun b k cs hb hc T' d'=>h b k cs hb hc T' d'
theorem qUW{F:Fr0 prog}(S:Setup prog al gl (fun r=>r<0))(hE:EndsCl prog Ends){v:World}{tv lv:Value}{n:Nat}{mP:Nat->Bool}{Fnd:Value->World->Prop}{LayF:World->Prop}(H:AllSpec al alF gl v tv lv n mP Fnd LayF)(hal:al 92=true)(hn:n<549755813888){R:Value->World->Prop}(hR:∀x v1,AllPost v (qDv n mP) x v1->R x v1){a:Act}(hsz:a.tmps.size=24)(h0:a.eval (.tmp 0)=tv)(h1:a.eval (.tmp 1)=lv){fd:Func}(hres:∀(B:Act) w,(results fd B.tmps).run prog w=.ok (B.eval (.tmp 4)) w) :
  wpV prog al gl F Ends qJi (qWA prog fd R) a v:=by
 have hlen:(qBl n mP n 0++qBl n mP n 1).length<=n:=by
  rw[(qLz n mP).length_eq];exact qI7 n mP
 obtain⟨o0,hb,g1,g2,g3⟩:∃o0:Oper,qJi=.seq (.region 0 #[o0] false) (qBZ 1)/\o0.op=.assign (.const (.slice none 0 0))/\o0.guard=none/\o0.dst=some 4:=⟨_,rfl,rfl,rfl,rfl⟩;rw[hb];refine qAz S hE (qAx S hE ?_);refine qAb S hE (some 4) (.const (.slice none 0 0)) rfl (.inr g1) g2 g3 ?_;refine qBH S hE ?_;intro b k cs hbk hc;refine KM.all hE H hbk (by simp[qAB,hsz]) (by simp[qAA,h0]) (by simp[qAA,h1]) (by omega) ?_;intro a' v' x l hs' hd' h20 hp own hold hsz' hos hout;have hll:l.length<4611686018427387904:=by rw[hp.length_eq];omega
 have h5:∀(A:Act),A.tmps.size=24->A.defers=[]->A.eval (.tmp 7)=x->wpV prog al gl F Ends (qBZ 5) (qWA prog fd R) A v':=by
  intro A hA1 hA2 hA7;simp only[qBZ,qJi,Tryz.f61,Option.getD_some];refine qAz S hE (qAx S hE ?_);simp only[List.size_toArray,List.length_cons,List.length_nil,Nat.reduceAdd,Nat.zero_add,List.range,List.range.loop];refine qAb S hE (some 21) (.tmp 7) rfl (.inl rfl) rfl rfl ?_;refine qEH S hE (Post:=fun _ w'=>AllPost v (l.mergeSort fun x y=>decide (x<=y)) x w') rfl rfl rfl hal func92 rfl rfl (fun _ w T d h=>h.re T d) (fun T=>?_) ?_
  ·have:=qTg v (v'.re T 0) x l hll own hold hsz' hos hout;simp only[List.map_toArray,List.map_cons,List.map_nil,qAA,hA1,hA7];exact this
  intro y v1 hy;refine qBH S hE ?_;generalize hB:Act.put (Act.put A _ _) _ y=B;have b1:B.tmps.size=24:=by rw[<-hB];simp[qAB,hA1]
  have b2:B.defers=[]:=by rw[<-hB];simp[qAM,hA2]
  have b7:B.eval (.tmp 7)=x:=by rw[<-hB,show Oper.dst _=some 22 from rfl];simp[qAA,hA7]
  clear hB;refine qAz S hE (qAx S hE ?_);simp only[List.size_toArray,List.length_cons,List.length_nil,Nat.reduceAdd,Nat.zero_add,List.range,List.range.loop];refine qAb S hE (some 23) (.tmp 7) rfl (.inl rfl) rfl rfl ?_;refine qAb S hE (some 4) (.tmp 23) rfl (.inr rfl) rfl rfl ?_;refine qBH S hE ?_;have e4:Act.eval (Act.put (Act.put B (some 23) (B.eval (.tmp 7))) (some 4) (Act.eval (Act.put B (some 23) (B.eval (.tmp 7))) (.tmp 23))) (.tmp 4)=x:=by simp[qAA,qAB,b1,b7]
  refine qR5 S hE ⟨by simp[qAM,b2],x,fun T d=>?_,hR x v1 ?_⟩
  ·rw[hres,e4]
  ·rw[<-qL2 hp];exact hy
 refine(?_:qFp prog al gl F Ends (qDN 4) [3] (fun e a v=>e=.normal/\wpV prog al gl F Ends (qBZ 5) (qWA prog fd R) a v) a' v') b (.code (qBZ 5)::k) cs hbk (fun e a v ⟨he,h⟩=>by subst he;exact h b k cs hbk hc);refine qAb S hE (some 7) (.tmp 20) rfl (.inr rfl) rfl rfl ?_;exact qBH S hE ⟨rfl,h5 _ (by simp[qAB,hs']) (by simp[qAM,hd']) (by simp[qAA,hs',h20])⟩
theorem qXV(B:Act)(w:World):(results Tryz.f61 B.tmps).run prog w=.ok (B.eval (.tmp 4)) w:=results_tmp (t:=4) rfl _ _ _
end
