/-
  Parts of the proof: JH.
-/
import Derived.Test.YtclpcnignheijaaGreatDoorQ30
import Derived.Conc.LeavingOf
namespace Go.Proofs.YtclpcnignheijaaGreatDoor.Num
open Go.RowKit Go.Conc Go.Proofs.Tryz
def plainB:Value->Bool
 |.bool _|.int _ _|.string _=>true
 |_=>false
section
variable{G:Nat}{Al:FuncId->Prop}{π:Ren G}
theorem qJE{x:Value}(h:plainB x=true):VRel Al π x x:=by
 cases x with
 |bool b=>exact .bool b
 |int k n=>exact .int k n
 |string s=>exact .string s
 |_=>cases h
theorem qTE{x x':Value}(h:VRel Al π x x')(hx:plainB x=true):x'=x:=by
 cases h with
 |bool b=>rfl
 |int k n=>rfl
 |string s=>rfl
 |_=>cases hx
end
structure Start(W:World):Prop where
 gl:Gl W
 glf:GlF W
 rows:∀x,glP x=true->∃c e f,W.heap[x]? = some (.cells c e f)/\∀(i:Nat) y,c[i]? = some y->plainB y=true
theorem Start.size{W:World}(S:Start W):9<W.heap.size:=by
 obtain⟨c,e,f,h,-⟩:=S.rows 9 rfl;exact(Array.getElem?_eq_some_iff.1 h).1
theorem globals9:prog.globals.size=9:=by kernel_rfl
def qWW:Ren prog.globals.size:=⟨fun r s=>r=s/\glP r=true,fun h=>by rw[h.1],fun h k=>by rw[h.1,k.1]⟩
def fr0(W:World):Fr0 prog:=⟨W,qWW,[]⟩
def qDA(W:World):World:={ W with heap:=W.heap.setIfInBounds deadN qK9 }
theorem qNP{x:Nat}(h:glP x=true):x≠deadN:=by rintro rfl;cases h
theorem qFM{W:World}{x:Nat}(h:x≠deadN):(qDA W).heap[x]? = W.heap[x]?:=by
 show(W.heap.setIfInBounds deadN qK9)[x]? = _;rw[Array.getElem?_setIfInBounds_ne (Ne.symm h)]
theorem qTj{W:World}(S:Start W):VG (qDA W):=by
 refine⟨?_,⟨?_,?_⟩,fun x hx=>?_⟩
 ·obtain⟨t,fr,h⟩:=S.gl;exact⟨t,fr,by rw[qFM (by decide)];exact h⟩
 ·obtain⟨⟨t,fr,h⟩,-⟩:=S.glf;exact⟨t,fr,by rw[qFM (by decide)];exact h⟩
 ·obtain⟨-,m,h⟩:=S.glf;exact⟨m,by rw[World.cell?_of_block (w:=W) (qFM (by decide))];exact h⟩
 ·obtain⟨c,e,f,h,-⟩:=S.rows x hx;exact⟨c,e,f,by rw[qFM (qNP hx)];exact h⟩
theorem qRp{W:World}(S:Start W):WRel (fun f=>alM f=true) (fun r=>r<0) qWW ((qDA W).re W.tape W.drawn) W:=by
 have hsz:(qDA W).heap.size=W.heap.size:=by simp[qDA]
 refine⟨rfl,rfl,rfl,fun{r r'} p=>?_,fun{r r'} p=>?_,fun r h=>absurd h (by omega),?_,?_,?_,fun r r' p=>qNP p.2⟩
 ·obtain⟨rfl,hp⟩:=p;obtain⟨c,e,f,h,-⟩:=S.rows r hp;have:=(Array.getElem?_eq_some_iff.1 h).1;exact⟨by show r<(qDA W).heap.size;omega,this⟩
 ·obtain⟨rfl,hp⟩:=p;obtain⟨c,e,f,h,hc⟩:=S.rows r hp;refine .inl ⟨c,c,e,f,f,by show(qDA W).heap[r]? = _;rw[qFM (qNP hp)];exact h,h,⟨rfl,fun i h1 h2=>qJE (hc i _ (Array.getElem?_eq_getElem h1))⟩,fun _=>rfl,fun q=>absurd q (by omega)⟩
 ·show _<=(qDA W).heap.size;rw[globals9,hsz];have:=S.size;omega
 ·rw[globals9];have:=S.size;omega
 ·show(W.heap.setIfInBounds deadN qK9)[deadN]? = _;rw[Array.getElem?_setIfInBounds_self_of_lt];have:=S.size;show 4<_;omega
theorem qRo(W:World):Frm (fr0 W) qWW W:=⟨Nat.le_refl _,fun _ _=>.inl rfl,Ren.le_refl _,fun _ _ p=>.inl p,rfl⟩
theorem qSo{W v w:World}{π:Ren prog.globals.size}{T:Nat->Question->Nat}{d:Nat}(S:Start W)(ho:Old (qDA W) v)(hW:WRel (fun f=>alM f=true) (fun r=>r<0) π (v.re T d) w)(hf:Frm (fr0 W) π w)(r:Nat)(hr:r<W.heap.size):w.heap[r]? = W.heap[r]?:=by
 rcases hf.same r hr with e|⟨s,rfl,hp⟩
 ·exact e
 ·obtain⟨c,e,f,h,hc⟩:=S.rows s hp;have hsz:(qDA W).heap.size=W.heap.size:=by simp[qDA]
  have hv:v.heap[s]? = some (.cells c e f):=by
   rw[ho.block s (by rw[hsz];exact hr),qFM (qNP hp)];exact h
  rw[h];rcases hW.obj (hf.le s s ⟨rfl,hp⟩)with⟨c1,c',e1,f1,f',q1,q2,q3,q4,-⟩|⟨o,o',q1,-,q2,-⟩
  ·have q1:v.heap[s]? = some (.cells c1 e1 f1):=q1;rw[hv]at q1;cases q1;have hcc:c'=c:=by
    apply Array.ext
    ·exact q3.size.symm
    ·intro i h1 h2;exact qTE (q3.get i h2 h1) (hc i _ (Array.getElem?_eq_getElem h2))
   rw[q2,hcc,q4 (by omega)]
  ·have q1:v.heap[s]? = some o:=q1;rw[hv]at q1;cases q1;cases q2
structure KeptAll(W w':World):Prop where
 os:w'.os=W.os
 output:w'.output=W.output
 block:∀k,k<W.heap.size->w'.heap[k]? = W.heap[k]?
theorem KeptAll.frame{W w':World}(h:KeptAll W w')(may:MemPlace->Prop):W.keptBut w' may:=by
 refine⟨h.os,h.output,fun i hi=>?_⟩;rw[h.block i hi];split<;>simp_all
theorem qUk{W:World}(S:Start W){f:FuncId}{fd:Func}{c:Code}(hf:prog.funcs[f]? = some fd)(hc:fd.body=some c)(hin:prog.inits.idxOf? f=none)(hok:qA4 prog alM glP true c=true){t:Nat}(hres:fd.results=#[.tmp t]){args:Array Value}(ha:∀x∈args,plainB x=true)
  (h:∀Ends,EndsCl prog Ends->wpV prog alM glP (fr0 W) Ends c (qUN t (qDA W)) { tmps:=args++Array.replicate (fd.ntmps-args.size) undef,defers:=[] } (qDA W)) :
  ∃M last o w' t',runNT prog (M+1) (solo (G (Frame.enter prog f args .normal) []) W) #[]=(.ended o w',t')/\runN prog M (solo (G (Frame.enter prog f args .normal) []) W)=.next last/\step prog last=.ended o w' /\
   Go.Conc.Good prog (fun x w'=>x=.bool true/\KeptAll W w') last o w' t':=by
 have hent:Frame.enter prog f args .normal=(Go.Conc.base f).at { tmps:=args++Array.replicate (fd.ntmps-args.size) undef,defers:=[] } [.code c]:=by
  unfold Frame.enter;rw[hf];simp[hc,Frame.at,Go.Conc.base]
 have key:KM prog alM glP (fr0 W) (GoodEnd prog fun x w'=>x=.bool true/\KeptAll W w') (G ((Go.Conc.base f).at { tmps:=args++Array.replicate (fd.ntmps-args.size) undef,defers:=[] } [.code c]) [deadEnd prog]) (qDA W):=by
  refine KM.whole qEQ hf hin rfl (qTu (h _ qI3) ?_);intro e a v hq;cases e with
  |ret =>
   obtain⟨ho,hd,hv⟩:=hq;refine⟨.bool true,fun T d=>(results_tmp (fn:=fd) (t:=t) hres _ _ _).trans (congrArg (fun y=>Result.ok y _) hv),?_⟩;intro T d π x' w hx hW hg hfm;cases hx;have hk:=qSo S ho hW hfm;have hoo:qEz w=qEz W:=hfm.oo;exact⟨rfl,congrArg Prod.fst hoo,congrArg Prod.snd hoo,hk⟩
  |_=>exact hq.elim
 have hK:=key W.tape W.drawn qWW (G (Frame.enter prog f args .normal) []) W ?_ (qRp S) (fun x hx=>⟨rfl,hx⟩) (qRo W)
 ·exact hK #[_] none #[] (fun _=>0) rfl (leavers_one _ _) (past_nil.mono (Nat.zero_le _))
 ·rw[hent];refine⟨.base ⟨rfl,⟨rfl,fun i h1 h2=>?_⟩,TodoR.cons (st:=⟨true,[]⟩) (x:=.code c) hok .nil,rfl,rfl,.run,rfl,rfl,rfl,rfl⟩,rfl,rfl,rfl,rfl,rfl,rfl⟩;have h1':i<(args++Array.replicate (fd.ntmps-args.size) undef).size:=h1;show VRel _ _ (args++Array.replicate (fd.ntmps-args.size) undef)[i] (args++Array.replicate (fd.ntmps-args.size) undef)[i];by_cases hi:i<args.size
  ·rw[Array.getElem_append_left hi];exact qJE (ha _ (Array.getElem_mem _))
  ·rw[Array.getElem_append_right (by omega),Array.getElem_replicate];exact qCP _ _
