/-
  Parts of the proof: J17, J19.
-/
import Derived.Test.YtclpcnignheijaaGreatDoorQ27
import Derived.Test.YtclpcnignheijaaGreatDoorQ22
set_option maxHeartbeats 2000000
namespace Go.Proofs.YtclpcnignheijaaGreatDoor.Num
open Go.RowKit Go.Conc Go.Proofs.Tryz
theorem qNG{v:World}{x:Value}(h:qCA v x):Clean v x:=by
 cases x with
 |bool b=>exact .bool b
 |int k n=>exact .int k n
 |string s=>exact .string s
 |slice p n c =>
  cases p with
  |none=>exact .nilSlice n c
  |some a=>exact .slice h n c
 |_=>exact h.elim
section
variable{G:Nat}{Al Al':FuncId->Prop}{π:Ren G}{v w:World}
theorem qVr(hW:WRel Al (fun r=>r<0) π v w):CellsTo v (fz Al' π v w):=fun a x e hx=>by
 unfold World.cell? at e ⊢;cases hb:v.heap[a.block]? with
 |none=>rw[hb]at e;cases e
 | some o =>
  rw[hb]at e;cases o with
  | cells c t f =>
   obtain⟨c2,h1,h2,h3⟩:=qQc (Al':=Al') hW hb;rw[h1];dsimp only at e ⊢;split at e
   ·cases e
   ·rename_i hs;rw[if_neg hs];exact h3 _ _ e (qNG hx)
  |_=>cases e
theorem GlF.fz(hW:WRel Al (fun r=>r<0) π v w)(h:GlF v):GlF (fz Al' π v w):=by
 obtain⟨⟨t,fr,h1⟩,m,h2⟩:=h;refine⟨?_,m,qVr hW _ _ h2 trivial⟩;obtain⟨c2,g1,g2,g3⟩:=qQc (Al':=Al') hW h1;have hc2:c2=(Lib.asciiSpaceTab.map fun z=>Value.int .u8 z).toArray:=?_
 ·exact⟨t,_,by rw[g1,hc2]⟩
 apply Array.ext_getElem?;intro i;by_cases hi:i<((Lib.asciiSpaceTab.map fun z=>Value.int .u8 z).toArray).size
 ·have e:=Array.getElem?_eq_getElem hi;rw[e];refine g3 i _ e ?_;simp only[List.getElem_toArray,List.getElem_map];exact .int _ _
 ·rw[Array.getElem?_eq_none (by omega),Array.getElem?_eq_none (by omega)]
end
section
variable{w w':World}
theorem qV8(hc:CellsTo w w'){B:Nat}{e:TypeId}{size:Nat}{v:Value}{n:Nat}{xs:List Value}(h:w.ownsRow B e size v n xs)(hp:∀x∈xs,qCA w x):OwnC w' size v n xs/\qCA w v:=by
 obtain⟨hl,⟨rfl,rfl⟩|⟨g,cap,cur,rfl,-,hg,hcap,hmx,-,ht⟩⟩:=h
 ·exact⟨⟨none,0,rfl,Nat.le_refl _,Nat.zero_le _,hl,fun h=>absurd h (by omega)⟩,trivial⟩
 ·refine⟨⟨_,_,rfl,hcap,hmx,hl,fun _=>⟨g,rfl,fun i x hx=>?_⟩⟩,⟨_,_,_,hg⟩⟩;refine hc _ _ ?_ (hp x (List.mem_of_getElem? hx));rw[<-ht]at hx;have h2:cur.toList[i]? = some x:=by
   rw[List.getElem?_take]at hx;split at hx
   ·exact hx
   ·cases hx
  unfold World.cell?;dsimp only;rw[hg];simpa using h2
theorem OwnC.rowC{size:Nat}{v:Value}{n:Nat}{xs:List Value}{f:Nat->Nat->Value}(h:OwnC w size v n xs)(hf:∀i,i<n->∀j,j<size->xs[i*size+j]? = some (f i j)):RowC w v n size f:=by
 obtain⟨ao,cap,rfl,-,-,-,hg⟩:=h;exact⟨ao,cap,rfl,fun hn=>by
  obtain⟨g,e,hc⟩:=hg hn;exact⟨g,e,fun i hi j hj=>hc _ _ (hf i hi j hj)⟩⟩
theorem qIt:∀(l:List (ByteArray×ByteArray)),∀y∈attrCells l,qCA w y
 |[],y,h=>by simp[attrCells]at h
 |x::r,y,h=>by
  simp only[attrCells,List.mem_cons]at h;rcases h with rfl|rfl|h
  ·trivial
  ·trivial
  ·exact qIt r y h
theorem qNL:∀(l:List El)(q:List Value),(∀a∈q,qCA w a)->∀y∈qBd l q,qCA w y
 |[],q,_,y,h=>by cases q<;>simp[qBd]at h
 |_::_,[],_,y,h=>by simp[qBd]at h
 |x::r,a::q,hq,y,h=>by
  simp only[qBd,List.mem_cons]at h;rcases h with rfl|rfl|rfl|rfl|rfl|h
  ·trivial
  ·trivial
  ·exact hq _ (by simp)
  ·trivial
  ·trivial
  ·exact qNL r q (fun a ha=>hq a (by simp[ha])) y h
theorem Dc.toC{B db:Nat}{b:BS}(hc:CellsTo w w')(h:Dc w B db b):TrC w' db b:=by
 obtain⟨ve,avs,h1,h2,h3,h4⟩:=h;have pav:∀(i:Nat)(x:El)(a:Value),b.els[i]? = some x->avs[i]? = some a->OwnC w' 2 a x.attrs.length (attrCells x.attrs)/\qCA w a:=fun i x a hx ha=>qV8 hc (h4 i x a hx ha) (qIt _);have at':∀(i:Nat)(x:El),b.els[i]? = some x->∃a,avs[i]? = some a:=fun i x hx=>⟨avs[i]'(by rw[h2];exact(List.getElem?_eq_some_iff.1 hx).1),List.getElem?_eq_getElem _⟩;obtain⟨o1,o2⟩:=qV8 hc h3 (qNL _ _ fun a ha=>by
  obtain⟨i,hi⟩:=List.getElem?_of_mem ha;have hlt:i<b.els.length:=by rw[<-h2];exact(List.getElem?_eq_some_iff.1 hi).1
  exact(pav i _ a (List.getElem?_eq_getElem hlt) hi).2)
 have k0:w.cell? ⟨db,0,none⟩=some ve:=by unfold World.cell?;dsimp only;rw[h1];rfl
 have k1:w.cell? ⟨db,1,none⟩=some (.string ⟨b.txt.toArray⟩):=by unfold World.cell?;dsimp only;rw[h1];rfl
 refine⟨hc _ _ k1 trivial,ve,fun i=>(avs[i]?).getD (.bool false),hc _ _ k0 o2,o1.rowC fun i hi j hj=>?_,fun i x hx=>?_⟩
 ·have hx:=List.getElem?_eq_getElem hi;obtain⟨a,ha⟩:=at' i _ hx;obtain⟨e0,e1,e2,e3,e4⟩:=qCr b.els avs i _ a hx ha;unfold elC;rw[hx];dsimp only;rcases j with _|_|_|_|_|j
  ·exact e0
  ·exact e1
  ·rw[e2,ha];rfl
  ·exact e3
  ·exact e4
  ·omega
 ·obtain⟨a,ha⟩:=at' i x hx;show RowC w' ((avs[i]?).getD (.bool false)) _ _ _;rw[ha];refine(pav i x a hx ha).1.rowC fun k hk j hj=>?_;have hy:=List.getElem?_eq_getElem hk;obtain⟨e0,e1⟩:=qDC x.attrs k _ hy;unfold atC;rw[hy];dsimp only;rcases j with _|_|j
  ·exact e0
  ·exact e1
  ·omega
end
section
variable{tb:Nat}{b:BS}{A:List Cpx}{lv:Value}{d:Nat}{l:qAg}
def Lay(tb:Nat)(b:BS)(A:List Cpx)(lv:Value)(d:Nat)(l:qAg)(u:World):Prop:=TrC u tb b/\GlF u/\SelL A u d lv l
def Fnd(tb:Nat)(b:BS)(A:List Cpx)(lv:Value)(d:Nat)(l:qAg)(x:Value)(u:World):Prop :=
 ∃u0 fb rows M,Lay tb b A lv d l u0/\x=.pointer (some ⟨fb,0,none⟩)/\Fin u0 tb b.els.length lv fb rows M u/\Right b A M
theorem qQV(hb:BOk b)(ha:A.length<=3000)(hw:wfN d l):Finder prog b.els.length (qDV b l) (.pointer (some ⟨tb,0,none⟩)) (Fnd tb b A lv d l):=by
 have hn:=hb.n;refine⟨?_,?_,by omega,?_,?_⟩
 ·rintro x u T d' ⟨u0,fb,rows,M,h1,h2,h3,h4⟩;exact⟨u0,fb,rows,M,h1,h2,h3.go (Old.heap rfl),h4⟩
 ·rintro x u ⟨u0,fb,rows,M,h1,h2,h3,h4⟩;exact⟨fb,0,h2,h3.c0.1⟩
 ·rintro x u k ⟨u0,fb,rows,M,h1,h2,h3,h4⟩ hk;refine(qUn tb b (k:Int) u (h3.old.tr h1.1) (by omega)).mono ?_;rintro e w'⟨rfl,rfl⟩;refine⟨_,rfl,?_,u0,fb,rows,M,h1,h2,h3,h4⟩;congr 1;rw[decide_eq_decide];omega
 ·rintro x u k ⟨u0,fb,rows,M,h1,rfl,h3,h4⟩ hk;refine(qQv ⟨h1.1,h1.2.1,hb,ha⟩ hw h1.2.2 fb k rows M u hk h3 h4).mono ?_;rintro e w'⟨rfl,rows',M',h5,h6⟩;exact⟨_,rfl,rfl,u0,fb,rows',M',h1,rfl,h5,h6⟩
theorem Lay.cells{u u':World}(h:Lay tb b A lv d l u)(hh:u'.heap=u.heap):Lay tb b A lv d l u':=by
 obtain⟨h1,h2,h3⟩:=h;have ho:=Old.heap hh;refine⟨ho.tr h1,h2.old ho,?_⟩;exact SelL.same ho.cells h3
theorem qSH{v:World}{B db:Nat}{P:Nat->Prop}(hd:Dc v B db b)(hb:BOk b)(hr:RepL A P v d lv l)(hw:wfN d l)(ha:A.length<=3000)(hg:GlF v)(hrows:∀x,glP x=true->qIj v x) :
  AllSpec alM alF glP v (.pointer (some ⟨db,0,none⟩)) lv b.els.length (qDV b l) (Fnd db b A lv d l) (Lay db b A lv d l):=by
 refine⟨qQV hb ha hw,fun u T d' h=>h.cells rfl,fun T d' π w hW=>?_,fun u h=>?_,?_,?_,hrows,qWR,by kernel_rfl,by kernel_rfl,by kernel_rfl⟩
 ·have hc:CellsTo v (fz (fun f=>alF f=true) π (v.re T d') w):=qVr hW;exact⟨Dc.toC hc hd,GlF.fz hW hg,(RepL.toC hc hr).1⟩
 ·obtain⟨ao,cp,rfl⟩:=h.2.2.shape;refine(qH5 db b.els.length _ u ⟨_,_,_,rfl⟩).mono ?_;rintro e w'⟨fb,rfl,hF⟩;exact⟨_,rfl,u,fb,[],_,h,rfl,hF,Right.zero⟩
 ·obtain⟨ve,avs,h1,-⟩:=hd;exact .pointer ⟨_,_,_,h1⟩
 ·exact qNG (RepL.toC (CellsTo.refl v) hr).2
end
open Go.RowKit Go.Proofs.YtclpcnignheijaaGreatDoor
section
variable{db sb:Nat}{b:BS}{A:List Cpx}{lv:Value}{d:Nat}{l:qAg}{w:World}
theorem qI0(w:World)(ht:TrC w db b):Calls prog 13 #[.pointer (some ⟨db,0,none⟩)] w fun e w'=>e=.returned (.int .i64 (b.els.length:Int))/\w'=w:=by
 obtain⟨-,ve,av,tc0,⟨eo,ep,rfl,-⟩,-⟩:=ht;go_enter func13,ntmps13
 go_wp2
 go_ret
 exact⟨rfl,rfl⟩
theorem qLB(hb:BOk b)(m:Nat)(hm:m<b.els.length)(w:World)(ht:TrC w db b):Calls prog 31 #[.pointer (some ⟨db,0,none⟩),.int .i64 (m:Int)] w fun e w'=>e=.returned (.int .i64 (qFq b m))/\w'=w:=by
 go_enter func31,ntmps31
 go_wp2_with fail
 refine(qHR hb m hm w ht).mono ?_;rintro e w1⟨rfl,rfl⟩;go_wp2
 go_ret
 exact⟨rfl,rfl⟩
theorem qML(hb:BOk b)(m:Nat)(x:El)(hx:b.els[m]? = some x)(w:World)(ht:TrC w db b):Calls prog 14 #[.pointer (some ⟨db,0,none⟩),.int .i64 (m:Int)] w fun e w'=>e=.returned (.string (qM2 b x))/\Old w w':=by
 obtain⟨t1,t2,t3⟩:=hb.txt m x hx;go_enter func14,ntmps14
 go_wp2_with fail
 refine(qN8 db b m x _ ht hx hb.n t1 t2 t3).mono ?_;rintro e w1⟨rfl,hb2⟩;go_wp2
 go_ret
 exact⟨rfl,.ofBelow hb2⟩
theorem qSk(L:Look w db b A lv d l)(hs:w.cell? ⟨sb,0,none⟩=some lv):Calls prog 38 #[.pointer (some ⟨db,0,none⟩),.pointer (some ⟨sb,0,none⟩)] w fun e w'=>e=.returned (.int .i64 (qDF (qDV b l) b.els.length 0))/\Old w w':=by
 obtain⟨ao,cp,rfl⟩:=L.sel.shape;have C:∀w2:World,w2.heap=w.heap->Calls prog 66 #[.pointer (some ⟨db,0,none⟩),.slice ao l.length cp] w2 fun e w'=>e=.returned (.int .i64 (qDF (qDV b l) b.els.length 0))/\Old w w':=fun w2 e=>(qUi (L.old (Old.heap e))).mono fun _ _ h=>⟨h.1,(Old.heap e).trans h.2⟩;go_enter func38,ntmps38
 go_wp2
 go_region_with (refine(C _ (by rfl)).mono ?_;rintro e w1 ⟨rfl,ho⟩)
 all_goals
  go_wp2
  go_ret
  exact⟨rfl,ho⟩
def IntsC(w:World)(x:Value)(L:List Int):Prop:=∃ao cap,x=.slice ao L.length cap/\∀j v,L[j]? = some v->∃g,ao=some ⟨g,0,none⟩/\w.cell? ⟨g,j,none⟩=some (.int .i64 v)
theorem IntsC.of{w:World}{base:Nat}{x:Value}{L:List Int}(h:qTy w base x L):IntsC w x L:=by
 rcases h with⟨rfl,p,cap,rfl⟩|⟨g,cap,rfl,-,hc⟩
 ·exact⟨p,cap,rfl,fun j v h=>by simp at h⟩
 ·refine⟨_,cap,rfl,fun j v h=>⟨g,rfl,?_⟩⟩;obtain⟨hj,rfl⟩:=List.getElem?_eq_some_iff.1 h;exact hc j hj
theorem IntsC.old{w w':World}{x:Value}{L:List Int}(h:IntsC w x L)(k:Old w w'):IntsC w' x L:=by
 obtain⟨ao,cap,rfl,hc⟩:=h;exact⟨ao,cap,rfl,fun j v hv=>by obtain⟨g,e,h⟩:=hc j v hv;exact⟨g,e,k.cells _ _ h⟩⟩
end
