/-
  Parts of the proof: L1, L2, L3, L4.
-/
import Derived.Conc.Beside
namespace Go.Proofs.YtclpcnignheijaaGreatDoor
open Go
structure Ren(G:Nat) where
 rel:Nat->Nat->Prop
 ok:∀{r s:Nat},rel r s->(r<G↔s<G)
 inj:∀{r r' s s':Nat},rel r r'->rel s s'->(r=s↔r'=s')
instance{G:Nat}:CoeFun (Ren G) (fun _=>Nat->Nat->Prop):=⟨Ren.rel⟩
variable{G:Nat}
def Ren.le(π π':Ren G):Prop:=∀r s,π r s->π' r s
theorem Ren.le_refl(π:Ren G):Ren.le π π:=fun _ _ h=>h
theorem Ren.le_trans{a b c:Ren G}(h:Ren.le a b)(k:Ren.le b c):Ren.le a c:=fun _ _ x=>k _ _ (h _ _ x)
def Ren.and(π:Ren G)(r s:Nat)(h:(r<G↔s<G)/\∀x y,π x y->x≠r/\y≠s):Ren G :=
 ⟨fun x y=>π x y\/(x=r/\y=s),fun p=>p.elim π.ok fun⟨e1,e2⟩=>by rw[e1,e2];exact h.1,by
  rintro x x' y y' (p|⟨rfl,rfl⟩) (q|⟨rfl,rfl⟩)
  ·exact π.inj p q
  ·have:=h.2 _ _ p;constructor<;>(intro e;simp_all)
  ·have:=h.2 _ _ q;constructor<;>(intro e;simp_all)
  ·simp⟩
structure ARel(π:Ren G)(a b:Addr):Prop where
 block:π a.block b.block
 off:b.off=a.off
 spot:b.spot=a.spot
theorem ARel.mono{π π':Ren G}{a b:Addr}(h:ARel π a b)(l:Ren.le π π'):ARel π' a b:=⟨l _ _ h.block,h.off,h.spot⟩
theorem ARel.add{π:Ren G}{a b:Addr}(h:ARel π a b)(n:Nat):ARel π (a.add n) (b.add n):=by
 unfold Addr.add;split
 ·exact h
 ·exact⟨h.block,by simp[h.off],rfl⟩
def qXG(Al:FuncId->Prop):Fn->Prop
 |.func f=>Al f
 |_=>False
def qA0:Value->Bool
 |.pointer (some _)|.slice (some _) _ _|.map (some _)|.chan (some _)|.func (.func _) _ _=>true
 |_=>false
inductive VRel (Al:FuncId->Prop) (π:Ren G):Value->Value->Prop
 |bool (b:Bool):VRel Al π (.bool b) (.bool b)
 |int (k:IntKind) (n:Int):VRel Al π (.int k n) (.int k n)
 |string (s:ByteArray):VRel Al π (.string s) (.string s)
 |nilPtr:VRel Al π (.pointer none) (.pointer none)
 |pointer {a b:Addr} (h:ARel π a b):VRel Al π (.pointer (some a)) (.pointer (some b))
 |nilSlice (n c:Nat):VRel Al π (.slice none n c) (.slice none n c)
 |slice {a b:Addr} (h:ARel π a b) (n c:Nat):VRel Al π (.slice (some a) n c) (.slice (some b) n c)
 |nilMap:VRel Al π (.map none) (.map none)
 |nilChan:VRel Al π (.chan none) (.chan none)
 |chan (c:Nat):VRel Al π (.chan (some c)) (.chan (some c))
 |func {fn:Fn} (ok:qXG Al fn) {f c f' c':Array Value} (hf:f.size=f'.size) (hc:c.size=c'.size) (rf:∀i (h:i<f.size) (h':i<f'.size),VRel Al π f[i] f'[i]) (rc:∀i (h:i<c.size) (h':i<c'.size),VRel Al π c[i] c'[i]):VRel Al π (.func fn f c) (.func fn f' c')
 |nilFunc:VRel Al π .nilFunc .nilFunc
 |iface (t:TypeId) {v v':Value} (h:VRel Al π v v'):VRel Al π (.iface t v) (.iface t v')
 |nilIface:VRel Al π .nilIface .nilIface
 |agg {c c':Array Value} (hs:c.size=c'.size) (h:∀i (h:i<c.size) (h':i<c'.size),VRel Al π c[i] c'[i]):VRel Al π (.agg c) (.agg c')
 |tuple {c c':Array Value} (hs:c.size=c'.size) (h:∀i (h:i<c.size) (h':i<c'.size),VRel Al π c[i] c'[i]):VRel Al π (.tuple c) (.tuple c')
 |lost (x:Value) (h:qA0 x=true):VRel Al π (.tuple #[]) x
variable{Al:FuncId->Prop}
theorem VRel.mono{π π':Ren G}(l:Ren.le π π'){v v':Value}(h:VRel Al π v v'):VRel Al π' v v':=by
 induction h with
 |pointer h=>exact .pointer (h.mono l)
 |slice h n c=>exact .slice (h.mono l) n c
 |func ok hf hc _ _ i1 i2=>exact .func ok hf hc i1 i2
 |iface t _ ih=>exact .iface t ih
 |agg hs _ ih=>exact .agg hs ih
 |tuple hs _ ih=>exact .tuple hs ih
 |lost x h=>exact .lost x h
 |_=>constructor
structure VsRel(Al:FuncId->Prop)(π:Ren G)(c c':Array Value):Prop where
 size:c.size=c'.size
 get:∀i (h:i<c.size) (h':i<c'.size),VRel Al π c[i] c'[i]
theorem VsRel.mono{π π':Ren G}(l:Ren.le π π'){c c':Array Value}(h:VsRel Al π c c'):VsRel Al π' c c':=⟨h.size,fun i a b=>(h.get i a b).mono l⟩
theorem VsRel.get?{π:Ren G}{c c':Array Value}(h:VsRel Al π c c')(i:Nat):(c[i]? = none/\c'[i]? = none)\/∃v v',c[i]? = some v/\c'[i]? = some v'/\VRel Al π v v':=by
 by_cases hi:i<c.size
 ·have hi':i<c'.size:=h.size▸hi;exact .inr ⟨_,_,Array.getElem?_eq_getElem hi,Array.getElem?_eq_getElem hi',h.get i hi hi'⟩
 ·have hi':¬i<c'.size:=h.size▸hi;exact .inl ⟨by simp;omega,by simp;omega⟩
theorem VsRel.set{π:Ren G}{c c':Array Value}(h:VsRel Al π c c')(i:Nat){v v':Value}(hv:VRel Al π v v'):VsRel Al π (c.setIfInBounds i v) (c'.setIfInBounds i v'):=by
 refine⟨by simp[h.size],fun j a b=>?_⟩;simp only[Array.size_setIfInBounds]at a b;rw[Array.getElem_setIfInBounds (hj:=by simpa using a),Array.getElem_setIfInBounds (hj:=by simpa using b)];split
 ·exact hv
 ·exact h.get j a b
theorem VsRel.push{π:Ren G}{c c':Array Value}(h:VsRel Al π c c'){v v':Value}(hv:VRel Al π v v'):VsRel Al π (c.push v) (c'.push v'):=by
 refine⟨by simp[h.size],fun j a b=>?_⟩;simp only[Array.size_push]at a b;rw[Array.getElem_push,Array.getElem_push];have:=h.size;split
 ·rename_i hj;rw[dif_pos (by omega)];exact h.get j hj _
 ·rename_i hj;rw[dif_neg (by omega)];exact hv
theorem VsRel.append{π:Ren G}{c c' d d':Array Value}(h:VsRel Al π c c')(k:VsRel Al π d d'):VsRel Al π (c++d) (c'++d'):=by
 refine⟨by simp[h.size,k.size],fun j a b=>?_⟩;have:=h.size;by_cases hj:j<c.size
 ·rw[Array.getElem_append_left hj,Array.getElem_append_left (by omega)];exact h.get j hj _
 ·rw[Array.getElem_append_right (by omega),Array.getElem_append_right (by omega)];have e:j-c'.size=j-c.size:=by omega
  simp only[e];exact k.get _ _ _
theorem VsRel.empty(π:Ren G):VsRel Al π #[] #[]:=⟨rfl,fun i h=>absurd h (by simp)⟩
theorem VsRel.extract{π:Ren G}{c c':Array Value}(h:VsRel Al π c c')(i j:Nat):VsRel Al π (c.extract i j) (c'.extract i j):=by
 refine⟨by simp[h.size],fun k a b=>?_⟩;simp only[Array.size_extract]at a b;simp only[Array.getElem_extract];exact h.get _ _ _
theorem VRel.cells{π:Ren G}{v v':Value}(h:VRel Al π v v'):VsRel Al π v.cells v'.cells:=by
 have one:∀{x x':Value},VRel Al π x x'->VsRel Al π #[x] #[x']:=fun hx=>⟨rfl,fun i a b=>by
  have:i=0:=by simpa using a
  subst this;exact hx⟩
 cases h with
 |agg hs h=>exact⟨hs,h⟩
 |pointer h=>exact one (.pointer h)
 |slice h n c=>exact one (.slice h n c)
 |func ok hf hc rf rc=>exact one (.func ok hf hc rf rc)
 |iface t h=>exact one (.iface t h)
 |tuple hs h=>exact one (.tuple hs h)
 |lost x h =>
  have e:v'.cells=#[v']:=by cases v'<;>first|rfl|cases h
  rw[e];exact one (.lost v' h)
 |_=>exact one (by constructor)
inductive ObjR (π:Ren G):Obj->Obj->Prop
 |number {a a':Addr} (l:Bool) (h:ARel π a a'):ObjR π (.number a l) (.number a' l)
 |iter (s:ByteArray) (n:Nat):ObjR π (.stringIter s n) (.stringIter s n)
 |view {a a':Addr} (h:ARel π a a') (u:TypeId):ObjR π (.view a u) (.view a' u)
theorem ObjR.mono{π π':Ren G}(l:Ren.le π π'){o o':Obj}(h:ObjR π o o'):ObjR π' o o':=by
 cases h with
 |number k h=>exact .number k (h.mono l)
 |iter s n=>exact .iter s n
 |view h u=>exact .view (h.mono l) u
def deadN:Nat:=4
def qK9:Obj:=.chan 0 #[] true 0 0 false
structure WRel(Al:FuncId->Prop)(Shr:Nat->Prop)(π:Ren G)(v w:World):Prop where
 tape:w.tape=v.tape
 drawn:w.drawn=v.drawn
 os:w.os=v.os
 low:∀{r r'},π r r'->r<v.heap.size/\r'<w.heap.size
 obj:∀{r r'},π r r'->(∃c c' e f f',v.heap[r]? = some (.cells c e f)/\w.heap[r']? = some (.cells c' e f')/\VsRel Al π c c'/\(¬Shr r'->f'=f)/\(Shr r'->f=(0,c.size)))\/∃o o',v.heap[r]? = some o/\w.heap[r']? = some o'/\ObjR π o o'/\¬Shr r'
 shr:∀r',Shr r'->r'<w.heap.size
 gv:G<=v.heap.size
 gw:G<=w.heap.size
 dead:v.heap[deadN]? = some qK9/\∀r r',π r r'->r≠deadN
structure Kept(Shr:Nat->Prop)(π:Ren G)(w w':World):Prop where
 size:w.heap.size<=w'.heap.size
 same:∀r',r'<w.heap.size->w'.heap[r']? = w.heap[r']?\/(¬Shr r'/\∃r,π r r')
 rest:w'.os=w.os/\w'.output=w.output/\w'.tape=w.tape/\w.drawn<=w'.drawn
theorem Kept.refl(Shr:Nat->Prop)(π:Ren G)(w:World):Kept Shr π w w:=⟨Nat.le_refl _,fun _ _=>.inl rfl,rfl,rfl,rfl,Nat.le_refl _⟩
structure Grown(π π':Ren G)(w:World):Prop where
 le:Ren.le π π'
 new:∀r r',π' r r'->π r r'\/w.heap.size<=r'
theorem Grown.refl(π:Ren G)(w:World):Grown π π w:=⟨Ren.le_refl π,fun _ _ h=>.inl h⟩
theorem Grown.trans{π π' π'':Ren G}{w w':World}(h:Grown π π' w)(k:Grown π' π'' w')(hs:w.heap.size<=w'.heap.size):Grown π π'' w :=
 ⟨Ren.le_trans h.le k.le,fun r r' x=>(k.new r r' x).elim (h.new r r') fun y=>.inr (by omega)⟩
theorem Kept.trans{Shr:Nat->Prop}{π π':Ren G}{w w' w'':World}(h:Kept Shr π w w')(g:Grown π π' w)(k:Kept Shr π' w' w''):Kept Shr π w w'':=by
 refine⟨Nat.le_trans h.size k.size,fun r' hr=>?_,k.rest.1.trans h.rest.1,k.rest.2.1.trans h.rest.2.1,k.rest.2.2.1.trans h.rest.2.2.1,Nat.le_trans h.rest.2.2.2 k.rest.2.2.2⟩;rcases k.same r' (by have:=h.size;omega)with e|⟨hn,r,hp⟩
 ·rcases h.same r' hr with e'|x
  ·exact .inl (e.trans e')
  ·exact .inr x
 ·rcases g.new r r' hp with hp'|hge
  ·exact .inr ⟨hn,r,hp'⟩
  ·omega
def EvOk(Shr:Nat->Prop)(π:Ren G)(e:Event):Prop :=
 (∃a,e.loc=.cell a/\e.sync=false/\(∃r,π r a.block)/\(e.write=true->¬Shr a.block))\/e.loc=.mark .noRoom\/(∃f,e.loc=.mark (.extern f))\/∃r',e.loc=.obj r'/\e.sync=false/\(∃r,π r r')/\(e.write=true->¬Shr r')
theorem EvOk.mono{Shr:Nat->Prop}{π π':Ren G}(l:Ren.le π π'){e:Event}(h:EvOk Shr π e):EvOk Shr π' e :=
 h.imp (fun⟨a,x,y,⟨r,z⟩,u⟩=>⟨a,x,y,⟨r,l _ _ z⟩,u⟩) (.imp id (.imp id fun⟨r',x,y,⟨r,z⟩,u⟩=>⟨r',x,y,⟨r,l _ _ z⟩,u⟩))
def Halt.bad:Halt->Prop
 |.stuck _=>True
 |.unsupported u=>∀g,u≠.initOrder g
 |_=>False
inductive Doom (P:Program) {α:Type}:Sem α->Prop
 |halt {h:Halt} (hb:Halt.bad h):Doom P (.halt h)
 |shape {r:Nat} {k:Option (TypeId×Nat)->Sem α} (hk:∀s,Doom P (k s)):Doom P (.shape r k)
 |frozen {a:Addr} {k:Bool->Sem α} (hk:∀s,Doom P (k s)):Doom P (.frozen a k)
 |mark (m:Mark) {k:Sem α} (hk:Doom P k):Doom P (.mark m k)
 |load {a:Addr} (ha:a.block=deadN) (k:Value->Sem α):Doom P (.load .plain a k)
 |program {k:Program->Sem α} (hk:Doom P (k P)):Doom P (.program k)
theorem Doom.bind{P:Program}{α β:Type}{s:Sem α}(h:Doom P s)(f:α->Sem β):Doom P (s.bind f):=by
 induction h with
 |halt hb=>exact .halt hb
 |shape _ ih=>exact .shape ih
 |frozen _ ih=>exact .frozen ih
 |mark m _ ih=>exact .mark m ih
 |load ha k=>exact .load ha _
 |program _ ih=>exact .program ih
theorem Doom.run{P:Program}{α:Type}{s:Sem α}(h:Doom P s):∀(v:World)(es:Array Event),v.heap[deadN]? = some qK9->∃y v1,(s.runT P v es).1=.halt y v1/\Halt.bad y:=by
 induction h with
 |halt hb=>intro v es hv;exact⟨_,v,rfl,hb⟩
 |shape _ ih=>intro v es hv;exact ih _ _ _ hv
 |frozen _ ih=>intro v es hv;exact ih _ _ _ hv
 |mark m _ ih=>intro v es hv;exact ih _ _ hv
 |@load a ha k =>
  intro v es hv;have h1:v.cell? a=none:=by unfold World.cell?;rw[ha,hv];rfl
  have h2 : v.farLoad P a (Mode.plain == .atomic) = .error (.stuck "load: no such cell") := by unfold World.farLoad World.noCell; rw [ha, hv]; rfl
  refine ⟨.stuck "load: no such cell", v, ?_, trivial⟩
  simp only[Sem.runT,h1,h2]
 |program _ ih=>intro v es hv;exact ih _ _ hv
inductive Peer {α:Type}:Sem α->Prop
 |pure (a:α):Peer (.pure a)
 |shape {r:Nat} {k:Option (TypeId×Nat)->Sem α} (hk:∀s,Peer (k s)):Peer (.shape r k)
 |frozen {a:Addr} {k:Bool->Sem α} (hk:∀s,Peer (k s)):Peer (.frozen a k)
theorem Peer.bind{α β:Type}{s:Sem α}(h:Peer s){f:α->Sem β}(hf:∀a,Peer (f a)):Peer (s.bind f):=by
 induction h with
 |pure a=>exact hf a
 |shape _ ih=>exact .shape ih
 |frozen _ ih=>exact .frozen ih
theorem Peer.doom{P:Program}{α β:Type}{s:Sem α}(h:Peer s){f:α->Sem β}(hf:∀a,Doom P (f a)):Doom P (s.bind f):=by
 induction h with
 |pure a=>exact hf a
 |shape _ ih=>exact .shape ih
 |frozen _ ih=>exact .frozen ih
inductive SRel (P:Program) (Al:FuncId->Prop) (Shr:Nat->Prop) {α β:Type} (R:Ren G->α->β->Prop):Ren G->Sem α->Sem β->Prop
 |pure {π:Ren G} {a:α} {b:β} (h:R π a b):SRel P Al Shr R π (.pure a) (.pure b)
 |load {π:Ren G} {a b:Addr} (h:ARel π a b) {k:Value->Sem α} {k':Value->Sem β} (hk:∀v v',VRel Al π v v'->SRel P Al Shr R π (k v) (k' v')):SRel P Al Shr R π (.load .plain a k) (.load .plain b k')
 |store {π:Ren G} {a b:Addr} (h:ARel π a b) {v v':Value} (hv:VRel Al π v v') {k:Sem α} {k':Sem β} (hk:SRel P Al Shr R π k k'):SRel P Al Shr R π (.store .plain a v k) (.store .plain b v' k')
 |new {π:Ren G} {c c':Array Value} (e:TypeId) (hc:VsRel Al π c c') {k:Nat->Sem α} {k':Nat->Sem β} (hk:∀r r' π',Ren.le π π'->π' r r'->¬Shr r'->SRel P Al Shr R π' (k r) (k' r')):SRel P Al Shr R π (.new (.cells c e) k) (.new (.cells c' e) k')
 |shape {π:Ren G} {r r':Nat} (h:π r r') {k:Option (TypeId×Nat)->Sem α} {k':Option (TypeId×Nat)->Sem β} (hk:∀s,SRel P Al Shr R π (k s) (k' s)):SRel P Al Shr R π (.shape r k) (.shape r' k')
 |frozen {π:Ren G} {a b:Addr} (h:ARel π a b) (hs:¬Shr b.block) {k:Bool->Sem α} {k':Bool->Sem β} (hk:∀s,SRel P Al Shr R π (k s) (k' s)):SRel P Al Shr R π (.frozen a k) (.frozen b k')
 |getObj {π:Ren G} {r r':Nat} (h:π r r') {k:Obj->Sem α} {k':Obj->Sem β} (hk:∀o o',ObjR π o o'->SRel P Al Shr R π (k o) (k' o')):SRel P Al Shr R π (.getObj r k) (.getObj r' k')
 |setObj {π:Ren G} {r r':Nat} (h:π r r') {o o':Obj} (ho:ObjR π o o') {k:Sem α} {k':Sem β} (hk:SRel P Al Shr R π k k'):SRel P Al Shr R π (.setObj r o k) (.setObj r' o' k')
 |newObj {π:Ren G} {o o':Obj} (ho:ObjR π o o') {k:Nat->Sem α} {k':Nat->Sem β} (hk:∀r r' π',Ren.le π π'->π' r r'->SRel P Al Shr R π' (k r) (k' r')):SRel P Al Shr R π (.new o k) (.new o' k')
 |freeze {π:Ren G} {a b:Addr} (h:ARel π a b) (hs:¬Shr b.block) (n:Nat) {k:Sem α} {k':Sem β} (hk:SRel P Al Shr R π k k'):SRel P Al Shr R π (.freeze a n k) (.freeze b n k')
 |extern {π:Ren G} (f:FuncId) {k:Sem α} {k':Sem β} (hk:SRel P Al Shr R π k k'):SRel P Al Shr R π (.mark (.extern f) k) (.mark (.extern f) k')
 |choose {π:Ren G} (q:Question) {k:Nat->Sem α} {k':Nat->Sem β} (hk:∀n,SRel P Al Shr R π (k n) (k' n)):SRel P Al Shr R π (.choose q k) (.choose q k')
 |program {π:Ren G} {k:Program->Sem α} {k':Program->Sem β} (hk:SRel P Al Shr R π (k P) (k' P)):SRel P Al Shr R π (.program k) (.program k')
 |noRoom {π:Ren G} {k:Sem α} {k':Sem β} (hk:SRel P Al Shr R π k k'):SRel P Al Shr R π (.mark .noRoom k) (.mark .noRoom k')
 |doom {π:Ren G} {s:Sem α} (hb:Doom P s) (s':Sem β):SRel P Al Shr R π s s'
 |panic {π:Ren G} {v v':Value} (h:VRel Al π v v'):SRel P Al Shr R π (.halt (.panic v)) (.halt (.panic v'))
 |bad {π:Ren G} {h:Halt} (hb:Halt.bad h) (s:Sem β):SRel P Al Shr R π (.halt h) s
 |env {π:Ren G} {k:SysRet->Sem α} {k':SysRet->Sem β} (hk:∀r,SRel P Al Shr R π (k r) (k' r)) (hn:∀r v,∃y v1,(k r).run P v=.halt y v1):SRel P Al Shr R π (.sys .env k) (.sys .env k')
theorem SRel.bind{Shr:Nat->Prop}{P:Program}{α β γ δ:Type}{R:Ren G->α->β->Prop}{S:Ren G->γ->δ->Prop}{π:Ren G}{s:Sem α}{s':Sem β}(h:SRel P Al Shr R π s s'){f:α->Sem γ}{f':β->Sem δ}
  (hf:∀π' a b,Ren.le π π'->R π' a b->SRel P Al Shr S π' (f a) (f' b)):SRel P Al Shr S π (s.bind f) (s'.bind f'):=by
 induction h with
 |pure h=>exact hf _ _ _ (Ren.le_refl _) h
 |load h _ ih=>exact .load h fun v v' hv=>ih v v' hv hf
 |store h hv _ ih=>exact .store h hv (ih hf)
 |new e hc _ ih=>exact .new e hc fun r r' π' l hp hs=>ih r r' π' l hp hs fun π'' a b l'=>hf π'' a b (Ren.le_trans l l')
 |shape h _ ih=>exact .shape h fun s=>ih s hf
 |frozen h hs _ ih=>exact .frozen h hs fun s=>ih s hf
 |getObj h _ ih=>exact .getObj h fun o o' ho=>ih o o' ho hf
 |setObj h ho _ ih=>exact .setObj h ho (ih hf)
 |newObj ho _ ih=>exact .newObj ho fun r r' π' l hp=>ih r r' π' l hp fun π'' a b l'=>hf π'' a b (Ren.le_trans l l')
 |freeze h hs n _ ih=>exact .freeze h hs n (ih hf)
 |extern f _ ih=>exact .extern f (ih hf)
 |choose q _ ih=>exact .choose q fun n=>ih n hf
 |program _ ih=>exact .program (ih hf)
 |noRoom _ ih=>exact .noRoom (ih hf)
 |doom hb s'=>exact .doom (hb.bind f) _
 |panic h=>exact .panic h
 |bad hb s=>exact .bad hb _
 |env _ hn ih =>
  refine .env (fun r=>ih r hf) fun r v=>?_;obtain⟨y,v1,e⟩:=hn r v;exact⟨y,v1,by rw[show Sem.bind _ _=(_ >>= f) from rfl,Sem.run_bind,e];rfl⟩
theorem SRel.mono{Shr:Nat->Prop}{P:Program}{α β:Type}{R S:Ren G->α->β->Prop}{π:Ren G}{s:Sem α}{s':Sem β}(h:SRel P Al Shr R π s s')(hf:∀π' a b,Ren.le π π'->R π' a b->S π' a b):SRel P Al Shr S π s s':=by
 induction h with
 |pure h=>exact .pure (hf _ _ _ (Ren.le_refl _) h)
 |load h _ ih=>exact .load h fun v v' hv=>ih v v' hv hf
 |store h hv _ ih=>exact .store h hv (ih hf)
 |new e hc _ ih=>exact .new e hc fun r r' π' l hp hs=>ih r r' π' l hp hs fun π'' a b l'=>hf π'' a b (Ren.le_trans l l')
 |shape h _ ih=>exact .shape h fun s=>ih s hf
 |frozen h hs _ ih=>exact .frozen h hs fun s=>ih s hf
 |getObj h _ ih=>exact .getObj h fun o o' ho=>ih o o' ho hf
 |setObj h ho _ ih=>exact .setObj h ho (ih hf)
 |newObj ho _ ih=>exact .newObj ho fun r r' π' l hp=>ih r r' π' l hp fun π'' a b l'=>hf π'' a b (Ren.le_trans l l')
 |freeze h hs n _ ih=>exact .freeze h hs n (ih hf)
 |extern f _ ih=>exact .extern f (ih hf)
 |choose q _ ih=>exact .choose q fun n=>ih n hf
 |program _ ih=>exact .program (ih hf)
 |noRoom _ ih=>exact .noRoom (ih hf)
 |doom hb s'=>exact .doom hb _
 |panic h=>exact .panic h
 |bad hb s=>exact .bad hb _
 |env _ hn ih=>exact .env (fun r=>ih r hf) hn
def EndRel(Al:FuncId->Prop)(Shr:Nat->Prop){α β:Type}(R:Ren G->α->β->Prop)(π:Ren G)(w:World):Result α->Result β×Array Event->Prop
 |.ok a v1,x=>∃b w1 es1 π',x=(.ok b w1,es1)/\R π' a b/\WRel Al Shr π' v1 w1/\Grown π π' w/\Kept Shr π w w1/\∀e∈es1,EvOk Shr π' e
 |.halt (.panic y) v1,x=>∃y' w1 es1 π',x=(.halt (.panic y') w1,es1)/\VRel Al π' y y'/\WRel Al Shr π' v1 w1/\Grown π π' w/\Kept Shr π w w1
 |.halt h _,_=>Halt.bad h
theorem EndRel.trans{Shr:Nat->Prop}{α β:Type}{R:Ren G->α->β->Prop}{π π':Ren G}{w w':World}(g:Grown π π' w)(k:Kept Shr π w w'){r:Result α}{x:Result β×Array Event}(h:EndRel Al Shr R π' w' r x):EndRel Al Shr R π w r x:=by
 cases r with
 |ok a v1 =>
  obtain⟨b,w1,es1,π'',e,hr,hw,hg,hk,he⟩:=h;exact⟨b,w1,es1,π'',e,hr,hw,g.trans hg k.size,k.trans g hk,he⟩
 | halt y v1 =>
  cases y with
  |panic y =>
   obtain⟨b,w1,es1,π'',e,hr,hw,hg,hk⟩:=h;exact⟨b,w1,es1,π'',e,hr,hw,g.trans hg k.size,k.trans g hk⟩
  |_=>exact h
theorem qVN(w:World):w.sys .env=(.strings w.os.env,w):=rfl
theorem qHD{Shr:Nat->Prop}{π:Ren G}{v w:World}(hw:WRel Al Shr π v w){a b:Addr}(h:ARel π a b) :
  (v.cell? a=none/\w.cell? b=none)\/∃x x',v.cell? a=some x/\w.cell? b=some x'/\VRel Al π x x':=by
 rcases hw.obj h.block with⟨c,c',e,f,f',h1,h2,h3,-,-⟩|⟨o,o',h1,h2,ho,-⟩
 case inr=>cases ho<;>exact .inl ⟨by unfold World.cell?;rw[h1],by unfold World.cell?;rw[h2]⟩
 unfold World.cell?;rw[h1,h2,h.off,h.spot];simp only;by_cases hs:a.spot.isSome=true
 ·simp[hs]
 ·simp only[hs];exact h3.get? a.off
def qCj(P:Program):Prop:=∀t,(∀k,P.underlying t≠some (.float k))/\∀k,P.underlying t≠some (.complex k)
def Plain:Value->Prop
 |.int ..|.bool _=>True
 |_=>False
theorem qC4{P:Program}(hV:qCj P):∀(d:Nat)(t:TypeId)(off:Nat){x:Value},plainCell P d t off=some x->Plain x
 |0,_,_,_,h=>by cases h
 | d + 1, t, off, x, h => by
  have hn:=hV t;unfold plainCell at h;generalize P.underlying t=q at h hn;split at h
  ·rename_i fs;obtain⟨f,-,hf⟩:=Array.exists_of_findSome?_eq_some h;split at hf
   ·exact qC4 hV d _ _ hf
   ·cases hf
  ·simp only at h;split at h
   ·cases h
   ·exact qC4 hV d _ _ h
  ·split at h
   ·cases h;trivial
   ·cases h
  ·split at h
   ·cases h;trivial
   ·cases h
  ·exact absurd rfl (hn.1 _)
  ·exact absurd rfl (hn.2 _)
  ·cases h
theorem Plain.rel{π:Ren G}{x:Value}(h:Plain x):VRel Al π x x:=by
 cases x<;>first|exact h.elim|constructor
theorem Plain.ofBytes{y x:Value}{bs:List UInt8}(hy:Plain y)(h:y.ofBytes bs=some x):Plain x:=by
 cases y<;>first|exact hy.elim|(simp only[Value.ofBytes]at h;split at h<;>first|(cases h;trivial;done)|(cases h;done))
theorem qKy{π:Ren G}{x x':Value}(h:VRel Al π x x'){bs:List UInt8}(hb:x.bytes? = some bs):x'.bytes? = some bs:=by
 cases h<;>first|exact hb|cases hb
theorem qMd{π:Ren G}{y y' x:Value}{bs:List UInt8}(hy:VRel Al π y y')(h:y.ofBytes bs=some x):y'.ofBytes bs=some x/\Plain x:=by
 cases hy with
 |int k n=>exact⟨h,Plain.ofBytes (y:=.int k n) trivial h⟩
 |bool b=>exact⟨h,Plain.ofBytes (y:=.bool b) trivial h⟩
 |_=>cases h
theorem qF1(P:Program){π:Ren G}{c c':Array Value}(h:VsRel Al π c c')(e:TypeId):∀(n x stop:Nat){l:List (Nat×Nat×List UInt8)},seenCells P c e n x stop=.ok l->seenCells P c' e n x stop=.ok l
 |0,_,_,l,hl=>by cases hl
 | n + 1, x, stop, l, hl => by
  unfold seenCells at hl ⊢;by_cases h1:x ≥ stop
  ·simp only[h1,if_true]at hl ⊢;exact hl
  simp only[h1,if_false]at hl ⊢;by_cases h2:P.bytesOf e=0
  ·simp only[h2,if_true]at hl;cases hl
  simp only[h2,if_false]at hl ⊢;generalize Option.map _ (cellHolding P P.depth e (x%P.bytesOf e))=q at hl ⊢;cases q with
  |none=>cases hl
  | some q =>
   obtain⟨i,s⟩:=q;simp only at hl ⊢;rcases h.get? i with⟨e1,e2⟩|⟨y,y',e1,e2,hy⟩
   ·simp only[e1]at hl;cases hl
   ·simp only[e1]at hl;simp only[e2];cases hb:y.bytes? with
    |none=>simp only[hb]at hl;cases hl
    | some bs =>
     simp only[hb]at hl;simp only[qKy hy hb];cases bs with
     |nil=>cases hl
     |cons b bs =>
      simp only at hl ⊢;cases hr:seenCells P c e n (s+(b::bs).length) stop with
      |error m=>rw[hr]at hl;cases hl
      |ok l'=>rw[hr]at hl;rw[qF1 P h e n _ _ hr];exact hl
theorem qNz{P:Program}(hV:qCj P){Shr:Nat->Prop}{π:Ren G}{v w:World}(hw:WRel Al Shr π v w){a b at_ at':Addr}(h:ARel π a b)(ha:ARel π at_ at')(u:TypeId)
  {c:Array Value} {e:TypeId} {f:Nat×Nat} {first:Nat} {like:Value} {cells:List (Nat×Nat×List UInt8)} (hs:v.seen P at_ u a false=.ok (c,e,f,first,like,cells)) :
  ∃c' f',v.heap[at_.block]? = some (.cells c e f)/\w.heap[at'.block]? = some (.cells c' e f')/\VsRel Al π c c'/\(¬Shr at'.block->f'=f)/\(Shr at'.block->f=(0,c.size))/\w.seen P at' u b false=.ok (c',e,f',first,like,cells)/\Plain like:=by
 unfold World.seen at hs ⊢;rw[h.spot,h.off,ha.spot,ha.off];simp only[bind,Except.bind,pure,Except.pure,Bool.false_eq_true,if_false]at hs ⊢;by_cases h1:(a.spot.isSome||at_.spot.isSome)=true
 ·rw[if_pos h1]at hs;cases hs
 rw[if_neg h1]at hs;rw[if_neg h1];cases hp:plainCell P P.depth u a.off with
 |none=>simp only[hp]at hs;cases hs
 | some lk =>
  simp only[hp]at hs ⊢;have hpl:=qC4 hV _ _ _ hp;cases hb:Option.map (fun x=>x.length) lk.bytes? with
  |none=>simp only[hb]at hs;cases hs
  | some size =>
   simp only[hb]at hs ⊢;cases hc:byteOfCell P P.depth u a.off with
   |none=>simp only[hc]at hs;cases hs
   | some β =>
    simp only[hc]at hs ⊢;rcases hw.obj ha.block with⟨d,d',e0,g,g',x1,x2,x3,x4,x5⟩|⟨o,o',x1,x2,ho,-⟩
    ·simp only[x1]at hs;simp only[x2];by_cases h2:P.cellsOf e0=0
     ·rw[if_pos h2]at hs;cases hs
     rw[if_neg h2]at hs;rw[if_neg h2];cases hq:byteOfCell P P.depth e0 (at_.off%P.cellsOf e0)with
     |none=>simp only[hq]at hs;cases hs
     | some b0 =>
      simp only[hq]at hs ⊢;split at hs
      ·cases hs
      ·rename_i l hl;cases hs;rw[qF1 P x3 _ _ _ _ hl];exact⟨d',g',x1,rfl,x3,x4,x5,rfl,hpl⟩
    ·simp only[x1]at hs;cases ho<;>cases hs
theorem qIu(s:String):Halt.bad (.unsupported (.unsafePointer s)):=fun g h=>by cases h
theorem qHs{P:Program}(hV:qCj P){Shr:Nat->Prop}{π:Ren G}{v w:World}(hw:WRel Al Shr π v w){a b:Addr}(h:ARel π a b) :
  (∃y,v.farLoad P a false=.error y/\Halt.bad y)\/∃x l l',v.farLoad P a false=.ok (x,l)/\w.farLoad P b false=.ok (x,l')/\VRel Al π x x/\∀q∈l',∃r,π r q.block:=by
 rcases hw.obj h.block with⟨c,c',e,f,f',h1,h2,h3,-,-⟩|⟨o,o',h1,h2,ho,-⟩
 ·exact .inl ⟨_,by unfold World.farLoad;rw[h1],by unfold World.noCell;rw[h1];trivial⟩
 cases ho with
 |number l ha=>exact .inl ⟨_,by unfold World.farLoad;rw[h1],by unfold World.noCell;rw[h1];trivial⟩
 |iter s n=>exact .inl ⟨_,by unfold World.farLoad;rw[h1],by unfold World.noCell;rw[h1];trivial⟩
 | @view at_ at' ha u =>
  unfold World.farLoad;rw[h1,h2];simp only;cases hl:v.viewLoad P at_ u a false with
  |error s=>exact .inl ⟨_,rfl,qIu s⟩
  | ok r =>
   right;unfold World.viewLoad at hl ⊢;simp only[bind,Except.bind,pure,Except.pure]at hl ⊢;cases hs:v.seen P at_ u a false with
   |error s=>rw[hs]at hl;cases hl
   | ok q =>
    obtain⟨c,e,f,first,like,cells⟩:=q;obtain⟨c',f',-,-,-,-,-,hs',hp⟩:=qNz hV hw h ha u hs;rw[hs]at hl;rw[hs'];simp only at hl ⊢;generalize hob:like.ofBytes _=q at hl ⊢;cases q with
    |none=>cases hl
    |some x =>
     simp only at hl ⊢;cases hl;refine⟨x,_,_,rfl,rfl,(hp.ofBytes hob).rel,fun q hq=>?_⟩;obtain⟨y,-,rfl⟩:=List.mem_map.1 hq;exact⟨_,ha.block⟩
theorem qLH{S:Prop}{π:Ren G}{n:Nat}{γ ε:Type}{F F':Array Value->γ->Except ε (Array Value)}(hF:∀c c' q c1,VsRel Al π c c'->c.size=n->F c q=.ok c1->c1.size=n/\¬S/\∃c1',F' c' q=.ok c1'/\VsRel Al π c1 c1') :
  ∀(l:List γ){c c' c1:Array Value},VsRel Al π c c'->c.size=n->l.foldlM F c=.ok c1->c1.size=n/\∃c1',l.foldlM F' c'=.ok c1'/\VsRel Al π c1 c1'/\((c1=c/\c1'=c'/\l=[])\/¬S)
 |[],c,c',c1,hc,hn,h=>by
  cases h;exact⟨hn,c',rfl,hc,.inl ⟨rfl,rfl,rfl⟩⟩
 | q :: l, c, c', c1, hc, hn, h => by
  rw[List.foldlM_cons]at h ⊢;simp only[bind,Except.bind]at h ⊢;cases hq:F c q with
  |error e=>rw[hq]at h;cases h
  |ok d =>
   rw[hq]at h;obtain⟨x1,x2,d',x3,x4⟩:=hF c c' q d hc hn hq;obtain⟨y1,c1',y2,y3,-⟩:=qLH hF l x4 x1 h;exact⟨y1,c1',by rw[x3];exact y2,y3,.inr x2⟩
theorem qOj{S:Prop}{π:Ren G}{γ ε:Type}{F F':Array Value->γ->Except ε (Array Value)}{l:List γ}{c c' c1:Array Value}{r:Except ε (Array Value)}(hc:VsRel Al π c c')(h:l.foldlM F c=.ok c1)(h':l.foldlM F' c'=r)
  (hF:∀d d' q c1,VsRel Al π d d'->d.size=c.size->F d q=.ok c1->c1.size=c.size/\¬S/\∃c1',F' d' q=.ok c1'/\VsRel Al π c1 c1'):c1.size=c.size/\∃c1',r=.ok c1'/\VsRel Al π c1 c1'/\((c1=c/\c1'=c'/\l=[])\/¬S):=by
 subst h';exact qLH hF l hc rfl h
theorem qGi{P:Program}(hV:qCj P){Shr:Nat->Prop}{π:Ren G}{v w:World}(hw:WRel Al Shr π v w){a b:Addr}(h:ARel π a b){x x':Value}(hx:VRel Al π x x') :
  (∃y,v.farStore P a x false=.error y/\Halt.bad y)\/∃v1 w1 l l',v.farStore P a x false=.ok (v1,l)/\w.farStore P b x' false=.ok (w1,l')/\WRel Al Shr π v1 w1/\Kept Shr π w w1/\∀q∈l',(∃r,π r q.block)/\¬Shr q.block:=by
 rcases hw.obj h.block with⟨c,c',e,f,f',h1,h2,h3,-,-⟩|⟨o,o',h1,h2,ho,-⟩
 ·exact .inl ⟨_,by unfold World.farStore;rw[h1],by unfold World.noCell;rw[h1];trivial⟩
 cases ho with
 |number l ha=>exact .inl ⟨_,by unfold World.farStore;rw[h1],by unfold World.noCell;rw[h1];trivial⟩
 |iter s n=>exact .inl ⟨_,by unfold World.farStore;rw[h1],by unfold World.noCell;rw[h1];trivial⟩
 | @view at_ at' ha u =>
  unfold World.farStore;rw[h1,h2];simp only;cases hl:v.viewStore P at_ u a x false with
  |error s=>exact .inl ⟨_,rfl,qIu s⟩
  | ok r =>
   right;unfold World.viewStore at hl ⊢;simp only[bind,Except.bind,pure,Except.pure]at hl ⊢;by_cases ht:(!tight P P.depth u)=true
   ·simp only[ht,if_true]at hl;cases hl
   simp only[ht,Bool.false_eq_true,if_false]at hl ⊢;cases hs:v.seen P at_ u a false with
   |error s=>rw[hs]at hl;cases hl
   | ok q =>
    obtain⟨c,e,f,first,like,cells⟩:=q;obtain⟨c',f',y1,y2,y3,y4,y5,hs',hp⟩:=qNz hV hw h ha u hs;rw[hs]at hl;rw[hs'];simp only at hl ⊢;cases hb:x.bytes? with
    |none=>rw[hb]at hl;cases hl
    | some bytes =>
     rw[hb]at hl;rw[qKy hx hb];simp only at hl ⊢;by_cases hz:some bytes.length≠Option.map (fun x=>x.length) like.bytes?
     ·rw[if_pos hz]at hl;cases hl
     rw[if_neg hz]at hl;rw[if_neg hz];split at hl
     ·cases hl
     rename_i c1 hfold;cases hl;generalize hr:List.foldlM (m:=Except String) _ c' cells=r';obtain⟨z1,c1',rfl,z3,z4⟩:=qOj (S:=Shr at'.block) y3 hfold hr (by
      rintro d d'⟨i,s,bs⟩d1 hd hn he;by_cases g1:(decide (s<first)||decide (s+bs.length>first+bytes.length))=true
      ·simp only[g1,if_true]at he;cases he
      simp only[g1]at he ⊢;by_cases g2:(decide (f.1<=i)&&decide (i<f.2))=true
      ·simp only[g2,if_true]at he;cases he
      rcases hd.get? i with⟨x1,x2⟩|⟨y,y',x1,x2,hy⟩
      ·simp only[g2,x1]at he;cases he
      simp only[g2,x1]at he;generalize hob:y.ofBytes _=q at he;cases q with
      |none=>cases he
      |some z =>
       obtain⟨hob',hz⟩:=qMd hy hob;have hlt:i<d.size:=(Array.getElem?_eq_some_iff.1 x1).1;have hns:¬Shr at'.block:=fun q=>g2 (by rw[y5 q];simp;omega);have hff:=y4 hns;cases he;refine⟨by simp[hn],hns,d'.setIfInBounds i z,?_,hd.set i hz.rel⟩;rw[hff];simp only[g2,x2,hob'];rfl)
     have ev:∀s,(v.heap.setIfInBounds at_.block (.cells c1 e f))[s]? = if s=at_.block then some (.cells c1 e f)else v.heap[s]?:=by
      intro s;have hlt:at_.block<v.heap.size:=(Array.getElem?_eq_some_iff.1 y1).1;rw[Array.getElem?_setIfInBounds];by_cases hs:s=at_.block
      ·subst hs;simp[hlt]
      ·rw[if_neg (fun q=>hs q.symm),if_neg hs]
     have ew:∀s,(w.heap.setIfInBounds at'.block (.cells c1' e f'))[s]? = if s=at'.block then some (.cells c1' e f')else w.heap[s]?:=by
      intro s;have hlt:at'.block<w.heap.size:=(Array.getElem?_eq_some_iff.1 y2).1;rw[Array.getElem?_setIfInBounds];by_cases hs:s=at'.block
      ·subst hs;simp[hlt]
      ·rw[if_neg (fun q=>hs q.symm),if_neg hs]
     refine⟨_,_,_,_,rfl,rfl,⟨hw.tape,hw.drawn,hw.os,fun p=>by simpa using hw.low p,fun{r r'} p=>?_,fun r' hr=>by simpa using hw.shr r' hr,by simpa using hw.gv,by simpa using hw.gw,?_,hw.dead.2⟩,⟨by simp,fun r' _=>?_,rfl,rfl,rfl,Nat.le_refl _⟩,fun q hq=>?_⟩
     ·simp only[ev,ew];have hi:=π.inj p ha.block;by_cases hr:r=at_.block
      ·have hr':=hi.1 hr;simp only[hr,hr',if_true];exact .inl ⟨_,_,e,f,f',rfl,rfl,z3,y4,fun hs=>by rw[y5 hs,z1]⟩
      ·have hr':¬r'=at'.block:=fun q=>hr (hi.2 q);simp only[hr,hr',if_false];exact hw.obj p
     ·simp only[ev];rw[if_neg (fun e=>hw.dead.2 _ _ ha.block e.symm)];exact hw.dead.1
     ·simp only[ew];by_cases hr:r'=at'.block
      ·subst hr;rcases z4 with⟨-,e2,-⟩|z4
       ·rw[if_pos rfl,e2,y2];exact .inl rfl
       ·exact .inr ⟨z4,at_.block,ha.block⟩
      ·simp only[hr,if_false];exact .inl trivial
     ·obtain⟨y,hy,rfl⟩:=List.mem_map.1 hq;rcases z4 with⟨-,-,rfl⟩|z4
      ·cases hy
      ·exact⟨⟨_,ha.block⟩,z4⟩
theorem qBF{α:Type}{xs:Array α}{i j:Nat}(h:i≠j)(f:α->α):(xs.modify i f)[j]? = xs[j]?:=by
 rw[Array.getElem?_modify];simp[h]
theorem qRg{Shr:Nat->Prop}{π:Ren G}{v w:World}(hw:WRel Al Shr π v w){a b:Addr}(h:ARel π a b){x x' y:Value}(hx:VRel Al π x x')(hc:v.cell? a=some y)(hf:v.frozen? a=false) :
  w.frozen? b=false/\¬Shr b.block/\WRel Al Shr π (v.setCell a x) (w.setCell b x')/\Kept Shr π w (w.setCell b x'):=by
 obtain⟨c,c',e,f,f',h1,h2,h3,h4,h5⟩|⟨o,o',h1,h2,ho,-⟩:=hw.obj h.block
 case inr=>unfold World.cell? at hc;rw[h1]at hc;cases ho<;>cases hc
 have hcell:a.spot.isSome=false/\a.off<c.size:=by
  unfold World.cell? at hc;rw[h1]at hc;simp only at hc;by_cases hs:a.spot.isSome=true
  ·simp[hs]at hc
  ·simp only[hs]at hc;exact⟨by simpa using hs,(Array.getElem?_eq_some_iff.1 hc).1⟩
 have hfa:¬(f.1<=a.off/\a.off<f.2):=by
  unfold World.frozen? at hf;rw[h1]at hf;simpa using hf
 have hns:¬Shr b.block:=fun hs=>hfa (by rw[h5 hs];exact⟨Nat.zero_le _,hcell.2⟩);have hfb:w.frozen? b=false:=by
  unfold World.frozen?;rw[h2,h.off,h4 hns];simpa using hfa
 have hv1:∀s,(v.setCell a x).heap[s]? = if s=a.block then some (.cells (c.setIfInBounds a.off x) e f)else v.heap[s]?:=by
  intro s;unfold World.setCell;simp only;by_cases hs:s=a.block
  ·subst hs;rw[Array.getElem?_modify];simp[h1,hcell.1]
  ·rw[qBF (fun q=>hs q.symm)];simp[hs]
 have hw1:∀s,(w.setCell b x').heap[s]? = if s=b.block then some (.cells (c'.setIfInBounds a.off x') e f')else w.heap[s]?:=by
  intro s;unfold World.setCell;simp only;by_cases hs:s=b.block
  ·subst hs;rw[Array.getElem?_modify];have hbs:b.spot.isSome=false:=by rw[h.spot];exact hcell.1
   simp[h2,hbs,h.off]
  ·rw[qBF (fun q=>hs q.symm)];simp[hs]
 have sv:(v.setCell a x).heap.size=v.heap.size:=by simp[World.setCell]
 have sw:(w.setCell b x').heap.size=w.heap.size:=by simp[World.setCell]
 refine⟨hfb,hns,⟨hw.tape,hw.drawn,hw.os,fun p=>by rw[sv,sw];exact hw.low p,fun{r r'} p=>?_,fun r' hr=>by rw[sw];exact hw.shr r' hr,by rw[sv];exact hw.gv,by rw[sw];exact hw.gw,by rw[hv1,if_neg (fun e=>hw.dead.2 _ _ h.block e.symm)];exact hw.dead.1,hw.dead.2⟩,⟨by rw[sw];exact Nat.le_refl _,fun r' _=>?_,rfl,rfl,rfl,Nat.le_refl _⟩⟩
 ·rw[hv1,hw1];have hi:=π.inj p h.block;by_cases hr:r=a.block
  ·have hr':=hi.1 hr;simp only[hr,hr',if_true];exact .inl ⟨_,_,e,f,f',rfl,rfl,h3.set _ hx,h4,fun hs=>by rw[h5 hs];simp⟩
  ·have hr':¬r'=b.block:=fun q=>hr (hi.2 q);simp only[hr,hr',if_false];exact hw.obj p
 ·rw[hw1];by_cases hr:r'=b.block
  ·subst hr;exact .inr ⟨hns,a.block,h.block⟩
  ·simp only[hr,if_false];exact .inl trivial
theorem qHS{Shr:Nat->Prop}{π:Ren G}{v w:World}(hw:WRel Al Shr π v w){o o':Obj}
  (ho:∀π':Ren G,Ren.le π π'->(∃c c' e f f',o=.cells c e f/\o'=.cells c' e f'/\VsRel Al π' c c'/\f'=f)\/ObjR π' o o') :
  ∃hG,WRel Al Shr (π.and v.heap.size w.heap.size hG) { v with heap:=v.heap.push o } { w with heap:=w.heap.push o' }/\Grown π (π.and v.heap.size w.heap.size hG) w/\Kept Shr π w { w with heap:=w.heap.push o' }:=by
 have hG:(v.heap.size<G↔w.heap.size<G)/\∀x y,π x y->x≠v.heap.size/\y≠w.heap.size :=
  ⟨by have:=hw.gv;have:=hw.gw;omega,fun x y p=>by have:=hw.low p;omega⟩
 have l:Ren.le π (π.and v.heap.size w.heap.size hG):=fun _ _ h=>.inl h;have hdl:deadN<v.heap.size:=(Array.getElem?_eq_some_iff.1 hw.dead.1).1;refine⟨hG,⟨hw.tape,hw.drawn,hw.os,?_,?_,?_,?_,?_,by show(v.heap.push o)[deadN]? = _;rw[Array.getElem?_push,if_neg (by omega)];exact hw.dead.1,fun r r' p=>p.elim (hw.dead.2 r r') fun q=>by rw[q.1];omega⟩,⟨l,?_⟩,⟨by simp,fun r' hr=>.inl ?_,rfl,rfl,rfl,Nat.le_refl _⟩⟩
 ·rintro r r' (p|⟨rfl,rfl⟩)
  ·have:=hw.low p;simp;omega
  ·simp
 ·rintro r r' (p|⟨rfl,rfl⟩)
  ·have:=hw.low p;have e1:(v.heap.push o)[r]? = v.heap[r]?:=by rw[Array.getElem?_push_lt this.1,Array.getElem?_eq_getElem this.1]
   have e2:(w.heap.push o')[r']? = w.heap[r']?:=by rw[Array.getElem?_push_lt this.2,Array.getElem?_eq_getElem this.2]
   simp only[e1,e2];rcases hw.obj p with⟨c,c',e,f,f',h1,h2,h3,h4,h5⟩|⟨x,x',h1,h2,h3,h4⟩
   ·exact .inl ⟨c,c',e,f,f',h1,h2,h3.mono l,h4,h5⟩
   ·exact .inr ⟨x,x',h1,h2,h3.mono l,h4⟩
  ·rcases ho _ l with⟨c,c',e,f,f',rfl,rfl,hc,hf⟩|hoo
   ·exact .inl ⟨c,c',e,f,f',by simp,by simp,hc,fun _=>hf,fun hs=>absurd (hw.shr _ hs) (by omega)⟩
   ·exact .inr ⟨o,o',by simp,by simp,hoo,fun hs=>absurd (hw.shr _ hs) (by omega)⟩
 ·intro r' hr;have:=hw.shr r' hr;simp;omega
 ·have:=hw.gv;simp;omega
 ·have:=hw.gw;simp;omega
 ·rintro r r' (p|⟨rfl,rfl⟩)
  ·exact .inl p
  ·exact .inr (Nat.le_refl _)
 ·simp only;rw[Array.getElem?_push_lt hr,Array.getElem?_eq_getElem hr]
theorem qI1{Shr:Nat->Prop}{π:Ren G}{v w:World}(hw:WRel Al Shr π v w){a b:Addr}(h:ARel π a b)(hs:¬Shr b.block)(n:Nat) :
  WRel Al Shr π (v.freeze a n) (w.freeze b n)/\Kept Shr π w (w.freeze b n):=by
 unfold World.freeze;by_cases hn:n=0
 ·simp only[hn,if_true];exact⟨hw,.refl _ _ _⟩
 simp only[hn,if_false];have hlow:=hw.low h.block;refine⟨⟨hw.tape,hw.drawn,hw.os,fun p=>by simpa using hw.low p,fun{r r'} p=>?_,fun r' hr=>by simpa using hw.shr r' hr,by simpa using hw.gv,by simpa using hw.gw,by simp only[qBF (hw.dead.2 _ _ h.block)];exact hw.dead.1,hw.dead.2⟩,⟨by simp,fun r' _=>?_,rfl,rfl,rfl,Nat.le_refl _⟩⟩
 ·have hi:=π.inj p h.block;by_cases hr:r=a.block
  ·have hr':=hi.1 hr;subst hr hr';simp only[Array.getElem?_modify,if_true];rcases hw.obj h.block with⟨c,c',e,f,f',h1,h2,h3,h4,h5⟩|⟨o,o',h1,h2,ho,h4⟩
   ·rw[h1,h2,h4 hs,h.off];exact .inl ⟨c,c',e,_,_,rfl,rfl,h3,fun _=>rfl,fun q=>absurd q hs⟩
   ·rw[h1,h2];cases ho with
    |number l ha=>exact .inr ⟨_,_,rfl,rfl,.number l ha,hs⟩
    |iter x m=>exact .inr ⟨_,_,rfl,rfl,.iter x m,hs⟩
    |view ha u=>exact .inr ⟨_,_,rfl,rfl,.view ha u,hs⟩
  ·have hr':¬r'=b.block:=fun q=>hr (hi.2 q);simp only[qBF (Ne.symm hr),qBF (Ne.symm hr')];exact hw.obj p
 ·by_cases hr:r'=b.block
  ·subst hr;exact .inr ⟨hs,a.block,h.block⟩
  ·exact .inl (by simp only[qBF (Ne.symm hr)])
theorem qJR{Shr:Nat->Prop}{π:Ren G}{v w:World}(hw:WRel Al Shr π v w){r r':Nat}(h:π r r'){o o':Obj}(ho:ObjR π o o')(hs:¬Shr r') :
  WRel Al Shr π { v with heap:=v.heap.setIfInBounds r o } { w with heap:=w.heap.setIfInBounds r' o' }/\Kept Shr π w { w with heap:=w.heap.setIfInBounds r' o' }:=by
 have sv:(v.heap.setIfInBounds r o).size=v.heap.size:=by simp
 have sw:(w.heap.setIfInBounds r' o').size=w.heap.size:=by simp
 have hlow:=hw.low h;have hw':WRel Al Shr π { v with heap:=v.heap.setIfInBounds r o } { w with heap:=w.heap.setIfInBounds r' o' }:=by
  refine⟨hw.tape,hw.drawn,hw.os,fun p=>by simp only[sv,sw];exact hw.low p,fun{a a'} p=>?_,fun a' ha=>by simp only[sw];exact hw.shr a' ha,by simp only[sv];exact hw.gv,by simp only[sw];exact hw.gw,by simp only[Array.getElem?_setIfInBounds_ne (hw.dead.2 _ _ h)];exact hw.dead.1,hw.dead.2⟩;have hi:=π.inj p h;by_cases ha:a=r
  ·have ha':=hi.1 ha;subst ha ha';exact .inr ⟨o,o',by simp[hlow.1],by simp[hlow.2],ho,hs⟩
  ·have ha':¬a'=r':=fun q=>ha (hi.2 q);simp only[Array.getElem?_setIfInBounds_ne (Ne.symm ha),Array.getElem?_setIfInBounds_ne (Ne.symm ha')];exact hw.obj p
 have hk':Kept Shr π w { w with heap:=w.heap.setIfInBounds r' o' }:=⟨by simp,fun a' _=>by
  by_cases ha':a'=r'
  ·subst ha';exact .inr ⟨hs,r,h⟩
  ·exact .inl (by simp only[Array.getElem?_setIfInBounds_ne (Ne.symm ha')]),rfl,rfl,rfl,Nat.le_refl _⟩
 exact⟨hw',hk'⟩
theorem SRel.run{P:Program}(hV:qCj P){Shr:Nat->Prop}{α β:Type}{R:Ren G->α->β->Prop}{π:Ren G}{s:Sem α}{s':Sem β}(h:SRel P Al Shr R π s s') :
  ∀{v w:World}(es es':Array Event),WRel Al Shr π v w->(∀e∈es',EvOk Shr π e)->EndRel Al Shr R π w (s.runT P v es).1 (s'.runT P w es'):=by
 induction h with
 |pure h=>intro v w es es' hw he;exact⟨_,w,es',_,rfl,h,hw,.refl _ _,.refl _ _ _,he⟩
 | @load π a b h k k' hk ih =>
  intro v w es es' hw he;rcases qHD hw h with⟨h1,h2⟩|⟨x,x',h1,h2,hx⟩
  ·rcases qHs hV hw h with⟨y,hy,hb⟩|⟨x,l,l',e1,e2,hx,hl⟩
   ·simp only[Sem.runT,h1,show(Mode.plain==Mode.atomic)=false from rfl,hy];cases y<;>first|exact hb|exact hb.elim
   ·simp only[Sem.runT,h1,h2,show(Mode.plain==Mode.atomic)=false from rfl,e1,e2];refine ih x x hx _ _ hw fun e hm=>?_;rcases Array.mem_append.1 hm with hm|hm
    ·exact he e hm
    ·obtain⟨q,hq,rfl⟩:=Array.mem_map.1 hm;exact .inl ⟨q,rfl,rfl,hl q (by simpa using hq),fun q=>by cases q⟩
  ·simp only[Sem.runT,h1,h2];refine ih x x' hx _ _ hw fun e hm=>?_;rcases Array.mem_push.1 hm with hm|rfl
   ·exact he e hm
   ·exact .inl ⟨b,rfl,rfl,⟨_,h.block⟩,fun q=>by cases q⟩
 | @store π a b h x x' hx k k' hk ih =>
  intro v w es es' hw he;have key:(∀c,x≠.agg c)->(∀c,x≠.tuple c)->(∀c,x'≠.agg c)->(∀c,x'≠.tuple c)->EndRel Al Shr R π w ((Sem.store Mode.plain a x k).runT P v es).1 ((Sem.store Mode.plain b x' k').runT P w es'):=by
   intro n1 n2 n3 n4;have e1:(Sem.store Mode.plain a x k).runT P v es=match v.cell? a with
    | some _ => if v.frozen? a then (.halt (.unsupported (.unsafePointer "a write to bytes that a string shares")) v, es) else k.runT P (v.setCell a x) (es.push ⟨.cell a, true, Mode.plain == .atomic⟩)
    |none=>match v.farStore P a x (Mode.plain==.atomic)with
     |.ok (w,touched)=>k.runT P w (es++touched.toArray.map (⟨.cell ·,true,Mode.plain==.atomic⟩))
     |.error h=>(.halt h v,es):=by
    cases x<;>first|rfl|exact absurd rfl (n1 _)|exact absurd rfl (n2 _)
   have e2:(Sem.store Mode.plain b x' k').runT P w es'=match w.cell? b with
    | some _ => if w.frozen? b then (.halt (.unsupported (.unsafePointer "a write to bytes that a string shares")) w, es') else k'.runT P (w.setCell b x') (es'.push ⟨.cell b, true, Mode.plain == .atomic⟩)
    |none=>match w.farStore P b x' (Mode.plain==.atomic)with
     |.ok (w,touched)=>k'.runT P w (es'++touched.toArray.map (⟨.cell ·,true,Mode.plain==.atomic⟩))
     |.error h=>(.halt h w,es'):=by
    cases x'<;>first|rfl|exact absurd rfl (n3 _)|exact absurd rfl (n4 _)
   rcases qHD hw h with⟨h1,h2⟩|⟨y,y',h1,h2,hy⟩
   ·rcases qGi hV hw h hx with⟨z,hz,hb⟩|⟨v1,w1,l,l',g1,g2,hw',hk',hl⟩
    ·rw[e1,h1];simp only[show(Mode.plain==Mode.atomic)=false from rfl,hz];cases z<;>first|exact hb|exact hb.elim
    ·rw[e1,e2,h1,h2];simp only[show(Mode.plain==Mode.atomic)=false from rfl,g1,g2];refine EndRel.trans (.refl π w) hk' (ih _ _ hw' fun e hm=>?_);rcases Array.mem_append.1 hm with hm|hm
     ·exact he e hm
     ·obtain⟨q,hq,rfl⟩:=Array.mem_map.1 hm;have:=hl q (by simpa using hq);exact .inl ⟨q,rfl,rfl,this.1,fun _=>this.2⟩
   ·rw[e1,e2,h1,h2];cases hf:v.frozen? a with
    |true=>exact fun g q=>by cases q
    |false =>
     obtain⟨f2,hns,hw',hk'⟩:=qRg hw h hx h1 hf;simp only[f2];refine EndRel.trans (.refl π w) hk' (ih _ _ hw' fun e hm=>?_);rcases Array.mem_push.1 hm with hm|rfl
     ·exact he e hm
     ·exact .inl ⟨b,rfl,rfl,⟨_,h.block⟩,fun _=>hns⟩
  cases hx with
  |agg hs h=>exact trivial
  |tuple hs h=>exact trivial
  |lost a=>exact trivial
  |_=>exact key (by simp) (by simp) (by simp) (by simp)
 |new e hc _ ih =>
  intro v w es es' hw he;obtain⟨_,h1,h2,h3⟩:=qHS hw (fun π' l=>.inl ⟨_,_,e,(0,0),(0,0),rfl,rfl,hc.mono l,rfl⟩);simp only[Sem.runT];exact EndRel.trans h2 h3 (ih _ _ _ h2.le (.inr ⟨rfl,rfl⟩) (fun hs=>absurd (hw.shr _ hs) (by omega)) _ _ h1 fun e hm=>(he e hm).mono h2.le)
 | @shape π r r' h k k' hk ih =>
  intro v w es es' hw he;have e:w.shape? r'=v.shape? r:=by
   unfold World.shape?;rcases hw.obj h with⟨c,c',e,f,f',h1,h2,h3,-,-⟩|⟨o,o',h1,h2,ho,-⟩
   ·rw[h1,h2];simp only[h3.size]
   ·rw[h1,h2];cases ho<;>rfl
  simp only[Sem.runT,e];exact ih _ _ _ hw he
 | @frozen π a b h hs k k' hk ih =>
  intro v w es es' hw he;have e:w.frozen? b=v.frozen? a:=by
   unfold World.frozen?;rcases hw.obj h.block with⟨c,c',e,f,f',h1,h2,h3,h4,-⟩|⟨o,o',h1,h2,ho,-⟩
   ·rw[h1,h2,h4 hs,h.off]
   ·rw[h1,h2];cases ho<;>rfl
  simp only[Sem.runT,e];exact ih _ _ _ hw he
 | @getObj π r r' h k k' hk ih =>
  intro v w es es' hw he;rcases hw.obj h with⟨c,c',e,f,f',h1,h2,h3,-,-⟩|⟨o,o',h1,h2,ho,hs⟩
  ·simp only[Sem.runT,h1];exact trivial
  ·have ev:∀b,EvOk Shr π ⟨.obj r',false,b⟩->∀e∈es'.push ⟨.obj r',false,b⟩,EvOk Shr π e:=fun b hb e hm=>by
    rcases Array.mem_push.1 hm with hm|rfl
    ·exact he e hm
    ·exact hb
   have hq:EvOk Shr π ⟨.obj r',false,false⟩:=.inr (.inr (.inr ⟨r',rfl,rfl,⟨_,h⟩,fun q=>by cases q⟩));have:=fun es es'=>ih o o' ho (v:=v) (w:=w) es es' hw;cases ho with
   |number l ha=>simp only[Sem.runT,h1,h2];exact this _ _ (ev _ hq)
   |iter x n=>simp only[Sem.runT,h1,h2];exact this _ _ (ev _ hq)
   |view ha u=>simp only[Sem.runT,h1,h2];exact this _ _ (ev _ hq)
 | @setObj π r r' h o o' ho k k' hk ih =>
  intro v w es es' hw he;rcases hw.obj h with⟨c,c',e,f,f',h1,h2,h3,-,-⟩|⟨x,x',h1,h2,hx,hs⟩
  ·simp only[Sem.runT,h1];exact trivial
  ·obtain⟨hw',hk'⟩:=qJR hw h ho hs;have ev:∀e∈es'.push ⟨.obj r',true,false⟩,EvOk Shr π e:=fun e hm=>by
    rcases Array.mem_push.1 hm with hm|rfl
    ·exact he e hm
    ·exact .inr (.inr (.inr ⟨r',rfl,rfl,⟨_,h⟩,fun _=>hs⟩))
   have fin:=fun es=>EndRel.trans (.refl π w) hk' (ih es _ hw' ev);cases hx<;>cases ho<;>(simp only[Sem.runT,h1,h2];exact fin _)
 |@newObj π o o' ho k k' hk ih =>
  intro v w es es' hw he;obtain⟨_,h1,h2,h3⟩:=qHS hw (fun π' m=>.inr (ho.mono m));simp only[Sem.runT];exact EndRel.trans h2 h3 (ih _ _ _ h2.le (.inr ⟨rfl,rfl⟩) _ _ h1 fun e hm=>(he e hm).mono h2.le)
 |@freeze π a b h hs n k k' hk ih =>
  intro v w es es' hw he;simp only[Sem.runT];obtain⟨hw',hk'⟩:=qI1 hw h hs n;exact EndRel.trans (.refl π w) hk' (ih _ _ hw' he)
 |extern f _ ih =>
  intro v w es es' hw he;simp only[Sem.runT];refine ih _ _ hw fun e hm=>?_;rcases Array.mem_push.1 hm with hm|rfl
  ·exact he e hm
  ·exact .inr (.inr (.inl ⟨f,rfl⟩))
 | choose q _ ih =>
  intro v w es es' hw he;have eq:w.tape w.drawn q=v.tape v.drawn q:=by rw[hw.tape,hw.drawn]
  simp only[Sem.runT];by_cases hf:q.forced=true
  ·rw[if_pos hf,if_pos hf];exact ih 0 _ _ hw he
  ·rw[if_neg hf,if_neg hf,eq];exact EndRel.trans (w:=w) (w':={ w with drawn:=w.drawn+1 }) ⟨Ren.le_refl _,fun _ _ h=>.inl h⟩ ⟨Nat.le_refl _,fun _ _=>.inl rfl,rfl,rfl,rfl,Nat.le_succ _⟩
    (ih (q.cut (v.tape v.drawn q)) (v:={ v with drawn:=v.drawn+1 }) (w:={ w with drawn:=w.drawn+1 }) es es' ⟨hw.tape,by simp[hw.drawn],hw.os,hw.low,hw.obj,hw.shr,hw.gv,hw.gw,hw.dead⟩ he)
 |program _ ih=>intro v w es es' hw he;exact ih _ _ hw he
 |noRoom _ ih =>
  intro v w es es' hw he;simp only[Sem.runT];refine ih _ _ hw fun e hm=>?_;rcases Array.mem_push.1 hm with hm|rfl
  ·exact he e hm
  ·exact .inr (.inl rfl)
 |doom hb s' =>
  intro v w es es' hw he;obtain⟨y,v1,h1,h2⟩:=hb.run v es hw.dead.1;rw[h1];cases y<;>first|exact h2|exact h2.elim
 |panic h=>intro v w es es' hw he;exact⟨_,w,es',_,rfl,h,hw,.refl _ _,.refl _ _ _⟩
 |@bad π y hb s =>
  intro v w es es' hw he;simp only[Sem.runT];cases y<;>first|exact hb|exact hb.elim
 | @env π kv kk _ hn ih =>
  intro v w es es' hw he;simp only[Sem.runT,qVN];have h:=ih (.strings v.os.env) #[] #[] hw (by simp);obtain⟨y,v1,e⟩:=hn (.strings v.os.env) v;rw[hw.os];rw[Sem.runT_eq]at h ⊢;rw[e]at h ⊢;cases y with
  |panic y =>
   obtain⟨y',w1,es1,π',ex,h⟩:=h;rw[Sem.runT_eq]at ex;have e2:=(Prod.mk.inj ex).1;have e3:∀es2:Array Event,(kk (.strings v.os.env)).runT P w es2=(.halt (.panic y') w1,((kk (.strings v.os.env)).runT P w es2).2):=fun es2=>Prod.ext ((congrArg Prod.fst (Sem.runT_eq ..)).trans e2) rfl;rw[e3];exact⟨y',w1,_,π',rfl,h⟩
  |_=>exact h
abbrev VR{G:Nat}(Al:FuncId->Prop):Ren G->Value->Value->Prop:=fun π v v'=>VRel Al π v v'
abbrev VsR{G:Nat}(Al:FuncId->Prop):Ren G->Array Value->Array Value->Prop:=fun π v v'=>VsRel Al π v v'
abbrev AR{G:Nat}:Ren G->Addr->Addr->Prop:=fun π a b=>ARel π a b
abbrev EqR{G:Nat}{α:Type}:Ren G->α->α->Prop:=fun _ a b=>b=a
def qOu:Value->Bool
 |.bool _|.int _ _|.string _|.pointer none|.slice none _ _|.map none|.chan none|.nilFunc|.nilIface=>true
 |_=>false
def qNk:Value->Bool
 |.agg c=>c.all qOu
 |.tuple c=>c.all qOu
 |v=>qOu v
theorem qLQ{G:Nat}{Al:FuncId->Prop}(π:Ren G){v:Value}(h:qOu v=true):VRel Al π v v:=by
 unfold qOu at h;split at h<;>first|constructor|cases h
theorem qH2{G:Nat}{Al:FuncId->Prop}(π:Ren G){c:Array Value}(h:c.all qOu=true):VsRel Al π c c :=
 ⟨rfl,fun i a _=>qLQ π (by rw[Array.all_eq_true]at h;exact h i a)⟩
theorem qJD{G:Nat}{Al:FuncId->Prop}(π:Ren G){v:Value}(h:qNk v=true):VRel Al π v v:=by
 unfold qNk at h;split at h
 ·exact .agg rfl (qH2 π h).get
 ·exact .tuple rfl (qH2 π h).get
 ·exact qLQ π h
def qEc(P:Program)(t:TypeId):Bool:=(P.info? t).all fun i=>i.zero.all qNk
def qGh(P:Program)(t:TypeId):Bool :=
 match P.underlying t with
 |some (.slice e)=>qEc P e
 |_=>true
section
variable{P:Program}{Al:FuncId->Prop}{Shr:Nat->Prop}{G:Nat}{π:Ren G}
theorem SRel.bnd{α β γ δ:Type}{R:Ren G->α->β->Prop}{S:Ren G->γ->δ->Prop}{s:Sem α}{s':Sem β}(h:SRel P Al Shr R π s s'){f:α->Sem γ}{f':β->Sem δ}
  (hf:∀π' a b,Ren.le π π'->R π' a b->SRel P Al Shr S π' (f a) (f' b)):SRel P Al Shr S π (s >>= f) (s' >>= f'):=SRel.bind h hf
theorem SRel.pur{α β:Type}{R:Ren G->α->β->Prop}{a:α}{b:β}(h:R π a b):SRel P Al Shr R π (Pure.pure a) (Pure.pure b):=.pure h
theorem SRel.bndE{α γ δ:Type}{S:Ren G->γ->δ->Prop}{s s':Sem α}(h:SRel P Al Shr EqR π s s'){f:α->Sem γ}{f':α->Sem δ}
  (hf:∀π' a,Ren.le π π'->SRel P Al Shr S π' (f a) (f' a)):SRel P Al Shr S π (s >>= f) (s' >>= f'):=SRel.bind h fun π' a b l e=>by cases e;exact hf π' a l
theorem qAD{α β:Type}{R:Ren G->α->β->Prop}(why:String)(s:Sem β):SRel P Al Shr R π (stuck why:Sem α) s:=SRel.bad (h:=.stuck why) trivial s
theorem qAT{α β:Type}{R:Ren G->α->β->Prop}{u:Unsupported}(h:∀g,u≠.initOrder g)(s:Sem β):SRel P Al Shr R π (unsupported u:Sem α) s:=SRel.bad (h:=.unsupported u) h s
theorem qBs{α β:Type}{R:Ren G->α->β->Prop}{f:Program->Sem α}{f':Program->Sem β}(h:SRel P Al Shr R π (f P) (f' P)):SRel P Al Shr R π (program >>= f) (program >>= f'):=.program h
theorem qAv(t:TypeId):SRel P Al Shr EqR π (underlying t) (underlying t):=by
 unfold underlying;refine qBs ?_;split
 ·exact .pur rfl
 ·exact qAD _ _
theorem qEO(t:TypeId):SRel P Al Shr (fun _ a b=>b=a/\P.info? t=some a) π (typeInfo t) (typeInfo t):=by
 unfold typeInfo;refine qBs ?_;split
 ·rename_i i h;exact .pur ⟨rfl,h⟩
 ·exact qAD _ _
theorem qBf(t:TypeId):SRel P Al Shr EqR π (typeInfo t) (typeInfo t):=(qEO t).mono fun _ _ _ _ h=>h.1
theorem qBb(t:TypeId):SRel P Al Shr EqR π (sizeOf t) (sizeOf t):=by
 unfold sizeOf;exact .bndE (qBf t) fun π' a l=>.pur rfl
theorem qUJ(t:TypeId):SRel P Al Shr EqR π (isAgg t) (isAgg t):=by
 unfold isAgg;refine .bndE (qAv t) fun π' a l=>?_;split<;>exact .pur rfl
theorem qPS{t:TypeId}(ok:qEc P t=true):SRel P Al Shr (VR Al) π (zeroValue t) (zeroValue t):=by
 unfold zeroValue;refine .bnd (qEO t) fun π' a b l h=>?_;obtain⟨rfl,h⟩:=h;cases hz:b.zero with
 |some v=>exact .pur (qJD π' (by simpa [qEc,h,hz]using ok))
 |none=>exact qAT (by simp) _
theorem qA2(t:TypeId):SRel P Al Shr (fun _ a b=>b=a/\P.underlying t=some a) π (underlying t) (underlying t):=by
 unfold underlying;refine qBs ?_;split
 ·rename_i d h;exact .pur ⟨rfl,h⟩
 ·exact qAD _ _
theorem qWK{a b:Addr}(h:ARel π a b):SRel P Al Shr (VR Al) π (load a) (load b):=.load h fun _ _ hv=>.pure hv
theorem qWP{a b:Addr}(h:ARel π a b){v v':Value}(hv:VRel Al π v v'):SRel P Al Shr EqR π (store a v) (store b v'):=.store h hv (.pure rfl)
theorem qLp:∀(n i:Nat){a b:Addr}{c c':Array Value}{π:Ren G},ARel π a b->VsRel Al π c c'->SRel P Al Shr (VsR Al) π (loadCellsFrom a i n c) (loadCellsFrom b i n c')
 |0,_,_,_,_,_,_,_,hc=>.pur hc
 |n+1,i,a,b,c,c',π,h,hc=>by
  unfold loadCellsFrom;exact .bnd (qWK (h.add i)) fun π' v v' l hv=>qLp n (i+1) (h.mono l) ((hc.mono l).push hv)
theorem qGU{a b:Addr}(h:ARel π a b)(n:Nat):SRel P Al Shr (VsR Al) π (loadCells a n) (loadCells b n):=qLp n 0 h (.empty π)
theorem qNy(t:TypeId){a b:Addr}(h:ARel π a b):SRel P Al Shr (VR Al) π (loadVar t a) (loadVar t b):=by
 unfold loadVar;refine .bndE (qUJ t) fun π' x l=>?_;cases x
 ·exact qWK (h.mono l)
 ·refine .bndE (qBb t) fun π'' n l'=>?_;exact .bnd (qGU ((h.mono l).mono l') n) fun π3 c c' l3 hc=>.pur (.agg hc.size hc.get)
inductive LRel (Al:FuncId->Prop) (π:Ren G):List Value->List Value->Prop
 |nil:LRel Al π [] []
 |cons {v v':Value} {l l':List Value} (h:VRel Al π v v') (t:LRel Al π l l'):LRel Al π (v::l) (v'::l')
theorem LRel.mono{π π':Ren G}(m:Ren.le π π'){l l':List Value}(h:LRel Al π l l'):LRel Al π' l l':=by
 induction h with
 |nil=>exact .nil
 |cons h _ ih=>exact .cons (h.mono m) ih
theorem LRel.of{l l':List Value}(hs:l.length=l'.length)(h:∀i (a:i<l.length) (b:i<l'.length),VRel Al π l[i] l'[i]):LRel Al π l l':=by
 induction l generalizing l' with
 |nil=>cases l' with
  |nil=>exact .nil
  |cons _ _=>cases hs
 |cons x l ih=>cases l' with
  |nil=>cases hs
  |cons y l'=>exact .cons (h 0 (by simp) (by simp)) (ih (by simpa using hs) fun i a b=>h (i+1) (by simpa using a) (by simpa using b))
theorem VsRel.list{c c':Array Value}(h:VsRel Al π c c'):LRel Al π c.toList c'.toList :=
 .of (by simpa using h.size) fun i a b=>by simpa using h.get i (by simpa using a) (by simpa using b)
theorem LRel.arr{l l':List Value}(h:LRel Al π l l'):VsRel Al π l.toArray l'.toArray:=by
 induction h with
 |nil=>exact .empty _
 |@cons v v' l l' h t ih =>
  refine⟨by simpa using ih.size,fun i a b=>?_⟩;cases i with
  |zero=>exact h
  |succ i=>exact ih.get i (by simpa using a) (by simpa using b)
theorem qDn:∀{l l':List Value}{π:Ren G}(_:LRel Al π l l'){a b:Addr}(i:Nat),ARel π a b->SRel P Al Shr EqR π (storeCells a l i) (storeCells b l' i)
 |_,_,_,.nil,_,_,_,_=>.pur rfl
 |_,_,_,.cons h t,a,b,i,ha=>by
  unfold storeCells;exact .bndE (qWP (ha.add i) h) fun π' _ l=>qDn (t.mono l) (i+1) (ha.mono l)
theorem qRd(t:TypeId){a b:Addr}(h:ARel π a b){v v':Value}(hv:VRel Al π v v'):SRel P Al Shr EqR π (storeVar t a v) (storeVar t b v'):=by
 unfold storeVar;refine .bndE (qBb t) fun π' n l=>?_;have hc:=(hv.mono l).cells;rw[<-hc.size];split
 ·exact qAD _ _
 ·exact qDn hc.list 0 (h.mono l)
theorem qGV(e:TypeId){c c':Array Value}(h:VsRel Al π c c'):SRel P Al Shr AR π (newRow e c) (newRow e c'):=by
 unfold newRow;exact SRel.new e h fun r r' π' l hp _=>.pure ⟨hp,rfl,rfl⟩
theorem qPP(e:TypeId){c c':Array Value}(h:VsRel Al π c c'):SRel P Al Shr (fun π a b=>ARel π a b/\¬Shr b.block) π (newRow e c) (newRow e c'):=by
 unfold newRow;exact SRel.new e h fun r r' π' l hp hs=>.pure ⟨⟨hp,rfl,rfl⟩,hs⟩
theorem qMr(e:TypeId){v v':Value}(h:VRel Al π v v'):SRel P Al Shr AR π (newVar e v) (newVar e v'):=qGV e h.cells
theorem qNu{v v':Value}(h:VRel Al π v v'):SRel P Al Shr EqR π (asIntOf v) (asIntOf v'):=by
 cases h<;>first|exact .pur rfl|exact qAD _ _|exact qAT (by simp) _
theorem qFF{v v':Value}(h:VRel Al π v v'):SRel P Al Shr EqR π (asInt v) (asInt v'):=by
 unfold asInt;exact .bndE (qNu h) fun _ _ _=>.pur rfl
theorem qRQ{v v':Value}(h:VRel Al π v v'):SRel P Al Shr EqR π (asBool v) (asBool v'):=by
 cases h<;>first|exact .pur rfl|exact qAD _ _
theorem qWF{v v':Value}(h:VRel Al π v v'):SRel P Al Shr (VsR Al) π (asAgg v) (asAgg v'):=by
 cases h with
 |agg hs h=>exact .pur ⟨hs,h⟩
 |_=>exact qAD _ _
theorem qRe{v v':Value}(h:VRel Al π v v'):SRel P Al Shr AR π (Instr.sureAddr v) (Instr.sureAddr v'):=by
 cases h with
 |pointer h=>exact .pur h
 |_=>exact qAD _ _
theorem qPQ(t:TypeId){c c':Array Value}(h:VsRel Al π c c')(off:Nat):SRel P Al Shr (VR Al) π (part t c off) (part t c' off):=by
 unfold part;refine .bndE (qUJ t) fun π' x l=>?_;cases x
 ·simp only[Bool.false_eq_true,if_false];rcases h.get? off with⟨h1,h2⟩|⟨v,v',h1,h2,hv⟩
  ·rw[h1];exact qAD _ _
  ·rw[h1,h2];exact .pur (hv.mono l)
 ·simp only[if_true];refine .bndE (qBb t) fun π'' n l'=>.pur ?_;have:=((h.mono l).mono l').extract off (off+n);exact .agg this.size this.get
theorem sError{α β:Type}{R:Ren G->α->β->Prop}(m:String):SRel P Al Shr R π (runtimePanic (.error m):Sem α) (runtimePanic (.error m):Sem β):=.program (.panic (.iface _ (.string _)))
theorem qC7{α β:Type}{R:Ren G->α->β->Prop}:SRel P Al Shr R π (runtimePanic .nilDeref:Sem α) (runtimePanic .nilDeref:Sem β):=.program (.panic (.iface _ (.string _)))
theorem qJK{α β:Type}{R:Ren G->α->β->Prop}(x y:Int)(s:Bool)(c:BoundsCode):SRel P Al Shr R π (runtimePanic (.bounds x y s c):Sem α) (runtimePanic (.bounds x y s c):Sem β):=by
 refine .program (.panic (.iface _ (.agg rfl fun i a b=>?_)));have:i=0\/i=1\/i=2\/i=3:=by simp at a;omega
 rcases this with rfl|rfl|rfl|rfl<;>constructor
theorem qGT{α β:Type}{R:Ren G->α->β->Prop}(k:IntKind)(x y:Int)(c:BoundsCode):SRel P Al Shr R π (boundsPanic k x y c:Sem α) (boundsPanic k x y c:Sem β):=by
 unfold boundsPanic;split
 ·exact .choose _ fun n=>qJK _ _ _ _
 ·exact qJK _ _ _ _
end
section
variable{P:Program}{Al:FuncId->Prop}{Shr:Nat->Prop}{G:Nat}{π:Ren G}
theorem qVE(t:TypeId){v v':Value}(h:VRel Al π v v'):SRel P Al Shr (VR Al) π (Instr.loadAt t v) (Instr.loadAt t v'):=by
 unfold Instr.loadAt;exact .bnd (qRe h) fun π' a b l hab=>qNy t hab
theorem qTa(t:TypeId){v v' x x':Value}(h:VRel Al π v v')(hx:VRel Al π x x'):SRel P Al Shr EqR π (Instr.storeAt t v x) (Instr.storeAt t v' x'):=by
 unfold Instr.storeAt;exact .bnd (qRe h) fun π' a b l hab=>qRd t hab (hx.mono l)
def qHu(P:Program)(s:TypeId)(f:Nat):Bool :=
 match P.underlying s with
 |some (.struct fs)=>match fs[f]? with
  |some fd=>(P.info? fd.type).all fun i=>i.size != 0
  |none=>true
 |_=>true
theorem qTX(s:TypeId)(f:Nat)(ok:qHu P s f=true){v v':Value}(h:VRel Al π v v'):SRel P Al Shr (VR Al) π (Instr.fieldAt s v f) (Instr.fieldAt s v' f):=by
 unfold Instr.fieldAt underlying;refine SRel.bnd (R:=fun _ a b=>b=a/\P.underlying s=some a) (qBs ?_) ?_
 ·cases hu:P.underlying s with
  |some d=>exact .pur ⟨rfl,rfl⟩
  |none=>exact qAD _ _
 rintro π' _ a l⟨rfl,hu⟩;cases a with
 | struct fs =>
  simp only;cases hf:fs[f]? with
  |none=>exact qAD _ _
  | some fd =>
   simp only;refine .bnd (qRe (h.mono l)) fun π'' x y l' hxy=>?_;unfold fieldPlace;refine SRel.bnd (R:=AR) ?_ fun π3 x y l3 hxy=>.pur (.pointer hxy);unfold sizeOf;refine SRel.bnd (R:=fun _ a b=>b=a/\a≠0) (.bnd (qEO fd.type) ?_) ?_
   ·rintro π3 i _ l3 ⟨rfl,hi⟩;refine .pur ⟨rfl,?_⟩;unfold qHu at ok;simp only[hu,hf,hi,Option.all_some]at ok;simpa using ok
   ·rintro π3 n _ l3 ⟨rfl,hn⟩;rw[if_neg hn,if_neg hn];exact .pur ((hxy.mono l3).add _)
 |_=>exact qAD _ _
theorem qWI(t:TypeId)(f:Nat){v v':Value}(h:VRel Al π v v'):SRel P Al Shr (VR Al) π (Instr.field t v f) (Instr.field t v' f):=by
 unfold Instr.field;refine .bndE (qAv t) fun π' a l=>?_;cases a with
 |struct fs =>
  simp only;cases hf:fs[f]? with
  |none=>exact qAD _ _
  |some fd=>exact .bnd (qWF (h.mono l)) fun π'' c c' l' hc=>qPQ _ hc _
 |_=>exact qAD _ _
theorem qTY(t:TypeId){x x' i i':Value}(hx:VRel Al π x x')(hi:VRel Al π i i'):SRel P Al Shr (VR Al) π (Instr.indexAt t x i) (Instr.indexAt t x' i'):=by
 unfold Instr.indexAt;refine .bndE (qNu hi) fun π1 k l1=>?_;obtain⟨k,n⟩:=k;simp only;refine .bndE (qAv t) fun π2 d l2=>?_;have hx2:=(hx.mono l1).mono l2;cases d with
 | array len elem =>
  refine .bnd (qRe hx2) fun π3 a b l3 hab=>?_;refine .bndE (qAv t) fun π4 d3 l4=>?_;simp only;split
  ·exact .bndE (qBb elem) fun π5 m l5=>.pur (.pointer (((hab.mono l4).mono l5).add _))
  ·repeat' split
   all_goals first|exact qGT _ _ _ _|exact qAT (by simp) _
 | slice elem =>
  cases hx2 with
  |nilSlice n c=>exact .bndE (qAv t) fun π4 d3 l4=>qGT _ _ _ _
  | slice hab n c =>
   refine SRel.bndE (s:=underlying t) (qAv t) fun π4 d3 l4=>?_;simp only;split
   ·exact .bndE (qBb elem) fun π5 m l5=>.pur (.pointer (((hab.mono l4).mono l5).add _))
   ·repeat' split
    all_goals first|exact qGT _ _ _ _|exact qAT (by simp) _
  |_=>exact qAD _ _
 |_=>exact qAD _ _
theorem qWJ(t:TypeId){x x' i i':Value}(hx:VRel Al π x x')(hi:VRel Al π i i'):SRel P Al Shr (VR Al) π (Instr.index t x i) (Instr.index t x' i'):=by
 unfold Instr.index;refine .bndE (qNu hi) fun π1 k l1=>?_;obtain⟨k,n⟩:=k;simp only;refine .bndE (qAv t) fun π2 d l2=>?_;have hx2:=(hx.mono l1).mono l2;cases d with
 | array len elem =>
  cases hx2 with
  |agg hs h =>
   simp only;split
   ·exact .bndE (qBb elem) fun π3 m l3=>qPQ _ ((VsRel.mk hs h).mono l3) _
   ·exact qGT _ _ _ _
  |_=>exact qAD _ _
 | string =>
  cases hx2 with
  |string s =>
   simp only;split
   ·exact .pur (.int _ _)
   ·exact qGT _ _ _ _
  |_=>exact qAD _ _
 |_=>exact qAD _ _
theorem qTW{x x':Value}(hx:VRel Al π x x')(i:Nat):SRel P Al Shr (VR Al) π (Instr.extract x i) (Instr.extract x' i):=by
 cases hx with
 |tuple hs h =>
  unfold Instr.extract;rcases (VsRel.mk hs h).get? i with⟨h1,h2⟩|⟨v,v',h1,h2,hv⟩
  ·simp only[h1];exact qAD _ _
  ·simp only[h1,h2];exact .pur hv
 |_=>exact qAD _ _
theorem qPN(t:TypeId){x x':Value}(hx:VRel Al π x x'):SRel P Al Shr (VR Al) π (Instr.makeInterface t x) (Instr.makeInterface t x'):=by
 unfold Instr.makeInterface;refine .bndE (qAv t) fun π2 d l2=>?_;cases d<;>first|exact qAD _ _|exact .pur (.iface _ (hx.mono l2))
theorem qXv(t:TypeId){x x':Value}(hx:VRel Al π x x'):SRel P Al Shr (VR Al) π (Instr.box t x) (Instr.box t x'):=by
 unfold Instr.box;exact .bnd (qMr t hx) fun π' a b l h=>.pur (.pointer h)
theorem qWE{t:TypeId}(ok:qEc P t=true):SRel P Al Shr (VR Al) π (Instr.alloc t true (.tuple #[])) (Instr.alloc t true (.tuple #[])):=by
 unfold Instr.alloc;refine .bnd (qPS ok) fun π' z z' l hz=>?_;exact .bnd (qMr t hz) fun π' a b l h=>.pur (.pointer h)
theorem qCb{x x':Value}(hx:VRel Al π x x')(y:Nat)(c:BoundsCode):SRel P Al Shr EqR π (Instr.sliceBound x y c) (Instr.sliceBound x' y c):=by
 unfold Instr.sliceBound;refine .bndE (qNu hx) fun π1 k l1=>?_;obtain⟨k,n⟩:=k;simp only;split
 ·exact .pur rfl
 ·exact qGT _ _ _ _
inductive ORel (Al:FuncId->Prop) (π:Ren G):Option Value->Option Value->Prop
 |none:ORel Al π none none
 |some {v v':Value} (h:VRel Al π v v'):ORel Al π (some v) (some v')
theorem ORel.mono{π π':Ren G}(m:Ren.le π π'){l l':Option Value}(h:ORel Al π l l'):ORel Al π' l l':=by
 cases h with
 |none=>exact .none
 |some h=>exact .some (h.mono m)
theorem qCh(is:Bool)(n c:Nat){l l' h h' m m':Option Value}(hl:ORel Al π l l')(hh:ORel Al π h h')(hm:ORel Al π m m'):SRel P Al Shr EqR π (Instr.sliceBounds is n c l h m) (Instr.sliceBounds is n c l' h' m'):=by
 unfold Instr.sliceBounds;cases hm with
 | none =>
  cases hh with
  |none =>
   cases hl with
   |none=>exact .pur rfl
   |some hv=>exact .bndE (qCb hv _ _) fun _ _ _=>.pur rfl
  |some hw =>
   refine .bndE (qCb hw _ _) fun π' _ k=>?_;cases hl with
   |none=>exact .pur rfl
   |some hv=>exact .bndE (qCb (hv.mono k) _ _) fun _ _ _=>.pur rfl
 | some hu =>
  refine .bndE (qCb hu _ _) fun π' m k=>?_;cases hh with
  |none=>exact qAD _ _
  |some hw =>
   refine .bndE (qCb (hw.mono k) _ _) fun π'' _ k'=>?_;cases hl with
   |none=>exact .pur rfl
   |some hv=>exact .bndE (qCb ((hv.mono k).mono k') _ _) fun _ _ _=>.pur rfl
theorem qWO(t:TypeId){x x':Value}(hx:VRel Al π x x'){l l' h h' m m':Option Value}(hl:ORel Al π l l')(hh:ORel Al π h h')(hm:ORel Al π m m'):SRel P Al Shr (VR Al) π (Instr.sliceAt t x l h m) (Instr.sliceAt t x' l' h' m'):=by
 unfold Instr.sliceAt;refine .bndE (qAv t) fun π1 d l1=>?_;have step:SRel P Al Shr (VR Al) π1 (Instr.slice t x l h m) (Instr.slice t x' l' h' m'):=by
  unfold Instr.slice;refine .bndE (qAv t) fun π2 d l2=>?_;have hx2:=(hx.mono l1).mono l2;have hl2:=(hl.mono l1).mono l2;have hh2:=(hh.mono l1).mono l2;have hm2:=(hm.mono l1).mono l2;cases d with
  | string =>
   cases hx2 with
   |string s =>
    cases hm2 with
    |some hv=>exact qAD _ _
    |none=>exact .bndE (qCh false _ _ hl2 hh2 .none) fun π3 b _=>.pur (.string _)
   |_=>exact qAD _ _
  | slice elem =>
   cases hx2 with
   |nilSlice n c =>
    refine .bndE (qCh true _ _ hl2 hh2 hm2) fun π3 b l3=>?_;obtain⟨b1,b2,b3⟩:=b;refine .bndE (qBb elem) fun π4 s l4=>.pur ?_;simp only[Option.map_none,ite_self];exact .nilSlice _ _
   |slice hab n c =>
    refine .bndE (qCh true _ _ hl2 hh2 hm2) fun π3 b l3=>?_;obtain⟨b1,b2,b3⟩:=b;refine .bndE (qBb elem) fun π4 s l4=>.pur ?_;simp only[Option.map_some];split
    ·exact .slice ((hab.mono l3).mono l4) _ _
    ·exact .slice (((hab.mono l3).mono l4).add _) _ _
   |_=>exact qAD _ _
  | pointer arr =>
   cases hx2 with
   |nilPtr=>exact qC7
   | pointer hab =>
    refine SRel.bndE (s:=underlying arr) (qAv arr) fun π3 d l3=>?_;cases d with
    |array n elem =>
     refine .bndE (qCh false _ _ (hl2.mono l3) (hh2.mono l3) (hm2.mono l3)) fun π4 b l4=>?_;obtain⟨b1,b2,b3⟩:=b;refine .bndE (qBb elem) fun π5 s l5=>.pur ?_;split
     ·exact .slice (((hab.mono l3).mono l4).mono l5) _ _
     ·exact .slice ((((hab.mono l3).mono l4).mono l5).add _) _ _
    |_=>exact qAD _ _
   |_=>exact qAD _ _
  |_=>exact qAD _ _
 cases d with
 |array n elem =>
  refine .bnd (qRe (hx.mono l1)) fun π2 a b l2 hab=>?_;refine .bndE (qCh false _ _ ((hl.mono l1).mono l2) ((hh.mono l1).mono l2) ((hm.mono l1).mono l2)) fun π4 b l4=>?_;obtain⟨b1,b2,b3⟩:=b;refine .bndE (qBb elem) fun π5 s l5=>.pur ?_;split
  ·exact .slice ((hab.mono l4).mono l5) _ _
  ·exact .slice (((hab.mono l4).mono l5).add _) _ _
 |_=>exact step
end
section
variable{P:Program}{Al:FuncId->Prop}{Shr:Nat->Prop}{G:Nat}{π:Ren G}
theorem qWv{α β:Type}(f:α->Sem β)(hf:∀a (π:Ren G),SRel P Al Shr EqR π (f a) (f a))(xs:Array α)(π:Ren G):SRel P Al Shr EqR π (xs.mapM f) (xs.mapM f):=by
 have key:∀(l:List α)(π:Ren G),SRel P Al Shr EqR π (l.mapM f) (l.mapM f):=by
  intro l
  induction l with
  |nil=>intro π;exact .pur rfl
  |cons a l ih =>
   intro π;rw[List.mapM_cons];exact .bndE (hf a π) fun π' b _=>.bndE (ih π') fun π'' _ _=>.pur rfl
 rw[Array.mapM_eq_mapM_toList];exact SRel.bndE (f:=fun x=>Pure.pure x.toArray) (key _ _) fun _ _ _=>.pur rfl
theorem qHv{c c':Array Value}(h:VsRel Al π c c')(i:Nat):VRel Al π c[i]! c'[i]!:=by
 by_cases hi:i<c.size
 ·have hi':i<c'.size:=h.size▸hi;simp only[getElem!_pos c i hi,getElem!_pos c' i hi'];exact h.get i hi hi'
 ·have hi':¬i<c'.size:=h.size▸hi;simp only[getElem!_neg c i hi,getElem!_neg c' i hi'];exact .bool _
theorem qFs{n:Nat}{f f':Nat->Value}(h:∀i,VRel Al π (f i) (f' i)):VsRel Al π ((Array.range n).map f) ((Array.range n).map f') :=
 ⟨by simp,fun i a b=>by simpa using h i⟩
inductive PRel (Al:FuncId->Prop) (π:Ren G):List (Nat×Value)->List (Nat×Value)->Prop
 |nil:PRel Al π [] []
 |cons (i:Nat) {v v':Value} {l l':List (Nat×Value)} (h:VRel Al π v v') (t:PRel Al π l l'):PRel Al π ((i,v)::l) ((i,v')::l')
theorem PRel.mono{π π':Ren G}(m:Ren.le π π'){l l':List (Nat×Value)}(h:PRel Al π l l'):PRel Al π' l l':=by
 induction h with
 |nil=>exact .nil
 |cons i h _ ih=>exact .cons i (h.mono m) ih
theorem qUh{vc vc':List Value}(h:LRel Al π vc vc')(off:Nat):∀(n:Nat){c c':Array Value},VsRel Al π c c' ->
  VsRel Al π ((vc.zipIdx n).foldl (fun cs (x:Value×Nat)=>cs.setIfInBounds (off+x.2) x.1) c) ((vc'.zipIdx n).foldl (fun cs (x:Value×Nat)=>cs.setIfInBounds (off+x.2) x.1) c'):=by
 induction h with
 |nil=>intro n c c' hc;exact hc
 |cons h _ ih=>intro n c c' hc;exact ih (n+1) (hc.set _ h)
theorem qHL(place:Nat->Option (Nat×Nat)){l l':List (Nat×Value)}(h:PRel Al π l l'):∀{c c':Array Value},VsRel Al π c c' ->
  (Instr.fill place c l=none/\Instr.fill place c' l'=none)\/∃d d',Instr.fill place c l=some d/\Instr.fill place c' l'=some d'/\VsRel Al π d d':=by
 induction h with
 |nil=>intro c c' hc;exact .inr ⟨c,c',rfl,rfl,hc⟩
 | cons i h _ ih =>
  intro c c' hc;unfold Instr.fill;cases hp:place i with
  |none=>exact .inl ⟨rfl,rfl⟩
  | some x =>
   obtain⟨off,size⟩:=x;simp only;rw[<-h.cells.size,<-hc.size];split
   ·exact .inl ⟨rfl,rfl⟩
   ·refine ih ?_;have:=qUh h.cells.list off 0 hc;rw[<-Array.foldl_toList,<-Array.foldl_toList,Array.toList_zipIdx,Array.toList_zipIdx];exact this
theorem qWG{t:TypeId}(ok:qEc P t=true){ps ps':Array (Nat×Value)}(h:PRel Al π ps.toList ps'.toList):SRel P Al Shr (VR Al) π (Instr.build t ps) (Instr.build t ps'):=by
 unfold Instr.build;refine .bnd (qPS ok) fun π1 z z' l1 hz=>?_;refine .bndE (qAv t) fun π2 d l2=>?_;have hc:=(hz.mono l2).cells;have hp:=(h.mono l1).mono l2;cases d with
 |struct fs =>
  refine .bndE (qWv _ (fun f π=>.bndE (qBb _) fun _ _ _=>.pur rfl) fs _) fun π3 pl l3=>?_;rcases qHL (pl[·]?) (hp.mono l3) (hc.mono l3)with⟨h1,h2⟩|⟨d,d',h1,h2,hd⟩
  ·simp only[h1];exact qAD _ _
  ·simp only[h1,h2];exact .pur (.agg hd.size hd.get)
 |array n elem =>
  refine .bndE (qBb elem) fun π3 s l3=>?_;rcases qHL (fun i=>some (i*s,s)) (hp.mono l3) (hc.mono l3)with⟨h1,h2⟩|⟨d,d',h1,h2,hd⟩
  ·simp only[h1];exact qAD _ _
  ·simp only[h1,h2];exact .pur (.agg hd.size hd.get)
 |_=>exact qAD _ _
theorem qMp{t:TypeId}(ok:qGh P t=true)(len:Nat){ps ps':Array (Nat×Value)}(h:PRel Al π ps.toList ps'.toList):SRel P Al Shr (VR Al) π (Instr.buildSlice t len ps) (Instr.buildSlice t len ps'):=by
 unfold Instr.buildSlice;refine .bnd (qA2 t) fun π2 d0 d l2 hu=>?_;obtain⟨rfl,hu⟩:=hu;cases d with
 | slice elem =>
  have okE:qEc P elem=true:=by simpa [qGh,hu]using ok
  refine .bndE (qBb elem) fun π3 s l3=>?_;simp only;split
  ·exact qAT (by simp) _
  ·split
   ·refine SRel.bnd (R:=VsR Al) (.pur (.empty _)) fun π4 z z' l4 hz=>?_;rcases qHL (fun i=>some (i*s,s)) (((h.mono l2).mono l3).mono l4) (qFs (n:=len*s) (f:=fun i=>z[i%z.size]!) (f':=fun i=>z'[i%z'.size]!) fun i=>by rw[<-hz.size];exact qHv hz _)with⟨h1,h2⟩|⟨d,d',h1,h2,hd⟩
    ·simp only[h1];exact qAD _ _
    ·simp only[h1,h2];exact .bnd (qGV elem hd) fun π5 a b l5 hab=>.pur (.slice hab _ _)
   ·refine .bnd (qPS okE) fun π4 v v' l4 hv=>?_;refine SRel.bnd (R:=VsR Al) (.pur hv.cells) fun π4 z z' l5 hz=>?_;rcases qHL (fun i=>some (i*s,s)) ((((h.mono l2).mono l3).mono l4).mono l5) (qFs (n:=len*s) (f:=fun i=>z[i%z.size]!) (f':=fun i=>z'[i%z'.size]!) fun i=>by rw[<-hz.size];exact qHv hz _)with⟨h1,h2⟩|⟨d,d',h1,h2,hd⟩
    ·simp only[h1];exact qAD _ _
    ·simp only[h1,h2];exact .bnd (qGV elem hd) fun π5 a b l5 hab=>.pur (.slice hab _ _)
 |_=>exact qAD _ _
theorem qNv(n:Nat):SRel P Al Shr EqR π (askRoom n) (askRoom n):=by
 unfold askRoom;split
 ·exact .noRoom (.pure rfl)
 ·exact .pur rfl
theorem qPO{t:TypeId}(ok:qGh P t=true){x x' y y':Value}(hx:VRel Al π x x')(hy:VRel Al π y y'):SRel P Al Shr (VR Al) π (Instr.makeSlice t x y) (Instr.makeSlice t x' y'):=by
 unfold Instr.makeSlice;refine .bnd (qA2 t) fun π2 d0 d l2 hu=>?_;obtain⟨rfl,hu⟩:=hu;cases d with
 | slice elem =>
  have okE:qEc P elem=true:=by simpa [qGh,hu]using ok
  refine .bndE (qFF (hx.mono l2)) fun π3 n l3=>?_;refine .bndE (qFF ((hy.mono l2).mono l3)) fun π4 c l4=>?_;refine .bndE (qBf elem) fun π5 i l5=>?_;simp only;split
  ·split
   ·exact sError _
   ·split
    ·exact sError _
    ·exact .choose _ fun n=>sError _
  ·refine .bndE (qNv _) fun π6 _ l6=>?_;refine .bndE (qBb elem) fun π7 s l7=>?_;split
   ·refine SRel.bnd (R:=VsR Al) (.pur (.empty _)) fun π8 z z' l8 hz=>?_;exact .bnd (qGV elem (qFs fun i=>by rw[<-hz.size];exact qHv hz _)) fun π9 a b l9 hab=>.pur (.slice hab _ _)
   ·refine .bnd (qPS okE) fun π8 v v' l4 hv=>?_;refine SRel.bnd (R:=VsR Al) (.pur hv.cells) fun π8 z z' l8 hz=>?_;exact .bnd (qGV elem (qFs fun i=>by rw[<-hz.size];exact qHv hz _)) fun π9 a b l9 hab=>.pur (.slice hab _ _)
 |_=>exact qAD _ _
end
