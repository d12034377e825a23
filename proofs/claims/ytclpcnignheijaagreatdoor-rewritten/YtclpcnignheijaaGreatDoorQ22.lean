/-
  Parts of the proof: OA, OB.
-/
import Derived.Test.YtclpcnignheijaaGreatDoorQ21
namespace Go.Proofs.YtclpcnignheijaaGreatDoor
open Go Go.Conc Go.Proofs.Tryz
def qVv:Nat:=4343938482792350780524025106879872707559429748449298943712448300974358022153871415389916080955392
def qVu:Nat:=736154003949033459538651556108028665022489527781745088502889890042350856408978685952
def alM:Cfg:=⟨fun f=>Nat.testBit qVv f,true⟩
def alF:Cfg:=⟨fun f=>Nat.testBit qVu f,false⟩
def glP(g:Nat):Bool:=g==1||g==2||g==3||g==5||g==6||g==7||g==9
def qUD(P:Program)(al:Cfg)(gl:Nat->Bool)(f:Nat):Bool:=match P.funcs[f]? with
 |none=>false
 | some fn => !(fn.name == "runtime.NumGoroutine") && match fn.body with
  |some c=>qA4 P al gl false c
  |none=>f==109||f==257||f==261||f==321||f==177
def qVW(P:Program)(al:Cfg)(gl:Nat->Bool)(a n:Nat):Bool:=(List.range n).all fun i=>!al (a+i)||qUD P al gl (a+i)
theorem okF:qVW prog alF glP 0 300=true:=by kernel_rfl
theorem qXQ:qVW prog alM glP 0 110=true:=by kernel_rfl
theorem qXR:qVW prog alM glP 110 60=true:=by kernel_rfl
theorem qXS:qVW prog alM glP 170 60=true:=by kernel_rfl
theorem qXT:qVW prog alM glP 230 100=true:=by kernel_rfl
section
variable{Al:FuncId->Prop}{Shr:Nat->Prop}{π:Ren prog.globals.size}
theorem qII:∀(n:Nat){π:Ren prog.globals.size}{a b:Addr}(_:ARel π a b)(acc:ByteArray),SRel prog Al Shr EqR π (Extern.Bytes.loadBytes a n acc) (Extern.Bytes.loadBytes b n acc)
 |0,_,_,_,_,acc=>.pur rfl
 |n+1,π,a,b,h,acc=>by
  unfold Extern.Bytes.loadBytes;refine SRel.load h fun v v' hv=>?_;cases hv with
  |int k m=>cases k<;>first|exact qII n (h.add 1) _|exact qAD _ _
  |_=>exact qAD _ _
theorem qKK{x x':Value}(h:VRel Al π x x'):SRel prog Al Shr EqR π (Extern.Bytes.bytesOf x) (Extern.Bytes.bytesOf x'):=by
 cases h with
 |string s=>exact .pur rfl
 |nilSlice n c=>exact .pur rfl
 |slice h n c=>exact qII n h _
 |_=>exact qAD _ _
theorem qPM{a a':Array Value}(h:VsRel Al π a a'):SRel prog Al Shr (VR Al) π (Extern.BytealgIndexByte.indexByte a) (Extern.BytealgIndexByte.indexByte a'):=by
 obtain⟨l⟩:=a;obtain⟨l'⟩:=a';have hs:=h.size
 match l,l',hs,h with
 | [x, y], [x', y'], _, h =>
  have hx:VRel Al π x x':=h.get 0 (by simp) (by simp);have hy:VRel Al π y y':=h.get 1 (by simp) (by simp);refine SRel.bndE (qKK hx) fun π1 b l1=>?_;refine SRel.bndE (s:=Extern.Bytes.asByte y) (s':=Extern.Bytes.asByte y') ?_ fun π2 c l2=>?_
  ·cases hy.mono l1 with
   |int k m=>cases k<;>first|exact .pur rfl|exact qAD _ _
   |_=>exact qAD _ _
  ·split<;>exact .pur (.int _ _)
 |[],[],_,_=>exact qAD _ _
 |[_],[_],_,_=>exact qAD _ _
 |_::_::_::_,_::_::_::_,_,_=>exact qAD _ _
theorem qVF(hg:π 3 3):SRel prog Al Shr EqR π Extern.BytealgIndex.maxLen Extern.BytealgIndex.maxLen:=by
 have e : prog.globals.findIdx? (·.name == "internal/bytealg.MaxLen") = some 3 := by kernel_rfl
 have ga : SRel prog Al Shr (fun _ a b => a = ⟨3, 0, none⟩ ∧ b = ⟨3, 0, none⟩) π (globalAddr "internal/bytealg.MaxLen") (globalAddr "internal/bytealg.MaxLen") := by
  unfold globalAddr;refine qBs ?_;rw[e];exact .pur ⟨rfl,rfl⟩
 unfold Extern.BytealgIndex.maxLen;refine SRel.bnd ga fun π1 x y l1 hxy=>?_;obtain⟨rfl,rfl⟩:=hxy;exact SRel.load ⟨l1 _ _ hg,rfl,rfl⟩ fun v v' hv=>qFF hv
theorem qVB(hg:π 3 3){a a':Array Value}(h:VsRel Al π a a'):SRel prog Al Shr (VR Al) π (Extern.BytealgIndex.index a) (Extern.BytealgIndex.index a'):=by
 obtain⟨l⟩:=a;obtain⟨l'⟩:=a';have hs:=h.size
 match l,l',hs,h with
 | [x, y], [x', y'], _, h =>
  have hx:VRel Al π x x':=h.get 0 (by simp) (by simp);have hy:VRel Al π y y':=h.get 1 (by simp) (by simp);refine SRel.bndE (qKK hx) fun π1 b l1=>SRel.bndE (qKK (hy.mono l1)) fun π2 c l2=>?_;refine SRel.bndE (qVF (l2 _ _ (l1 _ _ hg))) fun π3 m l3=>?_;by_cases h1:(decide (c.size<2)||decide ((c.size:Int)>m))=true
  ·rw[if_pos h1];exact qAT (by simp) _
  ·rw[if_neg h1];simp only;by_cases h2:b.size ≥ 2 ^ 32-15
   ·rw[if_pos h2];exact qAT (by simp) _
   ·rw[if_neg h2];split<;>exact .pur (.int _ _)
 |[],[],_,_=>exact qAD _ _
 |[_],[_],_,_=>exact qAD _ _
 |_::_::_::_,_::_::_::_,_,_=>exact qAD _ _
theorem qVI(hg:π prog.globals.size prog.globals.size){a a':Array Value}(h:VsRel Al π a a'):SRel prog Al Shr (VR Al) π (Extern.ReflectliteType.typeOf a) (Extern.ReflectliteType.typeOf a'):=by
 obtain⟨l⟩:=a;obtain⟨l'⟩:=a';have hs:=h.size
 match l,l',hs,h with
 | [x], [x'], _, h =>
  have hx:VRel Al π x x':=h.get 0 (by simp) (by simp);cases hx with
  |nilIface=>exact .pur .nilIface
  | iface t hv =>
   show SRel prog Al Shr (VR Al) π (Extern.ReflectliteType.toType t) (Extern.ReflectliteType.toType t);unfold Extern.ReflectliteType.toType cutType Extern.Rtype.handle;refine SRel.bndE (qBs ?_) fun π1 u l1=>qBs (.pur (.iface u (.agg rfl fun i i1 i2=>?_)))
   ·split
    ·exact .pur rfl
    ·exact qAD _ _
   ·have:i=0:=by simpa using i1
    subst this;exact .pointer ⟨l1 _ _ hg,rfl,rfl⟩
  |_=>exact qAD _ _
 |[],[],_,_=>exact qAD _ _
 |_::_::_,_::_::_,_,_=>exact qAD _ _
theorem qMq (hg : π prog.globals.size prog.globals.size) {a a' : Array Value} (h : VsRel Al π a a') : ∀ e, ("(internal/reflectlite.rtype).Comparable", e) ∈ (Extern.ReflectliteType.rows[2]?).toList → SRel prog Al Shr (VR Al) π (e a) (e a') := by
 intro e he;simp only[Extern.ReflectliteType.rows,List.getElem?_cons_succ,List.getElem?_cons_zero,Option.toList_some,List.mem_singleton,Prod.mk.injEq,true_and]at he;subst he;obtain⟨l⟩:=a;obtain⟨l'⟩:=a';have hs:=h.size
 match l,l',hs,h with
 | [x], [x'], _, h =>
  have hx:VRel Al π x x':=h.get 0 (by simp) (by simp);refine SRel.bndE (s:=Extern.ReflectliteType.ofRtype x) (s':=Extern.ReflectliteType.ofRtype x') ?_ fun π1 t l1=>?_
  ·cases hx with
   | @agg c c' hs1 h1 =>
    obtain⟨l⟩:=c;obtain⟨l'⟩:=c'
    match l,l',hs1,h1 with
    | [y], [y'], _, h1 =>
     have hy:VRel Al π y y':=h1 0 (by simp) (by simp);refine SRel.bndE (s:=Extern.Rtype.ofHandle y) (s':=Extern.Rtype.ofHandle y') ?_ fun π2 t l2=>?_
     ·unfold Extern.Rtype.ofHandle;refine qBs ?_;cases hy with
      | @pointer a b hp =>
       have hb:(b.block==prog.globals.size)=(a.block==prog.globals.size):=by
        have:=π.inj hp.block hg;rw[Bool.eq_iff_iff];simpa using this.symm
       have e:handleType prog (.pointer (some b))=handleType prog (.pointer (some a)):=by
        unfold handleType;simp only[hb,hp.off]
       rw[e];split
       ·exact .pur rfl
       ·exact qAD _ _
      |_=>exact qAD _ _
     ·unfold Extern.Rtype.noPack;refine SRel.bndE (qBs ?_) fun π3 _ l3=>?_
      ·split
       ·exact qAT (by simp) _
       ·exact .pur rfl
      ·exact .pur rfl
    |[],[],_,_=>exact qAD _ _
    |_::_::_,_::_::_,_,_=>exact qAD _ _
   |_=>exact qAD _ _
  ·unfold Extern.Rtype.noPackHeld;refine SRel.bndE (qBs (qBs ?_)) fun π3 _ l3=>.bndE (qBf t) fun π4 i l4=>.pur (.bool _);split
   ·exact qAT (by simp) _
   ·exact .pur rfl
 |[],[],_,_=>exact qAD _ _
 |_::_::_,_::_::_,_,_=>exact qAD _ _
end
theorem qQu{m n f:Nat}(h:m<2 ^ n)(hf:Nat.testBit m f=true):f<n:=by
 apply Classical.byContradiction;intro hn;rw[Nat.testBit_lt_two_pow (Nat.lt_of_lt_of_le h (Nat.pow_le_pow_right (by decide) (by omega)))]at hf;cases hf
theorem upM{f:Nat}(hf:alM f=true):qUD prog alM glP f=true:=by
 have hlt:f<330:=qQu (m:=qVv) (of_decide_eq_true (by kernel_rfl)) hf;have key:∀a n,qVW prog alM glP a n=true->a<=f->f<a+n->qUD prog alM glP f=true:=fun a n h h1 h2=>by
  have:=List.all_eq_true.1 h (f-a) (List.mem_range.2 (by omega));rw[show a+(f-a)=f by omega]at this;simpa [hf]using this
 by_cases h1:f<110
 ·exact key _ _ qXQ (by omega) (by omega)
 by_cases h2:f<170
 ·exact key _ _ qXR (by omega) (by omega)
 by_cases h3:f<230
 ·exact key _ _ qXS (by omega) (by omega)
 ·exact key _ _ qXT (by omega) (by omega)
theorem upF{f:Nat}(hf:alF f=true):qUD prog alF glP f=true:=by
 have hlt:f<300:=qQu (m:=qVu) (of_decide_eq_true (by kernel_rfl)) hf;have:=List.all_eq_true.1 okF f (List.mem_range.2 hlt);rw[Nat.zero_add]at this;simpa [hf]using this
def qPd:TypeDesc->Bool
 |.float _|.complex _|.named ..=>false
 |_=>true
theorem qFt{info:TypeId->Option TypeInfo}{fs:Array Field}{i:TypeInfo}(h:Made.reckonStruct info fs=some i):qPd i.desc=true:=by
 unfold Made.reckonStruct at h;obtain⟨s,-,h⟩:=Option.bind_eq_some_iff.1 h
 revert h
 simp only[pure];intro h
 repeat' (first|(cases h;rfl)|split at h)
theorem qLi{info:TypeId->Option TypeInfo}{d:TypeDesc}{i:TypeInfo}(h:Made.reckon info d=some i):qPd i.desc=true:=by
 unfold Made.reckon at h;cases d with
 |struct fs=>exact qFt h
 | pointer e =>
  obtain⟨x,-,h⟩:=Option.bind_eq_some_iff.1 h;split at h
  ·cases h
  ·split at h
   ·cases h
   ·obtain⟨y,-,h⟩:=Option.bind_eq_some_iff.1 h;cases h;rfl
  ·obtain⟨y,-,h⟩:=Option.bind_eq_some_iff.1 h;cases h;rfl
 |slice e =>
  obtain⟨x,-,h⟩:=Option.bind_eq_some_iff.1 h;obtain⟨y,-,h⟩:=Option.bind_eq_some_iff.1 h;cases h;rfl
 |map k e =>
  obtain⟨x,-,h⟩:=Option.bind_eq_some_iff.1 h;obtain⟨y,-,h⟩:=Option.bind_eq_some_iff.1 h;obtain⟨z,-,h⟩:=Option.bind_eq_some_iff.1 h;obtain⟨u,-,h⟩:=Option.bind_eq_some_iff.1 h;cases h;rfl
 |chan dir e =>
  obtain⟨x,-,h⟩:=Option.bind_eq_some_iff.1 h;obtain⟨y,-,h⟩:=Option.bind_eq_some_iff.1 h;cases h;rfl
 |func ps rs v =>
  obtain⟨x,-,h⟩:=Option.bind_eq_some_iff.1 h;cases h;rfl
 |array n e =>
  obtain⟨x,-,h⟩:=Option.bind_eq_some_iff.1 h;obtain⟨y,-,h⟩:=Option.bind_eq_some_iff.1 h;cases h;rfl
 |_=>cases h
theorem qOq{T:Tables}:∀(f:Nat){t:TypeId}{i:TypeInfo},¬t<T.types.size->Made.infoAt T f t=some i->qPd i.desc=true
 |0,_,_,_,h=>by cases h
 |f+1,t,i,ht,h=>by
  unfold Made.infoAt at h;rw[if_neg ht]at h;obtain⟨d,-,h⟩:=Option.bind_eq_some_iff.1 h;exact qLi h
theorem qO2{P:Program}(h:(P.types.all fun i=>match i.desc with|.float _|.complex _=>false|.named _ u=>(match P.types[u]? with|some j=>qPd j.desc|none=>false)|_=>true)=true):qCj P:=by
 intro t;have key:∀d,P.underlying t=some d->qPd d=true\/∃a b,d=.named a b:=by
  intro d hd;unfold Program.underlying at hd;cases hi:P.info? t with
  |none=>rw[hi]at hd;cases hd
  | some i =>
   rw[hi]at hd;by_cases ht:t<P.types.size
   ·have e:P.types[t]? = some i:=by unfold Tables.info? at hi;rw[if_pos ht]at hi;exact hi
    obtain⟨hlt,rfl⟩:=Array.getElem?_eq_some_iff.1 e;have hh:=Array.all_eq_true.1 h t hlt;generalize P.types[t]=i at hd hh;cases hdsc:i.desc with
    | named nm u =>
     rw[hdsc]at hh;have hd2:(P.info? u).map (·.desc)=some d:=by
      obtain⟨⟩:=i;simp only at hdsc;subst hdsc;exact hd
     simp only at hh;cases hu:P.types[u]? with
     |none=>rw[hu]at hh;cases hh
     |some j =>
      rw[hu]at hh;have hlt2:u<P.types.size:=(Array.getElem?_eq_some_iff.1 hu).1;have e2:P.info? u=some j:=by unfold Tables.info?;rw[if_pos hlt2];exact hu
      rw[e2]at hd2;cases hd2;exact .inl hh
    | _ =>
     have hd2:d=i.desc:=by
      obtain⟨⟩:=i;simp only at hdsc;subst hdsc;cases hd;rfl
     rw[hd2,hdsc];rw[hdsc]at hh
     first|exact .inl rfl|cases hh
   ·have e:Made.infoAt P.toTables Made.depth t=some i:=by unfold Tables.info? at hi;rw[if_neg ht]at hi;exact hi
    have hw:=qOq _ ht e;cases hdsc:i.desc with
    |named nm u=>rw[hdsc]at hw;cases hw
    | _ =>
     have hd2:d=i.desc:=by
      obtain⟨⟩:=i;simp only at hdsc;subst hdsc;cases hd;rfl
     rw[hd2];exact .inl hw
 constructor
 ·intro k e;rcases key _ e with q|⟨a,b,q⟩<;> cases q
 ·intro k e;rcases key _ e with q|⟨a,b,q⟩<;> cases q
theorem qQ3:(prog.types.all fun i=>match i.desc with|.float _|.complex _=>false|.named _ u=>(match prog.types[u]? with|some j=>qPd j.desc|none=>false)|_=>true)=true:=by kernel_rfl
theorem qWz{P:Program}{Al:FuncId->Prop}{Shr:Nat->Prop}{π:Ren P.globals.size}{a a':Array Value}(h:VsRel Al π a a'):SRel P Al Shr (VR Al) π (Extern.AbiNoEscape.same a) (Extern.AbiNoEscape.same a'):=by
 obtain⟨l⟩:=a;obtain⟨l'⟩:=a';have hs:=h.size
 match l,l',hs,h with
 |[],[],_,_=>exact qAD _ _
 |[x],[x'],_,h=>exact .pur (h.get 0 (by simp) (by simp))
 |_::_::_,_::_::_,_,_=>exact qAD _ _
theorem qRh{P:Program}{al:Cfg}{gl:Nat->Bool}{Shr:Nat->Prop}(hup:∀f,al f=true->qUD P al gl f=true)(hfree:al.fz=true->∀r,¬Shr r)
  (hext:∀f fn,P.funcs[f]? = some fn->fn.body=none->(f=109\/f=257\/f=261\/f=321\/f=177)->(Extern.findNext fn).isNone=true/\∃e,Extern.find fn=some e/\∀(π:Ren P.globals.size) a a',(∀g,gl g=true->π g g)->VsRel (fun f=>al f=true) π a a'->SRel P (fun f=>al f=true) Shr (VR (fun f=>al f=true)) π (e a) (e a')) (hV:qCj P):Setup P al gl Shr:=by
 refine⟨fun f hf=>?_,fun f fn c hf hfn hc=>?_,hfree,hV⟩
 ·have:=hup f hf;unfold qUD at this;cases hfn:P.funcs[f]? with
  |none=>rw[hfn]at this;cases this
  | some fn =>
   rw[hfn]at this;simp only[Bool.and_eq_true,Bool.not_eq_true']at this;refine⟨fn,hfn,this.1,?_⟩;cases hb:fn.body with
   |some c=>exact .inl rfl
   |none =>
    right;rw[hb]at this;simp only[Bool.or_eq_true,beq_iff_eq]at this;obtain⟨h1,h2⟩:=hext f fn hfn hb (by omega);exact⟨rfl,h1,h2⟩
 ·have:=hup f hf;unfold qUD at this;rw[hfn]at this;simp only[Bool.and_eq_true]at this;have h2:=this.2;rw[hc]at h2;exact h2
theorem g9:prog.globals.size=9:=by kernel_rfl
theorem ext109:(Extern.findNext Tryz.f109).isNone=true/\Extern.find Tryz.f109=some Extern.ReflectliteType.typeOf:=⟨by kernel_rfl,by kernel_rfl⟩
theorem ext257:(Extern.findNext Tryz.f257).isNone=true/\Extern.find Tryz.f257=some Extern.BytealgIndex.index:=⟨by kernel_rfl,by kernel_rfl⟩
theorem ext261:(Extern.findNext Tryz.f261).isNone=true/\Extern.find Tryz.f261=some Extern.BytealgIndexByte.indexByte:=⟨by kernel_rfl,by kernel_rfl⟩
def qVm:Array Value->Sem Value:=match Extern.ReflectliteType.rows with
 |_::_::r::_=>r.2
 |_=>fun _=>pure .nilIface
theorem ext321:(Extern.findNext Tryz.f321).isNone=true/\Extern.find Tryz.f321=some qVm:=⟨by kernel_rfl,by kernel_rfl⟩
theorem ext177:(Extern.findNext Tryz.f177).isNone=true/\Extern.find Tryz.f177=some Extern.AbiNoEscape.same:=⟨by kernel_rfl,by kernel_rfl⟩
theorem qN0{al:Cfg}{Shr:Nat->Prop}(hup:∀f,al f=true->qUD prog al glP f=true)(hfree:al.fz=true->∀r,¬Shr r):Setup prog al glP Shr:=by
 refine qRh hup hfree (fun f fn hfn hb hf=>?_) (qO2 qQ3);rcases hf with rfl|rfl|rfl|rfl|rfl
 ·obtain rfl:Tryz.f109=fn:=Option.some.inj (func109.symm.trans hfn);exact⟨ext109.1,_,ext109.2,fun π a a' hg h=>qVI (hg _ (by rw[g9];rfl)) h⟩
 ·obtain rfl:Tryz.f257=fn:=Option.some.inj (func257.symm.trans hfn);exact⟨ext257.1,_,ext257.2,fun π a a' hg h=>qVB (hg 3 rfl) h⟩
 ·obtain rfl:Tryz.f261=fn:=Option.some.inj (func261.symm.trans hfn);exact⟨ext261.1,_,ext261.2,fun π a a' hg h=>qPM h⟩
 ·obtain rfl:Tryz.f321=fn:=Option.some.inj (func321.symm.trans hfn);exact⟨ext321.1,_,ext321.2,fun π a a' hg h=>qMq (hg _ (by rw[g9];rfl)) h _ (by simp[Extern.ReflectliteType.rows,qVm])⟩
 ·obtain rfl:Tryz.f177=fn:=Option.some.inj (func177.symm.trans hfn);exact⟨ext177.1,_,ext177.2,fun π a a' hg h=>qWz h⟩
theorem qEQ:Setup prog alM glP (fun r=>r<0):=qN0 (fun _ h=>upM h) fun _ r h=>by omega
theorem qWR(N0:Nat):Setup prog alF glP (fun r=>r<N0):=qN0 (fun _ h=>upF h) fun h=>by cases h
