/-
  Parts of the proof: S1, S2, S3, S4.
-/
import Derived.Test.YtclpcnignheijaaGreatDoorQ5
import Derived.Lib.BufferWrite
import Derived.Deep.RegionHeld3
set_option maxHeartbeats 1000000
set_option maxRecDepth 100000
namespace Go.Proofs.YtclpcnignheijaaGreatDoor
open Go.RowKit Go.Proofs.Tryz
theorem qI4(b:Int)(w:World)(v:Bool)(h:qCE b=v) :
  Calls prog 244 #[.int .u8 b] w fun e w'=>e=.returned (.bool v)/\w'=w:=by
 subst h;exact qH0 b w
def Ws(w:World)(g:Nat)(ws:List (List UInt8)):Prop:=w.heap[g]? = some (.cells (ws.map fun l=>Value.string (bytesOf l)).toArray 9 (0,0))
theorem Ws.kept{B:Nat}{T:List TypeId}{w w':World}{g:Nat}{ws:List (List UInt8)}(h:Ws w g ws)(k:Kp B T w w')(ht:9 ∉ T):Ws w' g ws:=k.at h ht
theorem Ws.drewN{w:World}{g:Nat}{ws:List (List UInt8)}(h:Ws w g ws)(n:Nat):Ws (w.drewN n) g ws:=h
theorem Ws.cell{w:World}{g:Nat}{ws:List (List UInt8)}(h:Ws w g ws){k:Nat}{x:List UInt8}(hx:ws[k]? = some x):w.cell? ⟨g,k,none⟩=some (.string (bytesOf x)):=by
 unfold Ws at h;simp[World.cell?,h,hx]
theorem qGq(w:World) :
  Calls prog 216 #[] w fun e w'=>e=.returned (.slice (some ⟨w.heap.size,0,none⟩) 11 11)/\w'=w.alloc (.cells (openW.map fun l=>Value.string (bytesOf l)).toArray 9):=by
 go_enter func216,ntmps216
 go_wp2
 go_ret
 exact⟨rfl,rfl⟩
theorem qRG(s t:ByteArray):((s.extract 0 t.size).toList==t.toList)=t.data.toList.isPrefixOf s.data.toList:=by
 rw[qGX,Lib.toList_data,Lib.toList_data,qF5,Bool.eq_iff_iff,beq_iff_eq,List.isPrefixOf_iff_prefix,List.prefix_iff_eq_take];have:t.data.toList.length=t.size:=by simp
 rw[List.drop_zero,Nat.sub_zero,this];exact eq_comm
theorem qRH{s t:ByteArray}(h:¬t.size<=s.size):t.data.toList.isPrefixOf s.data.toList=false:=by
 cases hb:t.data.toList.isPrefixOf s.data.toList
 ·rfl
 ·rw[List.isPrefixOf_iff_prefix]at hb;have:=hb.length_le;simp at this;exact absurd this h
theorem qIO(s t:ByteArray)(w:World) :
  Calls prog 250 #[.string s,.string t] w fun e w'=>e=.returned (.bool (t.data.toList.isPrefixOf s.data.toList))/\w'=w:=by
 go_enter func250,ntmps250
 go_wp2
 ·go_ret
  exact⟨qBT (qRG s t),rfl⟩
 ·go_ret
  exact⟨qBT (qRH (by assumption)).symm,rfl⟩
theorem qIq(s t:ByteArray)(w:World)(v:Bool)(hv:t.data.toList.isPrefixOf s.data.toList=v) :
  Calls prog 250 #[.string s,.string t] w fun e w'=>e=.returned (.bool v)/\w'=w:=by
 subst hv;exact qIO s t w
theorem qGl(s t:ByteArray)(w:World)(v:Bool)(hv:t.data.toList.isPrefixOf s.data.toList=v) :
  Calls prog 229 #[.string s,.string t] w fun e w'=>e=.returned (.bool v)/\w'=w:=by
 have HV:=qAF hv;clear hv;go_enter func229,ntmps229
 go_wp2_with (go_at_call 250;refine(qIq s t _ v HV.out).mono ?_;rintro e w' ⟨rfl,rfl⟩)
 go_ret
 exact⟨rfl,rfl⟩
theorem digit_no(B rb:Nat)(s:ByteArray)(p:Nat)(w:World)(h:Rd w rb s p)(hd:qCE (qAC s p)=false) :
  Calls prog 288 #[.pointer (some ⟨rb,0,none⟩)] w fun e w'=>e=.returned (.tuple #[.int .i64 0,.bool false])/\Rd w' rb s p/\Kp B [210] w w':=by
 have HD:=qAF hd;clear hd;go_enter func288,ntmps288
 go_wp2_with (first|(go_at_call 144;refine(qAL rb s p _ h).mono ?_;rintro e w' ⟨rfl,nq,rfl⟩)|(go_at_call 244;refine(qI4 _ _ _ HD.out).mono ?_;rintro e w' ⟨rfl,rfl⟩))
 go_ret2
 exact⟨rfl,h.drewN _,(Kp.refl _ _ _).drewN _⟩
theorem qD9{b:Int}(h:qCE b=true):48<=b/\b<=57:=by
 simpa [qCE]using h
theorem qHl(B rb:Nat)(s:ByteArray)(p:Nat)(w:World)(h:Rd w rb s p)(hB:B<=rb)(hd:qCE (qAC s p)=true) :
  Calls prog 288 #[.pointer (some ⟨rb,0,none⟩)] w fun e w'=>e=.returned (.tuple #[.int .i64 (qAC s p-48),.bool true])/\Rd w' rb s (p+1)/\Kp B [210] w w':=by
 have hbd:=qD9 hd;have hlt:=qJx hd;have HD:=qAF hd;have h2:=h.place;have h3:=h.free;have h5:=h.max;clear hd;go_enter func288,ntmps288
 go_wp2_with (first|(go_at_call 144;refine(qAL rb s p _ h).mono ?_;rintro e w' ⟨rfl,nq,rfl⟩)|(go_at_call 244;refine(qI4 _ _ _ HD.out).mono ?_;rintro e w' ⟨rfl,rfl⟩))
 go_ret2
 exact⟨rfl,(h.drewN _).moved (by omega) (by simp),((Kp.refl _ _ _).drewN _).setCell (h.drewN _).blk (by simp) hB _⟩
theorem qSq{s:ByteArray}(h:s.size=0):s=⟨#[]⟩:=ByteArray.ext (Array.eq_empty_of_size_eq_zero h)
theorem Tryz.infoU8:(prog.info? 5).map (fun i=>(i.zero,i.size,i.bytes))=some (some (.int .u8 0),1,1):=by kernel_rfl
theorem qMx(s:ByteArray)(w:World)(hs:s.size<=100000) :
  Calls prog 279 #[.string s] w fun e w'=>e=.returned (.string s)/\Below w.heap.size w w':=by
 by_cases h0:s.size=0
 ·obtain rfl:=qSq h0;go_enter func279,ntmps279
  go_wp2
  go_ret
  exact⟨rfl,Below.refl _ _⟩
 ·obtain⟨i0,hi,hz0,hz1,hz2⟩:=info_parts Tryz.infoU8;have hinfo:(prog.info? 5).map (·.size)=some 1:=by rw[hi];simp[hz1]
  have hco:prog.cellsOf 5=1:=by simp[Program.cellsOf,hi,hz1]
  obtain⟨M,hM⟩:∃M,M=madeCells (Value.int .u8 0).cells (((s.size:Nat):Int).toNat*i0.size):=⟨_,rfl⟩;have hMs:M.size=s.size:=by rw[hM,size_madeCells,hz1];simp
  have hmk:∀W:World,(Instr.makeSlice 50 (.int .i64 (s.size:Int)) (.int .i64 (s.size:Int))).run prog W=.ok (.slice (some ⟨W.heap.size,0,none⟩) s.size s.size) (W.alloc (.cells M 5)):=fun W=>by
   have h:=run_make (P:=prog) W 50 5 i0 (.int .u8 0) underlying50 hi hz0 .i64 .i64 (s.size:Int) (s.size:Int) (by omega) (by omega) (by rw[hz2];omega) (by omega);rw[<-hM]at h;simpa using h
  clear hM;have hnew:=qAE w (.cells M 5);have hcp:=Lib.run_copy_row_string (P:=prog) (w.alloc (.cells M 5)) 50 9 3 5 w.heap.size 0 s.size s.size s M 5 underlying50 hinfo hnew (Nat.le_refl _) (by omega);obtain⟨Y,hY⟩:∃Y,Y=(M.toList.take 0++Lib.byteCells s.data.toList++M.toList.drop (0+s.size)).toArray:=⟨_,rfl⟩;rw[<-hY]at hcp;have hYl:Y.toList=Lib.byteCells s.data.toList:=by
   rw[hY,List.toList_toArray,List.take_zero,List.nil_append,List.drop_of_length_le (by rw[Array.length_toList];omega),List.append_nil]
  have hYs:Y.size=s.size:=by rw[<-Array.length_toList,hYl,Lib.byteCells_length,<-Lib.size_eq]
  have hgY:((w.alloc (.cells M 5)).setRow w.heap.size Y).heap[w.heap.size]? = some (.cells Y 5 (0,0)):=setRow_heap _ _ M _ 5 (0,0) hnew;have hne:s.data.toList≠[]:=fun e=>h0 (by rw[Lib.size_eq,e];rfl);have hUS:=Lib.run_unsafeString_row (P:=prog) ((w.alloc (.cells M 5)).setRow w.heap.size Y) 201 3 9 5 underlying201 hco w.heap.size Y.size (by unfold World.shape?;rw[hgY]) s.data.toList hne (by rw[<-Lib.size_eq];omega) (by rw[<-Lib.size_eq];omega)
   (fun j x hx=>Lib.cells_of_row hgY Y.size j _ (by rw[List.take_of_length_le (by rw[Array.length_toList];exact Nat.le_refl _),hYl];simp[Lib.byteCells,hx]))
  rw[<-Lib.size_eq]at hUS;clear hY;go_enter func279,ntmps279
  go_wp2
  go_ret
  have hb1:Below w.heap.size w (w.alloc (.cells M 5)):=(Below.refl _ w).alloc (Nat.le_refl _) _;have hb2:Below w.heap.size (w.alloc (.cells M 5)) ((w.alloc (.cells M 5)).setRow w.heap.size Y):=⟨rfl,rfl,rfl,by simp,fun k hk=>setRow_other _ _ _ _ (by omega)⟩;exact⟨rfl,Lib.below_freeze (hb1.trans hb2) (p:=⟨w.heap.size,0,none⟩) (Nat.le_refl _) _⟩
theorem qK1(s:ByteArray)(w:World)(hs:s.size<=100000) :
  Calls prog 268 #[.string s] w fun e w'=>e=.returned (.string s)/\Below w.heap.size w w':=by
 go_enter func268,ntmps268
 go_wp2_with (go_at_call 279;refine(qMx s _ hs).mono ?_;rintro e w' ⟨rfl,hb⟩)
 go_ret
 exact⟨rfl,hb⟩
theorem qR0(B rb:Nat)(s:ByteArray)(p:Nat)(w:World)(h:Rd w rb s p)(hB:B<=rb) :
  Calls prog 280 #[.pointer (some ⟨rb,0,none⟩),.int .u8 34] w fun e w'=>e=.returned (.string (qCd s p (qBq s p)))/\Rd w' rb s (qBq s p)/\Kp B [210] w w':=by
 have h4:=h.le;have h5:=h.max;have h2:=h.place;go_enter func280,ntmps280
 go_wp2
 clear h2;go_loopw [10] (fun _ wr=>∃q:Nat,Rd wr rb s q/\p<=q/\Hid (qBq s q=qBq s p)/\Kp B [210] w wr) (fun _ wr=>s.size-placeOf wr rb)
 case atStart=>exact⟨p,h,Nat.le_refl _,rfl,Kp.refl _ _ _⟩
 case round =>
  obtain⟨q,hr,hpq,HQ,hk⟩:=hrel;have g2:=hr.place;have g3:=hr.free;have g4:=hr.le;by_cases hy:qAC s q≠34/\qAC s q≠0
  ·obtain⟨y1,y2⟩:=hy;have hlt:q<s.size:=qAX y2;have HS:Hid ((fun b:Int=>b != 34&&b != 0) (qAC s q)=true):=by simp[y1,y2];exact trivial
   have e1:(qAC s q != 34)=true:=by simp[y1]
   have e2:(qAC s q != 0)=true:=by simp[y2]
   clear y1 y2;go_wp2_with (first|(go_at_call 144;refine(qAL rb s q _ hr).mono ?_;rintro e w' ⟨rfl,nq,rfl⟩)|(go_at_call 144;refine(qAL rb s q _ (hr.drewN _)).mono ?_;rintro e w' ⟨rfl,nq2,rfl⟩))
   go_roundw
   case rel=>exact⟨q+1,(hr.drewN _).moved (by omega) (by simp),by omega,qAF ((qFx (by decide) HS.out).symm.trans HQ.out),(hk.drewN _).setCell (hr.drewN _).blk (by simp) hB _⟩
   case measure=>rw[((hr.drewN _).moved (q:=q+1) (by omega) (by simp)).placeOf,hr.placeOf];omega
  ·have hend:qBq s p=q:=by
    rw[<-HQ.out];refine qCO ?_;by_cases h34:qAC s q=34
    ·simp[h34]
    ·have:qAC s q=0:=Classical.not_not.1 fun h0=>hy ⟨h34,h0⟩;simp[this]
   have HEnd:=qAF hend;have g1:=hr.text;have hor:qAC s q=34\/qAC s q=0:=by
    by_cases h34:qAC s q=34
    ·exact .inl h34
    ·exact .inr (Classical.not_not.1 fun h0=>hy ⟨h34,h0⟩)
   have hsz:(s.extract p q).size<=100000:=by rw[qGX,qEW g4 hpq];omega
   clear hy hend h;rcases hor with ho|ho
   all_goals
    first|(have e1:(qAC s q != 34)=false:=by simp[ho])|(have e1:(qAC s q != 34)=true:=by simp[ho])
    try (have e2:(qAC s q != 0)=false:=by simp[ho])
    clear ho;go_wp2_with (first|(go_at_call 144;refine(qAL rb s q _ hr).mono ?_;rintro e w' ⟨rfl,nq,rfl⟩)|(go_at_call 144;refine(qAL rb s q _ (hr.drewN _)).mono ?_;rintro e w' ⟨rfl,nq2,rfl⟩))
    go_region_with (go_at_call 268;refine(qK1 _ _ hsz).mono ?_;rintro e w' ⟨rfl,hbl⟩)
   all_goals
    go_wp2
    go_ret
    rw[HEnd.out];exact⟨congrArg (fun x=>Ending.returned (.string x)) (qGX s p q),hr.belowD hbl rfl rfl,hk.belowD hbl rfl rfl rfl rfl rfl⟩
def qIW(ws:List (List UInt8))(t:List UInt8):Int:=match ws.findIdx? (·==t)with|some i=>(i:Int)|none=>-1
theorem qOY(x:List UInt8)(t:ByteArray):((bytesOf x).toList==t.toList)=(x==t.data.toList):=by
 rw[Lib.toList_data,Lib.toList_data];rfl
theorem qM6{ws:List (List UInt8)}{t:List UInt8}{k:Nat}{x:List UInt8}(hx:ws[k]? = some x)(he:(x==t)=true)(hq:∀j,j<k->∀x,ws[j]? = some x->(x==t)=false):ws.findIdx? (·==t)=some k:=by
 obtain⟨hlt,hxe⟩:=List.getElem?_eq_some_iff.1 hx;refine List.findIdx?_eq_some_iff_getElem.2 ⟨hlt,by rw[hxe];exact he,fun j hj=>?_⟩;have hjl:j<ws.length:=by omega
 rw[hq j hj ws[j] (List.getElem?_eq_getElem hjl)];exact Bool.false_ne_true
theorem qM5{ws:List (List UInt8)}{t:List UInt8}(hq:∀j,j<ws.length->∀x,ws[j]? = some x->(x==t)=false):ws.findIdx? (·==t)=none:=by
 refine List.findIdx?_eq_none_iff.2 fun x hx=>?_;obtain⟨j,hj,e⟩:=List.getElem_of_mem hx;exact hq j hj x (by rw[List.getElem?_eq_getElem hj,e])
theorem qIP(g cap:Nat)(ws:List (List UInt8))(t:ByteArray)(w:World)(hb:Ws w g ws)(hl:ws.length<=100) :
  Calls prog 247 #[.slice (some ⟨g,0,none⟩) ws.length cap,.string t] w fun e w'=>e=.returned (.int .i64 (qIW ws t.data.toList))/\∃n,w'=w.drewN n:=by
 go_enter func247,ntmps247
 go_wp2
 go_loopw [8] (fun i wr=>∃k n:Nat,i=.int .i64 k/\k<=ws.length/\wr=w.drewN n/\Hid (∀j,j<k->∀x,ws[j]? = some x->(x==t.data.toList)=false)) (fun i _=>ws.length-(intOf i).toNat)
 case atStart=>exact⟨0,0,rfl,Nat.zero_le _,rfl,fun j hj=>absurd hj (by omega)⟩
 case round =>
  obtain⟨k,n,rfl,hkl,rfl,HQ⟩:=hrel;by_cases hlt:k<ws.length
  ·obtain⟨x,hx⟩:∃x,ws[k]? = some x:=⟨ws[k],List.getElem?_eq_getElem hlt⟩;have c1:=(hb.drewN n).cell hx;have hbe:=qOY x t;have HX:=qAF hx;clear hx;cases he:x==t.data.toList
   ·rw[he]at hbe;have hbe':(t.toList==(bytesOf x).toList)=false:=by rw[BEq.comm];exact hbe
    have HE:=qAF he;clear he hbe;go_wp2
    go_roundw
    case rel =>
     refine⟨k+1,n,by go_num,by omega,rfl,fun j hj y hy=>?_⟩;by_cases hjk:j<k
     ·exact HQ.out j hjk y hy
     ·have:j=k:=by omega
      subst this;have e:x=y:=Option.some.inj (HX.out.symm.trans hy);rw[<-e];exact HE.out
    case measure=>simp[intOf];omega
   ·rw[he]at hbe;have hbe':(t.toList==(bytesOf x).toList)=true:=by rw[BEq.comm];exact hbe
    have HE:=qAF he;clear he hbe;go_wp2
    go_ret
    exact⟨qGR (by unfold qIW;rw[qM6 HX.out HE.out HQ.out]),n,rfl⟩
  ·have hk:k=ws.length:=by omega
   have HK:=qAF hk;clear hk;go_wp2
   go_ret
   exact⟨qGR (by unfold qIW;rw[qM5 (fun j hj=>HQ.out j (by have:=HK.out;omega))]),n,rfl⟩
theorem qSu{x:List UInt8}{t:List UInt8}(hp:t.isPrefixOf x=true)(hne:x≠t):t.length<x.length:=by
 rw[List.isPrefixOf_iff_prefix]at hp;rcases Nat.lt_or_ge t.length x.length with h|h
 ·exact h
 ·exact absurd (hp.eq_of_length_le h).symm hne
def qIf(x t:List UInt8)(b:Int):Bool:=t.isPrefixOf x&&(match x[t.length]? with|some c=>(c.toNat:Int)==b|none=>false)
theorem qO6(rb tb xb:Nat)(s t:ByteArray)(q:Nat)(x:List UInt8)(w:World)(h:Rd w rb s q)(ht:w.heap[tb]? = some (.cells #[.string t] 9 (0,0)))(hx:w.heap[xb]? = some (.cells #[.pointer (some ⟨rb,0,none⟩)] 158 (0,0)))(hne:x≠t.data.toList) :
  Calls prog 252 #[.string (bytesOf x),.pointer (some ⟨tb,0,none⟩),.pointer (some ⟨xb,0,none⟩)] w fun e w'=>e=.returned (.bool (qIf x t.data.toList (qAC s q)))/\∃n,w'=w.drewN n:=by
 have c0:=cell_of_one ht;have c1:=cell_of_one hx;cases hp:t.data.toList.isPrefixOf x
 ·have HP:=qAF hp;have HE:Hid (qIf x t.data.toList (qAC s q)=false):=by unfold qIf;rw[hp];rfl
  clear hp;rw[HE.out];go_enter func252,ntmps252
  go_wp2
  go_quiet ((go_at_call 229;exact Calls.quiet_of_same (qGl _ _ _ false HP.out)))
  go_wp2
  go_ret
  exact⟨rfl,_,rfl⟩
 ·have hlt:=qSu hp hne;have hlt':t.size<(bytesOf x).size:=by
   have e:(bytesOf x).size=x.length:=by show x.toArray.size=_;simp
   have e2:t.data.toList.length=t.size:=by simp
   omega
  have HP:=qAF hp;have HE:Hid (qIf x t.data.toList (qAC s q)=(((bytesOf x)[t.size].toNat:Int)==qAC s q)):=by
   unfold qIf;rw[hp,List.getElem?_eq_getElem hlt];rfl
  clear hp;rw[HE.out];go_enter func252,ntmps252
  go_wp2
  go_quiet ((first|(go_at_call 229;exact Calls.quiet_of_same (qGl _ _ _ true HP.out))|(go_at_call 144;exact Calls.quiet_of (qAL rb s q _ (h.drewN _)))))
  go_wp2
  go_ret
  exact⟨rfl,_,rfl⟩
theorem qLW(rb tb xb:Nat)(s t:ByteArray)(q:Nat)(x:List UInt8)(w:World)(v:Bool)(h:Rd w rb s q)(ht:w.heap[tb]? = some (.cells #[.string t] 9 (0,0)))(hx:w.heap[xb]? = some (.cells #[.pointer (some ⟨rb,0,none⟩)] 158 (0,0)))(hne:x≠t.data.toList)(hv:qIf x t.data.toList (qAC s q)=v) :
  Calls prog 252 #[.string (bytesOf x),.pointer (some ⟨tb,0,none⟩),.pointer (some ⟨xb,0,none⟩)] w fun e w'=>e=.returned (.bool v)/\∃n,w'=w.drewN n:=by
 subst hv;exact qO6 rb tb xb s t q x w h ht hx hne
theorem qOn{ws:List (List UInt8)}{t:List UInt8}{b:Int}{k:Nat}{x:List UInt8}(hx:ws[k]? = some x)(he:qIf x t b=true):qCQ ws t b=true:=by
 unfold qCQ;rw[List.any_eq_true];exact⟨x,List.mem_of_getElem? hx,he⟩
theorem qQd{ws:List (List UInt8)}{t:List UInt8}{b:Int}(hq:∀j,j<ws.length->∀x,ws[j]? = some x->qIf x t b=false):qCQ ws t b=false:=by
 unfold qCQ;rw[List.any_eq_false];intro x hx;obtain⟨j,hj,e⟩:=List.getElem_of_mem hx;have:=hq j hj x (by rw[List.getElem?_eq_getElem hj,e]);exact fun hc=>Bool.false_ne_true (this.symm.trans hc)
theorem qJ1(rb tb xb g cap:Nat)(ws:List (List UInt8))(s t:ByteArray)(q:Nat)(w:World)(h:Rd w rb s q)(hb:Ws w g ws)(hl:ws.length<=100)(ht:w.heap[tb]? = some (.cells #[.string t] 9 (0,0)))(hx:w.heap[xb]? = some (.cells #[.pointer (some ⟨rb,0,none⟩)] 158 (0,0)))(hne:∀x∈ws,x≠t.data.toList) :
  Calls prog 266 #[.slice (some ⟨g,0,none⟩) ws.length cap,.func (Fn.func 252) #[] #[.pointer (some ⟨tb,0,none⟩),.pointer (some ⟨xb,0,none⟩)]] w fun e w'=>∃i,e=.returned (.int .i64 i)/\decide (0<=i)=qCQ ws t.data.toList (qAC s q)/\∃n,w'=w.drewN n:=by
 go_enter func266,ntmps266
 go_wp2
 go_loopw [8] (fun i wr=>∃k n:Nat,i=.int .i64 k/\k<=ws.length/\wr=w.drewN n/\Hid (∀j,j<k->∀x,ws[j]? = some x->qIf x t.data.toList (qAC s q)=false)) (fun i _=>ws.length-(intOf i).toNat)
 case atStart=>exact⟨0,0,rfl,Nat.zero_le _,rfl,fun j hj=>absurd hj (by omega)⟩
 case round =>
  obtain⟨k,n,rfl,hkl,rfl,HQ⟩:=hrel;by_cases hlt:k<ws.length
  ·obtain⟨x,hx1⟩:∃x,ws[k]? = some x:=⟨ws[k],List.getElem?_eq_getElem hlt⟩;have c1:=(hb.drewN n).cell hx1;have hxn:=hne x (List.mem_of_getElem? hx1);have HX:=qAF hx1;clear hx1;cases he:qIf x t.data.toList (qAC s q)
   ·have HE:=qAF he;clear he;go_wp2_with (go_at_call 252;refine(qLW rb tb xb s t q x _ false (h.drewN _) ht hx hxn HE.out).mono ?_;rintro e w' ⟨rfl,nq,rfl⟩)
    go_roundw
    case rel =>
     refine⟨k+1,n+nq,by go_num,by omega,rfl,fun j hj y hy=>?_⟩;by_cases hjk:j<k
     ·exact HQ.out j hjk y hy
     ·have:j=k:=by omega
      subst this;have e:x=y:=Option.some.inj (HX.out.symm.trans hy);rw[<-e];exact HE.out
    case measure=>simp[intOf];omega
   ·have HE:=qAF he;clear he;go_wp2_with (go_at_call 252;refine(qLW rb tb xb s t q x _ true (h.drewN _) ht hx hxn HE.out).mono ?_;rintro e w' ⟨rfl,nq,rfl⟩)
    go_ret
    exact⟨_,rfl,by rw[qOn HX.out HE.out];simp,_,rfl⟩
  ·have hk:k=ws.length:=by omega
   have HK:=qAF hk;clear hk;go_wp2
   go_ret
   exact⟨_,rfl,by rw[qQd (fun j hj=>HQ.out j (by have:=HK.out;omega))];decide,n,rfl⟩
theorem qD6(rb tb xb g cap:Nat)(ws:List (List UInt8))(s t:ByteArray)(q:Nat)(w:World)(v:Bool)(h:Rd w rb s q)(hb:Ws w g ws)(hl:ws.length<=100)(ht:w.heap[tb]? = some (.cells #[.string t] 9 (0,0)))(hx:w.heap[xb]? = some (.cells #[.pointer (some ⟨rb,0,none⟩)] 158 (0,0)))(hne:∀x∈ws,x≠t.data.toList)(hv:qCQ ws t.data.toList (qAC s q)=v) :
  Calls prog 253 #[.slice (some ⟨g,0,none⟩) ws.length cap,.func (Fn.func 252) #[] #[.pointer (some ⟨tb,0,none⟩),.pointer (some ⟨xb,0,none⟩)]] w fun e w'=>e=.returned (.bool v)/\∃n,w'=w.drewN n:=by
 have HV:=qAF hv;have HN:=qAF hne;clear hv hne;go_enter func253,ntmps253
 go_wp2_with (go_at_call 266;refine(qJ1 rb tb xb g cap ws s t q _ h hb hl ht hx HN.out).mono ?_;rintro e w' ⟨i,rfl,hi,nq,rfl⟩)
 go_ret
 exact⟨qBT HV.out,nq,rfl⟩
theorem qO5(s:ByteArray){p:Nat}(h:p<s.size):UInt8.ofNat (qE7 s p).toNat=s[p]:=by
 rw[qHd s p h];simp
theorem qRr{s:ByteArray}{p q:Nat}(hpq:p<=q)(hb:qAC s q≠0):(qCd s p q).data.toList++[UInt8.ofNat (qAC s q).toNat]=(qCd s p (q+1)).data.toList:=by
 have hlt:=qAX hb;have he:qAC s q=qE7 s q:=by
  unfold qAC at hb ⊢;split
  ·rfl
  ·rename_i hc;rw[if_neg hc]at hb;exact absurd rfl hb
 have hl:q<s.data.toList.length:=by simpa using hlt
 rw[he,qO5 s hlt,qF5,qF5,show q+1-p=(q-p)+1 from by omega,List.take_succ_eq_append_getElem (by simp;omega)];congr 1;simp only[List.getElem_drop];congr 1;have:p+(q-p)=q:=by omega
 simp only[this];rfl
theorem qN5(s:ByteArray)(p:Nat):(qCd s p p).data.toList=[]:=by rw[qF5,Nat.sub_self,List.take_zero]
theorem qQ4{s:ByteArray}{ws:List (List UInt8)}{n:Nat}{t:List UInt8}{p i:Nat}(h:ws.findIdx? (·==t)=some i):qCo s ws (n+1) t p=(p,some i):=by rw[qCo,h]
theorem qUx{s:ByteArray}{ws:List (List UInt8)}{n:Nat}{t:List UInt8}{p:Nat}(h:ws.findIdx? (·==t)=none)(hg:qCQ ws t (qAC s p)=false):qCo s ws (n+1) t p=(p,none):=by rw[qCo,h];simp[hg]
theorem qUw{s:ByteArray}{ws:List (List UInt8)}{n:Nat}{t:List UInt8}{p:Nat}(h:ws.findIdx? (·==t)=none)(hg:qCQ ws t (qAC s p)=true):qCo s ws (n+1) t p=qCo s ws n (t++[UInt8.ofNat (qAC s p).toNat]) (p+1):=by rw[qCo,h];simp[hg]
theorem qOm{ws:List (List UInt8)}{t:List UInt8}{b:Int}{N:Nat}(hN:∀x∈ws,x.length<N)(h:qCQ ws t b=true):t.length+1<N:=by
 unfold qCQ at h;rw[List.any_eq_true]at h;obtain⟨x,hx,h⟩:=h;rw[Bool.and_eq_true]at h;have h2:=h.2;split at h2
 ·rename_i c hc;have:=(List.getElem?_eq_some_iff.1 hc).1;have:=hN x hx;omega
 ·cases h2
theorem qQz{ws:List (List UInt8)}{t:List UInt8}(h:ws.findIdx? (·==t)=none):∀x∈ws,x≠t:=by
 intro x hx he;have:=List.findIdx?_eq_none_iff.1 h x hx;rw[he]at this;simp at this
theorem qLX (B rb g cap N : Nat) (ws : List (List UInt8)) (s : ByteArray) (p : Nat) (w : World) (h : Rd w rb s p) (hB : B ≤ rb) (hb : Ws w g ws) (hl : ws.length ≤ 100) (h0 : ∀ x ∈ ws, (0 : UInt8) ∉ x) (hN : ∀ x ∈ ws, x.length < N) (hN0 : 0 < N) :
  Calls prog 232 #[.pointer (some ⟨rb,0,none⟩),.slice (some ⟨g,0,none⟩) ws.length cap] w fun e w'=>∃(i:Nat)(v:Value),e=.returned (.tuple #[.int .i64 i,v])/\Rd w' rb s (qCo s ws N [] p).1/\Kp B [210] w w' /\
   (((qCo s ws N [] p).2=some i/\v=.nilIface)\/((qCo s ws N [] p).2=none/\i=0/\Chain w' 2 (qCo s ws N [] p).1 0 v)):=by
 have h4:=h.le;have h5:=h.max;have h2:=(h.alloc (.cells #[.pointer (some ⟨rb,0,none⟩)] 158)).place;go_enter func232,ntmps232
 go_wp2
 clear h2;go_loopw [22] (fun _ wr=>∃q:Nat,Rd wr rb s q/\p<=q/\q-p<N/\wr.heap[w.heap.size]? = some (.cells #[.pointer (some ⟨rb,0,none⟩)] 158 (0,0))/\Hid (qCo s ws (N-(q-p)) (qCd s p q).data.toList q=qCo s ws N [] p)/\Kp B [210] w wr) (fun _ wr=>s.size-placeOf wr rb)
 case atStart=>exact⟨p,h.alloc _,Nat.le_refl _,by omega,qAE _ _,by rw[qN5,Nat.sub_self];rfl,(Kp.refl _ _ _).alloc _⟩
 case round =>
  obtain⟨q,hr,hpq,hqN,hbox,HQ,hk⟩:=hrel;have g1:=hr.text;have g2:=hr.place;have g3:=hr.free;have g4:=hr.le;have hbr:=hb.kept hk (by decide);have c0:=cell_of_one hbox;have n0:=World.new_ne wr _ c0;have n1:=World.new_ne wr _ g1;have n2:=World.new_ne wr _ g2;go_wp2_with fail
  go_region_held3 (fun wx=>wx.cell? ⟨w.heap.size,0,none⟩=some (.pointer (some ⟨rb,0,none⟩))/\wx.cell? ⟨rb,0,none⟩=some (.string s)/\wx.cell? ⟨rb,1,none⟩=some (.int .i64 q)) (go_keep) (fail)
  go_wp2_with fail
  refine(qIP g cap ws (s.extract p q) _ ((hbr.kept ((Kp.refl 0 [] wr).alloc (.cells #[.string (s.extract p q)] 9)) (by simp)).drewN 1) hl).mono ?_;clear n0 n1 n2;rintro e w1⟨rfl,nd,rfl⟩;obtain⟨M,hM⟩:∃M,N-(q-p)=M+1:=⟨N-(q-p)-1,by omega⟩;rw[qGX];cases hf:ws.findIdx? (·==(qCd s p q).data.toList)with
  |some i =>
   have HE:Hid (qCo s ws N [] p=(q,some i)):=by rw[<-HQ.out,hM];exact qQ4 hf
   have hw:qIW ws (qCd s p q).data.toList=(i:Int):=by unfold qIW;rw[hf]
   rw[hw];clear hf hw;go_wp2
   go_ret2
   rw[HE.out];exact⟨i,_,rfl,(hr.alloc _).drewN _,(hk.alloc _).drewN _,.inl ⟨rfl,rfl⟩⟩
  | none =>
   have hw:qIW ws (qCd s p q).data.toList=-1:=by unfold qIW;rw[hf]
   rw[hw];clear hw;have hne:=qQz hf;cases hg:qCQ ws (qCd s p q).data.toList (qAC s q)
   ·have HE:Hid (qCo s ws N [] p=(q,none)):=by rw[<-HQ.out,hM];exact qUx hf hg
    have HG:=qAF hg;have HN:=qAF hne;clear hf hg hne;have hr1:=hr.alloc (.cells #[.string (qCd s p q)] 9);have hb1:Ws (wr.alloc (.cells #[.string (qCd s p q)] 9)) g ws:=hbr.kept ((Kp.refl 0 [] wr).alloc _) (by simp);have ht1:=qAE wr (.cells #[.string (qCd s p q)] 9);have hx1:=qAG hbox (.cells #[.string (qCd s p q)] 9);have hk1:=hk.alloc (.cells #[.string (qCd s p q)] 9);have b1:=cell_of_one hx1;clear c0 g1 g2 g3;go_wp2_with (first|(go_at_call 253;refine(qD6 rb wr.heap.size w.heap.size g cap ws s (qCd s p q) q _ false (hr1.drewN _) (hb1.drewN _) hl ht1 hx1 HN.out HG.out).mono ?_;rintro e w2 ⟨rfl,nq,rfl⟩)|(go_at_call 95;refine(qBB B rb s q _ (hr1.drewN _)).mono ?_;rintro e w' ⟨v,rfl,hc,hr'',hk''⟩))
    go_ret2
    rw[HE.out];exact⟨0,_,rfl,hr'',hk1.trans hk''.fromDrewN,.inr ⟨rfl,rfl,hc⟩⟩
   ·have hlt:=qLL h0 hg;have hlen:=qOm hN hg;have hpk:qAC s q≠0:=by
     intro e;rw[e]at hg;unfold qCQ at hg;rw[List.any_eq_true]at hg;obtain⟨x,hx,hg⟩:=hg;rw[Bool.and_eq_true]at hg;obtain⟨_,hg⟩:=hg;split at hg
     ·rename_i c hc;have hc0:(c.toNat:Int)=0:=by simpa using hg
      have : c = 0 := UInt8.toNat_inj.mp (by have h1 : (0 : UInt8).toNat = 0 := rfl
                                             omega)
      exact h0 x hx (this▸List.mem_of_getElem? hc)
     ·cases hg
    have hsn:=qRr hpq hpk;have hlen2:(qCd s p q).data.toList.length=q-p:=by rw[<-qEW g4 hpq];simp
    rw[hlen2]at hlen;have HE:Hid (qCo s ws (N-(q+1-p)) (qCd s p (q+1)).data.toList (q+1)=qCo s ws N [] p):=by
     have e1:N-(q+1-p)=M:=by omega
     rw[<-HQ.out,hM,qUw hf hg,hsn,e1];rfl
    have HG:=qAF hg;have HN:=qAF hne;clear hf hg hne hpk hsn hlen2;have hr1:=hr.alloc (.cells #[.string (qCd s p q)] 9);have hb1:Ws (wr.alloc (.cells #[.string (qCd s p q)] 9)) g ws:=hbr.kept ((Kp.refl 0 [] wr).alloc _) (by simp);have ht1:=qAE wr (.cells #[.string (qCd s p q)] 9);have hx1:=qAG hbox (.cells #[.string (qCd s p q)] 9);have hk1:=hk.alloc (.cells #[.string (qCd s p q)] 9);have b1:=cell_of_one hx1;have g7:=hr1.place;have g8:=hr1.free;clear c0 g1 g2 g3;go_wp2_with (go_at_call 253;refine(qD6 rb wr.heap.size w.heap.size g cap ws s (qCd s p q) q _ true (hr1.drewN _) (hb1.drewN _) hl ht1 hx1 HN.out HG.out).mono ?_;rintro e w2 ⟨rfl,nq,rfl⟩)
    go_roundw
    case rel =>
     refine⟨q+1,(hr1.drewN _).moved (by omega) (by simp),by omega,by omega,?_,HE,(hk1.drewN _).setCell (hr1.drewN _).blk (by simp) hB _⟩;exact qAH hx1 (qFW hx1 hr1.blk (by decide)) _
    case measure=>rw[((hr1.drewN _).moved (q:=q+1) (by omega) (by simp)).placeOf,hr.placeOf];omega
theorem qOF(B rb:Nat)(s:ByteArray)(p:Nat)(w:World)(h:Rd w rb s p)(hB:B<=rb) :
  Calls prog 254 #[.pointer (some ⟨rb,0,none⟩)] w fun e w'=>∃(n:ByteArray)(v:Value),e=.returned (.tuple #[.string n,v])/\Rd w' rb s (qB5 s p).1/\Kp B [210] w w' /\
   (((qB5 s p).2=some n/\v=.nilIface)\/((qB5 s p).2=none/\Chain w' 2 (qB5 s p).1 0 v)):=by
 have h4:=h.le;have h5:=h.max;obtain⟨q,hq⟩:∃q,qDm qBj s 16 p=q:=⟨_,rfl⟩;have hle:=qC5 qBj (by decide) s 16 p h4;rw[hq]at hle;obtain⟨hpq,hqs,hq16⟩:=hle;have hsz:=qEW hqs hpq;have HQ:=qAF hq;by_cases hn:q=p
 ·have HE:Hid (qB5 s p=(q,none)):=by unfold qB5;rw[hq,if_pos (.inl hn)];rfl
  have hz:(qCd s p q).toList=[]:=by
   rw[Lib.toList_data,hn,qN5]
  have hz2:(qCd s p q).toList.isEmpty=true:=by rw[List.isEmpty_iff];exact hz
  clear hz;clear hq hn;go_enter func254,ntmps254
  go_wp2_with (first|(go_at_call 245;refine(qKJ B rb s p _ h hB).mono ?_;rw[HQ.out];rintro e wr ⟨rfl,hr,hk⟩)|(go_at_call 95;refine(qBB B rb s q _ hr).mono ?_;rintro e w' ⟨v,rfl,hc,hr'',hk''⟩))
  go_ret2
  rw[HE.out];exact⟨_,_,rfl,hr'',hk.trans hk'',.inr ⟨rfl,hc⟩⟩
 ·have hz:¬(qCd s p q).toList=[]:=by
   rw[Lib.toList_data];intro e;have h1:(qCd s p q).data.toList.length=(qCd s p q).size:=by simp
   rw[e,hsz]at h1;simp at h1;omega
  have hz2:(qCd s p q).toList.isEmpty=false:=by
   rw[<-Bool.not_eq_true,List.isEmpty_iff];exact hz
  clear hz;cases hw:qBj (qAC s q)
  ·have HE:Hid (qB5 s p=(q,some (qCd s p q))):=by unfold qB5;rw[hq,if_neg (by rw[hw];simp[hn])];rfl
   have HW:=qAF hw;have hs5:(qCd s p q).size<=100000:=by rw[hsz];omega
   clear hq hn hw;go_enter func254,ntmps254
   go_wp2_with (first|(go_at_call 245;refine(qKJ B rb s p _ h hB).mono ?_;rw[HQ.out];rintro e wr ⟨rfl,hr,hk⟩)|(go_at_call 144;refine(qAL rb s q _ hr).mono ?_;rintro e w' ⟨rfl,nq,rfl⟩)|(go_at_call 267;refine(qFg _ _ _ HW.out).mono ?_;rintro e w' ⟨rfl,rfl⟩)|(go_at_call 268;refine(qK1 _ _ hs5).mono ?_;rintro e w' ⟨rfl,hbl⟩))
   go_ret2
   rw[HE.out];exact⟨_,_,rfl,hr.belowD hbl rfl rfl,hk.belowD hbl rfl rfl rfl rfl rfl,.inl ⟨rfl,rfl⟩⟩
  ·have HE:Hid (qB5 s p=(q,none)):=by unfold qB5;rw[hq,if_pos (.inr hw)];rfl
   have HW:=qAF hw;clear hq hn hw;go_enter func254,ntmps254
   go_wp2_with (first|(go_at_call 245;refine(qKJ B rb s p _ h hB).mono ?_;rw[HQ.out];rintro e wr ⟨rfl,hr,hk⟩)|(go_at_call 144;refine(qAL rb s q _ hr).mono ?_;rintro e w' ⟨rfl,nq,rfl⟩)|(go_at_call 267;refine(qFg _ _ _ HW.out).mono ?_;rintro e w' ⟨rfl,rfl⟩)|(go_at_call 95;refine(qBB B rb s q _ (hr.drewN _)).mono ?_;rintro e w' ⟨v,rfl,hc,hr'',hk''⟩))
   go_ret2
   rw[HE.out];exact⟨_,_,rfl,hr'',hk.trans hk''.fromDrewN,.inr ⟨rfl,hc⟩⟩
