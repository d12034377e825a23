/-
  Parts of the proof: C2.
-/
import Derived.Test.YtclpcnignheijaaGreatDoorQ3
import Derived.Deep.RegionLaw
set_option maxHeartbeats 2000000
set_option maxRecDepth 100000
namespace Go.Proofs.YtclpcnignheijaaGreatDoor
open Go.RowKit Go.Proofs.Tryz
theorem Tryz.infoElem:(prog.info? 139).map (fun i=>(i.zero,i.size,i.bytes))=some (some (.agg #[.string ⟨#[]⟩,.int .i64 0,.slice none 0 0,.int .i64 0,.int .i64 0]),5,64):=by kernel_rfl
theorem qEV(s:ByteArray):Lib.strCells s=u8s s.data.toList:=rfl
theorem qDk{w:World}{B:Nat}{e:TypeId}{size:Nat}{v:Value}{n:Nat}{xs:List Value}(h:w.ownsRow B e size v n xs){p:Addr}{c:Array Value}{t:TypeId}{fr:Nat×Nat}(hp:w.heap[p.block]? = some (.cells c t fr))(ht:e≠t)(u:Value):(w.setCell p u).ownsRow B e size v n xs :=
 (Kp.setAny hp u).owns h (by simp[ht])
theorem qQa{w:World}{b:Nat}{x y z u v:Value}{t:TypeId}(h:w.heap[b]? = some (.cells #[x,y,z,u] t (0,0))):(w.setCell ⟨b,0,none⟩ v).heap[b]? = some (.cells #[v,y,z,u] t (0,0)):=qAZ h v
theorem qQb{w:World}{b:Nat}{x y z u v:Value}{t:TypeId}(h:w.heap[b]? = some (.cells #[x,y,z,u] t (0,0))):(w.setCell ⟨b,1,none⟩ v).heap[b]? = some (.cells #[x,v,z,u] t (0,0)):=qAZ h v
theorem qLI{w:World}{b:Nat}{x y z u v:Value}{t:TypeId}(h:w.heap[b]? = some (.cells #[x,y,z,u] t (0,0))):(w.setCell ⟨b,2,none⟩ v).heap[b]? = some (.cells #[x,y,v,u] t (0,0)):=qAZ h v
theorem qLJ{w:World}{b:Nat}{x y z u v:Value}{t:TypeId}(h:w.heap[b]? = some (.cells #[x,y,z,u] t (0,0))):(w.setCell ⟨b,3,none⟩ v).heap[b]? = some (.cells #[x,y,z,v] t (0,0)):=qAZ h v
def TB:List TypeId:=[212,139,5]
theorem qRy{w w':World}{row:Option Nat}(h:w.drew.grownBy w' row):w.grownBy w' row:=⟨h.os,h.tape,h.output,h.size,h.block⟩
theorem qWY:(212:TypeId)≠139:=by decide
theorem qDY{w w':World}{B:Nat}{e e':TypeId}{size size':Nat}{v v':Value}{n n':Nat}{xs xs':List Value}(h:w.ownsRow B e size v n xs)(ho:w.ownsRow B e' size' v' n' xs')(hg:w.grownBy w' v'.ownBlock)(he:e≠e'):w'.ownsRow B e size v n xs:=by
 obtain⟨h1,h2⟩:=h;refine⟨h1,?_⟩;rcases h2 with h2|⟨g,cap,cur,hv,hg',hh,r⟩
 ·exact .inl h2
 ·exact .inr ⟨g,cap,cur,hv,hg',qA1 ho hg hh he,r⟩
theorem Kp.grownRow{B:Nat}{T:List TypeId}{a w w':World}{e:TypeId}{size:Nat}{v:Value}{n:Nat}{xs:List Value}(h:Kp B T a w)(ho:w.ownsRow B e size v n xs)(hg:w.grownBy w' v.ownBlock)(he:e∈T):Kp B T a w':=by
 refine h.grown hg fun k hk=>?_;rcases ho.2 with⟨hv,_⟩|⟨g,cap,cur,hv,hg',hh,r⟩
 ·rw[hv]at hk;simp[Value.ownBlock]at hk
 ·rw[hv]at hk;simp only[Value.ownBlock,Option.some.injEq]at hk;subst hk;exact⟨hg',_,_,_,hh,he⟩
theorem qP4(B bb:Nat)(b:BS)(t:ByteArray)(w:World)(h:Bd w B bb b)(hB:B<=bb)(hs:b.txt.length<=5000)(ht:t.size<=5000) :
  Calls prog 186 #[.pointer (some ⟨bb,0,none⟩),.string t] w fun e w'=>e=.returned (.tuple #[])/\Bd w' B bb (b.text t.data.toList)/\Kp B TB w w':=by
 obtain⟨ve,vt,avs,a1,a2,a3,a4,a5⟩:=h;obtain⟨c0,c1,c2,c3⟩:=qIb a1;have hbs:=lt_of_block a1;obtain⟨i0,hi,hz0,hz1,hz2⟩:=info_parts Tryz.infoU8;have A1:=qAF a1;have A3:=qAF a3;have A5:=qAF a5;have A2:=qAF a2;clear a1 a3 a5 a2;go_enter func186,ntmps186
 go_wp2_with (at_builtin;refine Lib.wpList_append_own_string _ rfl _ _ 50 9 rfl B 5 i0 underlying50 underlying9 hi hz0 hz1 hz2 _ _ _ rfl a4 t rfl (by unfold maxLen;omega) (by omega) (by omega) ?_;intro v1 w1 own1 grow1 _;have e1:=qA1 a4 grow1 A1.out (by decide);obtain⟨d0,d1,d2,d3⟩:=qIb e1;have f1:=qAd (o:=1) e1;obtain⟨ao1,cp1,hv1⟩:=qBA own1;subst hv1)
 go_end0
 refine⟨rfl,⟨ve,_,avs,qQb e1,A2.out,qDk (qDY A3.out a4 grow1 (by decide)) e1 (by decide) _,?_,fun i x a hx ha=>qDk (qDY (A5.out i x a hx ha) a4 grow1 (by decide)) e1 (by decide) _⟩,?_⟩
 ·have o2:=qDk (p:=⟨bb,1,none⟩) own1 e1 (by decide) (.slice ao1 (b.txt.length+t.size) cp1);rw[qEV]at o2;show World.ownsRow _ B 5 1 _ (b.txt++t.data.toList).length (u8s (b.txt++t.data.toList));rw[List.length_append,show t.data.toList.length=t.size from by simp,show u8s (b.txt++t.data.toList)=u8s b.txt++u8s t.data.toList from by simp[u8s]];exact o2
 ·exact((Kp.refl _ _ _).grownRow a4 grow1 (by decide)).setCell e1 (by decide) hB _
theorem qPX{w:World}{B bb:Nat}{x y z u x' z' u':Value}{T:List TypeId}(h:w.heap[bb]? = some (.cells #[x,y,z,u] 212 (0,0)))(hB:B<=bb)(hT:212∈T) :
  (((w.setCell ⟨bb,0,none⟩ x').setCell ⟨bb,2,none⟩ z').setCell ⟨bb,3,none⟩ u').heap[bb]? = some (.cells #[x',y,z',u'] 212 (0,0)) /\
  Kp B T w (((w.setCell ⟨bb,0,none⟩ x').setCell ⟨bb,2,none⟩ z').setCell ⟨bb,3,none⟩ u')/\Kp 0 [212] w (((w.setCell ⟨bb,0,none⟩ x').setCell ⟨bb,2,none⟩ z').setCell ⟨bb,3,none⟩ u'):=by
 have h1:=qQa (v:=x') h;have h2:=qLI (v:=z') h1;exact⟨qLJ h2,(((Kp.refl B T w).setCell (p:=⟨bb,0,none⟩) h hT hB x').setCell (p:=⟨bb,2,none⟩) h1 hT hB z').setCell (p:=⟨bb,3,none⟩) h2 hT hB u',
  (((Kp.refl 0 [212] w).setCell (p:=⟨bb,0,none⟩) h (by simp) (Nat.zero_le _) x').setCell (p:=⟨bb,2,none⟩) h1 (by simp) (Nat.zero_le _) z').setCell (p:=⟨bb,3,none⟩) h2 (by simp) (Nat.zero_le _) u'⟩
theorem qGB(B bb:Nat)(b:BS)(n:ByteArray)(l:List (ByteArray×ByteArray))(av:Value)(w:World)(h:Bd w B bb b)(hB:B<=bb)(hs:b.els.length<=5000)(hd:-5000<=b.dep/\b.dep<=b.els.length)
  (ho:w.ownsRow B 169 2 av l.length (attrCells l)) :
  Calls prog 226 #[.pointer (some ⟨bb,0,none⟩),.string n,av] w fun e w'=>e=.returned (.tuple #[])/\Bd w' B bb (b.begin n l)/\Kp B TB w w':=by
 obtain⟨ve,vt,avs,a1,a2,a3,a4,a5⟩:=h;obtain⟨c0,c1,c2,c3⟩:=qIb a1;have hbs:=lt_of_block a1;obtain⟨i0,hi,hz0,hz1,hz2⟩:=info_parts Tryz.infoElem;obtain⟨ao,cp,hav⟩:=qBA ho;subst hav;obtain⟨aot,cpt,hvt⟩:=qBA a4;subst hvt;have A1:=qAF a1;have A4:=qAF a4;have A5:=qAF a5;have A2:=qAF a2;have HO:=qAF ho;clear a1 a4 a5 a2 ho;go_enter func226,ntmps226
 go_wp2
 go_region_law (refine step_append_lies _ rfl (.tmp 10) (.tmp 23) 83 rfl B 139 i0 (.agg #[.string ⟨#[]⟩,.int .i64 0,.slice none 0 0,.int .i64 0,.int .i64 0]) 5 64 underlying83 hi hz0 hz1 hz2 ?_ ?_ ve b.els.length (qBd b.els avs) ?_ ?_ ⟨w.heap.size,0,none⟩ 1 1 [.string n,.int .i64 b.opn,.slice ao l.length cp,.int .i64 (b.txt.length:Int),.int .i64 0] ?_ ?_ ?_ ?_ ?_ ?_ ?_ ?_ (w.heap.size+1) ?_ ?_;(rfl);(decide);(simp[Act.eval]);(exact a3.alloc _);(simp[Act.eval]);(rfl);(exact qCL #[.string n,.int .i64 b.opn,.slice ao l.length cp,.int .i64 (b.txt.length:Int),.int .i64 0] 139 rfl);(intro u hu;simp at hu;rcases hu with rfl|rfl|rfl|rfl|rfl<;>rfl);(decide);(unfold maxLen;omega);(omega);(simp;omega);(simp);intro g cap w1 own1 grow1 hat hlt;have grow2:=qRy grow1;clear grow1;have e1:=qA1 (a3.alloc _) grow2 (qAG A1.out _) qWY;have f0:=qAd (o:=0) e1;have f2:=qAd (o:=2) e1;have f3:=qAd (o:=3) e1;obtain⟨d0,d1,d2,d3⟩:=qIb e1)
 all_goals go_wp2
 all_goals go_end0
 all_goals
  obtain⟨s1,s2,s3⟩:=qPX (B:=B) (T:=TB) (x':=.slice (some ⟨g,0,none⟩) (b.els.length+1) cap) (z':=.int .i64 (b.els.length:Int)) (u':=.int .i64 (b.dep+1)) e1 hB (by decide);refine⟨rfl,⟨_,_,avs++[.slice ao l.length cp],s1,?_,?_,s3.owns (qDY (A4.out.alloc _) (a3.alloc _) grow2 (by decide)) (by decide),?_⟩,((((Kp.refl _ _ _).alloc _).grownRow (a3.alloc _) grow2 (by decide)).trans s2)⟩
  ·simp[BS.begin,A2.out]
  ·have o2:=s3.owns own1 (by decide);rw[<-qGg b.els avs ⟨n,b.opn,l,(b.txt.length:Int),0⟩ (.slice ao l.length cp) A2.out]at o2;simpa [BS.begin]using o2
  ·intro i x a hx ha;have hl2:=A2.out;rcases Nat.lt_trichotomy i b.els.length with hi|hi|hi
   ·refine s3.owns (qDY ((A5.out i x a ?_ ?_).alloc _) (a3.alloc _) grow2 (by decide)) (by decide)
    ·simpa [BS.begin,List.getElem?_append_left hi]using hx
    ·rwa[List.getElem?_append_left (by omega)]at ha
   ·subst hi;rw[List.getElem?_append_right (by omega),hl2,Nat.sub_self]at ha;simp only[BS.begin,List.getElem?_concat_length,Option.some.injEq]at hx;simp at ha;subst hx;subst ha;exact s3.owns (qDY (HO.out.alloc _) (a3.alloc _) grow2 (by decide)) (by decide)
   ·rw[List.getElem?_eq_none (by simp;omega)]at ha;cases ha
theorem qFm(t:ByteArray)(w:World) :
  Calls prog 83 #[.string t] w fun e w'=>e=.returned (.pointer (some ⟨w.heap.size,0,none⟩))/\w'=w.alloc (.cells #[.string t,.int .i64 0] 210):=by
 go_enter func83,ntmps83
 go_wp2
 go_ret
 exact⟨rfl,rfl⟩
theorem qIk(w:World) :
  Calls prog 84 #[] w fun e w'=>e=.returned (.pointer (some ⟨w.heap.size,0,none⟩))/\w'=w.alloc (.cells #[.slice none 0 0,.slice none 0 0,.int .i64 (-1),.int .i64 0] 212):=by
 go_enter func84,ntmps84
 go_wp2
 go_ret
 exact⟨rfl,rfl⟩
