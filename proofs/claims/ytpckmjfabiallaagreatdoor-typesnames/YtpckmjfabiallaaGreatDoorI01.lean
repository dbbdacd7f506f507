/- Texts of ours, joined. -/
import Derived.Test.YtpckmjfabiallaaGreatDoorI00
import Derived.Deep.DrawnRows
import Derived.Deep.MidRow
set_option linter.unusedVariables false
set_option linter.unusedSimpArgs false
set_option maxRecDepth 100000
set_option maxHeartbeats 16000000
namespace Go.Proofs.YtpckmjfabiallaaGreatDoor
variable{B':Nat->Prop}{T:TypeId}{a:Act}{b f g ga i j m mb sz:Nat}{cs:List Value}{s:ByteArray}{v y0 y1 y2 y3 y4 y5:Value}{w w' w1 w2:World}{x:List UInt8}
open List
open Tryz
section
namespace Vv
open Go.RowKit
abbrev From(n:Nat):Nat->Prop:=λ g=>n<=g
def Bc8(v:Value):Prop:=v=sZ\/∃a cap,v=.slice (some a) 0 cap/\cap<=maxLen
def SlRow(B:AS)(w:World)(sz:Nat)(v:Value)(n:Nat)(row:AR):Prop:=
 row.length=n*sz/\((Bc8 v/\n=0)\/∃g o cap,v=sL g o n cap/\n<=cap/\cap<=maxLen/\B g/\g<w.heap.size/\∀(j:Nat) (u:Value),row[j]?=u->w.cell? ⟨g,o+j,none⟩=u)
def InR(n:Int):Prop:=-9223372036854775808<=n/\n<=9223372036854775807
mutual
def IsV(B:AS)(w:World):V->List Value->Prop
 | .mk k n t l,cs=>∃sl row,cs=[iv k,iv n,.string ⟨t.toArray⟩,sl]/\t.length<=maxLen/\InR k/\InR n/\SlRow B w 4 sl l.length row/\AllV B w l row
def AllV(B:AS)(w:World):List V->List Value->Prop
 | [],cs=>cs=[]
 | e :: r,cs=>∃c1 c2,cs=c1 ++ c2/\IsV B w e c1/\AllV B w r c2
end
structure Since(B:AS)(w w':World):Prop where
 size:w<=w'.heap.size
 block:∀k,B k->k<w.heap.size->w'.heap[k]?=w.heap[k]?
theorem Since.trans{B:AS}(a:Since B w w1)(b:Since B w1 w2):Since B w w2:=⟨AP a.size b.size,λ k h1 h2=>(b.block k h1 (by have:=a.size;omega)).trans (a.block k h1 h2)⟩
theorem Since.of_below{B:AS}(h:Below w w w'):Since B w w':=⟨h.size,λ k _ h2=>h.block k h2⟩
theorem Since.drewN(B:AS)(w:World)(n:Nat):Since B w (w.drewN n):=⟨AD _,λ _ _ _=>rfl⟩
theorem SlRow.since{B:AS}{n:Nat}{row:AR}(h:SlRow B w sz v n row)(s:Since B w w'):SlRow B w' sz v n row:=by
 obtain⟨h1,h2⟩:=h;refine⟨h1,?_⟩;rcases h2 with h2 | ⟨g,o,cap,hv,hc,hm,hB,hg,a0⟩
 .exact AI h2
 .refine AJ ⟨g,o,cap,hv,hc,hm,hB,by have:=s.size;omega,λ j u hj=>?_⟩;rw[World.cell?_of_block (w:=w) (s.block g hB hg)];exact a0 j u hj
theorem SlRow.base{B:AS}{n:Nat}{row:AR}(h:SlRow B w sz v n row)(hb:∀k,B k->k<w.heap.size->B' k):SlRow B' w sz v n row:=by
 obtain⟨h1,h2⟩:=h;refine⟨h1,?_⟩;rcases h2 with h2 | ⟨g,o,cap,hv,hc,hm,hB,hg,r⟩
 .exact AI h2
 .exact AJ ⟨g,o,cap,hv,hc,hm,hb _ hB hg,hg,r⟩
mutual
theorem IsV.since{B:AS}{w w':World}(s:Since B w w'):∀{e:V} {cs:AR},IsV B w e cs->IsV B w' e cs
 | .mk k n t l,cs,h=>by
  rw[IsV] at h ⊢;obtain⟨sl,row,hc,h1,h2,h3,hr,ha⟩:=h;exact⟨sl,row,hc,h1,h2,h3,hr.since s,AllV.since s ha⟩
theorem AllV.since{B:AS}{w w':World}(s:Since B w w'):∀{l:List V} {cs:AR},AllV B w l cs->AllV B w' l cs
 | [],cs,h=>by rw[AllV] at h ⊢;exact h
 | e :: r,cs,h=>by
  rw[AllV] at h ⊢;obtain⟨c1,c2,hc,h1,h2⟩:=h;exact⟨c1,c2,hc,IsV.since s h1,AllV.since s h2⟩
end
mutual
theorem IsV.base{B B':AS}{w:World}(hb:∀k,B k->k<w.heap.size->B' k):∀{e:V} {cs:AR},IsV B w e cs->IsV B' w e cs
 | .mk k n t l,cs,h=>by
  rw[IsV] at h ⊢;obtain⟨sl,row,hc,h1,h2,h3,hr,ha⟩:=h;exact⟨sl,row,hc,h1,h2,h3,hr.base hb,AllV.base hb ha⟩
theorem AllV.base{B B':AS}{w:World}(hb:∀k,B k->k<w.heap.size->B' k):∀{l:List V} {cs:AR},AllV B w l cs->AllV B' w l cs
 | [],cs,h=>by rw[AllV] at h ⊢;exact h
 | e :: r,cs,h=>by
  rw[AllV] at h ⊢;obtain⟨c1,c2,hc,h1,h2⟩:=h;exact⟨c1,c2,hc,IsV.base hb h1,AllV.base hb h2⟩
end
theorem SlRow.slice{B:AS}{n:Nat}{row:AR}(h:SlRow B w sz v n row):∃ao cap,v=.slice ao n cap/\n<=cap/\cap<=maxLen:=by
 rcases h.2 with⟨h1 | ⟨a,cap,h1,h2⟩,h0⟩ | ⟨g,o,cap,h1,h2,h3,_⟩
 .exact⟨none,0,by rw[h1,h0],by omega,by unfold maxLen;omega⟩
 .exact⟨some a,cap,by rw[h1,h0],by omega,h2⟩
 .exact⟨_,cap,h1,h2,h3⟩
theorem heap_new(w:World)(o:Obj):(w.alloc o).heap[w.heap.size]?=o:=by
 show (w.heap.push _)[w.heap.size]?=_;rw[Array.getElem?_push,if_pos rfl]
theorem cells_of4(h:w.heap[g]?=some (.cells #[y0,y1,y2,y3] T (0,0))):w.cell? g=y0/\w.cell? ⟨g,1,none⟩=y1/\w.cell? ⟨g,2,none⟩=y2/\w.cell? ⟨g,3,none⟩=y3/\w.frozen? g=false/\w.frozen? ⟨g,1,none⟩=false/\w.frozen? ⟨g,2,none⟩=false/\w.frozen? ⟨g,3,none⟩=false:=by
 refine⟨?_,?_,?_,?_,?_,?_,?_,?_⟩
 all_goals first | simp[World.cell?,h] | simp[World.frozen?,h]
theorem bcell{W:World}(hb:Below W W w1):(∀b o,b<W.heap.size->w1.cell? ⟨b,o,none⟩=W.cell? ⟨b,o,none⟩)/\(∀b o,b<W.heap.size->w1.frozen? ⟨b,o,none⟩=W.frozen? ⟨b,o,none⟩):=
 ⟨λ b o h=>hb.cell (p:=⟨b,o,none⟩) h,λ b o h=>hb.frozen (p:=⟨b,o,none⟩) h⟩
theorem below_drewN(w:World)(n:Nat):Below w w (w.drewN n):=⟨rfl,rfl,rfl,AD _,λ _ _=>rfl⟩
abbrev set4(w:World)(g:Nat)(x0 x1 x2 x3:Value):World:=(((w.setCell g x0).setCell ⟨g,1,none⟩ x1).setCell ⟨g,2,none⟩ x2).setCell ⟨g,3,none⟩ x3
theorem ret_int{k:IntKind}{a b:Int}(h:a=b):Ending.returned (.int k a)=.returned (.int k b):=by rw[h]
theorem ret_bool{a b:Bool}(h:a=b):Ending.returned (.bool a)=.returned (.bool b):=by rw[h]
end Vv
namespace Vv
open Go.RowKit
theorem between_any(s a c:ByteArray)(w:World)(hs:s.size<=maxLen) :
  AA 150 #[.string s,.string a,.string c] w λ e w'=>(∃z,e=.returned (.tuple #[.string z,.bool (betw s.data.toList a.data.toList c.data.toList).isSome])/\z.size<=s.size/\∀y,betw s.data.toList a.data.toList c.data.toList=some y->z=⟨y.toArray⟩)/\w'=w:=by
 have hl:(Lib.trimPrefix s.data.toList a.data.toList).length<=s.size:=by
  unfold Lib.trimPrefix;have:s.data.toList.length=s.size:=by simp
  split <;> simp <;> omega
 have hz:(Lib.trimSuffix (Lib.trimPrefix s.data.toList a.data.toList) c.data.toList).length<=s.size:=by
  refine AP ?_ hl;generalize Lib.trimPrefix s.data.toList a.data.toList=q;unfold Lib.trimSuffix;split <;> simp
 have h1:=Tryz.strings_CutPrefix s a w;have h2:=Tryz.strings_CutSuffix ⟨(Lib.trimPrefix s.data.toList a.data.toList).toArray⟩ c w (by show (Lib.trimPrefix s.data.toList a.data.toList).toArray.size<=_;unfold maxLen at hs;simp;omega);have hr:(betw s.data.toList a.data.toList c.data.toList).isSome=(Lib.hasPrefix s.data.toList a.data.toList && Lib.hasSuffix (Lib.trimPrefix s.data.toList a.data.toList) c.data.toList):=by
  unfold betw;split
  .rename_i h;rw[h];rfl
  .rename_i h;simp only[Bool.not_eq_true] at h;rw[h];rfl
 have hy:∀y,betw s.data.toList a.data.toList c.data.toList=some y->y=Lib.trimSuffix (Lib.trimPrefix s.data.toList a.data.toList) c.data.toList:=by
  intro y h;unfold betw at h;split at h
  .simpa using h.symm
  .cases h
 rw[hr];have hd:(ByteArray.mk (Lib.trimPrefix s.data.toList a.data.toList).toArray).data.toList=Lib.trimPrefix s.data.toList a.data.toList:=by simp
 rw[hd] at h2;clear hd hl;generalize Lib.trimSuffix (Lib.trimPrefix s.data.toList a.data.toList) c.data.toList=z at *;generalize Lib.hasSuffix (Lib.trimPrefix s.data.toList a.data.toList) c.data.toList=q at *;generalize Lib.trimPrefix s.data.toList a.data.toList=z1 at *;generalize Lib.hasPrefix s.data.toList a.data.toList=p at *;have hf:(∃z':ByteArray,Ending.returned (.tuple #[.string ⟨z.toArray⟩,.bool (p && q)])=.returned (.tuple #[.string z',.bool (p && q)])/\z'.size<=s.size/\∀y,betw s.data.toList a.data.toList c.data.toList=some y->z'=⟨y.toArray⟩):=
  ⟨⟨z.toArray⟩,rfl,by show z.toArray.size<=_;simpa using hz,λ y h=>by rw[hy y h]⟩
 clear hy hr hz;cases p
 all_goals
  go_enter func150,ntmps150;go_wp2_with (go_at_call 172;refine h1.mono ?_;rintro e w' ⟨rfl,rfl⟩);go_wp2_with (go_at_call 173;refine h2.mono ?_;rintro e w' ⟨rfl,rfl⟩);go_wp2
  go_ret2
  exact⟨by simpa using hf,rfl⟩
theorem between_yes(s:ByteArray)(a c y:AQ)(w:World)(hs:s.size<=maxLen)(h:betw s.data.toList a c=y) :
  AA 150 #[.string s,.string ⟨a.toArray⟩,.string ⟨c.toArray⟩] w λ e w'=>e=.returned (.tuple #[.string ⟨y.toArray⟩,.bool true])/\w'=w:=by
 refine (between_any s ⟨a.toArray⟩ ⟨c.toArray⟩ w hs).mono ?_;rintro e w' ⟨⟨z,rfl,_,hz⟩,rfl⟩;simp only[toList_toArray] at hz ⊢;rw[h,hz y h];exact⟨rfl,trivial⟩
theorem between_no(s:ByteArray)(a c:AQ)(w:World)(hs:s.size<=maxLen)(h:betw s.data.toList a c=none) :
  AA 150 #[.string s,.string ⟨a.toArray⟩,.string ⟨c.toArray⟩] w λ e w'=>(∃z,e=.returned (.tuple #[.string z,.bool false]))/\w'=w:=by
 refine (between_any s ⟨a.toArray⟩ ⟨c.toArray⟩ w hs).mono ?_;rintro e w' ⟨⟨z,rfl,_,hz⟩,rfl⟩;simp only[toList_toArray];rw[h];exact⟨⟨z,rfl⟩,trivial⟩
theorem element_no(s:ByteArray)(w:World)(hs:s.size<=maxLen)(h:elemT s.data.toList=none) :
  AA 122 #[.string s] w λ e w'=>(∃z,e=.returned (.tuple #[.string z,.bool false]))/\w'=w:=by
 unfold elemT at h;rcases e1:betw s.data.toList [91] [93] with _ | y1
 .rw[e1] at h;rcases e2:betw s.data.toList [123,105,110,116,58] [125] with _ | y2
  .rw[e2] at h;have h1:=between_no s _ _ w hs e1;have h2:=between_no s _ _ w hs e2;have h3:=between_no s _ _ w hs h;clear e1 e2 h;go_enter func122,ntmps122;go_wp2_with fail;refine h1.mono ?_;rintro e w' ⟨⟨z1,rfl⟩,rfl⟩;go_wp2_with fail;refine h2.mono ?_;rintro e w' ⟨⟨z2,rfl⟩,rfl⟩;go_wp2_with fail;refine h3.mono ?_;rintro e w' ⟨⟨z3,rfl⟩,rfl⟩;go_wp2
   go_ret2
   exact⟨⟨z3,rfl⟩,rfl⟩
  .rw[e2] at h;cases h
 .rw[e1] at h;cases h
theorem element_yes(s:ByteArray)(y:AQ)(w:World)(hs:s.size<=maxLen)(h:elemT s.data.toList=y) :
  AA 122 #[.string s] w λ e w'=>e=.returned (.tuple #[.string ⟨y.toArray⟩,.bool true])/\w'=w:=by
 unfold elemT at h;rcases e1:betw s.data.toList [91] [93] with _ | y1
 .rw[e1] at h;rcases e2:betw s.data.toList [123,105,110,116,58] [125] with _ | y2
  .rw[e2] at h;have h1:=between_no s _ _ w hs e1;have h2:=between_no s _ _ w hs e2;have h3:=between_yes s _ _ y w hs h;clear e1 e2 h;go_enter func122,ntmps122;go_wp2_with fail;refine h1.mono ?_;rintro e w' ⟨⟨z1,rfl⟩,rfl⟩;go_wp2_with fail;refine h2.mono ?_;rintro e w' ⟨⟨z2,rfl⟩,rfl⟩;go_wp2_with fail;refine h3.mono ?_;rintro e w' ⟨rfl,rfl⟩;go_wp2
   go_ret2
   exact⟨rfl,rfl⟩
  .rw[e2] at h;simp only[Option.some.injEq] at h;subst h;have h1:=between_no s _ _ w hs e1;have h2:=between_yes s _ _ y2 w hs e2;clear e1 e2;go_enter func122,ntmps122;go_wp2_with fail;refine h1.mono ?_;rintro e w' ⟨⟨z1,rfl⟩,rfl⟩;go_wp2_with fail;refine h2.mono ?_;rintro e w' ⟨rfl,rfl⟩;go_wp2
   go_ret2
   exact⟨rfl,rfl⟩
 .rw[e1] at h;simp only[Option.some.injEq] at h;subst h;have h1:=between_yes s _ _ y1 w hs e1;clear e1;go_enter func122,ntmps122;go_wp2_with fail;refine h1.mono ?_;rintro e w' ⟨rfl,rfl⟩;go_wp2
  go_ret2
  exact⟨rfl,rfl⟩
theorem elem_len{s y:AQ}(h:elemT s=y):y.length<=s.length:=by
 unfold elemT at h;rcases e1:betw s [91] [93] with _ | y1
 .rw[e1] at h;rcases e2:betw s [123,105,110,116,58] [125] with _ | y2
  .rw[e2] at h;rw[(betw_iff _ _ _ _).1 h];simp;omega
  .rw[e2] at h;simp only[Option.some.injEq] at h;subst h;rw[(betw_iff _ _ _ _).1 e2];simp;omega
 .rw[e1] at h;simp only[Option.some.injEq] at h;subst h;rw[(betw_iff _ _ _ _).1 e1];simp;omega
theorem bytes_of{l:AQ}(h:s.data.toList=l):s=⟨l.toArray⟩:=by
 cases s;simp at h;subst h;simp
theorem istype_any:∀(f d:Nat),d+f=5->∀(s:ByteArray) (w:World),s.size<=maxLen ->
  AA 87 #[.string s,iv d] w λ e w'=>e=.returned (.bool (tyF f s.data.toList))/\w'=w
 | 0,d,hd,s,w,hs=>by
  have a3:(4:Int)<(d:Int):=by omega
  go_enter func87,ntmps87;go_wp2;go_ret;exact⟨rfl,rfl⟩
 | f+1,d,hd,s,w,hs=>by
  have a3:¬(4:Int)<(d:Int):=by omega
  have ih:=istype_any f (d+1) (by omega);rw[tyF];by_cases c1:s.data.toList=[105,110,116]\/s.data.toList=[98,111,111,108]\/s.data.toList=[116,101,120,116]
  .rw[if_pos c1];have hl:s=⟨#[105,110,116]⟩\/s=⟨#[98,111,111,108]⟩\/s=⟨#[116,101,120,116]⟩:=by
    rcases c1 with h | h | h
    .exact AI (bytes_of h)
    .exact AJ (AI (bytes_of h))
    .exact AJ (AJ (bytes_of h))
   clear c1 ih;rcases hl with rfl | rfl | rfl
   all_goals
    go_enter func87,ntmps87;go_wp2;go_ret;exact⟨rfl,rfl⟩
  rw[if_neg c1];have q1:(s.toList == [105,110,116])=false:=by rw[ByteArray.toList_eq];simp;exact λ h=>c1 (AI h)
  have q2:(s.toList == [98,111,111,108])=false:=by rw[ByteArray.toList_eq];simp;exact λ h=>c1 (AJ (AI h))
  have q3:(s.toList == [116,101,120,116])=false:=by rw[ByteArray.toList_eq];simp;exact λ h=>c1 (AJ (AJ h))
  clear c1;rcases he:elemT s.data.toList with _ | y
  .have hE:=element_no s w hs he;go_enter func87,ntmps87;go_wp2_with fail;refine hE.mono ?_;rintro e w' ⟨⟨z,rfl⟩,rfl⟩;go_wp2;go_ret;exact⟨rfl,rfl⟩
  .have hE:=element_yes s y w hs he;have a0:(d:Int)+1<=9223372036854775807:=by omega
   have hl:=elem_len he;have hI:=ih ⟨y.toArray⟩ w (by show y.toArray.size<=_;have:s.data.toList.length=s.size:=(by simp);simp;omega);simp only[toList_toArray,Int.natCast_add,Int.cast_ofNat_Int] at hI;go_enter func87,ntmps87;go_wp2_with fail;refine hE.mono ?_;rintro e w' ⟨rfl,rfl⟩;go_wp2_with fail;refine hI.mono ?_;rintro e w' ⟨rfl,rfl⟩;go_wp2;go_ret;exact⟨rfl,rfl⟩
theorem stype_any(s:ByteArray)(w:World)(hs:s.size<=maxLen) :
  AA 59 #[.string s] w λ e w'=>e=.returned (.bool (gType s.data.toList))/\w'=w:=by
 have h:=istype_any 4 1 rfl s w hs;rw[<-gType_tyF] at h;go_enter func59,ntmps59;go_wp2_with (go_at_call 87;refine h.mono ?_;rintro e w' ⟨rfl,rfl⟩);go_ret;exact⟨rfl,rfl⟩
end Vv
namespace Vv
open Go.RowKit
theorem ext_list(s:ByteArray)(i j:Nat):(s.extract i j).data.toList=(s.data.toList.take j).drop i:=by
 rw[ByteArray.data_extract];simp[Array.toList_extract,extract_eq_take_drop];rw[take_drop];by_cases h:i<=j
 .rw[Nat.add_sub_of_le h]
 .rw[drop_eq_nil_of_le (by simp;omega),drop_eq_nil_of_le (by simp;omega)]
end Vv
section
namespace Vv
open Go Go.RowKit
section
variable {P:Program} {ops:Array Oper} {Q:Exit->Act->World->Prop} {md:Region.Mode} {S T:World->Prop} {N:Nat->Bool}
def wpE(P:Program)(md:Region.Mode)(ops:Array Oper)(Q:Exit->Act->World->Prop)(S:World->Prop)(N:Nat->Bool):Nat->Array Bool->Act->World->Prop
 | 0,listed,a,w=>Region.ready md ops listed=[]/\Q .normal a w
 | f+1,listed,a,w=>(Region.ready md ops listed=[]->Q .normal a w)/\∀i∈Region.ready md ops listed,wpOp P ops Q i (λ a' w'=>(N i=true->S w')/\wpE P md ops Q S N f (listed.setIfInBounds i true) a' w') a w
theorem wpE_any:∀(f:Nat) (listed:Array Bool) (a:Act) (w:World),wpE P md ops Q S N f listed a w->wpAny P md ops Q f listed a w
 | 0,_,_,_,h=>h
 | f+1,_,_,_,h=>⟨h.1,λ i hi=>wpOp_mono (λ a' w' hh=>wpE_any f _ a' w' hh.2) (h.2 i hi)⟩
theorem wpE_first{oi:Oper}(hi:ops[i]?=oi)(a4:∀(j:Nat) (o:Oper) cs b,ops[j]?=o->o.op≠.select cs b)(hQ:∀c a w,Q (.panic c) (a.put oi.dst v) w->Q (.panic c) a w)(a9:∀w,T w->N i=true->S w) :
  ∀(f:Nat) (listed:Array Bool) (a:Act) (w:World),
   (∀j oj,ops[j]?=some oj->j≠i->listed.getD j true=false->(∀e∈oj.after,Region.binds md e=true->e.on≠i)->oi.apart ops oj=true/\∀w',(N j=true->S w')->T w') ->
   i∈Region.ready md ops listed->YieldsIf P ops T oi v a->T w->wpE P md ops Q S N f (listed.setIfInBounds i true) (a.put oi.dst v) w->wpE P md ops Q S N (f+1) listed a w:=by
 intro f;induction f with
 | zero=>
  intro listed a w hfr hr hy hT H;refine⟨λ h=>absurd hr (by rw[h];simp),λ j hj=>?_⟩;by_cases hji:j=i
  .subst hji;exact hy.wpOp hi hT ⟨a9 w hT,H⟩
  .have h0:=ready_mono hj hji;rw[H.1] at h0;simp at h0
 | succ f ih=>
  intro listed a w hfr hr hy hT H;refine⟨λ h=>absurd hr (by rw[h];simp),λ j hj=>?_⟩;by_cases hji:j=i
  .subst hji;exact hy.wpOp hi hT ⟨a9 w hT,H⟩
  .have h1:=H.2 j (ready_mono hj hji);obtain⟨aa,oj,a5,a6⟩:=mem_ready.1 hj;have a7:∀e∈oj.after,Region.binds md e=true->e.on≠i:=by
    intro e he hb heq;have a0:=a6 e he hb;have a3:=(mem_ready.1 hr).1;rw[heq] at a0;by_cases hlt:i<listed.size
    .simp[hlt] at a3 a0;rw[a3] at a0;simp at a0
    .simp[Array.getElem?_eq_none (Nat.le_of_not_lt hlt)] at a0
   obtain⟨ab,ad⟩:=hfr j oj a5 hji aa a7;have h2:=wpOp_putIf a5 ab (λ cs b=>a4 i oi cs b hi) (λ cs b=>a4 j oj cs b a5) hQ hy h1;have a8:∀k ok,ops[k]?=some ok->k≠i->(listed.setIfInBounds j true).getD k true=false->(∀e∈ok.after,Region.binds md e=true->e.on≠i)->oi.apart ops ok=true/\∀w',(N k=true->S w')->T w':=by
    intro k ok hk hki hunk hno;refine hfr k ok hk hki ?_ hno;by_cases hjk:j=k
    .rw[<-hjk];exact aa
    .rw[getD_set_ne true hjk] at hunk;exact hunk
   refine wpOp_mono (λ a' w' h3=>⟨h3.2.1,ih _ a' w' a8 (ready_mono hr (λ e=>hji e.symm)) h3.1 (ad w' h3.2.1) ?_⟩) h2;rw[Array.setIfInBounds_comm _ _ hji];exact h3.2.2
def lateWait(md:Region.Mode)(ops:Array Oper)(N:Nat->Bool)(i:Nat):Bool:=(List.range ops.size).all λ j=>N j || j == i || ((ops[j]?).map λ o=>o.after.any λ e=>Region.binds md e && e.on == i).getD true
theorem lateWait_spec{oj:Oper}(h:lateWait md ops N i=true)(hj:ops[j]?=oj)(a3:j≠i)(a0:∀e∈oj.after,Region.binds md e=true->e.on≠i):N j=true:=by
 have h1:=all_eq_true.1 h j (by simp;exact (AB hj).1);simp only[hj,Option.map_some,Option.getD_some,Bool.or_eq_true,beq_iff_eq] at h1;rcases h1 with (h1 | h1) | h1
 .exact h1
 .exact absurd h1 a3
 .obtain⟨e,he,hb⟩:=any_eq_true.1 (by rw[Array.any_toList];exact h1);simp only[Bool.and_eq_true,beq_iff_eq] at hb;exact absurd hb.2 (a0 e (by simpa using he) hb.1)
theorem wpE_take{oi:Oper}{a0:Array Bool}(hi:ops[i]?=oi)(hs:Region.noSelect ops=true)(hf:Region.free md ops a0 i=true)(hr:(Region.ready md ops a0).contains i=true)(hl:lateWait md ops N i=true)
  (hQ:∀c a w,Q (.panic c) (a.put oi.dst v) w->Q (.panic c) a w) (hw:Region.wanted oi (yielded ops a.tmps)=true) (hy:∀w,S w->(execOp a.eval oi).run P w=.ok (.value v) w) (hS:S w) (h:wpE P md ops Q S N f (a0.setIfInBounds i true) (a.put oi.dst v) w):wpE P md ops Q S N (f+1) a0 a w:=
 wpE_first (T:=S) hi (Region.noSelect_spec hs) hQ (λ _ h _=>h) f a0 a w (λ j oj h1 h2 h3 h4=>⟨Region.free_spec hi hf j oj h1 h2 h3 h4,λ w' hw'=>hw' (lateWait_spec hl h1 h2 h4)⟩) (by simpa using hr) (AI ⟨hw,hy⟩) hS h
theorem wpE_takeL{oi:Oper}{a0:Array Bool}(hi:ops[i]?=oi)(hs:Region.noSelect ops=true)(hf:Region.free md ops a0 i=true)(hr:(Region.ready md ops a0).contains i=true)(hN:N i=false)
  (hQ:∀c a w,Q (.panic c) (a.put oi.dst v) w->Q (.panic c) a w) (hw:Region.wanted oi (yielded ops a.tmps)=true) (hy:∀w,(execOp a.eval oi).run P w=.ok (.value v) w) (h:wpE P md ops Q S N f (a0.setIfInBounds i true) (a.put oi.dst v) w):wpE P md ops Q S N (f+1) a0 a w:=
 wpE_first (T:=λ _=>True) hi (Region.noSelect_spec hs) hQ (λ _ _ h=>by rw[hN] at h;simp at h) f a0 a w (λ j oj h1 h2 h3 h4=>⟨Region.free_spec hi hf j oj h1 h2 h3 h4,λ _ _=>trivial⟩) (by simpa using hr) (AI ⟨hw,λ w _=>hy w⟩) trivial h
theorem U2{oi:Oper}{W:Nat->Bool}(hi:ops[i]?=oi)(a5:∀(j:Nat) (o:Oper) cs b,ops[j]?=o->o.op≠.select cs b)(hQ:∀c a w,Q (.panic c) (a.put oi.dst v) w->Q (.panic c) a w)(af:∀w,T w->N i=true->S w)
  (hW:∀j oj,ops[j]?=some oj->W j=true->∃e∈oj.after,Region.binds md e=true/\(e.on=i\/W e.on=true)) :
  ∀(f:Nat) (listed:Array Bool) (a:Act) (w:World),(∀j,W j=true->j<listed.size/\listed.getD j true=false) ->
   (∀j oj,ops[j]?=some oj->j≠i->W j=false->listed.getD j true=false->(∀e∈oj.after,Region.binds md e=true->e.on≠i)->oi.apart ops oj=true/\∀w',(N j=true->S w')->T w') ->
   i∈Region.ready md ops listed->YieldsIf P ops T oi v a->T w->wpE P md ops Q S N f (listed.setIfInBounds i true) (a.put oi.dst v) w->wpE P md ops Q S N (f+1) listed a w:=by
 intro f;induction f with
 | zero=>
  intro listed a w hWl hfr hr hy hT H;refine⟨λ h=>absurd hr (by rw[h];simp),λ j hj=>?_⟩;by_cases hji:j=i
  .subst hji;exact hy.wpOp hi hT ⟨af w hT,H⟩
  .have h0:=ready_mono hj hji;rw[H.1] at h0;simp at h0
 | succ f ih=>
  intro listed a w hWl hfr hr hy hT H;refine⟨λ h=>absurd hr (by rw[h];simp),λ j hj=>?_⟩;by_cases hji:j=i
  .subst hji;exact hy.wpOp hi hT ⟨af w hT,H⟩
  .have h1:=H.2 j (ready_mono hj hji);obtain⟨ae,oj,a8,a6⟩:=mem_ready.1 hj;have ab:¬(listed.getD i false=true):=by
    have a3:=(mem_ready.1 hr).1;by_cases hlt:i<listed.size
    .simp[hlt] at a3 ⊢;exact a3
    .simp[Array.getElem?_eq_none (Nat.le_of_not_lt hlt)]
   have a4:∀e∈oj.after,Region.binds md e=true->e.on≠i:=by
    intro e he hb heq;have a0:=a6 e he hb;rw[heq] at a0;exact ab (by simpa using a0)
   have aa:W j=false:=by
    rcases hw:W j with _ | _
    .rfl
    .obtain⟨e,he,hb,ho⟩:=hW j oj a8 hw;have a0:=a6 e he hb;rcases ho with ho | ho
     .exact absurd ho (a4 e he hb)
     .obtain⟨h2,h3⟩:=hWl _ ho;simp[h2] at a0 h3;rw[h3] at a0;cases a0
   obtain⟨ag,ah⟩:=hfr j oj a8 hji aa ae a4;have h2:=wpOp_putIf a8 ag (λ cs b=>a5 i oi cs b hi) (λ cs b=>a5 j oj cs b a8) hQ hy h1;have a9:∀k,W k=true->k<(listed.setIfInBounds j true).size/\(listed.setIfInBounds j true).getD k true=false:=by
    intro k hk;have a7:j≠k:=by rintro rfl;rw[hk] at aa;cases aa
    obtain⟨g1,g2⟩:=hWl k hk;exact⟨by simpa using g1,by rw[getD_set_ne true a7];exact g2⟩
   have ad:∀k ok,ops[k]?=some ok->k≠i->W k=false->(listed.setIfInBounds j true).getD k true=false->(∀e∈ok.after,Region.binds md e=true->e.on≠i)->oi.apart ops ok=true/\∀w',(N k=true->S w')->T w':=by
    intro k ok hk hki hwk hunk hno;refine hfr k ok hk hki hwk ?_ hno;by_cases a7:j=k
    .rw[<-a7];exact ae
    .rw[getD_set_ne true a7] at hunk;exact hunk
   refine wpOp_mono (λ a' w' h3=>⟨h3.2.1,ih _ a' w' a9 ad (ready_mono hr (λ e=>hji e.symm)) h3.1 (ah w' h3.2.1) ?_⟩) h2;rw[Array.setIfInBounds_comm _ _ hji];exact h3.2.2
def waitW(md:Region.Mode)(ops:Array Oper)(N W:Nat->Bool)(listed:Array Bool)(i:Nat):Bool:=(List.range ops.size).all λ j=>if W j then (listed[j]? == some false) && ((ops[j]?).map λ o=>o.after.any λ e=>Region.binds md e && (e.on == i || W e.on)).getD false else (N j || j == i)
theorem wpE_takeW{oi:Oper}{a0:Array Bool}(W:Nat->Bool)(hi:ops[i]?=oi)(hs:Region.noSelect ops=true)(hf:Region.free md ops a0 i=true)(hr:(Region.ready md ops a0).contains i=true)(hl:waitW md ops N W a0 i=true)(a4:∀j,W j=true->j<ops.size)
  (hQ:∀c a w,Q (.panic c) (a.put oi.dst v) w->Q (.panic c) a w) (hw:Region.wanted oi (yielded ops a.tmps)=true) (hy:∀w,S w->(execOp a.eval oi).run P w=.ok (.value v) w) (hS:S w) (h:wpE P md ops Q S N f (a0.setIfInBounds i true) (a.put oi.dst v) w):wpE P md ops Q S N (f+1) a0 a w:=by
 have a3:=all_eq_true.1 hl;refine U2 (T:=S) (W:=W) hi (Region.noSelect_spec hs) hQ (λ _ h _=>h) ?_ f a0 a w ?_ (λ j oj h1 h2 hWj h3 h4=>⟨Region.free_spec hi hf j oj h1 h2 h3 h4,λ w' hw'=>hw' ?_⟩) (by simpa using hr) (AI ⟨hw,hy⟩) hS h
 .intro j oj hj hWj;have h1:=a3 j (by simp;exact (AB hj).1);simp only[hWj,if_true,hj,Option.map_some,Option.getD_some,Bool.and_eq_true] at h1;obtain⟨e,he,hb⟩:=any_eq_true.1 (by rw[Array.any_toList];exact h1.2);simp only[Bool.and_eq_true,Bool.or_eq_true,beq_iff_eq] at hb;exact⟨e,by simpa using he,hb.1,hb.2⟩
 .intro j hWj;have h1:=a3 j (by simp;exact a4 j hWj);simp only[hWj,if_true,Bool.and_eq_true,beq_iff_eq] at h1;obtain⟨h2,h3⟩:=AB h1.1;exact⟨h2,by simp[h2,h3]⟩
 .have h5:=a3 j (by simp;exact (AB h1).1);simp only[hWj,Bool.false_eq_true,if_false,Bool.or_eq_true,beq_iff_eq] at h5;rcases h5 with h5 | h5
  .exact h5
  .exact absurd h5 h2
theorem wpE_one{a0:Array Bool}{oi:Oper}(hr:Region.ready md ops a0=[i])(hi:ops[i]?=oi)(hw:Region.wanted oi (yielded ops a.tmps)=true)
  (h:∀K:Act->World->Prop,(∀a' w',(N i=true->S w')->wpE P md ops Q S N f (a0.setIfInBounds i true) a' w'->K a' w')->oi.wp P a w K Q):wpE P md ops Q S N (f+1) a0 a w:=by
 refine⟨λ h0=>by rw[hr] at h0;simp at h0,λ j hj=>?_⟩;rw[hr] at hj;simp at hj;subst hj;unfold wpOp;simp only[hi,hw,if_true];exact AI (h _ (λ a' w' h1 h2=>⟨h1,h2⟩))
theorem wpE_two{a0:Array Bool}{oi oj:Oper}(hr:Region.ready md ops a0=[i,j])(hi:ops[i]?=oi)(hj:ops[j]?=oj)(a3:Region.wanted oi (yielded ops a.tmps)=true)(a4:Region.wanted oj (yielded ops a.tmps)=true)
  (h1:∀K:Act->World->Prop,(∀a' w',(N i=true->S w')->wpE P md ops Q S N f (a0.setIfInBounds i true) a' w'->K a' w')->oi.wp P a w K Q)
  (h2:∀K:Act->World->Prop,(∀a' w',(N j=true->S w')->wpE P md ops Q S N f (a0.setIfInBounds j true) a' w'->K a' w')->oj.wp P a w K Q):wpE P md ops Q S N (f+1) a0 a w:=by
 refine⟨λ h0=>by rw[hr] at h0;simp at h0,λ k hk=>?_⟩;rw[hr] at hk;simp at hk;unfold wpOp;rcases hk with rfl | rfl
 .simp only[hi,a3,if_true];exact AI (h1 _ (λ a' w' h1 h2=>⟨h1,h2⟩))
 .simp only[hj,a4,if_true];exact AI (h2 _ (λ a' w' h1 h2=>⟨h1,h2⟩))
theorem wpE_done{a0:Array Bool}(hr:Region.ready md ops a0=[])(h:Q .normal a w):wpE P md ops Q S N f a0 a w:=by
 cases f with
 | zero=>exact⟨hr,h⟩
 | succ f=>exact⟨λ _=>h,by rw[hr];simp⟩
theorem wpE_begin{id:Nat}(hm:P.follows .mixedOrders=true)(h:wpE P .any ops Q S N ops.size (Array.replicate ops.size false) a w.drew):(Code.region id ops true).wp P Q a w:=wp_region_any hm (wpE_any _ _ _ _ h)
end
end Vv
end
namespace Px
open Lx (Tok B)
/- Parts without their places. -/
mutual
def Ex.er:Ex->Ex
 | .mk k o n t a _=>.mk k o n t (ersE a) 0
def ersE:List Ex->List Ex
 | []=>[]
 | e :: r=>e.er :: ersE r
end
mutual
def St.er:St->St
 | .mk k n es b c _=>.mk k n (ersE es) (ersS b) (ersS c) 0
def ersS:List St->List St
 | []=>[]
 | s :: r=>s.er :: ersS r
end
def Sl.er(s:Sl):Sl:=⟨s.name,s.type,0⟩
def Fn.er(f:Fn):Fn:=⟨f.name,f.on,f.params.map Sl.er,f.result,ersS f.body,0⟩
def Pr.er(p:Pr):Pr:=⟨p.version,p.states.map Sl.er,p.fns.map Fn.er⟩
theorem ersE_map:∀l,ersE l=l.map Ex.er
 | []=>by simp[ersE]
 | e :: r=>by simp[ersE,ersE_map r]
theorem K5:∀l,ersS l=l.map St.er
 | []=>by simp[ersS]
 | e :: r=>by simp[ersS,K5 r]
structure TS(t u:Tok):Prop where
 kind:t.kind=u.kind
 text:t.text=u.text
 num:t.num=u.num
inductive TSim:List Tok->List Tok->Prop
 | nil:TSim [] []
 | cons {t u:Tok} {l m:List Tok}:TS t u->TSim l m->TSim (t :: l) (u :: m)
abbrev EqR{α:Type}:α->α->Prop:=λ x y=>x=y
end Px
end
section
open Go.RowKit
abbrev From(n:Nat):Nat->Prop:=λ g=>n<=g
theorem Cb{n:Nat}(h:m<=n):∀k,From n k->From m k:=λ k hk=>AP h hk
def SlRow(B:AS)(w:World)(sz:Nat)(v:Value)(n:Nat)(row:AR):Prop:=
 row.length=n*sz/\((v=sZ/\n=0)\/∃g o cap,v=sL g o n cap/\n<=cap/\cap<=maxLen/\B g/\g<w.heap.size/\∀(j:Nat) (u:Value),row[j]?=u->w.cell? ⟨g,o+j,none⟩=u)
mutual
def IsEx(B:AS)(w:World):Px.Ex->List Value->Prop
 | .mk k o n t args p,cs=>∃sl row,cs=[iv k,iv o,iv n,.string ⟨t.toArray⟩,iv 0,sE,sl,iv p]/\SlRow B w 8 sl args.length row/\Ai B w args row
def Ai(B:AS)(w:World):List Px.Ex->List Value->Prop
 | [],cs=>cs=[]
 | e :: r,cs=>∃c1 c2,cs=c1 ++ c2/\IsEx B w e c1/\Ai B w r c2
end
mutual
def IsSt(B:AS)(w:World):Px.St->List Value->Prop
 | .mk k n es b c p,cs=>∃s1 s2 s3 r1 r2 r3,cs=[iv k,.string ⟨n.toArray⟩,iv 0,.bool false,iv 0,s1,s2,s3,iv p]/\SlRow B w 8 s1 es.length r1/\Ai B w es r1/\SlRow B w 9 s2 b.length r2/\Av B w b r2/\SlRow B w 9 s3 c.length r3/\Av B w c r3
def Av(B:AS)(w:World):List Px.St->List Value->Prop
 | [],cs=>cs=[]
 | e :: r,cs=>∃c1 c2,cs=c1 ++ c2/\IsSt B w e c1/\Av B w r c2
end
def Bh(s:Px.Sl):List Value:=[.string ⟨s.name.toArray⟩,.string ⟨s.type.toArray⟩,iv s.place]
def Et(B:AS)(w:World)(l:List Px.Sl)(v:Value):Prop:=SlRow B w 3 v l.length (l.flatMap Bh)
def Bf(B:AS)(w:World)(l:List Px.St)(v:Value):Prop:=∃row,SlRow B w 9 v l.length row/\Av B w l row
def Ey(B:AS)(w:World)(f:Px.Fn)(cs:AR):Prop:=
 ∃ps bs,cs=[.string ⟨f.name.toArray⟩,.bool f.on,ps,.string ⟨f.result.toArray⟩,sZ,bs,iv f.place]/\Et B w f.params ps/\Bf B w f.body bs
def Bq(B:AS)(w:World):List Px.Fn->List Value->Prop
 | [],cs=>cs=[]
 | e :: r,cs=>∃c1 c2,cs=c1 ++ c2/\Ey B w e c1/\Bq B w r c2
def F6(B:AS)(w:World)(l:List Px.Fn)(v:Value):Prop:=∃row,SlRow B w 7 v l.length row/\Bq B w l row
def Ez(B:AS)(w:World)(p:Px.Pr)(v:Value):Prop:=∃ss fs,v=.agg #[iv p.version,ss,fs]/\Et B w p.states ss/\F6 B w p.fns fs
structure Since(B:AS)(w w':World):Prop where
 size:w<=w'.heap.size
 block:∀k,B k->k<w.heap.size->w'.heap[k]?=w.heap[k]?
theorem Since.trans{B:AS}(a:Since B w w1)(b:Since B w1 w2):Since B w w2:=⟨AP a.size b.size,λ k h1 h2=>(b.block k h1 (by have:=a.size;omega)).trans (a.block k h1 h2)⟩
theorem Since.of_below{B:AS}(h:Below w w w'):Since B w w':=⟨h.size,λ k _ h2=>h.block k h2⟩
theorem Since.drewN(B:AS)(w:World)(n:Nat):Since B w (w.drewN n):=⟨AD _,λ _ _ _=>rfl⟩
theorem SlRow.since{B:AS}{n:Nat}{row:AR}(h:SlRow B w sz v n row)(s:Since B w w'):SlRow B w' sz v n row:=by
 obtain⟨h1,h2⟩:=h;refine⟨h1,?_⟩;rcases h2 with h2 | ⟨g,o,cap,hv,hc,hm,hB,hg,a0⟩
 .exact AI h2
 .refine AJ ⟨g,o,cap,hv,hc,hm,hB,by have:=s.size;omega,λ j u hj=>?_⟩;rw[World.cell?_of_block (w:=w) (s.block g hB hg)];exact a0 j u hj
theorem SlRow.base{B:AS}{n:Nat}{row:AR}(h:SlRow B w sz v n row)(hb:∀k,B k->B' k):SlRow B' w sz v n row:=by
 obtain⟨h1,h2⟩:=h;refine⟨h1,?_⟩;rcases h2 with h2 | ⟨g,o,cap,hv,hc,hm,hB,r⟩
 .exact AI h2
 .exact AJ ⟨g,o,cap,hv,hc,hm,hb _ hB,r⟩
mutual
theorem IsEx.since{B:AS}{w w':World}(s:Since B w w'):∀{e:Px.Ex} {cs:AR},IsEx B w e cs->IsEx B w' e cs
 | .mk k o n t args p,cs,h=>by
  rw[IsEx] at h ⊢;obtain⟨sl,row,hc,hr,ha⟩:=h;exact⟨sl,row,hc,hr.since s,Ai.since s ha⟩
theorem Ai.since{B:AS}{w w':World}(s:Since B w w'):∀{l:List Px.Ex} {cs:AR},Ai B w l cs->Ai B w' l cs
 | [],cs,h=>by rw[Ai] at h ⊢;exact h
 | e :: r,cs,h=>by
  rw[Ai] at h ⊢;obtain⟨c1,c2,hc,h1,h2⟩:=h;exact⟨c1,c2,hc,IsEx.since s h1,Ai.since s h2⟩
end
mutual
theorem IsSt.since{B:AS}{w w':World}(s:Since B w w'):∀{e:Px.St} {cs:AR},IsSt B w e cs->IsSt B w' e cs
 | .mk k n es b c p,cs,h=>by
  rw[IsSt] at h ⊢;obtain⟨s1,s2,s3,r1,r2,r3,hc,a1,a2,a3,a4,a5,a6⟩:=h;exact⟨s1,s2,s3,r1,r2,r3,hc,a1.since s,a2.since s,a3.since s,Av.since s a4,a5.since s,Av.since s a6⟩
theorem Av.since{B:AS}{w w':World}(s:Since B w w'):∀{l:List Px.St} {cs:AR},Av B w l cs->Av B w' l cs
 | [],cs,h=>by rw[Av] at h ⊢;exact h
 | e :: r,cs,h=>by
  rw[Av] at h ⊢;obtain⟨c1,c2,hc,h1,h2⟩:=h;exact⟨c1,c2,hc,IsSt.since s h1,Av.since s h2⟩
end
theorem Bq.since{B:AS}{w w':World}(s:Since B w w'):∀{l:List Px.Fn} {cs:AR},Bq B w l cs->Bq B w' l cs
 | [],cs,h=>h
 | e :: r,cs,h=>by
  obtain⟨c1,c2,hc,⟨ps,bs,h1,h2,row,h3,h4⟩,h5⟩:=h;exact⟨c1,c2,hc,⟨ps,bs,h1,h2.since s,row,h3.since s,h4.since s⟩,Bq.since s h5⟩
theorem Ez.since{B:AS}(s:Since B w w'){p:Px.Pr}(h:Ez B w p v):Ez B w' p v:=by
 obtain⟨ss,fs,hv,h1,row,h2,h3⟩:=h;exact⟨ss,fs,hv,h1.since s,row,h2.since s,h3.since s⟩
theorem IsEx.len{B:AS}{e:Px.Ex}(h:IsEx B w e cs):cs.length=8:=by
 cases e;rw[IsEx] at h;obtain⟨sl,row,hc,_⟩:=h;rw[hc];rfl
theorem IsSt.len{B:AS}{e:Px.St}(h:IsSt B w e cs):cs.length=9:=by
 cases e;rw[IsSt] at h;obtain⟨s1,s2,s3,r1,r2,r3,hc,_⟩:=h;rw[hc];rfl
theorem Ey.len{B:AS}{e:Px.Fn}(h:Ey B w e cs):cs.length=7:=by
 obtain⟨ps,bs,hc,_⟩:=h;rw[hc];rfl
theorem Ai.get{B:AS}{w:World}:∀{l:List Px.Ex} {row:AR} {i:Nat} {e:Px.Ex},Ai B w l row->l[i]?=e->∃cs,IsEx B w e cs/\∀j,j<8->row[i*8+j]?=cs[j]?
 | [],row,i,e,h,hi=>by simp at hi
 | a :: r,row,0,e,h,hi=>by
  rw[Ai] at h;obtain⟨c1,c2,hc,h1,h2⟩:=h;simp at hi;subst hi;exact⟨c1,h1,λ j hj=>by rw[hc,List.getElem?_append_left (by have:=h1.len;omega)];simp⟩
 | a :: r,row,i+1,e,h,hi=>by
  rw[Ai] at h;obtain⟨c1,c2,hc,h1,h2⟩:=h;obtain⟨cs,k1,k2⟩:=Ai.get h2 (by simpa using hi);refine⟨cs,k1,λ j hj=>?_⟩;have:=h1.len;rw[hc,List.getElem?_append_right (by omega),<-k2 j hj];congr 1;omega
theorem Av.get{B:AS}{w:World}:∀{l:List Px.St} {row:AR} {i:Nat} {e:Px.St},Av B w l row->l[i]?=e->∃cs,IsSt B w e cs/\∀j,j<9->row[i*9+j]?=cs[j]?
 | [],row,i,e,h,hi=>by simp at hi
 | a :: r,row,0,e,h,hi=>by
  rw[Av] at h;obtain⟨c1,c2,hc,h1,h2⟩:=h;simp at hi;subst hi;exact⟨c1,h1,λ j hj=>by rw[hc,List.getElem?_append_left (by have:=h1.len;omega)];simp⟩
 | a :: r,row,i+1,e,h,hi=>by
  rw[Av] at h;obtain⟨c1,c2,hc,h1,h2⟩:=h;obtain⟨cs,k1,k2⟩:=Av.get h2 (by simpa using hi);refine⟨cs,k1,λ j hj=>?_⟩;have:=h1.len;rw[hc,List.getElem?_append_right (by omega),<-k2 j hj];congr 1;omega
theorem Bq.get{B:AS}{w:World}:∀{l:List Px.Fn} {row:AR} {i:Nat} {e:Px.Fn},Bq B w l row->l[i]?=e->∃cs,Ey B w e cs/\∀j,j<7->row[i*7+j]?=cs[j]?
 | [],row,i,e,h,hi=>by simp at hi
 | a :: r,row,0,e,h,hi=>by
  obtain⟨c1,c2,hc,h1,h2⟩:=h;simp at hi;subst hi;exact⟨c1,h1,λ j hj=>by rw[hc,List.getElem?_append_left (by have:=h1.len;omega)];simp⟩
 | a :: r,row,i+1,e,h,hi=>by
  obtain⟨c1,c2,hc,h1,h2⟩:=h;obtain⟨cs,k1,k2⟩:=Bq.get h2 (by simpa using hi);refine⟨cs,k1,λ j hj=>?_⟩;have:=h1.len;rw[hc,List.getElem?_append_right (by omega),<-k2 j hj];congr 1;omega
theorem Ai.snoc{B:AS}{w:World}:∀{l:List Px.Ex} {row:AR} {e:Px.Ex} {cs:AR},Ai B w l row->IsEx B w e cs->Ai B w (l ++ [e]) (row ++ cs)
 | [],row,e,cs,h,he=>by
  rw[Ai] at h;subst h;rw[nil_append,nil_append,Ai];exact⟨cs,[],by simp,he,by rw[Ai]⟩
 | a :: r,row,e,cs,h,he=>by
  rw[Ai] at h;obtain⟨c1,c2,hc,h1,h2⟩:=h;rw[cons_append,Ai];exact⟨c1,c2 ++ cs,by rw[hc];simp,h1,Ai.snoc h2 he⟩
theorem Av.snoc{B:AS}{w:World}:∀{l:List Px.St} {row:AR} {e:Px.St} {cs:AR},Av B w l row->IsSt B w e cs->Av B w (l ++ [e]) (row ++ cs)
 | [],row,e,cs,h,he=>by
  rw[Av] at h;subst h;rw[nil_append,nil_append,Av];exact⟨cs,[],by simp,he,by rw[Av]⟩
 | a :: r,row,e,cs,h,he=>by
  rw[Av] at h;obtain⟨c1,c2,hc,h1,h2⟩:=h;rw[cons_append,Av];exact⟨c1,c2 ++ cs,by rw[hc];simp,h1,Av.snoc h2 he⟩
theorem Bq.snoc{B:AS}{w:World}:∀{l:List Px.Fn} {row:AR} {e:Px.Fn} {cs:AR},Bq B w l row->Ey B w e cs->Bq B w (l ++ [e]) (row ++ cs)
 | [],row,e,cs,h,he=>by
  rw[Bq] at h;subst h;exact⟨cs,[],by simp,he,rfl⟩
 | a :: r,row,e,cs,h,he=>by
  obtain⟨c1,c2,hc,h1,h2⟩:=h;exact⟨c1,c2 ++ cs,by rw[hc];simp,h1,Bq.snoc h2 he⟩
theorem SlRow.cells{B:AS}{n:Nat}{row:AR}(h:SlRow B w sz v n row)(hn:0<n):∃g o cap,v=sL g o n cap/\n<=cap/\cap<=maxLen/\B g/\g<w.heap.size/\∀(j:Nat) (u:Value),row[j]?=u->w.cell? ⟨g,o+j,none⟩=u:=by
 rcases h.2 with⟨_,h0⟩ | h
 .omega
 .exact h
theorem SlRow.slice{B:AS}{n:Nat}{row:AR}(h:SlRow B w sz v n row):∃ao cap,v=.slice ao n cap/\n<=maxLen:=by
 rcases h.2 with⟨h1,h0⟩ | ⟨g,o,cap,h1,h2,h3,_⟩
 .exact⟨none,0,by rw[h1,h0],by omega⟩
 .exact⟨_,cap,h1,by omega⟩
mutual
theorem IsEx.base{B B':AS}{w:World}(hb:∀k,B k->B' k):∀{e:Px.Ex} {cs:AR},IsEx B w e cs->IsEx B' w e cs
 | .mk k o n t args p,cs,h=>by
  rw[IsEx] at h ⊢;obtain⟨sl,row,hc,hr,ha⟩:=h;exact⟨sl,row,hc,hr.base hb,Ai.base hb ha⟩
theorem Ai.base{B B':AS}{w:World}(hb:∀k,B k->B' k):∀{l:List Px.Ex} {cs:AR},Ai B w l cs->Ai B' w l cs
 | [],cs,h=>by rw[Ai] at h ⊢;exact h
 | e :: r,cs,h=>by
  rw[Ai] at h ⊢;obtain⟨c1,c2,hc,h1,h2⟩:=h;exact⟨c1,c2,hc,IsEx.base hb h1,Ai.base hb h2⟩
end
mutual
theorem IsSt.base{B B':AS}{w:World}(hb:∀k,B k->B' k):∀{e:Px.St} {cs:AR},IsSt B w e cs->IsSt B' w e cs
 | .mk k n es b c p,cs,h=>by
  rw[IsSt] at h ⊢;obtain⟨s1,s2,s3,r1,r2,r3,hc,a1,a2,a3,a4,a5,a6⟩:=h;exact⟨s1,s2,s3,r1,r2,r3,hc,a1.base hb,a2.base hb,a3.base hb,Av.base hb a4,a5.base hb,Av.base hb a6⟩
theorem Av.base{B B':AS}{w:World}(hb:∀k,B k->B' k):∀{l:List Px.St} {cs:AR},Av B w l cs->Av B' w l cs
 | [],cs,h=>by rw[Av] at h ⊢;exact h
 | e :: r,cs,h=>by
  rw[Av] at h ⊢;obtain⟨c1,c2,hc,h1,h2⟩:=h;exact⟨c1,c2,hc,IsSt.base hb h1,Av.base hb h2⟩
end
theorem Bq.base{B B':AS}{w:World}(hb:∀k,B k->B' k):∀{l:List Px.Fn} {cs:AR},Bq B w l cs->Bq B' w l cs
 | [],cs,h=>h
 | e :: r,cs,h=>by
  obtain⟨c1,c2,hc,⟨ps,bs,h1,h2,row,h3,h4⟩,h5⟩:=h;exact⟨c1,c2,hc,⟨ps,bs,h1,SlRow.base h2 hb,row,h3.base hb,h4.base hb⟩,Bq.base hb h5⟩
theorem Ez.base{B:AS}(hb:∀k,B k->B' k){p:Px.Pr}(h:Ez B w p v):Ez B' w p v:=by
 obtain⟨ss,fs,hv,h1,row,h2,h3⟩:=h;exact⟨ss,fs,hv,SlRow.base h1 hb,row,h2.base hb,h3.base hb⟩
end
section
namespace Vv
def kd:Ty->Int
 | .int=>1 | .bool=>2 | .text=>3 | .list _=>4 | .map _ _=>5
def Jg(s:AQ):Int:=match Sb s with
 | none=>0
 | some T=>kd T
def elT(s:AQ):List UInt8 × Bool:=match Sb s with
 | some (.list T)=>(tyT T,true)
 | _=>([],false)
def mpT(s:AQ):List UInt8 × List UInt8 × Bool:=match Sb s with
 | some (.map k T)=>(keyT k,tyT T,true)
 | _=>([],[],false)
def keyTy(k:Bool):Ty:=if k then .int else .text
theorem keyTy_T(k:Bool):tyT (keyTy k)=keyT k:=by cases k <;> rfl
theorem keyTy_dp(k:Bool):(keyTy k).dp=1:=by cases k <;> rfl
end Vv
namespace Ck
open Lx (B)
open Px (Ex St Sl Pr)
inductive CE where
 | mk (kind op num:Nat) (text:B) (slot:Nat) (type:B) (args:List CE)
inductive CS where
 | mk (kind slot:Nat) (state:Bool) (num:Nat) (es:List CE) (body other:List CS)
structure CF where
 name:B
 on:Bool
 params:List (B × B)
 result:B
 locals:List B
 body:List CS
structure CP where
 version:Nat
 states:List (B × B)
 fns:List CF
def CE.type:CE->B
 | .mk _ _ _ _ _ t _=>t
structure Mng where
 kind:Nat
 slot:Nat
 type:B
def Mng.no:Mng:=⟨0,0,[]⟩
abbrev Env:=List (B × Mng)
def look:Env->B->Mng
 | [],_=>.no
 |(n,m) :: r,x=>if n=x then m else look r x
abbrev R(α:Type):=α ⊕ (Nat × Nat)
def bind{α β:Type}(r:R α)(f:α->R β):R β:=
 match r with
 | .inl x=>f x
 | .inr e=>.inr e
def need(b:Bool)(p e:Nat):R Unit:=if b then .inl () else .inr (p,e)
def tInt:B:=[105,110,116]
def tBool:B:=[98,111,111,108]
def tText:B:=[116,101,120,116]
def bkind(s:B):Nat:=if s=[108,101,110] then 8 else if s=[104,97,115] then 9 else if s=[112,117,115,104] then 10 else if s=[115,116,114] then 11 else 0
def within(t:B):B × B × Bool:=if (Vv.elT t).2 then (tInt,(Vv.elT t).1,true) else Vv.mpT t
def sig(k:Nat)(t:B):B × B × Bool:=
 if k=8 then (tInt,[],(within t).2.2 || t == tText)
 else if k=9 then (tBool,(Vv.mpT t).1,(Vv.mpT t).2.2)
 else if k=10 then (t,(Vv.elT t).1,(Vv.elT t).2)
 else (tText,[],t == tInt)
def operated(op:Nat)(t:B):B × Bool:=
 if op=1\/op=2 then (t,t == tBool)
 else if op=3\/op=4 then (tBool,true)
 else if op=5\/op=6\/op=7\/op=8 then (tBool,t == tInt || t == tText)
 else if op=9 then (t,t == tInt || t == tText)
 else (t,t == tInt)
structure Hd where
 on:Bool
 params:List B
 result:B
structure Cx where
 env:Env
 number:Nat
 heads:List Hd
abbrev Q:=R CE × Nat
def asked(q:Q)(t:B):R CE:=bind q.1 λ x=>bind (need (x.type == t) q.2 35) λ _=>.inl x
def arg(qs:List Q)(i:Nat):Q:=qs.getD i (.inr (0,0),0)
def all:List Q->List B->R (List CE)
 | q :: qs,t :: ts=>bind (asked q t) λ x=>bind (all qs ts) λ xs=>.inl (x :: xs)
 | _,_=>.inl []
def name(c:Cx)(t:B)(p:Nat):R CE:=
 let m:=look c.env t
 bind (need (m.kind != 0 && m.kind != 2) p 33) λ _=>.inl (.mk (if m.kind=1 then 5 else 4) 0 0 [] m.slot m.type [])
def call(c:Cx)(t:B)(p:Nat)(qs:List Q):R CE:=
 let m:=look c.env t
 bind (need (m.kind == 2 && decide (m.slot<c.number)) p 33) λ _=>
 let f:=c.heads.getD m.slot ⟨false,[],[]⟩
 bind (need (!f.on) p 33) λ _=>
 bind (need (qs.length == f.params.length) p 35) λ _=>
 bind (all qs f.params) λ xs=>.inl (.mk 7 0 0 [] m.slot f.result xs)
def pair(k:Nat):Bool:=k == 9 || k == 10
def builtin(t:B)(p:Nat)(qs:List Q):R CE:=
 let k:=bkind t
 bind (need (qs.length == 1 && !pair k || qs.length == 2 && pair k) p 35) λ _=>
 bind (arg qs 0).1 λ x=>
 bind (need (sig k x.type).2.2 (arg qs 0).2 35) λ _=>
 if pair k then bind (asked (arg qs 1) (sig k x.type).2.1) λ y=>.inl (.mk k 0 0 [] 0 (sig k x.type).1 [x,y])
 else .inl (.mk k 0 0 [] 0 (sig k x.type).1 [x])
def at_(p:Nat)(qs:List Q):R CE:=
 bind (arg qs 0).1 λ x=>
 bind (need (within x.type).2.2 p 35) λ _=>
 bind (asked (arg qs 1) (within x.type).1) λ y=>.inl (.mk 12 0 0 [] 0 (within x.type).2.1 [x,y])
def unary(k:Nat)(t:B)(qs:List Q):R CE:=bind (asked (arg qs 0) t) λ x=>.inl (.mk k 0 0 [] 0 t [x])
def binary(k o p:Nat)(qs:List Q):R CE:=
 bind (arg qs 0).1 λ x=>
 bind (arg qs 1).1 λ y=>
 bind (need ((operated o x.type).2 && x.type == y.type) p 35) λ _=>.inl (.mk k o 0 [] 0 (operated o x.type).1 [x,y])
def comb(c:Cx)(k o n:Nat)(t:B)(p:Nat)(qs:List Q):R CE:=
 if k=1 then .inl (.mk 1 0 n [] 0 tInt [])
 else if k=2 then .inl (.mk 2 0 n [] 0 tBool [])
 else if k=3 then .inl (.mk 3 0 0 t 0 tText [])
 else if k=6 then name c t p
 else if k=7 then (if bkind t=0 then call c t p qs else builtin t p qs)
 else if k=12 then at_ p qs
 else if k=13 then unary k tInt qs
 else if k=14 then unary k tBool qs
 else binary k o p qs
mutual
def cE(c:Cx):Ex->R CE
 | .mk k o n t args p=>comb c k o n t p (cEs c args)
def cEs(c:Cx):List Ex->List Q
 | []=>[]
 | .mk k o n t args p :: r=>(cE c (.mk k o n t args p),p) :: cEs c r
end
def plc:Ex->Nat
 | .mk _ _ _ _ _ p=>p
theorem cEs_length(c:Cx):∀l,(cEs c l).length=l.length
 | []=>by simp[cEs]
 | .mk k o n t args p :: r=>by simp[cEs,cEs_length c r]
theorem cEs_get(c:Cx):∀(l:List Ex) (i:Nat) (x:Ex),l[i]?=x->(cEs c l)[i]?=some (cE c x,plc x)
 | [],i,x,h=>by simp at h
 | .mk k o n t args p :: r,0,x,h=>by
  simp at h;subst h;simp[cEs,plc]
 | .mk k o n t args p :: r,i+1,x,h=>by
  simp at h;simp[cEs];exact cEs_get c r i x h
theorem arg_get(c:Cx)(l:List Ex)(i:Nat)(x:Ex)(h:l[i]?=x):arg (cEs c l) i=(cE c x,plc x):=by
 unfold arg;rw[getD_eq_getElem?_getD,cEs_get c l i x h];rfl
structure Kx where
 number:Nat
 heads:List Hd
 result:B
def Kx.at(k:Kx)(env:Env):Cx:=⟨env,k.number,k.heads⟩
def note(env:Env)(n:B)(p:Nat)(m:Mng):R Env:=bind (need (bkind n == 0 && (look env n).kind == 0) p 34) λ _=>.inl (env ++ [(n,m)])
def loc(env:Env)(ls:List B)(n:B)(p kind:Nat)(t:B):R (Env × List B):=
 bind (note env n p ⟨kind,ls.length,t⟩) λ e=>bind (need (decide (ls.length<32)) p 36) λ _=>.inl (e,ls ++ [t])
def targ(env:Env)(n:B)(p:Nat):R Mng:=
 let m:=look env n
 bind (need (m.kind != 0) p 33) λ _=>bind (need (m.kind == 3 || m.kind == 1) p 37) λ _=>.inl m
abbrev St1:=CS × Env × List B
mutual
def cS(k:Kx)(env:Env)(ls:List B):St->R St1
 | .mk kind n es body other p=>
  let qs:=cEs (k.at env) es
  if kind=1 then
   bind (arg qs 0).1 λ x=>bind (loc env ls n p 3 x.type) λ e=>.inl (.mk 1 ls.length false 0 [x] [] [],e.1,e.2)
  else if kind=2 then
   bind (targ env n p) λ m=>
   if es.length=1 then bind (asked (arg qs 0) m.type) λ x=>.inl (.mk 2 m.slot (m.kind == 1) 0 [x] [] [],env,ls)
   else bind (need (within m.type).2.2 p 35) λ _=>
    bind (asked (arg qs 0) (within m.type).1) λ x=>bind (asked (arg qs 1) (within m.type).2.1) λ y=>.inl (.mk 2 m.slot (m.kind == 1) 0 [x,y] [] [],env,ls)
  else if kind=3 then
   bind (targ env n p) λ m=>bind (need (Vv.mpT m.type).2.2 p 35) λ _=>
    bind (asked (arg qs 0) (Vv.mpT m.type).1) λ x=>.inl (.mk 3 m.slot (m.kind == 1) 0 [x] [] [],env,ls)
  else if kind=4 then
   bind (asked (arg qs 0) tBool) λ x=>bind (cSs k env ls body) λ a=>bind (cSs k env a.2.2 other) λ b=>.inl (.mk 4 0 false 0 [x] a.1 b.1,env,b.2.2)
  else if kind=5 then
   bind (asked (arg qs 0) tInt) λ x=>bind (loc env ls n p 4 tInt) λ e=>bind (cSs k e.1 e.2 body) λ a=>.inl (.mk 5 ls.length false 0 [x] a.1 [],env,a.2.2)
  else bind (asked (arg qs 0) k.result) λ x=>.inl (.mk kind 0 false 0 [x] [] [],env,ls)
def cSs(k:Kx)(env:Env)(ls:List B):List St->R (List CS × Env × List B)
 | []=>.inl ([],env,ls)
 | s :: r=>bind (cS k env ls s) λ a=>bind (cSs k a.2.1 a.2.2 r) λ b=>.inl (a.1 :: b.1,b.2.1,b.2.2)
end
def states(env:Env):Nat->List Sl->R Env
 | _,[]=>.inl env
 | i,s :: r=>bind (need (decide (i<32)) s.place 36) λ _=>bind (note env s.name s.place ⟨1,i,s.type⟩) λ e=>states e (i+1) r
def params:Nat->List Sl->R Unit
 | _,[]=>.inl ()
 | j,s :: r=>bind (need (decide (j<8)) s.place 36) λ _=>params (j+1) r
def fns(env:Env):Nat->List Px.Fn->R Env
 | _,[]=>.inl env
 | i,f :: r=>bind (need (decide (i<32)) f.place 36) λ _=>bind (note env f.name f.place ⟨2,i,[]⟩) λ e=>bind (params 0 f.params) λ _=>fns e (i+1) r
def slots(l:List Sl):List (B × B):=l.map λ s=>(s.name,s.type)
def hd(f:Px.Fn):Hd:=⟨f.on,f.params.map (·.type),f.result⟩
def locs(env:Env)(ls:List B):List Sl->R (Env × List B)
 | []=>.inl (env,ls)
 | s :: r=>bind (loc env ls s.name s.place 3 s.type) λ e=>locs e.1 e.2 r
def fn(hs:List Hd)(env:Env)(i:Nat)(f:Px.Fn):R CF:=
 bind (locs env [] f.params) λ e=>bind (cSs ⟨i,hs,f.result⟩ e.1 e.2 f.body) λ a=>.inl ⟨f.name,f.on,slots f.params,f.result,a.2.2,a.1⟩
def bodies(hs:List Hd)(env:Env):Nat->List Px.Fn->R (List CF)
 | _,[]=>.inl []
 | i,f :: r=>bind (fn hs env i f) λ x=>bind (bodies hs env (i+1) r) λ xs=>.inl (x :: xs)
def check(p:Pr):R CP:=
 bind (need (decide (1<=p.version) && decide (p.version<=1099511627776)) 0 61) λ _=>
 bind (states [] 0 p.states) λ e1=>bind (fns e1 0 p.fns) λ e2=>
 bind (bodies (p.fns.map hd) e2 0 p.fns) λ fs=>.inl ⟨p.version,slots p.states,fs⟩
end Ck
end
section
open Go.RowKit
open Ck (CE CS CF CP Mng Env)
mutual
def Ce(B:AS)(w:World):CE->List Value->Prop
 | .mk k o n t s y args,cs=>∃sl row,cs=[iv k,iv o,iv n,.string ⟨t.toArray⟩,iv s,.string ⟨y.toArray⟩,sl,iv 0]/\SlRow B w 8 sl args.length row/\Ar B w args row
def Ar(B:AS)(w:World):List CE->List Value->Prop
 | [],cs=>cs=[]
 | e :: r,cs=>∃c1 c2,cs=c1 ++ c2/\Ce B w e c1/\Ar B w r c2
end
mutual
def Ch(B:AS)(w:World):CS->List Value->Prop
 | .mk k s f n es b c,cs=>∃s1 s2 s3 r1 r2 r3,cs=[iv k,sE,iv s,.bool f,iv n,s1,s2,s3,iv 0]/\SlRow B w 8 s1 es.length r1/\Ar B w es r1/\SlRow B w 9 s2 b.length r2/\Aq B w b r2/\SlRow B w 9 s3 c.length r3/\Aq B w c r3
def Aq(B:AS)(w:World):List CS->List Value->Prop
 | [],cs=>cs=[]
 | e :: r,cs=>∃c1 c2,cs=c1 ++ c2/\Ch B w e c1/\Aq B w r c2
end
def A1(s:List UInt8 × List UInt8):List Value:=[.string ⟨s.1.toArray⟩,.string ⟨s.2.toArray⟩,iv 0]
def Ht(B:AS)(w:World)(v:Value):Prop:=∀g o n c,v=sL g o n c->B g/\g<w.heap.size/\∀j,w.frozen? ⟨g,j,none⟩=false
theorem Ht.since{B:AS}(h:Ht B w v)(s:Since B w w'):Ht B w' v:=λ g o n c e=>by
 obtain⟨h1,h2,h3⟩:=h g o n c e;refine⟨h1,by have:=s.size;omega,λ j=>?_⟩;have:=h3 j;simp only[World.frozen?,s.block g h1 h2] at this ⊢;exact this
theorem Ht.base'{B:AS}(h:Ht B w v)(hb:∀k,B k->k<w.heap.size->B' k):Ht B' w v:=λ g o n c e=>by
 obtain⟨h1,h2,h3⟩:=h g o n c e;exact⟨hb g h1 h2,h2,h3⟩
theorem Ht.of{B:AS}{o n c:Nat}{cur:Array Value}(hb:w.heap[g]?=some (.cells cur T (0,0)))(hB:B g):Ht B w (sL g o n c):=λ g' o' n' c' e=>by
 simp only[Value.slice.injEq,Option.some.injEq,Addr.mk.injEq] at e;obtain⟨⟨rfl,-⟩,-⟩:=e;exact⟨hB,(AB hb).1,λ j=>by simp[World.frozen?,hb]⟩
theorem Ht.nil{B:AS}{n c:Nat}:Ht B w (.slice none n c):=λ g o n c e=>by cases e
def Cq(B:AS)(w:World)(sz:Nat)(v:Value)(n:Nat)(row:AR):Prop:=SlRow B w sz v n row/\Ht B w v
theorem Cq.since{B:AS}{n:Nat}{row:AR}(h:Cq B w sz v n row)(s:Since B w w'):Cq B w' sz v n row:=⟨h.1.since s,h.2.since s⟩
theorem Cq.slice{B:AS}{n:Nat}{row:AR}(h:Cq B w sz v n row):∃ao cap,v=.slice ao n cap/\n<=maxLen:=h.1.slice
theorem Cq.cells{B:AS}{n:Nat}{row:AR}(h:Cq B w sz v n row)(hn:0<n):∃g o cap,v=sL g o n cap/\n<=cap/\cap<=maxLen/\B g/\g<w.heap.size/\∀(j:Nat) (u:Value),row[j]?=u->w.cell? ⟨g,o+j,none⟩=u:=h.1.cells hn
def B7(B:AS)(w:World)(l:List (List UInt8 × List UInt8))(v:Value):Prop:=Cq B w 3 v l.length (l.flatMap A1)
def Hi(B:AS)(w:World)(l:List (List UInt8))(v:Value):Prop:=SlRow B w 1 v l.length (l.map λ t=>.string ⟨t.toArray⟩)
def Ew(B:AS)(w:World)(l:List CS)(v:Value):Prop:=∃row,SlRow B w 9 v l.length row/\Aq B w l row
def E3(B:AS)(w:World)(f:CF)(cs:AR):Prop:=
 ∃ps ls bs,cs=[.string ⟨f.name.toArray⟩,.bool f.on,ps,.string ⟨f.result.toArray⟩,ls,bs,iv 0]/\B7 B w f.params ps/\Hi B w f.locals ls/\Ew B w f.body bs
def Bm(B:AS)(w:World):List CF->List Value->Prop
 | [],cs=>cs=[]
 | e :: r,cs=>∃c1 c2,cs=c1 ++ c2/\E3 B w e c1/\Bm B w r c2
def Ah8(B:AS)(w:World)(l:List CF)(v:Value):Prop:=∃row,Cq B w 7 v l.length row/\Bm B w l row
def Dg(B:AS)(w:World)(p:CP)(v:Value):Prop:=∃ss fs,v=.agg #[iv p.version,ss,fs]/\B7 B w p.states ss/\Ah8 B w p.fns fs
mutual
theorem Ce.since{B:AS}{w w':World}(s:Since B w w'):∀{e:CE} {cs:AR},Ce B w e cs->Ce B w' e cs
 | .mk k o n t q y args,cs,h=>by
  rw[Ce] at h ⊢;obtain⟨sl,row,hc,hr,ha⟩:=h;exact⟨sl,row,hc,hr.since s,Ar.since s ha⟩
theorem Ar.since{B:AS}{w w':World}(s:Since B w w'):∀{l:List CE} {cs:AR},Ar B w l cs->Ar B w' l cs
 | [],cs,h=>by rw[Ar] at h ⊢;exact h
 | e :: r,cs,h=>by
  rw[Ar] at h ⊢;obtain⟨c1,c2,hc,h1,h2⟩:=h;exact⟨c1,c2,hc,Ce.since s h1,Ar.since s h2⟩
end
mutual
theorem Ch.since{B:AS}{w w':World}(s:Since B w w'):∀{e:CS} {cs:AR},Ch B w e cs->Ch B w' e cs
 | .mk k q f n es b c,cs,h=>by
  rw[Ch] at h ⊢;obtain⟨s1,s2,s3,r1,r2,r3,hc,a1,a2,a3,a4,a5,a6⟩:=h;exact⟨s1,s2,s3,r1,r2,r3,hc,a1.since s,a2.since s,a3.since s,Aq.since s a4,a5.since s,Aq.since s a6⟩
theorem Aq.since{B:AS}{w w':World}(s:Since B w w'):∀{l:List CS} {cs:AR},Aq B w l cs->Aq B w' l cs
 | [],cs,h=>by rw[Aq] at h ⊢;exact h
 | e :: r,cs,h=>by
  rw[Aq] at h ⊢;obtain⟨c1,c2,hc,h1,h2⟩:=h;exact⟨c1,c2,hc,Ch.since s h1,Aq.since s h2⟩
end
theorem SlRow.base'{B:AS}{n:Nat}{row:AR}(h:SlRow B w sz v n row)(hb:∀k,B k->k<w.heap.size->B' k):SlRow B' w sz v n row:=by
 obtain⟨h1,h2⟩:=h;refine⟨h1,?_⟩;rcases h2 with h2 | ⟨g,o,cap,hv,hc,hm,hB,hg,r⟩
 .exact AI h2
 .exact AJ ⟨g,o,cap,hv,hc,hm,hb _ hB hg,hg,r⟩
theorem Cq.base'{B:AS}{n:Nat}{row:AR}(h:Cq B w sz v n row)(hb:∀k,B k->k<w.heap.size->B' k):Cq B' w sz v n row:=⟨h.1.base' hb,h.2.base' hb⟩
mutual
theorem Ce.base{B B':AS}{w:World}(hb:∀k,B k->k<w.heap.size->B' k):∀{e:CE} {cs:AR},Ce B w e cs->Ce B' w e cs
 | .mk k o n t q y args,cs,h=>by
  rw[Ce] at h ⊢;obtain⟨sl,row,hc,hr,ha⟩:=h;exact⟨sl,row,hc,hr.base' hb,Ar.base hb ha⟩
theorem Ar.base{B B':AS}{w:World}(hb:∀k,B k->k<w.heap.size->B' k):∀{l:List CE} {cs:AR},Ar B w l cs->Ar B' w l cs
 | [],cs,h=>by rw[Ar] at h ⊢;exact h
 | e :: r,cs,h=>by
  rw[Ar] at h ⊢;obtain⟨c1,c2,hc,h1,h2⟩:=h;exact⟨c1,c2,hc,Ce.base hb h1,Ar.base hb h2⟩
end
mutual
theorem Ch.base{B B':AS}{w:World}(hb:∀k,B k->k<w.heap.size->B' k):∀{e:CS} {cs:AR},Ch B w e cs->Ch B' w e cs
 | .mk k q f n es b c,cs,h=>by
  rw[Ch] at h ⊢;obtain⟨s1,s2,s3,r1,r2,r3,hc,a1,a2,a3,a4,a5,a6⟩:=h;exact⟨s1,s2,s3,r1,r2,r3,hc,a1.base' hb,a2.base hb,a3.base' hb,Aq.base hb a4,a5.base' hb,Aq.base hb a6⟩
theorem Aq.base{B B':AS}{w:World}(hb:∀k,B k->k<w.heap.size->B' k):∀{l:List CS} {cs:AR},Aq B w l cs->Aq B' w l cs
 | [],cs,h=>by rw[Aq] at h ⊢;exact h
 | e :: r,cs,h=>by
  rw[Aq] at h ⊢;obtain⟨c1,c2,hc,h1,h2⟩:=h;exact⟨c1,c2,hc,Ch.base hb h1,Aq.base hb h2⟩
end
theorem Ce.cells{B:AS}{e:CE}(h:Ce B w e cs):∃(k o n s:Nat) (t y:AQ) (args:List CE) (sl:Value) (row:AR),e=.mk k o n t s y args/\cs=[iv k,iv o,iv n,.string ⟨t.toArray⟩,iv s,.string ⟨y.toArray⟩,sl,iv 0]/\SlRow B w 8 sl args.length row/\Ar B w args row:=by
 obtain⟨k,o,n,t,s,y,args⟩:=e;rw[Ce] at h;obtain⟨sl,row,h1,h2,h3⟩:=h;exact⟨k,o,n,s,t,y,args,sl,row,rfl,h1,h2,h3⟩
theorem Ce.len{B:AS}{e:CE}(h:Ce B w e cs):cs.length=8:=by
 obtain⟨k,o,n,s,t,y,args,sl,row,_,rfl,_⟩:=h.cells;rfl
theorem Ar.snoc{B:AS}{w:World}:∀{l:List CE} {row:AR} {e:CE} {cs:AR},Ar B w l row->Ce B w e cs->Ar B w (l ++ [e]) (row ++ cs)
 | [],row,e,cs,h1,h2=>by
  rw[Ar] at h1;subst h1;rw[nil_append,nil_append,Ar];exact⟨cs,[],by simp,h2,by rw[Ar]⟩
 | x :: r,row,e,cs,h1,h2=>by
  rw[Ar] at h1;obtain⟨c1,c2,rfl,h3,h4⟩:=h1;rw[cons_append,Ar];exact⟨c1,c2 ++ cs,by simp,h3,Ar.snoc h4 h2⟩
theorem Aq.snoc{B:AS}{w:World}:∀{l:List CS} {row:AR} {e:CS} {cs:AR},Aq B w l row->Ch B w e cs->Aq B w (l ++ [e]) (row ++ cs)
 | [],row,e,cs,h1,h2=>by
  rw[Aq] at h1;subst h1;rw[nil_append,nil_append,Aq];exact⟨cs,[],by simp,h2,by rw[Aq]⟩
 | x :: r,row,e,cs,h1,h2=>by
  rw[Aq] at h1;obtain⟨c1,c2,rfl,h3,h4⟩:=h1;rw[cons_append,Aq];exact⟨c1,c2 ++ cs,by simp,h3,Aq.snoc h4 h2⟩
abbrev Hu(m:Mng):Value:=.agg #[iv m.kind,iv m.slot,.string ⟨m.type.toArray⟩]
def A9(w:World)(b:Nat)(env:Ck.Env):Prop:=∃(es:Array MapEntry) (clock:Nat),w.heap[b]?=some (.map es clock)/\es.toList.map (λ e=>(e.key,e.val))=env.map λ x=>(.string ⟨x.1.toArray⟩,Hu x.2)
end
section
namespace Vv
open Go.RowKit
theorem Ap7(l:AQ)(hl:l.length<=9223372036854775807)(w:World):AA 59 #[.string ⟨l.toArray⟩] w λ e w'=>e=.returned (.bool (gType l))/\w'=w:=by
 have:=stype_any ⟨l.toArray⟩ w (by show l.toArray.size<=maxLen;unfold maxLen;simpa using hl);simpa only[toList_toArray] using this
theorem L6(l:AQ)(hl:l.length<=9223372036854775807)(w:World):AA 199 #[.string ⟨l.toArray⟩] w λ e w'=>e=.returned (iv (Jg l))/\w'=w:=by
 have hT:=Ap7 l hl w;unfold gType at hT;rcases h:Sb l with _ | T
 .rw[h] at hT;have hk:Hid (Jg l=0):=by show _=_;unfold Jg;rw[h]
  clear h;go_enter func199,ntmps199;go_wp2_with (go_at_call 59;refine hT.mono ?_;rintro e w' ⟨rfl,rfl⟩);go_ret;exact⟨ret_int hk.out.symm,rfl⟩
 .rw[h] at hT;have hk:Hid (Jg l=kd T):=by show _=_;unfold Jg;rw[h]
  obtain⟨h1,h2⟩:=(tyOf_iff _ _).1 h;have a0:=tyT_len T;clear h;subst h1;rcases T with _ | _ | _ | t | ⟨k,t⟩
  .go_enter func199,ntmps199;go_wp2_with (go_at_call 59;refine hT.mono ?_;rintro e w' ⟨rfl,rfl⟩);go_ret;exact⟨ret_int hk.out.symm,rfl⟩
  .go_enter func199,ntmps199;go_wp2_with (go_at_call 59;refine hT.mono ?_;rintro e w' ⟨rfl,rfl⟩);go_ret;exact⟨ret_int hk.out.symm,rfl⟩
  .go_enter func199,ntmps199;go_wp2_with (go_at_call 59;refine hT.mono ?_;rintro e w' ⟨rfl,rfl⟩);go_ret;exact⟨ret_int hk.out.symm,rfl⟩
  .have e:tyT (.list t)=91 :: (tyT t ++ [93]):=rfl;rw[e] at hT a0 hk ⊢;generalize tyT t ++ [93]=r at *;simp only[length_cons] at a0 hl;go_enter func199,ntmps199;go_wp2_with (go_at_call 59;refine hT.mono ?_;rintro e w' ⟨rfl,rfl⟩);go_ret;exact⟨ret_int hk.out.symm,rfl⟩
  .have e:tyT (.map k t)=123 :: (keyT k ++ ([58] ++ tyT t ++ [125])):=by simp[tyT]
   rw[e] at hT a0 hk ⊢;generalize keyT k ++ ([58] ++ tyT t ++ [125])=r at *;simp only[length_cons] at a0 hl;go_enter func199,ntmps199;go_wp2_with (go_at_call 59;refine hT.mono ?_;rintro e w' ⟨rfl,rfl⟩);go_ret;exact⟨ret_int hk.out.symm,rfl⟩
end Vv
namespace Vv
open Go.RowKit
theorem Ai0{l:AQ}(h:s.data.toList=l):s=⟨l.toArray⟩:=by
 cases s;simp at h;subst h;simp
theorem Ss(a z:UInt8)(m:AQ)(hm:m.length<=1000)(w:World):AA 201 #[.string ⟨(a :: (m ++ [z])).toArray⟩] w λ e w'=>e=.returned (.string ⟨m.toArray⟩)/\w'=w:=by
 have hz:(⟨(a :: (m ++ [z])).toArray⟩:ByteArray).size=m.length+2:=by show (a :: (m ++ [z])).toArray.size=_;simp
 have he:(⟨(a :: (m ++ [z])).toArray⟩:ByteArray).extract 1 (m.length+2 - 1)=⟨m.toArray⟩:=Ai0 (by rw[ext_list];simp);generalize (⟨(a :: (m ++ [z])).toArray⟩:ByteArray)=s at *;go_enter func201,ntmps201;go_wp2;go_ret;exact⟨by first | rfl | exact congrArg (λ x=>Ending.returned (.string x)) he,rfl⟩
theorem U3(s:ByteArray)(w:World)(hs:s.size<=281474976710656):AA 114 #[.string s] w λ e w'=>e=.returned (.string s)/\Below w w w':=by
 go_enter func114,ntmps114;go_wp2_with (go_at_call 139;refine (Tryz.stringslite_Clone s _ hs).mono ?_;rintro e w1 ⟨rfl,hb⟩);go_ret;exact⟨rfl,hb⟩
theorem sclone_l(l:AQ)(w:World)(hs:l.length<=281474976710656):AA 114 #[.string ⟨l.toArray⟩] w λ e w'=>e=.returned (.string ⟨l.toArray⟩)/\Below w w w':=U3 _ w (by show l.toArray.size<=_;simpa using hs)
theorem list_any(l:AQ)(hl:l.length<=9223372036854775807)(w:World):AA 198 #[.string ⟨l.toArray⟩] w λ e w'=>e=.returned (.tuple #[.string ⟨(elT l).1.toArray⟩,.bool (elT l).2])/\Below w w w':=by
 have hK:=L6 l hl w;rcases h:Sb l with _ | T
 .have hk:Jg l=0:=by unfold Jg;rw[h]
  have he:elT l=([],false):=by unfold elT;rw[h]
  rw[hk] at hK;rw[he];clear h hk he;go_enter func198,ntmps198;go_wp2_with (go_at_call 199;refine hK.mono ?_;rintro e w' ⟨rfl,rfl⟩)
  go_ret2
  exact⟨rfl,AF _ _⟩
 .have hk:Jg l=kd T:=by unfold Jg;rw[h]
  obtain⟨h1,h2⟩:=(tyOf_iff _ _).1 h;rw[hk] at hK;by_cases h4:kd T=4
  .cases T with
   | list t=>
    have he:elT l=(tyT t,true):=by unfold elT;rw[h]
    rw[he];clear h hk he;subst h1;have a0:=tyT_len t;simp only[Ty.dp] at h2;have hI:=Ss 91 93 (tyT t) (by omega) w;have hC:=sclone_l (tyT t) w (by omega);have e:tyT (.list t)=91 :: (tyT t ++ [93]):=rfl;rw[<-e] at hI;have e4:kd (.list t)=4:=rfl;rw[e4] at hK;clear e e4 h4 hl;generalize tyT (.list t)=z at *;generalize tyT t=y at *;clear a0;go_enter func198,ntmps198;go_wp2_with fail;refine hK.mono ?_;rintro e w' ⟨rfl,rfl⟩;go_wp2_with fail;refine hI.mono ?_;rintro e w' ⟨rfl,rfl⟩;go_wp2_with fail;refine hC.mono ?_;rintro e w' ⟨rfl,hb⟩;go_wp2
    go_ret2
    exact⟨rfl,hb⟩
   | _=>exact absurd h4 (by simp[kd])
  .have he:elT l=([],false):=by
    unfold elT;rw[h];cases T <;> first | rfl | exact absurd rfl h4
   rw[he];have a3:(kd T != 4)=true:=by simp[h4]
   clear h hk he h1;generalize kd T=z at *;go_enter func198,ntmps198;go_wp2_with (go_at_call 199;refine hK.mono ?_;rintro e w' ⟨rfl,rfl⟩)
   go_ret2
   exact⟨rfl,AF _ _⟩
theorem Ai1:∀(k:Bool) (y:AQ),Lib.indexByte (keyT k ++ 58 :: y) 58=(keyT k).length:=by
 intro k y;cases k <;> simp[keyT,Lib.indexByte]
theorem Ai2(k:Bool)(y:AQ)(w:World)(hy:y.length<=1000):AA 227 #[.string ⟨(keyT k ++ 58 :: y).toArray⟩,.string ⟨#[58]⟩] w λ e w'=>e=.returned (iv (keyT k).length)/\w'=w:=by
 have hI:=Tryz.stringslite_IndexByte ⟨(keyT k ++ 58 :: y).toArray⟩ 58 w;rw[show (⟨(keyT k ++ 58 :: y).toArray⟩:ByteArray).data.toList=keyT k ++ 58 :: y from by simp,show (58:Int).toNat.toUInt8=58 from by decide,Ai1] at hI;have a4:((⟨#[58]⟩:ByteArray).toList == (⟨(keyT k ++ 58 :: y).toArray⟩:ByteArray).toList)=false:=by
  rw[ByteArray.toList_eq,ByteArray.toList_eq];cases k <;> simp[keyT]
 have a0:(keyT k ++ 58 :: y == [58])=false:=by cases k <;> simp[keyT]
 have a3:([58] == keyT k ++ 58 :: y)=false:=by cases k <;> simp[keyT]
 generalize keyT k ++ 58 :: y=z at *;go_enter func227,ntmps227;go_wp2_with fail;refine hI.mono ?_;rintro e w' ⟨rfl,rfl⟩;go_wp2;go_ret;exact⟨rfl,rfl⟩
end Vv
end
section
open Go.RowKit
open Ck (CE CS CF CP Mng Env)
abbrev strV(x:AQ):Value:=.string ⟨x.toArray⟩
theorem Ap6(x n:AQ):((⟨x.toArray⟩:ByteArray) == ⟨n.toArray⟩)=decide (x=n):=by
 show (x.toArray == n.toArray)=decide (x=n);rw[Bool.eq_iff_iff];simp
def fnd:Ck.Env->List UInt8->Nat->Option (Nat × Mng)
 | [],_,_=>none
 |(n,m) :: r,x,i=>if n=x then some (i,m) else fnd r x (i+1)
theorem Sr:∀(env:Ck.Env) (x:AQ) (i:Nat),Ck.look env x=((fnd env x i).map (·.2)).getD .no
 | [],x,i=>rfl
 |(n,m) :: r,x,i=>by
  rw[Ck.look,fnd];split
  .rfl
  .exact Sr r x (i+1)
theorem J5(x:AQ):∀(env:Ck.Env) (es:List MapEntry) (i:Nat),es.map (λ e=>(e.key,e.val))=env.map (λ y=>(strV y.1,Hu y.2))->Instr.findNow .string (strV x) es i=some ((fnd env x i).map λ p=>(p.1,Hu p.2))
 | [],es,i,h=>by
  have:es=[]:=by simpa using h
  subst this;rfl
 |(n,m) :: r,[],i,h=>by simp at h
 |(n,m) :: r,e :: es,i,h=>by
  simp only[map_cons,List.cons.injEq,Prod.mk.injEq] at h;obtain⟨⟨h1,h2⟩,h3⟩:=h;rw[Instr.findNow,h1];simp only[Instr.sameNow,Ap6];rw[fnd];by_cases hx:x=n
  .rw[decide_eq_true hx,if_pos hx.symm,h2];rfl
  .rw[decide_eq_false hx,if_neg (λ e=>hx e.symm)];exact J5 x r es (i+1) h3
theorem Qa:prog.underlying 60=some (.map 9 125):=by kernel_rfl
theorem W6:prog.underlying 9=some .string:=by kernel_rfl
theorem Ah9(w:World):(zeroValue 125).run prog w=.ok (Hu .no) w:=by kernel_rfl
theorem Gj{env:Ck.Env}{es:List MapEntry}(h:es.map (λ e=>(e.key,e.val))=env.map (λ y=>(strV y.1,Hu y.2)))(x:AQ)(w:World):(Instr.findKey 9 (strV x) es).run prog w=.ok ((fnd env x 0).map λ p=>(p.1,Hu p.2)) w:=by
 unfold Instr.findKey;simp only[Sem.run_bind,run_underlying W6,Result.andThen];rw[J5 x env es 0 h];rfl
theorem G2(x:AQ)(e:Bool)(w:World):(Instr.checkKey e 10000 9 (strV x)).run prog w=.ok () w:=MapKept.run_checkKey (k:=strV x) W6 (by simp[MapKept.IsKey]) e _
theorem Fv{env:Ck.Env}(h:A9 w b env)(x:AQ):(Instr.lookup 60 (.map (some b)) (strV x) false).run prog w=.ok (Hu (Ck.look env x)) w:=by
 obtain⟨es,a0,hb,he⟩:=h;have hf:=Gj he x w;have hl:=Sr env x 0;rcases hq:fnd env x 0 with _ | ⟨j,m⟩
 .rw[hq] at hf hl;simp[Instr.lookup,run_underlying Qa,MapKept.run_getObj_map hb,G2,hf,Ah9,Result.andThen,hl];exact⟨rfl,rfl,rfl⟩
 .rw[hq] at hf hl;simp[Instr.lookup,run_underlying Qa,MapKept.run_getObj_map hb,G2,hf,Result.andThen,hl]
def D0(env:Ck.Env):Prop:=∀x∈env,x.2.kind≠0
theorem fnd_none:∀(env:Ck.Env) (x:AQ) (i:Nat),D0 env->(Ck.look env x).kind=0->fnd env x i=none
 | [],x,i,_,_=>rfl
 |(n,m) :: r,x,i,h,hk=>by
  rw[Ck.look] at hk;rw[fnd];split
  .rename_i e;rw[if_pos e] at hk;exact absurd hk (h (n,m) (AC ..))
  .rename_i e;rw[if_neg e] at hk;exact fnd_none r x (i+1) (λ y hy=>h y (AH _ hy)) hk
def setB(w:World)(b:Nat)(o:Obj):World:={ w with heap:=w.heap.setIfInBounds b o }
theorem Uz{k:Nat}{o:Obj}(h:k≠b):(setB w b o).heap[k]?=w.heap[k]?:=by
 show (w.heap.setIfInBounds b o)[k]?=_;rw[Array.getElem?_setIfInBounds_ne (by omega)]
theorem Oj{o:Obj}(h:b<w):(setB w b o).heap[b]?=o:=by
 show (w.heap.setIfInBounds b o)[b]?=_;rw[Array.getElem?_setIfInBounds_self_of_lt h]
theorem Yt{o:Obj}:(setB w b o).heap.size=w.heap.size:=by
 show (w.heap.setIfInBounds b o).size=_;simp
theorem U0{env:Ck.Env}(h:A9 w b env)(x:AQ)(m:Mng)(a3:fnd env x 0=none):∃o,(Instr.mapUpdate 60 (.map (some b)) (strV x) (Hu m)).run prog w=.ok () (setB w b o)/\A9 (setB w b o) b (env ++ [(x,m)]):=by
 obtain⟨es,a0,hb,he⟩:=h;have hf:=Gj he x w;rw[a3] at hf;refine⟨.map (es.push { key:=strV x,val:=Hu m,born:=a0 }) (a0+1),?_,_,_,Oj (AB hb).1,?_⟩
 .simp[Instr.mapUpdate,run_underlying Qa,MapKept.run_getObj_map hb,G2,hf,MapKept.run_setObj_map _ hb,Result.andThen,setB]
 .simp[he]
theorem W7:∀(pre:Ck.Env) (x:AQ) (m:Mng) (post:Ck.Env) (i:Nat),(∀y∈pre,y.1≠x)->fnd (pre ++ (x,m) :: post) x i=some (i+pre.length,m)
 | [],x,m,post,i,_=>by simp[fnd]
 |(n,k) :: r,x,m,post,i,h=>by
  rw[cons_append,fnd,if_neg (h (n,k) (mem_cons_self ..)),W7 r x m post (i+1) (λ y hy=>h y (mem_cons_of_mem _ hy))];simp;omega
theorem Jk{α β:Type}(f:α->β):∀(l:List α) (i:Nat),(l.eraseIdx i).map f=(l.map f).eraseIdx i
 | [],i=>by simp
 | a :: r,0=>by simp
 | a :: r,i+1=>by simp[Jk f r i]
theorem U1{pre post:Ck.Env}{m:Mng}(h:A9 w b (pre ++ (x,m) :: post))(hp:∀y∈pre,y.1≠x)(ty:TypeId):∃o,(Builtin.delete_ #[60,9] ty #[.map (some b),strV x]).run prog w=.ok (.tuple #[]) (setB w b o)/\A9 (setB w b o) b (pre ++ post):=by
 obtain⟨es,a0,hb,he⟩:=h;have hf:=Gj he x w;rw[W7 pre x m post 0 hp] at hf;have a4:es.size=pre.length+1+post.length:=by
  have:=congrArg List.length he;simp at this;omega
 refine⟨.map (es.eraseIdxIfInBounds (0+pre.length)) a0,?_,_,_,Oj (AB hb).1,?_⟩
 .simp[Builtin.delete_,run_underlying Qa,MapKept.run_getObj_map hb,G2,hf,MapKept.run_setObj_map _ hb,Result.andThen,setB]
 .have a3:(es.eraseIdxIfInBounds (0+pre.length)).toList=es.toList.eraseIdx (0+pre.length):=by
   unfold Array.eraseIdxIfInBounds;rw[dif_pos (by omega)];simp
  have hE:(pre ++ (x,m) :: post).eraseIdx (0+pre.length)=pre ++ post:=by
   rw[Nat.zero_add,eraseIdx_append_of_length_le (Nat.le_refl _)];simp
  rw[a3,Jk,he,<-Jk,hE]
end
section
namespace Vv
open Go.RowKit
theorem Ax3(k:Bool)(y:AQ)(w:World)(hy:y.length<=1000):AA 220 #[.string ⟨(keyT k ++ 58 :: y).toArray⟩,.string ⟨#[58]⟩] w λ e w'=>e=.returned (.tuple #[.string ⟨(keyT k).toArray⟩,.string ⟨y.toArray⟩,.bool true])/\Below w w w':=by
 have hI:=Ai2 k y w hy;have hz:(⟨(keyT k ++ 58 :: y).toArray⟩:ByteArray).size=(keyT k).length+1+y.length:=by show (keyT k ++ 58 :: y).toArray.size=_;simp;omega
 have h1:(⟨(keyT k ++ 58 :: y).toArray⟩:ByteArray).extract 0 (keyT k).length=⟨(keyT k).toArray⟩:=Ai0 (by rw[ext_list];simp);have h2:(⟨(keyT k ++ 58 :: y).toArray⟩:ByteArray).extract ((keyT k).length+1) ((keyT k).length+1+y.length)=⟨y.toArray⟩:=Ai0 (by
  rw[ext_list,take_of_length_le (by simp;omega),drop_append];simp)
 have a0:(keyT k).length<=4:=by cases k <;> simp[keyT]
 generalize (⟨(keyT k ++ 58 :: y).toArray⟩:ByteArray)=s at *;generalize hn:(keyT k).length=n at *;clear hn;generalize keyT k=kt at *;have b1:(0:Int)<=(n:Int):=by omega
 have b2:(n:Int)<=(s.size:Int):=by omega
 have b3:(n:Int)+1<=(s.size:Int):=by omega
 go_enter func220,ntmps220;go_wp2_with fail;refine hI.mono ?_;rintro e w' ⟨rfl,rfl⟩;clear hI;go_wp2_with fail
 go_quiet (fail)
 go_wp2
 go_ret3
 exact⟨rfl,below_drewN _ _⟩
theorem Ax4(k:Bool)(y:AQ)(w:World)(hy:y.length<=1000):AA 200 #[.string ⟨(keyT k ++ 58 :: y).toArray⟩,.string ⟨#[58]⟩] w λ e w'=>e=.returned (.tuple #[.string ⟨(keyT k).toArray⟩,.string ⟨y.toArray⟩,.bool true])/\Below w w w':=by
 have hI:=Ax3 k y w hy;generalize (⟨(keyT k ++ 58 :: y).toArray⟩:ByteArray)=s at *;go_enter func200,ntmps200;go_wp2_with fail;refine hI.mono ?_;rintro e w' ⟨rfl,hb⟩;clear hI;go_wp2
 go_ret3
 exact⟨rfl,hb⟩
theorem map_any(l:AQ)(hl:l.length<=9223372036854775807)(w:World):AA 171 #[.string ⟨l.toArray⟩] w λ e w'=>e=.returned (.tuple #[.string ⟨(mpT l).1.toArray⟩,.string ⟨(mpT l).2.1.toArray⟩,.bool (mpT l).2.2])/\Below w w w':=by
 have hK:=L6 l hl w;rcases h:Sb l with _ | T
 .have hk:Jg l=0:=by unfold Jg;rw[h]
  have he:mpT l=([],[],false):=by unfold mpT;rw[h]
  rw[hk] at hK;rw[he];clear h hk he;go_enter func171,ntmps171;go_wp2_with (go_at_call 199;refine hK.mono ?_;rintro e w' ⟨rfl,rfl⟩)
  go_ret3
  exact⟨rfl,AF _ _⟩
 .have hk:Jg l=kd T:=by unfold Jg;rw[h]
  obtain⟨h1,h2⟩:=(tyOf_iff _ _).1 h;rw[hk] at hK;by_cases h4:kd T=5
  .cases T with
   | map k t=>
    have he:mpT l=(keyT k,tyT t,true):=by unfold mpT;rw[h]
    rw[he];clear h hk he;subst h1;have a0:=tyT_len t;have a5:(keyT k).length<=4:=by cases k <;> simp[keyT]
    simp only[Ty.dp] at h2;have hI:=Ss 123 125 (keyT k ++ 58 :: tyT t) (by simp;omega) w;have hC:=Ax4 k (tyT t) w (by omega);have a8:=λ w=>sclone_l (keyT k) w (by omega)
    have a6:=λ w=>sclone_l (tyT t) w (by omega)
    have e:tyT (.map k t)=123 :: ((keyT k ++ 58 :: tyT t) ++ [125]):=by simp[tyT]
    rw[<-e] at hI;have e4:kd (.map k t)=5:=rfl;rw[e4] at hK;clear e e4 h4 hl;generalize tyT (.map k t)=z at *;generalize keyT k ++ 58 :: tyT t=m at *;generalize tyT t=y at *;generalize keyT k=kt at *;clear a0 a5;go_enter func171,ntmps171;go_wp2_with fail;refine hK.mono ?_;rintro e w' ⟨rfl,rfl⟩;go_wp2_with fail;refine hI.mono ?_;rintro e w' ⟨rfl,rfl⟩;go_wp2_with fail;refine hC.mono ?_;rintro e w2 ⟨rfl,a3⟩;go_wp2_with fail;refine (a8 _).mono ?_;rintro e w3 ⟨rfl,a4⟩;go_wp2_with fail;refine (a6 _).mono ?_;rintro e w4 ⟨rfl,a7⟩;go_wp2
    go_ret3
    exact⟨rfl,a3.trans ((a4.trans (a7.mono a4.size)).mono a3.size)⟩
   | _=>exact absurd h4 (by simp[kd])
  .have he:mpT l=([],[],false):=by
    unfold mpT;rw[h];cases T <;> first | rfl | exact absurd rfl h4
   rw[he];have a9:(kd T != 5)=true:=by simp[h4]
   clear h hk he h1;generalize kd T=z at *;go_enter func171,ntmps171;go_wp2_with (go_at_call 199;refine hK.mono ?_;rintro e w' ⟨rfl,rfl⟩)
   go_ret3
   exact⟨rfl,AF _ _⟩
end Vv
end
section
open Go.RowKit
theorem Cs(s:AQ)(w:World):AA 31 #[strV s] w λ e w'=>e=.returned (iv (Ck.bkind s))/\w'=w:=by
 have e1:(s == [108,101,110])=decide (s=[108,101,110]):=by rw[Bool.eq_iff_iff];simp
 have e2:(s == [104,97,115])=decide (s=[104,97,115]):=by rw[Bool.eq_iff_iff];simp
 have e3:(s == [112,117,115,104])=decide (s=[112,117,115,104]):=by rw[Bool.eq_iff_iff];simp
 have e4:(s == [115,116,114])=decide (s=[115,116,114]):=by rw[Bool.eq_iff_iff];simp
 generalize hk:Ck.bkind s=k;unfold Ck.bkind at hk;by_cases h1:s=[108,101,110]
 .rw[if_pos h1] at hk;rw[decide_eq_true h1] at e1;clear h1 e2 e3 e4;subst hk;go_enter func31,ntmps31;go_wp2;go_ret;exact⟨rfl,rfl⟩
 rw[if_neg h1] at hk;rw[decide_eq_false h1] at e1;by_cases h2:s=[104,97,115]
 .rw[if_pos h2] at hk;rw[decide_eq_true h2] at e2;clear h1 h2 e3 e4;subst hk;go_enter func31,ntmps31;go_wp2;go_ret;exact⟨rfl,rfl⟩
 rw[if_neg h2] at hk;rw[decide_eq_false h2] at e2;by_cases h3:s=[112,117,115,104]
 .rw[if_pos h3] at hk;rw[decide_eq_true h3] at e3;clear h1 h2 h3 e4;subst hk;go_enter func31,ntmps31;go_wp2;go_ret;exact⟨rfl,rfl⟩
 rw[if_neg h3] at hk;rw[decide_eq_false h3] at e3;by_cases h4:s=[115,116,114]
 .rw[if_pos h4] at hk;rw[decide_eq_true h4] at e4;clear h1 h2 h3 h4;subst hk;go_enter func31,ntmps31;go_wp2;go_ret;exact⟨rfl,rfl⟩
 rw[if_neg h4] at hk;rw[decide_eq_false h4] at e4;clear h1 h2 h3 h4;subst hk;go_enter func31,ntmps31;go_wp2;go_ret;exact⟨rfl,rfl⟩
theorem Gk(s:AQ)(w:World):AA 13 #[strV s] w λ e w'=>e=.returned (.bool (Ck.bkind s != 0))/\w'=w:=by
 have hk:=Cs s w;generalize Ck.bkind s=k at *;have e1:((k:Int) != 0)=(k != 0):=by
  by_cases h:k=0
  .subst h;rfl
  .rw[bne_iff_ne.2 h,bne_iff_ne];omega
 go_enter func13,ntmps13;go_wp2_with fail;refine hk.mono ?_;rintro e w1 ⟨rfl,rfl⟩;clear hk;go_wp2;go_ret;exact⟨by rw[<-e1];rfl,rfl⟩
def Ag(a e:Nat):List PanicEntry:=[{ v:=.iface 58 (.agg #[iv a,iv e]),recovered:=false }]
theorem Ap(p e:Nat)(w:World):AA 45 #[.bool false,iv p,iv e] w λ r w'=>r=.panicked (Ag p e)/\w'=w:=by
 go_enter func45,ntmps45;go_wp2;exact⟨rfl,rfl,rfl⟩
theorem Aw(p e:Nat)(w:World):AA 45 #[.bool true,iv p,iv e] w λ r w'=>r=.returned (.tuple #[])/\w'=w:=by
 go_enter func45,ntmps45;go_wp2_with fail;exact bodyPost_end (results_none rfl _ _ _) rfl ⟨rfl,rfl⟩
theorem Hv(t:AQ)(ht:t.length<=9223372036854775807)(w:World):AA 170 #[strV t] w λ e w'=>e=.returned (.tuple #[strV (Ck.within t).1,strV (Ck.within t).2.1,.bool (Ck.within t).2.2])/\Below w w w':=by
 have hL:=Vv.list_any t ht;have hM:=Vv.map_any t ht;unfold Ck.within;generalize Vv.elT t=a at *;generalize Vv.mpT t=m at *;obtain⟨a1,a2⟩:=a;obtain⟨m1,m2,m3⟩:=m;cases a2
 .simp only[Bool.false_eq_true,if_false];go_enter func170,ntmps170;go_wp2_with fail;refine (hL _).mono ?_;rintro e w1 ⟨rfl,a0⟩;clear hL;go_wp2_with fail;refine (hM _).mono ?_;rintro e w2 ⟨rfl,a3⟩;clear hM;go_wp2
  go_ret3
  exact⟨rfl,a0.trans (a3.mono a0.size)⟩
 .simp only[if_true];go_enter func170,ntmps170;go_wp2_with fail;refine (hL _).mono ?_;rintro e w1 ⟨rfl,a0⟩;clear hL hM;go_wp2
  go_ret3
  exact⟨rfl,a0⟩
theorem Hm:∀(l:AQ) (o:Nat) (acc:AQ),l.all Lx.isPlain=true ->
  Lx.quoteR (Cv l ++ [34]) o acc=if (acc ++ l).length<=256 then Lx.R.ok 3 (acc ++ l) 0 (o+(Cv l).length+1) else Lx.R.bad 0 3
 | [],o,acc,_=>by
  rw[show Cv [] ++ [34]=[(34:UInt8)] from rfl,Cf,if_pos rfl];simp[Cv]
 | c :: r,o,acc,h=>by
  simp only[all_cons,Bool.and_eq_true] at h;have e:Cv (c :: r)=(if Lx.isEsc c then [92,c] else [c]) ++ Cv r:=by simp[Cv]
  rcases hc:Lx.isEsc c with _ | _
  .have a0:c≠34:=by rintro rfl;simp[Lx.isEsc] at hc
   have a3:c≠92:=by rintro rfl;simp[Lx.isEsc] at hc
   rw[e,hc];simp only[Bool.false_eq_true,if_false,cons_append,nil_append];rw[Cf,if_neg a0,if_neg a3,if_pos h.1,Hm r (o+1) (acc ++ [c]) h.2];simp only[append_assoc,cons_append,nil_append,length_cons];rw[show o+1+(Cv r).length+1=o+((Cv r).length+1)+1 by omega]
  .rw[e,hc];simp only[if_true,cons_append,nil_append];rw[Cf,if_neg (by decide),if_pos rfl];simp only[hc,if_true];rw[Hm r (o+2) (acc ++ [c]) h.2];simp only[append_assoc,cons_append,nil_append,length_cons];rw[show o+2+(Cv r).length+1=o+((Cv r).length+1+1)+1 by omega]
end
section
theorem O6{p:UInt8->Bool}:∀{l l2:AQ},l2.take (l.takeWhile p).length=l.take (l.takeWhile p).length ->
  (∀c,l2[(l.takeWhile p).length]?=some c->p c=false)->l2.takeWhile p=l.takeWhile p
 | [],[],_,_=>rfl
 | [],c :: r,_,h=>by
  have:=h c rfl;simp[this]
 | a :: r,l2,h1,h2=>by
  by_cases ha:p a
  .simp only[takeWhile_cons_of_pos ha,length_cons] at h1 h2 ⊢;rcases l2 with _ | ⟨b,r2⟩
   .simp at h1
   .simp only[take_succ_cons,List.cons.injEq] at h1;obtain⟨a0,h3⟩:=h1;subst a0;rw[takeWhile_cons_of_pos ha];congr 1;exact O6 h3 (λ c hc=>h2 c (by simpa using hc))
  .simp only[takeWhile_cons_of_neg ha,length_nil] at h1 h2 ⊢;rcases l2 with _ | ⟨b,r2⟩
   .rfl
   .have:=h2 b rfl;simp[this]
theorem Vy{p:UInt8->Bool}{l:AQ}{c:UInt8}(h:l[(l.takeWhile p).length]?=c):p c=false:=by
 obtain⟨a0,he⟩:=AK h;rcases hp:p c with _ | _
 .rfl
 .have:=Lx.tw_step (l:=l) (p:=p) (k:=(l.takeWhile p).length) (AD _) a0 (by rw[he];exact hp);omega
theorem quote_local:∀(N:Nat) (l l2:AQ) (o:Nat) (acc:AQ) (k:Nat) (t:AQ) (m n:Nat),l.length<=N->Lx.quoteR l o acc=Lx.R.ok k t m n->l2.take (n - o)=l.take (n - o)->Lx.quoteR l2 o acc=Lx.R.ok k t m n
 | N,[],l2,o,acc,k,t,m,n,_,h,_=>by simp[Lx.quoteR,Lx.R.bad,Lx.R.ok] at h
 | 0,c :: r,l2,o,acc,k,t,m,n,hN,h,_=>by simp at hN
 | N+1,c :: r,l2,o,acc,k,t,m,n,hN,h,ht=>by
  have hk:=Bi (N+1) (c :: r) o acc k t m n hN h;obtain⟨q,hq⟩:∃q,n - o=q+1:=⟨n - o - 1,by omega⟩;rw[hq] at ht;rcases l2 with _ | ⟨b,r2⟩
  .simp at ht
  .simp only[take_succ_cons,List.cons.injEq] at ht;obtain⟨a4,a0⟩:=ht;subst a4;rw[Cf] at h ⊢;simp only[length_cons] at hN;split at h
   .rename_i h34;rw[if_pos h34];exact h
   .rename_i h34;rw[if_neg h34];split at h
    .rename_i h92;rw[if_pos h92];rcases r with _ | ⟨d,r'⟩
     .simp[Lx.R.ok,Lx.R.bad] at h
     .simp only at h;split at h
      .rename_i hd;have a3:=Bi r'.length r' (o+2) (acc ++ [d]) k t m n (AD _) h;obtain⟨q',a8⟩:∃q',q=q'+1:=⟨q - 1,by omega⟩;rw[a8] at a0;rcases r2 with _ | ⟨e,a6⟩
       .simp at a0
       .simp only[take_succ_cons,List.cons.injEq] at a0;obtain⟨a7,a5⟩:=a0;subst a7;simp only[hd,if_true];exact quote_local N r' a6 (o+2) _ k t m n (by simp at hN;omega) h (by rw[show n - (o+2)=q' by omega];exact a5)
      .simp[Lx.R.ok,Lx.R.bad] at h
    .rename_i h92;rw[if_neg h92];split at h
     .rename_i hp;rw[if_pos hp];have a3:=Bi r.length r (o+1) _ k t m n (AD _) h;exact quote_local N r r2 (o+1) _ k t m n (by omega) h (by rw[show n - (o+1)=q by omega];exact a0)
     .simp[Lx.R.ok,Lx.R.bad] at h
end
section
open Go.RowKit
theorem quote_err:∀(N:Nat) (l:AQ) (o:Nat) (acc:AQ) (a er:Nat),l.length<=N->Lx.quoteR l o acc=Lx.R.bad a er->er≠0
 | N,[],o,acc,a,er,_,h=>by simp[Lx.quoteR,Lx.R.bad] at h;omega
 | 0,c :: r,o,acc,a,er,hN,h=>by simp at hN
 | N+1,c :: r,o,acc,a,er,hN,h=>by
  rw[Cf] at h;simp only[length_cons] at hN;split at h
  .split at h
   .simp[Lx.R.ok,Lx.R.bad] at h
   .simp[Lx.R.bad] at h;omega
  .split at h
   .split at h
    .simp[Lx.R.bad] at h;omega
    .split at h
     .rename_i d r' _;exact quote_err N r' (o+2) _ a er (by simp at hN;omega) h
     .simp[Lx.R.bad] at h;omega
   .split at h
    .exact quote_err N r (o+1) _ a er (by omega) h
    .simp[Lx.R.bad] at h;omega
theorem tok_err{dot:Bool}{l:AQ}{a er:Nat}(h:Lx.tokR dot l=Lx.R.bad a er):er≠0:=by
 match l,h with
 | [],h=>simp[Lx.tokR,Lx.R.ok,Lx.R.bad] at h
 | c :: r,h=>
  simp only[Lx.tokR] at h;split at h
  .unfold Lx.nameR at h;split at h
   .simp[Lx.R.ok,Lx.R.bad] at h
   .simp[Lx.R.bad] at h;omega
  .split at h
   .unfold Lx.numberR at h;split at h
    .simp[Lx.R.bad] at h;omega
    .split at h
     .simp[Lx.R.ok,Lx.R.bad] at h
     .simp[Lx.R.bad] at h;omega
   .split at h
    .exact quote_err r.length r 1 [] a er (AD _) h
    .unfold Lx.markR at h;split at h
     .simp[Lx.R.bad] at h;omega
     .simp[Lx.R.ok,Lx.R.bad] at h
theorem Qy(dot:Bool):∀(f:Nat) (l:AQ) (i c a er:Nat),l.length<f->Lx.lexF dot f l i c=.inr (a,er)->er≠0
 | 0,l,i,c,a,er,hf,h=>by omega
 | f+1,l,i,c,a,er,hf,h=>by
  simp only[Lx.lexF] at h;split at h
  .split at h
   .simp at h
   .simp at h;omega
  .rename_i x r hd;have hl:=congrArg List.length hd;simp at hl;split at h
   .rename_i o e ht;simp at h;rw[<-h.2];exact tok_err ht
   .rename_i k t m n ht;split at h
    .rcases hg:Lx.lexF dot f (r.drop (n - 1)) (i+Lx.skipF false l+n) (c+1) with ts | ⟨a',e'⟩
     .rw[hg] at h;simp[Lx.Out.pre] at h
     .rw[hg] at h;simp[Lx.Out.pre] at h;rw[<-h.2];exact Qy dot f _ _ _ a' e' (by simp;omega) hg
    .simp at h;omega
theorem Al6{dot:Bool}{l:AQ}{a er:Nat}(h:Lx.lex dot l=.inr (a,er)):er≠0:=by
 unfold Lx.lex at h;split at h
 .simp at h;omega
 .exact Qy dot _ l 0 0 a er (Nat.lt_succ_self _) h
def Zw(w:World)(g:Nat)(ts:List Lx.Tok):Prop:=∀k t,ts[k]?=some t->w.cell? ⟨g,k*4,none⟩=iv t.kind/\w.cell? ⟨g,k*4+1,none⟩=some (.string ⟨t.text.toArray⟩)/\w.cell? ⟨g,k*4+2,none⟩=iv t.num/\w.cell? ⟨g,k*4+3,none⟩=iv t.place
theorem Qx:∀(ts:List Lx.Tok) (k:Nat) (t:Lx.Tok),ts[k]?=t->(Dy ts)[k*4]?=iv t.kind/\(Dy ts)[k*4+1]?=some (.string ⟨t.text.toArray⟩)/\(Dy ts)[k*4+2]?=iv t.num/\(Dy ts)[k*4+3]?=iv t.place
 | [],k,t,h=>by simp at h
 | a :: r,0,t,h=>by
  simp at h;subst h;simp[Dy,E5]
 | a :: r,k+1,t,h=>by
  have ih:=Qx r k t (by simpa using h);have e:Dy (a :: r)=E5 a ++ Dy r:=by simp[Dy]
  have hl:(E5 a).length=4:=rfl;rw[e];refine⟨?_,?_,?_,?_⟩
  .rw[List.getElem?_append_right (by omega),hl,show (k+1)*4 - 4=k*4 by omega];exact ih.1
  .rw[List.getElem?_append_right (by omega),hl,show (k+1)*4+1 - 4=k*4+1 by omega];exact ih.2.1
  .rw[List.getElem?_append_right (by omega),hl,show (k+1)*4+2 - 4=k*4+2 by omega];exact ih.2.2.1
  .rw[List.getElem?_append_right (by omega),hl,show (k+1)*4+3 - 4=k*4+3 by omega];exact ih.2.2.2
theorem Xs{base:Nat}{e:TypeId}{ts:List Lx.Tok}(h:w.ownsRow base e 4 v ts.length (Dy ts))(hn:0<ts.length) :
  ∃g cap,v=sL g 0 ts.length cap/\base<=g/\g<w.heap.size/\ts.length<=cap/\Zw w g ts:=by
 have h2:=h.2;obtain⟨g,cap,hv,hg,hl,hc⟩:=Ts h hn;refine⟨g,cap,hv,hg,hl,?_,?_⟩
 .rcases h2 with⟨h0,_⟩ | ⟨g',a3,cur,a0,_,_,a4,_⟩
  .rw[hv] at h0;simp at h0
  .rw[hv] at a0;simp at a0;omega
 .intro k t hk;obtain⟨a,b,c,d⟩:=Qx ts k t hk;exact⟨hc _ _ a,hc _ _ b,hc _ _ c,hc _ _ d⟩
theorem D8{dot:Bool}{l:AQ}{ts:List Lx.Tok}(h:Lx.lex dot l=.inl ts):0<ts.length/\l.length<=16384:=by
 unfold Lx.lex at h;split at h
 .simp at h
 .refine⟨?_,by omega⟩;rcases hd:l.drop (Lx.skipF false l) with _ | ⟨x,r⟩
  .rw[Lx.lexGo_end hd] at h;simp at h;subst h;simp
  .rcases ht:Lx.tokR dot (x :: r) with⟨k,t,m,n⟩ | ⟨o,e⟩
   .rw[Lx.lexGo_ok hd ht (B4 ht).2.1] at h;simp only[Nat.zero_lt_succ,if_true] at h;rcases hg:Lx.lexGo dot (l.drop (Lx.skipF false l+n)) (0+Lx.skipF false l+n) (0+1) with ts' | y
    .rw[hg] at h;simp[Lx.Out.pre] at h;subst h;simp
    .rw[hg] at h;simp[Lx.Out.pre] at h
   .rw[Lx.lexGo_bad hd ht] at h;simp at h
theorem Qz(dot:Bool):∀(f:Nat) (l:AQ) (i c:Nat) (ts:List Lx.Tok),l.length<f->Lx.lexF dot f l i c=.inl ts->c+ts.length<=4096
 | 0,l,i,c,ts,hf,h=>by omega
 | f+1,l,i,c,ts,hf,h=>by
  simp only[Lx.lexF] at h;split at h
  .split at h
   .simp at h;subst h;simp;omega
   .simp at h
  .rename_i x r hd;have hl:=congrArg List.length hd;simp at hl;split at h
   .simp at h
   .rename_i k t m n ht;split at h
    .rcases hg:Lx.lexF dot f (r.drop (n - 1)) (i+Lx.skipF false l+n) (c+1) with ts' | y
     .rw[hg] at h;simp[Lx.Out.pre] at h;subst h;have:=Qz dot f _ _ _ ts' (by simp;omega) hg;simp;omega
     .rw[hg] at h;simp[Lx.Out.pre] at h
    .simp at h
theorem Vz{dot:Bool}{l:AQ}{ts:List Lx.Tok}(h:Lx.lex dot l=.inl ts):ts.length<=4096:=by
 unfold Lx.lex at h;split at h
 .simp at h
 .have:=Qz dot _ l 0 0 ts (Nat.lt_succ_self _) h;omega
end
section
theorem E6{dot:Bool}{L:AQ}{c:Nat}{ts:List Lx.Tok}(h:Lx.lexGo dot L i c=.inl ts):∃u rest,ts=u :: rest/\u.place=i+Lx.skipF false L/\c<4096 /\
  ((L.drop (Lx.skipF false L)=[]/\rest=[]/\u=⟨5,[],0,i+Lx.skipF false L⟩) \/
   ∃x r k t m n,L.drop (Lx.skipF false L)=x :: r/\Lx.tokR dot (x :: r)=Lx.R.ok k t m n/\u=⟨k,t,m,i+Lx.skipF false L⟩/\Lx.lexGo dot (L.drop (Lx.skipF false L+n)) (i+Lx.skipF false L+n) (c+1)=.inl rest):=by
 rcases hd:L.drop (Lx.skipF false L) with _ | ⟨x,r⟩
 .rw[Lx.lexGo_end hd] at h;split at h
  .rename_i hc;simp only[Sum.inl.injEq] at h;exact⟨_,[],h.symm,rfl,hc,AI ⟨rfl,rfl,rfl⟩⟩
  .simp at h
 .rcases ht:Lx.tokR dot (x :: r) with⟨k,t,m,n⟩ | ⟨o,e⟩
  .rw[Lx.lexGo_ok hd ht (B4 ht).2.1] at h;split at h
   .rename_i hc;rcases hg:Lx.lexGo dot (L.drop (Lx.skipF false L+n)) (i+Lx.skipF false L+n) (c+1) with ts' | y
    .rw[hg] at h;simp only[Lx.Out.pre,cons_append,nil_append,Sum.inl.injEq] at h;exact⟨_,ts',h.symm,rfl,hc,AJ ⟨x,r,k,t,m,n,rfl,ht,rfl,hg⟩⟩
    .rw[hg] at h;simp[Lx.Out.pre] at h
   .simp at h
  .rw[Lx.lexGo_bad hd ht] at h;simp at h
theorem Tt(dot:Bool)(l:AQ):∀(N i c:Nat) (ts:List Lx.Tok),l.length - i<N->i<=l.length->Lx.lexGo dot (l.drop i) i c=.inl ts->Px.Good ts:=by
 intro N;induction N with
 | zero=>intro i c ts hN;omega
 | succ N ih=>
  intro i c ts hN hi h;obtain⟨u,a4,rfl,a8,hc,a3⟩:=E6 h;have a7:=Lx.skip_le false (l.drop i);simp only[length_drop] at a7;rcases a3 with⟨hd,rfl,rfl⟩ | ⟨x,r,k,t,m,n,hd,ht,rfl,a0⟩
  .rfl
  .have a6:=B4 ht;have a5:=congrArg List.length hd;simp at a5;rw[drop_drop,<-Nat.add_assoc] at a0;have hg:=ih (i+Lx.skipF false (l.drop i)+n) (c+1) a4 (by omega) (by omega) a0
   match a4,hg with
   | u :: r,hg=>exact⟨a6.1,hg⟩
theorem Q1{dot:Bool}{l:AQ}{ts:List Lx.Tok}(h:Lx.lex dot l=.inl ts):Px.Good ts:=by
 have a0:=(D8 h).2;unfold Lx.lex at h;rw[if_neg (by omega)] at h;exact Tt dot l (l.length+1) 0 0 ts (by omega) (by omega) (by simpa using h)
theorem Q2{l:AQ}{ts:List Lx.Tok}{a e:Nat}(h:Lx.lex true l=.inl ts)(hp:Px.program ts=.inr (a,e)):(∃t∈ts,t.place=a)/\(e=31\/e=32):=
 (Px.program_ok ts (Q1 h)).bad a e hp
def cls:List UInt8->Nat
 | []=>5
 | c :: _=>if Lx.isLetter c then 1 else if Lx.isDigit c then 2 else 4
def Xt(t:Lx.Tok):Prop:=t.kind=3\/t.kind=cls t.text
theorem Zx{dot:Bool}{x:UInt8}{r:AQ}{k:Nat}{t:AQ}{n:Nat}(h:Lx.tokR dot (x :: r)=Lx.R.ok k t m n):k=3\/k=cls t:=by
 simp only[Lx.tokR] at h;split at h
 .rename_i hl;unfold Lx.nameR at h;split at h
  .simp only[Lx.R.ok,Sum.inl.injEq,Prod.mk.injEq] at h;obtain⟨rfl,rfl,_⟩:=h;right;rw[takeWhile_cons_of_pos (by simp[Lx.isPart,hl])];simp[cls,hl]
  .simp[Lx.R.ok,Lx.R.bad] at h
 .rename_i hl;split at h
  .rename_i hd;unfold Lx.numberR at h;split at h
   .simp[Lx.R.ok,Lx.R.bad] at h
   .split at h
    .simp only[Lx.R.ok,Sum.inl.injEq,Prod.mk.injEq] at h;obtain⟨rfl,rfl,_⟩:=h;right;rw[takeWhile_cons_of_pos hd];simp[cls,hl,hd]
    .simp[Lx.R.ok,Lx.R.bad] at h
  .rename_i hd;split at h
   .left;exact (Bi r.length r 1 [] k t m n (AD _) h).1
   .unfold Lx.markR at h;split at h
    .simp[Lx.R.ok,Lx.R.bad] at h
    .rename_i hz;simp only[Lx.R.ok,Sum.inl.injEq,Prod.mk.injEq] at h;obtain⟨rfl,rfl,_⟩:=h;right;obtain⟨q,hq⟩:∃q,Lx.markN dot (x :: r)=q+1:=⟨Lx.markN dot (x :: r) - 1,by omega⟩;rw[hq,take_succ_cons];simp[cls,hl,hd]
theorem Tu(dot:Bool)(l:AQ):∀(N i c:Nat) (ts:List Lx.Tok),l.length - i<N->i<=l.length->Lx.lexGo dot (l.drop i) i c=.inl ts->∀t∈ts,Xt t:=by
 intro N;induction N with
 | zero=>intro i c ts hN;omega
 | succ N ih=>
  intro i c ts hN hi h;obtain⟨u,a5,rfl,a8,hc,a3⟩:=E6 h;have a6:=Lx.skip_le false (l.drop i);simp only[length_drop] at a6;rcases a3 with⟨hd,rfl,rfl⟩ | ⟨x,r,k,t,m,n,hd,ht,rfl,a0⟩
  .intro t ht;simp at ht;subst ht;exact AJ rfl
  .have a7:=B4 ht;have a4:=congrArg List.length hd;simp at a4;rw[drop_drop,<-Nat.add_assoc] at a0;have hg:=ih (i+Lx.skipF false (l.drop i)+n) (c+1) a5 (by omega) (by omega) a0;intro t' ht';simp only[mem_cons] at ht';rcases ht' with rfl | ht'
   .exact Zx ht
   .exact hg t' ht'
theorem Zy{dot:Bool}{l:AQ}{ts:List Lx.Tok}(h:Lx.lex dot l=.inl ts):∀t∈ts,Xt t:=by
 have a0:=(D8 h).2;unfold Lx.lex at h;rw[if_neg (by omega)] at h;exact Tu dot l (l.length+1) 0 0 ts (by omega) (by omega) (by simpa using h)
def isB(x:AQ)(t:Lx.Tok):Bool:=t.text == x && t.kind != 3
theorem Zz{t:Lx.Tok}{r:List Lx.Tok}(h:Xt t)(h3:cls x≠3):isB x t=Px.sees (cls x) x (t :: r):=by
 simp only[isB,Px.sees];rw[Bool.eq_iff_iff];simp only[Bool.and_eq_true,beq_iff_eq,bne_iff_ne,ne_eq];constructor
 .rintro⟨h1,h2⟩;rcases h with h | h
  .exact absurd h h2
  .exact⟨by rw[h,h1],h1⟩
 .rintro⟨h1,h2⟩;exact⟨h2,by omega⟩
namespace Px
open Lx (Tok B)
def isCmp:List Tok->Bool
 | t :: _=>(levelOf t).1 == 3
 | []=>false
def F4{α:Type}(r:R α):R α:=
 match r with
 | .inl (x,l)=>if isCmp l then fail 31 l else .inl (x,l)
 | .inr f=>.inr f
def GE(e e':P Ex):Prop:=∀l,Good l->e l=F4 (e' l)
def cmp(q:P Ex)(l:List Tok):R Ex:=bind (q l) λ x l1=>
 match l1 with
 | t :: r=>if (levelOf t).1=3 then bind (q r) λ y l2=>.inl (.mk 15 (levelOf t).2 0 [] [x,y] t.place,l2) else .inl (x,t :: r)
 | []=>.inr (0,0)
def lvl'(q:P Ex):P Ex:=level 1 (level 2 (cmp (level 4 (level 5 q))))
def expr'(k:Nat):P Ex:=lvl' (unary k)
theorem level_kind{t:Tok}(h:(levelOf t).1≠0):t.kind=4:=by
 by_cases hk:t.kind=4
 .exact hk
 .exfalso;apply h;unfold levelOf;rw[if_neg hk]
theorem F5{l:List Tok}(h:isCmp l=true):∃t r,l=t :: r/\(levelOf t).1=3:=by
 match l,h with
 | t :: r,h=>exact⟨t,r,rfl,by simpa [isCmp] using h⟩
theorem K2{t:Tok}{a b:Nat}(x:B)(hx:(levelOf (⟨4,x,0,0⟩:Tok)).1≠3)(h:(levelOf t).1=3):¬t.text=x:=by
 intro he;have hk:=level_kind (t:=t) (by omega);apply hx;rw[<-h];unfold levelOf;simp only[hk,he]
theorem K3{l:List Tok}{x:B}(hx:(levelOf (⟨4,x,0,0⟩:Tok)).1≠3)(h:isCmp l=true):need x l=fail 31 l:=by
 obtain⟨t,r,rfl,h3⟩:=F5 h;have:=K2 (a:=0) (b:=0) x hx h3;unfold need needK;rw[if_neg (by simp[sees,this])]
theorem Z0{l:List Tok}{k:Nat}{x:B}(hx:(levelOf (⟨4,x,0,0⟩:Tok)).1≠3)(h:isCmp l=true):sees k x l=false:=by
 obtain⟨t,r,rfl,h3⟩:=F5 h;have:=K2 (a:=0) (b:=0) x hx h3;simp[sees,this]
theorem Hn{α β:Type}{r:R α}{f g:α->List Tok->R β}(h1:∀x l,r=.inl (x,l)->isCmp l=true->g x l=fail 31 l)(h2:∀x l,r=.inl (x,l)->isCmp l=false->f x l=g x l):bind (F4 r) f=bind r g:=by
 match r,h1,h2 with
 | .inr e,_,_=>rfl
 | .inl (x,l),h1,h2=>
  simp only[F4];rcases hc:isCmp l with _ | _
  .simp only[Bool.false_eq_true,if_false,bind];exact h2 x l rfl hc
  .simp only[if_true];show (fail 31 l:R β)=_;simp only[bind];exact (h1 x l rfl hc).symm
theorem cmp_ok{q:P Ex}(hq:Ok q):Ok (cmp q):=λ l hg=>(hq l hg).bind1 λ x l1 _ a1=>by
 match l1,a1 with
 | [],a1=>exact absurd a1.good (by simp[Good])
 | t :: r,a1=>
  simp only;split
  .rename_i h;have hk:=level_kind (t:=t) (by omega);have a3:=a1.good.tail (by omega);have a0:Adv 1 (t :: r) r:=⟨a3,AE _ _,by simp⟩;exact (Res.after a0 ((hq r a3).weak.bind0 λ y l2 _ a2=>Res.here a2.good)).weak
  .exact Res.here a1.good
theorem Al7{q:P Ex}(hq:Ok q):Ok (lvl' q):=level_ok (level_ok (cmp_ok (level_ok (level_ok hq (by decide)) (by decide))) (by decide)) (by decide)
theorem expr'_ok(k:Nat):Ok (expr' k):=Al7 (unary_ok k)
theorem Xu{q:P Ex}(hq:Ok q):GE (level 3 q) (cmp q):=by
 intro l hg;unfold level cmp;rcases h:q l with⟨x,l1⟩ | f
 .have a1:=(hq l hg).ok x l1 h
  match l1,a1 with
  | [],a1=>exact absurd a1.good (by simp[Good])
  | t :: r,a1=>
   simp only[bind,chain,length_cons];by_cases hl:(levelOf t).1=3
   .rw[if_pos hl,if_pos hl,if_neg (by omega)];have hk:=level_kind (t:=t) (by omega);have a0:=a1.good.tail (by omega);rcases h2:q r with⟨y,l2⟩ | f
    .have a2:=(hq r a0).ok y l2 h2
     match l2,a2 with
     | [],a2=>exact absurd a2.good (by simp[Good])
     | u :: v,a2=>
      simp only[bind,chain,F4];by_cases h3:(levelOf u).1=3
      .rw[if_pos h3,if_pos ⟨trivial,by omega⟩,if_pos (show isCmp (u :: v)=true by simpa [isCmp] using h3)]
      .rw[if_neg h3,if_neg (show ¬isCmp (u :: v)=true by simpa [isCmp] using h3)]
    .rfl
   .rw[if_neg hl,if_neg hl];simp only[F4];rw[if_neg (show ¬isCmp (t :: r)=true by simpa [isCmp] using hl)]
 .rfl
theorem Ng{n:Nat}{q:P Ex}(hn:n≠3){c:Nat}{acc:Ex}{l:List Tok}(h:isCmp l=true)(hf:0<f):chain n q f c acc l=.inl (acc,l):=by
 obtain⟨t,r,rfl,h3⟩:=F5 h
 match f,hf with
 | f+1,_=>simp only[chain];rw[if_neg (by omega)]
theorem Q3{n:Nat}{q q':P Ex}(hn:n≠3)(a4:0<n)(hq:Ok q')(a0:GE q q'):∀(f c:Nat) (acc:Ex) (l:List Tok),Good l->l.length<f->isCmp l=false->chain n q f c acc l=F4 (chain n q' f c acc l)
 | 0,_,_,_,_,h,_=>by omega
 | f+1,c,acc,[],hg,h,_=>by exact absurd hg (by simp[Good])
 | f+1,c,acc,t :: r,hg,h,hc=>by
  simp only[chain];by_cases hl:(levelOf t).1=n
  .rw[if_pos hl,if_pos hl,if_neg (by omega),if_neg (by omega)];have hk:=level_kind (t:=t) (by omega);have a3:=hg.tail (by omega);rw[a0 r a3];rcases h2:q' r with⟨x,l1⟩ | e
   .have a2:=(hq r a3).ok x l1 h2;have a5:=a2.less;simp only[length_cons] at h;rcases hc1:isCmp l1 with _ | _
    .simp only[F4,hc1,bind,Bool.false_eq_true,if_false];exact Q3 hn a4 hq a0 f (c+1) _ l1 a2.good (by omega) hc1
    .simp only[bind];rw[Ng hn hc1 (by omega)];simp only[F4,hc1,if_true];rfl
   .rfl
  .rw[if_neg hl,if_neg hl];simp only[F4,hc,Bool.false_eq_true,if_false]
theorem Q4{n:Nat}{q q':P Ex}(hn:n≠3)(a3:0<n)(hq:Ok q')(a0:GE q q'):GE (level n q) (level n q'):=by
 intro l hg;unfold level;rw[a0 l hg];rcases h2:q' l with⟨x,l1⟩ | e
 .have a2:=(hq l hg).ok x l1 h2;rcases hc1:isCmp l1 with _ | _
  .simp only[F4,hc1,bind,Bool.false_eq_true,if_false];exact Q3 hn a3 hq a0 _ _ _ l1 a2.good (by omega) hc1
  .simp only[bind];rw[Ng hn hc1 (by omega)];simp only[F4,hc1,if_true];rfl
 .rfl
theorem At2{q:P Ex}(hq:Ok q):GE (lvl q) (lvl' q):=by
 have h5:=level_ok hq (n:=5) (by decide);have h4:=level_ok h5 (n:=4) (by decide);have h3:=cmp_ok h4;have g3:=Xu h4;have h2:=level_ok h3 (n:=2) (by decide);exact Q4 (by decide) (by decide) h2 (Q4 (by decide) (by decide) h3 g3)
theorem Es(k:Nat):GE (Mq k) (expr' k):=At2 (unary_ok k)
theorem then_need{β:Type}{e e':P Ex}(a0:GE e e'){l:List Tok}(hg:Good l){x:B}(hx:(levelOf (⟨4,x,0,0⟩:Tok)).1≠3)(f:Ex->Unit->List Tok->R β) :
  (bind (e l) λ a l1=>bind (need x l1) λ u l2=>f a u l2)=bind (e' l) λ a l1=>bind (need x l1) λ u l2=>f a u l2:=by
 rw[a0 l hg];exact Hn (λ a l1 _ hc=>by rw[K3 hx hc];rfl) (λ _ _ _ _=>rfl)
theorem bind_congr{α β:Type}{r:R α}{f g:α->List Tok->R β}(h:∀x l,r=.inl (x,l)->f x l=g x l):bind r f=bind r g:=by
 match r,h with
 | .inr e,_=>rfl
 | .inl (x,l),h=>exact h x l rfl
theorem Z1{e e':P Ex}(he:Ok e')(a0:GE e e'):∀(f:Nat) (acc:Ex) (l:List Tok),Good l->ats e f acc l=ats e' f acc l
 | 0,_,_,_=>rfl
 | f+1,acc,l,hg=>by
  simp only[ats];split
  .rename_i hs;have a:=sees4 hs hg;rw[then_need a0 a.good (by decide)];exact bind_congr λ x l1 h1=>bind_congr λ u l2 h2=>Z1 he a0 f _ l2 (((need_res ((he _ a.good).ok x l1 h1).good).ok u l2 h2).good)
  .rfl
theorem Q5{e e':P Ex}(he:Ok e')(a0:GE e e'):∀(f n:Nat) (acc:List Ex) (l:List Tok),Good l->l.length<f->items e f n acc l=items e' f n acc l
 | 0,_,_,_,_,h=>by omega
 | f+1,n,acc,l,hg,h=>by
  simp only[items];split
  .rfl
  .refine bind_congr λ u l1 h1=>?_
   have a1:=(sep_res hg).ok u l1 h1;rw[a0 l1 a1.good];refine Hn (λ x l2 h2 hc=>?_) (λ x l2 h2 hc=>?_)
   .have a2:=(he l1 a1.good).ok x l2 h2;have:=a1.less;have:=a2.less
    match f,(show 0<f by omega) with
    | f+1,_=>
     simp only[items];rw[if_neg (by rw[Z0 (by decide) hc];simp),sep,if_neg (by omega),K3 (by decide) hc];rfl
   .have a2:=(he l1 a1.good).ok x l2 h2;have:=a1.less;have:=a2.less;exact Q5 he a0 f (n+1) _ l2 a2.good (by omega)
theorem Tv{e e':P Ex}(he:Ok e')(a0:GE e e'){l:List Tok}(hg:Good l):primary e l=primary e' l:=by
 match l,hg with
 | t :: r,hg=>
  simp only[primary];split
  .rfl
  split
  .rfl
  split
  .rfl
  split
  .rfl
  split
  .rename_i h;have a:=sees4 h hg;exact then_need a0 a.good (by decide) _
  .refine bind_congr λ t1 l1 h1=>?_
   have a1:=(name_res hg).ok t1 l1 h1;split
   .rename_i h;have a:=sees4 h a1.good;rw[Q5 he a0 _ _ _ _ a.good (by have:=a.less;omega)]
   .rfl
theorem unary_as{k:Nat}{l:List Tok}(hg:Good l):unary (k+1) l =
  if sees 4 [45] l then bind (unary k l.tail) λ x l1=>.inl (.mk 13 0 0 [] [x] (place l),l1)
  else if sees 4 [33] l then bind (unary k l.tail) λ x l1=>.inl (.mk 14 0 0 [] [x] (place l),l1)
  else bind (primary (expr' k) l) λ x l1=>ats (expr' k) (l1.length+1) x l1:=by
 simp only[unary];split
 .rfl
 split
 .rfl
 .show (bind (primary (Mq k) l) λ x l1=>ats (Mq k) (l1.length+1) x l1)=_;rw[Tv (expr'_ok k) (Es k) hg];exact bind_congr λ x l1 h1=>Z1 (expr'_ok k) (Es k) _ _ _ ((Ku (expr'_ok k) l hg).ok x l1 h1).good
theorem expr'_zero(l:List Tok):expr' 0 l=fail 32 l:=rfl
theorem At3{e e':P Ex}(a0:GE e e'){l:List Tok}(hg:Good l):opt e l=opt e' l:=by
 unfold opt;split
 .rename_i h;exact then_need a0 (sees4 h hg).good (by decide) _
 .rfl
theorem K4{β:Type}{k:Nat}{l:List Tok}(hg:Good l)(f:Ex->List St->List Tok->R β) :
  (bind (Mq k l) λ x l1=>bind (block k l1) λ b l2=>f x b l2)=bind (expr' k l) λ x l1=>bind (block k l1) λ b l2=>f x b l2:=by
 rw[Es k l hg];refine Hn (λ a l1 h1 hc=>?_) (λ _ _ _ _=>rfl)
 match k,h1 with
 | 0,h1=>rw[expr'_zero] at h1;simp[fail] at h1
 | k+1,h1=>simp only[block];rw[K3 (by decide) hc];rfl
theorem Al8{k:Nat}{l:List Tok}(hg:Good l):stmt (Mq k) (block k) l=stmt (expr' k) (block k) l:=by
 unfold stmt;split
 .rename_i h;have a:=sees1 h hg;exact bind_congr λ t l1 h1=>bind_congr λ u l2 h2=>then_need (Es k) (((need_res ((name_res a.good).ok t l1 h1).good).ok u l2 h2).good) (by decide) _
 split
 .rename_i h;have a:=sees1 h hg;refine bind_congr λ t l1 h1=>?_
  have a1:=(name_res a.good).ok t l1 h1;rw[At3 (Es k) a1.good];refine bind_congr λ xs l2 h2=>bind_congr λ u l3 h3=>?_
  have a2:=(Vo (expr'_ok k) a1.good).ok xs l2 h2;exact then_need (Es k) (((need_res a2.good).ok u l3 h3).good) (by decide) _
 split
 .rename_i h;have a:=sees1 h hg;exact bind_congr λ t l1 h1=>bind_congr λ u l2 h2=>then_need (Es k) (((need_res ((name_res a.good).ok t l1 h1).good).ok u l2 h2).good) (by decide) _
 split
 .rename_i h;have a:=sees1 h hg;exact K4 a.good _
 split
 .rename_i h;have a:=sees1 h hg;exact bind_congr λ t l1 h1=>bind_congr λ u l2 h2=>K4 (((Gq ((name_res a.good).ok t l1 h1).good (by decide)).ok u l2 h2).good) _
 split
 .rename_i h;have a:=sees1 h hg;exact then_need (Es k) a.good (by decide) _
 .rfl
theorem Jq{q q':P St}(hq:Ok q)(h:∀l,Good l->q l=q' l):∀(f:Nat) (acc:List St) (l:List Tok),Good l->stmts q f acc l=stmts q' f acc l
 | 0,_,_,_=>rfl
 | f+1,acc,l,hg=>by
  simp only[stmts];split
  .rfl
  .rw[<-h l hg];exact bind_congr λ s l1 h1=>Jq hq h f _ l1 ((hq l hg).ok s l1 h1).good
theorem block_as{k:Nat}{l:List Tok}(hg:Good l):block (k+1) l=bind (need [123] l) λ _ l1=>stmts (stmt (expr' k) (block k)) (l1.length+1) [] l1:=by
 simp only[block];exact bind_congr λ u l1 h1=>Jq (Oz (expr_ok k) (H7 k)) (λ l hg=>Al8 hg) _ _ _ ((need_res hg).ok u l1 h1).good
theorem stmt'_ok(k:Nat):Ok (stmt (expr' k) (block k)):=Oz (expr'_ok k) (H7 k)
end Px
end
section
open Go.RowKit
structure Fo(b n:Nat)(w w':World):Prop where
 os:w'.os=w.os
 tape:w'.tape=w.tape
 output:w'.output=w.output
 size:w<=w'.heap.size
 block:∀k,k<n->k≠b->w'.heap[k]?=w.heap[k]?
theorem Fo.refl(b n:Nat)(w:World):Fo b n w w:=⟨rfl,rfl,rfl,AD _,λ _ _ _=>rfl⟩
abbrev AT:=@Fo.refl
theorem Fo.trans{n:Nat}(h:Fo b n w w1)(k:Fo b n w1 w2):Fo b n w w2:=⟨k.os.trans h.os,k.tape.trans h.tape,k.output.trans h.output,AP h.size k.size,λ j h1 h2=>(k.block j h1 h2).trans (h.block j h1 h2)⟩
theorem Fo.mono{n:Nat}(h:Fo b n w w')(hm:m<=n):Fo b m w w':=⟨h.os,h.tape,h.output,h.size,λ j h1 h2=>h.block j (by omega) h2⟩
theorem Fo.of_below{n:Nat}(h:Below n w w'):Fo b n w w':=⟨h.os,h.tape,h.output,h.size,λ k h1 _=>h.block k h1⟩
abbrev AU:=@Fo.of_below
theorem Fo.set{n:Nat}(j:Nat)(v:Value):Fo b n w (w.setCell ⟨b,j,none⟩ v):=⟨rfl,rfl,rfl,by simp[World.setCell],λ k _ h=>AG _ _ _ _ h⟩
theorem Fo.drew(b n:Nat)(w:World):Fo b n w w.drew:=⟨rfl,rfl,rfl,AD _,λ _ _ _=>rfl⟩
abbrev AV:=@Fo.drew
theorem Fo.fresh{n:Nat}(h:Fo b n w w')(hg:n<=g)(j:Nat)(v:Value):Fo b n w (w'.setCell ⟨g,j,none⟩ v):=
 ⟨h.os,h.tape,h.output,by simpa [World.setCell] using h.size,λ k h1 h2=>(AG _ _ _ _ (by show k≠g;omega)).trans (h.block k h1 h2)⟩
theorem Fo.alloc{n:Nat}(h:Fo b n w w')(hn:n<=w')(o:Obj):Fo b n w (w'.alloc o):=h.trans (AU ((AF _ _).alloc hn _))
theorem Fo.below{n:Nat}(h:Fo b n w w1)(k:Below w1 w1 w2)(hn:n<=w1):Fo b n w w2:=h.trans (AU (k.mono hn))
theorem Fo.call{n:Nat}(h:Fo b n w w1)(k:Fo b w1 w1 w2)(hn:n<=w1):Fo b n w w2:=h.trans (k.mono hn)
theorem Fo.cell{n:Nat}(h:Fo b n w w'){o:Nat}(hg:g<n)(hn:g≠b):w'.cell? ⟨g,o,none⟩=w.cell? ⟨g,o,none⟩:=World.cell?_of_block (w:=w) (h.block g hg hn)
theorem Fo.since(h:Fo b w w w')(hb:b<m):Since (From m) w w':=⟨h.size,λ k h1 h2=>h.block k h2 (by have:m<=k:=h1;omega)⟩
theorem Fo.sinceB{B:AS}(h:Fo b w w w')(hb:¬B b):Since B w w':=⟨h.size,λ k h1 h2=>h.block k h2 (λ e=>hb (e ▸ h1))⟩
abbrev w3(w:World)(g:Nat)(x0 x1 x2:Value):World:=((w.setCell g x0).setCell ⟨g,1,none⟩ x1).setCell ⟨g,2,none⟩ x2
theorem Fo.set3{n:Nat}(h:Fo b n w w')(hg:n<=g)(x0 x1 x2:Value):Fo b n w (w3 w' g x0 x1 x2):=(((h.fresh hg 0 x0).fresh hg 1 x1).fresh hg 2 x2)
theorem Ec{n:Nat}(h:Below n w w')(hg:n<=g)(x0 x1 x2:Value):Below n w (w3 w' g x0 x1 x2):=(((h.setCell (p:=⟨g,0,none⟩) hg x0).setCell (p:=⟨g,1,none⟩) hg x1).setCell (p:=⟨g,2,none⟩) hg x2)
theorem C9{k:Nat}(hk:k≠g)(x0 x1 x2:Value):(w3 w g x0 x1 x2).heap[k]?=w.heap[k]?:=by
 simp only[w3];rw[Below.heap_setCell _ _ _ _ hk,Below.heap_setCell _ _ _ _ hk,Below.heap_setCell _ _ _ _ hk]
theorem K6(h:w.heap[g]?=some (.cells #[y0,y1,y2] T (0,0)))(x0 x1 x2:Value):(w3 w g x0 x1 x2).heap[g]?=some (.cells #[x0,x1,x2] T (0,0)):=by
 simp[w3,World.setCell,Array.getElem?_modify,h]
theorem Gv(w:World)(g:Nat)(x0 x1 x2:Value):(w3 w g x0 x1 x2).heap.size=w.heap.size:=by simp[w3,World.setCell]
theorem Since.set3'{B:AS}(hg:¬B g)(x0 x1 x2:Value):Since B w (w3 w g x0 x1 x2):=⟨by rw[Gv];exact AD _,λ k h1 _=>C9 (λ e=>hg (by rw[<-e];exact h1)) x0 x1 x2⟩
theorem Ad(h:w.heap[g]?=some (.cells #[y0,y1,y2] T (0,0))):w.cell? g=y0/\w.cell? ⟨g,1,none⟩=y1/\w.cell? ⟨g,2,none⟩=y2/\w.frozen? g=false/\w.frozen? ⟨g,1,none⟩=false/\w.frozen? ⟨g,2,none⟩=false:=by
 refine⟨?_,?_,?_,?_,?_,?_⟩
 all_goals first | simp[World.cell?,h] | simp[World.frozen?,h]
abbrev w4(w:World)(g:Nat)(x0 x1 x2 x3:Value):World:=(((w.setCell g x0).setCell ⟨g,1,none⟩ x1).setCell ⟨g,2,none⟩ x2).setCell ⟨g,3,none⟩ x3
theorem Fo.set4{n:Nat}(h:Fo b n w w')(hg:n<=g)(x0 x1 x2 x3:Value):Fo b n w (w4 w' g x0 x1 x2 x3):=((((h.fresh hg 0 x0).fresh hg 1 x1).fresh hg 2 x2).fresh hg 3 x3)
theorem Q6{k:Nat}(hk:k≠g)(x0 x1 x2 x3:Value):(w4 w g x0 x1 x2 x3).heap[k]?=w.heap[k]?:=by
 simp only[w4];rw[Below.heap_setCell _ _ _ _ hk,Below.heap_setCell _ _ _ _ hk,Below.heap_setCell _ _ _ _ hk,Below.heap_setCell _ _ _ _ hk]
theorem Al9(w:World)(g:Nat)(x0 x1 x2 x3:Value):(w4 w g x0 x1 x2 x3).heap.size=w.heap.size:=by simp[w4,World.setCell]
theorem cells_of4(h:w.heap[g]?=some (.cells #[y0,y1,y2,y3] T (0,0))):w.cell? g=y0/\w.cell? ⟨g,1,none⟩=y1/\w.cell? ⟨g,2,none⟩=y2/\w.cell? ⟨g,3,none⟩=y3/\w.frozen? g=false/\w.frozen? ⟨g,1,none⟩=false/\w.frozen? ⟨g,2,none⟩=false/\w.frozen? ⟨g,3,none⟩=false:=by
 refine⟨?_,?_,?_,?_,?_,?_,?_,?_⟩
 all_goals first | simp[World.cell?,h] | simp[World.frozen?,h]
abbrev w7(w:World)(g:Nat)(x0 x1 x2 x3 x4 x5 x6:Value):World:=((((((w.setCell g x0).setCell ⟨g,1,none⟩ x1).setCell ⟨g,2,none⟩ x2).setCell ⟨g,3,none⟩ x3).setCell ⟨g,4,none⟩ x4).setCell ⟨g,5,none⟩ x5).setCell ⟨g,6,none⟩ x6
theorem Fo.set7{n:Nat}(h:Fo b n w w')(hg:n<=g)(x0 x1 x2 x3 x4 x5 x6:Value):Fo b n w (w7 w' g x0 x1 x2 x3 x4 x5 x6):=(((((((h.fresh hg 0 x0).fresh hg 1 x1).fresh hg 2 x2).fresh hg 3 x3).fresh hg 4 x4).fresh hg 5 x5).fresh hg 6 x6)
theorem K7{k:Nat}(hk:k≠g)(x0 x1 x2 x3 x4 x5 x6:Value):(w7 w g x0 x1 x2 x3 x4 x5 x6).heap[k]?=w.heap[k]?:=by
 simp only[w7];rw[Below.heap_setCell _ _ _ _ hk,Below.heap_setCell _ _ _ _ hk,Below.heap_setCell _ _ _ _ hk,Below.heap_setCell _ _ _ _ hk,Below.heap_setCell _ _ _ _ hk,Below.heap_setCell _ _ _ _ hk,Below.heap_setCell _ _ _ _ hk]
theorem V0(w:World)(g:Nat)(x0 x1 x2 x3 x4 x5 x6:Value):(w7 w g x0 x1 x2 x3 x4 x5 x6).heap.size=w.heap.size:=by simp[w7,World.setCell]
theorem Since.set7'{B:AS}(hg:¬B g)(x0 x1 x2 x3 x4 x5 x6:Value):Since B w (w7 w g x0 x1 x2 x3 x4 x5 x6):=⟨by rw[V0];exact AD _,λ k h1 _=>K7 (λ e=>hg (by rw[<-e];exact h1)) x0 x1 x2 x3 x4 x5 x6⟩
theorem Ba{y6:Value}(h:w.heap[g]?=some (.cells #[y0,y1,y2,y3,y4,y5,y6] T (0,0))):w.cell? g=y0/\w.cell? ⟨g,1,none⟩=y1/\w.cell? ⟨g,2,none⟩=y2/\w.cell? ⟨g,3,none⟩=y3/\w.cell? ⟨g,4,none⟩=y4/\w.cell? ⟨g,5,none⟩=y5/\w.cell? ⟨g,6,none⟩=y6/\w.frozen? g=false/\w.frozen? ⟨g,1,none⟩=false/\w.frozen? ⟨g,2,none⟩=false/\w.frozen? ⟨g,3,none⟩=false/\w.frozen? ⟨g,4,none⟩=false/\w.frozen? ⟨g,5,none⟩=false/\w.frozen? ⟨g,6,none⟩=false:=by
 refine⟨?_,?_,?_,?_,?_,?_,?_,?_,?_,?_,?_,?_,?_,?_⟩
 all_goals first | simp[World.cell?,h] | simp[World.frozen?,h]
abbrev w8(w:World)(g:Nat)(x0 x1 x2 x3 x4 x5 x6 x7:Value):World:=(((((((w.setCell g x0).setCell ⟨g,1,none⟩ x1).setCell ⟨g,2,none⟩ x2).setCell ⟨g,3,none⟩ x3).setCell ⟨g,4,none⟩ x4).setCell ⟨g,5,none⟩ x5).setCell ⟨g,6,none⟩ x6).setCell ⟨g,7,none⟩ x7
theorem Fo.set8{n:Nat}(h:Fo b n w w')(hg:n<=g)(x0 x1 x2 x3 x4 x5 x6 x7:Value):Fo b n w (w8 w' g x0 x1 x2 x3 x4 x5 x6 x7):=((((((((h.fresh hg 0 x0).fresh hg 1 x1).fresh hg 2 x2).fresh hg 3 x3).fresh hg 4 x4).fresh hg 5 x5).fresh hg 6 x6).fresh hg 7 x7)
theorem Ia{k:Nat}(hk:k≠g)(x0 x1 x2 x3 x4 x5 x6 x7:Value):(w8 w g x0 x1 x2 x3 x4 x5 x6 x7).heap[k]?=w.heap[k]?:=by
 simp only[w8];rw[Below.heap_setCell _ _ _ _ hk,Below.heap_setCell _ _ _ _ hk,Below.heap_setCell _ _ _ _ hk,Below.heap_setCell _ _ _ _ hk,Below.heap_setCell _ _ _ _ hk,Below.heap_setCell _ _ _ _ hk,Below.heap_setCell _ _ _ _ hk,Below.heap_setCell _ _ _ _ hk]
theorem At4{y6 y7:Value}(h:w.heap[g]?=some (.cells #[y0,y1,y2,y3,y4,y5,y6,y7] T (0,0)))(x0 x1 x2 x3 x4 x5 x6 x7:Value):(w8 w g x0 x1 x2 x3 x4 x5 x6 x7).heap[g]?=some (.cells #[x0,x1,x2,x3,x4,x5,x6,x7] T (0,0)):=by
 simp[w8,World.setCell,Array.getElem?_modify,h]
theorem O7(w:World)(g:Nat)(x0 x1 x2 x3 x4 x5 x6 x7:Value):(w8 w g x0 x1 x2 x3 x4 x5 x6 x7).heap.size=w.heap.size:=by simp[w8,World.setCell]
theorem Since.set8'{B:AS}(hg:¬B g)(x0 x1 x2 x3 x4 x5 x6 x7:Value):Since B w (w8 w g x0 x1 x2 x3 x4 x5 x6 x7):=⟨by rw[O7];exact AD _,λ k h1 _=>Ia (λ e=>hg (by rw[<-e];exact h1)) x0 x1 x2 x3 x4 x5 x6 x7⟩
theorem Ab{y6 y7:Value}(h:w.heap[g]?=some (.cells #[y0,y1,y2,y3,y4,y5,y6,y7] T (0,0))):w.cell? g=y0/\w.cell? ⟨g,1,none⟩=y1/\w.cell? ⟨g,2,none⟩=y2/\w.cell? ⟨g,3,none⟩=y3/\w.cell? ⟨g,4,none⟩=y4/\w.cell? ⟨g,5,none⟩=y5/\w.cell? ⟨g,6,none⟩=y6/\w.cell? ⟨g,7,none⟩=y7/\w.frozen? g=false/\w.frozen? ⟨g,1,none⟩=false/\w.frozen? ⟨g,2,none⟩=false/\w.frozen? ⟨g,3,none⟩=false/\w.frozen? ⟨g,4,none⟩=false/\w.frozen? ⟨g,5,none⟩=false/\w.frozen? ⟨g,6,none⟩=false/\w.frozen? ⟨g,7,none⟩=false:=by
 refine⟨?_,?_,?_,?_,?_,?_,?_,?_,?_,?_,?_,?_,?_,?_,?_,?_⟩
 all_goals first | simp[World.cell?,h] | simp[World.frozen?,h]
abbrev w9(w:World)(g:Nat)(x0 x1 x2 x3 x4 x5 x6 x7 x8:Value):World:=((((((((w.setCell g x0).setCell ⟨g,1,none⟩ x1).setCell ⟨g,2,none⟩ x2).setCell ⟨g,3,none⟩ x3).setCell ⟨g,4,none⟩ x4).setCell ⟨g,5,none⟩ x5).setCell ⟨g,6,none⟩ x6).setCell ⟨g,7,none⟩ x7).setCell ⟨g,8,none⟩ x8
theorem Fo.set9{n:Nat}(h:Fo b n w w')(hg:n<=g)(x0 x1 x2 x3 x4 x5 x6 x7 x8:Value):Fo b n w (w9 w' g x0 x1 x2 x3 x4 x5 x6 x7 x8):=(((((((((h.fresh hg 0 x0).fresh hg 1 x1).fresh hg 2 x2).fresh hg 3 x3).fresh hg 4 x4).fresh hg 5 x5).fresh hg 6 x6).fresh hg 7 x7).fresh hg 8 x8)
theorem K8{k:Nat}(hk:k≠g)(x0 x1 x2 x3 x4 x5 x6 x7 x8:Value):(w9 w g x0 x1 x2 x3 x4 x5 x6 x7 x8).heap[k]?=w.heap[k]?:=by
 simp only[w9];rw[Below.heap_setCell _ _ _ _ hk,Below.heap_setCell _ _ _ _ hk,Below.heap_setCell _ _ _ _ hk,Below.heap_setCell _ _ _ _ hk,Below.heap_setCell _ _ _ _ hk,Below.heap_setCell _ _ _ _ hk,Below.heap_setCell _ _ _ _ hk,Below.heap_setCell _ _ _ _ hk,Below.heap_setCell _ _ _ _ hk]
theorem V3(w:World)(g:Nat)(x0 x1 x2 x3 x4 x5 x6 x7 x8:Value):(w9 w g x0 x1 x2 x3 x4 x5 x6 x7 x8).heap.size=w.heap.size:=by simp[w9,World.setCell]
theorem Since.set9'{B:AS}(hg:¬B g)(x0 x1 x2 x3 x4 x5 x6 x7 x8:Value):Since B w (w9 w g x0 x1 x2 x3 x4 x5 x6 x7 x8):=⟨by rw[V3];exact AD _,λ k h1 _=>K8 (λ e=>hg (by rw[<-e];exact h1)) x0 x1 x2 x3 x4 x5 x6 x7 x8⟩
theorem Ae{y6 y7 y8:Value}(h:w.heap[g]?=some (.cells #[y0,y1,y2,y3,y4,y5,y6,y7,y8] T (0,0))):w.cell? g=y0/\w.cell? ⟨g,1,none⟩=y1/\w.cell? ⟨g,2,none⟩=y2/\w.cell? ⟨g,3,none⟩=y3/\w.cell? ⟨g,4,none⟩=y4/\w.cell? ⟨g,5,none⟩=y5/\w.cell? ⟨g,6,none⟩=y6/\w.cell? ⟨g,7,none⟩=y7/\w.cell? ⟨g,8,none⟩=y8/\w.frozen? g=false/\w.frozen? ⟨g,1,none⟩=false/\w.frozen? ⟨g,2,none⟩=false/\w.frozen? ⟨g,3,none⟩=false/\w.frozen? ⟨g,4,none⟩=false/\w.frozen? ⟨g,5,none⟩=false/\w.frozen? ⟨g,6,none⟩=false/\w.frozen? ⟨g,7,none⟩=false/\w.frozen? ⟨g,8,none⟩=false:=by
 refine⟨?_,?_,?_,?_,?_,?_,?_,?_,?_,?_,?_,?_,?_,?_,?_,?_,?_,?_⟩
 all_goals first | simp[World.cell?,h] | simp[World.frozen?,h]
def Ay4(w:World)(ga o:Nat)(l:List Lx.Tok):Prop:=∀(k:Nat) (t:Lx.Tok),l[k]?=t->w.cell? ⟨ga,o+k*4,none⟩=iv t.kind/\w.cell? ⟨ga,o+k*4+1,none⟩=some (.string ⟨t.text.toArray⟩)/\w.cell? ⟨ga,o+k*4+2,none⟩=iv t.num/\w.cell? ⟨ga,o+k*4+3,none⟩=iv t.place
structure Ps(b ga:Nat)(l:List Lx.Tok)(w:World):Prop where
 good:Px.Good l
 tidy:∀t∈l,Xt t
 mem:∃o c,w.heap[b]?=some (.cells #[sL ga o l.length c] 55 (0,0))/\l.length<=c/\c<=maxLen/\Ay4 w ga o l
 gl:ga<w
 ne:ga≠b
 few:l.length<=4096
theorem Ps.there{l:List Lx.Tok}(h:Ps b ga l w):b<w:=by
 obtain⟨o,c,hb,_⟩:=h.mem;exact (AB hb).1
theorem Ps.head{l:List Lx.Tok}(h:Ps b ga l w):∃t r,l=t :: r/\Xt t:=by
 match l,h.good,h.tidy with
 | t :: r,_,ht=>exact⟨t,r,rfl,ht t (by simp)⟩
theorem Ps.keep{l:List Lx.Tok}(h:Ps b ga l w)(hb:w'.heap[b]?=w.heap[b]?)(hg:w'.heap[ga]?=w.heap[ga]?)(hs:w<=w'.heap.size):Ps b ga l w':=by
 obtain⟨o,c,h1,h2,h3,h4⟩:=h.mem;refine⟨h.good,h.tidy,⟨o,c,hb.trans h1,h2,h3,λ k t hk=>?_⟩,AL h.gl hs,h.ne,h.few⟩;have hc:∀j,w'.cell? ⟨ga,j,none⟩=w.cell? ⟨ga,j,none⟩:=λ j=>World.cell?_of_block (w:=w) hg
 rw[hc,hc,hc,hc];exact h4 k t hk
theorem Ps.below{l:List Lx.Tok}(h:Ps b ga l w)(f:Below w w w'):Ps b ga l w':=h.keep (f.block b h.there) (f.block ga h.gl) f.size
theorem Ps.other{l:List Lx.Tok}(h:Ps b ga l w)(j:Nat)(v:Value)(h1:g≠b)(h2:g≠ga):Ps b ga l (w.setCell ⟨g,j,none⟩ v):=
 h.keep (AG _ _ _ _ (λ e=>h1 e.symm)) (AG _ _ _ _ (λ e=>h2 e.symm)) (by simp[World.setCell])
theorem Ps.alloc{l:List Lx.Tok}(h:Ps b ga l w)(o:Obj):Ps b ga l (w.alloc o):=h.below ((AF _ _).alloc (AD _) _)
theorem Ps.cells{t:Lx.Tok}{r:List Lx.Tok}(h:Ps b ga (t :: r) w):∃o c,w.cell? b=sL ga o (r.length+1) c/\r.length+1<=c/\c<=maxLen/\w.frozen? b=false /\
  w.cell? ⟨ga,o,none⟩=iv t.kind/\w.cell? ⟨ga,o+1,none⟩=some (.string ⟨t.text.toArray⟩)/\w.cell? ⟨ga,o+2,none⟩=iv t.num/\w.cell? ⟨ga,o+3,none⟩=iv t.place /\
  (t.kind≠5->∀w',w'.heap[b]?=some (.cells #[sL ga (o+4) r.length (c - 1)] 55 (0,0))->Fo b w w w'->Ps b ga r w'):=by
 obtain⟨o,c,h1,h2,h3,h4⟩:=h.mem;have h0:=h4 0 t rfl;simp only[Nat.zero_mul,Nat.add_zero] at h0;refine⟨o,c,by simp[World.cell?,h1],by simpa using h2,h3,by simp[World.frozen?,h1],h0.1,h0.2.1,h0.2.2.1,h0.2.2.2,?_⟩;intro hk w' hb hf;have a0:=h.few;simp only[length_cons] at a0 h2;refine⟨h.good.tail hk,λ u hu=>h.tidy u (by simp[hu]),⟨o+4,c - 1,hb,by omega,by omega,λ k u hu=>?_⟩,AL h.gl hf.size,h.ne,by omega⟩;have:=h4 (k+1) u (by simpa using hu);have hc:∀j,w'.cell? ⟨ga,j,none⟩=w.cell? ⟨ga,j,none⟩:=λ j=>hf.cell h.gl h.ne
 rw[hc,hc,hc,hc];rw[show o+4+k*4=o+(k+1)*4 by omega];exact this
theorem Ps.set3{l:List Lx.Tok}(h:Ps b ga l w)(h1:g≠b)(h2:g≠ga)(x0 x1 x2:Value):Ps b ga l (w3 w g x0 x1 x2):=h.keep (C9 (λ e=>h1 e.symm) x0 x1 x2) (C9 (λ e=>h2 e.symm) x0 x1 x2) (by rw[Gv];exact AD _)
theorem Ps.set4{l:List Lx.Tok}(h:Ps b ga l w)(h1:g≠b)(h2:g≠ga)(x0 x1 x2 x3:Value):Ps b ga l (w4 w g x0 x1 x2 x3):=h.keep (Q6 (λ e=>h1 e.symm) x0 x1 x2 x3) (Q6 (λ e=>h2 e.symm) x0 x1 x2 x3) (by rw[Al9];exact AD _)
theorem Ps.set7{l:List Lx.Tok}(h:Ps b ga l w)(h1:g≠b)(h2:g≠ga)(x0 x1 x2 x3 x4 x5 x6:Value):Ps b ga l (w7 w g x0 x1 x2 x3 x4 x5 x6):=h.keep (K7 (λ e=>h1 e.symm) x0 x1 x2 x3 x4 x5 x6) (K7 (λ e=>h2 e.symm) x0 x1 x2 x3 x4 x5 x6) (by rw[V0];exact AD _)
theorem Ps.set8{l:List Lx.Tok}(h:Ps b ga l w)(h1:g≠b)(h2:g≠ga)(x0 x1 x2 x3 x4 x5 x6 x7:Value):Ps b ga l (w8 w g x0 x1 x2 x3 x4 x5 x6 x7):=h.keep (Ia (λ e=>h1 e.symm) x0 x1 x2 x3 x4 x5 x6 x7) (Ia (λ e=>h2 e.symm) x0 x1 x2 x3 x4 x5 x6 x7) (by rw[O7];exact AD _)
theorem Ps.set9{l:List Lx.Tok}(h:Ps b ga l w)(h1:g≠b)(h2:g≠ga)(x0 x1 x2 x3 x4 x5 x6 x7 x8:Value):Ps b ga l (w9 w g x0 x1 x2 x3 x4 x5 x6 x7 x8):=h.keep (K8 (λ e=>h1 e.symm) x0 x1 x2 x3 x4 x5 x6 x7 x8) (K8 (λ e=>h2 e.symm) x0 x1 x2 x3 x4 x5 x6 x7 x8) (by rw[V3];exact AD _)
theorem heap_new(w:World)(o:Obj):(w.alloc o).heap[w.heap.size]?=o:=by
 show (w.heap.push _)[w.heap.size]?=_;rw[Array.getElem?_push,if_pos rfl]
def Bj(a e:Nat):List PanicEntry:=[{ v:=.iface 88 (.agg #[iv a,iv e]),recovered:=false }]
def Ct(b ga:Nat){α:Type}(w:World)(r:Px.R α)(V:α->Value->World->Prop)(e:Ending)(w':World):Prop:=
 match r with
 | .inl (x,l')=>∃v,e=.returned v/\V x v w'/\Ps b ga l' w'/\Fo b w w w'
 | .inr (a,er)=>e=.panicked (Bj a er)/\Fo b w w w'
theorem Z2{a:AQ}(h:¬a=x):((⟨a.toArray⟩:ByteArray).toList == (⟨x.toArray⟩:ByteArray).toList)=false:=by
 rw[ByteArray.toList_eq,ByteArray.toList_eq];simp;exact h
theorem Z3(x:AQ):((⟨x.toArray⟩:ByteArray).toList == (⟨x.toArray⟩:ByteArray).toList)=true:=by simp
theorem Am0(x:Lx.B):cls x≠3:=by
 match x with
 | []=>decide
 | c :: _=>simp only[cls];(repeat' split);all_goals decide
theorem Am1{x:Lx.B}(h:x≠[]):cls x≠5:=by
 match x,h with
 | c :: _,_=>simp only[cls];(repeat' split);all_goals decide
theorem Cc{t:Lx.Tok}{r:List Lx.Tok}(h:Ps b ga (t :: r) w) :
  AA 43 #[pt b 0] w λ e w'=>e=.returned (.agg #[iv t.kind,.string ⟨t.text.toArray⟩,iv t.num,iv t.place])/\Below w w w':=by
 have hb:=h.there;have hg:=h.gl;have a0:=h.few;simp only[length_cons] at a0;obtain⟨o,c,c0,a4,a3,f0,x0,x1,x2,x3,_⟩:=h.cells;clear h;go_enter func43,ntmps43;go_wp2;refine bodyPost_ret (v:=Dw t.kind ⟨t.text.toArray⟩ t.num t.place) (by simp[results,results43,go_sem]) rfl ⟨rfl,?_⟩;exact (AF _ _).alloc (AD _) _
theorem Ko(k:Nat)(t:AQ)(ht:t.length<=9223372036854775807)(w:World):AA 218 #[iv k,strV t] w λ e w'=>e=.returned (.tuple #[strV (Ck.sig k t).1,strV (Ck.sig k t).2.1,.bool (Ck.sig k t).2.2])/\Below w w w':=by
 have hW:=Hv t ht;have hL:=Vv.list_any t ht;have hM:=Vv.map_any t ht;have e1:(t == [116,101,120,116])=(t == Ck.tText):=rfl;have e2:(t == [105,110,116])=(t == Ck.tInt):=rfl;unfold Ck.sig;generalize Vv.elT t=a at *;generalize Vv.mpT t=m at *;generalize Ck.within t=d at *;by_cases h8:k=8
 .rw[if_pos h8];have q1:((k:Int) == 8)=true:=by simp[h8]
  generalize (t == Ck.tText)=b1 at *;generalize (t == Ck.tInt)=b2 at *;clear h8 hL hM;obtain⟨d1,d2,d3⟩:=d;go_enter func218,ntmps218;go_wp2_with fail;refine (hW _).mono ?_;rintro e w1 ⟨rfl,a0⟩;clear hW;cases d3
  .go_wp2
   go_ret3
   exact⟨by cases b1 <;> rfl,a0⟩
  .go_wp2
   go_ret3
   exact⟨by cases b1 <;> rfl,a0⟩
 rw[if_neg h8];have q1:((k:Int) == 8)=false:=by simp;omega
 by_cases h9:k=9
 .rw[if_pos h9];have q2:((k:Int) == 9)=true:=by simp[h9]
  generalize (t == Ck.tText)=b1 at *;generalize (t == Ck.tInt)=b2 at *;clear h8 h9 hL hW;go_enter func218,ntmps218;go_wp2_with fail;refine (hM _).mono ?_;rintro e w1 ⟨rfl,a0⟩;clear hM;go_wp2
  go_ret3
  exact⟨rfl,a0⟩
 rw[if_neg h9];have q2:((k:Int) == 9)=false:=by simp;omega
 by_cases h10:k=10
 .rw[if_pos h10];have q3:((k:Int) == 10)=true:=by simp[h10]
  generalize (t == Ck.tText)=b1 at *;generalize (t == Ck.tInt)=b2 at *;clear h8 h9 h10 hM hW;go_enter func218,ntmps218;go_wp2_with fail;refine (hL _).mono ?_;rintro e w1 ⟨rfl,a0⟩;clear hL;go_wp2
  go_ret3
  exact⟨rfl,a0⟩
 rw[if_neg h10];have q3:((k:Int) == 10)=false:=by simp;omega
 generalize (t == Ck.tText)=b1 at *;generalize (t == Ck.tInt)=b2 at *;clear h8 h9 h10 hM hW hL;go_enter func218,ntmps218;go_wp2
 go_ret3
 exact⟨rfl,AF _ _⟩
theorem Ai3(o:Nat)(t:AQ)(w:World):AA 219 #[iv o,strV t] w λ e w'=>e=.returned (.tuple #[strV (Ck.operated o t).1,.bool (Ck.operated o t).2])/\w'=w:=by
 have e1:(t == [116,101,120,116])=(t == Ck.tText):=rfl;have e2:(t == [105,110,116])=(t == Ck.tInt):=rfl;have e3:(t == [98,111,111,108])=(t == Ck.tBool):=rfl;unfold Ck.operated;generalize (t == Ck.tText)=b1 at *;generalize (t == Ck.tInt)=b2 at *;generalize (t == Ck.tBool)=b3 at *;have a0:o=1\/o=2\/o=3\/o=4\/o=5\/o=6\/o=7\/o=8\/o=9\/(o≠1/\o≠2/\o≠3/\o≠4/\o≠5/\o≠6/\o≠7/\o≠8/\o≠9):=by omega
 rcases a0 with rfl | rfl | rfl | rfl | rfl | rfl | rfl | rfl | rfl | ⟨h1,h2,h3,h4,h5,h6,h7,h8,h9⟩
 iterate 9 (
  show AA 219 #[iv _,strV t] w _;cases b2 <;> (
  go_enter func219,ntmps219;go_wp2
  go_ret2
  exact⟨by cases b1 <;> rfl,rfl⟩))
 have q1:((o:Int) == 1)=false:=by simp;omega
 have q2:((o:Int) == 2)=false:=by simp;omega
 have q3:((o:Int) == 3)=false:=by simp;omega
 have q4:((o:Int) == 4)=false:=by simp;omega
 have q5:((o:Int) == 5)=false:=by simp;omega
 have q6:((o:Int) == 6)=false:=by simp;omega
 have q7:((o:Int) == 7)=false:=by simp;omega
 have q8:((o:Int) == 8)=false:=by simp;omega
 have q9:((o:Int) == 9)=false:=by simp;omega
 rw[if_neg (by omega),if_neg (by omega),if_neg (by omega),if_neg (by omega)];clear h1 h2 h3 h4 h5 h6 h7 h8 h9;go_enter func219,ntmps219;go_wp2
 go_ret2
 exact⟨rfl,rfl⟩
end
section
open Go.RowKit
open Ck (CE CS CF CP Mng)
theorem Yu{P:Program}{a3:Array Oper}{Q:Exit->Act->World->Prop}{md:Region.Mode}{S:World->Prop}{N:Nat->Bool}{oi:Oper}{a0:Array Bool}(d:Option Tmp)(W:Nat->Bool)(hi:a3[i]?=oi)(hd:oi.dst=d)(hs:Region.noSelect a3=true)(hf:Region.free md a3 a0 i=true)(hr:(Region.ready md a3 a0).contains i=true)(hl:Vv.waitW md a3 N W a0 i=true)(a4:∀j,W j=true->j<a3.size)
  (hQ:∀c a w,Q (.panic c) (a.put oi.dst v) w->Q (.panic c) a w) (hw:Region.wanted oi (yielded a3 a.tmps)=true) (hy:∀w,S w->(execOp a.eval oi).run P w=.ok (.value v) w) (hS:S w) (h:Vv.wpE P md a3 Q S N f (a0.setIfInBounds i true) (a.put d v) w):Vv.wpE P md a3 Q S N (f+1) a0 a w:=Vv.wpE_takeW W hi hs hf hr hl a4 hQ hw hy hS (by rw[hd];exact h)
theorem Aa{P:Program}{a3:Array Oper}{Q:Exit->Act->World->Prop}{md:Region.Mode}{S:World->Prop}{N:Nat->Bool}{oi:Oper}{a0:Array Bool}{a':Act}(d:Tmp)(W:List Nat)(i:Nat)(v:Value)(hS:S w)(h:Vv.wpE P md a3 Q S N f (a0.setIfInBounds i true) a' w)(ha:a.put (some d) v=a':=by (try simp only[aP]) <;> exact rfl)(hi:a3[i]?=oi:=by rfl)(hd:oi.dst=d:=by rfl)(hy:∀w,S w->(execOp a.eval oi).run P w=.ok (.value v) w:=by intro w hS;(try dsimp only at hS);go_split_ands;go_simp)(hb:(Region.noSelect a3 && (Region.free md a3 a0 i && ((Region.ready md a3 a0).contains i && (Vv.waitW md a3 N (λ j=>W.contains j) a0 i && W.all (λ j=>decide (j<a3.size))))))=true:=by kernel_rfl)(hw:Region.wanted oi (yielded a3 a.tmps)=true:=by first | rfl | kernel_rfl)(hQ:∀c a w,Q (.panic c) (a.put oi.dst v) w->Q (.panic c) a w:=by exact λ _ _ _ h=>h):Vv.wpE P md a3 Q S N (f+1) a0 a w:=by
 subst ha;obtain⟨hs,hb⟩:=Bool.and_eq_true_iff.1 hb;obtain⟨hf,hb⟩:=Bool.and_eq_true_iff.1 hb;obtain⟨hr,hb⟩:=Bool.and_eq_true_iff.1 hb;obtain⟨hl,a4⟩:=Bool.and_eq_true_iff.1 hb;exact Yu (some d) (λ j=>W.contains j) hi hd hs hf hr hl (λ j hj=>by have:=all_eq_true.1 a4 j (by simpa using hj);simpa using this) hQ hw hy hS h
theorem Ah{P:Program}{a3:Array Oper}{Q:Exit->Act->World->Prop}{md:Region.Mode}{S:World->Prop}{N:Nat->Bool}{oi:Oper}{a0:Array Bool}(i:Nat)(h:∀K:Act->World->Prop,(∀a' w',(N i=true->S w')->Vv.wpE P md a3 Q S N f (a0.setIfInBounds i true) a' w'->K a' w')->oi.wp P a w K Q)(hi:a3[i]?=oi:=by rfl)(hr:Region.ready md a3 a0=[i]:=by kernel_rfl)(hw:Region.wanted oi (yielded a3 a.tmps)=true:=by rfl):Vv.wpE P md a3 Q S N (f+1) a0 a w:=Vv.wpE_one hr hi hw h
theorem bcell{W:World}(hb:Below W W w1):(∀b o,b<W.heap.size->w1.cell? ⟨b,o,none⟩=W.cell? ⟨b,o,none⟩)/\(∀b o,b<W.heap.size->w1.frozen? ⟨b,o,none⟩=W.frozen? ⟨b,o,none⟩):=
 ⟨λ b o h=>hb.cell (p:=⟨b,o,none⟩) h,λ b o h=>hb.frozen (p:=⟨b,o,none⟩) h⟩
theorem Az(h:w.heap[g]?=some (.cells #[y0,y1,y2] T (0,0))):w.cell? g=y0/\w.cell? ⟨g,1,none⟩=y1/\w.cell? ⟨g,2,none⟩=y2/\w.frozen? g=false/\w.frozen? ⟨g,1,none⟩=false/\w.frozen? ⟨g,2,none⟩=false:=by
 refine⟨?_,?_,?_,?_,?_,?_⟩
 all_goals first | simp[World.cell?,h] | simp[World.frozen?,h]
theorem Bc(h:w.heap[g]?=some (.cells #[y0,y1,y2,y3,y4,y5] T (0,0))):w.cell? g=y0/\w.cell? ⟨g,1,none⟩=y1/\w.cell? ⟨g,2,none⟩=y2/\w.cell? ⟨g,3,none⟩=y3/\w.cell? ⟨g,4,none⟩=y4/\w.cell? ⟨g,5,none⟩=y5/\w.frozen? g=false/\w.frozen? ⟨g,1,none⟩=false/\w.frozen? ⟨g,2,none⟩=false/\w.frozen? ⟨g,3,none⟩=false/\w.frozen? ⟨g,4,none⟩=false/\w.frozen? ⟨g,5,none⟩=false:=by
 refine⟨?_,?_,?_,?_,?_,?_,?_,?_,?_,?_,?_,?_⟩
 all_goals first | simp[World.cell?,h] | simp[World.frozen?,h]
theorem Ac{y6 y7:Value}(h:w.heap[g]?=some (.cells #[y0,y1,y2,y3,y4,y5,y6,y7] T (0,0))):w.cell? g=y0/\w.cell? ⟨g,1,none⟩=y1/\w.cell? ⟨g,2,none⟩=y2/\w.cell? ⟨g,3,none⟩=y3/\w.cell? ⟨g,4,none⟩=y4/\w.cell? ⟨g,5,none⟩=y5/\w.cell? ⟨g,6,none⟩=y6/\w.cell? ⟨g,7,none⟩=y7/\w.frozen? g=false/\w.frozen? ⟨g,1,none⟩=false/\w.frozen? ⟨g,2,none⟩=false/\w.frozen? ⟨g,3,none⟩=false/\w.frozen? ⟨g,4,none⟩=false/\w.frozen? ⟨g,5,none⟩=false/\w.frozen? ⟨g,6,none⟩=false/\w.frozen? ⟨g,7,none⟩=false:=by
 refine⟨?_,?_,?_,?_,?_,?_,?_,?_,?_,?_,?_,?_,?_,?_,?_,?_⟩
 all_goals first | simp[World.cell?,h] | simp[World.frozen?,h]
abbrev Ol(w:World)(g:Nat)(x0 x1 x2:Value):World:=((w.setCell g x0).setCell ⟨g,1,none⟩ x1).setCell ⟨g,2,none⟩ x2
theorem U4(w:World)(g:Nat)(x0 x1 x2:Value):(Ol w g x0 x1 x2).heap.size=w.heap.size:=by simp[Ol,World.setCell]
theorem Su{n:Nat}(h:Below n w w')(hg:n<=g)(x0 x1 x2:Value):Below n w (Ol w' g x0 x1 x2):=(((h.setCell (p:=⟨g,0,none⟩) hg x0).setCell (p:=⟨g,1,none⟩) hg x1).setCell (p:=⟨g,2,none⟩) hg x2)
theorem Yv(h:w.heap[g]?=some (.cells #[y0,y1,y2] T (0,0)))(x0 x1 x2:Value):(Ol w g x0 x1 x2).heap[g]?=some (.cells #[x0,x1,x2] T (0,0)):=by
 simp[Ol,World.setCell,Array.getElem?_modify,h]
theorem U5(w:World)(x0 x1 x2:Value):∃wz w4,w.alloc (.cells #[iv 0,iv 0,sE] 125)=wz/\Ol wz w x0 x1 x2=w4/\Below w w w4/\w4=w.heap.size+1/\wz=w.heap.size+1/\Below w w wz/\w4.heap[w.heap.size]?=some (.cells #[x0,x1,x2] 125 (0,0))/\wz.heap[w.heap.size]?=some (.cells #[iv 0,iv 0,sE] 125 (0,0)):=by
 have hb:Below w w (w.alloc (.cells #[iv 0,iv 0,sE] 125)):=(AF _ _).alloc (AD _) _;refine⟨_,_,rfl,rfl,Su hb (AD _) _ _ _,by rw[U4];simp,by simp,hb,Yv (heap_new _ _) _ _ _,heap_new _ _⟩
abbrev setc8(w:World)(g:Nat)(x0 x1 x2 x3 x4 x5 x6 x7:Value):World:=(((((((w.setCell g x0).setCell ⟨g,1,none⟩ x1).setCell ⟨g,2,none⟩ x2).setCell ⟨g,3,none⟩ x3).setCell ⟨g,4,none⟩ x4).setCell ⟨g,5,none⟩ x5).setCell ⟨g,6,none⟩ x6).setCell ⟨g,7,none⟩ x7
theorem A4(w:World)(g:Nat)(x0 x1 x2 x3 x4 x5 x6 x7:Value):(setc8 w g x0 x1 x2 x3 x4 x5 x6 x7).heap.size=w.heap.size:=by simp[setc8,World.setCell]
theorem A3{k:Nat}(hk:k≠g)(x0 x1 x2 x3 x4 x5 x6 x7:Value):(setc8 w g x0 x1 x2 x3 x4 x5 x6 x7).heap[k]?=w.heap[k]?:=by
 simp only[setc8];rw[Below.heap_setCell _ _ _ _ hk,Below.heap_setCell _ _ _ _ hk,Below.heap_setCell _ _ _ _ hk,Below.heap_setCell _ _ _ _ hk,Below.heap_setCell _ _ _ _ hk,Below.heap_setCell _ _ _ _ hk,Below.heap_setCell _ _ _ _ hk,Below.heap_setCell _ _ _ _ hk]
theorem As{n:Nat}(h:Below n w w')(hg:n<=g)(x0 x1 x2 x3 x4 x5 x6 x7:Value):Below n w (setc8 w' g x0 x1 x2 x3 x4 x5 x6 x7):=((((((((h.setCell (p:=⟨g,0,none⟩) hg x0).setCell (p:=⟨g,1,none⟩) hg x1).setCell (p:=⟨g,2,none⟩) hg x2).setCell (p:=⟨g,3,none⟩) hg x3).setCell (p:=⟨g,4,none⟩) hg x4).setCell (p:=⟨g,5,none⟩) hg x5).setCell (p:=⟨g,6,none⟩) hg x6).setCell (p:=⟨g,7,none⟩) hg x7)
theorem Om{y6 y7:Value}(h:w.heap[g]?=some (.cells #[y0,y1,y2,y3,y4,y5,y6,y7] T (0,0)))(x0 x1 x2 x3 x4 x5 x6 x7:Value):(setc8 w g x0 x1 x2 x3 x4 x5 x6 x7).heap[g]?=some (.cells #[x0,x1,x2,x3,x4,x5,x6,x7] T (0,0)):=by
 simp[setc8,World.setCell,Array.getElem?_modify,h]
theorem Ca(w:World)(x0 x1 x2 x3 x4 x5 x6 x7:Value):∃wz w4,w.alloc (.cells #[iv 0,iv 0,iv 0,sE,iv 0,sE,sZ,iv 0] 48)=wz/\setc8 wz w x0 x1 x2 x3 x4 x5 x6 x7=w4/\Below w w w4/\w4=w.heap.size+1/\wz=w.heap.size+1/\Below w w wz/\w4.heap[w.heap.size]?=some (.cells #[x0,x1,x2,x3,x4,x5,x6,x7] 48 (0,0))/\wz.heap[w.heap.size]?=some (.cells #[iv 0,iv 0,iv 0,sE,iv 0,sE,sZ,iv 0] 48 (0,0)):=by
 have hb:Below w w (w.alloc (.cells #[iv 0,iv 0,iv 0,sE,iv 0,sE,sZ,iv 0] 48)):=(AF _ _).alloc (AD _) _;refine⟨_,_,rfl,rfl,As hb (AD _) _ _ _ _ _ _ _ _,by rw[A4];simp,by simp,hb,Om (heap_new _ _) _ _ _ _ _ _ _ _,heap_new _ _⟩
def PaT(w:World)(tys:List (List UInt8))(v:Value):Prop:=∃row,SlRow (λ _=>True) w 3 v tys.length row/\∀(i:Nat) t,tys[i]?=some t->row[i*3+1]?=strV t
def Yw(w:World)(hs:List Ck.Hd)(v:Value):Prop:=∃row,SlRow (λ _=>True) w 7 v hs.length row/\∀(i:Nat) h,hs[i]?=some h->∃(nm:ByteArray) (ps:Value) (la:Option Addr) (ln lc:Nat) (ba:Option Addr) (bn bc:Nat) (pl:Int),row[i*7]?=some (.string nm)/\row[i*7+1]?=some (.bool h.on)/\row[i*7+2]?=ps/\row[i*7+3]?=strV h.result/\row[i*7+4]?=some (.slice la ln lc)/\row[i*7+5]?=some (.slice ba bn bc)/\row[i*7+6]?=iv pl/\PaT w h.params ps
theorem PaT.since{a0:List (List UInt8)}(h:PaT w a0 v)(s:Since (λ _=>True) w w'):PaT w' a0 v:=by
 obtain⟨row,h1,h2⟩:=h;exact⟨row,h1.since s,h2⟩
theorem Yw.since{hs:List Ck.Hd}(h:Yw w hs v)(s:Since (λ _=>True) w w'):Yw w' hs v:=by
 obtain⟨row,h1,h2⟩:=h;refine⟨row,h1.since s,λ i h hi=>?_⟩;obtain⟨nm,ps,la,ln,lc,ba,bn,bc,pl,a1,a2,a3,a4,a5,a6,a7,a8⟩:=h2 i h hi;exact⟨nm,ps,la,ln,lc,ba,bn,bc,pl,a1,a2,a3,a4,a5,a6,a7,a8.since s⟩
structure CkAt(w:World)(b mb:Nat)(c:Ck.Cx):Prop where
 blk:∃v0 ss fs ls,w.heap[b]?=some (.cells #[v0,ss,fs,.map (some mb),iv c.number,ls] 62 (0,0))/\Yw w c.heads fs
 env:A9 w mb c.env
theorem A9.since{env:Ck.Env}(h:A9 w b env)(e:w'.heap[b]?=w.heap[b]?):A9 w' b env:=by
 obtain⟨es,cl,h1,h2⟩:=h;exact⟨es,cl,e.trans h1,h2⟩
theorem A9.lt{env:Ck.Env}(h:A9 w b env):b<w:=by
 obtain⟨es,cl,h1,h2⟩:=h;exact (AB h1).1
theorem CkAt.lt{c:Ck.Cx}(h:CkAt w b mb c):b<w:=by
 obtain⟨v0,ss,fs,ls,h1,_⟩:=h.blk;exact (AB h1).1
theorem CkAt.keep{c:Ck.Cx}(h:CkAt w b mb c)(hb:Below w w w'):CkAt w' b mb c:=by
 obtain⟨v0,ss,fs,ls,h1,h2⟩:=h.blk;exact⟨⟨v0,ss,fs,ls,(hb.block _ h.lt).trans h1,h2.since (Since.of_below hb)⟩,h.env.since (hb.block _ h.env.lt)⟩
def Af(w:World)(r:Ck.R CE)(e:Ending)(w':World):Prop:=
 (match r with
 | .inl (.mk k o n t s y args)=>∃sl row,e=.returned (.agg #[iv k,iv o,iv n,strV t,iv s,strV y,sl,iv 0])/\SlRow (From w) w' 8 sl args.length row/\Ar (From w) w' args row
 | .inr (a,er)=>e=.panicked (Ag a er))/\Below w w w'
theorem Af.of{r:Ck.R CE}{e:Ending}(h:Af w1 r e w')(hb:Below w w w1):Af w r e w':=by
 obtain⟨h1,h2⟩:=h;refine⟨?_,hb.trans (h2.mono hb.size)⟩;rcases r with⟨k,o,n,t,s,y,args⟩ | ⟨a,er⟩
 .obtain⟨sl,row,e1,e2,e3⟩:=h1;have hs:=hb.size;exact⟨sl,row,e1,e2.base' (λ k hk _=>AP hs hk),e3.base (λ k hk _=>AP hs hk)⟩
 .exact h1
theorem SlRow.nil8{B:AS}:SlRow B w 8 sZ 0 []:=⟨rfl,AI ⟨rfl,rfl⟩⟩
theorem Ar.nil{B:AS}:Ar B w [] []:=by rw[Ar]
end
end Go.Proofs.YtpckmjfabiallaaGreatDoor
