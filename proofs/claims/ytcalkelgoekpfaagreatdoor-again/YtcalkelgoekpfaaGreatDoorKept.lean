import Derived.WalkSpells
import Derived.WalkLawsBesides
import Derived.Lib.AppendZerosOnto
import Derived.Shelf.Spec.SlicesInsert
import Derived.RangeFuncNested
import Derived.RangeFuncBound
import Derived.Shelf.RegionOpen
import Derived.OwnWalkIn
import Derived.LoopNIn
import Derived.LoopIn
import Derived.Deep.RegionHeld3
import Derived.Test.YtcalkelgoekpfaaGreatDoorShelf
import Derived.Lib.ItoaMem
import Derived.Laws.EntriesVeiled
import Derived.Great.BuildSlice
set_option linter.unusedSimpArgs false
set_option linter.unusedVariables false
set_option linter.defProp false
set_option linter.unusedSectionVars false
set_option maxHeartbeats 0
set_option maxRecDepth 100000
namespace Go.Proofs.YtcalkelgoekpfaaGreatDoor
open Go.RowKit Tryz
open Below renaming heap_alloc→dc,heap_setCell→dE
open Value renaming func→fe,int→dv,ownBlock→dl,slice→cV,string→dQ
open Instr renaming checkKey→gg,findKey→gj,findNow→gA,keyThatStays→tS,lookup→fO,mapUpdate→ew,typeAssert→dH
open Result renaming andThen→da
open Region renaming Mode→gx,binds→du,ready→fB
open Exists renaming intro→eR
theorem D{b:Sort _}{a:b}:a=a:=rfl
open Option renaming some→H,none→F,isSome_iff_exists→dh,map_eq_some_iff→eM
open Bool renaming true→C,false→I
open List renaming length→ln,dropLast_eq_take→tl,dropWhile_sublist→lI,eraseIdx_eq_take_drop_succ→tO,getElem?_eq_some_iff→dG,getElem?_map→om,length_map→n7,map_drop→n9,map_map→lJ,map_reverse→tE,map_set→ob,map_take→nO,mem_append→dA,mem_cons→bZ,mem_filter→nU,mem_map→dW,mem_singleton→cC,range→et,replicate→kc,take_succ_eq_append_getElem→lF
open _root_.Array renaming size→zq,getElem?_eq_some_iff→dD,replicate→eY
open Go renaming undef→qu
def dF:=@Nat.le_refl
def gR:=@Nat.le_trans
def kQ:=@Nat.lt_of_lt_of_le
def K3:=@World.cell?_of_block
def fp:=@lt_of_block
def NC:=@List.eq_nil_of_length_eq_zero
def mY:=@World.ownsRow_nil
def di:=@if_neg
def dw:=@if_pos
def Vl:=@List.getElem?_take
def sY:=@run_underlying
def sx:=@decide_eq_true
def yx:=@decide_eq_false
def wK:=@wp_loop_rounds
def nP:=@rounds_succ
def uI:=@List.getElem_mem
def anW:=@lF
def sZ:=@info_parts
def IG:=@Nat.mul_one
def Ms:=@List.mem_of_mem_drop
def AQ:=@Array.getElem?_eq_getElem
def oX:=@List.append_assoc
def Pd:=@List.take_append_of_le_length
def ZL:=@List.take_take
def ZM:=@Nat.min_eq_left
def ZN:=@run_callFunc_extern
def zA:=@List.take_of_length_le
def Fw:=@List.drop_of_length_le
def yy:=@List.append_nil
def tA:=@List.nil_append
def ZO:=@run_copy_cells
def jS:=@Option.some.inj
def yz:=@Ne.symm
def qo:=@ownsRow_setCell_other
def gS:=@List.mem_cons_of_mem
def WL:=@tl
def sy:=@List.map_append
def ZP:=@nO
def sA:=@List.mem_of_getElem?
def W9:=@List.eq_nil_or_concat
def Pe:=@List.dropLast_concat
def mL:=@bodyPost_ret
def II:=@results_none
def td:=@World.putObj_heap_other
def wL:=@List.size_toArray
def uJ:=@List.length_cons
def uY:=@List.length_nil
def wM:=@Array.replicate_succ
def wN:=@Array.replicate_zero
def wO:=@List.push_toArray
def wP:=@List.append_toArray
def tf:=@List.cons_append
def qM:=@List.getElem?_eq_getElem
def IJ:=@List.take_add_one
def th:=@ByteArray.toList_eq
def zB:=@World.size_alloc
def mf:=@congrArg
def Vh:=@Array.size_setIfInBounds
def Mt:=@MapKept.run_getObj_map
def Xd:=@Array.getElem?_toList
def Ya:=@List.filter_eq_nil_iff
def fq:=@Bool.and_eq_true
def Vi:=@nU
def ZQ:=@Array.getD_eq_getD_getElem?
def js:=@List.mem_cons_self
def Ce:=@List.getD_eq_getElem?_getD
def ZR:=@List.getElem?_append_left
def Pf:=@List.all_eq_true
def Vj:=@List.mem_range
def Vk:=@Array.getElem?_eq_none
def xr:=@wp_region_any
def lz:=@wpOp_step
def zC:=@decide_eq_true_eq
def eZ:=@Nat.zero_le
def qp:=@Nat.lt_or_ge
def Fy:=@List.map_cons
def ZS:=@List.nodup_cons
def nQ:=@bZ
def nR:=@List.not_mem_nil
def od:=@or_false
def zD:=@Array.getElem?_setIfInBounds
def Cf:=@tE
def aji:=@lI
def ZT:=@Function.comp_def
def Fz:=@n7
def Pg:=@List.map_congr_left
def lX:=@Nat.le_of_eq
def Cg:=@if_true
def ZU:=@List.reverse_append
abbrev O:=ByteArray
abbrev J:=World
abbrev dB:=Value
abbrev iB:=List (ByteArray×ByteArray)
abbrev iU:=List (Option Nat)
abbrev fW:=Option Nat
abbrev io:=Array Value
@[simp,go_sem] abbrev iJ:ByteArray:=⟨#[]⟩
@[simp,go_sem] abbrev AW:ByteArray:=⟨#[10]⟩
@[simp,go_sem] abbrev oJ:ByteArray:=⟨#[100,100]⟩
@[simp,go_sem] abbrev gw:ByteArray:=⟨#[100,105,118]⟩
@[simp,go_sem] abbrev oK:ByteArray:=⟨#[100,116]⟩
@[simp,go_sem] abbrev fR:ByteArray:=⟨#[102,111,114,109]⟩
@[simp,go_sem] abbrev aZ:ByteArray:=⟨#[104,101,97,100]⟩
@[simp,go_sem] abbrev jT:ByteArray:=⟨#[104,105,100,100,101,110]⟩
@[simp,go_sem] abbrev jU:ByteArray:=⟨#[104,114]⟩
@[simp,go_sem] abbrev aC:ByteArray:=⟨#[104,116,109,108]⟩
@[simp,go_sem] abbrev pg:ByteArray:=⟨#[104,49]⟩
@[simp,go_sem] abbrev ph:ByteArray:=⟨#[104,50]⟩
@[simp,go_sem] abbrev jt:ByteArray:=⟨#[105,109,103]⟩
@[simp,go_sem] abbrev ig:ByteArray:=⟨#[105,110,112,117,116]⟩
@[simp,go_sem] abbrev eN:ByteArray:=⟨#[108,105]⟩
@[simp,go_sem] abbrev dy:ByteArray:=⟨#[109,101,116,97]⟩
@[simp,go_sem] abbrev mj:ByteArray:=⟨#[110,111,116,105,110,59]⟩
@[simp,go_sem] abbrev lf:ByteArray:=⟨#[110,111,116,105,110,69,59]⟩
@[simp,go_sem] abbrev mn:ByteArray:=⟨#[110,111,116,110,105,59]⟩
@[simp,go_sem] abbrev fD:ByteArray:=⟨#[110,111,98,114]⟩
@[simp,go_sem] abbrev cD:ByteArray:=⟨#[111,112,116,103,114,111,117,112]⟩
@[simp,go_sem] abbrev dJ:ByteArray:=⟨#[111,112,116,105,111,110]⟩
@[simp,go_sem] abbrev dR:ByteArray:=⟨#[111,98,106,101,99,116]⟩
@[simp,go_sem] abbrev jV:ByteArray:=⟨#[112]⟩
@[simp,go_sem] abbrev tj:ByteArray:=⟨#[112,114,101]⟩
@[simp,go_sem] abbrev gm:ByteArray:=⟨#[115,101,108,101,99,116]⟩
@[simp,go_sem] abbrev aN:ByteArray:=⟨#[115,116,121,108,101]⟩
@[simp,go_sem] abbrev eQ:ByteArray:=⟨#[116,100]⟩
@[simp,go_sem] abbrev iM:ByteArray:=⟨#[116,101,120,116,97,114,101,97]⟩
@[simp,go_sem] abbrev cH:ByteArray:=⟨#[116,102,111,111,116]⟩
@[simp,go_sem] abbrev eS:ByteArray:=⟨#[116,104]⟩
@[simp,go_sem] abbrev cX:ByteArray:=⟨#[116,104,101,97,100]⟩
@[simp,go_sem] abbrev oL:ByteArray:=⟨#[116,105,109,101,115]⟩
@[simp,go_sem] abbrev lh:ByteArray:=⟨#[116,105,109,101,115,98,59]⟩
@[simp,go_sem] abbrev bO:ByteArray:=⟨#[116,105,116,108,101]⟩
@[simp,go_sem] abbrev dK:ByteArray:=⟨#[116,114]⟩
@[simp,go_sem] abbrev lY:ByteArray:=⟨#[116,121,112,101]⟩
@[simp,go_sem] abbrev aH:ByteArray:=⟨#[116,97,98,108,101]⟩
@[simp,go_sem] abbrev cO:ByteArray:=⟨#[116,98,111,100,121]⟩
@[simp,go_sem] abbrev iK:ByteArray:=⟨#[117,108]⟩
@[simp,go_sem] abbrev uh:ByteArray:=⟨#[194,160]⟩
@[simp,go_sem] abbrev oM:ByteArray:=⟨#[226,139,185,204,184]⟩
@[simp,go_sem] abbrev lN:ByteArray:=⟨#[32,9,10,12]⟩
@[simp,go_sem] abbrev fY:ByteArray:=⟨#[32,9,10,12,47,62]⟩
@[simp,go_sem] abbrev oN:ByteArray:=⟨#[32,9,10,12,47,62,61]⟩
@[simp,go_sem] abbrev ku:ByteArray:=⟨#[32,9,10,12,62]⟩
@[simp,go_sem] abbrev gy:ByteArray:=⟨#[33,100,111,99,116,121,112,101]⟩
@[simp,go_sem] abbrev uL:ByteArray:=⟨#[33,45,45]⟩
@[simp,go_sem] abbrev mg:ByteArray:=⟨#[34]⟩
@[simp,go_sem] abbrev uM:ByteArray:=⟨#[38]⟩
@[simp,go_sem] abbrev qH:ByteArray:=⟨#[38,103,116,59]⟩
@[simp,go_sem] abbrev ky:ByteArray:=⟨#[38,108,116,59]⟩
@[simp,go_sem] abbrev nS:ByteArray:=⟨#[38,110,98,115,112,59]⟩
@[simp,go_sem] abbrev mQ:ByteArray:=⟨#[38,113,117,111,116,59]⟩
@[simp,go_sem] abbrev tk:ByteArray:=⟨#[38,35]⟩
@[simp,go_sem] abbrev lB:ByteArray:=⟨#[38,97,109,112,59]⟩
@[simp,go_sem] abbrev sB:ByteArray:=⟨#[39]⟩
@[simp,go_sem] abbrev qq:ByteArray:=⟨#[45,45,62]⟩
@[simp,go_sem] abbrev wQ:ByteArray:=⟨#[45,62]⟩
@[simp,go_sem] abbrev oY:ByteArray:=⟨#[60]⟩
@[simp,go_sem] abbrev nT:ByteArray:=⟨#[60,33,45,45]⟩
@[simp,go_sem] abbrev fE:ByteArray:=⟨#[60,33,68,79,67,84,89,80,69,32]⟩
@[simp,go_sem] abbrev uN:ByteArray:=⟨#[60,47]⟩
@[simp,go_sem] abbrev IL:ByteArray:=⟨#[61]⟩
@[simp,go_sem] abbrev yA:ByteArray:=⟨#[61,34]⟩
@[simp,go_sem] abbrev eV:ByteArray:=⟨#[62]⟩
@[simp,go_sem] abbrev jX:ByteArray:=⟨#[78,101,119,76,105,110,101,59]⟩
@[simp,go_sem] abbrev xv:ByteArray:=⟨#[97]⟩
@[simp,go_sem] abbrev aO:ByteArray:=⟨#[98,111,100,121]⟩
@[simp,go_sem] abbrev iC:ByteArray:=⟨#[98,114]⟩
@[simp,go_sem] abbrev eu:ByteArray:=⟨#[98,117,116,116,111,110]⟩
@[simp,go_sem] abbrev eF:ByteArray:=⟨#[99,111,108]⟩
@[simp,go_sem] abbrev aV:ByteArray:=⟨#[99,111,108,103,114,111,117,112]⟩
@[simp,go_sem] abbrev li:ByteArray:=⟨#[99,111,112,121,115,114,59]⟩
@[simp,go_sem] abbrev cI:ByteArray:=⟨#[99,97,112,116,105,111,110]⟩
abbrev dq(b:Nat):Value:=.pointer (H ⟨b,0,F⟩)
abbrev gU(b k:Nat):Value:=.pointer (H ⟨b,k,F⟩)
abbrev G(n:Int):Value:=.int .i64 n
abbrev ff(v:Value):Ending:=.returned v
abbrev pG:Ending:=.returned (.tuple #[])
abbrev lO(b n c:Nat):Value:=.slice (H ⟨b,0,F⟩) n c
abbrev gq:Value:=.slice F 0 0
abbrev dr(c:Array Value)(t:TypeId):Obj:=.cells c t (0,0)
abbrev Y(s:ByteArray):Value:=.string s
section
variable {B c:io}{aD b bB bD R bm bs P g i j k pf:Nat}{K S:List Nat}{T:List TypeId}{W a cw cw' w Q w1:J}{X:Nat->Prop}{ao:Option Addr}{av kv u v v0 v1 v2 v3 v4 v5 v6 v7 v8 v9:dB}{cs:List dB}{f:Nat->Nat}{m pl:Nat×Nat}{p:O->Bool}{fH x y:fW}{t tB:TypeId}{xs zs:iU}{z:Array Bool}
abbrev IM(a:O->Option O):Prop:=∀x t,a x=H t->t.size<=16
abbrev dS:=Calls prog
theorem V{p:Prop}(h:p):Hid p:=h
structure Z(S:List Nat)(w w':J):Prop where
 os:w'.os=w.os
 tape:w'.tape=w.tape
 output:w'.output=w.output
 size:zq w.heap<=zq w'.heap
 block:∀k,k<zq w.heap->k∉S->w'.heap[k]?=w.heap[k]?
abbrev vc(w:J)(v:dB):Ending->J->Prop:=λe Q=>e=ff v/\Z [] w Q
abbrev JK(w:J)(v:dB):Ending->J->Prop:=λe Q=>e=ff v/\Q=w
theorem Z.refl(S:List Nat)(w:J):Z S w w:=⟨D,D,D,dF _,by grind⟩
theorem Z.trans{b c:J}(h:Z S a b)(k:Z S b c):Z S a c:=
 ⟨k.os.trans h.os,k.tape.trans h.tape,k.output.trans h.output,gR h.size k.size,λi d l=>(k.block i (kQ d h.size) l).trans (h.block i d l)⟩
theorem Z.mono{S':List Nat}(h:Z S w Q)(q:∀k,k∈S->k<zq w.heap->k∈S'):Z S' w Q:=
 ⟨h.os,h.tape,h.output,h.size,λk d n=>h.block k d (λl=>n (q k l d))⟩
theorem Z.next{S':List Nat}{b c:J}(h:Z S a b)(k:Z S' b c)(q:∀x∈S',x∈S\/zq a.heap<=x):Z S a c:=
 ⟨k.os.trans h.os,k.tape.trans h.tape,k.output.trans h.output,gR h.size k.size,λi d l=>(k.block i (kQ d h.size) (λn=>by grind)).trans (h.block i d l)⟩
def Z.drew(h:Z S a w):Z S a w.drew:=⟨h.os,h.tape,h.output,h.size,h.block⟩
theorem Z.drewN(h:Z S a w)(q:Nat):Z S a (w.drewN q):=⟨h.os,h.tape,h.output,h.size,h.block⟩
theorem Z.alloc(h:Z S a w)(o:Obj):Z S a (w.alloc o):=
 ⟨h.os,h.tape,h.output,gR h.size (by simp),λk d l=>(dc w o k (kQ d h.size)).trans (h.block k d l)⟩
theorem Z.setCell(h:Z S a w){p:Addr}(l:p.block∈S\/zq a.heap<=p.block)(u:dB):Z S a (w.setCell p u):=
 ⟨h.os,h.tape,h.output,by simpa using h.size,λk d n=>by grind[dE,block]⟩
theorem Z.grown{l:fW}(h:Z S a w)(d:w.grownBy Q l)(s:∀k,l=H k->k∈S\/zq a.heap<=k):Z S a Q:=
 ⟨d.os.trans h.os,d.tape.trans h.tape,d.output.trans h.output,gR h.size d.size,λk n q=>by exact(d.block k (kQ n h.size) (by grind)).trans (h.block k n q)⟩
theorem Z.below(h:Z S w Q){a:Nat}(d:a<=zq w.heap)(q:∀k∈S,a<=k):Below a w Q:=
 ⟨h.os,h.tape,h.output,h.size,λk l=>h.block k (kQ l d) (λn=>by grind)⟩
theorem Z.cell(h:Z S w Q){p:Addr}(d:p.block<zq w.heap)(l:p.block∉S):Q.cell? p=w.cell? p:=K3 (h.block _ d l)
theorem Z.at(h:Z S w Q){o:Obj}(d:w.heap[k]?=H o)(l:k∉S):Q.heap[k]?=H o:=
 (h.block k (fp d) l).trans d
theorem xQ{a:Nat}{n q:io}{d l:TypeId}{s A:Nat×Nat}(U:w.heap[a]?=H (.cells n d s))(hb:w.heap[b]?=H (.cells q l A))(h:d≠l):a≠b:=by grind
theorem aY(w:J)(o:Obj):(w.alloc o).heap[zq w.heap]?=H o:=by show(w.heap.push o)[zq w.heap]?=H o;simp
theorem Z.ownsRow(h:Z S w Q){e:TypeId}{d:Nat}{n:Nat}{a:List dB}(U:w.ownsRow R e d v n a)(X:∀k,v.ownBlock=H k->k∉S):Q.ownsRow R e d v n a:=by have⟨h1,q⟩:=U;refine⟨h1,?_⟩;rcases q with q|⟨g,P,l,rfl,s,A,b⟩;grind;exact .inr ⟨g,P,l,D,s,(h.at A (X g D)),b⟩
section
variable {aJ:Program}(w:J)
theorem gM{w:J}{a d:Nat}{e:TypeId}{l:Nat}{v:dB}{n:Nat}{b:List dB}(h:w.ownsRow a e l v n b)(A:d<=a):w.ownsRow d e l v n b:=by have⟨h1,s⟩:=h;refine⟨h1,?_⟩;rcases s with s|⟨g,P,q,rfl,U,c⟩;grind;exact .inr ⟨g,P,q,D,gR A U,c⟩
def zx(b:Nat)(t o e:TypeId)(i:TypeInfo)(z:dB)(d U:Nat)(x:aJ.underlying t=H (.slice e))(r:aJ.info? e=H i)(E:i.zero=H z)
  (s:i.size=d) (a3:i.bytes=U) (B:z.cells.size=d) (y:0<d)
  (v:dB) (n:Nat) (p:List dB) (l:w.ownsRow b e d v n p)
  (a:Addr) (m c:Nat) (h:List dB) (hl:ln h=m*d) (q:∀j u,h[j]?=H u->w.cell? (a.add j)=H u) (h1:∀u∈h,u.oneCell'=C)
  (a2:n+m<=maxLen) (A:(n+m)*U<=140737488355328) (a0:b<=zq w.heap):∃f Q,(Builtin.append_ #[t,t] o #[v,.slice (H a) m c]).run aJ w=.ok f Q/\Q.ownsRow b e d f (n+m) (p++h)/\w.grownBy Q v.ownBlock/\
   (f.ownBlock=v.ownBlock\/∀k,f.ownBlock=H k->zq w.heap<=k):=by
 rcases l.2 with⟨rfl,rfl⟩|⟨g,P,J,rfl,K,N,ab,L,M,G⟩;have F:=NC (by simpa using l.1);subst F;have⟨f,Q,hr,ho,hgr,_⟩:=run_append_own w _ t o e i z d _ x r E s a3 B y _ 0 [] (mY _ _ _ _) a m c h hl q h1 a2 A (dF _);exact⟨f,Q,hr,gM ho a0,hgr,.inr λk hk=>(ho.lt k hk).1⟩;by_cases a1:n+m<=P;have⟨Q,hr,ho,hgr⟩:=run_append_fits w b t o e i d x r s g n P p l a m c h hl q h1 a1;exact⟨_,Q,hr,ho,hgr,.inl D⟩;have⟨f,Q,hr,ho,hgr⟩:=run_append_arg_grows w t o e i z d _ x r E s a3 B y _ n P p l.1 (l.cells D) a m c h hl q (by omega) a2 A;exact⟨f,Q,hr,gM ho a0,(⟨hgr.os,hgr.tape,hgr.output,hgr.size,λk hk _=>hgr.block k hk (by simp)⟩),.inr λk hk=>(ho.lt k hk).1⟩
def fQ{p:Array Oper}{f:List Oper}{o:Oper}{a:Act}{B:Exit->Act->J->Prop}(O:o.guard=F)(s x:Operand)(t:TypeId)
  (K:o.op=.call {callee:=.builtin .append,args:=#[s,x],argTypes:=#[t,t]})
  (b:Nat) (e:TypeId) (i:TypeInfo) (z:dB) (d q:Nat) (L:aJ.underlying t=H (.slice e)) (I:aJ.info? e=H i) (N:i.zero=H z)
  (a1:i.size=d) (y:i.bytes=q) (E:z.cells.size=d) (D:0<d)
  (v:dB) (n:Nat) (r:List dB) (X:a.eval s=v) (a2:w.ownsRow b e d v n r)
  (ad:Addr) (m c:Nat) (l:List dB) (M:a.eval x=.slice (H ad) m c) (hl:ln l=m*d) (a0:∀j u,l[j]?=H u->w.cell? (ad.add j)=H u) (h1:∀u∈l,u.oneCell'=C)
  (a3:n+m<=maxLen) (A:(n+m)*q<=140737488355328) (U:b<=zq w.heap)
  (h:∀g Q,Q.ownsRow b e d g (n+m) (r++l)->w.grownBy Q v.ownBlock->(g.ownBlock=v.ownBlock\/∀k,g.ownBlock=H k->zq w.heap<=k)->wpList aJ p B f (a.put o.dst g) Q):wpList aJ p B (o::f) a w:=by
 refine wpList_plain O λ_ G=>?_;have⟨g,Q,hr,h2,h3,h4⟩:=zx w b t o.type e i z d _ L I N a1 y E D v n r a2 ad m c l hl a0 h1 a3 A U;unfold Oper.wp execOp;simp[K,resolve,invoke,builtin,X,M,hr];exact G _ _ (h g Q h2 h3 h4)
end
def ji(s:O):List dB:=s.data.toList.map λb=>dv .u8 b.toNat
def afU(s:O):ln (ji s)=s.size:=by simp[ji]
def MG(s t:O):ji (s++t)=ji s++ji t:=by simp[ji]
theorem VP(s:O):∀u∈ji s,u.oneCell'=C:=by intro u d;simp[ji]at d;obtain⟨b,_,rfl⟩:=d;rfl
def aF(h:w.heap[b]?=H (dr c t))(j:Nat):w.cell? ⟨b,j,F⟩=c[j]?:=by simp[World.cell?,h]
theorem cY(h:w.heap[b]?=H (dr c t))(j:Nat):w.frozen? ⟨b,j,F⟩=I:=by simp[World.frozen?,h]
theorem bH(h:w.heap[b]?=H (dr c t))(j:Nat)(u:dB):(w.setCell ⟨b,j,F⟩ u).heap[b]?=H (dr (c.setIfInBounds j u) t):=by simp[World.setCell];grind
theorem df{e:TypeId}{d:Nat}{n:Nat}{a:List dB}(l:w.ownsRow R e d v n a):∃ao P,v=.slice ao n P:=by
 rcases l.2 with⟨rfl,q⟩|⟨g,P,h,rfl,_⟩
 all_goals grind
theorem fC(g j:Nat):(⟨g,0,F⟩:Addr).add j=⟨g,j,F⟩:=by unfold Addr.add;grind
def ptr(x:fW):Option Addr:=x.map λk=>⟨k,0,F⟩
abbrev jl(x:fW):dB:=.pointer (ptr x)
def dT(a:iU)(n:Int):fW:=if 0<=n/\n<ln a then a.getD n.toNat F else F
structure vR(base b j:Nat)(tB:TypeId)(Co:io)(v:dB)(xs:iU)(w:J):Prop where
 dP:w.heap[b]?=H (dr Co tB)
 cell:Co[j]?=H v
 row:w.ownsRow base 68 1 v (ln xs) (xs.map jl)
 ne:tB≠68
 le:ln xs<=4096
theorem vR.at(h:vR R b j tB B v xs w):w.cell? ⟨b,j,F⟩=H v:=by rw[aF h.dP];exact h.cell
def aiQ(a b j:Nat)(g:TypeId)(f:io)(v:dB)(c:iU)(w:J)(h:vR a b j g f v c w):dS 263 #[gU b j] w λe Q=>e=ff (G (ln c))/\Q=w:=by
 have d:=h.at;obtain⟨ao,P,rfl⟩:=df h.row;clear h;go_enter func263,ntmps263;go_wp2;go_ret;simp
theorem KA(c b j:Nat)(i:TypeId)(f:io)(v:dB)(a:iU)(n:Int)(w:J)(h:vR c b j i f v a w):dS 242 #[gU b j,G n] w λe Q=>e=ff (jl (dT a n))/\Q=w:=by
 have c1:=h.at;have U:=h.le;by_cases o:n<0
 .obtain⟨ao,P,rfl⟩:=df h.row;have q:dT a n=F:=by unfold dT;rw[di (by omega)]
  rw[q];go_enter func242,ntmps242;go_wp2;go_ret;exact⟨D,D⟩
 by_cases h1:(ln a:Int)<=n
 .obtain⟨ao,P,rfl⟩:=df h.row;have q:dT a n=F:=by unfold dT;rw[di (by omega)]
  rw[q];go_enter func242,ntmps242;go_wp2;go_ret;exact⟨D,D⟩
 obtain⟨k,rfl⟩:∃k:Nat,n=k:=⟨n.toNat,by omega⟩;have A:k<ln a:=by omega
 have q:dT a k=a[k]:=by unfold dT;rw[dw (by omega)];simp[A]
 rw[q];rcases h.row.2 with⟨_,m⟩|⟨g,P,s,rfl,_,l,a0,_,_,d⟩;omega;have c2:w.cell? ⟨g,k,F⟩=H (jl a[k]):=by
  rw[aF l];have:(s.toList.take (ln a*1))[k]?=H (jl a[k]):=by rw[d];simp[A]
  rw[Vl]at this;split at this;grind;omega
 go_enter func242,ntmps242;go_wp2;go_ret;simp
def jf(a:iU)(x:fW):Int:=if a.idxOf x<ln a then (a.idxOf x:Int)else -1
def tm(w:J)(x:fW):Prop:=∀k,x=H k->∃c,w.heap[k]?=H (dr c 138)
def Ym:(prog.info? 138).map (·.size)=H 4:=by kernel_rfl
def Ki:prog.underlying 68=H (.pointer (prog.pointee 68)):=by kernel_rfl
theorem Cx(q:tm w x)(s:tm w y):(binOp .eql 68 (.pointer (ptr x)) (.pointer (ptr y))).run prog w=.ok (.bool (decide (x=y))) w:=by
 obtain⟨j,l,n⟩:=eM.1 Ym;cases x with
 |none=>
  cases y with
  |none=>exact run_eql_pointer_nil (P:=prog) w 68 F Ki
  |some b=>
   have h:∀d:Nat,(Op.equalIn (d+1) 68 (.pointer F) (dq b)).run prog w=.ok I w:=λd=>by simp[Op.equalIn,sY underlying68]
   show(binOp .eql 68 (.pointer F) (dq b)).run prog w=.ok (.bool I) w;simp only[binOp];simp[Op.equal,Op.maxDepth,h 9999]
 |some a=>
  cases y with
  |none=>exact run_eql_pointer_nil (P:=prog) w 68 (H ⟨a,0,F⟩) Ki
  |some b=>
   by_cases h:a=b;subst h;rw[sx D];exact run_eql_ptr_same (P:=prog) w (⟨a,0,F⟩:Addr) underlying68 l;have⟨ca,ha⟩:=q a D;have⟨cb,hb⟩:=s b D;rw[yx (by grind)];exact run_eql_ptr_other (P:=prog) w underlying68 l (by omega) (by simp) ha hb
def ajn(v:dB)(a:iU)(w:J):Prop:=((a=[]/\∃ao P,v=.slice ao 0 P)\/∃g P,v=lO g (ln a) P/\∀k,(hk:k<ln a)->w.cell? ⟨g,k,F⟩=H (jl a[k]))/\∀x∈a,tm w x
theorem agW(s:w.ownsRow R 68 1 v (ln xs) (xs.map jl))(n:∀x∈xs,tm w x):ajn v xs w:=by
 refine⟨?_,n⟩;rcases s.2 with⟨rfl,A⟩|⟨g,P,h,rfl,_,d,q,_,_,l⟩;grind;refine .inr ⟨g,P,D,λk U=>?_⟩;rw[aF d];have:(h.toList.take (ln xs*1))[k]?=H (jl xs[k]):=by grind
 grind
theorem FY(v:dB)(a:iU)(x:fW)(w:J)(h:ajn v a w)(s:tm w x)(U:ln a<=4096):dS 266 #[v,jl x] w λe Q=>e=ff (G (jf a x))/\Q=w:=by
 rcases h with⟨⟨rfl,ao,P,rfl⟩|⟨g,P,rfl,c⟩,o⟩
 .go_enter func266,ntmps266;go_wp2;refine wK 1 ?_;rw[nP];go_wp2;go_ret;simp[jf]
 .have m:=c;have t:=s;clear c s;have q:∀k,(A:k<ln a)->(binOp .eql 68 (.pointer (ptr x)) (.pointer (ptr a[k]))).run prog w=.ok (.bool (decide (x=a[k]))) w:=λk A=>Cx t (o _ (uI A));have r:=V q;clear q;go_enter func266,ntmps266;go_wp2
  go_loopw [8] (λi wr=>∃k:Nat,k<=ln a/\i=G k/\wr=w/\∀j,j<k->a[j]?≠H x) (λi _=> ln a-(intOf i).toNat)
  case atStart=>grind
  case round=>
   obtain⟨k,A,rfl,rfl,p⟩:=hrel;by_cases l:k<ln a
   .have c2:=m k l;have f:=r k l;by_cases n:x=a[k]
    .have b:=V ((by
      show jf a x=k;have h1:a.idxOf x=k:=by
       have l:=List.idxOf_lt_length_iff.2 (n.symm▸uI l);have a1:¬a.idxOf x<k:=λd=>p _ d (by grind);have U:¬k<a.idxOf x:=λd=>by have:=List.not_of_lt_findIdx (p:=(·==x)) (xs:=a) (i:=k) (by simpa [List.idxOf]using d);grind
       omega
      grind[jf]))
     rw[sx n]at f;clear n;go_wp2;go_ret;exact⟨by rw[b.out];rfl,rfl⟩
    .rw[yx n]at f;have a0:=n;clear n;go_wp2;go_roundw
     case rel=>
      refine⟨k+1,by omega,by go_num,by simp,λj u=>?_⟩;grind
     case measure=>simp[intOf];omega
   .have b:=V ((by show jf a x= -1;grind[jf]))
    go_wp2;go_ret;exact⟨by rw[b.out];rfl,rfl⟩
def gX:io->Nat->List dB->io
 |c,_,[]=>c
 |c,o,v::r=>gX (c.setIfInBounds o v) (o+1) r
theorem jb:∀(d:List dB)(c:io)(o:Nat),(gX c o d).size=c.size
 |[],_,_=>rfl
 |v::r,c,o=>by rw[gX,jb r];simp
theorem jP:∀(d:List dB)(c:io)(o:Nat),o+ln d<=c.size->(gX c o d).toList=c.toList.take o++d++c.toList.drop (o+ln d)
 |[],c,o,_=>by simp[gX]
 |v::r,c,o,h=>by rw[gX,jP r _ _ (by grind)];grind[lF,List.take_set_of_le,List.drop_set_of_lt]
theorem jK:∀(d:List dB)(w:J)(g:Nat)(c:io)(t:TypeId)(m:Nat×Nat)(o:Nat),w.heap[g]?=H (.cells c t m)->(w.setCells g o d).heap[g]?=H (.cells (gX c o d) t m)
 |[],_,_,_,_,_,_,h=>h
 |v::r,w,g,c,t,m,o,h=>by refine jK r _ g _ t m _ ?_;simp[World.setCell];grind
def Z.setCells(d:b∈S\/zq a.heap<=b):∀(l:List dB)(o:Nat){w:J},Z S a w->Z S a (w.setCells b o l)
 |[],_,_,h=>h
 |v::r,o,w,h=>by exact Z.setCells d r _ (h.setCell d v)
def ajm(T S a:Nat)(d:dB):Prop:=(T=68/\S=172/\a=267/\d=.pointer F)\/(T=140/\S=136/\a=380/\d=.nilIface)
def ajm.all{T S:Nat}{A:dB}(h:ajm T S aD A):(∃i,prog.info? T=H i/\i.size=1)/\prog.underlying S=H (.slice T)/\(∀w:J,(zeroValue T).run prog w=.ok A w)/\A.cells=#[A]/\A.oneCell'=C:=by rcases h with⟨rfl,rfl,rfl,rfl⟩|⟨rfl,rfl,rfl,rfl⟩;obtain⟨s,d,n,l,q⟩:=sZ (show(prog.info? 68).map (λi=>(i.zero,i.size,i.bytes))=H (H (.pointer F),1,8) by kernel_rfl);exact⟨⟨s,d,l⟩,underlying172,Tryz.zeroValue68,D,D⟩;obtain⟨s,d,n,l,q⟩:=sZ (show(prog.info? 140).map (λi=>(i.zero,i.size,i.bytes))=H (H (.nilIface),1,16) by kernel_rfl);exact⟨⟨s,d,l⟩,underlying136,Tryz.zeroValue140,D,D⟩
theorem ac1{T S:Nat}{f:dB}(K:ajm T S aD f)(g a i j n:Nat)(l:io)(w:J)(U:w.heap[g]?=H (dr l T))(al:n<=a)(N:l.size=a)(hi:i<j)(hj:j<=n)(ak:n<=1048576)
  (h1:∀u∈l.toList.take n,u.oneCell'=C):dS aD #[lO g n a,G i,G j] w λe Q=>e=ff (lO g (n-(j-i)) a)/\
   ∃a0,Q.heap[g]?=H (dr a0 T)/\a0.size=a/\a0.toList.take (n-(j-i))=(l.toList.take n).take i++(l.toList.take n).drop j/\Z [g] w Q:=by
 obtain⟨⟨bC,ab,ad⟩,b,ag,O,aJ⟩:=K.all;obtain⟨d,q⟩:∃d,d=(l.toList.take n).drop j:=⟨_,D⟩;have s:ln d=n-j:=by rw[q];simp;omega
 have o:∀t u,d[t]?=H u->l[j+t]?=H u:=by
  intro t u b;rw[q,List.getElem?_drop,Vl]at b;split at b
  simpa using b
  cases b
 obtain⟨A,hA,M⟩:∃A:Addr,(if a=j then H (⟨g,0,F⟩:Addr)else H ⟨g,j,F⟩)=H A/\Hid (∀t u,d[t]?=H u->w.drew.cell? (A.add t)=H u):=by
  by_cases h:a=j;refine⟨⟨g,0,F⟩,by simp[h],λt u b=>?_⟩;have aI:ln d=0:=by rw[s];omega
  rw[List.length_eq_zero_iff.1 aI]at b;simp at b
  .refine⟨⟨g,j,F⟩,by simp[h],λt u b=>?_⟩;rw[show(⟨g,j,F⟩:Addr).add t=⟨g,j+t,F⟩from by unfold Addr.add;split<;>simp_all];exact(aF U _).trans (o t u b)
 have W:Hid (ln d=(n-j)*1):=by rw[IG];exact s
 have X:Hid (∀u∈d,u.oneCell'=C):=λu b=>h1 u (Ms (q▸b));have Y:Hid (∀t,t<ln d->(w.drew.cell? ⟨g,0+i*1+t,F⟩).isSome=C/\w.drew.frozen? ⟨g,0+i*1+t,F⟩=I):=by intro t k;rw[s]at k;refine⟨?_,cY U _⟩;show(w.cell? _).isSome=C;rw[aF U,AQ (by omega)];rfl
 obtain⟨c,a2⟩:∃c,c=w.drew.setCells g (0+i*1) d:=⟨_,D⟩;have a1:c.heap[g]?=H (dr (gX l (0+i*1) d) T):=by rw[a2];exact jK d w.drew g l _ _ _ U
 have r:Z [g] w c:=by rw[a2];exact Z.setCells (.inl (by simp)) d _ (Z.refl _ _).drew
 have B:∀m,(Builtin.clear_ #[S] m #[.slice (H ⟨g,i+(n-j),F⟩) (n-(i+(n-j))) (a-(i+(n-j)))]).run prog c=.ok (.tuple #[]) (c.setCells g (i+(n-j)) (kc (n-(i+(n-j))) f)):=
  λm=>Lib.run_clear_slice c _ _ m _ b ag O aJ g (i+(n-j)) _ _ (by omega) (λt k=>by rw[aF a1,AQ (by rw[jb];omega)];rfl) (λt k=>cY a1 _)
 have p:=jK (kc (n-(i+(n-j))) f) c g _ _ _ (i+(n-j)) a1;have v:=Z.setCells (S:=[g]) (a:=w) (b:=g) (.inl (by simp)) (kc (n-(i+(n-j))) f) (i+(n-j)) r;have x:(gX l (0+i*1) d).toList=l.toList.take (0+i*1)++d++l.toList.drop (0+i*1+ln d):=jP _ _ _ (by rw[s];omega);have y:=jP (kc (n-(i+(n-j))) f) (gX l (0+i*1) d) (i+(n-j)) (by rw[jb];simp;omega);have a3:(gX (gX l (0+i*1) d) (i+(n-j)) (kc (n-(i+(n-j))) f)).toList.take (n-(j-i))=(l.toList.take n).take i++(l.toList.take n).drop j:=by
  rw[y,oX,Pd (by simp[jb];omega),x,s,q];rw[ZL,ZM (by omega)];have:((l.toList.take i++(l.toList.take n).drop j++l.toList.drop (i+(n-j))).take (n-(j-i)))=(l.toList.take n).take i++(l.toList.take n).drop j:=by grind[List.length_take]
  simpa using this
 have z:=V p;have E:=V v;have bI:=V a3;have L:=V a2;have P:i<=a:=by omega
 have R:j<=a:=by omega
 clear a1 r p v a3 a2 o q s U h1 x y;rcases K with⟨rfl,rfl,rfl,rfl⟩|⟨rfl,rfl,rfl,rfl⟩
 case' inl=>go_enter func267,ntmps267
 case' inr=>go_enter func380,ntmps380
 all_goals go_wp2_with fail
 all_goals go_region_law (refine step_append_room D (.tmp 22) (.tmp 25) _ D _ bC 1 b ab ad g 0 i a (by simp[Act.eval,Act.put]) A (n-j) (a-j) d (by simp[Act.eval,Act.put]) W.out M.out X.out (by omega) Y.out ?_;rw[<-L.out])
 all_goals go_wp2
 all_goals go_ret
 all_goals exact⟨by rw[show n-(j-i)=i+(n-j) by omega];rfl,_,z.out,by rw[jb,jb];exact N,bI.out,E.out⟩
def aj6:(prog.info? 68).map (λi=>(i.zero,i.size,i.bytes))=H (H (.pointer F),1,8):=by kernel_rfl
def IK(T S b a c:Nat)(z:dB):Prop:=(T=68/\S=172/\b=381/\a=383/\c=8/\z=.pointer F)\/(T=140/\S=136/\b=260/\a=313/\c=16/\z=.nilIface)
section
variable {T S aD OF bI:Nat}{z:dB}
def IK.d(K:IK T S aD OF bI z):(prog.info? T).map (λi=>(i.zero,i.size,i.bytes))=H (H z,1,bI)/\prog.underlying S=H (.slice T)/\(prog.info? T).map (·.size)=H 1/\(∀w,(sizeOf T).run prog w=.ok 1 w)/\∀a w,(callFunc OF a).run prog w=((Extern.SlicesOverlaps.overlaps #[S,S] #[4] a).run prog w).andThen λv Q=> .ok (.value v) Q:=by rcases K with⟨rfl,rfl,rfl,rfl,rfl,rfl⟩|⟨rfl,rfl,rfl,rfl,rfl,rfl⟩;exact⟨by kernel_rfl,underlying172,by kernel_rfl,Tryz.sizeOf68,ZN func383 (by kernel_rfl) (by kernel_rfl) (by kernel_rfl) (by kernel_rfl)⟩;exact⟨by kernel_rfl,underlying136,by kernel_rfl,Tryz.sizeOf140,ZN func313 (by kernel_rfl) (by kernel_rfl) (by kernel_rfl) (by kernel_rfl)⟩
def Jo(T a:Nat)(v:dB)(n i:Nat)(c:List dB)(u:dB)(w:J)(e:Ending)(b:J):Prop:=
 ∃d,e=ff d/\b.ownsRow a T 1 d (n+1) (c.take i++[u]++c.drop i)/\Z v.ownBlock.toList w b/\(d.ownBlock=v.ownBlock\/∀k,d.ownBlock=H k->zq w.heap<=k)
theorem aaW(K:IK T S aD OF bI z)(a n c:Nat)(v u:dB)(b:List dB)(w:J)(l:w.ownsRow a T 1 v n b)(o:w.heap[c]?=H (dr #[u] T))(E:u.oneCell'=C)(a3:n<=1048576)(hb:a<=zq w.heap):dS aD #[v,G n,lO c 1 1] w (Jo T a v n n b u w):=by
 obtain⟨p,m,A,U,a0⟩:=sZ K.d.1;have g:=K.d.2.1;obtain⟨ao,P,rfl⟩:=df l;have a2:ln b=n:=by have:=l.1;omega
 have i:=V o;clear o;rcases K with⟨rfl,rfl,rfl,rfl,rfl,rfl⟩|⟨rfl,rfl,rfl,rfl,rfl,rfl⟩
 all_goals
  by_cases a1:P=n;subst a1;have e:=V l;clear l
  first|go_enter func381,ntmps381|go_enter func260,ntmps260
  go_wp2_with (at_builtin;refine fQ _ D _ _ _ D a _ p _ 1 _ g m A U a0 D (by decide) (.slice ao P P) P b D e ⟨c,0,F⟩ 1 1 [u] D D (λj x s=>by rw[fC,aF i.out,<-s];simp) (λx s=>by grind) (by unfold maxLen;omega) (by omega) hb ?_;intro y w2 h d q);have f:=(Z.refl (cV ao P P).ownBlock.toList w).grown d (λk hk=> .inl (by grind))
  rotate_left
  have e:=V l;clear l
  first|go_enter func381,ntmps381|go_enter func260,ntmps260
  go_wp2_with (at_builtin;refine fQ _ D _ _ _ D a _ p _ 1 _ g m A U a0 D (by decide) (.slice ao n P) n b D e ⟨c,0,F⟩ 1 1 [u] D D (λj x s=>by rw[fC,aF i.out,<-s];simp) (λx s=>by grind) (by unfold maxLen;omega) (by omega) hb ?_;intro y w2 h d q);have f:=(Z.refl (cV ao n P).ownBlock.toList w).grown d (λk hk=> .inl (by grind))
  all_goals
   have t:=h;have r:=q;go_wp2;go_ret;refine⟨_,D,?_,f,r⟩;rw[zA (by omega),Fw (by omega),yy];exact t
theorem WO{l:List dB}{n i:Nat}{u:dB}{c:io}(d:c.toList.take n=l)(A:n+1<=c.size)(s:i<n):(gX (gX c (i+1) (l.drop i)) i [u]).toList.take (n+1)=l.take i++[u]++l.drop i:=by
 have q:ln l=n:=by rw[<-d];simp;omega
 have h:=jP (l.drop i) c (i+1) (by grind);rw[jP [u] _ i (by rw[jb];grind),h];have e1:(c.toList.take (i+1)++l.drop i++c.toList.drop (i+1+ln (l.drop i))).take i=l.take i:=by rw[oX,Pd (by grind),ZL,ZM (by omega),<-d,ZL,ZM (by omega)]
 have e2:(c.toList.take (i+1)++l.drop i++c.toList.drop (i+1+ln (l.drop i))).drop (i+ln [u])=l.drop i++c.toList.drop (i+1+ln (l.drop i)):=by rw[oX,List.drop_append_of_le_length (by grind),Fw (by grind),tA]
 rw[e1,e2,<-oX,Pd (by grind),zA (by grind)]
theorem Tz(K:IK T S aD OF bI z)(c g a n i A:Nat)(u:dB)(h:io)(b:List dB)(w:J)(B:c<=g)(d:w.heap[g]?=H (dr h T))(a1:h.toList.take n=b)(ad:h.size=a)(X:a<=maxLen)
  (P:n+1<=a) (W:i<n) (k:w.heap[A]?=H (dr #[u] T)) (V:A≠g) (hu:u.oneCell'=C) (h1:∀x∈b,x.oneCell'=C) (ak:n<=1048576):dS aD #[lO g n a,G i,lO A 1 1] w (Jo T c (lO g n a) n i b u w):=by
 have aJ:ln b=n:=by rw[<-a1];simp;omega
 obtain⟨_,m,v,N,M⟩:=K.d;have ab:∀p o,(callFunc OF #[lO A 1 1,.slice (H ⟨g,i+1,F⟩) p o]).run prog w=.ok (.value (.bool I)) w:=λp o=>by rw[M,Lib.run_overlaps_apart w S 4 T m 1 N ⟨A,0,F⟩ ⟨g,i+1,F⟩ 1 1 p o V T T 1 a (by simp[World.shape?,k]) (by simp[World.shape?,d,ad]) (by omega) (cY k 0) (cY k 1)];rfl
 have t:∀j,j<a->(w.cell? ⟨g,j,F⟩).isSome=C:=λj U=>by rw[aF d,AQ (by omega)];rfl
 have bC:∀j x,b[j]?=H x->w.cell? ⟨g,j,F⟩=H x:=λj x U=>by rw[aF d];grind
 have aj:ln (b.drop i)=n-i:=by rw[List.length_drop,aJ]
 obtain⟨l,s⟩:∃l,l=w.drew.setCells g (i+1) (b.drop i):=⟨_,D⟩;have a3:∀f e r,(Builtin.copy_ #[S,S] f #[.slice (H ⟨g,i+1,F⟩) (n-i) e,.slice (H ⟨g,i,F⟩) (n+1-i) r]).run prog w.drew=.ok (goInt (ln (b.drop i))) l:=λf e r=>by
  rw[s];exact ZO w.drew _ _ f T g (i+1) (n-i) e ⟨g,i,F⟩ (n+1-i) r (b.drop i) m v (by grind)
   (λj x U=>by rw[Addr.add_lit];simp_all)
   (λj U=>t _ (by omega)) (λj U=>cY d _) (λx y=>h1 x (Ms y))
 have q:l.heap[g]?=H (dr (gX h (i+1) (b.drop i)) T):=by rw[s];exact jK (b.drop i) w.drew g h _ _ _ d
 have a0:Z [g] w l:=by rw[s];exact Z.setCells (.inl (by simp)) _ _ (Z.refl _ _).drew
 have a2:l.heap[A]?=H (dr #[u] T):=a0.at k (by grind);have O:∀f e,(Builtin.copy_ #[S,S] f #[.slice (H ⟨g,i,F⟩) (n+1-i) e,lO A 1 1]).run prog l=.ok (goInt 1) (l.setCells g i [u]):=λf e=>
  ZO l _ _ f T g i (n+1-i) e ⟨A,0,F⟩ 1 1 [u] m v (by grind)
   (λj x U=>by rw[fC,aF a2,<-U];simp)
   (λj U=>by rw[aF q,AQ (by rw[jb];grind)];rfl) (λj U=>cY q _) (λx y=>by grind)
 have E:=jK [u] l g _ _ _ i q;have L:=Z.setCells (S:=[g]) (a:=w) (b:=g) (.inl (by simp)) [u] i a0;have Y:=WO (u:=u) a1 (by omega:n+1<=h.size) W;clear q a0 s d k a2 h1 t bC a1;have an:IntKind.i64.wrap ((i:Int)+1)=(i:Int)+1:=by rw[IntKind.wrap_i64];omega
 have Q:(0:Int)<=(i:Int)+1:=by omega
 have R:(i:Int)+1<=(n:Int)+1:=by omega
 have al:((i:Int)+1).toNat=i+1:=by omega
 have ag:(i:Int)<=(n:Int)+1:=by omega
 have ah:¬(a=i+1):=by omega
 have ai:¬(a=i):=by omega
 rcases K with⟨rfl,rfl,rfl,rfl,rfl,rfl⟩|⟨rfl,rfl,rfl,rfl,rfl,rfl⟩
 all_goals
  first|go_enter func381,ntmps381|go_enter func260,ntmps260
  go_wp2_with (simp only[ab])
  go_region_law (refine step_copy_runI D _ _ _ _ D _ _ (by simp[Act.eval,Act.put]) (by simp[Act.eval,Act.put]) (a3 _ _ _) ?_)
  go_wp2_with (at_builtin;refine wpList_copy_runI _ D _ _ _ _ D _ _ D D (O _ _) ?_);go_ret;exact⟨_,D,⟨by grind,.inr ⟨g,a,_,D,B,E,by omega,X,by rw[jb,jb];omega,by grind⟩⟩,L,.inl D⟩
theorem WN(K:IK T S aD OF bI z)(e g a n i m:Nat)(u:dB)(a2:io)(b:List dB)(w:J)(d:w.heap[g]?=H (dr a2 T))(ab:a2.toList.take n=b)(aE:a2.size=a)
  (aB:n<=a) (aj:a<n+1) (hi:i<n) (v:w.heap[m]?=H (dr #[u] T)) (hu:u.oneCell'=C) (h1:∀x∈b,x.oneCell'=C) (aA:n<=1048576) (hb:e<=zq w.heap):dS aD #[lO g n a,G i,lO m 1 1] w (Jo T e (lO g n a) n i b u w):=by
 obtain⟨aJ,R,al,an,ad⟩:=sZ K.d.1;obtain rfl:a=n:=by omega
 have aq:ln b=a:=by rw[<-ab];simp;omega
 obtain⟨_,o,N,HZ,HP⟩:=K.d;have az:=fp d;have aL:=fp v;have M:∀j x,b[j]?=H x->w.cell? ⟨g,j,F⟩=H x:=λj x c=>by rw[aF d];grind
 have hold:(Builtin.firstCells aJ.size i (lO g i a)).run prog w.drew=.ok (b.take i).toArray w.drew:=by
  rw[an];exact run_firstCells_some w.drew 1 i ⟨g,0,F⟩ i a (b.take i) (by grind) (λj x c=>by rw[fC];rw[Vl]at c;simp_all)
 obtain⟨GA,r⟩:∃GA,GA=grownCap w (a+1) a T:=⟨_,D⟩;obtain⟨bC,t⟩:∃bC:io,bC=(b.take i).toArray++Builtin.zeroCells z.cells (a+1-i)++Builtin.zeroCells z.cells (GA-(a+1)):=⟨_,D⟩;obtain⟨s,p⟩:∃s,s=w.drew.alloc (dr bC T):=⟨_,D⟩;have ak:∀l,(Builtin.append_ #[S,3] l #[lO g i a,G ((a:Int)+1-(i:Int))]).run prog w=.ok (lO w.heap.size (a+1) GA) s:=λl=>by have h:=Lib.run_append_grow_zeros w S 3 l T aJ _ .i64 .i64 o underlying3 R al (H ⟨g,0,F⟩) i a (b.take i) hold (a+1-i) (by omega) (by omega) (by omega) (by omega) (by rw[ad];rcases K with⟨_,_,_,_,rfl,_⟩|⟨_,_,_,_,rfl,_⟩<;>omega) (by rw[ad,show i+(a+1-i)=a+1 by omega];rcases K with⟨_,_,_,_,rfl,_⟩|⟨_,_,_,_,rfl,_⟩<;>exact growslice_fits (by omega) (by omega));grind
 have Q:a+1<=GA:=by rw[r];exact grownCap_ge w _ _ _
 have B:GA<=maxLen:=by rw[r];exact grownCap_le_maxLen w (a+1) a T (by unfold maxLen;omega)
 have P:bC.size=GA:=by rw[t];rcases K with⟨_,_,_,_,_,rfl⟩|⟨_,_,_,_,_,rfl⟩<;>simp[Builtin.zeroCells,Value.cells]<;>omega
 have I:bC.toList.take i=b.take i:=by rw[t];simp only[Array.toList_append,oX];rw[Pd (by grind),zA (by grind)]
 have A:s.heap[zq w.heap]?=H (dr bC T):=by rw[p];exact aY w.drew _
 have a0:Z [] w s:=by rw[p];exact(Z.refl [] w).drew.alloc _
 have L:=a0.at v (by simp);have ag:=a0.at d (by simp);obtain⟨q,a1⟩:∃q,q=s.setCells w.heap.size i [u]:=⟨_,D⟩;have W:∀l f,(Builtin.copy_ #[S,S] l #[.slice (H ⟨zq w.heap,i,F⟩) (a+1-i) f,lO m 1 1]).run prog s=.ok (goInt 1) q:=λl f=>by
  rw[a1];exact ZO s _ _ l T w.heap.size i (a+1-i) f ⟨m,0,F⟩ 1 1 [u] o N (by grind)
   (λj x c=>by rw[fC,aF L,<-c];simp)
   (λj c=>by rw[aF A,AQ (by grind)];rfl) (λj c=>cY A _) (λx O=>by grind)
 have U:q.heap[zq w.heap]?=H (dr (gX bC i [u]) T):=by rw[a1];exact jK [u] s _ bC _ _ _ A
 have a3:Z [] w q:=by rw[a1];exact Z.setCells (.inr (dF _)) _ _ a0
 have E:=a3.at d (by simp);have Y:∀l f y,(Builtin.copy_ #[S,S] l #[.slice (H ⟨zq w.heap,i+1,F⟩) (a-i) f,.slice (H ⟨g,i,F⟩) (a-i) y]).run prog q.drew=.ok (goInt (ln (b.drop i))) (q.drew.setCells w.heap.size (i+1) (b.drop i)):=λl f y=>
  ZO q.drew _ _ l T w.heap.size (i+1) (a-i) f ⟨g,i,F⟩ (a-i) y (b.drop i) o N (by grind)
   (λj x c=>by rw[Addr.add_lit];have h3:=M (i+j) x (by grind);rw[aF d]at h3;exact(aF E _).trans h3)
   (λj c=>by show(q.cell? _).isSome=C;rw[aF U,AQ (by grind[gX])];rfl) (λj c=>cY U _) (λx O=>h1 x (Ms O))
 have aI:=jK (b.drop i) q.drew w.heap.size _ _ _ (i+1) U;have V:=Z.setCells (S:=[]) (a:=w) (b:=zq w.heap) (.inr (dF _)) (b.drop i) (i+1) a3.drew;have HF:(gX (gX bC i [u]) (i+1) (b.drop i)).toList.take (a+1)=b.take i++[u]++b.drop i:=by
  have h1:=jP [u] bC i (by grind);rw[jP (b.drop i) _ (i+1) (by grind[gX]),h1,I];have e0:∀X:List dB,(b.take i++[u]++X).take (i+1)=b.take i++[u]:=λX=>by grind
  rw[e0,Pd (by grind),zA (by grind)]
 have aP:(a:Int)<(a:Int)+1:=by omega
 have ar:¬(GA=i):=by omega
 have ap:¬(GA=i+1):=by omega
 have ay:¬(a=i):=by omega
 have aM:IntKind.i64.wrap ((i:Int)+1)=(i:Int)+1:=by rw[IntKind.wrap_i64];omega
 have au:(0:Int)<=(i:Int)+1:=by omega
 have aw:(i:Int)+1<=(a:Int)+1:=by omega
 have aK:((i:Int)+1).toNat=i+1:=by omega
 have ax:(i:Int)<=(a:Int):=by omega
 clear A a0 U a3 p d v L ag E h1 M ab hold t r I a1;rcases K with⟨rfl,rfl,rfl,rfl,rfl,rfl⟩|⟨rfl,rfl,rfl,rfl,rfl,rfl⟩
 all_goals
  first|go_enter func381,ntmps381|go_enter func260,ntmps260
  go_wp2_with (first
   |(at_builtin;refine Lib.wpList_append_run _ D _ _ _ _ D _ _ D D _ _ (ak _) ?_)
   |(at_builtin;refine wpList_copy_runI _ D _ _ _ _ D _ _ D D (W _ _) ?_))
  go_region_law (refine step_copy_runI D _ _ _ _ D (.slice (H ⟨zq w.heap,i+1,F⟩) (a-i) (GA-(i+1))) (.slice (H ⟨g,i,F⟩) (a-i) (a-i)) (by simp[Act.eval,Act.put]) (by simp[Act.eval,Act.put]) (Y _ _ _) ?_)
  go_wp2;go_ret;refine⟨_,D,⟨by grind,.inr ⟨zq w.heap,GA,_,D,hb,aI,Q,B,by rw[jb,jb,IG];exact P,by grind⟩⟩,V.mono (by simp),.inr ?_⟩;intro k hk;simp[dl]at hk;omega
def aiL(K:IK T S aD OF bI z)(a n i l:Nat)(v u:dB)(b:List dB)(w:J)(j:w.ownsRow a T 1 v n b)(f:w.heap[l]?=H (dr #[u] T))(a2:v.ownBlock≠H l)(c:u.oneCell'=C)(h1:∀x∈b,x.oneCell'=C)(r:i<=n)(q:n<=1048576)(hb:a<=zq w.heap):dS aD #[v,G i,lO l 1 1] w (Jo T a v n i b u w):=by
 by_cases a0:i=n;subst a0;exact aaW K a i l v u b w j f c q hb;rcases j.2 with⟨_,p⟩|⟨g,P,A,rfl,U,h,a1,m,s,d⟩;omega;have k:l≠g:=λe=>a2 (by rw[e];rfl);rw[IG]at s d;by_cases o:n+1<=P;exact Tz K a g P n i l u A b w U h d s m o (by omega) f k c h1 q;exact WN K a g P n i l u A b w h d s a1 (by omega) (by omega) f c h1 q hb
end
def vR.d(h:vR R b j tB B v xs w)(d:∀x∈xs,tm w x):ajn v xs w:=agW h.row d
theorem vR.qc(h:vR R b j tB B v xs w):v.ownBlock≠H b:=by intro d;rcases h.row.2 with⟨e,_⟩|⟨g,P,l,e,_,n,_⟩;rw[e]at d;cases d;rw[e]at d;obtain rfl:=jS d;exact xQ n h.dP (yz h.ne) D
def row_one(a:iU):∀u∈a.map jl,u.oneCell'=C:=by intro u d;obtain⟨x,_,rfl⟩:=dW.1 d;rfl
def mV(a b j:Nat)(f:TypeId)(e:io)(v:dB)(g:iU)(w c:J):Prop:=
 ∃d,vR a b j f (e.setIfInBounds j d) d g c/\Z (b::v.ownBlock.toList) w c/\(d.ownBlock=v.ownBlock\/∀k,d.ownBlock=H k->zq w.heap<=k)
def Ar(h:B[j]?=H v):j<B.size:=(dD.1 h).1
def ad3(a b j:Nat)(g:TypeId)(f:io)(v:dB)(c:iU)(w:J)(h:vR a b j g f v c w):dS 173 #[gU b j] w λe Q=>e=ff (jl (dT c ((ln c:Int)-1)))/\Q=w:=by
 have l:=h.at;have d:=h.le;obtain⟨ao,P,rfl⟩:=df h.row;go_enter func173,ntmps173;go_wp21;refine(KA a b j g f _ c ((ln c:Int)-1) w h).mono ?_;rintro e Q⟨rfl,rfl⟩;go_wp2;go_ret;simp
theorem aiP(c b j:Nat)(g:TypeId)(f:io)(v:dB)(a:iU)(x:fW)(w:J)(h:vR c b j g f v a w)(s:∀x∈a,tm w x)(U:tm w x):dS 316 #[gU b j,jl x] w λe Q=>e=ff (.bool (decide (x∈a)))/\Q=w:=by
 have c1:=h.at;have A:=h.le;have n:dS 343 #[v,jl x] w λe Q=>e=ff (.bool (decide (x∈a)))/\Q=w:=by
  have a0:=FY v a x w (h.d s) U h.le;have l:decide (0<=jf a x)=decide (x∈a):=by unfold jf;by_cases i:x∈a;grind;grind
  have d:=V l;clear l;generalize jf a x=q at a0 d;go_enter func343,ntmps343;go_wp21;refine a0.mono ?_;rintro e Q⟨rfl,rfl⟩;go_wp2;go_ret;exact⟨by rw[<-d.out];rfl,rfl⟩
 have a0:=n;go_enter func316,ntmps316;go_wp21;refine a0.mono ?_;rintro e Q⟨rfl,rfl⟩;go_wp2;go_ret;simp
def Qs(c b j:Nat)(g:TypeId)(f:io)(v:dB)(a:iU)(x:fW)(w:J)(h:vR c b j g f v a w)(l:∀x∈a,tm w x)(q:tm w x):dS 240 #[gU b j,jl x] w λe Q=>e=ff (jl (dT a (jf a x-1)))/\Q=w:=by
 have s:=h.at;have n:=h.le;have A: -1<=jf a x/\jf a x<=4096:=by unfold jf;split<;>omega
 have d:=FY v a x w (h.d l) q h.le;have U:=KA c b j g f _ a (jf a x-1) w h;go_enter func240,ntmps240;go_wp21;refine d.mono ?_;rintro e Q⟨rfl,rfl⟩;go_wp21;refine U.mono ?_;rintro e Q⟨rfl,rfl⟩;go_wp2;go_ret;simp
theorem ad4(c b j:Nat)(m:TypeId)(i:io)(v:dB)(a:iU)(x:fW)(w:J)(h:vR c b j m i v a w)(hl:ln a<4096)(hb:c<=zq w.heap):dS 265 #[gU b j,jl x] w λe Q=>e=pG/\mV c b j m i v (a++[x]) w Q:=by
 have⟨i0,hi,hz0,hz1,hz2⟩:=sZ aj6;have c1:=h.at;have a3:=h.qc;obtain⟨ao,P,rfl⟩:=df h.row;have f:=V h;clear h;have l:Z [] w (w.alloc (.cells #[jl x] 68)):=(Z.refl _ _).alloc _;have z:=l.ownsRow f.row (λ_ _=>by simp);have b1:=l.at f.dP (by simp);have v1:=aY w (dr #[jl x] 68);have a0:=V v1;clear v1;go_enter func265,ntmps265;go_wp2_with (at_builtin;refine fQ _ D _ _ 172 D c 68 i0 (.pointer F) 1 8 underlying172 hi hz0 hz1 hz2 D (by decide) (.slice ao (ln a) P) (ln a) (a.map jl) D z ⟨zq w.heap,0,F⟩ 1 1 [jl x] D D (λk u U=>by rw[fC,aF a0.out,<-U];simp) (λu U=>by simp at U;subst U;rfl) (by unfold maxLen;omega) (by omega) (by simp;omega) ?_);intro E w2 d n a1;have o:Z (cV ao (ln a) P).ownBlock.toList w w2:=(l.mono (by simp)).grown n (λk s=> .inl (by grind));have b2:w2.heap[b]?=H (dr i m):=o.at f.dP (by grind);have⟨ao',cap',hv⟩:=df d;subst hv;have C:w2.cell? ⟨b,j,F⟩=H (.slice ao (ln a) P):=by rw[aF b2];exact f.cell
 have d2:=cY b2 j;have p:=bH b2 j (.slice ao' (ln a+1) cap');have A:(cV ao' (ln a+1) cap').ownBlock≠H b:=by intro s;rcases d.2 with⟨e,_⟩|⟨g,P,a2,e,_,y,_⟩;omega;rw[e]at s;obtain rfl:=jS s;exact xQ y b2 (yz f.ne) D
 have bI:=qo (a:=⟨b,j,F⟩) d A (.slice ao' (ln a+1) cap');have r:Z (b::(cV ao (ln a) P).ownBlock.toList) w (w2.setCell ⟨b,j,F⟩ (.slice ao' (ln a+1) cap')):=(o.mono (λk s _=>gS _ s)).setCell (.inl (by simp)) _;have q:(cV ao' (ln a+1) cap').ownBlock=(cV ao (ln a) P).ownBlock\/∀k,(cV ao' (ln a+1) cap').ownBlock=H k->zq w.heap<=k:=by rcases a1 with e|e;grind;grind
 have t:=q;go_wp2;go_end0;refine⟨D,_,⟨p,?_,?_,f.ne,by grind⟩,r,t⟩
 all_goals grind[vR.cell,Hid.out]
theorem aiR(a b j:Nat)(i:TypeId)(f:io)(v:dB)(c:iU)(w:J)(h:vR a b j i f v c w):dS 178 #[gU b j] w λe Q=>e=ff (jl (dT c ((ln c:Int)-1)))/\mV a b j i f v c.dropLast w Q:=by
 have U:=ad3 a b j i f v c w h;have c1:=h.at;have a2:=h.le;have s:=h.qc;obtain⟨ao,P,rfl⟩:=df h.row;have u:ln c<=P:=by rcases h.row.2 with⟨e,o⟩|⟨g,d,l,e,_,_,q,_⟩;omega;grind
 obtain⟨m,r⟩:∃m:Nat,m=ln c-1:=⟨_,D⟩;have a3:max (0:Int) ((ln c:Int)-1)=(m:Int):=by omega
 have hf:=cY h.dP j;have k:mV a b j i f (.slice ao (ln c) P) c.dropLast w (w.drew.setCell ⟨b,j,F⟩ (.slice ao m P)):=by
  have t:(w.drew.setCell ⟨b,j,F⟩ (.slice ao m P)).ownsRow a 68 1 (.slice ao m P) (ln c.dropLast) (c.dropLast.map jl):=by
   have A:w.ownsRow a 68 1 (.slice ao m P) (ln c.dropLast) (c.dropLast.map jl):=by refine⟨by simp,?_⟩;rcases h.row.2 with⟨e,o⟩|⟨g,d,l,e,n,p,q,a0,a1,x⟩;grind;injection e with e1 e2 e3;refine .inr ⟨g,P,l,by grind,n,p,by grind,by omega,by omega,?_⟩;grind[tl]
   refine qo (a:=⟨b,j,F⟩) (w:=w.drew) A ?_ _;have:(cV ao m P).ownBlock=(cV ao (ln c) P).ownBlock:=by cases ao<;>rfl
   rw[this];exact s
  refine⟨_,⟨bH (w:=w.drew) h.dP j _,?_,t,h.ne,by grind⟩,(Z.refl _ w).drew.setCell (.inl (by simp)) _,.inl (by cases ao<;>rfl)⟩;simp[Ar h.cell]
 clear h r;go_enter func178,ntmps178;go_wp21;refine U.mono ?_;rintro e Q⟨rfl,hw⟩;subst hw;go_wp21;go_region;go_wp2;go_ret;exact⟨D,k⟩
theorem sj(a:iU)(x:fW):(x∉a/\jf a x= -1)\/∃n:Nat,jf a x=n/\n<ln a/\n=a.idxOf x/\a[n]?=H x:=by grind[jf]
def Ec{n:Nat}(d:n=xs.idxOf x):xs.take n++xs.drop (n+1)=xs.erase x:=by rw[<-tO,d,List.erase_eq_eraseIdx_of_idxOf D]
theorem mV.refl(h:vR R b j tB B v xs w):mV R b j tB B v xs w w:=by
 have e:B.setIfInBounds j v=B:=by have:=h.cell;apply Array.ext_getElem?;intro i;by_cases d:j=i;grind;grind
 exact⟨v,by grind,Z.refl _ _,.inl D⟩
def An(c b j:Nat)(z:TypeId)(o:io)(v:dB)(a:iU)(x:fW)(w:J)(h:vR c b j z o v a w)(B:∀x∈a,tm w x)(S:tm w x):dS 181 #[gU b j,jl x] w λe Q=>e=pG/\mV c b j z o v (a.erase x) w Q:=by
 have c1:=h.at;have i:=V (FY v a x w (h.d B) S h.le);rcases sj a x with⟨aJ,f⟩|⟨n,f,W,y,_⟩
 .have K:=V (mV.refl h);rw[List.erase_of_not_mem aJ];obtain⟨ao,P,rfl⟩:=df h.row;rw[f]at i;clear h f;go_enter func181,ntmps181;go_wp2_with fail;refine i.out.mono ?_;rintro e Q⟨rfl,hw⟩;subst hw;go_wp2;go_end0;exact⟨D,K.out⟩
 .have a1:=h.qc;have T:=h.le;rcases h.row.2 with⟨_,Y⟩|⟨g,P,M,rfl,N,q,O,bC,a3,d⟩;omega;rw[IG]at a3 d;have m:=ac1 (.inl ⟨D,D,D,D⟩) g P n (n+1) (ln a) M w q O a3 (by omega) (by omega) (by omega) (by rw[d];exact row_one a);rw[show((n+1:Nat):Int)=(n:Int)+1 by omega,show ln a-(n+1-n)=ln a-1 by omega]at m;have G:=V m;have p:=V y;clear y;have ab:=V h;have L:=V d;rw[f]at i;clear h f d q m;go_enter func181,ntmps181;go_wp2_with fail;refine i.out.mono ?_;rintro e Q⟨rfl,hw⟩;subst hw;go_wp2_with fail;refine G.out.mono ?_;rintro e w2⟨rfl,U,a0,a2,r,A⟩;have b2:=A.at ab.out.dP (by intro s;exact a1 (by simp at s;rw[s];rfl));have X:w2.cell? ⟨b,j,F⟩=H (lO g (ln a) P):=by rw[aF b2];exact ab.out.cell
  have d2:=cY b2 j;have h3:=bH b2 j (lO g (ln a-1) P);have l:ln (a.erase x)=ln a-1:=by rw[<-Ec p.out];simp;omega
  have r2:w2.ownsRow c 68 1 (lO g (ln a-1) P) (ln (a.erase x)) ((a.erase x).map jl):=by refine⟨by simp,.inr ⟨g,P,U,by rw[l],N,a0,by rw[l];omega,bC,by rw[IG];exact a2,?_⟩⟩;rw[IG,l,r,L.out,<-Ec p.out,sy,ZP,n9]
  have t:=qo (a:=⟨b,j,F⟩) r2 a1 (lO g (ln a-1) P);have u:Z (b::(lO g (ln a) P).ownBlock.toList) Q (w2.setCell ⟨b,j,F⟩ (lO g (ln a-1) P)):=(A.mono (λk hk _=>by simp at hk;subst hk;simp[dl])).setCell (.inl (by simp)) _;have bI:=V h3;have C:=V t;have E:=V u;have I:=V l;clear h3 t u r2 b2 a0 a2 r A l c1;go_wp2;go_end0;exact⟨D,_,⟨bI.out,by simp[Ar ab.out.cell],C.out,ab.out.ne,by rw[I.out];omega⟩,E.out,.inl D⟩
def oU(a:iU)(x y:fW):iU:=if x∈a then a.set (a.idxOf x) y else a
def ft(a:iU)(x y:fW):iU:=if x∈a then a.take (a.idxOf x+1)++[y]++a.drop (a.idxOf x+1)else a
def mc(a:iU)(x:fW):iU:=((a.reverse.dropWhile (·≠x)).tail).reverse
theorem mV.trans{a:dB}{c:iU}{l:J}
  (q:vR R b j tB (B.setIfInBounds j a) a c w1) (h:Z (b::v.ownBlock.toList) w w1) (s:a.ownBlock=v.ownBlock\/∀k,a.ownBlock=H k->zq w.heap<=k)
  (n:mV R b j tB (B.setIfInBounds j a) a zs w1 l):mV R b j tB B v zs w l:=by
 have⟨v2,L2,k2,f2⟩:=n;refine⟨v2,by simp_all,h.next k2 ?_,?_⟩;grind;rcases f2 with e|e;grind;exact .inr λk d=>gR h.size (e k d)
theorem F9(a b j:Nat)(i:TypeId)(f:io)(v:dB)(c:iU)(x y:fW)(w:J)(h:vR a b j i f v c w)(B:∀x∈c,tm w x)(C:tm w x):dS 270 #[gU b j,jl x,jl y] w λe Q=>e=pG/\mV a b j i f v (oU c x y) w Q:=by
 have c1:=h.at;have s:=FY v c x w (h.d B) C h.le;rcases sj c x with⟨a1,m⟩|⟨n,m,K,k,t⟩;have r:=mV.refl h;have o:oU c x y=c:=by unfold oU;rw[di a1]
 rw[o];obtain⟨ao,P,rfl⟩:=df h.row;rw[m]at s
 rotate_left
 have a2:=h.qc;have G:=h.le;have o:oU c x y=c.set n y:=by unfold oU;rw[dw (sA t),<-k]
 rw[o];rcases h.row.2 with⟨_,I⟩|⟨g,P,q,rfl,U,d,L,D,a3,l⟩;omega;rw[IG]at a3 l;have a0:g≠b:=λe=>a2 (by rw[e];rfl);have p:∃u,w.cell? ⟨g,n,F⟩=H u:=⟨q[n]'(by omega),by rw[aF d];simp⟩;have⟨u,p⟩:=p;have d2:=cY d n;have r:mV a b j i f (lO g (ln c) P) (c.set n y) w (w.setCell ⟨g,n,F⟩ (jl y)):=by
  have A:(w.setCell ⟨g,n,F⟩ (jl y)).heap[b]?=H (dr f i):=by rw[dE w ⟨g,n,F⟩ _ b (yz a0)];exact h.dP
  have z:vR a b j i f (lO g (ln c) P) (c.set n y) (w.setCell ⟨g,n,F⟩ (jl y)):=by
   refine⟨A,h.cell,⟨by simp,.inr ⟨g,P,_,by simp,U,bH d n (jl y),by grind,D,by grind,?_⟩⟩,h.ne,by grind⟩;have:(q.setIfInBounds n (jl y)).toList=q.toList.set n (jl y):=by simp
   rw[this,List.length_set,IG,List.take_set,l,ob]
  have⟨v',L',k',f'⟩:=mV.refl z;exact⟨v',L',(((Z.refl _ w).setCell (p:=⟨g,n,F⟩) (.inl (by simp[dl])) _).trans k'),by grind[World.size_setCell]⟩
 have E:=V k;rw[m]at s;clear k
 all_goals
  go_enter func270,ntmps270;go_wp21;refine s.mono ?_;rintro e Q⟨rfl,hw⟩;subst hw;go_wp2;go_end0;grind
theorem Ia(c b j:Nat)(r:TypeId)(f:io)(v:dB)(a:iU)(x y:fW)(w:J)(h:vR c b j r f v a w)(G:∀x∈a,tm w x)(I:tm w x)(hl:ln a<4096)(hb:c<=zq w.heap):dS 370 #[gU b j,jl x,jl y] w λe Q=>e=pG/\mV c b j r f v (ft a x y) w Q:=by
 have c1:=h.at;have A:=FY v a x w (h.d G) I h.le;rcases sj a x with⟨a2,o⟩|⟨n,o,aJ,m,E⟩
 .have u:=mV.refl h;have p:ft a x y=a:=by unfold ft;rw[di a2]
  rw[p];obtain⟨ao,P,rfl⟩:=df h.row;rw[o]at A;clear h;go_enter func370,ntmps370;go_wp21;refine A.mono ?_;rintro e Q⟨rfl,hw⟩;subst hw;go_wp2;go_end0;grind
 .have bC:=h.qc;have O:=h.le;have p:ft a x y=a.take (n+1)++[y]++a.drop (n+1):=by unfold ft;rw[dw (sA E),<-m]
  rw[p];have d:Z [] w (w.alloc (.cells #[jl y] 68)):=(Z.refl _ _).alloc _;have v1:=aY w (dr #[jl y] 68);have M:zq (w.alloc (dr #[jl y] 68)).heap=zq w.heap+1:=by simp
  have aI:=h.row.lt;have t:=aiL (.inl ⟨D,D,D,D,D,D⟩) c (ln a) (n+1) w.heap.size v (jl y) (a.map jl) (w.alloc (dr #[jl y] 68)) (d.ownsRow h.row (λ_ _=>by simp)) v1 (λe=>by grind) D (row_one a) (by omega) (by omega) (by omega);rw[show((n+1:Nat):Int)=(n:Int)+1 by omega]at t;have a3:=d.at h.dP (by simp);obtain⟨ao,P,rfl⟩:=df h.row;have i:=V h;have L:=V m;rw[o]at A;clear h m;go_enter func370,ntmps370;go_wp21;refine A.mono ?_;rintro e Q⟨rfl,hw⟩;subst hw;go_wp21;refine t.mono ?_;rintro e U⟨W,rfl,l,a1,a0⟩;have⟨ao',cap',hv⟩:=df l;subst hv;have z:Z (cV ao (ln a) P).ownBlock.toList Q U:=(d.mono (by simp)).trans (S:=(cV ao (ln a) P).ownBlock.toList) a1;have b2:U.heap[b]?=H (dr f r):=z.at i.dP (by grind);have S:U.cell? ⟨b,j,F⟩=H (.slice ao (ln a) P):=by rw[aF b2];exact i.cell
  have d2:=cY b2 j;have bI:=bH b2 j (.slice ao' (ln a+1) cap');have s:(cV ao' (ln a+1) cap').ownBlock≠H b:=by intro hk;rcases l.2 with⟨e,_⟩|⟨g,P,N,e,_,T,_⟩;omega;grind
  have K:=qo (a:=⟨b,j,F⟩) l s (.slice ao' (ln a+1) cap');have C:Z (b::(cV ao (ln a) P).ownBlock.toList) Q (U.setCell ⟨b,j,F⟩ (.slice ao' (ln a+1) cap')):=(z.mono (λk hk _=>gS _ hk)).setCell (.inl (by simp)) _;have q:(cV ao' (ln a+1) cap').ownBlock=(cV ao (ln a) P).ownBlock\/∀k,(cV ao' (ln a+1) cap').ownBlock=H k->zq Q.heap<=k:=by rcases a0 with e|e;exact .inl e;grind
  have u:=q;go_wp2;go_end0;refine⟨D,_,⟨bI,by grind[vR.cell,Hid.out],?_,i.ne,by simp;omega⟩,C,u⟩;have e1:ln (a.take (n+1)++[y]++a.drop (n+1))=ln a+1:=by simp;omega
  simp_all
theorem abe(x:fW):mc [] x=[]:=rfl
theorem Xh(a:iU)(y x:fW):mc (a++[y]) x=if y=x then a else mc a x:=by grind[List.dropWhile_cons_of_neg,List.dropWhile_cons_of_pos,mc]
theorem Kv(a:iU)(y:fW):dT (a++[y]) ((ln (a++[y]):Int)-1)=y:=by unfold dT;rw[dw (by grind)];simp
def Ao(a:Addr)(w:J):Nat:=match w.cell? a with
 |some (.slice _ n _)=>n
 |_=>0
def vR.Ao(h:vR R b j tB B v xs w):Ao ⟨b,j,F⟩ w=ln xs:=by obtain⟨ao,P,rfl⟩:=df h.row;unfold YtcalkelgoekpfaaGreatDoor.Ao;rw[h.at]
theorem tm.kept(h:tm w x)(n:Z S w Q)(l:∀k,x=H k->k∉S):tm Q x:=by intro k d;have⟨c,hc⟩:=h k d;exact⟨c,n.at hc (l k d)⟩
theorem Kh(h:vR R b j tB B v xs w)(q:tB≠138)(A:tm w x):∀k,x=H k->k∉b::v.ownBlock.toList:=by intro k s d;have⟨c,hc⟩:=A k s;rcases bZ.1 d with rfl|d;exact xQ h.dP hc q D;rcases h.row.2 with⟨e,_⟩|⟨g,P,n,e,_,l,_⟩;rw[e]at d;simp[dl]at d;simp[dl]at d;grind
theorem YM(a b j:Nat)(c:TypeId)(g:io)(v:dB)(f:iU)(x:fW)(w:J)(h:vR a b j c g v f w)(r:c≠138)(t:∀x∈f,tm w x)(u:tm w x):dS 322 #[gU b j,jl x] w λe Q=>e=pG/\mV a b j c g v (mc f x) w Q:=by
 have aJ:=mV.refl h;have C:=t;have H:=u;have G:=(λy I=>Kh h r (t y I));have a0:=Kh h r u;go_enter func322,ntmps322;go_wp2
 go_loopw [9] (λ_ wr=>∃l,(∀y∈l,y∈f)/\mc l x=mc f x/\mV a b j c g v l w wr) (λ_ wr=>Ao ⟨b,j,F⟩ wr)
 case atStart=>grind
 case round=>
  have⟨l,hS,hpt,v',L1,k1,f1⟩:=hrel;have i:=L1.Ao;have c1:=L1.at;have⟨ao,P,hv⟩:=df L1.row;have a1:l=[]\/∃zs y,l=zs++[y]:=by rcases W9 l with h|⟨zs,y,h⟩;grind;grind
  rcases a1 with rfl|⟨zs,y,rfl⟩
  .rw[hv]at c1;have k:=(show mV a b j c g v (mc f x) w wr from⟨v',by grind[abe],k1,f1⟩);clear L1 i;go_wp2;go_end0;grind
  .rw[hv]at c1;have q:0<ln (zs++[y]):=by simp
   have o:=aiR a b j c _ v' _ wr L1;rw[Kv]at o;have bI:tm w y:=C y (hS y (by simp));have U:=G y (hS y (by simp));have z:=(λ(s:J) (E:mV a b j c (g.setIfInBounds j v') v' (zs++[y]).dropLast wr s)=>mV.trans L1 k1 f1 E);have K:=V L1;have aI:=V (show mc f x=if y=x then zs else mc zs x by grind[Xh]);have a3:=V i;obtain⟨m,A⟩:∃m,m=ln (zs++[y]):=⟨_,D⟩;rw[<-A]at c1 q a3;have L:=V A;have N:m<=4096:=by rw[A];exact L1.le
   clear L1 i A;go_wp21;refine o.mono ?_;rintro e s⟨rfl,a2⟩;have p:=z s a2;rw[Pe]at p;have⟨v2,L2,k2,f2⟩:=p;have n:=Cx (bI.kept k2 U) (H.kept k2 a0);have O:=V L2.Ao;by_cases d:y=x
   .rw[sx d]at n;have k:=(show mV a b j c g v (mc f x) w s from⟨v2,by grind[Hid.out],k2,f2⟩);clear L2 d;go_wp2
    (try simp only[Exit.inBlock,Exit.then])
    refine mL (II D _ _ _) D ?_;grind
   .rw[yx d]at n;have k:=(show mV a b j c g v zs w s from⟨v2,L2,k2,f2⟩);have M:=V d;clear L2 d;go_wp2;grind[Hid.out]
attribute [local go_sem] Oper.semAt_some
def iN(K:List Nat)(W d:J):Prop:=∀k∈K,d.heap[k]?=W.heap[k]?
theorem iN.refl(K:List Nat)(W:J):iN K W W:=λ_ _=>D
theorem iN.trans{A b a:J}(h:iN K A b)(k:iN K b a):iN K A a:=λx d=>(k x d).trans (h x d)
def iN.q{d:J}(h:Z S W d)(l:∀k∈K,k<zq W.heap/\k∉S):iN K W d:=λk n=>h.block k (l k n).1 (l k n).2
theorem iN.put(h:∀k∈K,k<zq w.heap)(W:J)(l:Nat)(o d:Obj)(q:zq w.heap<=l)(_:W.heap[l]?=H o)(_:o.isCells=I)(_:o.isWalk=I):iN K W (W.putObj l d):=
 λk n=>td (by grind)
theorem vR.h(h:vR R b j tB B v xs w)(n:iN K w Q)(q:b∈K)(A:∀k,v.ownBlock=H k->k∈K):vR R b j tB B v xs Q:=by refine⟨(n b q).trans h.dP,h.cell,⟨h.row.1,?_⟩,h.ne,h.le⟩;rcases h.row.2 with e|⟨g,P,d,e,l,s,r⟩;grind;exact .inr ⟨g,P,d,e,l,(n g (A g (by rw[e];rfl))).trans s,r⟩
theorem ak1(m:Nat)(ag:1<=m)(c b j:Nat)(O:TypeId)(t:io)(v:dB)(a:iU)(n bN g l:Nat)(K:List Nat)(f w:List {x:fW // x∈a}->J->Prop)
  (hn:n<=ln a) (ab:b∈K) (P:g∈K) (R:∀k,v.ownBlock=H k->k∈K)
  (M:∀pre x W,f pre W->ln pre<n->YieldAt Fence.wide (m-1) prog l #[jl x.1] W λe bI=>
   (e=ff (.bool C)/\f (pre++[x]) bI/\iN K W bI)\/(e=ff (.bool I)/\w (pre++[x]) bI))
  (W:J) (h:vR c b j O t v a W) (hN:W.cell? ⟨bN,0,F⟩=H (G n)) (hL:W.cell? ⟨g,0,F⟩=H (gU b j)) (h0:f [] W):CallsIn Fence.wide m prog 351 #[.func (.yield l) #[] #[],dq bN,dq g] W λe bI=>(∃r,e=ff r)/\
   ((∃aJ,aJ.map (·.1)=(a.take n).reverse/\f aJ bI)\/(∃pre,pre.map (·.1) <+:(a.take n).reverse/\w pre bI)):=by
 refine callsIn_of_wp func351 D trivial ?_ D;simp only[ntmps351,wL,uJ,uY,Nat.reduceAdd,Nat.reduceSub,wM,wN,wO,wP,tA,tf];have ae:=h.le;have bC:=V h;clear h;have T:=V M;clear M;gi_wp2
 gi_loopw [4] (λi wr=>∃(k:Nat)(pre:List {x:fW // x∈a}),k<=n/\(ln pre)=k/\i=G ((n:Int)-1-k)/\pre.map (·.1)=(a.take n).reverse.take k/\iN K W wr/\f pre wr)
  (λi _=>((intOf i)+1).toNat)
 case atStart=>grind[iN]
 case round=>
  obtain⟨k,pre,hk,ah,rfl,a0,s,L⟩:=hrel;have y:=bC.out.h s ab R;have cL:wr.cell? ⟨g,0,F⟩=H (gU b j):=(K3 (w:=W) (s g P)).trans hL;have u:=V a0;have Y:=V s;clear a0 s;by_cases af:k<n
  .obtain⟨q,p⟩:∃q:Nat,q=n-1-k:=⟨_,D⟩;have z:(n:Int)-1-k=(q:Int):=by omega
   have A:q<ln a:=by omega
   rw[z];have o:=KA c b j O t v a (q:Int) wr y;have N:dT a (q:Int)=a[q]:=by unfold dT;rw[dw (by omega)];simp[A]
   rw[N]at o;have aI:=V o;have⟨fn,tmps,assign,body,hy,hR⟩:=T.out pre ⟨a[q],uI A⟩ wr L (by omega);dsimp only at hy;have d:(pre++[(⟨a[q],uI A⟩:{x:fW // x∈a})]).map (·.1)=(a.take n).reverse.take (k+1):=by
    have a3:ln (a.take n)=n:=by simp;omega
    have e1:(a.take n).reverse[k]?=H a[q]:=by rw[List.getElem?_reverse (by omega),a3,Vl,dw (by omega),show n-1-k=q from p.symm,qM A]
    rw[sy,u.out,IJ,e1];rfl
   have HS:=V d;have S:=V hR;have HQ:=V p;clear o N d hR y p z
   gi_wp2_with (refine⟨trivial,?_⟩;gi_at_call 242;refine(callsIn_wide.2 aI.out).mono ?_;rintro e Q⟨rfl,rfl⟩)
   refine S.out.mono ?_;rintro e W3 (⟨rfl,B,a2⟩|⟨rfl,a1⟩)
   .have X:=V (Y.out.trans a2);clear a2;gi_wp2;go_roundw
    case rel=>exact⟨k+1,_,by omega,by grind,by grind[Hid.out],HS.out,X.out,B⟩
    case measure=>simp[intOf]
   .gi_wp2;refine mL (II D _ _ _) D ?_;refine⟨⟨_,D⟩,.inr ⟨_,?_,a1⟩⟩;rw[HS.out];exact List.take_prefix _ _
  .have ad:k=n:=by omega
   have E:pre.map (·.1)=(a.take n).reverse:=by rw[u.out,zA (by grind)]
   have Z:=V E;have U:(n:Int)-1-k= -1:=by omega
   rw[U];clear E ad U;gi_wp2;go_end0;exact⟨⟨_,D⟩,.inl ⟨pre,Z.out,L⟩⟩
abbrev kH(b j:Nat)(n:Int)(w:J):J:=(w.alloc (dr #[gU b j] 276)).alloc (dr #[G n] 3)
abbrev uH(s:Nat):dB:=.func (.func 351) #[] #[dq (s+1),dq s]
def O8(b j:Nat)(n:Int)(w:J):Calls prog 324 #[gU b j,G n] w λe Q=>e=ff (uH w.heap.size)/\Q=kH b j n w:=by
 go_wp2;go_ret;simp
def Ga(a b j:Nat)(g:TypeId)(f:io)(v:dB)(c:iU)(w:J)(h:vR a b j g f v c w):dS 288 #[gU b j] w λe Q=>e=ff (uH w.heap.size)/\Q=kH b j (ln c) w:=by
 have n:=h.at;obtain⟨ao,P,rfl⟩:=df h.row;go_enter func288,ntmps288;go_wp21;refine(O8 b j (ln c) w).mono ?_;rintro e Q⟨rfl,d⟩;have l:=V d;clear d;go_wp2;go_ret;exact⟨D,l⟩
def ahh(a b j:Nat)(g:TypeId)(f:io)(v:dB)(c:iU)(x:fW)(w:J)(h:vR a b j g f v c w)(n:∀x∈c,tm w x)(q:tm w x):dS 379 #[gU b j,jl x] w λe Q=>e=ff (uH w.heap.size)/\Q=kH b j (jf c x) w:=by
 have s:=h.at;have A:=O8 b j (jf c x) w;go_enter func379,ntmps379;go_wp21;refine(FY v c x w (h.d n) q h.le).mono ?_;rintro e Q⟨rfl,d⟩;go_wp21;refine A.mono ?_;rintro e Q⟨rfl,d⟩;have l:=V d;clear d;go_wp2;go_ret;exact⟨D,l⟩
theorem U9(m:Nat)(a1:1<=m)(a b j:Nat)(f:TypeId)(e:io)(v:dB)(c:iU)(n s:Nat)(K:List Nat)(w:J)
  (h:vR a b j f e v c w) (u:n<=ln c) (A:b∈K) (q:s∈K) (U:∀k,v.ownBlock=H k->k∈K) (a0:s+1<zq w.heap)
  (r:w.heap[s+1]?=H (dr #[G n] 3)) (p:w.heap[s]?=H (dr #[gU b j] 276)):SeqStopsK Fence.wide m prog 351 #[dq (s+1),dq s] (λx:{x:fW // x∈c}=>#[jl x.1]) (iN K)
   (λy=>y.map (·.1)=(c.take n).reverse) (λpre=>pre.map (·.1) <+:(c.take n).reverse) n w:=by
 intro l a2 g W d _ _ t o;have i:=by refine h.h (K:=b::v.ownBlock.toList) (λk hk=>d.block k ?_) (by simp) (λk hk=>by grind);rcases bZ.1 hk with rfl|hk;exact(fp h.dP);exact(h.row.lt k (by grind)).2
 exact ak1 m a1 a b j f e v c n _ s l K a2 g u A q U t W i (by rw[aF ((d.block _ a0).trans r)];rfl) (by rw[aF ((d.block _ (by omega)).trans p)];rfl) o
def fG(a b:O):Bool:=a.toList==b.toList
theorem jM{a b:O}:fG a b=C↔a=b:=by grind[ByteArray.toList_eq,WideShapes.bytes_inj,fG]
theorem adm{a b:O}:fG a b=I↔a≠b:=by grind[jM]
def cZ(d:List O)(x:O):Bool:=d.any (fG x)
def Xj(d:List O)(s:O):Int:=if d.findIdx (fG s)<ln d then (d.findIdx (fG s):Int)else -1
theorem ahy{a:List O}{x:O}(s:k<ln a)(A:a[k]=x)(h:∀j,j<k->a[j]?≠H x):Xj a x=k:=by
 have q:a.findIdx (fG x)=k:=by
  have l:¬a.findIdx (fG x)<k:=λd=>h _ d (by grind[jM])
  have n:¬k<a.findIdx (fG x):=λd=>by grind[jM]
  omega
 grind[Xj]
theorem aeE(a:List O)(x:O):decide (0<=Xj a x)=cZ a x:=by grind[Xj,cZ]
theorem ag9(g a:Nat)(d:List O)(x:O)(w:J)(b:∀k,(hk:k<ln d)->w.cell? ⟨g,k,F⟩=H (Y d[k]))(a0:ln d<=4096):dS 323 #[lO g (ln d) a,Y x] w (JK w (G (Xj d x))):=by
 have c:=V b;clear b;go_enter func323,ntmps323;go_wp2
 go_loopw [8] (λi wr=>∃k:Nat,k<=ln d/\i=G k/\wr=w/\∀j,j<k->d[j]?≠H x) (λi _=> ln d-(intOf i).toNat)
 case atStart=>grind
 case round=>
  obtain⟨k,hk,rfl,rfl,f⟩:=hrel;by_cases l:k<ln d
  .have c2:=c k l;obtain⟨y,A⟩:∃y,y=d[k]:=⟨_,D⟩;rw[<-A]at c2;have U:=V A;clear A;by_cases n:x=y
   .have s:=V (ahy l (U.symm.trans n.symm) f);subst n;go_wp2;go_ret;exact⟨by rw[s.out];rfl,rfl⟩
   .have q:=n;have o:(x.toList==y.toList)=I:=adm.2 n;go_wp2;go_roundw
    case rel=>
     refine⟨k+1,by omega,by go_num,by simp,λj m=>?_⟩;by_cases e:j=k;subst e;rw[qM l];exact λh=>q ((jS h).symm.trans U.symm);grind
    case measure=>simp[intOf];omega
  .have s:=V ((by show Xj d x= -1;grind[jM,Xj]))
   go_wp2;go_ret;exact⟨by rw[s.out];rfl,rfl⟩
structure pK(E:List Nat)(v:dB)(p:O->Bool)(w:J):Prop where
 ex:∃k lb,v=.func (.func k) #[] lb/\Enters prog k/\∀W,iN E w W->∀s,dS k (#[Y s]++lb) W λe W'=>e=ff (.bool (p s))/\W'=W
 lt:∀e∈E,e<zq w.heap
theorem pK.keeps{E:List Nat}(h:pK E v p w)(n:iN E w Q)(s:zq w.heap<=zq Q.heap):pK E v p Q:=by obtain⟨⟨k,A,rfl,l,d⟩,q⟩:=h;constructor<;>grind[iN.trans]
theorem pK.kept{E:List Nat}(h:pK E v p w)(l:Z S w Q)(n:∀e∈E,e∉S):pK E v p Q:=
 h.keeps (iN.q l λk d=>⟨h.lt k d,n k d⟩) l.size
theorem pK.h{E:List Nat}(h:pK E v p w)(d:Z [] w Q):pK E v p Q:=h.kept d (λ_ _=>by simp)
def pW{E:List Nat}(h:iN E w W)(d:b∈E)(l:w.heap[b]?=H (dr c t)):W.heap[b]?=H (dr c t):=(h b d).trans l
theorem adQ(bs g a:Nat)(d:List O)(w:J)(n:w.heap[bs]?=H (dr #[lO g (ln d) a] 48))(q:w.heap[g]?=H (dr (d.map dQ).toArray 9))(h:ln d<=4096):pK [bs,g] (.func (.func 285) #[] #[dq bs]) (cZ d) w:=by
 refine⟨⟨_,_,D,enters_of func285 (by rfl) D,λW l s=>?_⟩,λe U=>?_⟩
 .have A:=aF (pW l (by simp) n) 0;go_enter func285,ntmps285;go_wp21;refine((show Calls prog 286 #[lO g (ln d) a,Y s] W λe Q=>e=ff (.bool (cZ d s))/\Q=W by go_enter func286,ntmps286;go_wp21;refine(ag9 g a d s W (λk hk=>by rw[aF (pW l (by simp) q)];simp) h).mono ?_;rintro e Q⟨rfl,rfl⟩;go_wp2;go_ret;exact⟨by rw[<-(V (aeE d s)).out];rfl,rfl⟩)).mono ?_
  rintro e Q⟨rfl,rfl⟩;go_wp2;go_ret;simp
 grind
def aiM(g a:Nat)(n:Nat)(w:J):Calls prog 219 #[lO g n a] w λe Q=>e=ff (.func (.func 285) #[] #[dq w.heap.size])/\Q=w.alloc (dr #[lO g n a] 48):=by
 go_wp2;go_ret;simp
theorem iN.sub{d:List Nat}{A a:J}(h:iN K A a)(n:∀k∈d,k∈K):iN d A a:=λk l=>h k (n k l)
def ObK(d c:Nat)(g:Bool->Bool->Bool):Prop:=(d=293/\c=239/\g=λa b=>a||b)\/(d=318/\c=274/\g=λa b=>a&&!b)
def akv{m:Nat}{g:Bool->Bool->Bool}(K:ObK m aD g)(b1 b2:Nat)(i j:List Nat)(t u:dB)(p q:O->Bool)(w:J)(n:w.heap[b1]?=H (dr #[t] 87))(A:w.heap[b2]?=H (dr #[u] 87))(a:pK i t p w)(b:pK j u q w):pK (b1::b2::(i++j)) (.func (.func m) #[] #[dq b1,dq b2]) (λs=>g (p s) (q s)) w:=by
 refine⟨⟨_,_,D,?_,λW l s=>?_⟩,λe h=>?_⟩;rcases K with⟨rfl,rfl,rfl⟩|⟨rfl,rfl,rfl⟩;exact enters_of func293 (by kernel_rfl) D;exact enters_of func318 (by kernel_rfl) D
 .have c1:=aF (pW l (by simp) n) 0;have c2:=aF (pW l (by simp) A) 0;dsimp at c1 c2;obtain⟨k1,a0,rfl,e1,a1⟩:=a.ex;obtain⟨k2,a3,rfl,e2,a2⟩:=b.ex;have c:=V (a1 W (l.sub (λk U=>by simp[U])) s);have f:=V (a2 W (l.sub (λk U=>by simp[U])) s);have f1:∀d w,(callFunc k1 d).run prog w=.ok (.enter k1 d) w:=e1;have f2:∀d w,(callFunc k2 d).run prog w=.ok (.enter k2 d) w:=e2;clear n A a b l a1 a2 e1 e2;generalize p s=o at c|-;generalize q s=r at f|-;rcases K with⟨rfl,rfl,rfl⟩|⟨rfl,rfl,rfl⟩
  case' inl=>show Calls prog 293 #[Y s,dq b1,dq b2] W _
  case' inr=>show Calls prog 318 #[Y s,dq b1,dq b2] W _
  all_goals cases o
  all_goals
   first|go_enter func293,ntmps293|go_enter func318,ntmps318
   go_wp2_with fail;refine c.out.mono ?_;rintro e Q⟨rfl,rfl⟩;go_wp2_with fail
   first|refine f.out.mono ?_;rintro e Q⟨rfl,rfl⟩|skip
   go_wp2;go_ret;exact⟨D,D⟩
 simp at h;rcases h with rfl|rfl|h|h;exact fp n;exact fp A;exact a.lt e h;exact b.lt e h
theorem ahq(b1:Nat)(n:List Nat)(a:dB)(p:O->Bool)(w:J)(h1:w.heap[b1]?=H (dr #[a] 87))(A:pK n a p w):pK (b1::n) (.func (.func 292) #[] #[dq b1]) (λs=>!p s) w:=by
 refine⟨⟨_,_,D,enters_of func292 (by rfl) D,λW q s=>?_⟩,λe h=>?_⟩
 .have c1:=aF (pW q (by simp) h1) 0;dsimp at c1;obtain⟨U,a0,rfl,e1,a1⟩:=A.ex;have l:=a1 W (q.sub (λk hk=>by simp[hk])) s;have f1:∀d w,(callFunc U d).run prog w=.ok (.enter U d) w:=e1;show Calls prog 292 #[Y s,dq b1] W _;generalize p s=r at l|-;go_enter func292,ntmps292;go_wp21;refine l.mono ?_;rintro e Q⟨rfl,rfl⟩;go_wp2;go_ret;simp
 simp at h;rcases h with rfl|h;grind;exact A.lt e h
def Y0{f:Nat}{g:Bool->Bool->Bool}(K:ObK f aD g)(l n:List Nat)(a b:dB)(p q:O->Bool)(w:J)(U:pK l a p w)(c:pK n b q w):dS aD #[a,b] w λe Q=>(∃v,e=ff v/\pK (zq w.heap::(zq w.heap+1)::(l++n)) v (λs=>g (p s) (q s)) Q/\Q.heap[zq w.heap]?=H (dr #[a] 87)/\Q.heap[zq w.heap+1]?=H (dr #[b] 87))/\Z [] w Q:=by
 have h:dS aD #[a,b] w λe Q=>e=ff (.func (.func f) #[] #[dq w.heap.size,dq (zq w.heap+1)])/\Q=(w.alloc (dr #[a] 87)).alloc (dr #[b] 87):=by
  obtain⟨k1,a0,rfl,_,_⟩:=U.ex;obtain⟨d,a1,rfl,_,_⟩:=c.ex;clear U c;rcases K with⟨rfl,rfl,rfl⟩|⟨rfl,rfl,rfl⟩
  case' inl=>go_enter func239,ntmps239
  case' inr=>go_enter func274,ntmps274
  all_goals go_wp2
  all_goals go_ret
  all_goals exact⟨by simp,D⟩
 refine h.mono ?_;rintro e Q⟨rfl,rfl⟩;have k1:Z [] w (w.alloc (dr #[a] 87)):=(Z.refl _ _).alloc _;have d:=k1.alloc (dr #[b] 87);have A:=aY (w.alloc (dr #[a] 87)) (dr #[b] 87);rw[zB]at A;have i:=(dc (w.alloc (dr #[a] 87)) (dr #[b] 87) _ (by simp)).trans (aY w _);exact⟨⟨_,D,akv K _ _ l n a b p q _ i A (U.h d) (c.h d),i,A⟩,d⟩
def aer(d:List Nat)(a:dB)(p:O->Bool)(w:J)(n:pK d a p w):dS 238 #[a] w λe Q=>(∃v,e=ff v/\pK (zq w.heap::d) v (λs=>!p s) Q/\Q.heap[zq w.heap]?=H (dr #[a] 87))/\Z [] w Q:=by
 have h:dS 238 #[a] w λe Q=>e=ff (.func (.func 292) #[] #[dq w.heap.size])/\Q=w.alloc (dr #[a] 87):=by obtain⟨l,q,rfl,_,_⟩:=n.ex;go_enter func238,ntmps238;go_wp2;go_ret;exact⟨D,D⟩
 refine h.mono ?_;rintro e Q⟨rfl,rfl⟩;have l:Z [] w (w.alloc (dr #[a] 87)):=(Z.refl _ _).alloc _;exact⟨⟨_,D,ahq _ d a p _ (aY w _) (n.h l),aY w _⟩,l⟩
open Go.ChangeMaps (setBlock)
theorem Yb(a b:O):(a==b)=fG a b:=by have h:(a==b)=(a.data==b.data):=rfl;by_cases e:a=b;grind[fG];rw[adm.2 e];have:a.data≠b.data:=λd=>e (by cases a;simp_all);grind
def FH(e:MapEntry):dB×dB:=(e.key,e.val)
def FR(p:O×dB):dB×dB:=(Y p.1,p.2)
def xo:List (O×dB)->O->Nat->Option (Nat×dB)
 |[],_,_=>F
 |p::L,k,i=>if fG k p.1 then H (i,p.2)else xo L k (i+1)
def Bz:List (O×dB)->O->Option dB
 |[],_=>F
 |p::L,k=>if fG k p.1 then H p.2 else Bz L k
def Gj:List (O×dB)->O->dB->List (O×dB)
 |[],k,v=>[(k,v)]
 |p::L,k,v=>if fG k p.1 then (k,v)::L else p::Gj L k v
def Td:∀(L:List (O×dB))(k:O)(i:Nat),(xo L k i).map (·.2)=Bz L k
 |[],_,_=>rfl
 |p::L,k,i=>by unfold xo Bz;split;rfl;exact Td L k _
theorem Te:∀(L:List (O×dB))(k:O)(i:Nat)(v:dB),xo L k i=F->Gj L k v=L++[(k,v)]
 |[],_,_,_,_=>rfl
 |p::L,k,i,v,h=>by unfold xo at h;split at h;cases h;rename_i d;unfold Gj;rw[di d,Te L k _ v h];rfl
theorem Tf:∀(L:List (O×dB))(k:O)(i j:Nat)(u v:dB),xo L k i=H (j,u)->∃n,j=i+n/\n<ln L/\(L[n]?).map (·.1)=H k/\Gj L k v=L.set n (k,v)
 |[],_,_,_,_,_,h=>by cases h
 |p::L,k,i,j,u,v,h=>by
  unfold xo at h;split at h
  .cases h<;>grind[jM,Gj]
  have⟨n,e1,e2,e3,e4⟩:=Tf L k _ j u v h;refine⟨n+1,by omega,by grind,by grind,?_⟩;grind[Gj]
theorem Qf(k:O):∀(d:List MapEntry)(L:List (O×dB))(i:Nat),d.map FH=L.map FR->gA .string (Y k) d i=H (xo L k i)
 |[],[],_,_=>rfl
 |[],_::_,_,h=>by grind
 |_::_,[],_,h=>by grind
 |e::d,p::L,i,h=>by simp at h;have l:e.key=Y p.1:=mf Prod.fst h.1;have n:e.val=p.2:=mf Prod.snd h.1;unfold gA xo;simp[l,Instr.sameNow,Yb];cases hf:fG k p.1;exact Qf k d L _ h.2;grind
def tq(w:J)(b:Nat)(L:List (O×dB)):Prop:=∃h d,w.heap[b]?=H (.map h d)/\h.toList.map FH=L.map FR
theorem tq.keeps{L:List (O×dB)}(h:tq w b L)(e:Q.heap[b]?=w.heap[b]?):tq Q b L:=by grind[tq]
theorem tq.lt{L:List (O×dB)}(h:tq w b L):b<zq w.heap:=by have⟨es,clock,ha,_⟩:=h;grind
theorem tq.kept{L:List (O×dB)}(h:tq w b L)(l:Z S w Q)(d:b∉S):tq Q b L:=h.keeps (l.block b h.lt d)
theorem tq.new(w:J):tq (w.alloc (.map #[] 0)) w.heap.size []:=⟨#[],0,aY w _,D⟩
theorem Am(h:Z S a w)(d:b∈S\/zq a.heap<=b)(o:Obj):Z S a (setBlock w b o):=
 ⟨h.os,h.tape,h.output,by show zq a.heap<=(w.heap.setIfInBounds b o).size;rw[Vh];exact h.size,λk l n=>by show(w.heap.setIfInBounds b o)[k]?=_;grind[Z.block]⟩
theorem E9(h:b<zq w.heap)(o:Obj):(setBlock w b o).heap[b]?=H o:=by show(w.heap.setIfInBounds b o)[b]?=_;grind
def Gv{L:List (O×dB)}{T E:TypeId}{z:dB}(n:prog.underlying T=H (.map 9 E))(s:∀w,(zeroValue E).run prog w=.ok z w)(h:tq w b L)(k:O):(fO T (.map (H b)) (Y k) I).run prog w=.ok ((Bz L k).getD z) w:=by
 have⟨es,clock,ha,hl⟩:=h;have q:∀x,(gg x 10000 9 (Y k)).run prog w=.ok () w:=λx=>D;have d:=Qf k es.toList L 0 hl;have l:=Td L k 0;cases hq:xo L k 0 with
 |none=>
  rw[hq]at d l;rw[<-l];simp[fO,sY n,Mt ha,q,gj,d,s]
 |some p=>
  rw[hq]at d l;rw[<-l];simp[fO,sY n,Mt ha,q,gj,d]
theorem UB{L:List (O×dB)}{T E:TypeId}(a:prog.underlying T=H (.map 9 E))(h:tq w b L)(k:O)(v:dB):∃Q,(ew T (.map (H b)) (Y k) v).run prog w=.ok () Q/\tq Q b (Gj L k v)/\Z [b] w Q/\Q.heap.size=zq w.heap:=by
 have l:=h.lt;have⟨es,clock,ha,hl⟩:=h;have c:∀x,(gg x 10000 9 (Y k)).run prog w=.ok () w:=λx=>by unfold gg;simp
 have q:=Qf k es.toList L 0 hl;cases hq:xo L k 0 with
 |none=>
  rw[hq]at q;refine⟨setBlock w b (.map (es.push {key:=Y k,val:=v,born:=clock}) (clock+1)),?_,⟨_,_,E9 l _,?_⟩,Am (Z.refl _ _) (.inl (by simp)) _,?_⟩;simp[ew,sY a,Mt ha,c,gj,(sY underlying9 _),q,setObj,Sem.run,ha,setBlock,da];grind[Te,FH,FR];show(w.heap.setIfInBounds b _).size=_;simp
 |some p=>
  have⟨j,u⟩:=p;rw[hq]at q;have⟨n,hj,hn,hkey,hput⟩:=Tf L k 0 j u v hq;have A:j=n:=by omega
  subst A;have a0:es.size=ln L:=by have:=mf ln hl;simpa using this
  have s:(es[j]?).map (·.key)=H (Y k):=by
   have d:(es.toList.map FH)[j]?=(L.map FR)[j]?:=by rw[hl]
   rw[om,om]at d;rw[Xd]at d;rw[qM hn]at hkey d;rw[AQ (by omega)]at d|-;simp[FH,FR]at d hkey|-;rw[d.1,hkey]
  refine⟨setBlock w b (.map (es.modify j λe=>{e with key:=Y k,val:=v}) clock),?_,⟨_,_,E9 l _,?_⟩,Am (Z.refl _ _) (.inl (by simp)) _,?_⟩;have X:(tS (((es[j]?).map (·.key)).getD (Y k)) (Y k)).run prog w=.ok (Y k) w:=by
   rw[s];have U:(k==k)=C:=by rw[Yb];exact jM.2 D
   simp[tS,Instr.sameBits,U]
  simp[ew,sY a,Mt ha,c,gj,(sY underlying9 _),q,X,setObj,Sem.run,ha,setBlock,da];rw[hput];apply List.ext_getElem?;intro i;have d:(es.toList.map FH)[i]?=(L.map FR)[i]?:=by rw[hl]
  grind[FH,FR];show(w.heap.setIfInBounds b _).size=_;simp
section
variable {aJ:Program}{ops:Array Oper}{aI:Exit->Act->J->Prop}{md:gx}
theorem GJ{b:Array Bool->Act->J->Prop}
  (A:∀d a w i,b d a w->i∈fB md ops d->wpOp aJ ops aI i (b (d.setIfInBounds i C)) a w)
  (q:∀d a w,b d a w->fB md ops d=[]->aI .normal a w):∀l d a w,ln ((et ops.size).filter (λi=>!d.getD i C))<=l->b d a w->wpAny aJ md ops aI l d a w:=by
 intro l
 induction l with
 |zero=>
  intro d a w p U;have c:(et ops.size).filter (λi=>!d.getD i C)=[]:=NC (by omega);have g:fB md ops d=[]:=by unfold fB;rw[Ya]at c|-;intro i s f;apply c i s;rw[fq]at f;exact f.1
  exact⟨g,q _ _ _ U g⟩
 |succ n ih=>
  intro d a w p U;refine⟨q _ _ _ U,λi s=>wpOp_mono (λk Q m=>ih _ k Q ?_ m) (A _ _ _ i U s)⟩;have a0:i∈(et ops.size).filter (λi=>!d.getD i C):=by unfold fB at s;rw[Vi,fq]at s;exact nU.2 ⟨s.1,s.2.1⟩
  have e:(et ops.size).filter (λj=>!(d.setIfInBounds i C).getD j C)=((et ops.size).filter (λj=>!d.getD j C)).filter (λj=>j != i):=by rw[List.filter_filter];refine List.filter_congr λj _=>?_;by_cases o:j=i;simp_all;have:i≠j:=λh=>o h.symm;simp_all
  rw[e];have:ln (((et ops.size).filter (λj=>!d.getD j C)).filter (λj=>j != i))<ln ((et ops.size).filter (λj=>!d.getD j C)):=by rw[List.length_filter_lt_length_iff_exists];exact⟨i,a0,by simp⟩
  omega
end
def dn(z:Array Bool)(k:Nat):Bool:=z.getD k C
def cd(z:Array Bool)(k:Nat)(v:dB):dB:=cond (dn z k) v qu
def uP(md:gx)(a:Array Oper)(i:Nat):List Nat:=
 match a[i]? with|some o=>(o.after.toList.filter (du md)).map (·.on)|none=>[]
theorem nf:dn (z.setIfInBounds k C) k=C:=by simp[dn]
theorem jy(h:k≠j):dn (z.setIfInBounds k C) j=dn z j:=getD_set_ne C h
theorem oi{p:Prop}(h:dn z j=C->p)(d:k≠j):dn (z.setIfInBounds k C) j=C->p:=by grind[jy]
theorem kJ(h:dn z k=C):cd z k v=v:=by grind[cd]
theorem aiC(h:dn z k=I):cd z k v=qu:=by grind[cd]
def pA:cd (z.setIfInBounds k C) k v=v:=kJ nf
theorem wY(h:k≠j):cd (z.setIfInBounds k C) j v=cd z j v:=by grind[jy,cd]
def ce(z:Array Bool)(k:Nat)(u v:dB):dB:=cond (dn z k) v u
theorem vX(h:dn z k=C):ce z k u v=v:=by grind[ce]
def vf:ce (z.setIfInBounds k C) k u v=v:=vX nf
theorem DS(h:k≠j):ce (z.setIfInBounds k C) j u v=ce z j u v:=by grind[jy,ce]
theorem tI{n:Nat}:dn (eY n C) k=C:=by unfold dn;rw[ZQ];grind
def xw{n:Nat}:cd (eY n C) k v=v:=kJ tI
def PM{n:Nat}:ce (eY n C) k u v=v:=vX tI
def kY{p:Nat->Prop}:∀k<0,p k:=λ_ h=>absurd h (Nat.not_lt_zero _)
theorem kX{p:Nat->Prop}{n:Nat}(t:∀k<n,p k)(h:p n):∀k<n+1,p k:=λk d=>by grind
def Cm(z:Array Bool)(i:Nat):List Nat->Prop
 |[]=>dn z i=I
 |j::l=>dn z j=C/\Cm z i l
def X4(h:z.getD i C=I):∀{l:List Nat},(∀j∈l,z.getD j C=C)->Cm z i l
 |[],_=>h
 |j::l,hl=>⟨hl j (js ..),X4 h λk d=>hl k (gS _ d)⟩
def yN(md:gx)(a:Array Oper):List (List Nat):=(et a.size).map (uP md a)
def KR:Nat->List (List Nat)->Bool
 |_,[]=>C
 |i,l::ls=>l.all (· < i)&&KR (i+1) ls
theorem YQ:∀{d:List (List Nat)} {i k:Nat} {l:List Nat},KR i d=C->d[k]?=H l->∀j∈l,j<i+k
 |l'::d,i,0,l,h,hk,j,hj=>by grind[KR]
 |l'::d,i,k+1,l,h,hk,j,hj=>by simp[KR]at h;have:=YQ (k:=k) h.2 (by grind) j hj;omega
def Ok:List (List Nat)->List (List Nat)->List (List Nat)
 |acc,[]=>acc
 |acc,l::ls=>Ok (acc++[(l++l.flatMap λj=>acc.getD j []).eraseDups]) ls
theorem Hg:∀(q d:List (List Nat)),(∀k,dn z k=C->∀j∈d.getD k [],dn z j=C)->
  (∀k l,q[k]?=H l->dn z (ln d+k)=C->∀j∈l,dn z j=C)->∀k,dn z k=C->∀j∈(Ok d q).getD k [],dn z j=C
 |[],d,h,_=>h
 |l::q,d,h,hl=>by refine Hg q _ ?_ ?_;intro k s j n;rw[Ce]at n;by_cases U:k<ln d;rw[ZR U]at n;exact h k s j (by grind);by_cases a:k=ln d;subst a;simp at n;have A:=hl 0 l D s;rcases n with n|⟨i,b,n⟩;grind;exact h i (A i b) j (by grind);grind;intro k c s hd j n;refine hl (k+1) c (by grind) ?_ j n;grind
theorem Sv:∀(q d:List (List Nat)),(∀k,∀j∈d.getD k [],j<k)->(∀k l,q[k]?=H l->∀j∈l,j<ln d+k)->∀k,∀j∈(Ok d q).getD k [],j<k
 |[],d,h,_=>h
 |l::q,d,h,hl=>by refine Sv q _ ?_ ?_;intro k j n;rw[Ce]at n;by_cases h1:k<ln d;grind;by_cases s:k=ln d;subst s;simp at n;have U:=hl 0 l D;rcases n with n|⟨i,a,n⟩;grind;have:=h i j (by grind);grind;grind;intro k A hk j n;have:=hl (k+1) A (by grind) j n;grind
def okT(n:Nat)(md:gx)(a:Array Oper)(d:List (List Nat)):Bool:=
 ln d==a.size&&n==a.size&&KR 0 (yN md a)&&(et a.size).all λi=>(d.getD i []).all λj=>((Ok [] (yN md a)).getD i []).contains j
section
variable {aJ:Program}{ops:Array Oper}{aI:Exit->Act->J->Prop}{md:gx}{GA:Type}
theorem oW(mk:GA->Array Bool->Act)(p:GA->Array Bool->J->Prop)(n:Nat)(s:List (List Nat)){a:Act}{w:J}(g:GA)
  (a2:okT n md ops s=C) (ha:a=mk g (eY n I)) (r:p g (eY n I) w)
  (X:∀i<n,∀g z W,p g z W->Cm z i (s.getD i [])->(∀j,i∈s.getD j []->dn z j=I)->
   wpOp aJ ops aI i (λa bI=>∃g,a=mk g (z.setIfInBounds i C)/\p g (z.setIfInBounds i C) bI) (mk g z) W)
  (hd:∀g W,p g (eY n C) W->aI .normal (mk g (eY n C)) W):wpAny aJ md ops aI ops.size (eY ops.size I) a w:=by
 subst ha;simp only[okT,fq,beq_iff_eq,Pf,Vj]at a2;have⟨⟨⟨hnd,hn⟩,hl0⟩,hsub⟩:=a2;have a3:∀i<ops.size,∀j∈uP md ops i,j<i:=by intro i f j d;have:=YQ (i:=0) (k:=i) (l:=uP md ops i) hl0 (by grind[yN]) j d;omega
 rw[hn]at r X hd|-;have F:∀i<ops.size,∀j∈s.getD i [],j<i:=by
  intro i f j d;have h1:=hsub i f j d;refine Sv (yN md ops) [] (by simp) (λk l U=>?_) i j (by grind);have a0:k<ops.size:=by simpa [yN]using (dG.1 U).1
  have:l=uP md ops k:=by simpa [yN,a0]using U.symm
  subst this
  simpa using a3 k a0
 have a1:∀z:Array Bool,(∀j,dn z j=C->∀k∈uP md ops j,dn z k=C)->∀i<ops.size,dn z i=C->∀j∈s.getD i [],dn z j=C:=by
  intro z m i f hd j d;refine Hg (yN md ops) [] (by simp) ?_ i hd j (by grind);intro k l U hd j d;have a0:k<ops.size:=by simpa [yN]using (dG.1 U).1
  have:l=uP md ops k:=by simpa [yN,a0]using U.symm
  subst this;exact m k (by simpa using hd) j d
 have x:∀z:Array Bool,z.size=ops.size->∀i,i∈fB md ops z->z.getD i C=I/\i<ops.size/\∀j∈uP md ops i,z.getD j C=C:=by
  intro z m i f;have⟨a,o,ho,A⟩:=mem_ready.1 f;refine⟨a,(dD.1 ho).1,λj d=>?_⟩;simp only[uP,ho,dW,Vi]at d;obtain⟨e,⟨G,hb⟩,rfl⟩:=d;have h1:=A e (by grind) hb;rw[ZQ]at h1|-;cases hx:z[e.on]? with
  |none=>rfl
  |some b=>grind
 refine GJ (b:=λz a W=>(z.size=ops.size/\∀j,dn z j=C->∀k∈uP md ops j,dn z k=C)/\∃g,a=mk g z/\p g z W) ?_ ?_ _ _ _ _ ?_ ⟨⟨by simp,λj d k U=>?_⟩,g,D,r⟩
 .rintro z a W i⟨⟨m,v⟩,g,rfl,t⟩ f;have⟨a,b,c⟩:=x z m i f;have u:∀j,dn (z.setIfInBounds i C) j=C->∀k∈uP md ops j,dn (z.setIfInBounds i C) k=C:=by
   intro j d k U;have:dn z k=C:=by by_cases E:i=j;subst E;exact c k U;grind[jy]
   by_cases K:i=k;grind[nf];grind[jy]
  refine wpOp_mono (λH bI h=>⟨⟨by grind,λj d k U=>?_⟩,h⟩) (X i b g z W t (X4 a λj d=>?_) λj d=>?_);grind;have hl:=F i b j d;have:=a1 _ u i b nf j d
  rwa [jy (by omega)]at this
  rw[<-Bool.not_eq_true];intro y;by_cases q:j<ops.size;have:=a1 z v j q y i d;grind[dn];grind
 .rintro z a W⟨⟨m,_⟩,g,rfl,t⟩ M;have A:∀i,∀j≤i,z.getD j C=C:=by
   intro i
   induction i with
   |zero=>?_
   |succ i ih=>?_
   all_goals
    intro j d;rw[<-Bool.not_eq_false];intro hf;have q:j<ops.size:=by rw[<-m];apply Decidable.byContradiction;intro h;rw[ZQ,Vk (by omega)]at hf;simp at hf
    have:j∈fB md ops z:=by
     refine mem_ready.2 ⟨hf,ops[j],by simp,λe G hb=>?_⟩;have hl:=a3 j q e.on (by simp only[uP,AQ q,dW,Vi];grind)
     first
     |omega
     |grind
    grind
  have ab:z=eY ops.size C:=by apply Array.ext;grind;intro i h1 L;have:=A i i (dF _);rw[ZQ,AQ h1]at this;grind
  grind
 grind;by_cases q:j<ops.size;simp[dn,q]at d;grind[uP]
end
inductive Nd
 |el (k:Nat)
 |tx (k:Nat)
 |cm (k:Nat)
 |dt (k:Nat)
variable {ns:List Nd}
def Nd.val:Nd->dB
 | .el k=> .iface 68 (dq k)
 | .tx k=> .iface 277 (dq k)
 | .cm k=> .iface 233 (dq k)
 | .dt k=> .iface 237 (dq k)
theorem Nd.one(n:Nd):n.val.oneCell'=C:=by cases n<;>rfl
theorem YW(a:List Nd):∀x∈a.map Nd.val,x.oneCell'=C:=by grind[Nd.one]
structure El(base:Nat)(w:J)(k:Nat)(name:O)(av:dB)(fH:fW)(kv:dB)(ns:List Nd):Prop where
 dP:w.heap[k]?=H (dr #[Y name,av,jl fH,kv] 138)
 row:w.ownsRow base 140 1 kv (ln ns) (ns.map Nd.val)
 le:ln ns<=1048576
 A:∃ao n c,av=.slice ao n c
theorem El.qc{d:O}(h:El R w k d av fH kv ns)(q:w.heap[b]?=H (dr c t))(A:t≠140):kv.ownBlock≠H b:=by intro l;rcases h.row.2 with⟨e,_⟩|⟨g,P,n,e,_,s,_⟩;rw[e]at l;cases l;rw[e]at l;obtain rfl:=jS l;grind
theorem El.kept{d:O}(h:El R w k d av fH kv ns)(l:Z S w Q)(n:k∉S)(q:∀g,kv.ownBlock=H g->g∉S):El R Q k d av fH kv ns:=
 ⟨l.at h.dP n,l.ownsRow h.row q,h.le,h.A⟩
abbrev place(k n:Nat):dB:=.agg #[dq k,G n]
def ajW(a k:Nat)(d:O)(av kv:dB)(fH:fW)(b:List Nd)(w:J)(h:El a w k d av fH kv b):dS 93 #[dq k] w (vc w (place k (ln b))):=by
 obtain⟨ao,P,rfl⟩:=df h.row;have n:=aF h.dP 3;dsimp at n;have q:=fp h.dP;have l:=(Z.refl [] w).alloc (dr #[dq k,G (ln b)] 231);go_enter func93,ntmps93;go_wp2;refine mL ?_ D ⟨D,l⟩;simp[results,results93,asAddr,da,go_sem]
def VI(a k:Nat)(d:O)(av kv:dB)(fH:fW)(b:List Nd)(w:J)(h:El a w k d av fH kv b):dS 269 #[dq k] w λe Q=>e=ff (dq w.heap.size)/\El a Q w.heap.size d av F (gq) []/\Z [] w Q:=by
 have U:w.drew.cell? ⟨k,0,F⟩=H (Y d):=by show w.cell? _=_;rw[aF h.dP];rfl
 have c1:w.drew.cell? ⟨k,1,F⟩=H av:=by show w.cell? _=_;rw[aF h.dP];rfl
 have n:=(Z.refl [] w).drew.alloc (dr #[Y d,av,.pointer F,gq] 138);have l:=(show El a _ w.heap.size d av F (gq) []from⟨aY w.drew _,mY _ _ _ _,by simp,h.A⟩);obtain⟨q,A,s,rfl⟩:=h.A;go_enter func269,ntmps269;go_wp21;go_region;go_wp2;go_ret;exact⟨D,l,n⟩
theorem El.s{n:O}{d:dB}{l:List Nd}(h:El R w k n av fH kv ns)(hb:Q.heap[k]?=w.heap[k]?)(A:Q.ownsRow R 140 1 d (ln l) (l.map Nd.val))(hl:ln l<=1048576):El R (Q.setCell ⟨k,3,F⟩ d) k n av fH d l:=by have s:=hb.trans h.dP;refine⟨bH s 3 d,qo A ?_ _,hl,h.A⟩;intro q;rcases A.2 with⟨e,_⟩|⟨g,P,U,e,_,a,_⟩;rw[e]at q;cases q;rw[e]at q;obtain rfl:=jS q;grind
def El.q{d:O}(h:El R w k d av fH kv ns)(p:fW):El R (w.setCell ⟨k,2,F⟩ (jl p)) k d av p kv ns:=
 ⟨bH h.dP 2 _,qo h.row (h.qc h.dP (by decide)) _,h.le,h.A⟩
def ju{a:Addr}(h:b≠a.block):(w.setCell a u).cell? ⟨b,j,F⟩=w.cell? ⟨b,j,F⟩:=K3 (dE w a u b h)
def ZA{X e:TypeId}(d:prog.underlying X=H (.pointer e))(v:dB)(h:TypeId)(w:J):(dH (.iface X v) h X C).run prog w=.ok (.tuple #[v,.bool C]) w:=by simp[dH,sY d]
def GF{X T e:TypeId}(l:prog.underlying X=H (.pointer e))(h:(prog.info? X).bind (·.zero)=H (.pointer F))(d:T≠X)(v:dB)(n:TypeId)(w:J):(dH (.iface T v) n X C).run prog w=.ok (.tuple #[.pointer F,.bool I]) w:=by have⟨i,hi,h⟩:=Option.bind_eq_some_iff.1 h;simp[dH,sY l,d,zeroValue,typeInfo,hi,h]
structure JB(base k:Nat)(name:O)(av kv:dB)(fH:fW)(ns:List Nd)(w w':J):Prop where
 ex:∃kv',El base w' k name av fH kv' ns/\(kv'.ownBlock=kv.ownBlock\/∀g,kv'.ownBlock=H g->zq w.heap<=g)
 kept:Z (k::kv.ownBlock.toList) w w'
def Sa(a k n:Nat)(h:O)(av:dB)(fH:fW)(e:Option Addr)(c:Nat)(b:List Nd)(x:Nd)(A:TypeId)(s:dB)(w w1:J)(f i q:Bool)(d:dB)(W:J):Prop:=
 if q then JB a k h av (.slice e (ln b) c) fH (b.take n++[x]++b.drop n) w W/\W.heap[zq w.heap]?=H (dr #[dq k,G n] 231)
 else if i then W.ownsRow a 140 1 d (ln b+1) ((b.map Nd.val).take n++[.iface A s]++(b.map Nd.val).drop n)/\Z (cV e (ln b) c).ownBlock.toList w1 W/\(d.ownBlock=(cV e (ln b) c).ownBlock\/∀g,d.ownBlock=H g->zq w1.heap+1<=g)
 else if f then ∃l,Z [] w1 l/\l.heap.size=zq w1.heap/\W=l.alloc (dr #[.iface A s] 140)
 else Z [] w1 W/\W.heap.size=zq w1.heap
theorem Sa.dP{n:Nat}{d:O}{x:Nd}{e:TypeId}{c:dB}{a b l:Bool}{s:dB}(h:Sa R k n d av fH ao P ns x e c w w1 a b l s W)(q:w1.heap[zq w.heap]?=H (dr #[dq k,G n] 231))(A:zq w.heap∉(cV ao (ln ns) P).ownBlock.toList):W.heap[zq w.heap]?=H (dr #[dq k,G n] 231):=by unfold Sa at h;split at h;exact h.2;split at h;exact h.2.1.at q A;split at h;obtain⟨f,U,_,rfl⟩:=h;exact(U.alloc _).at q (by simp);exact h.1.at q (by simp)
theorem Sa.old{n:Nat}{d:O}{x:Nd}{s:TypeId}{q:dB}{a:Bool}{l:dB}(h:Sa R k n d av fH ao P ns x s q w w1 a I I l W):Z [] w1 W:=by unfold Sa at h;grind[Z.alloc]
theorem ahG{n:Nat}{a:dB}{h d:J}(A:Z [] w1 h)(b:zq h.heap=zq w1.heap)(s:W=h.alloc (dr #[u] 140))(q:d.ownsRow R 140 1 a (ln ns+1) ((ns.map Nd.val).take n++[u]++(ns.map Nd.val).drop n))(l:Z (cV ao (ln ns) P).ownBlock.toList W d)(U:a.ownBlock=(cV ao (ln ns) P).ownBlock\/∀k,a.ownBlock=H k->zq W.heap<=k):d.ownsRow R 140 1 a (ln ns+1) ((ns.map Nd.val).take n++[u]++(ns.map Nd.val).drop n)/\Z (cV ao (ln ns) P).ownBlock.toList w1 d/\(a.ownBlock=(cV ao (ln ns) P).ownBlock\/∀g,a.ownBlock=H g->zq w1.heap+1<=g):=by
 subst s;refine⟨q,((A.alloc _).mono (by simp)).trans l,?_⟩;simp_all
theorem ahF{n:Nat}{l:O}{h:Option Addr}{d:Nat}{x:Nd}(q:El R w1 k l av fH (.slice ao (ln ns) P) ns)(k1:Z [] w w1)(i:zq w1.heap=zq w.heap+1)(a:w1.heap[zq w.heap]?=H (dr #[dq k,G n] 231))(U:k∉(cV ao (ln ns) P).ownBlock.toList)(A:zq w.heap∉(cV ao (ln ns) P).ownBlock.toList)(e:n<=ln ns)(hl:ln ns<1048576)(a3:zq w.heap≠k)(a0:x.val=u)
  (f:W.ownsRow R 140 1 (.slice h (ln ns+1) d) (ln ns+1) ((ns.map Nd.val).take n++[u]++(ns.map Nd.val).drop n)) (s:Z (cV ao (ln ns) P).ownBlock.toList w1 W) (hf:(cV h (ln ns+1) d).ownBlock=(cV ao (ln ns) P).ownBlock\/∀g,(cV h (ln ns+1) d).ownBlock=H g->zq w1.heap+1<=g):JB R k l av (.slice ao (ln ns) P) fH (ns.take n++[x]++ns.drop n) w (W.setCell ⟨k,3,F⟩ (.slice h (ln ns+1) d))/\(W.setCell ⟨k,3,F⟩ (.slice h (ln ns+1) d)).heap[zq w.heap]?=H (dr #[dq k,G n] 231):=by
 have a1:ln (ns.take n++[x]++ns.drop n)=ln ns+1:=by grind
 have a2:(ns.take n++[x]++ns.drop n).map Nd.val=(ns.map Nd.val).take n++[u]++(ns.map Nd.val).drop n:=by simp[a0]
 have c:=s.at a A;refine⟨⟨⟨.slice h _ d,q.s ((s.at q.dP U).trans q.dP.symm) (by grind) (by omega),?_⟩,(((k1.mono (by simp)).next s (λy b=> .inl (gS _ b))).setCell (.inl (by simp)) _)⟩,?_⟩;grind;grind[dE]
theorem Y9(c k n:Nat)(d:O)(av kv:dB)(fH:fW)(a:List Nd)(x:Nd)(w:J)(h:El c w k d av fH kv a)(E:n<=ln a)(hl:ln a<1048576)(hb:c<=zq w.heap)(y:J->Prop)
  (R:∀wc,JB c k d av kv fH (a.take n++[x]++a.drop n) w wc->match x with
   | .el j=>(∃p,wc.cell? ⟨j,2,F⟩=H p)/\wc.frozen? ⟨j,2,F⟩=I/\y (wc.setCell ⟨j,2,F⟩ (dq k))
   |_=>y wc):dS 169 #[place k n,x.val] w λe Q=>e=pG/\y Q:=by
 have ak:=fp h.dP;have K:=h.row.lt;obtain⟨w1,f⟩:∃w1,w1=w.alloc (dr #[dq k,G n] 231):=⟨_,D⟩;have k1:Z [] w w1:=by rw[f];exact(Z.refl _ _).alloc _
 have L:w1.heap[zq w.heap]?=H (dr #[dq k,G n] 231):=by rw[f];exact aY w _
 have Y:zq w1.heap=zq w.heap+1:=by rw[f];simp
 have h1:=h.kept k1 (by simp) (by simp);obtain⟨ao,P,rfl⟩:=df h.row;have bI:∀W,Z [] w1 W->zq W.heap=zq w1.heap->dS 260 #[.slice ao (ln a) P,G n,lO w1.heap.size 1 1] (W.alloc (dr #[x.val] 140)) (Jo 140 c (.slice ao (ln a) P) (ln a) n (a.map Nd.val) x.val (W.alloc (dr #[x.val] 140))):=by intro W kW zW;have k2:Z [] w1 (W.alloc (dr #[x.val] 140)):=kW.alloc _;have M:=aY W (dr #[x.val] 140);rw[zW]at M;exact aiL (.inr ⟨D,D,D,D,D,D⟩) c (ln a) n w1.heap.size _ x.val (a.map Nd.val) _ (k2.ownsRow h1.row (λ_ _=>by simp)) M (λe=>by grind) x.one (YW a) E h.le (by grind)
 have s:=V R;have v:=V h1;have a0:=V bI;have a8:=V k1;have a2:=V L;have aa:=V Y;have ah:=V K;have C:=V (show k∉(cV ao (ln a) P).ownBlock.toList by simpa using h1.qc h1.dP (by decide));have a3:=V (show zq w.heap∉(cV ao (ln a) P).ownBlock.toList by grind);have af:zq w.heap≠k:=by omega
 have a9:=V f;clear h h1 bI R k1 L Y K f;obtain⟨m,i,l⟩:∃m i,x.val=.iface m i:=by cases x<;>exact⟨_,_,D⟩
 rw[l]at a0|-;go_enter func169,ntmps169;go_wp21;rw[<-a9.out]
 go_cut []from 6 to 19 (λwc=>JB c k d av (.slice ao (ln a) P) fH (a.take n++[x]++a.drop n) w wc/\wc.heap[zq w.heap]?=H (dr #[dq k,G n] 231))
 case first=>
  refine xr (by rfl) ?_;refine oW (λ(g:dB) z=>⟨#[place k n,.iface m i,dq w.heap.size,qu,qu,qu,cd z 0 (dq w.heap.size),cd z 1 (dq k),cd z 2 (dq w.heap.size),cd z 3 (dq k),cd z 4 (dq k),cd z 5 (gU k 3),cd z 6 (.slice ao (ln a) P),cd z 7 (gU w.heap.size 1),cd z 8 (G n),cd z 9 (.iface m i),cd z 10 (lO w1.heap.size 1 1),cd z 11 (g),cd z 12 (dq k),cd z 13 (gU k 3),qu,qu,qu,qu,qu,qu,qu,qu,qu,qu,qu],[]⟩) (λg z W=>Sa c k n d av fH ao P a x m i w w1 (dn z 10) (dn z 11) (dn z 14) g W) 15 [[],[0],[],[2],[3],[4],[5],[],[7],[],[9],[2,3,4,5,6,7,8,9,10],[1],[12],[0,1,2,3,4,5,6,7,8,9,10,11,12,13]] (qu) D (by rfl) (⟨(Z.refl [] w1).drew,D⟩) ?_ ?_
  .repeat' first|exact kY|refine kX ?_ ?_
   all_goals
    rintro g z W o t u;simp[Cm]at t;refine lz D ?_;intro K' U;simp only[kJ,t];have N:=o.dP a2 a3;have ai:W.cell? ⟨zq w.heap,0,F⟩=H (dq k):=by rw[aF N];rfl
    have aj:W.cell? ⟨zq w.heap,1,F⟩=H (G n):=by rw[aF N];rfl
    have q:=o
    try simp only[t]at q
    try rw[u 14 (by decide)]at q
    try rw[u 11 (by decide)]at q
    try (have cK:W.cell? ⟨k,3,F⟩=H (.slice ao (ln a) P):=(by rw[aF (q.old.at v.out.dP (by simp))];rfl))
    go_simp
    first
    |refine U _ _ ⟨g,?_,(by rw[jy (by decide),jy (by decide),jy (by decide)];exact o)⟩
    |have q:Z [] w1 W/\W.heap.size=zq w1.heap:=q;refine U _ _ ⟨g,?_,(by rw[nf,jy (by decide),jy (by decide),u 11 (by decide),u 14 (by decide)];grind[Sa])⟩;simp[pA,wY,kJ,t,q.2]
    |obtain⟨r,T,X,S⟩:∃r,Z [] w1 r/\r.heap.size=zq w1.heap/\W=r.alloc (dr #[.iface m i] 140):=q;have B:=V (a0 r T X);rw[<-S]at B;refine B.mono ?_;rintro e W2⟨v',rfl,ag,ae,ad⟩;refine U _ _ ⟨v',?_,(by rw[nf,jy (by decide),jy (by decide),u 14 (by decide)];exact ahG T X S ag ae ad)⟩
    |obtain⟨bC,hk,hf⟩:W.ownsRow c 140 1 g (ln a+1) ((a.map Nd.val).take n++[Value.iface m i]++(a.map Nd.val).drop n)/\Z (cV ao (ln a) P).ownBlock.toList w1 W/\(g.ownBlock=(cV ao (ln a) P).ownBlock\/∀b,g.ownBlock=H b->zq w1.heap+1<=b):=q;obtain⟨ab,a5,rfl⟩:=df bC;have aJ:=hk.at v.dP C;have cK:W.cell? ⟨k,3,F⟩=H (.slice ao (ln a) P):=(by rw[aF aJ];rfl);have zK:=cY aJ 3;go_simp;refine U _ _ ⟨.slice ab (ln a+1) a5,?_,(by rw[nf];exact ahF v a8 aa a2 C a3 E hl af l bC hk hf)⟩
    all_goals simp[pA,wY,kJ,t]
  .rintro g W o;rw[tI,tI,tI]at o;simp only[xw];rename_i JJ ac;refine ac _ _ ?_;go_meet;exact o
 case rest=>
  have⟨hp,hbx⟩:=hcut;have A:=s _ hp;clear hp a0 v s;cases x with
  |el j=>
   have⟨⟨p,c2⟩,fz,A⟩:=A;have s:=V A;injection l with e1 e2;subst e1 e2;have cb:wc.cell? ⟨zq w.heap,0,F⟩=H (dq k):=by rw[aF hbx];rfl
   have a1:=ZA (X:=68) underlying68;clear hbx A;go_wp2;go_end0;exact⟨D,s⟩
  |tx j=>
   have s:=V A;injection l with e1 e2;subst e1 e2;have a1:=GF (X:=68) (T:=277) underlying68 D (by decide);clear A;go_wp2;go_end0;exact⟨D,s⟩
  |cm j=>
   have s:=V A;injection l with e1 e2;subst e1 e2;have a1:=GF (X:=68) (T:=233) underlying68 D (by decide);clear A;go_wp2;go_end0;exact⟨D,s⟩
  |dt j=>
   have s:=V A;injection l with e1 e2;subst e1 e2;have a1:=GF (X:=68) (T:=237) underlying68 D (by decide);clear A;go_wp2;go_end0;exact⟨D,s⟩
theorem akG(a k n:Nat)(d:O)(av kv:dB)(fH:fW)(b:List Nd)(x:Nd)(w:J)(h:El a w k d av fH kv b)(s:n<=ln b)(q:ln b<1048576)(l:a<=zq w.heap)(U:∀j,x≠ .el j):dS 169 #[place k n,x.val] w λe Q=>e=pG/\JB a k d av kv fH (b.take n++[x]++b.drop n) w Q:=by
 refine Y9 a k n d av kv fH b x w h s q l _ λwc A=>?_;grind
theorem akF(a k n j:Nat)(d U:O)(av kv s q:dB)(fH a1:fW)(b a0:List Nd)(w:J)(h:El a w k d av fH kv b)(f:El a w j U s a1 q a0)(a2:j≠k)(u:∀g,q.ownBlock=H g->kv.ownBlock≠H g)(r:n<=ln b)(hl:ln b<1048576)(hb:a<=zq w.heap):dS 169 #[place k n,(Nd.el j).val] w λe Q=>e=pG/\(∃l,El a Q k d av fH l (b.take n++[.el j]++b.drop n)/\(l.ownBlock=kv.ownBlock\/∀g,l.ownBlock=H g->zq w.heap<=g))/\El a Q j U s (H k) q a0/\Z (j::k::kv.ownBlock.toList) w Q:=by
 refine Y9 a k n d av kv fH b _ w h r hl hb _ λwc i=>?_;have o:∀g,q.ownBlock=H g->g∉k::kv.ownBlock.toList:=by intro g p A;rcases bZ.1 A with rfl|A;exact f.qc h.dP (by decide) p;grind
 have a3:j∉k::kv.ownBlock.toList:=by intro A;rcases bZ.1 A with e|A;omega;exact h.qc f.dP (by decide) (by grind)
 have c:=f.kept i.kept a3 o;have⟨l,E2,f2⟩:=i.ex;have m:El a (wc.setCell _ (jl (H k))) k d av fH l _:=
  ⟨by rw[dE wc ⟨j,2,F⟩ _ k (yz a2)];exact E2.dP,qo E2.row (E2.qc c.dP (by decide)) _,E2.le,E2.A⟩
 exact⟨⟨_,(by rw[aF c.dP];rfl)⟩,(cY c.dP 2),⟨l,m,f2⟩,c.q (H k),(i.kept.mono (λy t _=>gS _ t)).setCell (.inl (by simp)) _⟩
def Nd.dP:Nd->Nat
 | .el k=>k
 | .tx k=>k
 | .cm k=>k
 | .dt k=>k
def Nd.d:Nd->TypeId
 | .el _=>138
 | .tx _=>280
 | .cm _=>235
 | .dt _=>239
def Bt(w:J)(x:Nd):Prop:=∃c,w.heap[x.dP]?=H (dr c x.d)
def Nd.dO(j:Nat):Nd->Bool
 | .el k=>k==j
 |_=>I
def ndc:(prog.info? 68).map (λi=>i.comparable)=H C:=by kernel_rfl
def FQ{T U:TypeId}(l:T≠U)(w:J):(binOp .eql 140 (.iface T v) (.iface U u)).run prog w=.ok (.bool I) w:=by
 have h:∀d:Nat,(Op.equalIn (d+1) 140 (.iface T v) (.iface U u)).run prog w=.ok I w:=λd=>by simp[Op.equalIn,sY underlying140,l]
 simp only[binOp];simp[Op.equal,Op.maxDepth,h 9999]
def ajX{x:Nd}(s:Bt w x)(n:Bt w (.el j)):(binOp .eql 140 x.val (Nd.el j).val).run prog w=.ok (.bool (x.dO j)) w:=by
 obtain⟨i,l,d⟩:=eM.1 ndc;have⟨q,hq,hqs⟩:=eM.1 Ym;cases x with
 |el k=>
  by_cases h:k=j;subst h;have e:(Nd.el k).dO k=C:=by simp[Nd.dO]
  rw[e];exact run_eql_iface_ptr_same w _ underlying140 underlying68 l d hq;have⟨ca,ha⟩:=s;have⟨cb,hb⟩:=n;have e:(Nd.el k).dO j=I:=by simp[Nd.dO,h]
  rw[e];exact run_eql_iface_ptr_other w underlying140 underlying68 l d hq (by omega) (by simp) ha hb
 |tx k=>exact FQ (by decide) w
 |cm k=>exact FQ (by decide) w
 |dt k=>exact FQ (by decide) w
def GI(x:Nd):∃T v,x.val=.iface T (.pointer v):=by cases x<;>exact⟨_,_,D⟩
def Tu(d j:Nat)(x:Nd)(w:J)(q:w.cell? ⟨d,0,F⟩=H (dq j))(n:Bt w x)(l:Bt w (.el j)):Calls prog 365 #[x.val,dq d] w λe Q=>e=ff (.bool (x.dO j))/\Q=w:=by
 have h:=ajX n l;have⟨T,p,hv⟩:=GI x;rw[hv]at h|-;unfold Nd.val at h;go_wp2;go_ret;simp
def oS(a:List Nd)(p:Nd->Bool):Int:=if a.findIdx p<ln a then (a.findIdx p:Int)else -1
theorem ag8(kv:dB)(a:List Nd)(b s j:Nat)(w:J)(y:w.ownsRow b 140 1 kv (ln a) (a.map Nd.val))(v:∀x∈a,Bt w x)(t:Bt w (.el j))(hb:w.cell? ⟨s,0,F⟩=H (dq j))(a0:ln a<=1048576):dS 364 #[kv,.func (.func 365) #[] #[dq s]] w λe Q=>e=ff (G (oS a (Nd.dO j)))/\Q=w:=by
 have f:=(λx z=>Tu s j x w hb (v x z) t);rcases y.2 with⟨rfl,r⟩|⟨g,P,A,rfl,_,l,a2,_,_,h⟩
 .have q:a=[]:=NC r;subst q;go_enter func364,ntmps364;go_wp2;refine wK 1 ?_;rw[nP];go_wp2;go_ret;simp[oS]
 .have o:∀k,(U:k<ln a)->w.cell? ⟨g,k,F⟩=H a[k].val:=by
   intro k U;rw[aF l];have:(A.toList.take (ln a*1))[k]?=H a[k].val:=by rw[h];simp[U]
   rw[Vl]at this;split at this;grind;omega
  go_enter func364,ntmps364;go_wp2
  go_loopw [8] (λi wr=>∃k:Nat,k<=ln a/\i=G k/\wr=w/\∀m,(u:m<ln a)->m<k->(a[m]).dO j=I) (λi _=> ln a-(intOf i).toNat)
  case atStart=>grind
  case round=>
   obtain⟨k,U,rfl,rfl,bI⟩:=hrel;by_cases n:k<ln a
   .have c2:=o k n;have d:=f a[k] (uI n);have⟨T,p,hv⟩:=GI a[k];rw[hv]at c2 d;cases hq:(a[k]).dO j with
    |true=>
     rw[hq]at d;have c:=V ((by show oS a (Nd.dO j)=k;grind[oS]))
     go_wp21;refine d.mono ?_;rintro e Q⟨rfl,hw⟩;subst hw;go_wp2;go_ret;exact⟨by rw[c.out];rfl,rfl⟩
    |false=>
     rw[hq]at d;have C:=hq;go_wp21;refine d.mono ?_;rintro e Q⟨rfl,hw⟩;subst hw;go_wp2;go_roundw
     case rel=>
      refine⟨k+1,by omega,by go_num,by simp,λm u a1=>?_⟩;grind
     case measure=>simp[intOf];omega
   .have c:=V ((by show oS a (Nd.dO j)= -1;grind[oS]))
    go_wp2;go_ret;exact⟨by rw[c.out];rfl,rfl⟩
theorem KH(a k j:Nat)(d:O)(av kv:dB)(fH:fW)(b:List Nd)(w:J)(h:El a w k d av fH kv b)(A:∀x∈b,Bt w x)(q:Bt w (.el j)):dS 342 #[dq k,dq j] w λe Q=>e=ff (G (oS b (Nd.dO j)))/\Z [] w Q:=by
 have l:Z [] w (w.alloc (dr #[dq j] 68)):=(Z.refl _ _).alloc _;have nd:∀x,Bt w x->Bt _ x:=λx ⟨c,n⟩=>⟨c,l.at n (by simp)⟩;have c3:=aF h.dP 3;have s:=fp h.dP;go_enter func342,ntmps342;go_wp21;refine(ag8 kv b a w.heap.size j _ (l.ownsRow h.row (λ_ _=>by simp)) (λx U=>nd x (A x U)) (nd _ q) (by simp) h.le).mono ?_;rintro e Q⟨rfl,rfl⟩;go_wp2;go_ret;simp_all
theorem KU{l:O}(h:El R w k l av fH kv ns){m:Nat}(U:m<ln ns):∃g P,kv=lO g (ln ns) P/\w.cell? ⟨g,m,F⟩=H ns[m].val:=by
 rcases h.row.2 with⟨_,A⟩|⟨g,P,n,rfl,_,d,s,_,_,q⟩;omega;refine⟨g,P,D,?_⟩;rw[aF d];have:(n.toList.take (ln ns*1))[m]?=H ns[m].val:=by grind
 grind
theorem Nh(a k m A:Nat)(a0 d s:O)(av kv:dB)(fH:fW)(b:List Nd)(w:J)(h:El a w k a0 av fH kv b)(j:m<ln b)(p:b[m]=.tx A)(o:w.heap[A]?=H (dr #[Y d] 280))(E:d.size+s.size<=1048576):dS 176 #[place k (m+1),Y s] w λe Q=>e=pG/\Q.heap[A]?=H (dr #[Y (d++s)] 280)/\Z [A] w Q:=by
 obtain⟨g,P,rfl,c4⟩:=KU h j;rw[p]at c4;have z:=fp h.dP;have ab:=fp o;have bI:=h.le;obtain⟨w1,l⟩:∃w1,w1=w.alloc (dr #[dq k,G ((m+1:Nat))] 231):=⟨_,D⟩;have n:Z [] w w1:=by rw[l];exact(Z.refl _ _).alloc _
 have i:w1.heap[zq w.heap]?=H (dr #[dq k,G ((m+1:Nat))] 231):=by rw[l];exact aY w _
 have h1:=h.kept n (by simp) (by simp);have q:=n.at o (by simp);have a1:=aF i 0;have a2:=aF i 1;have a3:=aF h1.dP 3;dsimp at a1 a2 a3;have r:w1.cell? ⟨g,m,F⟩=H (Nd.tx A).val:=by have⟨g',cap',e,c⟩:=KU h1 j;injection e with e1;injection e1 with e2;injection e2 with e3;rw[e3,c,p]
 unfold Nd.val at r;have f:=aF q 0;have t:=cY q 0;dsimp at f;have I:=ZA (X:=277) underlying277;have U:=V l;have C:(m:Int)<ln b:=by omega
 clear l;go_enter func176,ntmps176;go_wp21;rw[show((m+1:Nat):Int)=(m:Int)+1 by omega]at U;rw[<-U.out]
 go_quiet (fail)
 have x:=f;have y:=t;have u:=bH (w:=w1.drewN nq) q 0 (Y (d++s));have v:=((n.mono (S':=[A]) (by simp)).drewN nq).setCell (p:=⟨A,0,F⟩) (.inl (by simp)) (Y (d++s));go_wp2;refine mL (II D _ _ _) D ?_;grind
theorem QV(b k n:Nat)(a0 s:O)(av kv:dB)(fH:fW)(a:List Nd)(w:J)(h:El b w k a0 av fH kv a)(M:n<=ln a)(B:J->Prop)(l:∀w1,Z [] w w1->dS 169 #[place k n,(Nd.tx w1.heap.size).val] (w1.alloc (dr #[Y s] 280)) λe Q=>e=pG/\B Q)(v:∀m,(i:m<ln a)->n=m+1->∀t,a[m]≠ .tx t):dS 176 #[place k n,Y s] w λe Q=>e=pG/\B Q:=by
 have bI:=fp h.dP;have E:=h.le;obtain⟨w1,d⟩:∃w1,w1=w.alloc (dr #[dq k,G n] 231):=⟨_,D⟩;have k1:Z [] w w1:=by rw[d];exact(Z.refl _ _).alloc _
 have j:w1.heap[zq w.heap]?=H (dr #[dq k,G n] 231):=by rw[d];exact aY w _
 have h1:=h.kept k1 (by simp) (by simp);have a1:=aF j 0;have U:=aF j 1;dsimp at a1 U;have A:=V d;have c:zq w1.heap=zq w.heap+1:=by rw[d];simp
 by_cases u:n=0
 .subst u;have o:=l w1 k1;rw[c,d]at o;have f:=(o);clear d c;go_enter func176,ntmps176;go_wp21;refine f.mono ?_;rintro e Q⟨rfl,r⟩;go_wp2;go_end0;grind
 .obtain⟨m,rfl⟩:∃m,n=m+1:=⟨n-1,by omega⟩;have i:m<ln a:=by omega
  have L:=v m i D;have⟨g,P,hkv,c4⟩:=KU h1 i;subst hkv;have a2:=aF h1.dP 3;dsimp at a2;have a3:∀(p:TypeId)(w:J),(dH a[m].val p 277 C).run prog w=.ok (.tuple #[.pointer F,.bool I]) w:=by
   intro p w;cases hq:a[m]with
   |tx t=>grind
   |el t=>exact GF (X:=277) underlying277 D (by decide) _ _ _
   |cm t=>exact GF (X:=277) underlying277 D (by decide) _ _ _
   |dt t=>exact GF (X:=277) underlying277 D (by decide) _ _ _
  have f:=
   λq=>l (w1.drewN q) (k1.drewN q)
  have⟨xt,xp,hxv⟩:=GI a[m];rw[hxv]at c4 a3;have K:(m:Int)<ln a:=by omega
  have x:w1.cell? ⟨zq w.heap,1,F⟩=H (G ((m:Int)+1)):=U;have y:zq w.heap<zq w1.heap:=by omega
  rw[show((m+1:Nat):Int)=(m:Int)+1 by omega]at A;have z:=V c;clear d c;go_enter func176,ntmps176;go_wp21;rw[<-A.out]
  go_quiet (fail)
  go_wp21;refine(f nq).mono ?_;rintro e Q⟨rfl,r⟩;go_wp2;go_end0;grind
theorem Bt.kept{x:Nd}(h:Bt w x)(d:Z [] w Q):Bt Q x:=by have⟨c,hc⟩:=h;exact⟨c,d.at hc (by simp)⟩
theorem El.n{d:O}(h:El R w k d av fH kv ns):Bt w (.el k):=⟨_,h.dP⟩
def Py(w:J)(o:Obj):∃W,W=w.alloc o/\Z [] w W/\W.heap[zq w.heap]?=H o/\W.heap.size=zq w.heap+1:=⟨_,D,(Z.refl _ _).alloc _,aY w _,by simp⟩
def adB(a j:Nat)(d:O)(av kv:dB)(b:List Nd)(w:J)(h:El a w j d av F kv b):dS 315 #[dq j] w (vc w (.tuple #[.agg #[.pointer F,G 0],.bool I])):=by
 have q:=(aF h.dP 2).trans D;have n:=fp h.dP;have l:=(Z.refl [] w).alloc (dr #[.pointer F,G 0] 231);go_enter func315,ntmps315;go_wp2;refine mL ?_ D ⟨D,l⟩;simp[results,results315,asAddr,da,go_sem]
def aaR(a j p:Nat)(a1 a2:O)(av kv U a0:dB)(l:fW)(t d:List Nd)(w:J)(h:El a w j a1 av (H p) kv t)(o:El a w p a2 U l a0 d)(m:∀x∈d,Bt w x):dS 315 #[dq j] w (vc w (.tuple #[.agg #[dq p,G (oS d (Nd.dO j))],.bool C])):=by
 have⟨w1,hw1,HK1,HG1,z1⟩:=Py w (dr #[.pointer F,G 0] 231);have c2:=(aF (HK1.at h.dP (by simp)) 2).trans D;have v:=fp h.dP;have s:j≠zq w.heap:=by omega
 have c:=(λ(W:J) (hk:Z [] w W)=>KH a p j a2 U a0 l d W (o.kept hk (by simp) (λ_ _=>by simp)) (λx r=>(m x r).kept hk) (h.n.kept hk));have u:w.cell? ⟨j,2,F⟩=H (dq p):=(aF h.dP 2).trans D;have i:=V hw1;have f:=h.dP;clear hw1;generalize oS d (Nd.dO j)=q at c|-;go_enter func315,ntmps315;go_wp21;rw[<-i.out]
 go_region_held3 (λQ=>Q.cell? ⟨j,2,F⟩=H (dq p)) ((first|assumption|go_keep|exact(ju s).trans (by assumption)|exact(ju s).trans ((ju s).trans (by omega)))) ((go_at_call 342;refine(c _ HK1.drew).mono ?_;rintro e w2⟨rfl,n⟩;have b:Z [] w w2:=HK1.drew.trans n;have d2:w2.cell? ⟨j,2,F⟩=H (dq p):=(aF (b.at f (by simp)) 2).trans D;have A:w2.heap[zq w.heap]?=H (dr #[.pointer F,G 0] 231):=((Z.refl [] w1).drew.trans n).at HG1 (by simp);have y:w2.cell? ⟨zq w.heap,0,F⟩=H (.pointer F):=(aF A 0).trans D;have e1:w2.cell? ⟨zq w.heap,1,F⟩=H (G 0):=(aF A 1).trans D;have z:=cY A 0;have bI:=cY A 1;have a3:=V A;have g:=V b;clear A b n))
 all_goals (try (go_wp21))
 have hb:=bH (bH a3 0 (dq p)) 1 (G q);have k:=aF hb;refine mL ?_ D ⟨D,(g.setCell (p:=⟨zq w.heap,0,F⟩) (.inr (dF _)) _).setCell (p:=⟨zq w.heap,1,F⟩) (.inr (dF _)) _⟩;simp[results,results315,asAddr,da,go_sem,k]
theorem ahJ{h d:io}(b:i<ln ns)(l:R<=g)(n:Q.heap[g]?=H (dr d 140))(e:d.size=P)(c:ln ns<=P)(s:P<=maxLen)(A:h.toList.take (ln ns)=ns.map Nd.val)(U:d.toList.take (ln ns-1)=(h.toList.take (ln ns)).take i++(h.toList.take (ln ns)).drop (i+1)):Q.ownsRow R 140 1 (lO g (ln ns-1) P) (ln (ns.eraseIdx i)) ((ns.eraseIdx i).map Nd.val):=by
 have q:ln (ns.eraseIdx i)=ln ns-1:=by grind
 have a:(ns.eraseIdx i).map Nd.val=(h.toList.take (ln ns)).take i++(h.toList.take (ln ns)).drop (i+1):=by rw[A,tO,sy,ZP,n9]
 refine⟨by simp,.inr ⟨g,P,d,by rw[q],l,n,by omega,s,by omega,?_⟩⟩;grind
def aiu(a p i g b:Nat)(a0:O)(s:dB)(q:fW)(h:List Nd)(n:io)(w:J)(A U:Bool)(W:J):Prop:=
 if U then (∃l,El a W p a0 s q l (h.eraseIdx i)/\l.ownBlock=H g)/\Z [p,g] w W else if A then Z [g] w W/\∃d,W.heap[g]?=H (dr d 140)/\d.size=b/\d.toList.take (ln h-1)=(n.toList.take (ln h)).take i++(n.toList.take (ln h)).drop (i+1)else Z [] w W
theorem UZ(a j p i:Nat)(B o:O)(av kv a2 a1:dB)(U:fW)(ns d:List Nd)(w:J)(h:El a w j B av (H p) kv ns)(b:El a w p o a2 U a1 d)(m:∀x∈d,Bt w x)(al:j≠p)(ag:∀g,kv.ownBlock=H g->a1.ownBlock≠H g)(hi:i<ln d)(R:oS d (Nd.dO j)=(i:Int)):dS 368 #[dq j] w λe Q=>e=pG/\(∃A,El a Q p o a2 U A (d.eraseIdx i)/\A.ownBlock=a1.ownBlock)/\El a Q j B av F kv ns/\Z (j::p::a1.ownBlock.toList) w Q:=by
 obtain⟨g,P,l,rfl,T,s,a0,an,ap,I⟩:∃g P l,a1=lO g (ln d) P/\a<=g/\w.heap[g]?=H (dr l 140)/\(ln d)<=P/\P<=maxLen/\l.size=P/\l.toList.take (ln d)=d.map Nd.val:=by rcases b.row.2 with⟨_,e0⟩|⟨g,P,l,e,hb,s,a0,hm,X,ht⟩;omega;exact⟨g,P,l,e,hb,s,a0,hm,by simpa using X,by simpa using ht⟩
 have M:=V (KH a p j o a2 _ U d w b m h.n);rw[R]at M;have ak:g≠p:=by have:=b.qc b.dP (by decide);simpa [dl]using this
 have aj:g≠j:=by have:=b.qc h.dP (by decide);simpa [dl]using this
 have c2:w.cell? ⟨j,2,F⟩=H (dq p):=(aF h.dP 2).trans D;have CD:Hid (∀(W:J),Z [] w W->dS 380 #[lO g (ln d) P,G i,G ((i:Int)+1)] W λe Q=>e=ff (lO g (ln d-1) P)/\
   ∃n,Q.heap[g]?=H (dr n 140)/\n.size=P/\n.toList.take (ln d-1)=(l.toList.take (ln d)).take i++(l.toList.take (ln d)).drop (i+1)/\Z [g] W Q):=V (λW hk=>by
  rw[show((i:Int)+1)=((i+1:Nat):Int) by omega];have Y:=ac1 (.inr ⟨D,D,D,D⟩) g P i (i+1) (ln d) l W (hk.at s (by simp)) a0 ap (by omega) (by omega) b.le (by rw[I];exact YW d);rw[show i+1-i=1 by omega]at Y;exact Y)
 have aM:(0:Int)<=(i:Int):=by omega
 have aL:(i:Int)<1048576:=by have:=b.le;omega
 have r:=V h;have c:=V b;have aq:=V ag;have aB:=V a0;have aA:=V an;have aE:=V I;have N:=V hi;have ar:=V T;have bI:=V al;have aw:=V ak;have y:=V aj;clear h b m ag a0 an I hi T al ak aj s ap R;go_enter func368,ntmps368;go_wp2_with fail;refine M.out.mono ?_;rintro e w1⟨rfl,a3⟩;have ay:=V a3;have d2:w1.cell? ⟨j,2,F⟩=H (dq p):=(aF (a3.at r.out.dP (by simp)) 2).trans D;have d3:w1.cell? ⟨p,3,F⟩=H (lO g (ln d) P):=(aF (a3.at c.out.dP (by simp)) 3).trans D;clear a3 c2;go_wp2_with fail;refine xr (by kernel_rfl) ?_;refine oW (λ(u:Unit) z=>⟨#[dq j,qu,G i,dq j,dq j,gU j 2,dq p,.bool C,dq j,dq j,gU j 2,dq p,dq j,G i,cd z 0 (dq j),cd z 1 (dq j),cd z 2 (gU j 2),cd z 3 (dq p),cd z 4 (dq j),cd z 5 (dq j),cd z 6 (gU j 2),cd z 7 (dq p),cd z 8 (dq p),cd z 9 (gU p 3),cd z 10 (lO g (ln d) P),cd z 11 (G i),cd z 12 (G i),cd z 13 (G ((i:Int)+1)),cd z 14 (lO g (ln d-1) P),cd z 15 (dq p),cd z 16 (gU p 3),qu,qu,qu],[]⟩) (λu z W=>aiu a p i g P o a2 U d l w (dn z 14) (dn z 17) W) 18 [[],[0],[1],[2],[],[4],[5],[6],[7],[8],[9],[],[],[12],[4,5,6,7,8,9,10,11,12,13],[3],[15],[0,1,2,3,4,5,6,7,8,9,10,11,12,13,14,15,16]] (()) (by kernel_rfl) (by kernel_rfl) (ay.out.drew) ?_ ?_
 .repeat' first|exact kY|refine kX ?_ ?_
  all_goals
   rintro u z W k v m;simp[Cm]at v;refine lz D ?_;intro K' E;simp only[kJ,v];have c0:W.cell? ⟨j,2,F⟩=H (dq p):=(aF ((show Z [p,g] w W by unfold aiu at k;grind[Z.mono]).at r.out.dP (by have:=y.out;have:=bI.out;simp;omega)) 2).trans D
   have q:=k
   try simp only[v]at q
   try rw[m 17 (by decide)]at q
   try rw[m 14 (by decide)]at q
   try (have q:Z [] w W:=q;have c3:W.cell? ⟨p,3,F⟩=H (lO g (ln d) P):=(aF (q.at c.out.dP (by simp)) 3).trans D)
   go_simp
   try rw[show IntKind.i64.wrap ((i:Int)+1)=(i:Int)+1 by rw[IntKind.wrap_i64];omega]
   first
   |refine E _ _ ⟨u,?_,(by rw[jy (by decide),jy (by decide)];exact k)⟩
   |refine(CD.out W q).mono ?_;rintro e w2⟨rfl,n,K,ad,ab,aK⟩;refine E _ _ ⟨u,?_,(by rw[nf,jy (by decide),m 17 (by decide)];exact⟨(Z.mono q (by simp)).trans aK,n,K,ad,ab⟩)⟩
   |obtain⟨q,n,K,ad,ab⟩:=q;have L:=q.at c.out.dP (by have:=aw.out;simp;omega);have c3:W.cell? ⟨p,3,F⟩=H (lO g (ln d) P):=(aF L 3).trans D;have y3:=cY L 3;go_simp;refine E _ _ ⟨u,?_,(by rw[nf];exact⟨⟨_,c.out.s (L.trans c.out.dP.symm) (ahJ N.out ar.out K ad aB.out aA.out aE.out ab) (by rw[List.length_eraseIdx_of_lt N.out];have:=c.out.le;omega),D⟩,(Z.mono q (by simp)).setCell (p:=⟨p,3,F⟩) (.inl (by simp)) _⟩)⟩
   simp[pA,wY,kJ,v]
 .rintro u W k;rw[tI,tI]at k;simp only[xw];obtain⟨⟨A,hE,ho⟩,hk⟩:=k;have t:=r.out.kept hk (by have:=y.out;have:=bI.out;simp;omega) (λx f=>by have h1:=aq.out x f;have h2:=r.out.qc c.out.dP (by decide);rw[f]at h2;simp[dl]at h1 h2;simp;omega)
  have au:=V hE;have bC:=V ho;have az:=V hk;have ax:=V (t.q F);have j2:W.cell? ⟨j,2,F⟩=H (dq p):=(aF t.dP 2).trans D;have z2:=cY t.dP 2;clear hE ho hk t;rename_i KK S;refine S _ _ ?_;clear S KK;go_wp2;go_end0;refine⟨D,⟨A,au.out.kept ((Z.refl [j] W).setCell (p:=⟨j,2,F⟩) (.inl (by simp)) _) (by have:=bI.out;simp;omega) (λx f=>?_),bC.out⟩,ax.out,?_⟩;rw[bC.out]at f;have e:=jS f;have:=y.out;simp;omega;refine(az.out.mono (S':=j::p::[g]) ?_).setCell (p:=⟨j,2,F⟩) (.inl (by simp)) _;intro x f _;exact gS _ f
structure mh where
 name:O
 A:iB
 E:fW
 q:List Nd
variable {e ei ej:mh}
inductive zE
 |el (e:mh)
 |tx (s:O)
 |cm (s:O)
 |dt (s:O)
variable {nd:zE}
structure N where
 d:List zE
 A:iU
 B:iU
 head:fW
 j:fW
 g:Nat
 kept:Nat
 L:List (Nat×Nat×O)
 U:Bool
 W:Bool
 K:Nat
 P:Bool
 a:O
 S:Bool
 E:Bool
 Q:Nat
 R:Nat
 T:Nat
variable {U σ' σ1:N}
inductive pj(α:Type)
 |ok (a:α) (σ:N)
 |stop (e:Nat) (dN:Nat)
 |stuck
def M(a:Type):=N->pj a
namespace M
def pure{b:Type}(a:b):M b:=λU=> .ok a U
def bind{b d:Type}(m:M b)(f:b->M d):M d:=λU=>match m U with
 | .ok a σ'=>f a σ'
 | .stop e p=> .stop e p
 | .stuck=> .stuck
instance :Monad M where
 pure:=M.pure
 bind:=M.bind
end M
theorem M.cW{b d:Type}(m:M b)(f:b->M d)(U:N):(m>>=f) U=match m U with
 | .ok a σ'=>f a σ'
 | .stop e p=> .stop e p
 | .stuck=> .stuck:=rfl
def stuck{a:Type}:M a:=λ_=> .stuck
def oc(f:N->N):M Unit:=λU=> .ok () (f U)
def N.h(U:N)(i:Nat):Option mh:=match U.d[i]? with
 |some (.el e)=>H e
 |_=>F
def N.dO(U:N)(x:fW):Bool:=match x with
 |none=>C
 |some i=>(U.h i).isSome
def N.lj(U:N)(x:fW):Bool:=match x with
 |none=>I
 |some i=>(U.h i).isSome
theorem N.vm(h:U.lj x=C):U.dO x=C:=by
 cases x with
 |none=>rfl
 |some i=>exact h
def N.q(U:N):Nd->Bool
 | .el i=>(U.h i).isSome
 | .tx i=>match U.d[i]? with|some (.tx _)=>C|_=>I
 | .cm i=>match U.d[i]? with|some (.cm _)=>C|_=>I
 | .dt i=>match U.d[i]? with|some (.dt _)=>C|_=>I
def N.l(U:N)(i:Nat)(e:mh):N:={U with d:=U.d.set i (.el e)}
def N.add(U:N)(n:zE):N:={U with d:=U.d++[n]}
def N.il(U:N)(n:zE)(d:Bool):N:={U with d:=U.d++[n],E:=d}
def ai9:O:=aC
def ai8:O:=aO
def l4(s:O):Bool:=fG s ai9||fG s ai8
structure Wf(σ:N):Prop where
 A:∀x∈σ.A,σ.lj x=C
 B:∀x∈σ.B,σ.dO x=C
 head:σ.dO σ.head=C
 j:σ.dO σ.j=C
 E:∀i e,σ.h i=H e->σ.dO e.E=C
 q:∀i e,σ.h i=H e->∀k∈e.q,σ.q k=C
 u:(σ.h 0).isSome=C
theorem N.n(h:U.h i=H e):i<ln U.d:=by unfold N.h at h;grind
theorem N.eH(h:U.h i=H e):U.d[i]?=H (.el e):=by unfold N.h at h;grind
theorem N.iQ(h:U.d[i]?=H (.el e)):U.h i=H e:=by grind[N.h]
def words(s:O):List O:=(Lib.fields s.data.toList).map λl=>⟨l.toArray⟩
def yY(L:List (O×dB))(a:List O)(v:dB):List (O×dB):=a.foldl (λL k=>Gj L k v) L
abbrev rK(w:J):Prop:=Lib.TabIs prog w "strings.asciiSpace" .u8 Lib.asciiSpaceTab
def si(s:O):Bool:=decide (s.size<4096)&&s.data.toList.all (λb=>decide (b.toNat<128))&&decide (ln (words s)<=4096)
theorem N8(s:O)(w:J)(d:si s=C)(l:rK w):dS 90 #[Y s] w λe Q=>e=ff (lO w.heap.size (ln (words s)) (ln (words s)))/\Q=w.alloc (dr ((words s).map dQ).toArray 9):=by
 unfold si at d;simp only[fq,zC,Pf]at d;refine(Tryz.strings_Fields s w (by omega) (λj b h=>d.1.2 b (sA h)) l).mono ?_;grind[List.map_inj_left,words]
theorem amj(b:Nat)(s:O)(v:dB)(L:List (O×dB))(w:J)(A:si s=C)(j:rK w)(g:tq w b L):dS 96 #[.map (H b),Y s,v] w λe Q=>e=ff (.map (H b))/\tq Q b (yY L (words s) v)/\Z [b] w Q:=by
 have q:ln (words s)<=4096:=by unfold si at A;simp only[fq,zC]at A;exact A.2
 have a:=N8 s w A j;have f:=g;clear A j g;generalize words s=ks at a q|-;go_enter func96,ntmps96;go_wp21;refine a.mono ?_;rintro e w1⟨rfl,l⟩;have m:w1.heap[zq w.heap]?=H (dr (ks.map dQ).toArray 9):=by rw[l];exact aY w _
 have c:Z [] w w1:=by rw[l];exact(Z.refl _ _).alloc _
 have U:=f.kept c (by simp);have a2:b≠zq w.heap:=by have:=f.lt;omega
 clear l;go_wp2
 go_loopw [12] (λi wr=>∃k:Nat,k<=ln ks/\i=G k/\tq wr b (yY L (ks.take k) v)/\Z [b] w wr/\wr.heap[zq w.heap]?=H (dr (ks.map dQ).toArray 9)) (λi _=> ln ks-(intOf i).toNat)
 case atStart=>exact⟨0,eZ _,D,U,c.mono (by simp),m⟩
 case round=>
  obtain⟨k,hk,rfl,h,n,d⟩:=hrel;by_cases a1:k<ln ks
  .have c1:wr.cell? ⟨zq w.heap,k,F⟩=H (Y ks[k]):=by rw[aF d];simp[a1]
   have⟨w2,r2,HM2,k2,z2⟩:=UB (T:=168) (E:=166) (by simp) h ks[k] v;have o:=n.trans k2;have a3:=k2.at d (by grind);have HS:=V ((by show yY L (ks.take (k+1)) v=Gj (yY L (ks.take k) v) ks[k] v;grind[lF,yY]))
   clear h n d k2 z2;go_wp2;go_roundw
   case rel=>grind[Hid.out]
   case measure=>simp[intOf];omega
  .have a0:k=ln ks:=by omega
   have p:=(show tq wr b (yY L ks v) by grind);clear h d a0;go_wp2;go_ret;simp_all
def FJ(L:List (O×Nat)):List (O×dB):=L.map λp=>(p.1,G p.2)
def tM:List (O×Nat)->O->Nat
 |[],_=>0
 |p::L,k=>if fG k p.1 then p.2 else tM L k
def Ui:List (O×Nat)->O->Nat->List (O×Nat)
 |[],k,v=>[(k,v)]
 |p::L,k,v=>if fG k p.1 then (k,v)::L else p::Ui L k v
def Kw:∀(L:List (O×Nat))(k:O),(Bz (FJ L) k).getD (G 0)=G (tM L k)
 |[],_=>rfl
 |p::L,k=>by show(if fG k p.1 then H _ else Bz _ k).getD _=_;unfold tM;split;rfl;exact Kw L k
def Uj:∀(L:List (O×Nat))(k:O)(v:Nat),Gj (FJ L) k (G v)=FJ (Ui L k v)
 |[],_,_=>rfl
 |p::L,k,v=>by show(if fG k p.1 then (k,dv .i64 (v))::FJ L else (p.1,dv .i64 _)::Gj (FJ L) k _)=_;unfold Ui;split;rfl;rw[Uj L k v];rfl
theorem FU:∀(L:List (O×Nat))(k:O)(v:Nat)(s:O),tM (Ui L k v) s=if fG s k then v else tM L s
 |[],k,v,s=>rfl
 |p::L,k,v,s=>by unfold Ui;by_cases d:fG k p.1=C;grind[tM,fG];rw[di d];unfold tM;rw[FU L k v s];grind[fG]
def tD(L:List (O×Nat))(c:Nat)(a:List O):List (O×Nat):=a.foldl (λL k=>Ui L k (tM L k|||c)) L
def anr:∀a c:Fin 16,a.1|||c.1<16:=by decide
theorem sE{c:Nat}(d:c<16)(a:List O):∀(L:List (O×Nat)),(∀s,tM L s<16)->∀s,tM (tD L c a) s<16:=by
 induction a with
 |nil=>simp[tD]
 |cons k a ih=>
  intro L h;refine ih _ λs=>?_;rw[FU];split;exact anr ⟨_,h k⟩ ⟨c,d⟩;grind
def Ba(c:Nat)(s:O)(a:List O):∀(L:List (O×Nat)),tM (tD L c a) s=if cZ a s then tM L s|||c else tM L s:=by
 induction a with
 |nil=>intro L;simp[tD,cZ]
 |cons k a ih=>
  intro L;show tM (tD (Ui L k (tM L k|||c)) c a) s=_;rw[ih,FU];have e:cZ (k::a) s=(fG s k||cZ a s):=by simp[cZ]
  rw[e];by_cases d:fG s k=C;have:=jM.1 d;subst this;by_cases h:cZ a s=C;simp[d,h,Nat.or_assoc];simp[d,h];simp[d]
def akA:∀a c:Fin 16,IntKind.i64.wrap (((BitVec.ofInt 64 (a.1:Int))|||(BitVec.ofInt 64 (c.1:Int))).toNat:Int)=((a.1|||c.1:Nat):Int):=by decide
def agj:∀a c:Fin 16,IntKind.i64.wrap (((BitVec.ofInt 64 (a.1:Int))&&& (BitVec.ofInt 64 (c.1:Int))).toNat:Int)=((a.1&&& c.1:Nat):Int):=by decide
def agq(a c:Nat)(d:a<16)(h:c<16):bits .or .i64 (a:Int) (c:Int)=((a|||c:Nat):Int):=akA ⟨a,d⟩ ⟨c,h⟩
def acA(a c:Nat)(d:a<16)(h:c<16):bits .and .i64 (a:Int) (c:Int)=((a&&& c:Nat):Int):=agj ⟨a,d⟩ ⟨c,h⟩
def Pa:List O:=[iC,jU,jt,ig,dy,eF]
def Ft:List O:=[aC,aZ,bO,aN,dy,aO,jV,gw,pg,ph,iK,⟨#[100,108]⟩,eN,oJ,oK,tj,fR,eu,ig,iC,jU,jt,aH,cI,aV,eF,cO,cX,cH,dK,eQ,eS,dR,gm,iM]
def Mj:List O:=[oJ,oK,eN,dJ,cD,jV]
def ZH:List O:=[aC,aH,eQ,eS,cI,dR]
def pn:List (O×Nat):=tD (tD (tD (tD [] 1 Pa) 2 Ft) 4 Mj) 8 ZH
theorem rK.kept(h:rK w)(l:Z S w Q)(d:1∉S):rK Q:=by unfold rK Lib.TabIs World.var? at *;have e:prog.globalNamed "strings.asciiSpace"=H 1:=rfl;grind[Z.block]
theorem Jd(b:Nat)(s:O)(c:Nat)(L:List (O×Nat))(a:List O)(w:J)(f:si s=C)(N:words s=a)(v:rK w)(j:tq w b (FJ L))(t:c<16)(r:∀s,tM L s<16):dS 56 #[.agg #[.map (H b)],G c,Y s] w λe Q=>e=pG/\tq Q b (FJ (tD L c a))/\Z [b] w Q:=by
 rw[<-N];have a2:ln (words s)<=4096:=by unfold si at f;simp only[fq,zC]at f;exact f.2
 have k0:Z [] w (w.alloc (dr #[.map (H b)] 90)):=(Z.refl _ _).alloc _;have g:=aY w (dr #[.map (H b)] 90);have m:=N8 s (w.alloc (dr #[.map (H b)] 90)) f (Lib.tabIs_alloc v _);have o:=j.kept k0 (by simp);have ab:=j.lt;have bI:=r;clear f v j r;generalize words s=a at m a2|-;obtain⟨w0,a0⟩:∃w0,w0=w.alloc (dr #[.map (H b)] 90):=⟨_,D⟩;go_enter func56,ntmps56;go_wp21;refine m.mono ?_;rintro e w1⟨rfl,n⟩;rw[<-a0]at n g k0 o;have K:zq w0.heap=zq w.heap+1:=by rw[a0];simp
 have y:w1.heap[zq w.heap+1]?=H (dr (a.map dQ).toArray 9):=by rw[n,<-K];exact aY w0 _
 have k1:Z [] w0 w1:=by rw[n];exact(Z.refl _ _).alloc _
 have E:=k1.at g (by simp);have z:=k0.trans k1;have I:=o.kept k1 (by simp);clear n k1 k0 g;go_wp2
 go_loopw [11] (λi wr=>∃k:Nat,k<=ln a/\i=G k/\tq wr b (FJ (tD L c (a.take k)))/\Z [b] w wr/\wr.heap[zq w.heap+1]?=H (dr (a.map dQ).toArray 9)/\wr.heap[zq w.heap]?=H (dr #[.map (H b)] 90)) (λi _=> ln a-(intOf i).toNat)
 case atStart=>exact⟨0,eZ _,D,I,z.mono (by simp),y,E⟩
 case round=>
  obtain⟨k,hk,rfl,l,U,h,d⟩:=hrel;by_cases aJ:k<ln a
  .have c1:wr.cell? ⟨zq w.heap+1,k,F⟩=H (Y a[k]):=by rw[aF h];simp[aJ]
   have c2:=aF d 0;dsimp at c2;have A:=sE t (a.take k) L bI a[k];have a3:=Gv (T:=88) (E:=93) (z:=G 0) (by simp) (by simp) l a[k];rw[Kw]at a3;have a1:=agq _ c A t;have⟨w2,r2,HM2,k2,z2⟩:=UB (T:=88) (E:=93) (by simp) l a[k] (G ((tM (tD L c (a.take k)) a[k]|||c:Nat):Int));rw[Uj,<-(show tD L c (a.take (k+1))=Ui (tD L c (a.take k)) a[k] (tM (tD L c (a.take k)) a[k]|||c) by grind[lF,tD])]at HM2;have bC:=U.trans k2;have ad:=k2.at h (by grind);have aI:=k2.at d (by grind);obtain⟨q,u⟩:∃q,q=tM (tD L c (a.take k)) a[k]:=⟨_,D⟩;rw[<-u]at a3 a1 r2;obtain⟨x,p⟩:∃x:Nat,x=q|||c:=⟨_,D⟩;rw[<-p]at a1 r2;clear l U h d k2 z2 u p A;go_wp2;go_roundw
   case rel=>grind
   case measure=>simp[intOf];omega
  .have M:k=ln a:=by omega
   have S:=(show tq wr b (FJ (tD L c a)) by grind);clear l h M d;go_wp2;go_end0;grind
def TY:∀s,tM [] s<16:=λ_=>Nat.zero_lt_succ 15
theorem BU(w:J)(f:rK w):dS 34 #[] w λe Q=>∃bm,e=ff (.agg #[.map (H bm)])/\tq Q bm (FJ pn)/\Z [] w Q/\w.heap.size<=bm:=by
 have M:=@run_makeMap prog;obtain⟨W,l⟩:∃W,W=((w.alloc (dr #[.map F] 90)).alloc (.map #[] 0)).alloc (dr #[.map (H (zq w.heap+1))] 90):=⟨_,D⟩;have g:Z [] w W:=by rw[l];exact(((Z.refl _ _).alloc _).alloc _).alloc _
 have i:W.heap[zq w.heap]?=H (dr #[.map F] 90):=by rw[l,dc _ _ _ (by simp;omega),dc _ _ _ (by simp)];exact aY w _
 have I:W.heap[zq w.heap+1]?=H (.map #[] 0):=by
  rw[l,dc _ _ _ (by simp)];have:=aY (w.alloc (dr #[.map F] 90)) (.map #[] 0)
  rwa [zB]at this
 have j:W.heap[zq w.heap+1+1]?=H (dr #[.map (H (zq w.heap+1))] 90):=by
  rw[l];have:=aY ((w.alloc (dr #[.map F] 90)).alloc (.map #[] 0)) (dr #[.map (H (zq w.heap+1))] 90)
  rwa [zB,zB]at this
 have o:tq W (zq w.heap+1) (FJ []):=⟨#[],0,I,D⟩;have a:1∉[zq w.heap+1]:=by
  have L:1<zq w.heap:=by have h:=f;unfold rK Lib.TabIs World.var? at h;have e:prog.globalNamed "strings.asciiSpace"=H 1:=rfl;simp only[e,Option.bind_some]at h;rcases qp 1 w.heap.size with c|c;exact c;grind
  intro a1;have:=cC.1 a1;omega
 have b:=f.kept g (by simp);have m:=g.mono (S':=[zq w.heap+1]) (by simp);have p:=V l;clear l;go_enter func34,ntmps34;go_wp21;rw[<-p.out];refine(Jd (zq w.heap+1) _ 1 [] Pa W (by rfl) (by rfl) b o (by decide) TY).mono ?_;rintro e w1⟨rfl,ab,k1⟩;have A:=b.kept k1 a;have u:=m.trans k1;have a2:=k1.at i (by simp);have n:=V (k1.at j (by simp));have c1:=aF n.out 0;dsimp at c1;go_wp21;refine(Jd (zq w.heap+1) _ 2 (tD [] 1 Pa) Ft w1 D D A ab (by decide) (sE (by decide) _ _ TY)).mono ?_;rintro e w2⟨rfl,bI,k2⟩;have U:=A.kept k2 a;have v:=u.trans k2;have a3:=k2.at a2 (by simp);have q:=V (k2.at n (by simp));have c2:=aF q.out 0;dsimp at c2;go_wp21;refine(Jd (zq w.heap+1) _ 4 (tD (tD [] 1 Pa) 2 Ft) Mj w2 (by rfl) (by rfl) U bI (by decide) (sE (by decide) _ _ (sE (by decide) _ _ TY))).mono ?_;rintro e w3⟨rfl,ad,k3⟩;have a0:=U.kept k3 a;have x:=v.trans k3;have r:=k3.at a3 (by simp);have s:=V (k3.at q (by simp));have c3:=aF s.out 0;dsimp at c3;go_wp21;refine(Jd (zq w.heap+1) _ 8 (tD (tD (tD [] 1 Pa) 2 Ft) 4 Mj) ZH w3 (by rfl) (by rfl) a0 ad (by decide) (sE (by decide) _ _ (sE (by decide) _ _ (sE (by decide) _ _ TY)))).mono ?_;rintro e w4⟨rfl,C,k4⟩;have K:=a0.kept k4 a;have y:=x.trans k4;have d:=V (k4.at r (by simp));have t:=V (k4.at s (by simp));have c4:=aF t.out 0;have f4:=cY d 0;have ag:=aF d.out 0;dsimp at c4 ag;have z:=(y.mono (S':=[]) (λk hk hl=>by grind)).setCell (p:=⟨zq w.heap,0,F⟩) (.inr (dF _)) (.map (H (zq w.heap+1)));have E:=C.keeps (Q:=w4.setCell ⟨zq w.heap,0,F⟩ (.map (H (zq w.heap+1)))) (dE w4 ⟨zq w.heap,0,F⟩ _ _ (by simp));have G:=aF (bH d 0 (.map (H (zq w.heap+1)))) 0;go_wp2;refine mL (v:=.agg #[.map (H (zq w.heap+1))]) ?_ D ⟨zq w.heap+1,D,E,z,by omega⟩;simp[results,f34,go_sem,G]
def TD(L:List (O×Nat))(c:Nat)(s:O):Bool:=decide (tM L s&&& c≠0)
def kg:O->Bool:=TD pn 2
def uF:O->Bool:=TD pn 4
def eP:O->Bool:=TD pn 8
def Yl:∀s,tM pn s<16:=sE (by decide) _ _ (sE (by decide) _ _ (sE (by decide) _ _ (sE (by decide) _ _ TY)))
theorem agl(b1 b2 bm c:Nat)(L:List (O×Nat))(w:J)(h1:w.heap[b1]?=H (dr #[.map (H bm)] 90))(b:w.heap[b2]?=H (dr #[G c] 93))(A:tq w bm (FJ L))(j:c<16)(f:∀s,tM L s<16):pK [b1,b2,bm] (.func (.func 57) #[] #[dq b1,dq b2]) (TD L c) w:=by
 refine⟨⟨_,_,D,enters_of func57 (by rfl) D,λW n s=>?_⟩,λe g=>?_⟩
 .have c1:=aF (pW n (by simp) h1) 0;have c2:=aF (pW n (by simp) b) 0;dsimp at c1 c2;have h:=Gv (T:=88) (E:=93) (z:=G 0) (by simp) (by simp) (A.keeps (n bm (by simp))) s;rw[Kw]at h;have d:=acA _ c (f s) j;have i:TD L c s=decide (tM L s&&& c≠0):=rfl;rw[i];generalize tM L s=q at h d|-;obtain⟨U,l⟩:∃U:Nat,U=q&&& c:=⟨_,D⟩;rw[<-l]at d|-;clear h1 b A n f l i;by_cases a:U=0
  .subst a;go_enter func57,ntmps57;go_wp2;go_ret;simp
  .rw[sx a];go_enter func57,ntmps57;go_wp2;go_ret;simp_all
 simp at g;rcases g with rfl|rfl|rfl;grind;grind;exact A.lt
def Qz(bB:Nat)(h:Fn)(d l:io)(w:J):Calls prog 92 #[dq bB,.func h d l] w λe Q=>e=ff (.func (.func 168) #[] #[dq w.heap.size])/\Q=(w.alloc (dr #[.func h d l] 208)):=by
 go_wp2;go_ret;simp
def QA(bB:Nat)(h:Fn)(d l:io)(w:J):Calls prog 124 #[dq bB,.func h d l] w λe Q=>e=ff (.func (.func 221) #[] #[dq (zq w.heap+1),dq w.heap.size])/\Q=((w.alloc (dr #[dq bB] 119)).alloc (dr #[.func h d l] 65)):=by
 go_wp2;go_ret;simp
def ahm(h:Fn)(d l:io)(w:J):Calls prog 128 #[.func h d l] w λe Q=>e=ff (.func (.func 226) #[] #[dq w.heap.size])/\Q=(w.alloc (dr #[.func h d l] 65)):=by
 go_wp2;go_ret;simp
def My:List TypeId:=[178,138,140,280,68,123,295,163,75,170,70]
def Z1:List TypeId:=[178,138,140,280,68,123,295,163,170]
theorem R9(h:t∈Z1):t∈My:=by revert t;decide
def Calm(w:J)(e:Nat):Prop:=(∃h d,w.heap[e]?=H (.map h d))\/∃c t,w.heap[e]?=H (dr c t)/\t∉My
def Fr(bs:Nat)(w a:J):Prop:=∃S,Z S w a/\∀k∈S,k<zq w.heap->(∃c t m,w.heap[k]?=H (.cells c t m)/\t∈Z1)/\bs<=k
theorem Fr.h(h:Z [] w Q):Fr bs w Q:=⟨[],h,by grind⟩
theorem Fr.refl(w:J):Fr bs w w:=.h (Z.refl _ _)
def Fr.size(h:Fr bs w Q):zq w.heap<=zq Q.heap:=by have⟨S,hk,_⟩:=h;exact hk.size
theorem Fr.calm(h:Fr bs w Q){e:Nat}(n:Calm w e):Q.heap[e]?=w.heap[e]?:=by
 have⟨S,hk,hS⟩:=h;have l:e<zq w.heap:=by rcases n with⟨s,q,d⟩|⟨c,t,d,_⟩;grind;grind
 refine hk.block e l λa=>?_;rcases n with⟨s,q,d⟩|⟨U,b,d,A⟩
 all_goals grind[R9]
theorem Fr.trans{b c:J}(h:Fr bs a b)(k:Fr bs b c):Fr bs a c:=by have⟨S1,k1,h1⟩:=h;have⟨S2,k2,h2⟩:=k;refine⟨S1++S2,(k1.mono (λx l _=>by grind)).trans (k2.mono (λx l _=>by grind)),λx l d=>?_⟩;by_cases n:x∈S1;grind;have⟨⟨cc,t,m,hc,ht⟩,hbs⟩:=h2 x (by simpa [n]using l) (kQ d k1.size);grind[Z.block]
theorem Fr.q(h:Z S w Q)(d:∀k∈S,(∃c t m,w.heap[k]?=H (.cells c t m)/\t∈Z1)/\bs<=k):Fr bs w Q:=⟨S,h,by grind⟩
theorem Fr.cell(h:Fr bs w Q){e:Nat}(d:w.heap[e]?=H (dr c t))(l:t∉My):Q.heap[e]?=H (dr c t):=(h.calm (.inr ⟨c,t,d,l⟩)).trans d
theorem Fr.kept(h:Fr bs w Q)(d:Z [] a w)(n:zq a.heap<=bs):Z [] a Q:=by have⟨S,hS,hT⟩:=h;refine⟨hS.os.trans d.os,hS.tape.trans d.tape,hS.output.trans d.output,gR d.size hS.size,λk l _=>?_⟩;grind[Z.block]
theorem Fr.d(h:Fr bs w Q){e:Nat}(d:w.heap[e]?=H (.cells c t m))(l:t∉Z1):Q.heap[e]?=H (.cells c t m):=by have⟨S,hS,hT⟩:=h;grind[Z.block]
def wW(bm:Nat)(w:J)(e:Nat):Prop:=(e=bm/\∃h d,w.heap[e]?=H (.map h d))\/∃c t,w.heap[e]?=H (dr c t)/\t∉My
def yD(bm:Nat)(w a:J):Prop:=∃S,Z S w a/\∀k∈S,k<zq w.heap->(∃c t m,w.heap[k]?=H (.cells c t m)/\t∈My)\/((∃h d,w.heap[k]?=H (.map h d))/\k≠bm)
theorem Fr.n(h:Fr bs w Q)(bm:Nat):yD bm w Q:=by have⟨S,hk,hS⟩:=h;exact⟨S,hk,λk d l=>by grind[R9]⟩
theorem yD.h(h:Z [] w Q):yD bm w Q:=(Fr.h (bs:=0) h).n bm
theorem yD.refl(bm:Nat)(w:J):yD bm w w:=.h (Z.refl _ _)
def yD.size(h:yD bm w Q):zq w.heap<=zq Q.heap:=by have⟨S,hk,_⟩:=h;exact hk.size
theorem yD.of_map(h:Z [b] w Q)(q:∃l d,w.heap[b]?=H (.map l d))(n:b≠bm):yD bm w Q:=⟨[b],h,by grind⟩
theorem yD.calm(h:yD bm w Q){e:Nat}(n:wW bm w e):Q.heap[e]?=w.heap[e]?:=by
 have⟨S,hk,hS⟩:=h;have l:e<zq w.heap:=by rcases n with⟨_,A,s,d⟩|⟨c,t,d,_⟩;grind;grind
 refine hk.block e l λb=>?_;rcases hS e b l with⟨c,t,m,a,g⟩|⟨⟨a1,a0,a⟩,a2⟩
 .rcases n with⟨_,A,s,d⟩|⟨U,f,d,q⟩
  all_goals grind
 .rcases n with⟨e1,A,s,d⟩|⟨U,f,d,q⟩
  all_goals grind
theorem wW.d{e:Nat}(d:wW bm w e)(h:yD bm w Q):wW bm Q e:=by have e1:=h.calm d;grind[wW]
theorem yD.trans{b c:J}(h:yD bm a b)(k:yD bm b c):yD bm a c:=by have⟨S1,k1,h1⟩:=h;have⟨S2,k2,h2⟩:=k;refine⟨S1++S2,(k1.mono (λx n _=>by grind)).trans (k2.mono (λx n _=>by grind)),λx n d=>?_⟩;by_cases l:x∈S1;grind;have e:=k1.block x d l;grind
def Pp(w:J):Prop:=rK w/\∃c t,w.heap[1]?=H (dr c t)/\t∉My
theorem Pp.d(d:Pp w)(h:yD bm w Q):Pp Q:=by have⟨hb1,c,t,hc,ht⟩:=d;have e1:=h.calm (.inr ⟨c,t,hc,ht⟩);refine⟨?_,c,t,e1.trans hc,ht⟩;unfold rK Lib.TabIs World.var? at hb1|-;have e:prog.globalNamed "strings.asciiSpace"=H 1:=rfl;grind
def Ask(bm:Nat)(v:dB)(p:O->Bool)(w:J):Prop:=∃E,pK E v p w/\∀e∈E,wW bm w e
theorem Ask.d(h:Ask bm v p w)(d:yD bm w Q):Ask bm v p Q:=by have⟨E,hA,hC⟩:=h;exact⟨E,hA.keeps (λk n=>d.calm (hC k n)) d.size,λe l=>(hC e l).d d⟩
theorem Ask.call(h:Ask bm v p w):∃k l,v=.func (.func k) #[] l/\(∀d w,(callFunc k d).run prog w=.ok (.enter k d) w)/\∀W,yD bm w W->∀s,dS k (#[Y s]++l) W λe n=>e=ff (.bool (p s))/\n=W:=by have⟨E,hA,hC⟩:=h;have⟨k,l,hv,he,ha⟩:=hA.ex;exact⟨k,l,hv,he,λW A s=>ha W (λe q=>A.calm (hC e q)) s⟩
def WR(bm g a:Nat)(d:List O)(w:J)(A:w.heap[g]?=H (dr (d.map dQ).toArray 9))(h:ln d<=4096):dS 219 #[lO g (ln d) a] w λe Q=>(∃v,e=ff v/\Ask bm v (cZ d) Q)/\Z [] w Q:=by
 refine(aiM g a _ w).mono ?_;rintro e Q⟨rfl,rfl⟩;have s:Z [] w (w.alloc (dr #[lO g (ln d) a] 48)):=(Z.refl _ _).alloc _;have l:=aY w (dr #[lO g (ln d) a] 48);have n:=s.at A (by simp);refine⟨⟨_,D,_,adQ _ g a d _ l n h,λe q=>?_⟩,s⟩;simp at q;rcases q with rfl|rfl;exact .inr ⟨_,_,l,by decide⟩;exact .inr ⟨_,_,n,by decide⟩
def X8(bm c:Nat)(L:List (O×Nat))(w:J)(b:tq w bm (FJ L))(a:c<16)(U:∀s,tM L s<16):Calls prog 35 #[.agg #[.map (H bm)],G c] w λe Q=>(∃v,e=ff v/\Ask bm v (TD L c) Q)/\Z [] w Q:=by
 have h:Calls prog 35 #[.agg #[.map (H bm)],G (c)] w λe Q=>e=ff (.func (.func 57) #[] #[dq w.heap.size,dq (zq w.heap+1)])/\Q=(w.alloc (dr #[.map (H bm)] 90)).alloc (dr #[G (c)] 93):=by go_wp2;go_ret;exact⟨by simp,D⟩
 refine h.mono ?_;rintro e Q⟨rfl,rfl⟩;have k1:Z [] w (w.alloc (dr #[.map (H bm)] 90)):=(Z.refl _ _).alloc _;have q:=k1.alloc (dr #[G (c)] 93);have d:=aY (w.alloc (dr #[.map (H bm)] 90)) (dr #[G (c)] 93);rw[zB]at d;have l:=(dc (w.alloc (dr #[.map (H bm)] 90)) (dr #[G (c)] 93) w.heap.size (by simp)).trans (aY w _);have A:=b.kept q (by simp);refine⟨⟨_,D,_,agl _ _ bm c L _ l d A a U,λe n=>?_⟩,q⟩;simp at n;rcases n with rfl|rfl|rfl;exact .inr ⟨_,_,l,by decide⟩;exact .inr ⟨_,_,d,by decide⟩;have⟨es,ck,ha,_⟩:=A;exact .inl ⟨D,es,ck,ha⟩
theorem OB{d h:List Nat}{b1 b2:Nat}(l:wW bm w b1)(n:wW bm w b2)(c1:∀e∈d,wW bm w e)(c2:∀e∈h,wW bm w e):∀e∈b1::b2::(d++h),wW bm w e:=by grind
inductive Ru
 |nil
 |eW
 |dX (f:Nat)
 |qX (m:Int)
 |dz (pf:Nat) (own:Bool)
 |ahead (f:Nat)
 |ends (f:Nat)
 |Qn (r:Ru)
 |nN (ks:List O) (m:Int)
 |ox (ks:List O) (name:O) (m:Int)
 |item (ks:List O)
variable {bC:List (List O×Ru)}{ms:List (Nat×List (List O×Ru))}{r:Ru}{rs:List (Ru×dB)}
abbrev fc(b:Nat):dB:=dq b
abbrev box(w:J)(b:Nat)(v:dB)(t:TypeId):Prop:=w.heap[b]?=H (dr #[v] t)
def mM(bm bB a:Nat):Ru->dB->J->Prop
 | .nil,v,_=>v=.nilFunc
 | .eW,v,_=>v=.func (.func 91) #[] #[]
 | .dX f,v,_=>v=.func (.func f) #[fc bB] #[]
 | .qX m,v,w=>∃b1 b2,v=.func (.func 174) #[] #[fc b1,fc b2]/\box w b1 (fc bB) 119/\box w b2 (G m) 175
 | .dz pf own,v,w=>∃b1,v=.func (.func 168) #[] #[fc b1]/\box w b1 (.func (.func pf) #[fc (if own then bB else a)] #[]) 208
 | .ahead f,v,w=>∃b1 b2,v=.func (.func 221) #[] #[fc b2,fc b1]/\box w b1 (fc bB) 119/\box w b2 (.func (.func f) #[fc bB] #[]) 65
 | .ends f,v,w=>∃b1,v=.func (.func 226) #[] #[fc b1]/\box w b1 (.func (.func f) #[fc bB] #[]) 65
 | .Qn r,v,w=>∃b1 b2 u,v=.func (.func 231) #[] #[fc b1,fc b2]/\box w b1 (fc bB) 119/\box w b2 u 166/\mM bm bB a r u w
 | .nN ks m,v,w=>∃b1 b2 b3 u,v=.func (.func 218) #[] #[fc b1,fc b2,fc b3]/\box w b1 (fc bB) 119/\box w b2 u 87/\Ask bm u (cZ ks) w/\box w b3 (G m) 175
 | .ox ks name m,v,w=>∃b1 b2 b3 b4 u,v=.func (.func 220) #[] #[fc b1,fc b2,fc b3,fc b4]/\box w b1 (fc bB) 119/\box w b2 u 87/\Ask bm u (cZ ks) w/\box w b3 (Y name) 9/\box w b4 (G m) 175
 | .item ks,v,w=>∃b1 b2 b3 d h,v=.func (.func 275) #[] #[fc b1,fc b2,fc b3]/\box w b1 (fc bB) 119/\box w b2 d 87/\Ask bm d (cZ ks) w/\box w b3 h 87/\Ask bm h (λs=>kg s&&!cZ [gw,jV] s) w
theorem box.d(h:box w b v t)(d:yD bm w Q)(l:t∉My):box Q b v t:=(d.calm (.inr ⟨(#[v]),t,h,l⟩)).trans h
theorem mM.d:∀{r:Ru} {v:dB} {w Q:J},mM bm bB bD r v w->yD bm w Q->mM bm bB bD r v Q
 | .nil,_,_,_,h,_=>h
 | .eW,_,_,_,h,_=>h
 | .dX _,_,_,_,h,_=>h
 | .qX _,_,_,_,⟨b1,b2,e,h1,h2⟩,hf=>⟨b1,b2,e,box.d h1 hf (by decide),box.d h2 hf (by decide)⟩
 | .dz _ _,_,_,_,⟨b1,e,h1⟩,hf=>⟨b1,e,box.d h1 hf (by decide)⟩
 | .ahead _,_,_,_,⟨b1,b2,e,h1,h2⟩,hf=>⟨b1,b2,e,box.d h1 hf (by decide),box.d h2 hf (by decide)⟩
 | .ends _,_,_,_,⟨b1,e,h1⟩,hf=>⟨b1,e,box.d h1 hf (by decide)⟩
 | .Qn _,_,_,_,⟨b1,b2,u,e,h1,h2,hr⟩,hf=>⟨b1,b2,u,e,box.d h1 hf (by decide),box.d h2 hf (by decide),hr.d hf⟩
 | .nN _ _,_,_,_,⟨b1,b2,b3,u,e,h1,h2,ha,h3⟩,hf=>⟨b1,b2,b3,u,e,box.d h1 hf (by decide),box.d h2 hf (by decide),ha.d hf,box.d h3 hf (by decide)⟩
 | .ox _ _ _,_,_,_,⟨b1,b2,b3,b4,u,e,h1,h2,ha,h3,h4⟩,hf=>⟨b1,b2,b3,b4,u,e,box.d h1 hf (by decide),box.d h2 hf (by decide),ha.d hf,box.d h3 hf (by decide),box.d h4 hf (by decide)⟩
 | .item _,_,_,_,⟨b1,b2,b3,u1,u2,e,h1,h2,ha,h3,hb⟩,hf=>⟨b1,b2,b3,u1,u2,e,box.d h1 hf (by decide),box.d h2 hf (by decide),ha.d hf,box.d h3 hf (by decide),hb.d hf⟩
def lV:List (List O×Ru)->O->Option Ru
 |[],_=>F
 |p::bC,k=>if cZ p.1 k then H p.2 else lV bC k
def IsMap(bm bB a b:Nat)(c:List (List O×Ru))(v:dB)(w:J):Prop:=
 ∃L,v=.map (H b)/\tq w b L/\∀k,match lV c k with
  |some r=>∃u,Bz L k=H u/\mM bm bB a r u w
  |none=>Bz L k=F
theorem IsMap.d(h:IsMap bm bB bD b bC v w)(l:yD bm w Q)(d:Q.heap[b]?=w.heap[b]?):IsMap bm bB bD b bC v Q:=by have⟨L,e,hm,hr⟩:=h;refine⟨L,e,hm.keeps d,λk=>?_⟩;grind[mM.d]
theorem Oc:∀(L:List (O×dB))(k:O)(v:dB)(s:O),Bz (Gj L k v) s=if fG s k then H v else Bz L s
 |[],k,v,s=>rfl
 |p::L,k,v,s=>by unfold Gj;by_cases d:fG k p.1=C;grind[Bz,fG];rw[di d];unfold Bz;rw[Oc L k v s];grind[fG]
theorem Tl(v:dB)(s:O)(a:List O):∀(L:List (O×dB)),Bz (yY L a v) s=if cZ a s then H v else Bz L s:=by
 induction a with
 |nil=>grind[yY,cZ]
 |cons k a ih=>
  intro L;show Bz (yY _ a v) s=_;grind[Oc,cZ]
theorem IsMap.at(h:IsMap bm bB bD b bC v w):∃l d,w.heap[b]?=H (.map l d):=by have⟨L,e,⟨l,d,ha,_⟩,hr⟩:=h;grind
theorem aey(bm bB a b:Nat)(s:O)(c:List O)(r:Ru)(i:List (List O×Ru))(v:dB)(w:J)(U:si s=C)(h:words s=c)(f:Pp w)(q:IsMap bm bB a b i (.map (H b)) w)(l:b≠bm)(g:mM bm bB a r v w):dS 96 #[.map (H b),Y s,v] w λe Q=>e=ff (.map (H b))/\IsMap bm bB a b ((c,r)::i) (.map (H b)) Q/\Z [b] w Q/\yD bm w Q:=by
 have⟨L,_,hM,hR⟩:=q;refine(amj b s v L w U f.1 hM).mono ?_;rintro e Q⟨rfl,d,n⟩;have A:=yD.of_map n q.at l;rw[h]at d;refine⟨D,⟨_,D,d,λk=>?_⟩,n,A⟩;rw[Tl];unfold lV;cases hq:cZ c k<;>grind[mM.d]
theorem ue(w:J)(d h:Obj):((w.alloc d).alloc h).heap[zq w.heap]?=H d/\((w.alloc d).alloc h).heap[zq w.heap+1]?=H h:=by grind[dc,World.size_alloc,aY]
theorem oH(w:J)(d h l:Obj):(((w.alloc d).alloc h).alloc l).heap[zq w.heap]?=H d/\(((w.alloc d).alloc h).alloc l).heap[zq w.heap+1]?=H h/\(((w.alloc d).alloc h).alloc l).heap[zq w.heap+1+1]?=H l:=by grind[dc,World.size_alloc,aY]
theorem Ti(w:J)(d h l n:Obj):((((w.alloc d).alloc h).alloc l).alloc n).heap[zq w.heap]?=H d/\((((w.alloc d).alloc h).alloc l).alloc n).heap[zq w.heap+1]?=H h/\((((w.alloc d).alloc h).alloc l).alloc n).heap[zq w.heap+1+1]?=H l/\((((w.alloc d).alloc h).alloc l).alloc n).heap[zq w.heap+1+1+1]?=H n:=by grind[dc,World.size_alloc,aY]
abbrev zn(bm bB b:Nat)(r:Ru)(w:J)(e:Ending)(a:J):Prop:=(∃v,e=ff v/\mM bm bB b r v a)/\Z [] w a
def ahM(bm bB a:Nat)(m:Int)(w:J):Calls prog 100 #[fc bB,G m] w (zn bm bB a (.qX m) w):=by
 refine((show Calls prog 100 #[dq bB,G m] w λe Q=>e=ff (.func (.func 174) #[] #[dq w.heap.size,dq (zq w.heap+1)])/\Q=((w.alloc (dr #[dq bB] 119)).alloc (dr #[G m] 175)) by go_wp2;go_ret;simp)).mono ?_
 rintro e Q⟨rfl,rfl⟩;have⟨h1,h2⟩:=ue w (dr #[fc bB] 119) (dr #[G m] 175);exact⟨⟨_,D,_,_,D,h1,h2⟩,((Z.refl _ _).alloc _).alloc _⟩
def Dq(bm bB a b:Nat)(own:Bool)(w:J):dS 92 #[fc bB,.func (.func b) #[fc (if own then bB else a)] #[]] w (zn bm bB a (.dz b own) w):=by refine(Qz bB _ _ #[] w).mono ?_;rintro e Q⟨rfl,rfl⟩;exact⟨⟨_,D,_,D,aY w _⟩,(Z.refl _ _).alloc _⟩
def aeW(bm bB a f:Nat)(w:J):dS 124 #[fc bB,.func (.func f) #[fc bB] #[]] w (zn bm bB a (.ahead f) w):=by refine(QA bB _ _ #[] w).mono ?_;rintro e Q⟨rfl,rfl⟩;have⟨h1,h2⟩:=ue w (dr #[fc bB] 119) (dr #[.func (.func f) #[fc bB] #[]] 65);exact⟨⟨_,D,_,_,D,h1,h2⟩,((Z.refl _ _).alloc _).alloc _⟩
def ahN(bm bB a f:Nat)(w:J):dS 128 #[.func (.func f) #[fc bB] #[]] w (zn bm bB a (.ends f) w):=by refine(ahm _ _ #[] w).mono ?_;rintro e Q⟨rfl,rfl⟩;exact⟨⟨_,D,_,D,aY w _⟩,(Z.refl _ _).alloc _⟩
theorem mM.func(h:mM bm bB bD r v w)(d:r≠ .nil):∃f a l,v=.func f a l:=by
 cases r with
 |nil=>grind
 |eW=>exact⟨_,_,_,h⟩
 |dX f=>exact⟨_,_,_,h⟩
 |qX m=>have⟨_,_,e,_⟩:=h;grind
 |dz a b=>have⟨_,e,_⟩:=h;grind
 |ahead f=>have⟨_,_,e,_⟩:=h;grind
 |ends f=>have⟨_,e,_⟩:=h;grind
 |Qn r=>have⟨_,_,_,e,_⟩:=h;grind
 |nN a b=>have⟨_,_,_,_,e,_⟩:=h;grind
 |ox a b c=>have⟨_,_,_,_,_,e,_⟩:=h;grind
 |item a=>have⟨_,_,_,_,_,e,_⟩:=h;grind
def akK(bm bB b:Nat)(r:Ru)(u:dB)(w:J)(h:r≠ .nil)(d:mM bm bB b r u w):Calls prog 136 #[fc bB,u] w (zn bm bB b (.Qn r) w):=by
 obtain⟨f,a,l,rfl⟩:=d.func h;refine((show Calls prog 136 #[dq bB,.func f a l] w λe Q=>e=ff (.func (.func 231) #[] #[dq w.heap.size,dq (zq w.heap+1)])/\Q=((w.alloc (dr #[dq bB] 119)).alloc (dr #[.func f a l] 166)) by go_wp2;go_ret;simp)).mono ?_
 rintro e Q⟨rfl,rfl⟩;have⟨h1,h2⟩:=ue w (dr #[fc bB] 119) (dr #[.func f a l] 166);exact⟨⟨_,D,_,_,_,D,h1,h2,d.d (.h (((Z.refl _ _).alloc _).alloc _))⟩,(((Z.refl _ _).alloc _).alloc _)⟩
theorem Ask.func(h:Ask bm v p w):∃f a l,v=.func f a l:=by grind[call]
def OS(bm bB c:Nat)(b:List O)(m:Int)(u:dB)(w:J)(d:Ask bm u (cZ b) w):Calls prog 121 #[fc bB,u,G m] w (zn bm bB c (.nN b m) w):=by
 obtain⟨f,a,l,rfl⟩:=d.func;refine((show Calls prog 121 #[dq bB,.func f a l,G m] w λe Q=>e=ff (.func (.func 218) #[] #[dq w.heap.size,dq (zq w.heap+1),dq (zq w.heap+1+1)])/\Q=(((w.alloc (dr #[dq bB] 119)).alloc (dr #[.func f a l] 87)).alloc (dr #[G m] 175)) by go_wp2;go_ret;simp)).mono ?_
 rintro e Q⟨rfl,rfl⟩;have⟨h1,h2,h3⟩:=oH w (dr #[fc bB] 119) (dr #[.func f a l] 87) (dr #[G m] 175);exact⟨⟨_,D,_,_,_,_,D,h1,h2,d.d (.h ((((Z.refl _ _).alloc _).alloc _).alloc _)),h3⟩,((((Z.refl _ _).alloc _).alloc _).alloc _)⟩
def Xu(bm bB c:Nat)(b:List O)(d:O)(m:Int)(u:dB)(w:J)(h:Ask bm u (cZ b) w):Calls prog 123 #[fc bB,u,Y d,G m] w (zn bm bB c (.ox b d m) w):=by
 obtain⟨f,a,l,rfl⟩:=h.func;refine((show Calls prog 123 #[dq bB,.func f a l,Y d,G m] w λe Q=>e=ff (.func (.func 220) #[] #[dq w.heap.size,dq (zq w.heap+1),dq (zq w.heap+1+1),dq (zq w.heap+1+1+1)])/\Q=((((w.alloc (dr #[dq bB] 119)).alloc (dr #[.func f a l] 87)).alloc (dr #[Y d] 9)).alloc (dr #[G m] 175)) by go_wp2;go_ret;exact⟨D,D⟩)).mono ?_
 rintro e Q⟨rfl,rfl⟩;have⟨h1,h2,h3,h4⟩:=Ti w (dr #[fc bB] 119) (dr #[.func f a l] 87) (dr #[Y d] 9) (dr #[G m] 175);exact⟨⟨_,D,_,_,_,_,_,D,h1,h2,h.d (.h (((((Z.refl _ _).alloc _).alloc _).alloc _).alloc _)),h3,h4⟩,(((((Z.refl _ _).alloc _).alloc _).alloc _).alloc _)⟩
structure kR where
 blank:Ru:=.nil
 fI:Ru:=.nil
 dz:Ru:=.nil
 eG:Ru:=.nil
 dZ:Ru:=.nil
 start:Option (List (List O×Ru)):=F
 stop:Option (List (List O×Ru)):=F
 B:Ru:=.nil
 A:Ru:=.nil
 l:Ru:=.nil
variable {sp:kR}
def qN(bm bB a:Nat):Option (List (List O×Ru))->dB->J->Prop
 |none,v,_=>v=.map F
 |some bC,v,w=>∃b,IsMap bm bB a b bC v w
theorem IsMap.lt(h:IsMap bm bB bD b bC v w):b<zq w.heap:=by have⟨es,ck,ha⟩:=h.at;grind
theorem qN.h{a:Option (List (List O×Ru))}(h:qN bm bB bD a v w)(d:Z [] w Q):qN bm bB bD a v Q:=by
 cases a with
 |none=>exact h
 |some a=>
  have⟨b,hm⟩:=h;exact⟨b,hm.d (.h d) (d.block b hm.lt (by simp))⟩
structure jE(bm bB bD:Nat)(sp:kR)(v0 v1 v2 v3 v4 v5 v6 v7 v8 v9:dB)(w:J):Prop where
 blank:mM bm bB bD sp.blank v0 w
 fI:mM bm bB bD sp.fI v1 w
 dz:mM bm bB bD sp.dz v2 w
 eG:mM bm bB bD sp.eG v3 w
 dZ:mM bm bB bD sp.dZ v4 w
 start:qN bm bB bD sp.start v5 w
 stop:qN bm bB bD sp.stop v6 w
 B:mM bm bB bD sp.B v7 w
 A:mM bm bB bD sp.A v8 w
 l:mM bm bB bD sp.l v9 w
theorem jE.h(h:jE bm bB bD sp v0 v1 v2 v3 v4 v5 v6 v7 v8 v9 w)(d:Z [] w Q):jE bm bB bD sp v0 v1 v2 v3 v4 v5 v6 v7 v8 v9 Q:=
 have f:=.h d
 ⟨h.blank.d f,h.fI.d f,h.dz.d f,h.eG.d f,h.dZ.d f,h.start.h d,h.stop.h d,h.B.d f,h.A.d f,h.l.d f⟩
def oe(bm bB b:Nat)(c:kR)(w:J)(e:Ending)(a:J):Prop:=
 ∃v0 v1 v2 v3 v4 v5 v6 v7 v8 v9,e=ff (.agg #[v0,v1,v2,v3,v4,v5,v6,v7,v8,v9])/\jE bm bB b c v0 v1 v2 v3 v4 v5 v6 v7 v8 v9 a/\Z [] w a
def BD(bB a:Nat)(w:J):Prop:=w.cell? ⟨bB,187,F⟩=H (fc a)/\bB<zq w.heap
theorem BD.h(h:BD bB bD w)(d:Z [] w Q):BD bB bD Q:=⟨(d.cell h.2 (by simp)).trans h.1,kQ h.2 d.size⟩
abbrev yB:io:=#[.nilFunc,.nilFunc,.nilFunc,.nilFunc,.nilFunc,.map F,.map F,.nilFunc,.nilFunc,.nilFunc]
def wX(w:J)(o:Obj):∃W,W=w.alloc o/\Z [] w W/\W.heap[zq w.heap]?=H o/\W.heap.size=zq w.heap+1:=⟨_,D,(Z.refl _ _).alloc _,aY w _,by simp⟩
theorem qN.d{a:Option (List (List O×Ru))}{s:Nat}(h:qN bm bB bD a v w)(d:Z [s] w Q)(l:w.heap[s]?=H (dr c t))(f:yD bm w Q):qN bm bB bD a v Q:=by
 cases a with
 |none=>exact h
 |some a=>
  have⟨b,hb⟩:=h;refine⟨b,hb.d f (d.block b hb.lt ?_)⟩;grind[IsMap.at]
theorem jE.d{s:Nat}(h:jE bm bB bD sp v0 v1 v2 v3 v4 v5 v6 v7 v8 v9 w)(d:Z [s] w Q)(n:w.heap[s]?=H (dr c 170)):jE bm bB bD sp v0 v1 v2 v3 v4 v5 v6 v7 v8 v9 Q:=
 have f:=⟨_,d,λk l _=>by have e:=cC.1 l;subst e;exact .inl ⟨_,_,_,n,by decide⟩⟩
 ⟨h.blank.d f,h.fI.d f,h.dz.d f,h.eG.d f,h.dZ.d f,h.start.d d n f,h.stop.d d n f,h.B.d f,h.A.d f,h.l.d f⟩
def Uh(a b c d e f g h i j:dB):gX yB 0 [a,b,c,d,e,f,g,h,i,j]=#[a,b,c,d,e,f,g,h,i,j]:=by simp[gX]
def zm{s:Nat}(h:w.heap[s]?=H (dr yB 170)):w.cell? ⟨s,0,F⟩=H .nilFunc/\w.cell? ⟨s,1,F⟩=H .nilFunc/\w.cell? ⟨s,2,F⟩=H .nilFunc/\w.cell? ⟨s,3,F⟩=H .nilFunc/\w.cell? ⟨s,4,F⟩=H .nilFunc/\w.cell? ⟨s,5,F⟩=H (.map F)/\w.cell? ⟨s,6,F⟩=H (.map F)/\w.cell? ⟨s,7,F⟩=H .nilFunc/\w.cell? ⟨s,8,F⟩=H .nilFunc/\w.cell? ⟨s,9,F⟩=H .nilFunc:=by simp only[aF h];simp
theorem vu(h:w1.heap[zq w.heap]?=H (dr yB 170))(n:Z [] w w1)(A:jE bm bB bD sp v0 v1 v2 v3 v4 v5 v6 v7 v8 v9 w1)(W:J)(d:W=w1.setCells w.heap.size 0 [v0,v1,v2,v3,v4,v5,v6,v7,v8,v9]):W.heap[zq w.heap]?=H (dr #[v0,v1,v2,v3,v4,v5,v6,v7,v8,v9] 170)/\jE bm bB bD sp v0 v1 v2 v3 v4 v5 v6 v7 v8 v9 W/\Z [] w W:=by
 have l:=jK [v0,v1,v2,v3,v4,v5,v6,v7,v8,v9] w1 _ _ _ _ 0 h;have q:Z [zq w.heap] w1 W:=by rw[d];exact Z.setCells (.inl (by simp)) _ _ (Z.refl _ _)
 have s:Z [] w W:=by rw[d];exact Z.setCells (.inr (dF _)) _ _ n
 rw[Uh,<-d]at l;grind[jE.d]
def xZ{t:Nat}{h:Func}{a:Act}(d:h.results=#[.cell t 170])(q:a.tmps.getD t qu=dq w.heap.size)(l:a.defers=[])
  (n:W.heap[zq w.heap]?=H (dr #[v0,v1,v2,v3,v4,v5,v6,v7,v8,v9] 170)/\jE bm bB bD sp v0 v1 v2 v3 v4 v5 v6 v7 v8 v9 W/\Z [] w W):bodyPost prog h (oe bm bB bD sp w) .ret a W:=by
 have⟨hg,hr,hk⟩:=n;refine mL ?_ l ⟨_,_,_,_,_,_,_,_,_,_,D,hr,hk⟩;simp[results,d];simp[(by simpa using q),go_sem,(aF hg)]
structure St(z:Bool)(bm bB bD:Nat)(w cw:J)(rs:List (Ru×dB))(ms:List (Nat×List (List O×Ru))):Prop where
 k:Z [] w cw
 g:z=C->cw.heap[zq w.heap]?=H (dr yB 170)
 t:Pp cw
 lt:bm<zq w.heap
 B:∀p∈rs,mM bm bB bD p.1 p.2 cw
 A:∀p∈ms,IsMap bm bB bD p.1 p.2 (.map (H p.1)) cw/\w.heap.size<=p.1/\p.1≠bm
 nd:(ms.map (·.1)).Nodup
def St.start(bm bB a:Nat)(w:J)(h:Pp w)(d:bm<zq w.heap):St I bm bB a w w [] []:=
 ⟨Z.refl _ _,nofun,h,d,nofun,nofun,.nil⟩
def St.zero(s:St I bm bB bD w w [] []):∃W,W=w.alloc (dr yB 170)/\Hid (zq W.heap=zq w.heap+1)/\St C bm bB bD w W [] []:=⟨_,D,V (by simp),⟨(Z.refl _ _).alloc _,λ_=>aY w _,s.t.d (bm:=bm) (.h ((Z.refl _ _).alloc _)),s.lt,nofun,nofun,.nil⟩⟩
theorem St.Hc{z:Bool}(s:St z bm bB bD w cw rs ms)(l:Z [] cw cw'):St z bm bB bD w cw' rs ms:=
 have f:=.h l
 ⟨s.k.trans l,λh=>l.at (s.g h) (by simp),s.t.d f,s.lt,λp d=>(s.B p d).d f,λp d=>⟨(s.A p d).1.d f (l.block _ (s.A p d).1.lt (by simp)),(s.A p d).2⟩,s.nd⟩
theorem St.call{z:Bool}(s:St z bm bB bD w cw rs ms)(h:Z [] cw cw')(n:mM bm bB bD r v cw'):St z bm bB bD w cw' ((r,v)::rs) ms:=
 have d:=s.Hc h
 ⟨d.k,d.g,d.t,d.lt,λp l=>by grind[St.B],d.A,d.nd⟩
theorem St.map{z:Bool}(s:St z bm bB bD w cw rs ms):∃W b,W=cw.alloc (.map #[] 0)/\b=zq cw.heap/\St z bm bB bD w W rs ((b,[])::ms):=by have l:Z [] cw (cw.alloc (.map #[] 0)):=(Z.refl _ _).alloc _;have d:=s.Hc l;refine⟨_,_,D,D,d.k,d.g,d.t,d.lt,d.B,λp h=>?_,?_⟩;rcases bZ.1 h with rfl|h;exact⟨(⟨[],D,tq.new cw,λ_=>D⟩),s.k.size,by have:=s.k.size;have:=s.lt;grind⟩;grind[St.A];rw[Fy,ZS];refine⟨λn=>?_,s.nd⟩;obtain⟨p,h,e⟩:=dW.1 n;have:=(s.A p h).1.lt;grind
theorem St.on{z:Bool}{h:List (List O×Ru)}(s:St z bm bB bD w cw rs ((b,bC)::ms))(n:Z [b] cw cw')(l:yD bm cw cw')(a:IsMap bm bB bD b h (.map (H b)) cw'):St z bm bB bD w cw' rs ((b,h)::ms):=by have hb:=s.A (b,bC) (by simp);have q:=s.nd;refine⟨s.k.next n (λx c=> .inr (by grind)),λA=>n.at (s.g A) ?_,s.t.d l,s.lt,λp d=>(s.B p d).d l,λp d=>?_,s.nd⟩;grind[IsMap.at,g];rcases bZ.1 d with rfl|d;grind;have U:=s.A p (gS _ d);grind[IsMap.d,Z.block,IsMap.lt]
theorem St.at{z:Bool}(s:St z bm bB bD w cw rs ms)(h:(r,v)∈rs):mM bm bB bD r v cw:=s.B _ h
def St.d{z:Bool}(s:St z bm bB bD w cw rs ms)(h:(b,bC)∈ms):qN bm bB bD (H bC) (.map (H b)) cw:=⟨b,(s.A _ h).1⟩
theorem St.l{z:Bool}(S:St z bm bB bD w cw rs ((b,bC)::ms))(s:O)(a:List O)(r:Ru)(l:si s=C)(d:words s=a)(n:mM bm bB bD r v cw):dS 96 #[.map (H b),Y s,v] cw λe Q=>e=ff (.map (H b))/\St z bm bB bD w Q rs ((b,(a,r)::bC)::ms):=by
 have h:=S.A _ (js ..);refine(aey bm bB bD b s a r bC v cw l d S.t h.1 h.2.2 n).mono ?_;grind[on]
theorem St.made{z:Bool}(S:St z bm bB bD w cw rs ms){f:Nat}{b:io}(c:dS f b cw (zn bm bB bD r cw))(d:r≠ .nil):dS f b cw λe Q=>∃f a l,e=ff (.func f a l)/\St z bm bB bD w Q ((r,.func f a l)::rs) ms:=by
 refine c.mono ?_;grind[mM.func,call]
theorem St.h{z:Bool}(S:St z bm bB bD w cw rs ms){f:Nat}{b:io}(c:dS f b cw λe Q=>(∃v,e=ff v/\Ask bm v p Q)/\Z [] cw Q):dS f b cw λe Q=>∃f a l,e=ff (.func f a l)/\Ask bm (.func f a l) p Q/\St z bm bB bD w Q rs ms:=by
 refine c.mono ?_;grind[Ask.func,Hc]
def asks(bm:Nat)(w:J):∀p∈[(122,[aH]),(134,[cO,cH,cX]),(233,[dK])],dS p.1 #[] w λe Q=>(∃v,e=ff v/\Ask bm v (cZ p.2) Q)/\Z [] w Q:=by
 intro p s;obtain⟨W,n,U,g,z⟩:=wX w (dr (p.2.map dQ).toArray 9);have B:=WR bm w.heap.size (ln p.2) p.2 W g;have d:=V n;clear n;simp only[nQ,nR,od]at s;rcases s with rfl|rfl|rfl
 all_goals
  replace B:=B (by decide);dsimp only at B d|-
  first
  |go_enter func122,ntmps122
  |go_enter func134,ntmps134
  |go_enter func233,ntmps233
  go_wp2_with fail;have d:=d.out;simp at d;rw[<-d];clear d;refine B.mono ?_;rintro e Q⟨⟨v,rfl,q⟩,hk⟩;have A:=V q;have h:=U.trans hk;obtain⟨f,a,l,b⟩:=q.func;subst b;go_wp2;go_ret;exact⟨⟨_,D,A.out⟩,h⟩
def wS(bm:Nat)(v:dB)(p:O->Bool)(X:Nat->Prop)(w:J):Prop:=∃E,pK E v p w/\∀e∈E,wW bm w e/\¬X e
theorem wS.ask(h:wS bm v p X w):Ask bm v p w:=by have⟨E,hA,hE⟩:=h;grind[Ask]
theorem wS.kept(h:wS bm v p X w)(l:Z [] w Q):wS bm v p X Q:=by have⟨E,hA,hE⟩:=h;exact⟨E,hA.h l,λe d=>⟨(hE e d).1.d (.h l),(hE e d).2⟩⟩
def wS.other{l:Nat->Prop}(h:wS bm v p X w)(n:∀e,e<zq w.heap->l e->X e):wS bm v p l w:=by have⟨E,hA,hE⟩:=h;exact⟨E,hA,λe d=>⟨(hE e d).1,λq=>(hE e d).2 (n e (hA.lt e d) q)⟩⟩
theorem wS.of(h:Ask bm v p w)(l:∀e,e<zq w.heap->¬X e):wS bm v p X w:=by have⟨E,hA,hE⟩:=h;exact⟨E,hA,λe d=>⟨hE e d,l e (hA.lt e d)⟩⟩
theorem wS.set{bm k:Nat}{v:dB}{p:O->Bool}{X:Nat->Prop}{w:J}(h:wS bm v p X w)(n:X k)(u:dB):wS bm v p X (w.setCell ⟨k,0,F⟩ u):=by have⟨E,hA,hE⟩:=h;have l:=λe d=>dE w ⟨k,0,F⟩ u e (λq=>(hE e d).2 (by grind));refine⟨E,hA.keeps l (by simp),λe d=>⟨?_,(hE e d).2⟩⟩;grind[wW]
theorem YI(bm g a:Nat)(d:List O)(X:Nat->Prop)(w:J)(A:w.heap[g]?=H (dr (d.map dQ).toArray 9))(h:ln d<=4096)(U:∀e,X e->e<zq w.heap/\e≠g):dS 219 #[lO g (ln d) a] w λe Q=>(∃v,e=ff v/\wS bm v (cZ d) X Q)/\Z [] w Q:=by
 refine(aiM g a _ w).mono ?_;rintro e Q⟨rfl,rfl⟩;have s:Z [] w (w.alloc (dr #[lO g (ln d) a] 48)):=(Z.refl _ _).alloc _;have l:=aY w (dr #[lO g (ln d) a] 48);have n:=s.at A (by simp);refine⟨⟨_,D,_,adQ _ g a d _ l n h,λe q=>?_⟩,s⟩;simp at q;rcases q with rfl|rfl;exact⟨.inr ⟨_,_,l,by decide⟩,by grind⟩;exact⟨.inr ⟨_,_,n,by decide⟩,by grind⟩
def acH(bm:Nat)(a b:dB)(p q:O->Bool)(X:Nat->Prop)(w:J)(j:wS bm a p X w)(k:wS bm b q X w)(i:∀e,X e->e<zq w.heap):dS 274 #[a,b] w λe Q=>(∃v,e=ff v/\wS bm v (λs=>p s&&!q s) X Q)/\Z [] w Q:=by
 obtain⟨U,a1,n⟩:=j;obtain⟨c,a2,A⟩:=k;refine(Y0 (.inr ⟨D,D,D⟩) U c a b p q w a1 a2).mono ?_;rintro e Q⟨⟨v,rfl,ha,f,g⟩,h⟩;refine⟨⟨v,D,_,ha,λe d=>⟨OB (.inr ⟨_,_,f,by decide⟩) (.inr ⟨_,_,g,by decide⟩) (λe d=>(n e d).1.d (.h h)) (λe d=>(A e d).1.d (.h h)) e d,λl=>?_⟩⟩,h⟩;have:=i e l;simp at d;rcases d with rfl|rfl|d|d;omega;omega;exact(n e d).2 l;exact(A e d).2 l
def XX(a b:dB)(e:Nat):Prop:=fc e=a\/fc e=b
abbrev Oq:List O:=[gw,jV]
abbrev akB:O->Bool:=λs=>kg s&&!cZ Oq s
structure R7(bm bB:Nat)(ks:List O)(sl u:dB)(w1:J)(b0 b1 b2 b3 b4 b5 b6 b7 b8 b9 b10 b11 b12:Bool)(s5 s6 s7 s8 s9 s10 s11 s12 s13 s14 s15:dB)(w:J):Prop where
 k:Z [] w1 w
 f0:b0=C->s7=sl
 f1:b1=C->wS bm s8 (cZ ks) (XX s5 s6) w
 f2:b2=C->s9=fc bB
 f3:b3=C->s10=fc bB
 f4:b4=C->s11=gU bB 184
 f5:b5=C->s12=u
 f6:b6=C->∃g,s13=lO g 2 2/\w.heap[g]?=H (dr #[Y gw,Y jV] 9)
 f7:b7=C->wS bm s14 (cZ Oq) (XX s5 s6) w
 f8:b8=C->wS bm s15 akB (XX s5 s6) w
 f9:if b9 then ∃k,s5=fc k/\w1.heap.size<=k/\box w k (if b11 then s8 else .nilFunc) 87 else s5=qu
 f10:if b10 then ∃k,s6=fc k/\w1.heap.size<=k/\box w k (if b12 then s15 else .nilFunc) 87 else s6=qu
 ne:b9=C->b10=C->s5≠s6
 d11:b11=C->b1=C/\b9=C
 d12:b12=C->b8=C/\b10=C
section
variable {bm bB:Nat}{ks:List O}{sl u:dB}{w1:J}{b0 b1 b2 b3 b4 b5 b6 b7 b8 b9 b10 b11 b12:Bool}{s5 s6 s7 s8 s9 s10 s11 s12 s13 s14 s15:dB}{w Q:J}
theorem XX.lt(h:R7 bm bB ks sl u w1 b0 b1 b2 b3 b4 b5 b6 b7 b8 b9 b10 b11 b12 s5 s6 s7 s8 s9 s10 s11 s12 s13 s14 s15 w){e:Nat}(d:XX s5 s6 e):zq w1.heap<=e/\∃v,box w e v 87:=by
 rcases d with d|d;have:=h.f9;cases b9 with
 |false=>rw[this]at d;simp[qu]at d
 |true=>grind
 have:=h.f10;cases b10 with
 |false=>rw[this]at d;simp[qu]at d
 |true=>grind
theorem R7.go(h:R7 bm bB ks sl u w1 b0 b1 b2 b3 b4 b5 b6 b7 b8 b9 b10 b11 b12 s5 s6 s7 s8 s9 s10 s11 s12 s13 s14 s15 w)(d:Z [] w Q):R7 bm bB ks sl u w1 b0 b1 b2 b3 b4 b5 b6 b7 b8 b9 b10 b11 b12 s5 s6 s7 s8 s9 s10 s11 s12 s13 s14 s15 Q:=by
 refine⟨h.k.trans d,h.f0,λq=>(h.f1 q).kept d,h.f2,h.f3,h.f4,h.f5,λq=>?_,λq=>(h.f7 q).kept d,λq=>(h.f8 q).kept d,?_,?_,h.ne,h.d11,h.d12⟩
 all_goals grind[f6,Z.at,f9,f10]
end
def acg(bm bB c:Nat)(d:List (List O×Ru))(w:J)(e:Ending)(a:J):Prop:=∃b,e=ff (.map (H b))/\IsMap bm bB c b d (.map (H b)) a/\w.heap.size<=b/\b≠bm/\Z [] w a
def St.mapOf{z:Bool}(s:St z bm bB bD w cw rs ms)(A:Z [] cw cw')(U:IsMap bm bB bD b bC (.map (H b)) cw')(q:zq cw.heap<=b)(n:b≠bm):St z bm bB bD w cw' rs ((b,bC)::ms):=by have d:=s.Hc A;refine⟨d.k,d.g,d.t,d.lt,d.B,λp l=>?_,?_⟩;rcases bZ.1 l with rfl|l;exact⟨U,gR s.k.size q,n⟩;exact d.A p l;rw[Fy,ZS];refine⟨λh=>?_,s.nd⟩;obtain⟨p,l,e⟩:=dW.1 h;have:=(s.A p l).1.lt;simp at e;omega
def BS(bm bB:Nat)(w:J):Prop:=bB<zq w.heap/\∃u,w.cell? ⟨bB,184,F⟩=H u/\Ask bm u kg w
theorem BS.h(h:BS bm bB w)(d:Z [] w Q):BS bm bB Q:=by have⟨h1,u,hu,hA⟩:=h;exact⟨kQ h1 d.size,u,(d.cell (p:=⟨bB,184,F⟩) h1 (by simp)).trans hu,hA.d (.h d)⟩
def St.slice{z:Bool}(s:St z bm bB bD w cw rs ms)(h:List O)(d:io)(l:(h.map dQ).toArray=d):∃W g,W=cw.alloc (dr d 9)/\g=zq cw.heap/\W.heap[g]?=H (dr (h.map dQ).toArray 9)/\St z bm bB bD w W rs ms:=
 ⟨_,_,rfl,rfl,by rw[l];exact aY cw _,s.Hc ((Z.refl _ _).alloc _)⟩
theorem aeX{z:Bool}(s:St z bm bB bD w cw rs ms)(A:BS bm bB w)(g m n:Nat)(p:List O)(hn:ln p=n)(hg:cw.heap[g]?=H (dr (p.map dQ).toArray 9))(ah:ln p<=4096):dS 192 #[fc bB,lO g n m] cw (zn bm bB bD (.item p) cw):=by
 subst hn;obtain⟨h1,u,hu,E⟩:=A.h s.k;obtain⟨y,x,bI,rfl⟩:=E.func;have⟨w1,hw1,HK,HG,HZ⟩:=wX cw (dr #[fc bB] 119);have HU:=hu;have HB:=h1;have a7:=V E;have H2:=hg;have a9:=ah;have HW:=V hw1;clear E hw1;go_enter func192,ntmps192;go_wp21;refine xr (by rfl) ?_;change wpAny _ _ _ _ _ _ _ (World.drew _);rw[<-HW.out];refine GJ (b:=λU a W=>∃b0 b1 b2 b3 b4 b5 b6 b7 b8 b9 b10 b11 b12 s5 s6 s7 s8 s9 s10 s11 s12 s13 s14 s15,U=#[b0,b1,b2,b3,b4,b5,b6,b7,b8,b9,b10,b11,b12]/\a=⟨#[fc bB,lO g (ln p) m,dq cw.heap.size,qu,.nilFunc,s5,s6,s7,s8,s9,s10,s11,s12,s13,s14,s15,qu],[]⟩/\R7 bm bB p (lO g (ln p) m) (.func y x bI) w1 b0 b1 b2 b3 b4 b5 b6 b7 b8 b9 b10 b11 b12 s5 s6 s7 s8 s9 s10 s11 s12 s13 s14 s15 W) ?_ ?_ _ _ _ _ ?_ ?_
 .rintro U a W i⟨b0,b1,b2,b3,b4,b5,b6,b7,b8,b9,b10,b11,b12,s5,s6,s7,s8,s9,s10,s11,s12,s13,s14,s15,rfl,rfl,d⟩ M;simp only[fB,Vi,Vj]at M;have⟨a3,hc⟩:=M;have a3:i<13:=a3;obtain rfl|rfl|rfl|rfl|rfl|rfl|rfl|rfl|rfl|rfl|rfl|rfl|rfl:i=0\/i=1\/i=2\/i=3\/i=4\/i=5\/i=6\/i=7\/i=8\/i=9\/i=10\/i=11\/i=12:=by omega
  all_goals simp[du]at hc
  .refine lz D ?_;intro j h;go_simp;refine h _ _ ?_
   iterate 24 apply eR
   refine⟨D,D,?_⟩;exact⟨d.k,λ_=>D,d.f1,d.f2,d.f3,d.f4,d.f5,d.f6,d.f7,d.f8,d.f9,d.f10,d.ne,d.d11,d.d12⟩
  .refine lz D ?_;intro j h;have e7:=d.f0 hc.2;subst e7;have a1:b11=I:=by
    cases b11 with
    |false=>rfl
    |true=>have:=(d.d11 D).1;simp[hc.1]at this
   subst a1;have B:=(YI bm g m p (XX s5 s6) W ((HK.trans d.k).at H2 (by simp)) a9 (λe l=>by have⟨h1,v,h3⟩:=XX.lt d l;grind))
   go_simp;refine B.mono ?_;rintro e Q⟨⟨v,rfl,o⟩,hk⟩;have b:=d.go hk;refine h _ _ ?_
   iterate 24 apply eR
   refine⟨D,D,?_⟩;exact⟨b.k,b.f0,λ_=>o,b.f2,b.f3,b.f4,b.f5,b.f6,b.f7,b.f8,b.f9,b.f10,b.ne,(λq=>by simp at q),b.d12⟩
  .refine lz D ?_;intro j h;have c0:W.cell? ⟨zq cw.heap,0,F⟩=H (fc bB):=(aF (d.k.at HG (by simp)) 0).trans D;go_simp;refine h _ _ ?_
   iterate 24 apply eR
   refine⟨D,D,?_⟩;exact⟨d.k,d.f0,d.f1,λ_=>D,d.f3,d.f4,d.f5,d.f6,d.f7,d.f8,d.f9,d.f10,d.ne,d.d11,d.d12⟩
  .refine lz D ?_;intro j h;have e9:=d.f2 hc.2;subst e9;go_simp;refine h _ _ ?_
   iterate 24 apply eR
   refine⟨D,D,?_⟩;exact⟨d.k,d.f0,d.f1,d.f2,λ_=>D,d.f4,d.f5,d.f6,d.f7,d.f8,d.f9,d.f10,d.ne,d.d11,d.d12⟩
  .refine lz D ?_;intro j h;have ab:=d.f3 hc.2;subst ab;go_simp;refine h _ _ ?_
   iterate 24 apply eR
   refine⟨D,D,?_⟩;exact⟨d.k,d.f0,d.f1,d.f2,d.f3,λ_=>D,d.f5,d.f6,d.f7,d.f8,d.f9,d.f10,d.ne,d.d11,d.d12⟩
  .refine lz D ?_;intro j h;have ac:=d.f4 hc.2;subst ac;have c0:W.cell? ⟨bB,184,F⟩=H (.func y x bI):=((HK.trans d.k).cell (p:=⟨bB,184,F⟩) HB (by simp)).trans HU;go_simp;refine h _ _ ?_
   iterate 24 apply eR
   refine⟨D,D,?_⟩;exact⟨d.k,d.f0,d.f1,d.f2,d.f3,d.f4,λ_=>D,d.f6,d.f7,d.f8,d.f9,d.f10,d.ne,d.d11,d.d12⟩
  .refine lz D ?_;intro j h;go_simp;have hk:Z [] W (W.alloc (dr #[Y gw,Y jV] 9)):=(Z.refl _ _).alloc _;have b:=d.go hk;refine h _ _ ?_
   iterate 24 apply eR
   refine⟨D,D,?_⟩;exact⟨b.k,b.f0,b.f1,b.f2,b.f3,b.f4,b.f5,λ_=>⟨_,D,aY W _⟩,b.f7,b.f8,b.f9,b.f10,b.ne,b.d11,b.d12⟩
  .refine lz D ?_;intro j h;have⟨g3,e13,h13⟩:=d.f6 (by simp[hc]);subst e13;have B:=(YI bm g3 2 Oq (XX s5 s6) W h13 (by decide) (λe l=>by have⟨h1,v,h3⟩:=XX.lt d l;grind))
   go_simp;refine B.mono ?_;rintro e Q⟨⟨v,rfl,o⟩,hk⟩;have b:=d.go hk;refine h _ _ ?_
   iterate 24 apply eR
   refine⟨D,D,?_⟩;exact⟨b.k,b.f0,b.f1,b.f2,b.f3,b.f4,b.f5,b.f6,λ_=>o,b.f8,b.f9,b.f10,b.ne,b.d11,b.d12⟩
  .refine lz D ?_;intro j h;have ad:=d.f5 (by simp[hc]);subst ad;have ae:=d.f7 (by simp[hc]);have a2:b12=I:=by
    cases b12 with
    |false=>rfl
    |true=>have:=(d.d12 D).1;simp[hc.1]at this
   subst a2;have ag:wS bm (.func y x bI) kg (XX s5 s6) W:=(wS.of (a7.d (.h HK)) (λe L l=>by have:=(XX.lt d l).1;omega)).kept d.k;have B:=(acH bm (.func y x bI) s14 kg (cZ Oq) (XX s5 s6) W ag ae (λe l=>by have⟨h1,v,h3⟩:=XX.lt d l;exact fp h3))
   go_simp;refine B.mono ?_;rintro e Q⟨⟨v,rfl,o⟩,hk⟩;have b:=d.go hk;refine h _ _ ?_
   iterate 24 apply eR
   refine⟨D,D,?_⟩;exact⟨b.k,b.f0,b.f1,b.f2,b.f3,b.f4,b.f5,b.f6,b.f7,λ_=>o,b.f9,b.f10,b.ne,b.d11,(λq=>by simp at q)⟩
  .refine lz D ?_;intro j h;have A:b11=I:=by
    cases b11 with
    |false=>rfl
    |true=>have:=(d.d11 D).2;simp[hc]at this
   subst A;have hb:b9=I:=by simpa using hc
   subst hb;have X:s5=qu:=d.f9;subst X;go_simp;have hk:Z [] W (W.alloc (dr #[.nilFunc] 87)):=(Z.refl _ _).alloc _;have b:=d.go hk;have r:∀e,e<zq W.heap->XX (fc W.heap.size) s6 e->XX qu s6 e:=λe L l=>by
    rcases l with l|l
    .simp at l<;>omega
    exact .inr l
   refine h _ _ ?_
   iterate 24 apply eR
   refine⟨D,D,?_⟩;exact⟨b.k,b.f0,(λq=>((d.f1 q).other r).kept hk),b.f2,b.f3,b.f4,b.f5,b.f6,(λq=>((d.f7 q).other r).kept hk),(λq=>((d.f8 q).other r).kept hk),⟨_,D,d.k.size,aY W _⟩,b.f10,(λ_ q=>by subst q;have⟨k,e1,h1,h3⟩:=d.f10;grind),(λq=>by simp at q),b.d12⟩
  .refine lz D ?_;intro j h;have A:b12=I:=by
    cases b12 with
    |false=>rfl
    |true=>have:=(d.d12 D).2;simp[hc]at this
   subst A;have hb:b10=I:=by simpa using hc
   subst hb;have X:s6=qu:=d.f10;subst X;go_simp;have hk:Z [] W (W.alloc (dr #[.nilFunc] 87)):=(Z.refl _ _).alloc _;have b:=d.go hk;have r:∀e,e<zq W.heap->XX s5 (fc W.heap.size) e->XX s5 qu e:=λe L l=>by rcases l with l|l;exact .inl l;grind
   refine h _ _ ?_
   iterate 24 apply eR
   refine⟨D,D,?_⟩;exact⟨b.k,b.f0,(λq=>((d.f1 q).other r).kept hk),b.f2,b.f3,b.f4,b.f5,b.f6,(λq=>((d.f7 q).other r).kept hk),(λq=>((d.f8 q).other r).kept hk),b.f9,⟨_,D,d.k.size,aY W _⟩,(λq _=>by subst q;have⟨k,e1,h1,h3⟩:=d.f9;grind),b.d11,(λq=>by simp at q)⟩
  .refine lz D ?_;intro j h;have A:b11=I:=by simp[hc]
   subst A;have hb:b9=C:=by simp[hc]
   have a0:b1=C:=by simp[hc]
   subst hb a0;have⟨k,X,h1,h3⟩:=d.f9;subst X;have⟨f,aa,ll,o⟩:=(d.f1 D).ask.func;subst o;have c0:W.cell? ⟨k,0,F⟩=H .nilFunc:=(aF h3 0).trans D;have c1:=cY h3 0;go_simp;have l:XX (fc k) s6 k:=.inl D;refine h _ _ ?_
   iterate 24 apply eR
   refine⟨D,D,?_⟩;refine⟨d.k.setCell (p:=⟨k,0,F⟩) (.inr h1) _,d.f0,(λq=>(d.f1 q).set l _),d.f2,d.f3,d.f4,d.f5,λq=>?_,(λq=>(d.f7 q).set l _),(λq=>(d.f8 q).set l _),⟨k,D,h1,(bH h3 0 _).trans D⟩,?_,d.ne,(λ_=>⟨D,D⟩),d.d12⟩;have⟨g3,e13,h13⟩:=d.f6 q;exact⟨g3,e13,(dE W ⟨k,0,F⟩ _ g3 (xQ h13 h3 (by decide))).trans h13⟩;have:=d.f10;split at this;rename_i t;have⟨k2,e2,h4,h5⟩:=this;rw[dw t];refine⟨k2,e2,h4,(dE W ⟨k,0,F⟩ _ k2 (λq=>?_)).trans h5⟩;subst q;exact d.ne D t e2.symm;grind
  .refine lz D ?_;intro j h;have A:b12=I:=by simp[hc]
   subst A;have hb:b10=C:=by simp[hc]
   have a0:b8=C:=by simp[hc]
   subst hb a0;have⟨k,X,h1,h3⟩:=d.f10;subst X;have⟨f,aa,ll,o⟩:=(d.f8 D).ask.func;subst o;have c0:W.cell? ⟨k,0,F⟩=H .nilFunc:=(aF h3 0).trans D;have c1:=cY h3 0;go_simp;have l:XX s5 (fc k) k:=.inr D;refine h _ _ ?_
   iterate 24 apply eR
   refine⟨D,D,?_⟩;refine⟨d.k.setCell (p:=⟨k,0,F⟩) (.inr h1) _,d.f0,(λq=>(d.f1 q).set l _),d.f2,d.f3,d.f4,d.f5,λq=>?_,(λq=>(d.f7 q).set l _),(λq=>(d.f8 q).set l _),?_,⟨k,D,h1,(bH h3 0 _).trans D⟩,d.ne,d.d11,(λ_=>⟨D,D⟩)⟩;have⟨g3,e13,h13⟩:=d.f6 q;exact⟨g3,e13,(dE W ⟨k,0,F⟩ _ g3 (xQ h13 h3 (by decide))).trans h13⟩;have:=d.f9;split at this;rename_i t;have⟨k2,e2,h4,h5⟩:=this;rw[dw t];refine⟨k2,e2,h4,(dE W ⟨k,0,F⟩ _ k2 (λq=>?_)).trans h5⟩;subst q;exact d.ne t D e2;grind
 .rintro U a W⟨b0,b1,b2,b3,b4,b5,b6,b7,b8,b9,b10,b11,b12,s5,s6,s7,s8,s9,s10,s11,s12,s13,s14,s15,rfl,rfl,d⟩ c;simp only[fB,Ya,Vj]at c;have N:=c 0 (by decide);simp[du]at N;subst N;have aJ:=c 1 (by decide);simp[du]at aJ;subst aJ;have aI:=c 2 (by decide);simp[du]at aI;subst aI;have bC:=c 3 (by decide);simp[du]at bC;subst bC;have S:=c 4 (by decide);simp[du]at S;subst S;have T:=c 5 (by decide);simp[du]at T;subst T;have P:=c 6 (by decide);simp[du]at P;subst P;have R:=c 7 (by decide);simp[du]at R;subst R;have q8:=c 8 (by decide);simp[du]at q8;subst q8;have q9:=c 9 (by decide);simp[du]at q9;subst q9;have G:=c 10 (by decide);simp[du]at G;subst G;have J:=c 11 (by decide);simp[du]at J;subst J;have K:=c 12 (by decide);simp[du]at K;subst K;have⟨k5,e5,h5,X5⟩:=d.f9;have⟨k6,e6,h6,X6⟩:=d.f10;subst e5 e6;have A1:=(d.f1 D).ask;have A2:=(d.f8 D).ask;have a8:=HK.trans d.k;have G2:=d.k.at HG (by simp);rename_i KK af;refine af _ _ ?_;go_wp2;go_ret;exact⟨⟨_,D,_,_,_,_,_,D,G2,X5,A1,X6,A2⟩,a8⟩
 decide;exact⟨I,I,I,I,I,I,I,I,I,I,I,I,I,qu,qu,qu,qu,qu,qu,qu,qu,qu,qu,qu,D,D,(Z.refl _ _).drew,by simp,by simp,by simp,by simp,by simp,by simp,by simp,by simp,by simp,D,D,by simp,by simp,by simp⟩
def Ir(bm bB a b h:Nat)(own:Bool)(w:J)(d:h=if own then bB else a):dS 92 #[fc bB,.func (.func b) #[fc h] #[]] w (zn bm bB a (.dz b own) w):=by rw[d];exact Dq bm bB a b own w
def amq:dS 92 #[fc bB,.func (.func pf) #[fc bB] #[]] w (zn bm bB bD (.dz pf C) w):=Dq bm bB bD pf C w
def amp:dS 92 #[fc bB,.func (.func pf) #[fc bD] #[]] w (zn bm bB bD (.dz pf I) w):=Dq bm bB bD pf I w
def ams:mM bm bB bD .eW (.func (.func 91) #[] #[]) w:=rfl
def amr{f:Nat}:mM bm bB bD (.dX f) (.func (.func f) #[fc bB] #[]) w:=rfl
def mN:kR:={blank:=.eW,dz:=.dz 93 I,eG:=.eW,start:=H [([aC],(.dX 97))],stop:=H [([aZ,aO,aC,iC],(.dX 98))],A:=.eW,l:=.dX 98}
def jH:kR:={blank:=.eW,dz:=.dz 99 C,eG:=.eW,start:=H [([aZ],(.dX 101)),([aC],(.qX 6))],stop:=H [([aZ,aO,aC,iC],(.dX 102))],A:=.eW,l:=.dX 102}
def gI:kR:={blank:=.dX 103,dz:=.dz 99 C,eG:=.eW,start:=H [([aN],(.dX 106)),([bO],(.dX 105)),([dy],(.dX 104)),([aC],(.qX 6)),([aZ],.eW)],stop:=H [([aO,aC,iC],(.dX 108)),([aZ],(.dX 107))],A:=.eW,l:=.dX 108}
def kD:kR:={blank:=.dX 103,dz:=.dz 99 C,eG:=.eW,start:=H [([dy,bO,aN],(.dX 110)),([aO],(.dX 109)),([aC],(.qX 6)),([aZ],.eW)],stop:=H [([aO,aC,iC],(.dX 111))],A:=.eW,l:=.dX 111}
def yp:kR:={fI:=.dX 103,dZ:=.dX 112,l:=.dX 113}
def iy:kR:={fI:=.dX 130,l:=.dX 131}
def oE:kR:={start:=H [([cI,eF,aV,cO,eQ,cH,eS,cX,dK],(.ahead 132))],stop:=H [([aO,eF,aV,aC,cO,eQ,cH,eS,cX,dK],.eW),([aH],(.ahead 132)),([cI],(.ends 132))],l:=.qX 6}
def rV:kR:={fI:=.dX 119,dz:=.dz 99 C,eG:=.eW,start:=H [([ig],(.dX 127)),([fR],(.dX 126)),([aN],(.qX 3)),([aH],(.ahead 125)),([eQ,eS,dK],(.ox [aH] cO 11)),([cO,cH,cX],(.nN [aH] 11)),([eF],(.ox [aH] aV 10)),([aV],(.nN [aH] 10)),([cI],(.dX 120))],stop:=H [([aO,cI,eF,aV,aC,cO,eQ,cH,eS,cX,dK],.eW),([aH],(.ends 125))],l:=.dX 129}
def nL:kR:={blank:=.dX 103,dz:=.dz 99 C,eG:=.eW,dZ:=.qX 6,start:=H [([eF],(.dX 104)),([aC],(.qX 6))],stop:=H [([aV],(.ends 133)),([eF],.eW)],l:=.ahead 133}
def sS:kR:={start:=H [([cI,eF,aV,cO,cH,cX],(.ahead 135)),([eQ,eS],(.ox [cO,cH,cX] dK 12)),([dK],(.nN [cO,cH,cX] 12))],stop:=H [([aO,cI,eF,aV,aC,eQ,eS,dK],.eW),([aH],(.ahead 135)),([cO,cH,cX],(.Qn (.ends 135)))],l:=.qX 7}
def Fb:kR:={start:=H [([cI,eF,aV,cO,cH,cX,dK],(.ahead 138)),([eQ,eS],(.dX 137))],stop:=H [([aO,cI,eF,aV,aC,eQ,eS],.eW),([cO,cH,cX],(.Qn (.ahead 138))),([aH],(.ahead 138)),([dK],(.ends 138))],l:=.qX 7}
def tX:kR:={start:=H [([cI,eF,aV,cO,eQ,cH,eS,cX,dK],(.ahead 139))],stop:=H [([aO,cI,eF,aV,aC],.eW),([aH,cO,cH,cX,dK],(.Qn (.ahead 139))),([eQ,eS],(.Qn (.ends 139)))],l:=.qX 6}
def Iw:kR:={fI:=.dX 140,dz:=.dz 99 C,start:=H [([ig,iM],(.ahead 144)),([gm],(.ends 144)),([jU],(.dX 143)),([cD],(.dX 142)),([dJ],(.dX 141)),([aC],(.qX 6))],stop:=H [([gm],(.ends 144)),([dJ],(.dX 146)),([cD],(.dX 145))],l:=.eW}
def wE:kR:={start:=H [([cI,aH,cO,cH,cX,dK,eQ,eS],(.ahead 144))],stop:=H [([cI,aH,cO,cH,cX,dK,eQ,eS],(.Qn (.ahead 144)))],l:=.qX 14}
def iZ:List (List O×Ru):=[([dR],(.dX 212)),([xv,⟨#[98]⟩,⟨#[105]⟩,fD],(.dX 211)),([fR],(.dX 210)),([iC],(.dX 209)),([jV],(.dX 208)),([eN],(.dX 207)),([pg,ph],(.dX 206)),([gw,iK,⟨#[100,108]⟩,tj,eu,oJ,oK],(.dX 205)),([aC],(.dX 204)),([aO],(.dX 203))]
def iR:List (List O×Ru):=[([dR],(.dX 202)),([fD],(.dX 201)),([⟨#[98]⟩,⟨#[105]⟩],(.dX 200)),([xv],(.dX 199)),([iC,jt,ig],(.dX 198)),([gm],(.dX 197)),([dJ,cD],(.dX 196)),([iM],(.dX 195)),([aH],(.dX 194)),([eu],(.dX 193)),([oJ,oK],(.item [oJ,oK])),([eN],(.item [eN])),([fR],(.dX 191)),([jU],(.dX 190)),([pg,ph],(.dX 189)),([tj],(.dX 188)),([gw,iK,⟨#[100,108]⟩,jV],(.dX 187)),([aZ,cI,eF,aV,cO,eQ,cH,eS,cX,dK],.eW),([dy,bO,aN],(.qX 3)),([aO],(.dX 186)),([aC],(.dX 185))]
def kE(a:Nat)(own:Bool):kR:={blank:=.qX 6,dz:=.dz a own,eG:=.eW,dZ:=.eW,start:=H [([aC],(.qX 6))],l:=.dX 241}
def aeZ:List (Nat×kR):=[(63,{blank:=.eW,dz:=.dz 93 I,eG:=.dX 94,l:=.dX 95}),(64,mN),(65,jH),(66,gI),(67,kD),(72,oE),(70,rV),(73,nL),(74,sS),(75,Fb),(76,tX),(77,Iw),(78,wE)]
def ai7(bm bB a:Nat)(w:J):dS 68 #[fc bB] w (oe bm bB a yp w)/\dS 71 #[fc bB] w (oe bm bB a iy w):=by
 constructor
 all_goals
  first
  |go_enter func68,ntmps68
  |go_enter func71,ntmps71
  go_wp2;exact xZ D D D ⟨aY w _,⟨D,D,D,D,D,D,D,D,D,D⟩,(Z.refl _ _).alloc _⟩
def ai6(bm bB c:Nat)(w:J)(hb:BD bB c w)(i:BS bm bB w)(k:Pp w)(s:bm<zq w.heap):(∀p∈aeZ,dS p.1 #[fc bB] w (oe bm bB c p.2 w))/\(∀p∈[(115,iR),(117,iZ)],dS p.1 #[fc bB] w (acg bm bB c p.2 w))/\∀pf A own,A=(if own then bB else c)->dS 147 #[fc bB,.func (.func pf) #[fc A] #[]] w (oe bm bB c (kE pf own) w):=by
 have a0:=@run_makeMap prog;have HS:=St.start bm bB c w k s;have⟨Ht,hBl⟩:=hb;refine⟨λp q=>?_,λp q=>?_,λpf A own n=>?_⟩
 rotate_left 2
 have j:=V n;clear n
 rotate_left 1
 all_goals try (simp only[aeZ,nQ,nR,od]at q)
 rcases q with rfl|rfl|rfl|rfl|rfl|rfl|rfl|rfl|rfl|rfl|rfl|rfl|rfl
 rotate_left 13
 rcases q with rfl|rfl
 all_goals
  try dsimp only
  first
  |go_enter func63,ntmps63
  |go_enter func64,ntmps64
  |go_enter func65,ntmps65
  |go_enter func66,ntmps66
  |go_enter func67,ntmps67
  |go_enter func72,ntmps72
  |go_enter func70,ntmps70
  |go_enter func73,ntmps73
  |go_enter func74,ntmps74
  |go_enter func75,ntmps75
  |go_enter func76,ntmps76
  |go_enter func77,ntmps77
  |go_enter func78,ntmps78
  |go_enter func115,ntmps115
  |go_enter func117,ntmps117
  |go_enter func147,ntmps147
  repeat
   go_wp2_with fail
   try (have⟨W,h1,HZ,d⟩:=HS.zero;rw[<-h1];clear HS;have HS:=d;clear d h1)
   try (have⟨W,b,h1,h2,d⟩:=HS.map;(first|rw[<-h1,<-h2]|rw[<-h1,<-HZ.out,<-h2]);clear HS;have HS:=d;clear d h1 h2)
   try (have⟨W,g,h1,h2,HL,d⟩:=HS.slice [eN] #[Y eN] D;rw[<-h1,<-h2];clear HS;have HS:=d;clear d h1 h2)
   try (have⟨W,g,h1,h2,HL,d⟩:=HS.slice [oJ,oK] #[Y oJ,Y oK] D;rw[<-h1,<-h2];clear HS;have HS:=d;clear d h1 h2)
   first
   |refine(HS.made (by first|with_reducible exact amq|with_reducible exact amp|with_reducible exact ahM bm bB c _ _|with_reducible exact aeW bm bB c _ _|with_reducible exact ahN bm bB c _ _|with_reducible exact OS bm bB c _ _ _ _ U|with_reducible exact Xu bm bB c _ _ _ _ _ U|with_reducible exact Ir bm bB c _ _ _ _ j.out|(with_reducible refine akK bm bB c _ _ _ ?_ (HS.at (js ..)));exact nofun|(with_reducible refine aeX HS i _ _ _ _ ?_ HL ?_)<;>decide) (by nofun)).mono ?_;rintro e W⟨f,a,l,rfl,d⟩
   |refine(HS.h (by first|with_reducible exact asks bm _ _ (js ..)|with_reducible exact asks bm _ _ (gS _ (js ..))|with_reducible exact asks bm _ _ (gS _ (gS _ (js ..))))).mono ?_;rintro e W⟨f,a,l,rfl,U,d⟩
   |refine(HS.l _ _ _ (by rfl) (by rfl) (by first|with_reducible exact ams|with_reducible exact amr|exact HS.at (.head _))).mono ?_;rintro e W⟨rfl,d⟩
   clear HS;have HS:=d;clear d
  first
  |have⟨q0,q1,q2,q3,q4,q5,q6,q7,q8,q9⟩:=zm (HS.g D)
   have u:=cY (HS.g D);go_wp2;refine xZ D D D (vu (HS.g D) HS.k ?_ _ D);constructor
   all_goals first
   |rfl
   |exact HS.at (by repeat first|exact .head _|apply List.Mem.tail)
   |exact HS.d (.head _)
   |exact HS.d (.tail _ (.head _))
  |go_wp2
   go_ret;have h:=HS.A _ (.head _);exact⟨_,D,h.1,h.2.1,h.2.2,HS.k⟩
def St.all{z:Bool}{bm bB a:Nat}{w b:J}{rs:List (Ru×dB)}{ms:List (Nat×List (List O×Ru))}(s:St z bm bB a w b rs ms)(h:BD bB a w)(d:BS bm bB w):=ai6 bm bB a b (h.h s.k) (d.h s.k) s.t (kQ s.lt s.k.size)
def ib:kR:={fI:=.dX 114,dz:=.dz 99 C,start:=H iR,stop:=H iZ,B:=.dX 116,A:=.dX 118,l:=.eW}
def aeH(bm bB a:Nat)(w:J)(hb:BD bB a w)(b:BS bm bB w)(c:Pp w)(a2:bm<zq w.heap):dS 69 #[fc bB] w (oe bm bB a ib w):=by
 have HS:=St.start bm bB a w c a2;go_enter func69,ntmps69;go_wp2_with fail;have⟨W,h1,_,l⟩:=HS.zero;rw[<-h1];clear HS h1;refine(l.made (Ir bm bB a _ _ C _ D) nofun).mono ?_;rintro e f⟨f1,a1,j,rfl,HS⟩;clear l;go_wp2_with fail;refine((HS.all hb b).2.1 _ (.head _)).mono ?_;rintro e g⟨b1,rfl,U,n,d,s⟩;have l:=HS.mapOf s U n d;clear HS U n d s;go_wp2_with fail;refine((l.all hb b).2.1 _ (.tail _ (.head _))).mono ?_;rintro e i⟨b2,rfl,a0,q,h,A⟩;have HS:=l.mapOf A a0 q h;clear l a0 q h A;have⟨q0,q1,q2,q3,q4,q5,q6,q7,q8,q9⟩:=zm (HS.g D);have u:=cY (HS.g D);go_wp2;refine xZ D D D (vu (HS.g D) HS.k ?_ _ D);exact⟨D,D,HS.at (.head _),D,D,HS.d (.tail _ (.head _)),HS.d (.head _),D,D,D⟩
def GZ{own:Bool}(h:jE bm bB bD (kE pf own) v0 v1 v2 v3 v4 v5 v6 v7 v8 v9 w):∃n d s q l A b5,v0=.func n d s/\v1=.nilFunc/\v2=.func q l A/\v3=.func (.func 91) #[] #[]/\v4=.func (.func 91) #[] #[]/\v5=.map (H b5)/\v6=.map F/\v7=.nilFunc/\v8=.nilFunc/\v9=.func (.func 241) #[fc bB] #[]:=by have⟨n,d,s,e0⟩:=h.blank.func (by simp[kE]);have⟨q,l,A,e2⟩:=h.dz.func (by simp[kE]);have⟨b5,L,e5,_⟩:=h.start;exact⟨n,d,s,q,l,A,b5,e0,h.fI,e2,h.eG,h.dZ,e5,h.stop,h.B,h.A,h.l⟩
def Gq(bm bB a:Nat)(w:J)(l:BD bB a w)(q:BS bm bB w)(A:Pp w)(d:bm<zq w.heap):dS 80 #[fc bB] w (oe bm bB a (kE 93 I) w):=by
 have HS:=St.start bm bB a w A d;have⟨Ht,hBl⟩:=l;go_enter func80,ntmps80;go_wp2_with fail;have⟨W,h1,_,HT⟩:=HS.zero;rw[<-h1];clear HS h1;refine((HT.all l q).2.2 _ _ I D).mono ?_;rintro e U⟨v0,v1,v2,v3,v4,v5,v6,v7,v8,v9,rfl,h,n⟩;obtain⟨f0,a0,b,f2,a2,c,b5,rfl,rfl,rfl,rfl,rfl,rfl,rfl,rfl,rfl,rfl⟩:=GZ h;have HS:=HT.Hc n;clear HT;have s:=V (vu (HS.g D) HS.k h _ D);have⟨q0,q1,q2,q3,q4,q5,q6,q7,q8,q9⟩:=zm (HS.g D);have u:=cY (HS.g D);clear h n;go_wp2;exact xZ D D D s.out
def oD:kR:={kE 148 C with stop:=H [([aC],.dX 149)]}
theorem Ul(bm bB a:Nat)(w:J)(hb:BD bB a w)(I:BS bm bB w)(z:Pp w)(ab:bm<zq w.heap):dS 79 #[fc bB] w (oe bm bB a oD w):=by
 have X:=@run_makeMap prog;obtain⟨bC,t,_,S0⟩:=(St.start bm bB a w z ab).zero;have E:=V hb;have p:=V S0;have ag:=V t;clear S0 t z ab hb;go_enter func79,ntmps79;go_wp2_with fail;rw[<-ag.out];refine((p.out.all E.out I).2.2 148 bB C D).mono ?_;rintro e l⟨v0,v1,v2,v3,v4,v5,v6,v7,v8,v9,rfl,g,hk⟩;obtain⟨f0,a0,i,f2,a2,j,b5,rfl,rfl,rfl,rfl,rfl,rfl,rfl,rfl,rfl,rfl⟩:=GZ g;have r:=V (p.out.Hc hk);have o:=V g;clear g hk;obtain⟨K,u,b,y,bI⟩:=wX l (dr #[.func f0 a0 i,.nilFunc,.func f2 a2 j,.func (.func 91) #[] #[],.func (.func 91) #[] #[],.map (H b5),.map F,.nilFunc,.nilFunc,.func (.func 241) #[fc bB] #[]] 170);have k:=r.out.Hc b;obtain⟨M,b1,a3,v,m⟩:=k.map;have c:Z [] K M:=by rw[a3];exact(Z.refl _ _).alloc _
 have ad:=V (show zq l.heap+1=b1 by rw[v,bI]);have N:=V (c.at y (by simp));have n:=V (o.out.h (b.trans c));have S:=V (show zq l.heap<b1 by grind);have T:=V (show b5<b1 by
  obtain⟨a1,s⟩:=o.out.start;have e:b5=a1:=by obtain⟨L,e,_⟩:=s;simpa using e
  have:=s.lt;grind)
 have A:=V m;have aJ:=V u;have aI:=V a3;clear u b y bI k a3 v m c;go_wp2_with fail;rw[<-aJ.out,<-aI.out,ad.out];refine(aey bm bB a b1 _ [aC] (.dX 149) [] _ _ (by kernel_rfl) (by kernel_rfl) A.out.t (A.out.A (b1,[]) (by simp)).1 (A.out.A (b1,[]) (by simp)).2.2 D).mono ?_;rintro e W4⟨rfl,f,U,h⟩;have d:=V (A.out.on U h f);have q:=U.at N.out (by grind[Hid.out]);have O:Hid (jE bm bB a oD (.func f0 a0 i) .nilFunc (.func f2 a2 j) (.func (.func 91) #[] #[]) (.func (.func 91) #[] #[]) (.map (H b5)) (.map (H b1)) .nilFunc .nilFunc (.func (.func 241) #[fc bB] #[]) W4):=by
  refine V ⟨n.out.blank.d h,n.out.fI.d h,n.out.dz.d h,n.out.eG.d h,n.out.dZ.d h,?_,⟨b1,f⟩,n.out.B.d h,n.out.A.d h,n.out.l.d h⟩;obtain⟨a1,s⟩:=n.out.start;have e:b5=a1:=by obtain⟨L,e,_⟩:=s;simpa using e
  subst e;exact⟨b5,s.d h (U.block b5 s.lt (by grind[Hid.out]))⟩
 have x:zq w.heap<zq l.heap:=fp (r.out.g D);have G:=V (vu (w1:=W4.setCell ⟨zq l.heap,6,F⟩ (.map (H b1))) ((dE W4 ⟨zq l.heap,6,F⟩ _ w.heap.size (by grind)).trans (d.out.g D)) (d.out.k.setCell (p:=⟨zq l.heap,6,F⟩) (.inr (by grind)) _) (O.out.d ((Z.refl [zq l.heap] W4).setCell (p:=⟨zq l.heap,6,F⟩) (.inl (by simp)) _) q) _ D);have W:=V x;have Y:zq w.heap≠zq l.heap:=by omega
 clear f U h x;have c0:W4.cell? ⟨zq l.heap,0,F⟩=H (.func f0 a0 i):=(aF q 0).trans D;have c1:W4.cell? ⟨zq l.heap,1,F⟩=H .nilFunc:=(aF q 1).trans D;have c2:W4.cell? ⟨zq l.heap,2,F⟩=H (.func f2 a2 j):=(aF q 2).trans D;have c3:W4.cell? ⟨zq l.heap,3,F⟩=H (.func (.func 91) #[] #[]):=(aF q 3).trans D;have c4:W4.cell? ⟨zq l.heap,4,F⟩=H (.func (.func 91) #[] #[]):=(aF q 4).trans D;have B:W4.cell? ⟨zq l.heap,5,F⟩=H (.map (H b5)):=(aF q 5).trans D;have P:W4.cell? ⟨zq l.heap,6,F⟩=H (.map F):=(aF q 6).trans D;have Q:W4.cell? ⟨zq l.heap,7,F⟩=H .nilFunc:=(aF q 7).trans D;have R:W4.cell? ⟨zq l.heap,8,F⟩=H .nilFunc:=(aF q 8).trans D;have c9:W4.cell? ⟨zq l.heap,9,F⟩=H (.func (.func 241) #[fc bB] #[]):=(aF q 9).trans D;have d6:=cY q 6;clear q;obtain⟨q0,q1,q2,q3,q4,q5,q6,q7,q8,q9⟩:=zm (d.out.g D);have u0:=cY (d.out.g D) 0;have u1:=cY (d.out.g D) 1;have u2:=cY (d.out.g D) 2;have u3:=cY (d.out.g D) 3;have u4:=cY (d.out.g D) 4;have u5:=cY (d.out.g D) 5;have u6:=cY (d.out.g D) 6;have u7:=cY (d.out.g D) 7;have u8:=cY (d.out.g D) 8;have u9:=cY (d.out.g D) 9;go_wp2;exact xZ results79 D D G.out
def j9(z:io)(d f a:Int)(v:dB)(b:Nat):io:=((((z.setIfInBounds 0 (G d)).setIfInBounds 1 (G f)).setIfInBounds 2 (G a)).setIfInBounds 3 v).setIfInBounds 187 (fc b)
def rJ:Tryz.zeroCells178.size=199:=by rfl
def BT(z:io)(d f a:Int)(v:dB)(b:Nat):(j9 z d f a v b).size=z.size:=by simp[j9]
theorem xj(z:io)(d f a:Int)(v:dB)(b i:Nat)(h:4<=i)(l:i≠187):(j9 z d f a v b)[i]?=z[i]?:=by simp[j9,zD];grind
def sT:List kR:=[{blank:=.eW,dz:=.dz 93 I,eG:=.dX 94,l:=.dX 95},mN,jH,gI,kD,yp,ib,rV,iy,oE,nL,sS,Fb,tX,Iw,wE,oD,kE 93 I]
theorem mM.one{bm bB b:Nat}{r:Ru}{v:dB}{w:J}(h:mM bm bB b r v w):v.oneCell'=C:=by by_cases d:r=.nil;subst d;have:=h;subst this;rfl;obtain⟨f,a,l,rfl⟩:=h.func d;rfl
theorem qN.one{bm bB a:Nat}{c:Option (List (List O×Ru))}{v:dB}{w:J}(h:qN bm bB a c v w):v.oneCell'=C:=by
 cases c with
 |none=>have:=h;subst this;rfl
 |some c=>obtain⟨b,L,rfl,_⟩:=h;rfl
theorem jE.one{bm bB m:Nat}{n:kR}{a b c e f g i j k l:dB}{w:J}(h:jE bm bB m n a b c e f g i j k l w):∀v∈[a,b,c,e,f,g,i,j,k,l],v.oneCell'=C:=by
 intro v d;simp at d;rcases d with rfl|rfl|rfl|rfl|rfl|rfl|rfl|rfl|rfl|rfl;exact h.blank.one;exact h.fI.one;exact h.dz.one;exact h.eG.one;exact h.dZ.one;exact h.start.one
 .exact h.stop.one
 exact h.B.one;exact h.A.one;exact h.l.one
theorem jE.n{s:Nat}(h:jE bm bB bD sp v0 v1 v2 v3 v4 v5 v6 v7 v8 v9 w)(d:Z [s] w Q)(l:w.heap[s]?=H (dr c 178)):jE bm bB bD sp v0 v1 v2 v3 v4 v5 v6 v7 v8 v9 Q:=
 have f:=⟨_,d,λk n _=>by grind[My]⟩
 ⟨h.blank.d f,h.fI.d f,h.dz.d f,h.eG.d f,h.dZ.d f,h.start.d d l f,h.stop.d d l f,h.B.d f,h.A.d f,h.l.d f⟩
def AY(bm bB a:Nat)(cs:List dB)(W:J):Prop:=ln cs=180/\∀m sp,sT[m]?=H sp->∃v0 v1 v2 v3 v4 v5 v6 v7 v8 v9,(cs.drop (10*m)).take 10=[v0,v1,v2,v3,v4,v5,v6,v7,v8,v9]/\jE bm bB a sp v0 v1 v2 v3 v4 v5 v6 v7 v8 v9 W
theorem AY.n{s:Nat}(h:AY bm bB bD cs w)(l:Z [s] w Q)(n:w.heap[s]?=H (dr c 178)):AY bm bB bD cs Q:=by refine⟨h.1,λm sp d=>?_⟩;have⟨v0,v1,v2,v3,v4,v5,v6,v7,v8,v9,e,hr⟩:=h.2 m sp d;grind[jE.n]
section
variable {aJ:Program}{ops:Array Oper}{rest:List Oper}{o:Oper}{a:Act}{w:J}{aI:Exit->Act->J->Prop}
def AK(q:o.guard=F)(d:Option Tmp)(n:o.dst=d)(v:dB)(s:(execOp a.eval o).run aJ w=.ok (.value v) w)(h:wpList aJ ops aI rest (a.put d v) w):wpList aJ ops aI (o::rest) a w:=by subst n;refine wpList_plain q λK l=>?_;unfold Oper.wp;rw[s];exact l _ _ h
end
structure aju(bm bB bD:Nat)(d f a:Int)(av:dB)(w W:J):Prop where
 k:Z [] w W
 new:zq w.heap<=bB
 dP:∃c6 cs v1 v2 v3,W.heap[bB]?=H (dr (gX c6 4 cs) 178)/\c6=((((j9 Tryz.zeroCells178 d f a av bD).setIfInBounds 184 v1).setIfInBounds 185 v2).setIfInBounds 186 v3)/\AY bm bB bD cs W/\Ask bm v1 kg W/\Ask bm v2 uF W/\Ask bm v3 eP W
 u:W.heap[bD]?=H (dr #[Y iJ,gq,.pointer F,gq] 138)
 ne:bD≠bB
 A:zq w.heap<=bD
structure VA(bm bB bD:Nat)(w W:J)(n:Nat)(cs:List dB):Prop where
 k:Z [] w W
 len:ln cs=10*n
 r:∀m sp,m<n->sT[m]?=H sp->∃v0 v1 v2 v3 v4 v5 v6 v7 v8 v9,(cs.drop (10*m)).take 10=[v0,v1,v2,v3,v4,v5,v6,v7,v8,v9]/\jE bm bB bD sp v0 v1 v2 v3 v4 v5 v6 v7 v8 v9 W
 one:∀v∈cs,v.oneCell'=C
theorem VA.nm{n:Nat}(s:VA bm bB bD w W n cs):∃c,c=cs/\VA bm bB bD w W n c:=⟨_,D,s⟩
theorem VA.next{n f:Nat}{q:io}(s:VA bm bB bD w W n cs)(X:sT[n]?=H sp)(a:dS f q W (oe bm bB bD sp W)):dS f q W λe l=>∃v0 v1 v2 v3 v4 v5 v6 v7 v8 v9,e=ff (.agg #[v0,v1,v2,v3,v4,v5,v6,v7,v8,v9])/\VA bm bB bD w l (n+1) (cs++[v0,v1,v2,v3,v4,v5,v6,v7,v8,v9]):=by refine a.mono ?_;rintro e l⟨v0,v1,v2,v3,v4,v5,v6,v7,v8,v9,rfl,A,U⟩;refine⟨v0,v1,v2,v3,v4,v5,v6,v7,v8,v9,D,s.k.trans U,by simp[s.len];omega,λm h g d=>?_,λv b=>(dA.1 b).elim (s.one v) (A.one v)⟩;have hl:=s.len;by_cases e:m=n;subst e;rw[X]at d;cases d;exact⟨_,_,_,_,_,_,_,_,_,_,by rw[<-hl,List.drop_left];rfl,A⟩;obtain⟨i,j,k,o,p,r,t,u,x,y,h1,c⟩:=s.r m h (by omega) d;grind[jE.h]
theorem abL(d:J)(bm:Nat)(c:io)(l:J)(h:l=((d.alloc (dr #[.map (H bm)] 90)).alloc (dr #[Y iJ,gq,.pointer F,gq] 138)).alloc (dr c 178)):l.heap[zq d.heap]?=H (dr #[.map (H bm)] 90)/\l.heap[zq d.heap+1]?=H (dr #[Y iJ,gq,.pointer F,gq] 138)/\l.heap[zq d.heap+1+1]?=H (dr c 178)/\Z [] d l:=by
 grind[oH,Z.alloc,Z.refl]
theorem akp(d f a:Int)(u:Fn)(t y:io)(w:J)(ht:Pp w):dS 48 #[.agg #[G d,G f,G a],.func u t y] w λe W=>∃bm bB bD,e=ff (fc bB)/\aju bm bB bD d f a (.func u t y) w W:=by
 obtain⟨w0,bw,K0,g0,z0⟩:=wX w (dr #[G d,G f,G a] 67);have i:=V ht;have bk:=V bw;have ay:=V K0;have bc:=V g0;have bP:=V z0;clear ht bw K0 g0 z0;go_enter func48,ntmps48;go_wp2_with fail;rw[<-bk.out];refine(BU _ (i.out.d (bm:=0) (.h ay.out)).1).mono ?_;rintro e g⟨bm,rfl,bv,A,bo⟩;have M:=A.at bc.out (by simp);have c0:g.cell? ⟨zq w.heap,0,F⟩=H (G d):=(aF M 0).trans D;have c1:g.cell? ⟨zq w.heap,1,F⟩=H (G f):=(aF M 1).trans D;have c2:g.cell? ⟨zq w.heap,2,F⟩=H (G a):=(aF M 2).trans D;have bU:=fp M;have bi:=V bv;have az:=V (ay.out.trans A);have bM:=V bo;clear bv A bo M;go_wp2_with fail;clear c0 c1 c2 bU;obtain⟨o,aK⟩:∃W,W=((g.alloc (dr #[.map (H bm)] 90)).alloc (dr #[Y iJ,gq,.pointer F,gq] 138)).alloc (dr (j9 Tryz.zeroCells178 d f a (.func u t y) (zq g.heap+1)) 178):=⟨_,D⟩;obtain⟨gC,gD,P,k2⟩:=abL g bm _ o aK;change Code.wp _ _ _ _ (((g.alloc (dr #[.map (H bm)] 90)).alloc (dr #[Y iJ,gq,.pointer F,gq] 138)).alloc (dr (j9 Tryz.zeroCells178 d f a (.func u t y) (zq g.heap+1)) 178));rw[<-aK];clear aK;obtain⟨bB,bp⟩:∃b,b=zq g.heap+1+1:=⟨_,D⟩;obtain⟨bD,br⟩:∃b,b=zq g.heap+1:=⟨_,D⟩;obtain⟨z,bq⟩:∃b,b=zq g.heap:=⟨_,D⟩;rw[<-bp]at P|-;rw[<-br]at P gD|-;rw[<-bq]at gC|-;have U:z≠bB:=by omega
 have aw:=V (show bD≠bB by omega);have aA:=V (show zq w.heap<=bB/\w.heap.size<=bD by have:=az.out.size;omega);have E:=V gC;have bf:=V gD;have be:=V P;have aB:=V (bi.out.kept k2 (by simp));have bg:=V (az.out.trans k2);have aX:=V (show bm<zq o.heap by obtain⟨es,ck,ha,_⟩:=aB.out;exact(dD.1 ha).1)
 clear gC gD P k2 bp br bq bi;have N:Hid (∀(c:Nat)(W:J),c<16->Z [] o W->dS 35 #[.agg #[.map (H bm)],G c] W λe Q=>(∃v,e=ff v/\Ask bm v (TD pn c) Q)/\Z [] W Q):=V (λc W hc hk=>X8 bm c pn W (aB.out.kept hk (by simp)) hc Yl);have bQ:o.cell? ⟨z,0,F⟩=H (.map (H bm)):=(aF E.out 0).trans D
 go_region_held3 (λQ=>Q.cell? ⟨z,0,F⟩=H (.map (H bm))) ((first|assumption|go_keep|exact(ju U).trans (by assumption)|exact(ju U).trans ((ju U).trans (by assumption))|exact(ju U).trans ((ju U).trans ((ju U).trans (by assumption))))) ((first|(go_at_call 35;refine(N.out 2 _ (by decide) (Z.refl _ _).drew).mono ?_;rintro e W3⟨⟨v1,rfl,aM⟩,A⟩;obtain⟨L,ab,ad,bW⟩:=aM.func;subst bW;have aT:=V aM;have a1:Hid (Z [] o W3):=V (Z.trans (Z.refl _ _).drew A);have bR:W3.cell? ⟨z,0,F⟩=H (.map (H bm)):=(aF (a1.out.at E.out (by simp)) 0).trans D;have bb:=V (yD.h (bm:=bm) A);clear aM A)|(go_at_call 35;refine(N.out 4 _ (by decide) a1.out).mono ?_;rintro e W4⟨⟨v2,rfl,aP⟩,aR⟩;obtain⟨bC,aJ,T,bX⟩:=aP.func;subst bX;have aU:=V aP;have a2:Hid (Z [] o W4):=V (Z.trans a1.out aR);have bS:W4.cell? ⟨z,0,F⟩=H (.map (H bm)):=(aF (a2.out.at E.out (by simp)) 0).trans D;have aq:=V (yD.h (bm:=bm) aR);clear aP aR)|(go_at_call 35;refine(N.out 8 _ (by decide) a2.out).mono ?_;rintro e W5⟨⟨v3,rfl,aQ⟩,aS⟩;obtain⟨S,aI,B,c3⟩:=aQ.func;subst c3;have aW:=V aQ;have l:Hid (Z [] o W5):=V (Z.trans a2.out aS);have bT:W5.cell? ⟨z,0,F⟩=H (.map (H bm)):=(aF (l.out.at E.out (by simp)) 0).trans D;have a5:=V (yD.h (bm:=bm) aS);clear aQ aS;have n:=V (l.out.at be.out (by simp));have bx:W5.cell? ⟨bB,184,F⟩=H .nilFunc:=(aF n.out 184).trans ((xj _ d f a _ bD 184 (by decide) (by decide)).trans (by kernel_rfl));have bE:=cY n.out 184;have bz:W5.cell? ⟨bB,185,F⟩=H .nilFunc:=(aF n.out 185).trans ((xj _ d f a _ bD 185 (by decide) (by decide)).trans (by kernel_rfl));have bK:=cY n.out 185;have bA:W5.cell? ⟨bB,186,F⟩=H .nilFunc:=(aF n.out 186).trans ((xj _ d f a _ bD 186 (by decide) (by decide)).trans (by kernel_rfl));have bL:=cY n.out 186)))
 obtain⟨s,aL⟩:∃W,W=((W5.setCell ⟨bB,184,F⟩ (.func L ab ad)).setCell ⟨bB,185,F⟩ (.func bC aJ T)).setCell ⟨bB,186,F⟩ (.func S aI B):=⟨_,D⟩;rw[<-aL];obtain⟨bI,R,f6⟩:s.heap[bB]?=H (dr ((((j9 Tryz.zeroCells178 d f a (fe u t y) bD).setIfInBounds 184 (fe L ab ad)).setIfInBounds 185 (fe bC aJ T)).setIfInBounds 186 (fe S aI B)) 178)/\Z [bB] W5 s/\yD bm W5 s:=by
  have h3:=bH (bH (bH n.out 184 (fe L ab ad)) 185 (fe bC aJ T)) 186 (fe S aI B);have k:Z [bB] W5 s:=by rw[aL];exact(((Z.refl [bB] W5).setCell (.inl (by simp)) (fe L ab ad)).setCell (.inl (by simp)) (fe bC aJ T)).setCell (.inl (by simp)) (fe S aI B)
  refine⟨by grind,k,⟨_,k,λx p _=>?_⟩⟩;have e:=cC.1 p;subst e;exact .inl ⟨_,_,_,n.out,by decide⟩
 have K6:Z [] w s:=(bg.out.trans l.out).next R (λx p=> .inr (by rw[cC.1 p];exact aA.out.1))
 have A1:=aT.out.d (aq.out.trans (a5.out.trans f6));have A2:=aU.out.d (a5.out.trans f6);have A3:=aW.out.d f6;have bu:s.heap[bD]?=H (dr #[Y iJ,gq,.pointer F,gq] 138):=R.at (l.out.at bf.out (by simp)) (by have:=aw.out;simpa using this);have au:bm<zq s.heap:=kQ (kQ aX.out l.out.size) R.size;have q:Hid (∀W,Z [] s W->BD bB bD W/\BS bm bB W/\Pp W/\bm<zq W.heap):=by
  have b0:BD bB bD s:=⟨(aF bI 187).trans (by simp only[j9,zD,Vh,rJ];rfl),fp bI⟩
  have b1:BS bm bB s:=⟨fp bI,.func L ab ad,(aF bI 184).trans (by simp only[j9,zD,Vh,rJ];rfl),A1⟩
  exact V (λW hk=>⟨b0.h hk,b1.h hk,i.out.d (.h (bm:=bm) (K6.trans hk)),kQ au hk.size⟩)
 have O:=V (And.intro A1 (And.intro A2 A3));have bd:=V bI;have bh:=V K6;have ba:=V bu;have ag:=V aA.out;have ax:=V aw.out;have c4:Hid (Z [] s s):=V (Z.refl _ _);clear aL bI R f6 K6 A1 A2 A3 bu au bQ bR bS bT bx bz bA bE bK bL n a1 a2 l bb aq a5 aT aU aW E bf be aB bg aX bM az bk ay bc bP i N U aw aA;have HS:VA bm bB bD s s 0 []:=⟨Z.refl _ _,D,nofun,nofun⟩
 iterate 18
  go_wp2_with fail;refine(HS.next rfl (by first|with_reducible exact(ai7 bm bB bD _).1|with_reducible exact(ai7 bm bB bD _).2|with_reducible exact aeH bm bB bD _ (q.out _ HS.k).1 (q.out _ HS.k).2.1 (q.out _ HS.k).2.2.1 (q.out _ HS.k).2.2.2|with_reducible exact Ul bm bB bD _ (q.out _ HS.k).1 (q.out _ HS.k).2.1 (q.out _ HS.k).2.2.1 (q.out _ HS.k).2.2.2|with_reducible exact Gq bm bB bD _ (q.out _ HS.k).1 (q.out _ HS.k).2.1 (q.out _ HS.k).2.2.1 (q.out _ HS.k).2.2.2|exact(ai6 bm bB bD _ (q.out _ HS.k).1 (q.out _ HS.k).2.1 (q.out _ HS.k).2.2.1 (q.out _ HS.k).2.2.2).1 (_,_) (by repeat first|exact .head _|apply List.Mem.tail))).mono ?_;rintro e W⟨v0,v1,v2,v3,v4,v5,v6,v7,v8,v9,rfl,i⟩;clear HS;have HS:=i;clear i
 obtain⟨cs,bt,i⟩:=HS.nm;have HC:=V bt;clear HS;have HS:=i;have HL:=HS.len;have aE:Hid (AY bm bB bD cs W):=V ⟨HL,λm sp hm=>HS.r m sp (dG.1 hm).1 hm⟩;have ar:Hid (cs.toArray.all (·.oneCell')=C):=V (all_oneCell_toArray HS.one);have a0:=V HS.k;have h:=V (a0.out.at bd.out (by simp));have bj:Hid (W.there bB 4 cs.toArray.size):=by refine V (λj hj=>⟨?_,cY h.out _⟩);have:cs.toArray.size=180:=HL;rw[aF h.out,AQ (by simp only[Vh,BT,rJ];omega)];rfl
 clear HS HL i;rename_i KK I;refine I _ _ ?_;clear I;refine wpList_buildTo D 171 _ D _ D cs.toArray (by rw[HC.out];kernel_rfl) ?_;clear HC bt;refine AK D _ D (fc bB) (by kernel_rfl) ?_;refine AK D _ D (gU bB 4) (by kernel_rfl) ?_;refine wpList_store_mid D 171 _ _ D bB 4 cs.toArray D D bj.out (by rw[show cs.toArray.size=180 from aE.out.1];kernel_rfl) ar.out ?_;obtain⟨r,a3⟩:∃X,X=W.setCells bB 4 cs.toArray.toList:=⟨_,D⟩;rw[<-a3];have K:Z [bB] W r:=by rw[a3];exact Z.setCells (.inl (by simp)) _ _ (Z.refl _ _)
 have bn:yD bm W r:=⟨_,K,λx p _=>by have e:=cC.1 p;subst e;exact .inl ⟨_,_,_,h.out,by decide⟩⟩
 have bl:Z [] w r:=(bh.out.trans a0.out).next K (λx p=> .inr (by rw[cC.1 p];exact ag.out.1))
 have a8:=jK cs W bB _ _ _ 4 h.out;rw[show W.setCells bB 4 cs=r from a3.symm]at a8;have FN:Hid (aju bm bB bD d f a (.func u t y) w r):=by have f6:yD bm s r:=(yD.h a0.out).trans bn;exact V ⟨bl,ag.out.1,⟨_,cs,_,_,_,a8,D,aE.out.n K h.out,O.out.1.d f6,O.out.2.1.d f6,O.out.2.2.d f6⟩,K.at (a0.out.at ba.out (by simp)) (by have:=ax.out;simpa using this),ax.out,ag.out.2⟩
 clear K bn bl a8 a3 aE ar h bj O bd bh ba ag ax q;generalize Value.agg cs.toArray=c5
 rename (∀(a:Act)(w:J),Code.wp _ _ _ a w->_)=>I
 refine I _ _ ?_;clear I;simp only[Act.put,List.setIfInBounds_toArray,List.set_cons_zero,List.set_cons_succ];go_wp2;go_ret;exact⟨bm,bB,bD,D,FN.out⟩
structure pi where
 K:Nat->Nat
 B:Nat->dB
 A:Nat->dB
 P:dB
 L:dB
 E:dB
variable {L L':pi}
structure fS where
 bm:Nat
 A:Nat
 Q:Nat
 P:io
 R:io
 K:Nat
 L:J
 a:dB
 B:iB
 bs:Nat
 E:Option (dB×List (Nat×Nat×O)):=F
variable {E:fS}
def Nd.map(f:Nat->Nat):Nd->Nd
 | .el k=> .el (f k)
 | .tx k=> .tx (f k)
 | .cm k=> .cm (f k)
 | .dt k=> .dt (f k)
abbrev fx(f:Nat->Nat)(x:fW):fW:=x.map f
def flat(bY:iB):List dB:=bY.flatMap λa=>[Y a.1,Y a.2]
abbrev AX(w:J)(v:dB)(bY:iB):Prop:=w.ownsRow 0 295 2 v (ln bY) (flat bY)
abbrev Vq(x:Nat×Nat×O):dB:=.iface 186 (.agg #[G x.1,G x.2.1,Y x.2.2])
def kI(bs:Nat)(L:pi)(w:J)(i:Nat):zE->Prop
 | .el e=>El bs w (L.K i) e.name (L.B i) (fx L.K e.E) (L.A i) (e.q.map (Nd.map L.K))/\AX w (L.B i) e.A/\(ln e.A)<=4096
 | .tx s=>w.heap[L.K i]?=H (dr #[Y s] 280)
 | .cm s=>w.heap[L.K i]?=H (dr #[Y s] 235)
 | .dt s=>w.heap[L.K i]?=H (dr #[Y s] 239)
structure iG(E:fS)(L:pi)(σ:N)(Co:io):Prop where
 size:Co.size=199
 low:∀i,i<188->Co[i]?=E.P[i]?
 A:Co[188]?=H L.P
 B:Co[189]?=H L.L
 head:Co[190]?=H (jl (fx L.K σ.head))
 j:Co[191]?=H (jl (fx L.K σ.j))
 g:Co[192]?=H (G σ.g)
 kept:Co[193]?=H (G σ.kept)
 wait:Co[194]?=H L.E
 q:Co[195]?=H (.bool σ.U)
 W:Co[196]?=H (.bool σ.W)
 K:Co[197]?=H (G σ.K)
 P:Co[198]?=H (.bool σ.P)
structure R5(E:fS)(bD:Nat):Prop where
 z:∃cs,(∀k,k<180->E.P[4+k]?=cs[k]?)/\AY E.bm E.A bD cs E.L
 IA:E.P[3]?=H (.func (.func 49) #[dq E.Q] #[])
 spec:∃v,E.P[184]?=H v/\Ask E.bm v kg E.L
 A:∃v,E.P[185]?=H v/\Ask E.bm v uF E.L
 B:∃v,E.P[186]?=H v/\Ask E.bm v eP E.L
 u:E.P[187]?=H (dq bD)
structure fk(E:fS)(L:pi)(σ:N)(w:J):Prop where
 d:Fr E.bs E.L w
 env:R5 E (L.K 0)
 k:E.P[0]?=H (G σ.Q)/\E.P[1]?=H (G σ.R)/\E.P[2]?=H (G σ.T)/\σ.Q<=64/\σ.R<=32/\σ.T<=16
 B:∀i nd,σ.d[i]?=H nd->kI E.bs L w i nd
 inj:∀i j,L.K i=L.K j->i=j
 b:∀i j g,i<ln σ.d->j<ln σ.d->i≠j->(L.A i).ownBlock=H g->(L.A j).ownBlock≠H g
 m:∀i,i<ln σ.d->σ.h i=F->(L.A i).ownBlock=F
 T:∀i j e g,σ.h i=H e->l4 e.name=C->j<ln σ.d->i≠j->(L.B i).ownBlock=H g->(L.B j).ownBlock≠H g
 f:∀i,i<ln σ.d->σ.h i=F->(L.B i).ownBlock=F
 wf:Wf σ
 dP:∃Co,w.heap[E.A]?=H (dr Co 178)/\iG E L σ Co
 R:w.ownsRow E.bs 68 1 L.P (ln σ.A) (σ.A.map λx=>jl (fx L.K x))
 S:w.ownsRow E.bs 68 1 L.L (ln σ.B) (σ.B.map λx=>jl (fx L.K x))
 o:∀g,L.P.ownBlock=H g->L.L.ownBlock≠H g
 P:ln σ.A<=4096
 W:ln σ.B<=4096
 K:w.ownsRow E.bs 123 1 L.E (ln σ.L) (σ.L.map Vq)
 s:ln σ.L<=4096
 rd:w.heap[E.Q]?=H (dr ((E.R.setIfInBounds E.K (Y σ.a)).setIfInBounds (E.K+1) (.bool σ.S)) 163)
 u:E.K+1<E.R.size
 tok:AX w E.a E.B
 q:ln E.B<=4096
 t:E.bs<=zq E.L.heap
 A:E.bs<=E.A
 Q:E.bs<=E.Q
 X:∀i,i<ln σ.d->E.bs<=L.K i
 c:σ.E=C->∀i g,i<ln σ.d->E.a.ownBlock=H g->(L.B i).ownBlock≠H g
 U:∀i g,i<ln σ.d->(L.B i).ownBlock=H g->E.bs<=g
 a:∀g,E.a.ownBlock=H g->E.bs<=g
 r:∀p,E.E=H p->L.E=p.1/\σ.L=p.2
def KT(bs:Nat)(T:List TypeId)(w a:J):Prop:=∃S,Z S w a/\∀k∈S,k<zq w.heap->(∃c t m,w.heap[k]?=H (.cells c t m)/\t∈T)/\bs<=k
def KT.size(h:KT bs T w Q):zq w.heap<=zq Q.heap:=by have⟨S,hk,_⟩:=h;exact hk.size
def KT.q(h:Z S w Q)(d:∀k∈S,k<zq w.heap->(∃c t m,w.heap[k]?=H (.cells c t m)/\t∈T)/\bs<=k):KT bs T w Q:=⟨S,h,d⟩
theorem KT.h(h:Z [] w Q):KT bs T w Q:=⟨[],h,by grind⟩
theorem KT.mono{d:List TypeId}(h:KT bs T w Q)(l:∀t∈T,t∈d):KT bs d w Q:=by grind[KT]
theorem KT.d(h:KT bs T w Q)(d:∀t∈T,t∈Z1):Fr bs w Q:=h.mono d
theorem KT.at(h:KT bs T w Q)(d:w.heap[g]?=H (.cells c t m))(n:t∉T):Q.heap[g]?=H (.cells c t m):=by have⟨S,hk,hS⟩:=h;refine hk.at d λl=>?_;grind
theorem KT.row(h:KT bs T w Q){e:TypeId}{d:Nat}{n:Nat}{a:List dB}(q:w.ownsRow R e d v n a)(b:e∉T):Q.ownsRow R e d v n a:=by refine⟨q.1,?_⟩;rcases q.2 with c|⟨g,P,l,rfl,s,A,U⟩;grind;exact .inr ⟨g,P,l,D,s,h.at A b,U⟩
theorem rG{e:TypeId}{d:Nat}{n:Nat}{a:List dB}(q:w.ownsRow R e d v n a)(h:v.ownBlock=H g):∃c m,w.heap[g]?=H (.cells c e m):=by rcases q.2 with⟨e1,_⟩|⟨s,P,l,rfl,_,A,_⟩;rw[e1]at h;cases h;obtain rfl:=jS h;grind
theorem Dp{e:TypeId}{d:Nat}{n:Nat}{a:List dB}(l:w.ownsRow R e d v n a)(h:w.heap[b]?=H (.cells c t m))(q:t≠e):v.ownBlock≠H b:=by grind[rG]
def Do{e:TypeId}{d:Nat}{n:Nat}{a:List dB}(l:w.ownsRow R e d v n a)(h:v.ownBlock=H g):g<zq w.heap:=(l.lt g h).2
def XY:List TypeId:=[138,140,280,235,239,295]
def kI.l{n:Nat}(h:kI n L w i nd)(l:KT bs T w Q)(d:∀t∈XY,t∉T):kI n L Q i nd:=by
 cases nd with
 |el e=>exact⟨⟨l.at h.1.dP (d _ (by decide)),l.row h.1.row (d _ (by decide)),h.1.le,h.1.A⟩,l.row h.2.1 (d _ (by decide)),h.2.2⟩
 |tx s=>exact l.at h (d _ (by decide))
 |cm s=>exact l.at h (d _ (by decide))
 |dt s=>exact l.at h (d _ (by decide))
theorem kI.kept(h:kI bs L w i nd)(d:Z S w Q)(l:L.K i∉S)(n:∀g,(L.A i).ownBlock=H g->g∉S)(q:∀g,(L.B i).ownBlock=H g->g∉S):kI bs L Q i nd:=by
 cases nd with
 |el e=>exact⟨h.1.kept d l n,d.ownsRow h.2.1 q,h.2.2⟩
 |tx s=>exact d.at h l
 |cm s=>exact d.at h l
 |dt s=>exact d.at h l
def zE.d:zE->TypeId
 | .el _=>138
 | .tx _=>280
 | .cm _=>235
 | .dt _=>239
def kI.d(h:kI bs L w i nd):∃c,w.heap[L.K i]?=H (dr c nd.d):=by
 cases nd with
 |el e=>exact⟨_,h.1.dP⟩
 |tx s=>exact⟨_,h⟩
 |cm s=>exact⟨_,h⟩
 |dt s=>exact⟨_,h⟩
theorem ri(d:∀i j,f i=f j->i=j)(h:fx f x=fx f y):x=y:=by cases x<;>cases y<;>simp_all[fx];grind
theorem x7(f:Nat->Nat)(a:iU)(n:Int):dT (a.map (fx f)) n=fx f (dT a n):=by grind[dT]
theorem Bb(d:∀i j,f i=f j->i=j)(x:fW):∀xs:iU,(xs.map (fx f)).idxOf (fx f x)=xs.idxOf x
 |[]=>rfl
 |y::xs=>by rw[Fy,List.idxOf_cons,Bb d x xs];grind[ri]
theorem OE(d:∀i j,f i=f j->i=j)(a:iU)(x:fW):jf (a.map (fx f)) (fx f x)=jf a x:=by grind[Bb,jf]
theorem mem_map(d:∀i j,f i=f j->i=j)(a:iU)(x:fW):fx f x∈a.map (fx f)↔x∈a:=by grind[ri]
theorem vB(d:∀i j,f i=f j->i=j)(x:fW):∀xs:iU,(xs.map (fx f)).erase (fx f x)=(xs.erase x).map (fx f)
 |[]=>rfl
 |y::xs=>by rw[Fy,List.erase_cons,vB d x xs];grind[ri]
theorem LB(d:∀i j,f i=f j->i=j)(a:iU)(x y:fW):oU (a.map (fx f)) (fx f x) (fx f y)=(oU a x y).map (fx f):=by grind[Bb,mem_map,ob,oU]
theorem BX(d:∀i j,f i=f j->i=j)(a:iU)(x y:fW):ft (a.map (fx f)) (fx f x) (fx f y)=(ft a x y).map (fx f):=by grind[Bb,mem_map,nO,n9,ft]
theorem OC(l:∀i j,f i=f j->i=j)(a:iU)(x:fW):mc (a.map (fx f)) (fx f x)=(mc a x).map (fx f):=by
 have h:∀d:List _,(d.map (fx f)).dropWhile (·≠fx f x)=(d.dropWhile (·≠x)).map (fx f):=by
  intro d
  induction d with
  |nil=>rfl
  |cons y d ih=>
   grind[List.dropWhile_cons,ri]
 grind[tE,mc]
theorem iG.yl(h:iG E L U B)(x:fW):iG E L {U with head:=x} (B.setIfInBounds 190 (jl (fx L.K x))):=by cases h;constructor<;>grind
theorem iG.uG(h:iG E L U B)(x:fW):iG E L {U with j:=x} (B.setIfInBounds 191 (jl (fx L.K x))):=by cases h;constructor<;>grind
theorem iG.fy(h:iG E L U B)(x:Nat):iG E L {U with g:=x} (B.setIfInBounds 192 (G x)):=by cases h;constructor<;>grind
theorem iG.ym(h:iG E L U B)(x:Nat):iG E L {U with kept:=x} (B.setIfInBounds 193 (G x)):=by cases h;constructor<;>grind
theorem iG.yk(h:iG E L U B)(x:Bool):iG E L {U with U:=x} (B.setIfInBounds 195 (.bool x)):=by cases h;constructor<;>grind
theorem iG.qf(h:iG E L U B)(x:Bool):iG E L {U with W:=x} (B.setIfInBounds 196 (.bool x)):=by cases h;constructor<;>grind
theorem iG.Ds(h:iG E L U B)(x:Nat):iG E L {U with K:=x} (B.setIfInBounds 197 (G x)):=by cases h;constructor<;>grind
theorem iG.rT(h:iG E L U B)(x:Bool):iG E L {U with P:=x} (B.setIfInBounds 198 (.bool x)):=by cases h;constructor<;>grind
theorem kI.loc(h:kI bs L w i nd)(e1:L'.K=L.K)(e2:L'.B=L.B)(d:L'.A=L.A):kI bs L' w i nd:=by cases nd<;>(grind[kI])
theorem fk.TJ(h:fk E L U w):∃B,w.heap[E.A]?=H (dr B 178):=by grind[dP]
def fk.free(h:fk E L U w)(j:Nat):w.frozen? ⟨E.A,j,F⟩=I:=by have⟨B,hb⟩:=h.TJ;exact cY hb j
theorem fk.lt(h:fk E L U w):E.A<zq w.heap:=by grind[TJ]
theorem fk.low(h:fk E L U w)(d:j<188)(l:E.P[j]?=H v):w.cell? ⟨E.A,j,F⟩=H v:=by have⟨B,hb,hC⟩:=h.dP;rw[aF hb];exact(hC.low j d).trans l
def fk.Hv(h:fk E L U w):w.cell? ⟨E.A,190,F⟩=H (jl (fx L.K U.head)):=by have⟨B,hb,hC⟩:=h.dP;rw[aF hb];exact hC.head
def fk.VS(h:fk E L U w):w.cell? ⟨E.A,191,F⟩=H (jl (fx L.K U.j)):=by have⟨B,hb,hC⟩:=h.dP;rw[aF hb];exact hC.j
def fk.qY(h:fk E L U w):w.cell? ⟨E.A,192,F⟩=H (G U.g):=by have⟨B,hb,hC⟩:=h.dP;rw[aF hb];exact hC.g
def fk.VU(h:fk E L U w):w.cell? ⟨E.A,193,F⟩=H (G U.kept):=by have⟨B,hb,hC⟩:=h.dP;rw[aF hb];exact hC.kept
theorem fk.P1(h:fk E L U w):w.cell? ⟨E.A,194,F⟩=H L.E:=by have⟨B,hb,hC⟩:=h.dP;rw[aF hb];exact hC.wait
def fk.IQ(h:fk E L U w):w.cell? ⟨E.A,195,F⟩=H (.bool U.U):=by have⟨B,hb,hC⟩:=h.dP;rw[aF hb];exact hC.q
def fk.I1(h:fk E L U w):w.cell? ⟨E.A,196,F⟩=H (.bool U.W):=by have⟨B,hb,hC⟩:=h.dP;rw[aF hb];exact hC.W
def fk.VV(h:fk E L U w):w.cell? ⟨E.A,197,F⟩=H (G U.K):=by have⟨B,hb,hC⟩:=h.dP;rw[aF hb];exact hC.K
def fk.I2(h:fk E L U w):w.cell? ⟨E.A,198,F⟩=H (.bool U.P):=by have⟨B,hb,hC⟩:=h.dP;rw[aF hb];exact hC.P
theorem fk.h(h:fk E L U w)(l:Z [] w Q):fk E L U Q:=by
 have d:KT E.bs [] w Q:=.h l;have⟨B,hb,hC⟩:=h.dP;exact {h with
  d:=h.d.trans (.h l)
  B:=λi nd n=>(h.B i nd n).l d (by simp)
  dP:=⟨B,d.at hb (by simp),hC⟩
  R:=d.row h.R (by simp)
  S:=d.row h.S (by simp)
  K:=d.row h.K (by simp)
  rd:=d.at h.rd (by simp)
  tok:=d.row h.tok (by simp)}
def fk.bw(h:fk E L U w):E.bs<=zq w.heap:=gR h.t h.d.size
def To(E:fS)(L:pi)(a:N)(w b:J):Prop:=∃L',L'.K=L.K/\fk E L' a b/\Fr E.bs w b
theorem fk.to(h:fk E L U Q)(d:Fr E.bs w Q):To E L U w Q:=⟨L,D,h,d⟩
theorem fk.store(h:fk E L U w)(j:Nat)(u:dB)(a:∀B,iG E L U B->iG E L σ' (B.setIfInBounds j u))(q:Wf σ')(n:σ'.d=U.d:=by rfl)(p:σ'.A=U.A:=by rfl)(ha:σ'.B=U.B:=by rfl)(hw:σ'.L=U.L:=by rfl)(h1:σ'.a=U.a:=by rfl)(f:σ'.S=U.S:=by rfl)(h3:σ'.E=U.E:=by rfl)(a0:σ'.Q=U.Q:=by rfl)(a1:σ'.R=U.R:=by rfl)(a2:σ'.T=U.T:=by rfl):fk E L σ' (w.setCell ⟨E.A,j,F⟩ u):=by
 obtain⟨B,hb,b⟩:=h.dP;have A:Z [E.A] w (w.setCell ⟨E.A,j,F⟩ u):=(Z.refl _ w).setCell (.inl (by simp)) u;have s:KT E.bs [178] w _:=.q A (λk A _=>by grind[fk.A]);have m:∀i,σ'.h i=U.h i:=λi=>by unfold N.h;rw[n]
 exact {h with
  d:=h.d.trans (s.d (by decide))
  k:=by grind[fk.k]
  B:=λi nd l=>(h.B i nd (by grind)).l s (by decide)
  X:=by rw[n];exact h.X
  b:=by grind[fk.b]
  m:=λi l d=>h.m i (by grind) (by grind)
  T:=λi j e g l c o=>h.T i j e g (by grind) c (by grind)
  f:=λi l d=>h.f i (by grind) (by grind)
  wf:=q
  dP:=⟨_,bH hb j u,a B b⟩
  R:=by grind[KT.row,fk.R]
  S:=by grind[KT.row,fk.S]
  P:=by grind[fk.P]
  W:=by grind[fk.W]
  K:=by grind[KT.row,fk.K]
  s:=by grind[fk.s]
  rd:=by grind[KT.at,rd]
  tok:=s.row h.tok (by decide)
  c:=by grind[fk.c]
  U:=by rw[n];exact h.U
  r:=by rw[hw];exact h.r}
def fk.yl(h:fk E L U w)(x:fW)(l:U.dO x=C):fk E L {U with head:=x} (w.setCell ⟨E.A,190,F⟩ (jl (fx L.K x))):=
 h.store 190 _ (λB d=>d.yl x) {h.wf with head:=l}
def fk.uG(h:fk E L U w)(x:fW)(l:U.dO x=C):fk E L {U with j:=x} (w.setCell ⟨E.A,191,F⟩ (jl (fx L.K x))):=
 h.store 191 _ (λB d=>d.uG x) {h.wf with j:=l}
def fk.fy(h:fk E L U w)(x:Nat):fk E L {U with g:=x} (w.setCell ⟨E.A,192,F⟩ (G x)):=
 h.store 192 _ (λB d=>d.fy x) {h.wf with}
def fk.ym(h:fk E L U w)(x:Nat):fk E L {U with kept:=x} (w.setCell ⟨E.A,193,F⟩ (G x)):=
 h.store 193 _ (λB d=>d.ym x) {h.wf with}
def fk.yk(h:fk E L U w)(x:Bool):fk E L {U with U:=x} (w.setCell ⟨E.A,195,F⟩ (.bool x)):=
 h.store 195 _ (λB d=>d.yk x) {h.wf with}
def fk.qf(h:fk E L U w)(x:Bool):fk E L {U with W:=x} (w.setCell ⟨E.A,196,F⟩ (.bool x)):=
 h.store 196 _ (λB d=>d.qf x) {h.wf with}
def fk.Ds(h:fk E L U w)(x:Nat):fk E L {U with K:=x} (w.setCell ⟨E.A,197,F⟩ (G x)):=
 h.store 197 _ (λB d=>d.Ds x) {h.wf with}
def fk.rT(h:fk E L U w)(x:Bool):fk E L {U with P:=x} (w.setCell ⟨E.A,198,F⟩ (.bool x)):=
 h.store 198 _ (λB d=>d.rT x) {h.wf with}
theorem fk.dO(h:fk E L U w)(l:U.dO x=C):tm w (fx L.K x):=by
 intro k d;cases x with
 |none=>cases d
 |some i=>
  obtain rfl:=jS d;have⟨e,he⟩:=dh.1 l;exact⟨_,(h.B i _ (N.eH he)).1.dP⟩
theorem OD(h:y∈mc xs x):y∈xs:=by grind[lI,List.mem_of_mem_tail,mc]
theorem LD{z:fW}(h:z∈oU xs x y):z∈xs\/z=y:=by grind[oU]
theorem B8{z:fW}(h:z∈ft xs x y):z∈xs\/z=y:=by grind[ft]
theorem fk.yT(h:fk E L U w):∃B,vR E.bs E.A 188 178 B L.P (U.A.map (fx L.K)) w/\iG E L U B:=by
 have⟨B,hb,hC⟩:=h.dP;refine⟨B,⟨hb,hC.A,?_,by decide,by grind[fk.P]⟩,hC⟩
 simpa [ZT]using h.R
theorem fk.Dr(h:fk E L U w):∀x∈U.A.map (fx L.K),tm w x:=by grind[dO,N.vm,Wf.A,wf]
def Sd(L:pi)(w:J)(k:Nat)(v:dB):Prop:=w.heap[k]?=H (dr #[v] 68)/\L.P.ownBlock≠H k/\L.L.ownBlock≠H k
def Ad(E:fS)(L:pi)(b:N)(w a:J):Prop:=∃L',L'.K=L.K/\fk E L' b a/\Fr E.bs w a/\∀k v,Sd L w k v->Sd L' a k v
theorem Sd.q(h:Sd L w k v)(l:Z (b::u.ownBlock.toList) w Q)(n:w.heap[b]?=H (dr B 178))(q:u.ownBlock≠H k):Q.heap[k]?=H (dr #[v] 68):=by refine l.at h.1 λd=>?_;rcases bZ.1 d with rfl|d;have:=h.1;grind;grind
theorem fk.Rr(h:fk E L U w)(n:vR E.bs E.A 188 178 B L.P (U.A.map (fx L.K)) w)(o:iG E L U B)(t:mV E.bs E.A 188 178 B L.P (zs.map (fx L.K)) w Q)(u:∀x∈zs,U.lj x=C):Ad E L {U with A:=zs} w Q:=by
 obtain⟨y,b,a,l⟩:=t;have d:KT E.bs [178,68] w Q:=.q a (λk A _=>by rcases bZ.1 A with rfl|A;exact⟨⟨_,_,_,n.dP,by simp⟩,h.A⟩;obtain⟨c,m,z⟩:=rG n.row (by simpa using A);exact⟨by grind,(n.row.lt k (by grind)).1⟩)
 have s:∀g,L.L.ownBlock=H g->g∉E.A::L.P.ownBlock.toList:=by intro g p f;rcases bZ.1 f with rfl|f;exact Dp h.S n.dP (by decide) p;grind[fk.o]
 exact⟨{L with P:=y},D,({h with
  d:=h.d.trans (d.d (by decide))
  B:=λi nd r=>((h.B i nd r).l d (by decide)).loc D D D
  wf:={h.wf with A:=u}
  dP:=⟨_,b.dP,(by cases o;constructor<;>grind)⟩
  R:=by simpa [lJ,ZT]using b.row
  S:=a.ownsRow h.S s
  o:=by intro g h1 j;have a0:=Do h.S (g:=g) j;grind
  P:=by grind[n7,vR.le]
  K:=d.row h.K (by decide)
  rd:=d.at h.rd (by decide)
  tok:=d.row h.tok (by decide)}),d.d (by decide),λk v q=>(by refine⟨q.q a n.dP q.2.1,λe=>?_,q.2.2⟩;rcases l with l|l;exact q.2.1 (l▸e);have:=l k e;have:=fp q.1;omega)⟩
theorem fk.Mf(h:fk E L U w)(l:vR E.bs E.A 188 178 B L.P (U.A.map (fx L.K)) w)(d:iG E L U B)(n:mV E.bs E.A 188 178 B L.P (zs.map (fx L.K)) w Q)(q:∀x∈zs,U.lj x=C):To E L {U with A:=zs} w Q:=
 have⟨L1,a,b,c,_⟩:=h.Rr l d n q
 ⟨L1,a,b,c⟩
def V8(h:fk E L U w):dS 263 #[gU E.A 188] w (JK w (G (ln U.A))):=by
 have⟨B,hL,hC⟩:=h.yT;have:=aiQ E.bs E.A 188 _ B _ _ w hL
 rwa [Fz]at this
def ami(h:fk E L U w)(n:Int):dS 242 #[gU E.A 188,G n] w (JK w (jl (fx L.K (dT U.A n)))):=by
 have⟨B,hL,hC⟩:=h.yT;have:=KA E.bs E.A 188 _ B _ _ n w hL
 rwa [x7]at this
def Xc(h:fk E L U w):dS 173 #[gU E.A 188] w (JK w (jl (fx L.K (dT U.A ((ln U.A:Int)-1))))):=by
 have⟨B,hL,hC⟩:=h.yT;have:=ad3 E.bs E.A 188 _ B _ _ w hL
 rwa [x7,Fz]at this
def yX(h:fk E L U w)(x:fW)(d:U.dO x=C):dS 240 #[gU E.A 188,jl (fx L.K x)] w (JK w (jl (fx L.K (dT U.A (jf U.A x-1))))):=by
 have⟨B,hL,hC⟩:=h.yT;have:=Qs E.bs E.A 188 _ B _ _ _ w hL h.Dr (h.dO d)
 rwa [OE h.inj,x7]at this
theorem T6(h:fk E L U w):dS 178 #[gU E.A 188] w λe Q=>e=ff (jl (fx L.K (dT U.A ((ln U.A:Int)-1))))/\To E L {U with A:=U.A.dropLast} w Q:=by
 have⟨B,hL,hC⟩:=h.yT;refine(aiR E.bs E.A 188 _ B _ _ w hL).mono ?_;grind[x7,fk.Mf,Wf.A,fk.wf,List.dropLast_subset]
theorem fk.I0(h:fk E L U w):∃B,vR E.bs E.A 189 178 B L.L (U.B.map (fx L.K)) w/\iG E L U B:=by
 have⟨B,hb,hC⟩:=h.dP;refine⟨B,⟨hb,hC.B,?_,by decide,by grind[fk.W]⟩,hC⟩
 simpa [ZT]using h.S
theorem fk.Dd(h:fk E L U w):∀x∈U.B.map (fx L.K),tm w x:=by grind[dO,Wf.B,wf]
theorem fk.Rq(h:fk E L U w)(n:vR E.bs E.A 189 178 B L.L (U.B.map (fx L.K)) w)(j:iG E L U B)(r:mV E.bs E.A 189 178 B L.L (zs.map (fx L.K)) w Q)(t:∀x∈zs,U.dO x=C):Ad E L {U with B:=zs} w Q:=by
 obtain⟨u,b,a,l⟩:=r;have d:KT E.bs [178,68] w Q:=.q a (λk A _=>by rcases bZ.1 A with rfl|A;exact⟨⟨_,_,_,n.dP,by simp⟩,h.A⟩;obtain⟨c,m,z⟩:=rG n.row (by simpa using A);exact⟨by grind,(n.row.lt k (by grind)).1⟩)
 have s:∀g,L.P.ownBlock=H g->g∉E.A::L.L.ownBlock.toList:=by intro g o f;rcases bZ.1 f with rfl|f;exact Dp h.R n.dP (by decide) o;grind[fk.o]
 exact⟨{L with L:=u},D,({h with
  d:=h.d.trans (d.d (by decide))
  B:=λi nd p=>((h.B i nd p).l d (by decide)).loc D D D
  wf:={h.wf with B:=t}
  dP:=⟨_,b.dP,(by cases j;constructor<;>grind)⟩
  S:=by simpa [lJ,ZT]using b.row
  R:=a.ownsRow h.R s
  o:=by intro g h1 y;have a0:=Do h.R (g:=g) h1;grind
  W:=by grind[n7,vR.le]
  K:=d.row h.K (by decide)
  rd:=d.at h.rd (by decide)
  tok:=d.row h.tok (by decide)}),d.d (by decide),λk v q=>(by refine⟨q.q a n.dP q.2.2,q.2.1,λe=>?_⟩;rcases l with l|l;exact q.2.2 (l▸e);have:=l k e;have:=fp q.1;omega)⟩
theorem fk.GG(h:fk E L U w)(l:vR E.bs E.A 189 178 B L.L (U.B.map (fx L.K)) w)(d:iG E L U B)(n:mV E.bs E.A 189 178 B L.L (zs.map (fx L.K)) w Q)(q:∀x∈zs,U.dO x=C):To E L {U with B:=zs} w Q:=
 have⟨L1,a,b,c,_⟩:=h.Rq l d n q
 ⟨L1,a,b,c⟩
def aix(h:fk E L U w):dS 263 #[gU E.A 189] w (JK w (G (ln U.B))):=by
 have⟨B,hL,hC⟩:=h.I0;have:=aiQ E.bs E.A 189 _ B _ _ w hL
 rwa [Fz]at this
def agc(h:fk E L U w)(x:fW)(l:U.dO x=C):dS 322 #[gU E.A 189,jl (fx L.K x)] w λe Q=>e=pG/\To E L {U with B:=mc U.B x} w Q:=by
 have⟨B,hL,hC⟩:=h.I0;refine(YM E.bs E.A 189 _ B _ _ _ w hL (by decide) h.Dd (h.dO l)).mono ?_;rintro e Q⟨rfl,d⟩;exact⟨D,h.GG hL hC (by rw[<-OC h.inj];exact d) λy n=>h.wf.B y (OD n)⟩
def pi.new(L:pi)(n k:Nat)(av kv:dB):pi:={L with K:=λi=>if i<n then L.K i else k+(i-n),B:=λi=>if i=n then av else L.B i,A:=λi=>if i=n then kv else L.A i}
theorem pi.h{n:Nat}(h:i<n):(L.new n k av kv).K i=L.K i:=dw h
def pi.d{n:Nat}:(L.new n k av kv).K n=k:=by simp[pi.new]
theorem pi.l{n:Nat}(h:i<n):(L.new n k av kv).B i=L.B i:=di (by omega)
theorem pi.q{n:Nat}(h:i<n):(L.new n k av kv).A i=L.A i:=di (by omega)
theorem pi.n{n:Nat}:(L.new n k av kv).B n=av:=dw D
def pi.s{n:Nat}:(L.new n k av kv).A n=kv:=dw D
def JD(n:Nat)(L a:pi):Prop:=∀i,i<n->a.K i=L.K i
theorem JD.refl(n:Nat)(L:pi):JD n L L:=λ_ _=>D
def N.kT(h:U.dO (H i)=C):i<ln U.d:=by have⟨e,he⟩:=dh.1 h;exact N.n he
def N.TE{k:Nd}(h:U.q k=C):k.dP<ln U.d:=by
 by_cases l:k.dP<ln U.d;exact l;have d:U.d[k.dP]?=F:=List.getElem?_eq_none (by omega);cases k with
 |el i=>simp[Nd.dP]at d;simp[N.q,N.h,d]at h
 |tx i=>simp[Nd.dP]at d;simp[N.q,d]at h
 |cm i=>simp[Nd.dP]at d;simp[N.q,d]at h
 |dt i=>simp[Nd.dP]at d;simp[N.q,d]at h
def JD.d(h:JD (ln U.d) L L')(d:U.dO x=C):fx L'.K x=fx L.K x:=by
 cases x with
 |none=>rfl
 |some i=>show H _=H _;rw[h i (N.kT d)]
theorem JD.h(h:JD (ln U.d) L L'){k:Nd}(d:U.q k=C):Nd.map L'.K k=Nd.map L.K k:=by have:=h _ (N.TE d);cases k<;>(simp[Nd.map,Nd.dP]at this|-;rw[this])
theorem JD.list(h:JD (ln U.d) L L')(l:∀x∈xs,U.dO x=C):(xs.map λx=>jl (fx L'.K x))=xs.map λx=>jl (fx L.K x):=
 Pg λx d=>by rw[h.d (l x d)]
theorem JD.q(h:JD (ln U.d) L L'){a:List Nd}(l:∀x∈a,U.q x=C):a.map (Nd.map L'.K)=a.map (Nd.map L.K):=
 Pg λx d=>h.h (l x d)
theorem N.oj(d:i<ln U.d):(U.add nd).h i=U.h i:=by grind[N.h,N.add]
theorem N.ng:(U.add nd).h (ln U.d)=(match nd with| .el e=>H e|_=>F):=by
 show(match (U.d++[nd])[ln U.d]? with|some (.el e)=>H e|_=>F)=_
 grind
theorem N.Al(h:U.dO x=C):(U.add nd).dO x=C:=by
 cases x with
 |none=>rfl
 |some i=>show((U.add nd).h i).isSome=C;rw[N.oj (N.kT h)];exact h
def N.Oh(h:U.lj x=C):(U.add nd).lj x=C:=by
 cases x with
 |none=>exact h
 |some i=>show((U.add nd).h i).isSome=C;rw[N.oj (N.kT h)];exact h
theorem N.F2{k:Nd}(h:U.q k=C):(U.add nd).q k=C:=by
 cases k with
 |el i=>show((U.add nd).h i).isSome=C;rw[N.oj (i:=i) (N.TE h)];exact h
 |tx i=>grind[N.q,N.add]
 |cm i=>grind[N.q,N.add]
 |dt i=>grind[N.q,N.add]
theorem N.Kg(h:(U.add nd).h i=H e):(i<ln U.d/\U.h i=H e)\/(i=ln U.d/\nd=.el e):=by
 have d:=by simpa [N.add]using (N.n h)
 grind[oj,ng]
theorem kI.ext(h:kI bs L w i nd)(d:JD (ln U.d) L L')(l:i<ln U.d)(n:L'.B i=L.B i)(q:L'.A i=L.A i)(A:∀e,nd=.el e->U.dO e.E=C/\∀k∈e.q,U.q k=C):kI bs L' w i nd:=by
 cases nd with
 |el e=>
  have⟨h1,h2⟩:=A e D;show El bs w _ _ _ _ _ _/\AX w _ _/\(ln e.A)<=4096;rw[d i l,n,q,d.d h1,d.q h2];exact h
 |tx s=>show w.heap[L'.K i]?=_;rw[d i l];exact h
 |cm s=>show w.heap[L'.K i]?=_;rw[d i l];exact h
 |dt s=>show w.heap[L'.K i]?=_;rw[d i l];exact h
theorem fk.JO(h:fk E L U w)(d:i<ln U.d):L.K i<zq w.heap:=by have⟨c,hc⟩:=(h.B i _ (qM d)).d;grind
def fk.Mx(h:fk E L U w)(l:U.d[i]?=H nd):∀e,nd=.el e->U.dO e.E=C/\∀k∈e.q,U.q k=C:=by rintro e rfl;have d:=N.iQ l;exact⟨h.wf.E i e d,h.wf.q i e d⟩
theorem iG.ext(h:iG E L U B)(l:JD (ln U.d) L L')(d:Wf U)(e1:L'.P=L.P)(e2:L'.L=L.L)(s:L'.E=L.E)(n:σ'.head=U.head)(q:σ'.j=U.j)(A:σ'.g=U.g)(a:σ'.kept=U.kept)(b:σ'.U=U.U)(c:σ'.W=U.W)(e:σ'.K=U.K)(f:σ'.P=U.P):iG E L' σ' B:=
 ⟨h.size,h.low,by grind[iG.A],by grind[iG.B],by rw[n,l.d d.head];exact h.head,by rw[q,l.d d.j];exact h.j,by grind[iG.g],by grind[kept],by grind[wait],by grind[iG.q],by grind[iG.W],by grind[iG.K],by grind[iG.P]⟩
theorem fk.aiz(h:fk E L U w)(nd:zE)(k:Nat)(av kv:dB)(fr:Bool)(hk:Z [] w Q)(G:∀i,i<ln U.d->L.K i<k)(y:E.bs<=k)
  (I:kI E.bs (L.new (ln U.d) k av kv) Q (ln U.d) nd) (ad:kv.ownBlock=F) (u:∀e,nd=.el e->e.E=F/\e.q=[])
  (p:∀i e g,U.h i=H e->l4 e.name=C->av.ownBlock=H g->(L.B i).ownBlock≠H g)
  (r:∀e g j,nd=.el e->l4 e.name=C->j<ln U.d->av.ownBlock=H g->(L.B j).ownBlock≠H g)
  (a3:(∀e,nd≠ .el e)->av.ownBlock=F)
  (a1:fr=C->U.E=C/\∀g,E.a.ownBlock=H g->av.ownBlock≠H g) (v:∀g,av.ownBlock=H g->E.bs<=g):fk E (L.new (ln U.d) k av kv) (U.il nd fr) Q:=by
 have q:=h.h hk;have m:JD (ln U.d) L (L.new (ln U.d) k av kv):=λi l=>pi.h l;have t:=N.kT (U:=U) (i:=0) h.wf.u;have n:ln (U.il nd fr).d=ln U.d+1:=by simp[N.il]
 have z:∀i,(U.il nd fr).h i=(U.add nd).h i:=λi=>D;have⟨B,hb,hC⟩:=q.dP;refine⟨q.d,by grind[pi.h,env],q.k,?_,?_,?_,?_,?_,?_,?_,⟨B,hb,hC.ext m h.wf D D D D D D D D D D D⟩,?_,?_,q.o,q.P,q.W,q.K,q.s,q.rd,q.u,q.tok,q.q,q.t,q.A,q.Q,?_,?_,?_,h.a,h.r⟩;intro i a0 l;have d:(U.d++[nd])[i]?=H a0:=l;by_cases hl:i<ln U.d;rw[ZR hl]at d;exact(q.B i a0 d).ext m hl (pi.l hl) (pi.q hl) (h.Mx d);grind;intro i j A;have s:(if i<ln U.d then L.K i else k+(i-(ln U.d)))=(if j<ln U.d then L.K j else k+(j-(ln U.d))):=A;by_cases l:i<ln U.d;by_cases b:j<ln U.d;rw[dw l,dw b]at s;exact h.inj i j s;grind;grind;intro i j g l b A f;rw[n]at l b;by_cases d:i<ln U.d;rw[pi.q d]at f;by_cases a2:j<ln U.d;grind[pi.q,fk.b];grind[pi.new];grind[pi.new];intro i l a;rw[n]at l;by_cases d:i<ln U.d;grind[pi.q,fk.m,N.oj];grind[pi.new];intro i j e g l bI b A f;rw[n]at b;rcases N.Kg (nd:=nd) l with⟨d,a⟩|⟨rfl,rfl⟩;rw[pi.l d]at f;by_cases a2:j<ln U.d;grind[pi.l,fk.T];grind[pi.new];grind[pi.new];grind[pi.l,fk.f,N.oj,pi.n,N.ng];refine⟨λx c=>N.Oh (h.wf.A x c),λx c=>N.Al (h.wf.B x c),N.Al h.wf.head,N.Al h.wf.j,?_,?_,?_⟩;intro i e l;rcases N.Kg (nd:=nd) l with⟨d,a⟩|⟨rfl,o⟩;exact N.Al (h.wf.E i e a);grind[N.dO];intro i e l x c;rcases N.Kg (nd:=nd) l with⟨d,a⟩|⟨rfl,o⟩;exact N.F2 (h.wf.q i e a x c);grind;grind[N.oj,Wf.u,wf];show Q.ownsRow E.bs _ 1 L.P (ln U.A) (U.A.map λx=>jl (fx (L.new (ln U.d) k av kv).K x));grind[JD.list,N.vm,Wf.A,wf,fk.R];show Q.ownsRow E.bs _ 1 L.L (ln U.B) (U.B.map λx=>jl (fx (L.new (ln U.d) k av kv).K x));grind[JD.list,Wf.B,wf,fk.S];intro i l;rw[n]at l;by_cases d:i<ln U.d;rw[pi.h d];exact h.X i d;grind[pi.new];intro hf i g l f;rw[n]at l;have⟨f1,f2⟩:=a1 hf;by_cases d:i<ln U.d;grind[pi.l,fk.c];grind[pi.new];grind[fk.U,pi.l,pi.n]
theorem fk.add{E:fS}{L:pi}{U:N}{w b:J}(h:fk E L U w)(nd:zE)(k:Nat)(av kv:dB)(A:Bool)(hk:Z [] w b)(s:zq w.heap<=k)
  (a2:kI E.bs (L.new (ln U.d) k av kv) b (ln U.d) nd) (a1:kv.ownBlock=F) (q:∀e,nd=.el e->e.E=F/\e.q=[])
  (l:∀i e g,U.h i=H e->l4 e.name=C->av.ownBlock=H g->(L.B i).ownBlock≠H g)
  (n:∀e g j,nd=.el e->l4 e.name=C->j<ln U.d->av.ownBlock=H g->(L.B j).ownBlock≠H g)
  (d:(∀e,nd≠ .el e)->av.ownBlock=F)
  (a0:A=C->U.E=C/\∀g,E.a.ownBlock=H g->av.ownBlock≠H g) (a:∀g,av.ownBlock=H g->E.bs<=g):fk E (L.new (ln U.d) k av kv) (U.il nd A) b:=
 h.aiz nd k av kv A hk (λ_ c=>kQ (h.JO c) s) (gR h.bw s) a2 a1 q l n d a0 a
def fk.ajh(h:fk E L U w)(d:KT E.bs [138,140,280] w Q)(l:JD (ln U.d) L L')(e1:L'.P=L.P)(e2:L'.L=L.L)(A:L'.E=L.E)
  (m:∀i nd,σ'.d[i]?=H nd->kI E.bs L' Q i nd) (a1:∀i j,L'.K i=L'.K j->i=j)
  (a3:∀i j g,i<ln σ'.d->j<ln σ'.d->i≠j->(L'.A i).ownBlock=H g->(L'.A j).ownBlock≠H g)
  (a2:∀i,i<ln σ'.d->σ'.h i=F->(L'.A i).ownBlock=F)
  (uq:∀i j e g,σ'.h i=H e->l4 e.name=C->j<ln σ'.d->i≠j->(L'.B i).ownBlock=H g->(L'.B j).ownBlock≠H g)
  (s:∀i,i<ln σ'.d->σ'.h i=F->(L'.B i).ownBlock=F)
  (wf:Wf σ') (a:σ'.E=C->∀i g,i<ln σ'.d->E.a.ownBlock=H g->(L'.B i).ownBlock≠H g)
  (b:ln σ'.d<=ln U.d:=by first|exact dF _|simp[N.l,N.lw])
  (a0:∃c,σ'={U with d:=c}:=by exact⟨_,D⟩) (av:L'.B=L.B:=by rfl):fk E L' σ' Q:=by
 obtain⟨c,rfl⟩:=a0;obtain⟨B,hb,o⟩:=h.dP;have n:=N.kT (U:=U) (i:=0) h.wf.u;exact {h with
  d:=h.d.trans (d.d (by decide))
  env:=by rw[l 0 n];exact h.env
  k:=h.k
  B:=m,inj:=a1,b:=a3,m:=a2,T:=uq,f:=s,wf:=wf
  dP:=⟨B,d.at hb (by decide),o.ext l h.wf e1 e2 A D D D D D D D D⟩
  R:=by rw[e1,l.list λx p=>N.vm (h.wf.A x p)];exact d.row h.R (by decide)
  S:=by rw[e2,l.list h.wf.B];exact d.row h.S (by decide)
  o:=by rw[e1,e2];exact h.o
  P:=h.P
  W:=h.W
  K:=by rw[A];exact d.row h.K (by decide)
  s:=h.s
  rd:=d.at h.rd (by decide)
  tok:=d.row h.tok (by decide)
  X:=λi q=>by rw[l i (kQ q b)];exact h.X i (kQ q b)
  c:=a
  U:=λi g q f=>h.U i g (kQ q b) (by rw[av]at f;exact f)
  r:=λv k=>⟨A.trans (h.r v k).1,(h.r v k).2⟩}
theorem fk.F8(h:fk E L U w)(l:j<ln U.d)(d:(L.A j).ownBlock=H g):∃c m,w.heap[g]?=H (.cells c 140 m):=by
 cases he:U.h j with
 |none=>grind[fk.m]
 |some e=>exact rG (h.B j _ (N.eH he)).1.row d
theorem fk.PD(h:fk E L U w)(l:j<ln U.d)(d:(L.B j).ownBlock=H g):∃c m,w.heap[g]?=H (.cells c 295 m):=by
 cases he:U.h j with
 |none=>grind[fk.f]
 |some e=>exact rG (h.B j _ (N.eH he)).2.1 d
theorem fk.VL(h:fk E L U w)(d:j<ln U.d):∃c t,w.heap[L.K j]?=H (dr c t)/\t≠140/\t≠295:=by have⟨c,hc⟩:=(h.B j _ (qM d)).d;refine⟨c,_,hc,?_⟩;cases U.d[j]<;>(simp[zE.d])
theorem afB{a:Nat}{e:io}{b:TypeId}{f:Nat×Nat}(h:w.heap[a]?=H (.cells c t m))(d:w.heap[a]?=H (.cells e b f)):t=b:=by grind
theorem fk.l(h:fk E L U w)(a0:List Nat)(b:∀j∈a0,j<ln U.d)(l:∀s∈S,∃j∈a0,s=L.K j\/(L.A j).ownBlock=H s)(A:Z S w Q)(n:U.d[i]?=H nd)(d:i∉a0):kI E.bs L Q i nd:=by
 refine(h.B i nd n).kept A ?_ ?_ ?_;intro a;obtain⟨j,q,e|e⟩:=l _ a;exact d (by rw[h.inj i j e];exact q);grind[F8,VL]
 all_goals grind[F8,VL,fk.b,PD]
theorem fk.QB(h:fk E L U w)(a:List Nat)(d:∀j∈a,(U.h j).isSome=C)(n:∀s∈S,∃j∈a,s=L.K j\/(L.A j).ownBlock=H s)(q:Z S w Q):KT E.bs [138,140,280] w Q:=by refine .q q λs A _=>?_;obtain⟨j,l,e|e⟩:=n s A;have⟨e',he⟩:=dh.1 (d j l);rw[e];exact⟨⟨_,_,_,(h.B j _ (N.eH he)).1.dP,by simp⟩,h.X j (N.n he)⟩;have⟨e',he⟩:=dh.1 (d j l);have⟨c,m,h1⟩:=h.F8 (N.n he) e;exact⟨by grind,((h.B j _ (N.eH he)).1.row.lt _ e).1⟩
theorem N.gP(U:N)(i:Nat)(e:mh):ln (U.l i e).d=ln U.d:=by simp[N.l]
theorem N.gu(d:i<ln U.d):(U.l i e).h i=H e:=by grind[N.h,N.l]
theorem N.s(d:j≠i):(U.l i e).h j=U.h j:=by grind[N.h,N.l]
theorem N.wx(h:(U.l i e).d[j]?=H nd):(j=i/\nd=.el e)\/(j≠i/\U.d[j]?=H nd):=by by_cases d:i=j;simp[N.l]at h;grind;simp[N.l]at h;grind
theorem N.sN(d:(U.h i).isSome=C)(x:fW):(U.l i e).dO x=U.dO x:=by
 cases x with
 |none=>rfl
 |some j=>
  show((U.l i e).h j).isSome=(U.h j).isSome;grind[N.h,N.l]
theorem N.F0(d:(U.h i).isSome=C)(x:fW):(U.l i e).lj x=U.lj x:=by
 cases x with
 |none=>rfl
 |some j=>exact N.sN d (H j)
theorem N.nE(d:(U.h i).isSome=C)(k:Nd):(U.l i e).q k=U.q k:=by
 have h:∀j,j≠i->(U.l i e).d[j]?=U.d[j]?:=λj q=>by grind[N.l]
 have⟨e0,he0⟩:=dh.1 d;have l:=N.eH he0;have n:(U.l i e).d[i]?=H (.el e):=by simp[N.l,N.n he0]
 cases k with
 |el j=>exact N.sN d (H j)
 |tx j=>grind[N.q]
 |cm j=>grind[N.q]
 |dt j=>grind[N.q]
theorem Wf.l(h:Wf U)(d:(U.h i).isSome=C)(b:U.dO e.E=C)(a:∀k∈e.q,U.q k=C):Wf (U.l i e):=by refine⟨λx q=>by rw[N.F0 d];exact h.A x q,λx q=>by rw[N.sN d];exact h.B x q,by rw[N.sN d];exact h.head,by rw[N.sN d];exact h.j,?_,?_,?_⟩;intro j s n;rw[N.sN d];by_cases l:j=i;subst l;rw[N.gu (N.kT d)]at n;grind;grind[Wf.E,N.s];intro j s n k A;rw[N.nE d];by_cases l:j=i;subst l;rw[N.gu (N.kT d)]at n;grind;grind[Wf.q,N.s];have:=N.sN (e:=e) d (H 0);exact this.trans h.u
def x6(E:fS)(L:pi)(i:Nat)(b:N)(w a:J):Prop:=∃L',L'.K=L.K/\(∀x,x≠i->L'.A x=L.A x)/\fk E L' b a/\Fr E.bs w a/\∀k v,Sd L w k v->Sd L' a k v
theorem x6.to(h:x6 E L i U w Q):To E L U w Q:=by obtain⟨L',a,_,b,c,_⟩:=h;exact⟨L',a,b,c⟩
def x6.s(h:x6 E L i U w Q):Ad E L U w Q:=by obtain⟨L',a,_,b⟩:=h;exact⟨L',a,b⟩
def fk.LP(h:fk E L U w)(i:Nat)(l:dB)(p:(U.h i).isSome=C)(t:KT E.bs [138,140,280] w Q)(I:l.ownBlock=(L.A i).ownBlock\/∀g,l.ownBlock=H g->zq w.heap<=g)
  (d:ln σ'.d=ln U.d) (G:∀j y,σ'.h j=H y->∃e,U.h j=H e/\y.name=e.name) (a3:∀j,σ'.h j=F->U.h j=F)
  (K:∀j nd,σ'.d[j]?=H nd->kI E.bs {L with A:=λx=>if x=i then l else L.A x} Q j nd) (wf:Wf σ')
  (J:∃u,σ'={U with d:=u}:=by exact⟨_,D⟩):x6 E L i σ' w Q:=by
 obtain⟨u,rfl⟩:=J;have bI:=N.kT (U:=U) (i:=i) p;have A:∀j g,j<ln U.d->j≠i->l.ownBlock=H g->(L.A j).ownBlock≠H g:=by intro j g s f n a0;rcases I with e|e;rw[e]at n;exact h.b i j g bI s (yz f) n a0;obtain⟨c,m,aJ⟩:=h.F8 s a0;have:=e g n;have:=fp aJ;omega
 refine⟨{L with A:=λx=>if x=i then l else L.A x},D,λx aI=>di aI,h.ajh (L':={L with A:=λx=>if x=i then l else L.A x}) t (λ_ _=>D) D D D K h.inj ?_ ?_ ?_ ?_ wf ?_ (lX d),t.d (by decide),λk v X=>⟨t.at X.1 (by decide),X.2⟩⟩;intro a b g ha hb q n;rw[d]at ha hb;by_cases h1:a=i;subst h1;have o:b≠a:=yz q;simp only[Cg]at n;simp only[di o];exact A b g hb o n;simp only[di h1]at n;by_cases o:b=i;subst o;simp only[Cg];exact λhh=>A a g ha h1 hh n;simp only[di o];exact h.b a b g ha hb q n;intro j s r;rw[d]at s;have a1:=a3 j r;have f:j≠i:=by rintro rfl;rw[a1]at p;cases p
 simp only[di f];exact h.m j s a1;intro a b e g ha z hb q n;rw[d]at hb;obtain⟨M,O,a2⟩:=G a e ha;exact h.T a b M g O (by rw[<-a2];exact z) hb q n;intro j s r;rw[d]at s;exact h.f j s (a3 j r);rw[d];exact h.c
def fk.zI(h:fk E L U w)(d:U.h i=H e):El E.bs w (L.K i) e.name (L.B i) (fx L.K e.E) (L.A i) (e.q.map (Nd.map L.K)):=(h.B i _ (N.eH d)).1
def fk.JP(h:fk E L U w)(d:U.h i=H e):AX w (L.B i) e.A:=(h.B i _ (N.eH d)).2.1
theorem fk.n(h:fk E L U w)(d:U.h i=H e):ln e.A<=4096:=(h.B i _ (N.eH d)).2.2
theorem Ub(d:∀i j,f i=f j->i=j)(a:List Nd)(j:Nat):oS (a.map (Nd.map f)) (Nd.dO (f j))=oS a (Nd.dO j):=by
 have:(a.map (Nd.map f)).findIdx (Nd.dO (f j))=a.findIdx (Nd.dO j):=by
  rw[List.findIdx_map]
  congr 1
  funext k
  cases k with
  |el i=>
   grind[Nd.dO,Nd.map]
  |tx i=>rfl
  |cm i=>rfl
  |dt i=>rfl
 grind[oS]
theorem US(h:fk E L U w)(l:U.h i=H e):dS 93 #[dq (L.K i)] w λd Q=>d=ff (place (L.K i) (ln e.q))/\fk E L U Q/\Z [] w Q:=by
 refine(ajW E.bs _ _ _ _ _ _ w (h.zI l)).mono ?_;grind[fk.h]
def OZ(h:fk E L U w)(n:U.h i=H e)(A:l4 e.name=I):dS 269 #[dq (L.K i)] w λb Q=>∃L',JD (ln U.d) L L'/\b=ff (dq (L'.K (ln U.d)))/\fk E L' (U.add (.el {name:=e.name,A:=e.A,E:=F,q:=[]})) Q/\Fr E.bs w Q/\∀k v,Sd L w k v->Sd L' Q k v:=by
 have c:=h.JP n;have o:=h.n n;refine(VI E.bs _ _ _ _ _ _ w (h.zI n)).mono ?_;rintro b Q⟨rfl,m,a⟩;have l:=N.n n;refine⟨L.new (ln U.d) w.heap.size (L.B i) (gq),λj q=>pi.h q,by rw[pi.d],?_,.h a,λk v X=>⟨a.at X.1 (by simp),X.2⟩⟩;refine h.add (.el {name:=e.name,A:=e.A,E:=F,q:=[]}) w.heap.size (L.B i) (gq) U.E a (dF _) ?_ D (λb a0=>by cases a0;exact⟨D,D⟩) ?_ ?_ (λa3=>absurd D (a3 _)) ?_ (λg A=>h.U i g l A);show El E.bs Q _ _ _ _ _ _/\AX Q _ _/\_;rw[pi.d,pi.n,pi.s];exact⟨m,a.ownsRow c (by simp),o⟩;intro j e2 g q d h1 f;by_cases s:j=i;subst s;rw[n]at q;cases q;rw[A]at d;cases d;exact h.T j i e2 g q d l s f h1;intro e2 g j a1 d;cases a1;rw[A]at d;cases d;intro hf;exact⟨hf,λg a2=>h.c hf i g l a2⟩
def map_eraseIdx(f:Nd->Nd):∀(ks:List Nd)(n:Nat),(ks.eraseIdx n).map f=(ks.map f).eraseIdx n
 |[],_=>rfl
 |_::_,0=>rfl
 |k::ks,n+1=>by simp[map_eraseIdx f ks n]
def ins(a:List Nd)(n:Nat)(k:Nd):List Nd:=a.take n++[k]++a.drop n
def YF(f:Nat->Nat)(a:List Nd)(n:Nat)(k:Nd):(ins a n k).map (Nd.map f)=(a.map (Nd.map f)).take n++[Nd.map f k]++(a.map (Nd.map f)).drop n:=by simp[ins]
theorem sM{a:List Nd}{n:Nat}{k x:Nd}(h:x∈ins a n k):x∈a\/x=k:=by
 rcases dA.1 h with h|h
 all_goals grind
def L5(h:fk E L U w){n:Nat}(b:U.h i=H ei)(c:U.h j=H ej)(a1:j≠i)(K:n<=ln ei.q)(hl:ln ei.q<1048576):dS 169 #[place (L.K i) n,(Nd.el (L.K j)).val] w λe Q=>e=pG/\x6 E L i ((U.l i {ei with q:=ins ei.q n (.el j)}).l j {ej with E:=H i}) w Q:=by
 have a0:=N.n b;have a2:=N.n c;have A:(U.h i).isSome=C:=by rw[b];rfl
 have m:(U.h j).isSome=C:=by rw[c];rfl
 have bI:=h.JP b;have M:=h.n b;have F:=h.JP c;have O:=h.n c;refine(akF E.bs _ n _ _ _ _ _ _ _ _ _ _ _ w (h.zI b) (h.zI c) (λe=>a1 (h.inj _ _ e)) (λg J=>h.b j i g a2 a0 a1 J) (by simpa using K) (by simpa using hl) h.bw).mono ?_;rintro e Q⟨rfl,⟨a3,t,f1⟩,u,hk⟩;have o:∀s∈L.K j::L.K i::(L.A i).ownBlock.toList,∃x∈[j,i],s=L.K x\/(L.A x).ownBlock=H s:=by intro s X;rcases bZ.1 X with rfl|X;exact⟨j,by simp,.inl D⟩;rcases bZ.1 X with rfl|X;exact⟨i,by simp,.inl D⟩;exact⟨i,by simp,.inr (by simpa using X)⟩
 have r:=h.QB [j,i] (by intro x d;simp at d;rcases d with rfl|rfl<;>assumption) o hk;have v:((U.l i {ei with q:=ins ei.q n (.el j)}).h j).isSome=C:=by rw[N.s a1];exact m
 have f:∀x e,x<ln U.d->AX w (L.B x) e->AX Q (L.B x) e:=λx e _ ha=>r.row ha (by decide);refine⟨D,h.LP i a3 A r f1 (by rw[N.gP,N.gP]) ?_ ?_ ?_ ?_⟩;intro x G d;by_cases q:x=j;subst q;rw[N.gu (by rw[N.gP];exact a2)]at d;cases d;exact⟨ej,c,D⟩;rw[N.s q]at d;by_cases l:x=i;subst l;rw[N.gu a0]at d;cases d;exact⟨ei,b,D⟩;rw[N.s l]at d;exact⟨G,d,D⟩;intro x d;by_cases q:x=j;subst q;rw[N.gu (by rw[N.gP];exact a2)]at d;cases d;rw[N.s q]at d;by_cases l:x=i;subst l;rw[N.gu a0]at d;cases d;rw[N.s l]at d;exact d
 .intro x nd d;rcases N.wx d with⟨rfl,rfl⟩|⟨q,d⟩;show El E.bs Q _ _ _ _ (if x=i then a3 else L.A x) _/\_;rw[di a1];exact⟨u,f x _ a2 F,O⟩
  .rcases N.wx d with⟨rfl,rfl⟩|⟨l,d⟩;show El E.bs Q _ _ _ _ (if x=x then a3 else L.A x) _/\_;rw[dw D];refine⟨?_,f x _ a0 bI,M⟩;show El E.bs Q (L.K x) ei.name (L.B x) (fx L.K ei.E) a3 ((ins ei.q n (.el j)).map (Nd.map L.K));rw[YF];exact t
   .have I:=h.l [j,i] (by intro y p;simp at p;rcases p with rfl|rfl<;>assumption) o hk d (by simp[q,l]);have z:x<ln U.d:=(dG.1 d).1;exact I.ext (U:=U) (JD.refl _ _) z D (di l) (h.Mx d)
 refine(h.wf.l (e:={ei with q:=ins ei.q n (.el j)}) A (h.wf.E i ei b) ?_).l v ?_ ?_;intro k a;rcases sM a with a|rfl;exact h.wf.q i ei b k a;exact m;rw[N.sN A];exact A;intro k a;rw[N.nE A];exact h.wf.q j ej c k a
def L6(h:fk E L U w){n:Nat}{k:Nd}(q:U.h i=H ei)(hk:U.q k=C)(a2:∀j,k≠ .el j)(r:n<=ln ei.q)(hl:ln ei.q<1048576):dS 169 #[place (L.K i) n,(Nd.map L.K k).val] w λe Q=>e=pG/\x6 E L i (U.l i {ei with q:=ins ei.q n k}) w Q:=by
 have a0:=N.n q;have a:(U.h i).isSome=C:=by rw[q];rfl
 have m:=h.JP q;have t:=h.n q;refine(akG E.bs _ n _ _ _ _ _ (Nd.map L.K k) w (h.zI q) (by simpa using r) (by simpa using hl) h.bw (λj e=>by cases k<;>simp[Nd.map]at e;exact a2 _ D)).mono ?_;rintro e Q⟨rfl,⟨A,g,f1⟩,a1⟩;have b:∀s∈L.K i::(L.A i).ownBlock.toList,∃x∈[i],s=L.K x\/(L.A x).ownBlock=H s:=by intro s X;rcases bZ.1 X with rfl|X;exact⟨i,by simp,.inl D⟩;exact⟨i,by simp,.inr (by simpa using X)⟩
 have f:=h.QB [i] (by intro x d;simp at d;subst d;assumption) b a1;refine⟨D,h.LP i A a f f1 (by rw[N.gP]) ?_ ?_ ?_ ?_⟩;intro x o d;by_cases l:x=i;subst l;rw[N.gu a0]at d;cases d;exact⟨ei,q,D⟩;rw[N.s l]at d;exact⟨o,d,D⟩;intro x d;by_cases l:x=i;subst l;rw[N.gu a0]at d;cases d;rw[N.s l]at d;exact d;intro x nd d;rcases N.wx d with⟨rfl,rfl⟩|⟨l,d⟩;show El E.bs Q _ _ _ _ (if x=x then A else L.A x) _/\_;rw[dw D];refine⟨?_,f.row m (by decide),t⟩;show El E.bs Q (L.K x) ei.name (L.B x) (fx L.K ei.E) A ((ins ei.q n k).map (Nd.map L.K));rw[YF];exact g;have p:=h.l [i] (by intro y c;simp at c;subst c;assumption) b a1 d (by simp[l]);have a3:x<ln U.d:=(dG.1 d).1;exact p.ext (U:=U) (JD.refl _ _) a3 D (di l) (h.Mx d);refine h.wf.l a (h.wf.E i ei q) ?_;intro x d;rcases sM d with d|rfl;exact h.wf.q i ei q x d;exact hk
def Fg(h:fk E L U w)(l:U.h j=H ej)(n:ej.E=F):Calls prog 368 #[dq (L.K j)] w λe Q=>e=pG/\Q=w:=by
 have d:=h.zI l;rw[n]at d;have q:=(aF d.dP 2).trans D;go_wp2;go_end0;simp
theorem O0(h:fk E L U w){p n:Nat}{q:mh}(c:U.h j=H ej)(B:ej.E=H p)(b:U.h p=H q)(a0:j≠p)(S:n<ln q.q)(G:oS q.q (Nd.dO j)=(n:Int)):dS 368 #[dq (L.K j)] w λe Q=>e=pG/\x6 E L p ((U.l p {q with q:=q.q.eraseIdx n}).l j {ej with E:=F}) w Q:=by
 have f:=N.n b;have a2:=N.n c;have m:(U.h p).isSome=C:=by rw[b];rfl
 have J:(U.h j).isSome=C:=by rw[c];rfl
 have r:=h.zI c;rw[B]at r;have M:=h.JP b;have V:=h.n b;have K:=h.JP c;have T:=h.n c;refine(UZ E.bs _ _ n _ _ _ _ _ _ _ _ _ w r (h.zI b) ?_ (λe=>a0 (h.inj _ _ e)) (λg bC=>h.b j p g a2 f a0 bC) (by simpa using S) (by rw[Ub h.inj];exact G)).mono ?_;intro x d;obtain⟨k,a,rfl⟩:=dW.1 d;have a:=h.wf.q p q b k a;cases k with
 |el i=>
  have⟨e,he⟩:=dh.1 (a);exact⟨_,(h.zI he).dP⟩
 |tx i=>
  simp[N.q]at a;split at a;rename_i s X;exact⟨_,h.B i _ X⟩;grind
 |cm i=>
  simp[N.q]at a;split at a;rename_i s X;exact⟨_,h.B i _ X⟩;grind
 |dt i=>
  simp[N.q]at a;split at a;rename_i s X;exact⟨_,h.B i _ X⟩;grind
 rintro e Q⟨rfl,⟨a1,v,f1⟩,z,a⟩;have t:∀s∈L.K j::L.K p::(L.A p).ownBlock.toList,∃x∈[j,p],s=L.K x\/(L.A x).ownBlock=H s:=by intro s X;rcases bZ.1 X with rfl|X;exact⟨j,by simp,.inl D⟩;rcases bZ.1 X with rfl|X;exact⟨p,by simp,.inl D⟩;exact⟨p,by simp,.inr (by simpa using X)⟩
 have o:=h.QB [j,p] (by intro x d;simp at d;rcases d with rfl|rfl<;>assumption) t a;have I:((U.l p {q with q:=q.q.eraseIdx n}).h j).isSome=C:=by rw[N.s a0];exact J
 refine⟨D,h.LP p a1 m o (.inl f1) (by rw[N.gP,N.gP]) ?_ ?_ ?_ ?_⟩;intro x aJ d;by_cases A:x=j;subst A;rw[N.gu (by rw[N.gP];exact a2)]at d;cases d;exact⟨ej,c,D⟩;rw[N.s A]at d;by_cases l:x=p;subst l;rw[N.gu f]at d;cases d;exact⟨q,b,D⟩;rw[N.s l]at d;exact⟨aJ,d,D⟩;intro x d;by_cases A:x=j;subst A;rw[N.gu (by rw[N.gP];exact a2)]at d;cases d;rw[N.s A]at d;by_cases l:x=p;subst l;rw[N.gu f]at d;cases d;rw[N.s l]at d;exact d
 .intro x nd d;rcases N.wx d with⟨rfl,rfl⟩|⟨A,d⟩;show El E.bs Q _ _ _ _ (if x=p then a1 else L.A x) _/\_;rw[di a0];exact⟨z,o.row K (by decide),T⟩
  .rcases N.wx d with⟨rfl,rfl⟩|⟨l,d⟩;show El E.bs Q _ _ _ _ (if x=x then a1 else L.A x) _/\_;rw[dw D];refine⟨?_,o.row M (by decide),V⟩;show El E.bs Q (L.K x) q.name (L.B x) (fx L.K q.E) a1 ((q.q.eraseIdx n).map (Nd.map L.K));rw[map_eraseIdx];exact v
   .have aI:=h.l [j,p] (by intro y u;simp at u;rcases u with rfl|rfl<;>assumption) t a d (by simp[A,l]);have O:x<ln U.d:=(dG.1 d).1;exact aI.ext (U:=U) (JD.refl _ _) O D (di l) (h.Mx d)
 refine(h.wf.l (e:={q with q:=q.q.eraseIdx n}) m (h.wf.E p q b) ?_).l I D ?_;intro k a3;exact h.wf.q p q b k (List.mem_of_mem_eraseIdx a3);intro k a3;rw[N.nE m];exact h.wf.q j ej c k a3
theorem fk.Ic(h:fk E L U w)(d:O):fk E (L.new (ln U.d) w.heap.size (gq) (gq)) (U.add (.el {name:=d,A:=[],E:=F,q:=[]})) (w.alloc (dr #[Y d,gq,.pointer F,gq] 138)):=by refine h.add _ _ _ _ _ ((Z.refl _ _).alloc _) (dF _) ?_ D (λe q=>by grind) (λ_ _ _ _ _ l=>by cases l) (λ_ _ _ _ _ _ l=>by cases l) (λ_=>D) (λn=>⟨n,λ_ _=>by simp[dl]⟩) (λ_ l=>by cases l);show El E.bs _ _ _ _ _ _ _/\AX _ _ _/\_;rw[pi.d,pi.n,pi.s];exact⟨⟨aY w _,mY _ _ _ _,by simp,by grind⟩,mY _ _ _ _,by simp⟩
theorem fk.jN(h:fk E L U w)(n:U.E=C)(d:O):fk E (L.new (ln U.d) w.heap.size E.a (gq)) (U.il (.el {name:=d,A:=E.B,E:=F,q:=[]}) I) (w.alloc (dr #[Y d,E.a,.pointer F,gq] 138)):=by have s:Z [] w (w.alloc (dr #[Y d,E.a,.pointer F,gq] 138)):=(Z.refl _ _).alloc _;refine h.add _ _ E.a _ _ s (dF _) ?_ D (λe b=>by grind) (λi e g A _ l=>h.c n i g (N.n A) l) (λe g j _ _ a l=>h.c n j g a l) (λq=>absurd D (q _)) (λn=>by grind) h.a;show El E.bs _ _ _ _ _ _ _/\AX _ _ _/\_;rw[pi.d,pi.n,pi.s];have⟨ao,P,hv⟩:=df h.tok;exact⟨⟨aY w _,mY _ _ _ _,by simp,by grind⟩,s.ownsRow h.tok (by simp),h.q⟩
theorem fk.amc(h:fk E L U w)(nd:zE)(s:O)(l:nd=.tx s\/nd=.cm s\/nd=.dt s):fk E (L.new (ln U.d) w.heap.size (gq) (gq)) (U.add nd) (w.alloc (dr #[Y s] nd.d)):=by
 have n:∀e,nd≠ .el e:=by grind
 refine h.add nd _ _ _ _ ((Z.refl _ _).alloc _) (dF _) ?_ D (λe q=>absurd q (n e)) (λ_ _ _ _ _ d=>by cases d) (λ_ _ _ _ _ _ d=>by grind) (λ_=>D) (λA=>⟨A,λ_ _=>by simp[dl]⟩) (λ_ d=>by cases d);rcases l with rfl|rfl|rfl;show _=_;rw[pi.d];exact aY w _;show _=_;rw[pi.d];exact aY w _;show _=_;rw[pi.d];exact aY w _
def Too(E:fS)(L:pi)(n:Nat)(a:N)(w b:J):Prop:=∃L',JD n L L'/\fk E L' a b/\Fr E.bs w b
def N.lw(U:N)(t:Nat)(s:O):N:={U with d:=U.d.set t (.tx s)}
theorem N.rp{t:Nat}{s d:O}(h:U.d[t]?=H (.tx d))(i:Nat):(U.lw t s).h i=U.h i:=by grind[N.h,N.lw]
theorem N.tW{t:Nat}{s d:O}(h:U.d[t]?=H (.tx d))(x:fW):(U.lw t s).dO x=U.dO x:=by
 cases x with
 |none=>rfl
 |some i=>show((U.lw t s).h i).isSome=(U.h i).isSome;grind[rp]
def N.UD{t:Nat}{s d:O}(h:U.d[t]?=H (.tx d))(x:fW):(U.lw t s).lj x=U.lj x:=by
 cases x with
 |none=>rfl
 |some i=>exact N.tW h (H i)
theorem N.Iv{t:Nat}{s d:O}(h:U.d[t]?=H (.tx d))(k:Nd):(U.lw t s).q k=U.q k:=by
 have q:(U.lw t s).d[t]?=H (.tx s):=by simp[N.lw,((dG.1 h).1)]
 have n:∀j,j≠t->(U.lw t s).d[j]?=U.d[j]?:=λj l=>by grind[N.lw]
 cases k with
 |el j=>exact N.tW h (H j)
 |tx j=>grind[N.q]
 |cm j=>grind[N.q]
 |dt j=>grind[N.q]
theorem I9(h:fk E L U w){m t:Nat}{A s:O}(p:U.h i=H ei)(y:m<ln ei.q)(f:ei.q[m]=.tx t)(q:U.d[t]?=H (.tx A))(v:A.size+s.size<=1048576):dS 176 #[place (L.K i) (m+1),Y s] w λe Q=>e=pG/\To E L (U.lw t (A++s)) w Q:=by
 refine(Nh E.bs _ m (L.K t) _ A s _ _ _ _ w (h.zI p) (by grind) (by grind[Nd.map]) (h.B t _ q) v).mono ?_;rintro e Q⟨rfl,hb,hk⟩;have o:=h.B t _ q;have r:KT E.bs [138,140,280] w Q:=.q hk (λx f _=>by simp at f;subst f;exact⟨⟨_,_,_,o,by simp⟩,h.X t (dG.1 q).1⟩);refine⟨D,L,D,h.ajh r (λ_ _=>D) D D D ?_ h.inj ?_ ?_ ?_ ?_ ?_ ?_,r.d (by decide)⟩;intro x nd d;by_cases a0:t=x;subst a0;simp[N.lw,((dG.1 q).1)]at d;rw[<-d];exact hb;have a1:=by simpa [N.lw,a0]using d
 have l:=(dG.1 a1).1;refine(h.B x nd a1).kept hk ?_ ?_ ?_;simp;exact λe=>a0 (h.inj _ _ e.symm);intro g j n;simp at n;have⟨c,m',h1⟩:=h.F8 l j;rw[n]at h1;exact absurd (afB o h1) (by decide);intro g j n;simp at n;have⟨c,m',h1⟩:=h.PD l j;rw[n]at h1;exact absurd (afB o h1) (by decide)
 simpa [N.lw]using h.b
 intro x l d;rw[N.rp q]at d;exact h.m x (by simpa [N.lw]using l) d;intro a b e g ha u a3 a2 j;rw[N.rp q]at ha;exact h.T a b e g ha u (by simpa [N.lw]using a3) a2 j;intro x l d;rw[N.rp q]at d;exact h.f x (by simpa [N.lw]using l) d;refine⟨λx f=>by rw[N.UD q];exact h.wf.A x f,λx f=>by rw[N.tW q];exact h.wf.B x f,by rw[N.tW q];exact h.wf.head,by rw[N.tW q];exact h.wf.j,λi e p=>by grind[N.tW,Wf.E,fk.wf,N.rp],λi e p k hk=>by grind[N.Iv,Wf.q,fk.wf,N.rp],by grind[N.rp,Wf.u,fk.wf]⟩;intro hf x g l;exact h.c hf x g (by simpa [N.lw]using l)
def LZ(h:fk E L U w){n:Nat}{s:O}(A:U.h i=H ei)(g:n<=ln ei.q)(hl:ln ei.q<1048576)(p:∀m,(f:m<ln ei.q)->n=m+1->∀t,ei.q[m]≠ .tx t):dS 176 #[place (L.K i) n,Y s] w λe Q=>e=pG/\Too E L (ln U.d) ((U.add (.tx s)).l i {ei with q:=ins ei.q n (.tx (ln U.d))}) w Q:=by
 have l:=N.n A;refine QV E.bs _ n _ s _ _ _ _ w (h.zI A) (by simpa using g) _ ?_ ?_;intro w1 hk;have h1:=(h.h hk).amc (.tx s) s (.inl D);have c:JD (ln U.d) L (L.new (ln U.d) w1.heap.size (gq) (gq)):=λj b=>pi.h b;have a:(U.add (.tx s)).h i=H ei:=by rw[N.oj l];exact A
 have q:(U.add (.tx s)).q (.tx (ln U.d))=C:=by simp[N.q,N.add]
 have:=L6 h1 (n:=n) (k:=.tx (ln U.d)) a q (λj e=>by cases e) g hl;rw[c i l]at this;simp only[Nd.map,pi.d]at this;refine this.mono ?_;rintro e Q⟨rfl,k,e2,_,o,hf,_⟩;exact⟨D,k,λj b=>by rw[e2];exact c j b,o,(Fr.h (hk.alloc _)).trans hf⟩;intro m f a1 t d;have a0:m<ln ei.q:=by simpa using f
 rw[List.getElem_map]at d;cases hq:ei.q[m]with
 |tx t'=>exact p m a0 a1 t' hq
 |el _=>rw[hq]at d;cases d
 |cm _=>rw[hq]at d;cases d
 |dt _=>rw[hq]at d;cases d
inductive TK
 |fI (s:O)
 |start (name:O)
 |stop (name:O)
 |dz (s:O)
 |eG (name:O) (q:Bool)
 |ic
 |dZ
structure dj where
 a:Nat
 b:Nat
 k:TK
 A:iB:=[]
def dj.name(t:dj):O:=match t.k with
 | .start n=>n
 | .stop n=>n
 |_=>⟨#[]⟩
def dj.h(t:dj):iB:=match t.k with
 | .start _=>t.A
 | .stop _=>t.A
 |_=>[]
def dj.d(t:dj):O:=match t.k with
 | .fI s=>s
 |_=>⟨#[]⟩
def kN(s:O):Bool:=fG s ⟨#[0]⟩
def fP(s:O):Bool:=cZ [⟨#[32]⟩,⟨#[9]⟩,AW,⟨#[12]⟩] s
namespace N
def nm(U:N)(i:Nat):O:=match U.h i with
 |some e=>e.name
 |none=>⟨#[]⟩
def l7(U:N):fW->O
 |some i=>U.nm i
 |none=>⟨#[]⟩
def last(U:N):fW:=dT U.A ((ln U.A:Int)-1)
def gV(U:N)(p:O->Bool):Bool:=match U.last with
 |none=>I
 |some i=>p (U.nm i)
def pop(U:N):N:={U with A:=U.A.dropLast}
def Io(U:N)(p:O->Bool):N:=if U.gV p then U.pop else U
def xq(U:N)(p:O->Bool):iU->iU
 |[]=>[]
 |x::r=>if p (U.l7 x)then r else xq U p r
def BE(U:N)(p:O->Bool):N:={U with A:=(xq U p U.A.reverse).reverse}
def mW(U:N)(p:O->Bool):iU->iU
 |[]=>[]
 |x::r=>if p (U.l7 x)then mW U p r else x::r
def qv(U:N)(p:O->Bool):N:={U with A:=(mW U (λs=>!(p s||cZ [aC] s)) U.A.reverse).reverse}
def kM(U:N):N:={U with A:=(mW U uF U.A.reverse).reverse}
def px(U:N)(p b:O->Bool):iU->Bool
 |[]=>I
 |x::r=>if p (U.l7 x)then C else if b (U.l7 x)then I else px U p b r
def gH(U:N)(p b:O->Bool):Bool:=px U p b U.A.reverse
def nF(U:N)(d:Nat):iU->Bool
 |[]=>I
 |x::r=>if x=H d then C else if eP (U.l7 x)then I else nF U d r
def nD(U:N)(d:Nat):Bool:=nF U d U.A.reverse
def close(U:N)(p b:O->Bool):N:=if U.gH p b then U.BE p else U
end N
def DR:O->Bool:=λs=>eP s||cZ [eu] s
def aiN:O->Bool:=λs=>eP s||cZ [iK] s
def zf:O->Bool:=cZ [aC,aH]
def qS:O->Bool:=cZ [aH,cO,cH,cX,dK]
def alL(x:fW):M Nat:=λU=>match x with
 |some i=>if (U.h i).isSome then .ok i U else .stuck
 |none=> .stuck
def fM(i:Nat):M (Nat×Nat):=λU=>match U.h i with
 |some e=> .ok (i,ln e.q) U
 |none=> .stuck
def oq(U:N):iU->Option (fW)
 |[]=>F
 |x::r=>if !fG (U.l7 x) aH||x=dT U.A 0 then oq U r else H x
def pj.isOk{a:Type}:pj a->Bool
 | .ok _ _=>C
 |_=>I
def kL(i:Nat):M (Nat×Nat):=λU=>match U.h i with
 |some e=>match e.E with
  |some p=>match U.h p with
   |some ep=>if 0<=oS ep.q (Nd.dO i)then .ok (p,(oS ep.q (Nd.dO i)).toNat) U else .stuck
   |none=> .stuck
  |none=>match dT U.A (jf U.A (H i)-1)with
   |some q=>fM q U
   |none=> .stuck
 |none=> .stuck
def N.Fh(U:N):Bool:=U.A.all λx=>match x with
 |some i=>!fG (U.nm i) aH||decide (H i=dT U.A 0)||(kL i U).isOk
 |none=>I
def gJ:M (Nat×Nat):=λU=>if U.Fh then (match oq U U.A.reverse with
 |some (H i)=>kL i U
 |some F=> .stuck
 |none=>match dT U.A 0 with
  |some q=>fM q U
  |none=> .stuck)else .stuck
theorem ol(h:fM i U=.ok pl σ1):σ1=U:=by grind[fM]
theorem MV(h:kL i U=.ok pl σ1):σ1=U:=by grind[ol,kL]
theorem ny(h:gJ U=.ok pl σ1):σ1=U:=by grind[MV,ol,gJ]
def iS(i:Nat):M (Nat×Nat):=λU=>if U.U&&qS (U.nm i)then gJ U else fM i U
def ja:M (Nat×Nat):=λU=>match U.last with
 |some i=>iS i U
 |none=> .stuck
def jz(pl:Nat×Nat)(j:Nat):M Unit:=λU=>match U.h pl.1,U.h j with
 |some ei,H ej=>if j≠pl.1/\pl.2<=ln ei.q/\(ln ei.q)<1048576 then .ok () ((U.l pl.1 {ei with q:=ins ei.q pl.2 (.el j)}).l j {ej with E:=H pl.1})else .stuck
 |_,_=> .stuck
def wB(pl:Nat×Nat)(k:Nd):M Unit:=λU=>match U.h pl.1 with
 |some ei=>if U.q k=C/\pl.2<=ln ei.q/\(ln ei.q)<1048576 then .ok () (U.l pl.1 {ei with q:=ins ei.q pl.2 k})else .stuck
 |none=> .stuck
def qd(pl:Nat×Nat)(s:O):M Unit:=λU=>match U.h pl.1 with
 |some ei=>if pl.2<=ln ei.q/\(ln ei.q)<1048576 then
   match (if pl.2=0 then F else ei.q[pl.2-1]?)with
   |some (.tx t)=>match U.d[t]? with
    |some (.tx old)=>if old.size+s.size<=1048576 then .ok () (U.lw t (old++s))else .stuck
    |_=> .stuck
   |_=> .ok () ((U.add (.tx s)).l pl.1 {ei with q:=ins ei.q pl.2 (.tx (ln U.d))})
  else .stuck
 |none=> .stuck
def nK(x:fW):M Unit:=λU=>if U.Q<=ln U.A then .stop 5 U.K else if U.lj x then .ok () {U with A:=U.A++[x]} else .stuck
def j5(j:Nat):M Unit:=do
 let pl <-ja
 jz pl j
 nK (H j)
 return ()
def Ic(d:O):M Nat:=λU=> .ok (ln U.d) (U.add (.el {name:=d,A:=[],E:=F,q:=[]}))
def dj.l6(t:dj):Bool:=match t.k with
 | .start _=>C
 | .stop _=>C
 |_=>I
def jN(t:dj):M Nat:=λU=>if U.E&&t.l6 then .ok (ln U.d) (U.il (.el {name:=t.name,A:=t.h,E:=F,q:=[]}) I)else .stuck
def iD(d:O):M Unit:=do
 let j <-Ic d
 j5 j
 return ()
def eE(t:dj):M Unit:=do
 let j <-jN t
 j5 j
 return ()
def wU:M (fW):=λU=> .ok U.last U.pop
def jA(t:dj):M Unit:=do
 eE t
 let _ <-wU
 return ()
def gh(t:dj):M Unit:=do
 let pl <-ja
 qd pl t.d
 return ()
theorem fk.drewN(h:fk E L U w)(q:Nat):fk E L U (w.drewN q):=h.h ((Z.refl _ _).drewN q)
theorem Fr.drewN(w:J)(q:Nat):Fr bs w (w.drewN q):=.h ((Z.refl _ _).drewN q)
def iO(w:J)(k c p:Nat):Prop:=w.heap[k]?=H (dr #[G c,G p] 81)
abbrev qi(k:Nat):Ending:=.panicked [{v:=.iface 76 (dq k),recovered:=I}]
abbrev Bp(E:fS):dB:=dq E.A
def Re(h:fk E L U w)(c:Nat):dS 264 #[Bp E,G c] w λe Q=>∃k,e=qi k/\iO Q k c U.K/\Fr E.bs w Q:=by
 have n:=h.VV;have l:=h.lt;have d:=Fr.h (bs:=E.bs) ((Z.refl [] w).alloc (dr #[G c,G U.K] 81));go_enter func264,ntmps264;go_wp2;exact⟨D,_,D,(aY w (dr #[G c,G U.K] 81)),d⟩
def fk.Gc(h:fk E L U w):Ao ⟨E.A,188,F⟩ w=ln U.A:=by have⟨B,hL,_⟩:=h.yT;rw[hL.Ao,Fz]
def vF(a:iU)(y:fW):dT (a++[y]) ((ln (a++[y]):Int)-1)=y:=Kv a y
def ad6:dT ([]:iU) ((ln ([]:iU):Int)-1)=F:=rfl
theorem wD(a:iU):a=[]\/∃d y,a=d++[y]:=by
 rcases W9 a with h|⟨zs,y,h⟩
 all_goals grind
theorem fk.nJ(h:fk E L U w)(d:x∈U.A):∃i e,x=H i/\U.h i=H e:=by
 have:=h.wf.A x d;cases x with
 |none=>cases this
 |some i=>
  have⟨e,he⟩:=dh.1 (this);grind
def fk.uR(h:fk E L U w)(d:U.h i=H e):w.cell? ⟨L.K i,0,F⟩=H (Y (U.nm i)):=by
 have:U.nm i=e.name:=by unfold N.nm;rw[d]
 rw[this,aF (h.zI d).dP];rfl
def Ask.h(h:Ask bm v p w)(d:Fr bs w Q):Ask bm v p Q:=h.d (d.n bm)
def yM(h:fk E L U w)(v:dB)(p:O->Bool)(A:Ask E.bm v p w):dS 214 #[Bp E,v] w λe Q=>e=ff (.bool (U.gV p))/\Q=w:=by
 obtain⟨k,g,rfl,f,a⟩:=A.call;have l:=Xc h;rcases wD U.A with n|⟨j,y,n⟩
 .have d:U.gV p=I:=by unfold N.gV N.last;rw[n];rfl
  rw[d];rw[n,ad6]at l;have q:=V l;clear l;go_enter func214,ntmps214;go_wp21;refine q.mono ?_;rintro e Q⟨rfl,rfl⟩;go_wp2;go_ret;simp
 .obtain⟨i,c,rfl,b⟩:=h.nJ (x:=y) (by rw[n];simp);have d:U.gV p=p (U.nm i):=by unfold N.gV N.last;rw[n,vF]
  rw[d];rw[n,vF]at l;have c0:=h.uR b;have q:=V (show Calls prog 173 #[gU E.A 188] w (λe Q=>e=ff (dq (L.K i))/\Q=w)from l);have s:=a w (yD.refl _ _) (U.nm i);generalize p (U.nm i)=r at s|-;clear l;go_enter func214,ntmps214;go_wp21;refine q.mono ?_;rintro e Q⟨rfl,rfl⟩;go_wp21;refine s.mono ?_;rintro e Q⟨rfl,rfl⟩;go_wp2;go_ret;simp
structure Po(E:fS)(L:pi)(σ:N)(w:J)(ys:iU)(wr:J):Prop where
 ex:∃L1,L1.K=L.K/\fk E L1 {σ with A:=ys} wr/\Fr E.bs w wr
theorem aig(h:fk E L U w)(v:dB)(p:O->Bool)(ha:Ask E.bm v p w):dS 287 #[Bp E,v] w λe Q=>e=pG/\To E L (U.BE p) w Q:=by
 obtain⟨k,J,rfl,I,t⟩:=ha.call;have r:Hid (Po E L U w U.A w):=V ⟨L,D,h,Fr.refl w⟩;go_enter func287,ntmps287;go_wp2
 go_loopw [] (λwr=>∃a,U.xq p a.reverse=U.xq p U.A.reverse/\Po E L U w a wr) (λwr=>Ao ⟨E.A,188,F⟩ wr)
 case atStart=>exact⟨_,D,r⟩
 case round=>
  have⟨a,hu,⟨L1,e1,hR,HFR⟩⟩:=hrel;have g:=V e1;clear e1;have j:=V hR.Gc;have q:=V8 hR;have b:=T6 hR;rcases wD a with rfl|⟨zs,y,rfl⟩
  .have c:Hid (To E L (U.BE p) w wr):=by
    refine⟨L1,g,?_,HFR⟩;have:(U.xq p U.A.reverse).reverse=[]:=by rw[<-hu];rfl
    unfold N.BE;rw[this];exact hR
   clear hR hu;go_wp21;refine q.mono ?_;rintro e Q⟨rfl,rfl⟩;go_wp2;go_end0;exact⟨D,c⟩
  .obtain⟨i,z,rfl,a1⟩:=hR.nJ (x:=y) (by simp);have a3:U.xq p ((zs++[H i]).reverse)=if p (U.nm i)then zs.reverse else U.xq p zs.reverse:=by rw[ZU];rfl
   rw[a3]at hu;have C:0<ln (zs++[H i]):=by simp
   dsimp only at q b;rw[vF]at b;have a0:=(show Calls prog 178 #[gU E.A 188] wr (λe Q=>e=ff (dq (L1.K i))/\To E L1 {U with A:=(zs++[H i]).dropLast} wr Q)from b);have f:=V hu;have n:(0:Int)<(ln (zs++[H i]):Int):=by omega
   obtain⟨m,o⟩:∃m,m=ln (zs++[H i]):=⟨_,D⟩;have bI:=V (show m=ln zs+1 by rw[o];simp);dsimp only at j;rw[<-o]at q n j;clear hR hu;go_wp21;refine q.mono ?_;rintro e Q⟨rfl,rfl⟩;go_wp21;refine a0.mono ?_;rintro e A⟨rfl,x,e2,d,l⟩;rw[Pe]at d;have a2:N.h {U with A:=zs} i=H z:=a1;have c0:A.cell? ⟨L1.K i,0,F⟩=H (Y (U.nm i)):=by rw[<-e2];exact d.uR a2
   have s:=t A ((HFR.trans l).n _) (U.nm i);have G:=V d.Gc;have u:Hid (Po E L U w zs A):=⟨x,e2.trans g,d,HFR.trans l⟩;clear d;cases hq:p (U.nm i)with
   |true=>
    rw[hq]at s f;have c:Hid (To E L (U.BE p) w A):=by
     have⟨L3,e3,hR3,hf3⟩:=u.ex;refine⟨L3,e3,?_,hf3⟩;have:(U.xq p U.A.reverse).reverse=zs:=by rw[<-f.out,dw D,List.reverse_reverse]
     unfold N.BE;rw[this];exact hR3
    go_wp21;refine s.mono ?_;rintro e Q⟨rfl,rfl⟩;go_wp2
    (try simp only[Exit.inBlock,Exit.then])
    refine mL (II D _ _ _) D ?_;exact⟨D,c⟩
   |false=>
    rw[hq]at s f;go_wp21;refine s.mono ?_;rintro e Q⟨rfl,rfl⟩;go_wp2;grind[Hid.out]
def T7(bm:Nat)(d:List O)(w:J)(h:ln d<=4096):dS 219 #[lO w.heap.size (ln d) (ln d)] (w.alloc (dr (d.map dQ).toArray 9)) λe Q=>∃f a l,e=ff (.func f a l)/\Ask bm (.func f a l) (cZ d) Q/\Z [] w Q:=by
 refine(WR bm _ _ d _ (aY w _) h).mono ?_;rintro e Q⟨⟨v,rfl,n⟩,q⟩;obtain⟨k,s,rfl,_,_⟩:=n.call;exact⟨_,_,_,D,n,(((Z.refl [] w).alloc _).trans q)⟩
theorem ai3(bm:Nat)(b c:dB)(p q:O->Bool)(w:J)(j:Ask bm b p w)(k:Ask bm c q w):dS 239 #[b,c] w λe Q=>∃f a l,e=ff (.func f a l)/\Ask bm (.func f a l) (λs=>p s||q s) Q/\Z [] w Q:=by
 refine((show Calls prog 239 #[b,c] w λe Q=>(∃v,e=ff v/\Ask bm v (λs=>p s||q s) Q)/\Z [] w Q by obtain⟨n,U,c1⟩:=j;obtain⟨A,a2,c2⟩:=k;refine(Y0 (.inl ⟨D,D,D⟩) n A b c p q w U a2).mono ?_;rintro e Q⟨⟨v,rfl,ha,g,i⟩,h⟩;exact⟨⟨v,D,_,ha,OB (.inr ⟨_,_,g,by decide⟩) (.inr ⟨_,_,i,by decide⟩) (λe d=>(c1 e d).d (.h h)) (λe d=>(c2 e d).d (.h h))⟩,h⟩)).mono ?_
 grind[Ask.call]
def Ask.k0(h:Ask bm v p w)(d:Z [] w Q):Ask bm v p Q:=h.d (.h d)
theorem VZ(h:fk E L U w)(f:Fn)(a l:io)(p:O->Bool)(ha:Ask E.bm (.func f a l) p w):dS 216 #[Bp E,.func f a l] w λe Q=>e=pG/\To E L (U.qv p) w Q:=by
 have ag:=h;have M:=ha;have bI:=T7 E.bm [aC] w (by decide);go_enter func216,ntmps216;go_wp21;refine bI.mono ?_;rintro e w1⟨f1,a1,l1,rfl,T,a3⟩;have G:=ai3 E.bm _ _ _ _ w1 (M.k0 a3) T;go_wp21;refine G.mono ?_;rintro e w2⟨f2,a2,l2,rfl,a0,ab⟩;have u:=a3.trans ab;have K:=ag.h u;obtain⟨q,z⟩:∃q,q=(λs=>p s||cZ [aC] s):=⟨_,D⟩;rw[<-z]at a0;have v:Hid (∀wr,(∃b,b.K=L.K/\fk E b {U with A:=(U.mW (λs=>!q s) U.A.reverse).reverse} wr/\Fr E.bs w wr)->To E L (U.qv p) w wr):=by
  rintro wr⟨b,e1,d,hf⟩;refine⟨b,e1,?_,hf⟩;unfold N.qv
  rwa [z]at d
 have J:Hid (Po E L U w U.A w2):=V ⟨L,D,K,.h u⟩;go_wp2
 go_loopw [] (λwr=>∃g,U.mW (λs=>!q s) g.reverse=U.mW (λs=>!q s) U.A.reverse/\Fr E.bs w2 wr/\Po E L U w g wr) (λwr=>Ao ⟨E.A,188,F⟩ wr)
 case atStart=>exact⟨_,D,Fr.refl _,J⟩
 case round=>
  have⟨g,hu,hf2,⟨b,E1,d,hf⟩⟩:=hrel;have t:=V d.Gc;have c:=V8 d;have r:=yM d _ _ (a0.h hf2);rcases wD g with rfl|⟨zs,y,rfl⟩
  .have j:Hid (To E L (U.qv p) w wr):=by
    refine v wr ⟨b,E1,?_,hf⟩;have:(U.mW (λs=>!q s) U.A.reverse).reverse=[]:=by rw[<-hu];rfl
    rw[this];exact d
   clear d hu;go_wp21;refine c.mono ?_;rintro e Q⟨rfl,rfl⟩;go_wp2;go_end0;exact⟨D,j⟩
  .obtain⟨i,P,rfl,R⟩:=d.nJ (x:=y) (by simp);have W:U.mW (λs=>!q s) ((zs++[H i]).reverse)=if (!q (U.nm i))=C then U.mW (λs=>!q s) zs.reverse else H i::zs.reverse:=by rw[ZU];rfl
   rw[W]at hu;have aI:N.gV {U with A:=zs++[H i]} q=q (U.nm i):=by unfold N.gV N.last;rw[vF];rfl
   rw[aI]at r;have A:=r;have k:=V hu;have S:=hf;have bC:=hf2;have I:=T6 d;obtain⟨m,o⟩:∃m,m=ln (zs++[H i]):=⟨_,D⟩;have ad:(0:Int)<(m:Int):=by rw[o];simp
   have X:=V (show m=ln zs+1 by rw[o];simp);dsimp only at t c;rw[<-o]at c t;cases hqq:q (U.nm i)with
   |true=>
    rw[hqq]at A k;have j:Hid (To E L (U.qv p) w wr):=by
     refine v wr ⟨b,E1,?_,hf⟩;have:(U.mW (λs=>!q s) U.A.reverse).reverse=zs++[H i]:=by rw[<-k.out];simp
     rw[this];exact d
    clear d hu;go_wp21;refine c.mono ?_;rintro e Q⟨rfl,rfl⟩;go_wp21;refine A.mono ?_;rintro e Q⟨rfl,rfl⟩;go_wp2;go_end0;exact⟨D,j⟩
   |false=>
    rw[hqq]at A k;clear d hu;go_wp21;refine c.mono ?_;rintro e Q⟨rfl,rfl⟩;go_wp21;refine A.mono ?_;rintro e Q⟨rfl,rfl⟩;go_wp21;refine I.mono ?_;rintro e w3⟨rfl,aJ,e2,n,x⟩
    try dsimp only at n
    rw[Pe]at n;have B:=V n.Gc;have Y:Hid (Po E L U w zs w3):=⟨aJ,e2.trans E1,n,S.trans x⟩;have Z:=bC.trans x;clear n;go_wp2;grind[Hid.out]
def fk.Jz(h:fk E L U w):∃f a l,w.cell? ⟨E.A,184,F⟩=H (.func f a l)/\Ask E.bm (.func f a l) kg w:=by have⟨v,hv,ha⟩:=h.env.spec;obtain⟨k,d,rfl,_,_⟩:=ha.call;exact⟨_,_,_,h.low (by decide) hv,ha.h h.d⟩
def fk.bounds(h:fk E L U w):∃f a l,w.cell? ⟨E.A,186,F⟩=H (.func f a l)/\Ask E.bm (.func f a l) eP w:=by have⟨v,hv,ha⟩:=h.env.B;obtain⟨k,d,rfl,_,_⟩:=ha.call;exact⟨_,_,_,h.low (by decide) hv,ha.h h.d⟩
theorem KF(h:fk E L U w):dS 282 #[Bp E] w λe Q=>e=pG/\To E L U.kM w Q:=by
 have u:Hid (Po E L U w U.A w):=V ⟨L,D,h,Fr.refl w⟩;have a0:Hid (∀wr,(∃c,c.K=L.K/\fk E c {U with A:=(U.mW uF U.A.reverse).reverse} wr/\Fr E.bs w wr)->To E L U.kM w wr):=by rintro wr⟨c,e1,d,hf⟩;exact⟨c,e1,d,hf⟩
 generalize hq:uF=q at a0;have x:=V hq;clear hq;go_enter func282,ntmps282;go_wp2
 go_loopw [] (λwr=>∃g,U.mW q g.reverse=U.mW q U.A.reverse/\Po E L U w g wr) (λwr=>Ao ⟨E.A,188,F⟩ wr)
 case atStart=>exact⟨_,D,u⟩
 case round=>
  have⟨g,hu,⟨c,E1,d,hf⟩⟩:=hrel;have p:=V d.Gc;have⟨f1,a1,l1,c1,ha1⟩:=(show∃f a l,wr.cell? ⟨E.A,185,F⟩=H (.func f a l)/\Ask E.bm (.func f a l) uF wr by have⟨v,hv,ha⟩:=d.env.A;obtain⟨k,aJ,rfl,_,_⟩:=ha.call;exact⟨_,_,_,d.low (by decide) hv,ha.h d.d⟩)
  rw[x.out]at ha1;have b:=yM d _ _ ha1;rcases wD g with rfl|⟨zs,y,rfl⟩
  .have j:Hid (To E L U.kM w wr):=by
    refine a0 wr ⟨c,E1,?_,hf⟩;have:(U.mW q U.A.reverse).reverse=[]:=by rw[<-hu];rfl
    rw[this];exact d
   have A:N.gV {U with A:=[]} q=I:=rfl;rw[A]at b;have n:=V b;clear d hu b;go_wp21;refine n.mono ?_;rintro e Q⟨rfl,rfl⟩;go_wp2;go_end0;exact⟨D,j⟩
  .obtain⟨i,M,rfl,O⟩:=d.nJ (x:=y) (by simp);have bI:U.mW q ((zs++[H i]).reverse)=if q (U.nm i)=C then U.mW q zs.reverse else H i::zs.reverse:=by rw[ZU];rfl
   rw[bI]at hu;have A:N.gV {U with A:=zs++[H i]} q=q (U.nm i):=by unfold N.gV N.last;rw[vF];rfl
   rw[A]at b;have n:=V b;have o:=V hu;have a2:=hf;have t:=T6 d;obtain⟨m,r⟩:∃m,m=ln (zs++[H i]):=⟨_,D⟩;have G:=V (show m=ln zs+1 by rw[r];simp);dsimp only at p;rw[<-r]at p;cases hqq:q (U.nm i)with
   |false=>
    rw[hqq]at n o;have j:Hid (To E L U.kM w wr):=by
     refine a0 wr ⟨c,E1,?_,hf⟩;have:(U.mW q U.A.reverse).reverse=zs++[H i]:=by rw[<-o.out];simp
     rw[this];exact d
    clear d hu b;go_wp21;refine n.mono ?_;rintro e Q⟨rfl,rfl⟩;go_wp2;go_end0;exact⟨D,j⟩
   |true=>
    rw[hqq]at n o;clear d hu b;go_wp21;refine n.mono ?_;rintro e Q⟨rfl,rfl⟩;go_wp21;refine t.mono ?_;rintro e w3⟨rfl,z,e2,s,a3⟩
    try dsimp only at s
    rw[Pe]at s;have K:=V s.Gc;have J:Hid (Po E L U w zs w3):=⟨z,e2.trans E1,s,a2.trans a3⟩;clear s;go_wp2;grind[Hid.out]
end
end Go.Proofs.YtcalkelgoekpfaaGreatDoor
