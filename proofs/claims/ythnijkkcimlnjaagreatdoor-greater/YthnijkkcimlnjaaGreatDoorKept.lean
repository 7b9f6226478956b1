import Derived.WalkSpells
import Derived.WalkLawsBesides
import Derived.Lib.AppendZerosOnto
import Derived.Shelf.Spec.SlicesInsert
import Derived.RangeFuncNested
import Derived.RangeFuncBound
import Derived.Shelf.RegionOpen
import Derived.OwnWalkIn
import Derived.LoopNIn
import Derived.LoopIn
import Derived.Deep.RegionHeld3
import Derived.Test.YthnijkkcimlnjaaGreatDoorShelf
import Derived.Lib.ItoaMem
import Derived.Laws.EntriesVeiled
import Derived.Great.BuildSlice
set_option linter.unusedSimpArgs false
set_option linter.unusedVariables false
set_option linter.defProp false
set_option maxHeartbeats 0
set_option maxRecDepth 100000
namespace Go.Proofs.YthnijkkcimlnjaaGreatDoor
open Go.RowKit Tryz
def dr:=@Nat.le_refl
def fK:=@Nat.le_trans
def kL:=@Nat.lt_of_lt_of_le
def afm:=@World.cell?_of_block
def eS:=@lt_of_block
def QJ:=@List.eq_nil_of_length_eq_zero
def mh:=@World.ownsRow_nil
def cZ:=@if_neg
def dd:=@if_pos
def QK:=@List.getElem?_take
def qP:=@run_underlying
def tu:=@decide_eq_true
def xz:=@decide_eq_false
def sd:=@List.getElem_mem
def tW:=@wp_loop_rounds
def mg:=@rounds_succ
def anv:=@List.take_succ_eq_append_getElem
def rQ:=@info_parts
def Ze:=@List.getElem?_drop
def D9:=@Nat.mul_one
def Lh:=@List.mem_of_mem_drop
def xA:=@Array.getElem?_eq_getElem
def se:=@List.append_assoc
def GF:=@List.take_append_of_le_length
def Om:=@List.take_take
def UK:=@Nat.min_eq_left
def Zf:=@run_callFunc_extern
def Ag:=@List.take_of_length_le
def Li:=@List.drop_of_length_le
def xB:=@List.append_nil
def tw:=@List.nil_append
def Zg:=@run_copy_cells
def je:=@Option.some.inj
def wj:=@Ne.symm
def xC:=@ownsRow_setCell_other
def io:=@List.mem_cons_of_mem
def afn:=@List.dropLast_eq_take
def lV:=@List.map_append
def Zh:=@List.map_take
def qQ:=@List.mem_of_getElem?
def afo:=@List.eq_nil_or_concat
def Zi:=@List.dropLast_concat
def nr:=@bodyPost_ret
def GG:=@results_none
def rR:=@World.putObj_heap_other
def vI:=@List.size_toArray
def sg:=@List.length_cons
def tX:=@List.length_nil
def vJ:=@Array.replicate_succ
def vK:=@Array.replicate_zero
def vL:=@List.push_toArray
def vM:=@List.append_toArray
def oW:=@List.cons_append
def pU:=@List.getElem?_eq_getElem
def GH:=@List.take_add_one
def vN:=@ByteArray.toList_eq
def xD:=@World.size_alloc
def oX:=@congrArg
def UL:=@Array.size_setIfInBounds
def Lj:=@MapKept.run_getObj_map
def afp:=@Array.getElem?_toList
def afq:=@List.filter_eq_nil_iff
def oY:=@Bool.and_eq_true
def UM:=@List.mem_filter
def UN:=@Array.getD_eq_getD_getElem?
def Oo:=@List.mem_cons_self
def gG:=@List.getD_eq_getElem?_getD
def Ea:=@List.getElem?_append_left
def afr:=@List.all_eq_true
def UO:=@List.mem_range
def UP:=@Array.getElem?_eq_none
def tz:=@wp_region_any
def jO:=@wpOp_step
def afs:=@decide_eq_true_eq
def yQ:=@Nat.zero_le
def dH:=@Nat.lt_or_ge
def oZ:=@List.map_cons
def si:=@List.nodup_cons
def UQ:=@List.mem_cons
def pW:=@List.not_mem_nil
def pX:=@or_false
def rS:=@Array.getElem?_setIfInBounds
def yR:=@List.map_reverse
def Zj:=@List.dropWhile_sublist
def amo:=@Function.comp_def
def Zk:=@List.length_map
def GJ:=@List.mem_of_mem_erase
def yS:=@List.getElem?_eq_none
def aft:=@List.map_congr_left
def Zl:=@Nat.le_of_eq
abbrev O:=ByteArray
abbrev J:=World
abbrev cY:=Value
abbrev iD:=List (ByteArray×ByteArray)
abbrev gZ:=List (Option Nat)
abbrev eG:=Option Nat
abbrev fN:=Array Value
@[simp,go_sem] abbrev gU:ByteArray:=⟨#[]⟩
@[simp,go_sem] abbrev xE:ByteArray:=⟨#[10]⟩
@[simp,go_sem] abbrev qA:ByteArray:=⟨#[100,100]⟩
@[simp,go_sem] abbrev jZ:ByteArray:=⟨#[100,105,118]⟩
@[simp,go_sem] abbrev qB:ByteArray:=⟨#[100,116]⟩
@[simp,go_sem] abbrev fO:ByteArray:=⟨#[102,111,114,109]⟩
@[simp,go_sem] abbrev bZ:ByteArray:=⟨#[104,101,97,100]⟩
@[simp,go_sem] abbrev jt:ByteArray:=⟨#[104,105,100,100,101,110]⟩
@[simp,go_sem] abbrev qC:ByteArray:=⟨#[104,114]⟩
@[simp,go_sem] abbrev aG:ByteArray:=⟨#[104,116,109,108]⟩
@[simp,go_sem] abbrev px:ByteArray:=⟨#[104,49]⟩
@[simp,go_sem] abbrev py:ByteArray:=⟨#[104,50]⟩
@[simp,go_sem] abbrev mZ:ByteArray:=⟨#[105,109,103]⟩
@[simp,go_sem] abbrev fL:ByteArray:=⟨#[105,110,112,117,116]⟩
@[simp,go_sem] abbrev nN:ByteArray:=⟨#[108,105]⟩
@[simp,go_sem] abbrev dR:ByteArray:=⟨#[109,101,116,97]⟩
@[simp,go_sem] abbrev lz:ByteArray:=⟨#[110,111,116,105,110,59]⟩
@[simp,go_sem] abbrev km:ByteArray:=⟨#[110,111,116,105,110,69,59]⟩
@[simp,go_sem] abbrev lA:ByteArray:=⟨#[110,111,116,110,105,59]⟩
@[simp,go_sem] abbrev fu:ByteArray:=⟨#[110,111,98,114]⟩
@[simp,go_sem] abbrev cD:ByteArray:=⟨#[111,112,116,103,114,111,117,112]⟩
@[simp,go_sem] abbrev dj:ByteArray:=⟨#[111,112,116,105,111,110]⟩
@[simp,go_sem] abbrev dx:ByteArray:=⟨#[111,98,106,101,99,116]⟩
@[simp,go_sem] abbrev nO:ByteArray:=⟨#[112]⟩
@[simp,go_sem] abbrev gu:ByteArray:=⟨#[115,101,108,101,99,116]⟩
@[simp,go_sem] abbrev eX:ByteArray:=⟨#[115,116,121,108,101]⟩
@[simp,go_sem] abbrev dE:ByteArray:=⟨#[116,100]⟩
@[simp,go_sem] abbrev ju:ByteArray:=⟨#[116,101,120,116,97,114,101,97]⟩
@[simp,go_sem] abbrev cF:ByteArray:=⟨#[116,102,111,111,116]⟩
@[simp,go_sem] abbrev dF:ByteArray:=⟨#[116,104]⟩
@[simp,go_sem] abbrev cM:ByteArray:=⟨#[116,104,101,97,100]⟩
@[simp,go_sem] abbrev nP:ByteArray:=⟨#[116,105,109,101,115]⟩
@[simp,go_sem] abbrev kq:ByteArray:=⟨#[116,105,109,101,115,98,59]⟩
@[simp,go_sem] abbrev fM:ByteArray:=⟨#[116,105,116,108,101]⟩
@[simp,go_sem] abbrev dq:ByteArray:=⟨#[116,114]⟩
@[simp,go_sem] abbrev lp:ByteArray:=⟨#[116,121,112,101]⟩
@[simp,go_sem] abbrev aV:ByteArray:=⟨#[116,97,98,108,101]⟩
@[simp,go_sem] abbrev cJ:ByteArray:=⟨#[116,98,111,100,121]⟩
@[simp,go_sem] abbrev vO:ByteArray:=⟨#[117,108]⟩
@[simp,go_sem] abbrev sO:ByteArray:=⟨#[194,160]⟩
@[simp,go_sem] abbrev nQ:ByteArray:=⟨#[226,139,185,204,184]⟩
@[simp,go_sem] abbrev kU:ByteArray:=⟨#[32,9,10,12]⟩
@[simp,go_sem] abbrev eW:ByteArray:=⟨#[32,9,10,12,47,62]⟩
@[simp,go_sem] abbrev nR:ByteArray:=⟨#[32,9,10,12,47,62,61]⟩
@[simp,go_sem] abbrev jK:ByteArray:=⟨#[32,9,10,12,62]⟩
@[simp,go_sem] abbrev jv:ByteArray:=⟨#[33,100,111,99,116,121,112,101]⟩
@[simp,go_sem] abbrev nc:ByteArray:=⟨#[34]⟩
@[simp,go_sem] abbrev qR:ByteArray:=⟨#[35]⟩
@[simp,go_sem] abbrev tY:ByteArray:=⟨#[38]⟩
@[simp,go_sem] abbrev pz:ByteArray:=⟨#[38,103,116,59]⟩
@[simp,go_sem] abbrev jL:ByteArray:=⟨#[38,108,116,59]⟩
@[simp,go_sem] abbrev nf:ByteArray:=⟨#[38,110,98,115,112,59]⟩
@[simp,go_sem] abbrev l6:ByteArray:=⟨#[38,113,117,111,116,59]⟩
@[simp,go_sem] abbrev kE:ByteArray:=⟨#[38,97,109,112,59]⟩
@[simp,go_sem] abbrev qS:ByteArray:=⟨#[39]⟩
@[simp,go_sem] abbrev lX:ByteArray:=⟨#[45,45,62]⟩
@[simp,go_sem] abbrev xF:ByteArray:=⟨#[45,62]⟩
@[simp,go_sem] abbrev ou:ByteArray:=⟨#[60]⟩
@[simp,go_sem] abbrev j5:ByteArray:=⟨#[60,33,45,45]⟩
@[simp,go_sem] abbrev dS:ByteArray:=⟨#[60,33,68,79,67,84,89,80,69,32]⟩
@[simp,go_sem] abbrev nX:ByteArray:=⟨#[60,47]⟩
@[simp,go_sem] abbrev xG:ByteArray:=⟨#[61,34]⟩
@[simp,go_sem] abbrev eA:ByteArray:=⟨#[62]⟩
@[simp,go_sem] abbrev jx:ByteArray:=⟨#[78,101,119,76,105,110,101,59]⟩
@[simp,go_sem] abbrev xH:ByteArray:=⟨#[97]⟩
@[simp,go_sem] abbrev aZ:ByteArray:=⟨#[98,111,100,121]⟩
@[simp,go_sem] abbrev jM:ByteArray:=⟨#[98,114]⟩
@[simp,go_sem] abbrev dN:ByteArray:=⟨#[98,117,116,116,111,110]⟩
@[simp,go_sem] abbrev dz:ByteArray:=⟨#[99,111,108]⟩
@[simp,go_sem] abbrev bY:ByteArray:=⟨#[99,111,108,103,114,111,117,112]⟩
@[simp,go_sem] abbrev ku:ByteArray:=⟨#[99,111,112,121,115,114,59]⟩
@[simp,go_sem] abbrev cO:ByteArray:=⟨#[99,97,112,116,105,111,110]⟩
abbrev cW(b:Nat):Value:=.pointer (some ⟨b,0,none⟩)
abbrev fR(b k:Nat):Value:=.pointer (some ⟨b,k,none⟩)
abbrev G(n:Int):Value:=.int .i64 n
abbrev dw(v:Value):Ending:=.returned v
abbrev nu:Ending:=.returned (.tuple #[])
abbrev ky(b n c:Nat):Value:=.slice (some ⟨b,0,none⟩) n c
abbrev gq:Value:=.slice none 0 0
abbrev cV(c:Array Value)(t:TypeId):Obj:=.cells c t (0,0)
abbrev Y(s:ByteArray):Value:=.string s
section
variable {C c:fN}{K S:List Nat}{T:List TypeId}{W a cw cw' w w' w1:J}{X:Nat->Prop}{ao:Option Addr}{av kv u v v' v0 v1 v2 v3 v4 v5 v6 v7 v8 v9:cY}{b bB bD base bm bs cap g i j k pf s:Nat}{cs:List cY}{f:Nat->Nat}{m:Nat×Nat}{name:O}{p:O->Bool}{ff x y:eG}{t tB:TypeId}{xs zs:gZ}{z:Array Bool}
theorem V{p:Prop}(h:p):Hid p:=h
structure Z(S:List Nat)(w w':J):Prop where
 os:w'.os=w.os
 tape:w'.tape=w.tape
 output:w'.output=w.output
 size:w.heap.size<=w'.heap.size
 block:∀k,k<w.heap.size->k∉S->w'.heap[k]?=w.heap[k]?
theorem Z.refl(S:List Nat)(w:J):Z S w w:=⟨rfl,rfl,rfl,dr _,by grind⟩
theorem Z.trans{b c:J}(h:Z S a b)(k:Z S b c):Z S a c:=
 ⟨k.os.trans h.os,k.tape.trans h.tape,k.output.trans h.output,fK h.size k.size,λi d l=>(k.block i (kL d h.size) l).trans (h.block i d l)⟩
theorem Z.mono{S':List Nat}(h:Z S w w')(hs:∀k,k∈S->k<w.heap.size->k∈S'):Z S' w w':=
 ⟨h.os,h.tape,h.output,h.size,λk d n=>h.block k d (λl=>n (hs k l d))⟩
theorem Z.next{S':List Nat}{b c:J}(h:Z S a b)(k:Z S' b c)(hs:∀x∈S',x∈S\/a.heap.size<=x):Z S a c:=
 ⟨k.os.trans h.os,k.tape.trans h.tape,k.output.trans h.output,fK h.size k.size,λi d l=>(k.block i (kL d h.size) (λn=>by grind)).trans (h.block i d l)⟩
def Z.drew(h:Z S a w):Z S a w.drew:=⟨h.os,h.tape,h.output,h.size,h.block⟩
theorem Z.drewN(h:Z S a w)(q:Nat):Z S a (w.drewN q):=⟨h.os,h.tape,h.output,h.size,h.block⟩
theorem Z.alloc(h:Z S a w)(o:Obj):Z S a (w.alloc o):=
 ⟨h.os,h.tape,h.output,fK h.size (by simp),λk d l=>(Below.heap_alloc w o k (kL d h.size)).trans (h.block k d l)⟩
theorem Z.setCell(h:Z S a w){p:Addr}(l:p.block∈S\/a.heap.size<=p.block)(u:cY):Z S a (w.setCell p u):=
 ⟨h.os,h.tape,h.output,by simpa using h.size,λk d n=>by
  grind[Below.heap_setCell,block]⟩
theorem Z.grown{l:eG}(h:Z S a w)(d:w.grownBy w' l)(A:∀k,l=some k->k∈S\/a.heap.size<=k):Z S a w':=
 ⟨d.os.trans h.os,d.tape.trans h.tape,d.output.trans h.output,fK h.size d.size,λk n q=>by
  exact(d.block k (kL n h.size) (by grind)).trans (h.block k n q)⟩
theorem Z.below(h:Z S w w'){B:Nat}(d:B<=w.heap.size)(hs:∀k∈S,B<=k):Below B w w':=
 ⟨h.os,h.tape,h.output,h.size,λk l=>h.block k (kL l d) (λn=>by grind)⟩
theorem Z.cell(h:Z S w w'){p:Addr}(d:p.block<w.heap.size)(hs:p.block∉S):w'.cell? p=w.cell? p:=afm (h.block _ d hs)
theorem Z.at(h:Z S w w'){o:Obj}(d:w.heap[k]?=some o)(hs:k∉S):w'.heap[k]?=some o:=
 (h.block k (eS d) hs).trans d
theorem wR{a:Nat}{n cb:fN}{d l:TypeId}{q A:Nat×Nat}(D:w.heap[a]?=some (.cells n d q))(H:w.heap[b]?=some (.cells cb l A))(h:d≠l):a≠b:=by
 grind
theorem aY(w:J)(o:Obj):(w.alloc o).heap[w.heap.size]?=some o:=by
 show(w.heap.push o)[w.heap.size]?=some o;simp
theorem Z.ownsRow(h:Z S w w'){e:TypeId}{d:Nat}{n:Nat}{xs:List cY}(H:w.ownsRow base e d v n xs)(hs:∀k,v.ownBlock=some k->k∉S):w'.ownsRow base e d v n xs:=by
 have⟨h1,q⟩:=H;refine⟨h1,?_⟩;rcases q with q|⟨g,cap,l,rfl,A,D,I⟩;grind;exact .inr ⟨g,cap,l,rfl,A,(h.at D (hs g rfl)),I⟩
section
variable {P:Program}(w:J)
theorem gS{w:J}{base d:Nat}{e:TypeId}{l:Nat}{v:cY}{n:Nat}{xs:List cY}(h:w.ownsRow base e l v n xs)(D:d<=base):w.ownsRow d e l v n xs:=by
 have⟨h1,A⟩:=h;refine⟨h1,?_⟩;rcases A with A|⟨g,cap,q,rfl,H,I⟩;grind;exact .inr ⟨g,cap,q,rfl,fK D H,I⟩
def Po{w w':J}{d:eG}(h:w.grownBy w' none):w.grownBy w' d:=⟨h.os,h.tape,h.output,h.size,λk l _=>h.block k l (by simp)⟩
def yN(base:Nat)(t ty e:TypeId)(i:TypeInfo)(z:cY)(d H:Nat)(ht:P.underlying t=some (.slice e))(hi:P.info? e=some i)(hz:i.zero=some z)
  (A:i.size=d) (a1:i.bytes=H) (a3:z.cells.size=d) (a2:0<d)
  (v:cY) (n:Nat) (xs:List cY) (l:w.ownsRow base e d v n xs)
  (a:Addr) (m c:Nat) (h:List cY) (hl:h.length=m*d) (q:∀j u,h[j]?=some u->w.cell? (a.add j)=some u) (h1:∀u∈h,u.oneCell'=true)
  (a0:n+m<=maxLen) (D:(n+m)*H<=140737488355328) (I:base<=w.heap.size):
  ∃v' w',(Builtin.append_ #[t,t] ty #[v,.slice (some a) m c]).run P w=.ok v' w'/\w'.ownsRow base e d v' (n+m) (xs++h)/\w.grownBy w' v.ownBlock/\
   (v'.ownBlock=v.ownBlock\/∀k,v'.ownBlock=some k->w.heap.size<=k):=by
 rcases l.2 with⟨rfl,rfl⟩|⟨g,cap,a5,rfl,a6,hg,a9,a7,a8,a4⟩;have hx:=QJ (by simpa using l.1);subst hx;have⟨v',w',hr,ho,hgr,_⟩:=run_append_own w _ t ty e i z d _ ht hi hz A a1 a3 a2 _ 0 [] (mh _ _ _ _) a m c h hl q h1 a0 D (dr _);exact⟨v',w',hr,gS ho I,hgr,.inr λk hk=>(ho.lt k hk).1⟩;by_cases U:n+m<=cap;have⟨w',hr,ho,hgr⟩:=run_append_fits w base t ty e i d ht hi A g n cap xs l a m c h hl q h1 U;exact⟨_,w',hr,ho,hgr,.inl rfl⟩;have⟨v',w',hr,ho,hgr⟩:=run_append_arg_grows w t ty e i z d _ ht hi hz A a1 a3 a2 _ n cap xs l.1 (l.cells rfl) a m c h hl q (by omega) a0 D;exact⟨v',w',hr,gS ho I,Po hgr,.inr λk hk=>(ho.lt k hk).1⟩
def fw{ops:Array Oper}{rest:List Oper}{o:Oper}{a:Act}{Q:Exit->Act->J->Prop}(a2:o.guard=none)(s x:Operand)(t:TypeId)
  (ho:o.op=.call {callee:=.builtin .append,args:=#[s,x],argTypes:=#[t,t]})
  (base:Nat) (e:TypeId) (i:TypeInfo) (z:cY) (d q:Nat) (ht:P.underlying t=some (.slice e)) (hi:P.info? e=some i) (hz:i.zero=some z)
  (I:i.size=d) (a1:i.bytes=q) (a4:z.cells.size=d) (a3:0<d)
  (v:cY) (n:Nat) (xs:List cY) (hs:a.eval s=v) (U:w.ownsRow base e d v n xs)
  (ad:Addr) (m c:Nat) (l:List cY) (hx:a.eval x=.slice (some ad) m c) (hl:l.length=m*d) (H:∀j u,l[j]?=some u->w.cell? (ad.add j)=some u) (h1:∀u∈l,u.oneCell'=true)
  (a0:n+m<=maxLen) (A:(n+m)*q<=140737488355328) (D:base<=w.heap.size)
  (h:∀v' w',w'.ownsRow base e d v' (n+m) (xs++l)->w.grownBy w' v.ownBlock->(v'.ownBlock=v.ownBlock\/∀k,v'.ownBlock=some k->w.heap.size<=k)->wpList P ops Q rest (a.put o.dst v') w'):wpList P ops Q (o::rest) a w:=by
 refine wpList_plain a2 λ_ hK=>?_;have⟨v',w',hr,h2,h3,h4⟩:=yN w base t o.type e i z d _ ht hi hz I a1 a4 a3 v n xs U ad m c l hl H h1 a0 A D;unfold Oper.wp execOp;simp[ho,resolve,invoke,builtin,hs,hx,hr];exact hK _ _ (h v' w' h2 h3 h4)
end
def iq(s:O):List cY:=s.data.toList.map λb=>Value.int .u8 b.toNat
def afx(s:O):(iq s).length=s.size:=by
 simp[iq]
def Ly(s t:O):iq (s++t)=iq s++iq t:=by
 simp[iq]
theorem Vb(s:O):∀u∈iq s,u.oneCell'=true:=by
 intro u d;simp[iq]at d;obtain⟨b,_,rfl⟩:=d;rfl
def aN(h:w.heap[b]?=some (cV c t))(j:Nat):w.cell? ⟨b,j,none⟩=c[j]?:=by simp[World.cell?,h]
theorem cQ(h:w.heap[b]?=some (cV c t))(j:Nat):w.frozen? ⟨b,j,none⟩=false:=by simp[World.frozen?,h]
theorem bJ(h:w.heap[b]?=some (cV c t))(j:Nat)(u:cY):(w.setCell ⟨b,j,none⟩ u).heap[b]?=some (cV (c.setIfInBounds j u) t):=by
 simp[World.setCell];grind
theorem cP{e:TypeId}{d:Nat}{n:Nat}{xs:List cY}(l:w.ownsRow base e d v n xs):∃ao cap,v=.slice ao n cap:=by
 rcases l.2 with⟨rfl,q⟩|⟨g,cap,h,rfl,_⟩
 all_goals grind
theorem eL(g j:Nat):(⟨g,0,none⟩:Addr).add j=⟨g,j,none⟩:=by unfold Addr.add;grind
def ptr(x:eG):Option Addr:=x.map λk=>⟨k,0,none⟩
abbrev ig(x:eG):cY:=.pointer (ptr x)
def dA(xs:gZ)(n:Int):eG:=if 0<=n/\n<xs.length then xs.getD n.toNat none else none
structure uX(base b j:Nat)(tB:TypeId)(C:fN)(v:cY)(xs:gZ)(w:J):Prop where
 du:w.heap[b]?=some (cV C tB)
 cell:C[j]?=some v
 row:w.ownsRow base 68 1 v xs.length (xs.map ig)
 ne:tB≠68
 le:xs.length<=4096
theorem uX.at(h:uX base b j tB C v xs w):w.cell? ⟨b,j,none⟩=some v:=by rw[aN h.du];exact h.cell
def aiH(base b j:Nat)(tB:TypeId)(C:fN)(v:cY)(xs:gZ)(w:J)(h:uX base b j tB C v xs w):
  Calls prog 263 #[fR b j] w λe w'=>e=dw (G xs.length)/\w'=w:=by
 have d:=h.at;obtain⟨ao,cap,rfl⟩:=cP h.row;clear h;go_enter func263,ntmps263;go_wp2;go_ret;simp
theorem adN(base b j:Nat)(tB:TypeId)(C:fN)(v:cY)(xs:gZ)(n:Int)(w:J)(h:uX base b j tB C v xs w):
  Calls prog 242 #[fR b j,G n] w λe w'=>e=dw (ig (dA xs n))/\w'=w:=by
 have U:=h.at;have H:=h.le;by_cases h0:n<0
 .obtain⟨ao,cap,rfl⟩:=cP h.row;have q:dA xs n=none:=by unfold dA;rw[cZ (by omega)]
  rw[q];go_enter func242,ntmps242;go_wp2;go_ret;exact⟨rfl,rfl⟩
 by_cases h1:(xs.length:Int)<=n
 .obtain⟨ao,cap,rfl⟩:=cP h.row;have q:dA xs n=none:=by unfold dA;rw[cZ (by omega)]
  rw[q];go_enter func242,ntmps242;go_wp2;go_ret;exact⟨rfl,rfl⟩
 obtain⟨k,rfl⟩:∃k:Nat,n=k:=⟨n.toNat,by omega⟩;have D:k<xs.length:=by omega
 have q:dA xs k=xs[k]:=by unfold dA;rw[dd (by omega)];simp[D]
 rw[q];rcases h.row.2 with⟨_,e0⟩|⟨g,cap,A,rfl,_,l,I,_,_,d⟩;omega;have c2:w.cell? ⟨g,k,none⟩=some (ig xs[k]):=by
  rw[aN l];have:(A.toList.take (xs.length*1))[k]?=some (ig xs[k]):=by rw[d];simp[D]
  rw[QK]at this;split at this;grind;omega
 go_enter func242,ntmps242;go_wp2;go_ret;simp
def posOf(xs:gZ)(x:eG):Int:=if xs.idxOf x<xs.length then (xs.idxOf x:Int)else -1
def rT(w:J)(x:eG):Prop:=∀k,x=some k->∃c,w.heap[k]?=some (cV c 139)
def X7:(prog.info? 139).map (·.size)=some 4:=by kernel_rfl
def Ja:prog.underlying 68=some (.pointer (prog.pointee 68)):=by kernel_rfl
theorem Br(q:rT w x)(A:rT w y):
  (binOp .eql 68 (.pointer (ptr x)) (.pointer (ptr y))).run prog w=.ok (.bool (decide (x=y))) w:=by
 obtain⟨j,l,n⟩:=Option.map_eq_some_iff.1 X7;cases x with
 |none=>
  cases y with
  |none=>exact run_eql_pointer_nil (P:=prog) w 68 none Ja
  |some b=>
   have h:∀d:Nat,(Op.equalIn (d+1) 68 (.pointer none) (cW b)).run prog w=.ok false w:=λd=>by
    simp[Op.equalIn,qP underlying68]
   show(binOp .eql 68 (.pointer none) (cW b)).run prog w=.ok (.bool false) w;simp only[binOp];simp[Op.equal,Op.maxDepth,h 9999]
 |some a=>
  cases y with
  |none=>exact run_eql_pointer_nil (P:=prog) w 68 (some ⟨a,0,none⟩) Ja
  |some b=>
   by_cases h:a=b;subst h;rw[tu rfl];exact run_eql_ptr_same (P:=prog) w (⟨a,0,none⟩:Addr) underlying68 l;have⟨ca,ha⟩:=q a rfl;have⟨cb,hb⟩:=A b rfl;rw[xz (by grind)];exact run_eql_ptr_other (P:=prog) w underlying68 l (by omega) (by simp) ha hb
def ai9(v:cY)(xs:gZ)(w:J):Prop:=((xs=[]/\∃ao cap,v=.slice ao 0 cap)\/∃g cap,v=ky g xs.length cap/\∀k,(hk:k<xs.length)->w.cell? ⟨g,k,none⟩=some (ig xs[k]))/\∀x∈xs,rT w x
theorem agv(A:w.ownsRow base 68 1 v xs.length (xs.map ig))(n:∀x∈xs,rT w x):ai9 v xs w:=by
 refine⟨?_,n⟩;rcases A.2 with⟨rfl,D⟩|⟨g,cap,h,rfl,_,d,q,_,_,l⟩;grind;refine .inr ⟨g,cap,rfl,λk H=>?_⟩;rw[aN d];have:(h.toList.take (xs.length*1))[k]?=some (ig xs[k]):=by grind
 grind
theorem aeu(n:k<xs.length)(D:xs[k]=x)(h:∀j,j<k->xs[j]?≠some x):posOf xs x=k:=by
 have H:xs.idxOf x=k:=by
  have A:=List.idxOf_lt_length_iff.2 (D▸sd n);have l:¬xs.idxOf x<k:=λd=>h _ d (by grind);have q:¬k<xs.idxOf x:=λd=>by
   have:=List.not_of_lt_findIdx (p:=(·==x)) (xs:=xs) (i:=k) (by simpa [List.idxOf]using d);grind
  omega
 grind[posOf]
theorem aev(d:∀j,j<xs.length->xs[j]?≠some x):posOf xs x= -1:=by
 grind[posOf]
theorem EH(v:cY)(xs:gZ)(x:eG)(w:J)(h:ai9 v xs w)(q:rT w x)(a1:xs.length<=4096):
  Calls prog 266 #[v,ig x] w λe w'=>e=dw (G (posOf xs x))/\w'=w:=by
 rcases h with⟨⟨rfl,ao,cap,rfl⟩|⟨g,cap,rfl,I⟩,HE⟩
 .go_enter func266,ntmps266;go_wp2;refine tW 1 ?_;rw[mg];go_wp2;go_ret;simp[posOf]
 .have HC:=I;have HX:=q;clear I q;have n:∀k,(A:k<xs.length)->(binOp .eql 68 (.pointer (ptr x)) (.pointer (ptr xs[k]))).run prog w=.ok (.bool (decide (x=xs[k]))) w:=λk A=>Br HX (HE _ (sd A));have HQ:=V n;clear n;go_enter func266,ntmps266;go_wp2
  go_loopw [8] (λi wr=>∃k:Nat,k<=xs.length/\i=G k/\wr=w/\∀j,j<k->xs[j]?≠some x) (λi _=>xs.length-(intOf i).toNat)
  case atStart=>grind
  case round=>
   obtain⟨k,A,rfl,rfl,H⟩:=hrel;by_cases d:k<xs.length
   .have c2:=HC k d;have U:=HQ k d;by_cases l:x=xs[k]
    .have D:=V (aeu d l.symm H);rw[tu l]at U;clear l;go_wp2;go_ret;exact⟨by rw[D.out];rfl,rfl⟩
    .rw[xz l]at U;have a0:=l;clear l;go_wp2;go_roundw
     case rel=>
      refine⟨k+1,by omega,by go_num,by simp,λj hj=>?_⟩;grind
     case measure=>simp[intOf];omega
   .have D:=V (aev (xs:=xs) (x:=x) (λj hj=>H j (by omega)));go_wp2;go_ret;exact⟨by rw[D.out];rfl,rfl⟩
def fI:fN->Nat->List cY->fN
 |c,_,[]=>c
 |c,o,v::r=>fI (c.setIfInBounds o v) (o+1) r
theorem fU:∀(d:List cY)(c:fN)(o:Nat),(fI c o d).size=c.size
 |[],_,_=>rfl
 |v::r,c,o=>by rw[fI,fU r];simp
theorem il:∀(d:List cY)(c:fN)(o:Nat),o+d.length<=c.size->(fI c o d).toList=c.toList.take o++d++c.toList.drop (o+d.length)
 |[],c,o,_=>by simp[fI]
 |v::r,c,o,h=>by
  rw[fI,il r _ _ (by grind)];grind[List.take_succ_eq_append_getElem,List.take_set_of_le,List.drop_set_of_lt]
theorem ie:∀(d:List cY)(w:J)(g:Nat)(c:fN)(t:TypeId)(m:Nat×Nat)(o:Nat),w.heap[g]?=some (.cells c t m)->(w.setCells g o d).heap[g]?=some (.cells (fI c o d) t m)
 |[],_,_,_,_,_,_,h=>h
 |v::r,w,g,c,t,m,o,h=>by
  refine ie r _ g _ t m _ ?_;simp[World.setCell];grind
def Z.setCells(d:b∈S\/a.heap.size<=b):∀(l:List cY)(o:Nat){w:J},Z S a w->Z S a (w.setCells b o l)
 |[],_,_,h=>h
 |v::r,o,w,h=>by exact Z.setCells d r _ (h.setCell d v)
def agK:(prog.info? 68).map (λi=>(i.zero,i.size,i.bytes))=some (some (.pointer none),1,8):=by kernel_rfl
theorem acL{l:List cY}{n:Nat}(d:i<j)(h:j<=n)(q:n<=l.length):
  ((l.take i++(l.take n).drop j++l.drop (i+(n-j))).take (n-(j-i)))=(l.take n).take i++(l.take n).drop j:=by
 grind[List.length_take]
theorem ajE(g cap i j n:Nat)(q:fN)(w:J)(H:w.heap[g]?=some (cV q 68))(ac:n<=cap)(ad:q.size=cap)(hi:i<j)(hj:j<=n)(ab:n<=4096)
  (h1:∀u∈q.toList.take n,u.oneCell'=true):
  Calls prog 267 #[ky g n cap,G i,G j] w λe w'=>e=dw (ky g (n-(j-i)) cap)/\
   ∃I,w'.heap[g]?=some (cV I 68)/\I.size=cap/\I.toList.take (n-(j-i))=(q.toList.take n).take i++(q.toList.take n).drop j/\Z [g] w w':=by
 obtain⟨i0,a5,ae,a7,af⟩:=rQ agK;obtain⟨d,D⟩:∃d,d=(q.toList.take n).drop j:=⟨_,rfl⟩;have U:d.length=n-j:=by rw[D];simp;omega
 have a2:∀t u,d[t]?=some u->q[j+t]?=some u:=by
  intro t u hu;rw[D,Ze,QK]at hu;split at hu;grind;cases hu
 obtain⟨A,hA,a3⟩:∃A:Addr,(if cap=j then some (⟨g,0,none⟩:Addr)else some ⟨g,j,none⟩)=some A/\Hid (∀t u,d[t]?=some u->w.drew.cell? (A.add t)=some u):=by
  by_cases h:cap=j;refine⟨⟨g,0,none⟩,by simp[h],λt u hu=>?_⟩;grind;refine⟨⟨g,j,none⟩,by simp[h],λt u hu=>?_⟩;rw[show(⟨g,j,none⟩:Addr).add t=⟨g,j+t,none⟩from by unfold Addr.add;simp];exact(aN H _).trans (a2 t u hu)
 have s1:Hid (d.length=(n-j)*1):=by rw[D9];exact U
 have s2:Hid (∀u∈d,u.oneCell'=true):=λu hu=>h1 u (Lh (D▸hu));have s3:Hid (∀t,t<d.length->(w.drew.cell? ⟨g,0+i*1+t,none⟩).isSome=true/\w.drew.frozen? ⟨g,0+i*1+t,none⟩=false):=by
  intro t ht;rw[U]at ht;refine⟨?_,cQ H _⟩;show(w.cell? _).isSome=true;rw[aN H,xA (by omega)];rfl
 obtain⟨W1,a0⟩:∃W1,W1=w.drew.setCells g (0+i*1) d:=⟨_,rfl⟩;have a1:W1.heap[g]?=some (cV (fI q (0+i*1) d) 68):=by rw[a0];exact ie d w.drew g q _ _ _ H
 have a4:Z [g] w W1:=by rw[a0];exact Z.setCells (.inl (by simp)) d _ (Z.refl _ _).drew
 have a8:∀ty,(Builtin.clear_ #[173] ty #[.slice (some ⟨g,i+(n-j),none⟩) (n-(i+(n-j))) (cap-(i+(n-j)))]).run prog W1=.ok (.tuple #[]) (W1.setCells g (i+(n-j)) (List.replicate (n-(i+(n-j))) (.pointer none))):=
  λty=>Lib.run_clear_slice W1 _ _ ty _ underlying173 Tryz.zeroValue68 rfl rfl g (i+(n-j)) _ _ (by omega) (λt ht=>by rw[aN a1,xA (by grind[fU])];rfl) (λt ht=>cQ a1 _)
 have HB:=ie (List.replicate (n-(i+(n-j))) (Value.pointer none)) W1 g _ _ _ (i+(n-j)) a1;have HK:=Z.setCells (S:=[g]) (a:=w) (b:=g) (.inl (by simp)) (List.replicate (n-(i+(n-j))) (Value.pointer none)) (i+(n-j)) a4;have a6:=il (List.replicate (n-(i+(n-j))) (Value.pointer none)) (fI q (0+i*1) d) (i+(n-j)) (by grind[fU]);have HF:(fI (fI q (0+i*1) d) (i+(n-j)) (List.replicate (n-(i+(n-j))) (Value.pointer none))).toList.take (n-(j-i))=(q.toList.take n).take i++(q.toList.take n).drop j:=by
  rw[a6,se,GF (by simp[fU];omega),(il _ _ _ (by omega)),U,D];rw[Om,UK (by omega)];have:=acL (l:=q.toList) hi hj (by grind)
  simpa using this
 have HW:=V a0;have a9:i<=cap:=by omega
 have aa:j<=cap:=by omega
 clear a0;go_enter func267,ntmps267;go_wp2_with fail
 go_region_law (refine step_append_room rfl (.tmp 22) (.tmp 25) 173 rfl 68 i0 1 underlying173 a5 a7 g 0 i cap (by simp[Act.eval,Act.put]) A (n-j) (cap-j) d (by simp[Act.eval,Act.put]) s1 a3 s2 (by omega) s3 ?_;rw[<-HW.out])
 go_wp2;go_ret;exact⟨by rw[show n-(j-i)=i+(n-j) by omega];rfl,_,HB,by grind[fU],HF,HK⟩
def ajV:(prog.info? 68).map (λi=>(i.zero,i.size,i.bytes))=some (some (.pointer none),1,8):=by kernel_rfl
def IK(T S F Or B:Nat)(z:cY):Prop:=(T=68/\S=173/\F=381/\Or=383/\B=8/\z=.pointer none)\/(T=141/\S=137/\F=260/\Or=313/\B=16/\z=.nilIface)
section
variable {T S F Or B:Nat}{z:cY}
def IK.ady(K:IK T S F Or B z):(prog.info? T).map (λi=>(i.zero,i.size,i.bytes))=some (some z,1,B)/\prog.underlying S=some (.slice T)/\(prog.info? T).map (·.size)=some 1/\(∀w,(sizeOf T).run prog w=.ok 1 w)/\∀a w,(callFunc Or a).run prog w=((Extern.SlicesOverlaps.overlaps #[S,S] #[4] a).run prog w).andThen λv w'=> .ok (.value v) w':=by
 rcases K with⟨rfl,rfl,rfl,rfl,rfl,rfl⟩|⟨rfl,rfl,rfl,rfl,rfl,rfl⟩;exact⟨by kernel_rfl,underlying173,by kernel_rfl,Tryz.sizeOf68,Zf func383 (by kernel_rfl) (by kernel_rfl) (by kernel_rfl) (by kernel_rfl)⟩;exact⟨by kernel_rfl,underlying137,by kernel_rfl,Tryz.sizeOf141,Zf func313 (by kernel_rfl) (by kernel_rfl) (by kernel_rfl) (by kernel_rfl)⟩
def abX(T base:Nat)(v:cY)(n i:Nat)(xs:List cY)(u:cY)(w:J)(e:Ending)(w':J):Prop:=
 ∃v',e=dw v'/\w'.ownsRow base T 1 v' (n+1) (xs.take i++[u]++xs.drop i)/\Z v.ownBlock.toList w w'/\(v'.ownBlock=v.ownBlock\/∀k,v'.ownBlock=some k->w.heap.size<=k)
theorem aar(K:IK T S F Or B z)(base n U:Nat)(v u:cY)(xs:List cY)(w:J)(l:w.ownsRow base T 1 v n xs)(hv:w.heap[U]?=some (cV #[u] T))(hu:u.oneCell'=true)(a2:n<=1048576)(hb:base<=w.heap.size):
  Calls prog F #[v,G n,ky U 1 1] w (abX T base v n n xs u w):=by
 obtain⟨i0,hi,D,H,I⟩:=rQ K.ady.1;have HU:=K.ady.2.1;obtain⟨ao,cap,rfl⟩:=cP l;have a1:xs.length=n:=by have:=l.1;omega
 have HV:=V hv;clear hv;rcases K with⟨rfl,rfl,rfl,rfl,rfl,rfl⟩|⟨rfl,rfl,rfl,rfl,rfl,rfl⟩
 all_goals
  by_cases a0:cap=n;subst a0;have HO:=V l;clear l
  first|go_enter func381,ntmps381|go_enter func260,ntmps260
  go_wp2_with (at_builtin;refine fw _ rfl _ _ _ rfl base _ i0 _ 1 _ HU hi D H I rfl (by decide) (.slice ao cap cap) cap xs rfl HO ⟨U,0,none⟩ 1 1 [u] rfl rfl (λj x A=>by rw[eL,aN HV.out,<-A];simp) (λx A=>by grind) (by unfold maxLen;omega) (by omega) hb ?_;intro v' w2 h d q);have HG:=(Z.refl (Value.slice ao cap cap).ownBlock.toList w).grown d (λk hk=> .inl (by grind))
  rotate_left
  have HO:=V l;clear l
  first|go_enter func381,ntmps381|go_enter func260,ntmps260
  go_wp2_with (at_builtin;refine fw _ rfl _ _ _ rfl base _ i0 _ 1 _ HU hi D H I rfl (by decide) (.slice ao n cap) n xs rfl HO ⟨U,0,none⟩ 1 1 [u] rfl rfl (λj x A=>by rw[eL,aN HV.out,<-A];simp) (λx A=>by grind) (by unfold maxLen;omega) (by omega) hb ?_;intro v' w2 h d q);have HG:=(Z.refl (Value.slice ao n cap).ownBlock.toList w).grown d (λk hk=> .inl (by grind))
  all_goals
   have HN:=h;have HF:=q;go_wp2;go_ret;refine⟨_,rfl,?_,HG,HF⟩;rw[Ag (by omega),Li (by omega),xB];exact HN
theorem Wd{l:List cY}{n i:Nat}{u:cY}{c:fN}(d:c.toList.take n=l)(D:n+1<=c.size)(A:i<n):
  (fI (fI c (i+1) (l.drop i)) i [u]).toList.take (n+1)=l.take i++[u]++l.drop i:=by
 have q:l.length=n:=by rw[<-d];simp;omega
 have h:=il (l.drop i) c (i+1) (by grind);rw[il [u] _ i (by rw[fU];grind),h];have e1:(c.toList.take (i+1)++l.drop i++c.toList.drop (i+1+(l.drop i).length)).take i=l.take i:=by
  rw[se,GF (by grind),Om,UK (by omega),<-d,Om,UK (by omega)]
 have e2:(c.toList.take (i+1)++l.drop i++c.toList.drop (i+1+(l.drop i).length)).drop (i+[u].length)=l.drop i++c.toList.drop (i+1+(l.drop i).length):=by
  rw[se,List.drop_append_of_le_length (by grind),Li (by grind),tw]
 rw[e1,e2,<-se,GF (by grind),Ag (by grind)]
theorem SA(K:IK T S F Or B z)(base g cap n i D:Nat)(u:cY)(h:fN)(xs:List cY)(w:J)(a7:base<=g)(d:w.heap[g]?=some (cV h T))(a0:h.toList.take n=xs)(ac:h.size=cap)(hm:cap<=maxLen)
  (ab:n+1<=cap) (hi:i<n) (hv:w.heap[D]?=some (cV #[u] T)) (a9:D≠g) (hu:u.oneCell'=true) (h1:∀x∈xs,x.oneCell'=true) (ai:n<=1048576):
  Calls prog F #[ky g n cap,G i,ky D 1 1] w (abX T base (ky g n cap) n i xs u w):=by
 have a4:xs.length=n:=by rw[<-a0];simp;omega
 obtain⟨_,HU,a6,HZ,HP⟩:=K.ady;have aa:∀lb cb,(callFunc Or #[ky D 1 1,.slice (some ⟨g,i+1,none⟩) lb cb]).run prog w=.ok (.value (.bool false)) w:=λlb cb=>by
  rw[HP,Lib.run_overlaps_apart w S 4 T HU 1 HZ ⟨D,0,none⟩ ⟨g,i+1,none⟩ 1 1 lb cb a9 T T 1 cap (by simp[World.shape?,hv]) (by simp[World.shape?,d,ac]) (by omega) (cQ hv 0) (cQ hv 1)];rfl
 have a5:∀j,j<cap->(w.cell? ⟨g,j,none⟩).isSome=true:=λj H=>by rw[aN d,xA (by omega)];rfl
 have a8:∀j x,xs[j]?=some x->w.cell? ⟨g,j,none⟩=some x:=λj x H=>by
  rw[aN d];grind
 have ah:(xs.drop i).length=n-i:=by rw[List.length_drop,a4]
 obtain⟨l,A⟩:∃l,l=w.drew.setCells g (i+1) (xs.drop i):=⟨_,rfl⟩;have a2:∀ty I sc,(Builtin.copy_ #[S,S] ty #[.slice (some ⟨g,i+1,none⟩) (n-i) I,.slice (some ⟨g,i,none⟩) (n+1-i) sc]).run prog w.drew=.ok (goInt (xs.drop i).length) l:=λty I sc=>by
  rw[A];exact Zg w.drew _ _ ty T g (i+1) (n-i) I ⟨g,i,none⟩ (n+1-i) sc (xs.drop i) HU a6 (by grind)
   (λj x H=>by rw[Addr.add_lit];simp_all)
   (λj H=>a5 _ (by omega)) (λj H=>cQ d _) (λx hx=>h1 x (Lh hx))
 have q:l.heap[g]?=some (cV (fI h (i+1) (xs.drop i)) T):=by rw[A];exact ie (xs.drop i) w.drew g h _ _ _ d
 have U:Z [g] w l:=by rw[A];exact Z.setCells (.inl (by simp)) _ _ (Z.refl _ _).drew
 have a1:l.heap[D]?=some (cV #[u] T):=U.at hv (by grind);have a3:∀ty I,(Builtin.copy_ #[S,S] ty #[.slice (some ⟨g,i,none⟩) (n+1-i) I,ky D 1 1]).run prog l=.ok (goInt 1) (l.setCells g i [u]):=λty I=>
  Zg l _ _ ty T g i (n+1-i) I ⟨D,0,none⟩ 1 1 [u] HU a6 (by grind)
   (λj x H=>by rw[eL,aN a1,<-H];simp)
   (λj H=>by rw[aN q,xA (by rw[fU];grind)];rfl) (λj H=>cQ q _) (λx hx=>by grind)
 have HB:=ie [u] l g _ _ _ i q;have HK:=Z.setCells (S:=[g]) (a:=w) (b:=g) (.inl (by simp)) [u] i U;have HF:=Wd (u:=u) a0 (by omega:n+1<=h.size) hi;clear q U A d hv a1 h1 a5 a8 a0;have ak:IntKind.i64.wrap ((i:Int)+1)=(i:Int)+1:=by rw[IntKind.wrap_i64];omega
 have mq:(0:Int)<=(i:Int)+1:=by omega
 have ad:(i:Int)+1<=(n:Int)+1:=by omega
 have aj:((i:Int)+1).toNat=i+1:=by omega
 have ae:(i:Int)<=(n:Int)+1:=by omega
 have af:¬(cap=i+1):=by omega
 have ag:¬(cap=i):=by omega
 rcases K with⟨rfl,rfl,rfl,rfl,rfl,rfl⟩|⟨rfl,rfl,rfl,rfl,rfl,rfl⟩
 all_goals
  first|go_enter func381,ntmps381|go_enter func260,ntmps260
  go_wp2_with (simp only[aa])
  go_region_law (refine step_copy_runI rfl _ _ _ _ rfl _ _ (by simp[Act.eval,Act.put]) (by simp[Act.eval,Act.put]) (a2 _ _ _) ?_)
  go_wp2_with (at_builtin;refine wpList_copy_runI _ rfl _ _ _ _ rfl _ _ rfl rfl (a3 _ _) ?_);go_ret;exact⟨_,rfl,⟨by grind,.inr ⟨g,cap,_,rfl,a7,HB,by omega,hm,by rw[fU,fU];omega,by grind⟩⟩,HK,.inl rfl⟩
theorem Sz{l:List cY}{n i:Nat}{u:cY}{R:fN}(A:l.length=n)(q:R.toList.take i=l.take i)(H:n+1<=R.size)(D:i<n):
  (fI (fI R i [u]) (i+1) (l.drop i)).toList.take (n+1)=l.take i++[u]++l.drop i:=by
 have h:=il [u] R i (by grind);rw[il (l.drop i) _ (i+1) (by grind[fI]),h,q];have d:∀X:List cY,(l.take i++[u]++X).take (i+1)=l.take i++[u]:=λX=>by grind
 rw[d,GF (by grind),Ag (by grind)]
theorem Wc(K:IK T S F Or B z)(base g cap n i bv:Nat)(u:cY)(a1:fN)(xs:List cY)(w:J)(d:w.heap[g]?=some (cV a1 T))(ab:a1.toList.take n=xs)(az:a1.size=cap)
  (ay:n<=cap) (aj:cap<n+1) (hi:i<n) (hv:w.heap[bv]?=some (cV #[u] T)) (hu:u.oneCell'=true) (h1:∀x∈xs,x.oneCell'=true) (ax:n<=1048576) (hb:base<=w.heap.size):
  Calls prog F #[ky g n cap,G i,ky bv 1 1] w (abX T base (ky g n cap) n i xs u w):=by
 obtain⟨i0,ai,al,am,ad⟩:=rQ K.ady.1;obtain rfl:cap=n:=by omega
 have aa:xs.length=cap:=by rw[<-ab];simp;omega
 obtain⟨_,HU,ac,HZ,HP⟩:=K.ady;have aw:=eS d;have aB:=eS hv;have a9:∀j x,xs[j]?=some x->w.cell? ⟨g,j,none⟩=some x:=λj x hj=>by
  rw[aN d];grind
 have a0:(Builtin.firstCells i0.size i (ky g i cap)).run prog w.drew=.ok (xs.take i).toArray w.drew:=by
  rw[am];exact run_firstCells_some w.drew 1 i ⟨g,0,none⟩ i cap (xs.take i) (by grind) (λj x hj=>by
   rw[eL];rw[QK]at hj;simp_all)
 obtain⟨GE,hG⟩:∃GE,GE=grownCap w (cap+1) cap T:=⟨_,rfl⟩;obtain⟨R,hR⟩:∃R:fN,R=(xs.take i).toArray++Builtin.zeroCells z.cells (cap+1-i)++Builtin.zeroCells z.cells (GE-(cap+1)):=⟨_,rfl⟩;obtain⟨A,a3⟩:∃A,A=w.drew.alloc (cV R T):=⟨_,rfl⟩;have ak:∀l,(Builtin.append_ #[S,3] l #[ky g i cap,G ((cap:Int)+1-(i:Int))]).run prog w=.ok (ky w.heap.size (cap+1) GE) A:=λl=>by
  have h:=Lib.run_append_grow_zeros w S 3 l T i0 _ .i64 .i64 HU underlying3 ai al (some ⟨g,0,none⟩) i cap (xs.take i) a0 (cap+1-i) (by omega) (by omega) (by omega) (by omega) (by rw[ad];rcases K with⟨_,_,_,_,rfl,_⟩|⟨_,_,_,_,rfl,_⟩<;>omega) (by rw[ad,show i+(cap+1-i)=cap+1 by omega];rcases K with⟨_,_,_,_,rfl,_⟩|⟨_,_,_,_,rfl,_⟩<;>exact growslice_fits (by omega) (by omega));grind
 have ah:cap+1<=GE:=by rw[hG];exact grownCap_ge w _ _ _
 have ae:GE<=maxLen:=by rw[hG];exact grownCap_le_maxLen w (cap+1) cap T (by unfold maxLen;omega)
 have af:R.size=GE:=by
  rw[hR];rcases K with⟨_,_,_,_,_,rfl⟩|⟨_,_,_,_,_,rfl⟩<;>simp[Builtin.zeroCells,Value.cells]<;>omega
 have a5:R.toList.take i=xs.take i:=by
  rw[hR];simp only[Array.toList_append,se];rw[GF (by grind),Ag (by grind)]
 have D:A.heap[w.heap.size]?=some (cV R T):=by rw[a3];exact aY w.drew _
 have I:Z [] w A:=by rw[a3];exact(Z.refl [] w).drew.alloc _
 have a6:=I.at hv (by simp);have ag:=I.at d (by simp);obtain⟨q,U⟩:∃q,q=A.setCells w.heap.size i [u]:=⟨_,rfl⟩;have a7:∀l dc,(Builtin.copy_ #[S,S] l #[.slice (some ⟨w.heap.size,i,none⟩) (cap+1-i) dc,ky bv 1 1]).run prog A=.ok (goInt 1) q:=λl dc=>by
  rw[U];exact Zg A _ _ l T w.heap.size i (cap+1-i) dc ⟨bv,0,none⟩ 1 1 [u] HU ac (by grind)
   (λj x hj=>by rw[eL,aN a6,<-hj];simp)
   (λj hj=>by rw[aN D,xA (by grind)];rfl) (λj hj=>cQ D _) (λx hx=>by grind)
 have H:q.heap[w.heap.size]?=some (cV (fI R i [u]) T):=by rw[U];exact ie [u] A _ R _ _ _ D
 have a2:Z [] w q:=by rw[U];exact Z.setCells (.inr (dr _)) _ _ I
 have a4:=a2.at d (by simp);have a8:∀l dc sc,(Builtin.copy_ #[S,S] l #[.slice (some ⟨w.heap.size,i+1,none⟩) (cap-i) dc,.slice (some ⟨g,i,none⟩) (cap-i) sc]).run prog q.drew=.ok (goInt (xs.drop i).length) (q.drew.setCells w.heap.size (i+1) (xs.drop i)):=λl dc sc=>
  Zg q.drew _ _ l T w.heap.size (i+1) (cap-i) dc ⟨g,i,none⟩ (cap-i) sc (xs.drop i) HU ac (by grind)
   (λj x hj=>by
    rw[Addr.add_lit];have h3:=a9 (i+j) x (by grind);rw[aN d]at h3;exact(aN a4 _).trans h3)
   (λj hj=>by show(q.cell? _).isSome=true;rw[aN H,xA (by grind[fI])];rfl) (λj hj=>cQ H _) (λx hx=>h1 x (Lh hx))
 have HB:=ie (xs.drop i) q.drew w.heap.size _ _ _ (i+1) H;have HK:=Z.setCells (S:=[]) (a:=w) (b:=w.heap.size) (.inr (dr _)) (xs.drop i) (i+1) a2.drew;have HF:=Sz (u:=u) aa a5 (by omega) hi;have aD:(cap:Int)<(cap:Int)+1:=by omega
 have ap:¬(GE=i):=by omega
 have an:¬(GE=i+1):=by omega
 have au:¬(cap=i):=by omega
 have aC:IntKind.i64.wrap ((i:Int)+1)=(i:Int)+1:=by rw[IntKind.wrap_i64];omega
 have mq:(0:Int)<=(i:Int)+1:=by omega
 have aq:(i:Int)+1<=(cap:Int)+1:=by omega
 have aA:((i:Int)+1).toNat=i+1:=by omega
 have ar:(i:Int)<=(cap:Int):=by omega
 clear D I H a2 a3 d hv a6 ag a4 h1 a9 ab a0 hR hG a5 U;rcases K with⟨rfl,rfl,rfl,rfl,rfl,rfl⟩|⟨rfl,rfl,rfl,rfl,rfl,rfl⟩
 all_goals
  first|go_enter func381,ntmps381|go_enter func260,ntmps260
  go_wp2_with (first
   |(at_builtin;refine Lib.wpList_append_run _ rfl _ _ _ _ rfl _ _ rfl rfl _ _ (ak _) ?_)
   |(at_builtin;refine wpList_copy_runI _ rfl _ _ _ _ rfl _ _ rfl rfl (a7 _ _) ?_))
  go_region_law (refine step_copy_runI rfl _ _ _ _ rfl (.slice (some ⟨w.heap.size,i+1,none⟩) (cap-i) (GE-(i+1))) (.slice (some ⟨g,i,none⟩) (cap-i) (cap-i)) (by simp[Act.eval,Act.put]) (by simp[Act.eval,Act.put]) (a8 _ _ _) ?_)
  go_wp2;go_ret;refine⟨_,rfl,⟨by grind,.inr ⟨w.heap.size,GE,_,rfl,hb,HB,ah,ae,by rw[fU,fU,D9];exact af,by grind⟩⟩,HK.mono (by simp),.inr ?_⟩;intro k hk;simp[Value.ownBlock]at hk;omega
def aiB(K:IK T S F Or B z)(base n i l:Nat)(v u:cY)(xs:List cY)(w:J)(ho:w.ownsRow base T 1 v n xs)(hv:w.heap[l]?=some (cV #[u] T))(a0:v.ownBlock≠some l)(hu:u.oneCell'=true)(h1:∀x∈xs,x.oneCell'=true)(hi:i<=n)(q:n<=1048576)(hb:base<=w.heap.size):
  Calls prog F #[v,G i,ky l 1 1] w (abX T base v n i xs u w):=by
 by_cases I:i=n;subst I;exact aar K base i l v u xs w ho hv hu q hb;rcases ho.2 with⟨_,e0⟩|⟨g,cap,D,rfl,H,h,U,hm,A,d⟩;omega;have hg:l≠g:=λe=>a0 (by rw[e];rfl);rw[D9]at A d;by_cases hr:n+1<=cap;exact SA K base g cap n i l u D xs w H h d A hm hr (by omega) hv hg hu h1 q;exact Wc K base g cap n i l u D xs w h d A U (by omega) (by omega) hv hu h1 q hb
end
def uX.aaf(h:uX base b j tB C v xs w)(d:∀x∈xs,rT w x):ai9 v xs w:=agv h.row d
theorem uX.oO(h:uX base b j tB C v xs w):v.ownBlock≠some b:=by
 intro d;rcases h.row.2 with⟨e,_⟩|⟨g,cap,l,e,_,n,_⟩;rw[e]at d;cases d;rw[e]at d;obtain rfl:=je d;exact wR n h.du (wj h.ne) rfl
theorem row_one(xs:gZ):∀u∈xs.map ig,u.oneCell'=true:=by
 intro u d;obtain⟨x,_,rfl⟩:=List.mem_map.1 d;rfl
def mc(base b j:Nat)(tB:TypeId)(C:fN)(v:cY)(ys:gZ)(w w':J):Prop:=
 ∃v',uX base b j tB (C.setIfInBounds j v') v' ys w'/\Z (b::v.ownBlock.toList) w w'/\(v'.ownBlock=v.ownBlock\/∀k,v'.ownBlock=some k->w.heap.size<=k)
def zH(h:C[j]?=some v):j<C.size:=(Array.getElem?_eq_some_iff.1 h).1
def adO(base b j:Nat)(tB:TypeId)(C:fN)(v:cY)(xs:gZ)(w:J)(h:uX base b j tB C v xs w):
  Calls prog 173 #[fR b j] w λe w'=>e=dw (ig (dA xs ((xs.length:Int)-1)))/\w'=w:=by
 have l:=h.at;have d:=h.le;obtain⟨ao,cap,rfl⟩:=cP h.row;go_enter func173,ntmps173;go_wp21;refine(adN base b j tB C _ xs ((xs.length:Int)-1) w h).mono ?_;rintro e w'⟨rfl,rfl⟩;go_wp2;go_ret;simp
theorem aiG(base b j:Nat)(tB:TypeId)(C:fN)(v:cY)(xs:gZ)(x:eG)(w:J)(h:uX base b j tB C v xs w)(A:∀x∈xs,rT w x)(I:rT w x):
  Calls prog 316 #[fR b j,ig x] w λe w'=>e=dw (.bool (decide (x∈xs)))/\w'=w:=by
 have U:=h.at;have D:=h.le;have n:Calls prog 343 #[v,ig x] w λe w'=>e=dw (.bool (decide (x∈xs)))/\w'=w:=by
  have H:=EH v xs x w (h.aaf A) I h.le;have l:decide (0<=posOf xs x)=decide (x∈xs):=by
   unfold posOf;by_cases hm:x∈xs;grind;grind
  have d:=V l;clear l;generalize posOf xs x=q at H d;go_enter func343,ntmps343;go_wp21;refine H.mono ?_;rintro e w'⟨rfl,rfl⟩;go_wp2;go_ret;exact⟨by rw[<-d.out];rfl,rfl⟩
 have H:=n;go_enter func316,ntmps316;go_wp21;refine H.mono ?_;rintro e w'⟨rfl,rfl⟩;go_wp2;go_ret;simp
def Py(base b j:Nat)(tB:TypeId)(C:fN)(v:cY)(xs:gZ)(x:eG)(w:J)(h:uX base b j tB C v xs w)(l:∀x∈xs,rT w x)(q:rT w x):
  Calls prog 240 #[fR b j,ig x] w λe w'=>e=dw (ig (dA xs (posOf xs x-1)))/\w'=w:=by
 have A:=h.at;have n:=h.le;have D: -1<=posOf xs x/\posOf xs x<=4096:=by unfold posOf;split<;>omega
 have d:=EH v xs x w (h.aaf l) q h.le;have H:=adN base b j tB C _ xs (posOf xs x-1) w h;go_enter func240,ntmps240;go_wp21;refine d.mono ?_;rintro e w'⟨rfl,rfl⟩;go_wp21;refine H.mono ?_;rintro e w'⟨rfl,rfl⟩;go_wp2;go_ret;simp
theorem adP(base b j:Nat)(tB:TypeId)(C:fN)(v:cY)(xs:gZ)(x:eG)(w:J)(h:uX base b j tB C v xs w)(hl:xs.length<4096)(hb:base<=w.heap.size):
  Calls prog 265 #[fR b j,ig x] w λe w'=>e=nu/\mc base b j tB C v (xs++[x]) w w':=by
 have⟨i0,hi,hz0,hz1,hz2⟩:=rQ ajV;have c1:=h.at;have a3:=h.oO;obtain⟨ao,cap,rfl⟩:=cP h.row;have H:=V h;clear h;have l:Z [] w (w.alloc (.cells #[ig x] 68)):=(Z.refl _ _).alloc _;have o1:=l.ownsRow H.row (λ_ _=>by simp);have b1:=l.at H.du (by simp);have v1:=aY w (cV #[ig x] 68);have a0:=V v1;clear v1;go_enter func265,ntmps265;go_wp2_with (at_builtin;refine fw _ rfl _ _ 173 rfl base 68 i0 (.pointer none) 1 8 underlying173 hi hz0 hz1 hz2 rfl (by decide) (.slice ao xs.length cap) xs.length (xs.map ig) rfl o1 ⟨w.heap.size,0,none⟩ 1 1 [ig x] rfl rfl (λk u I=>by rw[eL,aN a0.out,<-I];simp) (λu I=>by simp at I;subst I;rfl) (by unfold maxLen;omega) (by omega) (by simp;omega) ?_);intro v' U d n a1;have K2:Z (Value.slice ao xs.length cap).ownBlock.toList w U:=(l.mono (by simp)).grown n (λk A=> .inl (by grind));have b2:U.heap[b]?=some (cV C tB):=K2.at H.du (by grind);have⟨ao',cap',hv⟩:=cP d;subst hv;have d1:U.cell? ⟨b,j,none⟩=some (.slice ao xs.length cap):=by rw[aN b2];exact H.cell
 have d2:=cQ b2 j;have H3:=bJ b2 j (.slice ao' (xs.length+1) cap');have D:(Value.slice ao' (xs.length+1) cap').ownBlock≠some b:=by
  intro A;rcases d.2 with⟨e,_⟩|⟨g,cap,a2,e,_,hc,_⟩;omega;rw[e]at A;obtain rfl:=je A;exact wR hc b2 (wj H.ne) rfl
 have H4:=xC (a:=⟨b,j,none⟩) d D (.slice ao' (xs.length+1) cap');have H5:Z (b::(Value.slice ao xs.length cap).ownBlock.toList) w (U.setCell ⟨b,j,none⟩ (.slice ao' (xs.length+1) cap')):=(K2.mono (λk A _=>io _ A)).setCell (.inl (by simp)) _;have q:(Value.slice ao' (xs.length+1) cap').ownBlock=(Value.slice ao xs.length cap).ownBlock\/∀k,(Value.slice ao' (xs.length+1) cap').ownBlock=some k->w.heap.size<=k:=by
  rcases a1 with e|e;grind;grind
 have HF:=q;go_wp2;go_end0;refine⟨rfl,_,⟨H3,?_,?_,H.ne,by grind⟩,H5,HF⟩
 all_goals grind[uX.cell,Hid.out]
theorem aiI(base b j:Nat)(tB:TypeId)(C:fN)(v:cY)(xs:gZ)(w:J)(h:uX base b j tB C v xs w):
  Calls prog 178 #[fR b j] w λe w'=>e=dw (ig (dA xs ((xs.length:Int)-1)))/\mc base b j tB C v xs.dropLast w w':=by
 have H:=adO base b j tB C v xs w h;have c1:=h.at;have a2:=h.le;have A:=h.oO;obtain⟨ao,cap,rfl⟩:=cP h.row;have a4:xs.length<=cap:=by
  rcases h.row.2 with⟨e,U⟩|⟨g,d,l,e,_,_,q,_⟩;omega;grind
 obtain⟨m,hm⟩:∃m:Nat,m=xs.length-1:=⟨_,rfl⟩;have a3:max (0:Int) ((xs.length:Int)-1)=(m:Int):=by omega
 have hf:=cQ h.du j;have I:mc base b j tB C (.slice ao xs.length cap) xs.dropLast w (w.drew.setCell ⟨b,j,none⟩ (.slice ao m cap)):=by
  have hr:(w.drew.setCell ⟨b,j,none⟩ (.slice ao m cap)).ownsRow base 68 1 (.slice ao m cap) xs.dropLast.length (xs.dropLast.map ig):=by
   have D:w.ownsRow base 68 1 (.slice ao m cap) xs.dropLast.length (xs.dropLast.map ig):=by
    refine⟨by simp,?_⟩;rcases h.row.2 with⟨e,U⟩|⟨g,d,l,e,n,hc,q,a0,a1,ht⟩;grind;injection e with e1 e2 e3;refine .inr ⟨g,cap,l,by grind,n,hc,by grind,by omega,by omega,?_⟩;grind[List.dropLast_eq_take]
   refine xC (a:=⟨b,j,none⟩) (w:=w.drew) D ?_ _;have:(Value.slice ao m cap).ownBlock=(Value.slice ao xs.length cap).ownBlock:=by cases ao<;>rfl
   rw[this];exact A
  refine⟨_,⟨bJ (w:=w.drew) h.du j _,?_,hr,h.ne,by grind⟩,(Z.refl _ w).drew.setCell (.inl (by simp)) _,.inl (by cases ao<;>rfl)⟩;simp[zH h.cell]
 clear h hm;go_enter func178,ntmps178;go_wp21;refine H.mono ?_;rintro e w'⟨rfl,hw⟩;subst hw;go_wp21;go_region;go_wp2;go_ret;exact⟨rfl,I⟩
theorem qJ(xs:gZ)(x:eG):(x∉xs/\posOf xs x= -1)\/∃n:Nat,posOf xs x=n/\n<xs.length/\n=xs.idxOf x/\xs[n]?=some x:=by
 grind[posOf]
def C8{n:Nat}(d:n=xs.idxOf x):xs.take n++xs.drop (n+1)=xs.erase x:=by
 rw[<-List.eraseIdx_eq_take_drop_succ,d,List.erase_eq_eraseIdx_of_idxOf rfl]
theorem mc.refl(h:uX base b j tB C v xs w):mc base b j tB C v xs w w:=by
 have e:C.setIfInBounds j v=C:=by
  have:=h.cell;apply Array.ext_getElem?;intro i;by_cases d:j=i;grind;grind
 exact⟨v,by grind,Z.refl _ _,.inl rfl⟩
theorem zE(base b j:Nat)(tB:TypeId)(C:fN)(v:cY)(xs:gZ)(x:eG)(w:J)(h:uX base b j tB C v xs w)(he:∀x∈xs,rT w x)(hx:rT w x):
  Calls prog 181 #[fR b j,ig x] w λe w'=>e=nu/\mc base b j tB C v (xs.erase x) w w':=by
 have c1:=h.at;have H1:=EH v xs x w (h.aaf he) hx h.le;rcases qJ xs x with⟨a6,hp⟩|⟨n,hp,a8,hn,_⟩
 .have HF:=mc.refl h;rw[List.erase_of_not_mem a6];obtain⟨ao,cap,rfl⟩:=cP h.row;rw[hp]at H1;clear h;go_enter func181,ntmps181;go_wp2_with fail;refine H1.mono ?_;rintro e w'⟨rfl,hw⟩;subst hw;go_wp2;go_end0;grind
 .have U:=h.oO;have a4:=h.le;rcases h.row.2 with⟨_,e0⟩|⟨g,cap,a1,rfl,a2,D,a5,hm,a0,d⟩;omega;rw[D9]at a0 d;have HD:=ajE g cap n (n+1) xs.length a1 w D a5 a0 (by omega) (by omega) a4 (by grind[row_one]);rw[show((n+1:Nat):Int)=(n:Int)+1 by omega,show xs.length-(n+1-n)=xs.length-1 by omega]at HD;have HN:=V hn;clear hn;have H:=V h;have HT:=V d;rw[hp]at H1;clear h d;go_enter func181,ntmps181;go_wp2_with fail;refine H1.mono ?_;rintro e w'⟨rfl,hw⟩;subst hw;go_wp2_with fail;refine HD.mono ?_;rintro e w2⟨rfl,A,a3,a9,a7,I⟩;have b2:=I.at H.du (by intro q;exact U (by simp at q;rw[q];rfl));have d1:w2.cell? ⟨b,j,none⟩=some (ky g xs.length cap):=by rw[aN b2];exact H.cell
  have d2:=cQ b2 j;have H3:=bJ b2 j (ky g (xs.length-1) cap);have l:(xs.erase x).length=xs.length-1:=by rw[<-C8 HN.out];simp;omega
  have r2:w2.ownsRow base 68 1 (ky g (xs.length-1) cap) (xs.erase x).length ((xs.erase x).map ig):=by
   refine⟨by simp,.inr ⟨g,cap,A,by rw[l],a2,a3,by omega,hm,by omega,?_⟩⟩;rw[D9,l,a7,HT.out,<-C8 HN.out,lV,Zh,List.map_drop]
  have H4:=xC (a:=⟨b,j,none⟩) r2 U (ky g (xs.length-1) cap);have H5:Z (b::(ky g xs.length cap).ownBlock.toList) w' (w2.setCell ⟨b,j,none⟩ (ky g (xs.length-1) cap)):=(I.mono (λk hk _=>by simp at hk;subst hk;simp[Value.ownBlock])).setCell (.inl (by simp)) _;have HL:=V l;clear l;go_wp2;go_end0;exact⟨rfl,_,⟨H3,by grind[uX.cell,Hid.out],H4,H.ne,by grind⟩,H5,.inl rfl⟩
def kB(xs:gZ)(x y:eG):gZ:=if x∈xs then xs.set (xs.idxOf x) y else xs
def eu(xs:gZ)(x y:eG):gZ:=if x∈xs then xs.take (xs.idxOf x+1)++[y]++xs.drop (xs.idxOf x+1)else xs
def li(xs:gZ)(x:eG):gZ:=((xs.reverse.dropWhile (·≠x)).tail).reverse
theorem mc.trans{ys:gZ}{l:J}
  (q:uX base b j tB (C.setIfInBounds j v') v' ys w1) (h:Z (b::v.ownBlock.toList) w w1) (A:v'.ownBlock=v.ownBlock\/∀k,v'.ownBlock=some k->w.heap.size<=k)
  (n:mc base b j tB (C.setIfInBounds j v') v' zs w1 l):mc base b j tB C v zs w l:=by
 have⟨v2,L2,k2,f2⟩:=n;refine⟨v2,by simp_all,h.next k2 ?_,?_⟩;grind;rcases f2 with e|e;grind;exact .inr λk d=>fK h.size (e k d)
theorem ES(base b j:Nat)(tB:TypeId)(C:fN)(v:cY)(xs:gZ)(x y:eG)(w:J)(h:uX base b j tB C v xs w)(he:∀x∈xs,rT w x)(hx:rT w x):
  Calls prog 270 #[fR b j,ig x,ig y] w λe w'=>e=nu/\mc base b j tB C v (kB xs x y) w w':=by
 have c1:=h.at;have A:=EH v xs x w (h.aaf he) hx h.le;rcases qJ xs x with⟨a0,hp⟩|⟨n,hp,a4,U,HX⟩;have HF:=mc.refl h;have hr:kB xs x y=xs:=by unfold kB;rw[cZ a0]
 rw[hr];obtain⟨ao,cap,rfl⟩:=cP h.row;rw[hp]at A
 rotate_left
 have a1:=h.oO;have a3:=h.le;have hr:kB xs x y=xs.set n y:=by unfold kB;rw[dd (qQ HX),<-U]
 rw[hr];rcases h.row.2 with⟨_,e0⟩|⟨g,cap,q,rfl,H,d,a5,hm,a2,l⟩;omega;rw[D9]at a2 l;have I:g≠b:=λe=>a1 (by rw[e];rfl);have d1:∃u,w.cell? ⟨g,n,none⟩=some u:=⟨q[n]'(by omega),by rw[aN d];simp⟩;have⟨u,d1⟩:=d1;have d2:=cQ d n;have HF:mc base b j tB C (ky g xs.length cap) (xs.set n y) w (w.setCell ⟨g,n,none⟩ (ig y)):=by
  have D:(w.setCell ⟨g,n,none⟩ (ig y)).heap[b]?=some (cV C tB):=by rw[Below.heap_setCell w ⟨g,n,none⟩ _ b (wj I)];exact h.du
  have L2:uX base b j tB C (ky g xs.length cap) (xs.set n y) (w.setCell ⟨g,n,none⟩ (ig y)):=by
   refine⟨D,h.cell,⟨by simp,.inr ⟨g,cap,_,by simp,H,bJ d n (ig y),by grind,hm,by grind,?_⟩⟩,h.ne,by grind⟩;have:(q.setIfInBounds n (ig y)).toList=q.toList.set n (ig y):=by simp
   rw[this,List.length_set,D9,List.take_set,l,List.map_set]
  have⟨v',L',k',f'⟩:=mc.refl L2;exact⟨v',L',(((Z.refl _ w).setCell (p:=⟨g,n,none⟩) (.inl (by simp[Value.ownBlock])) _).trans k'),by grind[World.size_setCell]⟩
 have HN:=V U;rw[hp]at A;clear U
 all_goals
  go_enter func270,ntmps270;go_wp21;refine A.mono ?_;rintro e w'⟨rfl,hw⟩;subst hw;go_wp2;go_end0;grind
theorem Gg(base b j:Nat)(tB:TypeId)(C:fN)(v:cY)(xs:gZ)(x y:eG)(w:J)(h:uX base b j tB C v xs w)(he:∀x∈xs,rT w x)(hx:rT w x)(hl:xs.length<4096)(hb:base<=w.heap.size):
  Calls prog 370 #[fR b j,ig x,ig y] w λe w'=>e=nu/\mc base b j tB C v (eu xs x y) w w':=by
 have c1:=h.at;have D:=EH v xs x w (h.aaf he) hx h.le;rcases qJ xs x with⟨a1,hp⟩|⟨n,hp,a6,hn,HX⟩
 .have HF:=mc.refl h;have hr:eu xs x y=xs:=by unfold eu;rw[cZ a1]
  rw[hr];obtain⟨ao,cap,rfl⟩:=cP h.row;rw[hp]at D;clear h;go_enter func370,ntmps370;go_wp21;refine D.mono ?_;rintro e w'⟨rfl,hw⟩;subst hw;go_wp2;go_end0;grind
 .have a8:=h.oO;have a5:=h.le;have hr:eu xs x y=xs.take (n+1)++[y]++xs.drop (n+1):=by unfold eu;rw[dd (qQ HX),<-hn]
  rw[hr];have d:Z [] w (w.alloc (.cells #[ig y] 68)):=(Z.refl _ _).alloc _;have v1:=aY w (cV #[ig y] 68);have a3:(w.alloc (cV #[ig y] 68)).heap.size=w.heap.size+1:=by simp
  have a7:=h.row.lt;have HD:=aiB (.inl ⟨rfl,rfl,rfl,rfl,rfl,rfl⟩) base xs.length (n+1) w.heap.size v (ig y) (xs.map ig) (w.alloc (cV #[ig y] 68)) (d.ownsRow h.row (λ_ _=>by simp)) v1 (λe=>by grind) rfl (row_one xs) (by omega) (by omega) (by omega);rw[show((n+1:Nat):Int)=(n:Int)+1 by omega]at HD;have a2:=d.at h.du (by simp);obtain⟨ao,cap,rfl⟩:=cP h.row;have H:=V h;have HN:=V hn;rw[hp]at D;clear h hn;go_enter func370,ntmps370;go_wp21;refine D.mono ?_;rintro e w'⟨rfl,hw⟩;subst hw;go_wp21;refine HD.mono ?_;rintro e I⟨v',rfl,l,a0,U⟩;have⟨ao',cap',hv⟩:=cP l;subst hv;have K2:Z (Value.slice ao xs.length cap).ownBlock.toList w' I:=(d.mono (by simp)).trans (S:=(Value.slice ao xs.length cap).ownBlock.toList) a0;have b2:I.heap[b]?=some (cV C tB):=K2.at H.du (by grind);have d1:I.cell? ⟨b,j,none⟩=some (.slice ao xs.length cap):=by rw[aN b2];exact H.cell
  have d2:=cQ b2 j;have H3:=bJ b2 j (.slice ao' (xs.length+1) cap');have A:(Value.slice ao' (xs.length+1) cap').ownBlock≠some b:=by
   intro hk;rcases l.2 with⟨e,_⟩|⟨g,cap,a4,e,_,hc,_⟩;omega;grind
  have H4:=xC (a:=⟨b,j,none⟩) l A (.slice ao' (xs.length+1) cap');have H5:Z (b::(Value.slice ao xs.length cap).ownBlock.toList) w' (I.setCell ⟨b,j,none⟩ (.slice ao' (xs.length+1) cap')):=(K2.mono (λk hk _=>io _ hk)).setCell (.inl (by simp)) _;have q:(Value.slice ao' (xs.length+1) cap').ownBlock=(Value.slice ao xs.length cap).ownBlock\/∀k,(Value.slice ao' (xs.length+1) cap').ownBlock=some k->w'.heap.size<=k:=by
   rcases U with e|e;exact .inl e;grind
  have HF:=q;go_wp2;go_end0;refine⟨rfl,_,⟨H3,by grind[uX.cell,Hid.out],?_,H.ne,by simp;omega⟩,H5,HF⟩;have e1:(xs.take (n+1)++[y]++xs.drop (n+1)).length=xs.length+1:=by simp;omega
  simp_all
theorem aaU(x:eG):li [] x=[]:=rfl
theorem WK(xs:gZ)(y x:eG):li (xs++[y]) x=if y=x then xs else li xs x:=by
 grind[List.dropWhile_cons_of_neg,List.dropWhile_cons_of_pos,li]
theorem qp(xs:gZ)(y:eG):dA (xs++[y]) (((xs++[y]).length:Int)-1)=y:=by
 unfold dA;rw[dd (by grind)];simp
def zF(a:Addr)(w:J):Nat:=match w.cell? a with
 |some (.slice _ n _)=>n
 |_=>0
def uX.zF(h:uX base b j tB C v xs w):zF ⟨b,j,none⟩ w=xs.length:=by
 obtain⟨ao,cap,rfl⟩:=cP h.row;unfold YthnijkkcimlnjaaGreatDoor.zF;rw[h.at]
theorem rT.kept(h:rT w x)(n:Z S w w')(l:∀k,x=some k->k∉S):rT w' x:=by
 intro k d;have⟨c,hc⟩:=h k d;exact⟨c,n.at hc (l k d)⟩
theorem I9(h:uX base b j tB C v xs w)(q:tB≠139)(D:rT w x):∀k,x=some k->k∉b::v.ownBlock.toList:=by
 intro k A d;have⟨c,hc⟩:=D k A;rcases List.mem_cons.1 d with rfl|d;exact wR h.du hc q rfl;rcases h.row.2 with⟨e,_⟩|⟨g,cap,n,e,_,l,_⟩;rw[e]at d;simp[Value.ownBlock]at d;simp[Value.ownBlock]at d;grind
theorem Yv(base b j:Nat)(tB:TypeId)(C:fN)(v:cY)(xs:gZ)(x:eG)(w:J)(h:uX base b j tB C v xs w)(hB:tB≠139)(he:∀x∈xs,rT w x)(hx:rT w x):
  Calls prog 322 #[fR b j,ig x] w λe w'=>e=nu/\mc base b j tB C v (li xs x) w w':=by
 have h0:=mc.refl h;have hE:=he;have hX:=hx;have hO:=(λy hy=>I9 h hB (he y hy));have U:=I9 h hB hx;go_enter func322,ntmps322;go_wp2
 go_loopw [9] (λ_ wr=>∃l,(∀y∈l,y∈xs)/\li l x=li xs x/\mc base b j tB C v l w wr) (λ_ wr=>zF ⟨b,j,none⟩ wr)
 case atStart=>grind
 case round=>
  have⟨l,hS,hpt,v',L1,k1,f1⟩:=hrel;have hz:=L1.zF;have I:=L1.at;have⟨ao,cap,hv⟩:=cP L1.row;have a0:l=[]\/∃zs y,l=zs++[y]:=by
   rcases afo l with h|⟨zs,y,h⟩;grind;grind
  rcases a0 with rfl|⟨zs,y,rfl⟩
  .rw[hv]at I;have HF:=(show mc base b j tB C v (li xs x) w wr from⟨v',by grind[aaU],k1,f1⟩);clear L1 hz;go_wp2;go_end0;grind
  .rw[hv]at I;have q:0<(zs++[y]).length:=by simp
   have HP:=aiI base b j tB _ v' _ wr L1;rw[qp]at HP;have HY:rT w y:=hE y (hS y (by simp));have H:=hO y (hS y (by simp));have HT:=(λ(A:J) (h2:mc base b j tB (C.setIfInBounds j v') v' (zs++[y]).dropLast wr A)=>mc.trans L1 k1 f1 h2);have HL:=V L1;have hq:=V (show li xs x=if y=x then zs else li zs x by grind[WK]);have a2:=V hz;obtain⟨m,D⟩:∃m,m=(zs++[y]).length:=⟨_,rfl⟩;rw[<-D]at I q a2;have HM:=V D;have a4:m<=4096:=by rw[D];exact L1.le
   clear L1 hz D;go_wp21;refine HP.mono ?_;rintro e A⟨rfl,a1⟩;have T2:=HT A a1;rw[Zi]at T2;have⟨v2,L2,k2,f2⟩:=T2;have n:=Br (HY.kept k2 H) (hX.kept k2 U);have a5:=V L2.zF;by_cases d:y=x
   .rw[tu d]at n;have HF:=(show mc base b j tB C v (li xs x) w A from⟨v2,by grind[Hid.out],k2,f2⟩);clear L2 d;go_wp2
    (try simp only[Exit.inBlock,Exit.then])
    refine nr (GG rfl _ _ _) rfl ?_;grind
   .rw[xz d]at n;have HF:=(show mc base b j tB C v zs w A from⟨v2,L2,k2,f2⟩);have a3:=V d;clear L2 d;go_wp2;grind[Hid.out]
attribute [local go_sem] Oper.semAt_some
def ib(K:List Nat)(W d:J):Prop:=∀k∈K,d.heap[k]?=W.heap[k]?
theorem ib.refl(K:List Nat)(W:J):ib K W W:=λ_ _=>rfl
theorem ib.trans{A B C:J}(h:ib K A B)(k:ib K B C):ib K A C:=λx d=>(k x d).trans (h x d)
def ib.fS{d:J}(h:Z S W d)(l:∀k∈K,k<W.heap.size/\k∉S):ib K W d:=λk n=>h.block k (l k n).1 (l k n).2
theorem ib.put(h:∀k∈K,k<w.heap.size)(W:J)(l:Nat)(o d:Obj)(q:w.heap.size<=l)(_:W.heap[l]?=some o)(_:o.isCells=false)(_:o.isWalk=false):ib K W (W.putObj l d):=
 λk n=>rR (by grind)
theorem uX.EP(h:uX base b j tB C v xs w)(n:ib K w w')(q:b∈K)(D:∀k,v.ownBlock=some k->k∈K):uX base b j tB C v xs w':=by
 refine⟨(n b q).trans h.du,h.cell,⟨h.row.1,?_⟩,h.ne,h.le⟩;rcases h.row.2 with e|⟨g,cap,d,e,l,A,r⟩;grind;exact .inr ⟨g,cap,d,e,l,(n g (D g (by rw[e];rfl))).trans A,r⟩
theorem akJ(m:Nat)(af:1<=m)(base b j:Nat)(tB:TypeId)(C:fN)(v:cY)(xs:gZ)(n bN bL l:Nat)(K:List Nat)(ah Jx:List {x:eG // x∈xs}->J->Prop)
  (hn:n<=xs.length) (aa:b∈K) (a9:bL∈K) (ab:∀k,v.ownBlock=some k->k∈K)
  (hY:∀pre x W,ah pre W->pre.length<n->YieldAt Fence.wide (m-1) prog l #[ig x.1] W λe U=>
   (e=dw (.bool true)/\ah (pre++[x]) U/\ib K W U)\/(e=dw (.bool false)/\Jx (pre++[x]) U))
  (W:J) (h:uX base b j tB C v xs W) (hN:W.cell? ⟨bN,0,none⟩=some (G n)) (hL:W.cell? ⟨bL,0,none⟩=some (fR b j)) (h0:ah [] W):
  CallsIn Fence.wide m prog 351 #[.func (.yield l) #[] #[],cW bN,cW bL] W λe U=>(∃r,e=dw r)/\
   ((∃ys,ys.map (·.1)=(xs.take n).reverse/\ah ys U)\/(∃pre,pre.map (·.1) <+:(xs.take n).reverse/\Jx pre U)):=by
 refine callsIn_of_wp func351 rfl trivial ?_ rfl;simp only[ntmps351,vI,sg,tX,Nat.reduceAdd,Nat.reduceSub,vJ,vK,vL,vM,tw,oW];have ad:=h.le;have HL:=V h;clear h;have HY:=V hY;clear hY;gi_wp2
 gi_loopw [4] (λi wr=>∃(k:Nat)(pre:List {x:eG // x∈xs}),k<=n/\pre.length=k/\i=G ((n:Int)-1-k)/\pre.map (·.1)=(xs.take n).reverse.take k/\ib K W wr/\ah pre wr)
  (λi _=>((intOf i)+1).toNat)
 case atStart=>grind[ib]
 case round=>
  obtain⟨k,pre,hk,ag,rfl,I,A,hJ⟩:=hrel;have L1:=HL.out.EP A aa ab;have cL:wr.cell? ⟨bL,0,none⟩=some (fR b j):=(afm (w:=W) (A bL a9)).trans hL;have HP:=V I;have a6:=V A;clear I A;by_cases ae:k<n
  .obtain⟨q,hq⟩:∃q:Nat,q=n-1-k:=⟨_,rfl⟩;have a3:(n:Int)-1-k=(q:Int):=by omega
   have D:q<xs.length:=by omega
   rw[a3];have hA:=adN base b j tB C v xs (q:Int) wr L1;have hg:dA xs (q:Int)=xs[q]:=by unfold dA;rw[dd (by omega)];simp[D]
   rw[hg]at hA;have HA:=V hA;have⟨fn,tmps,assign,body,hy,hR⟩:=HY.out pre ⟨xs[q],sd D⟩ wr hJ (by omega);dsimp only at hy;have d:(pre++[(⟨xs[q],sd D⟩:{x:eG // x∈xs})]).map (·.1)=(xs.take n).reverse.take (k+1):=by
    have a2:(xs.take n).length=n:=by simp;omega
    have e1:(xs.take n).reverse[k]?=some xs[q]:=by
     rw[List.getElem?_reverse (by omega),a2,QK,dd (by omega),show n-1-k=q from hq.symm,pU D]
    rw[lV,HP.out,GH,e1];rfl
   have HS:=V d;have HR:=V hR;have HQ:=V hq;clear hA hg d hR L1 hq a3
   gi_wp2_with (refine⟨trivial,?_⟩;gi_at_call 242;refine(callsIn_wide.2 HA.out).mono ?_;rintro e w'⟨rfl,rfl⟩)
   refine HR.out.mono ?_;rintro e W3 (⟨rfl,a8,a1⟩|⟨rfl,a0⟩)
   .have a5:=V (a6.out.trans a1);clear a1;gi_wp2;go_roundw
    case rel=>exact⟨k+1,_,by omega,by grind,by grind[Hid.out],HS.out,a5.out,a8⟩
    case measure=>simp[intOf]
   .gi_wp2;refine nr (GG rfl _ _ _) rfl ?_;refine⟨⟨_,rfl⟩,.inr ⟨_,?_,a0⟩⟩;rw[HS.out];exact List.take_prefix _ _
  .have ac:k=n:=by omega
   have a4:pre.map (·.1)=(xs.take n).reverse:=by
    rw[HP.out,Ag (by grind)]
   have a7:=V a4;have H:(n:Int)-1-k= -1:=by omega
   rw[H];clear a4 ac H;gi_wp2;go_end0;exact⟨⟨_,rfl⟩,.inl ⟨pre,a7.out,hJ⟩⟩
abbrev jR(b j:Nat)(n:Int)(w:J):J:=(w.alloc (cV #[fR b j] 276)).alloc (cV #[G n] 3)
abbrev tr(s:Nat):cY:=.func (.func 351) #[] #[cW (s+1),cW s]
def Oj(b j:Nat)(n:Int)(w:J):
  Calls prog 324 #[fR b j,G n] w λe w'=>e=dw (tr w.heap.size)/\w'=jR b j n w:=by
 go_wp2;go_ret;simp
def aaA(base b j:Nat)(tB:TypeId)(C:fN)(v:cY)(xs:gZ)(w:J)(h:uX base b j tB C v xs w):
  Calls prog 288 #[fR b j] w λe w'=>e=dw (tr w.heap.size)/\w'=jR b j xs.length w:=by
 have n:=h.at;obtain⟨ao,cap,rfl⟩:=cP h.row;go_enter func288,ntmps288;go_wp21;refine(Oj b j xs.length w).mono ?_;rintro e w'⟨rfl,d⟩;have l:=V d;clear d;go_wp2;go_ret;exact⟨rfl,l⟩
def agU(base b j:Nat)(tB:TypeId)(C:fN)(v:cY)(xs:gZ)(x:eG)(w:J)(h:uX base b j tB C v xs w)(n:∀x∈xs,rT w x)(q:rT w x):
  Calls prog 379 #[fR b j,ig x] w λe w'=>e=dw (tr w.heap.size)/\w'=jR b j (posOf xs x) w:=by
 have A:=h.at;have H:=Oj b j (posOf xs x) w;go_enter func379,ntmps379;go_wp21;refine(EH v xs x w (h.aaf n) q h.le).mono ?_;rintro e w'⟨rfl,d⟩;go_wp21;refine H.mono ?_;rintro e w'⟨rfl,d⟩;have l:=V d;clear d;go_wp2;go_ret;exact⟨rfl,l⟩
theorem UB(m:Nat)(U:1<=m)(base b j:Nat)(tB:TypeId)(C:fN)(v:cY)(xs:gZ)(n s:Nat)(K:List Nat)(w:J)
  (h:uX base b j tB C v xs w) (hn:n<=xs.length) (A:b∈K) (q:s∈K) (D:∀k,v.ownBlock=some k->k∈K) (I:s+1<w.heap.size)
  (hN:w.heap[s+1]?=some (cV #[G n] 3)) (hL:w.heap[s]?=some (cV #[fR b j] 276)):
  SeqStopsK Fence.wide m prog 351 #[cW (s+1),cW s] (λx:{x:eG // x∈xs}=>#[ig x.1]) (ib K)
   (λys=>ys.map (·.1)=(xs.take n).reverse) (λpre=>pre.map (·.1) <+:(xs.take n).reverse) n w:=by
 intro l a0 Jx W d _ _ hY h0;have L1:=by
  refine h.EP (K:=b::v.ownBlock.toList) (λk H=>d.block k ?_) (by simp) (λk H=>by grind);rcases List.mem_cons.1 H with rfl|H;exact(eS h.du);exact(h.row.lt k (by grind)).2
 exact akJ m U base b j tB C v xs n _ s l K a0 Jx hn A q D hY W L1 (by rw[aN ((d.block _ I).trans hN)];rfl) (by rw[aN ((d.block _ (by omega)).trans hL)];rfl) h0
def ir(a b:O):Bool:=a.toList==b.toList
theorem rp{a b:O}:ir a b=true↔a=b:=by
 grind[ByteArray.toList_eq,WideShapes.bytes_inj,ir]
theorem ac8{a b:O}:ir a b=false↔a≠b:=by grind[rp]
def da(d:List O)(x:O):Bool:=d.any (ir x)
def WM(d:List O)(s:O):Int:=if d.findIdx (ir s)<d.length then (d.findIdx (ir s):Int)else -1
theorem ahr{xs:List O}{x:O}(A:k<xs.length)(D:xs[k]=x)(h:∀j,j<k->xs[j]?≠some x):WM xs x=k:=by
 have q:xs.findIdx (ir x)=k:=by
  have l:¬xs.findIdx (ir x)<k:=λd=>h _ d (by
   grind[rp])
  have n:¬k<xs.findIdx (ir x):=λd=>by
   grind[rp]
  omega
 grind[WM]
theorem ahs{xs:List O}{x:O}(d:∀j,j<xs.length->xs[j]?≠some x):WM xs x= -1:=by
 grind[rp,WM]
theorem aew(xs:List O)(x:O):decide (0<=WM xs x)=da xs x:=by
 grind[WM,da]
theorem agI(g cap:Nat)(d:List O)(x:O)(w:J)(U:∀k,(hk:k<d.length)->w.cell? ⟨g,k,none⟩=some (Y d[k]))(a0:d.length<=4096):
  Calls prog 323 #[ky g d.length cap,Y x] w λe w'=>e=dw (G (WM d x))/\w'=w:=by
 have HC:=V U;clear U;go_enter func323,ntmps323;go_wp2
 go_loopw [8] (λi wr=>∃k:Nat,k<=d.length/\i=G k/\wr=w/\∀j,j<k->d[j]?≠some x) (λi _=>d.length-(intOf i).toNat)
 case atStart=>grind
 case round=>
  obtain⟨k,hk,rfl,rfl,H⟩:=hrel;by_cases l:k<d.length
  .have c2:=HC k l;obtain⟨y,D⟩:∃y,y=d[k]:=⟨_,rfl⟩;rw[<-D]at c2;have I:=V D;clear D;by_cases n:x=y
   .have A:=V (ahr l (I.symm.trans n.symm) H);subst n;go_wp2;go_ret;exact⟨by rw[A.out];rfl,rfl⟩
   .have q:=n;have hq:(x.toList==y.toList)=false:=ac8.2 n;go_wp2;go_roundw
    case rel=>
     refine⟨k+1,by omega,by go_num,by simp,λj hj=>?_⟩;by_cases e:j=k;subst e;rw[pU l];exact λh=>q ((je h).symm.trans I.symm);grind
    case measure=>simp[intOf];omega
  .have A:=V (ahs (xs:=d) (x:=x) (λj hj=>H j (by omega)));go_wp2;go_ret;exact⟨by rw[A.out];rfl,rfl⟩
def O4(g cap:Nat)(d:List O)(x:O)(w:J)(l:∀k,(hk:k<d.length)->w.cell? ⟨g,k,none⟩=some (Y d[k]))(h:d.length<=4096):
  Calls prog 286 #[ky g d.length cap,Y x] w λe w'=>e=dw (.bool (da d x))/\w'=w:=by
 go_enter func286,ntmps286;go_wp21;refine(agI g cap d x w l h).mono ?_;rintro e w'⟨rfl,rfl⟩;go_wp2;go_ret;exact⟨by rw[<-(V (aew d x)).out];rfl,rfl⟩
structure lC(E:List Nat)(v:cY)(p:O->Bool)(w:J):Prop where
 ex:∃k lb,v=.func (.func k) #[] lb/\Enters prog k/\∀W,ib E w W->∀s,Calls prog k (#[Y s]++lb) W λe W'=>e=dw (.bool (p s))/\W'=W
 lt:∀e∈E,e<w.heap.size
theorem lC.keeps{E:List Nat}(h:lC E v p w)(n:ib E w w')(hs:w.heap.size<=w'.heap.size):lC E v p w':=by
 obtain⟨⟨k,A,rfl,l,d⟩,q⟩:=h;constructor<;>grind[ib.trans]
theorem lC.kept{E:List Nat}(h:lC E v p w)(l:Z S w w')(n:∀e∈E,e∉S):lC E v p w':=
 h.keeps (ib.fS l λk d=>⟨h.lt k d,n k d⟩) l.size
theorem lC.dB{E:List Nat}(h:lC E v p w)(d:Z [] w w'):lC E v p w':=h.kept d (λ_ _=>by simp)
def lN{E:List Nat}(h:ib E w W)(d:b∈E)(l:w.heap[b]?=some (cV c t)):W.heap[b]?=some (cV c t):=(h b d).trans l
theorem adF(bs g cap:Nat)(d:List O)(w:J)(n:w.heap[bs]?=some (cV #[ky g d.length cap] 46))(q:w.heap[g]?=some (cV (d.map Value.string).toArray 9))(h:d.length<=4096):
  lC [bs,g] (.func (.func 285) #[] #[cW bs]) (da d) w:=by
 refine⟨⟨_,_,rfl,enters_of func285 (by rfl) rfl,λW l s=>?_⟩,λe D=>?_⟩
 .have A:=aN (lN l (by simp) n) 0;go_enter func285,ntmps285;go_wp21;refine(O4 g cap d s W (λk H=>by rw[aN (lN l (by simp) q)];simp) h).mono ?_;rintro e w'⟨rfl,rfl⟩;go_wp2;go_ret;simp
 grind
def aiC(g cap:Nat)(n:Nat)(w:J):
  Calls prog 219 #[ky g n cap] w λe w'=>e=dw (.func (.func 285) #[] #[cW w.heap.size])/\w'=w.alloc (cV #[ky g n cap] 46):=by
 go_wp2;go_ret;simp
theorem ib.sub{d:List Nat}{A B:J}(h:ib K A B)(hs:∀k∈d,k∈K):ib d A B:=λk l=>h k (hs k l)
theorem akm(b1 b2:Nat)(H I:List Nat)(v1 v2:cY)(p q:O->Bool)(w:J)(h1:w.heap[b1]?=some (cV #[v1] 88))(h2:w.heap[b2]?=some (cV #[v2] 88))(U:lC H v1 p w)(hq:lC I v2 q w):
  lC (b1::b2::(H++I)) (.func (.func 293) #[] #[cW b1,cW b2]) (λs=>p s||q s) w:=by
 refine⟨⟨_,_,rfl,enters_of func293 (by rfl) rfl,λW n s=>?_⟩,λe h=>?_⟩
 .have c1:=aN (lN n (by simp) h1) 0;have c2:=aN (lN n (by simp) h2) 0;dsimp at c1 c2;obtain⟨k1,a0,rfl,e1,a1⟩:=U.ex;obtain⟨k2,a3,rfl,e2,a2⟩:=hq.ex;have l:=a1 W (n.sub (λk A=>by simp[A])) s;have D:=a2 W (n.sub (λk A=>by simp[A])) s;have f1:∀d w,(callFunc k1 d).run prog w=.ok (.enter k1 d) w:=e1;have f2:∀d w,(callFunc k2 d).run prog w=.ok (.enter k2 d) w:=e2;cases hps:p s with
  |true=>
   rw[hps]at l;go_enter func293,ntmps293;go_wp21;refine l.mono ?_;rintro e w'⟨rfl,rfl⟩;go_wp2;go_ret;simp
  |false=>
   rw[hps]at l;generalize q s=r at D|-;go_enter func293,ntmps293;go_wp21;refine l.mono ?_;rintro e w'⟨rfl,rfl⟩;go_wp21;refine D.mono ?_;rintro e w'⟨rfl,rfl⟩;go_wp2;go_ret;simp
 simp at h;rcases h with rfl|rfl|h|h;grind;grind;exact U.lt e h;exact hq.lt e h
theorem af7(b1 b2:Nat)(H I:List Nat)(v1 v2:cY)(p q:O->Bool)(w:J)(h1:w.heap[b1]?=some (cV #[v1] 88))(h2:w.heap[b2]?=some (cV #[v2] 88))(U:lC H v1 p w)(hq:lC I v2 q w):
  lC (b1::b2::(H++I)) (.func (.func 318) #[] #[cW b1,cW b2]) (λs=>p s&&!q s) w:=by
 refine⟨⟨_,_,rfl,enters_of func318 (by rfl) rfl,λW n s=>?_⟩,λe h=>?_⟩
 .have c1:=aN (lN n (by simp) h1) 0;have c2:=aN (lN n (by simp) h2) 0;dsimp at c1 c2;obtain⟨k1,a0,rfl,e1,a1⟩:=U.ex;obtain⟨k2,a3,rfl,e2,a2⟩:=hq.ex;have l:=a1 W (n.sub (λk A=>by simp[A])) s;have D:=a2 W (n.sub (λk A=>by simp[A])) s;have f1:∀d w,(callFunc k1 d).run prog w=.ok (.enter k1 d) w:=e1;have f2:∀d w,(callFunc k2 d).run prog w=.ok (.enter k2 d) w:=e2;show Calls prog 318 #[Y s,cW b1,cW b2] W _;cases hps:p s with
  |true=>
   rw[hps]at l;generalize q s=r at D|-;go_enter func318,ntmps318;go_wp21;refine l.mono ?_;rintro e w'⟨rfl,rfl⟩;go_wp21;refine D.mono ?_;rintro e w'⟨rfl,rfl⟩;go_wp2;go_ret;simp
  |false=>
   rw[hps]at l;go_enter func318,ntmps318;go_wp21;refine l.mono ?_;rintro e w'⟨rfl,rfl⟩;go_wp2;go_ret;simp
 simp at h;rcases h with rfl|rfl|h|h;grind;grind;exact U.lt e h;exact hq.lt e h
theorem ag7(b1:Nat)(n:List Nat)(v1:cY)(p:O->Bool)(w:J)(U:w.heap[b1]?=some (cV #[v1] 88))(A:lC n v1 p w):
  lC (b1::n) (.func (.func 292) #[] #[cW b1]) (λs=>!p s) w:=by
 refine⟨⟨_,_,rfl,enters_of func292 (by rfl) rfl,λW q s=>?_⟩,λe h=>?_⟩
 .have I:=aN (lN q (by simp) U) 0;dsimp at I;obtain⟨D,a0,rfl,e1,H⟩:=A.ex;have l:=H W (q.sub (λk hk=>by simp[hk])) s;have f1:∀d w,(callFunc D d).run prog w=.ok (.enter D d) w:=e1;show Calls prog 292 #[Y s,cW b1] W _;generalize p s=r at l|-;go_enter func292,ntmps292;go_wp21;refine l.mono ?_;rintro e w'⟨rfl,rfl⟩;go_wp2;go_ret;simp
 simp at h;rcases h with rfl|h;grind;exact A.lt e h
def ahk(l n:List Nat)(v1 v2:cY)(p q:O->Bool)(w:J)(D:lC l v1 p w)(H:lC n v2 q w):
  Calls prog 239 #[v1,v2] w λe w'=>(∃v,e=dw v/\lC (w.heap.size::(w.heap.size+1)::(l++n)) v (λs=>p s||q s) w'/\w'.heap[w.heap.size]?=some (cV #[v1] 88)/\w'.heap[w.heap.size+1]?=some (cV #[v2] 88))/\Z [] w w':=by
 have h:Calls prog 239 #[v1,v2] w λe w'=>e=dw (.func (.func 293) #[] #[cW w.heap.size,cW (w.heap.size+1)])/\w'=(w.alloc (cV #[v1] 88)).alloc (cV #[v2] 88):=by
  obtain⟨I,U,rfl,_,_⟩:=D.ex;obtain⟨d,a0,rfl,_,_⟩:=H.ex;go_enter func239,ntmps239;go_wp2;go_ret;exact⟨by simp,rfl⟩
 refine h.mono ?_;rintro e w'⟨rfl,rfl⟩;have I:Z [] w (w.alloc (cV #[v1] 88)):=(Z.refl _ _).alloc _;have d:=I.alloc (cV #[v2] 88);have A:=aY (w.alloc (cV #[v1] 88)) (cV #[v2] 88);rw[xD]at A;exact⟨⟨_,rfl,akm _ _ l n v1 v2 p q _ ((Below.heap_alloc _ _ _ (by simp)).trans (aY w _)) A (D.dB d) (H.dB d),(Below.heap_alloc _ _ _ (by simp)).trans (aY w _),A⟩,d⟩
def acv(l n:List Nat)(v1 v2:cY)(p q:O->Bool)(w:J)(D:lC l v1 p w)(H:lC n v2 q w):
  Calls prog 274 #[v1,v2] w λe w'=>(∃v,e=dw v/\lC (w.heap.size::(w.heap.size+1)::(l++n)) v (λs=>p s&&!q s) w'/\w'.heap[w.heap.size]?=some (cV #[v1] 88)/\w'.heap[w.heap.size+1]?=some (cV #[v2] 88))/\Z [] w w':=by
 have h:Calls prog 274 #[v1,v2] w λe w'=>e=dw (.func (.func 318) #[] #[cW w.heap.size,cW (w.heap.size+1)])/\w'=(w.alloc (cV #[v1] 88)).alloc (cV #[v2] 88):=by
  obtain⟨I,U,rfl,_,_⟩:=D.ex;obtain⟨d,a0,rfl,_,_⟩:=H.ex;go_enter func274,ntmps274;go_wp2;go_ret;exact⟨by simp,rfl⟩
 refine h.mono ?_;rintro e w'⟨rfl,rfl⟩;have I:Z [] w (w.alloc (cV #[v1] 88)):=(Z.refl _ _).alloc _;have d:=I.alloc (cV #[v2] 88);have A:=aY (w.alloc (cV #[v1] 88)) (cV #[v2] 88);rw[xD]at A;exact⟨⟨_,rfl,af7 _ _ l n v1 v2 p q _ ((Below.heap_alloc _ _ _ (by simp)).trans (aY w _)) A (D.dB d) (H.dB d),(Below.heap_alloc _ _ _ (by simp)).trans (aY w _),A⟩,d⟩
def ad8(d:List Nat)(v1:cY)(p:O->Bool)(w:J)(n:lC d v1 p w):
  Calls prog 238 #[v1] w λe w'=>(∃v,e=dw v/\lC (w.heap.size::d) v (λs=>!p s) w'/\w'.heap[w.heap.size]?=some (cV #[v1] 88))/\Z [] w w':=by
 have h:Calls prog 238 #[v1] w λe w'=>e=dw (.func (.func 292) #[] #[cW w.heap.size])/\w'=w.alloc (cV #[v1] 88):=by
  obtain⟨l,q,rfl,_,_⟩:=n.ex;go_enter func238,ntmps238;go_wp2;go_ret;exact⟨rfl,rfl⟩
 refine h.mono ?_;rintro e w'⟨rfl,rfl⟩;have l:Z [] w (w.alloc (cV #[v1] 88)):=(Z.refl _ _).alloc _;exact⟨⟨_,rfl,ag7 _ d v1 p _ (aY w _) (n.dB l),aY w _⟩,l⟩
open Go.ChangeMaps (setBlock)
theorem XW(a b:O):(a==b)=ir a b:=by
 have h:(a==b)=(a.data==b.data):=rfl;by_cases e:a=b;grind[ir];rw[ac8.2 e];have:a.data≠b.data:=λd=>e (by cases a;simp_all);grind
def kvE(e:MapEntry):cY×cY:=(e.key,e.val)
def kvP(p:O×cY):cY×cY:=(Y p.1,p.2)
def fnd:List (O×cY)->O->Nat->Option (Nat×cY)
 |[],_,_=>none
 |p::L,k,i=>if ir k p.1 then some (i,p.2)else fnd L k (i+1)
def AH:List (O×cY)->O->Option cY
 |[],_=>none
 |p::L,k=>if ir k p.1 then some p.2 else AH L k
def E8:List (O×cY)->O->cY->List (O×cY)
 |[],k,v=>[(k,v)]
 |p::L,k,v=>if ir k p.1 then (k,v)::L else p::E8 L k v
def Sc:∀(L:List (O×cY))(k:O)(i:Nat),(fnd L k i).map (·.2)=AH L k
 |[],_,_=>rfl
 |p::L,k,i=>by
  unfold fnd AH;split;rfl;exact Sc L k _
theorem Se:∀(L:List (O×cY))(k:O)(i:Nat)(v:cY),fnd L k i=none->E8 L k v=L++[(k,v)]
 |[],_,_,_,_=>rfl
 |p::L,k,i,v,h=>by
  unfold fnd at h;split at h;cases h;rename_i d;unfold E8;rw[cZ d,Se L k _ v h];rfl
theorem Sf:∀(L:List (O×cY))(k:O)(i j:Nat)(u v:cY),fnd L k i=some (j,u)->∃n,j=i+n/\n<L.length/\(L[n]?).map (·.1)=some k/\E8 L k v=L.set n (k,v)
 |[],_,_,_,_,_,h=>by cases h
 |p::L,k,i,j,u,v,h=>by
  unfold fnd at h;split at h
  .cases h<;>grind[rp,E8]
  have⟨n,e1,e2,e3,e4⟩:=Sf L k _ j u v h;refine⟨n+1,by omega,by grind,by grind,?_⟩;grind[E8]
theorem Pg(k:O):∀(d:List MapEntry)(L:List (O×cY))(i:Nat),d.map kvE=L.map kvP->Instr.findNow .string (Y k) d i=some (fnd L k i)
 |[],[],_,_=>rfl
 |[],_::_,_,h=>by grind
 |_::_,[],_,h=>by grind
 |e::d,p::L,i,h=>by
  simp at h;have l:e.key=Y p.1:=oX Prod.fst h.1;have n:e.val=p.2:=oX Prod.snd h.1;unfold Instr.findNow fnd;simp[l,Instr.sameNow,XW];cases hf:ir k p.1;exact Pg k d L _ h.2;grind
def qi(w:J)(b:Nat)(L:List (O×cY)):Prop:=∃h d,w.heap[b]?=some (.map h d)/\h.toList.map kvE=L.map kvP
theorem qi.keeps{L:List (O×cY)}(h:qi w b L)(e:w'.heap[b]?=w.heap[b]?):qi w' b L:=by
 grind[qi]
theorem qi.lt{L:List (O×cY)}(h:qi w b L):b<w.heap.size:=by
 have⟨es,clock,ha,_⟩:=h;grind
theorem qi.kept{L:List (O×cY)}(h:qi w b L)(l:Z S w w')(d:b∉S):qi w' b L:=h.keeps (l.block b h.lt d)
theorem qi.new(w:J):qi (w.alloc (.map #[] 0)) w.heap.size []:=⟨#[],0,aY w _,rfl⟩
theorem zC(h:Z S a w)(d:b∈S\/a.heap.size<=b)(o:Obj):Z S a (setBlock w b o):=
 ⟨h.os,h.tape,h.output,by show a.heap.size<=(w.heap.setIfInBounds b o).size;rw[UL];exact h.size,λk l n=>by
  show(w.heap.setIfInBounds b o)[k]?=_;grind[Z.block]⟩
theorem DP(h:b<w.heap.size)(o:Obj):(setBlock w b o).heap[b]?=some o:=by
 show(w.heap.setIfInBounds b o)[b]?=_;grind
def Fe{L:List (O×cY)}{T E:TypeId}{z:cY}(n:prog.underlying T=some (.map 9 E))(A:∀w,(zeroValue E).run prog w=.ok z w)(h:qi w b L)(k:O):
  (Instr.lookup T (.map (some b)) (Y k) false).run prog w=.ok ((AH L k).getD z) w:=by
 have⟨es,clock,ha,hl⟩:=h;have q:∀x,(Instr.checkKey x 10000 9 (Y k)).run prog w=.ok () w:=λx=>rfl;have d:=Pg k es.toList L 0 hl;have l:=Sc L k 0;cases hq:fnd L k 0 with
 |none=>
  rw[hq]at d l;rw[<-l];simp[Instr.lookup,qP n,Lj ha,q,Instr.findKey,d,A]
 |some p=>
  rw[hq]at d l;rw[<-l];simp[Instr.lookup,qP n,Lj ha,q,Instr.findKey,d]
theorem TS{L:List (O×cY)}{T E:TypeId}(I:prog.underlying T=some (.map 9 E))(h:qi w b L)(k:O)(v:cY):
  ∃w',(Instr.mapUpdate T (.map (some b)) (Y k) v).run prog w=.ok () w'/\qi w' b (E8 L k v)/\Z [b] w w'/\w'.heap.size=w.heap.size:=by
 have l:=h.lt;have⟨es,clock,ha,hl⟩:=h;have U:∀x,(Instr.checkKey x 10000 9 (Y k)).run prog w=.ok () w:=λx=>by
  unfold Instr.checkKey;simp
 have q:=Pg k es.toList L 0 hl;cases hq:fnd L k 0 with
 |none=>
  rw[hq]at q;refine⟨setBlock w b (.map (es.push {key:=Y k,val:=v,born:=clock}) (clock+1)),?_,⟨_,_,DP l _,?_⟩,zC (Z.refl _ _) (.inl (by simp)) _,?_⟩;simp[Instr.mapUpdate,qP I,Lj ha,U,Instr.findKey,(qP underlying9 _),q,setObj,Sem.run,ha,setBlock,Result.andThen];grind[Se,kvE,kvP];show(w.heap.setIfInBounds b _).size=_;simp
 |some p=>
  have⟨j,u⟩:=p;rw[hq]at q;have⟨n,hj,hn,hkey,hput⟩:=Sf L k 0 j u v hq;have D:j=n:=by omega
  subst D;have a0:es.size=L.length:=by have:=oX List.length hl;simpa using this
  have A:(es[j]?).map (·.key)=some (Y k):=by
   have d:(es.toList.map kvE)[j]?=(L.map kvP)[j]?:=by rw[hl]
   rw[List.getElem?_map,List.getElem?_map]at d;rw[afp]at d;rw[pU hn]at hkey d;rw[xA (by omega)]at d|-;simp[kvE,kvP]at d hkey|-;rw[d.1,hkey]
  refine⟨setBlock w b (.map (es.modify j λe=>{e with key:=Y k,val:=v}) clock),?_,⟨_,_,DP l _,?_⟩,zC (Z.refl _ _) (.inl (by simp)) _,?_⟩;have hs:(Instr.keyThatStays (((es[j]?).map (·.key)).getD (Y k)) (Y k)).run prog w=.ok (Y k) w:=by
   rw[A];have H:(k==k)=true:=by rw[XW];exact rp.2 rfl
   simp[Instr.keyThatStays,Instr.sameBits,H]
  simp[Instr.mapUpdate,qP I,Lj ha,U,Instr.findKey,(qP underlying9 _),q,hs,setObj,Sem.run,ha,setBlock,Result.andThen];rw[hput];apply List.ext_getElem?;intro i;have d:(es.toList.map kvE)[i]?=(L.map kvP)[i]?:=by rw[hl]
  grind[kvE,kvP];show(w.heap.setIfInBounds b _).size=_;simp
section
variable {P:Program}{ops:Array Oper}{Q:Exit->Act->J->Prop}{md:Region.Mode}
theorem Ft{I:Array Bool->Act->J->Prop}
  (D:∀d a w i,I d a w->i∈Region.ready md ops d->wpOp P ops Q i (I (d.setIfInBounds i true)) a w)
  (q:∀d a w,I d a w->Region.ready md ops d=[]->Q .normal a w):
  ∀l d a w,((List.range ops.size).filter (λi=>!d.getD i true)).length<=l->I d a w->wpAny P md ops Q l d a w:=by
 intro l
 induction l with
 |zero=>
  intro d a w hn H;have h0:(List.range ops.size).filter (λi=>!d.getD i true)=[]:=QJ (by omega);have hr:Region.ready md ops d=[]:=by
   unfold Region.ready;rw[afq]at h0|-;intro i A hc;apply h0 i A;rw[oY]at hc;exact hc.1
  exact⟨hr,q _ _ _ H hr⟩
 |succ n ih=>
  intro d a w hn H;refine⟨q _ _ _ H,λi A=>wpOp_mono (λa' w' h'=>ih _ a' w' ?_ h') (D _ _ _ i H A)⟩;have U:i∈(List.range ops.size).filter (λi=>!d.getD i true):=by
   unfold Region.ready at A;rw[UM,oY]at A;exact List.mem_filter.2 ⟨A.1,A.2.1⟩
  have e:(List.range ops.size).filter (λj=>!(d.setIfInBounds i true).getD j true)=((List.range ops.size).filter (λj=>!d.getD j true)).filter (λj=>j != i):=by
   rw[List.filter_filter];refine List.filter_congr λj _=>?_;by_cases hj:j=i;simp_all;have:i≠j:=λh=>hj h.symm;simp_all
  rw[e];have:(((List.range ops.size).filter (λj=>!d.getD j true)).filter (λj=>j != i)).length<((List.range ops.size).filter (λj=>!d.getD j true)).length:=by
   rw[List.length_filter_lt_length_iff_exists];exact⟨i,U,by simp⟩
  omega
end
def dn(z:Array Bool)(k:Nat):Bool:=z.getD k true
def cd(z:Array Bool)(k:Nat)(v:cY):cY:=cond (dn z k) v undef
def tF(md:Region.Mode)(ops:Array Oper)(i:Nat):List Nat:=
 match ops[i]? with|some o=>(o.after.toList.filter (Region.binds md)).map (·.on)|none=>[]
theorem mn:dn (z.setIfInBounds k true) k=true:=by
 simp[dn]
theorem iR(h:k≠j):dn (z.setIfInBounds k true) j=dn z j:=getD_set_ne true h
theorem nC{p:Prop}(h:dn z j=true->p)(d:k≠j):dn (z.setIfInBounds k true) j=true->p:=by
 grind[iR]
theorem iL(h:dn z k=true):cd z k v=v:=by grind[cd]
theorem aix(h:dn z k=false):cd z k v=undef:=by grind[cd]
def lF:cd (z.setIfInBounds k true) k v=v:=iL mn
theorem td(h:k≠j):cd (z.setIfInBounds k true) j v=cd z j v:=by
 grind[iR,cd]
def ce(z:Array Bool)(k:Nat)(u v:cY):cY:=cond (dn z k) v u
theorem vc(h:dn z k=true):ce z k u v=v:=by grind[ce]
def ug:ce (z.setIfInBounds k true) k u v=v:=vc mn
theorem Cv(h:k≠j):ce (z.setIfInBounds k true) j u v=ce z j u v:=by
 grind[iR,ce]
theorem sB{n:Nat}:dn (Array.replicate n true) k=true:=by
 unfold dn;rw[UN];grind
def sv{n:Nat}:cd (Array.replicate n true) k v=v:=iL sB
def OZ{n:Nat}:ce (Array.replicate n true) k u v=v:=vc sB
def iU{p:Nat->Prop}:∀k<0,p k:=λ_ h=>absurd h (Nat.not_lt_zero _)
theorem iT{p:Nat->Prop}{n:Nat}(t:∀k<n,p k)(h:p n):∀k<n+1,p k:=λk d=>by
 grind
def yU(z:Array Bool)(i:Nat):List Nat->Prop
 |[]=>dn z i=false
 |j::l=>dn z j=true/\yU z i l
def XT(h:z.getD i true=false):∀{l:List Nat},(∀j∈l,z.getD j true=true)->yU z i l
 |[],_=>h
 |j::l,hl=>⟨hl j (Oo ..),XT h λk d=>hl k (io _ d)⟩
def xV(md:Region.Mode)(ops:Array Oper):List (List Nat):=(List.range ops.size).map (tF md ops)
def adX:Nat->List (List Nat)->Bool
 |_,[]=>true
 |i,l::ls=>l.all (· < i)&&adX (i+1) ls
theorem Yy:∀{d:List (List Nat)} {i k:Nat} {l:List Nat},adX i d=true->d[k]?=some l->∀j∈l,j<i+k
 |l'::d,i,0,l,h,hk,j,hj=>by
  grind[adX]
 |l'::d,i,k+1,l,h,hk,j,hj=>by
  simp[adX]at h;have:=Yy (k:=k) h.2 (by grind) j hj;omega
def agd:List (List Nat)->List (List Nat)->List (List Nat)
 |acc,[]=>acc
 |acc,l::ls=>agd (acc++[(l++l.flatMap λj=>acc.getD j []).eraseDups]) ls
theorem FQ:∀(q d:List (List Nat)),(∀k,dn z k=true->∀j∈d.getD k [],dn z j=true)->
  (∀k l,q[k]?=some l->dn z (d.length+k)=true->∀j∈l,dn z j=true)->∀k,dn z k=true->∀j∈(agd d q).getD k [],dn z j=true
 |[],d,h,_=>h
 |l::q,d,h,hl=>by
  refine FQ q _ ?_ ?_;intro k A j n;rw[gG]at n;by_cases H:k<d.length;rw[Ea H]at n;exact h k A j (by grind);by_cases I:k=d.length;subst I;simp at n;have D:=hl 0 l rfl A;rcases n with n|⟨i,U,n⟩;grind;exact h i (D i U) j (by grind);grind;intro k l' A hd j n;refine hl (k+1) l' (by grind) ?_ j n;grind
theorem Rx:∀(q d:List (List Nat)),(∀k,∀j∈d.getD k [],j<k)->(∀k l,q[k]?=some l->∀j∈l,j<d.length+k)->∀k,∀j∈(agd d q).getD k [],j<k
 |[],d,h,_=>h
 |l::q,d,h,hl=>by
  refine Rx q _ ?_ ?_;intro k j n;rw[gG]at n;by_cases I:k<d.length;grind;by_cases A:k=d.length;subst A;simp at n;have H:=hl 0 l rfl;rcases n with n|⟨i,U,n⟩;grind;have:=h i j (by grind);grind;grind;intro k D hk j n;have:=hl (k+1) D (by grind) j n;grind
def okT(n:Nat)(md:Region.Mode)(ops:Array Oper)(d:List (List Nat)):Bool:=
 d.length==ops.size&&n==ops.size&&adX 0 (xV md ops)&&(List.range ops.size).all λi=>(d.getD i []).all λj=>((agd [] (xV md ops)).getD i []).contains j
section
variable {P:Program}{ops:Array Oper}{Q:Exit->Act->J->Prop}{md:Region.Mode}{GE:Type}
theorem ln(mk:GE->Array Bool->Act)(I:GE->Array Bool->J->Prop)(n:Nat)(A:List (List Nat)){a:Act}{w:J}(g:GE)
  (a1:okT n md ops A=true) (ha:a=mk g (Array.replicate n false)) (h0:I g (Array.replicate n false) w)
  (hs:∀i<n,∀g z W,I g z W->yU z i (A.getD i [])->(∀j,i∈A.getD j []->dn z j=false)->
   wpOp P ops Q i (λa W'=>∃g,a=mk g (z.setIfInBounds i true)/\I g (z.setIfInBounds i true) W') (mk g z) W)
  (hd:∀g W,I g (Array.replicate n true) W->Q .normal (mk g (Array.replicate n true)) W):
  wpAny P md ops Q ops.size (Array.replicate ops.size false) a w:=by
 subst ha;simp only[okT,oY,beq_iff_eq,afr,UO]at a1;have⟨⟨⟨hnd,hn⟩,hl0⟩,hsub⟩:=a1;have a2:∀i<ops.size,∀j∈tF md ops i,j<i:=by
  intro i hi j d;have:=Yy (i:=0) (k:=i) (l:=tF md ops i) hl0 (by grind[xV]) j d;omega
 rw[hn]at h0 hs hd|-;have a8:∀i<ops.size,∀j∈A.getD i [],j<i:=by
  intro i hi j d;have h1:=hsub i hi j d;refine Rx (xV md ops) [] (by simp) (λk l H=>?_) i j (by grind);have U:k<ops.size:=by simpa [xV]using (List.getElem?_eq_some_iff.1 H).1
  have:l=tF md ops k:=by simpa [xV,U]using H.symm
  subst this
  simpa using a2 k U
 have a0:∀z:Array Bool,(∀j,dn z j=true->∀k∈tF md ops j,dn z k=true)->∀i<ops.size,dn z i=true->∀j∈A.getD i [],dn z j=true:=by
  intro z hz i hi hd j d;refine FQ (xV md ops) [] (by simp) ?_ i hd j (by grind);intro k l H hd j d;have U:k<ops.size:=by simpa [xV]using (List.getElem?_eq_some_iff.1 H).1
  have:l=tF md ops k:=by simpa [xV,U]using H.symm
  subst this;exact hz k (by simpa using hd) j d
 have a5:∀z:Array Bool,z.size=ops.size->∀i,i∈Region.ready md ops z->z.getD i true=false/\i<ops.size/\∀j∈tF md ops i,z.getD j true=true:=by
  intro z hz i hi;have⟨a,o,ho,D⟩:=mem_ready.1 hi;refine⟨a,(Array.getElem?_eq_some_iff.1 ho).1,λj d=>?_⟩;simp only[tF,ho,List.mem_map,UM]at d;obtain⟨e,⟨he,hb⟩,rfl⟩:=d;have h1:=D e (by grind) hb;rw[UN]at h1|-;cases hx:z[e.on]? with
  |none=>rfl
  |some b=>grind
 refine Ft (I:=λz a W=>(z.size=ops.size/\∀j,dn z j=true->∀k∈tF md ops j,dn z k=true)/\∃g,a=mk g z/\I g z W) ?_ ?_ _ _ _ _ ?_ ⟨⟨by simp,λj d k H=>?_⟩,g,rfl,h0⟩
 .rintro z a W i⟨⟨hz,a4⟩,g,rfl,hI⟩ hi;have⟨a,b,c⟩:=a5 z hz i hi;have a3:∀j,dn (z.setIfInBounds i true) j=true->∀k∈tF md ops j,dn (z.setIfInBounds i true) k=true:=by
   intro j d k H;have:dn z k=true:=by
    by_cases a7:i=j;subst a7;exact c k H;grind[iR]
   by_cases a9:i=k;grind[mn];grind[iR]
  refine wpOp_mono (λa' W' h=>⟨⟨by grind,λj d k H=>?_⟩,h⟩) (hs i b g z W hI (XT a λj d=>?_) λj d=>?_);grind;have hl:=a8 i b j d;have:=a0 _ a3 i b mn j d
  rwa [iR (by omega)]at this
  rw[<-Bool.not_eq_true];intro a6;by_cases q:j<ops.size;have:=a0 z a4 j q a6 i d;grind[dn];grind
 .rintro z a W⟨⟨hz,_⟩,g,rfl,hI⟩ hr;have D:∀i,∀j≤i,z.getD j true=true:=by
   intro i
   induction i with
   |zero=>?_
   |succ i ih=>?_
   all_goals
    intro j d;rw[<-Bool.not_eq_false];intro hf;have q:j<ops.size:=by
     rw[<-hz];apply Decidable.byContradiction;intro h;rw[UN,UP (by omega)]at hf;simp at hf
    have:j∈Region.ready md ops z:=by
     refine mem_ready.2 ⟨hf,ops[j],by simp,λe he hb=>?_⟩;have hl:=a2 j q e.on (by simp only[tF,xA q,List.mem_map,UM];grind)
     first
     |omega
     |grind
    grind
  have aa:z=Array.replicate ops.size true:=by
   apply Array.ext;grind;intro i h1 h2;have:=D i i (dr _);rw[UN,xA h1]at this;grind
  grind
 grind;by_cases q:j<ops.size;simp[dn,q]at d;grind[tF]
end
inductive Nd
 |el (k:Nat)
 |tx (k:Nat)
 |cm (k:Nat)
 |dt (k:Nat)
variable {ns:List Nd}
def Nd.val:Nd->cY
 | .el k=> .iface 68 (cW k)
 | .tx k=> .iface 277 (cW k)
 | .cm k=> .iface 233 (cW k)
 | .dt k=> .iface 237 (cW k)
theorem Nd.one(n:Nd):n.val.oneCell'=true:=by cases n<;>rfl
theorem YB(ns:List Nd):∀x∈ns.map Nd.val,x.oneCell'=true:=by
 grind[Nd.one]
structure El(base:Nat)(w:J)(k:Nat)(name:O)(av:cY)(ff:eG)(kv:cY)(ns:List Nd):Prop where
 du:w.heap[k]?=some (cV #[Y name,av,ig ff,kv] 139)
 row:w.ownsRow base 141 1 kv ns.length (ns.map Nd.val)
 le:ns.length<=1048576
 XV:∃ao n c,av=.slice ao n c
theorem El.oO(h:El base w k name av ff kv ns)(n:w.heap[b]?=some (cV c t))(A:t≠141):kv.ownBlock≠some b:=by
 intro d;rcases h.row.2 with⟨e,_⟩|⟨g,cap,l,e,_,q,_⟩;rw[e]at d;cases d;rw[e]at d;obtain rfl:=je d;grind
theorem El.kept(h:El base w k name av ff kv ns)(d:Z S w w')(l:k∉S)(n:∀g,kv.ownBlock=some g->g∉S):El base w' k name av ff kv ns:=
 ⟨d.at h.du l,d.ownsRow h.row n,h.le,h.XV⟩
abbrev place(k n:Nat):cY:=.agg #[cW k,G n]
def ajK(base k:Nat)(name:O)(av kv:cY)(ff:eG)(ns:List Nd)(w:J)(h:El base w k name av ff kv ns):
  Calls prog 93 #[cW k] w λe w'=>e=dw (place k ns.length)/\Z [] w w':=by
 obtain⟨ao,cap,rfl⟩:=cP h.row;have l:=aN h.du 3;dsimp at l;have n:=eS h.du;have d:=(Z.refl [] w).alloc (cV #[cW k,G ns.length] 231);go_enter func93,ntmps93;go_wp2;refine nr ?_ rfl ⟨rfl,d⟩;simp[results,results93,asAddr,Result.andThen,go_sem]
def Iz(base k:Nat)(name:O)(av kv:cY)(ff:eG)(ns:List Nd)(w:J)(h:El base w k name av ff kv ns):
  Calls prog 269 #[cW k] w λe w'=>e=dw (cW w.heap.size)/\El base w' w.heap.size name av none (gq) []/\Z [] w w':=by
 have D:w.drew.cell? ⟨k,0,none⟩=some (Y name):=by show w.cell? _=_;rw[aN h.du];rfl
 have H:w.drew.cell? ⟨k,1,none⟩=some av:=by show w.cell? _=_;rw[aN h.du];rfl
 have l:=(Z.refl [] w).drew.alloc (cV #[Y name,av,.pointer none,gq] 139);have d:=(show El base _ w.heap.size name av none (gq) []from⟨aY w.drew _,mh _ _ _ _,by simp,h.XV⟩);obtain⟨n,A,q,rfl⟩:=h.XV;go_enter func269,ntmps269;go_wp21;go_region;go_wp2;go_ret;exact⟨rfl,d,l⟩
theorem El.YX{d:cY}{l:List Nd}(h:El base w k name av ff kv ns)(H:w'.heap[k]?=w.heap[k]?)(A:w'.ownsRow base 141 1 d l.length (l.map Nd.val))(I:l.length<=1048576):El base (w'.setCell ⟨k,3,none⟩ d) k name av ff d l:=by
 have q:=H.trans h.du;refine⟨bJ q 3 d,xC A ?_ _,I,h.XV⟩;intro n;rcases A.2 with⟨e,_⟩|⟨g,cap,D,e,_,U,_⟩;rw[e]at n;cases n;rw[e]at n;obtain rfl:=je n;grind
def El.aeR(h:El base w k name av ff kv ns)(p:eG):El base (w.setCell ⟨k,2,none⟩ (ig p)) k name av p kv ns:=
 ⟨bJ h.du 2 _,xC h.row (h.oO h.du (by decide)) _,h.le,h.XV⟩
def iO{a:Addr}(h:b≠a.block):(w.setCell a u).cell? ⟨b,j,none⟩=w.cell? ⟨b,j,none⟩:=afm (Below.heap_setCell w a u b h)
def Y4{X e:TypeId}(d:prog.underlying X=some (.pointer e))(v:cY)(h:TypeId)(w:J):(Instr.typeAssert (.iface X v) h X true).run prog w=.ok (.tuple #[v,.bool true]) w:=by
 simp[Instr.typeAssert,qP d]
def Fm{X T e:TypeId}(l:prog.underlying X=some (.pointer e))(h:(prog.info? X).bind (·.zero)=some (.pointer none))(d:T≠X)(v:cY)(n:TypeId)(w:J):(Instr.typeAssert (.iface T v) n X true).run prog w=.ok (.tuple #[.pointer none,.bool false]) w:=by
 have⟨i,hi,h⟩:=Option.bind_eq_some_iff.1 h;simp[Instr.typeAssert,qP l,d,zeroValue,typeInfo,hi,h]
structure ab2(base k:Nat)(name:O)(av kv:cY)(ff:eG)(ns:List Nd)(w w':J):Prop where
 ex:∃kv',El base w' k name av ff kv' ns/\(kv'.ownBlock=kv.ownBlock\/∀g,kv'.ownBlock=some g->w.heap.size<=g)
 kept:Z (k::kv.ownBlock.toList) w w'
def QZ(base k n:Nat)(name:O)(av:cY)(ff:eG)(ao:Option Addr)(cap:Nat)(ns:List Nd)(x:Nd)(A:TypeId)(q:cY)(w w1:J)(b10 b11 l:Bool)(d:cY)(W:J):Prop:=
 if l then ab2 base k name av (.slice ao ns.length cap) ff (ns.take n++[x]++ns.drop n) w W/\W.heap[w.heap.size]?=some (cV #[cW k,G n] 231)
 else if b11 then W.ownsRow base 141 1 d (ns.length+1) ((ns.map Nd.val).take n++[.iface A q]++(ns.map Nd.val).drop n)/\Z (Value.slice ao ns.length cap).ownBlock.toList w1 W/\(d.ownBlock=(Value.slice ao ns.length cap).ownBlock\/∀g,d.ownBlock=some g->w1.heap.size+1<=g)
 else if b10 then ∃h,Z [] w1 h/\h.heap.size=w1.heap.size/\W=h.alloc (cV #[.iface A q] 141)
 else Z [] w1 W/\W.heap.size=w1.heap.size
theorem QZ.du{n:Nat}{x:Nd}{I:TypeId}{H:cY}{b10 b11 d:Bool}{q:cY}(h:QZ base k n name av ff ao cap ns x I H w w1 b10 b11 d q W)(l:w1.heap[w.heap.size]?=some (cV #[cW k,G n] 231))(A:w.heap.size∉(Value.slice ao ns.length cap).ownBlock.toList):W.heap[w.heap.size]?=some (cV #[cW k,G n] 231):=by
 unfold QZ at h;split at h;exact h.2;split at h;exact h.2.1.at l A;split at h;obtain⟨U,D,_,rfl⟩:=h;exact(D.alloc _).at l (by simp);exact h.1.at l (by simp)
theorem QZ.old{n:Nat}{x:Nd}{q:TypeId}{l:cY}{b10:Bool}{d:cY}(h:QZ base k n name av ff ao cap ns x q l w w1 b10 false false d W):Z [] w1 W:=by
 unfold QZ at h;grind[Z.alloc]
theorem ahC{n:Nat}{h d:J}(D:Z [] w1 h)(I:h.heap.size=w1.heap.size)(A:W=h.alloc (cV #[u] 141))(q:d.ownsRow base 141 1 v' (ns.length+1) ((ns.map Nd.val).take n++[u]++(ns.map Nd.val).drop n))(l:Z (Value.slice ao ns.length cap).ownBlock.toList W d)(H:v'.ownBlock=(Value.slice ao ns.length cap).ownBlock\/∀k,v'.ownBlock=some k->W.heap.size<=k):
  d.ownsRow base 141 1 v' (ns.length+1) ((ns.map Nd.val).take n++[u]++(ns.map Nd.val).drop n)/\Z (Value.slice ao ns.length cap).ownBlock.toList w1 d/\(v'.ownBlock=(Value.slice ao ns.length cap).ownBlock\/∀g,v'.ownBlock=some g->w1.heap.size+1<=g):=by
 subst A;refine⟨q,((D.alloc _).mono (by simp)).trans l,?_⟩;simp_all
theorem ahB{n:Nat}{h:Option Addr}{d:Nat}{x:Nd}(l:El base w1 k name av ff (.slice ao ns.length cap) ns)(k1:Z [] w w1)(z1:w1.heap.size=w.heap.size+1)(hg:w1.heap[w.heap.size]?=some (cV #[cW k,G n] 231))(D:k∉(Value.slice ao ns.length cap).ownBlock.toList)(A:w.heap.size∉(Value.slice ao ns.length cap).ownBlock.toList)(hn:n<=ns.length)(hl:ns.length<1048576)(a0:w.heap.size≠k)(H:x.val=u)
  (ho:W.ownsRow base 141 1 (.slice h (ns.length+1) d) (ns.length+1) ((ns.map Nd.val).take n++[u]++(ns.map Nd.val).drop n)) (q:Z (Value.slice ao ns.length cap).ownBlock.toList w1 W) (hf:(Value.slice h (ns.length+1) d).ownBlock=(Value.slice ao ns.length cap).ownBlock\/∀g,(Value.slice h (ns.length+1) d).ownBlock=some g->w1.heap.size+1<=g):
  ab2 base k name av (.slice ao ns.length cap) ff (ns.take n++[x]++ns.drop n) w (W.setCell ⟨k,3,none⟩ (.slice h (ns.length+1) d))/\(W.setCell ⟨k,3,none⟩ (.slice h (ns.length+1) d)).heap[w.heap.size]?=some (cV #[cW k,G n] 231):=by
 have I:(ns.take n++[x]++ns.drop n).length=ns.length+1:=by grind
 have U:(ns.take n++[x]++ns.drop n).map Nd.val=(ns.map Nd.val).take n++[u]++(ns.map Nd.val).drop n:=by simp[H]
 have g2:=q.at hg A;refine⟨⟨⟨.slice h _ d,l.YX ((q.at l.du D).trans l.du.symm) (by grind) (by omega),?_⟩,(((k1.mono (by simp)).next q (λy hy=> .inl (io _ hy))).setCell (.inl (by simp)) _)⟩,?_⟩;grind;grind[Below.heap_setCell]
theorem YJ(base k n:Nat)(name:O)(av kv:cY)(ff:eG)(ns:List Nd)(x:Nd)(w:J)(h:El base w k name av ff kv ns)(a4:n<=ns.length)(hl:ns.length<1048576)(hb:base<=w.heap.size)(aj:J->Prop)
  (hZ:∀wc,ab2 base k name av kv ff (ns.take n++[x]++ns.drop n) w wc->match x with
   | .el j=>(∃p,wc.cell? ⟨j,2,none⟩=some p)/\wc.frozen? ⟨j,2,none⟩=false/\aj (wc.setCell ⟨j,2,none⟩ (cW k))
   |_=>aj wc):
  Calls prog 169 #[place k n,x.val] w λe w'=>e=nu/\aj w':=by
 have ai:=eS h.du;have a5:=h.row.lt;obtain⟨w1,hw1⟩:∃w1,w1=w.alloc (cV #[cW k,G n] 231):=⟨_,rfl⟩;have k1:Z [] w w1:=by rw[hw1];exact(Z.refl _ _).alloc _
 have g1:w1.heap[w.heap.size]?=some (cV #[cW k,G n] 231):=by rw[hw1];exact aY w _
 have z1:w1.heap.size=w.heap.size+1:=by rw[hw1];simp
 have h1:=h.kept k1 (by simp) (by simp);obtain⟨ao,cap,rfl⟩:=cP h.row;have HI:∀W,Z [] w1 W->W.heap.size=w1.heap.size->Calls prog 260 #[.slice ao ns.length cap,G n,ky w1.heap.size 1 1] (W.alloc (cV #[x.val] 141)) (abX 141 base (.slice ao ns.length cap) ns.length n (ns.map Nd.val) x.val (W.alloc (cV #[x.val] 141))):=by
  intro W kW zW;have k2:Z [] w1 (W.alloc (cV #[x.val] 141)):=kW.alloc _;have g2:=aY W (cV #[x.val] 141);rw[zW]at g2;exact aiB (.inr ⟨rfl,rfl,rfl,rfl,rfl,rfl⟩) base ns.length n w1.heap.size _ x.val (ns.map Nd.val) _ (k2.ownsRow h1.row (λ_ _=>by simp)) g2 (λe=>by grind) x.one (YB ns) a4 h.le (by grind)
 have l:=V hZ;have H1:=V h1;have H:=V HI;have a6:=V k1;have a0:=V g1;have a8:=V z1;have af:=V a5;have a2:=V (show k∉(Value.slice ao ns.length cap).ownBlock.toList by simpa using h1.oO h1.du (by decide));have a1:=V (show w.heap.size∉(Value.slice ao ns.length cap).ownBlock.toList by grind);have ad:w.heap.size≠k:=by omega
 have a7:=V hw1;clear h h1 HI hZ k1 g1 z1 a5 hw1;obtain⟨xt,U,d⟩:∃xt U,x.val=.iface xt U:=by cases x<;>exact⟨_,_,rfl⟩
 rw[d]at H|-;go_enter func169,ntmps169;go_wp21;rw[<-a7.out]
 go_cut []from 6 to 19 (λwc=>ab2 base k name av (.slice ao ns.length cap) ff (ns.take n++[x]++ns.drop n) w wc/\wc.heap[w.heap.size]?=some (cV #[cW k,G n] 231))
 case first=>
  refine tz (by rfl) ?_;refine ln (λ(g:cY) z=>⟨#[place k n,.iface xt U,cW w.heap.size,undef,undef,undef,cd z 0 (cW w.heap.size),cd z 1 (cW k),cd z 2 (cW w.heap.size),cd z 3 (cW k),cd z 4 (cW k),cd z 5 (fR k 3),cd z 6 (.slice ao ns.length cap),cd z 7 (fR w.heap.size 1),cd z 8 (G n),cd z 9 (.iface xt U),cd z 10 (ky w1.heap.size 1 1),cd z 11 (g),cd z 12 (cW k),cd z 13 (fR k 3),undef,undef,undef,undef,undef,undef,undef,undef,undef,undef,undef],[]⟩) (λg z W=>QZ base k n name av ff ao cap ns x xt U w w1 (dn z 10) (dn z 11) (dn z 14) g W) 15 [[],[0],[],[2],[3],[4],[5],[],[7],[],[9],[2,3,4,5,6,7,8,9,10],[1],[12],[0,1,2,3,4,5,6,7,8,9,10,11,12,13]] (undef) rfl (by rfl) (⟨(Z.refl [] w1).drew,rfl⟩) ?_ ?_
  .repeat' first|exact iU|refine iT ?_ ?_
   all_goals
    rintro g z W hI hc hn;simp[yU]at hc;refine jO rfl ?_;intro K' D;simp only[iL,hc];have gB:=hI.du a0 a1;have ag:W.cell? ⟨w.heap.size,0,none⟩=some (cW k):=by rw[aN gB];rfl
    have ah:W.cell? ⟨w.heap.size,1,none⟩=some (G n):=by rw[aN gB];rfl
    have q:=hI
    try simp only[hc]at q
    try rw[hn 14 (by decide)]at q
    try rw[hn 11 (by decide)]at q
    try (have cK:W.cell? ⟨k,3,none⟩=some (.slice ao ns.length cap):=(by rw[aN (q.old.at H1.out.du (by simp))];rfl))
    go_simp
    first
    |refine D _ _ ⟨g,?_,(by rw[iR (by decide),iR (by decide),iR (by decide)];exact hI)⟩
    |have q:Z [] w1 W/\W.heap.size=w1.heap.size:=q;refine D _ _ ⟨g,?_,(by rw[mn,iR (by decide),iR (by decide),hn 11 (by decide),hn 14 (by decide)];grind[QZ])⟩;simp[lF,td,iL,hc,q.2]
    |obtain⟨W0,q1,q2,hq⟩:∃W0,Z [] w1 W0/\W0.heap.size=w1.heap.size/\W=W0.alloc (cV #[.iface xt U] 141):=q;have C:=V (H W0 q1 q2);rw[<-hq]at C;refine C.mono ?_;rintro e W2⟨v',rfl,ae,ac,ab⟩;refine D _ _ ⟨v',?_,(by rw[mn,iR (by decide),iR (by decide),hn 14 (by decide)];exact ahC q1 q2 hq ae ac ab)⟩
    |obtain⟨ho,hk,hf⟩:W.ownsRow base 141 1 g (ns.length+1) ((ns.map Nd.val).take n++[Value.iface xt U]++(ns.map Nd.val).drop n)/\Z (Value.slice ao ns.length cap).ownBlock.toList w1 W/\(g.ownBlock=(Value.slice ao ns.length cap).ownBlock\/∀b,g.ownBlock=some b->w1.heap.size+1<=b):=q;obtain⟨a9,a3,rfl⟩:=cP ho;have gK:=hk.at H1.du a2;have cK:W.cell? ⟨k,3,none⟩=some (.slice ao ns.length cap):=(by rw[aN gK];rfl);have zK:=cQ gK 3;go_simp;refine D _ _ ⟨.slice a9 (ns.length+1) a3,?_,(by rw[mn];exact ahB H1 a6 a8 a0 a2 a1 a4 hl ad d ho hk hf)⟩
    all_goals simp[lF,td,iL,hc]
  .rintro g W hI;rw[sB,sB,sB]at hI;simp only[sv];rename_i JJ aa;refine aa _ _ ?_;go_meet;exact hI
 case rest=>
  have⟨hp,hbx⟩:=hcut;have A:=l _ hp;clear hp H H1 l;cases x with
  |el j=>
   have⟨⟨p,c2⟩,fz,A⟩:=A;have l:=V A;injection d with e1 e2;subst e1 e2;have cb:wc.cell? ⟨w.heap.size,0,none⟩=some (cW k):=by rw[aN hbx];rfl
   have I:=Y4 (X:=68) underlying68;clear hbx A;go_wp2;go_end0;exact⟨rfl,l⟩
  |tx j=>
   have l:=V A;injection d with e1 e2;subst e1 e2;have I:=Fm (X:=68) (T:=277) underlying68 rfl (by decide);clear A;go_wp2;go_end0;exact⟨rfl,l⟩
  |cm j=>
   have l:=V A;injection d with e1 e2;subst e1 e2;have I:=Fm (X:=68) (T:=233) underlying68 rfl (by decide);clear A;go_wp2;go_end0;exact⟨rfl,l⟩
  |dt j=>
   have l:=V A;injection d with e1 e2;subst e1 e2;have I:=Fm (X:=68) (T:=237) underlying68 rfl (by decide);clear A;go_wp2;go_end0;exact⟨rfl,l⟩
theorem aeB(base k n:Nat)(name:O)(av kv:cY)(ff:eG)(ns:List Nd)(x:Nd)(w:J)(h:El base w k name av ff kv ns)(q:n<=ns.length)(l:ns.length<1048576)(d:base<=w.heap.size)(D:∀j,x≠ .el j):
  Calls prog 169 #[place k n,x.val] w λe w'=>e=nu/\ab2 base k name av kv ff (ns.take n++[x]++ns.drop n) w w':=by
 refine YJ base k n name av kv ff ns x w h q l d _ λwc A=>?_;grind
theorem WX(base k n j:Nat)(name D:O)(av kv q l:cY)(ff I:eG)(ns H:List Nd)(w:J)(h:El base w k name av ff kv ns)(hj:El base w j D q I l H)(a0:j≠k)(a3:∀g,l.ownBlock=some g->kv.ownBlock≠some g)(hn:n<=ns.length)(hl:ns.length<1048576)(hb:base<=w.heap.size):
  Calls prog 169 #[place k n,(Nd.el j).val] w λe w'=>e=nu/\(∃d,El base w' k name av ff d (ns.take n++[.el j]++ns.drop n)/\(d.ownBlock=kv.ownBlock\/∀g,d.ownBlock=some g->w.heap.size<=g))/\El base w' j D q (some k) l H/\Z (j::k::kv.ownBlock.toList) w w':=by
 refine YJ base k n name av kv ff ns _ w h hn hl hb _ λwc hp=>?_;have a2:∀g,l.ownBlock=some g->g∉k::kv.ownBlock.toList:=by
  intro g hg A;rcases List.mem_cons.1 A with rfl|A;exact hj.oO h.du (by decide) hg;grind
 have a1:j∉k::kv.ownBlock.toList:=by
  intro A;rcases List.mem_cons.1 A with e|A;omega;exact h.oO hj.du (by decide) (by grind)
 have U:=hj.kept hp.kept a1 a2;have⟨d,E2,f2⟩:=hp.ex;have E3:El base (wc.setCell _ (ig (some k))) k name av ff d _:=
  ⟨by rw[Below.heap_setCell wc ⟨j,2,none⟩ _ k (wj a0)];exact E2.du,xC E2.row (E2.oO U.du (by decide)) _,E2.le,E2.XV⟩
 exact⟨⟨_,(by rw[aN U.du];rfl)⟩,(cQ U.du 2),⟨d,E3,f2⟩,U.aeR (some k),(hp.kept.mono (λy hy _=>io _ hy)).setCell (.inl (by simp)) _⟩
def adC:(prog.info? 141).map (λi=>(i.zero,i.size,i.bytes))=some (some (.nilIface),1,16):=by kernel_rfl
theorem ZY{l:List cY}{n:Nat}(d:i<j)(h:j<=n)(q:n<=l.length):
  ((l.take i++(l.take n).drop j++l.drop (i+(n-j))).take (n-(j-i)))=(l.take n).take i++(l.take n).drop j:=by
 grind[List.length_take]
theorem agi(g cap i j n:Nat)(q:fN)(w:J)(H:w.heap[g]?=some (cV q 141))(ac:n<=cap)(ad:q.size=cap)(hi:i<j)(hj:j<=n)(ab:n<=1048576)
  (h1:∀u∈q.toList.take n,u.oneCell'=true):
  Calls prog 380 #[ky g n cap,G i,G j] w λe w'=>e=dw (ky g (n-(j-i)) cap)/\
   ∃I,w'.heap[g]?=some (cV I 141)/\I.size=cap/\I.toList.take (n-(j-i))=(q.toList.take n).take i++(q.toList.take n).drop j/\Z [g] w w':=by
 obtain⟨i0,a5,ae,a7,af⟩:=rQ adC;obtain⟨d,D⟩:∃d,d=(q.toList.take n).drop j:=⟨_,rfl⟩;have U:d.length=n-j:=by rw[D];simp;omega
 have a2:∀t u,d[t]?=some u->q[j+t]?=some u:=by
  intro t u hu;rw[D,Ze,QK]at hu;split at hu;grind;cases hu
 obtain⟨A,hA,a3⟩:∃A:Addr,(if cap=j then some (⟨g,0,none⟩:Addr)else some ⟨g,j,none⟩)=some A/\Hid (∀t u,d[t]?=some u->w.drew.cell? (A.add t)=some u):=by
  by_cases h:cap=j;refine⟨⟨g,0,none⟩,by simp[h],λt u hu=>?_⟩;grind;refine⟨⟨g,j,none⟩,by simp[h],λt u hu=>?_⟩;rw[show(⟨g,j,none⟩:Addr).add t=⟨g,j+t,none⟩from by unfold Addr.add;simp];exact(aN H _).trans (a2 t u hu)
 have s1:Hid (d.length=(n-j)*1):=by rw[D9];exact U
 have s2:Hid (∀u∈d,u.oneCell'=true):=λu hu=>h1 u (Lh (D▸hu));have s3:Hid (∀t,t<d.length->(w.drew.cell? ⟨g,0+i*1+t,none⟩).isSome=true/\w.drew.frozen? ⟨g,0+i*1+t,none⟩=false):=by
  intro t ht;rw[U]at ht;refine⟨?_,cQ H _⟩;show(w.cell? _).isSome=true;rw[aN H,xA (by omega)];rfl
 obtain⟨W1,a0⟩:∃W1,W1=w.drew.setCells g (0+i*1) d:=⟨_,rfl⟩;have a1:W1.heap[g]?=some (cV (fI q (0+i*1) d) 141):=by rw[a0];exact ie d w.drew g q _ _ _ H
 have a4:Z [g] w W1:=by rw[a0];exact Z.setCells (.inl (by simp)) d _ (Z.refl _ _).drew
 have a8:∀ty,(Builtin.clear_ #[137] ty #[.slice (some ⟨g,i+(n-j),none⟩) (n-(i+(n-j))) (cap-(i+(n-j)))]).run prog W1=.ok (.tuple #[]) (W1.setCells g (i+(n-j)) (List.replicate (n-(i+(n-j))) (.nilIface))):=
  λty=>Lib.run_clear_slice W1 _ _ ty _ underlying137 Tryz.zeroValue141 rfl rfl g (i+(n-j)) _ _ (by omega) (λt ht=>by rw[aN a1,xA (by grind[fU])];rfl) (λt ht=>cQ a1 _)
 have HB:=ie (List.replicate (n-(i+(n-j))) (Value.nilIface)) W1 g _ _ _ (i+(n-j)) a1;have HK:=Z.setCells (S:=[g]) (a:=w) (b:=g) (.inl (by simp)) (List.replicate (n-(i+(n-j))) (Value.nilIface)) (i+(n-j)) a4;have a6:=il (List.replicate (n-(i+(n-j))) (Value.nilIface)) (fI q (0+i*1) d) (i+(n-j)) (by grind[fU]);have HF:(fI (fI q (0+i*1) d) (i+(n-j)) (List.replicate (n-(i+(n-j))) (Value.nilIface))).toList.take (n-(j-i))=(q.toList.take n).take i++(q.toList.take n).drop j:=by
  rw[a6,se,GF (by simp[fU];omega),(il _ _ _ (by omega)),U,D];rw[Om,UK (by omega)];have:=ZY (l:=q.toList) hi hj (by grind)
  simpa using this
 have HW:=V a0;have a9:i<=cap:=by omega
 have aa:j<=cap:=by omega
 clear a0;go_enter func380,ntmps380;go_wp21
 go_region_law (refine step_append_room rfl (.tmp 22) (.tmp 25) 137 rfl 141 i0 1 underlying137 a5 a7 g 0 i cap (by simp[Act.eval,Act.put]) A (n-j) (cap-j) d (by simp[Act.eval,Act.put]) s1 a3 s2 (by omega) s3 ?_;rw[<-HW.out])
 go_wp2;go_ret;exact⟨by rw[show n-(j-i)=i+(n-j) by omega];rfl,_,HB,by grind[fU],HF,HK⟩
def Nd.du:Nd->Nat
 | .el k=>k
 | .tx k=>k
 | .cm k=>k
 | .dt k=>k
def Nd.typ:Nd->TypeId
 | .el _=>139
 | .tx _=>280
 | .cm _=>235
 | .dt _=>239
def zf(w:J)(x:Nd):Prop:=∃c,w.heap[x.du]?=some (cV c x.typ)
def Nd.de(j:Nat):Nd->Bool
 | .el k=>k==j
 |_=>false
def ndc:(prog.info? 68).map (λi=>i.comparable)=some true:=by kernel_rfl
def EA{T U:TypeId}(l:T≠U)(w:J):(binOp .eql 141 (.iface T v) (.iface U u)).run prog w=.ok (.bool false) w:=by
 have h:∀d:Nat,(Op.equalIn (d+1) 141 (.iface T v) (.iface U u)).run prog w=.ok false w:=λd=>by simp[Op.equalIn,qP underlying141,l]
 simp only[binOp];simp[Op.equal,Op.maxDepth,h 9999]
def ajM{x:Nd}(A:zf w x)(n:zf w (.el j)):
  (binOp .eql 141 x.val (Nd.el j).val).run prog w=.ok (.bool (x.de j)) w:=by
 obtain⟨i,l,d⟩:=Option.map_eq_some_iff.1 ndc;have⟨q,hq,hqs⟩:=Option.map_eq_some_iff.1 X7;cases x with
 |el k=>
  by_cases h:k=j;subst h;have e:(Nd.el k).de k=true:=by simp[Nd.de]
  rw[e];exact run_eql_iface_ptr_same w _ underlying141 underlying68 l d hq;have⟨ca,ha⟩:=A;have⟨cb,hb⟩:=n;have e:(Nd.el k).de j=false:=by simp[Nd.de,h]
  rw[e];exact run_eql_iface_ptr_other w underlying141 underlying68 l d hq (by omega) (by simp) ha hb
 |tx k=>exact EA (by decide) w
 |cm k=>exact EA (by decide) w
 |dt k=>exact EA (by decide) w
def Fs(x:Nd):∃T v,x.val=.iface T (.pointer v):=by cases x<;>exact⟨_,_,rfl⟩
def Sx(d j:Nat)(x:Nd)(w:J)(q:w.cell? ⟨d,0,none⟩=some (cW j))(n:zf w x)(l:zf w (.el j)):
  Calls prog 365 #[x.val,cW d] w λe w'=>e=dw (.bool (x.de j))/\w'=w:=by
 have h:=ajM n l;have⟨T,p,hv⟩:=Fs x;rw[hv]at h|-;unfold Nd.val at h;go_wp2;go_ret;simp
def lO(ns:List Nd)(p:Nd->Bool):Int:=if ns.findIdx p<ns.length then (ns.findIdx p:Int)else -1
theorem ahp{p:Nd->Bool}(h:k<ns.length)(l:p ns[k]=true)(d:∀j,(hj:j<ns.length)->j<k->p ns[j]=false):lO ns p=k:=by
 grind[lO]
theorem ahq{p:Nd->Bool}(d:∀j,(hj:j<ns.length)->p ns[j]=false):lO ns p= -1:=by
 grind[lO]
theorem agH(kv:cY)(ns:List Nd)(base A j:Nat)(w:J)(ho:w.ownsRow base 141 1 kv ns.length (ns.map Nd.val))(hn:∀x∈ns,zf w x)(hj:zf w (.el j))(hb:w.cell? ⟨A,0,none⟩=some (cW j))(a0:ns.length<=1048576):
  Calls prog 364 #[kv,.func (.func 365) #[] #[cW A]] w λe w'=>e=dw (G (lO ns (Nd.de j)))/\w'=w:=by
 have HC:=(λx hx=>Sx A j x w hb (hn x hx) hj);rcases ho.2 with⟨rfl,e0⟩|⟨g,cap,D,rfl,_,n,a2,_,_,l⟩
 .have q:ns=[]:=QJ e0;subst q;go_enter func364,ntmps364;go_wp2;refine tW 1 ?_;rw[mg];go_wp2;go_ret;simp[lO]
 .have HL:∀k,(H:k<ns.length)->w.cell? ⟨g,k,none⟩=some ns[k].val:=by
   intro k H;rw[aN n];have:(D.toList.take (ns.length*1))[k]?=some ns[k].val:=by rw[l];simp[H]
   rw[QK]at this;split at this;grind;omega
  go_enter func364,ntmps364;go_wp2
  go_loopw [8] (λi wr=>∃k:Nat,k<=ns.length/\i=G k/\wr=w/\∀m,(I:m<ns.length)->m<k->(ns[m]).de j=false) (λi _=>ns.length-(intOf i).toNat)
  case atStart=>grind
  case round=>
   obtain⟨k,H,rfl,rfl,HN⟩:=hrel;by_cases h:k<ns.length
   .have c2:=HL k h;have d:=HC ns[k] (sd h);have⟨T,p,hv⟩:=Fs ns[k];rw[hv]at c2 d;cases hq:(ns[k]).de j with
    |true=>
     rw[hq]at d;have U:=V (ahp h hq HN);go_wp21;refine d.mono ?_;rintro e w'⟨rfl,hw⟩;subst hw;go_wp2;go_ret;exact⟨by rw[U.out];rfl,rfl⟩
    |false=>
     rw[hq]at d;have HQ:=hq;go_wp21;refine d.mono ?_;rintro e w'⟨rfl,hw⟩;subst hw;go_wp2;go_roundw
     case rel=>
      refine⟨k+1,by omega,by go_num,by simp,λm I a1=>?_⟩;grind
     case measure=>simp[intOf];omega
   .have U:=V (ahq (ns:=ns) (p:=Nd.de j) (λm I=>HN m I (by omega)));go_wp2;go_ret;exact⟨by rw[U.out];rfl,rfl⟩
theorem JA(base k j:Nat)(name:O)(av kv:cY)(ff:eG)(ns:List Nd)(w:J)(h:El base w k name av ff kv ns)(A:∀x∈ns,zf w x)(n:zf w (.el j)):
  Calls prog 342 #[cW k,cW j] w λe w'=>e=dw (G (lO ns (Nd.de j)))/\Z [] w w':=by
 have d:Z [] w (w.alloc (cV #[cW j] 68)):=(Z.refl _ _).alloc _;have nd:∀x,zf w x->zf _ x:=λx ⟨c,l⟩=>⟨c,d.at l (by simp)⟩;have H:=aN h.du 3;have q:=eS h.du;go_enter func342,ntmps342;go_wp21;refine(agH kv ns base w.heap.size j _ (d.ownsRow h.row (λ_ _=>by simp)) (λx D=>nd x (A x D)) (nd _ n) (by simp) h.le).mono ?_;rintro e w'⟨rfl,rfl⟩;go_wp2;go_ret;simp_all
theorem JM(h:El base w k name av ff kv ns){m:Nat}(D:m<ns.length):∃g cap,kv=ky g ns.length cap/\w.cell? ⟨g,m,none⟩=some ns[m].val:=by
 rcases h.row.2 with⟨_,A⟩|⟨g,cap,l,rfl,_,d,q,_,_,n⟩;omega;refine⟨g,cap,rfl,?_⟩;rw[aN d];have:(l.toList.take (ns.length*1))[m]?=some ns[m].val:=by grind
 grind
theorem Mn(base k m A:Nat)(name d s:O)(av kv:cY)(ff:eG)(ns:List Nd)(w:J)(h:El base w k name av ff kv ns)(hm:m<ns.length)(hx:ns[m]=.tx A)(ht:w.heap[A]?=some (cV #[Y d] 280))(a5:d.size+s.size<=1048576):
  Calls prog 176 #[place k (m+1),Y s] w λe w'=>e=nu/\w'.heap[A]?=some (cV #[Y (d++s)] 280)/\Z [A] w w':=by
 obtain⟨g,cap,rfl,c4⟩:=JM h hm;rw[hx]at c4;have a2:=eS h.du;have a7:=eS ht;have a3:=h.le;obtain⟨w1,l⟩:∃w1,w1=w.alloc (cV #[cW k,G ((m+1:Nat))] 231):=⟨_,rfl⟩;have n:Z [] w w1:=by rw[l];exact(Z.refl _ _).alloc _
 have g1:w1.heap[w.heap.size]?=some (cV #[cW k,G ((m+1:Nat))] 231):=by rw[l];exact aY w _
 have h1:=h.kept n (by simp) (by simp);have q:=n.at ht (by simp);have H:=aN g1 0;have I:=aN g1 1;have U:=aN h1.du 3;dsimp at H I U;have cG:w1.cell? ⟨g,m,none⟩=some (Nd.tx A).val:=by
  have⟨g',cap',e,c⟩:=JM h1 hm;injection e with e1;injection e1 with e2;injection e2 with e3;rw[e3,c,hx]
 unfold Nd.val at cG;have cT:=aN q 0;have fT:=cQ q 0;dsimp at cT;have a6:=Y4 (X:=277) underlying277;have D:=V l;have a4:(m:Int)<ns.length:=by omega
 clear l;go_enter func176,ntmps176;go_wp21;rw[show((m+1:Nat):Int)=(m:Int)+1 by omega]at D;rw[<-D.out]
 go_quiet (fail)
 have a0:=cT;have a1:=fT;have HB:=bJ (w:=w1.drewN nq) q 0 (Y (d++s));have HK:=((n.mono (S':=[A]) (by simp)).drewN nq).setCell (p:=⟨A,0,none⟩) (.inl (by simp)) (Y (d++s));go_wp2;refine nr (GG rfl _ _ _) rfl ?_;grind
theorem PX(base k n:Nat)(name s:O)(av kv:cY)(ff:eG)(ns:List Nd)(w:J)(h:El base w k name av ff kv ns)(hn:n<=ns.length)(Q:J->Prop)(l:∀w1,Z [] w w1->Calls prog 169 #[place k n,(Nd.tx w1.heap.size).val] (w1.alloc (cV #[Y s] 280)) λe w'=>e=nu/\Q w')(hx:∀m,(hm:m<ns.length)->n=m+1->∀t,ns[m]≠ .tx t):
  Calls prog 176 #[place k n,Y s] w λe w'=>e=nu/\Q w':=by
 have a5:=eS h.du;have a6:=h.le;obtain⟨w1,d⟩:∃w1,w1=w.alloc (cV #[cW k,G n] 231):=⟨_,rfl⟩;have k1:Z [] w w1:=by rw[d];exact(Z.refl _ _).alloc _
 have g1:w1.heap[w.heap.size]?=some (cV #[cW k,G n] 231):=by rw[d];exact aY w _
 have h1:=h.kept k1 (by simp) (by simp);have U:=aN g1 0;have D:=aN g1 1;dsimp at U D;have A:=V d;have H:w1.heap.size=w.heap.size+1:=by rw[d];simp
 by_cases h0:n=0
 .subst h0;have hP:=l w1 k1;rw[H,d]at hP;have I:=(hP);clear d H;go_enter func176,ntmps176;go_wp21;refine I.mono ?_;rintro e w'⟨rfl,HR⟩;go_wp2;go_end0;grind
 .obtain⟨m,rfl⟩:∃m,n=m+1:=⟨n-1,by omega⟩;have hm:m<ns.length:=by omega
  have a8:=hx m hm rfl;have⟨g,cap,hkv,c4⟩:=JM h1 hm;subst hkv;have a0:=aN h1.du 3;dsimp at a0;have a1:∀(xT:TypeId)(w:J),(Instr.typeAssert ns[m].val xT 277 true).run prog w=.ok (.tuple #[.pointer none,.bool false]) w:=by
   intro xT w;cases hq:ns[m]with
   |tx t=>grind
   |el t=>exact Fm (X:=277) underlying277 rfl (by decide) _ _ _
   |cm t=>exact Fm (X:=277) underlying277 rfl (by decide) _ _ _
   |dt t=>exact Fm (X:=277) underlying277 rfl (by decide) _ _ _
  have I:=
   λq=>l (w1.drewN q) (k1.drewN q)
  have⟨xt,xp,hxv⟩:=Fs ns[m];rw[hxv]at c4 a1;have a7:(m:Int)<ns.length:=by omega
  have a2:w1.cell? ⟨w.heap.size,1,none⟩=some (G ((m:Int)+1)):=D;have a3:w.heap.size<w1.heap.size:=by omega
  rw[show((m+1:Nat):Int)=(m:Int)+1 by omega]at A;have a4:=V H;clear d H;go_enter func176,ntmps176;go_wp21;rw[<-A.out]
  go_quiet (fail)
  go_wp21;refine(I nq).mono ?_;rintro e w'⟨rfl,HR⟩;go_wp2;go_end0;grind
theorem zf.kept{x:Nd}(h:zf w x)(d:Z [] w w'):zf w' x:=by
 have⟨c,hc⟩:=h;exact⟨c,d.at hc (by simp)⟩
theorem El.aav(h:El base w k name av ff kv ns):zf w (.el k):=⟨_,h.du⟩
def OJ(w:J)(o:Obj):∃W,W=w.alloc o/\Z [] w W/\W.heap[w.heap.size]?=some o/\W.heap.size=w.heap.size+1:=⟨_,rfl,(Z.refl _ _).alloc _,aY w _,by simp⟩
def adl(base j:Nat)(name:O)(av kv:cY)(ns:List Nd)(w:J)(h:El base w j name av none kv ns):
  Calls prog 315 #[cW j] w λe w'=>e=dw (.tuple #[.agg #[.pointer none,G 0],.bool false])/\Z [] w w':=by
 have n:=(aN h.du 2).trans rfl;have l:=eS h.du;have d:=(Z.refl [] w).alloc (cV #[.pointer none,G 0] 231);go_enter func315,ntmps315;go_wp2;refine nr ?_ rfl ⟨rfl,d⟩;simp[results,results315,asAddr,Result.andThen,go_sem]
def aaj(base j p:Nat)(name U:O)(av kv H I:cY)(l:eG)(ns d:List Nd)(w:J)(h:El base w j name av (some p) kv ns)(hp:El base w p U H l I d)(hn:∀x∈d,zf w x):
  Calls prog 315 #[cW j] w λe w'=>e=dw (.tuple #[.agg #[cW p,G (lO d (Nd.de j))],.bool true])/\Z [] w w':=by
 have⟨w1,hw1,HK1,HG1,z1⟩:=OJ w (cV #[.pointer none,G 0] 231);have c2:=(aN (HK1.at h.du (by simp)) 2).trans rfl;have a4:=eS h.du;have A:j≠w.heap.size:=by omega
 have CI:=(λ(W:J) (hk:Z [] w W)=>JA base p j U H I l d W (hp.kept hk (by simp) (λ_ _=>by simp)) (λx hx=>(hn x hx).kept hk) (h.aav.kept hk));have a3:w.cell? ⟨j,2,none⟩=some (cW p):=(aN h.du 2).trans rfl;have a2:=V hw1;have HB:=h.du;clear hw1;generalize lO d (Nd.de j)=q at CI|-;go_enter func315,ntmps315;go_wp21;rw[<-a2.out]
 go_region_held3 (λw'=>w'.cell? ⟨j,2,none⟩=some (cW p)) ((first|assumption|go_keep|exact(iO A).trans (by assumption)|exact(iO A).trans ((iO A).trans (by omega)))) ((go_at_call 342;refine(CI _ HK1.drew).mono ?_;rintro e w2⟨rfl,n⟩;have K2:Z [] w w2:=HK1.drew.trans n;have d2:w2.cell? ⟨j,2,none⟩=some (cW p):=(aN (K2.at HB (by simp)) 2).trans rfl;have D:w2.heap[w.heap.size]?=some (cV #[.pointer none,G 0] 231):=((Z.refl [] w1).drew.trans n).at HG1 (by simp);have e0:w2.cell? ⟨w.heap.size,0,none⟩=some (.pointer none):=(aN D 0).trans rfl;have e1:w2.cell? ⟨w.heap.size,1,none⟩=some (G 0):=(aN D 1).trans rfl;have y0:=cQ D 0;have y1:=cQ D 1;have a0:=V D;have a1:=V K2;clear D K2 n))
 all_goals (try (go_wp21))
 have hb:=bJ (bJ a0 0 (cW p)) 1 (G q);have hc:=aN hb;refine nr ?_ rfl ⟨rfl,(a1.setCell (p:=⟨w.heap.size,0,none⟩) (.inr (dr _)) _).setCell (p:=⟨w.heap.size,1,none⟩) (.inr (dr _)) _⟩;simp[results,results315,asAddr,Result.andThen,go_sem,hc]
def Xs(base j:Nat)(name:O)(av kv:cY)(ns:List Nd)(w:J)(h:El base w j name av none kv ns):
  Calls prog 368 #[cW j] w λe w'=>e=nu/\w'=w:=by
 have d:=(aN h.du 2).trans rfl;go_wp2;go_end0;simp
theorem ahE{h d:fN}(U:i<ns.length)(l:base<=g)(n:w'.heap[g]?=some (cV d 141))(hz:d.size=cap)(hn:ns.length<=cap)(A:cap<=maxLen)(D:h.toList.take ns.length=ns.map Nd.val)(H:d.toList.take (ns.length-1)=(h.toList.take ns.length).take i++(h.toList.take ns.length).drop (i+1)):
  w'.ownsRow base 141 1 (ky g (ns.length-1) cap) (ns.eraseIdx i).length ((ns.eraseIdx i).map Nd.val):=by
 have q:(ns.eraseIdx i).length=ns.length-1:=by grind
 have I:(ns.eraseIdx i).map Nd.val=(h.toList.take ns.length).take i++(h.toList.take ns.length).drop (i+1):=by
  rw[D,List.eraseIdx_eq_take_drop_succ,lV,Zh,List.map_drop]
 refine⟨by simp,.inr ⟨g,cap,d,by rw[q],l,n,by omega,A,by omega,?_⟩⟩;grind
def XP(base p i g cap:Nat)(I:O)(A:cY)(q:eG)(h:List Nd)(n:fN)(w:J)(D H:Bool)(W:J):Prop:=
 if H then (∃l,El base W p I A q l (h.eraseIdx i)/\l.ownBlock=some g)/\Z [p,g] w W else if D then Z [g] w W/\∃d,W.heap[g]?=some (cV d 141)/\d.size=cap/\d.toList.take (h.length-1)=(n.toList.take h.length).take i++(n.toList.take h.length).drop (i+1)else Z [] w W
theorem XP.any{p:Nat}{D:O}{l:cY}{d:eG}{H:List Nd}{A:fN}{n q:Bool}(h:XP base p i g cap D l d H A w n q W):Z [p,g] w W:=by
 unfold XP at h;grind[Z.mono]
theorem Gz(base j p i:Nat)(name a3:O)(av kv a1 a0:cY)(I:eG)(ns d:List Nd)(w:J)(h:El base w j name av (some p) kv ns)(hp:El base w p a3 a1 I a0 d)(hn:∀x∈d,zf w x)(ae:j≠p)(aa:∀g,kv.ownBlock=some g->a0.ownBlock≠some g)(hi:i<d.length)(a4:lO d (Nd.de j)=(i:Int)):
  Calls prog 368 #[cW j] w λe w'=>e=nu/\(∃D,El base w' p a3 a1 I D (d.eraseIdx i)/\D.ownBlock=a0.ownBlock)/\El base w' j name av none kv ns/\Z (j::p::a0.ownBlock.toList) w w':=by
 obtain⟨g,cap,l,rfl,ab,A,U,af,ag,ah⟩:∃g cap l,a0=ky g d.length cap/\base<=g/\w.heap[g]?=some (cV l 141)/\d.length<=cap/\cap<=maxLen/\l.size=cap/\l.toList.take d.length=d.map Nd.val:=by
  rcases hp.row.2 with⟨_,e0⟩|⟨g,cap,l,e,hb,A,U,hm,hs,ht⟩;omega;exact⟨g,cap,l,e,hb,A,U,hm,by omega,by grind⟩
 have CI:=V (JA base p j a3 a1 _ I d w hp hn h.aav);rw[a4]at CI;have ad:g≠p:=by have:=hp.oO hp.du (by decide);simpa [Value.ownBlock]using this
 have ac:g≠j:=by have:=hp.oO h.du (by decide);simpa [Value.ownBlock]using this
 have c2:w.cell? ⟨j,2,none⟩=some (cW p):=(aN h.du 2).trans rfl;have CD:Hid (∀(W:J),Z [] w W->Calls prog 380 #[ky g d.length cap,G i,G ((i:Int)+1)] W λe w'=>e=dw (ky g (d.length-1) cap)/\
   ∃n,w'.heap[g]?=some (cV n 141)/\n.size=cap/\n.toList.take (d.length-1)=(l.toList.take d.length).take i++(l.toList.take d.length).drop (i+1)/\Z [g] W w'):=V (λW hk=>by
  rw[show((i:Int)+1)=((i+1:Nat):Int) by omega];have aw:=agi g cap i (i+1) d.length l W (hk.at A (by simp)) U ag (by omega) (by omega) hp.le (by grind[YB])
  rwa [show i+1-i=1 by omega]at aw)
 have aC:(0:Int)<=(i:Int):=by omega
 have ay:(i:Int)<1048576:=by have:=hp.le;omega
 have H:=V h;have HP:=V hp;have ai:=V aa;have aq:=V U;have ap:=V af;have au:=V ah;have HI:=V hi;have aj:=V ab;have aB:=V ae;have aA:=V ad;have az:=V ac;clear h hp hn aa U af ah hi ab ae ad ac A ag a4;go_enter func368,ntmps368;go_wp21;refine CI.out.mono ?_;rintro e w1⟨rfl,a2⟩;have am:=V a2;have d2:w1.cell? ⟨j,2,none⟩=some (cW p):=(aN (a2.at H.out.du (by simp)) 2).trans rfl;have d3:w1.cell? ⟨p,3,none⟩=some (ky g d.length cap):=(aN (a2.at HP.out.du (by simp)) 3).trans rfl;clear a2 c2;go_wp21;refine tz (by rfl) ?_;refine ln (λ(u:Unit) z=>⟨#[cW j,undef,G i,cW j,cW j,fR j 2,cW p,.bool true,cW j,cW j,fR j 2,cW p,cW j,G i,cd z 0 (cW j),cd z 1 (cW j),cd z 2 (fR j 2),cd z 3 (cW p),cd z 4 (cW j),cd z 5 (cW j),cd z 6 (fR j 2),cd z 7 (cW p),cd z 8 (cW p),cd z 9 (fR p 3),cd z 10 (ky g d.length cap),cd z 11 (G i),cd z 12 (G i),cd z 13 (G ((i:Int)+1)),cd z 14 (ky g (d.length-1) cap),cd z 15 (cW p),cd z 16 (fR p 3),undef,undef,undef],[]⟩) (λu z W=>XP base p i g cap a3 a1 I d l w (dn z 14) (dn z 17) W) 18 [[],[0],[1],[2],[],[4],[5],[6],[7],[8],[9],[],[],[12],[4,5,6,7,8,9,10,11,12,13],[3],[15],[0,1,2,3,4,5,6,7,8,9,10,11,12,13,14,15,16]] (()) rfl rfl (am.out.drew) ?_ ?_
 .repeat' first|exact iU|refine iT ?_ ?_
  all_goals
   rintro u z W hI hc hn;simp[yU]at hc;refine jO rfl ?_;intro K' a5;simp only[iL,hc];have c0:W.cell? ⟨j,2,none⟩=some (cW p):=(aN (hI.any.at H.out.du (by grind[Hid.out])) 2).trans rfl;have q:=hI
   try simp only[hc]at q
   try rw[hn 17 (by decide)]at q
   try rw[hn 14 (by decide)]at q
   try (have q:Z [] w W:=q;have c3:W.cell? ⟨p,3,none⟩=some (ky g d.length cap):=(aN (q.at HP.out.du (by simp)) 3).trans rfl)
   go_simp
   try rw[show IntKind.i64.wrap ((i:Int)+1)=(i:Int)+1 by grind[IntKind.wrap_i64]]
   first
   |refine a5 _ _ ⟨u,?_,(by rw[iR (by decide),iR (by decide)];exact hI)⟩
   |refine(CD.out W q).mono ?_;rintro e w2⟨rfl,n,a6,a8,a7,ax⟩;refine a5 _ _ ⟨u,?_,(by rw[mn,iR (by decide),hn 17 (by decide)];exact⟨(Z.mono q (by simp)).trans ax,n,a6,a8,a7⟩)⟩
   |have⟨q,n,a6,a8,a7⟩:=q;have g2:=q.at HP.out.du (by grind[Hid.out]);have c3:W.cell? ⟨p,3,none⟩=some (ky g d.length cap):=(aN g2 3).trans rfl;have y3:=cQ g2 3;go_simp;refine a5 _ _ ⟨u,?_,(by rw[mn];exact⟨⟨_,HP.out.YX (g2.trans HP.out.du.symm) (ahE HI.out aj.out a6 a8 aq.out ap.out au.out a7) (by grind[Hid.out,El.le]),rfl⟩,(Z.mono q (by simp)).setCell (p:=⟨p,3,none⟩) (.inl (by simp)) _⟩)⟩
   simp[lF,td,iL,hc]
 .rintro u W hI;rw[sB,sB]at hI;simp only[sv];have⟨⟨D,hE,ho⟩,hk⟩:=hI;have aD:=H.out.kept hk (by grind[Hid.out]) (λx hx=>by
   have h1:=ai.out x hx;have h2:=H.out.oO HP.out.du (by decide);rw[hx]at h2;simp[Value.ownBlock]at h1 h2;simp;omega)
  have ak:=V hE;have ar:=V ho;have an:=V hk;have al:=V (aD.aeR none);have j2:W.cell? ⟨j,2,none⟩=some (cW p):=(aN aD.du 2).trans rfl;have z2:=cQ aD.du 2;clear hE ho hk aD;rename_i KK a9;refine a9 _ _ ?_;clear a9 KK;go_wp2;go_end0;refine⟨rfl,⟨D,ak.out.kept ((Z.refl [j] W).setCell (p:=⟨j,2,none⟩) (.inl (by simp)) _) (by grind[Hid.out]) (λx hx=>?_),ar.out⟩,al.out,?_⟩;grind[Hid.out];refine(an.out.mono (S':=j::p::[g]) ?_).setCell (p:=⟨j,2,none⟩) (.inl (by simp)) _;simp
structure sZ where
 name:O
 di:iD
 ff:eG
 kids:List Nd
variable {e ej:sZ}
inductive zc
 |el (e:sZ)
 |tx (s:O)
 |cm (s:O)
 |dt (s:O)
variable {nd:zc}
structure N where
 nodes:List zc
 cC:gZ
 act:gZ
 head:eG
 form:eG
 mode:Nat
 kept:Nat
 waiting:List (Nat×Nat×O)
 dv:Bool
 fJ:Bool
 dk:Nat
 behind:Bool
 jI:O
 dM:Bool
 fresh:Bool
 nB:Nat
 ox:Nat
 mj:Nat
variable {σ σ':N}
inductive nh(α:Type)
 |ok (a:α) (σ:N)
 |stop (e:Nat) (dk:Nat)
 |stuck
def M(α:Type):=N->nh α
namespace M
def pure{α:Type}(a:α):M α:=λσ=> .ok a σ
def bind{α d:Type}(m:M α)(f:α->M d):M d:=λσ=>match m σ with
 | .ok a σ'=>f a σ'
 | .stop e p=> .stop e p
 | .stuck=> .stuck
instance :Monad M where
 pure:=M.pure
 bind:=M.bind
end M
theorem M.cH{α d:Type}(m:M α)(f:α->M d)(σ:N):(m>>=f) σ=match m σ with
 | .ok a σ'=>f a σ'
 | .stop e p=> .stop e p
 | .stuck=> .stuck:=rfl
def stuck{α:Type}:M α:=λ_=> .stuck
def rO(f:N->N):M Unit:=λσ=> .ok () (f σ)
def N.db(σ:N)(i:Nat):Option sZ:=match σ.nodes[i]? with
 |some (.el e)=>some e
 |_=>none
def N.de(σ:N)(x:eG):Bool:=match x with
 |none=>true
 |some i=>(σ.db i).isSome
def N.jw(σ:N)(x:eG):Bool:=match x with
 |none=>false
 |some i=>(σ.db i).isSome
theorem N.uu(h:σ.jw x=true):σ.de x=true:=by
 cases x with
 |none=>rfl
 |some i=>exact h
def N.eZ(σ:N):Nd->Bool
 | .el i=>(σ.db i).isSome
 | .tx i=>match σ.nodes[i]? with|some (.tx _)=>true|_=>false
 | .cm i=>match σ.nodes[i]? with|some (.cm _)=>true|_=>false
 | .dt i=>match σ.nodes[i]? with|some (.dt _)=>true|_=>false
def N.dh(σ:N)(i:Nat)(e:sZ):N:={σ with nodes:=σ.nodes.set i (.el e)}
def N.add(σ:N)(n:zc):N:={σ with nodes:=σ.nodes++[n]}
def N.ny(σ:N)(n:zc)(d:Bool):N:={σ with nodes:=σ.nodes++[n],fresh:=d}
def aiW:O:=aG
def aiV:O:=aZ
def kF(s:O):Bool:=ir s aiW||ir s aiV
structure Wf(σ:N):Prop where
 cC:∀x∈σ.cC,σ.jw x=true
 act:∀x∈σ.act,σ.de x=true
 head:σ.de σ.head=true
 form:σ.de σ.form=true
 ff:∀i e,σ.db i=some e->σ.de e.ff=true
 kids:∀i e,σ.db i=some e->∀k∈e.kids,σ.eZ k=true
 rU:(σ.db 0).isSome=true
theorem N.dm(h:σ.db i=some e):i<σ.nodes.length:=by
 unfold N.db at h;grind
theorem N.fa(h:σ.db i=some e):σ.nodes[i]?=some (.el e):=by
 unfold N.db at h;grind
theorem N.Vv(h:σ.nodes[i]?=some (.el e)):σ.db i=some e:=by
 grind[N.db]
def words(s:O):List O:=(Lib.fields s.data.toList).map λl=>⟨l.toArray⟩
def yi(L:List (O×cY))(ks:List O)(v:cY):List (O×cY):=ks.foldl (λL k=>E8 L k v) L
theorem Ts(L:List (O×cY))(ks:List O)(v:cY)(n:Nat)(d:n<ks.length):yi L (ks.take (n+1)) v=E8 (yi L (ks.take n) v) ks[n] v:=by
 grind[List.take_succ_eq_append_getElem,yi]
abbrev pE(w:J):Prop:=Lib.TabIs prog w "strings.asciiSpace" .u8 Lib.asciiSpaceTab
def pk(s:O):Bool:=decide (s.size<4096)&&s.data.toList.all (λb=>decide (b.toNat<128))&&decide ((words s).length<=4096)
theorem Na(s:O)(w:J)(d:pk s=true)(l:pE w):
  Calls prog 90 #[Y s] w λe w'=>e=dw (ky w.heap.size (words s).length (words s).length)/\w'=w.alloc (cV ((words s).map Value.string).toArray 9):=by
 unfold pk at d;simp only[oY,afs,afr]at d;refine(Tryz.strings_Fields s w (by omega) (λj b h=>d.1.2 b (qQ h)) l).mono ?_;grind[List.map_inj_left,words]
theorem alW(b:Nat)(s:O)(v:cY)(L:List (O×cY))(w:J)(D:pk s=true)(ht:pE w)(hm:qi w b L):
  Calls prog 96 #[.map (some b),Y s,v] w λe w'=>e=dw (.map (some b))/\qi w' b (yi L (words s) v)/\Z [b] w w':=by
 have q:(words s).length<=4096:=by
  unfold pk at D;simp only[oY,afs]at D;exact D.2
 have U:=Na s w D ht;have HM:=hm;clear D ht hm;generalize words s=ks at U q|-;go_enter func96,ntmps96;go_wp21;refine U.mono ?_;rintro e w1⟨rfl,l⟩;have HG:w1.heap[w.heap.size]?=some (cV (ks.map Value.string).toArray 9):=by rw[l];exact aY w _
 have HK:Z [] w w1:=by rw[l];exact(Z.refl _ _).alloc _
 have H:=HM.kept HK (by simp);have a0:b≠w.heap.size:=by have:=HM.lt;omega
 clear l;go_wp2
 go_loopw [12] (λi wr=>∃k:Nat,k<=ks.length/\i=G k/\qi wr b (yi L (ks.take k) v)/\Z [b] w wr/\wr.heap[w.heap.size]?=some (cV (ks.map Value.string).toArray 9)) (λi _=>ks.length-(intOf i).toNat)
 case atStart=>exact⟨0,yQ _,rfl,H,HK.mono (by simp),HG⟩
 case round=>
  obtain⟨k,hk,rfl,h,n,d⟩:=hrel;by_cases A:k<ks.length
  .have c1:wr.cell? ⟨w.heap.size,k,none⟩=some (Y ks[k]):=by rw[aN d];simp[A]
   have⟨w2,r2,HM2,k2,z2⟩:=TS (T:=169) (E:=167) (by simp) h ks[k] v;have a2:=n.trans k2;have a1:=k2.at d (by grind);have HS:=V (Ts L ks v k A);clear h n d k2 z2;go_wp2;go_roundw
   case rel=>grind[Hid.out]
   case measure=>simp[intOf];omega
  .have I:k=ks.length:=by omega
   have a3:=(show qi wr b (yi L ks v) by grind);clear h d I;go_wp2;go_ret;simp_all
def AD(L:List (O×Nat)):List (O×cY):=L.map λp=>(p.1,G p.2)
def um:List (O×Nat)->O->Nat
 |[],_=>0
 |p::L,k=>if ir k p.1 then p.2 else um L k
def WW:List (O×Nat)->O->Nat->List (O×Nat)
 |[],k,v=>[(k,v)]
 |p::L,k,v=>if ir k p.1 then (k,v)::L else p::WW L k v
def Jn:∀(L:List (O×Nat))(k:O),(AH (AD L) k).getD (G 0)=G (um L k)
 |[],_=>rfl
 |p::L,k=>by
  show(if ir k p.1 then some _ else AH _ k).getD _=_;unfold um;split;rfl;exact Jn L k
def Ty:∀(L:List (O×Nat))(k:O)(v:Nat),E8 (AD L) k (G v)=AD (WW L k v)
 |[],_,_=>rfl
 |p::L,k,v=>by
  show(if ir k p.1 then (k,Value.int .i64 (v))::AD L else (p.1,Value.int .i64 _)::E8 (AD L) k _)=_;unfold WW;split;rfl;rw[Ty L k v];rfl
theorem Nh:∀(L:List (O×Nat))(k:O)(v:Nat)(s:O),um (WW L k v) s=if ir s k then v else um L s
 |[],k,v,s=>rfl
 |p::L,k,v,s=>by
  unfold WW;by_cases d:ir k p.1=true;grind[um,ir];rw[cZ d];unfold um;rw[Nh L k v s];grind[ir]
def tC(L:List (O×Nat))(c:Nat)(ks:List O):List (O×Nat):=ks.foldl (λL k=>WW L k (um L k|||c)) L
theorem ZB(L:List (O×Nat))(ks:List O)(c n:Nat)(d:n<ks.length):tC L c (ks.take (n+1))=WW (tC L c (ks.take n)) ks[n] (um (tC L c (ks.take n)) ks[n]|||c):=by
 grind[List.take_succ_eq_append_getElem,tC]
def amW:∀a c:Fin 16,a.1|||c.1<16:=by decide
theorem qW{c:Nat}(d:c<16)(ks:List O):∀(L:List (O×Nat)),(∀s,um L s<16)->∀s,um (tC L c ks) s<16:=by
 induction ks with
 |nil=>simp[tC]
 |cons k ks ih=>
  intro L h;refine ih _ λs=>?_;rw[Nh];split;exact amW ⟨_,h k⟩ ⟨c,d⟩;grind
def ako:∀a c:Fin 16,IntKind.i64.wrap (((BitVec.ofInt 64 (a.1:Int))|||(BitVec.ofInt 64 (c.1:Int))).toNat:Int)=((a.1|||c.1:Nat):Int):=by decide
def af0:∀a c:Fin 16,IntKind.i64.wrap (((BitVec.ofInt 64 (a.1:Int))&&& (BitVec.ofInt 64 (c.1:Int))).toNat:Int)=((a.1&&& c.1:Nat):Int):=by decide
def af6(a c:Nat)(d:a<16)(h:c<16):bits .or .i64 (a:Int) (c:Int)=((a|||c:Nat):Int):=ako ⟨a,d⟩ ⟨c,h⟩
def aco(a c:Nat)(d:a<16)(h:c<16):bits .and .i64 (a:Int) (c:Int)=((a&&& c:Nat):Int):=af0 ⟨a,d⟩ ⟨c,h⟩
theorem ajn(b:Nat)(s:O)(c:Nat)(L:List (O×Nat))(w:J)(hp:pk s=true)(ht:pE w)(hm:qi w b (AD L))(hc:c<16)(hL:∀s,um L s<16):
  Calls prog 56 #[.agg #[.map (some b)],G c,Y s] w λe w'=>e=nu/\qi w' b (AD (tC L c (words s)))/\Z [b] w w':=by
 have U:(words s).length<=4096:=by
  unfold pk at hp;simp only[oY,afs]at hp;exact hp.2
 have k0:Z [] w (w.alloc (cV #[.map (some b)] 91)):=(Z.refl _ _).alloc _;have g0:=aY w (cV #[.map (some b)] 91);have HF:=Na s (w.alloc (cV #[.map (some b)] 91)) hp (Lib.tabIs_alloc ht _);have HM:=hm.kept k0 (by simp);have a7:=hm.lt;have HL:=hL;clear hp ht hm hL;generalize words s=ks at HF U|-;obtain⟨w0,H⟩:∃w0,w0=w.alloc (cV #[.map (some b)] 91):=⟨_,rfl⟩;go_enter func56,ntmps56;go_wp21;refine HF.mono ?_;rintro e w1⟨rfl,n⟩;rw[<-H]at n g0 k0 HM;have a5:w0.heap.size=w.heap.size+1:=by rw[H];simp
 have HG:w1.heap[w.heap.size+1]?=some (cV (ks.map Value.string).toArray 9):=by rw[n,<-a5];exact aY w0 _
 have k1:Z [] w0 w1:=by rw[n];exact(Z.refl _ _).alloc _
 have a3:=k1.at g0 (by simp);have HK:=k0.trans k1;have a4:=HM.kept k1 (by simp);clear n k1 k0 g0;go_wp2
 go_loopw [11] (λi wr=>∃k:Nat,k<=ks.length/\i=G k/\qi wr b (AD (tC L c (ks.take k)))/\Z [b] w wr/\wr.heap[w.heap.size+1]?=some (cV (ks.map Value.string).toArray 9)/\wr.heap[w.heap.size]?=some (cV #[.map (some b)] 91)) (λi _=>ks.length-(intOf i).toNat)
 case atStart=>exact⟨0,yQ _,rfl,a4,HK.mono (by simp),HG,a3⟩
 case round=>
  obtain⟨k,hk,rfl,l,D,h,d⟩:=hrel;by_cases a1:k<ks.length
  .have c1:wr.cell? ⟨w.heap.size+1,k,none⟩=some (Y ks[k]):=by rw[aN h];simp[a1]
   have c2:=aN d 0;dsimp at c2;have A:=qW hc (ks.take k) L HL ks[k];have a0:=Fe (T:=89) (E:=94) (z:=G 0) (by simp) (by simp) l ks[k];rw[Jn]at a0;have I:=af6 _ c A hc;have⟨w2,r2,HM2,k2,z2⟩:=TS (T:=89) (E:=94) (by simp) l ks[k] (G ((um (tC L c (ks.take k)) ks[k]|||c:Nat):Int));rw[Ty,<-ZB L ks c k a1]at HM2;have aa:=D.trans k2;have a9:=k2.at h (by grind);have a8:=k2.at d (by grind);obtain⟨q,hq⟩:∃q,q=um (tC L c (ks.take k)) ks[k]:=⟨_,rfl⟩;rw[<-hq]at a0 I r2;obtain⟨q2,a2⟩:∃q2:Nat,q2=q|||c:=⟨_,rfl⟩;rw[<-a2]at I r2;clear l D h d k2 z2 hq a2 A;go_wp2;go_roundw
   case rel=>grind
   case measure=>simp[intOf];omega
  .have a6:k=ks.length:=by omega
   have ab:=(show qi wr b (AD (tC L c ks)) by grind);clear l h a6 d;go_wp2;go_end0;grind
def UE:List O:=[jM,qC,mZ,fL,dR,dz]
def D6:List O:=[aG,bZ,fM,eX,dR,aZ,nO,jZ,px,py,vO,⟨#[100,108]⟩,nN,qA,qB,⟨#[112,114,101]⟩,fO,dN,fL,jM,qC,mZ,aV,cO,bY,dz,cJ,cM,cF,dq,dE,dF,dx,gu,ju]
def K8:List O:=[qA,qB,nN,dj,cD,nO]
def Za:List O:=[aG,aV,dE,dF,cO,dx]
def pI:List (O×Nat):=tC (tC (tC (tC [] 1 UE) 2 D6) 4 K8) 8 Za
theorem pE.kept(h:pE w)(l:Z S w w')(d:1∉S):pE w':=by
 unfold pE Lib.TabIs World.var? at *;have e:prog.globalNamed "strings.asciiSpace"=some 1:=rfl;grind[Z.block]
def Ho(b:Nat)(s:O)(c:Nat)(L:List (O×Nat))(ks:List O)(w:J)(q:pk s=true)(d:words s=ks)(A:pE w)(n:qi w b (AD L))(l:c<16)(h:∀s,um L s<16):
  Calls prog 56 #[.agg #[.map (some b)],G c,Y s] w λe w'=>e=nu/\qi w' b (AD (tC L c ks))/\Z [b] w w':=by
 rw[<-d];exact ajn b s c L w q A n l h
def S5:∀s,um [] s<16:=λ_=>Nat.zero_lt_succ 15
theorem A4(w:J)(ht:pE w):
  Calls prog 34 #[] w λe w'=>∃bm,e=dw (.agg #[.map (some bm)])/\qi w' bm (AD pI)/\Z [] w w'/\w.heap.size<=bm:=by
 have ah:=@run_makeMap prog;obtain⟨W,l⟩:∃W,W=((w.alloc (cV #[.map none] 91)).alloc (.map #[] 0)).alloc (cV #[.map (some (w.heap.size+1))] 91):=⟨_,rfl⟩;have kW:Z [] w W:=by rw[l];exact(((Z.refl _ _).alloc _).alloc _).alloc _
 have H0:W.heap[w.heap.size]?=some (cV #[.map none] 91):=by
  rw[l,Below.heap_alloc _ _ _ (by simp;omega),Below.heap_alloc _ _ _ (by simp)];exact aY w _
 have g1:W.heap[w.heap.size+1]?=some (.map #[] 0):=by
  rw[l,Below.heap_alloc _ _ _ (by simp)];have:=aY (w.alloc (cV #[.map none] 91)) (.map #[] 0)
  rwa [xD]at this
 have H2:W.heap[w.heap.size+1+1]?=some (cV #[.map (some (w.heap.size+1))] 91):=by
  rw[l];have:=aY ((w.alloc (cV #[.map none] 91)).alloc (.map #[] 0)) (cV #[.map (some (w.heap.size+1))] 91)
  rwa [xD,xD]at this
 have HM:qi W (w.heap.size+1) (AD []):=⟨#[],0,g1,rfl⟩;have HG:1∉[w.heap.size+1]:=by
  have ag:1<w.heap.size:=by
   have h:=ht;unfold pE Lib.TabIs World.var? at h;have e:prog.globalNamed "strings.asciiSpace"=some 1:=rfl;simp only[e,Option.bind_some]at h;rcases dH 1 w.heap.size with h'|h';exact h';grind
  intro U;have:=List.mem_singleton.1 U;omega
 have HT:=ht.kept kW (by simp);have HK:=kW.mono (S':=[w.heap.size+1]) (by simp);have HW:=V l;clear l;go_enter func34,ntmps34;go_wp21;rw[<-HW.out];refine(Ho (w.heap.size+1) _ 1 [] UE W (by rfl) (by rfl) HT HM (by decide) S5).mono ?_;rintro e w1⟨rfl,a9,k1⟩;have D:=HT.kept k1 HG;have a4:=HK.trans k1;have a0:=k1.at H0 (by simp);have n:=V (k1.at H2 (by simp));have c1:=aN n.out 0;dsimp at c1;go_wp21;refine(Ho (w.heap.size+1) _ 2 (tC [] 1 UE) D6 w1 rfl rfl D a9 (by decide) (qW (by decide) _ _ S5)).mono ?_;rintro e w2⟨rfl,aa,k2⟩;have H:=D.kept k2 HG;have a5:=a4.trans k2;have a1:=k2.at a0 (by simp);have q:=V (k2.at n (by simp));have c2:=aN q.out 0;dsimp at c2;go_wp21;refine(Ho (w.heap.size+1) _ 4 (tC (tC [] 1 UE) 2 D6) K8 w2 (by rfl) (by rfl) H aa (by decide) (qW (by decide) _ _ (qW (by decide) _ _ S5))).mono ?_;rintro e w3⟨rfl,ab,k3⟩;have I:=H.kept k3 HG;have a6:=a5.trans k3;have a2:=k3.at a1 (by simp);have A:=V (k3.at q (by simp));have c3:=aN A.out 0;dsimp at c3;go_wp21;refine(Ho (w.heap.size+1) _ 8 (tC (tC (tC [] 1 UE) 2 D6) 4 K8) Za w3 (by rfl) (by rfl) I ab (by decide) (qW (by decide) _ _ (qW (by decide) _ _ (qW (by decide) _ _ S5)))).mono ?_;rintro e w4⟨rfl,ac,k4⟩;have af:=I.kept k4 HG;have a7:=a6.trans k4;have d:=V (k4.at a2 (by simp));have a3:=V (k4.at A (by simp));have c4:=aN a3.out 0;have f4:=cQ d 0;have ae:=aN d.out 0;dsimp at c4 ae;have a8:=(a7.mono (S':=[]) (λk hk hl=>by grind)).setCell (p:=⟨w.heap.size,0,none⟩) (.inr (dr _)) (.map (some (w.heap.size+1)));have ad:=ac.keeps (w':=w4.setCell ⟨w.heap.size,0,none⟩ (.map (some (w.heap.size+1)))) (Below.heap_setCell w4 ⟨w.heap.size,0,none⟩ _ _ (by simp));have c5:=aN (bJ d 0 (.map (some (w.heap.size+1)))) 0;go_wp2;refine nr (v:=.agg #[.map (some (w.heap.size+1))]) ?_ rfl ⟨w.heap.size+1,rfl,ad,a8,by omega⟩;simp[results,f34,go_sem,c5]
def isC(L:List (O×Nat))(c:Nat)(s:O):Bool:=decide (um L s&&& c≠0)
def gL:O->Bool:=isC pI 1
def iG:O->Bool:=isC pI 2
def rI:O->Bool:=isC pI 4
def dG:O->Bool:=isC pI 8
def X4:∀s,um pI s<16:=qW (by decide) _ _ (qW (by decide) _ _ (qW (by decide) _ _ (qW (by decide) _ _ S5)))
theorem af2(b1 b2 bm c:Nat)(L:List (O×Nat))(w:J)(I:w.heap[b1]?=some (cV #[.map (some bm)] 91))(U:w.heap[b2]?=some (cV #[G c] 94))(A:qi w bm (AD L))(hc:c<16)(hL:∀s,um L s<16):
  lC [b1,b2,bm] (.func (.func 57) #[] #[cW b1,cW b2]) (isC L c) w:=by
 refine⟨⟨_,_,rfl,enters_of func57 (by rfl) rfl,λW n s=>?_⟩,λe he=>?_⟩
 .have c1:=aN (lN n (by simp) I) 0;have c2:=aN (lN n (by simp) U) 0;dsimp at c1 c2;have h:=Fe (T:=89) (E:=94) (z:=G 0) (by simp) (by simp) (A.keeps (n bm (by simp))) s;rw[Jn]at h;have d:=aco _ c (hL s) hc;have hv:isC L c s=decide (um L s&&& c≠0):=rfl;rw[hv];generalize um L s=q at h d|-;obtain⟨D,l⟩:∃D:Nat,D=q&&& c:=⟨_,rfl⟩;rw[<-l]at d|-;clear I U A n hL l hv;by_cases H:D=0
  .subst H;go_enter func57,ntmps57;go_wp2;go_ret;simp
  .rw[tu H];go_enter func57,ntmps57;go_wp2;go_ret;simp_all
 simp at he;rcases he with rfl|rfl|rfl;grind;grind;exact A.lt
def ag2(bB:Nat)(m1:Int)(w:J):
  Calls prog 100 #[cW bB,G m1] w λe w'=>e=dw (.func (.func 174) #[] #[cW w.heap.size,cW (w.heap.size+1)])/\w'=((w.alloc (cV #[cW bB] 120)).alloc (cV #[G m1] 176)):=by
 go_wp2;go_ret;simp
def PB(bB:Nat)(h:Fn)(d l1:fN)(w:J):
  Calls prog 92 #[cW bB,.func h d l1] w λe w'=>e=dw (.func (.func 168) #[] #[cW w.heap.size])/\w'=(w.alloc (cV #[.func h d l1] 209)):=by
 go_wp2;go_ret;simp
def PC(bB:Nat)(h:Fn)(d l1:fN)(w:J):
  Calls prog 124 #[cW bB,.func h d l1] w λe w'=>e=dw (.func (.func 221) #[] #[cW (w.heap.size+1),cW w.heap.size])/\w'=((w.alloc (cV #[cW bB] 120)).alloc (cV #[.func h d l1] 65)):=by
 go_wp2;go_ret;simp
def ag3(h:Fn)(d l:fN)(w:J):
  Calls prog 128 #[.func h d l] w λe w'=>e=dw (.func (.func 226) #[] #[cW w.heap.size])/\w'=(w.alloc (cV #[.func h d l] 65)):=by
 go_wp2;go_ret;simp
def PD(bB:Nat)(h:Fn)(d l1:fN)(w:J):
  Calls prog 136 #[cW bB,.func h d l1] w λe w'=>e=dw (.func (.func 231) #[] #[cW w.heap.size,cW (w.heap.size+1)])/\w'=((w.alloc (cV #[cW bB] 120)).alloc (cV #[.func h d l1] 167)):=by
 go_wp2;go_ret;simp
def SU(bB:Nat)(h:Fn)(d l1:fN)(m2:Int)(w:J):
  Calls prog 121 #[cW bB,.func h d l1,G m2] w λe w'=>e=dw (.func (.func 218) #[] #[cW w.heap.size,cW (w.heap.size+1),cW (w.heap.size+1+1)])/\w'=(((w.alloc (cV #[cW bB] 120)).alloc (cV #[.func h d l1] 88)).alloc (cV #[G m2] 176)):=by
 go_wp2;go_ret;simp
def PE(bB:Nat)(h:Fn)(d l1:fN)(n:O)(l:Int)(w:J):
  Calls prog 123 #[cW bB,.func h d l1,Y n,G l] w λe w'=>e=dw (.func (.func 220) #[] #[cW w.heap.size,cW (w.heap.size+1),cW (w.heap.size+1+1),cW (w.heap.size+1+1+1)])/\w'=((((w.alloc (cV #[cW bB] 120)).alloc (cV #[.func h d l1] 88)).alloc (cV #[Y n] 9)).alloc (cV #[G l] 176)):=by
 go_wp2;go_ret;exact⟨rfl,rfl⟩
def Iq:List TypeId:=[179,139,141,280,68,124,295,164,75,171,70]
def Zq:List TypeId:=[179,139,141,280,68,124,295,164,171]
theorem QY(h:t∈Zq):t∈Iq:=by
 revert t;decide
def Calm(w:J)(e:Nat):Prop:=(∃h d,w.heap[e]?=some (.map h d))\/∃c t,w.heap[e]?=some (cV c t)/\t∉Iq
def Fr(bs:Nat)(w w':J):Prop:=∃S,Z S w w'/\∀k∈S,k<w.heap.size->(∃c t m,w.heap[k]?=some (.cells c t m)/\t∈Zq)/\bs<=k
theorem Fr.df(h:Z [] w w'):Fr bs w w':=⟨[],h,by grind⟩
theorem Fr.refl(w:J):Fr bs w w:=.df (Z.refl _ _)
def Fr.size(h:Fr bs w w'):w.heap.size<=w'.heap.size:=by have⟨S,hk,_⟩:=h;exact hk.size
theorem Fr.calm(h:Fr bs w w'){e:Nat}(n:Calm w e):w'.heap[e]?=w.heap[e]?:=by
 have⟨S,hk,hS⟩:=h;have l:e<w.heap.size:=by
  rcases n with⟨A,q,d⟩|⟨c,t,d,_⟩;grind;grind
 refine hk.block e l λI=>?_;rcases n with⟨A,q,d⟩|⟨H,U,d,D⟩
 all_goals grind[QY]
theorem Fr.trans{b c:J}(h:Fr bs a b)(k:Fr bs b c):Fr bs a c:=by
 have⟨S1,k1,h1⟩:=h;have⟨S2,k2,h2⟩:=k;refine⟨S1++S2,(k1.mono (λx l _=>by grind)).trans (k2.mono (λx l _=>by grind)),λx l d=>?_⟩;by_cases n:x∈S1;grind;have⟨⟨cc,t,m,hc,ht⟩,uI⟩:=h2 x (by simpa [n]using l) (kL d k1.size);grind[Z.block]
theorem Fr.fS(h:Z S w w')(d:∀k∈S,(∃c t m,w.heap[k]?=some (.cells c t m)/\t∈Zq)/\bs<=k):Fr bs w w':=⟨S,h,by grind⟩
theorem Fr.cell(h:Fr bs w w'){e:Nat}(d:w.heap[e]?=some (cV c t))(l:t∉Iq):w'.heap[e]?=some (cV c t):=(h.calm (.inr ⟨c,t,d,l⟩)).trans d
theorem Fr.kept(h:Fr bs w w')(d:Z [] a w)(n:a.heap.size<=bs):Z [] a w':=by
 have⟨S,hS,hT⟩:=h;refine⟨hS.os.trans d.os,hS.tape.trans d.tape,hS.output.trans d.output,fK d.size hS.size,λk l _=>?_⟩;grind[Z.block]
theorem Fr.yH(h:Fr bs w w'){e:Nat}(d:w.heap[e]?=some (.cells c t m))(l:t∉Zq):w'.heap[e]?=some (.cells c t m):=by
 have⟨S,hS,hT⟩:=h;grind[Z.block]
def vS(bm:Nat)(w:J)(e:Nat):Prop:=(e=bm/\∃h d,w.heap[e]?=some (.map h d))\/∃c t,w.heap[e]?=some (cV c t)/\t∉Iq
def wm(bm:Nat)(w w':J):Prop:=∃S,Z S w w'/\∀k∈S,k<w.heap.size->(∃c t m,w.heap[k]?=some (.cells c t m)/\t∈Iq)\/((∃h d,w.heap[k]?=some (.map h d))/\k≠bm)
theorem Fr.n(h:Fr bs w w')(bm:Nat):wm bm w w':=by
 have⟨S,hk,hS⟩:=h;exact⟨S,hk,λk d l=>by grind[QY]⟩
theorem wm.df(h:Z [] w w'):wm bm w w':=(Fr.df (bs:=0) h).n bm
theorem wm.refl(bm:Nat)(w:J):wm bm w w:=.df (Z.refl _ _)
def wm.size(h:wm bm w w'):w.heap.size<=w'.heap.size:=by have⟨S,hk,_⟩:=h;exact hk.size
theorem wm.of_map(h:Z [b] w w')(q:∃l d,w.heap[b]?=some (.map l d))(n:b≠bm):wm bm w w':=⟨[b],h,by grind⟩
theorem wm.calm(h:wm bm w w'){e:Nat}(n:vS bm w e):w'.heap[e]?=w.heap[e]?:=by
 have⟨S,hk,hS⟩:=h;have l:e<w.heap.size:=by
  rcases n with⟨_,D,A,d⟩|⟨c,t,d,_⟩;grind;grind
 refine hk.block e l λhm=>?_;rcases hS e hm l with⟨c,t,m,h2,ht⟩|⟨⟨U,I,h2⟩,a0⟩
 .rcases n with⟨_,D,A,d⟩|⟨H,t',d,q⟩
  all_goals grind
 .rcases n with⟨e1,D,A,d⟩|⟨H,t',d,q⟩
  all_goals grind
theorem vS.fr{e:Nat}(d:vS bm w e)(h:wm bm w w'):vS bm w' e:=by
 have e1:=h.calm d;grind[vS]
theorem wm.trans{b c:J}(h:wm bm a b)(k:wm bm b c):wm bm a c:=by
 have⟨S1,k1,h1⟩:=h;have⟨S2,k2,h2⟩:=k;refine⟨S1++S2,(k1.mono (λx n _=>by grind)).trans (k2.mono (λx n _=>by grind)),λx n d=>?_⟩;by_cases l:x∈S1;grind;have e:=k1.block x d l;grind
theorem wm.cell(h:wm bm w w'){e:Nat}(d:w.heap[e]?=some (cV c t))(l:t∉Iq):w'.heap[e]?=some (cV c t):=(h.calm (.inr ⟨c,t,d,l⟩)).trans d
def Hk(w:J):Prop:=pE w/\∃c t,w.heap[1]?=some (cV c t)/\t∉Iq
theorem Hk.fr(d:Hk w)(h:wm bm w w'):Hk w':=by
 have⟨mq,c,t,hc,ht⟩:=d;have e1:=h.calm (.inr ⟨c,t,hc,ht⟩);refine⟨?_,c,t,e1.trans hc,ht⟩;unfold pE Lib.TabIs World.var? at mq|-;have e:prog.globalNamed "strings.asciiSpace"=some 1:=rfl;grind
def Ask(bm:Nat)(v:cY)(p:O->Bool)(w:J):Prop:=∃E,lC E v p w/\∀e∈E,vS bm w e
theorem Ask.fr(h:Ask bm v p w)(d:wm bm w w'):Ask bm v p w':=by
 have⟨E,hA,hC⟩:=h;exact⟨E,hA.keeps (λk n=>d.calm (hC k n)) d.size,λe l=>(hC e l).fr d⟩
theorem Ask.call(h:Ask bm v p w):∃k l,v=.func (.func k) #[] l/\(∀d w,(callFunc k d).run prog w=.ok (.enter k d) w)/\∀W,wm bm w W->∀s,Calls prog k (#[Y s]++l) W λe n=>e=dw (.bool (p s))/\n=W:=by
 have⟨E,hA,hC⟩:=h;have⟨k,l,hv,he,ha⟩:=hA.ex;exact⟨k,l,hv,he,λW A s=>ha W (λe q=>A.calm (hC e q)) s⟩
def Wg(bm g cap:Nat)(d:List O)(w:J)(D:w.heap[g]?=some (cV (d.map Value.string).toArray 9))(h:d.length<=4096):
  Calls prog 219 #[ky g d.length cap] w λe w'=>(∃v,e=dw v/\Ask bm v (da d) w')/\Z [] w w':=by
 refine(aiC g cap _ w).mono ?_;rintro e w'⟨rfl,rfl⟩;have A:Z [] w (w.alloc (cV #[ky g d.length cap] 46)):=(Z.refl _ _).alloc _;have l:=aY w (cV #[ky g d.length cap] 46);have n:=A.at D (by simp);refine⟨⟨_,rfl,_,adF _ g cap d _ l n h,λe q=>?_⟩,A⟩;simp at q;rcases q with rfl|rfl;exact .inr ⟨_,_,l,by decide⟩;exact .inr ⟨_,_,n,by decide⟩
def XU(bm c:Nat)(L:List (O×Nat))(w:J)(I:qi w bm (AD L))(H:c<16)(D:∀s,um L s<16):
  Calls prog 35 #[.agg #[.map (some bm)],G c] w λe w'=>(∃v,e=dw v/\Ask bm v (isC L c) w')/\Z [] w w':=by
 have h:Calls prog 35 #[.agg #[.map (some bm)],G (c)] w λe w'=>e=dw (.func (.func 57) #[] #[cW w.heap.size,cW (w.heap.size+1)])/\w'=(w.alloc (cV #[.map (some bm)] 91)).alloc (cV #[G (c)] 94):=by
  go_wp2;go_ret;exact⟨by simp,rfl⟩
 refine h.mono ?_;rintro e w'⟨rfl,rfl⟩;have U:Z [] w (w.alloc (cV #[.map (some bm)] 91)):=(Z.refl _ _).alloc _;have q:=U.alloc (cV #[G (c)] 94);have d:=aY (w.alloc (cV #[.map (some bm)] 91)) (cV #[G (c)] 94);rw[xD]at d;have l:=(Below.heap_alloc (w.alloc (cV #[.map (some bm)] 91)) (cV #[G (c)] 94) w.heap.size (by simp)).trans (aY w _);have A:=I.kept q (by simp);refine⟨⟨_,rfl,_,af2 _ _ bm c L _ l d A H D,λe n=>?_⟩,q⟩;simp at n;rcases n with rfl|rfl|rfl;exact .inr ⟨_,_,l,by decide⟩;exact .inr ⟨_,_,d,by decide⟩;have⟨es,ck,ha,_⟩:=A;exact .inl ⟨rfl,es,ck,ha⟩
theorem NP{d h:List Nat}{b1 b2:Nat}(l:vS bm w b1)(n:vS bm w b2)(c1:∀e∈d,vS bm w e)(c2:∀e∈h,vS bm w e):∀e∈b1::b2::(d++h),vS bm w e:=by
 grind
def akn(bm:Nat)(v1 v2:cY)(p q:O->Bool)(w:J)(D:Ask bm v1 p w)(H:Ask bm v2 q w):
  Calls prog 239 #[v1,v2] w λe w'=>(∃v,e=dw v/\Ask bm v (λs=>p s||q s) w')/\Z [] w w':=by
 have⟨E1,a1,c1⟩:=D;have⟨E2,a2,c2⟩:=H;refine(ahk E1 E2 v1 v2 p q w a1 a2).mono ?_;rintro e w'⟨⟨v,rfl,A,l,n⟩,h⟩;exact⟨⟨v,rfl,_,A,NP (.inr ⟨_,_,l,by decide⟩) (.inr ⟨_,_,n,by decide⟩) (λe d=>(c1 e d).fr (.df h)) (λe d=>(c2 e d).fr (.df h))⟩,h⟩
theorem ag8(bm:Nat)(v1:cY)(p:O->Bool)(w:J)(q:Ask bm v1 p w):
  Calls prog 238 #[v1] w λe w'=>(∃v,e=dw v/\Ask bm v (λs=>!p s) w')/\Z [] w w':=by
 have⟨E1,a1,c1⟩:=q;refine(ad8 E1 v1 p w a1).mono ?_;rintro e w'⟨⟨v,rfl,l,h⟩,n⟩;refine⟨⟨v,rfl,_,l,λe d=>?_⟩,n⟩;simp at d;rcases d with rfl|d;exact .inr ⟨_,_,h,by decide⟩;grind[vS.fr,wm.df]
inductive Ru
 |nil
 |nothing
 |eI (f:Nat)
 |su (m:Int)
 |dl (pf:Nat) (own:Bool)
 |ahead (f:Nat)
 |ends (f:Nat)
 |Wb (r:Ru)
 |rM (ks:List O) (m:Int)
 |mr (ks:List O) (name:O) (m:Int)
 |item (ks:List O)
variable {R:List (List O×Ru)}{ms:List (Nat×List (List O×Ru))}{r:Ru}{rs:List (Ru×cY)}
abbrev eF(b:Nat):cY:=cW b
abbrev box(w:J)(b:Nat)(v:cY)(t:TypeId):Prop:=w.heap[b]?=some (cV #[v] t)
def kV(bm bB bD:Nat):Ru->cY->J->Prop
 | .nil,v,_=>v=.nilFunc
 | .nothing,v,_=>v=.func (.func 91) #[] #[]
 | .eI f,v,_=>v=.func (.func f) #[eF bB] #[]
 | .su m,v,w=>∃b1 b2,v=.func (.func 174) #[] #[eF b1,eF b2]/\box w b1 (eF bB) 120/\box w b2 (G m) 176
 | .dl pf own,v,w=>∃b1,v=.func (.func 168) #[] #[eF b1]/\box w b1 (.func (.func pf) #[eF (if own then bB else bD)] #[]) 209
 | .ahead f,v,w=>∃b1 b2,v=.func (.func 221) #[] #[eF b2,eF b1]/\box w b1 (eF bB) 120/\box w b2 (.func (.func f) #[eF bB] #[]) 65
 | .ends f,v,w=>∃b1,v=.func (.func 226) #[] #[eF b1]/\box w b1 (.func (.func f) #[eF bB] #[]) 65
 | .Wb r,v,w=>∃b1 b2 u,v=.func (.func 231) #[] #[eF b1,eF b2]/\box w b1 (eF bB) 120/\box w b2 u 167/\kV bm bB bD r u w
 | .rM ks m,v,w=>∃b1 b2 b3 u,v=.func (.func 218) #[] #[eF b1,eF b2,eF b3]/\box w b1 (eF bB) 120/\box w b2 u 88/\Ask bm u (da ks) w/\box w b3 (G m) 176
 | .mr ks name m,v,w=>∃b1 b2 b3 b4 u,v=.func (.func 220) #[] #[eF b1,eF b2,eF b3,eF b4]/\box w b1 (eF bB) 120/\box w b2 u 88/\Ask bm u (da ks) w/\box w b3 (Y name) 9/\box w b4 (G m) 176
 | .item ks,v,w=>∃b1 b2 b3 d h,v=.func (.func 275) #[] #[eF b1,eF b2,eF b3]/\box w b1 (eF bB) 120/\box w b2 d 88/\Ask bm d (da ks) w/\box w b3 h 88/\Ask bm h (λs=>iG s&&!da [jZ,nO] s) w
theorem box.fr(h:box w b v t)(d:wm bm w w')(l:t∉Iq):box w' b v t:=d.cell h l
theorem kV.fr:∀{r:Ru} {v:cY} {w w':J},kV bm bB bD r v w->wm bm w w'->kV bm bB bD r v w'
 | .nil,_,_,_,h,_=>h
 | .nothing,_,_,_,h,_=>h
 | .eI _,_,_,_,h,_=>h
 | .su _,_,_,_,⟨b1,b2,e,h1,h2⟩,hf=>⟨b1,b2,e,box.fr h1 hf (by decide),box.fr h2 hf (by decide)⟩
 | .dl _ _,_,_,_,⟨b1,e,h1⟩,hf=>⟨b1,e,box.fr h1 hf (by decide)⟩
 | .ahead _,_,_,_,⟨b1,b2,e,h1,h2⟩,hf=>⟨b1,b2,e,box.fr h1 hf (by decide),box.fr h2 hf (by decide)⟩
 | .ends _,_,_,_,⟨b1,e,h1⟩,hf=>⟨b1,e,box.fr h1 hf (by decide)⟩
 | .Wb _,_,_,_,⟨b1,b2,u,e,h1,h2,hr⟩,hf=>⟨b1,b2,u,e,box.fr h1 hf (by decide),box.fr h2 hf (by decide),hr.fr hf⟩
 | .rM _ _,_,_,_,⟨b1,b2,b3,u,e,h1,h2,ha,h3⟩,hf=>⟨b1,b2,b3,u,e,box.fr h1 hf (by decide),box.fr h2 hf (by decide),ha.fr hf,box.fr h3 hf (by decide)⟩
 | .mr _ _ _,_,_,_,⟨b1,b2,b3,b4,u,e,h1,h2,ha,h3,h4⟩,hf=>⟨b1,b2,b3,b4,u,e,box.fr h1 hf (by decide),box.fr h2 hf (by decide),ha.fr hf,box.fr h3 hf (by decide),box.fr h4 hf (by decide)⟩
 | .item _,_,_,_,⟨b1,b2,b3,u1,u2,e,h1,h2,ha,h3,hb⟩,hf=>⟨b1,b2,b3,u1,u2,e,box.fr h1 hf (by decide),box.fr h2 hf (by decide),ha.fr hf,box.fr h3 hf (by decide),hb.fr hf⟩
def mf:List (List O×Ru)->O->Option Ru
 |[],_=>none
 |p::R,k=>if da p.1 k then some p.2 else mf R k
def IsMap(bm bB bD b:Nat)(R:List (List O×Ru))(v:cY)(w:J):Prop:=
 ∃L,v=.map (some b)/\qi w b L/\∀k,match mf R k with
  |some r=>∃u,AH L k=some u/\kV bm bB bD r u w
  |none=>AH L k=none
theorem IsMap.fr(h:IsMap bm bB bD b R v w)(l:wm bm w w')(d:w'.heap[b]?=w.heap[b]?):IsMap bm bB bD b R v w':=by
 have⟨L,e,hm,hr⟩:=h;refine⟨L,e,hm.keeps d,λk=>?_⟩;grind[kV.fr]
theorem Ng:∀(L:List (O×cY))(k:O)(v:cY)(s:O),AH (E8 L k v) s=if ir s k then some v else AH L s
 |[],k,v,s=>rfl
 |p::L,k,v,s=>by
  unfold E8;by_cases d:ir k p.1=true;grind[AH,ir];rw[cZ d];unfold AH;rw[Ng L k v s];grind[ir]
theorem Sm(v:cY)(s:O)(ks:List O):∀(L:List (O×cY)),AH (yi L ks v) s=if da ks s then some v else AH L s:=by
 induction ks with
 |nil=>grind[yi,da]
 |cons k ks ih=>
  intro L;show AH (yi _ ks v) s=_;grind[Ng,da]
theorem IsMap.at(h:IsMap bm bB bD b R v w):∃l d,w.heap[b]?=some (.map l d):=by
 have⟨L,e,⟨l,d,ha,_⟩,hr⟩:=h;grind
theorem aek(bm bB bD b:Nat)(s:O)(ks:List O)(r:Ru)(R:List (List O×Ru))(v:cY)(w:J)(D:pk s=true)(h:words s=ks)(H:Hk w)(q:IsMap bm bB bD b R (.map (some b)) w)(l:b≠bm)(I:kV bm bB bD r v w):
  Calls prog 96 #[.map (some b),Y s,v] w λe w'=>e=dw (.map (some b))/\IsMap bm bB bD b ((ks,r)::R) (.map (some b)) w'/\Z [b] w w'/\wm bm w w':=by
 have⟨L,_,hM,hR⟩:=q;refine(alW b s v L w D H.1 hM).mono ?_;rintro e w'⟨rfl,d,n⟩;have A:=wm.of_map n q.at l;rw[h]at d;refine⟨rfl,⟨_,rfl,d,λk=>?_⟩,n,A⟩;rw[Sm];unfold mf;cases hq:da ks k<;>grind[kV.fr]
def agY(bm bB bD:Nat)(w:J):IsMap bm bB bD w.heap.size [] (.map (some w.heap.size)) (w.alloc (.map #[] 0)):=⟨[],rfl,qi.new w,λ_=>rfl⟩
theorem sM(w:J)(d h:Obj):((w.alloc d).alloc h).heap[w.heap.size]?=some d/\((w.alloc d).alloc h).heap[w.heap.size+1]?=some h:=by
 grind[Below.heap_alloc,World.size_alloc,aY]
theorem nK(w:J)(d h l:Obj):(((w.alloc d).alloc h).alloc l).heap[w.heap.size]?=some d/\(((w.alloc d).alloc h).alloc l).heap[w.heap.size+1]?=some h/\(((w.alloc d).alloc h).alloc l).heap[w.heap.size+1+1]?=some l:=by
 grind[Below.heap_alloc,World.size_alloc,aY]
theorem Si(w:J)(d h l n:Obj):((((w.alloc d).alloc h).alloc l).alloc n).heap[w.heap.size]?=some d/\((((w.alloc d).alloc h).alloc l).alloc n).heap[w.heap.size+1]?=some h/\((((w.alloc d).alloc h).alloc l).alloc n).heap[w.heap.size+1+1]?=some l/\((((w.alloc d).alloc h).alloc l).alloc n).heap[w.heap.size+1+1+1]?=some n:=by
 grind[Below.heap_alloc,World.size_alloc,aY]
abbrev wN(bm bB bD:Nat)(r:Ru)(w:J)(e:Ending)(w':J):Prop:=(∃v,e=dw v/\kV bm bB bD r v w')/\Z [] w w'
def ahH(bm bB bD:Nat)(m:Int)(w:J):Calls prog 100 #[eF bB,G m] w (wN bm bB bD (.su m) w):=by
 refine(ag2 bB m w).mono ?_;rintro e w'⟨rfl,rfl⟩;have⟨h1,h2⟩:=sM w (cV #[eF bB] 120) (cV #[G m] 176);exact⟨⟨_,rfl,_,_,rfl,h1,h2⟩,((Z.refl _ _).alloc _).alloc _⟩
def BX(bm bB bD pf:Nat)(own:Bool)(w:J):Calls prog 92 #[eF bB,.func (.func pf) #[eF (if own then bB else bD)] #[]] w (wN bm bB bD (.dl pf own) w):=by
 refine(PB bB _ _ #[] w).mono ?_;rintro e w'⟨rfl,rfl⟩;exact⟨⟨_,rfl,_,rfl,aY w _⟩,(Z.refl _ _).alloc _⟩
def aeL(bm bB bD f:Nat)(w:J):Calls prog 124 #[eF bB,.func (.func f) #[eF bB] #[]] w (wN bm bB bD (.ahead f) w):=by
 refine(PC bB _ _ #[] w).mono ?_;rintro e w'⟨rfl,rfl⟩;have⟨h1,h2⟩:=sM w (cV #[eF bB] 120) (cV #[.func (.func f) #[eF bB] #[]] 65);exact⟨⟨_,rfl,_,_,rfl,h1,h2⟩,((Z.refl _ _).alloc _).alloc _⟩
def ahI(bm bB bD f:Nat)(w:J):Calls prog 128 #[.func (.func f) #[eF bB] #[]] w (wN bm bB bD (.ends f) w):=by
 refine(ag3 _ _ #[] w).mono ?_;rintro e w'⟨rfl,rfl⟩;exact⟨⟨_,rfl,_,rfl,aY w _⟩,(Z.refl _ _).alloc _⟩
theorem kV.func(h:kV bm bB bD r v w)(d:r≠ .nil):∃f a l,v=.func f a l:=by
 cases r with
 |nil=>grind
 |nothing=>exact⟨_,_,_,h⟩
 |eI f=>exact⟨_,_,_,h⟩
 |su m=>have⟨_,_,e,_⟩:=h;grind
 |dl a b=>have⟨_,e,_⟩:=h;grind
 |ahead f=>have⟨_,_,e,_⟩:=h;grind
 |ends f=>have⟨_,e,_⟩:=h;grind
 |Wb r=>have⟨_,_,_,e,_⟩:=h;grind
 |rM a b=>have⟨_,_,_,_,e,_⟩:=h;grind
 |mr a b c=>have⟨_,_,_,_,_,e,_⟩:=h;grind
 |item a=>have⟨_,_,_,_,_,e,_⟩:=h;grind
def akz(bm bB bD:Nat)(r:Ru)(u:cY)(w:J)(h:r≠ .nil)(d:kV bm bB bD r u w):Calls prog 136 #[eF bB,u] w (wN bm bB bD (.Wb r) w):=by
 obtain⟨f,a,l,rfl⟩:=d.func h;refine(PD bB f a l w).mono ?_;rintro e w'⟨rfl,rfl⟩;have⟨h1,h2⟩:=sM w (cV #[eF bB] 120) (cV #[.func f a l] 167);exact⟨⟨_,rfl,_,_,_,rfl,h1,h2,d.fr (.df (((Z.refl _ _).alloc _).alloc _))⟩,(((Z.refl _ _).alloc _).alloc _)⟩
theorem Ask.func(h:Ask bm v p w):∃f a l,v=.func f a l:=by
 grind[call]
def N8(bm bB bD:Nat)(ks:List O)(m:Int)(u:cY)(w:J)(d:Ask bm u (da ks) w):Calls prog 121 #[eF bB,u,G m] w (wN bm bB bD (.rM ks m) w):=by
 obtain⟨f,a,l,rfl⟩:=d.func;refine(SU bB f a l m w).mono ?_;rintro e w'⟨rfl,rfl⟩;have⟨h1,h2,h3⟩:=nK w (cV #[eF bB] 120) (cV #[.func f a l] 88) (cV #[G m] 176);exact⟨⟨_,rfl,_,_,_,_,rfl,h1,h2,d.fr (.df ((((Z.refl _ _).alloc _).alloc _).alloc _)),h3⟩,((((Z.refl _ _).alloc _).alloc _).alloc _)⟩
def Xc(bm bB bD:Nat)(ks:List O)(name:O)(m:Int)(u:cY)(w:J)(d:Ask bm u (da ks) w):Calls prog 123 #[eF bB,u,Y name,G m] w (wN bm bB bD (.mr ks name m) w):=by
 obtain⟨f,a,l,rfl⟩:=d.func;refine(PE bB f a l name m w).mono ?_;rintro e w'⟨rfl,rfl⟩;have⟨h1,h2,h3,h4⟩:=Si w (cV #[eF bB] 120) (cV #[.func f a l] 88) (cV #[Y name] 9) (cV #[G m] 176);exact⟨⟨_,rfl,_,_,_,_,_,rfl,h1,h2,d.fr (.df (((((Z.refl _ _).alloc _).alloc _).alloc _).alloc _)),h3,h4⟩,(((((Z.refl _ _).alloc _).alloc _).alloc _).alloc _)⟩
structure jz where
 blank:Ru:=.nil
 gz:Ru:=.nil
 dl:Ru:=.nil
 dK:Ru:=.nil
 dD:Ru:=.nil
 start:Option (List (List O×Ru)):=none
 stop:Option (List (List O×Ru)):=none
 fX:Ru:=.nil
 ik:Ru:=.nil
 dy:Ru:=.nil
variable {sp:jz}
def pF(bm bB bD:Nat):Option (List (List O×Ru))->cY->J->Prop
 |none,v,_=>v=.map none
 |some R,v,w=>∃b,IsMap bm bB bD b R v w
theorem IsMap.lt(h:IsMap bm bB bD b R v w):b<w.heap.size:=by
 have⟨es,ck,ha⟩:=h.at;grind
theorem pF.dB{R:Option (List (List O×Ru))}(h:pF bm bB bD R v w)(d:Z [] w w'):pF bm bB bD R v w':=by
 cases R with
 |none=>exact h
 |some R=>
  have⟨b,hm⟩:=h;exact⟨b,hm.fr (.df d) (d.block b hm.lt (by simp))⟩
structure gW(bm bB bD:Nat)(sp:jz)(v0 v1 v2 v3 v4 v5 v6 v7 v8 v9:cY)(w:J):Prop where
 blank:kV bm bB bD sp.blank v0 w
 gz:kV bm bB bD sp.gz v1 w
 dl:kV bm bB bD sp.dl v2 w
 dK:kV bm bB bD sp.dK v3 w
 dD:kV bm bB bD sp.dD v4 w
 start:pF bm bB bD sp.start v5 w
 stop:pF bm bB bD sp.stop v6 w
 fX:kV bm bB bD sp.fX v7 w
 ik:kV bm bB bD sp.ik v8 w
 dy:kV bm bB bD sp.dy v9 w
theorem gW.dB(h:gW bm bB bD sp v0 v1 v2 v3 v4 v5 v6 v7 v8 v9 w)(d:Z [] w w'):gW bm bB bD sp v0 v1 v2 v3 v4 v5 v6 v7 v8 v9 w':=
 have f:=.df d
 ⟨h.blank.fr f,h.gz.fr f,h.dl.fr f,h.dK.fr f,h.dD.fr f,h.start.dB d,h.stop.dB d,h.fX.fr f,h.ik.fr f,h.dy.fr f⟩
def nw(bm bB bD:Nat)(sp:jz)(w:J)(e:Ending)(w':J):Prop:=
 ∃v0 v1 v2 v3 v4 v5 v6 v7 v8 v9,e=dw (.agg #[v0,v1,v2,v3,v4,v5,v6,v7,v8,v9])/\gW bm bB bD sp v0 v1 v2 v3 v4 v5 v6 v7 v8 v9 w'/\Z [] w w'
def BD(bB bD:Nat)(w:J):Prop:=w.cell? ⟨bB,187,none⟩=some (eF bD)/\bB<w.heap.size
theorem BD.dB(h:BD bB bD w)(d:Z [] w w'):BD bB bD w':=⟨(d.cell h.2 (by simp)).trans h.1,kL h.2 d.size⟩
abbrev uT:fN:=#[.nilFunc,.nilFunc,.nilFunc,.nilFunc,.nilFunc,.map none,.map none,.nilFunc,.nilFunc,.nilFunc]
def vT(w:J)(o:Obj):∃W,W=w.alloc o/\Z [] w W/\W.heap[w.heap.size]?=some o/\W.heap.size=w.heap.size+1:=⟨_,rfl,(Z.refl _ _).alloc _,aY w _,by simp⟩
theorem pF.JK{R:Option (List (List O×Ru))}(h:pF bm bB bD R v w)(d:Z [s] w w')(hs:w.heap[s]?=some (cV c t))(f:wm bm w w'):pF bm bB bD R v w':=by
 cases R with
 |none=>exact h
 |some R=>
  have⟨b,hb⟩:=h;refine⟨b,hb.fr f (d.block b hb.lt ?_)⟩;grind[IsMap.at]
theorem gW.JK(h:gW bm bB bD sp v0 v1 v2 v3 v4 v5 v6 v7 v8 v9 w)(d:Z [s] w w')(hs:w.heap[s]?=some (cV c 171)):gW bm bB bD sp v0 v1 v2 v3 v4 v5 v6 v7 v8 v9 w':=
 have f:=⟨_,d,λk l _=>by
  have e:=List.mem_singleton.1 l;subst e;exact .inl ⟨_,_,_,hs,by decide⟩⟩
 ⟨h.blank.fr f,h.gz.fr f,h.dl.fr f,h.dK.fr f,h.dD.fr f,h.start.JK d hs f,h.stop.JK d hs f,h.fX.fr f,h.ik.fr f,h.dy.fr f⟩
def Tw(v0 v1 v2 v3 v4 v5 v6 v7 v8 v9:cY):fI uT 0 [v0,v1,v2,v3,v4,v5,v6,v7,v8,v9]=#[v0,v1,v2,v3,v4,v5,v6,v7,v8,v9]:=by
 simp[fI]
def yB(h:w.heap[s]?=some (cV uT 171)):w.cell? ⟨s,0,none⟩=some .nilFunc/\w.cell? ⟨s,1,none⟩=some .nilFunc/\w.cell? ⟨s,2,none⟩=some .nilFunc/\w.cell? ⟨s,3,none⟩=some .nilFunc/\w.cell? ⟨s,4,none⟩=some .nilFunc/\w.cell? ⟨s,5,none⟩=some (.map none)/\w.cell? ⟨s,6,none⟩=some (.map none)/\w.cell? ⟨s,7,none⟩=some .nilFunc/\w.cell? ⟨s,8,none⟩=some .nilFunc/\w.cell? ⟨s,9,none⟩=some .nilFunc:=by
 simp only[aN h];simp
theorem uB(h:w1.heap[w.heap.size]?=some (cV uT 171))(n:Z [] w w1)(D:gW bm bB bD sp v0 v1 v2 v3 v4 v5 v6 v7 v8 v9 w1)(W:J)(d:W=w1.setCells w.heap.size 0 [v0,v1,v2,v3,v4,v5,v6,v7,v8,v9]):
  W.heap[w.heap.size]?=some (cV #[v0,v1,v2,v3,v4,v5,v6,v7,v8,v9] 171)/\gW bm bB bD sp v0 v1 v2 v3 v4 v5 v6 v7 v8 v9 W/\Z [] w W:=by
 have l:=ie [v0,v1,v2,v3,v4,v5,v6,v7,v8,v9] w1 _ _ _ _ 0 h;have q:Z [w.heap.size] w1 W:=by rw[d];exact Z.setCells (.inl (by simp)) _ _ (Z.refl _ _)
 have A:Z [] w W:=by rw[d];exact Z.setCells (.inr (dr _)) _ _ n
 rw[Tw,<-d]at l;grind[gW.JK]
def wX{t:Nat}{h:Func}{a:Act}(d:h.results=#[.cell t 171])(n:a.tmps.getD t undef=cW w.heap.size)(l:a.defers=[])
  (hs:W.heap[w.heap.size]?=some (cV #[v0,v1,v2,v3,v4,v5,v6,v7,v8,v9] 171)/\gW bm bB bD sp v0 v1 v2 v3 v4 v5 v6 v7 v8 v9 W/\Z [] w W):bodyPost prog h (nw bm bB bD sp w) .ret a W:=by
 have⟨hg,hr,hk⟩:=hs;refine nr ?_ l ⟨_,_,_,_,_,_,_,_,_,_,rfl,hr,hk⟩;simp[results,d];simp[(by simpa using n),go_sem,(aN hg)]
structure St(z:Bool)(bm bB bD:Nat)(w cw:J)(rs:List (Ru×cY))(ms:List (Nat×List (List O×Ru))):Prop where
 k:Z [] w cw
 g:z=true->cw.heap[w.heap.size]?=some (cV uT 171)
 t:Hk cw
 lt:bm<w.heap.size
 hrs:∀p∈rs,kV bm bB bD p.1 p.2 cw
 V5:∀p∈ms,IsMap bm bB bD p.1 p.2 (.map (some p.1)) cw/\w.heap.size<=p.1/\p.1≠bm
 nd:(ms.map (·.1)).Nodup
def St.start(bm bB bD:Nat)(w:J)(h:Hk w)(d:bm<w.heap.size):St false bm bB bD w w [] []:=
 ⟨Z.refl _ _,nofun,h,d,nofun,nofun,.nil⟩
def St.amq(s:St false bm bB bD w w [] []):St true bm bB bD w (w.alloc (cV uT 171)) [] []:=
 ⟨(Z.refl _ _).alloc _,λ_=>aY w _,s.t.fr (bm:=bm) (.df ((Z.refl _ _).alloc _)),s.lt,nofun,nofun,.nil⟩
def St.zero(s:St false bm bB bD w w [] []):∃W,W=w.alloc (cV uT 171)/\Hid (W.heap.size=w.heap.size+1)/\St true bm bB bD w W [] []:=⟨_,rfl,V (by simp),s.amq⟩
theorem St.FM{z:Bool}(s:St z bm bB bD w cw rs ms)(l:Z [] cw cw'):St z bm bB bD w cw' rs ms:=
 have f:=.df l
 ⟨s.k.trans l,λh=>l.at (s.g h) (by simp),s.t.fr f,s.lt,λp d=>(s.hrs p d).fr f,λp d=>⟨(s.V5 p d).1.fr f (l.block _ (s.V5 p d).1.lt (by simp)),(s.V5 p d).2⟩,s.nd⟩
theorem St.call{z:Bool}(s:St z bm bB bD w cw rs ms)(h:Z [] cw cw')(n:kV bm bB bD r v cw'):St z bm bB bD w cw' ((r,v)::rs) ms:=
 have d:=s.FM h
 ⟨d.k,d.g,d.t,d.lt,λp l=>by
  grind[hrs],d.V5,d.nd⟩
theorem St.map{z:Bool}(s:St z bm bB bD w cw rs ms):∃W b,W=cw.alloc (.map #[] 0)/\b=cw.heap.size/\St z bm bB bD w W rs ((b,[])::ms):=by
 have l:Z [] cw (cw.alloc (.map #[] 0)):=(Z.refl _ _).alloc _;have d:=s.FM l;refine⟨_,_,rfl,rfl,d.k,d.g,d.t,d.lt,d.hrs,λp h=>?_,?_⟩;rcases List.mem_cons.1 h with rfl|h;exact⟨agY bm bB bD cw,s.k.size,by have:=s.k.size;have:=s.lt;grind⟩;grind[V5];rw[oZ,si];refine⟨λn=>?_,s.nd⟩;obtain⟨p,h,e⟩:=List.mem_map.1 n;have:=(s.V5 p h).1.lt;grind
theorem St.on{z:Bool}{h:List (List O×Ru)}(s:St z bm bB bD w cw rs ((b,R)::ms))(n:Z [b] cw cw')(l:wm bm cw cw')(I:IsMap bm bB bD b h (.map (some b)) cw'):St z bm bB bD w cw' rs ((b,h)::ms):=by
 have H:=s.V5 (b,R) (by simp);have q:=s.nd;refine⟨s.k.next n (λx U=> .inr (by grind)),λA=>n.at (s.g A) ?_,s.t.fr l,s.lt,λp d=>(s.hrs p d).fr l,λp d=>?_,s.nd⟩;grind[IsMap.at,g];rcases List.mem_cons.1 d with rfl|d;grind;have D:=s.V5 p (io _ d);grind[IsMap.fr,Z.block,IsMap.lt]
theorem St.at{z:Bool}(s:St z bm bB bD w cw rs ms)(h:(r,v)∈rs):kV bm bB bD r v cw:=s.hrs _ h
def St.Yz{z:Bool}(s:St z bm bB bD w cw rs ms)(h:(b,R)∈ms):pF bm bB bD (some R) (.map (some b)) cw:=⟨b,(s.V5 _ h).1⟩
theorem St.onm{z:Bool}(S:St z bm bB bD w cw rs ((b,R)::ms))(s:O)(ks:List O)(r:Ru)(l:pk s=true)(d:words s=ks)(n:kV bm bB bD r v cw):
  Calls prog 96 #[.map (some b),Y s,v] cw λe w'=>e=dw (.map (some b))/\St z bm bB bD w w' rs ((b,(ks,r)::R)::ms):=by
 have h:=S.V5 _ (Oo ..);refine(aek bm bB bD b s ks r R v cw l d S.t h.1 h.2.2 n).mono ?_;grind[on]
theorem St.made{z:Bool}(S:St z bm bB bD w cw rs ms){f:Nat}{args:fN}(C:Calls prog f args cw (wN bm bB bD r cw))(d:r≠ .nil):
  Calls prog f args cw λe w'=>∃f a l,e=dw (.func f a l)/\St z bm bB bD w w' ((r,.func f a l)::rs) ms:=by
 refine C.mono ?_;grind[kV.func,call]
theorem St.amP{z:Bool}(S:St z bm bB bD w cw rs ms){f:Nat}{args:fN}(C:Calls prog f args cw λe w'=>(∃v,e=dw v/\Ask bm v p w')/\Z [] cw w'):
  Calls prog f args cw λe w'=>∃f a l,e=dw (.func f a l)/\Ask bm (.func f a l) p w'/\St z bm bB bD w w' rs ms:=by
 refine C.mono ?_;grind[Ask.func,FM]
def asks(bm:Nat)(w:J):∀p∈[(122,[aV]),(134,[cJ,cF,cM]),(233,[dq])],Calls prog p.1 #[] w λe w'=>(∃v,e=dw v/\Ask bm v (da p.2) w')/\Z [] w w':=by
 intro p A;obtain⟨W,n,H,g,z⟩:=vT w (cV (p.2.map Value.string).toArray 9);have C:=Wg bm w.heap.size p.2.length p.2 W g;have d:=V n;clear n;simp only[UQ,pW,pX]at A;rcases A with rfl|rfl|rfl
 all_goals
  replace C:=C (by decide);dsimp only at C d|-
  first
  |go_enter func122,ntmps122
  |go_enter func134,ntmps134
  |go_enter func233,ntmps233
  go_wp2_with fail;have d:=d.out;simp at d;rw[<-d];clear d;refine C.mono ?_;rintro e w'⟨⟨v,rfl,q⟩,I⟩;have D:=V q;have h:=H.trans I;obtain⟨f,a,l,U⟩:=q.func;subst U;go_wp2;go_ret;exact⟨⟨_,rfl,D.out⟩,h⟩
def vP(bm:Nat)(v:cY)(p:O->Bool)(X:Nat->Prop)(w:J):Prop:=∃E,lC E v p w/\∀e∈E,vS bm w e/\¬X e
theorem vP.ask(h:vP bm v p X w):Ask bm v p w:=by
 have⟨E,hA,hE⟩:=h;grind[Ask]
theorem vP.kept(h:vP bm v p X w)(l:Z [] w w'):vP bm v p X w':=by
 have⟨E,hA,hE⟩:=h;exact⟨E,hA.dB l,λe d=>⟨(hE e d).1.fr (.df l),(hE e d).2⟩⟩
def vP.other{l:Nat->Prop}(h:vP bm v p X w)(n:∀e,e<w.heap.size->l e->X e):vP bm v p l w:=by
 have⟨E,hA,hE⟩:=h;exact⟨E,hA,λe d=>⟨(hE e d).1,λq=>(hE e d).2 (n e (hA.lt e d) q)⟩⟩
def vP.of(h:Ask bm v p w)(l:∀e,e<w.heap.size->¬X e):vP bm v p X w:=by
 have⟨E,hA,hE⟩:=h;exact⟨E,hA,λe d=>⟨hE e d,l e (hA.lt e d)⟩⟩
theorem vP.set{bm k:Nat}{v:cY}{p:O->Bool}{X:Nat->Prop}{w:J}(h:vP bm v p X w)(n:X k)(u:cY):vP bm v p X (w.setCell ⟨k,0,none⟩ u):=by
 have⟨E,hA,hE⟩:=h;have l:=λe d=>Below.heap_setCell w ⟨k,0,none⟩ u e (λq=>(hE e d).2 (by grind));refine⟨E,hA.keeps l (by simp),λe d=>⟨?_,(hE e d).2⟩⟩;grind[vS]
theorem Yr(bm g cap:Nat)(d:List O)(X:Nat->Prop)(w:J)(D:w.heap[g]?=some (cV (d.map Value.string).toArray 9))(h:d.length<=4096)(H:∀e,X e->e<w.heap.size/\e≠g):
  Calls prog 219 #[ky g d.length cap] w λe w'=>(∃v,e=dw v/\vP bm v (da d) X w')/\Z [] w w':=by
 refine(aiC g cap _ w).mono ?_;rintro e w'⟨rfl,rfl⟩;have A:Z [] w (w.alloc (cV #[ky g d.length cap] 46)):=(Z.refl _ _).alloc _;have l:=aY w (cV #[ky g d.length cap] 46);have n:=A.at D (by simp);refine⟨⟨_,rfl,_,adF _ g cap d _ l n h,λe q=>?_⟩,A⟩;simp at q;rcases q with rfl|rfl;exact⟨.inr ⟨_,_,l,by decide⟩,by grind⟩;exact⟨.inr ⟨_,_,n,by decide⟩,by grind⟩
theorem acu(bm:Nat)(v1 v2:cY)(p q:O->Bool)(X:Nat->Prop)(w:J)(D:vP bm v1 p X w)(H:vP bm v2 q X w)(I:∀e,X e->e<w.heap.size):
  Calls prog 274 #[v1,v2] w λe w'=>(∃v,e=dw v/\vP bm v (λs=>p s&&!q s) X w')/\Z [] w w':=by
 have⟨E1,a1,c1⟩:=D;have⟨E2,a2,c2⟩:=H;refine(acv E1 E2 v1 v2 p q w a1 a2).mono ?_;rintro e w'⟨⟨v,rfl,A,l,n⟩,h⟩;refine⟨⟨v,rfl,_,A,λe d=>⟨NP (.inr ⟨_,_,l,by decide⟩) (.inr ⟨_,_,n,by decide⟩) (λe d=>(c1 e d).1.fr (.df h)) (λe d=>(c2 e d).1.fr (.df h)) e d,λU=>?_⟩⟩,h⟩;grind
def XX(s5 s6:cY)(e:Nat):Prop:=eF e=s5\/eF e=s6
abbrev agj:List O:=[jZ,nO]
abbrev akp:O->Bool:=λs=>iG s&&!da agj s
structure QW(bm bB:Nat)(ks:List O)(sl u:cY)(w1:J)(b0 b1 b2 b3 b4 b5 b6 b7 b8 b9 b10 b11 b12:Bool)(s5 s6 s7 s8 s9 s10 s11 s12 s13 s14 s15:cY)(w:J):Prop where
 k:Z [] w1 w
 f0:b0=true->s7=sl
 f1:b1=true->vP bm s8 (da ks) (XX s5 s6) w
 f2:b2=true->s9=eF bB
 f3:b3=true->s10=eF bB
 f4:b4=true->s11=fR bB 184
 f5:b5=true->s12=u
 f6:b6=true->∃g,s13=ky g 2 2/\w.heap[g]?=some (cV #[Y jZ,Y nO] 9)
 f7:b7=true->vP bm s14 (da agj) (XX s5 s6) w
 f8:b8=true->vP bm s15 akp (XX s5 s6) w
 f9:if b9 then ∃k,s5=eF k/\w1.heap.size<=k/\box w k (if b11 then s8 else .nilFunc) 88 else s5=undef
 f10:if b10 then ∃k,s6=eF k/\w1.heap.size<=k/\box w k (if b12 then s15 else .nilFunc) 88 else s6=undef
 ne:b9=true->b10=true->s5≠s6
 d11:b11=true->b1=true/\b9=true
 d12:b12=true->b8=true/\b10=true
section
variable {bm bB:Nat}{ks:List O}{sl u:cY}{w1:J}{b0 b1 b2 b3 b4 b5 b6 b7 b8 b9 b10 b11 b12:Bool}{s5 s6 s7 s8 s9 s10 s11 s12 s13 s14 s15:cY}{w w':J}
theorem XX.lt(h:QW bm bB ks sl u w1 b0 b1 b2 b3 b4 b5 b6 b7 b8 b9 b10 b11 b12 s5 s6 s7 s8 s9 s10 s11 s12 s13 s14 s15 w){e:Nat}(d:XX s5 s6 e):w1.heap.size<=e/\∃v,box w e v 88:=by
 rcases d with d|d;have:=h.f9;cases b9 with
 |false=>rw[this]at d;simp[undef]at d
 |true=>grind
 have:=h.f10;cases b10 with
 |false=>rw[this]at d;simp[undef]at d
 |true=>grind
theorem QW.go(h:QW bm bB ks sl u w1 b0 b1 b2 b3 b4 b5 b6 b7 b8 b9 b10 b11 b12 s5 s6 s7 s8 s9 s10 s11 s12 s13 s14 s15 w)(d:Z [] w w'):QW bm bB ks sl u w1 b0 b1 b2 b3 b4 b5 b6 b7 b8 b9 b10 b11 b12 s5 s6 s7 s8 s9 s10 s11 s12 s13 s14 s15 w':=by
 refine⟨h.k.trans d,h.f0,λq=>(h.f1 q).kept d,h.f2,h.f3,h.f4,h.f5,λq=>?_,λq=>(h.f7 q).kept d,λq=>(h.f8 q).kept d,?_,?_,h.ne,h.d11,h.d12⟩
 all_goals grind[f6,Z.at,f9,f10]
end
theorem ahJ(bm bB bD g cap:Nat)(ks:List O)(u:cY)(w:J)(hB:bB<w.heap.size)(hu:w.cell? ⟨bB,184,none⟩=some u)(hA:Ask bm u iG w)(h2:w.heap[g]?=some (cV (ks.map Value.string).toArray 9))(ah:ks.length<=4096):
  Calls prog 192 #[eF bB,ky g ks.length cap] w (wN bm bB bD (.item ks) w):=by
 obtain⟨uf,ua,ul,rfl⟩:=hA.func;have⟨w1,hw1,HK,HG,HZ⟩:=vT w (cV #[eF bB] 120);have HU:=hu;have HB:=hB;have a7:=V hA;have H2:=h2;have a9:=ah;have HW:=V hw1;clear hA hw1;go_enter func192,ntmps192;go_wp21;refine tz (by rfl) ?_;change wpAny _ _ _ _ _ _ _ (World.drew _);rw[<-HW.out];refine Ft (I:=λn a W=>∃b0 b1 b2 b3 b4 b5 b6 b7 b8 b9 b10 b11 b12 s5 s6 s7 s8 s9 s10 s11 s12 s13 s14 s15,n=#[b0,b1,b2,b3,b4,b5,b6,b7,b8,b9,b10,b11,b12]/\a=⟨#[eF bB,ky g ks.length cap,cW w.heap.size,undef,.nilFunc,s5,s6,s7,s8,s9,s10,s11,s12,s13,s14,s15,undef],[]⟩/\QW bm bB ks (ky g ks.length cap) (.func uf ua ul) w1 b0 b1 b2 b3 b4 b5 b6 b7 b8 b9 b10 b11 b12 s5 s6 s7 s8 s9 s10 s11 s12 s13 s14 s15 W) ?_ ?_ _ _ _ _ ?_ ?_
 .rintro n a W i⟨b0,b1,b2,b3,b4,b5,b6,b7,b8,b9,b10,b11,b12,s5,s6,s7,s8,s9,s10,s11,s12,s13,s14,s15,rfl,rfl,d⟩ hi;simp only[Region.ready,UM,UO]at hi;have⟨a3,hc⟩:=hi;have a3:i<13:=a3;obtain rfl|rfl|rfl|rfl|rfl|rfl|rfl|rfl|rfl|rfl|rfl|rfl|rfl:i=0\/i=1\/i=2\/i=3\/i=4\/i=5\/i=6\/i=7\/i=8\/i=9\/i=10\/i=11\/i=12:=by omega
  all_goals simp[Region.binds]at hc
  .refine jO rfl ?_;intro H h;go_simp;refine h _ _ ?_
   iterate 24 apply Exists.intro
   refine⟨rfl,rfl,?_⟩;exact⟨d.k,λ_=>rfl,d.f1,d.f2,d.f3,d.f4,d.f5,d.f6,d.f7,d.f8,d.f9,d.f10,d.ne,d.d11,d.d12⟩
  .refine jO rfl ?_;intro H h;have e7:=d.f0 hc.2;subst e7;have a1:b11=false:=by
    cases b11 with
    |false=>rfl
    |true=>have:=(d.d11 rfl).1;simp[hc.1]at this
   subst a1;have C:=(Yr bm g cap ks (XX s5 s6) W ((HK.trans d.k).at H2 (by simp)) a9 (λe l=>by
    have⟨h1,v,h3⟩:=XX.lt d l;grind))
   go_simp;refine C.mono ?_;rintro e w'⟨⟨v,rfl,U⟩,A⟩;have ai:=d.go A;refine h _ _ ?_
   iterate 24 apply Exists.intro
   refine⟨rfl,rfl,?_⟩;exact⟨ai.k,ai.f0,λ_=>U,ai.f2,ai.f3,ai.f4,ai.f5,ai.f6,ai.f7,ai.f8,ai.f9,ai.f10,ai.ne,(λq=>by simp at q),ai.d12⟩
  .refine jO rfl ?_;intro H h;have c0:W.cell? ⟨w.heap.size,0,none⟩=some (eF bB):=(aN (d.k.at HG (by simp)) 0).trans rfl;go_simp;refine h _ _ ?_
   iterate 24 apply Exists.intro
   refine⟨rfl,rfl,?_⟩;exact⟨d.k,d.f0,d.f1,λ_=>rfl,d.f3,d.f4,d.f5,d.f6,d.f7,d.f8,d.f9,d.f10,d.ne,d.d11,d.d12⟩
  .refine jO rfl ?_;intro H h;have e9:=d.f2 hc.2;subst e9;go_simp;refine h _ _ ?_
   iterate 24 apply Exists.intro
   refine⟨rfl,rfl,?_⟩;exact⟨d.k,d.f0,d.f1,d.f2,λ_=>rfl,d.f4,d.f5,d.f6,d.f7,d.f8,d.f9,d.f10,d.ne,d.d11,d.d12⟩
  .refine jO rfl ?_;intro H h;have ab:=d.f3 hc.2;subst ab;go_simp;refine h _ _ ?_
   iterate 24 apply Exists.intro
   refine⟨rfl,rfl,?_⟩;exact⟨d.k,d.f0,d.f1,d.f2,d.f3,λ_=>rfl,d.f5,d.f6,d.f7,d.f8,d.f9,d.f10,d.ne,d.d11,d.d12⟩
  .refine jO rfl ?_;intro H h;have ac:=d.f4 hc.2;subst ac;have c0:W.cell? ⟨bB,184,none⟩=some (.func uf ua ul):=((HK.trans d.k).cell (p:=⟨bB,184,none⟩) HB (by simp)).trans HU;go_simp;refine h _ _ ?_
   iterate 24 apply Exists.intro
   refine⟨rfl,rfl,?_⟩;exact⟨d.k,d.f0,d.f1,d.f2,d.f3,d.f4,λ_=>rfl,d.f6,d.f7,d.f8,d.f9,d.f10,d.ne,d.d11,d.d12⟩
  .refine jO rfl ?_;intro H h;go_simp;have A:Z [] W (W.alloc (cV #[Y jZ,Y nO] 9)):=(Z.refl _ _).alloc _;have ai:=d.go A;refine h _ _ ?_
   iterate 24 apply Exists.intro
   refine⟨rfl,rfl,?_⟩;exact⟨ai.k,ai.f0,ai.f1,ai.f2,ai.f3,ai.f4,ai.f5,λ_=>⟨_,rfl,aY W _⟩,ai.f7,ai.f8,ai.f9,ai.f10,ai.ne,ai.d11,ai.d12⟩
  .refine jO rfl ?_;intro H h;have⟨g3,e13,h13⟩:=d.f6 (by simp[hc]);subst e13;have C:=(Yr bm g3 2 agj (XX s5 s6) W h13 (by decide) (λe l=>by
    have⟨h1,v,h3⟩:=XX.lt d l;grind))
   go_simp;refine C.mono ?_;rintro e w'⟨⟨v,rfl,U⟩,A⟩;have ai:=d.go A;refine h _ _ ?_
   iterate 24 apply Exists.intro
   refine⟨rfl,rfl,?_⟩;exact⟨ai.k,ai.f0,ai.f1,ai.f2,ai.f3,ai.f4,ai.f5,ai.f6,λ_=>U,ai.f8,ai.f9,ai.f10,ai.ne,ai.d11,ai.d12⟩
  .refine jO rfl ?_;intro H h;have ad:=d.f5 (by simp[hc]);subst ad;have ae:=d.f7 (by simp[hc]);have a2:b12=false:=by
    cases b12 with
    |false=>rfl
    |true=>have:=(d.d12 rfl).1;simp[hc.1]at this
   subst a2;have ag:vP bm (.func uf ua ul) iG (XX s5 s6) W:=(vP.of (a7.fr (.df HK)) (λe he l=>by have:=(XX.lt d l).1;omega)).kept d.k;have C:=(acu bm (.func uf ua ul) s14 iG (da agj) (XX s5 s6) W ag ae (λe l=>by
    have⟨h1,v,h3⟩:=XX.lt d l;exact eS h3))
   go_simp;refine C.mono ?_;rintro e w'⟨⟨v,rfl,U⟩,A⟩;have ai:=d.go A;refine h _ _ ?_
   iterate 24 apply Exists.intro
   refine⟨rfl,rfl,?_⟩;exact⟨ai.k,ai.f0,ai.f1,ai.f2,ai.f3,ai.f4,ai.f5,ai.f6,ai.f7,λ_=>U,ai.f9,ai.f10,ai.ne,ai.d11,(λq=>by simp at q)⟩
  .refine jO rfl ?_;intro H h;have uI:b11=false:=by
    cases b11 with
    |false=>rfl
    |true=>have:=(d.d11 rfl).2;simp[hc]at this
   subst uI;have hb:b9=false:=by simpa using hc
   subst hb;have hs:s5=undef:=d.f9;subst hs;go_simp;have A:Z [] W (W.alloc (cV #[.nilFunc] 88)):=(Z.refl _ _).alloc _;have ai:=d.go A;have hX:∀e,e<W.heap.size->XX (eF W.heap.size) s6 e->XX undef s6 e:=λe he l=>by
    rcases l with l|l
    .simp at l<;>omega
    exact .inr l
   refine h _ _ ?_
   iterate 24 apply Exists.intro
   refine⟨rfl,rfl,?_⟩;exact⟨ai.k,ai.f0,(λq=>((d.f1 q).other hX).kept A),ai.f2,ai.f3,ai.f4,ai.f5,ai.f6,(λq=>((d.f7 q).other hX).kept A),(λq=>((d.f8 q).other hX).kept A),⟨_,rfl,d.k.size,aY W _⟩,ai.f10,(λ_ q=>by subst q;have⟨k,e1,h1,h3⟩:=d.f10;grind),(λq=>by simp at q),ai.d12⟩
  .refine jO rfl ?_;intro H h;have uI:b12=false:=by
    cases b12 with
    |false=>rfl
    |true=>have:=(d.d12 rfl).2;simp[hc]at this
   subst uI;have hb:b10=false:=by simpa using hc
   subst hb;have hs:s6=undef:=d.f10;subst hs;go_simp;have A:Z [] W (W.alloc (cV #[.nilFunc] 88)):=(Z.refl _ _).alloc _;have ai:=d.go A;have hX:∀e,e<W.heap.size->XX s5 (eF W.heap.size) e->XX s5 undef e:=λe he l=>by
    rcases l with l|l;exact .inl l;grind
   refine h _ _ ?_
   iterate 24 apply Exists.intro
   refine⟨rfl,rfl,?_⟩;exact⟨ai.k,ai.f0,(λq=>((d.f1 q).other hX).kept A),ai.f2,ai.f3,ai.f4,ai.f5,ai.f6,(λq=>((d.f7 q).other hX).kept A),(λq=>((d.f8 q).other hX).kept A),ai.f9,⟨_,rfl,d.k.size,aY W _⟩,(λq _=>by subst q;have⟨k,e1,h1,h3⟩:=d.f9;grind),ai.d11,(λq=>by simp at q)⟩
  .refine jO rfl ?_;intro H h;have uI:b11=false:=by simp[hc]
   subst uI;have hb:b9=true:=by simp[hc]
   have a0:b1=true:=by simp[hc]
   subst hb a0;have⟨k,hs,h1,h3⟩:=d.f9;subst hs;have⟨f,aa,ll,U⟩:=(d.f1 rfl).ask.func;subst U;have c0:W.cell? ⟨k,0,none⟩=some .nilFunc:=(aN h3 0).trans rfl;have c1:=cQ h3 0;go_simp;have l:XX (eF k) s6 k:=.inl rfl;refine h _ _ ?_
   iterate 24 apply Exists.intro
   refine⟨rfl,rfl,?_⟩;refine⟨d.k.setCell (p:=⟨k,0,none⟩) (.inr h1) _,d.f0,(λq=>(d.f1 q).set l _),d.f2,d.f3,d.f4,d.f5,λq=>?_,(λq=>(d.f7 q).set l _),(λq=>(d.f8 q).set l _),⟨k,rfl,h1,(bJ h3 0 _).trans rfl⟩,?_,d.ne,(λ_=>⟨rfl,rfl⟩),d.d12⟩;have⟨g3,e13,h13⟩:=d.f6 q;exact⟨g3,e13,(Below.heap_setCell W ⟨k,0,none⟩ _ g3 (wR h13 h3 (by decide))).trans h13⟩;have:=d.f10;split at this;rename_i hq;have⟨k2,e2,h4,h5⟩:=this;rw[dd hq];refine⟨k2,e2,h4,(Below.heap_setCell W ⟨k,0,none⟩ _ k2 (λq=>?_)).trans h5⟩;subst q;exact d.ne rfl hq e2.symm;grind
  .refine jO rfl ?_;intro H h;have uI:b12=false:=by simp[hc]
   subst uI;have hb:b10=true:=by simp[hc]
   have a0:b8=true:=by simp[hc]
   subst hb a0;have⟨k,hs,h1,h3⟩:=d.f10;subst hs;have⟨f,aa,ll,U⟩:=(d.f8 rfl).ask.func;subst U;have c0:W.cell? ⟨k,0,none⟩=some .nilFunc:=(aN h3 0).trans rfl;have c1:=cQ h3 0;go_simp;have l:XX s5 (eF k) k:=.inr rfl;refine h _ _ ?_
   iterate 24 apply Exists.intro
   refine⟨rfl,rfl,?_⟩;refine⟨d.k.setCell (p:=⟨k,0,none⟩) (.inr h1) _,d.f0,(λq=>(d.f1 q).set l _),d.f2,d.f3,d.f4,d.f5,λq=>?_,(λq=>(d.f7 q).set l _),(λq=>(d.f8 q).set l _),?_,⟨k,rfl,h1,(bJ h3 0 _).trans rfl⟩,d.ne,d.d11,(λ_=>⟨rfl,rfl⟩)⟩;have⟨g3,e13,h13⟩:=d.f6 q;exact⟨g3,e13,(Below.heap_setCell W ⟨k,0,none⟩ _ g3 (wR h13 h3 (by decide))).trans h13⟩;have:=d.f9;split at this;rename_i hq;have⟨k2,e2,h4,h5⟩:=this;rw[dd hq];refine⟨k2,e2,h4,(Below.heap_setCell W ⟨k,0,none⟩ _ k2 (λq=>?_)).trans h5⟩;subst q;exact d.ne hq rfl e2;grind
 .rintro n a W⟨b0,b1,b2,b3,b4,b5,b6,b7,b8,b9,b10,b11,b12,s5,s6,s7,s8,s9,s10,s11,s12,s13,s14,s15,rfl,rfl,d⟩ D;simp only[Region.ready,afq,UO]at D;have q0:=D 0 (by decide);simp[Region.binds]at q0;subst q0;have q1:=D 1 (by decide);simp[Region.binds]at q1;subst q1;have q2:=D 2 (by decide);simp[Region.binds]at q2;subst q2;have q3:=D 3 (by decide);simp[Region.binds]at q3;subst q3;have q4:=D 4 (by decide);simp[Region.binds]at q4;subst q4;have q5:=D 5 (by decide);simp[Region.binds]at q5;subst q5;have q6:=D 6 (by decide);simp[Region.binds]at q6;subst q6;have q7:=D 7 (by decide);simp[Region.binds]at q7;subst q7;have q8:=D 8 (by decide);simp[Region.binds]at q8;subst q8;have q9:=D 9 (by decide);simp[Region.binds]at q9;subst q9;have a4:=D 10 (by decide);simp[Region.binds]at a4;subst a4;have a5:=D 11 (by decide);simp[Region.binds]at a5;subst a5;have a6:=D 12 (by decide);simp[Region.binds]at a6;subst a6;have⟨k5,e5,h5,X5⟩:=d.f9;have⟨k6,e6,h6,X6⟩:=d.f10;subst e5 e6;have A1:=(d.f1 rfl).ask;have A2:=(d.f8 rfl).ask;have a8:=HK.trans d.k;have G2:=d.k.at HG (by simp);rename_i KK af;refine af _ _ ?_;go_wp2;go_ret;exact⟨⟨_,rfl,_,_,_,_,_,rfl,G2,X5,A1,X6,A2⟩,a8⟩
 decide;exact⟨false,false,false,false,false,false,false,false,false,false,false,false,false,undef,undef,undef,undef,undef,undef,undef,undef,undef,undef,undef,rfl,rfl,(Z.refl _ _).drew,by simp,by simp,by simp,by simp,by simp,by simp,by simp,by simp,by simp,rfl,rfl,by simp,by simp,by simp⟩
def abZ(bm bB bD:Nat)(R:List (List O×Ru))(w:J)(e:Ending)(w':J):Prop:=∃b,e=dw (.map (some b))/\IsMap bm bB bD b R (.map (some b)) w'/\w.heap.size<=b/\b≠bm/\Z [] w w'
def St.mapOf{z:Bool}(s:St z bm bB bD w cw rs ms)(A:Z [] cw cw')(D:IsMap bm bB bD b R (.map (some b)) cw')(q:cw.heap.size<=b)(n:b≠bm):St z bm bB bD w cw' rs ((b,R)::ms):=by
 have d:=s.FM A;refine⟨d.k,d.g,d.t,d.lt,d.hrs,λp l=>?_,?_⟩;rcases List.mem_cons.1 l with rfl|l;exact⟨D,fK s.k.size q,n⟩;exact d.V5 p l;rw[oZ,si];refine⟨λh=>?_,s.nd⟩;obtain⟨p,l,e⟩:=List.mem_map.1 h;have:=(s.V5 p l).1.lt;simp at e;omega
def BS(bm bB:Nat)(w:J):Prop:=bB<w.heap.size/\∃u,w.cell? ⟨bB,184,none⟩=some u/\Ask bm u iG w
theorem BS.dB(h:BS bm bB w)(d:Z [] w w'):BS bm bB w':=by
 have⟨h1,u,hu,hA⟩:=h;exact⟨kL h1 d.size,u,(d.cell (p:=⟨bB,184,none⟩) h1 (by simp)).trans hu,hA.fr (.df d)⟩
def St.slice{z:Bool}(s:St z bm bB bD w cw rs ms)(h:List O)(d:fN)(l:(h.map Value.string).toArray=d):∃W g,W=cw.alloc (cV d 9)/\g=cw.heap.size/\W.heap[g]?=some (cV (h.map Value.string).toArray 9)/\St z bm bB bD w W rs ms:=
 ⟨_,_,rfl,rfl,by rw[l];exact aY cw _,s.FM ((Z.refl _ _).alloc _)⟩
def aeM{z:Bool}(s:St z bm bB bD w cw rs ms)(uI:BS bm bB w)(g cap n:Nat)(ks:List O)(A:ks.length=n)(q:cw.heap[g]?=some (cV (ks.map Value.string).toArray 9))(d:ks.length<=4096):
  Calls prog 192 #[eF bB,ky g n cap] cw (wN bm bB bD (.item ks) cw):=by
 subst A;obtain⟨h,u,D,l⟩:=uI.dB s.k;exact ahJ bm bB bD g cap ks u cw h D l q d
def Gt(bm bB bD pf h:Nat)(own:Bool)(w:J)(d:h=if own then bB else bD):Calls prog 92 #[eF bB,.func (.func pf) #[eF h] #[]] w (wN bm bB bD (.dl pf own) w):=by
 rw[d];exact BX bm bB bD pf own w
def al7:Calls prog 92 #[eF bB,.func (.func pf) #[eF bB] #[]] w (wN bm bB bD (.dl pf true) w):=BX bm bB bD pf true w
def al5:Calls prog 92 #[eF bB,.func (.func pf) #[eF bD] #[]] w (wN bm bB bD (.dl pf false) w):=BX bm bB bD pf false w
def al9:kV bm bB bD .nothing (.func (.func 91) #[] #[]) w:=rfl
def al8{f:Nat}:kV bm bB bD (.eI f) (.func (.func f) #[eF bB] #[]) w:=rfl
def od:jz:={blank:=.nothing,dl:=.dl 93 false,dK:=.nothing,start:=some [([aG],(.eI 97))],stop:=some [([bZ,aZ,aG,jM],(.eI 98))],ik:=.nothing,dy:=.eI 98}
def jP:jz:={blank:=.nothing,dl:=.dl 99 true,dK:=.nothing,start:=some [([bZ],(.eI 101)),([aG],(.su 6))],stop:=some [([bZ,aZ,aG,jM],(.eI 102))],ik:=.nothing,dy:=.eI 102}
def iB:jz:={blank:=.eI 103,dl:=.dl 99 true,dK:=.nothing,start:=some [([eX],(.eI 106)),([fM],(.eI 105)),([dR],(.eI 104)),([aG],(.su 6)),([bZ],.nothing)],stop:=some [([aZ,aG,jM],(.eI 108)),([bZ],(.eI 107))],ik:=.nothing,dy:=.eI 108}
def kJ:jz:={blank:=.eI 103,dl:=.dl 99 true,dK:=.nothing,start:=some [([dR,fM,eX],(.eI 110)),([aZ],(.eI 109)),([aG],(.su 6)),([bZ],.nothing)],stop:=some [([aZ,aG,jM],(.eI 111))],ik:=.nothing,dy:=.eI 111}
def Fh:jz:={gz:=.eI 103,dD:=.eI 112,dy:=.eI 113}
def iM:jz:={gz:=.eI 130,dy:=.eI 131}
def yp:jz:={start:=some [([cO,dz,bY,cJ,dE,cF,dF,cM,dq],(.ahead 132))],stop:=some [([aZ,dz,bY,aG,cJ,dE,cF,dF,cM,dq],.nothing),([aV],(.ahead 132)),([cO],(.ends 132))],dy:=.su 6}
def B9:jz:={gz:=.eI 119,dl:=.dl 99 true,dK:=.nothing,start:=some [([fL],(.eI 127)),([fO],(.eI 126)),([eX],(.su 3)),([aV],(.ahead 125)),([dE,dF,dq],(.mr [aV] cJ 11)),([cJ,cF,cM],(.rM [aV] 11)),([dz],(.mr [aV] bY 10)),([bY],(.rM [aV] 10)),([cO],(.eI 120))],stop:=some [([aZ,cO,dz,bY,aG,cJ,dE,cF,dF,cM,dq],.nothing),([aV],(.ends 125))],dy:=.eI 129}
def pr:jz:={blank:=.eI 103,dl:=.dl 99 true,dK:=.nothing,dD:=.su 6,start:=some [([dz],(.eI 104)),([aG],(.su 6))],stop:=some [([bY],(.ends 133)),([dz],.nothing)],dy:=.ahead 133}
def vB:jz:={start:=some [([cO,dz,bY,cJ,cF,cM],(.ahead 135)),([dE,dF],(.mr [cJ,cF,cM] dq 12)),([dq],(.rM [cJ,cF,cM] 12))],stop:=some [([aZ,cO,dz,bY,aG,dE,dF,dq],.nothing),([aV],(.ahead 135)),([cJ,cF,cM],(.Wb (.ends 135)))],dy:=.su 7}
def KE:jz:={start:=some [([cO,dz,bY,cJ,cF,cM,dq],(.ahead 138)),([dE,dF],(.eI 137))],stop:=some [([aZ,cO,dz,bY,aG,dE,dF],.nothing),([cJ,cF,cM],(.Wb (.ahead 138))),([aV],(.ahead 138)),([dq],(.ends 138))],dy:=.su 7}
def Fg:jz:={start:=some [([cO,dz,bY,cJ,dE,cF,dF,cM,dq],(.ahead 139))],stop:=some [([aZ,cO,dz,bY,aG],.nothing),([aV,cJ,cF,cM,dq],(.Wb (.ahead 139))),([dE,dF],(.Wb (.ends 139)))],dy:=.su 6}
def zQ:jz:={gz:=.eI 140,dl:=.dl 99 true,start:=some [([fL,ju],(.ahead 144)),([gu],(.ends 144)),([qC],(.eI 143)),([cD],(.eI 142)),([dj],(.eI 141)),([aG],(.su 6))],stop:=some [([gu],(.ends 144)),([dj],(.eI 146)),([cD],(.eI 145))],dy:=.nothing}
def qx:jz:={start:=some [([cO,aV,cJ,cF,cM,dq,dE,dF],(.ahead 144))],stop:=some [([cO,aV,cJ,cF,cM,dq,dE,dF],(.Wb (.ahead 144)))],dy:=.su 14}
def iy:List (List O×Ru):=[([dx],(.eI 212)),([xH,⟨#[98]⟩,⟨#[105]⟩,fu],(.eI 211)),([fO],(.eI 210)),([jM],(.eI 209)),([nO],(.eI 208)),([nN],(.eI 207)),([px,py],(.eI 206)),([jZ,vO,⟨#[100,108]⟩,⟨#[112,114,101]⟩,dN,qA,qB],(.eI 205)),([aG],(.eI 204)),([aZ],(.eI 203))]
def ij:List (List O×Ru):=[([dx],(.eI 202)),([fu],(.eI 201)),([⟨#[98]⟩,⟨#[105]⟩],(.eI 200)),([xH],(.eI 199)),([jM,mZ,fL],(.eI 198)),([gu],(.eI 197)),([dj,cD],(.eI 196)),([ju],(.eI 195)),([aV],(.eI 194)),([dN],(.eI 193)),([qA,qB],(.item [qA,qB])),([nN],(.item [nN])),([fO],(.eI 191)),([qC],(.eI 190)),([px,py],(.eI 189)),([⟨#[112,114,101]⟩],(.eI 188)),([jZ,vO,⟨#[100,108]⟩,nO],(.eI 187)),([bZ,cO,dz,bY,cJ,dE,cF,dF,cM,dq],.nothing),([dR,fM,eX],(.su 3)),([aZ],(.eI 186)),([aG],(.eI 185))]
def kP(pf:Nat)(own:Bool):jz:={blank:=.su 6,dl:=.dl pf own,dK:=.nothing,dD:=.nothing,start:=some [([aG],(.su 6))],dy:=.eI 241}
def aeO:List (Nat×jz):=[(63,{blank:=.nothing,dl:=.dl 93 false,dK:=.eI 94,dy:=.eI 95}),(64,od),(65,jP),(66,iB),(67,kJ),(72,yp),(70,B9),(73,pr),(74,vB),(75,KE),(76,Fg),(77,zQ),(78,qx)]
def aiU(bm bB bD:Nat)(w:J):Calls prog 68 #[eF bB] w (nw bm bB bD Fh w)/\Calls prog 71 #[eF bB] w (nw bm bB bD iM w):=by
 constructor
 all_goals
  first
  |go_enter func68,ntmps68
  |go_enter func71,ntmps71
  go_wp2;exact wX rfl rfl rfl ⟨aY w _,⟨rfl,rfl,rfl,rfl,rfl,rfl,rfl,rfl,rfl,rfl⟩,(Z.refl _ _).alloc _⟩
def aiT(bm bB bD:Nat)(w:J)(hb:BD bB bD w)(I:BS bm bB w)(ht:Hk w)(A:bm<w.heap.size):(∀p∈aeO,Calls prog p.1 #[eF bB] w (nw bm bB bD p.2 w))/\(∀p∈[(115,ij),(117,iy)],Calls prog p.1 #[eF bB] w (abZ bm bB bD p.2 w))/\∀pf D own,D=(if own then bB else bD)->Calls prog 147 #[eF bB,.func (.func pf) #[eF D] #[]] w (nw bm bB bD (kP pf own) w):=by
 have a0:=@run_makeMap prog;have HS:=St.start bm bB bD w ht A;have⟨ZM,hBl⟩:=hb;refine⟨λp q=>?_,λp q=>?_,λpf D own n=>?_⟩
 rotate_left 2
 have U:=V n;clear n
 rotate_left 1
 all_goals try (simp only[aeO,UQ,pW,pX]at q)
 rcases q with rfl|rfl|rfl|rfl|rfl|rfl|rfl|rfl|rfl|rfl|rfl|rfl|rfl
 rotate_left 13
 rcases q with rfl|rfl
 all_goals
  try dsimp only
  first
  |go_enter func63,ntmps63
  |go_enter func64,ntmps64
  |go_enter func65,ntmps65
  |go_enter func66,ntmps66
  |go_enter func67,ntmps67
  |go_enter func72,ntmps72
  |go_enter func70,ntmps70
  |go_enter func73,ntmps73
  |go_enter func74,ntmps74
  |go_enter func75,ntmps75
  |go_enter func76,ntmps76
  |go_enter func77,ntmps77
  |go_enter func78,ntmps78
  |go_enter func115,ntmps115
  |go_enter func117,ntmps117
  |go_enter func147,ntmps147
  repeat
   go_wp2_with fail
   try (have⟨W,h1,HZ,d⟩:=HS.zero;rw[<-h1];clear HS;have HS:=d;clear d h1)
   try (have⟨W,b,h1,h2,d⟩:=HS.map;(first|rw[<-h1,<-h2]|rw[<-h1,<-HZ.out,<-h2]);clear HS;have HS:=d;clear d h1 h2)
   try (have⟨W,g,h1,h2,HL,d⟩:=HS.slice [nN] #[Y nN] rfl;rw[<-h1,<-h2];clear HS;have HS:=d;clear d h1 h2)
   try (have⟨W,g,h1,h2,HL,d⟩:=HS.slice [qA,qB] #[Y qA,Y qB] rfl;rw[<-h1,<-h2];clear HS;have HS:=d;clear d h1 h2)
   first
   |refine(HS.made (by first|with_reducible exact al7|with_reducible exact al5|with_reducible exact ahH bm bB bD _ _|with_reducible exact aeL bm bB bD _ _|with_reducible exact ahI bm bB bD _ _|with_reducible exact N8 bm bB bD _ _ _ _ H|with_reducible exact Xc bm bB bD _ _ _ _ _ H|with_reducible exact Gt bm bB bD _ _ _ _ U.out|(with_reducible refine akz bm bB bD _ _ _ ?_ (HS.at (Oo ..)));exact nofun|(with_reducible refine aeM HS I _ _ _ _ ?_ HL ?_)<;>decide) (by nofun)).mono ?_;rintro e W⟨f,a,l,rfl,d⟩
   |refine(HS.amP (by first|with_reducible exact asks bm _ _ (Oo ..)|with_reducible exact asks bm _ _ (io _ (Oo ..))|with_reducible exact asks bm _ _ (io _ (io _ (Oo ..))))).mono ?_;rintro e W⟨f,a,l,rfl,H,d⟩
   |refine(HS.onm _ _ _ (by rfl) (by rfl) (by first|with_reducible exact al9|with_reducible exact al8|exact HS.at (.head _))).mono ?_;rintro e W⟨rfl,d⟩
   clear HS;have HS:=d;clear d
  first
  |have⟨q0,q1,q2,q3,q4,q5,q6,q7,q8,q9⟩:=yB (HS.g rfl)
   have u:=cQ (HS.g rfl);go_wp2;refine wX rfl rfl rfl (uB (HS.g rfl) HS.k ?_ _ rfl);constructor
   all_goals first
   |rfl
   |exact HS.at (by repeat first|exact .head _|apply List.Mem.tail)
   |exact HS.Yz (.head _)
   |exact HS.Yz (.tail _ (.head _))
  |go_wp2
   go_ret;have h:=HS.V5 _ (.head _);exact⟨_,rfl,h.1,h.2.1,h.2.2,HS.k⟩
def St.all{z:Bool}{bm bB bD:Nat}{w cw:J}{rs:List (Ru×cY)}{ms:List (Nat×List (List O×Ru))}(s:St z bm bB bD w cw rs ms)(h:BD bB bD w)(d:BS bm bB w):=aiT bm bB bD cw (h.dB s.k) (d.dB s.k) s.t (kL s.lt s.k.size)
def iA:jz:={gz:=.eI 114,dl:=.dl 99 true,start:=some ij,stop:=some iy,fX:=.eI 116,ik:=.eI 118,dy:=.nothing}
def aeC(bm bB bD:Nat)(w:J)(hb:BD bB bD w)(HB:BS bm bB w)(ht:Hk w)(U:bm<w.heap.size):
  Calls prog 69 #[eF bB] w (nw bm bB bD iA w):=by
 have HS:=St.start bm bB bD w ht U;go_enter func69,ntmps69;go_wp2_with fail;have⟨W,h1,_,l⟩:=HS.zero;rw[<-h1];clear HS h1;refine(l.made (Gt bm bB bD _ _ true _ rfl) nofun).mono ?_;rintro e W1⟨f1,a1,l1,rfl,HS⟩;clear l;go_wp2_with fail;refine((HS.all hb HB).2.1 _ (.head _)).mono ?_;rintro e W2⟨b1,rfl,H,n,d,A⟩;have l:=HS.mapOf A H n d;clear HS H n d A;go_wp2_with fail;refine((l.all hb HB).2.1 _ (.tail _ (.head _))).mono ?_;rintro e W3⟨b2,rfl,I,q,h,D⟩;have HS:=l.mapOf D I q h;clear l I q h D;have⟨q0,q1,q2,q3,q4,q5,q6,q7,q8,q9⟩:=yB (HS.g rfl);have u:=cQ (HS.g rfl);go_wp2;refine wX rfl rfl rfl (uB (HS.g rfl) HS.k ?_ _ rfl);exact⟨rfl,rfl,HS.at (.head _),rfl,rfl,HS.Yz (.tail _ (.head _)),HS.Yz (.head _),rfl,rfl,rfl⟩
def FJ{own:Bool}(h:gW bm bB bD (kP pf own) v0 v1 v2 v3 v4 v5 v6 v7 v8 v9 w):∃n d A q l D b5,v0=.func n d A/\v1=.nilFunc/\v2=.func q l D/\v3=.func (.func 91) #[] #[]/\v4=.func (.func 91) #[] #[]/\v5=.map (some b5)/\v6=.map none/\v7=.nilFunc/\v8=.nilFunc/\v9=.func (.func 241) #[eF bB] #[]:=by
 have⟨n,d,A,e0⟩:=h.blank.func (by simp[kP]);have⟨q,l,D,e2⟩:=h.dl.func (by simp[kP]);have⟨b5,L,e5,_⟩:=h.start;exact⟨n,d,A,q,l,D,b5,e0,h.gz,e2,h.dK,h.dD,e5,h.stop,h.fX,h.ik,h.dy⟩
def Fa(bm bB bD:Nat)(w:J)(l:BD bB bD w)(q:BS bm bB w)(D:Hk w)(d:bm<w.heap.size):
  Calls prog 80 #[eF bB] w (nw bm bB bD (kP 93 false) w):=by
 have HS:=St.start bm bB bD w D d;have⟨ZM,hBl⟩:=l;go_enter func80,ntmps80;go_wp2_with fail;have⟨W,h1,_,HT⟩:=HS.zero;rw[<-h1];clear HS h1;refine((HT.all l q).2.2 _ _ false rfl).mono ?_;rintro e H⟨v0,v1,v2,v3,v4,v5,v6,v7,v8,v9,rfl,h,n⟩;obtain⟨f0,I,l0,f2,U,l2,b5,rfl,rfl,rfl,rfl,rfl,rfl,rfl,rfl,rfl,rfl⟩:=FJ h;have HS:=HT.FM n;clear HT;have A:=V (uB (HS.g rfl) HS.k h _ rfl);have⟨q0,q1,q2,q3,q4,q5,q6,q7,q8,q9⟩:=yB (HS.g rfl);have u:=cQ (HS.g rfl);clear h n;go_wp2;exact wX rfl rfl rfl A.out
def uy:jz:={kP 148 true with stop:=some [([aG],.eI 149)]}
theorem TB(bm bB bD:Nat)(w:J)(hb:BD bB bD w)(HZ:BS bm bB w)(ht:Hk w)(a8:bm<w.heap.size):
  Calls prog 79 #[eF bB] w (nw bm bB bD uy w):=by
 have aj:=@run_makeMap prog;obtain⟨W0,a6,_,S0⟩:=(St.start bm bB bD w ht a8).zero;have HB:=V hb;have a4:=V S0;have ad:=V a6;clear S0 a6 ht a8 hb;go_enter func79,ntmps79;go_wp2_with fail;rw[<-ad.out];refine((a4.out.all HB.out HZ).2.2 148 bB true rfl).mono ?_;rintro e l⟨v0,v1,v2,v3,v4,v5,v6,v7,v8,v9,rfl,hr,hk⟩;obtain⟨f0,a0,l0,f2,a2,l2,b5,rfl,rfl,rfl,rfl,rfl,rfl,rfl,rfl,rfl,rfl⟩:=FJ hr;have a5:=V (a4.out.FM hk);have a3:=V hr;clear hr hk;obtain⟨W2,a7,K2,g2,z2⟩:=vT l (cV #[.func f0 a0 l0,.nilFunc,.func f2 a2 l2,.func (.func 91) #[] #[],.func (.func 91) #[] #[],.map (some b5),.map none,.nilFunc,.nilFunc,.func (.func 241) #[eF bB] #[]] 171);have S2:=a5.out.FM K2;obtain⟨W3,b1,U,mq,S3⟩:=S2.map;have K3:Z [] W2 W3:=by rw[U];exact(Z.refl _ _).alloc _
 have aa:=V (show l.heap.size+1=b1 by rw[mq,z2]);have ab:=V (K3.at g2 (by simp));have n:=V (a3.out.dB (K2.trans K3));have ag:=V (show l.heap.size<b1 by grind);have ah:=V (show b5<b1 by
  obtain⟨I,A⟩:=a3.out.start;have e:b5=I:=by obtain⟨L,e,_⟩:=A;simpa using e
  have:=A.lt;grind)
 have D:=V S3;have ae:=V a7;have af:=V U;clear a7 K2 g2 z2 S2 U mq S3 K3;go_wp2_with fail;rw[<-ae.out,<-af.out,aa.out];refine(aek bm bB bD b1 _ [aG] (.eI 149) [] _ _ (by kernel_rfl) (by kernel_rfl) D.out.t (D.out.V5 (b1,[]) (by simp)).1 (D.out.V5 (b1,[]) (by simp)).2.2 rfl).mono ?_;rintro e W4⟨rfl,a1,H,h⟩;have d:=V (D.out.on H h a1);have q:=H.at ab.out (by grind[Hid.out]);have ac:Hid (gW bm bB bD uy (.func f0 a0 l0) .nilFunc (.func f2 a2 l2) (.func (.func 91) #[] #[]) (.func (.func 91) #[] #[]) (.map (some b5)) (.map (some b1)) .nilFunc .nilFunc (.func (.func 241) #[eF bB] #[]) W4):=by
  refine V ⟨n.out.blank.fr h,n.out.gz.fr h,n.out.dl.fr h,n.out.dK.fr h,n.out.dD.fr h,?_,⟨b1,a1⟩,n.out.fX.fr h,n.out.ik.fr h,n.out.dy.fr h⟩;obtain⟨I,A⟩:=n.out.start;have e:b5=I:=by obtain⟨L,e,_⟩:=A;simpa using e
  subst e;exact⟨b5,A.fr h (H.block b5 A.lt (by grind[Hid.out]))⟩
 have a9:w.heap.size<l.heap.size:=eS (a5.out.g rfl);have HF:=V (uB (w1:=W4.setCell ⟨l.heap.size,6,none⟩ (.map (some b1))) ((Below.heap_setCell W4 ⟨l.heap.size,6,none⟩ _ w.heap.size (by grind)).trans (d.out.g rfl)) (d.out.k.setCell (p:=⟨l.heap.size,6,none⟩) (.inr (by grind)) _) (ac.out.JK ((Z.refl [l.heap.size] W4).setCell (p:=⟨l.heap.size,6,none⟩) (.inl (by simp)) _) q) _ rfl);have ai:=V a9;have ak:w.heap.size≠l.heap.size:=by omega
 clear a1 H h a9;have c0:W4.cell? ⟨l.heap.size,0,none⟩=some (.func f0 a0 l0):=(aN q 0).trans rfl;have c1:W4.cell? ⟨l.heap.size,1,none⟩=some .nilFunc:=(aN q 1).trans rfl;have c2:W4.cell? ⟨l.heap.size,2,none⟩=some (.func f2 a2 l2):=(aN q 2).trans rfl;have c3:W4.cell? ⟨l.heap.size,3,none⟩=some (.func (.func 91) #[] #[]):=(aN q 3).trans rfl;have c4:W4.cell? ⟨l.heap.size,4,none⟩=some (.func (.func 91) #[] #[]):=(aN q 4).trans rfl;have c5:W4.cell? ⟨l.heap.size,5,none⟩=some (.map (some b5)):=(aN q 5).trans rfl;have c6:W4.cell? ⟨l.heap.size,6,none⟩=some (.map none):=(aN q 6).trans rfl;have c7:W4.cell? ⟨l.heap.size,7,none⟩=some .nilFunc:=(aN q 7).trans rfl;have c8:W4.cell? ⟨l.heap.size,8,none⟩=some .nilFunc:=(aN q 8).trans rfl;have c9:W4.cell? ⟨l.heap.size,9,none⟩=some (.func (.func 241) #[eF bB] #[]):=(aN q 9).trans rfl;have d6:=cQ q 6;clear q;obtain⟨q0,q1,q2,q3,q4,q5,q6,q7,q8,q9⟩:=yB (d.out.g rfl);have u0:=cQ (d.out.g rfl) 0;have u1:=cQ (d.out.g rfl) 1;have u2:=cQ (d.out.g rfl) 2;have u3:=cQ (d.out.g rfl) 3;have u4:=cQ (d.out.g rfl) 4;have u5:=cQ (d.out.g rfl) 5;have u6:=cQ (d.out.g rfl) 6;have u7:=cQ (d.out.g rfl) 7;have u8:=cQ (d.out.g rfl) 8;have u9:=cQ (d.out.g rfl) 9;go_wp2;exact wX results79 rfl rfl HF.out
def jU(z:fN)(d f a:Int)(v:cY)(bD:Nat):fN:=((((z.setIfInBounds 0 (G d)).setIfInBounds 1 (G f)).setIfInBounds 2 (G a)).setIfInBounds 3 v).setIfInBounds 187 (eF bD)
def qh:Tryz.zeroCells179.size=199:=by rfl
def A0(z:fN)(d f a:Int)(v:cY)(bD:Nat):(jU z d f a v bD).size=z.size:=by
 simp[jU]
theorem vZ(z:fN)(d f a:Int)(v:cY)(bD i:Nat)(h:4<=i)(l:i≠187):(jU z d f a v bD)[i]?=z[i]?:=by
 simp[jU,rS];grind
def tV:List jz:=[{blank:=.nothing,dl:=.dl 93 false,dK:=.eI 94,dy:=.eI 95},od,jP,iB,kJ,Fh,iA,B9,iM,yp,pr,vB,KE,Fg,zQ,qx,uy,kP 93 false]
theorem kV.one(h:kV bm bB bD r v w):v.oneCell'=true:=by
 by_cases d:r=.nil;subst d;have:=h;subst this;rfl;obtain⟨f,a,l,rfl⟩:=h.func d;rfl
theorem pF.one{R:Option (List (List O×Ru))}(h:pF bm bB bD R v w):v.oneCell'=true:=by
 cases R with
 |none=>have:=h;subst this;rfl
 |some R=>obtain⟨b,L,rfl,_⟩:=h;rfl
theorem gW.one(h:gW bm bB bD sp v0 v1 v2 v3 v4 v5 v6 v7 v8 v9 w):∀v∈[v0,v1,v2,v3,v4,v5,v6,v7,v8,v9],v.oneCell'=true:=by
 intro v d;simp at d;rcases d with rfl|rfl|rfl|rfl|rfl|rfl|rfl|rfl|rfl|rfl;exact h.blank.one;exact h.gz.one;exact h.dl.one;exact h.dK.one;exact h.dD.one;exact h.start.one
 .exact h.stop.one
 exact h.fX.one;exact h.ik.one;exact h.dy.one
theorem gW.adJ(h:gW bm bB bD sp v0 v1 v2 v3 v4 v5 v6 v7 v8 v9 w)(d:Z [s] w w')(hs:w.heap[s]?=some (cV c 179)):gW bm bB bD sp v0 v1 v2 v3 v4 v5 v6 v7 v8 v9 w':=
 have f:=⟨_,d,λk l _=>by
  grind[Iq]⟩
 ⟨h.blank.fr f,h.gz.fr f,h.dl.fr f,h.dK.fr f,h.dD.fr f,h.start.JK d hs f,h.stop.JK d hs f,h.fX.fr f,h.ik.fr f,h.dy.fr f⟩
def Ai(bm bB bD:Nat)(cs:List cY)(W:J):Prop:=cs.length=180/\∀m sp,tV[m]?=some sp->∃v0 v1 v2 v3 v4 v5 v6 v7 v8 v9,(cs.drop (10*m)).take 10=[v0,v1,v2,v3,v4,v5,v6,v7,v8,v9]/\gW bm bB bD sp v0 v1 v2 v3 v4 v5 v6 v7 v8 v9 W
theorem Ai.adJ(h:Ai bm bB bD cs w)(l:Z [s] w w')(hs:w.heap[s]?=some (cV c 179)):Ai bm bB bD cs w':=by
 refine⟨h.1,λm sp d=>?_⟩;have⟨v0,v1,v2,v3,v4,v5,v6,v7,v8,v9,e,hr⟩:=h.2 m sp d;grind[gW.adJ]
section
variable {P:Program}{ops:Array Oper}{rest:List Oper}{o:Oper}{a:Act}{w:J}{Q:Exit->Act->J->Prop}
def zZ(q:o.guard=none)(d:Option Tmp)(n:o.dst=d)(v:cY)(A:(execOp a.eval o).run P w=.ok (.value v) w)(h:wpList P ops Q rest (a.put d v) w):wpList P ops Q (o::rest) a w:=by
 subst n;refine wpList_plain q λK l=>?_;unfold Oper.wp;rw[A];exact l _ _ h
end
structure ajf(bm bB bD:Nat)(d f a:Int)(av:cY)(w W:J):Prop where
 k:Z [] w W
 new:w.heap.size<=bB
 du:∃c6 cs v1 v2 v3,W.heap[bB]?=some (cV (fI c6 4 cs) 179)/\c6=((((jU Tryz.zeroCells179 d f a av bD).setIfInBounds 184 v1).setIfInBounds 185 v2).setIfInBounds 186 v3)/\Ai bm bB bD cs W/\Ask bm v1 iG W/\Ask bm v2 rI W/\Ask bm v3 dG W
 rU:W.heap[bD]?=some (cV #[Y gU,gq,.pointer none,gq] 139)
 ne:bD≠bB
 amZ:w.heap.size<=bD
structure UZ(bm bB bD:Nat)(w W:J)(n:Nat)(cs:List cY):Prop where
 k:Z [] w W
 len:cs.length=10*n
 r:∀m sp,m<n->tV[m]?=some sp->∃v0 v1 v2 v3 v4 v5 v6 v7 v8 v9,(cs.drop (10*m)).take 10=[v0,v1,v2,v3,v4,v5,v6,v7,v8,v9]/\gW bm bB bD sp v0 v1 v2 v3 v4 v5 v6 v7 v8 v9 W
 one:∀v∈cs,v.oneCell'=true
theorem UZ.nm{n:Nat}(s:UZ bm bB bD w W n cs):∃c,c=cs/\UZ bm bB bD w W n c:=⟨_,rfl,s⟩
theorem UZ.next{n f:Nat}{q:fN}(s:UZ bm bB bD w W n cs)(hs:tV[n]?=some sp)(C:Calls prog f q W (nw bm bB bD sp W)):Calls prog f q W λe l=>∃v0 v1 v2 v3 v4 v5 v6 v7 v8 v9,e=dw (.agg #[v0,v1,v2,v3,v4,v5,v6,v7,v8,v9])/\UZ bm bB bD w l (n+1) (cs++[v0,v1,v2,v3,v4,v5,v6,v7,v8,v9]):=by
 refine C.mono ?_;rintro e l⟨v0,v1,v2,v3,v4,v5,v6,v7,v8,v9,rfl,A,D⟩;refine⟨v0,v1,v2,v3,v4,v5,v6,v7,v8,v9,rfl,s.k.trans D,by simp[s.len];omega,λm h hm d=>?_,λv I=>(List.mem_append.1 I).elim (s.one v) (A.one v)⟩;have H:=s.len;by_cases e:m=n;subst e;rw[hs]at d;cases d;exact⟨_,_,_,_,_,_,_,_,_,_,by rw[<-H,List.drop_left];rfl,A⟩;obtain⟨u0,u1,u2,u3,u4,u5,u6,u7,u8,u9,U,h2⟩:=s.r m h (by omega) d;grind[gW.dB]
theorem abw(d:J)(bm:Nat)(c:fN)(l:J)(h:l=((d.alloc (cV #[.map (some bm)] 91)).alloc (cV #[Y gU,gq,.pointer none,gq] 139)).alloc (cV c 179)):
  l.heap[d.heap.size]?=some (cV #[.map (some bm)] 91)/\l.heap[d.heap.size+1]?=some (cV #[Y gU,gq,.pointer none,gq] 139)/\l.heap[d.heap.size+1+1]?=some (cV c 179)/\Z [] d l:=by
 grind[nK,Z.alloc,Z.refl]
theorem abc{d:J}(h:J)(l:h=((d.setCell ⟨bB,184,none⟩ v1).setCell ⟨bB,185,none⟩ v2).setCell ⟨bB,186,none⟩ v3)(n:d.heap[bB]?=some (cV c 179)):h.heap[bB]?=some (cV (((c.setIfInBounds 184 v1).setIfInBounds 185 v2).setIfInBounds 186 v3) 179)/\Z [bB] d h/\wm bm d h:=by
 have A:=bJ (bJ (bJ n 184 v1) 185 v2) 186 v3;have k:Z [bB] d h:=by
  rw[l];exact(((Z.refl [bB] d).setCell (.inl (by simp)) v1).setCell (.inl (by simp)) v2).setCell (.inl (by simp)) v3
 refine⟨by grind,k,⟨_,k,λx q _=>?_⟩⟩;have e:=List.mem_singleton.1 q;subst e;exact .inl ⟨_,_,_,n,by decide⟩
def ake(d f a:Int)(af:Fn)(aa al:fN)(w:J)(ht:Hk w):
  Calls prog 48 #[.agg #[G d,G f,G a],.func af aa al] w λe W=>∃bm bB bD,e=dw (eF bB)/\ajf bm bB bD d f a (.func af aa al) w W:=by
 obtain⟨w0,bb,K0,g0,z0⟩:=vT w (cV #[G d,G f,G a] 67);have HT:=V ht;have aP:=V bb;have ag:=V K0;have aD:=V g0;have bn:=V z0;clear ht bb K0 g0 z0;go_enter func48,ntmps48;go_wp2_with fail;rw[<-aP.out];refine(A4 _ (HT.out.fr (bm:=0) (.df ag.out)).1).mono ?_;rintro e W1⟨bm,rfl,ba,A,mq⟩;have g1:=A.at aD.out (by simp);have c0:W1.cell? ⟨w.heap.size,0,none⟩=some (G d):=(aN g1 0).trans rfl;have c1:W1.cell? ⟨w.heap.size,1,none⟩=some (G f):=(aN g1 1).trans rfl;have c2:W1.cell? ⟨w.heap.size,2,none⟩=some (G a):=(aN g1 2).trans rfl;have bt:=eS g1;have aL:=V ba;have ah:=V (ag.out.trans A);have bl:=V mq;clear ba A mq g1;go_wp2_with fail;clear c0 c1 c2 bt;obtain⟨W2,am⟩:∃W,W=((W1.alloc (cV #[.map (some bm)] 91)).alloc (cV #[Y gU,gq,.pointer none,gq] 139)).alloc (cV (jU Tryz.zeroCells179 d f a (.func af aa al) (W1.heap.size+1)) 179):=⟨_,rfl⟩;obtain⟨gC,gD,gB,k2⟩:=abw W1 bm _ W2 am;change Code.wp _ _ _ _ (((W1.alloc (cV #[.map (some bm)] 91)).alloc (cV #[Y gU,gq,.pointer none,gq] 139)).alloc (cV (jU Tryz.zeroCells179 d f a (.func af aa al) (W1.heap.size+1)) 179));rw[<-am];clear am;obtain⟨bB,aS⟩:∃b,b=W1.heap.size+1+1:=⟨_,rfl⟩;obtain⟨bD,aU⟩:∃b,b=W1.heap.size+1:=⟨_,rfl⟩;obtain⟨bC,aT⟩:∃b,b=W1.heap.size:=⟨_,rfl⟩;rw[<-aS]at gB|-;rw[<-aU]at gB gD|-;rw[<-aT]at gC|-;have D:bC≠bB:=by omega
 have ad:=V (show bD≠bB by omega);have ai:=V (show w.heap.size<=bB/\w.heap.size<=bD by have:=ah.out.size;omega);have a3:=V gC;have aH:=V gD;have aF:=V gB;have aj:=V (aL.out.kept k2 (by simp));have aI:=V (ah.out.trans k2);have aA:=V (show bm<W2.heap.size by
  obtain⟨es,ck,ha,_⟩:=aj.out;exact(Array.getElem?_eq_some_iff.1 ha).1)
 clear gC gD gB k2 aS aU aT aL;have CA:Hid (∀(c:Nat)(W:J),c<16->Z [] W2 W->Calls prog 35 #[.agg #[.map (some bm)],G c] W λe w'=>(∃v,e=dw v/\Ask bm v (isC pI c) w')/\Z [] W w'):=V (λc W hc hk=>XU bm c pI W (aj.out.kept hk (by simp)) hc X4);have bo:W2.cell? ⟨bC,0,none⟩=some (.map (some bm)):=(aN a3.out 0).trans rfl
 go_region_held3 (λw'=>w'.cell? ⟨bC,0,none⟩=some (.map (some bm))) ((first|assumption|go_keep|exact(iO D).trans (by assumption)|exact(iO D).trans ((iO D).trans (by assumption))|exact(iO D).trans ((iO D).trans ((iO D).trans (by assumption))))) ((first|(go_at_call 35;refine(CA.out 2 _ (by decide) (Z.refl _ _).drew).mono ?_;rintro e W3⟨⟨v1,rfl,ap⟩,A⟩;obtain⟨bd,bc,be,bu⟩:=ap.func;subst bu;have ax:=V ap;have I:Hid (Z [] W2 W3):=V (Z.trans (Z.refl _ _).drew A);have bp:W3.cell? ⟨bC,0,none⟩=some (.map (some bm)):=(aN (I.out.at a3.out (by simp)) 0).trans rfl;have aC:=V (wm.df (bm:=bm) A);clear ap A)|(go_at_call 35;refine(CA.out 4 _ (by decide) I.out).mono ?_;rintro e W4⟨⟨v2,rfl,aq⟩,au⟩;obtain⟨bA,bx,bF,bv⟩:=aq.func;subst bv;have ay:=V aq;have U:Hid (Z [] W2 W4):=V (Z.trans I.out au);have bq:W4.cell? ⟨bC,0,none⟩=some (.map (some bm)):=(aN (U.out.at a3.out (by simp)) 0).trans rfl;have a9:=V (wm.df (bm:=bm) au);clear aq au)|(go_at_call 35;refine(CA.out 8 _ (by decide) U.out).mono ?_;rintro e W5⟨⟨v3,rfl,ar⟩,aw⟩;obtain⟨bE,bz,bH,bw⟩:=ar.func;subst bw;have az:=V ar;have l:Hid (Z [] W2 W5):=V (Z.trans U.out aw);have br:W5.cell? ⟨bC,0,none⟩=some (.map (some bm)):=(aN (l.out.at a3.out (by simp)) 0).trans rfl;have a2:=V (wm.df (bm:=bm) aw);clear ar aw;have n:=V (l.out.at aF.out (by simp));have bf:W5.cell? ⟨bB,184,none⟩=some .nilFunc:=(aN n.out 184).trans ((vZ _ d f a _ bD 184 (by decide) (by decide)).trans (by kernel_rfl));have bi:=cQ n.out 184;have bg:W5.cell? ⟨bB,185,none⟩=some .nilFunc:=(aN n.out 185).trans ((vZ _ d f a _ bD 185 (by decide) (by decide)).trans (by kernel_rfl));have bj:=cQ n.out 185;have bh:W5.cell? ⟨bB,186,none⟩=some .nilFunc:=(aN n.out 186).trans ((vZ _ d f a _ bD 186 (by decide) (by decide)).trans (by kernel_rfl));have bk:=cQ n.out 186)))
 obtain⟨W6,an⟩:∃W,W=((W5.setCell ⟨bB,184,none⟩ (.func bd bc be)).setCell ⟨bB,185,none⟩ (.func bA bx bF)).setCell ⟨bB,186,none⟩ (.func bE bz bH):=⟨_,rfl⟩;rw[<-an];obtain⟨g6,k6,f6⟩:=abc (bm:=bm) W6 an n.out;have K6:Z [] w W6:=(aI.out.trans l.out).next k6 (λx hx=> .inr (by rw[List.mem_singleton.1 hx];exact ai.out.1))
 have A1:=ax.out.fr (a9.out.trans (a2.out.trans f6));have A2:=ay.out.fr (a2.out.trans f6);have A3:=az.out.fr f6;have aX:W6.heap[bD]?=some (cV #[Y gU,gq,.pointer none,gq] 139):=k6.at (l.out.at aH.out (by simp)) (by have:=ad.out;simpa using this);have ac:bm<W6.heap.size:=kL (kL aA.out l.out.size) k6.size;have q:Hid (∀W,Z [] W6 W->BD bB bD W/\BS bm bB W/\Hk W/\bm<W.heap.size):=by
  have b0:BD bB bD W6:=⟨(aN g6 187).trans (by
   simp only[jU,rS,UL,qh];rfl),eS g6⟩
  have b1:BS bm bB W6:=⟨eS g6,.func bd bc be,(aN g6 184).trans (by
   simp only[jU,rS,UL,qh];rfl),A1⟩
  exact V (λW hk=>⟨b0.dB hk,b1.dB hk,HT.out.fr (.df (bm:=bm) (K6.trans hk)),kL ac hk.size⟩)
 have a7:=V (And.intro A1 (And.intro A2 A3));have aE:=V g6;have aK:=V K6;have aB:=V aX;have a8:=V ai.out;have ae:=V ad.out;have bI:Hid (Z [] W6 W6):=V (Z.refl _ _);clear an g6 k6 f6 K6 A1 A2 A3 aX ac bo bp bq br bf bg bh bi bj bk n I U l aC a9 a2 ax ay az a3 aH aF aj aI aA bl ah aP ag aD bn HT CA D ad ai;have HS:UZ bm bB bD W6 W6 0 []:=⟨Z.refl _ _,rfl,nofun,nofun⟩
 iterate 18
  go_wp2_with fail;refine(HS.next rfl (by first|with_reducible exact(aiU bm bB bD _).1|with_reducible exact(aiU bm bB bD _).2|with_reducible exact aeC bm bB bD _ (q.out _ HS.k).1 (q.out _ HS.k).2.1 (q.out _ HS.k).2.2.1 (q.out _ HS.k).2.2.2|with_reducible exact TB bm bB bD _ (q.out _ HS.k).1 (q.out _ HS.k).2.1 (q.out _ HS.k).2.2.1 (q.out _ HS.k).2.2.2|with_reducible exact Fa bm bB bD _ (q.out _ HS.k).1 (q.out _ HS.k).2.1 (q.out _ HS.k).2.2.1 (q.out _ HS.k).2.2.2|exact(aiT bm bB bD _ (q.out _ HS.k).1 (q.out _ HS.k).2.1 (q.out _ HS.k).2.2.1 (q.out _ HS.k).2.2.2).1 (_,_) (by repeat first|exact .head _|apply List.Mem.tail))).mono ?_;rintro e W⟨v0,v1,v2,v3,v4,v5,v6,v7,v8,v9,rfl,HT⟩;clear HS;have HS:=HT;clear HT
 obtain⟨cs,aW,HT⟩:=HS.nm;have HC:=V aW;clear HS;have HS:=HT;have HL:=HS.len;have ak:Hid (Ai bm bB bD cs W):=V ⟨HL,λm sp hm=>HS.r m sp (List.getElem?_eq_some_iff.1 hm).1 hm⟩;have ab:Hid (cs.toArray.all (·.oneCell')=true):=V (all_oneCell_toArray HS.one);have H:=V HS.k;have h:=V (H.out.at aE.out (by simp));have aM:Hid (W.there bB 4 cs.toArray.size):=by
  refine V (λj hj=>⟨?_,cQ h.out _⟩);have:cs.toArray.size=180:=HL;rw[aN h.out,xA (by simp only[UL,A0,qh];omega)];rfl
 clear HS HL HT;rename_i KK a4;refine a4 _ _ ?_;clear a4;refine wpList_buildTo rfl 172 _ rfl _ rfl cs.toArray (by rw[HC.out];kernel_rfl) ?_;clear HC aW;refine zZ rfl _ rfl (eF bB) (by kernel_rfl) ?_;refine zZ rfl _ rfl (fR bB 4) (by kernel_rfl) ?_;refine wpList_store_mid rfl 172 _ _ rfl bB 4 cs.toArray rfl rfl aM.out (by rw[show cs.toArray.size=180 from ak.out.1];kernel_rfl) ab.out ?_;obtain⟨a1,a0⟩:∃X,X=W.setCells bB 4 cs.toArray.toList:=⟨_,rfl⟩;rw[<-a0];have a6:Z [bB] W a1:=by rw[a0];exact Z.setCells (.inl (by simp)) _ _ (Z.refl _ _)
 have aR:wm bm W a1:=⟨_,a6,λx hx _=>by
  have e:=List.mem_singleton.1 hx;subst e;exact .inl ⟨_,_,_,h.out,by decide⟩⟩
 have aQ:Z [] w a1:=(aK.out.trans H.out).next a6 (λx hx=> .inr (by rw[List.mem_singleton.1 hx];exact a8.out.1))
 have a5:=ie cs W bB _ _ _ 4 h.out;rw[show W.setCells bB 4 cs=a1 from a0.symm]at a5;have FN:Hid (ajf bm bB bD d f a (.func af aa al) w a1):=by
  have f6:wm bm W6 a1:=(wm.df H.out).trans aR;exact V ⟨aQ,a8.out.1,⟨_,cs,_,_,_,a5,rfl,ak.out.adJ a6 h.out,a7.out.1.fr f6,a7.out.2.1.fr f6,a7.out.2.2.fr f6⟩,a6.at (H.out.at aB.out (by simp)) (by have:=ae.out;simpa using this),ae.out,a8.out.2⟩
 clear a6 aR aQ a5 a0 ak ab h aM a7 aE aK aB a8 ae q;generalize Value.agg cs.toArray=bK
 rename (∀(a:Act)(w:J),Code.wp _ _ _ a w->_)=>a4
 refine a4 _ _ ?_;clear a4;simp only[Act.put,List.setIfInBounds_toArray,List.set_cons_zero,List.set_cons_succ];go_wp2;go_ret;exact⟨bm,bB,bD,rfl,FN.out⟩
structure Loc where
 dk:Nat->Nat
 av:Nat->cY
 kv:Nat->cY
 ov:cY
 cv:cY
 wv:cY
variable {L L':Loc}
structure Env where
 bm:Nat
 bB:Nat
 bR:Nat
 C0:fN
 R0:fN
 Hw:Nat
 w0:J
 tv:cY
 ta:iD
 bs:Nat
 wv:Option (cY×List (Nat×Nat×O)):=none
variable {E:Env}
def Nd.map(f:Nat->Nat):Nd->Nd
 | .el k=> .el (f k)
 | .tx k=> .tx (f k)
 | .cm k=> .cm (f k)
 | .dt k=> .dt (f k)
abbrev eM(f:Nat->Nat)(x:eG):eG:=x.map f
def flat(cU:iD):List cY:=cU.flatMap λa=>[Y a.1,Y a.2]
abbrev yC(w:J)(v:cY)(cU:iD):Prop:=w.ownsRow 0 295 2 v cU.length (flat cU)
abbrev O1(x:Nat×Nat×O):cY:=.iface 187 (.agg #[G x.1,G x.2.1,Y x.2.2])
def iS(bs:Nat)(L:Loc)(w:J)(i:Nat):zc->Prop
 | .el e=>El bs w (L.dk i) e.name (L.av i) (eM L.dk e.ff) (L.kv i) (e.kids.map (Nd.map L.dk))/\yC w (L.av i) e.di/\e.di.length<=4096
 | .tx s=>w.heap[L.dk i]?=some (cV #[Y s] 280)
 | .cm s=>w.heap[L.dk i]?=some (cV #[Y s] 235)
 | .dt s=>w.heap[L.dk i]?=some (cV #[Y s] 239)
structure fy(E:Env)(L:Loc)(σ:N)(C:fN):Prop where
 size:C.size=199
 low:∀i,i<188->C[i]?=E.C0[i]?
 cC:C[188]?=some L.ov
 act:C[189]?=some L.cv
 head:C[190]?=some (ig (eM L.dk σ.head))
 form:C[191]?=some (ig (eM L.dk σ.form))
 mode:C[192]?=some (G σ.mode)
 kept:C[193]?=some (G σ.kept)
 wait:C[194]?=some L.wv
 Jm:C[195]?=some (.bool σ.dv)
 fJ:C[196]?=some (.bool σ.fJ)
 dk:C[197]?=some (G σ.dk)
 behind:C[198]?=some (.bool σ.behind)
structure QU(E:Env)(bD:Nat):Prop where
 Gu:∃cs,(∀k,k<180->E.C0[4+k]?=cs[k]?)/\Ai E.bm E.bB bD cs E.w0
 Y7:E.C0[3]?=some (.func (.func 49) #[cW E.bR] #[])
 spec:∃v,E.C0[184]?=some v/\Ask E.bm v iG E.w0
 aam:∃v,E.C0[185]?=some v/\Ask E.bm v rI E.w0
 ZK:∃v,E.C0[186]?=some v/\Ask E.bm v dG E.w0
 rU:E.C0[187]?=some (cW bD)
structure Rel(E:Env)(L:Loc)(σ:N)(w:J):Prop where
 fr:Fr E.bs E.w0 w
 env:QU E (L.dk 0)
 Dz:E.C0[0]?=some (G σ.nB)/\E.C0[1]?=some (G σ.ox)/\E.C0[2]?=some (G σ.mj)/\σ.nB<=64/\σ.ox<=32/\σ.mj<=16
 qH:∀i nd,σ.nodes[i]?=some nd->iS E.bs L w i nd
 inj:∀i j,L.dk i=L.dk j->i=j
 Ar:∀i j g,i<σ.nodes.length->j<σ.nodes.length->i≠j->(L.kv i).ownBlock=some g->(L.kv j).ownBlock≠some g
 Ge:∀i,i<σ.nodes.length->σ.db i=none->(L.kv i).ownBlock=none
 uq:∀i j e g,σ.db i=some e->kF e.name=true->j<σ.nodes.length->i≠j->(L.av i).ownBlock=some g->(L.av j).ownBlock≠some g
 Eg:∀i,i<σ.nodes.length->σ.db i=none->(L.av i).ownBlock=none
 wf:Wf σ
 du:∃C,w.heap[E.bB]?=some (cV C 179)/\fy E L σ C
 ng:w.ownsRow E.bs 68 1 L.ov σ.cC.length (σ.cC.map λx=>ig (eM L.dk x))
 oh:w.ownsRow E.bs 68 1 L.cv σ.act.length (σ.act.map λx=>ig (eM L.dk x))
 Ic:∀g,L.ov.ownBlock=some g->L.cv.ownBlock≠some g
 vu:σ.cC.length<=4096
 Ep:σ.act.length<=4096
 mY:w.ownsRow E.bs 124 1 L.wv σ.waiting.length (σ.waiting.map O1)
 MF:σ.waiting.length<=4096
 rd:w.heap[E.bR]?=some (cV ((E.R0.setIfInBounds E.Hw (Y σ.jI)).setIfInBounds (E.Hw+1) (.bool σ.dM)) 164)
 TR:E.Hw+1<E.R0.size
 tok:yC w E.tv E.ta
 Lq:E.ta.length<=4096
 bz:E.bs<=E.w0.heap.size
 bB:E.bs<=E.bB
 bR:E.bs<=E.bR
 bN:∀i,i<σ.nodes.length->E.bs<=L.dk i
 zd:σ.fresh=true->∀i g,i<σ.nodes.length->E.tv.ownBlock=some g->(L.av i).ownBlock≠some g
 ab:∀i g,i<σ.nodes.length->(L.av i).ownBlock=some g->E.bs<=g
 tb:∀g,E.tv.ownBlock=some g->E.bs<=g
 ME:∀p,E.wv=some p->L.wv=p.1/\σ.waiting=p.2
def KT(bs:Nat)(T:List TypeId)(w w':J):Prop:=∃S,Z S w w'/\∀k∈S,k<w.heap.size->(∃c t m,w.heap[k]?=some (.cells c t m)/\t∈T)/\bs<=k
def KT.size(h:KT bs T w w'):w.heap.size<=w'.heap.size:=by have⟨S,hk,_⟩:=h;exact hk.size
def KT.fS(h:Z S w w')(d:∀k∈S,k<w.heap.size->(∃c t m,w.heap[k]?=some (.cells c t m)/\t∈T)/\bs<=k):KT bs T w w':=⟨S,h,d⟩
theorem KT.df(h:Z [] w w'):KT bs T w w':=⟨[],h,by grind⟩
theorem KT.mono{d:List TypeId}(h:KT bs T w w')(l:∀t∈T,t∈d):KT bs d w w':=by
 grind[KT]
theorem KT.fr(h:KT bs T w w')(d:∀t∈T,t∈Zq):Fr bs w w':=h.mono d
theorem KT.at(h:KT bs T w w')(d:w.heap[g]?=some (.cells c t m))(n:t∉T):w'.heap[g]?=some (.cells c t m):=by
 have⟨S,hk,hS⟩:=h;refine hk.at d λl=>?_;grind
theorem KT.row(h:KT bs T w w'){e:TypeId}{d:Nat}{n:Nat}{xs:List cY}(q:w.ownsRow base e d v n xs)(I:e∉T):w'.ownsRow base e d v n xs:=by
 refine⟨q.1,?_⟩;rcases q.2 with U|⟨g,cap,l,rfl,A,D,H⟩;grind;exact .inr ⟨g,cap,l,rfl,A,h.at D I,H⟩
theorem qd{e:TypeId}{d:Nat}{n:Nat}{xs:List cY}(q:w.ownsRow base e d v n xs)(h:v.ownBlock=some g):∃c m,w.heap[g]?=some (.cells c e m):=by
 rcases q.2 with⟨e1,_⟩|⟨A,cap,l,rfl,_,D,_⟩;rw[e1]at h;cases h;obtain rfl:=je h;grind
theorem BW{e:TypeId}{d:Nat}{n:Nat}{xs:List cY}(l:w.ownsRow base e d v n xs)(h:w.heap[b]?=some (.cells c t m))(q:t≠e):v.ownBlock≠some b:=by
 grind[qd]
def BV{e:TypeId}{d:Nat}{n:Nat}{xs:List cY}(l:w.ownsRow base e d v n xs)(h:v.ownBlock=some g):g<w.heap.size:=(l.lt g h).2
def XJ:List TypeId:=[139,141,280,235,239,295]
def iS.kt{n:Nat}(h:iS n L w i nd)(l:KT bs T w w')(d:∀t∈XJ,t∉T):iS n L w' i nd:=by
 cases nd with
 |el e=>exact⟨⟨l.at h.1.du (d _ (by decide)),l.row h.1.row (d _ (by decide)),h.1.le,h.1.XV⟩,l.row h.2.1 (d _ (by decide)),h.2.2⟩
 |tx s=>exact l.at h (d _ (by decide))
 |cm s=>exact l.at h (d _ (by decide))
 |dt s=>exact l.at h (d _ (by decide))
theorem iS.kept(h:iS bs L w i nd)(d:Z S w w')(l:L.dk i∉S)(n:∀g,(L.kv i).ownBlock=some g->g∉S)(q:∀g,(L.av i).ownBlock=some g->g∉S):iS bs L w' i nd:=by
 cases nd with
 |el e=>exact⟨h.1.kept d l n,d.ownsRow h.2.1 q,h.2.2⟩
 |tx s=>exact d.at h l
 |cm s=>exact d.at h l
 |dt s=>exact d.at h l
def zc.typ:zc->TypeId
 | .el _=>139
 | .tx _=>280
 | .cm _=>235
 | .dt _=>239
def iS.typ(h:iS bs L w i nd):∃c,w.heap[L.dk i]?=some (cV c nd.typ):=by
 cases nd with
 |el e=>exact⟨_,h.1.du⟩
 |tx s=>exact⟨_,h⟩
 |cm s=>exact⟨_,h⟩
 |dt s=>exact⟨_,h⟩
theorem pP(d:∀i j,f i=f j->i=j)(h:eM f x=eM f y):x=y:=by
 cases x<;>cases y<;>simp_all[eM];grind
theorem wY(f:Nat->Nat)(xs:gZ)(n:Int):dA (xs.map (eM f)) n=eM f (dA xs n):=by
 grind[dA]
theorem Ao(d:∀i j,f i=f j->i=j)(x:eG):∀xs:gZ,(xs.map (eM f)).idxOf (eM f x)=xs.idxOf x
 |[]=>rfl
 |y::xs=>by
  rw[oZ,List.idxOf_cons,Ao d x xs];grind[pP]
theorem NS(d:∀i j,f i=f j->i=j)(xs:gZ)(x:eG):posOf (xs.map (eM f)) (eM f x)=posOf xs x:=by
 grind[Ao,posOf]
theorem mem_map(d:∀i j,f i=f j->i=j)(xs:gZ)(x:eG):eM f x∈xs.map (eM f)↔x∈xs:=by
 grind[pP]
theorem uG(d:∀i j,f i=f j->i=j)(x:eG):∀xs:gZ,(xs.map (eM f)).erase (eM f x)=(xs.erase x).map (eM f)
 |[]=>rfl
 |y::xs=>by
  rw[oZ,List.erase_cons,uG d x xs];grind[pP]
theorem Ko(d:∀i j,f i=f j->i=j)(xs:gZ)(x y:eG):kB (xs.map (eM f)) (eM f x) (eM f y)=(kB xs x y).map (eM f):=by
 grind[Ao,mem_map,List.map_set,kB]
theorem A5(d:∀i j,f i=f j->i=j)(xs:gZ)(x y:eG):eu (xs.map (eM f)) (eM f x) (eM f y)=(eu xs x y).map (eM f):=by
 grind[Ao,mem_map,List.map_take,List.map_drop,eu]
theorem NR(l:∀i j,f i=f j->i=j)(xs:gZ)(x:eG):li (xs.map (eM f)) (eM f x)=(li xs x).map (eM f):=by
 have h:∀d:List _,(d.map (eM f)).dropWhile (·≠eM f x)=(d.dropWhile (·≠x)).map (eM f):=by
  intro d
  induction d with
  |nil=>rfl
  |cons y d ih=>
   grind[List.dropWhile_cons,pP]
 grind[List.map_reverse,li]
theorem fy.ahT(h:fy E L σ C)(v:cY)(zs:gZ):fy E {L with ov:=v} {σ with cC:=zs} (C.setIfInBounds 188 v):=by
 cases h;constructor<;>grind
theorem fy.ahS(h:fy E L σ C)(v:cY)(zs:gZ):fy E {L with cv:=v} {σ with act:=zs} (C.setIfInBounds 189 v):=by
 cases h;constructor<;>grind
theorem fy.xk(h:fy E L σ C)(x:eG):fy E L {σ with head:=x} (C.setIfInBounds 190 (ig (eM L.dk x))):=by
 cases h;constructor<;>grind
theorem fy.tm(h:fy E L σ C)(x:eG):fy E L {σ with form:=x} (C.setIfInBounds 191 (ig (eM L.dk x))):=by
 cases h;constructor<;>grind
theorem fy.eV(h:fy E L σ C)(x:Nat):fy E L {σ with mode:=x} (C.setIfInBounds 192 (G x)):=by
 cases h;constructor<;>grind
theorem fy.xl(h:fy E L σ C)(x:Nat):fy E L {σ with kept:=x} (C.setIfInBounds 193 (G x)):=by
 cases h;constructor<;>grind
theorem fy.aeT(h:fy E L σ C)(v:cY)(d:List (Nat×Nat×O)):fy E {L with wv:=v} {σ with waiting:=d} (C.setIfInBounds 194 v):=by
 cases h;constructor<;>grind
theorem fy.xj(h:fy E L σ C)(x:Bool):fy E L {σ with dv:=x} (C.setIfInBounds 195 (.bool x)):=by
 cases h;constructor<;>grind
theorem fy.oQ(h:fy E L σ C)(x:Bool):fy E L {σ with fJ:=x} (C.setIfInBounds 196 (.bool x)):=by
 cases h;constructor<;>grind
theorem fy.B8(h:fy E L σ C)(x:Nat):fy E L {σ with dk:=x} (C.setIfInBounds 197 (G x)):=by
 cases h;constructor<;>grind
theorem fy.qw(h:fy E L σ C)(x:Bool):fy E L {σ with behind:=x} (C.setIfInBounds 198 (.bool x)):=by
 cases h;constructor<;>grind
theorem iS.loc(h:iS bs L w i nd)(e1:L'.dk=L.dk)(e2:L'.av=L.av)(d:L'.kv=L.kv):iS bs L' w i nd:=by
 cases nd<;>(grind[iS])
theorem Rel.acm(h:Rel E L σ w):∃C,w.heap[E.bB]?=some (cV C 179):=by
 grind[du]
def Rel.free(h:Rel E L σ w)(j:Nat):w.frozen? ⟨E.bB,j,none⟩=false:=by
 have⟨C,hb⟩:=h.acm;exact cQ hb j
theorem Rel.lt(h:Rel E L σ w):E.bB<w.heap.size:=by
 grind[acm]
theorem Rel.low(h:Rel E L σ w)(d:j<188)(l:E.C0[j]?=some v):w.cell? ⟨E.bB,j,none⟩=some v:=by
 have⟨C,hb,hC⟩:=h.du;rw[aN hb];exact(hC.low j d).trans l
def Rel.ZN(h:Rel E L σ w):w.cell? ⟨E.bB,190,none⟩=some (ig (eM L.dk σ.head)):=by
 have⟨C,hb,hC⟩:=h.du;rw[aN hb];exact hC.head
def Rel.Vd(h:Rel E L σ w):w.cell? ⟨E.bB,191,none⟩=some (ig (eM L.dk σ.form)):=by
 have⟨C,hb,hC⟩:=h.du;rw[aN hb];exact hC.form
def Rel.pK(h:Rel E L σ w):w.cell? ⟨E.bB,192,none⟩=some (G σ.mode):=by
 have⟨C,hb,hC⟩:=h.du;rw[aN hb];exact hC.mode
def Rel.Ve(h:Rel E L σ w):w.cell? ⟨E.bB,193,none⟩=some (G σ.kept):=by
 have⟨C,hb,hC⟩:=h.du;rw[aN hb];exact hC.kept
theorem Rel.af8(h:Rel E L σ w):w.cell? ⟨E.bB,194,none⟩=some L.wv:=by
 have⟨C,hb,hC⟩:=h.du;rw[aN hb];exact hC.wait
def Rel.acw(h:Rel E L σ w):w.cell? ⟨E.bB,195,none⟩=some (.bool σ.dv):=by
 have⟨C,hb,hC⟩:=h.du;rw[aN hb];exact hC.Jm
def Rel.acx(h:Rel E L σ w):w.cell? ⟨E.bB,196,none⟩=some (.bool σ.fJ):=by
 have⟨C,hb,hC⟩:=h.du;rw[aN hb];exact hC.fJ
def Rel.Vf(h:Rel E L σ w):w.cell? ⟨E.bB,197,none⟩=some (G σ.dk):=by
 have⟨C,hb,hC⟩:=h.du;rw[aN hb];exact hC.dk
def Rel.acy(h:Rel E L σ w):w.cell? ⟨E.bB,198,none⟩=some (.bool σ.behind):=by
 have⟨C,hb,hC⟩:=h.du;rw[aN hb];exact hC.behind
theorem Rel.dB(h:Rel E L σ w)(l:Z [] w w'):Rel E L σ w':=by
 have d:KT E.bs [] w w':=.df l;have⟨C,hb,hC⟩:=h.du;exact {h with
  fr:=h.fr.trans (.df l)
  qH:=λi nd n=>(h.qH i nd n).kt d (by simp)
  du:=⟨C,d.at hb (by simp),hC⟩
  ng:=d.row h.ng (by simp)
  oh:=d.row h.oh (by simp)
  mY:=d.row h.mY (by simp)
  rd:=d.at h.rd (by simp)
  tok:=d.row h.tok (by simp)}
def Rel.bw(h:Rel E L σ w):E.bs<=w.heap.size:=fK h.bz h.fr.size
def To(E:Env)(L:Loc)(σ':N)(w w':J):Prop:=∃L',L'.dk=L.dk/\Rel E L' σ' w'/\Fr E.bs w w'
theorem Rel.to(h:Rel E L σ w')(d:Fr E.bs w w'):To E L σ w w':=⟨L,rfl,h,d⟩
theorem Rel.store(h:Rel E L σ w)(j:Nat)(u:cY)(H:∀C,fy E L σ C->fy E L σ' (C.setIfInBounds j u))(q:Wf σ')(n:σ'.nodes=σ.nodes:=by rfl)(ho:σ'.cC=σ.cC:=by rfl)(ha:σ'.act=σ.act:=by rfl)(hw:σ'.waiting=σ.waiting:=by rfl)(h1:σ'.jI=σ.jI:=by rfl)(h2:σ'.dM=σ.dM:=by rfl)(h3:σ'.fresh=σ.fresh:=by rfl)(a0:σ'.nB=σ.nB:=by rfl)(a1:σ'.ox=σ.ox:=by rfl)(a2:σ'.mj=σ.mj:=by rfl):Rel E L σ' (w.setCell ⟨E.bB,j,none⟩ u):=by
 obtain⟨C,U,I⟩:=h.du;have D:Z [E.bB] w (w.setCell ⟨E.bB,j,none⟩ u):=(Z.refl _ w).setCell (.inl (by simp)) u;have A:KT E.bs [179] w _:=.fS D (λk D _=>by grind[bB]);have he:∀i,σ'.db i=σ.db i:=λi=>by unfold N.db;rw[n]
 exact {h with
  fr:=h.fr.trans (A.fr (by decide))
  Dz:=by grind[Dz]
  qH:=λi nd l=>(h.qH i nd (by grind)).kt A (by decide)
  bN:=by rw[n];exact h.bN
  Ar:=by grind[Ar]
  Ge:=λi l d=>h.Ge i (by grind) (by grind)
  uq:=λi j e g l hg hj=>h.uq i j e g (by grind) hg (by grind)
  Eg:=λi l d=>h.Eg i (by grind) (by grind)
  wf:=q
  du:=⟨_,bJ U j u,H C I⟩
  ng:=by grind[KT.row,ng]
  oh:=by grind[KT.row,oh]
  vu:=by grind[vu]
  Ep:=by grind[Ep]
  mY:=by grind[KT.row,mY]
  MF:=by grind[MF]
  rd:=by grind[KT.at,rd]
  tok:=A.row h.tok (by decide)
  zd:=by grind[zd]
  ab:=by rw[n];exact h.ab
  ME:=by rw[hw];exact h.ME}
def Rel.xk(h:Rel E L σ w)(x:eG)(l:σ.de x=true):Rel E L {σ with head:=x} (w.setCell ⟨E.bB,190,none⟩ (ig (eM L.dk x))):=
 h.store 190 _ (λC d=>d.xk x) {h.wf with head:=l}
def Rel.tm(h:Rel E L σ w)(x:eG)(l:σ.de x=true):Rel E L {σ with form:=x} (w.setCell ⟨E.bB,191,none⟩ (ig (eM L.dk x))):=
 h.store 191 _ (λC d=>d.tm x) {h.wf with form:=l}
def Rel.eV(h:Rel E L σ w)(x:Nat):Rel E L {σ with mode:=x} (w.setCell ⟨E.bB,192,none⟩ (G x)):=
 h.store 192 _ (λC d=>d.eV x) {h.wf with}
def Rel.xl(h:Rel E L σ w)(x:Nat):Rel E L {σ with kept:=x} (w.setCell ⟨E.bB,193,none⟩ (G x)):=
 h.store 193 _ (λC d=>d.xl x) {h.wf with}
def Rel.xj(h:Rel E L σ w)(x:Bool):Rel E L {σ with dv:=x} (w.setCell ⟨E.bB,195,none⟩ (.bool x)):=
 h.store 195 _ (λC d=>d.xj x) {h.wf with}
def Rel.oQ(h:Rel E L σ w)(x:Bool):Rel E L {σ with fJ:=x} (w.setCell ⟨E.bB,196,none⟩ (.bool x)):=
 h.store 196 _ (λC d=>d.oQ x) {h.wf with}
def Rel.B8(h:Rel E L σ w)(x:Nat):Rel E L {σ with dk:=x} (w.setCell ⟨E.bB,197,none⟩ (G x)):=
 h.store 197 _ (λC d=>d.B8 x) {h.wf with}
def Rel.qw(h:Rel E L σ w)(x:Bool):Rel E L {σ with behind:=x} (w.setCell ⟨E.bB,198,none⟩ (.bool x)):=
 h.store 198 _ (λC d=>d.qw x) {h.wf with}
theorem Rel.de(h:Rel E L σ w)(l:σ.de x=true):rT w (eM L.dk x):=by
 intro k d;cases x with
 |none=>cases d
 |some i=>
  obtain rfl:=je d;have⟨e,he⟩:=Option.isSome_iff_exists.1 l;exact⟨_,(h.qH i _ (N.fa he)).1.du⟩
theorem E4(h:y∈li xs x):y∈xs:=by
 grind[List.dropWhile_sublist,List.mem_of_mem_tail,li]
theorem Kq{z:eG}(h:z∈kB xs x y):z∈xs\/z=y:=by
 grind[kB]
theorem A6{z:eG}(h:z∈eu xs x y):z∈xs\/z=y:=by
 grind[eu]
theorem Rel.x9(h:Rel E L σ w):∃C,uX E.bs E.bB 188 179 C L.ov (σ.cC.map (eM L.dk)) w/\fy E L σ C:=by
 have⟨C,hb,hC⟩:=h.du;refine⟨C,⟨hb,hC.cC,?_,by decide,by grind[vu]⟩,hC⟩
 simpa [amo]using h.ng
theorem Rel.elO(h:Rel E L σ w):∀x∈σ.cC.map (eM L.dk),rT w x:=by
 grind[de,N.uu,Wf.cC,wf]
def Sd(L:Loc)(w:J)(k:Nat)(v:cY):Prop:=w.heap[k]?=some (cV #[v] 68)/\L.ov.ownBlock≠some k/\L.cv.ownBlock≠some k
def ToS(E:Env)(L:Loc)(σ':N)(w w':J):Prop:=∃L',L'.dk=L.dk/\Rel E L' σ' w'/\Fr E.bs w w'/\∀k v,Sd L w k v->Sd L' w' k v
theorem Sd.EN(h:Sd L w k v)(l:Z (b::u.ownBlock.toList) w w')(n:w.heap[b]?=some (cV C 179))(q:u.ownBlock≠some k):w'.heap[k]?=some (cV #[v] 68):=by
 refine l.at h.1 λd=>?_;rcases List.mem_cons.1 d with rfl|d;have:=h.1;grind;grind
theorem Sd.Ce(h:Sd L w k v)(n:Z (b::L.ov.ownBlock.toList) w w')(l:w.heap[b]?=some (cV C 179))(d:v'.ownBlock=L.ov.ownBlock\/∀g,v'.ownBlock=some g->w.heap.size<=g):Sd {L with ov:=v'} w' k v:=by
 refine⟨h.EN n l h.2.1,λe=>?_,h.2.2⟩;rcases d with d|d;exact h.2.1 (d▸e);have:=d k e;have:=eS h.1;omega
theorem Sd.zX(h:Sd L w k v)(n:Z (b::L.cv.ownBlock.toList) w w')(l:w.heap[b]?=some (cV C 179))(d:v'.ownBlock=L.cv.ownBlock\/∀g,v'.ownBlock=some g->w.heap.size<=g):Sd {L with cv:=v'} w' k v:=by
 refine⟨h.EN n l h.2.2,h.2.1,λe=>?_⟩;rcases d with d|d;exact h.2.2 (d▸e);have:=d k e;have:=eS h.1;omega
theorem Rel.Qy(h:Rel E L σ w)(l:uX E.bs E.bB 188 179 C L.ov (σ.cC.map (eM L.dk)) w)(hC:fy E L σ C)(ht:mc E.bs E.bB 188 179 C L.ov (zs.map (eM L.dk)) w w')(hz:∀x∈zs,σ.jw x=true):ToS E L {σ with cC:=zs} w w':=by
 obtain⟨v',D,A,I⟩:=ht;have d:KT E.bs [179,68] w w':=.fS A (λk q _=>by
  rcases List.mem_cons.1 q with rfl|q;exact⟨⟨_,_,_,l.du,by simp⟩,h.bB⟩;obtain⟨c,m,hc⟩:=qd l.row (by simpa using q);exact⟨by grind,(l.row.lt k (by grind)).1⟩)
 have n:∀g,L.cv.ownBlock=some g->g∉E.bB::L.ov.ownBlock.toList:=by
  intro g hg H;rcases List.mem_cons.1 H with rfl|H;exact BW h.oh l.du (by decide) hg;grind[Ic]
 exact⟨{L with ov:=v'},rfl,({h with
  fr:=h.fr.trans (d.fr (by decide))
  qH:=λi nd hi=>((h.qH i nd hi).kt d (by decide)).loc rfl rfl rfl
  wf:={h.wf with cC:=hz}
  du:=⟨_,D.du,hC.ahT v' zs⟩
  ng:=by simpa [List.map_map,amo]using D.row
  oh:=A.ownsRow h.oh n
  Ic:=by
   intro g h1 U;have a0:=BV h.oh (g:=g) U;grind
  vu:=by grind[List.length_map,uX.le]
  mY:=d.row h.mY (by decide)
  rd:=d.at h.rd (by decide)
  tok:=d.row h.tok (by decide)}),d.fr (by decide),λk v hs=>hs.Ce A l.du I⟩
theorem Rel.Ce(h:Rel E L σ w)(l:uX E.bs E.bB 188 179 C L.ov (σ.cC.map (eM L.dk)) w)(d:fy E L σ C)(n:mc E.bs E.bB 188 179 C L.ov (zs.map (eM L.dk)) w w')(q:∀x∈zs,σ.jw x=true):To E L {σ with cC:=zs} w w':=
 have⟨L1,a,b,c,_⟩:=h.Qy l d n q
 ⟨L1,a,b,c⟩
def aee(h:Rel E L σ w):
  Calls prog 263 #[fR E.bB 188] w λe w'=>e=dw (G σ.cC.length)/\w'=w:=by
 have⟨C,hL,hC⟩:=h.x9;have:=aiH E.bs E.bB 188 _ C _ _ w hL
 rwa [Zk]at this
def alU(h:Rel E L σ w)(n:Int):
  Calls prog 242 #[fR E.bB 188,G n] w λe w'=>e=dw (ig (eM L.dk (dA σ.cC n)))/\w'=w:=by
 have⟨C,hL,hC⟩:=h.x9;have:=adN E.bs E.bB 188 _ C _ _ n w hL
 rwa [wY]at this
def Wy(h:Rel E L σ w):
  Calls prog 173 #[fR E.bB 188] w λe w'=>e=dw (ig (eM L.dk (dA σ.cC ((σ.cC.length:Int)-1))))/\w'=w:=by
 have⟨C,hL,hC⟩:=h.x9;have:=adO E.bs E.bB 188 _ C _ _ w hL
 rwa [wY,Zk]at this
def alV(h:Rel E L σ w)(x:eG)(d:σ.de x=true):
  Calls prog 316 #[fR E.bB 188,ig (eM L.dk x)] w λe w'=>e=dw (.bool (decide (x∈σ.cC)))/\w'=w:=by
 have⟨C,hL,hC⟩:=h.x9;have:=aiG E.bs E.bB 188 _ C _ _ _ w hL h.elO (h.de d)
 rwa [decide_eq_decide.2 (mem_map h.inj _ x)]at this
def yg(h:Rel E L σ w)(x:eG)(d:σ.de x=true):
  Calls prog 240 #[fR E.bB 188,ig (eM L.dk x)] w λe w'=>e=dw (ig (eM L.dk (dA σ.cC (posOf σ.cC x-1))))/\w'=w:=by
 have⟨C,hL,hC⟩:=h.x9;have:=Py E.bs E.bB 188 _ C _ _ _ w hL h.elO (h.de d)
 rwa [NS h.inj,wY]at this
theorem akk(h:Rel E L σ w)(x:eG)(l:σ.jw x=true)(d:σ.cC.length<4096):
  Calls prog 265 #[fR E.bB 188,ig (eM L.dk x)] w λe w'=>e=nu/\To E L {σ with cC:=σ.cC++[x]} w w':=by
 have⟨C,hL,hC⟩:=h.x9;refine(adP E.bs E.bB 188 _ C _ _ _ w hL (by grind) h.bw).mono ?_;grind[Rel.Ce,Wf.cC,Rel.wf]
theorem Tf(h:Rel E L σ w):
  Calls prog 178 #[fR E.bB 188] w λe w'=>e=dw (ig (eM L.dk (dA σ.cC ((σ.cC.length:Int)-1))))/\To E L {σ with cC:=σ.cC.dropLast} w w':=by
 have⟨C,hL,hC⟩:=h.x9;refine(aiI E.bs E.bB 188 _ C _ _ w hL).mono ?_;grind[wY,Rel.Ce,Wf.cC,Rel.wf,List.dropLast_subset]
def ahf(h:Rel E L σ w)(x:eG)(l:σ.de x=true):
  Calls prog 322 #[fR E.bB 188,ig (eM L.dk x)] w λe w'=>e=nu/\To E L {σ with cC:=li σ.cC x} w w':=by
 have⟨C,hL,hC⟩:=h.x9;refine(Yv E.bs E.bB 188 _ C _ _ _ w hL (by decide) h.elO (h.de l)).mono ?_;rintro e w'⟨rfl,d⟩;exact⟨rfl,h.Ce hL hC (by rw[<-NR h.inj];exact d) λy n=>h.wf.cC y (E4 n)⟩
def aef(h:Rel E L σ w)(x:eG)(l:σ.de x=true):
  Calls prog 181 #[fR E.bB 188,ig (eM L.dk x)] w λe w'=>e=nu/\To E L {σ with cC:=σ.cC.erase x} w w':=by
 have⟨C,hL,hC⟩:=h.x9;refine(zE E.bs E.bB 188 _ C _ _ _ w hL h.elO (h.de l)).mono ?_;rintro e w'⟨rfl,d⟩;exact⟨rfl,h.Ce hL hC (by rw[<-uG h.inj];exact d) λy n=>h.wf.cC y (GJ n)⟩
theorem Tg(h:Rel E L σ w)(x y:eG)(l:σ.de x=true)(q:σ.jw y=true)(n:σ.cC.length<4096):
  Calls prog 370 #[fR E.bB 188,ig (eM L.dk x),ig (eM L.dk y)] w λe w'=>e=nu/\To E L {σ with cC:=eu σ.cC x y} w w':=by
 have⟨C,hL,hC⟩:=h.x9;refine(Gg E.bs E.bB 188 _ C _ _ _ _ w hL h.elO (h.de l) (by grind) h.bw).mono ?_;rintro e w'⟨rfl,d⟩;exact⟨rfl,h.Ce hL hC (by rw[<-A5 h.inj];exact d) λz A=>by grind[A6,Wf.cC,Rel.wf]⟩
theorem Rel.GX(h:Rel E L σ w):∃C,uX E.bs E.bB 189 179 C L.cv (σ.act.map (eM L.dk)) w/\fy E L σ C:=by
 have⟨C,hb,hC⟩:=h.du;refine⟨C,⟨hb,hC.act,?_,by decide,by grind[Ep]⟩,hC⟩
 simpa [amo]using h.oh
theorem Rel.elA(h:Rel E L σ w):∀x∈σ.act.map (eM L.dk),rT w x:=by
 grind[de,Wf.act,wf]
theorem Rel.Qx(h:Rel E L σ w)(l:uX E.bs E.bB 189 179 C L.cv (σ.act.map (eM L.dk)) w)(hC:fy E L σ C)(ht:mc E.bs E.bB 189 179 C L.cv (zs.map (eM L.dk)) w w')(hz:∀x∈zs,σ.de x=true):ToS E L {σ with act:=zs} w w':=by
 obtain⟨v',D,A,I⟩:=ht;have d:KT E.bs [179,68] w w':=.fS A (λk q _=>by
  rcases List.mem_cons.1 q with rfl|q;exact⟨⟨_,_,_,l.du,by simp⟩,h.bB⟩;obtain⟨c,m,hc⟩:=qd l.row (by simpa using q);exact⟨by grind,(l.row.lt k (by grind)).1⟩)
 have n:∀g,L.ov.ownBlock=some g->g∉E.bB::L.cv.ownBlock.toList:=by
  intro g hg H;rcases List.mem_cons.1 H with rfl|H;exact BW h.ng l.du (by decide) hg;grind[Ic]
 exact⟨{L with cv:=v'},rfl,({h with
  fr:=h.fr.trans (d.fr (by decide))
  qH:=λi nd hi=>((h.qH i nd hi).kt d (by decide)).loc rfl rfl rfl
  wf:={h.wf with act:=hz}
  du:=⟨_,D.du,hC.ahS v' zs⟩
  oh:=by simpa [List.map_map,amo]using D.row
  ng:=A.ownsRow h.ng n
  Ic:=by
   intro g U h2;have a0:=BV h.ng (g:=g) U;grind
  Ep:=by grind[List.length_map,uX.le]
  mY:=d.row h.mY (by decide)
  rd:=d.at h.rd (by decide)
  tok:=d.row h.tok (by decide)}),d.fr (by decide),λk v hs=>hs.zX A l.du I⟩
theorem Rel.zX(h:Rel E L σ w)(l:uX E.bs E.bB 189 179 C L.cv (σ.act.map (eM L.dk)) w)(d:fy E L σ C)(n:mc E.bs E.bB 189 179 C L.cv (zs.map (eM L.dk)) w w')(q:∀x∈zs,σ.de x=true):To E L {σ with act:=zs} w w':=
 have⟨L1,a,b,c,_⟩:=h.Qx l d n q
 ⟨L1,a,b,c⟩
def ait(h:Rel E L σ w):
  Calls prog 263 #[fR E.bB 189] w λe w'=>e=dw (G σ.act.length)/\w'=w:=by
 have⟨C,hL,hC⟩:=h.GX;have:=aiH E.bs E.bB 189 _ C _ _ w hL
 rwa [Zk]at this
def amN(h:Rel E L σ w)(n:Int):
  Calls prog 242 #[fR E.bB 189,G n] w λe w'=>e=dw (ig (eM L.dk (dA σ.act n)))/\w'=w:=by
 have⟨C,hL,hC⟩:=h.GX;have:=adN E.bs E.bB 189 _ C _ _ n w hL
 rwa [wY]at this
def alm(h:Rel E L σ w)(x:eG)(d:σ.de x=true):
  Calls prog 316 #[fR E.bB 189,ig (eM L.dk x)] w λe w'=>e=dw (.bool (decide (x∈σ.act)))/\w'=w:=by
 have⟨C,hL,hC⟩:=h.GX;have:=aiG E.bs E.bB 189 _ C _ _ _ w hL h.elA (h.de d)
 rwa [decide_eq_decide.2 (mem_map h.inj _ x)]at this
theorem ajj(h:Rel E L σ w)(x:eG)(l:σ.de x=true)(d:σ.act.length<4096):
  Calls prog 265 #[fR E.bB 189,ig (eM L.dk x)] w λe w'=>e=nu/\To E L {σ with act:=σ.act++[x]} w w':=by
 have⟨C,hL,hC⟩:=h.GX;refine(adP E.bs E.bB 189 _ C _ _ _ w hL (by grind) h.bw).mono ?_;grind[Rel.zX,Wf.act,Rel.wf]
def afT(h:Rel E L σ w)(x:eG)(l:σ.de x=true):
  Calls prog 322 #[fR E.bB 189,ig (eM L.dk x)] w λe w'=>e=nu/\To E L {σ with act:=li σ.act x} w w':=by
 have⟨C,hL,hC⟩:=h.GX;refine(Yv E.bs E.bB 189 _ C _ _ _ w hL (by decide) h.elA (h.de l)).mono ?_;rintro e w'⟨rfl,d⟩;exact⟨rfl,h.zX hL hC (by rw[<-NR h.inj];exact d) λy n=>h.wf.act y (E4 n)⟩
def acb(h:Rel E L σ w)(x:eG)(l:σ.de x=true):
  Calls prog 181 #[fR E.bB 189,ig (eM L.dk x)] w λe w'=>e=nu/\To E L {σ with act:=σ.act.erase x} w w':=by
 have⟨C,hL,hC⟩:=h.GX;refine(zE E.bs E.bB 189 _ C _ _ _ w hL h.elA (h.de l)).mono ?_;rintro e w'⟨rfl,d⟩;exact⟨rfl,h.zX hL hC (by rw[<-uG h.inj];exact d) λy n=>h.wf.act y (GJ n)⟩
theorem Zy(h:Rel E L σ w)(x y:eG)(l:σ.de x=true)(n:σ.de y=true):
  Calls prog 270 #[fR E.bB 189,ig (eM L.dk x),ig (eM L.dk y)] w λe w'=>e=nu/\To E L {σ with act:=kB σ.act x y} w w':=by
 have⟨C,hL,hC⟩:=h.GX;refine(ES E.bs E.bB 189 _ C _ _ _ _ w hL h.elA (h.de l)).mono ?_;rintro e w'⟨rfl,d⟩;exact⟨rfl,h.zX hL hC (by rw[<-Ko h.inj];exact d) λz q=>by grind[Kq,Wf.act,Rel.wf]⟩
theorem Q6(h:Rel E L σ w)(x y:eG)(l:σ.de x=true)(q:σ.de y=true)(n:σ.act.length<4096):
  Calls prog 370 #[fR E.bB 189,ig (eM L.dk x),ig (eM L.dk y)] w λe w'=>e=nu/\To E L {σ with act:=eu σ.act x y} w w':=by
 have⟨C,hL,hC⟩:=h.GX;refine(Gg E.bs E.bB 189 _ C _ _ _ _ w hL h.elA (h.de l) (by grind) h.bw).mono ?_;rintro e w'⟨rfl,d⟩;exact⟨rfl,h.zX hL hC (by rw[<-A5 h.inj];exact d) λz A=>by grind[A6,Wf.act,Rel.wf]⟩
def Loc.new(L:Loc)(n k:Nat)(av kv:cY):Loc:={L with dk:=λi=>if i<n then L.dk i else k+(i-n),av:=λi=>if i=n then av else L.av i,kv:=λi=>if i=n then kv else L.kv i}
theorem Loc.yc{n:Nat}(h:i<n):(L.new n k av kv).dk i=L.dk i:=dd h
theorem Loc.pO{n:Nat}:(L.new n k av kv).dk n=k:=by simp[Loc.new]
theorem Loc.EU{n:Nat}(h:i<n):(L.new n k av kv).av i=L.av i:=cZ (by omega)
theorem Loc.PF{n:Nat}(h:i<n):(L.new n k av kv).kv i=L.kv i:=cZ (by omega)
theorem Loc.Au{n:Nat}:(L.new n k av kv).av n=av:=dd rfl
theorem Loc.Ia{n:Nat}:(L.new n k av kv).kv n=kv:=dd rfl
def Ed(n:Nat)(L L':Loc):Prop:=∀i,i<n->L'.dk i=L.dk i
theorem Ed.refl(n:Nat)(L:Loc):Ed n L L:=λ_ _=>rfl
def N.jy(h:σ.de (some i)=true):i<σ.nodes.length:=by
 have⟨e,he⟩:=Option.isSome_iff_exists.1 h;exact N.dm he
def N.SE{k:Nd}(h:σ.eZ k=true):k.du<σ.nodes.length:=by
 by_cases l:k.du<σ.nodes.length;exact l;have d:σ.nodes[k.du]?=none:=yS (by omega);cases k with
 |el i=>simp[Nd.du]at d;simp[N.eZ,N.db,d]at h
 |tx i=>simp[Nd.du]at d;simp[N.eZ,d]at h
 |cm i=>simp[Nd.du]at d;simp[N.eZ,d]at h
 |dt i=>simp[Nd.du]at d;simp[N.eZ,d]at h
def Ed.om(h:Ed σ.nodes.length L L')(d:σ.de x=true):eM L'.dk x=eM L.dk x:=by
 cases x with
 |none=>rfl
 |some i=>show some _=some _;rw[h i (N.jy d)]
theorem Ed.Ci(h:Ed σ.nodes.length L L'){k:Nd}(d:σ.eZ k=true):Nd.map L'.dk k=Nd.map L.dk k:=by
 have:=h _ (N.SE d);cases k<;>(simp[Nd.map,Nd.du]at this|-;rw[this])
theorem Ed.list(h:Ed σ.nodes.length L L')(l:∀x∈xs,σ.de x=true):(xs.map λx=>ig (eM L'.dk x))=xs.map λx=>ig (eM L.dk x):=
 aft λx d=>by rw[h.om (l x d)]
theorem Ed.kids(h:Ed σ.nodes.length L L'){ks:List Nd}(l:∀x∈ks,σ.eZ x=true):ks.map (Nd.map L'.dk)=ks.map (Nd.map L.dk):=
 aft λx d=>h.Ci (l x d)
theorem N.qo(d:i<σ.nodes.length):(σ.add nd).db i=σ.db i:=by
 grind[N.db,N.add]
theorem N.pc:(σ.add nd).db σ.nodes.length=(match nd with| .el e=>some e|_=>none):=by
 show(match (σ.nodes++[nd])[σ.nodes.length]? with|some (.el e)=>some e|_=>none)=_
 grind
theorem N.zA(h:σ.de x=true):(σ.add nd).de x=true:=by
 cases x with
 |none=>rfl
 |some i=>show((σ.add nd).db i).isSome=true;rw[N.qo (N.jy h)];exact h
def N.Ny(h:σ.jw x=true):(σ.add nd).jw x=true:=by
 cases x with
 |none=>exact h
 |some i=>show((σ.add nd).db i).isSome=true;rw[N.qo (N.jy h)];exact h
theorem N.EJ{k:Nd}(h:σ.eZ k=true):(σ.add nd).eZ k=true:=by
 cases k with
 |el i=>show((σ.add nd).db i).isSome=true;rw[N.qo (i:=i) (N.SE h)];exact h
 |tx i=>grind[N.eZ,N.add]
 |cm i=>grind[N.eZ,N.add]
 |dt i=>grind[N.eZ,N.add]
theorem N.wu(h:(σ.add nd).db i=some e):(i<σ.nodes.length/\σ.db i=some e)\/(i=σ.nodes.length/\nd=.el e):=by
 have d:=by simpa [N.add]using (N.dm h)
 grind[qo,pc]
theorem iS.ext(h:iS bs L w i nd)(d:Ed σ.nodes.length L L')(l:i<σ.nodes.length)(n:L'.av i=L.av i)(q:L'.kv i=L.kv i)(A:∀e,nd=.el e->σ.de e.ff=true/\∀k∈e.kids,σ.eZ k=true):iS bs L' w i nd:=by
 cases nd with
 |el e=>
  have⟨h1,h2⟩:=A e rfl;show El bs w _ _ _ _ _ _/\yC w _ _/\e.di.length<=4096;rw[d i l,n,q,d.om h1,d.kids h2];exact h
 |tx s=>show w.heap[L'.dk i]?=_;rw[d i l];exact h
 |cm s=>show w.heap[L'.dk i]?=_;rw[d i l];exact h
 |dt s=>show w.heap[L'.dk i]?=_;rw[d i l];exact h
theorem Rel.IC(h:Rel E L σ w)(d:i<σ.nodes.length):L.dk i<w.heap.size:=by
 have⟨c,hc⟩:=(h.qH i _ (pU d)).typ;grind
def Rel.wfn(h:Rel E L σ w)(l:σ.nodes[i]?=some nd):∀e,nd=.el e->σ.de e.ff=true/\∀k∈e.kids,σ.eZ k=true:=by
 rintro e rfl;have d:=N.Vv l;exact⟨h.wf.ff i e d,h.wf.kids i e d⟩
theorem fy.ext(h:fy E L σ C)(l:Ed σ.nodes.length L L')(d:Wf σ)(e1:L'.ov=L.ov)(e2:L'.cv=L.cv)(A:L'.wv=L.wv)(n:σ'.head=σ.head)(q:σ'.form=σ.form)(D:σ'.mode=σ.mode)(H:σ'.kept=σ.kept)(s5:σ'.dv=σ.dv)(s6:σ'.fJ=σ.fJ)(s7:σ'.dk=σ.dk)(s8:σ'.behind=σ.behind):fy E L' σ' C:=
 ⟨h.size,h.low,by grind[cC],by grind[act],by rw[n,l.om d.head];exact h.head,by rw[q,l.om d.form];exact h.form,by grind[mode],by grind[kept],by grind[wait],by grind[Jm],by grind[fJ],by grind[dk],by grind[behind]⟩
theorem Rel.aiv(h:Rel E L σ w)(nd:zc)(k:Nat)(av kv:cY)(fr:Bool)(hk:Z [] w w')(ae:∀i,i<σ.nodes.length->L.dk i<k)(a9:E.bs<=k)
  (af:iS E.bs (L.new σ.nodes.length k av kv) w' σ.nodes.length nd) (ad:kv.ownBlock=none) (a7:∀e,nd=.el e->e.ff=none/\e.kids=[])
  (a4:∀i e g,σ.db i=some e->kF e.name=true->av.ownBlock=some g->(L.av i).ownBlock≠some g)
  (a5:∀e g j,nd=.el e->kF e.name=true->j<σ.nodes.length->av.ownBlock=some g->(L.av j).ownBlock≠some g)
  (a3:(∀e,nd≠ .el e)->av.ownBlock=none)
  (a1:fr=true->σ.fresh=true/\∀g,E.tv.ownBlock=some g->av.ownBlock≠some g) (a8:∀g,av.ownBlock=some g->E.bs<=g):
  Rel E (L.new σ.nodes.length k av kv) (σ.ny nd fr) w':=by
 have q:=h.dB hk;have hE:Ed σ.nodes.length L (L.new σ.nodes.length k av kv):=λi l=>Loc.yc l;have a6:=N.jy (σ:=σ) (i:=0) h.wf.rU;have n:(σ.ny nd fr).nodes.length=σ.nodes.length+1:=by simp[N.ny]
 have aa:∀i,(σ.ny nd fr).db i=(σ.add nd).db i:=λi=>rfl;have⟨C,hb,hC⟩:=q.du;refine⟨q.fr,by grind[Loc.yc,env],q.Dz,?_,?_,?_,?_,?_,?_,?_,⟨C,hb,hC.ext hE h.wf rfl rfl rfl rfl rfl rfl rfl rfl rfl rfl rfl⟩,?_,?_,q.Ic,q.vu,q.Ep,q.mY,q.MF,q.rd,q.TR,q.tok,q.Lq,q.bz,q.bB,q.bR,?_,?_,?_,h.tb,h.ME⟩;intro i a0 l;have d:(σ.nodes++[nd])[i]?=some a0:=l;by_cases hl:i<σ.nodes.length;rw[Ea hl]at d;exact(q.qH i a0 d).ext hE hl (Loc.EU hl) (Loc.PF hl) (h.wfn d);grind;intro i j D;have A:(if i<σ.nodes.length then L.dk i else k+(i-σ.nodes.length))=(if j<σ.nodes.length then L.dk j else k+(j-σ.nodes.length)):=D;by_cases l:i<σ.nodes.length;by_cases I:j<σ.nodes.length;rw[dd l,dd I]at A;exact h.inj i j A;grind;grind;intro i j g l I D hg;rw[n]at l I;by_cases d:i<σ.nodes.length;rw[Loc.PF d]at hg;by_cases a2:j<σ.nodes.length;grind[Loc.PF,Ar];grind[Loc.new];grind[Loc.new];intro i l H;rw[n]at l;by_cases d:i<σ.nodes.length;grind[Loc.PF,Ge,N.qo];grind[Loc.new];intro i j e g l ac I D hg;rw[n]at I;rcases N.wu (nd:=nd) l with⟨d,H⟩|⟨rfl,rfl⟩;rw[Loc.EU d]at hg;by_cases a2:j<σ.nodes.length;grind[Loc.EU,uq];grind[Loc.new];grind[Loc.new];grind[Loc.EU,Eg,N.qo,Loc.Au,N.pc];refine⟨λx U=>N.Ny (h.wf.cC x U),λx U=>N.zA (h.wf.act x U),N.zA h.wf.head,N.zA h.wf.form,?_,?_,?_⟩;intro i e l;rcases N.wu (nd:=nd) l with⟨d,H⟩|⟨rfl,hn⟩;exact N.zA (h.wf.ff i e H);grind[N.de];intro i e l x U;rcases N.wu (nd:=nd) l with⟨d,H⟩|⟨rfl,hn⟩;exact N.EJ (h.wf.kids i e H x U);grind;grind[N.qo,Wf.rU,wf];show w'.ownsRow E.bs _ 1 L.ov σ.cC.length (σ.cC.map λx=>ig (eM (L.new σ.nodes.length k av kv).dk x));grind[Ed.list,N.uu,Wf.cC,wf,ng];show w'.ownsRow E.bs _ 1 L.cv σ.act.length (σ.act.map λx=>ig (eM (L.new σ.nodes.length k av kv).dk x));grind[Ed.list,Wf.act,wf,oh];intro i l;rw[n]at l;by_cases d:i<σ.nodes.length;rw[Loc.yc d];exact h.bN i d;grind[Loc.new];intro hf i g l hg;rw[n]at l;have⟨f1,f2⟩:=a1 hf;by_cases d:i<σ.nodes.length;grind[Loc.EU,zd];grind[Loc.new];grind[ab,Loc.EU,Loc.Au]
theorem Rel.add{E:Env}{L:Loc}{σ:N}{w w':J}(h:Rel E L σ w)(nd:zc)(k:Nat)(av kv:cY)(D:Bool)(hk:Z [] w w')(A:w.heap.size<=k)
  (a0:iS E.bs (L.new σ.nodes.length k av kv) w' σ.nodes.length nd) (U:kv.ownBlock=none) (q:∀e,nd=.el e->e.ff=none/\e.kids=[])
  (l:∀i e g,σ.db i=some e->kF e.name=true->av.ownBlock=some g->(L.av i).ownBlock≠some g)
  (n:∀e g j,nd=.el e->kF e.name=true->j<σ.nodes.length->av.ownBlock=some g->(L.av j).ownBlock≠some g)
  (d:(∀e,nd≠ .el e)->av.ownBlock=none)
  (I:D=true->σ.fresh=true/\∀g,E.tv.ownBlock=some g->av.ownBlock≠some g) (H:∀g,av.ownBlock=some g->E.bs<=g):
  Rel E (L.new σ.nodes.length k av kv) (σ.ny nd D) w':=
 h.aiv nd k av kv D hk (λ_ hi=>kL (h.IC hi) A) (fK h.bw A) a0 U q l n d I H
def Rel.Zb(h:Rel E L σ w)(d:KT E.bs [139,141,280] w w')(l:Ed σ.nodes.length L L')(e1:L'.ov=L.ov)(e2:L'.cv=L.cv)(D:L'.wv=L.wv)
  (a1:∀i nd,σ'.nodes[i]?=some nd->iS E.bs L' w' i nd) (I:∀i j,L'.dk i=L'.dk j->i=j)
  (a0:∀i j g,i<σ'.nodes.length->j<σ'.nodes.length->i≠j->(L'.kv i).ownBlock=some g->(L'.kv j).ownBlock≠some g)
  (U:∀i,i<σ'.nodes.length->σ'.db i=none->(L'.kv i).ownBlock=none)
  (uq:∀i j e g,σ'.db i=some e->kF e.name=true->j<σ'.nodes.length->i≠j->(L'.av i).ownBlock=some g->(L'.av j).ownBlock≠some g)
  (A:∀i,i<σ'.nodes.length->σ'.db i=none->(L'.av i).ownBlock=none)
  (wf:Wf σ') (H:σ'.fresh=true->∀i g,i<σ'.nodes.length->E.tv.ownBlock=some g->(L'.av i).ownBlock≠some g)
  (sl:σ'.nodes.length<=σ.nodes.length:=by first|exact dr _|simp[N.dh,N.jN])
  (s0:σ'.cC=σ.cC:=by rfl) (s9:σ'.act=σ.act:=by rfl) (s1:σ'.head=σ.head:=by rfl) (s2:σ'.form=σ.form:=by rfl) (s3:σ'.mode=σ.mode:=by rfl) (s4:σ'.kept=σ.kept:=by rfl) (s5:σ'.dv=σ.dv:=by rfl) (s6:σ'.fJ=σ.fJ:=by rfl) (s7:σ'.dk=σ.dk:=by rfl) (s8:σ'.behind=σ.behind:=by rfl) (sw:σ'.waiting=σ.waiting:=by rfl) (so:σ'.jI=σ.jI:=by rfl) (sp:σ'.dM=σ.dM:=by rfl) (d1:σ'.nB=σ.nB:=by rfl) (d2:σ'.ox=σ.ox:=by rfl) (d3:σ'.mj=σ.mj:=by rfl) (av:L'.av=L.av:=by rfl):Rel E L' σ' w':=by
 obtain⟨C,hb,hC⟩:=h.du;have n:=N.jy (σ:=σ) (i:=0) h.wf.rU;exact {h with
  fr:=h.fr.trans (d.fr (by decide))
  env:=by rw[l 0 n];exact h.env
  Dz:=by rw[d1,d2,d3];exact h.Dz
  qH:=a1,inj:=I,Ar:=a0,Ge:=U,uq:=uq,Eg:=A,wf:=wf
  du:=⟨C,d.at hb (by decide),hC.ext l h.wf e1 e2 D s1 s2 s3 s4 s5 s6 s7 s8⟩
  ng:=by rw[s0,e1,l.list λx hx=>N.uu (h.wf.cC x hx)];exact d.row h.ng (by decide)
  oh:=by rw[s9,e2,l.list h.wf.act];exact d.row h.oh (by decide)
  Ic:=by rw[e1,e2];exact h.Ic
  vu:=by rw[s0];exact h.vu
  Ep:=by rw[s9];exact h.Ep
  mY:=by rw[sw,D];exact d.row h.mY (by decide)
  MF:=by rw[sw];exact h.MF
  rd:=by rw[so,sp];exact d.at h.rd (by decide)
  tok:=d.row h.tok (by decide)
  bN:=λi q=>by rw[l i (kL q sl)];exact h.bN i (kL q sl)
  zd:=H
  ab:=λi g q hg=>h.ab i g (kL q sl) (by rw[av]at hg;exact hg)
  ME:=λv hv=>⟨D.trans (h.ME v hv).1,sw.trans (h.ME v hv).2⟩}
theorem Rel.zD(h:Rel E L σ w)(l:j<σ.nodes.length)(d:(L.kv j).ownBlock=some g):∃c m,w.heap[g]?=some (.cells c 141 m):=by
 cases he:σ.db j with
 |none=>grind[Ge]
 |some e=>exact qd (h.qH j _ (N.fa he)).1.row d
theorem Rel.OM(h:Rel E L σ w)(l:j<σ.nodes.length)(d:(L.av j).ownBlock=some g):∃c m,w.heap[g]?=some (.cells c 295 m):=by
 cases he:σ.db j with
 |none=>grind[Eg]
 |some e=>exact qd (h.qH j _ (N.fa he)).2.1 d
theorem Rel.U9(h:Rel E L σ w)(d:j<σ.nodes.length):∃c t,w.heap[L.dk j]?=some (cV c t)/\t≠141/\t≠295:=by
 have⟨c,hc⟩:=(h.qH j _ (pU d)).typ;refine⟨c,_,hc,?_⟩;cases σ.nodes[j]<;>(simp[zc.typ])
theorem afd{a:Nat}{c':fN}{d:TypeId}{l:Nat×Nat}(h:w.heap[a]?=some (.cells c t m))(n:w.heap[a]?=some (.cells c' d l)):t=d:=by
 grind
theorem Rel.dy(h:Rel E L σ w)(I:List Nat)(H:∀j∈I,j<σ.nodes.length)(l:∀s∈S,∃j∈I,s=L.dk j\/(L.kv j).ownBlock=some s)(A:Z S w w')(n:σ.nodes[i]?=some nd)(d:i∉I):iS E.bs L w' i nd:=by
 refine(h.qH i nd n).kept A ?_ ?_ ?_;intro D;obtain⟨j,q,e|e⟩:=l _ D;exact d (by rw[h.inj i j e];exact q);grind[zD,U9]
 all_goals grind[zD,U9,Ar,OM]
theorem Rel.ktJ(h:Rel E L σ w)(D:List Nat)(d:∀j∈D,(σ.db j).isSome=true)(n:∀s∈S,∃j∈D,s=L.dk j\/(L.kv j).ownBlock=some s)(q:Z S w w'):KT E.bs [139,141,280] w w':=by
 refine .fS q λs A _=>?_;obtain⟨j,l,e|e⟩:=n s A;have⟨e',he⟩:=Option.isSome_iff_exists.1 (d j l);rw[e];exact⟨⟨_,_,_,(h.qH j _ (N.fa he)).1.du,by simp⟩,h.bN j (N.dm he)⟩;have⟨e',he⟩:=Option.isSome_iff_exists.1 (d j l);have⟨c,m,h1⟩:=h.zD (N.dm he) e;exact⟨by grind,((h.qH j _ (N.fa he)).1.row.lt _ e).1⟩
theorem N.mQ(σ:N)(i:Nat)(e:sZ):(σ.dh i e).nodes.length=σ.nodes.length:=by simp[N.dh]
theorem N.eB(d:i<σ.nodes.length):(σ.dh i e).db i=some e:=by
 grind[N.db,N.dh]
theorem N.dY(d:j≠i):(σ.dh i e).db j=σ.db j:=by
 grind[N.db,N.dh]
theorem N.lh(h:(σ.dh i e).nodes[j]?=some nd):(j=i/\nd=.el e)\/(j≠i/\σ.nodes[j]?=some nd):=by
 by_cases d:i=j;simp[N.dh]at h;grind;simp[N.dh]at h;grind
theorem N.oJ(d:(σ.db i).isSome=true)(x:eG):(σ.dh i e).de x=σ.de x:=by
 cases x with
 |none=>rfl
 |some j=>
  show((σ.dh i e).db j).isSome=(σ.db j).isSome;grind[N.db,N.dh]
theorem N.Aq(d:(σ.db i).isSome=true)(x:eG):(σ.dh i e).jw x=σ.jw x:=by
 cases x with
 |none=>rfl
 |some j=>exact N.oJ d (some j)
theorem N.jE(d:(σ.db i).isSome=true)(k:Nd):(σ.dh i e).eZ k=σ.eZ k:=by
 have h:∀j,j≠i->(σ.dh i e).nodes[j]?=σ.nodes[j]?:=λj q=>by grind[N.dh]
 have⟨e0,he0⟩:=Option.isSome_iff_exists.1 d;have l:=N.fa he0;have n:(σ.dh i e).nodes[i]?=some (.el e):=by simp[N.dh,N.dm he0]
 cases k with
 |el j=>exact N.oJ d (some j)
 |tx j=>grind[N.eZ]
 |cm j=>grind[N.eZ]
 |dt j=>grind[N.eZ]
theorem Wf.dh(h:Wf σ)(d:(σ.db i).isSome=true)(I:σ.de e.ff=true)(H:∀k∈e.kids,σ.eZ k=true):Wf (σ.dh i e):=by
 refine⟨λx q=>by rw[N.Aq d];exact h.cC x q,λx q=>by rw[N.oJ d];exact h.act x q,by rw[N.oJ d];exact h.head,by rw[N.oJ d];exact h.form,?_,?_,?_⟩;intro j A n;rw[N.oJ d];by_cases l:j=i;subst l;rw[N.eB (N.jy d)]at n;grind;grind[ff,N.dY];intro j A n k D;rw[N.jE d];by_cases l:j=i;subst l;rw[N.eB (N.jy d)]at n;grind;grind[kids,N.dY];have:=N.oJ (e:=e) d (some 0);exact this.trans h.rU
theorem Rel.ahP(h:Rel E L σ w)(i:Nat)(d:cY)(hi:(σ.db i).isSome=true)(kt:KT E.bs [139,141,280] w w')(A:d.ownBlock=(L.kv i).ownBlock\/∀g,d.ownBlock=some g->w.heap.size<=g)
  (l:σ'.nodes.length=σ.nodes.length) (a0:∀j H,σ'.db j=some H->∃e,σ.db j=some e/\H.name=e.name) (a1:∀j,σ'.db j=none->σ.db j=none)
  (D:∀j nd,σ'.nodes[j]?=some nd->iS E.bs {L with kv:=λx=>if x=i then d else L.kv x} w' j nd) (wf:Wf σ')
  (s0:σ'.cC=σ.cC:=by rfl) (s9:σ'.act=σ.act:=by rfl) (s1:σ'.head=σ.head:=by rfl) (s2:σ'.form=σ.form:=by rfl) (s3:σ'.mode=σ.mode:=by rfl) (s4:σ'.kept=σ.kept:=by rfl) (s5:σ'.dv=σ.dv:=by rfl) (s6:σ'.fJ=σ.fJ:=by rfl) (s7:σ'.dk=σ.dk:=by rfl) (s8:σ'.behind=σ.behind:=by rfl) (sw:σ'.waiting=σ.waiting:=by rfl) (so:σ'.jI=σ.jI:=by rfl) (sp:σ'.dM=σ.dM:=by rfl) (sf:σ'.fresh=σ.fresh:=by rfl) (d1:σ'.nB=σ.nB:=by rfl) (d2:σ'.ox=σ.ox:=by rfl) (d3:σ'.mj=σ.mj:=by rfl):To E L σ' w w':=by
 have U:∀j g,j<σ.nodes.length->j≠i->d.ownBlock=some g->(L.kv j).ownBlock≠some g:=by
  intro j g hj q I n;rcases A with e|e;rw[e]at I;exact h.Ar i j g (N.jy (σ:=σ) (i:=i) hi) hj (wj q) I n;grind[zD]
 refine⟨{L with kv:=λx=>if x=i then d else L.kv x},rfl,h.Zb kt (λ_ _=>rfl) rfl rfl rfl D h.inj ?_ ?_ ?_ ?_ wf ?_ (Zl l) s0 s9 s1 s2 s3 s4 s5 s6 s7 s8 sw so sp d1 d2 d3,kt.fr (by decide)⟩
 all_goals grind[Ar,Ge,uq,Eg,zd]
def Rel.th(h:Rel E L σ w)(d:σ.db i=some e):El E.bs w (L.dk i) e.name (L.av i) (eM L.dk e.ff) (L.kv i) (e.kids.map (Nd.map L.dk)):=(h.qH i _ (N.fa d)).1
def Rel.uY(h:Rel E L σ w)(d:σ.db i=some e):yC w (L.av i) e.di:=(h.qH i _ (N.fa d)).2.1
theorem Rel.xN(h:Rel E L σ w)(d:σ.db i=some e):e.di.length<=4096:=(h.qH i _ (N.fa d)).2.2
theorem Rel.aav(h:Rel E L σ w){k:Nd}(d:σ.eZ k=true):zf w (Nd.map L.dk k):=by
 cases k with
 |el i=>
  have⟨e,he⟩:=Option.isSome_iff_exists.1 (d);exact⟨_,(h.th he).du⟩
 |tx i=>
  simp[N.eZ]at d;split at d;rename_i s l;exact⟨_,h.qH i _ l⟩;grind
 |cm i=>
  simp[N.eZ]at d;split at d;rename_i s l;exact⟨_,h.qH i _ l⟩;grind
 |dt i=>
  simp[N.eZ]at d;split at d;rename_i s l;exact⟨_,h.qH i _ l⟩;grind
theorem adG(d:∀i j,f i=f j->i=j)(j:Nat)(k:Nd):(Nd.map f k).de (f j)=k.de j:=by
 cases k with
 |el i=>
  grind[Nd.de,Nd.map]
 |tx i=>rfl
 |cm i=>rfl
 |dt i=>rfl
theorem Kk(d:∀i j,f i=f j->i=j)(ks:List Nd)(j:Nat):lO (ks.map (Nd.map f)) (Nd.de (f j))=lO ks (Nd.de j):=by
 have:(ks.map (Nd.map f)).findIdx (Nd.de (f j))=ks.findIdx (Nd.de j):=by
  rw[List.findIdx_map]
  congr 1
  funext k
  exact adG d j k
 grind[lO]
theorem Uk(h:Rel E L σ w)(l:σ.db i=some e):
  Calls prog 93 #[cW (L.dk i)] w λd w'=>d=dw (place (L.dk i) e.kids.length)/\Rel E L σ w'/\Z [] w w':=by
 refine(ajK E.bs _ _ _ _ _ _ w (h.th l)).mono ?_;grind[Rel.dB]
theorem Xq(h:Rel E L σ w)(n:σ.db i=some e)(q:e.ff=none):
  Calls prog 315 #[cW (L.dk i)] w λl w'=>l=dw (.tuple #[.agg #[.pointer none,G 0],.bool false])/\Rel E L σ w'/\Z [] w w':=by
 have d:=h.th n;rw[q]at d;refine(adl E.bs _ _ _ _ _ w d).mono ?_;grind[Rel.dB]
theorem Ul(h:Rel E L σ w){p:Nat}{n:sZ}(D:σ.db i=some e)(H:e.ff=some p)(d:σ.db p=some n):
  Calls prog 315 #[cW (L.dk i)] w λl w'=>l=dw (.tuple #[.agg #[cW (L.dk p),G (lO n.kids (Nd.de i))],.bool true])/\Rel E L σ w'/\Z [] w w':=by
 have q:=h.th D;rw[H]at q;refine(aaj E.bs _ _ _ _ _ _ _ _ _ _ _ w q (h.th d) ?_).mono ?_;grind[Rel.aav,Wf.kids,Rel.wf];rintro l w'⟨rfl,A⟩;exact⟨by rw[Kk h.inj],h.dB A,A⟩
theorem abl(h:Rel E L σ w)(d:σ.db i=some e)(A:kF e.name=false):
  Calls prog 269 #[cW (L.dk i)] w λl w'=>∃L',Ed σ.nodes.length L L'/\l=dw (cW (L'.dk σ.nodes.length))/\Rel E L' (σ.add (.el {name:=e.name,di:=e.di,ff:=none,kids:=[]})) w'/\Fr E.bs w w':=by
 have U:=h.uY d;have lI:=h.xN d;refine(Iz E.bs _ _ _ _ _ _ w (h.th d)).mono ?_;rintro l w'⟨rfl,hE,D⟩;have n:=N.dm d;refine⟨L.new _ w.heap.size (L.av i) (gq),λj I=>Loc.yc I,by simp[Loc.new],(h.add _ w.heap.size _ _ σ.fresh D (dr _) ?_ rfl (λl H=>by grind) ?_ ?_ (λq=>absurd rfl (q _)) ?_ (λg A=>h.ab i g n A)),.df D⟩
 .constructor<;>grind[Loc.pO,Loc.Au,Loc.Ia,Z.ownsRow]
 all_goals grind[Rel.uq,Rel.zd]
theorem map_eraseIdx(f:Nd->Nd):∀(ks:List Nd)(n:Nat),(ks.eraseIdx n).map f=(ks.map f).eraseIdx n
 |[],_=>rfl
 |_::_,0=>rfl
 |k::ks,n+1=>by simp[map_eraseIdx f ks n]
def ins(ks:List Nd)(n:Nat)(k:Nd):List Nd:=ks.take n++[k]++ks.drop n
theorem Dj(f:Nat->Nat)(ks:List Nd)(n:Nat)(k:Nd):(ins ks n k).map (Nd.map f)=(ks.map (Nd.map f)).take n++[Nd.map f k]++(ks.map (Nd.map f)).drop n:=by
 simp[ins]
theorem Dk{ks:List Nd}{n:Nat}{k x:Nd}(h:x∈ins ks n k):x∈ks\/x=k:=by
 rcases List.mem_append.1 h with h|h
 all_goals grind
theorem ae3(h:Rel E L σ w){n:Nat}{d:sZ}(D:σ.db i=some d)(U:σ.db j=some ej)(A:j≠i)(hn:n<=d.kids.length)(hl:d.kids.length<1048576):
  Calls prog 169 #[place (L.dk i) n,(Nd.el (L.dk j)).val] w λe w'=>e=nu/\To E L ((σ.dh i {d with kids:=ins d.kids n (.el j)}).dh j {ej with ff:=some i}) w w':=by
 have I:=N.dm D;have a5:=N.dm U;have l:(σ.db i).isSome=true:=by rw[D];rfl
 have a0:(σ.db j).isSome=true:=by rw[U];rfl
 have aI:=h.uY D;have lI:=h.xN D;have aJ:=h.uY U;have lJ:=h.xN U;refine(WX E.bs _ n _ _ _ _ _ _ _ _ _ _ _ w (h.th D) (h.th U) (λe=>A (h.inj _ _ e)) (λg hg=>h.Ar j i g a5 I A hg) (by grind) (by grind) h.bw).mono ?_;rintro e w'⟨rfl,⟨a3,E1,f1⟩,E2,hk⟩;have hS:∀s∈L.dk j::L.dk i::(L.kv i).ownBlock.toList,∃x∈[j,i],s=L.dk x\/(L.kv x).ownBlock=some s:=by
  intro s hs;rcases List.mem_cons.1 hs with rfl|hs;simp;rcases List.mem_cons.1 hs with rfl|hs;simp;grind
 have kt:=h.ktJ [j,i] (by grind) hS hk;have a4:((σ.dh i {d with kids:=ins d.kids n (.el j)}).db j).isSome=true:=by rw[N.dY A];exact a0
 have H:∀x e,x<σ.nodes.length->yC w (L.av x) e->yC w' (L.av x) e:=λx e _ ha=>kt.row ha (by decide);refine⟨rfl,h.ahP i a3 l kt f1 (by grind[N.dh]) ?_ ?_ ?_ ?_⟩;intro x e' q;by_cases a2:x=j;grind[N.eB,N.dh];grind[N.eB,N.dY];intro x q;by_cases a2:x=j;grind[N.eB,N.dh];grind[N.eB,N.dY];intro x nd q;rcases N.lh q with⟨rfl,rfl⟩|⟨a2,q⟩;grind[iS];rcases N.lh q with⟨rfl,rfl⟩|⟨a6,q⟩;show El E.bs w' _ _ _ _ (if x=x then a3 else L.kv x) _/\_;rw[dd rfl];refine⟨?_,H x _ I aI,lI⟩;rw[Dj];exact E1;have hN:=h.dy [j,i] (by grind) hS hk q (by grind);exact hN.ext (σ:=σ) (Ed.refl _ _) ((List.getElem?_eq_some_iff.1 q).1) rfl (cZ a6) (h.wfn q);refine(h.wf.dh (e:={d with kids:=ins d.kids n (.el j)}) l (h.wf.ff i d D) ?_).dh a4 ?_ ?_;intro k a1;rcases Dk a1 with a1|rfl;grind[Wf.kids,Rel.wf];exact a0;rw[N.oJ l];exact l;grind[N.jE,Wf.kids,Rel.wf]
theorem Um(h:Rel E L σ w){n:Nat}{d:sZ}{k:Nd}(l:σ.db i=some d)(hk:σ.eZ k=true)(a0:∀j,k≠ .el j)(hn:n<=d.kids.length)(hl:d.kids.length<1048576):
  Calls prog 169 #[place (L.dk i) n,(Nd.map L.dk k).val] w λe w'=>e=nu/\To E L (σ.dh i {d with kids:=ins d.kids n k}) w w':=by
 have U:=N.dm l;have aI:=h.uY l;have lI:=h.xN l;refine(aeB E.bs _ n _ _ _ _ _ (Nd.map L.dk k) w (h.th l) (by grind) (by grind) h.bw (λj e=>by cases k<;>simp[Nd.map]at e;grind)).mono ?_;rintro e w'⟨rfl,⟨D,E1,I⟩,q⟩;have kt:=h.ktJ [i] (by grind) (by simp) q;refine⟨rfl,h.ahP i D (by rw[l];rfl) kt I (by grind[N.dh]) ?_ ?_ ?_ ?_⟩;grind[N.eB,N.dY];grind[N.eB,N.dY];intro x nd A;rcases N.lh A with⟨rfl,rfl⟩|⟨H,A⟩;show El E.bs w' _ _ _ _ (if x=x then D else L.kv x) _/\_;grind[Dj,KT.row];exact(h.dy [i] (by grind) (by simp) q A (by grind)).ext (Ed.refl _ _) ((List.getElem?_eq_some_iff.1 A).1) rfl (cZ H) (h.wfn A);grind[Wf.dh,Rel.wf,Wf.ff,Dk,Wf.kids]
def DW(h:Rel E L σ w)(l:σ.db j=some ej)(n:ej.ff=none):
  Calls prog 368 #[cW (L.dk j)] w λe w'=>e=nu/\w'=w:=by
 have d:=h.th l;rw[n]at d;exact Xs E.bs _ _ _ _ _ w d
theorem abp(h:Rel E L σ w){p n:Nat}{d:sZ}(H:σ.db j=some ej)(I:ej.ff=some p)(D:σ.db p=some d)(q:j≠p)(hn:n<d.kids.length)(a5:lO d.kids (Nd.de j)=(n:Int)):
  Calls prog 368 #[cW (L.dk j)] w λe w'=>e=nu/\To E L ((σ.dh p {d with kids:=d.kids.eraseIdx n}).dh j {ej with ff:=none}) w w':=by
 have a3:=N.dm D;have a2:=N.dm H;have U:(σ.db p).isSome=true:=by rw[D];rfl
 have hE:=h.th H;rw[I]at hE;have aP:=h.uY D;have lP:=h.xN D;have aJ:=h.uY H;have lJ:=h.xN H;refine(Gz E.bs _ _ n _ _ _ _ _ _ _ _ _ w hE (h.th D) ?_ (λe=>q (h.inj _ _ e)) (λg hg=>h.Ar j p g a2 a3 q hg) (by grind) (by rw[Kk h.inj];omega)).mono ?_;grind[Rel.aav,Wf.kids,Rel.wf];rintro e w'⟨rfl,⟨A,E1,f1⟩,E2,hk⟩;have hS:∀s∈L.dk j::L.dk p::(L.kv p).ownBlock.toList,∃x∈[j,p],s=L.dk x\/(L.kv x).ownBlock=some s:=by
  intro s hs;rcases List.mem_cons.1 hs with rfl|hs;simp;rcases List.mem_cons.1 hs with rfl|hs;simp;grind
 have kt:=h.ktJ [j,p] (by grind) hS hk;have a1:((σ.dh p {d with kids:=d.kids.eraseIdx n}).db j).isSome=true:=by rw[N.dY q];exact(by rw[H];rfl)
 refine⟨rfl,h.ahP p A U kt (.inl f1) (by grind[N.dh]) ?_ ?_ ?_ ?_⟩;intro x e' l;by_cases a0:x=j;grind[N.eB,N.dh];grind[N.eB,N.dY];intro x l;by_cases a0:x=j;grind[N.eB,N.dh];grind[N.eB,N.dY];intro x nd l;rcases N.lh l with⟨rfl,rfl⟩|⟨a0,l⟩;show El E.bs w' _ _ _ _ (if x=p then A else L.kv x) _/\_;grind[KT.row];rcases N.lh l with⟨rfl,rfl⟩|⟨a4,l⟩;show El E.bs w' _ _ _ _ (if x=x then A else L.kv x) _/\_;grind[map_eraseIdx,KT.row];have hN:=h.dy [j,p] (by grind) hS hk l (by grind);exact hN.ext (σ:=σ) (Ed.refl _ _) ((List.getElem?_eq_some_iff.1 l).1) rfl (cZ a4) (h.wfn l)
 .refine(h.wf.dh (e:={d with kids:=d.kids.eraseIdx n}) U (h.wf.ff p d D) ?_).dh a1 rfl ?_
  all_goals grind[Wf.kids,Rel.wf,List.mem_of_mem_eraseIdx,N.jE]
end
end Go.Proofs.YthnijkkcimlnjaaGreatDoor
